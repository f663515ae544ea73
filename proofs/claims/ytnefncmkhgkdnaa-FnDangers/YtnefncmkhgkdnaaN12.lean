/- Who is ahead of whom: others that are ready, and ReadyDanger of the program, whatever Danger answers. -/
import Derived.Test.YtnefncmkhgkdnaaN11
import Derived.Test.YtnefncmkhgkdnaaN9
import Derived.Test.YtnefncmkhgkdnaaC2
namespace Go.Proofs.Ytnefncmkhgkdnaa
open Go.RowKit
open KM
attribute [local go_sem ↓] Go.wp_at_zero Go.wp_at_succ

theorem rowF2 (w : World) (q r : Nat) : GRow encF (w.alloc (.cells #[.func (.func q) #[] #[], .func (.func r) #[] #[]] 101)) (some ⟨w.heap.size, 0, none⟩) [q, r] := fun _ =>
  ⟨w.heap.size, 0, rfl, by simp, fun j hj i hi => by
    obtain rfl : i = 0 := by simpa [encF] using hi
    have : j = 0 ∨ j = 1 := by simp at hj; omega
    rcases this with rfl | rfl <;> simp [encF]⟩
/-- those that are ready -/
def readyL (l : List Tx) : List Tx := l.filter readyB
/-- others than t that are ready -/
def othL (t : Tx) (l : List Tx) : List Tx := (readyL l).filter fun x => !(x.id == t.id)
def oth (t : Tx) (xs : List Ta) : List Ta := (xs.filter (inSt [2])).filter (keepT t)
/-- what ReadyDanger answers beside Danger's answer -/
def rdI (dg : Bool) (t : Tx) (l : List Tx) : Bool := dg || (intoB t l && (othL t l).any (ahB t)) || leadB [ahB, ahB] t (othL t l)
theorem txs_ready (xs : List Ta) : txs (xs.filter (inSt [2])) = readyL (txs xs) := by
  rw [show txs (xs.filter (inSt [2])) = (txs xs).filter (fun u : Tx => inS [2] u.st) from txs_filter (fun u : Tx => inS [2] u.st) xs]
  unfold readyL
  congr 1
  funext x
  simp [inS, readyB]
theorem txs_keep (t : Tx) (zs : List Ta) : txs (zs.filter (keepT t)) = (txs zs).filter fun x => !(x.id == t.id) := txs_filter (fun x => !(x.id == t.id)) zs
theorem txs_oth (t : Tx) (xs : List Ta) : txs (oth t xs) = othL t (txs xs) := by unfold oth othL; rw [txs_keep, txs_ready]
theorem oth_mem {t : Tx} {xs : List Ta} {x : Ta} (h : x ∈ oth t xs) : x ∈ xs := (List.mem_filter.1 (List.mem_filter.1 h).1).1
theorem oth_len (t : Tx) (xs : List Ta) : (oth t xs).length ≤ xs.length := Nat.le_trans (List.length_filter_le _ _) (List.length_filter_le _ _)
theorem oth_fit {t : Tx} {xs : List Ta} (h : LFit (txs xs)) : LFit (txs (oth t xs)) := lfit_filter (fun x => !(x.id == t.id)) (lfit_filter (fun x => inS [2] x.st) h)
set_option maxRecDepth 100000 in
set_option maxHeartbeats 2000000 in
theorem delnil (t : Tx) (ra wa : Option Addr) (rc wc : Nat) (tb : Nat) (w : World) (hb : Bx w tb [.int .i64 t.id, .int .i64 t.st, .int .i64 t.snap, .int .i64 t.cs, .slice ra t.rs.length rc, .slice wa t.ws.length wc, .bool t.out, .string t.nm]) :
    Calls Try.prog 83 #[.slice none 0 0, .func (.func 84) #[] #[.pointer (some ⟨tb, 0, none⟩)]] w fun e w' => e = .returned (.slice none 0 0) ∧ Below w.heap.size w w' := by
  have H := hide (idxD t ra wa rc wc [] none 0 0 rfl (by omega) tb w (GRow.nil _ _) hb)
  clear hb
  go_enter Try.func83, Try.ntmps83
  go_wp2_with fail
  refine H.out.mono ?_
  rintro e w1 ⟨he, hb1⟩
  rcases he with ⟨rfl, -⟩ | ⟨k, hk, -⟩
  · go_wp2
    go_ret
    exact ⟨rfl, hb1⟩
  · cases hk

set_option maxRecDepth 100000 in
set_option maxHeartbeats 2000000 in
theorem oth50 (t : Tx) (ra wa : Option Addr) (rc wc : Nat) (xs : List Ta) (a : Option Addr) (c n : Nat) (hx : n = xs.length) (hn : n ≤ 10000000) (w : World) (hp : TRows w a xs) :
    Calls Try.prog 50 #[.agg #[.int .i64 t.id, .int .i64 t.st, .int .i64 t.snap, .int .i64 t.cs, .slice ra t.rs.length rc, .slice wa t.ws.length wc, .bool t.out, .string t.nm], .slice a n c] w fun e w' => ∃ (a1 : Option Addr) (c1 n1 : Nat), e = .returned (.slice a1 n1 c1) ∧ n1 = (oth t xs).length ∧ GOwn encT 27 w' w.heap.size (.slice a1 n1 c1) (oth t xs) ∧ Below w.heap.size w w' := by
  have HB1 : Hid (Below w.heap.size w ((w.alloc (.cells #[.int .i64 t.id, .int .i64 t.st, .int .i64 t.snap, .int .i64 t.cs, .slice ra t.rs.length rc, .slice wa t.ws.length wc, .bool t.out, .string t.nm] 27)).alloc (.cells #[.int .i64 2] 3))) := ((belowRefl w).alloc (Nat.le_refl _) _).alloc (by simp) _
  have BT1 : Hid (Bx ((w.alloc (.cells #[.int .i64 t.id, .int .i64 t.st, .int .i64 t.snap, .int .i64 t.cs, .slice ra t.rs.length rc, .slice wa t.ws.length wc, .bool t.out, .string t.nm] 27)).alloc (.cells #[.int .i64 2] 3)) w.heap.size [.int .i64 t.id, .int .i64 t.st, .int .i64 t.snap, .int .i64 t.cs, .slice ra t.rs.length rc, .slice wa t.ws.length wc, .bool t.out, .string t.nm]) := (Bx.new w [.int .i64 t.id, .int .i64 t.st, .int .i64 t.snap, .int .i64 t.cs, .slice ra t.rs.length rc, .slice wa t.ws.length wc, .bool t.out, .string t.nm] 27).alloc _
  have HX : Hid (n = xs.length) := hx
  have HS : Hid ((w.alloc (.cells #[.int .i64 t.id, .int .i64 t.st, .int .i64 t.snap, .int .i64 t.cs, .slice ra t.rs.length rc, .slice wa t.ws.length wc, .bool t.out, .string t.nm] 27)).heap.size = w.heap.size + 1) := by show _ = _; simp
  have H := hide (inSt49 xs a c n hx hn [2] (some ⟨(w.alloc (.cells #[.int .i64 t.id, .int .i64 t.st, .int .i64 t.snap, .int .i64 t.cs, .slice ra t.rs.length rc, .slice wa t.ws.length wc, .bool t.out, .string t.nm] 27)).heap.size, 0, none⟩) 1 (by simp) ((w.alloc (.cells #[.int .i64 t.id, .int .i64 t.st, .int .i64 t.snap, .int .i64 t.cs, .slice ra t.rs.length rc, .slice wa t.ws.length wc, .bool t.out, .string t.nm] 27)).alloc (.cells #[.int .i64 2] 3)) (hp.below HB1.out) (rowI1 (w.alloc (.cells #[.int .i64 t.id, .int .i64 t.st, .int .i64 t.snap, .int .i64 t.cs, .slice ra t.rs.length rc, .slice wa t.ws.length wc, .bool t.out, .string t.nm] 27)) 2))
  rw [HS.out] at H
  have hbs : w.heap.size < ((w.alloc (.cells #[.int .i64 t.id, .int .i64 t.st, .int .i64 t.snap, .int .i64 t.cs, .slice ra t.rs.length rc, .slice wa t.ws.length wc, .bool t.out, .string t.nm] 27)).alloc (.cells #[.int .i64 2] 3)).heap.size := by simp; omega
  obtain ⟨bs, hbe⟩ : ∃ bs, bs = ((w.alloc (.cells #[.int .i64 t.id, .int .i64 t.st, .int .i64 t.snap, .int .i64 t.cs, .slice ra t.rs.length rc, .slice wa t.ws.length wc, .bool t.out, .string t.nm] 27)).alloc (.cells #[.int .i64 2] 3)).heap.size := ⟨_, rfl⟩
  have BS : Hid (((w.alloc (.cells #[.int .i64 t.id, .int .i64 t.st, .int .i64 t.snap, .int .i64 t.cs, .slice ra t.rs.length rc, .slice wa t.ws.length wc, .bool t.out, .string t.nm] 27)).alloc (.cells #[.int .i64 2] 3)).heap.size = bs) := hbe.symm
  rw [← hbe] at hbs
  clear hbe
  clear hp hx HS
  go_enter Try.func50, Try.ntmps50
  go_wp2_with fail
  refine H.out.mono ?_
  rintro e w3 ⟨a1, c1, n1, rfl, hn1, ho, hb2⟩
  have HBx : Hid (Below w.heap.size w w3) := HB1.out.trans (hb2.mono HB1.out.size)
  have BTx : Hid (Bx w3 w.heap.size [.int .i64 t.id, .int .i64 t.st, .int .i64 t.snap, .int .i64 t.cs, .slice ra t.rs.length rc, .slice wa t.ws.length wc, .bool t.out, .string t.nm]) := BT1.out.below hb2
  have HN1 : Hid (n1 = (xs.filter (inSt [2])).length) := hn1
  have ROx : Hid (GOwn encT 27 w3 bs (.slice a1 n1 c1) (xs.filter (inSt [2]))) := by have h := ho; rw [BS.out] at h; exact h
  clear hb2 ho hn1 H BT1 HB1 BS
  rcases gshape ROx.out with ⟨e1, e2⟩ | ⟨g, cap, e1⟩
  · have hz : n1 = 0 := by have h := HN1.out; rw [e2] at h; simpa using h
    have ha : a1 = none ∧ c1 = 0 := by cases e1; exact ⟨rfl, rfl⟩
    obtain ⟨rfl, rfl⟩ := ha
    subst hz
    have E2 : Hid (oth t xs = []) := by show _ = _; unfold oth; rw [e2]; rfl
    clear e1 e2
    go_wp2_with fail
    refine (delnil t ra wa rc wc w.heap.size _ BTx.out).mono ?_
    rintro e w5 ⟨rfl, hb5⟩
    have HB5 : Hid (Below w.heap.size w w5) := HBx.out.trans (hb5.mono HBx.out.size)
    clear hb5
    go_wp2
    go_ret
    exact ⟨none, 0, 0, rfl, by rw [E2.out]; rfl, by rw [E2.out]; exact GOwn.nil _ _, HB5.out⟩
  · have hz : a1 = some ⟨g, 0, none⟩ := by cases e1; rfl
    subst hz
    have hgb : bs ≤ g := (World.ownsRow.lt (show w3.ownsRow bs 27 8 (.slice (some ⟨g, 0, none⟩) (xs.filter (inSt [2])).length c1) (xs.filter (inSt [2])).length (encT.cells (xs.filter (inSt [2]))) by have h := ROx.out; rw [HN1.out] at h; exact h) g rfl).1
    have HD5 := hide (del53 t ra wa rc wc (xs.filter (inSt [2])) g c1 n1 bs w.heap.size HN1.out (by rw [HN1.out]; exact Nat.le_trans (List.length_filter_le _ _) (by rw [← HX.out]; exact hn)) w3 ROx.out BTx.out (by omega))
    clear e1
    go_wp2_with fail
    refine HD5.out.mono ?_
    rintro e w5 ⟨n5, rfl, hn5, ho5, hg5⟩
    have hlow : Below w.heap.size w3 w5 := grown_low hg5 (fun b e => by cases e; omega) HBx.out.size
    have HB5 : Hid (Below w.heap.size w w5) := HBx.out.trans hlow
    have HN5 : Hid (n5 = (oth t xs).length) := hn5
    have RO5 : Hid (GOwn encT 27 w5 w.heap.size (.slice (some ⟨g, 0, none⟩) n5 c1) (oth t xs)) := GOwn.mono ho5 (by omega)
    clear hlow hg5 ho5 hn5 HD5
    go_wp2
    go_ret
    exact ⟨_, _, _, rfl, HN5.out, RO5.out, HB5.out⟩

set_option maxRecDepth 100000 in
set_option maxHeartbeats 8000000 in
theorem iready (dg : Bool) (t : Tx) (ra wa : Option Addr) (rc wc : Nat) (xs : List Ta) (a : Option Addr) (c n : Nat) (hx : n = xs.length) (hn : n ≤ 10000000) (ft : TFit t) (fx : LFit (txs xs)) (w : World) (ht : TRow w t ra wa) (hp : TRows w a xs)
    (hd : ∀ W : World, Below w.heap.size w W → Calls Try.prog 14 #[.agg #[.int .i64 t.id, .int .i64 t.st, .int .i64 t.snap, .int .i64 t.cs, .slice ra t.rs.length rc, .slice wa t.ws.length wc, .bool t.out, .string t.nm], .slice a n c] W fun e w' => e = .returned (.bool dg) ∧ Below W.heap.size W w') :
    Calls Try.prog 16 #[.agg #[.int .i64 t.id, .int .i64 t.st, .int .i64 t.snap, .int .i64 t.cs, .slice ra t.rs.length rc, .slice wa t.ws.length wc, .bool t.out, .string t.nm], .slice a n c] w fun e w' => e = .returned (.bool (rdI dg t (txs xs))) ∧ Below w.heap.size w w' := by
  have HB0 : Hid (Below w.heap.size w (w.alloc (.cells #[.int .i64 t.id, .int .i64 t.st, .int .i64 t.snap, .int .i64 t.cs, .slice ra t.rs.length rc, .slice wa t.ws.length wc, .bool t.out, .string t.nm] 27))) := (belowRefl w).alloc (Nat.le_refl _) _
  have BT0 : Hid (Bx (w.alloc (.cells #[.int .i64 t.id, .int .i64 t.st, .int .i64 t.snap, .int .i64 t.cs, .slice ra t.rs.length rc, .slice wa t.ws.length wc, .bool t.out, .string t.nm] 27)) w.heap.size [.int .i64 t.id, .int .i64 t.st, .int .i64 t.snap, .int .i64 t.cs, .slice ra t.rs.length rc, .slice wa t.ws.length wc, .bool t.out, .string t.nm]) := Bx.new w [.int .i64 t.id, .int .i64 t.st, .int .i64 t.snap, .int .i64 t.cs, .slice ra t.rs.length rc, .slice wa t.ws.length wc, .bool t.out, .string t.nm] 27
  have HT : Hid (TRow w t ra wa) := ht
  have HP : Hid (TRows w a xs) := hp
  have FT : Hid (TFit t) := ft
  have FX : Hid (LFit (txs xs)) := fx
  have HX : Hid (n = xs.length) := hx
  have CD : Hid (∀ W : World, Below w.heap.size w W → Calls Try.prog 14 #[.agg #[.int .i64 t.id, .int .i64 t.st, .int .i64 t.snap, .int .i64 t.cs, .slice ra t.rs.length rc, .slice wa t.ws.length wc, .bool t.out, .string t.nm], .slice a n c] W fun e w' => e = .returned (.bool dg) ∧ Below W.heap.size W w') := hd
  have CI : Hid (∀ W : World, Below w.heap.size w W → _) := fun W h => iinof t ra wa rc wc xs a c n HX.out hn FT.out FX.out W (HT.out.below h) (HP.out.below h)
  obtain ⟨ys, hys⟩ : ∃ ys, ys = oth t xs := ⟨_, rfl⟩
  have HY : Hid (∀ x ∈ ys, x ∈ xs) := fun x h => oth_mem (by rw [← hys]; exact h)
  have hlz : ys.length ≤ 10000000 := by rw [hys]; exact Nat.le_trans (oth_len t xs) (by rw [← HX.out]; exact hn)
  have fz : LFit (txs ys) := by rw [hys]; exact oth_fit fx
  have EY : Hid (txs ys = othL t (txs xs)) := by show _ = _; rw [hys]; exact txs_oth t xs
  have CS : Hid (∀ W : World, Below w.heap.size w W → Calls Try.prog 50 #[.agg #[.int .i64 t.id, .int .i64 t.st, .int .i64 t.snap, .int .i64 t.cs, .slice ra t.rs.length rc, .slice wa t.ws.length wc, .bool t.out, .string t.nm], .slice a n c] W fun e w' => ∃ (a1 : Option Addr) (c1 n1 : Nat), e = .returned (.slice a1 n1 c1) ∧ n1 = ys.length ∧ GOwn encT 27 w' W.heap.size (.slice a1 n1 c1) ys ∧ Below W.heap.size W w') := fun W h1 => by rw [hys]; exact oth50 t ra wa rc wc xs a c n HX.out hn W (HP.out.below h1)
  clear hys
  have CL1 : Hid (∀ (W : World) (ca ya : Option Addr) (yc n1 : Nat), Below w.heap.size w W → GRow encF W ca [47] → n1 = ys.length → GRow encT W ya ys → Calls Try.prog 44 #[.agg #[.int .i64 t.id, .int .i64 t.st, .int .i64 t.snap, .int .i64 t.cs, .slice ra t.rs.length rc, .slice wa t.ws.length wc, .bool t.out, .string t.nm], .slice ca 1 1, .slice ya n1 yc] W fun e w' => e = .returned (.bool ((othL t (txs xs)).any (ahB t))) ∧ Below W.heap.size W w') := fun W ca ya yc n1 h1 h2 h3 h4 => by
    have h := lead_of 47 ahB ask50 [] [] ys ya yc n1 h3 (by rw [h3]; omega) fz (lead_nil _ ya yc n1) t ra wa rc wc ca 1 1 W rfl (Nat.le_refl _) FT.out (HT.out.below h1) ⟨h4, fun x hx => ((HP.out.each x (HY.out x hx)).below h1)⟩ h2
    rw [lead1, EY.out] at h
    exact h
  have CL2 : Hid (∀ (W : World) (ca ya : Option Addr) (yc n1 : Nat), Below w.heap.size w W → GRow encF W ca [47, 47] → n1 = ys.length → GRow encT W ya ys → Calls Try.prog 44 #[.agg #[.int .i64 t.id, .int .i64 t.st, .int .i64 t.snap, .int .i64 t.cs, .slice ra t.rs.length rc, .slice wa t.ws.length wc, .bool t.out, .string t.nm], .slice ca 2 2, .slice ya n1 yc] W fun e w' => e = .returned (.bool (leadB [ahB, ahB] t (othL t (txs xs)))) ∧ Below W.heap.size W w') := fun W ca ya yc n1 h1 h2 h3 h4 => by
    have hl2 : n1 ≤ 100000000 := by rw [h3]; omega
    have h := lead_of 47 ahB ask50 [47] [ahB] _ ya yc n1 h3 hl2 fz (lead_of 47 ahB ask50 [] [] _ ya yc n1 h3 hl2 fz (lead_nil _ ya yc n1)) t ra wa rc wc ca 2 2 W rfl (Nat.le_refl _) FT.out (HT.out.below h1) ⟨h4, fun x hx => ((HP.out.each x (HY.out x hx)).below h1)⟩ h2
    rw [EY.out] at h
    exact h
  clear ht hp ft fx hx hd fz hlz EY HY
  cases dg
  · obtain ⟨bi, hbi⟩ : ∃ bi, bi = intoB t (txs xs) := ⟨_, rfl⟩
    obtain ⟨r1, hr1⟩ : ∃ r1, r1 = (othL t (txs xs)).any (ahB t) := ⟨_, rfl⟩
    obtain ⟨r2, hr2⟩ : ∃ r2, r2 = leadB [ahB, ahB] t (othL t (txs xs)) := ⟨_, rfl⟩
    have HRD : Hid (rdI false t (txs xs) = ((bi && r1) || r2)) := by show _ = _; unfold rdI; rw [← hbi, ← hr1, ← hr2]; simp
    rw [← hbi] at CI
    rw [← hr1] at CL1
    rw [← hr2] at CL2
    clear hbi hr1 hr2
    have y0 := BT0.out.c0
    have y1 := BT0.out.c1
    have y2 := BT0.out.c2
    have y3 := BT0.out.c3
    have y4 := BT0.out.c4
    have y5 := BT0.out.c5
    have y6 := BT0.out.c6
    have y7 := BT0.out.c7
    go_enter Try.func16, Try.ntmps16
    go_wp2_with fail
    refine (CD.out _ HB0.out).mono ?_
    rintro e w1 ⟨rfl, hb1⟩
    have HB1 : Hid (Below w.heap.size w w1) := HB0.out.trans (hb1.mono HB0.out.size)
    have BT1 : Hid (Bx w1 w.heap.size [.int .i64 t.id, .int .i64 t.st, .int .i64 t.snap, .int .i64 t.cs, .slice ra t.rs.length rc, .slice wa t.ws.length wc, .bool t.out, .string t.nm]) := BT0.out.below hb1
    clear y0 y1 y2 y3 y4 y5 y6 y7 hb1 CD
    have y0 := BT1.out.c0
    have y1 := BT1.out.c1
    have y2 := BT1.out.c2
    have y3 := BT1.out.c3
    have y4 := BT1.out.c4
    have y5 := BT1.out.c5
    have y6 := BT1.out.c6
    have y7 := BT1.out.c7
    go_wp2_with fail
    refine (CS.out _ HB1.out).mono ?_
    rintro e w2 ⟨a1, c1, n1, rfl, hn1, ho, hb2⟩
    have HN1 : Hid (n1 = ys.length) := hn1
    have HB2 : Hid (Below w.heap.size w w2) := HB1.out.trans (hb2.mono HB1.out.size)
    have BT2 : Hid (Bx w2 w.heap.size [.int .i64 t.id, .int .i64 t.st, .int .i64 t.snap, .int .i64 t.cs, .slice ra t.rs.length rc, .slice wa t.ws.length wc, .bool t.out, .string t.nm]) := BT1.out.below hb2
    have RO2 : Hid (GRow encT w2 a1 ys) := grow_n hn1 ho
    clear y0 y1 y2 y3 y4 y5 y6 y7 hb2 ho hn1 BT1 HB1 CS
    have y0 := BT2.out.c0
    have y1 := BT2.out.c1
    have y2 := BT2.out.c2
    have y3 := BT2.out.c3
    have y4 := BT2.out.c4
    have y5 := BT2.out.c5
    have y6 := BT2.out.c6
    have y7 := BT2.out.c7
    go_wp2_with fail
    refine (CI.out _ HB2.out).mono ?_
    rintro e w3 ⟨rfl, hb3⟩
    have HBx : Hid (Below w.heap.size w w3) := HB2.out.trans (hb3.mono HB2.out.size)
    have BTx : Hid (Bx w3 w.heap.size [.int .i64 t.id, .int .i64 t.st, .int .i64 t.snap, .int .i64 t.cs, .slice ra t.rs.length rc, .slice wa t.ws.length wc, .bool t.out, .string t.nm]) := BT2.out.below hb3
    have ROx : Hid (GRow encT w3 a1 ys) := RO2.out.below hb3
    clear y0 y1 y2 y3 y4 y5 y6 y7 hb3 BT2 HB2 RO2 CI
    cases bi
    · have HRES : Hid (r2 = rdI false t (txs xs)) := by show _ = _; rw [HRD.out]; simp
      have hba : Below w3.heap.size w3 (w3.alloc (.cells #[.func (.func 47) #[] #[], .func (.func 47) #[] #[]] 101)) := (belowRefl w3).alloc (Nat.le_refl _) _
      have HBl : Hid (Below w.heap.size w (w3.alloc (.cells #[.func (.func 47) #[] #[], .func (.func 47) #[] #[]] 101))) := HBx.out.trans (hba.mono HBx.out.size)
      have HLd := hide (CL2.out (w3.alloc (.cells #[.func (.func 47) #[] #[], .func (.func 47) #[] #[]] 101)) (some ⟨w3.heap.size, 0, none⟩) a1 c1 n1 HBl.out (rowF2 w3 47 47) HN1.out (ROx.out.below hba))
      have y0 := BTx.out.c0
      have y1 := BTx.out.c1
      have y2 := BTx.out.c2
      have y3 := BTx.out.c3
      have y4 := BTx.out.c4
      have y5 := BTx.out.c5
      have y6 := BTx.out.c6
      have y7 := BTx.out.c7
      clear hba
      go_wp2_with fail
      refine HLd.out.mono ?_
      rintro e w6 ⟨rfl, hb6⟩
      have HB6 : Hid (Below w.heap.size w w6) := HBl.out.trans (hb6.mono HBl.out.size)
      go_wp2
      go_ret
      exact ⟨ret_bool HRES.out, HB6.out⟩
    · have hba : Below w3.heap.size w3 (w3.alloc (.cells #[.func (.func 47) #[] #[]] 101)) := (belowRefl w3).alloc (Nat.le_refl _) _
      have HBl : Hid (Below w.heap.size w (w3.alloc (.cells #[.func (.func 47) #[] #[]] 101))) := HBx.out.trans (hba.mono HBx.out.size)
      have HL1 := hide (CL1.out _ (some ⟨w3.heap.size, 0, none⟩) a1 c1 n1 HBl.out (rowF1 w3 47) HN1.out (ROx.out.below hba))
      have BTl := hide (BTx.out.below hba)
      have ROl := hide (ROx.out.below hba)
      have y0 := BTx.out.c0
      have y1 := BTx.out.c1
      have y2 := BTx.out.c2
      have y3 := BTx.out.c3
      have y4 := BTx.out.c4
      have y5 := BTx.out.c5
      have y6 := BTx.out.c6
      have y7 := BTx.out.c7
      clear hba CL1
      go_wp2_with fail
      refine HL1.out.mono ?_
      rintro e w4 ⟨rfl, hb4⟩
      have HB4 : Hid (Below w.heap.size w w4) := HBl.out.trans (hb4.mono HBl.out.size)
      replace BTx : Hid (Bx w4 w.heap.size [.int .i64 t.id, .int .i64 t.st, .int .i64 t.snap, .int .i64 t.cs, .slice ra t.rs.length rc, .slice wa t.ws.length wc, .bool t.out, .string t.nm]) := BTl.out.below hb4
      replace ROx : Hid (GRow encT w4 a1 ys) := ROl.out.below hb4
      replace HBx := HB4
      clear y0 y1 y2 y3 y4 y5 y6 y7 hb4 BTl ROl HBl HB4 HL1
      cases r1
      · have HRES : Hid (r2 = rdI false t (txs xs)) := by show _ = _; rw [HRD.out]; simp
        have hba : Below w4.heap.size w4 (w4.alloc (.cells #[.func (.func 47) #[] #[], .func (.func 47) #[] #[]] 101)) := (belowRefl w4).alloc (Nat.le_refl _) _
        have HBl : Hid (Below w.heap.size w (w4.alloc (.cells #[.func (.func 47) #[] #[], .func (.func 47) #[] #[]] 101))) := HBx.out.trans (hba.mono HBx.out.size)
        have HLd := hide (CL2.out (w4.alloc (.cells #[.func (.func 47) #[] #[], .func (.func 47) #[] #[]] 101)) (some ⟨w4.heap.size, 0, none⟩) a1 c1 n1 HBl.out (rowF2 w4 47 47) HN1.out (ROx.out.below hba))
        have y0 := BTx.out.c0
        have y1 := BTx.out.c1
        have y2 := BTx.out.c2
        have y3 := BTx.out.c3
        have y4 := BTx.out.c4
        have y5 := BTx.out.c5
        have y6 := BTx.out.c6
        have y7 := BTx.out.c7
        clear hba
        go_wp2_with fail
        refine HLd.out.mono ?_
        rintro e w6 ⟨rfl, hb6⟩
        have HB6 : Hid (Below w.heap.size w w6) := HBl.out.trans (hb6.mono HBl.out.size)
        go_wp2
        go_ret
        exact ⟨ret_bool HRES.out, HB6.out⟩
      · have HRES : Hid (rdI false t (txs xs) = true) := by show _ = _; rw [HRD.out]; simp
        go_wp2
        go_ret
        exact ⟨ret_bool HRES.out.symm, HBx.out⟩
  · have HRD : Hid (rdI true t (txs xs) = true) := by show _ = _; unfold rdI; simp
    have y0 := BT0.out.c0
    have y1 := BT0.out.c1
    have y2 := BT0.out.c2
    have y3 := BT0.out.c3
    have y4 := BT0.out.c4
    have y5 := BT0.out.c5
    have y6 := BT0.out.c6
    have y7 := BT0.out.c7
    go_enter Try.func16, Try.ntmps16
    go_wp2_with fail
    refine (CD.out _ HB0.out).mono ?_
    rintro e w1 ⟨rfl, hb1⟩
    have HB1 : Hid (Below w.heap.size w w1) := HB0.out.trans (hb1.mono HB0.out.size)
    go_wp2
    go_ret
    exact ⟨ret_bool HRD.out.symm, HB1.out⟩


end Go.Proofs.Ytnefncmkhgkdnaa
