/- Who is ahead of whom: Danger of the program. -/
import Derived.Test.YtjeicgibddfifaaPc25
import Derived.Test.YtjeicgibddfifaaPc15
import Derived.Deep.RegionHeld3
import Derived.Deep.CutRange
namespace Go.Proofs.Ytjeicgibddfifaa
open Go.RowKit
open KM
attribute [local go_sem ↓] Go.wp_at_zero Go.wp_at_succ

def LEach (ts : List Tx) : Prop := ∀ t ∈ ts, TFit t
set_option maxRecDepth 100000 in
set_option maxHeartbeats 2000000 in
theorem lead_consE (q : Nat) (Q : Tx → Tx → Bool) (hA : AskE q Q) (qs : List Nat) (Qs : List (Tx → Tx → Bool)) (xs : List Ta) (a : Option Addr) (c n : Nat) (hx : n = xs.length) (hn : n ≤ 100000000) (fx : LEach (txs xs)) (ih : Leads qs Qs xs a c n) :
  ∀ (t : Tx) (ra wa : Option Addr) (rc wc : Nat) (ca : Option Addr) (cc m : Nat) (w : World), m = qs.length → m ≤ cc → TFit t → TRow w t ra wa → TRows w a xs → GRow encF w ca (q :: qs) →
  Calls Try.prog 72 #[.agg #[.int .i64 t.id, .int .i64 t.st, .int .i64 t.snap, .int .i64 t.cs, .slice ra t.rs.length rc, .slice wa t.ws.length wc, .bool t.out, .string t.nm], .slice ca (m + 1) (cc + 1), .slice a n c] w fun e w' => e = .returned (.bool (leadB (Q :: Qs) t (txs xs))) ∧ Below w.heap.size w w' := by
 intro t ra wa rc wc ca cc m w hm hmc ft ht hp hq
 have hq0 := hq
 obtain ⟨cb, co, rfl, hcl, -⟩ := hq0 (by simp)
 have HB3 : Hid (Below w.heap.size w (((w.alloc (.cells #[.int .i64 t.id, .int .i64 t.st, .int .i64 t.snap, .int .i64 t.cs, .slice ra t.rs.length rc, .slice wa t.ws.length wc, .bool t.out, .string t.nm] 51)).alloc (.cells #[.slice (some ⟨cb, co, none⟩) (m + 1) (cc + 1)] 103)).alloc (.cells #[.slice a n c] 23))) := (((belowRefl w).alloc (Nat.le_refl _) _).alloc (by simp) _).alloc (by simp; omega) _
 have BT : Hid (Bx (((w.alloc (.cells #[.int .i64 t.id, .int .i64 t.st, .int .i64 t.snap, .int .i64 t.cs, .slice ra t.rs.length rc, .slice wa t.ws.length wc, .bool t.out, .string t.nm] 51)).alloc (.cells #[.slice (some ⟨cb, co, none⟩) (m + 1) (cc + 1)] 103)).alloc (.cells #[.slice a n c] 23)) w.heap.size [.int .i64 t.id, .int .i64 t.st, .int .i64 t.snap, .int .i64 t.cs, .slice ra t.rs.length rc, .slice wa t.ws.length wc, .bool t.out, .string t.nm]) := ((Bx.new w [.int .i64 t.id, .int .i64 t.st, .int .i64 t.snap, .int .i64 t.cs, .slice ra t.rs.length rc, .slice wa t.ws.length wc, .bool t.out, .string t.nm] 51).alloc _).alloc _
 have BC : Hid (Bx (((w.alloc (.cells #[.int .i64 t.id, .int .i64 t.st, .int .i64 t.snap, .int .i64 t.cs, .slice ra t.rs.length rc, .slice wa t.ws.length wc, .bool t.out, .string t.nm] 51)).alloc (.cells #[.slice (some ⟨cb, co, none⟩) (m + 1) (cc + 1)] 103)).alloc (.cells #[.slice a n c] 23)) (w.heap.size + 1) [.slice (some ⟨cb, co, none⟩) (m + 1) (cc + 1)]) := by have h := (Bx.new (w.alloc (.cells #[.int .i64 t.id, .int .i64 t.st, .int .i64 t.snap, .int .i64 t.cs, .slice ra t.rs.length rc, .slice wa t.ws.length wc, .bool t.out, .string t.nm] 51)) [.slice (some ⟨cb, co, none⟩) (m + 1) (cc + 1)] 103).alloc (.cells #[.slice a n c] 23); simpa [Hid] using h
 have BL : Hid (Bx (((w.alloc (.cells #[.int .i64 t.id, .int .i64 t.st, .int .i64 t.snap, .int .i64 t.cs, .slice ra t.rs.length rc, .slice wa t.ws.length wc, .bool t.out, .string t.nm] 51)).alloc (.cells #[.slice (some ⟨cb, co, none⟩) (m + 1) (cc + 1)] 103)).alloc (.cells #[.slice a n c] 23)) (w.heap.size + 1 + 1) [.slice a n c]) := by have h := Bx.new ((w.alloc (.cells #[.int .i64 t.id, .int .i64 t.st, .int .i64 t.snap, .int .i64 t.cs, .slice ra t.rs.length rc, .slice wa t.ws.length wc, .bool t.out, .string t.nm] 51)).alloc (.cells #[.slice (some ⟨cb, co, none⟩) (m + 1) (cc + 1)] 103)) [.slice a n c] 23; simpa [Hid] using h
 have H : Hid (Calls Try.prog 87 #[.slice a n c, .func (.func 88) #[] #[.pointer (some ⟨w.heap.size + 1, 0, none⟩), .pointer (some ⟨w.heap.size, 0, none⟩), .pointer (some ⟨w.heap.size + 1 + 1, 0, none⟩)]] (((w.alloc (.cells #[.int .i64 t.id, .int .i64 t.st, .int .i64 t.snap, .int .i64 t.cs, .slice ra t.rs.length rc, .slice wa t.ws.length wc, .bool t.out, .string t.nm] 51)).alloc (.cells #[.slice (some ⟨cb, co, none⟩) (m + 1) (cc + 1)] 103)).alloc (.cells #[.slice a n c] 23)) fun e w' => e = .returned (.bool ((txs xs).any (fun x => Q t x && leadB Qs x (txs xs)))) ∧ Below (((w.alloc (.cells #[.int .i64 t.id, .int .i64 t.st, .int .i64 t.snap, .int .i64 t.cs, .slice ra t.rs.length rc, .slice wa t.ws.length wc, .bool t.out, .string t.nm] 51)).alloc (.cells #[.slice (some ⟨cb, co, none⟩) (m + 1) (cc + 1)] 103)).alloc (.cells #[.slice a n c] 23)).heap.size (((w.alloc (.cells #[.int .i64 t.id, .int .i64 t.st, .int .i64 t.snap, .int .i64 t.cs, .slice ra t.rs.length rc, .slice wa t.ws.length wc, .bool t.out, .string t.nm] 51)).alloc (.cells #[.slice (some ⟨cb, co, none⟩) (m + 1) (cc + 1)] 103)).alloc (.cells #[.slice a n c] 23)) w') := by
  refine hasL xs a c n hx hn (fun x => Q t x && leadB Qs x (txs xs)) _ _ _ _ (hp.below HB3.out) (fun x hxm w1 h1 => ?_)
  have hb : Below w.heap.size w w1 := HB3.out.trans (h1.mono HB3.out.size)
  exact ask72 q Q hA qs Qs xs a c n ih t ra wa rc wc x _ _ _ cb co cc m hm hmc ft (fx _ (List.mem_map.2 ⟨x, hxm, rfl⟩)) w1 (ht.below hb) (hp.each x hxm |>.below hb) (hp.below hb) (hq.below hb) (BC.out.below h1) (BT.out.below h1) (BL.out.below h1)
 have hb0 : Below w.heap.size w w := belowRefl w
 clear hq ht hp ft hm hA ih fx hx BT BC BL
 go_enter Try.func72, Try.ntmps72
 go_wp2_with fail
 refine H.out.mono ?_
 rintro e w1 ⟨rfl, hb1⟩
 have HB4 : Hid (Below w.heap.size w w1) := HB3.out.trans (hb1.mono HB3.out.size)
 clear hb1
 go_wp2
 go_ret
 exact ⟨rfl, HB4.out⟩

theorem lead_ofE (q : Nat) (Q : Tx → Tx → Bool) (hA : AskE q Q) (qs : List Nat) (Qs : List (Tx → Tx → Bool)) (xs : List Ta) (a : Option Addr) (c n : Nat) (hx : n = xs.length) (hn : n ≤ 100000000) (fx : LEach (txs xs)) (ih : Leads qs Qs xs a c n) : Leads (q :: qs) (Q :: Qs) xs a c n := by
 intro t ra wa rc wc ca cc m w hm hmc ft ht hp hq
 obtain ⟨m', rfl⟩ : ∃ m', m = m' + 1 := ⟨qs.length, hm⟩
 obtain ⟨cc', rfl⟩ : ∃ c', cc = c' + 1 := ⟨cc - 1, by omega⟩
 exact lead_consE q Q hA qs Qs xs a c n hx hn fx ih t ra wa rc wc ca cc' m' w (by simpa using hm) (by omega) ft ht hp hq
def oQ (t p : Tx) : Bool := (readyB p || doneB p) && isOut t p
def dangI (t : Tx) (l : List Tx) : Bool := (intoB t l && outB t l) || l.any (oQ t) || leadB [isBehind, isBehind] t (othL t l ++ [t])

set_option maxRecDepth 100000 in
set_option maxHeartbeats 8000000 in
theorem idangI (t : Tx) (ra wa : Option Addr) (rc wk : Nat) (xs : List Ta) (a : Option Addr) (c n : Nat) (hx : n = xs.length) (hn : n ≤ 10000000) (ft : TFit t) (fx : LFw (txs xs)) (w : World) (ht : TRow w t ra wa) (hp : TRows w a xs) :
  Calls Try.prog 58 #[.agg #[.int .i64 t.id, .int .i64 t.st, .int .i64 t.snap, .int .i64 t.cs, .slice ra t.rs.length rc, .slice wa t.ws.length wk, .bool t.out, .string t.nm], .slice a n c] w fun e w' => e = .returned (.bool (dangI t (txs xs))) ∧ Below w.heap.size w w' := by
 have HB0 : Hid (Below w.heap.size w (w.alloc (.cells #[.int .i64 t.id, .int .i64 t.st, .int .i64 t.snap, .int .i64 t.cs, .slice ra t.rs.length rc, .slice wa t.ws.length wk, .bool t.out, .string t.nm] 51))) := (belowRefl w).alloc (Nat.le_refl _) _
 have BT0 : Hid (Bx (w.alloc (.cells #[.int .i64 t.id, .int .i64 t.st, .int .i64 t.snap, .int .i64 t.cs, .slice ra t.rs.length rc, .slice wa t.ws.length wk, .bool t.out, .string t.nm] 51)) w.heap.size [.int .i64 t.id, .int .i64 t.st, .int .i64 t.snap, .int .i64 t.cs, .slice ra t.rs.length rc, .slice wa t.ws.length wk, .bool t.out, .string t.nm]) := Bx.new w [.int .i64 t.id, .int .i64 t.st, .int .i64 t.snap, .int .i64 t.cs, .slice ra t.rs.length rc, .slice wa t.ws.length wk, .bool t.out, .string t.nm] 51
 have HT : Hid (TRow w t ra wa) := ht
 have HP : Hid (TRows w a xs) := hp
 have FT : Hid (TFit t) := ft
 have FX : Hid (LFw (txs xs)) := fx
 have HX : Hid (n = xs.length) := hx
 have CI : Hid (∀ W : World, Below w.heap.size w W → Calls Try.prog 74 #[.agg #[.int .i64 t.id, .int .i64 t.st, .int .i64 t.snap, .int .i64 t.cs, .slice ra t.rs.length rc, .slice wa t.ws.length wk, .bool t.out, .string t.nm], .slice a n c] W fun e w' => e = .returned (.bool (intoB t (txs xs))) ∧ Below W.heap.size W w') := fun W h => iinof t ra wa rc wk xs a c n HX.out hn FT.out FX.out W (HT.out.below h) (HP.out.below h)
 have CO : Hid (∀ W : World, Below w.heap.size w W → Calls Try.prog 75 #[.agg #[.int .i64 t.id, .int .i64 t.st, .int .i64 t.snap, .int .i64 t.cs, .slice ra t.rs.length rc, .slice wa t.ws.length wk, .bool t.out, .string t.nm], .slice a n c] W fun e w' => e = .returned (.bool (outB t (txs xs))) ∧ Below W.heap.size W w') := fun W h => ioutof t ra wa rc wk xs a c n HX.out hn FT.out FX.out W (HT.out.below h) (HP.out.below h)
 have CI3 : Hid (∀ (W : World) (sa : Option Addr), Below w.heap.size w W → GRow encI W sa [2, 3] → Calls Try.prog 77 #[.slice a n c, .slice sa 2 2] W fun e w' => ∃ (a1 : Option Addr) (c1 n1 : Nat), e = .returned (.slice a1 n1 c1) ∧ n1 = (xs.filter (inSt [2, 3])).length ∧ GOwn encT 51 w' W.heap.size (.slice a1 n1 c1) (xs.filter (inSt [2, 3])) ∧ Below W.heap.size W w') := fun W sa h1 h2 => inSt49 xs a c n HX.out hn [2, 3] sa 2 (by simp) W (HP.out.below h1) h2
 have CL3 : Hid (∀ (W : World) (ca ya : Option Addr) (yc n1 : Nat), Below w.heap.size w W → GRow encF W ca [76] → n1 = (xs.filter (inSt [2, 3])).length → GRow encT W ya (xs.filter (inSt [2, 3])) → Calls Try.prog 72 #[.agg #[.int .i64 t.id, .int .i64 t.st, .int .i64 t.snap, .int .i64 t.cs, .slice ra t.rs.length rc, .slice wa t.ws.length wk, .bool t.out, .string t.nm], .slice ca 1 1, .slice ya n1 yc] W fun e w' => e = .returned (.bool ((txs xs).any (oQ t))) ∧ Below W.heap.size W w') := fun W ca ya yc n1 h1 h2 h3 h4 => by
  have h := lead_of 76 isOut ask52 [] [] (xs.filter (inSt [2, 3])) ya yc n1 h3 (by rw [h3]; exact Nat.le_trans (List.length_filter_le _ _) (by rw [← HX.out]; omega)) (lfit_filter (fun x => inS [2, 3] x.st) FX.out) (lead_nil _ ya yc n1) t ra wa rc wk ca 1 1 W rfl (Nat.le_refl _) FT.out (HT.out.below h1) ⟨h4, fun x hx => ((HP.out.each x (List.mem_filter.1 hx).1).below h1)⟩ h2
  rw [lead1] at h
  have e : (txs (xs.filter (inSt [2, 3]))).any (isOut t) = (txs xs).any (oQ t) := by
   rw [show txs (xs.filter (inSt [2, 3])) = (txs xs).filter (fun u : Tx => inS [2, 3] u.st) from txs_filter (fun u : Tx => inS [2, 3] u.st) xs]
   simp only [List.any_filter]
   congr 1
   funext x
   simp [oQ, readyB, doneB, inS]
  rw [e] at h
  exact h
 obtain ⟨ys, hys⟩ : ∃ ys, ys = oth t xs := ⟨_, rfl⟩
 have HY : Hid (∀ x ∈ ys, x ∈ xs) := fun x h => oth_mem (by rw [← hys]; exact h)
 have HYL : Hid (ys.length ≤ 10000000) := by show _ ≤ _; rw [hys]; exact Nat.le_trans (oth_len t xs) (by rw [← HX.out]; exact hn)
 have fz : LFw (txs ys) := by rw [hys]; exact oth_fit fx
 have hyx : ys.length ≤ xs.length := by rw [hys]; exact oth_len t xs
 have EY : Hid (txs (ys ++ [(⟨t, ra, rc, wa, wk⟩ : Ta)]) = othL t (txs xs) ++ [t]) := by show _ = _; rw [hys]; unfold txs; rw [List.map_append]; congr 1; exact txs_oth t xs
 have COT : Hid (∀ W : World, Below w.heap.size w W → Calls Try.prog 78 #[.agg #[.int .i64 t.id, .int .i64 t.st, .int .i64 t.snap, .int .i64 t.cs, .slice ra t.rs.length rc, .slice wa t.ws.length wk, .bool t.out, .string t.nm], .slice a n c] W fun e w' => ∃ (a1 : Option Addr) (c1 n1 : Nat), e = .returned (.slice a1 n1 c1) ∧ n1 = ys.length ∧ GOwn encT 51 w' W.heap.size (.slice a1 n1 c1) ys ∧ Below W.heap.size W w') := fun W h1 => by rw [hys]; exact oth50 t ra wa rc wk xs a c n HX.out hn W (HP.out.below h1)
 have f2 : LEach (txs (ys ++ [(⟨t, ra, rc, wa, wk⟩ : Ta)])) := fun u hu => by
  rw [EY.out] at hu
  rcases List.mem_append.1 hu with h | h
  ·exact fz.2 u (by rw [hys, txs_oth]; exact h)
  ·rw [List.mem_singleton.1 h]; exact ft
 clear hys
 have CL5 : Hid (∀ (W : World) (ca ya : Option Addr) (yc n1 : Nat), Below w.heap.size w W → GRow encF W ca [79, 79] → n1 = ys.length + 1 → GRow encT W ya (ys ++ [(⟨t, ra, rc, wa, wk⟩ : Ta)]) → Calls Try.prog 72 #[.agg #[.int .i64 t.id, .int .i64 t.st, .int .i64 t.snap, .int .i64 t.cs, .slice ra t.rs.length rc, .slice wa t.ws.length wk, .bool t.out, .string t.nm], .slice ca 2 2, .slice ya n1 yc] W fun e w' => e = .returned (.bool (leadB [isBehind, isBehind] t (othL t (txs xs) ++ [t]))) ∧ Below W.heap.size W w') := fun W ca ya yc n1 h1 h2 h3 h4 => by
  have hl2 : n1 ≤ 100000000 := by rw [h3]; have := HYL.out; omega
  have h3' : n1 = (ys ++ [(⟨t, ra, rc, wa, wk⟩ : Ta)]).length := by rw [h3]; simp
  have h := lead_ofE 79 isBehind ask48 [79] [isBehind] _ ya yc n1 h3' hl2 f2 (lead_ofE 79 isBehind ask48 [] [] _ ya yc n1 h3' hl2 f2 (lead_nil _ ya yc n1)) t ra wa rc wk ca 2 2 W rfl (Nat.le_refl _) FT.out (HT.out.below h1) ⟨h4, fun x hx => by
   rcases List.mem_append.1 hx with h | h
   ·exact ((HP.out.each x (HY.out x h)).below h1)
   ·rw [List.mem_singleton.1 h]; exact HT.out.below h1⟩ h2
  rw [EY.out] at h
  exact h
 clear ht hp ft fx hx fz EY HY hyx f2
 obtain ⟨bi, hbi⟩ : ∃ bi, bi = intoB t (txs xs) := ⟨_, rfl⟩
 obtain ⟨bo, hbo⟩ : ∃ bo, bo = outB t (txs xs) := ⟨_, rfl⟩
 obtain ⟨r3, hr3⟩ : ∃ r3, r3 = (txs xs).any (oQ t) := ⟨_, rfl⟩
 obtain ⟨r5, hr5⟩ : ∃ r5, r5 = leadB [isBehind, isBehind] t (othL t (txs xs) ++ [t]) := ⟨_, rfl⟩
 have HRD : Hid (dangI t (txs xs) = (((bi && bo) || r3) || r5)) := by show _ = _; unfold dangI; rw [← hbi, ← hbo, ← hr3, ← hr5]
 rw [← hbi] at CI
 rw [← hbo] at CO
 rw [← hr3] at CL3
 rw [← hr5] at CL5
 clear hbi hbo hr3 hr5
 go_enter Try.func58, Try.ntmps58
 go_upto_region 1 with fail
 go_cut [13] from 6 to 14 (fun cc wx => cc = .bool (bi && bo) ∧ Hid (Below w.heap.size w wx) ∧ Hid (Bx wx w.heap.size [.int .i64 t.id, .int .i64 t.st, .int .i64 t.snap, .int .i64 t.cs, .slice ra t.rs.length rc, .slice wa t.ws.length wk, .bool t.out, .string t.nm]))
 case first =>
  have y0 := BT0.out.c0
  have y1 := BT0.out.c1
  have y2 := BT0.out.c2
  have y3 := BT0.out.c3
  have y4 := BT0.out.c4
  have y5 := BT0.out.c5
  have y6 := BT0.out.c6
  have y7 := BT0.out.c7
  cases bi
  ·go_wp2_with fail
   refine (CI.out _ HB0.out).mono ?_
   rintro e w1 ⟨rfl, hb1⟩
   have HB1 : Hid (Below w.heap.size w w1) := HB0.out.trans (hb1.mono HB0.out.size)
   have BT1 : Hid (Bx w1 w.heap.size [.int .i64 t.id, .int .i64 t.st, .int .i64 t.snap, .int .i64 t.cs, .slice ra t.rs.length rc, .slice wa t.ws.length wk, .bool t.out, .string t.nm]) := BT0.out.below hb1
   go_wp2
   go_meet
   exact ⟨rfl, HB1, BT1⟩
  ·go_wp2_with fail
   refine (CI.out _ HB0.out).mono ?_
   rintro e w1 ⟨rfl, hb1⟩
   have HB1 : Hid (Below w.heap.size w w1) := HB0.out.trans (hb1.mono HB0.out.size)
   have BT1 : Hid (Bx w1 w.heap.size [.int .i64 t.id, .int .i64 t.st, .int .i64 t.snap, .int .i64 t.cs, .slice ra t.rs.length rc, .slice wa t.ws.length wk, .bool t.out, .string t.nm]) := BT0.out.below hb1
   clear y0 y1 y2 y3 y4 y5 y6 y7 hb1
   have y0 := BT1.out.c0
   have y1 := BT1.out.c1
   have y2 := BT1.out.c2
   have y3 := BT1.out.c3
   have y4 := BT1.out.c4
   have y5 := BT1.out.c5
   have y6 := BT1.out.c6
   have y7 := BT1.out.c7
   go_wp2_with fail
   refine (CO.out _ HB1.out).mono ?_
   rintro e w2 ⟨rfl, hb2⟩
   have HB2 : Hid (Below w.heap.size w w2) := HB1.out.trans (hb2.mono HB1.out.size)
   have BT2 : Hid (Bx w2 w.heap.size [.int .i64 t.id, .int .i64 t.st, .int .i64 t.snap, .int .i64 t.cs, .slice ra t.rs.length rc, .slice wa t.ws.length wk, .bool t.out, .string t.nm]) := BT1.out.below hb2
   go_wp2
   go_meet
   exact ⟨rfl, HB2, BT2⟩
 case rest =>
 obtain ⟨rfl, HB1, BT1⟩ := hcut
 obtain ⟨w1, hw1⟩ : ∃ w1, w1 = wc := ⟨_, rfl⟩
 subst hw1
 clear HB0 BT0 CI CO
 cases hio : (bi && bo)
 case true =>
  have HR : Hid (dangI t (txs xs) = true) := by show _ = _; rw [HRD.out, hio]; rfl
  go_wp2
  go_ret
  exact ⟨ret_bool HR.out.symm, HB1.out⟩
 have HRD2 : Hid (dangI t (txs xs) = (r3 || r5)) := by show _ = _; rw [HRD.out, hio]; simp
 clear hio HRD
 go_upto_region 3 with fail
 go_cut [19] from 14 to 20 (fun cc wx => cc = .bool r3 ∧ Hid (Below w.heap.size w wx) ∧ Hid (Bx wx w.heap.size [.int .i64 t.id, .int .i64 t.st, .int .i64 t.snap, .int .i64 t.cs, .slice ra t.rs.length rc, .slice wa t.ws.length wk, .bool t.out, .string t.nm]))
 case first =>
  refine wp_region_held_drew (S := fun w' => w'.cell? ⟨w.heap.size, 0, none⟩ = some (.int .i64 t.id) ∧ w'.cell? ⟨w.heap.size, 1, none⟩ = some (.int .i64 t.st) ∧ w'.cell? ⟨w.heap.size, 2, none⟩ = some (.int .i64 t.snap) ∧ w'.cell? ⟨w.heap.size, 3, none⟩ = some (.int .i64 t.cs) ∧ w'.cell? ⟨w.heap.size, 4, none⟩ = some (.slice ra t.rs.length rc) ∧ w'.cell? ⟨w.heap.size, 5, none⟩ = some (.slice wa t.ws.length wk) ∧ w'.cell? ⟨w.heap.size, 6, none⟩ = some (.bool t.out) ∧ w'.cell? ⟨w.heap.size, 7, none⟩ = some (.string t.nm)) (by kernel_rfl) ⟨BT1.out.c0, BT1.out.c1, BT1.out.c2, BT1.out.c3, BT1.out.c4, BT1.out.c5, BT1.out.c6, BT1.out.c7⟩ (fun hHeld => ?_)
  (refine wpAnyH_take (i := 0) (v := ?_) rfl (by kernel_rfl) (by kernel_rfl) (by kernel_rfl) (fun _ _ _ h => h) (Or.inl ⟨by rfl, ?_⟩) (by assumption) ?_; rotate_left; (focus (intro w hSw; (try dsimp only at hSw); go_simp; (try with_reducible rfl); done)); simp only [Act.put, List.getElem_toArray, List.getElem_cons_zero, List.setIfInBounds_toArray, List.set_cons_zero, List.set_cons_succ])
  (refine wpAnyH_take (i := 2) (v := ?_) rfl (by kernel_rfl) (by kernel_rfl) (by kernel_rfl) (fun _ _ _ h => h) (Or.inl ⟨by rfl, ?_⟩) (by assumption) ?_; rotate_left; (focus (intro w hSw; (try dsimp only at hSw); go_simp; (try with_reducible rfl); done)); simp only [Act.put, List.getElem_toArray, List.getElem_cons_zero, List.getElem_cons_succ, List.setIfInBounds_toArray, List.set_cons_zero, List.set_cons_succ])
  refine wpAnyH_ready (rs := [1, 3]) (by kernel_rfl) (by simp) ?_
  refine (AllReadyH.cons rfl (fun K hK => ?_) (AllReadyH.cons rfl (fun K hK => ?_) AllReadyH.nil))
  ·go_simp
   have hlf : Below w1.heap.size w1 (w1.alloc (.cells #[.func (.func 76) #[] #[]] 116)) := (belowRefl w1).alloc (Nat.le_refl _) _
   have HBf : Hid (Below w.heap.size w (w1.alloc (.cells #[.func (.func 76) #[] #[]] 116))) := HB1.out.trans (hlf.mono HB1.out.size)
   have BTf : Hid (Bx (w1.alloc (.cells #[.func (.func 76) #[] #[]] 116)) w.heap.size [.int .i64 t.id, .int .i64 t.st, .int .i64 t.snap, .int .i64 t.cs, .slice ra t.rs.length rc, .slice wa t.ws.length wk, .bool t.out, .string t.nm]) := BT1.out.below hlf
   clear hlf
   refine hK.out _ _ ⟨BTf.out.c0, BTf.out.c1, BTf.out.c2, BTf.out.c3, BTf.out.c4, BTf.out.c5, BTf.out.c6, BTf.out.c7⟩ (fun hHeldf => ?_)
   clear hK K
   refine wpAnyH_ready (rs := [3]) (by kernel_rfl) (by simp) ?_
   refine (AllReadyH.cons rfl (fun K hK => ?_) AllReadyH.nil)
   go_simp
   have hlfi : Below w1.heap.size w1 ((w1.alloc (.cells #[.func (.func 76) #[] #[]] 116)).alloc (.cells #[.int .i64 2, .int .i64 3] 3)) := ((belowRefl w1).alloc (Nat.le_refl _) _).alloc (by simp) _
   have HBfi : Hid (Below w.heap.size w ((w1.alloc (.cells #[.func (.func 76) #[] #[]] 116)).alloc (.cells #[.int .i64 2, .int .i64 3] 3))) := HB1.out.trans (hlfi.mono HB1.out.size)
   have BTfi : Hid (Bx ((w1.alloc (.cells #[.func (.func 76) #[] #[]] 116)).alloc (.cells #[.int .i64 2, .int .i64 3] 3)) w.heap.size [.int .i64 t.id, .int .i64 t.st, .int .i64 t.snap, .int .i64 t.cs, .slice ra t.rs.length rc, .slice wa t.ws.length wk, .bool t.out, .string t.nm]) := BT1.out.below hlfi
   clear hlfi
   refine hK.out _ _ ⟨BTfi.out.c0, BTfi.out.c1, BTfi.out.c2, BTfi.out.c3, BTfi.out.c4, BTfi.out.c5, BTfi.out.c6, BTfi.out.c7⟩ (fun hHeldfi => ?_)
   clear hK K
   have RF : Hid (GRow encF ((w1.alloc (.cells #[.func (.func 76) #[] #[]] 116)).alloc (.cells #[.int .i64 2, .int .i64 3] 3)) (some ⟨w1.heap.size, 0, none⟩) [76]) := (rowF1 w1 76).below ((belowRefl _).alloc (Nat.le_refl _) (.cells #[.int .i64 2, .int .i64 3] 3))
   have RI : Hid (GRow encI ((w1.alloc (.cells #[.func (.func 76) #[] #[]] 116)).alloc (.cells #[.int .i64 2, .int .i64 3] 3)) (some ⟨w1.heap.size + 1, 0, none⟩) [2, 3]) := by have h := rowI2 (w1.alloc (.cells #[.func (.func 76) #[] #[]] 116)) 2 3; simpa [Hid] using h
   refine wpAnyH_ready (rs := [4]) (by kernel_rfl) (by simp) ?_
   refine (AllReadyH.cons rfl (fun K hK => ?_) AllReadyH.nil)
   go_simp
   go_wp2_with fail
   refine (CI3.out _ (some ⟨w1.heap.size + 1, 0, none⟩) HBfi.out.drew RI.out.drew).mono ?_
   rintro e w2 ⟨a1, c1, n1, rfl, hn1, ho, hb2⟩
   have hbu := undrew hb2
   have HB9 : Hid (Below w.heap.size w w2) := HBfi.out.trans (hbu.mono HBfi.out.size)
   have BT9 : Hid (Bx w2 w.heap.size [.int .i64 t.id, .int .i64 t.st, .int .i64 t.snap, .int .i64 t.cs, .slice ra t.rs.length rc, .slice wa t.ws.length wk, .bool t.out, .string t.nm]) := BTfi.out.below hbu
   have HN1 : Hid (n1 = (xs.filter (inSt [2, 3])).length) := hn1
   have RO : Hid (GRow encT w2 a1 (xs.filter (inSt [2, 3]))) := by subst hn1; exact ho.grow
   clear ho hn1
   have RF9 : Hid (GRow encF w2 (some ⟨w1.heap.size, 0, none⟩) [76]) := RF.out.below hbu
   go_wp2_with fail
   refine hK.out _ _ ⟨BT9.out.c0, BT9.out.c1, BT9.out.c2, BT9.out.c3, BT9.out.c4, BT9.out.c5, BT9.out.c6, BT9.out.c7⟩ (fun hHeld9 => ?_)
   clear hK K hb2 hbu
   refine wpAnyH_ready (rs := [5]) (by kernel_rfl) (by simp) ?_
   refine (AllReadyH.cons rfl (fun K hK => ?_) AllReadyH.nil)
   go_simp
   go_wp2_with fail
   refine (CL3.out _ (some ⟨w1.heap.size, 0, none⟩) a1 c1 n1 HB9.out RF9.out HN1.out RO.out).mono ?_
   rintro e w3 ⟨rfl, hb3⟩
   have HB10 : Hid (Below w.heap.size w w3) := (HB9.out).trans (hb3.mono (HB9.out).size)
   have BT10 : Hid (Bx w3 w.heap.size [.int .i64 t.id, .int .i64 t.st, .int .i64 t.snap, .int .i64 t.cs, .slice ra t.rs.length rc, .slice wa t.ws.length wk, .bool t.out, .string t.nm]) := (BT9.out).below hb3
   go_wp2_with fail
   refine hK.out _ _ ⟨BT10.out.c0, BT10.out.c1, BT10.out.c2, BT10.out.c3, BT10.out.c4, BT10.out.c5, BT10.out.c6, BT10.out.c7⟩ (fun hHeld10 => ?_)
   clear hK K hb3
   refine wpAnyH_done (by kernel_rfl) ?_ _
   go_wp2
   go_meet
   exact ⟨rfl, HB10, BT10⟩
  ·go_simp
   have hli : Below w1.heap.size w1 (w1.alloc (.cells #[.int .i64 2, .int .i64 3] 3)) := (belowRefl w1).alloc (Nat.le_refl _) _
   have HBi : Hid (Below w.heap.size w (w1.alloc (.cells #[.int .i64 2, .int .i64 3] 3))) := HB1.out.trans (hli.mono HB1.out.size)
   have BTi : Hid (Bx (w1.alloc (.cells #[.int .i64 2, .int .i64 3] 3)) w.heap.size [.int .i64 t.id, .int .i64 t.st, .int .i64 t.snap, .int .i64 t.cs, .slice ra t.rs.length rc, .slice wa t.ws.length wk, .bool t.out, .string t.nm]) := BT1.out.below hli
   clear hli
   refine hK.out _ _ ⟨BTi.out.c0, BTi.out.c1, BTi.out.c2, BTi.out.c3, BTi.out.c4, BTi.out.c5, BTi.out.c6, BTi.out.c7⟩ (fun hHeldi => ?_)
   clear hK K
   refine wpAnyH_ready (rs := [1, 4]) (by kernel_rfl) (by simp) ?_
   refine (AllReadyH.cons rfl (fun K hK => ?_) (AllReadyH.cons rfl (fun K hK => ?_) AllReadyH.nil))
   ·go_simp
    have hlif : Below w1.heap.size w1 ((w1.alloc (.cells #[.int .i64 2, .int .i64 3] 3)).alloc (.cells #[.func (.func 76) #[] #[]] 116)) := ((belowRefl w1).alloc (Nat.le_refl _) _).alloc (by simp) _
    have HBif : Hid (Below w.heap.size w ((w1.alloc (.cells #[.int .i64 2, .int .i64 3] 3)).alloc (.cells #[.func (.func 76) #[] #[]] 116))) := HB1.out.trans (hlif.mono HB1.out.size)
    have BTif : Hid (Bx ((w1.alloc (.cells #[.int .i64 2, .int .i64 3] 3)).alloc (.cells #[.func (.func 76) #[] #[]] 116)) w.heap.size [.int .i64 t.id, .int .i64 t.st, .int .i64 t.snap, .int .i64 t.cs, .slice ra t.rs.length rc, .slice wa t.ws.length wk, .bool t.out, .string t.nm]) := BT1.out.below hlif
    clear hlif
    refine hK.out _ _ ⟨BTif.out.c0, BTif.out.c1, BTif.out.c2, BTif.out.c3, BTif.out.c4, BTif.out.c5, BTif.out.c6, BTif.out.c7⟩ (fun hHeldif => ?_)
    clear hK K
    have RI : Hid (GRow encI ((w1.alloc (.cells #[.int .i64 2, .int .i64 3] 3)).alloc (.cells #[.func (.func 76) #[] #[]] 116)) (some ⟨w1.heap.size, 0, none⟩) [2, 3]) := (rowI2 w1 2 3).below ((belowRefl _).alloc (Nat.le_refl _) (.cells #[.func (.func 76) #[] #[]] 116))
    have RF : Hid (GRow encF ((w1.alloc (.cells #[.int .i64 2, .int .i64 3] 3)).alloc (.cells #[.func (.func 76) #[] #[]] 116)) (some ⟨w1.heap.size + 1, 0, none⟩) [76]) := by have h := rowF1 (w1.alloc (.cells #[.int .i64 2, .int .i64 3] 3)) 76; simpa [Hid] using h
    refine wpAnyH_ready (rs := [4]) (by kernel_rfl) (by simp) ?_
    refine (AllReadyH.cons rfl (fun K hK => ?_) AllReadyH.nil)
    go_simp
    go_wp2_with fail
    refine (CI3.out _ (some ⟨w1.heap.size, 0, none⟩) HBif.out.drew RI.out.drew).mono ?_
    rintro e w2 ⟨a1, c1, n1, rfl, hn1, ho, hb2⟩
    have hbu := undrew hb2
    have HB9 : Hid (Below w.heap.size w w2) := HBif.out.trans (hbu.mono HBif.out.size)
    have BT9 : Hid (Bx w2 w.heap.size [.int .i64 t.id, .int .i64 t.st, .int .i64 t.snap, .int .i64 t.cs, .slice ra t.rs.length rc, .slice wa t.ws.length wk, .bool t.out, .string t.nm]) := BTif.out.below hbu
    have HN1 : Hid (n1 = (xs.filter (inSt [2, 3])).length) := hn1
    have RO : Hid (GRow encT w2 a1 (xs.filter (inSt [2, 3]))) := by subst hn1; exact ho.grow
    clear ho hn1
    have RF9 : Hid (GRow encF w2 (some ⟨w1.heap.size + 1, 0, none⟩) [76]) := RF.out.below hbu
    go_wp2_with fail
    refine hK.out _ _ ⟨BT9.out.c0, BT9.out.c1, BT9.out.c2, BT9.out.c3, BT9.out.c4, BT9.out.c5, BT9.out.c6, BT9.out.c7⟩ (fun hHeld9 => ?_)
    clear hK K hb2 hbu
    refine wpAnyH_ready (rs := [5]) (by kernel_rfl) (by simp) ?_
    refine (AllReadyH.cons rfl (fun K hK => ?_) AllReadyH.nil)
    go_simp
    go_wp2_with fail
    refine (CL3.out _ (some ⟨w1.heap.size + 1, 0, none⟩) a1 c1 n1 HB9.out RF9.out HN1.out RO.out).mono ?_
    rintro e w3 ⟨rfl, hb3⟩
    have HB10 : Hid (Below w.heap.size w w3) := (HB9.out).trans (hb3.mono (HB9.out).size)
    have BT10 : Hid (Bx w3 w.heap.size [.int .i64 t.id, .int .i64 t.st, .int .i64 t.snap, .int .i64 t.cs, .slice ra t.rs.length rc, .slice wa t.ws.length wk, .bool t.out, .string t.nm]) := (BT9.out).below hb3
    go_wp2_with fail
    refine hK.out _ _ ⟨BT10.out.c0, BT10.out.c1, BT10.out.c2, BT10.out.c3, BT10.out.c4, BT10.out.c5, BT10.out.c6, BT10.out.c7⟩ (fun hHeld10 => ?_)
    clear hK K hb3
    refine wpAnyH_done (by kernel_rfl) ?_ _
    go_wp2
    go_meet
    exact ⟨rfl, HB10, BT10⟩
   ·have RI : Hid (GRow encI (w1.alloc (.cells #[.int .i64 2, .int .i64 3] 3)) (some ⟨w1.heap.size, 0, none⟩) [2, 3]) := rowI2 w1 2 3
    go_simp
    go_wp2_with fail
    refine (CI3.out _ (some ⟨w1.heap.size, 0, none⟩) HBi.out.drew RI.out.drew).mono ?_
    rintro e w2 ⟨a1, c1, n1, rfl, hn1, ho, hb2⟩
    have hbu := undrew hb2
    have HB9 : Hid (Below w.heap.size w w2) := HBi.out.trans (hbu.mono HBi.out.size)
    have BT9 : Hid (Bx w2 w.heap.size [.int .i64 t.id, .int .i64 t.st, .int .i64 t.snap, .int .i64 t.cs, .slice ra t.rs.length rc, .slice wa t.ws.length wk, .bool t.out, .string t.nm]) := BTi.out.below hbu
    have HN1 : Hid (n1 = (xs.filter (inSt [2, 3])).length) := hn1
    have RO : Hid (GRow encT w2 a1 (xs.filter (inSt [2, 3]))) := by subst hn1; exact ho.grow
    clear ho hn1
    go_wp2_with fail
    refine hK.out _ _ ⟨BT9.out.c0, BT9.out.c1, BT9.out.c2, BT9.out.c3, BT9.out.c4, BT9.out.c5, BT9.out.c6, BT9.out.c7⟩ (fun hHeld9 => ?_)
    clear hK K hb2 hbu
    refine wpAnyH_ready (rs := [1]) (by kernel_rfl) (by simp) ?_
    refine (AllReadyH.cons rfl (fun K hK => ?_) AllReadyH.nil)
    go_simp
    have hba : Below w2.heap.size w2 (w2.alloc (.cells #[.func (.func 76) #[] #[]] 116)) := (belowRefl w2).alloc (Nat.le_refl _) _
    have HBl : Hid (Below w.heap.size w (w2.alloc (.cells #[.func (.func 76) #[] #[]] 116))) := HB9.out.trans (hba.mono HB9.out.size)
    have BTl : Hid (Bx (w2.alloc (.cells #[.func (.func 76) #[] #[]] 116)) w.heap.size [.int .i64 t.id, .int .i64 t.st, .int .i64 t.snap, .int .i64 t.cs, .slice ra t.rs.length rc, .slice wa t.ws.length wk, .bool t.out, .string t.nm]) := BT9.out.below hba
    have ROl : Hid (GRow encT (w2.alloc (.cells #[.func (.func 76) #[] #[]] 116)) a1 (xs.filter (inSt [2, 3]))) := RO.out.below hba
    refine hK.out _ _ ⟨BTl.out.c0, BTl.out.c1, BTl.out.c2, BTl.out.c3, BTl.out.c4, BTl.out.c5, BTl.out.c6, BTl.out.c7⟩ (fun hHeldl => ?_)
    clear hK K hba
    refine wpAnyH_ready (rs := [5]) (by kernel_rfl) (by simp) ?_
    refine (AllReadyH.cons rfl (fun K hK => ?_) AllReadyH.nil)
    go_simp
    go_wp2_with fail
    refine (CL3.out _ (some ⟨w2.heap.size, 0, none⟩) a1 c1 n1 HBl.out (rowF1 w2 76) HN1.out ROl.out).mono ?_
    rintro e w3 ⟨rfl, hb3⟩
    have HB10 : Hid (Below w.heap.size w w3) := (HBl.out).trans (hb3.mono (HBl.out).size)
    have BT10 : Hid (Bx w3 w.heap.size [.int .i64 t.id, .int .i64 t.st, .int .i64 t.snap, .int .i64 t.cs, .slice ra t.rs.length rc, .slice wa t.ws.length wk, .bool t.out, .string t.nm]) := (BTl.out).below hb3
    go_wp2_with fail
    refine hK.out _ _ ⟨BT10.out.c0, BT10.out.c1, BT10.out.c2, BT10.out.c3, BT10.out.c4, BT10.out.c5, BT10.out.c6, BT10.out.c7⟩ (fun hHeld10 => ?_)
    clear hK K hb3
    refine wpAnyH_done (by kernel_rfl) ?_ _
    go_wp2
    go_meet
    exact ⟨rfl, HB10, BT10⟩
 case rest =>
 clear HB1 BT1 CI3 CL3
 clear w1
 obtain ⟨rfl, HB1, BT1⟩ := hcut
 obtain ⟨w1, hw1⟩ : ∃ w1, w1 = wc := ⟨_, rfl⟩
 subst hw1
 cases r3
 case true =>
  have HR : Hid (dangI t (txs xs) = true) := by show _ = _; rw [HRD2.out]; rfl
  go_wp2
  go_ret
  exact ⟨ret_bool HR.out.symm, HB1.out⟩
 have HRD3 : Hid (r5 = dangI t (txs xs)) := by show _ = _; rw [HRD2.out]; rfl
 clear HRD2
 have hlt1 : w.heap.size < w1.heap.size := BT1.out.lt
 go_upto_region 5 with fail
 go_cut [5] from 20 to 26 (fun cc wx => ∃ (a2 : Option Addr) (c2 n2 : Nat), cc = .slice a2 n2 c2 ∧ Hid (n2 = ys.length + 1) ∧ Hid (GRow encT wx a2 (ys ++ [(⟨t, ra, rc, wa, wk⟩ : Ta)])) ∧ Hid (Below w.heap.size w wx) ∧ Hid (Bx wx w.heap.size [.int .i64 t.id, .int .i64 t.st, .int .i64 t.snap, .int .i64 t.cs, .slice ra t.rs.length rc, .slice wa t.ws.length wk, .bool t.out, .string t.nm]))
 case first =>
  refine wp_region_held_drew (S := fun w' => w'.cell? ⟨w.heap.size, 0, none⟩ = some (.int .i64 t.id) ∧ w'.cell? ⟨w.heap.size, 1, none⟩ = some (.int .i64 t.st) ∧ w'.cell? ⟨w.heap.size, 2, none⟩ = some (.int .i64 t.snap) ∧ w'.cell? ⟨w.heap.size, 3, none⟩ = some (.int .i64 t.cs) ∧ w'.cell? ⟨w.heap.size, 4, none⟩ = some (.slice ra t.rs.length rc) ∧ w'.cell? ⟨w.heap.size, 5, none⟩ = some (.slice wa t.ws.length wk) ∧ w'.cell? ⟨w.heap.size, 6, none⟩ = some (.bool t.out) ∧ w'.cell? ⟨w.heap.size, 7, none⟩ = some (.string t.nm)) (by kernel_rfl) ⟨BT1.out.c0, BT1.out.c1, BT1.out.c2, BT1.out.c3, BT1.out.c4, BT1.out.c5, BT1.out.c6, BT1.out.c7⟩ (fun hHeld => ?_)
  (refine wpAnyH_take (i := 0) (v := ?_) rfl (by kernel_rfl) (by kernel_rfl) (by kernel_rfl) (fun _ _ _ h => h) (Or.inl ⟨by rfl, ?_⟩) (by assumption) ?_; rotate_left; (focus (intro w hSw; (try dsimp only at hSw); go_simp; (try with_reducible rfl); done)); simp only [Act.put, List.getElem_toArray, List.getElem_cons_zero, List.setIfInBounds_toArray, List.set_cons_zero, List.set_cons_succ])
  (refine wpAnyH_take (i := 1) (v := ?_) rfl (by kernel_rfl) (by kernel_rfl) (by kernel_rfl) (fun _ _ _ h => h) (Or.inl ⟨by rfl, ?_⟩) (by assumption) ?_; rotate_left; (focus (intro w hSw; (try dsimp only at hSw); go_simp; (try with_reducible rfl); done)); simp only [Act.put, List.getElem_toArray, List.getElem_cons_zero, List.getElem_cons_succ, List.setIfInBounds_toArray, List.set_cons_zero, List.set_cons_succ])
  (refine wpAnyH_take (i := 3) (v := ?_) rfl (by kernel_rfl) (by kernel_rfl) (by kernel_rfl) (fun _ _ _ h => h) (Or.inl ⟨by rfl, ?_⟩) (by assumption) ?_; rotate_left; (focus (intro w hSw; (try dsimp only at hSw); go_simp; (try with_reducible rfl); done)); simp only [Act.put, List.getElem_toArray, List.getElem_cons_zero, List.getElem_cons_succ, List.setIfInBounds_toArray, List.set_cons_zero, List.set_cons_succ])
  refine wpAnyH_ready (rs := [2, 4]) (by kernel_rfl) (by simp) ?_
  refine (AllReadyH.cons rfl (fun K hK => ?_) (AllReadyH.cons rfl (fun K hK => ?_) AllReadyH.nil))
  ·go_simp
   go_wp2_with fail
   refine (COT.out _ HB1.out.drew).mono ?_
   rintro e w2 ⟨a1, c1, n1, rfl, hn1, ho, hb2⟩
   have hbu := undrew hb2
   have HB9 : Hid (Below w.heap.size w w2) := HB1.out.trans (hbu.mono HB1.out.size)
   have BT9 : Hid (Bx w2 w.heap.size [.int .i64 t.id, .int .i64 t.st, .int .i64 t.snap, .int .i64 t.cs, .slice ra t.rs.length rc, .slice wa t.ws.length wk, .bool t.out, .string t.nm]) := BT1.out.below hbu
   have HN1 : Hid (n1 = ys.length) := hn1
   have hsz : w.heap.size < w1.heap.size := by have := hlt1; omega
   have RO : Hid (GOwn encT 51 w2 (w.heap.size + 1) (.slice a1 n1 c1) ys) := GOwn.mono ho (by simp only [World.drew] at *; omega)
   clear ho hn1
   go_wp2_with fail
   refine hK.out _ _ ⟨BT9.out.c0, BT9.out.c1, BT9.out.c2, BT9.out.c3, BT9.out.c4, BT9.out.c5, BT9.out.c6, BT9.out.c7⟩ (fun hHeld9 => ?_)
   clear hK K hb2 hbu
   refine wpAnyH_ready (rs := [4]) (by kernel_rfl) (by simp) ?_
   refine (AllReadyH.cons rfl (fun K hK => ?_) AllReadyH.nil)
   go_simp
   have hba : Below w2.heap.size w2 (w2.alloc (.cells #[.int .i64 t.id, .int .i64 t.st, .int .i64 t.snap, .int .i64 t.cs, .slice ra t.rs.length rc, .slice wa t.ws.length wk, .bool t.out, .string t.nm] 51)) := (belowRefl w2).alloc (Nat.le_refl _) _
   have HBb : Hid (Below w.heap.size w (w2.alloc (.cells #[.int .i64 t.id, .int .i64 t.st, .int .i64 t.snap, .int .i64 t.cs, .slice ra t.rs.length rc, .slice wa t.ws.length wk, .bool t.out, .string t.nm] 51))) := HB9.out.trans (hba.mono HB9.out.size)
   have BTb : Hid (Bx (w2.alloc (.cells #[.int .i64 t.id, .int .i64 t.st, .int .i64 t.snap, .int .i64 t.cs, .slice ra t.rs.length rc, .slice wa t.ws.length wk, .bool t.out, .string t.nm] 51)) w.heap.size [.int .i64 t.id, .int .i64 t.st, .int .i64 t.snap, .int .i64 t.cs, .slice ra t.rs.length rc, .slice wa t.ws.length wk, .bool t.out, .string t.nm]) := BT9.out.below hba
   refine hK.out _ _ ⟨BTb.out.c0, BTb.out.c1, BTb.out.c2, BTb.out.c3, BTb.out.c4, BTb.out.c5, BTb.out.c6, BTb.out.c7⟩ (fun hHeldb => ?_)
   clear hK K hba
   refine wpAnyH_ready (rs := [5]) (by kernel_rfl) (by simp) ?_
   refine (AllReadyH.cons rfl (fun K hK => ?_) AllReadyH.nil)
   refine stepAppK (E := encT) 23 51 104 _ Try.underlying23 Try.info51 rfl (by omega) rfl _ _ rfl (base := w.heap.size + 1) (v := .slice a1 n1 c1) (xs := ys) ⟨t, ra, rc, wa, wk⟩ tone rfl (RO.out.alloc _) rfl (heap_alloc_new w2 _) (by have := HYL.out; omega) (by have := BT9.out.lt; simp; omega) ?_
   intro g2 c2 w4 ho hg hg2 hlt2
   have hlow : Below (w.heap.size + 1) (w2.alloc (.cells #[.int .i64 t.id, .int .i64 t.st, .int .i64 t.snap, .int .i64 t.cs, .slice ra t.rs.length rc, .slice wa t.ws.length wk, .bool t.out, .string t.nm] 51)) w4 := (Below.refl _ _).grown hg (by have := BT9.out.lt; simp; omega) (fun j hj => (World.ownsRow.lt RO.out j hj).1)
   have HB10 : Hid (Below w.heap.size w w4) := HBb.out.trans (hlow.mono (Nat.le_succ _))
   have BT10 : Hid (Bx w4 w.heap.size [.int .i64 t.id, .int .i64 t.st, .int .i64 t.snap, .int .i64 t.cs, .slice ra t.rs.length rc, .slice wa t.ws.length wk, .bool t.out, .string t.nm]) := bx_marked BTb.out hg (fun e => by have := (World.ownsRow.lt RO.out _ e).1; omega)
   obtain ⟨n2, hn2⟩ : ∃ n2, n2 = ys.length + 1 := ⟨_, rfl⟩
   rw [← hn2] at ho
   have HO2 : Hid (GRow encT w4 (some ⟨g2, 0, none⟩) (ys ++ [⟨t, ra, rc, wa, wk⟩])) := grow_n (by rw [hn2]; simp) ho
   have HN2 : Hid (n2 = ys.length + 1) := hn2
   rw [HN2.out.symm]
   clear hn2 ho hg hg2 hlow
   refine hK.out _ _ ⟨BT10.out.c0, BT10.out.c1, BT10.out.c2, BT10.out.c3, BT10.out.c4, BT10.out.c5, BT10.out.c6, BT10.out.c7⟩ (fun hHeld10 => ?_)
   clear hK K
   (refine wpAnyH_take (i := 6) (v := ?_) rfl (by kernel_rfl) (by kernel_rfl) (by kernel_rfl) (fun _ _ _ h => h) (Or.inl ⟨by rfl, ?_⟩) (by assumption) ?_; rotate_left; (focus (intro w hSw; (try dsimp only at hSw); go_simp; (try with_reducible rfl); done)); simp only [Act.put, List.getElem_toArray, List.getElem_cons_zero, List.getElem_cons_succ, List.setIfInBounds_toArray, List.set_cons_zero, List.set_cons_succ])
   refine wpAnyH_done (by kernel_rfl) ?_ _
   go_wp2
   go_meet
   exact ⟨_, _, _, rfl, HN2, HO2, HB10, BT10⟩
  ·go_simp
   have hba : Below w1.heap.size w1 (w1.alloc (.cells #[.int .i64 t.id, .int .i64 t.st, .int .i64 t.snap, .int .i64 t.cs, .slice ra t.rs.length rc, .slice wa t.ws.length wk, .bool t.out, .string t.nm] 51)) := (belowRefl w1).alloc (Nat.le_refl _) _
   have HBa : Hid (Below w.heap.size w (w1.alloc (.cells #[.int .i64 t.id, .int .i64 t.st, .int .i64 t.snap, .int .i64 t.cs, .slice ra t.rs.length rc, .slice wa t.ws.length wk, .bool t.out, .string t.nm] 51))) := HB1.out.trans (hba.mono HB1.out.size)
   have BTa : Hid (Bx (w1.alloc (.cells #[.int .i64 t.id, .int .i64 t.st, .int .i64 t.snap, .int .i64 t.cs, .slice ra t.rs.length rc, .slice wa t.ws.length wk, .bool t.out, .string t.nm] 51)) w.heap.size [.int .i64 t.id, .int .i64 t.st, .int .i64 t.snap, .int .i64 t.cs, .slice ra t.rs.length rc, .slice wa t.ws.length wk, .bool t.out, .string t.nm]) := BT1.out.below hba
   refine hK.out _ _ ⟨BTa.out.c0, BTa.out.c1, BTa.out.c2, BTa.out.c3, BTa.out.c4, BTa.out.c5, BTa.out.c6, BTa.out.c7⟩ (fun hHelda => ?_)
   clear hK K hba
   refine wpAnyH_ready (rs := [2]) (by kernel_rfl) (by simp) ?_
   refine (AllReadyH.cons rfl (fun K hK => ?_) AllReadyH.nil)
   go_simp
   go_wp2_with fail
   refine (COT.out _ HBa.out.drew).mono ?_
   rintro e w2 ⟨a1, c1, n1, rfl, hn1, ho, hb2⟩
   have hbu := undrew hb2
   have HB9 : Hid (Below w.heap.size w w2) := HBa.out.trans (hbu.mono HBa.out.size)
   have BT9 : Hid (Bx w2 w.heap.size [.int .i64 t.id, .int .i64 t.st, .int .i64 t.snap, .int .i64 t.cs, .slice ra t.rs.length rc, .slice wa t.ws.length wk, .bool t.out, .string t.nm]) := BTa.out.below hbu
   have HN1 : Hid (n1 = ys.length) := hn1
   have hsz : w.heap.size < (w1.alloc (.cells #[.int .i64 t.id, .int .i64 t.st, .int .i64 t.snap, .int .i64 t.cs, .slice ra t.rs.length rc, .slice wa t.ws.length wk, .bool t.out, .string t.nm] 51)).heap.size := by have := HBa.out.size; have := hlt1; simp; omega
   have RO : Hid (GOwn encT 51 w2 (w.heap.size + 1) (.slice a1 n1 c1) ys) := GOwn.mono ho (by simp only [World.drew] at *; omega)
   clear ho hn1
   have HBK : Hid (w2.heap[w1.heap.size]? = some (.cells (encT.enc ⟨t, ra, rc, wa, wk⟩).toArray 51 (0, 0))) := (hbu.block w1.heap.size (by simp)).trans (heap_alloc_new w1 _)
   have HBb := HB9
   have BTb := BT9
   go_wp2_with fail
   refine hK.out _ _ ⟨BT9.out.c0, BT9.out.c1, BT9.out.c2, BT9.out.c3, BT9.out.c4, BT9.out.c5, BT9.out.c6, BT9.out.c7⟩ (fun hHeld9 => ?_)
   clear hK K hb2 hbu
   refine wpAnyH_ready (rs := [5]) (by kernel_rfl) (by simp) ?_
   refine (AllReadyH.cons rfl (fun K hK => ?_) AllReadyH.nil)
   refine stepAppK (E := encT) 23 51 104 _ Try.underlying23 Try.info51 rfl (by omega) rfl _ _ rfl (base := w.heap.size + 1) (v := .slice a1 n1 c1) (xs := ys) ⟨t, ra, rc, wa, wk⟩ tone rfl (RO.out) rfl (HBK.out) (by have := HYL.out; omega) (by have := BT9.out.lt; omega) ?_
   intro g2 c2 w4 ho hg hg2 hlt2
   have hlow : Below (w.heap.size + 1) w2 w4 := (Below.refl _ _).grown hg (by have := BT9.out.lt; omega) (fun j hj => (World.ownsRow.lt RO.out j hj).1)
   have HB10 : Hid (Below w.heap.size w w4) := HBb.out.trans (hlow.mono (Nat.le_succ _))
   have BT10 : Hid (Bx w4 w.heap.size [.int .i64 t.id, .int .i64 t.st, .int .i64 t.snap, .int .i64 t.cs, .slice ra t.rs.length rc, .slice wa t.ws.length wk, .bool t.out, .string t.nm]) := bx_marked BTb.out hg (fun e => by have := (World.ownsRow.lt RO.out _ e).1; omega)
   obtain ⟨n2, hn2⟩ : ∃ n2, n2 = ys.length + 1 := ⟨_, rfl⟩
   rw [← hn2] at ho
   have HO2 : Hid (GRow encT w4 (some ⟨g2, 0, none⟩) (ys ++ [⟨t, ra, rc, wa, wk⟩])) := grow_n (by rw [hn2]; simp) ho
   have HN2 : Hid (n2 = ys.length + 1) := hn2
   rw [HN2.out.symm]
   clear hn2 ho hg hg2 hlow
   refine hK.out _ _ ⟨BT10.out.c0, BT10.out.c1, BT10.out.c2, BT10.out.c3, BT10.out.c4, BT10.out.c5, BT10.out.c6, BT10.out.c7⟩ (fun hHeld10 => ?_)
   clear hK K
   (refine wpAnyH_take (i := 6) (v := ?_) rfl (by kernel_rfl) (by kernel_rfl) (by kernel_rfl) (fun _ _ _ h => h) (Or.inl ⟨by rfl, ?_⟩) (by assumption) ?_; rotate_left; (focus (intro w hSw; (try dsimp only at hSw); go_simp; (try with_reducible rfl); done)); simp only [Act.put, List.getElem_toArray, List.getElem_cons_zero, List.getElem_cons_succ, List.setIfInBounds_toArray, List.set_cons_zero, List.set_cons_succ])
   refine wpAnyH_done (by kernel_rfl) ?_ _
   go_wp2
   go_meet
   exact ⟨_, _, _, rfl, HN2, HO2, HB10, BT10⟩
 case rest =>
 clear HB1 BT1 hlt1 COT
 clear w1
 obtain ⟨a2, c2, n2, rfl, HN2, HO2, HB1, BT1⟩ := hcut
 obtain ⟨w1, hw1⟩ : ∃ w1, w1 = wc := ⟨_, rfl⟩
 subst hw1
 have hba : Below w1.heap.size w1 (w1.alloc (.cells #[.func (.func 79) #[] #[], .func (.func 79) #[] #[]] 116)) := (belowRefl w1).alloc (Nat.le_refl _) _
 have HBl : Hid (Below w.heap.size w (w1.alloc (.cells #[.func (.func 79) #[] #[], .func (.func 79) #[] #[]] 116))) := HB1.out.trans (hba.mono HB1.out.size)
 have HLd := hide (CL5.out (w1.alloc (.cells #[.func (.func 79) #[] #[], .func (.func 79) #[] #[]] 116)) (some ⟨w1.heap.size, 0, none⟩) a2 c2 n2 HBl.out (rowF2 w1 79 79) HN2.out (HO2.out.below hba))
 have y0 := BT1.out.c0
 have y1 := BT1.out.c1
 have y2 := BT1.out.c2
 have y3 := BT1.out.c3
 have y4 := BT1.out.c4
 have y5 := BT1.out.c5
 have y6 := BT1.out.c6
 have y7 := BT1.out.c7
 clear hba
 go_wp2_with fail
 refine HLd.out.mono ?_
 rintro e w6 ⟨rfl, hb6⟩
 have HB6 : Hid (Below w.heap.size w w6) := HBl.out.trans (hb6.mono HBl.out.size)
 go_wp2
 go_ret
 exact ⟨ret_bool HRD3.out, HB6.out⟩

end Go.Proofs.Ytjeicgibddfifaa
