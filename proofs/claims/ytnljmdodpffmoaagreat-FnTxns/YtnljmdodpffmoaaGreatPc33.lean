/- Lists of versions that are put, right and seen: no Go. -/
import Derived.Test.YtnljmdodpffmoaaGreatPc10
import Derived.Test.YtnljmdodpffmoaaGreatPc02
import Derived.Test.YtnljmdodpffmoaaGreatPc11
import Derived.Test.YtnljmdodpffmoaaGreatPc21
namespace Go.Proofs.YtnljmdodpffmoaaGreat
open Go.RowKit
open KM
open VM
attribute [local go_sem ↓] Go.wp_at_zero Go.wp_at_succ

theorem asc_le {a v : Vr} (h : ¬ (a.1 = v.1 ∧ a.2.2.2 = v.2.2.2)) : asc a v = leV v a := by
 unfold asc leV
 by_cases e : a.1 = v.1
 ·have h2 : a.2.2.2 ≠ v.2.2.2 := fun x => h ⟨e, x⟩
  have h3 : decide (a.2.2.2 < v.2.2.2) = decide (a.2.2.2 ≤ v.2.2.2) := by
   by_cases h4 : a.2.2.2 < v.2.2.2
   ·rw [decide_eq_true h4, decide_eq_true (by omega)]
   ·rw [decide_eq_false h4, decide_eq_false (by omega)]
  simp [e, h3]
 ·simp [e]
theorem mem_ins {l : List Vr} {v x : Vr} : x ∈ insV l v ↔ x = v ∨ x ∈ l := by
 unfold insV
 have h : x ∈ l ↔ x ∈ l.takeWhile (leV v) ∨ x ∈ l.dropWhile (leV v) := by
  rw [← List.mem_append, List.takeWhile_append_dropWhile]
 rw [h]
 simp only [List.mem_append, List.mem_cons]
 constructor
 ·rintro (h | h | h)
  ·exact Or.inr (Or.inl h)
  ·exact Or.inl h
  ·exact Or.inr (Or.inr h)
 ·rintro (h | h | h)
  ·exact Or.inr (Or.inl h)
  ·exact Or.inl h
  ·exact Or.inr (Or.inr h)
theorem mem_put {cs : Int} {x : Vr} : ∀ {ws : List Wt} {l : List Vr}, x ∈ putV l ws cs ↔ x ∈ l ∨ ∃ y ∈ ws, x = verOf cs y := by
 intro ws
 induction ws with
 | nil => intro l; simp [putV]
 | cons y ws ih =>
  intro l
  have e : putV l (y :: ws) cs = putV (insV l (verOf cs y)) ws cs := rfl
  rw [e, ih, mem_ins]
  constructor
  ·rintro ((h | h) | ⟨z, hz, h⟩)
   ·exact Or.inr ⟨y, by simp, h⟩
   ·exact Or.inl h
   ·exact Or.inr ⟨z, by simp [hz], h⟩
  ·rintro (h | ⟨z, hz, h⟩)
   ·exact Or.inl (Or.inr h)
   ·rcases List.mem_cons.1 hz with rfl | hz
    ·exact Or.inl (Or.inl h)
    ·exact Or.inr ⟨z, hz, h⟩
theorem no_alike {xs : List Vr} {ws : List Wt} {cs : Int} (hx : ∀ x ∈ xs, x.2.2.2 ≠ cs) (hw : ws.Pairwise (fun a b => a.1 ≠ b.1)) (i : Nat) (h : i < ws.length) : ∀ x ∈ putV xs (ws.take i) cs, ¬ (x.1 = ws[i].1 ∧ x.2.2.2 = cs) := by
 intro x hm ⟨e1, e2⟩
 rcases mem_put.1 hm with h1 | ⟨y, hy, rfl⟩
 ·exact hx x h1 e2
 ·obtain ⟨j, hj, rfl⟩ := List.mem_iff_getElem.1 hy
  rw [List.length_take] at hj
  have := List.pairwise_iff_getElem.1 hw j i (by omega) h (by omega)
  rw [List.getElem_take] at e1
  exact this e1
theorem asc_tr {a b c : Vr} (h1 : asc a b = true) (h2 : asc b c = true) : asc a c = true := by
 unfold asc at *
 simp only [Bool.or_eq_true, Bool.and_eq_true, decide_eq_true_eq] at *
 rcases h1 with h1 | ⟨e1, h1⟩
 ·rcases h2 with h2 | ⟨e2, h2⟩
  ·exact Or.inl (lt_trans' h1 h2)
  ·rw [e2] at h1; exact Or.inl h1
 ·rcases h2 with h2 | ⟨e2, h2⟩
  ·rw [← e1] at h2; exact Or.inl h2
  ·exact Or.inr ⟨e1.trans e2, by omega⟩
theorem asc_of_not {v a : Vr} (h : leV v a = false) : asc v a = true := by
 unfold leV at h
 unfold asc
 simp only [Bool.or_eq_false_iff, Bool.and_eq_false_iff, decide_eq_false_iff_not] at h
 simp only [Bool.or_eq_true, Bool.and_eq_true, decide_eq_true_eq]
 by_cases e : a.1 = v.1
 ·rcases h.2 with h2 | h2
  ·exact absurd e h2
  ·exact Or.inr ⟨e.symm, by omega⟩
 ·rcases lt_total e with h2 | h2
  ·rw [h2] at h; exact absurd h.1 (by simp)
  ·exact Or.inl h2
abbrev AscV (xs : List Vr) : Prop := xs.Pairwise fun a b => asc a b = true
theorem tw_all {p : Vr → Bool} : ∀ {l : List Vr} {x : Vr}, x ∈ l.takeWhile p → p x = true
 | y :: l, x, h => by
  cases hp : p y
  ·rw [List.takeWhile_cons_of_neg (by simp [hp])] at h; cases h
  ·rw [List.takeWhile_cons_of_pos hp] at h
   rcases List.mem_cons.1 h with rfl | h
   ·exact hp
   ·exact tw_all h
theorem asc_ins {l : List Vr} {v : Vr} (h : AscV l) (hno : ∀ x ∈ l, ¬ (x.1 = v.1 ∧ x.2.2.2 = v.2.2.2)) : AscV (insV l v) := by
 unfold insV
 have e := List.takeWhile_append_dropWhile (p := leV v) (l := l)
 have hT : ∀ x ∈ l.takeWhile (leV v), asc x v = true := fun x hx => by
  have h1 : leV v x = true := tw_all hx
  rw [asc_le (hno x ((List.takeWhile_sublist _).subset hx))]
  exact h1
 rw [← e] at h
 unfold AscV at *
 rw [List.pairwise_append] at h ⊢
 obtain ⟨h1, h2, h3⟩ := h
 have hD : ∀ y ∈ l.dropWhile (leV v), asc v y = true := by
  cases hd : l.dropWhile (leV v) with
  | nil => intro y hy; cases hy
  | cons d D =>
   have hf : leV v d = false := by
    have h5 := List.head_dropWhile_not (leV v) (l := l) (by rw [hd]; simp)
    simp only [hd, List.head_cons] at h5
    exact h5
   rw [hd, List.pairwise_cons] at h2
   intro y hy
   rcases List.mem_cons.1 hy with rfl | hy
   ·exact asc_of_not hf
   ·exact asc_tr (asc_of_not hf) (h2.1 y hy)
 refine ⟨h1, List.pairwise_cons.2 ⟨hD, h2⟩, fun x hx y hy => ?_⟩
 rcases List.mem_cons.1 hy with rfl | hy
 ·exact hT x hx
 ·exact h3 x hx y hy
theorem asc_putV {xs : List Vr} {ws : List Wt} {cs : Int} (hx : ∀ x ∈ xs, x.2.2.2 ≠ cs) (hw : ws.Pairwise (fun a b => a.1 ≠ b.1)) (hA : AscV xs) : ∀ i, i ≤ ws.length → AscV (putV xs (ws.take i) cs)
 | 0, _ => hA
 | i + 1, h => by
  rw [putV_snoc xs ws cs i h]
  exact asc_ins (asc_putV hx hw hA i (by omega)) (no_alike hx hw i h)
def VsD (k : Int) (xs : List Vr) : Prop := (∀ x ∈ xs, verB x = true ∧ x.2.2.2 ≤ k ∧ x.1.size ≤ 3 ∧ x.2.1.size ≤ 3) ∧ AscV xs
theorem WsD.ne {ws : List Wt} (h : WsD ws) : ws.Pairwise (fun a b => a.1 ≠ b.1) := h.2.imp fun {a b} hl e => by rw [e, lt_irrefl'] at hl; cases hl
theorem VsD.ne {k cs : Int} {xs : List Vr} (h : VsD k xs) (hk : k < cs) : ∀ x ∈ xs, x.2.2.2 ≠ cs := fun x hx e => by have := (h.1 x hx).2.1; omega
theorem vsd_put {k cs : Int} {xs : List Vr} {ws : List Wt} (h : VsD k xs) (hw : WsD ws) (hk : k < cs) (h1 : 1 ≤ cs) (h2 : cs ≤ 9999) : VsD cs (putV xs ws cs) := by
 refine ⟨fun x hx => ?_, ?_⟩
 ·rcases mem_put.1 hx with hx | ⟨y, hy, rfl⟩
  ·obtain ⟨a, b, c⟩ := h.1 x hx
   exact ⟨a, by omega, c⟩
  ·obtain ⟨a, b, c⟩ := hw.1 y hy
   refine ⟨?_, Int.le_refl _, b, c⟩
   show (writeB y && decide (1 ≤ cs) && decide (cs ≤ 9999)) = true
   simp [a, h1, h2]
 ·have := asc_putV (h.ne hk) hw.ne h.2 ws.length (Nat.le_refl _)
  rwa [List.take_length] at this
theorem VsD.mono {k l : Int} {xs : List Vr} (h : VsD k xs) (hk : k ≤ l) : VsD l xs := ⟨fun x hx => by obtain ⟨a, b, c⟩ := h.1 x hx; exact ⟨a, by omega, c⟩, h.2⟩
theorem VsD.fit {k : Int} {xs : List Vr} (h : VsD k xs) : VFit xs := fun x hx => by obtain ⟨a, b, c, d⟩ := h.1 x hx; exact ⟨by omega, by omega⟩
theorem vsd_nil : VsD 0 [] := ⟨by simp, List.Pairwise.nil⟩

end Go.Proofs.YtnljmdodpffmoaaGreat

namespace Go.Proofs.YtnljmdodpffmoaaGreat
open Go.RowKit
open KM
open VM
attribute [local go_sem ↓] Go.wp_at_zero Go.wp_at_succ

set_option maxRecDepth 100000 in
set_option maxHeartbeats 1000000 in
theorem drVersions (g len cap : Nat) (a : Option Addr) (w : World) (hc : CurI w g a len cap) :
  Calls Tryz.prog 94 #[.pointer (some ⟨g, 0, none⟩)] w fun e w' => ∃ (xs : List Vr) (a1 : Option Addr) (c1 : Nat), VsD 8 xs ∧ xs.length ≤ 24 ∧ e = .returned (.slice a1 xs.length c1) ∧ GOwn encV 134 w' w.heap.size (.slice a1 xs.length c1) xs ∧ Dn w w' g a len cap := by
 have HC : Hid (CurI w g a len cap) := hc
 have hgl : g < w.heap.size := hc.lt
 clear hc
 go_enter Tryz.func94, Tryz.ntmps94
 go_wp2
 go_loopw [3, 4] (fun v t wr => ∃ (k : Nat) (xs : List Vr) (a1 : Option Addr) (c1 : Nat), k ≤ 8 ∧ t = .int .i64 k ∧ v = .slice a1 xs.length c1 ∧ xs.length ≤ 3 * k ∧ Hid (VsD k xs) ∧ Hid (GOwn encV 134 wr w.heap.size (.slice a1 xs.length c1) xs) ∧ Hid (Dn w wr g a len cap)) (fun _ t _ => 9 - (intOf t).toNat)
 case atStart => exact ⟨0, [], _, _, by omega, rfl, rfl, Nat.le_refl _, vsd_nil, GOwn.empty _ _ (Nat.le_refl _), (Dn.start HC.out).alloc _⟩
 case round =>
  obtain ⟨k, xs, a1, c1, hk, rfl, rfl, hxl, HS, HO, HD⟩ := hrel
  go_wp2_with fail
  refine (drBelow g len cap a 8 (by omega) (by omega) _ HD.out.c).mono ?_
  rintro e w1 ⟨n, hn, rfl, d1⟩
  have D1 : Hid (Dn w w1 g a len cap) := HD.out.step d1
  have O1 : Hid (GOwn encV 134 w1 w.heap.size (.slice a1 xs.length c1) xs) := HO.out.keptD d1 hgl
  clear d1
  by_cases hlt : k < n
  ·have hlt' : (k : Int) < (n : Int) := by omega
   go_wp2_with fail
   refine (drWrites g len cap a _ D1.out.c).mono ?_
   rintro e w2 ⟨ws, a2, c2, hws, hwl, rfl, ho2, d2⟩
   have D2 : Hid (Dn w w2 g a len cap) := D1.out.step d2
   have O2 : Hid (GOwn encV 134 w2 w.heap.size (.slice a1 xs.length c1) xs) := O1.out.keptD d2 hgl
   have HW : Hid (WsD ws) := hws
   have HR : Hid (GRow encW w2 a2 ws) := ho2.grow
   clear d2 hws ho2
   go_wp2_with fail
   refine (sputv xs ws (.slice a1 xs.length c1) a2 c2 ((k : Int) + 1) w.heap.size (by omega) (by omega) _ O2.out HR.out).mono ?_
   rintro e w3 ⟨a3, c3, rfl, ho3, hb3⟩
   have O3 : Hid (GOwn encV 134 w3 w.heap.size (.slice a3 (putV xs ws ((k : Int) + 1)).length c3) (putV xs ws ((k : Int) + 1))) := ho3.mono D2.out.size
   have D3 : Hid (Dn w w3 g a len cap) := D2.out.below hb3
   have HS2 : Hid (VsD ((k + 1 : Nat) : Int) (putV xs ws ((k : Int) + 1))) := by
    have h := vsd_put (cs := (k : Int) + 1) HS.out HW.out (by omega) (by omega) (by omega)
    show VsD _ _
    rw [Int.natCast_add]
    exact h
   have hl2 : (putV xs ws ((k : Int) + 1)).length ≤ 3 * (k + 1) := by rw [put_len]; omega
   clear ho3 hb3
   go_wp2
   go_roundw
   case rel => exact ⟨k + 1, _, a3, c3, by omega, by go_num, rfl, hl2, HS2, O3, D3⟩
   case measure => simp [intOf]; omega
  ·have hlt' : ¬ (k : Int) < (n : Int) := by omega
   have HS8 : Hid (VsD 8 xs) := HS.out.mono (by omega)
   go_wp2
   go_ret
   exact ⟨xs, a1, c1, HS8.out, by omega, rfl, O1.out, D1.out⟩

end Go.Proofs.YtnljmdodpffmoaaGreat

namespace Go.Proofs.YtnljmdodpffmoaaGreat
open Go.RowKit
open KM
open VM
attribute [local go_sem ↓] Go.wp_at_zero Go.wp_at_succ

theorem cells_setV {x x' : Vr} {j : Nat} {u : Value} (hj : j < 4) (he : encV.enc x' = (encV.enc x).set j u) : ∀ (l : List Vr) (i : Nat) (hi : i < l.length), l[i] = x → encV.cells (l.set i x') = (encV.cells l).set (i * 4 + j) u
 | y :: l, 0, _, e => by
  have e' : y = x := e
  subst e'
  have c1 : encV.cells (y :: l) = encV.enc y ++ encV.cells l := rfl
  have c2 : encV.cells ((y :: l).set 0 x') = encV.enc x' ++ encV.cells l := rfl
  rw [c1, c2, he, Nat.zero_mul, Nat.zero_add, List.set_append_left _ _ (by rw [encV.len]; exact hj)]
 | y :: l, i + 1, hi, e => by
  have ih := cells_setV hj he l i (by simpa using hi) (by simpa using e)
  have c1 : encV.cells (y :: l) = encV.enc y ++ encV.cells l := rfl
  have c2 : encV.cells ((y :: l).set (i + 1) x') = encV.enc y ++ encV.cells (l.set i x') := rfl
  have hl : (encV.enc y).length = 4 := encV.len y
  rw [c1, c2, ih, List.set_append_right _ _ (by omega), hl, show (i + 1) * 4 + j - 4 = i * 4 + j by omega]
theorem own_cell {W : World} {base g cap : Nat} {l : List Vr} (h : GOwn encV 134 W base (.slice (some ⟨g, 0, none⟩) l.length cap) l) {i : Nat} (hi : i < l.length) {j : Nat} {u : Value} {x' : Vr} (hj : j < 4) (he : encV.enc x' = (encV.enc l[i]).set j u) :
  GOwn encV 134 (W.setCell ⟨g, i * 4 + j, none⟩ u) base (.slice (some ⟨g, 0, none⟩) (l.set i x').length cap) (l.set i x') := by
 unfold GOwn
 rw [cells_setV hj he l i hi rfl, List.length_set]
 exact (World.ownsRow.stored h (i * 4 + j) u).1
theorem vfit_set {l : List Vr} {i : Nat} {x : Vr} (h : VFit l) (hx : x.1.size ≤ 1048576 ∧ x.2.1.size ≤ 1048576) : VFit (l.set i x) := fun y hy => by
 rcases List.mem_or_eq_of_mem_set hy with h1 | rfl
 ·exact h y h1
 ·exact hx

set_option maxRecDepth 100000 in
set_option maxHeartbeats 2000000 in
theorem drAnyV (g len cap : Nat) (a : Option Addr) (w : World) (hc : CurI w g a len cap) :
  Calls Tryz.prog 53 #[.pointer (some ⟨g, 0, none⟩)] w fun e w' => ∃ (xs : List Vr) (a1 : Option Addr) (c1 : Nat), VFit xs ∧ xs.length ≤ 24 ∧ e = .returned (.slice a1 xs.length c1) ∧ GOwn encV 134 w' w.heap.size (.slice a1 xs.length c1) xs ∧ Dn w w' g a len cap := by
 have HC : Hid (CurI w g a len cap) := hc
 have hgl : g < w.heap.size := hc.lt
 clear hc
 go_enter Tryz.func53, Tryz.ntmps53
 go_wp2_with fail
 refine (drBelow g len cap a 10 (by omega) (by omega) _ HC.out).mono ?_
 rintro e w1 ⟨k, hk, rfl, d1⟩
 have D1 : Hid (Dn w w1 g a len cap) := d1
 clear d1
 go_wp2_with fail
 refine (drBelow g len cap a 60 (by omega) (by omega) _ D1.out.c).mono ?_
 rintro e w2 ⟨x, hx, rfl, d2⟩
 have D2 : Hid (Dn w w2 g a len cap) := D1.out.step d2
 clear d2
 have E2 : Hid (GOwn encV 134 (w2.alloc (.cells #[] 134)) w.heap.size (.slice (some ⟨w2.heap.size, 0, none⟩) 0 0) []) := GOwn.empty w2 _ D2.out.size
 go_wp2_with fail
 refine (drVersions g len cap a _ (D2.out.c.alloc _)).mono ?_
 rintro e w3 ⟨xs, a1, c1, hv, hxl, rfl, ho, d3⟩
 have D3 : Hid (Dn w w3 g a len cap) := (D2.out.alloc _).step d3
 have E3 : Hid (GOwn encV 134 w3 w.heap.size (.slice (some ⟨w2.heap.size, 0, none⟩) 0 0) []) := E2.out.keptD d3 hgl
 have HF : Hid (VFit xs) := hv.fit
 have HSrc : Hid ((a1 = none ∧ xs.length = 0 ∧ c1 = 0) ∨ ∃ ad, a1 = some ad ∧ ∀ j u, (encV.cells xs)[j]? = some u → w3.cell? (ad.add j) = some u) := by
  rcases gown_shape ho with ⟨e1, rfl⟩ | ⟨g1, cap1, e1, hcap⟩
  ·cases e1; exact Or.inl ⟨rfl, rfl, rfl⟩
  ·cases e1
   refine Or.inr ⟨_, rfl, ?_⟩
   have h2 := drop_cells ho 0 (Nat.zero_le _)
   simpa using h2
 clear hv ho d3 E2
 go_wp2_with (at_builtin; refine wpAppRowV (v := .slice (some ⟨w2.heap.size, 0, none⟩) 0 0) rfl _ _ rfl rfl E3.out rfl HSrc.out rfl (by simp; omega) D3.out.size (fun h => by cases h) ?_)
 intro g1 cap1 L1 w4 hL1 ho4 hb4
 obtain rfl : L1 = xs.length := by simpa using hL1
 have HO : Hid (GOwn encV 134 w4 w.heap.size (.slice (some ⟨g1, 0, none⟩) xs.length cap1) xs) := ho4
 have D4 : Hid (Dn w w4 g a len cap) := D3.out.belowB hb4
 clear hL1 ho4 hb4 HSrc E3
 by_cases h0 : 0 < xs.length
 ·have h0' : (0 : Int) < (xs.length : Int) := by omega
  have h0n : ¬ ((xs.length : Int) = 0) := by omega
  obtain ⟨i, hi⟩ : ∃ i, i = x % xs.length := ⟨_, rfl⟩
  have hil : i < xs.length := by rw [hi]; exact Nat.mod_lt _ h0
  have hit : Int.tmod (x : Int) (xs.length : Int) = (i : Int) := by rw [hi]; rfl
  clear hi
  have hil' : (i : Int) < (xs.length : Int) := by omega
  have hi0 : (0 : Int) ≤ (i : Int) := by omega
  have hgb : w.heap.size ≤ g1 := by
   have := (World.ownsRow.lt HO.out g1 rfl).1
   exact this
  have hgt : g1 < w4.heap.size := (World.ownsRow.lt HO.out g1 rfl).2
  have fz := fun j => World.ownsRow.frozenAt HO.out j
  obtain ⟨b5, o5, hbo, _, hc5⟩ := HO.out.grow (by omega)
  cases hbo
  have r0 := (vat hc5 i hil).1
  have r1 := (vat hc5 i hil).2.1
  have r2 := (vat hc5 i hil).2.2.1
  have r3 := (vat hc5 i hil).2.2.2
  simp only [Nat.zero_add] at r0 r1 r2 r3
  clear hc5
  have f0 := fz (i * 4)
  have f1 := fz (i * 4 + 1)
  have f2 := fz (i * 4 + 2)
  have f3 := fz (i * 4 + 3)
  clear fz
  have hvi := HF.out xs[i] (List.getElem_mem hil)
  by_cases k0 : k = 0
  ·have k0' : ((k : Int) == 0) = true := by simp; omega
   obtain ⟨z, hz⟩ : ∃ z : Int, [Value.int .i64 0, Value.int .i64 9999, Value.int .i64 10000, Value.int .i64 3][x % 4]? = some (.int .i64 z) := by
    have h4 : x % 4 = 0 ∨ x % 4 = 1 ∨ x % 4 = 2 ∨ x % 4 = 3 := by omega
    rcases h4 with h | h | h | h <;> rw [h] <;> exact ⟨_, rfl⟩
   have HR := hide (own_cell HO.out hil (j := 3) (u := .int .i64 z) (x' := (xs[i].1, xs[i].2.1, xs[i].2.2.1, z)) (by omega) rfl)
   have HV : Hid (VFit (xs.set i (xs[i].1, xs[i].2.1, xs[i].2.2.1, z))) := vfit_set HF.out hvi
   clear k0
   go_wp2
   go_ret
   exact ⟨_, _, _, HV.out, by rw [List.length_set]; exact hxl, by rw [List.length_set]; rfl, HR.out.alloc _, (D4.out.set hgb _).alloc _⟩
  have k0' : ((k : Int) == 0) = false := by simp; omega
  by_cases k1 : k = 1
  ·have k1' : ((k : Int) == 1) = true := by simp; omega
   obtain ⟨z, hzs, hz⟩ : ∃ z : ByteArray, z.size ≤ 1 ∧ [Value.string ⟨#[]⟩, Value.string ⟨#[65]⟩, Value.string ⟨#[122]⟩][x % 3]? = some (.string z) := by
    have h4 : x % 3 = 0 ∨ x % 3 = 1 ∨ x % 3 = 2 := by omega
    rcases h4 with h | h | h <;> rw [h] <;> exact ⟨_, by decide, rfl⟩
   have HR := hide (own_cell HO.out hil (j := 0) (u := .string z) (x' := (z, xs[i].2.1, xs[i].2.2.1, xs[i].2.2.2)) (by omega) rfl)
   have HV : Hid (VFit (xs.set i (z, xs[i].2.1, xs[i].2.2.1, xs[i].2.2.2))) := vfit_set HF.out ⟨by show z.size ≤ _; omega, hvi.2⟩
   clear k0 k1
   go_wp2
   go_ret
   exact ⟨_, _, _, HV.out, by rw [List.length_set]; exact hxl, by rw [List.length_set]; rfl, HR.out.alloc _, (D4.out.set hgb _).alloc _⟩
  have k1' : ((k : Int) == 1) = false := by simp; omega
  by_cases k2 : k = 2
  ·have k2' : ((k : Int) == 2) = true := by simp; omega
   have HR := hide (own_cell HO.out hil (j := 2) (u := .bool true) (x' := (xs[i].1, xs[i].2.1, true, xs[i].2.2.2)) (by omega) rfl)
   have HV : Hid (VFit (xs.set i (xs[i].1, xs[i].2.1, true, xs[i].2.2.2))) := vfit_set HF.out hvi
   clear k0 k1 k2
   go_wp2
   go_ret
   exact ⟨_, _, _, HV.out, by rw [List.length_set]; exact hxl, by rw [List.length_set]; rfl, HR.out, D4.out.set hgb _⟩
  have k2' : ((k : Int) == 2) = false := by simp; omega
  by_cases k3 : k = 3
  ·have k3' : ((k : Int) == 3) = true := by simp; omega
   have C4 : Hid (∀ w, Calls Tryz.prog 89 #[.int .i64 13, .int .u8 97] w fun e w' => e = .returned (.string (longB 13 97)) ∧ Below w.heap.size w w') := fun w => long71 13 97 (by omega) w
   have HS : Hid ((longB 13 97).size ≤ 13) := by show _ ≤ _; rw [long_size]; omega
   generalize longB 13 97 = z at C4 HS
   clear k0 k1 k2 k3 r0 r1 r2 r3 f0 f1 f2 f3
   go_wp2_with fail
   refine (C4.out _).mono ?_
   rintro e w5 ⟨rfl, hb5⟩
   have D5 : Hid (Dn w w5 g a len cap) := D4.out.below hb5
   have HO5 : Hid (GOwn encV 134 w5 w.heap.size (.slice (some ⟨g1, 0, none⟩) xs.length cap1) xs) := HO.out.below hb5
   clear hb5
   have fz := fun j => World.ownsRow.frozenAt HO5.out j
   obtain ⟨b6, o6, hbo, _, hc6⟩ := HO5.out.grow (by omega)
   cases hbo
   have r1 := (vat hc6 i hil).2.1
   simp only [Nat.zero_add] at r1
   clear hc6
   have f1 := fz (i * 4 + 1)
   clear fz
   have HR := hide (own_cell HO5.out hil (j := 1) (u := .string z) (x' := (xs[i].1, z, xs[i].2.2.1, xs[i].2.2.2)) (by omega) rfl)
   have HV : Hid (VFit (xs.set i (xs[i].1, z, xs[i].2.2.1, xs[i].2.2.2))) := vfit_set HF.out ⟨hvi.1, by have := HS.out; show z.size ≤ _; omega⟩
   go_wp2
   go_ret
   exact ⟨_, _, _, HV.out, by rw [List.length_set]; exact hxl, by rw [List.length_set]; rfl, HR.out, D5.out.set hgb _⟩
  ·have k3' : ((k : Int) == 3) = false := by simp; omega
   clear k0 k1 k2 k3
   go_wp2
   go_ret
   exact ⟨xs, _, _, HF.out, hxl, rfl, HO.out, D4.out⟩
 ·obtain rfl : xs = [] := List.length_eq_zero_iff.1 (by omega)
  go_wp2
  go_ret
  exact ⟨[], some ⟨g1, 0, none⟩, cap1, HF.out, hxl, rfl, HO.out, D4.out⟩

end Go.Proofs.YtnljmdodpffmoaaGreat
