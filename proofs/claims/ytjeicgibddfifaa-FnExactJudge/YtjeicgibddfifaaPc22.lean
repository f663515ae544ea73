/- Those of one Id are taken out of a list: slices.DeleteFunc, walked. -/
import Derived.Test.YtjeicgibddfifaaPc21
import Derived.Deep.Cut
namespace Go.Proofs.Ytjeicgibddfifaa
open Go.RowKit
open KM
attribute [local go_sem ↓] Go.wp_at_zero Go.wp_at_succ

def keepT (t : Tx) (x : Ta) : Bool := !(x.t.id == t.id)
theorem grow_n {α : Type} {E : Enc α} {e : TypeId} {w : World} {base n c : Nat} {a : Option Addr} {zs : List α} (hn : n = zs.length) (h : GOwn E e w base (.slice a n c) zs) : GRow E w a zs := by subst hn; exact h.grow
theorem keep_all {t : Tx} {ys : List Ta} {n : Nat} (h : NoneOf (fun x => x.id == t.id) ys n) (hn : n = ys.length) : ys.filter (keepT t) = ys := by
 rw [List.filter_eq_self]
 intro x hx
 obtain ⟨j, hj, rfl⟩ := List.getElem_of_mem hx
 unfold keepT
 have e : (ys[j].t.id == t.id) = false := h j hj (by omega)
 rw [e]
 rfl
theorem keep_take {t : Tx} {ys : List Ta} {k : Nat} (h : NoneOf (fun x => x.id == t.id) ys k) (hk : k < ys.length) (h2 : (ys[k].t.id == t.id) = true) : (ys.take (k + 1)).filter (keepT t) = ys.take k := by
 rw [filter_take _ ys k hk]
 have e : keepT t ys[k] = false := by unfold keepT; rw [h2]; rfl
 rw [e]
 simp only [Bool.false_eq_true, if_false, List.append_nil]
 rw [List.filter_eq_self]
 intro x hx
 obtain ⟨j, hj, rfl⟩ := List.getElem_of_mem hx
 have hj2 : j < k := by simp at hj; omega
 have hj3 : j < ys.length := by omega
 rw [List.getElem_take]
 unfold keepT
 have e : (ys[j].t.id == t.id) = false := h j hj3 hj2
 rw [e]
 rfl
theorem own_cap {w : World} {base e size n c g : Nat} {xs : List Value} (h : w.ownsRow base e size (.slice (some ⟨g, 0, none⟩) n c) n xs) : n ≤ c ∧ c ≤ maxLen := by
 rcases h.2 with ⟨h2, _⟩ | ⟨g', cap, cur, hv, hb, hh, hnc, hcp, hcs, htk⟩
 ·cases h2
 ·cases hv; exact ⟨hnc, hcp⟩
theorem set_take {α : Type} (zs : List α) (i : Nat) (h : i < zs.length) (y : α) : (zs.set i y).take (i + 1) = zs.take i ++ [y] := by
 rw [List.take_add_one, List.take_set_of_le (Nat.le_refl _), List.getElem?_set_self h]
 rfl
theorem zero_len (m : Nat) : (Builtin.zeroCells (Value.agg #[.int .i64 0, .int .i64 0, .int .i64 0, .int .i64 0, .slice none 0 0, .slice none 0 0, .bool false, .string ⟨#[]⟩]).cells m).toList.length = 8 * m := by
 simp [Builtin.zeroCells, Value.cells, Nat.mul_comm]
theorem zero_one (m : Nat) : ∀ v ∈ (Builtin.zeroCells (Value.agg #[.int .i64 0, .int .i64 0, .int .i64 0, .int .i64 0, .slice none 0 0, .slice none 0 0, .bool false, .string ⟨#[]⟩]).cells m).toList, v.oneCell' = true := by
 intro v hv
 obtain ⟨j, hj, rfl⟩ := List.getElem_of_mem hv
 have h8 : j % 8 = 0 ∨ j % 8 = 1 ∨ j % 8 = 2 ∨ j % 8 = 3 ∨ j % 8 = 4 ∨ j % 8 = 5 ∨ j % 8 = 6 ∨ j % 8 = 7 := by omega
 rcases h8 with h | h | h | h | h | h | h | h <;> simp [Builtin.zeroCells, Value.cells, h] <;> rfl
theorem zero27 (w : World) : (zeroValue 51).run Try.prog w = .ok (.agg #[.int .i64 0, .int .i64 0, .int .i64 0, .int .i64 0, .slice none 0 0, .slice none 0 0, .bool false, .string ⟨#[]⟩]) w := by kernel_rfl

set_option maxRecDepth 100000 in
set_option maxHeartbeats 4000000 in
theorem del53 (t : Tx) (ra wa : Option Addr) (rc wc : Nat) (ys : List Ta) (g c n base tb : Nat) (hx : n = ys.length) (hn : n ≤ 10000000) (w : World) (ho : GOwn encT 51 w base (.slice (some ⟨g, 0, none⟩) n c) ys) (hb : Bx w tb [.int .i64 t.id, .int .i64 t.st, .int .i64 t.snap, .int .i64 t.cs, .slice ra t.rs.length rc, .slice wa t.ws.length wc, .bool t.out, .string t.nm]) (hne : tb ≠ g) :
  Calls Try.prog 94 #[.slice (some ⟨g, 0, none⟩) n c, .func (.func 95) #[] #[.pointer (some ⟨tb, 0, none⟩)]] w fun e w' => ∃ n1 : Nat, e = .returned (.slice (some ⟨g, 0, none⟩) n1 c) ∧ n1 = (ys.filter (keepT t)).length ∧ GOwn encT 51 w' base (.slice (some ⟨g, 0, none⟩) n1 c) (ys.filter (keepT t)) ∧ w.grownBy w' (some g) := by
 have HO : Hid (GOwn encT 51 w base (.slice (some ⟨g, 0, none⟩) n c) ys) := ho
 have BT : Hid (Bx w tb [.int .i64 t.id, .int .i64 t.st, .int .i64 t.snap, .int .i64 t.cs, .slice ra t.rs.length rc, .slice wa t.ws.length wc, .bool t.out, .string t.nm]) := hb
 have HX : Hid (n = ys.length) := hx
 have hgl : g < w.heap.size := (World.ownsRow.lt (show w.ownsRow base 51 8 (.slice (some ⟨g, 0, none⟩) ys.length c) ys.length (encT.cells ys) by have h := ho; rw [hx] at h; exact h) g rfl).2
 have hcap : n ≤ c ∧ c ≤ maxLen := by have h := ho; rw [hx] at h ⊢; exact own_cap h
 have hnc := hcap.1
 have hcm := hcap.2
 unfold maxLen at hcm
 have H := hide (idxD t ra wa rc wc ys (some ⟨g, 0, none⟩) c n hx (by omega) tb w (grow_n hx ho) hb)
 clear ho hb hx hcap
 go_enter Try.func94, Try.ntmps94
 go_wp2_with fail
 refine H.out.mono ?_
 rintro e w1 ⟨he, hb1⟩
 have HB1 := hide hb1
 have O1 : Hid (GOwn encT 51 w1 base (.slice (some ⟨g, 0, none⟩) n c) ys) := HO.out.below hb1
 have G1 : Hid (w.grownBy w1 (some g)) := grown_below _ hb1
 clear hb1 H
 rcases he with ⟨rfl, hno⟩ | ⟨k, hk, rfl, hk1, hno⟩
 ·have HE : Hid (ys.filter (keepT t) = ys) := keep_all hno HX.out
  have HR : Hid (n = (ys.filter (keepT t)).length ∧ GOwn encT 51 w1 base (.slice (some ⟨g, 0, none⟩) n c) (ys.filter (keepT t))) := ⟨by rw [HE.out]; exact HX.out, by rw [HE.out]; exact O1.out⟩
  clear hno HE
  go_wp2
  go_ret
  exact ⟨n, rfl, HR.out.1, HR.out.2, G1.out⟩
 ·have HS : Hid (ys.take k = (ys.take (k + 1)).filter (keepT t)) := (keep_take hno hk hk1).symm
  have hkn : k < n := by rw [HX.out]; exact hk
  have hkw : IntKind.i64.wrap ((k : Int) + 1) = (k : Int) + 1 := by rw [IntKind.wrap_i64]; omega
  have hkm : ((k : Int) == -1) = false := by simp
  have hkd : ¬ (k : Int) = -1 := by omega
  clear hno hk hk1
  go_wp2
  go_loopw [5, 6] (fun ti tj wr => ∃ (i j : Nat) (zs : List Ta), ti = .int .i64 i ∧ tj = .int .i64 j ∧ i < j ∧ j ≤ n ∧ Hid (n = zs.length) ∧ Hid (zs.take i = (ys.take j).filter (keepT t)) ∧ Hid (∀ m, j ≤ m → zs[m]? = ys[m]?) ∧ Hid (GOwn encT 51 wr base (.slice (some ⟨g, 0, none⟩) n c) zs) ∧ Hid (w.grownBy wr (some g))) (fun _ tj _ => n - (intOf tj).toNat)
  case atStart => exact ⟨k, k + 1, ys, rfl, by go_num, by omega, by omega, HX, HS, (fun _ _ => rfl), O1, G1⟩
  case round =>
   clear O1 G1 HS HB1
   obtain ⟨i, j, zs, rfl, rfl, hij, hjn, HZ, HT, HD, HOz, HG⟩ := hrel
   by_cases hlt : j < n
   ·have hlt' : (j : Int) < (n : Int) := by omega
    have h0 : (0 : Int) ≤ (j : Int) := by omega
    have hjy : j < ys.length := by rw [← HX.out]; exact hlt
    have hjz : j < zs.length := by rw [← HZ.out]; exact hlt
    have hiz : i < zs.length := by rw [← HZ.out]; omega
    have ex : zs[j] = ys[j] := by have h := HD.out j (Nat.le_refl _); rw [List.getElem?_eq_getElem hjz, List.getElem?_eq_getElem hjy] at h; exact Option.some.inj h
    obtain ⟨b, o, e9, hbl, hq⟩ := (grow_n HZ.out HOz.out) (by omega)
    cases e9
    have hc := tat hq j hjz
    rw [ex] at hc
    have HK1 : Hid (keepT t ys[j] = true → (ys.take (j + 1)).filter (keepT t) = (ys.take j).filter (keepT t) ++ [ys[j]]) := fun h => by show _ = _; rw [filter_take _ ys j hjy, h]; rfl
    have HK0 : Hid (keepT t ys[j] = false → (ys.take (j + 1)).filter (keepT t) = (ys.take j).filter (keepT t)) := fun h => by show _ = _; rw [filter_take _ ys j hjy, h]; simp
    have HYJ : Hid (ys[j]? = some ys[j]) := List.getElem?_eq_getElem hjy
    obtain ⟨x, hx⟩ : ∃ x, x = ys[j] := ⟨_, rfl⟩
    rw [← hx] at hc HK1 HK0 HYJ
    clear hx ex hq
    simp only [Nat.zero_add] at hc
    have BTr : Hid (Bx wr tb [.int .i64 t.id, .int .i64 t.st, .int .i64 t.snap, .int .i64 t.cs, .slice ra t.rs.length rc, .slice wa t.ws.length wc, .bool t.out, .string t.nm]) := bx_marked BT.out HG.out (fun e => by cases e; exact hne rfl)
    have O1 := hide (HOz.out.alloc (.cells #[.int .i64 x.t.id, .int .i64 x.t.st, .int .i64 x.t.snap, .int .i64 x.t.cs, .slice x.ra x.t.rs.length x.rc, .slice x.wa x.t.ws.length x.wc, .bool x.t.out, .string x.t.nm] 51))
    have BX1 : Hid (Bx (wr.alloc (.cells #[.int .i64 x.t.id, .int .i64 x.t.st, .int .i64 x.t.snap, .int .i64 x.t.cs, .slice x.ra x.t.rs.length x.rc, .slice x.wa x.t.ws.length x.wc, .bool x.t.out, .string x.t.nm] 51)) wr.heap.size [.int .i64 x.t.id, .int .i64 x.t.st, .int .i64 x.t.snap, .int .i64 x.t.cs, .slice x.ra x.t.rs.length x.rc, .slice x.wa x.t.ws.length x.wc, .bool x.t.out, .string x.t.nm]) := Bx.new wr [.int .i64 x.t.id, .int .i64 x.t.st, .int .i64 x.t.snap, .int .i64 x.t.cs, .slice x.ra x.t.rs.length x.rc, .slice x.wa x.t.ws.length x.wc, .bool x.t.out, .string x.t.nm] 51
    have G1 : Hid (w.grownBy (wr.alloc (.cells #[.int .i64 x.t.id, .int .i64 x.t.st, .int .i64 x.t.snap, .int .i64 x.t.cs, .slice x.ra x.t.rs.length x.rc, .slice x.wa x.t.ws.length x.wc, .bool x.t.out, .string x.t.nm] 51)) (some g)) := grown_trans HG.out (grown_below _ ((belowRefl wr).alloc (Nat.le_refl _) _))
    have HC := hide (ask54 t ra wa rc wc x tb _ (BTr.out.alloc (.cells #[.int .i64 x.t.id, .int .i64 x.t.st, .int .i64 x.t.snap, .int .i64 x.t.cs, .slice x.ra x.t.rs.length x.rc, .slice x.wa x.t.ws.length x.wc, .bool x.t.out, .string x.t.nm] 51)))
    have hgw : g < wr.heap.size := Nat.lt_of_lt_of_le hgl HG.out.size
    have r0 := hc.c0
    have r1 := hc.c1
    have r2 := hc.c2
    have r3 := hc.c3
    have r4 := hc.c4
    have r5 := hc.c5
    have r6 := hc.c6
    have r7 := hc.c7
    clear hc hbl
    go_upto_region 8 with fail
    clear r0 r1 r2 r3 r4 r5 r6 r7
    have x0 := BX1.out.c0
    have x1 := BX1.out.c1
    have x2 := BX1.out.c2
    have x3 := BX1.out.c3
    have x4 := BX1.out.c4
    have x5 := BX1.out.c5
    have x6 := BX1.out.c6
    have x7 := BX1.out.c7
    cases hq : (x.t.id == t.id)
    ·rw [hq] at HC
     have HF := hide (HK1.out (by unfold keepT; rw [hq]; rfl))
     clear hq
     go_wp2_with fail
     refine HC.out.mono ?_
     rintro e w2 ⟨rfl, hb2⟩
     have O2 := hide (O1.out.below hb2)
     have BX2 : Hid (Bx w2 wr.heap.size [.int .i64 x.t.id, .int .i64 x.t.st, .int .i64 x.t.snap, .int .i64 x.t.cs, .slice x.ra x.t.rs.length x.rc, .slice x.wa x.t.ws.length x.wc, .bool x.t.out, .string x.t.nm]) := BX1.out.below hb2
     have G2 : Hid (w.grownBy w2 (some g)) := grown_trans G1.out (grown_below _ hb2)
     clear hb2 x0 x1 x2 x3 x4 x5 x6 x7
     have x0 := BX2.out.c0
     have x1 := BX2.out.c1
     have x2 := BX2.out.c2
     have x3 := BX2.out.c3
     have x4 := BX2.out.c4
     have x5 := BX2.out.c5
     have x6 := BX2.out.c6
     have x7 := BX2.out.c7
     obtain ⟨b, o, e9, hbl, hq⟩ := (grow_n HZ.out O2.out) (by omega)
     cases e9
     have hc := tat hq i hiz
     simp only [Nat.zero_add] at hc
     have z0 := hc.c0
     have z1 := hc.c1
     have z2 := hc.c2
     have z3 := hc.c3
     have z4 := hc.c4
     have z5 := hc.c5
     have z6 := hc.c6
     have z7 := hc.c7
     have hrow : w2.ownsRow base 51 8 (.slice (some ⟨g, 0, none⟩) zs.length c) zs.length (encT.cells zs) := by have h := O2.out; rw [HZ.out] at h; exact h
     have f0 := World.ownsRow.frozenAt hrow (i * 8)
     have f1 := World.ownsRow.frozenAt hrow (i * 8 + 1)
     have f2 := World.ownsRow.frozenAt hrow (i * 8 + 2)
     have f3 := World.ownsRow.frozenAt hrow (i * 8 + 3)
     have f4 := World.ownsRow.frozenAt hrow (i * 8 + 4)
     have f5 := World.ownsRow.frozenAt hrow (i * 8 + 5)
     have f6 := World.ownsRow.frozenAt hrow (i * 8 + 6)
     have f7 := World.ownsRow.frozenAt hrow (i * 8 + 7)
     have P := own_put8 HZ.out O2.out (show i < n by omega) x
     have O3 : Hid (GOwn encT 51 ((((((((w2.setCell ⟨g, i * 8, none⟩ (.int .i64 x.t.id)).setCell ⟨g, i * 8 + 1, none⟩ (.int .i64 x.t.st)).setCell ⟨g, i * 8 + 2, none⟩ (.int .i64 x.t.snap)).setCell ⟨g, i * 8 + 3, none⟩ (.int .i64 x.t.cs)).setCell ⟨g, i * 8 + 4, none⟩ (.slice x.ra x.t.rs.length x.rc)).setCell ⟨g, i * 8 + 5, none⟩ (.slice x.wa x.t.ws.length x.wc)).setCell ⟨g, i * 8 + 6, none⟩ (.bool x.t.out)).setCell ⟨g, i * 8 + 7, none⟩ (.string x.t.nm)) base (.slice (some ⟨g, 0, none⟩) n c) (zs.set i x)) := P.1
     have G3 : Hid (w.grownBy ((((((((w2.setCell ⟨g, i * 8, none⟩ (.int .i64 x.t.id)).setCell ⟨g, i * 8 + 1, none⟩ (.int .i64 x.t.st)).setCell ⟨g, i * 8 + 2, none⟩ (.int .i64 x.t.snap)).setCell ⟨g, i * 8 + 3, none⟩ (.int .i64 x.t.cs)).setCell ⟨g, i * 8 + 4, none⟩ (.slice x.ra x.t.rs.length x.rc)).setCell ⟨g, i * 8 + 5, none⟩ (.slice x.wa x.t.ws.length x.wc)).setCell ⟨g, i * 8 + 6, none⟩ (.bool x.t.out)).setCell ⟨g, i * 8 + 7, none⟩ (.string x.t.nm)) (some g)) := grown_trans G2.out P.2
     have HZ3 : Hid (n = (zs.set i x).length) := by show _ = _; rw [List.length_set]; exact HZ.out
     have HT3 : Hid ((zs.set i x).take (i + 1) = (ys.take (j + 1)).filter (keepT t)) := by show _ = _; rw [set_take zs i hiz x, HF.out, HT.out]
     have HD3 : Hid (∀ m, j + 1 ≤ m → (zs.set i x)[m]? = ys[m]?) := fun m hm => by rw [List.getElem?_set_ne (by omega)]; exact HD.out m (by omega)
     have hi0 : (0 : Int) ≤ (i : Int) := by omega
     have hin : (i : Int) < (n : Int) := by omega
     clear hc hq hbl hrow P O2 G2
     go_wp2
     go_roundw
     case rel =>
      exact ⟨i + 1, j + 1, zs.set i x, by go_num, by go_num, by omega, by omega, HZ3, HT3, HD3, O3, G3⟩
     case measure => simp [intOf]; omega
    ·rw [hq] at HC
     have HF := hide (HK0.out (by unfold keepT; rw [hq]; rfl))
     clear hq
     go_wp2_with fail
     refine HC.out.mono ?_
     rintro e w2 ⟨rfl, hb2⟩
     have O2 := hide (O1.out.below hb2)
     have G2 : Hid (w.grownBy w2 (some g)) := grown_trans G1.out (grown_below _ hb2)
     clear hb2 x0 x1 x2 x3 x4 x5 x6 x7
     go_wp2
     go_roundw
     case rel => exact ⟨i, j + 1, zs, rfl, by go_num, by omega, by omega, HZ, by rw [HF.out]; exact HT, (fun m hm => HD.out m (by omega)), O2, G2⟩
     case measure => simp [intOf]; omega
   ·have hlt' : ¬ (j : Int) < (n : Int) := by omega
    have hjn2 : j = n := by omega
    have HT2 : Hid (zs.take i = ys.filter (keepT t)) := by show _ = _; rw [HT.out, hjn2, List.take_of_length_le (by rw [← HX.out]; exact Nat.le_refl _)]
    have hin : i < n := by omega
    have hin1 : (i : Int) ≤ (n : Int) := by omega
    have hi0 : (0 : Int) ≤ (i : Int) := by omega
    have hci : ¬ c = i := by omega
    clear hjn2 HT HD
    obtain ⟨L, hL⟩ : ∃ L, (Builtin.zeroCells (Value.agg #[.int .i64 0, .int .i64 0, .int .i64 0, .int .i64 0, .slice none 0 0, .slice none 0 0, .bool false, .string ⟨#[]⟩]).cells (n - i)).toList = L := ⟨_, rfl⟩
    have hLl : L.length = 8 * (n - i) := by rw [← hL]; exact zero_len _
    have hL1 : ∀ v ∈ L, v.oneCell' = true := by rw [← hL]; exact zero_one _
    have hrow : wr.ownsRow base 51 8 (.slice (some ⟨g, 0, none⟩) n c) n (encT.cells zs) := by have h := HOz.out; unfold GOwn at h; rw [← HZ.out] at h; exact h
    have hrl := hrow.1
    have HCL : Hid ((Builtin.clear_ #[23] 0 #[.slice (some ⟨g, i * 8, none⟩) (n - i) (c - i)]).run Try.prog wr = .ok (.tuple #[]) (wr.setCells g (i * 8) L)) := run_clear8 wr 23 51 0 _ Try.underlying23 zero27 g (i * 8) (n - i) (c - i) L hL hL1 (by omega) (fun q hq => by
     rw [World.ownsRow.cellAt hrow (i * 8 + q) (by omega), List.getElem?_eq_getElem (by omega)]
     rfl) (fun q hq => World.ownsRow.frozenAt hrow (i * 8 + q))
    obtain ⟨xs', k1, k2, k3⟩ := own_puts L (i * 8) wr (encT.cells zs) hrow
    have HF : Hid (GOwn encT 51 (wr.setCells g (i * 8) L) base (.slice (some ⟨g, 0, none⟩) (zs.take i).length c) (zs.take i)) := cells_pre HZ.out k1 (Nat.le_of_lt hin) k2
    have HTl : Hid ((zs.take i).length = i) := by show _ = _; rw [List.length_take, ← HZ.out]; omega
    have HR : Hid (i = (ys.filter (keepT t)).length ∧ GOwn encT 51 (wr.setCells g (i * 8) L) base (.slice (some ⟨g, 0, none⟩) i c) (ys.filter (keepT t)) ∧ w.grownBy (wr.setCells g (i * 8) L) (some g)) := by
     refine ⟨by rw [← HT2.out, HTl.out], ?_, grown_trans HG.out k3⟩
     have h := HF.out
     rw [HTl.out, HT2.out] at h
     exact h
    clear k1 k2 k3 hrow hrl hLl hL1 hL HF HTl HT2 HOz
    go_wp2_with fail
    rw [HCL.out]
    generalize wr.setCells g (i * 8) L = wz at *
    have hic : (i : Int) ≤ (c : Int) := by omega
    go_wp2
    go_ret
    exact ⟨i, rfl, HR.out.1, HR.out.2.1, HR.out.2.2⟩

end Go.Proofs.Ytjeicgibddfifaa
