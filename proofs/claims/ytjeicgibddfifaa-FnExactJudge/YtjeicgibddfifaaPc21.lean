/- OpenAt of both sides. -/
import Derived.Test.YtjeicgibddfifaaPc13
import Derived.Test.YtjeicgibddfifaaPc20
import Derived.Deep.RegionHeld3
import Derived.Deep.Cut
import Derived.Deep.CutRange
import Derived.Laws.EntriesVeiled
import Derived.Lib.SliceRun
namespace Go.Proofs.Ytjeicgibddfifaa
open Go.RowKit
open KM
attribute [local go_sem ↓] Go.wp_at_zero Go.wp_at_succ

def ids (xs : List Ta) : List Int := xs.map fun x : Ta => x.t.id
theorem ids_len (xs : List Ta) : (ids xs).length = xs.length := by simp [ids]
theorem ids_at (xs : List Ta) (k : Nat) (h : k < xs.length) : (ids xs)[k]'(by rw [ids_len]; exact h) = xs[k].t.id := by simp [ids]
theorem ids_txs (xs : List Ta) : ids xs = (txs xs).map (·.id) := by simp [ids, txs, Function.comp_def]
def idxZ : List Int → Int → Nat → Int
 | [], _, _ => -1
 | x :: l, s, k => if (x == s) = true then (k : Int) else idxZ l s (k + 1)
theorem idxz_yes {l : List Int} {s : Int} {k : Nat} (hk : k < l.length) (h : (l[k] == s) = true) : idxZ (l.drop k) s k = (k : Int) := by
 rw [List.drop_eq_getElem_cons hk]
 unfold idxZ
 rw [if_pos h]
theorem idxz_no {l : List Int} {s : Int} {k : Nat} (hk : k < l.length) (h : (l[k] == s) = false) : idxZ (l.drop k) s k = idxZ (l.drop (k + 1)) s (k + 1) := by
 rw [List.drop_eq_getElem_cons hk]
 conv => lhs; unfold idxZ
 rw [if_neg (by rw [h]; simp)]
theorem idxz_end {l : List Int} {s : Int} {k : Nat} (hk : l.length ≤ k) : idxZ (l.drop k) s k = -1 := by
 rw [List.drop_of_length_le hk]
 rfl
theorem idxz_lt : ∀ (l : List Int) (s : Int) (k : Nat), idxZ l s k = -1 ∨ ∃ i : Nat, idxZ l s k = (i : Int) ∧ k ≤ i ∧ i < k + l.length
 | [], _, _ => Or.inl rfl
 | x :: l, s, k => by
  unfold idxZ
  split
  ·exact Or.inr ⟨k, rfl, Nat.le_refl _, by simp⟩
  ·rcases idxz_lt l s (k + 1) with h | ⟨i, h, h1, h2⟩
   ·exact Or.inl h
   ·exact Or.inr ⟨i, h, by omega, by simp; omega⟩
theorem beq_comm_int (a b : Int) : (a == b) = (b == a) := by
 rw [Bool.eq_iff_iff]
 simp only [beq_iff_eq]
 exact eq_comm

set_option maxRecDepth 100000 in
set_option maxHeartbeats 2000000 in
theorem sopenat (e : En) (i : Int) (hn : e.os.length ≤ 10000000) (w : World) (hp : TRows w e.oa e.os) :
  Calls Try.prog 12 #[.agg #[.slice e.b.va e.b.vs.length e.b.vc, .slice e.b.pa e.b.ps.length e.b.pc, .slice e.b.qa e.b.qs.length e.b.qc, .int .i64 e.b.cs, .int .i64 e.b.nx, .slice e.oa e.os.length e.oc], .int .i64 i] w fun ex w' => ex = .returned (.int .i64 (idxZ (ids e.os) i 0)) ∧ Below w.heap.size w w' := by
 have BA : Hid (Bx (w.alloc (.cells #[.slice e.b.va e.b.vs.length e.b.vc, .slice e.b.pa e.b.ps.length e.b.pc, .slice e.b.qa e.b.qs.length e.b.qc, .int .i64 e.b.cs, .int .i64 e.b.nx, .slice e.oa e.os.length e.oc] 27)) w.heap.size [.slice e.b.va e.b.vs.length e.b.vc, .slice e.b.pa e.b.ps.length e.b.pc, .slice e.b.qa e.b.qs.length e.b.qc, .int .i64 e.b.cs, .int .i64 e.b.nx, .slice e.oa e.os.length e.oc]) := Bx.new w [.slice e.b.va e.b.vs.length e.b.vc, .slice e.b.pa e.b.ps.length e.b.pc, .slice e.b.qa e.b.qs.length e.b.qc, .int .i64 e.b.cs, .int .i64 e.b.nx, .slice e.oa e.os.length e.oc] 27
 have HB : Hid (Below w.heap.size w (w.alloc (.cells #[.slice e.b.va e.b.vs.length e.b.vc, .slice e.b.pa e.b.ps.length e.b.pc, .slice e.b.qa e.b.qs.length e.b.qc, .int .i64 e.b.cs, .int .i64 e.b.nx, .slice e.oa e.os.length e.oc] 27))) := (belowRefl w).alloc (Nat.le_refl _) _
 have HQ : Hid (TRows (w.alloc (.cells #[.slice e.b.va e.b.vs.length e.b.vc, .slice e.b.pa e.b.ps.length e.b.pc, .slice e.b.qa e.b.qs.length e.b.qc, .int .i64 e.b.cs, .int .i64 e.b.nx, .slice e.oa e.os.length e.oc] 27)) e.oa e.os) := hp.below HB.out
 clear hp
 go_enter Try.func12, Try.ntmps12
 go_upto_region 1 with fail
 generalize (w.alloc (.cells #[.slice e.b.va e.b.vs.length e.b.vc, .slice e.b.pa e.b.ps.length e.b.pc, .slice e.b.qa e.b.qs.length e.b.qc, .int .i64 e.b.cs, .int .i64 e.b.nx, .slice e.oa e.os.length e.oc] 27)) = w0 at *
 go_wp2
 go_loopw [5] (fun t wr => ∃ k : Nat, k ≤ e.os.length ∧ t = .int .i64 k ∧ Hid (idxZ ((ids e.os).drop k) i k = idxZ (ids e.os) i 0) ∧ w0 = wr) (fun t _ => e.os.length - (intOf t).toNat)
 case atStart => exact ⟨0, Nat.zero_le _, rfl, rfl, rfl⟩
 case round =>
  obtain ⟨k, hk, rfl, HI, rfl⟩ := hrel
  have x5 := BA.out.c5
  by_cases hlt : k < e.os.length
  ·have hlt' : (k : Int) < (e.os.length : Int) := by omega
   have h0 : (0 : Int) ≤ (k : Int) := by omega
   obtain ⟨b0, o, ha, hbl, hc, -⟩ := HQ.out.cls k hlt
   have r0 := hc.c0
   have hkl : k < (ids e.os).length := by rw [ids_len]; exact hlt
   have HY : Hid ((e.os[k].t.id == i) = true → (k : Int) = idxZ (ids e.os) i 0) := fun h => by show _ = _; rw [← HI.out]; exact (idxz_yes hkl (by rw [ids_at _ _ hlt]; exact h)).symm
   have HN : Hid ((e.os[k].t.id == i) = false → idxZ ((ids e.os).drop (k + 1)) i (k + 1) = idxZ (ids e.os) i 0) := fun h => by show _ = _; rw [← HI.out]; exact (idxz_no hkl (by rw [ids_at _ _ hlt]; exact h)).symm
   obtain ⟨x, hx⟩ : ∃ x, x = e.os[k] := ⟨_, rfl⟩
   rw [← hx] at r0 HY HN
   clear hx hc hbl HI
   cases hq : (x.t.id == i)
   ·have HR := hide (HN.out hq)
    rw [ha] at x5
    clear HY HN
    go_wp2
    go_roundw
    case rel => exact ⟨k + 1, by omega, by go_num, HR, trivial⟩
    case measure => simp [intOf]; omega
   ·have HR : Hid ((k : Int) = idxZ (ids e.os) i 0) := HY.out hq
    rw [ha] at x5
    clear HY HN
    go_wp2
    go_ret
    exact ⟨ret_int HR.out, HB.out⟩
  ·have hd : ¬ (k : Int) < (e.os.length : Int) := by omega
   have HR : Hid ((-1 : Int) = idxZ (ids e.os) i 0) := by show _ = _; rw [← HI.out]; exact (idxz_end (by rw [ids_len]; omega)).symm
   clear HI
   go_wp2
   go_ret
   exact ⟨ret_int HR.out, HB.out⟩

set_option maxRecDepth 100000 in
set_option maxHeartbeats 2000000 in
theorem idxJ (ss : List Int) (a : Option Addr) (c n : Nat) (s : Int) (hx : n = ss.length) (hn : n ≤ 100000000) (w : World) (hp : GRow encI w a ss) :
  Calls Try.prog 50 #[.slice a n c, .int .i64 s] w fun e w' => e = .returned (.int .i64 (idxZ ss s 0)) ∧ Below w.heap.size w w' := by
 have HP : Hid (GRow encI w a ss) := hp
 have HX : Hid (n = ss.length) := hx
 clear hp hx
 go_enter Try.func50, Try.ntmps50
 go_wp2
 go_loopw [8] (fun t wr => ∃ k : Nat, k ≤ n ∧ t = .int .i64 k ∧ Hid (idxZ (ss.drop k) s k = idxZ ss s 0) ∧ w = wr) (fun t _ => n - (intOf t).toNat)
 case atStart => exact ⟨0, Nat.zero_le _, rfl, rfl, rfl⟩
 case round =>
  obtain ⟨k, hk, rfl, HI, rfl⟩ := hrel
  by_cases hlt : k < n
  ·have hlt' : (k : Int) < (n : Int) := by omega
   have h0 : (0 : Int) ≤ (k : Int) := by omega
   have hkl : k < ss.length := by rw [← HX.out]; exact hlt
   obtain ⟨b, off, rfl, hbl, hc⟩ := HP.out (by omega)
   have r0 := iat hc k hkl
   have HY : Hid ((s == ss[k]) = true → (k : Int) = idxZ ss s 0) := fun h => by show _ = _; rw [← HI.out]; exact (idxz_yes hkl (by rw [beq_comm_int]; exact h)).symm
   have HN : Hid ((s == ss[k]) = false → idxZ (ss.drop (k + 1)) s (k + 1) = idxZ ss s 0) := fun h => by show _ = _; rw [← HI.out]; exact (idxz_no hkl (by rw [beq_comm_int]; exact h)).symm
   obtain ⟨x, hx⟩ : ∃ x, x = ss[k] := ⟨_, rfl⟩
   rw [← hx] at r0 HY HN
   clear hx hc hbl HI
   cases hq : (s == x)
   ·have HR := hide (HN.out hq)
    clear HY HN
    go_wp2
    go_roundw
    case rel => exact ⟨k + 1, by omega, by go_num, HR, trivial⟩
    case measure => simp [intOf]; omega
   ·have HR : Hid ((k : Int) = idxZ ss s 0) := HY.out hq
    clear HY HN
    go_wp2
    go_ret
    exact ⟨ret_int HR.out, belowRefl w⟩
  ·have hd : ¬ (k : Int) < (n : Int) := by omega
   have HR : Hid ((-1 : Int) = idxZ ss s 0) := by show _ = _; rw [← HI.out]; exact (idxz_end (by rw [← HX.out]; omega)).symm
   clear HI
   go_wp2
   go_ret
   exact ⟨ret_int HR.out, belowRefl w⟩

set_option maxRecDepth 100000 in
set_option maxHeartbeats 2000000 in
theorem placeI (xs : List Ta) (a : Option Addr) (c n : Nat) (s : Int) (hx : n = xs.length) (hn : n ≤ 10000000) (w : World) (hp : TRows w a xs) :
  Calls Try.prog 30 #[.agg #[.slice a n c, .func (.func 49) #[] #[]], .int .i64 s] w fun e w' => e = .returned (.int .i64 (idxZ (ids xs) s 0)) ∧ Below w.heap.size w w' := by
 have HB0 : Hid (Below w.heap.size w (w.alloc (.cells #[.slice a n c, .func (.func 49) #[] #[]] 56))) := (belowRefl w).alloc (Nat.le_refl _) _
 have BA0 : Hid (Bx (w.alloc (.cells #[.slice a n c, .func (.func 49) #[] #[]] 56)) w.heap.size [.slice a n c, .func (.func 49) #[] #[]]) := Bx.new w [.slice a n c, .func (.func 49) #[] #[]] 56
 have H := hide (keys67 xs a c n hx hn (w.alloc (.cells #[.slice a n c, .func (.func 49) #[] #[]] 56)) (hp.below HB0.out))
 have HX : Hid (n = (ids xs).length) := by show _ = _; rw [ids_len, hx]
 clear hp hx
 go_enter Try.func30, Try.ntmps30
 go_wp2_with fail
 refine H.out.mono ?_
 rintro e w1 ⟨a1, c1, rfl, ho, hb1⟩
 have HB1 : Hid (Below w.heap.size w w1) := HB0.out.trans (hb1.mono HB0.out.size)
 have RO : Hid (GRow encI w1 a1 (ids xs)) := by have h := ho; rw [HX.out] at h; exact h.grow
 clear ho hb1
 go_wp2_with fail
 refine (idxJ (ids xs) a1 c1 n s HX.out (by omega) _ RO.out).mono ?_
 rintro e w2 ⟨rfl, hb2⟩
 have HB2 : Hid (Below w.heap.size w w2) := HB1.out.trans (hb2.mono HB1.out.size)
 clear hb2
 go_wp2
 go_ret
 exact ⟨rfl, HB2.out⟩

set_option maxRecDepth 100000 in
set_option maxHeartbeats 2000000 in
theorem iopenat (e : En) (i : Int) (hn : e.os.length ≤ 10000000) (w : World) (hp : TRows w e.oa e.os) :
  Calls Try.prog 14 #[.agg #[.slice e.b.va e.b.vs.length e.b.vc, .slice e.b.pa e.b.ps.length e.b.pc, .slice e.b.qa e.b.qs.length e.b.qc, .int .i64 e.b.cs, .int .i64 e.b.nx, .slice e.oa e.os.length e.oc], .int .i64 i] w fun ex w' => ex = .returned (.int .i64 (idxZ (ids e.os) i 0)) ∧ Below w.heap.size w w' := by
 have HB0 : Hid (Below w.heap.size w (w.alloc (.cells #[.slice e.b.va e.b.vs.length e.b.vc, .slice e.b.pa e.b.ps.length e.b.pc, .slice e.b.qa e.b.qs.length e.b.qc, .int .i64 e.b.cs, .int .i64 e.b.nx, .slice e.oa e.os.length e.oc] 27))) := (belowRefl w).alloc (Nat.le_refl _) _
 have HQ : Hid (TRows w e.oa e.os) := hp
 clear hp
 go_enter Try.func14, Try.ntmps14
 go_wp2_with fail
 refine (by42 e.oa e.oc e.os.length _).mono ?_
 rintro ex w1 ⟨rfl, hb1⟩
 have HB1 : Hid (Below w.heap.size w w1) := HB0.out.trans (hb1.mono HB0.out.size)
 clear hb1
 go_wp2_with fail
 refine (placeI e.os e.oa e.oc e.os.length i rfl hn _ (HQ.out.below HB1.out)).mono ?_
 rintro ex w2 ⟨rfl, hb2⟩
 have HB2 : Hid (Below w.heap.size w w2) := HB1.out.trans (hb2.mono HB1.out.size)
 clear hb2
 go_wp2
 go_ret
 exact ⟨rfl, HB2.out⟩

end Go.Proofs.Ytjeicgibddfifaa

namespace Go.Proofs.Ytjeicgibddfifaa
open Go.RowKit
open KM
attribute [local go_sem ↓] Go.wp_at_zero Go.wp_at_succ

end Go.Proofs.Ytjeicgibddfifaa

namespace Go.Proofs.Ytjeicgibddfifaa
open Go.RowKit
open KM
attribute [local go_sem ↓] Go.wp_at_zero Go.wp_at_succ

theorem own_puts {base e size g n cap : Nat} : ∀ (L : List Value) (o : Nat) (w : World) (xs : List Value), w.ownsRow base e size (.slice (some ⟨g, 0, none⟩) n cap) n xs → ∃ xs', (w.setCells g o L).ownsRow base e size (.slice (some ⟨g, 0, none⟩) n cap) n xs' ∧ (∀ j, j < o → xs'[j]? = xs[j]?) ∧ w.grownBy (w.setCells g o L) (some g)
 | [], _, w, xs, h => ⟨xs, h, fun _ _ => rfl, grown_refl _ _⟩
 | u :: L, o, w, xs, h => by
  have h1 := World.ownsRow.stored h o u
  obtain ⟨xs', k1, k2, k3⟩ := own_puts L (o + 1) _ _ h1.1
  refine ⟨xs', k1, fun j hj => ?_, grown_trans h1.2 k3⟩
  rw [k2 j (by omega), List.getElem?_set_ne (by omega)]
theorem cells_pre {α : Type} {E : Enc α} {w : World} {base n c g m : Nat} {e : TypeId} {zs : List α} {cs : List Value} (hn : n = zs.length) (h : w.ownsRow base e E.size (.slice (some ⟨g, 0, none⟩) n c) n cs) (hm : m ≤ n) (hc : ∀ j, j < m * E.size → cs[j]? = (E.cells zs)[j]?) : GOwn E e w base (.slice (some ⟨g, 0, none⟩) (zs.take m).length c) (zs.take m) := by
 subst hn
 have hl : (zs.take m).length = m := by simp; omega
 have hc2 : E.cells (zs.take m) = (E.cells zs).take (m * E.size) := by
  have e : E.cells zs = E.cells (zs.take m) ++ E.cells (zs.drop m) := by rw [← E.cells_app, List.take_append_drop]
  rw [e]
  exact (List.take_left' (by rw [E.cells_len, hl])).symm
 have hct : cs.take (m * E.size) = E.cells (zs.take m) := by
  rw [hc2]
  apply List.ext_getElem?
  intro j
  by_cases hj : j < m * E.size
  ·rw [List.getElem?_take_of_lt hj, List.getElem?_take_of_lt hj, hc j hj]
  ·rw [List.getElem?_take_eq_none (by omega), List.getElem?_take_eq_none (by omega)]
 obtain ⟨h1, h2⟩ := h
 refine ⟨E.cells_len _, ?_⟩
 rcases h2 with ⟨h2, _⟩ | ⟨g', cap, cur, hv, hb, hh, hnc, hcp, hcs, htk⟩
 ·cases h2
 ·cases hv
  refine Or.inr ⟨g, c, cur, rfl, hb, hh, by rw [hl]; omega, hcp, hcs, ?_⟩
  rw [hl, ← hct, ← htk, List.take_take, Nat.min_eq_left (Nat.mul_le_mul_right _ hm)]
theorem own_put8 {W : World} {base g n c i : Nat} {zs : List Ta} (hn : n = zs.length) (h0 : GOwn encT 51 W base (.slice (some ⟨g, 0, none⟩) n c) zs) (hi : i < n) (y : Ta) : GOwn encT 51 ((((((((W.setCell ⟨g, i * 8, none⟩ (.int .i64 y.t.id)).setCell ⟨g, i * 8 + 1, none⟩ (.int .i64 y.t.st)).setCell ⟨g, i * 8 + 2, none⟩ (.int .i64 y.t.snap)).setCell ⟨g, i * 8 + 3, none⟩ (.int .i64 y.t.cs)).setCell ⟨g, i * 8 + 4, none⟩ (.slice y.ra y.t.rs.length y.rc)).setCell ⟨g, i * 8 + 5, none⟩ (.slice y.wa y.t.ws.length y.wc)).setCell ⟨g, i * 8 + 6, none⟩ (.bool y.t.out)).setCell ⟨g, i * 8 + 7, none⟩ (.string y.t.nm)) base (.slice (some ⟨g, 0, none⟩) n c) (zs.set i y) ∧ W.grownBy ((((((((W.setCell ⟨g, i * 8, none⟩ (.int .i64 y.t.id)).setCell ⟨g, i * 8 + 1, none⟩ (.int .i64 y.t.st)).setCell ⟨g, i * 8 + 2, none⟩ (.int .i64 y.t.snap)).setCell ⟨g, i * 8 + 3, none⟩ (.int .i64 y.t.cs)).setCell ⟨g, i * 8 + 4, none⟩ (.slice y.ra y.t.rs.length y.rc)).setCell ⟨g, i * 8 + 5, none⟩ (.slice y.wa y.t.ws.length y.wc)).setCell ⟨g, i * 8 + 6, none⟩ (.bool y.t.out)).setCell ⟨g, i * 8 + 7, none⟩ (.string y.t.nm)) (some g) := by
 subst hn
 have h : W.ownsRow base 51 8 (.slice (some ⟨g, 0, none⟩) zs.length c) zs.length (encT.cells zs) := h0
 have hlen := h.1
 have s0 := World.ownsRow.stored h (i * 8) (.int .i64 y.t.id)
 have s1 := World.ownsRow.stored s0.1 (i * 8 + 1) (.int .i64 y.t.st)
 have s2 := World.ownsRow.stored s1.1 (i * 8 + 2) (.int .i64 y.t.snap)
 have s3 := World.ownsRow.stored s2.1 (i * 8 + 3) (.int .i64 y.t.cs)
 have s4 := World.ownsRow.stored s3.1 (i * 8 + 4) (.slice y.ra y.t.rs.length y.rc)
 have s5 := World.ownsRow.stored s4.1 (i * 8 + 5) (.slice y.wa y.t.ws.length y.wc)
 have s6 := World.ownsRow.stored s5.1 (i * 8 + 6) (.bool y.t.out)
 have s7 := World.ownsRow.stored s6.1 (i * 8 + 7) (.string y.t.nm)
 refine ⟨?_, grown_trans s0.2 (grown_trans s1.2 (grown_trans s2.2 (grown_trans s3.2 (grown_trans s4.2 (grown_trans s5.2 (grown_trans s6.2 s7.2))))))⟩
 have e : encT.cells (zs.set i y) = ((((((((encT.cells zs).set (i * 8) (.int .i64 y.t.id)).set (i * 8 + 1) (.int .i64 y.t.st)).set (i * 8 + 2) (.int .i64 y.t.snap)).set (i * 8 + 3) (.int .i64 y.t.cs)).set (i * 8 + 4) (.slice y.ra y.t.rs.length y.rc)).set (i * 8 + 5) (.slice y.wa y.t.ws.length y.wc)).set (i * 8 + 6) (.bool y.t.out)).set (i * 8 + 7) (.string y.t.nm) := by
  apply List.ext_getElem?
  intro j
  by_cases hj : j < zs.length * 8
  ·obtain ⟨q, r, hr, rfl⟩ : ∃ q r, r < 8 ∧ j = q * 8 + r := ⟨j / 8, j % 8, Nat.mod_lt _ (by omega), by omega⟩
   have hq : q < zs.length := by omega
   have c1 := encT.cells_at (zs.set i y) q (by simpa using hq) r hr
   have c2 := encT.cells_at zs q hq r hr
   have e8 : encT.size = 8 := rfl
   rw [e8] at c1 c2
   rw [c1]
   by_cases hqi : q = i
   ·subst hqi
    simp only [List.getElem_set_self]
    have hr8 : r = 0 ∨ r = 1 ∨ r = 2 ∨ r = 3 ∨ r = 4 ∨ r = 5 ∨ r = 6 ∨ r = 7 := by omega
    rcases hr8 with rfl | rfl | rfl | rfl | rfl | rfl | rfl | rfl
    ·simp only [Nat.add_zero]; rw [List.getElem?_set_ne (by omega), List.getElem?_set_ne (by omega), List.getElem?_set_ne (by omega), List.getElem?_set_ne (by omega), List.getElem?_set_ne (by omega), List.getElem?_set_ne (by omega), List.getElem?_set_ne (by omega), List.getElem?_set_self (by omega)]; rfl
    ·rw [List.getElem?_set_ne (by omega), List.getElem?_set_ne (by omega), List.getElem?_set_ne (by omega), List.getElem?_set_ne (by omega), List.getElem?_set_ne (by omega), List.getElem?_set_ne (by omega), List.getElem?_set_self (by simp only [List.length_set]; omega)]; rfl
    ·rw [List.getElem?_set_ne (by omega), List.getElem?_set_ne (by omega), List.getElem?_set_ne (by omega), List.getElem?_set_ne (by omega), List.getElem?_set_ne (by omega), List.getElem?_set_self (by simp only [List.length_set]; omega)]; rfl
    ·rw [List.getElem?_set_ne (by omega), List.getElem?_set_ne (by omega), List.getElem?_set_ne (by omega), List.getElem?_set_ne (by omega), List.getElem?_set_self (by simp only [List.length_set]; omega)]; rfl
    ·rw [List.getElem?_set_ne (by omega), List.getElem?_set_ne (by omega), List.getElem?_set_ne (by omega), List.getElem?_set_self (by simp only [List.length_set]; omega)]; rfl
    ·rw [List.getElem?_set_ne (by omega), List.getElem?_set_ne (by omega), List.getElem?_set_self (by simp only [List.length_set]; omega)]; rfl
    ·rw [List.getElem?_set_ne (by omega), List.getElem?_set_self (by simp only [List.length_set]; omega)]; rfl
    ·rw [List.getElem?_set_self (by simp only [List.length_set]; omega)]; rfl
   ·rw [List.getElem_set_ne (fun e => hqi e.symm)]
    rw [List.getElem?_set_ne (by omega), List.getElem?_set_ne (by omega), List.getElem?_set_ne (by omega), List.getElem?_set_ne (by omega), List.getElem?_set_ne (by omega), List.getElem?_set_ne (by omega), List.getElem?_set_ne (by omega), List.getElem?_set_ne (by omega), c2]
  ·rw [List.getElem?_eq_none (by rw [encT.cells_len]; show (zs.set i y).length * 8 ≤ j; simp; omega), List.getElem?_eq_none (by simp only [List.length_set]; omega)]
 unfold GOwn
 rw [e, List.length_set]
 exact s7.1

theorem run_clear8 {P : Program} (w : World) (t e ty : TypeId) (z : Value) (ht : P.underlying t = some (.slice e)) (hv : ∀ w, (zeroValue e).run P w = .ok z w) (b o n c : Nat) (L : List Value) (hL : (Builtin.zeroCells z.cells n).toList = L) (h1 : ∀ v ∈ L, v.oneCell' = true) (hn : 0 < n)
  (hc : ∀ j, j < L.length → (w.cell? ⟨b, o + j, none⟩).isSome = true) (hf : ∀ j, j < L.length → w.frozen? ⟨b, o + j, none⟩ = false) :
  (Builtin.clear_ #[t] ty #[.slice (some ⟨b, o, none⟩) n c]).run P w = .ok (.tuple #[]) (w.setCells b o L) := by
 have hst := run_storeCells_cells (P := P) b o L 0 w (by simpa using hc) (by simpa using hf) h1
 simp only [Nat.add_zero] at hst
 obtain ⟨m, rfl⟩ : ∃ m, n = m + 1 := ⟨n - 1, by omega⟩
 simp [Builtin.clear_, run_underlying ht, hv, hL, hst]
set_option maxRecDepth 100000 in
set_option maxHeartbeats 2000000 in
theorem ask54 (t : Tx) (ra wa : Option Addr) (rc wc : Nat) (x : Ta) (tb : Nat) (w : World) (hb : Bx w tb [.int .i64 t.id, .int .i64 t.st, .int .i64 t.snap, .int .i64 t.cs, .slice ra t.rs.length rc, .slice wa t.ws.length wc, .bool t.out, .string t.nm]) :
  Calls Try.prog 95 #[.agg #[.int .i64 x.t.id, .int .i64 x.t.st, .int .i64 x.t.snap, .int .i64 x.t.cs, .slice x.ra x.t.rs.length x.rc, .slice x.wa x.t.ws.length x.wc, .bool x.t.out, .string x.t.nm], .pointer (some ⟨tb, 0, none⟩)] w fun e w' => e = .returned (.bool (x.t.id == t.id)) ∧ Below w.heap.size w w' := by
 have HB : Hid (Below w.heap.size w (w.alloc (.cells #[.int .i64 x.t.id, .int .i64 x.t.st, .int .i64 x.t.snap, .int .i64 x.t.cs, .slice x.ra x.t.rs.length x.rc, .slice x.wa x.t.ws.length x.wc, .bool x.t.out, .string x.t.nm] 51))) := (belowRefl w).alloc (Nat.le_refl _) _
 have h0 := (hb.alloc (.cells #[.int .i64 x.t.id, .int .i64 x.t.st, .int .i64 x.t.snap, .int .i64 x.t.cs, .slice x.ra x.t.rs.length x.rc, .slice x.wa x.t.ws.length x.wc, .bool x.t.out, .string x.t.nm] 51)).c0
 clear hb
 go_enter Try.func95, Try.ntmps95
 go_wp2
 go_ret
 exact ⟨rfl, HB.out⟩

set_option maxRecDepth 100000 in
set_option maxHeartbeats 2000000 in
theorem idxD (t : Tx) (ra wa : Option Addr) (rc wc : Nat) (xs : List Ta) (a : Option Addr) (c n : Nat) (hx : n = xs.length) (hn : n ≤ 100000000) (tb : Nat) (w : World) (hp : GRow encT w a xs) (hb : Bx w tb [.int .i64 t.id, .int .i64 t.st, .int .i64 t.snap, .int .i64 t.cs, .slice ra t.rs.length rc, .slice wa t.ws.length wc, .bool t.out, .string t.nm]) :
  Calls Try.prog 96 #[.slice a n c, .func (.func 95) #[] #[.pointer (some ⟨tb, 0, none⟩)]] w fun e w' => ((e = .returned (.int .i64 (-1)) ∧ NoneOf (fun x => x.id == t.id) xs n) ∨ ∃ (k : Nat) (hk : k < xs.length), e = .returned (.int .i64 k) ∧ (xs[k].t.id == t.id) = true ∧ NoneOf (fun x => x.id == t.id) xs k) ∧ Below w.heap.size w w' := by
 have HP : Hid (GRow encT w a xs) := hp
 have BT : Hid (Bx w tb [.int .i64 t.id, .int .i64 t.st, .int .i64 t.snap, .int .i64 t.cs, .slice ra t.rs.length rc, .slice wa t.ws.length wc, .bool t.out, .string t.nm]) := hb
 have HX : Hid (n = xs.length) := hx
 clear hp hb hx
 go_enter Try.func96, Try.ntmps96
 go_wp2
 go_loopw [5, 8] (fun _ t' wr => ∃ k : Nat, k ≤ n ∧ t' = .int .i64 k ∧ Hid (NoneOf (fun x => x.id == t.id) xs k) ∧ Hid (Below w.heap.size w wr)) (fun _ t' _ => n - (intOf t').toNat)
 case atStart => exact ⟨0, Nat.zero_le _, rfl, (fun j hj h => by omega), belowRefl w⟩
 case round =>
  obtain ⟨k, hk, rfl, HN, HB⟩ := hrel
  by_cases hlt : k < n
  ·have hlt' : (k : Int) < (n : Int) := by omega
   have h0 : (0 : Int) ≤ (k : Int) := by omega
   have hkx : k < xs.length := by rw [← HX.out]; exact hlt
   obtain ⟨b, o, rfl, hbl, hq⟩ := (HP.out.below HB.out) (by omega)
   have hc := tat hq k hkx
   have HNo : Hid ((xs[k].t.id == t.id) = false → NoneOf (fun x => x.id == t.id) xs (k + 1)) := fun h => none_more HN.out hkx h
   have HCx := hide (ask54 t ra wa rc wc xs[k] tb wr (BT.out.below HB.out))
   obtain ⟨x, hx⟩ : ∃ x, x = xs[k] := ⟨_, rfl⟩
   have HXX : Hid (x = xs[k]) := hx
   rw [← hx] at hc HCx HNo
   clear hx hq
   have r0 := hc.c0
   have r1 := hc.c1
   have r2 := hc.c2
   have r3 := hc.c3
   have r4 := hc.c4
   have r5 := hc.c5
   have r6 := hc.c6
   have r7 := hc.c7
   clear hc
   go_wp2_with fail
   refine HCx.out.mono ?_
   rintro e w2 ⟨rfl, hb2⟩
   have HB2 : Hid (Below w.heap.size w w2) := HB.out.trans (hb2.mono HB.out.size)
   clear hb2 r0 r1 r2 r3 r4 r5 r6 r7
   cases hq : (x.t.id == t.id)
   ·have HN2 := hide (HNo.out hq)
    clear hq
    go_wp2
    go_roundw
    case rel => exact ⟨k + 1, by omega, by go_num, HN2, HB2⟩
    case measure => simp [intOf]; omega
   ·have hq2 : (xs[k]'(by rw [← HX.out]; exact hlt)).t.id = t.id := by rw [← HXX.out]; simpa using hq
    have HQ2 := hide hq2
    clear hq hq2
    go_wp2
    go_ret
    exact ⟨Or.inr ⟨k, by rw [← HX.out]; exact hlt, rfl, by simpa using HQ2.out, HN.out⟩, HB2.out⟩
  ·have hd : ¬ (k : Int) < (n : Int) := by omega
   have HNn : Hid (NoneOf (fun x => x.id == t.id) xs n) := fun j hj hjn => HN.out j hj (by omega)
   go_wp2
   go_ret
   exact ⟨Or.inl ⟨rfl, HNn.out⟩, HB.out⟩

end Go.Proofs.Ytjeicgibddfifaa
