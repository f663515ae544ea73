/- Marks of lists whose zones stand in any order. -/
import Derived.Test.YtjeicgibddfifaaGreatPc13
import Derived.Deep.RegionHeld3
import Derived.Deep.Cut
import Derived.Deep.CutRange
import Derived.Test.YtjeicgibddfifaaGreatPc08
import Derived.Laws.EntriesVeiled
import Derived.Lib.AppendZeros
namespace Go.Proofs.YtjeicgibddfifaaGreat
open Go.RowKit
open KM
attribute [local go_sem ↓] Go.wp_at_zero Go.wp_at_succ

def Zq (w : World) (v : Value) : List (Nat × Nat) → List Ta → Prop
 | [], [] => True
 | z :: Z, y :: ys => z.1 ≤ z.2 ∧ TLie w z.1 z.2 y.t y.ra y.rc y.wa y.wc ∧ Av v z.1 z.2 ∧ Zq w v Z ys
 | [], _ :: _ => False
 | _ :: _, [] => False
def Dz (lo hi : Nat) (Z : List (Nat × Nat)) : Prop := (∀ z ∈ Z, lo ≤ z.1 ∧ z.2 ≤ hi) ∧ Z.Pairwise (fun a b => a.2 ≤ b.1 ∨ b.2 ≤ a.1)
theorem Zq.len {w : World} {v : Value} : ∀ {Z : List (Nat × Nat)} {ys : List Ta}, Zq w v Z ys → Z.length = ys.length
 | [], [], _ => rfl
 | _ :: _, _ :: _, h => congrArg (· + 1) (Zq.len h.2.2.2)
 | [], _ :: _, h => h.elim
 | _ :: _, [], h => h.elim
theorem Zq.below {w w' : World} {v : Value} (hb : Below w.heap.size w w') : ∀ {Z : List (Nat × Nat)} {ys : List Ta}, Zq w v Z ys → Zq w' v Z ys
 | [], [], h => h
 | _ :: _, _ :: _, ⟨h1, h2, h3, h4⟩ => ⟨h1, h2.below hb, h3, Zq.below hb h4⟩
 | [], _ :: _, h => h.elim
 | _ :: _, [], h => h.elim
theorem Zq.zn {w w' : World} {v : Value} {l h : Nat} (hz : Zn l h w w') : ∀ {Z : List (Nat × Nat)} {ys : List Ta}, Zq w v Z ys → (∀ z ∈ Z, z.2 ≤ l ∨ h ≤ z.1) → Zq w' v Z ys
 | [], [], k, _ => k
 | z :: _, _ :: _, ⟨h1, h2, h3, h4⟩, k => ⟨h1, h2.zn hz (k z (List.mem_cons_self ..)), h3, Zq.zn hz h4 (fun y hy => k y (List.mem_cons_of_mem _ hy))⟩
 | [], _ :: _, k, _ => k.elim
 | _ :: _, [], k, _ => k.elim
theorem Zq.setO {w : World} {v : Value} {a : Addr} (hv : v.ownBlock = some a.block) (u : Value) : ∀ {Z : List (Nat × Nat)} {ys : List Ta}, Zq w v Z ys → Zq (w.setCell a u) v Z ys
 | [], [], h => h
 | _ :: _, _ :: _, ⟨h1, h2, h3, h4⟩ => ⟨h1, h2.setO (h3 _ hv) u, h3, Zq.setO hv u h4⟩
 | [], _ :: _, h => h.elim
 | _ :: _, [], h => h.elim
theorem Zq.snoc {w : World} {v : Value} {p q : Nat} {y : Ta} (hpq : p ≤ q) (hl : TLie w p q y.t y.ra y.rc y.wa y.wc) (ha : Av v p q) : ∀ {Z : List (Nat × Nat)} {ys : List Ta}, Zq w v Z ys → Zq w v (Z ++ [(p, q)]) (ys ++ [y])
 | [], [], _ => ⟨hpq, hl, ha, trivial⟩
 | _ :: _, _ :: _, ⟨h1, h2, h3, h4⟩ => ⟨h1, h2, h3, Zq.snoc hpq hl ha h4⟩
 | [], _ :: _, h => h.elim
 | _ :: _, [], h => h.elim
theorem Zq.each {w : World} {v : Value} : ∀ {Z : List (Nat × Nat)} {ys : List Ta}, Zq w v Z ys → ∀ y ∈ ys, TRow w y.t y.ra y.wa
 | [], [], _, _, hy => by cases hy
 | _ :: _, _ :: _, ⟨_, h2, _, h4⟩, y, hy => by
  rcases List.mem_cons.1 hy with rfl | hy
  ·exact h2.row
  ·exact Zq.each h4 y hy
 | [], _ :: _, h, _, _ => h.elim
 | _ :: _, [], h, _, _ => h.elim
theorem Zs.zq {w : World} {v : Value} : ∀ {ys : List Ta} {lo hi : Nat}, Zs w v lo hi ys → ∃ Z, Dz lo hi Z ∧ Zq w v Z ys
 | [], _, _, _ => ⟨[], ⟨fun _ h => (by cases h), List.Pairwise.nil⟩, trivial⟩
 | _ :: _, lo, hi, ⟨p, q, h1, h2, h3, h4, h5⟩ => by
  obtain ⟨Z, ⟨d1, d2⟩, hz⟩ := h5.zq
  have hq := h5.le
  refine ⟨(p, q) :: Z, ⟨fun z hz' => ?_, List.Pairwise.cons (fun z hz' => Or.inl (d1 z hz').1) d2⟩, h2, h3, h4, hz⟩
  rcases List.mem_cons.1 hz' with rfl | hz'
  ·exact ⟨h1, hq⟩
  ·have := d1 z hz'
   exact ⟨by omega, this.2⟩
structure LLq (w : World) (lo hi : Nat) (v : Value) (ys : List Ta) : Prop where
 own : Lies encT 56 w lo hi v ys
 zs : ∃ Z, Dz lo hi Z ∧ Zq w v Z ys
theorem LLq.below {w w' : World} {lo hi : Nat} {v : Value} {ys : List Ta} (h : LLq w lo hi v ys) (hb : Below w.heap.size w w') : LLq w' lo hi v ys := by
 obtain ⟨Z, d, z⟩ := h.zs
 exact ⟨h.own.below hb, Z, d, z.below hb⟩
theorem LLq.zn {w w' : World} {lo hi l h : Nat} {v : Value} {ys : List Ta} (k : LLq w lo hi v ys) (hz : Zn l h w w') (hne : hi ≤ l ∨ h ≤ lo) : LLq w' lo hi v ys := by
 obtain ⟨Z, d, z⟩ := k.zs
 exact ⟨k.own.zn hz hne, Z, d, z.zn hz (fun y hy => by have := d.1 y hy; omega)⟩
theorem LLq.rows {w : World} {lo hi c : Nat} {a : Option Addr} {ys : List Ta} (h : LLq w lo hi (.slice a ys.length c) ys) : TRows w a ys := by
 obtain ⟨Z, d, z⟩ := h.zs
 exact ⟨h.own.own.grow, z.each⟩
theorem LLie.q {w : World} {lo hi : Nat} {v : Value} {ys : List Ta} (h : LLie w lo hi v ys) : LLq w lo hi v ys := ⟨h.own, h.zs.zq⟩

set_option maxRecDepth 100000 in
set_option maxHeartbeats 8000000 in
theorem markLq (ys : List Ta) (a : Option Addr) (c n lo hi k0 : Nat) (hn : n = ys.length) (hnn : n ≤ 1048576) (hf : ∀ y ∈ ys, TFit y.t) (hk0 : 0 < k0) (hk1 : k0 ≤ 10000000000000000) (w : World) (h : LLq w lo hi (.slice a n c) ys) :
  Calls Tryz.prog 34 #[.slice a n c, .int .i64 k0] w fun e w' => e = .returned (.int .i64 ((k0 + wtL ys : Nat) : Int)) ∧ LLq w' lo hi (.slice a n c) (mkL ys k0) ∧ Zn lo hi w w' := by
 have HN : Hid (n = ys.length) := hn
 have HF : Hid (∀ y ∈ ys, TFit y.t) := hf
 have HWB : Hid (wtL ys ≤ 5600000000000) := by show _ ≤ _; have h1 := wtL_fit ys hf; have h2 : ys.length * 5242886 ≤ 1048576 * 5242886 := Nat.mul_le_mul_right _ (by omega); omega
 have HU : Hid (∀ g, (Value.slice a n c).ownBlock = some g → lo ≤ g ∧ g < hi) := h.own.lo
 have HO : Hid (w.ownsRow lo 56 8 (.slice a n c) n (encT.cells ys)) := by have h1 := h.own.own; unfold GOwn at h1; rw [← hn] at h1; exact h1
 obtain ⟨Z, hdz, hzq⟩ := h.zs
 have HZ : Hid (Zq w (.slice a n c) Z ys) := hzq
 have HDZ : Hid (Dz lo hi Z) := hdz
 have HZN : Hid (Z.length = ys.length) := hzq.len
 clear h hn hf hdz hzq
 go_enter Tryz.func34, Tryz.ntmps34
 go_wp2
 go_loopw [1, 5] (fun tk t wr => ∃ (k z : Nat) (xs : List Value), k ≤ n ∧ t = .int .i64 k ∧ tk = .int .i64 z ∧ Hid (z = k0 + wtL (ys.take k)) ∧ Hid (wr.ownsRow lo 56 8 (.slice a n c) n xs) ∧ Hid (∀ j, j < k * 8 → xs[j]? = (encT.cells (mkL (ys.take k) k0))[j]?) ∧ Hid (∀ j, k * 8 ≤ j → xs[j]? = (encT.cells ys)[j]?) ∧ Hid (Zq wr (.slice a n c) (Z.take k) (mkL (ys.take k) k0)) ∧ Hid (Zq wr (.slice a n c) (Z.drop k) (ys.drop k)) ∧ Hid (Zn lo hi w wr)) (fun _ t _ => n - (intOf t).toNat)
 case atStart => exact ⟨0, k0, _, Nat.zero_le _, rfl, rfl, rfl, HO, (fun j hj => by omega), (fun j hj => rfl), trivial, HZ, Zn.ofBelow _ _ (belowRefl w)⟩
 case round =>
  clear HO HZ
  obtain ⟨k, q0, xs, hk, rfl, rfl, HQ, HX, HA, HD, ZL, ZR, ZW⟩ := hrel
  by_cases hlt : k < n
  ·have hlt' : (k : Int) < (n : Int) := by omega
   have h0 : (0 : Int) ≤ (k : Int) := by omega
   have hky : k < ys.length := by rw [← HN.out]; exact hlt
   obtain ⟨g, rfl, hbg, hgl⟩ := own_form HX.out (by omega)
   have hgu := HU.out g rfl
   have hlen := HX.out.1
   have hq0 : 0 < q0 := by have := HQ.out; omega
   have hq1 : q0 ≤ 20000000000000000 := by have := HQ.out; have := wtL_take ys k; have := HWB.out; omega
   have HNX : Hid (q0 + wt ys[k] = k0 + wtL (ys.take (k + 1))) := by show _ = _; rw [HQ.out, wtL_next ys k hky]; omega
   have HMX : Hid (mkL (ys.take (k + 1)) k0 = mkL (ys.take k) k0 ++ [mkTa ys[k] q0]) := by show _ = _; rw [mkL_next ys k k0 hky, HQ.out]
   have HML : Hid ((mkL (ys.take k) k0).length = k) := by show _ = _; rw [mkL_len, List.length_take]; omega
   have hfx := HF.out _ (List.getElem_mem hky)
   have hzr := ZR.out
   have hkz : k < Z.length := by rw [HZN.out]; exact hky
   rw [List.drop_eq_getElem_cons hky, List.drop_eq_getElem_cons hkz] at hzr
   obtain ⟨hpq, hT, hAv, hrest⟩ := hzr
   have hzr1 := HDZ.out.1 Z[k] (List.getElem_mem hkz)
   have HDL : Hid (∀ z ∈ Z.take k, z.2 ≤ Z[k].1 ∨ Z[k].2 ≤ z.1) := fun z hz => by
    obtain ⟨i, hi9, rfl⟩ := List.getElem_of_mem hz
    rw [List.length_take] at hi9
    rw [List.getElem_take]
    have := (List.pairwise_iff_getElem.1 HDZ.out.2) i k (by omega) hkz (by omega)
    omega
   have HDR : Hid (∀ z ∈ Z.drop (k + 1), z.2 ≤ Z[k].1 ∨ Z[k].2 ≤ z.1) := fun z hz => by
    obtain ⟨i, hi9, rfl⟩ := List.getElem_of_mem hz
    rw [List.length_drop] at hi9
    rw [List.getElem_drop]
    have := (List.pairwise_iff_getElem.1 HDZ.out.2) k (k + 1 + i) hkz (by omega) (by omega)
    omega
   have HZT : Hid (Z.take (k + 1) = Z.take k ++ [(Z[k].1, Z[k].2)]) := by show _ = _; rw [take_next Z k hkz]
   generalize Z[k].1 = zp at *
   generalize Z[k].2 = zq at *
   have hav := hAv g rfl
   have HCX : Hid (∀ i, i < 8 → xs[k * 8 + i]? = (encT.enc ys[k])[i]?) := fun i hi => by
    rw [HD.out (k * 8 + i) (by omega)]
    exact encT.cells_at ys k hky i hi
   obtain ⟨x, hx⟩ : ∃ x, x = ys[k] := ⟨_, rfl⟩
   rw [← hx] at HNX HMX hfx hT HCX
   clear hx
   have hr8 : x.t.rs.length ≤ 1048576 := hfx.1
   have hw8 : x.t.ws.length ≤ 1048576 := hfx.2.2.1
   obtain ⟨zm, hpm, hmq, hR, hW⟩ := hT.ex
   have hlm : lo ≤ zp := hzr1.1
   have hqh : zq ≤ hi := hzr1.2
   have HAV : Hid (Av (Value.slice (some ⟨g, 0, none⟩) n c) zp zq) := hAv
   have OW0 := hide HX.out
   have GOW0 : Hid (wr.grownBy wr (some g)) := grown_refl _ _
   have cq0 : wr.cell? ⟨g, k * 8, none⟩ = some (xs[k * 8]'(by omega)) := by rw [World.ownsRow.cellAt OW0.out (k * 8) (by omega)]; simp
   have cf0 : wr.frozen? ⟨g, k * 8, none⟩ = false := World.ownsRow.frozenAt OW0.out (k * 8)
   have st := World.ownsRow.stored OW0.out (k * 8) (.int .i64 (q0 : Int))
   have OW1 := hide st.1
   have GOW1 : Hid (wr.grownBy (wr.setCell ⟨g, k * 8, none⟩ (.int .i64 (q0 : Int))) (some g)) := grown_trans GOW0.out st.2
   clear st
   have cq1 : wr.cell? ⟨g, k * 8 + 1, none⟩ = some (xs[k * 8 + 1]'(by omega)) := by rw [World.ownsRow.cellAt OW0.out (k * 8 + 1) (by omega)]; simp
   have cf1 : wr.frozen? ⟨g, k * 8 + 1, none⟩ = false := World.ownsRow.frozenAt OW0.out (k * 8 + 1)
   have st := World.ownsRow.stored OW1.out (k * 8 + 1) (.int .i64 ((q0 : Int) + 1))
   have OW2 := hide st.1
   have GOW2 : Hid (wr.grownBy ((wr.setCell ⟨g, k * 8, none⟩ (.int .i64 (q0 : Int))).setCell ⟨g, k * 8 + 1, none⟩ (.int .i64 ((q0 : Int) + 1))) (some g)) := grown_trans GOW1.out st.2
   clear st
   have cq2 : wr.cell? ⟨g, k * 8 + 2, none⟩ = some (xs[k * 8 + 2]'(by omega)) := by rw [World.ownsRow.cellAt OW0.out (k * 8 + 2) (by omega)]; simp
   have cf2 : wr.frozen? ⟨g, k * 8 + 2, none⟩ = false := World.ownsRow.frozenAt OW0.out (k * 8 + 2)
   have st := World.ownsRow.stored OW2.out (k * 8 + 2) (.int .i64 ((q0 : Int) + 1 + 1))
   have OW3 := hide st.1
   have GOW3 : Hid (wr.grownBy (((wr.setCell ⟨g, k * 8, none⟩ (.int .i64 (q0 : Int))).setCell ⟨g, k * 8 + 1, none⟩ (.int .i64 ((q0 : Int) + 1))).setCell ⟨g, k * 8 + 2, none⟩ (.int .i64 ((q0 : Int) + 1 + 1))) (some g)) := grown_trans GOW2.out st.2
   clear st
   have cq3 : wr.cell? ⟨g, k * 8 + 3, none⟩ = some (xs[k * 8 + 3]'(by omega)) := by rw [World.ownsRow.cellAt OW0.out (k * 8 + 3) (by omega)]; simp
   have cf3 : wr.frozen? ⟨g, k * 8 + 3, none⟩ = false := World.ownsRow.frozenAt OW0.out (k * 8 + 3)
   have st := World.ownsRow.stored OW3.out (k * 8 + 3) (.int .i64 ((q0 : Int) + 1 + 1 + 1))
   have OW4 := hide st.1
   have GOW4 : Hid (wr.grownBy ((((wr.setCell ⟨g, k * 8, none⟩ (.int .i64 (q0 : Int))).setCell ⟨g, k * 8 + 1, none⟩ (.int .i64 ((q0 : Int) + 1))).setCell ⟨g, k * 8 + 2, none⟩ (.int .i64 ((q0 : Int) + 1 + 1))).setCell ⟨g, k * 8 + 3, none⟩ (.int .i64 ((q0 : Int) + 1 + 1 + 1))) (some g)) := grown_trans GOW3.out st.2
   clear st
   have HZ4 : Hid (Zn lo hi wr ((((wr.setCell ⟨g, k * 8, none⟩ (.int .i64 (q0 : Int))).setCell ⟨g, k * 8 + 1, none⟩ (.int .i64 ((q0 : Int) + 1))).setCell ⟨g, k * 8 + 2, none⟩ (.int .i64 ((q0 : Int) + 1 + 1))).setCell ⟨g, k * 8 + 3, none⟩ (.int .i64 ((q0 : Int) + 1 + 1 + 1)))) := Zn.ofGrown GOW4.out (fun g' e => by cases e; exact hgu)
   have ZL4 : Hid (Zq ((((wr.setCell ⟨g, k * 8, none⟩ (.int .i64 (q0 : Int))).setCell ⟨g, k * 8 + 1, none⟩ (.int .i64 ((q0 : Int) + 1))).setCell ⟨g, k * 8 + 2, none⟩ (.int .i64 ((q0 : Int) + 1 + 1))).setCell ⟨g, k * 8 + 3, none⟩ (.int .i64 ((q0 : Int) + 1 + 1 + 1))) (Value.slice (some ⟨g, 0, none⟩) n c) (Z.take k) (mkL (ys.take k) k0)) := (((ZL.out.setO (a := ⟨g, k * 8, none⟩) rfl _).setO (a := ⟨g, k * 8 + 1, none⟩) rfl _).setO (a := ⟨g, k * 8 + 2, none⟩) rfl _).setO (a := ⟨g, k * 8 + 3, none⟩) rfl _
   have ZR4 : Hid (Zq ((((wr.setCell ⟨g, k * 8, none⟩ (.int .i64 (q0 : Int))).setCell ⟨g, k * 8 + 1, none⟩ (.int .i64 ((q0 : Int) + 1))).setCell ⟨g, k * 8 + 2, none⟩ (.int .i64 ((q0 : Int) + 1 + 1))).setCell ⟨g, k * 8 + 3, none⟩ (.int .i64 ((q0 : Int) + 1 + 1 + 1))) (Value.slice (some ⟨g, 0, none⟩) n c) (Z.drop (k + 1)) (ys.drop (k + 1))) := (((hrest.setO (a := ⟨g, k * 8, none⟩) rfl _).setO (a := ⟨g, k * 8 + 1, none⟩) rfl _).setO (a := ⟨g, k * 8 + 2, none⟩) rfl _).setO (a := ⟨g, k * 8 + 3, none⟩) rfl _
   have R4 : Hid (Lies encR 90 ((((wr.setCell ⟨g, k * 8, none⟩ (.int .i64 (q0 : Int))).setCell ⟨g, k * 8 + 1, none⟩ (.int .i64 ((q0 : Int) + 1))).setCell ⟨g, k * 8 + 2, none⟩ (.int .i64 ((q0 : Int) + 1 + 1))).setCell ⟨g, k * 8 + 3, none⟩ (.int .i64 ((q0 : Int) + 1 + 1 + 1))) zp zm (.slice x.ra x.t.rs.length x.rc) x.t.rs) := (((hR.setO (a := ⟨g, k * 8, none⟩) (by show g < zp ∨ zm ≤ g; omega) _).setO (a := ⟨g, k * 8 + 1, none⟩) (by show g < zp ∨ zm ≤ g; omega) _).setO (a := ⟨g, k * 8 + 2, none⟩) (by show g < zp ∨ zm ≤ g; omega) _).setO (a := ⟨g, k * 8 + 3, none⟩) (by show g < zp ∨ zm ≤ g; omega) _
   have W4 : Hid (Lies encW 47 ((((wr.setCell ⟨g, k * 8, none⟩ (.int .i64 (q0 : Int))).setCell ⟨g, k * 8 + 1, none⟩ (.int .i64 ((q0 : Int) + 1))).setCell ⟨g, k * 8 + 2, none⟩ (.int .i64 ((q0 : Int) + 1 + 1))).setCell ⟨g, k * 8 + 3, none⟩ (.int .i64 ((q0 : Int) + 1 + 1 + 1))) zm zq (.slice x.wa x.t.ws.length x.wc) x.t.ws) := (((hW.setO (a := ⟨g, k * 8, none⟩) (by show g < zm ∨ zq ≤ g; omega) _).setO (a := ⟨g, k * 8 + 1, none⟩) (by show g < zm ∨ zq ≤ g; omega) _).setO (a := ⟨g, k * 8 + 2, none⟩) (by show g < zm ∨ zq ≤ g; omega) _).setO (a := ⟨g, k * 8 + 3, none⟩) (by show g < zm ∨ zq ≤ g; omega) _
   have HX4 := hide OW4.out
   obtain ⟨xs4, hxs4⟩ : ∃ xs4, xs4 = ((((xs.set (k * 8) (.int .i64 (q0 : Int))).set (k * 8 + 1) (.int .i64 ((q0 : Int) + 1))).set (k * 8 + 2) (.int .i64 ((q0 : Int) + 1 + 1))).set (k * 8 + 3) (.int .i64 ((q0 : Int) + 1 + 1 + 1))) := ⟨_, rfl⟩
   rw [← hxs4] at HX4
   have HL4 : Hid (xs4 = ((((xs.set (k * 8) (.int .i64 (q0 : Int))).set (k * 8 + 1) (.int .i64 ((q0 : Int) + 1))).set (k * 8 + 2) (.int .i64 ((q0 : Int) + 1 + 1))).set (k * 8 + 3) (.int .i64 ((q0 : Int) + 1 + 1 + 1)))) := hxs4
   clear hxs4 hT hAv hrest hR hW ZL ZR OW1 OW2 OW3 OW4 GOW1 GOW2 GOW3 GOW4 GOW0 OW0
   go_upto_region 12 with fail
   clear cq0 cq1 cq2 cq3 cf0 cf1 cf2 cf3
   generalize ((((wr.setCell ⟨g, k * 8, none⟩ (.int .i64 (q0 : Int))).setCell ⟨g, k * 8 + 1, none⟩ (.int .i64 ((q0 : Int) + 1))).setCell ⟨g, k * 8 + 2, none⟩ (.int .i64 ((q0 : Int) + 1 + 1))).setCell ⟨g, k * 8 + 3, none⟩ (.int .i64 ((q0 : Int) + 1 + 1 + 1))) = w4 at *
   have hl4 := HX4.out.1
   have r4 : w4.cell? ⟨g, k * 8 + 4, none⟩ = some (.slice x.ra x.t.rs.length x.rc) := by
    rw [World.ownsRow.cellAt HX4.out (k * 8 + 4) (by omega), HL4.out, List.getElem?_set_ne (by omega), List.getElem?_set_ne (by omega), List.getElem?_set_ne (by omega), List.getElem?_set_ne (by omega), HCX.out 4 (by omega)]
    rfl
   have E4 : Hid ((q0 : Int) + 1 + 1 + 1 + 1 = ((q0 + 4 : Nat) : Int)) := by show _ = _; omega
   go_wp2_with fail
   rw [E4.out]
   refine (markR x.t.rs.length (q0 + 4) x.ra x.rc zp _ (by omega) (by omega) (by omega) _ R4.out.own).mono ?_
   rintro e w5 ⟨rfl, ho5, hg5⟩
   have hz5 : Zn zp zm w4 w5 := Zn.ofGrown hg5 (fun g' e => R4.out.lo g' e)
   have HX5 := hide (ownsZn HX4.out hz5 (fun g' e => by cases e; show g < zp ∨ zm ≤ g; omega))
   have ZL5 := hide (ZL4.out.zn hz5 (fun z hz => by have := HDL.out z hz; omega))
   have ZR5 := hide (ZR4.out.zn hz5 (fun z hz => by have := HDR.out z hz; omega))
   have R5 : Hid (Lies encR 90 w5 zp zm (.slice x.ra x.t.rs.length x.rc) (mkR (q0 + 4) x.t.rs.length)) := ⟨ho5, fun g' e => R4.out.up g' e⟩
   have W5 := hide (W4.out.zn hz5 (Or.inr (Nat.le_refl _)))
   have ZW5 : Hid (Zn lo hi w w5) := (ZW.out.trans HZ4.out).trans (hz5.mono (by omega) (by omega))
   clear hz5 ho5 hg5 r4 E4 ZL4 ZR4 R4 W4 ZW HZ4 HX4
   obtain ⟨k4, hk4⟩ : ∃ k4, k4 = q0 + 4 + 2 * x.t.rs.length := ⟨_, rfl⟩
   rw [← hk4]
   have HK4 : Hid (k4 = q0 + 4 + 2 * x.t.rs.length) := hk4
   have hk40 : 0 < k4 := by omega
   have hk41 : k4 ≤ 30000000000000000 := by omega
   clear hk4
   have r5 : w5.cell? ⟨g, k * 8 + 5, none⟩ = some (.slice x.wa x.t.ws.length x.wc) := by
    rw [World.ownsRow.cellAt HX5.out (k * 8 + 5) (by omega), HL4.out, List.getElem?_set_ne (by omega), List.getElem?_set_ne (by omega), List.getElem?_set_ne (by omega), List.getElem?_set_ne (by omega), HCX.out 5 (by omega)]
    rfl
   go_wp2_with fail
   refine (markW x.t.ws.length k4 x.wa x.wc zm _ (by omega) (by omega) (by omega) _ W5.out.own).mono ?_
   rintro e w6 ⟨rfl, ho6, hg6⟩
   have hz6 : Zn zm zq w5 w6 := Zn.ofGrown hg6 (fun g' e => W5.out.lo g' e)
   have HX6 := hide (ownsZn HX5.out hz6 (fun g' e => by cases e; show g < zm ∨ zq ≤ g; omega))
   have ZL6 := hide (ZL5.out.zn hz6 (fun z hz => by have := HDL.out z hz; omega))
   have ZR6 := hide (ZR5.out.zn hz6 (fun z hz => by have := HDR.out z hz; omega))
   have W6 : Hid (Lies encW 47 w6 zm zq (.slice x.wa x.t.ws.length x.wc) (mkW k4 x.t.ws.length)) := ⟨ho6, fun g' e => W5.out.up g' e⟩
   have R6 := hide (R5.out.zn hz6 (Or.inl (Nat.le_refl _)))
   have ZW6 : Hid (Zn lo hi w w6) := ZW5.out.trans (hz6.mono (by omega) (by omega))
   clear hz6 ho6 hg6 r5 ZL5 ZR5 R5 W5 ZW5 HX5
   obtain ⟨k5, hk5⟩ : ∃ k5, k5 = k4 + 3 * x.t.ws.length := ⟨_, rfl⟩
   rw [← hk5]
   have HK5 : Hid (k5 = q0 + 4 + 2 * x.t.rs.length + 3 * x.t.ws.length) := by show _ = _; rw [hk5, HK4.out]
   have hk50 : 0 < k5 := by omega
   have hk51 : k5 ≤ 40000000000000000 := by omega
   clear hk5
   have cq6 : w6.cell? ⟨g, k * 8 + 6, none⟩ = some (xs4[k * 8 + 6]'(by omega)) := by rw [World.ownsRow.cellAt HX6.out (k * 8 + 6) (by omega)]; simp
   have cf6 : w6.frozen? ⟨g, k * 8 + 6, none⟩ = false := World.ownsRow.frozenAt HX6.out (k * 8 + 6)
   have eg := ouQ_eq k5
   have st := World.ownsRow.stored HX6.out (k * 8 + 6) (.bool (ouQ k5))
   have HX7 := hide st.1
   have Z7 : Hid (Zn lo hi w6 (w6.setCell ⟨g, k * 8 + 6, none⟩ (.bool (ouQ k5)))) := Zn.ofGrown st.2 (fun g' e => by cases e; exact hgu)
   have ZL7 : Hid (Zq (w6.setCell ⟨g, k * 8 + 6, none⟩ (.bool (ouQ k5))) (Value.slice (some ⟨g, 0, none⟩) n c) (Z.take k) (mkL (ys.take k) k0)) := ZL6.out.setO (a := ⟨g, k * 8 + 6, none⟩) rfl _
   have ZR7 : Hid (Zq (w6.setCell ⟨g, k * 8 + 6, none⟩ (.bool (ouQ k5))) (Value.slice (some ⟨g, 0, none⟩) n c) (Z.drop (k + 1)) (ys.drop (k + 1))) := ZR6.out.setO (a := ⟨g, k * 8 + 6, none⟩) rfl _
   have R7 := hide (R6.out.setO (a := ⟨g, k * 8 + 6, none⟩) (by show g < zp ∨ zm ≤ g; omega) (.bool (ouQ k5)))
   have W7 := hide (W6.out.setO (a := ⟨g, k * 8 + 6, none⟩) (by show g < zm ∨ zq ≤ g; omega) (.bool (ouQ k5)))
   clear st ZL6 ZR6 R6 W6 HX6
   have E5 : Hid ((k5 : Int) + 1 = ((k5 + 1 : Nat) : Int)) := by show _ = _; omega
   go_wp2_with fail
   rw [E5.out]
   refine (mark87 (k5 + 1) (by omega) (by omega) _).mono ?_
   rintro e w8 ⟨rfl, hb8⟩
   have HX8 := hide (ownsBelow HX7.out hb8)
   have ZL8 := hide (ZL7.out.below hb8)
   have ZR8 := hide (ZR7.out.below hb8)
   have R8 := hide (R7.out.below hb8)
   have W8 := hide (W7.out.below hb8)
   have ZW8 : Hid (Zn lo hi w w8) := (ZW6.out.trans Z7.out).trans (Zn.ofBelow _ _ hb8)
   clear hb8 cq6 cf6 ZL7 ZR7 R7 W7 ZW6 Z7 HX7 E5
   have hl8 := HX8.out.1
   have cq7 : w8.cell? ⟨g, k * 8 + 7, none⟩ = some ((xs4.set (k * 8 + 6) (.bool (ouQ k5)))[k * 8 + 7]'(by simp only [List.length_set]; omega)) := by rw [World.ownsRow.cellAt HX8.out (k * 8 + 7) (by omega)]; simp
   have cf7 : w8.frozen? ⟨g, k * 8 + 7, none⟩ = false := World.ownsRow.frozenAt HX8.out (k * 8 + 7)
   have st := World.ownsRow.stored HX8.out (k * 8 + 7) (.string (mkB (k5 + 1)))
   have HX9 := hide st.1
   have ZW9 : Hid (Zn lo hi w (w8.setCell ⟨g, k * 8 + 7, none⟩ (.string (mkB (k5 + 1))))) := ZW8.out.trans (Zn.ofGrown st.2 (fun g' e => by cases e; exact hgu))
   have ZL9 : Hid (Zq (w8.setCell ⟨g, k * 8 + 7, none⟩ (.string (mkB (k5 + 1)))) (Value.slice (some ⟨g, 0, none⟩) n c) (Z.take k) (mkL (ys.take k) k0)) := ZL8.out.setO (a := ⟨g, k * 8 + 7, none⟩) rfl _
   have ZR9 : Hid (Zq (w8.setCell ⟨g, k * 8 + 7, none⟩ (.string (mkB (k5 + 1)))) (Value.slice (some ⟨g, 0, none⟩) n c) (Z.drop (k + 1)) (ys.drop (k + 1))) := ZR8.out.setO (a := ⟨g, k * 8 + 7, none⟩) rfl _
   have R9 := hide (R8.out.setO (a := ⟨g, k * 8 + 7, none⟩) (by show g < zp ∨ zm ≤ g; omega) (.string (mkB (k5 + 1))))
   have W9 := hide (W8.out.setO (a := ⟨g, k * 8 + 7, none⟩) (by show g < zm ∨ zq ≤ g; omega) (.string (mkB (k5 + 1))))
   have HT9 : Hid (TLie (w8.setCell ⟨g, k * 8 + 7, none⟩ (.string (mkB (k5 + 1)))) zp zq (mkTa x q0).t (mkTa x q0).ra (mkTa x q0).rc (mkTa x q0).wa (mkTa x q0).wc) := ⟨zm, hpm, hmq, by
    have h := R9.out
    show Lies encR 90 _ zp zm (.slice x.ra (mkR (q0 + 4) x.t.rs.length).length x.rc) (mkR (q0 + 4) x.t.rs.length)
    rw [mkR_len]; exact h, by
    have h := W9.out
    rw [HK4.out] at h
    show Lies encW 47 _ zm zq (.slice x.wa (mkW (q0 + 4 + 2 * x.t.rs.length) x.t.ws.length).length x.wc) (mkW (q0 + 4 + 2 * x.t.rs.length) x.t.ws.length)
    rw [mkW_len]; exact h⟩
   have ZL10 : Hid (Zq (w8.setCell ⟨g, k * 8 + 7, none⟩ (.string (mkB (k5 + 1)))) (Value.slice (some ⟨g, 0, none⟩) n c) (Z.take (k + 1)) (mkL (ys.take (k + 1)) k0)) := by
    have h := Zq.snoc (y := mkTa x q0) hpq HT9.out HAV.out ZL9.out
    rw [← HMX.out, ← HZT.out] at h
    exact h
   have HCP := hide (cells_put ys (mkL (ys.take k) k0) k HML.out (mkTa x q0) ((xs4.set (k * 8 + 6) (.bool (ouQ k5))).set (k * 8 + 7) (.string (mkB (k5 + 1)))) (fun j hj => by
     rw [List.getElem?_set_ne (by omega), List.getElem?_set_ne (by omega), HL4.out, List.getElem?_set_ne (by omega), List.getElem?_set_ne (by omega), List.getElem?_set_ne (by omega), List.getElem?_set_ne (by omega)]
     exact HA.out j hj) (fun j hj => by
     rw [List.getElem?_set_ne (by omega), List.getElem?_set_ne (by omega), HL4.out, List.getElem?_set_ne (by omega), List.getElem?_set_ne (by omega), List.getElem?_set_ne (by omega), List.getElem?_set_ne (by omega)]
     exact HD.out j (by omega)) (fun i hi => by
     have e5 : k5 = q0 + 4 + 2 * x.t.rs.length + 3 * x.t.ws.length := HK5.out
     have hxl : xs.length = n * 8 := hlen
     rcases (show i = 0 ∨ i = 1 ∨ i = 2 ∨ i = 3 ∨ i = 4 ∨ i = 5 ∨ i = 6 ∨ i = 7 by omega) with rfl | rfl | rfl | rfl | rfl | rfl | rfl | rfl
     ·rw [List.getElem?_set_ne (by omega), List.getElem?_set_ne (by omega), HL4.out, List.getElem?_set_ne (by omega), List.getElem?_set_ne (by omega), List.getElem?_set_ne (by omega), Nat.add_zero, List.getElem?_set_self (by omega)]
      rfl
     ·rw [List.getElem?_set_ne (by omega), List.getElem?_set_ne (by omega), HL4.out, List.getElem?_set_ne (by omega), List.getElem?_set_ne (by omega), List.getElem?_set_self (by simp only [List.length_set]; omega)]
      simp [mkTa, encT]
     ·rw [List.getElem?_set_ne (by omega), List.getElem?_set_ne (by omega), HL4.out, List.getElem?_set_ne (by omega), List.getElem?_set_self (by simp only [List.length_set]; omega)]
      simp [mkTa, encT]; omega
     ·rw [List.getElem?_set_ne (by omega), List.getElem?_set_ne (by omega), HL4.out, List.getElem?_set_self (by simp only [List.length_set]; omega)]
      simp [mkTa, encT]; omega
     ·rw [List.getElem?_set_ne (by omega), List.getElem?_set_ne (by omega), HL4.out, List.getElem?_set_ne (by omega), List.getElem?_set_ne (by omega), List.getElem?_set_ne (by omega), List.getElem?_set_ne (by omega), HCX.out 4 (by omega)]
      simp [mkTa, encT, mkR_len]
     ·rw [List.getElem?_set_ne (by omega), List.getElem?_set_ne (by omega), HL4.out, List.getElem?_set_ne (by omega), List.getElem?_set_ne (by omega), List.getElem?_set_ne (by omega), List.getElem?_set_ne (by omega), HCX.out 5 (by omega)]
      simp [mkTa, encT, mkW_len]
     ·rw [List.getElem?_set_ne (by omega), List.getElem?_set_self (by omega), e5]
      rfl
     ·rw [List.getElem?_set_self (by simp only [List.length_set]; omega), e5]
      rfl))
   rw [← HMX.out] at HCP
   have HZ2 : Hid (k5 + 2 = k0 + wtL (ys.take (k + 1))) := by show _ = _; rw [← HNX.out, HK5.out]; unfold wt; omega
   have en : (k5 : Int) + 1 + 1 = ((k5 + 2 : Nat) : Int) := by omega
   clear st ZL8 ZR8 R8 W8 R9 W9 HT9 ZL9 ZW8 HX8 HA HD HCX HL4
   go_wp2
   go_roundw
   case rel => exact ⟨k + 1, k5 + 2, _, by omega, by go_num, by go_num, HZ2, HX9, HCP.out.1, HCP.out.2, ZL10, ZR9, ZW9⟩
   case measure => simp [intOf]; omega
  ·have hd : ¬ (k : Int) < (n : Int) := by omega
   have hkn : ys.length ≤ k := by rw [← HN.out]; omega
   have eT : ys.take k = ys := List.take_of_length_le hkn
   rw [eT] at HQ HA ZL
   have eZ : Z.take k = Z := List.take_of_length_le (by rw [HZN.out]; exact hkn)
   rw [eZ] at ZL
   have HG : Hid (GOwn encT 56 wr lo (.slice a n c) (mkL ys k0)) := by
    refine gown_ext (by rw [mkL_len]; exact HN.out.symm) HX.out (fun j hj => HA.out j ?_)
    have h8 : encT.size = 8 := rfl
    rw [h8] at hj
    omega
   have HR : Hid (LLq wr lo hi (.slice a n c) (mkL ys k0)) := ⟨⟨HG.out, fun g e => (HU.out g e).2⟩, Z, HDZ.out, ZL.out⟩
   have HE : Hid (q0 = k0 + wtL ys) := HQ.out
   clear HQ HA HD ZL ZR HX HG eT eZ hkn
   go_wp2
   go_ret
   exact ⟨ret_int (by have := HE.out; omega), HR.out, ZW.out⟩

end Go.Proofs.YtjeicgibddfifaaGreat

namespace Go.Proofs.YtjeicgibddfifaaGreat
open Go.RowKit
open KM
attribute [local go_sem ↓] Go.wp_at_zero Go.wp_at_succ

theorem wpAppK {ops : Array Oper} {rest : List Oper} {o : Oper} {a : Act} {Q : Exit → Act → World → Prop} {α : Type} {E : Enc α} (T e bytes : Nat) (z : Value) (hT : Tryz.prog.underlying T = some (.slice e))
  (hinfo : (Tryz.prog.info? e).map (fun i => (i.zero, i.size, i.bytes)) = some (some z, E.size, bytes)) (hzs : z.cells.size = E.size) (hby : bytes ≤ 128)
  (hgd : o.guard = none) (s x : Operand) (ho : o.op = .call { callee := .builtin .append, args := #[s, x], argTypes := #[T, T] })
  {W : World} {base g : Nat} {v : Value} {xs : List α} (y : α) (h1 : ∀ u ∈ E.enc y, u.oneCell' = true)
  (hs : a.eval s = v) (hown : GOwn E e W base v xs) (hx : a.eval x = .slice (some ⟨g, 0, none⟩) 1 1) (hblk : W.heap[g]? = some (.cells (E.enc y).toArray e (0, 0)))
  (hlen : xs.length ≤ 100000000) (hB : base ≤ W.heap.size)
  (h : ∀ g' cap w', GOwn E e w' base (.slice (some ⟨g', 0, none⟩) (xs.length + 1) cap) (xs ++ [y]) → W.grownBy w' v.ownBlock → (v.ownBlock = some g' ∨ g' = W.heap.size) → g' < w'.heap.size → wpList Tryz.prog ops Q rest (a.put o.dst (.slice (some ⟨g', 0, none⟩) (xs.length + 1) cap)) w') :
  wpList Tryz.prog ops Q (o :: rest) a W := by
 obtain ⟨i0, hi, hz0, hz1, hz2⟩ := info_parts hinfo
 refine wpList_append_lies _ hgd s x T ho base e i0 z E.size bytes hT hi hz0 hz1 hz2 hzs E.pos v xs.length (E.cells xs) hs hown ⟨g, 0, none⟩ 1 1 (E.enc y) hx (by rw [E.len, Nat.one_mul]) ?_ h1 (by omega) (by unfold maxLen; omega) ?_ hB _ rfl ?_
 ·intro j u hj
  rw [Addr.add_lit, Nat.zero_add, World.cell?, hblk]
  simpa using hj
 ·calc (xs.length + 1) * bytes ≤ 100000001 * 128 := Nat.mul_le_mul (by omega) hby
   _ ≤ _ := by omega
 ·intro g' cap w' k1 k2 k3 k4
  refine h g' cap w' ?_ k2 k3 k4
  have e : E.cells (xs ++ [y]) = E.cells xs ++ E.enc y := by rw [E.cells_app]; simp [Enc.cells]
  unfold GOwn
  rw [e, List.length_append]
  exact k1
theorem Lies.marked2 {α : Type} {E : Enc α} {e : TypeId} {w w' : World} {lo hi : Nat} {v : Value} {row : Option Nat} {xs : List α} (h : Lies E e w lo hi v xs) (hg : w.grownBy w' row) (hne : ∀ g, row = some g → g < lo ∨ hi ≤ g) : Lies E e w' lo hi v xs := by
 refine ⟨?_, h.up⟩
 obtain ⟨h1, h2⟩ := h.own
 refine ⟨h1, ?_⟩
 rcases h2 with h2 | ⟨g, cap, cur, hv, hg', hh, r⟩
 ·exact Or.inl h2
 ·refine Or.inr ⟨g, cap, cur, hv, hg', ?_, r⟩
  have hlt : g < w.heap.size := (Array.getElem?_eq_some_iff.1 hh).1
  have hup := h.up g (by rw [hv]; rfl)
  rw [hg.block g hlt (fun e => by have := hne g e.symm; omega)]
  exact hh

end Go.Proofs.YtjeicgibddfifaaGreat

namespace Go.Proofs.YtjeicgibddfifaaGreat
open Go.RowKit
open KM
attribute [local go_sem ↓] Go.wp_at_zero Go.wp_at_succ

theorem bx_low {w w' : World} {b base : Nat} {cs : List Value} (h : Bx w b cs) (hb : Below base w w') (hl : b < base) : Bx w' b cs :=
 ⟨Nat.lt_of_lt_of_le h.lt hb.size, fun j hj => (hb.cell (p := ⟨b, j, none⟩) hl).trans (h.at' j hj), fun j => (hb.frozen (p := ⟨b, j, none⟩) hl).trans (h.fz j)⟩
set_option maxRecDepth 100000 in
set_option maxHeartbeats 2000000 in
theorem by42 (a : Option Addr) (c n : Nat) (w : World) : Calls Tryz.prog 62 #[.slice a n c] w fun e w' => e = .returned (.agg #[.slice a n c, .func (.func 105) #[] #[]]) ∧ Below w.heap.size w w' := by
 go_enter Tryz.func62, Tryz.ntmps62
 go_wp2
 refine bodyPost_ret (v := .agg #[.slice a n c, .func (.func 105) #[] #[]]) (by simp [results, Tryz.results62, go_sem]) rfl ⟨rfl, ?_⟩
 exact (belowRefl w).alloc (Nat.le_refl _) _

set_option maxRecDepth 100000 in
set_option maxHeartbeats 2000000 in
theorem key67 (x : Ta) (w : World) : Calls Tryz.prog 105 #[.agg #[.int .i64 x.t.id, .int .i64 x.t.st, .int .i64 x.t.snap, .int .i64 x.t.cs, .slice x.ra x.t.rs.length x.rc, .slice x.wa x.t.ws.length x.wc, .bool x.t.out, .string x.t.nm]] w fun e w' => e = .returned (.int .i64 x.t.id) ∧ Below w.heap.size w w' := by
 have HB : Hid (Below w.heap.size w (w.alloc (.cells #[.int .i64 x.t.id, .int .i64 x.t.st, .int .i64 x.t.snap, .int .i64 x.t.cs, .slice x.ra x.t.rs.length x.rc, .slice x.wa x.t.ws.length x.wc, .bool x.t.out, .string x.t.nm] 56))) := (belowRefl w).alloc (Nat.le_refl _) _
 go_enter Tryz.func105, Tryz.ntmps105
 go_wp2
 go_ret
 exact ⟨rfl, HB.out⟩

set_option maxRecDepth 100000 in
set_option maxHeartbeats 2000000 in
theorem keys67 (xs : List Ta) (a : Option Addr) (c n : Nat) (hx : n = xs.length) (hn : n ≤ 10000000) (w : World) (hp : TRows w a xs) :
  Calls Tryz.prog 108 #[.agg #[.slice a n c, .func (.func 105) #[] #[]]] w fun e w' => ∃ (a1 : Option Addr) (c1 : Nat), e = .returned (.slice a1 n c1) ∧ GOwn encI 3 w' (w.heap.size + 1) (.slice a1 n c1) (xs.map fun x : Ta => x.t.id) ∧ Below w.heap.size w w' := by
 have BA0 : Hid (Bx (w.alloc (.cells #[.slice a n c, .func (.func 105) #[] #[]] 102)) w.heap.size [.slice a n c, .func (.func 105) #[] #[]]) := Bx.new w [.slice a n c, .func (.func 105) #[] #[]] 102
 have HB0 : Hid (Below w.heap.size w (w.alloc (.cells #[.slice a n c, .func (.func 105) #[] #[]] 102))) := (belowRefl w).alloc (Nat.le_refl _) _
 have HP : Hid (TRows w a xs) := hp
 have HX : Hid (n = xs.length) := hx
 clear hp hx
 go_enter Tryz.func108, Tryz.ntmps108
 go_upto_region 1 with fail
 generalize (w.alloc (.cells #[.slice a n c, .func (.func 105) #[] #[]] 102)) = w0 at *
 have x0 := BA0.out.c0
 go_wp2
 go_loopw [3, 9] (fun v t wr => ∃ k : Nat, k ≤ n ∧ t = .int .i64 k ∧ Hid (GOwn encI 3 wr (w.heap.size + 1) v ((xs.take k).map fun x : Ta => x.t.id)) ∧ Hid (Below w.heap.size w wr) ∧ Hid (Bx wr w.heap.size [.slice a n c, .func (.func 105) #[] #[]])) (fun _ t _ => n - (intOf t).toNat)
 case atStart => exact ⟨0, Nat.zero_le _, rfl, GOwn.nil _ _, HB0, BA0⟩
 case round =>
  clear BA0 HB0 x0
  obtain ⟨k, hk, rfl, HO, HB, BA⟩ := hrel
  by_cases hlt : k < n
  ·have hlt' : (k : Int) < (n : Int) := by omega
   have h0 : (0 : Int) ≤ (k : Int) := by omega
   have hkx : k < xs.length := by rw [← HX.out]; exact hlt
   obtain ⟨b, o, rfl, hbl, hc, -⟩ := (HP.out.below HB.out).cls k hkx
   have HNX : Hid (((xs.take (k + 1)).map fun x : Ta => x.t.id) = ((xs.take k).map fun x : Ta => x.t.id) ++ [xs[k].t.id]) := by
    show _ = _
    rw [List.take_add_one, List.getElem?_eq_getElem hkx, List.map_append]
    rfl
   have HLn : Hid (((xs.take k).map fun x : Ta => x.t.id).length ≤ 100000000) := by show _ ≤ _; rw [List.length_map]; exact Nat.le_trans (List.length_take_le _ _) (by omega)
   obtain ⟨x, hx⟩ : ∃ x, x = xs[k] := ⟨_, rfl⟩
   rw [← hx] at hc HNX
   clear hx hkx
   have r0 := hc.c0
   have r1 := hc.c1
   have r2 := hc.c2
   have r3 := hc.c3
   have r4 := hc.c4
   have r5 := hc.c5
   have r6 := hc.c6
   have r7 := hc.c7
   clear hc
   obtain ⟨F, hF⟩ : ∃ F, F = ((xs.take k).map fun x : Ta => x.t.id) := ⟨_, rfl⟩
   rw [← hF] at HO HNX HLn
   clear hF
   have hln := HLn.out
   have HB1 : Hid (Below w.heap.size w (wr.alloc (.cells #[.int .i64 x.t.id, .int .i64 x.t.st, .int .i64 x.t.snap, .int .i64 x.t.cs, .slice x.ra x.t.rs.length x.rc, .slice x.wa x.t.ws.length x.wc, .bool x.t.out, .string x.t.nm] 56))) := HB.out.alloc HB.out.size _
   have BX1 : Hid (Bx (wr.alloc (.cells #[.int .i64 x.t.id, .int .i64 x.t.st, .int .i64 x.t.snap, .int .i64 x.t.cs, .slice x.ra x.t.rs.length x.rc, .slice x.wa x.t.ws.length x.wc, .bool x.t.out, .string x.t.nm] 56)) wr.heap.size [.int .i64 x.t.id, .int .i64 x.t.st, .int .i64 x.t.snap, .int .i64 x.t.cs, .slice x.ra x.t.rs.length x.rc, .slice x.wa x.t.ws.length x.wc, .bool x.t.out, .string x.t.nm]) := Bx.new wr [.int .i64 x.t.id, .int .i64 x.t.st, .int .i64 x.t.snap, .int .i64 x.t.cs, .slice x.ra x.t.rs.length x.rc, .slice x.wa x.t.ws.length x.wc, .bool x.t.out, .string x.t.nm] 56
   have BA1 : Hid (Bx (wr.alloc (.cells #[.int .i64 x.t.id, .int .i64 x.t.st, .int .i64 x.t.snap, .int .i64 x.t.cs, .slice x.ra x.t.rs.length x.rc, .slice x.wa x.t.ws.length x.wc, .bool x.t.out, .string x.t.nm] 56)) w.heap.size [.slice (some ⟨b, o, none⟩) n c, .func (.func 105) #[] #[]]) := BA.out.alloc _
   have O1 := hide (HO.out.alloc (.cells #[.int .i64 x.t.id, .int .i64 x.t.st, .int .i64 x.t.snap, .int .i64 x.t.cs, .slice x.ra x.t.rs.length x.rc, .slice x.wa x.t.ws.length x.wc, .bool x.t.out, .string x.t.nm] 56))
   go_upto_region 5 with fail
   clear r0 r1 r2 r3 r4 r5 r6 r7 BA HO HB
   generalize (wr.alloc (.cells #[.int .i64 x.t.id, .int .i64 x.t.st, .int .i64 x.t.snap, .int .i64 x.t.cs, .slice x.ra x.t.rs.length x.rc, .slice x.wa x.t.ws.length x.wc, .bool x.t.out, .string x.t.nm] 56)) = w1 at *
   have y1 := BA1.out.c1
   have x0 := BX1.out.c0
   have x1 := BX1.out.c1
   have x2 := BX1.out.c2
   have x3 := BX1.out.c3
   have x4 := BX1.out.c4
   have x5 := BX1.out.c5
   have x6 := BX1.out.c6
   have x7 := BX1.out.c7
   go_wp2_with fail
   refine (key67 x _).mono ?_
   rintro e w2 ⟨rfl, hb2⟩
   have HB2 : Hid (Below w.heap.size w w2) := HB1.out.trans (hb2.mono HB1.out.size)
   have O2 := hide (O1.out.below hb2)
   have BA2 := hide (BA1.out.below hb2)
   have hsz2 := BA2.out.lt
   clear hb2 y1 x0 x1 x2 x3 x4 x5 x6 x7
   obtain ⟨yy, hyy⟩ : ∃ yy, yy = x.t.id := ⟨_, rfl⟩
   rw [← hyy] at HNX ⊢
   clear hyy
   have HBK : Hid ((w2.alloc (.cells #[.int .i64 yy] 3)).heap[w2.heap.size]? = some (.cells (encI.enc yy).toArray 3 (0, 0))) := heap_alloc_new w2 _
   have O2a := hide (O2.out.alloc (.cells #[.int .i64 yy] 3))
   obtain ⟨n0, hn0⟩ : ∃ n0, n0 = F.length := ⟨_, rfl⟩
   go_wp2_with (at_builtin; refine wpAppK (E := encI) 86 3 8 _ Tryz.underlying86 Tryz.info3 rfl (by omega) rfl _ _ rfl yy oneI rfl O2a.out rfl HBK.out hln (by simp; omega) ?_)
   intro g' cap w3 ho3 hg3 hg4 hlt3
   have hb3 : Below (w.heap.size + 1) w2 w3 := ((Below.refl _ _).alloc (Nat.succ_le_of_lt hsz2) _).trans ((Below.refl _ _).grown hg3 (by simp; omega) (fun j hj => (World.ownsRow.lt O2a.out j hj).1))
   have O3 : Hid (GOwn encI 3 w3 (w.heap.size + 1) (.slice (some ⟨g', 0, none⟩) (F.length + 1) cap) (F ++ [yy])) := ho3
   have HB3 : Hid (Below w.heap.size w w3) := HB2.out.trans (hb3.mono (Nat.le_succ _))
   have BA3 := hide (bx_low BA2.out hb3 (Nat.lt_succ_self _))
   clear ho3 hb3 hg3 hg4 hlt3 O2a O2 HBK hn0
   go_wp2
   go_roundw
   case rel => exact ⟨k + 1, by omega, by go_num, by rw [HNX.out]; exact O3, HB3, BA3⟩
   case measure => simp [intOf]; omega
  ·have hd : ¬ (k : Int) < (n : Int) := by omega
   have HE : Hid (xs.take k = xs) := List.take_of_length_le (by rw [← HX.out]; omega)
   rw [HE.out] at HO
   have HL : Hid ((xs.map fun x : Ta => x.t.id).length = n) := by show _ = _; rw [List.length_map, HX.out]
   obtain ⟨a1, c1, rfl, _⟩ := HO.out.row
   rw [HL.out] at HO ⊢
   go_wp2
   go_ret
   exact ⟨a1, c1, rfl, HO.out, HB.out⟩

end Go.Proofs.YtjeicgibddfifaaGreat

namespace Go.Proofs.YtjeicgibddfifaaGreat
open Go.RowKit
open KM
attribute [local go_sem ↓] Go.wp_at_zero Go.wp_at_succ

theorem tone {y : Ta} : ∀ u ∈ encT.enc y, u.oneCell' = true := by
 intro u hu
 simp only [encT, List.mem_cons, List.not_mem_nil, or_false] at hu
 rcases hu with rfl | rfl | rfl | rfl | rfl | rfl | rfl | rfl <;> rfl

end Go.Proofs.YtjeicgibddfifaaGreat

namespace Go.Proofs.YtjeicgibddfifaaGreat
open Go.RowKit
open KM
attribute [local go_sem ↓] Go.wp_at_zero Go.wp_at_succ

structure Sl where
 a : Option Addr
 n : Nat
 c : Nat
 xs : List Ta
structure SlOk (w : World) (s : Sl) : Prop where
 n : s.n = s.xs.length
 r : GRow encT w s.a s.xs
 z : s.a = none → s.n = 0 ∧ s.c = 0
theorem SlOk.below {w w' : World} {s : Sl} (h : SlOk w s) (hb : Below w.heap.size w w') : SlOk w' s := ⟨h.n, h.r.below hb, h.z⟩
end Go.Proofs.YtjeicgibddfifaaGreat
