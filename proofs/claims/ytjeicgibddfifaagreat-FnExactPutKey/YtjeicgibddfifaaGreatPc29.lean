/- PutKey: one of those that are open is found, and the step done. -/
import Derived.Test.YtjeicgibddfifaaGreatPc01
import Derived.Test.YtjeicgibddfifaaGreatPc28
import Derived.Test.YtjeicgibddfifaaGreatPc22
import Derived.Deep.RegionHeld3
import Derived.Deep.Cut
import Derived.Deep.CutRange
import Derived.Laws.EntriesVeiled
import Derived.Test.YtjeicgibddfifaaGreatProg
import Derived.Conc.MuData
import Derived.Conc.MuLone
import Derived.KernelRfl
namespace Go.Proofs.YtjeicgibddfifaaGreat
open Go.RowKit
open KM
attribute [local go_sem ↓] Go.wp_at_zero Go.wp_at_succ

theorem pk_no {c : En} {i : Int} (x : Wt) (h : idxZ (ids c.os) i 0 = -1) : pkCode c i x = 1 ∧ EnSame (pkE c i x) c := by
 unfold pkCode
 rw [h]
 refine ⟨rfl, ⟨⟨rfl, rfl, rfl, rfl, rfl⟩, ?_⟩⟩
 rw [pkE_txs]
 unfold pkTxs
 rw [h]
 rfl
theorem pk_at {c : En} {i : Int} (x : Wt) {k : Nat} (hk : k < c.os.length) (h : idxZ (ids c.os) i 0 = (k : Int)) : pkCode c i x = pkC c.os[k].t x ∧ pkTxs c i x = (txs c.os).set k (pkT c.os[k].t x) := by
 have ht : (txs c.os)[((k : Int)).toNat]? = some c.os[k].t := by
  rw [Int.toNat_natCast, List.getElem?_eq_getElem (by rw [txs_len]; exact hk)]
  simp [txs]
 unfold pkCode pkTxs pkOs
 rw [h, if_neg (by omega), if_neg (by omega), ht]
 exact ⟨rfl, by rw [Int.toNat_natCast]⟩

def R83 (c : En) (i : Int) (x : Wt) (lo m g : Nat) (w : World) (v : Value) (w' : World) : Prop := ∃ (d : En) (p q : Nat), v = .int .i64 (pkCode c i x) ∧ EnSame (pkE c i x) d ∧ Bx w' g [.int .i32 1, .int .u32 0, .slice d.b.va d.b.vs.length d.b.vc, .slice d.b.pa d.b.ps.length d.b.pc, .slice d.b.qa d.b.qs.length d.b.qc, .int .i64 d.b.cs, .int .i64 d.b.nx, .slice d.oa d.os.length d.oc] ∧ EnQ w' lo m g p q d ∧ q ≤ w'.heap.size ∧ w.heap.size ≤ p ∧ Zn m g w w'

set_option maxRecDepth 100000 in
set_option maxHeartbeats 8000000 in
theorem iopen1 (c : En) (hf : EnFit c) (i : Int) (x : Wt) (hx : x.1.size ≤ 1048576 ∧ x.2.1.size ≤ 1048576) (lo m g xb ib sb : Nat) (hxb : xb < lo) (hsb : g ≤ sb) (w : World) (bg : Bx w g [.int .i32 1, .int .u32 0, .slice c.b.va c.b.vs.length c.b.vc, .slice c.b.pa c.b.ps.length c.b.pc, .slice c.b.qa c.b.qs.length c.b.qc, .int .i64 c.b.cs, .int .i64 c.b.nx, .slice c.oa c.os.length c.oc]) (bi : Bx w ib [.int .i64 i]) (bs : Bx w sb [.func (.func 41) #[] #[.pointer (some ⟨xb, 0, none⟩)]]) (bx : Bx w xb [.string x.1, .string x.2.1, .bool x.2.2]) (lx : EnLx w lo m g g g c) :
  Calls Tryz.prog 83 #[.pointer (some ⟨g, 2, none⟩), .pointer (some ⟨ib, 0, none⟩), .pointer (some ⟨sb, 0, none⟩)] w fun ex w' => ∃ v : Value, ex = .returned v ∧ R83 c i x lo m g w v w' := by
 have CO : Hid (∀ W : World, EnLx W lo m g g g c → Calls Tryz.prog 84 #[.agg #[.slice c.b.va c.b.vs.length c.b.vc, .slice c.b.pa c.b.ps.length c.b.pc, .slice c.b.qa c.b.qs.length c.b.qc, .int .i64 c.b.cs, .int .i64 c.b.nx, .slice c.oa c.os.length c.oc], .int .i64 i] W fun ex w' => ex = .returned (.int .i64 (idxZ (ids c.os) i 0)) ∧ Below W.heap.size W w') := fun W h => iopenat c i (Nat.le_trans hf.ol (by omega)) W h.rows.o
 have hnn := idxz_lt (ids c.os) i 0
 have HNO := hide (fun h => pk_no (c := c) (i := i) x h)
 have HAT := hide (fun k hk h => pk_at (c := c) (i := i) x (k := k) hk h)
 obtain ⟨r, hr⟩ : ∃ r, r = idxZ (ids c.os) i 0 := ⟨_, rfl⟩
 rw [← hr] at CO hnn HNO HAT
 clear hr
 have BG : Hid (Bx w g [.int .i32 1, .int .u32 0, .slice c.b.va c.b.vs.length c.b.vc, .slice c.b.pa c.b.ps.length c.b.pc, .slice c.b.qa c.b.qs.length c.b.qc, .int .i64 c.b.cs, .int .i64 c.b.nx, .slice c.oa c.os.length c.oc]) := bg
 have BI : Hid (Bx w ib [.int .i64 i]) := bi
 have BS : Hid (Bx w sb [.func (.func 41) #[] #[.pointer (some ⟨xb, 0, none⟩)]]) := bs
 have BX : Hid (Bx w xb [.string x.1, .string x.2.1, .bool x.2.2]) := bx
 have LX : Hid (EnLx w lo m g g g c) := lx
 have HF := hide hf
 clear bg bi bs bx lx hf
 go_enter Tryz.func83, Tryz.ntmps83
 go_upto_region 1 with fail
 refine wp_region_held_drew (S := fun w' => w'.cell? ⟨g, 2, none⟩ = some (.slice c.b.va c.b.vs.length c.b.vc) ∧ w'.cell? ⟨g, 3, none⟩ = some (.slice c.b.pa c.b.ps.length c.b.pc) ∧ w'.cell? ⟨g, 4, none⟩ = some (.slice c.b.qa c.b.qs.length c.b.qc) ∧ w'.cell? ⟨g, 5, none⟩ = some (.int .i64 c.b.cs) ∧ w'.cell? ⟨g, 6, none⟩ = some (.int .i64 c.b.nx) ∧ w'.cell? ⟨g, 7, none⟩ = some (.slice c.oa c.os.length c.oc) ∧ w'.cell? ⟨ib, 0, none⟩ = some (.int .i64 i)) (by kernel_rfl) ⟨BG.out.c2, BG.out.c3, BG.out.c4, BG.out.c5, BG.out.c6, BG.out.c7, BI.out.c0⟩ (fun hHeld => ?_)
 (refine tk 0 ?_ rfl (Or.inl ⟨by rfl, ?_⟩) ?_; rotate_left; (focus (intro w h; (try dsimp only at h); go_simp; (try with_reducible rfl))); simp only [Act.put, tA, tB, tD, tE, tF])
 (refine tk 1 ?_ rfl (Or.inl ⟨by rfl, ?_⟩) ?_; rotate_left; (focus (intro w h; (try dsimp only at h); go_simp; (try with_reducible rfl))); simp only [Act.put, tA, tB, tC, tD, tE, tF])
 (refine tk 2 ?_ rfl (Or.inl ⟨by rfl, ?_⟩) ?_; rotate_left; (focus (intro w h; (try dsimp only at h); go_simp; (try with_reducible rfl))); simp only [Act.put, tA, tB, tC, tD, tE, tF])
 (refine tk 3 ?_ rfl (Or.inl ⟨by rfl, ?_⟩) ?_; rotate_left; (focus (intro w h; (try dsimp only at h); go_simp; (try with_reducible rfl))); simp only [Act.put, tA, tB, tC, tD, tE, tF])
 refine wpAnyH_ready (rs := [4]) (by kernel_rfl) (by simp) ?_
 refine AllReadyH.cons rfl (fun K hK => ?_) AllReadyH.nil
 go_simp
 go_wp2_with fail
 refine (CO.out _ (LX.out.below ((belowRefl w).drew))).mono ?_
 rintro ex w1 ⟨rfl, hb9⟩
 have hb := undrew hb9
 have BG1 : Hid (Bx w1 g [.int .i32 1, .int .u32 0, .slice c.b.va c.b.vs.length c.b.vc, .slice c.b.pa c.b.ps.length c.b.pc, .slice c.b.qa c.b.qs.length c.b.qc, .int .i64 c.b.cs, .int .i64 c.b.nx, .slice c.oa c.os.length c.oc]) := BG.out.below hb
 have BI1 : Hid (Bx w1 ib [.int .i64 i]) := BI.out.below hb
 have BS1 : Hid (Bx w1 sb [.func (.func 41) #[] #[.pointer (some ⟨xb, 0, none⟩)]]) := BS.out.below hb
 have BX1 : Hid (Bx w1 xb [.string x.1, .string x.2.1, .bool x.2.2]) := BX.out.below hb
 have LX1 : Hid (EnLx w1 lo m g g g c) := LX.out.below hb
 have HZ1 : Hid (Zn m g w w1) := Zn.ofBelow _ _ hb
 have HW1 : Hid (w.heap.size ≤ w1.heap.size) := hb.size
 clear hb hb9 BG BI BS BX LX CO
 go_wp2_with fail
 refine hK.out _ _ ⟨BG1.out.c2, BG1.out.c3, BG1.out.c4, BG1.out.c5, BG1.out.c6, BG1.out.c7, BI1.out.c0⟩ (fun hHeld1 => ?_)
 clear hK K
 (refine tk 5 ?_ rfl (Or.inl ⟨by rfl, ?_⟩) ?_; rotate_left; (focus (intro w h; (try dsimp only at h); go_simp; (try with_reducible rfl))); simp only [Act.put, tA, tB, tC, tD, tE, tF])
 refine wpAnyH_done (by kernel_rfl) ?_ _
 rcases hnn with hi | ⟨k, hi, _, hk⟩
 ·have hno := HNO.out hi
  have HC := hide hno.1
  have HE_ := hide hno.2
  clear hno HNO HAT
  subst hi
  go_wp2
  go_ret
  refine ⟨_, rfl, ?_⟩
  exact ⟨c, w1.heap.size, w1.heap.size, congrArg (Value.int .i64) HC.out.symm, HE_.out, BG1.out, LX1.out.q0 _ (Nat.le_of_lt BG1.out.lt), Nat.le_refl _, HW1.out, HZ1.out⟩
 ·have hk : k < c.os.length := by rw [ids_len] at hk; omega
  have hat := HAT.out k hk hi
  have HC := hide hat.1
  have HT := hide hat.2
  subst hi
  clear hat HAT HNO
  have hk0 : (0 : Int) ≤ (k : Int) := by omega
  have hkn : ¬ (k : Int) < 0 := by omega
  have hkl : (k : Int) < (c.os.length : Int) := by omega
  obtain ⟨ba, hba, _, _⟩ := own_form LX1.out.o.own (by omega)
  have HBA := hide hba
  have x7 := BG1.out.c7
  rw [hba] at x7
  clear hba
  have HX7 := hide x7
  clear x7
  have CP : Hid (∀ W : World, g < W.heap.size → Bx W xb [.string x.1, .string x.2.1, .bool x.2.2] → EnLx W lo m g g g c → Calls Tryz.prog 41 #[.pointer (some ⟨g, 2, none⟩), .pointer (some ⟨ba, k * 8, none⟩), .pointer (some ⟨xb, 0, none⟩)] W fun ex w' => ∃ (d : En) (p q : Nat), ex = .returned (.int .i64 (pkCode c i x)) ∧ d.b = c.b ∧ d.oa = c.oa ∧ d.oc = c.oc ∧ d.os.length = c.os.length ∧ txs d.os = pkTxs c i x ∧ EnQ w' lo m g p q d ∧ q ≤ w'.heap.size ∧ W.heap.size ≤ p ∧ Zn m g W w') := fun W h1 h2 h3 => by
   rw [HC.out, HT.out]
   exact iputk1 c HF.out x hx lo m g xb k ba hxb hk c.os[k] rfl HBA.out W h1 h2 h3
  obtain ⟨cd, hcd⟩ : ∃ cd, cd = pkCode c i x := ⟨_, rfl⟩
  have HCD := hide hcd
  rw [← hcd] at CP
  clear hcd HC
  go_wp2
  refine wp_region_held_drew (S := fun w' => w'.cell? ⟨sb, 0, none⟩ = some (.func (.func 41) #[] #[.pointer (some ⟨xb, 0, none⟩)]) ∧ w'.cell? ⟨g, 7, none⟩ = some (.slice (some ⟨ba, 0, none⟩) c.os.length c.oc)) (by kernel_rfl) ⟨BS1.out.c0, HX7.out⟩ (fun hHeld2 => ?_)
  (refine tk 0 ?_ rfl (Or.inl ⟨by rfl, ?_⟩) ?_; rotate_left; (focus (intro w h; (try dsimp only at h); go_simp; (try with_reducible rfl))); simp only [Act.put, tA, tB, tD, tE, tF])
  (refine tk 1 ?_ rfl (Or.inl ⟨by rfl, ?_⟩) ?_; rotate_left; (focus (intro w h; (try dsimp only at h); go_simp; (try with_reducible rfl))); simp only [Act.put, tA, tB, tC, tD, tE, tF])
  (refine tk 2 ?_ rfl (Or.inl ⟨by rfl, ?_⟩) ?_; rotate_left; (focus (intro w h; (try dsimp only at h); go_simp; (try with_reducible rfl))); simp only [Act.put, tA, tB, tC, tD, tE, tF])
  (refine tk 3 ?_ rfl (Or.inl ⟨by rfl, ?_⟩) ?_; rotate_left; (focus (intro w h; (try dsimp only at h); go_simp; (try with_reducible rfl))); simp only [Act.put, tA, tB, tC, tD, tE, tF])
  (refine tk 4 ?_ rfl (Or.inl ⟨by rfl, ?_⟩) ?_; rotate_left; (focus (intro w h; (try dsimp only at h); go_simp; (try with_reducible rfl))); simp only [Act.put, tA, tB, tC, tD, tE, tF])
  (refine tk 5 ?_ rfl (Or.inl ⟨by rfl, ?_⟩) ?_; rotate_left; (focus (intro w h; (try dsimp only at h); go_simp; (try with_reducible rfl))); simp only [Act.put, tA, tB, tC, tD, tE, tF])
  (refine tk 6 ?_ rfl (Or.inl ⟨by rfl, ?_⟩) ?_; rotate_left; (focus (intro w h; (try dsimp only at h); go_simp; (try with_reducible rfl))); simp only [Act.put, tA, tB, tC, tD, tE, tF])
  (refine tk 7 ?_ rfl (Or.inl ⟨by rfl, ?_⟩) ?_; rotate_left; (focus (intro w h; (try dsimp only at h); go_simp; (try with_reducible rfl))); simp only [Act.put, tA, tB, tC, tD, tE, tF])
  refine wpAnyH_ready (rs := [8]) (by kernel_rfl) (by simp) ?_
  refine AllReadyH.cons rfl (fun K hK => ?_) AllReadyH.nil
  go_simp
  go_wp2_with fail
  have hbd : Below w1.heap.size w1 w1.drew := (belowRefl w1).drew
  refine (CP.out _ (BG1.out.below hbd).lt (BX1.out.below hbd) (LX1.out.below hbd)).mono ?_
  rintro ex w2 ⟨d, p, q, rfl, e1, e2, e3, e4, e5, hq, hqs, hp, hz⟩
  have hz2 : Zn m g w1 w2 := (Zn.ofBelow m g hbd).trans hz
  have BG2 : Hid (Bx w2 g [.int .i32 1, .int .u32 0, .slice c.b.va c.b.vs.length c.b.vc, .slice c.b.pa c.b.ps.length c.b.pc, .slice c.b.qa c.b.qs.length c.b.qc, .int .i64 c.b.cs, .int .i64 c.b.nx, .slice c.oa c.os.length c.oc]) := BG1.out.zn hz2 (Or.inr (Nat.le_refl _))
  have BS2 : Hid (Bx w2 sb [.func (.func 41) #[] #[.pointer (some ⟨xb, 0, none⟩)]]) := BS1.out.zn hz2 (Or.inr hsb)
  have HZ2 : Hid (Zn m g w w2) := HZ1.out.trans hz2
  have HP : Hid (w.heap.size ≤ p) := Nat.le_trans HW1.out (Nat.le_trans hbd.size hp)
  have HQ := hide hq
  have HQS := hide hqs
  have HSM : Hid (EnSame (pkE c i x) d) := ⟨by rw [e1]; exact ⟨rfl, rfl, rfl, rfl, rfl⟩, by rw [pkE_txs]; exact e5⟩
  have BGD : Hid (Bx w2 g [.int .i32 1, .int .u32 0, .slice d.b.va d.b.vs.length d.b.vc, .slice d.b.pa d.b.ps.length d.b.pc, .slice d.b.qa d.b.qs.length d.b.qc, .int .i64 d.b.cs, .int .i64 d.b.nx, .slice d.oa d.os.length d.oc]) := by rw [e1, e2, e3, e4]; exact BG2.out
  have y7 := BG2.out.c7
  rw [HBA.out] at y7
  have HY7 := hide y7
  clear y7 e1 e2 e3 e4 e5 hq hqs hp hz hz2 hbd BG1 BI1 BS1 BX1 LX1 HZ1 CP
  go_wp2_with fail
  refine hK.out _ _ ⟨BS2.out.c0, HY7.out⟩ (fun hHeld3 => ?_)
  clear hK K
  (refine tk 9 ?_ rfl (Or.inl ⟨by rfl, ?_⟩) ?_; rotate_left; (focus (intro w h; (try dsimp only at h); go_simp; (try with_reducible rfl))); simp only [Act.put, tA, tB, tC, tD, tE, tF])
  refine wpAnyH_done (by kernel_rfl) ?_ _
  go_wp2
  go_ret
  refine ⟨_, rfl, ?_⟩
  exact ⟨d, p, q, congrArg (Value.int .i64) HCD.out, HSM.out, BGD.out, HQ.out, HQS.out, HP.out, HZ2.out⟩

end Go.Proofs.YtjeicgibddfifaaGreat

namespace Go.Proofs
abbrev Tryz.muLink : Go.Conc.Locks.MuLink := { lock := 72, unlock := 73, ilock := 115, iunlock := 116, lockSlow := 149, unlockSlow := 152, disable := 145, enable := 147, acquire := 148, relMerge := 150, cas32 := 146, add32 := 151, tMutex := 116, tIMutex := 114, tPMutex := 151, tPIMutex := 185, tPI32 := 187, tUP := 189, tNoCopy := 111, tU32 := 112 }
theorem Tryz.muLib : Go.Conc.Locks.MuLib Tryz.prog Tryz.muLink :=
 ⟨Tryz.func72, Tryz.func73, Tryz.func115, Tryz.func116, Tryz.func145, Tryz.func147, Tryz.func148, Tryz.func150, Tryz.func146, Tryz.func151, Tryz.underlying114, Tryz.runUnderlying114, Tryz.sizeOf114, Tryz.isAgg114, Tryz.zeroValue114, Tryz.underlying116, Tryz.runUnderlying116, Tryz.sizeOf116, Tryz.isAgg116, Tryz.zeroValue116, Tryz.underlying151, Tryz.runUnderlying151, Tryz.sizeOf151, Tryz.isAgg151, Tryz.zeroValue151, Tryz.underlying185, Tryz.runUnderlying185, Tryz.sizeOf185, Tryz.isAgg185, Tryz.zeroValue185, Tryz.underlying187, Tryz.runUnderlying187, Tryz.sizeOf187, Tryz.isAgg187, Tryz.zeroValue187, Tryz.underlying189, Tryz.runUnderlying189, Tryz.sizeOf189, Tryz.isAgg189, Tryz.zeroValue189, Tryz.underlying111, Tryz.runUnderlying111, Tryz.sizeOf111, Tryz.isAgg111, Tryz.zeroValue111, Tryz.underlying21, Tryz.runUnderlying21, Tryz.sizeOf21, Tryz.isAgg21, Tryz.zeroValue21, (by kernel_rfl)⟩
end Go.Proofs

namespace Go.Proofs.YtjeicgibddfifaaGreat
open Go.RowKit
open KM
open Go.MuLone
attribute [local go_sem ↓] Go.wp_at_zero Go.wp_at_succ

set_option maxRecDepth 100000 in
set_option maxHeartbeats 8000000 in
theorem ichangeP (c : En) (hf : EnFit c) (i : Int) (x : Wt) (hx : x.1.size ≤ 1048576 ∧ x.2.1.size ≤ 1048576) (lo m g xb ib sb : Nat) (hxb : xb < lo) (hsb : g < sb) (hib : g < ib) (w : World) (bg : Bx w g [.int .i32 0, .int .u32 0, .slice c.b.va c.b.vs.length c.b.vc, .slice c.b.pa c.b.ps.length c.b.pc, .slice c.b.qa c.b.qs.length c.b.qc, .int .i64 c.b.cs, .int .i64 c.b.nx, .slice c.oa c.os.length c.oc]) (bi : Bx w ib [.int .i64 i]) (bs : Bx w sb [.func (.func 41) #[] #[.pointer (some ⟨xb, 0, none⟩)]]) (bx : Bx w xb [.string x.1, .string x.2.1, .bool x.2.2]) (lx : EnLx w lo m g g g c) :
  Calls Tryz.prog 31 #[.pointer (some ⟨g, 0, none⟩), .func (.func 83) #[] #[.pointer (some ⟨ib, 0, none⟩), .pointer (some ⟨sb, 0, none⟩)]] w fun ex w' => ∃ (d : En) (p q : Nat), ex = .returned (.tuple #[.agg #[.slice d.b.va d.b.vs.length d.b.vc, .slice d.b.pa d.b.ps.length d.b.pc, .slice d.b.qa d.b.qs.length d.b.qc, .int .i64 d.b.cs, .int .i64 d.b.nx, .slice d.oa d.os.length d.oc], .int .i64 (pkCode c i x)]) ∧ EnSame (pkE c i x) d ∧ EnQ w' lo m g p q d ∧ q ≤ w'.heap.size ∧ w.heap.size ≤ p ∧ Zn m (g + 1) w w' := by
 have hmg : m ≤ g := lx.mg
 have hlm : lo ≤ m := lx.lm
 have hgw : g < w.heap.size := bg.lt
 have hsw : sb < w.heap.size := bs.lt
 have hiw : ib < w.heap.size := bi.lt
 have hb0 : Below w.heap.size w (w.alloc (.cells #[.slice none 0 0, .slice none 0 0, .slice none 0 0, .int .i64 0, .int .i64 0, .slice none 0 0] 35)) := (belowRefl w).alloc (Nat.le_refl _) _
 have BR0 : Hid (Bx (w.alloc (.cells #[.slice none 0 0, .slice none 0 0, .slice none 0 0, .int .i64 0, .int .i64 0, .slice none 0 0] 35)) w.heap.size [.slice none 0 0, .slice none 0 0, .slice none 0 0, .int .i64 0, .int .i64 0, .slice none 0 0]) := Bx.new w [.slice none 0 0, .slice none 0 0, .slice none 0 0, .int .i64 0, .int .i64 0, .slice none 0 0] 35
 have BG0 : Hid (Bx (w.alloc (.cells #[.slice none 0 0, .slice none 0 0, .slice none 0 0, .int .i64 0, .int .i64 0, .slice none 0 0] 35)) g [.int .i32 0, .int .u32 0, .slice c.b.va c.b.vs.length c.b.vc, .slice c.b.pa c.b.ps.length c.b.pc, .slice c.b.qa c.b.qs.length c.b.qc, .int .i64 c.b.cs, .int .i64 c.b.nx, .slice c.oa c.os.length c.oc]) := bg.below hb0
 have BI0 : Hid (Bx (w.alloc (.cells #[.slice none 0 0, .slice none 0 0, .slice none 0 0, .int .i64 0, .int .i64 0, .slice none 0 0] 35)) ib [.int .i64 i]) := bi.below hb0
 have BS0 : Hid (Bx (w.alloc (.cells #[.slice none 0 0, .slice none 0 0, .slice none 0 0, .int .i64 0, .int .i64 0, .slice none 0 0] 35)) sb [.func (.func 41) #[] #[.pointer (some ⟨xb, 0, none⟩)]]) := bs.below hb0
 have BX0 : Hid (Bx (w.alloc (.cells #[.slice none 0 0, .slice none 0 0, .slice none 0 0, .int .i64 0, .int .i64 0, .slice none 0 0] 35)) xb [.string x.1, .string x.2.1, .bool x.2.2]) := bx.below hb0
 have LX0 : Hid (EnLx (w.alloc (.cells #[.slice none 0 0, .slice none 0 0, .slice none 0 0, .int .i64 0, .int .i64 0, .slice none 0 0] 35)) lo m g g g c) := lx.below hb0
 have HZ0 : Hid (Zn m (g + 1) w (w.alloc (.cells #[.slice none 0 0, .slice none 0 0, .slice none 0 0, .int .i64 0, .int .i64 0, .slice none 0 0] 35))) := Zn.ofBelow _ _ hb0
 have HF : Hid (EnFit c) := hf
 clear bg bi bs bx lx hb0 hf
 go_enter_defers Tryz.func31, Tryz.ntmps31
 go_upto_region 1 with fail
 generalize (w.alloc (.cells #[.slice none 0 0, .slice none 0 0, .slice none 0 0, .int .i64 0, .int .i64 0, .slice none 0 0] 35)) = w0 at *
 have x0 := BG0.out.c0
 have z0 := BG0.out.fz 0
 go_wp2_with fail
 refine (lock_free Tryz.muLib ⟨g, 0, none⟩ _ x0 z0).mono ?_
 rintro ex wl ⟨rfl, rfl⟩
 have BG1 : Hid (Bx (w0.setCell ⟨g, 0, none⟩ (.int .i32 1)) g [.int .i32 1, .int .u32 0, .slice c.b.va c.b.vs.length c.b.vc, .slice c.b.pa c.b.ps.length c.b.pc, .slice c.b.qa c.b.qs.length c.b.qc, .int .i64 c.b.cs, .int .i64 c.b.nx, .slice c.oa c.os.length c.oc]) := BG0.out.set 0 _
 have BI1 : Hid (Bx (w0.setCell ⟨g, 0, none⟩ (.int .i32 1)) ib [.int .i64 i]) := BI0.out.setO (p := ⟨g, 0, none⟩) (by show g ≠ ib; omega) _
 have BS1 : Hid (Bx (w0.setCell ⟨g, 0, none⟩ (.int .i32 1)) sb [.func (.func 41) #[] #[.pointer (some ⟨xb, 0, none⟩)]]) := BS0.out.setO (p := ⟨g, 0, none⟩) (by show g ≠ sb; omega) _
 have BX1 : Hid (Bx (w0.setCell ⟨g, 0, none⟩ (.int .i32 1)) xb [.string x.1, .string x.2.1, .bool x.2.2]) := BX0.out.setO (p := ⟨g, 0, none⟩) (by show g ≠ xb; omega) _
 have BR1 : Hid (Bx (w0.setCell ⟨g, 0, none⟩ (.int .i32 1)) w.heap.size [.slice none 0 0, .slice none 0 0, .slice none 0 0, .int .i64 0, .int .i64 0, .slice none 0 0]) := BR0.out.setO (p := ⟨g, 0, none⟩) (by show g ≠ w.heap.size; omega) _
 have LX1 : Hid (EnLx (w0.setCell ⟨g, 0, none⟩ (.int .i32 1)) lo m g g g c) := LX0.out.setg 0 _
 have HZ1 : Hid (Zn m (g + 1) w (w0.setCell ⟨g, 0, none⟩ (.int .i32 1))) := HZ0.out.trans ((zn_set w0 ⟨g, 0, none⟩ _).mono (by show m ≤ g; omega) (Nat.le_refl _))
 have HS1 : Hid (w.heap.size < (w0.setCell ⟨g, 0, none⟩ (.int .i32 1)).heap.size) := BR1.out.lt
 clear BG0 BI0 BS0 BX0 BR0 LX0 HZ0 x0 z0
 generalize (w0.setCell ⟨g, 0, none⟩ (.int .i32 1)) = w1 at *
 have CS := hide (iopen1 c HF.out i x hx lo m g xb ib sb hxb (by omega) w1 BG1.out BI1.out BS1.out BX1.out LX1.out)
 go_wp2_with fail
 refine CS.out.mono ?_
 rintro ex w2 ⟨v, rfl, d, p, q, rfl, hsm, hbg, hq, hqs, hp, hz⟩
 have BG2 : Hid (Bx w2 g [.int .i32 1, .int .u32 0, .slice d.b.va d.b.vs.length d.b.vc, .slice d.b.pa d.b.ps.length d.b.pc, .slice d.b.qa d.b.qs.length d.b.qc, .int .i64 d.b.cs, .int .i64 d.b.nx, .slice d.oa d.os.length d.oc]) := hbg
 have BR2 : Hid (Bx w2 w.heap.size [.slice none 0 0, .slice none 0 0, .slice none 0 0, .int .i64 0, .int .i64 0, .slice none 0 0]) := BR1.out.zn hz (Or.inr (by omega))
 have HZ2 : Hid (Zn m (g + 1) w w2) := HZ1.out.trans (hz.mono (Nat.le_refl _) (by omega))
 have HQ2 := hide hq
 have HQS := hide hqs
 have hrp : w.heap.size < p := by have := HS1.out; omega
 have SM := hide hsm
 clear hsm hbg hq hqs hp hz BG1 BI1 BS1 BX1 BR1 LX1 HZ1 CS
 have x2 := BG2.out.c2
 have x3 := BG2.out.c3
 have x4 := BG2.out.c4
 have x5 := BG2.out.c5
 have x6 := BG2.out.c6
 have x7 := BG2.out.c7
 have q0 := BR2.out.c0
 have fq0 := BR2.out.fz 0
 have q1 := BR2.out.c1
 have fq1 := BR2.out.fz 1
 have q2 := BR2.out.c2
 have fq2 := BR2.out.fz 2
 have q3 := BR2.out.c3
 have fq3 := BR2.out.fz 3
 have q4 := BR2.out.c4
 have fq4 := BR2.out.fz 4
 have q5 := BR2.out.c5
 have fq5 := BR2.out.fz 5
 go_wp2
 have BG3 : Hid (Bx ((((((w2.setCell ⟨w.heap.size, 0, none⟩ (.slice d.b.va d.b.vs.length d.b.vc)).setCell ⟨w.heap.size, 1, none⟩ (.slice d.b.pa d.b.ps.length d.b.pc)).setCell ⟨w.heap.size, 2, none⟩ (.slice d.b.qa d.b.qs.length d.b.qc)).setCell ⟨w.heap.size, 3, none⟩ (.int .i64 d.b.cs)).setCell ⟨w.heap.size, 4, none⟩ (.int .i64 d.b.nx)).setCell ⟨w.heap.size, 5, none⟩ (.slice d.oa d.os.length d.oc)) g [.int .i32 1, .int .u32 0, .slice d.b.va d.b.vs.length d.b.vc, .slice d.b.pa d.b.ps.length d.b.pc, .slice d.b.qa d.b.qs.length d.b.qc, .int .i64 d.b.cs, .int .i64 d.b.nx, .slice d.oa d.os.length d.oc]) := (((((BG2.out.setO (p := ⟨w.heap.size, 0, none⟩) (by show w.heap.size ≠ g; omega) _).setO (p := ⟨w.heap.size, 1, none⟩) (by show w.heap.size ≠ g; omega) _).setO (p := ⟨w.heap.size, 2, none⟩) (by show w.heap.size ≠ g; omega) _).setO (p := ⟨w.heap.size, 3, none⟩) (by show w.heap.size ≠ g; omega) _).setO (p := ⟨w.heap.size, 4, none⟩) (by show w.heap.size ≠ g; omega) _).setO (p := ⟨w.heap.size, 5, none⟩) (by show w.heap.size ≠ g; omega) _
 have BR3 : Hid (Bx ((((((w2.setCell ⟨w.heap.size, 0, none⟩ (.slice d.b.va d.b.vs.length d.b.vc)).setCell ⟨w.heap.size, 1, none⟩ (.slice d.b.pa d.b.ps.length d.b.pc)).setCell ⟨w.heap.size, 2, none⟩ (.slice d.b.qa d.b.qs.length d.b.qc)).setCell ⟨w.heap.size, 3, none⟩ (.int .i64 d.b.cs)).setCell ⟨w.heap.size, 4, none⟩ (.int .i64 d.b.nx)).setCell ⟨w.heap.size, 5, none⟩ (.slice d.oa d.os.length d.oc)) w.heap.size [.slice d.b.va d.b.vs.length d.b.vc, .slice d.b.pa d.b.ps.length d.b.pc, .slice d.b.qa d.b.qs.length d.b.qc, .int .i64 d.b.cs, .int .i64 d.b.nx, .slice d.oa d.os.length d.oc]) := (((((BR2.out.set 0 _).set 1 _).set 2 _).set 3 _).set 4 _).set 5 _
 have HQ3 : Hid (EnQ ((((((w2.setCell ⟨w.heap.size, 0, none⟩ (.slice d.b.va d.b.vs.length d.b.vc)).setCell ⟨w.heap.size, 1, none⟩ (.slice d.b.pa d.b.ps.length d.b.pc)).setCell ⟨w.heap.size, 2, none⟩ (.slice d.b.qa d.b.qs.length d.b.qc)).setCell ⟨w.heap.size, 3, none⟩ (.int .i64 d.b.cs)).setCell ⟨w.heap.size, 4, none⟩ (.int .i64 d.b.nx)).setCell ⟨w.heap.size, 5, none⟩ (.slice d.oa d.os.length d.oc)) lo m g p q d) := (((((HQ2.out.setr (a := ⟨w.heap.size, 0, none⟩) (Or.inr ⟨Nat.le_of_lt hgw, Or.inl hrp⟩) _).setr (a := ⟨w.heap.size, 1, none⟩) (Or.inr ⟨Nat.le_of_lt hgw, Or.inl hrp⟩) _).setr (a := ⟨w.heap.size, 2, none⟩) (Or.inr ⟨Nat.le_of_lt hgw, Or.inl hrp⟩) _).setr (a := ⟨w.heap.size, 3, none⟩) (Or.inr ⟨Nat.le_of_lt hgw, Or.inl hrp⟩) _).setr (a := ⟨w.heap.size, 4, none⟩) (Or.inr ⟨Nat.le_of_lt hgw, Or.inl hrp⟩) _).setr (a := ⟨w.heap.size, 5, none⟩) (Or.inr ⟨Nat.le_of_lt hgw, Or.inl hrp⟩) _
 have HQS3 : Hid (q ≤ ((((((w2.setCell ⟨w.heap.size, 0, none⟩ (.slice d.b.va d.b.vs.length d.b.vc)).setCell ⟨w.heap.size, 1, none⟩ (.slice d.b.pa d.b.ps.length d.b.pc)).setCell ⟨w.heap.size, 2, none⟩ (.slice d.b.qa d.b.qs.length d.b.qc)).setCell ⟨w.heap.size, 3, none⟩ (.int .i64 d.b.cs)).setCell ⟨w.heap.size, 4, none⟩ (.int .i64 d.b.nx)).setCell ⟨w.heap.size, 5, none⟩ (.slice d.oa d.os.length d.oc)).heap.size) := le_set (le_set (le_set (le_set (le_set (le_set HQS.out _ _) _ _) _ _) _ _) _ _) _ _
 have HZ3 : Hid (Zn m (g + 1) w ((((((w2.setCell ⟨w.heap.size, 0, none⟩ (.slice d.b.va d.b.vs.length d.b.vc)).setCell ⟨w.heap.size, 1, none⟩ (.slice d.b.pa d.b.ps.length d.b.pc)).setCell ⟨w.heap.size, 2, none⟩ (.slice d.b.qa d.b.qs.length d.b.qc)).setCell ⟨w.heap.size, 3, none⟩ (.int .i64 d.b.cs)).setCell ⟨w.heap.size, 4, none⟩ (.int .i64 d.b.nx)).setCell ⟨w.heap.size, 5, none⟩ (.slice d.oa d.os.length d.oc))) := (((((HZ2.out.setn (a := ⟨w.heap.size, 0, none⟩) (Nat.le_refl _) _).setn (a := ⟨w.heap.size, 1, none⟩) (Nat.le_refl _) _).setn (a := ⟨w.heap.size, 2, none⟩) (Nat.le_refl _) _).setn (a := ⟨w.heap.size, 3, none⟩) (Nat.le_refl _) _).setn (a := ⟨w.heap.size, 4, none⟩) (Nat.le_refl _) _).setn (a := ⟨w.heap.size, 5, none⟩) (Nat.le_refl _) _
 clear BG2 BR2 HQ2 HZ2 HQS x2 x3 x4 x5 x6 x7
 clear q0 fq0 q1 fq1 q2 fq2 q3 fq3 q4 fq4 q5 fq5
 generalize ((((((w2.setCell ⟨w.heap.size, 0, none⟩ (.slice d.b.va d.b.vs.length d.b.vc)).setCell ⟨w.heap.size, 1, none⟩ (.slice d.b.pa d.b.ps.length d.b.pc)).setCell ⟨w.heap.size, 2, none⟩ (.slice d.b.qa d.b.qs.length d.b.qc)).setCell ⟨w.heap.size, 3, none⟩ (.int .i64 d.b.cs)).setCell ⟨w.heap.size, 4, none⟩ (.int .i64 d.b.nx)).setCell ⟨w.heap.size, 5, none⟩ (.slice d.oa d.os.length d.oc)) = w3 at *
 refine leaves_cons (f := 73) (args := #[.pointer (some ⟨g, 0, none⟩)]) (by simp) (by simp [go_sem]) ?_
 refine (unlock_deferred Tryz.muLib ⟨g, 0, none⟩ .returning _ BG3.out.c0 (BG3.out.fz 0)).mono ?_
 rintro ex u' w4 ⟨rfl, rfl, rfl⟩
 have BR4 : Hid (Bx (w3.setCell ⟨g, 0, none⟩ (.int .i32 0)) w.heap.size [.slice d.b.va d.b.vs.length d.b.vc, .slice d.b.pa d.b.ps.length d.b.pc, .slice d.b.qa d.b.qs.length d.b.qc, .int .i64 d.b.cs, .int .i64 d.b.nx, .slice d.oa d.os.length d.oc]) := BR3.out.setO (p := ⟨g, 0, none⟩) (by show g ≠ w.heap.size; omega) _
 have q0 := BR4.out.c0
 have q1 := BR4.out.c1
 have q2 := BR4.out.c2
 have q3 := BR4.out.c3
 have q4 := BR4.out.c4
 have q5 := BR4.out.c5
 refine ⟨.tuple #[.agg #[.slice d.b.va d.b.vs.length d.b.vc, .slice d.b.pa d.b.ps.length d.b.pc, .slice d.b.qa d.b.qs.length d.b.qc, .int .i64 d.b.cs, .int .i64 d.b.nx, .slice d.oa d.os.length d.oc], .int .i64 (pkCode c i x)], ?_, d, p, q, rfl, SM.out, HQ3.out.setr (a := ⟨g, 0, none⟩) (Or.inr ⟨Nat.le_refl _, Or.inl (by show g < p; omega)⟩) _, le_set HQS3.out _ _, Nat.le_of_lt hrp, HZ3.out.trans ((zn_set w3 ⟨g, 0, none⟩ _).mono (by show m ≤ g; omega) (Nat.le_refl _))⟩
 simp [results, Tryz.results31, go_sem, q0, q1, q2, q3, q4, q5]

end Go.Proofs.YtjeicgibddfifaaGreat

namespace Go.Proofs.YtjeicgibddfifaaGreat
open Go.RowKit
open KM
attribute [local go_sem ↓] Go.wp_at_zero Go.wp_at_succ

set_option maxRecDepth 100000 in
set_option maxHeartbeats 8000000 in
theorem ichopP (c : En) (hf : EnFit c) (i : Int) (x : Wt) (hx : x.1.size ≤ 1048576 ∧ x.2.1.size ≤ 1048576) (lo m g xb : Nat) (hxb : xb < lo) (w : World) (bg : Bx w g [.int .i32 0, .int .u32 0, .slice c.b.va c.b.vs.length c.b.vc, .slice c.b.pa c.b.ps.length c.b.pc, .slice c.b.qa c.b.qs.length c.b.qc, .int .i64 c.b.cs, .int .i64 c.b.nx, .slice c.oa c.os.length c.oc]) (bx : Bx w xb [.string x.1, .string x.2.1, .bool x.2.2]) (lx : EnLx w lo m g g g c) :
  Calls Tryz.prog 40 #[.pointer (some ⟨g, 0, none⟩), .int .i64 i, .func (.func 41) #[] #[.pointer (some ⟨xb, 0, none⟩)]] w fun ex w' => ∃ (d : En) (p q : Nat), ex = .returned (.tuple #[.agg #[.slice d.b.va d.b.vs.length d.b.vc, .slice d.b.pa d.b.ps.length d.b.pc, .slice d.b.qa d.b.qs.length d.b.qc, .int .i64 d.b.cs, .int .i64 d.b.nx, .slice d.oa d.os.length d.oc], .int .i64 (pkCode c i x)]) ∧ EnSame (pkE c i x) d ∧ EnQ w' lo m g p q d ∧ q ≤ w'.heap.size ∧ w.heap.size ≤ p ∧ Zn m (g + 1) w w' := by
 have hgw : g < w.heap.size := bg.lt
 have BI0 : Hid (Bx (((w.alloc (.cells #[.int .i64 i] 3)).alloc (.cells #[.func (.func 41) #[] #[.pointer (some ⟨xb, 0, none⟩)]] 75)).alloc (.cells #[.slice none 0 0, .slice none 0 0, .slice none 0 0, .int .i64 0, .int .i64 0, .slice none 0 0] 35)) w.heap.size [.int .i64 i]) := ((Bx.new w [.int .i64 i] 3).alloc _).alloc _
 have BS0 : Hid (Bx (((w.alloc (.cells #[.int .i64 i] 3)).alloc (.cells #[.func (.func 41) #[] #[.pointer (some ⟨xb, 0, none⟩)]] 75)).alloc (.cells #[.slice none 0 0, .slice none 0 0, .slice none 0 0, .int .i64 0, .int .i64 0, .slice none 0 0] 35)) (w.heap.size + 1) [.func (.func 41) #[] #[.pointer (some ⟨xb, 0, none⟩)]]) := by
  have h := (Bx.new (w.alloc (.cells #[.int .i64 i] 3)) [.func (.func 41) #[] #[.pointer (some ⟨xb, 0, none⟩)]] 75).alloc (.cells #[.slice none 0 0, .slice none 0 0, .slice none 0 0, .int .i64 0, .int .i64 0, .slice none 0 0] 35)
  rw [World.size_alloc] at h
  exact h
 have BR0 : Hid (Bx (((w.alloc (.cells #[.int .i64 i] 3)).alloc (.cells #[.func (.func 41) #[] #[.pointer (some ⟨xb, 0, none⟩)]] 75)).alloc (.cells #[.slice none 0 0, .slice none 0 0, .slice none 0 0, .int .i64 0, .int .i64 0, .slice none 0 0] 35)) (w.heap.size + 1 + 1) [.slice none 0 0, .slice none 0 0, .slice none 0 0, .int .i64 0, .int .i64 0, .slice none 0 0]) := by
  have h := Bx.new ((w.alloc (.cells #[.int .i64 i] 3)).alloc (.cells #[.func (.func 41) #[] #[.pointer (some ⟨xb, 0, none⟩)]] 75)) [.slice none 0 0, .slice none 0 0, .slice none 0 0, .int .i64 0, .int .i64 0, .slice none 0 0] 35
  rw [World.size_alloc, World.size_alloc] at h
  exact h
 have hb0 : Below w.heap.size w (((w.alloc (.cells #[.int .i64 i] 3)).alloc (.cells #[.func (.func 41) #[] #[.pointer (some ⟨xb, 0, none⟩)]] 75)).alloc (.cells #[.slice none 0 0, .slice none 0 0, .slice none 0 0, .int .i64 0, .int .i64 0, .slice none 0 0] 35)) := (((belowRefl w).alloc (Nat.le_refl _) _).alloc (by simp) _).alloc (by simp; omega) _
 have Y0 : Hid (w.heap.size + 1 + 1 + 1 ≤ (((w.alloc (.cells #[.int .i64 i] 3)).alloc (.cells #[.func (.func 41) #[] #[.pointer (some ⟨xb, 0, none⟩)]] 75)).alloc (.cells #[.slice none 0 0, .slice none 0 0, .slice none 0 0, .int .i64 0, .int .i64 0, .slice none 0 0] 35)).heap.size) := by show _ ≤ _; simp
 have BG0 : Hid (Bx (((w.alloc (.cells #[.int .i64 i] 3)).alloc (.cells #[.func (.func 41) #[] #[.pointer (some ⟨xb, 0, none⟩)]] 75)).alloc (.cells #[.slice none 0 0, .slice none 0 0, .slice none 0 0, .int .i64 0, .int .i64 0, .slice none 0 0] 35)) g [.int .i32 0, .int .u32 0, .slice c.b.va c.b.vs.length c.b.vc, .slice c.b.pa c.b.ps.length c.b.pc, .slice c.b.qa c.b.qs.length c.b.qc, .int .i64 c.b.cs, .int .i64 c.b.nx, .slice c.oa c.os.length c.oc]) := bg.below hb0
 have BX0 : Hid (Bx (((w.alloc (.cells #[.int .i64 i] 3)).alloc (.cells #[.func (.func 41) #[] #[.pointer (some ⟨xb, 0, none⟩)]] 75)).alloc (.cells #[.slice none 0 0, .slice none 0 0, .slice none 0 0, .int .i64 0, .int .i64 0, .slice none 0 0] 35)) xb [.string x.1, .string x.2.1, .bool x.2.2]) := bx.below hb0
 have LX0 : Hid (EnLx (((w.alloc (.cells #[.int .i64 i] 3)).alloc (.cells #[.func (.func 41) #[] #[.pointer (some ⟨xb, 0, none⟩)]] 75)).alloc (.cells #[.slice none 0 0, .slice none 0 0, .slice none 0 0, .int .i64 0, .int .i64 0, .slice none 0 0] 35)) lo m g g g c) := lx.below hb0
 have HZ0 : Hid (Zn m (g + 1) w (((w.alloc (.cells #[.int .i64 i] 3)).alloc (.cells #[.func (.func 41) #[] #[.pointer (some ⟨xb, 0, none⟩)]] 75)).alloc (.cells #[.slice none 0 0, .slice none 0 0, .slice none 0 0, .int .i64 0, .int .i64 0, .slice none 0 0] 35))) := Zn.ofBelow _ _ hb0
 have HF : Hid (EnFit c) := hf
 clear bg bx lx hb0 hf
 go_enter Tryz.func40, Tryz.ntmps40
 go_upto_region 1 with fail
 generalize (((w.alloc (.cells #[.int .i64 i] 3)).alloc (.cells #[.func (.func 41) #[] #[.pointer (some ⟨xb, 0, none⟩)]] 75)).alloc (.cells #[.slice none 0 0, .slice none 0 0, .slice none 0 0, .int .i64 0, .int .i64 0, .slice none 0 0] 35)) = w0 at *
 have CC := hide (ichangeP c HF.out i x hx lo m g xb w.heap.size (w.heap.size + 1) hxb (by omega) hgw w0 BG0.out BI0.out BS0.out BX0.out LX0.out)
 go_wp2_with fail
 refine CC.out.mono ?_
 rintro ex w2 ⟨d, p, q, rfl, hsm, hq, hqs, hp, hz⟩
 have hy0 := Y0.out
 have BR2 : Hid (Bx w2 (w.heap.size + 1 + 1) [.slice none 0 0, .slice none 0 0, .slice none 0 0, .int .i64 0, .int .i64 0, .slice none 0 0]) := BR0.out.zn hz (Or.inr (by omega))
 have HZ2 : Hid (Zn m (g + 1) w w2) := HZ0.out.trans hz
 have HQ2 := hide hq
 have HQS := hide hqs
 have hrp : w.heap.size + 1 + 1 < p := by omega
 have hgr : g ≤ w.heap.size + 1 + 1 := by omega
 have hwr : w.heap.size ≤ w.heap.size + 1 + 1 := by omega
 have SM := hide hsm
 clear hsm hq hqs hp hz BI0 BS0 BR0 BG0 BX0 LX0 HZ0 CC Y0 hy0
 have q0 := BR2.out.c0
 have fq0 := BR2.out.fz 0
 have q1 := BR2.out.c1
 have fq1 := BR2.out.fz 1
 have q2 := BR2.out.c2
 have fq2 := BR2.out.fz 2
 have q3 := BR2.out.c3
 have fq3 := BR2.out.fz 3
 have q4 := BR2.out.c4
 have fq4 := BR2.out.fz 4
 have q5 := BR2.out.c5
 have fq5 := BR2.out.fz 5
 go_wp2
 have BR3 : Hid (Bx ((((((w2.setCell ⟨w.heap.size + 1 + 1, 0, none⟩ (.slice d.b.va d.b.vs.length d.b.vc)).setCell ⟨w.heap.size + 1 + 1, 1, none⟩ (.slice d.b.pa d.b.ps.length d.b.pc)).setCell ⟨w.heap.size + 1 + 1, 2, none⟩ (.slice d.b.qa d.b.qs.length d.b.qc)).setCell ⟨w.heap.size + 1 + 1, 3, none⟩ (.int .i64 d.b.cs)).setCell ⟨w.heap.size + 1 + 1, 4, none⟩ (.int .i64 d.b.nx)).setCell ⟨w.heap.size + 1 + 1, 5, none⟩ (.slice d.oa d.os.length d.oc)) (w.heap.size + 1 + 1) [.slice d.b.va d.b.vs.length d.b.vc, .slice d.b.pa d.b.ps.length d.b.pc, .slice d.b.qa d.b.qs.length d.b.qc, .int .i64 d.b.cs, .int .i64 d.b.nx, .slice d.oa d.os.length d.oc]) := (((((BR2.out.set 0 _).set 1 _).set 2 _).set 3 _).set 4 _).set 5 _
 have HQ3 : Hid (EnQ ((((((w2.setCell ⟨w.heap.size + 1 + 1, 0, none⟩ (.slice d.b.va d.b.vs.length d.b.vc)).setCell ⟨w.heap.size + 1 + 1, 1, none⟩ (.slice d.b.pa d.b.ps.length d.b.pc)).setCell ⟨w.heap.size + 1 + 1, 2, none⟩ (.slice d.b.qa d.b.qs.length d.b.qc)).setCell ⟨w.heap.size + 1 + 1, 3, none⟩ (.int .i64 d.b.cs)).setCell ⟨w.heap.size + 1 + 1, 4, none⟩ (.int .i64 d.b.nx)).setCell ⟨w.heap.size + 1 + 1, 5, none⟩ (.slice d.oa d.os.length d.oc)) lo m g p q d) := (((((HQ2.out.setr (a := ⟨w.heap.size + 1 + 1, 0, none⟩) (Or.inr ⟨hgr, Or.inl hrp⟩) _).setr (a := ⟨w.heap.size + 1 + 1, 1, none⟩) (Or.inr ⟨hgr, Or.inl hrp⟩) _).setr (a := ⟨w.heap.size + 1 + 1, 2, none⟩) (Or.inr ⟨hgr, Or.inl hrp⟩) _).setr (a := ⟨w.heap.size + 1 + 1, 3, none⟩) (Or.inr ⟨hgr, Or.inl hrp⟩) _).setr (a := ⟨w.heap.size + 1 + 1, 4, none⟩) (Or.inr ⟨hgr, Or.inl hrp⟩) _).setr (a := ⟨w.heap.size + 1 + 1, 5, none⟩) (Or.inr ⟨hgr, Or.inl hrp⟩) _
 have HQS3 : Hid (q ≤ ((((((w2.setCell ⟨w.heap.size + 1 + 1, 0, none⟩ (.slice d.b.va d.b.vs.length d.b.vc)).setCell ⟨w.heap.size + 1 + 1, 1, none⟩ (.slice d.b.pa d.b.ps.length d.b.pc)).setCell ⟨w.heap.size + 1 + 1, 2, none⟩ (.slice d.b.qa d.b.qs.length d.b.qc)).setCell ⟨w.heap.size + 1 + 1, 3, none⟩ (.int .i64 d.b.cs)).setCell ⟨w.heap.size + 1 + 1, 4, none⟩ (.int .i64 d.b.nx)).setCell ⟨w.heap.size + 1 + 1, 5, none⟩ (.slice d.oa d.os.length d.oc)).heap.size) := le_set (le_set (le_set (le_set (le_set (le_set HQS.out _ _) _ _) _ _) _ _) _ _) _ _
 have HZ3 : Hid (Zn m (g + 1) w ((((((w2.setCell ⟨w.heap.size + 1 + 1, 0, none⟩ (.slice d.b.va d.b.vs.length d.b.vc)).setCell ⟨w.heap.size + 1 + 1, 1, none⟩ (.slice d.b.pa d.b.ps.length d.b.pc)).setCell ⟨w.heap.size + 1 + 1, 2, none⟩ (.slice d.b.qa d.b.qs.length d.b.qc)).setCell ⟨w.heap.size + 1 + 1, 3, none⟩ (.int .i64 d.b.cs)).setCell ⟨w.heap.size + 1 + 1, 4, none⟩ (.int .i64 d.b.nx)).setCell ⟨w.heap.size + 1 + 1, 5, none⟩ (.slice d.oa d.os.length d.oc))) := (((((HZ2.out.setn (a := ⟨w.heap.size + 1 + 1, 0, none⟩) hwr _).setn (a := ⟨w.heap.size + 1 + 1, 1, none⟩) hwr _).setn (a := ⟨w.heap.size + 1 + 1, 2, none⟩) hwr _).setn (a := ⟨w.heap.size + 1 + 1, 3, none⟩) hwr _).setn (a := ⟨w.heap.size + 1 + 1, 4, none⟩) hwr _).setn (a := ⟨w.heap.size + 1 + 1, 5, none⟩) hwr _
 clear BR2 HQ2 HZ2 HQS
 clear q0 fq0 q1 fq1 q2 fq2 q3 fq3 q4 fq4 q5 fq5
 generalize ((((((w2.setCell ⟨w.heap.size + 1 + 1, 0, none⟩ (.slice d.b.va d.b.vs.length d.b.vc)).setCell ⟨w.heap.size + 1 + 1, 1, none⟩ (.slice d.b.pa d.b.ps.length d.b.pc)).setCell ⟨w.heap.size + 1 + 1, 2, none⟩ (.slice d.b.qa d.b.qs.length d.b.qc)).setCell ⟨w.heap.size + 1 + 1, 3, none⟩ (.int .i64 d.b.cs)).setCell ⟨w.heap.size + 1 + 1, 4, none⟩ (.int .i64 d.b.nx)).setCell ⟨w.heap.size + 1 + 1, 5, none⟩ (.slice d.oa d.os.length d.oc)) = w3 at *
 have q0 := BR3.out.c0
 have q1 := BR3.out.c1
 have q2 := BR3.out.c2
 have q3 := BR3.out.c3
 have q4 := BR3.out.c4
 have q5 := BR3.out.c5
 refine bodyPost_ret (v := .tuple #[.agg #[.slice d.b.va d.b.vs.length d.b.vc, .slice d.b.pa d.b.ps.length d.b.pc, .slice d.b.qa d.b.qs.length d.b.qc, .int .i64 d.b.cs, .int .i64 d.b.nx, .slice d.oa d.os.length d.oc], .int .i64 (pkCode c i x)]) (by simp [results, Tryz.results40, go_sem, q0, q1, q2, q3, q4, q5]) rfl ⟨d, p, q, rfl, SM.out, HQ3.out, HQS3.out, by omega, HZ3.out⟩

end Go.Proofs.YtjeicgibddfifaaGreat
