/- What stays: copies of bases, by the document. -/
import Derived.Test.YtmijppfppigjcaaGreatPd01
import Derived.Test.YtmijppfppigjcaaGreatPd18
import Derived.Lib.AppendZeros
import Derived.Deep.RegionHeld3
import Derived.Deep.Cut
import Derived.Deep.CutRange
import Derived.Test.YtmijppfppigjcaaGreatPd10
import Derived.Test.YtmijppfppigjcaaGreatPd04
import Derived.Test.YtmijppfppigjcaaGreatPd02
import Derived.Test.YtmijppfppigjcaaGreatPd13
import Derived.Test.YtmijppfppigjcaaGreatPd05
import Derived.Test.YtmijppfppigjcaaGreatProg
import Derived.WalkKit
import Derived.WalkSpells
import Derived.WalkLawsBesides
import Derived.Deep.QuietTactic
import Derived.BigQuiet
import Derived.Deep.DrawnRows
import Derived.Deep.AppendLies
import Derived.Test.YtmijppfppigjcaaGreatPd03
import Derived.Sort.OwnSorted
import Derived.Lib.RowBridge
import Derived.Test.YtmijppfppigjcaaGreatPd15
import Derived.Test.YtmijppfppigjcaaGreatPd11
import Derived.Deep.RegionHeld
import Derived.Laws.EntriesVeiled
import Derived.Test.YtmijppfppigjcaaGreatPd07
import Derived.Test.YtmijppfppigjcaaGreatPd08
import Derived.Lib.ItoaNum
import Derived.Lib.ItoaLen
namespace Go.Proofs.YtmijppfppigjcaaGreat
open Go.RowKit
open KM
open VM
attribute [local go_sem ↓] Go.wp_at_zero Go.wp_at_succ

theorem stepRun {ops : Array Oper} {K : Act → World → Prop} {X : Prop} {o : Oper} {a : Act} {Q : Exit → Act → World → Prop} {W : World} (hgd : o.guard = none) (s x : Operand) (T tn : TypeId)
  (ho : o.op = .call { callee := .builtin .append, args := #[s, x], argTypes := #[T, tn] }) (vs vx : Value) (hs : a.eval s = vs) (hx : a.eval x = vx) (v' : Value) (w' : World) (hr : (Builtin.append_ #[T, tn] o.type #[vs, vx]).run Tryz.prog W = .ok v' w') (h : K (a.put o.dst v') w') :
  if Region.wanted o (yielded ops a.tmps) = true then Oper.wp Tryz.prog o a W K Q else X := by
 rw [if_pos (by unfold Region.wanted; rw [hgd])]
 exact Lib.wp_append_run W s x T tn ho vs vx hs hx v' w' hr h
set_option maxRecDepth 100000 in
theorem appRowV {W : World} {base base2 m c : Nat} {ao : Option Addr} {v : Value} (zs : List Vr) (ty : TypeId) (hown : GOwn encV 150 W base v []) (hsh : GOwn encV 150 W base2 (.slice ao m c) zs) (hm : m = zs.length) (hlen : zs.length ≤ 100000000) (hB : base ≤ W.heap.size) :
  ∃ v' w', (Builtin.append_ #[39, 39] ty #[v, .slice ao m c]).run Tryz.prog W = .ok v' w' ∧ GOwn encV 150 w' base v' zs ∧ W.grownBy w' v.ownBlock := by
 obtain ⟨i0, hi, hz0, hz1, hz2⟩ := info_parts Tryz.info150
 have hone : ∀ u ∈ encV.cells zs, u.oneCell' = true := fun u hu => by
  unfold Enc.cells at hu
  obtain ⟨y, _, hy⟩ := List.mem_flatMap.1 hu
  exact oneV u hy
 subst hm
 rcases gsrc hsh with ⟨rfl, h0, rfl⟩ | ⟨ad, rfl, hc⟩
 ·have e3 : zs = [] := List.length_eq_zero_iff.1 h0
  subst e3
  exact ⟨v, W, run_append_owned_none (P := Tryz.prog) W base 39 ty 150 i0 4 Tryz.underlying39 hi v _ _ hown, hown, ⟨rfl, rfl, rfl, Nat.le_refl _, fun _ _ _ => rfl⟩⟩
 ·obtain ⟨v', w', hr, q1, q2, _⟩ := run_append_own (P := Tryz.prog) W base 39 ty 150 i0 _ 4 48 Tryz.underlying39 hi hz0 hz1 hz2 rfl (by omega) v 0 [] hown ad zs.length c (encV.cells zs) (encV.cells_len zs) hc hone (by unfold maxLen; omega) (by omega) hB
  refine ⟨v', w', hr, ?_, q2⟩
  rw [Nat.zero_add, List.nil_append] at q1
  exact q1

set_option maxRecDepth 100000 in
set_option maxHeartbeats 4000000 in
theorem scopyB (b : Bb) (lo hi : Nat) (hf : BFit b) (w : World) (hp : BLie w lo hi b) :
  Calls Tryz.prog 49 #[.agg #[.slice b.va b.vs.length b.vc, .slice b.pa b.ps.length b.pc, .slice b.qa b.qs.length b.qc, .int .i64 b.cs, .int .i64 b.nx]] w fun e w' => ∃ c : Bb, e = .returned (.agg #[.slice c.va c.vs.length c.vc, .slice c.pa c.ps.length c.pc, .slice c.qa c.qs.length c.qc, .int .i64 c.cs, .int .i64 c.nx]) ∧ BSame b c ∧ BLie w' w.heap.size w'.heap.size c ∧ Below w.heap.size w w' := by
 have BA0 : Hid (Bx ((w.alloc (.cells #[.slice b.va b.vs.length b.vc, .slice b.pa b.ps.length b.pc, .slice b.qa b.qs.length b.qc, .int .i64 b.cs, .int .i64 b.nx] 42)).alloc (.cells #[.slice none 0 0, .slice none 0 0, .slice none 0 0, .int .i64 0, .int .i64 0] 42)) w.heap.size [.slice b.va b.vs.length b.vc, .slice b.pa b.ps.length b.pc, .slice b.qa b.qs.length b.qc, .int .i64 b.cs, .int .i64 b.nx]) := (Bx.new w [.slice b.va b.vs.length b.vc, .slice b.pa b.ps.length b.pc, .slice b.qa b.qs.length b.qc, .int .i64 b.cs, .int .i64 b.nx] 42).alloc _
 have BR0 : Hid (Bx ((w.alloc (.cells #[.slice b.va b.vs.length b.vc, .slice b.pa b.ps.length b.pc, .slice b.qa b.qs.length b.qc, .int .i64 b.cs, .int .i64 b.nx] 42)).alloc (.cells #[.slice none 0 0, .slice none 0 0, .slice none 0 0, .int .i64 0, .int .i64 0] 42)) (w.heap.size + 1) [.slice none 0 0, .slice none 0 0, .slice none 0 0, .int .i64 0, .int .i64 0]) := by
  have h := Bx.new (w.alloc (.cells #[.slice b.va b.vs.length b.vc, .slice b.pa b.ps.length b.pc, .slice b.qa b.qs.length b.qc, .int .i64 b.cs, .int .i64 b.nx] 42)) [.slice none 0 0, .slice none 0 0, .slice none 0 0, .int .i64 0, .int .i64 0] 42
  rw [show (w.alloc (.cells #[.slice b.va b.vs.length b.vc, .slice b.pa b.ps.length b.pc, .slice b.qa b.qs.length b.qc, .int .i64 b.cs, .int .i64 b.nx] 42)).heap.size = w.heap.size + 1 by simp] at h
  exact h
 have HB0 : Hid (Below w.heap.size w ((w.alloc (.cells #[.slice b.va b.vs.length b.vc, .slice b.pa b.ps.length b.pc, .slice b.qa b.qs.length b.qc, .int .i64 b.cs, .int .i64 b.nx] 42)).alloc (.cells #[.slice none 0 0, .slice none 0 0, .slice none 0 0, .int .i64 0, .int .i64 0] 42))) := ((belowRefl w).alloc (Nat.le_refl _) _).alloc (by simp) _
 have HS0 : Hid (w.heap.size + 1 + 1 ≤ ((w.alloc (.cells #[.slice b.va b.vs.length b.vc, .slice b.pa b.ps.length b.pc, .slice b.qa b.qs.length b.qc, .int .i64 b.cs, .int .i64 b.nx] 42)).alloc (.cells #[.slice none 0 0, .slice none 0 0, .slice none 0 0, .int .i64 0, .int .i64 0] 42)).heap.size) := by show _ ≤ _; simp
 have HF : Hid (BFit b) := hf
 obtain ⟨m1, m2, _, _, _, hv, hpp, hqq⟩ := hp.ex
 have HV : Hid (Lies encV 150 w lo m1 (.slice b.va b.vs.length b.vc) b.vs) := hv
 have CP : Hid (∀ W : World, Below w.heap.size w W → Calls Tryz.prog 50 #[.slice b.pa b.ps.length b.pc] W fun e w' => ∃ (ys : List Ta) (a1 : Option Addr) (c1 : Nat), e = .returned (.slice a1 b.ps.length c1) ∧ txs ys = txs b.ps ∧ ys.length = b.ps.length ∧ LLie w' W.heap.size w'.heap.size (.slice a1 ys.length c1) ys ∧ Below W.heap.size W w') := fun W h => sTs b.ps b.pa b.pc b.ps.length m1 m2 rfl (Nat.le_trans HF.out.pl (by omega)) HF.out.p W (hpp.below h)
 have CQ : Hid (∀ W : World, Below w.heap.size w W → Calls Tryz.prog 50 #[.slice b.qa b.qs.length b.qc] W fun e w' => ∃ (ys : List Ta) (a1 : Option Addr) (c1 : Nat), e = .returned (.slice a1 b.qs.length c1) ∧ txs ys = txs b.qs ∧ ys.length = b.qs.length ∧ LLie w' W.heap.size w'.heap.size (.slice a1 ys.length c1) ys ∧ Below W.heap.size W w') := fun W h => sTs b.qs b.qa b.qc b.qs.length m2 hi rfl (Nat.le_trans HF.out.ql (by omega)) HF.out.q W (hqq.below h)
 have HVL : Hid (b.vs.length ≤ 100000000) := Nat.le_trans HF.out.vl (by omega)
 clear hp hf hv
 go_enter Tryz.func49, Tryz.ntmps49
 go_upto_region 1 with fail
 generalize ((w.alloc (.cells #[.slice b.va b.vs.length b.vc, .slice b.pa b.ps.length b.pc, .slice b.qa b.qs.length b.qc, .int .i64 b.cs, .int .i64 b.nx] 42)).alloc (.cells #[.slice none 0 0, .slice none 0 0, .slice none 0 0, .int .i64 0, .int .i64 0] 42)) = w0 at *
 refine wp_region_held_drew (S := fun w' => w'.cell? ⟨w.heap.size, 0, none⟩ = some (.slice b.va b.vs.length b.vc) ∧ w'.cell? ⟨w.heap.size, 1, none⟩ = some (.slice b.pa b.ps.length b.pc) ∧ w'.cell? ⟨w.heap.size, 2, none⟩ = some (.slice b.qa b.qs.length b.qc) ∧ w'.cell? ⟨w.heap.size, 3, none⟩ = some (.int .i64 b.cs) ∧ w'.cell? ⟨w.heap.size, 4, none⟩ = some (.int .i64 b.nx)) (by kernel_rfl) ⟨BA0.out.c0, BA0.out.c1, BA0.out.c2, BA0.out.c3, BA0.out.c4⟩ (fun hHeld => ?_)
 (refine ti 1 ?_; simp only [Act.put, tA, tB, tC, tD, tE, tF])
 (refine ti 2 ?_; simp only [Act.put, tA, tB, tC, tD, tE, tF])
 (refine ti 4 ?_; simp only [Act.put, tA, tB, tC, tD, tE, tF])
 (refine ti 5 ?_; simp only [Act.put, tA, tB, tC, tD, tE, tF])
 (refine ti 7 ?_; simp only [Act.put, tA, tB, tC, tD, tE, tF])
 (refine ti 8 ?_; simp only [Act.put, tA, tB, tC, tD, tE, tF])
 (refine ti 10 ?_; simp only [Act.put, tA, tB, tC, tD, tE, tF])
 (refine ti 11 ?_; simp only [Act.put, tA, tB, tC, tD, tE, tF])
 (refine ti 12 ?_; simp only [Act.put, tA, tB, tC, tD, tE, tF])
 (refine ti 13 ?_; simp only [Act.put, tA, tB, tC, tD, tE, tF])
 refine wpAnyH_ready (rs := [0]) (by kernel_rfl) (by simp) ?_
 refine AllReadyH.cons rfl (fun K hK => ?_) AllReadyH.nil
 go_simp
 have hb : Below w0.heap.size w0 (w0.alloc (.cells #[] 150)).drew := ((belowRefl w0).alloc (Nat.le_refl _) _).drew
 have O1 : Hid (GOwn encV 150 (w0.alloc (.cells #[] 150)).drew w0.heap.size (.slice (some ⟨w0.heap.size, 0, none⟩) 0 0) []) := GOwn.empty w0 w0.heap.size (Nat.le_refl _)
 have HB1 : Hid (Below w.heap.size w (w0.alloc (.cells #[] 150)).drew) := HB0.out.trans (hb.mono HB0.out.size)
 have BA1 : Hid (Bx (w0.alloc (.cells #[] 150)).drew w.heap.size [.slice b.va b.vs.length b.vc, .slice b.pa b.ps.length b.pc, .slice b.qa b.qs.length b.qc, .int .i64 b.cs, .int .i64 b.nx]) := BA0.out.below hb
 have BR1 : Hid (Bx (w0.alloc (.cells #[] 150)).drew (w.heap.size + 1) [.slice none 0 0, .slice none 0 0, .slice none 0 0, .int .i64 0, .int .i64 0]) := BR0.out.below hb
 have SZ1 : Hid (w0.heap.size ≤ (w0.alloc (.cells #[] 150)).drew.heap.size) := hb.size
 clear hb HB0 BA0 BR0
 refine hK.out _ _ ⟨BA1.out.c0, BA1.out.c1, BA1.out.c2, BA1.out.c3, BA1.out.c4⟩ (fun hHeld1 => ?_)
 clear hK K
 generalize (w0.alloc (.cells #[] 150)).drew = w1 at *
 refine wpAnyH_ready (rs := [3]) (by kernel_rfl) (by simp) ?_
 refine AllReadyH.cons rfl (fun K hK => ?_) AllReadyH.nil
 obtain ⟨v2, w2, hr, ho2, hg2⟩ := appRowV (base := w0.heap.size) b.vs 44 O1.out (HV.out.own.below HB1.out) rfl HVL.out SZ1.out
 refine stepRun rfl _ _ 39 39 rfl _ _ rfl rfl v2 w2 hr ?_
 obtain ⟨va1, vc1, rfl, _⟩ := ho2.row
 have V2 : Hid (Lies encV 150 w2 w0.heap.size w2.heap.size (.slice va1 b.vs.length vc1) b.vs) := Lies.of ho2
 have hlow : Below w0.heap.size w1 w2 := grown_low hg2 (fun g e => by cases e; exact Nat.le_refl _) SZ1.out
 have hs0 := HS0.out
 have HB2 : Hid (Below w.heap.size w w2) := HB1.out.trans (hlow.mono (by omega))
 have BA2 : Hid (Bx w2 w.heap.size [.slice b.va b.vs.length b.vc, .slice b.pa b.ps.length b.pc, .slice b.qa b.qs.length b.qc, .int .i64 b.cs, .int .i64 b.nx]) := bx_low BA1.out hlow (by omega)
 have BR2 : Hid (Bx w2 (w.heap.size + 1) [.slice none 0 0, .slice none 0 0, .slice none 0 0, .int .i64 0, .int .i64 0]) := bx_low BR1.out hlow (by omega)
 have SZ2 : Hid (w1.heap.size ≤ w2.heap.size) := hg2.size
 clear hr ho2 hg2 hlow HB1 BA1 BR1 O1
 refine hK.out _ _ ⟨BA2.out.c0, BA2.out.c1, BA2.out.c2, BA2.out.c3, BA2.out.c4⟩ (fun hHeld2 => ?_)
 clear hK K
 refine wpAnyH_ready (rs := [6]) (by kernel_rfl) (by simp) ?_
 refine AllReadyH.cons rfl (fun K hK => ?_) AllReadyH.nil
 go_simp
 go_wp2_with fail
 refine (CP.out _ HB2.out).mono ?_
 rintro e w3 ⟨ys1, pa1, pc1, rfl, ht1, hl1, hll, hb⟩
 have T1 : Hid (txs ys1 = txs b.ps) := ht1
 have L1 : Hid (ys1.length = b.ps.length) := hl1
 have P3 : Hid (LLie w3 w2.heap.size w3.heap.size (.slice pa1 ys1.length pc1) ys1) := hll
 clear ht1 hl1 hll
 have HB3 : Hid (Below w.heap.size w w3) := HB2.out.trans (hb.mono HB2.out.size)
 have BA3 : Hid (Bx w3 w.heap.size [.slice b.va b.vs.length b.vc, .slice b.pa b.ps.length b.pc, .slice b.qa b.qs.length b.qc, .int .i64 b.cs, .int .i64 b.nx]) := BA2.out.below hb
 have BR3 : Hid (Bx w3 (w.heap.size + 1) [.slice none 0 0, .slice none 0 0, .slice none 0 0, .int .i64 0, .int .i64 0]) := BR2.out.below hb
 have SZ3 : Hid (w2.heap.size ≤ w3.heap.size) := hb.size
 replace V2 : Hid (Lies encV 150 w3 w0.heap.size w2.heap.size (.slice va1 b.vs.length vc1) b.vs) := V2.out.below hb
 clear hb HB2 BA2 BR2
 go_wp2_with fail
 refine hK.out _ _ ⟨BA3.out.c0, BA3.out.c1, BA3.out.c2, BA3.out.c3, BA3.out.c4⟩ (fun hHeld3 => ?_)
 clear hK K
 refine wpAnyH_ready (rs := [9]) (by kernel_rfl) (by simp) ?_
 refine AllReadyH.cons rfl (fun K hK => ?_) AllReadyH.nil
 go_simp
 go_wp2_with fail
 refine (CQ.out _ HB3.out).mono ?_
 rintro e w4 ⟨ys2, qa1, qc1, rfl, ht2, hl2, hll, hb⟩
 have T2 : Hid (txs ys2 = txs b.qs) := ht2
 have L2 : Hid (ys2.length = b.qs.length) := hl2
 have Q4 : Hid (LLie w4 w3.heap.size w4.heap.size (.slice qa1 ys2.length qc1) ys2) := hll
 clear ht2 hl2 hll
 have HB4 : Hid (Below w.heap.size w w4) := HB3.out.trans (hb.mono HB3.out.size)
 have BA4 : Hid (Bx w4 w.heap.size [.slice b.va b.vs.length b.vc, .slice b.pa b.ps.length b.pc, .slice b.qa b.qs.length b.qc, .int .i64 b.cs, .int .i64 b.nx]) := BA3.out.below hb
 have BR4 : Hid (Bx w4 (w.heap.size + 1) [.slice none 0 0, .slice none 0 0, .slice none 0 0, .int .i64 0, .int .i64 0]) := BR3.out.below hb
 have SZ4 : Hid (w3.heap.size ≤ w4.heap.size) := hb.size
 replace V2 : Hid (Lies encV 150 w4 w0.heap.size w2.heap.size (.slice va1 b.vs.length vc1) b.vs) := V2.out.below hb
 replace P3 : Hid (LLie w4 w2.heap.size w3.heap.size (.slice pa1 ys1.length pc1) ys1) := P3.out.below hb
 clear hb HB3 BA3 BR3
 go_wp2_with fail
 refine hK.out _ _ ⟨BA4.out.c0, BA4.out.c1, BA4.out.c2, BA4.out.c3, BA4.out.c4⟩ (fun hHeld4 => ?_)
 clear hK K
 (refine ti 14 ?_; simp only [Act.put, tA, tB, tC, tD, tE, tF])
 have z0 := BR4.out.c0
 have fz0 := BR4.out.fz 0
 have z1 := BR4.out.c1
 have fz1 := BR4.out.fz 1
 have z2 := BR4.out.c2
 have fz2 := BR4.out.fz 2
 have z3 := BR4.out.c3
 have fz3 := BR4.out.fz 3
 have z4 := BR4.out.c4
 have fz4 := BR4.out.fz 4
 refine wpAnyH_ready (rs := [15]) (by kernel_rfl) (by simp) ?_
 refine AllReadyH.cons rfl (fun K hK => ?_) AllReadyH.nil
 go_simp
 have BA5 : Hid (Bx (((((w4.setCell ⟨w.heap.size + 1, 0, none⟩ (.slice va1 b.vs.length vc1)).setCell ⟨w.heap.size + 1, 1, none⟩ (.slice pa1 b.ps.length pc1)).setCell ⟨w.heap.size + 1, 2, none⟩ (.slice qa1 b.qs.length qc1)).setCell ⟨w.heap.size + 1, 3, none⟩ (.int .i64 b.cs)).setCell ⟨w.heap.size + 1, 4, none⟩ (.int .i64 b.nx)) w.heap.size [.slice b.va b.vs.length b.vc, .slice b.pa b.ps.length b.pc, .slice b.qa b.qs.length b.qc, .int .i64 b.cs, .int .i64 b.nx]) := (((((BA4.out.setO (by show w.heap.size + 1 ≠ w.heap.size; omega) _).setO (by show w.heap.size + 1 ≠ w.heap.size; omega) _).setO (by show w.heap.size + 1 ≠ w.heap.size; omega) _).setO (by show w.heap.size + 1 ≠ w.heap.size; omega) _).setO (by show w.heap.size + 1 ≠ w.heap.size; omega) _)
 have HB5 : Hid (Below w.heap.size w (((((w4.setCell ⟨w.heap.size + 1, 0, none⟩ (.slice va1 b.vs.length vc1)).setCell ⟨w.heap.size + 1, 1, none⟩ (.slice pa1 b.ps.length pc1)).setCell ⟨w.heap.size + 1, 2, none⟩ (.slice qa1 b.qs.length qc1)).setCell ⟨w.heap.size + 1, 3, none⟩ (.int .i64 b.cs)).setCell ⟨w.heap.size + 1, 4, none⟩ (.int .i64 b.nx))) := (((((HB4.out.setCell (by show _ ≤ _ + 1; omega) _).setCell (by show _ ≤ _ + 1; omega) _).setCell (by show _ ≤ _ + 1; omega) _).setCell (by show _ ≤ _ + 1; omega) _).setCell (by show _ ≤ _ + 1; omega) _)
 have HSM : Hid (BSame b ⟨b.vs, ys1, ys2, b.cs, b.nx, va1, vc1, pa1, pc1, qa1, qc1⟩) := ⟨rfl, T1.out, T2.out, rfl, rfl⟩
 have HL4 : Hid (BLie w4 (w.heap.size + 1 + 1) w4.heap.size ⟨b.vs, ys1, ys2, b.cs, b.nx, va1, vc1, pa1, pc1, qa1, qc1⟩) :=
  ⟨w2.heap.size, w3.heap.size, by have := SZ1.out; have := SZ2.out; omega, SZ3.out, SZ4.out, V2.out.mono (by omega) (Nat.le_refl _), P3.out, Q4.out⟩
 have HL5 : Hid (BLie (((((w4.setCell ⟨w.heap.size + 1, 0, none⟩ (.slice va1 b.vs.length vc1)).setCell ⟨w.heap.size + 1, 1, none⟩ (.slice pa1 b.ps.length pc1)).setCell ⟨w.heap.size + 1, 2, none⟩ (.slice qa1 b.qs.length qc1)).setCell ⟨w.heap.size + 1, 3, none⟩ (.int .i64 b.cs)).setCell ⟨w.heap.size + 1, 4, none⟩ (.int .i64 b.nx)) (w.heap.size + 1 + 1) w4.heap.size ⟨b.vs, ys1, ys2, b.cs, b.nx, va1, vc1, pa1, pc1, qa1, qc1⟩) := (((((HL4.out.set (by show _ + 1 < _; omega) _).set (by show _ + 1 < _; omega) _).set (by show _ + 1 < _; omega) _).set (by show _ + 1 < _; omega) _).set (by show _ + 1 < _; omega) _)
 have HZ5 : Hid ((((((w4.setCell ⟨w.heap.size + 1, 0, none⟩ (.slice va1 b.vs.length vc1)).setCell ⟨w.heap.size + 1, 1, none⟩ (.slice pa1 b.ps.length pc1)).setCell ⟨w.heap.size + 1, 2, none⟩ (.slice qa1 b.qs.length qc1)).setCell ⟨w.heap.size + 1, 3, none⟩ (.int .i64 b.cs)).setCell ⟨w.heap.size + 1, 4, none⟩ (.int .i64 b.nx)).heap.size = w4.heap.size) := by show _ = _; simp [World.setCell]
 refine hK.out _ _ ⟨BA5.out.c0, BA5.out.c1, BA5.out.c2, BA5.out.c3, BA5.out.c4⟩ (fun hHeld5 => ?_)
 clear hK K
 refine wpAnyH_done (by kernel_rfl) ?_ _
 go_wp2
 refine bodyPost_ret (v := .agg #[.slice va1 b.vs.length vc1, .slice pa1 b.ps.length pc1, .slice qa1 b.qs.length qc1, .int .i64 b.cs, .int .i64 b.nx]) (by simp [results, Tryz.results49, go_sem, z0, z1, z2, z3, z4]) rfl ⟨⟨b.vs, ys1, ys2, b.cs, b.nx, va1, vc1, pa1, pc1, qa1, qc1⟩, by show _ = Ending.returned (.agg #[.slice va1 b.vs.length vc1, .slice pa1 ys1.length pc1, .slice qa1 ys2.length qc1, .int .i64 b.cs, .int .i64 b.nx]); rw [L1.out, L2.out], HSM.out, HL5.out.mono (by omega) (by rw [HZ5.out]; exact Nat.le_refl _), HB5.out⟩

end Go.Proofs.YtmijppfppigjcaaGreat

namespace Go.Proofs.YtmijppfppigjcaaGreat
open Go.RowKit
open KM
attribute [local go_sem ↓] Go.wp_at_zero Go.wp_at_succ

theorem Lies.setO {α : Type} {E : Enc α} {e : TypeId} {w : World} {lo hi : Nat} {v : Value} {xs : List α} (h : Lies E e w lo hi v xs) {a : Addr} (ha : a.block < lo ∨ hi ≤ a.block) (u : Value) : Lies E e (w.setCell a u) lo hi v xs :=
 ⟨ownsRow_setCell_other h.own (fun e => by have := h.lo _ e; omega) u, h.up⟩
theorem TLie.setO {w : World} {lo hi : Nat} {t : Tx} {ra wa : Option Addr} {rc wc : Nat} (h : TLie w lo hi t ra rc wa wc) {a : Addr} (ha : a.block < lo ∨ hi ≤ a.block) (u : Value) : TLie (w.setCell a u) lo hi t ra rc wa wc := by
 obtain ⟨m, p, q, h1, h2⟩ := h.ex
 exact ⟨m, p, q, h1.setO (by omega) u, h2.setO (by omega) u⟩
theorem Zs.setO {w : World} {v : Value} {a : Addr} (hv : v.ownBlock = some a.block) (u : Value) : ∀ {ys : List Ta} {lo hi : Nat}, Zs w v lo hi ys → Zs (w.setCell a u) v lo hi ys
 | [], _, _, h => h
 | _ :: _, _, _, ⟨p, q, h1, h2, h3, h4, h5⟩ => ⟨p, q, h1, h2, h3.setO (h4 _ hv) u, h4, h5.setO hv u⟩
theorem ownsZn {w w' : World} {base e size n l h : Nat} {v : Value} {xs : List Value} (k : w.ownsRow base e size v n xs) (hz : Zn l h w w') (hne : ∀ g, v.ownBlock = some g → g < l ∨ h ≤ g) : w'.ownsRow base e size v n xs := by
 obtain ⟨h1, h2⟩ := k
 refine ⟨h1, ?_⟩
 rcases h2 with h2 | ⟨g, cap, cur, hv, hg, hh, r⟩
 ·exact Or.inl h2
 ·refine Or.inr ⟨g, cap, cur, hv, hg, ?_, r⟩
  have hlt : g < w.heap.size := (Array.getElem?_eq_some_iff.1 hh).1
  rw [hz.block g hlt (by have := hne g (by rw [hv]; rfl); omega)]
  exact hh
theorem Zn.mono {l h l' h' : Nat} {w w' : World} (k : Zn l h w w') (h1 : l' ≤ l) (h2 : h ≤ h') : Zn l' h' w w' := ⟨k.os, k.tape, k.output, k.size, fun j hj hn => k.block j hj (by omega)⟩

end Go.Proofs.YtmijppfppigjcaaGreat

namespace Go.Proofs.YtmijppfppigjcaaGreat
open Go.RowKit
open KM
attribute [local go_sem ↓] Go.wp_at_zero Go.wp_at_succ

set_option maxRecDepth 100000 in
set_option maxHeartbeats 2000000 in
theorem byname70 (a : Option Addr) (c n : Nat) (w : World) : Calls Tryz.prog 93 #[.slice a n c] w fun e w' => e = .returned (.agg #[.slice a n c, .func (.func 129) #[] #[]]) ∧ Below w.heap.size w w' := by
 go_enter Tryz.func93, Tryz.ntmps93
 go_wp2
 refine bodyPost_ret (v := .agg #[.slice a n c, .func (.func 129) #[] #[]]) (by simp [results, Tryz.results93, go_sem]) rfl ⟨rfl, ?_⟩
 exact (belowRefl w).alloc (Nat.le_refl _) _

set_option maxRecDepth 100000 in
set_option maxHeartbeats 2000000 in
theorem place72 (xs : List Ta) (a : Option Addr) (c n : Nat) (s : ByteArray) (hx : n = xs.length) (hn : n ≤ 10000000) (w : World) (hp : TRows w a xs) :
  Calls Tryz.prog 94 #[.agg #[.slice a n c, .func (.func 129) #[] #[]], .string s] w fun e w' => e = .returned (.int .i64 (idxN (nms xs) s 0)) ∧ Below w.heap.size w w' := by
 have HB0 : Hid (Below w.heap.size w (w.alloc (.cells #[.slice a n c, .func (.func 129) #[] #[]] 165))) := (belowRefl w).alloc (Nat.le_refl _) _
 have BA0 : Hid (Bx (w.alloc (.cells #[.slice a n c, .func (.func 129) #[] #[]] 165)) w.heap.size [.slice a n c, .func (.func 129) #[] #[]]) := Bx.new w [.slice a n c, .func (.func 129) #[] #[]] 165
 have H := hide (keysN xs a c n hx hn (w.alloc (.cells #[.slice a n c, .func (.func 129) #[] #[]] 165)) (hp.below HB0.out))
 have HX : Hid (n = (nms xs).length) := by show _ = _; rw [nms_len, hx]
 clear hp hx
 go_enter Tryz.func94, Tryz.ntmps94
 go_wp2_with fail
 refine H.out.mono ?_
 rintro e w1 ⟨a1, c1, rfl, ho, hb1⟩
 have HB1 : Hid (Below w.heap.size w w1) := HB0.out.trans (hb1.mono HB0.out.size)
 have RO : Hid (GRow encS w1 a1 (nms xs)) := by have h := ho; rw [HX.out] at h; exact h.grow
 clear ho hb1
 go_wp2_with fail
 refine (idxS (nms xs) a1 c1 n s HX.out (by omega) _ RO.out).mono ?_
 rintro e w2 ⟨rfl, hb2⟩
 have HB2 : Hid (Below w.heap.size w w2) := HB1.out.trans (hb2.mono HB1.out.size)
 clear hb2
 go_wp2
 go_ret
 exact ⟨rfl, HB2.out⟩

set_option maxRecDepth 100000 in
set_option maxHeartbeats 2000000 in
theorem ireadyat (b : Bb) (nm : ByteArray) (hn : b.qs.length ≤ 10000000) (w : World) (hp : BRows w b) :
  Calls Tryz.prog 65 #[.agg #[.slice b.va b.vs.length b.vc, .slice b.pa b.ps.length b.pc, .slice b.qa b.qs.length b.qc, .int .i64 b.cs, .int .i64 b.nx], .string nm] w fun e w' => e = .returned (.int .i64 (idxN (nms b.qs) nm 0)) ∧ Below w.heap.size w w' := by
 have HB0 : Hid (Below w.heap.size w (w.alloc (.cells #[.slice b.va b.vs.length b.vc, .slice b.pa b.ps.length b.pc, .slice b.qa b.qs.length b.qc, .int .i64 b.cs, .int .i64 b.nx] 42))) := (belowRefl w).alloc (Nat.le_refl _) _
 have HQ : Hid (TRows w b.qa b.qs) := hp.q
 clear hp
 go_enter Tryz.func65, Tryz.ntmps65
 go_wp2_with fail
 refine (byname70 b.qa b.qc b.qs.length _).mono ?_
 rintro e w1 ⟨rfl, hb1⟩
 have HB1 : Hid (Below w.heap.size w w1) := HB0.out.trans (hb1.mono HB0.out.size)
 clear hb1
 go_wp2_with fail
 refine (place72 b.qs b.qa b.qc b.qs.length nm rfl hn _ (HQ.out.below HB1.out)).mono ?_
 rintro e w2 ⟨rfl, hb2⟩
 have HB2 : Hid (Below w.heap.size w w2) := HB1.out.trans (hb2.mono HB1.out.size)
 clear hb2
 go_wp2
 go_ret
 exact ⟨rfl, HB2.out⟩

end Go.Proofs.YtmijppfppigjcaaGreat

namespace Go.Proofs.YtmijppfppigjcaaGreat
open Go.RowKit
open KM
open VM
attribute [local go_sem ↓] Go.wp_at_zero Go.wp_at_succ

theorem Zs.setX {w : World} {v : Value} {a : Addr} (u : Value) : ∀ {ys : List Ta} {lo hi : Nat}, Zs w v lo hi ys → a.block < lo ∨ hi ≤ a.block → Zs (w.setCell a u) v lo hi ys
 | [], _, _, h, _ => h
 | _ :: _, _, _, ⟨p, q, h1, h2, h3, h4, h5⟩, ha => ⟨p, q, h1, h2, h3.setO (by have := h5.le; omega) u, h4, h5.setX u (by omega)⟩
theorem BLie.setO {w : World} {lo hi : Nat} {c : Bb} (h : BLie w lo hi c) {a : Addr} (ha : a.block < lo ∨ hi ≤ a.block) (u : Value) : BLie (w.setCell a u) lo hi c := by
 obtain ⟨m1, m2, k1, k2, k3, h1, h2, h3⟩ := h.ex
 exact ⟨m1, m2, k1, k2, k3, h1.setO (by omega) u, ⟨h2.own.setO (by omega) u, h2.zs.setX u (by omega)⟩, ⟨h3.own.setO (by omega) u, h3.zs.setX u (by omega)⟩⟩
end Go.Proofs.YtmijppfppigjcaaGreat

namespace Go.Proofs.YtmijppfppigjcaaGreat
open Go.RowKit
open KM
open VM
attribute [local go_sem ↓] Go.wp_at_zero Go.wp_at_succ

theorem Cls.low {w w' : World} {b o : Nat} {x : Ta} (h : Cls w b o x) (hb : Below w.heap.size w w') (hl : b < w.heap.size) : Cls w' b o x :=
 ⟨(hb.cell (p := ⟨b, o, none⟩) hl).trans h.c0, (hb.cell (p := ⟨b, o + 1, none⟩) hl).trans h.c1, (hb.cell (p := ⟨b, o + 2, none⟩) hl).trans h.c2, (hb.cell (p := ⟨b, o + 3, none⟩) hl).trans h.c3, (hb.cell (p := ⟨b, o + 4, none⟩) hl).trans h.c4, (hb.cell (p := ⟨b, o + 5, none⟩) hl).trans h.c5, (hb.cell (p := ⟨b, o + 6, none⟩) hl).trans h.c6, (hb.cell (p := ⟨b, o + 7, none⟩) hl).trans h.c7⟩
theorem BLie.low {w w' : World} {lo hi base : Nat} {c : Bb} (h : BLie w lo hi c) (hb : Below base w w') (hh : hi ≤ base) : BLie w' lo hi c :=
 h.zn (l := base) (h := w.heap.size) ⟨hb.os, hb.tape, hb.output, hb.size, fun j hj hn => hb.block j (by omega)⟩ (Or.inl hh)

end Go.Proofs.YtmijppfppigjcaaGreat

namespace Go.Proofs.YtmijppfppigjcaaGreat
open Go.RowKit

theorem Tryz.info154 : (Tryz.prog.info? 154).map (fun i => (i.zero, i.size, i.bytes)) = some (some (.agg #[.int .i64 0, .string ByteArray.empty]), 2, 24) := by kernel_rfl

abbrev Wr := Int × ByteArray
def pc (p : Wr) : List Value := [.int .i64 p.1, .string p.2]
def pcs (ps : List Wr) : List Value := ps.flatMap pc
def scs (ss : List ByteArray) : List Value := ss.map Value.string
theorem scs_len (ss : List ByteArray) : (scs ss).length = ss.length := by simp [scs]
theorem pcs_len : ∀ ps : List Wr, (pcs ps).length = ps.length * 2
 | [] => rfl
 | p :: ps => by
  have := pcs_len ps
  simp only [pcs, List.flatMap_cons, List.length_append, List.length_cons] at this ⊢
  simp only [pc, List.length_cons, List.length_nil]
  omega
theorem pcs_at : ∀ (ps : List Wr) (j : Nat) (h : j < ps.length), (pcs ps)[j * 2]? = some (.int .i64 ps[j].1) ∧ (pcs ps)[j * 2 + 1]? = some (.string ps[j].2)
 | p :: ps, 0, _ => by simp [pcs, pc]
 | p :: ps, j + 1, h => by
  have := pcs_at ps j (by simpa using h)
  have e : pcs (p :: ps) = [.int .i64 p.1, .string p.2] ++ pcs ps := rfl
  rw [e]
  constructor
  ·rw [List.getElem?_append_right (by simp; omega)]
   simp only [List.length_cons, List.length_nil]
   rw [show (j + 1) * 2 - (0 + 1 + 1) = j * 2 by omega]
   exact this.1
  ·rw [List.getElem?_append_right (by simp; omega)]
   simp only [List.length_cons, List.length_nil]
   rw [show (j + 1) * 2 + 1 - (0 + 1 + 1) = j * 2 + 1 by omega]
   exact this.2

def SOwn (w : World) (base : Nat) (v : Value) (ss : List ByteArray) : Prop := w.ownsRow base 9 1 v ss.length (scs ss)
def POwn (w : World) (base : Nat) (v : Value) (ps : List Wr) : Prop := w.ownsRow base 154 2 v ps.length (pcs ps)
def SRow (w : World) (a : Option Addr) (ss : List ByteArray) : Prop :=
 0 < ss.length → ∃ b off, a = some ⟨b, off, none⟩ ∧ b < w.heap.size ∧ ∀ j (hj : j < ss.length), w.cell? ⟨b, off + j, none⟩ = some (.string ss[j])
def PRow (w : World) (a : Option Addr) (ps : List Wr) : Prop :=
 0 < ps.length → ∃ b off, a = some ⟨b, off, none⟩ ∧ b < w.heap.size ∧ ∀ j (hj : j < ps.length), w.cell? ⟨b, off + j * 2, none⟩ = some (.int .i64 ps[j].1) ∧ w.cell? ⟨b, off + j * 2 + 1, none⟩ = some (.string ps[j].2)

theorem SRow.below {w w' : World} {a : Option Addr} {ss : List ByteArray} (h : SRow w a ss) (hb : Below w.heap.size w w') : SRow w' a ss := fun h0 => by
 obtain ⟨b, off, rfl, hlt, hc⟩ := h h0
 exact ⟨b, off, rfl, Nat.lt_of_lt_of_le hlt hb.size, fun j hj => (hb.cell (p := ⟨b, off + j, none⟩) hlt).trans (hc j hj)⟩
theorem PRow.below {w w' : World} {a : Option Addr} {ps : List Wr} (h : PRow w a ps) (hb : Below w.heap.size w w') : PRow w' a ps := fun h0 => by
 obtain ⟨b, off, rfl, hlt, hc⟩ := h h0
 exact ⟨b, off, rfl, Nat.lt_of_lt_of_le hlt hb.size, fun j hj => ⟨(hb.cell (p := ⟨b, off + j * 2, none⟩) hlt).trans (hc j hj).1, (hb.cell (p := ⟨b, off + j * 2 + 1, none⟩) hlt).trans (hc j hj).2⟩⟩
theorem SRow.nil (w : World) (a : Option Addr) : SRow w a [] := fun h => by simp at h
theorem PRow.nil (w : World) (a : Option Addr) : PRow w a [] := fun h => by simp at h

theorem SOwn.below {w w' : World} {base : Nat} {v : Value} {l : List ByteArray} (h : SOwn w base v l) (hb : Below w.heap.size w w') : SOwn w' base v l := ownsBelow h hb
theorem POwn.below {w w' : World} {base : Nat} {v : Value} {l : List Wr} (h : POwn w base v l) (hb : Below w.heap.size w w') : POwn w' base v l := ownsBelow h hb

theorem SOwn.mono {w : World} {base base' : Nat} {v : Value} {l : List ByteArray} (h : SOwn w base v l) (hb : base' ≤ base) : SOwn w base' v l := ownsMono h hb
theorem POwn.mono {w : World} {base base' : Nat} {v : Value} {l : List Wr} (h : POwn w base v l) (hb : base' ≤ base) : POwn w base' v l := ownsMono h hb
theorem SOwn.nil (w : World) (base : Nat) : SOwn w base (.slice none 0 0) [] := World.ownsRow_nil _ _ _ _
theorem POwn.nil (w : World) (base : Nat) : POwn w base (.slice none 0 0) [] := World.ownsRow_nil _ _ _ _
theorem SOwn.empty (w : World) (base : Nat) (hb : base ≤ w.heap.size) : SOwn (w.alloc (.cells #[] 9)) base (.slice (some ⟨w.heap.size, 0, none⟩) 0 0) [] :=
 World.ownsRow_lit (size := 1) w #[] 0 hb (by unfold maxLen; omega) rfl
theorem POwn.empty (w : World) (base : Nat) (hb : base ≤ w.heap.size) : POwn (w.alloc (.cells #[] 154)) base (.slice (some ⟨w.heap.size, 0, none⟩) 0 0) [] :=
 World.ownsRow_lit (size := 2) w #[] 0 hb (by unfold maxLen; omega) rfl
theorem SOwn.alloc {w : World} {base : Nat} {v : Value} {l : List ByteArray} (h : SOwn w base v l) (o : Obj) : SOwn (w.alloc o) base v l := World.ownsRow.alloc h o
theorem POwn.alloc {w : World} {base : Nat} {v : Value} {l : List Wr} (h : POwn w base v l) (o : Obj) : POwn (w.alloc o) base v l := World.ownsRow.alloc h o

theorem SOwn.row {w : World} {base : Nat} {v : Value} {l : List ByteArray} (h : SOwn w base v l) : ∃ ao cap, v = .slice ao l.length cap ∧ SRow w ao l := by
 have h0 := h
 rcases h.2 with ⟨rfl, h1⟩ | ⟨g, cap, cur, rfl, hg, hh, hnc, hcp, hcs, htake⟩
 ·exact ⟨none, 0, by rw [h1], fun h => by omega⟩
 ·refine ⟨_, cap, rfl, fun _ => ⟨g, 0, rfl, (World.ownsRow.lt h0 g rfl).2, fun j hj => ?_⟩⟩
  rw [Nat.zero_add, World.ownsRow.cellAt h0 j (by omega)]
  simp [scs, hj]
theorem POwn.row {w : World} {base : Nat} {v : Value} {l : List Wr} (h : POwn w base v l) : ∃ ao cap, v = .slice ao l.length cap ∧ PRow w ao l := by
 have h0 := h
 rcases h.2 with ⟨rfl, h1⟩ | ⟨g, cap, cur, rfl, hg, hh, hnc, hcp, hcs, htake⟩
 ·exact ⟨none, 0, by rw [h1], fun h => by omega⟩
 ·refine ⟨_, cap, rfl, fun _ => ⟨g, 0, rfl, (World.ownsRow.lt h0 g rfl).2, fun j hj => ?_⟩⟩
  rw [Nat.zero_add, World.ownsRow.cellAt h0 (j * 2) (by omega), World.ownsRow.cellAt h0 (j * 2 + 1) (by omega)]
  exact pcs_at l j hj

end Go.Proofs.YtmijppfppigjcaaGreat

namespace Go.Proofs.YtmijppfppigjcaaGreat
namespace DM
abbrev Wr := Int × ByteArray

def OkD (ss : List ByteArray) (ps : List Wr) : Prop :=
 1 ≤ ss.length ∧ ss.length ≤ 100 ∧ ps.length ≤ 60 ∧ (∀ s ∈ ss, s.size = 64) ∧ (∀ p ∈ ps, 0 ≤ p.1 ∧ p.1 < (ss.length : Int) ∧ p.2.size = 64)
instance (ss : List ByteArray) (ps : List Wr) : Decidable (OkD ss ps) := by unfold OkD; infer_instance
end DM
end Go.Proofs.YtmijppfppigjcaaGreat
