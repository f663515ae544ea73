/- What stays: copies of bases, by the document. -/
import Derived.Test.YtjeicgibddfifaaGreatPc01
import Derived.Test.YtjeicgibddfifaaGreatPc19
import Derived.Lib.AppendZeros
import Derived.Deep.RegionHeld3
import Derived.Deep.Cut
import Derived.Deep.CutRange
namespace Go.Proofs.YtjeicgibddfifaaGreat
open Go.RowKit
open KM
open VM
attribute [local go_sem ↓] Go.wp_at_zero Go.wp_at_succ

theorem stepRun {ops : Array Oper} {K : Act → World → Prop} {X : Prop} {o : Oper} {a : Act} {Q : Exit → Act → World → Prop} {W : World} (hgd : o.guard = none) (s x : Operand) (T tn : TypeId)
  (ho : o.op = .call { callee := .builtin .append, args := #[s, x], argTypes := #[T, tn] }) (vs vx : Value) (hs : a.eval s = vs) (hx : a.eval x = vx) (v' : Value) (w' : World) (hr : (Builtin.append_ #[T, tn] o.type #[vs, vx]).run Tryz.prog W = .ok v' w') (h : K (a.put o.dst v') w') :
  if Region.wanted o (yielded ops a.tmps) = true then Oper.wp Tryz.prog o a W K Q else X := by
 rw [if_pos (by unfold Region.wanted; rw [hgd])]
 exact Lib.wp_append_run W s x T tn ho vs vx hs hx v' w' hr h
set_option maxRecDepth 100000 in
theorem appRowV {W : World} {base base2 m c : Nat} {ao : Option Addr} {v : Value} (zs : List Vr) (ty : TypeId) (hown : GOwn encV 85 W base v []) (hsh : GOwn encV 85 W base2 (.slice ao m c) zs) (hm : m = zs.length) (hlen : zs.length ≤ 100000000) (hB : base ≤ W.heap.size) :
  ∃ v' w', (Builtin.append_ #[30, 30] ty #[v, .slice ao m c]).run Tryz.prog W = .ok v' w' ∧ GOwn encV 85 w' base v' zs ∧ W.grownBy w' v.ownBlock := by
 obtain ⟨i0, hi, hz0, hz1, hz2⟩ := info_parts Tryz.info85
 have hone : ∀ u ∈ encV.cells zs, u.oneCell' = true := fun u hu => by
  unfold Enc.cells at hu
  obtain ⟨y, _, hy⟩ := List.mem_flatMap.1 hu
  exact oneV u hy
 subst hm
 rcases gsrc hsh with ⟨rfl, h0, rfl⟩ | ⟨ad, rfl, hc⟩
 ·have e3 : zs = [] := List.length_eq_zero_iff.1 h0
  subst e3
  exact ⟨v, W, run_append_owned_none (P := Tryz.prog) W base 30 ty 85 i0 4 Tryz.underlying30 hi v _ _ hown, hown, ⟨rfl, rfl, rfl, Nat.le_refl _, fun _ _ _ => rfl⟩⟩
 ·obtain ⟨v', w', hr, q1, q2, _⟩ := run_append_own (P := Tryz.prog) W base 30 ty 85 i0 _ 4 48 Tryz.underlying30 hi hz0 hz1 hz2 rfl (by omega) v 0 [] hown ad zs.length c (encV.cells zs) (encV.cells_len zs) hc hone (by unfold maxLen; omega) (by omega) hB
  refine ⟨v', w', hr, ?_, q2⟩
  rw [Nat.zero_add, List.nil_append] at q1
  exact q1

set_option maxRecDepth 100000 in
set_option maxHeartbeats 4000000 in
theorem scopyB (b : Bb) (lo hi : Nat) (hf : BFit b) (w : World) (hp : BLie w lo hi b) :
  Calls Tryz.prog 68 #[.agg #[.slice b.va b.vs.length b.vc, .slice b.pa b.ps.length b.pc, .slice b.qa b.qs.length b.qc, .int .i64 b.cs, .int .i64 b.nx]] w fun e w' => ∃ c : Bb, e = .returned (.agg #[.slice c.va c.vs.length c.vc, .slice c.pa c.ps.length c.pc, .slice c.qa c.qs.length c.qc, .int .i64 c.cs, .int .i64 c.nx]) ∧ BSame b c ∧ BLie w' w.heap.size w'.heap.size c ∧ Below w.heap.size w w' := by
 have BA0 : Hid (Bx ((w.alloc (.cells #[.slice b.va b.vs.length b.vc, .slice b.pa b.ps.length b.pc, .slice b.qa b.qs.length b.qc, .int .i64 b.cs, .int .i64 b.nx] 33)).alloc (.cells #[.slice none 0 0, .slice none 0 0, .slice none 0 0, .int .i64 0, .int .i64 0] 33)) w.heap.size [.slice b.va b.vs.length b.vc, .slice b.pa b.ps.length b.pc, .slice b.qa b.qs.length b.qc, .int .i64 b.cs, .int .i64 b.nx]) := (Bx.new w [.slice b.va b.vs.length b.vc, .slice b.pa b.ps.length b.pc, .slice b.qa b.qs.length b.qc, .int .i64 b.cs, .int .i64 b.nx] 33).alloc _
 have BR0 : Hid (Bx ((w.alloc (.cells #[.slice b.va b.vs.length b.vc, .slice b.pa b.ps.length b.pc, .slice b.qa b.qs.length b.qc, .int .i64 b.cs, .int .i64 b.nx] 33)).alloc (.cells #[.slice none 0 0, .slice none 0 0, .slice none 0 0, .int .i64 0, .int .i64 0] 33)) (w.heap.size + 1) [.slice none 0 0, .slice none 0 0, .slice none 0 0, .int .i64 0, .int .i64 0]) := by
  have h := Bx.new (w.alloc (.cells #[.slice b.va b.vs.length b.vc, .slice b.pa b.ps.length b.pc, .slice b.qa b.qs.length b.qc, .int .i64 b.cs, .int .i64 b.nx] 33)) [.slice none 0 0, .slice none 0 0, .slice none 0 0, .int .i64 0, .int .i64 0] 33
  rw [show (w.alloc (.cells #[.slice b.va b.vs.length b.vc, .slice b.pa b.ps.length b.pc, .slice b.qa b.qs.length b.qc, .int .i64 b.cs, .int .i64 b.nx] 33)).heap.size = w.heap.size + 1 by simp] at h
  exact h
 have HB0 : Hid (Below w.heap.size w ((w.alloc (.cells #[.slice b.va b.vs.length b.vc, .slice b.pa b.ps.length b.pc, .slice b.qa b.qs.length b.qc, .int .i64 b.cs, .int .i64 b.nx] 33)).alloc (.cells #[.slice none 0 0, .slice none 0 0, .slice none 0 0, .int .i64 0, .int .i64 0] 33))) := ((belowRefl w).alloc (Nat.le_refl _) _).alloc (by simp) _
 have HS0 : Hid (w.heap.size + 1 + 1 ≤ ((w.alloc (.cells #[.slice b.va b.vs.length b.vc, .slice b.pa b.ps.length b.pc, .slice b.qa b.qs.length b.qc, .int .i64 b.cs, .int .i64 b.nx] 33)).alloc (.cells #[.slice none 0 0, .slice none 0 0, .slice none 0 0, .int .i64 0, .int .i64 0] 33)).heap.size) := by show _ ≤ _; simp
 have HF : Hid (BFit b) := hf
 obtain ⟨m1, m2, _, _, _, hv, hpp, hqq⟩ := hp.ex
 have HV : Hid (Lies encV 85 w lo m1 (.slice b.va b.vs.length b.vc) b.vs) := hv
 have CP : Hid (∀ W : World, Below w.heap.size w W → Calls Tryz.prog 69 #[.slice b.pa b.ps.length b.pc] W fun e w' => ∃ (ys : List Ta) (a1 : Option Addr) (c1 : Nat), e = .returned (.slice a1 b.ps.length c1) ∧ txs ys = txs b.ps ∧ ys.length = b.ps.length ∧ LLie w' W.heap.size w'.heap.size (.slice a1 ys.length c1) ys ∧ Below W.heap.size W w') := fun W h => sTs b.ps b.pa b.pc b.ps.length m1 m2 rfl (Nat.le_trans HF.out.pl (by omega)) HF.out.p W (hpp.below h)
 have CQ : Hid (∀ W : World, Below w.heap.size w W → Calls Tryz.prog 69 #[.slice b.qa b.qs.length b.qc] W fun e w' => ∃ (ys : List Ta) (a1 : Option Addr) (c1 : Nat), e = .returned (.slice a1 b.qs.length c1) ∧ txs ys = txs b.qs ∧ ys.length = b.qs.length ∧ LLie w' W.heap.size w'.heap.size (.slice a1 ys.length c1) ys ∧ Below W.heap.size W w') := fun W h => sTs b.qs b.qa b.qc b.qs.length m2 hi rfl (Nat.le_trans HF.out.ql (by omega)) HF.out.q W (hqq.below h)
 have HVL : Hid (b.vs.length ≤ 100000000) := Nat.le_trans HF.out.vl (by omega)
 clear hp hf hv
 go_enter Tryz.func68, Tryz.ntmps68
 go_upto_region 1 with fail
 generalize ((w.alloc (.cells #[.slice b.va b.vs.length b.vc, .slice b.pa b.ps.length b.pc, .slice b.qa b.qs.length b.qc, .int .i64 b.cs, .int .i64 b.nx] 33)).alloc (.cells #[.slice none 0 0, .slice none 0 0, .slice none 0 0, .int .i64 0, .int .i64 0] 33)) = w0 at *
 refine wp_region_held_drew (S := fun w' => w'.cell? ⟨w.heap.size, 0, none⟩ = some (.slice b.va b.vs.length b.vc) ∧ w'.cell? ⟨w.heap.size, 1, none⟩ = some (.slice b.pa b.ps.length b.pc) ∧ w'.cell? ⟨w.heap.size, 2, none⟩ = some (.slice b.qa b.qs.length b.qc) ∧ w'.cell? ⟨w.heap.size, 3, none⟩ = some (.int .i64 b.cs) ∧ w'.cell? ⟨w.heap.size, 4, none⟩ = some (.int .i64 b.nx)) (by kernel_rfl) ⟨BA0.out.c0, BA0.out.c1, BA0.out.c2, BA0.out.c3, BA0.out.c4⟩ (fun hHeld => ?_)
 (refine tk 1 ?_ rfl (Or.inl ⟨by rfl, ?_⟩) ?_; rotate_left; (focus (intro w h; (try dsimp only at h); go_simp; (try with_reducible rfl))); simp only [Act.put, tA, tB, tC, tD, tE, tF])
 (refine tk 2 ?_ rfl (Or.inl ⟨by rfl, ?_⟩) ?_; rotate_left; (focus (intro w h; (try dsimp only at h); go_simp; (try with_reducible rfl))); simp only [Act.put, tA, tB, tC, tD, tE, tF])
 (refine tk 4 ?_ rfl (Or.inl ⟨by rfl, ?_⟩) ?_; rotate_left; (focus (intro w h; (try dsimp only at h); go_simp; (try with_reducible rfl))); simp only [Act.put, tA, tB, tC, tD, tE, tF])
 (refine tk 5 ?_ rfl (Or.inl ⟨by rfl, ?_⟩) ?_; rotate_left; (focus (intro w h; (try dsimp only at h); go_simp; (try with_reducible rfl))); simp only [Act.put, tA, tB, tC, tD, tE, tF])
 (refine tk 7 ?_ rfl (Or.inl ⟨by rfl, ?_⟩) ?_; rotate_left; (focus (intro w h; (try dsimp only at h); go_simp; (try with_reducible rfl))); simp only [Act.put, tA, tB, tC, tD, tE, tF])
 (refine tk 8 ?_ rfl (Or.inl ⟨by rfl, ?_⟩) ?_; rotate_left; (focus (intro w h; (try dsimp only at h); go_simp; (try with_reducible rfl))); simp only [Act.put, tA, tB, tC, tD, tE, tF])
 (refine tk 10 ?_ rfl (Or.inl ⟨by rfl, ?_⟩) ?_; rotate_left; (focus (intro w h; (try dsimp only at h); go_simp; (try with_reducible rfl))); simp only [Act.put, tA, tB, tC, tD, tE, tF])
 (refine tk 11 ?_ rfl (Or.inl ⟨by rfl, ?_⟩) ?_; rotate_left; (focus (intro w h; (try dsimp only at h); go_simp; (try with_reducible rfl))); simp only [Act.put, tA, tB, tC, tD, tE, tF])
 (refine tk 12 ?_ rfl (Or.inl ⟨by rfl, ?_⟩) ?_; rotate_left; (focus (intro w h; (try dsimp only at h); go_simp; (try with_reducible rfl))); simp only [Act.put, tA, tB, tC, tD, tE, tF])
 (refine tk 13 ?_ rfl (Or.inl ⟨by rfl, ?_⟩) ?_; rotate_left; (focus (intro w h; (try dsimp only at h); go_simp; (try with_reducible rfl))); simp only [Act.put, tA, tB, tC, tD, tE, tF])
 refine wpAnyH_ready (rs := [0]) (by kernel_rfl) (by simp) ?_
 refine AllReadyH.cons rfl (fun K hK => ?_) AllReadyH.nil
 go_simp
 have hb : Below w0.heap.size w0 (w0.alloc (.cells #[] 85)).drew := ((belowRefl w0).alloc (Nat.le_refl _) _).drew
 have O1 : Hid (GOwn encV 85 (w0.alloc (.cells #[] 85)).drew w0.heap.size (.slice (some ⟨w0.heap.size, 0, none⟩) 0 0) []) := GOwn.empty w0 w0.heap.size (Nat.le_refl _)
 have HB1 : Hid (Below w.heap.size w (w0.alloc (.cells #[] 85)).drew) := HB0.out.trans (hb.mono HB0.out.size)
 have BA1 : Hid (Bx (w0.alloc (.cells #[] 85)).drew w.heap.size [.slice b.va b.vs.length b.vc, .slice b.pa b.ps.length b.pc, .slice b.qa b.qs.length b.qc, .int .i64 b.cs, .int .i64 b.nx]) := BA0.out.below hb
 have BR1 : Hid (Bx (w0.alloc (.cells #[] 85)).drew (w.heap.size + 1) [.slice none 0 0, .slice none 0 0, .slice none 0 0, .int .i64 0, .int .i64 0]) := BR0.out.below hb
 have SZ1 : Hid (w0.heap.size ≤ (w0.alloc (.cells #[] 85)).drew.heap.size) := hb.size
 clear hb HB0 BA0 BR0
 refine hK.out _ _ ⟨BA1.out.c0, BA1.out.c1, BA1.out.c2, BA1.out.c3, BA1.out.c4⟩ (fun hHeld1 => ?_)
 clear hK K
 generalize (w0.alloc (.cells #[] 85)).drew = w1 at *
 refine wpAnyH_ready (rs := [3]) (by kernel_rfl) (by simp) ?_
 refine AllReadyH.cons rfl (fun K hK => ?_) AllReadyH.nil
 obtain ⟨v2, w2, hr, ho2, hg2⟩ := appRowV (base := w0.heap.size) b.vs 44 O1.out (HV.out.own.below HB1.out) rfl HVL.out SZ1.out
 refine stepRun rfl _ _ 30 30 rfl _ _ rfl rfl v2 w2 hr ?_
 obtain ⟨va1, vc1, rfl, _⟩ := ho2.row
 have V2 : Hid (Lies encV 85 w2 w0.heap.size w2.heap.size (.slice va1 b.vs.length vc1) b.vs) := Lies.of ho2
 have hlow : Below w0.heap.size w1 w2 := grown_low hg2 (fun g e => by cases e; exact Nat.le_refl _) SZ1.out
 have hs0 := HS0.out
 have HB2 : Hid (Below w.heap.size w w2) := HB1.out.trans (hlow.mono (by omega))
 have BA2 : Hid (Bx w2 w.heap.size [.slice b.va b.vs.length b.vc, .slice b.pa b.ps.length b.pc, .slice b.qa b.qs.length b.qc, .int .i64 b.cs, .int .i64 b.nx]) := bx_low BA1.out hlow (by omega)
 have BR2 : Hid (Bx w2 (w.heap.size + 1) [.slice none 0 0, .slice none 0 0, .slice none 0 0, .int .i64 0, .int .i64 0]) := bx_low BR1.out hlow (by omega)
 have SZ2 : Hid (w1.heap.size ≤ w2.heap.size) := hg2.size
 clear hr ho2 hg2 hlow HB1 BA1 BR1 O1
 refine hK.out _ _ ⟨BA2.out.c0, BA2.out.c1, BA2.out.c2, BA2.out.c3, BA2.out.c4⟩ (fun hHeld2 => ?_)
 clear hK K
 refine wpAnyH_ready (rs := [6]) (by kernel_rfl) (by simp) ?_
 refine AllReadyH.cons rfl (fun K hK => ?_) AllReadyH.nil
 go_simp
 go_wp2_with fail
 refine (CP.out _ HB2.out).mono ?_
 rintro e w3 ⟨ys1, pa1, pc1, rfl, ht1, hl1, hll, hb⟩
 have T1 : Hid (txs ys1 = txs b.ps) := ht1
 have L1 : Hid (ys1.length = b.ps.length) := hl1
 have P3 : Hid (LLie w3 w2.heap.size w3.heap.size (.slice pa1 ys1.length pc1) ys1) := hll
 clear ht1 hl1 hll
 have HB3 : Hid (Below w.heap.size w w3) := HB2.out.trans (hb.mono HB2.out.size)
 have BA3 : Hid (Bx w3 w.heap.size [.slice b.va b.vs.length b.vc, .slice b.pa b.ps.length b.pc, .slice b.qa b.qs.length b.qc, .int .i64 b.cs, .int .i64 b.nx]) := BA2.out.below hb
 have BR3 : Hid (Bx w3 (w.heap.size + 1) [.slice none 0 0, .slice none 0 0, .slice none 0 0, .int .i64 0, .int .i64 0]) := BR2.out.below hb
 have SZ3 : Hid (w2.heap.size ≤ w3.heap.size) := hb.size
 replace V2 : Hid (Lies encV 85 w3 w0.heap.size w2.heap.size (.slice va1 b.vs.length vc1) b.vs) := V2.out.below hb
 clear hb HB2 BA2 BR2
 go_wp2_with fail
 refine hK.out _ _ ⟨BA3.out.c0, BA3.out.c1, BA3.out.c2, BA3.out.c3, BA3.out.c4⟩ (fun hHeld3 => ?_)
 clear hK K
 refine wpAnyH_ready (rs := [9]) (by kernel_rfl) (by simp) ?_
 refine AllReadyH.cons rfl (fun K hK => ?_) AllReadyH.nil
 go_simp
 go_wp2_with fail
 refine (CQ.out _ HB3.out).mono ?_
 rintro e w4 ⟨ys2, qa1, qc1, rfl, ht2, hl2, hll, hb⟩
 have T2 : Hid (txs ys2 = txs b.qs) := ht2
 have L2 : Hid (ys2.length = b.qs.length) := hl2
 have Q4 : Hid (LLie w4 w3.heap.size w4.heap.size (.slice qa1 ys2.length qc1) ys2) := hll
 clear ht2 hl2 hll
 have HB4 : Hid (Below w.heap.size w w4) := HB3.out.trans (hb.mono HB3.out.size)
 have BA4 : Hid (Bx w4 w.heap.size [.slice b.va b.vs.length b.vc, .slice b.pa b.ps.length b.pc, .slice b.qa b.qs.length b.qc, .int .i64 b.cs, .int .i64 b.nx]) := BA3.out.below hb
 have BR4 : Hid (Bx w4 (w.heap.size + 1) [.slice none 0 0, .slice none 0 0, .slice none 0 0, .int .i64 0, .int .i64 0]) := BR3.out.below hb
 have SZ4 : Hid (w3.heap.size ≤ w4.heap.size) := hb.size
 replace V2 : Hid (Lies encV 85 w4 w0.heap.size w2.heap.size (.slice va1 b.vs.length vc1) b.vs) := V2.out.below hb
 replace P3 : Hid (LLie w4 w2.heap.size w3.heap.size (.slice pa1 ys1.length pc1) ys1) := P3.out.below hb
 clear hb HB3 BA3 BR3
 go_wp2_with fail
 refine hK.out _ _ ⟨BA4.out.c0, BA4.out.c1, BA4.out.c2, BA4.out.c3, BA4.out.c4⟩ (fun hHeld4 => ?_)
 clear hK K
 (refine tk 14 ?_ rfl (Or.inl ⟨by rfl, ?_⟩) ?_; rotate_left; (focus (intro w h; (try dsimp only at h); go_simp; (try with_reducible rfl))); simp only [Act.put, tA, tB, tC, tD, tE, tF])
 have z0 := BR4.out.c0
 have fz0 := BR4.out.fz 0
 have z1 := BR4.out.c1
 have fz1 := BR4.out.fz 1
 have z2 := BR4.out.c2
 have fz2 := BR4.out.fz 2
 have z3 := BR4.out.c3
 have fz3 := BR4.out.fz 3
 have z4 := BR4.out.c4
 have fz4 := BR4.out.fz 4
 refine wpAnyH_ready (rs := [15]) (by kernel_rfl) (by simp) ?_
 refine AllReadyH.cons rfl (fun K hK => ?_) AllReadyH.nil
 go_simp
 have BA5 : Hid (Bx (((((w4.setCell ⟨w.heap.size + 1, 0, none⟩ (.slice va1 b.vs.length vc1)).setCell ⟨w.heap.size + 1, 1, none⟩ (.slice pa1 b.ps.length pc1)).setCell ⟨w.heap.size + 1, 2, none⟩ (.slice qa1 b.qs.length qc1)).setCell ⟨w.heap.size + 1, 3, none⟩ (.int .i64 b.cs)).setCell ⟨w.heap.size + 1, 4, none⟩ (.int .i64 b.nx)) w.heap.size [.slice b.va b.vs.length b.vc, .slice b.pa b.ps.length b.pc, .slice b.qa b.qs.length b.qc, .int .i64 b.cs, .int .i64 b.nx]) := (((((BA4.out.setO (by show w.heap.size + 1 ≠ w.heap.size; omega) _).setO (by show w.heap.size + 1 ≠ w.heap.size; omega) _).setO (by show w.heap.size + 1 ≠ w.heap.size; omega) _).setO (by show w.heap.size + 1 ≠ w.heap.size; omega) _).setO (by show w.heap.size + 1 ≠ w.heap.size; omega) _)
 have HB5 : Hid (Below w.heap.size w (((((w4.setCell ⟨w.heap.size + 1, 0, none⟩ (.slice va1 b.vs.length vc1)).setCell ⟨w.heap.size + 1, 1, none⟩ (.slice pa1 b.ps.length pc1)).setCell ⟨w.heap.size + 1, 2, none⟩ (.slice qa1 b.qs.length qc1)).setCell ⟨w.heap.size + 1, 3, none⟩ (.int .i64 b.cs)).setCell ⟨w.heap.size + 1, 4, none⟩ (.int .i64 b.nx))) := (((((HB4.out.setCell (by show _ ≤ _ + 1; omega) _).setCell (by show _ ≤ _ + 1; omega) _).setCell (by show _ ≤ _ + 1; omega) _).setCell (by show _ ≤ _ + 1; omega) _).setCell (by show _ ≤ _ + 1; omega) _)
 have HSM : Hid (BSame b ⟨b.vs, ys1, ys2, b.cs, b.nx, va1, vc1, pa1, pc1, qa1, qc1⟩) := ⟨rfl, T1.out, T2.out, rfl, rfl⟩
 have HL4 : Hid (BLie w4 (w.heap.size + 1 + 1) w4.heap.size ⟨b.vs, ys1, ys2, b.cs, b.nx, va1, vc1, pa1, pc1, qa1, qc1⟩) :=
  ⟨w2.heap.size, w3.heap.size, by have := SZ1.out; have := SZ2.out; omega, SZ3.out, SZ4.out, V2.out.mono (by omega) (Nat.le_refl _), P3.out, Q4.out⟩
 have HL5 : Hid (BLie (((((w4.setCell ⟨w.heap.size + 1, 0, none⟩ (.slice va1 b.vs.length vc1)).setCell ⟨w.heap.size + 1, 1, none⟩ (.slice pa1 b.ps.length pc1)).setCell ⟨w.heap.size + 1, 2, none⟩ (.slice qa1 b.qs.length qc1)).setCell ⟨w.heap.size + 1, 3, none⟩ (.int .i64 b.cs)).setCell ⟨w.heap.size + 1, 4, none⟩ (.int .i64 b.nx)) (w.heap.size + 1 + 1) w4.heap.size ⟨b.vs, ys1, ys2, b.cs, b.nx, va1, vc1, pa1, pc1, qa1, qc1⟩) := (((((HL4.out.set (by show _ + 1 < _; omega) _).set (by show _ + 1 < _; omega) _).set (by show _ + 1 < _; omega) _).set (by show _ + 1 < _; omega) _).set (by show _ + 1 < _; omega) _)
 have HZ5 : Hid ((((((w4.setCell ⟨w.heap.size + 1, 0, none⟩ (.slice va1 b.vs.length vc1)).setCell ⟨w.heap.size + 1, 1, none⟩ (.slice pa1 b.ps.length pc1)).setCell ⟨w.heap.size + 1, 2, none⟩ (.slice qa1 b.qs.length qc1)).setCell ⟨w.heap.size + 1, 3, none⟩ (.int .i64 b.cs)).setCell ⟨w.heap.size + 1, 4, none⟩ (.int .i64 b.nx)).heap.size = w4.heap.size) := by show _ = _; simp [World.setCell]
 refine hK.out _ _ ⟨BA5.out.c0, BA5.out.c1, BA5.out.c2, BA5.out.c3, BA5.out.c4⟩ (fun hHeld5 => ?_)
 clear hK K
 refine wpAnyH_done (by kernel_rfl) ?_ _
 go_wp2
 refine bodyPost_ret (v := .agg #[.slice va1 b.vs.length vc1, .slice pa1 b.ps.length pc1, .slice qa1 b.qs.length qc1, .int .i64 b.cs, .int .i64 b.nx]) (by simp [results, Tryz.results68, go_sem, z0, z1, z2, z3, z4]) rfl ⟨⟨b.vs, ys1, ys2, b.cs, b.nx, va1, vc1, pa1, pc1, qa1, qc1⟩, by show _ = Ending.returned (.agg #[.slice va1 b.vs.length vc1, .slice pa1 ys1.length pc1, .slice qa1 ys2.length qc1, .int .i64 b.cs, .int .i64 b.nx]); rw [L1.out, L2.out], HSM.out, HL5.out.mono (by omega) (by rw [HZ5.out]; exact Nat.le_refl _), HB5.out⟩

end Go.Proofs.YtjeicgibddfifaaGreat
