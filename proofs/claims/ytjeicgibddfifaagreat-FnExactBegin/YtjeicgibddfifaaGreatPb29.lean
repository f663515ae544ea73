/- Begin of the program. -/
import Derived.Test.YtjeicgibddfifaaGreatPb01
import Derived.Test.YtjeicgibddfifaaGreatPb28
import Derived.Deep.RegionHeld3
import Derived.Deep.Cut
import Derived.Deep.CutRange
import Derived.Laws.EntriesVeiled
namespace Go.Proofs.YtjeicgibddfifaaGreat
open Go.RowKit
open KM
attribute [local go_sem ↓] Go.wp_at_zero Go.wp_at_succ

set_option maxRecDepth 100000 in
set_option maxHeartbeats 8000000 in
theorem ibegin (e : En) (hf : EnFit e) (w : World) (hp : EnRows w e) :
  Calls Tryz.prog 12 #[.agg #[.slice e.b.va e.b.vs.length e.b.vc, .slice e.b.pa e.b.ps.length e.b.pc, .slice e.b.qa e.b.qs.length e.b.qc, .int .i64 e.b.cs, .int .i64 e.b.nx, .slice e.oa e.os.length e.oc]] w fun ex w' => ∃ d : En, ex = .returned (.tuple #[.agg #[.slice d.b.va d.b.vs.length d.b.vc, .slice d.b.pa d.b.ps.length d.b.pc, .slice d.b.qa d.b.qs.length d.b.qc, .int .i64 d.b.cs, .int .i64 d.b.nx, .slice d.oa d.os.length d.oc], .int .i64 (bgI e), .int .i64 (bgC e)]) ∧ EnSame (bgE e) d ∧ EnLie w' w.heap.size w'.heap.size d ∧ Below w.heap.size w w' := by
 have BA0 : Hid (Bx (((w.alloc (.cells #[.slice e.b.va e.b.vs.length e.b.vc, .slice e.b.pa e.b.ps.length e.b.pc, .slice e.b.qa e.b.qs.length e.b.qc, .int .i64 e.b.cs, .int .i64 e.b.nx, .slice e.oa e.os.length e.oc] 35)).alloc (.cells #[.slice none 0 0, .slice none 0 0, .slice none 0 0, .int .i64 0, .int .i64 0, .slice none 0 0] 35)).alloc (.cells #[.int .i64 0] 3)) w.heap.size [.slice e.b.va e.b.vs.length e.b.vc, .slice e.b.pa e.b.ps.length e.b.pc, .slice e.b.qa e.b.qs.length e.b.qc, .int .i64 e.b.cs, .int .i64 e.b.nx, .slice e.oa e.os.length e.oc]) := ((Bx.new w [.slice e.b.va e.b.vs.length e.b.vc, .slice e.b.pa e.b.ps.length e.b.pc, .slice e.b.qa e.b.qs.length e.b.qc, .int .i64 e.b.cs, .int .i64 e.b.nx, .slice e.oa e.os.length e.oc] 35).alloc _).alloc _
 have BR0 : Hid (Bx (((w.alloc (.cells #[.slice e.b.va e.b.vs.length e.b.vc, .slice e.b.pa e.b.ps.length e.b.pc, .slice e.b.qa e.b.qs.length e.b.qc, .int .i64 e.b.cs, .int .i64 e.b.nx, .slice e.oa e.os.length e.oc] 35)).alloc (.cells #[.slice none 0 0, .slice none 0 0, .slice none 0 0, .int .i64 0, .int .i64 0, .slice none 0 0] 35)).alloc (.cells #[.int .i64 0] 3)) (w.heap.size + 1) [.slice none 0 0, .slice none 0 0, .slice none 0 0, .int .i64 0, .int .i64 0, .slice none 0 0]) := by
  have h := (Bx.new (w.alloc (.cells #[.slice e.b.va e.b.vs.length e.b.vc, .slice e.b.pa e.b.ps.length e.b.pc, .slice e.b.qa e.b.qs.length e.b.qc, .int .i64 e.b.cs, .int .i64 e.b.nx, .slice e.oa e.os.length e.oc] 35)) [.slice none 0 0, .slice none 0 0, .slice none 0 0, .int .i64 0, .int .i64 0, .slice none 0 0] 35).alloc (.cells #[.int .i64 0] 3)
  rw [World.size_alloc] at h
  exact h
 have BI0 : Hid (Bx (((w.alloc (.cells #[.slice e.b.va e.b.vs.length e.b.vc, .slice e.b.pa e.b.ps.length e.b.pc, .slice e.b.qa e.b.qs.length e.b.qc, .int .i64 e.b.cs, .int .i64 e.b.nx, .slice e.oa e.os.length e.oc] 35)).alloc (.cells #[.slice none 0 0, .slice none 0 0, .slice none 0 0, .int .i64 0, .int .i64 0, .slice none 0 0] 35)).alloc (.cells #[.int .i64 0] 3)) (w.heap.size + 1 + 1) [.int .i64 0]) := by
  have h := Bx.new ((w.alloc (.cells #[.slice e.b.va e.b.vs.length e.b.vc, .slice e.b.pa e.b.ps.length e.b.pc, .slice e.b.qa e.b.qs.length e.b.qc, .int .i64 e.b.cs, .int .i64 e.b.nx, .slice e.oa e.os.length e.oc] 35)).alloc (.cells #[.slice none 0 0, .slice none 0 0, .slice none 0 0, .int .i64 0, .int .i64 0, .slice none 0 0] 35)) [.int .i64 0] 3
  rw [World.size_alloc, World.size_alloc] at h
  exact h
 have HB0 : Hid (Below w.heap.size w (((w.alloc (.cells #[.slice e.b.va e.b.vs.length e.b.vc, .slice e.b.pa e.b.ps.length e.b.pc, .slice e.b.qa e.b.qs.length e.b.qc, .int .i64 e.b.cs, .int .i64 e.b.nx, .slice e.oa e.os.length e.oc] 35)).alloc (.cells #[.slice none 0 0, .slice none 0 0, .slice none 0 0, .int .i64 0, .int .i64 0, .slice none 0 0] 35)).alloc (.cells #[.int .i64 0] 3))) := (((belowRefl w).alloc (Nat.le_refl _) _).alloc (by simp) _).alloc (by simp; omega) _
 have Y0 : Hid (w.heap.size + 1 + 1 + 1 ≤ (((w.alloc (.cells #[.slice e.b.va e.b.vs.length e.b.vc, .slice e.b.pa e.b.ps.length e.b.pc, .slice e.b.qa e.b.qs.length e.b.qc, .int .i64 e.b.cs, .int .i64 e.b.nx, .slice e.oa e.os.length e.oc] 35)).alloc (.cells #[.slice none 0 0, .slice none 0 0, .slice none 0 0, .int .i64 0, .int .i64 0, .slice none 0 0] 35)).alloc (.cells #[.int .i64 0] 3)).heap.size) := by show _ ≤ _; simp
 have HP : Hid (EnRows w e) := hp
 have HF : Hid (EnFit e) := hf
 clear hp hf
 go_enter Tryz.func12, Tryz.ntmps12
 go_upto_region 2 with fail
 generalize (((w.alloc (.cells #[.slice e.b.va e.b.vs.length e.b.vc, .slice e.b.pa e.b.ps.length e.b.pc, .slice e.b.qa e.b.qs.length e.b.qc, .int .i64 e.b.cs, .int .i64 e.b.nx, .slice e.oa e.os.length e.oc] 35)).alloc (.cells #[.slice none 0 0, .slice none 0 0, .slice none 0 0, .int .i64 0, .int .i64 0, .slice none 0 0] 35)).alloc (.cells #[.int .i64 0] 3)) = w0 at *
 have CH := hide (ihold e HF.out w0 (HP.out.below HB0.out))
 have x0 := BA0.out.c0
 have x1 := BA0.out.c1
 have x2 := BA0.out.c2
 have x3 := BA0.out.c3
 have x4 := BA0.out.c4
 have x5 := BA0.out.c5
 go_wp2_with fail
 refine CH.out.mono ?_
 rintro ex w1 ⟨c, g, rfl, hsm, hl, hgl, hbg, hb⟩
 have HB1 : Hid (Below w.heap.size w w1) := HB0.out.trans (hb.mono HB0.out.size)
 have BR1 : Hid (Bx w1 (w.heap.size + 1) [.slice none 0 0, .slice none 0 0, .slice none 0 0, .int .i64 0, .int .i64 0, .slice none 0 0]) := BR0.out.below hb
 have BI1 : Hid (Bx w1 (w.heap.size + 1 + 1) [.int .i64 0]) := BI0.out.below hb
 obtain ⟨m, hlx⟩ := hl.lx
 have hy0 := Y0.out
 have hib : w.heap.size + 1 + 1 < w0.heap.size := by omega
 have HGW : Hid (g < w1.heap.size) := hbg.lt
 have CC : Hid (Calls Tryz.prog 31 #[.pointer (some ⟨g, 0, none⟩), .func (.func 32) #[] #[.pointer (some ⟨w.heap.size + 1 + 1, 0, none⟩)]] w1 fun ex w' => ∃ (d : En) (hi : Nat), ex = .returned (.tuple #[.agg #[.slice d.b.va d.b.vs.length d.b.vc, .slice d.b.pa d.b.ps.length d.b.pc, .slice d.b.qa d.b.qs.length d.b.qc, .int .i64 d.b.cs, .int .i64 d.b.nx, .slice d.oa d.os.length d.oc], .int .i64 (bgC e)]) ∧ EnSame (bgE e) d ∧ Bx w' (w.heap.size + 1 + 1) [.int .i64 (bgI e)] ∧ EnLx w' w0.heap.size m g g hi d ∧ hi ≤ w'.heap.size ∧ Zn (w.heap.size + 1 + 1) (g + 1) w1 w') := by
  refine (ichange c (hsm.fit HF.out) w0.heap.size m g (w.heap.size + 1 + 1) hib w1 hbg BI1.out hlx).mono ?_
  rintro ex w' ⟨d, hi, h1, h2, h3, h4, h5, h6⟩
  refine ⟨d, hi, by rw [h1, bgC_same hsm], (bgE_same hsm).trans h2, by rw [← bgI_same hsm]; exact h3, h4, h5, h6⟩
 clear hb hl hlx hsm hbg BA0 BR0 BI0 HB0 CH
 clear x0 x1 x2 x3 x4 x5
 go_wp2_with fail
 refine CC.out.mono ?_
 rintro ex w2 ⟨d, hi, rfl, hsm, hbi, hlx, hhi, hz⟩
 have BR2 : Hid (Bx w2 (w.heap.size + 1) [.slice none 0 0, .slice none 0 0, .slice none 0 0, .int .i64 0, .int .i64 0, .slice none 0 0]) := BR1.out.zn hz (Or.inl (by omega))
 have BI2 : Hid (Bx w2 (w.heap.size + 1 + 1) [.int .i64 (bgI e)]) := hbi
 have LX2 : Hid (EnLx w2 w0.heap.size m g g hi d) := hlx
 have HB2 : Hid (Below w.heap.size w w2) := HB1.out.trans (hz.below (by omega) HB1.out.size)
 have SM := hide hsm
 have HHI := hide hhi
 have hgm := hlx.mg
 have hlm := hlx.lm
 have HS2 : Hid (w1.heap.size ≤ w2.heap.size) := hz.size
 clear hsm hbi hlx hhi hz BR1 BI1 HB1 CC
 have hba : Below w2.heap.size w2 (w2.alloc (.cells #[.slice d.b.va d.b.vs.length d.b.vc, .slice d.b.pa d.b.ps.length d.b.pc, .slice d.b.qa d.b.qs.length d.b.qc, .int .i64 d.b.cs, .int .i64 d.b.nx, .slice d.oa d.os.length d.oc] 35)) := (belowRefl w2).alloc (Nat.le_refl _) _
 replace BR2 : Hid (Bx (w2.alloc (.cells #[.slice d.b.va d.b.vs.length d.b.vc, .slice d.b.pa d.b.ps.length d.b.pc, .slice d.b.qa d.b.qs.length d.b.qc, .int .i64 d.b.cs, .int .i64 d.b.nx, .slice d.oa d.os.length d.oc] 35)) (w.heap.size + 1) [.slice none 0 0, .slice none 0 0, .slice none 0 0, .int .i64 0, .int .i64 0, .slice none 0 0]) := BR2.out.below hba
 replace BI2 : Hid (Bx (w2.alloc (.cells #[.slice d.b.va d.b.vs.length d.b.vc, .slice d.b.pa d.b.ps.length d.b.pc, .slice d.b.qa d.b.qs.length d.b.qc, .int .i64 d.b.cs, .int .i64 d.b.nx, .slice d.oa d.os.length d.oc] 35)) (w.heap.size + 1 + 1) [.int .i64 (bgI e)]) := BI2.out.below hba
 replace LX2 : Hid (EnLx (w2.alloc (.cells #[.slice d.b.va d.b.vs.length d.b.vc, .slice d.b.pa d.b.ps.length d.b.pc, .slice d.b.qa d.b.qs.length d.b.qc, .int .i64 d.b.cs, .int .i64 d.b.nx, .slice d.oa d.os.length d.oc] 35)) w0.heap.size m g g hi d) := LX2.out.below hba
 replace HB2 : Hid (Below w.heap.size w (w2.alloc (.cells #[.slice d.b.va d.b.vs.length d.b.vc, .slice d.b.pa d.b.ps.length d.b.pc, .slice d.b.qa d.b.qs.length d.b.qc, .int .i64 d.b.cs, .int .i64 d.b.nx, .slice d.oa d.os.length d.oc] 35))) := HB2.out.trans (hba.mono HB2.out.size)
 replace HHI : Hid (hi ≤ (w2.alloc (.cells #[.slice d.b.va d.b.vs.length d.b.vc, .slice d.b.pa d.b.ps.length d.b.pc, .slice d.b.qa d.b.qs.length d.b.qc, .int .i64 d.b.cs, .int .i64 d.b.nx, .slice d.oa d.os.length d.oc] 35)).heap.size) := Nat.le_trans HHI.out hba.size
 have BO2 : Hid (Bx (w2.alloc (.cells #[.slice d.b.va d.b.vs.length d.b.vc, .slice d.b.pa d.b.ps.length d.b.pc, .slice d.b.qa d.b.qs.length d.b.qc, .int .i64 d.b.cs, .int .i64 d.b.nx, .slice d.oa d.os.length d.oc] 35)) w2.heap.size [.slice d.b.va d.b.vs.length d.b.vc, .slice d.b.pa d.b.ps.length d.b.pc, .slice d.b.qa d.b.qs.length d.b.qc, .int .i64 d.b.cs, .int .i64 d.b.nx, .slice d.oa d.os.length d.oc]) := Bx.new w2 [.slice d.b.va d.b.vs.length d.b.vc, .slice d.b.pa d.b.ps.length d.b.pc, .slice d.b.qa d.b.qs.length d.b.qc, .int .i64 d.b.cs, .int .i64 d.b.nx, .slice d.oa d.os.length d.oc] 35
 have hs2 : w.heap.size + 1 + 1 + 1 ≤ w2.heap.size := by have := HGW.out; have := HS2.out; omega
 clear hba
 go_upto_region 3 with fail
 generalize (w2.alloc (.cells #[.slice d.b.va d.b.vs.length d.b.vc, .slice d.b.pa d.b.ps.length d.b.pc, .slice d.b.qa d.b.qs.length d.b.qc, .int .i64 d.b.cs, .int .i64 d.b.nx, .slice d.oa d.os.length d.oc] 35)) = w3 at *
 obtain ⟨gb, hgb⟩ : ∃ gb, gb = w2.heap.size := ⟨_, rfl⟩
 rw [← hgb] at BO2 hs2
 rw [← hgb]
 clear hgb
 refine wp_region_held_drew (S := fun w' => w'.cell? ⟨gb, 0, none⟩ = some (.slice d.b.va d.b.vs.length d.b.vc) ∧ w'.cell? ⟨gb, 1, none⟩ = some (.slice d.b.pa d.b.ps.length d.b.pc) ∧ w'.cell? ⟨gb, 2, none⟩ = some (.slice d.b.qa d.b.qs.length d.b.qc) ∧ w'.cell? ⟨gb, 3, none⟩ = some (.int .i64 d.b.cs) ∧ w'.cell? ⟨gb, 4, none⟩ = some (.int .i64 d.b.nx) ∧ w'.cell? ⟨gb, 5, none⟩ = some (.slice d.oa d.os.length d.oc) ∧ w'.cell? ⟨w.heap.size + 1 + 1, 0, none⟩ = some (.int .i64 (bgI e))) (by kernel_rfl) ⟨BO2.out.c0, BO2.out.c1, BO2.out.c2, BO2.out.c3, BO2.out.c4, BO2.out.c5, BI2.out.c0⟩ (fun hHeld => ?_)
 (refine tk 0 ?_ rfl (Or.inl ⟨by rfl, ?_⟩) ?_; rotate_left; (focus (intro w h; (try dsimp only at h); go_simp; (try with_reducible rfl))); simp only [Act.put, tA, tB, tD, tE, tF])
 (refine tk 1 ?_ rfl (Or.inl ⟨by rfl, ?_⟩) ?_; rotate_left; (focus (intro w h; (try dsimp only at h); go_simp; (try with_reducible rfl))); simp only [Act.put, tA, tB, tC, tD, tE, tF])
 (refine tk 2 ?_ rfl (Or.inl ⟨by rfl, ?_⟩) ?_; rotate_left; (focus (intro w h; (try dsimp only at h); go_simp; (try with_reducible rfl))); simp only [Act.put, tA, tB, tC, tD, tE, tF])
 have hbd : Below w3.heap.size w3 w3.drew := (belowRefl w3).drew
 have BR3 : Hid (Bx w3.drew (w.heap.size + 1) [.slice none 0 0, .slice none 0 0, .slice none 0 0, .int .i64 0, .int .i64 0, .slice none 0 0]) := BR2.out.below hbd
 have BI3 := hide (BI2.out.below hbd)
 have LX3 := hide (LX2.out.below hbd)
 have BO3 := hide (BO2.out.below hbd)
 have HB3 := hide (HB2.out.trans (hbd.mono HB2.out.size))
 have HHI3 := hide (Nat.le_trans HHI.out hbd.size)
 clear hbd BR2 BI2 LX2 BO2 HB2 HHI
 generalize w3.drew = vd at *
 refine wpAnyH_ready (rs := [3]) (by kernel_rfl) (by simp) ?_
 refine AllReadyH.cons rfl (fun K hK => ?_) AllReadyH.nil
 have q0 := BR3.out.c0
 have fq0 := BR3.out.fz 0
 have q1 := BR3.out.c1
 have fq1 := BR3.out.fz 1
 have q2 := BR3.out.c2
 have fq2 := BR3.out.fz 2
 have q3 := BR3.out.c3
 have fq3 := BR3.out.fz 3
 have q4 := BR3.out.c4
 have fq4 := BR3.out.fz 4
 have q5 := BR3.out.c5
 have fq5 := BR3.out.fz 5
 go_simp
 clear q0 fq0 q1 fq1 q2 fq2 q3 fq3 q4 fq4 q5 fq5
 have BR4 : Hid (Bx ((((((vd.setCell ⟨w.heap.size + 1, 0, none⟩ (.slice d.b.va d.b.vs.length d.b.vc)).setCell ⟨w.heap.size + 1, 1, none⟩ (.slice d.b.pa d.b.ps.length d.b.pc)).setCell ⟨w.heap.size + 1, 2, none⟩ (.slice d.b.qa d.b.qs.length d.b.qc)).setCell ⟨w.heap.size + 1, 3, none⟩ (.int .i64 d.b.cs)).setCell ⟨w.heap.size + 1, 4, none⟩ (.int .i64 d.b.nx)).setCell ⟨w.heap.size + 1, 5, none⟩ (.slice d.oa d.os.length d.oc)) (w.heap.size + 1) [.slice d.b.va d.b.vs.length d.b.vc, .slice d.b.pa d.b.ps.length d.b.pc, .slice d.b.qa d.b.qs.length d.b.qc, .int .i64 d.b.cs, .int .i64 d.b.nx, .slice d.oa d.os.length d.oc]) := (((((BR3.out.set 0 _).set 1 _).set 2 _).set 3 _).set 4 _).set 5 _
 have BI4 : Hid (Bx ((((((vd.setCell ⟨w.heap.size + 1, 0, none⟩ (.slice d.b.va d.b.vs.length d.b.vc)).setCell ⟨w.heap.size + 1, 1, none⟩ (.slice d.b.pa d.b.ps.length d.b.pc)).setCell ⟨w.heap.size + 1, 2, none⟩ (.slice d.b.qa d.b.qs.length d.b.qc)).setCell ⟨w.heap.size + 1, 3, none⟩ (.int .i64 d.b.cs)).setCell ⟨w.heap.size + 1, 4, none⟩ (.int .i64 d.b.nx)).setCell ⟨w.heap.size + 1, 5, none⟩ (.slice d.oa d.os.length d.oc)) (w.heap.size + 1 + 1) [.int .i64 (bgI e)]) := (((((BI3.out.setO (p := ⟨w.heap.size + 1, 0, none⟩) (by show w.heap.size + 1 ≠ w.heap.size + 1 + 1; omega) _).setO (p := ⟨w.heap.size + 1, 1, none⟩) (by show w.heap.size + 1 ≠ w.heap.size + 1 + 1; omega) _).setO (p := ⟨w.heap.size + 1, 2, none⟩) (by show w.heap.size + 1 ≠ w.heap.size + 1 + 1; omega) _).setO (p := ⟨w.heap.size + 1, 3, none⟩) (by show w.heap.size + 1 ≠ w.heap.size + 1 + 1; omega) _).setO (p := ⟨w.heap.size + 1, 4, none⟩) (by show w.heap.size + 1 ≠ w.heap.size + 1 + 1; omega) _).setO (p := ⟨w.heap.size + 1, 5, none⟩) (by show w.heap.size + 1 ≠ w.heap.size + 1 + 1; omega) _
 have BO4 : Hid (Bx ((((((vd.setCell ⟨w.heap.size + 1, 0, none⟩ (.slice d.b.va d.b.vs.length d.b.vc)).setCell ⟨w.heap.size + 1, 1, none⟩ (.slice d.b.pa d.b.ps.length d.b.pc)).setCell ⟨w.heap.size + 1, 2, none⟩ (.slice d.b.qa d.b.qs.length d.b.qc)).setCell ⟨w.heap.size + 1, 3, none⟩ (.int .i64 d.b.cs)).setCell ⟨w.heap.size + 1, 4, none⟩ (.int .i64 d.b.nx)).setCell ⟨w.heap.size + 1, 5, none⟩ (.slice d.oa d.os.length d.oc)) gb [.slice d.b.va d.b.vs.length d.b.vc, .slice d.b.pa d.b.ps.length d.b.pc, .slice d.b.qa d.b.qs.length d.b.qc, .int .i64 d.b.cs, .int .i64 d.b.nx, .slice d.oa d.os.length d.oc]) := (((((BO3.out.setO (p := ⟨w.heap.size + 1, 0, none⟩) (by show w.heap.size + 1 ≠ gb; omega) _).setO (p := ⟨w.heap.size + 1, 1, none⟩) (by show w.heap.size + 1 ≠ gb; omega) _).setO (p := ⟨w.heap.size + 1, 2, none⟩) (by show w.heap.size + 1 ≠ gb; omega) _).setO (p := ⟨w.heap.size + 1, 3, none⟩) (by show w.heap.size + 1 ≠ gb; omega) _).setO (p := ⟨w.heap.size + 1, 4, none⟩) (by show w.heap.size + 1 ≠ gb; omega) _).setO (p := ⟨w.heap.size + 1, 5, none⟩) (by show w.heap.size + 1 ≠ gb; omega) _
 have LX4 : Hid (EnLx ((((((vd.setCell ⟨w.heap.size + 1, 0, none⟩ (.slice d.b.va d.b.vs.length d.b.vc)).setCell ⟨w.heap.size + 1, 1, none⟩ (.slice d.b.pa d.b.ps.length d.b.pc)).setCell ⟨w.heap.size + 1, 2, none⟩ (.slice d.b.qa d.b.qs.length d.b.qc)).setCell ⟨w.heap.size + 1, 3, none⟩ (.int .i64 d.b.cs)).setCell ⟨w.heap.size + 1, 4, none⟩ (.int .i64 d.b.nx)).setCell ⟨w.heap.size + 1, 5, none⟩ (.slice d.oa d.os.length d.oc)) w0.heap.size m g g hi d) := (((((LX3.out.setl (a := ⟨w.heap.size + 1, 0, none⟩) (by show w.heap.size + 1 < _; omega) _).setl (a := ⟨w.heap.size + 1, 1, none⟩) (by show w.heap.size + 1 < _; omega) _).setl (a := ⟨w.heap.size + 1, 2, none⟩) (by show w.heap.size + 1 < _; omega) _).setl (a := ⟨w.heap.size + 1, 3, none⟩) (by show w.heap.size + 1 < _; omega) _).setl (a := ⟨w.heap.size + 1, 4, none⟩) (by show w.heap.size + 1 < _; omega) _).setl (a := ⟨w.heap.size + 1, 5, none⟩) (by show w.heap.size + 1 < _; omega) _
 have HB4 : Hid (Below w.heap.size w ((((((vd.setCell ⟨w.heap.size + 1, 0, none⟩ (.slice d.b.va d.b.vs.length d.b.vc)).setCell ⟨w.heap.size + 1, 1, none⟩ (.slice d.b.pa d.b.ps.length d.b.pc)).setCell ⟨w.heap.size + 1, 2, none⟩ (.slice d.b.qa d.b.qs.length d.b.qc)).setCell ⟨w.heap.size + 1, 3, none⟩ (.int .i64 d.b.cs)).setCell ⟨w.heap.size + 1, 4, none⟩ (.int .i64 d.b.nx)).setCell ⟨w.heap.size + 1, 5, none⟩ (.slice d.oa d.os.length d.oc))) := (((((HB3.out.setCell (p := ⟨w.heap.size + 1, 0, none⟩) (by show _ ≤ _ + 1; omega) _).setCell (p := ⟨w.heap.size + 1, 1, none⟩) (by show _ ≤ _ + 1; omega) _).setCell (p := ⟨w.heap.size + 1, 2, none⟩) (by show _ ≤ _ + 1; omega) _).setCell (p := ⟨w.heap.size + 1, 3, none⟩) (by show _ ≤ _ + 1; omega) _).setCell (p := ⟨w.heap.size + 1, 4, none⟩) (by show _ ≤ _ + 1; omega) _).setCell (p := ⟨w.heap.size + 1, 5, none⟩) (by show _ ≤ _ + 1; omega) _
 have HHI4 : Hid (hi ≤ ((((((vd.setCell ⟨w.heap.size + 1, 0, none⟩ (.slice d.b.va d.b.vs.length d.b.vc)).setCell ⟨w.heap.size + 1, 1, none⟩ (.slice d.b.pa d.b.ps.length d.b.pc)).setCell ⟨w.heap.size + 1, 2, none⟩ (.slice d.b.qa d.b.qs.length d.b.qc)).setCell ⟨w.heap.size + 1, 3, none⟩ (.int .i64 d.b.cs)).setCell ⟨w.heap.size + 1, 4, none⟩ (.int .i64 d.b.nx)).setCell ⟨w.heap.size + 1, 5, none⟩ (.slice d.oa d.os.length d.oc)).heap.size) := by show _ ≤ _; have := HHI3.out; simp [World.setCell]; exact this
 clear BR3 BI3 BO3 LX3 HB3 HHI3
 generalize ((((((vd.setCell ⟨w.heap.size + 1, 0, none⟩ (.slice d.b.va d.b.vs.length d.b.vc)).setCell ⟨w.heap.size + 1, 1, none⟩ (.slice d.b.pa d.b.ps.length d.b.pc)).setCell ⟨w.heap.size + 1, 2, none⟩ (.slice d.b.qa d.b.qs.length d.b.qc)).setCell ⟨w.heap.size + 1, 3, none⟩ (.int .i64 d.b.cs)).setCell ⟨w.heap.size + 1, 4, none⟩ (.int .i64 d.b.nx)).setCell ⟨w.heap.size + 1, 5, none⟩ (.slice d.oa d.os.length d.oc)) = w4 at *
 refine hK.out _ _ ⟨BO4.out.c0, BO4.out.c1, BO4.out.c2, BO4.out.c3, BO4.out.c4, BO4.out.c5, BI4.out.c0⟩ (fun hHeld4 => ?_)
 clear hK K
 (refine tk 4 ?_ rfl (Or.inl ⟨by rfl, ?_⟩) ?_; rotate_left; (focus (intro w h; (try dsimp only at h); go_simp; (try with_reducible rfl))); simp only [Act.put, tA, tB, tC, tD, tE, tF])
 (refine tk 5 ?_ rfl (Or.inl ⟨by rfl, ?_⟩) ?_; rotate_left; (focus (intro w h; (try dsimp only at h); go_simp; (try with_reducible rfl))); simp only [Act.put, tA, tB, tC, tD, tE, tF])
 refine wpAnyH_done (by kernel_rfl) ?_ _
 have q0 := BR4.out.c0
 have q1 := BR4.out.c1
 have q2 := BR4.out.c2
 have q3 := BR4.out.c3
 have q4 := BR4.out.c4
 have q5 := BR4.out.c5
 go_wp2
 refine bodyPost_ret (v := .tuple #[.agg #[.slice d.b.va d.b.vs.length d.b.vc, .slice d.b.pa d.b.ps.length d.b.pc, .slice d.b.qa d.b.qs.length d.b.qc, .int .i64 d.b.cs, .int .i64 d.b.nx, .slice d.oa d.os.length d.oc], .int .i64 (bgI e), .int .i64 (bgC e)]) (by simp [results, Tryz.results12, go_sem, q0, q1, q2, q3, q4, q5]) rfl ⟨d, rfl, SM.out, LX4.out.lie.mono (by omega) HHI4.out, HB4.out⟩

end Go.Proofs.YtjeicgibddfifaaGreat
