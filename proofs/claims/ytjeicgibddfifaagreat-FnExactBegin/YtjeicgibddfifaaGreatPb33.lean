/- The law FnExactBegin, walked. -/
import Derived.Test.YtjeicgibddfifaaGreatPb01
import Derived.Test.YtjeicgibddfifaaGreatPb12
import Derived.Test.YtjeicgibddfifaaGreatPb29
import Derived.Test.YtjeicgibddfifaaGreatPb32
import Derived.Test.YtjeicgibddfifaaGreatPb27
import Derived.Deep.RegionHeld3
import Derived.Deep.Cut
import Derived.Deep.CutRange
import Derived.Laws.EntriesVeiled
namespace Go.Proofs.YtjeicgibddfifaaGreat
open Go.RowKit
open KM
attribute [local go_sem ↓] Go.wp_at_zero Go.wp_at_succ

theorem bcon (e : En) (hf : EnFit e) : ∃ (DD : En) (NN KK : Int), EnFit DD ∧ (∀ (c : En) (W : World), EnSame e c → EnRows W c → Calls Tryz.prog 12 #[.agg #[.slice c.b.va c.b.vs.length c.b.vc, .slice c.b.pa c.b.ps.length c.b.pc, .slice c.b.qa c.b.qs.length c.b.qc, .int .i64 c.b.cs, .int .i64 c.b.nx, .slice c.oa c.os.length c.oc]] W fun ex w' => ∃ d : En, ex = .returned (.tuple #[.agg #[.slice d.b.va d.b.vs.length d.b.vc, .slice d.b.pa d.b.ps.length d.b.pc, .slice d.b.qa d.b.qs.length d.b.qc, .int .i64 d.b.cs, .int .i64 d.b.nx, .slice d.oa d.os.length d.oc], .int .i64 NN, .int .i64 KK]) ∧ EnSame DD d ∧ EnLie w' W.heap.size w'.heap.size d ∧ Below W.heap.size W w') ∧ (∀ (c : En) (lo hi : Nat) (W : World), EnSame e c → EnLie W lo hi c → Calls Tryz.prog 11 #[.agg #[.slice c.b.va c.b.vs.length c.b.vc, .slice c.b.pa c.b.ps.length c.b.pc, .slice c.b.qa c.b.qs.length c.b.qc, .int .i64 c.b.cs, .int .i64 c.b.nx, .slice c.oa c.os.length c.oc]] W fun ex w' => ∃ d : En, ex = .returned (.tuple #[.agg #[.slice d.b.va d.b.vs.length d.b.vc, .slice d.b.pa d.b.ps.length d.b.pc, .slice d.b.qa d.b.qs.length d.b.qc, .int .i64 d.b.cs, .int .i64 d.b.nx, .slice d.oa d.os.length d.oc], .int .i64 NN, .int .i64 KK]) ∧ EnSame DD d ∧ EnLie w' W.heap.size w'.heap.size d ∧ Below W.heap.size W w') := by
 refine ⟨bgE e, bgI e, bgC e, bgE_fit hf, fun c W h1 h2 => ?_, fun c lo hi W h1 h2 => ?_⟩
 ·refine (ibegin c (h1.fit hf) W h2).mono ?_
  rintro ex w' ⟨d, he, hs, hl, hb⟩
  exact ⟨d, by rw [he, bgI_same h1, bgC_same h1], (bgE_same h1).trans hs, hl, hb⟩
 ·refine (sbegin c lo hi (h1.fit hf) W h2).mono ?_
  rintro ex w' ⟨d, he, hs, hl, hb⟩
  exact ⟨d, by rw [he, bgI_same h1, bgC_same h1], (bgE_same h1).trans hs, hl, hb⟩

set_option maxRecDepth 100000 in
set_option maxHeartbeats 8000000 in
theorem law4 (e : En) (w : World) (hpe : EnArg w e) : Calls Tryz.prog 4 #[.agg #[.slice e.b.va e.b.vs.length e.b.vc, .slice e.b.pa e.b.ps.length e.b.pc, .slice e.b.qa e.b.qs.length e.b.qc, .int .i64 e.b.cs, .int .i64 e.b.nx, .slice e.oa e.os.length e.oc]] w fun ex w' => ex = .returned (.bool true) ∧ Below w.heap.size w w' := by
 have HPe : Hid (EnArg w e) := hpe
 clear hpe
 have BA : Hid (Bx (w.alloc (.cells #[.slice e.b.va e.b.vs.length e.b.vc, .slice e.b.pa e.b.ps.length e.b.pc, .slice e.b.qa e.b.qs.length e.b.qc, .int .i64 e.b.cs, .int .i64 e.b.nx, .slice e.oa e.os.length e.oc] 27)) w.heap.size [.slice e.b.va e.b.vs.length e.b.vc, .slice e.b.pa e.b.ps.length e.b.pc, .slice e.b.qa e.b.qs.length e.b.qc, .int .i64 e.b.cs, .int .i64 e.b.nx, .slice e.oa e.os.length e.oc]) := Bx.new w [.slice e.b.va e.b.vs.length e.b.vc, .slice e.b.pa e.b.ps.length e.b.pc, .slice e.b.qa e.b.qs.length e.b.qc, .int .i64 e.b.cs, .int .i64 e.b.nx, .slice e.oa e.os.length e.oc] 27
 have HB : Hid (Below w.heap.size w (w.alloc (.cells #[.slice e.b.va e.b.vs.length e.b.vc, .slice e.b.pa e.b.ps.length e.b.pc, .slice e.b.qa e.b.qs.length e.b.qc, .int .i64 e.b.cs, .int .i64 e.b.nx, .slice e.oa e.os.length e.oc] 27))) := (belowRefl w).alloc (Nat.le_refl _) _
 have AB : Hid (EnArg (w.alloc (.cells #[.slice e.b.va e.b.vs.length e.b.vc, .slice e.b.pa e.b.ps.length e.b.pc, .slice e.b.qa e.b.qs.length e.b.qc, .int .i64 e.b.cs, .int .i64 e.b.nx, .slice e.oa e.os.length e.oc] 27)) e) := HPe.out.below HB.out
 go_enter Tryz.func4, Tryz.ntmps4
 have x0 := BA.out.c0
 have x1 := BA.out.c1
 have x2 := BA.out.c2
 have x3 := BA.out.c3
 have x4 := BA.out.c4
 have x5 := BA.out.c5
 go_wp2_with fail
 refine (szE e 1048576 (by omega) (by omega) _ AB.out).mono ?_
 rintro e w1 ⟨hb1, lft, rfl, hut, hrt⟩
 have Z1 : Hid (w.heap.size + 1 ≤ w1.heap.size) := by show _ ≤ _; have h := hb1.size; simpa using h
 replace BA : Hid (Bx w1 w.heap.size [.slice e.b.va e.b.vs.length e.b.vc, .slice e.b.pa e.b.ps.length e.b.pc, .slice e.b.qa e.b.qs.length e.b.qc, .int .i64 e.b.cs, .int .i64 e.b.nx, .slice e.oa e.os.length e.oc]) := BA.out.below hb1
 replace HB : Hid (Below w.heap.size w w1) := HB.out.trans (hb1.mono HB.out.size)
 replace AB : Hid (EnArg w1 e) := HPe.out.below HB.out
 clear hb1 x0 x1 x2 x3 x4 x5
 by_cases hneg : lft < 0
 ·clear hrt
  go_wp2
  go_ret
  exact ⟨rfl, HB.out⟩
 have hpost : ¬ lft < 0 := hneg
 have HF : Hid (EnFit e) := hrt (by omega)
 clear hrt hneg
 obtain ⟨DD, NN, KK, hfd, ci, cs⟩ := bcon e HF.out
 have HFD : Hid (EnFit DD) := hfd
 have CI := hide ci
 have CS := hide cs
 have hnn := ne_self_int NN
 have hkk := ne_self_int KK
 clear hfd ci cs
 have x0 := BA.out.c0
 have x1 := BA.out.c1
 have x2 := BA.out.c2
 have x3 := BA.out.c3
 have x4 := BA.out.c4
 have x5 := BA.out.c5
 go_wp2_with fail
 refine (toE e HF.out _ AB.out.rows).mono ?_
 rintro e w2 ⟨c1, rfl, hs, hl, hb2⟩
 have Z2 : Hid (w1.heap.size ≤ w2.heap.size) := by show _ ≤ _; have h := hb2.size; simpa using h
 replace BA : Hid (Bx w2 w.heap.size [.slice e.b.va e.b.vs.length e.b.vc, .slice e.b.pa e.b.ps.length e.b.pc, .slice e.b.qa e.b.qs.length e.b.qc, .int .i64 e.b.cs, .int .i64 e.b.nx, .slice e.oa e.os.length e.oc]) := BA.out.below hb2
 replace HB : Hid (Below w.heap.size w w2) := HB.out.trans (hb2.mono HB.out.size)
 replace AB : Hid (EnArg w2 e) := HPe.out.below HB.out
 have C1 : Hid (EnSame e c1) := hs
 clear hs
 clear hb2 x0 x1 x2 x3 x4 x5
 have L1 : Hid (EnLie w2 (w1.heap.size) w2.heap.size c1) := hl
 clear hl
 go_wp2_with fail
 refine (CS.out c1 _ _ _ C1.out L1.out).mono ?_
 rintro e w3 ⟨d1, rfl, hs, hl, hb3⟩
 have Z3 : Hid (w2.heap.size ≤ w3.heap.size) := by show _ ≤ _; have h := hb3.size; simpa using h
 replace BA : Hid (Bx w3 w.heap.size [.slice e.b.va e.b.vs.length e.b.vc, .slice e.b.pa e.b.ps.length e.b.pc, .slice e.b.qa e.b.qs.length e.b.qc, .int .i64 e.b.cs, .int .i64 e.b.nx, .slice e.oa e.os.length e.oc]) := BA.out.below hb3
 replace HB : Hid (Below w.heap.size w w3) := HB.out.trans (hb3.mono HB.out.size)
 replace AB : Hid (EnArg w3 e) := HPe.out.below HB.out
 replace L1 : Hid (EnLie w3 (w1.heap.size) w2.heap.size c1) := L1.out.below hb3
 have D1 : Hid (EnSame DD d1) := hs
 clear hs
 clear hb3
 have M1 : Hid (EnLie w3 (w2.heap.size) w3.heap.size d1) := hl
 clear hl
 clear L1
 have hba : Below w3.heap.size w3 (w3.alloc (.cells #[.slice d1.b.va d1.b.vs.length d1.b.vc, .slice d1.b.pa d1.b.ps.length d1.b.pc, .slice d1.b.qa d1.b.qs.length d1.b.qc, .int .i64 d1.b.cs, .int .i64 d1.b.nx, .slice d1.oa d1.os.length d1.oc] 35)) := (belowRefl _).alloc (Nat.le_refl _) _
 replace BA : Hid (Bx (w3.alloc (.cells #[.slice d1.b.va d1.b.vs.length d1.b.vc, .slice d1.b.pa d1.b.ps.length d1.b.pc, .slice d1.b.qa d1.b.qs.length d1.b.qc, .int .i64 d1.b.cs, .int .i64 d1.b.nx, .slice d1.oa d1.os.length d1.oc] 35)) w.heap.size [.slice e.b.va e.b.vs.length e.b.vc, .slice e.b.pa e.b.ps.length e.b.pc, .slice e.b.qa e.b.qs.length e.b.qc, .int .i64 e.b.cs, .int .i64 e.b.nx, .slice e.oa e.os.length e.oc]) := BA.out.below hba
 replace HB : Hid (Below w.heap.size w (w3.alloc (.cells #[.slice d1.b.va d1.b.vs.length d1.b.vc, .slice d1.b.pa d1.b.ps.length d1.b.pc, .slice d1.b.qa d1.b.qs.length d1.b.qc, .int .i64 d1.b.cs, .int .i64 d1.b.nx, .slice d1.oa d1.os.length d1.oc] 35))) := HB.out.trans (hba.mono HB.out.size)
 replace AB : Hid (EnArg (w3.alloc (.cells #[.slice d1.b.va d1.b.vs.length d1.b.vc, .slice d1.b.pa d1.b.ps.length d1.b.pc, .slice d1.b.qa d1.b.qs.length d1.b.qc, .int .i64 d1.b.cs, .int .i64 d1.b.nx, .slice d1.oa d1.os.length d1.oc] 35)) e) := HPe.out.below HB.out
 replace M1 : Hid (EnLie (w3.alloc (.cells #[.slice d1.b.va d1.b.vs.length d1.b.vc, .slice d1.b.pa d1.b.ps.length d1.b.pc, .slice d1.b.qa d1.b.qs.length d1.b.qc, .int .i64 d1.b.cs, .int .i64 d1.b.nx, .slice d1.oa d1.os.length d1.oc] 35)) (w2.heap.size) w3.heap.size d1) := M1.out.below hba
 clear hba
 have OB1 : Hid (Bx (w3.alloc (.cells #[.slice d1.b.va d1.b.vs.length d1.b.vc, .slice d1.b.pa d1.b.ps.length d1.b.pc, .slice d1.b.qa d1.b.qs.length d1.b.qc, .int .i64 d1.b.cs, .int .i64 d1.b.nx, .slice d1.oa d1.os.length d1.oc] 35)) (w3.heap.size) [.slice d1.b.va d1.b.vs.length d1.b.vc, .slice d1.b.pa d1.b.ps.length d1.b.pc, .slice d1.b.qa d1.b.qs.length d1.b.qc, .int .i64 d1.b.cs, .int .i64 d1.b.nx, .slice d1.oa d1.os.length d1.oc]) := Bx.new w3 [.slice d1.b.va d1.b.vs.length d1.b.vc, .slice d1.b.pa d1.b.ps.length d1.b.pc, .slice d1.b.qa d1.b.qs.length d1.b.qc, .int .i64 d1.b.cs, .int .i64 d1.b.nx, .slice d1.oa d1.os.length d1.oc] 35
 have x0 := BA.out.c0
 have x1 := BA.out.c1
 have x2 := BA.out.c2
 have x3 := BA.out.c3
 have x4 := BA.out.c4
 have x5 := BA.out.c5
 go_wp2_with fail
 refine (toE e HF.out _ AB.out.rows).mono ?_
 rintro e w4 ⟨c2, rfl, hs, hl, hb4⟩
 have Z4 : Hid (w3.heap.size + 1 ≤ w4.heap.size) := by show _ ≤ _; have h := hb4.size; simpa using h
 replace BA : Hid (Bx w4 w.heap.size [.slice e.b.va e.b.vs.length e.b.vc, .slice e.b.pa e.b.ps.length e.b.pc, .slice e.b.qa e.b.qs.length e.b.qc, .int .i64 e.b.cs, .int .i64 e.b.nx, .slice e.oa e.os.length e.oc]) := BA.out.below hb4
 replace HB : Hid (Below w.heap.size w w4) := HB.out.trans (hb4.mono HB.out.size)
 replace AB : Hid (EnArg w4 e) := HPe.out.below HB.out
 replace M1 : Hid (EnLie w4 (w2.heap.size) w3.heap.size d1) := M1.out.below hb4
 replace OB1 : Hid (Bx w4 (w3.heap.size) [.slice d1.b.va d1.b.vs.length d1.b.vc, .slice d1.b.pa d1.b.ps.length d1.b.pc, .slice d1.b.qa d1.b.qs.length d1.b.qc, .int .i64 d1.b.cs, .int .i64 d1.b.nx, .slice d1.oa d1.os.length d1.oc]) := OB1.out.below hb4
 have C2 : Hid (EnSame e c2) := hs
 clear hs
 clear hb4 x0 x1 x2 x3 x4 x5
 have L2 : Hid (EnLie w4 (w3.heap.size + 1) w4.heap.size c2) := (by show EnLie _ _ _ _; simpa using hl)
 clear hl
 have hba : Below w4.heap.size w4 (w4.alloc (.cells #[.slice c2.b.va c2.b.vs.length c2.b.vc, .slice c2.b.pa c2.b.ps.length c2.b.pc, .slice c2.b.qa c2.b.qs.length c2.b.qc, .int .i64 c2.b.cs, .int .i64 c2.b.nx, .slice c2.oa c2.os.length c2.oc] 35)) := (belowRefl _).alloc (Nat.le_refl _) _
 replace BA : Hid (Bx (w4.alloc (.cells #[.slice c2.b.va c2.b.vs.length c2.b.vc, .slice c2.b.pa c2.b.ps.length c2.b.pc, .slice c2.b.qa c2.b.qs.length c2.b.qc, .int .i64 c2.b.cs, .int .i64 c2.b.nx, .slice c2.oa c2.os.length c2.oc] 35)) w.heap.size [.slice e.b.va e.b.vs.length e.b.vc, .slice e.b.pa e.b.ps.length e.b.pc, .slice e.b.qa e.b.qs.length e.b.qc, .int .i64 e.b.cs, .int .i64 e.b.nx, .slice e.oa e.os.length e.oc]) := BA.out.below hba
 replace HB : Hid (Below w.heap.size w (w4.alloc (.cells #[.slice c2.b.va c2.b.vs.length c2.b.vc, .slice c2.b.pa c2.b.ps.length c2.b.pc, .slice c2.b.qa c2.b.qs.length c2.b.qc, .int .i64 c2.b.cs, .int .i64 c2.b.nx, .slice c2.oa c2.os.length c2.oc] 35))) := HB.out.trans (hba.mono HB.out.size)
 replace AB : Hid (EnArg (w4.alloc (.cells #[.slice c2.b.va c2.b.vs.length c2.b.vc, .slice c2.b.pa c2.b.ps.length c2.b.pc, .slice c2.b.qa c2.b.qs.length c2.b.qc, .int .i64 c2.b.cs, .int .i64 c2.b.nx, .slice c2.oa c2.os.length c2.oc] 35)) e) := HPe.out.below HB.out
 replace M1 : Hid (EnLie (w4.alloc (.cells #[.slice c2.b.va c2.b.vs.length c2.b.vc, .slice c2.b.pa c2.b.ps.length c2.b.pc, .slice c2.b.qa c2.b.qs.length c2.b.qc, .int .i64 c2.b.cs, .int .i64 c2.b.nx, .slice c2.oa c2.os.length c2.oc] 35)) (w2.heap.size) w3.heap.size d1) := M1.out.below hba
 replace OB1 : Hid (Bx (w4.alloc (.cells #[.slice c2.b.va c2.b.vs.length c2.b.vc, .slice c2.b.pa c2.b.ps.length c2.b.pc, .slice c2.b.qa c2.b.qs.length c2.b.qc, .int .i64 c2.b.cs, .int .i64 c2.b.nx, .slice c2.oa c2.os.length c2.oc] 35)) (w3.heap.size) [.slice d1.b.va d1.b.vs.length d1.b.vc, .slice d1.b.pa d1.b.ps.length d1.b.pc, .slice d1.b.qa d1.b.qs.length d1.b.qc, .int .i64 d1.b.cs, .int .i64 d1.b.nx, .slice d1.oa d1.os.length d1.oc]) := OB1.out.below hba
 replace L2 : Hid (EnLie (w4.alloc (.cells #[.slice c2.b.va c2.b.vs.length c2.b.vc, .slice c2.b.pa c2.b.ps.length c2.b.pc, .slice c2.b.qa c2.b.qs.length c2.b.qc, .int .i64 c2.b.cs, .int .i64 c2.b.nx, .slice c2.oa c2.os.length c2.oc] 35)) (w3.heap.size + 1) w4.heap.size c2) := L2.out.below hba
 clear hba
 have BX : Hid (Bx (w4.alloc (.cells #[.slice c2.b.va c2.b.vs.length c2.b.vc, .slice c2.b.pa c2.b.ps.length c2.b.pc, .slice c2.b.qa c2.b.qs.length c2.b.qc, .int .i64 c2.b.cs, .int .i64 c2.b.nx, .slice c2.oa c2.os.length c2.oc] 35)) (w4.heap.size) [.slice c2.b.va c2.b.vs.length c2.b.vc, .slice c2.b.pa c2.b.ps.length c2.b.pc, .slice c2.b.qa c2.b.qs.length c2.b.qc, .int .i64 c2.b.cs, .int .i64 c2.b.nx, .slice c2.oa c2.os.length c2.oc]) := Bx.new w4 [.slice c2.b.va c2.b.vs.length c2.b.vc, .slice c2.b.pa c2.b.ps.length c2.b.pc, .slice c2.b.qa c2.b.qs.length c2.b.qc, .int .i64 c2.b.cs, .int .i64 c2.b.nx, .slice c2.oa c2.os.length c2.oc] 35
 have x0 := BX.out.c0
 have x1 := BX.out.c1
 have x2 := BX.out.c2
 have x3 := BX.out.c3
 have x4 := BX.out.c4
 have x5 := BX.out.c5
 go_wp2_with fail
 refine (CI.out c2 _ C2.out L2.out.rows).mono ?_
 rintro e w5 ⟨d2, rfl, hs, hl, hb5⟩
 have Z5 : Hid (w4.heap.size + 1 ≤ w5.heap.size) := by show _ ≤ _; have h := hb5.size; simpa using h
 replace BA : Hid (Bx w5 w.heap.size [.slice e.b.va e.b.vs.length e.b.vc, .slice e.b.pa e.b.ps.length e.b.pc, .slice e.b.qa e.b.qs.length e.b.qc, .int .i64 e.b.cs, .int .i64 e.b.nx, .slice e.oa e.os.length e.oc]) := BA.out.below hb5
 replace HB : Hid (Below w.heap.size w w5) := HB.out.trans (hb5.mono HB.out.size)
 replace AB : Hid (EnArg w5 e) := HPe.out.below HB.out
 replace M1 : Hid (EnLie w5 (w2.heap.size) w3.heap.size d1) := M1.out.below hb5
 replace OB1 : Hid (Bx w5 (w3.heap.size) [.slice d1.b.va d1.b.vs.length d1.b.vc, .slice d1.b.pa d1.b.ps.length d1.b.pc, .slice d1.b.qa d1.b.qs.length d1.b.qc, .int .i64 d1.b.cs, .int .i64 d1.b.nx, .slice d1.oa d1.os.length d1.oc]) := OB1.out.below hb5
 replace L2 : Hid (EnLie w5 (w3.heap.size + 1) w4.heap.size c2) := L2.out.below hb5
 replace BX : Hid (Bx w5 (w4.heap.size) [.slice c2.b.va c2.b.vs.length c2.b.vc, .slice c2.b.pa c2.b.ps.length c2.b.pc, .slice c2.b.qa c2.b.qs.length c2.b.qc, .int .i64 c2.b.cs, .int .i64 c2.b.nx, .slice c2.oa c2.os.length c2.oc]) := BX.out.below hb5
 have D2 : Hid (EnSame DD d2) := hs
 clear hs
 clear hb5 x0 x1 x2 x3 x4 x5
 have M2 : Hid (EnLie w5 (w4.heap.size + 1) w5.heap.size d2) := (by show EnLie _ _ _ _; simpa using hl)
 clear hl
 have hba : Below w5.heap.size w5 (w5.alloc (.cells #[.slice d2.b.va d2.b.vs.length d2.b.vc, .slice d2.b.pa d2.b.ps.length d2.b.pc, .slice d2.b.qa d2.b.qs.length d2.b.qc, .int .i64 d2.b.cs, .int .i64 d2.b.nx, .slice d2.oa d2.os.length d2.oc] 35)) := (belowRefl _).alloc (Nat.le_refl _) _
 replace BA : Hid (Bx (w5.alloc (.cells #[.slice d2.b.va d2.b.vs.length d2.b.vc, .slice d2.b.pa d2.b.ps.length d2.b.pc, .slice d2.b.qa d2.b.qs.length d2.b.qc, .int .i64 d2.b.cs, .int .i64 d2.b.nx, .slice d2.oa d2.os.length d2.oc] 35)) w.heap.size [.slice e.b.va e.b.vs.length e.b.vc, .slice e.b.pa e.b.ps.length e.b.pc, .slice e.b.qa e.b.qs.length e.b.qc, .int .i64 e.b.cs, .int .i64 e.b.nx, .slice e.oa e.os.length e.oc]) := BA.out.below hba
 replace HB : Hid (Below w.heap.size w (w5.alloc (.cells #[.slice d2.b.va d2.b.vs.length d2.b.vc, .slice d2.b.pa d2.b.ps.length d2.b.pc, .slice d2.b.qa d2.b.qs.length d2.b.qc, .int .i64 d2.b.cs, .int .i64 d2.b.nx, .slice d2.oa d2.os.length d2.oc] 35))) := HB.out.trans (hba.mono HB.out.size)
 replace AB : Hid (EnArg (w5.alloc (.cells #[.slice d2.b.va d2.b.vs.length d2.b.vc, .slice d2.b.pa d2.b.ps.length d2.b.pc, .slice d2.b.qa d2.b.qs.length d2.b.qc, .int .i64 d2.b.cs, .int .i64 d2.b.nx, .slice d2.oa d2.os.length d2.oc] 35)) e) := HPe.out.below HB.out
 replace M1 : Hid (EnLie (w5.alloc (.cells #[.slice d2.b.va d2.b.vs.length d2.b.vc, .slice d2.b.pa d2.b.ps.length d2.b.pc, .slice d2.b.qa d2.b.qs.length d2.b.qc, .int .i64 d2.b.cs, .int .i64 d2.b.nx, .slice d2.oa d2.os.length d2.oc] 35)) (w2.heap.size) w3.heap.size d1) := M1.out.below hba
 replace OB1 : Hid (Bx (w5.alloc (.cells #[.slice d2.b.va d2.b.vs.length d2.b.vc, .slice d2.b.pa d2.b.ps.length d2.b.pc, .slice d2.b.qa d2.b.qs.length d2.b.qc, .int .i64 d2.b.cs, .int .i64 d2.b.nx, .slice d2.oa d2.os.length d2.oc] 35)) (w3.heap.size) [.slice d1.b.va d1.b.vs.length d1.b.vc, .slice d1.b.pa d1.b.ps.length d1.b.pc, .slice d1.b.qa d1.b.qs.length d1.b.qc, .int .i64 d1.b.cs, .int .i64 d1.b.nx, .slice d1.oa d1.os.length d1.oc]) := OB1.out.below hba
 replace L2 : Hid (EnLie (w5.alloc (.cells #[.slice d2.b.va d2.b.vs.length d2.b.vc, .slice d2.b.pa d2.b.ps.length d2.b.pc, .slice d2.b.qa d2.b.qs.length d2.b.qc, .int .i64 d2.b.cs, .int .i64 d2.b.nx, .slice d2.oa d2.os.length d2.oc] 35)) (w3.heap.size + 1) w4.heap.size c2) := L2.out.below hba
 replace BX : Hid (Bx (w5.alloc (.cells #[.slice d2.b.va d2.b.vs.length d2.b.vc, .slice d2.b.pa d2.b.ps.length d2.b.pc, .slice d2.b.qa d2.b.qs.length d2.b.qc, .int .i64 d2.b.cs, .int .i64 d2.b.nx, .slice d2.oa d2.os.length d2.oc] 35)) (w4.heap.size) [.slice c2.b.va c2.b.vs.length c2.b.vc, .slice c2.b.pa c2.b.ps.length c2.b.pc, .slice c2.b.qa c2.b.qs.length c2.b.qc, .int .i64 c2.b.cs, .int .i64 c2.b.nx, .slice c2.oa c2.os.length c2.oc]) := BX.out.below hba
 replace M2 : Hid (EnLie (w5.alloc (.cells #[.slice d2.b.va d2.b.vs.length d2.b.vc, .slice d2.b.pa d2.b.ps.length d2.b.pc, .slice d2.b.qa d2.b.qs.length d2.b.qc, .int .i64 d2.b.cs, .int .i64 d2.b.nx, .slice d2.oa d2.os.length d2.oc] 35)) (w4.heap.size + 1) w5.heap.size d2) := M2.out.below hba
 clear hba
 have OB2 : Hid (Bx (w5.alloc (.cells #[.slice d2.b.va d2.b.vs.length d2.b.vc, .slice d2.b.pa d2.b.ps.length d2.b.pc, .slice d2.b.qa d2.b.qs.length d2.b.qc, .int .i64 d2.b.cs, .int .i64 d2.b.nx, .slice d2.oa d2.os.length d2.oc] 35)) (w5.heap.size) [.slice d2.b.va d2.b.vs.length d2.b.vc, .slice d2.b.pa d2.b.ps.length d2.b.pc, .slice d2.b.qa d2.b.qs.length d2.b.qc, .int .i64 d2.b.cs, .int .i64 d2.b.nx, .slice d2.oa d2.os.length d2.oc]) := Bx.new w5 [.slice d2.b.va d2.b.vs.length d2.b.vc, .slice d2.b.pa d2.b.ps.length d2.b.pc, .slice d2.b.qa d2.b.qs.length d2.b.qc, .int .i64 d2.b.cs, .int .i64 d2.b.nx, .slice d2.oa d2.os.length d2.oc] 35
 have x0 := OB2.out.c0
 have x1 := OB2.out.c1
 have x2 := OB2.out.c2
 have x3 := OB2.out.c3
 have x4 := OB2.out.c4
 have x5 := OB2.out.c5
 have y0 := OB1.out.c0
 have y1 := OB1.out.c1
 have y2 := OB1.out.c2
 have y3 := OB1.out.c3
 have y4 := OB1.out.c4
 have y5 := OB1.out.c5
 go_wp2_with fail
 refine (eqE d2 d1 (D2.out.symm.trans D1.out) (D2.out.fit HFD.out) _ M2.out.rows M1.out.rows).mono ?_
 rintro e w6 ⟨rfl, hb6⟩
 have Z6 : Hid (w5.heap.size + 1 ≤ w6.heap.size) := by show _ ≤ _; have h := hb6.size; simpa using h
 replace BA : Hid (Bx w6 w.heap.size [.slice e.b.va e.b.vs.length e.b.vc, .slice e.b.pa e.b.ps.length e.b.pc, .slice e.b.qa e.b.qs.length e.b.qc, .int .i64 e.b.cs, .int .i64 e.b.nx, .slice e.oa e.os.length e.oc]) := BA.out.below hb6
 replace HB : Hid (Below w.heap.size w w6) := HB.out.trans (hb6.mono HB.out.size)
 replace AB : Hid (EnArg w6 e) := HPe.out.below HB.out
 replace M1 : Hid (EnLie w6 (w2.heap.size) w3.heap.size d1) := M1.out.below hb6
 replace OB1 : Hid (Bx w6 (w3.heap.size) [.slice d1.b.va d1.b.vs.length d1.b.vc, .slice d1.b.pa d1.b.ps.length d1.b.pc, .slice d1.b.qa d1.b.qs.length d1.b.qc, .int .i64 d1.b.cs, .int .i64 d1.b.nx, .slice d1.oa d1.os.length d1.oc]) := OB1.out.below hb6
 replace L2 : Hid (EnLie w6 (w3.heap.size + 1) w4.heap.size c2) := L2.out.below hb6
 replace BX : Hid (Bx w6 (w4.heap.size) [.slice c2.b.va c2.b.vs.length c2.b.vc, .slice c2.b.pa c2.b.ps.length c2.b.pc, .slice c2.b.qa c2.b.qs.length c2.b.qc, .int .i64 c2.b.cs, .int .i64 c2.b.nx, .slice c2.oa c2.os.length c2.oc]) := BX.out.below hb6
 replace M2 : Hid (EnLie w6 (w4.heap.size + 1) w5.heap.size d2) := M2.out.below hb6
 replace OB2 : Hid (Bx w6 (w5.heap.size) [.slice d2.b.va d2.b.vs.length d2.b.vc, .slice d2.b.pa d2.b.ps.length d2.b.pc, .slice d2.b.qa d2.b.qs.length d2.b.qc, .int .i64 d2.b.cs, .int .i64 d2.b.nx, .slice d2.oa d2.os.length d2.oc]) := OB2.out.below hb6
 clear hb6 x0 x1 x2 x3 x4 x5 y0 y1 y2 y3 y4 y5
 go_wp2
 refine wp_region_held_drew (S := fun w' => w'.cell? ⟨w4.heap.size, 0, none⟩ = some (.slice c2.b.va c2.b.vs.length c2.b.vc) ∧ w'.cell? ⟨w4.heap.size, 1, none⟩ = some (.slice c2.b.pa c2.b.ps.length c2.b.pc) ∧ w'.cell? ⟨w4.heap.size, 2, none⟩ = some (.slice c2.b.qa c2.b.qs.length c2.b.qc) ∧ w'.cell? ⟨w4.heap.size, 3, none⟩ = some (.int .i64 c2.b.cs) ∧ w'.cell? ⟨w4.heap.size, 4, none⟩ = some (.int .i64 c2.b.nx) ∧ w'.cell? ⟨w4.heap.size, 5, none⟩ = some (.slice c2.oa c2.os.length c2.oc) ∧ w'.cell? ⟨w.heap.size, 0, none⟩ = some (.slice e.b.va e.b.vs.length e.b.vc) ∧ w'.cell? ⟨w.heap.size, 1, none⟩ = some (.slice e.b.pa e.b.ps.length e.b.pc) ∧ w'.cell? ⟨w.heap.size, 2, none⟩ = some (.slice e.b.qa e.b.qs.length e.b.qc) ∧ w'.cell? ⟨w.heap.size, 3, none⟩ = some (.int .i64 e.b.cs) ∧ w'.cell? ⟨w.heap.size, 4, none⟩ = some (.int .i64 e.b.nx) ∧ w'.cell? ⟨w.heap.size, 5, none⟩ = some (.slice e.oa e.os.length e.oc)) (by kernel_rfl) ⟨BX.out.c0, BX.out.c1, BX.out.c2, BX.out.c3, BX.out.c4, BX.out.c5, BA.out.c0, BA.out.c1, BA.out.c2, BA.out.c3, BA.out.c4, BA.out.c5⟩ (fun hHeld => ?_)
 (refine tk 0 ?_ rfl (Or.inl ⟨by rfl, ?_⟩) ?_; rotate_left; (focus (intro w h; (try dsimp only at h); go_simp; (try with_reducible rfl))); simp only [Act.put, tA, tB, tD, tE, tF])
 (refine tk 1 ?_ rfl (Or.inl ⟨by rfl, ?_⟩) ?_; rotate_left; (focus (intro w h; (try dsimp only at h); go_simp; (try with_reducible rfl))); simp only [Act.put, tA, tB, tC, tD, tE, tF])
 refine wpAnyH_ready (rs := [2]) (by kernel_rfl) (by simp) ?_
 refine AllReadyH.cons rfl (fun K hK => ?_) AllReadyH.nil
 go_simp
 go_wp2_with fail
 refine (toE e HF.out _ AB.out.rows.drewE).mono ?_
 rintro e w7 ⟨c3, rfl, hs3, hl3, hb7⟩
 have hbu7 := undrew hb7
 have Z7 : Hid (w6.heap.size ≤ w7.heap.size) := by show _ ≤ _; have h := hbu7.size; simpa using h
 replace BA : Hid (Bx w7 w.heap.size [.slice e.b.va e.b.vs.length e.b.vc, .slice e.b.pa e.b.ps.length e.b.pc, .slice e.b.qa e.b.qs.length e.b.qc, .int .i64 e.b.cs, .int .i64 e.b.nx, .slice e.oa e.os.length e.oc]) := BA.out.below hbu7
 replace HB : Hid (Below w.heap.size w w7) := HB.out.trans (hbu7.mono HB.out.size)
 replace AB : Hid (EnArg w7 e) := HPe.out.below HB.out
 replace M1 : Hid (EnLie w7 (w2.heap.size) w3.heap.size d1) := M1.out.below hbu7
 replace OB1 : Hid (Bx w7 (w3.heap.size) [.slice d1.b.va d1.b.vs.length d1.b.vc, .slice d1.b.pa d1.b.ps.length d1.b.pc, .slice d1.b.qa d1.b.qs.length d1.b.qc, .int .i64 d1.b.cs, .int .i64 d1.b.nx, .slice d1.oa d1.os.length d1.oc]) := OB1.out.below hbu7
 replace L2 : Hid (EnLie w7 (w3.heap.size + 1) w4.heap.size c2) := L2.out.below hbu7
 replace BX : Hid (Bx w7 (w4.heap.size) [.slice c2.b.va c2.b.vs.length c2.b.vc, .slice c2.b.pa c2.b.ps.length c2.b.pc, .slice c2.b.qa c2.b.qs.length c2.b.qc, .int .i64 c2.b.cs, .int .i64 c2.b.nx, .slice c2.oa c2.os.length c2.oc]) := BX.out.below hbu7
 replace M2 : Hid (EnLie w7 (w4.heap.size + 1) w5.heap.size d2) := M2.out.below hbu7
 replace OB2 : Hid (Bx w7 (w5.heap.size) [.slice d2.b.va d2.b.vs.length d2.b.vc, .slice d2.b.pa d2.b.ps.length d2.b.pc, .slice d2.b.qa d2.b.qs.length d2.b.qc, .int .i64 d2.b.cs, .int .i64 d2.b.nx, .slice d2.oa d2.os.length d2.oc]) := OB2.out.below hbu7
 have U := hide hl3.rows
 clear hl3
 go_wp2_with fail
 refine hK.out _ _ ⟨BX.out.c0, BX.out.c1, BX.out.c2, BX.out.c3, BX.out.c4, BX.out.c5, BA.out.c0, BA.out.c1, BA.out.c2, BA.out.c3, BA.out.c4, BA.out.c5⟩ (fun hHeld7 => ?_)
 clear hK K hb7 hbu7
 refine wpAnyH_ready (rs := [3]) (by kernel_rfl) (by simp) ?_
 refine AllReadyH.cons rfl (fun K hK => ?_) AllReadyH.nil
 go_simp
 go_wp2_with fail
 refine (eqE c2 c3 (C2.out.symm.trans hs3) (C2.out.fit HF.out) _ L2.out.rows U.out).mono ?_
 rintro e w8 ⟨rfl, hb8⟩
 have Z8 : Hid (w7.heap.size ≤ w8.heap.size) := by show _ ≤ _; have h := hb8.size; simpa using h
 replace BA : Hid (Bx w8 w.heap.size [.slice e.b.va e.b.vs.length e.b.vc, .slice e.b.pa e.b.ps.length e.b.pc, .slice e.b.qa e.b.qs.length e.b.qc, .int .i64 e.b.cs, .int .i64 e.b.nx, .slice e.oa e.os.length e.oc]) := BA.out.below hb8
 replace HB : Hid (Below w.heap.size w w8) := HB.out.trans (hb8.mono HB.out.size)
 replace AB : Hid (EnArg w8 e) := HPe.out.below HB.out
 replace M1 : Hid (EnLie w8 (w2.heap.size) w3.heap.size d1) := M1.out.below hb8
 replace OB1 : Hid (Bx w8 (w3.heap.size) [.slice d1.b.va d1.b.vs.length d1.b.vc, .slice d1.b.pa d1.b.ps.length d1.b.pc, .slice d1.b.qa d1.b.qs.length d1.b.qc, .int .i64 d1.b.cs, .int .i64 d1.b.nx, .slice d1.oa d1.os.length d1.oc]) := OB1.out.below hb8
 replace L2 : Hid (EnLie w8 (w3.heap.size + 1) w4.heap.size c2) := L2.out.below hb8
 replace BX : Hid (Bx w8 (w4.heap.size) [.slice c2.b.va c2.b.vs.length c2.b.vc, .slice c2.b.pa c2.b.ps.length c2.b.pc, .slice c2.b.qa c2.b.qs.length c2.b.qc, .int .i64 c2.b.cs, .int .i64 c2.b.nx, .slice c2.oa c2.os.length c2.oc]) := BX.out.below hb8
 replace M2 : Hid (EnLie w8 (w4.heap.size + 1) w5.heap.size d2) := M2.out.below hb8
 replace OB2 : Hid (Bx w8 (w5.heap.size) [.slice d2.b.va d2.b.vs.length d2.b.vc, .slice d2.b.pa d2.b.ps.length d2.b.pc, .slice d2.b.qa d2.b.qs.length d2.b.qc, .int .i64 d2.b.cs, .int .i64 d2.b.nx, .slice d2.oa d2.os.length d2.oc]) := OB2.out.below hb8
 replace U : Hid (EnRows w8 c3) := U.out.below hb8
 go_wp2_with fail
 refine hK.out _ _ ⟨BX.out.c0, BX.out.c1, BX.out.c2, BX.out.c3, BX.out.c4, BX.out.c5, BA.out.c0, BA.out.c1, BA.out.c2, BA.out.c3, BA.out.c4, BA.out.c5⟩ (fun hHeld8 => ?_)
 clear hK K hb8
 (refine tk 4 ?_ rfl (Or.inl ⟨by rfl, ?_⟩) ?_; rotate_left; (focus (intro w h; (try dsimp only at h); go_simp; (try with_reducible rfl))); simp only [Act.put, tA, tB, tC, tD, tE, tF])
 refine wpAnyH_done (by kernel_rfl) ?_ _
 clear U
 clear hs3
 have x0 := BX.out.c0
 have x1 := BX.out.c1
 have x2 := BX.out.c2
 have x3 := BX.out.c3
 have x4 := BX.out.c4
 have x5 := BX.out.c5
 go_wp2_with fail
 refine (markE c2 (w3.heap.size + 1) (w4.heap.size) (C2.out.fit HF.out) _ (by have := Z1.out; have := Z2.out; have := Z3.out; have := Z4.out; have := Z5.out; have := Z6.out; have := Z7.out; have := Z8.out; omega) L2.out).mono ?_
 rintro e w9 ⟨q1, m1, rfl, _, hz9, _⟩
 have Z9 : Hid (w8.heap.size ≤ w9.heap.size) := hz9.size
 replace BA : Hid (Bx w9 w.heap.size [.slice e.b.va e.b.vs.length e.b.vc, .slice e.b.pa e.b.ps.length e.b.pc, .slice e.b.qa e.b.qs.length e.b.qc, .int .i64 e.b.cs, .int .i64 e.b.nx, .slice e.oa e.os.length e.oc]) := BA.out.zn hz9 (by have := Z1.out; have := Z2.out; have := Z3.out; have := Z4.out; have := Z5.out; have := Z6.out; have := Z7.out; have := Z8.out; omega)
 replace HB : Hid (Below w.heap.size w w9) := HB.out.trans (hz9.below (by have := Z1.out; have := Z2.out; have := Z3.out; have := Z4.out; have := Z5.out; have := Z6.out; have := Z7.out; have := Z8.out; omega) HB.out.size)
 replace AB : Hid (EnArg w9 e) := HPe.out.below HB.out
 replace M1 : Hid (EnLie w9 (w2.heap.size) w3.heap.size d1) := M1.out.zn hz9 (by have := Z1.out; have := Z2.out; have := Z3.out; have := Z4.out; have := Z5.out; have := Z6.out; have := Z7.out; have := Z8.out; omega)
 replace OB1 : Hid (Bx w9 (w3.heap.size) [.slice d1.b.va d1.b.vs.length d1.b.vc, .slice d1.b.pa d1.b.ps.length d1.b.pc, .slice d1.b.qa d1.b.qs.length d1.b.qc, .int .i64 d1.b.cs, .int .i64 d1.b.nx, .slice d1.oa d1.os.length d1.oc]) := OB1.out.zn hz9 (by have := Z1.out; have := Z2.out; have := Z3.out; have := Z4.out; have := Z5.out; have := Z6.out; have := Z7.out; have := Z8.out; omega)
 replace BX : Hid (Bx w9 (w4.heap.size) [.slice c2.b.va c2.b.vs.length c2.b.vc, .slice c2.b.pa c2.b.ps.length c2.b.pc, .slice c2.b.qa c2.b.qs.length c2.b.qc, .int .i64 c2.b.cs, .int .i64 c2.b.nx, .slice c2.oa c2.os.length c2.oc]) := BX.out.zn hz9 (by have := Z1.out; have := Z2.out; have := Z3.out; have := Z4.out; have := Z5.out; have := Z6.out; have := Z7.out; have := Z8.out; omega)
 replace M2 : Hid (EnLie w9 (w4.heap.size + 1) w5.heap.size d2) := M2.out.zn hz9 (by have := Z1.out; have := Z2.out; have := Z3.out; have := Z4.out; have := Z5.out; have := Z6.out; have := Z7.out; have := Z8.out; omega)
 replace OB2 : Hid (Bx w9 (w5.heap.size) [.slice d2.b.va d2.b.vs.length d2.b.vc, .slice d2.b.pa d2.b.ps.length d2.b.pc, .slice d2.b.qa d2.b.qs.length d2.b.qc, .int .i64 d2.b.cs, .int .i64 d2.b.nx, .slice d2.oa d2.os.length d2.oc]) := OB2.out.zn hz9 (by have := Z1.out; have := Z2.out; have := Z3.out; have := Z4.out; have := Z5.out; have := Z6.out; have := Z7.out; have := Z8.out; omega)
 clear hz9 x0 x1 x2 x3 x4 x5 L2
 have hK1a : ¬ (q1 : Int) < 0 := by omega
 have hK1b : decide ((q1 : Int) < 0) = false := by simp
 have x0 := OB2.out.c0
 have x1 := OB2.out.c1
 have x2 := OB2.out.c2
 have x3 := OB2.out.c3
 have x4 := OB2.out.c4
 have x5 := OB2.out.c5
 have y0 := OB1.out.c0
 have y1 := OB1.out.c1
 have y2 := OB1.out.c2
 have y3 := OB1.out.c3
 have y4 := OB1.out.c4
 have y5 := OB1.out.c5
 go_wp2_with fail
 refine (eqE d2 d1 (D2.out.symm.trans D1.out) (D2.out.fit HFD.out) _ M2.out.rows M1.out.rows).mono ?_
 rintro e w10 ⟨rfl, hb10⟩
 have Z10 : Hid (w9.heap.size ≤ w10.heap.size) := by show _ ≤ _; have h := hb10.size; simpa using h
 replace BA : Hid (Bx w10 w.heap.size [.slice e.b.va e.b.vs.length e.b.vc, .slice e.b.pa e.b.ps.length e.b.pc, .slice e.b.qa e.b.qs.length e.b.qc, .int .i64 e.b.cs, .int .i64 e.b.nx, .slice e.oa e.os.length e.oc]) := BA.out.below hb10
 replace HB : Hid (Below w.heap.size w w10) := HB.out.trans (hb10.mono HB.out.size)
 replace AB : Hid (EnArg w10 e) := HPe.out.below HB.out
 replace M1 : Hid (EnLie w10 (w2.heap.size) w3.heap.size d1) := M1.out.below hb10
 replace OB1 : Hid (Bx w10 (w3.heap.size) [.slice d1.b.va d1.b.vs.length d1.b.vc, .slice d1.b.pa d1.b.ps.length d1.b.pc, .slice d1.b.qa d1.b.qs.length d1.b.qc, .int .i64 d1.b.cs, .int .i64 d1.b.nx, .slice d1.oa d1.os.length d1.oc]) := OB1.out.below hb10
 replace BX : Hid (Bx w10 (w4.heap.size) [.slice c2.b.va c2.b.vs.length c2.b.vc, .slice c2.b.pa c2.b.ps.length c2.b.pc, .slice c2.b.qa c2.b.qs.length c2.b.qc, .int .i64 c2.b.cs, .int .i64 c2.b.nx, .slice c2.oa c2.os.length c2.oc]) := BX.out.below hb10
 replace M2 : Hid (EnLie w10 (w4.heap.size + 1) w5.heap.size d2) := M2.out.below hb10
 replace OB2 : Hid (Bx w10 (w5.heap.size) [.slice d2.b.va d2.b.vs.length d2.b.vc, .slice d2.b.pa d2.b.ps.length d2.b.pc, .slice d2.b.qa d2.b.qs.length d2.b.qc, .int .i64 d2.b.cs, .int .i64 d2.b.nx, .slice d2.oa d2.os.length d2.oc]) := OB2.out.below hb10
 clear hb10 x0 x1 x2 x3 x4 x5 y0 y1 y2 y3 y4 y5
 have x0 := OB2.out.c0
 have x1 := OB2.out.c1
 have x2 := OB2.out.c2
 have x3 := OB2.out.c3
 have x4 := OB2.out.c4
 have x5 := OB2.out.c5
 go_wp2_with fail
 refine (markE d2 (w4.heap.size + 1) (w5.heap.size) (D2.out.fit HFD.out) _ (by have := Z1.out; have := Z2.out; have := Z3.out; have := Z4.out; have := Z5.out; have := Z6.out; have := Z7.out; have := Z8.out; have := Z9.out; have := Z10.out; omega) M2.out).mono ?_
 rintro e w11 ⟨q3, mm, rfl, hm, hz11, hh⟩
 have Z11 : Hid (w10.heap.size ≤ w11.heap.size) := hz11.size
 replace BA : Hid (Bx w11 w.heap.size [.slice e.b.va e.b.vs.length e.b.vc, .slice e.b.pa e.b.ps.length e.b.pc, .slice e.b.qa e.b.qs.length e.b.qc, .int .i64 e.b.cs, .int .i64 e.b.nx, .slice e.oa e.os.length e.oc]) := BA.out.zn hz11 (by have := Z1.out; have := Z2.out; have := Z3.out; have := Z4.out; have := Z5.out; have := Z6.out; have := Z7.out; have := Z8.out; have := Z9.out; have := Z10.out; omega)
 replace HB : Hid (Below w.heap.size w w11) := HB.out.trans (hz11.below (by have := Z1.out; have := Z2.out; have := Z3.out; have := Z4.out; have := Z5.out; have := Z6.out; have := Z7.out; have := Z8.out; have := Z9.out; have := Z10.out; omega) HB.out.size)
 replace AB : Hid (EnArg w11 e) := HPe.out.below HB.out
 replace M1 : Hid (EnLie w11 (w2.heap.size) w3.heap.size d1) := M1.out.zn hz11 (by have := Z1.out; have := Z2.out; have := Z3.out; have := Z4.out; have := Z5.out; have := Z6.out; have := Z7.out; have := Z8.out; have := Z9.out; have := Z10.out; omega)
 replace OB1 : Hid (Bx w11 (w3.heap.size) [.slice d1.b.va d1.b.vs.length d1.b.vc, .slice d1.b.pa d1.b.ps.length d1.b.pc, .slice d1.b.qa d1.b.qs.length d1.b.qc, .int .i64 d1.b.cs, .int .i64 d1.b.nx, .slice d1.oa d1.os.length d1.oc]) := OB1.out.zn hz11 (by have := Z1.out; have := Z2.out; have := Z3.out; have := Z4.out; have := Z5.out; have := Z6.out; have := Z7.out; have := Z8.out; have := Z9.out; have := Z10.out; omega)
 replace BX : Hid (Bx w11 (w4.heap.size) [.slice c2.b.va c2.b.vs.length c2.b.vc, .slice c2.b.pa c2.b.ps.length c2.b.pc, .slice c2.b.qa c2.b.qs.length c2.b.qc, .int .i64 c2.b.cs, .int .i64 c2.b.nx, .slice c2.oa c2.os.length c2.oc]) := BX.out.zn hz11 (by have := Z1.out; have := Z2.out; have := Z3.out; have := Z4.out; have := Z5.out; have := Z6.out; have := Z7.out; have := Z8.out; have := Z9.out; have := Z10.out; omega)
 replace OB2 : Hid (Bx w11 (w5.heap.size) [.slice d2.b.va d2.b.vs.length d2.b.vc, .slice d2.b.pa d2.b.ps.length d2.b.pc, .slice d2.b.qa d2.b.qs.length d2.b.qc, .int .i64 d2.b.cs, .int .i64 d2.b.nx, .slice d2.oa d2.os.length d2.oc]) := OB2.out.zn hz11 (by have := Z1.out; have := Z2.out; have := Z3.out; have := Z4.out; have := Z5.out; have := Z6.out; have := Z7.out; have := Z8.out; have := Z9.out; have := Z10.out; omega)
 have MM : Hid (EnLie w11 (w4.heap.size + 1) (w5.heap.size) mm) := hm
 have HH := hide hh
 clear hm hh
 clear hz11 x0 x1 x2 x3 x4 x5 M2
 have hK3a : ¬ (q3 : Int) < 0 := by omega
 have hK3b := ne_self_int (q3 : Int)
 have x0 := OB2.out.c0
 have x1 := OB2.out.c1
 have x2 := OB2.out.c2
 have x3 := OB2.out.c3
 have x4 := OB2.out.c4
 have x5 := OB2.out.c5
 go_wp2_with fail
 refine (HH.out _ MM.out.rows).mono ?_
 rintro e w12 ⟨rfl, hb12⟩
 have Z12 : Hid (w11.heap.size ≤ w12.heap.size) := by show _ ≤ _; have h := hb12.size; simpa using h
 replace BA : Hid (Bx w12 w.heap.size [.slice e.b.va e.b.vs.length e.b.vc, .slice e.b.pa e.b.ps.length e.b.pc, .slice e.b.qa e.b.qs.length e.b.qc, .int .i64 e.b.cs, .int .i64 e.b.nx, .slice e.oa e.os.length e.oc]) := BA.out.below hb12
 replace HB : Hid (Below w.heap.size w w12) := HB.out.trans (hb12.mono HB.out.size)
 replace AB : Hid (EnArg w12 e) := HPe.out.below HB.out
 replace M1 : Hid (EnLie w12 (w2.heap.size) w3.heap.size d1) := M1.out.below hb12
 replace OB1 : Hid (Bx w12 (w3.heap.size) [.slice d1.b.va d1.b.vs.length d1.b.vc, .slice d1.b.pa d1.b.ps.length d1.b.pc, .slice d1.b.qa d1.b.qs.length d1.b.qc, .int .i64 d1.b.cs, .int .i64 d1.b.nx, .slice d1.oa d1.os.length d1.oc]) := OB1.out.below hb12
 replace BX : Hid (Bx w12 (w4.heap.size) [.slice c2.b.va c2.b.vs.length c2.b.vc, .slice c2.b.pa c2.b.ps.length c2.b.pc, .slice c2.b.qa c2.b.qs.length c2.b.qc, .int .i64 c2.b.cs, .int .i64 c2.b.nx, .slice c2.oa c2.os.length c2.oc]) := BX.out.below hb12
 replace OB2 : Hid (Bx w12 (w5.heap.size) [.slice d2.b.va d2.b.vs.length d2.b.vc, .slice d2.b.pa d2.b.ps.length d2.b.pc, .slice d2.b.qa d2.b.qs.length d2.b.qc, .int .i64 d2.b.cs, .int .i64 d2.b.nx, .slice d2.oa d2.os.length d2.oc]) := OB2.out.below hb12
 replace MM : Hid (EnLie w12 (w4.heap.size + 1) (w5.heap.size) mm) := MM.out.below hb12
 clear hb12 x0 x1 x2 x3 x4 x5
 have x0 := BA.out.c0
 have x1 := BA.out.c1
 have x2 := BA.out.c2
 have x3 := BA.out.c3
 have x4 := BA.out.c4
 have x5 := BA.out.c5
 go_wp2_with fail
 refine (toE e HF.out _ AB.out.rows).mono ?_
 rintro e w13 ⟨c4, rfl, hs, hl, hb13⟩
 have Z13 : Hid (w12.heap.size ≤ w13.heap.size) := by show _ ≤ _; have h := hb13.size; simpa using h
 replace BA : Hid (Bx w13 w.heap.size [.slice e.b.va e.b.vs.length e.b.vc, .slice e.b.pa e.b.ps.length e.b.pc, .slice e.b.qa e.b.qs.length e.b.qc, .int .i64 e.b.cs, .int .i64 e.b.nx, .slice e.oa e.os.length e.oc]) := BA.out.below hb13
 replace HB : Hid (Below w.heap.size w w13) := HB.out.trans (hb13.mono HB.out.size)
 replace AB : Hid (EnArg w13 e) := HPe.out.below HB.out
 replace M1 : Hid (EnLie w13 (w2.heap.size) w3.heap.size d1) := M1.out.below hb13
 replace OB1 : Hid (Bx w13 (w3.heap.size) [.slice d1.b.va d1.b.vs.length d1.b.vc, .slice d1.b.pa d1.b.ps.length d1.b.pc, .slice d1.b.qa d1.b.qs.length d1.b.qc, .int .i64 d1.b.cs, .int .i64 d1.b.nx, .slice d1.oa d1.os.length d1.oc]) := OB1.out.below hb13
 replace BX : Hid (Bx w13 (w4.heap.size) [.slice c2.b.va c2.b.vs.length c2.b.vc, .slice c2.b.pa c2.b.ps.length c2.b.pc, .slice c2.b.qa c2.b.qs.length c2.b.qc, .int .i64 c2.b.cs, .int .i64 c2.b.nx, .slice c2.oa c2.os.length c2.oc]) := BX.out.below hb13
 replace OB2 : Hid (Bx w13 (w5.heap.size) [.slice d2.b.va d2.b.vs.length d2.b.vc, .slice d2.b.pa d2.b.ps.length d2.b.pc, .slice d2.b.qa d2.b.qs.length d2.b.qc, .int .i64 d2.b.cs, .int .i64 d2.b.nx, .slice d2.oa d2.os.length d2.oc]) := OB2.out.below hb13
 replace MM : Hid (EnLie w13 (w4.heap.size + 1) (w5.heap.size) mm) := MM.out.below hb13
 have C4 : Hid (EnSame e c4) := hs
 clear hs
 clear hb13 x0 x1 x2 x3 x4 x5
 have L4 : Hid (EnLie w13 (w12.heap.size) w13.heap.size c4) := hl
 clear hl
 go_wp2_with fail
 refine (CI.out c4 _ C4.out L4.out.rows).mono ?_
 rintro e w14 ⟨d4, rfl, hs, hl, hb14⟩
 have Z14 : Hid (w13.heap.size ≤ w14.heap.size) := by show _ ≤ _; have h := hb14.size; simpa using h
 replace BA : Hid (Bx w14 w.heap.size [.slice e.b.va e.b.vs.length e.b.vc, .slice e.b.pa e.b.ps.length e.b.pc, .slice e.b.qa e.b.qs.length e.b.qc, .int .i64 e.b.cs, .int .i64 e.b.nx, .slice e.oa e.os.length e.oc]) := BA.out.below hb14
 replace HB : Hid (Below w.heap.size w w14) := HB.out.trans (hb14.mono HB.out.size)
 replace AB : Hid (EnArg w14 e) := HPe.out.below HB.out
 replace M1 : Hid (EnLie w14 (w2.heap.size) w3.heap.size d1) := M1.out.below hb14
 replace OB1 : Hid (Bx w14 (w3.heap.size) [.slice d1.b.va d1.b.vs.length d1.b.vc, .slice d1.b.pa d1.b.ps.length d1.b.pc, .slice d1.b.qa d1.b.qs.length d1.b.qc, .int .i64 d1.b.cs, .int .i64 d1.b.nx, .slice d1.oa d1.os.length d1.oc]) := OB1.out.below hb14
 replace BX : Hid (Bx w14 (w4.heap.size) [.slice c2.b.va c2.b.vs.length c2.b.vc, .slice c2.b.pa c2.b.ps.length c2.b.pc, .slice c2.b.qa c2.b.qs.length c2.b.qc, .int .i64 c2.b.cs, .int .i64 c2.b.nx, .slice c2.oa c2.os.length c2.oc]) := BX.out.below hb14
 replace OB2 : Hid (Bx w14 (w5.heap.size) [.slice d2.b.va d2.b.vs.length d2.b.vc, .slice d2.b.pa d2.b.ps.length d2.b.pc, .slice d2.b.qa d2.b.qs.length d2.b.qc, .int .i64 d2.b.cs, .int .i64 d2.b.nx, .slice d2.oa d2.os.length d2.oc]) := OB2.out.below hb14
 replace MM : Hid (EnLie w14 (w4.heap.size + 1) (w5.heap.size) mm) := MM.out.below hb14
 replace L4 : Hid (EnLie w14 (w12.heap.size) w13.heap.size c4) := L4.out.below hb14
 have D4 : Hid (EnSame DD d4) := hs
 clear hs
 clear hb14
 have M4 : Hid (EnLie w14 (w13.heap.size) w14.heap.size d4) := hl
 clear hl
 clear L4
 have hba : Below w14.heap.size w14 (w14.alloc (.cells #[.slice d4.b.va d4.b.vs.length d4.b.vc, .slice d4.b.pa d4.b.ps.length d4.b.pc, .slice d4.b.qa d4.b.qs.length d4.b.qc, .int .i64 d4.b.cs, .int .i64 d4.b.nx, .slice d4.oa d4.os.length d4.oc] 35)) := (belowRefl _).alloc (Nat.le_refl _) _
 replace BA : Hid (Bx (w14.alloc (.cells #[.slice d4.b.va d4.b.vs.length d4.b.vc, .slice d4.b.pa d4.b.ps.length d4.b.pc, .slice d4.b.qa d4.b.qs.length d4.b.qc, .int .i64 d4.b.cs, .int .i64 d4.b.nx, .slice d4.oa d4.os.length d4.oc] 35)) w.heap.size [.slice e.b.va e.b.vs.length e.b.vc, .slice e.b.pa e.b.ps.length e.b.pc, .slice e.b.qa e.b.qs.length e.b.qc, .int .i64 e.b.cs, .int .i64 e.b.nx, .slice e.oa e.os.length e.oc]) := BA.out.below hba
 replace HB : Hid (Below w.heap.size w (w14.alloc (.cells #[.slice d4.b.va d4.b.vs.length d4.b.vc, .slice d4.b.pa d4.b.ps.length d4.b.pc, .slice d4.b.qa d4.b.qs.length d4.b.qc, .int .i64 d4.b.cs, .int .i64 d4.b.nx, .slice d4.oa d4.os.length d4.oc] 35))) := HB.out.trans (hba.mono HB.out.size)
 replace AB : Hid (EnArg (w14.alloc (.cells #[.slice d4.b.va d4.b.vs.length d4.b.vc, .slice d4.b.pa d4.b.ps.length d4.b.pc, .slice d4.b.qa d4.b.qs.length d4.b.qc, .int .i64 d4.b.cs, .int .i64 d4.b.nx, .slice d4.oa d4.os.length d4.oc] 35)) e) := HPe.out.below HB.out
 replace M1 : Hid (EnLie (w14.alloc (.cells #[.slice d4.b.va d4.b.vs.length d4.b.vc, .slice d4.b.pa d4.b.ps.length d4.b.pc, .slice d4.b.qa d4.b.qs.length d4.b.qc, .int .i64 d4.b.cs, .int .i64 d4.b.nx, .slice d4.oa d4.os.length d4.oc] 35)) (w2.heap.size) w3.heap.size d1) := M1.out.below hba
 replace OB1 : Hid (Bx (w14.alloc (.cells #[.slice d4.b.va d4.b.vs.length d4.b.vc, .slice d4.b.pa d4.b.ps.length d4.b.pc, .slice d4.b.qa d4.b.qs.length d4.b.qc, .int .i64 d4.b.cs, .int .i64 d4.b.nx, .slice d4.oa d4.os.length d4.oc] 35)) (w3.heap.size) [.slice d1.b.va d1.b.vs.length d1.b.vc, .slice d1.b.pa d1.b.ps.length d1.b.pc, .slice d1.b.qa d1.b.qs.length d1.b.qc, .int .i64 d1.b.cs, .int .i64 d1.b.nx, .slice d1.oa d1.os.length d1.oc]) := OB1.out.below hba
 replace BX : Hid (Bx (w14.alloc (.cells #[.slice d4.b.va d4.b.vs.length d4.b.vc, .slice d4.b.pa d4.b.ps.length d4.b.pc, .slice d4.b.qa d4.b.qs.length d4.b.qc, .int .i64 d4.b.cs, .int .i64 d4.b.nx, .slice d4.oa d4.os.length d4.oc] 35)) (w4.heap.size) [.slice c2.b.va c2.b.vs.length c2.b.vc, .slice c2.b.pa c2.b.ps.length c2.b.pc, .slice c2.b.qa c2.b.qs.length c2.b.qc, .int .i64 c2.b.cs, .int .i64 c2.b.nx, .slice c2.oa c2.os.length c2.oc]) := BX.out.below hba
 replace OB2 : Hid (Bx (w14.alloc (.cells #[.slice d4.b.va d4.b.vs.length d4.b.vc, .slice d4.b.pa d4.b.ps.length d4.b.pc, .slice d4.b.qa d4.b.qs.length d4.b.qc, .int .i64 d4.b.cs, .int .i64 d4.b.nx, .slice d4.oa d4.os.length d4.oc] 35)) (w5.heap.size) [.slice d2.b.va d2.b.vs.length d2.b.vc, .slice d2.b.pa d2.b.ps.length d2.b.pc, .slice d2.b.qa d2.b.qs.length d2.b.qc, .int .i64 d2.b.cs, .int .i64 d2.b.nx, .slice d2.oa d2.os.length d2.oc]) := OB2.out.below hba
 replace MM : Hid (EnLie (w14.alloc (.cells #[.slice d4.b.va d4.b.vs.length d4.b.vc, .slice d4.b.pa d4.b.ps.length d4.b.pc, .slice d4.b.qa d4.b.qs.length d4.b.qc, .int .i64 d4.b.cs, .int .i64 d4.b.nx, .slice d4.oa d4.os.length d4.oc] 35)) (w4.heap.size + 1) (w5.heap.size) mm) := MM.out.below hba
 replace M4 : Hid (EnLie (w14.alloc (.cells #[.slice d4.b.va d4.b.vs.length d4.b.vc, .slice d4.b.pa d4.b.ps.length d4.b.pc, .slice d4.b.qa d4.b.qs.length d4.b.qc, .int .i64 d4.b.cs, .int .i64 d4.b.nx, .slice d4.oa d4.os.length d4.oc] 35)) (w13.heap.size) w14.heap.size d4) := M4.out.below hba
 clear hba
 have OB4 : Hid (Bx (w14.alloc (.cells #[.slice d4.b.va d4.b.vs.length d4.b.vc, .slice d4.b.pa d4.b.ps.length d4.b.pc, .slice d4.b.qa d4.b.qs.length d4.b.qc, .int .i64 d4.b.cs, .int .i64 d4.b.nx, .slice d4.oa d4.os.length d4.oc] 35)) (w14.heap.size) [.slice d4.b.va d4.b.vs.length d4.b.vc, .slice d4.b.pa d4.b.ps.length d4.b.pc, .slice d4.b.qa d4.b.qs.length d4.b.qc, .int .i64 d4.b.cs, .int .i64 d4.b.nx, .slice d4.oa d4.os.length d4.oc]) := Bx.new w14 [.slice d4.b.va d4.b.vs.length d4.b.vc, .slice d4.b.pa d4.b.ps.length d4.b.pc, .slice d4.b.qa d4.b.qs.length d4.b.qc, .int .i64 d4.b.cs, .int .i64 d4.b.nx, .slice d4.oa d4.os.length d4.oc] 35
 have x0 := OB4.out.c0
 have x1 := OB4.out.c1
 have x2 := OB4.out.c2
 have x3 := OB4.out.c3
 have x4 := OB4.out.c4
 have x5 := OB4.out.c5
 have y0 := OB1.out.c0
 have y1 := OB1.out.c1
 have y2 := OB1.out.c2
 have y3 := OB1.out.c3
 have y4 := OB1.out.c4
 have y5 := OB1.out.c5
 go_wp2_with fail
 refine (eqE d4 d1 (D4.out.symm.trans D1.out) (D4.out.fit HFD.out) _ M4.out.rows M1.out.rows).mono ?_
 rintro e w15 ⟨rfl, hb15⟩
 have Z15 : Hid (w14.heap.size + 1 ≤ w15.heap.size) := by show _ ≤ _; have h := hb15.size; simpa using h
 replace BA : Hid (Bx w15 w.heap.size [.slice e.b.va e.b.vs.length e.b.vc, .slice e.b.pa e.b.ps.length e.b.pc, .slice e.b.qa e.b.qs.length e.b.qc, .int .i64 e.b.cs, .int .i64 e.b.nx, .slice e.oa e.os.length e.oc]) := BA.out.below hb15
 replace HB : Hid (Below w.heap.size w w15) := HB.out.trans (hb15.mono HB.out.size)
 replace AB : Hid (EnArg w15 e) := HPe.out.below HB.out
 replace M1 : Hid (EnLie w15 (w2.heap.size) w3.heap.size d1) := M1.out.below hb15
 replace OB1 : Hid (Bx w15 (w3.heap.size) [.slice d1.b.va d1.b.vs.length d1.b.vc, .slice d1.b.pa d1.b.ps.length d1.b.pc, .slice d1.b.qa d1.b.qs.length d1.b.qc, .int .i64 d1.b.cs, .int .i64 d1.b.nx, .slice d1.oa d1.os.length d1.oc]) := OB1.out.below hb15
 replace BX : Hid (Bx w15 (w4.heap.size) [.slice c2.b.va c2.b.vs.length c2.b.vc, .slice c2.b.pa c2.b.ps.length c2.b.pc, .slice c2.b.qa c2.b.qs.length c2.b.qc, .int .i64 c2.b.cs, .int .i64 c2.b.nx, .slice c2.oa c2.os.length c2.oc]) := BX.out.below hb15
 replace OB2 : Hid (Bx w15 (w5.heap.size) [.slice d2.b.va d2.b.vs.length d2.b.vc, .slice d2.b.pa d2.b.ps.length d2.b.pc, .slice d2.b.qa d2.b.qs.length d2.b.qc, .int .i64 d2.b.cs, .int .i64 d2.b.nx, .slice d2.oa d2.os.length d2.oc]) := OB2.out.below hb15
 replace MM : Hid (EnLie w15 (w4.heap.size + 1) (w5.heap.size) mm) := MM.out.below hb15
 replace M4 : Hid (EnLie w15 (w13.heap.size) w14.heap.size d4) := M4.out.below hb15
 replace OB4 : Hid (Bx w15 (w14.heap.size) [.slice d4.b.va d4.b.vs.length d4.b.vc, .slice d4.b.pa d4.b.ps.length d4.b.pc, .slice d4.b.qa d4.b.qs.length d4.b.qc, .int .i64 d4.b.cs, .int .i64 d4.b.nx, .slice d4.oa d4.os.length d4.oc]) := OB4.out.below hb15
 clear hb15 x0 x1 x2 x3 x4 x5 y0 y1 y2 y3 y4 y5
 have x0 := OB2.out.c0
 have x1 := OB2.out.c1
 have x2 := OB2.out.c2
 have x3 := OB2.out.c3
 have x4 := OB2.out.c4
 have x5 := OB2.out.c5
 go_wp2_with fail
 refine (HH.out _ MM.out.rows).mono ?_
 rintro e w16 ⟨rfl, hb16⟩
 have Z16 : Hid (w15.heap.size ≤ w16.heap.size) := by show _ ≤ _; have h := hb16.size; simpa using h
 replace BA : Hid (Bx w16 w.heap.size [.slice e.b.va e.b.vs.length e.b.vc, .slice e.b.pa e.b.ps.length e.b.pc, .slice e.b.qa e.b.qs.length e.b.qc, .int .i64 e.b.cs, .int .i64 e.b.nx, .slice e.oa e.os.length e.oc]) := BA.out.below hb16
 replace HB : Hid (Below w.heap.size w w16) := HB.out.trans (hb16.mono HB.out.size)
 replace AB : Hid (EnArg w16 e) := HPe.out.below HB.out
 replace M1 : Hid (EnLie w16 (w2.heap.size) w3.heap.size d1) := M1.out.below hb16
 replace OB1 : Hid (Bx w16 (w3.heap.size) [.slice d1.b.va d1.b.vs.length d1.b.vc, .slice d1.b.pa d1.b.ps.length d1.b.pc, .slice d1.b.qa d1.b.qs.length d1.b.qc, .int .i64 d1.b.cs, .int .i64 d1.b.nx, .slice d1.oa d1.os.length d1.oc]) := OB1.out.below hb16
 replace BX : Hid (Bx w16 (w4.heap.size) [.slice c2.b.va c2.b.vs.length c2.b.vc, .slice c2.b.pa c2.b.ps.length c2.b.pc, .slice c2.b.qa c2.b.qs.length c2.b.qc, .int .i64 c2.b.cs, .int .i64 c2.b.nx, .slice c2.oa c2.os.length c2.oc]) := BX.out.below hb16
 replace OB2 : Hid (Bx w16 (w5.heap.size) [.slice d2.b.va d2.b.vs.length d2.b.vc, .slice d2.b.pa d2.b.ps.length d2.b.pc, .slice d2.b.qa d2.b.qs.length d2.b.qc, .int .i64 d2.b.cs, .int .i64 d2.b.nx, .slice d2.oa d2.os.length d2.oc]) := OB2.out.below hb16
 replace MM : Hid (EnLie w16 (w4.heap.size + 1) (w5.heap.size) mm) := MM.out.below hb16
 replace M4 : Hid (EnLie w16 (w13.heap.size) w14.heap.size d4) := M4.out.below hb16
 replace OB4 : Hid (Bx w16 (w14.heap.size) [.slice d4.b.va d4.b.vs.length d4.b.vc, .slice d4.b.pa d4.b.ps.length d4.b.pc, .slice d4.b.qa d4.b.qs.length d4.b.qc, .int .i64 d4.b.cs, .int .i64 d4.b.nx, .slice d4.oa d4.os.length d4.oc]) := OB4.out.below hb16
 clear hb16 x0 x1 x2 x3 x4 x5
 go_wp2
 go_ret
 exact ⟨rfl, HB.out⟩

end Go.Proofs.YtjeicgibddfifaaGreat
