/- EngineNew of both sides, marks of nothing, and the law FnExactEngineNew, walked. -/
import Derived.Test.YtjeicgibddfifaaPa04
import Derived.Deep.RegionHeld3
import Derived.Deep.Cut
import Derived.Deep.CutRange
import Derived.Test.YtjeicgibddfifaaPa01
import Derived.Lib.SmallJoins
import Derived.Deep.Strs
import Derived.ProofKit
import Derived.OpenShut
import Derived.ShutString
import Derived.ChangeOld
namespace Go.Proofs.Ytjeicgibddfifaa
open Go.RowKit
open KM
attribute [local go_sem ↓] Go.wp_at_zero Go.wp_at_succ

set_option maxRecDepth 100000 in
set_option maxHeartbeats 2000000 in
theorem enews (w : World) : Calls Try.prog 6 #[] w fun e w' => e = .returned (.agg #[.slice none 0 0, .slice none 0 0, .slice none 0 0, .int .i64 0, .int .i64 1, .slice none 0 0]) ∧ Below w.heap.size w w' := by
 have BR : Hid (Bx (w.alloc (.cells #[.slice none 0 0, .slice none 0 0, .slice none 0 0, .int .i64 0, .int .i64 0, .slice none 0 0] 27)) w.heap.size [.slice none 0 0, .slice none 0 0, .slice none 0 0, .int .i64 0, .int .i64 0, .slice none 0 0]) := Bx.new w [.slice none 0 0, .slice none 0 0, .slice none 0 0, .int .i64 0, .int .i64 0, .slice none 0 0] 27
 have HB : Hid (Below w.heap.size w (w.alloc (.cells #[.slice none 0 0, .slice none 0 0, .slice none 0 0, .int .i64 0, .int .i64 0, .slice none 0 0] 27))) := (belowRefl w).alloc (Nat.le_refl _) _
 go_enter Try.func6, Try.ntmps6
 go_upto_region 1 with fail
 generalize (w.alloc (.cells #[.slice none 0 0, .slice none 0 0, .slice none 0 0, .int .i64 0, .int .i64 0, .slice none 0 0] 27)) = w0 at *
 go_wp2_with fail
 refine (bnew28 _).mono ?_
 rintro e w1 ⟨rfl, hb⟩
 replace BR : Hid (Bx w1 w.heap.size [.slice none 0 0, .slice none 0 0, .slice none 0 0, .int .i64 0, .int .i64 0, .slice none 0 0]) := BR.out.below hb
 replace HB : Hid (Below w.heap.size w w1) := HB.out.trans (hb.mono HB.out.size)
 clear hb
 have q0 := BR.out.c0
 have fq0 := BR.out.fz 0
 have q1 := BR.out.c1
 have fq1 := BR.out.fz 1
 have q2 := BR.out.c2
 have fq2 := BR.out.fz 2
 have q3 := BR.out.c3
 have fq3 := BR.out.fz 3
 have q4 := BR.out.c4
 have fq4 := BR.out.fz 4
 have q5 := BR.out.c5
 have fq5 := BR.out.fz 5
 go_wp2
 refine bodyPost_ret (v := .agg #[.slice none 0 0, .slice none 0 0, .slice none 0 0, .int .i64 0, .int .i64 1, .slice none 0 0]) (by simp [results, Try.results6, go_sem, q0, q1, q2, q3, q4, q5]) rfl ⟨rfl, ?_⟩
 exact (((((HB.out.setCell (p := ⟨w.heap.size, 0, none⟩) (Nat.le_refl _) _).setCell (p := ⟨w.heap.size, 1, none⟩) (Nat.le_refl _) _).setCell (p := ⟨w.heap.size, 2, none⟩) (Nat.le_refl _) _).setCell (p := ⟨w.heap.size, 3, none⟩) (Nat.le_refl _) _).setCell (p := ⟨w.heap.size, 4, none⟩) (Nat.le_refl _) _).setCell (p := ⟨w.heap.size, 5, none⟩) (Nat.le_refl _) _

set_option maxRecDepth 100000 in
set_option maxHeartbeats 2000000 in
theorem enewi (w : World) : Calls Try.prog 7 #[] w fun e w' => e = .returned (.agg #[.slice none 0 0, .slice none 0 0, .slice none 0 0, .int .i64 0, .int .i64 1, .slice none 0 0]) ∧ Below w.heap.size w w' := by
 have BR : Hid (Bx (w.alloc (.cells #[.slice none 0 0, .slice none 0 0, .slice none 0 0, .int .i64 0, .int .i64 0, .slice none 0 0] 27)) w.heap.size [.slice none 0 0, .slice none 0 0, .slice none 0 0, .int .i64 0, .int .i64 0, .slice none 0 0]) := Bx.new w [.slice none 0 0, .slice none 0 0, .slice none 0 0, .int .i64 0, .int .i64 0, .slice none 0 0] 27
 have HB : Hid (Below w.heap.size w (w.alloc (.cells #[.slice none 0 0, .slice none 0 0, .slice none 0 0, .int .i64 0, .int .i64 0, .slice none 0 0] 27))) := (belowRefl w).alloc (Nat.le_refl _) _
 go_enter Try.func7, Try.ntmps7
 go_upto_region 1 with fail
 generalize (w.alloc (.cells #[.slice none 0 0, .slice none 0 0, .slice none 0 0, .int .i64 0, .int .i64 0, .slice none 0 0] 27)) = w0 at *
 go_wp2_with fail
 refine (bnew29 _).mono ?_
 rintro e w1 ⟨rfl, hb⟩
 replace BR : Hid (Bx w1 w.heap.size [.slice none 0 0, .slice none 0 0, .slice none 0 0, .int .i64 0, .int .i64 0, .slice none 0 0]) := BR.out.below hb
 replace HB : Hid (Below w.heap.size w w1) := HB.out.trans (hb.mono HB.out.size)
 clear hb
 have q0 := BR.out.c0
 have fq0 := BR.out.fz 0
 have q1 := BR.out.c1
 have fq1 := BR.out.fz 1
 have q2 := BR.out.c2
 have fq2 := BR.out.fz 2
 have q3 := BR.out.c3
 have fq3 := BR.out.fz 3
 have q4 := BR.out.c4
 have fq4 := BR.out.fz 4
 have q5 := BR.out.c5
 have fq5 := BR.out.fz 5
 go_wp2
 refine bodyPost_ret (v := .agg #[.slice none 0 0, .slice none 0 0, .slice none 0 0, .int .i64 0, .int .i64 1, .slice none 0 0]) (by simp [results, Try.results7, go_sem, q0, q1, q2, q3, q4, q5]) rfl ⟨rfl, ?_⟩
 exact (((((HB.out.setCell (p := ⟨w.heap.size, 0, none⟩) (Nat.le_refl _) _).setCell (p := ⟨w.heap.size, 1, none⟩) (Nat.le_refl _) _).setCell (p := ⟨w.heap.size, 2, none⟩) (Nat.le_refl _) _).setCell (p := ⟨w.heap.size, 3, none⟩) (Nat.le_refl _) _).setCell (p := ⟨w.heap.size, 4, none⟩) (Nat.le_refl _) _).setCell (p := ⟨w.heap.size, 5, none⟩) (Nat.le_refl _) _

set_option maxRecDepth 100000 in
set_option maxHeartbeats 2000000 in
theorem markEN (w : World) : Calls Try.prog 9 #[.agg #[.slice none 0 0, .slice none 0 0, .slice none 0 0, .int .i64 0, .int .i64 1, .slice none 0 0], .int .i64 1] w fun e w' => e = .returned (.int .i64 1) ∧ Below w.heap.size w w' := by
 have BX0 : Hid (Bx (w.alloc (.cells #[.slice none 0 0, .slice none 0 0, .slice none 0 0, .int .i64 0, .int .i64 1, .slice none 0 0] 27)) w.heap.size [.slice none 0 0, .slice none 0 0, .slice none 0 0, .int .i64 0, .int .i64 1, .slice none 0 0]) := Bx.new w [.slice none 0 0, .slice none 0 0, .slice none 0 0, .int .i64 0, .int .i64 1, .slice none 0 0] 27
 have HB0 : Hid (Below w.heap.size w (w.alloc (.cells #[.slice none 0 0, .slice none 0 0, .slice none 0 0, .int .i64 0, .int .i64 1, .slice none 0 0] 27))) := (belowRefl w).alloc (Nat.le_refl _) _
 go_enter Try.func9, Try.ntmps9
 go_wp2_with fail
 refine (mark31 _).mono ?_
 rintro e w1 ⟨rfl, hb⟩
 have BX1 : Hid (Bx w1 w.heap.size [.slice none 0 0, .slice none 0 0, .slice none 0 0, .int .i64 0, .int .i64 1, .slice none 0 0]) := BX0.out.below hb
 have HB1 : Hid (Below w.heap.size w w1) := HB0.out.trans (hb.mono HB0.out.size)
 clear hb BX0 HB0
 have x5 := BX1.out.c5
 go_wp2_with fail
 refine (nil62 1 _).mono ?_
 rintro e w2 ⟨rfl, rfl⟩
 go_wp2
 go_ret
 exact ⟨rfl, HB1.out⟩

set_option maxRecDepth 100000 in
set_option maxHeartbeats 2000000 in
theorem heldEN (w : World) : Calls Try.prog 10 #[.agg #[.slice none 0 0, .slice none 0 0, .slice none 0 0, .int .i64 0, .int .i64 1, .slice none 0 0], .int .i64 1] w fun e w' => e = .returned (.int .i64 1) ∧ Below w.heap.size w w' := by
 have BX0 : Hid (Bx (w.alloc (.cells #[.slice none 0 0, .slice none 0 0, .slice none 0 0, .int .i64 0, .int .i64 1, .slice none 0 0] 27)) w.heap.size [.slice none 0 0, .slice none 0 0, .slice none 0 0, .int .i64 0, .int .i64 1, .slice none 0 0]) := Bx.new w [.slice none 0 0, .slice none 0 0, .slice none 0 0, .int .i64 0, .int .i64 1, .slice none 0 0] 27
 have HB0 : Hid (Below w.heap.size w (w.alloc (.cells #[.slice none 0 0, .slice none 0 0, .slice none 0 0, .int .i64 0, .int .i64 1, .slice none 0 0] 27))) := (belowRefl w).alloc (Nat.le_refl _) _
 go_enter Try.func10, Try.ntmps10
 go_wp2_with fail
 refine (held32 _).mono ?_
 rintro e w1 ⟨rfl, hb⟩
 have BX1 : Hid (Bx w1 w.heap.size [.slice none 0 0, .slice none 0 0, .slice none 0 0, .int .i64 0, .int .i64 1, .slice none 0 0]) := BX0.out.below hb
 have HB1 : Hid (Below w.heap.size w w1) := HB0.out.trans (hb.mono HB0.out.size)
 clear hb BX0 HB0
 have x5 := BX1.out.c5
 go_wp2_with fail
 refine (nil64 1 _).mono ?_
 rintro e w2 ⟨rfl, rfl⟩
 go_wp2
 go_ret
 exact ⟨rfl, HB1.out⟩

def noEn : En := ⟨noBb, [], none, 0⟩
theorem eqEN (w : World) : Calls Try.prog 8 #[.agg #[.slice none 0 0, .slice none 0 0, .slice none 0 0, .int .i64 0, .int .i64 1, .slice none 0 0], .agg #[.slice none 0 0, .slice none 0 0, .slice none 0 0, .int .i64 0, .int .i64 1, .slice none 0 0]] w fun e w' => e = .returned (.bool true) ∧ Below w.heap.size w w' := by
 have f : BFit noBb := ⟨Nat.zero_le _, fun _ h => (by cases h), ⟨Nat.zero_le _, fun _ h => (by cases h)⟩, ⟨Nat.zero_le _, fun _ h => (by cases h)⟩⟩
 have g : EnFit noEn := ⟨f, ⟨Nat.zero_le _, fun _ h => (by cases h)⟩⟩
 have r : TRows w none ([] : List Ta) := ⟨fun h => absurd h (by simp), fun _ h => (by cases h)⟩
 have rb : BRows w noBb := ⟨fun h => absurd h (by simp [noBb]), r, r⟩
 exact eqE noEn noEn ⟨⟨rfl, rfl, rfl, rfl, rfl⟩, rfl⟩ g w ⟨rb, r⟩ ⟨rb, r⟩

set_option maxRecDepth 100000 in
set_option maxHeartbeats 2000000 in
theorem law3 (w : World) : Calls Try.prog 3 #[] w fun e w' => e = .returned (.bool true) ∧ Below w.heap.size w w' := by
 have HB : Hid (Below w.heap.size w w) := belowRefl w
 go_enter Try.func3, Try.ntmps3
 go_wp2_with fail
 refine (enews _).mono ?_
 rintro e w1 ⟨rfl, hb⟩
 replace HB : Hid (Below w.heap.size w w1) := HB.out.trans (hb.mono HB.out.size)
 clear hb
 go_upto_region 2 with fail
 have hba : Below w1.heap.size w1 (w1.alloc (.cells #[.slice none 0 0, .slice none 0 0, .slice none 0 0, .int .i64 0, .int .i64 1, .slice none 0 0] 27)) := (belowRefl w1).alloc (Nat.le_refl _) _
 replace HB : Hid (Below w.heap.size w (w1.alloc (.cells #[.slice none 0 0, .slice none 0 0, .slice none 0 0, .int .i64 0, .int .i64 1, .slice none 0 0] 27))) := HB.out.trans (hba.mono HB.out.size)
 have BX : Hid (Bx (w1.alloc (.cells #[.slice none 0 0, .slice none 0 0, .slice none 0 0, .int .i64 0, .int .i64 1, .slice none 0 0] 27)) w1.heap.size [.slice none 0 0, .slice none 0 0, .slice none 0 0, .int .i64 0, .int .i64 1, .slice none 0 0]) := Bx.new w1 [.slice none 0 0, .slice none 0 0, .slice none 0 0, .int .i64 0, .int .i64 1, .slice none 0 0] 27
 clear hba
 generalize (w1.alloc (.cells #[.slice none 0 0, .slice none 0 0, .slice none 0 0, .int .i64 0, .int .i64 1, .slice none 0 0] 27)) = v1 at *
 go_wp2_with fail
 refine (enewi _).mono ?_
 rintro e w2 ⟨rfl, hb⟩
 replace BX : Hid (Bx w2 w1.heap.size [.slice none 0 0, .slice none 0 0, .slice none 0 0, .int .i64 0, .int .i64 1, .slice none 0 0]) := BX.out.below hb
 replace HB : Hid (Below w.heap.size w w2) := HB.out.trans (hb.mono HB.out.size)
 clear hb
 go_upto_region 3 with fail
 have hba : Below w2.heap.size w2 (w2.alloc (.cells #[.slice none 0 0, .slice none 0 0, .slice none 0 0, .int .i64 0, .int .i64 1, .slice none 0 0] 27)) := (belowRefl w2).alloc (Nat.le_refl _) _
 replace BX : Hid (Bx (w2.alloc (.cells #[.slice none 0 0, .slice none 0 0, .slice none 0 0, .int .i64 0, .int .i64 1, .slice none 0 0] 27)) w1.heap.size [.slice none 0 0, .slice none 0 0, .slice none 0 0, .int .i64 0, .int .i64 1, .slice none 0 0]) := BX.out.below hba
 replace HB : Hid (Below w.heap.size w (w2.alloc (.cells #[.slice none 0 0, .slice none 0 0, .slice none 0 0, .int .i64 0, .int .i64 1, .slice none 0 0] 27))) := HB.out.trans (hba.mono HB.out.size)
 have BY : Hid (Bx (w2.alloc (.cells #[.slice none 0 0, .slice none 0 0, .slice none 0 0, .int .i64 0, .int .i64 1, .slice none 0 0] 27)) w2.heap.size [.slice none 0 0, .slice none 0 0, .slice none 0 0, .int .i64 0, .int .i64 1, .slice none 0 0]) := Bx.new w2 [.slice none 0 0, .slice none 0 0, .slice none 0 0, .int .i64 0, .int .i64 1, .slice none 0 0] 27
 clear hba
 generalize (w2.alloc (.cells #[.slice none 0 0, .slice none 0 0, .slice none 0 0, .int .i64 0, .int .i64 1, .slice none 0 0] 27)) = v2 at *
 have x0 := BX.out.c0
 have x1 := BX.out.c1
 have x2 := BX.out.c2
 have x3 := BX.out.c3
 have x4 := BX.out.c4
 have x5 := BX.out.c5
 have y0 := BY.out.c0
 have y1 := BY.out.c1
 have y2 := BY.out.c2
 have y3 := BY.out.c3
 have y4 := BY.out.c4
 have y5 := BY.out.c5
 go_wp2_with fail
 refine (eqEN _).mono ?_
 rintro e w3 ⟨rfl, hb⟩
 replace BX : Hid (Bx w3 w1.heap.size [.slice none 0 0, .slice none 0 0, .slice none 0 0, .int .i64 0, .int .i64 1, .slice none 0 0]) := BX.out.below hb
 replace BY : Hid (Bx w3 w2.heap.size [.slice none 0 0, .slice none 0 0, .slice none 0 0, .int .i64 0, .int .i64 1, .slice none 0 0]) := BY.out.below hb
 replace HB : Hid (Below w.heap.size w w3) := HB.out.trans (hb.mono HB.out.size)
 clear hb
 clear x0 x1 x2 x3 x4 x5
 clear y0 y1 y2 y3 y4 y5
 have y0 := BY.out.c0
 have y1 := BY.out.c1
 have y2 := BY.out.c2
 have y3 := BY.out.c3
 have y4 := BY.out.c4
 have y5 := BY.out.c5
 go_wp2_with fail
 refine (markEN _).mono ?_
 rintro e w4 ⟨rfl, hb⟩
 replace BX : Hid (Bx w4 w1.heap.size [.slice none 0 0, .slice none 0 0, .slice none 0 0, .int .i64 0, .int .i64 1, .slice none 0 0]) := BX.out.below hb
 replace BY : Hid (Bx w4 w2.heap.size [.slice none 0 0, .slice none 0 0, .slice none 0 0, .int .i64 0, .int .i64 1, .slice none 0 0]) := BY.out.below hb
 replace HB : Hid (Below w.heap.size w w4) := HB.out.trans (hb.mono HB.out.size)
 clear hb
 clear y0 y1 y2 y3 y4 y5
 have y0 := BY.out.c0
 have y1 := BY.out.c1
 have y2 := BY.out.c2
 have y3 := BY.out.c3
 have y4 := BY.out.c4
 have y5 := BY.out.c5
 go_wp2_with fail
 refine (heldEN _).mono ?_
 rintro e w5 ⟨rfl, hb⟩
 replace BX : Hid (Bx w5 w1.heap.size [.slice none 0 0, .slice none 0 0, .slice none 0 0, .int .i64 0, .int .i64 1, .slice none 0 0]) := BX.out.below hb
 replace BY : Hid (Bx w5 w2.heap.size [.slice none 0 0, .slice none 0 0, .slice none 0 0, .int .i64 0, .int .i64 1, .slice none 0 0]) := BY.out.below hb
 replace HB : Hid (Below w.heap.size w w5) := HB.out.trans (hb.mono HB.out.size)
 clear hb
 clear y0 y1 y2 y3 y4 y5
 go_wp2_with fail
 refine (enewi _).mono ?_
 rintro e w6 ⟨rfl, hb⟩
 replace BX : Hid (Bx w6 w1.heap.size [.slice none 0 0, .slice none 0 0, .slice none 0 0, .int .i64 0, .int .i64 1, .slice none 0 0]) := BX.out.below hb
 replace BY : Hid (Bx w6 w2.heap.size [.slice none 0 0, .slice none 0 0, .slice none 0 0, .int .i64 0, .int .i64 1, .slice none 0 0]) := BY.out.below hb
 replace HB : Hid (Below w.heap.size w w6) := HB.out.trans (hb.mono HB.out.size)
 clear hb
 go_upto_region 14 with fail
 have hba : Below w6.heap.size w6 (w6.alloc (.cells #[.slice none 0 0, .slice none 0 0, .slice none 0 0, .int .i64 0, .int .i64 1, .slice none 0 0] 27)) := (belowRefl w6).alloc (Nat.le_refl _) _
 replace BX : Hid (Bx (w6.alloc (.cells #[.slice none 0 0, .slice none 0 0, .slice none 0 0, .int .i64 0, .int .i64 1, .slice none 0 0] 27)) w1.heap.size [.slice none 0 0, .slice none 0 0, .slice none 0 0, .int .i64 0, .int .i64 1, .slice none 0 0]) := BX.out.below hba
 replace BY : Hid (Bx (w6.alloc (.cells #[.slice none 0 0, .slice none 0 0, .slice none 0 0, .int .i64 0, .int .i64 1, .slice none 0 0] 27)) w2.heap.size [.slice none 0 0, .slice none 0 0, .slice none 0 0, .int .i64 0, .int .i64 1, .slice none 0 0]) := BY.out.below hba
 replace HB : Hid (Below w.heap.size w (w6.alloc (.cells #[.slice none 0 0, .slice none 0 0, .slice none 0 0, .int .i64 0, .int .i64 1, .slice none 0 0] 27))) := HB.out.trans (hba.mono HB.out.size)
 have BZ : Hid (Bx (w6.alloc (.cells #[.slice none 0 0, .slice none 0 0, .slice none 0 0, .int .i64 0, .int .i64 1, .slice none 0 0] 27)) w6.heap.size [.slice none 0 0, .slice none 0 0, .slice none 0 0, .int .i64 0, .int .i64 1, .slice none 0 0]) := Bx.new w6 [.slice none 0 0, .slice none 0 0, .slice none 0 0, .int .i64 0, .int .i64 1, .slice none 0 0] 27
 clear hba
 generalize (w6.alloc (.cells #[.slice none 0 0, .slice none 0 0, .slice none 0 0, .int .i64 0, .int .i64 1, .slice none 0 0] 27)) = v6 at *
 have x0 := BX.out.c0
 have x1 := BX.out.c1
 have x2 := BX.out.c2
 have x3 := BX.out.c3
 have x4 := BX.out.c4
 have x5 := BX.out.c5
 have z0 := BZ.out.c0
 have z1 := BZ.out.c1
 have z2 := BZ.out.c2
 have z3 := BZ.out.c3
 have z4 := BZ.out.c4
 have z5 := BZ.out.c5
 go_wp2_with fail
 refine (eqEN _).mono ?_
 rintro e w7 ⟨rfl, hb⟩
 replace BX : Hid (Bx w7 w1.heap.size [.slice none 0 0, .slice none 0 0, .slice none 0 0, .int .i64 0, .int .i64 1, .slice none 0 0]) := BX.out.below hb
 replace BY : Hid (Bx w7 w2.heap.size [.slice none 0 0, .slice none 0 0, .slice none 0 0, .int .i64 0, .int .i64 1, .slice none 0 0]) := BY.out.below hb
 replace BZ : Hid (Bx w7 w6.heap.size [.slice none 0 0, .slice none 0 0, .slice none 0 0, .int .i64 0, .int .i64 1, .slice none 0 0]) := BZ.out.below hb
 replace HB : Hid (Below w.heap.size w w7) := HB.out.trans (hb.mono HB.out.size)
 clear hb
 clear x0 x1 x2 x3 x4 x5
 clear z0 z1 z2 z3 z4 z5
 have y0 := BY.out.c0
 have y1 := BY.out.c1
 have y2 := BY.out.c2
 have y3 := BY.out.c3
 have y4 := BY.out.c4
 have y5 := BY.out.c5
 go_wp2_with fail
 refine (heldEN _).mono ?_
 rintro e w8 ⟨rfl, hb⟩
 replace BX : Hid (Bx w8 w1.heap.size [.slice none 0 0, .slice none 0 0, .slice none 0 0, .int .i64 0, .int .i64 1, .slice none 0 0]) := BX.out.below hb
 replace BY : Hid (Bx w8 w2.heap.size [.slice none 0 0, .slice none 0 0, .slice none 0 0, .int .i64 0, .int .i64 1, .slice none 0 0]) := BY.out.below hb
 replace BZ : Hid (Bx w8 w6.heap.size [.slice none 0 0, .slice none 0 0, .slice none 0 0, .int .i64 0, .int .i64 1, .slice none 0 0]) := BZ.out.below hb
 replace HB : Hid (Below w.heap.size w w8) := HB.out.trans (hb.mono HB.out.size)
 clear hb
 clear y0 y1 y2 y3 y4 y5
 go_wp2
 go_ret
 exact ⟨rfl, HB.out⟩

end Go.Proofs.Ytjeicgibddfifaa

namespace Go.Proofs.Ytjeicgibddfifaa
open Go.ChangeShapes Go.WideShapes Go.ChangeAt Go.RowKit Go.Deep
open KM

theorem ownT : ownKnob Try.prog.godebug = none := by kernel_rfl

section
variable {H : Type} {enc : TypeId × Value → H} {W : World} {base : Nat}

end
end Go.Proofs.Ytjeicgibddfifaa
