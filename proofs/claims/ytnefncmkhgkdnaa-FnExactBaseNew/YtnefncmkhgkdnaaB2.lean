/- What stays: BaseNew of both sides, marks of nothing, and the law FnExactBaseNew, walked. -/
import Derived.Test.YtnefncmkhgkdnaaB1
import Derived.Deep.RegionHeld3
import Derived.Deep.Cut
import Derived.Deep.CutRange
namespace Go.Proofs.Ytnefncmkhgkdnaa
open Go.RowKit
open KM
attribute [local go_sem ↓] Go.wp_at_zero Go.wp_at_succ

set_option maxRecDepth 100000 in
set_option maxHeartbeats 2000000 in
theorem nil61 (k : Int) (w : World) : Calls Try.prog 61 #[.slice none 0 0, .int .i64 k] w fun e w' => e = .returned (.int .i64 k) ∧ w' = w := by
  go_enter Try.func61, Try.ntmps61
  go_wp2
  go_loopw [1, 5] (fun q t wr => q = .int .i64 k ∧ t = .int .i64 0 ∧ w = wr) (fun _ _ _ => 0)
  case atStart => exact ⟨rfl, rfl, rfl⟩
  case round =>
    obtain ⟨rfl, rfl, rfl⟩ := hrel
    go_wp2
    go_ret
    exact ⟨rfl, rfl⟩

set_option maxRecDepth 100000 in
set_option maxHeartbeats 2000000 in
theorem nil62 (k : Int) (w : World) : Calls Try.prog 62 #[.slice none 0 0, .int .i64 k] w fun e w' => e = .returned (.int .i64 k) ∧ w' = w := by
  go_enter Try.func62, Try.ntmps62
  go_wp2
  go_loopw [1, 5] (fun q t wr => q = .int .i64 k ∧ t = .int .i64 0 ∧ w = wr) (fun _ _ _ => 0)
  case atStart => exact ⟨rfl, rfl, rfl⟩
  case round =>
    obtain ⟨rfl, rfl, rfl⟩ := hrel
    go_wp2
    go_ret
    exact ⟨rfl, rfl⟩

set_option maxRecDepth 100000 in
set_option maxHeartbeats 2000000 in
theorem nil63 (k : Int) (w : World) : Calls Try.prog 63 #[.slice none 0 0, .int .i64 k] w fun e w' => e = .returned (.int .i64 k) ∧ w' = w := by
  go_enter Try.func63, Try.ntmps63
  go_wp2
  go_loopw [1, 5] (fun q t wr => q = .int .i64 k ∧ t = .int .i64 0 ∧ w = wr) (fun _ _ _ => 0)
  case atStart => exact ⟨rfl, rfl, rfl⟩
  case round =>
    obtain ⟨rfl, rfl, rfl⟩ := hrel
    go_wp2
    go_ret
    exact ⟨rfl, rfl⟩

set_option maxRecDepth 100000 in
set_option maxHeartbeats 2000000 in
theorem nil64 (k : Int) (w : World) : Calls Try.prog 64 #[.slice none 0 0, .int .i64 k] w fun e w' => e = .returned (.int .i64 k) ∧ w' = w := by
  go_enter Try.func64, Try.ntmps64
  go_wp2
  go_loopw [1, 5] (fun q t wr => q = .int .i64 k ∧ t = .int .i64 0 ∧ w = wr) (fun _ _ _ => 0)
  case atStart => exact ⟨rfl, rfl, rfl⟩
  case round =>
    obtain ⟨rfl, rfl, rfl⟩ := hrel
    go_wp2
    go_ret
    exact ⟨rfl, rfl⟩

set_option maxRecDepth 100000 in
set_option maxHeartbeats 2000000 in
theorem bnew28 (w : World) : Calls Try.prog 28 #[] w fun e w' => e = .returned (.agg #[.slice none 0 0, .slice none 0 0, .slice none 0 0, .int .i64 0, .int .i64 1]) ∧ Below w.heap.size w w' := by
  go_enter Try.func28, Try.ntmps28
  go_wp2
  refine bodyPost_ret (v := .agg #[.slice none 0 0, .slice none 0 0, .slice none 0 0, .int .i64 0, .int .i64 1]) (by simp [results, Try.results28, go_sem]) rfl ⟨rfl, ?_⟩
  exact (belowRefl w).alloc (Nat.le_refl _) _

set_option maxRecDepth 100000 in
set_option maxHeartbeats 2000000 in
theorem bnew29 (w : World) : Calls Try.prog 29 #[] w fun e w' => e = .returned (.agg #[.slice none 0 0, .slice none 0 0, .slice none 0 0, .int .i64 0, .int .i64 1]) ∧ Below w.heap.size w w' := by
  go_enter Try.func29, Try.ntmps29
  go_wp2
  refine bodyPost_ret (v := .agg #[.slice none 0 0, .slice none 0 0, .slice none 0 0, .int .i64 0, .int .i64 1]) (by simp [results, Try.results29, go_sem]) rfl ⟨rfl, ?_⟩
  exact (belowRefl w).alloc (Nat.le_refl _) _

set_option maxRecDepth 100000 in
set_option maxHeartbeats 2000000 in
theorem mark31 (w : World) : Calls Try.prog 31 #[.agg #[.slice none 0 0, .slice none 0 0, .slice none 0 0, .int .i64 0, .int .i64 1], .int .i64 1] w fun e w' => e = .returned (.int .i64 1) ∧ Below w.heap.size w w' := by
  have C1 : Hid (∀ W, _) := fun W => nil61 1 W
  have C2 : Hid (∀ W, _) := fun W => nil62 1 W
  have HB0 : Hid (Below w.heap.size w (w.alloc (.cells #[.slice none 0 0, .slice none 0 0, .slice none 0 0, .int .i64 0, .int .i64 1] 46))) := (belowRefl w).alloc (Nat.le_refl _) _
  go_enter Try.func31, Try.ntmps31
  go_wp2_with fail
  refine (C1.out _).mono ?_
  rintro e w1 ⟨rfl, rfl⟩
  go_wp2_with fail
  refine (C2.out _).mono ?_
  rintro e w1 ⟨rfl, rfl⟩
  go_wp2_with fail
  refine (C2.out _).mono ?_
  rintro e w1 ⟨rfl, rfl⟩
  go_wp2
  go_ret
  exact ⟨rfl, HB0.out⟩

set_option maxRecDepth 100000 in
set_option maxHeartbeats 2000000 in
theorem held32 (w : World) : Calls Try.prog 32 #[.agg #[.slice none 0 0, .slice none 0 0, .slice none 0 0, .int .i64 0, .int .i64 1], .int .i64 1] w fun e w' => e = .returned (.int .i64 1) ∧ Below w.heap.size w w' := by
  have C1 : Hid (∀ W, _) := fun W => nil63 1 W
  have C2 : Hid (∀ W, _) := fun W => nil64 1 W
  have HB0 : Hid (Below w.heap.size w (w.alloc (.cells #[.slice none 0 0, .slice none 0 0, .slice none 0 0, .int .i64 0, .int .i64 1] 46))) := (belowRefl w).alloc (Nat.le_refl _) _
  go_enter Try.func32, Try.ntmps32
  go_wp2_with fail
  refine (C1.out _).mono ?_
  rintro e w1 ⟨rfl, rfl⟩
  go_wp2_with fail
  refine (C2.out _).mono ?_
  rintro e w1 ⟨rfl, rfl⟩
  go_wp2_with fail
  refine (C2.out _).mono ?_
  rintro e w1 ⟨rfl, rfl⟩
  go_wp2
  go_ret
  exact ⟨rfl, HB0.out⟩

def noBb : Bb := ⟨[], [], [], 0, 1, none, 0, none, 0, none, 0⟩
theorem eqNo (w : World) : Calls Try.prog 30 #[.agg #[.slice none 0 0, .slice none 0 0, .slice none 0 0, .int .i64 0, .int .i64 1], .agg #[.slice none 0 0, .slice none 0 0, .slice none 0 0, .int .i64 0, .int .i64 1]] w fun e w' => e = .returned (.bool true) ∧ Below w.heap.size w w' := by
  have f : BFit noBb := ⟨Nat.zero_le _, fun _ h => (by cases h), ⟨Nat.zero_le _, fun _ h => (by cases h)⟩, ⟨Nat.zero_le _, fun _ h => (by cases h)⟩⟩
  have r : BRows w noBb := ⟨GRow.nil _ _, ⟨GRow.nil _ _, fun _ h => (by cases h)⟩, ⟨GRow.nil _ _, fun _ h => (by cases h)⟩⟩
  exact eqB noBb noBb ⟨rfl, rfl, rfl, rfl, rfl⟩ f w r r

set_option maxRecDepth 100000 in
set_option maxHeartbeats 2000000 in
theorem law6 (w : World) : Calls Try.prog 6 #[] w fun e w' => e = .returned (.bool true) ∧ Below w.heap.size w w' := by
  have HB0 : Hid (Below w.heap.size w w) := belowRefl w
  go_enter Try.func6, Try.ntmps6
  go_wp2_with fail
  refine (bnew28 _).mono ?_
  rintro e w1 ⟨rfl, hb1⟩
  have HB1 : Hid (Below w.heap.size w w1) := HB0.out.trans (hb1.mono HB0.out.size)
  clear hb1 HB0
  go_upto_region 2 with fail
  have hba : Below w1.heap.size w1 (w1.alloc (.cells #[.slice none 0 0, .slice none 0 0, .slice none 0 0, .int .i64 0, .int .i64 1] 46)) := (belowRefl w1).alloc (Nat.le_refl _) _
  have HB1b : Hid (Below w.heap.size w (w1.alloc (.cells #[.slice none 0 0, .slice none 0 0, .slice none 0 0, .int .i64 0, .int .i64 1] 46))) := HB1.out.trans (hba.mono HB1.out.size)
  have BX1b : Hid (Bx (w1.alloc (.cells #[.slice none 0 0, .slice none 0 0, .slice none 0 0, .int .i64 0, .int .i64 1] 46)) w1.heap.size [.slice none 0 0, .slice none 0 0, .slice none 0 0, .int .i64 0, .int .i64 1]) := Bx.new w1 [.slice none 0 0, .slice none 0 0, .slice none 0 0, .int .i64 0, .int .i64 1] 46
  clear hba HB1
  generalize (w1.alloc (.cells #[.slice none 0 0, .slice none 0 0, .slice none 0 0, .int .i64 0, .int .i64 1] 46)) = w1b at *
  go_wp2_with fail
  refine (bnew29 _).mono ?_
  rintro e w2 ⟨rfl, hb2⟩
  have HB2 : Hid (Below w.heap.size w w2) := HB1b.out.trans (hb2.mono HB1b.out.size)
  have BX2 : Hid (Bx w2 w1.heap.size [.slice none 0 0, .slice none 0 0, .slice none 0 0, .int .i64 0, .int .i64 1]) := BX1b.out.below hb2
  clear hb2 HB1b BX1b
  go_upto_region 3 with fail
  have hba : Below w2.heap.size w2 (w2.alloc (.cells #[.slice none 0 0, .slice none 0 0, .slice none 0 0, .int .i64 0, .int .i64 1] 46)) := (belowRefl w2).alloc (Nat.le_refl _) _
  have HB2b : Hid (Below w.heap.size w (w2.alloc (.cells #[.slice none 0 0, .slice none 0 0, .slice none 0 0, .int .i64 0, .int .i64 1] 46))) := HB2.out.trans (hba.mono HB2.out.size)
  have BX2b : Hid (Bx (w2.alloc (.cells #[.slice none 0 0, .slice none 0 0, .slice none 0 0, .int .i64 0, .int .i64 1] 46)) w1.heap.size [.slice none 0 0, .slice none 0 0, .slice none 0 0, .int .i64 0, .int .i64 1]) := BX2.out.below hba
  have BY2b : Hid (Bx (w2.alloc (.cells #[.slice none 0 0, .slice none 0 0, .slice none 0 0, .int .i64 0, .int .i64 1] 46)) w2.heap.size [.slice none 0 0, .slice none 0 0, .slice none 0 0, .int .i64 0, .int .i64 1]) := Bx.new w2 [.slice none 0 0, .slice none 0 0, .slice none 0 0, .int .i64 0, .int .i64 1] 46
  clear hba HB2 BX2
  generalize (w2.alloc (.cells #[.slice none 0 0, .slice none 0 0, .slice none 0 0, .int .i64 0, .int .i64 1] 46)) = w2b at *
  have x0 := BX2b.out.c0
  have x1 := BX2b.out.c1
  have x2 := BX2b.out.c2
  have x3 := BX2b.out.c3
  have x4 := BX2b.out.c4
  have y0 := BY2b.out.c0
  have y1 := BY2b.out.c1
  have y2 := BY2b.out.c2
  have y3 := BY2b.out.c3
  have y4 := BY2b.out.c4
  go_wp2_with fail
  refine (eqNo _).mono ?_
  rintro e w3 ⟨rfl, hb3⟩
  have HB3 : Hid (Below w.heap.size w w3) := HB2b.out.trans (hb3.mono HB2b.out.size)
  have BX3 : Hid (Bx w3 w1.heap.size [.slice none 0 0, .slice none 0 0, .slice none 0 0, .int .i64 0, .int .i64 1]) := BX2b.out.below hb3
  have BY3 : Hid (Bx w3 w2.heap.size [.slice none 0 0, .slice none 0 0, .slice none 0 0, .int .i64 0, .int .i64 1]) := BY2b.out.below hb3
  clear hb3 HB2b BX2b BY2b
  clear x0 x1 x2 x3 x4
  clear y0 y1 y2 y3 y4
  have y0 := BY3.out.c0
  have y1 := BY3.out.c1
  have y2 := BY3.out.c2
  have y3 := BY3.out.c3
  have y4 := BY3.out.c4
  go_wp2_with fail
  refine (mark31 _).mono ?_
  rintro e w4 ⟨rfl, hb4⟩
  have HB4 : Hid (Below w.heap.size w w4) := HB3.out.trans (hb4.mono HB3.out.size)
  have BX4 : Hid (Bx w4 w1.heap.size [.slice none 0 0, .slice none 0 0, .slice none 0 0, .int .i64 0, .int .i64 1]) := BX3.out.below hb4
  have BY4 : Hid (Bx w4 w2.heap.size [.slice none 0 0, .slice none 0 0, .slice none 0 0, .int .i64 0, .int .i64 1]) := BY3.out.below hb4
  clear hb4 HB3 BX3 BY3
  clear y0 y1 y2 y3 y4
  have y0 := BY4.out.c0
  have y1 := BY4.out.c1
  have y2 := BY4.out.c2
  have y3 := BY4.out.c3
  have y4 := BY4.out.c4
  go_wp2_with fail
  refine (held32 _).mono ?_
  rintro e w5 ⟨rfl, hb5⟩
  have HB5 : Hid (Below w.heap.size w w5) := HB4.out.trans (hb5.mono HB4.out.size)
  have BX5 : Hid (Bx w5 w1.heap.size [.slice none 0 0, .slice none 0 0, .slice none 0 0, .int .i64 0, .int .i64 1]) := BX4.out.below hb5
  have BY5 : Hid (Bx w5 w2.heap.size [.slice none 0 0, .slice none 0 0, .slice none 0 0, .int .i64 0, .int .i64 1]) := BY4.out.below hb5
  clear hb5 HB4 BX4 BY4
  clear y0 y1 y2 y3 y4
  go_wp2_with fail
  refine (bnew29 _).mono ?_
  rintro e w6 ⟨rfl, hb6⟩
  have HB6 : Hid (Below w.heap.size w w6) := HB5.out.trans (hb6.mono HB5.out.size)
  have BX6 : Hid (Bx w6 w1.heap.size [.slice none 0 0, .slice none 0 0, .slice none 0 0, .int .i64 0, .int .i64 1]) := BX5.out.below hb6
  have BY6 : Hid (Bx w6 w2.heap.size [.slice none 0 0, .slice none 0 0, .slice none 0 0, .int .i64 0, .int .i64 1]) := BY5.out.below hb6
  clear hb6 HB5 BX5 BY5
  go_upto_region 14 with fail
  have hba : Below w6.heap.size w6 (w6.alloc (.cells #[.slice none 0 0, .slice none 0 0, .slice none 0 0, .int .i64 0, .int .i64 1] 46)) := (belowRefl w6).alloc (Nat.le_refl _) _
  have HB6b : Hid (Below w.heap.size w (w6.alloc (.cells #[.slice none 0 0, .slice none 0 0, .slice none 0 0, .int .i64 0, .int .i64 1] 46))) := HB6.out.trans (hba.mono HB6.out.size)
  have BX6b : Hid (Bx (w6.alloc (.cells #[.slice none 0 0, .slice none 0 0, .slice none 0 0, .int .i64 0, .int .i64 1] 46)) w1.heap.size [.slice none 0 0, .slice none 0 0, .slice none 0 0, .int .i64 0, .int .i64 1]) := BX6.out.below hba
  have BY6b : Hid (Bx (w6.alloc (.cells #[.slice none 0 0, .slice none 0 0, .slice none 0 0, .int .i64 0, .int .i64 1] 46)) w2.heap.size [.slice none 0 0, .slice none 0 0, .slice none 0 0, .int .i64 0, .int .i64 1]) := BY6.out.below hba
  have BZ6b : Hid (Bx (w6.alloc (.cells #[.slice none 0 0, .slice none 0 0, .slice none 0 0, .int .i64 0, .int .i64 1] 46)) w6.heap.size [.slice none 0 0, .slice none 0 0, .slice none 0 0, .int .i64 0, .int .i64 1]) := Bx.new w6 [.slice none 0 0, .slice none 0 0, .slice none 0 0, .int .i64 0, .int .i64 1] 46
  clear hba HB6 BX6 BY6
  generalize (w6.alloc (.cells #[.slice none 0 0, .slice none 0 0, .slice none 0 0, .int .i64 0, .int .i64 1] 46)) = w6b at *
  have x0 := BX6b.out.c0
  have x1 := BX6b.out.c1
  have x2 := BX6b.out.c2
  have x3 := BX6b.out.c3
  have x4 := BX6b.out.c4
  have z0 := BZ6b.out.c0
  have z1 := BZ6b.out.c1
  have z2 := BZ6b.out.c2
  have z3 := BZ6b.out.c3
  have z4 := BZ6b.out.c4
  go_wp2_with fail
  refine (eqNo _).mono ?_
  rintro e w7 ⟨rfl, hb7⟩
  have HB7 : Hid (Below w.heap.size w w7) := HB6b.out.trans (hb7.mono HB6b.out.size)
  have BX7 : Hid (Bx w7 w1.heap.size [.slice none 0 0, .slice none 0 0, .slice none 0 0, .int .i64 0, .int .i64 1]) := BX6b.out.below hb7
  have BY7 : Hid (Bx w7 w2.heap.size [.slice none 0 0, .slice none 0 0, .slice none 0 0, .int .i64 0, .int .i64 1]) := BY6b.out.below hb7
  have BZ7 : Hid (Bx w7 w6.heap.size [.slice none 0 0, .slice none 0 0, .slice none 0 0, .int .i64 0, .int .i64 1]) := BZ6b.out.below hb7
  clear hb7 HB6b BX6b BY6b BZ6b
  clear x0 x1 x2 x3 x4
  clear z0 z1 z2 z3 z4
  have y0 := BY7.out.c0
  have y1 := BY7.out.c1
  have y2 := BY7.out.c2
  have y3 := BY7.out.c3
  have y4 := BY7.out.c4
  go_wp2_with fail
  refine (held32 _).mono ?_
  rintro e w8 ⟨rfl, hb8⟩
  have HB8 : Hid (Below w.heap.size w w8) := HB7.out.trans (hb8.mono HB7.out.size)
  have BX8 : Hid (Bx w8 w1.heap.size [.slice none 0 0, .slice none 0 0, .slice none 0 0, .int .i64 0, .int .i64 1]) := BX7.out.below hb8
  have BY8 : Hid (Bx w8 w2.heap.size [.slice none 0 0, .slice none 0 0, .slice none 0 0, .int .i64 0, .int .i64 1]) := BY7.out.below hb8
  have BZ8 : Hid (Bx w8 w6.heap.size [.slice none 0 0, .slice none 0 0, .slice none 0 0, .int .i64 0, .int .i64 1]) := BZ7.out.below hb8
  clear hb8 HB7 BX7 BY7 BZ7
  clear y0 y1 y2 y3 y4
  go_wp2
  go_ret
  exact ⟨rfl, HB8.out⟩

end Go.Proofs.Ytnefncmkhgkdnaa
