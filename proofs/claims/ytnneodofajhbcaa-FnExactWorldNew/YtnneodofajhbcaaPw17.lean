/- WorldNew of both sides; worlds without lists, their likeness and marks. -/
import Derived.Test.YtnneodofajhbcaaPw16
import Derived.Deep.Cut
namespace Go.Proofs.Ytnneodofajhbcaa
open Go.RowKit
open KM
attribute [local go_sem ↓] Go.wp_at_zero Go.wp_at_succ

theorem Bx.at11 {w : World} {b : Nat} {x0 x1 x2 x3 x4 x5 x6 x7 x8 x9 x10 : Value} (h : Bx w b [x0, x1, x2, x3, x4, x5, x6, x7, x8, x9, x10]) : w.cell? ⟨b, 8, none⟩ = some x8 ∧ w.cell? ⟨b, 9, none⟩ = some x9 ∧ w.cell? ⟨b, 10, none⟩ = some x10 :=
  ⟨by simpa using h.at' 8 (by simp), by simpa using h.at' 9 (by simp), by simpa using h.at' 10 (by simp)⟩
set_option maxRecDepth 100000 in
set_option maxHeartbeats 4000000 in
theorem nk25 (k : Int) (w : World) : Calls Try.prog 25 #[.slice none 0 0, .int .i64 k] w fun e w' => e = .returned (.int .i64 k) ∧ w' = w := by
  go_enter Try.func25, Try.ntmps25
  go_wp2
  go_loopw [1, 5] (fun q t wr => q = .int .i64 k ∧ t = .int .i64 0 ∧ w = wr) (fun _ _ _ => 0)
  case atStart => exact ⟨rfl, rfl, rfl⟩
  case round =>
    obtain ⟨rfl, rfl, rfl⟩ := hrel
    go_wp2
    go_ret
    exact ⟨rfl, rfl⟩
set_option maxRecDepth 100000 in
set_option maxHeartbeats 4000000 in
theorem nk26 (k : Int) (w : World) : Calls Try.prog 26 #[.slice none 0 0, .int .i64 k] w fun e w' => e = .returned (.int .i64 k) ∧ w' = w := by
  go_enter Try.func26, Try.ntmps26
  go_wp2
  go_loopw [1, 5] (fun q t wr => q = .int .i64 k ∧ t = .int .i64 0 ∧ w = wr) (fun _ _ _ => 0)
  case atStart => exact ⟨rfl, rfl, rfl⟩
  case round =>
    obtain ⟨rfl, rfl, rfl⟩ := hrel
    go_wp2
    go_ret
    exact ⟨rfl, rfl⟩
set_option maxRecDepth 100000 in
set_option maxHeartbeats 4000000 in
theorem nk27 (k : Int) (w : World) : Calls Try.prog 27 #[.slice none 0 0, .int .i64 k] w fun e w' => e = .returned (.int .i64 k) ∧ w' = w := by
  go_enter Try.func27, Try.ntmps27
  go_wp2
  go_loopw [1, 5] (fun q t wr => q = .int .i64 k ∧ t = .int .i64 0 ∧ w = wr) (fun _ _ _ => 0)
  case atStart => exact ⟨rfl, rfl, rfl⟩
  case round =>
    obtain ⟨rfl, rfl, rfl⟩ := hrel
    go_wp2
    go_ret
    exact ⟨rfl, rfl⟩
set_option maxRecDepth 100000 in
set_option maxHeartbeats 4000000 in
theorem nk29 (k : Int) (w : World) : Calls Try.prog 29 #[.slice none 0 0, .int .i64 k] w fun e w' => e = .returned (.int .i64 k) ∧ w' = w := by
  go_enter Try.func29, Try.ntmps29
  go_wp2
  go_loopw [1, 5] (fun q t wr => q = .int .i64 k ∧ t = .int .i64 0 ∧ w = wr) (fun _ _ _ => 0)
  case atStart => exact ⟨rfl, rfl, rfl⟩
  case round =>
    obtain ⟨rfl, rfl, rfl⟩ := hrel
    go_wp2
    go_ret
    exact ⟨rfl, rfl⟩
set_option maxRecDepth 100000 in
set_option maxHeartbeats 4000000 in
theorem nk30 (k : Int) (w : World) : Calls Try.prog 30 #[.slice none 0 0, .int .i64 k] w fun e w' => e = .returned (.int .i64 k) ∧ w' = w := by
  go_enter Try.func30, Try.ntmps30
  go_wp2
  go_loopw [1, 5] (fun q t wr => q = .int .i64 k ∧ t = .int .i64 0 ∧ w = wr) (fun _ _ _ => 0)
  case atStart => exact ⟨rfl, rfl, rfl⟩
  case round =>
    obtain ⟨rfl, rfl, rfl⟩ := hrel
    go_wp2
    go_ret
    exact ⟨rfl, rfl⟩
set_option maxRecDepth 100000 in
set_option maxHeartbeats 4000000 in
theorem nk31 (k : Int) (w : World) : Calls Try.prog 31 #[.slice none 0 0, .int .i64 k] w fun e w' => e = .returned (.int .i64 k) ∧ w' = w := by
  go_enter Try.func31, Try.ntmps31
  go_wp2
  go_loopw [1, 5] (fun q t wr => q = .int .i64 k ∧ t = .int .i64 0 ∧ w = wr) (fun _ _ _ => 0)
  case atStart => exact ⟨rfl, rfl, rfl⟩
  case round =>
    obtain ⟨rfl, rfl, rfl⟩ := hrel
    go_wp2
    go_ret
    exact ⟨rfl, rfl⟩
set_option maxRecDepth 100000 in
set_option maxHeartbeats 4000000 in
theorem ne22 (w : World) : Calls Try.prog 22 #[.slice none 0 0, .slice none 0 0] w fun e w' => e = .returned (.bool true) ∧ w' = w := by
  go_enter Try.func22, Try.ntmps22
  go_wp2
  go_loopw [5] (fun t wr => t = .int .i64 0 ∧ w = wr) (fun _ _ => 0)
  case atStart => exact ⟨rfl, rfl⟩
  case round =>
    obtain ⟨rfl, rfl⟩ := hrel
    go_wp2
    go_ret
    exact ⟨rfl, rfl⟩
set_option maxRecDepth 100000 in
set_option maxHeartbeats 4000000 in
theorem ne18 (w : World) : Calls Try.prog 18 #[.slice none 0 0, .slice none 0 0] w fun e w' => e = .returned (.bool true) ∧ w' = w := by
  go_enter Try.func18, Try.ntmps18
  go_wp2
  go_loopw [5] (fun t wr => t = .int .i64 0 ∧ w = wr) (fun _ _ => 0)
  case atStart => exact ⟨rfl, rfl⟩
  case round =>
    obtain ⟨rfl, rfl⟩ := hrel
    go_wp2
    go_ret
    exact ⟨rfl, rfl⟩
set_option maxRecDepth 100000 in
set_option maxHeartbeats 4000000 in
theorem ne23 (w : World) : Calls Try.prog 23 #[.slice none 0 0, .slice none 0 0] w fun e w' => e = .returned (.bool true) ∧ w' = w := by
  go_enter Try.func23, Try.ntmps23
  go_wp2
  go_loopw [5] (fun t wr => t = .int .i64 0 ∧ w = wr) (fun _ _ => 0)
  case atStart => exact ⟨rfl, rfl⟩
  case round =>
    obtain ⟨rfl, rfl⟩ := hrel
    go_wp2
    go_ret
    exact ⟨rfl, rfl⟩
set_option maxRecDepth 100000 in
set_option maxHeartbeats 4000000 in
theorem snewW (w : World) : Calls Try.prog 10 #[] w fun e w' => ∃ s : St, e = .returned (.agg #[.slice s.e.b.va s.e.b.vs.length s.e.b.vc, .slice s.e.b.pa s.e.b.ps.length s.e.b.pc, .slice s.e.b.qa s.e.b.qs.length s.e.b.qc, .int .i64 s.e.b.cs, .int .i64 s.e.b.nx, .slice s.e.oa s.e.os.length s.e.oc, .slice s.d.sa s.d.ss.length s.d.sc, .slice s.d.pa s.d.ps.length s.d.pc, .slice none 0 0, .slice none 0 0, .slice none 0 0]) ∧ StSame nwSt s ∧ StLie w' w.heap.size w'.heap.size s ∧ Below w.heap.size w w' := by
  have HC := hide (fun W : World => snewS W)
  generalize nwSt = DD at *
  have BR : Hid (Bx (w.alloc (.cells #[.slice none 0 0, .slice none 0 0, .slice none 0 0, .int .i64 0, .int .i64 0, .slice none 0 0, .slice none 0 0, .slice none 0 0, .slice none 0 0, .slice none 0 0, .slice none 0 0] 44)) w.heap.size [.slice none 0 0, .slice none 0 0, .slice none 0 0, .int .i64 0, .int .i64 0, .slice none 0 0, .slice none 0 0, .slice none 0 0, .slice none 0 0, .slice none 0 0, .slice none 0 0]) := Bx.new w [.slice none 0 0, .slice none 0 0, .slice none 0 0, .int .i64 0, .int .i64 0, .slice none 0 0, .slice none 0 0, .slice none 0 0, .slice none 0 0, .slice none 0 0, .slice none 0 0] 44
  have HB : Hid (Below w.heap.size w (w.alloc (.cells #[.slice none 0 0, .slice none 0 0, .slice none 0 0, .int .i64 0, .int .i64 0, .slice none 0 0, .slice none 0 0, .slice none 0 0, .slice none 0 0, .slice none 0 0, .slice none 0 0] 44))) := (belowRefl w).alloc (Nat.le_refl _) _
  have HZ : Hid (w.heap.size + 1 ≤ (w.alloc (.cells #[.slice none 0 0, .slice none 0 0, .slice none 0 0, .int .i64 0, .int .i64 0, .slice none 0 0, .slice none 0 0, .slice none 0 0, .slice none 0 0, .slice none 0 0, .slice none 0 0] 44)).heap.size) := by show _ ≤ _; simp
  go_enter Try.func10, Try.ntmps10
  go_upto_region 1 with fail
  generalize (w.alloc (.cells #[.slice none 0 0, .slice none 0 0, .slice none 0 0, .int .i64 0, .int .i64 0, .slice none 0 0, .slice none 0 0, .slice none 0 0, .slice none 0 0, .slice none 0 0, .slice none 0 0] 44)) = w0 at *
  go_wp2_with fail
  refine (HC.out _).mono ?_
  rintro e w1 ⟨s, rfl, hs, hl, hb⟩
  have HS : Hid (StSame DD s) := hs
  have HL : Hid (StLie w1 (w.heap.size + 1) w1.heap.size s) := hl.mono HZ.out (Nat.le_refl _)
  replace BR : Hid (Bx w1 w.heap.size [.slice none 0 0, .slice none 0 0, .slice none 0 0, .int .i64 0, .int .i64 0, .slice none 0 0, .slice none 0 0, .slice none 0 0, .slice none 0 0, .slice none 0 0, .slice none 0 0]) := BR.out.below hb
  replace HB : Hid (Below w.heap.size w w1) := HB.out.trans (hb.mono HB.out.size)
  clear hs hl hb HC HZ
  have q0 := BR.out.c0
  have fq0 := BR.out.fz 0
  have q1 := BR.out.c1
  have fq1 := BR.out.fz 1
  have q2 := BR.out.c2
  have fq2 := BR.out.fz 2
  have q3 := BR.out.c3
  have fq3 := BR.out.fz 3
  have q4 := BR.out.c4
  have fq4 := BR.out.fz 4
  have q5 := BR.out.c5
  have fq5 := BR.out.fz 5
  have q6 := BR.out.c6
  have fq6 := BR.out.fz 6
  have q7 := BR.out.c7
  have fq7 := BR.out.fz 7
  obtain ⟨q8, q9, q10⟩ := BR.out.at11
  have fq8 := BR.out.fz 8
  have fq9 := BR.out.fz 9
  have fq10 := BR.out.fz 10
  go_wp2
  refine bodyPost_ret (v := .agg #[.slice s.e.b.va s.e.b.vs.length s.e.b.vc, .slice s.e.b.pa s.e.b.ps.length s.e.b.pc, .slice s.e.b.qa s.e.b.qs.length s.e.b.qc, .int .i64 s.e.b.cs, .int .i64 s.e.b.nx, .slice s.e.oa s.e.os.length s.e.oc, .slice s.d.sa s.d.ss.length s.d.sc, .slice s.d.pa s.d.ps.length s.d.pc, .slice none 0 0, .slice none 0 0, .slice none 0 0]) (by simp [results, Try.results10, go_sem, q0, q1, q2, q3, q4, q5, q6, q7, q8, q9, q10]) rfl ⟨s, rfl, HS.out, ?_, ?_⟩
  · exact ((((((((((((HL.out.set (a := ⟨w.heap.size, 0, none⟩) (by show w.heap.size < w.heap.size + 1; omega) _).set (a := ⟨w.heap.size, 1, none⟩) (by show w.heap.size < w.heap.size + 1; omega) _).set (a := ⟨w.heap.size, 2, none⟩) (by show w.heap.size < w.heap.size + 1; omega) _).set (a := ⟨w.heap.size, 3, none⟩) (by show w.heap.size < w.heap.size + 1; omega) _).set (a := ⟨w.heap.size, 4, none⟩) (by show w.heap.size < w.heap.size + 1; omega) _).set (a := ⟨w.heap.size, 5, none⟩) (by show w.heap.size < w.heap.size + 1; omega) _).set (a := ⟨w.heap.size, 6, none⟩) (by show w.heap.size < w.heap.size + 1; omega) _).set (a := ⟨w.heap.size, 7, none⟩) (by show w.heap.size < w.heap.size + 1; omega) _).set (a := ⟨w.heap.size, 8, none⟩) (by show w.heap.size < w.heap.size + 1; omega) _).set (a := ⟨w.heap.size, 9, none⟩) (by show w.heap.size < w.heap.size + 1; omega) _).set (a := ⟨w.heap.size, 10, none⟩) (by show w.heap.size < w.heap.size + 1; omega) _).mono (Nat.le_succ _) (by simp [World.setCell]))
  · exact ((((((((((HB.out.setCell (p := ⟨w.heap.size, 0, none⟩) (Nat.le_refl _) _).setCell (p := ⟨w.heap.size, 1, none⟩) (Nat.le_refl _) _).setCell (p := ⟨w.heap.size, 2, none⟩) (Nat.le_refl _) _).setCell (p := ⟨w.heap.size, 3, none⟩) (Nat.le_refl _) _).setCell (p := ⟨w.heap.size, 4, none⟩) (Nat.le_refl _) _).setCell (p := ⟨w.heap.size, 5, none⟩) (Nat.le_refl _) _).setCell (p := ⟨w.heap.size, 6, none⟩) (Nat.le_refl _) _).setCell (p := ⟨w.heap.size, 7, none⟩) (Nat.le_refl _) _).setCell (p := ⟨w.heap.size, 8, none⟩) (Nat.le_refl _) _).setCell (p := ⟨w.heap.size, 9, none⟩) (Nat.le_refl _) _).setCell (p := ⟨w.heap.size, 10, none⟩) (Nat.le_refl _) _

set_option maxRecDepth 100000 in
set_option maxHeartbeats 4000000 in
theorem inewW (w : World) : Calls Try.prog 11 #[] w fun e w' => ∃ s : St, e = .returned (.agg #[.slice s.e.b.va s.e.b.vs.length s.e.b.vc, .slice s.e.b.pa s.e.b.ps.length s.e.b.pc, .slice s.e.b.qa s.e.b.qs.length s.e.b.qc, .int .i64 s.e.b.cs, .int .i64 s.e.b.nx, .slice s.e.oa s.e.os.length s.e.oc, .slice s.d.sa s.d.ss.length s.d.sc, .slice s.d.pa s.d.ps.length s.d.pc, .slice none 0 0, .slice none 0 0, .slice none 0 0]) ∧ StSame nwSt s ∧ StLie w' w.heap.size w'.heap.size s ∧ Below w.heap.size w w' := by
  have HC := hide (fun W : World => inewS W)
  generalize nwSt = DD at *
  have BR : Hid (Bx (w.alloc (.cells #[.slice none 0 0, .slice none 0 0, .slice none 0 0, .int .i64 0, .int .i64 0, .slice none 0 0, .slice none 0 0, .slice none 0 0, .slice none 0 0, .slice none 0 0, .slice none 0 0] 44)) w.heap.size [.slice none 0 0, .slice none 0 0, .slice none 0 0, .int .i64 0, .int .i64 0, .slice none 0 0, .slice none 0 0, .slice none 0 0, .slice none 0 0, .slice none 0 0, .slice none 0 0]) := Bx.new w [.slice none 0 0, .slice none 0 0, .slice none 0 0, .int .i64 0, .int .i64 0, .slice none 0 0, .slice none 0 0, .slice none 0 0, .slice none 0 0, .slice none 0 0, .slice none 0 0] 44
  have HB : Hid (Below w.heap.size w (w.alloc (.cells #[.slice none 0 0, .slice none 0 0, .slice none 0 0, .int .i64 0, .int .i64 0, .slice none 0 0, .slice none 0 0, .slice none 0 0, .slice none 0 0, .slice none 0 0, .slice none 0 0] 44))) := (belowRefl w).alloc (Nat.le_refl _) _
  have HZ : Hid (w.heap.size + 1 ≤ (w.alloc (.cells #[.slice none 0 0, .slice none 0 0, .slice none 0 0, .int .i64 0, .int .i64 0, .slice none 0 0, .slice none 0 0, .slice none 0 0, .slice none 0 0, .slice none 0 0, .slice none 0 0] 44)).heap.size) := by show _ ≤ _; simp
  go_enter Try.func11, Try.ntmps11
  go_upto_region 1 with fail
  generalize (w.alloc (.cells #[.slice none 0 0, .slice none 0 0, .slice none 0 0, .int .i64 0, .int .i64 0, .slice none 0 0, .slice none 0 0, .slice none 0 0, .slice none 0 0, .slice none 0 0, .slice none 0 0] 44)) = w0 at *
  go_wp2_with fail
  refine (HC.out _).mono ?_
  rintro e w1 ⟨s, rfl, hs, hl, hb⟩
  have HS : Hid (StSame DD s) := hs
  have HL : Hid (StLie w1 (w.heap.size + 1) w1.heap.size s) := hl.mono HZ.out (Nat.le_refl _)
  replace BR : Hid (Bx w1 w.heap.size [.slice none 0 0, .slice none 0 0, .slice none 0 0, .int .i64 0, .int .i64 0, .slice none 0 0, .slice none 0 0, .slice none 0 0, .slice none 0 0, .slice none 0 0, .slice none 0 0]) := BR.out.below hb
  replace HB : Hid (Below w.heap.size w w1) := HB.out.trans (hb.mono HB.out.size)
  clear hs hl hb HC HZ
  have q0 := BR.out.c0
  have fq0 := BR.out.fz 0
  have q1 := BR.out.c1
  have fq1 := BR.out.fz 1
  have q2 := BR.out.c2
  have fq2 := BR.out.fz 2
  have q3 := BR.out.c3
  have fq3 := BR.out.fz 3
  have q4 := BR.out.c4
  have fq4 := BR.out.fz 4
  have q5 := BR.out.c5
  have fq5 := BR.out.fz 5
  have q6 := BR.out.c6
  have fq6 := BR.out.fz 6
  have q7 := BR.out.c7
  have fq7 := BR.out.fz 7
  obtain ⟨q8, q9, q10⟩ := BR.out.at11
  have fq8 := BR.out.fz 8
  have fq9 := BR.out.fz 9
  have fq10 := BR.out.fz 10
  go_wp2
  refine bodyPost_ret (v := .agg #[.slice s.e.b.va s.e.b.vs.length s.e.b.vc, .slice s.e.b.pa s.e.b.ps.length s.e.b.pc, .slice s.e.b.qa s.e.b.qs.length s.e.b.qc, .int .i64 s.e.b.cs, .int .i64 s.e.b.nx, .slice s.e.oa s.e.os.length s.e.oc, .slice s.d.sa s.d.ss.length s.d.sc, .slice s.d.pa s.d.ps.length s.d.pc, .slice none 0 0, .slice none 0 0, .slice none 0 0]) (by simp [results, Try.results11, go_sem, q0, q1, q2, q3, q4, q5, q6, q7, q8, q9, q10]) rfl ⟨s, rfl, HS.out, ?_, ?_⟩
  · exact ((((((((((((HL.out.set (a := ⟨w.heap.size, 0, none⟩) (by show w.heap.size < w.heap.size + 1; omega) _).set (a := ⟨w.heap.size, 1, none⟩) (by show w.heap.size < w.heap.size + 1; omega) _).set (a := ⟨w.heap.size, 2, none⟩) (by show w.heap.size < w.heap.size + 1; omega) _).set (a := ⟨w.heap.size, 3, none⟩) (by show w.heap.size < w.heap.size + 1; omega) _).set (a := ⟨w.heap.size, 4, none⟩) (by show w.heap.size < w.heap.size + 1; omega) _).set (a := ⟨w.heap.size, 5, none⟩) (by show w.heap.size < w.heap.size + 1; omega) _).set (a := ⟨w.heap.size, 6, none⟩) (by show w.heap.size < w.heap.size + 1; omega) _).set (a := ⟨w.heap.size, 7, none⟩) (by show w.heap.size < w.heap.size + 1; omega) _).set (a := ⟨w.heap.size, 8, none⟩) (by show w.heap.size < w.heap.size + 1; omega) _).set (a := ⟨w.heap.size, 9, none⟩) (by show w.heap.size < w.heap.size + 1; omega) _).set (a := ⟨w.heap.size, 10, none⟩) (by show w.heap.size < w.heap.size + 1; omega) _).mono (Nat.le_succ _) (by simp [World.setCell]))
  · exact ((((((((((HB.out.setCell (p := ⟨w.heap.size, 0, none⟩) (Nat.le_refl _) _).setCell (p := ⟨w.heap.size, 1, none⟩) (Nat.le_refl _) _).setCell (p := ⟨w.heap.size, 2, none⟩) (Nat.le_refl _) _).setCell (p := ⟨w.heap.size, 3, none⟩) (Nat.le_refl _) _).setCell (p := ⟨w.heap.size, 4, none⟩) (Nat.le_refl _) _).setCell (p := ⟨w.heap.size, 5, none⟩) (Nat.le_refl _) _).setCell (p := ⟨w.heap.size, 6, none⟩) (Nat.le_refl _) _).setCell (p := ⟨w.heap.size, 7, none⟩) (Nat.le_refl _) _).setCell (p := ⟨w.heap.size, 8, none⟩) (Nat.le_refl _) _).setCell (p := ⟨w.heap.size, 9, none⟩) (Nat.le_refl _) _).setCell (p := ⟨w.heap.size, 10, none⟩) (Nat.le_refl _) _

set_option maxRecDepth 100000 in
set_option maxHeartbeats 4000000 in
theorem eqW (s c : St) (hs : StSame s c) (hf : StFit s) (w : World) (hp : StRows w s) (hq : StRows w c) :
    Calls Try.prog 12 #[.agg #[.slice s.e.b.va s.e.b.vs.length s.e.b.vc, .slice s.e.b.pa s.e.b.ps.length s.e.b.pc, .slice s.e.b.qa s.e.b.qs.length s.e.b.qc, .int .i64 s.e.b.cs, .int .i64 s.e.b.nx, .slice s.e.oa s.e.os.length s.e.oc, .slice s.d.sa s.d.ss.length s.d.sc, .slice s.d.pa s.d.ps.length s.d.pc, .slice none 0 0, .slice none 0 0, .slice none 0 0], .agg #[.slice c.e.b.va c.e.b.vs.length c.e.b.vc, .slice c.e.b.pa c.e.b.ps.length c.e.b.pc, .slice c.e.b.qa c.e.b.qs.length c.e.b.qc, .int .i64 c.e.b.cs, .int .i64 c.e.b.nx, .slice c.e.oa c.e.os.length c.e.oc, .slice c.d.sa c.d.ss.length c.d.sc, .slice c.d.pa c.d.ps.length c.d.pc, .slice none 0 0, .slice none 0 0, .slice none 0 0]] w fun e w' => e = .returned (.bool true) ∧ Below w.heap.size w w' := by
  have HC := hide (fun (W : World) (h : Below w.heap.size w W) => eqS s c hs hf W (hp.below h) (hq.below h))
  have BA : Hid (Bx ((w.alloc (.cells #[.slice s.e.b.va s.e.b.vs.length s.e.b.vc, .slice s.e.b.pa s.e.b.ps.length s.e.b.pc, .slice s.e.b.qa s.e.b.qs.length s.e.b.qc, .int .i64 s.e.b.cs, .int .i64 s.e.b.nx, .slice s.e.oa s.e.os.length s.e.oc, .slice s.d.sa s.d.ss.length s.d.sc, .slice s.d.pa s.d.ps.length s.d.pc, .slice none 0 0, .slice none 0 0, .slice none 0 0] 44)).alloc (.cells #[.slice c.e.b.va c.e.b.vs.length c.e.b.vc, .slice c.e.b.pa c.e.b.ps.length c.e.b.pc, .slice c.e.b.qa c.e.b.qs.length c.e.b.qc, .int .i64 c.e.b.cs, .int .i64 c.e.b.nx, .slice c.e.oa c.e.os.length c.e.oc, .slice c.d.sa c.d.ss.length c.d.sc, .slice c.d.pa c.d.ps.length c.d.pc, .slice none 0 0, .slice none 0 0, .slice none 0 0] 44)) w.heap.size [.slice s.e.b.va s.e.b.vs.length s.e.b.vc, .slice s.e.b.pa s.e.b.ps.length s.e.b.pc, .slice s.e.b.qa s.e.b.qs.length s.e.b.qc, .int .i64 s.e.b.cs, .int .i64 s.e.b.nx, .slice s.e.oa s.e.os.length s.e.oc, .slice s.d.sa s.d.ss.length s.d.sc, .slice s.d.pa s.d.ps.length s.d.pc, .slice none 0 0, .slice none 0 0, .slice none 0 0]) := (Bx.new w [.slice s.e.b.va s.e.b.vs.length s.e.b.vc, .slice s.e.b.pa s.e.b.ps.length s.e.b.pc, .slice s.e.b.qa s.e.b.qs.length s.e.b.qc, .int .i64 s.e.b.cs, .int .i64 s.e.b.nx, .slice s.e.oa s.e.os.length s.e.oc, .slice s.d.sa s.d.ss.length s.d.sc, .slice s.d.pa s.d.ps.length s.d.pc, .slice none 0 0, .slice none 0 0, .slice none 0 0] 44).alloc _
  have BB : Hid (Bx ((w.alloc (.cells #[.slice s.e.b.va s.e.b.vs.length s.e.b.vc, .slice s.e.b.pa s.e.b.ps.length s.e.b.pc, .slice s.e.b.qa s.e.b.qs.length s.e.b.qc, .int .i64 s.e.b.cs, .int .i64 s.e.b.nx, .slice s.e.oa s.e.os.length s.e.oc, .slice s.d.sa s.d.ss.length s.d.sc, .slice s.d.pa s.d.ps.length s.d.pc, .slice none 0 0, .slice none 0 0, .slice none 0 0] 44)).alloc (.cells #[.slice c.e.b.va c.e.b.vs.length c.e.b.vc, .slice c.e.b.pa c.e.b.ps.length c.e.b.pc, .slice c.e.b.qa c.e.b.qs.length c.e.b.qc, .int .i64 c.e.b.cs, .int .i64 c.e.b.nx, .slice c.e.oa c.e.os.length c.e.oc, .slice c.d.sa c.d.ss.length c.d.sc, .slice c.d.pa c.d.ps.length c.d.pc, .slice none 0 0, .slice none 0 0, .slice none 0 0] 44)) (w.heap.size + 1) [.slice c.e.b.va c.e.b.vs.length c.e.b.vc, .slice c.e.b.pa c.e.b.ps.length c.e.b.pc, .slice c.e.b.qa c.e.b.qs.length c.e.b.qc, .int .i64 c.e.b.cs, .int .i64 c.e.b.nx, .slice c.e.oa c.e.os.length c.e.oc, .slice c.d.sa c.d.ss.length c.d.sc, .slice c.d.pa c.d.ps.length c.d.pc, .slice none 0 0, .slice none 0 0, .slice none 0 0]) := by
    have h := Bx.new (w.alloc (.cells #[.slice s.e.b.va s.e.b.vs.length s.e.b.vc, .slice s.e.b.pa s.e.b.ps.length s.e.b.pc, .slice s.e.b.qa s.e.b.qs.length s.e.b.qc, .int .i64 s.e.b.cs, .int .i64 s.e.b.nx, .slice s.e.oa s.e.os.length s.e.oc, .slice s.d.sa s.d.ss.length s.d.sc, .slice s.d.pa s.d.ps.length s.d.pc, .slice none 0 0, .slice none 0 0, .slice none 0 0] 44)) [.slice c.e.b.va c.e.b.vs.length c.e.b.vc, .slice c.e.b.pa c.e.b.ps.length c.e.b.pc, .slice c.e.b.qa c.e.b.qs.length c.e.b.qc, .int .i64 c.e.b.cs, .int .i64 c.e.b.nx, .slice c.e.oa c.e.os.length c.e.oc, .slice c.d.sa c.d.ss.length c.d.sc, .slice c.d.pa c.d.ps.length c.d.pc, .slice none 0 0, .slice none 0 0, .slice none 0 0] 44
    rw [show (w.alloc (.cells #[.slice s.e.b.va s.e.b.vs.length s.e.b.vc, .slice s.e.b.pa s.e.b.ps.length s.e.b.pc, .slice s.e.b.qa s.e.b.qs.length s.e.b.qc, .int .i64 s.e.b.cs, .int .i64 s.e.b.nx, .slice s.e.oa s.e.os.length s.e.oc, .slice s.d.sa s.d.ss.length s.d.sc, .slice s.d.pa s.d.ps.length s.d.pc, .slice none 0 0, .slice none 0 0, .slice none 0 0] 44)).heap.size = w.heap.size + 1 by simp] at h
    exact h
  have HB : Hid (Below w.heap.size w ((w.alloc (.cells #[.slice s.e.b.va s.e.b.vs.length s.e.b.vc, .slice s.e.b.pa s.e.b.ps.length s.e.b.pc, .slice s.e.b.qa s.e.b.qs.length s.e.b.qc, .int .i64 s.e.b.cs, .int .i64 s.e.b.nx, .slice s.e.oa s.e.os.length s.e.oc, .slice s.d.sa s.d.ss.length s.d.sc, .slice s.d.pa s.d.ps.length s.d.pc, .slice none 0 0, .slice none 0 0, .slice none 0 0] 44)).alloc (.cells #[.slice c.e.b.va c.e.b.vs.length c.e.b.vc, .slice c.e.b.pa c.e.b.ps.length c.e.b.pc, .slice c.e.b.qa c.e.b.qs.length c.e.b.qc, .int .i64 c.e.b.cs, .int .i64 c.e.b.nx, .slice c.e.oa c.e.os.length c.e.oc, .slice c.d.sa c.d.ss.length c.d.sc, .slice c.d.pa c.d.ps.length c.d.pc, .slice none 0 0, .slice none 0 0, .slice none 0 0] 44))) := ((belowRefl w).alloc (Nat.le_refl _) _).alloc (by simp) _
  clear hs hf hp hq
  go_enter Try.func12, Try.ntmps12
  go_upto_region 1 with fail
  generalize ((w.alloc (.cells #[.slice s.e.b.va s.e.b.vs.length s.e.b.vc, .slice s.e.b.pa s.e.b.ps.length s.e.b.pc, .slice s.e.b.qa s.e.b.qs.length s.e.b.qc, .int .i64 s.e.b.cs, .int .i64 s.e.b.nx, .slice s.e.oa s.e.os.length s.e.oc, .slice s.d.sa s.d.ss.length s.d.sc, .slice s.d.pa s.d.ps.length s.d.pc, .slice none 0 0, .slice none 0 0, .slice none 0 0] 44)).alloc (.cells #[.slice c.e.b.va c.e.b.vs.length c.e.b.vc, .slice c.e.b.pa c.e.b.ps.length c.e.b.pc, .slice c.e.b.qa c.e.b.qs.length c.e.b.qc, .int .i64 c.e.b.cs, .int .i64 c.e.b.nx, .slice c.e.oa c.e.os.length c.e.oc, .slice c.d.sa c.d.ss.length c.d.sc, .slice c.d.pa c.d.ps.length c.d.pc, .slice none 0 0, .slice none 0 0, .slice none 0 0] 44)) = w0 at *
  have x0 := BA.out.c0
  have y0 := BB.out.c0
  have x1 := BA.out.c1
  have y1 := BB.out.c1
  have x2 := BA.out.c2
  have y2 := BB.out.c2
  have x3 := BA.out.c3
  have y3 := BB.out.c3
  have x4 := BA.out.c4
  have y4 := BB.out.c4
  have x5 := BA.out.c5
  have y5 := BB.out.c5
  have x6 := BA.out.c6
  have y6 := BB.out.c6
  have x7 := BA.out.c7
  have y7 := BB.out.c7
  go_wp2_with fail
  refine (HC.out _ HB.out).mono ?_
  rintro e w1 ⟨rfl, hb⟩
  replace BA : Hid (Bx w1 w.heap.size [.slice s.e.b.va s.e.b.vs.length s.e.b.vc, .slice s.e.b.pa s.e.b.ps.length s.e.b.pc, .slice s.e.b.qa s.e.b.qs.length s.e.b.qc, .int .i64 s.e.b.cs, .int .i64 s.e.b.nx, .slice s.e.oa s.e.os.length s.e.oc, .slice s.d.sa s.d.ss.length s.d.sc, .slice s.d.pa s.d.ps.length s.d.pc, .slice none 0 0, .slice none 0 0, .slice none 0 0]) := BA.out.below hb
  replace BB : Hid (Bx w1 (w.heap.size + 1) [.slice c.e.b.va c.e.b.vs.length c.e.b.vc, .slice c.e.b.pa c.e.b.ps.length c.e.b.pc, .slice c.e.b.qa c.e.b.qs.length c.e.b.qc, .int .i64 c.e.b.cs, .int .i64 c.e.b.nx, .slice c.e.oa c.e.os.length c.e.oc, .slice c.d.sa c.d.ss.length c.d.sc, .slice c.d.pa c.d.ps.length c.d.pc, .slice none 0 0, .slice none 0 0, .slice none 0 0]) := BB.out.below hb
  replace HB : Hid (Below w.heap.size w w1) := HB.out.trans (hb.mono HB.out.size)
  clear hb x0 y0 x1 y1 x2 y2 x3 y3 x4 y4 x5 y5 x6 y6 x7 y7
  obtain ⟨x8, x9, x10⟩ := BA.out.at11
  obtain ⟨y8, y9, y10⟩ := BB.out.at11
  go_wp2_with fail
  refine (ne22 _).mono ?_
  rintro e w2 ⟨rfl, rfl⟩
  go_wp2_with fail
  refine (ne18 _).mono ?_
  rintro e w3 ⟨rfl, rfl⟩
  go_wp2_with fail
  refine (ne23 _).mono ?_
  rintro e w4 ⟨rfl, rfl⟩
  go_wp2
  go_ret
  exact ⟨rfl, HB.out⟩

set_option maxRecDepth 100000 in
set_option maxHeartbeats 4000000 in
theorem heldWd (s : St) (q : Nat) (w : World) (hc : ∀ W : World, Below w.heap.size w W → Calls Try.prog 28 #[.agg #[.slice s.e.b.va s.e.b.vs.length s.e.b.vc, .slice s.e.b.pa s.e.b.ps.length s.e.b.pc, .slice s.e.b.qa s.e.b.qs.length s.e.b.qc, .int .i64 s.e.b.cs, .int .i64 s.e.b.nx, .slice s.e.oa s.e.os.length s.e.oc, .slice s.d.sa s.d.ss.length s.d.sc, .slice s.d.pa s.d.ps.length s.d.pc], .int .i64 1] W fun ex w' => ex = .returned (.int .i64 (q : Int)) ∧ Below W.heap.size W w') :
    Calls Try.prog 14 #[.agg #[.slice s.e.b.va s.e.b.vs.length s.e.b.vc, .slice s.e.b.pa s.e.b.ps.length s.e.b.pc, .slice s.e.b.qa s.e.b.qs.length s.e.b.qc, .int .i64 s.e.b.cs, .int .i64 s.e.b.nx, .slice s.e.oa s.e.os.length s.e.oc, .slice s.d.sa s.d.ss.length s.d.sc, .slice s.d.pa s.d.ps.length s.d.pc, .slice none 0 0, .slice none 0 0, .slice none 0 0], .int .i64 1] w fun ex w' => ex = .returned (.int .i64 (q : Int)) ∧ Below w.heap.size w w' := by
  have HC := hide hc
  have BA : Hid (Bx (w.alloc (.cells #[.slice s.e.b.va s.e.b.vs.length s.e.b.vc, .slice s.e.b.pa s.e.b.ps.length s.e.b.pc, .slice s.e.b.qa s.e.b.qs.length s.e.b.qc, .int .i64 s.e.b.cs, .int .i64 s.e.b.nx, .slice s.e.oa s.e.os.length s.e.oc, .slice s.d.sa s.d.ss.length s.d.sc, .slice s.d.pa s.d.ps.length s.d.pc, .slice none 0 0, .slice none 0 0, .slice none 0 0] 44)) w.heap.size [.slice s.e.b.va s.e.b.vs.length s.e.b.vc, .slice s.e.b.pa s.e.b.ps.length s.e.b.pc, .slice s.e.b.qa s.e.b.qs.length s.e.b.qc, .int .i64 s.e.b.cs, .int .i64 s.e.b.nx, .slice s.e.oa s.e.os.length s.e.oc, .slice s.d.sa s.d.ss.length s.d.sc, .slice s.d.pa s.d.ps.length s.d.pc, .slice none 0 0, .slice none 0 0, .slice none 0 0]) := Bx.new w [.slice s.e.b.va s.e.b.vs.length s.e.b.vc, .slice s.e.b.pa s.e.b.ps.length s.e.b.pc, .slice s.e.b.qa s.e.b.qs.length s.e.b.qc, .int .i64 s.e.b.cs, .int .i64 s.e.b.nx, .slice s.e.oa s.e.os.length s.e.oc, .slice s.d.sa s.d.ss.length s.d.sc, .slice s.d.pa s.d.ps.length s.d.pc, .slice none 0 0, .slice none 0 0, .slice none 0 0] 44
  have HB : Hid (Below w.heap.size w (w.alloc (.cells #[.slice s.e.b.va s.e.b.vs.length s.e.b.vc, .slice s.e.b.pa s.e.b.ps.length s.e.b.pc, .slice s.e.b.qa s.e.b.qs.length s.e.b.qc, .int .i64 s.e.b.cs, .int .i64 s.e.b.nx, .slice s.e.oa s.e.os.length s.e.oc, .slice s.d.sa s.d.ss.length s.d.sc, .slice s.d.pa s.d.ps.length s.d.pc, .slice none 0 0, .slice none 0 0, .slice none 0 0] 44))) := (belowRefl w).alloc (Nat.le_refl _) _
  have hq0 : ¬ (q : Int) < 0 := by omega
  have hq1 : decide ((q : Int) < 0) = false := by simp
  clear hc
  go_enter Try.func14, Try.ntmps14
  go_upto_region 1 with fail
  generalize (w.alloc (.cells #[.slice s.e.b.va s.e.b.vs.length s.e.b.vc, .slice s.e.b.pa s.e.b.ps.length s.e.b.pc, .slice s.e.b.qa s.e.b.qs.length s.e.b.qc, .int .i64 s.e.b.cs, .int .i64 s.e.b.nx, .slice s.e.oa s.e.os.length s.e.oc, .slice s.d.sa s.d.ss.length s.d.sc, .slice s.d.pa s.d.ps.length s.d.pc, .slice none 0 0, .slice none 0 0, .slice none 0 0] 44)) = w0 at *
  have x0 := BA.out.c0
  have x1 := BA.out.c1
  have x2 := BA.out.c2
  have x3 := BA.out.c3
  have x4 := BA.out.c4
  have x5 := BA.out.c5
  have x6 := BA.out.c6
  have x7 := BA.out.c7
  go_wp2_with fail
  refine (HC.out _ HB.out).mono ?_
  rintro e w1 ⟨rfl, hb⟩
  replace BA : Hid (Bx w1 w.heap.size [.slice s.e.b.va s.e.b.vs.length s.e.b.vc, .slice s.e.b.pa s.e.b.ps.length s.e.b.pc, .slice s.e.b.qa s.e.b.qs.length s.e.b.qc, .int .i64 s.e.b.cs, .int .i64 s.e.b.nx, .slice s.e.oa s.e.os.length s.e.oc, .slice s.d.sa s.d.ss.length s.d.sc, .slice s.d.pa s.d.ps.length s.d.pc, .slice none 0 0, .slice none 0 0, .slice none 0 0]) := BA.out.below hb
  replace HB : Hid (Below w.heap.size w w1) := HB.out.trans (hb.mono HB.out.size)
  clear hb x0 x1 x2 x3 x4 x5 x6 x7
  obtain ⟨x8, x9, x10⟩ := BA.out.at11
  go_wp2_with fail
  refine (nk29 _ _).mono ?_
  rintro e w2 ⟨rfl, rfl⟩
  go_wp2_with fail
  refine (nk30 _ _).mono ?_
  rintro e w3 ⟨rfl, rfl⟩
  go_wp2_with fail
  refine (nk31 _ _).mono ?_
  rintro e w4 ⟨rfl, rfl⟩
  go_wp2
  go_ret
  exact ⟨rfl, HB.out⟩

set_option maxRecDepth 100000 in
set_option maxHeartbeats 4000000 in
theorem markWd (s : St) (lo hi : Nat) (hf : StFit s) (w : World) (hz : hi ≤ w.heap.size) (h : StLie w lo hi s) :
    Calls Try.prog 13 #[.agg #[.slice s.e.b.va s.e.b.vs.length s.e.b.vc, .slice s.e.b.pa s.e.b.ps.length s.e.b.pc, .slice s.e.b.qa s.e.b.qs.length s.e.b.qc, .int .i64 s.e.b.cs, .int .i64 s.e.b.nx, .slice s.e.oa s.e.os.length s.e.oc, .slice s.d.sa s.d.ss.length s.d.sc, .slice s.d.pa s.d.ps.length s.d.pc, .slice none 0 0, .slice none 0 0, .slice none 0 0], .int .i64 1] w fun ex w' => ∃ (q : Nat) (m : St), ex = .returned (.int .i64 (q : Int)) ∧ StLie w' lo hi m ∧ Zn lo hi w w' ∧ (∀ W : World, StRows W m → Calls Try.prog 14 #[.agg #[.slice s.e.b.va s.e.b.vs.length s.e.b.vc, .slice s.e.b.pa s.e.b.ps.length s.e.b.pc, .slice s.e.b.qa s.e.b.qs.length s.e.b.qc, .int .i64 s.e.b.cs, .int .i64 s.e.b.nx, .slice s.e.oa s.e.os.length s.e.oc, .slice s.d.sa s.d.ss.length s.d.sc, .slice s.d.pa s.d.ps.length s.d.pc, .slice none 0 0, .slice none 0 0, .slice none 0 0], .int .i64 1] W fun ex w' => ex = .returned (.int .i64 (q : Int)) ∧ Below W.heap.size W w') := by
  have hba : Below w.heap.size w (w.alloc (.cells #[.slice s.e.b.va s.e.b.vs.length s.e.b.vc, .slice s.e.b.pa s.e.b.ps.length s.e.b.pc, .slice s.e.b.qa s.e.b.qs.length s.e.b.qc, .int .i64 s.e.b.cs, .int .i64 s.e.b.nx, .slice s.e.oa s.e.os.length s.e.oc, .slice s.d.sa s.d.ss.length s.d.sc, .slice s.d.pa s.d.ps.length s.d.pc, .slice none 0 0, .slice none 0 0, .slice none 0 0] 44)) := (belowRefl w).alloc (Nat.le_refl _) _
  have HC := hide (markS s lo hi hf (w.alloc (.cells #[.slice s.e.b.va s.e.b.vs.length s.e.b.vc, .slice s.e.b.pa s.e.b.ps.length s.e.b.pc, .slice s.e.b.qa s.e.b.qs.length s.e.b.qc, .int .i64 s.e.b.cs, .int .i64 s.e.b.nx, .slice s.e.oa s.e.os.length s.e.oc, .slice s.d.sa s.d.ss.length s.d.sc, .slice s.d.pa s.d.ps.length s.d.pc, .slice none 0 0, .slice none 0 0, .slice none 0 0] 44)) (Nat.le_trans hz hba.size) (h.below hba))
  have BA : Hid (Bx (w.alloc (.cells #[.slice s.e.b.va s.e.b.vs.length s.e.b.vc, .slice s.e.b.pa s.e.b.ps.length s.e.b.pc, .slice s.e.b.qa s.e.b.qs.length s.e.b.qc, .int .i64 s.e.b.cs, .int .i64 s.e.b.nx, .slice s.e.oa s.e.os.length s.e.oc, .slice s.d.sa s.d.ss.length s.d.sc, .slice s.d.pa s.d.ps.length s.d.pc, .slice none 0 0, .slice none 0 0, .slice none 0 0] 44)) w.heap.size [.slice s.e.b.va s.e.b.vs.length s.e.b.vc, .slice s.e.b.pa s.e.b.ps.length s.e.b.pc, .slice s.e.b.qa s.e.b.qs.length s.e.b.qc, .int .i64 s.e.b.cs, .int .i64 s.e.b.nx, .slice s.e.oa s.e.os.length s.e.oc, .slice s.d.sa s.d.ss.length s.d.sc, .slice s.d.pa s.d.ps.length s.d.pc, .slice none 0 0, .slice none 0 0, .slice none 0 0]) := Bx.new w [.slice s.e.b.va s.e.b.vs.length s.e.b.vc, .slice s.e.b.pa s.e.b.ps.length s.e.b.pc, .slice s.e.b.qa s.e.b.qs.length s.e.b.qc, .int .i64 s.e.b.cs, .int .i64 s.e.b.nx, .slice s.e.oa s.e.os.length s.e.oc, .slice s.d.sa s.d.ss.length s.d.sc, .slice s.d.pa s.d.ps.length s.d.pc, .slice none 0 0, .slice none 0 0, .slice none 0 0] 44
  have HZ0 : Hid (Zn lo hi w (w.alloc (.cells #[.slice s.e.b.va s.e.b.vs.length s.e.b.vc, .slice s.e.b.pa s.e.b.ps.length s.e.b.pc, .slice s.e.b.qa s.e.b.qs.length s.e.b.qc, .int .i64 s.e.b.cs, .int .i64 s.e.b.nx, .slice s.e.oa s.e.os.length s.e.oc, .slice s.d.sa s.d.ss.length s.d.sc, .slice s.d.pa s.d.ps.length s.d.pc, .slice none 0 0, .slice none 0 0, .slice none 0 0] 44))) := Zn.ofBelow lo hi hba
  have HZ : Hid (hi ≤ w.heap.size) := hz
  clear hba h hf hz
  go_enter Try.func13, Try.ntmps13
  go_upto_region 1 with fail
  generalize (w.alloc (.cells #[.slice s.e.b.va s.e.b.vs.length s.e.b.vc, .slice s.e.b.pa s.e.b.ps.length s.e.b.pc, .slice s.e.b.qa s.e.b.qs.length s.e.b.qc, .int .i64 s.e.b.cs, .int .i64 s.e.b.nx, .slice s.e.oa s.e.os.length s.e.oc, .slice s.d.sa s.d.ss.length s.d.sc, .slice s.d.pa s.d.ps.length s.d.pc, .slice none 0 0, .slice none 0 0, .slice none 0 0] 44)) = w0 at *
  have x0 := BA.out.c0
  have x1 := BA.out.c1
  have x2 := BA.out.c2
  have x3 := BA.out.c3
  have x4 := BA.out.c4
  have x5 := BA.out.c5
  have x6 := BA.out.c6
  have x7 := BA.out.c7
  go_wp2_with fail
  refine HC.out.mono ?_
  rintro e w1 ⟨q, m, rfl, hm, hzn, hh⟩
  have HM : Hid (StLie w1 lo hi m) := hm
  have HH := hide hh
  replace BA : Hid (Bx w1 w.heap.size [.slice s.e.b.va s.e.b.vs.length s.e.b.vc, .slice s.e.b.pa s.e.b.ps.length s.e.b.pc, .slice s.e.b.qa s.e.b.qs.length s.e.b.qc, .int .i64 s.e.b.cs, .int .i64 s.e.b.nx, .slice s.e.oa s.e.os.length s.e.oc, .slice s.d.sa s.d.ss.length s.d.sc, .slice s.d.pa s.d.ps.length s.d.pc, .slice none 0 0, .slice none 0 0, .slice none 0 0]) := BA.out.zn hzn (Or.inr HZ.out)
  replace HZ0 : Hid (Zn lo hi w w1) := HZ0.out.trans hzn
  clear hm hzn hh HC x0 x1 x2 x3 x4 x5 x6 x7
  obtain ⟨x8, x9, x10⟩ := BA.out.at11
  go_wp2_with fail
  refine (nk25 _ _).mono ?_
  rintro e w2 ⟨rfl, rfl⟩
  go_wp2_with fail
  refine (nk26 _ _).mono ?_
  rintro e w3 ⟨rfl, rfl⟩
  go_wp2_with fail
  refine (nk27 _ _).mono ?_
  rintro e w4 ⟨rfl, rfl⟩
  go_wp2
  go_ret
  exact ⟨q, m, rfl, HM.out, HZ0.out, fun W hW => heldWd s q W (fun W' hb => HH.out W' (hW.below hb))⟩

set_option maxRecDepth 100000 in
set_option maxHeartbeats 8000000 in
theorem law4 (w : World) : Calls Try.prog 4 #[] w fun e w' => e = .returned (.bool true) ∧ Below w.heap.size w w' := by
  have HFD : Hid (StFit nwSt) := nwSt_fit
  have CI : Hid (∀ W : World, Calls Try.prog 11 #[] W fun e w' => ∃ s : St, e = .returned (.agg #[.slice s.e.b.va s.e.b.vs.length s.e.b.vc, .slice s.e.b.pa s.e.b.ps.length s.e.b.pc, .slice s.e.b.qa s.e.b.qs.length s.e.b.qc, .int .i64 s.e.b.cs, .int .i64 s.e.b.nx, .slice s.e.oa s.e.os.length s.e.oc, .slice s.d.sa s.d.ss.length s.d.sc, .slice s.d.pa s.d.ps.length s.d.pc, .slice none 0 0, .slice none 0 0, .slice none 0 0]) ∧ StSame nwSt s ∧ StLie w' W.heap.size w'.heap.size s ∧ Below W.heap.size W w') := fun W => inewW W
  have CS : Hid (∀ W : World, Calls Try.prog 10 #[] W fun e w' => ∃ s : St, e = .returned (.agg #[.slice s.e.b.va s.e.b.vs.length s.e.b.vc, .slice s.e.b.pa s.e.b.ps.length s.e.b.pc, .slice s.e.b.qa s.e.b.qs.length s.e.b.qc, .int .i64 s.e.b.cs, .int .i64 s.e.b.nx, .slice s.e.oa s.e.os.length s.e.oc, .slice s.d.sa s.d.ss.length s.d.sc, .slice s.d.pa s.d.ps.length s.d.pc, .slice none 0 0, .slice none 0 0, .slice none 0 0]) ∧ StSame nwSt s ∧ StLie w' W.heap.size w'.heap.size s ∧ Below W.heap.size W w') := fun W => snewW W
  generalize nwSt = DD at *
  have HB : Hid (Below w.heap.size w w) := belowRefl w
  go_enter Try.func4, Try.ntmps4
  go_wp2_with fail
  refine (CS.out _).mono ?_
  rintro e w1 ⟨d1, rfl, hs, hl, hb1⟩
  have Z1 : Hid (w.heap.size ≤ w1.heap.size) := by show _ ≤ _; have h := hb1.size; simpa using h
  replace HB : Hid (Below w.heap.size w w1) := HB.out.trans (hb1.mono HB.out.size)
  have D1 : Hid (StSame DD d1) := hs
  clear hs
  clear hb1
  have M1 : Hid (StLie w1 (w.heap.size) w1.heap.size d1) := hl
  clear hl
  have hba : Below w1.heap.size w1 (w1.alloc (.cells #[.slice d1.e.b.va d1.e.b.vs.length d1.e.b.vc, .slice d1.e.b.pa d1.e.b.ps.length d1.e.b.pc, .slice d1.e.b.qa d1.e.b.qs.length d1.e.b.qc, .int .i64 d1.e.b.cs, .int .i64 d1.e.b.nx, .slice d1.e.oa d1.e.os.length d1.e.oc, .slice d1.d.sa d1.d.ss.length d1.d.sc, .slice d1.d.pa d1.d.ps.length d1.d.pc, .slice none 0 0, .slice none 0 0, .slice none 0 0] 44)) := (belowRefl _).alloc (Nat.le_refl _) _
  replace HB : Hid (Below w.heap.size w (w1.alloc (.cells #[.slice d1.e.b.va d1.e.b.vs.length d1.e.b.vc, .slice d1.e.b.pa d1.e.b.ps.length d1.e.b.pc, .slice d1.e.b.qa d1.e.b.qs.length d1.e.b.qc, .int .i64 d1.e.b.cs, .int .i64 d1.e.b.nx, .slice d1.e.oa d1.e.os.length d1.e.oc, .slice d1.d.sa d1.d.ss.length d1.d.sc, .slice d1.d.pa d1.d.ps.length d1.d.pc, .slice none 0 0, .slice none 0 0, .slice none 0 0] 44))) := HB.out.trans (hba.mono HB.out.size)
  replace M1 : Hid (StLie (w1.alloc (.cells #[.slice d1.e.b.va d1.e.b.vs.length d1.e.b.vc, .slice d1.e.b.pa d1.e.b.ps.length d1.e.b.pc, .slice d1.e.b.qa d1.e.b.qs.length d1.e.b.qc, .int .i64 d1.e.b.cs, .int .i64 d1.e.b.nx, .slice d1.e.oa d1.e.os.length d1.e.oc, .slice d1.d.sa d1.d.ss.length d1.d.sc, .slice d1.d.pa d1.d.ps.length d1.d.pc, .slice none 0 0, .slice none 0 0, .slice none 0 0] 44)) (w.heap.size) w1.heap.size d1) := M1.out.below hba
  clear hba
  have OB1 : Hid (Bx (w1.alloc (.cells #[.slice d1.e.b.va d1.e.b.vs.length d1.e.b.vc, .slice d1.e.b.pa d1.e.b.ps.length d1.e.b.pc, .slice d1.e.b.qa d1.e.b.qs.length d1.e.b.qc, .int .i64 d1.e.b.cs, .int .i64 d1.e.b.nx, .slice d1.e.oa d1.e.os.length d1.e.oc, .slice d1.d.sa d1.d.ss.length d1.d.sc, .slice d1.d.pa d1.d.ps.length d1.d.pc, .slice none 0 0, .slice none 0 0, .slice none 0 0] 44)) (w1.heap.size) [.slice d1.e.b.va d1.e.b.vs.length d1.e.b.vc, .slice d1.e.b.pa d1.e.b.ps.length d1.e.b.pc, .slice d1.e.b.qa d1.e.b.qs.length d1.e.b.qc, .int .i64 d1.e.b.cs, .int .i64 d1.e.b.nx, .slice d1.e.oa d1.e.os.length d1.e.oc, .slice d1.d.sa d1.d.ss.length d1.d.sc, .slice d1.d.pa d1.d.ps.length d1.d.pc, .slice none 0 0, .slice none 0 0, .slice none 0 0]) := Bx.new w1 [.slice d1.e.b.va d1.e.b.vs.length d1.e.b.vc, .slice d1.e.b.pa d1.e.b.ps.length d1.e.b.pc, .slice d1.e.b.qa d1.e.b.qs.length d1.e.b.qc, .int .i64 d1.e.b.cs, .int .i64 d1.e.b.nx, .slice d1.e.oa d1.e.os.length d1.e.oc, .slice d1.d.sa d1.d.ss.length d1.d.sc, .slice d1.d.pa d1.d.ps.length d1.d.pc, .slice none 0 0, .slice none 0 0, .slice none 0 0] 44
  go_wp2_with fail
  refine (CI.out _).mono ?_
  rintro e w2 ⟨d2, rfl, hs, hl, hb2⟩
  have Z2 : Hid (w1.heap.size + 1 ≤ w2.heap.size) := by show _ ≤ _; have h := hb2.size; simpa using h
  replace HB : Hid (Below w.heap.size w w2) := HB.out.trans (hb2.mono HB.out.size)
  replace M1 : Hid (StLie w2 (w.heap.size) w1.heap.size d1) := M1.out.below hb2
  replace OB1 : Hid (Bx w2 (w1.heap.size) [.slice d1.e.b.va d1.e.b.vs.length d1.e.b.vc, .slice d1.e.b.pa d1.e.b.ps.length d1.e.b.pc, .slice d1.e.b.qa d1.e.b.qs.length d1.e.b.qc, .int .i64 d1.e.b.cs, .int .i64 d1.e.b.nx, .slice d1.e.oa d1.e.os.length d1.e.oc, .slice d1.d.sa d1.d.ss.length d1.d.sc, .slice d1.d.pa d1.d.ps.length d1.d.pc, .slice none 0 0, .slice none 0 0, .slice none 0 0]) := OB1.out.below hb2
  have D2 : Hid (StSame DD d2) := hs
  clear hs
  clear hb2
  have M2 : Hid (StLie w2 (w1.heap.size + 1) w2.heap.size d2) := (by show StLie _ _ _ _; simpa using hl)
  clear hl
  have hba : Below w2.heap.size w2 (w2.alloc (.cells #[.slice d2.e.b.va d2.e.b.vs.length d2.e.b.vc, .slice d2.e.b.pa d2.e.b.ps.length d2.e.b.pc, .slice d2.e.b.qa d2.e.b.qs.length d2.e.b.qc, .int .i64 d2.e.b.cs, .int .i64 d2.e.b.nx, .slice d2.e.oa d2.e.os.length d2.e.oc, .slice d2.d.sa d2.d.ss.length d2.d.sc, .slice d2.d.pa d2.d.ps.length d2.d.pc, .slice none 0 0, .slice none 0 0, .slice none 0 0] 44)) := (belowRefl _).alloc (Nat.le_refl _) _
  replace HB : Hid (Below w.heap.size w (w2.alloc (.cells #[.slice d2.e.b.va d2.e.b.vs.length d2.e.b.vc, .slice d2.e.b.pa d2.e.b.ps.length d2.e.b.pc, .slice d2.e.b.qa d2.e.b.qs.length d2.e.b.qc, .int .i64 d2.e.b.cs, .int .i64 d2.e.b.nx, .slice d2.e.oa d2.e.os.length d2.e.oc, .slice d2.d.sa d2.d.ss.length d2.d.sc, .slice d2.d.pa d2.d.ps.length d2.d.pc, .slice none 0 0, .slice none 0 0, .slice none 0 0] 44))) := HB.out.trans (hba.mono HB.out.size)
  replace M1 : Hid (StLie (w2.alloc (.cells #[.slice d2.e.b.va d2.e.b.vs.length d2.e.b.vc, .slice d2.e.b.pa d2.e.b.ps.length d2.e.b.pc, .slice d2.e.b.qa d2.e.b.qs.length d2.e.b.qc, .int .i64 d2.e.b.cs, .int .i64 d2.e.b.nx, .slice d2.e.oa d2.e.os.length d2.e.oc, .slice d2.d.sa d2.d.ss.length d2.d.sc, .slice d2.d.pa d2.d.ps.length d2.d.pc, .slice none 0 0, .slice none 0 0, .slice none 0 0] 44)) (w.heap.size) w1.heap.size d1) := M1.out.below hba
  replace OB1 : Hid (Bx (w2.alloc (.cells #[.slice d2.e.b.va d2.e.b.vs.length d2.e.b.vc, .slice d2.e.b.pa d2.e.b.ps.length d2.e.b.pc, .slice d2.e.b.qa d2.e.b.qs.length d2.e.b.qc, .int .i64 d2.e.b.cs, .int .i64 d2.e.b.nx, .slice d2.e.oa d2.e.os.length d2.e.oc, .slice d2.d.sa d2.d.ss.length d2.d.sc, .slice d2.d.pa d2.d.ps.length d2.d.pc, .slice none 0 0, .slice none 0 0, .slice none 0 0] 44)) (w1.heap.size) [.slice d1.e.b.va d1.e.b.vs.length d1.e.b.vc, .slice d1.e.b.pa d1.e.b.ps.length d1.e.b.pc, .slice d1.e.b.qa d1.e.b.qs.length d1.e.b.qc, .int .i64 d1.e.b.cs, .int .i64 d1.e.b.nx, .slice d1.e.oa d1.e.os.length d1.e.oc, .slice d1.d.sa d1.d.ss.length d1.d.sc, .slice d1.d.pa d1.d.ps.length d1.d.pc, .slice none 0 0, .slice none 0 0, .slice none 0 0]) := OB1.out.below hba
  replace M2 : Hid (StLie (w2.alloc (.cells #[.slice d2.e.b.va d2.e.b.vs.length d2.e.b.vc, .slice d2.e.b.pa d2.e.b.ps.length d2.e.b.pc, .slice d2.e.b.qa d2.e.b.qs.length d2.e.b.qc, .int .i64 d2.e.b.cs, .int .i64 d2.e.b.nx, .slice d2.e.oa d2.e.os.length d2.e.oc, .slice d2.d.sa d2.d.ss.length d2.d.sc, .slice d2.d.pa d2.d.ps.length d2.d.pc, .slice none 0 0, .slice none 0 0, .slice none 0 0] 44)) (w1.heap.size + 1) w2.heap.size d2) := M2.out.below hba
  clear hba
  have OB2 : Hid (Bx (w2.alloc (.cells #[.slice d2.e.b.va d2.e.b.vs.length d2.e.b.vc, .slice d2.e.b.pa d2.e.b.ps.length d2.e.b.pc, .slice d2.e.b.qa d2.e.b.qs.length d2.e.b.qc, .int .i64 d2.e.b.cs, .int .i64 d2.e.b.nx, .slice d2.e.oa d2.e.os.length d2.e.oc, .slice d2.d.sa d2.d.ss.length d2.d.sc, .slice d2.d.pa d2.d.ps.length d2.d.pc, .slice none 0 0, .slice none 0 0, .slice none 0 0] 44)) (w2.heap.size) [.slice d2.e.b.va d2.e.b.vs.length d2.e.b.vc, .slice d2.e.b.pa d2.e.b.ps.length d2.e.b.pc, .slice d2.e.b.qa d2.e.b.qs.length d2.e.b.qc, .int .i64 d2.e.b.cs, .int .i64 d2.e.b.nx, .slice d2.e.oa d2.e.os.length d2.e.oc, .slice d2.d.sa d2.d.ss.length d2.d.sc, .slice d2.d.pa d2.d.ps.length d2.d.pc, .slice none 0 0, .slice none 0 0, .slice none 0 0]) := Bx.new w2 [.slice d2.e.b.va d2.e.b.vs.length d2.e.b.vc, .slice d2.e.b.pa d2.e.b.ps.length d2.e.b.pc, .slice d2.e.b.qa d2.e.b.qs.length d2.e.b.qc, .int .i64 d2.e.b.cs, .int .i64 d2.e.b.nx, .slice d2.e.oa d2.e.os.length d2.e.oc, .slice d2.d.sa d2.d.ss.length d2.d.sc, .slice d2.d.pa d2.d.ps.length d2.d.pc, .slice none 0 0, .slice none 0 0, .slice none 0 0] 44
  have x0 := OB2.out.c0
  have x1 := OB2.out.c1
  have x2 := OB2.out.c2
  have x3 := OB2.out.c3
  have x4 := OB2.out.c4
  have x5 := OB2.out.c5
  have x6 := OB2.out.c6
  have x7 := OB2.out.c7
  obtain ⟨x8, x9, x10⟩ := OB2.out.at11
  have y0 := OB1.out.c0
  have y1 := OB1.out.c1
  have y2 := OB1.out.c2
  have y3 := OB1.out.c3
  have y4 := OB1.out.c4
  have y5 := OB1.out.c5
  have y6 := OB1.out.c6
  have y7 := OB1.out.c7
  obtain ⟨y8, y9, y10⟩ := OB1.out.at11
  go_wp2_with fail
  refine (eqW d2 d1 (D2.out.symm.trans D1.out) (D2.out.fit HFD.out) _ M2.out.rows M1.out.rows).mono ?_
  rintro e w3 ⟨rfl, hb3⟩
  have Z3 : Hid (w2.heap.size + 1 ≤ w3.heap.size) := by show _ ≤ _; have h := hb3.size; simpa using h
  replace HB : Hid (Below w.heap.size w w3) := HB.out.trans (hb3.mono HB.out.size)
  replace M1 : Hid (StLie w3 (w.heap.size) w1.heap.size d1) := M1.out.below hb3
  replace OB1 : Hid (Bx w3 (w1.heap.size) [.slice d1.e.b.va d1.e.b.vs.length d1.e.b.vc, .slice d1.e.b.pa d1.e.b.ps.length d1.e.b.pc, .slice d1.e.b.qa d1.e.b.qs.length d1.e.b.qc, .int .i64 d1.e.b.cs, .int .i64 d1.e.b.nx, .slice d1.e.oa d1.e.os.length d1.e.oc, .slice d1.d.sa d1.d.ss.length d1.d.sc, .slice d1.d.pa d1.d.ps.length d1.d.pc, .slice none 0 0, .slice none 0 0, .slice none 0 0]) := OB1.out.below hb3
  replace M2 : Hid (StLie w3 (w1.heap.size + 1) w2.heap.size d2) := M2.out.below hb3
  replace OB2 : Hid (Bx w3 (w2.heap.size) [.slice d2.e.b.va d2.e.b.vs.length d2.e.b.vc, .slice d2.e.b.pa d2.e.b.ps.length d2.e.b.pc, .slice d2.e.b.qa d2.e.b.qs.length d2.e.b.qc, .int .i64 d2.e.b.cs, .int .i64 d2.e.b.nx, .slice d2.e.oa d2.e.os.length d2.e.oc, .slice d2.d.sa d2.d.ss.length d2.d.sc, .slice d2.d.pa d2.d.ps.length d2.d.pc, .slice none 0 0, .slice none 0 0, .slice none 0 0]) := OB2.out.below hb3
  clear hb3 x0 x1 x2 x3 x4 x5 x6 x7 x8 x9 x10 y0 y1 y2 y3 y4 y5 y6 y7 y8 y9 y10
  have x0 := OB2.out.c0
  have x1 := OB2.out.c1
  have x2 := OB2.out.c2
  have x3 := OB2.out.c3
  have x4 := OB2.out.c4
  have x5 := OB2.out.c5
  have x6 := OB2.out.c6
  have x7 := OB2.out.c7
  obtain ⟨x8, x9, x10⟩ := OB2.out.at11
  go_wp2_with fail
  refine (markWd d2 (w1.heap.size + 1) (w2.heap.size) (D2.out.fit HFD.out) _ (by have := Z1.out; have := Z2.out; have := Z3.out; omega) M2.out).mono ?_
  rintro e w4 ⟨q3, mm, rfl, hm, hz4, hh⟩
  have Z4 : Hid (w3.heap.size ≤ w4.heap.size) := hz4.size
  replace HB : Hid (Below w.heap.size w w4) := HB.out.trans (hz4.below (by have := Z1.out; have := Z2.out; have := Z3.out; omega) HB.out.size)
  replace M1 : Hid (StLie w4 (w.heap.size) w1.heap.size d1) := M1.out.zn hz4 (by have := Z1.out; have := Z2.out; have := Z3.out; omega)
  replace OB1 : Hid (Bx w4 (w1.heap.size) [.slice d1.e.b.va d1.e.b.vs.length d1.e.b.vc, .slice d1.e.b.pa d1.e.b.ps.length d1.e.b.pc, .slice d1.e.b.qa d1.e.b.qs.length d1.e.b.qc, .int .i64 d1.e.b.cs, .int .i64 d1.e.b.nx, .slice d1.e.oa d1.e.os.length d1.e.oc, .slice d1.d.sa d1.d.ss.length d1.d.sc, .slice d1.d.pa d1.d.ps.length d1.d.pc, .slice none 0 0, .slice none 0 0, .slice none 0 0]) := OB1.out.zn hz4 (by have := Z1.out; have := Z2.out; have := Z3.out; omega)
  replace OB2 : Hid (Bx w4 (w2.heap.size) [.slice d2.e.b.va d2.e.b.vs.length d2.e.b.vc, .slice d2.e.b.pa d2.e.b.ps.length d2.e.b.pc, .slice d2.e.b.qa d2.e.b.qs.length d2.e.b.qc, .int .i64 d2.e.b.cs, .int .i64 d2.e.b.nx, .slice d2.e.oa d2.e.os.length d2.e.oc, .slice d2.d.sa d2.d.ss.length d2.d.sc, .slice d2.d.pa d2.d.ps.length d2.d.pc, .slice none 0 0, .slice none 0 0, .slice none 0 0]) := OB2.out.zn hz4 (by have := Z1.out; have := Z2.out; have := Z3.out; omega)
  have MM : Hid (StLie w4 (w1.heap.size + 1) (w2.heap.size) mm) := hm
  have HH := hide hh
  clear hm hh
  clear hz4 x0 x1 x2 x3 x4 x5 x6 x7 x8 x9 x10 M2
  have hK3a : ¬ (q3 : Int) < 0 := by omega
  have hK3b := ne_self_int (q3 : Int)
  have x0 := OB2.out.c0
  have x1 := OB2.out.c1
  have x2 := OB2.out.c2
  have x3 := OB2.out.c3
  have x4 := OB2.out.c4
  have x5 := OB2.out.c5
  have x6 := OB2.out.c6
  have x7 := OB2.out.c7
  obtain ⟨x8, x9, x10⟩ := OB2.out.at11
  go_wp2_with fail
  refine (HH.out _ MM.out.rows).mono ?_
  rintro e w5 ⟨rfl, hb5⟩
  have Z5 : Hid (w4.heap.size ≤ w5.heap.size) := by show _ ≤ _; have h := hb5.size; simpa using h
  replace HB : Hid (Below w.heap.size w w5) := HB.out.trans (hb5.mono HB.out.size)
  replace M1 : Hid (StLie w5 (w.heap.size) w1.heap.size d1) := M1.out.below hb5
  replace OB1 : Hid (Bx w5 (w1.heap.size) [.slice d1.e.b.va d1.e.b.vs.length d1.e.b.vc, .slice d1.e.b.pa d1.e.b.ps.length d1.e.b.pc, .slice d1.e.b.qa d1.e.b.qs.length d1.e.b.qc, .int .i64 d1.e.b.cs, .int .i64 d1.e.b.nx, .slice d1.e.oa d1.e.os.length d1.e.oc, .slice d1.d.sa d1.d.ss.length d1.d.sc, .slice d1.d.pa d1.d.ps.length d1.d.pc, .slice none 0 0, .slice none 0 0, .slice none 0 0]) := OB1.out.below hb5
  replace OB2 : Hid (Bx w5 (w2.heap.size) [.slice d2.e.b.va d2.e.b.vs.length d2.e.b.vc, .slice d2.e.b.pa d2.e.b.ps.length d2.e.b.pc, .slice d2.e.b.qa d2.e.b.qs.length d2.e.b.qc, .int .i64 d2.e.b.cs, .int .i64 d2.e.b.nx, .slice d2.e.oa d2.e.os.length d2.e.oc, .slice d2.d.sa d2.d.ss.length d2.d.sc, .slice d2.d.pa d2.d.ps.length d2.d.pc, .slice none 0 0, .slice none 0 0, .slice none 0 0]) := OB2.out.below hb5
  replace MM : Hid (StLie w5 (w1.heap.size + 1) (w2.heap.size) mm) := MM.out.below hb5
  clear hb5 x0 x1 x2 x3 x4 x5 x6 x7 x8 x9 x10
  go_wp2_with fail
  refine (CI.out _).mono ?_
  rintro e w6 ⟨d4, rfl, hs, hl, hb6⟩
  have Z6 : Hid (w5.heap.size ≤ w6.heap.size) := by show _ ≤ _; have h := hb6.size; simpa using h
  replace HB : Hid (Below w.heap.size w w6) := HB.out.trans (hb6.mono HB.out.size)
  replace M1 : Hid (StLie w6 (w.heap.size) w1.heap.size d1) := M1.out.below hb6
  replace OB1 : Hid (Bx w6 (w1.heap.size) [.slice d1.e.b.va d1.e.b.vs.length d1.e.b.vc, .slice d1.e.b.pa d1.e.b.ps.length d1.e.b.pc, .slice d1.e.b.qa d1.e.b.qs.length d1.e.b.qc, .int .i64 d1.e.b.cs, .int .i64 d1.e.b.nx, .slice d1.e.oa d1.e.os.length d1.e.oc, .slice d1.d.sa d1.d.ss.length d1.d.sc, .slice d1.d.pa d1.d.ps.length d1.d.pc, .slice none 0 0, .slice none 0 0, .slice none 0 0]) := OB1.out.below hb6
  replace OB2 : Hid (Bx w6 (w2.heap.size) [.slice d2.e.b.va d2.e.b.vs.length d2.e.b.vc, .slice d2.e.b.pa d2.e.b.ps.length d2.e.b.pc, .slice d2.e.b.qa d2.e.b.qs.length d2.e.b.qc, .int .i64 d2.e.b.cs, .int .i64 d2.e.b.nx, .slice d2.e.oa d2.e.os.length d2.e.oc, .slice d2.d.sa d2.d.ss.length d2.d.sc, .slice d2.d.pa d2.d.ps.length d2.d.pc, .slice none 0 0, .slice none 0 0, .slice none 0 0]) := OB2.out.below hb6
  replace MM : Hid (StLie w6 (w1.heap.size + 1) (w2.heap.size) mm) := MM.out.below hb6
  have D4 : Hid (StSame DD d4) := hs
  clear hs
  clear hb6
  have M4 : Hid (StLie w6 (w5.heap.size) w6.heap.size d4) := hl
  clear hl
  have hba : Below w6.heap.size w6 (w6.alloc (.cells #[.slice d4.e.b.va d4.e.b.vs.length d4.e.b.vc, .slice d4.e.b.pa d4.e.b.ps.length d4.e.b.pc, .slice d4.e.b.qa d4.e.b.qs.length d4.e.b.qc, .int .i64 d4.e.b.cs, .int .i64 d4.e.b.nx, .slice d4.e.oa d4.e.os.length d4.e.oc, .slice d4.d.sa d4.d.ss.length d4.d.sc, .slice d4.d.pa d4.d.ps.length d4.d.pc, .slice none 0 0, .slice none 0 0, .slice none 0 0] 44)) := (belowRefl _).alloc (Nat.le_refl _) _
  replace HB : Hid (Below w.heap.size w (w6.alloc (.cells #[.slice d4.e.b.va d4.e.b.vs.length d4.e.b.vc, .slice d4.e.b.pa d4.e.b.ps.length d4.e.b.pc, .slice d4.e.b.qa d4.e.b.qs.length d4.e.b.qc, .int .i64 d4.e.b.cs, .int .i64 d4.e.b.nx, .slice d4.e.oa d4.e.os.length d4.e.oc, .slice d4.d.sa d4.d.ss.length d4.d.sc, .slice d4.d.pa d4.d.ps.length d4.d.pc, .slice none 0 0, .slice none 0 0, .slice none 0 0] 44))) := HB.out.trans (hba.mono HB.out.size)
  replace M1 : Hid (StLie (w6.alloc (.cells #[.slice d4.e.b.va d4.e.b.vs.length d4.e.b.vc, .slice d4.e.b.pa d4.e.b.ps.length d4.e.b.pc, .slice d4.e.b.qa d4.e.b.qs.length d4.e.b.qc, .int .i64 d4.e.b.cs, .int .i64 d4.e.b.nx, .slice d4.e.oa d4.e.os.length d4.e.oc, .slice d4.d.sa d4.d.ss.length d4.d.sc, .slice d4.d.pa d4.d.ps.length d4.d.pc, .slice none 0 0, .slice none 0 0, .slice none 0 0] 44)) (w.heap.size) w1.heap.size d1) := M1.out.below hba
  replace OB1 : Hid (Bx (w6.alloc (.cells #[.slice d4.e.b.va d4.e.b.vs.length d4.e.b.vc, .slice d4.e.b.pa d4.e.b.ps.length d4.e.b.pc, .slice d4.e.b.qa d4.e.b.qs.length d4.e.b.qc, .int .i64 d4.e.b.cs, .int .i64 d4.e.b.nx, .slice d4.e.oa d4.e.os.length d4.e.oc, .slice d4.d.sa d4.d.ss.length d4.d.sc, .slice d4.d.pa d4.d.ps.length d4.d.pc, .slice none 0 0, .slice none 0 0, .slice none 0 0] 44)) (w1.heap.size) [.slice d1.e.b.va d1.e.b.vs.length d1.e.b.vc, .slice d1.e.b.pa d1.e.b.ps.length d1.e.b.pc, .slice d1.e.b.qa d1.e.b.qs.length d1.e.b.qc, .int .i64 d1.e.b.cs, .int .i64 d1.e.b.nx, .slice d1.e.oa d1.e.os.length d1.e.oc, .slice d1.d.sa d1.d.ss.length d1.d.sc, .slice d1.d.pa d1.d.ps.length d1.d.pc, .slice none 0 0, .slice none 0 0, .slice none 0 0]) := OB1.out.below hba
  replace OB2 : Hid (Bx (w6.alloc (.cells #[.slice d4.e.b.va d4.e.b.vs.length d4.e.b.vc, .slice d4.e.b.pa d4.e.b.ps.length d4.e.b.pc, .slice d4.e.b.qa d4.e.b.qs.length d4.e.b.qc, .int .i64 d4.e.b.cs, .int .i64 d4.e.b.nx, .slice d4.e.oa d4.e.os.length d4.e.oc, .slice d4.d.sa d4.d.ss.length d4.d.sc, .slice d4.d.pa d4.d.ps.length d4.d.pc, .slice none 0 0, .slice none 0 0, .slice none 0 0] 44)) (w2.heap.size) [.slice d2.e.b.va d2.e.b.vs.length d2.e.b.vc, .slice d2.e.b.pa d2.e.b.ps.length d2.e.b.pc, .slice d2.e.b.qa d2.e.b.qs.length d2.e.b.qc, .int .i64 d2.e.b.cs, .int .i64 d2.e.b.nx, .slice d2.e.oa d2.e.os.length d2.e.oc, .slice d2.d.sa d2.d.ss.length d2.d.sc, .slice d2.d.pa d2.d.ps.length d2.d.pc, .slice none 0 0, .slice none 0 0, .slice none 0 0]) := OB2.out.below hba
  replace MM : Hid (StLie (w6.alloc (.cells #[.slice d4.e.b.va d4.e.b.vs.length d4.e.b.vc, .slice d4.e.b.pa d4.e.b.ps.length d4.e.b.pc, .slice d4.e.b.qa d4.e.b.qs.length d4.e.b.qc, .int .i64 d4.e.b.cs, .int .i64 d4.e.b.nx, .slice d4.e.oa d4.e.os.length d4.e.oc, .slice d4.d.sa d4.d.ss.length d4.d.sc, .slice d4.d.pa d4.d.ps.length d4.d.pc, .slice none 0 0, .slice none 0 0, .slice none 0 0] 44)) (w1.heap.size + 1) (w2.heap.size) mm) := MM.out.below hba
  replace M4 : Hid (StLie (w6.alloc (.cells #[.slice d4.e.b.va d4.e.b.vs.length d4.e.b.vc, .slice d4.e.b.pa d4.e.b.ps.length d4.e.b.pc, .slice d4.e.b.qa d4.e.b.qs.length d4.e.b.qc, .int .i64 d4.e.b.cs, .int .i64 d4.e.b.nx, .slice d4.e.oa d4.e.os.length d4.e.oc, .slice d4.d.sa d4.d.ss.length d4.d.sc, .slice d4.d.pa d4.d.ps.length d4.d.pc, .slice none 0 0, .slice none 0 0, .slice none 0 0] 44)) (w5.heap.size) w6.heap.size d4) := M4.out.below hba
  clear hba
  have OB4 : Hid (Bx (w6.alloc (.cells #[.slice d4.e.b.va d4.e.b.vs.length d4.e.b.vc, .slice d4.e.b.pa d4.e.b.ps.length d4.e.b.pc, .slice d4.e.b.qa d4.e.b.qs.length d4.e.b.qc, .int .i64 d4.e.b.cs, .int .i64 d4.e.b.nx, .slice d4.e.oa d4.e.os.length d4.e.oc, .slice d4.d.sa d4.d.ss.length d4.d.sc, .slice d4.d.pa d4.d.ps.length d4.d.pc, .slice none 0 0, .slice none 0 0, .slice none 0 0] 44)) (w6.heap.size) [.slice d4.e.b.va d4.e.b.vs.length d4.e.b.vc, .slice d4.e.b.pa d4.e.b.ps.length d4.e.b.pc, .slice d4.e.b.qa d4.e.b.qs.length d4.e.b.qc, .int .i64 d4.e.b.cs, .int .i64 d4.e.b.nx, .slice d4.e.oa d4.e.os.length d4.e.oc, .slice d4.d.sa d4.d.ss.length d4.d.sc, .slice d4.d.pa d4.d.ps.length d4.d.pc, .slice none 0 0, .slice none 0 0, .slice none 0 0]) := Bx.new w6 [.slice d4.e.b.va d4.e.b.vs.length d4.e.b.vc, .slice d4.e.b.pa d4.e.b.ps.length d4.e.b.pc, .slice d4.e.b.qa d4.e.b.qs.length d4.e.b.qc, .int .i64 d4.e.b.cs, .int .i64 d4.e.b.nx, .slice d4.e.oa d4.e.os.length d4.e.oc, .slice d4.d.sa d4.d.ss.length d4.d.sc, .slice d4.d.pa d4.d.ps.length d4.d.pc, .slice none 0 0, .slice none 0 0, .slice none 0 0] 44
  have x0 := OB4.out.c0
  have x1 := OB4.out.c1
  have x2 := OB4.out.c2
  have x3 := OB4.out.c3
  have x4 := OB4.out.c4
  have x5 := OB4.out.c5
  have x6 := OB4.out.c6
  have x7 := OB4.out.c7
  obtain ⟨x8, x9, x10⟩ := OB4.out.at11
  have y0 := OB1.out.c0
  have y1 := OB1.out.c1
  have y2 := OB1.out.c2
  have y3 := OB1.out.c3
  have y4 := OB1.out.c4
  have y5 := OB1.out.c5
  have y6 := OB1.out.c6
  have y7 := OB1.out.c7
  obtain ⟨y8, y9, y10⟩ := OB1.out.at11
  go_wp2_with fail
  refine (eqW d4 d1 (D4.out.symm.trans D1.out) (D4.out.fit HFD.out) _ M4.out.rows M1.out.rows).mono ?_
  rintro e w7 ⟨rfl, hb7⟩
  have Z7 : Hid (w6.heap.size + 1 ≤ w7.heap.size) := by show _ ≤ _; have h := hb7.size; simpa using h
  replace HB : Hid (Below w.heap.size w w7) := HB.out.trans (hb7.mono HB.out.size)
  replace M1 : Hid (StLie w7 (w.heap.size) w1.heap.size d1) := M1.out.below hb7
  replace OB1 : Hid (Bx w7 (w1.heap.size) [.slice d1.e.b.va d1.e.b.vs.length d1.e.b.vc, .slice d1.e.b.pa d1.e.b.ps.length d1.e.b.pc, .slice d1.e.b.qa d1.e.b.qs.length d1.e.b.qc, .int .i64 d1.e.b.cs, .int .i64 d1.e.b.nx, .slice d1.e.oa d1.e.os.length d1.e.oc, .slice d1.d.sa d1.d.ss.length d1.d.sc, .slice d1.d.pa d1.d.ps.length d1.d.pc, .slice none 0 0, .slice none 0 0, .slice none 0 0]) := OB1.out.below hb7
  replace OB2 : Hid (Bx w7 (w2.heap.size) [.slice d2.e.b.va d2.e.b.vs.length d2.e.b.vc, .slice d2.e.b.pa d2.e.b.ps.length d2.e.b.pc, .slice d2.e.b.qa d2.e.b.qs.length d2.e.b.qc, .int .i64 d2.e.b.cs, .int .i64 d2.e.b.nx, .slice d2.e.oa d2.e.os.length d2.e.oc, .slice d2.d.sa d2.d.ss.length d2.d.sc, .slice d2.d.pa d2.d.ps.length d2.d.pc, .slice none 0 0, .slice none 0 0, .slice none 0 0]) := OB2.out.below hb7
  replace MM : Hid (StLie w7 (w1.heap.size + 1) (w2.heap.size) mm) := MM.out.below hb7
  replace M4 : Hid (StLie w7 (w5.heap.size) w6.heap.size d4) := M4.out.below hb7
  replace OB4 : Hid (Bx w7 (w6.heap.size) [.slice d4.e.b.va d4.e.b.vs.length d4.e.b.vc, .slice d4.e.b.pa d4.e.b.ps.length d4.e.b.pc, .slice d4.e.b.qa d4.e.b.qs.length d4.e.b.qc, .int .i64 d4.e.b.cs, .int .i64 d4.e.b.nx, .slice d4.e.oa d4.e.os.length d4.e.oc, .slice d4.d.sa d4.d.ss.length d4.d.sc, .slice d4.d.pa d4.d.ps.length d4.d.pc, .slice none 0 0, .slice none 0 0, .slice none 0 0]) := OB4.out.below hb7
  clear hb7 x0 x1 x2 x3 x4 x5 x6 x7 x8 x9 x10 y0 y1 y2 y3 y4 y5 y6 y7 y8 y9 y10
  have x0 := OB2.out.c0
  have x1 := OB2.out.c1
  have x2 := OB2.out.c2
  have x3 := OB2.out.c3
  have x4 := OB2.out.c4
  have x5 := OB2.out.c5
  have x6 := OB2.out.c6
  have x7 := OB2.out.c7
  obtain ⟨x8, x9, x10⟩ := OB2.out.at11
  go_wp2_with fail
  refine (HH.out _ MM.out.rows).mono ?_
  rintro e w8 ⟨rfl, hb8⟩
  have Z8 : Hid (w7.heap.size ≤ w8.heap.size) := by show _ ≤ _; have h := hb8.size; simpa using h
  replace HB : Hid (Below w.heap.size w w8) := HB.out.trans (hb8.mono HB.out.size)
  replace M1 : Hid (StLie w8 (w.heap.size) w1.heap.size d1) := M1.out.below hb8
  replace OB1 : Hid (Bx w8 (w1.heap.size) [.slice d1.e.b.va d1.e.b.vs.length d1.e.b.vc, .slice d1.e.b.pa d1.e.b.ps.length d1.e.b.pc, .slice d1.e.b.qa d1.e.b.qs.length d1.e.b.qc, .int .i64 d1.e.b.cs, .int .i64 d1.e.b.nx, .slice d1.e.oa d1.e.os.length d1.e.oc, .slice d1.d.sa d1.d.ss.length d1.d.sc, .slice d1.d.pa d1.d.ps.length d1.d.pc, .slice none 0 0, .slice none 0 0, .slice none 0 0]) := OB1.out.below hb8
  replace OB2 : Hid (Bx w8 (w2.heap.size) [.slice d2.e.b.va d2.e.b.vs.length d2.e.b.vc, .slice d2.e.b.pa d2.e.b.ps.length d2.e.b.pc, .slice d2.e.b.qa d2.e.b.qs.length d2.e.b.qc, .int .i64 d2.e.b.cs, .int .i64 d2.e.b.nx, .slice d2.e.oa d2.e.os.length d2.e.oc, .slice d2.d.sa d2.d.ss.length d2.d.sc, .slice d2.d.pa d2.d.ps.length d2.d.pc, .slice none 0 0, .slice none 0 0, .slice none 0 0]) := OB2.out.below hb8
  replace MM : Hid (StLie w8 (w1.heap.size + 1) (w2.heap.size) mm) := MM.out.below hb8
  replace M4 : Hid (StLie w8 (w5.heap.size) w6.heap.size d4) := M4.out.below hb8
  replace OB4 : Hid (Bx w8 (w6.heap.size) [.slice d4.e.b.va d4.e.b.vs.length d4.e.b.vc, .slice d4.e.b.pa d4.e.b.ps.length d4.e.b.pc, .slice d4.e.b.qa d4.e.b.qs.length d4.e.b.qc, .int .i64 d4.e.b.cs, .int .i64 d4.e.b.nx, .slice d4.e.oa d4.e.os.length d4.e.oc, .slice d4.d.sa d4.d.ss.length d4.d.sc, .slice d4.d.pa d4.d.ps.length d4.d.pc, .slice none 0 0, .slice none 0 0, .slice none 0 0]) := OB4.out.below hb8
  clear hb8 x0 x1 x2 x3 x4 x5 x6 x7 x8 x9 x10
  go_wp2
  go_ret
  exact ⟨rfl, HB.out⟩
end Go.Proofs.Ytnneodofajhbcaa
