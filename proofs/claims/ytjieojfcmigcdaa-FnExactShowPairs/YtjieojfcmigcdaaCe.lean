/- Cells and pairs: their sizes, copies, likeness and marks. -/
import Derived.Test.YtjieojfcmigcdaaFit
import Derived.Test.YtjieojfcmigcdaaK2
import Derived.Test.YtjieojfcmigcdaaK1
import Derived.WalkSpells
import Derived.WalkLawsBesides
import Derived.Deep.QuietTactic
import Derived.BigQuiet
import Derived.Deep.RegionHeld3
import Derived.Deep.DrawnRows
import Derived.Test.YtjieojfcmigcdaaVMv
import Derived.Test.YtjieojfcmigcdaaVMr
import Derived.Test.YtjieojfcmigcdaaLie
namespace Go.Proofs.Ytjieojfcmigcdaa
open Go.RowKit
open KM
attribute [local go_sem ↓] Go.wp_at_zero Go.wp_at_succ

theorem Try.info34 : (Try.prog.info? 34).map (fun i => (i.zero, i.size, i.bytes)) = some (some (.agg #[.string ByteArray.empty, .string ByteArray.empty]), 2, 32) := by kernel_rfl
set_option maxHeartbeats 400000 in
theorem eqp (x0 : ByteArray) (x1 : ByteArray) (w : World) :
    Calls Try.prog 14 #[.agg #[.string x0, .string x1], .agg #[.string x0, .string x1]] w fun e w' => e = .returned (.bool true) ∧ Below w.heap.size w w' := by
  go_enter Try.func14, Try.ntmps14
  go_wp2
  go_ret
  exact ⟨rfl, ((belowRefl w).alloc (Nat.le_refl _) _).alloc (by simp) _⟩

set_option maxRecDepth 100000 in
set_option maxHeartbeats 1000000 in
theorem eqSP (a1 a2 : Option Addr) (c1 c2 : Nat) (xs : List Rg) (hn : xs.length ≤ 100000000) (w : World) (h1 : GRow encR w a1 xs) (h2 : GRow encR w a2 xs) :
    Calls Try.prog 8 #[.slice a1 xs.length c1, .slice a2 xs.length c2] w fun e w' => e = .returned (.bool true) ∧ Below w.heap.size w w' := by
  have H1 : Hid (GRow encR w a1 xs) := h1
  have H2 : Hid (GRow encR w a2 xs) := h2
  clear h1 h2
  go_enter Try.func8, Try.ntmps8
  go_wp2
  go_loopw [5] (fun t wr => ∃ k : Nat, k ≤ xs.length ∧ t = .int .i64 k ∧ Hid (Below w.heap.size w wr)) (fun t _ => xs.length - (intOf t).toNat)
  case atStart => exact ⟨0, Nat.zero_le _, rfl, Below.refl _ _⟩
  case round =>
    obtain ⟨k, hk, rfl, HB⟩ := hrel
    by_cases hlt : k < xs.length
    · have hlt' : (k : Int) < (xs.length : Int) := by omega
      have h0 : (0 : Int) ≤ (k : Int) := by omega
      obtain ⟨b1, off1, rfl, hl1, q1⟩ := (H1.out.below HB.out) (by omega)
      obtain ⟨b2, off2, rfl, hl2, q2⟩ := (H2.out.below HB.out) (by omega)
      have r10 := ((rat q1) k hlt).1
      have r11 := ((rat q1) k hlt).2
      have r20 := ((rat q2) k hlt).1
      have r21 := ((rat q2) k hlt).2
      clear q1 q2
      go_wp2
      go_region_held3 (fun w' => w'.cell? ⟨b1, off1 + k * 2, none⟩ = some (.string xs[k].1) ∧ w'.cell? ⟨b1, off1 + k * 2 + 1, none⟩ = some (.string xs[k].2) ∧ w'.cell? ⟨b2, off2 + k * 2, none⟩ = some (.string xs[k].1) ∧ w'.cell? ⟨b2, off2 + k * 2 + 1, none⟩ = some (.string xs[k].2)) (first | go_keep | exact ⟨(hbm.cell (p := ⟨b1, off1 + k * 2, none⟩) hl1).trans r10, (hbm.cell (p := ⟨b1, off1 + k * 2 + 1, none⟩) hl1).trans r11, (hbm.cell (p := ⟨b2, off2 + k * 2, none⟩) hl2).trans r20, (hbm.cell (p := ⟨b2, off2 + k * 2 + 1, none⟩) hl2).trans r21⟩) ((go_at_call 14; refine (eqp _ _ _).mono ?_; rintro e w2 ⟨rfl, hbm⟩))
      all_goals
        go_wp2
        go_roundw
        case rel => exact ⟨k + 1, by omega, by go_num, (HB.out.drew).trans (hbm.mono HB.out.size)⟩
        case measure => simp [intOf]; omega
    · have hd : ¬ (k : Int) < (xs.length : Int) := by omega
      go_wp2
      go_ret
      exact ⟨rfl, HB.out⟩

/-- the marks of a row -/
def mkC (k n : Nat) : List Rg := (List.range n).map fun j => (mkB (k + 2 * j), mkB ((k + 2 * j) + 1))
theorem mkC_len (k n : Nat) : (mkC k n).length = n := by simp [mkC]
theorem mkC_at (k n j : Nat) (h : j < n) : (mkC k n)[j]'(by rw [mkC_len]; exact h) = (mkB (k + 2 * j), mkB ((k + 2 * j) + 1)) := by simp [mkC]

/-- the marks of a row -/
def mkQ (k n : Nat) : List Rg := (List.range n).map fun j => (mkB (k + 2 * j), mkB ((k + 2 * j) + 1))
theorem mkQ_len (k n : Nat) : (mkQ k n).length = n := by simp [mkQ]
theorem mkQ_at (k n j : Nat) (h : j < n) : (mkQ k n)[j]'(by rw [mkQ_len]; exact h) = (mkB (k + 2 * j), mkB ((k + 2 * j) + 1)) := by simp [mkQ]

end Go.Proofs.Ytjieojfcmigcdaa
