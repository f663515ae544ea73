/- What spec.VersionsOk returns. -/
import Derived.Test.YtnneodofajhbcaaV2
namespace Go.Proofs.Ytnneodofajhbcaa
open Go.RowKit
open KM
attribute [local go_sem ↓] Go.wp_at_zero Go.wp_at_succ

theorem asc_lt {a b : Vr} (h : Op.bytesLess a.1.toList b.1.toList = true) : asc a b = true := by
  unfold asc lt
  rw [h]; rfl
theorem asc_no {a b : Vr} (h1 : Op.bytesLess a.1.toList b.1.toList = false) (h2 : (a.1.toList == b.1.toList) = false) : asc a b = false := by
  unfold asc lt
  rw [beq_text] at h2
  rw [h1, h2]; rfl
theorem asc_eq {a b : Vr} (h2 : (a.1.toList == b.1.toList) = true) : asc a b = decide (a.2.2.2 < b.2.2.2) := by
  have e : a.1 = b.1 := by rw [beq_text] at h2; simpa using h2
  unfold asc lt
  rw [e, less_irrefl]
  simp

end Go.Proofs.Ytnneodofajhbcaa
