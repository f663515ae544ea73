/- What spec.ShortText and impl.ShortText return. -/
import Derived.Test.YtneknebckpajaaaV1
namespace Go.Proofs.Ytneknebckpajaaa
open Go.RowKit

theorem size_mk (l : List UInt8) : (⟨l.toArray⟩ : ByteArray).size = l.length := by simp [ByteArray.size]

set_option maxHeartbeats 400000 in
theorem sshort_no (s : ByteArray) (h : 20000 < s.size) (w : World) :
    Calls Try.prog 14 #[.string s] w fun e w' => e = .returned (.tuple #[.string ⟨#[]⟩, .bool false]) ∧ w' = w := by
  go_enter Try.func14, Try.ntmps14
  go_wp2
  go_ret2
  exact ⟨rfl, rfl⟩

set_option maxHeartbeats 400000 in
theorem sshort_yes (s : ByteArray) (h : s.size ≤ 20000) (w : World) :
    Calls Try.prog 14 #[.string s] w fun e w' => e = .returned (.tuple #[.string (⟨(WM.varL s.size).toArray⟩ ++ s), .bool true]) ∧ Below w.heap.size w w' := by
  have h5 := WM.varL_len5 s.size (by omega)
  have hz : (⟨(WM.varL s.size).toArray⟩ : ByteArray).size ≤ 5 := by rw [size_mk]; exact h5
  clear h5
  go_enter Try.func14, Try.ntmps14
  go_wp2_with (first | (go_at_call 28; refine (var28 s.size (by omega) _).mono ?_; rintro e w' ⟨rfl, hb⟩) | go_in)
  go_ret2
  exact ⟨rfl, hb⟩

set_option maxHeartbeats 400000 in
theorem ishort_no (s : ByteArray) (h : 20000 < s.size) (w : World) :
    Calls Try.prog 15 #[.string s] w fun e w' => e = .returned (.tuple #[.string ⟨#[]⟩, .bool false]) ∧ w' = w := by
  go_enter Try.func15, Try.ntmps15
  go_wp2
  go_ret2
  exact ⟨rfl, rfl⟩

set_option maxHeartbeats 400000 in
theorem ishort_yes (s : ByteArray) (h : s.size ≤ 20000) (w : World) :
    Calls Try.prog 15 #[.string s] w fun e w' => e = .returned (.tuple #[.string (⟨(WM.varL s.size).toArray⟩ ++ s), .bool true]) ∧ Below w.heap.size w w' := by
  have h5 := WM.varL_len5 s.size (by omega)
  have hz : (⟨(WM.varL s.size).toArray⟩ : ByteArray).size ≤ 5 := by rw [size_mk]; exact h5
  clear h5
  go_enter Try.func15, Try.ntmps15
  go_wp2_with (first | (go_at_call 11; refine (ivar_yes s.size (by omega) _).mono ?_; rintro e w' ⟨rfl, hb⟩) | go_in)
  go_ret2
  exact ⟨rfl, hb⟩

set_option maxHeartbeats 400000 in
theorem law5 (s : ByteArray) (hs : s.size ≤ maxLen) (w : World) : Calls Try.prog 5 #[.string s] w fun e w' => e = .returned (.bool true) ∧ Below w.heap.size w w' := by
  unfold maxLen at hs
  by_cases hbig : 1048576 < s.size
  · go_enter Try.func5, Try.ntmps5
    go_wp2
    go_ret
    exact ⟨rfl, Below.refl _ _⟩
  by_cases h : 20000 < s.size
  · go_enter Try.func5, Try.ntmps5
    go_wp2_with (first | (go_at_call 14; refine (sshort_no s h _).mono ?_; rintro e w' ⟨rfl, rfl⟩) | (go_at_call 15; refine (ishort_no s h _).mono ?_; rintro e w' ⟨rfl, rfl⟩))
    go_ret
    exact ⟨rfl, Below.refl _ _⟩
  · have hk : s.size ≤ 20000 := by omega
    clear h
    go_enter Try.func5, Try.ntmps5
    go_wp2_with (first | (go_at_call 14; refine (sshort_yes s hk _).mono ?_; rintro e w1 ⟨rfl, hb1⟩) | (go_at_call 15; refine (ishort_yes s hk _).mono ?_; rintro e w2 ⟨rfl, hb2⟩))
    go_ret
    exact ⟨rfl, hb1.trans (hb2.mono hb1.size)⟩
end Go.Proofs.Ytneknebckpajaaa
