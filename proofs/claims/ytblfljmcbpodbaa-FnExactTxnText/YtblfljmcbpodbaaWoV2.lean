/- What spec.ShortText and impl.ShortText return. -/
import Derived.Test.YtblfljmcbpodbaaWoV1
namespace Go.Proofs.Ytblfljmcbpodbaa
open Go.RowKit

theorem size_mk (l : List UInt8) : (⟨l.toArray⟩ : ByteArray).size = l.length := by simp [ByteArray.size]

set_option maxHeartbeats 400000 in
theorem ishort_no (s : ByteArray) (h : 20000 < s.size) (w : World) :
    Calls Try.prog 148 #[.string s] w fun e w' => e = .returned (.tuple #[.string ⟨#[]⟩, .bool false]) ∧ w' = w := by
  go_enter Try.func148, Try.ntmps148
  go_wp2
  go_ret2
  exact ⟨rfl, rfl⟩

set_option maxHeartbeats 400000 in
theorem ishort_yes (s : ByteArray) (h : s.size ≤ 20000) (w : World) :
    Calls Try.prog 148 #[.string s] w fun e w' => e = .returned (.tuple #[.string (⟨(WM.varL s.size).toArray⟩ ++ s), .bool true]) ∧ Below w.heap.size w w' := by
  have h5 := WM.varL_len5 s.size (by omega)
  have hz : (⟨(WM.varL s.size).toArray⟩ : ByteArray).size ≤ 5 := by rw [size_mk]; exact h5
  clear h5
  go_enter Try.func148, Try.ntmps148
  go_wp2_with (first | (go_at_call 146; refine (ivar_yes s.size (by omega) _).mono ?_; rintro e w' ⟨rfl, hb⟩) | go_in)
  go_ret2
  exact ⟨rfl, hb⟩

end Go.Proofs.Ytblfljmcbpodbaa
