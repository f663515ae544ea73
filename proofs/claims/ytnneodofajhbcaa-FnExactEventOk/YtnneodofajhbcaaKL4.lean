/- Lists of which each one has a key: those above a limit. -/
import Derived.Test.YtnneodofajhbcaaKL2
import Derived.Deep.RegionHeld3
import Derived.Deep.Cut
import Derived.Deep.CutRange
import Derived.Laws.EntriesVeiled
namespace Go.Proofs.Ytnneodofajhbcaa
open Go.RowKit
open KM
attribute [local go_sem ↓] Go.wp_at_zero Go.wp_at_succ

theorem filter_len_any {α : Type} (p : α → Bool) (xs : List α) : decide ((0 : Int) < ((xs.filter p).length : Int)) = xs.any p := by
  rw [Bool.eq_iff_iff, decide_eq_true_eq, List.any_eq_true]
  constructor
  · intro h
    have h' : 0 < (xs.filter p).length := by omega
    obtain ⟨x, hx⟩ := List.exists_mem_of_length_pos h'
    exact ⟨x, (List.mem_filter.1 hx).1, (List.mem_filter.1 hx).2⟩
  · rintro ⟨x, hx, hp⟩
    have h' : 0 < (xs.filter p).length := List.length_pos_of_mem (List.mem_filter.2 ⟨hx, hp⟩)
    omega

theorem tone {y : Ta} : ∀ u ∈ encT.enc y, u.oneCell' = true := by
  intro u hu
  simp only [encT, List.mem_cons, List.not_mem_nil, or_false] at hu
  rcases hu with rfl | rfl | rfl | rfl | rfl | rfl | rfl | rfl <;> rfl

end Go.Proofs.Ytnneodofajhbcaa
