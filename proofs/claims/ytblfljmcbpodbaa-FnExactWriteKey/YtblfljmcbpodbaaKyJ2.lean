/- The law FnWrites, walked. -/
import Derived.Test.YtblfljmcbpodbaaKyC2
import Derived.Test.YtblfljmcbpodbaaKyW1
namespace Go.Proofs.Ytblfljmcbpodbaa
open Go.RowKit
open KM
attribute [local go_sem ↓] Go.wp_at_zero Go.wp_at_succ

theorem lt_of_ne {a b : ByteArray} (h : lt a b = false) (hne : a ≠ b) : lt b a = true := less_total _ _ h (fun e => hne (toList_inj e))
theorem filter_all' {ys : List Wt} {p : Wt → Bool} (h : ∀ z ∈ ys, p z = true) : ys.filter p = ys := List.filter_eq_self.2 h
theorem filter_none' {ys : List Wt} {p : Wt → Bool} (h : ∀ z ∈ ys, p z = false) : ys.filter p = [] := List.filter_eq_nil_iff.2 (fun z hz => by rw [h z hz]; simp)
/-- on ascending writes both make the same -/
theorem putI_eq : ∀ (xs : List Wt) (x : Wt), Asc xs → putI xs x = putS xs x
  | [], x, _ => rfl
  | y :: ys, x, h => by
    obtain ⟨h1, h2⟩ := List.pairwise_cons.1 h
    have ih := putI_eq ys x h2
    by_cases e : y.1 = x.1
    · have ha : (y :: ys).any (fun z => decide (z.1 = x.1)) = true := by simp [e]
      have hf : fidx (y :: ys) x.1 = 0 := by unfold fidx; rw [if_pos e]
      unfold putI putS
      rw [if_pos ha, hf]
      have h3 : ∀ z ∈ ys, lt x.1 z.1 = true := fun z hz => by rw [← e]; exact h1 z hz
      have f1 : (y :: ys).filter (fun z => lt z.1 x.1) = [] := filter_none' (fun z hz => by
        rcases List.mem_cons.1 hz with rfl | hz
        · rw [e]; exact lt_irrefl' _
        · exact lt_asymm' (h3 z hz))
      have f2 : (y :: ys).filter (fun z => lt x.1 z.1) = ys := by
        rw [List.filter_cons, e, lt_irrefl']
        simp only [Bool.false_eq_true, if_false]
        exact filter_all' h3
      rw [f1, f2]
      rfl
    · by_cases ha : ys.any (fun z => decide (z.1 = x.1)) = true
      · have ha' : (y :: ys).any (fun z => decide (z.1 = x.1)) = true := by rw [List.any_cons, ha]; simp
        have hf : fidx (y :: ys) x.1 = fidx ys x.1 + 1 := by unfold fidx; rw [if_neg e]; cases ys <;> rfl
        have hy : lt y.1 x.1 = true := by
          rw [List.any_eq_true] at ha
          obtain ⟨z, hz, ez⟩ := ha
          have := h1 z hz
          rw [of_decide_eq_true ez] at this
          exact this
        unfold putI putS at ih ⊢
        rw [if_pos ha] at ih
        rw [if_pos ha', hf, List.set_cons_succ, ih, List.filter_cons, hy, List.filter_cons, lt_asymm' hy]
        simp
      · have ha' : ¬ (y :: ys).any (fun z => decide (z.1 = x.1)) = true := by rw [List.any_cons]; simp [e]; simpa using ha
        cases hl : lt x.1 y.1
        · have hy : lt y.1 x.1 = true := lt_of_ne hl (fun e' => e e'.symm)
          have hx : aidx (y :: ys) x.1 = aidx ys x.1 + 1 := by
            show (if lt x.1 y.1 then 0 else aidx ys x.1 + 1) = _
            rw [hl]; rfl
          unfold putI putS at ih ⊢
          rw [if_neg ha] at ih
          rw [if_neg ha', hx, List.filter_cons, hy, List.filter_cons, hl]
          have e2 : insAt (y :: ys) (aidx ys x.1 + 1) x = y :: insAt ys (aidx ys x.1) x := by unfold insAt; simp
          rw [e2, ih]
          simp
        · have hx : aidx (y :: ys) x.1 = 0 := by
            show (if lt x.1 y.1 then 0 else aidx ys x.1 + 1) = _
            rw [hl]; rfl
          have h3 : ∀ z ∈ y :: ys, lt x.1 z.1 = true := fun z hz => by
            rcases List.mem_cons.1 hz with rfl | hz
            · exact hl
            · exact lt_trans' hl (h1 z hz)
          unfold putI putS
          rw [if_neg ha', hx, filter_none' (fun z hz => lt_asymm' (h3 z hz)), filter_all' h3]
          unfold insAt
          simp

end Go.Proofs.Ytblfljmcbpodbaa
