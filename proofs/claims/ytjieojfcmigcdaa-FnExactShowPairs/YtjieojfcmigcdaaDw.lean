/- Writes that are drawn. -/
import Derived.Test.YtjieojfcmigcdaaDk
import Derived.Test.YtjieojfcmigcdaaDp
import Derived.Test.YtjieojfcmigcdaaFit
namespace Go.Proofs.Ytjieojfcmigcdaa
open Go.RowKit
open KM
attribute [local go_sem ↓] Go.wp_at_zero Go.wp_at_succ

theorem less_trans : ∀ a b c : List UInt8, Op.bytesLess a b = true → Op.bytesLess b c = true → Op.bytesLess a c = true
  | [], [], _, h, _ => by simp [Op.bytesLess] at h
  | [], _ :: _, [], _, h => by simp [Op.bytesLess] at h
  | [], _ :: _, _ :: _, _, _ => by simp [Op.bytesLess]
  | _ :: _, [], _, h, _ => by simp [Op.bytesLess] at h
  | _ :: _, _ :: _, [], _, h => by simp [Op.bytesLess] at h
  | x :: a, y :: b, z :: c, h, h2 => by
    simp only [Op.bytesLess, Bool.or_eq_true, decide_eq_true_eq, Bool.and_eq_true, beq_iff_eq] at h h2 ⊢
    rcases h with h | ⟨rfl, h⟩
    · have h' := UInt8.lt_iff_toNat_lt.1 h
      rcases h2 with h2 | ⟨rfl, _⟩
      · have h2' := UInt8.lt_iff_toNat_lt.1 h2
        exact Or.inl (UInt8.lt_iff_toNat_lt.2 (by omega))
      · exact Or.inl h
    · rcases h2 with h2 | ⟨rfl, h2⟩
      · exact Or.inl h2
      · exact Or.inr ⟨rfl, less_trans a b c h h2⟩
theorem lt_trans' {a b c : ByteArray} (h : lt a b = true) (h2 : lt b c = true) : lt a c = true := less_trans _ _ _ h h2
theorem lt_asymm' {a b : ByteArray} (h : lt a b = true) : lt b a = false := less_asymm _ _ h
theorem lt_irrefl' (a : ByteArray) : lt a a = false := less_irrefl _

/-- a right write, short -/
def WtD (x : Wt) : Prop := writeB x = true ∧ x.1.size ≤ 3 ∧ x.2.1.size ≤ 3
def Asc (xs : List Wt) : Prop := xs.Pairwise fun a b => lt a.1 b.1 = true
/-- right writes, ascending -/
def WsD (xs : List Wt) : Prop := (∀ x ∈ xs, WtD x) ∧ Asc xs

theorem asc_put {xs : List Wt} (h : Asc xs) (x : Wt) : Asc (putS xs x) := by
  unfold Asc putS
  rw [List.append_assoc, List.pairwise_append, List.singleton_append, List.pairwise_cons]
  refine ⟨List.Pairwise.filter _ h, ⟨?_, List.Pairwise.filter _ h⟩, ?_⟩
  · intro y hy; exact (List.mem_filter.1 hy).2
  · intro y hy z hz
    have h1 := (List.mem_filter.1 hy).2
    rcases List.mem_cons.1 hz with rfl | hz
    · exact h1
    · exact lt_trans' h1 (List.mem_filter.1 hz).2
theorem wsd_put {xs : List Wt} (h : WsD xs) {x : Wt} (hx : WtD x) : WsD (putS xs x) := by
  refine ⟨fun y hy => ?_, asc_put h.2 x⟩
  unfold putS at hy
  simp only [List.mem_append, List.mem_filter, List.mem_cons, List.not_mem_nil, or_false] at hy
  rcases hy with (hy | rfl) | hy
  · exact h.1 y hy.1
  · exact hx
  · exact h.1 y hy.1
theorem len_put (xs : List Wt) (x : Wt) : (putS xs x).length ≤ xs.length + 1 := by
  have h : (xs.filter fun y => lt y.1 x.1).length + (xs.filter fun y => lt x.1 y.1).length ≤ xs.length := by
    induction xs with
    | nil => simp
    | cons y ys ih =>
      simp only [List.filter_cons, List.length_cons]
      cases h1 : lt y.1 x.1
      · cases h2 : lt x.1 y.1 <;> simp <;> omega
      · rw [lt_asymm' h1]; simp; omega
  unfold putS
  simp only [List.length_append, List.length_cons, List.length_nil]
  omega
theorem wsd_nil : WsD [] := ⟨by simp, List.Pairwise.nil⟩
theorem WsD.fit {xs : List Wt} (h : WsD xs) : WFit xs := fun x hx => ⟨by have := (h.1 x hx).2.1; omega, by have := (h.1 x hx).2.2; omega⟩

def valL : List ByteArray := [⟨#[111, 110, 101]⟩, ⟨#[116, 119, 111]⟩, ⟨#[]⟩, ⟨#[120, 0]⟩]
theorem valL_ok : ∀ s ∈ valL, s.size ≤ 3 := by
  intro s hs
  simp only [valL, List.mem_cons, List.not_mem_nil, or_false] at hs
  rcases hs with rfl | rfl | rfl | rfl <;> decide
theorem wtd_no {k v : ByteArray} (hk : KeyD k) (hv : v.size ≤ 3) : WtD (k, v, false) := ⟨by unfold writeB; simp [hk.1]; omega, hk.2, hv⟩
theorem wtd_gone {k : ByteArray} (hk : KeyD k) : WtD (k, ⟨#[]⟩, true) := ⟨by unfold writeB; simp [hk.1]; decide, hk.2, by show (0 : Nat) ≤ 3; omega⟩

end Go.Proofs.Ytjieojfcmigcdaa
