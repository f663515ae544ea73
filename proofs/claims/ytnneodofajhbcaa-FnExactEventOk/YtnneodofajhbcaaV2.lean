/- What VersionsOk returns, on both sides. -/
import Derived.Test.YtnneodofajhbcaaV1
namespace Go.Proofs.Ytnneodofajhbcaa
open Go.RowKit
open KM
attribute [local go_sem ↓] Go.wp_at_zero Go.wp_at_succ

theorem toList_data (s : ByteArray) : s.toList = s.data.toList := by
  obtain ⟨⟨l⟩⟩ := s
  exact ByteArray.toList_mk l
theorem toList_inj {a b : ByteArray} (h : a.toList = b.toList) : a = b := by
  rw [toList_data, toList_data] at h
  obtain ⟨⟨a⟩⟩ := a
  obtain ⟨⟨b⟩⟩ := b
  have h' : a = b := h
  rw [h']
theorem beq_text (a b : ByteArray) : (a.toList == b.toList) = decide (a = b) := by
  by_cases h : a = b
  · subst h; simp
  · rw [decide_eq_false h, beq_eq_false_iff_ne]
    exact fun e => h (toList_inj e)
theorem cb_lt : ∀ a b : List UInt8, (Lib.compareBytes a b < 0) ↔ Op.bytesLess a b = true
  | [], [] => by simp [Lib.compareBytes, Op.bytesLess]
  | [], _ :: _ => by simp [Lib.compareBytes, Op.bytesLess]
  | _ :: _, [] => by simp [Lib.compareBytes, Op.bytesLess]
  | x :: a, y :: b => by
    have ih := cb_lt a b
    simp only [Lib.compareBytes, Op.bytesLess, Bool.or_eq_true, decide_eq_true_eq, Bool.and_eq_true, beq_iff_eq]
    by_cases h1 : x < y
    · simp [h1]
    · by_cases h2 : y < x
      · have h3 : x ≠ y := fun e => by subst e; exact h1 h2
        simp [h1, h2, h3]
      · have h3 : x = y := by
          have a1 : ¬ x.toNat < y.toNat := fun h => h1 (UInt8.lt_iff_toNat_lt.2 h)
          have a2 : ¬ y.toNat < x.toNat := fun h => h2 (UInt8.lt_iff_toNat_lt.2 h)
          exact UInt8.toNat_inj.1 (by omega)
        rw [if_neg h1, if_neg h2]
        constructor
        · exact fun h => Or.inr ⟨h3, ih.1 h⟩
        · rintro (h | ⟨_, h⟩)
          · exact absurd h h1
          · exact ih.2 h
theorem cb_eq : ∀ a b : List UInt8, Lib.compareBytes a b = 0 ↔ a = b
  | [], [] => by simp [Lib.compareBytes]
  | [], _ :: _ => by simp [Lib.compareBytes]
  | _ :: _, [] => by simp [Lib.compareBytes]
  | x :: a, y :: b => by
    have ih := cb_eq a b
    simp only [Lib.compareBytes, List.cons.injEq]
    by_cases h1 : x < y
    · have h3 : x ≠ y := fun e => by subst e; exact absurd (UInt8.lt_iff_toNat_lt.1 h1) (by omega)
      simp [h1, h3]
    · by_cases h2 : y < x
      · have h3 : x ≠ y := fun e => by subst e; exact h1 h2
        simp [h1, h2, h3]
      · have h3 : x = y := by
          have a1 : ¬ x.toNat < y.toNat := fun h => h1 (UInt8.lt_iff_toNat_lt.2 h)
          have a2 : ¬ y.toNat < x.toNat := fun h => h2 (UInt8.lt_iff_toNat_lt.2 h)
          exact UInt8.toNat_inj.1 (by omega)
        rw [if_neg h1, if_neg h2]
        simp [h3, ih]

/-- a stands ahead of b: by key, then by number -/
def asc (a b : Vr) : Bool := lt a.1 b.1 || (decide (a.1 = b.1) && decide (a.2.2.2 < b.2.2.2))
theorem ci_lt (x y : Int) : Lib.compareInt x y < 0 ↔ x < y := by
  unfold Lib.compareInt
  split
  · simp_all
  · split <;> simp_all
theorem ci_eq (x y : Int) : Lib.compareInt x y = 0 ↔ x = y := by
  unfold Lib.compareInt
  split
  · simp; omega
  · split
    · simp; omega
    · simp; omega
theorem cmpV_neg (a b : Vr) : cmpV a b < 0 ↔ asc a b = true := by
  unfold cmpV orI asc lt
  simp only [Bool.or_eq_true, Bool.and_eq_true, decide_eq_true_eq]
  split
  · rename_i h
    have h' := (cb_eq _ _).1 h
    have e : a.1 = b.1 := toList_inj (by rw [toList_data, toList_data]; exact h')
    rw [ci_lt, e, less_irrefl]
    simp
  · rename_i h
    have h' : ¬ a.1 = b.1 := fun e => h ((cb_eq _ _).2 (by rw [e]))
    rw [cb_lt, toList_data, toList_data]
    simp [h']
theorem cmpV_eq (a b : Vr) : cmpV a b = 0 ↔ a.1 = b.1 ∧ a.2.2.2 = b.2.2.2 := by
  unfold cmpV orI
  split
  · rename_i h
    have h' := (cb_eq _ _).1 h
    have e : a.1 = b.1 := toList_inj (by rw [toList_data, toList_data]; exact h')
    rw [ci_eq]
    simp [e]
  · rename_i h
    have h' : ¬ a.1 = b.1 := fun e => h ((cb_eq _ _).2 (by rw [e]))
    simp [h, h']

/-- a right version -/
def verB (v : Vr) : Bool := writeB (v.1, v.2.1, v.2.2.1) && decide (1 ≤ v.2.2.2) && decide (v.2.2.2 ≤ 9999)
/-- at most 120, right, ascending -/
def versB (xs : List Vr) : Bool := decide (xs.length ≤ 120) && decide (∀ j (h : j < xs.length), verB xs[j] = true ∧ ∀ (_ : 0 < j), asc (xs[j - 1]'(by omega)) xs[j] = true)
/-- the first k are right, ascending -/
def GoodV (xs : List Vr) (k : Nat) : Prop := ∀ j (h : j < xs.length), j < k → verB xs[j] = true ∧ ∀ (_ : 0 < j), asc (xs[j - 1]'(by omega)) xs[j] = true
theorem goodv_all {xs : List Vr} {k : Nat} (h : GoodV xs k) (hk : xs.length ≤ k) (h8 : xs.length ≤ 120) : versB xs = true := by
  unfold versB
  simp only [Bool.and_eq_true, decide_eq_true_eq]
  exact ⟨h8, fun j hj => h j hj (by omega)⟩
theorem goodv_len {xs : List Vr} (h8 : ¬ xs.length ≤ 120) : versB xs = false := by
  unfold versB
  rw [decide_eq_false h8]; rfl
theorem goodv_whole {xs : List Vr} {k : Nat} (h : GoodV xs k) (hk : xs.length ≤ k) : decide (xs.length ≤ 120) = versB xs := by
  by_cases h8 : xs.length ≤ 120
  · rw [goodv_all h hk h8, decide_eq_true h8]
  · rw [goodv_len h8, decide_eq_false h8]
theorem goodv_no {xs : List Vr} (k : Nat) (hk : k < xs.length) (h : ¬ (verB xs[k] = true ∧ ∀ (_ : 0 < k), asc (xs[k - 1]'(by omega)) xs[k] = true)) : versB xs = false := by
  cases hw : versB xs
  · rfl
  · unfold versB at hw
    simp only [Bool.and_eq_true, decide_eq_true_eq] at hw
    exact absurd (hw.2 k hk) h
theorem goodv_more {xs : List Vr} {k : Nat} (h : GoodV xs k) (hk : k < xs.length) (h2 : verB xs[k] = true ∧ ∀ (_ : 0 < k), asc (xs[k - 1]'(by omega)) xs[k] = true) : GoodV xs (k + 1) := fun j hj hlt => by
  by_cases e : j = k
  · subst e; exact h2
  · exact h j hj (by omega)


/-- the four cells of a version -/
def pcells (w : World) (b o : Nat) (v : Vr) : Prop := w.cell? ⟨b, o, none⟩ = some (.string v.1) ∧ w.cell? ⟨b, o + 1, none⟩ = some (.string v.2.1) ∧ w.cell? ⟨b, o + 2, none⟩ = some (.bool v.2.2.1) ∧ w.cell? ⟨b, o + 3, none⟩ = some (.int .i64 v.2.2.2)
theorem pcells.below' {w w' : World} {b o : Nat} {v : Vr} (h : pcells w b o v) (hb : b < w.heap.size) (hw : Below w.heap.size w w') : pcells w' b o v :=
  ⟨(hw.cell (p := ⟨b, o, none⟩) hb).trans h.1, (hw.cell (p := ⟨b, o + 1, none⟩) hb).trans h.2.1, (hw.cell (p := ⟨b, o + 2, none⟩) hb).trans h.2.2.1, (hw.cell (p := ⟨b, o + 3, none⟩) hb).trans h.2.2.2⟩

end Go.Proofs.Ytnneodofajhbcaa
