/- What stays: both sides of BaseOk are the same. No Go. -/
import Derived.Test.YtpnnncfbodfnhaaGreatPk22
import Derived.Test.YtpnnncfbodfnhaaGreatPk23
namespace Go.Proofs.YtpnnncfbodfnhaaGreat
open Go.RowKit
open KM
attribute [local go_sem ↓] Go.wp_at_zero Go.wp_at_succ

theorem asc_pair (l : List Int) : ascIB l = true ↔ l.Pairwise (· < ·) := by
  unfold ascIB
  rw [decide_eq_true_eq, List.pairwise_iff_getElem]
  constructor
  · intro h i j hi hj hij
    obtain ⟨d, rfl⟩ : ∃ d, j = i + 1 + d := ⟨j - (i + 1), by omega⟩
    induction d with
    | zero =>
      have := h (i + 1) hj (by omega)
      simpa using this
    | succ d ih =>
      have h1 := ih (by omega) (by omega)
      have h2 := h (i + 1 + (d + 1)) hj (by omega)
      have h3 : l[i + 1 + (d + 1) - 1]'(by omega) = l[i + 1 + d]'(by omega) := by congr 1
      rw [h3] at h2
      omega
  · intro h j hj h0
    exact h (j - 1) j (by omega) hj (by omega)
theorem sort_pair (zs : List Int) : ascIB (sortI zs) = true ↔ zs.Pairwise (· ≠ ·) := by
  rw [asc_pair]
  have hp : (sortI zs).Perm zs := List.mergeSort_perm _ _
  have hs : (sortI zs).Pairwise (fun a b => decide (a ≤ b) = true) := List.pairwise_mergeSort (fun a b c h1 h2 => by simp at *; omega) (fun a b => by simp; omega) _
  constructor
  · intro h
    have h1 : (sortI zs).Pairwise (· ≠ ·) := h.imp (fun h => by omega)
    exact hp.pairwise h1 (fun h => h.symm)
  · intro h
    have h1 : (sortI zs).Pairwise (· ≠ ·) := hp.symm.pairwise h (fun h => h.symm)
    refine (hs.and h1).imp ?_
    rintro a b ⟨h2, h3⟩
    have : a ≤ b := by simpa using h2
    omega
theorem ids_pair (zs : List Int) : (∀ j (h : j < zs.length), ∀ k (hk : k < j), zs[k]'(by omega) ≠ zs[j]) ↔ zs.Pairwise (· ≠ ·) := by
  rw [List.pairwise_iff_getElem]
  constructor
  · intro h i j hi hj hij
    exact h j hj i hij
  · intro h j hj k hk
    exact h k j (by omega) hj hk
theorem any_no {α : Type} (p : α → Bool) (xs : List α) : (!(xs.any p)) = true ↔ ∀ j (h : j < xs.length), p xs[j] = false := by
  rw [Bool.not_eq_true', List.any_eq_false]
  constructor
  · intro h j hj
    have := h xs[j] (List.getElem_mem hj)
    simpa using this
  · intro h x hx
    obtain ⟨j, hj, rfl⟩ := List.getElem_of_mem hx
    rw [h j hj]
    simp
theorem all_at {α : Type} (p : α → Bool) (xs : List α) : xs.all p = true ↔ ∀ j (h : j < xs.length), p xs[j] = true := by
  rw [List.all_eq_true]
  constructor
  · intro h j hj
    exact h _ (List.getElem_mem hj)
  · intro h x hx
    obtain ⟨j, hj, rfl⟩ := List.getElem_of_mem hx
    exact h j hj
theorem asc_map (f : Ta → Int) (xs : List Ta) : ascIB (xs.map f) = true ↔ ∀ j (h : j < xs.length), ∀ (_ : 0 < j), f (xs[j - 1]'(by omega)) < f xs[j] := by
  unfold ascIB
  rw [decide_eq_true_eq]
  constructor
  · intro h j hj h0
    have := h j (by simpa using hj) h0
    simpa using this
  · intro h j hj h0
    have := h j (by simpa using hj) h0
    simpa using this
theorem ascS_map (xs : List Ta) : ascSB (xs.map fun x : Ta => x.t.nm) = true ↔ ∀ j (h : j < xs.length), ∀ (_ : 0 < j), Op.bytesLess (xs[j - 1]'(by omega)).t.nm.toList xs[j].t.nm.toList = true := by
  unfold ascSB
  rw [decide_eq_true_eq]
  constructor
  · intro h j hj h0
    have := h j (by simpa using hj) h0
    simpa using this
  · intro h j hj h0
    have := h j (by simpa using hj) h0
    simpa using this
theorem past_iff (b : Bb) : pastB b = true ↔ b.ps.length ≤ 12 ∧ pstG b.ps b.cs := by
  unfold pastB
  rw [Bool.and_eq_true, Bool.and_eq_true, Bool.and_eq_true, decide_eq_true_eq, asc_map, any_no, all_at]
  constructor
  · rintro ⟨h1, h2, h3, h4⟩
    refine ⟨h1, fun j h => ⟨?_, h2 j h⟩⟩
    have h5 := h4 j h
    have h6 := h3 j h
    simp only [inStB, Bool.and_eq_true, decide_eq_true_eq] at h5
    simp only [decide_eq_false_iff_not] at h6
    exact ⟨h5.1, h5.2, by omega⟩
  · rintro ⟨h1, h2⟩
    refine ⟨h1, fun j h => (h2 j h).2, fun j h => ?_, fun j h => ?_⟩
    · simp only [decide_eq_false_iff_not]
      have := (h2 j h).1.2.2
      omega
    · simp only [inStB, Bool.and_eq_true, decide_eq_true_eq]
      exact ⟨(h2 j h).1.1, (h2 j h).1.2.1⟩
theorem ready_iff (b : Bb) : readyOkB b = true ↔ b.qs.length ≤ 3 ∧ rdyG b.qs b.cs := by
  unfold readyOkB
  rw [Bool.and_eq_true, Bool.and_eq_true, Bool.and_eq_true, decide_eq_true_eq, ascS_map, any_no, all_at]
  constructor
  · rintro ⟨h1, h2, h3, h4⟩
    refine ⟨h1, fun j h => ⟨?_, h2 j h⟩⟩
    have h5 := h4 j h
    have h6 := h3 j h
    simp only [inStB, Bool.and_eq_true, decide_eq_true_eq] at h5
    simp only [decide_eq_false_iff_not] at h6
    exact ⟨h5.1, h5.2, by omega⟩
  · rintro ⟨h1, h2⟩
    refine ⟨h1, fun j h => (h2 j h).2, fun j h => ?_, fun j h => ?_⟩
    · simp only [decide_eq_false_iff_not]
      have := (h2 j h).1.2.2
      omega
    · simp only [inStB, Bool.and_eq_true, decide_eq_true_eq]
      exact ⟨(h2 j h).1.1, (h2 j h).1.2.1⟩
theorem ids_iff (b : Bb) : idsB b = true ↔ idsG (b.ps.map (fun x : Ta => x.t.id) ++ b.qs.map (fun x : Ta => x.t.id)) b.nx := by
  unfold idsB
  rw [Bool.and_eq_true, sort_pair, any_no, List.map_append]
  have e : ∀ j (h : j < (b.ps ++ b.qs).length), (b.ps.map (fun x : Ta => x.t.id) ++ b.qs.map (fun x : Ta => x.t.id))[j]'(by simpa using h) = (b.ps ++ b.qs)[j].t.id := fun j h => by
    have : b.ps.map (fun x : Ta => x.t.id) ++ b.qs.map (fun x : Ta => x.t.id) = (b.ps ++ b.qs).map (fun x : Ta => x.t.id) := by rw [List.map_append]
    simp only [this, List.getElem_map]
  constructor
  · rintro ⟨h1, h2⟩ j h
    refine ⟨(ids_pair _).2 h1 j h, ?_⟩
    have hj : j < (b.ps ++ b.qs).length := by simpa using h
    have h3 := h2 j hj
    simp only [decide_eq_false_iff_not] at h3
    rw [e j hj]
    omega
  · intro h
    refine ⟨(ids_pair _).1 fun j hj => (h j hj).1, fun j hj => ?_⟩
    have h3 := (h j (by simpa using hj)).2
    rw [e j hj] at h3
    simp only [decide_eq_false_iff_not]
    omega
theorem ib_sb (b : Bb) : ibB b = sbB b := by
  rw [Bool.eq_iff_iff]
  unfold ibB sbB
  rw [decide_eq_true_eq]
  simp only [Bool.and_eq_true, decide_eq_true_eq]
  rw [any_no, past_iff, ready_iff, ids_iff]
  constructor
  · rintro ⟨⟨⟨⟨⟨⟨⟨⟨h1, h2⟩, h3⟩, h4⟩, h5⟩, h6⟩, h7⟩, h8⟩, h9⟩
    refine ⟨h5, h7.1, h8.1, ⟨h1, h2⟩, ⟨h3, h4⟩, fun j h => ?_, h7.2, h8.2, h9⟩
    have := h6 j h
    simp only [decide_eq_false_iff_not] at this
    omega
  · rintro ⟨h5, h71, h81, ⟨h1, h2⟩, ⟨h3, h4⟩, h6, h72, h82, h9⟩
    refine ⟨⟨⟨⟨⟨⟨⟨⟨h1, h2⟩, h3⟩, h4⟩, h5⟩, fun j h => ?_⟩, ⟨h71, h72⟩⟩, ⟨h81, h82⟩⟩, h9⟩
    have := h6 j h
    simp only [decide_eq_false_iff_not]
    omega
theorem own_none {α : Type} {E : Enc α} {e : TypeId} {w : World} {lo n c : Nat} {a : Option Addr} {xs : List α} (h : GOwn E e w lo (.slice a n c) xs) (ha : a = none) : n = 0 ∧ c = 0 := by
  rcases h.2 with ⟨hv, _⟩ | ⟨g, cap, cur, hv, _⟩
  · cases hv
    exact ⟨rfl, rfl⟩
  · subst ha
    cases hv
theorem BLie.nones {w : World} {lo hi : Nat} {c : Bb} (h : BLie w lo hi c) : (c.pa = none → c.ps.length = 0 ∧ c.pc = 0) ∧ (c.qa = none → c.qs.length = 0 ∧ c.qc = 0) := by
  obtain ⟨m1, m2, _, _, _, h1, h2, h3⟩ := h.ex
  exact ⟨fun e => own_none h2.own.own e, fun e => own_none h3.own.own e⟩

end Go.Proofs.YtpnnncfbodfnhaaGreat
