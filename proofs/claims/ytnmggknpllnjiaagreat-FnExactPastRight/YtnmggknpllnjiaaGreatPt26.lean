/- A cell put in its place. -/
import Derived.Test.YtnmggknpllnjiaaGreatPt25
namespace Go.Proofs.YtnmggknpllnjiaaGreat
open Go.RowKit
open KM
open VM
attribute [local go_sem ↓] Go.wp_at_zero Go.wp_at_succ

theorem beq_key (a b : ByteArray) : (a.toList == b.toList) = decide (a = b) := by
 rw [Bool.eq_iff_iff, beq_iff_eq, decide_eq_true_eq]
 exact ⟨toList_inj, fun h => by rw [h]⟩
theorem keep_put (m : List Rg) (x : Wt) (h : x.2.2 = true) : m.filter (keepC x.1) = putC m x := by
 unfold putC
 rw [if_pos h]
 refine List.filter_congr (fun c _ => ?_)
 unfold keepC
 rw [beq_key]
theorem idxN_spec : ∀ (l : List ByteArray) (s : ByteArray) (k : Nat), (∃ j, j < l.length ∧ idxN l s k = ((k + j : Nat) : Int) ∧ l[j]? = some s) ∨ (idxN l s k = -1 ∧ ∀ x ∈ l, x ≠ s)
 | [], _, _ => Or.inr ⟨rfl, fun _ h => by cases h⟩
 | x :: l, s, k => by
  unfold idxN
  by_cases h : (x.toList == s.toList) = true
  ·rw [if_pos h]
   rw [beq_key, decide_eq_true_eq] at h
   exact Or.inl ⟨0, by simp, by simp, by simp [h]⟩
  ·rw [if_neg h]
   rw [beq_key, decide_eq_true_eq] at h
   rcases idxN_spec l s (k + 1) with ⟨j, hj, he, hs⟩ | ⟨he, hs⟩
   ·exact Or.inl ⟨j + 1, by simp; omega, by rw [he]; congr 1; omega, by simpa using hs⟩
   ·refine Or.inr ⟨he, fun y hy => ?_⟩
    rcases List.mem_cons.1 hy with rfl | hy
    ·exact h
    ·exact hs y hy
theorem idxG_spec : ∀ (l : List Rg) (s : ByteArray) (k : Nat), (∃ j, j < l.length ∧ idxG l s k = ((k + j : Nat) : Int) ∧ (∀ i y, i < j → l[i]? = some y → lt s y.1 = false) ∧ ∀ y, l[j]? = some y → lt s y.1 = true) ∨ (idxG l s k = -1 ∧ ∀ x ∈ l, lt s x.1 = false)
 | [], _, _ => Or.inr ⟨rfl, fun _ h => by cases h⟩
 | x :: l, s, k => by
  unfold idxG
  by_cases h : lt s x.1 = true
  ·rw [if_pos h]
   exact Or.inl ⟨0, by simp, by simp, fun i y hi => by omega, fun y hy => by simp at hy; rw [← hy]; exact h⟩
  ·rw [if_neg h]
   have hf : lt s x.1 = false := by simpa using h
   rcases idxG_spec l s (k + 1) with ⟨j, hj, he, h1, h2⟩ | ⟨he, hs⟩
   ·refine Or.inl ⟨j + 1, by simp; omega, by rw [he]; congr 1; omega, fun i y hi hy => ?_, fun y hy => h2 y (by simpa using hy)⟩
    cases i with
    | zero => simp at hy; rw [← hy]; exact hf
    | succ i => exact h1 i y (by omega) (by simpa using hy)
   ·refine Or.inr ⟨he, fun y hy => ?_⟩
    rcases List.mem_cons.1 hy with rfl | hy
    ·exact hf
    ·exact hs y hy
theorem filt_take (p : Rg → Bool) (m : List Rg) (i : Nat) (h1 : ∀ k y, k < i → m[k]? = some y → p y = true) (h2 : ∀ k y, i ≤ k → m[k]? = some y → p y = false) : m.filter p = m.take i := by
 conv => lhs; rw [← List.take_append_drop i m]
 rw [List.filter_append, List.filter_eq_self.2, List.filter_eq_nil_iff.2, List.append_nil]
 ·intro y hy
  obtain ⟨k, hk⟩ := List.getElem?_of_mem hy
  rw [List.getElem?_drop] at hk
  rw [h2 (i + k) y (by omega) hk]
  simp
 ·intro y hy
  obtain ⟨k, hk⟩ := List.getElem?_of_mem hy
  rw [List.getElem?_take] at hk
  split at hk
  ·exact h1 k y (by assumption) hk
  ·cases hk
theorem filt_drop (p : Rg → Bool) (m : List Rg) (i : Nat) (h1 : ∀ k y, k < i → m[k]? = some y → p y = false) (h2 : ∀ k y, i ≤ k → m[k]? = some y → p y = true) : m.filter p = m.drop i := by
 conv => lhs; rw [← List.take_append_drop i m]
 rw [List.filter_append, List.filter_eq_nil_iff.2, List.filter_eq_self.2, List.nil_append]
 ·intro y hy
  obtain ⟨k, hk⟩ := List.getElem?_of_mem hy
  rw [List.getElem?_drop] at hk
  exact h2 (i + k) y (by omega) hk
 ·intro y hy
  obtain ⟨k, hk⟩ := List.getElem?_of_mem hy
  rw [List.getElem?_take] at hk
  split at hk
  ·rw [h1 k y (by assumption) hk]; simp
  ·cases hk
theorem asc_at {m : List Rg} (h : AscC m) {i j : Nat} {a b : Rg} (hij : i < j) (ha : m[i]? = some a) (hb : m[j]? = some b) : lt a.1 b.1 = true := by
 obtain ⟨hi, rfl⟩ := List.getElem?_eq_some_iff.1 ha
 obtain ⟨hj, rfl⟩ := List.getElem?_eq_some_iff.1 hb
 exact List.pairwise_iff_getElem.1 h i j hi hj hij
theorem put_set {m : List Rg} (h : AscC m) (x : Wt) (hg : x.2.2 = false) {j : Nat} (hj : j < m.length) (he : (ckeysB m)[j]? = some x.1) : m.set j (x.1, x.2.1) = putC m x := by
 have hk : m[j].1 = x.1 := by
  unfold ckeysB at he
  rw [List.getElem?_map, List.getElem?_eq_getElem hj] at he
  simpa using he
 have hm : m[j]? = some m[j] := List.getElem?_eq_getElem hj
 unfold putC
 rw [if_neg (by rw [hg]; simp), filt_take (fun c => lt c.1 x.1) m j, filt_drop (fun c => lt x.1 c.1) m (j + 1)]
 ·rw [List.set_eq_take_append_cons_drop, if_pos hj]; simp
 ·intro k y hlt hy
  show lt x.1 y.1 = false
  rw [← hk]
  by_cases e : k = j
  ·subst e; rw [hm] at hy; cases hy; exact less_irrefl _
  ·exact less_asymm _ _ (asc_at h (by omega) hy hm)
 ·intro k y hle hy
  show lt x.1 y.1 = true
  rw [← hk]
  exact asc_at h (by omega) hm hy
 ·intro k y hlt hy
  show lt y.1 x.1 = true
  rw [← hk]
  exact asc_at h hlt hy hm
 ·intro k y hle hy
  show lt y.1 x.1 = false
  rw [← hk]
  by_cases e : k = j
  ·subst e; rw [hm] at hy; cases hy; exact less_irrefl _
  ·exact less_asymm _ _ (asc_at h (by omega) hm hy)
theorem total {a b : ByteArray} (h : lt a b = false) (hne : b ≠ a) : lt b a = true := less_total _ _ h (fun e => hne (toList_inj e).symm)
theorem put_ins {m : List Rg} (_h : AscC m) (x : Wt) (hg : x.2.2 = false) (hno : ∀ k ∈ ckeysB m, k ≠ x.1) {j : Nat} (h1 : ∀ (i : Nat) (y : Rg), i < j → m[i]? = some y → lt x.1 y.1 = false) (h2 : ∀ (i : Nat) (y : Rg), j ≤ i → m[i]? = some y → lt x.1 y.1 = true) : insAt m j (x.1, x.2.1) = putC m x := by
 have hne : ∀ (i : Nat) (y : Rg), m[i]? = some y → y.1 ≠ x.1 := fun i y hy => hno y.1 (by unfold ckeysB; exact List.mem_map_of_mem (List.mem_of_getElem? hy))
 unfold putC insAt
 rw [if_neg (by rw [hg]; simp), filt_take (fun c => lt c.1 x.1) m j, filt_drop (fun c => lt x.1 c.1) m j]
 ·exact h1
 ·exact h2
 ·intro k y hlt hy
  exact total (h1 k y hlt hy) (hne k y hy)
 ·intro k y hle hy
  exact less_asymm _ _ (h2 k y hle hy)
theorem put_ins_first {m : List Rg} (h : AscC m) (x : Wt) (hg : x.2.2 = false) (hno : ∀ k ∈ ckeysB m, k ≠ x.1) {j : Nat} (hj : j < m.length) (h1 : ∀ (i : Nat) (y : Rg), i < j → m[i]? = some y → lt x.1 y.1 = false) (h2 : ∀ y : Rg, m[j]? = some y → lt x.1 y.1 = true) : insAt m j (x.1, x.2.1) = putC m x := by
 have hm : m[j]? = some m[j] := List.getElem?_eq_getElem hj
 refine put_ins h x hg hno h1 (fun i y hi hy => ?_)
 by_cases e : i = j
 ·subst e; exact h2 y hy
 ·exact less_trans _ _ _ (h2 _ hm) (asc_at h (by omega) hm hy)
theorem put_ins_end {m : List Rg} (h : AscC m) (x : Wt) (hg : x.2.2 = false) (hno : ∀ k ∈ ckeysB m, k ≠ x.1) (h1 : ∀ y ∈ m, lt x.1 y.1 = false) : insAt m m.length (x.1, x.2.1) = putC m x := by
 refine put_ins h x hg hno (fun i y _ hy => h1 y (List.mem_of_getElem? hy)) (fun i y hi hy => ?_)
 rw [List.getElem?_eq_none hi] at hy
 cases hy
theorem cells_set2 (xs : List Rg) (j : Nat) (_hj : j < xs.length) (x : Rg) : ((encR.cells xs).set (j * 2) (.string x.1)).set (j * 2 + 1) (.string x.2) = encR.cells (xs.set j x) := by
 apply List.ext_getElem?
 intro i
 have hl : (encR.cells xs).length = xs.length * 2 := encR.cells_len xs
 have hl2 : (encR.cells (xs.set j x)).length = xs.length * 2 := by rw [encR.cells_len, List.length_set]; rfl
 by_cases hi : i < xs.length * 2
 ·have hd : i = (i / 2) * 2 + i % 2 := by omega
  have hq : i / 2 < xs.length := by omega
  have hr : i % 2 < 2 := by omega
  have h1 := encR.cells_at xs (i / 2) hq (i % 2) hr
  have h2 := encR.cells_at (xs.set j x) (i / 2) (by rw [List.length_set]; exact hq) (i % 2) hr
  change (encR.cells xs)[(i / 2) * 2 + i % 2]? = _ at h1
  change (encR.cells (xs.set j x))[(i / 2) * 2 + i % 2]? = _ at h2
  rw [← hd] at h1 h2
  by_cases e : i / 2 = j
  ·have hx : (xs.set j x)[i / 2]'(by rw [List.length_set]; exact hq) = x := by simp [e]
   rw [hx] at h2
   rw [h2]
   rcases (by omega : i % 2 = 0 ∨ i % 2 = 1) with h | h
   ·rw [h, List.getElem?_set_ne (by omega), show i = j * 2 by omega, List.getElem?_set_self (by omega)]; rfl
   ·rw [h, show i = j * 2 + 1 by omega, List.getElem?_set_self (by simp; omega)]; rfl
  ·have hx : (xs.set j x)[i / 2]'(by rw [List.length_set]; exact hq) = xs[i / 2] := by rw [List.getElem_set_ne (fun e' => e e'.symm)]
   rw [hx] at h2
   rw [h2, List.getElem?_set_ne (by omega), List.getElem?_set_ne (by omega), h1]
 ·rw [List.getElem?_eq_none (by simp only [List.length_set]; omega), List.getElem?_eq_none (by omega)]
end Go.Proofs.YtnmggknpllnjiaaGreat
