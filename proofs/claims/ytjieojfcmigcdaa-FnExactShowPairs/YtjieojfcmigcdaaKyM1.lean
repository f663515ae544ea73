/- What placesOfKeys makes, and what Meets returns, on both sides. -/
import Derived.Test.YtjieojfcmigcdaaKyW1
import Derived.Maps.OwnSet
import Derived.StringKeys
namespace Go.Proofs.Ytjieojfcmigcdaa
open Go.RowKit Go.WideMaps Go.Maps
open KM
attribute [local go_sem ↓] Go.wp_at_zero Go.wp_at_succ

theorem lawK : Keyed Try.prog 9 := string_keyed Try.underlying9
theorem zero3 (w : World) : (zeroValue 3).run Try.prog w = .ok (.int .i64 0) w := by kernel_rfl

/-- a key as it is read -/
def kl (s : ByteArray) : Lit := .string s.data.toList
theorem kl_inj {s t : ByteArray} (h : kl s = kl t) : s = t := by
  unfold kl at h
  simp only [Lit.string.injEq] at h
  obtain ⟨⟨x⟩⟩ := s
  obtain ⟨⟨y⟩⟩ := t
  simp only at h
  subst h
  rfl
theorem toList_inj {s t : ByteArray} (h : s.toList = t.toList) : s = t := by
  rw [ByteArray.toList_eq, ByteArray.toList_eq] at h
  exact kl_inj (by unfold kl; rw [h])
theorem kl_key (s : ByteArray) : WideAt.IsKeyLit (kl s) := by unfold kl WideAt.IsKeyLit; trivial
theorem keyOk {s : ByteArray} (h : s.size ≤ 1048576) : keyOf Try.prog 9 (.string s) = some (kl s) := keyOf_string_mk Try.underlying9 (by unfold maxLen; omega)

/-- where each key stands first, in a list that begins at i -/
def plc : List Wt → Nat → DataW Unit
  | [], _ => .map []
  | x :: xs, i => (plc xs (i + 1)).put (kl x.1) (.lit (.int .i64 (i : Int)))
theorem plc_isMap : ∀ (xs : List Wt) (i : Nat), IsMap (plc xs i)
  | [], _ => isMap_empty
  | _ :: xs, i => (plc_isMap xs (i + 1)).put _ _
theorem plc_tidy : ∀ (xs : List Wt) (i : Nat), Tidy (plc xs i)
  | [], _ => tidy_empty
  | _ :: xs, i => (plc_tidy xs (i + 1)).put (kl_key _) _
theorem plc_has : ∀ (xs : List Wt) (i : Nat) (s : ByteArray), Maps.has (plc xs i) (kl s) = true ↔ ∃ x ∈ xs, x.1 = s
  | [], _, s => by simp [plc, Maps.has]
  | x :: xs, i, s => by
    have ih := plc_has xs (i + 1) s
    by_cases e : s = x.1
    · subst e
      simp only [plc]
      rw [has_put_same (plc_isMap _ _) (kl_key _)]
      simp
    · simp only [plc]
      rw [has_put_other (fun h => e (kl_inj h)), ih]
      constructor
      · rintro ⟨y, hy, rfl⟩
        exact ⟨y, List.mem_cons_of_mem _ hy, rfl⟩
      · rintro ⟨y, hy, rfl⟩
        rcases List.mem_cons.1 hy with rfl | hy
        · exact absurd rfl e
        · exact ⟨y, hy, rfl⟩
theorem plc_step (xs : List Wt) (m : Nat) (h : m < xs.length) : plc (xs.drop m) m = (plc (xs.drop (m + 1)) (m + 1)).put (kl xs[m].1) (.lit (.int .i64 (m : Int))) := by
  rw [List.drop_eq_getElem_cons h]
  rfl

/-- what is left of D0 when the first k keys are gone -/
structure Inv (D0 : DataW Unit) (ys : List Wt) (k : Nat) (D : DataW Unit) : Prop where
  tidy : Tidy D
  has : ∀ s, Maps.has D (kl s) = true ↔ Maps.has D0 (kl s) = true ∧ ∀ j (hj : j < ys.length), j < k → ys[j].1 ≠ s
  le : Maps.size D ≤ Maps.size D0
  lt : Maps.size D < Maps.size D0 ↔ ∃ j, ∃ hj : j < ys.length, j < k ∧ Maps.has D0 (kl ys[j].1) = true
theorem Inv.start {D0 : DataW Unit} {ys : List Wt} (h : Tidy D0) : Inv D0 ys 0 D0 :=
  ⟨h, fun s => ⟨fun h => ⟨h, fun j hj h0 => by omega⟩, fun h => h.1⟩, Nat.le_refl _, ⟨fun h => by omega, fun ⟨j, hj, h0, _⟩ => by omega⟩⟩
theorem Inv.step {D0 D : DataW Unit} {ys : List Wt} {k : Nat} (h : Inv D0 ys k D) (hk : k < ys.length) : Inv D0 ys (k + 1) (D.del (kl ys[k].1)) := by
  have hs := size_del (k := kl ys[k].1) h.tidy
  have hh := h.has ys[k].1
  refine ⟨h.tidy.del _, fun s => ?_, ?_, ?_⟩
  · by_cases e : s = ys[k].1
    · subst e
      rw [has_del_same]
      simp only [Bool.false_eq_true, false_iff, not_and]
      exact fun _ h2 => h2 k hk (by omega) rfl
    · rw [has_del_other (fun h => e (kl_inj h)), h.has s]
      constructor
      · rintro ⟨h1, h2⟩
        refine ⟨h1, fun j hj hjk => ?_⟩
        by_cases ej : j = k
        · subst ej; exact fun e' => e e'.symm
        · exact h2 j hj (by omega)
      · rintro ⟨h1, h2⟩
        exact ⟨h1, fun j hj hjk => h2 j hj (by omega)⟩
  · have := h.le; split at hs <;> omega
  · by_cases hd : Maps.has D (kl ys[k].1) = true
    · rw [if_pos hd] at hs
      have := h.le
      constructor
      · intro _
        exact ⟨k, hk, by omega, (hh.1 hd).1⟩
      · intro _; omega
    · rw [if_neg hd] at hs
      rw [show Maps.size (D.del (kl ys[k].1)) = Maps.size D by omega, h.lt]
      constructor
      · rintro ⟨j, hj, hjk, hx⟩
        exact ⟨j, hj, by omega, hx⟩
      · rintro ⟨j, hj, hjk, hx⟩
        by_cases ej : j = k
        · subst ej
          apply Classical.byContradiction
          intro hno
          exact hd (hh.2 ⟨hx, fun i hi hij e => hno ⟨i, hi, hij, by rw [e]; exact hx⟩⟩)
        · exact ⟨j, hj, by omega, hx⟩
theorem Inv.end' {xs ys : List Wt} {k : Nat} {D : DataW Unit} (h : Inv (plc xs 0) ys k D) (hk : ys.length ≤ k) : decide (Maps.size D < Maps.size (plc xs 0)) = meetB xs ys := by
  have e : (Maps.size D < Maps.size (plc xs 0)) ↔ meetB xs ys = true := by
    rw [h.lt]
    unfold meetB
    rw [List.any_eq_true]
    constructor
    · rintro ⟨j, hj, _, hx⟩
      obtain ⟨x, hx, e⟩ := (plc_has xs 0 _).1 hx
      exact ⟨x, hx, by rw [List.any_eq_true]; exact ⟨ys[j], List.getElem_mem hj, by simpa using e⟩⟩
    · rintro ⟨x, hx, hy⟩
      rw [List.any_eq_true] at hy
      obtain ⟨y, hy, e⟩ := hy
      obtain ⟨j, hj, rfl⟩ := List.getElem_of_mem hy
      exact ⟨j, hj, by omega, (plc_has xs 0 _).2 ⟨x, hx, by simpa using e⟩⟩
  cases hm : meetB xs ys
  · rw [hm] at e; simpa using e
  · rw [hm] at e; simpa using e

/-- the first k keys of xs are none of ys -/
def NoM (xs ys : List Wt) (k : Nat) : Prop := ∀ j (hj : j < xs.length), j < k → ∀ i (hi : i < ys.length), xs[j].1 ≠ ys[i].1
def NoN (s : ByteArray) (ys : List Wt) (k : Nat) : Prop := ∀ i (hi : i < ys.length), i < k → s ≠ ys[i].1
theorem meet_yes {xs ys : List Wt} (k m : Nat) (hk : k < xs.length) (hm : m < ys.length) (h : xs[k].1 = ys[m].1) : meetB xs ys = true := by
  unfold meetB
  rw [List.any_eq_true]
  exact ⟨xs[k], List.getElem_mem hk, by rw [List.any_eq_true]; exact ⟨ys[m], List.getElem_mem hm, by simpa using h⟩⟩
theorem meet_no {xs ys : List Wt} {k : Nat} (h : NoM xs ys k) (hk : xs.length ≤ k) : meetB xs ys = false := by
  unfold meetB
  rw [List.any_eq_false]
  intro r hr
  obtain ⟨j, hj, rfl⟩ := List.getElem_of_mem hr
  rw [Bool.not_eq_true, List.any_eq_false]
  intro x hx
  obtain ⟨i, hi, rfl⟩ := List.getElem_of_mem hx
  simpa using h j hj (by omega) i hi
theorem nom_more {xs ys : List Wt} {k m : Nat} (h : NoM xs ys k) (hk : k < xs.length) (h2 : NoN xs[k].1 ys m) (hm : ys.length ≤ m) : NoM xs ys (k + 1) := fun j hj hjk i hi => by
  by_cases e : j = k
  · subst e; exact h2 i hi (by omega)
  · exact h j hj (by omega) i hi
theorem non_more {s : ByteArray} {ys : List Wt} {m : Nat} (h : NoN s ys m) (hm : m < ys.length) (h2 : s ≠ ys[m].1) : NoN s ys (m + 1) := fun i hi him => by
  by_cases e : i = m
  · subst e; exact h2
  · exact h i hi (by omega)

end Go.Proofs.Ytjieojfcmigcdaa
