/- Keys in order, each once; what a scan tells: no Go. -/
import Derived.Test.YtblfljmcbpodbaaVM
import Derived.Test.YtblfljmcbpodbaaShelfS
import Derived.Lib.SlicesCompact
import Derived.Sort.Walk0
namespace Go.Proofs.Ytblfljmcbpodbaa
namespace VM
open KM
section
variable {α : Type} [Inhabited α] [DecidableEq α]
theorem comp_upto (le : α → α → Bool) (anti : ∀ a b, le a b = true → le b a = true → a = b) (d : Array α) (hs : ∀ i j, i ≤ j → j < d.size → le d[i]! d[j]! = true) :
    ∀ m, m ≤ d.size → (∀ x, x ∈ Lib.compactUpTo d m ↔ ∃ j, j < m ∧ d[j]! = x) ∧ (Lib.compactUpTo d m).Pairwise (fun a b => le a b = true ∧ a ≠ b)
  | 0, _ => by
    refine ⟨fun x => ⟨fun h => by simp [Lib.compactUpTo] at h, fun ⟨j, hj, _⟩ => by omega⟩, by simp [Lib.compactUpTo]⟩
  | m + 1, hm => by
    obtain ⟨h1, h2⟩ := comp_upto le anti d hs m (by omega)
    rw [Lib.compactUpTo_succ]
    cases hk : Lib.keeps d m
    · have hk' : ¬ (m = 0 ∨ d[m]! ≠ d[m - 1]!) := by simpa [Lib.keeps] using hk
      have e : d[m]! = d[m - 1]! := by
        apply Classical.byContradiction
        intro h; exact hk' (Or.inr h)
      have hm0 : m ≠ 0 := fun h => hk' (Or.inl h)
      simp only [Bool.false_eq_true, if_false, List.append_nil]
      refine ⟨fun x => ?_, h2⟩
      rw [h1 x]
      constructor
      · rintro ⟨j, hj, rfl⟩; exact ⟨j, by omega, rfl⟩
      · rintro ⟨j, hj, rfl⟩
        by_cases ej : j = m
        · subst ej; exact ⟨j - 1, by omega, e.symm⟩
        · exact ⟨j, by omega, rfl⟩
    · have hk' : m = 0 ∨ d[m]! ≠ d[m - 1]! := by simpa [Lib.keeps] using hk
      simp only [if_true]
      refine ⟨fun x => ?_, ?_⟩
      · rw [List.mem_append, h1 x, List.mem_singleton]
        constructor
        · rintro (⟨j, hj, rfl⟩ | rfl)
          · exact ⟨j, by omega, rfl⟩
          · exact ⟨m, by omega, rfl⟩
        · rintro ⟨j, hj, rfl⟩
          by_cases ej : j = m
          · subst ej; exact Or.inr rfl
          · exact Or.inl ⟨j, by omega, rfl⟩
      · rw [List.pairwise_append]
        refine ⟨h2, by simp, fun x hx y hy => ?_⟩
        rw [List.mem_singleton.1 hy]
        obtain ⟨j, hj, rfl⟩ := (h1 x).1 hx
        refine ⟨hs j m (by omega) (by omega), fun e => ?_⟩
        rcases hk' with h0 | hne
        · omega
        · apply hne
          exact anti _ _ (by rw [← e]; exact hs j (m - 1) (by omega) (by omega)) (hs (m - 1) m (by omega) (by omega))
theorem comp_all (le : α → α → Bool) (refl : ∀ a, le a a = true) (anti : ∀ a b, le a b = true → le b a = true → a = b) (xs : List α) (hs : xs.Pairwise (fun a b => le a b = true)) :
    (∀ x, x ∈ Lib.compact xs ↔ x ∈ xs) ∧ (Lib.compact xs).Pairwise (fun a b => le a b = true ∧ a ≠ b) := by
  have hp := List.pairwise_iff_getElem.1 hs
  have h := comp_upto le anti xs.toArray (fun i j hij hj => by
    have hj' : j < xs.length := by simpa using hj
    by_cases e : i = j
    · subst e; exact refl _
    · have := hp i j (by omega) hj' (by omega)
      rw [getElem!_pos _ i (by simp; omega), getElem!_pos _ j (by simp; omega)]
      simpa using this) xs.length (by simp)
  refine ⟨fun x => ?_, h.2⟩
  show x ∈ Lib.compactUpTo xs.toArray xs.length ↔ _
  rw [h.1 x]
  constructor
  · rintro ⟨j, hj, rfl⟩
    rw [getElem!_pos _ j (by simpa using hj)]
    simp
  · intro hx
    obtain ⟨j, hj, rfl⟩ := List.getElem_of_mem hx
    exact ⟨j, hj, by rw [getElem!_pos _ j (by simpa using hj)]; simp⟩
theorem asc_ext {β : Type} {R : β → β → Prop} (irr : ∀ a, ¬ R a a) (tr : ∀ a b c, R a b → R b c → R a c) : ∀ l1 l2 : List β, l1.Pairwise R → l2.Pairwise R → (∀ x, x ∈ l1 ↔ x ∈ l2) → l1 = l2
  | [], [], _, _, _ => rfl
  | [], b :: _, _, _, h => by have := (h b).2 (by simp); simp at this
  | a :: _, [], _, _, h => by have := (h a).1 (by simp); simp at this
  | a :: l, b :: m, h1, h2, h => by
    rw [List.pairwise_cons] at h1 h2
    by_cases e : a = b
    · subst e
      congr 1
      refine asc_ext irr tr l m h1.2 h2.2 (fun x => ⟨fun hx => ?_, fun hx => ?_⟩)
      · rcases List.mem_cons.1 ((h x).1 (by simp [hx])) with rfl | hm
        · exact absurd (h1.1 _ hx) (irr _)
        · exact hm
      · rcases List.mem_cons.1 ((h x).2 (by simp [hx])) with rfl | hm
        · exact absurd (h2.1 _ hx) (irr _)
        · exact hm
    · exfalso
      have ha : a ∈ m := by
        rcases List.mem_cons.1 ((h a).1 (by simp)) with h' | h'
        · exact absurd h' e
        · exact h'
      have hb : b ∈ l := by
        rcases List.mem_cons.1 ((h b).2 (by simp)) with h' | h'
        · exact absurd h'.symm e
        · exact h'
      exact irr a (tr _ _ _ (h1.1 b hb) (h2.1 a ha))
end

theorem ba_eta (b : ByteArray) : (⟨b.data.toList.toArray⟩ : ByteArray) = b := by
  obtain ⟨⟨l⟩⟩ := b
  rfl
theorem lt_iff (a b : ByteArray) : lt a b = true ↔ a.data.toList < b.data.toList := by
  unfold lt
  rw [bytesLess_eq, toList_data, toList_data, decide_eq_true_eq]
theorem lt_irr (a : ByteArray) : ¬ lt a a = true := by unfold lt; rw [less_irrefl]; simp
theorem lt_tr (a b c : ByteArray) (h1 : lt a b = true) (h2 : lt b c = true) : lt a c = true := by
  rw [lt_iff] at *
  exact List.lt_trans h1 h2
theorem lt_total {a b : ByteArray} (h : a ≠ b) : lt a b = true ∨ lt b a = true := by
  cases h1 : lt a b
  · exact Or.inr (less_total _ _ h1 (fun e => h (toList_inj e)))
  · exact Or.inl rfl
/-- texts, sorted -/
def sortB (ks : List ByteArray) : List ByteArray := ((ks.map (·.data.toList)).mergeSort fun x y => decide (x ≤ y)).map fun l => ⟨l.toArray⟩
/-- runs of like texts are one -/
def compB (ks : List ByteArray) : List ByteArray := (Lib.compact (ks.map (·.data.toList))).map fun l => ⟨l.toArray⟩
/-- each text once, ascending -/
def keysB (ks : List ByteArray) : List ByteArray := compB (sortB ks)
theorem map_mk (l : List (List UInt8)) : (l.map fun x => (⟨x.toArray⟩ : ByteArray)).map (·.data.toList) = l := by
  rw [List.map_map]
  conv => rhs; rw [← List.map_id l]
  rfl
theorem keys_spec (ks : List ByteArray) : (∀ x, x ∈ keysB ks ↔ x ∈ ks) ∧ (keysB ks).Pairwise (fun a b => lt a b = true) := by
  have hsorted : ((ks.map (·.data.toList)).mergeSort fun x y => decide (x ≤ y)).Pairwise (fun a b => decide (a ≤ b) = true) :=
    List.pairwise_mergeSort (fun a b c h1 h2 => by simp at *; exact List.le_trans h1 h2) (fun a b => by simp; exact List.le_total a b) _
  have h := comp_all (fun a b : List UInt8 => decide (a ≤ b)) (fun a => by simp) (fun a b h1 h2 => by simp at *; exact List.le_antisymm h1 h2) _ hsorted
  unfold keysB compB sortB
  rw [map_mk]
  refine ⟨fun x => ?_, ?_⟩
  · rw [List.mem_map]
    constructor
    · rintro ⟨l, hl, rfl⟩
      have := (h.1 l).1 hl
      rw [List.mem_mergeSort] at this
      obtain ⟨b, hb, rfl⟩ := List.mem_map.1 this
      rw [ba_eta]; exact hb
    · intro hx
      refine ⟨x.data.toList, (h.1 _).2 ?_, ba_eta x⟩
      rw [List.mem_mergeSort]
      exact List.mem_map.2 ⟨x, hx, rfl⟩
  · rw [List.pairwise_map]
    refine h.2.imp ?_
    intro a b hab
    rw [lt_iff]
    have h1 : a ≤ b := by simpa using hab.1
    show a < b
    have h3 : ((⟨a.toArray⟩ : ByteArray)) ≠ ⟨b.toArray⟩ := fun e => hab.2 (by have := congrArg (fun z : ByteArray => z.data.toList) e; simpa using this)
    rcases lt_total h3 with h4 | h4
    · exact (lt_iff _ _).1 h4
    · exact absurd ((lt_iff _ _).1 h4) h1
theorem keys_of {ks l : List ByteArray} (h1 : l.Pairwise (fun a b => lt a b = true)) (p : ByteArray → Bool) (h2 : ∀ x, x ∈ l ↔ x ∈ ks ∧ p x = true) : l = (keysB ks).filter p := by
  have h := keys_spec ks
  refine asc_ext lt_irr lt_tr _ _ h1 (h.2.filter _) (fun x => ?_)
  rw [h2, List.mem_filter, h.1]

/-- a text put among ascending ones -/
def insK (l : List ByteArray) (k : ByteArray) : List ByteArray := l.filter (fun y => lt y k) ++ [k] ++ l.filter (fun y => lt k y)
theorem ins_spec {l : List ByteArray} {k : ByteArray} (h : l.Pairwise (fun a b => lt a b = true)) : (insK l k).Pairwise (fun a b => lt a b = true) ∧ ∀ x, x ∈ insK l k ↔ x = k ∨ x ∈ l := by
  unfold insK
  constructor
  · rw [List.pairwise_append, List.pairwise_append]
    refine ⟨⟨h.filter _, by simp, fun x hx y hy => ?_⟩, h.filter _, fun x hx y hy => ?_⟩
    · rw [List.mem_singleton.1 hy]; exact (List.mem_filter.1 hx).2
    · have hy' := (List.mem_filter.1 hy).2
      rcases List.mem_append.1 hx with hx | hx
      · exact lt_tr _ _ _ (List.mem_filter.1 hx).2 hy'
      · rw [List.mem_singleton.1 hx]; exact hy'
  · intro x
    simp only [List.mem_append, List.mem_filter, List.mem_singleton]
    constructor
    · rintro ((⟨hx, _⟩ | rfl) | ⟨hx, _⟩)
      · exact Or.inr hx
      · exact Or.inl rfl
      · exact Or.inr hx
    · rintro (rfl | hx)
      · exact Or.inl (Or.inr rfl)
      · by_cases e : x = k
        · exact Or.inl (Or.inr e)
        · rcases lt_total e with h1 | h1
          · exact Or.inl (Or.inl ⟨hx, h1⟩)
          · exact Or.inr ⟨hx, h1⟩

/-- of a key: it and its value, if it is seen -/
def scanF (vs : List Vr) (r : Rg) (s : Int) (k : ByteArray) : Option Rg := if inB r k = true then (seenB vs k s).map fun v => (k, v) else none
/-- what a scan tells -/
def scanB (vs : List Vr) (r : Rg) (s : Int) : List Rg := (keysB (vs.map (·.1))).filterMap (scanF vs r s)
theorem scan_filter (vs : List Vr) (r : Rg) (s : Int) : scanB vs r s = ((keysB (vs.map (·.1))).filter (inB r)).filterMap fun k => (seenB vs k s).map fun v => (k, v) := by
  unfold scanB
  rw [List.filterMap_filter]
  rfl
end VM
end Go.Proofs.Ytblfljmcbpodbaa
