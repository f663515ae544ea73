/- Versions: which is the last one; no Go. -/
import Derived.Test.YtmaipaeehalabaaGreatProg
import Derived.WalkKit
import Derived.Test.YtmaipaeehalabaaGreatPl01
import Derived.WalkSpells
import Derived.WalkLawsBesides
import Derived.Deep.QuietTactic
import Derived.BigQuiet
import Derived.Deep.RegionHeld3
import Derived.Deep.DrawnRows
import Derived.Test.YtmaipaeehalabaaGreatPl02
import Derived.Deep.AppendLies
import Derived.Test.YtmaipaeehalabaaGreatPl05
import Derived.Shelf.LaysM
import Derived.Shelf.Strconv.Clone
import Derived.Deep.RegionHeld
import Derived.Shelf.Small.Strs
import Derived.Shelf.Small.Wraps
import Derived.Test.YtmaipaeehalabaaGreatPl08
import Derived.Shelf.Sort.Plain
import Derived.Ground.Names2Prog
import Derived.Shelf.Slices.CompactS
import Derived.Shelf.Slices.Cells
import Derived.Shelf.Slices.In.SortNone
import Derived.Lib.SlicesCompact
import Derived.Sort.Walk0
import Derived.Sort.OwnSorted
import Derived.Lib.RowBridge
import Derived.Test.YtmaipaeehalabaaGreatPl10
import Derived.Lib.ItoaNum
import Derived.Lib.ItoaLen
import Derived.Test.YtmaipaeehalabaaGreatPl13
import Derived.Test.YtmaipaeehalabaaGreatPl15
namespace Go.Proofs.YtmaipaeehalabaaGreat
namespace VM
open KM
def isOf (k : ByteArray) (s : Int) (v : Vr) : Bool := decide (v.1 = k) && decide (v.2.2.2 ≤ s)
def more (a : Option Nd) (n : Nd) : Bool := match a with
  | none => true
  | some m => decide (m.2.2.2.2 < n.2.2.2.2)
def stp (k : ByteArray) (s : Int) (a : Option Nd) (n : Nd) : Option Nd := if (isOf k s n.2 && more a n) = true then some n else a
def lst (k : ByteArray) (s : Int) (ns : List Nd) : Option Nd := ns.foldl (stp k s) none
theorem lst_snoc (k : ByteArray) (s : Int) (A : List Nd) (n : Nd) : lst k s (A ++ [n]) = stp k s (lst k s A) n := by simp [lst, List.foldl_append]
def GoodL (k : ByteArray) (s : Int) (A : List Nd) (n : Nd) (B : List Nd) : Prop :=
  isOf k s n.2 = true ∧ (∀ m ∈ A, isOf k s m.2 = true → m.2.2.2.2 < n.2.2.2.2) ∧ (∀ m ∈ B, isOf k s m.2 = true → m.2.2.2.2 ≤ n.2.2.2.2)
def Told (k : ByteArray) (s : Int) (P : List Nd) (a : Option Nd) : Prop := match a with
  | none => ∀ m ∈ P, isOf k s m.2 = false
  | some x => ∃ A B, P = A ++ x :: B ∧ GoodL k s A x B
theorem told_snoc {k : ByteArray} {s : Int} {P : List Nd} {a : Option Nd} (n : Nd) (h : Told k s P a) : Told k s (P ++ [n]) (stp k s a n) := by
  unfold stp
  cases hi : isOf k s n.2
  · simp only [Bool.false_and, Bool.false_eq_true, if_false]
    cases a with
    | none =>
      intro m hm
      rcases List.mem_append.1 hm with hm | hm
      · exact h m hm
      · rw [List.mem_singleton.1 hm]; exact hi
    | some x =>
      obtain ⟨A, B, rfl, g1, g2, g3⟩ := h
      refine ⟨A, B ++ [n], by simp, g1, g2, fun m hm ho => ?_⟩
      rcases List.mem_append.1 hm with hm | hm
      · exact g3 m hm ho
      · rw [List.mem_singleton.1 hm, hi] at ho; cases ho
  · simp only [Bool.true_and]
    cases a with
    | none =>
      simp only [more, if_true]
      refine ⟨P, [], by simp, hi, fun m hm ho => ?_, fun m hm => by simp at hm⟩
      have := h m hm
      rw [this] at ho; cases ho
    | some x =>
      obtain ⟨A, B, rfl, g1, g2, g3⟩ := h
      simp only [more, decide_eq_true_eq]
      split
      · rename_i hlt
        refine ⟨A ++ x :: B, [], by simp, hi, fun m hm ho => ?_, fun m hm => by simp at hm⟩
        rcases List.mem_append.1 hm with hm | hm
        · have := g2 m hm ho; omega
        · rcases List.mem_cons.1 hm with rfl | hm
          · exact hlt
          · have := g3 m hm ho; omega
      · rename_i hlt
        refine ⟨A, B ++ [n], by simp, g1, g2, fun m hm ho => ?_⟩
        rcases List.mem_append.1 hm with hm | hm
        · exact g3 m hm ho
        · rw [List.mem_singleton.1 hm]; omega
theorem told_more {k : ByteArray} {s : Int} : ∀ (l P : List Nd) (a : Option Nd), Told k s P a → Told k s (P ++ l) (l.foldl (stp k s) a)
  | [], P, a, h => by simpa using h
  | n :: l, P, a, h => by
    have := told_more l (P ++ [n]) _ (told_snoc n h)
    simpa using this
theorem told (k : ByteArray) (s : Int) (P : List Nd) : Told k s P (lst k s P) := by
  have := told_more (k := k) (s := s) P [] none (fun m hm => by simp at hm)
  simpa [lst] using this
theorem lst_mem {k : ByteArray} {s : Int} {P : List Nd} {x : Nd} (h : lst k s P = some x) : x ∈ P ∧ isOf k s x.2 = true := by
  have := told k s P
  rw [h] at this
  obtain ⟨A, B, rfl, g⟩ := this
  exact ⟨by simp, g.1⟩
theorem fold_snd (k : ByteArray) (s : Int) : ∀ (P Q : List Nd) (a b : Option Nd), P.map (·.2) = Q.map (·.2) → a.map (·.2) = b.map (·.2) → (P.foldl (stp k s) a).map (·.2) = (Q.foldl (stp k s) b).map (·.2)
  | [], [], _, _, _, h => h
  | [], _ :: _, _, _, h, _ => by simp at h
  | _ :: _, [], _, _, h, _ => by simp at h
  | n :: P, m :: Q, a, b, h, hab => by
    simp only [List.map_cons, List.cons.injEq] at h
    refine fold_snd k s P Q _ _ h.2 ?_
    have e : more a n = more b m := by
      cases a <;> cases b <;> simp_all [more]
    unfold stp
    rw [h.1, e]
    split
    · simp [h.1]
    · exact hab
theorem lst_snd {k : ByteArray} {s : Int} {P Q : List Nd} (h : P.map (·.2) = Q.map (·.2)) : (lst k s P).map (·.2) = (lst k s Q).map (·.2) := fold_snd k s P Q none none h rfl

def seenV (vs : List Vr) (k : ByteArray) (s : Int) : Option Vr := (lst k s (vs.map fun v => (0, v))).map (·.2)
theorem seenV_of {k : ByteArray} {s : Int} {ns : List Nd} {vs : List Vr} (h : ns.map (·.2) = vs) : (lst k s ns).map (·.2) = seenV vs k s := lst_snd (by rw [h]; simp [Function.comp_def])
def seenB (vs : List Vr) (k : ByteArray) (s : Int) : Option ByteArray := match seenV vs k s with
  | none => none
  | some v => if v.2.2.1 = true then none else some v.2.1
def lab (vs : List Vr) : Nat → List Nd
  | 0 => []
  | n + 1 => lab vs n ++ (match vs[n]? with
    | some v => [(n, v)]
    | none => [])
theorem lab_succ {vs : List Vr} {n : Nat} (h : n < vs.length) : lab vs (n + 1) = lab vs n ++ [(n, vs[n])] := by
  simp only [lab, List.getElem?_eq_getElem h]
theorem lab_snd (vs : List Vr) : ∀ n, (lab vs n).map (·.2) = vs.take n
  | 0 => by simp [lab]
  | n + 1 => by
    by_cases h : n < vs.length
    · rw [lab_succ h, List.map_append, lab_snd vs n, List.take_succ_eq_append_getElem h]; rfl
    · simp only [lab]
      rw [List.getElem?_eq_none (by omega), List.append_nil, lab_snd vs n, List.take_of_length_le (by omega), List.take_of_length_le (by omega)]
theorem lab_mem {vs : List Vr} {x : Nd} : ∀ {n : Nat}, x ∈ lab vs n → x.1 < n ∧ vs[x.1]? = some x.2
  | 0, h => by simp [lab] at h
  | n + 1, h => by
    simp only [lab, List.mem_append] at h
    rcases h with h | h
    · have := lab_mem h; exact ⟨by omega, this.2⟩
    · cases e : vs[n]? with
      | none => rw [e] at h; simp at h
      | some v => rw [e] at h; rw [List.mem_singleton.1 h]; exact ⟨by simp, e⟩
theorem lab_all (vs : List Vr) : (lab vs vs.length).map (·.2) = vs := by rw [lab_snd, List.take_length]
def atI (o : Option Nd) : Int := match o with
  | none => -1
  | some n => n.1
end VM
end Go.Proofs.YtmaipaeehalabaaGreat

namespace Go.Proofs.YtmaipaeehalabaaGreat
namespace VM
open KM
section
variable {α : Type} [Inhabited α] [DecidableEq α]
theorem comp_upto (le : α → α → Bool) (anti : ∀ a b, le a b = true → le b a = true → a = b) (d : Array α) (hs : ∀ i j, i ≤ j → j < d.size → le d[i]! d[j]! = true) :
    ∀ m, m ≤ d.size → (∀ x, x ∈ Lib.compactUpTo d m ↔ ∃ j, j < m ∧ d[j]! = x) ∧ (Lib.compactUpTo d m).Pairwise (fun a b => le a b = true ∧ a ≠ b)
  | 0, _ => by
    refine ⟨fun x => ⟨fun h => by simp [Lib.compactUpTo] at h, fun ⟨j, hj, _⟩ => by omega⟩, by simp [Lib.compactUpTo]⟩
  | m + 1, hm => by
    obtain ⟨h1, h2⟩ := comp_upto le anti d hs m (by omega)
    rw [Lib.compactUpTo_succ]
    cases hk : Lib.keeps d m
    · have hk' : ¬ (m = 0 ∨ d[m]! ≠ d[m - 1]!) := by simpa [Lib.keeps] using hk
      have e : d[m]! = d[m - 1]! := by
        apply Classical.byContradiction
        intro h; exact hk' (Or.inr h)
      have hm0 : m ≠ 0 := fun h => hk' (Or.inl h)
      simp only [Bool.false_eq_true, if_false, List.append_nil]
      refine ⟨fun x => ?_, h2⟩
      rw [h1 x]
      constructor
      · rintro ⟨j, hj, rfl⟩; exact ⟨j, by omega, rfl⟩
      · rintro ⟨j, hj, rfl⟩
        by_cases ej : j = m
        · subst ej; exact ⟨j - 1, by omega, e.symm⟩
        · exact ⟨j, by omega, rfl⟩
    · have hk' : m = 0 ∨ d[m]! ≠ d[m - 1]! := by simpa [Lib.keeps] using hk
      simp only [if_true]
      refine ⟨fun x => ?_, ?_⟩
      · rw [List.mem_append, h1 x, List.mem_singleton]
        constructor
        · rintro (⟨j, hj, rfl⟩ | rfl)
          · exact ⟨j, by omega, rfl⟩
          · exact ⟨m, by omega, rfl⟩
        · rintro ⟨j, hj, rfl⟩
          by_cases ej : j = m
          · subst ej; exact Or.inr rfl
          · exact Or.inl ⟨j, by omega, rfl⟩
      · rw [List.pairwise_append]
        refine ⟨h2, by simp, fun x hx y hy => ?_⟩
        rw [List.mem_singleton.1 hy]
        obtain ⟨j, hj, rfl⟩ := (h1 x).1 hx
        refine ⟨hs j m (by omega) (by omega), fun e => ?_⟩
        rcases hk' with h0 | hne
        · omega
        · apply hne
          exact anti _ _ (by rw [← e]; exact hs j (m - 1) (by omega) (by omega)) (hs (m - 1) m (by omega) (by omega))
theorem comp_all (le : α → α → Bool) (refl : ∀ a, le a a = true) (anti : ∀ a b, le a b = true → le b a = true → a = b) (xs : List α) (hs : xs.Pairwise (fun a b => le a b = true)) :
    (∀ x, x ∈ Lib.compact xs ↔ x ∈ xs) ∧ (Lib.compact xs).Pairwise (fun a b => le a b = true ∧ a ≠ b) := by
  have hp := List.pairwise_iff_getElem.1 hs
  have h := comp_upto le anti xs.toArray (fun i j hij hj => by
    have hj' : j < xs.length := by simpa using hj
    by_cases e : i = j
    · subst e; exact refl _
    · have := hp i j (by omega) hj' (by omega)
      rw [getElem!_pos _ i (by simp; omega), getElem!_pos _ j (by simp; omega)]
      simpa using this) xs.length (by simp)
  refine ⟨fun x => ?_, h.2⟩
  show x ∈ Lib.compactUpTo xs.toArray xs.length ↔ _
  rw [h.1 x]
  constructor
  · rintro ⟨j, hj, rfl⟩
    rw [getElem!_pos _ j (by simpa using hj)]
    simp
  · intro hx
    obtain ⟨j, hj, rfl⟩ := List.getElem_of_mem hx
    exact ⟨j, hj, by rw [getElem!_pos _ j (by simpa using hj)]; simp⟩
theorem asc_ext {β : Type} {R : β → β → Prop} (irr : ∀ a, ¬ R a a) (tr : ∀ a b c, R a b → R b c → R a c) : ∀ l1 l2 : List β, l1.Pairwise R → l2.Pairwise R → (∀ x, x ∈ l1 ↔ x ∈ l2) → l1 = l2
  | [], [], _, _, _ => rfl
  | [], b :: _, _, _, h => by have := (h b).2 (by simp); simp at this
  | a :: _, [], _, _, h => by have := (h a).1 (by simp); simp at this
  | a :: l, b :: m, h1, h2, h => by
    rw [List.pairwise_cons] at h1 h2
    by_cases e : a = b
    · subst e
      congr 1
      refine asc_ext irr tr l m h1.2 h2.2 (fun x => ⟨fun hx => ?_, fun hx => ?_⟩)
      · rcases List.mem_cons.1 ((h x).1 (by simp [hx])) with rfl | hm
        · exact absurd (h1.1 _ hx) (irr _)
        · exact hm
      · rcases List.mem_cons.1 ((h x).2 (by simp [hx])) with rfl | hm
        · exact absurd (h2.1 _ hx) (irr _)
        · exact hm
    · exfalso
      have ha : a ∈ m := by
        rcases List.mem_cons.1 ((h a).1 (by simp)) with h' | h'
        · exact absurd h' e
        · exact h'
      have hb : b ∈ l := by
        rcases List.mem_cons.1 ((h b).2 (by simp)) with h' | h'
        · exact absurd h'.symm e
        · exact h'
      exact irr a (tr _ _ _ (h1.1 b hb) (h2.1 a ha))
end

theorem ba_eta (b : ByteArray) : (⟨b.data.toList.toArray⟩ : ByteArray) = b := by
  obtain ⟨⟨l⟩⟩ := b
  rfl
theorem lt_iff (a b : ByteArray) : lt a b = true ↔ a.data.toList < b.data.toList := by
  unfold lt
  rw [bytesLess_eq, toList_data, toList_data, decide_eq_true_eq]
theorem lt_irr (a : ByteArray) : ¬ lt a a = true := by unfold lt; rw [less_irrefl]; simp
theorem lt_tr (a b c : ByteArray) (h1 : lt a b = true) (h2 : lt b c = true) : lt a c = true := by
  rw [lt_iff] at *
  exact List.lt_trans h1 h2
theorem lt_total {a b : ByteArray} (h : a ≠ b) : lt a b = true ∨ lt b a = true := by
  cases h1 : lt a b
  · exact Or.inr (less_total _ _ h1 (fun e => h (toList_inj e)))
  · exact Or.inl rfl
def sortB (ks : List ByteArray) : List ByteArray := ((ks.map (·.data.toList)).mergeSort fun x y => decide (x ≤ y)).map fun l => ⟨l.toArray⟩
def compB (ks : List ByteArray) : List ByteArray := (Lib.compact (ks.map (·.data.toList))).map fun l => ⟨l.toArray⟩
def keysB (ks : List ByteArray) : List ByteArray := compB (sortB ks)
theorem map_mk (l : List (List UInt8)) : (l.map fun x => (⟨x.toArray⟩ : ByteArray)).map (·.data.toList) = l := by
  rw [List.map_map]
  conv => rhs; rw [← List.map_id l]
  rfl
theorem keys_spec (ks : List ByteArray) : (∀ x, x ∈ keysB ks ↔ x ∈ ks) ∧ (keysB ks).Pairwise (fun a b => lt a b = true) := by
  have hsorted : ((ks.map (·.data.toList)).mergeSort fun x y => decide (x ≤ y)).Pairwise (fun a b => decide (a ≤ b) = true) :=
    List.pairwise_mergeSort (fun a b c h1 h2 => by simp at *; exact List.le_trans h1 h2) (fun a b => by simp; exact List.le_total a b) _
  have h := comp_all (fun a b : List UInt8 => decide (a ≤ b)) (fun a => by simp) (fun a b h1 h2 => by simp at *; exact List.le_antisymm h1 h2) _ hsorted
  unfold keysB compB sortB
  rw [map_mk]
  refine ⟨fun x => ?_, ?_⟩
  · rw [List.mem_map]
    constructor
    · rintro ⟨l, hl, rfl⟩
      have := (h.1 l).1 hl
      rw [List.mem_mergeSort] at this
      obtain ⟨b, hb, rfl⟩ := List.mem_map.1 this
      rw [ba_eta]; exact hb
    · intro hx
      refine ⟨x.data.toList, (h.1 _).2 ?_, ba_eta x⟩
      rw [List.mem_mergeSort]
      exact List.mem_map.2 ⟨x, hx, rfl⟩
  · rw [List.pairwise_map]
    refine h.2.imp ?_
    intro a b hab
    rw [lt_iff]
    have h1 : a ≤ b := by simpa using hab.1
    show a < b
    have h3 : ((⟨a.toArray⟩ : ByteArray)) ≠ ⟨b.toArray⟩ := fun e => hab.2 (by have := congrArg (fun z : ByteArray => z.data.toList) e; simpa using this)
    rcases lt_total h3 with h4 | h4
    · exact (lt_iff _ _).1 h4
    · exact absurd ((lt_iff _ _).1 h4) h1
theorem keys_of {ks l : List ByteArray} (h1 : l.Pairwise (fun a b => lt a b = true)) (p : ByteArray → Bool) (h2 : ∀ x, x ∈ l ↔ x ∈ ks ∧ p x = true) : l = (keysB ks).filter p := by
  have h := keys_spec ks
  refine asc_ext lt_irr lt_tr _ _ h1 (h.2.filter _) (fun x => ?_)
  rw [h2, List.mem_filter, h.1]

def insK (l : List ByteArray) (k : ByteArray) : List ByteArray := l.filter (fun y => lt y k) ++ [k] ++ l.filter (fun y => lt k y)
theorem ins_spec {l : List ByteArray} {k : ByteArray} (h : l.Pairwise (fun a b => lt a b = true)) : (insK l k).Pairwise (fun a b => lt a b = true) ∧ ∀ x, x ∈ insK l k ↔ x = k ∨ x ∈ l := by
  unfold insK
  constructor
  · rw [List.pairwise_append, List.pairwise_append]
    refine ⟨⟨h.filter _, by simp, fun x hx y hy => ?_⟩, h.filter _, fun x hx y hy => ?_⟩
    · rw [List.mem_singleton.1 hy]; exact (List.mem_filter.1 hx).2
    · have hy' := (List.mem_filter.1 hy).2
      rcases List.mem_append.1 hx with hx | hx
      · exact lt_tr _ _ _ (List.mem_filter.1 hx).2 hy'
      · rw [List.mem_singleton.1 hx]; exact hy'
  · intro x
    simp only [List.mem_append, List.mem_filter, List.mem_singleton]
    constructor
    · rintro ((⟨hx, _⟩ | rfl) | ⟨hx, _⟩)
      · exact Or.inr hx
      · exact Or.inl rfl
      · exact Or.inr hx
    · rintro (rfl | hx)
      · exact Or.inl (Or.inr rfl)
      · by_cases e : x = k
        · exact Or.inl (Or.inr e)
        · rcases lt_total e with h1 | h1
          · exact Or.inl (Or.inl ⟨hx, h1⟩)
          · exact Or.inr ⟨hx, h1⟩

def scanF (vs : List Vr) (r : Rg) (s : Int) (k : ByteArray) : Option Rg := if inB r k = true then (seenB vs k s).map fun v => (k, v) else none
def scanB (vs : List Vr) (r : Rg) (s : Int) : List Rg := (keysB (vs.map (·.1))).filterMap (scanF vs r s)
theorem scan_filter (vs : List Vr) (r : Rg) (s : Int) : scanB vs r s = ((keysB (vs.map (·.1))).filter (inB r)).filterMap fun k => (seenB vs k s).map fun v => (k, v) := by
  unfold scanB
  rw [List.filterMap_filter]
  rfl
end VM
end Go.Proofs.YtmaipaeehalabaaGreat

namespace Go.Proofs.YtmaipaeehalabaaGreat
open Go.RowKit
open KM
open VM Go.Sort
attribute [local go_sem ↓] Go.wp_at_zero Go.wp_at_succ

theorem cellsS (ks : List ByteArray) : encS.cells ks = (ks.map (·.data.toList)).map encStr := by
  induction ks with
  | nil => rfl
  | cons k ks ih =>
    have e : encS.cells (k :: ks) = .string k :: encS.cells ks := rfl
    rw [e, ih, List.map_cons, List.map_cons]
theorem cellsB (l : List (List UInt8)) : encS.cells (l.map fun x => (⟨x.toArray⟩ : ByteArray)) = l.map encStr := by rw [cellsS, map_mk]
theorem sortB_len (ks : List ByteArray) : (sortB ks).length = ks.length := by simp [sortB]

end Go.Proofs.YtmaipaeehalabaaGreat

namespace Go.Proofs.YtmaipaeehalabaaGreat
open Go.RowKit
open KM
open VM
attribute [local go_sem ↓] Go.wp_at_zero Go.wp_at_succ

def bv (l : List UInt8) : List Value := l.map fun b => .int .u8 b.toNat
def Own (w : World) (base : Nat) (v : Value) (l : List UInt8) : Prop := w.ownsRow base 5 1 v l.length (bv l)
theorem Own.str {w : World} {base : Nat} {v : Value} {l : List UInt8} (h : Own w base v l) :
    (convert 88 9 v).run Tryz.prog w = .ok (.string ⟨l.toArray⟩) w := by
  have h0 := h
  rcases h.2 with ⟨rfl, h1⟩ | ⟨g, cap, cur, rfl, hg, hh, hnc, hcp, hcs, htake⟩
  · obtain rfl : l = [] := List.length_eq_zero_iff.1 h1
    rw [run_convert_bytes_string w 88 9 5 none 0 0 Tryz.underlying88 Tryz.underlying5 Tryz.underlying9]
    rfl
  · refine run_convert_bytes_back (P := Tryz.prog) w 88 9 5 ⟨g, 0, none⟩ cap l Tryz.underlying88 Tryz.underlying5 Tryz.underlying9 ?_
    intro j hj
    rw [Addr.add_lit, Nat.zero_add, World.ownsRow.cellAt h0 j (by omega)]
    simp [bv, hj]
end Go.Proofs.YtmaipaeehalabaaGreat

namespace Go.Proofs.YtmaipaeehalabaaGreat
open Go.RowKit

theorem Tryz.info5 : (Tryz.prog.info? 5).map (fun i => (i.zero, i.size, i.bytes)) = some (some (.int .u8 0), 1, 1) := by kernel_rfl

theorem bv_len (l : List UInt8) : (bv l).length = l.length := by simp [bv]

theorem Own.snoc {w : World} {base : Nat} {v : Value} {pre : List UInt8} {x : Int} (b : UInt8)
    (h : w.ownsRow base 5 1 v (pre.length + 1) (bv pre ++ [.int .u8 x])) (hx : x = (b.toNat : Int)) : Own w base v (pre ++ [b]) := by
  subst hx
  unfold Own
  simpa [bv] using h

theorem Own.nil (w : World) (base : Nat) : Own w base (.slice none 0 0) [] := World.ownsRow_nil _ _ _ _

theorem Own.empty (w : World) (base : Nat) (hb : base ≤ w.heap.size) : Own (w.alloc (.cells #[] 5)) base (.slice (some ⟨w.heap.size, 0, none⟩) 0 0) [] :=
  World.ownsRow_lit (size := 1) w #[] 0 hb (by unfold maxLen; omega) rfl

theorem wpApp {ops : Array Oper} {rest : List Oper} {o : Oper} {a : Act} {Q : Exit → Act → World → Prop} (hgd : o.guard = none) (s x : Operand)
    (ho : o.op = .call { callee := .builtin .append, args := #[s, x], argTypes := #[88, 88] }) {wr : World} {cs : Array Value} (w0 : World) {base : Nat} {v : Value} {pre : List UInt8} (news : List UInt8)
    (hs : a.eval s = v) (hown : Own wr base v pre) (hx : a.eval x = .slice (some ⟨wr.heap.size, 0, none⟩) news.length news.length) (hcs : cs.toList = bv news)
    (hlen : pre.length + news.length ≤ 140737488355328) (hb : Below base w0 wr) (hB : base ≤ w0.heap.size)
    (h : ∀ v' w', Own w' base v' (pre ++ news) → Below base w0 w' → (wr.alloc (.cells cs 5)).grownBy w' v.ownBlock → wpList Tryz.prog ops Q rest (a.put o.dst v') w') :
    wpList Tryz.prog ops Q (o :: rest) a (wr.alloc (.cells cs 5)) := by
  obtain ⟨i0, hi, hz0, hz1, hz2⟩ := info_parts Tryz.info5
  have hsz := hb.size
  refine wpList_append_own _ hgd s x 88 ho base 5 i0 (.int .u8 0) 1 1 Tryz.underlying88 hi hz0 hz1 hz2 rfl (by decide) v pre.length (bv pre) hs (World.ownsRow.alloc hown _) ⟨wr.heap.size, 0, none⟩ news.length news.length (bv news) hx (by rw [bv_len]; omega) ?_ ?_ (by unfold maxLen; omega) (by omega) (by simp; omega) ?_
  · intro j u hj
    have hc : (wr.alloc (.cells cs 5)).cell? ⟨wr.heap.size, j, none⟩ = cs[j]? := World.cell?_alloc_mark wr cs 5 (0, 0) j
    rw [Addr.add_lit, Nat.zero_add, hc, ← hj, ← hcs]
    simp
  · intro u hu
    simp only [bv, List.mem_map] at hu
    obtain ⟨b, _, rfl⟩ := hu
    rfl
  · intro v' w' h1 h2 _
    refine h v' w' ?_ ((hb.alloc (by omega) _).grown h2 (by simp; omega) (fun j hj => (World.ownsRow.lt hown j hj).1)) h2
    unfold Own
    simpa [bv] using h1

theorem byteCell (x : Int) (b : UInt8) (h : x = (b.toNat : Int)) : #[Value.int .u8 x].toList = bv [b] := by subst h; rfl
theorem ofNatCell (x : Int) (n : Nat) (hn : n < 256) (h : x = (n : Int)) : #[Value.int .u8 x].toList = bv [UInt8.ofNat n] := byteCell _ _ (by rw [toNat_ofNat n hn]; exact h)

end Go.Proofs.YtmaipaeehalabaaGreat
