/- Versions: which is the last one; no Go. -/
import Derived.Test.YtnefncmkhgkdnaaMc
import Derived.Test.YtnefncmkhgkdnaaMg
namespace Go.Proofs.Ytnefncmkhgkdnaa
namespace VM
open KM
def isOf (k : ByteArray) (s : Int) (v : Vr) : Bool := decide (v.1 = k) && decide (v.2.2.2 ≤ s)
def more (a : Option Nd) (n : Nd) : Bool := match a with
  | none => true
  | some m => decide (m.2.2.2.2 < n.2.2.2.2)
def stp (k : ByteArray) (s : Int) (a : Option Nd) (n : Nd) : Option Nd := if (isOf k s n.2 && more a n) = true then some n else a
/-- the first one of this key with the greatest number not above s -/
def lst (k : ByteArray) (s : Int) (ns : List Nd) : Option Nd := ns.foldl (stp k s) none
theorem lst_nil (k : ByteArray) (s : Int) : lst k s [] = none := rfl
theorem lst_snoc (k : ByteArray) (s : Int) (A : List Nd) (n : Nd) : lst k s (A ++ [n]) = stp k s (lst k s A) n := by simp [lst, List.foldl_append]
def GoodL (k : ByteArray) (s : Int) (A : List Nd) (n : Nd) (B : List Nd) : Prop :=
  isOf k s n.2 = true ∧ (∀ m ∈ A, isOf k s m.2 = true → m.2.2.2.2 < n.2.2.2.2) ∧ (∀ m ∈ B, isOf k s m.2 = true → m.2.2.2.2 ≤ n.2.2.2.2)
def Told (k : ByteArray) (s : Int) (P : List Nd) (a : Option Nd) : Prop := match a with
  | none => ∀ m ∈ P, isOf k s m.2 = false
  | some x => ∃ A B, P = A ++ x :: B ∧ GoodL k s A x B
theorem told_snoc {k : ByteArray} {s : Int} {P : List Nd} {a : Option Nd} (n : Nd) (h : Told k s P a) : Told k s (P ++ [n]) (stp k s a n) := by
  unfold stp
  cases hi : isOf k s n.2
  · simp only [Bool.false_and, Bool.false_eq_true, if_false]
    cases a with
    | none =>
      intro m hm
      rcases List.mem_append.1 hm with hm | hm
      · exact h m hm
      · rw [List.mem_singleton.1 hm]; exact hi
    | some x =>
      obtain ⟨A, B, rfl, g1, g2, g3⟩ := h
      refine ⟨A, B ++ [n], by simp, g1, g2, fun m hm ho => ?_⟩
      rcases List.mem_append.1 hm with hm | hm
      · exact g3 m hm ho
      · rw [List.mem_singleton.1 hm, hi] at ho; cases ho
  · simp only [Bool.true_and]
    cases a with
    | none =>
      simp only [more, if_true]
      refine ⟨P, [], by simp, hi, fun m hm ho => ?_, fun m hm => by simp at hm⟩
      have := h m hm
      rw [this] at ho; cases ho
    | some x =>
      obtain ⟨A, B, rfl, g1, g2, g3⟩ := h
      simp only [more, decide_eq_true_eq]
      split
      · rename_i hlt
        refine ⟨A ++ x :: B, [], by simp, hi, fun m hm ho => ?_, fun m hm => by simp at hm⟩
        rcases List.mem_append.1 hm with hm | hm
        · have := g2 m hm ho; omega
        · rcases List.mem_cons.1 hm with rfl | hm
          · exact hlt
          · have := g3 m hm ho; omega
      · rename_i hlt
        refine ⟨A, B ++ [n], by simp, g1, g2, fun m hm ho => ?_⟩
        rcases List.mem_append.1 hm with hm | hm
        · exact g3 m hm ho
        · rw [List.mem_singleton.1 hm]; omega
theorem told_more {k : ByteArray} {s : Int} : ∀ (l P : List Nd) (a : Option Nd), Told k s P a → Told k s (P ++ l) (l.foldl (stp k s) a)
  | [], P, a, h => by simpa using h
  | n :: l, P, a, h => by
    have := told_more l (P ++ [n]) _ (told_snoc n h)
    simpa using this
theorem told (k : ByteArray) (s : Int) (P : List Nd) : Told k s P (lst k s P) := by
  have := told_more (k := k) (s := s) P [] none (fun m hm => by simp at hm)
  simpa [lst] using this
theorem lst_mem {k : ByteArray} {s : Int} {P : List Nd} {x : Nd} (h : lst k s P = some x) : x ∈ P ∧ isOf k s x.2 = true := by
  have := told k s P
  rw [h] at this
  obtain ⟨A, B, rfl, g⟩ := this
  exact ⟨by simp, g.1⟩
theorem stay {k : ByteArray} {s : Int} {n : Nd} : ∀ B : List Nd, (∀ m ∈ B, isOf k s m.2 = true → m.2.2.2.2 ≤ n.2.2.2.2) → B.foldl (stp k s) (some n) = some n
  | [], _ => rfl
  | m :: B, h => by
    have e : stp k s (some n) m = some n := by
      unfold stp
      rw [if_neg]
      simp only [more, Bool.and_eq_true, decide_eq_true_eq, not_and]
      intro ho
      have := h m (by simp) ho
      omega
    rw [List.foldl_cons, e]
    exact stay B (fun m' hm => h m' (by simp [hm]))
theorem lst_of {k : ByteArray} {s : Int} {A B : List Nd} {n : Nd} (h : GoodL k s A n B) : lst k s (A ++ n :: B) = some n := by
  have e : stp k s (lst k s A) n = some n := by
    unfold stp
    rw [if_pos]
    rw [h.1, Bool.true_and]
    cases hl : lst k s A with
    | none => rfl
    | some x => obtain ⟨hm, ho⟩ := lst_mem hl; simpa [more] using h.2.1 x hm ho
  unfold lst at e ⊢
  rw [List.foldl_append, List.foldl_cons, e]
  exact stay B h.2.2
theorem fold_snd (k : ByteArray) (s : Int) : ∀ (P Q : List Nd) (a b : Option Nd), P.map (·.2) = Q.map (·.2) → a.map (·.2) = b.map (·.2) → (P.foldl (stp k s) a).map (·.2) = (Q.foldl (stp k s) b).map (·.2)
  | [], [], _, _, _, h => h
  | [], _ :: _, _, _, h, _ => by simp at h
  | _ :: _, [], _, _, h, _ => by simp at h
  | n :: P, m :: Q, a, b, h, hab => by
    simp only [List.map_cons, List.cons.injEq] at h
    refine fold_snd k s P Q _ _ h.2 ?_
    have e : more a n = more b m := by
      cases a <;> cases b <;> simp_all [more]
    unfold stp
    rw [h.1, e]
    split
    · simp [h.1]
    · exact hab
theorem lst_snd {k : ByteArray} {s : Int} {P Q : List Nd} (h : P.map (·.2) = Q.map (·.2)) : (lst k s P).map (·.2) = (lst k s Q).map (·.2) := fold_snd k s P Q none none h rfl

/-- the version that is seen -/
def seenV (vs : List Vr) (k : ByteArray) (s : Int) : Option Vr := (lst k s (vs.map fun v => (0, v))).map (·.2)
theorem seenV_of {k : ByteArray} {s : Int} {ns : List Nd} {vs : List Vr} (h : ns.map (·.2) = vs) : (lst k s ns).map (·.2) = seenV vs k s := lst_snd (by rw [h]; simp [Function.comp_def])
/-- what is seen -/
def seenB (vs : List Vr) (k : ByteArray) (s : Int) : Option ByteArray := match seenV vs k s with
  | none => none
  | some v => if v.2.2.1 = true then none else some v.2.1
/-- the first n with their places -/
def lab (vs : List Vr) : Nat → List Nd
  | 0 => []
  | n + 1 => lab vs n ++ (match vs[n]? with
    | some v => [(n, v)]
    | none => [])
theorem lab_succ {vs : List Vr} {n : Nat} (h : n < vs.length) : lab vs (n + 1) = lab vs n ++ [(n, vs[n])] := by
  simp only [lab, List.getElem?_eq_getElem h]
theorem lab_snd (vs : List Vr) : ∀ n, (lab vs n).map (·.2) = vs.take n
  | 0 => by simp [lab]
  | n + 1 => by
    by_cases h : n < vs.length
    · rw [lab_succ h, List.map_append, lab_snd vs n, List.take_succ_eq_append_getElem h]; rfl
    · simp only [lab]
      rw [List.getElem?_eq_none (by omega), List.append_nil, lab_snd vs n, List.take_of_length_le (by omega), List.take_of_length_le (by omega)]
theorem lab_mem {vs : List Vr} {x : Nd} : ∀ {n : Nat}, x ∈ lab vs n → x.1 < n ∧ vs[x.1]? = some x.2
  | 0, h => by simp [lab] at h
  | n + 1, h => by
    simp only [lab, List.mem_append] at h
    rcases h with h | h
    · have := lab_mem h; exact ⟨by omega, this.2⟩
    · cases e : vs[n]? with
      | none => rw [e] at h; simp at h
      | some v => rw [e] at h; rw [List.mem_singleton.1 h]; exact ⟨by simp, e⟩
theorem lab_all (vs : List Vr) : (lab vs vs.length).map (·.2) = vs := by rw [lab_snd, List.take_length]
/-- the place, or -1 -/
def atI (o : Option Nd) : Int := match o with
  | none => -1
  | some n => n.1
end VM
end Go.Proofs.Ytnefncmkhgkdnaa
