/- What is trimmed: no Go. -/
import Derived.Test.YtnefncmkhgkdnaaChVM
namespace Go.Proofs.Ytnefncmkhgkdnaa
namespace VM
open KM
/-- at most as great as y -/
def leC (a : Option Nd) (y : Nd) : Prop := match a with
  | none => True
  | some m => m.2.2.2.2 ≤ y.2.2.2.2
theorem fold_less {k : ByteArray} {s : Int} {y : Nd} : ∀ (D : List Nd) (a : Option Nd), leC a y → D.foldl (stp k s) (some y) ≠ some y → D.foldl (stp k s) a = D.foldl (stp k s) (some y)
  | [], _, _, h => absurd rfl h
  | z :: D, a, ha, h => by
    simp only [List.foldl_cons] at h ⊢
    cases ho : isOf k s z.2
    · have e1 : stp k s (some y) z = some y := by unfold stp; rw [ho]; simp
      have e2 : stp k s a z = a := by unfold stp; rw [ho]; simp
      rw [e1] at h ⊢
      rw [e2]
      exact fold_less D a ha h
    · by_cases hz : y.2.2.2.2 < z.2.2.2.2
      · have e1 : stp k s (some y) z = some z := by unfold stp; rw [ho]; simp [more, hz]
        have e2 : stp k s a z = some z := by
          unfold stp; rw [ho]
          cases a with
          | none => simp [more]
          | some m =>
            have hm : m.2.2.2.2 ≤ y.2.2.2.2 := ha
            have : m.2.2.2.2 < z.2.2.2.2 := by omega
            simp [more, this]
        rw [e1, e2]
      · have e1 : stp k s (some y) z = some y := by unfold stp; rw [ho]; simp [more, hz]
        rw [e1] at h ⊢
        refine fold_less D _ ?_ h
        unfold stp
        split
        · show z.2.2.2.2 ≤ y.2.2.2.2; omega
        · exact ha
/-- one that is not the last one is taken out -/
theorem lst_out {k : ByteArray} {s : Int} (C D : List Nd) (y : Nd) (h : lst k s (C ++ y :: D) ≠ some y) : lst k s (C ++ D) = lst k s (C ++ y :: D) := by
  unfold lst at h ⊢
  simp only [List.foldl_append, List.foldl_cons] at h ⊢
  generalize C.foldl (stp k s) none = a at h ⊢
  by_cases hs : stp k s a y = some y
  · rw [hs] at h ⊢
    by_cases hm : more a y = true
    · refine fold_less D a ?_ h
      cases a with
      | none => trivial
      | some m =>
        have : m.2.2.2.2 < y.2.2.2.2 := by simpa [more] using hm
        show m.2.2.2.2 ≤ _; omega
    · have e : stp k s a y = a := by unfold stp; rw [if_neg]; simp [hm]
      rw [← hs, e]
  · have e : stp k s a y = a := by
      unfold stp at hs ⊢
      split
      · rename_i h1; rw [if_pos h1] at hs; exact absurd rfl hs
      · rfl
    rw [e]

/-- it stays when what is seen by nobody goes -/
def keep (s : Int) (ns : List Nd) (n : Nd) : Bool := decide (s < n.2.2.2.2) || ((lst n.2.1 s ns).map (·.1) == some n.1)
/-- whether it goes, asked of the chain as it is -/
def goes1 (s : Int) (A : List Nd) (n : Nd) (B : List Nd) : Bool := decide (n.2.2.2.2 ≤ s) && !((lst n.2.1 s (A ++ n :: B)).map (·.1) == some n.1)
def cnt (k : ByteArray) (ns : List Nd) : Nat := (ns.filter fun m => decide (m.2.1 = k)).length
def goes2 (s : Int) (A : List Nd) (n : Nd) (B : List Nd) : Bool := decide (n.2.2.2.2 ≤ s) && n.2.2.2.1 && (cnt n.2.1 (A ++ n :: B) == 1)
/-- what drop leaves: A has been asked, B not yet -/
def dropN (p : List Nd → Nd → List Nd → Bool) : List Nd → List Nd → List Nd
  | A, [] => A
  | A, n :: B => if p A n B = true then dropN p A B else dropN p (A ++ [n]) B
theorem drop1 {s : Int} {ns : List Nd} : ∀ (B A : List Nd), (∀ k, lst k s (A ++ B) = lst k s ns) → dropN (goes1 s) A B = A ++ B.filter (keep s ns)
  | [], A, _ => by simp [dropN]
  | n :: B, A, h => by
    have e : goes1 s A n B = !keep s ns n := by
      unfold goes1 keep
      rw [h]
      by_cases hs : n.2.2.2.2 ≤ s
      · have hs' : ¬ s < n.2.2.2.2 := by omega
        simp [hs, hs']
      · have hs' : s < n.2.2.2.2 := by omega
        simp [hs, hs']
    unfold dropN
    rw [e]
    cases hk : keep s ns n
    · rw [if_pos (by simp), List.filter_cons_of_neg (by simp [hk])]
      refine drop1 B A (fun k => ?_)
      rw [lst_out A B n ?_, h]
      rw [h]
      intro hl
      by_cases ek : n.2.1 = k
      · unfold keep at hk
        rw [ek, hl] at hk
        simp at hk
      · have := (lst_mem hl).2
        unfold isOf at this
        simp [ek] at this
    · rw [if_neg (by simp), List.filter_cons_of_pos hk, drop1 B (A ++ [n]) (fun k => by rw [← h k]; simp)]
      simp
theorem drop1_all (s : Int) (ns : List Nd) : dropN (goes1 s) [] ns = ns.filter (keep s ns) := by
  have h := drop1 (s := s) (ns := ns) ns [] (fun k => by rw [List.nil_append])
  rw [h, List.nil_append]

/-- whether it stays when those that stand alone go -/
def stay2 (s : Int) (l : List Nd) (n : Nd) : Bool := !(decide (n.2.2.2.2 ≤ s) && n.2.2.2.1 && (cnt n.2.1 l == 1))
/-- of each key at most one is not above s -/
def Sole (s : Int) (l : List Nd) : Prop := l.Pairwise fun m n => m.2.1 = n.2.1 → m.2.2.2.2 ≤ s → n.2.2.2.2 ≤ s → False
theorem cnt_app (k : ByteArray) (A B : List Nd) : cnt k (A ++ B) = cnt k A + cnt k B := by simp [cnt]
theorem cnt_filter {s : Int} {l : List Nd} {k : ByteArray} : ∀ P : List Nd, (∀ m ∈ P, m.2.1 = k → ¬ m.2.2.2.2 ≤ s) → cnt k (P.filter (stay2 s l)) = cnt k P
  | [], _ => by simp
  | m :: P, h => by
    have ih := cnt_filter (s := s) (l := l) (k := k) P (fun x hx => h x (by simp [hx]))
    by_cases e : m.2.1 = k
    · have hs : ¬ m.2.2.2.2 ≤ s := h m (by simp) e
      have hst : stay2 s l m = true := by unfold stay2; simp [hs]
      rw [List.filter_cons_of_pos hst]
      unfold cnt at ih ⊢
      rw [List.filter_cons_of_pos (by simp [e]), List.filter_cons_of_pos (by simp [e]), List.length_cons, List.length_cons, ih]
    · have h2 : cnt k (m :: P) = cnt k P := by unfold cnt; rw [List.filter_cons_of_neg (by simp [e])]
      rw [h2, ← ih]
      cases hst : stay2 s l m
      · rw [List.filter_cons_of_neg (by simp [hst])]
      · rw [List.filter_cons_of_pos hst]
        unfold cnt; rw [List.filter_cons_of_neg (by simp [e])]
theorem drop2 {s : Int} {l : List Nd} (hl : Sole s l) : ∀ (B P : List Nd), l = P ++ B → dropN (goes2 s) (P.filter (stay2 s l)) B = l.filter (stay2 s l)
  | [], P, h => by simp [dropN, h]
  | n :: B, P, h => by
    have e : goes2 s (P.filter (stay2 s l)) n B = !stay2 s l n := by
      unfold goes2 stay2
      rw [Bool.not_not]
      by_cases hs : n.2.2.2.2 ≤ s
      · have hP : ∀ m ∈ P, m.2.1 = n.2.1 → ¬ m.2.2.2.2 ≤ s := fun m hm ek hms => by
          have hl' := hl
          unfold Sole at hl'
          rw [h, List.pairwise_append] at hl'
          exact hl'.2.2 m hm n (by simp) ek hms hs
        have ec : cnt n.2.1 (P.filter (stay2 s l) ++ n :: B) = cnt n.2.1 l := by
          rw [cnt_app, cnt_filter P hP, ← cnt_app, ← h]
        have ec' : cnt n.2.1 (P.filter (fun n => !(decide (n.2.2.2.2 ≤ s) && n.2.2.2.1 && (cnt n.2.1 l == 1))) ++ n :: B) = cnt n.2.1 l := ec
        rw [ec']
      · simp [hs]
    unfold dropN
    rw [e]
    have hn : l = (P ++ [n]) ++ B := by rw [h]; simp
    have ih := drop2 hl B (P ++ [n]) hn
    rw [List.filter_append] at ih
    cases hk : stay2 s l n
    · rw [if_pos (by simp)]
      rw [List.filter_cons_of_neg (by simp [hk])] at ih
      simpa using ih
    · rw [if_neg (by simp)]
      rw [List.filter_cons_of_pos hk] at ih
      simpa using ih
theorem drop2_all {s : Int} {l : List Nd} (hl : Sole s l) : dropN (goes2 s) [] l = l.filter (stay2 s l) := drop2 hl l [] rfl
theorem sole_keep {s : Int} {ns : List Nd} (hnd : (ns.map (·.1)).Nodup) : Sole s (ns.filter (keep s ns)) := by
  unfold Sole
  have hnd' : ns.Pairwise fun m n => m.1 ≠ n.1 := by
    unfold List.Nodup at hnd
    rwa [List.pairwise_map] at hnd
  have h1 : (ns.filter (keep s ns)).Pairwise fun m n => m.1 ≠ n.1 := hnd'.filter _
  refine List.Pairwise.imp_of_mem ?_ h1
  intro m n hm hn hne ek h2 h3
  have km := (List.mem_filter.1 hm).2
  have kn := (List.mem_filter.1 hn).2
  unfold keep at km kn
  have a1 : ¬ s < m.2.2.2.2 := by omega
  have a2 : ¬ s < n.2.2.2.2 := by omega
  simp only [a1, decide_false, Bool.false_or, beq_iff_eq] at km
  simp only [a2, decide_false, Bool.false_or, beq_iff_eq] at kn
  rw [ek, kn] at km
  exact hne (Option.some.inj km).symm

/-- the last one by its place -/
theorem lst_place {k : ByteArray} {s : Int} {P : List Nd} {vs : List Vr} (h : P.map (·.2) = vs) : ∀ n, n ≤ P.length → lst k s (P.take n) = (lst k s (lab vs n)).bind fun x => P[x.1]?
  | 0, _ => by simp [lab, lst]
  | n + 1, hn => by
    have hv : n < vs.length := by rw [← h, List.length_map]; omega
    have ih := lst_place (k := k) (s := s) h n (by omega)
    have ev : vs[n] = (P[n]'(by omega)).2 := by simp [← h]
    rw [List.take_succ_eq_append_getElem (by omega : n < P.length), lst_snoc, lab_succ hv, lst_snoc, ih]
    cases hl : lst k s (lab vs n) with
    | none =>
      simp only [Option.bind_none]
      unfold stp
      rw [ev]
      simp only [more, Bool.and_true]
      split
      · simp only [Option.bind_some]; rw [List.getElem?_eq_getElem (by omega)]
      · rfl
    | some x =>
      obtain ⟨hx, hxv⟩ := lab_mem (lst_mem hl).1
      have hxP : x.1 < P.length := by omega
      have ex : (P[x.1]'hxP).2 = x.2 := by
        rw [← h, List.getElem?_map, List.getElem?_eq_getElem hxP] at hxv
        simpa using hxv
      simp only [Option.bind_some]
      rw [List.getElem?_eq_getElem hxP]
      have em : more (some (P[x.1]'hxP)) (P[n]'(by omega)) = more (some x) (n, (P[n]'(by omega)).2) := by simp only [more, ex]
      unfold stp
      rw [ev, em]
      split
      · simp only [Option.bind_some]; rw [List.getElem?_eq_getElem (by omega)]
      · simp only [Option.bind_some]; rw [List.getElem?_eq_getElem hxP]
theorem lab_len (vs : List Vr) : ∀ n, n ≤ vs.length → (lab vs n).length = n
  | 0, _ => rfl
  | n + 1, h => by rw [lab_succ (by omega), List.length_append, lab_len vs n (by omega)]; rfl
theorem lab_at {vs : List Vr} : ∀ (n i : Nat) (h : n ≤ vs.length) (hi : i < n), (lab vs n)[i]'(by rw [lab_len vs n h]; exact hi) = (i, vs[i]'(by omega))
  | n + 1, i, h, hi => by
    have hl := lab_len vs n (by omega)
    simp only [lab_succ (by omega : n < vs.length)]
    by_cases e : i = n
    · subst e
      rw [List.getElem_append_right (by omega)]
      simp [hl]
    · rw [List.getElem_append_left (by omega)]
      exact lab_at n i (by omega) (by omega)
theorem keep_lab {s : Int} {P : List Nd} {vs : List Vr} (h : P.map (·.2) = vs) (hnd : (P.map (·.1)).Nodup) (i : Nat) (hi : i < P.length) (hv : i < vs.length) :
    keep s P P[i] = keep s (lab vs vs.length) (i, vs[i]) := by
  have ev : vs[i] = P[i].2 := by simp [← h]
  have hlen : vs.length = P.length := by rw [← h, List.length_map]
  unfold keep
  simp only [ev]
  congr 1
  have hp := lst_place (k := P[i].2.1) (s := s) h P.length (Nat.le_refl _)
  rw [List.take_length] at hp
  rw [hp, hlen]
  cases hl : lst P[i].2.1 s (lab vs P.length) with
  | none => rfl
  | some x =>
    obtain ⟨hx, _⟩ := lab_mem (lst_mem hl).1
    simp only [Option.bind_some, Option.map_some]
    rw [List.getElem?_eq_getElem hx]
    simp only [Option.map_some]
    by_cases e : x.1 = i
    · simp only [e]; simp
    · have h2 : (P[x.1]'hx).1 ≠ P[i].1 := fun he => e (by
        have hx' : x.1 < (P.map (·.1)).length := by rw [List.length_map]; exact hx
        have hi' : i < (P.map (·.1)).length := by rw [List.length_map]; exact hi
        have hp := List.pairwise_iff_getElem.1 hnd
        rcases Nat.lt_trichotomy x.1 i with h1 | h1 | h1
        · exact absurd (by simpa using he) (hp x.1 i hx' hi' h1)
        · exact h1
        · exact absurd (by simpa using he.symm) (hp i x.1 hi' hx' h1))
      have b1 : (some (P[x.1]'hx).1 == some P[i].1) = false := by simpa using h2
      have b2 : (some x.1 == some i) = false := by simpa using e
      rw [b1, b2]

/-- what stays of the first i -/
def T1 (s : Int) (vs : List Vr) : Nat → List Vr
  | 0 => []
  | i + 1 => T1 s vs i ++ (match vs[i]? with
    | some v => if keep s (lab vs vs.length) (i, v) = true then [v] else []
    | none => [])
theorem T1_yes {s : Int} {vs : List Vr} {i : Nat} (h : i < vs.length) (hk : keep s (lab vs vs.length) (i, vs[i]) = true) : T1 s vs (i + 1) = T1 s vs i ++ [vs[i]] := by
  simp only [T1, List.getElem?_eq_getElem h, hk, if_true]
theorem T1_no {s : Int} {vs : List Vr} {i : Nat} (h : i < vs.length) (hk : keep s (lab vs vs.length) (i, vs[i]) = false) : T1 s vs (i + 1) = T1 s vs i := by
  simp only [T1, List.getElem?_eq_getElem h, hk, Bool.false_eq_true, if_false, List.append_nil]
theorem T1_len (s : Int) (vs : List Vr) : ∀ i, (T1 s vs i).length ≤ i
  | 0 => by simp [T1]
  | i + 1 => by
    have ih := T1_len s vs i
    simp only [T1, List.length_append]
    split
    · split <;> simp <;> omega
    · simp; omega
theorem T1_sub (s : Int) (vs : List Vr) : ∀ i, ∀ v ∈ T1 s vs i, v ∈ vs
  | 0, v, h => by simp [T1] at h
  | i + 1, v, h => by
    simp only [T1, List.mem_append] at h
    rcases h with h | h
    · exact T1_sub s vs i v h
    · cases e : vs[i]? with
      | none => rw [e] at h; simp at h
      | some u =>
        rw [e] at h
        by_cases hk : keep s (lab vs vs.length) (i, u) = true
        · simp only [hk, if_true] at h
          rw [List.mem_singleton.1 h]; exact List.mem_of_getElem? e
        · simp [hk] at h
theorem T1_of {s : Int} {P : List Nd} {vs : List Vr} (h : P.map (·.2) = vs) (hnd : (P.map (·.1)).Nodup) : ∀ n, n ≤ P.length → ((P.take n).filter (keep s P)).map (·.2) = T1 s vs n
  | 0, _ => by simp [T1]
  | n + 1, hn => by
    have hlen : vs.length = P.length := by rw [← h, List.length_map]
    have ih := T1_of (s := s) h hnd n (by omega)
    have ek := keep_lab (s := s) h hnd n (by omega) (by omega)
    have ev : vs[n]'(by omega) = (P[n]'(by omega)).2 := by simp [← h]
    rw [List.take_succ_eq_append_getElem (by omega : n < P.length), List.filter_append, List.map_append, ih]
    cases hk : keep s P (P[n]'(by omega))
    · rw [T1_no (by omega) (by rw [← ek]; exact hk)]
      simp [hk]
    · rw [T1_yes (by omega) (by rw [← ek]; exact hk), ev]
      simp [hk]
/-- like versions of a key -/
def cntV (k : ByteArray) (l : List Vr) : Nat := (l.filter fun v => decide (v.1 = k)).length
def stayV (s : Int) (l : List Vr) (v : Vr) : Bool := !(decide (v.2.2.2 ≤ s) && v.2.2.1 && (cntV v.1 l == 1))
/-- what is trimmed -/
def trimB (s : Int) (vs : List Vr) : List Vr := (T1 s vs vs.length).filter (stayV s (T1 s vs vs.length))
theorem cnt_snd (k : ByteArray) (l : List Nd) : cnt k l = cntV k (l.map (·.2)) := by
  unfold cnt cntV
  rw [List.filter_map, List.length_map]
  rfl
theorem trim_of {s : Int} {P : List Nd} {vs : List Vr} (h : P.map (·.2) = vs) (hnd : (P.map (·.1)).Nodup) : (dropN (goes2 s) [] (dropN (goes1 s) [] P)).map (·.2) = trimB s vs := by
  rw [drop1_all, drop2_all (sole_keep hnd)]
  have h1 := T1_of (s := s) h hnd P.length (Nat.le_refl _)
  rw [List.take_length] at h1
  have hlen : vs.length = P.length := by rw [← h, List.length_map]
  unfold trimB
  rw [hlen, ← h1, List.filter_map]
  congr 1
  apply List.filter_congr
  intro n _
  show stay2 s _ n = stayV s _ n.2
  unfold stay2 stayV
  rw [cnt_snd]
theorem trim_len (s : Int) (vs : List Vr) : (trimB s vs).length ≤ vs.length := Nat.le_trans (List.length_filter_le _ _) (T1_len s vs _)
theorem trim_sub {s : Int} {vs : List Vr} {v : Vr} (h : v ∈ trimB s vs) : v ∈ vs := T1_sub s vs _ v (List.mem_filter.1 h).1
end VM
end Go.Proofs.Ytnefncmkhgkdnaa
