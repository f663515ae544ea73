/- What is trimmed of right versions is seen as before: no Go. -/
import Derived.Test.YtnlfojaflgehbaaUM
import Derived.Test.YtnlfojaflgehbaaTM
import Derived.Test.YtnlfojaflgehbaaS3
namespace Go.Proofs.Ytnlfojaflgehbaa
open Go.RowKit
open KM
open VM
attribute [local go_sem ↓] Go.wp_at_zero Go.wp_at_succ

theorem asc_lt {a b : Vr} (h : asc a b = true) (e : a.1 = b.1) : a.2.2.2 < b.2.2.2 := by
  unfold asc at h
  rw [e, lt_irrefl'] at h
  simpa using h
theorem asc_at {l : List Vr} (hA : AscV l) {i j : Nat} (hi : i < l.length) (hj : j < l.length) (e1 : l[i].1 = l[j].1) (e2 : l[i].2.2.2 = l[j].2.2.2) : i = j := by
  rcases Nat.lt_trichotomy i j with h | h | h
  · have := asc_lt (List.pairwise_iff_getElem.1 hA i j hi hj h) e1; omega
  · exact h
  · have := asc_lt (List.pairwise_iff_getElem.1 hA j i hj hi h) e1.symm; omega
theorem asc_uniq {l : List Vr} (hA : AscV l) {a b : Vr} (ha : a ∈ l) (hb : b ∈ l) (e1 : a.1 = b.1) (e2 : a.2.2.2 = b.2.2.2) : a = b := by
  obtain ⟨i, hi, rfl⟩ := List.mem_iff_getElem.1 ha
  obtain ⟨j, hj, rfl⟩ := List.mem_iff_getElem.1 hb
  have := asc_at hA hi hj e1 e2
  subst this
  rfl
theorem isOf_iff {k : ByteArray} {z : Int} {v : Vr} : isOf k z v = true ↔ v.1 = k ∧ v.2.2.2 ≤ z := by
  unfold isOf; simp
theorem seen_none' {vs : List Vr} {k : ByteArray} {z : Int} (h : seenV vs k z = none) : ∀ v ∈ vs, ¬ (v.1 = k ∧ v.2.2.2 ≤ z) := by
  intro v hv hi
  unfold seenV at h
  have ht := told k z (vs.map fun v => (0, v))
  cases hl : lst k z (vs.map fun v => (0, v)) with
  | some x => rw [hl] at h; cases h
  | none =>
    rw [hl] at ht
    have := ht (0, v) (List.mem_map.2 ⟨v, hv, rfl⟩)
    rw [isOf_iff.2 hi] at this
    cases this
theorem seen_some' {vs : List Vr} {k : ByteArray} {z : Int} {x : Vr} (h : seenV vs k z = some x) : x ∈ vs ∧ x.1 = k ∧ x.2.2.2 ≤ z ∧ ∀ v ∈ vs, v.1 = k → v.2.2.2 ≤ z → v.2.2.2 ≤ x.2.2.2 := by
  unfold seenV at h
  have ht := told k z (vs.map fun v => (0, v))
  cases hl : lst k z (vs.map fun v => (0, v)) with
  | none => rw [hl] at h; cases h
  | some y =>
    rw [hl] at h ht
    have hy : y.2 = x := Option.some.inj h
    obtain ⟨A, B, e, h1, h2, h3⟩ := ht
    have hm : y ∈ vs.map fun v => ((0 : Nat), v) := by rw [e]; simp
    obtain ⟨v0, hv0, rfl⟩ := List.mem_map.1 hm
    simp only at hy
    subst hy
    obtain ⟨i1, i2⟩ := isOf_iff.1 h1
    refine ⟨hv0, i1, i2, fun v hv e1 e2 => ?_⟩
    have hmv : ((0 : Nat), v) ∈ A ++ (0, v0) :: B := by rw [← e]; exact List.mem_map.2 ⟨v, hv, rfl⟩
    have hi := isOf_iff.2 ⟨e1, e2⟩
    rcases List.mem_append.1 hmv with hA | hB
    · exact Int.le_of_lt (h2 _ hA hi)
    · rcases List.mem_cons.1 hB with e3 | hB
      · cases e3; exact Int.le_refl _
      · exact h3 _ hB hi
theorem seen_is {vs : List Vr} (hA : AscV vs) {k : ByteArray} {z : Int} {x : Vr} (h1 : x ∈ vs) (h2 : x.1 = k) (h3 : x.2.2.2 ≤ z) (h4 : ∀ v ∈ vs, v.1 = k → v.2.2.2 ≤ z → v.2.2.2 ≤ x.2.2.2) : seenV vs k z = some x := by
  cases h : seenV vs k z with
  | none => exact absurd ⟨h2, h3⟩ (seen_none' h x h1)
  | some y =>
    obtain ⟨a, b, c, d⟩ := seen_some' h
    have e1 := d x h1 h2 h3
    have e2 := h4 y a b c
    rw [asc_uniq hA a h1 (b.trans h2.symm) (by omega)]
theorem seen_non {vs : List Vr} {k : ByteArray} {z : Int} (h : ∀ v ∈ vs, ¬ (v.1 = k ∧ v.2.2.2 ≤ z)) : seenV vs k z = none := by
  cases h2 : seenV vs k z with
  | none => rfl
  | some y =>
    obtain ⟨a, b, c, _⟩ := seen_some' h2
    exact absurd ⟨b, c⟩ (h y a)
/-- whether it stays ahead of the second question -/
theorem lab_nodup (vs : List Vr) : ∀ n, n ≤ vs.length → ((lab vs n).map (·.1)).Nodup
  | 0, _ => List.nodup_nil
  | n + 1, h => by
    rw [lab_succ h, List.map_append, List.nodup_append]
    refine ⟨lab_nodup vs n (by omega), by simp, fun a ha b hb => ?_⟩
    obtain ⟨x, hx, rfl⟩ := List.mem_map.1 ha
    have := (lab_mem hx).1
    simp at hb
    omega
theorem T1_all (s : Int) (vs : List Vr) : T1 s vs vs.length = ((lab vs vs.length).filter (keep s (lab vs vs.length))).map (·.2) := by
  have h := T1_of (s := s) (P := lab vs vs.length) (vs := vs) (lab_all vs) (lab_nodup vs _ (Nat.le_refl _)) vs.length (by rw [lab_len vs _ (Nat.le_refl _)]; exact Nat.le_refl _)
  rw [← h, List.take_of_length_le (by rw [lab_len vs _ (Nat.le_refl _)]; exact Nat.le_refl _)]
theorem lst_lab (k : ByteArray) (s : Int) (vs : List Vr) : (lst k s (lab vs vs.length)).map (·.2) = seenV vs k s := seenV_of (lab_all vs)
theorem mem_lab {vs : List Vr} {v : Vr} (h : v ∈ vs) : ∃ n ∈ lab vs vs.length, n.2 = v := by
  have h2 : v ∈ (lab vs vs.length).map (·.2) := by rw [lab_all]; exact h
  obtain ⟨n, hn, e⟩ := List.mem_map.1 h2
  exact ⟨n, hn, e⟩
theorem keep_in {s : Int} {vs : List Vr} {n : Nd} (hn : n ∈ lab vs vs.length) (h : keep s (lab vs vs.length) n = true) : s < n.2.2.2.2 ∨ seenV vs n.2.1 s = some n.2 := by
  unfold keep at h
  rcases Bool.or_eq_true_iff.1 h with h | h
  · exact Or.inl (of_decide_eq_true h)
  · right
    cases hl : lst n.2.1 s (lab vs vs.length) with
    | none => rw [hl] at h; simp at h
    | some m =>
      rw [hl] at h
      have e : m.1 = n.1 := by simpa using h
      rw [← lst_lab, hl]
      have h1 := (lab_mem (lst_mem hl).1).2
      have h2 := (lab_mem hn).2
      rw [e, h2] at h1
      exact congrArg some (Option.some.inj h1).symm
theorem mem_T1 {s : Int} {vs : List Vr} {v : Vr} : v ∈ T1 s vs vs.length ↔ v ∈ vs ∧ (s < v.2.2.2 ∨ seenV vs v.1 s = some v) := by
  rw [T1_all]
  constructor
  · intro h
    obtain ⟨n, hn, rfl⟩ := List.mem_map.1 h
    obtain ⟨h1, h2⟩ := List.mem_filter.1 hn
    exact ⟨by rw [← lab_all vs]; exact List.mem_map.2 ⟨n, h1, rfl⟩, keep_in h1 h2⟩
  · rintro ⟨hv, h | h⟩
    · obtain ⟨n, hn, rfl⟩ := mem_lab hv
      refine List.mem_map.2 ⟨n, List.mem_filter.2 ⟨hn, ?_⟩, rfl⟩
      unfold keep
      rw [decide_eq_true h]; rfl
    · rw [← lst_lab] at h
      cases hl : lst v.1 s (lab vs vs.length) with
      | none => rw [hl] at h; cases h
      | some m =>
        rw [hl] at h
        have e : m.2 = v := Option.some.inj h
        refine List.mem_map.2 ⟨m, List.mem_filter.2 ⟨(lst_mem hl).1, ?_⟩, e⟩
        unfold keep
        rw [e, hl]
        simp
theorem T1_subl (s : Int) (vs : List Vr) : List.Sublist (T1 s vs vs.length) vs := by
  rw [T1_all]
  have h := (List.filter_sublist (p := keep s (lab vs vs.length)) (l := lab vs vs.length)).map (fun n : Nd => n.2)
  have e := lab_all vs
  rw [e] at h
  exact h
theorem trim_subl (s : Int) (vs : List Vr) : List.Sublist (trimB s vs) vs := List.Sublist.trans List.filter_sublist (T1_subl s vs)
theorem trim_asc {s : Int} {vs : List Vr} (h : AscV vs) : AscV (trimB s vs) := List.Pairwise.sublist (trim_subl s vs) h
theorem trim_vsd {s k : Int} {vs : List Vr} (h : VsD k vs) : VsD k (trimB s vs) := ⟨fun x hx => h.1 x (trim_sub hx), trim_asc h.2⟩
theorem cnt_one {k : ByteArray} {l : List Vr} (h : cntV k l = 1) {x y : Vr} (hx : x ∈ l) (hy : y ∈ l) (e1 : x.1 = k) (e2 : y.1 = k) : x = y := by
  unfold cntV at h
  obtain ⟨a, ha⟩ := List.length_eq_one_iff.1 h
  have h1 : x ∈ l.filter fun v => decide (v.1 = k) := List.mem_filter.2 ⟨hx, by simpa using e1⟩
  have h2 : y ∈ l.filter fun v => decide (v.1 = k) := List.mem_filter.2 ⟨hy, by simpa using e2⟩
  rw [ha] at h1 h2
  rw [List.mem_singleton.1 h1, List.mem_singleton.1 h2]
theorem stayV_false {s : Int} {l : List Vr} {v : Vr} (h : stayV s l v = false) : v.2.2.2 ≤ s ∧ v.2.2.1 = true ∧ cntV v.1 l = 1 := by
  unfold stayV at h
  simp only [Bool.not_eq_false', Bool.and_eq_true, decide_eq_true_eq, beq_iff_eq] at h
  exact ⟨h.1.1, h.1.2, h.2⟩
theorem stayV_true {s : Int} {l : List Vr} {v : Vr} (h : s < v.2.2.2) : stayV s l v = true := by
  unfold stayV
  rw [decide_eq_false (by omega)]; rfl
/-- what is trimmed is seen as before from there on -/
theorem seen_trim {s z : Int} {vs : List Vr} (hA : AscV vs) (hz : s ≤ z) (k : ByteArray) : seenB (trimB s vs) k z = seenB vs k z := by
  have hT := trim_asc (s := s) hA
  cases h : seenV vs k z with
  | none =>
    have e : seenV (trimB s vs) k z = none := seen_non (fun v hv => seen_none' h v (trim_sub hv))
    unfold seenB
    rw [h, e]
  | some x =>
    obtain ⟨a, b, c, d⟩ := seen_some' h
    have up : x ∈ trimB s vs → seenB (trimB s vs) k z = seenB vs k z := fun hx => by
      have e := seen_is hT hx b c (fun v hv => d v (trim_sub hv))
      unfold seenB
      rw [h, e]
    by_cases hc : s < x.2.2.2
    · exact up (List.mem_filter.2 ⟨mem_T1.2 ⟨a, Or.inl hc⟩, stayV_true hc⟩)
    · have hm : x ∈ T1 s vs vs.length := mem_T1.2 ⟨a, Or.inr (seen_is hA a rfl (by omega) (fun v hv e1 e2 => d v hv (e1.trans b) (by omega)))⟩
      cases hs : stayV s (T1 s vs vs.length) x
      · obtain ⟨_, g, cn⟩ := stayV_false hs
        have e : seenV (trimB s vs) k z = none := seen_non (fun v hv hi => by
          obtain ⟨h1, h2⟩ := List.mem_filter.1 hv
          have := cnt_one cn hm h1 rfl (hi.1.trans b.symm)
          subst this
          rw [hs] at h2
          cases h2)
        unfold seenB
        rw [h, e]
        simp [g]
      · exact up (List.mem_filter.2 ⟨hm, hs⟩)
theorem scan_trim {s z : Int} {vs : List Vr} (hA : AscV vs) (hz : s ≤ z) (r : Rg) : scanB (trimB s vs) r z = scanB vs r z :=
  (scan_ext (fun k hk => by
    obtain ⟨v, hv, rfl⟩ := List.mem_map.1 hk
    exact List.mem_map.2 ⟨v, trim_sub hv, rfl⟩) (fun k => (seen_trim hA hz k).symm)).symm
theorem T1_self {s : Int} {l : List Vr} (hA : AscV l) (h : ∀ v ∈ l, s < v.2.2.2 ∨ seenV l v.1 s = some v) : T1 s l l.length = l := by
  rw [T1_all]
  have e : (lab l l.length).filter (keep s (lab l l.length)) = lab l l.length := by
    rw [List.filter_eq_self]
    intro n hn
    have hv : n.2 ∈ l := by
      have : n.2 ∈ (lab l l.length).map (·.2) := List.mem_map.2 ⟨n, hn, rfl⟩
      rwa [lab_all] at this
    unfold keep
    rcases h n.2 hv with h1 | h1
    · rw [decide_eq_true h1]; rfl
    · rw [← lst_lab] at h1
      cases hl : lst n.2.1 s (lab l l.length) with
      | none => rw [hl] at h1; cases h1
      | some m =>
        rw [hl] at h1
        have e2 : m.2 = n.2 := Option.some.inj h1
        have m1 := lab_mem (lst_mem hl).1
        have m2 := lab_mem hn
        have g1 := List.getElem_of_getElem? m1.2
        have g2 := List.getElem_of_getElem? m2.2
        obtain ⟨b1, g1⟩ := g1
        obtain ⟨b2, g2⟩ := g2
        have : m.1 = n.1 := asc_at hA b1 b2 (by rw [g1, g2, e2]) (by rw [g1, g2, e2])
        simp [this]
  rw [e, lab_all]
/-- nothing more is trimmed -/
theorem trim_trim {s : Int} {vs : List Vr} (hA : AscV vs) : trimB s (trimB s vs) = trimB s vs := by
  have hT := trim_asc (s := s) hA
  have e1 : T1 s (trimB s vs) (trimB s vs).length = trimB s vs := by
    refine T1_self hT (fun v hv => ?_)
    have hm := (List.mem_filter.1 hv).1
    obtain ⟨h1, h2⟩ := mem_T1.1 hm
    rcases h2 with h2 | h2
    · exact Or.inl h2
    · right
      obtain ⟨_, b, c, d⟩ := seen_some' h2
      exact seen_is hT hv rfl c (fun x hx => d x (trim_sub hx))
  have e2 : trimB s (trimB s vs) = (T1 s (trimB s vs) (trimB s vs).length).filter (stayV s (T1 s (trimB s vs) (trimB s vs).length)) := rfl
  rw [e2, e1, List.filter_eq_self]
  intro v hv
  obtain ⟨h1, h2⟩ := List.mem_filter.1 hv
  have ec : cntV v.1 (trimB s vs) = cntV v.1 (T1 s vs vs.length) := by
    unfold cntV trimB
    rw [List.filter_filter]
    refine congrArg List.length (List.filter_congr fun m hm => ?_)
    by_cases ek : m.1 = v.1
    · have hs : stayV s (T1 s vs vs.length) m = true := by
        cases hs : stayV s (T1 s vs vs.length) m
        · obtain ⟨_, _, cn⟩ := stayV_false hs
          have := cnt_one cn hm h1 rfl ek.symm
          subst this
          rw [hs] at h2
          cases h2
        · rfl
      simp [ek, hs]
    · simp [ek]
  unfold stayV at h2 ⊢
  rw [ec]
  exact h2
theorem same_trim {s : Int} {vs : List Vr} (hA : AscV vs) : sameB (trimB s vs) vs s = true := by
  have h : ∀ z, s ≤ z → eqAt (trimB s vs) vs z = true := fun z hz => by
    unfold eqAt
    rw [scan_trim hA hz]
    simp
  unfold sameB
  rw [h s (Int.le_refl _), Bool.true_and, List.all_eq_true]
  intro v _
  by_cases hc : s < v.2.2.2
  · rw [h v.2.2.2 (by omega)]; simp
  · simp [hc]
end Go.Proofs.Ytnlfojaflgehbaa
