/- Who is ahead of whom: the specification of ReadyDanger. -/
import Derived.Test.YtjeicgibddfifaaPc27
import Derived.Deep.CutRange
import Derived.Deep.RegionHeld3
import Derived.Test.YtjeicgibddfifaaPc26
namespace Go.Proofs.Ytjeicgibddfifaa
open Go.RowKit
open KM
attribute [local go_sem ↓] Go.wp_at_zero Go.wp_at_succ

end Go.Proofs.Ytjeicgibddfifaa

namespace Go.Proofs.Ytjeicgibddfifaa
open Go.RowKit
open KM
attribute [local go_sem ↓] Go.wp_at_zero Go.wp_at_succ

theorem ah_ne {a b : Tx} (h : ahB a b = true) : ¬ a.id = b.id := by
 intro e
 simp [ahB, besB, e] at h
theorem oth_iff (t : Tx) (l : List Tx) (p : Tx) : p ∈ othL t l ↔ (p ∈ l ∧ readyB p = true) ∧ ¬ p.id = t.id := by
 unfold othL readyL
 simp only [List.mem_filter, Bool.not_eq_true', beq_eq_false_iff_ne, ne_eq]
theorem dang_eq (t : Tx) (l : List Tx) : dangI t l = dangerB t l := by
 unfold dangI dangerB
 rw [Bool.or_assoc]
 congr 1
 rw [Bool.eq_iff_iff]
 constructor
 ·intro h
  rcases Bool.or_eq_true_iff.1 h with h | h
  ·obtain ⟨p, hpl, hp⟩ := List.any_eq_true.1 h
   unfold oQ isOut at hp
   exact List.any_eq_true.2 ⟨p, hpl, by unfold dQ; rw [← Bool.and_assoc] at hp; rw [hp]; rfl⟩
  ·simp only [leadB, Bool.and_true] at h
   obtain ⟨p, hp, hpa⟩ := List.any_eq_true.1 h
   have hpa2 := Bool.and_eq_true_iff.1 hpa
   have hpt : ahB p t = true := hpa2.1
   obtain ⟨q, hq, hqa0⟩ := List.any_eq_true.1 hpa2.2
   have hqa : ahB q p = true := hqa0
   have hpi : ¬ p.id = t.id := ah_ne hpt
   rcases List.mem_append.1 hp with hp | hp
   ·obtain ⟨⟨hpl, hpr⟩, _⟩ := (oth_iff t l p).1 hp
    have e : (ahB t p || l.any (qQ t p)) = true := by
     rcases List.mem_append.1 hq with hq | hq
     ·obtain ⟨⟨hql, hqr⟩, hqi⟩ := (oth_iff t l q).1 hq
      rw [List.any_eq_true.2 ⟨q, hql, by unfold qQ; rw [hqr, hqa]; simp [hqi]⟩, Bool.or_true]
     ·rw [List.mem_singleton.1 hq] at hqa
      rw [hqa]
      rfl
    exact List.any_eq_true.2 ⟨p, hpl, by unfold dQ; rw [hpr, hpt, e]; simp⟩
   ·exact absurd (by rw [List.mem_singleton.1 hp]) hpi
 ·intro h
  obtain ⟨p, hpl, hp⟩ := List.any_eq_true.1 h
  unfold dQ at hp
  rcases Bool.or_eq_true_iff.1 hp with hp | hp
  ·have e : l.any (oQ t) = true := List.any_eq_true.2 ⟨p, hpl, by unfold oQ isOut; rw [← Bool.and_assoc]; exact hp⟩
   rw [e]
   rfl
  ·obtain ⟨hp1, hp2⟩ := Bool.and_eq_true_iff.1 hp
   obtain ⟨hpr, hpt⟩ := Bool.and_eq_true_iff.1 hp1
   have hpi : ¬ p.id = t.id := ah_ne hpt
   have m1 : p ∈ othL t l := (oth_iff t l p).2 ⟨⟨hpl, hpr⟩, hpi⟩
   have e2 : ∃ q, q ∈ othL t l ++ [t] ∧ ahB q p = true := by
    rcases Bool.or_eq_true_iff.1 hp2 with h2 | h2
    ·exact ⟨t, List.mem_append.2 (Or.inr (List.mem_singleton.2 rfl)), h2⟩
    ·obtain ⟨q, hql, hq⟩ := List.any_eq_true.1 h2
     have h5 : (readyB q = true ∧ ¬ q.id = t.id) ∧ ahB q p = true := by
      unfold qQ at hq
      simpa only [Bool.and_eq_true, decide_eq_true_eq, ne_eq] using hq
     exact ⟨q, List.mem_append.2 (Or.inl ((oth_iff t l q).2 ⟨⟨hql, h5.1.1⟩, h5.1.2⟩)), h5.2⟩
   obtain ⟨q, hqm, hqa⟩ := e2
   have e : leadB [isBehind, isBehind] t (othL t l ++ [t]) = true := by
    simp only [leadB, Bool.and_true]
    refine List.any_eq_true.2 ⟨p, List.mem_append.2 (Or.inl m1), ?_⟩
    have h6 : isBehind t p = true := hpt
    rw [h6]
    exact List.any_eq_true.2 ⟨q, hqm, hqa⟩
   rw [e, Bool.or_true]
theorem idanger (t : Tx) (ra wa : Option Addr) (rc wk : Nat) (xs : List Ta) (a : Option Addr) (c n : Nat) (hx : n = xs.length) (hn : n ≤ 10000000) (ft : TFit t) (fx : LFw (txs xs)) (w : World) (ht : TRow w t ra wa) (hp : TRows w a xs) :
  Calls Try.prog 58 #[.agg #[.int .i64 t.id, .int .i64 t.st, .int .i64 t.snap, .int .i64 t.cs, .slice ra t.rs.length rc, .slice wa t.ws.length wk, .bool t.out, .string t.nm], .slice a n c] w fun e w' => e = .returned (.bool (dangerB t (txs xs))) ∧ Below w.heap.size w w' := by
 have h := idangI t ra wa rc wk xs a c n hx hn ft fx w ht hp
 rwa [dang_eq] at h
end Go.Proofs.Ytjeicgibddfifaa
