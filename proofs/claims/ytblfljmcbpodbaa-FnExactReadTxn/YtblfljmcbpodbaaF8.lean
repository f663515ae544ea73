/- What the specification's cursor comes to. -/
import Derived.Test.YtblfljmcbpodbaaF7
import Derived.Test.YtblfljmcbpodbaaF6
namespace Go.Proofs.Ytblfljmcbpodbaa
open Go.RowKit
open KM
open VM
attribute [local go_sem ↓] Go.wp_at_zero Go.wp_at_succ

/-- k of them were read by the cursor -/
def MI {α : Type} (f : Int → Option (α × Nat)) (b0 : Bool) (p0 : Int) (k : Nat) (l : List α) (p : Int) (b : Bool) : Prop :=
  (b = true ∧ (b0 = true ∨ many f p0.toNat k = none)) ∨ (b = false ∧ b0 = false ∧ ∃ q : Nat, p = (q : Int) ∧ many f p0.toNat k = some (l, q))
theorem MI.start {α : Type} {f : Int → Option (α × Nat)} {b0 : Bool} {p0 : Int} (h : b0 = false → 0 ≤ p0) : MI f b0 p0 0 [] p0 b0 := by
  cases b0
  · exact Or.inr ⟨rfl, rfl, p0.toNat, by have := h rfl; omega, rfl⟩
  · exact Or.inl ⟨rfl, Or.inl rfl⟩
theorem MI.nonneg {α : Type} {f : Int → Option (α × Nat)} {b0 : Bool} {p0 : Int} {k : Nat} {l : List α} {p : Int} {b : Bool} (h : MI f b0 p0 k l p b) : b = false → 0 ≤ p := by
  intro hb
  rcases h with ⟨e, _⟩ | ⟨_, _, q, rfl, _⟩
  · rw [hb] at e; cases e
  · omega
theorem Stp.nonneg {α : Type} {o : Option (α × Nat)} {z v : α} {p p' : Int} {b b' : Bool} (h : Stp o z v p p' b b') : b' = false → 0 ≤ p' := by
  intro hb
  rcases h with ⟨_, e, _⟩ | ⟨_, _, e, _⟩ | ⟨_, _, q, _, rfl⟩
  · rw [hb] at e; cases e
  · rw [hb] at e; cases e
  · omega
theorem MI.rg {x : ByteArray} {b0 : Bool} {p0 : Int} {k : Nat} {l : List Rg} {p p1 p2 : Int} {b1 b2 : Bool} {s1 s2 : ByteArray} (h : MI (rRg x) b0 p0 k l p false) (h1 : Stp (rS x p) ⟨#[]⟩ s1 p p1 false b1) (h2 : Stp (rS x p1) ⟨#[]⟩ s2 p1 p2 b1 b2) : MI (rRg x) b0 p0 (k + 1) (l ++ [(s1, s2)]) p2 b2 := by
  rcases h with ⟨e, _⟩ | ⟨_, e0, q, rfl, hm⟩
  · cases e
  rcases h1 with ⟨e, _⟩ | ⟨_, n1, rfl, _⟩ | ⟨_, rfl, q1, n1, rfl⟩
  · cases e
  · rcases h2 with ⟨_, rfl, _⟩ | ⟨e, _⟩ | ⟨e, _⟩
    · exact Or.inl ⟨rfl, Or.inr (many_no hm (by unfold rRg; rw [n1]))⟩
    · cases e
    · cases e
  · rcases h2 with ⟨e, _⟩ | ⟨_, n2, rfl, _⟩ | ⟨_, rfl, q2, n2, rfl⟩
    · cases e
    · exact Or.inl ⟨rfl, Or.inr (many_no hm (by unfold rRg; rw [n1]; dsimp only; rw [n2]))⟩
    · exact Or.inr ⟨rfl, e0, q2, rfl, many_yes hm (by unfold rRg; rw [n1]; dsimp only; rw [n2])⟩
theorem MI.wt {x : ByteArray} {b0 : Bool} {p0 : Int} {k : Nat} {l : List Wt} {p p1 p2 p3 : Int} {b1 b2 b3 : Bool} {s1 s2 : ByteArray} {f : Bool} (h : MI (rWt x) b0 p0 k l p false) (h1 : Stp (rS x p) ⟨#[]⟩ s1 p p1 false b1) (h2 : Stp (rS x p1) ⟨#[]⟩ s2 p1 p2 b1 b2) (h3 : Stp (rF x p2) false f p2 p3 b2 b3) : MI (rWt x) b0 p0 (k + 1) (l ++ [(s1, s2, f)]) p3 b3 := by
  rcases h with ⟨e, _⟩ | ⟨_, e0, q, rfl, hm⟩
  · cases e
  have bad : ∀ c, b3 = c → many (rWt x) p0.toNat (k + 1) = none → c = true → MI (rWt x) b0 p0 (k + 1) (l ++ [(s1, s2, f)]) p3 b3 := fun c hc hn ht => Or.inl ⟨hc.trans ht, Or.inr hn⟩
  rcases h1 with ⟨e, _⟩ | ⟨_, n1, rfl, _⟩ | ⟨_, rfl, q1, n1, rfl⟩
  · cases e
  · have hn := many_no hm (show rWt x (q : Int) = none by unfold rWt; rw [n1])
    rcases h2 with ⟨_, rfl, _⟩ | ⟨e, _⟩ | ⟨e, _⟩
    · rcases h3 with ⟨_, h, _⟩ | ⟨e, _⟩ | ⟨e, _⟩
      · exact bad _ h hn rfl
      · cases e
      · cases e
    · cases e
    · cases e
  · rcases h2 with ⟨e, _⟩ | ⟨_, n2, rfl, _⟩ | ⟨_, rfl, q2, n2, rfl⟩
    · cases e
    · have hn := many_no hm (show rWt x (q : Int) = none by unfold rWt; rw [n1]; dsimp only; rw [n2])
      rcases h3 with ⟨_, h, _⟩ | ⟨e, _⟩ | ⟨e, _⟩
      · exact bad _ h hn rfl
      · cases e
      · cases e
    · rcases h3 with ⟨e, _⟩ | ⟨_, n3, rfl, _⟩ | ⟨_, rfl, q3, n3, rfl⟩
      · cases e
      · exact Or.inl ⟨rfl, Or.inr (many_no hm (by unfold rWt; rw [n1]; dsimp only; rw [n2]; dsimp only; rw [n3]))⟩
      · exact Or.inr ⟨rfl, e0, q3, rfl, many_yes hm (by unfold rWt; rw [n1]; dsimp only; rw [n2]; dsimp only; rw [n3])⟩
theorem txn_rl {t : Tx} (h : txnB t = true) : t.rs.length ≤ 8 ∧ t.ws.length ≤ 8 := by
  unfold txnB readsB writesB at h
  simp only [Bool.and_eq_true, decide_eq_true_eq] at h
  exact ⟨h.1.2.1, h.2.1⟩
/-- a step of the cursor that was good: it is bad now and nothing stands there, or it is good and this stands there -/
theorem Stp.good {α : Type} {o : Option (α × Nat)} {z v : α} {p p' : Int} {b' : Bool} (h : Stp o z v p p' false b') : (b' = true ∧ o = none) ∨ (b' = false ∧ ∃ q : Nat, o = some (v, q) ∧ p' = (q : Int)) := by
  rcases h with ⟨e, _⟩ | ⟨_, hn, hb, _⟩ | ⟨_, hb, q, hq, hp⟩
  · cases e
  · exact Or.inl ⟨hb, hn⟩
  · exact Or.inr ⟨hb, q, hq, hp⟩
theorem Stp.bad {α : Type} {o : Option (α × Nat)} {z v : α} {p p' : Int} {b' : Bool} (h : Stp o z v p p' true b') : b' = true := by
  rcases h with ⟨_, e, _⟩ | ⟨e, _⟩ | ⟨e, _⟩
  · exact e
  · cases e
  · cases e
/-- what is read behind the cursor's walk, in one -/
theorem ends {x : ByteArray} {p p1 p2 p3 p4 p5 p6 p7 p8 p9 p10 : Int} {b1 b2 b3 b4 b5 b6 b7 b8 b9 b10 : Bool} {n1 n2 n3 n4 n5 n7 k1 k2 : Nat} {l1 : List Rg} {l2 : List Wt} {o : Bool} {nm : ByteArray}
    (h1 : Stp (rN x p) 0 n1 p p1 false b1) (h2 : Stp (rN x p1) 0 n2 p1 p2 b1 b2) (h3 : Stp (rN x p2) 0 n3 p2 p3 b2 b3) (h4 : Stp (rN x p3) 0 n4 p3 p4 b3 b4) (h5 : Stp (rN x p4) 0 n5 p4 p5 b4 b5)
    (m1 : MI (rRg x) b5 p5 k1 l1 p6 b6) (e1 : k1 ≤ n5) (f1 : ¬ (k1 < n5 ∧ k1 < 10 ∧ b6 = false)) (z1 : l1.length = k1)
    (h7 : Stp (rN x p6) 0 n7 p6 p7 b6 b7) (m2 : MI (rWt x) b7 p7 k2 l2 p8 b8) (e2 : k2 ≤ n7) (f2 : ¬ (k2 < n7 ∧ k2 < 10 ∧ b8 = false)) (z2 : l2.length = k2)
    (h9 : Stp (rF x p8) false o p8 p9 b8 b9) (h10 : Stp (rS x p9) ⟨#[]⟩ nm p9 p10 b9 b10) :
    (b10 = true → rTx x p = none) ∧ (b10 = false → (txnB ⟨n1, n2, n3, n4, l1, l2, o, nm⟩ = false → rTx x p = none) ∧ (txnB ⟨n1, n2, n3, n4, l1, l2, o, nm⟩ = true → ∃ q : Nat, p10 = (q : Int) ∧ rTx x p = some (⟨n1, n2, n3, n4, l1, l2, o, nm⟩, q))) := by
  -- where nothing is read, whatever the cursor is
  have key : rTx x p = none → (txnB ⟨n1, n2, n3, n4, l1, l2, o, nm⟩ = true → b10 = false → False) → (b10 = true → rTx x p = none) ∧ (b10 = false → (txnB ⟨n1, n2, n3, n4, l1, l2, o, nm⟩ = false → rTx x p = none) ∧ (txnB ⟨n1, n2, n3, n4, l1, l2, o, nm⟩ = true → ∃ q : Nat, p10 = (q : Int) ∧ rTx x p = some (⟨n1, n2, n3, n4, l1, l2, o, nm⟩, q))) :=
    fun hn hf => ⟨fun _ => hn, fun hb => ⟨fun _ => hn, fun ht => (hf ht hb).elim⟩⟩
  have B10 : b9 = true → b10 = true := fun e => by subst e; exact h10.bad
  have B9 : b8 = true → b10 = true := fun e => B10 (by subst e; exact h9.bad)
  have B8 : b7 = true → b10 = true := fun e => B9 (by
    rcases m2 with ⟨h, _⟩ | ⟨_, h, _⟩
    · exact h
    · rw [e] at h; cases h)
  have B7 : b6 = true → b10 = true := fun e => B8 (by subst e; exact h7.bad)
  have B6 : b5 = true → b10 = true := fun e => B7 (by
    rcases m1 with ⟨h, _⟩ | ⟨_, h, _⟩
    · exact h
    · rw [e] at h; cases h)
  have B5 : b4 = true → b10 = true := fun e => B6 (by subst e; exact h5.bad)
  have B4 : b3 = true → b10 = true := fun e => B5 (by subst e; exact h4.bad)
  have B3 : b2 = true → b10 = true := fun e => B4 (by subst e; exact h3.bad)
  have B2 : b1 = true → b10 = true := fun e => B3 (by subst e; exact h2.bad)
  have no : b10 = true → txnB ⟨n1, n2, n3, n4, l1, l2, o, nm⟩ = true → b10 = false → False := fun a _ b => by rw [a] at b; cases b
  rcases h1.good with ⟨e, r1⟩ | ⟨rfl, q1, r1, rfl⟩
  · exact key (by simp only [rTx, r1]) (no (B2 e))
  rcases h2.good with ⟨e, r2⟩ | ⟨rfl, q2, r2, rfl⟩
  · exact key (by simp only [rTx, r1, r2]) (no (B3 e))
  rcases h3.good with ⟨e, r3⟩ | ⟨rfl, q3, r3, rfl⟩
  · exact key (by simp only [rTx, r1, r2, r3]) (no (B4 e))
  rcases h4.good with ⟨e, r4⟩ | ⟨rfl, q4, r4, rfl⟩
  · exact key (by simp only [rTx, r1, r2, r3, r4]) (no (B5 e))
  rcases h5.good with ⟨e, r5⟩ | ⟨rfl, q5, r5, rfl⟩
  · exact key (by simp only [rTx, r1, r2, r3, r4, rRs, r5]) (no (B6 e))
  have RR : rRs x (q4 : Int) = many (rRg x) q5 n5 := by simp only [rRs, r5]
  have hq5 : ((q5 : Int)).toNat = q5 := by omega
  rw [MI, hq5] at m1
  rcases m1 with ⟨rfl, e | hm⟩ | ⟨rfl, _, q6, rfl, hm⟩
  · cases e
  · exact key (by simp only [rTx, r1, r2, r3, r4, RR, many_none hm e1]) (no (B7 rfl))
  -- more than may be read
  have hbig : ∀ l q, rRs x (q4 : Int) = some (l, q) → 8 < l.length → rTx x p = none := by
    intro l q hl h8
    simp only [rTx, r1, r2, r3, r4, hl]
    split
    · rfl
    · split
      · rfl
      · split
        · rfl
        · rw [if_neg]
          intro ht
          have := (txn_rl ht).1
          simp only at this
          omega
  have hN5 : q5 ≤ x.size := (rN_bd r5).2.2.1
  by_cases hk : k1 = n5
  · have R5 : rRs x (q4 : Int) = some (l1, q6) := by rw [RR, ← hk]; exact hm
    rcases h7.good with ⟨e, r7⟩ | ⟨rfl, q7, r7, rfl⟩
    · exact key (by simp only [rTx, r1, r2, r3, r4, R5, rWs, r7]) (no (B8 e))
    have RW : rWs x (q6 : Int) = many (rWt x) q7 n7 := by simp only [rWs, r7]
    have hq7 : ((q7 : Int)).toNat = q7 := by omega
    rw [MI, hq7] at m2
    rcases m2 with ⟨rfl, e | hm2⟩ | ⟨rfl, _, q8, rfl, hm2⟩
    · cases e
    · exact key (by simp only [rTx, r1, r2, r3, r4, R5, RW, many_none hm2 e2]) (no (B9 rfl))
    by_cases hk2 : k2 = n7
    · have R7 : rWs x (q6 : Int) = some (l2, q8) := by rw [RW, ← hk2]; exact hm2
      rcases h9.good with ⟨e, r9⟩ | ⟨rfl, q9, r9, rfl⟩
      · exact key (by simp only [rTx, r1, r2, r3, r4, R5, R7, r9]) (no (B10 e))
      rcases h10.good with ⟨e, r10⟩ | ⟨rfl, q10, r10, rfl⟩
      · exact key (by simp only [rTx, r1, r2, r3, r4, R5, R7, r9, r10]) (no e)
      have hT : rTx x p = if txnB ⟨n1, n2, n3, n4, l1, l2, o, nm⟩ = true then some (⟨n1, n2, n3, n4, l1, l2, o, nm⟩, q10) else none := by simp only [rTx, r1, r2, r3, r4, R5, R7, r9, r10]
      refine ⟨fun e => (by cases e), fun _ => ⟨fun ht => ?_, fun ht => ⟨q10, rfl, ?_⟩⟩⟩
      · rw [hT, ht]; rfl
      · rw [hT, ht]; rfl
    · have f2' : ¬ (k2 < n7 ∧ k2 < 10) := fun h => f2 ⟨h.1, h.2, rfl⟩
      have hz : 8 < l2.length := by omega
      refine key ?_ (fun ht _ => by have := (txn_rl ht).2; simp only at this; omega)
      cases hw : rWs x (q6 : Int) with
      | none => simp only [rTx, r1, r2, r3, r4, R5, hw]
      | some a =>
        have hl := many_len (rN_bd r7).2.2.1 rWt_bd (RW.symm.trans hw : many (rWt x) q7 n7 = some (a.1, a.2))
        simp only [rTx, r1, r2, r3, r4, R5, hw]
        split
        · rfl
        · split
          · rfl
          · rw [if_neg]
            intro ht
            have := (txn_rl ht).2
            simp only at this
            omega
  · have f1' : ¬ (k1 < n5 ∧ k1 < 10) := fun h => f1 ⟨h.1, h.2, rfl⟩
    have hz : 8 < l1.length := by omega
    refine key ?_ (fun ht _ => by have := (txn_rl ht).1; simp only at this; omega)
    cases hw : rRs x (q4 : Int) with
    | none => simp only [rTx, r1, r2, r3, r4, hw]
    | some a =>
      have hl := many_len hN5 rRg_bd (RR.symm.trans hw : many (rRg x) q5 n5 = some (a.1, a.2))
      exact hbig a.1 a.2 hw (by omega)

end Go.Proofs.Ytblfljmcbpodbaa
