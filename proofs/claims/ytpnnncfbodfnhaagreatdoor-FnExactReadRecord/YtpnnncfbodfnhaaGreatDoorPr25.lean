/- What the specification's cursor comes to. -/
import Derived.Test.YtpnnncfbodfnhaaGreatDoorPr01
import Derived.Test.YtpnnncfbodfnhaaGreatDoorPr24
import Derived.Test.YtpnnncfbodfnhaaGreatDoorPr23
import Derived.Deep.Cut
import Derived.Deep.CutRange
import Derived.Test.YtpnnncfbodfnhaaGreatDoorPr20
namespace Go.Proofs.YtpnnncfbodfnhaaGreatDoor
open Go.RowKit
open KM
open VM
attribute [local go_sem ↓] Go.wp_at_zero Go.wp_at_succ

def MI {α : Type} (f : Int → Option (α × Nat)) (b0 : Bool) (p0 : Int) (k : Nat) (l : List α) (p : Int) (b : Bool) : Prop :=
 (b = true ∧ (b0 = true ∨ many f p0.toNat k = none)) ∨ (b = false ∧ b0 = false ∧ ∃ q : Nat, p = (q : Int) ∧ many f p0.toNat k = some (l, q))
theorem MI.start {α : Type} {f : Int → Option (α × Nat)} {b0 : Bool} {p0 : Int} (h : b0 = false → 0 ≤ p0) : MI f b0 p0 0 [] p0 b0 := by
 cases b0
 ·exact Or.inr ⟨rfl, rfl, p0.toNat, by have := h rfl; omega, rfl⟩
 ·exact Or.inl ⟨rfl, Or.inl rfl⟩
theorem MI.nonneg {α : Type} {f : Int → Option (α × Nat)} {b0 : Bool} {p0 : Int} {k : Nat} {l : List α} {p : Int} {b : Bool} (h : MI f b0 p0 k l p b) : b = false → 0 ≤ p := by
 intro hb
 rcases h with ⟨e, _⟩ | ⟨_, _, q, rfl, _⟩
 ·rw [hb] at e; cases e
 ·omega
theorem Stp.nonneg {α : Type} {o : Option (α × Nat)} {z v : α} {p p' : Int} {b b' : Bool} (h : Stp o z v p p' b b') : b' = false → 0 ≤ p' := by
 intro hb
 rcases h with ⟨_, e, _⟩ | ⟨_, _, e, _⟩ | ⟨_, _, q, _, rfl⟩
 ·rw [hb] at e; cases e
 ·rw [hb] at e; cases e
 ·omega
theorem MI.rg {x : ByteArray} {b0 : Bool} {p0 : Int} {k : Nat} {l : List Rg} {p p1 p2 : Int} {b1 b2 : Bool} {s1 s2 : ByteArray} (h : MI (rRg x) b0 p0 k l p false) (h1 : Stp (rS x p) ⟨#[]⟩ s1 p p1 false b1) (h2 : Stp (rS x p1) ⟨#[]⟩ s2 p1 p2 b1 b2) : MI (rRg x) b0 p0 (k + 1) (l ++ [(s1, s2)]) p2 b2 := by
 rcases h with ⟨e, _⟩ | ⟨_, e0, q, rfl, hm⟩
 ·cases e
 rcases h1 with ⟨e, _⟩ | ⟨_, n1, rfl, _⟩ | ⟨_, rfl, q1, n1, rfl⟩
 ·cases e
 ·rcases h2 with ⟨_, rfl, _⟩ | ⟨e, _⟩ | ⟨e, _⟩
  ·exact Or.inl ⟨rfl, Or.inr (many_no hm (by unfold rRg; rw [n1]))⟩
  ·cases e
  ·cases e
 ·rcases h2 with ⟨e, _⟩ | ⟨_, n2, rfl, _⟩ | ⟨_, rfl, q2, n2, rfl⟩
  ·cases e
  ·exact Or.inl ⟨rfl, Or.inr (many_no hm (by unfold rRg; rw [n1]; dsimp only; rw [n2]))⟩
  ·exact Or.inr ⟨rfl, e0, q2, rfl, many_yes hm (by unfold rRg; rw [n1]; dsimp only; rw [n2])⟩
theorem MI.wt {x : ByteArray} {b0 : Bool} {p0 : Int} {k : Nat} {l : List Wt} {p p1 p2 p3 : Int} {b1 b2 b3 : Bool} {s1 s2 : ByteArray} {f : Bool} (h : MI (rWt x) b0 p0 k l p false) (h1 : Stp (rS x p) ⟨#[]⟩ s1 p p1 false b1) (h2 : Stp (rS x p1) ⟨#[]⟩ s2 p1 p2 b1 b2) (h3 : Stp (rF x p2) false f p2 p3 b2 b3) : MI (rWt x) b0 p0 (k + 1) (l ++ [(s1, s2, f)]) p3 b3 := by
 rcases h with ⟨e, _⟩ | ⟨_, e0, q, rfl, hm⟩
 ·cases e
 have bad : ∀ c, b3 = c → many (rWt x) p0.toNat (k + 1) = none → c = true → MI (rWt x) b0 p0 (k + 1) (l ++ [(s1, s2, f)]) p3 b3 := fun c hc hn ht => Or.inl ⟨hc.trans ht, Or.inr hn⟩
 rcases h1 with ⟨e, _⟩ | ⟨_, n1, rfl, _⟩ | ⟨_, rfl, q1, n1, rfl⟩
 ·cases e
 ·have hn := many_no hm (show rWt x (q : Int) = none by unfold rWt; rw [n1])
  rcases h2 with ⟨_, rfl, _⟩ | ⟨e, _⟩ | ⟨e, _⟩
  ·rcases h3 with ⟨_, h, _⟩ | ⟨e, _⟩ | ⟨e, _⟩
   ·exact bad _ h hn rfl
   ·cases e
   ·cases e
  ·cases e
  ·cases e
 ·rcases h2 with ⟨e, _⟩ | ⟨_, n2, rfl, _⟩ | ⟨_, rfl, q2, n2, rfl⟩
  ·cases e
  ·have hn := many_no hm (show rWt x (q : Int) = none by unfold rWt; rw [n1]; dsimp only; rw [n2])
   rcases h3 with ⟨_, h, _⟩ | ⟨e, _⟩ | ⟨e, _⟩
   ·exact bad _ h hn rfl
   ·cases e
   ·cases e
  ·rcases h3 with ⟨e, _⟩ | ⟨_, n3, rfl, _⟩ | ⟨_, rfl, q3, n3, rfl⟩
   ·cases e
   ·exact Or.inl ⟨rfl, Or.inr (many_no hm (by unfold rWt; rw [n1]; dsimp only; rw [n2]; dsimp only; rw [n3]))⟩
   ·exact Or.inr ⟨rfl, e0, q3, rfl, many_yes hm (by unfold rWt; rw [n1]; dsimp only; rw [n2]; dsimp only; rw [n3])⟩
theorem txn_rl {t : Tx} (h : txnB t = true) : t.rs.length ≤ 8 ∧ t.ws.length ≤ 8 := by
 unfold txnB readsB writesB at h
 simp only [Bool.and_eq_true, decide_eq_true_eq] at h
 exact ⟨h.1.2.1, h.2.1⟩
theorem Stp.good {α : Type} {o : Option (α × Nat)} {z v : α} {p p' : Int} {b' : Bool} (h : Stp o z v p p' false b') : (b' = true ∧ o = none) ∨ (b' = false ∧ ∃ q : Nat, o = some (v, q) ∧ p' = (q : Int)) := by
 rcases h with ⟨e, _⟩ | ⟨_, hn, hb, _⟩ | ⟨_, hb, q, hq, hp⟩
 ·cases e
 ·exact Or.inl ⟨hb, hn⟩
 ·exact Or.inr ⟨hb, q, hq, hp⟩
theorem Stp.bad {α : Type} {o : Option (α × Nat)} {z v : α} {p p' : Int} {b' : Bool} (h : Stp o z v p p' true b') : b' = true := by
 rcases h with ⟨_, e, _⟩ | ⟨e, _⟩ | ⟨e, _⟩
 ·exact e
 ·cases e
 ·cases e
theorem ends {x : ByteArray} {p p1 p2 p3 p4 p5 p6 p7 p8 p9 p10 : Int} {b1 b2 b3 b4 b5 b6 b7 b8 b9 b10 : Bool} {n1 n2 n3 n4 n5 n7 k1 k2 : Nat} {l1 : List Rg} {l2 : List Wt} {o : Bool} {nm : ByteArray}
  (h1 : Stp (rN x p) 0 n1 p p1 false b1) (h2 : Stp (rN x p1) 0 n2 p1 p2 b1 b2) (h3 : Stp (rN x p2) 0 n3 p2 p3 b2 b3) (h4 : Stp (rN x p3) 0 n4 p3 p4 b3 b4) (h5 : Stp (rN x p4) 0 n5 p4 p5 b4 b5)
  (m1 : MI (rRg x) b5 p5 k1 l1 p6 b6) (e1 : k1 ≤ n5) (f1 : ¬ (k1 < n5 ∧ k1 < 10 ∧ b6 = false)) (z1 : l1.length = k1)
  (h7 : Stp (rN x p6) 0 n7 p6 p7 b6 b7) (m2 : MI (rWt x) b7 p7 k2 l2 p8 b8) (e2 : k2 ≤ n7) (f2 : ¬ (k2 < n7 ∧ k2 < 10 ∧ b8 = false)) (z2 : l2.length = k2)
  (h9 : Stp (rF x p8) false o p8 p9 b8 b9) (h10 : Stp (rS x p9) ⟨#[]⟩ nm p9 p10 b9 b10) :
  (b10 = true → rTx x p = none) ∧ (b10 = false → (txnB ⟨n1, n2, n3, n4, l1, l2, o, nm⟩ = false → rTx x p = none) ∧ (txnB ⟨n1, n2, n3, n4, l1, l2, o, nm⟩ = true → ∃ q : Nat, p10 = (q : Int) ∧ rTx x p = some (⟨n1, n2, n3, n4, l1, l2, o, nm⟩, q))) := by
 -- where nothing is read, whatever the cursor is
 have key : rTx x p = none → (txnB ⟨n1, n2, n3, n4, l1, l2, o, nm⟩ = true → b10 = false → False) → (b10 = true → rTx x p = none) ∧ (b10 = false → (txnB ⟨n1, n2, n3, n4, l1, l2, o, nm⟩ = false → rTx x p = none) ∧ (txnB ⟨n1, n2, n3, n4, l1, l2, o, nm⟩ = true → ∃ q : Nat, p10 = (q : Int) ∧ rTx x p = some (⟨n1, n2, n3, n4, l1, l2, o, nm⟩, q))) :=
  fun hn hf => ⟨fun _ => hn, fun hb => ⟨fun _ => hn, fun ht => (hf ht hb).elim⟩⟩
 have B10 : b9 = true → b10 = true := fun e => by subst e; exact h10.bad
 have B9 : b8 = true → b10 = true := fun e => B10 (by subst e; exact h9.bad)
 have B8 : b7 = true → b10 = true := fun e => B9 (by
  rcases m2 with ⟨h, _⟩ | ⟨_, h, _⟩
  ·exact h
  ·rw [e] at h; cases h)
 have B7 : b6 = true → b10 = true := fun e => B8 (by subst e; exact h7.bad)
 have B6 : b5 = true → b10 = true := fun e => B7 (by
  rcases m1 with ⟨h, _⟩ | ⟨_, h, _⟩
  ·exact h
  ·rw [e] at h; cases h)
 have B5 : b4 = true → b10 = true := fun e => B6 (by subst e; exact h5.bad)
 have B4 : b3 = true → b10 = true := fun e => B5 (by subst e; exact h4.bad)
 have B3 : b2 = true → b10 = true := fun e => B4 (by subst e; exact h3.bad)
 have B2 : b1 = true → b10 = true := fun e => B3 (by subst e; exact h2.bad)
 have no : b10 = true → txnB ⟨n1, n2, n3, n4, l1, l2, o, nm⟩ = true → b10 = false → False := fun a _ b => by rw [a] at b; cases b
 rcases h1.good with ⟨e, r1⟩ | ⟨rfl, q1, r1, rfl⟩
 ·exact key (by simp only [rTx, r1]) (no (B2 e))
 rcases h2.good with ⟨e, r2⟩ | ⟨rfl, q2, r2, rfl⟩
 ·exact key (by simp only [rTx, r1, r2]) (no (B3 e))
 rcases h3.good with ⟨e, r3⟩ | ⟨rfl, q3, r3, rfl⟩
 ·exact key (by simp only [rTx, r1, r2, r3]) (no (B4 e))
 rcases h4.good with ⟨e, r4⟩ | ⟨rfl, q4, r4, rfl⟩
 ·exact key (by simp only [rTx, r1, r2, r3, r4]) (no (B5 e))
 rcases h5.good with ⟨e, r5⟩ | ⟨rfl, q5, r5, rfl⟩
 ·exact key (by simp only [rTx, r1, r2, r3, r4, rRs, r5]) (no (B6 e))
 have RR : rRs x (q4 : Int) = many (rRg x) q5 n5 := by simp only [rRs, r5]
 have hq5 : ((q5 : Int)).toNat = q5 := by omega
 rw [MI, hq5] at m1
 rcases m1 with ⟨rfl, e | hm⟩ | ⟨rfl, _, q6, rfl, hm⟩
 ·cases e
 ·exact key (by simp only [rTx, r1, r2, r3, r4, RR, many_none hm e1]) (no (B7 rfl))
 -- more than may be read
 have hbig : ∀ l q, rRs x (q4 : Int) = some (l, q) → 8 < l.length → rTx x p = none := by
  intro l q hl h8
  simp only [rTx, r1, r2, r3, r4, hl]
  split
  ·rfl
  ·split
   ·rfl
   ·split
    ·rfl
    ·rw [if_neg]
     intro ht
     have := (txn_rl ht).1
     simp only at this
     omega
 have hN5 : q5 ≤ x.size := (rN_bd r5).2.2.1
 by_cases hk : k1 = n5
 ·have R5 : rRs x (q4 : Int) = some (l1, q6) := by rw [RR, ← hk]; exact hm
  rcases h7.good with ⟨e, r7⟩ | ⟨rfl, q7, r7, rfl⟩
  ·exact key (by simp only [rTx, r1, r2, r3, r4, R5, rWs, r7]) (no (B8 e))
  have RW : rWs x (q6 : Int) = many (rWt x) q7 n7 := by simp only [rWs, r7]
  have hq7 : ((q7 : Int)).toNat = q7 := by omega
  rw [MI, hq7] at m2
  rcases m2 with ⟨rfl, e | hm2⟩ | ⟨rfl, _, q8, rfl, hm2⟩
  ·cases e
  ·exact key (by simp only [rTx, r1, r2, r3, r4, R5, RW, many_none hm2 e2]) (no (B9 rfl))
  by_cases hk2 : k2 = n7
  ·have R7 : rWs x (q6 : Int) = some (l2, q8) := by rw [RW, ← hk2]; exact hm2
   rcases h9.good with ⟨e, r9⟩ | ⟨rfl, q9, r9, rfl⟩
   ·exact key (by simp only [rTx, r1, r2, r3, r4, R5, R7, r9]) (no (B10 e))
   rcases h10.good with ⟨e, r10⟩ | ⟨rfl, q10, r10, rfl⟩
   ·exact key (by simp only [rTx, r1, r2, r3, r4, R5, R7, r9, r10]) (no e)
   have hT : rTx x p = if txnB ⟨n1, n2, n3, n4, l1, l2, o, nm⟩ = true then some (⟨n1, n2, n3, n4, l1, l2, o, nm⟩, q10) else none := by simp only [rTx, r1, r2, r3, r4, R5, R7, r9, r10]
   refine ⟨fun e => (by cases e), fun _ => ⟨fun ht => ?_, fun ht => ⟨q10, rfl, ?_⟩⟩⟩
   ·rw [hT, ht]; rfl
   ·rw [hT, ht]; rfl
  ·have f2' : ¬ (k2 < n7 ∧ k2 < 10) := fun h => f2 ⟨h.1, h.2, rfl⟩
   have hz : 8 < l2.length := by omega
   refine key ?_ (fun ht _ => by have := (txn_rl ht).2; simp only at this; omega)
   cases hw : rWs x (q6 : Int) with
   | none => simp only [rTx, r1, r2, r3, r4, R5, hw]
   | some a =>
    have hl := many_len (rN_bd r7).2.2.1 rWt_bd (RW.symm.trans hw : many (rWt x) q7 n7 = some (a.1, a.2))
    simp only [rTx, r1, r2, r3, r4, R5, hw]
    split
    ·rfl
    ·split
     ·rfl
     ·rw [if_neg]
      intro ht
      have := (txn_rl ht).2
      simp only at this
      omega
 ·have f1' : ¬ (k1 < n5 ∧ k1 < 10) := fun h => f1 ⟨h.1, h.2, rfl⟩
  have hz : 8 < l1.length := by omega
  refine key ?_ (fun ht _ => by have := (txn_rl ht).1; simp only at this; omega)
  cases hw : rRs x (q4 : Int) with
  | none => simp only [rTx, r1, r2, r3, r4, hw]
  | some a =>
   have hl := many_len hN5 rRg_bd (RR.symm.trans hw : many (rRg x) q5 n5 = some (a.1, a.2))
   exact hbig a.1 a.2 hw (by omega)

end Go.Proofs.YtpnnncfbodfnhaaGreatDoor

namespace Go.Proofs.YtpnnncfbodfnhaaGreatDoor
open Go.RowKit
open KM
open VM
attribute [local go_sem ↓] Go.wp_at_zero Go.wp_at_succ

theorem Bx.lowB {w w' : World} {b B : Nat} {cs : List Value} (h : Bx w b cs) (hb : Below B w w') (hg : b < B) : Bx w' b cs :=
 ⟨Nat.lt_of_lt_of_le h.lt hb.size, fun j hj => (hb.cell (p := ⟨b, j, none⟩) hg).trans (h.at' j hj), fun j => (hb.frozen (p := ⟨b, j, none⟩) hg).trans (h.fz j)⟩
theorem own_set {α : Type} {E : Enc α} {e : TypeId} {w : World} {base : Nat} {v : Value} {xs : List α} (h : GOwn E e w base v xs) {a : Addr} (ha : ∀ g, v.ownBlock = some g → a.block ≠ g) (u : Value) : GOwn E e (w.setCell a u) base v xs := by
 obtain ⟨h1, h2⟩ := h
 refine ⟨h1, ?_⟩
 rcases h2 with h2 | ⟨g, cap, cur, hv, hg', hh, r⟩
 ·exact Or.inl h2
 ·refine Or.inr ⟨g, cap, cur, hv, hg', ?_, r⟩
  rw [Below.heap_setCell _ _ _ _ (fun e => ha g (by rw [hv]; rfl) e.symm)]
  exact hh

set_option maxRecDepth 100000 in
set_option maxHeartbeats 8000000 in
theorem srt (x : ByteArray) (p : Int) (hs : x.size ≤ 1048576) (t : Tx) (q : Nat) (b : Bool) (ha : ansT (rTx x p) = (t, q, b)) (w : World) :
  Calls Tryz.prog 34 #[.string x, .int .i64 p] w fun e w' => ∃ ra rc wa wc, e = .returned (.tuple #[.agg #[.int .i64 t.id, .int .i64 t.st, .int .i64 t.snap, .int .i64 t.cs, .slice ra t.rs.length rc, .slice wa t.ws.length wc, .bool t.out, .string t.nm], .int .i64 (q : Int), .bool b]) ∧ TLie w' w.heap.size w'.heap.size t ra rc wa wc ∧ Below w.heap.size w w' := by
 have HA : Hid (ansT (rTx x p) = (t, q, b)) := ha
 clear ha
 have BR0 : Hid (Bx ((w.alloc (.cells #[.int .i64 0, .int .i64 0, .int .i64 0, .int .i64 0, .slice none 0 0, .slice none 0 0, .bool false, .string ⟨#[]⟩] 38)).alloc (.cells #[.string x, .int .i64 p, .bool false] 80)) (w.heap.size) [.int .i64 0, .int .i64 0, .int .i64 0, .int .i64 0, .slice none 0 0, .slice none 0 0, .bool false, .string ⟨#[]⟩]) := (Bx.new w [.int .i64 0, .int .i64 0, .int .i64 0, .int .i64 0, .slice none 0 0, .slice none 0 0, .bool false, .string ⟨#[]⟩] 38).alloc _
 have CR0 : Hid (Cr ((w.alloc (.cells #[.int .i64 0, .int .i64 0, .int .i64 0, .int .i64 0, .slice none 0 0, .slice none 0 0, .bool false, .string ⟨#[]⟩] 38)).alloc (.cells #[.string x, .int .i64 p, .bool false] 80)) (w.heap.size + 1) x p false) := by
  have h := Bx.new (w.alloc (.cells #[.int .i64 0, .int .i64 0, .int .i64 0, .int .i64 0, .slice none 0 0, .slice none 0 0, .bool false, .string ⟨#[]⟩] 38)) [.string x, .int .i64 p, .bool false] 80
  rw [World.size_alloc] at h
  exact h
 have HB0 : Hid (Below w.heap.size w ((w.alloc (.cells #[.int .i64 0, .int .i64 0, .int .i64 0, .int .i64 0, .slice none 0 0, .slice none 0 0, .bool false, .string ⟨#[]⟩] 38)).alloc (.cells #[.string x, .int .i64 p, .bool false] 80))) := ((belowRefl w).alloc (Nat.le_refl _) _).alloc (by simp) _
 go_enter Tryz.func34, Tryz.ntmps34
 go_wp2_with fail
 generalize ((w.alloc (.cells #[.int .i64 0, .int .i64 0, .int .i64 0, .int .i64 0, .slice none 0 0, .slice none 0 0, .bool false, .string ⟨#[]⟩] 38)).alloc (.cells #[.string x, .int .i64 p, .bool false] 80)) = v0 at *
 refine (svar x (w.heap.size + 1) p false hs _ CR0.out).mono ?_
 rintro e v1 ⟨n1, p1, b1, rfl, hn1, h1, hc, hg⟩
 have BR1 := hide (BR0.out.grown hg (by omega))
 have HB1 := hide (HB0.out.grown hg HB0.out.size (fun j hj => by cases hj; omega))
 have CR1 : Hid (Cr v1 (w.heap.size + 1) x p1 b1) := hc
 clear BR0 CR0 HB0 hc hg
 have H1 := hide h1
 clear h1
 have hN : w.heap.size + 1 < v1.heap.size := CR1.out.lt
 go_wp2_with fail
 have hb : Below v1.heap.size v1 (v1.alloc (.cells #[.int .i64 (n1 : Int), .int .i64 0, .int .i64 0, .int .i64 0, .slice none 0 0, .slice none 0 0, .bool false, .string ⟨#[]⟩] 38)) := (belowRefl v1).alloc (Nat.le_refl _) _
 have BR2 := hide (BR1.out.below hb)
 have CR2 := hide (CR1.out.below hb)
 have HB2 := hide (HB1.out.trans (hb.mono HB1.out.size))
 have BX2 : Hid (Bx (v1.alloc (.cells #[.int .i64 (n1 : Int), .int .i64 0, .int .i64 0, .int .i64 0, .slice none 0 0, .slice none 0 0, .bool false, .string ⟨#[]⟩] 38)) (v1.heap.size) [.int .i64 (n1 : Int), .int .i64 0, .int .i64 0, .int .i64 0, .slice none 0 0, .slice none 0 0, .bool false, .string ⟨#[]⟩]) := Bx.new v1 [.int .i64 (n1 : Int), .int .i64 0, .int .i64 0, .int .i64 0, .slice none 0 0, .slice none 0 0, .bool false, .string ⟨#[]⟩] 38
 have SZ2 : Hid (v1.heap.size + 1 ≤ (v1.alloc (.cells #[.int .i64 (n1 : Int), .int .i64 0, .int .i64 0, .int .i64 0, .slice none 0 0, .slice none 0 0, .bool false, .string ⟨#[]⟩] 38)).heap.size) := (by show _ ≤ _; rw [World.size_alloc]; exact Nat.le_refl _)
 clear BR1 CR1 HB1 hb
 generalize (v1.alloc (.cells #[.int .i64 (n1 : Int), .int .i64 0, .int .i64 0, .int .i64 0, .slice none 0 0, .slice none 0 0, .bool false, .string ⟨#[]⟩] 38)) = v2 at *
 refine (svar x (w.heap.size + 1) p1 b1 hs _ CR2.out).mono ?_
 rintro e v3 ⟨n2, p2, b2, rfl, hn2, h2, hc, hg⟩
 have BR3 := hide (BR2.out.grown hg (by omega))
 have HB3 := hide (HB2.out.grown hg HB2.out.size (fun j hj => by cases hj; omega))
 have BX3 := hide (BX2.out.grown hg (by omega))
 have SZ3 := hide (Nat.le_trans SZ2.out hg.size)
 have CR3 : Hid (Cr v3 (w.heap.size + 1) x p2 b2) := hc
 clear BR2 BX2 CR2 HB2 SZ2 hc hg
 have H2 := hide h2
 clear h2
 have c1 := BX3.out.c1
 have f1 := BX3.out.fz 1
 go_wp2_with fail
 clear c1 f1
 have BR4 : Hid (Bx (v3.setCell ⟨v1.heap.size, 1, none⟩ (.int .i64 (n2 : Int))) (w.heap.size) [.int .i64 0, .int .i64 0, .int .i64 0, .int .i64 0, .slice none 0 0, .slice none 0 0, .bool false, .string ⟨#[]⟩]) := BR3.out.setO (p := ⟨v1.heap.size, 1, none⟩) (by show v1.heap.size ≠ w.heap.size; omega) _
 have CR4 : Hid (Bx (v3.setCell ⟨v1.heap.size, 1, none⟩ (.int .i64 (n2 : Int))) (w.heap.size + 1) [.string x, .int .i64 p2, .bool b2]) := CR3.out.setO (p := ⟨v1.heap.size, 1, none⟩) (by show v1.heap.size ≠ w.heap.size + 1; omega) _
 have HB4 : Hid (Below w.heap.size w (v3.setCell ⟨v1.heap.size, 1, none⟩ (.int .i64 (n2 : Int)))) := HB3.out.setCell (by show w.heap.size ≤ v1.heap.size; omega) _
 have BX4 : Hid (Bx (v3.setCell ⟨v1.heap.size, 1, none⟩ (.int .i64 (n2 : Int))) (v1.heap.size) [.int .i64 (n1 : Int), .int .i64 (n2 : Int), .int .i64 0, .int .i64 0, .slice none 0 0, .slice none 0 0, .bool false, .string ⟨#[]⟩]) := BX3.out.set 1 _
 have SZ4 : Hid (v1.heap.size + 1 ≤ (v3.setCell ⟨v1.heap.size, 1, none⟩ (.int .i64 (n2 : Int))).heap.size) := (by show _ ≤ _; simpa [World.setCell] using SZ3.out)
 clear BR3 BX3 CR3 HB3 SZ3
 generalize (v3.setCell ⟨v1.heap.size, 1, none⟩ (.int .i64 (n2 : Int))) = v4 at *
 refine (svar x (w.heap.size + 1) p2 b2 hs _ CR4.out).mono ?_
 rintro e v5 ⟨n3, p3, b3, rfl, hn3, h3, hc, hg⟩
 have BR5 := hide (BR4.out.grown hg (by omega))
 have HB5 := hide (HB4.out.grown hg HB4.out.size (fun j hj => by cases hj; omega))
 have BX5 := hide (BX4.out.grown hg (by omega))
 have SZ5 := hide (Nat.le_trans SZ4.out hg.size)
 have CR5 : Hid (Cr v5 (w.heap.size + 1) x p3 b3) := hc
 clear BR4 BX4 CR4 HB4 SZ4 hc hg
 have H3 := hide h3
 clear h3
 have c2 := BX5.out.c2
 have f2 := BX5.out.fz 2
 go_wp2_with fail
 clear c2 f2
 have BR6 : Hid (Bx (v5.setCell ⟨v1.heap.size, 2, none⟩ (.int .i64 (n3 : Int))) (w.heap.size) [.int .i64 0, .int .i64 0, .int .i64 0, .int .i64 0, .slice none 0 0, .slice none 0 0, .bool false, .string ⟨#[]⟩]) := BR5.out.setO (p := ⟨v1.heap.size, 2, none⟩) (by show v1.heap.size ≠ w.heap.size; omega) _
 have CR6 : Hid (Bx (v5.setCell ⟨v1.heap.size, 2, none⟩ (.int .i64 (n3 : Int))) (w.heap.size + 1) [.string x, .int .i64 p3, .bool b3]) := CR5.out.setO (p := ⟨v1.heap.size, 2, none⟩) (by show v1.heap.size ≠ w.heap.size + 1; omega) _
 have HB6 : Hid (Below w.heap.size w (v5.setCell ⟨v1.heap.size, 2, none⟩ (.int .i64 (n3 : Int)))) := HB5.out.setCell (by show w.heap.size ≤ v1.heap.size; omega) _
 have BX6 : Hid (Bx (v5.setCell ⟨v1.heap.size, 2, none⟩ (.int .i64 (n3 : Int))) (v1.heap.size) [.int .i64 (n1 : Int), .int .i64 (n2 : Int), .int .i64 (n3 : Int), .int .i64 0, .slice none 0 0, .slice none 0 0, .bool false, .string ⟨#[]⟩]) := BX5.out.set 2 _
 have SZ6 : Hid (v1.heap.size + 1 ≤ (v5.setCell ⟨v1.heap.size, 2, none⟩ (.int .i64 (n3 : Int))).heap.size) := (by show _ ≤ _; simpa [World.setCell] using SZ5.out)
 clear BR5 BX5 CR5 HB5 SZ5
 generalize (v5.setCell ⟨v1.heap.size, 2, none⟩ (.int .i64 (n3 : Int))) = v6 at *
 refine (svar x (w.heap.size + 1) p3 b3 hs _ CR6.out).mono ?_
 rintro e v7 ⟨n4, p4, b4, rfl, hn4, h4, hc, hg⟩
 have BR7 := hide (BR6.out.grown hg (by omega))
 have HB7 := hide (HB6.out.grown hg HB6.out.size (fun j hj => by cases hj; omega))
 have BX7 := hide (BX6.out.grown hg (by omega))
 have SZ7 := hide (Nat.le_trans SZ6.out hg.size)
 have CR7 : Hid (Cr v7 (w.heap.size + 1) x p4 b4) := hc
 clear BR6 BX6 CR6 HB6 SZ6 hc hg
 have H4 := hide h4
 clear h4
 have c3 := BX7.out.c3
 have f3 := BX7.out.fz 3
 go_wp2_with fail
 clear c3 f3
 have BR8 : Hid (Bx (v7.setCell ⟨v1.heap.size, 3, none⟩ (.int .i64 (n4 : Int))) (w.heap.size) [.int .i64 0, .int .i64 0, .int .i64 0, .int .i64 0, .slice none 0 0, .slice none 0 0, .bool false, .string ⟨#[]⟩]) := BR7.out.setO (p := ⟨v1.heap.size, 3, none⟩) (by show v1.heap.size ≠ w.heap.size; omega) _
 have CR8 : Hid (Bx (v7.setCell ⟨v1.heap.size, 3, none⟩ (.int .i64 (n4 : Int))) (w.heap.size + 1) [.string x, .int .i64 p4, .bool b4]) := CR7.out.setO (p := ⟨v1.heap.size, 3, none⟩) (by show v1.heap.size ≠ w.heap.size + 1; omega) _
 have HB8 : Hid (Below w.heap.size w (v7.setCell ⟨v1.heap.size, 3, none⟩ (.int .i64 (n4 : Int)))) := HB7.out.setCell (by show w.heap.size ≤ v1.heap.size; omega) _
 have BX8 : Hid (Bx (v7.setCell ⟨v1.heap.size, 3, none⟩ (.int .i64 (n4 : Int))) (v1.heap.size) [.int .i64 (n1 : Int), .int .i64 (n2 : Int), .int .i64 (n3 : Int), .int .i64 (n4 : Int), .slice none 0 0, .slice none 0 0, .bool false, .string ⟨#[]⟩]) := BX7.out.set 3 _
 have SZ8 : Hid (v1.heap.size + 1 ≤ (v7.setCell ⟨v1.heap.size, 3, none⟩ (.int .i64 (n4 : Int))).heap.size) := (by show _ ≤ _; simpa [World.setCell] using SZ7.out)
 clear BR7 BX7 CR7 HB7 SZ7
 generalize (v7.setCell ⟨v1.heap.size, 3, none⟩ (.int .i64 (n4 : Int))) = v8 at *
 refine (svar x (w.heap.size + 1) p4 b4 hs _ CR8.out).mono ?_
 rintro e v9 ⟨n5, p5, b5, rfl, hn5, h5, hc, hg⟩
 have BR9 := hide (BR8.out.grown hg (by omega))
 have HB9 := hide (HB8.out.grown hg HB8.out.size (fun j hj => by cases hj; omega))
 have BX9 := hide (BX8.out.grown hg (by omega))
 have SZ9 := hide (Nat.le_trans SZ8.out hg.size)
 have CR9 : Hid (Cr v9 (w.heap.size + 1) x p5 b5) := hc
 clear BR8 BX8 CR8 HB8 SZ8 hc hg
 have H5 := hide h5
 clear h5
 go_wp2
 go_loopw [10] (fun t wr => ∃ (k1 : Nat) (l1 : List Rg) (pa1 : Option Addr) (pc1 : Nat) (pp1 : Int) (bb1 : Bool), k1 ≤ n5 ∧ k1 ≤ 10 ∧ t = .int .i64 k1 ∧ Hid (l1.length = k1) ∧ Hid (RFit l1) ∧ Hid (MI (rRg x) b5 p5 k1 l1 pp1 bb1) ∧ Hid (Bx wr (w.heap.size) [.int .i64 0, .int .i64 0, .int .i64 0, .int .i64 0, .slice none 0 0, .slice none 0 0, .bool false, .string ⟨#[]⟩]) ∧ Hid (Cr wr (w.heap.size + 1) x pp1 bb1) ∧ Hid (Bx wr (v1.heap.size) [.int .i64 (n1 : Int), .int .i64 (n2 : Int), .int .i64 (n3 : Int), .int .i64 (n4 : Int), .slice pa1 l1.length pc1, .slice none 0 0, .bool false, .string ⟨#[]⟩]) ∧ Hid (Below w.heap.size w wr) ∧ Hid (v1.heap.size + 1 ≤ wr.heap.size) ∧ Hid (GOwn encR 109 wr (v1.heap.size + 1) (.slice pa1 l1.length pc1) l1)) (fun t _ => 10 - (intOf t).toNat)
 case atStart => exact ⟨0, [], none, 0, p5, b5, Nat.zero_le _, Nat.zero_le _, rfl, rfl, (fun x hx => by cases hx), MI.start (H5.out.nonneg), BR9, CR9, BX9, HB9, SZ9, World.ownsRow_nil _ _ _ _⟩
 case round =>
  clear BR9 BX9 CR9 HB9 SZ9
  obtain ⟨k1, l1, pa1, pc1, pp1, bb1, hk11, hk21, rfl, HLen1, HFit1, HM1, BR, CR, BX, HB, SZ, GO⟩ := hrel
  go_upto_region 8 with fail
  go_cut [46] from 33 to 60 (fun c wx => ∃ cn : Bool, c = .bool cn ∧ (cn = true ↔ (k1 < n5 ∧ k1 < 10 ∧ bb1 = false)) ∧ wr = wx)
  case first =>
   by_cases h1 : k1 < n5
   ·have h1' : (k1 : Int) < (n5 : Int) := by omega
    have h1d : decide (k1 < n5) = true := decide_eq_true h1
    by_cases h2 : k1 < 10
    ·have h2' : (k1 : Int) < 10 := by omega
     have h2d : decide (k1 < 10) = true := decide_eq_true h2
     have x2 := CR.out.c2
     cases bb1
     ·go_wp2
      go_meet
      exact ⟨true, rfl, by simp [h1, h2], rfl⟩
     ·go_wp2
      go_meet
      exact ⟨false, rfl, by simp, rfl⟩
    ·have h2' : ¬ (k1 : Int) < 10 := by omega
     have h2d : decide (k1 < 10) = false := decide_eq_false h2
     have h2e : decide ((k1 : Int) < 10) = false := decide_eq_false h2'
     go_wp2
     go_meet
     exact ⟨false, rfl, by simp [h2], rfl⟩
   ·have h1' : ¬ (k1 : Int) < (n5 : Int) := by omega
    have h1d : decide (k1 < n5) = false := decide_eq_false h1
    have h1e : decide ((k1 : Int) < (n5 : Int)) = false := decide_eq_false h1'
    go_wp2
    go_meet
    exact ⟨false, rfl, by simp [h1], rfl⟩
  case rest =>
  obtain ⟨cn, rfl, hcn, rfl⟩ := hcut
  have HCN1 := hide hcn
  clear hcn
  cases cn
  ·obtain ⟨wx1, rfl⟩ : ∃ z, z = wr := ⟨_, rfl⟩
   have HE1 : Hid (¬ (k1 < n5 ∧ k1 < 10 ∧ bb1 = false)) := fun h => by have := HCN1.out.2 h; cases this
   clear HCN1
   have LR150 := hide (Lies.of GO.out)
   have SX := hide (SZ.out)
   have hSX := SX.out
   have SB150 : Hid (wx1.heap.size ≤ wx1.heap.size) := Nat.le_refl _
   clear GO
   go_wp2_with fail
   refine (svar x (w.heap.size + 1) pp1 bb1 hs _ CR.out).mono ?_
   rintro e v7 ⟨n7, p7, b7, rfl, hn7, h7, hc, hg⟩
   have BR151 := hide (BR.out.grown hg (by omega))
   have HB151 := hide (HB.out.grown hg HB.out.size (fun j hj => by cases hj; omega))
   have BX151 := hide (BX.out.grown hg (by omega))
   have SZ151 := hide (Nat.le_trans SZ.out hg.size)
   have LR151 : Hid (Lies encR 109 v7 (v1.heap.size + 1) (wx1.heap.size) (.slice pa1 l1.length pc1) l1) := ⟨LR150.out.own.keptG hg (by omega), LR150.out.up⟩
   have SB151 := hide (Nat.le_trans SB150.out hg.size)
   have CR151 : Hid (Cr v7 (w.heap.size + 1) x p7 b7) := hc
   clear BR BX CR HB LR150 SB150 SZ hc hg
   have H7 := hide h7
   clear h7
   go_wp2
   go_loopw [13] (fun t wr => ∃ (k2 : Nat) (l2 : List Wt) (pa2 : Option Addr) (pc2 : Nat) (pp2 : Int) (bb2 : Bool), k2 ≤ n7 ∧ k2 ≤ 10 ∧ t = .int .i64 k2 ∧ Hid (l2.length = k2) ∧ Hid (WFit l2) ∧ Hid (MI (rWt x) b7 p7 k2 l2 pp2 bb2) ∧ Hid (Bx wr (w.heap.size) [.int .i64 0, .int .i64 0, .int .i64 0, .int .i64 0, .slice none 0 0, .slice none 0 0, .bool false, .string ⟨#[]⟩]) ∧ Hid (Cr wr (w.heap.size + 1) x pp2 bb2) ∧ Hid (Bx wr (v1.heap.size) [.int .i64 (n1 : Int), .int .i64 (n2 : Int), .int .i64 (n3 : Int), .int .i64 (n4 : Int), .slice pa1 l1.length pc1, .slice pa2 l2.length pc2, .bool false, .string ⟨#[]⟩]) ∧ Hid (Below w.heap.size w wr) ∧ Hid (v1.heap.size + 1 ≤ wr.heap.size) ∧ Hid (GOwn encW 111 wr (wx1.heap.size) (.slice pa2 l2.length pc2) l2) ∧ Hid (Lies encR 109 wr (v1.heap.size + 1) (wx1.heap.size) (.slice pa1 l1.length pc1) l1) ∧ Hid (wx1.heap.size ≤ wr.heap.size)) (fun t _ => 10 - (intOf t).toNat)
   case atStart => exact ⟨0, [], none, 0, p7, b7, Nat.zero_le _, Nat.zero_le _, rfl, rfl, (fun x hx => by cases hx), MI.start (H7.out.nonneg), BR151, CR151, BX151, HB151, SZ151, World.ownsRow_nil _ _ _ _, LR151, SB151⟩
   case round =>
    clear BR151 BX151 CR151 HB151 LR151 SB151 SZ151
    obtain ⟨k2, l2, pa2, pc2, pp2, bb2, hk12, hk22, rfl, HLen2, HFit2, HM2, BR, CR, BX, HB, SZ, GO, LR, SB⟩ := hrel
    go_upto_region 15 with fail
    go_cut [76] from 63 to 93 (fun c wx => ∃ cn : Bool, c = .bool cn ∧ (cn = true ↔ (k2 < n7 ∧ k2 < 10 ∧ bb2 = false)) ∧ wr = wx)
    case first =>
     by_cases h1 : k2 < n7
     ·have h1' : (k2 : Int) < (n7 : Int) := by omega
      have h1d : decide (k2 < n7) = true := decide_eq_true h1
      by_cases h2 : k2 < 10
      ·have h2' : (k2 : Int) < 10 := by omega
       have h2d : decide (k2 < 10) = true := decide_eq_true h2
       have x2 := CR.out.c2
       cases bb2
       ·go_wp2
        go_meet
        exact ⟨true, rfl, by simp [h1, h2], rfl⟩
       ·go_wp2
        go_meet
        exact ⟨false, rfl, by simp, rfl⟩
      ·have h2' : ¬ (k2 : Int) < 10 := by omega
       have h2d : decide (k2 < 10) = false := decide_eq_false h2
       have h2e : decide ((k2 : Int) < 10) = false := decide_eq_false h2'
       go_wp2
       go_meet
       exact ⟨false, rfl, by simp [h2], rfl⟩
     ·have h1' : ¬ (k2 : Int) < (n7 : Int) := by omega
      have h1d : decide (k2 < n7) = false := decide_eq_false h1
      have h1e : decide ((k2 : Int) < (n7 : Int)) = false := decide_eq_false h1'
      go_wp2
      go_meet
      exact ⟨false, rfl, by simp [h1], rfl⟩
    case rest =>
    obtain ⟨cn, rfl, hcn, rfl⟩ := hcut
    have HCN2 := hide hcn
    clear hcn
    cases cn
    ·obtain ⟨wx2, rfl⟩ : ∃ z, z = wr := ⟨_, rfl⟩
     have HE2 : Hid (¬ (k2 < n7 ∧ k2 < 10 ∧ bb2 = false)) := fun h => by have := HCN2.out.2 h; cases this
     clear HCN2
     go_wp2_with fail
     refine (sbit7 x (w.heap.size + 1) pp2 bb2 hs HM2.out.nonneg _ CR.out).mono ?_
     rintro e z1 ⟨o9, p9, b9, rfl, h9, hc, hg⟩
     have BR251 := hide (BR.out.grown hg (by omega))
     have HB251 := hide (HB.out.grown hg HB.out.size (fun j hj => by cases hj; omega))
     have BX251 := hide (BX.out.grown hg (by omega))
     have SZ251 := hide (Nat.le_trans SZ.out hg.size)
     have LR251 : Hid (Lies encR 109 z1 (v1.heap.size + 1) (wx1.heap.size) (.slice pa1 l1.length pc1) l1) := ⟨LR.out.own.keptG hg (by omega), LR.out.up⟩
     have SB251 := hide (Nat.le_trans SB.out hg.size)
     have GO251 := hide (GO.out.keptG hg (by omega))
     have CR251 : Hid (Cr z1 (w.heap.size + 1) x p9 b9) := hc
     clear BR BX CR GO HB LR SB SZ hc hg
     have H9 := hide h9
     clear h9
     have c6 := BX251.out.c6
     have f6 := BX251.out.fz 6
     go_wp2_with fail
     clear c6 f6
     have BR252 : Hid (Bx (z1.setCell ⟨v1.heap.size, 6, none⟩ (.bool o9)) (w.heap.size) [.int .i64 0, .int .i64 0, .int .i64 0, .int .i64 0, .slice none 0 0, .slice none 0 0, .bool false, .string ⟨#[]⟩]) := BR251.out.setO (p := ⟨v1.heap.size, 6, none⟩) (by show v1.heap.size ≠ w.heap.size; omega) _
     have CR252 : Hid (Bx (z1.setCell ⟨v1.heap.size, 6, none⟩ (.bool o9)) (w.heap.size + 1) [.string x, .int .i64 p9, .bool b9]) := CR251.out.setO (p := ⟨v1.heap.size, 6, none⟩) (by show v1.heap.size ≠ w.heap.size + 1; omega) _
     have HB252 : Hid (Below w.heap.size w (z1.setCell ⟨v1.heap.size, 6, none⟩ (.bool o9))) := HB251.out.setCell (by show w.heap.size ≤ v1.heap.size; omega) _
     have BX252 : Hid (Bx (z1.setCell ⟨v1.heap.size, 6, none⟩ (.bool o9)) (v1.heap.size) [.int .i64 (n1 : Int), .int .i64 (n2 : Int), .int .i64 (n3 : Int), .int .i64 (n4 : Int), .slice pa1 l1.length pc1, .slice pa2 l2.length pc2, .bool o9, .string ⟨#[]⟩]) := BX251.out.set 6 _
     have SZ252 : Hid (v1.heap.size + 1 ≤ (z1.setCell ⟨v1.heap.size, 6, none⟩ (.bool o9)).heap.size) := (by show _ ≤ _; simpa [World.setCell] using SZ251.out)
     have LR252 : Hid (Lies encR 109 (z1.setCell ⟨v1.heap.size, 6, none⟩ (.bool o9)) (v1.heap.size + 1) (wx1.heap.size) (.slice pa1 l1.length pc1) l1) := LR251.out.setx (a := ⟨v1.heap.size, 6, none⟩) (fun g hg => by have := LR251.out.lo g hg; show v1.heap.size ≠ g; omega) _
     have SB252 : Hid (wx1.heap.size ≤ (z1.setCell ⟨v1.heap.size, 6, none⟩ (.bool o9)).heap.size) := (by show _ ≤ _; simpa [World.setCell] using SB251.out)
     have GO252 : Hid (GOwn encW 111 (z1.setCell ⟨v1.heap.size, 6, none⟩ (.bool o9)) (wx1.heap.size) (.slice pa2 l2.length pc2) l2) := GO251.out.set (a := ⟨v1.heap.size, 6, none⟩) (by show v1.heap.size < wx1.heap.size; omega) _
     clear BR251 BX251 CR251 GO251 HB251 LR251 SB251 SZ251
     generalize (z1.setCell ⟨v1.heap.size, 6, none⟩ (.bool o9)) = z2 at *
     refine (sshrt x (w.heap.size + 1) p9 b9 hs _ CR252.out).mono ?_
     rintro e z3 ⟨nm, p10, b10, rfl, hznm, h10, hc, hg⟩
     have BR253 := hide (BR252.out.grown hg (by omega))
     have HB253 := hide (HB252.out.grown hg HB252.out.size (fun j hj => by cases hj; omega))
     have BX253 := hide (BX252.out.grown hg (by omega))
     have SZ253 := hide (Nat.le_trans SZ252.out hg.size)
     have LR253 : Hid (Lies encR 109 z3 (v1.heap.size + 1) (wx1.heap.size) (.slice pa1 l1.length pc1) l1) := ⟨LR252.out.own.keptG hg (by omega), LR252.out.up⟩
     have SB253 := hide (Nat.le_trans SB252.out hg.size)
     have GO253 := hide (GO252.out.keptG hg (by omega))
     have CR253 : Hid (Cr z3 (w.heap.size + 1) x p10 b10) := hc
     clear BR252 BX252 CR252 GO252 HB252 LR252 SB252 SZ252 hc hg
     have H10 := hide h10
     clear h10
     have EN := hide (ends H1.out H2.out H3.out H4.out H5.out HM1.out hk11 HE1.out HLen1.out H7.out HM2.out hk12 HE2.out HLen2.out H9.out H10.out)
     clear H1 H2 H3 H4 H5 HM1 HE1 H7 HM2 HE2 H9 H10
     obtain ⟨T, hT⟩ : ∃ T : Tx, T = ⟨n1, n2, n3, n4, l1, l2, o9, nm⟩ := ⟨_, rfl⟩
     rw [← hT] at EN
     have TF : Hid (TFit T) := by
      show TFit T
      rw [hT]
      exact ⟨by show l1.length ≤ _; have := HLen1.out; omega, HFit1.out, by show l2.length ≤ _; have := HLen2.out; omega, HFit2.out, Nat.le_trans hznm (by omega)⟩
     have e0 : (n1 : Int) = T.id := by rw [hT]
     have e1 : (n2 : Int) = T.st := by rw [hT]
     have e2 : (n3 : Int) = T.snap := by rw [hT]
     have e3 : (n4 : Int) = T.cs := by rw [hT]
     have e4 : l1 = T.rs := by rw [hT]
     have e5 : l2 = T.ws := by rw [hT]
     have e6 : o9 = T.out := by rw [hT]
     have e7 : nm = T.nm := by rw [hT]
     rw [e7]
     have c7 := BX253.out.c7
     have f7 := BX253.out.fz 7
     have r2 := CR253.out.c2
     have BR254 : Hid (Bx (z3.setCell ⟨v1.heap.size, 7, none⟩ (.string T.nm)) (w.heap.size) [.int .i64 0, .int .i64 0, .int .i64 0, .int .i64 0, .slice none 0 0, .slice none 0 0, .bool false, .string ⟨#[]⟩]) := BR253.out.setO (p := ⟨v1.heap.size, 7, none⟩) (by show v1.heap.size ≠ w.heap.size; omega) _
     have CR254 : Hid (Bx (z3.setCell ⟨v1.heap.size, 7, none⟩ (.string T.nm)) (w.heap.size + 1) [.string x, .int .i64 p10, .bool b10]) := CR253.out.setO (p := ⟨v1.heap.size, 7, none⟩) (by show v1.heap.size ≠ w.heap.size + 1; omega) _
     have HB254 : Hid (Below w.heap.size w (z3.setCell ⟨v1.heap.size, 7, none⟩ (.string T.nm))) := HB253.out.setCell (by show w.heap.size ≤ v1.heap.size; omega) _
     have BX254 : Hid (Bx (z3.setCell ⟨v1.heap.size, 7, none⟩ (.string T.nm)) (v1.heap.size) [.int .i64 (n1 : Int), .int .i64 (n2 : Int), .int .i64 (n3 : Int), .int .i64 (n4 : Int), .slice pa1 l1.length pc1, .slice pa2 l2.length pc2, .bool o9, .string T.nm]) := BX253.out.set 7 _
     have SZ254 : Hid (v1.heap.size + 1 ≤ (z3.setCell ⟨v1.heap.size, 7, none⟩ (.string T.nm)).heap.size) := (by show _ ≤ _; simpa [World.setCell] using SZ253.out)
     have LR254 : Hid (Lies encR 109 (z3.setCell ⟨v1.heap.size, 7, none⟩ (.string T.nm)) (v1.heap.size + 1) (wx1.heap.size) (.slice pa1 l1.length pc1) l1) := LR253.out.setx (a := ⟨v1.heap.size, 7, none⟩) (fun g hg => by have := LR253.out.lo g hg; show v1.heap.size ≠ g; omega) _
     have SB254 : Hid (wx1.heap.size ≤ (z3.setCell ⟨v1.heap.size, 7, none⟩ (.string T.nm)).heap.size) := (by show _ ≤ _; simpa [World.setCell] using SB253.out)
     have GO254 : Hid (GOwn encW 111 (z3.setCell ⟨v1.heap.size, 7, none⟩ (.string T.nm)) (wx1.heap.size) (.slice pa2 l2.length pc2) l2) := GO253.out.set (a := ⟨v1.heap.size, 7, none⟩) (by show v1.heap.size < wx1.heap.size; omega) _
     clear BR253 BX253 CR253 GO253 HB253 LR253 SB253 SZ253
     rw [e0, e1, e2, e3, e4, e5, e6] at BX254
     rw [e4] at LR254
     rw [e5] at GO254
     clear e0 e1 e2 e3 e4 e5 e6 e7 hT
     have LT : Hid (TLie (z3.setCell ⟨v1.heap.size, 7, none⟩ (.string T.nm)) (v1.heap.size + 1) (z3.setCell ⟨v1.heap.size, 7, none⟩ (.string T.nm)).heap.size T pa1 pc1 pa2 pc2) := ⟨wx1.heap.size, SX.out, SB254.out, LR254.out, Lies.of GO254.out⟩
     cases b10
     ·have g0 := CR254.out.c0
      clear g0
      obtain ⟨EF, ET⟩ := EN.out.2 rfl
      have HEF := hide EF
      have HET := hide ET
      clear EN EF ET
      have o0 := BX254.out.c0
      have o1 := BX254.out.c1
      have o2 := BX254.out.c2
      have o3 := BX254.out.c3
      have o4 := BX254.out.c4
      have o5 := BX254.out.c5
      have o6 := BX254.out.c6
      have o7 := BX254.out.c7
      go_wp2_with fail
      clear c7 f7 r2 o0 o1 o2 o3 o4 o5 o6 o7
      refine (stxn T pa1 pa2 pc1 pc2 TF.out _ LT.out.row).mono ?_
      rintro e zA ⟨rfl, hb⟩
      have LA := hide (LT.out.below hb)
      have SA : Hid (z3.heap.size ≤ zA.heap.size) := by show _ ≤ _; have := hb.size; simpa [World.setCell] using this
      have BR255 := hide (BR254.out.below hb)
      have CR255 := hide (CR254.out.below hb)
      have HB255 := hide (HB254.out.trans (hb.mono HB254.out.size))
      have BX255 := hide (BX254.out.below hb)
      have SZ255 := hide (Nat.le_trans SZ254.out hb.size)
      clear BR254 BX254 CR254 HB254 SZ254 hb LT
      cases htb : txnB T
      ·have h := HA.out
       rw [HEF.out htb] at h
       cases h
       clear htb HEF HET
       have q0_ := BR255.out.c0
       have fq0 := BR255.out.fz 0
       have q1_ := BR255.out.c1
       have fq1 := BR255.out.fz 1
       have q2_ := BR255.out.c2
       have fq2 := BR255.out.fz 2
       have q3_ := BR255.out.c3
       have fq3 := BR255.out.fz 3
       have q4_ := BR255.out.c4
       have fq4 := BR255.out.fz 4
       have q5_ := BR255.out.c5
       have fq5 := BR255.out.fz 5
       have q6_ := BR255.out.c6
       have fq6 := BR255.out.fz 6
       have q7_ := BR255.out.c7
       have fq7 := BR255.out.fz 7
       go_wp2
       refine bodyPost_ret (v := .tuple #[.agg #[.int .i64 0, .int .i64 0, .int .i64 0, .int .i64 0, .slice none 0 0, .slice none 0 0, .bool false, .string ⟨#[]⟩], .int .i64 0, .bool false]) (by simp [results, Tryz.results34, go_sem, q0_, q1_, q2_, q3_, q4_, q5_, q6_, q7_]) rfl ⟨none, 0, none, 0, rfl, zlie _ _ _ ?_, ?_⟩
       ·exact (below_s8 HB255.out (Nat.le_refl _) _ _ _ _ _ _ _ _).size
       ·exact below_s8 HB255.out (Nat.le_refl _) _ _ _ _ _ _ _ _
      ·obtain ⟨q9, hq9, hr9⟩ := HET.out htb
       subst hq9
       have h := HA.out
       rw [hr9] at h
       obtain ⟨rfl, rfl, rfl⟩ : t = T ∧ q = q9 ∧ b = true := by cases h; exact ⟨rfl, rfl, rfl⟩
       clear h hr9 htb HEF HET
       go_wp2
       refine wp_region_held_drew (S := fun w' => w'.cell? ⟨v1.heap.size, 0, none⟩ = some (.int .i64 t.id) ∧ w'.cell? ⟨v1.heap.size, 1, none⟩ = some (.int .i64 t.st) ∧ w'.cell? ⟨v1.heap.size, 2, none⟩ = some (.int .i64 t.snap) ∧ w'.cell? ⟨v1.heap.size, 3, none⟩ = some (.int .i64 t.cs) ∧ w'.cell? ⟨v1.heap.size, 4, none⟩ = some (.slice pa1 t.rs.length pc1) ∧ w'.cell? ⟨v1.heap.size, 5, none⟩ = some (.slice pa2 t.ws.length pc2) ∧ w'.cell? ⟨v1.heap.size, 6, none⟩ = some (.bool t.out) ∧ w'.cell? ⟨v1.heap.size, 7, none⟩ = some (.string t.nm) ∧ w'.cell? ⟨w.heap.size + 1, 1, none⟩ = some (.int .i64 (q : Int))) (by kernel_rfl) ⟨BX255.out.c0, BX255.out.c1, BX255.out.c2, BX255.out.c3, BX255.out.c4, BX255.out.c5, BX255.out.c6, BX255.out.c7, CR255.out.c1⟩ (fun hHeld => ?_)
       (refine ti 0 ?_; simp only [Act.put, tA, tB, tD, tE, tF])
       (refine ti 1 ?_; simp only [Act.put, tA, tB, tC, tD, tE, tF])
       (refine ti 2 ?_; simp only [Act.put, tA, tB, tC, tD, tE, tF])
       (refine ti 3 ?_; simp only [Act.put, tA, tB, tC, tD, tE, tF])
       (refine ti 4 ?_; simp only [Act.put, tA, tB, tC, tD, tE, tF])
       have B2 := hide (BR255.out.drew)
       have O2 := hide (BX255.out.drew)
       have G2 := hide (CR255.out.drew)
       have HB2 := hide (HB255.out.drew)
       have HL2 : Hid (TLie zA.drew (v1.heap.size + 1) zA.drew.heap.size t pa1 pc1 pa2 pc2) := (LA.out.below (belowRefl zA).drew).mono (Nat.le_refl _) (by show _ ≤ zA.heap.size; have := SA.out; simpa [World.setCell] using this)
       clear hHeld BR255 BX255 CR255 HB255 LA
       generalize zA.drew = wd at *
       have q0_ := B2.out.c0
       have fq0 := B2.out.fz 0
       have q1_ := B2.out.c1
       have fq1 := B2.out.fz 1
       have q2_ := B2.out.c2
       have fq2 := B2.out.fz 2
       have q3_ := B2.out.c3
       have fq3 := B2.out.fz 3
       have q4_ := B2.out.c4
       have fq4 := B2.out.fz 4
       have q5_ := B2.out.c5
       have fq5 := B2.out.fz 5
       have q6_ := B2.out.c6
       have fq6 := B2.out.fz 6
       have q7_ := B2.out.c7
       have fq7 := B2.out.fz 7
       refine wpAnyH_ready (rs := [5]) (by kernel_rfl) (by simp) ?_
       refine AllReadyH.cons rfl (fun K hK => ?_) AllReadyH.nil
       go_simp
       refine hK.out _ _ ⟨(O2.out.o8 (ob := w.heap.size) (by omega) _ _ _ _ _ _ _ _).c0, (O2.out.o8 (ob := w.heap.size) (by omega) _ _ _ _ _ _ _ _).c1, (O2.out.o8 (ob := w.heap.size) (by omega) _ _ _ _ _ _ _ _).c2, (O2.out.o8 (ob := w.heap.size) (by omega) _ _ _ _ _ _ _ _).c3, (O2.out.o8 (ob := w.heap.size) (by omega) _ _ _ _ _ _ _ _).c4, (O2.out.o8 (ob := w.heap.size) (by omega) _ _ _ _ _ _ _ _).c5, (O2.out.o8 (ob := w.heap.size) (by omega) _ _ _ _ _ _ _ _).c6, (O2.out.o8 (ob := w.heap.size) (by omega) _ _ _ _ _ _ _ _).c7, (G2.out.o8 (ob := w.heap.size) (by omega) _ _ _ _ _ _ _ _).c1⟩ (fun hHeld2 => ?_)
       clear hK K
       (refine ti 6 ?_; simp only [Act.put, tA, tB, tC, tD, tE, tF])
       (refine ti 7 ?_; simp only [Act.put, tA, tB, tC, tD, tE, tF])
       refine wpAnyH_done (by kernel_rfl) ?_ _
       have BF : Hid (Bx ((((((((wd.setCell ⟨w.heap.size, 0, none⟩ (.int .i64 t.id)).setCell ⟨w.heap.size, 1, none⟩ (.int .i64 t.st)).setCell ⟨w.heap.size, 2, none⟩ (.int .i64 t.snap)).setCell ⟨w.heap.size, 3, none⟩ (.int .i64 t.cs)).setCell ⟨w.heap.size, 4, none⟩ (.slice pa1 t.rs.length pc1)).setCell ⟨w.heap.size, 5, none⟩ (.slice pa2 t.ws.length pc2)).setCell ⟨w.heap.size, 6, none⟩ (.bool t.out)).setCell ⟨w.heap.size, 7, none⟩ (.string t.nm)) w.heap.size [.int .i64 t.id, .int .i64 t.st, .int .i64 t.snap, .int .i64 t.cs, .slice pa1 t.rs.length pc1, .slice pa2 t.ws.length pc2, .bool t.out, .string t.nm]) := B2.out.s8 _ _ _ _ _ _ _ _
       have HBF : Hid (Below w.heap.size w ((((((((wd.setCell ⟨w.heap.size, 0, none⟩ (.int .i64 t.id)).setCell ⟨w.heap.size, 1, none⟩ (.int .i64 t.st)).setCell ⟨w.heap.size, 2, none⟩ (.int .i64 t.snap)).setCell ⟨w.heap.size, 3, none⟩ (.int .i64 t.cs)).setCell ⟨w.heap.size, 4, none⟩ (.slice pa1 t.rs.length pc1)).setCell ⟨w.heap.size, 5, none⟩ (.slice pa2 t.ws.length pc2)).setCell ⟨w.heap.size, 6, none⟩ (.bool t.out)).setCell ⟨w.heap.size, 7, none⟩ (.string t.nm))) := below_s8 HB2.out (Nat.le_refl _) _ _ _ _ _ _ _ _
       have LF : Hid (TLie ((((((((wd.setCell ⟨w.heap.size, 0, none⟩ (.int .i64 t.id)).setCell ⟨w.heap.size, 1, none⟩ (.int .i64 t.st)).setCell ⟨w.heap.size, 2, none⟩ (.int .i64 t.snap)).setCell ⟨w.heap.size, 3, none⟩ (.int .i64 t.cs)).setCell ⟨w.heap.size, 4, none⟩ (.slice pa1 t.rs.length pc1)).setCell ⟨w.heap.size, 5, none⟩ (.slice pa2 t.ws.length pc2)).setCell ⟨w.heap.size, 6, none⟩ (.bool t.out)).setCell ⟨w.heap.size, 7, none⟩ (.string t.nm)) w.heap.size ((((((((wd.setCell ⟨w.heap.size, 0, none⟩ (.int .i64 t.id)).setCell ⟨w.heap.size, 1, none⟩ (.int .i64 t.st)).setCell ⟨w.heap.size, 2, none⟩ (.int .i64 t.snap)).setCell ⟨w.heap.size, 3, none⟩ (.int .i64 t.cs)).setCell ⟨w.heap.size, 4, none⟩ (.slice pa1 t.rs.length pc1)).setCell ⟨w.heap.size, 5, none⟩ (.slice pa2 t.ws.length pc2)).setCell ⟨w.heap.size, 6, none⟩ (.bool t.out)).setCell ⟨w.heap.size, 7, none⟩ (.string t.nm)).heap.size t pa1 pc1 pa2 pc2) := (TLie.s8 HL2.out (Or.inl (by omega)) _ _ _ _ _ _ _ _).mono (by omega) (by rw [size_s8]; exact Nat.le_refl _)
       clear q0_ fq0 q1_ fq1 q2_ fq2 q3_ fq3 q4_ fq4 q5_ fq5 q6_ fq6 q7_ fq7
       have q0_ := BF.out.c0
       have q1_ := BF.out.c1
       have q2_ := BF.out.c2
       have q3_ := BF.out.c3
       have q4_ := BF.out.c4
       have q5_ := BF.out.c5
       have q6_ := BF.out.c6
       have q7_ := BF.out.c7
       go_wp2
       refine bodyPost_ret (v := .tuple #[.agg #[.int .i64 t.id, .int .i64 t.st, .int .i64 t.snap, .int .i64 t.cs, .slice pa1 t.rs.length pc1, .slice pa2 t.ws.length pc2, .bool t.out, .string t.nm], .int .i64 (q : Int), .bool true]) (by simp [results, Tryz.results34, go_sem, q0_, q1_, q2_, q3_, q4_, q5_, q6_, q7_]) rfl ⟨pa1, pc1, pa2, pc2, rfl, LF.out, HBF.out⟩
     ·have h := HA.out
      rw [EN.out.1 rfl] at h
      cases h
      have q0_ := BR254.out.c0
      have fq0 := BR254.out.fz 0
      have q1_ := BR254.out.c1
      have fq1 := BR254.out.fz 1
      have q2_ := BR254.out.c2
      have fq2 := BR254.out.fz 2
      have q3_ := BR254.out.c3
      have fq3 := BR254.out.fz 3
      have q4_ := BR254.out.c4
      have fq4 := BR254.out.fz 4
      have q5_ := BR254.out.c5
      have fq5 := BR254.out.fz 5
      have q6_ := BR254.out.c6
      have fq6 := BR254.out.fz 6
      have q7_ := BR254.out.c7
      have fq7 := BR254.out.fz 7
      go_wp2
      refine bodyPost_ret (v := .tuple #[.agg #[.int .i64 0, .int .i64 0, .int .i64 0, .int .i64 0, .slice none 0 0, .slice none 0 0, .bool false, .string ⟨#[]⟩], .int .i64 0, .bool false]) (by simp [results, Tryz.results34, go_sem, q0_, q1_, q2_, q3_, q4_, q5_, q6_, q7_]) rfl ⟨none, 0, none, 0, rfl, zlie _ _ _ ?_, ?_⟩
      ·exact (below_s8 HB254.out (Nat.le_refl _) _ _ _ _ _ _ _ _).size
      ·exact below_s8 HB254.out (Nat.le_refl _) _ _ _ _ _ _ _ _
    obtain ⟨h1, h2, rfl⟩ := HCN2.out.1 rfl
    clear HCN2
    have hll : l2.length ≤ 100000000 := by have := HLen2.out; omega
    go_wp2_with fail
    refine (sshrt x (w.heap.size + 1) pp2 false hs _ CR.out).mono ?_
    rintro e y21 ⟨s1, qq1, cc1, rfl, hz1, hs1, hc, hg⟩
    have BR201 := hide (BR.out.grown hg (by omega))
    have HB201 := hide (HB.out.grown hg HB.out.size (fun j hj => by cases hj; omega))
    have BX201 := hide (BX.out.grown hg (by omega))
    have SZ201 := hide (Nat.le_trans SZ.out hg.size)
    have LR201 : Hid (Lies encR 109 y21 (v1.heap.size + 1) (wx1.heap.size) (.slice pa1 l1.length pc1) l1) := ⟨LR.out.own.keptG hg (by omega), LR.out.up⟩
    have SB201 := hide (Nat.le_trans SB.out hg.size)
    have GO201 := hide (GO.out.keptG hg (by omega))
    have CR201 : Hid (Cr y21 (w.heap.size + 1) x qq1 cc1) := hc
    clear BR BX CR GO HB LR SB SZ hc hg
    have K1 := hide hs1
    clear hs1
    go_wp2_with fail
    have EOW : Hid (∀ g, (Value.slice pa2 l2.length pc2).ownBlock = some g → g < y21.heap.size) := fun g hg => (World.ownsRow.lt GO201.out g hg).2
    have hE0 : v1.heap.size + 1 ≤ y21.heap.size := SZ201.out
    have hE1 : wx1.heap.size ≤ y21.heap.size := SB201.out
    have hb : Below y21.heap.size y21 (y21.alloc (.cells #[.string s1, .string ⟨#[]⟩, .bool false] 111)) := (belowRefl _).alloc (Nat.le_refl _) _
    have BR202 := hide (BR201.out.below hb)
    have CR202 := hide (CR201.out.below hb)
    have HB202 := hide (HB201.out.trans (hb.mono HB201.out.size))
    have BX202 := hide (BX201.out.below hb)
    have SZ202 := hide (Nat.le_trans SZ201.out hb.size)
    have LR202 := hide (LR201.out.below hb)
    have SB202 := hide (Nat.le_trans SB201.out hb.size)
    have GO202 := hide (GO201.out.below hb)
    have BE202 : Hid (Bx (y21.alloc (.cells #[.string s1, .string ⟨#[]⟩, .bool false] 111)) (y21.heap.size) [.string s1, .string ⟨#[]⟩, .bool false]) := Bx.new y21 [.string s1, .string ⟨#[]⟩, .bool false] 111
    clear BR201 BX201 CR201 GO201 HB201 LR201 SB201 SZ201 hb
    generalize (y21.alloc (.cells #[.string s1, .string ⟨#[]⟩, .bool false] 111)) = y22 at *
    refine (sshrt x (w.heap.size + 1) qq1 cc1 hs _ CR202.out).mono ?_
    rintro e y23 ⟨s2, qq2, cc2, rfl, hz2, hs2, hc, hg⟩
    have BR203 := hide (BR202.out.grown hg (by omega))
    have HB203 := hide (HB202.out.grown hg HB202.out.size (fun j hj => by cases hj; omega))
    have BX203 := hide (BX202.out.grown hg (by omega))
    have SZ203 := hide (Nat.le_trans SZ202.out hg.size)
    have LR203 : Hid (Lies encR 109 y23 (v1.heap.size + 1) (wx1.heap.size) (.slice pa1 l1.length pc1) l1) := ⟨LR202.out.own.keptG hg (by omega), LR202.out.up⟩
    have SB203 := hide (Nat.le_trans SB202.out hg.size)
    have GO203 := hide (GO202.out.keptG hg (by omega))
    have BE203 := hide (BE202.out.grown hg (by omega))
    have CR203 : Hid (Cr y23 (w.heap.size + 1) x qq2 cc2) := hc
    clear BE202 BR202 BX202 CR202 GO202 HB202 LR202 SB202 SZ202 hc hg
    have K2 := hide hs2
    clear hs2
    have c1 := BE203.out.c1
    have f1 := BE203.out.fz 1
    go_wp2_with fail
    clear c1 f1
    have BR204 : Hid (Bx (y23.setCell ⟨y21.heap.size, 1, none⟩ (.string s2)) (w.heap.size) [.int .i64 0, .int .i64 0, .int .i64 0, .int .i64 0, .slice none 0 0, .slice none 0 0, .bool false, .string ⟨#[]⟩]) := BR203.out.setO (p := ⟨y21.heap.size, 1, none⟩) (by show y21.heap.size ≠ w.heap.size; omega) _
    have CR204 : Hid (Bx (y23.setCell ⟨y21.heap.size, 1, none⟩ (.string s2)) (w.heap.size + 1) [.string x, .int .i64 qq2, .bool cc2]) := CR203.out.setO (p := ⟨y21.heap.size, 1, none⟩) (by show y21.heap.size ≠ w.heap.size + 1; omega) _
    have HB204 : Hid (Below w.heap.size w (y23.setCell ⟨y21.heap.size, 1, none⟩ (.string s2))) := HB203.out.setCell (by show w.heap.size ≤ y21.heap.size; omega) _
    have BX204 : Hid (Bx (y23.setCell ⟨y21.heap.size, 1, none⟩ (.string s2)) (v1.heap.size) [.int .i64 (n1 : Int), .int .i64 (n2 : Int), .int .i64 (n3 : Int), .int .i64 (n4 : Int), .slice pa1 l1.length pc1, .slice pa2 l2.length pc2, .bool false, .string ⟨#[]⟩]) := BX203.out.setO (p := ⟨y21.heap.size, 1, none⟩) (by show y21.heap.size ≠ v1.heap.size; omega) _
    have SZ204 : Hid (v1.heap.size + 1 ≤ (y23.setCell ⟨y21.heap.size, 1, none⟩ (.string s2)).heap.size) := (by show _ ≤ _; simpa [World.setCell] using SZ203.out)
    have LR204 : Hid (Lies encR 109 (y23.setCell ⟨y21.heap.size, 1, none⟩ (.string s2)) (v1.heap.size + 1) (wx1.heap.size) (.slice pa1 l1.length pc1) l1) := LR203.out.setx (a := ⟨y21.heap.size, 1, none⟩) (fun g hg => by have := LR203.out.lo g hg; show y21.heap.size ≠ g; omega) _
    have SB204 : Hid (wx1.heap.size ≤ (y23.setCell ⟨y21.heap.size, 1, none⟩ (.string s2)).heap.size) := (by show _ ≤ _; simpa [World.setCell] using SB203.out)
    have GO204 : Hid (GOwn encW 111 (y23.setCell ⟨y21.heap.size, 1, none⟩ (.string s2)) (wx1.heap.size) (.slice pa2 l2.length pc2) l2) := own_set GO203.out (a := ⟨y21.heap.size, 1, none⟩) (fun g hg => (by have := EOW.out g hg; show y21.heap.size ≠ g; omega)) _
    have BE204 : Hid (Bx (y23.setCell ⟨y21.heap.size, 1, none⟩ (.string s2)) (y21.heap.size) [.string s1, .string s2, .bool false]) := BE203.out.set 1 _
    clear BE203 BR203 BX203 CR203 GO203 HB203 LR203 SB203 SZ203
    generalize (y23.setCell ⟨y21.heap.size, 1, none⟩ (.string s2)) = y24 at *
    refine (sbit7 x (w.heap.size + 1) qq2 cc2 hs K2.out.nonneg _ CR204.out).mono ?_
    rintro e y25 ⟨fl, qq3, cc3, rfl, hs3, hc, hg⟩
    have BR205 := hide (BR204.out.grown hg (by omega))
    have HB205 := hide (HB204.out.grown hg HB204.out.size (fun j hj => by cases hj; omega))
    have BX205 := hide (BX204.out.grown hg (by omega))
    have SZ205 := hide (Nat.le_trans SZ204.out hg.size)
    have LR205 : Hid (Lies encR 109 y25 (v1.heap.size + 1) (wx1.heap.size) (.slice pa1 l1.length pc1) l1) := ⟨LR204.out.own.keptG hg (by omega), LR204.out.up⟩
    have SB205 := hide (Nat.le_trans SB204.out hg.size)
    have GO205 := hide (GO204.out.keptG hg (by omega))
    have BE205 := hide (BE204.out.grown hg (by omega))
    have CR205 : Hid (Cr y25 (w.heap.size + 1) x qq3 cc3) := hc
    clear BE204 BR204 BX204 CR204 GO204 HB204 LR204 SB204 SZ204 hc hg
    have K3 := hide hs3
    clear hs3
    have HMn := hide (HM2.out.wt K1.out K2.out K3.out)
    have HFn : Hid (WFit (l2 ++ [(s1, s2, fl)])) := fun y hy => by
     rcases List.mem_append.1 hy with h | h
     ·exact HFit2.out y h
     ·rw [List.mem_singleton.1 h]; exact ⟨Nat.le_trans hz1 (by omega), Nat.le_trans hz2 (by omega)⟩
    have HLn : Hid ((l2 ++ [(s1, s2, fl)]).length = k2 + 1) := by show _ = _; rw [List.length_append, HLen2.out]; rfl
    have c2 := BE205.out.c2
    have f2 := BE205.out.fz 2
    go_upto_region 20 with fail
    clear c2 f2
    have BR206 : Hid (Bx (y25.setCell ⟨y21.heap.size, 2, none⟩ (.bool fl)) (w.heap.size) [.int .i64 0, .int .i64 0, .int .i64 0, .int .i64 0, .slice none 0 0, .slice none 0 0, .bool false, .string ⟨#[]⟩]) := BR205.out.setO (p := ⟨y21.heap.size, 2, none⟩) (by show y21.heap.size ≠ w.heap.size; omega) _
    have CR206 : Hid (Bx (y25.setCell ⟨y21.heap.size, 2, none⟩ (.bool fl)) (w.heap.size + 1) [.string x, .int .i64 qq3, .bool cc3]) := CR205.out.setO (p := ⟨y21.heap.size, 2, none⟩) (by show y21.heap.size ≠ w.heap.size + 1; omega) _
    have HB206 : Hid (Below w.heap.size w (y25.setCell ⟨y21.heap.size, 2, none⟩ (.bool fl))) := HB205.out.setCell (by show w.heap.size ≤ y21.heap.size; omega) _
    have BX206 : Hid (Bx (y25.setCell ⟨y21.heap.size, 2, none⟩ (.bool fl)) (v1.heap.size) [.int .i64 (n1 : Int), .int .i64 (n2 : Int), .int .i64 (n3 : Int), .int .i64 (n4 : Int), .slice pa1 l1.length pc1, .slice pa2 l2.length pc2, .bool false, .string ⟨#[]⟩]) := BX205.out.setO (p := ⟨y21.heap.size, 2, none⟩) (by show y21.heap.size ≠ v1.heap.size; omega) _
    have SZ206 : Hid (v1.heap.size + 1 ≤ (y25.setCell ⟨y21.heap.size, 2, none⟩ (.bool fl)).heap.size) := (by show _ ≤ _; simpa [World.setCell] using SZ205.out)
    have LR206 : Hid (Lies encR 109 (y25.setCell ⟨y21.heap.size, 2, none⟩ (.bool fl)) (v1.heap.size + 1) (wx1.heap.size) (.slice pa1 l1.length pc1) l1) := LR205.out.setx (a := ⟨y21.heap.size, 2, none⟩) (fun g hg => by have := LR205.out.lo g hg; show y21.heap.size ≠ g; omega) _
    have SB206 : Hid (wx1.heap.size ≤ (y25.setCell ⟨y21.heap.size, 2, none⟩ (.bool fl)).heap.size) := (by show _ ≤ _; simpa [World.setCell] using SB205.out)
    have GO206 : Hid (GOwn encW 111 (y25.setCell ⟨y21.heap.size, 2, none⟩ (.bool fl)) (wx1.heap.size) (.slice pa2 l2.length pc2) l2) := own_set GO205.out (a := ⟨y21.heap.size, 2, none⟩) (fun g hg => (by have := EOW.out g hg; show y21.heap.size ≠ g; omega)) _
    have BE206 : Hid (Bx (y25.setCell ⟨y21.heap.size, 2, none⟩ (.bool fl)) (y21.heap.size) [.string s1, .string s2, .bool fl]) := BE205.out.set 2 _
    clear BE205 BR205 BX205 CR205 GO205 HB205 LR205 SB205 SZ205
    generalize (y25.setCell ⟨y21.heap.size, 2, none⟩ (.bool fl)) = y26 at *
    have ce0 := BE206.out.c0
    have ce1 := BE206.out.c1
    have ce2 := BE206.out.c2
    have cx := BX206.out.c5
    go_wp2_with (at_builtin; refine wpAppW rfl _ _ rfl (s1, s2, fl) rfl GO206.out rfl hll SB206.out ?_)
    clear cx ce0 ce1 ce2
    intro v' y28 ho hb'
    obtain ⟨pan, pcn, rfl, _⟩ := ho.row
    have ho' := ho
    clear ho
    obtain ⟨ln, hln⟩ : ∃ ln, ln = l2 ++ [(s1, s2, fl)] := ⟨_, rfl⟩
    rw [← hln] at ho' HMn HFn HLn ⊢
    clear hln
    have BR207 := hide (BR206.out.lowB hb' (by omega))
    have CR207 := hide (CR206.out.lowB hb' (by omega))
    have HB207 := hide (HB206.out.trans (hb'.mono (by omega)))
    have BX207 := hide (BX206.out.lowB hb' (by omega))
    have SZ207 := hide (Nat.le_trans SZ206.out hb'.size)
    have LR207 : Hid (Lies encR 109 y28 (v1.heap.size + 1) (wx1.heap.size) (.slice pa1 l1.length pc1) l1) := LR206.out.low hb' (Nat.le_refl _)
    have SB207 := hide (Nat.le_trans SB206.out hb'.size)
    have GO207 : Hid (GOwn encW 111 y28 (wx1.heap.size) (.slice pan ln.length pcn) ln) := ho'
    clear BR206 BX206 CR206 GO206 HB206 LR206 SB206 SZ206 ho' hb' BE206
    have cx := BX207.out.c5
    have fx := BX207.out.fz 5
    go_wp2
    clear cx fx
    have BR208 : Hid (Bx (y28.setCell ⟨v1.heap.size, 5, none⟩ (.slice pan ln.length pcn)) (w.heap.size) [.int .i64 0, .int .i64 0, .int .i64 0, .int .i64 0, .slice none 0 0, .slice none 0 0, .bool false, .string ⟨#[]⟩]) := BR207.out.setO (p := ⟨v1.heap.size, 5, none⟩) (by show v1.heap.size ≠ w.heap.size; omega) _
    have CR208 : Hid (Bx (y28.setCell ⟨v1.heap.size, 5, none⟩ (.slice pan ln.length pcn)) (w.heap.size + 1) [.string x, .int .i64 qq3, .bool cc3]) := CR207.out.setO (p := ⟨v1.heap.size, 5, none⟩) (by show v1.heap.size ≠ w.heap.size + 1; omega) _
    have HB208 : Hid (Below w.heap.size w (y28.setCell ⟨v1.heap.size, 5, none⟩ (.slice pan ln.length pcn))) := HB207.out.setCell (by show w.heap.size ≤ v1.heap.size; omega) _
    have BX208 : Hid (Bx (y28.setCell ⟨v1.heap.size, 5, none⟩ (.slice pan ln.length pcn)) (v1.heap.size) [.int .i64 (n1 : Int), .int .i64 (n2 : Int), .int .i64 (n3 : Int), .int .i64 (n4 : Int), .slice pa1 l1.length pc1, .slice pan ln.length pcn, .bool false, .string ⟨#[]⟩]) := BX207.out.set 5 _
    have SZ208 : Hid (v1.heap.size + 1 ≤ (y28.setCell ⟨v1.heap.size, 5, none⟩ (.slice pan ln.length pcn)).heap.size) := (by show _ ≤ _; simpa [World.setCell] using SZ207.out)
    have LR208 : Hid (Lies encR 109 (y28.setCell ⟨v1.heap.size, 5, none⟩ (.slice pan ln.length pcn)) (v1.heap.size + 1) (wx1.heap.size) (.slice pa1 l1.length pc1) l1) := LR207.out.setx (a := ⟨v1.heap.size, 5, none⟩) (fun g hg => by have := LR207.out.lo g hg; show v1.heap.size ≠ g; omega) _
    have SB208 : Hid (wx1.heap.size ≤ (y28.setCell ⟨v1.heap.size, 5, none⟩ (.slice pan ln.length pcn)).heap.size) := (by show _ ≤ _; simpa [World.setCell] using SB207.out)
    have GO208 : Hid (GOwn encW 111 (y28.setCell ⟨v1.heap.size, 5, none⟩ (.slice pan ln.length pcn)) (wx1.heap.size) (.slice pan ln.length pcn) ln) := GO207.out.set (a := ⟨v1.heap.size, 5, none⟩) (by show v1.heap.size < wx1.heap.size; omega) _
    clear BR207 BX207 CR207 GO207 HB207 LR207 SB207 SZ207
    go_roundw
    case rel => exact ⟨k2 + 1, ln, pan, pcn, qq3, cc3, by omega, by omega, by go_num, HLn, HFn, HMn, BR208, CR208, BX208, HB208, SZ208, GO208, LR208, SB208⟩
    case measure => simp [intOf]; omega
  obtain ⟨h1, h2, rfl⟩ := HCN1.out.1 rfl
  clear HCN1
  have hll : l1.length ≤ 100000000 := by have := HLen1.out; omega
  go_wp2_with fail
  refine (sshrt x (w.heap.size + 1) pp1 false hs _ CR.out).mono ?_
  rintro e y11 ⟨s1, qq1, cc1, rfl, hz1, hs1, hc, hg⟩
  have BR101 := hide (BR.out.grown hg (by omega))
  have HB101 := hide (HB.out.grown hg HB.out.size (fun j hj => by cases hj; omega))
  have BX101 := hide (BX.out.grown hg (by omega))
  have SZ101 := hide (Nat.le_trans SZ.out hg.size)
  have GO101 := hide (GO.out.keptG hg (by omega))
  have CR101 : Hid (Cr y11 (w.heap.size + 1) x qq1 cc1) := hc
  clear BR BX CR GO HB SZ hc hg
  have K1 := hide hs1
  clear hs1
  go_wp2_with fail
  have EOW : Hid (∀ g, (Value.slice pa1 l1.length pc1).ownBlock = some g → g < y11.heap.size) := fun g hg => (World.ownsRow.lt GO101.out g hg).2
  have hE0 : v1.heap.size + 1 ≤ y11.heap.size := SZ101.out
  have hb : Below y11.heap.size y11 (y11.alloc (.cells #[.string s1, .string ⟨#[]⟩] 109)) := (belowRefl _).alloc (Nat.le_refl _) _
  have BR102 := hide (BR101.out.below hb)
  have CR102 := hide (CR101.out.below hb)
  have HB102 := hide (HB101.out.trans (hb.mono HB101.out.size))
  have BX102 := hide (BX101.out.below hb)
  have SZ102 := hide (Nat.le_trans SZ101.out hb.size)
  have GO102 := hide (GO101.out.below hb)
  have BE102 : Hid (Bx (y11.alloc (.cells #[.string s1, .string ⟨#[]⟩] 109)) (y11.heap.size) [.string s1, .string ⟨#[]⟩]) := Bx.new y11 [.string s1, .string ⟨#[]⟩] 109
  clear BR101 BX101 CR101 GO101 HB101 SZ101 hb
  generalize (y11.alloc (.cells #[.string s1, .string ⟨#[]⟩] 109)) = y12 at *
  refine (sshrt x (w.heap.size + 1) qq1 cc1 hs _ CR102.out).mono ?_
  rintro e y13 ⟨s2, qq2, cc2, rfl, hz2, hs2, hc, hg⟩
  have BR103 := hide (BR102.out.grown hg (by omega))
  have HB103 := hide (HB102.out.grown hg HB102.out.size (fun j hj => by cases hj; omega))
  have BX103 := hide (BX102.out.grown hg (by omega))
  have SZ103 := hide (Nat.le_trans SZ102.out hg.size)
  have GO103 := hide (GO102.out.keptG hg (by omega))
  have BE103 := hide (BE102.out.grown hg (by omega))
  have CR103 : Hid (Cr y13 (w.heap.size + 1) x qq2 cc2) := hc
  clear BE102 BR102 BX102 CR102 GO102 HB102 SZ102 hc hg
  have K2 := hide hs2
  clear hs2
  have HMn := hide (HM1.out.rg K1.out K2.out)
  have HFn : Hid (RFit (l1 ++ [(s1, s2)])) := fun y hy => by
   rcases List.mem_append.1 hy with h | h
   ·exact HFit1.out y h
   ·rw [List.mem_singleton.1 h]; exact ⟨Nat.le_trans hz1 (by omega), Nat.le_trans hz2 (by omega)⟩
  have HLn : Hid ((l1 ++ [(s1, s2)]).length = k1 + 1) := by show _ = _; rw [List.length_append, HLen1.out]; rfl
  have c1 := BE103.out.c1
  have f1 := BE103.out.fz 1
  go_upto_region 12 with fail
  clear c1 f1
  have BR104 : Hid (Bx (y13.setCell ⟨y11.heap.size, 1, none⟩ (.string s2)) (w.heap.size) [.int .i64 0, .int .i64 0, .int .i64 0, .int .i64 0, .slice none 0 0, .slice none 0 0, .bool false, .string ⟨#[]⟩]) := BR103.out.setO (p := ⟨y11.heap.size, 1, none⟩) (by show y11.heap.size ≠ w.heap.size; omega) _
  have CR104 : Hid (Bx (y13.setCell ⟨y11.heap.size, 1, none⟩ (.string s2)) (w.heap.size + 1) [.string x, .int .i64 qq2, .bool cc2]) := CR103.out.setO (p := ⟨y11.heap.size, 1, none⟩) (by show y11.heap.size ≠ w.heap.size + 1; omega) _
  have HB104 : Hid (Below w.heap.size w (y13.setCell ⟨y11.heap.size, 1, none⟩ (.string s2))) := HB103.out.setCell (by show w.heap.size ≤ y11.heap.size; omega) _
  have BX104 : Hid (Bx (y13.setCell ⟨y11.heap.size, 1, none⟩ (.string s2)) (v1.heap.size) [.int .i64 (n1 : Int), .int .i64 (n2 : Int), .int .i64 (n3 : Int), .int .i64 (n4 : Int), .slice pa1 l1.length pc1, .slice none 0 0, .bool false, .string ⟨#[]⟩]) := BX103.out.setO (p := ⟨y11.heap.size, 1, none⟩) (by show y11.heap.size ≠ v1.heap.size; omega) _
  have SZ104 : Hid (v1.heap.size + 1 ≤ (y13.setCell ⟨y11.heap.size, 1, none⟩ (.string s2)).heap.size) := (by show _ ≤ _; simpa [World.setCell] using SZ103.out)
  have GO104 : Hid (GOwn encR 109 (y13.setCell ⟨y11.heap.size, 1, none⟩ (.string s2)) (v1.heap.size + 1) (.slice pa1 l1.length pc1) l1) := own_set GO103.out (a := ⟨y11.heap.size, 1, none⟩) (fun g hg => (by have := EOW.out g hg; show y11.heap.size ≠ g; omega)) _
  have BE104 : Hid (Bx (y13.setCell ⟨y11.heap.size, 1, none⟩ (.string s2)) (y11.heap.size) [.string s1, .string s2]) := BE103.out.set 1 _
  clear BE103 BR103 BX103 CR103 GO103 HB103 SZ103
  generalize (y13.setCell ⟨y11.heap.size, 1, none⟩ (.string s2)) = y16 at *
  have ce0 := BE104.out.c0
  have ce1 := BE104.out.c1
  have cx := BX104.out.c4
  go_wp2_with (at_builtin; refine wpAppR rfl _ _ rfl (s1, s2) rfl GO104.out rfl hll SZ104.out ?_)
  clear cx ce0 ce1
  intro v' y18 ho hb'
  obtain ⟨pan, pcn, rfl, _⟩ := ho.row
  have ho' := ho
  clear ho
  obtain ⟨ln, hln⟩ : ∃ ln, ln = l1 ++ [(s1, s2)] := ⟨_, rfl⟩
  rw [← hln] at ho' HMn HFn HLn ⊢
  clear hln
  have BR105 := hide (BR104.out.lowB hb' (by omega))
  have CR105 := hide (CR104.out.lowB hb' (by omega))
  have HB105 := hide (HB104.out.trans (hb'.mono (by omega)))
  have BX105 := hide (BX104.out.lowB hb' (by omega))
  have SZ105 := hide (Nat.le_trans SZ104.out hb'.size)
  have GO105 : Hid (GOwn encR 109 y18 (v1.heap.size + 1) (.slice pan ln.length pcn) ln) := ho'
  clear BR104 BX104 CR104 GO104 HB104 SZ104 ho' hb' BE104
  have cx := BX105.out.c4
  have fx := BX105.out.fz 4
  go_wp2
  clear cx fx
  have BR106 : Hid (Bx (y18.setCell ⟨v1.heap.size, 4, none⟩ (.slice pan ln.length pcn)) (w.heap.size) [.int .i64 0, .int .i64 0, .int .i64 0, .int .i64 0, .slice none 0 0, .slice none 0 0, .bool false, .string ⟨#[]⟩]) := BR105.out.setO (p := ⟨v1.heap.size, 4, none⟩) (by show v1.heap.size ≠ w.heap.size; omega) _
  have CR106 : Hid (Bx (y18.setCell ⟨v1.heap.size, 4, none⟩ (.slice pan ln.length pcn)) (w.heap.size + 1) [.string x, .int .i64 qq2, .bool cc2]) := CR105.out.setO (p := ⟨v1.heap.size, 4, none⟩) (by show v1.heap.size ≠ w.heap.size + 1; omega) _
  have HB106 : Hid (Below w.heap.size w (y18.setCell ⟨v1.heap.size, 4, none⟩ (.slice pan ln.length pcn))) := HB105.out.setCell (by show w.heap.size ≤ v1.heap.size; omega) _
  have BX106 : Hid (Bx (y18.setCell ⟨v1.heap.size, 4, none⟩ (.slice pan ln.length pcn)) (v1.heap.size) [.int .i64 (n1 : Int), .int .i64 (n2 : Int), .int .i64 (n3 : Int), .int .i64 (n4 : Int), .slice pan ln.length pcn, .slice none 0 0, .bool false, .string ⟨#[]⟩]) := BX105.out.set 4 _
  have SZ106 : Hid (v1.heap.size + 1 ≤ (y18.setCell ⟨v1.heap.size, 4, none⟩ (.slice pan ln.length pcn)).heap.size) := (by show _ ≤ _; simpa [World.setCell] using SZ105.out)
  have GO106 : Hid (GOwn encR 109 (y18.setCell ⟨v1.heap.size, 4, none⟩ (.slice pan ln.length pcn)) (v1.heap.size + 1) (.slice pan ln.length pcn) ln) := GO105.out.set (a := ⟨v1.heap.size, 4, none⟩) (by show v1.heap.size < v1.heap.size + 1; omega) _
  clear BR105 BX105 CR105 GO105 HB105 SZ105
  go_roundw
  case rel => exact ⟨k1 + 1, ln, pan, pcn, qq2, cc2, by omega, by omega, by go_num, HLn, HFn, HMn, BR106, CR106, BX106, HB106, SZ106, GO106⟩
  case measure => simp [intOf]; omega
end Go.Proofs.YtpnnncfbodfnhaaGreatDoor
