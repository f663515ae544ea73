/- Memory that is marked, and what stays; markTxn, heldTxn. -/
import Derived.Test.YtnneodofajhbcaaVMr
import Derived.Test.YtnneodofajhbcaaA3
namespace Go.Proofs.Ytnneodofajhbcaa
open Go.RowKit
open KM
attribute [local go_sem ↓] Go.wp_at_zero Go.wp_at_succ

/-- all but the blocks lo .. hi is as it was -/
structure Zn (lo hi : Nat) (w w' : World) : Prop where
  os : w'.os = w.os
  tape : w'.tape = w.tape
  output : w'.output = w.output
  size : w.heap.size ≤ w'.heap.size
  block : ∀ j, j < w.heap.size → (j < lo ∨ hi ≤ j) → w'.heap[j]? = w.heap[j]?
theorem Zn.trans {lo hi : Nat} {a b c : World} (h : Zn lo hi a b) (k : Zn lo hi b c) : Zn lo hi a c :=
  ⟨k.os.trans h.os, k.tape.trans h.tape, k.output.trans h.output, Nat.le_trans h.size k.size, fun j hj hn => (k.block j (Nat.lt_of_lt_of_le hj h.size) hn).trans (h.block j hj hn)⟩
theorem Zn.ofBelow (lo hi : Nat) {w w' : World} (h : Below w.heap.size w w') : Zn lo hi w w' := ⟨h.os, h.tape, h.output, h.size, fun j hj _ => h.block j hj⟩
theorem Zn.ofGrown {lo hi : Nat} {w w' : World} {row : Option Nat} (h : w.grownBy w' row) (hr : ∀ g, row = some g → lo ≤ g ∧ g < hi) : Zn lo hi w w' :=
  ⟨h.os, h.tape, h.output, h.size, fun j hj hn => h.block j hj (fun e => by have := hr j e.symm; omega)⟩
theorem Zn.below {lo hi base : Nat} {w w' : World} (h : Zn lo hi w w') (hb : base ≤ lo) (hs : base ≤ w.heap.size) : Below base w w' :=
  ⟨h.os, h.tape, h.output, h.size, fun j hj => h.block j (by omega) (Or.inl (by omega))⟩
theorem Bx.zn {lo hi b : Nat} {w w' : World} {cs : List Value} (h : Bx w b cs) (hg : Zn lo hi w w') (hne : b < lo ∨ hi ≤ b) : Bx w' b cs := by
  have hb := hg.block b h.lt hne
  refine ⟨Nat.lt_of_lt_of_le h.lt hg.size, fun j hj => (World.cell?_of_block (w := w) (a := ⟨b, j, none⟩) hb).trans (h.at' j hj), fun j => ?_⟩
  have := h.fz j
  unfold World.frozen? at this ⊢
  simp only at this ⊢
  rw [hb]; exact this
theorem Lies.zn {α : Type} {E : Enc α} {e : TypeId} {w w' : World} {l h' lo hi : Nat} {v : Value} {xs : List α} (h : Lies E e w l h' v xs) (hz : Zn lo hi w w') (hne : h' ≤ lo ∨ hi ≤ l) : Lies E e w' l h' v xs := by
  refine ⟨?_, h.up⟩
  obtain ⟨h1, h2⟩ := h.own
  refine ⟨h1, ?_⟩
  rcases h2 with h2 | ⟨g, cap, cur, hv, hg', hh, r⟩
  · exact Or.inl h2
  · refine Or.inr ⟨g, cap, cur, hv, hg', ?_, r⟩
    have hlt : g < w.heap.size := (Array.getElem?_eq_some_iff.1 hh).1
    have hup := h.up g (by rw [hv]; rfl)
    rw [hz.block g hlt (by omega)]
    exact hh
theorem TLie.zn {w w' : World} {l h' lo hi : Nat} {t : Tx} {ra wa : Option Addr} {rc wc : Nat} (h : TLie w l h' t ra rc wa wc) (hz : Zn lo hi w w') (hne : h' ≤ lo ∨ hi ≤ l) : TLie w' l h' t ra rc wa wc := by
  obtain ⟨m, p, q, h1, h2⟩ := h.ex
  exact ⟨m, p, q, h1.zn hz (by omega), h2.zn hz (by omega)⟩
/-- its marks -/
def mkT (t : Tx) (k : Nat) : Tx := ⟨t.id, t.st, t.snap, t.cs, mkR k t.rs.length, mkW (k + 2 * t.rs.length) t.ws.length, t.out, t.nm⟩

end Go.Proofs.Ytnneodofajhbcaa
