/- Several disks at once: which of them stay where one is marked. -/
import Derived.Test.YtnfkecefkkdedaaB1
import Derived.Test.YtnfkecefkkdedaaC1
namespace Go.Proofs.Ytnfkecefkkdedaa
open Go.RowKit
open DM

/-- boxes: each a struct of two cells -/
def Bxs (w : World) (L : List (Nat × Value × Value)) : Prop := ∀ q ∈ L, Bx w q.1 q.2.1 q.2.2
theorem Bxs.nil (w : World) : Bxs w [] := fun q h => by cases h
theorem Bxs.keep {w w' : World} {L : List (Nat × Value × Value)} (h : Bxs w L) (hb : Below w.heap.size w w') : Bxs w' L := fun q hq => (h q hq).keep hb (h q hq).lt
theorem Bxs.new {w : World} {L : List (Nat × Value × Value)} (h : Bxs w L) (x y : Value) (t : TypeId) : Bxs (w.alloc (.cells #[x, y] t)) ((w.heap.size, x, y) :: L) := fun q hq => by
  rcases List.mem_cons.1 hq with rfl | hq
  · exact Bx.new w x y t
  · exact (h q hq).alloc _
theorem Bxs.hd {w : World} {b : Nat} {x y : Value} {L : List (Nat × Value × Value)} (h : Bxs w ((b, x, y) :: L)) : Bx w b x y := h (b, x, y) (List.mem_cons_self ..)
theorem Bxs.tl {w : World} {q : Nat × Value × Value} {L : List (Nat × Value × Value)} (h : Bxs w (q :: L)) : Bxs w L := fun p hp => h p (List.mem_cons_of_mem _ hp)
theorem Bxs.drew {w : World} {L : List (Nat × Value × Value)} (h : Bxs w L) : Bxs w.drew L := fun q hq => (h q hq).drew
theorem Bxs.kept2 {w w' : World} {L : List (Nat × Value × Value)} {v1 v2 : Value} (h : Bxs w L) (k : Kept2 w w' v1 v2) (lo hi : Nat) (h1 : ∀ k, v1.ownBlock = some k → lo ≤ k ∧ k < hi) (h2 : ∀ k, v2.ownBlock = some k → lo ≤ k ∧ k < hi) (hL : ∀ q ∈ L, q.1 < lo ∨ hi ≤ q.1) : Bxs w' L := fun q hq => by
  have b := h q hq
  have e := k.block q.1 b.lt (fun e => by have := h1 _ e.symm; rcases hL q hq with h | h <;> omega) (fun e => by have := h2 _ e.symm; rcases hL q hq with h | h <;> omega)
  exact ⟨(World.cell?_of_block (w := w) (a := ⟨q.1, 0, none⟩) e).trans b.c0, (World.cell?_of_block (w := w) (a := ⟨q.1, 1, none⟩) e).trans b.c1, fun j => (World.frozen?_of_block (w := w) (a := ⟨q.1, j, none⟩) e).trans (b.fz j), Nat.lt_of_lt_of_le b.lt k.size⟩

/-- a disk of one's own whose memory lies between two marks -/
structure DR (w : World) (lo hi : Nat) (a1 : Option Addr) (c1 : Nat) (a2 : Option Addr) (c2 : Nat) (ss : List ByteArray) (ps : List Wr) : Prop where
  d : DOwn w lo a1 c1 a2 c2 ss ps
  u1 : ∀ k, (Value.slice a1 ss.length c1).ownBlock = some k → lo ≤ k ∧ k < hi
  u2 : ∀ k, (Value.slice a2 ps.length c2).ownBlock = some k → lo ≤ k ∧ k < hi
theorem DOwn.dr {w : World} {lo : Nat} {a1 a2 : Option Addr} {c1 c2 : Nat} {ss : List ByteArray} {ps : List Wr} (h : DOwn w lo a1 c1 a2 c2 ss ps) : DR w lo w.heap.size a1 c1 a2 c2 ss ps :=
  ⟨h, World.ownsRow.lt h.s, World.ownsRow.lt h.p⟩
theorem DR.keep {w w' : World} {lo hi : Nat} {a1 a2 : Option Addr} {c1 c2 : Nat} {ss : List ByteArray} {ps : List Wr} (h : DR w lo hi a1 c1 a2 c2 ss ps) (hb : Below w.heap.size w w') : DR w' lo hi a1 c1 a2 c2 ss ps := ⟨h.d.below hb, h.u1, h.u2⟩
theorem DR.alloc {w : World} {lo hi : Nat} {a1 a2 : Option Addr} {c1 c2 : Nat} {ss : List ByteArray} {ps : List Wr} (h : DR w lo hi a1 c1 a2 c2 ss ps) (o : Obj) : DR (w.alloc o) lo hi a1 c1 a2 c2 ss ps := h.keep ((belowRefl w).alloc (Nat.le_refl _) o)
theorem DR.drew {w : World} {lo hi : Nat} {a1 a2 : Option Addr} {c1 c2 : Nat} {ss : List ByteArray} {ps : List Wr} (h : DR w lo hi a1 c1 a2 c2 ss ps) : DR w.drew lo hi a1 c1 a2 c2 ss ps := h.keep (belowRefl w).drew

theorem own_block {w w' : World} {b e s n : Nat} {v : Value} {xs : List Value} (h : w.ownsRow b e s v n xs) (hb : ∀ k, v.ownBlock = some k → w'.heap[k]? = w.heap[k]?) : w'.ownsRow b e s v n xs := by
  refine ⟨h.1, ?_⟩
  rcases h.2 with h1 | ⟨g, cap, cur, rfl, h2, h3, r⟩
  · exact Or.inl h1
  · exact Or.inr ⟨g, cap, cur, rfl, h2, (hb g rfl).trans h3, r⟩

theorem DR.kept2 {w w' : World} {lo hi lo' hi' : Nat} {a1 a2 : Option Addr} {c1 c2 : Nat} {ss : List ByteArray} {ps : List Wr} {v1 v2 : Value} (h : DR w lo' hi' a1 c1 a2 c2 ss ps) (k : Kept2 w w' v1 v2)
    (h1 : ∀ k, v1.ownBlock = some k → lo ≤ k ∧ k < hi) (h2 : ∀ k, v2.ownBlock = some k → lo ≤ k ∧ k < hi) (ha : hi' ≤ lo ∨ hi ≤ lo') : DR w' lo' hi' a1 c1 a2 c2 ss ps := by
  refine ⟨⟨own_block h.d.s fun j hj => ?_, own_block h.d.p fun j hj => ?_⟩, h.u1, h.u2⟩
  · have q := h.u1 j hj
    exact k.block j (World.ownsRow.lt h.d.s j hj).2 (fun e => by have := h1 _ e.symm; omega) (fun e => by have := h2 _ e.symm; omega)
  · have q := h.u2 j hj
    exact k.block j (World.ownsRow.lt h.d.p j hj).2 (fun e => by have := h1 _ e.symm; omega) (fun e => by have := h2 _ e.symm; omega)
end Go.Proofs.Ytnfkecefkkdedaa
