/- One element more in an owned row, and which block has grown. -/
import Derived.Test.YtbajpnbodhhmjaaH1
namespace Go.Proofs.Ytbajpnbodhhmjaa
open Go.RowKit
open KM
theorem wpAppK {ops : Array Oper} {rest : List Oper} {o : Oper} {a : Act} {Q : Exit → Act → World → Prop} {α : Type} {E : Enc α} (T e bytes : Nat) (z : Value) (hT : Try.prog.underlying T = some (.slice e))
    (hinfo : (Try.prog.info? e).map (fun i => (i.zero, i.size, i.bytes)) = some (some z, E.size, bytes)) (hzs : z.cells.size = E.size) (hby : bytes ≤ 128)
    (hgd : o.guard = none) (s x : Operand) (ho : o.op = .call { callee := .builtin .append, args := #[s, x], argTypes := #[T, T] })
    {W : World} {base g : Nat} {v : Value} {xs : List α} (y : α) (h1 : ∀ u ∈ E.enc y, u.oneCell' = true)
    (hs : a.eval s = v) (hown : GOwn E e W base v xs) (hx : a.eval x = .slice (some ⟨g, 0, none⟩) 1 1) (hblk : W.heap[g]? = some (.cells (E.enc y).toArray e (0, 0)))
    (hlen : xs.length ≤ 100000000) (hB : base ≤ W.heap.size)
    (h : ∀ g' cap w', GOwn E e w' base (.slice (some ⟨g', 0, none⟩) (xs.length + 1) cap) (xs ++ [y]) → W.grownBy w' v.ownBlock → (v.ownBlock = some g' ∨ g' = W.heap.size) → g' < w'.heap.size → wpList Try.prog ops Q rest (a.put o.dst (.slice (some ⟨g', 0, none⟩) (xs.length + 1) cap)) w') :
    wpList Try.prog ops Q (o :: rest) a W := by
  obtain ⟨i0, hi, hz0, hz1, hz2⟩ := info_parts hinfo
  refine wpList_append_lies _ hgd s x T ho base e i0 z E.size bytes hT hi hz0 hz1 hz2 hzs E.pos v xs.length (E.cells xs) hs hown ⟨g, 0, none⟩ 1 1 (E.enc y) hx (by rw [E.len, Nat.one_mul]) ?_ h1 (by omega) (by unfold maxLen; omega) ?_ hB _ rfl ?_
  · intro j u hj
    rw [Addr.add_lit, Nat.zero_add, World.cell?, hblk]
    simpa using hj
  · calc (xs.length + 1) * bytes ≤ 100000001 * 128 := Nat.mul_le_mul (by omega) hby
      _ ≤ _ := by omega
  · intro g' cap w' k1 k2 k3 k4
    refine h g' cap w' ?_ k2 k3 k4
    have e : E.cells (xs ++ [y]) = E.cells xs ++ E.enc y := by rw [E.cells_app]; simp [Enc.cells]
    unfold GOwn
    rw [e, List.length_append]
    exact k1

end Go.Proofs.Ytbajpnbodhhmjaa
