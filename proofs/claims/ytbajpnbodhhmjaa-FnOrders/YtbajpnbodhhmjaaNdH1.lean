/- One element more of each make of rows; sorting and compacting rows of texts. -/
import Derived.Test.YtbajpnbodhhmjaaProg
import Derived.WalkKit
import Derived.Test.YtbajpnbodhhmjaaMath
import Derived.WalkSpells
import Derived.WalkLawsBesides
import Derived.Deep.QuietTactic
import Derived.BigQuiet
import Derived.Deep.RegionHeld3
import Derived.Deep.DrawnRows
import Derived.Test.YtbajpnbodhhmjaaK1
import Derived.Test.YtbajpnbodhhmjaaK2
import Derived.Deep.AppendLies
import Derived.Test.YtbajpnbodhhmjaaBase
import Derived.Test.YtbajpnbodhhmjaaEnc
import Derived.Test.YtbajpnbodhhmjaaR1
import Derived.Test.YtbajpnbodhhmjaaBx
import Derived.Sort.OwnSorted
import Derived.Lib.RowBridge
import Derived.Test.YtbajpnbodhhmjaaH1
namespace Go.Proofs.Ytbajpnbodhhmjaa
open Go.RowKit
open KM
open Go.Sort
attribute [local go_sem ↓] Go.wp_at_zero Go.wp_at_succ

theorem wpAppS {ops : Array Oper} {rest : List Oper} {o : Oper} {a : Act} {Q : Exit → Act → World → Prop} (hgd : o.guard = none) (s x : Operand) (ho : o.op = .call { callee := .builtin .append, args := #[s, x], argTypes := #[99, 99] })
    {W : World} {base : Nat} {v : Value} {xs : List ByteArray} (y : ByteArray) (hs : a.eval s = v) (hown : GOwn encS 9 W base v xs)
    (hx : a.eval x = .slice (some ⟨W.heap.size, 0, none⟩) 1 1) (hlen : xs.length ≤ 100000000) (hB : base ≤ W.heap.size)
    (h : ∀ v' w', GOwn encS 9 w' base v' (xs ++ [y]) → Below base W w' → wpList Try.prog ops Q rest (a.put o.dst v') w') :
    wpList Try.prog ops Q (o :: rest) a (W.alloc (.cells #[.string y] 9)) := by
  refine wpAppG 99 9 1 16 _ Try.underlying99 Try.info9 rfl (by omega) (by omega) hgd s x ho (encS.enc y) hs (World.ownsRow.alloc hown _) hx (heapAllocNew W _ _) rfl oneS (by omega) (by simp; omega) ?_
  intro g' cap w' h1 h2
  refine h _ w' ?_ (((Below.refl _ _).alloc hB _).trans h2)
  have e : encS.cells (xs ++ [y]) = encS.cells xs ++ encS.enc y := by rw [encS.cells_app]; simp [Enc.cells]
  unfold GOwn
  rw [e, List.length_append]
  exact h1

theorem stepAppS {ops : Array Oper} {o : Oper} {a : Act} {K : Act → World → Prop} {Q : Exit → Act → World → Prop} {E : Prop} (hgd : o.guard = none) (s x : Operand) (ho : o.op = .call { callee := .builtin .append, args := #[s, x], argTypes := #[99, 99] })
    {W : World} {base g : Nat} {v : Value} {xs : List ByteArray} (y : ByteArray) (hs : a.eval s = v) (hown : GOwn encS 9 W base v xs)
    (hx : a.eval x = .slice (some ⟨g, 0, none⟩) 1 1) (hblk : W.heap[g]? = some (.cells (encS.enc y).toArray 9 (0, 0))) (hlen : xs.length ≤ 100000000) (hB : base ≤ W.heap.size)
    (h : ∀ v' w', GOwn encS 9 w' base v' (xs ++ [y]) → Below base W w' → K (a.put o.dst v') w') :
    if Region.wanted o (yielded ops a.tmps) = true then Oper.wp Try.prog o a W K Q else E := by
  refine stepAppG 99 9 1 16 _ Try.underlying99 Try.info9 rfl (by omega) (by omega) hgd s x ho (encS.enc y) hs hown hx hblk rfl oneS (by omega) hB ?_
  intro g' cap w' h1 h2
  refine h _ w' ?_ h2
  have e : encS.cells (xs ++ [y]) = encS.cells xs ++ encS.enc y := by rw [encS.cells_app]; simp [Enc.cells]
  unfold GOwn
  rw [e, List.length_append]
  exact h1

end Go.Proofs.Ytbajpnbodhhmjaa
