/- Drawn rows of writes and of ranges; what DrawInRange, DrawTouches, DrawMeets, DrawRangeOk and DrawKeyOk make. -/
import Derived.Test.YtjieojfcmigcdaaDw
namespace Go.Proofs.Ytjieojfcmigcdaa
open Go.RowKit
open KM
attribute [local go_sem ↓] Go.wp_at_zero Go.wp_at_succ

/-- one range more -/
theorem wpAppR {ops : Array Oper} {rest : List Oper} {o : Oper} {a : Act} {Q : Exit → Act → World → Prop} (hgd : o.guard = none) (s x : Operand) (ho : o.op = .call { callee := .builtin .append, args := #[s, x], argTypes := #[91, 91] })
    {W : World} {base : Nat} {v : Value} {xs : List Rg} (y : Rg) (hs : a.eval s = v) (hown : GOwn encR 98 W base v xs)
    (hx : a.eval x = .slice (some ⟨W.heap.size, 0, none⟩) 1 1) (hlen : xs.length ≤ 100000000) (hB : base ≤ W.heap.size)
    (h : ∀ v' w', GOwn encR 98 w' base v' (xs ++ [y]) → Below base W w' → wpList Try.prog ops Q rest (a.put o.dst v') w') :
    wpList Try.prog ops Q (o :: rest) a (W.alloc (.cells #[.string y.1, .string y.2] 98)) := by
  refine wpAppG 91 98 2 32 _ Try.underlying91 Try.info98 rfl (by omega) (by omega) hgd s x ho (encR.enc y) hs (World.ownsRow.alloc hown _) hx (heap_alloc_new W _) rfl rone (by omega) (by simp; omega) ?_
  intro g' cap w' h1 h2
  refine h _ w' ?_ (((Below.refl _ _).alloc hB _).trans h2)
  have e : encR.cells (xs ++ [y]) = encR.cells xs ++ encR.enc y := by rw [encR.cells_app]; simp [Enc.cells]
  unfold GOwn
  rw [e, List.length_append]
  exact h1

/-- right ranges -/
def RsD (xs : List Rg) : Prop := ∀ x ∈ xs, RgD x
theorem RsD.fit {xs : List Rg} (h : RsD xs) : RFit xs := fun x hx => ⟨by have := (h x hx).1.2; omega, by have := (h x hx).2.1.2; omega⟩

end Go.Proofs.Ytjieojfcmigcdaa
