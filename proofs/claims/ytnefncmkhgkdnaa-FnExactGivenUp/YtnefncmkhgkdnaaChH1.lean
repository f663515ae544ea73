/- One element more of each make of rows; sorting and compacting rows of texts. -/
import Derived.Sort.OwnSorted
import Derived.Lib.RowBridge
import Derived.Test.YtnefncmkhgkdnaaChVM
import Derived.Test.YtnefncmkhgkdnaaMc
namespace Go.Proofs.Ytnefncmkhgkdnaa
open Go.RowKit
open KM
open VM Go.Sort
attribute [local go_sem ↓] Go.wp_at_zero Go.wp_at_succ

theorem wpAppV {ops : Array Oper} {rest : List Oper} {o : Oper} {a : Act} {Q : Exit → Act → World → Prop} (hgd : o.guard = none) (s x : Operand) (ho : o.op = .call { callee := .builtin .append, args := #[s, x], argTypes := #[44, 44] })
    {W : World} {base : Nat} {v : Value} {xs : List Vr} (y : Vr) (hs : a.eval s = v) (hown : GOwn encV 116 W base v xs)
    (hx : a.eval x = .slice (some ⟨W.heap.size, 0, none⟩) 1 1) (hlen : xs.length ≤ 100000000) (hB : base ≤ W.heap.size)
    (h : ∀ v' w', GOwn encV 116 w' base v' (xs ++ [y]) → Below base W w' → wpList Try.prog ops Q rest (a.put o.dst v') w') :
    wpList Try.prog ops Q (o :: rest) a (W.alloc (.cells #[.string y.1, .string y.2.1, .bool y.2.2.1, .int .i64 y.2.2.2] 116)) := by
  refine wpAppG 44 116 4 48 _ Try.underlying44 Try.info116 rfl (by omega) (by omega) hgd s x ho (encV.enc y) hs (World.ownsRow.alloc hown _) hx (heapAllocNew W _ _) rfl oneV (by omega) (by simp; omega) ?_
  intro g' cap w' h1 h2
  refine h _ w' ?_ (((Below.refl _ _).alloc hB _).trans h2)
  have e : encV.cells (xs ++ [y]) = encV.cells xs ++ encV.enc y := by rw [encV.cells_app]; simp [Enc.cells]
  unfold GOwn
  rw [e, List.length_append]
  exact h1

theorem stepAppV {ops : Array Oper} {o : Oper} {a : Act} {K : Act → World → Prop} {Q : Exit → Act → World → Prop} {E : Prop} (hgd : o.guard = none) (s x : Operand) (ho : o.op = .call { callee := .builtin .append, args := #[s, x], argTypes := #[44, 44] })
    {W : World} {base g : Nat} {v : Value} {xs : List Vr} (y : Vr) (hs : a.eval s = v) (hown : GOwn encV 116 W base v xs)
    (hx : a.eval x = .slice (some ⟨g, 0, none⟩) 1 1) (hblk : W.heap[g]? = some (.cells (encV.enc y).toArray 116 (0, 0))) (hlen : xs.length ≤ 100000000) (hB : base ≤ W.heap.size)
    (h : ∀ v' w', GOwn encV 116 w' base v' (xs ++ [y]) → Below base W w' → K (a.put o.dst v') w') :
    if Region.wanted o (yielded ops a.tmps) = true then Oper.wp Try.prog o a W K Q else E := by
  refine stepAppG 44 116 4 48 _ Try.underlying44 Try.info116 rfl (by omega) (by omega) hgd s x ho (encV.enc y) hs hown hx hblk rfl oneV (by omega) hB ?_
  intro g' cap w' h1 h2
  refine h _ w' ?_ h2
  have e : encV.cells (xs ++ [y]) = encV.cells xs ++ encV.enc y := by rw [encV.cells_app]; simp [Enc.cells]
  unfold GOwn
  rw [e, List.length_append]
  exact h1

/-- one element more, and what else stays -/
theorem wpAppKV {ops : Array Oper} {rest : List Oper} {o : Oper} {a : Act} {Q : Exit → Act → World → Prop} (hgd : o.guard = none) (s x : Operand) (ho : o.op = .call { callee := .builtin .append, args := #[s, x], argTypes := #[44, 44] })
    {W : World} {base : Nat} {v : Value} {xs : List Vr} (y : Vr) (hs : a.eval s = v) (hown : GOwn encV 116 W base v xs)
    (hx : a.eval x = .slice (some ⟨W.heap.size, 0, none⟩) 1 1) (hlen : xs.length ≤ 100000000) (hB : base ≤ W.heap.size)
    (h : ∀ v' w', GOwn encV 116 w' base v' (xs ++ [y]) → Below base W w' → W.grownBy w' v.ownBlock → (v'.ownBlock = v.ownBlock ∨ ∃ g, v'.ownBlock = some g ∧ W.heap.size ≤ g) → wpList Try.prog ops Q rest (a.put o.dst v') w') :
    wpList Try.prog ops Q (o :: rest) a (W.alloc (.cells #[.string y.1, .string y.2.1, .bool y.2.2.1, .int .i64 y.2.2.2] 116)) := by
  obtain ⟨i0, hi, hz0, hz1, hz2⟩ := info_parts Try.info116
  have hown' : (W.alloc (.cells #[.string y.1, .string y.2.1, .bool y.2.2.1, .int .i64 y.2.2.2] 116)).ownsRow base 116 4 v xs.length (encV.cells xs) := World.ownsRow.alloc hown _
  have hal : W.grownBy (W.alloc (.cells #[.string y.1, .string y.2.1, .bool y.2.2.1, .int .i64 y.2.2.2] 116)) v.ownBlock := ⟨rfl, rfl, rfl, by simp, fun j hj _ => by
    unfold World.alloc; simp only [Array.getElem?_push]; rw [if_neg (by omega)]⟩
  refine wpList_append_lies _ hgd s x 44 ho base 116 i0 _ 4 48 Try.underlying44 hi hz0 hz1 hz2 rfl (by omega) v xs.length (encV.cells xs) hs hown' ⟨W.heap.size, 0, none⟩ 1 1 (encV.enc y) hx rfl ?_ oneV (by omega) (by unfold maxLen; omega) ?_ (by simp; omega) _ rfl ?_
  · intro j u hj
    rw [Addr.add_lit, Nat.zero_add, World.cell?, show (W.alloc (.cells #[.string y.1, .string y.2.1, .bool y.2.2.1, .int .i64 y.2.2.2] 116)).heap[W.heap.size]? = some (.cells (encV.enc y).toArray 116 (0, 0)) from heapAllocNew W _ _]
    simpa using hj
  · calc (xs.length + 1) * 48 ≤ 100000001 * 64 := Nat.mul_le_mul (by omega) (by omega)
      _ ≤ _ := by omega
  · intro g' cap w' h1 h2 h3 _
    have hb : Below base W w' := ((Below.refl _ _).alloc hB _).trans ((Below.refl _ _).grown h2 (by simp; omega) (fun j hj => (World.ownsRow.lt hown' j hj).1))
    refine h _ w' ?_ hb ⟨h2.os.trans hal.os, h2.tape.trans hal.tape, h2.output.trans hal.output, Nat.le_trans hal.size h2.size, fun j hj hne => (h2.block j (Nat.lt_of_lt_of_le hj hal.size) hne).trans (hal.block j hj hne)⟩ ?_
    · have e : encV.cells (xs ++ [y]) = encV.cells xs ++ encV.enc y := by rw [encV.cells_app]; simp [Enc.cells]
      unfold GOwn
      rw [e, List.length_append]
      exact h1
    · rcases h3 with h3 | h3
      · exact Or.inl h3.symm
      · exact Or.inr ⟨g', rfl, by rw [h3]; simp⟩

/-- the same at a step of a region, and what else stays -/
theorem stepAppKV {ops : Array Oper} {o : Oper} {a : Act} {K : Act → World → Prop} {Q : Exit → Act → World → Prop} {E : Prop} (hgd : o.guard = none) (s x : Operand) (ho : o.op = .call { callee := .builtin .append, args := #[s, x], argTypes := #[44, 44] })
    {W : World} {base g : Nat} {v : Value} {xs : List Vr} (y : Vr) (hs : a.eval s = v) (hown : GOwn encV 116 W base v xs)
    (hx : a.eval x = .slice (some ⟨g, 0, none⟩) 1 1) (hblk : W.heap[g]? = some (.cells (encV.enc y).toArray 116 (0, 0))) (hlen : xs.length ≤ 100000000) (hB : base ≤ W.heap.size)
    (h : ∀ v' w', GOwn encV 116 w' base v' (xs ++ [y]) → Below base W w' → W.grownBy w' v.ownBlock → K (a.put o.dst v') w') :
    if Region.wanted o (yielded ops a.tmps) = true then Oper.wp Try.prog o a W K Q else E := by
  obtain ⟨i0, hi, hz0, hz1, hz2⟩ := info_parts Try.info116
  refine step_append_lies _ hgd s x 44 ho base 116 i0 _ 4 48 Try.underlying44 hi hz0 hz1 hz2 rfl (by omega) v xs.length (encV.cells xs) hs hown ⟨g, 0, none⟩ 1 1 (encV.enc y) hx rfl ?_ oneV (by omega) (by unfold maxLen; omega) ?_ hB _ rfl ?_
  · intro j u hj
    rw [Addr.add_lit, Nat.zero_add, World.cell?, hblk]
    simpa using hj
  · calc (xs.length + 1) * 48 ≤ 100000001 * 64 := Nat.mul_le_mul (by omega) (by omega)
      _ ≤ _ := by omega
  · intro g' cap w' h1 h2 _ _
    refine h _ w' ?_ ((Below.refl _ _).grown h2 hB (fun j hj => (World.ownsRow.lt hown j hj).1)) h2
    have e : encV.cells (xs ++ [y]) = encV.cells xs ++ encV.enc y := by rw [encV.cells_app]; simp [Enc.cells]
    unfold GOwn
    rw [e, List.length_append]
    exact h1

theorem wpAppI {ops : Array Oper} {rest : List Oper} {o : Oper} {a : Act} {Q : Exit → Act → World → Prop} (hgd : o.guard = none) (s x : Operand) (ho : o.op = .call { callee := .builtin .append, args := #[s, x], argTypes := #[102, 102] })
    {W : World} {base : Nat} {v : Value} {xs : List Int} (y : Int) (hs : a.eval s = v) (hown : GOwn encI 3 W base v xs)
    (hx : a.eval x = .slice (some ⟨W.heap.size, 0, none⟩) 1 1) (hlen : xs.length ≤ 100000000) (hB : base ≤ W.heap.size)
    (h : ∀ v' w', GOwn encI 3 w' base v' (xs ++ [y]) → Below base W w' → wpList Try.prog ops Q rest (a.put o.dst v') w') :
    wpList Try.prog ops Q (o :: rest) a (W.alloc (.cells #[.int .i64 y] 3)) := by
  refine wpAppG 102 3 1 8 _ Try.underlying102 Try.info3 rfl (by omega) (by omega) hgd s x ho (encI.enc y) hs (World.ownsRow.alloc hown _) hx (heapAllocNew W _ _) rfl oneI (by omega) (by simp; omega) ?_
  intro g' cap w' h1 h2
  refine h _ w' ?_ (((Below.refl _ _).alloc hB _).trans h2)
  have e : encI.cells (xs ++ [y]) = encI.cells xs ++ encI.enc y := by rw [encI.cells_app]; simp [Enc.cells]
  unfold GOwn
  rw [e, List.length_append]
  exact h1

theorem stepAppI {ops : Array Oper} {o : Oper} {a : Act} {K : Act → World → Prop} {Q : Exit → Act → World → Prop} {E : Prop} (hgd : o.guard = none) (s x : Operand) (ho : o.op = .call { callee := .builtin .append, args := #[s, x], argTypes := #[102, 102] })
    {W : World} {base g : Nat} {v : Value} {xs : List Int} (y : Int) (hs : a.eval s = v) (hown : GOwn encI 3 W base v xs)
    (hx : a.eval x = .slice (some ⟨g, 0, none⟩) 1 1) (hblk : W.heap[g]? = some (.cells (encI.enc y).toArray 3 (0, 0))) (hlen : xs.length ≤ 100000000) (hB : base ≤ W.heap.size)
    (h : ∀ v' w', GOwn encI 3 w' base v' (xs ++ [y]) → Below base W w' → K (a.put o.dst v') w') :
    if Region.wanted o (yielded ops a.tmps) = true then Oper.wp Try.prog o a W K Q else E := by
  refine stepAppG 102 3 1 8 _ Try.underlying102 Try.info3 rfl (by omega) (by omega) hgd s x ho (encI.enc y) hs hown hx hblk rfl oneI (by omega) hB ?_
  intro g' cap w' h1 h2
  refine h _ w' ?_ h2
  have e : encI.cells (xs ++ [y]) = encI.cells xs ++ encI.enc y := by rw [encI.cells_app]; simp [Enc.cells]
  unfold GOwn
  rw [e, List.length_append]
  exact h1

end Go.Proofs.Ytnefncmkhgkdnaa
