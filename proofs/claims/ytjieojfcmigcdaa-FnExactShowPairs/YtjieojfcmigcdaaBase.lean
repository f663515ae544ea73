/- Rows of elements of whatever make that a call owns or reads. -/
import Derived.Test.YtjieojfcmigcdaaK2
import Derived.Deep.AppendLies
namespace Go.Proofs.Ytjieojfcmigcdaa
open Go.RowKit

/-- how an element lies in its cells -/
structure Enc (α : Type) where
  enc : α → List Value
  size : Nat
  pos : 0 < size
  len : ∀ x, (enc x).length = size
namespace Enc
variable {α : Type} (E : Enc α)
def cells (xs : List α) : List Value := xs.flatMap E.enc
theorem cells_len : ∀ xs : List α, (E.cells xs).length = xs.length * E.size
  | [] => by simp [cells]
  | x :: xs => by
    have := cells_len xs
    simp only [cells, List.flatMap_cons, List.length_append, List.length_cons, E.len] at this ⊢
    rw [this, Nat.succ_mul]; omega
theorem cells_app (a b : List α) : E.cells (a ++ b) = E.cells a ++ E.cells b := by simp [cells]
theorem cells_at : ∀ (xs : List α) (j : Nat) (h : j < xs.length) (i : Nat), i < E.size → (E.cells xs)[j * E.size + i]? = (E.enc xs[j])[i]?
  | x :: xs, 0, _, i, hi => by
    simp only [cells, List.flatMap_cons, Nat.zero_mul, Nat.zero_add, List.getElem_cons_zero]
    rw [List.getElem?_append_left (by rw [E.len]; exact hi)]
  | x :: xs, j + 1, h, i, hi => by
    have ih := cells_at xs j (by simpa using h) i hi
    simp only [cells, List.flatMap_cons, List.getElem_cons_succ]
    rw [List.getElem?_append_right (by rw [E.len, Nat.succ_mul]; omega), E.len, show (j + 1) * E.size + i - E.size = j * E.size + i by rw [Nat.succ_mul]; omega]
    exact ih
end Enc

section
variable {α : Type} (E : Enc α)
/-- elements that are read -/
def GRow (w : World) (a : Option Addr) (xs : List α) : Prop :=
  0 < xs.length → ∃ b off, a = some ⟨b, off, none⟩ ∧ b < w.heap.size ∧ ∀ j (hj : j < xs.length) i, i < E.size → w.cell? ⟨b, off + j * E.size + i, none⟩ = (E.enc xs[j])[i]?
/-- the slice v owns the elements xs, of type e -/
def GOwn (e : TypeId) (w : World) (base : Nat) (v : Value) (xs : List α) : Prop := w.ownsRow base e E.size v xs.length (E.cells xs)
end

section
variable {α : Type} {E : Enc α} {e : TypeId}
theorem GRow.below {w w' : World} {a : Option Addr} {xs : List α} (h : GRow E w a xs) (hb : Below w.heap.size w w') : GRow E w' a xs := fun h0 => by
  obtain ⟨b, off, rfl, hlt, hc⟩ := h h0
  exact ⟨b, off, rfl, Nat.lt_of_lt_of_le hlt hb.size, fun j hj i hi => (hb.cell (p := ⟨b, off + j * E.size + i, none⟩) hlt).trans (hc j hj i hi)⟩
theorem GRow.nil (w : World) (a : Option Addr) : GRow E w a [] := fun h => by simp at h
theorem GRow.drew {w : World} {a : Option Addr} {xs : List α} (h : GRow E w a xs) : GRow E w.drew a xs := h

theorem ownsBelow {w w' : World} {base e size n : Nat} {v : Value} {xs : List Value} (h : w.ownsRow base e size v n xs) (hb : Below w.heap.size w w') : w'.ownsRow base e size v n xs := by
  obtain ⟨h1, h2⟩ := h
  refine ⟨h1, ?_⟩
  rcases h2 with h2 | ⟨g, cap, cur, hv, hg, hh, r⟩
  · exact Or.inl h2
  · refine Or.inr ⟨g, cap, cur, hv, hg, ?_, r⟩
    have hlt : g < w.heap.size := by
      by_cases hz : g < w.heap.size
      · exact hz
      · rw [Array.getElem?_eq_none (by omega)] at hh
        cases hh
    rw [hb.block g hlt]; exact hh
theorem ownsMono {w : World} {base base' e size n : Nat} {v : Value} {xs : List Value} (h : w.ownsRow base e size v n xs) (hb : base' ≤ base) : w.ownsRow base' e size v n xs := by
  refine ⟨h.1, ?_⟩
  rcases h.2 with h1 | ⟨g, cap, cur, h1, h2, h3⟩
  · exact Or.inl h1
  · exact Or.inr ⟨g, cap, cur, h1, Nat.le_trans hb h2, h3⟩
theorem GOwn.below {w w' : World} {base : Nat} {v : Value} {l : List α} (h : GOwn E e w base v l) (hb : Below w.heap.size w w') : GOwn E e w' base v l := ownsBelow h hb
theorem GOwn.mono {w : World} {base base' : Nat} {v : Value} {l : List α} (h : GOwn E e w base v l) (hb : base' ≤ base) : GOwn E e w base' v l := ownsMono h hb
theorem GOwn.nil (w : World) (base : Nat) : GOwn E e w base (.slice none 0 0) [] := World.ownsRow_nil _ _ _ _
theorem GOwn.empty (w : World) (base : Nat) (hb : base ≤ w.heap.size) : GOwn E e (w.alloc (.cells #[] e)) base (.slice (some ⟨w.heap.size, 0, none⟩) 0 0) [] :=
  World.ownsRow_lit (size := E.size) w #[] 0 hb (by unfold maxLen; omega) (by simp)
theorem GOwn.alloc {w : World} {base : Nat} {v : Value} {l : List α} (h : GOwn E e w base v l) (o : Obj) : GOwn E e (w.alloc o) base v l := World.ownsRow.alloc h o
theorem GOwn.set {w : World} {base : Nat} {v : Value} {l : List α} (h : GOwn E e w base v l) {a : Addr} (ha : a.block < base) (u : Value) : GOwn E e (w.setCell a u) base v l := ownsRow_setCell_below h ha u
theorem GOwn.drew {w : World} {base : Nat} {v : Value} {l : List α} (h : GOwn E e w base v l) : GOwn E e w.drew base v l := h

/-- what is owned can be read -/
theorem GOwn.row {w : World} {base : Nat} {v : Value} {l : List α} (h : GOwn E e w base v l) : ∃ ao cap, v = .slice ao l.length cap ∧ GRow E w ao l := by
  have h0 := h
  rcases h.2 with ⟨rfl, h1⟩ | ⟨g, cap, cur, rfl, hg, hh, hnc, hcp, hcs, htake⟩
  · exact ⟨none, 0, by rw [h1], fun h => by omega⟩
  · refine ⟨_, cap, rfl, fun _ => ⟨g, 0, rfl, (World.ownsRow.lt h0 g rfl).2, fun j hj i hi => ?_⟩⟩
    have hlt : j * E.size + i < l.length * E.size := by
      have h1 : (j + 1) * E.size ≤ l.length * E.size := Nat.mul_le_mul_right _ hj
      rw [Nat.succ_mul] at h1; omega
    rw [Nat.zero_add, World.ownsRow.cellAt h0 (j * E.size + i) hlt]
    exact E.cells_at l j hj i hi
theorem GOwn.grow {w : World} {base : Nat} {a : Option Addr} {c : Nat} {l : List α} (h : GOwn E e w base (.slice a l.length c) l) : GRow E w a l := by
  obtain ⟨ao, cap, hv, hr⟩ := h.row
  cases hv
  exact hr

theorem gown_of {w : World} {base g n : Nat} {cs : List Value} {xs : List α} (hn : n = xs.length) (h : w.ownsRow base e E.size (.slice (some ⟨g, 0, none⟩) n n) n cs) (hx : ∀ j, j < n * E.size → cs[j]? = (E.cells xs)[j]?) : GOwn E e w base (.slice (some ⟨g, 0, none⟩) xs.length n) xs := by
  have e' : cs = E.cells xs := by
    apply List.ext_getElem?
    intro j
    by_cases hj : j < n * E.size
    · exact hx j hj
    · rw [List.getElem?_eq_none (by have := h.1; omega), List.getElem?_eq_none (by rw [E.cells_len, ← hn]; omega)]
  subst hn
  rw [e'] at h
  exact h
end

theorem mkRow (T e size bytes : Nat) (z : Value) (hT : Try.prog.underlying T = some (.slice e))
    (hinfo : (Try.prog.info? e).map (fun i => (i.zero, i.size, i.bytes)) = some (some z, size, bytes)) (n : Nat) (hn : n ≤ 100000000) (hby : bytes ≤ 64) (w : World) :
    (Instr.makeSlice T (.int .i64 (n : Int)) (.int .i64 (n : Int))).run Try.prog w = .ok (.slice (some ⟨w.heap.size, 0, none⟩) n n) (w.alloc (.cells (madeCells z.cells (n * size)) e)) := by
  obtain ⟨i0, hi, hz0, hz1, hz2⟩ := info_parts hinfo
  have hb : (bytes : Int) * (n : Int) ≤ 281474976710656 := by
    have h : bytes * n ≤ 64 * 100000000 := Nat.mul_le_mul hby hn
    have h2 : ((bytes * n : Nat) : Int) ≤ 281474976710656 := by omega
    rwa [Int.natCast_mul] at h2
  have h := run_make (P := Try.prog) w T e i0 z hT hi hz0 .i64 .i64 n n (by omega) (Int.le_refl _) (by rw [hz2]; exact hb) (by omega)
  rw [hz1] at h
  simpa using h

/-- one element more, at the list of operations -/
theorem wpAppG {ops : Array Oper} {rest : List Oper} {o : Oper} {a : Act} {Q : Exit → Act → World → Prop} (T e size bytes : Nat) (z : Value) (hT : Try.prog.underlying T = some (.slice e))
    (hinfo : (Try.prog.info? e).map (fun i => (i.zero, i.size, i.bytes)) = some (some z, size, bytes)) (hzs : z.cells.size = size) (hsz : 0 < size) (hby : bytes ≤ 64)
    (hgd : o.guard = none) (s x : Operand) (ho : o.op = .call { callee := .builtin .append, args := #[s, x], argTypes := #[T, T] })
    {W : World} {base g n : Nat} {v : Value} {xs : List Value} (news : List Value)
    (hs : a.eval s = v) (hown : W.ownsRow base e size v n xs) (hx : a.eval x = .slice (some ⟨g, 0, none⟩) 1 1) (hblk : W.heap[g]? = some (.cells news.toArray e (0, 0)))
    (hl : news.length = size) (h1 : ∀ u ∈ news, u.oneCell' = true) (hlen : n ≤ 100000000) (hB : base ≤ W.heap.size)
    (h : ∀ g' cap w', w'.ownsRow base e size (.slice (some ⟨g', 0, none⟩) (n + 1) cap) (n + 1) (xs ++ news) → Below base W w' → wpList Try.prog ops Q rest (a.put o.dst (.slice (some ⟨g', 0, none⟩) (n + 1) cap)) w') :
    wpList Try.prog ops Q (o :: rest) a W := by
  obtain ⟨i0, hi, hz0, hz1, hz2⟩ := info_parts hinfo
  refine wpList_append_lies _ hgd s x T ho base e i0 z size bytes hT hi hz0 hz1 hz2 hzs hsz v n xs hs hown ⟨g, 0, none⟩ 1 1 news hx (by omega) ?_ h1 (by omega) (by unfold maxLen; omega) ?_ hB _ rfl ?_
  · intro j u hj
    rw [Addr.add_lit, Nat.zero_add, World.cell?, hblk]
    simpa using hj
  · calc (n + 1) * bytes ≤ 100000001 * 64 := Nat.mul_le_mul (by omega) hby
      _ ≤ _ := by omega
  · intro g' cap w' h1 h2 _ _
    exact h g' cap w' h1 ((Below.refl _ _).grown h2 hB (fun j hj => (World.ownsRow.lt hown j hj).1))
end Go.Proofs.Ytjieojfcmigcdaa
