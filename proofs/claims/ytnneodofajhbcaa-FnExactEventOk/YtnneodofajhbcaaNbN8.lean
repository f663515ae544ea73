/- Those of a list that are in one of some states: slices.Contains over numbers, inState. -/
import Derived.Test.YtnneodofajhbcaaNbN7
import Derived.Test.YtnneodofajhbcaaKL4
namespace Go.Proofs.Ytnneodofajhbcaa
open Go.RowKit
open KM
attribute [local go_sem ↓] Go.wp_at_zero Go.wp_at_succ

/-- x is one of ss -/
def inS (ss : List Int) (x : Int) : Bool := ss.any fun s => decide (x = s)
def NoIn (ss : List Int) (x : Int) (k : Nat) : Prop := ∀ j (hj : j < ss.length), j < k → ¬ x = ss[j]
theorem inS_yes {ss : List Int} {x : Int} (k : Nat) (hk : k < ss.length) (h : x = ss[k]) : inS ss x = true := List.any_eq_true.2 ⟨_, List.getElem_mem hk, by simpa using h⟩
theorem inS_no {ss : List Int} {x : Int} {k : Nat} (h : NoIn ss x k) (hk : ss.length ≤ k) : inS ss x = false := by
  unfold inS
  rw [List.any_eq_false]
  intro s hs
  obtain ⟨j, hj, rfl⟩ := List.getElem_of_mem hs
  simpa using h j hj (by omega)
theorem noI_more {ss : List Int} {x : Int} {k : Nat} (h : NoIn ss x k) (hk : k < ss.length) (h2 : ¬ x = ss[k]) : NoIn ss x (k + 1) := fun j hj hjk => by
  by_cases e : j = k
  · subst e; exact h2
  · exact h j hj (by omega)

/-- one more of a greater make -/
theorem wpAppG8 {ops : Array Oper} {rest : List Oper} {o : Oper} {a : Act} {Q : Exit → Act → World → Prop} (T e size bytes : Nat) (z : Value) (hT : Try.prog.underlying T = some (.slice e))
    (hinfo : (Try.prog.info? e).map (fun i => (i.zero, i.size, i.bytes)) = some (some z, size, bytes)) (hzs : z.cells.size = size) (hsz : 0 < size) (hby : bytes ≤ 128)
    (hgd : o.guard = none) (s x : Operand) (ho : o.op = .call { callee := .builtin .append, args := #[s, x], argTypes := #[T, T] })
    {W : World} {base g n : Nat} {v : Value} {xs : List Value} (news : List Value)
    (hs : a.eval s = v) (hown : W.ownsRow base e size v n xs) (hx : a.eval x = .slice (some ⟨g, 0, none⟩) 1 1) (hblk : W.heap[g]? = some (.cells news.toArray e (0, 0)))
    (hl : news.length = size) (h1 : ∀ u ∈ news, u.oneCell' = true) (hlen : n ≤ 100000000) (hB : base ≤ W.heap.size)
    (h : ∀ g' cap w', w'.ownsRow base e size (.slice (some ⟨g', 0, none⟩) (n + 1) cap) (n + 1) (xs ++ news) → Below base W w' → wpList Try.prog ops Q rest (a.put o.dst (.slice (some ⟨g', 0, none⟩) (n + 1) cap)) w') :
    wpList Try.prog ops Q (o :: rest) a W := by
  obtain ⟨i0, hi, hz0, hz1, hz2⟩ := info_parts hinfo
  refine wpList_append_lies _ hgd s x T ho base e i0 z size bytes hT hi hz0 hz1 hz2 hzs hsz v n xs hs hown ⟨g, 0, none⟩ 1 1 news hx (by omega) ?_ h1 (by omega) (by unfold maxLen; omega) ?_ hB _ rfl ?_
  · intro j u hj
    rw [Addr.add_lit, Nat.zero_add, World.cell?, hblk]
    simpa using hj
  · calc (n + 1) * bytes ≤ 100000001 * 128 := Nat.mul_le_mul (by omega) hby
      _ ≤ _ := by omega
  · intro g' cap w' h1 h2 _ _
    exact h g' cap w' h1 ((Below.refl _ _).grown h2 hB (fun j hj => (World.ownsRow.lt hown j hj).1))
theorem wpAppT {ops : Array Oper} {rest : List Oper} {o : Oper} {a : Act} {Q : Exit → Act → World → Prop} (hgd : o.guard = none) (s x : Operand) (ho : o.op = .call { callee := .builtin .append, args := #[s, x], argTypes := #[32, 32] })
    {W : World} {base : Nat} {v : Value} {xs : List Ta} (y : Ta) (hs : a.eval s = v) (hown : GOwn encT 68 W base v xs)
    (hx : a.eval x = .slice (some ⟨W.heap.size, 0, none⟩) 1 1) (hlen : xs.length ≤ 100000000) (hB : base ≤ W.heap.size)
    (h : ∀ v' w', GOwn encT 68 w' base v' (xs ++ [y]) → Below base W w' → wpList Try.prog ops Q rest (a.put o.dst v') w') :
    wpList Try.prog ops Q (o :: rest) a (W.alloc (.cells #[.int .i64 y.t.id, .int .i64 y.t.st, .int .i64 y.t.snap, .int .i64 y.t.cs, .slice y.ra y.t.rs.length y.rc, .slice y.wa y.t.ws.length y.wc, .bool y.t.out, .string y.t.nm] 68)) := by
  refine wpAppG8 32 68 8 104 _ Try.underlying32 Try.info68 rfl (by omega) (by omega) hgd s x ho (encT.enc y) hs (World.ownsRow.alloc hown _) hx (heap_alloc_new W _) rfl tone (by omega) (by simp; omega) ?_
  intro g' cap w' h1 h2
  refine h _ w' ?_ (((Below.refl _ _).alloc hB _).trans h2)
  have e : encT.cells (xs ++ [y]) = encT.cells xs ++ encT.enc y := by rw [encT.cells_app]; simp [Enc.cells]
  unfold GOwn
  rw [e, List.length_append]
  exact h1
/-- those of a list in one of some states -/
def inSt (ss : List Int) (x : Ta) : Bool := inS ss x.t.st
theorem txs_filter (p : Tx → Bool) (xs : List Ta) : txs (xs.filter fun x => p x.t) = (txs xs).filter p := by
  simp [txs, List.filter_map, Function.comp_def]

end Go.Proofs.Ytnneodofajhbcaa
