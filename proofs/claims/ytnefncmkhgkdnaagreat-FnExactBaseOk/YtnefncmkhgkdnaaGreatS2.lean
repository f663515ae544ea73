/- What numbersFrom does. -/
import Derived.Test.YtnefncmkhgkdnaaGreatKL5
import Derived.Test.YtnefncmkhgkdnaaGreatShelfS
import Derived.Sort.OwnSortedInts
namespace Go.Proofs.YtnefncmkhgkdnaaGreat
open Go.RowKit
open KM
open Go.Sort
attribute [local go_sem ↓] Go.wp_at_zero Go.wp_at_succ

theorem cellsI (zs : List Int) : encI.cells zs = zs.map (Value.int .i64) := by
  induction zs with
  | nil => rfl
  | cons k ks ih =>
    have e : encI.cells (k :: ks) = .int .i64 k :: encI.cells ks := rfl
    rw [e, ih, List.map_cons]
/-- numbers, sorted -/
def sortI (zs : List Int) : List Int := zs.mergeSort fun x y => decide (x ≤ y)
theorem sortI_len (zs : List Int) : (sortI zs).length = zs.length := by simp [sortI]
theorem sort89 (zs : List Int) (base : Nat) (v : Value) (w : World) (hn : zs.length ≤ 100000000) (hown : GOwn encI 3 w base v zs) :
    Calls Tryz.prog 69 #[v] w fun e w' => e = .returned (.tuple #[]) ∧ GOwn encI 3 w' base v (sortI zs) ∧ Below base w w' := by
  have h0 := hown
  rcases hown.2 with ⟨rfl, hz⟩ | ⟨g, cap, cur, rfl, hbase, hb, h1, h2, h3, h4⟩
  · refine (Tryz.slices_Sort_int_none none 0 w).mono ?_
    rintro e w' ⟨rfl, rfl⟩
    have e : zs = [] := List.length_eq_zero_iff.1 hz
    subst e
    exact ⟨rfl, by simpa [sortI] using h0, Below.refl _ _⟩
  · have h4' : cur.toList.take zs.length = zs.map (Value.int .i64) := by
      have e : encI.size = 1 := rfl
      rw [e, Nat.mul_one] at h4
      rw [h4, cellsI]
    have hg : g < w.heap.size := (Array.getElem?_eq_some_iff.1 hb).1
    refine (Tryz.slices_Sort_int g 0 cap zs w (holds_of_blockI hb h4') hg (by omega)).mono ?_
    rintro e w' ⟨rfl, n, os, rfl⟩
    refine ⟨rfl, ?_, grown_base (grownBy_sortedI _) hbase hg⟩
    have ho := ownsRow_sortedI (n := n) (os := os) (ts := zs.mergeSort fun x y => decide (x ≤ y)) (ss := zs) (by simp) hbase hb h1 h2 h3
    unfold GOwn
    rw [sortI_len, cellsI]
    exact ho

/-- the numbers above s -/
def numF (s : Int) (l : List Vr) : List Int := (l.map (·.2.2.2)).filter fun z => decide (s < z)
theorem numF_yes {s : Int} {l : List Vr} {j : Nat} (h : j < l.length) (hs : s < l[j].2.2.2) : numF s (l.take (j + 1)) = numF s (l.take j) ++ [l[j].2.2.2] := by
  unfold numF
  rw [List.take_succ_eq_append_getElem h, List.map_append, List.filter_append]
  simp [hs]
theorem numF_no {s : Int} {l : List Vr} {j : Nat} (h : j < l.length) (hs : ¬ s < l[j].2.2.2) : numF s (l.take (j + 1)) = numF s (l.take j) := by
  unfold numF
  rw [List.take_succ_eq_append_getElem h, List.map_append, List.filter_append]
  simp [hs]
theorem numF_len (s : Int) (l : List Vr) : (numF s l).length ≤ l.length := by
  unfold numF
  exact Nat.le_trans (List.length_filter_le _ _) (by rw [List.length_map]; exact Nat.le_refl _)
theorem numF_mem {s : Int} {l : List Vr} {z : Int} : z ∈ numF s l ↔ s < z ∧ ∃ v ∈ l, v.2.2.2 = z := by
  unfold numF
  rw [List.mem_filter, List.mem_map, decide_eq_true_eq]
  exact And.comm

/-- one number more, wherever it lies -/
theorem wpAppXI {ops : Array Oper} {rest : List Oper} {o : Oper} {a : Act} {Q : Exit → Act → World → Prop} (hgd : o.guard = none) (s x : Operand) (ho : o.op = .call { callee := .builtin .append, args := #[s, x], argTypes := #[41, 41] })
    {W : World} {base g : Nat} {v : Value} {xs : List Int} (y : Int) (hs : a.eval s = v) (hown : GOwn encI 3 W base v xs)
    (hx : a.eval x = .slice (some ⟨g, 0, none⟩) 1 1) (hblk : W.heap[g]? = some (.cells (encI.enc y).toArray 3 (0, 0))) (hlen : xs.length ≤ 100000000) (hB : base ≤ W.heap.size)
    (h : ∀ v' w', GOwn encI 3 w' base v' (xs ++ [y]) → Below base W w' → wpList Tryz.prog ops Q rest (a.put o.dst v') w') :
    wpList Tryz.prog ops Q (o :: rest) a W := by
  refine wpAppG 41 3 1 8 _ Tryz.underlying41 Tryz.info3 rfl (by omega) (by omega) hgd s x ho (encI.enc y) hs hown hx hblk rfl oneI (by omega) hB ?_
  intro g' cap w' h1 h2
  refine h _ w' ?_ h2
  have e : encI.cells (xs ++ [y]) = encI.cells xs ++ encI.enc y := by rw [encI.cells_app]; simp [Enc.cells]
  unfold GOwn
  rw [e, List.length_append]
  exact h1
/-- the numbers after k lists -/
def numK (s : Int) (xs ys : List Vr) (k : Nat) : List Int := if k = 0 then [s] else if k = 1 then [s] ++ numF s xs else [s] ++ numF s xs ++ numF s ys

end Go.Proofs.YtnefncmkhgkdnaaGreat
