/- What slices.Insert does of one write. -/
import Derived.Test.YthlfddbijlfgeaaQ1
import Derived.Laws.Externs
namespace Go.Proofs.Ythlfddbijlfgeaa
open Go.RowKit
open KM
attribute [local go_sem ↓] Go.wp_at_zero Go.wp_at_succ

/-- block vb is the one write x -/
def OneW (w : World) (vb : Nat) (x : Wt) : Prop := w.heap[vb]? = some (.cells #[.string x.1, .string x.2.1, .bool x.2.2] 34 (0, 0))

/-- one write more, out of block vb -/
theorem wpAppV {ops : Array Oper} {rest : List Oper} {o : Oper} {a : Act} {Q : Exit → Act → World → Prop} (hgd : o.guard = none) (s x : Operand) (ho : o.op = .call { callee := .builtin .append, args := #[s, x], argTypes := #[30, 30] })
    {W : World} {base : Nat} {v : Value} {xs : List Wt} (y : Wt) (vb : Nat) (hs : a.eval s = v) (hown : GOwn encW 34 W base v xs)
    (hx : a.eval x = .slice (some ⟨vb, 0, none⟩) 1 1) (hblk : OneW W vb y) (hlen : xs.length ≤ 100000000) (hB : base ≤ W.heap.size)
    (h : ∀ v' w', GOwn encW 34 w' base v' (xs ++ [y]) → Below base W w' → wpList Try.prog ops Q rest (a.put o.dst v') w') :
    wpList Try.prog ops Q (o :: rest) a W := by
  refine wpAppG 30 34 3 40 _ Try.underlying30 Try.info34 rfl (by omega) (by omega) hgd s x ho (encW.enc y) hs hown hx hblk rfl wone (by omega) hB ?_
  intro g' cap w' h1 h2
  refine h _ w' ?_ h2
  have e : encW.cells (xs ++ [y]) = encW.cells xs ++ encW.enc y := by rw [encW.cells_app]; simp [Enc.cells]
  unfold GOwn
  rw [e, List.length_append]
  exact h1

set_option maxRecDepth 100000 in
set_option maxHeartbeats 2000000 in
/-- at the end -/
theorem insEnd (xs : List Wt) (x : Wt) (a : Option Addr) (c vb base : Nat) (hn : xs.length ≤ 1000000) (w : World) (hown : GOwn encW 34 w base (.slice a xs.length c) xs) (hb : base ≤ w.heap.size) (hx : OneW w vb x) :
    Calls Try.prog 61 #[.slice a xs.length c, .int .i64 (xs.length : Int), .slice (some ⟨vb, 0, none⟩) 1 1] w fun e w' => ∃ a1 c1, e = .returned (.slice a1 (insAt xs xs.length x).length c1) ∧ GOwn encW 34 w' base (.slice a1 (insAt xs xs.length x).length c1) (insAt xs xs.length x) ∧ Below base w w' := by
  have HO : Hid (GOwn encW 34 w base (.slice a xs.length c) xs) := hown
  have HX : Hid (OneW w vb x) := hx
  obtain ⟨ys, hys⟩ : ∃ ys, ys = xs ++ [x] := ⟨_, rfl⟩
  have hI : insAt xs xs.length x = ys := by rw [hys]; unfold insAt; simp
  rw [hI]
  have HY : Hid (ys = xs ++ [x]) := hys
  clear hown hx hI hys
  have HAP : Hid (∀ {ops : Array Oper} {rest : List Oper} {o : Oper} {a' : Act} {Q : Exit → Act → World → Prop} (_ : o.guard = none) (s x' : Operand) (_ : o.op = .call { callee := .builtin .append, args := #[s, x'], argTypes := #[30, 30] })
      (_ : a'.eval s = .slice a xs.length c) (_ : a'.eval x' = .slice (some ⟨vb, 0, none⟩) 1 1)
      (_ : ∀ v' w', GOwn encW 34 w' base v' ys → Below base w w' → wpList Try.prog ops Q rest (a'.put o.dst v') w'), wpList Try.prog ops Q (o :: rest) a' w) := by
    show ∀ {ops : Array Oper} {rest : List Oper} {o : Oper} {a' : Act} {Q : Exit → Act → World → Prop} (_ : o.guard = none) (s x' : Operand) (_ : o.op = .call { callee := .builtin .append, args := #[s, x'], argTypes := #[30, 30] })
      (_ : a'.eval s = .slice a xs.length c) (_ : a'.eval x' = .slice (some ⟨vb, 0, none⟩) 1 1)
      (_ : ∀ v' w', GOwn encW 34 w' base v' ys → Below base w w' → wpList Try.prog ops Q rest (a'.put o.dst v') w'), wpList Try.prog ops Q (o :: rest) a' w
    rw [HY.out]
    intro ops rest o a' Q h1 s x' h2 h3 h4 h5
    exact wpAppV h1 s x' h2 x vb h3 HO.out h4 HX.out (by omega) hb h5
  rcases HO.out.2 with ⟨hv, h0⟩ | ⟨g, cap, cur, hv, hg, hh, hnc, hcp, hcs, htake⟩
  · simp only [Value.slice.injEq] at hv
    obtain ⟨rfl, h1, rfl⟩ := hv
    clear h1
    rw [h0] at HAP
    rw [h0]
    go_enter Try.func61, Try.ntmps61
    go_wp2_with (at_builtin; refine HAP.out rfl _ _ rfl rfl rfl ?_)
    intro v' w' h1 h2
    obtain ⟨a1, c1, rfl, _⟩ := h1.row
    have HG : Hid (GOwn encW 34 w' base (.slice a1 ys.length c1) ys) := h1
    have HB : Hid (Below base w w') := h2
    clear h1 h2
    go_wp2
    go_ret
    exact ⟨a1, c1, rfl, HG.out, HB.out⟩
  · simp only [Value.slice.injEq] at hv
    obtain ⟨rfl, -, rfl⟩ := hv
    clear hh htake hcs
    unfold maxLen at hcp
    have hnn : (0 : Int) ≤ (xs.length : Int) := by omega
    have hnc' : (xs.length : Int) ≤ (c : Int) := by omega
    by_cases hcc : c = xs.length
    · go_enter Try.func61, Try.ntmps61
      go_wp2_with (at_builtin; refine HAP.out rfl _ _ rfl rfl rfl ?_)
      intro v' w' h1 h2
      obtain ⟨a1, c1, rfl, _⟩ := h1.row
      have HG : Hid (GOwn encW 34 w' base (.slice a1 ys.length c1) ys) := h1
      have HB : Hid (Below base w w') := h2
      clear h1 h2
      go_wp2
      go_ret
      exact ⟨a1, c1, rfl, HG.out, HB.out⟩
    · go_enter Try.func61, Try.ntmps61
      go_wp2_with (at_builtin; refine HAP.out rfl _ _ rfl rfl rfl ?_)
      intro v' w' h1 h2
      obtain ⟨a1, c1, rfl, _⟩ := h1.row
      have HG : Hid (GOwn encW 34 w' base (.slice a1 ys.length c1) ys) := h1
      have HB : Hid (Below base w w') := h2
      clear h1 h2
      go_wp2
      go_ret
      exact ⟨a1, c1, rfl, HG.out, HB.out⟩
end Go.Proofs.Ythlfddbijlfgeaa
