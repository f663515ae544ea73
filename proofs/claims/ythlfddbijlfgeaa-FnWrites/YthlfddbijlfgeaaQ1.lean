/- Copying elements of several cells; a row with one element put in. -/
import Derived.Test.YthlfddbijlfgeaaP1
import Derived.Laws.CopyRow
import Derived.Lib.Overlaps
import Derived.Lib.AppendZerosOnto
namespace Go.Proofs.Ythlfddbijlfgeaa
open Go.RowKit
open KM

section
variable {P : Program}
theorem run_copyK (w : World) (dT sT ty elem : TypeId) (g o dLen dCap : Nat) (a : Addr) (sLen sCap sz : Nat) (cur : Array Value) (t : TypeId) (cs : List Value)
    (hu : P.underlying dT = some (.slice elem)) (hs : (P.info? elem).map (·.size) = some sz)
    (hg : w.heap[g]? = some (.cells cur t (0, 0))) (hn : cs.length = Nat.min sLen dLen * sz)
    (hsrc : ∀ j v, cs[j]? = some v → w.cell? (a.add j) = some v) (hfit : o + cs.length ≤ cur.size) (h1 : ∀ v ∈ cs, v.oneCell' = true) :
    (Builtin.copy_ #[dT, sT] ty #[.slice (some ⟨g, o, none⟩) dLen dCap, .slice (some a) sLen sCap]).run P w =
      .ok (goInt (Nat.min sLen dLen)) (w.setRow g (cur.toList.take o ++ cs ++ cur.toList.drop (o + cs.length)).toArray) := by
  have hl := run_loadCells_list (P := P) w a cs hsrc
  have hst := run_storeCells_at P g o t cs 0 cur w hg (by simpa using hfit) h1
  cases hq : P.info? elem with
  | none => simp [hq] at hs
  | some i =>
    have hi : i.size = sz := by simpa [hq] using hs
    simp [Builtin.copy_, run_underlying hu, Builtin.lenOf, Builtin.firstCells, sizeOf, typeInfo, hq, hi, ← hn, hl, hst]

theorem wpList_copyK (w : World) {ops : Array Oper} {rest : List Oper} {o : Oper} {a : Act} {Q : Exit → Act → World → Prop} (hgd : o.guard = none) (d s : Operand) (t t' : TypeId)
    (ho : o.op = .call { callee := .builtin .copy, args := #[d, s], argTypes := #[t, t'] }) (v u : Value) (hd : a.eval d = v) (hs : a.eval s = u) {v' : Value} {w' : World}
    (hr : (Builtin.copy_ #[t, t'] o.type #[v, u]).run P w = .ok v' w') (h : wpList P ops Q rest (a.put o.dst v') w') : wpList P ops Q (o :: rest) a w :=
  wpList_plain hgd fun K hK => by
    unfold Oper.wp execOp
    simp only [ho, resolve, invoke, builtin, Sem.run_bind, Sem.run_pure, Result.andThen_ok, List.map_toArray, List.map_cons, List.map_nil, hd, hs, hr]
    exact hK _ _ h

theorem step_copyK {ops : Array Oper} {o : Oper} {a : Act} {w : World} {K : Act → World → Prop} {Q : Exit → Act → World → Prop} {E : Prop}
    (hg : o.guard = none) (d x : Operand) (dT sT : TypeId) (hop : o.op = Op.call { callee := Callee.builtin Builtin.copy, args := #[d, x], argTypes := #[dT, sT] })
    (v u : Value) (hd : a.eval d = v) (hx : a.eval x = u) {v' : Value} {w' : World} (hr : (Builtin.copy_ #[dT, sT] o.type #[v, u]).run P w = .ok v' w') (hK : K (a.put o.dst v') w') :
    if Region.wanted o (yielded ops a.tmps) = true then Oper.wp P o a w K Q else E := by
  have hw : Region.wanted o (yielded ops a.tmps) = true := by simp [Region.wanted, hg]
  rw [if_pos hw]
  unfold Oper.wp
  simp [execOp, hop, resolve, invoke, builtin, hd, hx, hr, Result.andThen]
  exact hK
end

/-- x put at the place i -/
def insAt (xs : List Wt) (i : Nat) (x : Wt) : List Wt := xs.take i ++ [x] ++ xs.drop i
theorem insAt_len (xs : List Wt) (i : Nat) (x : Wt) : (insAt xs i x).length = xs.length + 1 := by
  unfold insAt
  simp only [List.length_append, List.length_take, List.length_drop, List.length_cons, List.length_nil]
  omega
theorem cells_ins (xs : List Wt) (i : Nat) (x : Wt) : encW.cells (insAt xs i x) = encW.cells (xs.take i) ++ encW.enc x ++ encW.cells (xs.drop i) := by
  unfold insAt
  rw [encW.cells_app, encW.cells_app]
  simp [Enc.cells]
theorem cells_take (xs : List Wt) (i : Nat) (h : i ≤ xs.length) : (encW.cells xs).take (i * 3) = encW.cells (xs.take i) := by
  have e : encW.cells xs = encW.cells (xs.take i) ++ encW.cells (xs.drop i) := by rw [← encW.cells_app, List.take_append_drop]
  rw [e, List.take_left']
  rw [encW.cells_len, List.length_take, Nat.min_eq_left h]
  rfl
theorem cells_drop (xs : List Wt) (i : Nat) (h : i ≤ xs.length) : (encW.cells xs).drop (i * 3) = encW.cells (xs.drop i) := by
  have e : encW.cells xs = encW.cells (xs.take i) ++ encW.cells (xs.drop i) := by rw [← encW.cells_app, List.take_append_drop]
  rw [e, List.drop_left']
  rw [encW.cells_len, List.length_take, Nat.min_eq_left h]
  rfl
theorem cells_one (xs : List Wt) : ∀ u ∈ encW.cells xs, u.oneCell' = true := by
  intro u hu
  obtain ⟨x, _, hx⟩ := List.mem_flatMap.1 hu
  exact wone u hx

/-- the row behind the second copy -/
theorem row_put (cur : List Value) (xs : List Wt) (x : Wt) (i cap : Nat) (hi : i ≤ xs.length) (hc : cur.length = cap * 3) (hroom : xs.length + 1 ≤ cap) (ht : cur.take (xs.length * 3) = encW.cells xs) :
    let r1 := cur.take ((i + 1) * 3) ++ encW.cells (xs.drop i) ++ cur.drop ((i + 1) * 3 + (encW.cells (xs.drop i)).length)
    let r2 := r1.take (i * 3) ++ encW.enc x ++ r1.drop (i * 3 + (encW.enc x).length)
    r2.length = cap * 3 ∧ r2.take ((xs.length + 1) * 3) = encW.cells (insAt xs i x) := by
  have hdl : (encW.cells (xs.drop i)).length = (xs.length - i) * 3 := by rw [encW.cells_len, List.length_drop]; rfl
  have hxl : (encW.enc x).length = 3 := rfl
  have hA : (cur.take ((i + 1) * 3)).take (i * 3) = encW.cells (xs.take i) := by
    rw [List.take_take, Nat.min_eq_left (by omega), ← cells_take xs i hi, ← ht, List.take_take, Nat.min_eq_left (by omega)]
  have hAl : (encW.cells (xs.take i)).length = i * 3 := by rw [encW.cells_len, List.length_take, Nat.min_eq_left hi]; rfl
  have hl1 : (cur.take ((i + 1) * 3)).length = (i + 1) * 3 := by rw [List.length_take]; omega
  intro r1 r2
  have e1 : r1.take (i * 3) = encW.cells (xs.take i) := by
    show List.take _ (_ ++ _ ++ _) = _
    rw [List.append_assoc, List.take_append_of_le_length (by omega), hA]
  have e2 : r1.drop (i * 3 + 3) = encW.cells (xs.drop i) ++ cur.drop ((i + 1) * 3 + (encW.cells (xs.drop i)).length) := by
    show List.drop _ (_ ++ _ ++ _) = _
    rw [List.append_assoc, List.drop_left' (by omega)]
  have e3 : r2 = encW.cells (xs.take i) ++ encW.enc x ++ (encW.cells (xs.drop i) ++ cur.drop ((i + 1) * 3 + (encW.cells (xs.drop i)).length)) := by
    show r1.take (i * 3) ++ encW.enc x ++ r1.drop (i * 3 + 3) = _
    rw [e1, e2]
  rw [e3, cells_ins]
  constructor
  · simp only [List.length_append, List.length_drop, hdl, hxl, hAl, hc]
    omega
  · rw [← List.append_assoc, List.take_left']
    simp only [List.length_append, hdl, hxl, hAl]
    omega
end Go.Proofs.Ythlfddbijlfgeaa
