/- Rows of sectors as bytes: what a write changes. -/
import Derived.Test.YtnfkecefkkdedaaC1
import Derived.Lib.BufferWrite
import Derived.Deep.MidRow
namespace Go.Proofs.Ytnfkecefkkdedaa
open Go.RowKit
open DM

/-- the cells of sectors -/
def flatC (rows : List (List UInt8)) : List Value := rows.flatMap bv
/-- every sector has 64 bytes -/
def All64 (rows : List (List UInt8)) : Prop := ∀ r ∈ rows, r.length = 64
theorem flatC_len : ∀ rows : List (List UInt8), All64 rows → (flatC rows).length = rows.length * 64
  | [], _ => rfl
  | r :: rows, h => by
    have h1 := flatC_len rows (fun q hq => h q (List.mem_cons_of_mem _ hq))
    have h2 := h r (List.mem_cons_self ..)
    have e : flatC (r :: rows) = bv r ++ flatC rows := rfl
    rw [e, List.length_append, h1, bv_len, h2, List.length_cons]
    omega
theorem flatC_app (a b : List (List UInt8)) : flatC (a ++ b) = flatC a ++ flatC b := by simp [flatC]
theorem flatC_one (r : List UInt8) : flatC [r] = bv r := by simp [flatC]

/-- a row whose first bytes are others -/
def putL (r : List UInt8) (t : ByteArray) : List UInt8 := t.data.toList ++ r.drop t.size
theorem putL_len (r : List UInt8) (t : ByteArray) (hr : r.length = 64) (ht : t.size ≤ 64) : (putL r t).length = 64 := by
  have e : t.data.toList.length = t.size := by simp
  simp only [putL, List.length_append, List.length_drop, e]
  omega
theorem All64.set {rows : List (List UInt8)} (h : All64 rows) (i : Nat) {r : List UInt8} (hr : r.length = 64) : All64 (rows.set i r) := fun q hq => by
  rcases List.mem_or_eq_of_mem_set hq with h1 | h1
  · exact h q h1
  · rw [h1]; exact hr

theorem split_at (rows : List (List UInt8)) (i : Nat) (h : i < rows.length) : rows = rows.take i ++ [rows[i]] ++ rows.drop (i + 1) := by
  rw [← List.take_succ_eq_append_getElem h, List.take_append_drop]
theorem set_split (rows : List (List UInt8)) (i : Nat) (h : i < rows.length) (r : List UInt8) : rows.set i r = rows.take i ++ [r] ++ rows.drop (i + 1) := by
  rw [List.set_eq_take_append_cons_drop, if_pos h]; simp

theorem splice {α : Type} (A R T D : List α) (a s : Nat) (hA : A.length = a) (hs : s ≤ R.length) : A ++ (T ++ (R.drop s ++ D)) = (A ++ (R ++ D)).take a ++ T ++ (A ++ (R ++ D)).drop (a + s) := by
  subst hA
  have e : (A ++ (R ++ D)).drop (A.length + s) = R.drop s ++ D := by
    rw [List.drop_append, List.drop_eq_nil_of_le (by omega), List.nil_append, show A.length + s - A.length = s by omega, List.drop_append_of_le_length hs]
  rw [e, List.take_left, List.append_assoc]
theorem take_splice {α : Type} (C B : List α) (o s n : Nat) (hB : B.length = s) (h : o + s ≤ n) (hn : n ≤ C.length) : (C.take o ++ B ++ C.drop (o + s)).take n = (C.take n).take o ++ B ++ (C.take n).drop (o + s) := by
  have hl : (C.take o ++ B).length = o + s := by
    rw [List.length_append, List.length_take, hB, Nat.min_eq_left (by omega)]
  rw [List.take_take, Nat.min_eq_left (by omega), List.drop_take, List.take_append, List.take_of_length_le (by omega), hl]

theorem flat_put (rows : List (List UInt8)) (h : All64 rows) (i : Nat) (hi : i < rows.length) (t : ByteArray) (ht : t.size ≤ 64) :
    flatC (rows.set i (putL rows[i] t)) = (flatC rows).take (i * 64) ++ bv t.data.toList ++ (flatC rows).drop (i * 64 + t.size) := by
  have hA : (flatC (rows.take i)).length = i * 64 := by
    rw [flatC_len _ (fun q hq => h q (List.mem_of_mem_take hq)), List.length_take]
    rw [Nat.min_eq_left (by omega)]
  have hr : rows[i].length = 64 := h _ (List.getElem_mem hi)
  have e1 : flatC rows = flatC (rows.take i) ++ (bv rows[i] ++ flatC (rows.drop (i + 1))) := by
    conv => lhs; rw [split_at rows i hi]
    rw [flatC_app, flatC_app, flatC_one, List.append_assoc]
  have e2 : flatC (rows.set i (putL rows[i] t)) = flatC (rows.take i) ++ (bv t.data.toList ++ (bv (rows[i].drop t.size) ++ flatC (rows.drop (i + 1)))) := by
    rw [set_split rows i hi, flatC_app, flatC_app, flatC_one, List.append_assoc]
    simp [putL, bv]
  rw [e2, e1]
  have hd : bv (rows[i].drop t.size) = (bv rows[i]).drop t.size := by simp [bv]
  rw [hd]
  exact splice _ _ _ _ _ _ hA (by rw [bv_len]; omega)

theorem flat_at (rows : List (List UInt8)) (h : All64 rows) (i : Nat) (hi : i < rows.length) (j : Nat) (hj : j < 64) : (flatC rows)[i * 64 + j]? = (bv rows[i])[j]? := by
  have hA : (flatC (rows.take i)).length = i * 64 := by
    rw [flatC_len _ (fun q hq => h q (List.mem_of_mem_take hq)), List.length_take]
    rw [Nat.min_eq_left (by omega)]
  have hr : rows[i].length = 64 := h _ (List.getElem_mem hi)
  have e1 : flatC rows = flatC (rows.take i) ++ (bv rows[i] ++ flatC (rows.drop (i + 1))) := by
    conv => lhs; rw [split_at rows i hi]
    rw [flatC_app, flatC_app, flatC_one, List.append_assoc]
  rw [e1, List.getElem?_append_right (by omega), hA, show i * 64 + j - i * 64 = j by omega, List.getElem?_append_left (by rw [bv_len]; omega)]

/-- the sectors' row, owned -/
def AOwn (w : World) (base : Nat) (v : Value) (rows : List (List UInt8)) : Prop := w.ownsRow base 101 64 v rows.length (flatC rows) ∧ All64 rows

theorem info5s : (Try.prog.info? 5).map (·.size) = some 1 := by kernel_rfl

/-- 'copy(sectors[i][:], text)' at a step of a region that draws its order -/
theorem stepPut {ops : Array Oper} {o : Oper} {a : Act} {K : Act → World → Prop} {Q : Exit → Act → World → Prop} {E : Prop}
    (hgd : o.guard = none) (d x : Operand) (ho : o.op = .call { callee := .builtin .copy, args := #[d, x], argTypes := #[22, 9] })
    {W : World} {base g c i : Nat} {rows : List (List UInt8)} {t : ByteArray}
    (hd : a.eval d = .slice (some ⟨g, i * 64, none⟩) 64 64) (hx : a.eval x = .string t) (hown : AOwn W base (.slice (some ⟨g, 0, none⟩) rows.length c) rows) (hi : i < rows.length) (ht : t.size ≤ 64)
    (h : ∀ w', AOwn w' base (.slice (some ⟨g, 0, none⟩) (rows.set i (putL rows[i] t)).length c) (rows.set i (putL rows[i] t)) → W.grownBy w' (some g) → K (a.put o.dst (goInt t.size)) w') :
    if Region.wanted o (yielded ops a.tmps) = true then Oper.wp Try.prog o a W K Q else E := by
  have hw : Region.wanted o (yielded ops a.tmps) = true := by simp [Region.wanted, hgd]
  rw [if_pos hw]
  obtain ⟨ho1, h64⟩ := hown
  rcases ho1.2 with ⟨hv, hn⟩ | ⟨g', cap, cur, hv, hbg, hg, hnc, hcm, hcs, htake⟩
  · omega
  cases hv
  have hfl := flatC_len rows h64
  have hmul : i * 64 + 64 ≤ rows.length * 64 := by
    have : (i + 1) * 64 ≤ rows.length * 64 := Nat.mul_le_mul_right 64 hi
    omega
  have hcap : rows.length * 64 ≤ c * 64 := Nat.mul_le_mul_right 64 hnc
  have hfit : i * 64 + t.size ≤ cur.size := by rw [hcs]; omega
  have hrun := Lib.run_copy_row_string (P := Try.prog) W 22 9 o.type 5 g (i * 64) 64 64 t cur 101 Try.underlying22 info5s hg ht hfit
  have hlen : (Lib.byteCells t.data.toList).length = t.size := by rw [Lib.byteCells_length]; simp
  have hbc : Lib.byteCells t.data.toList = bv t.data.toList := rfl
  unfold Oper.wp execOp
  simp only [ho, resolve, invoke, builtin, Sem.run_bind, Sem.run_pure, Result.andThen_ok, List.map_toArray, List.map_cons, List.map_nil, hd, hx, hrun]
  refine h _ ⟨⟨?_, .inr ⟨g, c, _, by rw [List.length_set], hbg, setRow_heap W g cur _ 101 _ hg, by rw [List.length_set]; exact hnc, hcm, ?_, ?_⟩⟩, h64.set i (putL_len _ t (h64 _ (List.getElem_mem hi)) ht)⟩ ⟨rfl, rfl, rfl, by simp, fun k _ hk => setRow_other W g k _ (fun e => hk (by simp [e]))⟩
  · rw [flatC_len _ (h64.set i (putL_len _ t (h64 _ (List.getElem_mem hi)) ht))]
  · simp only [List.size_toArray, List.length_append, List.length_take, List.length_drop, Array.length_toList, hlen]
    rw [Nat.min_eq_left (by omega)]
    omega
  · rw [flat_put rows h64 i hi t ht, ← htake, hbc]
    rw [List.length_set]
    exact take_splice _ _ _ _ _ (by rw [bv_len]; simp) (by omega) (by have e : cur.toList.length = cur.size := Array.length_toList; omega)
end Go.Proofs.Ytnfkecefkkdedaa
