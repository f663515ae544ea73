/- Rows of sectors as bytes: what a write changes. -/
import Derived.Test.YtnneodofajhbcaaPw13
import Derived.Lib.BufferWrite
import Derived.Deep.MidRow
namespace Go.Proofs.Ytnneodofajhbcaa
open Go.RowKit
open DM

def flatC (rows : List (List UInt8)) : List Value := rows.flatMap bv
def All64 (rows : List (List UInt8)) : Prop := ∀ r ∈ rows, r.length = 64
theorem flatC_len : ∀ rows : List (List UInt8), All64 rows → (flatC rows).length = rows.length * 64
  | [], _ => rfl
  | r :: rows, h => by
    have h1 := flatC_len rows (fun q hq => h q (List.mem_cons_of_mem _ hq))
    have h2 := h r (List.mem_cons_self ..)
    have e : flatC (r :: rows) = bv r ++ flatC rows := rfl
    rw [e, List.length_append, h1, bv_len, h2, List.length_cons]
    omega
theorem flatC_app (a b : List (List UInt8)) : flatC (a ++ b) = flatC a ++ flatC b := by simp [flatC]
theorem flatC_one (r : List UInt8) : flatC [r] = bv r := by simp [flatC]

def putL (r : List UInt8) (t : ByteArray) : List UInt8 := t.data.toList ++ r.drop t.size
theorem putL_len (r : List UInt8) (t : ByteArray) (hr : r.length = 64) (ht : t.size ≤ 64) : (putL r t).length = 64 := by
  have e : t.data.toList.length = t.size := by simp
  simp only [putL, List.length_append, List.length_drop, e]
  omega
theorem All64.set {rows : List (List UInt8)} (h : All64 rows) (i : Nat) {r : List UInt8} (hr : r.length = 64) : All64 (rows.set i r) := fun q hq => by
  rcases List.mem_or_eq_of_mem_set hq with h1 | h1
  · exact h q h1
  · rw [h1]; exact hr

theorem split_at (rows : List (List UInt8)) (i : Nat) (h : i < rows.length) : rows = rows.take i ++ [rows[i]] ++ rows.drop (i + 1) := by
  rw [← List.take_succ_eq_append_getElem h, List.take_append_drop]
theorem set_split (rows : List (List UInt8)) (i : Nat) (h : i < rows.length) (r : List UInt8) : rows.set i r = rows.take i ++ [r] ++ rows.drop (i + 1) := by
  rw [List.set_eq_take_append_cons_drop, if_pos h]; simp

theorem splice {α : Type} (A R T D : List α) (a s : Nat) (hA : A.length = a) (hs : s ≤ R.length) : A ++ (T ++ (R.drop s ++ D)) = (A ++ (R ++ D)).take a ++ T ++ (A ++ (R ++ D)).drop (a + s) := by
  subst hA
  have e : (A ++ (R ++ D)).drop (A.length + s) = R.drop s ++ D := by
    rw [List.drop_append, List.drop_eq_nil_of_le (by omega), List.nil_append, show A.length + s - A.length = s by omega, List.drop_append_of_le_length hs]
  rw [e, List.take_left, List.append_assoc]
theorem take_splice {α : Type} (C B : List α) (o s n : Nat) (hB : B.length = s) (h : o + s ≤ n) (hn : n ≤ C.length) : (C.take o ++ B ++ C.drop (o + s)).take n = (C.take n).take o ++ B ++ (C.take n).drop (o + s) := by
  have hl : (C.take o ++ B).length = o + s := by
    rw [List.length_append, List.length_take, hB, Nat.min_eq_left (by omega)]
  rw [List.take_take, Nat.min_eq_left (by omega), List.drop_take, List.take_append, List.take_of_length_le (by omega), hl]

theorem flat_put (rows : List (List UInt8)) (h : All64 rows) (i : Nat) (hi : i < rows.length) (t : ByteArray) (ht : t.size ≤ 64) :
    flatC (rows.set i (putL rows[i] t)) = (flatC rows).take (i * 64) ++ bv t.data.toList ++ (flatC rows).drop (i * 64 + t.size) := by
  have hA : (flatC (rows.take i)).length = i * 64 := by
    rw [flatC_len _ (fun q hq => h q (List.mem_of_mem_take hq)), List.length_take]
    rw [Nat.min_eq_left (by omega)]
  have hr : rows[i].length = 64 := h _ (List.getElem_mem hi)
  have e1 : flatC rows = flatC (rows.take i) ++ (bv rows[i] ++ flatC (rows.drop (i + 1))) := by
    conv => lhs; rw [split_at rows i hi]
    rw [flatC_app, flatC_app, flatC_one, List.append_assoc]
  have e2 : flatC (rows.set i (putL rows[i] t)) = flatC (rows.take i) ++ (bv t.data.toList ++ (bv (rows[i].drop t.size) ++ flatC (rows.drop (i + 1)))) := by
    rw [set_split rows i hi, flatC_app, flatC_app, flatC_one, List.append_assoc]
    simp [putL, bv]
  rw [e2, e1]
  have hd : bv (rows[i].drop t.size) = (bv rows[i]).drop t.size := by simp [bv]
  rw [hd]
  exact splice _ _ _ _ _ _ hA (by rw [bv_len]; omega)

theorem flat_at (rows : List (List UInt8)) (h : All64 rows) (i : Nat) (hi : i < rows.length) (j : Nat) (hj : j < 64) : (flatC rows)[i * 64 + j]? = (bv rows[i])[j]? := by
  have hA : (flatC (rows.take i)).length = i * 64 := by
    rw [flatC_len _ (fun q hq => h q (List.mem_of_mem_take hq)), List.length_take]
    rw [Nat.min_eq_left (by omega)]
  have hr : rows[i].length = 64 := h _ (List.getElem_mem hi)
  have e1 : flatC rows = flatC (rows.take i) ++ (bv rows[i] ++ flatC (rows.drop (i + 1))) := by
    conv => lhs; rw [split_at rows i hi]
    rw [flatC_app, flatC_app, flatC_one, List.append_assoc]
  rw [e1, List.getElem?_append_right (by omega), hA, show i * 64 + j - i * 64 = j by omega, List.getElem?_append_left (by rw [bv_len]; omega)]

def AOwn (w : World) (base : Nat) (v : Value) (rows : List (List UInt8)) : Prop := w.ownsRow base 101 64 v rows.length (flatC rows) ∧ All64 rows

theorem info5s : (Try.prog.info? 5).map (·.size) = some 1 := by kernel_rfl

theorem stepPut {ops : Array Oper} {o : Oper} {a : Act} {K : Act → World → Prop} {Q : Exit → Act → World → Prop} {E : Prop}
    (hgd : o.guard = none) (d x : Operand) (ho : o.op = .call { callee := .builtin .copy, args := #[d, x], argTypes := #[88, 9] })
    {W : World} {base g c i : Nat} {rows : List (List UInt8)} {t : ByteArray}
    (hd : a.eval d = .slice (some ⟨g, i * 64, none⟩) 64 64) (hx : a.eval x = .string t) (hown : AOwn W base (.slice (some ⟨g, 0, none⟩) rows.length c) rows) (hi : i < rows.length) (ht : t.size ≤ 64)
    (h : ∀ w', AOwn w' base (.slice (some ⟨g, 0, none⟩) (rows.set i (putL rows[i] t)).length c) (rows.set i (putL rows[i] t)) → W.grownBy w' (some g) → K (a.put o.dst (goInt t.size)) w') :
    if Region.wanted o (yielded ops a.tmps) = true then Oper.wp Try.prog o a W K Q else E := by
  have hw : Region.wanted o (yielded ops a.tmps) = true := by simp [Region.wanted, hgd]
  rw [if_pos hw]
  obtain ⟨ho1, h64⟩ := hown
  rcases ho1.2 with ⟨hv, hn⟩ | ⟨g', cap, cur, hv, hbg, hg, hnc, hcm, hcs, htake⟩
  · omega
  cases hv
  have hfl := flatC_len rows h64
  have hmul : i * 64 + 64 ≤ rows.length * 64 := by
    have : (i + 1) * 64 ≤ rows.length * 64 := Nat.mul_le_mul_right 64 hi
    omega
  have hcap : rows.length * 64 ≤ c * 64 := Nat.mul_le_mul_right 64 hnc
  have hfit : i * 64 + t.size ≤ cur.size := by rw [hcs]; omega
  have hrun := Lib.run_copy_row_string (P := Try.prog) W 88 9 o.type 5 g (i * 64) 64 64 t cur 101 Try.underlying88 info5s hg ht hfit
  have hlen : (Lib.byteCells t.data.toList).length = t.size := by rw [Lib.byteCells_length]; simp
  have hbc : Lib.byteCells t.data.toList = bv t.data.toList := rfl
  unfold Oper.wp execOp
  simp only [ho, resolve, invoke, builtin, Sem.run_bind, Sem.run_pure, Result.andThen_ok, List.map_toArray, List.map_cons, List.map_nil, hd, hx, hrun]
  refine h _ ⟨⟨?_, .inr ⟨g, c, _, by rw [List.length_set], hbg, setRow_heap W g cur _ 101 _ hg, by rw [List.length_set]; exact hnc, hcm, ?_, ?_⟩⟩, h64.set i (putL_len _ t (h64 _ (List.getElem_mem hi)) ht)⟩ ⟨rfl, rfl, rfl, by simp, fun k _ hk => setRow_other W g k _ (fun e => hk (by simp [e]))⟩
  · rw [flatC_len _ (h64.set i (putL_len _ t (h64 _ (List.getElem_mem hi)) ht))]
  · simp only [List.size_toArray, List.length_append, List.length_take, List.length_drop, Array.length_toList, hlen]
    rw [Nat.min_eq_left (by omega)]
    omega
  · rw [flat_put rows h64 i hi t ht, ← htake, hbc]
    rw [List.length_set]
    exact take_splice _ _ _ _ _ (by rw [bv_len]; simp) (by omega) (by have e : cur.toList.length = cur.size := Array.length_toList; omega)
end Go.Proofs.Ytnneodofajhbcaa

namespace Go.Proofs.Ytnneodofajhbcaa
open Go.RowKit
open DM
attribute [local go_sem ↓] Go.wp_at_zero Go.wp_at_succ

theorem Try.info101 : (Try.prog.info? 101).map (fun i => (i.zero, i.size, i.bytes)) = some (some (.agg (Array.replicate 64 (.int .u8 0))), 64, 64) := by kernel_rfl
theorem info88s : (Try.prog.info? 101).map (·.size) = some 64 := by kernel_rfl

theorem bv_one (l : List UInt8) : ∀ u ∈ bv l, u.oneCell' = true := fun u hu => by
  obtain ⟨b, _, rfl⟩ := List.mem_map.1 hu
  rfl

theorem setRow_alloc (V : World) (cur cs : Array Value) (t : TypeId) : (V.alloc (.cells cur t)).setRow V.heap.size cs = V.alloc (.cells cs t) := by
  unfold World.setRow World.alloc
  congr 1
  apply Array.ext_getElem?
  intro i
  rw [Array.getElem?_modify]
  by_cases h : i = V.heap.size
  · subst h; simp
  · rw [if_neg (Ne.symm h)]
    simp only [Array.getElem?_push]
    rw [if_neg h, if_neg h]
end Go.Proofs.Ytnneodofajhbcaa

namespace Go.Proofs.Ytnneodofajhbcaa
open Go.RowKit
open DM
attribute [local go_sem ↓] Go.wp_at_zero Go.wp_at_succ

def wrt : List (List UInt8) → List Wr → List (List UInt8)
  | rows, [] => rows
  | rows, p :: ps => wrt (rows.set p.1.toNat (putL (rows.getD p.1.toNat []) p.2)) ps
theorem wrt_app : ∀ (rows : List (List UInt8)) (ps qs : List Wr), wrt rows (ps ++ qs) = wrt (wrt rows ps) qs
  | _, [], _ => rfl
  | rows, p :: ps, qs => by rw [List.cons_append, wrt, wrt, wrt_app]
theorem wrt_snoc (rows : List (List UInt8)) (ps : List Wr) (p : Wr) : wrt rows (ps ++ [p]) = (wrt rows ps).set p.1.toNat (putL ((wrt rows ps).getD p.1.toNat []) p.2) := by rw [wrt_app]; rfl
theorem wrt_len : ∀ (rows : List (List UInt8)) (ps : List Wr), (wrt rows ps).length = rows.length
  | _, [] => rfl
  | rows, p :: ps => by rw [wrt, wrt_len]; simp
theorem wrt_succ (rows : List (List UInt8)) (ws : List Wr) (k i : Nat) (hk : k < ws.length) (hi : ws[k].1 = (i : Int)) (hl : i < (wrt rows (ws.take k)).length) :
    wrt rows (ws.take (k + 1)) = (wrt rows (ws.take k)).set i (putL (wrt rows (ws.take k))[i] ws[k].2) := by
  rw [take_succ_p ws k hk, wrt_snoc, hi]
  simp [hl]

def rtxs (rows : List (List UInt8)) : List ByteArray := rows.map fun r => ⟨r.toArray⟩
theorem rtxs_len (rows : List (List UInt8)) : (rtxs rows).length = rows.length := by simp [rtxs]
theorem txs_take (rows : List (List UInt8)) (k : Nat) (h : k < rows.length) : (rtxs rows).take (k + 1) = (rtxs rows).take k ++ [⟨rows[k].toArray⟩] := by
  rw [take_succ_b _ k (by rw [rtxs_len]; exact h)]
  simp [rtxs]

def WOk (ws : List Wr) (n : Nat) : Prop := ∀ p ∈ ws, 0 ≤ p.1 ∧ p.1 < (n : Int) ∧ p.2.size ≤ 64

theorem run_store_new (cs : List Value) (hc : cs.length = 64) (h1 : ∀ u ∈ cs, u.oneCell' = true) (g : Nat) (V : World) (cur : Array Value) (hg : V.heap.size = g) (h2 : cur.size = 64) :
    (storeCells ⟨g, 0, none⟩ cs).run Try.prog (V.alloc (.cells cur 101)) = .ok () (V.alloc (.cells cs.toArray 101)) := by
  subst hg
  have h := run_storeCells_at Try.prog V.heap.size 0 101 cs 0 cur (V.alloc (.cells cur 101)) (heap_alloc_new V _) (by omega) h1
  have e1 : List.take (0 + 0) cur.toList ++ cs ++ List.drop (0 + 0 + cs.length) cur.toList = cs := by
    rw [List.take_zero, List.nil_append, List.drop_eq_nil_of_le (by have e : cur.toList.length = cur.size := Array.length_toList; omega), List.append_nil]
  rw [h, e1]
  exact congrArg (Result.ok _) (setRow_alloc V cur _ 101)

theorem conv64 (V : World) (l : List UInt8) (hl : l.length = 64) : (convert 88 9 (.slice (some ⟨V.heap.size, 0, none⟩) 64 64)).run Try.prog (V.alloc (.cells (bv l).toArray 101)).drew = .ok (.string ⟨l.toArray⟩) (V.alloc (.cells (bv l).toArray 101)).drew := by
  have h := run_convert_bytes_back (P := Try.prog) (V.alloc (.cells (bv l).toArray 101)).drew 88 9 5 ⟨V.heap.size, 0, none⟩ 64 l Try.underlying88 Try.underlying5 Try.underlying9 (fun j hj => by
    rw [Addr.add_lit, Nat.zero_add]
    show (V.alloc (.cells (bv l).toArray 101)).cell? ⟨V.heap.size, j, none⟩ = _
    rw [World.cell?_alloc_mark V _ 101 (0, 0) j]
    simp [bv, hj])
  rw [hl] at h
  exact h

theorem range_own {w : World} {base g c k : Nat} {rows : List (List UInt8)} (h : AOwn w base (.slice (some ⟨g, 0, none⟩) rows.length c) rows) (hk : k < rows.length) : w.rangeAt g (k * 64) (bv rows[k]) := fun j v hv => by
  have hj : j < 64 := by
    have := (List.getElem?_eq_some_iff.1 hv).1
    rw [bv_len, h.2 _ (List.getElem_mem hk)] at this
    exact this
  have hm : k * 64 + j < rows.length * 64 := by
    have : (k + 1) * 64 ≤ rows.length * 64 := Nat.mul_le_mul_right 64 hk
    omega
  rw [World.ownsRow.cellAt h.1 (k * 64 + j) hm, flat_at rows h.2 k hk j hj]
  exact hv

set_option maxRecDepth 100000 in
set_option maxHeartbeats 4000000 in
theorem wrt55 (rows : List (List UInt8)) (ws : List Wr) (a0 a2 : Option Addr) (c0 c2 : Nat) (hn : rows.length ≤ 1000) (hm : ws.length ≤ 1000) (hw : WOk ws rows.length) (w0 w : World) (hb : Below w0.heap.size w0 w) (ha : AOwn w w0.heap.size (.slice a0 rows.length c0) rows) (hp : PRow w0 a2 ws) :
    Calls Try.prog 62 #[.slice a0 rows.length c0, .slice a2 ws.length c2] w fun e w' => ∃ b1 d1, e = .returned (.agg #[.slice b1 rows.length d1, .slice none 0 0]) ∧ SOwn w' w0.heap.size (.slice b1 (rtxs (wrt rows ws)).length d1) (rtxs (wrt rows ws)) ∧ Below w0.heap.size w0 w' := by
  have HB0 : Hid (Below w0.heap.size w0 w) := hb
  have HA0 : Hid (AOwn w w0.heap.size (.slice a0 rows.length c0) rows) := ha
  have HP : Hid (PRow w0 a2 ws) := hp
  have HW : Hid (WOk ws rows.length) := hw
  have hz0 : w0.heap.size ≤ w.heap.size := hb.size
  clear hb ha hp hw
  go_enter Try.func62, Try.ntmps62
  go_wp2
  go_loopw [12] (fun t wr => ∃ (k : Nat) (rs : List (List UInt8)), k ≤ ws.length ∧ t = .int .i64 k ∧ Hid (rs = wrt rows (ws.take k)) ∧ Hid (rs.length = rows.length) ∧ Hid (AOwn wr w0.heap.size (.slice a0 rs.length c0) rs) ∧ Hid (Below w0.heap.size w0 wr) ∧ Hid (Bd wr w.heap.size (.slice none 0 0) (.slice none 0 0)) ∧ Hid (∀ g, (Value.slice a0 rs.length c0).ownBlock = some g → g < w.heap.size)) (fun t _ => ws.length - (intOf t).toNat)
  case atStart => exact ⟨0, rows, Nat.zero_le _, rfl, rfl, rfl, ⟨World.ownsRow.alloc HA0.out.1 _, HA0.out.2⟩, HB0.out.alloc hz0 _, Bd.new w _ _ 40, fun g hg => (World.ownsRow.lt HA0.out.1 g hg).2⟩
  case round =>
    obtain ⟨k, rs, hk, rfl, HR, HRL, HA, HB, HX, HG⟩ := hrel
    have hrl : rs.length = rows.length := HRL.out
    by_cases hlt : k < ws.length
    · have hlt' : (k : Int) < (ws.length : Int) := by omega
      have h0 : (0 : Int) ≤ (k : Int) := by omega
      obtain ⟨b, off, rfl, hbl, hc⟩ := (HP.out.below HB.out) (by omega)
      have hck := (hc k hlt).1
      have hcl := (hc k hlt).2
      have hwk := HW.out _ (List.getElem_mem hlt)
      obtain ⟨m, hm1⟩ := Int.eq_ofNat_of_zero_le hwk.1
      have HM : Hid (ws[k].1 = (m : Int)) := hm1
      have hmn : (m : Int) < (rows.length : Int) := by rw [← hm1]; exact hwk.2.1
      have hm0 : (0 : Int) ≤ (m : Int) := by omega
      have HT : Hid (ws[k].2.size ≤ 64) := hwk.2.2
      obtain ⟨g, rfl, hbg, hgl⟩ := own_form HA.out.1 (by omega)
      have hgw : g < w.heap.size := HG.out g rfl
      rw [hm1] at hck
      clear hc hwk hm1
      have HN : Hid (some wr.heap.size ≠ some g) := fun e => by have := Option.some.inj e; omega
      have Z1 : Hid (Bd (wr.alloc (.cells #[.int .i64 (m : Int), .string ws[k].2] 95)) wr.heap.size (.int .i64 (m : Int)) (.string ws[k].2)) := Bd.new _ _ _ _
      have HA1 : Hid (AOwn (wr.alloc (.cells #[.int .i64 (m : Int), .string ws[k].2] 95)) w0.heap.size (.slice (some ⟨g, 0, none⟩) rs.length c0) rs) := ⟨World.ownsRow.alloc HA.out.1 _, HA.out.2⟩
      have HMR : Hid (m < rs.length) := by show _ < _; omega
      go_wp2
      go_region_held3 (fun w' => w'.cell? ⟨wr.heap.size, 0, none⟩ = some (.int .i64 (m : Int)) ∧ w'.cell? ⟨wr.heap.size, 1, none⟩ = some (.string ws[k].2)) (first | go_keep | exact tP.out) ((refine stepPut (by rfl) _ _ (by rfl) (i := m) (rows := rs) (by rfl) (by rfl) (W := (wr.alloc (.cells #[.int .i64 (m : Int), .string ws[k].2] 95)).drew) HA1.out HMR.out HT.out ?_; intro w3 hA3 hg3; have tP : Hid (w3.cell? ⟨wr.heap.size, 0, none⟩ = some (.int .i64 (m : Int)) ∧ w3.cell? ⟨wr.heap.size, 1, none⟩ = some (.string ws[k].2)) := ⟨(Z1.out.drew.keepG hg3 HN.out).c0, (Z1.out.drew.keepG hg3 HN.out).c1⟩))
      all_goals
        have HR3 : Hid (rs.set m (putL (rs[m]'HMR.out) ws[k].2) = wrt rows (ws.take (k + 1))) := by
          have h := HR.out
          have hl : m < (wrt rows (ws.take k)).length := by rw [← h]; exact HMR.out
          rw [wrt_succ rows ws k m hlt HM.out hl]
          subst h
          rfl
        have HL3 : Hid ((rs.set m (putL (rs[m]'HMR.out) ws[k].2)).length = rows.length) := by show _ = _; rw [List.length_set]; exact HRL.out
        have HA3 : Hid (AOwn w3 w0.heap.size (.slice (some ⟨g, 0, none⟩) (rs.set m (putL (rs[m]'HMR.out) ws[k].2)).length c0) (rs.set m (putL (rs[m]'HMR.out) ws[k].2))) := hA3
        have HB3 : Hid (Below w0.heap.size w0 w3) := (HB.out.alloc HB.out.size _).drew.grown hg3 (by have := HB.out.size; show _ ≤ (wr.alloc _).heap.size; simp; omega) (fun j hj => by cases hj; exact hbg)
        have HX3 : Hid (Bd w3 w.heap.size (.slice none 0 0) (.slice none 0 0)) := ((HX.out.alloc (.cells #[.int .i64 (m : Int), .string ws[k].2] 95)).drew.keepG hg3 (fun e => by have := Option.some.inj e; omega))
        have HG3 : Hid (∀ q, (Value.slice (some ⟨g, 0, none⟩) (rs.set m (putL (rs[m]'HMR.out) ws[k].2)).length c0).ownBlock = some q → q < w.heap.size) := fun q hq => by cases hq; exact hgw
        clear hA3 hg3 tP hck hcl
        generalize rs.set m (putL (rs[m]'HMR.out) ws[k].2) = rs3 at *
        go_wp2
        go_roundw
        case rel => exact ⟨k + 1, rs3, by omega, by go_num, HR3, HL3, HA3, HB3, HX3, HG3⟩
        case measure => simp [intOf]; omega
    · have hlt' : ¬ (k : Int) < (ws.length : Int) := by omega
      obtain rfl : k = ws.length := by omega
      have HRS : Hid (rs = wrt rows ws) := by have h := HR.out; rw [List.take_length] at h; exact h
      have hO : w.heap.size < wr.heap.size := HX.out.lt
      have HX1 : Hid (Bd (wr.alloc (.cells #[.slice none 0 0, .slice none 0 0] 40)) w.heap.size (.slice none 0 0) (.slice none 0 0)) := HX.out.alloc _
      have HO1 : Hid (Bd (wr.alloc (.cells #[.slice none 0 0, .slice none 0 0] 40)) wr.heap.size (.slice none 0 0) (.slice none 0 0)) := Bd.new _ _ _ _
      have HA1 : Hid (AOwn (wr.alloc (.cells #[.slice none 0 0, .slice none 0 0] 40)) w0.heap.size (.slice a0 rs.length c0) rs) := ⟨World.ownsRow.alloc HA.out.1 _, HA.out.2⟩
      have HB1 : Hid (Below w0.heap.size w0 (wr.alloc (.cells #[.slice none 0 0, .slice none 0 0] 40))) := HB.out.alloc HB.out.size _
      have hzr : w0.heap.size ≤ wr.heap.size := HB.out.size
      clear HR HX HA HB
      go_wp2
      generalize hOO : wr.heap.size = O at *
      go_loopw [27] (fun t wq => ∃ (k : Nat) (av : Option Addr) (cv : Nat), k ≤ rows.length ∧ t = .int .i64 k ∧ Hid (Below w0.heap.size w0 wq) ∧ Hid (Bd wq w.heap.size (.slice none 0 0) (.slice none 0 0)) ∧ Hid (Bd wq O (.slice av k cv) (.slice none 0 0)) ∧ Hid (AOwn wq w0.heap.size (.slice a0 rs.length c0) rs) ∧ Hid (wq.ownsRow (O + 1) 9 1 (.slice av k cv) k (scs ((rtxs rs).take k)))) (fun t _ => rows.length - (intOf t).toNat)
      case atStart => exact ⟨0, none, 0, Nat.zero_le _, rfl, HB1, HX1, HO1, HA1, World.ownsRow_nil _ _ _ _⟩
      case round =>
        clear HX1 HO1 HA1 HB1
        obtain ⟨k, av, cv, hk, rfl, HB, HX, HO, HA, HV⟩ := hrel
        by_cases hlt : k < rows.length
        · have hlt2 : (k : Int) < (rows.length : Int) := by omega
          have h0 : (0 : Int) ≤ (k : Int) := by omega
          obtain ⟨g, rfl, hbg, hgl⟩ := own_form HA.out.1 (by omega)
          have hkr : k < rs.length := by omega
          have HRG : Hid (wr.rangeAt g (k * 64) (bv rs[k])) := range_own HA.out hkr
          have HL : Hid ((bv rs[k]).length = 64) := by show _ = _; rw [bv_len]; exact HA.out.2 _ (List.getElem_mem hkr)
          have HI : Hid ((Try.prog.info? 101).map (·.size) = some (bv rs[k]).length) := by show _ = _; rw [HL.out]; exact info88s
          go_wp2_with (refine wpList_load_mid rfl 101 _ rfl g (k * 64) rfl (bv rs[k]) _ HRG.out Try.underlying101 rfl HI.out ?_)
          have hol : O < wr.heap.size := HO.out.lt
          have hl64 : rs[k].length = 64 := by have := HL.out; rw [bv_len] at this; exact this
          have hcv := conv64 wr rs[k] hl64
          rw [run_store_new (bv rs[k]) HL.out (bv_one _)]
          · have Z2 : Hid (Bd (wr.alloc (.cells (bv rs[k]).toArray 101)) O (.slice av k cv) (.slice none 0 0)) := HO.out.alloc _
            have o0 := Z2.out.c0
            have of0 := Z2.out.fz
            have HV1 : Hid ((wr.alloc (.cells (bv rs[k]).toArray 101)).ownsRow (O + 1) 9 1 (.slice av k cv) k (scs ((rtxs rs).take k))) := World.ownsRow.alloc HV.out _
            clear hl64
            go_wp2
            go_region_law (first
              | (refine stepAppH 37 9 1 16 (.string ByteArray.empty) Try.underlying37 Try.info9 rfl (by decide) (by omega) (by rfl) _ _ (by rfl) (base := O + 1) (n := k) [.string ⟨rs[k].toArray⟩] (by rfl) (xs := scs ((rtxs rs).take k)) ?ho (by rfl) ?hblk rfl (by simp [Value.oneCell']) (by omega) (by simp; omega) ?_
                 case ho => exact World.ownsRow.alloc HV1.out _
                 case hblk => first | exact hblk_new (by simp) | exact hblk_drew (hblk_new (by simp))
                 intro g' cap w3 hown3 hb3 hg3
                 have Y23 := ((Z2.out.alloc (.cells #[.string ⟨rs[k].toArray⟩] 9)).drew.keep hb3 (by omega))
                 have o3 := Y23.c0; have of3 := Y23.fz; have ol3 := Y23.lt))
            all_goals
              have HV3 : Hid ((w3.setCell ⟨O, 0, none⟩ (.slice (some ⟨g', 0, none⟩) (k + 1) cap)).ownsRow (O + 1) 9 1 (.slice (some ⟨g', 0, none⟩) (k + 1) cap) (k + 1) (scs ((rtxs rs).take (k + 1)))) := by
                rw [txs_take rs k hkr, scs_app]
                exact ownsRow_setCell_below hown3 (by show O < O + 1; omega) _
              have HA3 : Hid (AOwn (w3.setCell ⟨O, 0, none⟩ (.slice (some ⟨g', 0, none⟩) (k + 1) cap)) w0.heap.size (.slice (some ⟨g, 0, none⟩) rs.length c0) rs) := by
                have q1 := World.ownsRow.alloc (World.ownsRow.alloc HA.out.1 (.cells (bv rs[k]).toArray 101)) (.cells #[.string ⟨rs[k].toArray⟩] 9)
                have q2 := World.ownsRow.alloc HV1.out (.cells #[.string ⟨rs[k].toArray⟩] 9)
                have hg4 : ((wr.alloc (.cells (bv rs[k]).toArray 101)).alloc (.cells #[.string ⟨rs[k].toArray⟩] 9)).grownBy w3 (Value.slice av k cv).ownBlock := ⟨hg3.os, hg3.tape, hg3.output, hg3.size, hg3.block⟩
                have q3 := World.ownsRow.kept q1 hg4 (own_apart q1 q2 (by decide))
                refine ⟨own_set q3 (fun e => ?_), HA.out.2⟩
                have := HG.out _ e
                omega
              have HB2 : Hid (Below w0.heap.size w0 w3) := (((HB.out.alloc HB.out.size _).alloc (by have := HB.out.size; simp; omega) _).drew).trans (hb3.mono (by omega))
              have HX3 : Hid (Bd (w3.setCell ⟨O, 0, none⟩ (.slice (some ⟨g', 0, none⟩) (k + 1) cap)) w.heap.size (.slice none 0 0) (.slice none 0 0)) := (((HX.out.alloc (.cells (bv rs[k]).toArray 101)).alloc (.cells #[.string ⟨rs[k].toArray⟩] 9)).drew.keep hb3 (by omega)).setO (by show O ≠ w.heap.size; omega) _
              have HO3 : Hid (Bd (w3.setCell ⟨O, 0, none⟩ (.slice (some ⟨g', 0, none⟩) (k + 1) cap)) O (.slice (some ⟨g', 0, none⟩) (k + 1) cap) (.slice none 0 0)) := Y23.set0 _
              have HB3 : Hid (Below w0.heap.size w0 (w3.setCell ⟨O, 0, none⟩ (.slice (some ⟨g', 0, none⟩) (k + 1) cap))) := HB2.out.setCell (by show w0.heap.size ≤ O; omega) _
              clear hown3 hb3 hg3 Y23 o3 of3 ol3 o0 of0 hcv
              go_wp2
              go_roundw
              case rel => exact ⟨k + 1, _, _, by omega, by go_num, HB3, HX3, HO3, HA3, HV3⟩
              case measure => simp [intOf]; omega
          · rfl
          · rfl
        · have hlt2 : ¬ (k : Int) < (rows.length : Int) := by omega
          obtain rfl : k = rows.length := by omega
          have q0 := HO.out.c0
          have q1 := HO.out.c1
          have r0 := HX.out.c0
          have r1 := HX.out.c1
          have rf := HX.out.fz
          have HE : Hid ((rtxs (wrt rows ws)).length = rows.length) := by show _ = _; rw [rtxs_len, wrt_len]
          have HS : Hid (SOwn wr (O + 1) (.slice av (rtxs (wrt rows ws)).length cv) (rtxs (wrt rows ws))) := by
            have h := HV.out
            rw [← HRS.out, rtxs_len, hrl]
            rw [List.take_of_length_le (by rw [rtxs_len]; omega)] at h
            show World.ownsRow _ _ _ _ _ _ _
            rw [rtxs_len, hrl]
            exact h
          clear HV
          go_wp2
          refine bodyPost_ret (v := .agg #[.slice av rows.length cv, .slice none 0 0]) (by simp [results, Try.results62, go_sem, r0, r1]) rfl ⟨av, cv, rfl, ?_, ?_⟩
          · exact ((HS.out.set (by show w.heap.size < O + 1; omega) _).set (by show w.heap.size < O + 1; omega) _).mono (by omega)
          · exact (HB.out.setCell (by show w0.heap.size ≤ w.heap.size; omega) _).setCell (by show w0.heap.size ≤ w.heap.size; omega) _
end Go.Proofs.Ytnneodofajhbcaa
