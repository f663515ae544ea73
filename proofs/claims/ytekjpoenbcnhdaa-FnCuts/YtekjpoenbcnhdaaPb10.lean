/- Rows of sectors as bytes: what a write changes. -/
import Derived.Test.YtekjpoenbcnhdaaPb09
import Derived.Lib.BufferWrite
import Derived.Deep.MidRow
namespace Go.Proofs.Ytekjpoenbcnhdaa
open Go.RowKit
open DM

def flatC (rows : List (List UInt8)) : List Value := rows.flatMap bv
def All64 (rows : List (List UInt8)) : Prop := ∀ r ∈ rows, r.length = 64
theorem flatC_len : ∀ rows : List (List UInt8), All64 rows → (flatC rows).length = rows.length * 64
  | [], _ => rfl
  | r :: rows, h => by
    have h1 := flatC_len rows (fun q hq => h q (List.mem_cons_of_mem _ hq))
    have h2 := h r (List.mem_cons_self ..)
    have e : flatC (r :: rows) = bv r ++ flatC rows := rfl
    rw [e, List.length_append, h1, bv_len, h2, List.length_cons]
    omega
theorem flatC_app (a b : List (List UInt8)) : flatC (a ++ b) = flatC a ++ flatC b := by simp [flatC]
theorem flatC_one (r : List UInt8) : flatC [r] = bv r := by simp [flatC]

def putL (r : List UInt8) (t : ByteArray) : List UInt8 := t.data.toList ++ r.drop t.size
theorem putL_len (r : List UInt8) (t : ByteArray) (hr : r.length = 64) (ht : t.size ≤ 64) : (putL r t).length = 64 := by
  have e : t.data.toList.length = t.size := by simp
  simp only [putL, List.length_append, List.length_drop, e]
  omega
theorem All64.set {rows : List (List UInt8)} (h : All64 rows) (i : Nat) {r : List UInt8} (hr : r.length = 64) : All64 (rows.set i r) := fun q hq => by
  rcases List.mem_or_eq_of_mem_set hq with h1 | h1
  · exact h q h1
  · rw [h1]; exact hr

theorem split_at (rows : List (List UInt8)) (i : Nat) (h : i < rows.length) : rows = rows.take i ++ [rows[i]] ++ rows.drop (i + 1) := by
  rw [← List.take_succ_eq_append_getElem h, List.take_append_drop]
theorem set_split (rows : List (List UInt8)) (i : Nat) (h : i < rows.length) (r : List UInt8) : rows.set i r = rows.take i ++ [r] ++ rows.drop (i + 1) := by
  rw [List.set_eq_take_append_cons_drop, if_pos h]; simp

theorem splice {α : Type} (A R T D : List α) (a s : Nat) (hA : A.length = a) (hs : s ≤ R.length) : A ++ (T ++ (R.drop s ++ D)) = (A ++ (R ++ D)).take a ++ T ++ (A ++ (R ++ D)).drop (a + s) := by
  subst hA
  have e : (A ++ (R ++ D)).drop (A.length + s) = R.drop s ++ D := by
    rw [List.drop_append, List.drop_eq_nil_of_le (by omega), List.nil_append, show A.length + s - A.length = s by omega, List.drop_append_of_le_length hs]
  rw [e, List.take_left, List.append_assoc]
theorem take_splice {α : Type} (C B : List α) (o s n : Nat) (hB : B.length = s) (h : o + s ≤ n) (hn : n ≤ C.length) : (C.take o ++ B ++ C.drop (o + s)).take n = (C.take n).take o ++ B ++ (C.take n).drop (o + s) := by
  have hl : (C.take o ++ B).length = o + s := by
    rw [List.length_append, List.length_take, hB, Nat.min_eq_left (by omega)]
  rw [List.take_take, Nat.min_eq_left (by omega), List.drop_take, List.take_append, List.take_of_length_le (by omega), hl]

theorem flat_put (rows : List (List UInt8)) (h : All64 rows) (i : Nat) (hi : i < rows.length) (t : ByteArray) (ht : t.size ≤ 64) :
    flatC (rows.set i (putL rows[i] t)) = (flatC rows).take (i * 64) ++ bv t.data.toList ++ (flatC rows).drop (i * 64 + t.size) := by
  have hA : (flatC (rows.take i)).length = i * 64 := by
    rw [flatC_len _ (fun q hq => h q (List.mem_of_mem_take hq)), List.length_take]
    rw [Nat.min_eq_left (by omega)]
  have hr : rows[i].length = 64 := h _ (List.getElem_mem hi)
  have e1 : flatC rows = flatC (rows.take i) ++ (bv rows[i] ++ flatC (rows.drop (i + 1))) := by
    conv => lhs; rw [split_at rows i hi]
    rw [flatC_app, flatC_app, flatC_one, List.append_assoc]
  have e2 : flatC (rows.set i (putL rows[i] t)) = flatC (rows.take i) ++ (bv t.data.toList ++ (bv (rows[i].drop t.size) ++ flatC (rows.drop (i + 1)))) := by
    rw [set_split rows i hi, flatC_app, flatC_app, flatC_one, List.append_assoc]
    simp [putL, bv]
  rw [e2, e1]
  have hd : bv (rows[i].drop t.size) = (bv rows[i]).drop t.size := by simp [bv]
  rw [hd]
  exact splice _ _ _ _ _ _ hA (by rw [bv_len]; omega)

theorem flat_at (rows : List (List UInt8)) (h : All64 rows) (i : Nat) (hi : i < rows.length) (j : Nat) (hj : j < 64) : (flatC rows)[i * 64 + j]? = (bv rows[i])[j]? := by
  have hA : (flatC (rows.take i)).length = i * 64 := by
    rw [flatC_len _ (fun q hq => h q (List.mem_of_mem_take hq)), List.length_take]
    rw [Nat.min_eq_left (by omega)]
  have hr : rows[i].length = 64 := h _ (List.getElem_mem hi)
  have e1 : flatC rows = flatC (rows.take i) ++ (bv rows[i] ++ flatC (rows.drop (i + 1))) := by
    conv => lhs; rw [split_at rows i hi]
    rw [flatC_app, flatC_app, flatC_one, List.append_assoc]
  rw [e1, List.getElem?_append_right (by omega), hA, show i * 64 + j - i * 64 = j by omega, List.getElem?_append_left (by rw [bv_len]; omega)]

def AOwn (w : World) (base : Nat) (v : Value) (rows : List (List UInt8)) : Prop := w.ownsRow base 91 64 v rows.length (flatC rows) ∧ All64 rows

theorem info5s : (Try.prog.info? 5).map (·.size) = some 1 := by kernel_rfl

theorem stepPut {ops : Array Oper} {o : Oper} {a : Act} {K : Act → World → Prop} {Q : Exit → Act → World → Prop} {E : Prop}
    (hgd : o.guard = none) (d x : Operand) (ho : o.op = .call { callee := .builtin .copy, args := #[d, x], argTypes := #[22, 9] })
    {W : World} {base g c i : Nat} {rows : List (List UInt8)} {t : ByteArray}
    (hd : a.eval d = .slice (some ⟨g, i * 64, none⟩) 64 64) (hx : a.eval x = .string t) (hown : AOwn W base (.slice (some ⟨g, 0, none⟩) rows.length c) rows) (hi : i < rows.length) (ht : t.size ≤ 64)
    (h : ∀ w', AOwn w' base (.slice (some ⟨g, 0, none⟩) (rows.set i (putL rows[i] t)).length c) (rows.set i (putL rows[i] t)) → W.grownBy w' (some g) → K (a.put o.dst (goInt t.size)) w') :
    if Region.wanted o (yielded ops a.tmps) = true then Oper.wp Try.prog o a W K Q else E := by
  have hw : Region.wanted o (yielded ops a.tmps) = true := by simp [Region.wanted, hgd]
  rw [if_pos hw]
  obtain ⟨ho1, h64⟩ := hown
  rcases ho1.2 with ⟨hv, hn⟩ | ⟨g', cap, cur, hv, hbg, hg, hnc, hcm, hcs, htake⟩
  · omega
  cases hv
  have hfl := flatC_len rows h64
  have hmul : i * 64 + 64 ≤ rows.length * 64 := by
    have : (i + 1) * 64 ≤ rows.length * 64 := Nat.mul_le_mul_right 64 hi
    omega
  have hcap : rows.length * 64 ≤ c * 64 := Nat.mul_le_mul_right 64 hnc
  have hfit : i * 64 + t.size ≤ cur.size := by rw [hcs]; omega
  have hrun := Lib.run_copy_row_string (P := Try.prog) W 22 9 o.type 5 g (i * 64) 64 64 t cur 91 Try.underlying22 info5s hg ht hfit
  have hlen : (Lib.byteCells t.data.toList).length = t.size := by rw [Lib.byteCells_length]; simp
  have hbc : Lib.byteCells t.data.toList = bv t.data.toList := rfl
  unfold Oper.wp execOp
  simp only [ho, resolve, invoke, builtin, Sem.run_bind, Sem.run_pure, Result.andThen_ok, List.map_toArray, List.map_cons, List.map_nil, hd, hx, hrun]
  refine h _ ⟨⟨?_, .inr ⟨g, c, _, by rw [List.length_set], hbg, setRow_heap W g cur _ 91 _ hg, by rw [List.length_set]; exact hnc, hcm, ?_, ?_⟩⟩, h64.set i (putL_len _ t (h64 _ (List.getElem_mem hi)) ht)⟩ ⟨rfl, rfl, rfl, by simp, fun k _ hk => setRow_other W g k _ (fun e => hk (by simp [e]))⟩
  · rw [flatC_len _ (h64.set i (putL_len _ t (h64 _ (List.getElem_mem hi)) ht))]
  · simp only [List.size_toArray, List.length_append, List.length_take, List.length_drop, Array.length_toList, hlen]
    rw [Nat.min_eq_left (by omega)]
    omega
  · rw [flat_put rows h64 i hi t ht, ← htake, hbc]
    rw [List.length_set]
    exact take_splice _ _ _ _ _ (by rw [bv_len]; simp) (by omega) (by have e : cur.toList.length = cur.size := Array.length_toList; omega)
end Go.Proofs.Ytekjpoenbcnhdaa

namespace Go.Proofs.Ytekjpoenbcnhdaa
open Go.RowKit
open DM
attribute [local go_sem ↓] Go.wp_at_zero Go.wp_at_succ

theorem Try.info91 : (Try.prog.info? 91).map (fun i => (i.zero, i.size, i.bytes)) = some (some (.agg (Array.replicate 64 (.int .u8 0))), 64, 64) := by kernel_rfl
theorem info88s : (Try.prog.info? 91).map (·.size) = some 64 := by kernel_rfl

theorem bv_one (l : List UInt8) : ∀ u ∈ bv l, u.oneCell' = true := fun u hu => by
  obtain ⟨b, _, rfl⟩ := List.mem_map.1 hu
  rfl

theorem setRow_alloc (V : World) (cur cs : Array Value) (t : TypeId) : (V.alloc (.cells cur t)).setRow V.heap.size cs = V.alloc (.cells cs t) := by
  unfold World.setRow World.alloc
  congr 1
  apply Array.ext_getElem?
  intro i
  rw [Array.getElem?_modify]
  by_cases h : i = V.heap.size
  · subst h; simp
  · rw [if_neg (Ne.symm h)]
    simp only [Array.getElem?_push]
    rw [if_neg h, if_neg h]
theorem setRow_alloc2 (V : World) (cur cs : Array Value) (t : TypeId) (o : Obj) : ((V.alloc (.cells cur t)).alloc o).setRow V.heap.size cs = (V.alloc (.cells cs t)).alloc o := by
  have h := setRow_alloc V cur cs t
  unfold World.setRow World.alloc at h ⊢
  simp only [World.mk.injEq, and_true] at h ⊢
  apply Array.ext_getElem?
  intro i
  have hi := congrArg (fun a => a[i]?) h
  simp only [Array.getElem?_modify, Array.getElem?_push, Array.size_push] at hi ⊢
  by_cases e : i = V.heap.size
  · subst e; simp
  · by_cases e2 : i = V.heap.size + 1
    · subst e2; simp
    · simp [e, e2, Ne.symm e]
theorem run_copy_new (t : ByteArray) (ht : t.size = 64) (g ty : Nat) (V : World) (cur : Array Value) (h1 : V.heap.size = g) (h2 : cur.size = 64) :
    (Builtin.copy_ #[22, 9] ty #[.slice (some ⟨g, 0, none⟩) 64 64, .string t]).run Try.prog (V.alloc (.cells cur 91)) = .ok (goInt 64) (V.alloc (.cells (bv t.data.toList).toArray 91)) := by
  subst h1
  have hrun := Lib.run_copy_row_string (P := Try.prog) (V.alloc (.cells cur 91)) 22 9 ty 5 V.heap.size 0 64 64 t cur 91 Try.underlying22 info5s (heap_alloc_new V _) (by omega) (by omega)
  have e1 : List.take 0 cur.toList ++ Lib.byteCells t.data.toList ++ List.drop (0 + t.size) cur.toList = bv t.data.toList := by
    rw [List.take_zero, List.nil_append, List.drop_eq_nil_of_le (by have e : cur.toList.length = cur.size := Array.length_toList; omega), List.append_nil]
    rfl
  rw [hrun, e1, ht]
  exact congrArg (Result.ok _) (setRow_alloc V cur _ 91)

theorem there_block {w : World} {b : Nat} {C : Array Value} {t : TypeId} (hb : w.heap[b]? = some (.cells C t (0, 0))) (n : Nat) (hn : n ≤ C.size) : w.there b 0 n := fun j hj => by
  refine ⟨?_, frozen_of_row w b (0 + j) C t hb⟩
  rw [cell_of_row w b (0 + j) C t (0, 0) hb]
  simp; omega
theorem range_block {w : World} {b : Nat} {cs : List Value} {t : TypeId} (hb : w.heap[b]? = some (.cells cs.toArray t (0, 0))) : w.rangeAt b 0 cs := fun j v hv => by
  rw [cell_of_row w b (0 + j) _ t (0, 0) hb]
  simpa using hv
theorem len64 {t : ByteArray} (ht : t.size = 64) : (bv t.data.toList).length = 64 := by rw [bv_len]; simpa using ht

theorem run_store_old (cs : List Value) (hc : cs.length = 64) (h1 : ∀ u ∈ cs, u.oneCell' = true) (g : Nat) (V : World) (cur : Array Value) (o : Obj) (hg : V.heap.size = g) (h2 : cur.size = 64) :
    (storeCells ⟨g, 0, none⟩ cs).run Try.prog ((V.alloc (.cells cur 91)).alloc o) = .ok () ((V.alloc (.cells cs.toArray 91)).alloc o) := by
  subst hg
  have h := run_storeCells_at Try.prog V.heap.size 0 91 cs 0 cur ((V.alloc (.cells cur 91)).alloc o) (hblk_old (heap_alloc_new V _)) (by omega) h1
  have e1 : List.take (0 + 0) cur.toList ++ cs ++ List.drop (0 + 0 + cs.length) cur.toList = cs := by
    rw [List.take_zero, List.nil_append, List.drop_eq_nil_of_le (by have e : cur.toList.length = cur.size := Array.length_toList; omega), List.append_nil]
  rw [h, e1]
  exact congrArg (Result.ok _) (setRow_alloc2 V cur _ 91 o)

set_option maxRecDepth 100000 in
set_option maxHeartbeats 4000000 in
theorem sec68 (t : ByteArray) (ht : t.size = 64) (w : World) :
    Calls Try.prog 81 #[.string t] w fun e w' => e = .returned (.agg (bv t.data.toList).toArray) ∧ Below w.heap.size w w' := by
  have HT : Hid (t.size = 64) := ht
  have hl := len64 ht
  have HL : Hid ((bv t.data.toList).length = 64) := hl
  have HI : Hid ((Try.prog.info? 91).map (·.size) = some (bv t.data.toList).length) := by show _ = _; rw [hl]; exact info88s
  have HI2 : Hid ((Try.prog.info? 91).map (·.size) = some (bv t.data.toList).toArray.size) := by show _ = _; rw [List.size_toArray, hl]; exact info88s
  clear ht hl
  go_enter Try.func81, Try.ntmps81
  go_wp2
  rw [run_copy_new t HT.out]
  · go_wp2_with (first
      | (refine wpList_load_mid rfl 91 _ rfl (w.heap.size + 1) 0 rfl (bv t.data.toList) _ ?_ Try.underlying91 rfl HI.out ?_; exact range_block (hblk_new (by simp)))
      | (refine wpList_store_mid rfl 91 _ _ rfl w.heap.size 0 (bv t.data.toList).toArray rfl rfl ?_ HI2.out (all_oneCell_toArray (bv_one _)) ?_; rw [List.size_toArray, HL.out]; exact there_block (hblk_old (hblk_new rfl)) 64 (by simp)))
    rw [run_store_old (bv t.data.toList) HL.out (bv_one _)]
    · go_wp2
      have hld := run_loadVar_mid (P := Try.prog) ((w.alloc (.cells (bv t.data.toList).toArray 91)).alloc (.cells (bv t.data.toList).toArray 91)) w.heap.size 0 91 (bv t.data.toList) _ (range_block (hblk_old (heap_alloc_new w _))) Try.underlying91 rfl HI.out
      exact bodyPost_ret (v := .agg (bv t.data.toList).toArray) (by simp [results, Try.results81, asAddr, hld]) rfl ⟨rfl, ((belowRefl w).alloc (Nat.le_refl _) _).alloc (by simp) _⟩
    · rfl
    · rfl
  · simp
  · rfl

theorem fold_zip (cs : List Value) : ∀ (n : Nat) (Z : Array Value), n + cs.length ≤ Z.size → (List.foldl (fun (a : Array Value) (x : Value × Nat) => a.setIfInBounds x.2 x.1) Z (cs.zipIdx n)).toList = Z.toList.take n ++ cs ++ Z.toList.drop (n + cs.length) := by
  induction cs with
  | nil => intro n Z _; simp
  | cons c cs ih =>
    intro n Z h
    simp only [List.length_cons] at h
    rw [List.zipIdx_cons, List.foldl_cons, ih (n + 1) _ (by simp; omega)]
    have hn : n < Z.toList.length := by simp; omega
    simp only [Array.toList_setIfInBounds]
    rw [List.take_set, List.drop_set, if_pos (by omega), List.take_succ_eq_append_getElem hn, List.set_append_right _ _ (by simp; omega)]
    simp only [List.length_take, List.length_cons]
    rw [Nat.min_eq_left (by omega), Nat.sub_self]
    simp only [List.set_cons_zero, List.append_assoc, List.nil_append, List.cons_append]
    rw [show n + 1 + cs.length = n + (cs.length + 1) by omega]
theorem fold64 (cs : List Value) (hc : cs.length = 64) (Z : Array Value) (hz : Z.size = 64) : List.foldl (fun (a : Array Value) (x : Value × Nat) => a.setIfInBounds x.2 x.1) Z cs.zipIdx = cs.toArray := by
  apply Array.toList_inj.1
  rw [fold_zip cs 0 Z (by omega)]
  have e : Z.toList.length = Z.size := Array.length_toList
  rw [List.take_zero, List.drop_eq_nil_of_le (by omega)]
  simp

def bys (ss : List ByteArray) : List (List UInt8) := ss.map fun s => s.data.toList
theorem bys_len (ss : List ByteArray) : (bys ss).length = ss.length := by simp [bys]
theorem bys_64 {ss : List ByteArray} (h : ∀ s ∈ ss, s.size = 64) : All64 (bys ss) := fun r hr => by
  obtain ⟨s, hs, rfl⟩ := List.mem_map.1 hr
  simpa using h s hs
theorem bys_take_succ (ss : List ByteArray) (k : Nat) (h : k < ss.length) : flatC (bys (ss.take (k + 1))) = flatC (bys (ss.take k)) ++ bv ss[k].data.toList := by
  rw [take_succ_b ss k h]
  unfold bys flatC
  rw [List.map_append, List.flatMap_append]
  simp

set_option maxRecDepth 100000 in
set_option maxHeartbeats 4000000 in
theorem secs56 (ss : List ByteArray) (v2 : Value) (a1 : Option Addr) (c1 : Nat) (hn : ss.length ≤ 1000) (h64 : ∀ s ∈ ss, s.size = 64) (w : World) (hs : SRow w a1 ss) :
    Calls Try.prog 63 #[.agg #[.slice a1 ss.length c1, v2]] w fun e w' => ∃ b1 d1, e = .returned (.slice b1 (bys ss).length d1) ∧ AOwn w' w.heap.size (.slice b1 (bys ss).length d1) (bys ss) ∧ Below w.heap.size w w' := by
  have HS : Hid (SRow w a1 ss) := hs
  have H64 : Hid (∀ s ∈ ss, s.size = 64) := h64
  clear hs h64
  go_enter Try.func63, Try.ntmps63
  go_wp2
  go_loopw [3, 9] (fun v t wr => ∃ (k : Nat) (av : Option Addr) (cv : Nat), k ≤ ss.length ∧ t = .int .i64 k ∧ v = .slice av k cv ∧ Hid (Below w.heap.size w wr) ∧ Hid (wr.ownsRow (w.heap.size + 1) 91 64 (.slice av k cv) k (flatC (bys (ss.take k)))) ∧ w.heap.size < wr.heap.size) (fun _ t _ => ss.length - (intOf t).toNat)
  case atStart => exact ⟨0, none, 0, Nat.zero_le _, rfl, rfl, (belowRefl w).alloc (Nat.le_refl _) _, World.ownsRow_nil _ _ _ _, by simp⟩
  case round =>
    obtain ⟨k, av, cv, hk, rfl, rfl, HB, HO, hz⟩ := hrel
    by_cases hlt : k < ss.length
    · have hlt' : (k : Int) < (ss.length : Int) := by omega
      have h0 : (0 : Int) ≤ (k : Int) := by omega
      obtain ⟨b, off, rfl, hbl, hc⟩ := (HS.out.below HB.out) (by omega)
      have hck := hc k hlt
      have HZ : Hid (ss[k].size = 64) := H64.out _ (List.getElem_mem hlt)
      have hl64 : (bv ss[k].data.toList).length = 64 := len64 HZ.out
      clear hc
      go_wp2_with (first
        | (go_at_call 81; refine (sec68 _ HZ.out _).mono ?_; rintro e w2 ⟨rfl, hb2⟩; have HB2 : Hid (Below wr.heap.size wr w2) := hb2; have hz2 : w.heap.size + 1 ≤ w2.heap.size := Nat.le_trans hz hb2.size)
        | (at_builtin; refine wpAppH 74 91 64 64 (.agg (Array.replicate 64 (.int .u8 0))) Try.underlying74 Try.info91 (by simp [Value.cells]) (by decide) (by omega) (by rfl) _ _ (by rfl) (base := w.heap.size + 1) (bv ss[k].data.toList) (by rfl) (World.ownsRow.alloc (ownsBelow HO.out HB2.out) _) (by rfl) ?hblk (len64 HZ.out) (bv_one _) (by omega) (by simp; omega) ?_; case hblk => exact (heap_alloc_new w2 _).trans (congrArg (fun c => some (Obj.cells c 91 (0, 0))) (fold64 _ (len64 HZ.out) _ rfl))))
      intro g' cap w3 hown3 hb3 hg3
      have HO3 : Hid (w3.ownsRow (w.heap.size + 1) 91 64 (.slice (some ⟨g', 0, none⟩) (k + 1) cap) (k + 1) (flatC (bys (ss.take (k + 1))))) := by
        rw [bys_take_succ ss k hlt]; exact hown3
      have HB3 : Hid (Below w.heap.size w w3) := ((HB.out.trans (HB2.out.mono HB.out.size)).alloc (by omega) _).trans (hb3.mono (by omega))
      have hz3 : w.heap.size < w3.heap.size := by have := hb3.size; simp at this; omega
      clear hown3 hb3 hg3 hck hz2
      go_wp2
      go_roundw
      case rel => exact ⟨k + 1, _, _, by omega, by go_num, rfl, HB3, HO3, hz3⟩
      case measure => simp [intOf]; omega
    · have hlt' : ¬ (k : Int) < (ss.length : Int) := by omega
      obtain rfl : k = ss.length := by omega
      have HD : Hid (AOwn wr w.heap.size (.slice av (bys ss).length cv) (bys ss)) := by
        have h := HO.out
        rw [List.take_length] at h
        refine ⟨ownsMono (base := w.heap.size + 1) ?_ (by omega), bys_64 H64.out⟩
        rw [bys_len]; exact h
      have HE : Hid ((bys ss).length = ss.length) := bys_len ss
      go_wp2
      go_ret
      exact ⟨av, cv, by rw [HE.out]; rfl, HD.out, HB.out⟩
end Go.Proofs.Ytekjpoenbcnhdaa
