/- What impl.sectorOf, sectorsOf and written do. -/
import Derived.Test.YtekjpoenbcnhdaaGreatPa06
namespace Go.Proofs.YtekjpoenbcnhdaaGreat
open Go.RowKit
open DM
attribute [local go_sem ↓] Go.wp_at_zero Go.wp_at_succ

theorem Tryz.info107 : (Tryz.prog.info? 107).map (fun i => (i.zero, i.size, i.bytes)) = some (some (.agg (Array.replicate 64 (.int .u8 0))), 64, 64) := by kernel_rfl
theorem info88s : (Tryz.prog.info? 107).map (·.size) = some 64 := by kernel_rfl

theorem bv_one (l : List UInt8) : ∀ u ∈ bv l, u.oneCell' = true := fun u hu => by
 obtain ⟨b, _, rfl⟩ := List.mem_map.1 hu
 rfl

theorem setRow_alloc (V : World) (cur cs : Array Value) (t : TypeId) : (V.alloc (.cells cur t)).setRow V.heap.size cs = V.alloc (.cells cs t) := by
 unfold World.setRow World.alloc
 congr 1
 apply Array.ext_getElem?
 intro i
 rw [Array.getElem?_modify]
 by_cases h : i = V.heap.size
 ·subst h; simp
 ·rw [if_neg (Ne.symm h)]
  simp only [Array.getElem?_push]
  rw [if_neg h, if_neg h]
theorem setRow_alloc2 (V : World) (cur cs : Array Value) (t : TypeId) (o : Obj) : ((V.alloc (.cells cur t)).alloc o).setRow V.heap.size cs = (V.alloc (.cells cs t)).alloc o := by
 have h := setRow_alloc V cur cs t
 unfold World.setRow World.alloc at h ⊢
 simp only [World.mk.injEq, and_true] at h ⊢
 apply Array.ext_getElem?
 intro i
 have hi := congrArg (fun a => a[i]?) h
 simp only [Array.getElem?_modify, Array.getElem?_push, Array.size_push] at hi ⊢
 by_cases e : i = V.heap.size
 ·subst e; simp
 ·by_cases e2 : i = V.heap.size + 1
  ·subst e2; simp
  ·simp [e, e2, Ne.symm e]
theorem run_copy_new (t : ByteArray) (ht : t.size = 64) (g ty : Nat) (V : World) (cur : Array Value) (h1 : V.heap.size = g) (h2 : cur.size = 64) :
  (Builtin.copy_ #[22, 9] ty #[.slice (some ⟨g, 0, none⟩) 64 64, .string t]).run Tryz.prog (V.alloc (.cells cur 107)) = .ok (goInt 64) (V.alloc (.cells (bv t.data.toList).toArray 107)) := by
 subst h1
 have hrun := Lib.run_copy_row_string (P := Tryz.prog) (V.alloc (.cells cur 107)) 22 9 ty 5 V.heap.size 0 64 64 t cur 107 Tryz.underlying22 info5s (heap_alloc_new V _) (by omega) (by omega)
 have e1 : List.take 0 cur.toList ++ Lib.byteCells t.data.toList ++ List.drop (0 + t.size) cur.toList = bv t.data.toList := by
  rw [List.take_zero, List.nil_append, List.drop_eq_nil_of_le (by have e : cur.toList.length = cur.size := Array.length_toList; omega), List.append_nil]
  rfl
 rw [hrun, e1, ht]
 exact congrArg (Result.ok _) (setRow_alloc V cur _ 107)

theorem there_block {w : World} {b : Nat} {C : Array Value} {t : TypeId} (hb : w.heap[b]? = some (.cells C t (0, 0))) (n : Nat) (hn : n ≤ C.size) : w.there b 0 n := fun j hj => by
 refine ⟨?_, frozen_of_row w b (0 + j) C t hb⟩
 rw [cell_of_row w b (0 + j) C t (0, 0) hb]
 simp; omega
theorem range_block {w : World} {b : Nat} {cs : List Value} {t : TypeId} (hb : w.heap[b]? = some (.cells cs.toArray t (0, 0))) : w.rangeAt b 0 cs := fun j v hv => by
 rw [cell_of_row w b (0 + j) _ t (0, 0) hb]
 simpa using hv
theorem len64 {t : ByteArray} (ht : t.size = 64) : (bv t.data.toList).length = 64 := by rw [bv_len]; simpa using ht

theorem run_store_old (cs : List Value) (hc : cs.length = 64) (h1 : ∀ u ∈ cs, u.oneCell' = true) (g : Nat) (V : World) (cur : Array Value) (o : Obj) (hg : V.heap.size = g) (h2 : cur.size = 64) :
  (storeCells ⟨g, 0, none⟩ cs).run Tryz.prog ((V.alloc (.cells cur 107)).alloc o) = .ok () ((V.alloc (.cells cs.toArray 107)).alloc o) := by
 subst hg
 have h := run_storeCells_at Tryz.prog V.heap.size 0 107 cs 0 cur ((V.alloc (.cells cur 107)).alloc o) (hblk_old (heap_alloc_new V _)) (by omega) h1
 have e1 : List.take (0 + 0) cur.toList ++ cs ++ List.drop (0 + 0 + cs.length) cur.toList = cs := by
  rw [List.take_zero, List.nil_append, List.drop_eq_nil_of_le (by have e : cur.toList.length = cur.size := Array.length_toList; omega), List.append_nil]
 rw [h, e1]
 exact congrArg (Result.ok _) (setRow_alloc2 V cur _ 107 o)

set_option maxRecDepth 100000 in
set_option maxHeartbeats 4000000 in
theorem sec68 (t : ByteArray) (ht : t.size = 64) (w : World) :
  Calls Tryz.prog 96 #[.string t] w fun e w' => e = .returned (.agg (bv t.data.toList).toArray) ∧ Below w.heap.size w w' := by
 have HT : Hid (t.size = 64) := ht
 have hl := len64 ht
 have HL : Hid ((bv t.data.toList).length = 64) := hl
 have HI : Hid ((Tryz.prog.info? 107).map (·.size) = some (bv t.data.toList).length) := by show _ = _; rw [hl]; exact info88s
 have HI2 : Hid ((Tryz.prog.info? 107).map (·.size) = some (bv t.data.toList).toArray.size) := by show _ = _; rw [List.size_toArray, hl]; exact info88s
 clear ht hl
 go_enter Tryz.func96, Tryz.ntmps96
 go_wp2
 rw [run_copy_new t HT.out]
 ·go_wp2_with (first
   | (refine wpList_load_mid rfl 107 _ rfl (w.heap.size + 1) 0 rfl (bv t.data.toList) _ ?_ Tryz.underlying107 rfl HI.out ?_; exact range_block (hblk_new (by simp)))
   | (refine wpList_store_mid rfl 107 _ _ rfl w.heap.size 0 (bv t.data.toList).toArray rfl rfl ?_ HI2.out (all_oneCell_toArray (bv_one _)) ?_; rw [List.size_toArray, HL.out]; exact there_block (hblk_old (hblk_new rfl)) 64 (by simp)))
  rw [run_store_old (bv t.data.toList) HL.out (bv_one _)]
  ·go_wp2
   have hld := run_loadVar_mid (P := Tryz.prog) ((w.alloc (.cells (bv t.data.toList).toArray 107)).alloc (.cells (bv t.data.toList).toArray 107)) w.heap.size 0 107 (bv t.data.toList) _ (range_block (hblk_old (heap_alloc_new w _))) Tryz.underlying107 rfl HI.out
   exact bodyPost_ret (v := .agg (bv t.data.toList).toArray) (by simp [results, Tryz.results96, asAddr, hld]) rfl ⟨rfl, ((belowRefl w).alloc (Nat.le_refl _) _).alloc (by simp) _⟩
  ·rfl
  ·rfl
 ·simp
 ·rfl

theorem fold_zip (cs : List Value) : ∀ (n : Nat) (Z : Array Value), n + cs.length ≤ Z.size → (List.foldl (fun (a : Array Value) (x : Value × Nat) => a.setIfInBounds x.2 x.1) Z (cs.zipIdx n)).toList = Z.toList.take n ++ cs ++ Z.toList.drop (n + cs.length) := by
 induction cs with
 | nil => intro n Z _; simp
 | cons c cs ih =>
  intro n Z h
  simp only [List.length_cons] at h
  rw [List.zipIdx_cons, List.foldl_cons, ih (n + 1) _ (by simp; omega)]
  have hn : n < Z.toList.length := by simp; omega
  simp only [Array.toList_setIfInBounds]
  rw [List.take_set, List.drop_set, if_pos (by omega), List.take_succ_eq_append_getElem hn, List.set_append_right _ _ (by simp; omega)]
  simp only [List.length_take, List.length_cons]
  rw [Nat.min_eq_left (by omega), Nat.sub_self]
  simp only [List.set_cons_zero, List.append_assoc, List.nil_append, List.cons_append]
  rw [show n + 1 + cs.length = n + (cs.length + 1) by omega]
theorem fold64 (cs : List Value) (hc : cs.length = 64) (Z : Array Value) (hz : Z.size = 64) : List.foldl (fun (a : Array Value) (x : Value × Nat) => a.setIfInBounds x.2 x.1) Z cs.zipIdx = cs.toArray := by
 apply Array.toList_inj.1
 rw [fold_zip cs 0 Z (by omega)]
 have e : Z.toList.length = Z.size := Array.length_toList
 rw [List.take_zero, List.drop_eq_nil_of_le (by omega)]
 simp

def bys (ss : List ByteArray) : List (List UInt8) := ss.map fun s => s.data.toList
theorem bys_len (ss : List ByteArray) : (bys ss).length = ss.length := by simp [bys]
theorem bys_64 {ss : List ByteArray} (h : ∀ s ∈ ss, s.size = 64) : All64 (bys ss) := fun r hr => by
 obtain ⟨s, hs, rfl⟩ := List.mem_map.1 hr
 simpa using h s hs
theorem bys_take_succ (ss : List ByteArray) (k : Nat) (h : k < ss.length) : flatC (bys (ss.take (k + 1))) = flatC (bys (ss.take k)) ++ bv ss[k].data.toList := by
 rw [take_succ_b ss k h]
 unfold bys flatC
 rw [List.map_append, List.flatMap_append]
 simp

set_option maxRecDepth 100000 in
set_option maxHeartbeats 4000000 in
theorem secs56 (ss : List ByteArray) (v2 : Value) (a1 : Option Addr) (c1 : Nat) (hn : ss.length ≤ 1000) (h64 : ∀ s ∈ ss, s.size = 64) (w : World) (hs : SRow w a1 ss) :
  Calls Tryz.prog 75 #[.agg #[.slice a1 ss.length c1, v2]] w fun e w' => ∃ b1 d1, e = .returned (.slice b1 (bys ss).length d1) ∧ AOwn w' w.heap.size (.slice b1 (bys ss).length d1) (bys ss) ∧ Below w.heap.size w w' := by
 have HS : Hid (SRow w a1 ss) := hs
 have H64 : Hid (∀ s ∈ ss, s.size = 64) := h64
 clear hs h64
 go_enter Tryz.func75, Tryz.ntmps75
 go_wp2
 go_loopw [3, 9] (fun v t wr => ∃ (k : Nat) (av : Option Addr) (cv : Nat), k ≤ ss.length ∧ t = .int .i64 k ∧ v = .slice av k cv ∧ Hid (Below w.heap.size w wr) ∧ Hid (wr.ownsRow (w.heap.size + 1) 107 64 (.slice av k cv) k (flatC (bys (ss.take k)))) ∧ w.heap.size < wr.heap.size) (fun _ t _ => ss.length - (intOf t).toNat)
 case atStart => exact ⟨0, none, 0, Nat.zero_le _, rfl, rfl, (belowRefl w).alloc (Nat.le_refl _) _, World.ownsRow_nil _ _ _ _, by simp⟩
 case round =>
  obtain ⟨k, av, cv, hk, rfl, rfl, HB, HO, hz⟩ := hrel
  by_cases hlt : k < ss.length
  ·have hlt' : (k : Int) < (ss.length : Int) := by omega
   have h0 : (0 : Int) ≤ (k : Int) := by omega
   obtain ⟨b, off, rfl, hbl, hc⟩ := (HS.out.below HB.out) (by omega)
   have hck := hc k hlt
   have HZ : Hid (ss[k].size = 64) := H64.out _ (List.getElem_mem hlt)
   have hl64 : (bv ss[k].data.toList).length = 64 := len64 HZ.out
   clear hc
   go_wp2_with (first
    | (go_at_call 96; refine (sec68 _ HZ.out _).mono ?_; rintro e w2 ⟨rfl, hb2⟩; have HB2 : Hid (Below wr.heap.size wr w2) := hb2; have hz2 : w.heap.size + 1 ≤ w2.heap.size := Nat.le_trans hz hb2.size)
    | (at_builtin; refine wpAppH 84 107 64 64 (.agg (Array.replicate 64 (.int .u8 0))) Tryz.underlying84 Tryz.info107 (by simp [Value.cells]) (by decide) (by omega) (by rfl) _ _ (by rfl) (base := w.heap.size + 1) (bv ss[k].data.toList) (by rfl) (World.ownsRow.alloc (ownsBelow HO.out HB2.out) _) (by rfl) ?hblk (len64 HZ.out) (bv_one _) (by omega) (by simp; omega) ?_; case hblk => exact (heap_alloc_new w2 _).trans (congrArg (fun c => some (Obj.cells c 107 (0, 0))) (fold64 _ (len64 HZ.out) _ rfl))))
   intro g' cap w3 hown3 hb3 hg3
   have HO3 : Hid (w3.ownsRow (w.heap.size + 1) 107 64 (.slice (some ⟨g', 0, none⟩) (k + 1) cap) (k + 1) (flatC (bys (ss.take (k + 1))))) := by
    rw [bys_take_succ ss k hlt]; exact hown3
   have HB3 : Hid (Below w.heap.size w w3) := ((HB.out.trans (HB2.out.mono HB.out.size)).alloc (by omega) _).trans (hb3.mono (by omega))
   have hz3 : w.heap.size < w3.heap.size := by have := hb3.size; simp at this; omega
   clear hown3 hb3 hg3 hck hz2
   go_wp2
   go_roundw
   case rel => exact ⟨k + 1, _, _, by omega, by go_num, rfl, HB3, HO3, hz3⟩
   case measure => simp [intOf]; omega
  ·have hlt' : ¬ (k : Int) < (ss.length : Int) := by omega
   obtain rfl : k = ss.length := by omega
   have HD : Hid (AOwn wr w.heap.size (.slice av (bys ss).length cv) (bys ss)) := by
    have h := HO.out
    rw [List.take_length] at h
    refine ⟨ownsMono (base := w.heap.size + 1) ?_ (by omega), bys_64 H64.out⟩
    rw [bys_len]; exact h
   have HE : Hid ((bys ss).length = ss.length) := bys_len ss
   go_wp2
   go_ret
   exact ⟨av, cv, by rw [HE.out]; rfl, HD.out, HB.out⟩
end Go.Proofs.YtekjpoenbcnhdaaGreat

namespace Go.Proofs.YtekjpoenbcnhdaaGreat
open Go.RowKit
open DM
attribute [local go_sem ↓] Go.wp_at_zero Go.wp_at_succ

def wrt : List (List UInt8) → List Wr → List (List UInt8)
 | rows, [] => rows
 | rows, p :: ps => wrt (rows.set p.1.toNat (putL (rows.getD p.1.toNat []) p.2)) ps
theorem wrt_app : ∀ (rows : List (List UInt8)) (ps qs : List Wr), wrt rows (ps ++ qs) = wrt (wrt rows ps) qs
 | _, [], _ => rfl
 | rows, p :: ps, qs => by rw [List.cons_append, wrt, wrt, wrt_app]
theorem wrt_snoc (rows : List (List UInt8)) (ps : List Wr) (p : Wr) : wrt rows (ps ++ [p]) = (wrt rows ps).set p.1.toNat (putL ((wrt rows ps).getD p.1.toNat []) p.2) := by rw [wrt_app]; rfl
theorem wrt_len : ∀ (rows : List (List UInt8)) (ps : List Wr), (wrt rows ps).length = rows.length
 | _, [] => rfl
 | rows, p :: ps => by rw [wrt, wrt_len]; simp
theorem wrt_succ (rows : List (List UInt8)) (ws : List Wr) (k i : Nat) (hk : k < ws.length) (hi : ws[k].1 = (i : Int)) (hl : i < (wrt rows (ws.take k)).length) :
  wrt rows (ws.take (k + 1)) = (wrt rows (ws.take k)).set i (putL (wrt rows (ws.take k))[i] ws[k].2) := by
 rw [take_succ_p ws k hk, wrt_snoc, hi]
 simp [hl]

def txs (rows : List (List UInt8)) : List ByteArray := rows.map fun r => ⟨r.toArray⟩
theorem txs_len (rows : List (List UInt8)) : (txs rows).length = rows.length := by simp [txs]
theorem txs_take (rows : List (List UInt8)) (k : Nat) (h : k < rows.length) : (txs rows).take (k + 1) = (txs rows).take k ++ [⟨rows[k].toArray⟩] := by
 rw [take_succ_b _ k (by rw [txs_len]; exact h)]
 simp [txs]

def WOk (ws : List Wr) (n : Nat) : Prop := ∀ p ∈ ws, 0 ≤ p.1 ∧ p.1 < (n : Int) ∧ p.2.size ≤ 64

theorem run_store_new (cs : List Value) (hc : cs.length = 64) (h1 : ∀ u ∈ cs, u.oneCell' = true) (g : Nat) (V : World) (cur : Array Value) (hg : V.heap.size = g) (h2 : cur.size = 64) :
  (storeCells ⟨g, 0, none⟩ cs).run Tryz.prog (V.alloc (.cells cur 107)) = .ok () (V.alloc (.cells cs.toArray 107)) := by
 subst hg
 have h := run_storeCells_at Tryz.prog V.heap.size 0 107 cs 0 cur (V.alloc (.cells cur 107)) (heap_alloc_new V _) (by omega) h1
 have e1 : List.take (0 + 0) cur.toList ++ cs ++ List.drop (0 + 0 + cs.length) cur.toList = cs := by
  rw [List.take_zero, List.nil_append, List.drop_eq_nil_of_le (by have e : cur.toList.length = cur.size := Array.length_toList; omega), List.append_nil]
 rw [h, e1]
 exact congrArg (Result.ok _) (setRow_alloc V cur _ 107)

theorem conv64 (V : World) (l : List UInt8) (hl : l.length = 64) : (convert 22 9 (.slice (some ⟨V.heap.size, 0, none⟩) 64 64)).run Tryz.prog (V.alloc (.cells (bv l).toArray 107)).drew = .ok (.string ⟨l.toArray⟩) (V.alloc (.cells (bv l).toArray 107)).drew := by
 have h := run_convert_bytes_back (P := Tryz.prog) (V.alloc (.cells (bv l).toArray 107)).drew 22 9 5 ⟨V.heap.size, 0, none⟩ 64 l Tryz.underlying22 Tryz.underlying5 Tryz.underlying9 (fun j hj => by
  rw [Addr.add_lit, Nat.zero_add]
  show (V.alloc (.cells (bv l).toArray 107)).cell? ⟨V.heap.size, j, none⟩ = _
  rw [World.cell?_alloc_mark V _ 107 (0, 0) j]
  simp [bv, hj])
 rw [hl] at h
 exact h

theorem range_own {w : World} {base g c k : Nat} {rows : List (List UInt8)} (h : AOwn w base (.slice (some ⟨g, 0, none⟩) rows.length c) rows) (hk : k < rows.length) : w.rangeAt g (k * 64) (bv rows[k]) := fun j v hv => by
 have hj : j < 64 := by
  have := (List.getElem?_eq_some_iff.1 hv).1
  rw [bv_len, h.2 _ (List.getElem_mem hk)] at this
  exact this
 have hm : k * 64 + j < rows.length * 64 := by
  have : (k + 1) * 64 ≤ rows.length * 64 := Nat.mul_le_mul_right 64 hk
  omega
 rw [World.ownsRow.cellAt h.1 (k * 64 + j) hm, flat_at rows h.2 k hk j hj]
 exact hv

set_option maxRecDepth 100000 in
set_option maxHeartbeats 4000000 in
theorem wrt55 (rows : List (List UInt8)) (ws : List Wr) (a0 a2 : Option Addr) (c0 c2 : Nat) (hn : rows.length ≤ 1000) (hm : ws.length ≤ 1000) (hw : WOk ws rows.length) (w0 w : World) (hb : Below w0.heap.size w0 w) (ha : AOwn w w0.heap.size (.slice a0 rows.length c0) rows) (hp : PRow w0 a2 ws) :
  Calls Tryz.prog 74 #[.slice a0 rows.length c0, .slice a2 ws.length c2] w fun e w' => ∃ b1 d1, e = .returned (.agg #[.slice b1 rows.length d1, .slice none 0 0]) ∧ SOwn w' w0.heap.size (.slice b1 (txs (wrt rows ws)).length d1) (txs (wrt rows ws)) ∧ Below w0.heap.size w0 w' := by
 have HB0 : Hid (Below w0.heap.size w0 w) := hb
 have HA0 : Hid (AOwn w w0.heap.size (.slice a0 rows.length c0) rows) := ha
 have HP : Hid (PRow w0 a2 ws) := hp
 have HW : Hid (WOk ws rows.length) := hw
 have hz0 : w0.heap.size ≤ w.heap.size := hb.size
 clear hb ha hp hw
 go_enter Tryz.func74, Tryz.ntmps74
 go_wp2
 go_loopw [12] (fun t wr => ∃ (k : Nat) (rs : List (List UInt8)), k ≤ ws.length ∧ t = .int .i64 k ∧ Hid (rs = wrt rows (ws.take k)) ∧ Hid (rs.length = rows.length) ∧ Hid (AOwn wr w0.heap.size (.slice a0 rs.length c0) rs) ∧ Hid (Below w0.heap.size w0 wr) ∧ Hid (Bx wr w.heap.size (.slice none 0 0) (.slice none 0 0)) ∧ Hid (∀ g, (Value.slice a0 rs.length c0).ownBlock = some g → g < w.heap.size)) (fun t _ => ws.length - (intOf t).toNat)
 case atStart => exact ⟨0, rows, Nat.zero_le _, rfl, rfl, rfl, ⟨World.ownsRow.alloc HA0.out.1 _, HA0.out.2⟩, HB0.out.alloc hz0 _, Bx.new w _ _ 27, fun g hg => (World.ownsRow.lt HA0.out.1 g hg).2⟩
 case round =>
  obtain ⟨k, rs, hk, rfl, HR, HRL, HA, HB, HX, HG⟩ := hrel
  have hrl : rs.length = rows.length := HRL.out
  by_cases hlt : k < ws.length
  ·have hlt' : (k : Int) < (ws.length : Int) := by omega
   have h0 : (0 : Int) ≤ (k : Int) := by omega
   obtain ⟨b, off, rfl, hbl, hc⟩ := (HP.out.below HB.out) (by omega)
   have hck := (hc k hlt).1
   have hcl := (hc k hlt).2
   have hwk := HW.out _ (List.getElem_mem hlt)
   obtain ⟨m, hm1⟩ := Int.eq_ofNat_of_zero_le hwk.1
   have HM : Hid (ws[k].1 = (m : Int)) := hm1
   have hmn : (m : Int) < (rows.length : Int) := by rw [← hm1]; exact hwk.2.1
   have hm0 : (0 : Int) ≤ (m : Int) := by omega
   have HT : Hid (ws[k].2.size ≤ 64) := hwk.2.2
   obtain ⟨g, rfl, hbg, hgl⟩ := own_form HA.out.1 (by omega)
   have hgw : g < w.heap.size := HG.out g rfl
   rw [hm1] at hck
   clear hc hwk hm1
   have HN : Hid (some wr.heap.size ≠ some g) := fun e => by have := Option.some.inj e; omega
   have Z1 : Hid (Bx (wr.alloc (.cells #[.int .i64 (m : Int), .string ws[k].2] 56)) wr.heap.size (.int .i64 (m : Int)) (.string ws[k].2)) := Bx.new _ _ _ _
   have HA1 : Hid (AOwn (wr.alloc (.cells #[.int .i64 (m : Int), .string ws[k].2] 56)) w0.heap.size (.slice (some ⟨g, 0, none⟩) rs.length c0) rs) := ⟨World.ownsRow.alloc HA.out.1 _, HA.out.2⟩
   have HMR : Hid (m < rs.length) := by show _ < _; omega
   go_wp2
   go_region_held3 (fun w' => w'.cell? ⟨wr.heap.size, 0, none⟩ = some (.int .i64 (m : Int)) ∧ w'.cell? ⟨wr.heap.size, 1, none⟩ = some (.string ws[k].2)) (first | go_keep | exact tP.out) ((refine stepPut (by rfl) _ _ (by rfl) (i := m) (rows := rs) (by rfl) (by rfl) (W := (wr.alloc (.cells #[.int .i64 (m : Int), .string ws[k].2] 56)).drew) HA1.out HMR.out HT.out ?_; intro w3 hA3 hg3; have tP : Hid (w3.cell? ⟨wr.heap.size, 0, none⟩ = some (.int .i64 (m : Int)) ∧ w3.cell? ⟨wr.heap.size, 1, none⟩ = some (.string ws[k].2)) := ⟨(Z1.out.drew.keepG hg3 HN.out).c0, (Z1.out.drew.keepG hg3 HN.out).c1⟩))
   all_goals
    have HR3 : Hid (rs.set m (putL (rs[m]'HMR.out) ws[k].2) = wrt rows (ws.take (k + 1))) := by
     have h := HR.out
     have hl : m < (wrt rows (ws.take k)).length := by rw [← h]; exact HMR.out
     rw [wrt_succ rows ws k m hlt HM.out hl]
     subst h
     rfl
    have HL3 : Hid ((rs.set m (putL (rs[m]'HMR.out) ws[k].2)).length = rows.length) := by show _ = _; rw [List.length_set]; exact HRL.out
    have HA3 : Hid (AOwn w3 w0.heap.size (.slice (some ⟨g, 0, none⟩) (rs.set m (putL (rs[m]'HMR.out) ws[k].2)).length c0) (rs.set m (putL (rs[m]'HMR.out) ws[k].2))) := hA3
    have HB3 : Hid (Below w0.heap.size w0 w3) := (HB.out.alloc HB.out.size _).drew.grown hg3 (by have := HB.out.size; show _ ≤ (wr.alloc _).heap.size; simp; omega) (fun j hj => by cases hj; exact hbg)
    have HX3 : Hid (Bx w3 w.heap.size (.slice none 0 0) (.slice none 0 0)) := ((HX.out.alloc (.cells #[.int .i64 (m : Int), .string ws[k].2] 56)).drew.keepG hg3 (fun e => by have := Option.some.inj e; omega))
    have HG3 : Hid (∀ q, (Value.slice (some ⟨g, 0, none⟩) (rs.set m (putL (rs[m]'HMR.out) ws[k].2)).length c0).ownBlock = some q → q < w.heap.size) := fun q hq => by cases hq; exact hgw
    clear hA3 hg3 tP hck hcl
    generalize rs.set m (putL (rs[m]'HMR.out) ws[k].2) = rs3 at *
    go_wp2
    go_roundw
    case rel => exact ⟨k + 1, rs3, by omega, by go_num, HR3, HL3, HA3, HB3, HX3, HG3⟩
    case measure => simp [intOf]; omega
  ·have hlt' : ¬ (k : Int) < (ws.length : Int) := by omega
   obtain rfl : k = ws.length := by omega
   have HRS : Hid (rs = wrt rows ws) := by have h := HR.out; rw [List.take_length] at h; exact h
   have hO : w.heap.size < wr.heap.size := HX.out.lt
   have HX1 : Hid (Bx (wr.alloc (.cells #[.slice none 0 0, .slice none 0 0] 27)) w.heap.size (.slice none 0 0) (.slice none 0 0)) := HX.out.alloc _
   have HO1 : Hid (Bx (wr.alloc (.cells #[.slice none 0 0, .slice none 0 0] 27)) wr.heap.size (.slice none 0 0) (.slice none 0 0)) := Bx.new _ _ _ _
   have HA1 : Hid (AOwn (wr.alloc (.cells #[.slice none 0 0, .slice none 0 0] 27)) w0.heap.size (.slice a0 rs.length c0) rs) := ⟨World.ownsRow.alloc HA.out.1 _, HA.out.2⟩
   have HB1 : Hid (Below w0.heap.size w0 (wr.alloc (.cells #[.slice none 0 0, .slice none 0 0] 27))) := HB.out.alloc HB.out.size _
   have hzr : w0.heap.size ≤ wr.heap.size := HB.out.size
   clear HR HX HA HB
   go_wp2
   generalize hOO : wr.heap.size = O at *
   go_loopw [27] (fun t wq => ∃ (k : Nat) (av : Option Addr) (cv : Nat), k ≤ rows.length ∧ t = .int .i64 k ∧ Hid (Below w0.heap.size w0 wq) ∧ Hid (Bx wq w.heap.size (.slice none 0 0) (.slice none 0 0)) ∧ Hid (Bx wq O (.slice av k cv) (.slice none 0 0)) ∧ Hid (AOwn wq w0.heap.size (.slice a0 rs.length c0) rs) ∧ Hid (wq.ownsRow (O + 1) 9 1 (.slice av k cv) k (scs ((txs rs).take k)))) (fun t _ => rows.length - (intOf t).toNat)
   case atStart => exact ⟨0, none, 0, Nat.zero_le _, rfl, HB1, HX1, HO1, HA1, World.ownsRow_nil _ _ _ _⟩
   case round =>
    clear HX1 HO1 HA1 HB1
    obtain ⟨k, av, cv, hk, rfl, HB, HX, HO, HA, HV⟩ := hrel
    by_cases hlt : k < rows.length
    ·have hlt2 : (k : Int) < (rows.length : Int) := by omega
     have h0 : (0 : Int) ≤ (k : Int) := by omega
     obtain ⟨g, rfl, hbg, hgl⟩ := own_form HA.out.1 (by omega)
     have hkr : k < rs.length := by omega
     have HRG : Hid (wr.rangeAt g (k * 64) (bv rs[k])) := range_own HA.out hkr
     have HL : Hid ((bv rs[k]).length = 64) := by show _ = _; rw [bv_len]; exact HA.out.2 _ (List.getElem_mem hkr)
     have HI : Hid ((Tryz.prog.info? 107).map (·.size) = some (bv rs[k]).length) := by show _ = _; rw [HL.out]; exact info88s
     go_wp2_with (refine wpList_load_mid rfl 107 _ rfl g (k * 64) rfl (bv rs[k]) _ HRG.out Tryz.underlying107 rfl HI.out ?_)
     have hol : O < wr.heap.size := HO.out.lt
     have hl64 : rs[k].length = 64 := by have := HL.out; rw [bv_len] at this; exact this
     have hcv := conv64 wr rs[k] hl64
     rw [run_store_new (bv rs[k]) HL.out (bv_one _)]
     ·have Z2 : Hid (Bx (wr.alloc (.cells (bv rs[k]).toArray 107)) O (.slice av k cv) (.slice none 0 0)) := HO.out.alloc _
      have o0 := Z2.out.c0
      have of0 := Z2.out.fz
      have HV1 : Hid ((wr.alloc (.cells (bv rs[k]).toArray 107)).ownsRow (O + 1) 9 1 (.slice av k cv) k (scs ((txs rs).take k))) := World.ownsRow.alloc HV.out _
      clear hl64
      go_wp2
      go_region_law (first
       | (refine stepAppH 24 9 1 16 (.string ByteArray.empty) Tryz.underlying24 Tryz.info9 rfl (by decide) (by omega) (by rfl) _ _ (by rfl) (base := O + 1) (n := k) [.string ⟨rs[k].toArray⟩] (by rfl) (xs := scs ((txs rs).take k)) ?ho (by rfl) ?hblk rfl (by simp [Value.oneCell']) (by omega) (by simp; omega) ?_
          case ho => exact World.ownsRow.alloc HV1.out _
          case hblk => first | exact hblk_new (by simp) | exact hblk_drew (hblk_new (by simp))
          intro g' cap w3 hown3 hb3 hg3
          have Y23 := ((Z2.out.alloc (.cells #[.string ⟨rs[k].toArray⟩] 9)).drew.keep hb3 (by omega))
          have o3 := Y23.c0; have of3 := Y23.fz; have ol3 := Y23.lt))
      all_goals
       have HV3 : Hid ((w3.setCell ⟨O, 0, none⟩ (.slice (some ⟨g', 0, none⟩) (k + 1) cap)).ownsRow (O + 1) 9 1 (.slice (some ⟨g', 0, none⟩) (k + 1) cap) (k + 1) (scs ((txs rs).take (k + 1)))) := by
        rw [txs_take rs k hkr, scs_app]
        exact ownsRow_setCell_below hown3 (by show O < O + 1; omega) _
       have HA3 : Hid (AOwn (w3.setCell ⟨O, 0, none⟩ (.slice (some ⟨g', 0, none⟩) (k + 1) cap)) w0.heap.size (.slice (some ⟨g, 0, none⟩) rs.length c0) rs) := by
        have q1 := World.ownsRow.alloc (World.ownsRow.alloc HA.out.1 (.cells (bv rs[k]).toArray 107)) (.cells #[.string ⟨rs[k].toArray⟩] 9)
        have q2 := World.ownsRow.alloc HV1.out (.cells #[.string ⟨rs[k].toArray⟩] 9)
        have hg4 : ((wr.alloc (.cells (bv rs[k]).toArray 107)).alloc (.cells #[.string ⟨rs[k].toArray⟩] 9)).grownBy w3 (Value.slice av k cv).ownBlock := ⟨hg3.os, hg3.tape, hg3.output, hg3.size, hg3.block⟩
        have q3 := World.ownsRow.kept q1 hg4 (own_apart q1 q2 (by decide))
        refine ⟨own_set q3 (fun e => ?_), HA.out.2⟩
        have := HG.out _ e
        omega
       have HB2 : Hid (Below w0.heap.size w0 w3) := (((HB.out.alloc HB.out.size _).alloc (by have := HB.out.size; simp; omega) _).drew).trans (hb3.mono (by omega))
       have HX3 : Hid (Bx (w3.setCell ⟨O, 0, none⟩ (.slice (some ⟨g', 0, none⟩) (k + 1) cap)) w.heap.size (.slice none 0 0) (.slice none 0 0)) := (((HX.out.alloc (.cells (bv rs[k]).toArray 107)).alloc (.cells #[.string ⟨rs[k].toArray⟩] 9)).drew.keep hb3 (by omega)).setO (by show O ≠ w.heap.size; omega) _
       have HO3 : Hid (Bx (w3.setCell ⟨O, 0, none⟩ (.slice (some ⟨g', 0, none⟩) (k + 1) cap)) O (.slice (some ⟨g', 0, none⟩) (k + 1) cap) (.slice none 0 0)) := Y23.set0 _
       have HB3 : Hid (Below w0.heap.size w0 (w3.setCell ⟨O, 0, none⟩ (.slice (some ⟨g', 0, none⟩) (k + 1) cap))) := HB2.out.setCell (by show w0.heap.size ≤ O; omega) _
       clear hown3 hb3 hg3 Y23 o3 of3 ol3 o0 of0 hcv
       go_wp2
       go_roundw
       case rel => exact ⟨k + 1, _, _, by omega, by go_num, HB3, HX3, HO3, HA3, HV3⟩
       case measure => simp [intOf]; omega
     ·rfl
     ·rfl
    ·have hlt2 : ¬ (k : Int) < (rows.length : Int) := by omega
     obtain rfl : k = rows.length := by omega
     have q0 := HO.out.c0
     have q1 := HO.out.c1
     have r0 := HX.out.c0
     have r1 := HX.out.c1
     have rf := HX.out.fz
     have HE : Hid ((txs (wrt rows ws)).length = rows.length) := by show _ = _; rw [txs_len, wrt_len]
     have HS : Hid (SOwn wr (O + 1) (.slice av (txs (wrt rows ws)).length cv) (txs (wrt rows ws))) := by
      have h := HV.out
      rw [← HRS.out, txs_len, hrl]
      rw [List.take_of_length_le (by rw [txs_len]; omega)] at h
      show World.ownsRow _ _ _ _ _ _ _
      rw [txs_len, hrl]
      exact h
     clear HV
     go_wp2
     refine bodyPost_ret (v := .agg #[.slice av rows.length cv, .slice none 0 0]) (by simp [results, Tryz.results74, go_sem, r0, r1]) rfl ⟨av, cv, rfl, ?_, ?_⟩
     ·exact ((HS.out.set (by show w.heap.size < O + 1; omega) _).set (by show w.heap.size < O + 1; omega) _).mono (by omega)
     ·exact (HB.out.setCell (by show w0.heap.size ≤ w.heap.size; omega) _).setCell (by show w0.heap.size ≤ w.heap.size; omega) _
end Go.Proofs.YtekjpoenbcnhdaaGreat

namespace Go.Proofs.YtekjpoenbcnhdaaGreat
open Go.RowKit
open DM
attribute [local go_sem ↓] Go.wp_at_zero Go.wp_at_succ

def longB (n : Nat) (x : UInt8) : ByteArray := ⟨(List.replicate n x).toArray⟩

set_option maxRecDepth 100000 in
set_option maxHeartbeats 1000000 in
theorem long84 (n : Nat) (x : UInt8) (hn : n ≤ 30000) (w : World) :
  Calls Tryz.prog 61 #[.int .i64 (n : Int), .int .u8 (x.toNat : Int)] w fun e w' => e = .returned (.string (longB n x)) ∧ Below w.heap.size w w' := by
 have hmk := mkRow 22 5 1 1 _ Tryz.underlying22 Tryz.info5 n (by omega) (by omega)
 go_enter Tryz.func61, Tryz.ntmps61
 go_wp2
 clear hmk
 have HO : Hid ((w.alloc (.cells (madeCells #[Value.int .u8 0] n) 5)).ownsRow w.heap.size 5 1 (.slice (some ⟨w.heap.size, 0, none⟩) n n) n (madeCells #[Value.int .u8 0] n).toList) :=
  World.ownsRow_lit w _ _ (Nat.le_refl _) (by unfold maxLen; omega) (by rw [size_madeCells, Nat.mul_one])
 go_loopw [6] (fun t wr => ∃ (k : Nat) (xs : List Value), k ≤ n ∧ t = .int .i64 k ∧ Hid (wr.ownsRow w.heap.size 5 1 (.slice (some ⟨w.heap.size, 0, none⟩) n n) n xs) ∧ Hid (∀ j, j < k → xs[j]? = some (.int .u8 (x.toNat : Int))) ∧ Hid (Below w.heap.size w wr)) (fun t _ => n - (intOf t).toNat)
 case atStart => exact ⟨0, _, Nat.zero_le _, rfl, HO, fun j hj => by omega, (belowRefl w).alloc (Nat.le_refl _) _⟩
 case round =>
  obtain ⟨k, xs, hk, rfl, HX, HA, HB⟩ := hrel
  by_cases hlt : k < n
  ·have hlt' : (k : Int) < (n : Int) := by omega
   have h0 : (0 : Int) ≤ (k : Int) := by omega
   have hlen := HX.out.1
   have hq : wr.cell? ⟨w.heap.size, k, none⟩ = some (xs[k]'(by omega)) := by rw [World.ownsRow.cellAt HX.out k (by omega)]; simp
   have hfz := World.ownsRow.frozenAt HX.out k
   have st := World.ownsRow.stored HX.out k (.int .u8 (x.toNat : Int))
   have HX3 : Hid _ := st.1
   have HA2 : Hid (∀ j, j < k + 1 → (xs.set k (.int .u8 (x.toNat : Int)))[j]? = some (.int .u8 (x.toNat : Int))) := fun j hj => by
    by_cases e : j = k
    ·subst e; rw [List.getElem?_set_self (by omega)]
    ·rw [List.getElem?_set_ne (by omega)]; exact HA.out j (by omega)
   clear st
   go_wp2
   go_roundw
   case rel => exact ⟨k + 1, _, by omega, by go_num, HX3, HA2, HB.out.setCell (Nat.le_refl _) _⟩
   case measure => simp [intOf]; omega
  ·have hlt' : ¬ (k : Int) < (n : Int) := by omega
   have HOw : Own wr w.heap.size (.slice (some ⟨w.heap.size, 0, none⟩) n n) (List.replicate n x) := by
    have e : xs = bv (List.replicate n x) := by
     apply List.ext_getElem?
     intro j
     have hlen := HX.out.1
     by_cases hj : j < n
     ·rw [HA.out j (by omega)]; simp [bv, hj]
     ·rw [List.getElem?_eq_none (by omega), List.getElem?_eq_none (by rw [bv_len]; simp; omega)]
    unfold Own
    rw [← e, List.length_replicate]
    exact HX.out
   have hst := HOw.str
   clear HOw
   go_wp2
   go_ret
   exact ⟨rfl, HB.out⟩

set_option maxHeartbeats 400000 in
theorem zero71 (w : World) : Calls Tryz.prog 101 #[] w fun e w' => e = .returned (.string (longB 64 0)) ∧ Below w.heap.size w w' := by
 have c := long84 64 0 (by omega) w
 rw [show (((0 : UInt8).toNat : Nat) : Int) = 0 from rfl, show ((64 : Nat) : Int) = 64 from rfl] at c
 go_enter Tryz.func101, Tryz.ntmps101
 go_wp2_with fail
 refine c.mono ?_
 clear c
 rintro e w2 ⟨rfl, hb2⟩
 go_wp2
 go_ret
 exact ⟨rfl, hb2⟩

def zerosS (n : Nat) : List ByteArray := List.replicate n (longB 64 0)
theorem zerosS_take (n k : Nat) (h : k < n) : (zerosS n).take (k + 1) = (zerosS n).take k ++ [longB 64 0] := by
 rw [take_succ_b _ k (by simpa [zerosS] using h)]
 simp [zerosS]
def nwB (n : Int) : Bool := decide (1 ≤ n ∧ n ≤ 100)
def nwS (n : Int) : List ByteArray := if nwB n = true then zerosS n.toNat else []
theorem nwS_no {n : Int} (h : nwB n = false) : nwS n = [] := if_neg (by simp [h])
theorem nwS_yes {n : Int} (h : nwB n = true) : nwS n = zerosS n.toNat := if_pos h

set_option maxRecDepth 100000 in
set_option maxHeartbeats 2000000 in
theorem snew39 (n : Int) (w : World) :
  Calls Tryz.prog 89 #[.int .i64 n] w fun e w' => ∃ b1 d1 b2 d2, e = .returned (.tuple #[.agg #[.slice b1 (nwS n).length d1, .slice b2 ([] : List Wr).length d2], .bool (nwB n)]) ∧ DOwn w' w.heap.size b1 d1 b2 d2 (nwS n) [] ∧ Below w.heap.size w w' := by
 cases hb : nwB n with
 | false =>
  have HE : Hid (nwS n = []) := nwS_no hb
  have HI : Hid (decide ((1 : Int) ≤ n ∧ n ≤ 100) = false) := hb
  go_enter Tryz.func89, Tryz.ntmps89
  go_wp2_with (go_at_call 83; refine (in57 _ _ _ false HI.out _).mono ?_; rintro e w2 ⟨rfl, rfl⟩)
  refine bodyPost_ret (v := .tuple #[.agg #[.slice none 0 0, .slice none 0 0], .bool false]) (by simp [results, Tryz.results89, go_sem]) rfl ⟨none, 0, none, 0, ?_, ⟨?_, POwn.nil _ _⟩, (belowRefl w).alloc (Nat.le_refl _) _⟩
  ·rw [HE.out]; rfl
  ·rw [HE.out]; exact SOwn.nil _ _
 | true =>
  have hin : 1 ≤ n ∧ n ≤ 100 := by simpa [nwB] using hb
  have HI : Hid (decide ((1 : Int) ≤ n ∧ n ≤ 100) = true) := hb
  obtain ⟨m, rfl⟩ := Int.eq_ofNat_of_zero_le (show 0 ≤ n by omega)
  have HE : Hid (zerosS m = nwS (m : Int)) := by show _ = _; rw [nwS_yes hb]; rfl
  have HX1 : Hid (Bx ((w.alloc (.cells #[.slice none 0 0, .slice none 0 0] 27)).alloc (.cells #[.slice none 0 0, .slice none 0 0] 27)) w.heap.size (.slice none 0 0) (.slice none 0 0)) := (Bx.new w _ _ _).alloc _
  have HX2 : Hid (Bx ((w.alloc (.cells #[.slice none 0 0, .slice none 0 0] 27)).alloc (.cells #[.slice none 0 0, .slice none 0 0] 27)) (w.heap.size + 1) (.slice none 0 0) (.slice none 0 0)) := by
   have h := Bx.new (w.alloc (.cells #[.slice none 0 0, .slice none 0 0] 27)) (.slice none 0 0) (.slice none 0 0) 27
   show Bx _ _ _ _
   simpa using h
  go_enter Tryz.func89, Tryz.ntmps89
  go_wp2_with (go_at_call 83; refine (in57 _ _ _ true HI.out _).mono ?_; rintro e w2 ⟨rfl, rfl⟩)
  go_loopw [5] (fun t wr => ∃ (k : Nat) (av : Option Addr) (cv : Nat), k ≤ m ∧ t = .int .i64 k ∧ Hid (Below w.heap.size w wr) ∧ Hid (Bx wr w.heap.size (.slice none 0 0) (.slice none 0 0)) ∧ Hid (Bx wr (w.heap.size + 1) (.slice av k cv) (.slice none 0 0)) ∧ Hid (wr.ownsRow (w.heap.size + 1 + 1) 9 1 (.slice av k cv) k (scs ((zerosS m).take k)))) (fun t _ => m - (intOf t).toNat)
  case atStart => exact ⟨0, none, 0, Nat.zero_le _, rfl, ((belowRefl _).alloc (Nat.le_refl _) _).alloc (by simp) _, HX1, HX2, World.ownsRow_nil _ _ _ _⟩
  case round =>
   clear HX1 HX2
   obtain ⟨k, av, cv, hk, rfl, HB, Y1, Y2, HO⟩ := hrel
   by_cases hlt : k < m
   ·have hlt' : (k : Int) < (m : Int) := by omega
    have o0 := Y2.out.c0
    have of0 := Y2.out.fz
    have olt := Y2.out.lt
    go_wp2
    go_region_law (first
     | (refine stepAppH 24 9 1 16 (.string ByteArray.empty) Tryz.underlying24 Tryz.info9 rfl (by decide) (by omega) (by rfl) _ _ (by rfl) (base := w.heap.size + 1 + 1) [.string (longB 64 0)] (by rfl) (World.ownsRow.alloc (ownsBelow HO.out HB2.out) _) (by rfl) (by exact heap_alloc_new w2 _) rfl (by simp [Value.oneCell']) (by omega) (by simp; omega) ?_; intro g' cap w3 hown3 hb3 hg3; have Y23 := ((Y2.out.keep HB2.out olt).alloc (.cells #[.string (longB 64 0)] 9)).keep hb3 (by omega); have o3 := Y23.c0; have of3 := Y23.fz; have ol3 := Y23.lt)
     | (go_simp; go_at_call 101; refine (zero71 _).mono ?_; rintro e w2 ⟨rfl, hb2⟩; have HB2 : Hid (Below wr.heap.size wr w2) := undrew hb2; have o2 := (Y2.out.keep HB2.out olt).c0; have ol2 := (Y2.out.keep HB2.out olt).lt))
    all_goals
     have hz : w.heap.size + 1 + 1 ≤ wr.heap.size := olt
     have HB3 : Hid (Below (w.heap.size + 1 + 1) wr w3) := ((HB2.out.mono hz).alloc (Nat.le_trans hz HB2.out.size) _).trans hb3
     have HO3 : Hid ((w3.setCell ⟨w.heap.size + 1, 0, none⟩ (.slice (some ⟨g', 0, none⟩) (k + 1) cap)).ownsRow (w.heap.size + 1 + 1) 9 1 (.slice (some ⟨g', 0, none⟩) (k + 1) cap) (k + 1) (scs ((zerosS m).take (k + 1)))) := by
      rw [zerosS_take m k hlt, scs_app]
      exact ownsRow_setCell_below hown3 (by show _ + 1 < _; omega) _
     have V1 : Hid (Bx (w3.setCell ⟨w.heap.size + 1, 0, none⟩ (.slice (some ⟨g', 0, none⟩) (k + 1) cap)) w.heap.size (.slice none 0 0) (.slice none 0 0)) := (Y1.out.keep HB3.out (by omega)).setO (by show _ + 1 ≠ _; omega) _
     have V2 : Hid (Bx (w3.setCell ⟨w.heap.size + 1, 0, none⟩ (.slice (some ⟨g', 0, none⟩) (k + 1) cap)) (w.heap.size + 1) (.slice (some ⟨g', 0, none⟩) (k + 1) cap) (.slice none 0 0)) := (Y2.out.keep HB3.out (by omega)).set0 _
     have HB4 : Hid (Below w.heap.size w (w3.setCell ⟨w.heap.size + 1, 0, none⟩ (.slice (some ⟨g', 0, none⟩) (k + 1) cap))) := (HB.out.trans (HB3.out.mono (by omega))).setCell (by show _ ≤ _ + 1; omega) _
     clear hown3 hb3 hg3 Y23 o3 of3 ol3 o2 ol2 o0 of0 olt
     go_wp2
     go_roundw
     case rel => exact ⟨k + 1, _, _, by omega, by go_num, HB4, V1, V2, HO3⟩
     case measure => simp [intOf]; omega
   ·have hlt' : ¬ (k : Int) < (m : Int) := by omega
    obtain rfl : k = m := by omega
    have HL : Hid ((nwS (k : Int)).length = k) := by show _ = _; rw [← HE.out]; simp [zerosS]
    have HS1 : Hid (SOwn wr (w.heap.size + 1 + 1) (.slice av (nwS (k : Int)).length cv) (nwS (k : Int))) := by
     have h := HO.out
     rw [List.take_of_length_le (by simp [zerosS]), HE.out] at h
     show World.ownsRow _ _ _ _ _ _ _
     rw [HL.out]
     exact h
    have q0 := Y2.out.c0
    have q1 := Y2.out.c1
    have r0 := Y1.out.c0
    have r1 := Y1.out.c1
    have rf := Y1.out.fz
    clear HO
    go_wp2
    refine bodyPost_ret (v := .tuple #[.agg #[.slice av k cv, .slice none 0 0], .bool true]) (by simp [results, Tryz.results89, go_sem, r0, r1]) rfl ⟨av, cv, none, 0, ?_, ⟨?_, POwn.nil _ _⟩, ?_⟩
    ·rw [HL.out]
    ·exact ((HS1.out.set (by show w.heap.size < _; omega) _).set (by show w.heap.size < _; omega) _).mono (by omega)
    ·exact (HB.out.setCell (Nat.le_refl _) _).setCell (Nat.le_refl _) _
end Go.Proofs.YtekjpoenbcnhdaaGreat

namespace Go.Proofs.YtekjpoenbcnhdaaGreat
open Go.RowKit
open DM
attribute [local go_sem ↓] Go.wp_at_zero Go.wp_at_succ

def noW (_ : Int) : List Wr := []
theorem snewP (n : Int) (w : World) :
  Calls Tryz.prog 89 #[.int .i64 n] w fun e w' => ∃ b1 d1 b2 d2, e = .returned (.tuple #[.agg #[.slice b1 (nwS n).length d1, .slice b2 (noW n).length d2], .bool (nwB n)]) ∧ DOwn w' w.heap.size b1 d1 b2 d2 (nwS n) (noW n) ∧ Below w.heap.size w w' := snew39 n w
def lgS : List ByteArray := nwS 97
def lgP : List Wr := noW 97

theorem secs52 (w : World) : Calls Tryz.prog 85 #[] w fun e w' => e = .returned (.int .i64 97) ∧ w' = w := by
 go_enter Tryz.func85, Tryz.ntmps85
 go_wp2
 go_ret
 exact ⟨rfl, rfl⟩

set_option maxHeartbeats 1000000 in
theorem slog16 (w : World) :
  Calls Tryz.prog 62 #[] w fun e w' => ∃ b1 d1 b2 d2, e = .returned (.agg #[.slice b1 lgS.length d1, .slice b2 lgP.length d2]) ∧ DOwn w' w.heap.size b1 d1 b2 d2 lgS lgP ∧ Below w.heap.size w w' := by
 have HC : Hid (∀ w : World, Calls Tryz.prog 89 #[.int .i64 97] w fun e w' => ∃ b1 d1 b2 d2, e = .returned (.tuple #[.agg #[.slice b1 lgS.length d1, .slice b2 lgP.length d2], .bool true]) ∧ DOwn w' w.heap.size b1 d1 b2 d2 lgS lgP ∧ Below w.heap.size w w') := fun w => snewP 97 w
 generalize lgS = S at *
 generalize lgP = P at *
 go_enter Tryz.func62, Tryz.ntmps62
 go_wp2_with (first | (go_at_call 85; refine (secs52 _).mono ?_; rintro e w1 ⟨rfl, rfl⟩) | fail)
 refine (HC.out _).mono ?_
 rintro e w2 ⟨r1, r2, r3, r4, rfl, hd2, hb2⟩
 have X0 : Hid (Bx w2 w.heap.size (.slice none 0 0) (.slice none 0 0)) := (Bx.new w _ _ 27).keep hb2 (by simp)
 have HB2 : Hid (Below w.heap.size w w2) := ((belowRefl w).alloc (Nat.le_refl _) _).trans (hb2.mono (by simp))
 have HD2 : Hid (DOwn w2 (w.heap.size + 1) r1 r2 r3 r4 S P) := by
  have h := hd2
  rw [World.size_alloc] at h
  exact h
 clear hd2 hb2
 have k0 := X0.out.c0
 have k1 := X0.out.c1
 have kf := X0.out.fz
 have kl := X0.out.lt
 have X3 : Hid (Bx (w2.alloc (.cells #[.slice r1 S.length r2, .slice r3 P.length r4] 27)) w.heap.size (.slice none 0 0) (.slice none 0 0)) := X0.out.alloc _
 have q0 := X3.out.c0
 have q1 := X3.out.c1
 have qf := X3.out.fz
 go_wp2
 have X4 : Hid (Bx (((w2.setCell ⟨w.heap.size, 0, none⟩ (.slice r1 S.length r2)).setCell ⟨w.heap.size, 1, none⟩ (.slice r3 P.length r4)).alloc (.cells #[.slice r1 S.length r2, .slice r3 P.length r4] 27)) w.heap.size (.slice r1 S.length r2) (.slice r3 P.length r4)) := ((X0.out.set0 _).set1 _).alloc _
 have y0 := X4.out.c0
 have y1 := X4.out.c1
 refine bodyPost_ret (v := .agg #[.slice r1 S.length r2, .slice r3 P.length r4]) (by simp [results, Tryz.results62, go_sem, y0, y1]) rfl ⟨r1, r2, r3, r4, rfl, ⟨?_, ?_⟩, ?_⟩
 ·exact (((HD2.out.s.set (by show w.heap.size < _; omega) _).set (by show w.heap.size < _; omega) _).alloc _).mono (by omega)
 ·exact (((HD2.out.p.set (by show w.heap.size < _; omega) _).set (by show w.heap.size < _; omega) _).alloc _).mono (by omega)
 ·exact ((HB2.out.setCell (Nat.le_refl _) _).setCell (Nat.le_refl _) _).alloc (by simp [World.setCell]; omega) _

end Go.Proofs.YtekjpoenbcnhdaaGreat
