/- The law FnExactBaseOk, walked. -/
import Derived.Test.YtpnnncfbodfnhaaGreatDoorPd18
import Derived.Test.YtpnnncfbodfnhaaGreatDoorPd19
import Derived.Test.YtpnnncfbodfnhaaGreatDoorPd12
import Derived.Test.YtpnnncfbodfnhaaGreatDoorPd09
import Derived.Deep.RegionHeld3
import Derived.Deep.Cut
import Derived.Deep.CutRange
import Derived.Laws.EntriesVeiled
import Derived.Test.YtpnnncfbodfnhaaGreatDoorPd13
namespace Go.Proofs.YtpnnncfbodfnhaaGreatDoor
open Go.RowKit
open KM
attribute [local go_sem ↓] Go.wp_at_zero Go.wp_at_succ

theorem pst_same {xs ys : List Ta} {cs : Int} (h : txs ys = txs xs) (hg : pstG xs cs) : pstG ys cs := fun j hj => by
 have hl : ys.length = xs.length := by rw [← txs_len, h, txs_len]
 have e : ∀ i (hi : i < ys.length), ys[i].t = (xs[i]'(by omega)).t := fun i hi => by
  have h1 : (txs ys)[i]? = (txs xs)[i]? := by rw [h]
  simpa [txs, List.getElem?_eq_getElem hi, List.getElem?_eq_getElem (show i < xs.length by omega)] using h1
 have h2 := hg j (by omega)
 rw [e j hj]
 refine ⟨h2.1, fun h0 => ?_⟩
 rw [e (j - 1) (by omega)]
 exact h2.2 h0
theorem rdy_same {xs ys : List Ta} {cs : Int} (h : txs ys = txs xs) (hg : rdyG xs cs) : rdyG ys cs := fun j hj => by
 have hl : ys.length = xs.length := by rw [← txs_len, h, txs_len]
 have e : ∀ i (hi : i < ys.length), ys[i].t = (xs[i]'(by omega)).t := fun i hi => by
  have h1 : (txs ys)[i]? = (txs xs)[i]? := by rw [h]
  simpa [txs, List.getElem?_eq_getElem hi, List.getElem?_eq_getElem (show i < xs.length by omega)] using h1
 have h2 := hg j (by omega)
 rw [e j hj]
 refine ⟨h2.1, fun h0 => ?_⟩
 rw [e (j - 1) (by omega)]
 exact h2.2 h0
theorem ids_same {xs ys : List Ta} (h : txs ys = txs xs) : ys.map (fun x : Ta => x.t.id) = xs.map (fun x : Ta => x.t.id) := by
 have e : ∀ zs : List Ta, zs.map (fun x : Ta => x.t.id) = (txs zs).map (·.id) := fun zs => by simp [txs, Function.comp_def]
 rw [e, e, h]
theorem sb_mono {b c : Bb} (h : BSame b c) (hb : SbP b) : SbP c := by
 obtain ⟨h1, h2, h3, h4, h5, h6, h7, h8, h9⟩ := hb
 refine ⟨by rw [h.v]; exact h1, by rw [h.pl]; exact h2, by rw [h.ql]; exact h3, by rw [h.cs]; exact h4, by rw [h.nx]; exact h5, ?_, by rw [h.cs]; exact pst_same h.p h7, by rw [h.cs]; exact rdy_same h.q h8, by rw [ids_same h.p, ids_same h.q, h.nx]; exact h9⟩
 intro j hj
 have hv := h.v
 have hj' : j < b.vs.length := by rw [← hv]; exact hj
 have := h6 j hj'
 rw [h.cs]
 simpa only [hv] using this
theorem sb_same {b c : Bb} (h : BSame b c) : sbB c = sbB b := by
 unfold sbB
 rw [Bool.eq_iff_iff, decide_eq_true_eq, decide_eq_true_eq]
 exact ⟨sb_mono h.symm, sb_mono h⟩

end Go.Proofs.YtpnnncfbodfnhaaGreatDoor

namespace Go.Proofs.YtpnnncfbodfnhaaGreatDoor
open Go.RowKit
open KM
attribute [local go_sem ↓] Go.wp_at_zero Go.wp_at_succ

set_option maxRecDepth 100000 in
set_option maxHeartbeats 2000000 in
theorem right273 (t : Tx) (ra wa : Option Addr) (rc wc : Nat) (hr : t.rs.length ≤ 100000000) (hw : t.ws.length ≤ 100000000) (w : World) (hp : TRow w t ra wa) :
  Calls Tryz.prog 204 #[.agg #[.int .i64 t.id, .int .i64 t.st, .int .i64 t.snap, .int .i64 t.cs, .slice ra t.rs.length rc, .slice wa t.ws.length wc, .bool t.out, .string t.nm]] w fun e w' => e = .returned (.bool (decide (t.st = 3) && txnB t)) ∧ Below w.heap.size w w' := by
 have HP : Hid (TRow w t ra wa) := hp
 clear hp
 have HB0 : Hid (Below w.heap.size w (w.alloc (.cells #[.int .i64 t.id, .int .i64 t.st, .int .i64 t.snap, .int .i64 t.cs, .slice ra t.rs.length rc, .slice wa t.ws.length wc, .bool t.out, .string t.nm] 117))) := (belowRefl w).alloc (Nat.le_refl _) _
 by_cases c : t.st = 3
 ·have d : (t.st == 3) = true := by simp [c]
  have HV : Hid ((decide (t.st = 3) && txnB t) = txnB t) := by show _ = _; simp [c]
  have C1 : Hid (∀ w, TRow w t ra wa → Calls Tryz.prog 110 #[.agg #[.int .i64 t.id, .int .i64 t.st, .int .i64 t.snap, .int .i64 t.cs, .slice ra t.rs.length rc, .slice wa t.ws.length wc, .bool t.out, .string t.nm]] w fun e w' => e = .returned (.bool (txnB t)) ∧ Below w.heap.size w w') := fun w h => itxn t ra wa rc wc hr hw w h
  clear c
  generalize (decide (t.st = 3) && txnB t) = v at *
  go_enter Tryz.func204, Tryz.ntmps204
  go_wp2_with fail
  refine (C1.out _ (HP.out.below HB0.out)).mono ?_
  rintro e w1 ⟨rfl, hb1⟩
  have HB1 : Hid (Below w.heap.size w w1) := HB0.out.trans (hb1.mono HB0.out.size)
  clear hb1
  go_wp2
  go_ret
  exact ⟨ret_bool HV.out.symm, HB1.out⟩
 ·have d : (t.st == 3) = false := by simp [c]
  have HV : Hid ((decide (t.st = 3) && txnB t) = false) := by show _ = _; simp [c]
  clear c
  generalize (decide (t.st = 3) && txnB t) = v at *
  go_enter Tryz.func204, Tryz.ntmps204
  go_wp2
  go_ret
  exact ⟨ret_bool HV.out.symm, HB0.out⟩

set_option maxRecDepth 100000 in
set_option maxHeartbeats 2000000 in
theorem right275 (t : Tx) (ra wa : Option Addr) (rc wc : Nat) (hr : t.rs.length ≤ 100000000) (hw : t.ws.length ≤ 100000000) (w : World) (hp : TRow w t ra wa) :
  Calls Tryz.prog 211 #[.agg #[.int .i64 t.id, .int .i64 t.st, .int .i64 t.snap, .int .i64 t.cs, .slice ra t.rs.length rc, .slice wa t.ws.length wc, .bool t.out, .string t.nm]] w fun e w' => e = .returned (.bool (decide (t.st = 2) && txnB t)) ∧ Below w.heap.size w w' := by
 have HP : Hid (TRow w t ra wa) := hp
 clear hp
 have HB0 : Hid (Below w.heap.size w (w.alloc (.cells #[.int .i64 t.id, .int .i64 t.st, .int .i64 t.snap, .int .i64 t.cs, .slice ra t.rs.length rc, .slice wa t.ws.length wc, .bool t.out, .string t.nm] 118))) := (belowRefl w).alloc (Nat.le_refl _) _
 by_cases c : t.st = 2
 ·have d : (t.st == 2) = true := by simp [c]
  have HV : Hid ((decide (t.st = 2) && txnB t) = txnB t) := by show _ = _; simp [c]
  have C1 : Hid (∀ w, TRow w t ra wa → Calls Tryz.prog 110 #[.agg #[.int .i64 t.id, .int .i64 t.st, .int .i64 t.snap, .int .i64 t.cs, .slice ra t.rs.length rc, .slice wa t.ws.length wc, .bool t.out, .string t.nm]] w fun e w' => e = .returned (.bool (txnB t)) ∧ Below w.heap.size w w') := fun w h => itxn t ra wa rc wc hr hw w h
  clear c
  generalize (decide (t.st = 2) && txnB t) = v at *
  go_enter Tryz.func211, Tryz.ntmps211
  go_wp2_with fail
  refine (C1.out _ (HP.out.below HB0.out)).mono ?_
  rintro e w1 ⟨rfl, hb1⟩
  have HB1 : Hid (Below w.heap.size w w1) := HB0.out.trans (hb1.mono HB0.out.size)
  clear hb1
  go_wp2
  go_ret
  exact ⟨ret_bool HV.out.symm, HB1.out⟩
 ·have d : (t.st == 2) = false := by simp [c]
  have HV : Hid ((decide (t.st = 2) && txnB t) = false) := by show _ = _; simp [c]
  clear c
  generalize (decide (t.st = 2) && txnB t) = v at *
  go_enter Tryz.func211, Tryz.ntmps211
  go_wp2
  go_ret
  exact ⟨ret_bool HV.out.symm, HB0.out⟩

set_option maxRecDepth 100000 in
set_option maxHeartbeats 2000000 in
theorem right277 (s : ByteArray) (y : Bool) (w : World) :
  Calls Tryz.prog 213 #[.agg #[.string s, .bool y]] w fun e w' => e = .returned (.bool (keyB s)) ∧ Below w.heap.size w w' := by
 have K1 : Hid (∀ w, Calls Tryz.prog 129 #[.string s] w fun e w' => e = .returned (.bool (keyB s)) ∧ w' = w) := fun w => ikey s w
 generalize keyB s = v at *
 go_enter Tryz.func213, Tryz.ntmps213
 go_wp2_with (go_at_call 129; refine (K1.out _).mono ?_; rintro e w2 ⟨rfl, rfl⟩)
 go_ret
 exact ⟨rfl, (belowRefl w).alloc (Nat.le_refl _) _⟩

set_option maxRecDepth 100000 in
set_option maxHeartbeats 2000000 in
theorem right279 (b : Bb) (hf : BFit b) (hpa : b.pa = none → b.ps.length = 0 ∧ b.pc = 0) (hqa : b.qa = none → b.qs.length = 0 ∧ b.qc = 0) (w : World) (hp : BRows w b) :
  Calls Tryz.prog 215 #[.agg #[.slice b.va b.vs.length b.vc, .slice b.pa b.ps.length b.pc, .slice b.qa b.qs.length b.qc, .int .i64 b.cs, .int .i64 b.nx]] w fun e w' => e = .returned (.bool (sbB b)) ∧ Below w.heap.size w w' := by
 have HP : Hid (BRows w b) := hp
 have C1 : Hid (∀ w, BRows w b → Calls Tryz.prog 114 #[.agg #[.slice b.va b.vs.length b.vc, .slice b.pa b.ps.length b.pc, .slice b.qa b.qs.length b.qc, .int .i64 b.cs, .int .i64 b.nx]] w fun e w' => e = .returned (.bool (sbB b)) ∧ Below w.heap.size w w') := fun w h => ib_sb b ▸ ibase7 b hf hpa hqa w h
 have HB0 : Hid (Below w.heap.size w (w.alloc (.cells #[.slice b.va b.vs.length b.vc, .slice b.pa b.ps.length b.pc, .slice b.qa b.qs.length b.qc, .int .i64 b.cs, .int .i64 b.nx] 122))) := (belowRefl w).alloc (Nat.le_refl _) _
 clear hf hpa hqa hp
 generalize sbB b = v at *
 go_enter Tryz.func215, Tryz.ntmps215
 go_wp2_with fail
 refine (C1.out _ (HP.out.below HB0.out)).mono ?_
 rintro e w1 ⟨rfl, hb1⟩
 have HB1 : Hid (Below w.heap.size w w1) := HB0.out.trans (hb1.mono HB0.out.size)
 clear hb1
 go_wp2
 go_ret
 exact ⟨rfl, HB1.out⟩

end Go.Proofs.YtpnnncfbodfnhaaGreatDoor
