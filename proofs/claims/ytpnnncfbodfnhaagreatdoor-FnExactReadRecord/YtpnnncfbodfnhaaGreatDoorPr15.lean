/- The law FnExactBaseOk, walked. -/
import Derived.Test.YtpnnncfbodfnhaaGreatDoorPr13
import Derived.Test.YtpnnncfbodfnhaaGreatDoorPr14
import Derived.Test.YtpnnncfbodfnhaaGreatDoorPr08
import Derived.Test.YtpnnncfbodfnhaaGreatDoorPr05
import Derived.Deep.RegionHeld3
import Derived.Deep.Cut
import Derived.Deep.CutRange
import Derived.Laws.EntriesVeiled
import Derived.Test.YtpnnncfbodfnhaaGreatDoorPr09
namespace Go.Proofs.YtpnnncfbodfnhaaGreatDoor
open Go.RowKit
open KM
attribute [local go_sem ↓] Go.wp_at_zero Go.wp_at_succ

theorem pst_same {xs ys : List Ta} {cs : Int} (h : txs ys = txs xs) (hg : pstG xs cs) : pstG ys cs := fun j hj => by
 have hl : ys.length = xs.length := by rw [← txs_len, h, txs_len]
 have e : ∀ i (hi : i < ys.length), ys[i].t = (xs[i]'(by omega)).t := fun i hi => by
  have h1 : (txs ys)[i]? = (txs xs)[i]? := by rw [h]
  simpa [txs, List.getElem?_eq_getElem hi, List.getElem?_eq_getElem (show i < xs.length by omega)] using h1
 have h2 := hg j (by omega)
 rw [e j hj]
 refine ⟨h2.1, fun h0 => ?_⟩
 rw [e (j - 1) (by omega)]
 exact h2.2 h0
theorem rdy_same {xs ys : List Ta} {cs : Int} (h : txs ys = txs xs) (hg : rdyG xs cs) : rdyG ys cs := fun j hj => by
 have hl : ys.length = xs.length := by rw [← txs_len, h, txs_len]
 have e : ∀ i (hi : i < ys.length), ys[i].t = (xs[i]'(by omega)).t := fun i hi => by
  have h1 : (txs ys)[i]? = (txs xs)[i]? := by rw [h]
  simpa [txs, List.getElem?_eq_getElem hi, List.getElem?_eq_getElem (show i < xs.length by omega)] using h1
 have h2 := hg j (by omega)
 rw [e j hj]
 refine ⟨h2.1, fun h0 => ?_⟩
 rw [e (j - 1) (by omega)]
 exact h2.2 h0
theorem ids_same {xs ys : List Ta} (h : txs ys = txs xs) : ys.map (fun x : Ta => x.t.id) = xs.map (fun x : Ta => x.t.id) := by
 have e : ∀ zs : List Ta, zs.map (fun x : Ta => x.t.id) = (txs zs).map (·.id) := fun zs => by simp [txs, Function.comp_def]
 rw [e, e, h]
theorem sb_mono {b c : Bb} (h : BSame b c) (hb : SbP b) : SbP c := by
 obtain ⟨h1, h2, h3, h4, h5, h6, h7, h8, h9⟩ := hb
 refine ⟨by rw [h.v]; exact h1, by rw [h.pl]; exact h2, by rw [h.ql]; exact h3, by rw [h.cs]; exact h4, by rw [h.nx]; exact h5, ?_, by rw [h.cs]; exact pst_same h.p h7, by rw [h.cs]; exact rdy_same h.q h8, by rw [ids_same h.p, ids_same h.q, h.nx]; exact h9⟩
 intro j hj
 have hv := h.v
 have hj' : j < b.vs.length := by rw [← hv]; exact hj
 have := h6 j hj'
 rw [h.cs]
 simpa only [hv] using this
theorem sb_same {b c : Bb} (h : BSame b c) : sbB c = sbB b := by
 unfold sbB
 rw [Bool.eq_iff_iff, decide_eq_true_eq, decide_eq_true_eq]
 exact ⟨sb_mono h.symm, sb_mono h⟩

end Go.Proofs.YtpnnncfbodfnhaaGreatDoor

namespace Go.Proofs.YtpnnncfbodfnhaaGreatDoor
open Go.RowKit
open KM
attribute [local go_sem ↓] Go.wp_at_zero Go.wp_at_succ

set_option maxRecDepth 100000 in
set_option maxHeartbeats 2000000 in
theorem right273 (t : Tx) (ra wa : Option Addr) (rc wc : Nat) (hr : t.rs.length ≤ 100000000) (hw : t.ws.length ≤ 100000000) (w : World) (hp : TRow w t ra wa) :
  Calls Tryz.prog 204 #[.agg #[.int .i64 t.id, .int .i64 t.st, .int .i64 t.snap, .int .i64 t.cs, .slice ra t.rs.length rc, .slice wa t.ws.length wc, .bool t.out, .string t.nm]] w fun e w' => e = .returned (.bool (decide (t.st = 3) && txnB t)) ∧ Below w.heap.size w w' := by
 have HP : Hid (TRow w t ra wa) := hp
 clear hp
 have HB0 : Hid (Below w.heap.size w (w.alloc (.cells #[.int .i64 t.id, .int .i64 t.st, .int .i64 t.snap, .int .i64 t.cs, .slice ra t.rs.length rc, .slice wa t.ws.length wc, .bool t.out, .string t.nm] 117))) := (belowRefl w).alloc (Nat.le_refl _) _
 by_cases c : t.st = 3
 ·have d : (t.st == 3) = true := by simp [c]
  have HV : Hid ((decide (t.st = 3) && txnB t) = txnB t) := by show _ = _; simp [c]
  have C1 : Hid (∀ w, TRow w t ra wa → Calls Tryz.prog 110 #[.agg #[.int .i64 t.id, .int .i64 t.st, .int .i64 t.snap, .int .i64 t.cs, .slice ra t.rs.length rc, .slice wa t.ws.length wc, .bool t.out, .string t.nm]] w fun e w' => e = .returned (.bool (txnB t)) ∧ Below w.heap.size w w') := fun w h => itxn t ra wa rc wc hr hw w h
  clear c
  generalize (decide (t.st = 3) && txnB t) = v at *
  go_enter Tryz.func204, Tryz.ntmps204
  go_wp2_with fail
  refine (C1.out _ (HP.out.below HB0.out)).mono ?_
  rintro e w1 ⟨rfl, hb1⟩
  have HB1 : Hid (Below w.heap.size w w1) := HB0.out.trans (hb1.mono HB0.out.size)
  clear hb1
  go_wp2
  go_ret
  exact ⟨ret_bool HV.out.symm, HB1.out⟩
 ·have d : (t.st == 3) = false := by simp [c]
  have HV : Hid ((decide (t.st = 3) && txnB t) = false) := by show _ = _; simp [c]
  clear c
  generalize (decide (t.st = 3) && txnB t) = v at *
  go_enter Tryz.func204, Tryz.ntmps204
  go_wp2
  go_ret
  exact ⟨ret_bool HV.out.symm, HB0.out⟩

set_option maxRecDepth 100000 in
set_option maxHeartbeats 2000000 in
theorem right275 (t : Tx) (ra wa : Option Addr) (rc wc : Nat) (hr : t.rs.length ≤ 100000000) (hw : t.ws.length ≤ 100000000) (w : World) (hp : TRow w t ra wa) :
  Calls Tryz.prog 211 #[.agg #[.int .i64 t.id, .int .i64 t.st, .int .i64 t.snap, .int .i64 t.cs, .slice ra t.rs.length rc, .slice wa t.ws.length wc, .bool t.out, .string t.nm]] w fun e w' => e = .returned (.bool (decide (t.st = 2) && txnB t)) ∧ Below w.heap.size w w' := by
 have HP : Hid (TRow w t ra wa) := hp
 clear hp
 have HB0 : Hid (Below w.heap.size w (w.alloc (.cells #[.int .i64 t.id, .int .i64 t.st, .int .i64 t.snap, .int .i64 t.cs, .slice ra t.rs.length rc, .slice wa t.ws.length wc, .bool t.out, .string t.nm] 118))) := (belowRefl w).alloc (Nat.le_refl _) _
 by_cases c : t.st = 2
 ·have d : (t.st == 2) = true := by simp [c]
  have HV : Hid ((decide (t.st = 2) && txnB t) = txnB t) := by show _ = _; simp [c]
  have C1 : Hid (∀ w, TRow w t ra wa → Calls Tryz.prog 110 #[.agg #[.int .i64 t.id, .int .i64 t.st, .int .i64 t.snap, .int .i64 t.cs, .slice ra t.rs.length rc, .slice wa t.ws.length wc, .bool t.out, .string t.nm]] w fun e w' => e = .returned (.bool (txnB t)) ∧ Below w.heap.size w w') := fun w h => itxn t ra wa rc wc hr hw w h
  clear c
  generalize (decide (t.st = 2) && txnB t) = v at *
  go_enter Tryz.func211, Tryz.ntmps211
  go_wp2_with fail
  refine (C1.out _ (HP.out.below HB0.out)).mono ?_
  rintro e w1 ⟨rfl, hb1⟩
  have HB1 : Hid (Below w.heap.size w w1) := HB0.out.trans (hb1.mono HB0.out.size)
  clear hb1
  go_wp2
  go_ret
  exact ⟨ret_bool HV.out.symm, HB1.out⟩
 ·have d : (t.st == 2) = false := by simp [c]
  have HV : Hid ((decide (t.st = 2) && txnB t) = false) := by show _ = _; simp [c]
  clear c
  generalize (decide (t.st = 2) && txnB t) = v at *
  go_enter Tryz.func211, Tryz.ntmps211
  go_wp2
  go_ret
  exact ⟨ret_bool HV.out.symm, HB0.out⟩

set_option maxRecDepth 100000 in
set_option maxHeartbeats 2000000 in
theorem right277 (s : ByteArray) (y : Bool) (w : World) :
  Calls Tryz.prog 213 #[.agg #[.string s, .bool y]] w fun e w' => e = .returned (.bool (keyB s)) ∧ Below w.heap.size w w' := by
 have K1 : Hid (∀ w, Calls Tryz.prog 129 #[.string s] w fun e w' => e = .returned (.bool (keyB s)) ∧ w' = w) := fun w => ikey s w
 generalize keyB s = v at *
 go_enter Tryz.func213, Tryz.ntmps213
 go_wp2_with (go_at_call 129; refine (K1.out _).mono ?_; rintro e w2 ⟨rfl, rfl⟩)
 go_ret
 exact ⟨rfl, (belowRefl w).alloc (Nat.le_refl _) _⟩

set_option maxRecDepth 100000 in
set_option maxHeartbeats 2000000 in
theorem right279 (b : Bb) (hf : BFit b) (hpa : b.pa = none → b.ps.length = 0 ∧ b.pc = 0) (hqa : b.qa = none → b.qs.length = 0 ∧ b.qc = 0) (w : World) (hp : BRows w b) :
  Calls Tryz.prog 215 #[.agg #[.slice b.va b.vs.length b.vc, .slice b.pa b.ps.length b.pc, .slice b.qa b.qs.length b.qc, .int .i64 b.cs, .int .i64 b.nx]] w fun e w' => e = .returned (.bool (sbB b)) ∧ Below w.heap.size w w' := by
 have HP : Hid (BRows w b) := hp
 have C1 : Hid (∀ w, BRows w b → Calls Tryz.prog 114 #[.agg #[.slice b.va b.vs.length b.vc, .slice b.pa b.ps.length b.pc, .slice b.qa b.qs.length b.qc, .int .i64 b.cs, .int .i64 b.nx]] w fun e w' => e = .returned (.bool (sbB b)) ∧ Below w.heap.size w w') := fun w h => ib_sb b ▸ ibase7 b hf hpa hqa w h
 have HB0 : Hid (Below w.heap.size w (w.alloc (.cells #[.slice b.va b.vs.length b.vc, .slice b.pa b.ps.length b.pc, .slice b.qa b.qs.length b.qc, .int .i64 b.cs, .int .i64 b.nx] 122))) := (belowRefl w).alloc (Nat.le_refl _) _
 clear hf hpa hqa hp
 generalize sbB b = v at *
 go_enter Tryz.func215, Tryz.ntmps215
 go_wp2_with fail
 refine (C1.out _ (HP.out.below HB0.out)).mono ?_
 rintro e w1 ⟨rfl, hb1⟩
 have HB1 : Hid (Below w.heap.size w w1) := HB0.out.trans (hb1.mono HB0.out.size)
 clear hb1
 go_wp2
 go_ret
 exact ⟨rfl, HB1.out⟩

end Go.Proofs.YtpnnncfbodfnhaaGreatDoor

namespace Go.Proofs.YtpnnncfbodfnhaaGreatDoor
open Go.RowKit
open KM
attribute [local go_sem ↓] Go.wp_at_zero Go.wp_at_succ

def recB (r : Rc) : Bool :=
 (decide (r.k = 1) && (r.nm.toList.isEmpty && (!r.yes && (noB r.b && (decide (r.t.t.st = 3) && txnB r.t.t))))) ||
 (decide (r.k = 2) && (r.nm.toList.isEmpty && (!r.yes && (noB r.b && (decide (r.t.t.st = 2) && txnB r.t.t))))) ||
 (decide (r.k = 3) && (noT r.t.t && (noB r.b && keyB r.nm))) ||
 (decide (r.k = 4) && (noT r.t.t && (r.nm.toList.isEmpty && (!r.yes && sbB r.b))))
def noteV (r : Rc) : Value :=
 if r.k = 1 then .iface 117 (.agg #[.int .i64 r.t.t.id, .int .i64 r.t.t.st, .int .i64 r.t.t.snap, .int .i64 r.t.t.cs, .slice r.t.ra r.t.t.rs.length r.t.rc, .slice r.t.wa r.t.t.ws.length r.t.wc, .bool r.t.t.out, .string r.t.t.nm]) else if r.k = 2 then .iface 118 (.agg #[.int .i64 r.t.t.id, .int .i64 r.t.t.st, .int .i64 r.t.t.snap, .int .i64 r.t.t.cs, .slice r.t.ra r.t.t.rs.length r.t.rc, .slice r.t.wa r.t.t.ws.length r.t.wc, .bool r.t.t.out, .string r.t.t.nm]) else
 if r.k = 3 then .iface 120 (.agg #[.string r.nm, .bool r.yes]) else if r.k = 4 then .iface 122 (.agg #[.slice r.b.va r.b.vs.length r.b.vc, .slice r.b.pa r.b.ps.length r.b.pc, .slice r.b.qa r.b.qs.length r.b.qc, .int .i64 r.b.cs, .int .i64 r.b.nx]) else .nilIface

theorem noTz (W : World) : Calls Tryz.prog 61 #[.agg #[.int .i64 0, .int .i64 0, .int .i64 0, .int .i64 0, .slice none 0 0, .slice none 0 0, .bool false, .string ⟨#[]⟩]] W fun e w' => e = .returned (.bool true) ∧ Below W.heap.size W w' := by
 have h := inoT ⟨0, 0, 0, 0, [], [], false, ⟨#[]⟩⟩ none none 0 0 W
 have e : noT ⟨0, 0, 0, 0, [], [], false, ⟨#[]⟩⟩ = true := by unfold noT; simp
 rw [e] at h
 exact h
theorem noBz (W : World) : Calls Tryz.prog 62 #[.agg #[.slice none 0 0, .slice none 0 0, .slice none 0 0, .int .i64 0, .int .i64 0]] W fun e w' => e = .returned (.bool true) ∧ Below W.heap.size W w' := by
 have h := inoB ⟨[], [], [], 0, 0, none, 0, none, 0, none, 0⟩ W
 have e : noB ⟨[], [], [], 0, 0, none, 0, none, 0, none, 0⟩ = true := by unfold noB; simp
 rw [e] at h
 exact h

set_option maxRecDepth 100000 in
set_option maxHeartbeats 2000000 in
theorem note1 (r : Rc) (hk : r.k = 1) (hf : RcFit r) (hpa : r.b.pa = none → r.b.ps.length = 0 ∧ r.b.pc = 0) (hqa : r.b.qa = none → r.b.qs.length = 0 ∧ r.b.qc = 0) (w : World) (hp : RcRows w r) :
  Calls Tryz.prog 24 #[.agg #[.int .i64 r.k, .int .i64 r.t.t.id, .int .i64 r.t.t.st, .int .i64 r.t.t.snap, .int .i64 r.t.t.cs, .slice r.t.ra r.t.t.rs.length r.t.rc, .slice r.t.wa r.t.t.ws.length r.t.wc, .bool r.t.t.out, .string r.t.t.nm, .string r.nm, .bool r.yes, .slice r.b.va r.b.vs.length r.b.vc, .slice r.b.pa r.b.ps.length r.b.pc, .slice r.b.qa r.b.qs.length r.b.qc, .int .i64 r.b.cs, .int .i64 r.b.nx]] w fun e w' => e = .returned (.tuple #[.iface 117 (.agg #[.int .i64 r.t.t.id, .int .i64 r.t.t.st, .int .i64 r.t.t.snap, .int .i64 r.t.t.cs, .slice r.t.ra r.t.t.rs.length r.t.rc, .slice r.t.wa r.t.t.ws.length r.t.wc, .bool r.t.t.out, .string r.t.t.nm]), .bool (recB r)]) ∧ Below w.heap.size w w' := by
 have HP : Hid (RcRows w r) := hp
 have HF : Hid (RcFit r) := hf
 have HPA : Hid (r.b.pa = none → r.b.ps.length = 0 ∧ r.b.pc = 0) := hpa
 have HQA : Hid (r.b.qa = none → r.b.qs.length = 0 ∧ r.b.qc = 0) := hqa
 have BX1 : Hid (Bx (w.alloc (.cells #[.int .i64 r.k, .int .i64 0, .int .i64 0, .int .i64 0, .int .i64 0, .slice none 0 0, .slice none 0 0, .bool false, .string ⟨#[]⟩, .string r.nm, .bool r.yes, .slice r.b.va r.b.vs.length r.b.vc, .slice r.b.pa r.b.ps.length r.b.pc, .slice r.b.qa r.b.qs.length r.b.qc, .int .i64 r.b.cs, .int .i64 r.b.nx] 44)) w.heap.size [.int .i64 r.k, .int .i64 0, .int .i64 0, .int .i64 0, .int .i64 0, .slice none 0 0, .slice none 0 0, .bool false, .string ⟨#[]⟩, .string r.nm, .bool r.yes, .slice r.b.va r.b.vs.length r.b.vc, .slice r.b.pa r.b.ps.length r.b.pc, .slice r.b.qa r.b.qs.length r.b.qc, .int .i64 r.b.cs, .int .i64 r.b.nx]) := Bx.new w [.int .i64 r.k, .int .i64 0, .int .i64 0, .int .i64 0, .int .i64 0, .slice none 0 0, .slice none 0 0, .bool false, .string ⟨#[]⟩, .string r.nm, .bool r.yes, .slice r.b.va r.b.vs.length r.b.vc, .slice r.b.pa r.b.ps.length r.b.pc, .slice r.b.qa r.b.qs.length r.b.qc, .int .i64 r.b.cs, .int .i64 r.b.nx] 44
 have HB1 : Hid (Below w.heap.size w (w.alloc (.cells #[.int .i64 r.k, .int .i64 0, .int .i64 0, .int .i64 0, .int .i64 0, .slice none 0 0, .slice none 0 0, .bool false, .string ⟨#[]⟩, .string r.nm, .bool r.yes, .slice r.b.va r.b.vs.length r.b.vc, .slice r.b.pa r.b.ps.length r.b.pc, .slice r.b.qa r.b.qs.length r.b.qc, .int .i64 r.b.cs, .int .i64 r.b.nx] 44))) := (belowRefl w).alloc (Nat.le_refl _) _
 have CR : Hid (∀ W, Below w.heap.size w W → Calls Tryz.prog 204 #[.agg #[.int .i64 r.t.t.id, .int .i64 r.t.t.st, .int .i64 r.t.t.snap, .int .i64 r.t.t.cs, .slice r.t.ra r.t.t.rs.length r.t.rc, .slice r.t.wa r.t.t.ws.length r.t.wc, .bool r.t.t.out, .string r.t.t.nm]] W fun e w' => e = .returned (.bool (decide (r.t.t.st = 3) && txnB r.t.t)) ∧ Below W.heap.size W w') := fun W h => right273 r.t.t r.t.ra r.t.wa r.t.rc r.t.wc (Nat.le_trans HF.out.t.1 (by omega)) (Nat.le_trans HF.out.t.2.2.1 (by omega)) W (HP.out.t.below h)
 have CT : Hid (∀ W, Calls Tryz.prog 61 #[.agg #[.int .i64 0, .int .i64 0, .int .i64 0, .int .i64 0, .slice none 0 0, .slice none 0 0, .bool false, .string ⟨#[]⟩]] W fun e w' => e = .returned (.bool true) ∧ Below W.heap.size W w') := fun W => noTz W
 have CB : Hid (∀ W, Calls Tryz.prog 62 #[.agg #[.slice r.b.va r.b.vs.length r.b.vc, .slice r.b.pa r.b.ps.length r.b.pc, .slice r.b.qa r.b.qs.length r.b.qc, .int .i64 r.b.cs, .int .i64 r.b.nx]] W fun e w' => e = .returned (.bool (noB r.b)) ∧ Below W.heap.size W w') := fun W => inoB r.b W
 have hm : ∀ W : World, (method 64 117 (.agg #[.int .i64 r.t.t.id, .int .i64 r.t.t.st, .int .i64 r.t.t.snap, .int .i64 r.t.t.cs, .slice r.t.ra r.t.t.rs.length r.t.rc, .slice r.t.wa r.t.t.ws.length r.t.wc, .bool r.t.t.out, .string r.t.t.nm]) "loop.example/g00327/impl.right").run Tryz.prog W = .ok (204, .agg #[.int .i64 r.t.t.id, .int .i64 r.t.t.st, .int .i64 r.t.t.snap, .int .i64 r.t.t.cs, .slice r.t.ra r.t.t.rs.length r.t.rc, .slice r.t.wa r.t.t.ws.length r.t.wc, .bool r.t.t.out, .string r.t.t.nm]) W := fun _ => by kernel_rfl
 have e1 : (r.k == 1) = true := by simp [hk]
 have e2 : (r.k == 2) = false := by simp [hk]
 have e3 : (r.k == 3) = false := by simp [hk]
 have e4 : (r.k == 4) = false := by simp [hk]
 clear hp hf hpa hqa
 cases h0 : r.nm.toList.isEmpty
 ·have HN : Hid (recB r = false) := by show _ = _; unfold recB; simp [hk, h0]
  clear hk
  generalize recB r = rb at *
  go_enter Tryz.func24, Tryz.ntmps24
  go_wp2_with fail
  refine (CT.out _).mono ?_
  rintro e w1 ⟨rfl, hb⟩
  have BX2 := hide (BX1.out.below hb)
  have HB2 := hide (HB1.out.trans (hb.mono HB1.out.size))
  clear hb BX1
  have x9 := BX2.out.c9
  have x10 := BX2.out.c10
  have x11 := BX2.out.c11
  have x12 := BX2.out.c12
  have x13 := BX2.out.c13
  have x14 := BX2.out.c14
  have x15 := BX2.out.c15
  go_wp2
  go_ret2
  exact ⟨by rw [HN.out]; rfl, HB2.out⟩
 ·rcases Bool.eq_false_or_eq_true r.yes with h1 | h1
  ·have HN : Hid (recB r = false) := by show _ = _; unfold recB; simp [hk, h0, h1]
   clear hk
   generalize recB r = rb at *
   have HY := hide h1
   clear h1
   go_enter Tryz.func24, Tryz.ntmps24
   go_wp2_with fail
   refine (CT.out _).mono ?_
   rintro e w1 ⟨rfl, hb⟩
   have BX2 := hide (BX1.out.below hb)
   have HB2 := hide (HB1.out.trans (hb.mono HB1.out.size))
   clear hb BX1
   have x9 := BX2.out.c9
   have x10 := BX2.out.c10
   have x11 := BX2.out.c11
   have x12 := BX2.out.c12
   have x13 := BX2.out.c13
   have x14 := BX2.out.c14
   have x15 := BX2.out.c15
   rw [HY.out] at x10
   go_wp2
   go_ret2
   exact ⟨by rw [HN.out]; rfl, HB2.out⟩
  ·cases h2 : noB r.b
   ·have HN : Hid (recB r = false) := by show _ = _; unfold recB; simp [hk, h0, h1, h2]
    clear hk
    generalize recB r = rb at *
    have HY := hide h1
    clear h1
    rw [h2] at CB
    clear h2
    go_enter Tryz.func24, Tryz.ntmps24
    go_wp2_with fail
    refine (CT.out _).mono ?_
    rintro e w1 ⟨rfl, hb⟩
    have BX2 := hide (BX1.out.below hb)
    have HB2 := hide (HB1.out.trans (hb.mono HB1.out.size))
    clear hb BX1
    have x9 := BX2.out.c9
    have x10 := BX2.out.c10
    have x11 := BX2.out.c11
    have x12 := BX2.out.c12
    have x13 := BX2.out.c13
    have x14 := BX2.out.c14
    have x15 := BX2.out.c15
    rw [HY.out] at x10
    go_wp2_with fail
    refine (CB.out _).mono ?_
    rintro e w2 ⟨rfl, hb⟩
    have HB3 := hide (HB2.out.trans (hb.mono HB2.out.size))
    clear hb x9 x10 x11 x12 x13 x14 x15 BX2
    go_wp2
    go_ret2
    exact ⟨by rw [HN.out]; rfl, HB3.out⟩
   ·rw [h2] at CB
    have HN : Hid (recB r = (decide (r.t.t.st = 3) && txnB r.t.t)) := by show _ = _; unfold recB; simp [hk, h0, h1, h2]
    clear hk
    have HY := hide h1
    clear h1
    generalize recB r = rb at *
    generalize (decide (r.t.t.st = 3) && txnB r.t.t) = vv at *
    go_enter Tryz.func24, Tryz.ntmps24
    go_wp2_with fail
    refine (CT.out _).mono ?_
    rintro e w1 ⟨rfl, hb⟩
    have BX2 := hide (BX1.out.below hb)
    have HB2 := hide (HB1.out.trans (hb.mono HB1.out.size))
    clear hb BX1
    have x9 := BX2.out.c9
    have x10 := BX2.out.c10
    have x11 := BX2.out.c11
    have x12 := BX2.out.c12
    have x13 := BX2.out.c13
    have x14 := BX2.out.c14
    have x15 := BX2.out.c15
    rw [HY.out] at x10
    go_wp2_with fail
    refine (CB.out _).mono ?_
    rintro e w2 ⟨rfl, hb⟩
    have HB3 := hide (HB2.out.trans (hb.mono HB2.out.size))
    clear hb x9 x10 x11 x12 x13 x14 x15 BX2
    go_wp2_with fail
    refine (CR.out _ HB3.out).mono ?_
    rintro e w3 ⟨rfl, hb⟩
    have HB4 := hide (HB3.out.trans (hb.mono HB3.out.size))
    clear hb
    go_wp2
    go_ret2
    exact ⟨by rw [HN.out]; rfl, HB4.out⟩

set_option maxRecDepth 100000 in
set_option maxHeartbeats 2000000 in
theorem note2 (r : Rc) (hk : r.k = 2) (hf : RcFit r) (hpa : r.b.pa = none → r.b.ps.length = 0 ∧ r.b.pc = 0) (hqa : r.b.qa = none → r.b.qs.length = 0 ∧ r.b.qc = 0) (w : World) (hp : RcRows w r) :
  Calls Tryz.prog 24 #[.agg #[.int .i64 r.k, .int .i64 r.t.t.id, .int .i64 r.t.t.st, .int .i64 r.t.t.snap, .int .i64 r.t.t.cs, .slice r.t.ra r.t.t.rs.length r.t.rc, .slice r.t.wa r.t.t.ws.length r.t.wc, .bool r.t.t.out, .string r.t.t.nm, .string r.nm, .bool r.yes, .slice r.b.va r.b.vs.length r.b.vc, .slice r.b.pa r.b.ps.length r.b.pc, .slice r.b.qa r.b.qs.length r.b.qc, .int .i64 r.b.cs, .int .i64 r.b.nx]] w fun e w' => e = .returned (.tuple #[.iface 118 (.agg #[.int .i64 r.t.t.id, .int .i64 r.t.t.st, .int .i64 r.t.t.snap, .int .i64 r.t.t.cs, .slice r.t.ra r.t.t.rs.length r.t.rc, .slice r.t.wa r.t.t.ws.length r.t.wc, .bool r.t.t.out, .string r.t.t.nm]), .bool (recB r)]) ∧ Below w.heap.size w w' := by
 have HP : Hid (RcRows w r) := hp
 have HF : Hid (RcFit r) := hf
 have HPA : Hid (r.b.pa = none → r.b.ps.length = 0 ∧ r.b.pc = 0) := hpa
 have HQA : Hid (r.b.qa = none → r.b.qs.length = 0 ∧ r.b.qc = 0) := hqa
 have BX1 : Hid (Bx (w.alloc (.cells #[.int .i64 r.k, .int .i64 0, .int .i64 0, .int .i64 0, .int .i64 0, .slice none 0 0, .slice none 0 0, .bool false, .string ⟨#[]⟩, .string r.nm, .bool r.yes, .slice r.b.va r.b.vs.length r.b.vc, .slice r.b.pa r.b.ps.length r.b.pc, .slice r.b.qa r.b.qs.length r.b.qc, .int .i64 r.b.cs, .int .i64 r.b.nx] 44)) w.heap.size [.int .i64 r.k, .int .i64 0, .int .i64 0, .int .i64 0, .int .i64 0, .slice none 0 0, .slice none 0 0, .bool false, .string ⟨#[]⟩, .string r.nm, .bool r.yes, .slice r.b.va r.b.vs.length r.b.vc, .slice r.b.pa r.b.ps.length r.b.pc, .slice r.b.qa r.b.qs.length r.b.qc, .int .i64 r.b.cs, .int .i64 r.b.nx]) := Bx.new w [.int .i64 r.k, .int .i64 0, .int .i64 0, .int .i64 0, .int .i64 0, .slice none 0 0, .slice none 0 0, .bool false, .string ⟨#[]⟩, .string r.nm, .bool r.yes, .slice r.b.va r.b.vs.length r.b.vc, .slice r.b.pa r.b.ps.length r.b.pc, .slice r.b.qa r.b.qs.length r.b.qc, .int .i64 r.b.cs, .int .i64 r.b.nx] 44
 have HB1 : Hid (Below w.heap.size w (w.alloc (.cells #[.int .i64 r.k, .int .i64 0, .int .i64 0, .int .i64 0, .int .i64 0, .slice none 0 0, .slice none 0 0, .bool false, .string ⟨#[]⟩, .string r.nm, .bool r.yes, .slice r.b.va r.b.vs.length r.b.vc, .slice r.b.pa r.b.ps.length r.b.pc, .slice r.b.qa r.b.qs.length r.b.qc, .int .i64 r.b.cs, .int .i64 r.b.nx] 44))) := (belowRefl w).alloc (Nat.le_refl _) _
 have CR : Hid (∀ W, Below w.heap.size w W → Calls Tryz.prog 211 #[.agg #[.int .i64 r.t.t.id, .int .i64 r.t.t.st, .int .i64 r.t.t.snap, .int .i64 r.t.t.cs, .slice r.t.ra r.t.t.rs.length r.t.rc, .slice r.t.wa r.t.t.ws.length r.t.wc, .bool r.t.t.out, .string r.t.t.nm]] W fun e w' => e = .returned (.bool (decide (r.t.t.st = 2) && txnB r.t.t)) ∧ Below W.heap.size W w') := fun W h => right275 r.t.t r.t.ra r.t.wa r.t.rc r.t.wc (Nat.le_trans HF.out.t.1 (by omega)) (Nat.le_trans HF.out.t.2.2.1 (by omega)) W (HP.out.t.below h)
 have CT : Hid (∀ W, Calls Tryz.prog 61 #[.agg #[.int .i64 0, .int .i64 0, .int .i64 0, .int .i64 0, .slice none 0 0, .slice none 0 0, .bool false, .string ⟨#[]⟩]] W fun e w' => e = .returned (.bool true) ∧ Below W.heap.size W w') := fun W => noTz W
 have CB : Hid (∀ W, Calls Tryz.prog 62 #[.agg #[.slice r.b.va r.b.vs.length r.b.vc, .slice r.b.pa r.b.ps.length r.b.pc, .slice r.b.qa r.b.qs.length r.b.qc, .int .i64 r.b.cs, .int .i64 r.b.nx]] W fun e w' => e = .returned (.bool (noB r.b)) ∧ Below W.heap.size W w') := fun W => inoB r.b W
 have hm : ∀ W : World, (method 64 118 (.agg #[.int .i64 r.t.t.id, .int .i64 r.t.t.st, .int .i64 r.t.t.snap, .int .i64 r.t.t.cs, .slice r.t.ra r.t.t.rs.length r.t.rc, .slice r.t.wa r.t.t.ws.length r.t.wc, .bool r.t.t.out, .string r.t.t.nm]) "loop.example/g00327/impl.right").run Tryz.prog W = .ok (211, .agg #[.int .i64 r.t.t.id, .int .i64 r.t.t.st, .int .i64 r.t.t.snap, .int .i64 r.t.t.cs, .slice r.t.ra r.t.t.rs.length r.t.rc, .slice r.t.wa r.t.t.ws.length r.t.wc, .bool r.t.t.out, .string r.t.t.nm]) W := fun _ => by kernel_rfl
 have e1 : (r.k == 1) = false := by simp [hk]
 have e2 : (r.k == 2) = true := by simp [hk]
 have e3 : (r.k == 3) = false := by simp [hk]
 have e4 : (r.k == 4) = false := by simp [hk]
 clear hp hf hpa hqa
 cases h0 : r.nm.toList.isEmpty
 ·have HN : Hid (recB r = false) := by show _ = _; unfold recB; simp [hk, h0]
  clear hk
  generalize recB r = rb at *
  go_enter Tryz.func24, Tryz.ntmps24
  go_wp2_with fail
  refine (CT.out _).mono ?_
  rintro e w1 ⟨rfl, hb⟩
  have BX2 := hide (BX1.out.below hb)
  have HB2 := hide (HB1.out.trans (hb.mono HB1.out.size))
  clear hb BX1
  have x9 := BX2.out.c9
  have x10 := BX2.out.c10
  have x11 := BX2.out.c11
  have x12 := BX2.out.c12
  have x13 := BX2.out.c13
  have x14 := BX2.out.c14
  have x15 := BX2.out.c15
  go_wp2
  go_ret2
  exact ⟨by rw [HN.out]; rfl, HB2.out⟩
 ·rcases Bool.eq_false_or_eq_true r.yes with h1 | h1
  ·have HN : Hid (recB r = false) := by show _ = _; unfold recB; simp [hk, h0, h1]
   clear hk
   generalize recB r = rb at *
   have HY := hide h1
   clear h1
   go_enter Tryz.func24, Tryz.ntmps24
   go_wp2_with fail
   refine (CT.out _).mono ?_
   rintro e w1 ⟨rfl, hb⟩
   have BX2 := hide (BX1.out.below hb)
   have HB2 := hide (HB1.out.trans (hb.mono HB1.out.size))
   clear hb BX1
   have x9 := BX2.out.c9
   have x10 := BX2.out.c10
   have x11 := BX2.out.c11
   have x12 := BX2.out.c12
   have x13 := BX2.out.c13
   have x14 := BX2.out.c14
   have x15 := BX2.out.c15
   rw [HY.out] at x10
   go_wp2
   go_ret2
   exact ⟨by rw [HN.out]; rfl, HB2.out⟩
  ·cases h2 : noB r.b
   ·have HN : Hid (recB r = false) := by show _ = _; unfold recB; simp [hk, h0, h1, h2]
    clear hk
    generalize recB r = rb at *
    have HY := hide h1
    clear h1
    rw [h2] at CB
    clear h2
    go_enter Tryz.func24, Tryz.ntmps24
    go_wp2_with fail
    refine (CT.out _).mono ?_
    rintro e w1 ⟨rfl, hb⟩
    have BX2 := hide (BX1.out.below hb)
    have HB2 := hide (HB1.out.trans (hb.mono HB1.out.size))
    clear hb BX1
    have x9 := BX2.out.c9
    have x10 := BX2.out.c10
    have x11 := BX2.out.c11
    have x12 := BX2.out.c12
    have x13 := BX2.out.c13
    have x14 := BX2.out.c14
    have x15 := BX2.out.c15
    rw [HY.out] at x10
    go_wp2_with fail
    refine (CB.out _).mono ?_
    rintro e w2 ⟨rfl, hb⟩
    have HB3 := hide (HB2.out.trans (hb.mono HB2.out.size))
    clear hb x9 x10 x11 x12 x13 x14 x15 BX2
    go_wp2
    go_ret2
    exact ⟨by rw [HN.out]; rfl, HB3.out⟩
   ·rw [h2] at CB
    have HN : Hid (recB r = (decide (r.t.t.st = 2) && txnB r.t.t)) := by show _ = _; unfold recB; simp [hk, h0, h1, h2]
    clear hk
    have HY := hide h1
    clear h1
    generalize recB r = rb at *
    generalize (decide (r.t.t.st = 2) && txnB r.t.t) = vv at *
    go_enter Tryz.func24, Tryz.ntmps24
    go_wp2_with fail
    refine (CT.out _).mono ?_
    rintro e w1 ⟨rfl, hb⟩
    have BX2 := hide (BX1.out.below hb)
    have HB2 := hide (HB1.out.trans (hb.mono HB1.out.size))
    clear hb BX1
    have x9 := BX2.out.c9
    have x10 := BX2.out.c10
    have x11 := BX2.out.c11
    have x12 := BX2.out.c12
    have x13 := BX2.out.c13
    have x14 := BX2.out.c14
    have x15 := BX2.out.c15
    rw [HY.out] at x10
    go_wp2_with fail
    refine (CB.out _).mono ?_
    rintro e w2 ⟨rfl, hb⟩
    have HB3 := hide (HB2.out.trans (hb.mono HB2.out.size))
    clear hb x9 x10 x11 x12 x13 x14 x15 BX2
    go_wp2_with fail
    refine (CR.out _ HB3.out).mono ?_
    rintro e w3 ⟨rfl, hb⟩
    have HB4 := hide (HB3.out.trans (hb.mono HB3.out.size))
    clear hb
    go_wp2
    go_ret2
    exact ⟨by rw [HN.out]; rfl, HB4.out⟩

set_option maxRecDepth 100000 in
set_option maxHeartbeats 2000000 in
theorem note3 (r : Rc) (hk : r.k = 3) (hf : RcFit r) (hpa : r.b.pa = none → r.b.ps.length = 0 ∧ r.b.pc = 0) (hqa : r.b.qa = none → r.b.qs.length = 0 ∧ r.b.qc = 0) (w : World) (hp : RcRows w r) :
  Calls Tryz.prog 24 #[.agg #[.int .i64 r.k, .int .i64 r.t.t.id, .int .i64 r.t.t.st, .int .i64 r.t.t.snap, .int .i64 r.t.t.cs, .slice r.t.ra r.t.t.rs.length r.t.rc, .slice r.t.wa r.t.t.ws.length r.t.wc, .bool r.t.t.out, .string r.t.t.nm, .string r.nm, .bool r.yes, .slice r.b.va r.b.vs.length r.b.vc, .slice r.b.pa r.b.ps.length r.b.pc, .slice r.b.qa r.b.qs.length r.b.qc, .int .i64 r.b.cs, .int .i64 r.b.nx]] w fun e w' => e = .returned (.tuple #[.iface 120 (.agg #[.string r.nm, .bool r.yes]), .bool (recB r)]) ∧ Below w.heap.size w w' := by
 have HP : Hid (RcRows w r) := hp
 have HF : Hid (RcFit r) := hf
 have HPA : Hid (r.b.pa = none → r.b.ps.length = 0 ∧ r.b.pc = 0) := hpa
 have HQA : Hid (r.b.qa = none → r.b.qs.length = 0 ∧ r.b.qc = 0) := hqa
 have BX1 := hide (Bx.new w [.int .i64 r.k, .int .i64 r.t.t.id, .int .i64 r.t.t.st, .int .i64 r.t.t.snap, .int .i64 r.t.t.cs, .slice r.t.ra r.t.t.rs.length r.t.rc, .slice r.t.wa r.t.t.ws.length r.t.wc, .bool r.t.t.out, .string r.t.t.nm, .string ⟨#[]⟩, .bool false, .slice r.b.va r.b.vs.length r.b.vc, .slice r.b.pa r.b.ps.length r.b.pc, .slice r.b.qa r.b.qs.length r.b.qc, .int .i64 r.b.cs, .int .i64 r.b.nx] 44)
 have HB1 : Hid (Below w.heap.size w (w.alloc (.cells #[.int .i64 r.k, .int .i64 r.t.t.id, .int .i64 r.t.t.st, .int .i64 r.t.t.snap, .int .i64 r.t.t.cs, .slice r.t.ra r.t.t.rs.length r.t.rc, .slice r.t.wa r.t.t.ws.length r.t.wc, .bool r.t.t.out, .string r.t.t.nm, .string ⟨#[]⟩, .bool false, .slice r.b.va r.b.vs.length r.b.vc, .slice r.b.pa r.b.ps.length r.b.pc, .slice r.b.qa r.b.qs.length r.b.qc, .int .i64 r.b.cs, .int .i64 r.b.nx] 44))) := (belowRefl w).alloc (Nat.le_refl _) _
 have CR : Hid (∀ W, Below w.heap.size w W → Calls Tryz.prog 213 #[.agg #[.string r.nm, .bool r.yes]] W fun e w' => e = .returned (.bool (keyB r.nm)) ∧ Below W.heap.size W w') := fun W h => right277 r.nm r.yes W
 have CT : Hid (∀ W, Calls Tryz.prog 61 #[.agg #[.int .i64 r.t.t.id, .int .i64 r.t.t.st, .int .i64 r.t.t.snap, .int .i64 r.t.t.cs, .slice r.t.ra r.t.t.rs.length r.t.rc, .slice r.t.wa r.t.t.ws.length r.t.wc, .bool r.t.t.out, .string r.t.t.nm]] W fun e w' => e = .returned (.bool (noT r.t.t)) ∧ Below W.heap.size W w') := fun W => inoT r.t.t r.t.ra r.t.wa r.t.rc r.t.wc W
 have CB : Hid (∀ W, Calls Tryz.prog 62 #[.agg #[.slice r.b.va r.b.vs.length r.b.vc, .slice r.b.pa r.b.ps.length r.b.pc, .slice r.b.qa r.b.qs.length r.b.qc, .int .i64 r.b.cs, .int .i64 r.b.nx]] W fun e w' => e = .returned (.bool (noB r.b)) ∧ Below W.heap.size W w') := fun W => inoB r.b W
 have hm : ∀ W : World, (method 64 120 (.agg #[.string r.nm, .bool r.yes]) "loop.example/g00327/impl.right").run Tryz.prog W = .ok (213, .agg #[.string r.nm, .bool r.yes]) W := fun _ => by kernel_rfl
 have e1 : (r.k == 1) = false := by simp [hk]
 have e2 : (r.k == 2) = false := by simp [hk]
 have e3 : (r.k == 3) = true := by simp [hk]
 have e4 : (r.k == 4) = false := by simp [hk]
 clear hp hf hpa hqa
 cases h0 : noT r.t.t
 ·have HN : Hid (recB r = false) := by show _ = _; unfold recB; simp [hk, h0]
  clear hk
  generalize recB r = rb at *
  rw [h0] at CT
  clear h0
  go_enter Tryz.func24, Tryz.ntmps24
  go_wp2_with fail
  refine (CT.out _).mono ?_
  rintro e w1 ⟨rfl, hb⟩
  have BX2 := hide (BX1.out.below hb)
  have HB2 := hide (HB1.out.trans (hb.mono HB1.out.size))
  clear hb BX1
  go_wp2
  go_ret2
  exact ⟨by rw [HN.out]; rfl, HB2.out⟩
 ·rw [h0] at CT
  cases h1 : noB r.b
  ·have HN : Hid (recB r = false) := by show _ = _; unfold recB; simp [hk, h0, h1]
   clear hk
   generalize recB r = rb at *
   rw [h1] at CB
   clear h1
   go_enter Tryz.func24, Tryz.ntmps24
   go_wp2_with fail
   refine (CT.out _).mono ?_
   rintro e w1 ⟨rfl, hb⟩
   have BX2 := hide (BX1.out.below hb)
   have HB2 := hide (HB1.out.trans (hb.mono HB1.out.size))
   clear hb BX1
   have x9 := BX2.out.c9
   have x10 := BX2.out.c10
   have x11 := BX2.out.c11
   have x12 := BX2.out.c12
   have x13 := BX2.out.c13
   have x14 := BX2.out.c14
   have x15 := BX2.out.c15
   go_wp2_with fail
   refine (CB.out _).mono ?_
   rintro e w2 ⟨rfl, hb⟩
   have HB3 := hide (HB2.out.trans (hb.mono HB2.out.size))
   clear hb x9 x10 x11 x12 x13 x14 x15 BX2
   go_wp2
   go_ret2
   exact ⟨by rw [HN.out]; rfl, HB3.out⟩
  ·rw [h1] at CB
   have HN : Hid (recB r = (keyB r.nm)) := by show _ = _; unfold recB; simp [hk, h0, h1]
   clear hk
   generalize recB r = rb at *
   generalize (keyB r.nm) = vv at *
   go_enter Tryz.func24, Tryz.ntmps24
   go_wp2_with fail
   refine (CT.out _).mono ?_
   rintro e w1 ⟨rfl, hb⟩
   have BX2 := hide (BX1.out.below hb)
   have HB2 := hide (HB1.out.trans (hb.mono HB1.out.size))
   clear hb BX1
   have x9 := BX2.out.c9
   have x10 := BX2.out.c10
   have x11 := BX2.out.c11
   have x12 := BX2.out.c12
   have x13 := BX2.out.c13
   have x14 := BX2.out.c14
   have x15 := BX2.out.c15
   go_wp2_with fail
   refine (CB.out _).mono ?_
   rintro e w2 ⟨rfl, hb⟩
   have HB3 := hide (HB2.out.trans (hb.mono HB2.out.size))
   clear hb x9 x10 x11 x12 x13 x14 x15 BX2
   go_wp2_with fail
   refine (CR.out _ HB3.out).mono ?_
   rintro e w3 ⟨rfl, hb⟩
   have HB4 := hide (HB3.out.trans (hb.mono HB3.out.size))
   clear hb
   go_wp2
   go_ret2
   exact ⟨by rw [HN.out]; rfl, HB4.out⟩

set_option maxRecDepth 100000 in
set_option maxHeartbeats 2000000 in
theorem note4 (r : Rc) (hk : r.k = 4) (hf : RcFit r) (hpa : r.b.pa = none → r.b.ps.length = 0 ∧ r.b.pc = 0) (hqa : r.b.qa = none → r.b.qs.length = 0 ∧ r.b.qc = 0) (w : World) (hp : RcRows w r) :
  Calls Tryz.prog 24 #[.agg #[.int .i64 r.k, .int .i64 r.t.t.id, .int .i64 r.t.t.st, .int .i64 r.t.t.snap, .int .i64 r.t.t.cs, .slice r.t.ra r.t.t.rs.length r.t.rc, .slice r.t.wa r.t.t.ws.length r.t.wc, .bool r.t.t.out, .string r.t.t.nm, .string r.nm, .bool r.yes, .slice r.b.va r.b.vs.length r.b.vc, .slice r.b.pa r.b.ps.length r.b.pc, .slice r.b.qa r.b.qs.length r.b.qc, .int .i64 r.b.cs, .int .i64 r.b.nx]] w fun e w' => e = .returned (.tuple #[.iface 122 (.agg #[.slice r.b.va r.b.vs.length r.b.vc, .slice r.b.pa r.b.ps.length r.b.pc, .slice r.b.qa r.b.qs.length r.b.qc, .int .i64 r.b.cs, .int .i64 r.b.nx]), .bool (recB r)]) ∧ Below w.heap.size w w' := by
 have HP : Hid (RcRows w r) := hp
 have HF : Hid (RcFit r) := hf
 have HPA : Hid (r.b.pa = none → r.b.ps.length = 0 ∧ r.b.pc = 0) := hpa
 have HQA : Hid (r.b.qa = none → r.b.qs.length = 0 ∧ r.b.qc = 0) := hqa
 have BX1 := hide (Bx.new w [.int .i64 r.k, .int .i64 r.t.t.id, .int .i64 r.t.t.st, .int .i64 r.t.t.snap, .int .i64 r.t.t.cs, .slice r.t.ra r.t.t.rs.length r.t.rc, .slice r.t.wa r.t.t.ws.length r.t.wc, .bool r.t.t.out, .string r.t.t.nm, .string r.nm, .bool r.yes, .slice none 0 0, .slice none 0 0, .slice none 0 0, .int .i64 0, .int .i64 0] 44)
 have HB1 : Hid (Below w.heap.size w (w.alloc (.cells #[.int .i64 r.k, .int .i64 r.t.t.id, .int .i64 r.t.t.st, .int .i64 r.t.t.snap, .int .i64 r.t.t.cs, .slice r.t.ra r.t.t.rs.length r.t.rc, .slice r.t.wa r.t.t.ws.length r.t.wc, .bool r.t.t.out, .string r.t.t.nm, .string r.nm, .bool r.yes, .slice none 0 0, .slice none 0 0, .slice none 0 0, .int .i64 0, .int .i64 0] 44))) := (belowRefl w).alloc (Nat.le_refl _) _
 have CR : Hid (∀ W, Below w.heap.size w W → Calls Tryz.prog 215 #[.agg #[.slice r.b.va r.b.vs.length r.b.vc, .slice r.b.pa r.b.ps.length r.b.pc, .slice r.b.qa r.b.qs.length r.b.qc, .int .i64 r.b.cs, .int .i64 r.b.nx]] W fun e w' => e = .returned (.bool (sbB r.b)) ∧ Below W.heap.size W w') := fun W h => right279 r.b HF.out.b HPA.out HQA.out W (HP.out.b.below h)
 have CT : Hid (∀ W, Calls Tryz.prog 61 #[.agg #[.int .i64 r.t.t.id, .int .i64 r.t.t.st, .int .i64 r.t.t.snap, .int .i64 r.t.t.cs, .slice r.t.ra r.t.t.rs.length r.t.rc, .slice r.t.wa r.t.t.ws.length r.t.wc, .bool r.t.t.out, .string r.t.t.nm]] W fun e w' => e = .returned (.bool (noT r.t.t)) ∧ Below W.heap.size W w') := fun W => inoT r.t.t r.t.ra r.t.wa r.t.rc r.t.wc W
 have CB : Hid (∀ W, Calls Tryz.prog 62 #[.agg #[.slice none 0 0, .slice none 0 0, .slice none 0 0, .int .i64 0, .int .i64 0]] W fun e w' => e = .returned (.bool true) ∧ Below W.heap.size W w') := fun W => noBz W
 have hm : ∀ W : World, (method 64 122 (.agg #[.slice r.b.va r.b.vs.length r.b.vc, .slice r.b.pa r.b.ps.length r.b.pc, .slice r.b.qa r.b.qs.length r.b.qc, .int .i64 r.b.cs, .int .i64 r.b.nx]) "loop.example/g00327/impl.right").run Tryz.prog W = .ok (215, .agg #[.slice r.b.va r.b.vs.length r.b.vc, .slice r.b.pa r.b.ps.length r.b.pc, .slice r.b.qa r.b.qs.length r.b.qc, .int .i64 r.b.cs, .int .i64 r.b.nx]) W := fun _ => by kernel_rfl
 have e1 : (r.k == 1) = false := by simp [hk]
 have e2 : (r.k == 2) = false := by simp [hk]
 have e3 : (r.k == 3) = false := by simp [hk]
 have e4 : (r.k == 4) = true := by simp [hk]
 clear hp hf hpa hqa
 cases h0 : noT r.t.t
 ·have HN : Hid (recB r = false) := by show _ = _; unfold recB; simp [hk, h0]
  clear hk
  generalize recB r = rb at *
  rw [h0] at CT
  clear h0
  go_enter Tryz.func24, Tryz.ntmps24
  go_wp2_with fail
  refine (CT.out _).mono ?_
  rintro e w1 ⟨rfl, hb⟩
  have BX2 := hide (BX1.out.below hb)
  have HB2 := hide (HB1.out.trans (hb.mono HB1.out.size))
  clear hb BX1
  go_wp2
  go_ret2
  exact ⟨by rw [HN.out]; rfl, HB2.out⟩
 ·rw [h0] at CT
  cases h1 : r.nm.toList.isEmpty
  ·have HN : Hid (recB r = false) := by show _ = _; unfold recB; simp [hk, h0, h1]
   clear hk
   generalize recB r = rb at *
   go_enter Tryz.func24, Tryz.ntmps24
   go_wp2_with fail
   refine (CT.out _).mono ?_
   rintro e w1 ⟨rfl, hb⟩
   have BX2 := hide (BX1.out.below hb)
   have HB2 := hide (HB1.out.trans (hb.mono HB1.out.size))
   clear hb BX1
   have x9 := BX2.out.c9
   have x10 := BX2.out.c10
   have x11 := BX2.out.c11
   have x12 := BX2.out.c12
   have x13 := BX2.out.c13
   have x14 := BX2.out.c14
   have x15 := BX2.out.c15
   go_wp2
   go_ret2
   exact ⟨by rw [HN.out]; rfl, HB2.out⟩
  ·rcases Bool.eq_false_or_eq_true r.yes with h2 | h2
   ·have HN : Hid (recB r = false) := by show _ = _; unfold recB; simp [hk, h0, h1, h2]
    clear hk
    generalize recB r = rb at *
    have HY := hide h2
    clear h2
    go_enter Tryz.func24, Tryz.ntmps24
    go_wp2_with fail
    refine (CT.out _).mono ?_
    rintro e w1 ⟨rfl, hb⟩
    have BX2 := hide (BX1.out.below hb)
    have HB2 := hide (HB1.out.trans (hb.mono HB1.out.size))
    clear hb BX1
    have x9 := BX2.out.c9
    have x10 := BX2.out.c10
    have x11 := BX2.out.c11
    have x12 := BX2.out.c12
    have x13 := BX2.out.c13
    have x14 := BX2.out.c14
    have x15 := BX2.out.c15
    rw [HY.out] at x10
    go_wp2
    go_ret2
    exact ⟨by rw [HN.out]; rfl, HB2.out⟩
   ·have HN : Hid (recB r = (sbB r.b)) := by show _ = _; unfold recB; simp [hk, h0, h1, h2]
    clear hk
    have HY := hide h2
    clear h2
    generalize recB r = rb at *
    generalize (sbB r.b) = vv at *
    go_enter Tryz.func24, Tryz.ntmps24
    go_wp2_with fail
    refine (CT.out _).mono ?_
    rintro e w1 ⟨rfl, hb⟩
    have BX2 := hide (BX1.out.below hb)
    have HB2 := hide (HB1.out.trans (hb.mono HB1.out.size))
    clear hb BX1
    have x9 := BX2.out.c9
    have x10 := BX2.out.c10
    have x11 := BX2.out.c11
    have x12 := BX2.out.c12
    have x13 := BX2.out.c13
    have x14 := BX2.out.c14
    have x15 := BX2.out.c15
    rw [HY.out] at x10
    go_wp2_with fail
    refine (CB.out _).mono ?_
    rintro e w2 ⟨rfl, hb⟩
    have HB3 := hide (HB2.out.trans (hb.mono HB2.out.size))
    clear hb x9 x10 x11 x12 x13 x14 x15 BX2
    go_wp2_with fail
    refine (CR.out _ HB3.out).mono ?_
    rintro e w3 ⟨rfl, hb⟩
    have HB4 := hide (HB3.out.trans (hb.mono HB3.out.size))
    clear hb
    go_wp2
    go_ret2
    exact ⟨by rw [HN.out]; rfl, HB4.out⟩

set_option maxRecDepth 100000 in
set_option maxHeartbeats 2000000 in
theorem note0 (r : Rc) (h1 : r.k ≠ 1) (h2 : r.k ≠ 2) (h3 : r.k ≠ 3) (h4 : r.k ≠ 4) (w : World) :
  Calls Tryz.prog 24 #[.agg #[.int .i64 r.k, .int .i64 r.t.t.id, .int .i64 r.t.t.st, .int .i64 r.t.t.snap, .int .i64 r.t.t.cs, .slice r.t.ra r.t.t.rs.length r.t.rc, .slice r.t.wa r.t.t.ws.length r.t.wc, .bool r.t.t.out, .string r.t.t.nm, .string r.nm, .bool r.yes, .slice r.b.va r.b.vs.length r.b.vc, .slice r.b.pa r.b.ps.length r.b.pc, .slice r.b.qa r.b.qs.length r.b.qc, .int .i64 r.b.cs, .int .i64 r.b.nx]] w fun e w' => e = .returned (.tuple #[.nilIface, .bool (recB r)]) ∧ Below w.heap.size w w' := by
 have HN : Hid (recB r = false) := by show _ = _; unfold recB; simp [h1, h2, h3, h4]
 have e1 : (r.k == 1) = false := by simp [h1]
 have e2 : (r.k == 2) = false := by simp [h2]
 have e3 : (r.k == 3) = false := by simp [h3]
 have e4 : (r.k == 4) = false := by simp [h4]
 clear h1 h2 h3 h4
 generalize recB r = rb at *
 go_enter Tryz.func24, Tryz.ntmps24
 go_wp2
 go_ret2
 exact ⟨by rw [HN.out]; rfl, (belowRefl w).alloc (Nat.le_refl _) _⟩

theorem note (r : Rc) (hf : RcFit r) (hpa : r.b.pa = none → r.b.ps.length = 0 ∧ r.b.pc = 0) (hqa : r.b.qa = none → r.b.qs.length = 0 ∧ r.b.qc = 0) (w : World) (hp : RcRows w r) :
  Calls Tryz.prog 24 #[.agg #[.int .i64 r.k, .int .i64 r.t.t.id, .int .i64 r.t.t.st, .int .i64 r.t.t.snap, .int .i64 r.t.t.cs, .slice r.t.ra r.t.t.rs.length r.t.rc, .slice r.t.wa r.t.t.ws.length r.t.wc, .bool r.t.t.out, .string r.t.t.nm, .string r.nm, .bool r.yes, .slice r.b.va r.b.vs.length r.b.vc, .slice r.b.pa r.b.ps.length r.b.pc, .slice r.b.qa r.b.qs.length r.b.qc, .int .i64 r.b.cs, .int .i64 r.b.nx]] w fun e w' => e = .returned (.tuple #[noteV r, .bool (recB r)]) ∧ Below w.heap.size w w' := by
 by_cases h1 : r.k = 1
 ·rw [show noteV r = .iface 117 (.agg #[.int .i64 r.t.t.id, .int .i64 r.t.t.st, .int .i64 r.t.t.snap, .int .i64 r.t.t.cs, .slice r.t.ra r.t.t.rs.length r.t.rc, .slice r.t.wa r.t.t.ws.length r.t.wc, .bool r.t.t.out, .string r.t.t.nm]) by unfold noteV; rw [if_pos h1]]; exact note1 r h1 hf hpa hqa w hp
 by_cases h2 : r.k = 2
 ·rw [show noteV r = .iface 118 (.agg #[.int .i64 r.t.t.id, .int .i64 r.t.t.st, .int .i64 r.t.t.snap, .int .i64 r.t.t.cs, .slice r.t.ra r.t.t.rs.length r.t.rc, .slice r.t.wa r.t.t.ws.length r.t.wc, .bool r.t.t.out, .string r.t.t.nm]) by unfold noteV; rw [if_neg h1, if_pos h2]]; exact note2 r h2 hf hpa hqa w hp
 by_cases h3 : r.k = 3
 ·rw [show noteV r = .iface 120 (.agg #[.string r.nm, .bool r.yes]) by unfold noteV; rw [if_neg h1, if_neg h2, if_pos h3]]; exact note3 r h3 hf hpa hqa w hp
 by_cases h4 : r.k = 4
 ·rw [show noteV r = .iface 122 (.agg #[.slice r.b.va r.b.vs.length r.b.vc, .slice r.b.pa r.b.ps.length r.b.pc, .slice r.b.qa r.b.qs.length r.b.qc, .int .i64 r.b.cs, .int .i64 r.b.nx]) by unfold noteV; rw [if_neg h1, if_neg h2, if_neg h3, if_pos h4]]; exact note4 r h4 hf hpa hqa w hp
 rw [show noteV r = .nilIface by unfold noteV; rw [if_neg h1, if_neg h2, if_neg h3, if_neg h4]]; exact note0 r h1 h2 h3 h4 w

end Go.Proofs.YtpnnncfbodfnhaaGreatDoor
