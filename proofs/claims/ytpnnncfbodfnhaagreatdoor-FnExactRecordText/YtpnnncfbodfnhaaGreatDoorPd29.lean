/- What impl.RecordText returns. -/
import Derived.Test.YtpnnncfbodfnhaaGreatDoorPd22
import Derived.Test.YtpnnncfbodfnhaaGreatDoorPd27
import Derived.Test.YtpnnncfbodfnhaaGreatDoorPd28
namespace Go.Proofs.YtpnnncfbodfnhaaGreatDoor
open Go.RowKit
open KM
open VM
attribute [local go_sem ↓] Go.wp_at_zero Go.wp_at_succ

set_option maxRecDepth 100000 in
set_option maxHeartbeats 2000000 in
theorem wr205 (l0 : List UInt8) (n0 : l0.length ≤ 1000) (t : Tx) (ra wa : Option Addr) (rc wc : Nat) (B g : Nat) (hs : Small t) (w : World) (hr : ∀ b' off, ra = some ⟨b', off, none⟩ → 0 < t.rs.length → b' < B) (hw : ∀ b' off, wa = some ⟨b', off, none⟩ → 0 < t.ws.length → b' < B) (h : Wtr w B g l0) (hp : TRow w t ra wa) :
  Calls Tryz.prog 205 #[.agg #[.int .i64 t.id, .int .i64 t.st, .int .i64 t.snap, .int .i64 t.cs, .slice ra t.rs.length rc, .slice wa t.ws.length wc, .bool t.out, .string t.nm], .pointer (some ⟨g, 0, none⟩)] w fun e w' => e = .returned (.tuple #[]) ∧ Wtr w' B g (l0 ++ txL t) ∧ Below B w w' := by
 have HW0 : Hid (Wtr (w.alloc (.cells #[.int .i64 t.id, .int .i64 t.st, .int .i64 t.snap, .int .i64 t.cs, .slice ra t.rs.length rc, .slice wa t.ws.length wc, .bool t.out, .string t.nm] 117)) B g l0) := h.below ((belowRefl w).alloc (Nat.le_refl _) _)
 have HB0 : Hid (Below B w (w.alloc (.cells #[.int .i64 t.id, .int .i64 t.st, .int .i64 t.snap, .int .i64 t.cs, .slice ra t.rs.length rc, .slice wa t.ws.length wc, .bool t.out, .string t.nm] 117))) := (Below.refl B w).alloc h.le _
 have HR0 : Hid (TRow (w.alloc (.cells #[.int .i64 t.id, .int .i64 t.st, .int .i64 t.snap, .int .i64 t.cs, .slice ra t.rs.length rc, .slice wa t.ws.length wc, .bool t.out, .string t.nm] 117)) t ra wa) := hp.below ((belowRefl w).alloc (Nat.le_refl _) _)
 have C1 : Hid (∀ W, Wtr W B g l0 → TRow W t ra wa → Calls Tryz.prog 206 #[.pointer (some ⟨g, 0, none⟩), .agg #[.int .i64 t.id, .int .i64 t.st, .int .i64 t.snap, .int .i64 t.cs, .slice ra t.rs.length rc, .slice wa t.ws.length wc, .bool t.out, .string t.nm]] W fun e w' => e = .returned (.tuple #[]) ∧ Wtr w' B g (l0 ++ txL t) ∧ Below B W w' ∧ Keep5 g W w') := fun W h1 h2 => wtxn2 l0 (by omega) t ra wa rc wc B g hs W hr hw h1 h2
 clear h hp hs hr hw
 generalize l0 ++ txL t = L at *
 go_enter Tryz.func205, Tryz.ntmps205
 go_wp2_with fail
 refine (C1.out _ HW0.out HR0.out).mono ?_
 rintro e w1 ⟨rfl, hw1, hb1, -⟩
 have HW1 := hide hw1
 have HB1 : Hid (Below B w w1) := HB0.out.trans hb1
 clear hw1 hb1
 go_wp2
 go_end0
 exact ⟨rfl, HW1.out, HB1.out⟩

set_option maxRecDepth 100000 in
set_option maxHeartbeats 2000000 in
theorem wr212 (l0 : List UInt8) (n0 : l0.length ≤ 1000) (t : Tx) (ra wa : Option Addr) (rc wc : Nat) (B g : Nat) (hs : Small t) (w : World) (hr : ∀ b' off, ra = some ⟨b', off, none⟩ → 0 < t.rs.length → b' < B) (hw : ∀ b' off, wa = some ⟨b', off, none⟩ → 0 < t.ws.length → b' < B) (h : Wtr w B g l0) (hp : TRow w t ra wa) :
  Calls Tryz.prog 212 #[.agg #[.int .i64 t.id, .int .i64 t.st, .int .i64 t.snap, .int .i64 t.cs, .slice ra t.rs.length rc, .slice wa t.ws.length wc, .bool t.out, .string t.nm], .pointer (some ⟨g, 0, none⟩)] w fun e w' => e = .returned (.tuple #[]) ∧ Wtr w' B g (l0 ++ txL t) ∧ Below B w w' := by
 have HW0 : Hid (Wtr (w.alloc (.cells #[.int .i64 t.id, .int .i64 t.st, .int .i64 t.snap, .int .i64 t.cs, .slice ra t.rs.length rc, .slice wa t.ws.length wc, .bool t.out, .string t.nm] 118)) B g l0) := h.below ((belowRefl w).alloc (Nat.le_refl _) _)
 have HB0 : Hid (Below B w (w.alloc (.cells #[.int .i64 t.id, .int .i64 t.st, .int .i64 t.snap, .int .i64 t.cs, .slice ra t.rs.length rc, .slice wa t.ws.length wc, .bool t.out, .string t.nm] 118))) := (Below.refl B w).alloc h.le _
 have HR0 : Hid (TRow (w.alloc (.cells #[.int .i64 t.id, .int .i64 t.st, .int .i64 t.snap, .int .i64 t.cs, .slice ra t.rs.length rc, .slice wa t.ws.length wc, .bool t.out, .string t.nm] 118)) t ra wa) := hp.below ((belowRefl w).alloc (Nat.le_refl _) _)
 have C1 : Hid (∀ W, Wtr W B g l0 → TRow W t ra wa → Calls Tryz.prog 206 #[.pointer (some ⟨g, 0, none⟩), .agg #[.int .i64 t.id, .int .i64 t.st, .int .i64 t.snap, .int .i64 t.cs, .slice ra t.rs.length rc, .slice wa t.ws.length wc, .bool t.out, .string t.nm]] W fun e w' => e = .returned (.tuple #[]) ∧ Wtr w' B g (l0 ++ txL t) ∧ Below B W w' ∧ Keep5 g W w') := fun W h1 h2 => wtxn2 l0 (by omega) t ra wa rc wc B g hs W hr hw h1 h2
 clear h hp hs hr hw
 generalize l0 ++ txL t = L at *
 go_enter Tryz.func212, Tryz.ntmps212
 go_wp2_with fail
 refine (C1.out _ HW0.out HR0.out).mono ?_
 rintro e w1 ⟨rfl, hw1, hb1, -⟩
 have HW1 := hide hw1
 have HB1 : Hid (Below B w w1) := HB0.out.trans hb1
 clear hw1 hb1
 go_wp2
 go_end0
 exact ⟨rfl, HW1.out, HB1.out⟩

set_option maxRecDepth 100000 in
set_option maxHeartbeats 2000000 in
theorem wr214 (l0 : List UInt8) (n0 : l0.length ≤ 1000) (s : ByteArray) (y : Bool) (B g : Nat) (hz : s.size ≤ 20000) (w : World) (h : Wtr w B g l0) :
  Calls Tryz.prog 214 #[.agg #[.string s, .bool y], .pointer (some ⟨g, 0, none⟩)] w fun e w' => e = .returned (.tuple #[]) ∧ Wtr w' B g (l0 ++ (shL s ++ bitL y)) ∧ Below B w w' := by
 have hne : w.heap.size ≠ g := by rcases h.is with h | h <;> (have := h.lt; omega)
 have HW0 : Hid (Wtr (w.alloc (.cells #[.string s, .bool y] 120)) B g l0) := h.below ((belowRefl w).alloc (Nat.le_refl _) _)
 have HB0 : Hid (Below B w (w.alloc (.cells #[.string s, .bool y] 120))) := (Below.refl B w).alloc h.le _
 have HE0 : Hid ((w.alloc (.cells #[.string s, .bool y] 120)).heap[w.heap.size]? = some (.cells [.string s, .bool y].toArray 120 (0, 0))) := heapAllocNew w [.string s, .bool y] 120
 have hsl := sh_len hz
 clear h
 have HEq : Hid (l0 ++ (shL s ++ bitL y) = (l0 ++ shL s) ++ bitL y) := by show _ = _; rw [List.append_assoc]
 go_enter Tryz.func214, Tryz.ntmps214
 go_wp2_with fail
 refine (wsh B g s l0 hz (by omega) _ HW0.out).mono ?_
 rintro e w1 ⟨rfl, hw1, hb1, hk1⟩
 have HW1 := hide hw1
 have HB1 : Hid (Below B w w1) := HB0.out.trans hb1
 have HE1 : Hid (w1.heap[w.heap.size]? = some (.cells [.string s, .bool y].toArray 120 (0, 0))) := hk1 _ _ 120 (0, 0) hne (by decide) HE0.out
 clear hw1 hb1 hk1
 have x1 := (bx_heap HE1.out).c1
 go_wp2_with fail
 refine (wflag B g y _ (by rw [List.length_append]; omega) _ HW1.out).mono ?_
 rintro e w2 ⟨rfl, hw2, hb2, -⟩
 have HW2 := hide hw2
 have HB2 : Hid (Below B w w2) := HB1.out.trans hb2
 clear hw2 hb2 x1
 go_wp2
 go_end0
 exact ⟨rfl, by rw [HEq.out]; exact HW2.out, HB2.out⟩

set_option maxRecDepth 100000 in
set_option maxHeartbeats 2000000 in
theorem wr216 (l0 : List UInt8) (n0 : l0.length ≤ 1000) (b : Bb) (B g : Nat) (hs : BSm b) (w : World) (hl : BLow B b) (h : Wtr w B g l0) (hp : BRows w b) :
  Calls Tryz.prog 216 #[.agg #[.slice b.va b.vs.length b.vc, .slice b.pa b.ps.length b.pc, .slice b.qa b.qs.length b.qc, .int .i64 b.cs, .int .i64 b.nx], .pointer (some ⟨g, 0, none⟩)] w fun e w' => e = .returned (.tuple #[]) ∧ Wtr w' B g (l0 ++ bsL b) ∧ Below B w w' := by
 have HW0 : Hid (Wtr (w.alloc (.cells #[.slice b.va b.vs.length b.vc, .slice b.pa b.ps.length b.pc, .slice b.qa b.qs.length b.qc, .int .i64 b.cs, .int .i64 b.nx] 122)) B g l0) := h.below ((belowRefl w).alloc (Nat.le_refl _) _)
 have HB0 : Hid (Below B w (w.alloc (.cells #[.slice b.va b.vs.length b.vc, .slice b.pa b.ps.length b.pc, .slice b.qa b.qs.length b.qc, .int .i64 b.cs, .int .i64 b.nx] 122))) := (Below.refl B w).alloc h.le _
 have HR0 : Hid (BRows (w.alloc (.cells #[.slice b.va b.vs.length b.vc, .slice b.pa b.ps.length b.pc, .slice b.qa b.qs.length b.qc, .int .i64 b.cs, .int .i64 b.nx] 122)) b) := hp.below ((belowRefl w).alloc (Nat.le_refl _) _)
 have C1 : Hid (∀ W, Wtr W B g l0 → BRows W b → Calls Tryz.prog 217 #[.pointer (some ⟨g, 0, none⟩), .agg #[.slice b.va b.vs.length b.vc, .slice b.pa b.ps.length b.pc, .slice b.qa b.qs.length b.qc, .int .i64 b.cs, .int .i64 b.nx]] W fun e w' => e = .returned (.tuple #[]) ∧ Wtr w' B g (l0 ++ bsL b) ∧ Below B W w' ∧ Keep5 g W w') := fun W h1 h2 => wbase l0 n0 b B g hs W hl h1 h2
 clear h hp hs hl
 generalize l0 ++ bsL b = L at *
 go_enter Tryz.func216, Tryz.ntmps216
 go_wp2_with fail
 refine (C1.out _ HW0.out HR0.out).mono ?_
 rintro e w1 ⟨rfl, hw1, hb1, -⟩
 have HW1 := hide hw1
 have HB1 : Hid (Below B w w1) := HB0.out.trans hb1
 clear hw1 hb1
 go_wp2
 go_end0
 exact ⟨rfl, HW1.out, HB1.out⟩

def noteL (r : Rc) : List UInt8 := if r.k = 3 then shL r.nm ++ bitL r.yes else if r.k = 4 then bsL r.b else txL r.t.t
def rcL (r : Rc) : List UInt8 := WM.varL r.k.toNat ++ noteL r
def rctV (r : Rc) : Value := if recB r = true then .tuple #[.string (sealB ⟨(rcL r).toArray⟩), .bool true] else .tuple #[.string ⟨#[]⟩, .bool false]
theorem rec_cases {r : Rc} (h : recB r = true) : (r.k = 1 ∧ txnB r.t.t = true ∧ r.t.t.st = 3) ∨ (r.k = 2 ∧ txnB r.t.t = true ∧ r.t.t.st = 2) ∨ (r.k = 3 ∧ keyB r.nm = true) ∨ (r.k = 4 ∧ sbB r.b = true) := by
 unfold recB at h
 simp only [Bool.or_eq_true, Bool.and_eq_true, decide_eq_true_eq] at h
 rcases h with ((h | h) | h) | h
 ·exact Or.inl ⟨h.1, h.2.2.2.2.2, h.2.2.2.2.1⟩
 ·exact Or.inr (Or.inl ⟨h.1, h.2.2.2.2.2, h.2.2.2.2.1⟩)
 ·exact Or.inr (Or.inr (Or.inl ⟨h.1, h.2.2.2⟩))
 ·exact Or.inr (Or.inr (Or.inr ⟨h.1, h.2.2.2.2⟩))
theorem bs_len {b : Bb} (h : BSm b) : (bsL b).length ≤ 15000 := by
 have a1 := var_len b.cs.toNat (by have := h.c1; omega)
 have a2 := var_len b.nx.toNat (by have := h.n1; omega)
 have a3 := var_len b.vs.length (by have := h.vl; omega)
 have a4 := var_len b.ps.length (by have := h.pl; omega)
 have a5 := var_len b.qs.length (by have := h.ql; omega)
 have b1 := vr_len b.vs h.vs
 have b2 := ts_len b.ps (fun x hx => right_small (h.ps x hx))
 have b3 := ts_len b.qs (fun x hx => right_small (h.qs x hx))
 have c1 := h.vl
 have c2 := h.pl
 have c3 := h.ql
 unfold bsL
 simp only [List.length_append]; omega
theorem rc_len {r : Rc} (h : recB r = true) : (rcL r).length ≤ 15005 := by
 unfold rcL noteL
 rw [List.length_append]
 rcases rec_cases h with ⟨e, ht, _⟩ | ⟨e, ht, _⟩ | ⟨e, ht⟩ | ⟨e, ht⟩
 ·rw [if_neg (by omega), if_neg (by omega)]
  have := var_len r.k.toNat (by omega)
  have := tx_len (right_small ht)
  omega
 ·rw [if_neg (by omega), if_neg (by omega)]
  have := var_len r.k.toNat (by omega)
  have := tx_len (right_small ht)
  omega
 ·rw [if_pos e, List.length_append]
  have := var_len r.k.toNat (by omega)
  have := sh_small (key_small ht) (by omega)
  have := bit_len r.yes
  omega
 ·rw [if_neg (by omega), if_pos e]
  have := var_len r.k.toNat (by omega)
  have := bs_len (base_small ht)
  omega
theorem rcL_ne (r : Rc) : rcL r ≠ [] := by
 unfold rcL
 intro h
 have h1 := (List.append_eq_nil_iff.1 h).1
 have h2 := WM.varL_pos r.k.toNat
 rw [h1] at h2
 simp at h2
theorem rct_same {r c : Rc} (h : RcSame r c) : rctV c = rctV r := by
 have eb : bsL c.b = bsL r.b := by
  unfold bsL
  rw [h.b.cs, h.b.nx, h.b.v, h.b.pl, h.b.ql, ts_same h.b.p, ts_same h.b.q]
 have e : rcL c = rcL r := by
  unfold rcL noteL
  rw [h.k, h.nm, h.yes, h.t, eb]
 unfold rctV
 rw [rec_same h, e]

set_option maxRecDepth 100000 in
set_option maxHeartbeats 2000000 in
theorem irct_no (r : Rc) (hk : recB r = false) (nv : Value) (w : World) (C1 : Hid (∀ W, Below w.heap.size w W → Calls Tryz.prog 24 #[.agg #[.int .i64 r.k, .int .i64 r.t.t.id, .int .i64 r.t.t.st, .int .i64 r.t.t.snap, .int .i64 r.t.t.cs, .slice r.t.ra r.t.t.rs.length r.t.rc, .slice r.t.wa r.t.t.ws.length r.t.wc, .bool r.t.t.out, .string r.t.t.nm, .string r.nm, .bool r.yes, .slice r.b.va r.b.vs.length r.b.vc, .slice r.b.pa r.b.ps.length r.b.pc, .slice r.b.qa r.b.qs.length r.b.qc, .int .i64 r.b.cs, .int .i64 r.b.nx]] W fun e w' => e = .returned (.tuple #[nv, .bool (recB r)]) ∧ Below W.heap.size W w')) :
  Calls Tryz.prog 8 #[.agg #[.int .i64 r.k, .int .i64 r.t.t.id, .int .i64 r.t.t.st, .int .i64 r.t.t.snap, .int .i64 r.t.t.cs, .slice r.t.ra r.t.t.rs.length r.t.rc, .slice r.t.wa r.t.t.ws.length r.t.wc, .bool r.t.t.out, .string r.t.t.nm, .string r.nm, .bool r.yes, .slice r.b.va r.b.vs.length r.b.vc, .slice r.b.pa r.b.ps.length r.b.pc, .slice r.b.qa r.b.qs.length r.b.qc, .int .i64 r.b.cs, .int .i64 r.b.nx]] w fun e w' => e = .returned (rctV r) ∧ Below w.heap.size w w' := by
 have HB0 : Hid (Below w.heap.size w (w.alloc (.cells #[.int .i64 r.k, .int .i64 r.t.t.id, .int .i64 r.t.t.st, .int .i64 r.t.t.snap, .int .i64 r.t.t.cs, .slice r.t.ra r.t.t.rs.length r.t.rc, .slice r.t.wa r.t.t.ws.length r.t.wc, .bool r.t.t.out, .string r.t.t.nm, .string r.nm, .bool r.yes, .slice r.b.va r.b.vs.length r.b.vc, .slice r.b.pa r.b.ps.length r.b.pc, .slice r.b.qa r.b.qs.length r.b.qc, .int .i64 r.b.cs, .int .i64 r.b.nx] 44))) := (belowRefl w).alloc (Nat.le_refl _) _
 have HV : Hid (rctV r = .tuple #[.string ⟨#[]⟩, .bool false]) := by show _ = _; unfold rctV; rw [hk]; rfl
 rw [hk] at C1
 clear hk
 generalize rctV r = rr at *
 go_enter Tryz.func8, Tryz.ntmps8
 go_wp2_with fail
 refine (C1.out _ HB0.out).mono ?_
 rintro e w1 ⟨rfl, hb1⟩
 have HB1 : Hid (Below w.heap.size w w1) := HB0.out.trans (hb1.mono HB0.out.size)
 clear hb1
 go_wp2
 go_ret2
 exact ⟨by rw [HV.out]; rfl, HB1.out⟩

set_option maxRecDepth 100000 in
set_option maxHeartbeats 2000000 in
theorem irct1 (r : Rc) (hr : recB r = true) (hk : r.k = 1) (ht : txnB r.t.t = true) (w : World) (hT : Tab w) (hp : RcRows w r) (C1 : Hid (∀ W, Below w.heap.size w W → Calls Tryz.prog 24 #[.agg #[.int .i64 r.k, .int .i64 r.t.t.id, .int .i64 r.t.t.st, .int .i64 r.t.t.snap, .int .i64 r.t.t.cs, .slice r.t.ra r.t.t.rs.length r.t.rc, .slice r.t.wa r.t.t.ws.length r.t.wc, .bool r.t.t.out, .string r.t.t.nm, .string r.nm, .bool r.yes, .slice r.b.va r.b.vs.length r.b.vc, .slice r.b.pa r.b.ps.length r.b.pc, .slice r.b.qa r.b.qs.length r.b.qc, .int .i64 r.b.cs, .int .i64 r.b.nx]] W fun e w' => e = .returned (.tuple #[.iface 117 (.agg #[.int .i64 r.t.t.id, .int .i64 r.t.t.st, .int .i64 r.t.t.snap, .int .i64 r.t.t.cs, .slice r.t.ra r.t.t.rs.length r.t.rc, .slice r.t.wa r.t.t.ws.length r.t.wc, .bool r.t.t.out, .string r.t.t.nm]), .bool (recB r)]) ∧ Below W.heap.size W w')) :
  Calls Tryz.prog 8 #[.agg #[.int .i64 r.k, .int .i64 r.t.t.id, .int .i64 r.t.t.st, .int .i64 r.t.t.snap, .int .i64 r.t.t.cs, .slice r.t.ra r.t.t.rs.length r.t.rc, .slice r.t.wa r.t.t.ws.length r.t.wc, .bool r.t.t.out, .string r.t.t.nm, .string r.nm, .bool r.yes, .slice r.b.va r.b.vs.length r.b.vc, .slice r.b.pa r.b.ps.length r.b.pc, .slice r.b.qa r.b.qs.length r.b.qc, .int .i64 r.b.cs, .int .i64 r.b.nx]] w fun e w' => e = .returned (rctV r) ∧ Below w.heap.size w w' := by
 have HP : Hid (RcRows w r) := hp
 have HTB : Hid (Tab w) := hT
 have BX0 : Hid (Bx (w.alloc (.cells #[.int .i64 r.k, .int .i64 r.t.t.id, .int .i64 r.t.t.st, .int .i64 r.t.t.snap, .int .i64 r.t.t.cs, .slice r.t.ra r.t.t.rs.length r.t.rc, .slice r.t.wa r.t.t.ws.length r.t.wc, .bool r.t.t.out, .string r.t.t.nm, .string r.nm, .bool r.yes, .slice r.b.va r.b.vs.length r.b.vc, .slice r.b.pa r.b.ps.length r.b.pc, .slice r.b.qa r.b.qs.length r.b.qc, .int .i64 r.b.cs, .int .i64 r.b.nx] 44)) w.heap.size [.int .i64 r.k, .int .i64 r.t.t.id, .int .i64 r.t.t.st, .int .i64 r.t.t.snap, .int .i64 r.t.t.cs, .slice r.t.ra r.t.t.rs.length r.t.rc, .slice r.t.wa r.t.t.ws.length r.t.wc, .bool r.t.t.out, .string r.t.t.nm, .string r.nm, .bool r.yes, .slice r.b.va r.b.vs.length r.b.vc, .slice r.b.pa r.b.ps.length r.b.pc, .slice r.b.qa r.b.qs.length r.b.qc, .int .i64 r.b.cs, .int .i64 r.b.nx]) := Bx.new w [.int .i64 r.k, .int .i64 r.t.t.id, .int .i64 r.t.t.st, .int .i64 r.t.t.snap, .int .i64 r.t.t.cs, .slice r.t.ra r.t.t.rs.length r.t.rc, .slice r.t.wa r.t.t.ws.length r.t.wc, .bool r.t.t.out, .string r.t.t.nm, .string r.nm, .bool r.yes, .slice r.b.va r.b.vs.length r.b.vc, .slice r.b.pa r.b.ps.length r.b.pc, .slice r.b.qa r.b.qs.length r.b.qc, .int .i64 r.b.cs, .int .i64 r.b.nx] 44
 have HB0 : Hid (Below w.heap.size w (w.alloc (.cells #[.int .i64 r.k, .int .i64 r.t.t.id, .int .i64 r.t.t.st, .int .i64 r.t.t.snap, .int .i64 r.t.t.cs, .slice r.t.ra r.t.t.rs.length r.t.rc, .slice r.t.wa r.t.t.ws.length r.t.wc, .bool r.t.t.out, .string r.t.t.nm, .string r.nm, .bool r.yes, .slice r.b.va r.b.vs.length r.b.vc, .slice r.b.pa r.b.ps.length r.b.pc, .slice r.b.qa r.b.qs.length r.b.qc, .int .i64 r.b.cs, .int .i64 r.b.nx] 44))) := (belowRefl w).alloc (Nat.le_refl _) _
 have HV : Hid (rctV r = .tuple #[.string (sealB ⟨(rcL r).toArray⟩), .bool true]) := by show _ = _; unfold rctV; rw [hr]; rfl
 have HL : Hid (rcL r = WM.varL 1 ++ txL r.t.t) := by show _ = _; unfold rcL noteL; rw [if_neg (by omega), if_neg (by omega), hk]; rfl
 have HN : Hid (rcL r ≠ []) := rcL_ne r
 have HZ : Hid ((rcL r).length ≤ 15005) := rc_len hr
 have HSm : Hid (Small r.t.t) := right_small ht
 have hm : ∀ W : World, (method 64 117 (.agg #[.int .i64 r.t.t.id, .int .i64 r.t.t.st, .int .i64 r.t.t.snap, .int .i64 r.t.t.cs, .slice r.t.ra r.t.t.rs.length r.t.rc, .slice r.t.wa r.t.t.ws.length r.t.wc, .bool r.t.t.out, .string r.t.t.nm]) "loop.example/g00327/impl.write").run Tryz.prog W = .ok (205, .agg #[.int .i64 r.t.t.id, .int .i64 r.t.t.st, .int .i64 r.t.t.snap, .int .i64 r.t.t.cs, .slice r.t.ra r.t.t.rs.length r.t.rc, .slice r.t.wa r.t.t.ws.length r.t.wc, .bool r.t.t.out, .string r.t.t.nm]) W := fun _ => by kernel_rfl
 rw [hr] at C1
 have HK := hide hk
 clear hr ht hp hT hk
 go_enter Tryz.func8, Tryz.ntmps8
 go_wp2_with fail
 refine (C1.out _ HB0.out).mono ?_
 rintro e w1 ⟨rfl, hb1⟩
 have HB1 : Hid (Below w.heap.size w w1) := HB0.out.trans (hb1.mono HB0.out.size)
 have BX1 := hide (BX0.out.below hb1)
 clear hb1 BX0 HB0
 have NW : Hid (Wtr (w1.alloc (.cells #[.pointer none, .slice none 0 0] 71)) w1.heap.size w1.heap.size []) := Wtr.new w1
 have HB2 : Hid (Below w1.heap.size w1 (w1.alloc (.cells #[.pointer none, .slice none 0 0] 71))) := (belowRefl w1).alloc (Nat.le_refl _) _
 have BX2 := hide (BX1.out.below HB2.out)
 have HT1 : Hid (TRow w1 r.t.t r.t.ra r.t.wa) := HP.out.t.below HB1.out
 have x0 := BX2.out.c0
 rw [HK.out] at x0
 have CN : Hid (∀ W, Wtr W w1.heap.size w1.heap.size [] → Calls Tryz.prog 25 #[.pointer (some ⟨w1.heap.size, 0, none⟩), .int .i64 1] W fun e w' => e = .returned (.tuple #[]) ∧ Wtr w' w1.heap.size w1.heap.size (WM.varL 1) ∧ Below w1.heap.size W w') := fun W h => by
  refine (wnum w1.heap.size w1.heap.size 1 [] (by omega) (by simp) W h).mono ?_
  rintro e w' ⟨h1, h2, h3, -⟩
  exact ⟨h1, h2, h3⟩
 obtain ⟨l0, hl0⟩ : ∃ l0, l0 = WM.varL 1 := ⟨_, rfl⟩
 have n0 : l0.length ≤ 5 := by rw [hl0]; exact var_len _ (by omega)
 rw [← hl0] at CN HL
 have CW : Hid (∀ W, Wtr W w1.heap.size w1.heap.size l0 → RcRows W r → Calls Tryz.prog 205 #[.agg #[.int .i64 r.t.t.id, .int .i64 r.t.t.st, .int .i64 r.t.t.snap, .int .i64 r.t.t.cs, .slice r.t.ra r.t.t.rs.length r.t.rc, .slice r.t.wa r.t.t.ws.length r.t.wc, .bool r.t.t.out, .string r.t.t.nm], .pointer (some ⟨w1.heap.size, 0, none⟩)] W fun e w' => e = .returned (.tuple #[]) ∧ Wtr w' w1.heap.size w1.heap.size (rcL r) ∧ Below w1.heap.size W w') := fun W hw hp => by
  rw [HL.out]
  exact wr205 l0 (by omega) r.t.t r.t.ra r.t.wa r.t.rc r.t.wc w1.heap.size w1.heap.size HSm.out W (low_of HT1.out.r) (low_of HT1.out.w) hw (hp.t)
 clear hl0
 have HR1 : Hid (RcRows w1 r) := HP.out.below HB1.out
 have HLow : Hid (∀ W, Below w1.heap.size w1 W → RcRows W r) := fun W h => HR1.out.below h
 generalize rcL r = L at *
 go_wp2_with fail
 refine (CN.out _ NW.out).mono ?_
 rintro e w2 ⟨rfl, hw2, hb2⟩
 have HW2 := hide hw2
 have HB3 : Hid (Below w1.heap.size w1 w2) := HB2.out.trans hb2
 clear hw2 hb2 x0 NW HB2
 go_wp2_with fail
 refine (CW.out _ HW2.out (HLow.out _ HB3.out)).mono ?_
 rintro e w3 ⟨rfl, hw3, hb3⟩
 have HW3 := hide hw3
 have HB4 : Hid (Below w1.heap.size w1 w3) := HB3.out.trans hb3
 clear hw3 hb3 HW2 HB3
 go_wp2_with fail
 refine (bstring _ _ L _ HW3.out.is HN.out).mono ?_
 rintro e w4 ⟨rfl, hb4⟩
 have HB5 : Hid (Below w.heap.size w w4) := HB1.out.trans ((HB4.out.trans hb4).mono HB1.out.size)
 clear hb4 HW3 HB4
 have HS : Hid ((⟨L.toArray⟩ : ByteArray).size ≤ 20000) := by show (⟨L.toArray⟩ : ByteArray).size ≤ 20000; rw [show (⟨L.toArray⟩ : ByteArray).size = L.length from List.size_toArray]; have := HZ.out; omega
 have C5 : Hid (∀ W, Tab W → Calls Tryz.prog 26 #[.string ⟨L.toArray⟩] W fun e w' => e = .returned (.tuple #[.string (sealB ⟨L.toArray⟩), .bool true]) ∧ Below W.heap.size W w') := fun W h => iseal_yes ⟨L.toArray⟩ HS.out W h
 have HT5 : Hid (Tab w4) := HTB.out.below HB5.out
 generalize sealB ⟨L.toArray⟩ = SL at *
 generalize (⟨L.toArray⟩ : ByteArray) = LB at *
 go_wp2_with fail
 refine (C5.out _ HT5.out).mono ?_
 rintro e w5 ⟨rfl, hb5⟩
 have HB6 : Hid (Below w.heap.size w w5) := HB5.out.trans (hb5.mono HB5.out.size)
 clear hb5
 go_wp2
 go_ret2
 exact ⟨by rw [HV.out]; rfl, HB6.out⟩

set_option maxRecDepth 100000 in
set_option maxHeartbeats 2000000 in
theorem irct2 (r : Rc) (hr : recB r = true) (hk : r.k = 2) (ht : txnB r.t.t = true) (w : World) (hT : Tab w) (hp : RcRows w r) (C1 : Hid (∀ W, Below w.heap.size w W → Calls Tryz.prog 24 #[.agg #[.int .i64 r.k, .int .i64 r.t.t.id, .int .i64 r.t.t.st, .int .i64 r.t.t.snap, .int .i64 r.t.t.cs, .slice r.t.ra r.t.t.rs.length r.t.rc, .slice r.t.wa r.t.t.ws.length r.t.wc, .bool r.t.t.out, .string r.t.t.nm, .string r.nm, .bool r.yes, .slice r.b.va r.b.vs.length r.b.vc, .slice r.b.pa r.b.ps.length r.b.pc, .slice r.b.qa r.b.qs.length r.b.qc, .int .i64 r.b.cs, .int .i64 r.b.nx]] W fun e w' => e = .returned (.tuple #[.iface 118 (.agg #[.int .i64 r.t.t.id, .int .i64 r.t.t.st, .int .i64 r.t.t.snap, .int .i64 r.t.t.cs, .slice r.t.ra r.t.t.rs.length r.t.rc, .slice r.t.wa r.t.t.ws.length r.t.wc, .bool r.t.t.out, .string r.t.t.nm]), .bool (recB r)]) ∧ Below W.heap.size W w')) :
  Calls Tryz.prog 8 #[.agg #[.int .i64 r.k, .int .i64 r.t.t.id, .int .i64 r.t.t.st, .int .i64 r.t.t.snap, .int .i64 r.t.t.cs, .slice r.t.ra r.t.t.rs.length r.t.rc, .slice r.t.wa r.t.t.ws.length r.t.wc, .bool r.t.t.out, .string r.t.t.nm, .string r.nm, .bool r.yes, .slice r.b.va r.b.vs.length r.b.vc, .slice r.b.pa r.b.ps.length r.b.pc, .slice r.b.qa r.b.qs.length r.b.qc, .int .i64 r.b.cs, .int .i64 r.b.nx]] w fun e w' => e = .returned (rctV r) ∧ Below w.heap.size w w' := by
 have HP : Hid (RcRows w r) := hp
 have HTB : Hid (Tab w) := hT
 have BX0 : Hid (Bx (w.alloc (.cells #[.int .i64 r.k, .int .i64 r.t.t.id, .int .i64 r.t.t.st, .int .i64 r.t.t.snap, .int .i64 r.t.t.cs, .slice r.t.ra r.t.t.rs.length r.t.rc, .slice r.t.wa r.t.t.ws.length r.t.wc, .bool r.t.t.out, .string r.t.t.nm, .string r.nm, .bool r.yes, .slice r.b.va r.b.vs.length r.b.vc, .slice r.b.pa r.b.ps.length r.b.pc, .slice r.b.qa r.b.qs.length r.b.qc, .int .i64 r.b.cs, .int .i64 r.b.nx] 44)) w.heap.size [.int .i64 r.k, .int .i64 r.t.t.id, .int .i64 r.t.t.st, .int .i64 r.t.t.snap, .int .i64 r.t.t.cs, .slice r.t.ra r.t.t.rs.length r.t.rc, .slice r.t.wa r.t.t.ws.length r.t.wc, .bool r.t.t.out, .string r.t.t.nm, .string r.nm, .bool r.yes, .slice r.b.va r.b.vs.length r.b.vc, .slice r.b.pa r.b.ps.length r.b.pc, .slice r.b.qa r.b.qs.length r.b.qc, .int .i64 r.b.cs, .int .i64 r.b.nx]) := Bx.new w [.int .i64 r.k, .int .i64 r.t.t.id, .int .i64 r.t.t.st, .int .i64 r.t.t.snap, .int .i64 r.t.t.cs, .slice r.t.ra r.t.t.rs.length r.t.rc, .slice r.t.wa r.t.t.ws.length r.t.wc, .bool r.t.t.out, .string r.t.t.nm, .string r.nm, .bool r.yes, .slice r.b.va r.b.vs.length r.b.vc, .slice r.b.pa r.b.ps.length r.b.pc, .slice r.b.qa r.b.qs.length r.b.qc, .int .i64 r.b.cs, .int .i64 r.b.nx] 44
 have HB0 : Hid (Below w.heap.size w (w.alloc (.cells #[.int .i64 r.k, .int .i64 r.t.t.id, .int .i64 r.t.t.st, .int .i64 r.t.t.snap, .int .i64 r.t.t.cs, .slice r.t.ra r.t.t.rs.length r.t.rc, .slice r.t.wa r.t.t.ws.length r.t.wc, .bool r.t.t.out, .string r.t.t.nm, .string r.nm, .bool r.yes, .slice r.b.va r.b.vs.length r.b.vc, .slice r.b.pa r.b.ps.length r.b.pc, .slice r.b.qa r.b.qs.length r.b.qc, .int .i64 r.b.cs, .int .i64 r.b.nx] 44))) := (belowRefl w).alloc (Nat.le_refl _) _
 have HV : Hid (rctV r = .tuple #[.string (sealB ⟨(rcL r).toArray⟩), .bool true]) := by show _ = _; unfold rctV; rw [hr]; rfl
 have HL : Hid (rcL r = WM.varL 2 ++ txL r.t.t) := by show _ = _; unfold rcL noteL; rw [if_neg (by omega), if_neg (by omega), hk]; rfl
 have HN : Hid (rcL r ≠ []) := rcL_ne r
 have HZ : Hid ((rcL r).length ≤ 15005) := rc_len hr
 have HSm : Hid (Small r.t.t) := right_small ht
 have hm : ∀ W : World, (method 64 118 (.agg #[.int .i64 r.t.t.id, .int .i64 r.t.t.st, .int .i64 r.t.t.snap, .int .i64 r.t.t.cs, .slice r.t.ra r.t.t.rs.length r.t.rc, .slice r.t.wa r.t.t.ws.length r.t.wc, .bool r.t.t.out, .string r.t.t.nm]) "loop.example/g00327/impl.write").run Tryz.prog W = .ok (212, .agg #[.int .i64 r.t.t.id, .int .i64 r.t.t.st, .int .i64 r.t.t.snap, .int .i64 r.t.t.cs, .slice r.t.ra r.t.t.rs.length r.t.rc, .slice r.t.wa r.t.t.ws.length r.t.wc, .bool r.t.t.out, .string r.t.t.nm]) W := fun _ => by kernel_rfl
 rw [hr] at C1
 have HK := hide hk
 clear hr ht hp hT hk
 go_enter Tryz.func8, Tryz.ntmps8
 go_wp2_with fail
 refine (C1.out _ HB0.out).mono ?_
 rintro e w1 ⟨rfl, hb1⟩
 have HB1 : Hid (Below w.heap.size w w1) := HB0.out.trans (hb1.mono HB0.out.size)
 have BX1 := hide (BX0.out.below hb1)
 clear hb1 BX0 HB0
 have NW : Hid (Wtr (w1.alloc (.cells #[.pointer none, .slice none 0 0] 71)) w1.heap.size w1.heap.size []) := Wtr.new w1
 have HB2 : Hid (Below w1.heap.size w1 (w1.alloc (.cells #[.pointer none, .slice none 0 0] 71))) := (belowRefl w1).alloc (Nat.le_refl _) _
 have BX2 := hide (BX1.out.below HB2.out)
 have HT1 : Hid (TRow w1 r.t.t r.t.ra r.t.wa) := HP.out.t.below HB1.out
 have x0 := BX2.out.c0
 rw [HK.out] at x0
 have CN : Hid (∀ W, Wtr W w1.heap.size w1.heap.size [] → Calls Tryz.prog 25 #[.pointer (some ⟨w1.heap.size, 0, none⟩), .int .i64 2] W fun e w' => e = .returned (.tuple #[]) ∧ Wtr w' w1.heap.size w1.heap.size (WM.varL 2) ∧ Below w1.heap.size W w') := fun W h => by
  refine (wnum w1.heap.size w1.heap.size 2 [] (by omega) (by simp) W h).mono ?_
  rintro e w' ⟨h1, h2, h3, -⟩
  exact ⟨h1, h2, h3⟩
 obtain ⟨l0, hl0⟩ : ∃ l0, l0 = WM.varL 2 := ⟨_, rfl⟩
 have n0 : l0.length ≤ 5 := by rw [hl0]; exact var_len _ (by omega)
 rw [← hl0] at CN HL
 have CW : Hid (∀ W, Wtr W w1.heap.size w1.heap.size l0 → RcRows W r → Calls Tryz.prog 212 #[.agg #[.int .i64 r.t.t.id, .int .i64 r.t.t.st, .int .i64 r.t.t.snap, .int .i64 r.t.t.cs, .slice r.t.ra r.t.t.rs.length r.t.rc, .slice r.t.wa r.t.t.ws.length r.t.wc, .bool r.t.t.out, .string r.t.t.nm], .pointer (some ⟨w1.heap.size, 0, none⟩)] W fun e w' => e = .returned (.tuple #[]) ∧ Wtr w' w1.heap.size w1.heap.size (rcL r) ∧ Below w1.heap.size W w') := fun W hw hp => by
  rw [HL.out]
  exact wr212 l0 (by omega) r.t.t r.t.ra r.t.wa r.t.rc r.t.wc w1.heap.size w1.heap.size HSm.out W (low_of HT1.out.r) (low_of HT1.out.w) hw (hp.t)
 clear hl0
 have HR1 : Hid (RcRows w1 r) := HP.out.below HB1.out
 have HLow : Hid (∀ W, Below w1.heap.size w1 W → RcRows W r) := fun W h => HR1.out.below h
 generalize rcL r = L at *
 go_wp2_with fail
 refine (CN.out _ NW.out).mono ?_
 rintro e w2 ⟨rfl, hw2, hb2⟩
 have HW2 := hide hw2
 have HB3 : Hid (Below w1.heap.size w1 w2) := HB2.out.trans hb2
 clear hw2 hb2 x0 NW HB2
 go_wp2_with fail
 refine (CW.out _ HW2.out (HLow.out _ HB3.out)).mono ?_
 rintro e w3 ⟨rfl, hw3, hb3⟩
 have HW3 := hide hw3
 have HB4 : Hid (Below w1.heap.size w1 w3) := HB3.out.trans hb3
 clear hw3 hb3 HW2 HB3
 go_wp2_with fail
 refine (bstring _ _ L _ HW3.out.is HN.out).mono ?_
 rintro e w4 ⟨rfl, hb4⟩
 have HB5 : Hid (Below w.heap.size w w4) := HB1.out.trans ((HB4.out.trans hb4).mono HB1.out.size)
 clear hb4 HW3 HB4
 have HS : Hid ((⟨L.toArray⟩ : ByteArray).size ≤ 20000) := by show (⟨L.toArray⟩ : ByteArray).size ≤ 20000; rw [show (⟨L.toArray⟩ : ByteArray).size = L.length from List.size_toArray]; have := HZ.out; omega
 have C5 : Hid (∀ W, Tab W → Calls Tryz.prog 26 #[.string ⟨L.toArray⟩] W fun e w' => e = .returned (.tuple #[.string (sealB ⟨L.toArray⟩), .bool true]) ∧ Below W.heap.size W w') := fun W h => iseal_yes ⟨L.toArray⟩ HS.out W h
 have HT5 : Hid (Tab w4) := HTB.out.below HB5.out
 generalize sealB ⟨L.toArray⟩ = SL at *
 generalize (⟨L.toArray⟩ : ByteArray) = LB at *
 go_wp2_with fail
 refine (C5.out _ HT5.out).mono ?_
 rintro e w5 ⟨rfl, hb5⟩
 have HB6 : Hid (Below w.heap.size w w5) := HB5.out.trans (hb5.mono HB5.out.size)
 clear hb5
 go_wp2
 go_ret2
 exact ⟨by rw [HV.out]; rfl, HB6.out⟩

set_option maxRecDepth 100000 in
set_option maxHeartbeats 2000000 in
theorem irct3 (r : Rc) (hr : recB r = true) (hk : r.k = 3) (ht : keyB r.nm = true) (w : World) (hT : Tab w) (hp : RcRows w r) (C1 : Hid (∀ W, Below w.heap.size w W → Calls Tryz.prog 24 #[.agg #[.int .i64 r.k, .int .i64 r.t.t.id, .int .i64 r.t.t.st, .int .i64 r.t.t.snap, .int .i64 r.t.t.cs, .slice r.t.ra r.t.t.rs.length r.t.rc, .slice r.t.wa r.t.t.ws.length r.t.wc, .bool r.t.t.out, .string r.t.t.nm, .string r.nm, .bool r.yes, .slice r.b.va r.b.vs.length r.b.vc, .slice r.b.pa r.b.ps.length r.b.pc, .slice r.b.qa r.b.qs.length r.b.qc, .int .i64 r.b.cs, .int .i64 r.b.nx]] W fun e w' => e = .returned (.tuple #[.iface 120 (.agg #[.string r.nm, .bool r.yes]), .bool (recB r)]) ∧ Below W.heap.size W w')) :
  Calls Tryz.prog 8 #[.agg #[.int .i64 r.k, .int .i64 r.t.t.id, .int .i64 r.t.t.st, .int .i64 r.t.t.snap, .int .i64 r.t.t.cs, .slice r.t.ra r.t.t.rs.length r.t.rc, .slice r.t.wa r.t.t.ws.length r.t.wc, .bool r.t.t.out, .string r.t.t.nm, .string r.nm, .bool r.yes, .slice r.b.va r.b.vs.length r.b.vc, .slice r.b.pa r.b.ps.length r.b.pc, .slice r.b.qa r.b.qs.length r.b.qc, .int .i64 r.b.cs, .int .i64 r.b.nx]] w fun e w' => e = .returned (rctV r) ∧ Below w.heap.size w w' := by
 have HP : Hid (RcRows w r) := hp
 have HTB : Hid (Tab w) := hT
 have BX0 : Hid (Bx (w.alloc (.cells #[.int .i64 r.k, .int .i64 r.t.t.id, .int .i64 r.t.t.st, .int .i64 r.t.t.snap, .int .i64 r.t.t.cs, .slice r.t.ra r.t.t.rs.length r.t.rc, .slice r.t.wa r.t.t.ws.length r.t.wc, .bool r.t.t.out, .string r.t.t.nm, .string r.nm, .bool r.yes, .slice r.b.va r.b.vs.length r.b.vc, .slice r.b.pa r.b.ps.length r.b.pc, .slice r.b.qa r.b.qs.length r.b.qc, .int .i64 r.b.cs, .int .i64 r.b.nx] 44)) w.heap.size [.int .i64 r.k, .int .i64 r.t.t.id, .int .i64 r.t.t.st, .int .i64 r.t.t.snap, .int .i64 r.t.t.cs, .slice r.t.ra r.t.t.rs.length r.t.rc, .slice r.t.wa r.t.t.ws.length r.t.wc, .bool r.t.t.out, .string r.t.t.nm, .string r.nm, .bool r.yes, .slice r.b.va r.b.vs.length r.b.vc, .slice r.b.pa r.b.ps.length r.b.pc, .slice r.b.qa r.b.qs.length r.b.qc, .int .i64 r.b.cs, .int .i64 r.b.nx]) := Bx.new w [.int .i64 r.k, .int .i64 r.t.t.id, .int .i64 r.t.t.st, .int .i64 r.t.t.snap, .int .i64 r.t.t.cs, .slice r.t.ra r.t.t.rs.length r.t.rc, .slice r.t.wa r.t.t.ws.length r.t.wc, .bool r.t.t.out, .string r.t.t.nm, .string r.nm, .bool r.yes, .slice r.b.va r.b.vs.length r.b.vc, .slice r.b.pa r.b.ps.length r.b.pc, .slice r.b.qa r.b.qs.length r.b.qc, .int .i64 r.b.cs, .int .i64 r.b.nx] 44
 have HB0 : Hid (Below w.heap.size w (w.alloc (.cells #[.int .i64 r.k, .int .i64 r.t.t.id, .int .i64 r.t.t.st, .int .i64 r.t.t.snap, .int .i64 r.t.t.cs, .slice r.t.ra r.t.t.rs.length r.t.rc, .slice r.t.wa r.t.t.ws.length r.t.wc, .bool r.t.t.out, .string r.t.t.nm, .string r.nm, .bool r.yes, .slice r.b.va r.b.vs.length r.b.vc, .slice r.b.pa r.b.ps.length r.b.pc, .slice r.b.qa r.b.qs.length r.b.qc, .int .i64 r.b.cs, .int .i64 r.b.nx] 44))) := (belowRefl w).alloc (Nat.le_refl _) _
 have HV : Hid (rctV r = .tuple #[.string (sealB ⟨(rcL r).toArray⟩), .bool true]) := by show _ = _; unfold rctV; rw [hr]; rfl
 have HL : Hid (rcL r = WM.varL 3 ++ (shL r.nm ++ bitL r.yes)) := by show _ = _; unfold rcL noteL; rw [if_pos hk, hk]; rfl
 have HN : Hid (rcL r ≠ []) := rcL_ne r
 have HZ : Hid ((rcL r).length ≤ 15005) := rc_len hr
 have HSm : Hid (keyB r.nm = true) := ht
 have hm : ∀ W : World, (method 64 120 (.agg #[.string r.nm, .bool r.yes]) "loop.example/g00327/impl.write").run Tryz.prog W = .ok (214, .agg #[.string r.nm, .bool r.yes]) W := fun _ => by kernel_rfl
 rw [hr] at C1
 have HK := hide hk
 clear hr ht hp hT hk
 go_enter Tryz.func8, Tryz.ntmps8
 go_wp2_with fail
 refine (C1.out _ HB0.out).mono ?_
 rintro e w1 ⟨rfl, hb1⟩
 have HB1 : Hid (Below w.heap.size w w1) := HB0.out.trans (hb1.mono HB0.out.size)
 have BX1 := hide (BX0.out.below hb1)
 clear hb1 BX0 HB0
 have NW : Hid (Wtr (w1.alloc (.cells #[.pointer none, .slice none 0 0] 71)) w1.heap.size w1.heap.size []) := Wtr.new w1
 have HB2 : Hid (Below w1.heap.size w1 (w1.alloc (.cells #[.pointer none, .slice none 0 0] 71))) := (belowRefl w1).alloc (Nat.le_refl _) _
 have BX2 := hide (BX1.out.below HB2.out)
 have HT1 : Hid True := trivial
 have x0 := BX2.out.c0
 rw [HK.out] at x0
 have CN : Hid (∀ W, Wtr W w1.heap.size w1.heap.size [] → Calls Tryz.prog 25 #[.pointer (some ⟨w1.heap.size, 0, none⟩), .int .i64 3] W fun e w' => e = .returned (.tuple #[]) ∧ Wtr w' w1.heap.size w1.heap.size (WM.varL 3) ∧ Below w1.heap.size W w') := fun W h => by
  refine (wnum w1.heap.size w1.heap.size 3 [] (by omega) (by simp) W h).mono ?_
  rintro e w' ⟨h1, h2, h3, -⟩
  exact ⟨h1, h2, h3⟩
 obtain ⟨l0, hl0⟩ : ∃ l0, l0 = WM.varL 3 := ⟨_, rfl⟩
 have n0 : l0.length ≤ 5 := by rw [hl0]; exact var_len _ (by omega)
 rw [← hl0] at CN HL
 have CW : Hid (∀ W, Wtr W w1.heap.size w1.heap.size l0 → RcRows W r → Calls Tryz.prog 214 #[.agg #[.string r.nm, .bool r.yes], .pointer (some ⟨w1.heap.size, 0, none⟩)] W fun e w' => e = .returned (.tuple #[]) ∧ Wtr w' w1.heap.size w1.heap.size (rcL r) ∧ Below w1.heap.size W w') := fun W hw _ => by
  rw [HL.out]
  exact wr214 l0 (by omega) r.nm r.yes w1.heap.size w1.heap.size (by have := key_small HSm.out; omega) W hw
 clear hl0
 have HR1 : Hid (RcRows w1 r) := HP.out.below HB1.out
 have HLow : Hid (∀ W, Below w1.heap.size w1 W → RcRows W r) := fun W h => HR1.out.below h
 generalize rcL r = L at *
 go_wp2_with fail
 refine (CN.out _ NW.out).mono ?_
 rintro e w2 ⟨rfl, hw2, hb2⟩
 have HW2 := hide hw2
 have HB3 : Hid (Below w1.heap.size w1 w2) := HB2.out.trans hb2
 clear hw2 hb2 x0 NW HB2
 go_wp2_with fail
 refine (CW.out _ HW2.out (HLow.out _ HB3.out)).mono ?_
 rintro e w3 ⟨rfl, hw3, hb3⟩
 have HW3 := hide hw3
 have HB4 : Hid (Below w1.heap.size w1 w3) := HB3.out.trans hb3
 clear hw3 hb3 HW2 HB3
 go_wp2_with fail
 refine (bstring _ _ L _ HW3.out.is HN.out).mono ?_
 rintro e w4 ⟨rfl, hb4⟩
 have HB5 : Hid (Below w.heap.size w w4) := HB1.out.trans ((HB4.out.trans hb4).mono HB1.out.size)
 clear hb4 HW3 HB4
 have HS : Hid ((⟨L.toArray⟩ : ByteArray).size ≤ 20000) := by show (⟨L.toArray⟩ : ByteArray).size ≤ 20000; rw [show (⟨L.toArray⟩ : ByteArray).size = L.length from List.size_toArray]; have := HZ.out; omega
 have C5 : Hid (∀ W, Tab W → Calls Tryz.prog 26 #[.string ⟨L.toArray⟩] W fun e w' => e = .returned (.tuple #[.string (sealB ⟨L.toArray⟩), .bool true]) ∧ Below W.heap.size W w') := fun W h => iseal_yes ⟨L.toArray⟩ HS.out W h
 have HT5 : Hid (Tab w4) := HTB.out.below HB5.out
 generalize sealB ⟨L.toArray⟩ = SL at *
 generalize (⟨L.toArray⟩ : ByteArray) = LB at *
 go_wp2_with fail
 refine (C5.out _ HT5.out).mono ?_
 rintro e w5 ⟨rfl, hb5⟩
 have HB6 : Hid (Below w.heap.size w w5) := HB5.out.trans (hb5.mono HB5.out.size)
 clear hb5
 go_wp2
 go_ret2
 exact ⟨by rw [HV.out]; rfl, HB6.out⟩

set_option maxRecDepth 100000 in
set_option maxHeartbeats 2000000 in
theorem irct4 (r : Rc) (hr : recB r = true) (hk : r.k = 4) (ht : sbB r.b = true) (w : World) (hT : Tab w) (hp : RcRows w r) (C1 : Hid (∀ W, Below w.heap.size w W → Calls Tryz.prog 24 #[.agg #[.int .i64 r.k, .int .i64 r.t.t.id, .int .i64 r.t.t.st, .int .i64 r.t.t.snap, .int .i64 r.t.t.cs, .slice r.t.ra r.t.t.rs.length r.t.rc, .slice r.t.wa r.t.t.ws.length r.t.wc, .bool r.t.t.out, .string r.t.t.nm, .string r.nm, .bool r.yes, .slice r.b.va r.b.vs.length r.b.vc, .slice r.b.pa r.b.ps.length r.b.pc, .slice r.b.qa r.b.qs.length r.b.qc, .int .i64 r.b.cs, .int .i64 r.b.nx]] W fun e w' => e = .returned (.tuple #[.iface 122 (.agg #[.slice r.b.va r.b.vs.length r.b.vc, .slice r.b.pa r.b.ps.length r.b.pc, .slice r.b.qa r.b.qs.length r.b.qc, .int .i64 r.b.cs, .int .i64 r.b.nx]), .bool (recB r)]) ∧ Below W.heap.size W w')) :
  Calls Tryz.prog 8 #[.agg #[.int .i64 r.k, .int .i64 r.t.t.id, .int .i64 r.t.t.st, .int .i64 r.t.t.snap, .int .i64 r.t.t.cs, .slice r.t.ra r.t.t.rs.length r.t.rc, .slice r.t.wa r.t.t.ws.length r.t.wc, .bool r.t.t.out, .string r.t.t.nm, .string r.nm, .bool r.yes, .slice r.b.va r.b.vs.length r.b.vc, .slice r.b.pa r.b.ps.length r.b.pc, .slice r.b.qa r.b.qs.length r.b.qc, .int .i64 r.b.cs, .int .i64 r.b.nx]] w fun e w' => e = .returned (rctV r) ∧ Below w.heap.size w w' := by
 have HP : Hid (RcRows w r) := hp
 have HTB : Hid (Tab w) := hT
 have BX0 : Hid (Bx (w.alloc (.cells #[.int .i64 r.k, .int .i64 r.t.t.id, .int .i64 r.t.t.st, .int .i64 r.t.t.snap, .int .i64 r.t.t.cs, .slice r.t.ra r.t.t.rs.length r.t.rc, .slice r.t.wa r.t.t.ws.length r.t.wc, .bool r.t.t.out, .string r.t.t.nm, .string r.nm, .bool r.yes, .slice r.b.va r.b.vs.length r.b.vc, .slice r.b.pa r.b.ps.length r.b.pc, .slice r.b.qa r.b.qs.length r.b.qc, .int .i64 r.b.cs, .int .i64 r.b.nx] 44)) w.heap.size [.int .i64 r.k, .int .i64 r.t.t.id, .int .i64 r.t.t.st, .int .i64 r.t.t.snap, .int .i64 r.t.t.cs, .slice r.t.ra r.t.t.rs.length r.t.rc, .slice r.t.wa r.t.t.ws.length r.t.wc, .bool r.t.t.out, .string r.t.t.nm, .string r.nm, .bool r.yes, .slice r.b.va r.b.vs.length r.b.vc, .slice r.b.pa r.b.ps.length r.b.pc, .slice r.b.qa r.b.qs.length r.b.qc, .int .i64 r.b.cs, .int .i64 r.b.nx]) := Bx.new w [.int .i64 r.k, .int .i64 r.t.t.id, .int .i64 r.t.t.st, .int .i64 r.t.t.snap, .int .i64 r.t.t.cs, .slice r.t.ra r.t.t.rs.length r.t.rc, .slice r.t.wa r.t.t.ws.length r.t.wc, .bool r.t.t.out, .string r.t.t.nm, .string r.nm, .bool r.yes, .slice r.b.va r.b.vs.length r.b.vc, .slice r.b.pa r.b.ps.length r.b.pc, .slice r.b.qa r.b.qs.length r.b.qc, .int .i64 r.b.cs, .int .i64 r.b.nx] 44
 have HB0 : Hid (Below w.heap.size w (w.alloc (.cells #[.int .i64 r.k, .int .i64 r.t.t.id, .int .i64 r.t.t.st, .int .i64 r.t.t.snap, .int .i64 r.t.t.cs, .slice r.t.ra r.t.t.rs.length r.t.rc, .slice r.t.wa r.t.t.ws.length r.t.wc, .bool r.t.t.out, .string r.t.t.nm, .string r.nm, .bool r.yes, .slice r.b.va r.b.vs.length r.b.vc, .slice r.b.pa r.b.ps.length r.b.pc, .slice r.b.qa r.b.qs.length r.b.qc, .int .i64 r.b.cs, .int .i64 r.b.nx] 44))) := (belowRefl w).alloc (Nat.le_refl _) _
 have HV : Hid (rctV r = .tuple #[.string (sealB ⟨(rcL r).toArray⟩), .bool true]) := by show _ = _; unfold rctV; rw [hr]; rfl
 have HL : Hid (rcL r = WM.varL 4 ++ bsL r.b) := by show _ = _; unfold rcL noteL; rw [if_neg (by omega), if_pos hk, hk]; rfl
 have HN : Hid (rcL r ≠ []) := rcL_ne r
 have HZ : Hid ((rcL r).length ≤ 15005) := rc_len hr
 have HSm : Hid (BSm r.b) := base_small ht
 have hm : ∀ W : World, (method 64 122 (.agg #[.slice r.b.va r.b.vs.length r.b.vc, .slice r.b.pa r.b.ps.length r.b.pc, .slice r.b.qa r.b.qs.length r.b.qc, .int .i64 r.b.cs, .int .i64 r.b.nx]) "loop.example/g00327/impl.write").run Tryz.prog W = .ok (216, .agg #[.slice r.b.va r.b.vs.length r.b.vc, .slice r.b.pa r.b.ps.length r.b.pc, .slice r.b.qa r.b.qs.length r.b.qc, .int .i64 r.b.cs, .int .i64 r.b.nx]) W := fun _ => by kernel_rfl
 rw [hr] at C1
 have HK := hide hk
 clear hr ht hp hT hk
 go_enter Tryz.func8, Tryz.ntmps8
 go_wp2_with fail
 refine (C1.out _ HB0.out).mono ?_
 rintro e w1 ⟨rfl, hb1⟩
 have HB1 : Hid (Below w.heap.size w w1) := HB0.out.trans (hb1.mono HB0.out.size)
 have BX1 := hide (BX0.out.below hb1)
 clear hb1 BX0 HB0
 have NW : Hid (Wtr (w1.alloc (.cells #[.pointer none, .slice none 0 0] 71)) w1.heap.size w1.heap.size []) := Wtr.new w1
 have HB2 : Hid (Below w1.heap.size w1 (w1.alloc (.cells #[.pointer none, .slice none 0 0] 71))) := (belowRefl w1).alloc (Nat.le_refl _) _
 have BX2 := hide (BX1.out.below HB2.out)
 have HT1 : Hid (BRows w1 r.b) := HP.out.b.below HB1.out
 have x0 := BX2.out.c0
 rw [HK.out] at x0
 have CN : Hid (∀ W, Wtr W w1.heap.size w1.heap.size [] → Calls Tryz.prog 25 #[.pointer (some ⟨w1.heap.size, 0, none⟩), .int .i64 4] W fun e w' => e = .returned (.tuple #[]) ∧ Wtr w' w1.heap.size w1.heap.size (WM.varL 4) ∧ Below w1.heap.size W w') := fun W h => by
  refine (wnum w1.heap.size w1.heap.size 4 [] (by omega) (by simp) W h).mono ?_
  rintro e w' ⟨h1, h2, h3, -⟩
  exact ⟨h1, h2, h3⟩
 obtain ⟨l0, hl0⟩ : ∃ l0, l0 = WM.varL 4 := ⟨_, rfl⟩
 have n0 : l0.length ≤ 5 := by rw [hl0]; exact var_len _ (by omega)
 rw [← hl0] at CN HL
 have CW : Hid (∀ W, Wtr W w1.heap.size w1.heap.size l0 → RcRows W r → Calls Tryz.prog 216 #[.agg #[.slice r.b.va r.b.vs.length r.b.vc, .slice r.b.pa r.b.ps.length r.b.pc, .slice r.b.qa r.b.qs.length r.b.qc, .int .i64 r.b.cs, .int .i64 r.b.nx], .pointer (some ⟨w1.heap.size, 0, none⟩)] W fun e w' => e = .returned (.tuple #[]) ∧ Wtr w' w1.heap.size w1.heap.size (rcL r) ∧ Below w1.heap.size W w') := fun W hw hp => by
  rw [HL.out]
  exact wr216 l0 (by omega) r.b w1.heap.size w1.heap.size HSm.out W HT1.out.allLow hw hp.b
 clear hl0
 have HR1 : Hid (RcRows w1 r) := HP.out.below HB1.out
 have HLow : Hid (∀ W, Below w1.heap.size w1 W → RcRows W r) := fun W h => HR1.out.below h
 generalize rcL r = L at *
 go_wp2_with fail
 refine (CN.out _ NW.out).mono ?_
 rintro e w2 ⟨rfl, hw2, hb2⟩
 have HW2 := hide hw2
 have HB3 : Hid (Below w1.heap.size w1 w2) := HB2.out.trans hb2
 clear hw2 hb2 x0 NW HB2
 go_wp2_with fail
 refine (CW.out _ HW2.out (HLow.out _ HB3.out)).mono ?_
 rintro e w3 ⟨rfl, hw3, hb3⟩
 have HW3 := hide hw3
 have HB4 : Hid (Below w1.heap.size w1 w3) := HB3.out.trans hb3
 clear hw3 hb3 HW2 HB3
 go_wp2_with fail
 refine (bstring _ _ L _ HW3.out.is HN.out).mono ?_
 rintro e w4 ⟨rfl, hb4⟩
 have HB5 : Hid (Below w.heap.size w w4) := HB1.out.trans ((HB4.out.trans hb4).mono HB1.out.size)
 clear hb4 HW3 HB4
 have HS : Hid ((⟨L.toArray⟩ : ByteArray).size ≤ 20000) := by show (⟨L.toArray⟩ : ByteArray).size ≤ 20000; rw [show (⟨L.toArray⟩ : ByteArray).size = L.length from List.size_toArray]; have := HZ.out; omega
 have C5 : Hid (∀ W, Tab W → Calls Tryz.prog 26 #[.string ⟨L.toArray⟩] W fun e w' => e = .returned (.tuple #[.string (sealB ⟨L.toArray⟩), .bool true]) ∧ Below W.heap.size W w') := fun W h => iseal_yes ⟨L.toArray⟩ HS.out W h
 have HT5 : Hid (Tab w4) := HTB.out.below HB5.out
 generalize sealB ⟨L.toArray⟩ = SL at *
 generalize (⟨L.toArray⟩ : ByteArray) = LB at *
 go_wp2_with fail
 refine (C5.out _ HT5.out).mono ?_
 rintro e w5 ⟨rfl, hb5⟩
 have HB6 : Hid (Below w.heap.size w w5) := HB5.out.trans (hb5.mono HB5.out.size)
 clear hb5
 go_wp2
 go_ret2
 exact ⟨by rw [HV.out]; rfl, HB6.out⟩

theorem irct (r : Rc) (hf : RcFit r) (hpa : r.b.pa = none → r.b.ps.length = 0 ∧ r.b.pc = 0) (hqa : r.b.qa = none → r.b.qs.length = 0 ∧ r.b.qc = 0) (w : World) (hT : Tab w) (hp : RcRows w r) :
  Calls Tryz.prog 8 #[.agg #[.int .i64 r.k, .int .i64 r.t.t.id, .int .i64 r.t.t.st, .int .i64 r.t.t.snap, .int .i64 r.t.t.cs, .slice r.t.ra r.t.t.rs.length r.t.rc, .slice r.t.wa r.t.t.ws.length r.t.wc, .bool r.t.t.out, .string r.t.t.nm, .string r.nm, .bool r.yes, .slice r.b.va r.b.vs.length r.b.vc, .slice r.b.pa r.b.ps.length r.b.pc, .slice r.b.qa r.b.qs.length r.b.qc, .int .i64 r.b.cs, .int .i64 r.b.nx]] w fun e w' => e = .returned (rctV r) ∧ Below w.heap.size w w' := by
 cases hr : recB r
 ·exact irct_no r hr (noteV r) w (fun W h => note r hf hpa hqa W (hp.below h))
 ·rcases rec_cases hr with ⟨e, ht, _⟩ | ⟨e, ht, _⟩ | ⟨e, ht⟩ | ⟨e, ht⟩
  ·exact irct1 r hr e ht w hT hp (fun W h => note1 r e hf hpa hqa W (hp.below h))
  ·exact irct2 r hr e ht w hT hp (fun W h => note2 r e hf hpa hqa W (hp.below h))
  ·exact irct3 r hr e ht w hT hp (fun W h => note3 r e hf hpa hqa W (hp.below h))
  ·exact irct4 r hr e ht w hT hp (fun W h => note4 r e hf hpa hqa W (hp.below h))

end Go.Proofs.YtpnnncfbodfnhaaGreatDoor
