/- What TxnText returns, on both sides. -/
import Derived.Test.YtnljmdodpffmoaaGreatPc14
import Derived.Test.YtnljmdodpffmoaaGreatPc08
namespace Go.Proofs.YtnljmdodpffmoaaGreat
open Go.RowKit
open KM
open VM
attribute [local go_sem ↓] Go.wp_at_zero Go.wp_at_succ

theorem good_of' {xs : List Wt} (h : writesB xs = true) : xs.length ≤ 8 ∧ ∀ x ∈ xs, writeB x = true := by
 unfold writesB at h
 simp only [Bool.and_eq_true, decide_eq_true_eq] at h
 exact ⟨h.1, fun x hx => by obtain ⟨j, hj, rfl⟩ := List.getElem_of_mem hx; exact (h.2 j hj).1⟩
theorem grow_low {α : Type} {E : Enc α} {w w' : World} {a : Option Addr} {xs : List α} {B : Nat} (h : GRow E w a xs) (hb : Below B w w') (hl : ∀ b' off, a = some ⟨b', off, none⟩ → 0 < xs.length → b' < B) : GRow E w' a xs := fun h0 => by
 obtain ⟨b, off, rfl, hlt, hc⟩ := h h0
 have hB := hl b off rfl h0
 exact ⟨b, off, rfl, Nat.lt_of_lt_of_le hlt hb.size, fun j hj i hi => (hb.cell (p := ⟨b, off + j * E.size + i, none⟩) hB).trans (hc j hj i hi)⟩
structure Small (t : Tx) : Prop where
 i0 : 0 ≤ t.id
 i1 : t.id ≤ 9999
 s0 : 0 ≤ t.st
 s1 : t.st ≤ 3
 p0 : 0 ≤ t.snap
 p1 : t.snap ≤ 9999
 c0 : 0 ≤ t.cs
 c1 : t.cs ≤ 9999
 rl : t.rs.length ≤ 8
 rs : ∀ r ∈ t.rs, r.1.size ≤ 3 ∧ r.2.size ≤ 3
 wl : t.ws.length ≤ 8
 ws : ∀ x ∈ t.ws, x.1.size ≤ 3 ∧ x.2.1.size ≤ 12
 nm : t.nm.size ≤ 3
theorem key_small {s : ByteArray} (h : keyB s = true) : s.size ≤ 3 := by
 unfold keyB at h
 simp only [Bool.and_eq_true, decide_eq_true_eq] at h
 exact h.1.2
theorem empty_size {s : ByteArray} (h : s.toList.isEmpty = true) : s.size = 0 := by
 have e : s.toList = [] := List.isEmpty_iff.1 h
 rw [toList_data] at e
 have : s.data.toList.length = 0 := by rw [e]; rfl
 rw [Array.length_toList] at this
 exact this
theorem right_small {t : Tx} (h : txnB t = true) : Small t := by
 unfold txnB at h
 simp only [Bool.and_eq_true, decide_eq_true_eq] at h
 obtain ⟨⟨⟨⟨⟨⟨h1, h2⟩, h3⟩, h4⟩, h5⟩, h6⟩, h7⟩ := h
 unfold readsB at h6
 simp only [Bool.and_eq_true, decide_eq_true_eq, List.all_eq_true] at h6
 have hst : (0 ≤ t.st ∧ t.st ≤ 3) ∧ (0 ≤ t.cs ∧ t.cs ≤ 9999) ∧ t.nm.size ≤ 3 := by
  unfold stateB at h5
  simp only [Bool.or_eq_true, Bool.and_eq_true, decide_eq_true_eq] at h5
  rcases h5 with (h | h) | h
  ·have := empty_size h.2
   omega
  ·have := key_small h.2
   omega
  ·have := empty_size h.2
   omega
 have hw := good_of' h7
 refine ⟨by omega, h2, hst.1.1, hst.1.2, h3, h4, hst.2.1.1, hst.2.1.2, h6.1, fun r hr => ?_, hw.1, fun x hx => ?_, hst.2.2⟩
 ·have := h6.2 r hr
  unfold rangeB at this
  simp only [Bool.and_eq_true] at this
  exact ⟨key_small this.1.1, key_small this.1.2⟩
 ·have := hw.2 x hx
  unfold writeB at this
  simp only [Bool.and_eq_true, decide_eq_true_eq] at this
  exact ⟨key_small this.1.1, this.1.2⟩

set_option maxRecDepth 100000 in
set_option maxHeartbeats 2000000 in
theorem wtxn (t : Tx) (ra wa : Option Addr) (rc wc : Nat) (B b : Nat) (hs : Small t) (w : World) (hr : ∀ b' off, ra = some ⟨b', off, none⟩ → 0 < t.rs.length → b' < B) (hw : ∀ b' off, wa = some ⟨b', off, none⟩ → 0 < t.ws.length → b' < B) (h : Wtr w B b []) (hp : TRow w t ra wa) :
  Calls Tryz.prog 25 #[.pointer (some ⟨b, 0, none⟩), .agg #[.int .i64 t.id, .int .i64 t.st, .int .i64 t.snap, .int .i64 t.cs, .slice ra t.rs.length rc, .slice wa t.ws.length wc, .bool t.out, .string t.nm]] w fun e w' => e = .returned (.tuple #[]) ∧ Wtr w' B b (txL t) ∧ Below B w w' := by
 have HS : Hid (Small t) := hs
 have HP : Hid (TRow w t ra wa) := hp
 have HR : Hid (∀ b' off, ra = some ⟨b', off, none⟩ → 0 < t.rs.length → b' < B) := hr
 have HWr : Hid (∀ b' off, wa = some ⟨b', off, none⟩ → 0 < t.ws.length → b' < B) := hw
 have RS : Hid (RSm t.rs) := ⟨Nat.le_trans hs.rl (by omega), fun r h => by have := hs.rs r h; omega⟩
 have WS : Hid (WSm t.ws) := ⟨Nat.le_trans hs.wl (by omega), fun x h => by have := hs.ws x h; omega⟩
 have CN : Hid (∀ (n : Int) l w, 0 ≤ n → n ≤ 9999 → l.length ≤ 900000000 → Wtr w B b l → Calls Tryz.prog 66 #[.pointer (some ⟨b, 0, none⟩), .int .i64 n] w fun e w' => e = .returned (.tuple #[]) ∧ Wtr w' B b (l ++ WM.varL n.toNat) ∧ Below B w w' ∧ Keep5 b w w') := fun n l w h0 h1 hl hw => by
  have k := wnum B b n.toNat l (by omega) hl w hw
  rw [Int.toNat_of_nonneg h0] at k
  exact k
 have hne : w.heap.size ≠ b := by rcases h.is with h | h <;> (have := h.lt; omega)
 have HW0 : Hid (Wtr (w.alloc (.cells #[.int .i64 t.id, .int .i64 t.st, .int .i64 t.snap, .int .i64 t.cs, .slice ra t.rs.length rc, .slice wa t.ws.length wc, .bool t.out, .string t.nm] 27)) B b []) := h.below ((belowRefl w).alloc (Nat.le_refl _) _)
 have HB0 : Hid (Below B w (w.alloc (.cells #[.int .i64 t.id, .int .i64 t.st, .int .i64 t.snap, .int .i64 t.cs, .slice ra t.rs.length rc, .slice wa t.ws.length wc, .bool t.out, .string t.nm] 27))) := (Below.refl B w).alloc h.le _
 have HE0 : Hid ((w.alloc (.cells #[.int .i64 t.id, .int .i64 t.st, .int .i64 t.snap, .int .i64 t.cs, .slice ra t.rs.length rc, .slice wa t.ws.length wc, .bool t.out, .string t.nm] 27)).heap[w.heap.size]? = some (.cells [.int .i64 t.id, .int .i64 t.st, .int .i64 t.snap, .int .i64 t.cs, .slice ra t.rs.length rc, .slice wa t.ws.length wc, .bool t.out, .string t.nm].toArray 27 (0, 0))) := heapAllocNew w [.int .i64 t.id, .int .i64 t.st, .int .i64 t.snap, .int .i64 t.cs, .slice ra t.rs.length rc, .slice wa t.ws.length wc, .bool t.out, .string t.nm] 27
 clear h hp hs hr hw
 obtain ⟨l0, hl0⟩ : ∃ l0 : List UInt8, l0 = [] := ⟨_, rfl⟩
 have HL0 : Hid (l0 = []) := hl0
 have n0 : l0.length ≤ 0 := by rw [hl0]; simp
 rw [← hl0] at HW0
 clear hl0
 go_enter Tryz.func25, Tryz.ntmps25
 go_wp2_with fail
 refine (CN.out t.id l0 _ HS.out.i0 HS.out.i1 (by omega) HW0.out).mono ?_
 rintro e v1 ⟨rfl, hw, hb, hk⟩
 obtain ⟨l1, hl⟩ : ∃ l, l = l0 ++ WM.varL t.id.toNat := ⟨_, rfl⟩
 have HL1 : Hid (l1 = l0 ++ WM.varL t.id.toNat) := hl
 have n1 : l1.length ≤ 5 := by rw [hl, List.length_append]; have := var_len t.id.toNat (by have := HS.out.i1; omega); omega
 rw [← hl] at hw
 have HW1 := hide hw
 have HB1 : Hid (Below B w v1) := HB0.out.trans hb
 have HE1 : Hid (v1.heap[w.heap.size]? = some (.cells [.int .i64 t.id, .int .i64 t.st, .int .i64 t.snap, .int .i64 t.cs, .slice ra t.rs.length rc, .slice wa t.ws.length wc, .bool t.out, .string t.nm].toArray 27 (0, 0))) := hk _ _ 27 (0, 0) hne (by decide) HE0.out
 clear hw hb hk hl HW0 HE0
 have x1 := (bx_heap HE1.out).c1
 go_wp2_with fail
 refine (CN.out t.st l1 _ HS.out.s0 (by have := HS.out.s1; omega) (by omega) HW1.out).mono ?_
 rintro e v2 ⟨rfl, hw, hb, hk⟩
 obtain ⟨l2, hl⟩ : ∃ l, l = l1 ++ WM.varL t.st.toNat := ⟨_, rfl⟩
 have HL2 : Hid (l2 = l1 ++ WM.varL t.st.toNat) := hl
 have n2 : l2.length ≤ 10 := by rw [hl, List.length_append]; have := var_len t.st.toNat (by have := (by have := HS.out.s1; omega); omega); omega
 rw [← hl] at hw
 have HW2 := hide hw
 have HB2 : Hid (Below B w v2) := HB1.out.trans hb
 have HE2 : Hid (v2.heap[w.heap.size]? = some (.cells [.int .i64 t.id, .int .i64 t.st, .int .i64 t.snap, .int .i64 t.cs, .slice ra t.rs.length rc, .slice wa t.ws.length wc, .bool t.out, .string t.nm].toArray 27 (0, 0))) := hk _ _ 27 (0, 0) hne (by decide) HE1.out
 clear hw hb hk hl HW1 HE1 x1
 have x2 := (bx_heap HE2.out).c2
 go_wp2_with fail
 refine (CN.out t.snap l2 _ HS.out.p0 HS.out.p1 (by omega) HW2.out).mono ?_
 rintro e v3 ⟨rfl, hw, hb, hk⟩
 obtain ⟨l3, hl⟩ : ∃ l, l = l2 ++ WM.varL t.snap.toNat := ⟨_, rfl⟩
 have HL3 : Hid (l3 = l2 ++ WM.varL t.snap.toNat) := hl
 have n3 : l3.length ≤ 15 := by rw [hl, List.length_append]; have := var_len t.snap.toNat (by have := HS.out.p1; omega); omega
 rw [← hl] at hw
 have HW3 := hide hw
 have HB3 : Hid (Below B w v3) := HB2.out.trans hb
 have HE3 : Hid (v3.heap[w.heap.size]? = some (.cells [.int .i64 t.id, .int .i64 t.st, .int .i64 t.snap, .int .i64 t.cs, .slice ra t.rs.length rc, .slice wa t.ws.length wc, .bool t.out, .string t.nm].toArray 27 (0, 0))) := hk _ _ 27 (0, 0) hne (by decide) HE2.out
 clear hw hb hk hl HW2 HE2 x2
 have x3 := (bx_heap HE3.out).c3
 go_wp2_with fail
 refine (CN.out t.cs l3 _ HS.out.c0 HS.out.c1 (by omega) HW3.out).mono ?_
 rintro e v4 ⟨rfl, hw, hb, hk⟩
 obtain ⟨l4, hl⟩ : ∃ l, l = l3 ++ WM.varL t.cs.toNat := ⟨_, rfl⟩
 have HL4 : Hid (l4 = l3 ++ WM.varL t.cs.toNat) := hl
 have n4 : l4.length ≤ 20 := by rw [hl, List.length_append]; have := var_len t.cs.toNat (by have := HS.out.c1; omega); omega
 rw [← hl] at hw
 have HW4 := hide hw
 have HB4 : Hid (Below B w v4) := HB3.out.trans hb
 have HE4 : Hid (v4.heap[w.heap.size]? = some (.cells [.int .i64 t.id, .int .i64 t.st, .int .i64 t.snap, .int .i64 t.cs, .slice ra t.rs.length rc, .slice wa t.ws.length wc, .bool t.out, .string t.nm].toArray 27 (0, 0))) := hk _ _ 27 (0, 0) hne (by decide) HE3.out
 clear hw hb hk hl HW3 HE3 x3
 have x4 := (bx_heap HE4.out).c4
 go_wp2_with fail
 refine (wrng B b t.rs ra rc l4 RS.out (by omega) _ HR.out HW4.out (grow_low HP.out.r HB4.out HR.out)).mono ?_
 rintro e v5 ⟨rfl, hw, hb, hk⟩
 obtain ⟨l5, hl⟩ : ∃ l, l = l4 ++ (WM.varL t.rs.length ++ rgL t.rs) := ⟨_, rfl⟩
 have HL5 : Hid (l5 = l4 ++ (WM.varL t.rs.length ++ rgL t.rs)) := hl
 have n5 : l5.length ≤ 400020 := by rw [hl, List.length_append, List.length_append]; have := var_len t.rs.length (by have := HS.out.rl; omega); have := rg_len t.rs RS.out.2; have := HS.out.rl; omega
 rw [← hl] at hw
 have HW5 := hide hw
 have HB5 : Hid (Below B w v5) := HB4.out.trans hb
 have HE5 : Hid (v5.heap[w.heap.size]? = some (.cells [.int .i64 t.id, .int .i64 t.st, .int .i64 t.snap, .int .i64 t.cs, .slice ra t.rs.length rc, .slice wa t.ws.length wc, .bool t.out, .string t.nm].toArray 27 (0, 0))) := hk _ _ 27 (0, 0) hne (by decide) HE4.out
 clear hw hb hk hl HW4 HE4 x4
 have x5 := (bx_heap HE5.out).c5
 go_wp2_with fail
 refine (wwts B b t.ws wa wc l5 WS.out (by omega) _ HWr.out HW5.out (grow_low HP.out.w HB5.out HWr.out)).mono ?_
 rintro e v6 ⟨rfl, hw, hb, hk⟩
 obtain ⟨l6, hl⟩ : ∃ l, l = l5 ++ (WM.varL t.ws.length ++ wtL t.ws) := ⟨_, rfl⟩
 have HL6 : Hid (l6 = l5 ++ (WM.varL t.ws.length ++ wtL t.ws)) := hl
 have n6 : l6.length ≤ 800020 := by rw [hl, List.length_append, List.length_append]; have := var_len t.ws.length (by have := HS.out.wl; omega); have := wt_len t.ws WS.out.2; have := HS.out.wl; omega
 rw [← hl] at hw
 have HW6 := hide hw
 have HB6 : Hid (Below B w v6) := HB5.out.trans hb
 have HE6 : Hid (v6.heap[w.heap.size]? = some (.cells [.int .i64 t.id, .int .i64 t.st, .int .i64 t.snap, .int .i64 t.cs, .slice ra t.rs.length rc, .slice wa t.ws.length wc, .bool t.out, .string t.nm].toArray 27 (0, 0))) := hk _ _ 27 (0, 0) hne (by decide) HE5.out
 clear hw hb hk hl HW5 HE5 x5
 have x6 := (bx_heap HE6.out).c6
 go_wp2_with fail
 refine (wflag B b t.out l6 (by omega) _ HW6.out).mono ?_
 rintro e v7 ⟨rfl, hw, hb, hk⟩
 obtain ⟨l7, hl⟩ : ∃ l, l = l6 ++ bitL t.out := ⟨_, rfl⟩
 have HL7 : Hid (l7 = l6 ++ bitL t.out) := hl
 have n7 : l7.length ≤ 800021 := by rw [hl, List.length_append]; have := bit_len t.out; omega
 rw [← hl] at hw
 have HW7 := hide hw
 have HB7 : Hid (Below B w v7) := HB6.out.trans hb
 have HE7 : Hid (v7.heap[w.heap.size]? = some (.cells [.int .i64 t.id, .int .i64 t.st, .int .i64 t.snap, .int .i64 t.cs, .slice ra t.rs.length rc, .slice wa t.ws.length wc, .bool t.out, .string t.nm].toArray 27 (0, 0))) := hk _ _ 27 (0, 0) hne (by decide) HE6.out
 clear hw hb hk hl HW6 HE6 x6
 have x7 := (bx_heap HE7.out).c7
 go_wp2_with fail
 refine (wsh B b t.nm l7 (by have := HS.out.nm; omega) (by omega) _ HW7.out).mono ?_
 rintro e v8 ⟨rfl, hw, hb, hk⟩
 obtain ⟨l8, hl⟩ : ∃ l, l = l7 ++ shL t.nm := ⟨_, rfl⟩
 have HL8 : Hid (l8 = l7 ++ shL t.nm) := hl
 have n8 : l8.length ≤ 820026 := by rw [hl, List.length_append]; have := sh_len (s := t.nm) (by have := HS.out.nm; omega); omega
 rw [← hl] at hw
 have HW8 := hide hw
 have HB8 : Hid (Below B w v8) := HB7.out.trans hb
 have HE8 : Hid (v8.heap[w.heap.size]? = some (.cells [.int .i64 t.id, .int .i64 t.st, .int .i64 t.snap, .int .i64 t.cs, .slice ra t.rs.length rc, .slice wa t.ws.length wc, .bool t.out, .string t.nm].toArray 27 (0, 0))) := hk _ _ 27 (0, 0) hne (by decide) HE7.out
 clear hw hb hk hl HW7 HE7 x7
 have HT : Hid (l8 = txL t) := by
  show _ = _
  rw [HL8.out, HL7.out, HL6.out, HL5.out, HL4.out, HL3.out, HL2.out, HL1.out, HL0.out]
  unfold txL
  simp only [List.nil_append, List.append_assoc]
 rw [HT.out] at HW8
 go_wp2
 go_end0
 exact ⟨rfl, HW8.out, HB8.out⟩

theorem txL_ne (t : Tx) : txL t ≠ [] := by
 unfold txL
 intro h
 have h1 := (List.append_eq_nil_iff.1 h).1
 have h2 := WM.varL_pos t.id.toNat
 rw [h1] at h2
 simp at h2
def txtV (t : Tx) : Value := if txnB t = true then .tuple #[.string ⟨(txL t).toArray⟩, .bool true] else .tuple #[.string ⟨#[]⟩, .bool false]

set_option maxRecDepth 100000 in
set_option maxHeartbeats 2000000 in
theorem itext (t : Tx) (ra wa : Option Addr) (rc wc : Nat) (hr : t.rs.length ≤ 100000000) (hw : t.ws.length ≤ 100000000) (w : World) (hp : TRow w t ra wa) :
  Calls Tryz.prog 6 #[.agg #[.int .i64 t.id, .int .i64 t.st, .int .i64 t.snap, .int .i64 t.cs, .slice ra t.rs.length rc, .slice wa t.ws.length wc, .bool t.out, .string t.nm]] w fun e w' => e = .returned (txtV t) ∧ Below w.heap.size w w' := by
 have HP : Hid (TRow w t ra wa) := hp
 clear hp
 have BA0 : Hid (Bx (w.alloc (.cells #[.int .i64 t.id, .int .i64 t.st, .int .i64 t.snap, .int .i64 t.cs, .slice ra t.rs.length rc, .slice wa t.ws.length wc, .bool t.out, .string t.nm] 27)) w.heap.size [.int .i64 t.id, .int .i64 t.st, .int .i64 t.snap, .int .i64 t.cs, .slice ra t.rs.length rc, .slice wa t.ws.length wc, .bool t.out, .string t.nm]) := Bx.new w [.int .i64 t.id, .int .i64 t.st, .int .i64 t.snap, .int .i64 t.cs, .slice ra t.rs.length rc, .slice wa t.ws.length wc, .bool t.out, .string t.nm] 27
 have HB0 : Hid (Below w.heap.size w (w.alloc (.cells #[.int .i64 t.id, .int .i64 t.st, .int .i64 t.snap, .int .i64 t.cs, .slice ra t.rs.length rc, .slice wa t.ws.length wc, .bool t.out, .string t.nm] 27))) := (belowRefl w).alloc (Nat.le_refl _) _
 have C1 : Hid (∀ w, TRow w t ra wa → Calls Tryz.prog 20 #[.agg #[.int .i64 t.id, .int .i64 t.st, .int .i64 t.snap, .int .i64 t.cs, .slice ra t.rs.length rc, .slice wa t.ws.length wc, .bool t.out, .string t.nm]] w fun e w' => e = .returned (.bool (txnB t)) ∧ Below w.heap.size w w') := fun w h => itxn t ra wa rc wc hr hw w h
 cases ht : txnB t
 ·rw [ht] at C1
  have HV : Hid (txtV t = .tuple #[.string ⟨#[]⟩, .bool false]) := by show _ = _; unfold txtV; rw [ht]; rfl
  clear ht
  go_enter Tryz.func6, Tryz.ntmps6
  go_wp2_with fail
  refine (C1.out _ (HP.out.below HB0.out)).mono ?_
  rintro e w1 ⟨rfl, hb1⟩
  have HB1 : Hid (Below w.heap.size w w1) := HB0.out.trans (hb1.mono HB0.out.size)
  clear hb1
  go_wp2
  go_ret2
  exact ⟨by rw [HV.out]; rfl, HB1.out⟩
 ·rw [ht] at C1
  have HV : Hid (txtV t = .tuple #[.string ⟨(txL t).toArray⟩, .bool true]) := by show _ = _; unfold txtV; rw [ht]; rfl
  have HS : Hid (Small t) := right_small ht
  clear ht
  go_enter Tryz.func6, Tryz.ntmps6
  go_wp2_with fail
  refine (C1.out _ (HP.out.below HB0.out)).mono ?_
  rintro e w1 ⟨rfl, hb1⟩
  have HB1 : Hid (Below w.heap.size w w1) := HB0.out.trans (hb1.mono HB0.out.size)
  have BA1 := hide (BA0.out.below hb1)
  clear hb1 BA0 HB0
  have NW : Hid (Wtr (w1.alloc (.cells #[.pointer none, .slice none 0 0] 60)) w1.heap.size w1.heap.size []) := Wtr.new w1
  have HB2 : Hid (Below w1.heap.size w1 (w1.alloc (.cells #[.pointer none, .slice none 0 0] 60))) := (belowRefl w1).alloc (Nat.le_refl _) _
  have BA2 := hide (BA1.out.below HB2.out)
  have LR : Hid (∀ b' off, ra = some ⟨b', off, none⟩ → 0 < t.rs.length → b' < w1.heap.size) := fun b' off e h => by
   obtain ⟨b, o, e2, hlt, _⟩ := (HP.out.r.below HB1.out) h
   rw [e] at e2
   cases e2
   exact hlt
  have LW : Hid (∀ b' off, wa = some ⟨b', off, none⟩ → 0 < t.ws.length → b' < w1.heap.size) := fun b' off e h => by
   obtain ⟨b, o, e2, hlt, _⟩ := (HP.out.w.below HB1.out) h
   rw [e] at e2
   cases e2
   exact hlt
  have x0 := BA2.out.c0
  have x1 := BA2.out.c1
  have x2 := BA2.out.c2
  have x3 := BA2.out.c3
  have x4 := BA2.out.c4
  have x5 := BA2.out.c5
  have x6 := BA2.out.c6
  have x7 := BA2.out.c7
  go_wp2_with fail
  refine (wtxn t ra wa rc wc w1.heap.size w1.heap.size HS.out _ LR.out LW.out NW.out ((HP.out.below HB1.out).below HB2.out)).mono ?_
  rintro e w3 ⟨rfl, hw3, hb3⟩
  have HW3 := hide hw3
  have HB3 : Hid (Below w1.heap.size w1 w3) := HB2.out.trans hb3
  have NE : Hid (txL t ≠ []) := txL_ne t
  clear hw3 hb3 x0 x1 x2 x3 x4 x5 x6 x7 NW
  generalize txL t = L at HW3 NE HV
  go_wp2_with fail
  refine (bstring _ _ L _ HW3.out.is NE.out).mono ?_
  rintro e w4 ⟨rfl, hb4⟩
  have HB4 : Hid (Below w.heap.size w w4) := HB1.out.trans ((HB3.out.trans hb4).mono HB1.out.size)
  clear hb4
  go_wp2
  go_ret2
  exact ⟨by rw [HV.out]; rfl, HB4.out⟩
end Go.Proofs.YtnljmdodpffmoaaGreat
