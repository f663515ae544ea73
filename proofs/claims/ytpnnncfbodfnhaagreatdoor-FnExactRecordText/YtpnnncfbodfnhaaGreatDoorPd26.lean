/- What a textWriter writes: versions, those that look and change. -/
import Derived.Test.YtpnnncfbodfnhaaGreatDoorPd25
import Derived.Test.YtpnnncfbodfnhaaGreatDoorPd20
import Derived.Test.YtpnnncfbodfnhaaGreatDoorPd11
import Derived.Test.YtpnnncfbodfnhaaGreatDoorPd18
namespace Go.Proofs.YtpnnncfbodfnhaaGreatDoor
open Go.RowKit
open KM
open VM
attribute [local go_sem ↓] Go.wp_at_zero Go.wp_at_succ

def vrE (x : Vr) : List UInt8 := shL x.1 ++ (shL x.2.1 ++ (bitL x.2.2.1 ++ WM.varL x.2.2.2.toNat))
def vrL (vs : List Vr) : List UInt8 := vs.flatMap vrE
def tsL (ts : List Ta) : List UInt8 := ts.flatMap fun x => txL x.t
def bsL (b : Bb) : List UInt8 := WM.varL b.cs.toNat ++ (WM.varL b.nx.toNat ++ ((WM.varL b.vs.length ++ vrL b.vs) ++ ((WM.varL b.ps.length ++ tsL b.ps) ++ (WM.varL b.qs.length ++ tsL b.qs))))
def VSm (x : Vr) : Prop := x.1.size ≤ 3 ∧ x.2.1.size ≤ 12 ∧ 0 ≤ x.2.2.2 ∧ x.2.2.2 ≤ 9999
theorem ver_small {v : Vr} (h : verB v = true) : VSm v := by
 unfold verB writeB at h
 simp only [Bool.and_eq_true, decide_eq_true_eq] at h
 exact ⟨key_small h.1.1.1.1, h.1.1.1.2, by omega, h.2⟩
theorem sh_small {s : ByteArray} {k : Nat} (h : s.size ≤ k) (hk : k ≤ 20000) : (shL s).length ≤ 5 + k := by
 unfold shL
 rw [List.length_append]
 have := var_len s.size (by omega)
 have e : s.data.toList.length = s.size := Array.length_toList
 omega
theorem vrE_len {x : Vr} (h : VSm x) : (vrE x).length ≤ 31 := by
 have h1 := sh_small h.1 (by omega)
 have h2 := sh_small h.2.1 (by omega)
 have h3 := bit_len x.2.2.1
 have h4 := var_len x.2.2.2.toNat (by have := h.2.2; omega)
 unfold vrE
 simp only [List.length_append]; omega
theorem vr_len : ∀ vs : List Vr, (∀ x ∈ vs, VSm x) → (vrL vs).length ≤ 31 * vs.length
 | [], _ => by simp [vrL]
 | x :: vs, h => by
  have ih := vr_len vs (fun y hy => h y (List.mem_cons_of_mem _ hy))
  have h1 := vrE_len (h x List.mem_cons_self)
  unfold vrL at ih ⊢
  rw [List.flatMap_cons, List.length_append, List.length_cons]; omega
theorem vr_take {vs : List Vr} {k : Nat} (h : k < vs.length) : vrL (vs.take (k + 1)) = vrL (vs.take k) ++ vrE vs[k] := by
 unfold vrL
 rw [List.take_succ_eq_append_getElem h, List.flatMap_append]; simp
theorem rg_small : ∀ rs : List Rg, (∀ r ∈ rs, r.1.size ≤ 3 ∧ r.2.size ≤ 3) → (rgL rs).length ≤ 16 * rs.length
 | [], _ => by simp [rgL]
 | r :: rs, h => by
  have ih := rg_small rs (fun x hx => h x (List.mem_cons_of_mem _ hx))
  have h1 := sh_small (h r List.mem_cons_self).1 (by omega)
  have h2 := sh_small (h r List.mem_cons_self).2 (by omega)
  unfold rgL at ih ⊢
  rw [List.flatMap_cons, List.length_append, List.length_append, List.length_cons]; omega
theorem wt_small : ∀ ws : List Wt, (∀ x ∈ ws, x.1.size ≤ 3 ∧ x.2.1.size ≤ 12) → (wrtL ws).length ≤ 26 * ws.length
 | [], _ => by simp [wrtL]
 | x :: ws, h => by
  have ih := wt_small ws (fun y hy => h y (List.mem_cons_of_mem _ hy))
  have h1 := sh_small (h x List.mem_cons_self).1 (by omega)
  have h2 := sh_small (h x List.mem_cons_self).2 (by omega)
  have h3 := bit_len x.2.2
  unfold wrtL at ih ⊢
  rw [List.flatMap_cons, List.length_append, List.length_append, List.length_append, List.length_cons]; omega
theorem tx_len {t : Tx} (hs : Small t) : (txL t).length ≤ 500 := by
 have h1 := rg_small t.rs hs.rs
 have h2 := wt_small t.ws hs.ws
 have h3 := hs.rl
 have h4 := hs.wl
 have h5 := bit_len t.out
 have h6 := sh_small hs.nm (by omega)
 have a1 := var_len t.id.toNat (by have := hs.i1; omega)
 have a2 := var_len t.st.toNat (by have := hs.s1; omega)
 have a3 := var_len t.snap.toNat (by have := hs.p1; omega)
 have a4 := var_len t.cs.toNat (by have := hs.c1; omega)
 have a5 := var_len t.rs.length (by omega)
 have a6 := var_len t.ws.length (by omega)
 unfold txL
 simp only [List.length_append]; omega
theorem ts_len : ∀ ts : List Ta, (∀ x ∈ ts, Small x.t) → (tsL ts).length ≤ 500 * ts.length
 | [], _ => by simp [tsL]
 | x :: ts, h => by
  have ih := ts_len ts (fun y hy => h y (List.mem_cons_of_mem _ hy))
  have h1 := tx_len (h x List.mem_cons_self)
  unfold tsL at ih ⊢
  rw [List.flatMap_cons, List.length_append, List.length_cons]; omega
theorem ts_take {ts : List Ta} {k : Nat} (h : k < ts.length) : tsL (ts.take (k + 1)) = tsL (ts.take k) ++ txL ts[k].t := by
 unfold tsL
 rw [List.take_succ_eq_append_getElem h, List.flatMap_append]; simp
structure BSm (b : Bb) : Prop where
 c0 : 0 ≤ b.cs
 c1 : b.cs ≤ 9999
 n0 : 0 ≤ b.nx
 n1 : b.nx ≤ 9999
 vl : b.vs.length ≤ 120
 vs : ∀ x ∈ b.vs, VSm x
 pl : b.ps.length ≤ 12
 ps : ∀ x ∈ b.ps, txnB x.t = true
 ql : b.qs.length ≤ 3
 qs : ∀ x ∈ b.qs, txnB x.t = true
theorem base_small {b : Bb} (h : sbB b = true) : BSm b := by
 obtain ⟨h1, h2, h3, h4, h5, h6, h7, h8, h9⟩ : SbP b := of_decide_eq_true h
 unfold versB at h1
 simp only [Bool.and_eq_true, decide_eq_true_eq] at h1
 refine ⟨h4.1, h4.2, by omega, h5.2, h1.1, ?_, h2, ?_, h3, ?_⟩
 ·intro x hx
  obtain ⟨k, hk, rfl⟩ := List.getElem_of_mem hx
  exact ver_small (h1.2 k hk).1
 ·intro x hx
  obtain ⟨k, hk, rfl⟩ := List.getElem_of_mem hx
  exact (h7 k hk).1.1
 ·intro x hx
  obtain ⟨k, hk, rfl⟩ := List.getElem_of_mem hx
  exact (h8 k hk).1.1
structure TLow (B : Nat) (x : Ta) : Prop where
 r : ∀ b' off, x.ra = some ⟨b', off, none⟩ → 0 < x.t.rs.length → b' < B
 w : ∀ b' off, x.wa = some ⟨b', off, none⟩ → 0 < x.t.ws.length → b' < B
theorem low_of {α : Type} {E : Enc α} {w : World} {a : Option Addr} {xs : List α} (h : GRow E w a xs) : ∀ b' off, a = some ⟨b', off, none⟩ → 0 < xs.length → b' < w.heap.size := fun b' off e h0 => by
 obtain ⟨b, o, e2, hlt, _⟩ := h h0
 rw [e] at e2
 cases e2
 exact hlt
theorem TRow.low {w w' : World} {B : Nat} {x : Ta} (h : TRow w x.t x.ra x.wa) (hb : Below B w w') (hl : TLow B x) : TRow w' x.t x.ra x.wa := ⟨grow_low h.r hb hl.r, grow_low h.w hb hl.w⟩

set_option maxRecDepth 100000 in
set_option maxHeartbeats 2000000 in
theorem wtxn2 (l0 : List UInt8) (n0 : l0.length ≤ 100000000) (t : Tx) (ra wa : Option Addr) (rc wc : Nat) (B b : Nat) (hs : Small t) (w : World) (hr : ∀ b' off, ra = some ⟨b', off, none⟩ → 0 < t.rs.length → b' < B) (hw : ∀ b' off, wa = some ⟨b', off, none⟩ → 0 < t.ws.length → b' < B) (h : Wtr w B b l0) (hp : TRow w t ra wa) :
  Calls Tryz.prog 206 #[.pointer (some ⟨b, 0, none⟩), .agg #[.int .i64 t.id, .int .i64 t.st, .int .i64 t.snap, .int .i64 t.cs, .slice ra t.rs.length rc, .slice wa t.ws.length wc, .bool t.out, .string t.nm]] w fun e w' => e = .returned (.tuple #[]) ∧ Wtr w' B b (l0 ++ txL t) ∧ Below B w w' ∧ Keep5 b w w' := by
 have HS : Hid (Small t) := hs
 have HP : Hid (TRow w t ra wa) := hp
 have HR : Hid (∀ b' off, ra = some ⟨b', off, none⟩ → 0 < t.rs.length → b' < B) := hr
 have HWr : Hid (∀ b' off, wa = some ⟨b', off, none⟩ → 0 < t.ws.length → b' < B) := hw
 have RS : Hid (RSm t.rs) := ⟨Nat.le_trans hs.rl (by omega), fun r h => by have := hs.rs r h; omega⟩
 have WS : Hid (WSm t.ws) := ⟨Nat.le_trans hs.wl (by omega), fun x h => by have := hs.ws x h; omega⟩
 have CN : Hid (∀ (n : Int) l w, 0 ≤ n → n ≤ 9999 → l.length ≤ 900000000 → Wtr w B b l → Calls Tryz.prog 25 #[.pointer (some ⟨b, 0, none⟩), .int .i64 n] w fun e w' => e = .returned (.tuple #[]) ∧ Wtr w' B b (l ++ WM.varL n.toNat) ∧ Below B w w' ∧ Keep5 b w w') := fun n l w h0 h1 hl hw => by
  have k := wnum B b n.toNat l (by omega) hl w hw
  rw [Int.toNat_of_nonneg h0] at k
  exact k
 have hne : w.heap.size ≠ b := by rcases h.is with h | h <;> (have := h.lt; omega)
 have HW0 : Hid (Wtr (w.alloc (.cells #[.int .i64 t.id, .int .i64 t.st, .int .i64 t.snap, .int .i64 t.cs, .slice ra t.rs.length rc, .slice wa t.ws.length wc, .bool t.out, .string t.nm] 38)) B b l0) := h.below ((belowRefl w).alloc (Nat.le_refl _) _)
 have HB0 : Hid (Below B w (w.alloc (.cells #[.int .i64 t.id, .int .i64 t.st, .int .i64 t.snap, .int .i64 t.cs, .slice ra t.rs.length rc, .slice wa t.ws.length wc, .bool t.out, .string t.nm] 38))) := (Below.refl B w).alloc h.le _
 have HK0 : Hid (Keep5 b w (w.alloc (.cells #[.int .i64 t.id, .int .i64 t.st, .int .i64 t.snap, .int .i64 t.cs, .slice ra t.rs.length rc, .slice wa t.ws.length wc, .bool t.out, .string t.nm] 38))) := Keep5.below ((belowRefl w).alloc (Nat.le_refl _) _)
 have HE0 : Hid ((w.alloc (.cells #[.int .i64 t.id, .int .i64 t.st, .int .i64 t.snap, .int .i64 t.cs, .slice ra t.rs.length rc, .slice wa t.ws.length wc, .bool t.out, .string t.nm] 38)).heap[w.heap.size]? = some (.cells [.int .i64 t.id, .int .i64 t.st, .int .i64 t.snap, .int .i64 t.cs, .slice ra t.rs.length rc, .slice wa t.ws.length wc, .bool t.out, .string t.nm].toArray 38 (0, 0))) := heapAllocNew w [.int .i64 t.id, .int .i64 t.st, .int .i64 t.snap, .int .i64 t.cs, .slice ra t.rs.length rc, .slice wa t.ws.length wc, .bool t.out, .string t.nm] 38
 clear h hp hs hr hw
 go_enter Tryz.func206, Tryz.ntmps206
 go_wp2_with fail
 refine (CN.out t.id l0 _ HS.out.i0 HS.out.i1 (by omega) HW0.out).mono ?_
 rintro e v1 ⟨rfl, hw, hb, hk⟩
 obtain ⟨l1, hl⟩ : ∃ l, l = l0 ++ WM.varL t.id.toNat := ⟨_, rfl⟩
 have HL1 : Hid (l1 = l0 ++ WM.varL t.id.toNat) := hl
 have n1 : l1.length ≤ 100000005 := by rw [hl, List.length_append]; have := var_len t.id.toNat (by have := HS.out.i1; omega); omega
 rw [← hl] at hw
 have HW1 := hide hw
 have HB1 : Hid (Below B w v1) := HB0.out.trans hb
 have HK1 : Hid (Keep5 b w v1) := HK0.out.trans hk
 have HE1 : Hid (v1.heap[w.heap.size]? = some (.cells [.int .i64 t.id, .int .i64 t.st, .int .i64 t.snap, .int .i64 t.cs, .slice ra t.rs.length rc, .slice wa t.ws.length wc, .bool t.out, .string t.nm].toArray 38 (0, 0))) := hk _ _ 38 (0, 0) hne (by decide) HE0.out
 clear hw hb hk hl HW0 HE0
 have x1 := (bx_heap HE1.out).c1
 go_wp2_with fail
 refine (CN.out t.st l1 _ HS.out.s0 (by have := HS.out.s1; omega) (by omega) HW1.out).mono ?_
 rintro e v2 ⟨rfl, hw, hb, hk⟩
 obtain ⟨l2, hl⟩ : ∃ l, l = l1 ++ WM.varL t.st.toNat := ⟨_, rfl⟩
 have HL2 : Hid (l2 = l1 ++ WM.varL t.st.toNat) := hl
 have n2 : l2.length ≤ 100000010 := by rw [hl, List.length_append]; have := var_len t.st.toNat (by have := (by have := HS.out.s1; omega); omega); omega
 rw [← hl] at hw
 have HW2 := hide hw
 have HB2 : Hid (Below B w v2) := HB1.out.trans hb
 have HK2 : Hid (Keep5 b w v2) := HK1.out.trans hk
 have HE2 : Hid (v2.heap[w.heap.size]? = some (.cells [.int .i64 t.id, .int .i64 t.st, .int .i64 t.snap, .int .i64 t.cs, .slice ra t.rs.length rc, .slice wa t.ws.length wc, .bool t.out, .string t.nm].toArray 38 (0, 0))) := hk _ _ 38 (0, 0) hne (by decide) HE1.out
 clear hw hb hk hl HW1 HE1 x1
 have x2 := (bx_heap HE2.out).c2
 go_wp2_with fail
 refine (CN.out t.snap l2 _ HS.out.p0 HS.out.p1 (by omega) HW2.out).mono ?_
 rintro e v3 ⟨rfl, hw, hb, hk⟩
 obtain ⟨l3, hl⟩ : ∃ l, l = l2 ++ WM.varL t.snap.toNat := ⟨_, rfl⟩
 have HL3 : Hid (l3 = l2 ++ WM.varL t.snap.toNat) := hl
 have n3 : l3.length ≤ 100000015 := by rw [hl, List.length_append]; have := var_len t.snap.toNat (by have := HS.out.p1; omega); omega
 rw [← hl] at hw
 have HW3 := hide hw
 have HB3 : Hid (Below B w v3) := HB2.out.trans hb
 have HK3 : Hid (Keep5 b w v3) := HK2.out.trans hk
 have HE3 : Hid (v3.heap[w.heap.size]? = some (.cells [.int .i64 t.id, .int .i64 t.st, .int .i64 t.snap, .int .i64 t.cs, .slice ra t.rs.length rc, .slice wa t.ws.length wc, .bool t.out, .string t.nm].toArray 38 (0, 0))) := hk _ _ 38 (0, 0) hne (by decide) HE2.out
 clear hw hb hk hl HW2 HE2 x2
 have x3 := (bx_heap HE3.out).c3
 go_wp2_with fail
 refine (CN.out t.cs l3 _ HS.out.c0 HS.out.c1 (by omega) HW3.out).mono ?_
 rintro e v4 ⟨rfl, hw, hb, hk⟩
 obtain ⟨l4, hl⟩ : ∃ l, l = l3 ++ WM.varL t.cs.toNat := ⟨_, rfl⟩
 have HL4 : Hid (l4 = l3 ++ WM.varL t.cs.toNat) := hl
 have n4 : l4.length ≤ 100000020 := by rw [hl, List.length_append]; have := var_len t.cs.toNat (by have := HS.out.c1; omega); omega
 rw [← hl] at hw
 have HW4 := hide hw
 have HB4 : Hid (Below B w v4) := HB3.out.trans hb
 have HK4 : Hid (Keep5 b w v4) := HK3.out.trans hk
 have HE4 : Hid (v4.heap[w.heap.size]? = some (.cells [.int .i64 t.id, .int .i64 t.st, .int .i64 t.snap, .int .i64 t.cs, .slice ra t.rs.length rc, .slice wa t.ws.length wc, .bool t.out, .string t.nm].toArray 38 (0, 0))) := hk _ _ 38 (0, 0) hne (by decide) HE3.out
 clear hw hb hk hl HW3 HE3 x3
 have x4 := (bx_heap HE4.out).c4
 go_wp2_with fail
 refine (wrng B b t.rs ra rc l4 RS.out (by omega) _ HR.out HW4.out (grow_low HP.out.r HB4.out HR.out)).mono ?_
 rintro e v5 ⟨rfl, hw, hb, hk⟩
 obtain ⟨l5, hl⟩ : ∃ l, l = l4 ++ (WM.varL t.rs.length ++ rgL t.rs) := ⟨_, rfl⟩
 have HL5 : Hid (l5 = l4 ++ (WM.varL t.rs.length ++ rgL t.rs)) := hl
 have n5 : l5.length ≤ 100400020 := by rw [hl, List.length_append, List.length_append]; have := var_len t.rs.length (by have := HS.out.rl; omega); have := rg_len t.rs RS.out.2; have := HS.out.rl; omega
 rw [← hl] at hw
 have HW5 := hide hw
 have HB5 : Hid (Below B w v5) := HB4.out.trans hb
 have HK5 : Hid (Keep5 b w v5) := HK4.out.trans hk
 have HE5 : Hid (v5.heap[w.heap.size]? = some (.cells [.int .i64 t.id, .int .i64 t.st, .int .i64 t.snap, .int .i64 t.cs, .slice ra t.rs.length rc, .slice wa t.ws.length wc, .bool t.out, .string t.nm].toArray 38 (0, 0))) := hk _ _ 38 (0, 0) hne (by decide) HE4.out
 clear hw hb hk hl HW4 HE4 x4
 have x5 := (bx_heap HE5.out).c5
 go_wp2_with fail
 refine (wwts B b t.ws wa wc l5 WS.out (by omega) _ HWr.out HW5.out (grow_low HP.out.w HB5.out HWr.out)).mono ?_
 rintro e v6 ⟨rfl, hw, hb, hk⟩
 obtain ⟨l6, hl⟩ : ∃ l, l = l5 ++ (WM.varL t.ws.length ++ wrtL t.ws) := ⟨_, rfl⟩
 have HL6 : Hid (l6 = l5 ++ (WM.varL t.ws.length ++ wrtL t.ws)) := hl
 have n6 : l6.length ≤ 100800020 := by rw [hl, List.length_append, List.length_append]; have := var_len t.ws.length (by have := HS.out.wl; omega); have := wt_len t.ws WS.out.2; have := HS.out.wl; omega
 rw [← hl] at hw
 have HW6 := hide hw
 have HB6 : Hid (Below B w v6) := HB5.out.trans hb
 have HK6 : Hid (Keep5 b w v6) := HK5.out.trans hk
 have HE6 : Hid (v6.heap[w.heap.size]? = some (.cells [.int .i64 t.id, .int .i64 t.st, .int .i64 t.snap, .int .i64 t.cs, .slice ra t.rs.length rc, .slice wa t.ws.length wc, .bool t.out, .string t.nm].toArray 38 (0, 0))) := hk _ _ 38 (0, 0) hne (by decide) HE5.out
 clear hw hb hk hl HW5 HE5 x5
 have x6 := (bx_heap HE6.out).c6
 go_wp2_with fail
 refine (wflag B b t.out l6 (by omega) _ HW6.out).mono ?_
 rintro e v7 ⟨rfl, hw, hb, hk⟩
 obtain ⟨l7, hl⟩ : ∃ l, l = l6 ++ bitL t.out := ⟨_, rfl⟩
 have HL7 : Hid (l7 = l6 ++ bitL t.out) := hl
 have n7 : l7.length ≤ 100800021 := by rw [hl, List.length_append]; have := bit_len t.out; omega
 rw [← hl] at hw
 have HW7 := hide hw
 have HB7 : Hid (Below B w v7) := HB6.out.trans hb
 have HK7 : Hid (Keep5 b w v7) := HK6.out.trans hk
 have HE7 : Hid (v7.heap[w.heap.size]? = some (.cells [.int .i64 t.id, .int .i64 t.st, .int .i64 t.snap, .int .i64 t.cs, .slice ra t.rs.length rc, .slice wa t.ws.length wc, .bool t.out, .string t.nm].toArray 38 (0, 0))) := hk _ _ 38 (0, 0) hne (by decide) HE6.out
 clear hw hb hk hl HW6 HE6 x6
 have x7 := (bx_heap HE7.out).c7
 go_wp2_with fail
 refine (wsh B b t.nm l7 (by have := HS.out.nm; omega) (by omega) _ HW7.out).mono ?_
 rintro e v8 ⟨rfl, hw, hb, hk⟩
 obtain ⟨l8, hl⟩ : ∃ l, l = l7 ++ shL t.nm := ⟨_, rfl⟩
 have HL8 : Hid (l8 = l7 ++ shL t.nm) := hl
 have n8 : l8.length ≤ 100820026 := by rw [hl, List.length_append]; have := sh_len (s := t.nm) (by have := HS.out.nm; omega); omega
 rw [← hl] at hw
 have HW8 := hide hw
 have HB8 : Hid (Below B w v8) := HB7.out.trans hb
 have HK8 : Hid (Keep5 b w v8) := HK7.out.trans hk
 have HE8 : Hid (v8.heap[w.heap.size]? = some (.cells [.int .i64 t.id, .int .i64 t.st, .int .i64 t.snap, .int .i64 t.cs, .slice ra t.rs.length rc, .slice wa t.ws.length wc, .bool t.out, .string t.nm].toArray 38 (0, 0))) := hk _ _ 38 (0, 0) hne (by decide) HE7.out
 clear hw hb hk hl HW7 HE7 x7
 have HT : Hid (l8 = l0 ++ txL t) := by
  show _ = _
  rw [HL8.out, HL7.out, HL6.out, HL5.out, HL4.out, HL3.out, HL2.out, HL1.out]
  unfold txL
  simp only [List.append_assoc]
 rw [HT.out] at HW8
 go_wp2
 go_end0
 exact ⟨rfl, HW8.out, HB8.out, HK8.out⟩

set_option maxRecDepth 100000 in
set_option maxHeartbeats 2000000 in
theorem wvers (B b : Nat) (xs : List Vr) (a : Option Addr) (c : Nat) (l : List UInt8) (hx : ∀ x ∈ xs, VSm x) (hn : xs.length ≤ 1000) (hl : l.length ≤ 100000000) (w : World) (hlo : ∀ b' off, a = some ⟨b', off, none⟩ → 0 < xs.length → b' < B) (h : Wtr w B b l) (hp : GRow encV w a xs) :
  Calls Tryz.prog 218 #[.pointer (some ⟨b, 0, none⟩), .slice a xs.length c] w fun e w' => e = .returned (.tuple #[]) ∧ Wtr w' B b (l ++ (WM.varL xs.length ++ vrL xs)) ∧ Below B w w' ∧ Keep5 b w w' := by
 have HW : Hid (Wtr w B b l) := h
 have HP : Hid (GRow encV w a xs) := hp
 have HX : Hid (∀ x ∈ xs, VSm x) := hx
 have HLO : Hid (∀ b' off, a = some ⟨b', off, none⟩ → 0 < xs.length → b' < B) := hlo
 have hv := var_len xs.length (by omega)
 clear h hp hx hlo
 have CN : Hid (∀ (n : Int) l w, 0 ≤ n → n ≤ 9999 → l.length ≤ 900000000 → Wtr w B b l → Calls Tryz.prog 25 #[.pointer (some ⟨b, 0, none⟩), .int .i64 n] w fun e w' => e = .returned (.tuple #[]) ∧ Wtr w' B b (l ++ WM.varL n.toNat) ∧ Below B w w' ∧ Keep5 b w w') := fun n l w h0 h1 hl hw => by
  have k := wnum B b n.toNat l (by omega) hl w hw
  rw [Int.toNat_of_nonneg h0] at k
  exact k
 go_enter Tryz.func218, Tryz.ntmps218
 go_wp2_with fail
 refine (wnum B b xs.length l (by omega) (by omega) _ HW.out).mono ?_
 rintro e w1 ⟨rfl, hw1, hb1, hk1⟩
 have HW1 := hide hw1
 have HB1 := hide hb1
 have HK1 := hide hk1
 have hl1 : (l ++ WM.varL xs.length).length ≤ 100000005 := by rw [List.length_append]; omega
 have HE1 : Hid (l ++ (WM.varL xs.length ++ vrL xs) = (l ++ WM.varL xs.length) ++ vrL xs) := by show _ = _; rw [List.append_assoc]
 clear hw1 hb1 hk1
 generalize l ++ WM.varL xs.length = l1 at HW1 hl1 HE1
 go_wp2
 go_loopw [12] (fun v wr => ∃ k : Nat, k ≤ xs.length ∧ v = .int .i64 k ∧ Hid (Wtr wr B b (l1 ++ vrL (xs.take k))) ∧ Hid (Below B w wr) ∧ Hid (Keep5 b w wr)) (fun v _ => xs.length - (intOf v).toNat)
 case atStart => exact ⟨0, Nat.zero_le _, rfl, (by show Wtr _ _ _ _; rw [show l1 ++ vrL (xs.take 0) = l1 by simp [vrL]]; exact HW1.out), HB1, HK1⟩
 case round =>
  clear HW1 HB1 HK1
  obtain ⟨k, hk, rfl, HWr, HB, HK⟩ := hrel
  by_cases hlt : k < xs.length
  ·have hlt' : (k : Int) < (xs.length : Int) := by omega
   have h0 : (0 : Int) ≤ (k : Int) := by omega
   obtain ⟨b1, off1, hab, hbl, q⟩ := HP.out (by omega)
   subst hab
   have hb1B : b1 < B := HLO.out b1 off1 rfl (by omega)
   have r0 := (HB.out.cell (p := ⟨b1, off1 + k * 4, none⟩) hb1B).trans ((vat q) k hlt).1
   have r1 := (HB.out.cell (p := ⟨b1, off1 + k * 4 + 1, none⟩) hb1B).trans ((vat q) k hlt).2.1
   have r2 := (HB.out.cell (p := ⟨b1, off1 + k * 4 + 2, none⟩) hb1B).trans ((vat q) k hlt).2.2.1
   have r3 := (HB.out.cell (p := ⟨b1, off1 + k * 4 + 3, none⟩) hb1B).trans ((vat q) k hlt).2.2.2
   clear q
   have HZ := hide (HX.out _ (List.getElem_mem hlt))
   have hlk : (vrL (xs.take k)).length ≤ 31000 := by
    have h1 := vr_len (xs.take k) (fun x hx => HX.out x (List.mem_of_mem_take hx))
    rw [List.length_take] at h1
    have h2 : min k xs.length ≤ 1000 := by omega
    omega
   have HE : Hid (l1 ++ vrL (xs.take (k + 1)) = (((l1 ++ vrL (xs.take k)) ++ shL xs[k].1) ++ shL xs[k].2.1) ++ bitL xs[k].2.2.1 ++ WM.varL xs[k].2.2.2.toNat) := by show _ = _; rw [vr_take hlt]; unfold vrE; simp only [List.append_assoc]
   have hla : (l1 ++ vrL (xs.take k)).length ≤ 100031005 := by rw [List.length_append]; omega
   have HE0 : Hid ((wr.alloc (.cells #[.string xs[k].1, .string xs[k].2.1, .bool xs[k].2.2.1, .int .i64 xs[k].2.2.2] 106)).heap[wr.heap.size]? = some (.cells [.string xs[k].1, .string xs[k].2.1, .bool xs[k].2.2.1, .int .i64 xs[k].2.2.2].toArray 106 (0, 0))) := heapAllocNew wr [.string xs[k].1, .string xs[k].2.1, .bool xs[k].2.2.1, .int .i64 xs[k].2.2.2] 106
   have HWa : Hid (Wtr (wr.alloc (.cells #[.string xs[k].1, .string xs[k].2.1, .bool xs[k].2.2.1, .int .i64 xs[k].2.2.2] 106)) B b (l1 ++ vrL (xs.take k))) := HWr.out.below ((belowRefl wr).alloc (Nat.le_refl _) _)
   have HBa : Hid (Below B w (wr.alloc (.cells #[.string xs[k].1, .string xs[k].2.1, .bool xs[k].2.2.1, .int .i64 xs[k].2.2.2] 106))) := HB.out.alloc HWr.out.le _
   have HKa : Hid (Keep5 b w (wr.alloc (.cells #[.string xs[k].1, .string xs[k].2.1, .bool xs[k].2.2.1, .int .i64 xs[k].2.2.2] 106))) := HK.out.trans (Keep5.below ((belowRefl wr).alloc (Nat.le_refl _) _))
   have hne : wr.heap.size ≠ b := by
    rcases HWr.out.is with h | h <;> (have := h.lt; omega)
   generalize l1 ++ vrL (xs.take k) = la at HWa hla HE
   clear HWr
   have s1 := sh_small HZ.out.1 (by omega)
   have s2 := sh_small HZ.out.2.1 (by omega)
   have s3 := bit_len xs[k].2.2.1
   have z0 := HZ.out.2.2.1
   have z1 := HZ.out.2.2.2
   have z2 : xs[k].1.size ≤ 20000 := Nat.le_trans HZ.out.1 (by omega)
   have z3 : xs[k].2.1.size ≤ 20000 := Nat.le_trans HZ.out.2.1 (by omega)
   go_wp2_with fail
   refine (wsh B b xs[k].1 _ z2 (by omega) _ HWa.out).mono ?_
   rintro e v0 ⟨rfl, hw, hb, hk⟩
   have HW0 := hide hw
   have HB0 : Hid (Below B w v0) := HBa.out.trans hb
   have HK0 : Hid (Keep5 b w v0) := HKa.out.trans hk
   have HE1 : Hid (v0.heap[wr.heap.size]? = some (.cells [.string xs[k].1, .string xs[k].2.1, .bool xs[k].2.2.1, .int .i64 xs[k].2.2.2].toArray 106 (0, 0))) := hk _ _ 106 (0, 0) hne (by decide) HE0.out
   clear hw hb hk
   have e1 := (bx_heap HE1.out).c1
   go_wp2_with fail
   refine (wsh B b xs[k].2.1 _ z3 (by rw [List.length_append]; omega) _ HW0.out).mono ?_
   rintro e v1 ⟨rfl, hw, hb, hk⟩
   have HW1 := hide hw
   have HB1 : Hid (Below B w v1) := HB0.out.trans hb
   have HK1 : Hid (Keep5 b w v1) := HK0.out.trans hk
   have HE2 : Hid (v1.heap[wr.heap.size]? = some (.cells [.string xs[k].1, .string xs[k].2.1, .bool xs[k].2.2.1, .int .i64 xs[k].2.2.2].toArray 106 (0, 0))) := hk _ _ 106 (0, 0) hne (by decide) HE1.out
   clear hw hb hk e1
   have e2 := (bx_heap HE2.out).c2
   go_wp2_with fail
   refine (wflag B b xs[k].2.2.1 _ (by rw [List.length_append, List.length_append]; omega) _ HW1.out).mono ?_
   rintro e v2 ⟨rfl, hw, hb, hk⟩
   have HW2 := hide hw
   have HB2 : Hid (Below B w v2) := HB1.out.trans hb
   have HK2 : Hid (Keep5 b w v2) := HK1.out.trans hk
   have HE3 : Hid (v2.heap[wr.heap.size]? = some (.cells [.string xs[k].1, .string xs[k].2.1, .bool xs[k].2.2.1, .int .i64 xs[k].2.2.2].toArray 106 (0, 0))) := hk _ _ 106 (0, 0) hne (by decide) HE2.out
   clear hw hb hk e2
   have e3 := (bx_heap HE3.out).c3
   go_wp2_with fail
   refine (CN.out xs[k].2.2.2 _ _ z0 z1 (by rw [List.length_append, List.length_append, List.length_append]; omega) HW2.out).mono ?_
   rintro e v3 ⟨rfl, hw, hb, hk⟩
   have HW3 := hide hw
   have HB3 : Hid (Below B w v3) := HB2.out.trans hb
   have HK3 : Hid (Keep5 b w v3) := HK2.out.trans hk
   clear hw hb hk e3
   have HWn : Hid (Wtr v3 B b (l1 ++ vrL (xs.take (k + 1)))) := by show Wtr _ _ _ _; rw [HE.out]; exact HW3.out
   clear HE
   go_wp2
   go_roundw
   case rel => exact ⟨k + 1, by omega, by go_num, HWn, HB3, HK3⟩
   case measure => simp [intOf]; omega
  ·have hlt' : ¬ (k : Int) < (xs.length : Int) := by omega
   have hw := HWr.out
   rw [List.take_of_length_le (by omega)] at hw
   have HWn := hide hw
   clear hw HWr
   go_wp2
   go_end0
   exact ⟨rfl, by rw [HE1.out]; exact HWn.out, HB.out, HK.out⟩

set_option maxRecDepth 100000 in
set_option maxHeartbeats 2000000 in
theorem wtxs (B b : Nat) (xs : List Ta) (a : Option Addr) (c : Nat) (l : List UInt8) (hx : ∀ x ∈ xs, Small x.t) (hn : xs.length ≤ 1000) (hl : l.length ≤ 1000000) (w : World) (hlo : ∀ b' off, a = some ⟨b', off, none⟩ → 0 < xs.length → b' < B) (hle : ∀ x ∈ xs, TLow B x) (h : Wtr w B b l) (hp : TRows w a xs) :
  Calls Tryz.prog 219 #[.pointer (some ⟨b, 0, none⟩), .slice a xs.length c] w fun e w' => e = .returned (.tuple #[]) ∧ Wtr w' B b (l ++ (WM.varL xs.length ++ tsL xs)) ∧ Below B w w' ∧ Keep5 b w w' := by
 have HW : Hid (Wtr w B b l) := h
 have HP : Hid (TRows w a xs) := hp
 have HX : Hid (∀ x ∈ xs, Small x.t) := hx
 have HLO : Hid (∀ b' off, a = some ⟨b', off, none⟩ → 0 < xs.length → b' < B) := hlo
 have HLE : Hid (∀ x ∈ xs, TLow B x) := hle
 have hv := var_len xs.length (by omega)
 clear h hp hx hlo hle
 go_enter Tryz.func219, Tryz.ntmps219
 go_wp2_with fail
 refine (wnum B b xs.length l (by omega) (by omega) _ HW.out).mono ?_
 rintro e w1 ⟨rfl, hw1, hb1, hk1⟩
 have HW1 := hide hw1
 have HB1 := hide hb1
 have HK1 := hide hk1
 have hl1 : (l ++ WM.varL xs.length).length ≤ 1000005 := by rw [List.length_append]; omega
 have HE1 : Hid (l ++ (WM.varL xs.length ++ tsL xs) = (l ++ WM.varL xs.length) ++ tsL xs) := by show _ = _; rw [List.append_assoc]
 clear hw1 hb1 hk1
 generalize l ++ WM.varL xs.length = l1 at HW1 hl1 HE1
 go_wp2
 go_loopw [12] (fun v wr => ∃ k : Nat, k ≤ xs.length ∧ v = .int .i64 k ∧ Hid (Wtr wr B b (l1 ++ tsL (xs.take k))) ∧ Hid (Below B w wr) ∧ Hid (Keep5 b w wr)) (fun v _ => xs.length - (intOf v).toNat)
 case atStart => exact ⟨0, Nat.zero_le _, rfl, (by show Wtr _ _ _ _; rw [show l1 ++ tsL (xs.take 0) = l1 by simp [tsL]]; exact HW1.out), HB1, HK1⟩
 case round =>
  clear HW1 HB1 HK1
  obtain ⟨k, hk, rfl, HWr, HB, HK⟩ := hrel
  by_cases hlt : k < xs.length
  ·have hlt' : (k : Int) < (xs.length : Int) := by omega
   have h0 : (0 : Int) ≤ (k : Int) := by omega
   have hsm : Small xs[k].t := HX.out _ (List.getElem_mem hlt)
   have hlw : TLow B xs[k] := HLE.out _ (List.getElem_mem hlt)
   have hrw : TRow w xs[k].t xs[k].ra xs[k].wa := HP.out.each _ (List.getElem_mem hlt)
   obtain ⟨b1, off1, hab, hbl, q⟩ := HP.out.row (by omega)
   subst hab
   have hb1B : b1 < B := HLO.out b1 off1 rfl (by omega)
   have hc := tat q k hlt
   have HEq : Hid (tsL (xs.take (k + 1)) = tsL (xs.take k) ++ txL xs[k].t) := ts_take hlt
   obtain ⟨x, hx⟩ : ∃ x, x = xs[k] := ⟨_, rfl⟩
   rw [← hx] at hsm hlw hrw hc HEq
   clear hx q
   have r0 := (HB.out.cell (p := ⟨b1, off1 + k * 8, none⟩) hb1B).trans hc.c0
   have r1 := (HB.out.cell (p := ⟨b1, off1 + k * 8 + 1, none⟩) hb1B).trans hc.c1
   have r2 := (HB.out.cell (p := ⟨b1, off1 + k * 8 + 2, none⟩) hb1B).trans hc.c2
   have r3 := (HB.out.cell (p := ⟨b1, off1 + k * 8 + 3, none⟩) hb1B).trans hc.c3
   have r4 := (HB.out.cell (p := ⟨b1, off1 + k * 8 + 4, none⟩) hb1B).trans hc.c4
   have r5 := (HB.out.cell (p := ⟨b1, off1 + k * 8 + 5, none⟩) hb1B).trans hc.c5
   have r6 := (HB.out.cell (p := ⟨b1, off1 + k * 8 + 6, none⟩) hb1B).trans hc.c6
   have r7 := (HB.out.cell (p := ⟨b1, off1 + k * 8 + 7, none⟩) hb1B).trans hc.c7
   clear hc
   have hlk : (tsL (xs.take k)).length ≤ 500000 := by
    have h1 := ts_len (xs.take k) (fun x hx => HX.out x (List.mem_of_mem_take hx))
    rw [List.length_take] at h1
    have h2 : min k xs.length ≤ 1000 := by omega
    omega
   have HE : Hid (l1 ++ tsL (xs.take (k + 1)) = (l1 ++ tsL (xs.take k)) ++ txL x.t) := by show _ = _; rw [HEq.out]; simp only [List.append_assoc]
   have hla : (l1 ++ tsL (xs.take k)).length ≤ 1500005 := by rw [List.length_append]; omega
   have HWa : Hid (Wtr (wr.alloc (.cells #[.int .i64 x.t.id, .int .i64 x.t.st, .int .i64 x.t.snap, .int .i64 x.t.cs, .slice x.ra x.t.rs.length x.rc, .slice x.wa x.t.ws.length x.wc, .bool x.t.out, .string x.t.nm] 38)) B b (l1 ++ tsL (xs.take k))) := HWr.out.below ((belowRefl wr).alloc (Nat.le_refl _) _)
   have HBa : Hid (Below B w (wr.alloc (.cells #[.int .i64 x.t.id, .int .i64 x.t.st, .int .i64 x.t.snap, .int .i64 x.t.cs, .slice x.ra x.t.rs.length x.rc, .slice x.wa x.t.ws.length x.wc, .bool x.t.out, .string x.t.nm] 38))) := HB.out.alloc HWr.out.le _
   have HKa : Hid (Keep5 b w (wr.alloc (.cells #[.int .i64 x.t.id, .int .i64 x.t.st, .int .i64 x.t.snap, .int .i64 x.t.cs, .slice x.ra x.t.rs.length x.rc, .slice x.wa x.t.ws.length x.wc, .bool x.t.out, .string x.t.nm] 38))) := HK.out.trans (Keep5.below ((belowRefl wr).alloc (Nat.le_refl _) _))
   have HRa : Hid (TRow (wr.alloc (.cells #[.int .i64 x.t.id, .int .i64 x.t.st, .int .i64 x.t.snap, .int .i64 x.t.cs, .slice x.ra x.t.rs.length x.rc, .slice x.wa x.t.ws.length x.wc, .bool x.t.out, .string x.t.nm] 38)) x.t x.ra x.wa) := hrw.low HBa.out hlw
   have HSM := hide hsm
   have HLW := hide hlw
   generalize l1 ++ tsL (xs.take k) = la at HWa hla HE
   clear HWr hsm hlw hrw HEq
   go_wp2_with fail
   refine (wtxn2 la (by omega) x.t x.ra x.wa x.rc x.wc B b HSM.out _ HLW.out.r HLW.out.w HWa.out HRa.out).mono ?_
   rintro e v0 ⟨rfl, hw, hb, hk⟩
   have HW0 := hide hw
   have HB0 : Hid (Below B w v0) := HBa.out.trans hb
   have HK0 : Hid (Keep5 b w v0) := HKa.out.trans hk
   clear hw hb hk r0 r1 r2 r3 r4 r5 r6 r7
   have HWn : Hid (Wtr v0 B b (l1 ++ tsL (xs.take (k + 1)))) := by show Wtr _ _ _ _; rw [HE.out]; exact HW0.out
   clear HE
   go_wp2
   go_roundw
   case rel => exact ⟨k + 1, by omega, by go_num, HWn, HB0, HK0⟩
   case measure => simp [intOf]; omega
  ·have hlt' : ¬ (k : Int) < (xs.length : Int) := by omega
   have hw := HWr.out
   rw [List.take_of_length_le (by omega)] at hw
   have HWn := hide hw
   clear hw HWr
   go_wp2
   go_end0
   exact ⟨rfl, by rw [HE1.out]; exact HWn.out, HB.out, HK.out⟩

end Go.Proofs.YtpnnncfbodfnhaaGreatDoor

namespace Go.Proofs.YtpnnncfbodfnhaaGreatDoor
open Go.RowKit
open KM
open VM
attribute [local go_sem ↓] Go.wp_at_zero Go.wp_at_succ

structure BLow (B : Nat) (b : Bb) : Prop where
 v : ∀ b' off, b.va = some ⟨b', off, none⟩ → 0 < b.vs.length → b' < B
 p : ∀ b' off, b.pa = some ⟨b', off, none⟩ → 0 < b.ps.length → b' < B
 pe : ∀ x ∈ b.ps, TLow B x
 q : ∀ b' off, b.qa = some ⟨b', off, none⟩ → 0 < b.qs.length → b' < B
 qe : ∀ x ∈ b.qs, TLow B x
theorem BRows.allLow {w : World} {b : Bb} (h : BRows w b) : BLow w.heap.size b := ⟨low_of h.v, low_of h.p.row, fun x hx => ⟨low_of (h.p.each x hx).r, low_of (h.p.each x hx).w⟩, low_of h.q.row, fun x hx => ⟨low_of (h.q.each x hx).r, low_of (h.q.each x hx).w⟩⟩
theorem TRows.low {w w' : World} {B : Nat} {a : Option Addr} {xs : List Ta} (h : TRows w a xs) (hb : Below B w w') (h1 : ∀ b' off, a = some ⟨b', off, none⟩ → 0 < xs.length → b' < B) (h2 : ∀ x ∈ xs, TLow B x) : TRows w' a xs := ⟨grow_low h.row hb h1, fun x hx => (h.each x hx).low hb (h2 x hx)⟩
theorem BRows.low {w w' : World} {B : Nat} {b : Bb} (h : BRows w b) (hb : Below B w w') (hl : BLow B b) : BRows w' b := ⟨grow_low h.v hb hl.v, h.p.low hb hl.p hl.pe, h.q.low hb hl.q hl.qe⟩

set_option maxRecDepth 100000 in
set_option maxHeartbeats 2000000 in
theorem wbase (l0 : List UInt8) (n0 : l0.length ≤ 1000) (b : Bb) (B g : Nat) (hs : BSm b) (w : World) (hl : BLow B b) (h : Wtr w B g l0) (hp : BRows w b) :
  Calls Tryz.prog 217 #[.pointer (some ⟨g, 0, none⟩), .agg #[.slice b.va b.vs.length b.vc, .slice b.pa b.ps.length b.pc, .slice b.qa b.qs.length b.qc, .int .i64 b.cs, .int .i64 b.nx]] w fun e w' => e = .returned (.tuple #[]) ∧ Wtr w' B g (l0 ++ bsL b) ∧ Below B w w' ∧ Keep5 g w w' := by
 have HS : Hid (BSm b) := hs
 have HP : Hid (BRows w b) := hp
 have HL : Hid (BLow B b) := hl
 have CN : Hid (∀ (n : Int) l w, 0 ≤ n → n ≤ 9999 → l.length ≤ 900000000 → Wtr w B g l → Calls Tryz.prog 25 #[.pointer (some ⟨g, 0, none⟩), .int .i64 n] w fun e w' => e = .returned (.tuple #[]) ∧ Wtr w' B g (l ++ WM.varL n.toNat) ∧ Below B w w' ∧ Keep5 g w w') := fun n l w h0 h1 hl hw => by
  have k := wnum B g n.toNat l (by omega) hl w hw
  rw [Int.toNat_of_nonneg h0] at k
  exact k
 have hne : w.heap.size ≠ g := by rcases h.is with h | h <;> (have := h.lt; omega)
 have HW0 : Hid (Wtr (w.alloc (.cells #[.slice b.va b.vs.length b.vc, .slice b.pa b.ps.length b.pc, .slice b.qa b.qs.length b.qc, .int .i64 b.cs, .int .i64 b.nx] 42)) B g l0) := h.below ((belowRefl w).alloc (Nat.le_refl _) _)
 have HB0 : Hid (Below B w (w.alloc (.cells #[.slice b.va b.vs.length b.vc, .slice b.pa b.ps.length b.pc, .slice b.qa b.qs.length b.qc, .int .i64 b.cs, .int .i64 b.nx] 42))) := (Below.refl B w).alloc h.le _
 have HK0 : Hid (Keep5 g w (w.alloc (.cells #[.slice b.va b.vs.length b.vc, .slice b.pa b.ps.length b.pc, .slice b.qa b.qs.length b.qc, .int .i64 b.cs, .int .i64 b.nx] 42))) := Keep5.below ((belowRefl w).alloc (Nat.le_refl _) _)
 have HE0 : Hid ((w.alloc (.cells #[.slice b.va b.vs.length b.vc, .slice b.pa b.ps.length b.pc, .slice b.qa b.qs.length b.qc, .int .i64 b.cs, .int .i64 b.nx] 42)).heap[w.heap.size]? = some (.cells [.slice b.va b.vs.length b.vc, .slice b.pa b.ps.length b.pc, .slice b.qa b.qs.length b.qc, .int .i64 b.cs, .int .i64 b.nx].toArray 42 (0, 0))) := heapAllocNew w [.slice b.va b.vs.length b.vc, .slice b.pa b.ps.length b.pc, .slice b.qa b.qs.length b.qc, .int .i64 b.cs, .int .i64 b.nx] 42
 clear h hp hs hl
 have bn1 : (WM.varL b.cs.toNat).length ≤ 5 := var_len _ (by have := HS.out.c1; omega)
 have bn2 : (WM.varL b.nx.toNat).length ≤ 5 := var_len _ (by have := HS.out.n1; omega)
 have bn3 : (WM.varL b.vs.length ++ vrL b.vs).length ≤ 4000 := by rw [List.length_append]; have := var_len b.vs.length (by have := HS.out.vl; omega); have := vr_len b.vs HS.out.vs; have := HS.out.vl; omega
 have bn4 : (WM.varL b.ps.length ++ tsL b.ps).length ≤ 7000 := by rw [List.length_append]; have := var_len b.ps.length (by have := HS.out.pl; omega); have := ts_len b.ps (fun x hx => right_small (HS.out.ps x hx)); have := HS.out.pl; omega
 go_enter Tryz.func217, Tryz.ntmps217
 go_wp2_with fail
 refine (CN.out b.cs l0 _ HS.out.c0 HS.out.c1 (by omega) HW0.out).mono ?_
 rintro e v1 ⟨rfl, hw, hb, hk⟩
 obtain ⟨l1, hl⟩ : ∃ l, l = l0 ++ WM.varL b.cs.toNat := ⟨_, rfl⟩
 have HL1 : Hid (l1 = l0 ++ WM.varL b.cs.toNat) := hl
 have n1 : l1.length ≤ 1010 := by rw [hl, List.length_append]; omega
 rw [← hl] at hw
 have HW1 := hide hw
 have HB1 : Hid (Below B w v1) := HB0.out.trans hb
 have HK1 : Hid (Keep5 g w v1) := HK0.out.trans hk
 have HE1 : Hid (v1.heap[w.heap.size]? = some (.cells [.slice b.va b.vs.length b.vc, .slice b.pa b.ps.length b.pc, .slice b.qa b.qs.length b.qc, .int .i64 b.cs, .int .i64 b.nx].toArray 42 (0, 0))) := hk _ _ 42 (0, 0) hne (by decide) HE0.out
 clear hw hb hk hl HW0 HE0
 have x4 := (bx_heap HE1.out).c4
 go_wp2_with fail
 refine (CN.out b.nx l1 _ HS.out.n0 HS.out.n1 (by omega) HW1.out).mono ?_
 rintro e v2 ⟨rfl, hw, hb, hk⟩
 obtain ⟨l2, hl⟩ : ∃ l, l = l1 ++ WM.varL b.nx.toNat := ⟨_, rfl⟩
 have HL2 : Hid (l2 = l1 ++ WM.varL b.nx.toNat) := hl
 have n2 : l2.length ≤ 1020 := by rw [hl, List.length_append]; omega
 rw [← hl] at hw
 have HW2 := hide hw
 have HB2 : Hid (Below B w v2) := HB1.out.trans hb
 have HK2 : Hid (Keep5 g w v2) := HK1.out.trans hk
 have HE2 : Hid (v2.heap[w.heap.size]? = some (.cells [.slice b.va b.vs.length b.vc, .slice b.pa b.ps.length b.pc, .slice b.qa b.qs.length b.qc, .int .i64 b.cs, .int .i64 b.nx].toArray 42 (0, 0))) := hk _ _ 42 (0, 0) hne (by decide) HE1.out
 clear hw hb hk hl HW1 HE1 x4
 have x0 := (bx_heap HE2.out).c0
 go_wp2_with fail
 refine (wvers B g b.vs b.va b.vc l2 HS.out.vs (by have := HS.out.vl; omega) (by omega) _ HL.out.v HW2.out (grow_low HP.out.v HB2.out HL.out.v)).mono ?_
 rintro e v3 ⟨rfl, hw, hb, hk⟩
 obtain ⟨l3, hl⟩ : ∃ l, l = l2 ++ (WM.varL b.vs.length ++ vrL b.vs) := ⟨_, rfl⟩
 have HL3 : Hid (l3 = l2 ++ (WM.varL b.vs.length ++ vrL b.vs)) := hl
 have n3 : l3.length ≤ 5020 := by rw [hl, List.length_append]; omega
 rw [← hl] at hw
 have HW3 := hide hw
 have HB3 : Hid (Below B w v3) := HB2.out.trans hb
 have HK3 : Hid (Keep5 g w v3) := HK2.out.trans hk
 have HE3 : Hid (v3.heap[w.heap.size]? = some (.cells [.slice b.va b.vs.length b.vc, .slice b.pa b.ps.length b.pc, .slice b.qa b.qs.length b.qc, .int .i64 b.cs, .int .i64 b.nx].toArray 42 (0, 0))) := hk _ _ 42 (0, 0) hne (by decide) HE2.out
 clear hw hb hk hl HW2 HE2 x0
 have x1 := (bx_heap HE3.out).c1
 go_wp2_with fail
 refine (wtxs B g b.ps b.pa b.pc l3 (fun x hx => right_small (HS.out.ps x hx)) (by have := HS.out.pl; omega) (by omega) _ HL.out.p HL.out.pe HW3.out (HP.out.p.low HB3.out HL.out.p HL.out.pe)).mono ?_
 rintro e v4 ⟨rfl, hw, hb, hk⟩
 obtain ⟨l4, hl⟩ : ∃ l, l = l3 ++ (WM.varL b.ps.length ++ tsL b.ps) := ⟨_, rfl⟩
 have HL4 : Hid (l4 = l3 ++ (WM.varL b.ps.length ++ tsL b.ps)) := hl
 have n4 : l4.length ≤ 12020 := by rw [hl, List.length_append]; omega
 rw [← hl] at hw
 have HW4 := hide hw
 have HB4 : Hid (Below B w v4) := HB3.out.trans hb
 have HK4 : Hid (Keep5 g w v4) := HK3.out.trans hk
 have HE4 : Hid (v4.heap[w.heap.size]? = some (.cells [.slice b.va b.vs.length b.vc, .slice b.pa b.ps.length b.pc, .slice b.qa b.qs.length b.qc, .int .i64 b.cs, .int .i64 b.nx].toArray 42 (0, 0))) := hk _ _ 42 (0, 0) hne (by decide) HE3.out
 clear hw hb hk hl HW3 HE3 x1
 have x2 := (bx_heap HE4.out).c2
 go_wp2_with fail
 refine (wtxs B g b.qs b.qa b.qc l4 (fun x hx => right_small (HS.out.qs x hx)) (by have := HS.out.ql; omega) (by omega) _ HL.out.q HL.out.qe HW4.out (HP.out.q.low HB4.out HL.out.q HL.out.qe)).mono ?_
 rintro e v5 ⟨rfl, hw, hb, hk⟩
 obtain ⟨l5, hl⟩ : ∃ l, l = l4 ++ (WM.varL b.qs.length ++ tsL b.qs) := ⟨_, rfl⟩
 have HL5 : Hid (l5 = l4 ++ (WM.varL b.qs.length ++ tsL b.qs)) := hl
 rw [← hl] at hw
 have HW5 := hide hw
 have HB5 : Hid (Below B w v5) := HB4.out.trans hb
 have HK5 : Hid (Keep5 g w v5) := HK4.out.trans hk
 have HE5 : Hid (v5.heap[w.heap.size]? = some (.cells [.slice b.va b.vs.length b.vc, .slice b.pa b.ps.length b.pc, .slice b.qa b.qs.length b.qc, .int .i64 b.cs, .int .i64 b.nx].toArray 42 (0, 0))) := hk _ _ 42 (0, 0) hne (by decide) HE4.out
 clear hw hb hk hl HW4 HE4 x2
 have HT : Hid (l5 = l0 ++ bsL b) := by
  show _ = _
  rw [HL5.out, HL4.out, HL3.out, HL2.out, HL1.out]
  unfold bsL
  simp only [List.append_assoc]
 rw [HT.out] at HW5
 go_wp2
 go_end0
 exact ⟨rfl, HW5.out, HB5.out, HK5.out⟩

def btxV (b : Bb) : Value := if sbB b = true then .tuple #[.string ⟨(bsL b).toArray⟩, .bool true] else .tuple #[.string ⟨#[]⟩, .bool false]
theorem ts_same {xs ys : List Ta} (h : txs ys = txs xs) : tsL ys = tsL xs := by
 have e : ∀ zs : List Ta, tsL zs = (txs zs).flatMap txL := fun zs => by unfold tsL txs; rw [List.flatMap_map]
 rw [e, e, h]
end Go.Proofs.YtpnnncfbodfnhaaGreatDoor
