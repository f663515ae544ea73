/- What laws' szTxn, toTxn and eqTxn do. -/
import Derived.Test.YtmijppfppigjcaaGreatPd03
import Derived.Test.YtmijppfppigjcaaGreatPd02
import Derived.Deep.RegionHeld3
import Derived.Test.YtmijppfppigjcaaGreatPd01
namespace Go.Proofs.YtmijppfppigjcaaGreat
open Go.RowKit
open KM
attribute [local go_sem ↓] Go.wp_at_zero Go.wp_at_succ

theorem Lies.set {α : Type} {E : Enc α} {e : TypeId} {w : World} {lo hi : Nat} {v : Value} {xs : List α} (h : Lies E e w lo hi v xs) {a : Addr} (ha : a.block < lo) (u : Value) : Lies E e (w.setCell a u) lo hi v xs := ⟨h.own.set ha u, h.up⟩
theorem Lies.mono {α : Type} {E : Enc α} {e : TypeId} {w : World} {lo lo' hi hi' : Nat} {v : Value} {xs : List α} (h : Lies E e w lo hi v xs) (h1 : lo' ≤ lo) (h2 : hi ≤ hi') : Lies E e w lo' hi' v xs := ⟨h.own.mono h1, fun g hg => Nat.lt_of_lt_of_le (h.up g hg) h2⟩
structure TLie (w : World) (lo hi : Nat) (t : Tx) (ra : Option Addr) (rc : Nat) (wa : Option Addr) (wc : Nat) : Prop where
 ex : ∃ m, lo ≤ m ∧ m ≤ hi ∧ Lies encR 156 w lo m (.slice ra t.rs.length rc) t.rs ∧ Lies encW 148 w m hi (.slice wa t.ws.length wc) t.ws
theorem TLie.row {w : World} {lo hi : Nat} {t : Tx} {ra wa : Option Addr} {rc wc : Nat} (h : TLie w lo hi t ra rc wa wc) : TRow w t ra wa := by
 obtain ⟨m, _, _, h1, h2⟩ := h.ex
 exact ⟨h1.own.grow, h2.own.grow⟩
theorem TLie.below {w w' : World} {lo hi : Nat} {t : Tx} {ra wa : Option Addr} {rc wc : Nat} (h : TLie w lo hi t ra rc wa wc) (hb : Below w.heap.size w w') : TLie w' lo hi t ra rc wa wc := by
 obtain ⟨m, a, b, h1, h2⟩ := h.ex
 exact ⟨m, a, b, h1.below hb, h2.below hb⟩
theorem TLie.set {w : World} {lo hi : Nat} {t : Tx} {ra wa : Option Addr} {rc wc : Nat} (h : TLie w lo hi t ra rc wa wc) {a : Addr} (ha : a.block < lo) (u : Value) : TLie (w.setCell a u) lo hi t ra rc wa wc := by
 obtain ⟨m, p, q, h1, h2⟩ := h.ex
 exact ⟨m, p, q, h1.set ha u, h2.set (Nat.lt_of_lt_of_le ha p) u⟩
theorem TLie.mono {w : World} {lo lo' hi hi' : Nat} {t : Tx} {ra wa : Option Addr} {rc wc : Nat} (h : TLie w lo hi t ra rc wa wc) (h1 : lo' ≤ lo) (h2 : hi ≤ hi') : TLie w lo' hi' t ra rc wa wc := by
 obtain ⟨m, p, q, k1, k2⟩ := h.ex
 exact ⟨m, Nat.le_trans h1 p, Nat.le_trans q h2, k1.mono h1 (Nat.le_refl _), k2.mono (Nat.le_refl _) h2⟩
structure TArg (w : World) (t : Tx) (ra wa : Option Addr) : Prop where
 rl : t.rs.length ≤ maxLen
 rf : ∀ x ∈ t.rs, x.1.size ≤ maxLen ∧ x.2.size ≤ maxLen
 wl : t.ws.length ≤ maxLen
 wf : ∀ x ∈ t.ws, x.1.size ≤ maxLen ∧ x.2.1.size ≤ maxLen
 nm : t.nm.size ≤ maxLen
 row : TRow w t ra wa

set_option maxRecDepth 100000 in
set_option maxHeartbeats 2000000 in
theorem szT (t : Tx) (ra wa : Option Addr) (rc wc : Nat) (L : Int) (h0 : 0 ≤ L) (h1 : L ≤ 1048576) (w : World) (hp : TArg w t ra wa) :
  Calls Tryz.prog 25 #[.agg #[.int .i64 t.id, .int .i64 t.st, .int .i64 t.snap, .int .i64 t.cs, .slice ra t.rs.length rc, .slice wa t.ws.length wc, .bool t.out, .string t.nm], .int .i64 L] w fun e w' => Below w.heap.size w w' ∧ ∃ r : Int, e = .returned (.int .i64 r) ∧ r ≤ 1048576 ∧ (0 ≤ r → TFit t) := by
 have HP : Hid (TArg w t ra wa) := hp
 have hnm := hp.nm
 unfold maxLen at hnm
 clear hp
 have BX0 : Hid (Bx (w.alloc (.cells #[.int .i64 t.id, .int .i64 t.st, .int .i64 t.snap, .int .i64 t.cs, .slice ra t.rs.length rc, .slice wa t.ws.length wc, .bool t.out, .string t.nm] 81)) w.heap.size [.int .i64 t.id, .int .i64 t.st, .int .i64 t.snap, .int .i64 t.cs, .slice ra t.rs.length rc, .slice wa t.ws.length wc, .bool t.out, .string t.nm]) := Bx.new w [.int .i64 t.id, .int .i64 t.st, .int .i64 t.snap, .int .i64 t.cs, .slice ra t.rs.length rc, .slice wa t.ws.length wc, .bool t.out, .string t.nm] 81
 have HB0 : Hid (Below w.heap.size w (w.alloc (.cells #[.int .i64 t.id, .int .i64 t.st, .int .i64 t.snap, .int .i64 t.cs, .slice ra t.rs.length rc, .slice wa t.ws.length wc, .bool t.out, .string t.nm] 81))) := (belowRefl w).alloc (Nat.le_refl _) _
 go_enter Tryz.func25, Tryz.ntmps25
 go_wp2_with fail
 refine (szSR t.rs ra rc HP.out.rl HP.out.rf L h0 h1 _ (HP.out.row.r.below HB0.out)).mono ?_
 rintro e w1 ⟨hb1, r0, rfl, hu0, hr0⟩
 have HR0 : Hid (0 ≤ r0 → t.rs.length ≤ 1048576 ∧ RFit t.rs) := hr0
 have HB1 : Hid (Below w.heap.size w w1) := HB0.out.trans (hb1.mono HB0.out.size)
 have BX1 : Hid (Bx w1 w.heap.size [.int .i64 t.id, .int .i64 t.st, .int .i64 t.snap, .int .i64 t.cs, .slice ra t.rs.length rc, .slice wa t.ws.length wc, .bool t.out, .string t.nm]) := BX0.out.below hb1
 clear hb1 hr0
 by_cases hn0 : r0 < 0
 ·go_wp2
  go_ret
  exact ⟨HB1.out, -1, rfl, by omega, fun h => by omega⟩
 have x5 := BX1.out.c5
 go_wp2_with fail
 refine (szSW t.ws wa wc HP.out.wl HP.out.wf r0 (by omega) hu0 _ (HP.out.row.w.below HB1.out)).mono ?_
 rintro e w2 ⟨hb2, r1, rfl, hu1, hr1⟩
 have HR1 : Hid (0 ≤ r1 → t.ws.length ≤ 1048576 ∧ WFit t.ws) := hr1
 have HB2 : Hid (Below w.heap.size w w2) := HB1.out.trans (hb2.mono HB1.out.size)
 have BX2 : Hid (Bx w2 w.heap.size [.int .i64 t.id, .int .i64 t.st, .int .i64 t.snap, .int .i64 t.cs, .slice ra t.rs.length rc, .slice wa t.ws.length wc, .bool t.out, .string t.nm]) := BX1.out.below hb2
 clear hb2 hr1 x5
 by_cases hn1 : r1 < 0
 ·go_wp2
  go_ret
  exact ⟨HB2.out, -1, rfl, by omega, fun h => by omega⟩
 have x7 := BX2.out.c7
 have ew : IntKind.i64.wrap (r1 - (t.nm.size : Int)) = r1 - t.nm.size := by rw [IntKind.wrap_i64]; omega
 by_cases hn2 : r1 - (t.nm.size : Int) < 0
 ·go_wp2
  go_ret
  exact ⟨HB2.out, -1, rfl, by omega, fun h => by omega⟩
 ·have hn3 : ¬ r1 - (t.nm.size : Int) < 0 := hn2
  have HT : Hid (TFit t) := ⟨(HR0.out (by omega)).1, (HR0.out (by omega)).2, (HR1.out (by omega)).1, (HR1.out (by omega)).2, by omega⟩
  go_wp2
  go_ret
  exact ⟨HB2.out, _, rfl, by omega, fun _ => HT.out⟩

set_option maxRecDepth 100000 in
set_option maxHeartbeats 2000000 in
theorem toT (t : Tx) (ra wa : Option Addr) (rc wc : Nat) (hr : t.rs.length ≤ 100000000) (hw : t.ws.length ≤ 100000000) (w : World) (hp : TRow w t ra wa) :
  Calls Tryz.prog 34 #[.agg #[.int .i64 t.id, .int .i64 t.st, .int .i64 t.snap, .int .i64 t.cs, .slice ra t.rs.length rc, .slice wa t.ws.length wc, .bool t.out, .string t.nm]] w fun e w' => ∃ ra1 rc1 wa1 wc1, e = .returned (.agg #[.int .i64 t.id, .int .i64 t.st, .int .i64 t.snap, .int .i64 t.cs, .slice ra1 t.rs.length rc1, .slice wa1 t.ws.length wc1, .bool t.out, .string t.nm]) ∧ TLie w' w.heap.size w'.heap.size t ra1 rc1 wa1 wc1 ∧ Below w.heap.size w w' := by
 have HP : Hid (TRow w t ra wa) := hp
 clear hp
 have BA0 : Hid (Bx (((w.alloc (.cells #[.int .i64 t.id, .int .i64 t.st, .int .i64 t.snap, .int .i64 t.cs, .slice ra t.rs.length rc, .slice wa t.ws.length wc, .bool t.out, .string t.nm] 81)).alloc (.cells #[.int .i64 0, .int .i64 0, .int .i64 0, .int .i64 0, .slice none 0 0, .slice none 0 0, .bool false, .string ⟨#[]⟩] 62)).alloc (.cells #[.int .i64 t.id, .int .i64 t.st, .int .i64 t.snap, .int .i64 t.cs, .slice none 0 0, .slice none 0 0, .bool false, .string ⟨#[]⟩] 62)) w.heap.size [.int .i64 t.id, .int .i64 t.st, .int .i64 t.snap, .int .i64 t.cs, .slice ra t.rs.length rc, .slice wa t.ws.length wc, .bool t.out, .string t.nm]) := ((Bx.new w [.int .i64 t.id, .int .i64 t.st, .int .i64 t.snap, .int .i64 t.cs, .slice ra t.rs.length rc, .slice wa t.ws.length wc, .bool t.out, .string t.nm] 81).alloc _).alloc _
 have BR0 : Hid (Bx (((w.alloc (.cells #[.int .i64 t.id, .int .i64 t.st, .int .i64 t.snap, .int .i64 t.cs, .slice ra t.rs.length rc, .slice wa t.ws.length wc, .bool t.out, .string t.nm] 81)).alloc (.cells #[.int .i64 0, .int .i64 0, .int .i64 0, .int .i64 0, .slice none 0 0, .slice none 0 0, .bool false, .string ⟨#[]⟩] 62)).alloc (.cells #[.int .i64 t.id, .int .i64 t.st, .int .i64 t.snap, .int .i64 t.cs, .slice none 0 0, .slice none 0 0, .bool false, .string ⟨#[]⟩] 62)) (w.heap.size + 1) [.int .i64 0, .int .i64 0, .int .i64 0, .int .i64 0, .slice none 0 0, .slice none 0 0, .bool false, .string ⟨#[]⟩]) := by
  have h := (Bx.new (w.alloc (.cells #[.int .i64 t.id, .int .i64 t.st, .int .i64 t.snap, .int .i64 t.cs, .slice ra t.rs.length rc, .slice wa t.ws.length wc, .bool t.out, .string t.nm] 81)) [.int .i64 0, .int .i64 0, .int .i64 0, .int .i64 0, .slice none 0 0, .slice none 0 0, .bool false, .string ⟨#[]⟩] 62).alloc (.cells #[.int .i64 t.id, .int .i64 t.st, .int .i64 t.snap, .int .i64 t.cs, .slice none 0 0, .slice none 0 0, .bool false, .string ⟨#[]⟩] 62)
  rw [show (w.alloc (.cells #[.int .i64 t.id, .int .i64 t.st, .int .i64 t.snap, .int .i64 t.cs, .slice ra t.rs.length rc, .slice wa t.ws.length wc, .bool t.out, .string t.nm] 81)).heap.size = w.heap.size + 1 by simp] at h
  exact h
 have BO0 : Hid (Bx (((w.alloc (.cells #[.int .i64 t.id, .int .i64 t.st, .int .i64 t.snap, .int .i64 t.cs, .slice ra t.rs.length rc, .slice wa t.ws.length wc, .bool t.out, .string t.nm] 81)).alloc (.cells #[.int .i64 0, .int .i64 0, .int .i64 0, .int .i64 0, .slice none 0 0, .slice none 0 0, .bool false, .string ⟨#[]⟩] 62)).alloc (.cells #[.int .i64 t.id, .int .i64 t.st, .int .i64 t.snap, .int .i64 t.cs, .slice none 0 0, .slice none 0 0, .bool false, .string ⟨#[]⟩] 62)) (w.heap.size + 1 + 1) [.int .i64 t.id, .int .i64 t.st, .int .i64 t.snap, .int .i64 t.cs, .slice none 0 0, .slice none 0 0, .bool false, .string ⟨#[]⟩]) := by
  have h := Bx.new ((w.alloc (.cells #[.int .i64 t.id, .int .i64 t.st, .int .i64 t.snap, .int .i64 t.cs, .slice ra t.rs.length rc, .slice wa t.ws.length wc, .bool t.out, .string t.nm] 81)).alloc (.cells #[.int .i64 0, .int .i64 0, .int .i64 0, .int .i64 0, .slice none 0 0, .slice none 0 0, .bool false, .string ⟨#[]⟩] 62)) [.int .i64 t.id, .int .i64 t.st, .int .i64 t.snap, .int .i64 t.cs, .slice none 0 0, .slice none 0 0, .bool false, .string ⟨#[]⟩] 62
  rw [show ((w.alloc (.cells #[.int .i64 t.id, .int .i64 t.st, .int .i64 t.snap, .int .i64 t.cs, .slice ra t.rs.length rc, .slice wa t.ws.length wc, .bool t.out, .string t.nm] 81)).alloc (.cells #[.int .i64 0, .int .i64 0, .int .i64 0, .int .i64 0, .slice none 0 0, .slice none 0 0, .bool false, .string ⟨#[]⟩] 62)).heap.size = w.heap.size + 1 + 1 by simp] at h
  exact h
 have HB0 : Hid (Below w.heap.size w (((w.alloc (.cells #[.int .i64 t.id, .int .i64 t.st, .int .i64 t.snap, .int .i64 t.cs, .slice ra t.rs.length rc, .slice wa t.ws.length wc, .bool t.out, .string t.nm] 81)).alloc (.cells #[.int .i64 0, .int .i64 0, .int .i64 0, .int .i64 0, .slice none 0 0, .slice none 0 0, .bool false, .string ⟨#[]⟩] 62)).alloc (.cells #[.int .i64 t.id, .int .i64 t.st, .int .i64 t.snap, .int .i64 t.cs, .slice none 0 0, .slice none 0 0, .bool false, .string ⟨#[]⟩] 62))) := (((belowRefl w).alloc (Nat.le_refl _) _).alloc (by simp) _).alloc (by simp; omega) _
 have S0 : Hid ((((w.alloc (.cells #[.int .i64 t.id, .int .i64 t.st, .int .i64 t.snap, .int .i64 t.cs, .slice ra t.rs.length rc, .slice wa t.ws.length wc, .bool t.out, .string t.nm] 81)).alloc (.cells #[.int .i64 0, .int .i64 0, .int .i64 0, .int .i64 0, .slice none 0 0, .slice none 0 0, .bool false, .string ⟨#[]⟩] 62)).alloc (.cells #[.int .i64 t.id, .int .i64 t.st, .int .i64 t.snap, .int .i64 t.cs, .slice none 0 0, .slice none 0 0, .bool false, .string ⟨#[]⟩] 62)).heap.size = w.heap.size + 1 + 1 + 1) := by show _ = _; simp
 go_enter Tryz.func34, Tryz.ntmps34
 go_wp2_with fail
 refine (toSR t.rs ra rc hr _ (HP.out.r.below HB0.out)).mono ?_
 rintro e w1 ⟨ra1, rc1, rfl, hd1, hb1⟩
 rw [S0.out] at hd1
 have BA1 : Hid (Bx w1 w.heap.size [.int .i64 t.id, .int .i64 t.st, .int .i64 t.snap, .int .i64 t.cs, .slice ra t.rs.length rc, .slice wa t.ws.length wc, .bool t.out, .string t.nm]) := BA0.out.below hb1
 have BR1 : Hid (Bx w1 (w.heap.size + 1) [.int .i64 0, .int .i64 0, .int .i64 0, .int .i64 0, .slice none 0 0, .slice none 0 0, .bool false, .string ⟨#[]⟩]) := BR0.out.below hb1
 have BO1 : Hid (Bx w1 (w.heap.size + 1 + 1) [.int .i64 t.id, .int .i64 t.st, .int .i64 t.snap, .int .i64 t.cs, .slice none 0 0, .slice none 0 0, .bool false, .string ⟨#[]⟩]) := BO0.out.below hb1
 have HB1 : Hid (Below w.heap.size w w1) := HB0.out.trans (hb1.mono HB0.out.size)
 have Z1 : Hid (w.heap.size + 1 + 1 + 1 ≤ w1.heap.size) := by show _ ≤ _; rw [← S0.out]; exact hb1.size
 have L1 : Hid (Lies encR 156 w1 (w.heap.size + 1 + 1 + 1) w1.heap.size (.slice ra1 t.rs.length rc1) t.rs) := Lies.of hd1
 clear hb1 hd1 BA0 BR0 BO0 HB0 S0
 have x5 := BA1.out.c5
 have o4 := BO1.out.c4
 have f4 := BO1.out.fz 4
 go_wp2_with fail
 clear x5 o4 f4
 have BA1' : Hid (Bx (w1.setCell ⟨w.heap.size + 1 + 1, 4, none⟩ (.slice ra1 t.rs.length rc1)) w.heap.size [.int .i64 t.id, .int .i64 t.st, .int .i64 t.snap, .int .i64 t.cs, .slice ra t.rs.length rc, .slice wa t.ws.length wc, .bool t.out, .string t.nm]) := BA1.out.setO (by show w.heap.size + 1 + 1 ≠ w.heap.size; omega) _
 have BR1' : Hid (Bx (w1.setCell ⟨w.heap.size + 1 + 1, 4, none⟩ (.slice ra1 t.rs.length rc1)) (w.heap.size + 1) [.int .i64 0, .int .i64 0, .int .i64 0, .int .i64 0, .slice none 0 0, .slice none 0 0, .bool false, .string ⟨#[]⟩]) := BR1.out.setO (by show w.heap.size + 1 + 1 ≠ w.heap.size + 1; omega) _
 have BO1' : Hid (Bx (w1.setCell ⟨w.heap.size + 1 + 1, 4, none⟩ (.slice ra1 t.rs.length rc1)) (w.heap.size + 1 + 1) [.int .i64 t.id, .int .i64 t.st, .int .i64 t.snap, .int .i64 t.cs, .slice ra1 t.rs.length rc1, .slice none 0 0, .bool false, .string ⟨#[]⟩]) := BO1.out.set 4 _
 have HB1' : Hid (Below w.heap.size w (w1.setCell ⟨w.heap.size + 1 + 1, 4, none⟩ (.slice ra1 t.rs.length rc1))) := HB1.out.setCell (by show _ ≤ _ + 1 + 1; omega) _
 have L1' : Hid (Lies encR 156 (w1.setCell ⟨w.heap.size + 1 + 1, 4, none⟩ (.slice ra1 t.rs.length rc1)) (w.heap.size + 1 + 1 + 1) w1.heap.size (.slice ra1 t.rs.length rc1) t.rs) := L1.out.set (by show _ + 1 + 1 < _; omega) _
 have Z1' : Hid ((w1.setCell ⟨w.heap.size + 1 + 1, 4, none⟩ (.slice ra1 t.rs.length rc1)).heap.size = w1.heap.size) := by show _ = _; simp [World.setCell]
 refine (toSW t.ws wa wc hw _ (HP.out.w.below HB1'.out)).mono ?_
 rintro e w2 ⟨wa1, wc1, rfl, hd2, hb2⟩
 rw [Z1'.out] at hd2
 have BA2 : Hid (Bx w2 w.heap.size [.int .i64 t.id, .int .i64 t.st, .int .i64 t.snap, .int .i64 t.cs, .slice ra t.rs.length rc, .slice wa t.ws.length wc, .bool t.out, .string t.nm]) := BA1'.out.below hb2
 have BR2 : Hid (Bx w2 (w.heap.size + 1) [.int .i64 0, .int .i64 0, .int .i64 0, .int .i64 0, .slice none 0 0, .slice none 0 0, .bool false, .string ⟨#[]⟩]) := BR1'.out.below hb2
 have BO2 : Hid (Bx w2 (w.heap.size + 1 + 1) [.int .i64 t.id, .int .i64 t.st, .int .i64 t.snap, .int .i64 t.cs, .slice ra1 t.rs.length rc1, .slice none 0 0, .bool false, .string ⟨#[]⟩]) := BO1'.out.below hb2
 have HB2 : Hid (Below w.heap.size w w2) := HB1'.out.trans (hb2.mono HB1'.out.size)
 have Z2 : Hid (w1.heap.size ≤ w2.heap.size) := by show _ ≤ _; rw [← Z1'.out]; exact hb2.size
 have L2 : Hid (TLie w2 (w.heap.size + 1 + 1 + 1) w2.heap.size t ra1 rc1 wa1 wc1) := ⟨w1.heap.size, Z1.out, Z2.out, L1'.out.below hb2, Lies.of hd2⟩
 clear hb2 hd2 BA1 BR1 BO1 HB1 BA1' BR1' BO1' HB1' L1 L1' Z1'
 have x6 := BA2.out.c6
 have x7 := BA2.out.c7
 have o0 := BO2.out.c0
 have fo0 := BO2.out.fz 0
 have q0 := BR2.out.c0
 have fq0 := BR2.out.fz 0
 have o1 := BO2.out.c1
 have fo1 := BO2.out.fz 1
 have q1 := BR2.out.c1
 have fq1 := BR2.out.fz 1
 have o2 := BO2.out.c2
 have fo2 := BO2.out.fz 2
 have q2 := BR2.out.c2
 have fq2 := BR2.out.fz 2
 have o3 := BO2.out.c3
 have fo3 := BO2.out.fz 3
 have q3 := BR2.out.c3
 have fq3 := BR2.out.fz 3
 have o4 := BO2.out.c4
 have fo4 := BO2.out.fz 4
 have q4 := BR2.out.c4
 have fq4 := BR2.out.fz 4
 have o5 := BO2.out.c5
 have fo5 := BO2.out.fz 5
 have q5 := BR2.out.c5
 have fq5 := BR2.out.fz 5
 have o6 := BO2.out.c6
 have fo6 := BO2.out.fz 6
 have q6 := BR2.out.c6
 have fq6 := BR2.out.fz 6
 have o7 := BO2.out.c7
 have fo7 := BO2.out.fz 7
 have q7 := BR2.out.c7
 have fq7 := BR2.out.fz 7
 go_wp2
 refine bodyPost_ret (v := .agg #[.int .i64 t.id, .int .i64 t.st, .int .i64 t.snap, .int .i64 t.cs, .slice ra1 t.rs.length rc1, .slice wa1 t.ws.length wc1, .bool t.out, .string t.nm]) (by simp [results, Tryz.results34, go_sem, q0, q1, q2, q3, q4, q5, q6, q7]) rfl ⟨ra1, rc1, wa1, wc1, rfl, ?_, ?_⟩
 ·exact (((((((((((L2.out.set (by show _ + 1 + 1 < _; omega) _).set (by show _ + 1 + 1 < _; omega) _).set (by show _ + 1 + 1 < _; omega) _).set (by show _ + 1 < _; omega) _).set (by show _ + 1 < _; omega) _).set (by show _ + 1 < _; omega) _).set (by show _ + 1 < _; omega) _).set (by show _ + 1 < _; omega) _).set (by show _ + 1 < _; omega) _).set (by show _ + 1 < _; omega) _).set (by show _ + 1 < _; omega) _).mono (by omega) (by simp [World.setCell])
 ·exact (((((((((((HB2.out.setCell (by show _ ≤ _ + 1 + 1; omega) _).setCell (by show _ ≤ _ + 1 + 1; omega) _).setCell (by show _ ≤ _ + 1 + 1; omega) _).setCell (by show _ ≤ _ + 1; omega) _).setCell (by show _ ≤ _ + 1; omega) _).setCell (by show _ ≤ _ + 1; omega) _).setCell (by show _ ≤ _ + 1; omega) _).setCell (by show _ ≤ _ + 1; omega) _).setCell (by show _ ≤ _ + 1; omega) _).setCell (by show _ ≤ _ + 1; omega) _).setCell (by show _ ≤ _ + 1; omega) _)

set_option maxRecDepth 100000 in
set_option maxHeartbeats 2000000 in
theorem eqT (t : Tx) (ra wa ra2 wa2 : Option Addr) (rc wc rc2 wc2 : Nat) (hr : t.rs.length ≤ 100000000) (hw : t.ws.length ≤ 100000000) (w : World) (hp : TRow w t ra wa) (hq : TRow w t ra2 wa2) :
  Calls Tryz.prog 44 #[.agg #[.int .i64 t.id, .int .i64 t.st, .int .i64 t.snap, .int .i64 t.cs, .slice ra t.rs.length rc, .slice wa t.ws.length wc, .bool t.out, .string t.nm], .agg #[.int .i64 t.id, .int .i64 t.st, .int .i64 t.snap, .int .i64 t.cs, .slice ra2 t.rs.length rc2, .slice wa2 t.ws.length wc2, .bool t.out, .string t.nm]] w fun e w' => e = .returned (.bool true) ∧ Below w.heap.size w w' := by
 have HP : Hid (TRow w t ra wa) := hp
 have HQ : Hid (TRow w t ra2 wa2) := hq
 clear hp hq
 have n0 := ne_self_int t.id
 have n1 := ne_self_int t.st
 have n2 := ne_self_int t.snap
 have n3 := ne_self_int t.cs
 have n6 := bne_self' t.out
 have BA0 : Hid (Bx ((w.alloc (.cells #[.int .i64 t.id, .int .i64 t.st, .int .i64 t.snap, .int .i64 t.cs, .slice ra t.rs.length rc, .slice wa t.ws.length wc, .bool t.out, .string t.nm] 62)).alloc (.cells #[.int .i64 t.id, .int .i64 t.st, .int .i64 t.snap, .int .i64 t.cs, .slice ra2 t.rs.length rc2, .slice wa2 t.ws.length wc2, .bool t.out, .string t.nm] 62)) w.heap.size [.int .i64 t.id, .int .i64 t.st, .int .i64 t.snap, .int .i64 t.cs, .slice ra t.rs.length rc, .slice wa t.ws.length wc, .bool t.out, .string t.nm]) := (Bx.new w [.int .i64 t.id, .int .i64 t.st, .int .i64 t.snap, .int .i64 t.cs, .slice ra t.rs.length rc, .slice wa t.ws.length wc, .bool t.out, .string t.nm] 62).alloc _
 have BB0 : Hid (Bx ((w.alloc (.cells #[.int .i64 t.id, .int .i64 t.st, .int .i64 t.snap, .int .i64 t.cs, .slice ra t.rs.length rc, .slice wa t.ws.length wc, .bool t.out, .string t.nm] 62)).alloc (.cells #[.int .i64 t.id, .int .i64 t.st, .int .i64 t.snap, .int .i64 t.cs, .slice ra2 t.rs.length rc2, .slice wa2 t.ws.length wc2, .bool t.out, .string t.nm] 62)) (w.heap.size + 1) [.int .i64 t.id, .int .i64 t.st, .int .i64 t.snap, .int .i64 t.cs, .slice ra2 t.rs.length rc2, .slice wa2 t.ws.length wc2, .bool t.out, .string t.nm]) := by
  have h := Bx.new (w.alloc (.cells #[.int .i64 t.id, .int .i64 t.st, .int .i64 t.snap, .int .i64 t.cs, .slice ra t.rs.length rc, .slice wa t.ws.length wc, .bool t.out, .string t.nm] 62)) [.int .i64 t.id, .int .i64 t.st, .int .i64 t.snap, .int .i64 t.cs, .slice ra2 t.rs.length rc2, .slice wa2 t.ws.length wc2, .bool t.out, .string t.nm] 62
  rw [show (w.alloc (.cells #[.int .i64 t.id, .int .i64 t.st, .int .i64 t.snap, .int .i64 t.cs, .slice ra t.rs.length rc, .slice wa t.ws.length wc, .bool t.out, .string t.nm] 62)).heap.size = w.heap.size + 1 by simp] at h
  exact h
 have HB0 : Hid (Below w.heap.size w ((w.alloc (.cells #[.int .i64 t.id, .int .i64 t.st, .int .i64 t.snap, .int .i64 t.cs, .slice ra t.rs.length rc, .slice wa t.ws.length wc, .bool t.out, .string t.nm] 62)).alloc (.cells #[.int .i64 t.id, .int .i64 t.st, .int .i64 t.snap, .int .i64 t.cs, .slice ra2 t.rs.length rc2, .slice wa2 t.ws.length wc2, .bool t.out, .string t.nm] 62))) := ((belowRefl w).alloc (Nat.le_refl _) _).alloc (by simp) _
 go_enter Tryz.func44, Tryz.ntmps44
 go_wp2_with fail
 refine (eqSR ra ra2 rc rc2 t.rs hr _ (HP.out.r.below HB0.out) (HQ.out.r.below HB0.out)).mono ?_
 rintro e w1 ⟨rfl, hb1⟩
 have BA1 : Hid (Bx w1 w.heap.size [.int .i64 t.id, .int .i64 t.st, .int .i64 t.snap, .int .i64 t.cs, .slice ra t.rs.length rc, .slice wa t.ws.length wc, .bool t.out, .string t.nm]) := BA0.out.below hb1
 have BB1 : Hid (Bx w1 (w.heap.size + 1) [.int .i64 t.id, .int .i64 t.st, .int .i64 t.snap, .int .i64 t.cs, .slice ra2 t.rs.length rc2, .slice wa2 t.ws.length wc2, .bool t.out, .string t.nm]) := BB0.out.below hb1
 have HB1 : Hid (Below w.heap.size w w1) := HB0.out.trans (hb1.mono HB0.out.size)
 clear hb1 BA0 BB0 HB0
 have x5 := BA1.out.c5
 have y5 := BB1.out.c5
 go_wp2_with fail
 refine (eqSW wa wa2 wc wc2 t.ws hw _ (HP.out.w.below HB1.out) (HQ.out.w.below HB1.out)).mono ?_
 rintro e w2 ⟨rfl, hb2⟩
 have BA2 : Hid (Bx w2 w.heap.size [.int .i64 t.id, .int .i64 t.st, .int .i64 t.snap, .int .i64 t.cs, .slice ra t.rs.length rc, .slice wa t.ws.length wc, .bool t.out, .string t.nm]) := BA1.out.below hb2
 have BB2 : Hid (Bx w2 (w.heap.size + 1) [.int .i64 t.id, .int .i64 t.st, .int .i64 t.snap, .int .i64 t.cs, .slice ra2 t.rs.length rc2, .slice wa2 t.ws.length wc2, .bool t.out, .string t.nm]) := BB1.out.below hb2
 have HB2 : Hid (Below w.heap.size w w2) := HB1.out.trans (hb2.mono HB1.out.size)
 clear hb2 BA1 BB1 HB1 x5 y5
 have x6 := BA2.out.c6
 have y6 := BB2.out.c6
 have x7 := BA2.out.c7
 have y7 := BB2.out.c7
 go_wp2
 go_ret
 exact ⟨rfl, HB2.out⟩
end Go.Proofs.YtmijppfppigjcaaGreat

namespace Go.Proofs.YtmijppfppigjcaaGreat
open Go.RowKit
open KM
attribute [local go_sem ↓] Go.wp_at_zero Go.wp_at_succ

theorem TRow.drewT {w : World} {t : Tx} {ra wa : Option Addr} (h : TRow w t ra wa) : TRow w.drew t ra wa := ⟨h.r.drew, h.w.drew⟩
end Go.Proofs.YtmijppfppigjcaaGreat

namespace Go.Proofs.YtmijppfppigjcaaGreat
open Go.RowKit
open KM
attribute [local go_sem ↓] Go.wp_at_zero Go.wp_at_succ

structure Ta where
 t : Tx
 ra : Option Addr
 rc : Nat
 wa : Option Addr
 wc : Nat
def someTa : Ta := ⟨⟨0, 0, 0, 0, [], [], false, ByteArray.empty⟩, none, 0, none, 0⟩
def encT : Enc Ta := ⟨fun x => [.int .i64 x.t.id, .int .i64 x.t.st, .int .i64 x.t.snap, .int .i64 x.t.cs, .slice x.ra x.t.rs.length x.rc, .slice x.wa x.t.ws.length x.wc, .bool x.t.out, .string x.t.nm], 8, by decide, fun _ => rfl⟩
theorem Tryz.info62 : (Tryz.prog.info? 62).map (fun i => (i.zero, i.size, i.bytes)) = some (some (.agg #[.int .i64 0, .int .i64 0, .int .i64 0, .int .i64 0, .slice none 0 0, .slice none 0 0, .bool false, .string ByteArray.empty]), 8, 104) := by kernel_rfl
structure Cls (w : World) (b o : Nat) (x : Ta) : Prop where
 c0 : w.cell? ⟨b, o, none⟩ = some (.int .i64 x.t.id)
 c1 : w.cell? ⟨b, o + 1, none⟩ = some (.int .i64 x.t.st)
 c2 : w.cell? ⟨b, o + 2, none⟩ = some (.int .i64 x.t.snap)
 c3 : w.cell? ⟨b, o + 3, none⟩ = some (.int .i64 x.t.cs)
 c4 : w.cell? ⟨b, o + 4, none⟩ = some (.slice x.ra x.t.rs.length x.rc)
 c5 : w.cell? ⟨b, o + 5, none⟩ = some (.slice x.wa x.t.ws.length x.wc)
 c6 : w.cell? ⟨b, o + 6, none⟩ = some (.bool x.t.out)
 c7 : w.cell? ⟨b, o + 7, none⟩ = some (.string x.t.nm)
theorem tat {w : World} {b off : Nat} {xs : List Ta} (hc : ∀ j (hj : j < xs.length) i, i < encT.size → w.cell? ⟨b, off + j * encT.size + i, none⟩ = (encT.enc xs[j])[i]?) (j : Nat) (hj : j < xs.length) : Cls w b (off + j * 8) xs[j] :=
 ⟨by simpa [encT] using hc j hj 0 (by decide), by simpa [encT] using hc j hj 1 (by decide), by simpa [encT] using hc j hj 2 (by decide), by simpa [encT] using hc j hj 3 (by decide), by simpa [encT] using hc j hj 4 (by decide), by simpa [encT] using hc j hj 5 (by decide), by simpa [encT] using hc j hj 6 (by decide), by simpa [encT] using hc j hj 7 (by decide)⟩
structure TRows (w : World) (a : Option Addr) (xs : List Ta) : Prop where
 row : GRow encT w a xs
 each : ∀ x ∈ xs, TRow w x.t x.ra x.wa
theorem TRows.below {w w' : World} {a : Option Addr} {xs : List Ta} (h : TRows w a xs) (hb : Below w.heap.size w w') : TRows w' a xs := ⟨h.row.below hb, fun x hx => (h.each x hx).below hb⟩
theorem TRows.cls {w : World} {a : Option Addr} {xs : List Ta} (h : TRows w a xs) (k : Nat) (hk : k < xs.length) : ∃ b off, a = some ⟨b, off, none⟩ ∧ b < w.heap.size ∧ Cls w b (off + k * 8) xs[k] ∧ TRow w xs[k].t xs[k].ra xs[k].wa := by
 obtain ⟨b, off, rfl, hbl, hc⟩ := h.row (by omega)
 exact ⟨b, off, rfl, hbl, tat hc k hk, h.each _ (List.getElem_mem hk)⟩
structure LArg (w : World) (a : Option Addr) (xs : List Ta) : Prop where
 len : xs.length ≤ maxLen
 each : ∀ x ∈ xs, TArg w x.t x.ra x.wa
 row : GRow encT w a xs
theorem LArg.rows {w : World} {a : Option Addr} {xs : List Ta} (h : LArg w a xs) : TRows w a xs := ⟨h.row, fun x hx => (h.each x hx).row⟩
theorem TArg.below {w w' : World} {t : Tx} {ra wa : Option Addr} (h : TArg w t ra wa) (hb : Below w.heap.size w w') : TArg w' t ra wa := ⟨h.rl, h.rf, h.wl, h.wf, h.nm, h.row.below hb⟩
theorem LArg.below {w w' : World} {a : Option Addr} {xs : List Ta} (h : LArg w a xs) (hb : Below w.heap.size w w') : LArg w' a xs := ⟨h.len, fun x hx => (h.each x hx).below hb, h.row.below hb⟩
def LFit (ts : List Tx) : Prop := ts.length ≤ 1048576 ∧ ∀ t ∈ ts, TFit t
def txs (xs : List Ta) : List Tx := xs.map (·.t)
theorem txs_len (xs : List Ta) : (txs xs).length = xs.length := by simp [txs]

set_option maxRecDepth 100000 in
set_option maxHeartbeats 2000000 in
theorem szL (xs : List Ta) (a : Option Addr) (c : Nat) (L : Int) (h0 : 0 ≤ L) (h1 : L ≤ 1048576) (w : World) (hp : LArg w a xs) :
  Calls Tryz.prog 10 #[.slice a xs.length c, .int .i64 L] w fun e w' => Below w.heap.size w w' ∧ ∃ r : Int, e = .returned (.int .i64 r) ∧ r ≤ 1048576 ∧ (0 ≤ r → LFit (txs xs)) := by
 have HP : Hid (LArg w a xs) := hp
 have hn := hp.len
 clear hp
 unfold maxLen at hn
 by_cases hneg : L - (xs.length : Int) < 0
 ·go_enter Tryz.func10, Tryz.ntmps10
  go_wp2
  go_ret
  exact ⟨belowRefl w, -1, rfl, by omega, fun h => by omega⟩
 ·have hneg' : decide (L - (xs.length : Int) < 0) = false := by simpa using hneg
  go_enter Tryz.func10, Tryz.ntmps10
  go_wp2
  go_loopw [1, 5] (fun tl t wr => ∃ (k : Nat) (l : Int), k ≤ xs.length ∧ t = .int .i64 k ∧ tl = .int .i64 l ∧ 0 ≤ l ∧ l ≤ 1048576 ∧ Hid (∀ j (hj : j < xs.length), j < k → TFit xs[j].t) ∧ Hid (Below w.heap.size w wr)) (fun _ t _ => xs.length - (intOf t).toNat)
  case atStart => exact ⟨0, L - (xs.length : Int), Nat.zero_le _, rfl, rfl, by omega, by omega, fun j hj h => by omega, belowRefl w⟩
  case round =>
   obtain ⟨k, l, hk, rfl, rfl, hl0, hl1, HA, HB⟩ := hrel
   by_cases hlt : k < xs.length
   ·have hlt' : (k : Int) < (xs.length : Int) := by omega
    have hk0 : (0 : Int) ≤ (k : Int) := by omega
    have HR0 := hide (HP.out.below HB.out)
    obtain ⟨b, off, rfl, hbl, hc, -⟩ := HR0.out.rows.cls k hlt
    obtain ⟨x, hx⟩ : ∃ x, x = xs[k] := ⟨_, rfl⟩
    rw [← hx] at hc
    have HX : Hid (x = xs[k]) := hx
    have HT : Hid (TArg wr x.t x.ra x.wa) := by rw [hx]; exact HR0.out.each _ (List.getElem_mem hlt)
    clear hx
    have r0 := hc.c0
    have r1 := hc.c1
    have r2 := hc.c2
    have r3 := hc.c3
    have r4 := hc.c4
    have r5 := hc.c5
    have r6 := hc.c6
    have r7 := hc.c7
    clear hc
    go_wp2_with fail
    refine (szT x.t x.ra x.wa x.rc x.wc l hl0 hl1 _ HT.out).mono ?_
    rintro e w2 ⟨hb2, r, rfl, hr1, hr⟩
    have HB2 : Hid (Below w.heap.size w w2) := HB.out.trans (hb2.mono HB.out.size)
    have HF : Hid (0 ≤ r → TFit x.t) := hr
    clear hb2 hr r0 r1 r2 r3 r4 r5 r6 r7
    by_cases hn2 : r < 0
    ·go_wp2
     go_ret
     exact ⟨HB2.out, -1, rfl, by omega, fun h => by omega⟩
    ·have hn3 : ¬ r < 0 := hn2
     have HA2 : Hid (∀ j (hj : j < xs.length), j < k + 1 → TFit xs[j].t) := fun j hj h => by
      by_cases e : j = k
      ·subst e; rw [← HX.out]; exact HF.out (by omega)
      ·exact HA.out j hj (by omega)
     have hr0 : 0 ≤ r := by omega
     clear hn2
     go_wp2
     go_roundw
     case rel => exact ⟨k + 1, r, by omega, by go_num, rfl, hr0, hr1, HA2, HB2⟩
     case measure => simp [intOf]; omega
   ·have hlt' : ¬ (k : Int) < (xs.length : Int) := by omega
    have HA2 : Hid (LFit (txs xs)) := ⟨by rw [txs_len]; omega, fun s hs => by
     obtain ⟨y, hy, rfl⟩ := List.mem_map.1 hs
     obtain ⟨j, hj, rfl⟩ := List.getElem_of_mem hy
     exact HA.out j hj (by omega)⟩
    go_wp2
    go_ret
    exact ⟨HB.out, l, rfl, hl1, fun _ => HA2.out⟩

end Go.Proofs.YtmijppfppigjcaaGreat

namespace Go.Proofs.YtmijppfppigjcaaGreat
open Go.RowKit
open KM
attribute [local go_sem ↓] Go.wp_at_zero Go.wp_at_succ

theorem mkRow8 (T e size bytes : Nat) (z : Value) (hT : Tryz.prog.underlying T = some (.slice e))
  (hinfo : (Tryz.prog.info? e).map (fun i => (i.zero, i.size, i.bytes)) = some (some z, size, bytes)) (n : Nat) (hn : n ≤ 100000000) (hby : bytes ≤ 128) (w : World) :
  (Instr.makeSlice T (.int .i64 (n : Int)) (.int .i64 (n : Int))).run Tryz.prog w = .ok (.slice (some ⟨w.heap.size, 0, none⟩) n n) (w.alloc (.cells (madeCells z.cells (n * size)) e)) := by
 obtain ⟨i0, hi, hz0, hz1, hz2⟩ := info_parts hinfo
 have hb : (bytes : Int) * (n : Int) ≤ 281474976710656 := by
  have h : bytes * n ≤ 128 * 100000000 := Nat.mul_le_mul hby hn
  have h2 : ((bytes * n : Nat) : Int) ≤ 281474976710656 := by omega
  rwa [Int.natCast_mul] at h2
 have h := run_make (P := Tryz.prog) w T e i0 z hT hi hz0 .i64 .i64 n n (by omega) (Int.le_refl _) (by rw [hz2]; exact hb) (by omega)
 rw [hz1] at h
 simpa using h

set_option maxRecDepth 100000 in
set_option maxHeartbeats 2000000 in
theorem eqL (xs ys : List Ta) (a1 a2 : Option Addr) (c1 c2 n : Nat) (hx : n = xs.length) (hy : n = ys.length) (hn : n ≤ 100000000) (ht : txs xs = txs ys) (hf : LFit (txs xs)) (w : World) (h1 : TRows w a1 xs) (h2 : TRows w a2 ys) :
  Calls Tryz.prog 20 #[.slice a1 n c1, .slice a2 n c2] w fun e w' => e = .returned (.bool true) ∧ Below w.heap.size w w' := by
 have H1 : Hid (TRows w a1 xs) := h1
 have H2 : Hid (TRows w a2 ys) := h2
 have HT : Hid (txs xs = txs ys) := ht
 have HF : Hid (LFit (txs xs)) := hf
 have HX : Hid (n = xs.length) := hx
 have HY : Hid (n = ys.length) := hy
 clear h1 h2 ht hf hx hy
 go_enter Tryz.func20, Tryz.ntmps20
 go_wp2
 go_loopw [5] (fun t wr => ∃ k : Nat, k ≤ n ∧ t = .int .i64 k ∧ Hid (Below w.heap.size w wr)) (fun t _ => n - (intOf t).toNat)
 case atStart => exact ⟨0, Nat.zero_le _, rfl, Below.refl _ _⟩
 case round =>
  obtain ⟨k, hk, rfl, HB⟩ := hrel
  by_cases hlt : k < n
  ·have hlt' : (k : Int) < (n : Int) := by omega
   have h0 : (0 : Int) ≤ (k : Int) := by omega
   have hkx : k < xs.length := by rw [← HX.out]; exact hlt
   have hky : k < ys.length := by rw [← HY.out]; exact hlt
   obtain ⟨b1, o1, rfl, hl1, q1, u1⟩ := (H1.out.below HB.out).cls k hkx
   obtain ⟨b2, o2, rfl, hl2, q2, u2⟩ := (H2.out.below HB.out).cls k hky
   have et : xs[k].t = ys[k].t := by
    have h := congrArg (fun l : List Tx => l[k]?) HT.out
    simpa [txs, List.getElem?_eq_getElem hkx, List.getElem?_eq_getElem hky] using h
   have hfx : TFit xs[k].t := HF.out.2 _ (List.mem_map.2 ⟨_, List.getElem_mem hkx, rfl⟩)
   obtain ⟨x, hx⟩ : ∃ x, x = xs[k] := ⟨_, rfl⟩
   obtain ⟨y, hy⟩ : ∃ y, y = ys[k] := ⟨_, rfl⟩
   rw [← hx] at q1 u1 et hfx
   rw [← hy] at q2 u2 et
   clear hx hy
   have HE : Hid (∀ W : World, TRow W x.t x.ra x.wa → TRow W x.t y.ra y.wa → Calls Tryz.prog 44 #[.agg #[.int .i64 x.t.id, .int .i64 x.t.st, .int .i64 x.t.snap, .int .i64 x.t.cs, .slice x.ra x.t.rs.length x.rc, .slice x.wa x.t.ws.length x.wc, .bool x.t.out, .string x.t.nm], .agg #[.int .i64 y.t.id, .int .i64 y.t.st, .int .i64 y.t.snap, .int .i64 y.t.cs, .slice y.ra y.t.rs.length y.rc, .slice y.wa y.t.ws.length y.wc, .bool y.t.out, .string y.t.nm]] W fun e w' => e = .returned (.bool true) ∧ Below W.heap.size W w') := by
    intro W g1 g2
    rw [← et]
    exact eqT x.t x.ra x.wa y.ra y.wa x.rc x.wc y.rc y.wc (Nat.le_trans hfx.1 (by omega)) (Nat.le_trans hfx.2.2.1 (by omega)) W g1 g2
   have U1 : Hid (TRow wr x.t x.ra x.wa) := u1
   have U2 : Hid (TRow wr x.t y.ra y.wa) := by rw [et]; exact u2
   have hHd : wr.cell? ⟨b1, o1 + k * 8, none⟩ = some (.int .i64 x.t.id) ∧ wr.cell? ⟨b1, o1 + k * 8 + 1, none⟩ = some (.int .i64 x.t.st) ∧ wr.cell? ⟨b1, o1 + k * 8 + 2, none⟩ = some (.int .i64 x.t.snap) ∧ wr.cell? ⟨b1, o1 + k * 8 + 3, none⟩ = some (.int .i64 x.t.cs) ∧ wr.cell? ⟨b1, o1 + k * 8 + 4, none⟩ = some (.slice x.ra x.t.rs.length x.rc) ∧ wr.cell? ⟨b1, o1 + k * 8 + 5, none⟩ = some (.slice x.wa x.t.ws.length x.wc) ∧ wr.cell? ⟨b1, o1 + k * 8 + 6, none⟩ = some (.bool x.t.out) ∧ wr.cell? ⟨b1, o1 + k * 8 + 7, none⟩ = some (.string x.t.nm) ∧ wr.cell? ⟨b2, o2 + k * 8, none⟩ = some (.int .i64 y.t.id) ∧ wr.cell? ⟨b2, o2 + k * 8 + 1, none⟩ = some (.int .i64 y.t.st) ∧ wr.cell? ⟨b2, o2 + k * 8 + 2, none⟩ = some (.int .i64 y.t.snap) ∧ wr.cell? ⟨b2, o2 + k * 8 + 3, none⟩ = some (.int .i64 y.t.cs) ∧ wr.cell? ⟨b2, o2 + k * 8 + 4, none⟩ = some (.slice y.ra y.t.rs.length y.rc) ∧ wr.cell? ⟨b2, o2 + k * 8 + 5, none⟩ = some (.slice y.wa y.t.ws.length y.wc) ∧ wr.cell? ⟨b2, o2 + k * 8 + 6, none⟩ = some (.bool y.t.out) ∧ wr.cell? ⟨b2, o2 + k * 8 + 7, none⟩ = some (.string y.t.nm) := ⟨q1.c0, q1.c1, q1.c2, q1.c3, q1.c4, q1.c5, q1.c6, q1.c7, q2.c0, q2.c1, q2.c2, q2.c3, q2.c4, q2.c5, q2.c6, q2.c7⟩
   have Q1 := hide q1
   have Q2 := hide q2
   clear q1 q2 u1 u2 et hfx hkx hky
   have HB0 := hide HB.out
   go_wp2
   refine wp_region_held_drew (S := fun w' => w'.cell? ⟨b1, o1 + k * 8, none⟩ = some (.int .i64 x.t.id) ∧ w'.cell? ⟨b1, o1 + k * 8 + 1, none⟩ = some (.int .i64 x.t.st) ∧ w'.cell? ⟨b1, o1 + k * 8 + 2, none⟩ = some (.int .i64 x.t.snap) ∧ w'.cell? ⟨b1, o1 + k * 8 + 3, none⟩ = some (.int .i64 x.t.cs) ∧ w'.cell? ⟨b1, o1 + k * 8 + 4, none⟩ = some (.slice x.ra x.t.rs.length x.rc) ∧ w'.cell? ⟨b1, o1 + k * 8 + 5, none⟩ = some (.slice x.wa x.t.ws.length x.wc) ∧ w'.cell? ⟨b1, o1 + k * 8 + 6, none⟩ = some (.bool x.t.out) ∧ w'.cell? ⟨b1, o1 + k * 8 + 7, none⟩ = some (.string x.t.nm) ∧ w'.cell? ⟨b2, o2 + k * 8, none⟩ = some (.int .i64 y.t.id) ∧ w'.cell? ⟨b2, o2 + k * 8 + 1, none⟩ = some (.int .i64 y.t.st) ∧ w'.cell? ⟨b2, o2 + k * 8 + 2, none⟩ = some (.int .i64 y.t.snap) ∧ w'.cell? ⟨b2, o2 + k * 8 + 3, none⟩ = some (.int .i64 y.t.cs) ∧ w'.cell? ⟨b2, o2 + k * 8 + 4, none⟩ = some (.slice y.ra y.t.rs.length y.rc) ∧ w'.cell? ⟨b2, o2 + k * 8 + 5, none⟩ = some (.slice y.wa y.t.ws.length y.wc) ∧ w'.cell? ⟨b2, o2 + k * 8 + 6, none⟩ = some (.bool y.t.out) ∧ w'.cell? ⟨b2, o2 + k * 8 + 7, none⟩ = some (.string y.t.nm)) (by kernel_rfl) hHd (fun hHeld => ?_)
   (refine ti 0 ?_; simp only [Act.put, tA, tB, tD, tE, tF])
   (refine ti 1 ?_; simp only [Act.put, tA, tB, tC, tD, tE, tF])
   (refine ti 2 ?_; simp only [Act.put, tA, tB, tC, tD, tE, tF])
   (refine ti 3 ?_; simp only [Act.put, tA, tB, tC, tD, tE, tF])
   (refine ti 4 ?_; simp only [Act.put, tA, tB, tC, tD, tE, tF])
   (refine ti 5 ?_; simp only [Act.put, tA, tB, tC, tD, tE, tF])
   (refine ti 6 ?_; simp only [Act.put, tA, tB, tC, tD, tE, tF])
   (refine ti 7 ?_; simp only [Act.put, tA, tB, tC, tD, tE, tF])
   refine wpAnyH_ready (rs := [8]) (by kernel_rfl) (by simp) ?_
   refine AllReadyH.cons rfl (fun K hK => ?_) AllReadyH.nil
   go_simp
   go_wp2_with fail
   refine (HE.out _ U1.out.drewT U2.out.drewT).mono ?_
   rintro e w2 ⟨rfl, hb2⟩
   have hbu := undrew hb2
   have hHd2 : w2.cell? ⟨b1, o1 + k * 8, none⟩ = some (.int .i64 x.t.id) ∧ w2.cell? ⟨b1, o1 + k * 8 + 1, none⟩ = some (.int .i64 x.t.st) ∧ w2.cell? ⟨b1, o1 + k * 8 + 2, none⟩ = some (.int .i64 x.t.snap) ∧ w2.cell? ⟨b1, o1 + k * 8 + 3, none⟩ = some (.int .i64 x.t.cs) ∧ w2.cell? ⟨b1, o1 + k * 8 + 4, none⟩ = some (.slice x.ra x.t.rs.length x.rc) ∧ w2.cell? ⟨b1, o1 + k * 8 + 5, none⟩ = some (.slice x.wa x.t.ws.length x.wc) ∧ w2.cell? ⟨b1, o1 + k * 8 + 6, none⟩ = some (.bool x.t.out) ∧ w2.cell? ⟨b1, o1 + k * 8 + 7, none⟩ = some (.string x.t.nm) ∧ w2.cell? ⟨b2, o2 + k * 8, none⟩ = some (.int .i64 y.t.id) ∧ w2.cell? ⟨b2, o2 + k * 8 + 1, none⟩ = some (.int .i64 y.t.st) ∧ w2.cell? ⟨b2, o2 + k * 8 + 2, none⟩ = some (.int .i64 y.t.snap) ∧ w2.cell? ⟨b2, o2 + k * 8 + 3, none⟩ = some (.int .i64 y.t.cs) ∧ w2.cell? ⟨b2, o2 + k * 8 + 4, none⟩ = some (.slice y.ra y.t.rs.length y.rc) ∧ w2.cell? ⟨b2, o2 + k * 8 + 5, none⟩ = some (.slice y.wa y.t.ws.length y.wc) ∧ w2.cell? ⟨b2, o2 + k * 8 + 6, none⟩ = some (.bool y.t.out) ∧ w2.cell? ⟨b2, o2 + k * 8 + 7, none⟩ = some (.string y.t.nm) := by
    have cb : ∀ o, w2.cell? ⟨b1, o, none⟩ = wr.cell? ⟨b1, o, none⟩ := fun o => hbu.cell (p := ⟨b1, o, none⟩) hl1
    have cc : ∀ o, w2.cell? ⟨b2, o, none⟩ = wr.cell? ⟨b2, o, none⟩ := fun o => hbu.cell (p := ⟨b2, o, none⟩) hl2
    simp only [cb, cc]
    exact hHd
   go_wp2_with fail
   refine hK.out _ _ hHd2 (fun hHeld2 => ?_)
   have HB2 : Hid (Below w.heap.size w w2) := HB0.out.trans (hbu.mono HB0.out.size)
   clear hK K hb2 hbu hHd hHd2
   (refine ti 9 ?_; simp only [Act.put, tA, tB, tC, tD, tE, tF])
   refine wpAnyH_done (by kernel_rfl) ?_ _
   go_wp2
   go_roundw
   case rel => exact ⟨k + 1, by omega, by go_num, HB2⟩
   case measure => simp [intOf]; omega
  ·have hd : ¬ (k : Int) < (n : Int) := by omega
   go_wp2
   go_ret
   exact ⟨rfl, HB.out⟩

end Go.Proofs.YtmijppfppigjcaaGreat

namespace Go.Proofs.YtmijppfppigjcaaGreat
open Go.RowKit
open KM
attribute [local go_sem ↓] Go.wp_at_zero Go.wp_at_succ

end Go.Proofs.YtmijppfppigjcaaGreat
