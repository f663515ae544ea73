/- What laws' szTxn, toTxn and eqTxn do. -/
import Derived.Test.YtjieojfcmigcdaaGreatDoorPw06
import Derived.Test.YtjieojfcmigcdaaGreatDoorProg
import Derived.WalkKit
import Derived.Test.YtjieojfcmigcdaaGreatDoorPw01
import Derived.WalkSpells
import Derived.WalkLawsBesides
import Derived.Deep.QuietTactic
import Derived.BigQuiet
import Derived.Deep.RegionHeld3
import Derived.Deep.DrawnRows
import Derived.Deep.AppendLies
import Derived.Test.YtjieojfcmigcdaaGreatDoorPw02
import Derived.Test.YtjieojfcmigcdaaGreatDoorPw04
import Derived.Test.YtjieojfcmigcdaaGreatDoorPw05
import Derived.Test.YtjieojfcmigcdaaGreatDoorPw03
import Derived.Deep.RegionHeld
namespace Go.Proofs.YtjieojfcmigcdaaGreatDoor
open Go.RowKit
open KM
attribute [local go_sem ↓] Go.wp_at_zero Go.wp_at_succ

theorem Lies.set {α : Type} {E : Enc α} {e : TypeId} {w : World} {lo hi : Nat} {v : Value} {xs : List α} (h : Lies E e w lo hi v xs) {a : Addr} (ha : a.block < lo) (u : Value) : Lies E e (w.setCell a u) lo hi v xs := ⟨h.own.set ha u, h.up⟩
theorem Lies.mono {α : Type} {E : Enc α} {e : TypeId} {w : World} {lo lo' hi hi' : Nat} {v : Value} {xs : List α} (h : Lies E e w lo hi v xs) (h1 : lo' ≤ lo) (h2 : hi ≤ hi') : Lies E e w lo' hi' v xs := ⟨h.own.mono h1, fun g hg => Nat.lt_of_lt_of_le (h.up g hg) h2⟩
structure TLie (w : World) (lo hi : Nat) (t : Tx) (ra : Option Addr) (rc : Nat) (wa : Option Addr) (wc : Nat) : Prop where
 ex : ∃ m, lo ≤ m ∧ m ≤ hi ∧ Lies encR 67 w lo m (.slice ra t.rs.length rc) t.rs ∧ Lies encW 166 w m hi (.slice wa t.ws.length wc) t.ws
theorem TLie.row {w : World} {lo hi : Nat} {t : Tx} {ra wa : Option Addr} {rc wc : Nat} (h : TLie w lo hi t ra rc wa wc) : TRow w t ra wa := by
 obtain ⟨m, _, _, h1, h2⟩ := h.ex
 exact ⟨h1.own.grow, h2.own.grow⟩
theorem TLie.below {w w' : World} {lo hi : Nat} {t : Tx} {ra wa : Option Addr} {rc wc : Nat} (h : TLie w lo hi t ra rc wa wc) (hb : Below w.heap.size w w') : TLie w' lo hi t ra rc wa wc := by
 obtain ⟨m, a, b, h1, h2⟩ := h.ex
 exact ⟨m, a, b, h1.below hb, h2.below hb⟩
theorem TLie.set {w : World} {lo hi : Nat} {t : Tx} {ra wa : Option Addr} {rc wc : Nat} (h : TLie w lo hi t ra rc wa wc) {a : Addr} (ha : a.block < lo) (u : Value) : TLie (w.setCell a u) lo hi t ra rc wa wc := by
 obtain ⟨m, p, q, h1, h2⟩ := h.ex
 exact ⟨m, p, q, h1.set ha u, h2.set (Nat.lt_of_lt_of_le ha p) u⟩
theorem TLie.mono {w : World} {lo lo' hi hi' : Nat} {t : Tx} {ra wa : Option Addr} {rc wc : Nat} (h : TLie w lo hi t ra rc wa wc) (h1 : lo' ≤ lo) (h2 : hi ≤ hi') : TLie w lo' hi' t ra rc wa wc := by
 obtain ⟨m, p, q, k1, k2⟩ := h.ex
 exact ⟨m, Nat.le_trans h1 p, Nat.le_trans q h2, k1.mono h1 (Nat.le_refl _), k2.mono (Nat.le_refl _) h2⟩
structure TArg (w : World) (t : Tx) (ra wa : Option Addr) : Prop where
 rl : t.rs.length ≤ maxLen
 rf : ∀ x ∈ t.rs, x.1.size ≤ maxLen ∧ x.2.size ≤ maxLen
 wl : t.ws.length ≤ maxLen
 wf : ∀ x ∈ t.ws, x.1.size ≤ maxLen ∧ x.2.1.size ≤ maxLen
 nm : t.nm.size ≤ maxLen
 row : TRow w t ra wa

set_option maxRecDepth 100000 in
set_option maxHeartbeats 2000000 in
theorem szT (t : Tx) (ra wa : Option Addr) (rc wc : Nat) (L : Int) (h0 : 0 ≤ L) (h1 : L ≤ 1048576) (w : World) (hp : TArg w t ra wa) :
  Calls Tryz.prog 54 #[.agg #[.int .i64 t.id, .int .i64 t.st, .int .i64 t.snap, .int .i64 t.cs, .slice ra t.rs.length rc, .slice wa t.ws.length wc, .bool t.out, .string t.nm], .int .i64 L] w fun e w' => Below w.heap.size w w' ∧ ∃ r : Int, e = .returned (.int .i64 r) ∧ r ≤ 1048576 ∧ (0 ≤ r → TFit t) := by
 have HP : Hid (TArg w t ra wa) := hp
 have hnm := hp.nm
 unfold maxLen at hnm
 clear hp
 have BX0 : Hid (Bx (w.alloc (.cells #[.int .i64 t.id, .int .i64 t.st, .int .i64 t.snap, .int .i64 t.cs, .slice ra t.rs.length rc, .slice wa t.ws.length wc, .bool t.out, .string t.nm] 112)) w.heap.size [.int .i64 t.id, .int .i64 t.st, .int .i64 t.snap, .int .i64 t.cs, .slice ra t.rs.length rc, .slice wa t.ws.length wc, .bool t.out, .string t.nm]) := Bx.new w [.int .i64 t.id, .int .i64 t.st, .int .i64 t.snap, .int .i64 t.cs, .slice ra t.rs.length rc, .slice wa t.ws.length wc, .bool t.out, .string t.nm] 112
 have HB0 : Hid (Below w.heap.size w (w.alloc (.cells #[.int .i64 t.id, .int .i64 t.st, .int .i64 t.snap, .int .i64 t.cs, .slice ra t.rs.length rc, .slice wa t.ws.length wc, .bool t.out, .string t.nm] 112))) := (belowRefl w).alloc (Nat.le_refl _) _
 go_enter Tryz.func54, Tryz.ntmps54
 go_wp2_with fail
 refine (szSR t.rs ra rc HP.out.rl HP.out.rf L h0 h1 _ (HP.out.row.r.below HB0.out)).mono ?_
 rintro e w1 ⟨hb1, r0, rfl, hu0, hr0⟩
 have HR0 : Hid (0 ≤ r0 → t.rs.length ≤ 1048576 ∧ RFit t.rs) := hr0
 have HB1 : Hid (Below w.heap.size w w1) := HB0.out.trans (hb1.mono HB0.out.size)
 have BX1 : Hid (Bx w1 w.heap.size [.int .i64 t.id, .int .i64 t.st, .int .i64 t.snap, .int .i64 t.cs, .slice ra t.rs.length rc, .slice wa t.ws.length wc, .bool t.out, .string t.nm]) := BX0.out.below hb1
 clear hb1 hr0
 by_cases hn0 : r0 < 0
 ·go_wp2
  go_ret
  exact ⟨HB1.out, -1, rfl, by omega, fun h => by omega⟩
 have x5 := BX1.out.c5
 go_wp2_with fail
 refine (szSW t.ws wa wc HP.out.wl HP.out.wf r0 (by omega) hu0 _ (HP.out.row.w.below HB1.out)).mono ?_
 rintro e w2 ⟨hb2, r1, rfl, hu1, hr1⟩
 have HR1 : Hid (0 ≤ r1 → t.ws.length ≤ 1048576 ∧ WFit t.ws) := hr1
 have HB2 : Hid (Below w.heap.size w w2) := HB1.out.trans (hb2.mono HB1.out.size)
 have BX2 : Hid (Bx w2 w.heap.size [.int .i64 t.id, .int .i64 t.st, .int .i64 t.snap, .int .i64 t.cs, .slice ra t.rs.length rc, .slice wa t.ws.length wc, .bool t.out, .string t.nm]) := BX1.out.below hb2
 clear hb2 hr1 x5
 by_cases hn1 : r1 < 0
 ·go_wp2
  go_ret
  exact ⟨HB2.out, -1, rfl, by omega, fun h => by omega⟩
 have x7 := BX2.out.c7
 have ew : IntKind.i64.wrap (r1 - (t.nm.size : Int)) = r1 - t.nm.size := by rw [IntKind.wrap_i64]; omega
 by_cases hn2 : r1 - (t.nm.size : Int) < 0
 ·go_wp2
  go_ret
  exact ⟨HB2.out, -1, rfl, by omega, fun h => by omega⟩
 ·have hn3 : ¬ r1 - (t.nm.size : Int) < 0 := hn2
  have HT : Hid (TFit t) := ⟨(HR0.out (by omega)).1, (HR0.out (by omega)).2, (HR1.out (by omega)).1, (HR1.out (by omega)).2, by omega⟩
  go_wp2
  go_ret
  exact ⟨HB2.out, _, rfl, by omega, fun _ => HT.out⟩

set_option maxRecDepth 100000 in
set_option maxHeartbeats 2000000 in
theorem toT (t : Tx) (ra wa : Option Addr) (rc wc : Nat) (hr : t.rs.length ≤ 100000000) (hw : t.ws.length ≤ 100000000) (w : World) (hp : TRow w t ra wa) :
  Calls Tryz.prog 55 #[.agg #[.int .i64 t.id, .int .i64 t.st, .int .i64 t.snap, .int .i64 t.cs, .slice ra t.rs.length rc, .slice wa t.ws.length wc, .bool t.out, .string t.nm]] w fun e w' => ∃ ra1 rc1 wa1 wc1, e = .returned (.agg #[.int .i64 t.id, .int .i64 t.st, .int .i64 t.snap, .int .i64 t.cs, .slice ra1 t.rs.length rc1, .slice wa1 t.ws.length wc1, .bool t.out, .string t.nm]) ∧ TLie w' w.heap.size w'.heap.size t ra1 rc1 wa1 wc1 ∧ Below w.heap.size w w' := by
 have HP : Hid (TRow w t ra wa) := hp
 clear hp
 have BA0 : Hid (Bx (((w.alloc (.cells #[.int .i64 t.id, .int .i64 t.st, .int .i64 t.snap, .int .i64 t.cs, .slice ra t.rs.length rc, .slice wa t.ws.length wc, .bool t.out, .string t.nm] 112)).alloc (.cells #[.int .i64 0, .int .i64 0, .int .i64 0, .int .i64 0, .slice none 0 0, .slice none 0 0, .bool false, .string ⟨#[]⟩] 116)).alloc (.cells #[.int .i64 t.id, .int .i64 t.st, .int .i64 t.snap, .int .i64 t.cs, .slice none 0 0, .slice none 0 0, .bool false, .string ⟨#[]⟩] 116)) w.heap.size [.int .i64 t.id, .int .i64 t.st, .int .i64 t.snap, .int .i64 t.cs, .slice ra t.rs.length rc, .slice wa t.ws.length wc, .bool t.out, .string t.nm]) := ((Bx.new w [.int .i64 t.id, .int .i64 t.st, .int .i64 t.snap, .int .i64 t.cs, .slice ra t.rs.length rc, .slice wa t.ws.length wc, .bool t.out, .string t.nm] 112).alloc _).alloc _
 have BR0 : Hid (Bx (((w.alloc (.cells #[.int .i64 t.id, .int .i64 t.st, .int .i64 t.snap, .int .i64 t.cs, .slice ra t.rs.length rc, .slice wa t.ws.length wc, .bool t.out, .string t.nm] 112)).alloc (.cells #[.int .i64 0, .int .i64 0, .int .i64 0, .int .i64 0, .slice none 0 0, .slice none 0 0, .bool false, .string ⟨#[]⟩] 116)).alloc (.cells #[.int .i64 t.id, .int .i64 t.st, .int .i64 t.snap, .int .i64 t.cs, .slice none 0 0, .slice none 0 0, .bool false, .string ⟨#[]⟩] 116)) (w.heap.size + 1) [.int .i64 0, .int .i64 0, .int .i64 0, .int .i64 0, .slice none 0 0, .slice none 0 0, .bool false, .string ⟨#[]⟩]) := by
  have h := (Bx.new (w.alloc (.cells #[.int .i64 t.id, .int .i64 t.st, .int .i64 t.snap, .int .i64 t.cs, .slice ra t.rs.length rc, .slice wa t.ws.length wc, .bool t.out, .string t.nm] 112)) [.int .i64 0, .int .i64 0, .int .i64 0, .int .i64 0, .slice none 0 0, .slice none 0 0, .bool false, .string ⟨#[]⟩] 116).alloc (.cells #[.int .i64 t.id, .int .i64 t.st, .int .i64 t.snap, .int .i64 t.cs, .slice none 0 0, .slice none 0 0, .bool false, .string ⟨#[]⟩] 116)
  rw [show (w.alloc (.cells #[.int .i64 t.id, .int .i64 t.st, .int .i64 t.snap, .int .i64 t.cs, .slice ra t.rs.length rc, .slice wa t.ws.length wc, .bool t.out, .string t.nm] 112)).heap.size = w.heap.size + 1 by simp] at h
  exact h
 have BO0 : Hid (Bx (((w.alloc (.cells #[.int .i64 t.id, .int .i64 t.st, .int .i64 t.snap, .int .i64 t.cs, .slice ra t.rs.length rc, .slice wa t.ws.length wc, .bool t.out, .string t.nm] 112)).alloc (.cells #[.int .i64 0, .int .i64 0, .int .i64 0, .int .i64 0, .slice none 0 0, .slice none 0 0, .bool false, .string ⟨#[]⟩] 116)).alloc (.cells #[.int .i64 t.id, .int .i64 t.st, .int .i64 t.snap, .int .i64 t.cs, .slice none 0 0, .slice none 0 0, .bool false, .string ⟨#[]⟩] 116)) (w.heap.size + 1 + 1) [.int .i64 t.id, .int .i64 t.st, .int .i64 t.snap, .int .i64 t.cs, .slice none 0 0, .slice none 0 0, .bool false, .string ⟨#[]⟩]) := by
  have h := Bx.new ((w.alloc (.cells #[.int .i64 t.id, .int .i64 t.st, .int .i64 t.snap, .int .i64 t.cs, .slice ra t.rs.length rc, .slice wa t.ws.length wc, .bool t.out, .string t.nm] 112)).alloc (.cells #[.int .i64 0, .int .i64 0, .int .i64 0, .int .i64 0, .slice none 0 0, .slice none 0 0, .bool false, .string ⟨#[]⟩] 116)) [.int .i64 t.id, .int .i64 t.st, .int .i64 t.snap, .int .i64 t.cs, .slice none 0 0, .slice none 0 0, .bool false, .string ⟨#[]⟩] 116
  rw [show ((w.alloc (.cells #[.int .i64 t.id, .int .i64 t.st, .int .i64 t.snap, .int .i64 t.cs, .slice ra t.rs.length rc, .slice wa t.ws.length wc, .bool t.out, .string t.nm] 112)).alloc (.cells #[.int .i64 0, .int .i64 0, .int .i64 0, .int .i64 0, .slice none 0 0, .slice none 0 0, .bool false, .string ⟨#[]⟩] 116)).heap.size = w.heap.size + 1 + 1 by simp] at h
  exact h
 have HB0 : Hid (Below w.heap.size w (((w.alloc (.cells #[.int .i64 t.id, .int .i64 t.st, .int .i64 t.snap, .int .i64 t.cs, .slice ra t.rs.length rc, .slice wa t.ws.length wc, .bool t.out, .string t.nm] 112)).alloc (.cells #[.int .i64 0, .int .i64 0, .int .i64 0, .int .i64 0, .slice none 0 0, .slice none 0 0, .bool false, .string ⟨#[]⟩] 116)).alloc (.cells #[.int .i64 t.id, .int .i64 t.st, .int .i64 t.snap, .int .i64 t.cs, .slice none 0 0, .slice none 0 0, .bool false, .string ⟨#[]⟩] 116))) := (((belowRefl w).alloc (Nat.le_refl _) _).alloc (by simp) _).alloc (by simp; omega) _
 have S0 : Hid ((((w.alloc (.cells #[.int .i64 t.id, .int .i64 t.st, .int .i64 t.snap, .int .i64 t.cs, .slice ra t.rs.length rc, .slice wa t.ws.length wc, .bool t.out, .string t.nm] 112)).alloc (.cells #[.int .i64 0, .int .i64 0, .int .i64 0, .int .i64 0, .slice none 0 0, .slice none 0 0, .bool false, .string ⟨#[]⟩] 116)).alloc (.cells #[.int .i64 t.id, .int .i64 t.st, .int .i64 t.snap, .int .i64 t.cs, .slice none 0 0, .slice none 0 0, .bool false, .string ⟨#[]⟩] 116)).heap.size = w.heap.size + 1 + 1 + 1) := by show _ = _; simp
 go_enter Tryz.func55, Tryz.ntmps55
 go_wp2_with fail
 refine (toSR t.rs ra rc hr _ (HP.out.r.below HB0.out)).mono ?_
 rintro e w1 ⟨ra1, rc1, rfl, hd1, hb1⟩
 rw [S0.out] at hd1
 have BA1 : Hid (Bx w1 w.heap.size [.int .i64 t.id, .int .i64 t.st, .int .i64 t.snap, .int .i64 t.cs, .slice ra t.rs.length rc, .slice wa t.ws.length wc, .bool t.out, .string t.nm]) := BA0.out.below hb1
 have BR1 : Hid (Bx w1 (w.heap.size + 1) [.int .i64 0, .int .i64 0, .int .i64 0, .int .i64 0, .slice none 0 0, .slice none 0 0, .bool false, .string ⟨#[]⟩]) := BR0.out.below hb1
 have BO1 : Hid (Bx w1 (w.heap.size + 1 + 1) [.int .i64 t.id, .int .i64 t.st, .int .i64 t.snap, .int .i64 t.cs, .slice none 0 0, .slice none 0 0, .bool false, .string ⟨#[]⟩]) := BO0.out.below hb1
 have HB1 : Hid (Below w.heap.size w w1) := HB0.out.trans (hb1.mono HB0.out.size)
 have Z1 : Hid (w.heap.size + 1 + 1 + 1 ≤ w1.heap.size) := by show _ ≤ _; rw [← S0.out]; exact hb1.size
 have L1 : Hid (Lies encR 67 w1 (w.heap.size + 1 + 1 + 1) w1.heap.size (.slice ra1 t.rs.length rc1) t.rs) := Lies.of hd1
 clear hb1 hd1 BA0 BR0 BO0 HB0 S0
 have x5 := BA1.out.c5
 have o4 := BO1.out.c4
 have f4 := BO1.out.fz 4
 go_wp2_with fail
 clear x5 o4 f4
 have BA1' : Hid (Bx (w1.setCell ⟨w.heap.size + 1 + 1, 4, none⟩ (.slice ra1 t.rs.length rc1)) w.heap.size [.int .i64 t.id, .int .i64 t.st, .int .i64 t.snap, .int .i64 t.cs, .slice ra t.rs.length rc, .slice wa t.ws.length wc, .bool t.out, .string t.nm]) := BA1.out.setO (by show w.heap.size + 1 + 1 ≠ w.heap.size; omega) _
 have BR1' : Hid (Bx (w1.setCell ⟨w.heap.size + 1 + 1, 4, none⟩ (.slice ra1 t.rs.length rc1)) (w.heap.size + 1) [.int .i64 0, .int .i64 0, .int .i64 0, .int .i64 0, .slice none 0 0, .slice none 0 0, .bool false, .string ⟨#[]⟩]) := BR1.out.setO (by show w.heap.size + 1 + 1 ≠ w.heap.size + 1; omega) _
 have BO1' : Hid (Bx (w1.setCell ⟨w.heap.size + 1 + 1, 4, none⟩ (.slice ra1 t.rs.length rc1)) (w.heap.size + 1 + 1) [.int .i64 t.id, .int .i64 t.st, .int .i64 t.snap, .int .i64 t.cs, .slice ra1 t.rs.length rc1, .slice none 0 0, .bool false, .string ⟨#[]⟩]) := BO1.out.set 4 _
 have HB1' : Hid (Below w.heap.size w (w1.setCell ⟨w.heap.size + 1 + 1, 4, none⟩ (.slice ra1 t.rs.length rc1))) := HB1.out.setCell (by show _ ≤ _ + 1 + 1; omega) _
 have L1' : Hid (Lies encR 67 (w1.setCell ⟨w.heap.size + 1 + 1, 4, none⟩ (.slice ra1 t.rs.length rc1)) (w.heap.size + 1 + 1 + 1) w1.heap.size (.slice ra1 t.rs.length rc1) t.rs) := L1.out.set (by show _ + 1 + 1 < _; omega) _
 have Z1' : Hid ((w1.setCell ⟨w.heap.size + 1 + 1, 4, none⟩ (.slice ra1 t.rs.length rc1)).heap.size = w1.heap.size) := by show _ = _; simp [World.setCell]
 refine (toSW t.ws wa wc hw _ (HP.out.w.below HB1'.out)).mono ?_
 rintro e w2 ⟨wa1, wc1, rfl, hd2, hb2⟩
 rw [Z1'.out] at hd2
 have BA2 : Hid (Bx w2 w.heap.size [.int .i64 t.id, .int .i64 t.st, .int .i64 t.snap, .int .i64 t.cs, .slice ra t.rs.length rc, .slice wa t.ws.length wc, .bool t.out, .string t.nm]) := BA1'.out.below hb2
 have BR2 : Hid (Bx w2 (w.heap.size + 1) [.int .i64 0, .int .i64 0, .int .i64 0, .int .i64 0, .slice none 0 0, .slice none 0 0, .bool false, .string ⟨#[]⟩]) := BR1'.out.below hb2
 have BO2 : Hid (Bx w2 (w.heap.size + 1 + 1) [.int .i64 t.id, .int .i64 t.st, .int .i64 t.snap, .int .i64 t.cs, .slice ra1 t.rs.length rc1, .slice none 0 0, .bool false, .string ⟨#[]⟩]) := BO1'.out.below hb2
 have HB2 : Hid (Below w.heap.size w w2) := HB1'.out.trans (hb2.mono HB1'.out.size)
 have Z2 : Hid (w1.heap.size ≤ w2.heap.size) := by show _ ≤ _; rw [← Z1'.out]; exact hb2.size
 have L2 : Hid (TLie w2 (w.heap.size + 1 + 1 + 1) w2.heap.size t ra1 rc1 wa1 wc1) := ⟨w1.heap.size, Z1.out, Z2.out, L1'.out.below hb2, Lies.of hd2⟩
 clear hb2 hd2 BA1 BR1 BO1 HB1 BA1' BR1' BO1' HB1' L1 L1' Z1'
 have x6 := BA2.out.c6
 have x7 := BA2.out.c7
 have o0 := BO2.out.c0
 have fo0 := BO2.out.fz 0
 have q0 := BR2.out.c0
 have fq0 := BR2.out.fz 0
 have o1 := BO2.out.c1
 have fo1 := BO2.out.fz 1
 have q1 := BR2.out.c1
 have fq1 := BR2.out.fz 1
 have o2 := BO2.out.c2
 have fo2 := BO2.out.fz 2
 have q2 := BR2.out.c2
 have fq2 := BR2.out.fz 2
 have o3 := BO2.out.c3
 have fo3 := BO2.out.fz 3
 have q3 := BR2.out.c3
 have fq3 := BR2.out.fz 3
 have o4 := BO2.out.c4
 have fo4 := BO2.out.fz 4
 have q4 := BR2.out.c4
 have fq4 := BR2.out.fz 4
 have o5 := BO2.out.c5
 have fo5 := BO2.out.fz 5
 have q5 := BR2.out.c5
 have fq5 := BR2.out.fz 5
 have o6 := BO2.out.c6
 have fo6 := BO2.out.fz 6
 have q6 := BR2.out.c6
 have fq6 := BR2.out.fz 6
 have o7 := BO2.out.c7
 have fo7 := BO2.out.fz 7
 have q7 := BR2.out.c7
 have fq7 := BR2.out.fz 7
 go_wp2
 refine bodyPost_ret (v := .agg #[.int .i64 t.id, .int .i64 t.st, .int .i64 t.snap, .int .i64 t.cs, .slice ra1 t.rs.length rc1, .slice wa1 t.ws.length wc1, .bool t.out, .string t.nm]) (by simp [results, Tryz.results55, go_sem, q0, q1, q2, q3, q4, q5, q6, q7]) rfl ⟨ra1, rc1, wa1, wc1, rfl, ?_, ?_⟩
 ·exact (((((((((((L2.out.set (by show _ + 1 + 1 < _; omega) _).set (by show _ + 1 + 1 < _; omega) _).set (by show _ + 1 + 1 < _; omega) _).set (by show _ + 1 < _; omega) _).set (by show _ + 1 < _; omega) _).set (by show _ + 1 < _; omega) _).set (by show _ + 1 < _; omega) _).set (by show _ + 1 < _; omega) _).set (by show _ + 1 < _; omega) _).set (by show _ + 1 < _; omega) _).set (by show _ + 1 < _; omega) _).mono (by omega) (by simp [World.setCell])
 ·exact (((((((((((HB2.out.setCell (by show _ ≤ _ + 1 + 1; omega) _).setCell (by show _ ≤ _ + 1 + 1; omega) _).setCell (by show _ ≤ _ + 1 + 1; omega) _).setCell (by show _ ≤ _ + 1; omega) _).setCell (by show _ ≤ _ + 1; omega) _).setCell (by show _ ≤ _ + 1; omega) _).setCell (by show _ ≤ _ + 1; omega) _).setCell (by show _ ≤ _ + 1; omega) _).setCell (by show _ ≤ _ + 1; omega) _).setCell (by show _ ≤ _ + 1; omega) _).setCell (by show _ ≤ _ + 1; omega) _)

set_option maxRecDepth 100000 in
set_option maxHeartbeats 2000000 in
theorem eqT (t : Tx) (ra wa ra2 wa2 : Option Addr) (rc wc rc2 wc2 : Nat) (hr : t.rs.length ≤ 100000000) (hw : t.ws.length ≤ 100000000) (w : World) (hp : TRow w t ra wa) (hq : TRow w t ra2 wa2) :
  Calls Tryz.prog 56 #[.agg #[.int .i64 t.id, .int .i64 t.st, .int .i64 t.snap, .int .i64 t.cs, .slice ra t.rs.length rc, .slice wa t.ws.length wc, .bool t.out, .string t.nm], .agg #[.int .i64 t.id, .int .i64 t.st, .int .i64 t.snap, .int .i64 t.cs, .slice ra2 t.rs.length rc2, .slice wa2 t.ws.length wc2, .bool t.out, .string t.nm]] w fun e w' => e = .returned (.bool true) ∧ Below w.heap.size w w' := by
 have HP : Hid (TRow w t ra wa) := hp
 have HQ : Hid (TRow w t ra2 wa2) := hq
 clear hp hq
 have n0 := ne_self_int t.id
 have n1 := ne_self_int t.st
 have n2 := ne_self_int t.snap
 have n3 := ne_self_int t.cs
 have n6 := bne_self' t.out
 have BA0 : Hid (Bx ((w.alloc (.cells #[.int .i64 t.id, .int .i64 t.st, .int .i64 t.snap, .int .i64 t.cs, .slice ra t.rs.length rc, .slice wa t.ws.length wc, .bool t.out, .string t.nm] 116)).alloc (.cells #[.int .i64 t.id, .int .i64 t.st, .int .i64 t.snap, .int .i64 t.cs, .slice ra2 t.rs.length rc2, .slice wa2 t.ws.length wc2, .bool t.out, .string t.nm] 116)) w.heap.size [.int .i64 t.id, .int .i64 t.st, .int .i64 t.snap, .int .i64 t.cs, .slice ra t.rs.length rc, .slice wa t.ws.length wc, .bool t.out, .string t.nm]) := (Bx.new w [.int .i64 t.id, .int .i64 t.st, .int .i64 t.snap, .int .i64 t.cs, .slice ra t.rs.length rc, .slice wa t.ws.length wc, .bool t.out, .string t.nm] 116).alloc _
 have BB0 : Hid (Bx ((w.alloc (.cells #[.int .i64 t.id, .int .i64 t.st, .int .i64 t.snap, .int .i64 t.cs, .slice ra t.rs.length rc, .slice wa t.ws.length wc, .bool t.out, .string t.nm] 116)).alloc (.cells #[.int .i64 t.id, .int .i64 t.st, .int .i64 t.snap, .int .i64 t.cs, .slice ra2 t.rs.length rc2, .slice wa2 t.ws.length wc2, .bool t.out, .string t.nm] 116)) (w.heap.size + 1) [.int .i64 t.id, .int .i64 t.st, .int .i64 t.snap, .int .i64 t.cs, .slice ra2 t.rs.length rc2, .slice wa2 t.ws.length wc2, .bool t.out, .string t.nm]) := by
  have h := Bx.new (w.alloc (.cells #[.int .i64 t.id, .int .i64 t.st, .int .i64 t.snap, .int .i64 t.cs, .slice ra t.rs.length rc, .slice wa t.ws.length wc, .bool t.out, .string t.nm] 116)) [.int .i64 t.id, .int .i64 t.st, .int .i64 t.snap, .int .i64 t.cs, .slice ra2 t.rs.length rc2, .slice wa2 t.ws.length wc2, .bool t.out, .string t.nm] 116
  rw [show (w.alloc (.cells #[.int .i64 t.id, .int .i64 t.st, .int .i64 t.snap, .int .i64 t.cs, .slice ra t.rs.length rc, .slice wa t.ws.length wc, .bool t.out, .string t.nm] 116)).heap.size = w.heap.size + 1 by simp] at h
  exact h
 have HB0 : Hid (Below w.heap.size w ((w.alloc (.cells #[.int .i64 t.id, .int .i64 t.st, .int .i64 t.snap, .int .i64 t.cs, .slice ra t.rs.length rc, .slice wa t.ws.length wc, .bool t.out, .string t.nm] 116)).alloc (.cells #[.int .i64 t.id, .int .i64 t.st, .int .i64 t.snap, .int .i64 t.cs, .slice ra2 t.rs.length rc2, .slice wa2 t.ws.length wc2, .bool t.out, .string t.nm] 116))) := ((belowRefl w).alloc (Nat.le_refl _) _).alloc (by simp) _
 go_enter Tryz.func56, Tryz.ntmps56
 go_wp2_with fail
 refine (eqSR ra ra2 rc rc2 t.rs hr _ (HP.out.r.below HB0.out) (HQ.out.r.below HB0.out)).mono ?_
 rintro e w1 ⟨rfl, hb1⟩
 have BA1 : Hid (Bx w1 w.heap.size [.int .i64 t.id, .int .i64 t.st, .int .i64 t.snap, .int .i64 t.cs, .slice ra t.rs.length rc, .slice wa t.ws.length wc, .bool t.out, .string t.nm]) := BA0.out.below hb1
 have BB1 : Hid (Bx w1 (w.heap.size + 1) [.int .i64 t.id, .int .i64 t.st, .int .i64 t.snap, .int .i64 t.cs, .slice ra2 t.rs.length rc2, .slice wa2 t.ws.length wc2, .bool t.out, .string t.nm]) := BB0.out.below hb1
 have HB1 : Hid (Below w.heap.size w w1) := HB0.out.trans (hb1.mono HB0.out.size)
 clear hb1 BA0 BB0 HB0
 have x5 := BA1.out.c5
 have y5 := BB1.out.c5
 go_wp2_with fail
 refine (eqSW wa wa2 wc wc2 t.ws hw _ (HP.out.w.below HB1.out) (HQ.out.w.below HB1.out)).mono ?_
 rintro e w2 ⟨rfl, hb2⟩
 have BA2 : Hid (Bx w2 w.heap.size [.int .i64 t.id, .int .i64 t.st, .int .i64 t.snap, .int .i64 t.cs, .slice ra t.rs.length rc, .slice wa t.ws.length wc, .bool t.out, .string t.nm]) := BA1.out.below hb2
 have BB2 : Hid (Bx w2 (w.heap.size + 1) [.int .i64 t.id, .int .i64 t.st, .int .i64 t.snap, .int .i64 t.cs, .slice ra2 t.rs.length rc2, .slice wa2 t.ws.length wc2, .bool t.out, .string t.nm]) := BB1.out.below hb2
 have HB2 : Hid (Below w.heap.size w w2) := HB1.out.trans (hb2.mono HB1.out.size)
 clear hb2 BA1 BB1 HB1 x5 y5
 have x6 := BA2.out.c6
 have y6 := BB2.out.c6
 have x7 := BA2.out.c7
 have y7 := BB2.out.c7
 go_wp2
 go_ret
 exact ⟨rfl, HB2.out⟩
end Go.Proofs.YtjieojfcmigcdaaGreatDoor

namespace Go.Proofs.YtjieojfcmigcdaaGreatDoor
open Go.RowKit
open KM
attribute [local go_sem ↓] Go.wp_at_zero Go.wp_at_succ

end Go.Proofs.YtjieojfcmigcdaaGreatDoor
