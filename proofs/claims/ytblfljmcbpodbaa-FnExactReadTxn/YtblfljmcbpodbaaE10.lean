/- The law FnExactReadTxn, walked. -/
import Derived.Test.YtblfljmcbpodbaaF9
import Derived.Test.YtblfljmcbpodbaaZn
import Derived.Test.YtblfljmcbpodbaaA3
namespace Go.Proofs.Ytblfljmcbpodbaa
open Go.RowKit
open KM
open VM
attribute [local go_sem ↓] Go.wp_at_zero Go.wp_at_succ

theorem rTx_right {x : ByteArray} {p : Int} {t : Tx} {q : Nat} (h : rTx x p = some (t, q)) : txnB t = true := by
  unfold rTx at h
  repeat (split at h; (· cases h))
  split at h
  · rename_i ht
    cases h
    exact ht
  · cases h
theorem ans_small {x : ByteArray} {p : Int} {t : Tx} {q : Nat} {b : Bool} (h : ansT (rTx x p) = (t, q, b)) : t.rs.length ≤ 8 ∧ t.ws.length ≤ 8 := by
  cases hr : rTx x p with
  | none =>
    rw [hr] at h
    cases h
    exact ⟨Nat.zero_le _, Nat.zero_le _⟩
  | some r =>
    obtain ⟨t', q'⟩ := r
    rw [hr] at h
    cases h
    exact txn_rl (rTx_right hr)

set_option maxRecDepth 100000 in
set_option maxHeartbeats 4000000 in
theorem law10 (x : ByteArray) (p : Int) (hx : x.size ≤ maxLen) (w : World) : Calls Try.prog 10 #[.string x, .int .i64 p] w fun e w' => e = .returned (.bool true) ∧ Below w.heap.size w w' := by
  unfold maxLen at hx
  by_cases hkb : 1048576 < x.size
  · have hkb' : (1048576 : Int) < (x.size : Int) := by omega
    go_enter Try.func10, Try.ntmps10
    go_wp2
    go_ret
    exact ⟨rfl, belowRefl w⟩
  have hkb' : ¬ (1048576 : Int) < (x.size : Int) := by omega
  have hs : x.size ≤ 1048576 := by omega
  obtain ⟨⟨t, q, b⟩, ha⟩ : ∃ a, ansT (rTx x p) = a := ⟨_, rfl⟩
  have hsm := ans_small ha
  have hrl : t.rs.length ≤ 8 := hsm.1
  have hwl : t.ws.length ≤ 8 := hsm.2
  have CI : Hid (∀ w, Calls Try.prog 46 #[.string x, .int .i64 p] w fun e w' => ∃ ra rc wa wc, e = .returned (.tuple #[.agg #[.int .i64 t.id, .int .i64 t.st, .int .i64 t.snap, .int .i64 t.cs, .slice ra t.rs.length rc, .slice wa t.ws.length wc, .bool t.out, .string t.nm], .int .i64 (q : Int), .bool b]) ∧ TLie w' w.heap.size w'.heap.size t ra rc wa wc ∧ Below w.heap.size w w') := fun w => irt x p hs t q b ha w
  have CS : Hid (∀ w, Calls Try.prog 45 #[.string x, .int .i64 p] w fun e w' => ∃ ra rc wa wc, e = .returned (.tuple #[.agg #[.int .i64 t.id, .int .i64 t.st, .int .i64 t.snap, .int .i64 t.cs, .slice ra t.rs.length rc, .slice wa t.ws.length wc, .bool t.out, .string t.nm], .int .i64 (q : Int), .bool b]) ∧ TLie w' w.heap.size w'.heap.size t ra rc wa wc ∧ Below w.heap.size w w') := fun w => srt x p hs t q b ha w
  have hbn := bne_self' b
  have hqn := ne_self_int (q : Int)
  clear ha hsm hs
  have HB : Hid (Below w.heap.size w w) := belowRefl w
  go_enter Try.func10, Try.ntmps10
  go_wp2_with fail
  refine (CS.out _).mono ?_
  rintro e w1 ⟨ra1, rc1, wa1, wc1, rfl, hl, hb1⟩
  have Z1 : Hid (w.heap.size ≤ w1.heap.size) := by show _ ≤ _; have h := hb1.size; simpa using h
  replace HB : Hid (Below w.heap.size w w1) := HB.out.trans (hb1.mono HB.out.size)
  clear hb1
  have T1 : Hid (TLie w1 (w.heap.size) w1.heap.size t ra1 rc1 wa1 wc1) := hl
  clear hl
  have hba : Below w1.heap.size w1 (w1.alloc (.cells #[.int .i64 t.id, .int .i64 t.st, .int .i64 t.snap, .int .i64 t.cs, .slice ra1 t.rs.length rc1, .slice wa1 t.ws.length wc1, .bool t.out, .string t.nm] 27)) := (belowRefl _).alloc (Nat.le_refl _) _
  replace HB : Hid (Below w.heap.size w (w1.alloc (.cells #[.int .i64 t.id, .int .i64 t.st, .int .i64 t.snap, .int .i64 t.cs, .slice ra1 t.rs.length rc1, .slice wa1 t.ws.length wc1, .bool t.out, .string t.nm] 27))) := HB.out.trans (hba.mono HB.out.size)
  replace T1 : Hid (TLie (w1.alloc (.cells #[.int .i64 t.id, .int .i64 t.st, .int .i64 t.snap, .int .i64 t.cs, .slice ra1 t.rs.length rc1, .slice wa1 t.ws.length wc1, .bool t.out, .string t.nm] 27)) (w.heap.size) w1.heap.size t ra1 rc1 wa1 wc1) := T1.out.below hba
  clear hba
  have OB1 : Hid (Bx (w1.alloc (.cells #[.int .i64 t.id, .int .i64 t.st, .int .i64 t.snap, .int .i64 t.cs, .slice ra1 t.rs.length rc1, .slice wa1 t.ws.length wc1, .bool t.out, .string t.nm] 27)) (w1.heap.size) [.int .i64 t.id, .int .i64 t.st, .int .i64 t.snap, .int .i64 t.cs, .slice ra1 t.rs.length rc1, .slice wa1 t.ws.length wc1, .bool t.out, .string t.nm]) := Bx.new w1 [.int .i64 t.id, .int .i64 t.st, .int .i64 t.snap, .int .i64 t.cs, .slice ra1 t.rs.length rc1, .slice wa1 t.ws.length wc1, .bool t.out, .string t.nm] 27
  go_wp2_with fail
  refine (CI.out _).mono ?_
  rintro e w2 ⟨ra2, rc2, wa2, wc2, rfl, hl, hb2⟩
  have Z2 : Hid (w1.heap.size + 1 ≤ w2.heap.size) := by show _ ≤ _; have h := hb2.size; simpa using h
  replace HB : Hid (Below w.heap.size w w2) := HB.out.trans (hb2.mono HB.out.size)
  replace T1 : Hid (TLie w2 (w.heap.size) w1.heap.size t ra1 rc1 wa1 wc1) := T1.out.below hb2
  replace OB1 : Hid (Bx w2 (w1.heap.size) [.int .i64 t.id, .int .i64 t.st, .int .i64 t.snap, .int .i64 t.cs, .slice ra1 t.rs.length rc1, .slice wa1 t.ws.length wc1, .bool t.out, .string t.nm]) := OB1.out.below hb2
  clear hb2
  have hl : TLie w2 (w1.heap.size + 1) w2.heap.size t ra2 rc2 wa2 wc2 := by simpa using hl
  have T2 : Hid (TLie w2 (w1.heap.size + 1) w2.heap.size t ra2 rc2 wa2 wc2) := hl
  clear hl
  have hba : Below w2.heap.size w2 (w2.alloc (.cells #[.int .i64 t.id, .int .i64 t.st, .int .i64 t.snap, .int .i64 t.cs, .slice ra2 t.rs.length rc2, .slice wa2 t.ws.length wc2, .bool t.out, .string t.nm] 27)) := (belowRefl _).alloc (Nat.le_refl _) _
  replace HB : Hid (Below w.heap.size w (w2.alloc (.cells #[.int .i64 t.id, .int .i64 t.st, .int .i64 t.snap, .int .i64 t.cs, .slice ra2 t.rs.length rc2, .slice wa2 t.ws.length wc2, .bool t.out, .string t.nm] 27))) := HB.out.trans (hba.mono HB.out.size)
  replace T1 : Hid (TLie (w2.alloc (.cells #[.int .i64 t.id, .int .i64 t.st, .int .i64 t.snap, .int .i64 t.cs, .slice ra2 t.rs.length rc2, .slice wa2 t.ws.length wc2, .bool t.out, .string t.nm] 27)) (w.heap.size) w1.heap.size t ra1 rc1 wa1 wc1) := T1.out.below hba
  replace OB1 : Hid (Bx (w2.alloc (.cells #[.int .i64 t.id, .int .i64 t.st, .int .i64 t.snap, .int .i64 t.cs, .slice ra2 t.rs.length rc2, .slice wa2 t.ws.length wc2, .bool t.out, .string t.nm] 27)) (w1.heap.size) [.int .i64 t.id, .int .i64 t.st, .int .i64 t.snap, .int .i64 t.cs, .slice ra1 t.rs.length rc1, .slice wa1 t.ws.length wc1, .bool t.out, .string t.nm]) := OB1.out.below hba
  replace T2 : Hid (TLie (w2.alloc (.cells #[.int .i64 t.id, .int .i64 t.st, .int .i64 t.snap, .int .i64 t.cs, .slice ra2 t.rs.length rc2, .slice wa2 t.ws.length wc2, .bool t.out, .string t.nm] 27)) (w1.heap.size + 1) w2.heap.size t ra2 rc2 wa2 wc2) := T2.out.below hba
  clear hba
  have OB2 : Hid (Bx (w2.alloc (.cells #[.int .i64 t.id, .int .i64 t.st, .int .i64 t.snap, .int .i64 t.cs, .slice ra2 t.rs.length rc2, .slice wa2 t.ws.length wc2, .bool t.out, .string t.nm] 27)) (w2.heap.size) [.int .i64 t.id, .int .i64 t.st, .int .i64 t.snap, .int .i64 t.cs, .slice ra2 t.rs.length rc2, .slice wa2 t.ws.length wc2, .bool t.out, .string t.nm]) := Bx.new w2 [.int .i64 t.id, .int .i64 t.st, .int .i64 t.snap, .int .i64 t.cs, .slice ra2 t.rs.length rc2, .slice wa2 t.ws.length wc2, .bool t.out, .string t.nm] 27
  have x0 := OB2.out.c0
  have x1 := OB2.out.c1
  have x2 := OB2.out.c2
  have x3 := OB2.out.c3
  have x4 := OB2.out.c4
  have x5 := OB2.out.c5
  have x6 := OB2.out.c6
  have x7 := OB2.out.c7
  have y0 := OB1.out.c0
  have y1 := OB1.out.c1
  have y2 := OB1.out.c2
  have y3 := OB1.out.c3
  have y4 := OB1.out.c4
  have y5 := OB1.out.c5
  have y6 := OB1.out.c6
  have y7 := OB1.out.c7
  go_wp2_with fail
  refine (eqT t ra2 wa2 ra1 wa1 rc2 wc2 rc1 wc1 (by omega) (by omega) _ T2.out.row T1.out.row).mono ?_
  rintro e w3 ⟨rfl, hb3⟩
  have Z3 : Hid (w2.heap.size + 1 ≤ w3.heap.size) := by show _ ≤ _; have h := hb3.size; simpa using h
  replace HB : Hid (Below w.heap.size w w3) := HB.out.trans (hb3.mono HB.out.size)
  replace T1 : Hid (TLie w3 (w.heap.size) w1.heap.size t ra1 rc1 wa1 wc1) := T1.out.below hb3
  replace OB1 : Hid (Bx w3 (w1.heap.size) [.int .i64 t.id, .int .i64 t.st, .int .i64 t.snap, .int .i64 t.cs, .slice ra1 t.rs.length rc1, .slice wa1 t.ws.length wc1, .bool t.out, .string t.nm]) := OB1.out.below hb3
  replace T2 : Hid (TLie w3 (w1.heap.size + 1) w2.heap.size t ra2 rc2 wa2 wc2) := T2.out.below hb3
  replace OB2 : Hid (Bx w3 (w2.heap.size) [.int .i64 t.id, .int .i64 t.st, .int .i64 t.snap, .int .i64 t.cs, .slice ra2 t.rs.length rc2, .slice wa2 t.ws.length wc2, .bool t.out, .string t.nm]) := OB2.out.below hb3
  clear hb3 x0 x1 x2 x3 x4 x5 x6 x7 y0 y1 y2 y3 y4 y5 y6 y7
  have x0 := OB2.out.c0
  have x1 := OB2.out.c1
  have x2 := OB2.out.c2
  have x3 := OB2.out.c3
  have x4 := OB2.out.c4
  have x5 := OB2.out.c5
  have x6 := OB2.out.c6
  have x7 := OB2.out.c7
  go_wp2_with fail
  refine (markT t ra2 wa2 rc2 wc2 (w1.heap.size + 1) (w2.heap.size) 1 (by omega) (by omega) (by omega) (by omega) _ (by have := Z1.out; have := Z2.out; have := Z3.out; omega) T2.out).mono ?_
  rintro e w4 ⟨rfl, hm, hz4⟩
  have Z4 : Hid (w3.heap.size ≤ w4.heap.size) := hz4.size
  replace HB : Hid (Below w.heap.size w w4) := HB.out.trans (hz4.below (by have := Z1.out; have := Z2.out; have := Z3.out; omega) HB.out.size)
  replace T1 : Hid (TLie w4 (w.heap.size) w1.heap.size t ra1 rc1 wa1 wc1) := T1.out.zn hz4 (by have := Z1.out; have := Z2.out; have := Z3.out; omega)
  replace OB1 : Hid (Bx w4 (w1.heap.size) [.int .i64 t.id, .int .i64 t.st, .int .i64 t.snap, .int .i64 t.cs, .slice ra1 t.rs.length rc1, .slice wa1 t.ws.length wc1, .bool t.out, .string t.nm]) := OB1.out.zn hz4 (by have := Z1.out; have := Z2.out; have := Z3.out; omega)
  replace OB2 : Hid (Bx w4 (w2.heap.size) [.int .i64 t.id, .int .i64 t.st, .int .i64 t.snap, .int .i64 t.cs, .slice ra2 t.rs.length rc2, .slice wa2 t.ws.length wc2, .bool t.out, .string t.nm]) := OB2.out.zn hz4 (by have := Z1.out; have := Z2.out; have := Z3.out; omega)
  have MM : Hid (TLie w4 (w1.heap.size + 1) (w2.heap.size) (mkT t 1) ra2 rc2 wa2 wc2) := hm
  clear hm
  clear hz4 x0 x1 x2 x3 x4 x5 x6 x7 T2
  obtain ⟨K3, hK3⟩ : ∃ K3, K3 = 1 + 2 * t.rs.length + 3 * t.ws.length := ⟨_, rfl⟩
  have HK3 : Hid (K3 = 1 + 2 * t.rs.length + 3 * t.ws.length) := hK3
  rw [← hK3]
  have hK3a : ¬ (K3 : Int) < 0 := by omega
  have hK3b := ne_self_int (K3 : Int)
  clear hK3
  have x0 := OB2.out.c0
  have x1 := OB2.out.c1
  have x2 := OB2.out.c2
  have x3 := OB2.out.c3
  have x4 := OB2.out.c4
  have x5 := OB2.out.c5
  have x6 := OB2.out.c6
  have x7 := OB2.out.c7
  go_wp2_with fail
  refine (heldT t ra2 wa2 rc2 wc2 1 (by omega) (by omega) (by omega) (by omega) _ MM.out.row).mono ?_
  rintro e w5 ⟨rfl, hb5⟩
  have Z5 : Hid (w4.heap.size ≤ w5.heap.size) := by show _ ≤ _; have h := hb5.size; simpa using h
  replace HB : Hid (Below w.heap.size w w5) := HB.out.trans (hb5.mono HB.out.size)
  replace T1 : Hid (TLie w5 (w.heap.size) w1.heap.size t ra1 rc1 wa1 wc1) := T1.out.below hb5
  replace OB1 : Hid (Bx w5 (w1.heap.size) [.int .i64 t.id, .int .i64 t.st, .int .i64 t.snap, .int .i64 t.cs, .slice ra1 t.rs.length rc1, .slice wa1 t.ws.length wc1, .bool t.out, .string t.nm]) := OB1.out.below hb5
  replace OB2 : Hid (Bx w5 (w2.heap.size) [.int .i64 t.id, .int .i64 t.st, .int .i64 t.snap, .int .i64 t.cs, .slice ra2 t.rs.length rc2, .slice wa2 t.ws.length wc2, .bool t.out, .string t.nm]) := OB2.out.below hb5
  replace MM : Hid (TLie w5 (w1.heap.size + 1) (w2.heap.size) (mkT t 1) ra2 rc2 wa2 wc2) := MM.out.below hb5
  rw [← HK3.out]
  clear hb5 x0 x1 x2 x3 x4 x5 x6 x7
  go_wp2_with fail
  refine (CI.out _).mono ?_
  rintro e w6 ⟨ra3, rc3, wa3, wc3, rfl, hl, hb6⟩
  have Z6 : Hid (w5.heap.size ≤ w6.heap.size) := by show _ ≤ _; have h := hb6.size; simpa using h
  replace HB : Hid (Below w.heap.size w w6) := HB.out.trans (hb6.mono HB.out.size)
  replace T1 : Hid (TLie w6 (w.heap.size) w1.heap.size t ra1 rc1 wa1 wc1) := T1.out.below hb6
  replace OB1 : Hid (Bx w6 (w1.heap.size) [.int .i64 t.id, .int .i64 t.st, .int .i64 t.snap, .int .i64 t.cs, .slice ra1 t.rs.length rc1, .slice wa1 t.ws.length wc1, .bool t.out, .string t.nm]) := OB1.out.below hb6
  replace OB2 : Hid (Bx w6 (w2.heap.size) [.int .i64 t.id, .int .i64 t.st, .int .i64 t.snap, .int .i64 t.cs, .slice ra2 t.rs.length rc2, .slice wa2 t.ws.length wc2, .bool t.out, .string t.nm]) := OB2.out.below hb6
  replace MM : Hid (TLie w6 (w1.heap.size + 1) (w2.heap.size) (mkT t 1) ra2 rc2 wa2 wc2) := MM.out.below hb6
  clear hb6
  have T3 : Hid (TLie w6 (w5.heap.size) w6.heap.size t ra3 rc3 wa3 wc3) := hl
  clear hl
  have hba : Below w6.heap.size w6 (w6.alloc (.cells #[.int .i64 t.id, .int .i64 t.st, .int .i64 t.snap, .int .i64 t.cs, .slice ra3 t.rs.length rc3, .slice wa3 t.ws.length wc3, .bool t.out, .string t.nm] 27)) := (belowRefl _).alloc (Nat.le_refl _) _
  replace HB : Hid (Below w.heap.size w (w6.alloc (.cells #[.int .i64 t.id, .int .i64 t.st, .int .i64 t.snap, .int .i64 t.cs, .slice ra3 t.rs.length rc3, .slice wa3 t.ws.length wc3, .bool t.out, .string t.nm] 27))) := HB.out.trans (hba.mono HB.out.size)
  replace T1 : Hid (TLie (w6.alloc (.cells #[.int .i64 t.id, .int .i64 t.st, .int .i64 t.snap, .int .i64 t.cs, .slice ra3 t.rs.length rc3, .slice wa3 t.ws.length wc3, .bool t.out, .string t.nm] 27)) (w.heap.size) w1.heap.size t ra1 rc1 wa1 wc1) := T1.out.below hba
  replace OB1 : Hid (Bx (w6.alloc (.cells #[.int .i64 t.id, .int .i64 t.st, .int .i64 t.snap, .int .i64 t.cs, .slice ra3 t.rs.length rc3, .slice wa3 t.ws.length wc3, .bool t.out, .string t.nm] 27)) (w1.heap.size) [.int .i64 t.id, .int .i64 t.st, .int .i64 t.snap, .int .i64 t.cs, .slice ra1 t.rs.length rc1, .slice wa1 t.ws.length wc1, .bool t.out, .string t.nm]) := OB1.out.below hba
  replace OB2 : Hid (Bx (w6.alloc (.cells #[.int .i64 t.id, .int .i64 t.st, .int .i64 t.snap, .int .i64 t.cs, .slice ra3 t.rs.length rc3, .slice wa3 t.ws.length wc3, .bool t.out, .string t.nm] 27)) (w2.heap.size) [.int .i64 t.id, .int .i64 t.st, .int .i64 t.snap, .int .i64 t.cs, .slice ra2 t.rs.length rc2, .slice wa2 t.ws.length wc2, .bool t.out, .string t.nm]) := OB2.out.below hba
  replace MM : Hid (TLie (w6.alloc (.cells #[.int .i64 t.id, .int .i64 t.st, .int .i64 t.snap, .int .i64 t.cs, .slice ra3 t.rs.length rc3, .slice wa3 t.ws.length wc3, .bool t.out, .string t.nm] 27)) (w1.heap.size + 1) (w2.heap.size) (mkT t 1) ra2 rc2 wa2 wc2) := MM.out.below hba
  replace T3 : Hid (TLie (w6.alloc (.cells #[.int .i64 t.id, .int .i64 t.st, .int .i64 t.snap, .int .i64 t.cs, .slice ra3 t.rs.length rc3, .slice wa3 t.ws.length wc3, .bool t.out, .string t.nm] 27)) (w5.heap.size) w6.heap.size t ra3 rc3 wa3 wc3) := T3.out.below hba
  clear hba
  have OB3 : Hid (Bx (w6.alloc (.cells #[.int .i64 t.id, .int .i64 t.st, .int .i64 t.snap, .int .i64 t.cs, .slice ra3 t.rs.length rc3, .slice wa3 t.ws.length wc3, .bool t.out, .string t.nm] 27)) (w6.heap.size) [.int .i64 t.id, .int .i64 t.st, .int .i64 t.snap, .int .i64 t.cs, .slice ra3 t.rs.length rc3, .slice wa3 t.ws.length wc3, .bool t.out, .string t.nm]) := Bx.new w6 [.int .i64 t.id, .int .i64 t.st, .int .i64 t.snap, .int .i64 t.cs, .slice ra3 t.rs.length rc3, .slice wa3 t.ws.length wc3, .bool t.out, .string t.nm] 27
  have x0 := OB3.out.c0
  have x1 := OB3.out.c1
  have x2 := OB3.out.c2
  have x3 := OB3.out.c3
  have x4 := OB3.out.c4
  have x5 := OB3.out.c5
  have x6 := OB3.out.c6
  have x7 := OB3.out.c7
  have y0 := OB1.out.c0
  have y1 := OB1.out.c1
  have y2 := OB1.out.c2
  have y3 := OB1.out.c3
  have y4 := OB1.out.c4
  have y5 := OB1.out.c5
  have y6 := OB1.out.c6
  have y7 := OB1.out.c7
  go_wp2_with fail
  refine (eqT t ra3 wa3 ra1 wa1 rc3 wc3 rc1 wc1 (by omega) (by omega) _ T3.out.row T1.out.row).mono ?_
  rintro e w7 ⟨rfl, hb7⟩
  have Z7 : Hid (w6.heap.size + 1 ≤ w7.heap.size) := by show _ ≤ _; have h := hb7.size; simpa using h
  replace HB : Hid (Below w.heap.size w w7) := HB.out.trans (hb7.mono HB.out.size)
  replace T1 : Hid (TLie w7 (w.heap.size) w1.heap.size t ra1 rc1 wa1 wc1) := T1.out.below hb7
  replace OB1 : Hid (Bx w7 (w1.heap.size) [.int .i64 t.id, .int .i64 t.st, .int .i64 t.snap, .int .i64 t.cs, .slice ra1 t.rs.length rc1, .slice wa1 t.ws.length wc1, .bool t.out, .string t.nm]) := OB1.out.below hb7
  replace OB2 : Hid (Bx w7 (w2.heap.size) [.int .i64 t.id, .int .i64 t.st, .int .i64 t.snap, .int .i64 t.cs, .slice ra2 t.rs.length rc2, .slice wa2 t.ws.length wc2, .bool t.out, .string t.nm]) := OB2.out.below hb7
  replace MM : Hid (TLie w7 (w1.heap.size + 1) (w2.heap.size) (mkT t 1) ra2 rc2 wa2 wc2) := MM.out.below hb7
  replace T3 : Hid (TLie w7 (w5.heap.size) w6.heap.size t ra3 rc3 wa3 wc3) := T3.out.below hb7
  replace OB3 : Hid (Bx w7 (w6.heap.size) [.int .i64 t.id, .int .i64 t.st, .int .i64 t.snap, .int .i64 t.cs, .slice ra3 t.rs.length rc3, .slice wa3 t.ws.length wc3, .bool t.out, .string t.nm]) := OB3.out.below hb7
  clear hb7 x0 x1 x2 x3 x4 x5 x6 x7 y0 y1 y2 y3 y4 y5 y6 y7
  have x0 := OB2.out.c0
  have x1 := OB2.out.c1
  have x2 := OB2.out.c2
  have x3 := OB2.out.c3
  have x4 := OB2.out.c4
  have x5 := OB2.out.c5
  have x6 := OB2.out.c6
  have x7 := OB2.out.c7
  go_wp2_with fail
  refine (heldT t ra2 wa2 rc2 wc2 1 (by omega) (by omega) (by omega) (by omega) _ MM.out.row).mono ?_
  rintro e w8 ⟨rfl, hb8⟩
  have Z8 : Hid (w7.heap.size ≤ w8.heap.size) := by show _ ≤ _; have h := hb8.size; simpa using h
  replace HB : Hid (Below w.heap.size w w8) := HB.out.trans (hb8.mono HB.out.size)
  replace T1 : Hid (TLie w8 (w.heap.size) w1.heap.size t ra1 rc1 wa1 wc1) := T1.out.below hb8
  replace OB1 : Hid (Bx w8 (w1.heap.size) [.int .i64 t.id, .int .i64 t.st, .int .i64 t.snap, .int .i64 t.cs, .slice ra1 t.rs.length rc1, .slice wa1 t.ws.length wc1, .bool t.out, .string t.nm]) := OB1.out.below hb8
  replace OB2 : Hid (Bx w8 (w2.heap.size) [.int .i64 t.id, .int .i64 t.st, .int .i64 t.snap, .int .i64 t.cs, .slice ra2 t.rs.length rc2, .slice wa2 t.ws.length wc2, .bool t.out, .string t.nm]) := OB2.out.below hb8
  replace MM : Hid (TLie w8 (w1.heap.size + 1) (w2.heap.size) (mkT t 1) ra2 rc2 wa2 wc2) := MM.out.below hb8
  replace T3 : Hid (TLie w8 (w5.heap.size) w6.heap.size t ra3 rc3 wa3 wc3) := T3.out.below hb8
  replace OB3 : Hid (Bx w8 (w6.heap.size) [.int .i64 t.id, .int .i64 t.st, .int .i64 t.snap, .int .i64 t.cs, .slice ra3 t.rs.length rc3, .slice wa3 t.ws.length wc3, .bool t.out, .string t.nm]) := OB3.out.below hb8
  rw [← HK3.out]
  clear hb8 x0 x1 x2 x3 x4 x5 x6 x7
  go_wp2
  go_ret
  exact ⟨rfl, HB.out⟩
end Go.Proofs.Ytblfljmcbpodbaa
