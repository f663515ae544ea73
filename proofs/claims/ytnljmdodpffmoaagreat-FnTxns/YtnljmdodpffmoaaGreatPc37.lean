/- The law FnTxns, walked. -/
import Derived.Test.YtnljmdodpffmoaaGreatPc36
import Derived.Test.YtnljmdodpffmoaaGreatPc34
import Derived.Test.YtnljmdodpffmoaaGreatPc35
import Derived.Test.YtnljmdodpffmoaaGreatPc32
import Derived.Test.YtnljmdodpffmoaaGreatPc08
import Derived.Test.YtnljmdodpffmoaaGreatPc28
import Derived.Test.YtnljmdodpffmoaaGreatPc29
import Derived.Laws.StructEq
import Derived.Deep.Cut
import Derived.Deep.CutRange
import Derived.Deep.RegionHeld3
namespace Go.Proofs.YtnljmdodpffmoaaGreat
open Go.RowKit
open KM
open VM
attribute [local go_sem ↓] Go.wp_at_zero Go.wp_at_succ

set_option maxRecDepth 100000 in
set_option maxHeartbeats 80000000 in
theorem law3 (len cap : Nat) (a : Option Addr) (w : World) (hl0 : len ≤ 9223372036854775807) (hr : CodeRow w a len) :
  Calls Tryz.prog 3 #[.slice a len cap] w fun e w' => e = .returned (.bool true) ∧ Below w.heap.size w w' := by
 have HBG : Hid (∀ W : World, Calls Tryz.prog 4 #[.slice a len cap] W fun e w' => e = .returned (.bool (decide ((1048576 : Int) < (len : Int)))) ∧ w' = W) := fun W => big10 len cap a W
 by_cases hl : len ≤ 1048576
 ·rw [decide_eq_false (by omega)] at HBG
  have D5 := hide0 (fun (W : World) (h : Below w.heap.size w W) => dTxnText len cap a hl W (hr.below h))
  have D8 := hide0 (fun (W : World) (h : Below w.heap.size w W) => dReadTxn len cap a hl W (hr.below h))
  have D10 := hide0 (fun (W : World) (h : Below w.heap.size w W) => dReadRange len cap a hl W (hr.below h))
  have D13 := hide0 (fun (W : World) (h : Below w.heap.size w W) => dWriteKey len cap a hl W (hr.below h))
  have D16 := hide0 (fun (W : World) (h : Below w.heap.size w W) => dOwnGet len cap a hl W (hr.below h))
  clear hr
  go_enter Tryz.func3, Tryz.ntmps3
  go_wp2_with fail
  refine (HBG.out _).mono ?_
  rintro e w ⟨rfl, rfl⟩
  go_wp2_with fail
  refine (D5.out _ (belowRefl _)).mono ?_
  rintro e w1 ⟨t1, ra1, rc1, wa1, wc1, hA, rfl, hr1, hw1, hb⟩
  have HB : Hid (Below w.heap.size w w1) := hb
  have R1 : Hid (TRow w1 t1 ra1 wa1) := ⟨hr1.grow, hw1.grow⟩
  obtain ⟨s1, k1, hs1, hk1, hz1, hq1⟩ := said_of t1
  have HT6 : Hid (∀ W : World, TRow W t1 ra1 wa1 → Calls Tryz.prog 6 #[.agg #[.int .i64 t1.id, .int .i64 t1.st, .int .i64 t1.snap, .int .i64 t1.cs, .slice ra1 t1.rs.length rc1, .slice wa1 t1.ws.length wc1, .bool t1.out, .string t1.nm]] W fun e w' => e = .returned (.tuple #[.string s1, .bool k1]) ∧ Below W.heap.size W w') := fun W h => by
   rw [← hs1]
   exact itext t1 ra1 wa1 rc1 wc1 (Nat.le_trans hA.rl (by omega)) (Nat.le_trans hA.wl (by omega)) W h
  have HS19 : Hid (∀ W : World, TRow W t1 ra1 wa1 → Calls Tryz.prog 19 #[.agg #[.int .i64 t1.id, .int .i64 t1.st, .int .i64 t1.snap, .int .i64 t1.cs, .slice ra1 t1.rs.length rc1, .slice wa1 t1.ws.length wc1, .bool t1.out, .string t1.nm]] W fun e w' => e = .returned (.bool k1) ∧ Below W.heap.size W w') := fun W h => by
   rw [hk1]
   exact stxn t1 ra1 wa1 rc1 wc1 hA.fit W h
  have HI20 : Hid (∀ W : World, TRow W t1 ra1 wa1 → Calls Tryz.prog 20 #[.agg #[.int .i64 t1.id, .int .i64 t1.st, .int .i64 t1.snap, .int .i64 t1.cs, .slice ra1 t1.rs.length rc1, .slice wa1 t1.ws.length wc1, .bool t1.out, .string t1.nm]] W fun e w' => e = .returned (.bool k1) ∧ Below W.heap.size W w') := fun W h => by
   rw [hk1]
   exact itxn t1 ra1 wa1 rc1 wc1 (Nat.le_trans hA.rl (by omega)) (Nat.le_trans hA.wl (by omega)) W h
  obtain ⟨X, hX⟩ : ∃ X : ByteArray, X = ⟨#[97, 98]⟩ ++ s1 ++ ⟨#[99, 100]⟩ := ⟨_, rfl⟩
  have hXz : X.size = s1.size + 4 := by rw [hX, ByteArray.size_append, ByteArray.size_append]; show 2 + s1.size + 2 = _; omega
  have hX1 : ¬ 9223372036854775807 < (⟨#[97, 98]⟩ ++ s1 : ByteArray).size := by rw [ByteArray.size_append]; show ¬ _ < 2 + s1.size; omega
  have hX2 : ¬ 9223372036854775807 < (⟨#[97, 98]⟩ ++ s1 ++ ⟨#[99, 100]⟩ : ByteArray).size := by rw [← hX]; omega
  have hX3 : ¬ 9223372036854775807 < (⟨#[97, 98]⟩ : ByteArray).size + s1.size := by show ¬ _ < 2 + s1.size; omega
  have hX4 : ¬ 9223372036854775807 < (⟨#[97, 98]⟩ ++ s1 : ByteArray).size + (⟨#[99, 100]⟩ : ByteArray).size := by rw [ByteArray.size_append]; show ¬ _ < 2 + s1.size + 2; omega
  have hX5 : ¬ 9223372036854775807 < (⟨#[97, 98]⟩ : ByteArray).size + s1.size + (⟨#[99, 100]⟩ : ByteArray).size := by show ¬ _ < 2 + s1.size + 2; omega
  have HXE : Hid (⟨#[97, 98]⟩ ++ s1 ++ ⟨#[99, 100]⟩ = X) := hX.symm
  obtain ⟨⟨x1, e1, i1⟩, hx1⟩ : ∃ z, ansT (rTx X 2) = z := ⟨_, rfl⟩
  have HX7 : Hid (∀ W : World, Calls Tryz.prog 7 #[.string X, .int .i64 2] W fun e w' => ∃ ra2 rc2 wa2 wc2, e = .returned (.tuple #[.agg #[.int .i64 x1.id, .int .i64 x1.st, .int .i64 x1.snap, .int .i64 x1.cs, .slice ra2 x1.rs.length rc2, .slice wa2 x1.ws.length wc2, .bool x1.out, .string x1.nm], .int .i64 (e1 : Int), .bool i1]) ∧ TRow w' x1 ra2 wa2 ∧ Below W.heap.size W w') := fun W => by
   refine (irt X 2 (by omega) x1 e1 i1 hx1 W).mono ?_
   rintro e w' ⟨f1, f2, f3, f4, he, h1, h2⟩
   exact ⟨f1, f2, f3, f4, he, h1.row, h2⟩
  have HK1 : Hid (k1 = true → x1 = t1 ∧ e1 = 2 + s1.size ∧ i1 = true) := fun h => by
   have h2 := round_trip (t := t1) (s := s1) (X := X) (by rw [← hk1, h]) (hq1 h) (by rw [hX]; simp)
   rw [hx1] at h2
   obtain ⟨h3, h4⟩ := Prod.mk.inj h2
   obtain ⟨h5, h6⟩ := Prod.mk.inj h4
   exact ⟨h3, h5, h6⟩
  have HZ1 : Hid (s1.size ≤ 700000) := hz1
  have HL1 : Hid (t1.rs.length ≤ 4 ∧ t1.ws.length ≤ 4) := ⟨hA.rl, hA.wl⟩
  clear hA hr1 hw1 hb hs1 hk1 hz1 hq1 hX hXz hx1 HBG D5
  have hba : Below w1.heap.size w1 (w1.alloc (.cells #[.int .i64 t1.id, .int .i64 t1.st, .int .i64 t1.snap, .int .i64 t1.cs, .slice ra1 t1.rs.length rc1, .slice wa1 t1.ws.length wc1, .bool t1.out, .string t1.nm] 27)) := (belowRefl w1).alloc (Nat.le_refl _) _
  replace HB := hide (HB.out.trans (hba.mono HB.out.size))
  replace R1 := hide (R1.out.below hba)
  have B3 : Hid (Bx (w1.alloc (.cells #[.int .i64 t1.id, .int .i64 t1.st, .int .i64 t1.snap, .int .i64 t1.cs, .slice ra1 t1.rs.length rc1, .slice wa1 t1.ws.length wc1, .bool t1.out, .string t1.nm] 27)) w1.heap.size [.int .i64 t1.id, .int .i64 t1.st, .int .i64 t1.snap, .int .i64 t1.cs, .slice ra1 t1.rs.length rc1, .slice wa1 t1.ws.length wc1, .bool t1.out, .string t1.nm]) := Bx.new w1 _ 27
  clear hba
  have g0 := B3.out.c0
  have g1 := B3.out.c1
  have g2 := B3.out.c2
  have g3 := B3.out.c3
  have g4 := B3.out.c4
  have g5 := B3.out.c5
  have g6 := B3.out.c6
  have g7 := B3.out.c7
  go_wp2_with fail
  generalize (w1.alloc (.cells #[.int .i64 t1.id, .int .i64 t1.st, .int .i64 t1.snap, .int .i64 t1.cs, .slice ra1 t1.rs.length rc1, .slice wa1 t1.ws.length wc1, .bool t1.out, .string t1.nm] 27)) = v1 at *
  generalize w1.heap.size = X3 at *
  refine (HT6.out _ R1.out).mono ?_
  rintro e w2 ⟨rfl, hb⟩
  replace HB := hide (HB.out.trans (hb.mono HB.out.size))
  replace R1 := hide (R1.out.below hb)
  replace B3 := hide (B3.out.below hb)
  clear hb HT6
  clear g0 g1 g2 g3 g4 g5 g6 g7
  go_wp2_with fail
  rw [HXE.out]
  refine (HX7.out _).mono ?_
  rintro e w3 ⟨ra2, rc2, wa2, wc2, rfl, hrw, hb⟩
  replace HB := hide (HB.out.trans (hb.mono HB.out.size))
  replace R1 := hide (R1.out.below hb)
  replace B3 := hide (B3.out.below hb)
  have R6 : Hid (TRow w3 x1 ra2 wa2) := hrw
  clear hb hrw HX7 hX1 hX2 hX3 hX4 hX5 HXE
  have hba : Below w3.heap.size w3 (w3.alloc (.cells #[.int .i64 x1.id, .int .i64 x1.st, .int .i64 x1.snap, .int .i64 x1.cs, .slice ra2 x1.rs.length rc2, .slice wa2 x1.ws.length wc2, .bool x1.out, .string x1.nm] 27)) := (belowRefl w3).alloc (Nat.le_refl _) _
  replace HB := hide (HB.out.trans (hba.mono HB.out.size))
  replace R1 := hide (R1.out.below hba)
  replace B3 := hide (B3.out.below hba)
  replace R6 := hide (R6.out.below hba)
  have B6 : Hid (Bx (w3.alloc (.cells #[.int .i64 x1.id, .int .i64 x1.st, .int .i64 x1.snap, .int .i64 x1.cs, .slice ra2 x1.rs.length rc2, .slice wa2 x1.ws.length wc2, .bool x1.out, .string x1.nm] 27)) w3.heap.size [.int .i64 x1.id, .int .i64 x1.st, .int .i64 x1.snap, .int .i64 x1.cs, .slice ra2 x1.rs.length rc2, .slice wa2 x1.ws.length wc2, .bool x1.out, .string x1.nm]) := Bx.new w3 _ 27
  clear hba
  go_wp2_with fail
  generalize (w3.alloc (.cells #[.int .i64 x1.id, .int .i64 x1.st, .int .i64 x1.snap, .int .i64 x1.cs, .slice ra2 x1.rs.length rc2, .slice wa2 x1.ws.length wc2, .bool x1.out, .string x1.nm] 27)) = v3 at *
  generalize w3.heap.size = X6 at *
  refine (D8.out _ HB.out).mono ?_
  rintro e w4 ⟨u, q, hu, hq, rfl, hb⟩
  replace HB := hide (HB.out.trans (hb.mono HB.out.size))
  replace R1 := hide (R1.out.below hb)
  replace B3 := hide (B3.out.below hb)
  replace R6 := hide (R6.out.below hb)
  replace B6 := hide (B6.out.below hb)
  obtain ⟨⟨y, n, m⟩, hy⟩ : ∃ z, ansT (rTx u (q : Int)) = z := ⟨_, rfl⟩
  have hyl := ans_len hy
  have HI7 : Hid (∀ W : World, Calls Tryz.prog 7 #[.string u, .int .i64 (q : Int)] W fun e w' => ∃ ra3 rc3 wa3 wc3, e = .returned (.tuple #[.agg #[.int .i64 y.id, .int .i64 y.st, .int .i64 y.snap, .int .i64 y.cs, .slice ra3 y.rs.length rc3, .slice wa3 y.ws.length wc3, .bool y.out, .string y.nm], .int .i64 (n : Int), .bool m]) ∧ TRow w' y ra3 wa3 ∧ Below W.heap.size W w') := fun W => by
   refine (irt u (q : Int) (by omega) y n m hy W).mono ?_
   rintro e w' ⟨f1, f2, f3, f4, he, h1, h2⟩
   exact ⟨f1, f2, f3, f4, he, h1.row, h2⟩
  have HS9 : Hid (∀ W : World, Calls Tryz.prog 9 #[.string u, .int .i64 (q : Int)] W fun e w' => ∃ ra3 rc3 wa3 wc3, e = .returned (.tuple #[.agg #[.int .i64 y.id, .int .i64 y.st, .int .i64 y.snap, .int .i64 y.cs, .slice ra3 y.rs.length rc3, .slice wa3 y.ws.length wc3, .bool y.out, .string y.nm], .int .i64 (n : Int), .bool m]) ∧ Below W.heap.size W w') := fun W => by
   refine (srt u (q : Int) (by omega) y n m hy W).mono ?_
   rintro e w' ⟨f1, f2, f3, f4, he, h1, h2⟩
   exact ⟨f1, f2, f3, f4, he, h2⟩
  obtain ⟨ag, ak, hag, hak, hagz, hagq⟩ := said_of y
  have HT6b : Hid (∀ (W : World) (ra3 : Option Addr) (rc3 : Nat) (wa3 : Option Addr) (wc3 : Nat), TRow W y ra3 wa3 → Calls Tryz.prog 6 #[.agg #[.int .i64 y.id, .int .i64 y.st, .int .i64 y.snap, .int .i64 y.cs, .slice ra3 y.rs.length rc3, .slice wa3 y.ws.length wc3, .bool y.out, .string y.nm]] W fun e w' => e = .returned (.tuple #[.string ag, .bool ak]) ∧ Below W.heap.size W w') := fun W ra3 rc3 wa3 wc3 h => by
   rw [← hag]
   exact itext y ra3 wa3 rc3 wc3 (by omega) (by omega) W h
  obtain ⟨sl, hsl⟩ : ∃ sl : ByteArray, sl = u.extract q u.size := ⟨_, rfl⟩
  have HSL : Hid (sl = u.extract q u.size) := hsl
  have HQU : Hid (m = true → q ≤ u.size) := fun hm => by
   have h2 := hyl.2.2 hm
   have h3 : 0 < (txL y).length := by
    unfold txL
    simp only [List.length_append]
    have := WM.varL_pos y.id.toNat
    omega
   have h4 : (Lx u).drop q = txL y ++ (Lx u).drop n := h2.2
   have h5 := congrArg List.length h4
   simp only [List.length_drop, List.length_append, lx_len] at h5
   omega
  have HG22 : Hid (m = true → ∀ W : World, Calls Tryz.prog 22 #[.string ag, .string sl] W fun e w' => e = .returned (.bool true) ∧ w' = W) := fun hm W => by
   have h2 := hyl.2.2 hm
   have h3 := begins_ok (u := u) (s := ag) (p := q) (HQU.out hm) (hagq (by rw [hak]; exact h2.1)) h2.2
   rw [hsl]
   exact begins22 ag _ h3.1 h3.2 W
  have HU : Hid (u.size ≤ 1000000) := hu
  have HQ1 : Hid (q ≤ 1) := hq
  clear hy hyl hag hak hagz hagq hb hu hq hsl D8
  go_wp2_with fail
  refine (HI7.out _).mono ?_
  rintro e w5 ⟨ra3, rc3, wa3, wc3, rfl, hrw, hb⟩
  replace HB := hide (HB.out.trans (hb.mono HB.out.size))
  replace R1 := hide (R1.out.below hb)
  replace B3 := hide (B3.out.below hb)
  replace R6 := hide (R6.out.below hb)
  replace B6 := hide (B6.out.below hb)
  have R11 : Hid (TRow w5 y ra3 wa3) := hrw
  clear hb hrw HI7
  have hba : Below w5.heap.size w5 (w5.alloc (.cells #[.int .i64 y.id, .int .i64 y.st, .int .i64 y.snap, .int .i64 y.cs, .slice ra3 y.rs.length rc3, .slice wa3 y.ws.length wc3, .bool y.out, .string y.nm] 27)) := (belowRefl w5).alloc (Nat.le_refl _) _
  replace HB := hide (HB.out.trans (hba.mono HB.out.size))
  replace R1 := hide (R1.out.below hba)
  replace B3 := hide (B3.out.below hba)
  replace R6 := hide (R6.out.below hba)
  replace B6 := hide (B6.out.below hba)
  replace R11 := hide (R11.out.below hba)
  have B11 : Hid (Bx (w5.alloc (.cells #[.int .i64 y.id, .int .i64 y.st, .int .i64 y.snap, .int .i64 y.cs, .slice ra3 y.rs.length rc3, .slice wa3 y.ws.length wc3, .bool y.out, .string y.nm] 27)) w5.heap.size [.int .i64 y.id, .int .i64 y.st, .int .i64 y.snap, .int .i64 y.cs, .slice ra3 y.rs.length rc3, .slice wa3 y.ws.length wc3, .bool y.out, .string y.nm]) := Bx.new w5 _ 27
  clear hba
  go_wp2_with fail
  generalize (w5.alloc (.cells #[.int .i64 y.id, .int .i64 y.st, .int .i64 y.snap, .int .i64 y.cs, .slice ra3 y.rs.length rc3, .slice wa3 y.ws.length wc3, .bool y.out, .string y.nm] 27)) = v5 at *
  generalize w5.heap.size = X11 at *
  refine (HS9.out _).mono ?_
  rintro e w6 ⟨ra4, rc4, wa4, wc4, rfl, hb⟩
  replace HB := hide (HB.out.trans (hb.mono HB.out.size))
  replace R1 := hide (R1.out.below hb)
  replace B3 := hide (B3.out.below hb)
  replace R6 := hide (R6.out.below hb)
  replace B6 := hide (B6.out.below hb)
  replace R11 := hide (R11.out.below hb)
  replace B11 := hide (B11.out.below hb)
  clear hb HS9
  have hba : Below w6.heap.size w6 (w6.alloc (.cells #[.int .i64 y.id, .int .i64 y.st, .int .i64 y.snap, .int .i64 y.cs, .slice ra4 y.rs.length rc4, .slice wa4 y.ws.length wc4, .bool y.out, .string y.nm] 27)) := (belowRefl w6).alloc (Nat.le_refl _) _
  replace HB := hide (HB.out.trans (hba.mono HB.out.size))
  replace R1 := hide (R1.out.below hba)
  replace B3 := hide (B3.out.below hba)
  replace R6 := hide (R6.out.below hba)
  replace B6 := hide (B6.out.below hba)
  replace R11 := hide (R11.out.below hba)
  replace B11 := hide (B11.out.below hba)
  have B14 : Hid (Bx (w6.alloc (.cells #[.int .i64 y.id, .int .i64 y.st, .int .i64 y.snap, .int .i64 y.cs, .slice ra4 y.rs.length rc4, .slice wa4 y.ws.length wc4, .bool y.out, .string y.nm] 27)) w6.heap.size [.int .i64 y.id, .int .i64 y.st, .int .i64 y.snap, .int .i64 y.cs, .slice ra4 y.rs.length rc4, .slice wa4 y.ws.length wc4, .bool y.out, .string y.nm]) := Bx.new w6 _ 27
  clear hba
  have g0 := B11.out.c0
  have g1 := B11.out.c1
  have g2 := B11.out.c2
  have g3 := B11.out.c3
  have g4 := B11.out.c4
  have g5 := B11.out.c5
  have g6 := B11.out.c6
  have g7 := B11.out.c7
  go_wp2_with fail
  generalize (w6.alloc (.cells #[.int .i64 y.id, .int .i64 y.st, .int .i64 y.snap, .int .i64 y.cs, .slice ra4 y.rs.length rc4, .slice wa4 y.ws.length wc4, .bool y.out, .string y.nm] 27)) = v6 at *
  generalize w6.heap.size = X14 at *
  refine (HT6b.out _ _ _ _ _ R11.out).mono ?_
  rintro e w7 ⟨rfl, hb⟩
  replace HB := hide (HB.out.trans (hb.mono HB.out.size))
  replace R1 := hide (R1.out.below hb)
  replace B3 := hide (B3.out.below hb)
  replace R6 := hide (R6.out.below hb)
  replace B6 := hide (B6.out.below hb)
  replace R11 := hide (R11.out.below hb)
  replace B11 := hide (B11.out.below hb)
  replace B14 := hide (B14.out.below hb)
  clear g0 g1 g2 g3 g4 g5 g6 g7
  clear hb HT6b B14 B11 R11
  go_wp2_with fail
  refine (D10.out _ HB.out).mono ?_
  rintro e w8 ⟨t5, ra5, rc5, wa5, wc5, r, hT5, h85, hr5, rfl, ho1, ho2, hb⟩
  replace HB := hide (HB.out.trans (hb.mono HB.out.size))
  replace R1 := hide (R1.out.below hb)
  replace B3 := hide (B3.out.below hb)
  replace R6 := hide (R6.out.below hb)
  replace B6 := hide (B6.out.below hb)
  have O1 : Hid (GOwn encR 36 w8 w7.heap.size (.slice ra5 t5.rs.length rc5) t5.rs) := ho1
  have O2 : Hid (GOwn encW 42 w8 w7.heap.size (.slice wa5 t5.ws.length wc5) t5.ws) := ho2
  have HF5 : Hid (TxR t5 ∧ (t5.rs.length = 8 → r ∉ t5.rs) ∧ (r.1.size ≤ 1048576 ∧ r.2.size ≤ 1048576)) := ⟨hT5, h85, by omega, by omega⟩
  have HI11 : Hid (∀ W : World, TRow W t5 ra5 wa5 → Calls Tryz.prog 11 #[.agg #[.int .i64 t5.id, .int .i64 t5.st, .int .i64 t5.snap, .int .i64 t5.cs, .slice ra5 t5.rs.length rc5, .slice wa5 t5.ws.length wc5, .bool t5.out, .string t5.nm], .agg #[.string r.1, .string r.2]] W fun e w' => ∃ (t' : Tx) (b : Bool) (ra1 : Option Addr) (rc1 : Nat) (wa1 : Option Addr) (wc1 : Nat), RA t5 r t' b ∧ e = .returned (.tuple #[.agg #[.int .i64 t'.id, .int .i64 t'.st, .int .i64 t'.snap, .int .i64 t'.cs, .slice ra1 t'.rs.length rc1, .slice wa1 t'.ws.length wc1, .bool t'.out, .string t'.nm], .bool b]) ∧ TRow w' t' ra1 wa1 ∧ Below W.heap.size W w') := fun W h => irr t5 ra5 wa5 rc5 wc5 r HF5.out.1.fit HF5.out.1.rl HF5.out.2.1 HF5.out.2.2 W h
  have HS12 : Hid (∀ (W : World) (l1 l2 : Nat), GOwn encR 36 W l1 (.slice ra5 t5.rs.length rc5) t5.rs → GOwn encW 42 W l2 (.slice wa5 t5.ws.length wc5) t5.ws → Calls Tryz.prog 12 #[.agg #[.int .i64 t5.id, .int .i64 t5.st, .int .i64 t5.snap, .int .i64 t5.cs, .slice ra5 t5.rs.length rc5, .slice wa5 t5.ws.length wc5, .bool t5.out, .string t5.nm], .agg #[.string r.1, .string r.2]] W fun e w' => ∃ (t' : Tx) (b : Bool) (ra1 : Option Addr) (rc1 : Nat) (wa1 : Option Addr) (wc1 : Nat), RA t5 r t' b ∧ e = .returned (.tuple #[.agg #[.int .i64 t'.id, .int .i64 t'.st, .int .i64 t'.snap, .int .i64 t'.cs, .slice ra1 t'.rs.length rc1, .slice wa1 t'.ws.length wc1, .bool t'.out, .string t'.nm], .bool b]) ∧ TRow w' t' ra1 wa1 ∧ Below W.heap.size W w') := fun W l1 l2 h1 h2 => srr t5 ra5 wa5 rc5 wc5 r l1 l2 HF5.out.1.fit HF5.out.1.rl HF5.out.2.1 HF5.out.2.2 W h1 h2
  clear hT5 h85 hr5 ho1 ho2 hb D10
  have hba : Below w8.heap.size w8 (w8.alloc (.cells #[.int .i64 t5.id, .int .i64 t5.st, .int .i64 t5.snap, .int .i64 t5.cs, .slice ra5 t5.rs.length rc5, .slice wa5 t5.ws.length wc5, .bool t5.out, .string t5.nm] 27)) := (belowRefl w8).alloc (Nat.le_refl _) _
  replace HB := hide (HB.out.trans (hba.mono HB.out.size))
  replace R1 := hide (R1.out.below hba)
  replace B3 := hide (B3.out.below hba)
  replace R6 := hide (R6.out.below hba)
  replace B6 := hide (B6.out.below hba)
  replace O1 := hide (O1.out.below hba)
  replace O2 := hide (O2.out.below hba)
  have B19 : Hid (Bx (w8.alloc (.cells #[.int .i64 t5.id, .int .i64 t5.st, .int .i64 t5.snap, .int .i64 t5.cs, .slice ra5 t5.rs.length rc5, .slice wa5 t5.ws.length wc5, .bool t5.out, .string t5.nm] 27)) w8.heap.size [.int .i64 t5.id, .int .i64 t5.st, .int .i64 t5.snap, .int .i64 t5.cs, .slice ra5 t5.rs.length rc5, .slice wa5 t5.ws.length wc5, .bool t5.out, .string t5.nm]) := Bx.new w8 _ 27
  clear hba
  have hba : Below (w8.alloc (.cells #[.int .i64 t5.id, .int .i64 t5.st, .int .i64 t5.snap, .int .i64 t5.cs, .slice ra5 t5.rs.length rc5, .slice wa5 t5.ws.length wc5, .bool t5.out, .string t5.nm] 27)).heap.size (w8.alloc (.cells #[.int .i64 t5.id, .int .i64 t5.st, .int .i64 t5.snap, .int .i64 t5.cs, .slice ra5 t5.rs.length rc5, .slice wa5 t5.ws.length wc5, .bool t5.out, .string t5.nm] 27)) ((w8.alloc (.cells #[.int .i64 t5.id, .int .i64 t5.st, .int .i64 t5.snap, .int .i64 t5.cs, .slice ra5 t5.rs.length rc5, .slice wa5 t5.ws.length wc5, .bool t5.out, .string t5.nm] 27)).alloc (.cells #[.string r.1, .string r.2] 36)) := (belowRefl (w8.alloc (.cells #[.int .i64 t5.id, .int .i64 t5.st, .int .i64 t5.snap, .int .i64 t5.cs, .slice ra5 t5.rs.length rc5, .slice wa5 t5.ws.length wc5, .bool t5.out, .string t5.nm] 27))).alloc (Nat.le_refl _) _
  replace HB := hide (HB.out.trans (hba.mono HB.out.size))
  replace R1 := hide (R1.out.below hba)
  replace B3 := hide (B3.out.below hba)
  replace R6 := hide (R6.out.below hba)
  replace B6 := hide (B6.out.below hba)
  replace O1 := hide (O1.out.below hba)
  replace O2 := hide (O2.out.below hba)
  replace B19 := hide (B19.out.below hba)
  have B20 : Hid (Bx ((w8.alloc (.cells #[.int .i64 t5.id, .int .i64 t5.st, .int .i64 t5.snap, .int .i64 t5.cs, .slice ra5 t5.rs.length rc5, .slice wa5 t5.ws.length wc5, .bool t5.out, .string t5.nm] 27)).alloc (.cells #[.string r.1, .string r.2] 36)) (w8.heap.size + 1) [.string r.1, .string r.2]) := by
   have h := Bx.new (w8.alloc (.cells #[.int .i64 t5.id, .int .i64 t5.st, .int .i64 t5.snap, .int .i64 t5.cs, .slice ra5 t5.rs.length rc5, .slice wa5 t5.ws.length wc5, .bool t5.out, .string t5.nm] 27)) [.string r.1, .string r.2] 36
   rw [World.size_alloc] at h
   exact h
  clear hba
  have g0 := B19.out.c0
  have g1 := B19.out.c1
  have g2 := B19.out.c2
  have g3 := B19.out.c3
  have g4 := B19.out.c4
  have g5 := B19.out.c5
  have g6 := B19.out.c6
  have g7 := B19.out.c7
  have k0 := B20.out.c0
  have k1 := B20.out.c1
  go_wp2_with fail
  generalize ((w8.alloc (.cells #[.int .i64 t5.id, .int .i64 t5.st, .int .i64 t5.snap, .int .i64 t5.cs, .slice ra5 t5.rs.length rc5, .slice wa5 t5.ws.length wc5, .bool t5.out, .string t5.nm] 27)).alloc (.cells #[.string r.1, .string r.2] 36)) = v8 at *
  generalize w8.heap.size = X19 at *
  refine (HI11.out _ ⟨O1.out.grow, O2.out.grow⟩).mono ?_
  rintro e w9 ⟨t6, b6, ra6, rc6, wa6, wc6, hR6, rfl, hrw, hb⟩
  replace HB := hide (HB.out.trans (hb.mono HB.out.size))
  replace R1 := hide (R1.out.below hb)
  replace B3 := hide (B3.out.below hb)
  replace R6 := hide (R6.out.below hb)
  replace B6 := hide (B6.out.below hb)
  replace O1 := hide (O1.out.below hb)
  replace O2 := hide (O2.out.below hb)
  replace B19 := hide (B19.out.below hb)
  replace B20 := hide (B20.out.below hb)
  have R21 : Hid (TRow w9 t6 ra6 wa6) := hrw
  have HR6 : Hid (RA t5 r t6 b6) := hR6
  clear hR6 hrw hb HI11
  clear g0 g1 g2 g3 g4 g5 g6 g7
  clear k0 k1
  have hba : Below w9.heap.size w9 (w9.alloc (.cells #[.int .i64 t6.id, .int .i64 t6.st, .int .i64 t6.snap, .int .i64 t6.cs, .slice ra6 t6.rs.length rc6, .slice wa6 t6.ws.length wc6, .bool t6.out, .string t6.nm] 27)) := (belowRefl w9).alloc (Nat.le_refl _) _
  replace HB := hide (HB.out.trans (hba.mono HB.out.size))
  replace R1 := hide (R1.out.below hba)
  replace B3 := hide (B3.out.below hba)
  replace R6 := hide (R6.out.below hba)
  replace B6 := hide (B6.out.below hba)
  replace O1 := hide (O1.out.below hba)
  replace O2 := hide (O2.out.below hba)
  replace B19 := hide (B19.out.below hba)
  replace B20 := hide (B20.out.below hba)
  replace R21 := hide (R21.out.below hba)
  have B21 : Hid (Bx (w9.alloc (.cells #[.int .i64 t6.id, .int .i64 t6.st, .int .i64 t6.snap, .int .i64 t6.cs, .slice ra6 t6.rs.length rc6, .slice wa6 t6.ws.length wc6, .bool t6.out, .string t6.nm] 27)) w9.heap.size [.int .i64 t6.id, .int .i64 t6.st, .int .i64 t6.snap, .int .i64 t6.cs, .slice ra6 t6.rs.length rc6, .slice wa6 t6.ws.length wc6, .bool t6.out, .string t6.nm]) := Bx.new w9 _ 27
  clear hba
  have g0 := B19.out.c0
  have g1 := B19.out.c1
  have g2 := B19.out.c2
  have g3 := B19.out.c3
  have g4 := B19.out.c4
  have g5 := B19.out.c5
  have g6 := B19.out.c6
  have g7 := B19.out.c7
  have k0 := B20.out.c0
  have k1 := B20.out.c1
  go_wp2_with fail
  generalize (w9.alloc (.cells #[.int .i64 t6.id, .int .i64 t6.st, .int .i64 t6.snap, .int .i64 t6.cs, .slice ra6 t6.rs.length rc6, .slice wa6 t6.ws.length wc6, .bool t6.out, .string t6.nm] 27)) = v9 at *
  generalize w9.heap.size = X21 at *
  refine (HS12.out _ _ _ O1.out O2.out).mono ?_
  rintro e w10 ⟨t7, b7, ra7, rc7, wa7, wc7, hR7, rfl, hrw, hb⟩
  replace HB := hide (HB.out.trans (hb.mono HB.out.size))
  replace R1 := hide (R1.out.below hb)
  replace B3 := hide (B3.out.below hb)
  replace R6 := hide (R6.out.below hb)
  replace B6 := hide (B6.out.below hb)
  replace O1 := hide (O1.out.below hb)
  replace O2 := hide (O2.out.below hb)
  replace B19 := hide (B19.out.below hb)
  replace B20 := hide (B20.out.below hb)
  replace R21 := hide (R21.out.below hb)
  replace B21 := hide (B21.out.below hb)
  clear g0 g1 g2 g3 g4 g5 g6 g7
  clear k0 k1
  obtain ⟨rfl, rfl⟩ := HR6.out.one hR7
  have HL6 := hide (ra_len HR6.out HF5.out.1)
  have R23 : Hid (TRow w10 t6 ra7 wa7) := hrw
  clear hR7 hrw hb HS12 HR6 HF5 O1 O2 B19 B20
  have hba : Below w10.heap.size w10 (w10.alloc (.cells #[.int .i64 t6.id, .int .i64 t6.st, .int .i64 t6.snap, .int .i64 t6.cs, .slice ra7 t6.rs.length rc7, .slice wa7 t6.ws.length wc7, .bool t6.out, .string t6.nm] 27)) := (belowRefl w10).alloc (Nat.le_refl _) _
  replace HB := hide (HB.out.trans (hba.mono HB.out.size))
  replace R1 := hide (R1.out.below hba)
  replace B3 := hide (B3.out.below hba)
  replace R6 := hide (R6.out.below hba)
  replace B6 := hide (B6.out.below hba)
  replace R21 := hide (R21.out.below hba)
  replace B21 := hide (B21.out.below hba)
  replace R23 := hide (R23.out.below hba)
  have B23 : Hid (Bx (w10.alloc (.cells #[.int .i64 t6.id, .int .i64 t6.st, .int .i64 t6.snap, .int .i64 t6.cs, .slice ra7 t6.rs.length rc7, .slice wa7 t6.ws.length wc7, .bool t6.out, .string t6.nm] 27)) w10.heap.size [.int .i64 t6.id, .int .i64 t6.st, .int .i64 t6.snap, .int .i64 t6.cs, .slice ra7 t6.rs.length rc7, .slice wa7 t6.ws.length wc7, .bool t6.out, .string t6.nm]) := Bx.new w10 _ 27
  clear hba
  go_wp2_with fail
  generalize (w10.alloc (.cells #[.int .i64 t6.id, .int .i64 t6.st, .int .i64 t6.snap, .int .i64 t6.cs, .slice ra7 t6.rs.length rc7, .slice wa7 t6.ws.length wc7, .bool t6.out, .string t6.nm] 27)) = v10 at *
  generalize w10.heap.size = X23 at *
  refine (D13.out _ HB.out).mono ?_
  rintro e w11 ⟨t8, ra8, rc8, wa8, wc8, x, hT8, hx8, rfl, ho1, ho2, hb⟩
  replace HB := hide (HB.out.trans (hb.mono HB.out.size))
  replace R1 := hide (R1.out.below hb)
  replace B3 := hide (B3.out.below hb)
  replace R6 := hide (R6.out.below hb)
  replace B6 := hide (B6.out.below hb)
  replace R21 := hide (R21.out.below hb)
  replace B21 := hide (B21.out.below hb)
  replace R23 := hide (R23.out.below hb)
  replace B23 := hide (B23.out.below hb)
  have O3 : Hid (TwoO w11 v10.heap.size v10.heap.size t8 ra8 rc8 wa8 wc8) := ⟨ho1, ho2⟩
  have HX8 : Hid (x.1.size ≤ 1048576 ∧ x.2.1.size ≤ 1048576) := ⟨by have := hx8.1; omega, by have := hx8.2; omega⟩
  have HF8 : Hid (TFit t8) := hT8.fit
  obtain ⟨t9, b9, ht9⟩ : ∃ (t9 : Tx) (b9 : Bool), (wkB t8 x = true ∧ t9 = setW t8 (putS t8.ws x) ∧ b9 = true) ∨ (wkB t8 x = false ∧ t9 = setW t8 t8.ws ∧ b9 = false) := by
   cases h : wkB t8 x
   ·exact ⟨_, _, Or.inr ⟨rfl, rfl, rfl⟩⟩
   ·exact ⟨_, _, Or.inl ⟨rfl, rfl, rfl⟩⟩
  have HL9 : Hid (t9.rs.length ≤ 100000000 ∧ t9.ws.length ≤ 100000000) := wk_len hT8 ht9
  have HI14 : Hid (∀ W : World, TwoO W v10.heap.size v10.heap.size t8 ra8 rc8 wa8 wc8 → Calls Tryz.prog 14 #[.agg #[.int .i64 t8.id, .int .i64 t8.st, .int .i64 t8.snap, .int .i64 t8.cs, .slice ra8 t8.rs.length rc8, .slice wa8 t8.ws.length wc8, .bool t8.out, .string t8.nm], .agg #[.string x.1, .string x.2.1, .bool x.2.2]] W fun e w' => ∃ (ra1 : Option Addr) (rc1 : Nat) (wa1 : Option Addr) (wc1 : Nat), e = .returned (.tuple #[.agg #[.int .i64 t9.id, .int .i64 t9.st, .int .i64 t9.snap, .int .i64 t9.cs, .slice ra1 t9.rs.length rc1, .slice wa1 t9.ws.length wc1, .bool t9.out, .string t9.nm], .bool b9]) ∧ TRow w' t9 ra1 wa1 ∧ Below W.heap.size W w') := fun W h => by
   rcases ht9 with ⟨hb, rfl, rfl⟩ | ⟨hb, rfl, rfl⟩
   ·refine (iwk_yes t8 ra8 wa8 rc8 wc8 x HF8.out HX8.out hb W h.row).mono ?_
    rintro e w' ⟨f1, f2, f3, f4, he, h1, h2⟩
    exact ⟨f1, f2, f3, f4, he, h1.row, h2⟩
   ·refine (iwk_no t8 ra8 wa8 rc8 wc8 x HF8.out HX8.out hb W h.row).mono ?_
    rintro e w' ⟨f1, f2, f3, f4, he, h1, h2⟩
    exact ⟨f1, f2, f3, f4, he, h1.row, h2⟩
  have HS15 : Hid (∀ W : World, TwoO W v10.heap.size v10.heap.size t8 ra8 rc8 wa8 wc8 → Calls Tryz.prog 15 #[.agg #[.int .i64 t8.id, .int .i64 t8.st, .int .i64 t8.snap, .int .i64 t8.cs, .slice ra8 t8.rs.length rc8, .slice wa8 t8.ws.length wc8, .bool t8.out, .string t8.nm], .agg #[.string x.1, .string x.2.1, .bool x.2.2]] W fun e w' => ∃ (ra1 : Option Addr) (rc1 : Nat) (wa1 : Option Addr) (wc1 : Nat), e = .returned (.tuple #[.agg #[.int .i64 t9.id, .int .i64 t9.st, .int .i64 t9.snap, .int .i64 t9.cs, .slice ra1 t9.rs.length rc1, .slice wa1 t9.ws.length wc1, .bool t9.out, .string t9.nm], .bool b9]) ∧ TRow w' t9 ra1 wa1 ∧ Below W.heap.size W w') := fun W h => by
   rcases ht9 with ⟨hb, rfl, rfl⟩ | ⟨hb, rfl, rfl⟩
   ·refine (twk_ok t8 ra8 wa8 rc8 wc8 x _ _ HF8.out HX8.out hb W h).mono ?_
    rintro e w' ⟨f1, f2, f3, f4, he, h1, h2⟩
    exact ⟨f1, f2, f3, f4, he, h1.row, h2⟩
   ·refine (twk_no t8 ra8 wa8 rc8 wc8 x _ _ HF8.out HX8.out hb W h).mono ?_
    rintro e w' ⟨f1, f2, f3, f4, he, h1, h2⟩
    exact ⟨f1, f2, f3, f4, he, h1.row, h2⟩
  clear hT8 hx8 ht9 ho1 ho2 hb HX8 HF8 D13
  have hba : Below w11.heap.size w11 (w11.alloc (.cells #[.int .i64 t8.id, .int .i64 t8.st, .int .i64 t8.snap, .int .i64 t8.cs, .slice ra8 t8.rs.length rc8, .slice wa8 t8.ws.length wc8, .bool t8.out, .string t8.nm] 27)) := (belowRefl w11).alloc (Nat.le_refl _) _
  replace HB := hide (HB.out.trans (hba.mono HB.out.size))
  replace R1 := hide (R1.out.below hba)
  replace B3 := hide (B3.out.below hba)
  replace R6 := hide (R6.out.below hba)
  replace B6 := hide (B6.out.below hba)
  replace R21 := hide (R21.out.below hba)
  replace B21 := hide (B21.out.below hba)
  replace R23 := hide (R23.out.below hba)
  replace B23 := hide (B23.out.below hba)
  replace O3 := hide (O3.out.below hba)
  have B25 : Hid (Bx (w11.alloc (.cells #[.int .i64 t8.id, .int .i64 t8.st, .int .i64 t8.snap, .int .i64 t8.cs, .slice ra8 t8.rs.length rc8, .slice wa8 t8.ws.length wc8, .bool t8.out, .string t8.nm] 27)) w11.heap.size [.int .i64 t8.id, .int .i64 t8.st, .int .i64 t8.snap, .int .i64 t8.cs, .slice ra8 t8.rs.length rc8, .slice wa8 t8.ws.length wc8, .bool t8.out, .string t8.nm]) := Bx.new w11 _ 27
  clear hba
  have hba : Below (w11.alloc (.cells #[.int .i64 t8.id, .int .i64 t8.st, .int .i64 t8.snap, .int .i64 t8.cs, .slice ra8 t8.rs.length rc8, .slice wa8 t8.ws.length wc8, .bool t8.out, .string t8.nm] 27)).heap.size (w11.alloc (.cells #[.int .i64 t8.id, .int .i64 t8.st, .int .i64 t8.snap, .int .i64 t8.cs, .slice ra8 t8.rs.length rc8, .slice wa8 t8.ws.length wc8, .bool t8.out, .string t8.nm] 27)) ((w11.alloc (.cells #[.int .i64 t8.id, .int .i64 t8.st, .int .i64 t8.snap, .int .i64 t8.cs, .slice ra8 t8.rs.length rc8, .slice wa8 t8.ws.length wc8, .bool t8.out, .string t8.nm] 27)).alloc (.cells #[.string x.1, .string x.2.1, .bool x.2.2] 42)) := (belowRefl (w11.alloc (.cells #[.int .i64 t8.id, .int .i64 t8.st, .int .i64 t8.snap, .int .i64 t8.cs, .slice ra8 t8.rs.length rc8, .slice wa8 t8.ws.length wc8, .bool t8.out, .string t8.nm] 27))).alloc (Nat.le_refl _) _
  replace HB := hide (HB.out.trans (hba.mono HB.out.size))
  replace R1 := hide (R1.out.below hba)
  replace B3 := hide (B3.out.below hba)
  replace R6 := hide (R6.out.below hba)
  replace B6 := hide (B6.out.below hba)
  replace R21 := hide (R21.out.below hba)
  replace B21 := hide (B21.out.below hba)
  replace R23 := hide (R23.out.below hba)
  replace B23 := hide (B23.out.below hba)
  replace O3 := hide (O3.out.below hba)
  replace B25 := hide (B25.out.below hba)
  have B26 : Hid (Bx ((w11.alloc (.cells #[.int .i64 t8.id, .int .i64 t8.st, .int .i64 t8.snap, .int .i64 t8.cs, .slice ra8 t8.rs.length rc8, .slice wa8 t8.ws.length wc8, .bool t8.out, .string t8.nm] 27)).alloc (.cells #[.string x.1, .string x.2.1, .bool x.2.2] 42)) (w11.heap.size + 1) [.string x.1, .string x.2.1, .bool x.2.2]) := by
   have h := Bx.new (w11.alloc (.cells #[.int .i64 t8.id, .int .i64 t8.st, .int .i64 t8.snap, .int .i64 t8.cs, .slice ra8 t8.rs.length rc8, .slice wa8 t8.ws.length wc8, .bool t8.out, .string t8.nm] 27)) [.string x.1, .string x.2.1, .bool x.2.2] 42
   rw [World.size_alloc] at h
   exact h
  clear hba
  have g0 := B25.out.c0
  have g1 := B25.out.c1
  have g2 := B25.out.c2
  have g3 := B25.out.c3
  have g4 := B25.out.c4
  have g5 := B25.out.c5
  have g6 := B25.out.c6
  have g7 := B25.out.c7
  have k0 := B26.out.c0
  have k1 := B26.out.c1
  have k2 := B26.out.c2
  go_wp2_with fail
  generalize ((w11.alloc (.cells #[.int .i64 t8.id, .int .i64 t8.st, .int .i64 t8.snap, .int .i64 t8.cs, .slice ra8 t8.rs.length rc8, .slice wa8 t8.ws.length wc8, .bool t8.out, .string t8.nm] 27)).alloc (.cells #[.string x.1, .string x.2.1, .bool x.2.2] 42)) = v11 at *
  generalize w11.heap.size = X25 at *
  refine (HI14.out _ O3.out).mono ?_
  rintro e w12 ⟨ra9, rc9, wa9, wc9, rfl, hrw, hb⟩
  replace HB := hide (HB.out.trans (hb.mono HB.out.size))
  replace R1 := hide (R1.out.below hb)
  replace B3 := hide (B3.out.below hb)
  replace R6 := hide (R6.out.below hb)
  replace B6 := hide (B6.out.below hb)
  replace R21 := hide (R21.out.below hb)
  replace B21 := hide (B21.out.below hb)
  replace R23 := hide (R23.out.below hb)
  replace B23 := hide (B23.out.below hb)
  replace O3 := hide (O3.out.below hb)
  replace B25 := hide (B25.out.below hb)
  replace B26 := hide (B26.out.below hb)
  have R27 : Hid (TRow w12 t9 ra9 wa9) := hrw
  clear hrw hb HI14
  clear g0 g1 g2 g3 g4 g5 g6 g7
  clear k0 k1 k2
  have hba : Below w12.heap.size w12 (w12.alloc (.cells #[.int .i64 t9.id, .int .i64 t9.st, .int .i64 t9.snap, .int .i64 t9.cs, .slice ra9 t9.rs.length rc9, .slice wa9 t9.ws.length wc9, .bool t9.out, .string t9.nm] 27)) := (belowRefl w12).alloc (Nat.le_refl _) _
  replace HB := hide (HB.out.trans (hba.mono HB.out.size))
  replace R1 := hide (R1.out.below hba)
  replace B3 := hide (B3.out.below hba)
  replace R6 := hide (R6.out.below hba)
  replace B6 := hide (B6.out.below hba)
  replace R21 := hide (R21.out.below hba)
  replace B21 := hide (B21.out.below hba)
  replace R23 := hide (R23.out.below hba)
  replace B23 := hide (B23.out.below hba)
  replace O3 := hide (O3.out.below hba)
  replace B25 := hide (B25.out.below hba)
  replace B26 := hide (B26.out.below hba)
  replace R27 := hide (R27.out.below hba)
  have B27 : Hid (Bx (w12.alloc (.cells #[.int .i64 t9.id, .int .i64 t9.st, .int .i64 t9.snap, .int .i64 t9.cs, .slice ra9 t9.rs.length rc9, .slice wa9 t9.ws.length wc9, .bool t9.out, .string t9.nm] 27)) w12.heap.size [.int .i64 t9.id, .int .i64 t9.st, .int .i64 t9.snap, .int .i64 t9.cs, .slice ra9 t9.rs.length rc9, .slice wa9 t9.ws.length wc9, .bool t9.out, .string t9.nm]) := Bx.new w12 _ 27
  clear hba
  have g0 := B25.out.c0
  have g1 := B25.out.c1
  have g2 := B25.out.c2
  have g3 := B25.out.c3
  have g4 := B25.out.c4
  have g5 := B25.out.c5
  have g6 := B25.out.c6
  have g7 := B25.out.c7
  have k0 := B26.out.c0
  have k1 := B26.out.c1
  have k2 := B26.out.c2
  go_wp2_with fail
  generalize (w12.alloc (.cells #[.int .i64 t9.id, .int .i64 t9.st, .int .i64 t9.snap, .int .i64 t9.cs, .slice ra9 t9.rs.length rc9, .slice wa9 t9.ws.length wc9, .bool t9.out, .string t9.nm] 27)) = v12 at *
  generalize w12.heap.size = X27 at *
  refine (HS15.out _ O3.out).mono ?_
  rintro e w13 ⟨ra10, rc10, wa10, wc10, rfl, hrw, hb⟩
  replace HB := hide (HB.out.trans (hb.mono HB.out.size))
  replace R1 := hide (R1.out.below hb)
  replace B3 := hide (B3.out.below hb)
  replace R6 := hide (R6.out.below hb)
  replace B6 := hide (B6.out.below hb)
  replace R21 := hide (R21.out.below hb)
  replace B21 := hide (B21.out.below hb)
  replace R23 := hide (R23.out.below hb)
  replace B23 := hide (B23.out.below hb)
  replace O3 := hide (O3.out.below hb)
  replace B25 := hide (B25.out.below hb)
  replace B26 := hide (B26.out.below hb)
  replace R27 := hide (R27.out.below hb)
  replace B27 := hide (B27.out.below hb)
  have R29 : Hid (TRow w13 t9 ra10 wa10) := hrw
  clear g0 g1 g2 g3 g4 g5 g6 g7
  clear k0 k1 k2
  clear hrw hb HS15 O3 B25 B26
  have hba : Below w13.heap.size w13 (w13.alloc (.cells #[.int .i64 t9.id, .int .i64 t9.st, .int .i64 t9.snap, .int .i64 t9.cs, .slice ra10 t9.rs.length rc10, .slice wa10 t9.ws.length wc10, .bool t9.out, .string t9.nm] 27)) := (belowRefl w13).alloc (Nat.le_refl _) _
  replace HB := hide (HB.out.trans (hba.mono HB.out.size))
  replace R1 := hide (R1.out.below hba)
  replace B3 := hide (B3.out.below hba)
  replace R6 := hide (R6.out.below hba)
  replace B6 := hide (B6.out.below hba)
  replace R21 := hide (R21.out.below hba)
  replace B21 := hide (B21.out.below hba)
  replace R23 := hide (R23.out.below hba)
  replace B23 := hide (B23.out.below hba)
  replace R27 := hide (R27.out.below hba)
  replace B27 := hide (B27.out.below hba)
  replace R29 := hide (R29.out.below hba)
  have B29 : Hid (Bx (w13.alloc (.cells #[.int .i64 t9.id, .int .i64 t9.st, .int .i64 t9.snap, .int .i64 t9.cs, .slice ra10 t9.rs.length rc10, .slice wa10 t9.ws.length wc10, .bool t9.out, .string t9.nm] 27)) w13.heap.size [.int .i64 t9.id, .int .i64 t9.st, .int .i64 t9.snap, .int .i64 t9.cs, .slice ra10 t9.rs.length rc10, .slice wa10 t9.ws.length wc10, .bool t9.out, .string t9.nm]) := Bx.new w13 _ 27
  clear hba
  go_wp2_with fail
  generalize (w13.alloc (.cells #[.int .i64 t9.id, .int .i64 t9.st, .int .i64 t9.snap, .int .i64 t9.cs, .slice ra10 t9.rs.length rc10, .slice wa10 t9.ws.length wc10, .bool t9.out, .string t9.nm] 27)) = v13 at *
  generalize w13.heap.size = X29 at *
  refine (D16.out _ HB.out).mono ?_
  rintro e w14 ⟨tg, ra11, rc11, wa11, wc11, vs, va, vc, ke, hT, hV, hvl, hke, rfl, ho1, ho2, ho3, hb⟩
  replace HB := hide (HB.out.trans (hb.mono HB.out.size))
  replace R1 := hide (R1.out.below hb)
  replace B3 := hide (B3.out.below hb)
  replace R6 := hide (R6.out.below hb)
  replace B6 := hide (B6.out.below hb)
  replace R21 := hide (R21.out.below hb)
  replace B21 := hide (B21.out.below hb)
  replace R23 := hide (R23.out.below hb)
  replace B23 := hide (B23.out.below hb)
  replace R27 := hide (R27.out.below hb)
  replace B27 := hide (B27.out.below hb)
  replace R29 := hide (R29.out.below hb)
  replace B29 := hide (B29.out.below hb)
  have R31 : Hid (TRow w14 tg ra11 wa11) := ⟨ho1.grow, ho2.grow⟩
  have V32 : Hid (GRow encV w14 va vs) := ho3.grow
  obtain ⟨sv, sh, hsv⟩ : ∃ (sv : ByteArray) (sh : Bool), sawB (ownB tg vs ke) = .tuple #[.string sv, .bool sh] := ⟨_, _, rfl⟩
  have HI17 : Hid (∀ W : World, TRow W tg ra11 wa11 → GRow encV W va vs → Calls Tryz.prog 17 #[.agg #[.int .i64 tg.id, .int .i64 tg.st, .int .i64 tg.snap, .int .i64 tg.cs, .slice ra11 tg.rs.length rc11, .slice wa11 tg.ws.length wc11, .bool tg.out, .string tg.nm], .slice va vs.length vc, .string ke] W fun e w' => e = .returned (.tuple #[.string sv, .bool sh]) ∧ Below W.heap.size W w') := fun W h1 h2 => by
   rw [← hsv]
   exact iown tg ra11 wa11 rc11 wc11 vs va vc ke (Nat.le_trans hT.wl (by omega)) hT.fit.2.2.2.1 (by omega) hV W h1.w h2
  have HS18 : Hid (∀ W : World, TRow W tg ra11 wa11 → GRow encV W va vs → Calls Tryz.prog 18 #[.agg #[.int .i64 tg.id, .int .i64 tg.st, .int .i64 tg.snap, .int .i64 tg.cs, .slice ra11 tg.rs.length rc11, .slice wa11 tg.ws.length wc11, .bool tg.out, .string tg.nm], .slice va vs.length vc, .string ke] W fun e w' => e = .returned (.tuple #[.string sv, .bool sh]) ∧ Below W.heap.size W w') := fun W h1 h2 => by
   rw [← hsv]
   exact sown tg ra11 wa11 rc11 wc11 vs va vc ke (Nat.le_trans hT.wl (by omega)) (by omega) W h1.w h2
  clear hT hV hvl hke hsv ho1 ho2 ho3 hb D16
  have hba : Below w14.heap.size w14 (w14.alloc (.cells #[.int .i64 tg.id, .int .i64 tg.st, .int .i64 tg.snap, .int .i64 tg.cs, .slice ra11 tg.rs.length rc11, .slice wa11 tg.ws.length wc11, .bool tg.out, .string tg.nm] 27)) := (belowRefl w14).alloc (Nat.le_refl _) _
  replace HB := hide (HB.out.trans (hba.mono HB.out.size))
  replace R1 := hide (R1.out.below hba)
  replace B3 := hide (B3.out.below hba)
  replace R6 := hide (R6.out.below hba)
  replace B6 := hide (B6.out.below hba)
  replace R21 := hide (R21.out.below hba)
  replace B21 := hide (B21.out.below hba)
  replace R23 := hide (R23.out.below hba)
  replace B23 := hide (B23.out.below hba)
  replace R27 := hide (R27.out.below hba)
  replace B27 := hide (B27.out.below hba)
  replace R29 := hide (R29.out.below hba)
  replace B29 := hide (B29.out.below hba)
  replace R31 := hide (R31.out.below hba)
  replace V32 := hide (V32.out.below hba)
  have B31 : Hid (Bx (w14.alloc (.cells #[.int .i64 tg.id, .int .i64 tg.st, .int .i64 tg.snap, .int .i64 tg.cs, .slice ra11 tg.rs.length rc11, .slice wa11 tg.ws.length wc11, .bool tg.out, .string tg.nm] 27)) w14.heap.size [.int .i64 tg.id, .int .i64 tg.st, .int .i64 tg.snap, .int .i64 tg.cs, .slice ra11 tg.rs.length rc11, .slice wa11 tg.ws.length wc11, .bool tg.out, .string tg.nm]) := Bx.new w14 _ 27
  clear hba
  have g0 := B31.out.c0
  have g1 := B31.out.c1
  have g2 := B31.out.c2
  have g3 := B31.out.c3
  have g4 := B31.out.c4
  have g5 := B31.out.c5
  have g6 := B31.out.c6
  have g7 := B31.out.c7
  go_wp2_with fail
  generalize (w14.alloc (.cells #[.int .i64 tg.id, .int .i64 tg.st, .int .i64 tg.snap, .int .i64 tg.cs, .slice ra11 tg.rs.length rc11, .slice wa11 tg.ws.length wc11, .bool tg.out, .string tg.nm] 27)) = v14 at *
  generalize w14.heap.size = X31 at *
  refine (HI17.out _ R31.out V32.out).mono ?_
  rintro e w15 ⟨rfl, hb⟩
  replace HB := hide (HB.out.trans (hb.mono HB.out.size))
  replace R1 := hide (R1.out.below hb)
  replace B3 := hide (B3.out.below hb)
  replace R6 := hide (R6.out.below hb)
  replace B6 := hide (B6.out.below hb)
  replace R21 := hide (R21.out.below hb)
  replace B21 := hide (B21.out.below hb)
  replace R23 := hide (R23.out.below hb)
  replace B23 := hide (B23.out.below hb)
  replace R27 := hide (R27.out.below hb)
  replace B27 := hide (B27.out.below hb)
  replace R29 := hide (R29.out.below hb)
  replace B29 := hide (B29.out.below hb)
  replace R31 := hide (R31.out.below hb)
  replace V32 := hide (V32.out.below hb)
  replace B31 := hide (B31.out.below hb)
  clear g0 g1 g2 g3 g4 g5 g6 g7
  clear hb HI17
  have g0 := B31.out.c0
  have g1 := B31.out.c1
  have g2 := B31.out.c2
  have g3 := B31.out.c3
  have g4 := B31.out.c4
  have g5 := B31.out.c5
  have g6 := B31.out.c6
  have g7 := B31.out.c7
  go_wp2_with fail
  refine (HS18.out _ R31.out V32.out).mono ?_
  rintro e w16 ⟨rfl, hb⟩
  replace HB := hide (HB.out.trans (hb.mono HB.out.size))
  replace R1 := hide (R1.out.below hb)
  replace B3 := hide (B3.out.below hb)
  replace R6 := hide (R6.out.below hb)
  replace B6 := hide (B6.out.below hb)
  replace R21 := hide (R21.out.below hb)
  replace B21 := hide (B21.out.below hb)
  replace R23 := hide (R23.out.below hb)
  replace B23 := hide (B23.out.below hb)
  replace R27 := hide (R27.out.below hb)
  replace B27 := hide (B27.out.below hb)
  replace R29 := hide (R29.out.below hb)
  replace B29 := hide (B29.out.below hb)
  replace R31 := hide (R31.out.below hb)
  replace V32 := hide (V32.out.below hb)
  replace B31 := hide (B31.out.below hb)
  clear g0 g1 g2 g3 g4 g5 g6 g7
  clear hb HS18 R31 V32 B31
  have HK : Hid (∀ b : Bool, (b == b) = true) := fun b => by cases b <;> rfl
  have hbk := HK.out b6
  have hb9 := HK.out b9
  have hbs := HK.out sh
  have hbm := HK.out m
  have hbk1 := HK.out k1
  have hnn : ((n : Int) == (n : Int)) = true := by simp
  have hss : (sv.toList == sv.toList) = true := by simp
  go_upto_region 19 with fail
  try simp only [List.append_eq, List.cons_append, List.nil_append]
  cases k1 with
  | false =>
   cases m with
   | false =>
    have g0 := B3.out.c0
    have g1 := B3.out.c1
    have g2 := B3.out.c2
    have g3 := B3.out.c3
    have g4 := B3.out.c4
    have g5 := B3.out.c5
    have g6 := B3.out.c6
    have g7 := B3.out.c7
    go_wp2_with fail
    refine (HS19.out _ R1.out).mono ?_
    rintro e y1 ⟨rfl, hb⟩
    replace HB := hide (HB.out.trans (hb.mono HB.out.size))
    replace R1 := hide (R1.out.below hb)
    replace B3 := hide (B3.out.below hb)
    replace R6 := hide (R6.out.below hb)
    replace B6 := hide (B6.out.below hb)
    replace R21 := hide (R21.out.below hb)
    replace B21 := hide (B21.out.below hb)
    replace R23 := hide (R23.out.below hb)
    replace B23 := hide (B23.out.below hb)
    replace R27 := hide (R27.out.below hb)
    replace B27 := hide (B27.out.below hb)
    replace R29 := hide (R29.out.below hb)
    replace B29 := hide (B29.out.below hb)
    clear g0 g1 g2 g3 g4 g5 g6 g7
    clear hb
    have g0 := B3.out.c0
    have g1 := B3.out.c1
    have g2 := B3.out.c2
    have g3 := B3.out.c3
    have g4 := B3.out.c4
    have g5 := B3.out.c5
    have g6 := B3.out.c6
    have g7 := B3.out.c7
    go_wp2_with fail
    refine (HI20.out _ R1.out).mono ?_
    rintro e y2 ⟨rfl, hb⟩
    replace HB := hide (HB.out.trans (hb.mono HB.out.size))
    replace R1 := hide (R1.out.below hb)
    replace B3 := hide (B3.out.below hb)
    replace R6 := hide (R6.out.below hb)
    replace B6 := hide (B6.out.below hb)
    replace R21 := hide (R21.out.below hb)
    replace B21 := hide (B21.out.below hb)
    replace R23 := hide (R23.out.below hb)
    replace B23 := hide (B23.out.below hb)
    replace R27 := hide (R27.out.below hb)
    replace B27 := hide (B27.out.below hb)
    replace R29 := hide (R29.out.below hb)
    replace B29 := hide (B29.out.below hb)
    clear g0 g1 g2 g3 g4 g5 g6 g7
    clear hb
    have g0 := B21.out.c0
    have g1 := B21.out.c1
    have g2 := B21.out.c2
    have g3 := B21.out.c3
    have g4 := B21.out.c4
    have g5 := B21.out.c5
    have g6 := B21.out.c6
    have g7 := B21.out.c7
    have k0 := B23.out.c0
    have k1 := B23.out.c1
    have k2 := B23.out.c2
    have k3 := B23.out.c3
    have k4 := B23.out.c4
    have k5 := B23.out.c5
    have k6 := B23.out.c6
    have k7 := B23.out.c7
    go_wp2_with fail
    refine (sameT21 t6 ra6 wa6 ra7 wa7 rc6 wc6 rc7 wc7 HL6.out.1 HL6.out.2 _ R21.out R23.out).mono ?_
    rintro e y3 ⟨rfl, hb⟩
    replace HB := hide (HB.out.trans (hb.mono HB.out.size))
    replace R1 := hide (R1.out.below hb)
    replace B3 := hide (B3.out.below hb)
    replace R6 := hide (R6.out.below hb)
    replace B6 := hide (B6.out.below hb)
    replace R21 := hide (R21.out.below hb)
    replace B21 := hide (B21.out.below hb)
    replace R23 := hide (R23.out.below hb)
    replace B23 := hide (B23.out.below hb)
    replace R27 := hide (R27.out.below hb)
    replace B27 := hide (B27.out.below hb)
    replace R29 := hide (R29.out.below hb)
    replace B29 := hide (B29.out.below hb)
    clear g0 g1 g2 g3 g4 g5 g6 g7
    clear k0 k1 k2 k3 k4 k5 k6 k7
    clear hb
    have g0 := B27.out.c0
    have g1 := B27.out.c1
    have g2 := B27.out.c2
    have g3 := B27.out.c3
    have g4 := B27.out.c4
    have g5 := B27.out.c5
    have g6 := B27.out.c6
    have g7 := B27.out.c7
    have k0 := B29.out.c0
    have k1 := B29.out.c1
    have k2 := B29.out.c2
    have k3 := B29.out.c3
    have k4 := B29.out.c4
    have k5 := B29.out.c5
    have k6 := B29.out.c6
    have k7 := B29.out.c7
    go_wp2_with fail
    refine (sameT21 t9 ra9 wa9 ra10 wa10 rc9 wc9 rc10 wc10 HL9.out.1 HL9.out.2 _ R27.out R29.out).mono ?_
    rintro e y4 ⟨rfl, hb⟩
    replace HB := hide (HB.out.trans (hb.mono HB.out.size))
    replace R1 := hide (R1.out.below hb)
    replace B3 := hide (B3.out.below hb)
    replace R6 := hide (R6.out.below hb)
    replace B6 := hide (B6.out.below hb)
    replace R21 := hide (R21.out.below hb)
    replace B21 := hide (B21.out.below hb)
    replace R23 := hide (R23.out.below hb)
    replace B23 := hide (B23.out.below hb)
    replace R27 := hide (R27.out.below hb)
    replace B27 := hide (B27.out.below hb)
    replace R29 := hide (R29.out.below hb)
    replace B29 := hide (B29.out.below hb)
    clear g0 g1 g2 g3 g4 g5 g6 g7
    clear k0 k1 k2 k3 k4 k5 k6 k7
    clear hb
    go_wp2
    go_ret
    exact ⟨rfl, HB.out⟩
   | true =>
    have hqs : ((q : Int)) ≤ (u.size : Int) := by have := HQU.out (by first | rfl | trivial); omega
    have hq0 : (0 : Int) ≤ (q : Int) := by omega
    have hext : u.extract q u.size = sl := HSL.out.symm
    have g0 := B3.out.c0
    have g1 := B3.out.c1
    have g2 := B3.out.c2
    have g3 := B3.out.c3
    have g4 := B3.out.c4
    have g5 := B3.out.c5
    have g6 := B3.out.c6
    have g7 := B3.out.c7
    go_wp2_with fail
    refine (HS19.out _ R1.out).mono ?_
    rintro e y1 ⟨rfl, hb⟩
    replace HB := hide (HB.out.trans (hb.mono HB.out.size))
    replace R1 := hide (R1.out.below hb)
    replace B3 := hide (B3.out.below hb)
    replace R6 := hide (R6.out.below hb)
    replace B6 := hide (B6.out.below hb)
    replace R21 := hide (R21.out.below hb)
    replace B21 := hide (B21.out.below hb)
    replace R23 := hide (R23.out.below hb)
    replace B23 := hide (B23.out.below hb)
    replace R27 := hide (R27.out.below hb)
    replace B27 := hide (B27.out.below hb)
    replace R29 := hide (R29.out.below hb)
    replace B29 := hide (B29.out.below hb)
    clear g0 g1 g2 g3 g4 g5 g6 g7
    clear hb
    have g0 := B3.out.c0
    have g1 := B3.out.c1
    have g2 := B3.out.c2
    have g3 := B3.out.c3
    have g4 := B3.out.c4
    have g5 := B3.out.c5
    have g6 := B3.out.c6
    have g7 := B3.out.c7
    go_wp2_with fail
    refine (HI20.out _ R1.out).mono ?_
    rintro e y2 ⟨rfl, hb⟩
    replace HB := hide (HB.out.trans (hb.mono HB.out.size))
    replace R1 := hide (R1.out.below hb)
    replace B3 := hide (B3.out.below hb)
    replace R6 := hide (R6.out.below hb)
    replace B6 := hide (B6.out.below hb)
    replace R21 := hide (R21.out.below hb)
    replace B21 := hide (B21.out.below hb)
    replace R23 := hide (R23.out.below hb)
    replace B23 := hide (B23.out.below hb)
    replace R27 := hide (R27.out.below hb)
    replace B27 := hide (B27.out.below hb)
    replace R29 := hide (R29.out.below hb)
    replace B29 := hide (B29.out.below hb)
    clear g0 g1 g2 g3 g4 g5 g6 g7
    clear hb
    go_wp2_with fail
    refine (HG22.out (by first | rfl | trivial) _).mono ?_
    rintro e y2 ⟨rfl, rfl⟩
    have g0 := B21.out.c0
    have g1 := B21.out.c1
    have g2 := B21.out.c2
    have g3 := B21.out.c3
    have g4 := B21.out.c4
    have g5 := B21.out.c5
    have g6 := B21.out.c6
    have g7 := B21.out.c7
    have k0 := B23.out.c0
    have k1 := B23.out.c1
    have k2 := B23.out.c2
    have k3 := B23.out.c3
    have k4 := B23.out.c4
    have k5 := B23.out.c5
    have k6 := B23.out.c6
    have k7 := B23.out.c7
    go_wp2_with fail
    refine (sameT21 t6 ra6 wa6 ra7 wa7 rc6 wc6 rc7 wc7 HL6.out.1 HL6.out.2 _ R21.out R23.out).mono ?_
    rintro e y4 ⟨rfl, hb⟩
    replace HB := hide (HB.out.trans (hb.mono HB.out.size))
    replace R1 := hide (R1.out.below hb)
    replace B3 := hide (B3.out.below hb)
    replace R6 := hide (R6.out.below hb)
    replace B6 := hide (B6.out.below hb)
    replace R21 := hide (R21.out.below hb)
    replace B21 := hide (B21.out.below hb)
    replace R23 := hide (R23.out.below hb)
    replace B23 := hide (B23.out.below hb)
    replace R27 := hide (R27.out.below hb)
    replace B27 := hide (B27.out.below hb)
    replace R29 := hide (R29.out.below hb)
    replace B29 := hide (B29.out.below hb)
    clear g0 g1 g2 g3 g4 g5 g6 g7
    clear k0 k1 k2 k3 k4 k5 k6 k7
    clear hb
    have g0 := B27.out.c0
    have g1 := B27.out.c1
    have g2 := B27.out.c2
    have g3 := B27.out.c3
    have g4 := B27.out.c4
    have g5 := B27.out.c5
    have g6 := B27.out.c6
    have g7 := B27.out.c7
    have k0 := B29.out.c0
    have k1 := B29.out.c1
    have k2 := B29.out.c2
    have k3 := B29.out.c3
    have k4 := B29.out.c4
    have k5 := B29.out.c5
    have k6 := B29.out.c6
    have k7 := B29.out.c7
    go_wp2_with fail
    refine (sameT21 t9 ra9 wa9 ra10 wa10 rc9 wc9 rc10 wc10 HL9.out.1 HL9.out.2 _ R27.out R29.out).mono ?_
    rintro e y5 ⟨rfl, hb⟩
    replace HB := hide (HB.out.trans (hb.mono HB.out.size))
    replace R1 := hide (R1.out.below hb)
    replace B3 := hide (B3.out.below hb)
    replace R6 := hide (R6.out.below hb)
    replace B6 := hide (B6.out.below hb)
    replace R21 := hide (R21.out.below hb)
    replace B21 := hide (B21.out.below hb)
    replace R23 := hide (R23.out.below hb)
    replace B23 := hide (B23.out.below hb)
    replace R27 := hide (R27.out.below hb)
    replace B27 := hide (B27.out.below hb)
    replace R29 := hide (R29.out.below hb)
    replace B29 := hide (B29.out.below hb)
    clear g0 g1 g2 g3 g4 g5 g6 g7
    clear k0 k1 k2 k3 k4 k5 k6 k7
    clear hb
    go_wp2
    go_ret
    exact ⟨rfl, HB.out⟩
  | true =>
   obtain ⟨hxt, hxe, hxi⟩ := HK1.out rfl
   subst hxt hxe hxi
   have h2l : ((2 + s1.size : Nat) : Int) = 2 + (s1.size : Int) := by omega
   have h2w : IntKind.i64.wrap (2 + (s1.size : Int)) = 2 + (s1.size : Int) := by rw [IntKind.wrap_i64]; have := HZ1.out; omega
   have h2e : ((2 : Int) + (s1.size : Int) == 2 + (s1.size : Int)) = true := by simp
   cases m with
   | false =>
    have g0 := B3.out.c0
    have g1 := B3.out.c1
    have g2 := B3.out.c2
    have g3 := B3.out.c3
    have g4 := B3.out.c4
    have g5 := B3.out.c5
    have g6 := B3.out.c6
    have g7 := B3.out.c7
    go_wp2_with fail
    refine (HS19.out _ R1.out).mono ?_
    rintro e y1 ⟨rfl, hb⟩
    replace HB := hide (HB.out.trans (hb.mono HB.out.size))
    replace R1 := hide (R1.out.below hb)
    replace B3 := hide (B3.out.below hb)
    replace R6 := hide (R6.out.below hb)
    replace B6 := hide (B6.out.below hb)
    replace R21 := hide (R21.out.below hb)
    replace B21 := hide (B21.out.below hb)
    replace R23 := hide (R23.out.below hb)
    replace B23 := hide (B23.out.below hb)
    replace R27 := hide (R27.out.below hb)
    replace B27 := hide (B27.out.below hb)
    replace R29 := hide (R29.out.below hb)
    replace B29 := hide (B29.out.below hb)
    clear g0 g1 g2 g3 g4 g5 g6 g7
    clear hb
    have g0 := B3.out.c0
    have g1 := B3.out.c1
    have g2 := B3.out.c2
    have g3 := B3.out.c3
    have g4 := B3.out.c4
    have g5 := B3.out.c5
    have g6 := B3.out.c6
    have g7 := B3.out.c7
    go_wp2_with fail
    refine (HI20.out _ R1.out).mono ?_
    rintro e y2 ⟨rfl, hb⟩
    replace HB := hide (HB.out.trans (hb.mono HB.out.size))
    replace R1 := hide (R1.out.below hb)
    replace B3 := hide (B3.out.below hb)
    replace R6 := hide (R6.out.below hb)
    replace B6 := hide (B6.out.below hb)
    replace R21 := hide (R21.out.below hb)
    replace B21 := hide (B21.out.below hb)
    replace R23 := hide (R23.out.below hb)
    replace B23 := hide (B23.out.below hb)
    replace R27 := hide (R27.out.below hb)
    replace B27 := hide (B27.out.below hb)
    replace R29 := hide (R29.out.below hb)
    replace B29 := hide (B29.out.below hb)
    clear g0 g1 g2 g3 g4 g5 g6 g7
    clear hb
    have g0 := B6.out.c0
    have g1 := B6.out.c1
    have g2 := B6.out.c2
    have g3 := B6.out.c3
    have g4 := B6.out.c4
    have g5 := B6.out.c5
    have g6 := B6.out.c6
    have g7 := B6.out.c7
    have k0 := B3.out.c0
    have k1 := B3.out.c1
    have k2 := B3.out.c2
    have k3 := B3.out.c3
    have k4 := B3.out.c4
    have k5 := B3.out.c5
    have k6 := B3.out.c6
    have k7 := B3.out.c7
    go_wp2_with fail
    refine (sameT21 x1 ra2 wa2 ra1 wa1 rc2 wc2 rc1 wc1 (by have := HL1.out.1; omega) (by have := HL1.out.2; omega) _ R6.out R1.out).mono ?_
    rintro e y3 ⟨rfl, hb⟩
    replace HB := hide (HB.out.trans (hb.mono HB.out.size))
    replace R1 := hide (R1.out.below hb)
    replace B3 := hide (B3.out.below hb)
    replace R6 := hide (R6.out.below hb)
    replace B6 := hide (B6.out.below hb)
    replace R21 := hide (R21.out.below hb)
    replace B21 := hide (B21.out.below hb)
    replace R23 := hide (R23.out.below hb)
    replace B23 := hide (B23.out.below hb)
    replace R27 := hide (R27.out.below hb)
    replace B27 := hide (B27.out.below hb)
    replace R29 := hide (R29.out.below hb)
    replace B29 := hide (B29.out.below hb)
    clear g0 g1 g2 g3 g4 g5 g6 g7
    clear k0 k1 k2 k3 k4 k5 k6 k7
    clear hb
    have g0 := B21.out.c0
    have g1 := B21.out.c1
    have g2 := B21.out.c2
    have g3 := B21.out.c3
    have g4 := B21.out.c4
    have g5 := B21.out.c5
    have g6 := B21.out.c6
    have g7 := B21.out.c7
    have k0 := B23.out.c0
    have k1 := B23.out.c1
    have k2 := B23.out.c2
    have k3 := B23.out.c3
    have k4 := B23.out.c4
    have k5 := B23.out.c5
    have k6 := B23.out.c6
    have k7 := B23.out.c7
    go_wp2_with fail
    refine (sameT21 t6 ra6 wa6 ra7 wa7 rc6 wc6 rc7 wc7 HL6.out.1 HL6.out.2 _ R21.out R23.out).mono ?_
    rintro e y4 ⟨rfl, hb⟩
    replace HB := hide (HB.out.trans (hb.mono HB.out.size))
    replace R1 := hide (R1.out.below hb)
    replace B3 := hide (B3.out.below hb)
    replace R6 := hide (R6.out.below hb)
    replace B6 := hide (B6.out.below hb)
    replace R21 := hide (R21.out.below hb)
    replace B21 := hide (B21.out.below hb)
    replace R23 := hide (R23.out.below hb)
    replace B23 := hide (B23.out.below hb)
    replace R27 := hide (R27.out.below hb)
    replace B27 := hide (B27.out.below hb)
    replace R29 := hide (R29.out.below hb)
    replace B29 := hide (B29.out.below hb)
    clear g0 g1 g2 g3 g4 g5 g6 g7
    clear k0 k1 k2 k3 k4 k5 k6 k7
    clear hb
    have g0 := B27.out.c0
    have g1 := B27.out.c1
    have g2 := B27.out.c2
    have g3 := B27.out.c3
    have g4 := B27.out.c4
    have g5 := B27.out.c5
    have g6 := B27.out.c6
    have g7 := B27.out.c7
    have k0 := B29.out.c0
    have k1 := B29.out.c1
    have k2 := B29.out.c2
    have k3 := B29.out.c3
    have k4 := B29.out.c4
    have k5 := B29.out.c5
    have k6 := B29.out.c6
    have k7 := B29.out.c7
    go_wp2_with fail
    refine (sameT21 t9 ra9 wa9 ra10 wa10 rc9 wc9 rc10 wc10 HL9.out.1 HL9.out.2 _ R27.out R29.out).mono ?_
    rintro e y5 ⟨rfl, hb⟩
    replace HB := hide (HB.out.trans (hb.mono HB.out.size))
    replace R1 := hide (R1.out.below hb)
    replace B3 := hide (B3.out.below hb)
    replace R6 := hide (R6.out.below hb)
    replace B6 := hide (B6.out.below hb)
    replace R21 := hide (R21.out.below hb)
    replace B21 := hide (B21.out.below hb)
    replace R23 := hide (R23.out.below hb)
    replace B23 := hide (B23.out.below hb)
    replace R27 := hide (R27.out.below hb)
    replace B27 := hide (B27.out.below hb)
    replace R29 := hide (R29.out.below hb)
    replace B29 := hide (B29.out.below hb)
    clear g0 g1 g2 g3 g4 g5 g6 g7
    clear k0 k1 k2 k3 k4 k5 k6 k7
    clear hb
    go_wp2
    go_ret
    exact ⟨rfl, HB.out⟩
   | true =>
    have hqs : ((q : Int)) ≤ (u.size : Int) := by have := HQU.out (by first | rfl | trivial); omega
    have hq0 : (0 : Int) ≤ (q : Int) := by omega
    have hext : u.extract q u.size = sl := HSL.out.symm
    have g0 := B3.out.c0
    have g1 := B3.out.c1
    have g2 := B3.out.c2
    have g3 := B3.out.c3
    have g4 := B3.out.c4
    have g5 := B3.out.c5
    have g6 := B3.out.c6
    have g7 := B3.out.c7
    go_wp2_with fail
    refine (HS19.out _ R1.out).mono ?_
    rintro e y1 ⟨rfl, hb⟩
    replace HB := hide (HB.out.trans (hb.mono HB.out.size))
    replace R1 := hide (R1.out.below hb)
    replace B3 := hide (B3.out.below hb)
    replace R6 := hide (R6.out.below hb)
    replace B6 := hide (B6.out.below hb)
    replace R21 := hide (R21.out.below hb)
    replace B21 := hide (B21.out.below hb)
    replace R23 := hide (R23.out.below hb)
    replace B23 := hide (B23.out.below hb)
    replace R27 := hide (R27.out.below hb)
    replace B27 := hide (B27.out.below hb)
    replace R29 := hide (R29.out.below hb)
    replace B29 := hide (B29.out.below hb)
    clear g0 g1 g2 g3 g4 g5 g6 g7
    clear hb
    have g0 := B3.out.c0
    have g1 := B3.out.c1
    have g2 := B3.out.c2
    have g3 := B3.out.c3
    have g4 := B3.out.c4
    have g5 := B3.out.c5
    have g6 := B3.out.c6
    have g7 := B3.out.c7
    go_wp2_with fail
    refine (HI20.out _ R1.out).mono ?_
    rintro e y2 ⟨rfl, hb⟩
    replace HB := hide (HB.out.trans (hb.mono HB.out.size))
    replace R1 := hide (R1.out.below hb)
    replace B3 := hide (B3.out.below hb)
    replace R6 := hide (R6.out.below hb)
    replace B6 := hide (B6.out.below hb)
    replace R21 := hide (R21.out.below hb)
    replace B21 := hide (B21.out.below hb)
    replace R23 := hide (R23.out.below hb)
    replace B23 := hide (B23.out.below hb)
    replace R27 := hide (R27.out.below hb)
    replace B27 := hide (B27.out.below hb)
    replace R29 := hide (R29.out.below hb)
    replace B29 := hide (B29.out.below hb)
    clear g0 g1 g2 g3 g4 g5 g6 g7
    clear hb
    have g0 := B6.out.c0
    have g1 := B6.out.c1
    have g2 := B6.out.c2
    have g3 := B6.out.c3
    have g4 := B6.out.c4
    have g5 := B6.out.c5
    have g6 := B6.out.c6
    have g7 := B6.out.c7
    have k0 := B3.out.c0
    have k1 := B3.out.c1
    have k2 := B3.out.c2
    have k3 := B3.out.c3
    have k4 := B3.out.c4
    have k5 := B3.out.c5
    have k6 := B3.out.c6
    have k7 := B3.out.c7
    go_wp2_with fail
    refine (sameT21 x1 ra2 wa2 ra1 wa1 rc2 wc2 rc1 wc1 (by have := HL1.out.1; omega) (by have := HL1.out.2; omega) _ R6.out R1.out).mono ?_
    rintro e y3 ⟨rfl, hb⟩
    replace HB := hide (HB.out.trans (hb.mono HB.out.size))
    replace R1 := hide (R1.out.below hb)
    replace B3 := hide (B3.out.below hb)
    replace R6 := hide (R6.out.below hb)
    replace B6 := hide (B6.out.below hb)
    replace R21 := hide (R21.out.below hb)
    replace B21 := hide (B21.out.below hb)
    replace R23 := hide (R23.out.below hb)
    replace B23 := hide (B23.out.below hb)
    replace R27 := hide (R27.out.below hb)
    replace B27 := hide (B27.out.below hb)
    replace R29 := hide (R29.out.below hb)
    replace B29 := hide (B29.out.below hb)
    clear g0 g1 g2 g3 g4 g5 g6 g7
    clear k0 k1 k2 k3 k4 k5 k6 k7
    clear hb
    go_wp2_with fail
    refine (HG22.out (by first | rfl | trivial) _).mono ?_
    rintro e y3 ⟨rfl, rfl⟩
    have g0 := B21.out.c0
    have g1 := B21.out.c1
    have g2 := B21.out.c2
    have g3 := B21.out.c3
    have g4 := B21.out.c4
    have g5 := B21.out.c5
    have g6 := B21.out.c6
    have g7 := B21.out.c7
    have k0 := B23.out.c0
    have k1 := B23.out.c1
    have k2 := B23.out.c2
    have k3 := B23.out.c3
    have k4 := B23.out.c4
    have k5 := B23.out.c5
    have k6 := B23.out.c6
    have k7 := B23.out.c7
    go_wp2_with fail
    refine (sameT21 t6 ra6 wa6 ra7 wa7 rc6 wc6 rc7 wc7 HL6.out.1 HL6.out.2 _ R21.out R23.out).mono ?_
    rintro e y5 ⟨rfl, hb⟩
    replace HB := hide (HB.out.trans (hb.mono HB.out.size))
    replace R1 := hide (R1.out.below hb)
    replace B3 := hide (B3.out.below hb)
    replace R6 := hide (R6.out.below hb)
    replace B6 := hide (B6.out.below hb)
    replace R21 := hide (R21.out.below hb)
    replace B21 := hide (B21.out.below hb)
    replace R23 := hide (R23.out.below hb)
    replace B23 := hide (B23.out.below hb)
    replace R27 := hide (R27.out.below hb)
    replace B27 := hide (B27.out.below hb)
    replace R29 := hide (R29.out.below hb)
    replace B29 := hide (B29.out.below hb)
    clear g0 g1 g2 g3 g4 g5 g6 g7
    clear k0 k1 k2 k3 k4 k5 k6 k7
    clear hb
    have g0 := B27.out.c0
    have g1 := B27.out.c1
    have g2 := B27.out.c2
    have g3 := B27.out.c3
    have g4 := B27.out.c4
    have g5 := B27.out.c5
    have g6 := B27.out.c6
    have g7 := B27.out.c7
    have k0 := B29.out.c0
    have k1 := B29.out.c1
    have k2 := B29.out.c2
    have k3 := B29.out.c3
    have k4 := B29.out.c4
    have k5 := B29.out.c5
    have k6 := B29.out.c6
    have k7 := B29.out.c7
    go_wp2_with fail
    refine (sameT21 t9 ra9 wa9 ra10 wa10 rc9 wc9 rc10 wc10 HL9.out.1 HL9.out.2 _ R27.out R29.out).mono ?_
    rintro e y6 ⟨rfl, hb⟩
    replace HB := hide (HB.out.trans (hb.mono HB.out.size))
    replace R1 := hide (R1.out.below hb)
    replace B3 := hide (B3.out.below hb)
    replace R6 := hide (R6.out.below hb)
    replace B6 := hide (B6.out.below hb)
    replace R21 := hide (R21.out.below hb)
    replace B21 := hide (B21.out.below hb)
    replace R23 := hide (R23.out.below hb)
    replace B23 := hide (B23.out.below hb)
    replace R27 := hide (R27.out.below hb)
    replace B27 := hide (B27.out.below hb)
    replace R29 := hide (R29.out.below hb)
    replace B29 := hide (B29.out.below hb)
    clear g0 g1 g2 g3 g4 g5 g6 g7
    clear k0 k1 k2 k3 k4 k5 k6 k7
    clear hb
    go_wp2
    go_ret
    exact ⟨rfl, HB.out⟩
 ·rw [decide_eq_true (by omega)] at HBG
  go_enter Tryz.func3, Tryz.ntmps3
  go_wp2_with fail
  refine (HBG.out _).mono ?_
  rintro e w ⟨rfl, rfl⟩
  go_wp2
  go_ret
  exact ⟨rfl, belowRefl w⟩
end Go.Proofs.YtnljmdodpffmoaaGreat
