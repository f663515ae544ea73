/- The law FnEdges, walked. -/
import Derived.Test.YthhplblohhkjbaaP3
import Derived.Test.YthhplblohhkjbaaN3
import Derived.Test.YthhplblohhkjbaaU6
import Derived.Deep.CutRange
import Derived.Deep.RegionHeld3
namespace Go.Proofs.Ythhplblohhkjbaa
open Go.RowKit
open KM
attribute [local go_sem ↓] Go.wp_at_zero Go.wp_at_succ

theorem bes_comm (a b : Tx) : besB a b = besB b a := by
  unfold besB
  by_cases h : a.id = b.id
  · simp [h]
  · have h2 : ¬ b.id = a.id := fun e => h e.symm
    simp [h, h2, Bool.and_comm]
theorem ah_self (a : Tx) : ahB a a = false := by simp [ahB, besB]

set_option maxRecDepth 100000 in
set_option maxHeartbeats 8000000 in
theorem law3 (len cap : Nat) (a : Option Addr) (w : World) (hl0 : len ≤ 9223372036854775807) (hr : CodeRow w a len) :
    Calls Try.prog 3 #[.slice a len cap] w fun e w' => e = .returned (.bool true) ∧ Below w.heap.size w w' := by
  have HBG : Hid (∀ W : World, Calls Try.prog 11 #[.slice a len cap] W fun e w' => e = .returned (.bool (decide ((1048576 : Int) < (len : Int)))) ∧ w' = W) := fun W => big10 len cap a W
  have HR : Hid (CodeRow w a len) := hr
  clear hr
  by_cases hl : len ≤ 1048576
  · rw [decide_eq_false (by omega)] at HBG
    go_enter Try.func3, Try.ntmps3
    go_wp2_with fail
    refine (HBG.out _).mono ?_
    rintro e w ⟨rfl, rfl⟩
    have HB : Hid (Below w.heap.size w w) := belowRefl w
    go_wp2_with fail
    refine (dTxns len cap a hl _ HR.out).mono ?_
    rintro e w1 ⟨x, y, hx, hy, hid, rfl, tx, ty, hb⟩
    have HX := hide hx
    have HY := hide hy
    have HID : Hid (y.t.id = x.t.id + 1) := hid
    clear hid
    replace HB : Hid (Below w.heap.size w w1) := HB.out.trans (hb.mono HB.out.size)
    have TX : Hid (TRow w1 x.t x.ra x.wa) := tx.row
    have TY : Hid (TRow w1 y.t y.ra y.wa) := ty.row
    clear hb hx hy tx ty
    go_upto_region 4 with fail
    have hba : Below w1.heap.size w1 ((w1.alloc (.cells #[.int .i64 x.t.id, .int .i64 x.t.st, .int .i64 x.t.snap, .int .i64 x.t.cs, .slice x.ra x.t.rs.length x.rc, .slice x.wa x.t.ws.length x.wc, .bool x.t.out, .string x.t.nm] 27)).alloc (.cells #[.int .i64 y.t.id, .int .i64 y.t.st, .int .i64 y.t.snap, .int .i64 y.t.cs, .slice y.ra y.t.rs.length y.rc, .slice y.wa y.t.ws.length y.wc, .bool y.t.out, .string y.t.nm] 27)) := ((belowRefl w1).alloc (Nat.le_refl _) _).alloc (by simp) _
    replace HB : Hid (Below w.heap.size w ((w1.alloc (.cells #[.int .i64 x.t.id, .int .i64 x.t.st, .int .i64 x.t.snap, .int .i64 x.t.cs, .slice x.ra x.t.rs.length x.rc, .slice x.wa x.t.ws.length x.wc, .bool x.t.out, .string x.t.nm] 27)).alloc (.cells #[.int .i64 y.t.id, .int .i64 y.t.st, .int .i64 y.t.snap, .int .i64 y.t.cs, .slice y.ra y.t.rs.length y.rc, .slice y.wa y.t.ws.length y.wc, .bool y.t.out, .string y.t.nm] 27))) := HB.out.trans (hba.mono HB.out.size)
    replace TX : Hid (TRow ((w1.alloc (.cells #[.int .i64 x.t.id, .int .i64 x.t.st, .int .i64 x.t.snap, .int .i64 x.t.cs, .slice x.ra x.t.rs.length x.rc, .slice x.wa x.t.ws.length x.wc, .bool x.t.out, .string x.t.nm] 27)).alloc (.cells #[.int .i64 y.t.id, .int .i64 y.t.st, .int .i64 y.t.snap, .int .i64 y.t.cs, .slice y.ra y.t.rs.length y.rc, .slice y.wa y.t.ws.length y.wc, .bool y.t.out, .string y.t.nm] 27)) x.t x.ra x.wa) := TX.out.below hba
    replace TY : Hid (TRow ((w1.alloc (.cells #[.int .i64 x.t.id, .int .i64 x.t.st, .int .i64 x.t.snap, .int .i64 x.t.cs, .slice x.ra x.t.rs.length x.rc, .slice x.wa x.t.ws.length x.wc, .bool x.t.out, .string x.t.nm] 27)).alloc (.cells #[.int .i64 y.t.id, .int .i64 y.t.st, .int .i64 y.t.snap, .int .i64 y.t.cs, .slice y.ra y.t.rs.length y.rc, .slice y.wa y.t.ws.length y.wc, .bool y.t.out, .string y.t.nm] 27)) y.t y.ra y.wa) := TY.out.below hba
    clear hba
    have BX : Hid (Bx ((w1.alloc (.cells #[.int .i64 x.t.id, .int .i64 x.t.st, .int .i64 x.t.snap, .int .i64 x.t.cs, .slice x.ra x.t.rs.length x.rc, .slice x.wa x.t.ws.length x.wc, .bool x.t.out, .string x.t.nm] 27)).alloc (.cells #[.int .i64 y.t.id, .int .i64 y.t.st, .int .i64 y.t.snap, .int .i64 y.t.cs, .slice y.ra y.t.rs.length y.rc, .slice y.wa y.t.ws.length y.wc, .bool y.t.out, .string y.t.nm] 27)) w1.heap.size [.int .i64 x.t.id, .int .i64 x.t.st, .int .i64 x.t.snap, .int .i64 x.t.cs, .slice x.ra x.t.rs.length x.rc, .slice x.wa x.t.ws.length x.wc, .bool x.t.out, .string x.t.nm]) := (Bx.new w1 [.int .i64 x.t.id, .int .i64 x.t.st, .int .i64 x.t.snap, .int .i64 x.t.cs, .slice x.ra x.t.rs.length x.rc, .slice x.wa x.t.ws.length x.wc, .bool x.t.out, .string x.t.nm] 27).alloc _
    have BY : Hid (Bx ((w1.alloc (.cells #[.int .i64 x.t.id, .int .i64 x.t.st, .int .i64 x.t.snap, .int .i64 x.t.cs, .slice x.ra x.t.rs.length x.rc, .slice x.wa x.t.ws.length x.wc, .bool x.t.out, .string x.t.nm] 27)).alloc (.cells #[.int .i64 y.t.id, .int .i64 y.t.st, .int .i64 y.t.snap, .int .i64 y.t.cs, .slice y.ra y.t.rs.length y.rc, .slice y.wa y.t.ws.length y.wc, .bool y.t.out, .string y.t.nm] 27)) (w1.heap.size + 1) [.int .i64 y.t.id, .int .i64 y.t.st, .int .i64 y.t.snap, .int .i64 y.t.cs, .slice y.ra y.t.rs.length y.rc, .slice y.wa y.t.ws.length y.wc, .bool y.t.out, .string y.t.nm]) := by have h := Bx.new (w1.alloc (.cells #[.int .i64 x.t.id, .int .i64 x.t.st, .int .i64 x.t.snap, .int .i64 x.t.cs, .slice x.ra x.t.rs.length x.rc, .slice x.wa x.t.ws.length x.wc, .bool x.t.out, .string x.t.nm] 27)) [.int .i64 y.t.id, .int .i64 y.t.st, .int .i64 y.t.snap, .int .i64 y.t.cs, .slice y.ra y.t.rs.length y.rc, .slice y.wa y.t.ws.length y.wc, .bool y.t.out, .string y.t.nm] 27; simpa [Hid] using h
    generalize ((w1.alloc (.cells #[.int .i64 x.t.id, .int .i64 x.t.st, .int .i64 x.t.snap, .int .i64 x.t.cs, .slice x.ra x.t.rs.length x.rc, .slice x.wa x.t.ws.length x.wc, .bool x.t.out, .string x.t.nm] 27)).alloc (.cells #[.int .i64 y.t.id, .int .i64 y.t.st, .int .i64 y.t.snap, .int .i64 y.t.cs, .slice y.ra y.t.rs.length y.rc, .slice y.wa y.t.ws.length y.wc, .bool y.t.out, .string y.t.nm] 27)) = w2 at *
    obtain ⟨ap, hap⟩ : ∃ ap, ap = (seesB y.t x.t || seesB x.t y.t) := ⟨_, rfl⟩
    have HAP : Hid (ap = (seesB y.t x.t || seesB x.t y.t)) := hap
    have HBE : Hid (besB x.t y.t = !ap) := by
      have h1 : ¬ x.t.id = y.t.id := by rw [HID.out]; omega
      show _ = _
      rw [hap]
      simp [besB, h1, Bool.and_comm]
    clear hap
    have CB : Hid (∀ W : World, _) := fun W => ibeside x.t y.t x.ra x.wa x.rc x.wc y.ra y.wa y.rc y.wc W
    rw [HBE.out] at CB
    have x0 := BX.out.c0
    have x1 := BX.out.c1
    have x2 := BX.out.c2
    have x3 := BX.out.c3
    have x4 := BX.out.c4
    have x5 := BX.out.c5
    have x6 := BX.out.c6
    have x7 := BX.out.c7
    have y0 := BY.out.c0
    have y1 := BY.out.c1
    have y2 := BY.out.c2
    have y3 := BY.out.c3
    have y4 := BY.out.c4
    have y5 := BY.out.c5
    have y6 := BY.out.c6
    have y7 := BY.out.c7
    go_wp2_with fail
    refine (CB.out _).mono ?_
    rintro e w3 ⟨rfl, hb⟩
    clear x0 y0 x1 y1 x2 y2 x3 y3 x4 y4 x5 y5 x6 y6 x7 y7
    replace HB : Hid (Below w.heap.size w w3) := HB.out.trans (hb.mono HB.out.size)
    replace TX : Hid (TRow w3 x.t x.ra x.wa) := TX.out.below hb
    replace TY : Hid (TRow w3 y.t y.ra y.wa) := TY.out.below hb
    replace BX : Hid (Bx w3 w1.heap.size [.int .i64 x.t.id, .int .i64 x.t.st, .int .i64 x.t.snap, .int .i64 x.t.cs, .slice x.ra x.t.rs.length x.rc, .slice x.wa x.t.ws.length x.wc, .bool x.t.out, .string x.t.nm]) := BX.out.below hb
    replace BY : Hid (Bx w3 (w1.heap.size + 1) [.int .i64 y.t.id, .int .i64 y.t.st, .int .i64 y.t.snap, .int .i64 y.t.cs, .slice y.ra y.t.rs.length y.rc, .slice y.wa y.t.ws.length y.wc, .bool y.t.out, .string y.t.nm]) := BY.out.below hb
    clear hb
    go_upto_region 5 with fail
    go_cut [6] from 19 to 41 (fun c wx => c = .bool ap ∧ w3 = wx)
    case first =>
      have x1 := BX.out.c1
      have x2 := BX.out.c2
      have x3 := BX.out.c3
      have y1 := BY.out.c1
      have y2 := BY.out.c2
      have y3 := BY.out.c3
      by_cases g1 : x.t.st = 3
      · by_cases g2 : x.t.cs ≤ y.t.snap
        · skip
          have HV : Hid (ap = true) := by show _ = _; rw [HAP.out]; simp [seesB, g1, g2]
          have g1b : (x.t.st == 3) = true := by simp [g1]
          clear g1
          go_wp2
          go_meet
          exact ⟨by rw [HV.out], rfl⟩
        · by_cases k1 : y.t.st = 3
          · by_cases k2 : y.t.cs ≤ x.t.snap
            · skip
              have HV : Hid (ap = true) := by show _ = _; rw [HAP.out]; simp [seesB, g1, g2, k1, k2]
              have g1b : (x.t.st == 3) = true := by simp [g1]
              clear g1
              have k1b : (y.t.st == 3) = true := by simp [k1]
              clear k1
              go_wp2
              go_meet
              exact ⟨by rw [HV.out], rfl⟩
            · skip
              have HV : Hid (ap = false) := by show _ = _; rw [HAP.out]; simp [seesB, g1, g2, k1, k2]
              have g1b : (x.t.st == 3) = true := by simp [g1]
              clear g1
              have k1b : (y.t.st == 3) = true := by simp [k1]
              clear k1
              go_wp2
              go_meet
              exact ⟨by rw [HV.out], rfl⟩
          · skip
            have HV : Hid (ap = false) := by show _ = _; rw [HAP.out]; simp [seesB, g1, g2, k1]
            have g1b : (x.t.st == 3) = true := by simp [g1]
            clear g1
            go_wp2
            go_meet
            exact ⟨by rw [HV.out], rfl⟩
      · by_cases k1 : y.t.st = 3
        · by_cases k2 : y.t.cs ≤ x.t.snap
          · skip
            have HV : Hid (ap = true) := by show _ = _; rw [HAP.out]; simp [seesB, g1, k1, k2]
            have k1b : (y.t.st == 3) = true := by simp [k1]
            clear k1
            go_wp2
            go_meet
            exact ⟨by rw [HV.out], rfl⟩
          · skip
            have HV : Hid (ap = false) := by show _ = _; rw [HAP.out]; simp [seesB, g1, k1, k2]
            have k1b : (y.t.st == 3) = true := by simp [k1]
            clear k1
            go_wp2
            go_meet
            exact ⟨by rw [HV.out], rfl⟩
        · skip
          have HV : Hid (ap = false) := by show _ = _; rw [HAP.out]; simp [seesB, g1, k1]
          go_wp2
          go_meet
          exact ⟨by rw [HV.out], rfl⟩
    case rest =>
      obtain ⟨rfl, rfl⟩ := hcut
      go_wp2_with fail
      refine (dAhead len cap a hl _ (HR.out.below HB.out)).mono ?_
      rintro e w4 ⟨c, d, hc, hd, rfl, tc, td, hb⟩
      have HC := hide hc
      have HD := hide hd
      replace HB : Hid (Below w.heap.size w w4) := HB.out.trans (hb.mono HB.out.size)
      replace TX : Hid (TRow w4 x.t x.ra x.wa) := TX.out.below hb
      replace TY : Hid (TRow w4 y.t y.ra y.wa) := TY.out.below hb
      replace BX : Hid (Bx w4 w1.heap.size [.int .i64 x.t.id, .int .i64 x.t.st, .int .i64 x.t.snap, .int .i64 x.t.cs, .slice x.ra x.t.rs.length x.rc, .slice x.wa x.t.ws.length x.wc, .bool x.t.out, .string x.t.nm]) := BX.out.below hb
      replace BY : Hid (Bx w4 (w1.heap.size + 1) [.int .i64 y.t.id, .int .i64 y.t.st, .int .i64 y.t.snap, .int .i64 y.t.cs, .slice y.ra y.t.rs.length y.rc, .slice y.wa y.t.ws.length y.wc, .bool y.t.out, .string y.t.nm]) := BY.out.below hb
      have TCc : Hid (TRow w4 c.t c.ra c.wa) := tc.row
      have TD : Hid (TRow w4 d.t d.ra d.wa) := td.row
      clear hb hc hd tc td
      go_upto_region 7 with fail
      have hba : Below w4.heap.size w4 ((w4.alloc (.cells #[.int .i64 c.t.id, .int .i64 c.t.st, .int .i64 c.t.snap, .int .i64 c.t.cs, .slice c.ra c.t.rs.length c.rc, .slice c.wa c.t.ws.length c.wc, .bool c.t.out, .string c.t.nm] 27)).alloc (.cells #[.int .i64 d.t.id, .int .i64 d.t.st, .int .i64 d.t.snap, .int .i64 d.t.cs, .slice d.ra d.t.rs.length d.rc, .slice d.wa d.t.ws.length d.wc, .bool d.t.out, .string d.t.nm] 27)) := ((belowRefl w4).alloc (Nat.le_refl _) _).alloc (by simp) _
      replace HB : Hid (Below w.heap.size w ((w4.alloc (.cells #[.int .i64 c.t.id, .int .i64 c.t.st, .int .i64 c.t.snap, .int .i64 c.t.cs, .slice c.ra c.t.rs.length c.rc, .slice c.wa c.t.ws.length c.wc, .bool c.t.out, .string c.t.nm] 27)).alloc (.cells #[.int .i64 d.t.id, .int .i64 d.t.st, .int .i64 d.t.snap, .int .i64 d.t.cs, .slice d.ra d.t.rs.length d.rc, .slice d.wa d.t.ws.length d.wc, .bool d.t.out, .string d.t.nm] 27))) := HB.out.trans (hba.mono HB.out.size)
      replace TX : Hid (TRow ((w4.alloc (.cells #[.int .i64 c.t.id, .int .i64 c.t.st, .int .i64 c.t.snap, .int .i64 c.t.cs, .slice c.ra c.t.rs.length c.rc, .slice c.wa c.t.ws.length c.wc, .bool c.t.out, .string c.t.nm] 27)).alloc (.cells #[.int .i64 d.t.id, .int .i64 d.t.st, .int .i64 d.t.snap, .int .i64 d.t.cs, .slice d.ra d.t.rs.length d.rc, .slice d.wa d.t.ws.length d.wc, .bool d.t.out, .string d.t.nm] 27)) x.t x.ra x.wa) := TX.out.below hba
      replace TY : Hid (TRow ((w4.alloc (.cells #[.int .i64 c.t.id, .int .i64 c.t.st, .int .i64 c.t.snap, .int .i64 c.t.cs, .slice c.ra c.t.rs.length c.rc, .slice c.wa c.t.ws.length c.wc, .bool c.t.out, .string c.t.nm] 27)).alloc (.cells #[.int .i64 d.t.id, .int .i64 d.t.st, .int .i64 d.t.snap, .int .i64 d.t.cs, .slice d.ra d.t.rs.length d.rc, .slice d.wa d.t.ws.length d.wc, .bool d.t.out, .string d.t.nm] 27)) y.t y.ra y.wa) := TY.out.below hba
      replace BX : Hid (Bx ((w4.alloc (.cells #[.int .i64 c.t.id, .int .i64 c.t.st, .int .i64 c.t.snap, .int .i64 c.t.cs, .slice c.ra c.t.rs.length c.rc, .slice c.wa c.t.ws.length c.wc, .bool c.t.out, .string c.t.nm] 27)).alloc (.cells #[.int .i64 d.t.id, .int .i64 d.t.st, .int .i64 d.t.snap, .int .i64 d.t.cs, .slice d.ra d.t.rs.length d.rc, .slice d.wa d.t.ws.length d.wc, .bool d.t.out, .string d.t.nm] 27)) w1.heap.size [.int .i64 x.t.id, .int .i64 x.t.st, .int .i64 x.t.snap, .int .i64 x.t.cs, .slice x.ra x.t.rs.length x.rc, .slice x.wa x.t.ws.length x.wc, .bool x.t.out, .string x.t.nm]) := BX.out.below hba
      replace BY : Hid (Bx ((w4.alloc (.cells #[.int .i64 c.t.id, .int .i64 c.t.st, .int .i64 c.t.snap, .int .i64 c.t.cs, .slice c.ra c.t.rs.length c.rc, .slice c.wa c.t.ws.length c.wc, .bool c.t.out, .string c.t.nm] 27)).alloc (.cells #[.int .i64 d.t.id, .int .i64 d.t.st, .int .i64 d.t.snap, .int .i64 d.t.cs, .slice d.ra d.t.rs.length d.rc, .slice d.wa d.t.ws.length d.wc, .bool d.t.out, .string d.t.nm] 27)) (w1.heap.size + 1) [.int .i64 y.t.id, .int .i64 y.t.st, .int .i64 y.t.snap, .int .i64 y.t.cs, .slice y.ra y.t.rs.length y.rc, .slice y.wa y.t.ws.length y.wc, .bool y.t.out, .string y.t.nm]) := BY.out.below hba
      replace TCc : Hid (TRow ((w4.alloc (.cells #[.int .i64 c.t.id, .int .i64 c.t.st, .int .i64 c.t.snap, .int .i64 c.t.cs, .slice c.ra c.t.rs.length c.rc, .slice c.wa c.t.ws.length c.wc, .bool c.t.out, .string c.t.nm] 27)).alloc (.cells #[.int .i64 d.t.id, .int .i64 d.t.st, .int .i64 d.t.snap, .int .i64 d.t.cs, .slice d.ra d.t.rs.length d.rc, .slice d.wa d.t.ws.length d.wc, .bool d.t.out, .string d.t.nm] 27)) c.t c.ra c.wa) := TCc.out.below hba
      replace TD : Hid (TRow ((w4.alloc (.cells #[.int .i64 c.t.id, .int .i64 c.t.st, .int .i64 c.t.snap, .int .i64 c.t.cs, .slice c.ra c.t.rs.length c.rc, .slice c.wa c.t.ws.length c.wc, .bool c.t.out, .string c.t.nm] 27)).alloc (.cells #[.int .i64 d.t.id, .int .i64 d.t.st, .int .i64 d.t.snap, .int .i64 d.t.cs, .slice d.ra d.t.rs.length d.rc, .slice d.wa d.t.ws.length d.wc, .bool d.t.out, .string d.t.nm] 27)) d.t d.ra d.wa) := TD.out.below hba
      clear hba
      have BC : Hid (Bx ((w4.alloc (.cells #[.int .i64 c.t.id, .int .i64 c.t.st, .int .i64 c.t.snap, .int .i64 c.t.cs, .slice c.ra c.t.rs.length c.rc, .slice c.wa c.t.ws.length c.wc, .bool c.t.out, .string c.t.nm] 27)).alloc (.cells #[.int .i64 d.t.id, .int .i64 d.t.st, .int .i64 d.t.snap, .int .i64 d.t.cs, .slice d.ra d.t.rs.length d.rc, .slice d.wa d.t.ws.length d.wc, .bool d.t.out, .string d.t.nm] 27)) w4.heap.size [.int .i64 c.t.id, .int .i64 c.t.st, .int .i64 c.t.snap, .int .i64 c.t.cs, .slice c.ra c.t.rs.length c.rc, .slice c.wa c.t.ws.length c.wc, .bool c.t.out, .string c.t.nm]) := (Bx.new w4 [.int .i64 c.t.id, .int .i64 c.t.st, .int .i64 c.t.snap, .int .i64 c.t.cs, .slice c.ra c.t.rs.length c.rc, .slice c.wa c.t.ws.length c.wc, .bool c.t.out, .string c.t.nm] 27).alloc _
      have BD : Hid (Bx ((w4.alloc (.cells #[.int .i64 c.t.id, .int .i64 c.t.st, .int .i64 c.t.snap, .int .i64 c.t.cs, .slice c.ra c.t.rs.length c.rc, .slice c.wa c.t.ws.length c.wc, .bool c.t.out, .string c.t.nm] 27)).alloc (.cells #[.int .i64 d.t.id, .int .i64 d.t.st, .int .i64 d.t.snap, .int .i64 d.t.cs, .slice d.ra d.t.rs.length d.rc, .slice d.wa d.t.ws.length d.wc, .bool d.t.out, .string d.t.nm] 27)) (w4.heap.size + 1) [.int .i64 d.t.id, .int .i64 d.t.st, .int .i64 d.t.snap, .int .i64 d.t.cs, .slice d.ra d.t.rs.length d.rc, .slice d.wa d.t.ws.length d.wc, .bool d.t.out, .string d.t.nm]) := by have h := Bx.new (w4.alloc (.cells #[.int .i64 c.t.id, .int .i64 c.t.st, .int .i64 c.t.snap, .int .i64 c.t.cs, .slice c.ra c.t.rs.length c.rc, .slice c.wa c.t.ws.length c.wc, .bool c.t.out, .string c.t.nm] 27)) [.int .i64 d.t.id, .int .i64 d.t.st, .int .i64 d.t.snap, .int .i64 d.t.cs, .slice d.ra d.t.rs.length d.rc, .slice d.wa d.t.ws.length d.wc, .bool d.t.out, .string d.t.nm] 27; simpa [Hid] using h
      generalize ((w4.alloc (.cells #[.int .i64 c.t.id, .int .i64 c.t.st, .int .i64 c.t.snap, .int .i64 c.t.cs, .slice c.ra c.t.rs.length c.rc, .slice c.wa c.t.ws.length c.wc, .bool c.t.out, .string c.t.nm] 27)).alloc (.cells #[.int .i64 d.t.id, .int .i64 d.t.st, .int .i64 d.t.snap, .int .i64 d.t.cs, .slice d.ra d.t.rs.length d.rc, .slice d.wa d.t.ws.length d.wc, .bool d.t.out, .string d.t.nm] 27)) = w5 at *
      have C1 : Hid (∀ W : World, _) := fun W => ibeside y.t x.t y.ra y.wa y.rc y.wc x.ra x.wa x.rc x.wc W
      rw [bes_comm, HBE.out] at C1
      have C2 : Hid (∀ W : World, TRow W x.t x.ra x.wa → TRow W y.t y.ra y.wa → _) := fun W h1 h2 => iahead x.t y.t x.ra x.wa x.rc x.wc y.ra y.wa y.rc y.wc (Nat.le_trans HX.out.fit.1 (by omega)) (Nat.le_trans HY.out.fit.2.2.1 (by omega)) W h1.r h2.w
      have C3 : Hid (∀ W : World, TRow W x.t x.ra x.wa → TRow W y.t y.ra y.wa → _) := fun W h1 h2 => stouch x.t.rs y.t.ws x.ra y.wa x.rc y.wc (Nat.le_trans HX.out.fit.1 (by omega)) (Nat.le_trans HY.out.fit.2.2.1 (by omega)) W h1.r h2.w
      have C4 : Hid (∀ W : World, TRow W c.t c.ra c.wa → TRow W d.t d.ra d.wa → _) := fun W h1 h2 => iahead c.t d.t c.ra c.wa c.rc c.wc d.ra d.wa d.rc d.wc (Nat.le_trans HC.out.fit.1 (by omega)) (Nat.le_trans HD.out.fit.2.2.1 (by omega)) W h1.r h2.w
      have C5 : Hid (∀ W : World, TRow W c.t c.ra c.wa → TRow W d.t d.ra d.wa → _) := fun W h1 h2 => sahead c.t d.t c.ra c.wa c.rc c.wc d.ra d.wa d.rc d.wc (Nat.le_trans HC.out.fit.1 (by omega)) (Nat.le_trans HD.out.fit.2.2.1 (by omega)) W h1.r h2.w
      have C6 : Hid (∀ W : World, _) := fun W => ibeside c.t d.t c.ra c.wa c.rc c.wc d.ra d.wa d.rc d.wc W
      have C7 : Hid (∀ W : World, _) := fun W => sbeside c.t d.t c.ra c.wa c.rc c.wc d.ra d.wa d.rc d.wc W
      have C8 : Hid (∀ W : World, TRow W x.t x.ra x.wa → _) := fun W h1 => iahead x.t x.t x.ra x.wa x.rc x.wc x.ra x.wa x.rc x.wc (Nat.le_trans HX.out.fit.1 (by omega)) (Nat.le_trans HX.out.fit.2.2.1 (by omega)) W h1.r h1.w
      rw [ah_self] at C8
      have HAH : Hid (ahB x.t y.t = (!ap && touchB x.t.rs y.t.ws)) := by show _ = _; unfold ahB; rw [HBE.out]
      rw [HAH.out] at C2
      generalize touchB x.t.rs y.t.ws = tb at *
      generalize ahB c.t d.t = ac at *
      generalize besB c.t d.t = bc at *
      clear HAH HBE HAP CB
      cases ap
      · go_wp2
        (try simp only [List.append_eq, List.cons_append, List.nil_append])
        refine wp_region_held_drew (S := fun w' => w'.cell? ⟨w1.heap.size, 0, none⟩ = some (.int .i64 x.t.id) ∧ w'.cell? ⟨w1.heap.size, 1, none⟩ = some (.int .i64 x.t.st) ∧ w'.cell? ⟨w1.heap.size, 2, none⟩ = some (.int .i64 x.t.snap) ∧ w'.cell? ⟨w1.heap.size, 3, none⟩ = some (.int .i64 x.t.cs) ∧ w'.cell? ⟨w1.heap.size, 4, none⟩ = some (.slice x.ra x.t.rs.length x.rc) ∧ w'.cell? ⟨w1.heap.size, 5, none⟩ = some (.slice x.wa x.t.ws.length x.wc) ∧ w'.cell? ⟨w1.heap.size, 6, none⟩ = some (.bool x.t.out) ∧ w'.cell? ⟨w1.heap.size, 7, none⟩ = some (.string x.t.nm) ∧ w'.cell? ⟨(w1.heap.size + 1), 0, none⟩ = some (.int .i64 y.t.id) ∧ w'.cell? ⟨(w1.heap.size + 1), 1, none⟩ = some (.int .i64 y.t.st) ∧ w'.cell? ⟨(w1.heap.size + 1), 2, none⟩ = some (.int .i64 y.t.snap) ∧ w'.cell? ⟨(w1.heap.size + 1), 3, none⟩ = some (.int .i64 y.t.cs) ∧ w'.cell? ⟨(w1.heap.size + 1), 4, none⟩ = some (.slice y.ra y.t.rs.length y.rc) ∧ w'.cell? ⟨(w1.heap.size + 1), 5, none⟩ = some (.slice y.wa y.t.ws.length y.wc) ∧ w'.cell? ⟨(w1.heap.size + 1), 6, none⟩ = some (.bool y.t.out) ∧ w'.cell? ⟨(w1.heap.size + 1), 7, none⟩ = some (.string y.t.nm) ∧ w'.cell? ⟨w4.heap.size, 0, none⟩ = some (.int .i64 c.t.id) ∧ w'.cell? ⟨w4.heap.size, 1, none⟩ = some (.int .i64 c.t.st) ∧ w'.cell? ⟨w4.heap.size, 2, none⟩ = some (.int .i64 c.t.snap) ∧ w'.cell? ⟨w4.heap.size, 3, none⟩ = some (.int .i64 c.t.cs) ∧ w'.cell? ⟨w4.heap.size, 4, none⟩ = some (.slice c.ra c.t.rs.length c.rc) ∧ w'.cell? ⟨w4.heap.size, 5, none⟩ = some (.slice c.wa c.t.ws.length c.wc) ∧ w'.cell? ⟨w4.heap.size, 6, none⟩ = some (.bool c.t.out) ∧ w'.cell? ⟨w4.heap.size, 7, none⟩ = some (.string c.t.nm) ∧ w'.cell? ⟨(w4.heap.size + 1), 0, none⟩ = some (.int .i64 d.t.id) ∧ w'.cell? ⟨(w4.heap.size + 1), 1, none⟩ = some (.int .i64 d.t.st) ∧ w'.cell? ⟨(w4.heap.size + 1), 2, none⟩ = some (.int .i64 d.t.snap) ∧ w'.cell? ⟨(w4.heap.size + 1), 3, none⟩ = some (.int .i64 d.t.cs) ∧ w'.cell? ⟨(w4.heap.size + 1), 4, none⟩ = some (.slice d.ra d.t.rs.length d.rc) ∧ w'.cell? ⟨(w4.heap.size + 1), 5, none⟩ = some (.slice d.wa d.t.ws.length d.wc) ∧ w'.cell? ⟨(w4.heap.size + 1), 6, none⟩ = some (.bool d.t.out) ∧ w'.cell? ⟨(w4.heap.size + 1), 7, none⟩ = some (.string d.t.nm)) (by kernel_rfl) ⟨BX.out.c0, BX.out.c1, BX.out.c2, BX.out.c3, BX.out.c4, BX.out.c5, BX.out.c6, BX.out.c7, BY.out.c0, BY.out.c1, BY.out.c2, BY.out.c3, BY.out.c4, BY.out.c5, BY.out.c6, BY.out.c7, BC.out.c0, BC.out.c1, BC.out.c2, BC.out.c3, BC.out.c4, BC.out.c5, BC.out.c6, BC.out.c7, BD.out.c0, BD.out.c1, BD.out.c2, BD.out.c3, BD.out.c4, BD.out.c5, BD.out.c6, BD.out.c7⟩ (fun hHeld => ?_)
        (refine wpAnyH_take (i := 0) (v := ?_) rfl (by kernel_rfl) (by kernel_rfl) (by kernel_rfl) (fun _ _ _ h => h) (Or.inl ⟨by rfl, ?_⟩) (by assumption) ?_; rotate_left; (focus (intro w hSw; (try dsimp only at hSw); go_simp; (try with_reducible rfl); done)); simp only [Act.put, List.getElem_toArray, List.getElem_cons_zero, List.setIfInBounds_toArray, List.set_cons_zero, List.set_cons_succ])
        (refine wpAnyH_take (i := 1) (v := ?_) rfl (by kernel_rfl) (by kernel_rfl) (by kernel_rfl) (fun _ _ _ h => h) (Or.inl ⟨by rfl, ?_⟩) (by assumption) ?_; rotate_left; (focus (intro w hSw; (try dsimp only at hSw); go_simp; (try with_reducible rfl); done)); simp only [Act.put, List.getElem_toArray, List.getElem_cons_zero, List.getElem_cons_succ, List.setIfInBounds_toArray, List.set_cons_zero, List.set_cons_succ])
        (refine wpAnyH_take (i := 2) (v := ?_) rfl (by kernel_rfl) (by kernel_rfl) (by kernel_rfl) (fun _ _ _ h => h) (Or.inl ⟨by rfl, ?_⟩) (by assumption) ?_; rotate_left; (focus (intro w hSw; (try dsimp only at hSw); go_simp; (try with_reducible rfl); done)); simp only [Act.put, List.getElem_toArray, List.getElem_cons_zero, List.getElem_cons_succ, List.setIfInBounds_toArray, List.set_cons_zero, List.set_cons_succ])
        (refine wpAnyH_take (i := 3) (v := ?_) rfl (by kernel_rfl) (by kernel_rfl) (by kernel_rfl) (fun _ _ _ h => h) (Or.inl ⟨by rfl, ?_⟩) (by assumption) ?_; rotate_left; (focus (intro w hSw; (try dsimp only at hSw); go_simp; (try with_reducible rfl); done)); simp only [Act.put, List.getElem_toArray, List.getElem_cons_zero, List.getElem_cons_succ, List.setIfInBounds_toArray, List.set_cons_zero, List.set_cons_succ])
        (refine wpAnyH_take (i := 4) (v := ?_) rfl (by kernel_rfl) (by kernel_rfl) (by kernel_rfl) (fun _ _ _ h => h) (Or.inl ⟨by rfl, ?_⟩) (by assumption) ?_; rotate_left; (focus (intro w hSw; (try dsimp only at hSw); go_simp; (try with_reducible rfl); done)); simp only [Act.put, List.getElem_toArray, List.getElem_cons_zero, List.getElem_cons_succ, List.setIfInBounds_toArray, List.set_cons_zero, List.set_cons_succ])
        (refine wpAnyH_take (i := 5) (v := ?_) rfl (by kernel_rfl) (by kernel_rfl) (by kernel_rfl) (fun _ _ _ h => h) (Or.inl ⟨by rfl, ?_⟩) (by assumption) ?_; rotate_left; (focus (intro w hSw; (try dsimp only at hSw); go_simp; (try with_reducible rfl); done)); simp only [Act.put, List.getElem_toArray, List.getElem_cons_zero, List.getElem_cons_succ, List.setIfInBounds_toArray, List.set_cons_zero, List.set_cons_succ])
        (refine wpAnyH_take (i := 6) (v := ?_) rfl (by kernel_rfl) (by kernel_rfl) (by kernel_rfl) (fun _ _ _ h => h) (Or.inl ⟨by rfl, ?_⟩) (by assumption) ?_; rotate_left; (focus (intro w hSw; (try dsimp only at hSw); go_simp; (try with_reducible rfl); done)); simp only [Act.put, List.getElem_toArray, List.getElem_cons_zero, List.getElem_cons_succ, List.setIfInBounds_toArray, List.set_cons_zero, List.set_cons_succ])
        (refine wpAnyH_take (i := 7) (v := ?_) rfl (by kernel_rfl) (by kernel_rfl) (by kernel_rfl) (fun _ _ _ h => h) (Or.inl ⟨by rfl, ?_⟩) (by assumption) ?_; rotate_left; (focus (intro w hSw; (try dsimp only at hSw); go_simp; (try with_reducible rfl); done)); simp only [Act.put, List.getElem_toArray, List.getElem_cons_zero, List.getElem_cons_succ, List.setIfInBounds_toArray, List.set_cons_zero, List.set_cons_succ])
        refine wpAnyH_ready (rs := [8]) (by kernel_rfl) (by simp) ?_
        refine AllReadyH.cons rfl (fun K hK => ?_) AllReadyH.nil
        go_simp
        go_wp2_with fail
        refine (C1.out _).mono ?_
        rintro e w6 ⟨rfl, hb0⟩
        have hb := undrew hb0
        replace HB : Hid (Below w.heap.size w w6) := HB.out.trans (hb.mono HB.out.size)
        replace TX : Hid (TRow w6 x.t x.ra x.wa) := TX.out.below hb
        replace TY : Hid (TRow w6 y.t y.ra y.wa) := TY.out.below hb
        replace BX : Hid (Bx w6 w1.heap.size [.int .i64 x.t.id, .int .i64 x.t.st, .int .i64 x.t.snap, .int .i64 x.t.cs, .slice x.ra x.t.rs.length x.rc, .slice x.wa x.t.ws.length x.wc, .bool x.t.out, .string x.t.nm]) := BX.out.below hb
        replace BY : Hid (Bx w6 (w1.heap.size + 1) [.int .i64 y.t.id, .int .i64 y.t.st, .int .i64 y.t.snap, .int .i64 y.t.cs, .slice y.ra y.t.rs.length y.rc, .slice y.wa y.t.ws.length y.wc, .bool y.t.out, .string y.t.nm]) := BY.out.below hb
        replace TCc : Hid (TRow w6 c.t c.ra c.wa) := TCc.out.below hb
        replace TD : Hid (TRow w6 d.t d.ra d.wa) := TD.out.below hb
        replace BC : Hid (Bx w6 w4.heap.size [.int .i64 c.t.id, .int .i64 c.t.st, .int .i64 c.t.snap, .int .i64 c.t.cs, .slice c.ra c.t.rs.length c.rc, .slice c.wa c.t.ws.length c.wc, .bool c.t.out, .string c.t.nm]) := BC.out.below hb
        replace BD : Hid (Bx w6 (w4.heap.size + 1) [.int .i64 d.t.id, .int .i64 d.t.st, .int .i64 d.t.snap, .int .i64 d.t.cs, .slice d.ra d.t.rs.length d.rc, .slice d.wa d.t.ws.length d.wc, .bool d.t.out, .string d.t.nm]) := BD.out.below hb
        go_wp2_with fail
        refine hK.out _ _ ⟨BX.out.c0, BX.out.c1, BX.out.c2, BX.out.c3, BX.out.c4, BX.out.c5, BX.out.c6, BX.out.c7, BY.out.c0, BY.out.c1, BY.out.c2, BY.out.c3, BY.out.c4, BY.out.c5, BY.out.c6, BY.out.c7, BC.out.c0, BC.out.c1, BC.out.c2, BC.out.c3, BC.out.c4, BC.out.c5, BC.out.c6, BC.out.c7, BD.out.c0, BD.out.c1, BD.out.c2, BD.out.c3, BD.out.c4, BD.out.c5, BD.out.c6, BD.out.c7⟩ (fun hHeld => ?_)
        clear hK K hb hb0
        (refine wpAnyH_take (i := 9) (v := ?_) rfl (by kernel_rfl) (by kernel_rfl) (by kernel_rfl) (fun _ _ _ h => h) (Or.inl ⟨by rfl, ?_⟩) (by assumption) ?_; rotate_left; (focus (intro w hSw; (try dsimp only at hSw); go_simp; (try with_reducible rfl); done)); simp only [Act.put, List.getElem_toArray, List.getElem_cons_zero, List.getElem_cons_succ, List.setIfInBounds_toArray, List.set_cons_zero, List.set_cons_succ])
        (refine wpAnyH_take (i := 10) (v := ?_) rfl (by kernel_rfl) (by kernel_rfl) (by kernel_rfl) (fun _ _ _ h => h) (Or.inl ⟨by rfl, ?_⟩) (by assumption) ?_; rotate_left; (focus (intro w hSw; (try dsimp only at hSw); go_simp; (try with_reducible rfl); done)); simp only [Act.put, List.getElem_toArray, List.getElem_cons_zero, List.getElem_cons_succ, List.setIfInBounds_toArray, List.set_cons_zero, List.set_cons_succ])
        (refine wpAnyH_take (i := 11) (v := ?_) rfl (by kernel_rfl) (by kernel_rfl) (by kernel_rfl) (fun _ _ _ h => h) (Or.inl ⟨by rfl, ?_⟩) (by assumption) ?_; rotate_left; (focus (intro w hSw; (try dsimp only at hSw); go_simp; (try with_reducible rfl); done)); simp only [Act.put, List.getElem_toArray, List.getElem_cons_zero, List.getElem_cons_succ, List.setIfInBounds_toArray, List.set_cons_zero, List.set_cons_succ])
        (refine wpAnyH_take (i := 12) (v := ?_) rfl (by kernel_rfl) (by kernel_rfl) (by kernel_rfl) (fun _ _ _ h => h) (Or.inl ⟨by rfl, ?_⟩) (by assumption) ?_; rotate_left; (focus (intro w hSw; (try dsimp only at hSw); go_simp; (try with_reducible rfl); done)); simp only [Act.put, List.getElem_toArray, List.getElem_cons_zero, List.getElem_cons_succ, List.setIfInBounds_toArray, List.set_cons_zero, List.set_cons_succ])
        (refine wpAnyH_take (i := 13) (v := ?_) rfl (by kernel_rfl) (by kernel_rfl) (by kernel_rfl) (fun _ _ _ h => h) (Or.inl ⟨by rfl, ?_⟩) (by assumption) ?_; rotate_left; (focus (intro w hSw; (try dsimp only at hSw); go_simp; (try with_reducible rfl); done)); simp only [Act.put, List.getElem_toArray, List.getElem_cons_zero, List.getElem_cons_succ, List.setIfInBounds_toArray, List.set_cons_zero, List.set_cons_succ])
        (refine wpAnyH_take (i := 15) (v := ?_) rfl (by kernel_rfl) (by kernel_rfl) (by kernel_rfl) (fun _ _ _ h => h) (Or.inl ⟨by rfl, ?_⟩) (by assumption) ?_; rotate_left; (focus (intro w hSw; (try dsimp only at hSw); go_simp; (try with_reducible rfl); done)); simp only [Act.put, List.getElem_toArray, List.getElem_cons_zero, List.getElem_cons_succ, List.setIfInBounds_toArray, List.set_cons_zero, List.set_cons_succ])
        refine wpAnyH_ready (rs := [14]) (by kernel_rfl) (by simp) ?_
        refine AllReadyH.cons rfl (fun K hK => ?_) AllReadyH.nil
        go_simp
        go_wp2_with fail
        refine (C2.out _ TX.out TY.out).mono ?_
        rintro e w7 ⟨rfl, hb0⟩
        have hb := hb0
        replace HB : Hid (Below w.heap.size w w7) := HB.out.trans (hb.mono HB.out.size)
        replace TX : Hid (TRow w7 x.t x.ra x.wa) := TX.out.below hb
        replace TY : Hid (TRow w7 y.t y.ra y.wa) := TY.out.below hb
        replace BX : Hid (Bx w7 w1.heap.size [.int .i64 x.t.id, .int .i64 x.t.st, .int .i64 x.t.snap, .int .i64 x.t.cs, .slice x.ra x.t.rs.length x.rc, .slice x.wa x.t.ws.length x.wc, .bool x.t.out, .string x.t.nm]) := BX.out.below hb
        replace BY : Hid (Bx w7 (w1.heap.size + 1) [.int .i64 y.t.id, .int .i64 y.t.st, .int .i64 y.t.snap, .int .i64 y.t.cs, .slice y.ra y.t.rs.length y.rc, .slice y.wa y.t.ws.length y.wc, .bool y.t.out, .string y.t.nm]) := BY.out.below hb
        replace TCc : Hid (TRow w7 c.t c.ra c.wa) := TCc.out.below hb
        replace TD : Hid (TRow w7 d.t d.ra d.wa) := TD.out.below hb
        replace BC : Hid (Bx w7 w4.heap.size [.int .i64 c.t.id, .int .i64 c.t.st, .int .i64 c.t.snap, .int .i64 c.t.cs, .slice c.ra c.t.rs.length c.rc, .slice c.wa c.t.ws.length c.wc, .bool c.t.out, .string c.t.nm]) := BC.out.below hb
        replace BD : Hid (Bx w7 (w4.heap.size + 1) [.int .i64 d.t.id, .int .i64 d.t.st, .int .i64 d.t.snap, .int .i64 d.t.cs, .slice d.ra d.t.rs.length d.rc, .slice d.wa d.t.ws.length d.wc, .bool d.t.out, .string d.t.nm]) := BD.out.below hb
        go_wp2_with fail
        refine hK.out _ _ ⟨BX.out.c0, BX.out.c1, BX.out.c2, BX.out.c3, BX.out.c4, BX.out.c5, BX.out.c6, BX.out.c7, BY.out.c0, BY.out.c1, BY.out.c2, BY.out.c3, BY.out.c4, BY.out.c5, BY.out.c6, BY.out.c7, BC.out.c0, BC.out.c1, BC.out.c2, BC.out.c3, BC.out.c4, BC.out.c5, BC.out.c6, BC.out.c7, BD.out.c0, BD.out.c1, BD.out.c2, BD.out.c3, BD.out.c4, BD.out.c5, BD.out.c6, BD.out.c7⟩ (fun hHeld => ?_)
        clear hK K hb hb0
        (refine wpAnyH_take (i := 16) (v := ?_) rfl (by kernel_rfl) (by kernel_rfl) (by kernel_rfl) (fun _ _ _ h => h) (Or.inl ⟨by rfl, ?_⟩) (by assumption) ?_; rotate_left; (focus (intro w hSw; (try dsimp only at hSw); go_simp; (try with_reducible rfl); done)); simp only [Act.put, List.getElem_toArray, List.getElem_cons_zero, List.getElem_cons_succ, List.setIfInBounds_toArray, List.set_cons_zero, List.set_cons_succ])
        (refine wpAnyH_take (i := 17) (v := ?_) rfl (by kernel_rfl) (by kernel_rfl) (by kernel_rfl) (fun _ _ _ h => h) (Or.inl ⟨by rfl, ?_⟩) (by assumption) ?_; rotate_left; (focus (intro w hSw; (try dsimp only at hSw); go_simp; (try with_reducible rfl); done)); simp only [Act.put, List.getElem_toArray, List.getElem_cons_zero, List.getElem_cons_succ, List.setIfInBounds_toArray, List.set_cons_zero, List.set_cons_succ])
        (refine wpAnyH_take (i := 18) (v := ?_) rfl (by kernel_rfl) (by kernel_rfl) (by kernel_rfl) (fun _ _ _ h => h) (Or.inl ⟨by rfl, ?_⟩) (by assumption) ?_; rotate_left; (focus (intro w hSw; (try dsimp only at hSw); go_simp; (try with_reducible rfl); done)); simp only [Act.put, List.getElem_toArray, List.getElem_cons_zero, List.getElem_cons_succ, List.setIfInBounds_toArray, List.set_cons_zero, List.set_cons_succ])
        (refine wpAnyH_take (i := 19) (v := ?_) rfl (by kernel_rfl) (by kernel_rfl) (by kernel_rfl) (fun _ _ _ h => h) (Or.inl ⟨by rfl, ?_⟩) (by assumption) ?_; rotate_left; (focus (intro w hSw; (try dsimp only at hSw); go_simp; (try with_reducible rfl); done)); simp only [Act.put, List.getElem_toArray, List.getElem_cons_zero, List.getElem_cons_succ, List.setIfInBounds_toArray, List.set_cons_zero, List.set_cons_succ])
        (refine wpAnyH_take (i := 20) (v := ?_) rfl (by kernel_rfl) (by kernel_rfl) (by kernel_rfl) (fun _ _ _ h => h) (Or.inl ⟨by rfl, ?_⟩) (by assumption) ?_; rotate_left; (focus (intro w hSw; (try dsimp only at hSw); go_simp; (try with_reducible rfl); done)); simp only [Act.put, List.getElem_toArray, List.getElem_cons_zero, List.getElem_cons_succ, List.setIfInBounds_toArray, List.set_cons_zero, List.set_cons_succ])
        refine wpAnyH_ready (rs := [21]) (by kernel_rfl) (by simp) ?_
        refine AllReadyH.cons rfl (fun K hK => ?_) AllReadyH.nil
        go_simp
        go_wp2_with fail
        refine (C3.out _ TX.out TY.out).mono ?_
        rintro e w8 ⟨rfl, hb0⟩
        have hb := hb0
        replace HB : Hid (Below w.heap.size w w8) := HB.out.trans (hb.mono HB.out.size)
        replace TX : Hid (TRow w8 x.t x.ra x.wa) := TX.out.below hb
        replace TY : Hid (TRow w8 y.t y.ra y.wa) := TY.out.below hb
        replace BX : Hid (Bx w8 w1.heap.size [.int .i64 x.t.id, .int .i64 x.t.st, .int .i64 x.t.snap, .int .i64 x.t.cs, .slice x.ra x.t.rs.length x.rc, .slice x.wa x.t.ws.length x.wc, .bool x.t.out, .string x.t.nm]) := BX.out.below hb
        replace BY : Hid (Bx w8 (w1.heap.size + 1) [.int .i64 y.t.id, .int .i64 y.t.st, .int .i64 y.t.snap, .int .i64 y.t.cs, .slice y.ra y.t.rs.length y.rc, .slice y.wa y.t.ws.length y.wc, .bool y.t.out, .string y.t.nm]) := BY.out.below hb
        replace TCc : Hid (TRow w8 c.t c.ra c.wa) := TCc.out.below hb
        replace TD : Hid (TRow w8 d.t d.ra d.wa) := TD.out.below hb
        replace BC : Hid (Bx w8 w4.heap.size [.int .i64 c.t.id, .int .i64 c.t.st, .int .i64 c.t.snap, .int .i64 c.t.cs, .slice c.ra c.t.rs.length c.rc, .slice c.wa c.t.ws.length c.wc, .bool c.t.out, .string c.t.nm]) := BC.out.below hb
        replace BD : Hid (Bx w8 (w4.heap.size + 1) [.int .i64 d.t.id, .int .i64 d.t.st, .int .i64 d.t.snap, .int .i64 d.t.cs, .slice d.ra d.t.rs.length d.rc, .slice d.wa d.t.ws.length d.wc, .bool d.t.out, .string d.t.nm]) := BD.out.below hb
        go_wp2_with fail
        refine hK.out _ _ ⟨BX.out.c0, BX.out.c1, BX.out.c2, BX.out.c3, BX.out.c4, BX.out.c5, BX.out.c6, BX.out.c7, BY.out.c0, BY.out.c1, BY.out.c2, BY.out.c3, BY.out.c4, BY.out.c5, BY.out.c6, BY.out.c7, BC.out.c0, BC.out.c1, BC.out.c2, BC.out.c3, BC.out.c4, BC.out.c5, BC.out.c6, BC.out.c7, BD.out.c0, BD.out.c1, BD.out.c2, BD.out.c3, BD.out.c4, BD.out.c5, BD.out.c6, BD.out.c7⟩ (fun hHeld => ?_)
        clear hK K hb hb0
        (refine wpAnyH_take (i := 22) (v := ?_) rfl (by kernel_rfl) (by kernel_rfl) (by kernel_rfl) (fun _ _ _ h => h) (Or.inl ⟨by rfl, ?_⟩) (by assumption) ?_; rotate_left; (focus (intro w hSw; (try dsimp only at hSw); go_simp; (try with_reducible rfl); done)); simp only [Act.put, List.getElem_toArray, List.getElem_cons_zero, List.getElem_cons_succ, List.setIfInBounds_toArray, List.set_cons_zero, List.set_cons_succ])
        (refine wpAnyH_take (i := 23) (v := ?_) rfl (by kernel_rfl) (by kernel_rfl) (by kernel_rfl) (fun _ _ _ h => h) (Or.inl ⟨by rfl, ?_⟩) (by assumption) ?_; rotate_left; (focus (intro w hSw; (try dsimp only at hSw); go_simp; (try with_reducible rfl); done)); simp only [Act.put, List.getElem_toArray, List.getElem_cons_zero, List.getElem_cons_succ, List.setIfInBounds_toArray, List.set_cons_zero, List.set_cons_succ])
        (refine wpAnyH_take (i := 24) (v := ?_) rfl (by kernel_rfl) (by kernel_rfl) (by kernel_rfl) (fun _ _ _ h => h) (Or.inl ⟨by rfl, ?_⟩) (by assumption) ?_; rotate_left; (focus (intro w hSw; (try dsimp only at hSw); go_simp; (try with_reducible rfl); done)); simp only [Act.put, List.getElem_toArray, List.getElem_cons_zero, List.getElem_cons_succ, List.setIfInBounds_toArray, List.set_cons_zero, List.set_cons_succ])
        (refine wpAnyH_take (i := 25) (v := ?_) rfl (by kernel_rfl) (by kernel_rfl) (by kernel_rfl) (fun _ _ _ h => h) (Or.inl ⟨by rfl, ?_⟩) (by assumption) ?_; rotate_left; (focus (intro w hSw; (try dsimp only at hSw); go_simp; (try with_reducible rfl); done)); simp only [Act.put, List.getElem_toArray, List.getElem_cons_zero, List.getElem_cons_succ, List.setIfInBounds_toArray, List.set_cons_zero, List.set_cons_succ])
        (refine wpAnyH_take (i := 26) (v := ?_) rfl (by kernel_rfl) (by kernel_rfl) (by kernel_rfl) (fun _ _ _ h => h) (Or.inl ⟨by rfl, ?_⟩) (by assumption) ?_; rotate_left; (focus (intro w hSw; (try dsimp only at hSw); go_simp; (try with_reducible rfl); done)); simp only [Act.put, List.getElem_toArray, List.getElem_cons_zero, List.getElem_cons_succ, List.setIfInBounds_toArray, List.set_cons_zero, List.set_cons_succ])
        (refine wpAnyH_take (i := 27) (v := ?_) rfl (by kernel_rfl) (by kernel_rfl) (by kernel_rfl) (fun _ _ _ h => h) (Or.inl ⟨by rfl, ?_⟩) (by assumption) ?_; rotate_left; (focus (intro w hSw; (try dsimp only at hSw); go_simp; (try with_reducible rfl); done)); simp only [Act.put, List.getElem_toArray, List.getElem_cons_zero, List.getElem_cons_succ, List.setIfInBounds_toArray, List.set_cons_zero, List.set_cons_succ])
        (refine wpAnyH_take (i := 29) (v := ?_) rfl (by kernel_rfl) (by kernel_rfl) (by kernel_rfl) (fun _ _ _ h => h) (Or.inl ⟨by rfl, ?_⟩) (by assumption) ?_; rotate_left; (focus (intro w hSw; (try dsimp only at hSw); go_simp; (try with_reducible rfl); done)); simp only [Act.put, List.getElem_toArray, List.getElem_cons_zero, List.getElem_cons_succ, List.setIfInBounds_toArray, List.set_cons_zero, List.set_cons_succ])
        (refine wpAnyH_take (i := 30) (v := ?_) rfl (by kernel_rfl) (by kernel_rfl) (by kernel_rfl) (fun _ _ _ h => h) (Or.inl ⟨by rfl, ?_⟩) (by assumption) ?_; rotate_left; (focus (intro w hSw; (try dsimp only at hSw); go_simp; (try with_reducible rfl); done)); simp only [Act.put, List.getElem_toArray, List.getElem_cons_zero, List.getElem_cons_succ, List.setIfInBounds_toArray, List.set_cons_zero, List.set_cons_succ])
        refine wpAnyH_ready (rs := [28]) (by kernel_rfl) (by simp) ?_
        refine AllReadyH.cons rfl (fun K hK => ?_) AllReadyH.nil
        go_simp
        go_wp2_with fail
        refine (C4.out _ TCc.out TD.out).mono ?_
        rintro e w9 ⟨rfl, hb0⟩
        have hb := hb0
        replace HB : Hid (Below w.heap.size w w9) := HB.out.trans (hb.mono HB.out.size)
        replace TX : Hid (TRow w9 x.t x.ra x.wa) := TX.out.below hb
        replace TY : Hid (TRow w9 y.t y.ra y.wa) := TY.out.below hb
        replace BX : Hid (Bx w9 w1.heap.size [.int .i64 x.t.id, .int .i64 x.t.st, .int .i64 x.t.snap, .int .i64 x.t.cs, .slice x.ra x.t.rs.length x.rc, .slice x.wa x.t.ws.length x.wc, .bool x.t.out, .string x.t.nm]) := BX.out.below hb
        replace BY : Hid (Bx w9 (w1.heap.size + 1) [.int .i64 y.t.id, .int .i64 y.t.st, .int .i64 y.t.snap, .int .i64 y.t.cs, .slice y.ra y.t.rs.length y.rc, .slice y.wa y.t.ws.length y.wc, .bool y.t.out, .string y.t.nm]) := BY.out.below hb
        replace TCc : Hid (TRow w9 c.t c.ra c.wa) := TCc.out.below hb
        replace TD : Hid (TRow w9 d.t d.ra d.wa) := TD.out.below hb
        replace BC : Hid (Bx w9 w4.heap.size [.int .i64 c.t.id, .int .i64 c.t.st, .int .i64 c.t.snap, .int .i64 c.t.cs, .slice c.ra c.t.rs.length c.rc, .slice c.wa c.t.ws.length c.wc, .bool c.t.out, .string c.t.nm]) := BC.out.below hb
        replace BD : Hid (Bx w9 (w4.heap.size + 1) [.int .i64 d.t.id, .int .i64 d.t.st, .int .i64 d.t.snap, .int .i64 d.t.cs, .slice d.ra d.t.rs.length d.rc, .slice d.wa d.t.ws.length d.wc, .bool d.t.out, .string d.t.nm]) := BD.out.below hb
        go_wp2_with fail
        refine hK.out _ _ ⟨BX.out.c0, BX.out.c1, BX.out.c2, BX.out.c3, BX.out.c4, BX.out.c5, BX.out.c6, BX.out.c7, BY.out.c0, BY.out.c1, BY.out.c2, BY.out.c3, BY.out.c4, BY.out.c5, BY.out.c6, BY.out.c7, BC.out.c0, BC.out.c1, BC.out.c2, BC.out.c3, BC.out.c4, BC.out.c5, BC.out.c6, BC.out.c7, BD.out.c0, BD.out.c1, BD.out.c2, BD.out.c3, BD.out.c4, BD.out.c5, BD.out.c6, BD.out.c7⟩ (fun hHeld => ?_)
        clear hK K hb hb0
        refine wpAnyH_ready (rs := [31]) (by kernel_rfl) (by simp) ?_
        refine AllReadyH.cons rfl (fun K hK => ?_) AllReadyH.nil
        go_simp
        go_wp2_with fail
        refine (C5.out _ TCc.out TD.out).mono ?_
        rintro e w10 ⟨rfl, hb0⟩
        have hb := hb0
        replace HB : Hid (Below w.heap.size w w10) := HB.out.trans (hb.mono HB.out.size)
        replace TX : Hid (TRow w10 x.t x.ra x.wa) := TX.out.below hb
        replace TY : Hid (TRow w10 y.t y.ra y.wa) := TY.out.below hb
        replace BX : Hid (Bx w10 w1.heap.size [.int .i64 x.t.id, .int .i64 x.t.st, .int .i64 x.t.snap, .int .i64 x.t.cs, .slice x.ra x.t.rs.length x.rc, .slice x.wa x.t.ws.length x.wc, .bool x.t.out, .string x.t.nm]) := BX.out.below hb
        replace BY : Hid (Bx w10 (w1.heap.size + 1) [.int .i64 y.t.id, .int .i64 y.t.st, .int .i64 y.t.snap, .int .i64 y.t.cs, .slice y.ra y.t.rs.length y.rc, .slice y.wa y.t.ws.length y.wc, .bool y.t.out, .string y.t.nm]) := BY.out.below hb
        replace TCc : Hid (TRow w10 c.t c.ra c.wa) := TCc.out.below hb
        replace TD : Hid (TRow w10 d.t d.ra d.wa) := TD.out.below hb
        replace BC : Hid (Bx w10 w4.heap.size [.int .i64 c.t.id, .int .i64 c.t.st, .int .i64 c.t.snap, .int .i64 c.t.cs, .slice c.ra c.t.rs.length c.rc, .slice c.wa c.t.ws.length c.wc, .bool c.t.out, .string c.t.nm]) := BC.out.below hb
        replace BD : Hid (Bx w10 (w4.heap.size + 1) [.int .i64 d.t.id, .int .i64 d.t.st, .int .i64 d.t.snap, .int .i64 d.t.cs, .slice d.ra d.t.rs.length d.rc, .slice d.wa d.t.ws.length d.wc, .bool d.t.out, .string d.t.nm]) := BD.out.below hb
        go_wp2_with fail
        refine hK.out _ _ ⟨BX.out.c0, BX.out.c1, BX.out.c2, BX.out.c3, BX.out.c4, BX.out.c5, BX.out.c6, BX.out.c7, BY.out.c0, BY.out.c1, BY.out.c2, BY.out.c3, BY.out.c4, BY.out.c5, BY.out.c6, BY.out.c7, BC.out.c0, BC.out.c1, BC.out.c2, BC.out.c3, BC.out.c4, BC.out.c5, BC.out.c6, BC.out.c7, BD.out.c0, BD.out.c1, BD.out.c2, BD.out.c3, BD.out.c4, BD.out.c5, BD.out.c6, BD.out.c7⟩ (fun hHeld => ?_)
        clear hK K hb hb0
        (refine wpAnyH_take (i := 32) (v := ?_) rfl (by kernel_rfl) (by kernel_rfl) (by kernel_rfl) (fun _ _ _ h => h) (Or.inl ⟨by rfl, ?_⟩) (by assumption) ?_; rotate_left; (focus (intro w hSw; (try dsimp only at hSw); go_simp; (try with_reducible rfl); done)); simp only [Act.put, List.getElem_toArray, List.getElem_cons_zero, List.getElem_cons_succ, List.setIfInBounds_toArray, List.set_cons_zero, List.set_cons_succ])
        (refine wpAnyH_take (i := 33) (v := ?_) rfl (by kernel_rfl) (by kernel_rfl) (by kernel_rfl) (fun _ _ _ h => h) (Or.inl ⟨by rfl, ?_⟩) (by assumption) ?_; rotate_left; (focus (intro w hSw; (try dsimp only at hSw); go_simp; (try with_reducible rfl); done)); simp only [Act.put, List.getElem_toArray, List.getElem_cons_zero, List.getElem_cons_succ, List.setIfInBounds_toArray, List.set_cons_zero, List.set_cons_succ])
        (refine wpAnyH_take (i := 34) (v := ?_) rfl (by kernel_rfl) (by kernel_rfl) (by kernel_rfl) (fun _ _ _ h => h) (Or.inl ⟨by rfl, ?_⟩) (by assumption) ?_; rotate_left; (focus (intro w hSw; (try dsimp only at hSw); go_simp; (try with_reducible rfl); done)); simp only [Act.put, List.getElem_toArray, List.getElem_cons_zero, List.getElem_cons_succ, List.setIfInBounds_toArray, List.set_cons_zero, List.set_cons_succ])
        (refine wpAnyH_take (i := 35) (v := ?_) rfl (by kernel_rfl) (by kernel_rfl) (by kernel_rfl) (fun _ _ _ h => h) (Or.inl ⟨by rfl, ?_⟩) (by assumption) ?_; rotate_left; (focus (intro w hSw; (try dsimp only at hSw); go_simp; (try with_reducible rfl); done)); simp only [Act.put, List.getElem_toArray, List.getElem_cons_zero, List.getElem_cons_succ, List.setIfInBounds_toArray, List.set_cons_zero, List.set_cons_succ])
        (refine wpAnyH_take (i := 36) (v := ?_) rfl (by kernel_rfl) (by kernel_rfl) (by kernel_rfl) (fun _ _ _ h => h) (Or.inl ⟨by rfl, ?_⟩) (by assumption) ?_; rotate_left; (focus (intro w hSw; (try dsimp only at hSw); go_simp; (try with_reducible rfl); done)); simp only [Act.put, List.getElem_toArray, List.getElem_cons_zero, List.getElem_cons_succ, List.setIfInBounds_toArray, List.set_cons_zero, List.set_cons_succ])
        (refine wpAnyH_take (i := 38) (v := ?_) rfl (by kernel_rfl) (by kernel_rfl) (by kernel_rfl) (fun _ _ _ h => h) (Or.inl ⟨by rfl, ?_⟩) (by assumption) ?_; rotate_left; (focus (intro w hSw; (try dsimp only at hSw); go_simp; (try with_reducible rfl); done)); simp only [Act.put, List.getElem_toArray, List.getElem_cons_zero, List.getElem_cons_succ, List.setIfInBounds_toArray, List.set_cons_zero, List.set_cons_succ])
        (refine wpAnyH_take (i := 39) (v := ?_) rfl (by kernel_rfl) (by kernel_rfl) (by kernel_rfl) (fun _ _ _ h => h) (Or.inl ⟨by rfl, ?_⟩) (by assumption) ?_; rotate_left; (focus (intro w hSw; (try dsimp only at hSw); go_simp; (try with_reducible rfl); done)); simp only [Act.put, List.getElem_toArray, List.getElem_cons_zero, List.getElem_cons_succ, List.setIfInBounds_toArray, List.set_cons_zero, List.set_cons_succ])
        refine wpAnyH_ready (rs := [37]) (by kernel_rfl) (by simp) ?_
        refine AllReadyH.cons rfl (fun K hK => ?_) AllReadyH.nil
        go_simp
        go_wp2_with fail
        refine (C6.out _).mono ?_
        rintro e w11 ⟨rfl, hb0⟩
        have hb := hb0
        replace HB : Hid (Below w.heap.size w w11) := HB.out.trans (hb.mono HB.out.size)
        replace TX : Hid (TRow w11 x.t x.ra x.wa) := TX.out.below hb
        replace TY : Hid (TRow w11 y.t y.ra y.wa) := TY.out.below hb
        replace BX : Hid (Bx w11 w1.heap.size [.int .i64 x.t.id, .int .i64 x.t.st, .int .i64 x.t.snap, .int .i64 x.t.cs, .slice x.ra x.t.rs.length x.rc, .slice x.wa x.t.ws.length x.wc, .bool x.t.out, .string x.t.nm]) := BX.out.below hb
        replace BY : Hid (Bx w11 (w1.heap.size + 1) [.int .i64 y.t.id, .int .i64 y.t.st, .int .i64 y.t.snap, .int .i64 y.t.cs, .slice y.ra y.t.rs.length y.rc, .slice y.wa y.t.ws.length y.wc, .bool y.t.out, .string y.t.nm]) := BY.out.below hb
        replace TCc : Hid (TRow w11 c.t c.ra c.wa) := TCc.out.below hb
        replace TD : Hid (TRow w11 d.t d.ra d.wa) := TD.out.below hb
        replace BC : Hid (Bx w11 w4.heap.size [.int .i64 c.t.id, .int .i64 c.t.st, .int .i64 c.t.snap, .int .i64 c.t.cs, .slice c.ra c.t.rs.length c.rc, .slice c.wa c.t.ws.length c.wc, .bool c.t.out, .string c.t.nm]) := BC.out.below hb
        replace BD : Hid (Bx w11 (w4.heap.size + 1) [.int .i64 d.t.id, .int .i64 d.t.st, .int .i64 d.t.snap, .int .i64 d.t.cs, .slice d.ra d.t.rs.length d.rc, .slice d.wa d.t.ws.length d.wc, .bool d.t.out, .string d.t.nm]) := BD.out.below hb
        go_wp2_with fail
        refine hK.out _ _ ⟨BX.out.c0, BX.out.c1, BX.out.c2, BX.out.c3, BX.out.c4, BX.out.c5, BX.out.c6, BX.out.c7, BY.out.c0, BY.out.c1, BY.out.c2, BY.out.c3, BY.out.c4, BY.out.c5, BY.out.c6, BY.out.c7, BC.out.c0, BC.out.c1, BC.out.c2, BC.out.c3, BC.out.c4, BC.out.c5, BC.out.c6, BC.out.c7, BD.out.c0, BD.out.c1, BD.out.c2, BD.out.c3, BD.out.c4, BD.out.c5, BD.out.c6, BD.out.c7⟩ (fun hHeld => ?_)
        clear hK K hb hb0
        refine wpAnyH_ready (rs := [40]) (by kernel_rfl) (by simp) ?_
        refine AllReadyH.cons rfl (fun K hK => ?_) AllReadyH.nil
        go_simp
        go_wp2_with fail
        refine (C7.out _).mono ?_
        rintro e w12 ⟨rfl, hb0⟩
        have hb := hb0
        replace HB : Hid (Below w.heap.size w w12) := HB.out.trans (hb.mono HB.out.size)
        replace TX : Hid (TRow w12 x.t x.ra x.wa) := TX.out.below hb
        replace TY : Hid (TRow w12 y.t y.ra y.wa) := TY.out.below hb
        replace BX : Hid (Bx w12 w1.heap.size [.int .i64 x.t.id, .int .i64 x.t.st, .int .i64 x.t.snap, .int .i64 x.t.cs, .slice x.ra x.t.rs.length x.rc, .slice x.wa x.t.ws.length x.wc, .bool x.t.out, .string x.t.nm]) := BX.out.below hb
        replace BY : Hid (Bx w12 (w1.heap.size + 1) [.int .i64 y.t.id, .int .i64 y.t.st, .int .i64 y.t.snap, .int .i64 y.t.cs, .slice y.ra y.t.rs.length y.rc, .slice y.wa y.t.ws.length y.wc, .bool y.t.out, .string y.t.nm]) := BY.out.below hb
        replace TCc : Hid (TRow w12 c.t c.ra c.wa) := TCc.out.below hb
        replace TD : Hid (TRow w12 d.t d.ra d.wa) := TD.out.below hb
        replace BC : Hid (Bx w12 w4.heap.size [.int .i64 c.t.id, .int .i64 c.t.st, .int .i64 c.t.snap, .int .i64 c.t.cs, .slice c.ra c.t.rs.length c.rc, .slice c.wa c.t.ws.length c.wc, .bool c.t.out, .string c.t.nm]) := BC.out.below hb
        replace BD : Hid (Bx w12 (w4.heap.size + 1) [.int .i64 d.t.id, .int .i64 d.t.st, .int .i64 d.t.snap, .int .i64 d.t.cs, .slice d.ra d.t.rs.length d.rc, .slice d.wa d.t.ws.length d.wc, .bool d.t.out, .string d.t.nm]) := BD.out.below hb
        go_wp2_with fail
        refine hK.out _ _ ⟨BX.out.c0, BX.out.c1, BX.out.c2, BX.out.c3, BX.out.c4, BX.out.c5, BX.out.c6, BX.out.c7, BY.out.c0, BY.out.c1, BY.out.c2, BY.out.c3, BY.out.c4, BY.out.c5, BY.out.c6, BY.out.c7, BC.out.c0, BC.out.c1, BC.out.c2, BC.out.c3, BC.out.c4, BC.out.c5, BC.out.c6, BC.out.c7, BD.out.c0, BD.out.c1, BD.out.c2, BD.out.c3, BD.out.c4, BD.out.c5, BD.out.c6, BD.out.c7⟩ (fun hHeld => ?_)
        clear hK K hb hb0
        (refine wpAnyH_take (i := 41) (v := ?_) rfl (by kernel_rfl) (by kernel_rfl) (by kernel_rfl) (fun _ _ _ h => h) (Or.inl ⟨by rfl, ?_⟩) (by assumption) ?_; rotate_left; (focus (intro w hSw; (try dsimp only at hSw); go_simp; (try with_reducible rfl); done)); simp only [Act.put, List.getElem_toArray, List.getElem_cons_zero, List.getElem_cons_succ, List.setIfInBounds_toArray, List.set_cons_zero, List.set_cons_succ])
        (refine wpAnyH_take (i := 42) (v := ?_) rfl (by kernel_rfl) (by kernel_rfl) (by kernel_rfl) (fun _ _ _ h => h) (Or.inl ⟨by rfl, ?_⟩) (by assumption) ?_; rotate_left; (focus (intro w hSw; (try dsimp only at hSw); go_simp; (try with_reducible rfl); done)); simp only [Act.put, List.getElem_toArray, List.getElem_cons_zero, List.getElem_cons_succ, List.setIfInBounds_toArray, List.set_cons_zero, List.set_cons_succ])
        (refine wpAnyH_take (i := 43) (v := ?_) rfl (by kernel_rfl) (by kernel_rfl) (by kernel_rfl) (fun _ _ _ h => h) (Or.inl ⟨by rfl, ?_⟩) (by assumption) ?_; rotate_left; (focus (intro w hSw; (try dsimp only at hSw); go_simp; (try with_reducible rfl); done)); simp only [Act.put, List.getElem_toArray, List.getElem_cons_zero, List.getElem_cons_succ, List.setIfInBounds_toArray, List.set_cons_zero, List.set_cons_succ])
        (refine wpAnyH_take (i := 44) (v := ?_) rfl (by kernel_rfl) (by kernel_rfl) (by kernel_rfl) (fun _ _ _ h => h) (Or.inl ⟨by rfl, ?_⟩) (by assumption) ?_; rotate_left; (focus (intro w hSw; (try dsimp only at hSw); go_simp; (try with_reducible rfl); done)); simp only [Act.put, List.getElem_toArray, List.getElem_cons_zero, List.getElem_cons_succ, List.setIfInBounds_toArray, List.set_cons_zero, List.set_cons_succ])
        (refine wpAnyH_take (i := 45) (v := ?_) rfl (by kernel_rfl) (by kernel_rfl) (by kernel_rfl) (fun _ _ _ h => h) (Or.inl ⟨by rfl, ?_⟩) (by assumption) ?_; rotate_left; (focus (intro w hSw; (try dsimp only at hSw); go_simp; (try with_reducible rfl); done)); simp only [Act.put, List.getElem_toArray, List.getElem_cons_zero, List.getElem_cons_succ, List.setIfInBounds_toArray, List.set_cons_zero, List.set_cons_succ])
        refine wpAnyH_ready (rs := [46]) (by kernel_rfl) (by simp) ?_
        refine AllReadyH.cons rfl (fun K hK => ?_) AllReadyH.nil
        go_simp
        go_wp2_with fail
        refine (C8.out _ TX.out).mono ?_
        rintro e w13 ⟨rfl, hb0⟩
        have hb := hb0
        replace HB : Hid (Below w.heap.size w w13) := HB.out.trans (hb.mono HB.out.size)
        replace TX : Hid (TRow w13 x.t x.ra x.wa) := TX.out.below hb
        replace TY : Hid (TRow w13 y.t y.ra y.wa) := TY.out.below hb
        replace BX : Hid (Bx w13 w1.heap.size [.int .i64 x.t.id, .int .i64 x.t.st, .int .i64 x.t.snap, .int .i64 x.t.cs, .slice x.ra x.t.rs.length x.rc, .slice x.wa x.t.ws.length x.wc, .bool x.t.out, .string x.t.nm]) := BX.out.below hb
        replace BY : Hid (Bx w13 (w1.heap.size + 1) [.int .i64 y.t.id, .int .i64 y.t.st, .int .i64 y.t.snap, .int .i64 y.t.cs, .slice y.ra y.t.rs.length y.rc, .slice y.wa y.t.ws.length y.wc, .bool y.t.out, .string y.t.nm]) := BY.out.below hb
        replace TCc : Hid (TRow w13 c.t c.ra c.wa) := TCc.out.below hb
        replace TD : Hid (TRow w13 d.t d.ra d.wa) := TD.out.below hb
        replace BC : Hid (Bx w13 w4.heap.size [.int .i64 c.t.id, .int .i64 c.t.st, .int .i64 c.t.snap, .int .i64 c.t.cs, .slice c.ra c.t.rs.length c.rc, .slice c.wa c.t.ws.length c.wc, .bool c.t.out, .string c.t.nm]) := BC.out.below hb
        replace BD : Hid (Bx w13 (w4.heap.size + 1) [.int .i64 d.t.id, .int .i64 d.t.st, .int .i64 d.t.snap, .int .i64 d.t.cs, .slice d.ra d.t.rs.length d.rc, .slice d.wa d.t.ws.length d.wc, .bool d.t.out, .string d.t.nm]) := BD.out.below hb
        go_wp2_with fail
        refine hK.out _ _ ⟨BX.out.c0, BX.out.c1, BX.out.c2, BX.out.c3, BX.out.c4, BX.out.c5, BX.out.c6, BX.out.c7, BY.out.c0, BY.out.c1, BY.out.c2, BY.out.c3, BY.out.c4, BY.out.c5, BY.out.c6, BY.out.c7, BC.out.c0, BC.out.c1, BC.out.c2, BC.out.c3, BC.out.c4, BC.out.c5, BC.out.c6, BC.out.c7, BD.out.c0, BD.out.c1, BD.out.c2, BD.out.c3, BD.out.c4, BD.out.c5, BD.out.c6, BD.out.c7⟩ (fun hHeld => ?_)
        clear hK K hb hb0
        (refine wpAnyH_take (i := 47) (v := ?_) rfl (by kernel_rfl) (by kernel_rfl) (by kernel_rfl) (fun _ _ _ h => h) (Or.inl ⟨by rfl, ?_⟩) (by assumption) ?_; rotate_left; (focus (intro w hSw; (try dsimp only at hSw); go_simp; (try with_reducible rfl); done)); simp only [Act.put, List.getElem_toArray, List.getElem_cons_zero, List.getElem_cons_succ, List.setIfInBounds_toArray, List.set_cons_zero, List.set_cons_succ])
        (refine wpAnyH_take (i := 48) (v := ?_) rfl (by kernel_rfl) (by kernel_rfl) (by kernel_rfl) (fun _ _ _ h => h) (Or.inl ⟨by rfl, ?_⟩) (by assumption) ?_; rotate_left; (focus (intro w hSw; (try dsimp only at hSw); go_simp; (try with_reducible rfl); done)); simp only [Act.put, List.getElem_toArray, List.getElem_cons_zero, List.getElem_cons_succ, List.setIfInBounds_toArray, List.set_cons_zero, List.set_cons_succ])
        (refine wpAnyH_take (i := 49) (v := ?_) rfl (by kernel_rfl) (by kernel_rfl) (by kernel_rfl) (fun _ _ _ h => h) (Or.inl ⟨by rfl, ?_⟩) (by assumption) ?_; rotate_left; (focus (intro w hSw; (try dsimp only at hSw); go_simp; (try with_reducible rfl); done)); simp only [Act.put, List.getElem_toArray, List.getElem_cons_zero, List.getElem_cons_succ, List.setIfInBounds_toArray, List.set_cons_zero, List.set_cons_succ])
        refine wpAnyH_done (by kernel_rfl) ?_ _
        go_wp2
        go_ret
        exact ⟨rfl, HB.out⟩
      · go_wp2
        (try simp only [List.append_eq, List.cons_append, List.nil_append])
        refine wp_region_held_drew (S := fun w' => w'.cell? ⟨w1.heap.size, 0, none⟩ = some (.int .i64 x.t.id) ∧ w'.cell? ⟨w1.heap.size, 1, none⟩ = some (.int .i64 x.t.st) ∧ w'.cell? ⟨w1.heap.size, 2, none⟩ = some (.int .i64 x.t.snap) ∧ w'.cell? ⟨w1.heap.size, 3, none⟩ = some (.int .i64 x.t.cs) ∧ w'.cell? ⟨w1.heap.size, 4, none⟩ = some (.slice x.ra x.t.rs.length x.rc) ∧ w'.cell? ⟨w1.heap.size, 5, none⟩ = some (.slice x.wa x.t.ws.length x.wc) ∧ w'.cell? ⟨w1.heap.size, 6, none⟩ = some (.bool x.t.out) ∧ w'.cell? ⟨w1.heap.size, 7, none⟩ = some (.string x.t.nm) ∧ w'.cell? ⟨(w1.heap.size + 1), 0, none⟩ = some (.int .i64 y.t.id) ∧ w'.cell? ⟨(w1.heap.size + 1), 1, none⟩ = some (.int .i64 y.t.st) ∧ w'.cell? ⟨(w1.heap.size + 1), 2, none⟩ = some (.int .i64 y.t.snap) ∧ w'.cell? ⟨(w1.heap.size + 1), 3, none⟩ = some (.int .i64 y.t.cs) ∧ w'.cell? ⟨(w1.heap.size + 1), 4, none⟩ = some (.slice y.ra y.t.rs.length y.rc) ∧ w'.cell? ⟨(w1.heap.size + 1), 5, none⟩ = some (.slice y.wa y.t.ws.length y.wc) ∧ w'.cell? ⟨(w1.heap.size + 1), 6, none⟩ = some (.bool y.t.out) ∧ w'.cell? ⟨(w1.heap.size + 1), 7, none⟩ = some (.string y.t.nm) ∧ w'.cell? ⟨w4.heap.size, 0, none⟩ = some (.int .i64 c.t.id) ∧ w'.cell? ⟨w4.heap.size, 1, none⟩ = some (.int .i64 c.t.st) ∧ w'.cell? ⟨w4.heap.size, 2, none⟩ = some (.int .i64 c.t.snap) ∧ w'.cell? ⟨w4.heap.size, 3, none⟩ = some (.int .i64 c.t.cs) ∧ w'.cell? ⟨w4.heap.size, 4, none⟩ = some (.slice c.ra c.t.rs.length c.rc) ∧ w'.cell? ⟨w4.heap.size, 5, none⟩ = some (.slice c.wa c.t.ws.length c.wc) ∧ w'.cell? ⟨w4.heap.size, 6, none⟩ = some (.bool c.t.out) ∧ w'.cell? ⟨w4.heap.size, 7, none⟩ = some (.string c.t.nm) ∧ w'.cell? ⟨(w4.heap.size + 1), 0, none⟩ = some (.int .i64 d.t.id) ∧ w'.cell? ⟨(w4.heap.size + 1), 1, none⟩ = some (.int .i64 d.t.st) ∧ w'.cell? ⟨(w4.heap.size + 1), 2, none⟩ = some (.int .i64 d.t.snap) ∧ w'.cell? ⟨(w4.heap.size + 1), 3, none⟩ = some (.int .i64 d.t.cs) ∧ w'.cell? ⟨(w4.heap.size + 1), 4, none⟩ = some (.slice d.ra d.t.rs.length d.rc) ∧ w'.cell? ⟨(w4.heap.size + 1), 5, none⟩ = some (.slice d.wa d.t.ws.length d.wc) ∧ w'.cell? ⟨(w4.heap.size + 1), 6, none⟩ = some (.bool d.t.out) ∧ w'.cell? ⟨(w4.heap.size + 1), 7, none⟩ = some (.string d.t.nm)) (by kernel_rfl) ⟨BX.out.c0, BX.out.c1, BX.out.c2, BX.out.c3, BX.out.c4, BX.out.c5, BX.out.c6, BX.out.c7, BY.out.c0, BY.out.c1, BY.out.c2, BY.out.c3, BY.out.c4, BY.out.c5, BY.out.c6, BY.out.c7, BC.out.c0, BC.out.c1, BC.out.c2, BC.out.c3, BC.out.c4, BC.out.c5, BC.out.c6, BC.out.c7, BD.out.c0, BD.out.c1, BD.out.c2, BD.out.c3, BD.out.c4, BD.out.c5, BD.out.c6, BD.out.c7⟩ (fun hHeld => ?_)
        (refine wpAnyH_take (i := 0) (v := ?_) rfl (by kernel_rfl) (by kernel_rfl) (by kernel_rfl) (fun _ _ _ h => h) (Or.inl ⟨by rfl, ?_⟩) (by assumption) ?_; rotate_left; (focus (intro w hSw; (try dsimp only at hSw); go_simp; (try with_reducible rfl); done)); simp only [Act.put, List.getElem_toArray, List.getElem_cons_zero, List.setIfInBounds_toArray, List.set_cons_zero, List.set_cons_succ])
        (refine wpAnyH_take (i := 1) (v := ?_) rfl (by kernel_rfl) (by kernel_rfl) (by kernel_rfl) (fun _ _ _ h => h) (Or.inl ⟨by rfl, ?_⟩) (by assumption) ?_; rotate_left; (focus (intro w hSw; (try dsimp only at hSw); go_simp; (try with_reducible rfl); done)); simp only [Act.put, List.getElem_toArray, List.getElem_cons_zero, List.getElem_cons_succ, List.setIfInBounds_toArray, List.set_cons_zero, List.set_cons_succ])
        (refine wpAnyH_take (i := 2) (v := ?_) rfl (by kernel_rfl) (by kernel_rfl) (by kernel_rfl) (fun _ _ _ h => h) (Or.inl ⟨by rfl, ?_⟩) (by assumption) ?_; rotate_left; (focus (intro w hSw; (try dsimp only at hSw); go_simp; (try with_reducible rfl); done)); simp only [Act.put, List.getElem_toArray, List.getElem_cons_zero, List.getElem_cons_succ, List.setIfInBounds_toArray, List.set_cons_zero, List.set_cons_succ])
        (refine wpAnyH_take (i := 3) (v := ?_) rfl (by kernel_rfl) (by kernel_rfl) (by kernel_rfl) (fun _ _ _ h => h) (Or.inl ⟨by rfl, ?_⟩) (by assumption) ?_; rotate_left; (focus (intro w hSw; (try dsimp only at hSw); go_simp; (try with_reducible rfl); done)); simp only [Act.put, List.getElem_toArray, List.getElem_cons_zero, List.getElem_cons_succ, List.setIfInBounds_toArray, List.set_cons_zero, List.set_cons_succ])
        (refine wpAnyH_take (i := 4) (v := ?_) rfl (by kernel_rfl) (by kernel_rfl) (by kernel_rfl) (fun _ _ _ h => h) (Or.inl ⟨by rfl, ?_⟩) (by assumption) ?_; rotate_left; (focus (intro w hSw; (try dsimp only at hSw); go_simp; (try with_reducible rfl); done)); simp only [Act.put, List.getElem_toArray, List.getElem_cons_zero, List.getElem_cons_succ, List.setIfInBounds_toArray, List.set_cons_zero, List.set_cons_succ])
        (refine wpAnyH_take (i := 5) (v := ?_) rfl (by kernel_rfl) (by kernel_rfl) (by kernel_rfl) (fun _ _ _ h => h) (Or.inl ⟨by rfl, ?_⟩) (by assumption) ?_; rotate_left; (focus (intro w hSw; (try dsimp only at hSw); go_simp; (try with_reducible rfl); done)); simp only [Act.put, List.getElem_toArray, List.getElem_cons_zero, List.getElem_cons_succ, List.setIfInBounds_toArray, List.set_cons_zero, List.set_cons_succ])
        (refine wpAnyH_take (i := 6) (v := ?_) rfl (by kernel_rfl) (by kernel_rfl) (by kernel_rfl) (fun _ _ _ h => h) (Or.inl ⟨by rfl, ?_⟩) (by assumption) ?_; rotate_left; (focus (intro w hSw; (try dsimp only at hSw); go_simp; (try with_reducible rfl); done)); simp only [Act.put, List.getElem_toArray, List.getElem_cons_zero, List.getElem_cons_succ, List.setIfInBounds_toArray, List.set_cons_zero, List.set_cons_succ])
        (refine wpAnyH_take (i := 7) (v := ?_) rfl (by kernel_rfl) (by kernel_rfl) (by kernel_rfl) (fun _ _ _ h => h) (Or.inl ⟨by rfl, ?_⟩) (by assumption) ?_; rotate_left; (focus (intro w hSw; (try dsimp only at hSw); go_simp; (try with_reducible rfl); done)); simp only [Act.put, List.getElem_toArray, List.getElem_cons_zero, List.getElem_cons_succ, List.setIfInBounds_toArray, List.set_cons_zero, List.set_cons_succ])
        refine wpAnyH_ready (rs := [8]) (by kernel_rfl) (by simp) ?_
        refine AllReadyH.cons rfl (fun K hK => ?_) AllReadyH.nil
        go_simp
        go_wp2_with fail
        refine (C1.out _).mono ?_
        rintro e w6 ⟨rfl, hb0⟩
        have hb := undrew hb0
        replace HB : Hid (Below w.heap.size w w6) := HB.out.trans (hb.mono HB.out.size)
        replace TX : Hid (TRow w6 x.t x.ra x.wa) := TX.out.below hb
        replace TY : Hid (TRow w6 y.t y.ra y.wa) := TY.out.below hb
        replace BX : Hid (Bx w6 w1.heap.size [.int .i64 x.t.id, .int .i64 x.t.st, .int .i64 x.t.snap, .int .i64 x.t.cs, .slice x.ra x.t.rs.length x.rc, .slice x.wa x.t.ws.length x.wc, .bool x.t.out, .string x.t.nm]) := BX.out.below hb
        replace BY : Hid (Bx w6 (w1.heap.size + 1) [.int .i64 y.t.id, .int .i64 y.t.st, .int .i64 y.t.snap, .int .i64 y.t.cs, .slice y.ra y.t.rs.length y.rc, .slice y.wa y.t.ws.length y.wc, .bool y.t.out, .string y.t.nm]) := BY.out.below hb
        replace TCc : Hid (TRow w6 c.t c.ra c.wa) := TCc.out.below hb
        replace TD : Hid (TRow w6 d.t d.ra d.wa) := TD.out.below hb
        replace BC : Hid (Bx w6 w4.heap.size [.int .i64 c.t.id, .int .i64 c.t.st, .int .i64 c.t.snap, .int .i64 c.t.cs, .slice c.ra c.t.rs.length c.rc, .slice c.wa c.t.ws.length c.wc, .bool c.t.out, .string c.t.nm]) := BC.out.below hb
        replace BD : Hid (Bx w6 (w4.heap.size + 1) [.int .i64 d.t.id, .int .i64 d.t.st, .int .i64 d.t.snap, .int .i64 d.t.cs, .slice d.ra d.t.rs.length d.rc, .slice d.wa d.t.ws.length d.wc, .bool d.t.out, .string d.t.nm]) := BD.out.below hb
        go_wp2_with fail
        refine hK.out _ _ ⟨BX.out.c0, BX.out.c1, BX.out.c2, BX.out.c3, BX.out.c4, BX.out.c5, BX.out.c6, BX.out.c7, BY.out.c0, BY.out.c1, BY.out.c2, BY.out.c3, BY.out.c4, BY.out.c5, BY.out.c6, BY.out.c7, BC.out.c0, BC.out.c1, BC.out.c2, BC.out.c3, BC.out.c4, BC.out.c5, BC.out.c6, BC.out.c7, BD.out.c0, BD.out.c1, BD.out.c2, BD.out.c3, BD.out.c4, BD.out.c5, BD.out.c6, BD.out.c7⟩ (fun hHeld => ?_)
        clear hK K hb hb0
        (refine wpAnyH_take (i := 9) (v := ?_) rfl (by kernel_rfl) (by kernel_rfl) (by kernel_rfl) (fun _ _ _ h => h) (Or.inl ⟨by rfl, ?_⟩) (by assumption) ?_; rotate_left; (focus (intro w hSw; (try dsimp only at hSw); go_simp; (try with_reducible rfl); done)); simp only [Act.put, List.getElem_toArray, List.getElem_cons_zero, List.getElem_cons_succ, List.setIfInBounds_toArray, List.set_cons_zero, List.set_cons_succ])
        (refine wpAnyH_take (i := 10) (v := ?_) rfl (by kernel_rfl) (by kernel_rfl) (by kernel_rfl) (fun _ _ _ h => h) (Or.inl ⟨by rfl, ?_⟩) (by assumption) ?_; rotate_left; (focus (intro w hSw; (try dsimp only at hSw); go_simp; (try with_reducible rfl); done)); simp only [Act.put, List.getElem_toArray, List.getElem_cons_zero, List.getElem_cons_succ, List.setIfInBounds_toArray, List.set_cons_zero, List.set_cons_succ])
        (refine wpAnyH_take (i := 11) (v := ?_) rfl (by kernel_rfl) (by kernel_rfl) (by kernel_rfl) (fun _ _ _ h => h) (Or.inl ⟨by rfl, ?_⟩) (by assumption) ?_; rotate_left; (focus (intro w hSw; (try dsimp only at hSw); go_simp; (try with_reducible rfl); done)); simp only [Act.put, List.getElem_toArray, List.getElem_cons_zero, List.getElem_cons_succ, List.setIfInBounds_toArray, List.set_cons_zero, List.set_cons_succ])
        (refine wpAnyH_take (i := 12) (v := ?_) rfl (by kernel_rfl) (by kernel_rfl) (by kernel_rfl) (fun _ _ _ h => h) (Or.inl ⟨by rfl, ?_⟩) (by assumption) ?_; rotate_left; (focus (intro w hSw; (try dsimp only at hSw); go_simp; (try with_reducible rfl); done)); simp only [Act.put, List.getElem_toArray, List.getElem_cons_zero, List.getElem_cons_succ, List.setIfInBounds_toArray, List.set_cons_zero, List.set_cons_succ])
        (refine wpAnyH_take (i := 13) (v := ?_) rfl (by kernel_rfl) (by kernel_rfl) (by kernel_rfl) (fun _ _ _ h => h) (Or.inl ⟨by rfl, ?_⟩) (by assumption) ?_; rotate_left; (focus (intro w hSw; (try dsimp only at hSw); go_simp; (try with_reducible rfl); done)); simp only [Act.put, List.getElem_toArray, List.getElem_cons_zero, List.getElem_cons_succ, List.setIfInBounds_toArray, List.set_cons_zero, List.set_cons_succ])
        (refine wpAnyH_take (i := 15) (v := ?_) rfl (by kernel_rfl) (by kernel_rfl) (by kernel_rfl) (fun _ _ _ h => h) (Or.inl ⟨by rfl, ?_⟩) (by assumption) ?_; rotate_left; (focus (intro w hSw; (try dsimp only at hSw); go_simp; (try with_reducible rfl); done)); simp only [Act.put, List.getElem_toArray, List.getElem_cons_zero, List.getElem_cons_succ, List.setIfInBounds_toArray, List.set_cons_zero, List.set_cons_succ])
        refine wpAnyH_ready (rs := [14]) (by kernel_rfl) (by simp) ?_
        refine AllReadyH.cons rfl (fun K hK => ?_) AllReadyH.nil
        go_simp
        go_wp2_with fail
        refine (C2.out _ TX.out TY.out).mono ?_
        rintro e w7 ⟨rfl, hb0⟩
        have hb := hb0
        replace HB : Hid (Below w.heap.size w w7) := HB.out.trans (hb.mono HB.out.size)
        replace TX : Hid (TRow w7 x.t x.ra x.wa) := TX.out.below hb
        replace TY : Hid (TRow w7 y.t y.ra y.wa) := TY.out.below hb
        replace BX : Hid (Bx w7 w1.heap.size [.int .i64 x.t.id, .int .i64 x.t.st, .int .i64 x.t.snap, .int .i64 x.t.cs, .slice x.ra x.t.rs.length x.rc, .slice x.wa x.t.ws.length x.wc, .bool x.t.out, .string x.t.nm]) := BX.out.below hb
        replace BY : Hid (Bx w7 (w1.heap.size + 1) [.int .i64 y.t.id, .int .i64 y.t.st, .int .i64 y.t.snap, .int .i64 y.t.cs, .slice y.ra y.t.rs.length y.rc, .slice y.wa y.t.ws.length y.wc, .bool y.t.out, .string y.t.nm]) := BY.out.below hb
        replace TCc : Hid (TRow w7 c.t c.ra c.wa) := TCc.out.below hb
        replace TD : Hid (TRow w7 d.t d.ra d.wa) := TD.out.below hb
        replace BC : Hid (Bx w7 w4.heap.size [.int .i64 c.t.id, .int .i64 c.t.st, .int .i64 c.t.snap, .int .i64 c.t.cs, .slice c.ra c.t.rs.length c.rc, .slice c.wa c.t.ws.length c.wc, .bool c.t.out, .string c.t.nm]) := BC.out.below hb
        replace BD : Hid (Bx w7 (w4.heap.size + 1) [.int .i64 d.t.id, .int .i64 d.t.st, .int .i64 d.t.snap, .int .i64 d.t.cs, .slice d.ra d.t.rs.length d.rc, .slice d.wa d.t.ws.length d.wc, .bool d.t.out, .string d.t.nm]) := BD.out.below hb
        go_wp2_with fail
        refine hK.out _ _ ⟨BX.out.c0, BX.out.c1, BX.out.c2, BX.out.c3, BX.out.c4, BX.out.c5, BX.out.c6, BX.out.c7, BY.out.c0, BY.out.c1, BY.out.c2, BY.out.c3, BY.out.c4, BY.out.c5, BY.out.c6, BY.out.c7, BC.out.c0, BC.out.c1, BC.out.c2, BC.out.c3, BC.out.c4, BC.out.c5, BC.out.c6, BC.out.c7, BD.out.c0, BD.out.c1, BD.out.c2, BD.out.c3, BD.out.c4, BD.out.c5, BD.out.c6, BD.out.c7⟩ (fun hHeld => ?_)
        clear hK K hb hb0
        (refine wpAnyH_take (i := 16) (v := ?_) rfl (by kernel_rfl) (by kernel_rfl) (by kernel_rfl) (fun _ _ _ h => h) (Or.inl ⟨by rfl, ?_⟩) (by assumption) ?_; rotate_left; (focus (intro w hSw; (try dsimp only at hSw); go_simp; (try with_reducible rfl); done)); simp only [Act.put, List.getElem_toArray, List.getElem_cons_zero, List.getElem_cons_succ, List.setIfInBounds_toArray, List.set_cons_zero, List.set_cons_succ])
        (refine wpAnyH_take (i := 17) (v := undef) rfl (by kernel_rfl) (by kernel_rfl) (by kernel_rfl) (fun _ _ _ h => h) (Or.inr ⟨by rfl, rfl⟩) (by assumption) ?_; simp only [Act.put, List.getElem_toArray, List.getElem_cons_zero, List.getElem_cons_succ, List.setIfInBounds_toArray, List.set_cons_zero, List.set_cons_succ])
        (refine wpAnyH_take (i := 18) (v := undef) rfl (by kernel_rfl) (by kernel_rfl) (by kernel_rfl) (fun _ _ _ h => h) (Or.inr ⟨by rfl, rfl⟩) (by assumption) ?_; simp only [Act.put, List.getElem_toArray, List.getElem_cons_zero, List.getElem_cons_succ, List.setIfInBounds_toArray, List.set_cons_zero, List.set_cons_succ])
        (refine wpAnyH_take (i := 19) (v := undef) rfl (by kernel_rfl) (by kernel_rfl) (by kernel_rfl) (fun _ _ _ h => h) (Or.inr ⟨by rfl, rfl⟩) (by assumption) ?_; simp only [Act.put, List.getElem_toArray, List.getElem_cons_zero, List.getElem_cons_succ, List.setIfInBounds_toArray, List.set_cons_zero, List.set_cons_succ])
        (refine wpAnyH_take (i := 20) (v := undef) rfl (by kernel_rfl) (by kernel_rfl) (by kernel_rfl) (fun _ _ _ h => h) (Or.inr ⟨by rfl, rfl⟩) (by assumption) ?_; simp only [Act.put, List.getElem_toArray, List.getElem_cons_zero, List.getElem_cons_succ, List.setIfInBounds_toArray, List.set_cons_zero, List.set_cons_succ])
        (refine wpAnyH_take (i := 21) (v := undef) rfl (by kernel_rfl) (by kernel_rfl) (by kernel_rfl) (fun _ _ _ h => h) (Or.inr ⟨by rfl, rfl⟩) (by assumption) ?_; simp only [Act.put, List.getElem_toArray, List.getElem_cons_zero, List.getElem_cons_succ, List.setIfInBounds_toArray, List.set_cons_zero, List.set_cons_succ])
        (refine wpAnyH_take (i := 22) (v := ?_) rfl (by kernel_rfl) (by kernel_rfl) (by kernel_rfl) (fun _ _ _ h => h) (Or.inl ⟨by rfl, ?_⟩) (by assumption) ?_; rotate_left; (focus (intro w hSw; (try dsimp only at hSw); go_simp; (try with_reducible rfl); done)); simp only [Act.put, List.getElem_toArray, List.getElem_cons_zero, List.getElem_cons_succ, List.setIfInBounds_toArray, List.set_cons_zero, List.set_cons_succ])
        (refine wpAnyH_take (i := 23) (v := ?_) rfl (by kernel_rfl) (by kernel_rfl) (by kernel_rfl) (fun _ _ _ h => h) (Or.inl ⟨by rfl, ?_⟩) (by assumption) ?_; rotate_left; (focus (intro w hSw; (try dsimp only at hSw); go_simp; (try with_reducible rfl); done)); simp only [Act.put, List.getElem_toArray, List.getElem_cons_zero, List.getElem_cons_succ, List.setIfInBounds_toArray, List.set_cons_zero, List.set_cons_succ])
        (refine wpAnyH_take (i := 24) (v := ?_) rfl (by kernel_rfl) (by kernel_rfl) (by kernel_rfl) (fun _ _ _ h => h) (Or.inl ⟨by rfl, ?_⟩) (by assumption) ?_; rotate_left; (focus (intro w hSw; (try dsimp only at hSw); go_simp; (try with_reducible rfl); done)); simp only [Act.put, List.getElem_toArray, List.getElem_cons_zero, List.getElem_cons_succ, List.setIfInBounds_toArray, List.set_cons_zero, List.set_cons_succ])
        (refine wpAnyH_take (i := 25) (v := ?_) rfl (by kernel_rfl) (by kernel_rfl) (by kernel_rfl) (fun _ _ _ h => h) (Or.inl ⟨by rfl, ?_⟩) (by assumption) ?_; rotate_left; (focus (intro w hSw; (try dsimp only at hSw); go_simp; (try with_reducible rfl); done)); simp only [Act.put, List.getElem_toArray, List.getElem_cons_zero, List.getElem_cons_succ, List.setIfInBounds_toArray, List.set_cons_zero, List.set_cons_succ])
        (refine wpAnyH_take (i := 26) (v := ?_) rfl (by kernel_rfl) (by kernel_rfl) (by kernel_rfl) (fun _ _ _ h => h) (Or.inl ⟨by rfl, ?_⟩) (by assumption) ?_; rotate_left; (focus (intro w hSw; (try dsimp only at hSw); go_simp; (try with_reducible rfl); done)); simp only [Act.put, List.getElem_toArray, List.getElem_cons_zero, List.getElem_cons_succ, List.setIfInBounds_toArray, List.set_cons_zero, List.set_cons_succ])
        (refine wpAnyH_take (i := 27) (v := ?_) rfl (by kernel_rfl) (by kernel_rfl) (by kernel_rfl) (fun _ _ _ h => h) (Or.inl ⟨by rfl, ?_⟩) (by assumption) ?_; rotate_left; (focus (intro w hSw; (try dsimp only at hSw); go_simp; (try with_reducible rfl); done)); simp only [Act.put, List.getElem_toArray, List.getElem_cons_zero, List.getElem_cons_succ, List.setIfInBounds_toArray, List.set_cons_zero, List.set_cons_succ])
        (refine wpAnyH_take (i := 29) (v := ?_) rfl (by kernel_rfl) (by kernel_rfl) (by kernel_rfl) (fun _ _ _ h => h) (Or.inl ⟨by rfl, ?_⟩) (by assumption) ?_; rotate_left; (focus (intro w hSw; (try dsimp only at hSw); go_simp; (try with_reducible rfl); done)); simp only [Act.put, List.getElem_toArray, List.getElem_cons_zero, List.getElem_cons_succ, List.setIfInBounds_toArray, List.set_cons_zero, List.set_cons_succ])
        (refine wpAnyH_take (i := 30) (v := ?_) rfl (by kernel_rfl) (by kernel_rfl) (by kernel_rfl) (fun _ _ _ h => h) (Or.inl ⟨by rfl, ?_⟩) (by assumption) ?_; rotate_left; (focus (intro w hSw; (try dsimp only at hSw); go_simp; (try with_reducible rfl); done)); simp only [Act.put, List.getElem_toArray, List.getElem_cons_zero, List.getElem_cons_succ, List.setIfInBounds_toArray, List.set_cons_zero, List.set_cons_succ])
        refine wpAnyH_ready (rs := [28]) (by kernel_rfl) (by simp) ?_
        refine AllReadyH.cons rfl (fun K hK => ?_) AllReadyH.nil
        go_simp
        go_wp2_with fail
        refine (C4.out _ TCc.out TD.out).mono ?_
        rintro e w8 ⟨rfl, hb0⟩
        have hb := hb0
        replace HB : Hid (Below w.heap.size w w8) := HB.out.trans (hb.mono HB.out.size)
        replace TX : Hid (TRow w8 x.t x.ra x.wa) := TX.out.below hb
        replace TY : Hid (TRow w8 y.t y.ra y.wa) := TY.out.below hb
        replace BX : Hid (Bx w8 w1.heap.size [.int .i64 x.t.id, .int .i64 x.t.st, .int .i64 x.t.snap, .int .i64 x.t.cs, .slice x.ra x.t.rs.length x.rc, .slice x.wa x.t.ws.length x.wc, .bool x.t.out, .string x.t.nm]) := BX.out.below hb
        replace BY : Hid (Bx w8 (w1.heap.size + 1) [.int .i64 y.t.id, .int .i64 y.t.st, .int .i64 y.t.snap, .int .i64 y.t.cs, .slice y.ra y.t.rs.length y.rc, .slice y.wa y.t.ws.length y.wc, .bool y.t.out, .string y.t.nm]) := BY.out.below hb
        replace TCc : Hid (TRow w8 c.t c.ra c.wa) := TCc.out.below hb
        replace TD : Hid (TRow w8 d.t d.ra d.wa) := TD.out.below hb
        replace BC : Hid (Bx w8 w4.heap.size [.int .i64 c.t.id, .int .i64 c.t.st, .int .i64 c.t.snap, .int .i64 c.t.cs, .slice c.ra c.t.rs.length c.rc, .slice c.wa c.t.ws.length c.wc, .bool c.t.out, .string c.t.nm]) := BC.out.below hb
        replace BD : Hid (Bx w8 (w4.heap.size + 1) [.int .i64 d.t.id, .int .i64 d.t.st, .int .i64 d.t.snap, .int .i64 d.t.cs, .slice d.ra d.t.rs.length d.rc, .slice d.wa d.t.ws.length d.wc, .bool d.t.out, .string d.t.nm]) := BD.out.below hb
        go_wp2_with fail
        refine hK.out _ _ ⟨BX.out.c0, BX.out.c1, BX.out.c2, BX.out.c3, BX.out.c4, BX.out.c5, BX.out.c6, BX.out.c7, BY.out.c0, BY.out.c1, BY.out.c2, BY.out.c3, BY.out.c4, BY.out.c5, BY.out.c6, BY.out.c7, BC.out.c0, BC.out.c1, BC.out.c2, BC.out.c3, BC.out.c4, BC.out.c5, BC.out.c6, BC.out.c7, BD.out.c0, BD.out.c1, BD.out.c2, BD.out.c3, BD.out.c4, BD.out.c5, BD.out.c6, BD.out.c7⟩ (fun hHeld => ?_)
        clear hK K hb hb0
        refine wpAnyH_ready (rs := [31]) (by kernel_rfl) (by simp) ?_
        refine AllReadyH.cons rfl (fun K hK => ?_) AllReadyH.nil
        go_simp
        go_wp2_with fail
        refine (C5.out _ TCc.out TD.out).mono ?_
        rintro e w9 ⟨rfl, hb0⟩
        have hb := hb0
        replace HB : Hid (Below w.heap.size w w9) := HB.out.trans (hb.mono HB.out.size)
        replace TX : Hid (TRow w9 x.t x.ra x.wa) := TX.out.below hb
        replace TY : Hid (TRow w9 y.t y.ra y.wa) := TY.out.below hb
        replace BX : Hid (Bx w9 w1.heap.size [.int .i64 x.t.id, .int .i64 x.t.st, .int .i64 x.t.snap, .int .i64 x.t.cs, .slice x.ra x.t.rs.length x.rc, .slice x.wa x.t.ws.length x.wc, .bool x.t.out, .string x.t.nm]) := BX.out.below hb
        replace BY : Hid (Bx w9 (w1.heap.size + 1) [.int .i64 y.t.id, .int .i64 y.t.st, .int .i64 y.t.snap, .int .i64 y.t.cs, .slice y.ra y.t.rs.length y.rc, .slice y.wa y.t.ws.length y.wc, .bool y.t.out, .string y.t.nm]) := BY.out.below hb
        replace TCc : Hid (TRow w9 c.t c.ra c.wa) := TCc.out.below hb
        replace TD : Hid (TRow w9 d.t d.ra d.wa) := TD.out.below hb
        replace BC : Hid (Bx w9 w4.heap.size [.int .i64 c.t.id, .int .i64 c.t.st, .int .i64 c.t.snap, .int .i64 c.t.cs, .slice c.ra c.t.rs.length c.rc, .slice c.wa c.t.ws.length c.wc, .bool c.t.out, .string c.t.nm]) := BC.out.below hb
        replace BD : Hid (Bx w9 (w4.heap.size + 1) [.int .i64 d.t.id, .int .i64 d.t.st, .int .i64 d.t.snap, .int .i64 d.t.cs, .slice d.ra d.t.rs.length d.rc, .slice d.wa d.t.ws.length d.wc, .bool d.t.out, .string d.t.nm]) := BD.out.below hb
        go_wp2_with fail
        refine hK.out _ _ ⟨BX.out.c0, BX.out.c1, BX.out.c2, BX.out.c3, BX.out.c4, BX.out.c5, BX.out.c6, BX.out.c7, BY.out.c0, BY.out.c1, BY.out.c2, BY.out.c3, BY.out.c4, BY.out.c5, BY.out.c6, BY.out.c7, BC.out.c0, BC.out.c1, BC.out.c2, BC.out.c3, BC.out.c4, BC.out.c5, BC.out.c6, BC.out.c7, BD.out.c0, BD.out.c1, BD.out.c2, BD.out.c3, BD.out.c4, BD.out.c5, BD.out.c6, BD.out.c7⟩ (fun hHeld => ?_)
        clear hK K hb hb0
        (refine wpAnyH_take (i := 32) (v := ?_) rfl (by kernel_rfl) (by kernel_rfl) (by kernel_rfl) (fun _ _ _ h => h) (Or.inl ⟨by rfl, ?_⟩) (by assumption) ?_; rotate_left; (focus (intro w hSw; (try dsimp only at hSw); go_simp; (try with_reducible rfl); done)); simp only [Act.put, List.getElem_toArray, List.getElem_cons_zero, List.getElem_cons_succ, List.setIfInBounds_toArray, List.set_cons_zero, List.set_cons_succ])
        (refine wpAnyH_take (i := 33) (v := ?_) rfl (by kernel_rfl) (by kernel_rfl) (by kernel_rfl) (fun _ _ _ h => h) (Or.inl ⟨by rfl, ?_⟩) (by assumption) ?_; rotate_left; (focus (intro w hSw; (try dsimp only at hSw); go_simp; (try with_reducible rfl); done)); simp only [Act.put, List.getElem_toArray, List.getElem_cons_zero, List.getElem_cons_succ, List.setIfInBounds_toArray, List.set_cons_zero, List.set_cons_succ])
        (refine wpAnyH_take (i := 34) (v := ?_) rfl (by kernel_rfl) (by kernel_rfl) (by kernel_rfl) (fun _ _ _ h => h) (Or.inl ⟨by rfl, ?_⟩) (by assumption) ?_; rotate_left; (focus (intro w hSw; (try dsimp only at hSw); go_simp; (try with_reducible rfl); done)); simp only [Act.put, List.getElem_toArray, List.getElem_cons_zero, List.getElem_cons_succ, List.setIfInBounds_toArray, List.set_cons_zero, List.set_cons_succ])
        (refine wpAnyH_take (i := 35) (v := ?_) rfl (by kernel_rfl) (by kernel_rfl) (by kernel_rfl) (fun _ _ _ h => h) (Or.inl ⟨by rfl, ?_⟩) (by assumption) ?_; rotate_left; (focus (intro w hSw; (try dsimp only at hSw); go_simp; (try with_reducible rfl); done)); simp only [Act.put, List.getElem_toArray, List.getElem_cons_zero, List.getElem_cons_succ, List.setIfInBounds_toArray, List.set_cons_zero, List.set_cons_succ])
        (refine wpAnyH_take (i := 36) (v := ?_) rfl (by kernel_rfl) (by kernel_rfl) (by kernel_rfl) (fun _ _ _ h => h) (Or.inl ⟨by rfl, ?_⟩) (by assumption) ?_; rotate_left; (focus (intro w hSw; (try dsimp only at hSw); go_simp; (try with_reducible rfl); done)); simp only [Act.put, List.getElem_toArray, List.getElem_cons_zero, List.getElem_cons_succ, List.setIfInBounds_toArray, List.set_cons_zero, List.set_cons_succ])
        (refine wpAnyH_take (i := 38) (v := ?_) rfl (by kernel_rfl) (by kernel_rfl) (by kernel_rfl) (fun _ _ _ h => h) (Or.inl ⟨by rfl, ?_⟩) (by assumption) ?_; rotate_left; (focus (intro w hSw; (try dsimp only at hSw); go_simp; (try with_reducible rfl); done)); simp only [Act.put, List.getElem_toArray, List.getElem_cons_zero, List.getElem_cons_succ, List.setIfInBounds_toArray, List.set_cons_zero, List.set_cons_succ])
        (refine wpAnyH_take (i := 39) (v := ?_) rfl (by kernel_rfl) (by kernel_rfl) (by kernel_rfl) (fun _ _ _ h => h) (Or.inl ⟨by rfl, ?_⟩) (by assumption) ?_; rotate_left; (focus (intro w hSw; (try dsimp only at hSw); go_simp; (try with_reducible rfl); done)); simp only [Act.put, List.getElem_toArray, List.getElem_cons_zero, List.getElem_cons_succ, List.setIfInBounds_toArray, List.set_cons_zero, List.set_cons_succ])
        refine wpAnyH_ready (rs := [37]) (by kernel_rfl) (by simp) ?_
        refine AllReadyH.cons rfl (fun K hK => ?_) AllReadyH.nil
        go_simp
        go_wp2_with fail
        refine (C6.out _).mono ?_
        rintro e w10 ⟨rfl, hb0⟩
        have hb := hb0
        replace HB : Hid (Below w.heap.size w w10) := HB.out.trans (hb.mono HB.out.size)
        replace TX : Hid (TRow w10 x.t x.ra x.wa) := TX.out.below hb
        replace TY : Hid (TRow w10 y.t y.ra y.wa) := TY.out.below hb
        replace BX : Hid (Bx w10 w1.heap.size [.int .i64 x.t.id, .int .i64 x.t.st, .int .i64 x.t.snap, .int .i64 x.t.cs, .slice x.ra x.t.rs.length x.rc, .slice x.wa x.t.ws.length x.wc, .bool x.t.out, .string x.t.nm]) := BX.out.below hb
        replace BY : Hid (Bx w10 (w1.heap.size + 1) [.int .i64 y.t.id, .int .i64 y.t.st, .int .i64 y.t.snap, .int .i64 y.t.cs, .slice y.ra y.t.rs.length y.rc, .slice y.wa y.t.ws.length y.wc, .bool y.t.out, .string y.t.nm]) := BY.out.below hb
        replace TCc : Hid (TRow w10 c.t c.ra c.wa) := TCc.out.below hb
        replace TD : Hid (TRow w10 d.t d.ra d.wa) := TD.out.below hb
        replace BC : Hid (Bx w10 w4.heap.size [.int .i64 c.t.id, .int .i64 c.t.st, .int .i64 c.t.snap, .int .i64 c.t.cs, .slice c.ra c.t.rs.length c.rc, .slice c.wa c.t.ws.length c.wc, .bool c.t.out, .string c.t.nm]) := BC.out.below hb
        replace BD : Hid (Bx w10 (w4.heap.size + 1) [.int .i64 d.t.id, .int .i64 d.t.st, .int .i64 d.t.snap, .int .i64 d.t.cs, .slice d.ra d.t.rs.length d.rc, .slice d.wa d.t.ws.length d.wc, .bool d.t.out, .string d.t.nm]) := BD.out.below hb
        go_wp2_with fail
        refine hK.out _ _ ⟨BX.out.c0, BX.out.c1, BX.out.c2, BX.out.c3, BX.out.c4, BX.out.c5, BX.out.c6, BX.out.c7, BY.out.c0, BY.out.c1, BY.out.c2, BY.out.c3, BY.out.c4, BY.out.c5, BY.out.c6, BY.out.c7, BC.out.c0, BC.out.c1, BC.out.c2, BC.out.c3, BC.out.c4, BC.out.c5, BC.out.c6, BC.out.c7, BD.out.c0, BD.out.c1, BD.out.c2, BD.out.c3, BD.out.c4, BD.out.c5, BD.out.c6, BD.out.c7⟩ (fun hHeld => ?_)
        clear hK K hb hb0
        refine wpAnyH_ready (rs := [40]) (by kernel_rfl) (by simp) ?_
        refine AllReadyH.cons rfl (fun K hK => ?_) AllReadyH.nil
        go_simp
        go_wp2_with fail
        refine (C7.out _).mono ?_
        rintro e w11 ⟨rfl, hb0⟩
        have hb := hb0
        replace HB : Hid (Below w.heap.size w w11) := HB.out.trans (hb.mono HB.out.size)
        replace TX : Hid (TRow w11 x.t x.ra x.wa) := TX.out.below hb
        replace TY : Hid (TRow w11 y.t y.ra y.wa) := TY.out.below hb
        replace BX : Hid (Bx w11 w1.heap.size [.int .i64 x.t.id, .int .i64 x.t.st, .int .i64 x.t.snap, .int .i64 x.t.cs, .slice x.ra x.t.rs.length x.rc, .slice x.wa x.t.ws.length x.wc, .bool x.t.out, .string x.t.nm]) := BX.out.below hb
        replace BY : Hid (Bx w11 (w1.heap.size + 1) [.int .i64 y.t.id, .int .i64 y.t.st, .int .i64 y.t.snap, .int .i64 y.t.cs, .slice y.ra y.t.rs.length y.rc, .slice y.wa y.t.ws.length y.wc, .bool y.t.out, .string y.t.nm]) := BY.out.below hb
        replace TCc : Hid (TRow w11 c.t c.ra c.wa) := TCc.out.below hb
        replace TD : Hid (TRow w11 d.t d.ra d.wa) := TD.out.below hb
        replace BC : Hid (Bx w11 w4.heap.size [.int .i64 c.t.id, .int .i64 c.t.st, .int .i64 c.t.snap, .int .i64 c.t.cs, .slice c.ra c.t.rs.length c.rc, .slice c.wa c.t.ws.length c.wc, .bool c.t.out, .string c.t.nm]) := BC.out.below hb
        replace BD : Hid (Bx w11 (w4.heap.size + 1) [.int .i64 d.t.id, .int .i64 d.t.st, .int .i64 d.t.snap, .int .i64 d.t.cs, .slice d.ra d.t.rs.length d.rc, .slice d.wa d.t.ws.length d.wc, .bool d.t.out, .string d.t.nm]) := BD.out.below hb
        go_wp2_with fail
        refine hK.out _ _ ⟨BX.out.c0, BX.out.c1, BX.out.c2, BX.out.c3, BX.out.c4, BX.out.c5, BX.out.c6, BX.out.c7, BY.out.c0, BY.out.c1, BY.out.c2, BY.out.c3, BY.out.c4, BY.out.c5, BY.out.c6, BY.out.c7, BC.out.c0, BC.out.c1, BC.out.c2, BC.out.c3, BC.out.c4, BC.out.c5, BC.out.c6, BC.out.c7, BD.out.c0, BD.out.c1, BD.out.c2, BD.out.c3, BD.out.c4, BD.out.c5, BD.out.c6, BD.out.c7⟩ (fun hHeld => ?_)
        clear hK K hb hb0
        (refine wpAnyH_take (i := 41) (v := ?_) rfl (by kernel_rfl) (by kernel_rfl) (by kernel_rfl) (fun _ _ _ h => h) (Or.inl ⟨by rfl, ?_⟩) (by assumption) ?_; rotate_left; (focus (intro w hSw; (try dsimp only at hSw); go_simp; (try with_reducible rfl); done)); simp only [Act.put, List.getElem_toArray, List.getElem_cons_zero, List.getElem_cons_succ, List.setIfInBounds_toArray, List.set_cons_zero, List.set_cons_succ])
        (refine wpAnyH_take (i := 42) (v := ?_) rfl (by kernel_rfl) (by kernel_rfl) (by kernel_rfl) (fun _ _ _ h => h) (Or.inl ⟨by rfl, ?_⟩) (by assumption) ?_; rotate_left; (focus (intro w hSw; (try dsimp only at hSw); go_simp; (try with_reducible rfl); done)); simp only [Act.put, List.getElem_toArray, List.getElem_cons_zero, List.getElem_cons_succ, List.setIfInBounds_toArray, List.set_cons_zero, List.set_cons_succ])
        (refine wpAnyH_take (i := 43) (v := ?_) rfl (by kernel_rfl) (by kernel_rfl) (by kernel_rfl) (fun _ _ _ h => h) (Or.inl ⟨by rfl, ?_⟩) (by assumption) ?_; rotate_left; (focus (intro w hSw; (try dsimp only at hSw); go_simp; (try with_reducible rfl); done)); simp only [Act.put, List.getElem_toArray, List.getElem_cons_zero, List.getElem_cons_succ, List.setIfInBounds_toArray, List.set_cons_zero, List.set_cons_succ])
        (refine wpAnyH_take (i := 44) (v := ?_) rfl (by kernel_rfl) (by kernel_rfl) (by kernel_rfl) (fun _ _ _ h => h) (Or.inl ⟨by rfl, ?_⟩) (by assumption) ?_; rotate_left; (focus (intro w hSw; (try dsimp only at hSw); go_simp; (try with_reducible rfl); done)); simp only [Act.put, List.getElem_toArray, List.getElem_cons_zero, List.getElem_cons_succ, List.setIfInBounds_toArray, List.set_cons_zero, List.set_cons_succ])
        (refine wpAnyH_take (i := 45) (v := ?_) rfl (by kernel_rfl) (by kernel_rfl) (by kernel_rfl) (fun _ _ _ h => h) (Or.inl ⟨by rfl, ?_⟩) (by assumption) ?_; rotate_left; (focus (intro w hSw; (try dsimp only at hSw); go_simp; (try with_reducible rfl); done)); simp only [Act.put, List.getElem_toArray, List.getElem_cons_zero, List.getElem_cons_succ, List.setIfInBounds_toArray, List.set_cons_zero, List.set_cons_succ])
        refine wpAnyH_ready (rs := [46]) (by kernel_rfl) (by simp) ?_
        refine AllReadyH.cons rfl (fun K hK => ?_) AllReadyH.nil
        go_simp
        go_wp2_with fail
        refine (C8.out _ TX.out).mono ?_
        rintro e w12 ⟨rfl, hb0⟩
        have hb := hb0
        replace HB : Hid (Below w.heap.size w w12) := HB.out.trans (hb.mono HB.out.size)
        replace TX : Hid (TRow w12 x.t x.ra x.wa) := TX.out.below hb
        replace TY : Hid (TRow w12 y.t y.ra y.wa) := TY.out.below hb
        replace BX : Hid (Bx w12 w1.heap.size [.int .i64 x.t.id, .int .i64 x.t.st, .int .i64 x.t.snap, .int .i64 x.t.cs, .slice x.ra x.t.rs.length x.rc, .slice x.wa x.t.ws.length x.wc, .bool x.t.out, .string x.t.nm]) := BX.out.below hb
        replace BY : Hid (Bx w12 (w1.heap.size + 1) [.int .i64 y.t.id, .int .i64 y.t.st, .int .i64 y.t.snap, .int .i64 y.t.cs, .slice y.ra y.t.rs.length y.rc, .slice y.wa y.t.ws.length y.wc, .bool y.t.out, .string y.t.nm]) := BY.out.below hb
        replace TCc : Hid (TRow w12 c.t c.ra c.wa) := TCc.out.below hb
        replace TD : Hid (TRow w12 d.t d.ra d.wa) := TD.out.below hb
        replace BC : Hid (Bx w12 w4.heap.size [.int .i64 c.t.id, .int .i64 c.t.st, .int .i64 c.t.snap, .int .i64 c.t.cs, .slice c.ra c.t.rs.length c.rc, .slice c.wa c.t.ws.length c.wc, .bool c.t.out, .string c.t.nm]) := BC.out.below hb
        replace BD : Hid (Bx w12 (w4.heap.size + 1) [.int .i64 d.t.id, .int .i64 d.t.st, .int .i64 d.t.snap, .int .i64 d.t.cs, .slice d.ra d.t.rs.length d.rc, .slice d.wa d.t.ws.length d.wc, .bool d.t.out, .string d.t.nm]) := BD.out.below hb
        go_wp2_with fail
        refine hK.out _ _ ⟨BX.out.c0, BX.out.c1, BX.out.c2, BX.out.c3, BX.out.c4, BX.out.c5, BX.out.c6, BX.out.c7, BY.out.c0, BY.out.c1, BY.out.c2, BY.out.c3, BY.out.c4, BY.out.c5, BY.out.c6, BY.out.c7, BC.out.c0, BC.out.c1, BC.out.c2, BC.out.c3, BC.out.c4, BC.out.c5, BC.out.c6, BC.out.c7, BD.out.c0, BD.out.c1, BD.out.c2, BD.out.c3, BD.out.c4, BD.out.c5, BD.out.c6, BD.out.c7⟩ (fun hHeld => ?_)
        clear hK K hb hb0
        (refine wpAnyH_take (i := 47) (v := ?_) rfl (by kernel_rfl) (by kernel_rfl) (by kernel_rfl) (fun _ _ _ h => h) (Or.inl ⟨by rfl, ?_⟩) (by assumption) ?_; rotate_left; (focus (intro w hSw; (try dsimp only at hSw); go_simp; (try with_reducible rfl); done)); simp only [Act.put, List.getElem_toArray, List.getElem_cons_zero, List.getElem_cons_succ, List.setIfInBounds_toArray, List.set_cons_zero, List.set_cons_succ])
        (refine wpAnyH_take (i := 48) (v := ?_) rfl (by kernel_rfl) (by kernel_rfl) (by kernel_rfl) (fun _ _ _ h => h) (Or.inl ⟨by rfl, ?_⟩) (by assumption) ?_; rotate_left; (focus (intro w hSw; (try dsimp only at hSw); go_simp; (try with_reducible rfl); done)); simp only [Act.put, List.getElem_toArray, List.getElem_cons_zero, List.getElem_cons_succ, List.setIfInBounds_toArray, List.set_cons_zero, List.set_cons_succ])
        (refine wpAnyH_take (i := 49) (v := ?_) rfl (by kernel_rfl) (by kernel_rfl) (by kernel_rfl) (fun _ _ _ h => h) (Or.inl ⟨by rfl, ?_⟩) (by assumption) ?_; rotate_left; (focus (intro w hSw; (try dsimp only at hSw); go_simp; (try with_reducible rfl); done)); simp only [Act.put, List.getElem_toArray, List.getElem_cons_zero, List.getElem_cons_succ, List.setIfInBounds_toArray, List.set_cons_zero, List.set_cons_succ])
        refine wpAnyH_done (by kernel_rfl) ?_ _
        go_wp2
        go_ret
        exact ⟨rfl, HB.out⟩
  · rw [decide_eq_true (by omega)] at HBG
    go_enter Try.func3, Try.ntmps3
    go_wp2_with fail
    refine (HBG.out _).mono ?_
    rintro e w ⟨rfl, rfl⟩
    go_wp2
    go_ret
    exact ⟨rfl, belowRefl w⟩


end Go.Proofs.Ythhplblohhkjbaa
