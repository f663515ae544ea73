/- The law FnExactTrimmed, walked. -/
import Derived.Test.YtnlfojaflgehbaaD3
import Derived.Test.YtnlfojaflgehbaaD4
import Derived.Test.YtnlfojaflgehbaaMv
import Derived.Test.YtnlfojaflgehbaaLie
namespace Go.Proofs.Ytnlfojaflgehbaa
open Go.RowKit
open KM
open VM
attribute [local go_sem ↓] Go.wp_at_zero Go.wp_at_succ

set_option maxRecDepth 100000 in
set_option maxHeartbeats 4000000 in
theorem law8 (xs : List Vr) (a0 : Option Addr) (c0 : Nat) (s : Int) (w : World) (hn0 : xs.length ≤ maxLen) (hl0 : ∀ x ∈ xs, x.1.size ≤ maxLen ∧ x.2.1.size ≤ maxLen) (hp0 : GRow encV w a0 xs) : Calls Try.prog 8 #[.slice a0 xs.length c0, .int .i64 s] w fun e w' => e = .returned (.bool true) ∧ Below w.heap.size w w' := by
  have HP0 : Hid (GRow encV w a0 xs) := hp0
  have HL0 : Hid (∀ x ∈ xs, x.1.size ≤ maxLen ∧ x.2.1.size ≤ maxLen) := hl0
  clear hp0 hl0
  unfold maxLen at hn0
  go_enter Try.func8, Try.ntmps8
  go_wp2_with fail
  refine (szSV xs a0 c0 hn0 HL0.out _ (by omega) (by omega) _ HP0.out).mono ?_
  rintro e w1 ⟨hb1, r0, rfl, hu0, hr0⟩
  have HB1 : Hid (Below w.heap.size w w1) := hb1
  have S1 : Hid (w.heap.size ≤ w1.heap.size) := hb1.size
  clear hb1
  by_cases hneg0 : r0 < 0
  · clear hr0
    go_wp2
    go_ret
    exact ⟨rfl, HB1.out⟩
  have hpos0 : ¬ r0 < 0 := hneg0
  have HF0 : Hid (VFit xs) := (hr0 (by omega)).2
  have hn : xs.length ≤ 1048576 := (hr0 (by omega)).1
  clear hr0
  have CI : Hid (∀ a c w, GRow encV w a xs → Calls Try.prog 22 #[.slice a xs.length c, .int .i64 s] w fun e w' => ∃ a1 c1, e = .returned (.slice a1 (trimB s xs).length c1) ∧ GOwn encV 74 w' w.heap.size (.slice a1 (trimB s xs).length c1) (trimB s xs) ∧ Below w.heap.size w w') := fun a c w h => itrim xs a c s (by omega) HF0.out w h
  have CS : Hid (∀ a c w, GRow encV w a xs → Calls Try.prog 28 #[.slice a xs.length c, .int .i64 s] w fun e w' => ∃ a1 c1, e = .returned (.slice a1 (trimB s xs).length c1) ∧ GOwn encV 74 w' w.heap.size (.slice a1 (trimB s xs).length c1) (trimB s xs) ∧ Below w.heap.size w w') := fun a c w h => strim xs a c s (by omega) w h
  have hrl : (trimB s xs).length ≤ 1048576 := Nat.le_trans (trim_len s xs) hn
  generalize trimB s xs = rs at CI CS hrl
  go_wp2_with fail
  refine (toSV xs a0 c0 (by omega) _ (HP0.out.below HB1.out)).mono ?_
  rintro e w2 ⟨pa, pc, rfl, hd2, hb2⟩
  have HB2 : Hid (Below w.heap.size w w2) := HB1.out.trans ((hb2).mono HB1.out.size)
  have S2 : Hid (w1.heap.size ≤ w2.heap.size) := (hb2).size
  have P2 := hide hd2.grow
  clear hd2
  clear hb2
  go_wp2_with fail
  refine (CS.out pa _ _ P2.out).mono ?_
  rintro e w3 ⟨ra, rc, rfl, ho3, hb3⟩
  have HB3 : Hid (Below w.heap.size w w3) := HB2.out.trans ((hb3).mono HB2.out.size)
  have S3 : Hid (w2.heap.size ≤ w3.heap.size) := (hb3).size
  have RR3 : Hid (Lies encV 74 w3 w2.heap.size w3.heap.size (.slice ra rs.length rc) rs) := Lies.of ho3
  clear ho3
  clear hb3
  go_wp2_with fail
  refine (toSV xs a0 c0 (by omega) _ (HP0.out.below HB3.out)).mono ?_
  rintro e w4 ⟨xa, xc, rfl, hd4, hb4⟩
  have RR4 : Hid (Lies encV 74 w4 w2.heap.size w3.heap.size (.slice ra rs.length rc) rs) := RR3.out.below hb4
  have HB4 : Hid (Below w.heap.size w w4) := HB3.out.trans ((hb4).mono HB3.out.size)
  have S4 : Hid (w3.heap.size ≤ w4.heap.size) := (hb4).size
  have XX4 : Hid (Lies encV 74 w4 w3.heap.size w4.heap.size (.slice xa xs.length xc) xs) := Lies.of hd4
  clear hd4
  clear hb4
  go_wp2_with fail
  refine (CI.out xa _ _ XX4.out.own.grow).mono ?_
  rintro e w5 ⟨ya, yc, rfl, ho5, hb5⟩
  have RR5 : Hid (Lies encV 74 w5 w2.heap.size w3.heap.size (.slice ra rs.length rc) rs) := RR4.out.below hb5
  have XX5 : Hid (Lies encV 74 w5 w3.heap.size w4.heap.size (.slice xa xs.length xc) xs) := XX4.out.below hb5
  have HB5 : Hid (Below w.heap.size w w5) := HB4.out.trans ((hb5).mono HB4.out.size)
  have S5 : Hid (w4.heap.size ≤ w5.heap.size) := (hb5).size
  have YY5 : Hid (Lies encV 74 w5 w4.heap.size w5.heap.size (.slice ya rs.length yc) rs) := Lies.of ho5
  clear ho5
  clear hb5
  go_wp2_with fail
  refine (eqSV ya ra _ _ rs (by omega) _ YY5.out.own.grow RR5.out.own.grow).mono ?_
  rintro e w6 ⟨rfl, hb6⟩
  have RR6 : Hid (Lies encV 74 w6 w2.heap.size w3.heap.size (.slice ra rs.length rc) rs) := RR5.out.below hb6
  have XX6 : Hid (Lies encV 74 w6 w3.heap.size w4.heap.size (.slice xa xs.length xc) xs) := XX5.out.below hb6
  have YY6 : Hid (Lies encV 74 w6 w4.heap.size w5.heap.size (.slice ya rs.length yc) rs) := YY5.out.below hb6
  have HB6 : Hid (Below w.heap.size w w6) := HB5.out.trans ((hb6).mono HB5.out.size)
  have S6 : Hid (w5.heap.size ≤ w6.heap.size) := (hb6).size
  clear hb6
  go_wp2_with fail
  refine (toSV xs a0 c0 (by omega) _ (HP0.out.below HB6.out)).mono ?_
  rintro e w7 ⟨qa, qc, rfl, hd7, hb7⟩
  have RR7 : Hid (Lies encV 74 w7 w2.heap.size w3.heap.size (.slice ra rs.length rc) rs) := RR6.out.below hb7
  have XX7 : Hid (Lies encV 74 w7 w3.heap.size w4.heap.size (.slice xa xs.length xc) xs) := XX6.out.below hb7
  have YY7 : Hid (Lies encV 74 w7 w4.heap.size w5.heap.size (.slice ya rs.length yc) rs) := YY6.out.below hb7
  have HB7 : Hid (Below w.heap.size w w7) := HB6.out.trans ((hb7).mono HB6.out.size)
  have S7 : Hid (w6.heap.size ≤ w7.heap.size) := (hb7).size
  have Q7 := hide hd7.grow
  clear hd7
  clear hb7
  go_wp2_with fail
  refine (eqSV xa qa _ _ xs (by omega) _ XX7.out.own.grow Q7.out).mono ?_
  rintro e w8 ⟨rfl, hb8⟩
  have RR8 : Hid (Lies encV 74 w8 w2.heap.size w3.heap.size (.slice ra rs.length rc) rs) := RR7.out.below hb8
  have XX8 : Hid (Lies encV 74 w8 w3.heap.size w4.heap.size (.slice xa xs.length xc) xs) := XX7.out.below hb8
  have YY8 : Hid (Lies encV 74 w8 w4.heap.size w5.heap.size (.slice ya rs.length yc) rs) := YY7.out.below hb8
  have HB8 : Hid (Below w.heap.size w w8) := HB7.out.trans ((hb8).mono HB7.out.size)
  have S8 : Hid (w7.heap.size ≤ w8.heap.size) := (hb8).size
  clear hb8
  have LLRRXX : Hid (w3.heap.size ≤ w3.heap.size) := by show _ ≤ _; skip; omega
  have LLYYXX : Hid (w4.heap.size ≤ w4.heap.size) := by show _ ≤ _; skip; omega
  have LLRRYY : Hid (w3.heap.size ≤ w4.heap.size) := by show _ ≤ _; have := S4.out; omega
  have LL0XX : Hid (w.heap.size ≤ w3.heap.size) := by show _ ≤ _; have := S1.out; have := S2.out; have := S3.out; omega
  have LL0YY : Hid (w.heap.size ≤ w4.heap.size) := by show _ ≤ _; have := S1.out; have := S2.out; have := S3.out; have := S4.out; omega
  go_wp2_with fail
  refine (markV xs.length 1 xa xc w3.heap.size _ (by omega) (by omega) (by omega) _ XX8.out.own).mono ?_
  rintro e w9 ⟨rfl, hm9, hg9⟩
  have LO9 : Hid (∀ g, (Value.slice xa xs.length xc).ownBlock = some g → w3.heap.size ≤ g ∧ g < w4.heap.size) := XX8.out.lo
  have RR9 : Hid (Lies encV 74 w9 w2.heap.size w3.heap.size (.slice ra rs.length rc) rs) := RR8.out.marked hg9 (fun g h => by have := LO9.out g h; have := LLRRXX.out; omega)
  have YY9 : Hid (Lies encV 74 w9 w4.heap.size w5.heap.size (.slice ya rs.length yc) rs) := YY8.out.marked hg9 (fun g h => by have := LO9.out g h; have := LLYYXX.out; omega)
  have HB9 : Hid (Below w.heap.size w w9) := HB8.out.trans (grown_low hg9 (fun g h => by have := LO9.out g h; have := LL0XX.out; omega) HB8.out.size)
  have S9 : Hid (w8.heap.size ≤ w9.heap.size) := hg9.size
  clear hm9 hg9
  have hnn : ¬ ((1 + 4 * xs.length : Nat) : Int) < 0 := by omega
  have hnd : decide (((1 + 4 * xs.length : Nat) : Int) < 0) = false := by simp; omega
  generalize ((1 + 4 * xs.length : Nat) : Int) = K1 at *
  go_wp2_with fail
  refine (eqSV ya ra _ _ rs (by omega) _ YY9.out.own.grow RR9.out.own.grow).mono ?_
  rintro e w10 ⟨rfl, hb10⟩
  have RR10 : Hid (Lies encV 74 w10 w2.heap.size w3.heap.size (.slice ra rs.length rc) rs) := RR9.out.below hb10
  have YY10 : Hid (Lies encV 74 w10 w4.heap.size w5.heap.size (.slice ya rs.length yc) rs) := YY9.out.below hb10
  have HB10 : Hid (Below w.heap.size w w10) := HB9.out.trans ((hb10).mono HB9.out.size)
  have S10 : Hid (w9.heap.size ≤ w10.heap.size) := (hb10).size
  clear hb10
  go_wp2_with fail
  refine (markV rs.length 1 ya yc w4.heap.size _ (by omega) (by omega) (by omega) _ YY10.out.own).mono ?_
  rintro e w11 ⟨rfl, hm11, hg11⟩
  have LO11 : Hid (∀ g, (Value.slice ya rs.length yc).ownBlock = some g → w4.heap.size ≤ g ∧ g < w5.heap.size) := YY10.out.lo
  have RR11 : Hid (Lies encV 74 w11 w2.heap.size w3.heap.size (.slice ra rs.length rc) rs) := RR10.out.marked hg11 (fun g h => by have := LO11.out g h; have := LLRRYY.out; omega)
  have HB11 : Hid (Below w.heap.size w w11) := HB10.out.trans (grown_low hg11 (fun g h => by have := LO11.out g h; have := LL0YY.out; omega) HB10.out.size)
  have S11 : Hid (w10.heap.size ≤ w11.heap.size) := hg11.size
  have M11 : Hid (GRow encV w11 ya (mkV 1 rs.length)) := by
    have h := hm11
    rw [show Value.slice ya rs.length yc = .slice ya (mkV 1 rs.length).length yc by rw [mkV_len]] at h
    exact h.grow
  clear hm11 hg11
  have hk2 : ¬ ((1 + 4 * rs.length : Nat) : Int) < 0 := by omega
  have hk3 := ne_self_int ((1 + 4 * rs.length : Nat) : Int)
  have CH : Hid (∀ w, GRow encV w ya (mkV 1 rs.length) → Calls Try.prog 41 #[.slice ya rs.length yc, .int .i64 1] w fun e w' => e = .returned (.int .i64 ((1 + 4 * rs.length : Nat) : Int)) ∧ Below w.heap.size w w') := fun w h => heldV rs.length 1 ya yc (by omega) (by omega) (by omega) w h
  generalize ((1 + 4 * rs.length : Nat) : Int) = K2 at *
  go_wp2_with fail
  refine (CH.out _ M11.out).mono ?_
  rintro e w12 ⟨rfl, hb12⟩
  have RR12 : Hid (Lies encV 74 w12 w2.heap.size w3.heap.size (.slice ra rs.length rc) rs) := RR11.out.below hb12
  have HB12 : Hid (Below w.heap.size w w12) := HB11.out.trans ((hb12).mono HB11.out.size)
  have S12 : Hid (w11.heap.size ≤ w12.heap.size) := (hb12).size
  have M12 := hide (M11.out.below hb12)
  clear hb12
  go_wp2_with fail
  refine (toSV xs a0 c0 (by omega) _ (HP0.out.below HB12.out)).mono ?_
  rintro e w13 ⟨ua, uc, rfl, hd13, hb13⟩
  have RR13 : Hid (Lies encV 74 w13 w2.heap.size w3.heap.size (.slice ra rs.length rc) rs) := RR12.out.below hb13
  have HB13 : Hid (Below w.heap.size w w13) := HB12.out.trans ((hb13).mono HB12.out.size)
  have S13 : Hid (w12.heap.size ≤ w13.heap.size) := (hb13).size
  have M13 := hide (M12.out.below hb13)
  have U13 := hide hd13.grow
  clear hd13
  clear hb13
  go_wp2_with fail
  refine (CI.out ua _ _ U13.out).mono ?_
  rintro e w14 ⟨ha, hc, rfl, ho14, hb14⟩
  have RR14 : Hid (Lies encV 74 w14 w2.heap.size w3.heap.size (.slice ra rs.length rc) rs) := RR13.out.below hb14
  have HB14 : Hid (Below w.heap.size w w14) := HB13.out.trans ((hb14).mono HB13.out.size)
  have S14 : Hid (w13.heap.size ≤ w14.heap.size) := (hb14).size
  have M14 := hide (M13.out.below hb14)
  have HH14 : Hid (Lies encV 74 w14 w13.heap.size w14.heap.size (.slice ha rs.length hc) rs) := Lies.of ho14
  clear ho14
  clear hb14
  go_wp2_with fail
  refine (eqSV ha ra _ _ rs (by omega) _ HH14.out.own.grow RR14.out.own.grow).mono ?_
  rintro e w15 ⟨rfl, hb15⟩
  have RR15 : Hid (Lies encV 74 w15 w2.heap.size w3.heap.size (.slice ra rs.length rc) rs) := RR14.out.below hb15
  have HH15 : Hid (Lies encV 74 w15 w13.heap.size w14.heap.size (.slice ha rs.length hc) rs) := HH14.out.below hb15
  have HB15 : Hid (Below w.heap.size w w15) := HB14.out.trans ((hb15).mono HB14.out.size)
  have S15 : Hid (w14.heap.size ≤ w15.heap.size) := (hb15).size
  have M15 := hide (M14.out.below hb15)
  clear hb15
  go_wp2_with fail
  refine (CH.out _ M15.out).mono ?_
  rintro e w16 ⟨rfl, hb16⟩
  have RR16 : Hid (Lies encV 74 w16 w2.heap.size w3.heap.size (.slice ra rs.length rc) rs) := RR15.out.below hb16
  have HH16 : Hid (Lies encV 74 w16 w13.heap.size w14.heap.size (.slice ha rs.length hc) rs) := HH15.out.below hb16
  have HB16 : Hid (Below w.heap.size w w16) := HB15.out.trans ((hb16).mono HB15.out.size)
  have S16 : Hid (w15.heap.size ≤ w16.heap.size) := (hb16).size
  clear hb16
  go_wp2
  go_ret
  exact ⟨rfl, HB16.out⟩
end Go.Proofs.Ytnlfojaflgehbaa
