/- The laws FnExactWritesOk, Touches and Meets, walked. -/
import Derived.Test.YthlfddbijlfgeaaW2
import Derived.Test.YthlfddbijlfgeaaT1
import Derived.Test.YthlfddbijlfgeaaM1
namespace Go.Proofs.Ythlfddbijlfgeaa
open Go.RowKit
open KM
attribute [local go_sem ↓] Go.wp_at_zero Go.wp_at_succ

set_option maxRecDepth 100000 in
set_option maxHeartbeats 2000000 in
theorem law9 (xs : List Wt) (a0 : Option Addr) (c0 : Nat) (w : World) (hn0 : xs.length ≤ maxLen) (hl0 : ∀ x ∈ xs, x.1.size ≤ maxLen ∧ x.2.1.size ≤ maxLen) (hp0 : GRow encW w a0 xs) : Calls Try.prog 9 #[.slice a0 xs.length c0] w fun e w' => e = .returned (.bool true) ∧ Below w.heap.size w w' := by
  have HP0 : Hid (GRow encW w a0 xs) := hp0
  have HL0 : Hid (∀ x ∈ xs, x.1.size ≤ maxLen ∧ x.2.1.size ≤ maxLen) := hl0
  clear hp0 hl0
  unfold maxLen at hn0
  have hbn := bne_self' (writesB xs)
  go_enter Try.func9, Try.ntmps9
  go_wp2_with fail
  refine (szSW xs a0 c0 hn0 HL0.out _ (by omega) (by omega) _ (HP0.out.below (belowRefl w))).mono ?_
  rintro e w1 ⟨hb1, r0, rfl, hu0, hr0⟩
  have HB1 : Hid (Below w.heap.size w w1) := (belowRefl w).trans (hb1.mono (belowRefl w).size)
  clear hb1
  by_cases hneg0 : r0 < 0
  · clear hr0
    go_wp2
    go_ret
    exact ⟨rfl, HB1.out⟩
  have hpos0 : ¬ r0 < 0 := hneg0
  have HF0 : Hid (WFit xs) := (hr0 (by omega)).2
  have hm0 : xs.length ≤ 1048576 := (hr0 (by omega)).1
  clear hr0 hneg0
  go_wp2_with fail
  refine (toSW xs a0 c0 (by omega) _ (HP0.out.below HB1.out)).mono ?_
  rintro e w2 ⟨sa0, sc0, rfl, hd2, hb2⟩
  have S0_2 : Hid (GRow encW w2 sa0 xs) := hd2.grow
  have HB2 : Hid (Below w.heap.size w w2) := HB1.out.trans (hb2.mono HB1.out.size)
  clear hb2 hd2
  go_wp2_with fail
  refine (swrites xs sa0 sc0 (by omega) HF0.out _ S0_2.out).mono ?_
  rintro e w3 ⟨rfl, hb3⟩
  have HB3 : Hid (Below w.heap.size w w3) := HB2.out.trans (hb3.mono HB2.out.size)
  clear hb3
  go_wp2_with fail
  refine (toSW xs a0 c0 (by omega) _ (HP0.out.below HB3.out)).mono ?_
  rintro e w4 ⟨xa0, xc0, rfl, hd4, hb4⟩
  have X0_4 : Hid (GRow encW w4 xa0 xs) := hd4.grow
  have HB4 : Hid (Below w.heap.size w w4) := HB3.out.trans (hb4.mono HB3.out.size)
  clear hb4 hd4
  go_wp2_with fail
  refine (iwrites xs xa0 xc0 (by omega) _ X0_4.out).mono ?_
  rintro e w5 ⟨rfl, hb5⟩
  have X0_5 : Hid (GRow encW w5 xa0 xs) := X0_4.out.below hb5
  have HB5 : Hid (Below w.heap.size w w5) := HB4.out.trans (hb5.mono HB4.out.size)
  clear hb5
  go_wp2_with fail
  refine (toSW xs a0 c0 (by omega) _ (HP0.out.below HB5.out)).mono ?_
  rintro e w6 ⟨ya0, yc0, rfl, hd6, hb6⟩
  have Y0_6 : Hid (GRow encW w6 ya0 xs) := hd6.grow
  have X0_6 : Hid (GRow encW w6 xa0 xs) := X0_5.out.below hb6
  have HB6 : Hid (Below w.heap.size w w6) := HB5.out.trans (hb6.mono HB5.out.size)
  clear hb6 hd6
  go_wp2_with fail
  refine (eqSW xa0 ya0 _ _ xs (by omega) _ X0_6.out Y0_6.out).mono ?_
  rintro e w7 ⟨rfl, hb7⟩
  have X0_7 : Hid (GRow encW w7 xa0 xs) := X0_6.out.below hb7
  have HB7 : Hid (Below w.heap.size w w7) := HB6.out.trans (hb7.mono HB6.out.size)
  clear hb7
  go_wp2
  go_ret
  exact ⟨rfl, HB7.out⟩

set_option maxRecDepth 100000 in
set_option maxHeartbeats 2000000 in
theorem law10 (rs : List Rg) (a0 : Option Addr) (c0 : Nat) (ws : List Wt) (a1 : Option Addr) (c1 : Nat) (w : World) (hn0 : rs.length ≤ maxLen) (hl0 : ∀ x ∈ rs, x.1.size ≤ maxLen ∧ x.2.size ≤ maxLen) (hp0 : GRow encR w a0 rs) (hn1 : ws.length ≤ maxLen) (hl1 : ∀ x ∈ ws, x.1.size ≤ maxLen ∧ x.2.1.size ≤ maxLen) (hp1 : GRow encW w a1 ws) : Calls Try.prog 10 #[.slice a0 rs.length c0, .slice a1 ws.length c1] w fun e w' => e = .returned (.bool true) ∧ Below w.heap.size w w' := by
  have HP0 : Hid (GRow encR w a0 rs) := hp0
  have HL0 : Hid (∀ x ∈ rs, x.1.size ≤ maxLen ∧ x.2.size ≤ maxLen) := hl0
  have HP1 : Hid (GRow encW w a1 ws) := hp1
  have HL1 : Hid (∀ x ∈ ws, x.1.size ≤ maxLen ∧ x.2.1.size ≤ maxLen) := hl1
  clear hp0 hl0 hp1 hl1
  unfold maxLen at hn0 hn1
  have hbn := bne_self' (touchB rs ws)
  go_enter Try.func10, Try.ntmps10
  go_wp2_with fail
  refine (szSR rs a0 c0 hn0 HL0.out _ (by omega) (by omega) _ (HP0.out.below (belowRefl w))).mono ?_
  rintro e w1 ⟨hb1, r0, rfl, hu0, hr0⟩
  have HB1 : Hid (Below w.heap.size w w1) := (belowRefl w).trans (hb1.mono (belowRefl w).size)
  clear hb1
  by_cases hneg0 : r0 < 0
  · clear hr0
    go_wp2
    go_ret
    exact ⟨rfl, HB1.out⟩
  have hpos0 : ¬ r0 < 0 := hneg0
  have HF0 : Hid (RFit rs) := (hr0 (by omega)).2
  have hm0 : rs.length ≤ 1048576 := (hr0 (by omega)).1
  clear hr0 hneg0
  go_wp2_with fail
  refine (szSW ws a1 c1 hn1 HL1.out _ (by omega) (by omega) _ (HP1.out.below HB1.out)).mono ?_
  rintro e w2 ⟨hb2, r1, rfl, hu1, hr1⟩
  have HB2 : Hid (Below w.heap.size w w2) := HB1.out.trans (hb2.mono HB1.out.size)
  clear hb2
  by_cases hneg1 : r1 < 0
  · clear hr1
    go_wp2
    go_ret
    exact ⟨rfl, HB2.out⟩
  have hpos1 : ¬ r1 < 0 := hneg1
  have HF1 : Hid (WFit ws) := (hr1 (by omega)).2
  have hm1 : ws.length ≤ 1048576 := (hr1 (by omega)).1
  clear hr1 hneg1
  go_wp2_with fail
  refine (toSR rs a0 c0 (by omega) _ (HP0.out.below HB2.out)).mono ?_
  rintro e w3 ⟨sa0, sc0, rfl, hd3, hb3⟩
  have S0_3 : Hid (GRow encR w3 sa0 rs) := hd3.grow
  have HB3 : Hid (Below w.heap.size w w3) := HB2.out.trans (hb3.mono HB2.out.size)
  clear hb3 hd3
  go_wp2_with fail
  refine (toSW ws a1 c1 (by omega) _ (HP1.out.below HB3.out)).mono ?_
  rintro e w4 ⟨sa1, sc1, rfl, hd4, hb4⟩
  have S1_4 : Hid (GRow encW w4 sa1 ws) := hd4.grow
  have S0_4 : Hid (GRow encR w4 sa0 rs) := S0_3.out.below hb4
  have HB4 : Hid (Below w.heap.size w w4) := HB3.out.trans (hb4.mono HB3.out.size)
  clear hb4 hd4
  go_wp2_with fail
  refine (stouch rs ws sa0 sa1 sc0 sc1 (by omega) (by omega) _ S0_4.out S1_4.out).mono ?_
  rintro e w5 ⟨rfl, hb5⟩
  have HB5 : Hid (Below w.heap.size w w5) := HB4.out.trans (hb5.mono HB4.out.size)
  clear hb5
  go_wp2_with fail
  refine (toSR rs a0 c0 (by omega) _ (HP0.out.below HB5.out)).mono ?_
  rintro e w6 ⟨xa0, xc0, rfl, hd6, hb6⟩
  have X0_6 : Hid (GRow encR w6 xa0 rs) := hd6.grow
  have HB6 : Hid (Below w.heap.size w w6) := HB5.out.trans (hb6.mono HB5.out.size)
  clear hb6 hd6
  go_wp2_with fail
  refine (toSW ws a1 c1 (by omega) _ (HP1.out.below HB6.out)).mono ?_
  rintro e w7 ⟨xa1, xc1, rfl, hd7, hb7⟩
  have X1_7 : Hid (GRow encW w7 xa1 ws) := hd7.grow
  have X0_7 : Hid (GRow encR w7 xa0 rs) := X0_6.out.below hb7
  have HB7 : Hid (Below w.heap.size w w7) := HB6.out.trans (hb7.mono HB6.out.size)
  clear hb7 hd7
  go_wp2_with fail
  refine (itouch rs ws xa0 xa1 xc0 xc1 (by omega) (by omega) _ X0_7.out X1_7.out).mono ?_
  rintro e w8 ⟨rfl, hb8⟩
  have X0_8 : Hid (GRow encR w8 xa0 rs) := X0_7.out.below hb8
  have X1_8 : Hid (GRow encW w8 xa1 ws) := X1_7.out.below hb8
  have HB8 : Hid (Below w.heap.size w w8) := HB7.out.trans (hb8.mono HB7.out.size)
  clear hb8
  go_wp2_with fail
  refine (toSR rs a0 c0 (by omega) _ (HP0.out.below HB8.out)).mono ?_
  rintro e w9 ⟨ya0, yc0, rfl, hd9, hb9⟩
  have Y0_9 : Hid (GRow encR w9 ya0 rs) := hd9.grow
  have X0_9 : Hid (GRow encR w9 xa0 rs) := X0_8.out.below hb9
  have X1_9 : Hid (GRow encW w9 xa1 ws) := X1_8.out.below hb9
  have HB9 : Hid (Below w.heap.size w w9) := HB8.out.trans (hb9.mono HB8.out.size)
  clear hb9 hd9
  go_wp2_with fail
  refine (eqSR xa0 ya0 _ _ rs (by omega) _ X0_9.out Y0_9.out).mono ?_
  rintro e w10 ⟨rfl, hb10⟩
  have X0_10 : Hid (GRow encR w10 xa0 rs) := X0_9.out.below hb10
  have X1_10 : Hid (GRow encW w10 xa1 ws) := X1_9.out.below hb10
  have HB10 : Hid (Below w.heap.size w w10) := HB9.out.trans (hb10.mono HB9.out.size)
  clear hb10
  go_wp2_with fail
  refine (toSW ws a1 c1 (by omega) _ (HP1.out.below HB10.out)).mono ?_
  rintro e w11 ⟨ya1, yc1, rfl, hd11, hb11⟩
  have Y1_11 : Hid (GRow encW w11 ya1 ws) := hd11.grow
  have X0_11 : Hid (GRow encR w11 xa0 rs) := X0_10.out.below hb11
  have X1_11 : Hid (GRow encW w11 xa1 ws) := X1_10.out.below hb11
  have HB11 : Hid (Below w.heap.size w w11) := HB10.out.trans (hb11.mono HB10.out.size)
  clear hb11 hd11
  go_wp2_with fail
  refine (eqSW xa1 ya1 _ _ ws (by omega) _ X1_11.out Y1_11.out).mono ?_
  rintro e w12 ⟨rfl, hb12⟩
  have X0_12 : Hid (GRow encR w12 xa0 rs) := X0_11.out.below hb12
  have X1_12 : Hid (GRow encW w12 xa1 ws) := X1_11.out.below hb12
  have HB12 : Hid (Below w.heap.size w w12) := HB11.out.trans (hb12.mono HB11.out.size)
  clear hb12
  go_wp2
  go_ret
  exact ⟨rfl, HB12.out⟩

set_option maxRecDepth 100000 in
set_option maxHeartbeats 2000000 in
theorem law11 (xs : List Wt) (a0 : Option Addr) (c0 : Nat) (ys : List Wt) (a1 : Option Addr) (c1 : Nat) (w : World) (hn0 : xs.length ≤ maxLen) (hl0 : ∀ x ∈ xs, x.1.size ≤ maxLen ∧ x.2.1.size ≤ maxLen) (hp0 : GRow encW w a0 xs) (hn1 : ys.length ≤ maxLen) (hl1 : ∀ x ∈ ys, x.1.size ≤ maxLen ∧ x.2.1.size ≤ maxLen) (hp1 : GRow encW w a1 ys) : Calls Try.prog 11 #[.slice a0 xs.length c0, .slice a1 ys.length c1] w fun e w' => e = .returned (.bool true) ∧ Below w.heap.size w w' := by
  have HP0 : Hid (GRow encW w a0 xs) := hp0
  have HL0 : Hid (∀ x ∈ xs, x.1.size ≤ maxLen ∧ x.2.1.size ≤ maxLen) := hl0
  have HP1 : Hid (GRow encW w a1 ys) := hp1
  have HL1 : Hid (∀ x ∈ ys, x.1.size ≤ maxLen ∧ x.2.1.size ≤ maxLen) := hl1
  clear hp0 hl0 hp1 hl1
  unfold maxLen at hn0 hn1
  have hbn := bne_self' (meetB xs ys)
  go_enter Try.func11, Try.ntmps11
  go_wp2_with fail
  refine (szSW xs a0 c0 hn0 HL0.out _ (by omega) (by omega) _ (HP0.out.below (belowRefl w))).mono ?_
  rintro e w1 ⟨hb1, r0, rfl, hu0, hr0⟩
  have HB1 : Hid (Below w.heap.size w w1) := (belowRefl w).trans (hb1.mono (belowRefl w).size)
  clear hb1
  by_cases hneg0 : r0 < 0
  · clear hr0
    go_wp2
    go_ret
    exact ⟨rfl, HB1.out⟩
  have hpos0 : ¬ r0 < 0 := hneg0
  have HF0 : Hid (WFit xs) := (hr0 (by omega)).2
  have hm0 : xs.length ≤ 1048576 := (hr0 (by omega)).1
  clear hr0 hneg0
  go_wp2_with fail
  refine (szSW ys a1 c1 hn1 HL1.out _ (by omega) (by omega) _ (HP1.out.below HB1.out)).mono ?_
  rintro e w2 ⟨hb2, r1, rfl, hu1, hr1⟩
  have HB2 : Hid (Below w.heap.size w w2) := HB1.out.trans (hb2.mono HB1.out.size)
  clear hb2
  by_cases hneg1 : r1 < 0
  · clear hr1
    go_wp2
    go_ret
    exact ⟨rfl, HB2.out⟩
  have hpos1 : ¬ r1 < 0 := hneg1
  have HF1 : Hid (WFit ys) := (hr1 (by omega)).2
  have hm1 : ys.length ≤ 1048576 := (hr1 (by omega)).1
  clear hr1 hneg1
  go_wp2_with fail
  refine (toSW xs a0 c0 (by omega) _ (HP0.out.below HB2.out)).mono ?_
  rintro e w3 ⟨sa0, sc0, rfl, hd3, hb3⟩
  have S0_3 : Hid (GRow encW w3 sa0 xs) := hd3.grow
  have HB3 : Hid (Below w.heap.size w w3) := HB2.out.trans (hb3.mono HB2.out.size)
  clear hb3 hd3
  go_wp2_with fail
  refine (toSW ys a1 c1 (by omega) _ (HP1.out.below HB3.out)).mono ?_
  rintro e w4 ⟨sa1, sc1, rfl, hd4, hb4⟩
  have S1_4 : Hid (GRow encW w4 sa1 ys) := hd4.grow
  have S0_4 : Hid (GRow encW w4 sa0 xs) := S0_3.out.below hb4
  have HB4 : Hid (Below w.heap.size w w4) := HB3.out.trans (hb4.mono HB3.out.size)
  clear hb4 hd4
  go_wp2_with fail
  refine (smeets xs ys sa0 sa1 sc0 sc1 (by omega) (by omega) _ S0_4.out S1_4.out).mono ?_
  rintro e w5 ⟨rfl, hb5⟩
  have HB5 : Hid (Below w.heap.size w w5) := HB4.out.trans (hb5.mono HB4.out.size)
  clear hb5
  go_wp2_with fail
  refine (toSW xs a0 c0 (by omega) _ (HP0.out.below HB5.out)).mono ?_
  rintro e w6 ⟨xa0, xc0, rfl, hd6, hb6⟩
  have X0_6 : Hid (GRow encW w6 xa0 xs) := hd6.grow
  have HB6 : Hid (Below w.heap.size w w6) := HB5.out.trans (hb6.mono HB5.out.size)
  clear hb6 hd6
  go_wp2_with fail
  refine (toSW ys a1 c1 (by omega) _ (HP1.out.below HB6.out)).mono ?_
  rintro e w7 ⟨xa1, xc1, rfl, hd7, hb7⟩
  have X1_7 : Hid (GRow encW w7 xa1 ys) := hd7.grow
  have X0_7 : Hid (GRow encW w7 xa0 xs) := X0_6.out.below hb7
  have HB7 : Hid (Below w.heap.size w w7) := HB6.out.trans (hb7.mono HB6.out.size)
  clear hb7 hd7
  go_wp2_with fail
  refine (imeets xs ys xa0 xa1 xc0 xc1 (by omega) (by omega) HF0.out HF1.out _ X0_7.out X1_7.out).mono ?_
  rintro e w8 ⟨rfl, hb8⟩
  have X0_8 : Hid (GRow encW w8 xa0 xs) := X0_7.out.below hb8
  have X1_8 : Hid (GRow encW w8 xa1 ys) := X1_7.out.below hb8
  have HB8 : Hid (Below w.heap.size w w8) := HB7.out.trans (hb8.mono HB7.out.size)
  clear hb8
  go_wp2_with fail
  refine (toSW xs a0 c0 (by omega) _ (HP0.out.below HB8.out)).mono ?_
  rintro e w9 ⟨ya0, yc0, rfl, hd9, hb9⟩
  have Y0_9 : Hid (GRow encW w9 ya0 xs) := hd9.grow
  have X0_9 : Hid (GRow encW w9 xa0 xs) := X0_8.out.below hb9
  have X1_9 : Hid (GRow encW w9 xa1 ys) := X1_8.out.below hb9
  have HB9 : Hid (Below w.heap.size w w9) := HB8.out.trans (hb9.mono HB8.out.size)
  clear hb9 hd9
  go_wp2_with fail
  refine (eqSW xa0 ya0 _ _ xs (by omega) _ X0_9.out Y0_9.out).mono ?_
  rintro e w10 ⟨rfl, hb10⟩
  have X0_10 : Hid (GRow encW w10 xa0 xs) := X0_9.out.below hb10
  have X1_10 : Hid (GRow encW w10 xa1 ys) := X1_9.out.below hb10
  have HB10 : Hid (Below w.heap.size w w10) := HB9.out.trans (hb10.mono HB9.out.size)
  clear hb10
  go_wp2_with fail
  refine (toSW ys a1 c1 (by omega) _ (HP1.out.below HB10.out)).mono ?_
  rintro e w11 ⟨ya1, yc1, rfl, hd11, hb11⟩
  have Y1_11 : Hid (GRow encW w11 ya1 ys) := hd11.grow
  have X0_11 : Hid (GRow encW w11 xa0 xs) := X0_10.out.below hb11
  have X1_11 : Hid (GRow encW w11 xa1 ys) := X1_10.out.below hb11
  have HB11 : Hid (Below w.heap.size w w11) := HB10.out.trans (hb11.mono HB10.out.size)
  clear hb11 hd11
  go_wp2_with fail
  refine (eqSW xa1 ya1 _ _ ys (by omega) _ X1_11.out Y1_11.out).mono ?_
  rintro e w12 ⟨rfl, hb12⟩
  have X0_12 : Hid (GRow encW w12 xa0 xs) := X0_11.out.below hb12
  have X1_12 : Hid (GRow encW w12 xa1 ys) := X1_11.out.below hb12
  have HB12 : Hid (Below w.heap.size w w12) := HB11.out.trans (hb12.mono HB11.out.size)
  clear hb12
  go_wp2
  go_ret
  exact ⟨rfl, HB12.out⟩

end Go.Proofs.Ythlfddbijlfgeaa
