/- The law FnExactSameFrom, walked. -/
import Derived.Test.YtnlfojaflgehbaaS3
namespace Go.Proofs.Ytnlfojaflgehbaa
open Go.RowKit
open KM
open VM
attribute [local go_sem ↓] Go.wp_at_zero Go.wp_at_succ

set_option maxRecDepth 100000 in
set_option maxHeartbeats 4000000 in
theorem law9 (xs : List Vr) (a0 : Option Addr) (c0 : Nat) (ys : List Vr) (a1 : Option Addr) (c1 : Nat) (s : Int) (w : World) (hn0 : xs.length ≤ maxLen) (hl0 : ∀ x ∈ xs, x.1.size ≤ maxLen ∧ x.2.1.size ≤ maxLen) (hp0 : GRow encV w a0 xs) (hn1 : ys.length ≤ maxLen) (hl1 : ∀ x ∈ ys, x.1.size ≤ maxLen ∧ x.2.1.size ≤ maxLen) (hp1 : GRow encV w a1 ys) : Calls Try.prog 9 #[.slice a0 xs.length c0, .slice a1 ys.length c1, .int .i64 s] w fun e w' => e = .returned (.bool true) ∧ Below w.heap.size w w' := by
  have HP0 : Hid (GRow encV w a0 xs) := hp0
  have HL0 : Hid (∀ x ∈ xs, x.1.size ≤ maxLen ∧ x.2.1.size ≤ maxLen) := hl0
  have HP1 : Hid (GRow encV w a1 ys) := hp1
  have HL1 : Hid (∀ x ∈ ys, x.1.size ≤ maxLen ∧ x.2.1.size ≤ maxLen) := hl1
  clear hp0 hl0 hp1 hl1
  unfold maxLen at hn0 hn1
  have hbn := bne_self' (sameB xs ys s)
  go_enter Try.func9, Try.ntmps9
  go_wp2_with fail
  refine (szSV xs a0 c0 hn0 HL0.out _ (by omega) (by omega) _ HP0.out).mono ?_
  rintro e w1 ⟨hb1, r0, rfl, hu0, hr0⟩
  have HB1 : Hid (Below w.heap.size w w1) := hb1
  clear hb1
  by_cases hneg0 : r0 < 0
  · clear hr0
    go_wp2
    go_ret
    exact ⟨rfl, HB1.out⟩
  have hpos0 : ¬ r0 < 0 := hneg0
  have HF0 : Hid (VFit xs) := (hr0 (by omega)).2
  have hn : xs.length ≤ 1048576 := (hr0 (by omega)).1
  clear hr0
  go_wp2_with fail
  refine (szSV ys a1 c1 hn1 HL1.out _ (by omega) hu0 _ (HP1.out.below HB1.out)).mono ?_
  rintro e w2 ⟨hb2, r1, rfl, hu1, hr1⟩
  have HB2 : Hid (Below w.heap.size w w2) := HB1.out.trans (hb2.mono HB1.out.size)
  clear hb2
  by_cases hneg1 : r1 < 0
  · clear hr1
    go_wp2
    go_ret
    exact ⟨rfl, HB2.out⟩
  have hpos1 : ¬ r1 < 0 := hneg1
  have HF1 : Hid (VFit ys) := (hr1 (by omega)).2
  have hm : ys.length ≤ 1048576 := (hr1 (by omega)).1
  clear hr1
  go_wp2_with fail
  refine (toSV xs a0 c0 (by omega) _ (HP0.out.below HB2.out)).mono ?_
  rintro e w3 ⟨pa, pc, rfl, hd3, hb3⟩
  have HB3 : Hid (Below w.heap.size w w3) := HB2.out.trans (hb3.mono HB2.out.size)
  have PA3 : Hid (GRow encV w3 pa xs) := hd3.grow
  clear hd3
  clear hb3
  go_wp2_with fail
  refine (toSV ys a1 c1 (by omega) _ (HP1.out.below HB3.out)).mono ?_
  rintro e w4 ⟨qa, qc, rfl, hd4, hb4⟩
  have PA4 := hide (PA3.out.below hb4)
  have HB4 : Hid (Below w.heap.size w w4) := HB3.out.trans (hb4.mono HB3.out.size)
  have QA4 : Hid (GRow encV w4 qa ys) := hd4.grow
  clear hd4
  clear hb4
  go_wp2_with fail
  refine (ssame xs ys pa qa pc qc s (by omega) (by omega) _ PA4.out QA4.out).mono ?_
  rintro e w5 ⟨rfl, hb5⟩
  have PA5 := hide (PA4.out.below hb5)
  have QA5 := hide (QA4.out.below hb5)
  have HB5 : Hid (Below w.heap.size w w5) := HB4.out.trans (hb5.mono HB4.out.size)
  clear hb5
  go_wp2_with fail
  refine (toSV xs a0 c0 (by omega) _ (HP0.out.below HB5.out)).mono ?_
  rintro e w6 ⟨xa, xc, rfl, hd6, hb6⟩
  have HB6 : Hid (Below w.heap.size w w6) := HB5.out.trans (hb6.mono HB5.out.size)
  have XA6 : Hid (GRow encV w6 xa xs) := hd6.grow
  clear hd6
  clear hb6
  go_wp2_with fail
  refine (toSV ys a1 c1 (by omega) _ (HP1.out.below HB6.out)).mono ?_
  rintro e w7 ⟨ya, yc, rfl, hd7, hb7⟩
  have XA7 := hide (XA6.out.below hb7)
  have HB7 : Hid (Below w.heap.size w w7) := HB6.out.trans (hb7.mono HB6.out.size)
  have YA7 : Hid (GRow encV w7 ya ys) := hd7.grow
  clear hd7
  clear hb7
  go_wp2_with fail
  refine (isame xs ys xa ya xc yc s (by omega) (by omega) HF0.out HF1.out _ XA7.out YA7.out).mono ?_
  rintro e w8 ⟨rfl, hb8⟩
  have XA8 := hide (XA7.out.below hb8)
  have YA8 := hide (YA7.out.below hb8)
  have HB8 : Hid (Below w.heap.size w w8) := HB7.out.trans (hb8.mono HB7.out.size)
  clear hb8
  go_wp2_with fail
  refine (toSV xs a0 c0 (by omega) _ (HP0.out.below HB8.out)).mono ?_
  rintro e w9 ⟨ua, uc, rfl, hd9, hb9⟩
  have XA9 := hide (XA8.out.below hb9)
  have YA9 := hide (YA8.out.below hb9)
  have HB9 : Hid (Below w.heap.size w w9) := HB8.out.trans (hb9.mono HB8.out.size)
  have UA9 : Hid (GRow encV w9 ua xs) := hd9.grow
  clear hd9
  clear hb9
  go_wp2_with fail
  refine (eqSV xa ua _ _ xs (by omega) _ XA9.out UA9.out).mono ?_
  rintro e w10 ⟨rfl, hb10⟩
  have XA10 := hide (XA9.out.below hb10)
  have YA10 := hide (YA9.out.below hb10)
  have UA10 := hide (UA9.out.below hb10)
  have HB10 : Hid (Below w.heap.size w w10) := HB9.out.trans (hb10.mono HB9.out.size)
  clear hb10
  go_wp2_with fail
  refine (toSV ys a1 c1 (by omega) _ (HP1.out.below HB10.out)).mono ?_
  rintro e w11 ⟨va, vc, rfl, hd11, hb11⟩
  have XA11 := hide (XA10.out.below hb11)
  have YA11 := hide (YA10.out.below hb11)
  have HB11 : Hid (Below w.heap.size w w11) := HB10.out.trans (hb11.mono HB10.out.size)
  have VA11 : Hid (GRow encV w11 va ys) := hd11.grow
  clear hd11
  clear hb11
  go_wp2_with fail
  refine (eqSV ya va _ _ ys (by omega) _ YA11.out VA11.out).mono ?_
  rintro e w12 ⟨rfl, hb12⟩
  have XA12 := hide (XA11.out.below hb12)
  have YA12 := hide (YA11.out.below hb12)
  have VA12 := hide (VA11.out.below hb12)
  have HB12 : Hid (Below w.heap.size w w12) := HB11.out.trans (hb12.mono HB11.out.size)
  clear hb12
  go_wp2
  go_ret
  exact ⟨rfl, HB12.out⟩
end Go.Proofs.Ytnlfojaflgehbaa
