/- The law FnExactSeenAt, walked. -/
import Derived.Test.YtnlfojaflgehbaaG3
namespace Go.Proofs.Ytnlfojaflgehbaa
open Go.RowKit
open KM
open VM
attribute [local go_sem ↓] Go.wp_at_zero Go.wp_at_succ

theorem saw_parts (o : Option ByteArray) : ∃ (t : ByteArray) (b : Bool), sawB o = .tuple #[.string t, .bool b] := ⟨_, _, rfl⟩
theorem bne_text (t : ByteArray) : (!(t.toList == t.toList)) = false := by simp

set_option maxRecDepth 100000 in
set_option maxHeartbeats 2000000 in
theorem law6 (xs : List Vr) (a0 : Option Addr) (c0 : Nat) (k : ByteArray) (s : Int) (w : World) (hn0 : xs.length ≤ maxLen) (hl0 : ∀ x ∈ xs, x.1.size ≤ maxLen ∧ x.2.1.size ≤ maxLen) (hp0 : GRow encV w a0 xs) (_hk : k.size ≤ maxLen) : Calls Try.prog 6 #[.slice a0 xs.length c0, .string k, .int .i64 s] w fun e w' => e = .returned (.bool true) ∧ Below w.heap.size w w' := by
  have HP0 : Hid (GRow encV w a0 xs) := hp0
  have HL0 : Hid (∀ x ∈ xs, x.1.size ≤ maxLen ∧ x.2.1.size ≤ maxLen) := hl0
  clear hp0 hl0
  unfold maxLen at hn0
  by_cases hbig : 1048576 < k.size
  · have hbig' : (1048576 : Int) < (k.size : Int) := by omega
    go_enter Try.func6, Try.ntmps6
    go_wp2
    go_ret
    exact ⟨rfl, belowRefl _⟩
  have hbig' : ¬ (1048576 : Int) < (k.size : Int) := by omega
  obtain ⟨t, b, hs⟩ := saw_parts (seenB xs k s)
  have HS : Hid (sawB (seenB xs k s) = .tuple #[.string t, .bool b]) := hs
  clear hs
  have hbn := bne_self' b
  have htn := bne_text t
  go_enter Try.func6, Try.ntmps6
  go_wp2_with fail
  refine (szSV xs a0 c0 hn0 HL0.out _ (by omega) (by omega) _ (HP0.out.below (belowRefl w))).mono ?_
  rintro e w1 ⟨hb1, r0, rfl, hu0, hr0⟩
  have HB1 : Hid (Below w.heap.size w w1) := (belowRefl w).trans (hb1.mono (belowRefl w).size)
  clear hb1
  by_cases hneg0 : r0 < 0
  · clear hr0
    go_wp2
    go_ret
    exact ⟨rfl, HB1.out⟩
  have hpos0 : ¬ r0 < 0 := hneg0
  have HF0 : Hid (VFit xs) := (hr0 (by omega)).2
  have hn : xs.length ≤ 1048576 := (hr0 (by omega)).1
  clear hr0
  go_wp2_with fail
  refine (toSV xs a0 c0 (by omega) _ (HP0.out.below HB1.out)).mono ?_
  rintro e w2 ⟨p0, q0, rfl, hd2, hb2⟩
  have X2 : Hid (GRow encV w2 p0 xs) := hd2.grow
  have HB2 : Hid (Below w.heap.size w w2) := HB1.out.trans (hb2.mono HB1.out.size)
  clear hb2 hd2
  go_wp2_with fail
  refine (sseen xs p0 _ k s (by omega) _ X2.out).mono ?_
  rintro e w3 ⟨rfl, hb3⟩
  rw [HS.out]
  have HB3 : Hid (Below w.heap.size w w3) := HB2.out.trans (hb3.mono HB2.out.size)
  clear hb3
  go_wp2_with fail
  refine (toSV xs a0 c0 (by omega) _ (HP0.out.below HB3.out)).mono ?_
  rintro e w4 ⟨xa, xc, rfl, hd4, hb4⟩
  have X4 : Hid (GRow encV w4 xa xs) := hd4.grow
  have HB4 : Hid (Below w.heap.size w w4) := HB3.out.trans (hb4.mono HB3.out.size)
  clear hb4 hd4
  go_wp2_with fail
  refine (iseen xs xa _ k s (by omega) HF0.out _ X4.out).mono ?_
  rintro e w5 ⟨rfl, hb5⟩
  rw [HS.out]
  have X5 : Hid (GRow encV w5 xa xs) := X4.out.below hb5
  have HB5 : Hid (Below w.heap.size w w5) := HB4.out.trans (hb5.mono HB4.out.size)
  clear hb5
  go_wp2_with fail
  refine (toSV xs a0 c0 (by omega) _ (HP0.out.below HB5.out)).mono ?_
  rintro e w6 ⟨ya, yc, rfl, hd6, hb6⟩
  have Y6 : Hid (GRow encV w6 ya xs) := hd6.grow
  have X6 : Hid (GRow encV w6 xa xs) := X5.out.below hb6
  have HB6 : Hid (Below w.heap.size w w6) := HB5.out.trans (hb6.mono HB5.out.size)
  clear hb6 hd6
  go_wp2_with fail
  refine (eqSV xa ya _ _ xs (by omega) _ X6.out Y6.out).mono ?_
  rintro e w7 ⟨rfl, hb7⟩
  have HB7 : Hid (Below w.heap.size w w7) := HB6.out.trans (hb7.mono HB6.out.size)
  clear hb7
  go_wp2
  go_ret
  exact ⟨rfl, HB7.out⟩
end Go.Proofs.Ytnlfojaflgehbaa
