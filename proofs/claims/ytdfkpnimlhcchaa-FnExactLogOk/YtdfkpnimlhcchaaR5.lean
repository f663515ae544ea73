/- The law FnExactLogOk, walked. -/
import Derived.Test.YtdfkpnimlhcchaaR4
namespace Go.Proofs.Ytdfkpnimlhcchaa
open Go.RowKit
open DM
attribute [local go_sem ↓] Go.wp_at_zero Go.wp_at_succ

set_option maxRecDepth 100000 in
set_option maxHeartbeats 4000000 in
theorem law5 (ss : List ByteArray) (ps : List Wr) (a1 a2 : Option Addr) (c1 c2 : Nat) (w : World) (ha : Arg w a1 a2 ss ps) :
    Calls Try.prog 5 #[.agg #[.slice a1 ss.length c1, .slice a2 ps.length c2]] w fun e w' => e = .returned (.bool true) ∧ Below w.heap.size w w' := by
  have HA : Hid (Arg w a1 a2 ss ps) := ha
  clear ha
  go_enter Try.func5, Try.ntmps5
  go_wp2_with fail
  have b0 : Below w.heap.size w (w.alloc (.cells #[.slice a1 ss.length c1, .slice a2 ps.length c2] 34)) := (belowRefl w).alloc (Nat.le_refl _) _
  refine (sz43 ss ps a1 a2 c1 c2 HA.out.n HA.out.l HA.out.m HA.out.lp _ (HA.out.s.below b0) (HA.out.p.below b0)).mono ?_
  rintro e w1 ⟨hb1, r, rfl, hr⟩
  have HX1 : Hid (Below (w.heap.size + 1) (w.alloc (.cells #[.slice a1 ss.length c1, .slice a2 ps.length c2] 34)) w1) := by show Below _ _ _; simpa using hb1
  have HB1 : Hid (Below w.heap.size w w1) := b0.trans (HX1.out.mono (by omega))
  clear b0 hb1
  by_cases hneg : r < 0
  · clear hr
    go_wp2
    go_ret
    exact ⟨rfl, HB1.out⟩
  have hneg' : ¬ r < 0 := hneg
  have HF : Hid (Fits ss ps) := hr (by omega)
  have hn : ss.length ≤ 100000000 := by have := HF.out.1; omega
  have hm : ps.length ≤ 100000000 := by have := HF.out.2.1; omega
  have HLS : Hid (∀ s ∈ ss, s.size ≤ 1000000000) := fun s h => Nat.le_trans (HF.out.2.2.1 s h) (by omega)
  have HLP : Hid (∀ p ∈ ps, p.2.size ≤ 1000000000) := fun p h => Nat.le_trans (HF.out.2.2.2 p h) (by omega)
  have hn2 : ss.length ≤ 1048576 := HF.out.1
  have hm2 : ps.length ≤ 1048576 := HF.out.2.1
  have HL2 : Hid (∀ s ∈ ss, s.size ≤ 1048576) := HF.out.2.2.1
  have HP2 : Hid (∀ p ∈ ps, p.2.size ≤ 1048576) := HF.out.2.2.2
  clear hr
  obtain ⟨g0, g1, z0⟩ := boxed HX1.out
  go_wp2_with fail
  refine (to44 ss ps a1 a2 c1 c2 hn hm _ (HA.out.s.below HB1.out) (HA.out.p.below HB1.out)).mono ?_
  rintro e w2 ⟨p1, p2, p3, p4, rfl, hd2, hb2⟩
  have HD2 : Hid (DOwn w2 w1.heap.size p1 p2 p3 p4 ss ps) := hd2
  have HX2 : Hid (Below (w.heap.size + 1) (w.alloc (.cells #[.slice a1 ss.length c1, .slice a2 ps.length c2] 34)) w2) := HX1.out.trans (hb2.mono (by omega))
  have HB2 : Hid (Below w.heap.size w w2) := HB1.out.trans (hb2.mono HB1.out.size)
  clear g0 g1 z0
  obtain ⟨g0, g1, z0⟩ := boxed HX2.out
  go_wp2_with fail
  refine (slok22 ss ps p1 p3 p2 p4 hn2 hm2 HL2.out HP2.out _ HD2.out.s.srow HD2.out.p.prow).mono ?_
  rintro e w3 ⟨rfl, hb3⟩
  have HX3 : Hid (Below (w.heap.size + 1) (w.alloc (.cells #[.slice a1 ss.length c1, .slice a2 ps.length c2] 34)) w3) := HX2.out.trans (hb3.mono (by omega))
  have HB3 : Hid (Below w.heap.size w w3) := HB2.out.trans (hb3.mono HB2.out.size)
  clear g0 g1 z0
  obtain ⟨g0, g1, z0⟩ := boxed HX3.out
  go_wp2_with fail
  refine (to44 ss ps a1 a2 c1 c2 hn hm _ (HA.out.s.below HB3.out) (HA.out.p.below HB3.out)).mono ?_
  rintro e w4 ⟨x1, x2, x3, x4, rfl, hd4, hb4⟩
  have HD4 : Hid (DOwn w4 w3.heap.size x1 x2 x3 x4 ss ps) := hd4
  have HX4 : Hid (Below (w.heap.size + 1) (w.alloc (.cells #[.slice a1 ss.length c1, .slice a2 ps.length c2] 34)) w4) := HX3.out.trans (hb4.mono (by omega))
  have HB4 : Hid (Below w.heap.size w w4) := HB3.out.trans (hb4.mono HB3.out.size)
  clear g0 g1 z0
  obtain ⟨g0, g1, z0⟩ := boxed HX4.out
  go_wp2_with fail
  have b4 : Below w4.heap.size w4 (w4.alloc (.cells #[.slice x1 ss.length x2, .slice x3 ps.length x4] 27)) := (belowRefl w4).alloc (Nat.le_refl _) _
  refine (ilok24 ss ps x1 x3 x2 x4 hn2 hm2 HL2.out HP2.out _ (HD4.out.s.srow.below b4) (HD4.out.p.prow.below b4)).mono ?_
  rintro e w5 ⟨rfl, hb5⟩
  have HX5 : Hid (Below (w4.heap.size + 1) (w4.alloc (.cells #[.slice x1 ss.length x2, .slice x3 ps.length x4] 27)) w5) := by show Below _ _ _; simpa using hb5
  have HW5 : Hid (Below w4.heap.size w4 w5) := b4.trans (HX5.out.mono (by omega))
  have HY5 : Hid (Below (w.heap.size + 1) (w.alloc (.cells #[.slice a1 ss.length c1, .slice a2 ps.length c2] 34)) w5) := HX4.out.trans (HW5.out.mono (by omega))
  have HB5 : Hid (Below w.heap.size w w5) := HB4.out.trans (HW5.out.mono HB4.out.size)
  clear hb5 b4 g0 g1 z0
  obtain ⟨g0, g1, z0⟩ := boxed HY5.out
  obtain ⟨k0, k1, z1⟩ := boxed HX5.out
  have hbn : (logB ss ps != logB ss ps) = false := by simp
  generalize logB ss ps = rv at *
  have HS5 : Hid (SRow w5 x1 ss) := HD4.out.s.srow.below HW5.out
  have HP5 : Hid (PRow w5 x3 ps) := HD4.out.p.prow.below HW5.out
  have hX : w4.heap.size < w5.heap.size := z1
  generalize w4.heap.size = X at *
  have t5 : Hid (Two w.heap.size X (.slice a1 ss.length c1) (.slice a2 ps.length c2) (.slice x1 ss.length x2) (.slice x3 ps.length x4) w5.drew) := ⟨g0, g1, k0, k1⟩
  go_wp2
  go_region_held3 (fun w' => w'.cell? ⟨w.heap.size, 0, none⟩ = some (.slice a1 ss.length c1) ∧ w'.cell? ⟨w.heap.size, 1, none⟩ = some (.slice a2 ps.length c2) ∧ w'.cell? ⟨X, 0, none⟩ = some (.slice x1 ss.length x2) ∧ w'.cell? ⟨X, 1, none⟩ = some (.slice x3 ps.length x4)) (first | go_keep | exact t7.out | exact t6.out) ((first | (go_at_call 23; refine (to44 ss ps a1 a2 c1 c2 hn hm _ (HA.out.s.below HB5.out.drew) (HA.out.p.below HB5.out.drew)).mono ?_; rintro e w6 ⟨p3, q3, p4, q4, rfl, hd6, hb6⟩; have t6 : Hid (Two w.heap.size X (.slice a1 ss.length c1) (.slice a2 ps.length c2) (.slice x1 ss.length x2) (.slice x3 ps.length x4) w6) := Two.keep t5.out hb6 z0 z1) | (go_at_call 18; refine (eq40 x1 x3 p3 p4 x2 x4 q3 q4 ss ps hn hm _ (HS5.out.drew.below hb6) (HP5.out.drew.below hb6) hd6.s.srow hd6.p.prow).mono ?_; rintro e w7 ⟨rfl, hb7⟩; have t7 : Hid (Two w.heap.size X (.slice a1 ss.length c1) (.slice a2 ps.length c2) (.slice x1 ss.length x2) (.slice x3 ps.length x4) w7) := Two.keep t6.out hb7 (Nat.lt_of_lt_of_le z0 hb6.size) (Nat.lt_of_lt_of_le z1 hb6.size))))
  all_goals
    go_wp2
    go_ret
    exact ⟨rfl, (HB5.out.drew.trans (hb6.mono HB5.out.size)).trans (hb7.mono (Nat.le_trans HB5.out.size hb6.size))⟩
end Go.Proofs.Ytdfkpnimlhcchaa
