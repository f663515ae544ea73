/- The laws FnExactDiskOk and FnExactReadSector, walked. -/
import Derived.Test.YthljehdjgphmcaaA2
import Derived.Test.YthljehdjgphmcaaA3
import Derived.Test.YthljehdjgphmcaaA4
namespace Go.Proofs.Ythljehdjgphmcaa
open Go.RowKit
open DM
attribute [local go_sem ↓] Go.wp_at_zero Go.wp_at_succ

theorem boxed {w w' : World} {x y : Value} {t : TypeId} (hb : Below (w.heap.size + 1) (w.alloc (.cells #[x, y] t)) w') : w'.cell? ⟨w.heap.size, 0, none⟩ = some x ∧ w'.cell? ⟨w.heap.size, 1, none⟩ = some y ∧ w.heap.size < w'.heap.size := by
  refine ⟨(hb.cell (p := ⟨w.heap.size, 0, none⟩) (by simp)).trans (by simp [go_sem]), (hb.cell (p := ⟨w.heap.size, 1, none⟩) (by simp)).trans (by simp [go_sem]), ?_⟩
  have := hb.size
  simp at this
  omega

/-- what is asked of the argument of an exact law: how great it can be at all -/
structure Arg (w : World) (a1 a2 : Option Addr) (ss : List ByteArray) (ps : List Wr) : Prop where
  n : ss.length ≤ 9223372036854775807
  l : ∀ s ∈ ss, s.size ≤ 9223372036854775807
  m : ps.length ≤ 9223372036854775807
  lp : ∀ p ∈ ps, p.2.size ≤ 9223372036854775807
  s : SRow w a1 ss
  p : PRow w a2 ps

theorem SRow.drew {w : World} {a : Option Addr} {ss : List ByteArray} (h : SRow w a ss) : SRow w.drew a ss := h
theorem PRow.drew {w : World} {a : Option Addr} {ps : List Wr} (h : PRow w a ps) : PRow w.drew a ps := h
/-- two structs of two cells each -/
def Two (b c : Nat) (x0 x1 x2 x3 : Value) (w : World) : Prop := w.cell? ⟨b, 0, none⟩ = some x0 ∧ w.cell? ⟨b, 1, none⟩ = some x1 ∧ w.cell? ⟨c, 0, none⟩ = some x2 ∧ w.cell? ⟨c, 1, none⟩ = some x3
theorem Two.keep {b c : Nat} {x0 x1 x2 x3 : Value} {W W' : World} (h : Two b c x0 x1 x2 x3 W) (hb : Below W.heap.size W W') (z0 : b < W.heap.size) (z1 : c < W.heap.size) : Two b c x0 x1 x2 x3 W' :=
  ⟨(hb.cell (p := ⟨b, 0, none⟩) z0).trans h.1, (hb.cell (p := ⟨b, 1, none⟩) z0).trans h.2.1, (hb.cell (p := ⟨c, 0, none⟩) z1).trans h.2.2.1, (hb.cell (p := ⟨c, 1, none⟩) z1).trans h.2.2.2⟩
theorem bne_self (b : Bool) : (b != b) = false := by cases b <;> rfl

set_option maxRecDepth 100000 in
set_option maxHeartbeats 2000000 in
theorem law9 (ss : List ByteArray) (ps : List Wr) (a1 a2 : Option Addr) (c1 c2 : Nat) (w : World) (ha : Arg w a1 a2 ss ps) :
    Calls Try.prog 9 #[.agg #[.slice a1 ss.length c1, .slice a2 ps.length c2]] w fun e w' => e = .returned (.bool true) ∧ Below w.heap.size w w' := by
  have HA : Hid (Arg w a1 a2 ss ps) := ha
  clear ha
  go_enter Try.func9, Try.ntmps9
  go_wp2_with fail
  have b0 : Below w.heap.size w (w.alloc (.cells #[.slice a1 ss.length c1, .slice a2 ps.length c2] 55)) := (belowRefl w).alloc (Nat.le_refl _) _
  refine (sz43 ss ps a1 a2 c1 c2 HA.out.n HA.out.l HA.out.m HA.out.lp _ (HA.out.s.below b0) (HA.out.p.below b0)).mono ?_
  rintro e w1 ⟨hb1, r, rfl, hr⟩
  have HX1 : Hid (Below (w.heap.size + 1) (w.alloc (.cells #[.slice a1 ss.length c1, .slice a2 ps.length c2] 55)) w1) := by show Below _ _ _; simpa using hb1
  have HB1 : Hid (Below w.heap.size w w1) := b0.trans (HX1.out.mono (by omega))
  clear b0 hb1
  by_cases hneg : r < 0
  · clear hr
    go_wp2
    go_ret
    exact ⟨rfl, HB1.out⟩
  · have hneg' : ¬ r < 0 := hneg
    have HF : Hid (Fits ss ps) := hr (by omega)
    have hn : ss.length ≤ 100000000 := by have := HF.out.1; omega
    have hm : ps.length ≤ 100000000 := by have := HF.out.2.1; omega
    clear hr
    obtain ⟨g0, g1, z0⟩ := boxed HX1.out
    go_wp2_with fail
    refine (to44 ss ps a1 a2 c1 c2 hn hm _ (HA.out.s.below HB1.out) (HA.out.p.below HB1.out)).mono ?_
    rintro e w2 ⟨p1, q1, p2, q2, rfl, hd2, hb2⟩
    have HD2 : Hid (DOwn w2 w1.heap.size p1 q1 p2 q2 ss ps) := hd2
    have HX2 : Hid (Below (w.heap.size + 1) (w.alloc (.cells #[.slice a1 ss.length c1, .slice a2 ps.length c2] 55)) w2) := HX1.out.trans (hb2.mono (by omega))
    have HB2 : Hid (Below w.heap.size w w2) := HB1.out.trans (hb2.mono HB1.out.size)
    clear hd2 hb2 g0 g1 z0
    obtain ⟨g0, g1, z0⟩ := boxed HX2.out
    go_wp2_with fail
    refine (sok37 ss ps p1 p2 q1 q2 hn hm _ HD2.out.s.srow HD2.out.p.prow).mono ?_
    rintro e w3 ⟨rfl, hb3⟩
    have HX3 : Hid (Below (w.heap.size + 1) (w.alloc (.cells #[.slice a1 ss.length c1, .slice a2 ps.length c2] 55)) w3) := HX2.out.trans (hb3.mono (by omega))
    have HB3 : Hid (Below w.heap.size w w3) := HB2.out.trans (hb3.mono HB2.out.size)
    clear hb3 g0 g1 z0
    obtain ⟨g0, g1, z0⟩ := boxed HX3.out
    go_wp2_with fail
    refine (to44 ss ps a1 a2 c1 c2 hn hm _ (HA.out.s.below HB3.out) (HA.out.p.below HB3.out)).mono ?_
    rintro e w4 ⟨x1, y1, x2, y2, rfl, hd4, hb4⟩
    have HD4 : Hid (DOwn w4 w3.heap.size x1 y1 x2 y2 ss ps) := hd4
    have HX4 : Hid (Below (w.heap.size + 1) (w.alloc (.cells #[.slice a1 ss.length c1, .slice a2 ps.length c2] 55)) w4) := HX3.out.trans (hb4.mono (by omega))
    have HB4 : Hid (Below w.heap.size w w4) := HB3.out.trans (hb4.mono HB3.out.size)
    clear hd4 hb4 g0 g1 z0
    obtain ⟨g0, g1, z0⟩ := boxed HX4.out
    go_wp2_with fail
    have b4 : Below w4.heap.size w4 (w4.alloc (.cells #[.slice x1 ss.length y1, .slice x2 ps.length y2] 27)) := (belowRefl w4).alloc (Nat.le_refl _) _
    refine (iok22 ss ps x1 x2 y1 y2 hn hm _ (HD4.out.s.srow.below b4) (HD4.out.p.prow.below b4)).mono ?_
    rintro e w5 ⟨rfl, hb5⟩
    have HX5 : Hid (Below (w4.heap.size + 1) (w4.alloc (.cells #[.slice x1 ss.length y1, .slice x2 ps.length y2] 27)) w5) := by show Below _ _ _; simpa using hb5
    have HW5 : Hid (Below w4.heap.size w4 w5) := b4.trans (HX5.out.mono (by omega))
    have HY5 : Hid (Below (w.heap.size + 1) (w.alloc (.cells #[.slice a1 ss.length c1, .slice a2 ps.length c2] 55)) w5) := HX4.out.trans (HW5.out.mono (by omega))
    have HB5 : Hid (Below w.heap.size w w5) := HB4.out.trans (HW5.out.mono HB4.out.size)
    clear hb5 b4 g0 g1 z0
    obtain ⟨g0, g1, z0⟩ := boxed HY5.out
    obtain ⟨k0, k1, z1⟩ := boxed HX5.out
    have hbn := bne_self (okB ss ps)
    have HS5 : Hid (SRow w5 x1 ss) := HD4.out.s.srow.below HW5.out
    have HP5 : Hid (PRow w5 x2 ps) := HD4.out.p.prow.below HW5.out
    generalize w4.heap.size = X at *
    have t5 : Hid (Two w.heap.size X (.slice a1 ss.length c1) (.slice a2 ps.length c2) (.slice x1 ss.length y1) (.slice x2 ps.length y2) w5.drew) := ⟨g0, g1, k0, k1⟩
    go_wp2
    go_region_held3 (fun w' => w'.cell? ⟨w.heap.size, 0, none⟩ = some (.slice a1 ss.length c1) ∧ w'.cell? ⟨w.heap.size, 1, none⟩ = some (.slice a2 ps.length c2) ∧ w'.cell? ⟨X, 0, none⟩ = some (.slice x1 ss.length y1) ∧ w'.cell? ⟨X, 1, none⟩ = some (.slice x2 ps.length y2)) (first | go_keep | exact t7.out | exact t6.out) ((first | (go_at_call 44; refine (to44 ss ps a1 a2 c1 c2 hn hm _ (HA.out.s.below HB5.out.drew) (HA.out.p.below HB5.out.drew)).mono ?_; rintro e w6 ⟨p3, q3, p4, q4, rfl, hd6, hb6⟩; have t6 : Hid (Two w.heap.size X (.slice a1 ss.length c1) (.slice a2 ps.length c2) (.slice x1 ss.length y1) (.slice x2 ps.length y2) w6) := Two.keep t5.out hb6 z0 z1) | (go_at_call 40; refine (eq40 x1 x2 p3 p4 y1 y2 q3 q4 ss ps hn hm _ (HS5.out.drew.below hb6) (HP5.out.drew.below hb6) hd6.s.srow hd6.p.prow).mono ?_; rintro e w7 ⟨rfl, hb7⟩; have t7 : Hid (Two w.heap.size X (.slice a1 ss.length c1) (.slice a2 ps.length c2) (.slice x1 ss.length y1) (.slice x2 ps.length y2) w7) := Two.keep t6.out hb7 (Nat.lt_of_lt_of_le z0 hb6.size) (Nat.lt_of_lt_of_le z1 hb6.size))))
    all_goals
      go_wp2
      go_ret
      exact ⟨rfl, (HB5.out.drew.trans (hb6.mono HB5.out.size)).trans (hb7.mono (Nat.le_trans HB5.out.size hb6.size))⟩

/-- what ReadSector tells -/
def rdR (ss : List ByteArray) (ps : List Wr) (a : Int) : ByteArray := if hasB a ss.length = true then rd ss ps a else ⟨#[]⟩
theorem srd20_any (ss : List ByteArray) (ps : List Wr) (at' : Int) (a1 a2 : Option Addr) (c1 c2 : Nat) (hn : ss.length ≤ 100000000) (hm : ps.length ≤ 100000000) (w : World) (hs : SRow w a1 ss) (hp : PRow w a2 ps) :
    Calls Try.prog 20 #[.agg #[.slice a1 ss.length c1, .slice a2 ps.length c2], .int .i64 at'] w fun e w' => e = .returned (.tuple #[.string (rdR ss ps at'), .bool (hasB at' ss.length)]) ∧ Below w.heap.size w w' := by
  cases h : hasB at' ss.length with
  | true =>
    rw [show rdR ss ps at' = rd ss ps at' from if_pos h]
    exact srd20 ss ps at' a1 a2 c1 c2 hn hm h w hs hp
  | false =>
    rw [show rdR ss ps at' = ⟨#[]⟩ from if_neg (by simp [h])]
    exact srd20_no ss ps at' a1 a2 c1 c2 hn h w
theorem ird21_any (ss : List ByteArray) (ps : List Wr) (at' : Int) (a1 a2 : Option Addr) (c1 c2 : Nat) (hn : ss.length ≤ 100000000) (hm : ps.length ≤ 100000000) (hls : ∀ s ∈ ss, s.size ≤ 1000000000) (hlp : ∀ p ∈ ps, p.2.size ≤ 1000000000) (w : World) (hs : SRow w a1 ss) (hp : PRow w a2 ps) :
    Calls Try.prog 21 #[.agg #[.slice a1 ss.length c1, .slice a2 ps.length c2], .int .i64 at'] w fun e w' => e = .returned (.tuple #[.string (rdR ss ps at'), .bool (hasB at' ss.length)]) ∧ Below w.heap.size w w' := by
  cases h : hasB at' ss.length with
  | true =>
    rw [show rdR ss ps at' = rd ss ps at' from if_pos h]
    exact ird21 ss ps at' a1 a2 c1 c2 hn hm hls hlp h w hs hp
  | false =>
    rw [show rdR ss ps at' = ⟨#[]⟩ from if_neg (by simp [h])]
    exact ird21_no ss ps at' a1 a2 c1 c2 h w

set_option maxRecDepth 100000 in
set_option maxHeartbeats 4000000 in
theorem law10 (ss : List ByteArray) (ps : List Wr) (a1 a2 : Option Addr) (c1 c2 : Nat) (at' : Int) (w : World) (ha : Arg w a1 a2 ss ps) :
    Calls Try.prog 10 #[.agg #[.slice a1 ss.length c1, .slice a2 ps.length c2], .int .i64 at'] w fun e w' => e = .returned (.bool true) ∧ Below w.heap.size w w' := by
  have HA : Hid (Arg w a1 a2 ss ps) := ha
  clear ha
  go_enter Try.func10, Try.ntmps10
  go_wp2_with fail
  have b0 : Below w.heap.size w (w.alloc (.cells #[.slice a1 ss.length c1, .slice a2 ps.length c2] 55)) := (belowRefl w).alloc (Nat.le_refl _) _
  refine (sz43 ss ps a1 a2 c1 c2 HA.out.n HA.out.l HA.out.m HA.out.lp _ (HA.out.s.below b0) (HA.out.p.below b0)).mono ?_
  rintro e w1 ⟨hb1, r, rfl, hr⟩
  have HX1 : Hid (Below (w.heap.size + 1) (w.alloc (.cells #[.slice a1 ss.length c1, .slice a2 ps.length c2] 55)) w1) := by show Below _ _ _; simpa using hb1
  have HB1 : Hid (Below w.heap.size w w1) := b0.trans (HX1.out.mono (by omega))
  clear b0 hb1
  by_cases hneg : r < 0
  · clear hr
    go_wp2
    go_ret
    exact ⟨rfl, HB1.out⟩
  have hneg' : ¬ r < 0 := hneg
  have HF : Hid (Fits ss ps) := hr (by omega)
  have hn : ss.length ≤ 100000000 := by have := HF.out.1; omega
  have hm : ps.length ≤ 100000000 := by have := HF.out.2.1; omega
  have HLS : Hid (∀ s ∈ ss, s.size ≤ 1000000000) := fun s h => Nat.le_trans (HF.out.2.2.1 s h) (by omega)
  have HLP : Hid (∀ p ∈ ps, p.2.size ≤ 1000000000) := fun p h => Nat.le_trans (HF.out.2.2.2 p h) (by omega)
  clear hr
  obtain ⟨g0, g1, z0⟩ := boxed HX1.out
  go_wp2_with fail
  refine (to44 ss ps a1 a2 c1 c2 hn hm _ (HA.out.s.below HB1.out) (HA.out.p.below HB1.out)).mono ?_
  rintro e w2 ⟨p1, p2, p3, p4, rfl, hd2, hb2⟩
  have HD2 : Hid (DOwn w2 w1.heap.size p1 p2 p3 p4 ss ps) := hd2
  have HX2 : Hid (Below (w.heap.size + 1) (w.alloc (.cells #[.slice a1 ss.length c1, .slice a2 ps.length c2] 55)) w2) := HX1.out.trans (hb2.mono (by omega))
  have HB2 : Hid (Below w.heap.size w w2) := HB1.out.trans (hb2.mono HB1.out.size)
  clear g0 g1 z0
  obtain ⟨g0, g1, z0⟩ := boxed HX2.out
  go_wp2_with fail
  refine (srd20_any ss ps at' p1 p3 p2 p4 hn hm _ HD2.out.s.srow HD2.out.p.prow).mono ?_
  rintro e w3 ⟨rfl, hb3⟩
  have HX3 : Hid (Below (w.heap.size + 1) (w.alloc (.cells #[.slice a1 ss.length c1, .slice a2 ps.length c2] 55)) w3) := HX2.out.trans (hb3.mono (by omega))
  have HB3 : Hid (Below w.heap.size w w3) := HB2.out.trans (hb3.mono HB2.out.size)
  clear g0 g1 z0
  obtain ⟨g0, g1, z0⟩ := boxed HX3.out
  go_wp2_with fail
  refine (to44 ss ps a1 a2 c1 c2 hn hm _ (HA.out.s.below HB3.out) (HA.out.p.below HB3.out)).mono ?_
  rintro e w4 ⟨x1, x2, x3, x4, rfl, hd4, hb4⟩
  have HD4 : Hid (DOwn w4 w3.heap.size x1 x2 x3 x4 ss ps) := hd4
  have HX4 : Hid (Below (w.heap.size + 1) (w.alloc (.cells #[.slice a1 ss.length c1, .slice a2 ps.length c2] 55)) w4) := HX3.out.trans (hb4.mono (by omega))
  have HB4 : Hid (Below w.heap.size w w4) := HB3.out.trans (hb4.mono HB3.out.size)
  clear g0 g1 z0
  obtain ⟨g0, g1, z0⟩ := boxed HX4.out
  go_wp2_with fail
  have b4 : Below w4.heap.size w4 (w4.alloc (.cells #[.slice x1 ss.length x2, .slice x3 ps.length x4] 27)) := (belowRefl w4).alloc (Nat.le_refl _) _
  refine (ird21_any ss ps at' x1 x3 x2 x4 hn hm HLS.out HLP.out _ (HD4.out.s.srow.below b4) (HD4.out.p.prow.below b4)).mono ?_
  rintro e w5 ⟨rfl, hb5⟩
  have HX5 : Hid (Below (w4.heap.size + 1) (w4.alloc (.cells #[.slice x1 ss.length x2, .slice x3 ps.length x4] 27)) w5) := by show Below _ _ _; simpa using hb5
  have HW5 : Hid (Below w4.heap.size w4 w5) := b4.trans (HX5.out.mono (by omega))
  have HY5 : Hid (Below (w.heap.size + 1) (w.alloc (.cells #[.slice a1 ss.length c1, .slice a2 ps.length c2] 55)) w5) := HX4.out.trans (HW5.out.mono (by omega))
  have HB5 : Hid (Below w.heap.size w w5) := HB4.out.trans (HW5.out.mono HB4.out.size)
  clear hb5 b4 g0 g1 z0
  obtain ⟨g0, g1, z0⟩ := boxed HY5.out
  obtain ⟨k0, k1, z1⟩ := boxed HX5.out
  have hbn := bne_self (hasB at' ss.length)
  generalize hasB at' ss.length = hbv at *
  generalize rdR ss ps at' = rdv at *
  have HS5 : Hid (SRow w5 x1 ss) := HD4.out.s.srow.below HW5.out
  have HP5 : Hid (PRow w5 x3 ps) := HD4.out.p.prow.below HW5.out
  have hX : w4.heap.size < w5.heap.size := z1
  generalize w4.heap.size = X at *
  have t5 : Hid (Two w.heap.size X (.slice a1 ss.length c1) (.slice a2 ps.length c2) (.slice x1 ss.length x2) (.slice x3 ps.length x4) w5.drew) := ⟨g0, g1, k0, k1⟩
  go_wp2
  go_region_held3 (fun w' => w'.cell? ⟨w.heap.size, 0, none⟩ = some (.slice a1 ss.length c1) ∧ w'.cell? ⟨w.heap.size, 1, none⟩ = some (.slice a2 ps.length c2) ∧ w'.cell? ⟨X, 0, none⟩ = some (.slice x1 ss.length x2) ∧ w'.cell? ⟨X, 1, none⟩ = some (.slice x3 ps.length x4)) (first | go_keep | exact t7.out | exact t6.out) ((first | (go_at_call 44; refine (to44 ss ps a1 a2 c1 c2 hn hm _ (HA.out.s.below HB5.out.drew) (HA.out.p.below HB5.out.drew)).mono ?_; rintro e w6 ⟨p3, q3, p4, q4, rfl, hd6, hb6⟩; have t6 : Hid (Two w.heap.size X (.slice a1 ss.length c1) (.slice a2 ps.length c2) (.slice x1 ss.length x2) (.slice x3 ps.length x4) w6) := Two.keep t5.out hb6 z0 z1) | (go_at_call 40; refine (eq40 x1 x3 p3 p4 x2 x4 q3 q4 ss ps hn hm _ (HS5.out.drew.below hb6) (HP5.out.drew.below hb6) hd6.s.srow hd6.p.prow).mono ?_; rintro e w7 ⟨rfl, hb7⟩; have t7 : Hid (Two w.heap.size X (.slice a1 ss.length c1) (.slice a2 ps.length c2) (.slice x1 ss.length x2) (.slice x3 ps.length x4) w7) := Two.keep t6.out hb7 (Nat.lt_of_lt_of_le z0 hb6.size) (Nat.lt_of_lt_of_le z1 hb6.size))))
  all_goals
    go_wp2
    go_ret
    exact ⟨rfl, (HB5.out.drew.trans (hb6.mono HB5.out.size)).trans (hb7.mono (Nat.le_trans HB5.out.size hb6.size))⟩
end Go.Proofs.Ythljehdjgphmcaa
