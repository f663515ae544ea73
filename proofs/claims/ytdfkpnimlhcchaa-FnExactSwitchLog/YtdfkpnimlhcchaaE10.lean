/- The law FnExactPutRecord, walked. -/
import Derived.Test.YtdfkpnimlhcchaaD0
import Derived.Test.YtdfkpnimlhcchaaI6
namespace Go.Proofs.Ytdfkpnimlhcchaa
open Go.RowKit
open DM
attribute [local go_sem ↓] Go.wp_at_zero Go.wp_at_succ

theorem flS_len (ss : List ByteArray) (ps : List Wr) : (flS ss ps).length = ss.length := by
  unfold flS
  split
  · rw [flush_len]
  · rfl
theorem prS_len (ss : List ByteArray) (ps : List Wr) (a : Int) (t : ByteArray) : (prS ss ps a t).length = ss.length := by
  unfold prS
  split
  · unfold putS
    rw [flS_len, flS_len]
  · rfl

set_option maxRecDepth 100000 in
set_option maxHeartbeats 8000000 in
theorem law10 (ss : List ByteArray) (ps : List Wr) (a1 a2 : Option Addr) (c1 c2 : Nat) (a : Int) (t : ByteArray) (w : World) (ha : Arg w a1 a2 ss ps) (_ht : t.size ≤ maxLen) :
    Calls Try.prog 10 #[.agg #[.slice a1 ss.length c1, .slice a2 ps.length c2], .int .i64 a, .string t] w fun e w' => e = .returned (.bool true) ∧ Below w.heap.size w w' := by
  have HA : Hid (Arg w a1 a2 ss ps) := ha
  clear ha
  by_cases hbig : 1048576 < t.size
  · have hbig' : (1048576 : Int) < (t.size : Int) := by omega
    go_enter Try.func10, Try.ntmps10
    go_wp2
    go_ret
    exact ⟨rfl, (belowRefl w).alloc (Nat.le_refl _) _⟩
  have hbig' : ¬ (1048576 : Int) < (t.size : Int) := by omega
  have htz : t.size ≤ 1048576 := by omega
  go_enter Try.func10, Try.ntmps10
  go_wp2_with fail
  have b0 : Below w.heap.size w (w.alloc (.cells #[.slice a1 ss.length c1, .slice a2 ps.length c2] 34)) := (belowRefl w).alloc (Nat.le_refl _) _
  refine (sz43 ss ps a1 a2 c1 c2 HA.out.n HA.out.l HA.out.m HA.out.lp _ (HA.out.s.below b0) (HA.out.p.below b0)).mono ?_
  rintro e w1 ⟨hb1, r, rfl, hr⟩
  have B1 : Hid (Bxs w1 [(w.heap.size, .slice a1 ss.length c1, .slice a2 ps.length c2)]) := ((Bxs.nil w).new (.slice a1 ss.length c1) (.slice a2 ps.length c2) 34).keep hb1
  have HB1 : Hid (Below w.heap.size w w1) := b0.trans (hb1.mono b0.size)
  have s1 : w.heap.size < w1.heap.size := B1.out.hd.lt
  clear b0 hb1
  by_cases hneg : r < 0
  · clear hr
    go_wp2
    go_ret
    exact ⟨rfl, HB1.out⟩
  have hneg' : ¬ r < 0 := hneg
  have HF : Hid (Fits ss ps) := hr (by omega)
  have hn : ss.length ≤ 1048576 := HF.out.1
  have hm : ps.length ≤ 1048576 := HF.out.2.1
  have HLS : Hid (∀ s ∈ ss, s.size ≤ 1000000000) := fun s h => Nat.le_trans (HF.out.2.2.1 s h) (by omega)
  have HLP : Hid (∀ p ∈ ps, p.2.size ≤ 1000000000) := fun p h => Nat.le_trans (HF.out.2.2.2 p h) (by omega)
  have hrs : (prS ss ps a t).length ≤ 100000000 := by rw [prS_len]; omega
  have HLS2 : Hid (∀ s ∈ ss, s.size ≤ 1048576) := HF.out.2.2.1
  have HLP2 : Hid (∀ p ∈ ps, p.2.size ≤ 1048576) := HF.out.2.2.2
  clear hr
  have g0 := B1.out.hd.c0
  have g1 := B1.out.hd.c1
  go_wp2_with fail
  refine (to44 ss ps a1 a2 c1 c2 (by omega) (by omega) _ (HA.out.s.below HB1.out) (HA.out.p.below HB1.out)).mono ?_
  rintro e w2 ⟨p1, p2, p3, p4, rfl, hd2, hb2⟩
  have HD2 : Hid (DOwn w2 w1.heap.size p1 p2 p3 p4 ss ps) := hd2
  have B2 : Hid (Bxs w2 [(w.heap.size, .slice a1 ss.length c1, .slice a2 ps.length c2)]) := B1.out.keep hb2
  have HB2 : Hid (Below w.heap.size w w2) := HB1.out.trans (hb2.mono HB1.out.size)
  have s2 : w.heap.size < w2.heap.size := B2.out.hd.lt
  clear hd2 hb2 g0 g1
  go_wp2_with fail
  refine (spr36 ss ps a t p1 p3 p2 p4 _ (by omega) (by omega) HLS2.out HLP2.out htz _ HD2.out).mono ?_
  rintro e w3 ⟨r1, r2, r3, r4, rfl, hd3, hb3⟩
  have R3 : Hid (DR (w3.alloc (.cells #[.slice r1 (prS ss ps a t).length r2, .slice r3 ps.length r4] 27)) w2.heap.size w3.heap.size r1 r2 r3 r4 (prS ss ps a t) ps) := hd3.dr.alloc _
  have B3 : Hid (Bxs (w3.alloc (.cells #[.slice r1 (prS ss ps a t).length r2, .slice r3 ps.length r4] 27)) [(w3.heap.size, .slice r1 (prS ss ps a t).length r2, .slice r3 ps.length r4), (w.heap.size, .slice a1 ss.length c1, .slice a2 ps.length c2)]) := (B2.out.keep hb3).new _ _ 27
  have s3 : w.heap.size < w3.heap.size := (B2.out.keep hb3).hd.lt
  have HB3 : Hid (Below w.heap.size w (w3.alloc (.cells #[.slice r1 (prS ss ps a t).length r2, .slice r3 ps.length r4] 27))) := (HB2.out.trans (hb3.mono HB2.out.size)).alloc (Nat.le_of_lt s3) _
  clear hd3 hb3
  have g0 := B3.out.tl.hd.c0
  have g1 := B3.out.tl.hd.c1
  go_wp2_with fail
  refine (to44 ss ps a1 a2 c1 c2 (by omega) (by omega) _ (HA.out.s.below HB3.out) (HA.out.p.below HB3.out)).mono ?_
  rintro e w4 ⟨x1, x2, x3, x4, rfl, hd4, hb4⟩
  have X4 : Hid (DR (w4.alloc (.cells #[.slice x1 ss.length x2, .slice x3 ps.length x4] 27)) (w3.heap.size + 1) w4.heap.size x1 x2 x3 x4 ss ps) := by
    have h := hd4.dr.alloc (.cells #[.slice x1 ss.length x2, .slice x3 ps.length x4] 27)
    rw [World.size_alloc] at h
    exact h
  have R4 : Hid (DR (w4.alloc (.cells #[.slice x1 ss.length x2, .slice x3 ps.length x4] 27)) w2.heap.size w3.heap.size r1 r2 r3 r4 (prS ss ps a t) ps) := (R3.out.keep hb4).alloc _
  have B4 : Hid (Bxs (w4.alloc (.cells #[.slice x1 ss.length x2, .slice x3 ps.length x4] 27)) [(w4.heap.size, .slice x1 ss.length x2, .slice x3 ps.length x4), (w3.heap.size, .slice r1 (prS ss ps a t).length r2, .slice r3 ps.length r4), (w.heap.size, .slice a1 ss.length c1, .slice a2 ps.length c2)]) := (B3.out.keep hb4).new _ _ 27
  have s4 : w3.heap.size < w4.heap.size := (B3.out.keep hb4).hd.lt
  have HB4 : Hid (Below w.heap.size w (w4.alloc (.cells #[.slice x1 ss.length x2, .slice x3 ps.length x4] 27))) := (HB3.out.trans (hb4.mono HB3.out.size)).alloc (by omega) _
  clear hd4 hb4 g0 g1
  have k0 := B4.out.hd.c0
  have k1 := B4.out.hd.c1
  go_wp2_with fail
  refine (ipr37 ss ps a t x1 x3 x2 x4 (by omega) (by omega) HLS2.out HLP2.out htz _ (X4.out.d).s.srow (X4.out.d).p.prow).mono ?_
  rintro e w5 ⟨y1, y2, y3, y4, rfl, hd5, hb5⟩
  have Y5 : Hid (DR (w5.alloc (.cells #[.slice y1 (prS ss ps a t).length y2, .slice y3 ps.length y4] 27)) (w4.heap.size + 1) w5.heap.size y1 y2 y3 y4 (prS ss ps a t) ps) := by
    have h := hd5.dr.alloc (.cells #[.slice y1 (prS ss ps a t).length y2, .slice y3 ps.length y4] 27)
    rw [World.size_alloc] at h
    exact h
  have R5 : Hid (DR (w5.alloc (.cells #[.slice y1 (prS ss ps a t).length y2, .slice y3 ps.length y4] 27)) w2.heap.size w3.heap.size r1 r2 r3 r4 (prS ss ps a t) ps) := (R4.out.keep hb5).alloc _
  have X5 : Hid (DR (w5.alloc (.cells #[.slice y1 (prS ss ps a t).length y2, .slice y3 ps.length y4] 27)) (w3.heap.size + 1) w4.heap.size x1 x2 x3 x4 ss ps) := (X4.out.keep hb5).alloc _
  have B5 : Hid (Bxs (w5.alloc (.cells #[.slice y1 (prS ss ps a t).length y2, .slice y3 ps.length y4] 27)) [(w5.heap.size, .slice y1 (prS ss ps a t).length y2, .slice y3 ps.length y4), (w4.heap.size, .slice x1 ss.length x2, .slice x3 ps.length x4), (w3.heap.size, .slice r1 (prS ss ps a t).length r2, .slice r3 ps.length r4), (w.heap.size, .slice a1 ss.length c1, .slice a2 ps.length c2)]) := (B4.out.keep hb5).new _ _ 27
  have s5 : w4.heap.size < w5.heap.size := (B4.out.keep hb5).hd.lt
  have HB5 : Hid (Below w.heap.size w (w5.alloc (.cells #[.slice y1 (prS ss ps a t).length y2, .slice y3 ps.length y4] 27))) := (HB4.out.trans (hb5.mono HB4.out.size)).alloc (by omega) _
  clear hd5 hb5 k0 k1 HD2 X4 R3 R4 B2 B3 B4
  have hbn := bne_self (prB ss ps a t)
  have k0 := B5.out.hd.c0
  have k1 := B5.out.hd.c1
  have k2 := B5.out.tl.tl.hd.c0
  have k3 := B5.out.tl.tl.hd.c1
  go_wp2_with fail
  refine (eq40 y1 y3 r1 r3 y2 y4 r2 r4 (prS ss ps a t) ps hrs (by omega) _ Y5.out.d.s.srow Y5.out.d.p.prow R5.out.d.s.srow R5.out.d.p.prow).mono ?_
  rintro e w6 ⟨rfl, hb6⟩
  have Y6 : Hid (DR w6 (w4.heap.size + 1) w5.heap.size y1 y2 y3 y4 (prS ss ps a t) ps) := Y5.out.keep hb6
  have R6 : Hid (DR w6 w2.heap.size w3.heap.size r1 r2 r3 r4 (prS ss ps a t) ps) := R5.out.keep hb6
  have X6 : Hid (DR w6 (w3.heap.size + 1) w4.heap.size x1 x2 x3 x4 ss ps) := X5.out.keep hb6
  have B6 : Hid (Bxs w6 [(w5.heap.size, .slice y1 (prS ss ps a t).length y2, .slice y3 ps.length y4), (w4.heap.size, .slice x1 ss.length x2, .slice x3 ps.length x4), (w3.heap.size, .slice r1 (prS ss ps a t).length r2, .slice r3 ps.length r4), (w.heap.size, .slice a1 ss.length c1, .slice a2 ps.length c2)]) := B5.out.keep hb6
  have HB6 : Hid (Below w.heap.size w w6) := HB5.out.trans (hb6.mono HB5.out.size)
  clear hb6 Y5 R5 X5 B5 k0 k1 k2 k3
  have g0 := B6.out.tl.tl.tl.hd.c0
  have g1 := B6.out.tl.tl.tl.hd.c1
  have k0 := B6.out.tl.hd.c0
  have k1 := B6.out.tl.hd.c1
  have z0 := B6.out.tl.tl.tl.hd.lt
  have z1 := B6.out.tl.hd.lt
  have t6 : Hid (Two w.heap.size w4.heap.size (.slice a1 ss.length c1) (.slice a2 ps.length c2) (.slice x1 ss.length x2) (.slice x3 ps.length x4) w6.drew) := ⟨g0, g1, k0, k1⟩
  go_wp2
  go_region_held3 (fun w' => w'.cell? ⟨w.heap.size, 0, none⟩ = some (.slice a1 ss.length c1) ∧ w'.cell? ⟨w.heap.size, 1, none⟩ = some (.slice a2 ps.length c2) ∧ w'.cell? ⟨w4.heap.size, 0, none⟩ = some (.slice x1 ss.length x2) ∧ w'.cell? ⟨w4.heap.size, 1, none⟩ = some (.slice x3 ps.length x4)) (first | go_keep | exact t8.out | exact t7.out) ((first | (go_at_call 23; refine (to44 ss ps a1 a2 c1 c2 (by omega) (by omega) _ (HA.out.s.below HB6.out.drew) (HA.out.p.below HB6.out.drew)).mono ?_; rintro e w7 ⟨q1, q2, q3, q4, rfl, hd7, hb7⟩; have t7 : Hid (Two w.heap.size w4.heap.size (.slice a1 ss.length c1) (.slice a2 ps.length c2) (.slice x1 ss.length x2) (.slice x3 ps.length x4) w7) := Two.keep t6.out hb7 z0 z1) | (go_at_call 18; refine (eq40 x1 x3 q1 q3 x2 x4 q2 q4 ss ps (by omega) (by omega) _ (X6.out.drew.d.s.srow.below hb7) (X6.out.drew.d.p.prow.below hb7) hd7.s.srow hd7.p.prow).mono ?_; rintro e w8 ⟨rfl, hb8⟩; have t8 : Hid (Two w.heap.size w4.heap.size (.slice a1 ss.length c1) (.slice a2 ps.length c2) (.slice x1 ss.length x2) (.slice x3 ps.length x4) w8) := Two.keep t7.out hb8 (Nat.lt_of_lt_of_le z0 hb7.size) (Nat.lt_of_lt_of_le z1 hb7.size))))
  all_goals
    have b78 : Below w6.heap.size w6 w8 := (undrew hb7).trans (hb8.mono hb7.size)
    have Y8 : Hid (DR w8 (w4.heap.size + 1) w5.heap.size y1 y2 y3 y4 (prS ss ps a t) ps) := Y6.out.keep b78
    have R8 : Hid (DR w8 w2.heap.size w3.heap.size r1 r2 r3 r4 (prS ss ps a t) ps) := R6.out.keep b78
    have X8 : Hid (DR w8 (w3.heap.size + 1) w4.heap.size x1 x2 x3 x4 ss ps) := X6.out.keep b78
    have B8 : Hid (Bxs w8 [(w5.heap.size, .slice y1 (prS ss ps a t).length y2, .slice y3 ps.length y4), (w4.heap.size, .slice x1 ss.length x2, .slice x3 ps.length x4), (w3.heap.size, .slice r1 (prS ss ps a t).length r2, .slice r3 ps.length r4), (w.heap.size, .slice a1 ss.length c1, .slice a2 ps.length c2)]) := B6.out.keep b78
    have HB8 : Hid (Below w.heap.size w w8) := HB6.out.trans (b78.mono HB6.out.size)
    clear hb7 hb8 hd7 b78 t6 t7 t8 Y6 R6 X6 B6 g0 g1 k0 k1 z0 z1
    have k0 := B8.out.tl.hd.c0
    have k1 := B8.out.tl.hd.c1
    go_wp2_with fail
    refine (mark41 ss.length ps.length 1 x1 x3 x2 x4 (w3.heap.size + 1) _ _ (by omega) (by omega) (by omega) (by omega) _ X8.out.d.s X8.out.d.p).mono ?_
    rintro e w9 ⟨rfl, _, _, hk9⟩
    have Y9 : Hid (DR w9 (w4.heap.size + 1) w5.heap.size y1 y2 y3 y4 (prS ss ps a t) ps) := Y8.out.kept2 hk9 X8.out.u1 X8.out.u2 (Or.inr (by omega))
    have R9 : Hid (DR w9 w2.heap.size w3.heap.size r1 r2 r3 r4 (prS ss ps a t) ps) := R8.out.kept2 hk9 X8.out.u1 X8.out.u2 (Or.inl (by omega))
    have B9 : Hid (Bxs w9 [(w5.heap.size, .slice y1 (prS ss ps a t).length y2, .slice y3 ps.length y4), (w4.heap.size, .slice x1 ss.length x2, .slice x3 ps.length x4), (w3.heap.size, .slice r1 (prS ss ps a t).length r2, .slice r3 ps.length r4), (w.heap.size, .slice a1 ss.length c1, .slice a2 ps.length c2)]) := B8.out.kept2 hk9 (w3.heap.size + 1) w4.heap.size X8.out.u1 X8.out.u2 (fun q hq => by
      simp only [List.mem_cons, List.not_mem_nil, or_false] at hq
      rcases hq with rfl | rfl | rfl | rfl <;> simp <;> omega)
    have HB9 : Hid (Below w.heap.size w w9) := HB8.out.trans (hk9.below _ HB8.out.size (fun k hk => by have := X8.out.u1 k hk; omega) (fun k hk => by have := X8.out.u2 k hk; omega))
    clear hk9 Y8 R8 B8 k0 k1 X8
    have hnn : ¬ ((1 + ss.length + 2 * ps.length : Nat) : Int) < 0 := by omega
    have k0 := B9.out.hd.c0
    have k1 := B9.out.hd.c1
    have k2 := B9.out.tl.tl.hd.c0
    have k3 := B9.out.tl.tl.hd.c1
    go_wp2_with fail
    refine (eq40 y1 y3 r1 r3 y2 y4 r2 r4 (prS ss ps a t) ps hrs (by omega) _ Y9.out.d.s.srow Y9.out.d.p.prow R9.out.d.s.srow R9.out.d.p.prow).mono ?_
    rintro e w10 ⟨rfl, hb10⟩
    have Y10 : Hid (DR w10 (w4.heap.size + 1) w5.heap.size y1 y2 y3 y4 (prS ss ps a t) ps) := Y9.out.keep hb10
    have R10 : Hid (DR w10 w2.heap.size w3.heap.size r1 r2 r3 r4 (prS ss ps a t) ps) := R9.out.keep hb10
    have B10 : Hid (Bxs w10 [(w5.heap.size, .slice y1 (prS ss ps a t).length y2, .slice y3 ps.length y4), (w4.heap.size, .slice x1 ss.length x2, .slice x3 ps.length x4), (w3.heap.size, .slice r1 (prS ss ps a t).length r2, .slice r3 ps.length r4), (w.heap.size, .slice a1 ss.length c1, .slice a2 ps.length c2)]) := B9.out.keep hb10
    have HB10 : Hid (Below w.heap.size w w10) := HB9.out.trans (hb10.mono HB9.out.size)
    clear hb10 Y9 R9 B9 k0 k1 k2 k3 hnn
    have k0 := B10.out.hd.c0
    have k1 := B10.out.hd.c1
    go_wp2_with fail
    refine (mark41 (prS ss ps a t).length ps.length 1 y1 y3 y2 y4 (w4.heap.size + 1) _ _ hrs (by omega) (by omega) (by omega) _ Y10.out.d.s Y10.out.d.p).mono ?_
    rintro e w11 ⟨rfl, hs11, hp11, hk11⟩
    have HS11 : Hid (SRow w11 y1 (marks 1 (prS ss ps a t).length)) := by
      have h := hs11
      rw [show Value.slice y1 (prS ss ps a t).length y2 = .slice y1 (marks 1 (prS ss ps a t).length).length y2 by rw [marks_len]] at h
      exact h.srow
    have HP11 : Hid (PRow w11 y3 (pmarks (1 + (prS ss ps a t).length) ps.length)) := by
      have h := hp11
      rw [show Value.slice y3 ps.length y4 = .slice y3 (pmarks (1 + (prS ss ps a t).length) ps.length).length y4 by rw [pmarks_len]] at h
      exact h.prow
    have R11 : Hid (DR w11 w2.heap.size w3.heap.size r1 r2 r3 r4 (prS ss ps a t) ps) := R10.out.kept2 hk11 Y10.out.u1 Y10.out.u2 (Or.inl (by omega))
    have B11 : Hid (Bxs w11 [(w5.heap.size, .slice y1 (prS ss ps a t).length y2, .slice y3 ps.length y4), (w4.heap.size, .slice x1 ss.length x2, .slice x3 ps.length x4), (w3.heap.size, .slice r1 (prS ss ps a t).length r2, .slice r3 ps.length r4), (w.heap.size, .slice a1 ss.length c1, .slice a2 ps.length c2)]) := B10.out.kept2 hk11 (w4.heap.size + 1) w5.heap.size Y10.out.u1 Y10.out.u2 (fun q hq => by
      simp only [List.mem_cons, List.not_mem_nil, or_false] at hq
      rcases hq with rfl | rfl | rfl | rfl <;> simp <;> omega)
    have HB11 : Hid (Below w.heap.size w w11) := HB10.out.trans (hk11.below _ HB10.out.size (fun k hk => by have := Y10.out.u1 k hk; omega) (fun k hk => by have := Y10.out.u2 k hk; omega))
    clear hk11 hs11 hp11 Y10 R10 B10 k0 k1
    have k0 := B11.out.hd.c0
    have k1 := B11.out.hd.c1
    go_wp2_with fail
    refine (held42 (prS ss ps a t).length ps.length 1 y1 y3 y2 y4 hrs (by omega) (by omega) (by omega) _ HS11.out HP11.out).mono ?_
    rintro e w12 ⟨rfl, hb12⟩
    have HS12 : Hid (SRow w12 y1 (marks 1 (prS ss ps a t).length)) := HS11.out.below hb12
    have HP12 : Hid (PRow w12 y3 (pmarks (1 + (prS ss ps a t).length) ps.length)) := HP11.out.below hb12
    have R12 : Hid (DR w12 w2.heap.size w3.heap.size r1 r2 r3 r4 (prS ss ps a t) ps) := R11.out.keep hb12
    have B12 : Hid (Bxs w12 [(w5.heap.size, .slice y1 (prS ss ps a t).length y2, .slice y3 ps.length y4), (w4.heap.size, .slice x1 ss.length x2, .slice x3 ps.length x4), (w3.heap.size, .slice r1 (prS ss ps a t).length r2, .slice r3 ps.length r4), (w.heap.size, .slice a1 ss.length c1, .slice a2 ps.length c2)]) := B11.out.keep hb12
    have HB12 : Hid (Below w.heap.size w w12) := HB11.out.trans (hb12.mono HB11.out.size)
    clear hb12 HS11 HP11 R11 B11 k0 k1
    have hnn : ¬ ((1 + (prS ss ps a t).length + 2 * ps.length : Nat) : Int) < 0 := by omega
    have g0 := B12.out.tl.tl.tl.hd.c0
    have g1 := B12.out.tl.tl.tl.hd.c1
    go_wp2_with fail
    refine (to44 ss ps a1 a2 c1 c2 (by omega) (by omega) _ (HA.out.s.below HB12.out) (HA.out.p.below HB12.out)).mono ?_
    rintro e w13 ⟨o1, o2, o3, o4, rfl, hd13, hb13⟩
    have HD13 : Hid (DOwn w13 w12.heap.size o1 o2 o3 o4 ss ps) := hd13
    have HS13 : Hid (SRow w13 y1 (marks 1 (prS ss ps a t).length)) := HS12.out.below hb13
    have HP13 : Hid (PRow w13 y3 (pmarks (1 + (prS ss ps a t).length) ps.length)) := HP12.out.below hb13
    have R13 : Hid (DR w13 w2.heap.size w3.heap.size r1 r2 r3 r4 (prS ss ps a t) ps) := R12.out.keep hb13
    have B13 : Hid (Bxs w13 [(w5.heap.size, .slice y1 (prS ss ps a t).length y2, .slice y3 ps.length y4), (w4.heap.size, .slice x1 ss.length x2, .slice x3 ps.length x4), (w3.heap.size, .slice r1 (prS ss ps a t).length r2, .slice r3 ps.length r4), (w.heap.size, .slice a1 ss.length c1, .slice a2 ps.length c2)]) := B12.out.keep hb13
    have HB13 : Hid (Below w.heap.size w w13) := HB12.out.trans (hb13.mono HB12.out.size)
    clear hd13 hb13 HS12 HP12 R12 B12 g0 g1
    go_wp2_with fail
    refine (ipr37 ss ps a t o1 o3 o2 o4 (by omega) (by omega) HLS2.out HLP2.out htz _ (HD13.out).s.srow (HD13.out).p.prow).mono ?_
    rintro e w14 ⟨n1, n2, n3, n4, rfl, hd14, hb14⟩
    have N14 : Hid (DOwn (w14.alloc (.cells #[.slice n1 (prS ss ps a t).length n2, .slice n3 ps.length n4] 27)) w13.heap.size n1 n2 n3 n4 (prS ss ps a t) ps) := hd14.below ((belowRefl w14).alloc (Nat.le_refl _) _)
    have b14 : Below w13.heap.size w13 (w14.alloc (.cells #[.slice n1 (prS ss ps a t).length n2, .slice n3 ps.length n4] 27)) := hb14.alloc hb14.size _
    have HS14 : Hid (SRow (w14.alloc (.cells #[.slice n1 (prS ss ps a t).length n2, .slice n3 ps.length n4] 27)) y1 (marks 1 (prS ss ps a t).length)) := HS13.out.below b14
    have HP14 : Hid (PRow (w14.alloc (.cells #[.slice n1 (prS ss ps a t).length n2, .slice n3 ps.length n4] 27)) y3 (pmarks (1 + (prS ss ps a t).length) ps.length)) := HP13.out.below b14
    have R14 : Hid (DR (w14.alloc (.cells #[.slice n1 (prS ss ps a t).length n2, .slice n3 ps.length n4] 27)) w2.heap.size w3.heap.size r1 r2 r3 r4 (prS ss ps a t) ps) := R13.out.keep b14
    have B14 : Hid (Bxs (w14.alloc (.cells #[.slice n1 (prS ss ps a t).length n2, .slice n3 ps.length n4] 27)) [(w14.heap.size, .slice n1 (prS ss ps a t).length n2, .slice n3 ps.length n4), (w5.heap.size, .slice y1 (prS ss ps a t).length y2, .slice y3 ps.length y4), (w4.heap.size, .slice x1 ss.length x2, .slice x3 ps.length x4), (w3.heap.size, .slice r1 (prS ss ps a t).length r2, .slice r3 ps.length r4), (w.heap.size, .slice a1 ss.length c1, .slice a2 ps.length c2)]) := (B13.out.keep hb14).new _ _ 27
    have HB14 : Hid (Below w.heap.size w (w14.alloc (.cells #[.slice n1 (prS ss ps a t).length n2, .slice n3 ps.length n4] 27))) := HB13.out.trans (b14.mono HB13.out.size)
    clear hd14 hb14 b14 HS13 HP13 R13 B13 HD13
    have k0 := B14.out.hd.c0
    have k1 := B14.out.hd.c1
    have k2 := B14.out.tl.tl.tl.hd.c0
    have k3 := B14.out.tl.tl.tl.hd.c1
    go_wp2_with fail
    refine (eq40 n1 n3 r1 r3 n2 n4 r2 r4 (prS ss ps a t) ps hrs (by omega) _ N14.out.s.srow N14.out.p.prow R14.out.d.s.srow R14.out.d.p.prow).mono ?_
    rintro e w15 ⟨rfl, hb15⟩
    have HS15 : Hid (SRow w15 y1 (marks 1 (prS ss ps a t).length)) := HS14.out.below hb15
    have HP15 : Hid (PRow w15 y3 (pmarks (1 + (prS ss ps a t).length) ps.length)) := HP14.out.below hb15
    have B15 : Hid (Bxs w15 [(w14.heap.size, .slice n1 (prS ss ps a t).length n2, .slice n3 ps.length n4), (w5.heap.size, .slice y1 (prS ss ps a t).length y2, .slice y3 ps.length y4), (w4.heap.size, .slice x1 ss.length x2, .slice x3 ps.length x4), (w3.heap.size, .slice r1 (prS ss ps a t).length r2, .slice r3 ps.length r4), (w.heap.size, .slice a1 ss.length c1, .slice a2 ps.length c2)]) := B14.out.keep hb15
    have HB15 : Hid (Below w.heap.size w w15) := HB14.out.trans (hb15.mono HB14.out.size)
    clear hb15 HS14 HP14 R14 B14 N14 k0 k1 k2 k3
    have k0 := B15.out.tl.hd.c0
    have k1 := B15.out.tl.hd.c1
    go_wp2_with fail
    refine (held42 (prS ss ps a t).length ps.length 1 y1 y3 y2 y4 hrs (by omega) (by omega) (by omega) _ HS15.out HP15.out).mono ?_
    rintro e w16 ⟨rfl, hb16⟩
    have HB16 : Hid (Below w.heap.size w w16) := HB15.out.trans (hb16.mono HB15.out.size)
    clear hb16
    go_wp2
    go_ret
    exact ⟨rfl, HB16.out⟩
end Go.Proofs.Ytdfkpnimlhcchaa
