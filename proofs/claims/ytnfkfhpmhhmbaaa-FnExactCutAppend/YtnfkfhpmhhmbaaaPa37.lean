/- The law FnExactCutAppend, walked. -/
import Derived.Test.YtnfkfhpmhhmbaaaPa10
import Derived.Test.YtnfkfhpmhhmbaaaPa35
import Derived.Test.YtnfkfhpmhhmbaaaPa36
namespace Go.Proofs.Ytnfkfhpmhhmbaaa
open Go.RowKit
open DM
attribute [local go_sem ↓] Go.wp_at_zero Go.wp_at_succ

theorem caS_len (ss : List ByteArray) (ps : List Wr) (t : ByteArray) (st : Int) (ks : List Int) (tr : Int) : (caS ss ps t st ks tr).length = ss.length := by
  unfold caS
  split
  · rename_i h
    split
    · exact crS_len _ _ _ _
    · split
      · rw [crS_len]; exact flS_len _ _
      · have h1 : prS ss ps (act ss ps) t = putS ss ps (act ss ps) t := if_pos h
        rw [← h1]; exact prS_len _ _ _ _
  · rfl

set_option maxRecDepth 100000 in
set_option maxHeartbeats 8000000 in
theorem law3 (ss : List ByteArray) (ps : List Wr) (a1 a2 : Option Addr) (c1 c2 : Nat) (tx : ByteArray) (st : Int) (ks : List Int) (ak : Option Addr) (ck : Nat) (t : Int) (w : World) (ha : Arg w a1 a2 ss ps) (htm : tx.size ≤ 9223372036854775807) (hkm : ks.length ≤ 9223372036854775807) (hkr : KRow w ak ks) :
    Calls Try.prog 3 #[.agg #[.slice a1 ss.length c1, .slice a2 ps.length c2], .string tx, .int .i64 st, .slice ak ks.length ck, .int .i64 t] w fun e w' => e = .returned (.bool true) ∧ Below w.heap.size w w' := by
  have HA : Hid (Arg w a1 a2 ss ps) := ha
  clear ha
  have HKR : Hid (KRow w ak ks) := hkr
  clear hkr
  by_cases htb : 1048576 < tx.size
  · have htb' : (1048576 : Int) < (tx.size : Int) := by omega
    go_enter Try.func3, Try.ntmps3
    go_wp2
    go_ret
    exact ⟨rfl, (belowRefl w).alloc (Nat.le_refl _) _⟩
  have htb' : ¬ (1048576 : Int) < (tx.size : Int) := by omega
  by_cases hbig : 1048576 < ks.length
  · have hbig' : (1048576 : Int) < (ks.length : Int) := by omega
    go_enter Try.func3, Try.ntmps3
    go_wp2
    go_ret
    exact ⟨rfl, (belowRefl w).alloc (Nat.le_refl _) _⟩
  have hbig' : ¬ (1048576 : Int) < (ks.length : Int) := by omega
  have hkn : ks.length ≤ 100000000 := by omega
  go_enter Try.func3, Try.ntmps3
  go_wp2_with fail
  have b0 : Below w.heap.size w (w.alloc (.cells #[.slice a1 ss.length c1, .slice a2 ps.length c2] 25)) := (belowRefl w).alloc (Nat.le_refl _) _
  refine (sz43 ss ps a1 a2 c1 c2 HA.out.n HA.out.l HA.out.m HA.out.lp _ (HA.out.s.below b0) (HA.out.p.below b0)).mono ?_
  rintro e w1 ⟨hb1, r, rfl, hr⟩
  have B1 : Hid (Bxs w1 [(w.heap.size, .slice a1 ss.length c1, .slice a2 ps.length c2)]) := ((Bxs.nil w).new (.slice a1 ss.length c1) (.slice a2 ps.length c2) 25).keep hb1
  have HB1 : Hid (Below w.heap.size w w1) := b0.trans (hb1.mono b0.size)
  have s1 : w.heap.size < w1.heap.size := B1.out.hd.lt
  clear b0 hb1
  by_cases hneg : r < 0
  · clear hr
    go_wp2
    go_ret
    exact ⟨rfl, HB1.out⟩
  have hneg' : ¬ r < 0 := hneg
  have HF : Hid (Fits ss ps) := hr (by omega)
  have hn : ss.length ≤ 1048576 := HF.out.1
  have hm : ps.length ≤ 1048576 := HF.out.2.1
  have HLS : Hid (∀ s ∈ ss, s.size ≤ 1000000000) := fun s h => Nat.le_trans (HF.out.2.2.1 s h) (by omega)
  have HLP : Hid (∀ p ∈ ps, p.2.size ≤ 1000000000) := fun p h => Nat.le_trans (HF.out.2.2.2 p h) (by omega)
  have hrs : (caS ss ps tx st ks t).length ≤ 100000000 := by rw [caS_len]; omega
  have hrp : ps.length ≤ 100000000 := by omega
  have HLS2 : Hid (∀ s ∈ ss, s.size ≤ 1048576) := HF.out.2.2.1
  have HLP2 : Hid (∀ p ∈ ps, p.2.size ≤ 1048576) := HF.out.2.2.2
  clear hr
  have g0 := B1.out.hd.c0
  have g1 := B1.out.hd.c1
  go_wp2_with fail
  refine (to44 ss ps a1 a2 c1 c2 (by omega) (by omega) _ (HA.out.s.below HB1.out) (HA.out.p.below HB1.out)).mono ?_
  rintro e wa ⟨p1, p2, p3, p4, rfl, hda, hba⟩
  have HDa : Hid (DOwn wa w1.heap.size p1 p2 p3 p4 ss ps) := hda
  have Ba : Hid (Bxs wa [(w.heap.size, .slice a1 ss.length c1, .slice a2 ps.length c2)]) := B1.out.keep hba
  have HBa : Hid (Below w.heap.size w wa) := HB1.out.trans (hba.mono HB1.out.size)
  clear hda hba g0 g1
  go_wp2_with fail
  refine (to45 ks ak ck hkn _ (HKR.out.below HBa.out)).mono ?_
  rintro e w2 ⟨i1, i2, rfl, hi2, hb2⟩
  have HI2 : Hid (KRow w2 i1 ks) := hi2.krow
  have HD2 : Hid (DOwn w2 w1.heap.size p1 p2 p3 p4 ss ps) := HDa.out.below hb2
  have B2 : Hid (Bxs w2 [(w.heap.size, .slice a1 ss.length c1, .slice a2 ps.length c2)]) := Ba.out.keep hb2
  have HB2 : Hid (Below w.heap.size w w2) := HBa.out.trans (hb2.mono HBa.out.size)
  have s2 : w.heap.size < w2.heap.size := B2.out.hd.lt
  clear hi2 hb2 HDa Ba HBa
  go_wp2_with fail
  refine (scutA ss ps tx st ks t p1 p3 i1 p2 p4 i2 _ (by omega) (by omega) HLS2.out HLP2.out (by omega) (by omega) _ HD2.out HI2.out).mono ?_
  rintro e w3 ⟨r1, r2, r3, r4, rfl, hd3, hb3⟩
  have R3 : Hid (DR (w3.alloc (.cells #[.slice r1 (caS ss ps tx st ks t).length r2, .slice r3 ps.length r4] 30)) w2.heap.size w3.heap.size r1 r2 r3 r4 (caS ss ps tx st ks t) ps) := hd3.dr.alloc _
  have B3 : Hid (Bxs (w3.alloc (.cells #[.slice r1 (caS ss ps tx st ks t).length r2, .slice r3 ps.length r4] 30)) [(w3.heap.size, .slice r1 (caS ss ps tx st ks t).length r2, .slice r3 ps.length r4), (w.heap.size, .slice a1 ss.length c1, .slice a2 ps.length c2)]) := (B2.out.keep hb3).new _ _ 30
  have s3 : w.heap.size < w3.heap.size := (B2.out.keep hb3).hd.lt
  have HB3 : Hid (Below w.heap.size w (w3.alloc (.cells #[.slice r1 (caS ss ps tx st ks t).length r2, .slice r3 ps.length r4] 30))) := (HB2.out.trans (hb3.mono HB2.out.size)).alloc (Nat.le_of_lt s3) _
  clear hd3 hb3
  have g0 := B3.out.tl.hd.c0
  have g1 := B3.out.tl.hd.c1
  go_wp2_with fail
  refine (to44 ss ps a1 a2 c1 c2 (by omega) (by omega) _ (HA.out.s.below HB3.out) (HA.out.p.below HB3.out)).mono ?_
  rintro e w4 ⟨x1, x2, x3, x4, rfl, hd4, hb4⟩
  have X4 : Hid (DR (w4.alloc (.cells #[.slice x1 ss.length x2, .slice x3 ps.length x4] 30)) (w3.heap.size + 1) w4.heap.size x1 x2 x3 x4 ss ps) := by
    have h := hd4.dr.alloc (.cells #[.slice x1 ss.length x2, .slice x3 ps.length x4] 30)
    rw [World.size_alloc] at h
    exact h
  have R4 : Hid (DR (w4.alloc (.cells #[.slice x1 ss.length x2, .slice x3 ps.length x4] 30)) w2.heap.size w3.heap.size r1 r2 r3 r4 (caS ss ps tx st ks t) ps) := (R3.out.keep hb4).alloc _
  have B4 : Hid (Bxs (w4.alloc (.cells #[.slice x1 ss.length x2, .slice x3 ps.length x4] 30)) [(w4.heap.size, .slice x1 ss.length x2, .slice x3 ps.length x4), (w3.heap.size, .slice r1 (caS ss ps tx st ks t).length r2, .slice r3 ps.length r4), (w.heap.size, .slice a1 ss.length c1, .slice a2 ps.length c2)]) := (B3.out.keep hb4).new _ _ 30
  have s4 : w3.heap.size < w4.heap.size := (B3.out.keep hb4).hd.lt
  have HB4 : Hid (Below w.heap.size w (w4.alloc (.cells #[.slice x1 ss.length x2, .slice x3 ps.length x4] 30))) := (HB3.out.trans (hb4.mono HB3.out.size)).alloc (by omega) _
  clear hd4 hb4 g0 g1
  go_wp2_with fail
  refine (to45 ks ak ck hkn _ (HKR.out.below HB4.out)).mono ?_
  rintro e wk ⟨j1, j2, rfl, hik, hbk⟩
  have Ik : Hid (IOwn wk (w4.heap.size + 1) (.slice j1 ks.length j2) ks) := by
    have h := hik
    rw [World.size_alloc] at h
    exact h
  have IU : Hid (∀ k, (Value.slice j1 ks.length j2).ownBlock = some k → w4.heap.size + 1 ≤ k ∧ k < wk.heap.size) := World.ownsRow.lt Ik.out
  have X4k : Hid (DR wk (w3.heap.size + 1) w4.heap.size x1 x2 x3 x4 ss ps) := X4.out.keep hbk
  have R4k : Hid (DR wk w2.heap.size w3.heap.size r1 r2 r3 r4 (caS ss ps tx st ks t) ps) := R4.out.keep hbk
  have B4k : Hid (Bxs wk [(w4.heap.size, .slice x1 ss.length x2, .slice x3 ps.length x4), (w3.heap.size, .slice r1 (caS ss ps tx st ks t).length r2, .slice r3 ps.length r4), (w.heap.size, .slice a1 ss.length c1, .slice a2 ps.length c2)]) := B4.out.keep hbk
  have HB4k : Hid (Below w.heap.size w wk) := HB4.out.trans (hbk.mono HB4.out.size)
  have s4k : w4.heap.size + 1 ≤ wk.heap.size := by have := hbk.size; rw [World.size_alloc] at this; exact this
  clear hik hbk X4 R4 B4 HB4
  have k0 := B4k.out.hd.c0
  have k1 := B4k.out.hd.c1
  go_wp2_with fail
  refine (icutA ss ps tx st ks t x1 x3 j1 x2 x4 j2 (by omega) (by omega) HLS2.out HLP2.out (by omega) (by omega) _ (X4k.out.d).s.srow (X4k.out.d).p.prow Ik.out.krow).mono ?_
  rintro e w5 ⟨y1, y2, y3, y4, rfl, hd5, hb5⟩
  have Y5 : Hid (DR (w5.alloc (.cells #[.slice y1 (caS ss ps tx st ks t).length y2, .slice y3 ps.length y4] 30)) wk.heap.size w5.heap.size y1 y2 y3 y4 (caS ss ps tx st ks t) ps) := hd5.dr.alloc _
  have I5 : Hid (IOwn (w5.alloc (.cells #[.slice y1 (caS ss ps tx st ks t).length y2, .slice y3 ps.length y4] 30)) (w4.heap.size + 1) (.slice j1 ks.length j2) ks) := (Ik.out.below hb5).below ((belowRefl w5).alloc (Nat.le_refl _) _)
  have s5k : wk.heap.size ≤ w5.heap.size := hb5.size
  have R5 : Hid (DR (w5.alloc (.cells #[.slice y1 (caS ss ps tx st ks t).length y2, .slice y3 ps.length y4] 30)) w2.heap.size w3.heap.size r1 r2 r3 r4 (caS ss ps tx st ks t) ps) := (R4k.out.keep hb5).alloc _
  have X5 : Hid (DR (w5.alloc (.cells #[.slice y1 (caS ss ps tx st ks t).length y2, .slice y3 ps.length y4] 30)) (w3.heap.size + 1) w4.heap.size x1 x2 x3 x4 ss ps) := (X4k.out.keep hb5).alloc _
  have B5 : Hid (Bxs (w5.alloc (.cells #[.slice y1 (caS ss ps tx st ks t).length y2, .slice y3 ps.length y4] 30)) [(w5.heap.size, .slice y1 (caS ss ps tx st ks t).length y2, .slice y3 ps.length y4), (w4.heap.size, .slice x1 ss.length x2, .slice x3 ps.length x4), (w3.heap.size, .slice r1 (caS ss ps tx st ks t).length r2, .slice r3 ps.length r4), (w.heap.size, .slice a1 ss.length c1, .slice a2 ps.length c2)]) := (B4k.out.keep hb5).new _ _ 30
  have s5 : w4.heap.size < w5.heap.size := (B4k.out.keep hb5).hd.lt
  have HB5 : Hid (Below w.heap.size w (w5.alloc (.cells #[.slice y1 (caS ss ps tx st ks t).length y2, .slice y3 ps.length y4] 30))) := (HB4k.out.trans (hb5.mono HB4k.out.size)).alloc (by omega) _
  clear hd5 hb5 k0 k1 HD2 X4k R3 R4k B2 B3 B4k Ik HI2
  have k0 := B5.out.hd.c0
  have k1 := B5.out.hd.c1
  have k2 := B5.out.tl.tl.hd.c0
  have k3 := B5.out.tl.tl.hd.c1
  go_wp2_with fail
  refine (eq40 y1 y3 r1 r3 y2 y4 r2 r4 (caS ss ps tx st ks t) ps hrs hrp _ Y5.out.d.s.srow Y5.out.d.p.prow R5.out.d.s.srow R5.out.d.p.prow).mono ?_
  rintro e w6 ⟨rfl, hb6⟩
  have Y6 : Hid (DR w6 wk.heap.size w5.heap.size y1 y2 y3 y4 (caS ss ps tx st ks t) ps) := Y5.out.keep hb6
  have R6 : Hid (DR w6 w2.heap.size w3.heap.size r1 r2 r3 r4 (caS ss ps tx st ks t) ps) := R5.out.keep hb6
  have X6 : Hid (DR w6 (w3.heap.size + 1) w4.heap.size x1 x2 x3 x4 ss ps) := X5.out.keep hb6
  have B6 : Hid (Bxs w6 [(w5.heap.size, .slice y1 (caS ss ps tx st ks t).length y2, .slice y3 ps.length y4), (w4.heap.size, .slice x1 ss.length x2, .slice x3 ps.length x4), (w3.heap.size, .slice r1 (caS ss ps tx st ks t).length r2, .slice r3 ps.length r4), (w.heap.size, .slice a1 ss.length c1, .slice a2 ps.length c2)]) := B5.out.keep hb6
  have HB6 : Hid (Below w.heap.size w w6) := HB5.out.trans (hb6.mono HB5.out.size)
  have I6 : Hid (IOwn w6 (w4.heap.size + 1) (.slice j1 ks.length j2) ks) := I5.out.below hb6
  clear hb6 Y5 R5 X5 B5 I5 k0 k1 k2 k3
  have g0 := B6.out.tl.tl.tl.hd.c0
  have g1 := B6.out.tl.tl.tl.hd.c1
  have k0 := B6.out.tl.hd.c0
  have k1 := B6.out.tl.hd.c1
  have z0 := B6.out.tl.tl.tl.hd.lt
  have z1 := B6.out.tl.hd.lt
  have t6 : Hid (Two w.heap.size w4.heap.size (.slice a1 ss.length c1) (.slice a2 ps.length c2) (.slice x1 ss.length x2) (.slice x3 ps.length x4) w6.drew) := ⟨g0, g1, k0, k1⟩
  go_wp2
  go_region_held3 (fun w' => w'.cell? ⟨w.heap.size, 0, none⟩ = some (.slice a1 ss.length c1) ∧ w'.cell? ⟨w.heap.size, 1, none⟩ = some (.slice a2 ps.length c2) ∧ w'.cell? ⟨w4.heap.size, 0, none⟩ = some (.slice x1 ss.length x2) ∧ w'.cell? ⟨w4.heap.size, 1, none⟩ = some (.slice x3 ps.length x4)) (first | go_keep | exact t8.out | exact t7.out) ((first | (go_at_call 7; refine (to44 ss ps a1 a2 c1 c2 (by omega) (by omega) _ (HA.out.s.below HB6.out.drew) (HA.out.p.below HB6.out.drew)).mono ?_; rintro e w7 ⟨q1, q2, q3, q4, rfl, hd7, hb7⟩; have t7 : Hid (Two w.heap.size w4.heap.size (.slice a1 ss.length c1) (.slice a2 ps.length c2) (.slice x1 ss.length x2) (.slice x3 ps.length x4) w7) := Two.keep t6.out hb7 z0 z1) | (go_at_call 10; refine (eq40 x1 x3 q1 q3 x2 x4 q2 q4 ss ps (by omega) (by omega) _ (X6.out.drew.d.s.srow.below hb7) (X6.out.drew.d.p.prow.below hb7) hd7.s.srow hd7.p.prow).mono ?_; rintro e w8 ⟨rfl, hb8⟩; have t8 : Hid (Two w.heap.size w4.heap.size (.slice a1 ss.length c1) (.slice a2 ps.length c2) (.slice x1 ss.length x2) (.slice x3 ps.length x4) w8) := Two.keep t7.out hb8 (Nat.lt_of_lt_of_le z0 hb7.size) (Nat.lt_of_lt_of_le z1 hb7.size))))
  all_goals
    have b78 : Below w6.heap.size w6 w8 := (undrew hb7).trans (hb8.mono hb7.size)
    have Y8 : Hid (DR w8 wk.heap.size w5.heap.size y1 y2 y3 y4 (caS ss ps tx st ks t) ps) := Y6.out.keep b78
    have R8 : Hid (DR w8 w2.heap.size w3.heap.size r1 r2 r3 r4 (caS ss ps tx st ks t) ps) := R6.out.keep b78
    have X8 : Hid (DR w8 (w3.heap.size + 1) w4.heap.size x1 x2 x3 x4 ss ps) := X6.out.keep b78
    have B8 : Hid (Bxs w8 [(w5.heap.size, .slice y1 (caS ss ps tx st ks t).length y2, .slice y3 ps.length y4), (w4.heap.size, .slice x1 ss.length x2, .slice x3 ps.length x4), (w3.heap.size, .slice r1 (caS ss ps tx st ks t).length r2, .slice r3 ps.length r4), (w.heap.size, .slice a1 ss.length c1, .slice a2 ps.length c2)]) := B6.out.keep b78
    have HB8 : Hid (Below w.heap.size w w8) := HB6.out.trans (b78.mono HB6.out.size)
    have I8 : Hid (IOwn w8 (w4.heap.size + 1) (.slice j1 ks.length j2) ks) := I6.out.below b78
    clear hb7 hb8 hd7 b78 t6 t7 t8 Y6 R6 X6 B6 I6 g0 g1 k0 k1 z0 z1
    go_wp2_with fail
    refine (to45 ks ak ck hkn _ (HKR.out.below HB8.out)).mono ?_
    rintro e wm ⟨m1, m2, rfl, him, hbm⟩
    have HIm : Hid (KRow wm m1 ks) := him.krow
    have HJm : Hid (KRow wm j1 ks) := (I8.out.below hbm).krow
    have HBM : Hid (Below w8.heap.size w8 wm) := hbm
    clear him hbm
    go_wp2_with fail
    refine (eq47 j1 m1 j2 m2 ks hkn _ HJm.out HIm.out).mono ?_
    rintro e wn ⟨rfl, hbn⟩
    have bn : Below w8.heap.size w8 wn := HBM.out.trans (hbn.mono HBM.out.size)
    have Yn : Hid (DR wn wk.heap.size w5.heap.size y1 y2 y3 y4 (caS ss ps tx st ks t) ps) := Y8.out.keep bn
    have Rn : Hid (DR wn w2.heap.size w3.heap.size r1 r2 r3 r4 (caS ss ps tx st ks t) ps) := R8.out.keep bn
    have Xn : Hid (DR wn (w3.heap.size + 1) w4.heap.size x1 x2 x3 x4 ss ps) := X8.out.keep bn
    have In : Hid (IOwn wn (w4.heap.size + 1) (.slice j1 ks.length j2) ks) := I8.out.below bn
    have Bn : Hid (Bxs wn [(w5.heap.size, .slice y1 (caS ss ps tx st ks t).length y2, .slice y3 ps.length y4), (w4.heap.size, .slice x1 ss.length x2, .slice x3 ps.length x4), (w3.heap.size, .slice r1 (caS ss ps tx st ks t).length r2, .slice r3 ps.length r4), (w.heap.size, .slice a1 ss.length c1, .slice a2 ps.length c2)]) := B8.out.keep bn
    have HBn : Hid (Below w.heap.size w wn) := HB8.out.trans (bn.mono HB8.out.size)
    clear hbn bn HBM HIm HJm Y8 R8 X8 I8 B8 HB8
    have k0 := Bn.out.tl.hd.c0
    have k1 := Bn.out.tl.hd.c1
    go_wp2_with fail
    refine (mark41 ss.length ps.length 1 x1 x3 x2 x4 (w3.heap.size + 1) _ _ (by omega) (by omega) (by omega) (by omega) _ Xn.out.d.s Xn.out.d.p).mono ?_
    rintro e wp ⟨rfl, _, _, hk9⟩
    have Yp : Hid (DR wp wk.heap.size w5.heap.size y1 y2 y3 y4 (caS ss ps tx st ks t) ps) := Yn.out.kept2 hk9 Xn.out.u1 Xn.out.u2 (Or.inr (by omega))
    have Rp : Hid (DR wp w2.heap.size w3.heap.size r1 r2 r3 r4 (caS ss ps tx st ks t) ps) := Rn.out.kept2 hk9 Xn.out.u1 Xn.out.u2 (Or.inl (by omega))
    have Bp : Hid (Bxs wp [(w5.heap.size, .slice y1 (caS ss ps tx st ks t).length y2, .slice y3 ps.length y4), (w4.heap.size, .slice x1 ss.length x2, .slice x3 ps.length x4), (w3.heap.size, .slice r1 (caS ss ps tx st ks t).length r2, .slice r3 ps.length r4), (w.heap.size, .slice a1 ss.length c1, .slice a2 ps.length c2)]) := Bn.out.kept2 hk9 (w3.heap.size + 1) w4.heap.size Xn.out.u1 Xn.out.u2 (fun q hq => by
      simp only [List.mem_cons, List.not_mem_nil, or_false] at hq
      rcases hq with rfl | rfl | rfl | rfl <;> simp <;> omega)
    have HBp : Hid (Below w.heap.size w wp) := HBn.out.trans (hk9.below _ HBn.out.size (fun k hk => by have := Xn.out.u1 k hk; omega) (fun k hk => by have := Xn.out.u2 k hk; omega))
    have Ip : Hid (IOwn wp (w4.heap.size + 1) (.slice j1 ks.length j2) ks) := own_block In.out (fun k hk => hk9.block k (World.ownsRow.lt In.out k hk).2 (fun e => by have := Xn.out.u1 _ e.symm; have := IU.out k hk; omega) (fun e => by have := Xn.out.u2 _ e.symm; have := IU.out k hk; omega))
    clear hk9 Yn Rn Bn k0 k1 Xn In HBn
    go_wp2_with fail
    refine (mark48 ks.length (1 + ss.length + 2 * ps.length) j1 j2 (w4.heap.size + 1) _ hkn (by omega) _ Ip.out).mono ?_
    rintro e w9 ⟨rfl, hkI⟩
    have Y9 : Hid (DR w9 wk.heap.size w5.heap.size y1 y2 y3 y4 (caS ss ps tx st ks t) ps) := Yp.out.kept2 hkI IU.out IU.out (Or.inr (by omega))
    have R9 : Hid (DR w9 w2.heap.size w3.heap.size r1 r2 r3 r4 (caS ss ps tx st ks t) ps) := Rp.out.kept2 hkI IU.out IU.out (Or.inl (by omega))
    have B9 : Hid (Bxs w9 [(w5.heap.size, .slice y1 (caS ss ps tx st ks t).length y2, .slice y3 ps.length y4), (w4.heap.size, .slice x1 ss.length x2, .slice x3 ps.length x4), (w3.heap.size, .slice r1 (caS ss ps tx st ks t).length r2, .slice r3 ps.length r4), (w.heap.size, .slice a1 ss.length c1, .slice a2 ps.length c2)]) := Bp.out.kept2 hkI (w4.heap.size + 1) wk.heap.size IU.out IU.out (fun q hq => by
      simp only [List.mem_cons, List.not_mem_nil, or_false] at hq
      rcases hq with rfl | rfl | rfl | rfl <;> simp <;> omega)
    have HB9 : Hid (Below w.heap.size w w9) := HBp.out.trans (hkI.below _ HBp.out.size (fun k hk => by have := IU.out k hk; omega) (fun k hk => by have := IU.out k hk; omega))
    clear hkI Yp Rp Bp HBp Ip
    have hnn : ¬ ((1 + ss.length + 2 * ps.length + ks.length : Nat) : Int) < 0 := by omega
    have k0 := B9.out.hd.c0
    have k1 := B9.out.hd.c1
    have k2 := B9.out.tl.tl.hd.c0
    have k3 := B9.out.tl.tl.hd.c1
    go_wp2_with fail
    refine (eq40 y1 y3 r1 r3 y2 y4 r2 r4 (caS ss ps tx st ks t) ps hrs hrp _ Y9.out.d.s.srow Y9.out.d.p.prow R9.out.d.s.srow R9.out.d.p.prow).mono ?_
    rintro e w10 ⟨rfl, hb10⟩
    have Y10 : Hid (DR w10 wk.heap.size w5.heap.size y1 y2 y3 y4 (caS ss ps tx st ks t) ps) := Y9.out.keep hb10
    have R10 : Hid (DR w10 w2.heap.size w3.heap.size r1 r2 r3 r4 (caS ss ps tx st ks t) ps) := R9.out.keep hb10
    have B10 : Hid (Bxs w10 [(w5.heap.size, .slice y1 (caS ss ps tx st ks t).length y2, .slice y3 ps.length y4), (w4.heap.size, .slice x1 ss.length x2, .slice x3 ps.length x4), (w3.heap.size, .slice r1 (caS ss ps tx st ks t).length r2, .slice r3 ps.length r4), (w.heap.size, .slice a1 ss.length c1, .slice a2 ps.length c2)]) := B9.out.keep hb10
    have HB10 : Hid (Below w.heap.size w w10) := HB9.out.trans (hb10.mono HB9.out.size)
    clear hb10 Y9 R9 B9 k0 k1 k2 k3 hnn
    have k0 := B10.out.hd.c0
    have k1 := B10.out.hd.c1
    go_wp2_with fail
    refine (mark41 (caS ss ps tx st ks t).length ps.length 1 y1 y3 y2 y4 wk.heap.size _ _ hrs hrp (by omega) (by omega) _ Y10.out.d.s Y10.out.d.p).mono ?_
    rintro e w11 ⟨rfl, hs11, hp11, hk11⟩
    have HS11 : Hid (SRow w11 y1 (marks 1 (caS ss ps tx st ks t).length)) := by
      have h := hs11
      rw [show Value.slice y1 (caS ss ps tx st ks t).length y2 = .slice y1 (marks 1 (caS ss ps tx st ks t).length).length y2 by rw [marks_len]] at h
      exact h.srow
    have HP11 : Hid (PRow w11 y3 (pmarks (1 + (caS ss ps tx st ks t).length) ps.length)) := by
      have h := hp11
      rw [show Value.slice y3 ps.length y4 = .slice y3 (pmarks (1 + (caS ss ps tx st ks t).length) ps.length).length y4 by rw [pmarks_len]] at h
      exact h.prow
    have R11 : Hid (DR w11 w2.heap.size w3.heap.size r1 r2 r3 r4 (caS ss ps tx st ks t) ps) := R10.out.kept2 hk11 Y10.out.u1 Y10.out.u2 (Or.inl (by omega))
    have B11 : Hid (Bxs w11 [(w5.heap.size, .slice y1 (caS ss ps tx st ks t).length y2, .slice y3 ps.length y4), (w4.heap.size, .slice x1 ss.length x2, .slice x3 ps.length x4), (w3.heap.size, .slice r1 (caS ss ps tx st ks t).length r2, .slice r3 ps.length r4), (w.heap.size, .slice a1 ss.length c1, .slice a2 ps.length c2)]) := B10.out.kept2 hk11 wk.heap.size w5.heap.size Y10.out.u1 Y10.out.u2 (fun q hq => by
      simp only [List.mem_cons, List.not_mem_nil, or_false] at hq
      rcases hq with rfl | rfl | rfl | rfl <;> simp <;> omega)
    have HB11 : Hid (Below w.heap.size w w11) := HB10.out.trans (hk11.below _ HB10.out.size (fun k hk => by have := Y10.out.u1 k hk; omega) (fun k hk => by have := Y10.out.u2 k hk; omega))
    clear hk11 hs11 hp11 Y10 R10 B10 k0 k1
    have k0 := B11.out.hd.c0
    have k1 := B11.out.hd.c1
    go_wp2_with fail
    refine (held42 (caS ss ps tx st ks t).length ps.length 1 y1 y3 y2 y4 hrs hrp (by omega) (by omega) _ HS11.out HP11.out).mono ?_
    rintro e w12 ⟨rfl, hb12⟩
    have HS12 : Hid (SRow w12 y1 (marks 1 (caS ss ps tx st ks t).length)) := HS11.out.below hb12
    have HP12 : Hid (PRow w12 y3 (pmarks (1 + (caS ss ps tx st ks t).length) ps.length)) := HP11.out.below hb12
    have R12 : Hid (DR w12 w2.heap.size w3.heap.size r1 r2 r3 r4 (caS ss ps tx st ks t) ps) := R11.out.keep hb12
    have B12 : Hid (Bxs w12 [(w5.heap.size, .slice y1 (caS ss ps tx st ks t).length y2, .slice y3 ps.length y4), (w4.heap.size, .slice x1 ss.length x2, .slice x3 ps.length x4), (w3.heap.size, .slice r1 (caS ss ps tx st ks t).length r2, .slice r3 ps.length r4), (w.heap.size, .slice a1 ss.length c1, .slice a2 ps.length c2)]) := B11.out.keep hb12
    have HB12 : Hid (Below w.heap.size w w12) := HB11.out.trans (hb12.mono HB11.out.size)
    clear hb12 HS11 HP11 R11 B11 k0 k1
    have hnn : ¬ ((1 + (caS ss ps tx st ks t).length + 2 * ps.length : Nat) : Int) < 0 := by omega
    have g0 := B12.out.tl.tl.tl.hd.c0
    have g1 := B12.out.tl.tl.tl.hd.c1
    go_wp2_with fail
    refine (to44 ss ps a1 a2 c1 c2 (by omega) (by omega) _ (HA.out.s.below HB12.out) (HA.out.p.below HB12.out)).mono ?_
    rintro e w13 ⟨o1, o2, o3, o4, rfl, hd13, hb13⟩
    have HD13 : Hid (DOwn w13 w12.heap.size o1 o2 o3 o4 ss ps) := hd13
    have HS13 : Hid (SRow w13 y1 (marks 1 (caS ss ps tx st ks t).length)) := HS12.out.below hb13
    have HP13 : Hid (PRow w13 y3 (pmarks (1 + (caS ss ps tx st ks t).length) ps.length)) := HP12.out.below hb13
    have R13 : Hid (DR w13 w2.heap.size w3.heap.size r1 r2 r3 r4 (caS ss ps tx st ks t) ps) := R12.out.keep hb13
    have B13 : Hid (Bxs w13 [(w5.heap.size, .slice y1 (caS ss ps tx st ks t).length y2, .slice y3 ps.length y4), (w4.heap.size, .slice x1 ss.length x2, .slice x3 ps.length x4), (w3.heap.size, .slice r1 (caS ss ps tx st ks t).length r2, .slice r3 ps.length r4), (w.heap.size, .slice a1 ss.length c1, .slice a2 ps.length c2)]) := B12.out.keep hb13
    have HB13 : Hid (Below w.heap.size w w13) := HB12.out.trans (hb13.mono HB12.out.size)
    clear hd13 hb13 HS12 HP12 R12 B12 g0 g1
    go_wp2_with fail
    refine (to45 ks ak ck hkn _ (HKR.out.below HB13.out)).mono ?_
    rintro e wo ⟨o5, o6, rfl, hio, hbo⟩
    have HIo : Hid (KRow wo o5 ks) := hio.krow
    have HDo : Hid (DOwn wo w12.heap.size o1 o2 o3 o4 ss ps) := HD13.out.below hbo
    have HSo : Hid (SRow wo y1 (marks 1 (caS ss ps tx st ks t).length)) := HS13.out.below hbo
    have HPo : Hid (PRow wo y3 (pmarks (1 + (caS ss ps tx st ks t).length) ps.length)) := HP13.out.below hbo
    have Ro : Hid (DR wo w2.heap.size w3.heap.size r1 r2 r3 r4 (caS ss ps tx st ks t) ps) := R13.out.keep hbo
    have Bo : Hid (Bxs wo [(w5.heap.size, .slice y1 (caS ss ps tx st ks t).length y2, .slice y3 ps.length y4), (w4.heap.size, .slice x1 ss.length x2, .slice x3 ps.length x4), (w3.heap.size, .slice r1 (caS ss ps tx st ks t).length r2, .slice r3 ps.length r4), (w.heap.size, .slice a1 ss.length c1, .slice a2 ps.length c2)]) := B13.out.keep hbo
    have HBo : Hid (Below w.heap.size w wo) := HB13.out.trans (hbo.mono HB13.out.size)
    clear hio hbo HD13 HS13 HP13 R13 B13 HB13
    go_wp2_with fail
    refine (icutA ss ps tx st ks t o1 o3 o5 o2 o4 o6 (by omega) (by omega) HLS2.out HLP2.out (by omega) (by omega) _ (HDo.out).s.srow (HDo.out).p.prow HIo.out).mono ?_
    rintro e w14 ⟨n1, n2, n3, n4, rfl, hd14, hb14⟩
    have N14 : Hid (DOwn (w14.alloc (.cells #[.slice n1 (caS ss ps tx st ks t).length n2, .slice n3 ps.length n4] 30)) wo.heap.size n1 n2 n3 n4 (caS ss ps tx st ks t) ps) := hd14.below ((belowRefl w14).alloc (Nat.le_refl _) _)
    have b14 : Below wo.heap.size wo (w14.alloc (.cells #[.slice n1 (caS ss ps tx st ks t).length n2, .slice n3 ps.length n4] 30)) := hb14.alloc hb14.size _
    have HS14 : Hid (SRow (w14.alloc (.cells #[.slice n1 (caS ss ps tx st ks t).length n2, .slice n3 ps.length n4] 30)) y1 (marks 1 (caS ss ps tx st ks t).length)) := HSo.out.below b14
    have HP14 : Hid (PRow (w14.alloc (.cells #[.slice n1 (caS ss ps tx st ks t).length n2, .slice n3 ps.length n4] 30)) y3 (pmarks (1 + (caS ss ps tx st ks t).length) ps.length)) := HPo.out.below b14
    have R14 : Hid (DR (w14.alloc (.cells #[.slice n1 (caS ss ps tx st ks t).length n2, .slice n3 ps.length n4] 30)) w2.heap.size w3.heap.size r1 r2 r3 r4 (caS ss ps tx st ks t) ps) := Ro.out.keep b14
    have B14 : Hid (Bxs (w14.alloc (.cells #[.slice n1 (caS ss ps tx st ks t).length n2, .slice n3 ps.length n4] 30)) [(w14.heap.size, .slice n1 (caS ss ps tx st ks t).length n2, .slice n3 ps.length n4), (w5.heap.size, .slice y1 (caS ss ps tx st ks t).length y2, .slice y3 ps.length y4), (w4.heap.size, .slice x1 ss.length x2, .slice x3 ps.length x4), (w3.heap.size, .slice r1 (caS ss ps tx st ks t).length r2, .slice r3 ps.length r4), (w.heap.size, .slice a1 ss.length c1, .slice a2 ps.length c2)]) := (Bo.out.keep hb14).new _ _ 30
    have HB14 : Hid (Below w.heap.size w (w14.alloc (.cells #[.slice n1 (caS ss ps tx st ks t).length n2, .slice n3 ps.length n4] 30))) := HBo.out.trans (b14.mono HBo.out.size)
    clear hd14 hb14 b14 HSo HPo Ro Bo HDo HBo HIo
    have k0 := B14.out.hd.c0
    have k1 := B14.out.hd.c1
    have k2 := B14.out.tl.tl.tl.hd.c0
    have k3 := B14.out.tl.tl.tl.hd.c1
    go_wp2_with fail
    refine (eq40 n1 n3 r1 r3 n2 n4 r2 r4 (caS ss ps tx st ks t) ps hrs hrp _ N14.out.s.srow N14.out.p.prow R14.out.d.s.srow R14.out.d.p.prow).mono ?_
    rintro e w15 ⟨rfl, hb15⟩
    have HS15 : Hid (SRow w15 y1 (marks 1 (caS ss ps tx st ks t).length)) := HS14.out.below hb15
    have HP15 : Hid (PRow w15 y3 (pmarks (1 + (caS ss ps tx st ks t).length) ps.length)) := HP14.out.below hb15
    have B15 : Hid (Bxs w15 [(w14.heap.size, .slice n1 (caS ss ps tx st ks t).length n2, .slice n3 ps.length n4), (w5.heap.size, .slice y1 (caS ss ps tx st ks t).length y2, .slice y3 ps.length y4), (w4.heap.size, .slice x1 ss.length x2, .slice x3 ps.length x4), (w3.heap.size, .slice r1 (caS ss ps tx st ks t).length r2, .slice r3 ps.length r4), (w.heap.size, .slice a1 ss.length c1, .slice a2 ps.length c2)]) := B14.out.keep hb15
    have HB15 : Hid (Below w.heap.size w w15) := HB14.out.trans (hb15.mono HB14.out.size)
    clear hb15 HS14 HP14 R14 B14 N14 k0 k1 k2 k3
    have k0 := B15.out.tl.hd.c0
    have k1 := B15.out.tl.hd.c1
    go_wp2_with fail
    refine (held42 (caS ss ps tx st ks t).length ps.length 1 y1 y3 y2 y4 hrs hrp (by omega) (by omega) _ HS15.out HP15.out).mono ?_
    rintro e w16 ⟨rfl, hb16⟩
    have HB16 : Hid (Below w.heap.size w w16) := HB15.out.trans (hb16.mono HB15.out.size)
    clear hb16
    go_wp2
    go_ret
    exact ⟨rfl, HB16.out⟩
end Go.Proofs.Ytnfkfhpmhhmbaaa
