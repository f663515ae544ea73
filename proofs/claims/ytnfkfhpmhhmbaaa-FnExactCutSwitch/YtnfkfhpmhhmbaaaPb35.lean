/- The law FnExactCutSwitch, walked. -/
import Derived.Test.YtnfkfhpmhhmbaaaPb08
import Derived.Test.YtnfkfhpmhhmbaaaPb33
import Derived.Test.YtnfkfhpmhhmbaaaPb34
namespace Go.Proofs.Ytnfkfhpmhhmbaaa
open Go.RowKit
open DM
attribute [local go_sem ↓] Go.wp_at_zero Go.wp_at_succ

theorem csS_len (ss : List ByteArray) (ps : List Wr) (ts : List ByteArray) (st : Int) (ks : List Int) (tr : Int) : (csS ss ps ts st ks tr).length = ss.length := by
  have hf : (fillO (1 - act ss ps) (zrS ss (1 - act ss ps)) ts).1.length = ss.length := by rw [fillO_len]; exact flS_len _ _
  unfold csS
  split
  · split
    · exact crS_len _ _ _ _
    · split
      · exact hf
      · split
        · rw [crS_len]; exact hf
        · exact swS_len _ _ _
  · rfl

set_option maxRecDepth 100000 in
set_option maxHeartbeats 8000000 in
theorem law4 (ss : List ByteArray) (ps : List Wr) (a1 a2 : Option Addr) (c1 c2 : Nat) (ts : List ByteArray) (ak : Option Addr) (ck : Nat) (st : Int) (ks : List Int) (kk : Option Addr) (kc : Nat) (tr : Int) (w : World) (ha : Arg w a1 a2 ss ps) (hkm : ts.length ≤ 9223372036854775807) (hkl : ∀ t ∈ ts, t.size ≤ 9223372036854775807) (hkr : SRow w ak ts) (hqm : ks.length ≤ 9223372036854775807) (hqr : KRow w kk ks) :
    Calls Try.prog 4 #[.agg #[.slice a1 ss.length c1, .slice a2 ps.length c2], .slice ak ts.length ck, .int .i64 st, .slice kk ks.length kc, .int .i64 tr] w fun e w' => e = .returned (.bool true) ∧ Below w.heap.size w w' := by
  have HA : Hid (Arg w a1 a2 ss ps) := ha
  clear ha
  have HKR : Hid (SRow w ak ts) := hkr
  clear hkr
  have HKL : Hid (∀ t ∈ ts, t.size ≤ 9223372036854775807) := hkl
  clear hkl
  have HKK : Hid (KRow w kk ks) := hqr
  clear hqr
  by_cases hbig : 1048576 < ks.length
  · have hbig' : (1048576 : Int) < (ks.length : Int) := by omega
    go_enter Try.func4, Try.ntmps4
    go_wp2
    go_ret
    exact ⟨rfl, (belowRefl w).alloc (Nat.le_refl _) _⟩
  have hbig' : ¬ (1048576 : Int) < (ks.length : Int) := by omega
  have hqn : ks.length ≤ 100000000 := by omega
  go_enter Try.func4, Try.ntmps4
  go_wp2_with fail
  have b0 : Below w.heap.size w (w.alloc (.cells #[.slice a1 ss.length c1, .slice a2 ps.length c2] 25)) := (belowRefl w).alloc (Nat.le_refl _) _
  refine (sz43b ss ps a1 a2 c1 c2 HA.out.n HA.out.l HA.out.m HA.out.lp _ (HA.out.s.below b0) (HA.out.p.below b0)).mono ?_
  rintro e w1 ⟨hb1, r, rfl, hrb, hr⟩
  have B1 : Hid (Bxs w1 [(w.heap.size, .slice a1 ss.length c1, .slice a2 ps.length c2)]) := ((Bxs.nil w).new (.slice a1 ss.length c1) (.slice a2 ps.length c2) 25).keep hb1
  have HB1 : Hid (Below w.heap.size w w1) := b0.trans (hb1.mono b0.size)
  have s1 : w.heap.size < w1.heap.size := B1.out.hd.lt
  clear b0 hb1
  by_cases hneg : r < 0
  · clear hr
    go_wp2
    go_ret
    exact ⟨rfl, HB1.out⟩
  have hneg' : ¬ r < 0 := hneg
  have HF : Hid (Fits ss ps) := hr (by omega)
  have hn : ss.length ≤ 1048576 := HF.out.1
  have hm : ps.length ≤ 1048576 := HF.out.2.1
  have HLS : Hid (∀ s ∈ ss, s.size ≤ 1000000000) := fun s h => Nat.le_trans (HF.out.2.2.1 s h) (by omega)
  have HLP : Hid (∀ p ∈ ps, p.2.size ≤ 1000000000) := fun p h => Nat.le_trans (HF.out.2.2.2 p h) (by omega)
  clear hr
  go_wp2_with fail
  refine (sz78 ts ak ck hkm HKL.out r (by omega) hrb _ (HKR.out.below HB1.out)).mono ?_
  rintro e w1 ⟨rfl, r2, rfl, _, hr2⟩
  by_cases hneg2 : r2 < 0
  · clear hr2
    go_wp2
    go_ret
    exact ⟨rfl, HB1.out⟩
  have hneg2' : ¬ r2 < 0 := hneg2
  have hts2 := hr2 (by omega)
  have htn : ts.length ≤ 1048576 := by omega
  have HTS : Hid (∀ t ∈ ts, t.size ≤ 1048576) := hts2.2
  have hkn : ts.length ≤ 100000000 := by omega
  have HLS2 : Hid (∀ s ∈ ss, s.size ≤ 1048576) := HF.out.2.2.1
  have HLP2 : Hid (∀ p ∈ ps, p.2.size ≤ 1048576) := HF.out.2.2.2
  have hrs : (csS ss ps ts st ks tr).length ≤ 100000000 := by rw [csS_len]; omega
  have hrp : ps.length ≤ 100000000 := by omega
  clear hr2 hts2
  have g0 := B1.out.hd.c0
  have g1 := B1.out.hd.c1
  go_wp2_with fail
  refine (to44 ss ps a1 a2 c1 c2 (by omega) (by omega) _ (HA.out.s.below HB1.out) (HA.out.p.below HB1.out)).mono ?_
  rintro e wa ⟨p1, p2, p3, p4, rfl, hda, hba⟩
  have HDa : Hid (DOwn wa w1.heap.size p1 p2 p3 p4 ss ps) := hda
  have Ba : Hid (Bxs wa [(w.heap.size, .slice a1 ss.length c1, .slice a2 ps.length c2)]) := B1.out.keep hba
  have HBa : Hid (Below w.heap.size w wa) := HB1.out.trans (hba.mono HB1.out.size)
  clear hda hba g0 g1
  go_wp2_with fail
  refine (to80 ts ak ck hkn _ (HKR.out.below HBa.out)).mono ?_
  rintro e wb ⟨i1, i2, rfl, hib, hbb⟩
  have HIb : Hid (SRow wb i1 ts) := hib.srow
  have HDb : Hid (DOwn wb w1.heap.size p1 p2 p3 p4 ss ps) := HDa.out.below hbb
  have Bb : Hid (Bxs wb [(w.heap.size, .slice a1 ss.length c1, .slice a2 ps.length c2)]) := Ba.out.keep hbb
  have HBb : Hid (Below w.heap.size w wb) := HBa.out.trans (hbb.mono HBa.out.size)
  clear hib hbb HDa Ba HBa
  go_wp2_with fail
  refine (to45 ks kk kc hqn _ (HKK.out.below HBb.out)).mono ?_
  rintro e w2 ⟨q1, q2, rfl, hq2, hb2⟩
  have HQ2 : Hid (KRow w2 q1 ks) := hq2.krow
  have HI2 : Hid (SRow w2 i1 ts) := HIb.out.below hb2
  have HD2 : Hid (DOwn w2 w1.heap.size p1 p2 p3 p4 ss ps) := HDb.out.below hb2
  have B2 : Hid (Bxs w2 [(w.heap.size, .slice a1 ss.length c1, .slice a2 ps.length c2)]) := Bb.out.keep hb2
  have HB2 : Hid (Below w.heap.size w w2) := HBb.out.trans (hb2.mono HBb.out.size)
  have s2 : w.heap.size < w2.heap.size := B2.out.hd.lt
  clear hq2 hb2 HIb HDb Bb HBb
  go_wp2_with fail
  refine (scutS ss ps ts st ks tr p1 p3 i1 q1 p2 p4 i2 q2 _ (by omega) (by omega) HLS2.out HLP2.out htn HTS.out (by omega) _ HD2.out HI2.out HQ2.out).mono ?_
  rintro e w3 ⟨r1, r2, r3, r4, rfl, hd3, hb3⟩
  have R3 : Hid (DR (w3.alloc (.cells #[.slice r1 (csS ss ps ts st ks tr).length r2, .slice r3 ps.length r4] 30)) w2.heap.size w3.heap.size r1 r2 r3 r4 (csS ss ps ts st ks tr) ps) := hd3.dr.alloc _
  have B3 : Hid (Bxs (w3.alloc (.cells #[.slice r1 (csS ss ps ts st ks tr).length r2, .slice r3 ps.length r4] 30)) [(w3.heap.size, .slice r1 (csS ss ps ts st ks tr).length r2, .slice r3 ps.length r4), (w.heap.size, .slice a1 ss.length c1, .slice a2 ps.length c2)]) := (B2.out.keep hb3).new _ _ 30
  have s3 : w.heap.size < w3.heap.size := (B2.out.keep hb3).hd.lt
  have HB3 : Hid (Below w.heap.size w (w3.alloc (.cells #[.slice r1 (csS ss ps ts st ks tr).length r2, .slice r3 ps.length r4] 30))) := (HB2.out.trans (hb3.mono HB2.out.size)).alloc (Nat.le_of_lt s3) _
  clear hd3 hb3
  have g0 := B3.out.tl.hd.c0
  have g1 := B3.out.tl.hd.c1
  go_wp2_with fail
  refine (to44 ss ps a1 a2 c1 c2 (by omega) (by omega) _ (HA.out.s.below HB3.out) (HA.out.p.below HB3.out)).mono ?_
  rintro e w4 ⟨x1, x2, x3, x4, rfl, hd4, hb4⟩
  have X4 : Hid (DR (w4.alloc (.cells #[.slice x1 ss.length x2, .slice x3 ps.length x4] 30)) (w3.heap.size + 1) w4.heap.size x1 x2 x3 x4 ss ps) := by
    have h := hd4.dr.alloc (.cells #[.slice x1 ss.length x2, .slice x3 ps.length x4] 30)
    rw [World.size_alloc] at h
    exact h
  have R4 : Hid (DR (w4.alloc (.cells #[.slice x1 ss.length x2, .slice x3 ps.length x4] 30)) w2.heap.size w3.heap.size r1 r2 r3 r4 (csS ss ps ts st ks tr) ps) := (R3.out.keep hb4).alloc _
  have B4 : Hid (Bxs (w4.alloc (.cells #[.slice x1 ss.length x2, .slice x3 ps.length x4] 30)) [(w4.heap.size, .slice x1 ss.length x2, .slice x3 ps.length x4), (w3.heap.size, .slice r1 (csS ss ps ts st ks tr).length r2, .slice r3 ps.length r4), (w.heap.size, .slice a1 ss.length c1, .slice a2 ps.length c2)]) := (B3.out.keep hb4).new _ _ 30
  have s4 : w3.heap.size < w4.heap.size := (B3.out.keep hb4).hd.lt
  have HB4 : Hid (Below w.heap.size w (w4.alloc (.cells #[.slice x1 ss.length x2, .slice x3 ps.length x4] 30))) := (HB3.out.trans (hb4.mono HB3.out.size)).alloc (by omega) _
  clear hd4 hb4 g0 g1
  go_wp2_with fail
  refine (to80 ts ak ck hkn _ (HKR.out.below HB4.out)).mono ?_
  rintro e wk ⟨j1, j2, rfl, hik, hbk⟩
  have Ik : Hid (SOwn wk (w4.heap.size + 1) (.slice j1 ts.length j2) ts) := by
    have h := hik
    rw [World.size_alloc] at h
    exact h
  have IU : Hid (∀ k, (Value.slice j1 ts.length j2).ownBlock = some k → w4.heap.size + 1 ≤ k ∧ k < wk.heap.size) := World.ownsRow.lt Ik.out
  have X4k : Hid (DR wk (w3.heap.size + 1) w4.heap.size x1 x2 x3 x4 ss ps) := X4.out.keep hbk
  have R4k : Hid (DR wk w2.heap.size w3.heap.size r1 r2 r3 r4 (csS ss ps ts st ks tr) ps) := R4.out.keep hbk
  have B4k : Hid (Bxs wk [(w4.heap.size, .slice x1 ss.length x2, .slice x3 ps.length x4), (w3.heap.size, .slice r1 (csS ss ps ts st ks tr).length r2, .slice r3 ps.length r4), (w.heap.size, .slice a1 ss.length c1, .slice a2 ps.length c2)]) := B4.out.keep hbk
  have HB4k : Hid (Below w.heap.size w wk) := HB4.out.trans (hbk.mono HB4.out.size)
  have s4k : w4.heap.size + 1 ≤ wk.heap.size := by have := hbk.size; rw [World.size_alloc] at this; exact this
  clear hik hbk X4 R4 B4 HB4
  go_wp2_with fail
  refine (to45 ks kk kc hqn _ (HKK.out.below HB4k.out)).mono ?_
  rintro e wz ⟨h1, h2, rfl, hiz, hbz⟩
  have Kz : Hid (IOwn wz wk.heap.size (.slice h1 ks.length h2) ks) := hiz
  have KU : Hid (∀ k, (Value.slice h1 ks.length h2).ownBlock = some k → wk.heap.size ≤ k ∧ k < wz.heap.size) := World.ownsRow.lt Kz.out
  replace X4k : Hid (DR wz (w3.heap.size + 1) w4.heap.size x1 x2 x3 x4 ss ps) := X4k.out.keep hbz
  replace R4k : Hid (DR wz w2.heap.size w3.heap.size r1 r2 r3 r4 (csS ss ps ts st ks tr) ps) := R4k.out.keep hbz
  replace B4k : Hid (Bxs wz [(w4.heap.size, .slice x1 ss.length x2, .slice x3 ps.length x4), (w3.heap.size, .slice r1 (csS ss ps ts st ks tr).length r2, .slice r3 ps.length r4), (w.heap.size, .slice a1 ss.length c1, .slice a2 ps.length c2)]) := B4k.out.keep hbz
  replace HB4k : Hid (Below w.heap.size w wz) := HB4k.out.trans (hbz.mono HB4k.out.size)
  replace Ik : Hid (SOwn wz (w4.heap.size + 1) (.slice j1 ts.length j2) ts) := Ik.out.below hbz
  have s4z : wk.heap.size ≤ wz.heap.size := hbz.size
  clear hiz hbz
  have k0 := B4k.out.hd.c0
  have k1 := B4k.out.hd.c1
  go_wp2_with fail
  refine (icutS ss ps ts st ks tr x1 x3 j1 h1 x2 x4 j2 h2 (by omega) (by omega) HLS2.out HLP2.out htn HTS.out (by omega) _ (X4k.out.d).s.srow (X4k.out.d).p.prow Ik.out.srow Kz.out.krow).mono ?_
  rintro e w5 ⟨y1, y2, y3, y4, rfl, hd5, hb5⟩
  have Y5 : Hid (DR (w5.alloc (.cells #[.slice y1 (csS ss ps ts st ks tr).length y2, .slice y3 ps.length y4] 30)) wz.heap.size w5.heap.size y1 y2 y3 y4 (csS ss ps ts st ks tr) ps) := hd5.dr.alloc _
  have I5 : Hid (SOwn (w5.alloc (.cells #[.slice y1 (csS ss ps ts st ks tr).length y2, .slice y3 ps.length y4] 30)) (w4.heap.size + 1) (.slice j1 ts.length j2) ts) := (Ik.out.below hb5).below ((belowRefl w5).alloc (Nat.le_refl _) _)
  have K5 : Hid (IOwn (w5.alloc (.cells #[.slice y1 (csS ss ps ts st ks tr).length y2, .slice y3 ps.length y4] 30)) wk.heap.size (.slice h1 ks.length h2) ks) := (Kz.out.below hb5).below ((belowRefl w5).alloc (Nat.le_refl _) _)
  have s5k : wz.heap.size ≤ w5.heap.size := hb5.size
  have R5 : Hid (DR (w5.alloc (.cells #[.slice y1 (csS ss ps ts st ks tr).length y2, .slice y3 ps.length y4] 30)) w2.heap.size w3.heap.size r1 r2 r3 r4 (csS ss ps ts st ks tr) ps) := (R4k.out.keep hb5).alloc _
  have X5 : Hid (DR (w5.alloc (.cells #[.slice y1 (csS ss ps ts st ks tr).length y2, .slice y3 ps.length y4] 30)) (w3.heap.size + 1) w4.heap.size x1 x2 x3 x4 ss ps) := (X4k.out.keep hb5).alloc _
  have B5 : Hid (Bxs (w5.alloc (.cells #[.slice y1 (csS ss ps ts st ks tr).length y2, .slice y3 ps.length y4] 30)) [(w5.heap.size, .slice y1 (csS ss ps ts st ks tr).length y2, .slice y3 ps.length y4), (w4.heap.size, .slice x1 ss.length x2, .slice x3 ps.length x4), (w3.heap.size, .slice r1 (csS ss ps ts st ks tr).length r2, .slice r3 ps.length r4), (w.heap.size, .slice a1 ss.length c1, .slice a2 ps.length c2)]) := (B4k.out.keep hb5).new _ _ 30
  have s5 : w4.heap.size < w5.heap.size := (B4k.out.keep hb5).hd.lt
  have HB5 : Hid (Below w.heap.size w (w5.alloc (.cells #[.slice y1 (csS ss ps ts st ks tr).length y2, .slice y3 ps.length y4] 30))) := (HB4k.out.trans (hb5.mono HB4k.out.size)).alloc (by omega) _
  clear hd5 hb5 k0 k1 HD2 X4k R3 R4k B2 B3 B4k Ik HI2 Kz HQ2
  have k0 := B5.out.hd.c0
  have k1 := B5.out.hd.c1
  have k2 := B5.out.tl.tl.hd.c0
  have k3 := B5.out.tl.tl.hd.c1
  go_wp2_with fail
  refine (eq40 y1 y3 r1 r3 y2 y4 r2 r4 (csS ss ps ts st ks tr) ps hrs hrp _ Y5.out.d.s.srow Y5.out.d.p.prow R5.out.d.s.srow R5.out.d.p.prow).mono ?_
  rintro e w6 ⟨rfl, hb6⟩
  have Y6 : Hid (DR w6 wz.heap.size w5.heap.size y1 y2 y3 y4 (csS ss ps ts st ks tr) ps) := Y5.out.keep hb6
  have R6 : Hid (DR w6 w2.heap.size w3.heap.size r1 r2 r3 r4 (csS ss ps ts st ks tr) ps) := R5.out.keep hb6
  have X6 : Hid (DR w6 (w3.heap.size + 1) w4.heap.size x1 x2 x3 x4 ss ps) := X5.out.keep hb6
  have B6 : Hid (Bxs w6 [(w5.heap.size, .slice y1 (csS ss ps ts st ks tr).length y2, .slice y3 ps.length y4), (w4.heap.size, .slice x1 ss.length x2, .slice x3 ps.length x4), (w3.heap.size, .slice r1 (csS ss ps ts st ks tr).length r2, .slice r3 ps.length r4), (w.heap.size, .slice a1 ss.length c1, .slice a2 ps.length c2)]) := B5.out.keep hb6
  have HB6 : Hid (Below w.heap.size w w6) := HB5.out.trans (hb6.mono HB5.out.size)
  have I6 : Hid (SOwn w6 (w4.heap.size + 1) (.slice j1 ts.length j2) ts) := I5.out.below hb6
  have K6 : Hid (IOwn w6 wk.heap.size (.slice h1 ks.length h2) ks) := K5.out.below hb6
  clear hb6 Y5 R5 X5 B5 I5 K5 k0 k1 k2 k3
  have g0 := B6.out.tl.tl.tl.hd.c0
  have g1 := B6.out.tl.tl.tl.hd.c1
  have k0 := B6.out.tl.hd.c0
  have k1 := B6.out.tl.hd.c1
  have z0 := B6.out.tl.tl.tl.hd.lt
  have z1 := B6.out.tl.hd.lt
  have t6 : Hid (Two w.heap.size w4.heap.size (.slice a1 ss.length c1) (.slice a2 ps.length c2) (.slice x1 ss.length x2) (.slice x3 ps.length x4) w6.drew) := ⟨g0, g1, k0, k1⟩
  go_wp2
  go_region_held3 (fun w' => w'.cell? ⟨w.heap.size, 0, none⟩ = some (.slice a1 ss.length c1) ∧ w'.cell? ⟨w.heap.size, 1, none⟩ = some (.slice a2 ps.length c2) ∧ w'.cell? ⟨w4.heap.size, 0, none⟩ = some (.slice x1 ss.length x2) ∧ w'.cell? ⟨w4.heap.size, 1, none⟩ = some (.slice x3 ps.length x4)) (first | go_keep | exact t8.out | exact t7.out) ((first | (go_at_call 7; refine (to44 ss ps a1 a2 c1 c2 (by omega) (by omega) _ (HA.out.s.below HB6.out.drew) (HA.out.p.below HB6.out.drew)).mono ?_; rintro e w7 ⟨q1, q2, q3, q4, rfl, hd7, hb7⟩; have t7 : Hid (Two w.heap.size w4.heap.size (.slice a1 ss.length c1) (.slice a2 ps.length c2) (.slice x1 ss.length x2) (.slice x3 ps.length x4) w7) := Two.keep t6.out hb7 z0 z1) | (go_at_call 10; refine (eq40 x1 x3 q1 q3 x2 x4 q2 q4 ss ps (by omega) (by omega) _ (X6.out.drew.d.s.srow.below hb7) (X6.out.drew.d.p.prow.below hb7) hd7.s.srow hd7.p.prow).mono ?_; rintro e w8 ⟨rfl, hb8⟩; have t8 : Hid (Two w.heap.size w4.heap.size (.slice a1 ss.length c1) (.slice a2 ps.length c2) (.slice x1 ss.length x2) (.slice x3 ps.length x4) w8) := Two.keep t7.out hb8 (Nat.lt_of_lt_of_le z0 hb7.size) (Nat.lt_of_lt_of_le z1 hb7.size))))
  all_goals
    have b78 : Below w6.heap.size w6 w8 := (undrew hb7).trans (hb8.mono hb7.size)
    have Y8 : Hid (DR w8 wz.heap.size w5.heap.size y1 y2 y3 y4 (csS ss ps ts st ks tr) ps) := Y6.out.keep b78
    have R8 : Hid (DR w8 w2.heap.size w3.heap.size r1 r2 r3 r4 (csS ss ps ts st ks tr) ps) := R6.out.keep b78
    have X8 : Hid (DR w8 (w3.heap.size + 1) w4.heap.size x1 x2 x3 x4 ss ps) := X6.out.keep b78
    have B8 : Hid (Bxs w8 [(w5.heap.size, .slice y1 (csS ss ps ts st ks tr).length y2, .slice y3 ps.length y4), (w4.heap.size, .slice x1 ss.length x2, .slice x3 ps.length x4), (w3.heap.size, .slice r1 (csS ss ps ts st ks tr).length r2, .slice r3 ps.length r4), (w.heap.size, .slice a1 ss.length c1, .slice a2 ps.length c2)]) := B6.out.keep b78
    have HB8 : Hid (Below w.heap.size w w8) := HB6.out.trans (b78.mono HB6.out.size)
    have I8 : Hid (SOwn w8 (w4.heap.size + 1) (.slice j1 ts.length j2) ts) := I6.out.below b78
    have K8 : Hid (IOwn w8 wk.heap.size (.slice h1 ks.length h2) ks) := K6.out.below b78
    clear hb7 hb8 hd7 b78 t6 t7 t8 Y6 R6 X6 B6 I6 K6 g0 g1 k0 k1 z0 z1
    go_wp2_with fail
    refine (to80 ts ak ck hkn _ (HKR.out.below HB8.out)).mono ?_
    rintro e wm ⟨m1, m2, rfl, him, hbm⟩
    have HIm : Hid (SRow wm m1 ts) := him.srow
    have HJm : Hid (SRow wm j1 ts) := (I8.out.below hbm).srow
    have HBM : Hid (Below w8.heap.size w8 wm) := hbm
    clear him hbm
    go_wp2_with fail
    refine (eq72 j1 m1 j2 m2 ts hkn _ HJm.out HIm.out).mono ?_
    rintro e wn ⟨rfl, hbn⟩
    have bn : Below w8.heap.size w8 wn := HBM.out.trans (hbn.mono HBM.out.size)
    have Yn : Hid (DR wn wz.heap.size w5.heap.size y1 y2 y3 y4 (csS ss ps ts st ks tr) ps) := Y8.out.keep bn
    have Rn : Hid (DR wn w2.heap.size w3.heap.size r1 r2 r3 r4 (csS ss ps ts st ks tr) ps) := R8.out.keep bn
    have Xn : Hid (DR wn (w3.heap.size + 1) w4.heap.size x1 x2 x3 x4 ss ps) := X8.out.keep bn
    have In : Hid (SOwn wn (w4.heap.size + 1) (.slice j1 ts.length j2) ts) := I8.out.below bn
    have Bn : Hid (Bxs wn [(w5.heap.size, .slice y1 (csS ss ps ts st ks tr).length y2, .slice y3 ps.length y4), (w4.heap.size, .slice x1 ss.length x2, .slice x3 ps.length x4), (w3.heap.size, .slice r1 (csS ss ps ts st ks tr).length r2, .slice r3 ps.length r4), (w.heap.size, .slice a1 ss.length c1, .slice a2 ps.length c2)]) := B8.out.keep bn
    have HBn : Hid (Below w.heap.size w wn) := HB8.out.trans (bn.mono HB8.out.size)
    have Kn : Hid (IOwn wn wk.heap.size (.slice h1 ks.length h2) ks) := K8.out.below bn
    clear hbn bn HBM HIm HJm Y8 R8 X8 I8 B8 HB8 K8
    go_wp2_with fail
    refine (to45 ks kk kc hqn _ (HKK.out.below HBn.out)).mono ?_
    rintro e wq ⟨e1, e2, rfl, hie, hbe⟩
    have HIe : Hid (KRow wq e1 ks) := hie.krow
    have HJe : Hid (KRow wq h1 ks) := (Kn.out.below hbe).krow
    have HBE : Hid (Below wn.heap.size wn wq) := hbe
    clear hie hbe
    go_wp2_with fail
    refine (eq47 h1 e1 h2 e2 ks hqn _ HJe.out HIe.out).mono ?_
    rintro e wr ⟨rfl, hbr⟩
    have br : Below wn.heap.size wn wr := HBE.out.trans (hbr.mono HBE.out.size)
    replace Yn : Hid (DR wr wz.heap.size w5.heap.size y1 y2 y3 y4 (csS ss ps ts st ks tr) ps) := Yn.out.keep br
    replace Rn : Hid (DR wr w2.heap.size w3.heap.size r1 r2 r3 r4 (csS ss ps ts st ks tr) ps) := Rn.out.keep br
    replace Xn : Hid (DR wr (w3.heap.size + 1) w4.heap.size x1 x2 x3 x4 ss ps) := Xn.out.keep br
    replace Bn : Hid (Bxs wr [(w5.heap.size, .slice y1 (csS ss ps ts st ks tr).length y2, .slice y3 ps.length y4), (w4.heap.size, .slice x1 ss.length x2, .slice x3 ps.length x4), (w3.heap.size, .slice r1 (csS ss ps ts st ks tr).length r2, .slice r3 ps.length r4), (w.heap.size, .slice a1 ss.length c1, .slice a2 ps.length c2)]) := Bn.out.keep br
    replace In : Hid (SOwn wr (w4.heap.size + 1) (.slice j1 ts.length j2) ts) := In.out.below br
    replace Kn : Hid (IOwn wr wk.heap.size (.slice h1 ks.length h2) ks) := Kn.out.below br
    replace HBn : Hid (Below w.heap.size w wr) := HBn.out.trans (br.mono HBn.out.size)
    clear hbr br HBE HIe HJe
    have k0 := Bn.out.tl.hd.c0
    have k1 := Bn.out.tl.hd.c1
    go_wp2_with fail
    refine (mark41 ss.length ps.length 1 x1 x3 x2 x4 (w3.heap.size + 1) _ _ (by omega) (by omega) (by omega) (by omega) _ Xn.out.d.s Xn.out.d.p).mono ?_
    rintro e wp ⟨rfl, _, _, hk9⟩
    have Yp : Hid (DR wp wz.heap.size w5.heap.size y1 y2 y3 y4 (csS ss ps ts st ks tr) ps) := Yn.out.kept2 hk9 Xn.out.u1 Xn.out.u2 (Or.inr (by omega))
    have Rp : Hid (DR wp w2.heap.size w3.heap.size r1 r2 r3 r4 (csS ss ps ts st ks tr) ps) := Rn.out.kept2 hk9 Xn.out.u1 Xn.out.u2 (Or.inl (by omega))
    have Bp : Hid (Bxs wp [(w5.heap.size, .slice y1 (csS ss ps ts st ks tr).length y2, .slice y3 ps.length y4), (w4.heap.size, .slice x1 ss.length x2, .slice x3 ps.length x4), (w3.heap.size, .slice r1 (csS ss ps ts st ks tr).length r2, .slice r3 ps.length r4), (w.heap.size, .slice a1 ss.length c1, .slice a2 ps.length c2)]) := Bn.out.kept2 hk9 (w3.heap.size + 1) w4.heap.size Xn.out.u1 Xn.out.u2 (fun q hq => by
      simp only [List.mem_cons, List.not_mem_nil, or_false] at hq
      rcases hq with rfl | rfl | rfl | rfl <;> simp <;> omega)
    have HBp : Hid (Below w.heap.size w wp) := HBn.out.trans (hk9.below _ HBn.out.size (fun k hk => by have := Xn.out.u1 k hk; omega) (fun k hk => by have := Xn.out.u2 k hk; omega))
    have Ip : Hid (SOwn wp (w4.heap.size + 1) (.slice j1 ts.length j2) ts) := own_block In.out (fun k hk => hk9.block k (World.ownsRow.lt In.out k hk).2 (fun e => by have := Xn.out.u1 _ e.symm; have := IU.out k hk; omega) (fun e => by have := Xn.out.u2 _ e.symm; have := IU.out k hk; omega))
    have Kp : Hid (IOwn wp wk.heap.size (.slice h1 ks.length h2) ks) := own_block Kn.out (fun k hk => hk9.block k (World.ownsRow.lt Kn.out k hk).2 (fun e => by have := Xn.out.u1 _ e.symm; have := KU.out k hk; omega) (fun e => by have := Xn.out.u2 _ e.symm; have := KU.out k hk; omega))
    clear hk9 Yn Rn Bn k0 k1 Xn In HBn Kn
    go_wp2_with fail
    refine (mark74 ts.length (1 + ss.length + 2 * ps.length) j1 j2 (w4.heap.size + 1) _ hkn (by omega) (by omega) _ Ip.out).mono ?_
    rintro e wu ⟨rfl, _, hkG⟩
    have hkI := kept_of_grown hkG
    have Yu : Hid (DR wu wz.heap.size w5.heap.size y1 y2 y3 y4 (csS ss ps ts st ks tr) ps) := Yp.out.kept2 hkI IU.out IU.out (Or.inr (by omega))
    have Ru : Hid (DR wu w2.heap.size w3.heap.size r1 r2 r3 r4 (csS ss ps ts st ks tr) ps) := Rp.out.kept2 hkI IU.out IU.out (Or.inl (by omega))
    have Bu : Hid (Bxs wu [(w5.heap.size, .slice y1 (csS ss ps ts st ks tr).length y2, .slice y3 ps.length y4), (w4.heap.size, .slice x1 ss.length x2, .slice x3 ps.length x4), (w3.heap.size, .slice r1 (csS ss ps ts st ks tr).length r2, .slice r3 ps.length r4), (w.heap.size, .slice a1 ss.length c1, .slice a2 ps.length c2)]) := Bp.out.kept2 hkI (w4.heap.size + 1) wk.heap.size IU.out IU.out (fun q hq => by
      simp only [List.mem_cons, List.not_mem_nil, or_false] at hq
      rcases hq with rfl | rfl | rfl | rfl <;> simp <;> omega)
    have HBu : Hid (Below w.heap.size w wu) := HBp.out.trans (hkI.below _ HBp.out.size (fun k hk => by have := IU.out k hk; omega) (fun k hk => by have := IU.out k hk; omega))
    have Ku : Hid (IOwn wu wk.heap.size (.slice h1 ks.length h2) ks) := own_block Kp.out (fun k hk => hkI.block k (World.ownsRow.lt Kp.out k hk).2 (fun e => by have := IU.out _ e.symm; have := KU.out k hk; omega) (fun e => by have := IU.out _ e.symm; have := KU.out k hk; omega))
    clear hkI Yp Rp Bp HBp Ip Kp
    go_wp2_with fail
    refine (mark48 ks.length (1 + ss.length + 2 * ps.length + ts.length) h1 h2 wk.heap.size _ hqn (by omega) _ Ku.out).mono ?_
    rintro e w9 ⟨rfl, hkJ⟩
    have Y9 : Hid (DR w9 wz.heap.size w5.heap.size y1 y2 y3 y4 (csS ss ps ts st ks tr) ps) := Yu.out.kept2 hkJ KU.out KU.out (Or.inr (by omega))
    have R9 : Hid (DR w9 w2.heap.size w3.heap.size r1 r2 r3 r4 (csS ss ps ts st ks tr) ps) := Ru.out.kept2 hkJ KU.out KU.out (Or.inl (by omega))
    have B9 : Hid (Bxs w9 [(w5.heap.size, .slice y1 (csS ss ps ts st ks tr).length y2, .slice y3 ps.length y4), (w4.heap.size, .slice x1 ss.length x2, .slice x3 ps.length x4), (w3.heap.size, .slice r1 (csS ss ps ts st ks tr).length r2, .slice r3 ps.length r4), (w.heap.size, .slice a1 ss.length c1, .slice a2 ps.length c2)]) := Bu.out.kept2 hkJ wk.heap.size wz.heap.size KU.out KU.out (fun q hq => by
      simp only [List.mem_cons, List.not_mem_nil, or_false] at hq
      rcases hq with rfl | rfl | rfl | rfl <;> simp <;> omega)
    have HB9 : Hid (Below w.heap.size w w9) := HBu.out.trans (hkJ.below _ HBu.out.size (fun k hk => by have := KU.out k hk; omega) (fun k hk => by have := KU.out k hk; omega))
    clear hkJ Yu Ru Bu HBu Ku
    have hnn : ¬ ((1 + ss.length + 2 * ps.length + ts.length + ks.length : Nat) : Int) < 0 := by omega
    have k0 := B9.out.hd.c0
    have k1 := B9.out.hd.c1
    have k2 := B9.out.tl.tl.hd.c0
    have k3 := B9.out.tl.tl.hd.c1
    go_wp2_with fail
    refine (eq40 y1 y3 r1 r3 y2 y4 r2 r4 (csS ss ps ts st ks tr) ps hrs hrp _ Y9.out.d.s.srow Y9.out.d.p.prow R9.out.d.s.srow R9.out.d.p.prow).mono ?_
    rintro e w10 ⟨rfl, hb10⟩
    have Y10 : Hid (DR w10 wz.heap.size w5.heap.size y1 y2 y3 y4 (csS ss ps ts st ks tr) ps) := Y9.out.keep hb10
    have R10 : Hid (DR w10 w2.heap.size w3.heap.size r1 r2 r3 r4 (csS ss ps ts st ks tr) ps) := R9.out.keep hb10
    have B10 : Hid (Bxs w10 [(w5.heap.size, .slice y1 (csS ss ps ts st ks tr).length y2, .slice y3 ps.length y4), (w4.heap.size, .slice x1 ss.length x2, .slice x3 ps.length x4), (w3.heap.size, .slice r1 (csS ss ps ts st ks tr).length r2, .slice r3 ps.length r4), (w.heap.size, .slice a1 ss.length c1, .slice a2 ps.length c2)]) := B9.out.keep hb10
    have HB10 : Hid (Below w.heap.size w w10) := HB9.out.trans (hb10.mono HB9.out.size)
    clear hb10 Y9 R9 B9 k0 k1 k2 k3 hnn
    have k0 := B10.out.hd.c0
    have k1 := B10.out.hd.c1
    go_wp2_with fail
    refine (mark41 (csS ss ps ts st ks tr).length ps.length 1 y1 y3 y2 y4 wz.heap.size _ _ hrs hrp (by omega) (by omega) _ Y10.out.d.s Y10.out.d.p).mono ?_
    rintro e w11 ⟨rfl, hs11, hp11, hk11⟩
    have HS11 : Hid (SRow w11 y1 (marks 1 (csS ss ps ts st ks tr).length)) := by
      have h := hs11
      rw [show Value.slice y1 (csS ss ps ts st ks tr).length y2 = .slice y1 (marks 1 (csS ss ps ts st ks tr).length).length y2 by rw [marks_len]] at h
      exact h.srow
    have HP11 : Hid (PRow w11 y3 (pmarks (1 + (csS ss ps ts st ks tr).length) ps.length)) := by
      have h := hp11
      rw [show Value.slice y3 ps.length y4 = .slice y3 (pmarks (1 + (csS ss ps ts st ks tr).length) ps.length).length y4 by rw [pmarks_len]] at h
      exact h.prow
    have R11 : Hid (DR w11 w2.heap.size w3.heap.size r1 r2 r3 r4 (csS ss ps ts st ks tr) ps) := R10.out.kept2 hk11 Y10.out.u1 Y10.out.u2 (Or.inl (by omega))
    have B11 : Hid (Bxs w11 [(w5.heap.size, .slice y1 (csS ss ps ts st ks tr).length y2, .slice y3 ps.length y4), (w4.heap.size, .slice x1 ss.length x2, .slice x3 ps.length x4), (w3.heap.size, .slice r1 (csS ss ps ts st ks tr).length r2, .slice r3 ps.length r4), (w.heap.size, .slice a1 ss.length c1, .slice a2 ps.length c2)]) := B10.out.kept2 hk11 wz.heap.size w5.heap.size Y10.out.u1 Y10.out.u2 (fun q hq => by
      simp only [List.mem_cons, List.not_mem_nil, or_false] at hq
      rcases hq with rfl | rfl | rfl | rfl <;> simp <;> omega)
    have HB11 : Hid (Below w.heap.size w w11) := HB10.out.trans (hk11.below _ HB10.out.size (fun k hk => by have := Y10.out.u1 k hk; omega) (fun k hk => by have := Y10.out.u2 k hk; omega))
    clear hk11 hs11 hp11 Y10 R10 B10 k0 k1
    have k0 := B11.out.hd.c0
    have k1 := B11.out.hd.c1
    go_wp2_with fail
    refine (held42 (csS ss ps ts st ks tr).length ps.length 1 y1 y3 y2 y4 hrs hrp (by omega) (by omega) _ HS11.out HP11.out).mono ?_
    rintro e w12 ⟨rfl, hb12⟩
    have HS12 : Hid (SRow w12 y1 (marks 1 (csS ss ps ts st ks tr).length)) := HS11.out.below hb12
    have HP12 : Hid (PRow w12 y3 (pmarks (1 + (csS ss ps ts st ks tr).length) ps.length)) := HP11.out.below hb12
    have R12 : Hid (DR w12 w2.heap.size w3.heap.size r1 r2 r3 r4 (csS ss ps ts st ks tr) ps) := R11.out.keep hb12
    have B12 : Hid (Bxs w12 [(w5.heap.size, .slice y1 (csS ss ps ts st ks tr).length y2, .slice y3 ps.length y4), (w4.heap.size, .slice x1 ss.length x2, .slice x3 ps.length x4), (w3.heap.size, .slice r1 (csS ss ps ts st ks tr).length r2, .slice r3 ps.length r4), (w.heap.size, .slice a1 ss.length c1, .slice a2 ps.length c2)]) := B11.out.keep hb12
    have HB12 : Hid (Below w.heap.size w w12) := HB11.out.trans (hb12.mono HB11.out.size)
    clear hb12 HS11 HP11 R11 B11 k0 k1
    have hnn : ¬ ((1 + (csS ss ps ts st ks tr).length + 2 * ps.length : Nat) : Int) < 0 := by omega
    have g0 := B12.out.tl.tl.tl.hd.c0
    have g1 := B12.out.tl.tl.tl.hd.c1
    go_wp2_with fail
    refine (to44 ss ps a1 a2 c1 c2 (by omega) (by omega) _ (HA.out.s.below HB12.out) (HA.out.p.below HB12.out)).mono ?_
    rintro e w13 ⟨o1, o2, o3, o4, rfl, hd13, hb13⟩
    have HD13 : Hid (DOwn w13 w12.heap.size o1 o2 o3 o4 ss ps) := hd13
    have HS13 : Hid (SRow w13 y1 (marks 1 (csS ss ps ts st ks tr).length)) := HS12.out.below hb13
    have HP13 : Hid (PRow w13 y3 (pmarks (1 + (csS ss ps ts st ks tr).length) ps.length)) := HP12.out.below hb13
    have R13 : Hid (DR w13 w2.heap.size w3.heap.size r1 r2 r3 r4 (csS ss ps ts st ks tr) ps) := R12.out.keep hb13
    have B13 : Hid (Bxs w13 [(w5.heap.size, .slice y1 (csS ss ps ts st ks tr).length y2, .slice y3 ps.length y4), (w4.heap.size, .slice x1 ss.length x2, .slice x3 ps.length x4), (w3.heap.size, .slice r1 (csS ss ps ts st ks tr).length r2, .slice r3 ps.length r4), (w.heap.size, .slice a1 ss.length c1, .slice a2 ps.length c2)]) := B12.out.keep hb13
    have HB13 : Hid (Below w.heap.size w w13) := HB12.out.trans (hb13.mono HB12.out.size)
    clear hd13 hb13 HS12 HP12 R12 B12 g0 g1
    go_wp2_with fail
    refine (to80 ts ak ck hkn _ (HKR.out.below HB13.out)).mono ?_
    rintro e wo ⟨o5, o6, rfl, hio, hbo⟩
    have HIo : Hid (SRow wo o5 ts) := hio.srow
    have HDo : Hid (DOwn wo w12.heap.size o1 o2 o3 o4 ss ps) := HD13.out.below hbo
    have HSo : Hid (SRow wo y1 (marks 1 (csS ss ps ts st ks tr).length)) := HS13.out.below hbo
    have HPo : Hid (PRow wo y3 (pmarks (1 + (csS ss ps ts st ks tr).length) ps.length)) := HP13.out.below hbo
    have Ro : Hid (DR wo w2.heap.size w3.heap.size r1 r2 r3 r4 (csS ss ps ts st ks tr) ps) := R13.out.keep hbo
    have Bo : Hid (Bxs wo [(w5.heap.size, .slice y1 (csS ss ps ts st ks tr).length y2, .slice y3 ps.length y4), (w4.heap.size, .slice x1 ss.length x2, .slice x3 ps.length x4), (w3.heap.size, .slice r1 (csS ss ps ts st ks tr).length r2, .slice r3 ps.length r4), (w.heap.size, .slice a1 ss.length c1, .slice a2 ps.length c2)]) := B13.out.keep hbo
    have HBo : Hid (Below w.heap.size w wo) := HB13.out.trans (hbo.mono HB13.out.size)
    clear hio hbo HD13 HS13 HP13 R13 B13 HB13
    go_wp2_with fail
    refine (to45 ks kk kc hqn _ (HKK.out.below HBo.out)).mono ?_
    rintro e wv ⟨f1, f2, rfl, hiv, hbv⟩
    have HKv : Hid (KRow wv f1 ks) := hiv.krow
    replace HIo : Hid (SRow wv o5 ts) := HIo.out.below hbv
    replace HDo : Hid (DOwn wv w12.heap.size o1 o2 o3 o4 ss ps) := HDo.out.below hbv
    replace HSo : Hid (SRow wv y1 (marks 1 (csS ss ps ts st ks tr).length)) := HSo.out.below hbv
    replace HPo : Hid (PRow wv y3 (pmarks (1 + (csS ss ps ts st ks tr).length) ps.length)) := HPo.out.below hbv
    replace Ro : Hid (DR wv w2.heap.size w3.heap.size r1 r2 r3 r4 (csS ss ps ts st ks tr) ps) := Ro.out.keep hbv
    replace Bo : Hid (Bxs wv [(w5.heap.size, .slice y1 (csS ss ps ts st ks tr).length y2, .slice y3 ps.length y4), (w4.heap.size, .slice x1 ss.length x2, .slice x3 ps.length x4), (w3.heap.size, .slice r1 (csS ss ps ts st ks tr).length r2, .slice r3 ps.length r4), (w.heap.size, .slice a1 ss.length c1, .slice a2 ps.length c2)]) := Bo.out.keep hbv
    replace HBo : Hid (Below w.heap.size w wv) := HBo.out.trans (hbv.mono HBo.out.size)
    clear hiv hbv
    go_wp2_with fail
    refine (icutS ss ps ts st ks tr o1 o3 o5 f1 o2 o4 o6 f2 (by omega) (by omega) HLS2.out HLP2.out htn HTS.out (by omega) _ (HDo.out).s.srow (HDo.out).p.prow HIo.out HKv.out).mono ?_
    rintro e w14 ⟨n1, n2, n3, n4, rfl, hd14, hb14⟩
    have N14 : Hid (DOwn (w14.alloc (.cells #[.slice n1 (csS ss ps ts st ks tr).length n2, .slice n3 ps.length n4] 30)) wv.heap.size n1 n2 n3 n4 (csS ss ps ts st ks tr) ps) := hd14.below ((belowRefl w14).alloc (Nat.le_refl _) _)
    have b14 : Below wv.heap.size wv (w14.alloc (.cells #[.slice n1 (csS ss ps ts st ks tr).length n2, .slice n3 ps.length n4] 30)) := hb14.alloc hb14.size _
    have HS14 : Hid (SRow (w14.alloc (.cells #[.slice n1 (csS ss ps ts st ks tr).length n2, .slice n3 ps.length n4] 30)) y1 (marks 1 (csS ss ps ts st ks tr).length)) := HSo.out.below b14
    have HP14 : Hid (PRow (w14.alloc (.cells #[.slice n1 (csS ss ps ts st ks tr).length n2, .slice n3 ps.length n4] 30)) y3 (pmarks (1 + (csS ss ps ts st ks tr).length) ps.length)) := HPo.out.below b14
    have R14 : Hid (DR (w14.alloc (.cells #[.slice n1 (csS ss ps ts st ks tr).length n2, .slice n3 ps.length n4] 30)) w2.heap.size w3.heap.size r1 r2 r3 r4 (csS ss ps ts st ks tr) ps) := Ro.out.keep b14
    have B14 : Hid (Bxs (w14.alloc (.cells #[.slice n1 (csS ss ps ts st ks tr).length n2, .slice n3 ps.length n4] 30)) [(w14.heap.size, .slice n1 (csS ss ps ts st ks tr).length n2, .slice n3 ps.length n4), (w5.heap.size, .slice y1 (csS ss ps ts st ks tr).length y2, .slice y3 ps.length y4), (w4.heap.size, .slice x1 ss.length x2, .slice x3 ps.length x4), (w3.heap.size, .slice r1 (csS ss ps ts st ks tr).length r2, .slice r3 ps.length r4), (w.heap.size, .slice a1 ss.length c1, .slice a2 ps.length c2)]) := (Bo.out.keep hb14).new _ _ 30
    have HB14 : Hid (Below w.heap.size w (w14.alloc (.cells #[.slice n1 (csS ss ps ts st ks tr).length n2, .slice n3 ps.length n4] 30))) := HBo.out.trans (b14.mono HBo.out.size)
    clear hd14 hb14 b14 HSo HPo Ro Bo HDo HBo HIo HKv
    have k0 := B14.out.hd.c0
    have k1 := B14.out.hd.c1
    have k2 := B14.out.tl.tl.tl.hd.c0
    have k3 := B14.out.tl.tl.tl.hd.c1
    go_wp2_with fail
    refine (eq40 n1 n3 r1 r3 n2 n4 r2 r4 (csS ss ps ts st ks tr) ps hrs hrp _ N14.out.s.srow N14.out.p.prow R14.out.d.s.srow R14.out.d.p.prow).mono ?_
    rintro e w15 ⟨rfl, hb15⟩
    have HS15 : Hid (SRow w15 y1 (marks 1 (csS ss ps ts st ks tr).length)) := HS14.out.below hb15
    have HP15 : Hid (PRow w15 y3 (pmarks (1 + (csS ss ps ts st ks tr).length) ps.length)) := HP14.out.below hb15
    have B15 : Hid (Bxs w15 [(w14.heap.size, .slice n1 (csS ss ps ts st ks tr).length n2, .slice n3 ps.length n4), (w5.heap.size, .slice y1 (csS ss ps ts st ks tr).length y2, .slice y3 ps.length y4), (w4.heap.size, .slice x1 ss.length x2, .slice x3 ps.length x4), (w3.heap.size, .slice r1 (csS ss ps ts st ks tr).length r2, .slice r3 ps.length r4), (w.heap.size, .slice a1 ss.length c1, .slice a2 ps.length c2)]) := B14.out.keep hb15
    have HB15 : Hid (Below w.heap.size w w15) := HB14.out.trans (hb15.mono HB14.out.size)
    clear hb15 HS14 HP14 R14 B14 N14 k0 k1 k2 k3
    have k0 := B15.out.tl.hd.c0
    have k1 := B15.out.tl.hd.c1
    go_wp2_with fail
    refine (held42 (csS ss ps ts st ks tr).length ps.length 1 y1 y3 y2 y4 hrs hrp (by omega) (by omega) _ HS15.out HP15.out).mono ?_
    rintro e w16 ⟨rfl, hb16⟩
    have HB16 : Hid (Below w.heap.size w w16) := HB15.out.trans (hb16.mono HB15.out.size)
    clear hb16
    go_wp2
    go_ret
    exact ⟨rfl, HB16.out⟩
end Go.Proofs.Ytnfkfhpmhhmbaaa
