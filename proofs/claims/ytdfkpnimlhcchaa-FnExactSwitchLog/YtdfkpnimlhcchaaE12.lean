/- The law FnExactSwitchLog, walked. -/
import Derived.Test.YtdfkpnimlhcchaaD0
import Derived.Test.YtdfkpnimlhcchaaL8
import Derived.Test.YtdfkpnimlhcchaaE10
namespace Go.Proofs.Ytdfkpnimlhcchaa
open Go.RowKit
open DM
attribute [local go_sem ↓] Go.wp_at_zero Go.wp_at_succ

theorem kept_of_grown {w w' : World} {v : Value} (h : w.grownBy w' v.ownBlock) : Kept2 w w' v v := ⟨h.os, h.tape, h.output, h.size, fun k hk h1 _ => h.block k hk h1⟩
theorem fillO_len {a : Int} : ∀ (ts cur : List ByteArray), (fillO a cur ts).1.length = cur.length
  | [], cur => rfl
  | t :: ts, cur => by
    rw [fillO]
    split
    · rw [fillO_len ts]
      unfold putS
      rw [flS_len, flS_len]
    · rfl
theorem swS_len (ss : List ByteArray) (ps : List Wr) (ts : List ByteArray) : (swS ss ps ts).length = ss.length := by
  unfold swS
  split
  · rw [flS_len, fillO_len]
    unfold zrS
    rw [flS_len]
  · rfl

set_option maxRecDepth 100000 in
set_option maxHeartbeats 1000000 in
theorem sz79b (ps : List Wr) (a : Option Addr) (c : Nat) (hn : ps.length ≤ 9223372036854775807) (hl : ∀ p ∈ ps, p.2.size ≤ 9223372036854775807) (L : Int) (h0 : 0 ≤ L) (h1 : L ≤ 1048576) (w : World) (hp : PRow w a ps) :
    Calls Try.prog 57 #[.slice a ps.length c, .int .i64 L] w fun e w' => Below w.heap.size w w' ∧ ∃ r : Int, e = .returned (.int .i64 r) ∧ r ≤ 1048576 ∧ (0 ≤ r → (ps.length : Int) ≤ 1048576 ∧ PFits ps) := by
  have HP : Hid (PRow w a ps) := hp
  have HL : Hid (∀ p ∈ ps, p.2.size ≤ 9223372036854775807) := hl
  clear hp hl
  by_cases hneg : L - (ps.length : Int) < 0
  · go_enter Try.func57, Try.ntmps57
    go_wp2
    go_ret
    exact ⟨belowRefl w, -1, rfl, by omega, fun h => by omega⟩
  · have hneg' : decide (L - (ps.length : Int) < 0) = false := by simpa using hneg
    go_enter Try.func57, Try.ntmps57
    go_wp2
    go_loopw [1, 5] (fun tl t wr => ∃ (k : Nat) (l : Int), k ≤ ps.length ∧ t = .int .i64 k ∧ tl = .int .i64 l ∧ 0 ≤ l ∧ l ≤ 1048576 ∧ Hid (∀ j (hj : j < ps.length), j < k → ps[j].2.size ≤ 1048576) ∧ Hid (Below w.heap.size w wr)) (fun _ t _ => ps.length - (intOf t).toNat)
    case atStart => exact ⟨0, L - (ps.length : Int), Nat.zero_le _, rfl, rfl, by omega, by omega, fun j hj h => by omega, belowRefl w⟩
    case round =>
      obtain ⟨k, l, hk, rfl, rfl, hl0, hl1, HA, HB⟩ := hrel
      by_cases hlt : k < ps.length
      · have hlt' : (k : Int) < (ps.length : Int) := by omega
        have hk0 : (0 : Int) ≤ (k : Int) := by omega
        obtain ⟨b, off, rfl, hbl, hc⟩ := (HP.out.below HB.out) (by omega)
        have hck := (hc k hlt).1
        have hcl := (hc k hlt).2
        have hsz := HL.out _ (List.getElem_mem hlt)
        clear hc
        by_cases hn2 : l < (ps[k].2.size : Int)
        · have HV : Hid (lft l ps[k].2 = -1) := if_pos hn2
          clear hn2
          go_wp2_with fail
          refine (sz88 _ _ hsz l hl0 hl1 _).mono ?_
          rintro e w2 ⟨rfl, hb2⟩
          rw [HV.out]
          have HB2 : Hid (Below w.heap.size w w2) := HB.out.trans (hb2.mono HB.out.size)
          clear hb2
          go_wp2
          go_ret
          exact ⟨HB2.out, -1, rfl, by omega, fun h => by omega⟩
        · have HV : Hid (lft l ps[k].2 = l - (ps[k].2.size : Int)) := if_neg hn2
          have hn3 : ¬ l - (ps[k].2.size : Int) < 0 := by omega
          have HA2 : Hid (∀ j (hj : j < ps.length), j < k + 1 → ps[j].2.size ≤ 1048576) := fun j hj h => by
            by_cases e : j = k
            · subst e; omega
            · exact HA.out j hj (by omega)
          have hl2 : l - (ps[k].2.size : Int) ≤ 1048576 := by omega
          clear hn2
          go_wp2_with fail
          refine (sz88 _ _ hsz l hl0 hl1 _).mono ?_
          rintro e w2 ⟨rfl, hb2⟩
          rw [HV.out]
          have HB2 : Hid (Below w.heap.size w w2) := HB.out.trans (hb2.mono HB.out.size)
          clear hb2
          go_wp2
          go_roundw
          case rel => exact ⟨k + 1, l - (ps[k].2.size : Int), by omega, by go_num, rfl, by omega, hl2, HA2, HB2⟩
          case measure => simp [intOf]; omega
      · have hlt' : ¬ (k : Int) < (ps.length : Int) := by omega
        have HA2 : Hid (PFits ps) := fun s hs => by
          obtain ⟨j, hj, rfl⟩ := List.getElem_of_mem hs
          exact HA.out j hj (by omega)
        go_wp2
        go_ret
        exact ⟨HB.out, l, rfl, hl1, fun _ => ⟨by omega, HA2.out⟩⟩

set_option maxRecDepth 100000 in
set_option maxHeartbeats 1000000 in
theorem sz43b (ss : List ByteArray) (ps : List Wr) (a1 a2 : Option Addr) (c1 c2 : Nat) (hn : ss.length ≤ 9223372036854775807) (hl : ∀ s ∈ ss, s.size ≤ 9223372036854775807) (hm : ps.length ≤ 9223372036854775807) (hlp : ∀ p ∈ ps, p.2.size ≤ 9223372036854775807) (w : World) (hs : SRow w a1 ss) (hp : PRow w a2 ps) :
    Calls Try.prog 21 #[.agg #[.slice a1 ss.length c1, .slice a2 ps.length c2], .int .i64 1048576] w fun e w' => Below w.heap.size w w' ∧ ∃ r : Int, e = .returned (.int .i64 r) ∧ r ≤ 1048576 ∧ (0 ≤ r → Fits ss ps) := by
  have HS : Hid (SRow w a1 ss) := hs
  have HP : Hid (PRow w a2 ps) := hp
  have HL : Hid (∀ s ∈ ss, s.size ≤ 9223372036854775807) := hl
  have HLP : Hid (∀ p ∈ ps, p.2.size ≤ 9223372036854775807) := hlp
  clear hs hp hl hlp
  go_enter Try.func21, Try.ntmps21
  go_wp2_with fail
  refine (sz78 ss a1 c1 hn HL.out 1048576 (by omega) (by omega) _ (HS.out.below ((belowRefl w).alloc (Nat.le_refl _) _))).mono ?_
  rintro e w1 ⟨rfl, r, rfl, hr1, hr2⟩
  by_cases hr : r < 0
  · clear hr2
    go_wp2
    go_ret
    exact ⟨(belowRefl w).alloc (Nat.le_refl _) _, -1, rfl, by omega, fun h => by omega⟩
  · have hr' : ¬ r < 0 := hr
    have HF := hr2 (by omega)
    have HF1 : Hid ((ss.length : Int) ≤ 1048576 ∧ ∀ s ∈ ss, s.size ≤ 1048576) := HF
    clear hr2 HF
    go_wp2_with fail
    refine (sz79b ps a2 c2 hm HLP.out r (by omega) hr1 _ (HP.out.below ((belowRefl w).alloc (Nat.le_refl _) _))).mono ?_
    rintro e w2 ⟨hb2, r2, rfl, hrb0, hr3⟩
    have hrb : Hid (r2 ≤ 1048576) := hrb0
    clear hrb0
    have HB2 : Hid (Below w.heap.size w w2) := ((belowRefl w).alloc (Nat.le_refl _) _).trans (hb2.mono (by simp))
    clear hb2
    by_cases hq : r2 < 0
    · clear hr3
      go_wp2
      go_ret
      exact ⟨HB2.out, -1, rfl, by omega, fun h => by omega⟩
    · have hq' : ¬ r2 < 0 := hq
      have HF2 : Hid ((ps.length : Int) ≤ 1048576 ∧ PFits ps) := hr3 (by omega)
      clear hr3
      go_wp2
      go_ret
      exact ⟨HB2.out, r2, rfl, hrb.out, fun _ => ⟨by have := HF1.out.1; omega, by have := HF2.out.1; omega, HF1.out.2, HF2.out.2⟩⟩

set_option maxRecDepth 100000 in
set_option maxHeartbeats 8000000 in
theorem law12 (ss : List ByteArray) (ps : List Wr) (a1 a2 : Option Addr) (c1 c2 : Nat) (ts : List ByteArray) (ak : Option Addr) (ck : Nat) (w : World) (ha : Arg w a1 a2 ss ps) (hkm : ts.length ≤ 9223372036854775807) (hkl : ∀ t ∈ ts, t.size ≤ 9223372036854775807) (hkr : SRow w ak ts) :
    Calls Try.prog 12 #[.agg #[.slice a1 ss.length c1, .slice a2 ps.length c2], .slice ak ts.length ck] w fun e w' => e = .returned (.bool true) ∧ Below w.heap.size w w' := by
  have HA : Hid (Arg w a1 a2 ss ps) := ha
  clear ha
  have HKR : Hid (SRow w ak ts) := hkr
  clear hkr
  have HKL : Hid (∀ t ∈ ts, t.size ≤ 9223372036854775807) := hkl
  clear hkl
  go_enter Try.func12, Try.ntmps12
  go_wp2_with fail
  have b0 : Below w.heap.size w (w.alloc (.cells #[.slice a1 ss.length c1, .slice a2 ps.length c2] 34)) := (belowRefl w).alloc (Nat.le_refl _) _
  refine (sz43b ss ps a1 a2 c1 c2 HA.out.n HA.out.l HA.out.m HA.out.lp _ (HA.out.s.below b0) (HA.out.p.below b0)).mono ?_
  rintro e w1 ⟨hb1, r, rfl, hrb, hr⟩
  have B1 : Hid (Bxs w1 [(w.heap.size, .slice a1 ss.length c1, .slice a2 ps.length c2)]) := ((Bxs.nil w).new (.slice a1 ss.length c1) (.slice a2 ps.length c2) 34).keep hb1
  have HB1 : Hid (Below w.heap.size w w1) := b0.trans (hb1.mono b0.size)
  have s1 : w.heap.size < w1.heap.size := B1.out.hd.lt
  clear b0 hb1
  by_cases hneg : r < 0
  · clear hr
    go_wp2
    go_ret
    exact ⟨rfl, HB1.out⟩
  have hneg' : ¬ r < 0 := hneg
  have HF : Hid (Fits ss ps) := hr (by omega)
  have hn : ss.length ≤ 1048576 := HF.out.1
  have hm : ps.length ≤ 1048576 := HF.out.2.1
  have HLS : Hid (∀ s ∈ ss, s.size ≤ 1000000000) := fun s h => Nat.le_trans (HF.out.2.2.1 s h) (by omega)
  have HLP : Hid (∀ p ∈ ps, p.2.size ≤ 1000000000) := fun p h => Nat.le_trans (HF.out.2.2.2 p h) (by omega)
  clear hr
  go_wp2_with fail
  refine (sz78 ts ak ck hkm HKL.out r (by omega) hrb _ (HKR.out.below HB1.out)).mono ?_
  rintro e w1 ⟨rfl, r2, rfl, _, hr2⟩
  by_cases hneg2 : r2 < 0
  · clear hr2
    go_wp2
    go_ret
    exact ⟨rfl, HB1.out⟩
  have hneg2' : ¬ r2 < 0 := hneg2
  have hts2 := hr2 (by omega)
  have htn : ts.length ≤ 1048576 := by omega
  have HTS : Hid (∀ t ∈ ts, t.size ≤ 1048576) := hts2.2
  have hkn : ts.length ≤ 100000000 := by omega
  have HLS2 : Hid (∀ s ∈ ss, s.size ≤ 1048576) := HF.out.2.2.1
  have HLP2 : Hid (∀ p ∈ ps, p.2.size ≤ 1048576) := HF.out.2.2.2
  have hrs : (swS ss ps ts).length ≤ 100000000 := by rw [swS_len]; omega
  have hrp : ps.length ≤ 100000000 := by omega
  clear hr2 hts2
  have g0 := B1.out.hd.c0
  have g1 := B1.out.hd.c1
  go_wp2_with fail
  refine (to44 ss ps a1 a2 c1 c2 (by omega) (by omega) _ (HA.out.s.below HB1.out) (HA.out.p.below HB1.out)).mono ?_
  rintro e wa ⟨p1, p2, p3, p4, rfl, hda, hba⟩
  have HDa : Hid (DOwn wa w1.heap.size p1 p2 p3 p4 ss ps) := hda
  have Ba : Hid (Bxs wa [(w.heap.size, .slice a1 ss.length c1, .slice a2 ps.length c2)]) := B1.out.keep hba
  have HBa : Hid (Below w.heap.size w wa) := HB1.out.trans (hba.mono HB1.out.size)
  clear hda hba g0 g1
  go_wp2_with fail
  refine (to80 ts ak ck hkn _ (HKR.out.below HBa.out)).mono ?_
  rintro e w2 ⟨i1, i2, rfl, hi2, hb2⟩
  have HI2 : Hid (SRow w2 i1 ts) := hi2.srow
  have HD2 : Hid (DOwn w2 w1.heap.size p1 p2 p3 p4 ss ps) := HDa.out.below hb2
  have B2 : Hid (Bxs w2 [(w.heap.size, .slice a1 ss.length c1, .slice a2 ps.length c2)]) := Ba.out.keep hb2
  have HB2 : Hid (Below w.heap.size w w2) := HBa.out.trans (hb2.mono HBa.out.size)
  have s2 : w.heap.size < w2.heap.size := B2.out.hd.lt
  clear hi2 hb2 HDa Ba HBa
  go_wp2_with fail
  refine (ssw41 ss ps ts p1 p3 i1 p2 p4 i2 _ (by omega) (by omega) HLS2.out HLP2.out htn HTS.out _ HD2.out HI2.out).mono ?_
  rintro e w3 ⟨r1, r2, r3, r4, rfl, hd3, hb3⟩
  have R3 : Hid (DR (w3.alloc (.cells #[.slice r1 (swS ss ps ts).length r2, .slice r3 ps.length r4] 27)) w2.heap.size w3.heap.size r1 r2 r3 r4 (swS ss ps ts) ps) := hd3.dr.alloc _
  have B3 : Hid (Bxs (w3.alloc (.cells #[.slice r1 (swS ss ps ts).length r2, .slice r3 ps.length r4] 27)) [(w3.heap.size, .slice r1 (swS ss ps ts).length r2, .slice r3 ps.length r4), (w.heap.size, .slice a1 ss.length c1, .slice a2 ps.length c2)]) := (B2.out.keep hb3).new _ _ 27
  have s3 : w.heap.size < w3.heap.size := (B2.out.keep hb3).hd.lt
  have HB3 : Hid (Below w.heap.size w (w3.alloc (.cells #[.slice r1 (swS ss ps ts).length r2, .slice r3 ps.length r4] 27))) := (HB2.out.trans (hb3.mono HB2.out.size)).alloc (Nat.le_of_lt s3) _
  clear hd3 hb3
  have g0 := B3.out.tl.hd.c0
  have g1 := B3.out.tl.hd.c1
  go_wp2_with fail
  refine (to44 ss ps a1 a2 c1 c2 (by omega) (by omega) _ (HA.out.s.below HB3.out) (HA.out.p.below HB3.out)).mono ?_
  rintro e w4 ⟨x1, x2, x3, x4, rfl, hd4, hb4⟩
  have X4 : Hid (DR (w4.alloc (.cells #[.slice x1 ss.length x2, .slice x3 ps.length x4] 27)) (w3.heap.size + 1) w4.heap.size x1 x2 x3 x4 ss ps) := by
    have h := hd4.dr.alloc (.cells #[.slice x1 ss.length x2, .slice x3 ps.length x4] 27)
    rw [World.size_alloc] at h
    exact h
  have R4 : Hid (DR (w4.alloc (.cells #[.slice x1 ss.length x2, .slice x3 ps.length x4] 27)) w2.heap.size w3.heap.size r1 r2 r3 r4 (swS ss ps ts) ps) := (R3.out.keep hb4).alloc _
  have B4 : Hid (Bxs (w4.alloc (.cells #[.slice x1 ss.length x2, .slice x3 ps.length x4] 27)) [(w4.heap.size, .slice x1 ss.length x2, .slice x3 ps.length x4), (w3.heap.size, .slice r1 (swS ss ps ts).length r2, .slice r3 ps.length r4), (w.heap.size, .slice a1 ss.length c1, .slice a2 ps.length c2)]) := (B3.out.keep hb4).new _ _ 27
  have s4 : w3.heap.size < w4.heap.size := (B3.out.keep hb4).hd.lt
  have HB4 : Hid (Below w.heap.size w (w4.alloc (.cells #[.slice x1 ss.length x2, .slice x3 ps.length x4] 27))) := (HB3.out.trans (hb4.mono HB3.out.size)).alloc (by omega) _
  clear hd4 hb4 g0 g1
  go_wp2_with fail
  refine (to80 ts ak ck hkn _ (HKR.out.below HB4.out)).mono ?_
  rintro e wk ⟨j1, j2, rfl, hik, hbk⟩
  have Ik : Hid (SOwn wk (w4.heap.size + 1) (.slice j1 ts.length j2) ts) := by
    have h := hik
    rw [World.size_alloc] at h
    exact h
  have IU : Hid (∀ k, (Value.slice j1 ts.length j2).ownBlock = some k → w4.heap.size + 1 ≤ k ∧ k < wk.heap.size) := World.ownsRow.lt Ik.out
  have X4k : Hid (DR wk (w3.heap.size + 1) w4.heap.size x1 x2 x3 x4 ss ps) := X4.out.keep hbk
  have R4k : Hid (DR wk w2.heap.size w3.heap.size r1 r2 r3 r4 (swS ss ps ts) ps) := R4.out.keep hbk
  have B4k : Hid (Bxs wk [(w4.heap.size, .slice x1 ss.length x2, .slice x3 ps.length x4), (w3.heap.size, .slice r1 (swS ss ps ts).length r2, .slice r3 ps.length r4), (w.heap.size, .slice a1 ss.length c1, .slice a2 ps.length c2)]) := B4.out.keep hbk
  have HB4k : Hid (Below w.heap.size w wk) := HB4.out.trans (hbk.mono HB4.out.size)
  have s4k : w4.heap.size + 1 ≤ wk.heap.size := by have := hbk.size; rw [World.size_alloc] at this; exact this
  clear hik hbk X4 R4 B4 HB4
  have k0 := B4k.out.hd.c0
  have k1 := B4k.out.hd.c1
  go_wp2_with fail
  refine (isw43 ss ps ts x1 x3 j1 x2 x4 j2 (by omega) (by omega) HLS2.out HLP2.out htn HTS.out _ (X4k.out.d).s.srow (X4k.out.d).p.prow Ik.out.srow).mono ?_
  rintro e w5 ⟨y1, y2, y3, y4, rfl, hd5, hb5⟩
  have Y5 : Hid (DR (w5.alloc (.cells #[.slice y1 (swS ss ps ts).length y2, .slice y3 ps.length y4] 27)) wk.heap.size w5.heap.size y1 y2 y3 y4 (swS ss ps ts) ps) := hd5.dr.alloc _
  have I5 : Hid (SOwn (w5.alloc (.cells #[.slice y1 (swS ss ps ts).length y2, .slice y3 ps.length y4] 27)) (w4.heap.size + 1) (.slice j1 ts.length j2) ts) := (Ik.out.below hb5).below ((belowRefl w5).alloc (Nat.le_refl _) _)
  have s5k : wk.heap.size ≤ w5.heap.size := hb5.size
  have R5 : Hid (DR (w5.alloc (.cells #[.slice y1 (swS ss ps ts).length y2, .slice y3 ps.length y4] 27)) w2.heap.size w3.heap.size r1 r2 r3 r4 (swS ss ps ts) ps) := (R4k.out.keep hb5).alloc _
  have X5 : Hid (DR (w5.alloc (.cells #[.slice y1 (swS ss ps ts).length y2, .slice y3 ps.length y4] 27)) (w3.heap.size + 1) w4.heap.size x1 x2 x3 x4 ss ps) := (X4k.out.keep hb5).alloc _
  have B5 : Hid (Bxs (w5.alloc (.cells #[.slice y1 (swS ss ps ts).length y2, .slice y3 ps.length y4] 27)) [(w5.heap.size, .slice y1 (swS ss ps ts).length y2, .slice y3 ps.length y4), (w4.heap.size, .slice x1 ss.length x2, .slice x3 ps.length x4), (w3.heap.size, .slice r1 (swS ss ps ts).length r2, .slice r3 ps.length r4), (w.heap.size, .slice a1 ss.length c1, .slice a2 ps.length c2)]) := (B4k.out.keep hb5).new _ _ 27
  have s5 : w4.heap.size < w5.heap.size := (B4k.out.keep hb5).hd.lt
  have HB5 : Hid (Below w.heap.size w (w5.alloc (.cells #[.slice y1 (swS ss ps ts).length y2, .slice y3 ps.length y4] 27))) := (HB4k.out.trans (hb5.mono HB4k.out.size)).alloc (by omega) _
  clear hd5 hb5 k0 k1 HD2 X4k R3 R4k B2 B3 B4k Ik HI2
  have hbn := bne_self (swB ss ps ts)
  have k0 := B5.out.hd.c0
  have k1 := B5.out.hd.c1
  have k2 := B5.out.tl.tl.hd.c0
  have k3 := B5.out.tl.tl.hd.c1
  go_wp2_with fail
  refine (eq40 y1 y3 r1 r3 y2 y4 r2 r4 (swS ss ps ts) ps hrs hrp _ Y5.out.d.s.srow Y5.out.d.p.prow R5.out.d.s.srow R5.out.d.p.prow).mono ?_
  rintro e w6 ⟨rfl, hb6⟩
  have Y6 : Hid (DR w6 wk.heap.size w5.heap.size y1 y2 y3 y4 (swS ss ps ts) ps) := Y5.out.keep hb6
  have R6 : Hid (DR w6 w2.heap.size w3.heap.size r1 r2 r3 r4 (swS ss ps ts) ps) := R5.out.keep hb6
  have X6 : Hid (DR w6 (w3.heap.size + 1) w4.heap.size x1 x2 x3 x4 ss ps) := X5.out.keep hb6
  have B6 : Hid (Bxs w6 [(w5.heap.size, .slice y1 (swS ss ps ts).length y2, .slice y3 ps.length y4), (w4.heap.size, .slice x1 ss.length x2, .slice x3 ps.length x4), (w3.heap.size, .slice r1 (swS ss ps ts).length r2, .slice r3 ps.length r4), (w.heap.size, .slice a1 ss.length c1, .slice a2 ps.length c2)]) := B5.out.keep hb6
  have HB6 : Hid (Below w.heap.size w w6) := HB5.out.trans (hb6.mono HB5.out.size)
  have I6 : Hid (SOwn w6 (w4.heap.size + 1) (.slice j1 ts.length j2) ts) := I5.out.below hb6
  clear hb6 Y5 R5 X5 B5 I5 k0 k1 k2 k3
  have g0 := B6.out.tl.tl.tl.hd.c0
  have g1 := B6.out.tl.tl.tl.hd.c1
  have k0 := B6.out.tl.hd.c0
  have k1 := B6.out.tl.hd.c1
  have z0 := B6.out.tl.tl.tl.hd.lt
  have z1 := B6.out.tl.hd.lt
  have t6 : Hid (Two w.heap.size w4.heap.size (.slice a1 ss.length c1) (.slice a2 ps.length c2) (.slice x1 ss.length x2) (.slice x3 ps.length x4) w6.drew) := ⟨g0, g1, k0, k1⟩
  go_wp2
  go_region_held3 (fun w' => w'.cell? ⟨w.heap.size, 0, none⟩ = some (.slice a1 ss.length c1) ∧ w'.cell? ⟨w.heap.size, 1, none⟩ = some (.slice a2 ps.length c2) ∧ w'.cell? ⟨w4.heap.size, 0, none⟩ = some (.slice x1 ss.length x2) ∧ w'.cell? ⟨w4.heap.size, 1, none⟩ = some (.slice x3 ps.length x4)) (first | go_keep | exact t8.out | exact t7.out) ((first | (go_at_call 23; refine (to44 ss ps a1 a2 c1 c2 (by omega) (by omega) _ (HA.out.s.below HB6.out.drew) (HA.out.p.below HB6.out.drew)).mono ?_; rintro e w7 ⟨q1, q2, q3, q4, rfl, hd7, hb7⟩; have t7 : Hid (Two w.heap.size w4.heap.size (.slice a1 ss.length c1) (.slice a2 ps.length c2) (.slice x1 ss.length x2) (.slice x3 ps.length x4) w7) := Two.keep t6.out hb7 z0 z1) | (go_at_call 18; refine (eq40 x1 x3 q1 q3 x2 x4 q2 q4 ss ps (by omega) (by omega) _ (X6.out.drew.d.s.srow.below hb7) (X6.out.drew.d.p.prow.below hb7) hd7.s.srow hd7.p.prow).mono ?_; rintro e w8 ⟨rfl, hb8⟩; have t8 : Hid (Two w.heap.size w4.heap.size (.slice a1 ss.length c1) (.slice a2 ps.length c2) (.slice x1 ss.length x2) (.slice x3 ps.length x4) w8) := Two.keep t7.out hb8 (Nat.lt_of_lt_of_le z0 hb7.size) (Nat.lt_of_lt_of_le z1 hb7.size))))
  all_goals
    have b78 : Below w6.heap.size w6 w8 := (undrew hb7).trans (hb8.mono hb7.size)
    have Y8 : Hid (DR w8 wk.heap.size w5.heap.size y1 y2 y3 y4 (swS ss ps ts) ps) := Y6.out.keep b78
    have R8 : Hid (DR w8 w2.heap.size w3.heap.size r1 r2 r3 r4 (swS ss ps ts) ps) := R6.out.keep b78
    have X8 : Hid (DR w8 (w3.heap.size + 1) w4.heap.size x1 x2 x3 x4 ss ps) := X6.out.keep b78
    have B8 : Hid (Bxs w8 [(w5.heap.size, .slice y1 (swS ss ps ts).length y2, .slice y3 ps.length y4), (w4.heap.size, .slice x1 ss.length x2, .slice x3 ps.length x4), (w3.heap.size, .slice r1 (swS ss ps ts).length r2, .slice r3 ps.length r4), (w.heap.size, .slice a1 ss.length c1, .slice a2 ps.length c2)]) := B6.out.keep b78
    have HB8 : Hid (Below w.heap.size w w8) := HB6.out.trans (b78.mono HB6.out.size)
    have I8 : Hid (SOwn w8 (w4.heap.size + 1) (.slice j1 ts.length j2) ts) := I6.out.below b78
    clear hb7 hb8 hd7 b78 t6 t7 t8 Y6 R6 X6 B6 I6 g0 g1 k0 k1 z0 z1
    go_wp2_with fail
    refine (to80 ts ak ck hkn _ (HKR.out.below HB8.out)).mono ?_
    rintro e wm ⟨m1, m2, rfl, him, hbm⟩
    have HIm : Hid (SRow wm m1 ts) := him.srow
    have HJm : Hid (SRow wm j1 ts) := (I8.out.below hbm).srow
    have HBM : Hid (Below w8.heap.size w8 wm) := hbm
    clear him hbm
    go_wp2_with fail
    refine (eq72 j1 m1 j2 m2 ts hkn _ HJm.out HIm.out).mono ?_
    rintro e wn ⟨rfl, hbn⟩
    have bn : Below w8.heap.size w8 wn := HBM.out.trans (hbn.mono HBM.out.size)
    have Yn : Hid (DR wn wk.heap.size w5.heap.size y1 y2 y3 y4 (swS ss ps ts) ps) := Y8.out.keep bn
    have Rn : Hid (DR wn w2.heap.size w3.heap.size r1 r2 r3 r4 (swS ss ps ts) ps) := R8.out.keep bn
    have Xn : Hid (DR wn (w3.heap.size + 1) w4.heap.size x1 x2 x3 x4 ss ps) := X8.out.keep bn
    have In : Hid (SOwn wn (w4.heap.size + 1) (.slice j1 ts.length j2) ts) := I8.out.below bn
    have Bn : Hid (Bxs wn [(w5.heap.size, .slice y1 (swS ss ps ts).length y2, .slice y3 ps.length y4), (w4.heap.size, .slice x1 ss.length x2, .slice x3 ps.length x4), (w3.heap.size, .slice r1 (swS ss ps ts).length r2, .slice r3 ps.length r4), (w.heap.size, .slice a1 ss.length c1, .slice a2 ps.length c2)]) := B8.out.keep bn
    have HBn : Hid (Below w.heap.size w wn) := HB8.out.trans (bn.mono HB8.out.size)
    clear hbn bn HBM HIm HJm Y8 R8 X8 I8 B8 HB8
    have k0 := Bn.out.tl.hd.c0
    have k1 := Bn.out.tl.hd.c1
    go_wp2_with fail
    refine (mark41 ss.length ps.length 1 x1 x3 x2 x4 (w3.heap.size + 1) _ _ (by omega) (by omega) (by omega) (by omega) _ Xn.out.d.s Xn.out.d.p).mono ?_
    rintro e wp ⟨rfl, _, _, hk9⟩
    have Yp : Hid (DR wp wk.heap.size w5.heap.size y1 y2 y3 y4 (swS ss ps ts) ps) := Yn.out.kept2 hk9 Xn.out.u1 Xn.out.u2 (Or.inr (by omega))
    have Rp : Hid (DR wp w2.heap.size w3.heap.size r1 r2 r3 r4 (swS ss ps ts) ps) := Rn.out.kept2 hk9 Xn.out.u1 Xn.out.u2 (Or.inl (by omega))
    have Bp : Hid (Bxs wp [(w5.heap.size, .slice y1 (swS ss ps ts).length y2, .slice y3 ps.length y4), (w4.heap.size, .slice x1 ss.length x2, .slice x3 ps.length x4), (w3.heap.size, .slice r1 (swS ss ps ts).length r2, .slice r3 ps.length r4), (w.heap.size, .slice a1 ss.length c1, .slice a2 ps.length c2)]) := Bn.out.kept2 hk9 (w3.heap.size + 1) w4.heap.size Xn.out.u1 Xn.out.u2 (fun q hq => by
      simp only [List.mem_cons, List.not_mem_nil, or_false] at hq
      rcases hq with rfl | rfl | rfl | rfl <;> simp <;> omega)
    have HBp : Hid (Below w.heap.size w wp) := HBn.out.trans (hk9.below _ HBn.out.size (fun k hk => by have := Xn.out.u1 k hk; omega) (fun k hk => by have := Xn.out.u2 k hk; omega))
    have Ip : Hid (SOwn wp (w4.heap.size + 1) (.slice j1 ts.length j2) ts) := own_block In.out (fun k hk => hk9.block k (World.ownsRow.lt In.out k hk).2 (fun e => by have := Xn.out.u1 _ e.symm; have := IU.out k hk; omega) (fun e => by have := Xn.out.u2 _ e.symm; have := IU.out k hk; omega))
    clear hk9 Yn Rn Bn k0 k1 Xn In HBn
    go_wp2_with fail
    refine (mark74 ts.length (1 + ss.length + 2 * ps.length) j1 j2 (w4.heap.size + 1) _ hkn (by omega) (by omega) _ Ip.out).mono ?_
    rintro e w9 ⟨rfl, _, hkG⟩
    have hkI := kept_of_grown hkG
    have Y9 : Hid (DR w9 wk.heap.size w5.heap.size y1 y2 y3 y4 (swS ss ps ts) ps) := Yp.out.kept2 hkI IU.out IU.out (Or.inr (by omega))
    have R9 : Hid (DR w9 w2.heap.size w3.heap.size r1 r2 r3 r4 (swS ss ps ts) ps) := Rp.out.kept2 hkI IU.out IU.out (Or.inl (by omega))
    have B9 : Hid (Bxs w9 [(w5.heap.size, .slice y1 (swS ss ps ts).length y2, .slice y3 ps.length y4), (w4.heap.size, .slice x1 ss.length x2, .slice x3 ps.length x4), (w3.heap.size, .slice r1 (swS ss ps ts).length r2, .slice r3 ps.length r4), (w.heap.size, .slice a1 ss.length c1, .slice a2 ps.length c2)]) := Bp.out.kept2 hkI (w4.heap.size + 1) wk.heap.size IU.out IU.out (fun q hq => by
      simp only [List.mem_cons, List.not_mem_nil, or_false] at hq
      rcases hq with rfl | rfl | rfl | rfl <;> simp <;> omega)
    have HB9 : Hid (Below w.heap.size w w9) := HBp.out.trans (hkI.below _ HBp.out.size (fun k hk => by have := IU.out k hk; omega) (fun k hk => by have := IU.out k hk; omega))
    clear hkI Yp Rp Bp HBp Ip
    have hnn : ¬ ((1 + ss.length + 2 * ps.length + ts.length : Nat) : Int) < 0 := by omega
    have k0 := B9.out.hd.c0
    have k1 := B9.out.hd.c1
    have k2 := B9.out.tl.tl.hd.c0
    have k3 := B9.out.tl.tl.hd.c1
    go_wp2_with fail
    refine (eq40 y1 y3 r1 r3 y2 y4 r2 r4 (swS ss ps ts) ps hrs hrp _ Y9.out.d.s.srow Y9.out.d.p.prow R9.out.d.s.srow R9.out.d.p.prow).mono ?_
    rintro e w10 ⟨rfl, hb10⟩
    have Y10 : Hid (DR w10 wk.heap.size w5.heap.size y1 y2 y3 y4 (swS ss ps ts) ps) := Y9.out.keep hb10
    have R10 : Hid (DR w10 w2.heap.size w3.heap.size r1 r2 r3 r4 (swS ss ps ts) ps) := R9.out.keep hb10
    have B10 : Hid (Bxs w10 [(w5.heap.size, .slice y1 (swS ss ps ts).length y2, .slice y3 ps.length y4), (w4.heap.size, .slice x1 ss.length x2, .slice x3 ps.length x4), (w3.heap.size, .slice r1 (swS ss ps ts).length r2, .slice r3 ps.length r4), (w.heap.size, .slice a1 ss.length c1, .slice a2 ps.length c2)]) := B9.out.keep hb10
    have HB10 : Hid (Below w.heap.size w w10) := HB9.out.trans (hb10.mono HB9.out.size)
    clear hb10 Y9 R9 B9 k0 k1 k2 k3 hnn
    have k0 := B10.out.hd.c0
    have k1 := B10.out.hd.c1
    go_wp2_with fail
    refine (mark41 (swS ss ps ts).length ps.length 1 y1 y3 y2 y4 wk.heap.size _ _ hrs hrp (by omega) (by omega) _ Y10.out.d.s Y10.out.d.p).mono ?_
    rintro e w11 ⟨rfl, hs11, hp11, hk11⟩
    have HS11 : Hid (SRow w11 y1 (marks 1 (swS ss ps ts).length)) := by
      have h := hs11
      rw [show Value.slice y1 (swS ss ps ts).length y2 = .slice y1 (marks 1 (swS ss ps ts).length).length y2 by rw [marks_len]] at h
      exact h.srow
    have HP11 : Hid (PRow w11 y3 (pmarks (1 + (swS ss ps ts).length) ps.length)) := by
      have h := hp11
      rw [show Value.slice y3 ps.length y4 = .slice y3 (pmarks (1 + (swS ss ps ts).length) ps.length).length y4 by rw [pmarks_len]] at h
      exact h.prow
    have R11 : Hid (DR w11 w2.heap.size w3.heap.size r1 r2 r3 r4 (swS ss ps ts) ps) := R10.out.kept2 hk11 Y10.out.u1 Y10.out.u2 (Or.inl (by omega))
    have B11 : Hid (Bxs w11 [(w5.heap.size, .slice y1 (swS ss ps ts).length y2, .slice y3 ps.length y4), (w4.heap.size, .slice x1 ss.length x2, .slice x3 ps.length x4), (w3.heap.size, .slice r1 (swS ss ps ts).length r2, .slice r3 ps.length r4), (w.heap.size, .slice a1 ss.length c1, .slice a2 ps.length c2)]) := B10.out.kept2 hk11 wk.heap.size w5.heap.size Y10.out.u1 Y10.out.u2 (fun q hq => by
      simp only [List.mem_cons, List.not_mem_nil, or_false] at hq
      rcases hq with rfl | rfl | rfl | rfl <;> simp <;> omega)
    have HB11 : Hid (Below w.heap.size w w11) := HB10.out.trans (hk11.below _ HB10.out.size (fun k hk => by have := Y10.out.u1 k hk; omega) (fun k hk => by have := Y10.out.u2 k hk; omega))
    clear hk11 hs11 hp11 Y10 R10 B10 k0 k1
    have k0 := B11.out.hd.c0
    have k1 := B11.out.hd.c1
    go_wp2_with fail
    refine (held42 (swS ss ps ts).length ps.length 1 y1 y3 y2 y4 hrs hrp (by omega) (by omega) _ HS11.out HP11.out).mono ?_
    rintro e w12 ⟨rfl, hb12⟩
    have HS12 : Hid (SRow w12 y1 (marks 1 (swS ss ps ts).length)) := HS11.out.below hb12
    have HP12 : Hid (PRow w12 y3 (pmarks (1 + (swS ss ps ts).length) ps.length)) := HP11.out.below hb12
    have R12 : Hid (DR w12 w2.heap.size w3.heap.size r1 r2 r3 r4 (swS ss ps ts) ps) := R11.out.keep hb12
    have B12 : Hid (Bxs w12 [(w5.heap.size, .slice y1 (swS ss ps ts).length y2, .slice y3 ps.length y4), (w4.heap.size, .slice x1 ss.length x2, .slice x3 ps.length x4), (w3.heap.size, .slice r1 (swS ss ps ts).length r2, .slice r3 ps.length r4), (w.heap.size, .slice a1 ss.length c1, .slice a2 ps.length c2)]) := B11.out.keep hb12
    have HB12 : Hid (Below w.heap.size w w12) := HB11.out.trans (hb12.mono HB11.out.size)
    clear hb12 HS11 HP11 R11 B11 k0 k1
    have hnn : ¬ ((1 + (swS ss ps ts).length + 2 * ps.length : Nat) : Int) < 0 := by omega
    have g0 := B12.out.tl.tl.tl.hd.c0
    have g1 := B12.out.tl.tl.tl.hd.c1
    go_wp2_with fail
    refine (to44 ss ps a1 a2 c1 c2 (by omega) (by omega) _ (HA.out.s.below HB12.out) (HA.out.p.below HB12.out)).mono ?_
    rintro e w13 ⟨o1, o2, o3, o4, rfl, hd13, hb13⟩
    have HD13 : Hid (DOwn w13 w12.heap.size o1 o2 o3 o4 ss ps) := hd13
    have HS13 : Hid (SRow w13 y1 (marks 1 (swS ss ps ts).length)) := HS12.out.below hb13
    have HP13 : Hid (PRow w13 y3 (pmarks (1 + (swS ss ps ts).length) ps.length)) := HP12.out.below hb13
    have R13 : Hid (DR w13 w2.heap.size w3.heap.size r1 r2 r3 r4 (swS ss ps ts) ps) := R12.out.keep hb13
    have B13 : Hid (Bxs w13 [(w5.heap.size, .slice y1 (swS ss ps ts).length y2, .slice y3 ps.length y4), (w4.heap.size, .slice x1 ss.length x2, .slice x3 ps.length x4), (w3.heap.size, .slice r1 (swS ss ps ts).length r2, .slice r3 ps.length r4), (w.heap.size, .slice a1 ss.length c1, .slice a2 ps.length c2)]) := B12.out.keep hb13
    have HB13 : Hid (Below w.heap.size w w13) := HB12.out.trans (hb13.mono HB12.out.size)
    clear hd13 hb13 HS12 HP12 R12 B12 g0 g1
    go_wp2_with fail
    refine (to80 ts ak ck hkn _ (HKR.out.below HB13.out)).mono ?_
    rintro e wo ⟨o5, o6, rfl, hio, hbo⟩
    have HIo : Hid (SRow wo o5 ts) := hio.srow
    have HDo : Hid (DOwn wo w12.heap.size o1 o2 o3 o4 ss ps) := HD13.out.below hbo
    have HSo : Hid (SRow wo y1 (marks 1 (swS ss ps ts).length)) := HS13.out.below hbo
    have HPo : Hid (PRow wo y3 (pmarks (1 + (swS ss ps ts).length) ps.length)) := HP13.out.below hbo
    have Ro : Hid (DR wo w2.heap.size w3.heap.size r1 r2 r3 r4 (swS ss ps ts) ps) := R13.out.keep hbo
    have Bo : Hid (Bxs wo [(w5.heap.size, .slice y1 (swS ss ps ts).length y2, .slice y3 ps.length y4), (w4.heap.size, .slice x1 ss.length x2, .slice x3 ps.length x4), (w3.heap.size, .slice r1 (swS ss ps ts).length r2, .slice r3 ps.length r4), (w.heap.size, .slice a1 ss.length c1, .slice a2 ps.length c2)]) := B13.out.keep hbo
    have HBo : Hid (Below w.heap.size w wo) := HB13.out.trans (hbo.mono HB13.out.size)
    clear hio hbo HD13 HS13 HP13 R13 B13 HB13
    go_wp2_with fail
    refine (isw43 ss ps ts o1 o3 o5 o2 o4 o6 (by omega) (by omega) HLS2.out HLP2.out htn HTS.out _ (HDo.out).s.srow (HDo.out).p.prow HIo.out).mono ?_
    rintro e w14 ⟨n1, n2, n3, n4, rfl, hd14, hb14⟩
    have N14 : Hid (DOwn (w14.alloc (.cells #[.slice n1 (swS ss ps ts).length n2, .slice n3 ps.length n4] 27)) wo.heap.size n1 n2 n3 n4 (swS ss ps ts) ps) := hd14.below ((belowRefl w14).alloc (Nat.le_refl _) _)
    have b14 : Below wo.heap.size wo (w14.alloc (.cells #[.slice n1 (swS ss ps ts).length n2, .slice n3 ps.length n4] 27)) := hb14.alloc hb14.size _
    have HS14 : Hid (SRow (w14.alloc (.cells #[.slice n1 (swS ss ps ts).length n2, .slice n3 ps.length n4] 27)) y1 (marks 1 (swS ss ps ts).length)) := HSo.out.below b14
    have HP14 : Hid (PRow (w14.alloc (.cells #[.slice n1 (swS ss ps ts).length n2, .slice n3 ps.length n4] 27)) y3 (pmarks (1 + (swS ss ps ts).length) ps.length)) := HPo.out.below b14
    have R14 : Hid (DR (w14.alloc (.cells #[.slice n1 (swS ss ps ts).length n2, .slice n3 ps.length n4] 27)) w2.heap.size w3.heap.size r1 r2 r3 r4 (swS ss ps ts) ps) := Ro.out.keep b14
    have B14 : Hid (Bxs (w14.alloc (.cells #[.slice n1 (swS ss ps ts).length n2, .slice n3 ps.length n4] 27)) [(w14.heap.size, .slice n1 (swS ss ps ts).length n2, .slice n3 ps.length n4), (w5.heap.size, .slice y1 (swS ss ps ts).length y2, .slice y3 ps.length y4), (w4.heap.size, .slice x1 ss.length x2, .slice x3 ps.length x4), (w3.heap.size, .slice r1 (swS ss ps ts).length r2, .slice r3 ps.length r4), (w.heap.size, .slice a1 ss.length c1, .slice a2 ps.length c2)]) := (Bo.out.keep hb14).new _ _ 27
    have HB14 : Hid (Below w.heap.size w (w14.alloc (.cells #[.slice n1 (swS ss ps ts).length n2, .slice n3 ps.length n4] 27))) := HBo.out.trans (b14.mono HBo.out.size)
    clear hd14 hb14 b14 HSo HPo Ro Bo HDo HBo HIo
    have k0 := B14.out.hd.c0
    have k1 := B14.out.hd.c1
    have k2 := B14.out.tl.tl.tl.hd.c0
    have k3 := B14.out.tl.tl.tl.hd.c1
    go_wp2_with fail
    refine (eq40 n1 n3 r1 r3 n2 n4 r2 r4 (swS ss ps ts) ps hrs hrp _ N14.out.s.srow N14.out.p.prow R14.out.d.s.srow R14.out.d.p.prow).mono ?_
    rintro e w15 ⟨rfl, hb15⟩
    have HS15 : Hid (SRow w15 y1 (marks 1 (swS ss ps ts).length)) := HS14.out.below hb15
    have HP15 : Hid (PRow w15 y3 (pmarks (1 + (swS ss ps ts).length) ps.length)) := HP14.out.below hb15
    have B15 : Hid (Bxs w15 [(w14.heap.size, .slice n1 (swS ss ps ts).length n2, .slice n3 ps.length n4), (w5.heap.size, .slice y1 (swS ss ps ts).length y2, .slice y3 ps.length y4), (w4.heap.size, .slice x1 ss.length x2, .slice x3 ps.length x4), (w3.heap.size, .slice r1 (swS ss ps ts).length r2, .slice r3 ps.length r4), (w.heap.size, .slice a1 ss.length c1, .slice a2 ps.length c2)]) := B14.out.keep hb15
    have HB15 : Hid (Below w.heap.size w w15) := HB14.out.trans (hb15.mono HB14.out.size)
    clear hb15 HS14 HP14 R14 B14 N14 k0 k1 k2 k3
    have k0 := B15.out.tl.hd.c0
    have k1 := B15.out.tl.hd.c1
    go_wp2_with fail
    refine (held42 (swS ss ps ts).length ps.length 1 y1 y3 y2 y4 hrs hrp (by omega) (by omega) _ HS15.out HP15.out).mono ?_
    rintro e w16 ⟨rfl, hb16⟩
    have HB16 : Hid (Below w.heap.size w w16) := HB15.out.trans (hb16.mono HB15.out.size)
    clear hb16
    go_wp2
    go_ret
    exact ⟨rfl, HB16.out⟩
end Go.Proofs.Ytdfkpnimlhcchaa
