/- What spec.PutRecord returns. -/
import Derived.Test.YtekjpoenbcnhdaaGreatPa12
import Derived.Test.YtekjpoenbcnhdaaGreatPa01
import Derived.Test.YtekjpoenbcnhdaaGreatPa08
namespace Go.Proofs.YtekjpoenbcnhdaaGreat
open Go.RowKit
open DM
attribute [local go_sem ↓] Go.wp_at_zero Go.wp_at_succ

theorem prS_lp {ss : List ByteArray} {ps : List Wr} {a : Int} {t : ByteArray} (h : logB ss ps = true) : prB ss ps a t = recB ss ps a t ∧ prS ss ps a t = lpS ss ps a t := by
 have e : prB ss ps a t = recB ss ps a t := by simp [prB, h]
 refine ⟨e, ?_⟩
 unfold prS lpS
 rw [e]
theorem recB_na {ss : List ByteArray} {ps : List Wr} {a : Int} {t : ByteArray} (h : isA a = false) : recB ss ps a t = false := by
 cases hb : recB ss ps a t with
 | false => rfl
 | true => rw [(recB_parts hb).2.2.2.2] at h; cases h

set_option maxRecDepth 100000 in
set_option maxHeartbeats 8000000 in
theorem spr36 (ss : List ByteArray) (ps : List Wr) (a : Int) (t : ByteArray) (a1 a2 : Option Addr) (c1 c2 B0 : Nat) (hn : ss.length ≤ 1048576) (hm : ps.length ≤ 1048576) (hs : ∀ s ∈ ss, s.size ≤ 1048576) (hp : ∀ p ∈ ps, p.2.size ≤ 1048576) (htz : t.size ≤ 1048576) (w : World) (hd : DOwn w B0 a1 c1 a2 c2 ss ps) :
  Calls Tryz.prog 64 #[.agg #[.slice a1 ss.length c1, .slice a2 ps.length c2], .int .i64 a, .string t] w fun e w' => ∃ b1 d1 b2 d2, e = .returned (.tuple #[.agg #[.slice b1 (prS ss ps a t).length d1, .slice b2 ps.length d2], .bool (prB ss ps a t)]) ∧ DOwn w' w.heap.size b1 d1 b2 d2 (prS ss ps a t) ps ∧ Below w.heap.size w w' := by
 have HD : Hid (DOwn w B0 a1 c1 a2 c2 ss ps) := hd
 have HLO : Hid (∀ W : World, DOwn W B0 a1 c1 a2 c2 ss ps → Calls Tryz.prog 53 #[.agg #[.slice a1 ss.length c1, .slice a2 ps.length c2]] W fun e w' => e = .returned (.bool (logB ss ps)) ∧ Below W.heap.size W w') := fun W h => slok22 ss ps a1 a2 c1 c2 hn hm hs hp W h.s.srow h.p.prow
 have HIN : Hid (∀ W : World, Calls Tryz.prog 83 #[.int .i64 a, .int .i64 0, .int .i64 1] W fun e w' => e = .returned (.bool (isA a)) ∧ w' = W) := fun W => in57 a 0 1 (isA a) rfl W
 have HCP : Hid (∀ (W : World) (B : Nat) (x1 : Option Addr) (x2 : Nat) (x3 : Option Addr) (x4 : Nat), DOwn W B x1 x2 x3 x4 ss ps → Calls Tryz.prog 25 #[.agg #[.slice x1 ss.length x2, .slice x3 ps.length x4]] W fun e w' => ∃ f1 f2 f3 f4, e = .returned (.agg #[.slice f1 ss.length f2, .slice f3 ps.length f4]) ∧ DOwn w' W.heap.size f1 f2 f3 f4 ss ps ∧ Below W.heap.size W w') := fun W B x1 x2 x3 x4 h => copy64 ss ps x1 x3 x2 x4 B (by omega) (by omega) W h
 have b0 : Hid (Below w.heap.size w ((w.alloc (.cells #[.slice a1 ss.length c1, .slice a2 ps.length c2] 27)).alloc (.cells #[.slice none 0 0, .slice none 0 0] 27))) := ((belowRefl w).alloc (Nat.le_refl _) _).alloc (by simp) _
 have X0 : Hid (Bx ((w.alloc (.cells #[.slice a1 ss.length c1, .slice a2 ps.length c2] 27)).alloc (.cells #[.slice none 0 0, .slice none 0 0] 27)) w.heap.size (.slice a1 ss.length c1) (.slice a2 ps.length c2)) := (Bx.new w _ _ _).alloc _
 have X1 : Hid (Bx ((w.alloc (.cells #[.slice a1 ss.length c1, .slice a2 ps.length c2] 27)).alloc (.cells #[.slice none 0 0, .slice none 0 0] 27)) (w.heap.size + 1) (.slice none 0 0) (.slice none 0 0)) := by
  have h := Bx.new (w.alloc (.cells #[.slice a1 ss.length c1, .slice a2 ps.length c2] 27)) (.slice none 0 0) (.slice none 0 0) 27
  rw [World.size_alloc] at h
  exact h
 have HD0 : Hid (DOwn ((w.alloc (.cells #[.slice a1 ss.length c1, .slice a2 ps.length c2] 27)).alloc (.cells #[.slice none 0 0, .slice none 0 0] 27)) B0 a1 c1 a2 c2 ss ps) := HD.out.below b0.out
 cases hl : logB ss ps with
 | false =>
  have HN : Hid (prB ss ps a t = false ∧ prS ss ps a t = ss) := prS_no1 hl
  rw [HN.out.1, HN.out.2]
  rw [hl] at HLO
  clear hl hd hs hp HD
  go_enter Tryz.func64, Tryz.ntmps64
  go_wp2_with fail
  refine (HLO.out _ HD0.out).mono ?_
  rintro e w1 ⟨rfl, hb1⟩
  have Y01 : Hid (Bx w1 w.heap.size (.slice a1 ss.length c1) (.slice a2 ps.length c2)) := X0.out.keep hb1 X0.out.lt
  have Y11 : Hid (Bx w1 (w.heap.size + 1) (.slice none 0 0) (.slice none 0 0)) := X1.out.keep hb1 X1.out.lt
  have HB1 : Hid (Below w.heap.size w w1) := b0.out.trans (hb1.mono b0.out.size)
  have g01 := Y01.out.c0
  have g11 := Y01.out.c1
  go_wp2_with fail
  refine (HCP.out _ _ _ _ _ _ (HD0.out.below hb1)).mono ?_
  rintro e w9 ⟨y1, y2, y3, y4, rfl, hd9, hb9⟩
  have Y09 : Hid (Bx w9 w.heap.size (.slice a1 ss.length c1) (.slice a2 ps.length c2)) := Y01.out.keep hb9 Y01.out.lt
  have Y19 : Hid (Bx w9 (w.heap.size + 1) (.slice none 0 0) (.slice none 0 0)) := Y11.out.keep hb9 Y11.out.lt
  have HB9 : Hid (Below w.heap.size w w9) := HB1.out.trans (hb9.mono HB1.out.size)
  have g09 := Y09.out.c0
  have g19 := Y09.out.c1
  have HD9 : Hid (DOwn w9 (w.heap.size + 1 + 1) y1 y2 y3 y4 ss ps) := hd9.mono Y11.out.lt
  clear hd9 hb9
  have r0 := Y19.out.c0
  have r1 := Y19.out.c1
  have rf := Y19.out.fz
  have V9 : Hid (Bx ((w9.setCell ⟨w.heap.size + 1, 0, none⟩ (.slice y1 ss.length y2)).setCell ⟨w.heap.size + 1, 1, none⟩ (.slice y3 ps.length y4)) (w.heap.size + 1) (.slice y1 ss.length y2) (.slice y3 ps.length y4)) := (Y19.out.set0 _).set1 _
  have q0 := V9.out.c0
  have q1 := V9.out.c1
  go_wp2
  refine bodyPost_ret (v := .tuple #[.agg #[.slice y1 ss.length y2, .slice y3 ps.length y4], .bool false]) (by simp [results, Tryz.results64, go_sem, q0, q1]) rfl ⟨y1, y2, y3, y4, rfl, ⟨?_, ?_⟩, ?_⟩
  ·exact ((HD9.out.s.set (by show w.heap.size + 1 < _; omega) _).set (by show w.heap.size + 1 < _; omega) _).mono (by omega)
  ·exact ((HD9.out.p.set (by show w.heap.size + 1 < _; omega) _).set (by show w.heap.size + 1 < _; omega) _).mono (by omega)
  ·exact (HB9.out.setCell (by show _ ≤ w.heap.size + 1; omega) _).setCell (by show _ ≤ w.heap.size + 1; omega) _
 | true =>
  have hpr := prS_lp (a := a) (t := t) hl
  have hlp := logB_parts hl
  rw [hpr.1, hpr.2]
  rw [hl] at HLO
  cases hA : isA a with
  | false =>
   have HN : Hid (recB ss ps a t = false) := recB_na hA
   rw [lpS_no HN.out, HN.out]
   rw [hA] at HIN
   clear hl hd hs hp HD hpr hlp hA
   go_enter Tryz.func64, Tryz.ntmps64
   go_wp2_with fail
   refine (HLO.out _ HD0.out).mono ?_
   rintro e w1 ⟨rfl, hb1⟩
   have Y01 : Hid (Bx w1 w.heap.size (.slice a1 ss.length c1) (.slice a2 ps.length c2)) := X0.out.keep hb1 X0.out.lt
   have Y11 : Hid (Bx w1 (w.heap.size + 1) (.slice none 0 0) (.slice none 0 0)) := X1.out.keep hb1 X1.out.lt
   have HB1 : Hid (Below w.heap.size w w1) := b0.out.trans (hb1.mono b0.out.size)
   have g01 := Y01.out.c0
   have g11 := Y01.out.c1
   go_wp2_with fail
   refine (HIN.out _).mono ?_
   rintro e w1 ⟨rfl, rfl⟩
   go_wp2_with fail
   refine (HCP.out _ _ _ _ _ _ (HD0.out.below hb1)).mono ?_
   rintro e w9 ⟨y1, y2, y3, y4, rfl, hd9, hb9⟩
   have Y09 : Hid (Bx w9 w.heap.size (.slice a1 ss.length c1) (.slice a2 ps.length c2)) := Y01.out.keep hb9 Y01.out.lt
   have Y19 : Hid (Bx w9 (w.heap.size + 1) (.slice none 0 0) (.slice none 0 0)) := Y11.out.keep hb9 Y11.out.lt
   have HB9 : Hid (Below w.heap.size w w9) := HB1.out.trans (hb9.mono HB1.out.size)
   have g09 := Y09.out.c0
   have g19 := Y09.out.c1
   have HD9 : Hid (DOwn w9 (w.heap.size + 1 + 1) y1 y2 y3 y4 ss ps) := hd9.mono Y11.out.lt
   clear hd9 hb9
   have r0 := Y19.out.c0
   have r1 := Y19.out.c1
   have rf := Y19.out.fz
   have V9 : Hid (Bx ((w9.setCell ⟨w.heap.size + 1, 0, none⟩ (.slice y1 ss.length y2)).setCell ⟨w.heap.size + 1, 1, none⟩ (.slice y3 ps.length y4)) (w.heap.size + 1) (.slice y1 ss.length y2) (.slice y3 ps.length y4)) := (Y19.out.set0 _).set1 _
   have q0 := V9.out.c0
   have q1 := V9.out.c1
   go_wp2
   refine bodyPost_ret (v := .tuple #[.agg #[.slice y1 ss.length y2, .slice y3 ps.length y4], .bool false]) (by simp [results, Tryz.results64, go_sem, q0, q1]) rfl ⟨y1, y2, y3, y4, rfl, ⟨?_, ?_⟩, ?_⟩
   ·exact ((HD9.out.s.set (by show w.heap.size + 1 < _; omega) _).set (by show w.heap.size + 1 < _; omega) _).mono (by omega)
   ·exact ((HD9.out.p.set (by show w.heap.size + 1 < _; omega) _).set (by show w.heap.size + 1 < _; omega) _).mono (by omega)
   ·exact (HB9.out.setCell (by show _ ≤ w.heap.size + 1; omega) _).setCell (by show _ ≤ w.heap.size + 1; omega) _
  | true =>
   have HPU : Hid (∀ (W : World) (B : Nat) (x1 : Option Addr) (x2 : Nat) (x3 : Option Addr) (x4 : Nat), DOwn W B x1 x2 x3 x4 ss ps → Calls Tryz.prog 84 #[.agg #[.slice x1 ss.length x2, .slice x3 ps.length x4], .int .i64 a, .string t] W fun e w' => ∃ f1 f2 f3 f4, e = .returned (.tuple #[.agg #[.slice f1 (lpS ss ps a t).length f2, .slice f3 ps.length f4], .bool (recB ss ps a t)]) ∧ DOwn w' W.heap.size f1 f2 f3 f4 (lpS ss ps a t) ps ∧ Below W.heap.size W w') := fun W B x1 x2 x3 x4 h => sput69 ss ps a t x1 x3 x2 x4 B hA hlp.1 hlp.2.2 hlp.2.1 htz W h
   rw [hA] at HIN
   cases hB : recB ss ps a t with
   | false =>
    rw [lpS_no hB]
    rw [hB, lpS_no hB] at HPU
    clear hl hd hs hp HD hpr hlp hA hB
    go_enter Tryz.func64, Tryz.ntmps64
    go_wp2_with fail
    refine (HLO.out _ HD0.out).mono ?_
    rintro e w1 ⟨rfl, hb1⟩
    have Y01 : Hid (Bx w1 w.heap.size (.slice a1 ss.length c1) (.slice a2 ps.length c2)) := X0.out.keep hb1 X0.out.lt
    have Y11 : Hid (Bx w1 (w.heap.size + 1) (.slice none 0 0) (.slice none 0 0)) := X1.out.keep hb1 X1.out.lt
    have HB1 : Hid (Below w.heap.size w w1) := b0.out.trans (hb1.mono b0.out.size)
    have g01 := Y01.out.c0
    have g11 := Y01.out.c1
    go_wp2_with fail
    refine (HIN.out _).mono ?_
    rintro e w1 ⟨rfl, rfl⟩
    go_wp2_with fail
    refine (HPU.out _ _ _ _ _ _ (HD0.out.below hb1)).mono ?_
    rintro e w3 ⟨y1, y2, y3, y4, rfl, hd3, hb3⟩
    have Y03 : Hid (Bx w3 w.heap.size (.slice a1 ss.length c1) (.slice a2 ps.length c2)) := Y01.out.keep hb3 Y01.out.lt
    have Y13 : Hid (Bx w3 (w.heap.size + 1) (.slice none 0 0) (.slice none 0 0)) := Y11.out.keep hb3 Y11.out.lt
    have HB3 : Hid (Below w.heap.size w w3) := HB1.out.trans (hb3.mono HB1.out.size)
    have g03 := Y03.out.c0
    have g13 := Y03.out.c1
    have Y04 : Hid (Bx (w3.alloc (.cells #[.slice y1 ss.length y2, .slice y3 ps.length y4] 27)) w.heap.size (.slice a1 ss.length c1) (.slice a2 ps.length c2)) := Y03.out.alloc _
    have Y14 : Hid (Bx (w3.alloc (.cells #[.slice y1 ss.length y2, .slice y3 ps.length y4] 27)) (w.heap.size + 1) (.slice none 0 0) (.slice none 0 0)) := Y13.out.alloc _
    have Y24 : Hid (Bx (w3.alloc (.cells #[.slice y1 ss.length y2, .slice y3 ps.length y4] 27)) w3.heap.size (.slice y1 ss.length y2) (.slice y3 ps.length y4)) := Bx.new w3 _ _ _
    have HB4 : Hid (Below w.heap.size w (w3.alloc (.cells #[.slice y1 ss.length y2, .slice y3 ps.length y4] 27))) := HB3.out.alloc HB3.out.size _
    have HD4 : Hid (DOwn (w3.alloc (.cells #[.slice y1 ss.length y2, .slice y3 ps.length y4] 27)) B0 a1 c1 a2 c2 ss ps) := ((HD0.out.below hb1).below hb3).below ((belowRefl w3).alloc (Nat.le_refl _) _)
    have HY4 : Hid (DOwn (w3.alloc (.cells #[.slice y1 ss.length y2, .slice y3 ps.length y4] 27)) (w.heap.size + 1 + 1) y1 y2 y3 y4 ss ps) := (hd3.mono Y11.out.lt).below ((belowRefl w3).alloc (Nat.le_refl _) _)
    have g04 := Y04.out.c0
    have g14 := Y04.out.c1
    have g24 := Y24.out.c0
    have g34 := Y24.out.c1
    clear hd3 hb3 hb1
    go_wp2_with fail
    refine (HCP.out _ _ _ _ _ _ HD4.out).mono ?_
    rintro e w9 ⟨z1, z2, z3, z4, rfl, hd9, hb9⟩
    have Y09 : Hid (Bx w9 w.heap.size (.slice a1 ss.length c1) (.slice a2 ps.length c2)) := Y04.out.keep hb9 Y04.out.lt
    have Y19 : Hid (Bx w9 (w.heap.size + 1) (.slice none 0 0) (.slice none 0 0)) := Y14.out.keep hb9 Y14.out.lt
    have HB9 : Hid (Below w.heap.size w w9) := HB4.out.trans (hb9.mono HB4.out.size)
    have g09 := Y09.out.c0
    have g19 := Y09.out.c1
    have HD9 : Hid (DOwn w9 (w.heap.size + 1 + 1) z1 z2 z3 z4 ss ps) := hd9.mono Y14.out.lt
    clear hd9 hb9
    have r0 := Y19.out.c0
    have r1 := Y19.out.c1
    have rf := Y19.out.fz
    have V9 : Hid (Bx ((w9.setCell ⟨w.heap.size + 1, 0, none⟩ (.slice z1 ss.length z2)).setCell ⟨w.heap.size + 1, 1, none⟩ (.slice z3 ps.length z4)) (w.heap.size + 1) (.slice z1 ss.length z2) (.slice z3 ps.length z4)) := (Y19.out.set0 _).set1 _
    have q0 := V9.out.c0
    have q1 := V9.out.c1
    go_wp2
    refine bodyPost_ret (v := .tuple #[.agg #[.slice z1 ss.length z2, .slice z3 ps.length z4], .bool false]) (by simp [results, Tryz.results64, go_sem, q0, q1]) rfl ⟨z1, z2, z3, z4, rfl, ⟨?_, ?_⟩, ?_⟩
    ·exact ((HD9.out.s.set (by show w.heap.size + 1 < _; omega) _).set (by show w.heap.size + 1 < _; omega) _).mono (by omega)
    ·exact ((HD9.out.p.set (by show w.heap.size + 1 < _; omega) _).set (by show w.heap.size + 1 < _; omega) _).mono (by omega)
    ·exact (HB9.out.setCell (by show _ ≤ w.heap.size + 1; omega) _).setCell (by show _ ≤ w.heap.size + 1; omega) _
   | true =>
    rw [hB] at HPU
    clear hl hd hs hp HD hpr hlp hA hB
    generalize lpS ss ps a t = LP at *
    go_enter Tryz.func64, Tryz.ntmps64
    go_wp2_with fail
    refine (HLO.out _ HD0.out).mono ?_
    rintro e w1 ⟨rfl, hb1⟩
    have Y01 : Hid (Bx w1 w.heap.size (.slice a1 ss.length c1) (.slice a2 ps.length c2)) := X0.out.keep hb1 X0.out.lt
    have Y11 : Hid (Bx w1 (w.heap.size + 1) (.slice none 0 0) (.slice none 0 0)) := X1.out.keep hb1 X1.out.lt
    have HB1 : Hid (Below w.heap.size w w1) := b0.out.trans (hb1.mono b0.out.size)
    have g01 := Y01.out.c0
    have g11 := Y01.out.c1
    go_wp2_with fail
    refine (HIN.out _).mono ?_
    rintro e w1 ⟨rfl, rfl⟩
    go_wp2_with fail
    refine (HPU.out _ _ _ _ _ _ (HD0.out.below hb1)).mono ?_
    rintro e w3 ⟨y1, y2, y3, y4, rfl, hd3, hb3⟩
    have Y03 : Hid (Bx w3 w.heap.size (.slice a1 ss.length c1) (.slice a2 ps.length c2)) := Y01.out.keep hb3 Y01.out.lt
    have Y13 : Hid (Bx w3 (w.heap.size + 1) (.slice none 0 0) (.slice none 0 0)) := Y11.out.keep hb3 Y11.out.lt
    have HB3 : Hid (Below w.heap.size w w3) := HB1.out.trans (hb3.mono HB1.out.size)
    have g03 := Y03.out.c0
    have g13 := Y03.out.c1
    have Y04 : Hid (Bx (w3.alloc (.cells #[.slice y1 LP.length y2, .slice y3 ps.length y4] 27)) w.heap.size (.slice a1 ss.length c1) (.slice a2 ps.length c2)) := Y03.out.alloc _
    have Y14 : Hid (Bx (w3.alloc (.cells #[.slice y1 LP.length y2, .slice y3 ps.length y4] 27)) (w.heap.size + 1) (.slice none 0 0) (.slice none 0 0)) := Y13.out.alloc _
    have Y24 : Hid (Bx (w3.alloc (.cells #[.slice y1 LP.length y2, .slice y3 ps.length y4] 27)) w3.heap.size (.slice y1 LP.length y2) (.slice y3 ps.length y4)) := Bx.new w3 _ _ _
    have HB4 : Hid (Below w.heap.size w (w3.alloc (.cells #[.slice y1 LP.length y2, .slice y3 ps.length y4] 27))) := HB3.out.alloc HB3.out.size _
    have HD4 : Hid (DOwn (w3.alloc (.cells #[.slice y1 LP.length y2, .slice y3 ps.length y4] 27)) B0 a1 c1 a2 c2 ss ps) := ((HD0.out.below hb1).below hb3).below ((belowRefl w3).alloc (Nat.le_refl _) _)
    have HY4 : Hid (DOwn (w3.alloc (.cells #[.slice y1 LP.length y2, .slice y3 ps.length y4] 27)) (w.heap.size + 1 + 1) y1 y2 y3 y4 LP ps) := (hd3.mono Y11.out.lt).below ((belowRefl w3).alloc (Nat.le_refl _) _)
    have g04 := Y04.out.c0
    have g14 := Y04.out.c1
    have g24 := Y24.out.c0
    have g34 := Y24.out.c1
    clear hd3 hb3 hb1
    have r0 := Y14.out.c0
    have r1 := Y14.out.c1
    have rf := Y14.out.fz
    have V9 : Hid (Bx (((w3.alloc (.cells #[.slice y1 LP.length y2, .slice y3 ps.length y4] 27)).setCell ⟨w.heap.size + 1, 0, none⟩ (.slice y1 LP.length y2)).setCell ⟨w.heap.size + 1, 1, none⟩ (.slice y3 ps.length y4)) (w.heap.size + 1) (.slice y1 LP.length y2) (.slice y3 ps.length y4)) := (Y14.out.set0 _).set1 _
    have q0 := V9.out.c0
    have q1 := V9.out.c1
    go_wp2
    refine bodyPost_ret (v := .tuple #[.agg #[.slice y1 LP.length y2, .slice y3 ps.length y4], .bool true]) (by simp [results, Tryz.results64, go_sem, q0, q1]) rfl ⟨y1, y2, y3, y4, rfl, ⟨?_, ?_⟩, ?_⟩
    ·exact ((HY4.out.s.set (by show w.heap.size + 1 < _; omega) _).set (by show w.heap.size + 1 < _; omega) _).mono (by omega)
    ·exact ((HY4.out.p.set (by show w.heap.size + 1 < _; omega) _).set (by show w.heap.size + 1 < _; omega) _).mono (by omega)
    ·exact (HB4.out.setCell (by show _ ≤ w.heap.size + 1; omega) _).setCell (by show _ ≤ w.heap.size + 1; omega) _
end Go.Proofs.YtekjpoenbcnhdaaGreat

namespace Go.Proofs.YtekjpoenbcnhdaaGreat
open Go.RowKit
open DM
attribute [local go_sem ↓] Go.wp_at_zero Go.wp_at_succ

def Half (a : Int) (ps : List Wr) (ts : List ByteArray) (FS : List ByteArray) (FB : Bool) (cur : List ByteArray) (ok : Bool) (k : Nat) : Prop := logB cur ps = true ∧ ((ok = true ∧ fillO a cur (ts.drop k) = (FS, FB)) ∨ (ok = false ∧ FS = cur ∧ FB = false))
theorem Half.step {a : Int} {ps : List Wr} {ts FS : List ByteArray} {FB : Bool} {cur : List ByteArray} {k : Nat} (hps : ps = []) (hts : ∀ t ∈ ts, t.size ≤ 1048576) (h : Half a ps ts FS FB cur true k) (hk : k < ts.length) : Half a ps ts FS FB (lpS cur ps a ts[k]) (recB cur ps a ts[k]) (k + 1) := by
 subst hps
 obtain ⟨hl, (⟨_, hf⟩ | ⟨h0, _⟩)⟩ := h
 ·cases hb : recB cur [] a ts[k] with
  | true =>
   rw [lpS_yes hb]
   refine ⟨(put_read hl hb (hts _ (List.getElem_mem hk))).2.2, Or.inl ⟨rfl, ?_⟩⟩
   rw [← hf, fillO_yes hk hb]
  | false =>
   rw [lpS_no hb]
   refine ⟨hl, Or.inr ⟨rfl, ?_⟩⟩
   rw [fillO_no hk hb] at hf
   simp only [Prod.mk.injEq] at hf
   exact ⟨hf.1.symm, hf.2.symm⟩
 ·cases h0
theorem Half.out {a : Int} {ps : List Wr} {ts FS : List ByteArray} {FB : Bool} {cur : List ByteArray} {ok : Bool} {k : Nat} (h : Half a ps ts FS FB cur ok k) (hk : ok = true → ts.length ≤ k) : FS = cur ∧ FB = ok := by
 obtain ⟨hl, (⟨h0, hf⟩ | ⟨h0, h1⟩)⟩ := h
 ·rw [fillO_end (hk h0)] at hf
  simp only [Prod.mk.injEq] at hf
  exact ⟨hf.1.symm, by rw [h0]; exact hf.2.symm⟩
 ·rw [h0]; exact h1

set_option maxRecDepth 100000 in
set_option maxHeartbeats 8000000 in
theorem sfill74 (ss : List ByteArray) (ps : List Wr) (ts : List ByteArray) (a1 a2 al : Option Addr) (c1 c2 cl B0 : Nat) (hlog : logB ss ps = true) (htn : ts.length ≤ 1048576) (hts : ∀ t ∈ ts, t.size ≤ 1048576) (w : World) (hd : DOwn w B0 a1 c1 a2 c2 ss ps) (hl : SRow w al ts) :
  Calls Tryz.prog 47 #[.agg #[.slice a1 ss.length c1, .slice a2 ps.length c2], .slice al ts.length cl] w fun e w' => ∃ b1 d1 b2 d2, e = .returned (.tuple #[.agg #[.slice b1 (fillO (1 - act ss ps) (zrS ss (1 - act ss ps)) ts).1.length d1, .slice b2 ps.length d2], .bool (fillO (1 - act ss ps) (zrS ss (1 - act ss ps)) ts).2]) ∧ DOwn w' w.heap.size b1 d1 b2 d2 (fillO (1 - act ss ps) (zrS ss (1 - act ss ps)) ts).1 ps ∧ Below w.heap.size w w' := by
 have hlp := logB_parts hlog
 have HO : Hid (OkD ss ps) := okB_iff.1 hlp.1
 have hs100 : ss.length ≤ 100 := HO.out.2.1
 have hpl : ps.length ≤ 60 := HO.out.2.2.1
 have hA : isA (1 - act ss ps) = true := oth_A ss ps
 have hac := act_01 ss ps
 obtain ⟨ac, hacE⟩ : ∃ ac, ac = act ss ps := ⟨_, rfl⟩
 rw [← hacE] at hA hac ⊢
 have hac' : ac = 0 ∨ ac = 1 := isA_iff.1 hac
 have hw1 : IntKind.i64.wrap (1 - ac) = 1 - ac := by rw [IntKind.wrap_i64]; omega
 obtain ⟨FF, hFF⟩ : ∃ FF, fillO (1 - ac) (zrS ss (1 - ac)) ts = FF := ⟨_, rfl⟩
 obtain ⟨FS, FB⟩ := FF
 rw [hFF]
 show Calls Tryz.prog 47 #[.agg #[.slice a1 ss.length c1, .slice a2 ps.length c2], .slice al ts.length cl] w fun e w' => ∃ b1 d1 b2 d2, e = .returned (.tuple #[.agg #[.slice b1 FS.length d1, .slice b2 ps.length d2], .bool FB]) ∧ DOwn w' w.heap.size b1 d1 b2 d2 FS ps ∧ Below w.heap.size w w'
 obtain ⟨WZ, hWZ⟩ : ∃ WZ, WZ = wb ss (af (1 - ac)).toNat 0 [UInt8.ofNat 0] := ⟨_, rfl⟩
 have hWZk : okB ss WZ = true := by
  have hin := af_in hA
  rw [hWZ]
  exact wb_ok (by rw [← hlp.2.2]; exact hlp.1) _ _ _ (by simp) (by have := hlp.2.1; simp; omega)
 obtain ⟨ZS, hZS⟩ : ∃ ZS, ZS = zrS ss (1 - ac) := ⟨_, rfl⟩
 have HH0 : Hid (Half (1 - ac) ps ts FS FB ZS true 0) := by
  have hz := zr_read (a := 1 - ac) (by rw [← hlp.2.2]; exact hlog) hA
  refine ⟨by rw [hlp.2.2, hZS]; exact hz.2.2, Or.inl ⟨rfl, by rw [hZS, List.drop_zero]; exact hFF⟩⟩
 have HHS : Hid (∀ cur k (hk : k < ts.length), Half (1 - ac) ps ts FS FB cur true k → Half (1 - ac) ps ts FS FB (lpS cur ps (1 - ac) ts[k]) (recB cur ps (1 - ac) ts[k]) (k + 1)) := fun cur k hk h => h.step hlp.2.2 hts hk
 have HAC : Hid (∀ W : World, DOwn W B0 a1 c1 a2 c2 ss ps → Calls Tryz.prog 36 #[.agg #[.slice a1 ss.length c1, .slice a2 ps.length c2]] W fun e w' => e = .returned (.int .i64 ac) ∧ Below W.heap.size W w') := fun W h => by
  rw [hacE]
  exact sac25 ss ps a1 a2 c1 c2 (by omega) (by omega) W h.s.srow h.p.prow
 have HCZ : Hid (∀ (W : World) (B : Nat) (x1 : Option Addr) (x2 : Nat) (x3 : Option Addr) (x4 : Nat), DOwn W B x1 x2 x3 x4 ss ps → Calls Tryz.prog 39 #[.agg #[.slice x1 ss.length x2, .slice x3 ps.length x4], .int .i64 (1 - ac), .int .i64 0] W fun e w' => ∃ f1 f2 f3 f4, e = .returned (.tuple #[.agg #[.slice f1 ss.length f2, .slice f3 WZ.length f4], .bool true]) ∧ DOwn w' W.heap.size f1 f2 f3 f4 ss WZ ∧ Below W.heap.size W w') := fun W B x1 x2 x3 x4 h => by
  refine (scount96 ss ps (1 - ac) 0 x1 x3 x2 x4 B hA hlp.1 hlp.2.2 hlp.2.1 (by omega) W h).mono ?_
  rw [← hWZ]
  rintro e w' ⟨f1, f2, f3, f4, h1, h2, _, h3⟩
  exact ⟨f1, f2, f3, f4, h1, h2, h3⟩
 have HFZ : Hid (∀ (W : World) (B : Nat) (x1 : Option Addr) (x2 : Nat) (x3 : Option Addr) (x4 : Nat), DOwn W B x1 x2 x3 x4 ss WZ → Calls Tryz.prog 40 #[.agg #[.slice x1 ss.length x2, .slice x3 WZ.length x4]] W fun e w' => ∃ f1 f2 f3 f4, e = .returned (.agg #[.slice f1 ZS.length f2, .slice f3 ps.length f4]) ∧ DOwn w' W.heap.size f1 f2 f3 f4 ZS ps ∧ Below W.heap.size W w') := fun W B x1 x2 x3 x4 h => by
  have h2 := sflush38 ss WZ x1 x3 x2 x4 B (by omega) (by have := (okB_iff.1 hWZk).2.2.1; omega) W h
  rw [flP_yes hWZk, ← hlp.2.2] at h2
  rw [hZS, zrS, ← hWZ]
  exact h2
 have HPU : Hid (∀ (cur : List ByteArray) (t : ByteArray), logB cur ps = true → t.size ≤ 1048576 → ∀ (W : World) (B : Nat) (x1 : Option Addr) (x2 : Nat) (x3 : Option Addr) (x4 : Nat), DOwn W B x1 x2 x3 x4 cur ps → Calls Tryz.prog 84 #[.agg #[.slice x1 cur.length x2, .slice x3 ps.length x4], .int .i64 (1 - ac), .string t] W fun e w' => ∃ f1 f2 f3 f4, e = .returned (.tuple #[.agg #[.slice f1 (lpS cur ps (1 - ac) t).length f2, .slice f3 ps.length f4], .bool (recB cur ps (1 - ac) t)]) ∧ DOwn w' W.heap.size f1 f2 f3 f4 (lpS cur ps (1 - ac) t) ps ∧ Below W.heap.size W w') := fun cur t hc ht W B x1 x2 x3 x4 h => by
  have hlc := logB_parts hc
  exact sput69 cur ps (1 - ac) t x1 x3 x2 x4 B hA hlc.1 hlp.2.2 hlc.2.1 ht W h
 have HD : Hid (DOwn w B0 a1 c1 a2 c2 ss ps) := hd
 have HL : Hid (SRow w al ts) := hl
 have HTS : Hid (∀ t ∈ ts, t.size ≤ 1048576) := hts
 have b0 : Hid (Below w.heap.size w ((w.alloc (.cells #[.slice a1 ss.length c1, .slice a2 ps.length c2] 27)).alloc (.cells #[.slice none 0 0, .slice none 0 0] 27))) := ((belowRefl w).alloc (Nat.le_refl _) _).alloc (by simp) _
 have X0 : Hid (Bx ((w.alloc (.cells #[.slice a1 ss.length c1, .slice a2 ps.length c2] 27)).alloc (.cells #[.slice none 0 0, .slice none 0 0] 27)) w.heap.size (.slice a1 ss.length c1) (.slice a2 ps.length c2)) := (Bx.new w _ _ _).alloc _
 have X1 : Hid (Bx ((w.alloc (.cells #[.slice a1 ss.length c1, .slice a2 ps.length c2] 27)).alloc (.cells #[.slice none 0 0, .slice none 0 0] 27)) (w.heap.size + 1) (.slice none 0 0) (.slice none 0 0)) := by
  have h := Bx.new (w.alloc (.cells #[.slice a1 ss.length c1, .slice a2 ps.length c2] 27)) (.slice none 0 0) (.slice none 0 0) 27
  rw [World.size_alloc] at h
  exact h
 have HD0 : Hid (DOwn ((w.alloc (.cells #[.slice a1 ss.length c1, .slice a2 ps.length c2] 27)).alloc (.cells #[.slice none 0 0, .slice none 0 0] 27)) B0 a1 c1 a2 c2 ss ps) := HD.out.below b0.out
 clear hd hl hts hlog hlp HO hA hac hac' hFF hWZ hWZk hZS hacE HD
 go_enter Tryz.func47, Tryz.ntmps47
 go_wp2_with fail
 refine (HAC.out _ HD0.out).mono ?_
 rintro e w1 ⟨rfl, hb1⟩
 have Y01 : Hid (Bx w1 w.heap.size (.slice a1 ss.length c1) (.slice a2 ps.length c2)) := X0.out.keep hb1 X0.out.lt
 have Y11 : Hid (Bx w1 (w.heap.size + 1) (.slice none 0 0) (.slice none 0 0)) := X1.out.keep hb1 X1.out.lt
 have HB1 : Hid (Below w.heap.size w w1) := b0.out.trans (hb1.mono b0.out.size)
 have g01 := Y01.out.c0
 have g11 := Y01.out.c1
 go_wp2_with fail
 refine (HCZ.out _ _ _ _ _ _ (HD0.out.below hb1)).mono ?_
 rintro e w2 ⟨y1, y2, y3, y4, rfl, hd2, hb2⟩
 have Y02 : Hid (Bx w2 w.heap.size (.slice a1 ss.length c1) (.slice a2 ps.length c2)) := Y01.out.keep hb2 Y01.out.lt
 have Y12 : Hid (Bx w2 (w.heap.size + 1) (.slice none 0 0) (.slice none 0 0)) := Y11.out.keep hb2 Y11.out.lt
 have HB2 : Hid (Below w.heap.size w w2) := HB1.out.trans (hb2.mono HB1.out.size)
 have g02 := Y02.out.c0
 have g12 := Y02.out.c1
 have Y13' : Hid (Bx (w2.alloc (.cells #[.slice y1 ss.length y2, .slice y3 WZ.length y4] 27)) (w.heap.size + 1) (.slice none 0 0) (.slice none 0 0)) := Y12.out.alloc _
 have Y23' : Hid (Bx (w2.alloc (.cells #[.slice y1 ss.length y2, .slice y3 WZ.length y4] 27)) w2.heap.size (.slice y1 ss.length y2) (.slice y3 WZ.length y4)) := Bx.new w2 _ _ _
 have HB3' : Hid (Below w.heap.size w (w2.alloc (.cells #[.slice y1 ss.length y2, .slice y3 WZ.length y4] 27))) := HB2.out.alloc HB2.out.size _
 have HY3 : Hid (DOwn (w2.alloc (.cells #[.slice y1 ss.length y2, .slice y3 WZ.length y4] 27)) (w.heap.size + 1 + 1) y1 y2 y3 y4 ss WZ) := (hd2.mono Y11.out.lt).below ((belowRefl w2).alloc (Nat.le_refl _) _)
 have hX : w.heap.size + 1 + 1 ≤ w2.heap.size := Y12.out.lt
 have g24 := Y23'.out.c0
 have g34 := Y23'.out.c1
 clear hd2 hb2 hb1
 go_wp2_with fail
 refine (HFZ.out _ _ _ _ _ _ HY3.out).mono ?_
 rintro e w3 ⟨z1, z2, z3, z4, rfl, hd3, hb3⟩
 have Y13 : Hid (Bx w3 (w.heap.size + 1) (.slice none 0 0) (.slice none 0 0)) := Y13'.out.keep hb3 Y13'.out.lt
 have Y23 : Hid (Bx w3 w2.heap.size (.slice y1 ss.length y2) (.slice y3 WZ.length y4)) := Y23'.out.keep hb3 Y23'.out.lt
 have HB3 : Hid (Below w.heap.size w w3) := HB3'.out.trans (hb3.mono HB3'.out.size)
 have HZ3 : Hid (DOwn w3 (w2.heap.size + 1) z1 z2 z3 z4 ZS ps) := hd3.mono (by simp)
 have k0 := Y23.out.c0
 have k1 := Y23.out.c1
 have kf := Y23.out.fz
 clear hd3 hb3
 go_wp2
 generalize w2.heap.size = X at *
 have V1 : Hid (Bx ((w3.setCell ⟨X, 0, none⟩ (.slice z1 ZS.length z2)).setCell ⟨X, 1, none⟩ (.slice z3 ps.length z4)) (w.heap.size + 1) (.slice none 0 0) (.slice none 0 0)) := (Y13.out.setO (by show X ≠ _; omega) _).setO (by show X ≠ _; omega) _
 have V2 : Hid (Bx ((w3.setCell ⟨X, 0, none⟩ (.slice z1 ZS.length z2)).setCell ⟨X, 1, none⟩ (.slice z3 ps.length z4)) X (.slice z1 ZS.length z2) (.slice z3 ps.length z4)) := (Y23.out.set0 _).set1 _
 have VB : Hid (Below w.heap.size w ((w3.setCell ⟨X, 0, none⟩ (.slice z1 ZS.length z2)).setCell ⟨X, 1, none⟩ (.slice z3 ps.length z4))) := (HB3.out.setCell (by show _ ≤ X; omega) _).setCell (by show _ ≤ X; omega) _
 have VD : Hid (DOwn ((w3.setCell ⟨X, 0, none⟩ (.slice z1 ZS.length z2)).setCell ⟨X, 1, none⟩ (.slice z3 ps.length z4)) (X + 1) z1 z2 z3 z4 ZS ps) := ⟨(HZ3.out.s.set (by show X < _; omega) _).set (by show X < _; omega) _, (HZ3.out.p.set (by show X < _; omega) _).set (by show X < _; omega) _⟩
 clear k0 k1 kf g24 g34 Y13' Y23' HB3' HY3 Y13 Y23 HB3 HZ3 Y01 Y11 HB1 g01 g11 Y02 Y12 HB2 g02 g12
 go_loopw [8, 9] (fun tok ti wr => ∃ (k : Nat) (ok : Bool) (cur : List ByteArray) (x1 : Option Addr) (x2 : Nat) (x3 : Option Addr) (x4 : Nat), k ≤ ts.length ∧ ti = .int .i64 k ∧ tok = .bool ok ∧ Hid (Half (1 - ac) ps ts FS FB cur ok k) ∧ Hid (Bx wr (w.heap.size + 1) (.slice none 0 0) (.slice none 0 0)) ∧ Hid (Bx wr X (.slice x1 cur.length x2) (.slice x3 ps.length x4)) ∧ Hid (DOwn wr (X + 1) x1 x2 x3 x4 cur ps) ∧ Hid (Below w.heap.size w wr)) (fun _ ti _ => ts.length - (intOf ti).toNat)
 case atStart => exact ⟨0, true, ZS, z1, z2, z3, z4, Nat.zero_le _, rfl, rfl, HH0, V1, V2, VD, VB⟩
 case round =>
  clear HH0 V1 V2 VD VB
  obtain ⟨k, ok, cur, x1, x2, x3, x4, hk, rfl, rfl, HH, Y1, Y2, HX, HB⟩ := hrel
  have k0 := Y2.out.c0
  have k1 := Y2.out.c1
  by_cases hlt : k < ts.length
  ·have hlt' : (k : Int) < (ts.length : Int) := by omega
   cases ok with
   | false =>
    have HE := Half.out HH.out (fun h => by cases h)
    obtain ⟨rfl, rfl⟩ := HE
    have HX' : Hid (DOwn wr (w.heap.size + 1 + 1) x1 x2 x3 x4 FS ps) := HX.out.mono (by omega)
    have r0 := Y1.out.c0
    have r1 := Y1.out.c1
    have rf := Y1.out.fz
    have V9 : Hid (Bx ((wr.setCell ⟨w.heap.size + 1, 0, none⟩ (.slice x1 FS.length x2)).setCell ⟨w.heap.size + 1, 1, none⟩ (.slice x3 ps.length x4)) (w.heap.size + 1) (.slice x1 FS.length x2) (.slice x3 ps.length x4)) := (Y1.out.set0 _).set1 _
    have q0 := V9.out.c0
    have q1 := V9.out.c1
    go_wp2
    refine bodyPost_ret (v := .tuple #[.agg #[.slice x1 FS.length x2, .slice x3 ps.length x4], .bool false]) (by simp [results, Tryz.results47, go_sem, q0, q1]) rfl ⟨x1, x2, x3, x4, rfl, ⟨?_, ?_⟩, ?_⟩
    ·exact ((HX'.out.s.set (by show w.heap.size + 1 < _; omega) _).set (by show w.heap.size + 1 < _; omega) _).mono (by omega)
    ·exact ((HX'.out.p.set (by show w.heap.size + 1 < _; omega) _).set (by show w.heap.size + 1 < _; omega) _).mono (by omega)
    ·exact (HB.out.setCell (by show _ ≤ w.heap.size + 1; omega) _).setCell (by show _ ≤ w.heap.size + 1; omega) _
   | true =>
    have h0 : (0 : Int) ≤ (k : Int) := by omega
    have HN : Hid (Half (1 - ac) ps ts FS FB (lpS cur ps (1 - ac) ts[k]) (recB cur ps (1 - ac) ts[k]) (k + 1)) := HHS.out cur k hlt HH.out
    have HPK : Hid (∀ (W : World) (B : Nat) (x1 : Option Addr) (x2 : Nat) (x3 : Option Addr) (x4 : Nat), DOwn W B x1 x2 x3 x4 cur ps → Calls Tryz.prog 84 #[.agg #[.slice x1 cur.length x2, .slice x3 ps.length x4], .int .i64 (1 - ac), .string ts[k]] W fun e w' => ∃ f1 f2 f3 f4, e = .returned (.tuple #[.agg #[.slice f1 (lpS cur ps (1 - ac) ts[k]).length f2, .slice f3 ps.length f4], .bool (recB cur ps (1 - ac) ts[k])]) ∧ DOwn w' W.heap.size f1 f2 f3 f4 (lpS cur ps (1 - ac) ts[k]) ps ∧ Below W.heap.size W w') := HPU.out cur ts[k] HH.out.1 (HTS.out _ (List.getElem_mem hlt))
    obtain ⟨b, off, rfl, hbl, hc⟩ := (HL.out.below HB.out) (by omega)
    have hck := hc k hlt
    clear hc
    generalize lpS cur ps (1 - ac) ts[k] = NS at *
    generalize recB cur ps (1 - ac) ts[k] = NB at *
    go_wp2
    go_region_law (first
     | (go_simp; go_at_call 84
        refine (HPK.out _ _ _ _ _ _ HX.out.drew).mono ?_
        rintro e w5 ⟨u1, u2, u3, u4, rfl, hd5, hb5⟩
        have Y15 : Hid (Bx w5 (w.heap.size + 1) (.slice none 0 0) (.slice none 0 0)) := Y1.out.keep (undrew hb5) Y1.out.lt
        have Y25 : Hid (Bx w5 X (.slice x1 cur.length x2) (.slice x3 ps.length x4)) := Y2.out.keep (undrew hb5) Y2.out.lt
        have HB5 : Hid (Below w.heap.size w w5) := HB.out.trans ((undrew hb5).mono HB.out.size)
        have hd5' : DOwn w5 wr.heap.size u1 u2 u3 u4 NS ps := hd5
        have HD5 : Hid (DOwn w5 (X + 1) u1 u2 u3 u4 NS ps) := hd5'.mono Y2.out.lt
        have q0 := Y25.out.c0
        have q1 := Y25.out.c1
        have qf := Y25.out.fz))
    all_goals
     have V1 : Hid (Bx ((w5.setCell ⟨X, 0, none⟩ (.slice u1 NS.length u2)).setCell ⟨X, 1, none⟩ (.slice u3 ps.length u4)) (w.heap.size + 1) (.slice none 0 0) (.slice none 0 0)) := (Y15.out.setO (by show X ≠ _; omega) _).setO (by show X ≠ _; omega) _
     have V2 : Hid (Bx ((w5.setCell ⟨X, 0, none⟩ (.slice u1 NS.length u2)).setCell ⟨X, 1, none⟩ (.slice u3 ps.length u4)) X (.slice u1 NS.length u2) (.slice u3 ps.length u4)) := (Y25.out.set0 _).set1 _
     have VB : Hid (Below w.heap.size w ((w5.setCell ⟨X, 0, none⟩ (.slice u1 NS.length u2)).setCell ⟨X, 1, none⟩ (.slice u3 ps.length u4))) := (HB5.out.setCell (by show _ ≤ X; omega) _).setCell (by show _ ≤ X; omega) _
     have VD : Hid (DOwn ((w5.setCell ⟨X, 0, none⟩ (.slice u1 NS.length u2)).setCell ⟨X, 1, none⟩ (.slice u3 ps.length u4)) (X + 1) u1 u2 u3 u4 NS ps) := ⟨(HD5.out.s.set (by show X < _; omega) _).set (by show X < _; omega) _, (HD5.out.p.set (by show X < _; omega) _).set (by show X < _; omega) _⟩
     clear q0 q1 qf hck k0 k1 hd5 hd5' hb5
     go_wp2
     try simp only [Act.put, tA]
     go_roundw
     case rel => exact ⟨k + 1, NB, NS, u1, u2, u3, u4, by omega, by go_num, rfl, HN, V1, V2, VD, VB⟩
     case measure => simp [intOf]; omega
  ·have hlt' : ¬ (k : Int) < (ts.length : Int) := by omega
   have HE := Half.out HH.out (fun h => by omega)
   obtain ⟨rfl, rfl⟩ := HE
   have HX' : Hid (DOwn wr (w.heap.size + 1 + 1) x1 x2 x3 x4 FS ps) := HX.out.mono (by omega)
   have r0 := Y1.out.c0
   have r1 := Y1.out.c1
   have rf := Y1.out.fz
   have V9 : Hid (Bx ((wr.setCell ⟨w.heap.size + 1, 0, none⟩ (.slice x1 FS.length x2)).setCell ⟨w.heap.size + 1, 1, none⟩ (.slice x3 ps.length x4)) (w.heap.size + 1) (.slice x1 FS.length x2) (.slice x3 ps.length x4)) := (Y1.out.set0 _).set1 _
   have q0 := V9.out.c0
   have q1 := V9.out.c1
   go_wp2
   refine bodyPost_ret (v := .tuple #[.agg #[.slice x1 FS.length x2, .slice x3 ps.length x4], .bool FB]) (by simp [results, Tryz.results47, go_sem, q0, q1]) rfl ⟨x1, x2, x3, x4, rfl, ⟨?_, ?_⟩, ?_⟩
   ·exact ((HX'.out.s.set (by show w.heap.size + 1 < _; omega) _).set (by show w.heap.size + 1 < _; omega) _).mono (by omega)
   ·exact ((HX'.out.p.set (by show w.heap.size + 1 < _; omega) _).set (by show w.heap.size + 1 < _; omega) _).mono (by omega)
   ·exact (HB.out.setCell (by show _ ≤ w.heap.size + 1; omega) _).setCell (by show _ ≤ w.heap.size + 1; omega) _

end Go.Proofs.YtekjpoenbcnhdaaGreat

namespace Go.Proofs.YtekjpoenbcnhdaaGreat
open Go.RowKit
open DM

theorem run_copy_min (V : World) (T ty o dLen dCap n : Nat) (s : ByteArray) (l : List UInt8) (hn : n = min s.size dLen) (hfit : o + n ≤ l.length) :
  (Builtin.copy_ #[22, 9] ty #[.slice (some ⟨V.heap.size, o, none⟩) dLen dCap, .string s]).run Tryz.prog (V.alloc (.cells (bv l).toArray T)) = .ok (goInt n) (V.alloc (.cells (bv (l.take o ++ s.data.toList.take n ++ l.drop (o + n))).toArray T)) := by
 have es : s.data.toList.length = s.size := by simp
 have hlen : (bv (s.data.toList.take n)).length = n := by rw [bv_len, List.length_take]; omega
 have hst := run_storeCells_at Tryz.prog V.heap.size o T (bv (s.data.toList.take n)) 0 (bv l).toArray (V.alloc (.cells (bv l).toArray T)) (heap_alloc_new V _) (by rw [hlen, List.size_toArray, bv_len]; omega) (bv_one _)
 have hmin : Nat.min s.size dLen = n := hn.symm
 have htk : List.take n (List.map (fun b : UInt8 => Value.int IntKind.u8 (b.toNat : Int)) s.data.toList) = bv (s.data.toList.take n) := by
  unfold bv
  rw [List.map_take]
 rw [hlen] at hst
 simp only [Nat.add_zero] at hst
 have e1 : List.take o (bv l).toArray.toList ++ bv (s.data.toList.take n) ++ List.drop (o + n) (bv l).toArray.toList = bv (l.take o ++ s.data.toList.take n ++ l.drop (o + n)) := by
  simp [bv]
 rw [e1] at hst
 cases hq : Tryz.prog.info? 5 with
 | none => have hs := info5s; rw [hq] at hs; cases hs
 | some i =>
  simp [Builtin.copy_, run_underlying Tryz.underlying22, Builtin.lenOf, Builtin.firstCells, sizeOf, typeInfo, hq, hmin]
  rw [htk, hst]
  simp only [Result.andThen]
  have h := setRow_alloc V (bv l).toArray (bv (l.take o ++ s.data.toList.take n ++ l.drop (o + n))).toArray T
  rw [h]
  simp only [List.append_assoc]
end Go.Proofs.YtekjpoenbcnhdaaGreat
