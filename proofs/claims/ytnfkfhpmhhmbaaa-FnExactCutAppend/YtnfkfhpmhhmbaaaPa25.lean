/- What spec.PutRecord returns. -/
import Derived.Test.YtnfkfhpmhhmbaaaPa24
import Derived.Test.YtnfkfhpmhhmbaaaPa19
import Derived.Test.YtnfkfhpmhhmbaaaPa22
namespace Go.Proofs.Ytnfkfhpmhhmbaaa
open Go.RowKit
open DM
attribute [local go_sem ↓] Go.wp_at_zero Go.wp_at_succ

theorem prS_lp {ss : List ByteArray} {ps : List Wr} {a : Int} {t : ByteArray} (h : logB ss ps = true) : prB ss ps a t = recB ss ps a t ∧ prS ss ps a t = lpS ss ps a t := by
  have e : prB ss ps a t = recB ss ps a t := by simp [prB, h]
  refine ⟨e, ?_⟩
  unfold prS lpS
  rw [e]
theorem recB_na {ss : List ByteArray} {ps : List Wr} {a : Int} {t : ByteArray} (h : isA a = false) : recB ss ps a t = false := by
  cases hb : recB ss ps a t with
  | false => rfl
  | true => rw [(recB_parts hb).2.2.2.2] at h; cases h

set_option maxRecDepth 100000 in
set_option maxHeartbeats 8000000 in
theorem spr36 (ss : List ByteArray) (ps : List Wr) (a : Int) (t : ByteArray) (a1 a2 : Option Addr) (c1 c2 B0 : Nat) (hn : ss.length ≤ 1048576) (hm : ps.length ≤ 1048576) (hs : ∀ s ∈ ss, s.size ≤ 1048576) (hp : ∀ p ∈ ps, p.2.size ≤ 1048576) (htz : t.size ≤ 1048576) (w : World) (hd : DOwn w B0 a1 c1 a2 c2 ss ps) :
    Calls Try.prog 51 #[.agg #[.slice a1 ss.length c1, .slice a2 ps.length c2], .int .i64 a, .string t] w fun e w' => ∃ b1 d1 b2 d2, e = .returned (.tuple #[.agg #[.slice b1 (prS ss ps a t).length d1, .slice b2 ps.length d2], .bool (prB ss ps a t)]) ∧ DOwn w' w.heap.size b1 d1 b2 d2 (prS ss ps a t) ps ∧ Below w.heap.size w w' := by
  have HD : Hid (DOwn w B0 a1 c1 a2 c2 ss ps) := hd
  have HLO : Hid (∀ W : World, DOwn W B0 a1 c1 a2 c2 ss ps → Calls Try.prog 76 #[.agg #[.slice a1 ss.length c1, .slice a2 ps.length c2]] W fun e w' => e = .returned (.bool (logB ss ps)) ∧ Below W.heap.size W w') := fun W h => slok22 ss ps a1 a2 c1 c2 hn hm hs hp W h.s.srow h.p.prow
  have HIN : Hid (∀ W : World, Calls Try.prog 59 #[.int .i64 a, .int .i64 0, .int .i64 1] W fun e w' => e = .returned (.bool (isA a)) ∧ w' = W) := fun W => in57 a 0 1 (isA a) rfl W
  have HCP : Hid (∀ (W : World) (B : Nat) (x1 : Option Addr) (x2 : Nat) (x3 : Option Addr) (x4 : Nat), DOwn W B x1 x2 x3 x4 ss ps → Calls Try.prog 23 #[.agg #[.slice x1 ss.length x2, .slice x3 ps.length x4]] W fun e w' => ∃ f1 f2 f3 f4, e = .returned (.agg #[.slice f1 ss.length f2, .slice f3 ps.length f4]) ∧ DOwn w' W.heap.size f1 f2 f3 f4 ss ps ∧ Below W.heap.size W w') := fun W B x1 x2 x3 x4 h => copy64 ss ps x1 x3 x2 x4 B (by omega) (by omega) W h
  have b0 : Hid (Below w.heap.size w ((w.alloc (.cells #[.slice a1 ss.length c1, .slice a2 ps.length c2] 30)).alloc (.cells #[.slice none 0 0, .slice none 0 0] 30))) := ((belowRefl w).alloc (Nat.le_refl _) _).alloc (by simp) _
  have X0 : Hid (Bx ((w.alloc (.cells #[.slice a1 ss.length c1, .slice a2 ps.length c2] 30)).alloc (.cells #[.slice none 0 0, .slice none 0 0] 30)) w.heap.size (.slice a1 ss.length c1) (.slice a2 ps.length c2)) := (Bx.new w _ _ _).alloc _
  have X1 : Hid (Bx ((w.alloc (.cells #[.slice a1 ss.length c1, .slice a2 ps.length c2] 30)).alloc (.cells #[.slice none 0 0, .slice none 0 0] 30)) (w.heap.size + 1) (.slice none 0 0) (.slice none 0 0)) := by
    have h := Bx.new (w.alloc (.cells #[.slice a1 ss.length c1, .slice a2 ps.length c2] 30)) (.slice none 0 0) (.slice none 0 0) 30
    rw [World.size_alloc] at h
    exact h
  have HD0 : Hid (DOwn ((w.alloc (.cells #[.slice a1 ss.length c1, .slice a2 ps.length c2] 30)).alloc (.cells #[.slice none 0 0, .slice none 0 0] 30)) B0 a1 c1 a2 c2 ss ps) := HD.out.below b0.out
  cases hl : logB ss ps with
  | false =>
    have HN : Hid (prB ss ps a t = false ∧ prS ss ps a t = ss) := prS_no1 hl
    rw [HN.out.1, HN.out.2]
    rw [hl] at HLO
    clear hl hd hs hp HD
    go_enter Try.func51, Try.ntmps51
    go_wp2_with fail
    refine (HLO.out _ HD0.out).mono ?_
    rintro e w1 ⟨rfl, hb1⟩
    have Y01 : Hid (Bx w1 w.heap.size (.slice a1 ss.length c1) (.slice a2 ps.length c2)) := X0.out.keep hb1 X0.out.lt
    have Y11 : Hid (Bx w1 (w.heap.size + 1) (.slice none 0 0) (.slice none 0 0)) := X1.out.keep hb1 X1.out.lt
    have HB1 : Hid (Below w.heap.size w w1) := b0.out.trans (hb1.mono b0.out.size)
    have g01 := Y01.out.c0
    have g11 := Y01.out.c1
    go_wp2_with fail
    refine (HCP.out _ _ _ _ _ _ (HD0.out.below hb1)).mono ?_
    rintro e w9 ⟨y1, y2, y3, y4, rfl, hd9, hb9⟩
    have Y09 : Hid (Bx w9 w.heap.size (.slice a1 ss.length c1) (.slice a2 ps.length c2)) := Y01.out.keep hb9 Y01.out.lt
    have Y19 : Hid (Bx w9 (w.heap.size + 1) (.slice none 0 0) (.slice none 0 0)) := Y11.out.keep hb9 Y11.out.lt
    have HB9 : Hid (Below w.heap.size w w9) := HB1.out.trans (hb9.mono HB1.out.size)
    have g09 := Y09.out.c0
    have g19 := Y09.out.c1
    have HD9 : Hid (DOwn w9 (w.heap.size + 1 + 1) y1 y2 y3 y4 ss ps) := hd9.mono Y11.out.lt
    clear hd9 hb9
    have r0 := Y19.out.c0
    have r1 := Y19.out.c1
    have rf := Y19.out.fz
    have V9 : Hid (Bx ((w9.setCell ⟨w.heap.size + 1, 0, none⟩ (.slice y1 ss.length y2)).setCell ⟨w.heap.size + 1, 1, none⟩ (.slice y3 ps.length y4)) (w.heap.size + 1) (.slice y1 ss.length y2) (.slice y3 ps.length y4)) := (Y19.out.set0 _).set1 _
    have q0 := V9.out.c0
    have q1 := V9.out.c1
    go_wp2
    refine bodyPost_ret (v := .tuple #[.agg #[.slice y1 ss.length y2, .slice y3 ps.length y4], .bool false]) (by simp [results, Try.results51, go_sem, q0, q1]) rfl ⟨y1, y2, y3, y4, rfl, ⟨?_, ?_⟩, ?_⟩
    · exact ((HD9.out.s.set (by show w.heap.size + 1 < _; omega) _).set (by show w.heap.size + 1 < _; omega) _).mono (by omega)
    · exact ((HD9.out.p.set (by show w.heap.size + 1 < _; omega) _).set (by show w.heap.size + 1 < _; omega) _).mono (by omega)
    · exact (HB9.out.setCell (by show _ ≤ w.heap.size + 1; omega) _).setCell (by show _ ≤ w.heap.size + 1; omega) _
  | true =>
    have hpr := prS_lp (a := a) (t := t) hl
    have hlp := logB_parts hl
    rw [hpr.1, hpr.2]
    rw [hl] at HLO
    cases hA : isA a with
    | false =>
      have HN : Hid (recB ss ps a t = false) := recB_na hA
      rw [lpS_no HN.out, HN.out]
      rw [hA] at HIN
      clear hl hd hs hp HD hpr hlp hA
      go_enter Try.func51, Try.ntmps51
      go_wp2_with fail
      refine (HLO.out _ HD0.out).mono ?_
      rintro e w1 ⟨rfl, hb1⟩
      have Y01 : Hid (Bx w1 w.heap.size (.slice a1 ss.length c1) (.slice a2 ps.length c2)) := X0.out.keep hb1 X0.out.lt
      have Y11 : Hid (Bx w1 (w.heap.size + 1) (.slice none 0 0) (.slice none 0 0)) := X1.out.keep hb1 X1.out.lt
      have HB1 : Hid (Below w.heap.size w w1) := b0.out.trans (hb1.mono b0.out.size)
      have g01 := Y01.out.c0
      have g11 := Y01.out.c1
      go_wp2_with fail
      refine (HIN.out _).mono ?_
      rintro e w1 ⟨rfl, rfl⟩
      go_wp2_with fail
      refine (HCP.out _ _ _ _ _ _ (HD0.out.below hb1)).mono ?_
      rintro e w9 ⟨y1, y2, y3, y4, rfl, hd9, hb9⟩
      have Y09 : Hid (Bx w9 w.heap.size (.slice a1 ss.length c1) (.slice a2 ps.length c2)) := Y01.out.keep hb9 Y01.out.lt
      have Y19 : Hid (Bx w9 (w.heap.size + 1) (.slice none 0 0) (.slice none 0 0)) := Y11.out.keep hb9 Y11.out.lt
      have HB9 : Hid (Below w.heap.size w w9) := HB1.out.trans (hb9.mono HB1.out.size)
      have g09 := Y09.out.c0
      have g19 := Y09.out.c1
      have HD9 : Hid (DOwn w9 (w.heap.size + 1 + 1) y1 y2 y3 y4 ss ps) := hd9.mono Y11.out.lt
      clear hd9 hb9
      have r0 := Y19.out.c0
      have r1 := Y19.out.c1
      have rf := Y19.out.fz
      have V9 : Hid (Bx ((w9.setCell ⟨w.heap.size + 1, 0, none⟩ (.slice y1 ss.length y2)).setCell ⟨w.heap.size + 1, 1, none⟩ (.slice y3 ps.length y4)) (w.heap.size + 1) (.slice y1 ss.length y2) (.slice y3 ps.length y4)) := (Y19.out.set0 _).set1 _
      have q0 := V9.out.c0
      have q1 := V9.out.c1
      go_wp2
      refine bodyPost_ret (v := .tuple #[.agg #[.slice y1 ss.length y2, .slice y3 ps.length y4], .bool false]) (by simp [results, Try.results51, go_sem, q0, q1]) rfl ⟨y1, y2, y3, y4, rfl, ⟨?_, ?_⟩, ?_⟩
      · exact ((HD9.out.s.set (by show w.heap.size + 1 < _; omega) _).set (by show w.heap.size + 1 < _; omega) _).mono (by omega)
      · exact ((HD9.out.p.set (by show w.heap.size + 1 < _; omega) _).set (by show w.heap.size + 1 < _; omega) _).mono (by omega)
      · exact (HB9.out.setCell (by show _ ≤ w.heap.size + 1; omega) _).setCell (by show _ ≤ w.heap.size + 1; omega) _
    | true =>
      have HPU : Hid (∀ (W : World) (B : Nat) (x1 : Option Addr) (x2 : Nat) (x3 : Option Addr) (x4 : Nat), DOwn W B x1 x2 x3 x4 ss ps → Calls Try.prog 77 #[.agg #[.slice x1 ss.length x2, .slice x3 ps.length x4], .int .i64 a, .string t] W fun e w' => ∃ f1 f2 f3 f4, e = .returned (.tuple #[.agg #[.slice f1 (lpS ss ps a t).length f2, .slice f3 ps.length f4], .bool (recB ss ps a t)]) ∧ DOwn w' W.heap.size f1 f2 f3 f4 (lpS ss ps a t) ps ∧ Below W.heap.size W w') := fun W B x1 x2 x3 x4 h => sput69 ss ps a t x1 x3 x2 x4 B hA hlp.1 hlp.2.2 hlp.2.1 htz W h
      rw [hA] at HIN
      cases hB : recB ss ps a t with
      | false =>
        rw [lpS_no hB]
        rw [hB, lpS_no hB] at HPU
        clear hl hd hs hp HD hpr hlp hA hB
        go_enter Try.func51, Try.ntmps51
        go_wp2_with fail
        refine (HLO.out _ HD0.out).mono ?_
        rintro e w1 ⟨rfl, hb1⟩
        have Y01 : Hid (Bx w1 w.heap.size (.slice a1 ss.length c1) (.slice a2 ps.length c2)) := X0.out.keep hb1 X0.out.lt
        have Y11 : Hid (Bx w1 (w.heap.size + 1) (.slice none 0 0) (.slice none 0 0)) := X1.out.keep hb1 X1.out.lt
        have HB1 : Hid (Below w.heap.size w w1) := b0.out.trans (hb1.mono b0.out.size)
        have g01 := Y01.out.c0
        have g11 := Y01.out.c1
        go_wp2_with fail
        refine (HIN.out _).mono ?_
        rintro e w1 ⟨rfl, rfl⟩
        go_wp2_with fail
        refine (HPU.out _ _ _ _ _ _ (HD0.out.below hb1)).mono ?_
        rintro e w3 ⟨y1, y2, y3, y4, rfl, hd3, hb3⟩
        have Y03 : Hid (Bx w3 w.heap.size (.slice a1 ss.length c1) (.slice a2 ps.length c2)) := Y01.out.keep hb3 Y01.out.lt
        have Y13 : Hid (Bx w3 (w.heap.size + 1) (.slice none 0 0) (.slice none 0 0)) := Y11.out.keep hb3 Y11.out.lt
        have HB3 : Hid (Below w.heap.size w w3) := HB1.out.trans (hb3.mono HB1.out.size)
        have g03 := Y03.out.c0
        have g13 := Y03.out.c1
        have Y04 : Hid (Bx (w3.alloc (.cells #[.slice y1 ss.length y2, .slice y3 ps.length y4] 30)) w.heap.size (.slice a1 ss.length c1) (.slice a2 ps.length c2)) := Y03.out.alloc _
        have Y14 : Hid (Bx (w3.alloc (.cells #[.slice y1 ss.length y2, .slice y3 ps.length y4] 30)) (w.heap.size + 1) (.slice none 0 0) (.slice none 0 0)) := Y13.out.alloc _
        have Y24 : Hid (Bx (w3.alloc (.cells #[.slice y1 ss.length y2, .slice y3 ps.length y4] 30)) w3.heap.size (.slice y1 ss.length y2) (.slice y3 ps.length y4)) := Bx.new w3 _ _ _
        have HB4 : Hid (Below w.heap.size w (w3.alloc (.cells #[.slice y1 ss.length y2, .slice y3 ps.length y4] 30))) := HB3.out.alloc HB3.out.size _
        have HD4 : Hid (DOwn (w3.alloc (.cells #[.slice y1 ss.length y2, .slice y3 ps.length y4] 30)) B0 a1 c1 a2 c2 ss ps) := ((HD0.out.below hb1).below hb3).below ((belowRefl w3).alloc (Nat.le_refl _) _)
        have HY4 : Hid (DOwn (w3.alloc (.cells #[.slice y1 ss.length y2, .slice y3 ps.length y4] 30)) (w.heap.size + 1 + 1) y1 y2 y3 y4 ss ps) := (hd3.mono Y11.out.lt).below ((belowRefl w3).alloc (Nat.le_refl _) _)
        have g04 := Y04.out.c0
        have g14 := Y04.out.c1
        have g24 := Y24.out.c0
        have g34 := Y24.out.c1
        clear hd3 hb3 hb1
        go_wp2_with fail
        refine (HCP.out _ _ _ _ _ _ HD4.out).mono ?_
        rintro e w9 ⟨z1, z2, z3, z4, rfl, hd9, hb9⟩
        have Y09 : Hid (Bx w9 w.heap.size (.slice a1 ss.length c1) (.slice a2 ps.length c2)) := Y04.out.keep hb9 Y04.out.lt
        have Y19 : Hid (Bx w9 (w.heap.size + 1) (.slice none 0 0) (.slice none 0 0)) := Y14.out.keep hb9 Y14.out.lt
        have HB9 : Hid (Below w.heap.size w w9) := HB4.out.trans (hb9.mono HB4.out.size)
        have g09 := Y09.out.c0
        have g19 := Y09.out.c1
        have HD9 : Hid (DOwn w9 (w.heap.size + 1 + 1) z1 z2 z3 z4 ss ps) := hd9.mono Y14.out.lt
        clear hd9 hb9
        have r0 := Y19.out.c0
        have r1 := Y19.out.c1
        have rf := Y19.out.fz
        have V9 : Hid (Bx ((w9.setCell ⟨w.heap.size + 1, 0, none⟩ (.slice z1 ss.length z2)).setCell ⟨w.heap.size + 1, 1, none⟩ (.slice z3 ps.length z4)) (w.heap.size + 1) (.slice z1 ss.length z2) (.slice z3 ps.length z4)) := (Y19.out.set0 _).set1 _
        have q0 := V9.out.c0
        have q1 := V9.out.c1
        go_wp2
        refine bodyPost_ret (v := .tuple #[.agg #[.slice z1 ss.length z2, .slice z3 ps.length z4], .bool false]) (by simp [results, Try.results51, go_sem, q0, q1]) rfl ⟨z1, z2, z3, z4, rfl, ⟨?_, ?_⟩, ?_⟩
        · exact ((HD9.out.s.set (by show w.heap.size + 1 < _; omega) _).set (by show w.heap.size + 1 < _; omega) _).mono (by omega)
        · exact ((HD9.out.p.set (by show w.heap.size + 1 < _; omega) _).set (by show w.heap.size + 1 < _; omega) _).mono (by omega)
        · exact (HB9.out.setCell (by show _ ≤ w.heap.size + 1; omega) _).setCell (by show _ ≤ w.heap.size + 1; omega) _
      | true =>
        rw [hB] at HPU
        clear hl hd hs hp HD hpr hlp hA hB
        generalize lpS ss ps a t = LP at *
        go_enter Try.func51, Try.ntmps51
        go_wp2_with fail
        refine (HLO.out _ HD0.out).mono ?_
        rintro e w1 ⟨rfl, hb1⟩
        have Y01 : Hid (Bx w1 w.heap.size (.slice a1 ss.length c1) (.slice a2 ps.length c2)) := X0.out.keep hb1 X0.out.lt
        have Y11 : Hid (Bx w1 (w.heap.size + 1) (.slice none 0 0) (.slice none 0 0)) := X1.out.keep hb1 X1.out.lt
        have HB1 : Hid (Below w.heap.size w w1) := b0.out.trans (hb1.mono b0.out.size)
        have g01 := Y01.out.c0
        have g11 := Y01.out.c1
        go_wp2_with fail
        refine (HIN.out _).mono ?_
        rintro e w1 ⟨rfl, rfl⟩
        go_wp2_with fail
        refine (HPU.out _ _ _ _ _ _ (HD0.out.below hb1)).mono ?_
        rintro e w3 ⟨y1, y2, y3, y4, rfl, hd3, hb3⟩
        have Y03 : Hid (Bx w3 w.heap.size (.slice a1 ss.length c1) (.slice a2 ps.length c2)) := Y01.out.keep hb3 Y01.out.lt
        have Y13 : Hid (Bx w3 (w.heap.size + 1) (.slice none 0 0) (.slice none 0 0)) := Y11.out.keep hb3 Y11.out.lt
        have HB3 : Hid (Below w.heap.size w w3) := HB1.out.trans (hb3.mono HB1.out.size)
        have g03 := Y03.out.c0
        have g13 := Y03.out.c1
        have Y04 : Hid (Bx (w3.alloc (.cells #[.slice y1 LP.length y2, .slice y3 ps.length y4] 30)) w.heap.size (.slice a1 ss.length c1) (.slice a2 ps.length c2)) := Y03.out.alloc _
        have Y14 : Hid (Bx (w3.alloc (.cells #[.slice y1 LP.length y2, .slice y3 ps.length y4] 30)) (w.heap.size + 1) (.slice none 0 0) (.slice none 0 0)) := Y13.out.alloc _
        have Y24 : Hid (Bx (w3.alloc (.cells #[.slice y1 LP.length y2, .slice y3 ps.length y4] 30)) w3.heap.size (.slice y1 LP.length y2) (.slice y3 ps.length y4)) := Bx.new w3 _ _ _
        have HB4 : Hid (Below w.heap.size w (w3.alloc (.cells #[.slice y1 LP.length y2, .slice y3 ps.length y4] 30))) := HB3.out.alloc HB3.out.size _
        have HD4 : Hid (DOwn (w3.alloc (.cells #[.slice y1 LP.length y2, .slice y3 ps.length y4] 30)) B0 a1 c1 a2 c2 ss ps) := ((HD0.out.below hb1).below hb3).below ((belowRefl w3).alloc (Nat.le_refl _) _)
        have HY4 : Hid (DOwn (w3.alloc (.cells #[.slice y1 LP.length y2, .slice y3 ps.length y4] 30)) (w.heap.size + 1 + 1) y1 y2 y3 y4 LP ps) := (hd3.mono Y11.out.lt).below ((belowRefl w3).alloc (Nat.le_refl _) _)
        have g04 := Y04.out.c0
        have g14 := Y04.out.c1
        have g24 := Y24.out.c0
        have g34 := Y24.out.c1
        clear hd3 hb3 hb1
        have r0 := Y14.out.c0
        have r1 := Y14.out.c1
        have rf := Y14.out.fz
        have V9 : Hid (Bx (((w3.alloc (.cells #[.slice y1 LP.length y2, .slice y3 ps.length y4] 30)).setCell ⟨w.heap.size + 1, 0, none⟩ (.slice y1 LP.length y2)).setCell ⟨w.heap.size + 1, 1, none⟩ (.slice y3 ps.length y4)) (w.heap.size + 1) (.slice y1 LP.length y2) (.slice y3 ps.length y4)) := (Y14.out.set0 _).set1 _
        have q0 := V9.out.c0
        have q1 := V9.out.c1
        go_wp2
        refine bodyPost_ret (v := .tuple #[.agg #[.slice y1 LP.length y2, .slice y3 ps.length y4], .bool true]) (by simp [results, Try.results51, go_sem, q0, q1]) rfl ⟨y1, y2, y3, y4, rfl, ⟨?_, ?_⟩, ?_⟩
        · exact ((HY4.out.s.set (by show w.heap.size + 1 < _; omega) _).set (by show w.heap.size + 1 < _; omega) _).mono (by omega)
        · exact ((HY4.out.p.set (by show w.heap.size + 1 < _; omega) _).set (by show w.heap.size + 1 < _; omega) _).mono (by omega)
        · exact (HB4.out.setCell (by show _ ≤ w.heap.size + 1; omega) _).setCell (by show _ ≤ w.heap.size + 1; omega) _
end Go.Proofs.Ytnfkfhpmhhmbaaa

namespace Go.Proofs.Ytnfkfhpmhhmbaaa
open Go.RowKit
open DM

theorem run_copy_min (V : World) (T ty o dLen dCap n : Nat) (s : ByteArray) (l : List UInt8) (hn : n = min s.size dLen) (hfit : o + n ≤ l.length) :
    (Builtin.copy_ #[70, 9] ty #[.slice (some ⟨V.heap.size, o, none⟩) dLen dCap, .string s]).run Try.prog (V.alloc (.cells (bv l).toArray T)) = .ok (goInt n) (V.alloc (.cells (bv (l.take o ++ s.data.toList.take n ++ l.drop (o + n))).toArray T)) := by
  have es : s.data.toList.length = s.size := by simp
  have hlen : (bv (s.data.toList.take n)).length = n := by rw [bv_len, List.length_take]; omega
  have hst := run_storeCells_at Try.prog V.heap.size o T (bv (s.data.toList.take n)) 0 (bv l).toArray (V.alloc (.cells (bv l).toArray T)) (heap_alloc_new V _) (by rw [hlen, List.size_toArray, bv_len]; omega) (bv_one _)
  have hmin : Nat.min s.size dLen = n := hn.symm
  have htk : List.take n (List.map (fun b : UInt8 => Value.int IntKind.u8 (b.toNat : Int)) s.data.toList) = bv (s.data.toList.take n) := by
    unfold bv
    rw [List.map_take]
  rw [hlen] at hst
  simp only [Nat.add_zero] at hst
  have e1 : List.take o (bv l).toArray.toList ++ bv (s.data.toList.take n) ++ List.drop (o + n) (bv l).toArray.toList = bv (l.take o ++ s.data.toList.take n ++ l.drop (o + n)) := by
    simp [bv]
  rw [e1] at hst
  cases hq : Try.prog.info? 5 with
  | none => have hs := info5s; rw [hq] at hs; cases hs
  | some i =>
    simp [Builtin.copy_, run_underlying Try.underlying70, Builtin.lenOf, Builtin.firstCells, sizeOf, typeInfo, hq, hmin]
    rw [htk, hst]
    simp only [Result.andThen]
    have h := setRow_alloc V (bv l).toArray (bv (l.take o ++ s.data.toList.take n ++ l.drop (o + n))).toArray T
    rw [h]
    simp only [List.append_assoc]
end Go.Proofs.Ytnfkfhpmhhmbaaa

namespace Go.Proofs.Ytnfkfhpmhhmbaaa
open Go.RowKit
open DM
attribute [local go_sem ↓] Go.wp_at_zero Go.wp_at_succ

theorem zero108 : Try.zeroCells84 = (bv (List.replicate 3008 0)).toArray := by kernel_rfl

theorem run_copy_at (W : World) (g T ty o dLen dCap n : Nat) (s : ByteArray) (l : List UInt8) (hg : W.heap[g]? = some (.cells (bv l).toArray T (0, 0))) (hn : n = min s.size dLen) (hfit : o + n ≤ l.length) :
    (Builtin.copy_ #[70, 9] ty #[.slice (some ⟨g, o, none⟩) dLen dCap, .string s]).run Try.prog W = .ok (goInt n) (W.setRow g (bv (l.take o ++ s.data.toList.take n ++ l.drop (o + n))).toArray) := by
  have es : s.data.toList.length = s.size := by simp
  have hlen : (bv (s.data.toList.take n)).length = n := by rw [bv_len, List.length_take]; omega
  have hst := run_storeCells_at Try.prog g o T (bv (s.data.toList.take n)) 0 (bv l).toArray W hg (by rw [hlen, List.size_toArray, bv_len]; omega) (bv_one _)
  have hmin : Nat.min s.size dLen = n := hn.symm
  have htk : List.take n (List.map (fun b : UInt8 => Value.int IntKind.u8 (b.toNat : Int)) s.data.toList) = bv (s.data.toList.take n) := by
    unfold bv
    rw [List.map_take]
  rw [hlen] at hst
  simp only [Nat.add_zero] at hst
  have e1 : List.take o (bv l).toArray.toList ++ bv (s.data.toList.take n) ++ List.drop (o + n) (bv l).toArray.toList = bv (l.take o ++ s.data.toList.take n ++ l.drop (o + n)) := by
    simp [bv]
  rw [e1] at hst
  cases hq : Try.prog.info? 5 with
  | none => have hs := info5s; rw [hq] at hs; cases hs
  | some i =>
    simp [Builtin.copy_, run_underlying Try.underlying70, Builtin.lenOf, Builtin.firstCells, sizeOf, typeInfo, hq, hmin]
    rw [htk, hst]
    simp only [Result.andThen, List.append_assoc]

theorem setRow_get (W : World) (g : Nat) (cs cur : Array Value) (T : TypeId) (m : Nat × Nat) (hg : W.heap[g]? = some (.cells cur T m)) : (W.setRow g cs).heap[g]? = some (.cells cs T m) := by
  unfold World.setRow
  simp [Array.getElem?_modify, hg]
theorem setRow_below {w W : World} {B g : Nat} (h : Below B w W) (hB : B ≤ g) (cs : Array Value) : Below B w (W.setRow g cs) := by
  refine ⟨h.os, h.tape, h.output, ?_, fun k hk => ?_⟩
  · unfold World.setRow; simpa using h.size
  · rw [← h.block k hk]
    unfold World.setRow
    simp only [Array.getElem?_modify]
    rw [if_neg (by omega)]
end Go.Proofs.Ytnfkfhpmhhmbaaa
