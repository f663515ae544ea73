/- What spec.SwitchLog and impl.SwitchLog return. -/
import Derived.Test.YtekjpoenbcnhdaaGreatPa15
import Derived.Test.YtekjpoenbcnhdaaGreatPa17
namespace Go.Proofs.YtekjpoenbcnhdaaGreat
open Go.RowKit
open DM
attribute [local go_sem ↓] Go.wp_at_zero Go.wp_at_succ

def swB (ss : List ByteArray) (ps : List Wr) (ts : List ByteArray) : Bool := logB ss ps && (fillO (1 - act ss ps) (zrS ss (1 - act ss ps)) ts).2
def swS (ss : List ByteArray) (ps : List Wr) (ts : List ByteArray) : List ByteArray := if swB ss ps ts = true then flS (fillO (1 - act ss ps) (zrS ss (1 - act ss ps)) ts).1 (tuW (fillO (1 - act ss ps) (zrS ss (1 - act ss ps)) ts).1 ps) else ss
theorem sw_no1 {ss : List ByteArray} {ps : List Wr} {ts : List ByteArray} (h : logB ss ps = false) : swB ss ps ts = false ∧ swS ss ps ts = ss := by
 have : swB ss ps ts = false := by simp [swB, h]
 exact ⟨this, if_neg (by simp [this])⟩
theorem sw_no2 {ss : List ByteArray} {ps : List Wr} {ts : List ByteArray} (h : (fillO (1 - act ss ps) (zrS ss (1 - act ss ps)) ts).2 = false) : swB ss ps ts = false ∧ swS ss ps ts = ss := by
 have : swB ss ps ts = false := by simp [swB, h]
 exact ⟨this, if_neg (by simp [this])⟩
theorem sw_yes {ss : List ByteArray} {ps : List Wr} {ts : List ByteArray} (h1 : logB ss ps = true) (h2 : (fillO (1 - act ss ps) (zrS ss (1 - act ss ps)) ts).2 = true) : swB ss ps ts = true ∧ swS ss ps ts = flS (fillO (1 - act ss ps) (zrS ss (1 - act ss ps)) ts).1 (tuW (fillO (1 - act ss ps) (zrS ss (1 - act ss ps)) ts).1 ps) := by
 have : swB ss ps ts = true := by simp [swB, h1, h2]
 exact ⟨this, if_pos this⟩
theorem fill_log {ss : List ByteArray} {ps : List Wr} {ts : List ByteArray} (hts : ∀ t ∈ ts, t.size ≤ 1048576) (h : logB ss ps = true) : logB (fillO (1 - act ss ps) (zrS ss (1 - act ss ps)) ts).1 ps = true := by
 have hlp := logB_parts h
 rw [hlp.2.2] at h
 have hz := zr_read h (oth_A ss [])
 rw [hlp.2.2]
 exact fillO_log ts _ hts hz.2.2

set_option maxRecDepth 100000 in
set_option maxHeartbeats 8000000 in
theorem ssw41 (ss : List ByteArray) (ps : List Wr) (ts : List ByteArray) (a1 a2 al : Option Addr) (c1 c2 cl B0 : Nat) (hn : ss.length ≤ 1048576) (hm : ps.length ≤ 1048576) (hs : ∀ s ∈ ss, s.size ≤ 1048576) (hp : ∀ p ∈ ps, p.2.size ≤ 1048576) (htn : ts.length ≤ 1048576) (hts : ∀ t ∈ ts, t.size ≤ 1048576) (w : World) (hd : DOwn w B0 a1 c1 a2 c2 ss ps) (hl : SRow w al ts) :
  Calls Tryz.prog 46 #[.agg #[.slice a1 ss.length c1, .slice a2 ps.length c2], .slice al ts.length cl] w fun e w' => ∃ b1 d1 b2 d2, e = .returned (.tuple #[.agg #[.slice b1 (swS ss ps ts).length d1, .slice b2 ps.length d2], .bool (swB ss ps ts)]) ∧ DOwn w' w.heap.size b1 d1 b2 d2 (swS ss ps ts) ps ∧ Below w.heap.size w w' := by
 have HLO : Hid (∀ W : World, DOwn W B0 a1 c1 a2 c2 ss ps → Calls Tryz.prog 53 #[.agg #[.slice a1 ss.length c1, .slice a2 ps.length c2]] W fun e w' => e = .returned (.bool (logB ss ps)) ∧ Below W.heap.size W w') := fun W h => slok22 ss ps a1 a2 c1 c2 hn hm hs hp W h.s.srow h.p.prow
 have HCP : Hid (∀ (W : World) (B : Nat) (x1 : Option Addr) (x2 : Nat) (x3 : Option Addr) (x4 : Nat), DOwn W B x1 x2 x3 x4 ss ps → Calls Tryz.prog 25 #[.agg #[.slice x1 ss.length x2, .slice x3 ps.length x4]] W fun e w' => ∃ f1 f2 f3 f4, e = .returned (.agg #[.slice f1 ss.length f2, .slice f3 ps.length f4]) ∧ DOwn w' W.heap.size f1 f2 f3 f4 ss ps ∧ Below W.heap.size W w') := fun W B x1 x2 x3 x4 h => copy64 ss ps x1 x3 x2 x4 B (by omega) (by omega) W h
 have b0 : Hid (Below w.heap.size w ((w.alloc (.cells #[.slice a1 ss.length c1, .slice a2 ps.length c2] 27)).alloc (.cells #[.slice none 0 0, .slice none 0 0] 27))) := ((belowRefl w).alloc (Nat.le_refl _) _).alloc (by simp) _
 have X0 : Hid (Bx ((w.alloc (.cells #[.slice a1 ss.length c1, .slice a2 ps.length c2] 27)).alloc (.cells #[.slice none 0 0, .slice none 0 0] 27)) w.heap.size (.slice a1 ss.length c1) (.slice a2 ps.length c2)) := (Bx.new w _ _ _).alloc _
 have X1 : Hid (Bx ((w.alloc (.cells #[.slice a1 ss.length c1, .slice a2 ps.length c2] 27)).alloc (.cells #[.slice none 0 0, .slice none 0 0] 27)) (w.heap.size + 1) (.slice none 0 0) (.slice none 0 0)) := by
  have h := Bx.new (w.alloc (.cells #[.slice a1 ss.length c1, .slice a2 ps.length c2] 27)) (.slice none 0 0) (.slice none 0 0) 27
  rw [World.size_alloc] at h
  exact h
 have HD0 : Hid (DOwn ((w.alloc (.cells #[.slice a1 ss.length c1, .slice a2 ps.length c2] 27)).alloc (.cells #[.slice none 0 0, .slice none 0 0] 27)) B0 a1 c1 a2 c2 ss ps) := hd.below b0.out
 have HL : Hid (SRow w al ts) := hl
 cases hlog : logB ss ps with
 | false =>
  have HN : Hid (swB ss ps ts = false ∧ swS ss ps ts = ss) := sw_no1 hlog
  rw [HN.out.1, HN.out.2]
  rw [hlog] at HLO
  clear hlog hd hl hs hp hts
  go_enter Tryz.func46, Tryz.ntmps46
  go_wp2_with fail
  refine (HLO.out _ HD0.out).mono ?_
  rintro e w1 ⟨rfl, hb1⟩
  have Y01 : Hid (Bx w1 w.heap.size (.slice a1 ss.length c1) (.slice a2 ps.length c2)) := X0.out.keep hb1 X0.out.lt
  have Y11 : Hid (Bx w1 (w.heap.size + 1) (.slice none 0 0) (.slice none 0 0)) := X1.out.keep hb1 X1.out.lt
  have HB1 : Hid (Below w.heap.size w w1) := b0.out.trans (hb1.mono b0.out.size)
  have g01 := Y01.out.c0
  have g11 := Y01.out.c1
  go_wp2_with fail
  refine (HCP.out _ _ _ _ _ _ (HD0.out.below hb1)).mono ?_
  rintro e w9 ⟨y1, y2, y3, y4, rfl, hd9, hb9⟩
  have Y09 : Hid (Bx w9 w.heap.size (.slice a1 ss.length c1) (.slice a2 ps.length c2)) := Y01.out.keep hb9 Y01.out.lt
  have Y19 : Hid (Bx w9 (w.heap.size + 1) (.slice none 0 0) (.slice none 0 0)) := Y11.out.keep hb9 Y11.out.lt
  have HB9 : Hid (Below w.heap.size w w9) := HB1.out.trans (hb9.mono HB1.out.size)
  have g09 := Y09.out.c0
  have g19 := Y09.out.c1
  have HD9 : Hid (DOwn w9 (w.heap.size + 1 + 1) y1 y2 y3 y4 ss ps) := hd9.mono Y11.out.lt
  clear hd9 hb9
  have r0 := Y19.out.c0
  have r1 := Y19.out.c1
  have rf := Y19.out.fz
  have V9 : Hid (Bx ((w9.setCell ⟨w.heap.size + 1, 0, none⟩ (.slice y1 ss.length y2)).setCell ⟨w.heap.size + 1, 1, none⟩ (.slice y3 ps.length y4)) (w.heap.size + 1) (.slice y1 ss.length y2) (.slice y3 ps.length y4)) := (Y19.out.set0 _).set1 _
  have q0 := V9.out.c0
  have q1 := V9.out.c1
  go_wp2
  refine bodyPost_ret (v := .tuple #[.agg #[.slice y1 ss.length y2, .slice y3 ps.length y4], .bool false]) (by simp [results, Tryz.results46, go_sem, q0, q1]) rfl ⟨y1, y2, y3, y4, rfl, ⟨?_, ?_⟩, ?_⟩
  ·exact ((HD9.out.s.set (by show w.heap.size + 1 < _; omega) _).set (by show w.heap.size + 1 < _; omega) _).mono (by omega)
  ·exact ((HD9.out.p.set (by show w.heap.size + 1 < _; omega) _).set (by show w.heap.size + 1 < _; omega) _).mono (by omega)
  ·exact (HB9.out.setCell (by show _ ≤ w.heap.size + 1; omega) _).setCell (by show _ ≤ w.heap.size + 1; omega) _
 | true =>
  rw [hlog] at HLO
  have HFI : Hid (∀ W : World, Below w.heap.size w W → Calls Tryz.prog 47 #[.agg #[.slice a1 ss.length c1, .slice a2 ps.length c2], .slice al ts.length cl] W fun e w' => ∃ b1 d1 b2 d2, e = .returned (.tuple #[.agg #[.slice b1 (fillO (1 - act ss ps) (zrS ss (1 - act ss ps)) ts).1.length d1, .slice b2 ps.length d2], .bool (fillO (1 - act ss ps) (zrS ss (1 - act ss ps)) ts).2]) ∧ DOwn w' W.heap.size b1 d1 b2 d2 (fillO (1 - act ss ps) (zrS ss (1 - act ss ps)) ts).1 ps ∧ Below W.heap.size W w') := fun W h => sfill74 ss ps ts a1 a2 al c1 c2 cl B0 hlog htn hts W (hd.below h) (hl.below h)
  have hfl := logB_parts (fill_log hts hlog)
  cases hfb : (fillO (1 - act ss ps) (zrS ss (1 - act ss ps)) ts).2 with
  | false =>
   have HN : Hid (swB ss ps ts = false ∧ swS ss ps ts = ss) := sw_no2 hfb
   rw [HN.out.1, HN.out.2]
   rw [hfb] at HFI
   clear hlog hd hl hs hp hts hfb hfl
   generalize (fillO (1 - act ss ps) (zrS ss (1 - act ss ps)) ts).1 = FS at *
   go_enter Tryz.func46, Tryz.ntmps46
   go_wp2_with fail
   refine (HLO.out _ HD0.out).mono ?_
   rintro e w1 ⟨rfl, hb1⟩
   have Y01 : Hid (Bx w1 w.heap.size (.slice a1 ss.length c1) (.slice a2 ps.length c2)) := X0.out.keep hb1 X0.out.lt
   have Y11 : Hid (Bx w1 (w.heap.size + 1) (.slice none 0 0) (.slice none 0 0)) := X1.out.keep hb1 X1.out.lt
   have HB1 : Hid (Below w.heap.size w w1) := b0.out.trans (hb1.mono b0.out.size)
   have g01 := Y01.out.c0
   have g11 := Y01.out.c1
   go_wp2_with fail
   refine (HFI.out _ HB1.out).mono ?_
   rintro e w3 ⟨y1, y2, y3, y4, rfl, hd3, hb3⟩
   have Y03 : Hid (Bx w3 w.heap.size (.slice a1 ss.length c1) (.slice a2 ps.length c2)) := Y01.out.keep hb3 Y01.out.lt
   have Y13 : Hid (Bx w3 (w.heap.size + 1) (.slice none 0 0) (.slice none 0 0)) := Y11.out.keep hb3 Y11.out.lt
   have HB3 : Hid (Below w.heap.size w w3) := HB1.out.trans (hb3.mono HB1.out.size)
   have g03 := Y03.out.c0
   have g13 := Y03.out.c1
   have Y04 : Hid (Bx (w3.alloc (.cells #[.slice y1 FS.length y2, .slice y3 ps.length y4] 27)) w.heap.size (.slice a1 ss.length c1) (.slice a2 ps.length c2)) := Y03.out.alloc _
   have Y14 : Hid (Bx (w3.alloc (.cells #[.slice y1 FS.length y2, .slice y3 ps.length y4] 27)) (w.heap.size + 1) (.slice none 0 0) (.slice none 0 0)) := Y13.out.alloc _
   have Y24 : Hid (Bx (w3.alloc (.cells #[.slice y1 FS.length y2, .slice y3 ps.length y4] 27)) w3.heap.size (.slice y1 FS.length y2) (.slice y3 ps.length y4)) := Bx.new w3 _ _ _
   have HB4 : Hid (Below w.heap.size w (w3.alloc (.cells #[.slice y1 FS.length y2, .slice y3 ps.length y4] 27))) := HB3.out.alloc HB3.out.size _
   have HX4 : Hid (DOwn (w3.alloc (.cells #[.slice y1 FS.length y2, .slice y3 ps.length y4] 27)) (w.heap.size + 1 + 1) y1 y2 y3 y4 FS ps) := (hd3.mono Y11.out.lt).below ((belowRefl w3).alloc (Nat.le_refl _) _)
   have g04 := Y04.out.c0
   have g14 := Y04.out.c1
   have g24 := Y24.out.c0
   have g34 := Y24.out.c1
   have HD4 : Hid (DOwn (w3.alloc (.cells #[.slice y1 FS.length y2, .slice y3 ps.length y4] 27)) B0 a1 c1 a2 c2 ss ps) := ((HD0.out.below hb1).below hb3).below ((belowRefl w3).alloc (Nat.le_refl _) _)
   clear hd3 hb3 hb1
   go_wp2_with fail
   refine (HCP.out _ _ _ _ _ _ HD4.out).mono ?_
   rintro e w9 ⟨z1, z2, z3, z4, rfl, hd9, hb9⟩
   have Y09 : Hid (Bx w9 w.heap.size (.slice a1 ss.length c1) (.slice a2 ps.length c2)) := Y04.out.keep hb9 Y04.out.lt
   have Y19 : Hid (Bx w9 (w.heap.size + 1) (.slice none 0 0) (.slice none 0 0)) := Y14.out.keep hb9 Y14.out.lt
   have HB9 : Hid (Below w.heap.size w w9) := HB4.out.trans (hb9.mono HB4.out.size)
   have g09 := Y09.out.c0
   have g19 := Y09.out.c1
   have HD9 : Hid (DOwn w9 (w.heap.size + 1 + 1) z1 z2 z3 z4 ss ps) := hd9.mono Y14.out.lt
   clear hd9 hb9
   have r0 := Y19.out.c0
   have r1 := Y19.out.c1
   have rf := Y19.out.fz
   have V9 : Hid (Bx ((w9.setCell ⟨w.heap.size + 1, 0, none⟩ (.slice z1 ss.length z2)).setCell ⟨w.heap.size + 1, 1, none⟩ (.slice z3 ps.length z4)) (w.heap.size + 1) (.slice z1 ss.length z2) (.slice z3 ps.length z4)) := (Y19.out.set0 _).set1 _
   have q0 := V9.out.c0
   have q1 := V9.out.c1
   go_wp2
   refine bodyPost_ret (v := .tuple #[.agg #[.slice z1 ss.length z2, .slice z3 ps.length z4], .bool false]) (by simp [results, Tryz.results46, go_sem, q0, q1]) rfl ⟨z1, z2, z3, z4, rfl, ⟨?_, ?_⟩, ?_⟩
   ·exact ((HD9.out.s.set (by show w.heap.size + 1 < _; omega) _).set (by show w.heap.size + 1 < _; omega) _).mono (by omega)
   ·exact ((HD9.out.p.set (by show w.heap.size + 1 < _; omega) _).set (by show w.heap.size + 1 < _; omega) _).mono (by omega)
   ·exact (HB9.out.setCell (by show _ ≤ w.heap.size + 1; omega) _).setCell (by show _ ≤ w.heap.size + 1; omega) _
  | true =>
   have HY := sw_yes hlog hfb
   rw [HY.1, HY.2]
   rw [hfb] at HFI
   have hfo := okB_iff.1 hfl.1
   have HTU : Hid (∀ (W : World) (B : Nat) (x1 : Option Addr) (x2 : Nat) (x3 : Option Addr) (x4 : Nat), DOwn W B x1 x2 x3 x4 (fillO (1 - act ss ps) (zrS ss (1 - act ss ps)) ts).1 ps → Calls Tryz.prog 48 #[.agg #[.slice x1 (fillO (1 - act ss ps) (zrS ss (1 - act ss ps)) ts).1.length x2, .slice x3 ps.length x4]] W fun e w' => ∃ b1 d1 b2 d2, e = .returned (.tuple #[.agg #[.slice b1 (fillO (1 - act ss ps) (zrS ss (1 - act ss ps)) ts).1.length d1, .slice b2 (tuW (fillO (1 - act ss ps) (zrS ss (1 - act ss ps)) ts).1 ps).length d2], .bool true]) ∧ DOwn w' W.heap.size b1 d1 b2 d2 (fillO (1 - act ss ps) (zrS ss (1 - act ss ps)) ts).1 (tuW (fillO (1 - act ss ps) (zrS ss (1 - act ss ps)) ts).1 ps) ∧ okB (fillO (1 - act ss ps) (zrS ss (1 - act ss ps)) ts).1 (tuW (fillO (1 - act ss ps) (zrS ss (1 - act ss ps)) ts).1 ps) = true ∧ Below W.heap.size W w') := fun W B x1 x2 x3 x4 h => sturn75 _ ps x1 x3 x2 x4 B hfl.1 hfl.2.2 hfl.2.1 W h
   have HFL : Hid (okB (fillO (1 - act ss ps) (zrS ss (1 - act ss ps)) ts).1 (tuW (fillO (1 - act ss ps) (zrS ss (1 - act ss ps)) ts).1 ps) = true → ∀ (W : World) (B : Nat) (x1 : Option Addr) (x2 : Nat) (x3 : Option Addr) (x4 : Nat), DOwn W B x1 x2 x3 x4 (fillO (1 - act ss ps) (zrS ss (1 - act ss ps)) ts).1 (tuW (fillO (1 - act ss ps) (zrS ss (1 - act ss ps)) ts).1 ps) → Calls Tryz.prog 40 #[.agg #[.slice x1 (fillO (1 - act ss ps) (zrS ss (1 - act ss ps)) ts).1.length x2, .slice x3 (tuW (fillO (1 - act ss ps) (zrS ss (1 - act ss ps)) ts).1 ps).length x4]] W fun e w' => ∃ f1 f2 f3 f4, e = .returned (.agg #[.slice f1 (flS (fillO (1 - act ss ps) (zrS ss (1 - act ss ps)) ts).1 (tuW (fillO (1 - act ss ps) (zrS ss (1 - act ss ps)) ts).1 ps)).length f2, .slice f3 ps.length f4]) ∧ DOwn w' W.heap.size f1 f2 f3 f4 (flS (fillO (1 - act ss ps) (zrS ss (1 - act ss ps)) ts).1 (tuW (fillO (1 - act ss ps) (zrS ss (1 - act ss ps)) ts).1 ps)) ps ∧ Below W.heap.size W w') := fun hk W B x1 x2 x3 x4 h => by
    have h2 := sflush38 _ _ x1 x3 x2 x4 B (by have := hfl.2.1; omega) (by have := (okB_iff.1 hk).2.2.1; omega) W h
    rw [flP_yes hk, ← hfl.2.2] at h2
    exact h2
   clear hlog hd hl hs hp hts hfb hfl HY hfo
   generalize flS (fillO (1 - act ss ps) (zrS ss (1 - act ss ps)) ts).1 (tuW (fillO (1 - act ss ps) (zrS ss (1 - act ss ps)) ts).1 ps) = LP at *
   generalize tuW (fillO (1 - act ss ps) (zrS ss (1 - act ss ps)) ts).1 ps = TW at *
   generalize (fillO (1 - act ss ps) (zrS ss (1 - act ss ps)) ts).1 = FS at *
   go_enter Tryz.func46, Tryz.ntmps46
   go_wp2_with fail
   refine (HLO.out _ HD0.out).mono ?_
   rintro e w1 ⟨rfl, hb1⟩
   have Y01 : Hid (Bx w1 w.heap.size (.slice a1 ss.length c1) (.slice a2 ps.length c2)) := X0.out.keep hb1 X0.out.lt
   have Y11 : Hid (Bx w1 (w.heap.size + 1) (.slice none 0 0) (.slice none 0 0)) := X1.out.keep hb1 X1.out.lt
   have HB1 : Hid (Below w.heap.size w w1) := b0.out.trans (hb1.mono b0.out.size)
   have g01 := Y01.out.c0
   have g11 := Y01.out.c1
   go_wp2_with fail
   refine (HFI.out _ HB1.out).mono ?_
   rintro e w3 ⟨y1, y2, y3, y4, rfl, hd3, hb3⟩
   have Y03 : Hid (Bx w3 w.heap.size (.slice a1 ss.length c1) (.slice a2 ps.length c2)) := Y01.out.keep hb3 Y01.out.lt
   have Y13 : Hid (Bx w3 (w.heap.size + 1) (.slice none 0 0) (.slice none 0 0)) := Y11.out.keep hb3 Y11.out.lt
   have HB3 : Hid (Below w.heap.size w w3) := HB1.out.trans (hb3.mono HB1.out.size)
   have g03 := Y03.out.c0
   have g13 := Y03.out.c1
   have Y04 : Hid (Bx (w3.alloc (.cells #[.slice y1 FS.length y2, .slice y3 ps.length y4] 27)) w.heap.size (.slice a1 ss.length c1) (.slice a2 ps.length c2)) := Y03.out.alloc _
   have Y14 : Hid (Bx (w3.alloc (.cells #[.slice y1 FS.length y2, .slice y3 ps.length y4] 27)) (w.heap.size + 1) (.slice none 0 0) (.slice none 0 0)) := Y13.out.alloc _
   have Y24 : Hid (Bx (w3.alloc (.cells #[.slice y1 FS.length y2, .slice y3 ps.length y4] 27)) w3.heap.size (.slice y1 FS.length y2) (.slice y3 ps.length y4)) := Bx.new w3 _ _ _
   have HB4 : Hid (Below w.heap.size w (w3.alloc (.cells #[.slice y1 FS.length y2, .slice y3 ps.length y4] 27))) := HB3.out.alloc HB3.out.size _
   have HX4 : Hid (DOwn (w3.alloc (.cells #[.slice y1 FS.length y2, .slice y3 ps.length y4] 27)) (w.heap.size + 1 + 1) y1 y2 y3 y4 FS ps) := (hd3.mono Y11.out.lt).below ((belowRefl w3).alloc (Nat.le_refl _) _)
   have g04 := Y04.out.c0
   have g14 := Y04.out.c1
   have g24 := Y24.out.c0
   have g34 := Y24.out.c1
   clear hd3 hb3 hb1
   go_wp2_with fail
   refine (HTU.out _ _ _ _ _ _ HX4.out).mono ?_
   rintro e w5 ⟨z1, z2, z3, z4, rfl, hd5, hk5, hb5⟩
   have Y05 : Hid (Bx w5 w.heap.size (.slice a1 ss.length c1) (.slice a2 ps.length c2)) := Y04.out.keep hb5 Y04.out.lt
   have Y15 : Hid (Bx w5 (w.heap.size + 1) (.slice none 0 0) (.slice none 0 0)) := Y14.out.keep hb5 Y14.out.lt
   have HB5 : Hid (Below w.heap.size w w5) := HB4.out.trans (hb5.mono HB4.out.size)
   have g05 := Y05.out.c0
   have g15 := Y05.out.c1
   have Y06 : Hid (Bx (w5.alloc (.cells #[.slice z1 FS.length z2, .slice z3 TW.length z4] 27)) w.heap.size (.slice a1 ss.length c1) (.slice a2 ps.length c2)) := Y05.out.alloc _
   have Y16 : Hid (Bx (w5.alloc (.cells #[.slice z1 FS.length z2, .slice z3 TW.length z4] 27)) (w.heap.size + 1) (.slice none 0 0) (.slice none 0 0)) := Y15.out.alloc _
   have Y26 : Hid (Bx (w5.alloc (.cells #[.slice z1 FS.length z2, .slice z3 TW.length z4] 27)) w5.heap.size (.slice z1 FS.length z2) (.slice z3 TW.length z4)) := Bx.new w5 _ _ _
   have HB6 : Hid (Below w.heap.size w (w5.alloc (.cells #[.slice z1 FS.length z2, .slice z3 TW.length z4] 27))) := HB5.out.alloc HB5.out.size _
   have HX6 : Hid (DOwn (w5.alloc (.cells #[.slice z1 FS.length z2, .slice z3 TW.length z4] 27)) (w.heap.size + 1 + 1) z1 z2 z3 z4 FS TW) := (hd5.mono Y14.out.lt).below ((belowRefl w5).alloc (Nat.le_refl _) _)
   have g06 := Y06.out.c0
   have g16 := Y06.out.c1
   have g26 := Y26.out.c0
   have g36 := Y26.out.c1
   clear hd5 hb5
   go_wp2_with fail
   refine (HFL.out hk5 _ _ _ _ _ _ HX6.out).mono ?_
   rintro e w9 ⟨u1, u2, u3, u4, rfl, hd9, hb9⟩
   have Y09 : Hid (Bx w9 w.heap.size (.slice a1 ss.length c1) (.slice a2 ps.length c2)) := Y06.out.keep hb9 Y06.out.lt
   have Y19 : Hid (Bx w9 (w.heap.size + 1) (.slice none 0 0) (.slice none 0 0)) := Y16.out.keep hb9 Y16.out.lt
   have HB9 : Hid (Below w.heap.size w w9) := HB6.out.trans (hb9.mono HB6.out.size)
   have g09 := Y09.out.c0
   have g19 := Y09.out.c1
   have HD9 : Hid (DOwn w9 (w.heap.size + 1 + 1) u1 u2 u3 u4 LP ps) := hd9.mono Y16.out.lt
   clear hd9 hb9
   have r0 := Y19.out.c0
   have r1 := Y19.out.c1
   have rf := Y19.out.fz
   have V9 : Hid (Bx ((w9.setCell ⟨w.heap.size + 1, 0, none⟩ (.slice u1 LP.length u2)).setCell ⟨w.heap.size + 1, 1, none⟩ (.slice u3 ps.length u4)) (w.heap.size + 1) (.slice u1 LP.length u2) (.slice u3 ps.length u4)) := (Y19.out.set0 _).set1 _
   have q0 := V9.out.c0
   have q1 := V9.out.c1
   go_wp2
   refine bodyPost_ret (v := .tuple #[.agg #[.slice u1 LP.length u2, .slice u3 ps.length u4], .bool true]) (by simp [results, Tryz.results46, go_sem, q0, q1]) rfl ⟨u1, u2, u3, u4, rfl, ⟨?_, ?_⟩, ?_⟩
   ·exact ((HD9.out.s.set (by show w.heap.size + 1 < _; omega) _).set (by show w.heap.size + 1 < _; omega) _).mono (by omega)
   ·exact ((HD9.out.p.set (by show w.heap.size + 1 < _; omega) _).set (by show w.heap.size + 1 < _; omega) _).mono (by omega)
   ·exact (HB9.out.setCell (by show _ ≤ w.heap.size + 1; omega) _).setCell (by show _ ≤ w.heap.size + 1; omega) _

set_option maxRecDepth 100000 in
set_option maxHeartbeats 8000000 in
theorem isw43 (ss : List ByteArray) (ps : List Wr) (ts : List ByteArray) (a1 a2 al : Option Addr) (c1 c2 cl : Nat) (hn : ss.length ≤ 1048576) (hm : ps.length ≤ 1048576) (hs : ∀ s ∈ ss, s.size ≤ 1048576) (hp : ∀ p ∈ ps, p.2.size ≤ 1048576) (htn : ts.length ≤ 1048576) (hts : ∀ t ∈ ts, t.size ≤ 1048576) (w : World) (hsr : SRow w a1 ss) (hpr : PRow w a2 ps) (hl : SRow w al ts) :
  Calls Tryz.prog 42 #[.agg #[.slice a1 ss.length c1, .slice a2 ps.length c2], .slice al ts.length cl] w fun e w' => ∃ b1 d1 b2 d2, e = .returned (.tuple #[.agg #[.slice b1 (swS ss ps ts).length d1, .slice b2 ps.length d2], .bool (swB ss ps ts)]) ∧ DOwn w' w.heap.size b1 d1 b2 d2 (swS ss ps ts) ps ∧ Below w.heap.size w w' := by
 have HLO : Hid (∀ W : World, Below w.heap.size w W → Calls Tryz.prog 52 #[.agg #[.slice a1 ss.length c1, .slice a2 ps.length c2]] W fun e w' => e = .returned (.bool (logB ss ps)) ∧ Below W.heap.size W w') := fun W h => ilok24 ss ps a1 a2 c1 c2 hn hm hs hp W (hsr.below h) (hpr.below h)
 have HCP : Hid (∀ W : World, Below w.heap.size w W → Calls Tryz.prog 73 #[.agg #[.slice a1 ss.length c1, .slice a2 ps.length c2]] W fun e w' => ∃ f1 f2 f3 f4, e = .returned (.agg #[.slice f1 ss.length f2, .slice f3 ps.length f4]) ∧ DOwn w' W.heap.size f1 f2 f3 f4 ss ps ∧ Below W.heap.size W w') := fun W h => copy53 ss ps a1 a2 c1 c2 (by omega) (by omega) (fun s h => Nat.le_trans (hs s h) (by omega)) (fun p h => Nat.le_trans (hp p h) (by omega)) W (hsr.below h) (hpr.below h)
 have b0 : Hid (Below w.heap.size w ((w.alloc (.cells #[.slice a1 ss.length c1, .slice a2 ps.length c2] 27)).alloc (.cells #[.slice none 0 0, .slice none 0 0] 27))) := ((belowRefl w).alloc (Nat.le_refl _) _).alloc (by simp) _
 have X0 : Hid (Bx ((w.alloc (.cells #[.slice a1 ss.length c1, .slice a2 ps.length c2] 27)).alloc (.cells #[.slice none 0 0, .slice none 0 0] 27)) w.heap.size (.slice a1 ss.length c1) (.slice a2 ps.length c2)) := (Bx.new w _ _ _).alloc _
 have X1 : Hid (Bx ((w.alloc (.cells #[.slice a1 ss.length c1, .slice a2 ps.length c2] 27)).alloc (.cells #[.slice none 0 0, .slice none 0 0] 27)) (w.heap.size + 1) (.slice none 0 0) (.slice none 0 0)) := by
  have h := Bx.new (w.alloc (.cells #[.slice a1 ss.length c1, .slice a2 ps.length c2] 27)) (.slice none 0 0) (.slice none 0 0) 27
  rw [World.size_alloc] at h
  exact h
 cases hlog : logB ss ps with
 | false =>
  have HN : Hid (swB ss ps ts = false ∧ swS ss ps ts = ss) := sw_no1 hlog
  rw [HN.out.1, HN.out.2]
  rw [hlog] at HLO
  clear hlog hsr hpr hl hs hp hts
  go_enter Tryz.func42, Tryz.ntmps42
  go_wp2_with fail
  refine (HLO.out _ b0.out).mono ?_
  rintro e w1 ⟨rfl, hb1⟩
  have Y01 : Hid (Bx w1 w.heap.size (.slice a1 ss.length c1) (.slice a2 ps.length c2)) := X0.out.keep hb1 X0.out.lt
  have Y11 : Hid (Bx w1 (w.heap.size + 1) (.slice none 0 0) (.slice none 0 0)) := X1.out.keep hb1 X1.out.lt
  have HB1 : Hid (Below w.heap.size w w1) := b0.out.trans (hb1.mono b0.out.size)
  have g01 := Y01.out.c0
  have g11 := Y01.out.c1
  go_wp2_with fail
  refine (HCP.out _ HB1.out).mono ?_
  rintro e w9 ⟨y1, y2, y3, y4, rfl, hd9, hb9⟩
  have Y09 : Hid (Bx w9 w.heap.size (.slice a1 ss.length c1) (.slice a2 ps.length c2)) := Y01.out.keep hb9 Y01.out.lt
  have Y19 : Hid (Bx w9 (w.heap.size + 1) (.slice none 0 0) (.slice none 0 0)) := Y11.out.keep hb9 Y11.out.lt
  have HB9 : Hid (Below w.heap.size w w9) := HB1.out.trans (hb9.mono HB1.out.size)
  have g09 := Y09.out.c0
  have g19 := Y09.out.c1
  have HD9 : Hid (DOwn w9 (w.heap.size + 1 + 1) y1 y2 y3 y4 ss ps) := hd9.mono Y11.out.lt
  clear hd9 hb9
  have r0 := Y19.out.c0
  have r1 := Y19.out.c1
  have rf := Y19.out.fz
  have V9 : Hid (Bx ((w9.setCell ⟨w.heap.size + 1, 0, none⟩ (.slice y1 ss.length y2)).setCell ⟨w.heap.size + 1, 1, none⟩ (.slice y3 ps.length y4)) (w.heap.size + 1) (.slice y1 ss.length y2) (.slice y3 ps.length y4)) := (Y19.out.set0 _).set1 _
  have q0 := V9.out.c0
  have q1 := V9.out.c1
  go_wp2
  refine bodyPost_ret (v := .tuple #[.agg #[.slice y1 ss.length y2, .slice y3 ps.length y4], .bool false]) (by simp [results, Tryz.results42, go_sem, q0, q1]) rfl ⟨y1, y2, y3, y4, rfl, ⟨?_, ?_⟩, ?_⟩
  ·exact ((HD9.out.s.set (by show w.heap.size + 1 < _; omega) _).set (by show w.heap.size + 1 < _; omega) _).mono (by omega)
  ·exact ((HD9.out.p.set (by show w.heap.size + 1 < _; omega) _).set (by show w.heap.size + 1 < _; omega) _).mono (by omega)
  ·exact (HB9.out.setCell (by show _ ≤ w.heap.size + 1; omega) _).setCell (by show _ ≤ w.heap.size + 1; omega) _
 | true =>
  rw [hlog] at HLO
  have hfl := logB_parts (fill_log hts hlog)
  cases hfb : (fillO (1 - act ss ps) (zrS ss (1 - act ss ps)) ts).2 with
  | false =>
   have HFI : Hid (∀ W : World, Below w.heap.size w W → Calls Tryz.prog 43 #[.agg #[.slice a1 ss.length c1, .slice a2 ps.length c2], .slice al ts.length cl] W fun e w' => e = .returned (.tuple #[.agg #[.slice none 0 0, .slice none 0 0], .bool false]) ∧ Below W.heap.size W w') := fun W h => by
    refine (ifill77 ss ps ts a1 a2 al c1 c2 cl hlog htn hts W (hsr.below h) (hpr.below h) (hl.below h)).mono ?_
    rintro e w' (⟨h1, _⟩ | ⟨_, h2⟩)
    ·rw [hfb] at h1; cases h1
    ·exact h2
   have HN : Hid (swB ss ps ts = false ∧ swS ss ps ts = ss) := sw_no2 hfb
   rw [HN.out.1, HN.out.2]
   clear hlog hsr hpr hl hs hp hts hfb hfl
   go_enter Tryz.func42, Tryz.ntmps42
   go_wp2_with fail
   refine (HLO.out _ b0.out).mono ?_
   rintro e w1 ⟨rfl, hb1⟩
   have Y01 : Hid (Bx w1 w.heap.size (.slice a1 ss.length c1) (.slice a2 ps.length c2)) := X0.out.keep hb1 X0.out.lt
   have Y11 : Hid (Bx w1 (w.heap.size + 1) (.slice none 0 0) (.slice none 0 0)) := X1.out.keep hb1 X1.out.lt
   have HB1 : Hid (Below w.heap.size w w1) := b0.out.trans (hb1.mono b0.out.size)
   have g01 := Y01.out.c0
   have g11 := Y01.out.c1
   go_wp2_with fail
   refine (HFI.out _ HB1.out).mono ?_
   rintro e w3 ⟨rfl, hb3⟩
   have Y03 : Hid (Bx w3 w.heap.size (.slice a1 ss.length c1) (.slice a2 ps.length c2)) := Y01.out.keep hb3 Y01.out.lt
   have Y13 : Hid (Bx w3 (w.heap.size + 1) (.slice none 0 0) (.slice none 0 0)) := Y11.out.keep hb3 Y11.out.lt
   have HB3 : Hid (Below w.heap.size w w3) := HB1.out.trans (hb3.mono HB1.out.size)
   have g03 := Y03.out.c0
   have g13 := Y03.out.c1
   have Y04 : Hid (Bx (w3.alloc (.cells #[.slice none 0 0, .slice none 0 0] 27)) w.heap.size (.slice a1 ss.length c1) (.slice a2 ps.length c2)) := Y03.out.alloc _
   have Y14 : Hid (Bx (w3.alloc (.cells #[.slice none 0 0, .slice none 0 0] 27)) (w.heap.size + 1) (.slice none 0 0) (.slice none 0 0)) := Y13.out.alloc _
   have HB4 : Hid (Below w.heap.size w (w3.alloc (.cells #[.slice none 0 0, .slice none 0 0] 27))) := HB3.out.alloc HB3.out.size _
   have g04 := Y04.out.c0
   have g14 := Y04.out.c1
   clear hb3 hb1
   go_wp2_with fail
   refine (HCP.out _ HB4.out).mono ?_
   rintro e w9 ⟨z1, z2, z3, z4, rfl, hd9, hb9⟩
   have Y09 : Hid (Bx w9 w.heap.size (.slice a1 ss.length c1) (.slice a2 ps.length c2)) := Y04.out.keep hb9 Y04.out.lt
   have Y19 : Hid (Bx w9 (w.heap.size + 1) (.slice none 0 0) (.slice none 0 0)) := Y14.out.keep hb9 Y14.out.lt
   have HB9 : Hid (Below w.heap.size w w9) := HB4.out.trans (hb9.mono HB4.out.size)
   have g09 := Y09.out.c0
   have g19 := Y09.out.c1
   have HD9 : Hid (DOwn w9 (w.heap.size + 1 + 1) z1 z2 z3 z4 ss ps) := hd9.mono Y14.out.lt
   clear hd9 hb9
   have r0 := Y19.out.c0
   have r1 := Y19.out.c1
   have rf := Y19.out.fz
   have V9 : Hid (Bx ((w9.setCell ⟨w.heap.size + 1, 0, none⟩ (.slice z1 ss.length z2)).setCell ⟨w.heap.size + 1, 1, none⟩ (.slice z3 ps.length z4)) (w.heap.size + 1) (.slice z1 ss.length z2) (.slice z3 ps.length z4)) := (Y19.out.set0 _).set1 _
   have q0 := V9.out.c0
   have q1 := V9.out.c1
   go_wp2
   refine bodyPost_ret (v := .tuple #[.agg #[.slice z1 ss.length z2, .slice z3 ps.length z4], .bool false]) (by simp [results, Tryz.results42, go_sem, q0, q1]) rfl ⟨z1, z2, z3, z4, rfl, ⟨?_, ?_⟩, ?_⟩
   ·exact ((HD9.out.s.set (by show w.heap.size + 1 < _; omega) _).set (by show w.heap.size + 1 < _; omega) _).mono (by omega)
   ·exact ((HD9.out.p.set (by show w.heap.size + 1 < _; omega) _).set (by show w.heap.size + 1 < _; omega) _).mono (by omega)
   ·exact (HB9.out.setCell (by show _ ≤ w.heap.size + 1; omega) _).setCell (by show _ ≤ w.heap.size + 1; omega) _
  | true =>
   have HFI : Hid (∀ W : World, Below w.heap.size w W → Calls Tryz.prog 43 #[.agg #[.slice a1 ss.length c1, .slice a2 ps.length c2], .slice al ts.length cl] W fun e w' => ∃ b1 d1 b2 d2, e = .returned (.tuple #[.agg #[.slice b1 (fillO (1 - act ss ps) (zrS ss (1 - act ss ps)) ts).1.length d1, .slice b2 ps.length d2], .bool true]) ∧ DOwn w' W.heap.size b1 d1 b2 d2 (fillO (1 - act ss ps) (zrS ss (1 - act ss ps)) ts).1 ps ∧ Below W.heap.size W w') := fun W h => by
    refine (ifill77 ss ps ts a1 a2 al c1 c2 cl hlog htn hts W (hsr.below h) (hpr.below h) (hl.below h)).mono ?_
    rintro e w' (⟨_, h1⟩ | ⟨h2, _⟩)
    ·exact h1
    ·rw [hfb] at h2; cases h2
   have HY := sw_yes hlog hfb
   rw [HY.1, HY.2]
   have HTU : Hid (∀ (W : World) (x1 : Option Addr) (x2 : Nat) (x3 : Option Addr) (x4 : Nat), SRow W x1 (fillO (1 - act ss ps) (zrS ss (1 - act ss ps)) ts).1 → PRow W x3 ps → Calls Tryz.prog 44 #[.agg #[.slice x1 (fillO (1 - act ss ps) (zrS ss (1 - act ss ps)) ts).1.length x2, .slice x3 ps.length x4]] W fun e w' => ∃ b1 d1 b2 d2, e = .returned (.agg #[.slice b1 (fillO (1 - act ss ps) (zrS ss (1 - act ss ps)) ts).1.length d1, .slice b2 (tuW (fillO (1 - act ss ps) (zrS ss (1 - act ss ps)) ts).1 ps).length d2]) ∧ DOwn w' W.heap.size b1 d1 b2 d2 (fillO (1 - act ss ps) (zrS ss (1 - act ss ps)) ts).1 (tuW (fillO (1 - act ss ps) (zrS ss (1 - act ss ps)) ts).1 ps) ∧ okB (fillO (1 - act ss ps) (zrS ss (1 - act ss ps)) ts).1 (tuW (fillO (1 - act ss ps) (zrS ss (1 - act ss ps)) ts).1 ps) = true ∧ Below W.heap.size W w') := fun W x1 x2 x3 x4 h1 h2 => iturn78 _ ps x1 x3 x2 x4 hfl.1 hfl.2.2 hfl.2.1 W h1 h2
   have HFL : Hid (okB (fillO (1 - act ss ps) (zrS ss (1 - act ss ps)) ts).1 (tuW (fillO (1 - act ss ps) (zrS ss (1 - act ss ps)) ts).1 ps) = true → ∀ (W : World) (x1 : Option Addr) (x2 : Nat) (x3 : Option Addr) (x4 : Nat), SRow W x1 (fillO (1 - act ss ps) (zrS ss (1 - act ss ps)) ts).1 → PRow W x3 (tuW (fillO (1 - act ss ps) (zrS ss (1 - act ss ps)) ts).1 ps) → Calls Tryz.prog 33 #[.agg #[.slice x1 (fillO (1 - act ss ps) (zrS ss (1 - act ss ps)) ts).1.length x2, .slice x3 (tuW (fillO (1 - act ss ps) (zrS ss (1 - act ss ps)) ts).1 ps).length x4]] W fun e w' => ∃ f1 f2 f3 f4, e = .returned (.agg #[.slice f1 (flS (fillO (1 - act ss ps) (zrS ss (1 - act ss ps)) ts).1 (tuW (fillO (1 - act ss ps) (zrS ss (1 - act ss ps)) ts).1 ps)).length f2, .slice f3 ps.length f4]) ∧ DOwn w' W.heap.size f1 f2 f3 f4 (flS (fillO (1 - act ss ps) (zrS ss (1 - act ss ps)) ts).1 (tuW (fillO (1 - act ss ps) (zrS ss (1 - act ss ps)) ts).1 ps)) ps ∧ Below W.heap.size W w') := fun hk W x1 x2 x3 x4 h1 h2 => by
    have ho := okB_iff.1 hk
    have h3 := iflush19 _ _ x1 x3 x2 x4 (by have := hfl.2.1; omega) (by have := ho.2.2.1; omega) (fun s h => by have := ho.2.2.2.1 s h; omega) (fun p h => by have := (ho.2.2.2.2 p h).2.2; omega) W h1 h2
    rw [flP_yes hk, ← hfl.2.2] at h3
    exact h3
   clear hlog hsr hpr hl hs hp hts hfb hfl HY
   generalize flS (fillO (1 - act ss ps) (zrS ss (1 - act ss ps)) ts).1 (tuW (fillO (1 - act ss ps) (zrS ss (1 - act ss ps)) ts).1 ps) = LP at *
   generalize tuW (fillO (1 - act ss ps) (zrS ss (1 - act ss ps)) ts).1 ps = TW at *
   generalize (fillO (1 - act ss ps) (zrS ss (1 - act ss ps)) ts).1 = FS at *
   go_enter Tryz.func42, Tryz.ntmps42
   go_wp2_with fail
   refine (HLO.out _ b0.out).mono ?_
   rintro e w1 ⟨rfl, hb1⟩
   have Y01 : Hid (Bx w1 w.heap.size (.slice a1 ss.length c1) (.slice a2 ps.length c2)) := X0.out.keep hb1 X0.out.lt
   have Y11 : Hid (Bx w1 (w.heap.size + 1) (.slice none 0 0) (.slice none 0 0)) := X1.out.keep hb1 X1.out.lt
   have HB1 : Hid (Below w.heap.size w w1) := b0.out.trans (hb1.mono b0.out.size)
   have g01 := Y01.out.c0
   have g11 := Y01.out.c1
   go_wp2_with fail
   refine (HFI.out _ HB1.out).mono ?_
   rintro e w3 ⟨y1, y2, y3, y4, rfl, hd3, hb3⟩
   have Y03 : Hid (Bx w3 w.heap.size (.slice a1 ss.length c1) (.slice a2 ps.length c2)) := Y01.out.keep hb3 Y01.out.lt
   have Y13 : Hid (Bx w3 (w.heap.size + 1) (.slice none 0 0) (.slice none 0 0)) := Y11.out.keep hb3 Y11.out.lt
   have HB3 : Hid (Below w.heap.size w w3) := HB1.out.trans (hb3.mono HB1.out.size)
   have g03 := Y03.out.c0
   have g13 := Y03.out.c1
   have Y04 : Hid (Bx (w3.alloc (.cells #[.slice y1 FS.length y2, .slice y3 ps.length y4] 27)) w.heap.size (.slice a1 ss.length c1) (.slice a2 ps.length c2)) := Y03.out.alloc _
   have Y14 : Hid (Bx (w3.alloc (.cells #[.slice y1 FS.length y2, .slice y3 ps.length y4] 27)) (w.heap.size + 1) (.slice none 0 0) (.slice none 0 0)) := Y13.out.alloc _
   have Y24 : Hid (Bx (w3.alloc (.cells #[.slice y1 FS.length y2, .slice y3 ps.length y4] 27)) w3.heap.size (.slice y1 FS.length y2) (.slice y3 ps.length y4)) := Bx.new w3 _ _ _
   have HB4 : Hid (Below w.heap.size w (w3.alloc (.cells #[.slice y1 FS.length y2, .slice y3 ps.length y4] 27))) := HB3.out.alloc HB3.out.size _
   have HX4 : Hid (DOwn (w3.alloc (.cells #[.slice y1 FS.length y2, .slice y3 ps.length y4] 27)) (w.heap.size + 1 + 1) y1 y2 y3 y4 FS ps) := (hd3.mono Y11.out.lt).below ((belowRefl w3).alloc (Nat.le_refl _) _)
   have g04 := Y04.out.c0
   have g14 := Y04.out.c1
   have g24 := Y24.out.c0
   have g34 := Y24.out.c1
   clear hd3 hb3 hb1
   go_wp2_with fail
   refine (HTU.out _ _ _ _ _ HX4.out.s.srow HX4.out.p.prow).mono ?_
   rintro e w5 ⟨z1, z2, z3, z4, rfl, hd5, hk5, hb5⟩
   have Y05 : Hid (Bx w5 w.heap.size (.slice a1 ss.length c1) (.slice a2 ps.length c2)) := Y04.out.keep hb5 Y04.out.lt
   have Y15 : Hid (Bx w5 (w.heap.size + 1) (.slice none 0 0) (.slice none 0 0)) := Y14.out.keep hb5 Y14.out.lt
   have HB5 : Hid (Below w.heap.size w w5) := HB4.out.trans (hb5.mono HB4.out.size)
   have g05 := Y05.out.c0
   have g15 := Y05.out.c1
   go_wp2_with fail
   refine (HFL.out hk5 _ _ _ _ _ hd5.s.srow hd5.p.prow).mono ?_
   rintro e w9 ⟨u1, u2, u3, u4, rfl, hd9, hb9⟩
   have Y09 : Hid (Bx w9 w.heap.size (.slice a1 ss.length c1) (.slice a2 ps.length c2)) := Y05.out.keep hb9 Y05.out.lt
   have Y19 : Hid (Bx w9 (w.heap.size + 1) (.slice none 0 0) (.slice none 0 0)) := Y15.out.keep hb9 Y15.out.lt
   have HB9 : Hid (Below w.heap.size w w9) := HB5.out.trans (hb9.mono HB5.out.size)
   have g09 := Y09.out.c0
   have g19 := Y09.out.c1
   have HD9 : Hid (DOwn w9 (w.heap.size + 1 + 1) u1 u2 u3 u4 LP ps) := hd9.mono Y15.out.lt
   clear hd9 hb9 hd5 hb5
   have r0 := Y19.out.c0
   have r1 := Y19.out.c1
   have rf := Y19.out.fz
   have V9 : Hid (Bx ((w9.setCell ⟨w.heap.size + 1, 0, none⟩ (.slice u1 LP.length u2)).setCell ⟨w.heap.size + 1, 1, none⟩ (.slice u3 ps.length u4)) (w.heap.size + 1) (.slice u1 LP.length u2) (.slice u3 ps.length u4)) := (Y19.out.set0 _).set1 _
   have q0 := V9.out.c0
   have q1 := V9.out.c1
   go_wp2
   refine bodyPost_ret (v := .tuple #[.agg #[.slice u1 LP.length u2, .slice u3 ps.length u4], .bool true]) (by simp [results, Tryz.results42, go_sem, q0, q1]) rfl ⟨u1, u2, u3, u4, rfl, ⟨?_, ?_⟩, ?_⟩
   ·exact ((HD9.out.s.set (by show w.heap.size + 1 < _; omega) _).set (by show w.heap.size + 1 < _; omega) _).mono (by omega)
   ·exact ((HD9.out.p.set (by show w.heap.size + 1 < _; omega) _).set (by show w.heap.size + 1 < _; omega) _).mono (by omega)
   ·exact (HB9.out.setCell (by show _ ≤ w.heap.size + 1; omega) _).setCell (by show _ ≤ w.heap.size + 1; omega) _
end Go.Proofs.YtekjpoenbcnhdaaGreat
