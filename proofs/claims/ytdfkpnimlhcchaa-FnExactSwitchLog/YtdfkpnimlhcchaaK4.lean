/- The law FnExactLogNew, walked. -/
import Derived.Test.YtdfkpnimlhcchaaD0
import Derived.Test.YtdfkpnimlhcchaaG1
namespace Go.Proofs.Ytdfkpnimlhcchaa
open Go.RowKit
open DM
attribute [local go_sem ↓] Go.wp_at_zero Go.wp_at_succ

/-- no writes -/
def noW (_ : Int) : List Wr := []
theorem snewP (n : Int) (w : World) :
    Calls Try.prog 51 #[.int .i64 n] w fun e w' => ∃ b1 d1 b2 d2, e = .returned (.tuple #[.agg #[.slice b1 (nwS n).length d1, .slice b2 (noW n).length d2], .bool (nwB n)]) ∧ DOwn w' w.heap.size b1 d1 b2 d2 (nwS n) (noW n) ∧ Below w.heap.size w w' := snew39 n w
theorem inewP (n : Int) (w : World) :
    Calls Try.prog 53 #[.int .i64 n] w fun e w' => ∃ b1 d1 b2 d2, e = .returned (.tuple #[.agg #[.slice b1 (nwS n).length d1, .slice b2 (noW n).length d2], .bool (nwB n)]) ∧ DOwn w' w.heap.size b1 d1 b2 d2 (nwS n) (noW n) ∧ Below w.heap.size w w' := inew36 n w

theorem nwS_len (n : Int) : (nwS n).length ≤ 100 := by
  unfold nwS
  split
  · rename_i h
    simp [nwB] at h
    simp [zerosS]
    omega
  · simp

/-- the sectors of a new log -/
def lgS : List ByteArray := nwS 97
/-- and no writes -/
def lgP : List Wr := noW 97

theorem secs52 (w : World) : Calls Try.prog 52 #[] w fun e w' => e = .returned (.int .i64 97) ∧ w' = w := by
  go_enter Try.func52, Try.ntmps52
  go_wp2
  go_ret
  exact ⟨rfl, rfl⟩

set_option maxHeartbeats 1000000 in
theorem slog16 (w : World) :
    Calls Try.prog 16 #[] w fun e w' => ∃ b1 d1 b2 d2, e = .returned (.agg #[.slice b1 lgS.length d1, .slice b2 lgP.length d2]) ∧ DOwn w' w.heap.size b1 d1 b2 d2 lgS lgP ∧ Below w.heap.size w w' := by
  have HC : Hid (∀ w : World, Calls Try.prog 51 #[.int .i64 97] w fun e w' => ∃ b1 d1 b2 d2, e = .returned (.tuple #[.agg #[.slice b1 lgS.length d1, .slice b2 lgP.length d2], .bool true]) ∧ DOwn w' w.heap.size b1 d1 b2 d2 lgS lgP ∧ Below w.heap.size w w') := fun w => snewP 97 w
  generalize lgS = S at *
  generalize lgP = P at *
  go_enter Try.func16, Try.ntmps16
  go_wp2_with (first | (go_at_call 52; refine (secs52 _).mono ?_; rintro e w1 ⟨rfl, rfl⟩) | fail)
  refine (HC.out _).mono ?_
  rintro e w2 ⟨r1, r2, r3, r4, rfl, hd2, hb2⟩
  have X0 : Hid (Bx w2 w.heap.size (.slice none 0 0) (.slice none 0 0)) := (Bx.new w _ _ 27).keep hb2 (by simp)
  have HB2 : Hid (Below w.heap.size w w2) := ((belowRefl w).alloc (Nat.le_refl _) _).trans (hb2.mono (by simp))
  have HD2 : Hid (DOwn w2 (w.heap.size + 1) r1 r2 r3 r4 S P) := by
    have h := hd2
    rw [World.size_alloc] at h
    exact h
  clear hd2 hb2
  have k0 := X0.out.c0
  have k1 := X0.out.c1
  have kf := X0.out.fz
  have kl := X0.out.lt
  have X3 : Hid (Bx (w2.alloc (.cells #[.slice r1 S.length r2, .slice r3 P.length r4] 27)) w.heap.size (.slice none 0 0) (.slice none 0 0)) := X0.out.alloc _
  have q0 := X3.out.c0
  have q1 := X3.out.c1
  have qf := X3.out.fz
  go_wp2
  have X4 : Hid (Bx (((w2.setCell ⟨w.heap.size, 0, none⟩ (.slice r1 S.length r2)).setCell ⟨w.heap.size, 1, none⟩ (.slice r3 P.length r4)).alloc (.cells #[.slice r1 S.length r2, .slice r3 P.length r4] 27)) w.heap.size (.slice r1 S.length r2) (.slice r3 P.length r4)) := ((X0.out.set0 _).set1 _).alloc _
  have y0 := X4.out.c0
  have y1 := X4.out.c1
  refine bodyPost_ret (v := .agg #[.slice r1 S.length r2, .slice r3 P.length r4]) (by simp [results, Try.results16, go_sem, y0, y1]) rfl ⟨r1, r2, r3, r4, rfl, ⟨?_, ?_⟩, ?_⟩
  · exact (((HD2.out.s.set (by show w.heap.size < _; omega) _).set (by show w.heap.size < _; omega) _).alloc _).mono (by omega)
  · exact (((HD2.out.p.set (by show w.heap.size < _; omega) _).set (by show w.heap.size < _; omega) _).alloc _).mono (by omega)
  · exact ((HB2.out.setCell (Nat.le_refl _) _).setCell (Nat.le_refl _) _).alloc (by simp [World.setCell]; omega) _

set_option maxHeartbeats 1000000 in
theorem ilog17 (w : World) :
    Calls Try.prog 17 #[] w fun e w' => ∃ b1 d1 b2 d2, e = .returned (.agg #[.slice b1 lgS.length d1, .slice b2 lgP.length d2]) ∧ DOwn w' w.heap.size b1 d1 b2 d2 lgS lgP ∧ Below w.heap.size w w' := by
  have HC : Hid (∀ w : World, Calls Try.prog 53 #[.int .i64 97] w fun e w' => ∃ b1 d1 b2 d2, e = .returned (.tuple #[.agg #[.slice b1 lgS.length d1, .slice b2 lgP.length d2], .bool true]) ∧ DOwn w' w.heap.size b1 d1 b2 d2 lgS lgP ∧ Below w.heap.size w w') := fun w => inewP 97 w
  generalize lgS = S at *
  generalize lgP = P at *
  go_enter Try.func17, Try.ntmps17
  go_wp2_with fail
  refine (HC.out _).mono ?_
  rintro e w2 ⟨r1, r2, r3, r4, rfl, hd2, hb2⟩
  have X0 : Hid (Bx w2 w.heap.size (.slice none 0 0) (.slice none 0 0)) := (Bx.new w _ _ 27).keep hb2 (by simp)
  have HB2 : Hid (Below w.heap.size w w2) := ((belowRefl w).alloc (Nat.le_refl _) _).trans (hb2.mono (by simp))
  have HD2 : Hid (DOwn w2 (w.heap.size + 1) r1 r2 r3 r4 S P) := by
    have h := hd2
    rw [World.size_alloc] at h
    exact h
  clear hd2 hb2
  have k0 := X0.out.c0
  have k1 := X0.out.c1
  have kf := X0.out.fz
  have kl := X0.out.lt
  have X3 : Hid (Bx (w2.alloc (.cells #[.slice r1 S.length r2, .slice r3 P.length r4] 27)) w.heap.size (.slice none 0 0) (.slice none 0 0)) := X0.out.alloc _
  have q0 := X3.out.c0
  have q1 := X3.out.c1
  have qf := X3.out.fz
  go_wp2
  have X4 : Hid (Bx (((w2.setCell ⟨w.heap.size, 0, none⟩ (.slice r1 S.length r2)).setCell ⟨w.heap.size, 1, none⟩ (.slice r3 P.length r4)).alloc (.cells #[.slice r1 S.length r2, .slice r3 P.length r4] 27)) w.heap.size (.slice r1 S.length r2) (.slice r3 P.length r4)) := ((X0.out.set0 _).set1 _).alloc _
  have y0 := X4.out.c0
  have y1 := X4.out.c1
  refine bodyPost_ret (v := .agg #[.slice r1 S.length r2, .slice r3 P.length r4]) (by simp [results, Try.results17, go_sem, y0, y1]) rfl ⟨r1, r2, r3, r4, rfl, ⟨?_, ?_⟩, ?_⟩
  · exact (((HD2.out.s.set (by show w.heap.size < _; omega) _).set (by show w.heap.size < _; omega) _).alloc _).mono (by omega)
  · exact (((HD2.out.p.set (by show w.heap.size < _; omega) _).set (by show w.heap.size < _; omega) _).alloc _).mono (by omega)
  · exact ((HB2.out.setCell (Nat.le_refl _) _).setCell (Nat.le_refl _) _).alloc (by simp [World.setCell]; omega) _

set_option maxRecDepth 100000 in
set_option maxHeartbeats 8000000 in
theorem law4 (w : World) :
    Calls Try.prog 4 #[] w fun e w' => e = .returned (.bool true) ∧ Below w.heap.size w w' := by
  have hrs0 : lgS.length ≤ 100 := nwS_len 97
  have hrs : lgS.length ≤ 100000000 := by omega
  have hrp : lgP.length ≤ 100000000 := Nat.zero_le _
  clear hrs0
  go_enter Try.func4, Try.ntmps4
  go_wp2_with fail
  refine (slog16 _).mono ?_
  rintro e w3 ⟨r1, r2, r3, r4, rfl, hd3, hb3⟩
  have R3 : Hid (DR (w3.alloc (.cells #[.slice r1 lgS.length r2, .slice r3 lgP.length r4] 27)) w.heap.size w3.heap.size r1 r2 r3 r4 lgS lgP) := hd3.dr.alloc _
  have B3 : Hid (Bxs (w3.alloc (.cells #[.slice r1 lgS.length r2, .slice r3 lgP.length r4] 27)) [(w3.heap.size, .slice r1 lgS.length r2, .slice r3 lgP.length r4)]) := (Bxs.nil w3).new _ _ 27
  have s3 : w.heap.size ≤ w3.heap.size := hb3.size
  have HB3 : Hid (Below w.heap.size w (w3.alloc (.cells #[.slice r1 lgS.length r2, .slice r3 lgP.length r4] 27))) := hb3.alloc s3 _
  clear hd3 hb3
  go_wp2_with fail
  refine (ilog17 _).mono ?_
  rintro e w5 ⟨y1, y2, y3, y4, rfl, hd5, hb5⟩
  have Y5 : Hid (DR (w5.alloc (.cells #[.slice y1 lgS.length y2, .slice y3 lgP.length y4] 27)) (w3.heap.size + 1) w5.heap.size y1 y2 y3 y4 lgS lgP) := by
    have h := hd5.dr.alloc (.cells #[.slice y1 lgS.length y2, .slice y3 lgP.length y4] 27)
    rw [World.size_alloc] at h
    exact h
  have R5 : Hid (DR (w5.alloc (.cells #[.slice y1 lgS.length y2, .slice y3 lgP.length y4] 27)) w.heap.size w3.heap.size r1 r2 r3 r4 lgS lgP) := (R3.out.keep hb5).alloc _
  have B5 : Hid (Bxs (w5.alloc (.cells #[.slice y1 lgS.length y2, .slice y3 lgP.length y4] 27)) [(w5.heap.size, .slice y1 lgS.length y2, .slice y3 lgP.length y4), (w3.heap.size, .slice r1 lgS.length r2, .slice r3 lgP.length r4)]) := (B3.out.keep hb5).new _ _ 27
  have s5 : w3.heap.size < w5.heap.size := (B3.out.keep hb5).hd.lt
  have HB5 : Hid (Below w.heap.size w (w5.alloc (.cells #[.slice y1 lgS.length y2, .slice y3 lgP.length y4] 27))) := (HB3.out.trans (hb5.mono HB3.out.size)).alloc (by omega) _
  clear hd5 hb5 R3 B3
  have k0 := B5.out.hd.c0
  have k1 := B5.out.hd.c1
  have k2 := B5.out.tl.hd.c0
  have k3 := B5.out.tl.hd.c1
  go_wp2_with fail
  refine (eq40 y1 y3 r1 r3 y2 y4 r2 r4 lgS lgP hrs hrp _ Y5.out.d.s.srow Y5.out.d.p.prow R5.out.d.s.srow R5.out.d.p.prow).mono ?_
  rintro e w10 ⟨rfl, hb10⟩
  have Y10 : Hid (DR w10 (w3.heap.size + 1) w5.heap.size y1 y2 y3 y4 lgS lgP) := Y5.out.keep hb10
  have R10 : Hid (DR w10 w.heap.size w3.heap.size r1 r2 r3 r4 lgS lgP) := R5.out.keep hb10
  have B10 : Hid (Bxs w10 [(w5.heap.size, .slice y1 lgS.length y2, .slice y3 lgP.length y4), (w3.heap.size, .slice r1 lgS.length r2, .slice r3 lgP.length r4)]) := B5.out.keep hb10
  have HB10 : Hid (Below w.heap.size w w10) := HB5.out.trans (hb10.mono HB5.out.size)
  clear hb10 Y5 R5 B5 k0 k1 k2 k3
  have k0 := B10.out.hd.c0
  have k1 := B10.out.hd.c1
  go_wp2_with fail
  refine (mark41 lgS.length lgP.length 1 y1 y3 y2 y4 (w3.heap.size + 1) _ _ hrs hrp (by omega) (by omega) _ Y10.out.d.s Y10.out.d.p).mono ?_
  rintro e w11 ⟨rfl, hs11, hp11, hk11⟩
  have HS11 : Hid (SRow w11 y1 (marks 1 lgS.length)) := by
    have h := hs11
    rw [show Value.slice y1 lgS.length y2 = .slice y1 (marks 1 lgS.length).length y2 by rw [marks_len]] at h
    exact h.srow
  have HP11 : Hid (PRow w11 y3 (pmarks (1 + lgS.length) lgP.length)) := by
    have h := hp11
    rw [show Value.slice y3 lgP.length y4 = .slice y3 (pmarks (1 + lgS.length) lgP.length).length y4 by rw [pmarks_len]] at h
    exact h.prow
  have R11 : Hid (DR w11 w.heap.size w3.heap.size r1 r2 r3 r4 lgS lgP) := R10.out.kept2 hk11 Y10.out.u1 Y10.out.u2 (Or.inl (by omega))
  have B11 : Hid (Bxs w11 [(w5.heap.size, .slice y1 lgS.length y2, .slice y3 lgP.length y4), (w3.heap.size, .slice r1 lgS.length r2, .slice r3 lgP.length r4)]) := B10.out.kept2 hk11 (w3.heap.size + 1) w5.heap.size Y10.out.u1 Y10.out.u2 (fun q hq => by
    simp only [List.mem_cons, List.not_mem_nil, or_false] at hq
    rcases hq with rfl | rfl <;> simp)
  have HB11 : Hid (Below w.heap.size w w11) := HB10.out.trans (hk11.below _ HB10.out.size (fun k hk => by have := Y10.out.u1 k hk; omega) (fun k hk => by have := Y10.out.u2 k hk; omega))
  clear hk11 hs11 hp11 Y10 R10 B10 k0 k1
  have k0 := B11.out.hd.c0
  have k1 := B11.out.hd.c1
  go_wp2_with fail
  refine (held42 lgS.length lgP.length 1 y1 y3 y2 y4 hrs hrp (by omega) (by omega) _ HS11.out HP11.out).mono ?_
  rintro e w12 ⟨rfl, hb12⟩
  have HS12 : Hid (SRow w12 y1 (marks 1 lgS.length)) := HS11.out.below hb12
  have HP12 : Hid (PRow w12 y3 (pmarks (1 + lgS.length) lgP.length)) := HP11.out.below hb12
  have R12 : Hid (DR w12 w.heap.size w3.heap.size r1 r2 r3 r4 lgS lgP) := R11.out.keep hb12
  have B12 : Hid (Bxs w12 [(w5.heap.size, .slice y1 lgS.length y2, .slice y3 lgP.length y4), (w3.heap.size, .slice r1 lgS.length r2, .slice r3 lgP.length r4)]) := B11.out.keep hb12
  have HB12 : Hid (Below w.heap.size w w12) := HB11.out.trans (hb12.mono HB11.out.size)
  clear hb12 HS11 HP11 R11 B11 k0 k1
  have hnn : ¬ ((1 + lgS.length + 2 * lgP.length : Nat) : Int) < 0 := by omega
  go_wp2_with fail
  refine (ilog17 _).mono ?_
  rintro e w14 ⟨n1, n2, n3, n4, rfl, hd14, hb14⟩
  have N14 : Hid (DOwn (w14.alloc (.cells #[.slice n1 lgS.length n2, .slice n3 lgP.length n4] 27)) w12.heap.size n1 n2 n3 n4 lgS lgP) := hd14.below ((belowRefl w14).alloc (Nat.le_refl _) _)
  have b14 : Below w12.heap.size w12 (w14.alloc (.cells #[.slice n1 lgS.length n2, .slice n3 lgP.length n4] 27)) := hb14.alloc hb14.size _
  have HS14 : Hid (SRow (w14.alloc (.cells #[.slice n1 lgS.length n2, .slice n3 lgP.length n4] 27)) y1 (marks 1 lgS.length)) := HS12.out.below b14
  have HP14 : Hid (PRow (w14.alloc (.cells #[.slice n1 lgS.length n2, .slice n3 lgP.length n4] 27)) y3 (pmarks (1 + lgS.length) lgP.length)) := HP12.out.below b14
  have R14 : Hid (DR (w14.alloc (.cells #[.slice n1 lgS.length n2, .slice n3 lgP.length n4] 27)) w.heap.size w3.heap.size r1 r2 r3 r4 lgS lgP) := R12.out.keep b14
  have B14 : Hid (Bxs (w14.alloc (.cells #[.slice n1 lgS.length n2, .slice n3 lgP.length n4] 27)) [(w14.heap.size, .slice n1 lgS.length n2, .slice n3 lgP.length n4), (w5.heap.size, .slice y1 lgS.length y2, .slice y3 lgP.length y4), (w3.heap.size, .slice r1 lgS.length r2, .slice r3 lgP.length r4)]) := (B12.out.keep hb14).new _ _ 27
  have HB14 : Hid (Below w.heap.size w (w14.alloc (.cells #[.slice n1 lgS.length n2, .slice n3 lgP.length n4] 27))) := HB12.out.trans (b14.mono HB12.out.size)
  clear hd14 hb14 b14 HS12 HP12 R12 B12
  have k0 := B14.out.hd.c0
  have k1 := B14.out.hd.c1
  have k2 := B14.out.tl.tl.hd.c0
  have k3 := B14.out.tl.tl.hd.c1
  go_wp2_with fail
  refine (eq40 n1 n3 r1 r3 n2 n4 r2 r4 lgS lgP hrs hrp _ N14.out.s.srow N14.out.p.prow R14.out.d.s.srow R14.out.d.p.prow).mono ?_
  rintro e w15 ⟨rfl, hb15⟩
  have HS15 : Hid (SRow w15 y1 (marks 1 lgS.length)) := HS14.out.below hb15
  have HP15 : Hid (PRow w15 y3 (pmarks (1 + lgS.length) lgP.length)) := HP14.out.below hb15
  have B15 : Hid (Bxs w15 [(w14.heap.size, .slice n1 lgS.length n2, .slice n3 lgP.length n4), (w5.heap.size, .slice y1 lgS.length y2, .slice y3 lgP.length y4), (w3.heap.size, .slice r1 lgS.length r2, .slice r3 lgP.length r4)]) := B14.out.keep hb15
  have HB15 : Hid (Below w.heap.size w w15) := HB14.out.trans (hb15.mono HB14.out.size)
  clear hb15 HS14 HP14 R14 B14 N14 k0 k1 k2 k3
  have k0 := B15.out.tl.hd.c0
  have k1 := B15.out.tl.hd.c1
  go_wp2_with fail
  refine (held42 lgS.length lgP.length 1 y1 y3 y2 y4 hrs hrp (by omega) (by omega) _ HS15.out HP15.out).mono ?_
  rintro e w16 ⟨rfl, hb16⟩
  have HB16 : Hid (Below w.heap.size w w16) := HB15.out.trans (hb16.mono HB15.out.size)
  clear hb16
  go_wp2
  go_ret
  exact ⟨rfl, HB16.out⟩
end Go.Proofs.Ytdfkpnimlhcchaa
