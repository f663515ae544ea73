/- The law FnExactLogNew, walked. -/
import Derived.Test.YtnfkecefkkdedaaD0
import Derived.Test.YtnfkecefkkdedaaG1
namespace Go.Proofs.Ytnfkecefkkdedaa
open Go.RowKit
open DM
attribute [local go_sem ↓] Go.wp_at_zero Go.wp_at_succ

/-- no writes -/
def noW (_ : Int) : List Wr := []
theorem snewP (n : Int) (w : World) :
    Calls Try.prog 91 #[.int .i64 n] w fun e w' => ∃ b1 d1 b2 d2, e = .returned (.tuple #[.agg #[.slice b1 (nwS n).length d1, .slice b2 (noW n).length d2], .bool (nwB n)]) ∧ DOwn w' w.heap.size b1 d1 b2 d2 (nwS n) (noW n) ∧ Below w.heap.size w w' := snew39 n w
theorem inewP (n : Int) (w : World) :
    Calls Try.prog 28 #[.int .i64 n] w fun e w' => ∃ b1 d1 b2 d2, e = .returned (.tuple #[.agg #[.slice b1 (nwS n).length d1, .slice b2 (noW n).length d2], .bool (nwB n)]) ∧ DOwn w' w.heap.size b1 d1 b2 d2 (nwS n) (noW n) ∧ Below w.heap.size w w' := inew36 n w

theorem nwS_len (n : Int) : (nwS n).length ≤ 100 := by
  unfold nwS
  split
  · rename_i h
    simp [nwB] at h
    simp [zerosS]
    omega
  · simp

/-- the sectors of a new log -/
def lgS : List ByteArray := nwS 97
/-- and no writes -/
def lgP : List Wr := noW 97

theorem secs52 (w : World) : Calls Try.prog 90 #[] w fun e w' => e = .returned (.int .i64 97) ∧ w' = w := by
  go_enter Try.func90, Try.ntmps90
  go_wp2
  go_ret
  exact ⟨rfl, rfl⟩

set_option maxHeartbeats 1000000 in
theorem slog16 (w : World) :
    Calls Try.prog 99 #[] w fun e w' => ∃ b1 d1 b2 d2, e = .returned (.agg #[.slice b1 lgS.length d1, .slice b2 lgP.length d2]) ∧ DOwn w' w.heap.size b1 d1 b2 d2 lgS lgP ∧ Below w.heap.size w w' := by
  have HC : Hid (∀ w : World, Calls Try.prog 91 #[.int .i64 97] w fun e w' => ∃ b1 d1 b2 d2, e = .returned (.tuple #[.agg #[.slice b1 lgS.length d1, .slice b2 lgP.length d2], .bool true]) ∧ DOwn w' w.heap.size b1 d1 b2 d2 lgS lgP ∧ Below w.heap.size w w') := fun w => snewP 97 w
  generalize lgS = S at *
  generalize lgP = P at *
  go_enter Try.func99, Try.ntmps99
  go_wp2_with (first | (go_at_call 90; refine (secs52 _).mono ?_; rintro e w1 ⟨rfl, rfl⟩) | fail)
  refine (HC.out _).mono ?_
  rintro e w2 ⟨r1, r2, r3, r4, rfl, hd2, hb2⟩
  have X0 : Hid (Bx w2 w.heap.size (.slice none 0 0) (.slice none 0 0)) := (Bx.new w _ _ 27).keep hb2 (by simp)
  have HB2 : Hid (Below w.heap.size w w2) := ((belowRefl w).alloc (Nat.le_refl _) _).trans (hb2.mono (by simp))
  have HD2 : Hid (DOwn w2 (w.heap.size + 1) r1 r2 r3 r4 S P) := by
    have h := hd2
    rw [World.size_alloc] at h
    exact h
  clear hd2 hb2
  have k0 := X0.out.c0
  have k1 := X0.out.c1
  have kf := X0.out.fz
  have kl := X0.out.lt
  have X3 : Hid (Bx (w2.alloc (.cells #[.slice r1 S.length r2, .slice r3 P.length r4] 27)) w.heap.size (.slice none 0 0) (.slice none 0 0)) := X0.out.alloc _
  have q0 := X3.out.c0
  have q1 := X3.out.c1
  have qf := X3.out.fz
  go_wp2
  have X4 : Hid (Bx (((w2.setCell ⟨w.heap.size, 0, none⟩ (.slice r1 S.length r2)).setCell ⟨w.heap.size, 1, none⟩ (.slice r3 P.length r4)).alloc (.cells #[.slice r1 S.length r2, .slice r3 P.length r4] 27)) w.heap.size (.slice r1 S.length r2) (.slice r3 P.length r4)) := ((X0.out.set0 _).set1 _).alloc _
  have y0 := X4.out.c0
  have y1 := X4.out.c1
  refine bodyPost_ret (v := .agg #[.slice r1 S.length r2, .slice r3 P.length r4]) (by simp [results, Try.results99, go_sem, y0, y1]) rfl ⟨r1, r2, r3, r4, rfl, ⟨?_, ?_⟩, ?_⟩
  · exact (((HD2.out.s.set (by show w.heap.size < _; omega) _).set (by show w.heap.size < _; omega) _).alloc _).mono (by omega)
  · exact (((HD2.out.p.set (by show w.heap.size < _; omega) _).set (by show w.heap.size < _; omega) _).alloc _).mono (by omega)
  · exact ((HB2.out.setCell (Nat.le_refl _) _).setCell (Nat.le_refl _) _).alloc (by simp [World.setCell]; omega) _

set_option maxHeartbeats 1000000 in
theorem ilog17 (w : World) :
    Calls Try.prog 53 #[] w fun e w' => ∃ b1 d1 b2 d2, e = .returned (.agg #[.slice b1 lgS.length d1, .slice b2 lgP.length d2]) ∧ DOwn w' w.heap.size b1 d1 b2 d2 lgS lgP ∧ Below w.heap.size w w' := by
  have HC : Hid (∀ w : World, Calls Try.prog 28 #[.int .i64 97] w fun e w' => ∃ b1 d1 b2 d2, e = .returned (.tuple #[.agg #[.slice b1 lgS.length d1, .slice b2 lgP.length d2], .bool true]) ∧ DOwn w' w.heap.size b1 d1 b2 d2 lgS lgP ∧ Below w.heap.size w w') := fun w => inewP 97 w
  generalize lgS = S at *
  generalize lgP = P at *
  go_enter Try.func53, Try.ntmps53
  go_wp2_with fail
  refine (HC.out _).mono ?_
  rintro e w2 ⟨r1, r2, r3, r4, rfl, hd2, hb2⟩
  have X0 : Hid (Bx w2 w.heap.size (.slice none 0 0) (.slice none 0 0)) := (Bx.new w _ _ 27).keep hb2 (by simp)
  have HB2 : Hid (Below w.heap.size w w2) := ((belowRefl w).alloc (Nat.le_refl _) _).trans (hb2.mono (by simp))
  have HD2 : Hid (DOwn w2 (w.heap.size + 1) r1 r2 r3 r4 S P) := by
    have h := hd2
    rw [World.size_alloc] at h
    exact h
  clear hd2 hb2
  have k0 := X0.out.c0
  have k1 := X0.out.c1
  have kf := X0.out.fz
  have kl := X0.out.lt
  have X3 : Hid (Bx (w2.alloc (.cells #[.slice r1 S.length r2, .slice r3 P.length r4] 27)) w.heap.size (.slice none 0 0) (.slice none 0 0)) := X0.out.alloc _
  have q0 := X3.out.c0
  have q1 := X3.out.c1
  have qf := X3.out.fz
  go_wp2
  have X4 : Hid (Bx (((w2.setCell ⟨w.heap.size, 0, none⟩ (.slice r1 S.length r2)).setCell ⟨w.heap.size, 1, none⟩ (.slice r3 P.length r4)).alloc (.cells #[.slice r1 S.length r2, .slice r3 P.length r4] 27)) w.heap.size (.slice r1 S.length r2) (.slice r3 P.length r4)) := ((X0.out.set0 _).set1 _).alloc _
  have y0 := X4.out.c0
  have y1 := X4.out.c1
  refine bodyPost_ret (v := .agg #[.slice r1 S.length r2, .slice r3 P.length r4]) (by simp [results, Try.results53, go_sem, y0, y1]) rfl ⟨r1, r2, r3, r4, rfl, ⟨?_, ?_⟩, ?_⟩
  · exact (((HD2.out.s.set (by show w.heap.size < _; omega) _).set (by show w.heap.size < _; omega) _).alloc _).mono (by omega)
  · exact (((HD2.out.p.set (by show w.heap.size < _; omega) _).set (by show w.heap.size < _; omega) _).alloc _).mono (by omega)
  · exact ((HB2.out.setCell (Nat.le_refl _) _).setCell (Nat.le_refl _) _).alloc (by simp [World.setCell]; omega) _

end Go.Proofs.Ytnfkecefkkdedaa
