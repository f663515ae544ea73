/- The law FnExactPartsOf, walked. -/
import Derived.Test.YtneknebckpajaaaP5
namespace Go.Proofs.Ytneknebckpajaaa
open Go.RowKit

theorem PP_len (s : ByteArray) : (PP s).length ≤ 10 := by
  cases h : okS s with
  | false => rw [PP_no h]; simp
  | true =>
    rw [PP_yes h]
    simp only [okS, Bool.and_eq_true, decide_eq_true_iff] at h
    exact h.2

theorem part_none {f : Nat} {s : ByteArray} {w : World} (h : Calls Try.prog f #[.string s] w (PPost s w)) (hn : (PP s).length = 0) :
    Calls Try.prog f #[.string s] w fun e w' => Below w.heap.size w w' ∧ ∃ ao cap, e = .returned (.tuple #[.slice ao 0 cap, .bool (okS s)]) :=
  h.mono fun e w' ⟨hb, v, he, ho⟩ => ⟨hb, by
    obtain ⟨ao, cap, rfl⟩ := ho.form
    rw [hn] at he
    exact ⟨ao, cap, he⟩⟩

theorem part_some {f : Nat} {s : ByteArray} {w : World} (h : Calls Try.prog f #[.string s] w (PPost s w)) (hn : 0 < (PP s).length) :
    Calls Try.prog f #[.string s] w fun e w' => Below w.heap.size w w' ∧ ∃ g cap, e = .returned (.tuple #[.slice (some ⟨g, 0, none⟩) (PP s).length cap, .bool (okS s)]) ∧ w.heap.size ≤ g ∧ Holds w' g (PP s) ∧ ∀ j, w'.frozen? ⟨g, j, none⟩ = false :=
  h.mono fun e w' ⟨hb, v, he, ho⟩ => ⟨hb, by
    obtain ⟨g, cap, rfl, h1, h2, h3, h4⟩ := ho.shape hn
    exact ⟨g, cap, he, h1, ⟨h2, h3⟩, h4⟩⟩

theorem MarkInv.start {w : World} {g k0 : Nat} {ss : List ByteArray} (h : Holds w g ss) (hf : ∀ j, w.frozen? ⟨g, j, none⟩ = false) : MarkInv w w g ss.length k0 0 :=
  ⟨fun i hi => by omega, fun i _ hi => ⟨_, h.2 i hi⟩, hf, ⟨rfl, rfl, rfl, Nat.le_refl _, fun _ _ _ => rfl⟩⟩

theorem MarkInv.marked {w w' : World} {g n k0 : Nat} (h : MarkInv w w' g n k0 n) (hg : g < w.heap.size) : Holds w' g (marks k0 n) :=
  ⟨Nat.lt_of_lt_of_le hg h.rest.size, fun j hj => by
    rw [marks_len] at hj
    rw [marks_at k0 n j hj]
    exact h.done j hj⟩

theorem MarkInv.other {w w' : World} {g n k0 k g' : Nat} {ss : List ByteArray} (h : MarkInv w w' g n k0 k) (h' : Holds w g' ss) (hne : g' ≠ g) : Holds w' g' ss :=
  ⟨Nat.lt_of_lt_of_le h'.1 h.rest.size, fun j hj => by
    rw [World.cell?_of_block (w := w) (a := ⟨g', j, none⟩) (h.rest.block g' h'.1 (by intro e; exact hne (Option.some.inj e)))]
    exact h'.2 j hj⟩

theorem MarkInv.below {w w' : World} {g n k0 k B : Nat} (h : MarkInv w w' g n k0 k) (hB : B ≤ w.heap.size) (hg : B ≤ g) : Below B w w' :=
  (Below.refl B w).grown h.rest hB (fun j hj => by cases hj; exact hg)

set_option maxRecDepth 100000 in
set_option maxHeartbeats 1000000 in
theorem law9_none (s : ByteArray) (hm : s.size ≤ 1048576) (hn : (PP s).length = 0) (w : World) : Calls Try.prog 9 #[.string s] w fun e w' => e = .returned (.bool true) ∧ Below w.heap.size w w' := by
  have H0 : Hid ((PP s).length = 0) := hn
  clear hn
  generalize hok : okS s = b
  have HO : Hid (okS s = b) := hok
  clear hok
  have cs : ∀ w : World, Calls Try.prog 22 #[.string s] w fun e w' => Below w.heap.size w w' ∧ ∃ ao cap, e = .returned (.tuple #[.slice ao 0 cap, .bool b]) := fun w => by rw [← HO.out]; exact part_none (spart s w) H0.out
  have ci : ∀ w : World, Calls Try.prog 23 #[.string s] w fun e w' => Below w.heap.size w w' ∧ ∃ ao cap, e = .returned (.tuple #[.slice ao 0 cap, .bool b]) := fun w => by rw [← HO.out]; exact part_none (ipart s w) H0.out
  have CS : Hid _ := cs
  have CI : Hid _ := ci
  clear cs ci
  go_enter Try.func9, Try.ntmps9
  go_wp2_with fail
  refine (CS.out _).mono ?_
  rintro e w1 ⟨hb1, a1, c1, rfl⟩
  go_wp2_with fail
  refine (CI.out _).mono ?_
  rintro e w2 ⟨hb2, a2, c2, rfl⟩
  go_wp2_with (first | (go_at_call 24; refine (eq24_none _ _ _ _ _).mono ?_; rintro e w' ⟨rfl, rfl⟩) | (go_at_call 25; refine (mark25_none _ _ _ _).mono ?_; rintro e w' ⟨rfl, rfl⟩) | (go_at_call 26; refine (held26_none _ _ _ _).mono ?_; rintro e w' ⟨rfl, rfl⟩) | (go_at_call 23; refine (CI.out _).mono ?_; rintro e w3 ⟨hb3, a3, c3, rfl⟩))
  go_ret
  exact ⟨rfl, (hb1.trans (hb2.mono hb1.size)).trans (hb3.mono (Nat.le_trans hb1.size hb2.size))⟩

set_option maxRecDepth 100000 in
set_option maxHeartbeats 1000000 in
theorem law9_some (s : ByteArray) (hm : s.size ≤ 1048576) (hn : 0 < (PP s).length) (w : World) : Calls Try.prog 9 #[.string s] w fun e w' => e = .returned (.bool true) ∧ Below w.heap.size w w' := by
  have hl := PP_len s
  generalize hpp : PP s = L at *
  generalize hok : okS s = b
  have cs : ∀ w : World, Calls Try.prog 22 #[.string s] w fun e w' => Below w.heap.size w w' ∧ ∃ g cap, e = .returned (.tuple #[.slice (some ⟨g, 0, none⟩) L.length cap, .bool b]) ∧ w.heap.size ≤ g ∧ Holds w' g L ∧ ∀ j, w'.frozen? ⟨g, j, none⟩ = false := fun w => by
    have := part_some (spart s w) (by rw [hpp]; exact hn)
    rw [hpp, hok] at this
    exact this
  have ci : ∀ w : World, Calls Try.prog 23 #[.string s] w fun e w' => Below w.heap.size w w' ∧ ∃ g cap, e = .returned (.tuple #[.slice (some ⟨g, 0, none⟩) L.length cap, .bool b]) ∧ w.heap.size ≤ g ∧ Holds w' g L ∧ ∀ j, w'.frozen? ⟨g, j, none⟩ = false := fun w => by
    have := part_some (ipart s w) (by rw [hpp]; exact hn)
    rw [hpp, hok] at this
    exact this
  have CS : Hid _ := cs
  have CI : Hid _ := ci
  clear cs ci hpp hok
  generalize hL : L.length = n at *
  have HL : Hid (L.length = n) := hL
  clear hL
  go_enter Try.func9, Try.ntmps9
  go_wp2_with fail
  refine (CS.out _).mono ?_
  rintro e w1 ⟨hb1, gw, cw, rfl, hgw, Hw, fw⟩
  have HW1 : Hid (Holds w1 gw L) := Hw
  clear fw Hw
  go_wp2_with fail
  refine (CI.out _).mono ?_
  rintro e w2 ⟨hb2, gg, cg, rfl, hgg, Hg, fg⟩
  have HW2 : Hid (Holds w2 gw L) := HW1.out.below hb2 HW1.out.1
  have HG2 : Hid (Holds w2 gg L) := Hg
  have FG2 : Hid (∀ j, w2.frozen? ⟨gg, j, none⟩ = false) := fg
  have hne : gw ≠ gg := by have := HW1.out.1; omega
  clear fg Hg
  go_wp2_with fail
  have c24 := eq24 gg gw cg cw L (by rw [HL.out]; omega) w2 HG2.out HW2.out
  rw [HL.out] at c24
  refine c24.mono ?_
  clear c24
  rintro e w3 ⟨rfl, hb3⟩
  have HW3 : Hid (Holds w3 gw L) := HW2.out.below hb3 HW2.out.1
  have HG3 : Hid (Holds w3 gg L) := HG2.out.below hb3 HG2.out.1
  have FG3 : Hid (∀ j, w3.frozen? ⟨gg, j, none⟩ = false) := fun j => (hb3.frozen (p := ⟨gg, j, none⟩) HG2.out.1).trans (FG2.out j)
  go_wp2_with fail
  have c25 := mark25 gg cg n 1 (by omega) (by omega) (by omega) w3 HG3.out.1 (by rw [← HL.out]; exact MarkInv.start HG3.out FG3.out)
  refine c25.mono ?_
  clear c25
  rintro e w4 ⟨rfl, hmk⟩
  have HM4 : Hid (Holds w4 gg (marks 1 n)) := hmk.marked HG3.out.1
  have HW4 : Hid (Holds w4 gw L) := hmk.other HW3.out hne
  have hb4 : Below w.heap.size w3 w4 := hmk.below (by have := hb1.size; have := hb2.size; have := hb3.size; omega) (by have := hb1.size; omega)
  clear hmk
  go_wp2_with fail
  refine (held26 gg cg n 1 (by omega) (by omega) (by omega) w4 HM4.out).mono ?_
  rintro e w5 ⟨rfl, hb5⟩
  have HM5 : Hid (Holds w5 gg (marks 1 n)) := HM4.out.below hb5 HM4.out.1
  have HW5 : Hid (Holds w5 gw L) := HW4.out.below hb5 HW4.out.1
  go_wp2_with fail
  refine (CI.out _).mono ?_
  rintro e w6 ⟨hb6, gh, ch, rfl, hgh, Hh, fh⟩
  have HM6 : Hid (Holds w6 gg (marks 1 n)) := HM5.out.below hb6 HM5.out.1
  have HW6 : Hid (Holds w6 gw L) := HW5.out.below hb6 HW5.out.1
  have HH6 : Hid (Holds w6 gh L) := Hh
  clear fh Hh
  go_wp2_with fail
  have c24 := eq24 gh gw ch cw L (by rw [HL.out]; omega) w6 HH6.out HW6.out
  rw [HL.out] at c24
  refine c24.mono ?_
  clear c24
  rintro e w7 ⟨rfl, hb7⟩
  have HM7 : Hid (Holds w7 gg (marks 1 n)) := HM6.out.below hb7 HM6.out.1
  go_wp2_with fail
  refine (held26 gg cg n 1 (by omega) (by omega) (by omega) w7 HM7.out).mono ?_
  rintro e w8 ⟨rfl, hb8⟩
  have s1 := hb1.size
  have s2 := hb2.size
  have s3 := hb3.size
  have s4 := hb4.size
  have s5 := hb5.size
  have s6 := hb6.size
  have s7 := hb7.size
  have B : Hid (Below w.heap.size w w8) := ((((((hb1.trans (hb2.mono s1)).trans (hb3.mono (by omega))).trans hb4).trans (hb5.mono (by omega))).trans (hb6.mono (by omega))).trans (hb7.mono (by omega))).trans (hb8.mono (by omega))
  clear hb1 hb2 hb3 hb4 hb5 hb6 hb7 hb8 s1 s2 s3 s4 s5 s6 s7
  go_wp2
  go_ret
  exact ⟨rfl, B.out⟩

set_option maxHeartbeats 400000 in
theorem law9 (s : ByteArray) (hs : s.size ≤ maxLen) (w : World) : Calls Try.prog 9 #[.string s] w fun e w' => e = .returned (.bool true) ∧ Below w.heap.size w w' := by
  unfold maxLen at hs
  by_cases hbig : 1048576 < s.size
  · go_enter Try.func9, Try.ntmps9
    go_wp2
    go_ret
    exact ⟨rfl, Below.refl _ _⟩
  by_cases hn : (PP s).length = 0
  · exact law9_none s (by omega) hn w
  · exact law9_some s (by omega) (by omega) w
end Go.Proofs.Ytneknebckpajaaa
