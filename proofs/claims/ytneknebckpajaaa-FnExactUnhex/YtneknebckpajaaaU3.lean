/- impl.Unhex of the empty text; the law FnExactUnhex, walked. -/
import Derived.Test.YtneknebckpajaaaU2
namespace Go.Proofs.Ytneknebckpajaaa
open Go.RowKit

set_option maxRecDepth 100000 in
set_option maxHeartbeats 1000000 in
theorem iun_zero (s : ByteArray) (h0 : s.size = 0) (w : World) :
    Calls Try.prog 21 #[.string s] w fun e w' => e = .returned (unV s) ∧ Below w.heap.size w w' := by
  obtain ⟨i0, hi, hz0, hz1, hz2⟩ := info_parts Try.info5
  have HL : Hid (s.data.toList = []) := List.length_eq_zero_iff.1 (by rw [Array.length_toList]; exact h0)
  have H0 : Hid (s.size = 0) := h0
  have hs1 : s.size ≤ 0 := by omega
  clear h0
  have d2 : ((s.size : Int) % 2 != 0) = false := by rw [bne_eq_false_iff_eq]; omega
  have d1 : decide ((40000 : Int) < (s.size : Int)) = false := by simp; omega
  go_enter Try.func21, Try.ntmps21
  go_wp2_with (first | (go_at_call 32; refine (fv32_none s 16 (Nat.le_refl _) (by omega) H0.out _).mono ?_; rintro e w1 ⟨hb1, ao, cap, rfl⟩) | (at_make; refine wpList_make_own _ rfl _ _ 39 rfl w1.heap.size 5 i0 (.int .u8 0) 1 Try.underlying39 hi hz0 hz1 .i64 .i64 _ 0 rfl rfl (by simp) (by rw [hz2]; omega) (by unfold maxLen; omega) (Nat.le_refl _) ?_))
  intro w2 hown0 hgrow0
  have hown1 := Own.made hown0
  have hb2 : Below w1.heap.size w1 w2 := (Below.refl _ w1).grown hgrow0 (Nat.le_refl _) (fun j hj => by cases hj)
  clear hown0 hgrow0 hi hz0 hz1 hz2
  have hst := hown1.str
  go_wp2
  refine wp_loop_rounds 1 ?_
  rw [rounds_succ]
  go_wp2
  go_ret2
  refine ⟨?_, hb1.trans (hb2.mono hb1.size)⟩
  rw [unV_yes (by rw [HL.out]; rfl), HL.out]
  rfl

theorem un_ret {s : ByteArray} {v : Value} (h : unV s = v) {w : World} {f : Nat} {P : World → World → Prop} (hc : Calls Try.prog f #[.string s] w fun e w' => e = .returned (unV s) ∧ P w w') :
    Calls Try.prog f #[.string s] w fun e w' => e = .returned v ∧ P w w' := by rw [h] at hc; exact hc

theorem iun (s : ByteArray) (n : Nat) (hn : s.size = 2 * n) (hs : s.size ≤ 40000) (w : World) :
    Calls Try.prog 21 #[.string s] w fun e w' => e = .returned (unV s) ∧ Below w.heap.size w w' := by
  cases hf : WM.figsB 16 s.data.toList with
  | false => exact iun_bad s n hn hs hf w
  | true =>
    by_cases h0 : n = 0
    · exact iun_zero s (by omega) w
    · exact iun_yes s n hn (by omega) hs hf w

set_option maxHeartbeats 400000 in
theorem law8 (s : ByteArray) (hs : s.size ≤ maxLen) (w : World) : Calls Try.prog 8 #[.string s] w fun e w' => e = .returned (.bool true) ∧ Below w.heap.size w w' := by
  unfold maxLen at hs
  by_cases hbig : 1048576 < s.size
  · go_enter Try.func8, Try.ntmps8
    go_wp2
    go_ret
    exact ⟨rfl, Below.refl _ _⟩
  by_cases h : 40000 < s.size ∨ s.size % 2 = 1
  · have H : Hid _ := h
    clear h
    go_enter Try.func8, Try.ntmps8
    go_wp2_with (first | (go_at_call 20; refine (sun_no s H.out (by omega) _).mono ?_; rintro e w' ⟨rfl, rfl⟩) | (go_at_call 21; refine (iun_no s H.out (by omega) _).mono ?_; rintro e w' ⟨rfl, rfl⟩))
    go_ret
    exact ⟨rfl, Below.refl _ _⟩
  · obtain ⟨n, hn⟩ : ∃ n, s.size = 2 * n := ⟨s.size / 2, by omega⟩
    have hk : s.size ≤ 40000 := by omega
    have HN : Hid _ := hn
    clear h hn
    cases hf : WM.figsB 16 s.data.toList with
    | false =>
      have HF : Hid _ := unV_no hf
      clear hf
      go_enter Try.func8, Try.ntmps8
      go_wp2_with (first | (go_at_call 20; refine (un_ret HF.out (sun_yes s n HN.out hk _)).mono ?_; rintro e w1 ⟨rfl, hb1⟩) | (go_at_call 21; refine (un_ret HF.out (iun s n HN.out hk _)).mono ?_; rintro e w2 ⟨rfl, hb2⟩))
      go_ret
      exact ⟨rfl, hb1.trans (hb2.mono hb1.size)⟩
    | true =>
      have HF : Hid _ := unV_yes hf
      clear hf
      go_enter Try.func8, Try.ntmps8
      go_wp2_with (first | (go_at_call 20; refine (un_ret HF.out (sun_yes s n HN.out hk _)).mono ?_; rintro e w1 ⟨rfl, hb1⟩) | (go_at_call 21; refine (un_ret HF.out (iun s n HN.out hk _)).mono ?_; rintro e w2 ⟨rfl, hb2⟩))
      go_ret
      exact ⟨rfl, hb1.trans (hb2.mono hb1.size)⟩
end Go.Proofs.Ytneknebckpajaaa
