/- What spec.PartsOf returns. -/
import Derived.Test.YtneknebckpajaaaP4
namespace Go.Proofs.Ytneknebckpajaaa
open Go.RowKit

set_option maxHeartbeats 400000 in
theorem spt_long (s : ByteArray) (h : 600 < s.size) (w : World) : Calls Try.prog 22 #[.string s] w (PPost s w) := by
  have HN : Hid (okS s = false) := okS_long h
  go_enter Try.func22, Try.ntmps22
  go_wp2
  go_ret2
  exact PPost.no HN.out ((Below.refl _ _).alloc (Nat.le_refl _) _) (SOwn.empty _ _ (Nat.le_refl _))

set_option maxRecDepth 100000 in
set_option maxHeartbeats 4000000 in
theorem spt (s : ByteArray) (h : s.size ≤ 600) (w : World) : Calls Try.prog 22 #[.string s] w (PPost s w) := by
  have hd0 : decide ((600 : Int) < (s.size : Int)) = false := by simp; omega
  go_enter Try.func22, Try.ntmps22
  go_wp2
  go_loopw [4, 5, 6] (fun v tf ti wr => ∃ (k fr : Nat) (pre : List ByteArray), k ≤ s.size + 1 ∧ fr ≤ k ∧ ti = .int .i64 (k : Int) ∧ tf = .int .i64 (fr : Int) ∧ SOwn wr w.heap.size v pre ∧ pre.length ≤ k ∧ Hid (pre ++ ptsF s (s.size + 1 - k) k fr = pts s) ∧ Hid (plainB (s.data.toList.take k) = true) ∧ Below w.heap.size w wr) (fun _ _ ti _ => s.size + 1 - (intOf ti).toNat)
  case atStart => exact ⟨0, 0, [], by omega, by omega, rfl, rfl, SOwn.empty _ _ (Nat.le_refl _), by simp, rfl, rfl, (Below.refl _ _).alloc (Nat.le_refl _) _⟩
  case round =>
    obtain ⟨k, fr, pre, hk, hfr, rfl, rfl, hown, hpl, HE, HP, hb⟩ := hrel
    by_cases hle : k ≤ s.size
    · have hle' : (k : Int) ≤ (s.size : Int) := by omega
      by_cases hlt : k < s.size
      · have hlt' : (k : Int) < (s.size : Int) := by omega
        have h0 : (0 : Int) ≤ (k : Int) := by omega
        have h255 : (s[k].toNat : Int) ≤ 255 := by have := s[k].toNat_lt; omega
        by_cases h1 : s[k].toNat < 32
        · have h1' : (s[k].toNat : Int) < 32 := by omega
          have HN : Hid (okS s = false) := okS_plain (plain_fall s k hlt (by omega))
          go_wp2
          go_ret2
          exact PPost.no HN.out (hb.alloc hb.size _) (SOwn.empty _ _ hb.size)
        by_cases h2 : 126 < s[k].toNat
        · have h1' : decide ((s[k].toNat : Int) < 32) = false := by simp; omega
          have h2' : (126 : Int) < (s[k].toNat : Int) := by omega
          have HN : Hid (okS s = false) := okS_plain (plain_fall s k hlt (by omega))
          go_wp2
          go_ret2
          exact PPost.no HN.out (hb.alloc hb.size _) (SOwn.empty _ _ hb.size)
        have HP2 : Hid (plainB (s.data.toList.take (k + 1)) = true) := plain_more s k hlt HP.out (by omega) (by omega)
        have h1' : decide ((s[k].toNat : Int) < 32) = false := by simp; omega
        have h2' : decide ((126 : Int) < (s[k].toNat : Int)) = false := by simp; omega
        by_cases hx : s[k].toNat = 32
        · have hx' : ((s[k].toNat : Int) != 32) = false := by rw [bne_eq_false_iff_eq]; omega
          have HE2 : Hid _ := pts_cut hlt hx HE.out
          clear hx
          by_cases hfk : fr < k
          · have hfk' : (fr : Int) < (k : Int) := by omega
            have hf0 : (0 : Int) ≤ (fr : Int) := by omega
            have HE3 : Hid ((pre ++ [s.extract fr k]) ++ ptsF s (s.size + 1 - (k + 1)) (k + 1) (k + 1) = pts s) := by have := HE2.out; rw [pt_yes hfk] at this; exact this
            go_wp2_with (at_builtin; refine wpSApp rfl _ _ rfl w (s.extract fr k) rfl (hown.alloc _) rfl (heap_alloc_new _ _) (by omega) (hb.alloc hb.size _) (Nat.le_refl _) ?_)
            intro v' w3 hown3 hb4
            clear hown hb
            go_wp2
            go_roundw
            case rel => exact ⟨k + 1, k + 1, _, by omega, by omega, by go_num, by go_num, hown3, by simp; omega, HE3, HP2, hb4⟩
            case measure => simp [intOf]; omega
          · have hfk' : ¬ (fr : Int) < (k : Int) := by omega
            have HE3 : Hid (pre ++ ptsF s (s.size + 1 - (k + 1)) (k + 1) (k + 1) = pts s) := by have := HE2.out; rw [pt_no hfk, List.append_nil] at this; exact this
            go_wp2
            go_roundw
            case rel => exact ⟨k + 1, k + 1, pre, by omega, by omega, by go_num, by go_num, hown, by omega, HE3, HP2, hb⟩
            case measure => simp [intOf]; omega
        · have hx' : ((s[k].toNat : Int) != 32) = true := by rw [bne_iff_ne]; omega
          have HE2 : Hid _ := pts_go hlt hx HE.out
          clear hx
          go_wp2
          go_roundw
          case rel => exact ⟨k + 1, fr, pre, by omega, by omega, by go_num, rfl, hown, by omega, HE2, HP2, hb⟩
          case measure => simp [intOf]; omega
      · have hlt' : decide ((k : Int) < (s.size : Int)) = false := by simp; omega
        have HE2 : Hid _ := pts_end hlt hle HE.out
        have HP2 : Hid (plainB (s.data.toList.take (k + 1)) = true) := by
          have := HP.out
          rw [List.take_of_length_le (by simp only [Array.length_toList]; show s.size ≤ k; omega)] at this
          show _ = _
          rw [List.take_of_length_le (by simp only [Array.length_toList]; show s.size ≤ k + 1; omega)]
          exact this
        by_cases hfk : fr < k
        · have hfk' : (fr : Int) < (k : Int) := by omega
          have hf0 : (0 : Int) ≤ (fr : Int) := by omega
          have HE3 : Hid ((pre ++ [s.extract fr k]) ++ ptsF s (s.size + 1 - (k + 1)) (k + 1) (k + 1) = pts s) := by have := HE2.out; rw [pt_yes hfk] at this; exact this
          go_wp2_with (at_builtin; refine wpSApp rfl _ _ rfl w (s.extract fr k) rfl (hown.alloc _) rfl (heap_alloc_new _ _) (by omega) (hb.alloc hb.size _) (Nat.le_refl _) ?_)
          intro v' w3 hown3 hb4
          clear hown hb
          go_wp2
          go_roundw
          case rel => exact ⟨k + 1, k + 1, _, by omega, by omega, by go_num, by go_num, hown3, by simp; omega, HE3, HP2, hb4⟩
          case measure => simp [intOf]; omega
        · have hfk' : ¬ (fr : Int) < (k : Int) := by omega
          have HE3 : Hid (pre ++ ptsF s (s.size + 1 - (k + 1)) (k + 1) (k + 1) = pts s) := by have := HE2.out; rw [pt_no hfk, List.append_nil] at this; exact this
          go_wp2
          go_roundw
          case rel => exact ⟨k + 1, k + 1, pre, by omega, by omega, by go_num, by go_num, hown, by omega, HE3, HP2, hb⟩
          case measure => simp [intOf]; omega
    · have hle' : decide ((k : Int) ≤ (s.size : Int)) = false := by simp; omega
      have HD : Hid (pre = pts s) := pts_out hle HE.out
      have HA : Hid (plainB s.data.toList = true) := by
        have := HP.out
        rw [List.take_of_length_le (by simp only [Array.length_toList]; show s.size ≤ k; omega)] at this
        exact this
      obtain ⟨ao, cap, rfl⟩ := hown.form
      by_cases hm : 10 < pre.length
      · have hm' : (10 : Int) < (pre.length : Int) := by omega
        have HN : Hid (okS s = false) := okS_many (by rw [← HD.out]; exact hm)
        go_wp2
        go_ret2
        exact PPost.no HN.out (hb.alloc hb.size _) (SOwn.empty _ _ hb.size)
      · have hm' : ¬ (10 : Int) < (pre.length : Int) := by omega
        have HY : Hid (okS s = true) := okS_yes h HA.out (by rw [← HD.out]; omega)
        go_wp2
        go_ret2
        exact PPost.yes HY.out hb (by rw [← HD.out]; exact hown)

/-- spec.PartsOf -/
theorem spart (s : ByteArray) (w : World) : Calls Try.prog 22 #[.string s] w (PPost s w) := by
  by_cases h : 600 < s.size
  · exact spt_long s h w
  · exact spt s (by omega) w
/-- impl.PartsOf -/
theorem ipart (s : ByteArray) (w : World) : Calls Try.prog 23 #[.string s] w (PPost s w) := by
  by_cases h : 600 < s.size
  · exact ipt_long s h w
  · cases hp : plainB s.data.toList with
    | false => exact ipt_bad s (by omega) hp w
    | true => exact ipt_yes s (by omega) hp w
end Go.Proofs.Ytneknebckpajaaa
