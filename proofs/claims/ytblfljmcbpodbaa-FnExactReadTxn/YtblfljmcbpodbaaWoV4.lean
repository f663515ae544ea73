/- What spec.ReadVar returns. -/
import Derived.Test.YtblfljmcbpodbaaWoV3
import Derived.Deep.QuietTactic
import Derived.BigQuiet
import Derived.Deep.RegionHeld3
import Derived.Deep.DrawnRows
import Derived.Lib.Strings
namespace Go.Proofs.Ytblfljmcbpodbaa
open Go.RowKit
attribute [local go_sem ↓] Go.wp_at_zero Go.wp_at_succ

set_option maxHeartbeats 400000 in
theorem srv_no (s : ByteArray) (p : Int) (h : p < 0 ∨ (s.size : Int) < p) (hs : s.size ≤ 1048576) (w : World) :
    Calls Try.prog 130 #[.string s, .int .i64 p] w fun e w' => e = .returned (rvV 0 none) ∧ w' = w := by
  rcases h with h | h
  · go_enter Try.func130, Try.ntmps130
    go_wp2
    go_ret3
    exact ⟨rfl, rfl⟩
  · have h0 : 0 ≤ p := by omega
    have hd : decide (p ≤ (s.size : Int)) = false := by simp; omega
    go_enter Try.func130, Try.ntmps130
    go_wp2
    go_ret3
    exact ⟨rfl, rfl⟩

theorem var28i (a : Int) (h0 : 0 ≤ a) (h1 : a ≤ 1000000000) (w : World) :
    Calls Try.prog 90 #[.int .i64 a] w fun e w' => e = .returned (.string ⟨(WM.varL a.toNat).toArray⟩) ∧ Below w.heap.size w w' := by
  obtain ⟨n, rfl⟩ := Int.eq_ofNat_of_zero_le h0
  rw [Int.toNat_natCast]
  exact var28 n (by omega) w

set_option maxHeartbeats 400000 in
theorem in27 (x a b : Int) (h0 : a ≤ x) (h1 : x ≤ b) (w : World) :
    Calls Try.prog 60 #[.int .i64 x, .int .i64 a, .int .i64 b] w fun e w' => e = .returned (.bool true) ∧ w' = w := by
  go_enter Try.func60, Try.ntmps60
  go_wp2
  go_ret
  exact ⟨rfl, rfl⟩

/-- the bytes read so far are all at least 128, and N is their worth -/
def Pre (s : ByteArray) (p k N : Nat) : Prop := N = WM.val ((s.data.toList.drop p).take k) ∧ ∀ c ∈ (s.data.toList.drop p).take k, 128 ≤ c.toNat

theorem take_more (s : ByteArray) (p k : Nat) (hlt : p + k < s.size) : (s.data.toList.drop p).take (k + 1) = (s.data.toList.drop p).take k ++ [s[p + k]] := by
  have hl : k < (s.data.toList.drop p).length := by simp only [List.length_drop, Array.length_toList]; show k < s.size - p; omega
  rw [List.take_succ_eq_append_getElem hl]
  simp only [List.getElem_drop]
  rfl

theorem Pre.more {s : ByteArray} {p k N W : Nat} (hlt : p + k < s.size) (hW : W = 128 ^ k) (h : Pre s p k N) (hx : ¬ (s[p + k].toNat : Int) < 128) : Pre s p (k + 1) (N + s[p + k].toNat % 128 * W) := by
  have hl : ((s.data.toList.drop p).take k).length = k := by
    rw [List.length_take, List.length_drop, Array.length_toList]
    exact Nat.min_eq_left (by show k ≤ s.size - p; omega)
  refine ⟨?_, ?_⟩
  · rw [take_more s p k hlt, WM.val_snoc, ← h.1, hl, hW]
  · intro c hc
    rw [take_more s p k hlt] at hc
    rcases List.mem_append.1 hc with hc | hc
    · exact h.2 c hc
    · simp at hc; subst hc; omega

theorem cmp_val {s : ByteArray} {p k N W : Nat} (hlt : p + k < s.size) (hW : W = 128 ^ k) (h : Pre s p k N) (hx : (s[p + k].toNat : Int) < 128) :
    (WM.varL ((N : Int) + (s[p + k].toNat : Int) % 128 * (W : Int)).toNat == (s.extract p ((p : Int) + (k : Int) + 1).toNat).toList) = decide (¬ (s[p + k].toNat = 0 ∧ 0 < k)) := by
  have hl : ((s.data.toList.drop p).take k).length = k := by
    rw [List.length_take, List.length_drop, Array.length_toList]
    exact Nat.min_eq_left (by show k ≤ s.size - p; omega)
  have e1 : ((N : Int) + (s[p + k].toNat : Int) % 128 * (W : Int)).toNat = WM.val ((s.data.toList.drop p).take k ++ [s[p + k]]) := by
    rw [WM.val_snoc, ← h.1, hl, mul_cast, Int.toNat_natCast, hW]
  have e2 : (s.extract p ((p : Int) + (k : Int) + 1).toNat).toList = (s.data.toList.drop p).take k ++ [s[p + k]] := by
    rw [ByteArray.toList_eq, Lib.extract_data, ← take_more s p k hlt, show ((p : Int) + (k : Int) + 1).toNat - p = k + 1 by omega]
  rw [e1, e2]
  have hv := WM.var_val ((s.data.toList.drop p).take k) s[p + k] h.2 (by omega)
  rw [hl] at hv
  rw [Bool.eq_iff_iff, beq_iff_eq, decide_eq_true_iff]
  exact hv

set_option maxRecDepth 100000 in
set_option maxHeartbeats 400000 in
theorem srv (s : ByteArray) (p : Nat) (h : p ≤ s.size) (hs : s.size ≤ 1048576) (w : World) :
    Calls Try.prog 130 #[.string s, .int .i64 p] w fun e w' => e = .returned (rvV p (WM.rv (s.data.toList.drop p))) ∧ Below w.heap.size w w' := by
  have h0 : (0 : Int) ≤ (p : Int) := by omega
  have h1 : (p : Int) ≤ (s.size : Int) := by omega
  go_enter Try.func130, Try.ntmps130
  go_wp2_with (go_at_call 60; refine (in27 _ _ _ h0 h1 _).mono ?_; rintro e w' ⟨rfl, rfl⟩)
  go_loop [7, 8, 9] (fun tn tw ti => ∃ k N W : Nat, k ≤ 5 ∧ p + k ≤ s.size ∧ ti = .int .i64 ((p + k : Nat) : Int) ∧ tn = .int .i64 (N : Int) ∧ tw = .int .i64 (W : Int) ∧ Hid (W = 128 ^ k) ∧ N < W ∧ Pre s p k N ∧ Hid (WM.rvGo (5 - k) N k (s.data.toList.drop (p + k)) = WM.rv (s.data.toList.drop p))) (fun _ _ ti => s.size - (intOf ti).toNat)
  case atStart =>
    exact ⟨0, 0, 1, by omega, by omega, rfl, rfl, rfl, rfl, by omega, ⟨rfl, by simp⟩, rfl⟩
  case round =>
    obtain ⟨k, N, W, hk, hpk, rfl, rfl, rfl, HW, hN, HP, HE⟩ := hrel
    have hWb : W ≤ 34359738368 := by
      rw [HW.out]
      exact Nat.le_trans (Nat.pow_le_pow_right (by omega) hk) (by omega)
    by_cases hlt : p + k < s.size
    · have hlt' : (p : Int) + (k : Int) < (s.size : Int) := by omega
      by_cases hk5 : k < 5
      · have hk5' : (p : Int) + (k : Int) < (p : Int) + 5 := by omega
        have hP := mul_bd s[p + k].toNat W hWb
        have hP1 := hP.1
        have h255 : (s[p + k].toNat : Int) ≤ 255 := by have := s[p + k].toNat_lt; omega
        have hP2 := hP.2
        clear hP
        by_cases hx : (s[p + k].toNat : Int) < 128
        · have hx' : (s[p + k].toNat : Int) ≤ 127 := by omega
          have HE2 := rv_lo hk5 hlt HW.out hx' HE.out
          have HE3 : Hid _ := HE2
          clear HE2 hx'
          by_cases hbig : 1000000000 < (N : Int) + (s[p + k].toNat : Int) % 128 * (W : Int)
          · go_wp2
            go_quiet (fail)
            go_wp2
            go_ret3
            refine ⟨ret_rv HE3.out ?_, ?_⟩
            · rw [if_pos (Or.inl (by rw [mul_cast] at hbig; omega))]
              rfl
            · exact below_drewN (Below.refl _ _) _
          · have hbig' : (N : Int) + (s[p + k].toNat : Int) % 128 * (W : Int) ≤ 1000000000 := by omega
            have hbn : ¬ 1000000000 < N + s[p + k].toNat % 128 * W := by rw [mul_cast] at hbig'; omega
            have HB : Hid (¬ 1000000000 < N + s[p + k].toNat % 128 * W) := hbn
            clear hbn hbig
            have hbd : decide ((1000000000 : Int) < (N : Int) + (s[p + k].toNat : Int) % 128 * (W : Int)) = false := by simp; omega
            have b0 : IntKind.i64.wrap ((p : Int) + (k : Int) + 1) = (p : Int) + (k : Int) + 1 := by rw [IntKind.wrap_i64]; omega
            have b1 : (p : Int) ≤ (p : Int) + (k : Int) + 1 := by omega
            have b2 : (p : Int) + (k : Int) + 1 ≤ (s.size : Int) := by omega
            have HC : Hid _ := cmp_val hlt HW.out HP hx
            go_wp2
            go_region_held3 (fun _ => True) (trivial) ((go_at_call 90; refine (var28i _ (by omega) (by omega) _).mono ?_; rintro e w' ⟨rfl, hb⟩))
            go_wp2
            · have ht : (!WM.varL ((N : Int) + (s[p + k].toNat : Int) % 128 * (W : Int)).toNat == (s.extract p ((p : Int) + (k : Int) + 1).toNat).toList) = true := by assumption
              rw [HC.out] at ht
              go_ret3
              refine ⟨ret_rv HE3.out ?_, ((Below.refl _ _).drew).trans hb⟩
              rw [if_pos (Or.inr (by simp at ht; omega))]
              rfl
            · have ht : (!WM.varL ((N : Int) + (s[p + k].toNat : Int) % 128 * (W : Int)).toNat == (s.extract p ((p : Int) + (k : Int) + 1).toNat).toList) = false := by assumption
              rw [HC.out] at ht
              go_ret3
              refine ⟨ret_rv HE3.out ?_, ((Below.refl _ _).drew).trans hb⟩
              rw [if_neg (by have := HB.out; simp at ht; omega)]
              simp only [rvV]
              rw [← mul_cast]
              rfl
        · have HE2 := rv_hi hk5 hlt HW.out (by omega) HE.out
          have HE3 : Hid _ := HE2
          clear HE2
          go_wp2
          go_round
          case rel =>
            refine ⟨k + 1, N + s[p + k].toNat % 128 * W, W * 128, by omega, by omega, by go_num, by rw [← mul_cast], by simp, ?_, mul_lt _ _ _ hN, HP.more hlt HW.out (by omega), HE3⟩
            show W * 128 = 128 ^ (k + 1)
            rw [HW.out, Nat.pow_succ]
          case measure => simp [intOf]; omega
      · have hk55 : k = 5 := by omega
        have hk5' : decide ((p : Int) + (k : Int) < (p : Int) + 5) = false := by simp; omega
        have HE2 := rv_five hk55 HE.out
        have HE3 : Hid _ := HE2
        clear HE2 hk55
        go_wp2
        go_ret3
        exact ⟨by rw [HE3.out]; rfl, Below.refl _ _⟩
    · have hlt' : decide ((p : Int) + (k : Int) < (s.size : Int)) = false := by simp; omega
      have HE2 := rv_out hlt HE.out
      have HE3 : Hid _ := HE2
      clear HE2
      go_wp2
      go_ret3
      exact ⟨by rw [HE3.out]; rfl, Below.refl _ _⟩
end Go.Proofs.Ytblfljmcbpodbaa
