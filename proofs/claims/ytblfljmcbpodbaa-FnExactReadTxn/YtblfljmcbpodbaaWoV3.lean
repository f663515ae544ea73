/- What impl.ReadVar returns. -/
import Derived.Test.YtblfljmcbpodbaaWoV1
namespace Go.Proofs.Ytblfljmcbpodbaa
open Go.RowKit

/-- ReadVar's answer as a value -/
def rvV (at' : Nat) : Option (Nat × Nat) → Value
  | none => .tuple #[.int .i64 0, .int .i64 0, .bool false]
  | some (n, k) => .tuple #[.int .i64 (n : Int), .int .i64 ((at' + k : Nat) : Int), .bool true]

set_option maxHeartbeats 400000 in
theorem irv_no (s : ByteArray) (p : Int) (h : p < 0 ∨ (s.size : Int) < p) (hs : s.size ≤ 1048576) (w : World) :
    Calls Try.prog 149 #[.string s, .int .i64 p] w fun e w' => e = .returned (rvV 0 none) ∧ w' = w := by
  rcases h with h | h
  · go_enter Try.func149, Try.ntmps149
    go_wp2
    go_ret3
    exact ⟨rfl, rfl⟩
  · have h0 : 0 ≤ p := by omega
    go_enter Try.func149, Try.ntmps149
    go_wp2
    go_ret3
    exact ⟨rfl, rfl⟩

theorem drop_at (s : ByteArray) (q : Nat) (h : q < s.size) : s.data.toList.drop q = s[q] :: s.data.toList.drop (q + 1) := by
  rw [List.drop_eq_getElem_cons (by simpa using h)]
  rfl

theorem rv_hi {s : ByteArray} {p k N W : Nat} {R : Option (Nat × Nat)} (hk : k < 5) (hlt : p + k < s.size) (hW : W = 128 ^ k) (hx : (127 : Int) < (s[p + k].toNat : Int))
    (h : WM.rvGo (5 - k) N k (s.data.toList.drop (p + k)) = R) : WM.rvGo (5 - (k + 1)) (N + s[p + k].toNat % 128 * W) (k + 1) (s.data.toList.drop (p + (k + 1))) = R := by
  rw [drop_at s (p + k) hlt, show 5 - k = (5 - (k + 1)) + 1 by omega] at h
  rw [WM.rvGo, if_neg (by omega), ← hW] at h
  exact h

theorem rv_lo {s : ByteArray} {p k N W : Nat} {R : Option (Nat × Nat)} (hk : k < 5) (hlt : p + k < s.size) (hW : W = 128 ^ k) (hx : (s[p + k].toNat : Int) ≤ 127)
    (h : WM.rvGo (5 - k) N k (s.data.toList.drop (p + k)) = R) :
    (if 1000000000 < N + s[p + k].toNat % 128 * W ∨ (s[p + k].toNat = 0 ∧ 0 < k) then none else some (N + s[p + k].toNat % 128 * W, k + 1)) = R := by
  rw [drop_at s (p + k) hlt, show 5 - k = (5 - (k + 1)) + 1 by omega] at h
  rw [WM.rvGo, if_pos (by omega), ← hW] at h
  exact h

theorem rv_out {s : ByteArray} {p k N : Nat} {R : Option (Nat × Nat)} (hlt : ¬ p + k < s.size)
    (h : WM.rvGo (5 - k) N k (s.data.toList.drop (p + k)) = R) : R = none := by
  rw [List.drop_of_length_le (by simp only [Array.length_toList]; exact Nat.le_of_not_lt hlt)] at h
  rw [← h]
  cases 5 - k <;> simp [WM.rvGo]

theorem rv_five {s : ByteArray} {p k N : Nat} {R : Option (Nat × Nat)} (hk : k = 5)
    (h : WM.rvGo (5 - k) N k (s.data.toList.drop (p + k)) = R) : R = none := by
  subst hk
  rw [← h]
  rfl

theorem mul_bd (x W : Nat) (hW : W ≤ 34359738368) : 0 ≤ (x : Int) % 128 * (W : Int) ∧ (x : Int) % 128 * (W : Int) ≤ 4398046511104 := by
  have h1 : x % 128 * W ≤ 128 * 34359738368 := Nat.mul_le_mul (by omega) hW
  have h2 : ((x % 128 * W : Nat) : Int) = (x : Int) % 128 * (W : Int) := by simp
  rw [← h2]
  omega

theorem mul_cast (N x W : Nat) : (N : Int) + (x : Int) % 128 * (W : Int) = ((N + x % 128 * W : Nat) : Int) := by simp

theorem mul_zero' (N W x : Nat) (h : x = 0) : (N : Int) + (x : Int) % 128 * (W : Int) = (N : Int) := by subst h; simp

theorem mul_lt (N x W : Nat) (h : N < W) : N + x % 128 * W < W * 128 := by
  have : x % 128 * W ≤ 127 * W := Nat.mul_le_mul_right _ (by omega)
  omega

theorem pow_five {k W : Nat} (hW : W = 128 ^ k) (hk : k ≤ 5) (h : ¬ W ≤ 1000000000) : k = 5 := by
  rcases (show k = 0 ∨ k = 1 ∨ k = 2 ∨ k = 3 ∨ k = 4 ∨ k = 5 by omega) with rfl | rfl | rfl | rfl | rfl | rfl <;> omega

theorem pow_lt {k W : Nat} (hW : W = 128 ^ k) (hk : k ≤ 5) (h : W ≤ 1000000000) : k < 5 := by
  rcases (show k = 0 ∨ k = 1 ∨ k = 2 ∨ k = 3 ∨ k = 4 ∨ k = 5 by omega) with rfl | rfl | rfl | rfl | rfl | rfl <;> omega

theorem ret_rv {p : Nat} {R : Option (Nat × Nat)} {a b : Int} {c : Bool} {r : Option (Nat × Nat)} (h : r = R) (e : rvV p r = .tuple #[.int .i64 a, .int .i64 b, .bool c]) :
    Ending.returned (.tuple #[.int .i64 a, .int .i64 b, .bool c]) = .returned (rvV p R) := by rw [← h, e]

set_option maxHeartbeats 400000 in
theorem irv (s : ByteArray) (p : Nat) (h : p ≤ s.size) (hs : s.size ≤ 1048576) (w : World) :
    Calls Try.prog 149 #[.string s, .int .i64 p] w fun e w' => e = .returned (rvV p (WM.rv (s.data.toList.drop p))) ∧ w' = w := by
  have h0 : (0 : Int) ≤ (p : Int) := by omega
  have h1 : (p : Int) ≤ (s.size : Int) := by omega
  have hd0 : decide ((p : Int) < 0) = false := by simp
  have hd1 : decide (s.size < p) = false := by simp; omega
  go_enter Try.func149, Try.ntmps149
  go_wp2
  go_loop [7, 8, 9] (fun tn tw ti => ∃ k N W : Nat, k ≤ 5 ∧ p + k ≤ s.size ∧ ti = .int .i64 ((p + k : Nat) : Int) ∧ tn = .int .i64 (N : Int) ∧ tw = .int .i64 (W : Int) ∧ Hid (W = 128 ^ k) ∧ N < W ∧ Hid (WM.rvGo (5 - k) N k (s.data.toList.drop (p + k)) = WM.rv (s.data.toList.drop p))) (fun _ _ ti => s.size - (intOf ti).toNat)
  case atStart =>
    exact ⟨0, 0, 1, by omega, by omega, rfl, rfl, rfl, rfl, by omega, rfl⟩
  case round =>
    obtain ⟨k, N, W, hk, hpk, rfl, rfl, rfl, HW, hN, HE⟩ := hrel
    have hWb : W ≤ 34359738368 := by
      rw [HW.out]
      exact Nat.le_trans (Nat.pow_le_pow_right (by omega) hk) (by omega)
    by_cases hlt : p + k < s.size
    · have hlt' : (p : Int) + (k : Int) < (s.size : Int) := by omega
      by_cases hk5 : W ≤ 1000000000
      · have hk5' : (W : Int) ≤ 1000000000 := by omega
        have hklt := pow_lt HW.out hk hk5
        have hP := mul_bd s[p + k].toNat W hWb
        have hP1 := hP.1
        have hP2 := hP.2
        clear hP
        by_cases hx : (127 : Int) < (s[p + k].toNat : Int)
        · have HE2 := rv_hi hklt hlt HW.out hx HE.out
          have HE3 : Hid _ := HE2
          clear HE2
          go_wp2
          go_round
          case rel =>
            refine ⟨k + 1, N + s[p + k].toNat % 128 * W, W * 128, by omega, by omega, by go_num, by rw [← mul_cast], by simp, ?_, mul_lt _ _ _ hN, HE3⟩
            show W * 128 = 128 ^ (k + 1)
            rw [HW.out, Nat.pow_succ]
          case measure => simp [intOf]; omega
        · have hx' : (s[p + k].toNat : Int) ≤ 127 := by omega
          have HE2 := rv_lo hklt hlt HW.out hx' HE.out
          have HE3 : Hid _ := HE2
          clear HE2 hx
          by_cases hbig : 1000000000 < (N : Int) + (s[p + k].toNat : Int) % 128 * (W : Int)
          · go_wp2
            go_ret3
            refine ⟨ret_rv HE3.out ?_, rfl⟩
            rw [if_pos (Or.inl (by rw [mul_cast] at hbig; omega))]
            rfl
          · have hbig' : (N : Int) + (s[p + k].toNat : Int) % 128 * (W : Int) ≤ 1000000000 := by omega
            have hbn : ¬ 1000000000 < N + s[p + k].toNat % 128 * W := by rw [mul_cast] at hbig'; omega
            have HB : Hid (¬ 1000000000 < N + s[p + k].toNat % 128 * W) := hbn
            clear hbn hbig
            by_cases hz : (s[p + k].toNat : Int) ≤ 0
            · by_cases hk0 : 0 < k
              · go_wp2
                go_ret3
                refine ⟨ret_rv HE3.out ?_, rfl⟩
                rw [if_pos (Or.inr ⟨by omega, hk0⟩)]
                rfl
              · go_wp2
                go_ret3
                refine ⟨ret_rv HE3.out ?_, rfl⟩
                rw [if_neg (by have := HB.out; omega)]
                simp only [rvV]
                rw [← mul_cast, mul_zero' N W s[p + k].toNat (by omega)]
                rfl
            · go_wp2
              go_ret3
              refine ⟨ret_rv HE3.out ?_, rfl⟩
              rw [if_neg (by have := HB.out; omega)]
              simp only [rvV]
              rw [← mul_cast]
              rfl
      · have := pow_five HW.out hk hk5
        have hk5' : decide ((W : Int) ≤ 1000000000) = false := by simp; omega
        have HE2 := rv_five this HE.out
        have HE3 : Hid _ := HE2
        clear HE2 this
        go_wp2
        go_ret3
        exact ⟨by rw [HE3.out]; rfl, rfl⟩
    · have hlt' : decide ((p : Int) + (k : Int) < (s.size : Int)) = false := by simp; omega
      have HE2 := rv_out hlt HE.out
      have HE3 : Hid _ := HE2
      clear HE2
      go_wp2
      go_ret3
      exact ⟨by rw [HE3.out]; rfl, rfl⟩
end Go.Proofs.Ytblfljmcbpodbaa
