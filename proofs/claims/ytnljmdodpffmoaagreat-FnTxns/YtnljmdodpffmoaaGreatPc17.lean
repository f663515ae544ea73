/- What impl.ReadVar returns. -/
import Derived.Test.YtnljmdodpffmoaaGreatPc14
import Derived.Deep.QuietTactic
import Derived.BigQuiet
import Derived.Deep.RegionHeld3
import Derived.Deep.DrawnRows
import Derived.Lib.Strings
import Derived.Test.YtnljmdodpffmoaaGreatPc03
import Derived.Test.YtnljmdodpffmoaaGreatPc01
import Derived.Test.YtnljmdodpffmoaaGreatPc13
import Derived.Test.YtnljmdodpffmoaaGreatPc16
namespace Go.Proofs.YtnljmdodpffmoaaGreat
open Go.RowKit

def rvV (at' : Nat) : Option (Nat × Nat) → Value
 | none => .tuple #[.int .i64 0, .int .i64 0, .bool false]
 | some (n, k) => .tuple #[.int .i64 (n : Int), .int .i64 ((at' + k : Nat) : Int), .bool true]

set_option maxHeartbeats 400000 in
theorem irv_no (s : ByteArray) (p : Int) (h : p < 0 ∨ (s.size : Int) < p) (hs : s.size ≤ 1048576) (w : World) :
  Calls Tryz.prog 103 #[.string s, .int .i64 p] w fun e w' => e = .returned (rvV 0 none) ∧ w' = w := by
 rcases h with h | h
 ·go_enter Tryz.func103, Tryz.ntmps103
  go_wp2
  go_ret3
  exact ⟨rfl, rfl⟩
 ·have h0 : 0 ≤ p := by omega
  go_enter Tryz.func103, Tryz.ntmps103
  go_wp2
  go_ret3
  exact ⟨rfl, rfl⟩

theorem drop_at (s : ByteArray) (q : Nat) (h : q < s.size) : s.data.toList.drop q = s[q] :: s.data.toList.drop (q + 1) := by
 rw [List.drop_eq_getElem_cons (by simpa using h)]
 rfl

theorem rv_hi {s : ByteArray} {p k N W : Nat} {R : Option (Nat × Nat)} (hk : k < 5) (hlt : p + k < s.size) (hW : W = 128 ^ k) (hx : (127 : Int) < (s[p + k].toNat : Int))
  (h : WM.rvGo (5 - k) N k (s.data.toList.drop (p + k)) = R) : WM.rvGo (5 - (k + 1)) (N + s[p + k].toNat % 128 * W) (k + 1) (s.data.toList.drop (p + (k + 1))) = R := by
 rw [drop_at s (p + k) hlt, show 5 - k = (5 - (k + 1)) + 1 by omega] at h
 rw [WM.rvGo, if_neg (by omega), ← hW] at h
 exact h

theorem rv_lo {s : ByteArray} {p k N W : Nat} {R : Option (Nat × Nat)} (hk : k < 5) (hlt : p + k < s.size) (hW : W = 128 ^ k) (hx : (s[p + k].toNat : Int) ≤ 127)
  (h : WM.rvGo (5 - k) N k (s.data.toList.drop (p + k)) = R) :
  (if 1000000000 < N + s[p + k].toNat % 128 * W ∨ (s[p + k].toNat = 0 ∧ 0 < k) then none else some (N + s[p + k].toNat % 128 * W, k + 1)) = R := by
 rw [drop_at s (p + k) hlt, show 5 - k = (5 - (k + 1)) + 1 by omega] at h
 rw [WM.rvGo, if_pos (by omega), ← hW] at h
 exact h

theorem rv_out {s : ByteArray} {p k N : Nat} {R : Option (Nat × Nat)} (hlt : ¬ p + k < s.size)
  (h : WM.rvGo (5 - k) N k (s.data.toList.drop (p + k)) = R) : R = none := by
 rw [List.drop_of_length_le (by simp only [Array.length_toList]; exact Nat.le_of_not_lt hlt)] at h
 rw [← h]
 cases 5 - k <;> simp [WM.rvGo]

theorem rv_five {s : ByteArray} {p k N : Nat} {R : Option (Nat × Nat)} (hk : k = 5)
  (h : WM.rvGo (5 - k) N k (s.data.toList.drop (p + k)) = R) : R = none := by
 subst hk
 rw [← h]
 rfl

theorem mul_bd (x W : Nat) (hW : W ≤ 34359738368) : 0 ≤ (x : Int) % 128 * (W : Int) ∧ (x : Int) % 128 * (W : Int) ≤ 4398046511104 := by
 have h1 : x % 128 * W ≤ 128 * 34359738368 := Nat.mul_le_mul (by omega) hW
 have h2 : ((x % 128 * W : Nat) : Int) = (x : Int) % 128 * (W : Int) := by simp
 rw [← h2]
 omega

theorem mul_cast (N x W : Nat) : (N : Int) + (x : Int) % 128 * (W : Int) = ((N + x % 128 * W : Nat) : Int) := by simp

theorem mul_zero' (N W x : Nat) (h : x = 0) : (N : Int) + (x : Int) % 128 * (W : Int) = (N : Int) := by subst h; simp

theorem mul_lt (N x W : Nat) (h : N < W) : N + x % 128 * W < W * 128 := by
 have : x % 128 * W ≤ 127 * W := Nat.mul_le_mul_right _ (by omega)
 omega

theorem pow_five {k W : Nat} (hW : W = 128 ^ k) (hk : k ≤ 5) (h : ¬ W ≤ 1000000000) : k = 5 := by
 rcases (show k = 0 ∨ k = 1 ∨ k = 2 ∨ k = 3 ∨ k = 4 ∨ k = 5 by omega) with rfl | rfl | rfl | rfl | rfl | rfl <;> omega

theorem pow_lt {k W : Nat} (hW : W = 128 ^ k) (hk : k ≤ 5) (h : W ≤ 1000000000) : k < 5 := by
 rcases (show k = 0 ∨ k = 1 ∨ k = 2 ∨ k = 3 ∨ k = 4 ∨ k = 5 by omega) with rfl | rfl | rfl | rfl | rfl | rfl <;> omega

theorem ret_rv {p : Nat} {R : Option (Nat × Nat)} {a b : Int} {c : Bool} {r : Option (Nat × Nat)} (h : r = R) (e : rvV p r = .tuple #[.int .i64 a, .int .i64 b, .bool c]) :
  Ending.returned (.tuple #[.int .i64 a, .int .i64 b, .bool c]) = .returned (rvV p R) := by rw [← h, e]

set_option maxHeartbeats 400000 in
theorem irv (s : ByteArray) (p : Nat) (h : p ≤ s.size) (hs : s.size ≤ 1048576) (w : World) :
  Calls Tryz.prog 103 #[.string s, .int .i64 p] w fun e w' => e = .returned (rvV p (WM.rv (s.data.toList.drop p))) ∧ w' = w := by
 have h0 : (0 : Int) ≤ (p : Int) := by omega
 have h1 : (p : Int) ≤ (s.size : Int) := by omega
 have hd0 : decide ((p : Int) < 0) = false := by simp
 have hd1 : decide (s.size < p) = false := by simp; omega
 go_enter Tryz.func103, Tryz.ntmps103
 go_wp2
 go_loop [7, 8, 9] (fun tn tw ti => ∃ k N W : Nat, k ≤ 5 ∧ p + k ≤ s.size ∧ ti = .int .i64 ((p + k : Nat) : Int) ∧ tn = .int .i64 (N : Int) ∧ tw = .int .i64 (W : Int) ∧ Hid (W = 128 ^ k) ∧ N < W ∧ Hid (WM.rvGo (5 - k) N k (s.data.toList.drop (p + k)) = WM.rv (s.data.toList.drop p))) (fun _ _ ti => s.size - (intOf ti).toNat)
 case atStart =>
  exact ⟨0, 0, 1, by omega, by omega, rfl, rfl, rfl, rfl, by omega, rfl⟩
 case round =>
  obtain ⟨k, N, W, hk, hpk, rfl, rfl, rfl, HW, hN, HE⟩ := hrel
  have hWb : W ≤ 34359738368 := by
   rw [HW.out]
   exact Nat.le_trans (Nat.pow_le_pow_right (by omega) hk) (by omega)
  by_cases hlt : p + k < s.size
  ·have hlt' : (p : Int) + (k : Int) < (s.size : Int) := by omega
   by_cases hk5 : W ≤ 1000000000
   ·have hk5' : (W : Int) ≤ 1000000000 := by omega
    have hklt := pow_lt HW.out hk hk5
    have hP := mul_bd s[p + k].toNat W hWb
    have hP1 := hP.1
    have hP2 := hP.2
    clear hP
    by_cases hx : (127 : Int) < (s[p + k].toNat : Int)
    ·have HE2 := rv_hi hklt hlt HW.out hx HE.out
     have HE3 : Hid _ := HE2
     clear HE2
     go_wp2
     go_round
     case rel =>
      refine ⟨k + 1, N + s[p + k].toNat % 128 * W, W * 128, by omega, by omega, by go_num, by rw [← mul_cast], by simp, ?_, mul_lt _ _ _ hN, HE3⟩
      show W * 128 = 128 ^ (k + 1)
      rw [HW.out, Nat.pow_succ]
     case measure => simp [intOf]; omega
    ·have hx' : (s[p + k].toNat : Int) ≤ 127 := by omega
     have HE2 := rv_lo hklt hlt HW.out hx' HE.out
     have HE3 : Hid _ := HE2
     clear HE2 hx
     by_cases hbig : 1000000000 < (N : Int) + (s[p + k].toNat : Int) % 128 * (W : Int)
     ·go_wp2
      go_ret3
      refine ⟨ret_rv HE3.out ?_, rfl⟩
      rw [if_pos (Or.inl (by rw [mul_cast] at hbig; omega))]
      rfl
     ·have hbig' : (N : Int) + (s[p + k].toNat : Int) % 128 * (W : Int) ≤ 1000000000 := by omega
      have hbn : ¬ 1000000000 < N + s[p + k].toNat % 128 * W := by rw [mul_cast] at hbig'; omega
      have HB : Hid (¬ 1000000000 < N + s[p + k].toNat % 128 * W) := hbn
      clear hbn hbig
      by_cases hz : (s[p + k].toNat : Int) ≤ 0
      ·by_cases hk0 : 0 < k
       ·go_wp2
        go_ret3
        refine ⟨ret_rv HE3.out ?_, rfl⟩
        rw [if_pos (Or.inr ⟨by omega, hk0⟩)]
        rfl
       ·go_wp2
        go_ret3
        refine ⟨ret_rv HE3.out ?_, rfl⟩
        rw [if_neg (by have := HB.out; omega)]
        simp only [rvV]
        rw [← mul_cast, mul_zero' N W s[p + k].toNat (by omega)]
        rfl
      ·go_wp2
       go_ret3
       refine ⟨ret_rv HE3.out ?_, rfl⟩
       rw [if_neg (by have := HB.out; omega)]
       simp only [rvV]
       rw [← mul_cast]
       rfl
   ·have := pow_five HW.out hk hk5
    have hk5' : decide ((W : Int) ≤ 1000000000) = false := by simp; omega
    have HE2 := rv_five this HE.out
    have HE3 : Hid _ := HE2
    clear HE2 this
    go_wp2
    go_ret3
    exact ⟨by rw [HE3.out]; rfl, rfl⟩
  ·have hlt' : decide ((p : Int) + (k : Int) < (s.size : Int)) = false := by simp; omega
   have HE2 := rv_out hlt HE.out
   have HE3 : Hid _ := HE2
   clear HE2
   go_wp2
   go_ret3
   exact ⟨by rw [HE3.out]; rfl, rfl⟩
end Go.Proofs.YtnljmdodpffmoaaGreat

namespace Go.Proofs.YtnljmdodpffmoaaGreat
open Go.RowKit
attribute [local go_sem ↓] Go.wp_at_zero Go.wp_at_succ

set_option maxHeartbeats 400000 in
theorem srv_no (s : ByteArray) (p : Int) (h : p < 0 ∨ (s.size : Int) < p) (hs : s.size ≤ 1048576) (w : World) :
  Calls Tryz.prog 82 #[.string s, .int .i64 p] w fun e w' => e = .returned (rvV 0 none) ∧ w' = w := by
 rcases h with h | h
 ·go_enter Tryz.func82, Tryz.ntmps82
  go_wp2
  go_ret3
  exact ⟨rfl, rfl⟩
 ·have h0 : 0 ≤ p := by omega
  have hd : decide (p ≤ (s.size : Int)) = false := by simp; omega
  go_enter Tryz.func82, Tryz.ntmps82
  go_wp2
  go_ret3
  exact ⟨rfl, rfl⟩

theorem var28i (a : Int) (h0 : 0 ≤ a) (h1 : a ≤ 1000000000) (w : World) :
  Calls Tryz.prog 78 #[.int .i64 a] w fun e w' => e = .returned (.string ⟨(WM.varL a.toNat).toArray⟩) ∧ Below w.heap.size w w' := by
 obtain ⟨n, rfl⟩ := Int.eq_ofNat_of_zero_le h0
 rw [Int.toNat_natCast]
 exact var28 n (by omega) w

set_option maxHeartbeats 400000 in
theorem in27 (x a b : Int) (h0 : a ≤ x) (h1 : x ≤ b) (w : World) :
  Calls Tryz.prog 59 #[.int .i64 x, .int .i64 a, .int .i64 b] w fun e w' => e = .returned (.bool true) ∧ w' = w := by
 go_enter Tryz.func59, Tryz.ntmps59
 go_wp2
 go_ret
 exact ⟨rfl, rfl⟩

def Pre (s : ByteArray) (p k N : Nat) : Prop := N = WM.val ((s.data.toList.drop p).take k) ∧ ∀ c ∈ (s.data.toList.drop p).take k, 128 ≤ c.toNat

theorem take_more (s : ByteArray) (p k : Nat) (hlt : p + k < s.size) : (s.data.toList.drop p).take (k + 1) = (s.data.toList.drop p).take k ++ [s[p + k]] := by
 have hl : k < (s.data.toList.drop p).length := by simp only [List.length_drop, Array.length_toList]; show k < s.size - p; omega
 rw [List.take_succ_eq_append_getElem hl]
 simp only [List.getElem_drop]
 rfl

theorem Pre.more {s : ByteArray} {p k N W : Nat} (hlt : p + k < s.size) (hW : W = 128 ^ k) (h : Pre s p k N) (hx : ¬ (s[p + k].toNat : Int) < 128) : Pre s p (k + 1) (N + s[p + k].toNat % 128 * W) := by
 have hl : ((s.data.toList.drop p).take k).length = k := by
  rw [List.length_take, List.length_drop, Array.length_toList]
  exact Nat.min_eq_left (by show k ≤ s.size - p; omega)
 refine ⟨?_, ?_⟩
 ·rw [take_more s p k hlt, WM.val_snoc, ← h.1, hl, hW]
 ·intro c hc
  rw [take_more s p k hlt] at hc
  rcases List.mem_append.1 hc with hc | hc
  ·exact h.2 c hc
  ·simp at hc; subst hc; omega

theorem cmp_val {s : ByteArray} {p k N W : Nat} (hlt : p + k < s.size) (hW : W = 128 ^ k) (h : Pre s p k N) (hx : (s[p + k].toNat : Int) < 128) :
  (WM.varL ((N : Int) + (s[p + k].toNat : Int) % 128 * (W : Int)).toNat == (s.extract p ((p : Int) + (k : Int) + 1).toNat).toList) = decide (¬ (s[p + k].toNat = 0 ∧ 0 < k)) := by
 have hl : ((s.data.toList.drop p).take k).length = k := by
  rw [List.length_take, List.length_drop, Array.length_toList]
  exact Nat.min_eq_left (by show k ≤ s.size - p; omega)
 have e1 : ((N : Int) + (s[p + k].toNat : Int) % 128 * (W : Int)).toNat = WM.val ((s.data.toList.drop p).take k ++ [s[p + k]]) := by
  rw [WM.val_snoc, ← h.1, hl, mul_cast, Int.toNat_natCast, hW]
 have e2 : (s.extract p ((p : Int) + (k : Int) + 1).toNat).toList = (s.data.toList.drop p).take k ++ [s[p + k]] := by
  rw [ByteArray.toList_eq, Lib.extract_data, ← take_more s p k hlt, show ((p : Int) + (k : Int) + 1).toNat - p = k + 1 by omega]
 rw [e1, e2]
 have hv := WM.var_val ((s.data.toList.drop p).take k) s[p + k] h.2 (by omega)
 rw [hl] at hv
 rw [Bool.eq_iff_iff, beq_iff_eq, decide_eq_true_iff]
 exact hv

set_option maxRecDepth 100000 in
set_option maxHeartbeats 400000 in
theorem srv (s : ByteArray) (p : Nat) (h : p ≤ s.size) (hs : s.size ≤ 1048576) (w : World) :
  Calls Tryz.prog 82 #[.string s, .int .i64 p] w fun e w' => e = .returned (rvV p (WM.rv (s.data.toList.drop p))) ∧ Below w.heap.size w w' := by
 have h0 : (0 : Int) ≤ (p : Int) := by omega
 have h1 : (p : Int) ≤ (s.size : Int) := by omega
 go_enter Tryz.func82, Tryz.ntmps82
 go_wp2_with (go_at_call 59; refine (in27 _ _ _ h0 h1 _).mono ?_; rintro e w' ⟨rfl, rfl⟩)
 go_loop [7, 8, 9] (fun tn tw ti => ∃ k N W : Nat, k ≤ 5 ∧ p + k ≤ s.size ∧ ti = .int .i64 ((p + k : Nat) : Int) ∧ tn = .int .i64 (N : Int) ∧ tw = .int .i64 (W : Int) ∧ Hid (W = 128 ^ k) ∧ N < W ∧ Pre s p k N ∧ Hid (WM.rvGo (5 - k) N k (s.data.toList.drop (p + k)) = WM.rv (s.data.toList.drop p))) (fun _ _ ti => s.size - (intOf ti).toNat)
 case atStart =>
  exact ⟨0, 0, 1, by omega, by omega, rfl, rfl, rfl, rfl, by omega, ⟨rfl, by simp⟩, rfl⟩
 case round =>
  obtain ⟨k, N, W, hk, hpk, rfl, rfl, rfl, HW, hN, HP, HE⟩ := hrel
  have hWb : W ≤ 34359738368 := by
   rw [HW.out]
   exact Nat.le_trans (Nat.pow_le_pow_right (by omega) hk) (by omega)
  by_cases hlt : p + k < s.size
  ·have hlt' : (p : Int) + (k : Int) < (s.size : Int) := by omega
   by_cases hk5 : k < 5
   ·have hk5' : (p : Int) + (k : Int) < (p : Int) + 5 := by omega
    have hP := mul_bd s[p + k].toNat W hWb
    have hP1 := hP.1
    have h255 : (s[p + k].toNat : Int) ≤ 255 := by have := s[p + k].toNat_lt; omega
    have hP2 := hP.2
    clear hP
    by_cases hx : (s[p + k].toNat : Int) < 128
    ·have hx' : (s[p + k].toNat : Int) ≤ 127 := by omega
     have HE2 := rv_lo hk5 hlt HW.out hx' HE.out
     have HE3 : Hid _ := HE2
     clear HE2 hx'
     by_cases hbig : 1000000000 < (N : Int) + (s[p + k].toNat : Int) % 128 * (W : Int)
     ·go_wp2
      go_quiet (fail)
      go_wp2
      go_ret3
      refine ⟨ret_rv HE3.out ?_, ?_⟩
      ·rw [if_pos (Or.inl (by rw [mul_cast] at hbig; omega))]
       rfl
      ·exact below_drewN (Below.refl _ _) _
     ·have hbig' : (N : Int) + (s[p + k].toNat : Int) % 128 * (W : Int) ≤ 1000000000 := by omega
      have hbn : ¬ 1000000000 < N + s[p + k].toNat % 128 * W := by rw [mul_cast] at hbig'; omega
      have HB : Hid (¬ 1000000000 < N + s[p + k].toNat % 128 * W) := hbn
      clear hbn hbig
      have hbd : decide ((1000000000 : Int) < (N : Int) + (s[p + k].toNat : Int) % 128 * (W : Int)) = false := by simp; omega
      have b0 : IntKind.i64.wrap ((p : Int) + (k : Int) + 1) = (p : Int) + (k : Int) + 1 := by rw [IntKind.wrap_i64]; omega
      have b1 : (p : Int) ≤ (p : Int) + (k : Int) + 1 := by omega
      have b2 : (p : Int) + (k : Int) + 1 ≤ (s.size : Int) := by omega
      have HC : Hid _ := cmp_val hlt HW.out HP hx
      go_wp2
      go_region_held3 (fun _ => True) (trivial) ((go_at_call 78; refine (var28i _ (by omega) (by omega) _).mono ?_; rintro e w' ⟨rfl, hb⟩))
      go_wp2
      ·have ht : (!WM.varL ((N : Int) + (s[p + k].toNat : Int) % 128 * (W : Int)).toNat == (s.extract p ((p : Int) + (k : Int) + 1).toNat).toList) = true := by assumption
       rw [HC.out] at ht
       go_ret3
       refine ⟨ret_rv HE3.out ?_, ((Below.refl _ _).drew).trans hb⟩
       rw [if_pos (Or.inr (by simp at ht; omega))]
       rfl
      ·have ht : (!WM.varL ((N : Int) + (s[p + k].toNat : Int) % 128 * (W : Int)).toNat == (s.extract p ((p : Int) + (k : Int) + 1).toNat).toList) = false := by assumption
       rw [HC.out] at ht
       go_ret3
       refine ⟨ret_rv HE3.out ?_, ((Below.refl _ _).drew).trans hb⟩
       rw [if_neg (by have := HB.out; simp at ht; omega)]
       simp only [rvV]
       rw [← mul_cast]
       rfl
    ·have HE2 := rv_hi hk5 hlt HW.out (by omega) HE.out
     have HE3 : Hid _ := HE2
     clear HE2
     go_wp2
     go_round
     case rel =>
      refine ⟨k + 1, N + s[p + k].toNat % 128 * W, W * 128, by omega, by omega, by go_num, by rw [← mul_cast], by simp, ?_, mul_lt _ _ _ hN, HP.more hlt HW.out (by omega), HE3⟩
      show W * 128 = 128 ^ (k + 1)
      rw [HW.out, Nat.pow_succ]
     case measure => simp [intOf]; omega
   ·have hk55 : k = 5 := by omega
    have hk5' : decide ((p : Int) + (k : Int) < (p : Int) + 5) = false := by simp; omega
    have HE2 := rv_five hk55 HE.out
    have HE3 : Hid _ := HE2
    clear HE2 hk55
    go_wp2
    go_ret3
    exact ⟨by rw [HE3.out]; rfl, Below.refl _ _⟩
  ·have hlt' : decide ((p : Int) + (k : Int) < (s.size : Int)) = false := by simp; omega
   have HE2 := rv_out hlt HE.out
   have HE3 : Hid _ := HE2
   clear HE2
   go_wp2
   go_ret3
   exact ⟨by rw [HE3.out]; rfl, Below.refl _ _⟩
end Go.Proofs.YtnljmdodpffmoaaGreat

namespace Go.Proofs.YtnljmdodpffmoaaGreat
open Go.RowKit

theorem irv_none (s : ByteArray) (p : Nat) (h : p ≤ s.size) (hs : s.size ≤ 1048576) (hR : WM.rv (s.data.toList.drop p) = none) (w : World) :
  Calls Tryz.prog 103 #[.string s, .int .i64 p] w fun e w' => e = .returned (.tuple #[.int .i64 0, .int .i64 0, .bool false]) ∧ w = w' :=
 (irv s p h hs w).mono fun e w' ⟨h1, h2⟩ => ⟨by rw [h1, hR]; rfl, h2.symm⟩
theorem irv_some (s : ByteArray) (p : Nat) (h : p ≤ s.size) (hs : s.size ≤ 1048576) (n k : Nat) (hR : WM.rv (s.data.toList.drop p) = some (n, k)) (w : World) :
  Calls Tryz.prog 103 #[.string s, .int .i64 p] w fun e w' => e = .returned (.tuple #[.int .i64 n, .int .i64 ((p + k : Nat) : Int), .bool true]) ∧ w = w' :=
 (irv s p h hs w).mono fun e w' ⟨h1, h2⟩ => ⟨by rw [h1, hR]; rfl, h2.symm⟩
theorem srv_none (s : ByteArray) (p : Nat) (h : p ≤ s.size) (hs : s.size ≤ 1048576) (hR : WM.rv (s.data.toList.drop p) = none) (w : World) :
  Calls Tryz.prog 82 #[.string s, .int .i64 p] w fun e w' => e = .returned (.tuple #[.int .i64 0, .int .i64 0, .bool false]) ∧ Below w.heap.size w w' :=
 (srv s p h hs w).mono fun e w' ⟨h1, h2⟩ => ⟨by rw [h1, hR]; rfl, h2⟩
theorem srv_some (s : ByteArray) (p : Nat) (h : p ≤ s.size) (hs : s.size ≤ 1048576) (n k : Nat) (hR : WM.rv (s.data.toList.drop p) = some (n, k)) (w : World) :
  Calls Tryz.prog 82 #[.string s, .int .i64 p] w fun e w' => e = .returned (.tuple #[.int .i64 n, .int .i64 ((p + k : Nat) : Int), .bool true]) ∧ Below w.heap.size w w' :=
 (srv s p h hs w).mono fun e w' ⟨h1, h2⟩ => ⟨by rw [h1, hR]; rfl, h2⟩
theorem irv_bad (s : ByteArray) (p : Int) (h : p < 0 ∨ (s.size : Int) < p) (hs : s.size ≤ 1048576) (w : World) :
  Calls Tryz.prog 103 #[.string s, .int .i64 p] w fun e w' => e = .returned (.tuple #[.int .i64 0, .int .i64 0, .bool false]) ∧ w = w' :=
 (irv_no s p h hs w).mono fun _ _ ⟨h1, h2⟩ => ⟨h1, h2.symm⟩
theorem srv_bad (s : ByteArray) (p : Int) (h : p < 0 ∨ (s.size : Int) < p) (hs : s.size ≤ 1048576) (w : World) :
  Calls Tryz.prog 82 #[.string s, .int .i64 p] w fun e w' => e = .returned (.tuple #[.int .i64 0, .int .i64 0, .bool false]) ∧ w = w' :=
 (srv_no s p h hs w).mono fun _ _ ⟨h1, h2⟩ => ⟨h1, h2.symm⟩

end Go.Proofs.YtnljmdodpffmoaaGreat

namespace Go.Proofs.YtnljmdodpffmoaaGreat
open Go.RowKit

set_option maxHeartbeats 400000 in
theorem ssh_bad (s : ByteArray) (p : Int) (h : p < 0 ∨ (s.size : Int) < p) (hs : s.size ≤ 1048576) (w : World) :
  Calls Tryz.prog 83 #[.string s, .int .i64 p] w fun e w' => e = .returned (.tuple #[.string ⟨#[]⟩, .int .i64 0, .bool false]) ∧ w = w' := by
 have H : Hid (p < 0 ∨ (s.size : Int) < p) := h
 clear h
 go_enter Tryz.func83, Tryz.ntmps83
 go_wp2_with (go_at_call 82; refine (srv_bad s p H.out hs _).mono ?_; rintro e w' ⟨rfl, rfl⟩)
 go_ret3
 exact ⟨rfl, rfl⟩

set_option maxHeartbeats 400000 in
theorem ssh_none (s : ByteArray) (p : Nat) (h : p ≤ s.size) (hs : s.size ≤ 1048576) (hR : Hid (WM.rv (s.data.toList.drop p) = none)) (w : World) :
  Calls Tryz.prog 83 #[.string s, .int .i64 p] w fun e w' => e = .returned (.tuple #[.string ⟨#[]⟩, .int .i64 0, .bool false]) ∧ Below w.heap.size w w' := by
 go_enter Tryz.func83, Tryz.ntmps83
 go_wp2_with (go_at_call 82; refine (srv_none s p h hs hR.out _).mono ?_; rintro e w' ⟨rfl, hb⟩)
 go_ret3
 exact ⟨rfl, hb⟩

set_option maxHeartbeats 400000 in
theorem ssh_big (s : ByteArray) (p : Nat) (h : p ≤ s.size) (hs : s.size ≤ 1048576) (n k : Nat) (hR : Hid (WM.rv (s.data.toList.drop p) = some (n, k))) (hn : n ≤ 1000000000) (hk : p + k ≤ s.size)
  (hbig : 20000 < n ∨ s.size < p + k + n) (w : World) :
  Calls Tryz.prog 83 #[.string s, .int .i64 p] w fun e w' => e = .returned (.tuple #[.string ⟨#[]⟩, .int .i64 0, .bool false]) ∧ Below w.heap.size w w' := by
 by_cases h1 : 20000 < n
 ·clear hbig
  go_enter Tryz.func83, Tryz.ntmps83
  go_wp2_with (go_at_call 82; refine (srv_some s p h hs n k hR.out _).mono ?_; rintro e w' ⟨rfl, hb⟩)
  go_ret3
  exact ⟨rfl, hb⟩
 ·have h2 : (s.size : Int) - ((p : Int) + (k : Int)) < (n : Int) := by omega
  clear hbig
  go_enter Tryz.func83, Tryz.ntmps83
  go_wp2_with (go_at_call 82; refine (srv_some s p h hs n k hR.out _).mono ?_; rintro e w' ⟨rfl, hb⟩)
  go_ret3
  exact ⟨rfl, hb⟩

set_option maxHeartbeats 400000 in
theorem ish_bad (s : ByteArray) (p : Int) (h : p < 0 ∨ (s.size : Int) < p) (hs : s.size ≤ 1048576) (w : World) :
  Calls Tryz.prog 104 #[.string s, .int .i64 p] w fun e w' => e = .returned (.tuple #[.string ⟨#[]⟩, .int .i64 0, .bool false]) ∧ w = w' := by
 have H : Hid (p < 0 ∨ (s.size : Int) < p) := h
 clear h
 go_enter Tryz.func104, Tryz.ntmps104
 go_wp2_with (go_at_call 103; refine (irv_bad s p H.out hs _).mono ?_; rintro e w' ⟨rfl, rfl⟩)
 go_ret3
 exact ⟨rfl, rfl⟩

set_option maxHeartbeats 400000 in
theorem ish_none (s : ByteArray) (p : Nat) (h : p ≤ s.size) (hs : s.size ≤ 1048576) (hR : Hid (WM.rv (s.data.toList.drop p) = none)) (w : World) :
  Calls Tryz.prog 104 #[.string s, .int .i64 p] w fun e w' => e = .returned (.tuple #[.string ⟨#[]⟩, .int .i64 0, .bool false]) ∧ w = w' := by
 go_enter Tryz.func104, Tryz.ntmps104
 go_wp2_with (go_at_call 103; refine (irv_none s p h hs hR.out _).mono ?_; rintro e w' ⟨rfl, rfl⟩)
 go_ret3
 exact ⟨rfl, rfl⟩

set_option maxHeartbeats 400000 in
theorem ish_big (s : ByteArray) (p : Nat) (h : p ≤ s.size) (hs : s.size ≤ 1048576) (n k : Nat) (hR : Hid (WM.rv (s.data.toList.drop p) = some (n, k))) (hn : n ≤ 1000000000) (hk : p + k ≤ s.size)
  (hbig : 20000 < n ∨ s.size < p + k + n) (w : World) :
  Calls Tryz.prog 104 #[.string s, .int .i64 p] w fun e w' => e = .returned (.tuple #[.string ⟨#[]⟩, .int .i64 0, .bool false]) ∧ w = w' := by
 by_cases h1 : 20000 < n
 ·clear hbig
  go_enter Tryz.func104, Tryz.ntmps104
  go_wp2_with (go_at_call 103; refine (irv_some s p h hs n k hR.out _).mono ?_; rintro e w' ⟨rfl, rfl⟩)
  go_ret3
  exact ⟨rfl, rfl⟩
 ·have h2 : (s.size : Int) - ((p : Int) + (k : Int)) < (n : Int) := by omega
  clear hbig
  go_enter Tryz.func104, Tryz.ntmps104
  go_wp2_with (go_at_call 103; refine (irv_some s p h hs n k hR.out _).mono ?_; rintro e w' ⟨rfl, rfl⟩)
  go_ret3
  exact ⟨rfl, rfl⟩

theorem size_piece (s : ByteArray) (a b : Nat) (h : a ≤ b) (hb : b ≤ s.size) : (s.extract a b).size = b - a := by
 simp; omega

set_option maxHeartbeats 400000 in
theorem ssh_ok (s : ByteArray) (p : Nat) (h : p ≤ s.size) (hs : s.size ≤ 1048576) (n k : Nat) (hR : Hid (WM.rv (s.data.toList.drop p) = some (n, k))) (hn : n ≤ 20000) (hk : p + k + n ≤ s.size) (w : World) :
  Calls Tryz.prog 83 #[.string s, .int .i64 p] w fun e w' => e = .returned (.tuple #[.string (s.extract (p + k) (p + k + n)), .int .i64 ((p + k + n : Nat) : Int), .bool true]) ∧ Below w.heap.size w w' := by
 have h2 : (n : Int) ≤ (s.size : Int) - ((p : Int) + (k : Int)) := by omega
 have h3 : (p : Int) + (k : Int) + (n : Int) ≤ (s.size : Int) := by omega
 go_enter Tryz.func83, Tryz.ntmps83
 go_wp2_with (go_at_call 82; refine (srv_some s p h hs n k hR.out _).mono ?_; rintro e w' ⟨rfl, hb⟩)
 go_ret3
 exact ⟨rfl, hb⟩

set_option maxHeartbeats 400000 in
theorem ish_ok (s : ByteArray) (p : Nat) (h : p ≤ s.size) (hs : s.size ≤ 1048576) (n k : Nat) (hR : Hid (WM.rv (s.data.toList.drop p) = some (n, k))) (hn : n ≤ 20000) (hk : p + k + n ≤ s.size) (w : World) :
  Calls Tryz.prog 104 #[.string s, .int .i64 p] w fun e w' => e = .returned (.tuple #[.string (s.extract (p + k) (p + k + n)), .int .i64 ((p + k + n : Nat) : Int), .bool true]) ∧ Below w.heap.size w w' := by
 have h2 : (n : Int) ≤ (s.size : Int) - ((p : Int) + (k : Int)) := by omega
 have h3 : (p : Int) + (k : Int) + (n : Int) ≤ (s.size : Int) := by omega
 have hz : (s.extract (p + k) (p + k + n)).size ≤ 281474976710656 := by rw [size_piece s _ _ (by omega) hk]; omega
 have HZ : Hid _ := hz
 clear hz
 go_enter Tryz.func104, Tryz.ntmps104
 go_wp2_with (first | (go_at_call 103; refine (irv_some s p h hs n k hR.out _).mono ?_; rintro e w' ⟨rfl, rfl⟩) | (go_at_call 57; refine (clone49 _ HZ.out _).mono ?_; rintro e w' ⟨rfl, hb⟩))
 go_ret3
 exact ⟨rfl, hb⟩

end Go.Proofs.YtnljmdodpffmoaaGreat

namespace Go.Proofs.YtnljmdodpffmoaaGreat
open Go.RowKit
open KM
attribute [local go_sem ↓] Go.wp_at_zero Go.wp_at_succ

theorem grown_alloc (w : World) (g : Nat) (o : Obj) : w.grownBy (w.alloc o) (some g) := ⟨rfl, rfl, rfl, by simp, fun j hj _ => Below.heap_alloc _ _ _ hj⟩

theorem CurOk.alloc {w : World} {g len cap : Nat} {a : Option Addr} (h : CurOk w g a len cap) (hg : g < w.heap.size) (o : Obj) : CurOk (w.alloc o) g a len cap :=
 h.below ((Below.refl _ w).alloc (Nat.le_refl _) o) hg

theorem Own.kept {w w' : World} {base g : Nat} {v : Value} {l : List UInt8} (h : Own w base v l) (hg : w.grownBy w' (some g)) (hlt : g < base) : Own w' base v l :=
 World.ownsRow.kept h hg (by
  cases e : v.ownBlock with
  | none => exact Or.inl rfl
  | some k => right; intro e2; have := (World.ownsRow.lt h k e).1; have := Option.some.inj e2; omega)

set_option maxRecDepth 100000 in
set_option maxHeartbeats 1000000 in
theorem text81 (g len cap : Nat) (a : Option Addr) (n : Nat) (hn : n ≤ 5000) (hl : len ≤ 1048576) (w : World) (hc : CurOk w g a len cap) (hg : g < w.heap.size) (hcode : ∀ b off, a = some ⟨b, off, none⟩ → 0 < len → b < w.heap.size) :
  Calls Tryz.prog 81 #[.pointer (some ⟨g, 0, none⟩), .int .i64 (n : Int)] w fun e w' => ∃ s : ByteArray, s.size = n ∧ e = .returned (.string s) ∧ CurOk w' g a len cap ∧ w.grownBy w' (some g) := by
 have HC : Hid (CurOk w g a len cap) := hc
 have HK : Hid (∀ b off, a = some ⟨b, off, none⟩ → 0 < len → b < w.heap.size) := hcode
 clear hc hcode
 have hd : decide ((5000 : Int) < (n : Int)) = false := by simp; omega
 go_enter Tryz.func81, Tryz.ntmps81
 go_wp2
 go_loopw [5, 6] (fun v t wr => ∃ (k : Nat) (pre : List UInt8), k ≤ n ∧ t = .int .i64 (k : Int) ∧ Hid (pre.length = k) ∧ Hid (Own wr w.heap.size v pre) ∧ Hid (CurOk wr g a len cap) ∧ Hid (w.grownBy wr (some g))) (fun _ t _ => n - (intOf t).toNat)
 case atStart => exact ⟨0, [], Nat.zero_le _, rfl, rfl, Own.empty _ _ (Nat.le_refl _), HC.out.alloc hg _, grown_alloc w g _⟩
 case round =>
  obtain ⟨k, pre, hk, rfl, HL, HO, HC1, HG1⟩ := hrel
  by_cases hlt : k < n
  ·have hlt' : (k : Int) < (n : Int) := by omega
   go_wp2_with fail
   refine (byteOk g len cap a hl _ HC1.out).mono ?_
   rintro e w2 ⟨x, hx, rfl, hc2, hg2⟩
   have HC2 : Hid (CurOk w2 g a len cap) := hc2
   have HG2 : Hid (w.grownBy w2 (some g)) := grown_trans HG1.out hg2
   have hown2 := HO.out.kept hg2 hg
   have hsz2 : w.heap.size ≤ w2.heap.size := HG2.out.size
   have hlen : pre.length ≤ 5000 := by rw [HL.out]; omega
   clear hc2 hg2
   go_wp2_with (at_builtin; refine wpApp rfl _ _ rfl w2 [UInt8.ofNat x] rfl hown2 rfl (ofNatCell _ _ (by omega) (by omega)) (by simp; omega) (Below.refl _ _) hsz2 ?_)
   intro v' w3 hown3 hb3 _
   have HO3 : Hid (Own w3 w.heap.size v' (pre ++ [UInt8.ofNat x])) := hown3
   have HC3 : Hid (CurOk w3 g a len cap) := HC2.out.belowB hb3 hg HK.out
   have HG3 : Hid (w.grownBy w3 (some g)) := grown_belowB HG2.out hb3 (Nat.le_refl _)
   have HL3 : Hid ((pre ++ [UInt8.ofNat x]).length = k + 1) := by show _ = _; rw [List.length_append, HL.out]; rfl
   clear hown2 hown3 hb3
   go_wp2
   go_roundw
   case rel => exact ⟨k + 1, _, by omega, by go_num, HL3, HO3, HC3, HG3⟩
   case measure => simp [intOf]; omega
  ·have hlt' : ¬ (k : Int) < (n : Int) := by omega
   have hst := HO.out.str
   go_wp2
   go_ret
   refine ⟨_, ?_, rfl, HC1.out, HG1.out⟩
   have : (⟨pre.toArray⟩ : ByteArray).size = pre.length := by simp [ByteArray.size]
   rw [this, HL.out]; omega

theorem drText (g len cap : Nat) (a : Option Addr) (n : Nat) (hn : n ≤ 5000) (w : World) (hc : CurI w g a len cap) :
  Calls Tryz.prog 81 #[.pointer (some ⟨g, 0, none⟩), .int .i64 (n : Int)] w fun e w' => ∃ s : ByteArray, s.size = n ∧ e = .returned (.string s) ∧ Dn w w' g a len cap := by
 refine (text81 g len cap a n hn hc.sm w hc.c hc.lt hc.old.2).mono ?_
 rintro e w' ⟨s, hs, rfl, hc', hg⟩
 exact ⟨s, hs, rfl, ⟨hc', Nat.lt_of_lt_of_le hc.lt hg.size, hc.sm⟩, hg, hc.old⟩

set_option maxRecDepth 100000 in
set_option maxHeartbeats 2000000 in
theorem drSpoilt (g len cap : Nat) (a : Option Addr) (t : ByteArray) (ht : t.size ≤ 1000000) (w : World) (hc : CurI w g a len cap) :
  Calls Tryz.prog 32 #[.pointer (some ⟨g, 0, none⟩), .string t] w fun e w' => ∃ s : ByteArray, s.size ≤ t.size + 1 ∧ e = .returned (.string s) ∧ Dn w w' g a len cap := by
 have HC : Hid (CurI w g a len cap) := hc
 clear hc
 go_enter Tryz.func32, Tryz.ntmps32
 go_wp2_with fail
 refine (drBelow g len cap a 12 (by omega) (by omega) _ HC.out).mono ?_
 rintro e w1 ⟨x, hx, rfl, d⟩
 have D1 := hide d
 clear d
 by_cases h0 : x = 0
 ·have z0 : ((x : Int) == 0) = true := by simp; omega
  clear h0
  go_wp2_with fail
  refine (drText g len cap a 1 (by omega) _ D1.out.c).mono ?_
  rintro e w2 ⟨u, hu, rfl, d⟩
  have D2 := hide (D1.out.step d)
  have HU := hide hu
  have f1 : ¬ 9223372036854775807 < t.size + u.size := by omega
  clear d hu
  go_wp2
  go_ret
  exact ⟨t ++ u, by rw [ByteArray.size_append, HU.out]; omega, rfl, D2.out⟩
 have z0 : ((x : Int) == 0) = false := by simp; omega
 by_cases h1 : x = 1
 ·have z1 : ((x : Int) == 1) = true := by simp; omega
  clear h0 h1
  obtain ⟨q, hq⟩ : ∃ q, q = t.size + 1 := ⟨_, rfl⟩
  have e9 : IntKind.i64.wrap ((t.size : Int) + 1) = (q : Int) := by rw [IntKind.wrap_i64]; omega
  have e10 : (t.size : Int) + 1 = (q : Int) := by omega
  have e11 : IntKind.i64.wrap (q : Int) = (q : Int) := by rw [IntKind.wrap_i64]; omega
  have HQ := hide hq
  clear hq
  go_wp2_with fail
  refine (drBelow g len cap a q (by have := HQ.out; omega) (by have := HQ.out; omega) _ D1.out.c).mono ?_
  rintro e w2 ⟨y, hy, rfl, d⟩
  have D2 := hide (D1.out.step d)
  clear d e9 e10 e11
  have hy1 : y ≤ t.size := by have := HQ.out; omega
  have hy2 : (y : Int) ≤ (t.size : Int) := by omega
  have hy3 : (0 : Int) ≤ (y : Int) := by omega
  clear hy
  go_wp2
  go_ret
  refine ⟨_, ?_, rfl, D2.out⟩
  simp only [ByteArray.size_extract]
  omega
 have z1 : ((x : Int) == 1) = false := by simp; omega
 by_cases h2 : (x = 2 ∨ x = 3) ∧ 0 < t.size
 ·have hp : (0 : Int) < (t.size : Int) := by omega
  obtain ⟨h2, hp0⟩ := h2
  have K : Hid (t.size ≤ 1000000) := ht
  suffices HH : ∀ (b2 : Bool) (b3 : Bool), ((x : Int) == 2) = b2 → ((x : Int) == 3) = b3 → (b2 || b3) = true → _ from HH _ _ rfl rfl (by rcases h2 with rfl | rfl <;> rfl)
  intro b2 b3 z2 z3 hb
  clear h0 h1 h2
  have hcase : (b2 = true) ∨ (b2 = false ∧ b3 = true) := by cases b2 <;> simp_all
  clear hb
  rcases hcase with rfl | ⟨rfl, rfl⟩
  ·go_wp2_with fail
   refine (drBelow g len cap a t.size hp0 (by omega) _ D1.out.c).mono ?_
   rintro e w2 ⟨y, hy, rfl, d⟩
   have D2 := hide (D1.out.step d)
   clear d
   have hy2 : (y : Int) ≤ (t.size : Int) := by omega
   have hy3 : (0 : Int) ≤ (y : Int) := by omega
   obtain ⟨q, hq⟩ : ∃ q, q = y + 1 := ⟨_, rfl⟩
   have e9 : IntKind.i64.wrap ((y : Int) + 1) = (q : Int) := by rw [IntKind.wrap_i64]; omega
   have e10 : (y : Int) + 1 = (q : Int) := by omega
   have e11 : IntKind.i64.wrap (q : Int) = (q : Int) := by rw [IntKind.wrap_i64]; omega
   have hq2 : (q : Int) ≤ (t.size : Int) := by omega
   have hq3 : (0 : Int) ≤ (q : Int) := by omega
   have HQ := hide hq
   clear hq
   go_upto_region 10 with fail
   refine wp_region_held_drew (S := fun _ => True) (by kernel_rfl) trivial (fun hHeld => ?_)
   (refine tk 0 ?_ rfl (Or.inl ⟨by rfl, ?_⟩) ?_; rotate_left; (focus (intro w h; (try dsimp only at h); go_simp; (try with_reducible rfl))); simp only [Act.put, tA, tB, tD, tE, tF])
   (refine tk 1 ?_ rfl (Or.inl ⟨by rfl, ?_⟩) ?_; rotate_left; (focus (intro w h; (try dsimp only at h); go_simp; (try with_reducible rfl))); simp only [Act.put, tA, tB, tC, tD, tE, tF])
   (refine tk 2 ?_ rfl (Or.inl ⟨by rfl, ?_⟩) ?_; rotate_left; (focus (intro w h; (try dsimp only at h); go_simp; (try with_reducible rfl))); simp only [Act.put, tA, tB, tC, tD, tE, tF])
   (refine tk 3 ?_ rfl (Or.inl ⟨by rfl, ?_⟩) ?_; rotate_left; (focus (intro w h; (try dsimp only at h); go_simp; (try with_reducible rfl))); simp only [Act.put, tA, tB, tC, tD, tE, tF])
   (refine tk 6 ?_ rfl (Or.inl ⟨by rfl, ?_⟩) ?_; rotate_left; (focus (intro w h; (try dsimp only at h); go_simp; (try with_reducible rfl))); simp only [Act.put, tA, tB, tC, tD, tE, tF])
   (refine tk 7 ?_ rfl (Or.inl ⟨by rfl, ?_⟩) ?_; rotate_left; (focus (intro w h; (try dsimp only at h); go_simp; (try with_reducible rfl))); simp only [Act.put, tA, tB, tC, tD, tE, tF])
   (refine tk 8 ?_ rfl (Or.inl ⟨by rfl, ?_⟩) ?_; rotate_left; (focus (intro w h; (try dsimp only at h); go_simp; (try with_reducible rfl))); simp only [Act.put, tA, tB, tC, tD, tE, tF])
   (refine tk 9 ?_ rfl (Or.inl ⟨by rfl, ?_⟩) ?_; rotate_left; (focus (intro w h; (try dsimp only at h); go_simp; (try with_reducible rfl))); simp only [Act.put, tA, tB, tC, tD, tE, tF])
   refine wpAnyH_ready (rs := [4]) (by kernel_rfl) (by simp) ?_
   refine AllReadyH.cons rfl (fun K hK => ?_) AllReadyH.nil
   go_simp
   go_wp2_with fail
   refine (drText g len cap a 1 (by omega) _ D2.out.c.drew).mono ?_
   rintro e w3 ⟨u, hu, rfl, d⟩
   have D3 := hide (D2.out.drew.step d)
   have HU := hide hu
   have f1 : ¬ 9223372036854775807 < min y t.size + u.size := by omega
   have f2 : ¬ 9223372036854775807 < min y t.size + u.size + (t.size - q) := by omega
   clear d hu
   go_wp2_with fail
   refine hK.out _ _ trivial (fun hHeld => ?_)
   clear hK
   (refine tk 5 ?_ rfl (Or.inl ⟨by rfl, ?_⟩) ?_; rotate_left; (focus (intro w h; (try dsimp only at h); go_simp; (try with_reducible rfl))); simp only [Act.put, tA, tB, tC, tD, tE, tF])
   (refine tk 10 ?_ rfl (Or.inl ⟨by rfl, ?_⟩) ?_; rotate_left; (focus (intro w h; (try dsimp only at h); go_simp; (try with_reducible rfl))); simp only [Act.put, tA, tB, tC, tD, tE, tF])
   (refine tk 11 ?_ rfl (Or.inl ⟨by rfl, ?_⟩) ?_; rotate_left; (focus (intro w h; (try dsimp only at h); go_simp; (try with_reducible rfl))); simp only [Act.put, tA, tB, tC, tD, tE, tF])
   refine wpAnyH_done (by kernel_rfl) ?_ _
   go_wp2
   go_ret
   refine ⟨_, ?_, rfl, D3.out⟩
   have h1 := HU.out
   have h2 := HQ.out
   simp only [ByteArray.size_append, ByteArray.size_extract]
   omega
  ·go_wp2_with fail
   refine (drBelow g len cap a t.size hp0 (by omega) _ D1.out.c).mono ?_
   rintro e w2 ⟨y, hy, rfl, d⟩
   have D2 := hide (D1.out.step d)
   clear d
   have hy2 : (y : Int) ≤ (t.size : Int) := by omega
   have hy3 : (0 : Int) ≤ (y : Int) := by omega
   obtain ⟨q, hq⟩ : ∃ q, q = y + 1 := ⟨_, rfl⟩
   have e9 : IntKind.i64.wrap ((y : Int) + 1) = (q : Int) := by rw [IntKind.wrap_i64]; omega
   have e10 : (y : Int) + 1 = (q : Int) := by omega
   have e11 : IntKind.i64.wrap (q : Int) = (q : Int) := by rw [IntKind.wrap_i64]; omega
   have hq2 : (q : Int) ≤ (t.size : Int) := by omega
   have hq3 : (0 : Int) ≤ (q : Int) := by omega
   have HQ := hide hq
   clear hq
   go_upto_region 10 with fail
   refine wp_region_held_drew (S := fun _ => True) (by kernel_rfl) trivial (fun hHeld => ?_)
   (refine tk 0 ?_ rfl (Or.inl ⟨by rfl, ?_⟩) ?_; rotate_left; (focus (intro w h; (try dsimp only at h); go_simp; (try with_reducible rfl))); simp only [Act.put, tA, tB, tD, tE, tF])
   (refine tk 1 ?_ rfl (Or.inl ⟨by rfl, ?_⟩) ?_; rotate_left; (focus (intro w h; (try dsimp only at h); go_simp; (try with_reducible rfl))); simp only [Act.put, tA, tB, tC, tD, tE, tF])
   (refine tk 2 ?_ rfl (Or.inl ⟨by rfl, ?_⟩) ?_; rotate_left; (focus (intro w h; (try dsimp only at h); go_simp; (try with_reducible rfl))); simp only [Act.put, tA, tB, tC, tD, tE, tF])
   (refine tk 3 ?_ rfl (Or.inl ⟨by rfl, ?_⟩) ?_; rotate_left; (focus (intro w h; (try dsimp only at h); go_simp; (try with_reducible rfl))); simp only [Act.put, tA, tB, tC, tD, tE, tF])
   (refine tk 6 ?_ rfl (Or.inl ⟨by rfl, ?_⟩) ?_; rotate_left; (focus (intro w h; (try dsimp only at h); go_simp; (try with_reducible rfl))); simp only [Act.put, tA, tB, tC, tD, tE, tF])
   (refine tk 7 ?_ rfl (Or.inl ⟨by rfl, ?_⟩) ?_; rotate_left; (focus (intro w h; (try dsimp only at h); go_simp; (try with_reducible rfl))); simp only [Act.put, tA, tB, tC, tD, tE, tF])
   (refine tk 8 ?_ rfl (Or.inl ⟨by rfl, ?_⟩) ?_; rotate_left; (focus (intro w h; (try dsimp only at h); go_simp; (try with_reducible rfl))); simp only [Act.put, tA, tB, tC, tD, tE, tF])
   (refine tk 9 ?_ rfl (Or.inl ⟨by rfl, ?_⟩) ?_; rotate_left; (focus (intro w h; (try dsimp only at h); go_simp; (try with_reducible rfl))); simp only [Act.put, tA, tB, tC, tD, tE, tF])
   refine wpAnyH_ready (rs := [4]) (by kernel_rfl) (by simp) ?_
   refine AllReadyH.cons rfl (fun K hK => ?_) AllReadyH.nil
   go_simp
   go_wp2_with fail
   refine (drText g len cap a 1 (by omega) _ D2.out.c.drew).mono ?_
   rintro e w3 ⟨u, hu, rfl, d⟩
   have D3 := hide (D2.out.drew.step d)
   have HU := hide hu
   have f1 : ¬ 9223372036854775807 < min y t.size + u.size := by omega
   have f2 : ¬ 9223372036854775807 < min y t.size + u.size + (t.size - q) := by omega
   clear d hu
   go_wp2_with fail
   refine hK.out _ _ trivial (fun hHeld => ?_)
   clear hK
   (refine tk 5 ?_ rfl (Or.inl ⟨by rfl, ?_⟩) ?_; rotate_left; (focus (intro w h; (try dsimp only at h); go_simp; (try with_reducible rfl))); simp only [Act.put, tA, tB, tC, tD, tE, tF])
   (refine tk 10 ?_ rfl (Or.inl ⟨by rfl, ?_⟩) ?_; rotate_left; (focus (intro w h; (try dsimp only at h); go_simp; (try with_reducible rfl))); simp only [Act.put, tA, tB, tC, tD, tE, tF])
   (refine tk 11 ?_ rfl (Or.inl ⟨by rfl, ?_⟩) ?_; rotate_left; (focus (intro w h; (try dsimp only at h); go_simp; (try with_reducible rfl))); simp only [Act.put, tA, tB, tC, tD, tE, tF])
   refine wpAnyH_done (by kernel_rfl) ?_ _
   go_wp2
   go_ret
   refine ⟨_, ?_, rfl, D3.out⟩
   have h1 := HU.out
   have h2 := HQ.out
   simp only [ByteArray.size_append, ByteArray.size_extract]
   omega
 ·by_cases h3 : (x = 2 ∨ x = 3)
  ·have hs0 : ¬ (0 : Int) < (t.size : Int) := by omega
   rcases h3 with rfl | rfl
   ·have z2 : (((2 : Nat) : Int) == 2) = true := rfl
    go_wp2
    go_ret
    exact ⟨t, by omega, rfl, D1.out⟩
   ·have z2 : (((3 : Nat) : Int) == 2) = false := rfl
    have z3 : (((3 : Nat) : Int) == 3) = true := rfl
    go_wp2
    go_ret
    exact ⟨t, by omega, rfl, D1.out⟩
  ·have z2 : ((x : Int) == 2) = false := by simp; omega
   have z3 : ((x : Int) == 3) = false := by simp; omega
   go_wp2
   go_ret
   exact ⟨t, by omega, rfl, D1.out⟩

theorem txL_len {t : Tx} (h : Small t) : (txL t).length ≤ 700000 := by
 have h1 := rg_len t.rs (fun r hr => by have := h.rs r hr; omega)
 have h2 := wt_len t.ws (fun x hx => by have := h.ws x hx; omega)
 have h3 := sh_len (s := t.nm) (by have := h.nm; omega)
 have h4 := bit_len t.out
 have v1 := var_len t.id.toNat (by have := h.i1; omega)
 have v2 := var_len t.st.toNat (by have := h.s1; omega)
 have v3 := var_len t.snap.toNat (by have := h.p1; omega)
 have v4 := var_len t.cs.toNat (by have := h.c1; omega)
 have v5 := var_len t.rs.length (by have := h.rl; omega)
 have v6 := var_len t.ws.length (by have := h.wl; omega)
 have hr := h.rl
 have hw := h.wl
 unfold txL
 simp only [List.length_append]
 omega
theorem txtV_size (t : Tx) : ∃ (u : ByteArray) (b : Bool), txtV t = .tuple #[.string u, .bool b] ∧ u.size ≤ 700000 := by
 unfold txtV
 by_cases h : txnB t = true
 ·exact ⟨_, _, if_pos h, by
   have e : (⟨(txL t).toArray⟩ : ByteArray).size = (txL t).length := by simp [ByteArray.size]
   rw [e]
   exact txL_len (right_small h)⟩
 ·exact ⟨_, _, if_neg h, by show (0 : Nat) ≤ _; omega⟩

set_option maxRecDepth 100000 in
set_option maxHeartbeats 2000000 in
theorem dReadTxn (len cap : Nat) (a : Option Addr) (hl : len ≤ 1048576) (w : World) (hr : CodeRow w a len) :
  Calls Tryz.prog 8 #[.slice a len cap] w fun e w' => ∃ (s : ByteArray) (p : Nat), s.size ≤ 1000000 ∧ p ≤ 1 ∧ e = .returned (.tuple #[.string s, .int .i64 (p : Int)]) ∧ Below w.heap.size w w' := by
 have HR := hide hr
 clear hr
 go_enter Tryz.func8, Tryz.ntmps8
 go_wp2_with fail
 refine (drNew len cap a hl _ HR.out).mono ?_
 rintro e v1 ⟨rfl, hc, hb⟩
 have hz1 : w.heap.size ≤ v1.heap.size := hb.size
 have HB1 := hide hb
 have D1 := hide (Dn.start hc)
 clear hb hc HR
 go_wp2_with fail
 refine (drBelow w.heap.size len cap a 4 (by omega) (by omega) _ D1.out.c).mono ?_
 rintro e v2 ⟨n, hn, rfl, d⟩
 have D2 := hide (D1.out.step d)
 clear d D1
 go_wp2_with fail
 refine (drAnyT w.heap.size len cap a _ D2.out.c).mono ?_
 rintro e v3 ⟨t, ra, rc, wa, wc, ht, rfl, ho1, ho2, d⟩
 have D3 := hide (D2.out.step d)
 have HT := hide ht
 have HP : Hid (TRow v3 t ra wa) := ⟨ho1.grow, ho2.grow⟩
 clear d D2 ht ho1 ho2
 obtain ⟨u, b, hu, hul⟩ := txtV_size t
 go_wp2_with fail
 refine (stext t ra wa rc wc HT.out.fit _ HP.out).mono ?_
 rintro e v4 ⟨rfl, hb4⟩
 have D4 := hide (D3.out.below hb4)
 rw [hu]
 clear hb4 D3 hu HP
 by_cases h0 : n = 0
 ·have z0 : ((n : Int) == 0) = true := by simp; omega
  clear h0
  go_wp2_with fail
  refine (drSpoilt w.heap.size len cap a u (by omega) _ D4.out.c).mono ?_
  rintro e v5 ⟨s, hs, rfl, d⟩
  have D5 := hide (D4.out.step d)
  clear d
  go_wp2
  go_ret2
  exact ⟨s, 0, by omega, by omega, rfl, D5.out.out HB1.out (Nat.le_refl _) hz1⟩
 have z0 : ((n : Int) == 0) = false := by simp; omega
 by_cases h1 : n = 1
 ·have z1 : ((n : Int) == 1) = true := by simp; omega
  have f1 : ¬ 9223372036854775807 < 1 + u.size := by omega
  clear h0 h1
  go_wp2
  go_ret2
  exact ⟨⟨#[120]⟩ ++ u, 1, by rw [ByteArray.size_append]; show 1 + u.size ≤ _; omega, by omega, rfl, D4.out.out HB1.out (Nat.le_refl _) hz1⟩
 have z1 : ((n : Int) == 1) = false := by simp; omega
 have f1 : ¬ 9223372036854775807 < u.size + 4 := by omega
 clear h0 h1
 go_wp2
 go_ret2
 exact ⟨u ++ ⟨#[109, 111, 114, 101]⟩, 0, by rw [ByteArray.size_append]; show u.size + 4 ≤ _; omega, by omega, rfl, D4.out.out HB1.out (Nat.le_refl _) hz1⟩

end Go.Proofs.YtnljmdodpffmoaaGreat
