/- What spec.ReadVar returns. -/
import Derived.Test.YtpnnncfbodfnhaaGreatDoorPr17
import Derived.Deep.QuietTactic
import Derived.BigQuiet
import Derived.Deep.RegionHeld3
import Derived.Deep.DrawnRows
import Derived.Lib.Strings
import Derived.Test.YtpnnncfbodfnhaaGreatDoorPr16
import Derived.Deep.LoopGhost
import Derived.Test.YtpnnncfbodfnhaaGreatDoorPr04
import Derived.Test.YtpnnncfbodfnhaaGreatDoorPr02
import Derived.Test.YtpnnncfbodfnhaaGreatDoorProg
import Derived.WalkKit
import Derived.Test.YtpnnncfbodfnhaaGreatDoorPr01
import Derived.WalkSpells
import Derived.WalkLawsBesides
import Derived.Deep.AppendLies
import Derived.Deep.RegionHeld
import Derived.Shelf.Small.Strs
import Derived.Shelf.Small.Wraps
import Derived.Test.YtpnnncfbodfnhaaGreatDoorPr05
namespace Go.Proofs.YtpnnncfbodfnhaaGreatDoor
open Go.RowKit
attribute [local go_sem ↓] Go.wp_at_zero Go.wp_at_succ

set_option maxHeartbeats 400000 in
theorem srv_no (s : ByteArray) (p : Int) (h : p < 0 ∨ (s.size : Int) < p) (hs : s.size ≤ 1048576) (w : World) :
  Calls Tryz.prog 105 #[.string s, .int .i64 p] w fun e w' => e = .returned (rvV 0 none) ∧ w' = w := by
 rcases h with h | h
 ·go_enter Tryz.func105, Tryz.ntmps105
  go_wp2
  go_ret3
  exact ⟨rfl, rfl⟩
 ·have h0 : 0 ≤ p := by omega
  have hd : decide (p ≤ (s.size : Int)) = false := by simp; omega
  go_enter Tryz.func105, Tryz.ntmps105
  go_wp2
  go_ret3
  exact ⟨rfl, rfl⟩

theorem var28i (a : Int) (h0 : 0 ≤ a) (h1 : a ≤ 1000000000) (w : World) :
  Calls Tryz.prog 55 #[.int .i64 a] w fun e w' => e = .returned (.string ⟨(WM.varL a.toNat).toArray⟩) ∧ Below w.heap.size w w' := by
 obtain ⟨n, rfl⟩ := Int.eq_ofNat_of_zero_le h0
 rw [Int.toNat_natCast]
 exact var28 n (by omega) w

set_option maxHeartbeats 400000 in
theorem in27 (x a b : Int) (h0 : a ≤ x) (h1 : x ≤ b) (w : World) :
  Calls Tryz.prog 47 #[.int .i64 x, .int .i64 a, .int .i64 b] w fun e w' => e = .returned (.bool true) ∧ w' = w := by
 go_enter Tryz.func47, Tryz.ntmps47
 go_wp2
 go_ret
 exact ⟨rfl, rfl⟩

def Pre (s : ByteArray) (p k N : Nat) : Prop := N = WM.val ((s.data.toList.drop p).take k) ∧ ∀ c ∈ (s.data.toList.drop p).take k, 128 ≤ c.toNat

theorem take_more (s : ByteArray) (p k : Nat) (hlt : p + k < s.size) : (s.data.toList.drop p).take (k + 1) = (s.data.toList.drop p).take k ++ [s[p + k]] := by
 have hl : k < (s.data.toList.drop p).length := by simp only [List.length_drop, Array.length_toList]; show k < s.size - p; omega
 rw [List.take_succ_eq_append_getElem hl]
 simp only [List.getElem_drop]
 rfl

theorem Pre.more {s : ByteArray} {p k N W : Nat} (hlt : p + k < s.size) (hW : W = 128 ^ k) (h : Pre s p k N) (hx : ¬ (s[p + k].toNat : Int) < 128) : Pre s p (k + 1) (N + s[p + k].toNat % 128 * W) := by
 have hl : ((s.data.toList.drop p).take k).length = k := by
  rw [List.length_take, List.length_drop, Array.length_toList]
  exact Nat.min_eq_left (by show k ≤ s.size - p; omega)
 refine ⟨?_, ?_⟩
 ·rw [take_more s p k hlt, WM.val_snoc, ← h.1, hl, hW]
 ·intro c hc
  rw [take_more s p k hlt] at hc
  rcases List.mem_append.1 hc with hc | hc
  ·exact h.2 c hc
  ·simp at hc; subst hc; omega

theorem cmp_val {s : ByteArray} {p k N W : Nat} (hlt : p + k < s.size) (hW : W = 128 ^ k) (h : Pre s p k N) (hx : (s[p + k].toNat : Int) < 128) :
  (WM.varL ((N : Int) + (s[p + k].toNat : Int) % 128 * (W : Int)).toNat == (s.extract p ((p : Int) + (k : Int) + 1).toNat).toList) = decide (¬ (s[p + k].toNat = 0 ∧ 0 < k)) := by
 have hl : ((s.data.toList.drop p).take k).length = k := by
  rw [List.length_take, List.length_drop, Array.length_toList]
  exact Nat.min_eq_left (by show k ≤ s.size - p; omega)
 have e1 : ((N : Int) + (s[p + k].toNat : Int) % 128 * (W : Int)).toNat = WM.val ((s.data.toList.drop p).take k ++ [s[p + k]]) := by
  rw [WM.val_snoc, ← h.1, hl, mul_cast, Int.toNat_natCast, hW]
 have e2 : (s.extract p ((p : Int) + (k : Int) + 1).toNat).toList = (s.data.toList.drop p).take k ++ [s[p + k]] := by
  rw [ByteArray.toList_eq, Lib.extract_data, ← take_more s p k hlt, show ((p : Int) + (k : Int) + 1).toNat - p = k + 1 by omega]
 rw [e1, e2]
 have hv := WM.var_val ((s.data.toList.drop p).take k) s[p + k] h.2 (by omega)
 rw [hl] at hv
 rw [Bool.eq_iff_iff, beq_iff_eq, decide_eq_true_iff]
 exact hv

set_option maxRecDepth 100000 in
set_option maxHeartbeats 400000 in
theorem srv (s : ByteArray) (p : Nat) (h : p ≤ s.size) (hs : s.size ≤ 1048576) (w : World) :
  Calls Tryz.prog 105 #[.string s, .int .i64 p] w fun e w' => e = .returned (rvV p (WM.rv (s.data.toList.drop p))) ∧ Below w.heap.size w w' := by
 have h0 : (0 : Int) ≤ (p : Int) := by omega
 have h1 : (p : Int) ≤ (s.size : Int) := by omega
 go_enter Tryz.func105, Tryz.ntmps105
 go_wp2_with (go_at_call 47; refine (in27 _ _ _ h0 h1 _).mono ?_; rintro e w' ⟨rfl, rfl⟩)
 go_loop [7, 8, 9] (fun tn tw ti => ∃ k N W : Nat, k ≤ 5 ∧ p + k ≤ s.size ∧ ti = .int .i64 ((p + k : Nat) : Int) ∧ tn = .int .i64 (N : Int) ∧ tw = .int .i64 (W : Int) ∧ Hid (W = 128 ^ k) ∧ N < W ∧ Pre s p k N ∧ Hid (WM.rvGo (5 - k) N k (s.data.toList.drop (p + k)) = WM.rv (s.data.toList.drop p))) (fun _ _ ti => s.size - (intOf ti).toNat)
 case atStart =>
  exact ⟨0, 0, 1, by omega, by omega, rfl, rfl, rfl, rfl, by omega, ⟨rfl, by simp⟩, rfl⟩
 case round =>
  obtain ⟨k, N, W, hk, hpk, rfl, rfl, rfl, HW, hN, HP, HE⟩ := hrel
  have hWb : W ≤ 34359738368 := by
   rw [HW.out]
   exact Nat.le_trans (Nat.pow_le_pow_right (by omega) hk) (by omega)
  by_cases hlt : p + k < s.size
  ·have hlt' : (p : Int) + (k : Int) < (s.size : Int) := by omega
   by_cases hk5 : k < 5
   ·have hk5' : (p : Int) + (k : Int) < (p : Int) + 5 := by omega
    have hP := mul_bd s[p + k].toNat W hWb
    have hP1 := hP.1
    have h255 : (s[p + k].toNat : Int) ≤ 255 := by have := s[p + k].toNat_lt; omega
    have hP2 := hP.2
    clear hP
    by_cases hx : (s[p + k].toNat : Int) < 128
    ·have hx' : (s[p + k].toNat : Int) ≤ 127 := by omega
     have HE2 := rv_lo hk5 hlt HW.out hx' HE.out
     have HE3 : Hid _ := HE2
     clear HE2 hx'
     by_cases hbig : 1000000000 < (N : Int) + (s[p + k].toNat : Int) % 128 * (W : Int)
     ·go_wp2
      go_quiet (fail)
      go_wp2
      go_ret3
      refine ⟨ret_rv HE3.out ?_, ?_⟩
      ·rw [if_pos (Or.inl (by rw [mul_cast] at hbig; omega))]
       rfl
      ·exact below_drewN (Below.refl _ _) _
     ·have hbig' : (N : Int) + (s[p + k].toNat : Int) % 128 * (W : Int) ≤ 1000000000 := by omega
      have hbn : ¬ 1000000000 < N + s[p + k].toNat % 128 * W := by rw [mul_cast] at hbig'; omega
      have HB : Hid (¬ 1000000000 < N + s[p + k].toNat % 128 * W) := hbn
      clear hbn hbig
      have hbd : decide ((1000000000 : Int) < (N : Int) + (s[p + k].toNat : Int) % 128 * (W : Int)) = false := by simp; omega
      have b0 : IntKind.i64.wrap ((p : Int) + (k : Int) + 1) = (p : Int) + (k : Int) + 1 := by rw [IntKind.wrap_i64]; omega
      have b1 : (p : Int) ≤ (p : Int) + (k : Int) + 1 := by omega
      have b2 : (p : Int) + (k : Int) + 1 ≤ (s.size : Int) := by omega
      have HC : Hid _ := cmp_val hlt HW.out HP hx
      go_wp2
      go_region_held3 (fun _ => True) (trivial) ((go_at_call 55; refine (var28i _ (by omega) (by omega) _).mono ?_; rintro e w' ⟨rfl, hb⟩))
      go_wp2
      ·have ht : (!WM.varL ((N : Int) + (s[p + k].toNat : Int) % 128 * (W : Int)).toNat == (s.extract p ((p : Int) + (k : Int) + 1).toNat).toList) = true := by assumption
       rw [HC.out] at ht
       go_ret3
       refine ⟨ret_rv HE3.out ?_, ((Below.refl _ _).drew).trans hb⟩
       rw [if_pos (Or.inr (by simp at ht; omega))]
       rfl
      ·have ht : (!WM.varL ((N : Int) + (s[p + k].toNat : Int) % 128 * (W : Int)).toNat == (s.extract p ((p : Int) + (k : Int) + 1).toNat).toList) = false := by assumption
       rw [HC.out] at ht
       go_ret3
       refine ⟨ret_rv HE3.out ?_, ((Below.refl _ _).drew).trans hb⟩
       rw [if_neg (by have := HB.out; simp at ht; omega)]
       simp only [rvV]
       rw [← mul_cast]
       rfl
    ·have HE2 := rv_hi hk5 hlt HW.out (by omega) HE.out
     have HE3 : Hid _ := HE2
     clear HE2
     go_wp2
     go_round
     case rel =>
      refine ⟨k + 1, N + s[p + k].toNat % 128 * W, W * 128, by omega, by omega, by go_num, by rw [← mul_cast], by simp, ?_, mul_lt _ _ _ hN, HP.more hlt HW.out (by omega), HE3⟩
      show W * 128 = 128 ^ (k + 1)
      rw [HW.out, Nat.pow_succ]
     case measure => simp [intOf]; omega
   ·have hk55 : k = 5 := by omega
    have hk5' : decide ((p : Int) + (k : Int) < (p : Int) + 5) = false := by simp; omega
    have HE2 := rv_five hk55 HE.out
    have HE3 : Hid _ := HE2
    clear HE2 hk55
    go_wp2
    go_ret3
    exact ⟨by rw [HE3.out]; rfl, Below.refl _ _⟩
  ·have hlt' : decide ((p : Int) + (k : Int) < (s.size : Int)) = false := by simp; omega
   have HE2 := rv_out hlt HE.out
   have HE3 : Hid _ := HE2
   clear HE2
   go_wp2
   go_ret3
   exact ⟨by rw [HE3.out]; rfl, Below.refl _ _⟩
end Go.Proofs.YtpnnncfbodfnhaaGreatDoor

namespace Go.Proofs.YtpnnncfbodfnhaaGreatDoor
open Go.RowKit

theorem irv_none (s : ByteArray) (p : Nat) (h : p ≤ s.size) (hs : s.size ≤ 1048576) (hR : WM.rv (s.data.toList.drop p) = none) (w : World) :
  Calls Tryz.prog 107 #[.string s, .int .i64 p] w fun e w' => e = .returned (.tuple #[.int .i64 0, .int .i64 0, .bool false]) ∧ w = w' :=
 (irv s p h hs w).mono fun e w' ⟨h1, h2⟩ => ⟨by rw [h1, hR]; rfl, h2.symm⟩
theorem irv_some (s : ByteArray) (p : Nat) (h : p ≤ s.size) (hs : s.size ≤ 1048576) (n k : Nat) (hR : WM.rv (s.data.toList.drop p) = some (n, k)) (w : World) :
  Calls Tryz.prog 107 #[.string s, .int .i64 p] w fun e w' => e = .returned (.tuple #[.int .i64 n, .int .i64 ((p + k : Nat) : Int), .bool true]) ∧ w = w' :=
 (irv s p h hs w).mono fun e w' ⟨h1, h2⟩ => ⟨by rw [h1, hR]; rfl, h2.symm⟩
theorem srv_none (s : ByteArray) (p : Nat) (h : p ≤ s.size) (hs : s.size ≤ 1048576) (hR : WM.rv (s.data.toList.drop p) = none) (w : World) :
  Calls Tryz.prog 105 #[.string s, .int .i64 p] w fun e w' => e = .returned (.tuple #[.int .i64 0, .int .i64 0, .bool false]) ∧ Below w.heap.size w w' :=
 (srv s p h hs w).mono fun e w' ⟨h1, h2⟩ => ⟨by rw [h1, hR]; rfl, h2⟩
theorem srv_some (s : ByteArray) (p : Nat) (h : p ≤ s.size) (hs : s.size ≤ 1048576) (n k : Nat) (hR : WM.rv (s.data.toList.drop p) = some (n, k)) (w : World) :
  Calls Tryz.prog 105 #[.string s, .int .i64 p] w fun e w' => e = .returned (.tuple #[.int .i64 n, .int .i64 ((p + k : Nat) : Int), .bool true]) ∧ Below w.heap.size w w' :=
 (srv s p h hs w).mono fun e w' ⟨h1, h2⟩ => ⟨by rw [h1, hR]; rfl, h2⟩
theorem irv_bad (s : ByteArray) (p : Int) (h : p < 0 ∨ (s.size : Int) < p) (hs : s.size ≤ 1048576) (w : World) :
  Calls Tryz.prog 107 #[.string s, .int .i64 p] w fun e w' => e = .returned (.tuple #[.int .i64 0, .int .i64 0, .bool false]) ∧ w = w' :=
 (irv_no s p h hs w).mono fun _ _ ⟨h1, h2⟩ => ⟨h1, h2.symm⟩
theorem srv_bad (s : ByteArray) (p : Int) (h : p < 0 ∨ (s.size : Int) < p) (hs : s.size ≤ 1048576) (w : World) :
  Calls Tryz.prog 105 #[.string s, .int .i64 p] w fun e w' => e = .returned (.tuple #[.int .i64 0, .int .i64 0, .bool false]) ∧ w = w' :=
 (srv_no s p h hs w).mono fun _ _ ⟨h1, h2⟩ => ⟨h1, h2.symm⟩

end Go.Proofs.YtpnnncfbodfnhaaGreatDoor

namespace Go.Proofs.YtpnnncfbodfnhaaGreatDoor
open Go.RowKit
open KM
open VM
attribute [local go_sem ↓] Go.wp_at_zero Go.wp_at_succ

end Go.Proofs.YtpnnncfbodfnhaaGreatDoor

namespace Go.Proofs.YtpnnncfbodfnhaaGreatDoor
open Go.RowKit
open KM
open VM
attribute [local go_sem ↓] Go.wp_at_zero Go.wp_at_succ

end Go.Proofs.YtpnnncfbodfnhaaGreatDoor

namespace Go.Proofs.YtpnnncfbodfnhaaGreatDoor
open Go.RowKit
open KM
open VM
attribute [local go_sem ↓] Go.wp_at_zero Go.wp_at_succ

set_option maxHeartbeats 400000 in
theorem clone49 (s : ByteArray) (hs : s.size ≤ 281474976710656) (w : World) :
  Calls Tryz.prog 74 #[.string s] w fun e w' => e = .returned (.string s) ∧ Below w.heap.size w w' := by
 go_enter Tryz.func74, Tryz.ntmps74
 go_wp2_with (go_at_call 106; refine (Tryz.stringslite_Clone s _ hs).mono ?_; rintro e w2 ⟨rfl, hb2⟩)
 go_ret
 exact ⟨rfl, hb2⟩

end Go.Proofs.YtpnnncfbodfnhaaGreatDoor

namespace Go.Proofs.YtpnnncfbodfnhaaGreatDoor
open Go.RowKit

set_option maxHeartbeats 400000 in
theorem ssh_bad (s : ByteArray) (p : Int) (h : p < 0 ∨ (s.size : Int) < p) (hs : s.size ≤ 1048576) (w : World) :
  Calls Tryz.prog 71 #[.string s, .int .i64 p] w fun e w' => e = .returned (.tuple #[.string ⟨#[]⟩, .int .i64 0, .bool false]) ∧ w = w' := by
 have H : Hid (p < 0 ∨ (s.size : Int) < p) := h
 clear h
 go_enter Tryz.func71, Tryz.ntmps71
 go_wp2_with (go_at_call 105; refine (srv_bad s p H.out hs _).mono ?_; rintro e w' ⟨rfl, rfl⟩)
 go_ret3
 exact ⟨rfl, rfl⟩

set_option maxHeartbeats 400000 in
theorem ssh_none (s : ByteArray) (p : Nat) (h : p ≤ s.size) (hs : s.size ≤ 1048576) (hR : Hid (WM.rv (s.data.toList.drop p) = none)) (w : World) :
  Calls Tryz.prog 71 #[.string s, .int .i64 p] w fun e w' => e = .returned (.tuple #[.string ⟨#[]⟩, .int .i64 0, .bool false]) ∧ Below w.heap.size w w' := by
 go_enter Tryz.func71, Tryz.ntmps71
 go_wp2_with (go_at_call 105; refine (srv_none s p h hs hR.out _).mono ?_; rintro e w' ⟨rfl, hb⟩)
 go_ret3
 exact ⟨rfl, hb⟩

set_option maxHeartbeats 400000 in
theorem ssh_big (s : ByteArray) (p : Nat) (h : p ≤ s.size) (hs : s.size ≤ 1048576) (n k : Nat) (hR : Hid (WM.rv (s.data.toList.drop p) = some (n, k))) (hn : n ≤ 1000000000) (hk : p + k ≤ s.size)
  (hbig : 20000 < n ∨ s.size < p + k + n) (w : World) :
  Calls Tryz.prog 71 #[.string s, .int .i64 p] w fun e w' => e = .returned (.tuple #[.string ⟨#[]⟩, .int .i64 0, .bool false]) ∧ Below w.heap.size w w' := by
 by_cases h1 : 20000 < n
 ·clear hbig
  go_enter Tryz.func71, Tryz.ntmps71
  go_wp2_with (go_at_call 105; refine (srv_some s p h hs n k hR.out _).mono ?_; rintro e w' ⟨rfl, hb⟩)
  go_ret3
  exact ⟨rfl, hb⟩
 ·have h2 : (s.size : Int) - ((p : Int) + (k : Int)) < (n : Int) := by omega
  clear hbig
  go_enter Tryz.func71, Tryz.ntmps71
  go_wp2_with (go_at_call 105; refine (srv_some s p h hs n k hR.out _).mono ?_; rintro e w' ⟨rfl, hb⟩)
  go_ret3
  exact ⟨rfl, hb⟩

set_option maxHeartbeats 400000 in
theorem ish_bad (s : ByteArray) (p : Int) (h : p < 0 ∨ (s.size : Int) < p) (hs : s.size ≤ 1048576) (w : World) :
  Calls Tryz.prog 111 #[.string s, .int .i64 p] w fun e w' => e = .returned (.tuple #[.string ⟨#[]⟩, .int .i64 0, .bool false]) ∧ w = w' := by
 have H : Hid (p < 0 ∨ (s.size : Int) < p) := h
 clear h
 go_enter Tryz.func111, Tryz.ntmps111
 go_wp2_with (go_at_call 107; refine (irv_bad s p H.out hs _).mono ?_; rintro e w' ⟨rfl, rfl⟩)
 go_ret3
 exact ⟨rfl, rfl⟩

set_option maxHeartbeats 400000 in
theorem ish_none (s : ByteArray) (p : Nat) (h : p ≤ s.size) (hs : s.size ≤ 1048576) (hR : Hid (WM.rv (s.data.toList.drop p) = none)) (w : World) :
  Calls Tryz.prog 111 #[.string s, .int .i64 p] w fun e w' => e = .returned (.tuple #[.string ⟨#[]⟩, .int .i64 0, .bool false]) ∧ w = w' := by
 go_enter Tryz.func111, Tryz.ntmps111
 go_wp2_with (go_at_call 107; refine (irv_none s p h hs hR.out _).mono ?_; rintro e w' ⟨rfl, rfl⟩)
 go_ret3
 exact ⟨rfl, rfl⟩

set_option maxHeartbeats 400000 in
theorem ish_big (s : ByteArray) (p : Nat) (h : p ≤ s.size) (hs : s.size ≤ 1048576) (n k : Nat) (hR : Hid (WM.rv (s.data.toList.drop p) = some (n, k))) (hn : n ≤ 1000000000) (hk : p + k ≤ s.size)
  (hbig : 20000 < n ∨ s.size < p + k + n) (w : World) :
  Calls Tryz.prog 111 #[.string s, .int .i64 p] w fun e w' => e = .returned (.tuple #[.string ⟨#[]⟩, .int .i64 0, .bool false]) ∧ w = w' := by
 by_cases h1 : 20000 < n
 ·clear hbig
  go_enter Tryz.func111, Tryz.ntmps111
  go_wp2_with (go_at_call 107; refine (irv_some s p h hs n k hR.out _).mono ?_; rintro e w' ⟨rfl, rfl⟩)
  go_ret3
  exact ⟨rfl, rfl⟩
 ·have h2 : (s.size : Int) - ((p : Int) + (k : Int)) < (n : Int) := by omega
  clear hbig
  go_enter Tryz.func111, Tryz.ntmps111
  go_wp2_with (go_at_call 107; refine (irv_some s p h hs n k hR.out _).mono ?_; rintro e w' ⟨rfl, rfl⟩)
  go_ret3
  exact ⟨rfl, rfl⟩

theorem size_piece (s : ByteArray) (a b : Nat) (h : a ≤ b) (hb : b ≤ s.size) : (s.extract a b).size = b - a := by
 simp; omega

set_option maxHeartbeats 400000 in
theorem ssh_ok (s : ByteArray) (p : Nat) (h : p ≤ s.size) (hs : s.size ≤ 1048576) (n k : Nat) (hR : Hid (WM.rv (s.data.toList.drop p) = some (n, k))) (hn : n ≤ 20000) (hk : p + k + n ≤ s.size) (w : World) :
  Calls Tryz.prog 71 #[.string s, .int .i64 p] w fun e w' => e = .returned (.tuple #[.string (s.extract (p + k) (p + k + n)), .int .i64 ((p + k + n : Nat) : Int), .bool true]) ∧ Below w.heap.size w w' := by
 have h2 : (n : Int) ≤ (s.size : Int) - ((p : Int) + (k : Int)) := by omega
 have h3 : (p : Int) + (k : Int) + (n : Int) ≤ (s.size : Int) := by omega
 go_enter Tryz.func71, Tryz.ntmps71
 go_wp2_with (go_at_call 105; refine (srv_some s p h hs n k hR.out _).mono ?_; rintro e w' ⟨rfl, hb⟩)
 go_ret3
 exact ⟨rfl, hb⟩

set_option maxHeartbeats 400000 in
theorem ish_ok (s : ByteArray) (p : Nat) (h : p ≤ s.size) (hs : s.size ≤ 1048576) (n k : Nat) (hR : Hid (WM.rv (s.data.toList.drop p) = some (n, k))) (hn : n ≤ 20000) (hk : p + k + n ≤ s.size) (w : World) :
  Calls Tryz.prog 111 #[.string s, .int .i64 p] w fun e w' => e = .returned (.tuple #[.string (s.extract (p + k) (p + k + n)), .int .i64 ((p + k + n : Nat) : Int), .bool true]) ∧ Below w.heap.size w w' := by
 have h2 : (n : Int) ≤ (s.size : Int) - ((p : Int) + (k : Int)) := by omega
 have h3 : (p : Int) + (k : Int) + (n : Int) ≤ (s.size : Int) := by omega
 have hz : (s.extract (p + k) (p + k + n)).size ≤ 281474976710656 := by rw [size_piece s _ _ (by omega) hk]; omega
 have HZ : Hid _ := hz
 clear hz
 go_enter Tryz.func111, Tryz.ntmps111
 go_wp2_with (first | (go_at_call 107; refine (irv_some s p h hs n k hR.out _).mono ?_; rintro e w' ⟨rfl, rfl⟩) | (go_at_call 74; refine (clone49 _ HZ.out _).mono ?_; rintro e w' ⟨rfl, hb⟩))
 go_ret3
 exact ⟨rfl, hb⟩

end Go.Proofs.YtpnnncfbodfnhaaGreatDoor

namespace Go.Proofs.YtpnnncfbodfnhaaGreatDoor
open Go.RowKit
open KM
open VM
attribute [local go_sem ↓] Go.wp_at_zero Go.wp_at_succ

end Go.Proofs.YtpnnncfbodfnhaaGreatDoor

namespace Go.Proofs.YtpnnncfbodfnhaaGreatDoor
open Go.RowKit
open KM
open VM
attribute [local go_sem ↓] Go.wp_at_zero Go.wp_at_succ

structure KI (vs : List Vr) (rg : Rg) (i : Nat) (ks : List ByteArray) : Prop where
 up : ks.Pairwise (fun a b => lt a b = true)
 mem : ∀ x, x ∈ ks ↔ x ∈ (vs.take i).map (·.1) ∧ inB rg x = true
 len : ks.length ≤ i
theorem KI.yes {vs : List Vr} {rg : Rg} {i : Nat} {ks : List ByteArray} (h : KI vs rg i ks) (hi : i < vs.length) (hn : inB rg vs[i].1 = true) : KI vs rg (i + 1) (insK ks vs[i].1) := by
 obtain ⟨h1, h2⟩ := ins_spec (k := vs[i].1) h.up
 refine ⟨h1, fun x => ?_, ?_⟩
 ·rw [h2, h.mem, List.take_succ_eq_append_getElem hi, List.map_append, List.mem_append, List.map_singleton, List.mem_singleton]
  constructor
  ·rintro (rfl | ⟨h1, h2⟩)
   ·exact ⟨Or.inr rfl, hn⟩
   ·exact ⟨Or.inl h1, h2⟩
  ·rintro ⟨h1 | h1, h2⟩
   ·exact Or.inr ⟨h1, h2⟩
   ·exact Or.inl h1
 ·have e : (insK ks vs[i].1).length ≤ ks.length + 1 := by
   unfold insK
   simp only [List.length_append, List.length_singleton]
   have : (ks.filter fun y => lt y vs[i].1).length + (ks.filter fun y => lt vs[i].1 y).length ≤ ks.length := by
    clear h1 h2 h hn
    induction ks with
    | nil => simp
    | cons a l ih =>
     simp only [List.filter_cons]
     cases h3 : lt a vs[i].1
     ·cases h4 : lt vs[i].1 a <;> simp <;> omega
     ·have h4 : lt vs[i].1 a = false := less_asymm _ _ h3
      rw [h4]
      simp; omega
   omega
  have := h.len
  omega
end Go.Proofs.YtpnnncfbodfnhaaGreatDoor

namespace Go.Proofs.YtpnnncfbodfnhaaGreatDoor
open Go.RowKit
open KM
attribute [local go_sem ↓] Go.wp_at_zero Go.wp_at_succ

def rN (x : ByteArray) (p : Int) : Option (Nat × Nat) :=
 if 0 ≤ p ∧ p ≤ (x.size : Int) then (WM.rv (x.data.toList.drop p.toNat)).map (fun r => (r.1, p.toNat + r.2)) else none
def rS (x : ByteArray) (p : Int) : Option (ByteArray × Nat) :=
 match rN x p with
 | none => none
 | some r => if r.1 ≤ 20000 ∧ r.2 + r.1 ≤ x.size then some (x.extract r.2 (r.2 + r.1), r.2 + r.1) else none
def rF (x : ByteArray) (p : Int) : Option (Bool × Nat) :=
 match rN x p with
 | none => none
 | some r => if r.1 ≤ 1 then some (r.1 == 1, r.2) else none
theorem rN_bd {x : ByteArray} {p : Int} {n q : Nat} (h : rN x p = some (n, q)) : n ≤ 1000000000 ∧ p < (q : Int) ∧ q ≤ x.size ∧ 0 ≤ p := by
 unfold rN at h
 split at h
 ·rename_i hp
  obtain ⟨r, hr, e⟩ := Option.map_eq_some_iff.1 h
  cases e
  have hb := WM.rvGo_bd 5 0 0 _ _ hr
  rw [List.length_drop, Array.length_toList] at hb
  have hz : x.data.size = x.size := rfl
  rw [hz] at hb
  refine ⟨hb.1, ?_, ?_, hp.1⟩ <;> omega
 ·cases h
theorem rS_bd {x : ByteArray} {p : Int} {s : ByteArray} {q : Nat} (h : rS x p = some (s, q)) : s.size ≤ 20000 ∧ p < (q : Int) ∧ q ≤ x.size ∧ 0 ≤ p := by
 unfold rS at h
 cases hn : rN x p with
 | none => rw [hn] at h; cases h
 | some r =>
  obtain ⟨n, k⟩ := r
  rw [hn] at h
  have hb := rN_bd hn
  dsimp only at h
  split at h
  ·rename_i hc
   cases h
   rw [size_piece _ _ _ (by omega) hc.2]
   omega
  ·cases h
theorem rF_bd {x : ByteArray} {p : Int} {f : Bool} {q : Nat} (h : rF x p = some (f, q)) : p < (q : Int) ∧ q ≤ x.size ∧ 0 ≤ p := by
 unfold rF at h
 cases hn : rN x p with
 | none => rw [hn] at h; cases h
 | some r =>
  obtain ⟨n, k⟩ := r
  rw [hn] at h
  have hb := rN_bd hn
  dsimp only at h
  split at h
  ·cases h; exact hb.2
  ·cases h
def nV : Option (Nat × Nat) → Value
 | none => .tuple #[.int .i64 0, .int .i64 0, .bool false]
 | some r => .tuple #[.int .i64 (r.1 : Int), .int .i64 (r.2 : Int), .bool true]
def tV : Option (ByteArray × Nat) → Value
 | none => .tuple #[.string ⟨#[]⟩, .int .i64 0, .bool false]
 | some r => .tuple #[.string r.1, .int .i64 (r.2 : Int), .bool true]
theorem rN_out {x : ByteArray} {p : Int} (h : p < 0 ∨ (x.size : Int) < p) : rN x p = none := if_neg (by omega)
theorem rN_in {x : ByteArray} {p : Nat} (h : p ≤ x.size) : rN x (p : Int) = (WM.rv (x.data.toList.drop p)).map (fun r => (r.1, p + r.2)) := if_pos (by omega)
theorem iN (x : ByteArray) (p : Int) (hs : x.size ≤ 1048576) (w : World) :
  Calls Tryz.prog 107 #[.string x, .int .i64 p] w fun e w' => e = .returned (nV (rN x p)) ∧ Below w.heap.size w w' := by
 by_cases h : p < 0 ∨ (x.size : Int) < p
 ·refine (irv_bad x p h hs w).mono ?_
  rintro e w' ⟨rfl, rfl⟩
  exact ⟨by rw [rN_out h]; rfl, belowRefl _⟩
 ·obtain ⟨n, rfl⟩ := Int.eq_ofNat_of_zero_le (show 0 ≤ p by omega)
  have hn : n ≤ x.size := by omega
  rw [rN_in hn]
  cases hr : WM.rv (x.data.toList.drop n) with
  | none =>
   refine (irv_none x n hn hs hr w).mono ?_
   rintro e w' ⟨rfl, rfl⟩
   exact ⟨rfl, belowRefl _⟩
  | some r =>
   obtain ⟨m, k⟩ := r
   refine (irv_some x n hn hs m k hr w).mono ?_
   rintro e w' ⟨rfl, rfl⟩
   exact ⟨rfl, belowRefl _⟩
theorem sN (x : ByteArray) (p : Int) (hs : x.size ≤ 1048576) (w : World) :
  Calls Tryz.prog 105 #[.string x, .int .i64 p] w fun e w' => e = .returned (nV (rN x p)) ∧ Below w.heap.size w w' := by
 by_cases h : p < 0 ∨ (x.size : Int) < p
 ·refine (srv_bad x p h hs w).mono ?_
  rintro e w' ⟨rfl, rfl⟩
  exact ⟨by rw [rN_out h]; rfl, belowRefl _⟩
 ·obtain ⟨n, rfl⟩ := Int.eq_ofNat_of_zero_le (show 0 ≤ p by omega)
  have hn : n ≤ x.size := by omega
  rw [rN_in hn]
  cases hr : WM.rv (x.data.toList.drop n) with
  | none =>
   refine (srv_none x n hn hs hr w).mono ?_
   rintro e w' ⟨rfl, hb⟩
   exact ⟨rfl, hb⟩
  | some r =>
   obtain ⟨m, k⟩ := r
   refine (srv_some x n hn hs m k hr w).mono ?_
   rintro e w' ⟨rfl, hb⟩
   exact ⟨rfl, hb⟩
theorem iS (x : ByteArray) (p : Int) (hs : x.size ≤ 1048576) (w : World) :
  Calls Tryz.prog 111 #[.string x, .int .i64 p] w fun e w' => e = .returned (tV (rS x p)) ∧ Below w.heap.size w w' := by
 unfold rS
 by_cases h : p < 0 ∨ (x.size : Int) < p
 ·refine (ish_bad x p h hs w).mono ?_
  rintro e w' ⟨rfl, rfl⟩
  exact ⟨by rw [rN_out h]; rfl, belowRefl _⟩
 ·obtain ⟨n, rfl⟩ := Int.eq_ofNat_of_zero_le (show 0 ≤ p by omega)
  have hn : n ≤ x.size := by omega
  rw [rN_in hn]
  cases hr : WM.rv (x.data.toList.drop n) with
  | none =>
   refine (ish_none x n hn hs hr w).mono ?_
   rintro e w' ⟨rfl, rfl⟩
   exact ⟨rfl, belowRefl _⟩
  | some r =>
   obtain ⟨m, k⟩ := r
   have hb := WM.rvGo_bd 5 0 0 _ _ hr
   rw [List.length_drop, Array.length_toList] at hb
   have hz : x.data.size = x.size := rfl
   rw [hz] at hb
   by_cases hc : m ≤ 20000 ∧ n + k + m ≤ x.size
   ·refine (ish_ok x n hn hs m k hr hc.1 hc.2 w).mono ?_
    rintro e w' ⟨rfl, hb⟩
    refine ⟨?_, hb⟩
    show _ = Ending.returned (tV (if m ≤ 20000 ∧ n + k + m ≤ x.size then _ else _))
    rw [if_pos hc]; rfl
   ·refine (ish_big x n hn hs m k hr hb.1 (by omega) (by omega) w).mono ?_
    rintro e w' ⟨rfl, rfl⟩
    refine ⟨?_, belowRefl _⟩
    show _ = Ending.returned (tV (if m ≤ 20000 ∧ n + k + m ≤ x.size then _ else _))
    rw [if_neg hc]; rfl
theorem sS (x : ByteArray) (p : Int) (hs : x.size ≤ 1048576) (w : World) :
  Calls Tryz.prog 71 #[.string x, .int .i64 p] w fun e w' => e = .returned (tV (rS x p)) ∧ Below w.heap.size w w' := by
 unfold rS
 by_cases h : p < 0 ∨ (x.size : Int) < p
 ·refine (ssh_bad x p h hs w).mono ?_
  rintro e w' ⟨rfl, rfl⟩
  exact ⟨by rw [rN_out h]; rfl, belowRefl _⟩
 ·obtain ⟨n, rfl⟩ := Int.eq_ofNat_of_zero_le (show 0 ≤ p by omega)
  have hn : n ≤ x.size := by omega
  rw [rN_in hn]
  cases hr : WM.rv (x.data.toList.drop n) with
  | none =>
   refine (ssh_none x n hn hs hr w).mono ?_
   rintro e w' ⟨rfl, hb⟩
   exact ⟨rfl, hb⟩
  | some r =>
   obtain ⟨m, k⟩ := r
   have hb := WM.rvGo_bd 5 0 0 _ _ hr
   rw [List.length_drop, Array.length_toList] at hb
   have hz : x.data.size = x.size := rfl
   rw [hz] at hb
   by_cases hc : m ≤ 20000 ∧ n + k + m ≤ x.size
   ·refine (ssh_ok x n hn hs m k hr hc.1 hc.2 w).mono ?_
    rintro e w' ⟨rfl, hb⟩
    refine ⟨?_, hb⟩
    show _ = Ending.returned (tV (if m ≤ 20000 ∧ n + k + m ≤ x.size then _ else _))
    rw [if_pos hc]; rfl
   ·refine (ssh_big x n hn hs m k hr hb.1 (by omega) (by omega) w).mono ?_
    rintro e w' ⟨rfl, hb2⟩
    refine ⟨?_, hb2⟩
    show _ = Ending.returned (tV (if m ≤ 20000 ∧ n + k + m ≤ x.size then _ else _))
    rw [if_neg hc]; rfl
theorem rvGo_ge : ∀ f n k l r, 0 < k → WM.rvGo f n k l = some r → 128 ≤ r.1 := by
 intro f
 induction f with
 | zero => intro n k l r _ h; simp [WM.rvGo] at h
 | succ f ih =>
  intro n k l r hk h
  cases l with
  | nil => simp [WM.rvGo] at h
  | cons b t =>
   simp only [WM.rvGo] at h
   split at h
   ·split at h
    ·cases h
    ·rename_i hb hc
     cases h
     have h2 : 1 ≤ b.toNat % 128 := by omega
     have h3 : 128 ≤ 128 ^ k := by
      calc 128 = 128 ^ 1 := rfl
       _ ≤ 128 ^ k := Nat.pow_le_pow_right (by omega) hk
     have h4 : 1 * 128 ≤ b.toNat % 128 * 128 ^ k := Nat.mul_le_mul h2 h3
     show 128 ≤ n + b.toNat % 128 * 128 ^ k
     omega
   ·exact ih _ _ _ _ (by omega) h
theorem big_byte {b : UInt8} {l : List UInt8} {r : Nat × Nat} (h1 : ¬ b.toNat ≤ 1) (hr : WM.rv (b :: l) = some r) (hle : r.1 ≤ 1) : False := by
 unfold WM.rv at hr
 simp only [WM.rvGo] at hr
 split at hr
 ·split at hr
  ·cases hr
  ·cases hr
   simp at hle
   omega
 ·have := rvGo_ge _ _ _ _ _ (by omega) hr
  omega
theorem rF_byte {x : ByteArray} {p : Nat} (h : p < x.size) : rF x (p : Int) = if x[p].toNat ≤ 1 then some (x[p].toNat == 1, p + 1) else none := by
 unfold rF
 rw [rN_in (Nat.le_of_lt h), drop_at x p h]
 by_cases h1 : x[p].toNat ≤ 1
 ·rw [if_pos h1]
  have e : WM.rv (x[p] :: x.data.toList.drop (p + 1)) = some (x[p].toNat, 1) := by
   show (if x[p].toNat < 128 then _ else _) = _
   rw [if_pos (by omega), if_neg (by omega)]
   simp; omega
  rw [e]
  show (if x[p].toNat ≤ 1 then _ else _) = _
  rw [if_pos h1]
 ·rw [if_neg h1]
  cases hr : WM.rv (x[p] :: x.data.toList.drop (p + 1)) with
  | none => rfl
  | some r =>
   show (if r.1 ≤ 1 then _ else _) = _
   rw [if_neg]
   intro hle
   exact big_byte h1 hr hle
theorem rF_end {x : ByteArray} {p : Nat} (h : ¬ p < x.size) : rF x (p : Int) = none := by
 have : rN x (p : Int) = none := by
  by_cases hp : p = x.size
  ·subst hp
   rw [rN_in (Nat.le_refl _), List.drop_of_length_le (by rw [Array.length_toList]; exact Nat.le_refl _)]
   rfl
  ·exact rN_out (by omega)
 unfold rF
 rw [this]
end Go.Proofs.YtpnnncfbodfnhaaGreatDoor

namespace Go.Proofs.YtpnnncfbodfnhaaGreatDoor
open Go.RowKit
open KM
attribute [local go_sem ↓] Go.wp_at_zero Go.wp_at_succ

def PAN : List PanicEntry := [{ v := .iface 140 (.agg #[]), recovered := false }]
abbrev Rd (w : World) (g : Nat) (x : ByteArray) (p : Int) : Prop := Bx w g [.string x, .int .i64 p]
set_option maxRecDepth 100000 in
set_option maxHeartbeats 2000000 in
theorem inum_no (x : ByteArray) (g : Nat) (p : Int) (hs : x.size ≤ 1048576) (h : rN x p = none) (w : World) (hd : Rd w g x p) :
  Calls Tryz.prog 76 #[.pointer (some ⟨g, 0, none⟩)] w fun e w' => e = .panicked PAN ∧ w.grownBy w' (some g) := by
 have HD : Hid (Rd w g x p) := hd
 have C : Hid (∀ w, Calls Tryz.prog 107 #[.string x, .int .i64 p] w fun e w' => e = .returned (.tuple #[.int .i64 0, .int .i64 0, .bool false]) ∧ Below w.heap.size w w') := fun w => by
  have k := iN x p hs w
  rw [h] at k
  exact k
 have hgl := hd.lt
 clear hd h
 go_enter Tryz.func76, Tryz.ntmps76
 go_wp2
 refine wp_region_held_drew (S := fun w' => w'.cell? ⟨g, 0, none⟩ = some (.string x) ∧ w'.cell? ⟨g, 1, none⟩ = some (.int .i64 p)) (by kernel_rfl) ⟨HD.out.c0, HD.out.c1⟩ (fun hHeld => ?_)
 (refine ti 0 ?_; simp only [Act.put, tA, tB, tD, tE, tF])
 (refine ti 1 ?_; simp only [Act.put, tA, tB, tC, tD, tE, tF])
 (refine ti 2 ?_; simp only [Act.put, tA, tB, tC, tD, tE, tF])
 (refine ti 3 ?_; simp only [Act.put, tA, tB, tC, tD, tE, tF])
 (refine ti 4 ?_; simp only [Act.put, tA, tB, tC, tD, tE, tF])
 (refine ti 5 ?_; simp only [Act.put, tA, tB, tC, tD, tE, tF])
 (refine ti 6 ?_; simp only [Act.put, tA, tB, tC, tD, tE, tF])
 (refine ti 7 ?_; simp only [Act.put, tA, tB, tC, tD, tE, tF])
 refine wpAnyH_ready (rs := [8]) (by kernel_rfl) (by simp) ?_
 refine AllReadyH.cons rfl (fun K hK => ?_) AllReadyH.nil
 go_simp
 go_wp2_with fail
 refine (C.out _).mono ?_
 rintro e w1 ⟨rfl, hb⟩
 have hbu := undrew hb
 have HD1 := hide (HD.out.below hbu)
 have HG1 : Hid (w.grownBy w1 (some g)) := grown_below _ hbu
 clear hb hbu C
 go_wp2_with fail
 refine hK.out _ _ ⟨HD1.out.c0, HD1.out.c1⟩ (fun hHeld2 => ?_)
 clear hK K
 (refine ti 9 ?_; simp only [Act.put, tA, tB, tC, tD, tE, tF])
 (refine ti 10 ?_; simp only [Act.put, tA, tB, tC, tD, tE, tF])
 (refine ti 11 ?_; simp only [Act.put, tA, tB, tC, tD, tE, tF])
 (refine ti 12 ?_; simp only [Act.put, tA, tB, tC, tD, tE, tF])
 (refine ti 13 ?_; simp only [Act.put, tA, tB, tC, tD, tE, tF])
 (refine ti 14 ?_; simp only [Act.put, tA, tB, tC, tD, tE, tF])
 (refine ti 15 ?_; simp only [Act.put, tA, tB, tC, tD, tE, tF])
 refine wpAnyH_done (by kernel_rfl) ?_ _
 go_wp2
 exact ⟨rfl, rfl, HG1.out⟩

set_option maxRecDepth 100000 in
set_option maxHeartbeats 2000000 in
theorem inum_yes (x : ByteArray) (g : Nat) (p : Int) (hs : x.size ≤ 1048576) (n : Nat) (q : Nat) (h : rN x p = some (n, q)) (w : World) (hd : Rd w g x p) :
  Calls Tryz.prog 76 #[.pointer (some ⟨g, 0, none⟩)] w fun e w' => e = .returned (.int .i64 (n : Int)) ∧ Rd w' g x (q : Int) ∧ w.grownBy w' (some g) := by
 have HD : Hid (Rd w g x p) := hd
 have C : Hid (∀ w, Calls Tryz.prog 107 #[.string x, .int .i64 p] w fun e w' => e = .returned (.tuple #[.int .i64 (n : Int), .int .i64 (q : Int), .bool true]) ∧ Below w.heap.size w w') := fun w => by
  have k := iN x p hs w
  rw [h] at k
  exact k
 have hgl := hd.lt
 clear hd h
 go_enter Tryz.func76, Tryz.ntmps76
 go_wp2
 refine wp_region_held_drew (S := fun w' => w'.cell? ⟨g, 0, none⟩ = some (.string x) ∧ w'.cell? ⟨g, 1, none⟩ = some (.int .i64 p)) (by kernel_rfl) ⟨HD.out.c0, HD.out.c1⟩ (fun hHeld => ?_)
 (refine ti 0 ?_; simp only [Act.put, tA, tB, tD, tE, tF])
 (refine ti 1 ?_; simp only [Act.put, tA, tB, tC, tD, tE, tF])
 (refine ti 2 ?_; simp only [Act.put, tA, tB, tC, tD, tE, tF])
 (refine ti 3 ?_; simp only [Act.put, tA, tB, tC, tD, tE, tF])
 (refine ti 4 ?_; simp only [Act.put, tA, tB, tC, tD, tE, tF])
 (refine ti 5 ?_; simp only [Act.put, tA, tB, tC, tD, tE, tF])
 (refine ti 6 ?_; simp only [Act.put, tA, tB, tC, tD, tE, tF])
 (refine ti 7 ?_; simp only [Act.put, tA, tB, tC, tD, tE, tF])
 refine wpAnyH_ready (rs := [8]) (by kernel_rfl) (by simp) ?_
 refine AllReadyH.cons rfl (fun K hK => ?_) AllReadyH.nil
 go_simp
 go_wp2_with fail
 refine (C.out _).mono ?_
 rintro e w1 ⟨rfl, hb⟩
 have hbu := undrew hb
 have HD1 := hide (HD.out.below hbu)
 have HG1 : Hid (w.grownBy w1 (some g)) := grown_below _ hbu
 clear hb hbu C
 go_wp2_with fail
 refine hK.out _ _ ⟨HD1.out.c0, HD1.out.c1⟩ (fun hHeld2 => ?_)
 clear hK K
 (refine ti 9 ?_; simp only [Act.put, tA, tB, tC, tD, tE, tF])
 (refine ti 10 ?_; simp only [Act.put, tA, tB, tC, tD, tE, tF])
 (refine ti 11 ?_; simp only [Act.put, tA, tB, tC, tD, tE, tF])
 (refine ti 12 ?_; simp only [Act.put, tA, tB, tC, tD, tE, tF])
 (refine ti 13 ?_; simp only [Act.put, tA, tB, tC, tD, tE, tF])
 (refine ti 14 ?_; simp only [Act.put, tA, tB, tC, tD, tE, tF])
 (refine ti 15 ?_; simp only [Act.put, tA, tB, tC, tD, tE, tF])
 refine wpAnyH_done (by kernel_rfl) ?_ _
 have c0 := HD1.out.c0
 have c1 := HD1.out.c1
 have fz := HD1.out.fz
 go_wp2
 go_ret
 exact ⟨rfl, HD1.out.set 1 _, grown_trans HG1.out (grown_set _ g 1 _)⟩

set_option maxRecDepth 100000 in
set_option maxHeartbeats 2000000 in
theorem ishrt_no (x : ByteArray) (g : Nat) (p : Int) (hs : x.size ≤ 1048576) (h : rS x p = none) (w : World) (hd : Rd w g x p) :
  Calls Tryz.prog 78 #[.pointer (some ⟨g, 0, none⟩)] w fun e w' => e = .panicked PAN ∧ w.grownBy w' (some g) := by
 have HD : Hid (Rd w g x p) := hd
 have C : Hid (∀ w, Calls Tryz.prog 111 #[.string x, .int .i64 p] w fun e w' => e = .returned (.tuple #[.string ⟨#[]⟩, .int .i64 0, .bool false]) ∧ Below w.heap.size w w') := fun w => by
  have k := iS x p hs w
  rw [h] at k
  exact k
 have hgl := hd.lt
 clear hd h
 go_enter Tryz.func78, Tryz.ntmps78
 go_wp2
 refine wp_region_held_drew (S := fun w' => w'.cell? ⟨g, 0, none⟩ = some (.string x) ∧ w'.cell? ⟨g, 1, none⟩ = some (.int .i64 p)) (by kernel_rfl) ⟨HD.out.c0, HD.out.c1⟩ (fun hHeld => ?_)
 (refine ti 0 ?_; simp only [Act.put, tA, tB, tD, tE, tF])
 (refine ti 1 ?_; simp only [Act.put, tA, tB, tC, tD, tE, tF])
 (refine ti 2 ?_; simp only [Act.put, tA, tB, tC, tD, tE, tF])
 (refine ti 3 ?_; simp only [Act.put, tA, tB, tC, tD, tE, tF])
 (refine ti 4 ?_; simp only [Act.put, tA, tB, tC, tD, tE, tF])
 (refine ti 5 ?_; simp only [Act.put, tA, tB, tC, tD, tE, tF])
 (refine ti 6 ?_; simp only [Act.put, tA, tB, tC, tD, tE, tF])
 (refine ti 7 ?_; simp only [Act.put, tA, tB, tC, tD, tE, tF])
 refine wpAnyH_ready (rs := [8]) (by kernel_rfl) (by simp) ?_
 refine AllReadyH.cons rfl (fun K hK => ?_) AllReadyH.nil
 go_simp
 go_wp2_with fail
 refine (C.out _).mono ?_
 rintro e w1 ⟨rfl, hb⟩
 have hbu := undrew hb
 have HD1 := hide (HD.out.below hbu)
 have HG1 : Hid (w.grownBy w1 (some g)) := grown_below _ hbu
 clear hb hbu C
 go_wp2_with fail
 refine hK.out _ _ ⟨HD1.out.c0, HD1.out.c1⟩ (fun hHeld2 => ?_)
 clear hK K
 (refine ti 9 ?_; simp only [Act.put, tA, tB, tC, tD, tE, tF])
 (refine ti 10 ?_; simp only [Act.put, tA, tB, tC, tD, tE, tF])
 (refine ti 11 ?_; simp only [Act.put, tA, tB, tC, tD, tE, tF])
 (refine ti 12 ?_; simp only [Act.put, tA, tB, tC, tD, tE, tF])
 (refine ti 13 ?_; simp only [Act.put, tA, tB, tC, tD, tE, tF])
 (refine ti 14 ?_; simp only [Act.put, tA, tB, tC, tD, tE, tF])
 (refine ti 15 ?_; simp only [Act.put, tA, tB, tC, tD, tE, tF])
 refine wpAnyH_done (by kernel_rfl) ?_ _
 go_wp2
 exact ⟨rfl, rfl, HG1.out⟩

set_option maxRecDepth 100000 in
set_option maxHeartbeats 2000000 in
theorem ishrt_yes (x : ByteArray) (g : Nat) (p : Int) (hs : x.size ≤ 1048576) (n : ByteArray) (q : Nat) (h : rS x p = some (n, q)) (w : World) (hd : Rd w g x p) :
  Calls Tryz.prog 78 #[.pointer (some ⟨g, 0, none⟩)] w fun e w' => e = .returned (.string n) ∧ Rd w' g x (q : Int) ∧ w.grownBy w' (some g) := by
 have HD : Hid (Rd w g x p) := hd
 have C : Hid (∀ w, Calls Tryz.prog 111 #[.string x, .int .i64 p] w fun e w' => e = .returned (.tuple #[.string n, .int .i64 (q : Int), .bool true]) ∧ Below w.heap.size w w') := fun w => by
  have k := iS x p hs w
  rw [h] at k
  exact k
 have hgl := hd.lt
 clear hd h
 go_enter Tryz.func78, Tryz.ntmps78
 go_wp2
 refine wp_region_held_drew (S := fun w' => w'.cell? ⟨g, 0, none⟩ = some (.string x) ∧ w'.cell? ⟨g, 1, none⟩ = some (.int .i64 p)) (by kernel_rfl) ⟨HD.out.c0, HD.out.c1⟩ (fun hHeld => ?_)
 (refine ti 0 ?_; simp only [Act.put, tA, tB, tD, tE, tF])
 (refine ti 1 ?_; simp only [Act.put, tA, tB, tC, tD, tE, tF])
 (refine ti 2 ?_; simp only [Act.put, tA, tB, tC, tD, tE, tF])
 (refine ti 3 ?_; simp only [Act.put, tA, tB, tC, tD, tE, tF])
 (refine ti 4 ?_; simp only [Act.put, tA, tB, tC, tD, tE, tF])
 (refine ti 5 ?_; simp only [Act.put, tA, tB, tC, tD, tE, tF])
 (refine ti 6 ?_; simp only [Act.put, tA, tB, tC, tD, tE, tF])
 (refine ti 7 ?_; simp only [Act.put, tA, tB, tC, tD, tE, tF])
 refine wpAnyH_ready (rs := [8]) (by kernel_rfl) (by simp) ?_
 refine AllReadyH.cons rfl (fun K hK => ?_) AllReadyH.nil
 go_simp
 go_wp2_with fail
 refine (C.out _).mono ?_
 rintro e w1 ⟨rfl, hb⟩
 have hbu := undrew hb
 have HD1 := hide (HD.out.below hbu)
 have HG1 : Hid (w.grownBy w1 (some g)) := grown_below _ hbu
 clear hb hbu C
 go_wp2_with fail
 refine hK.out _ _ ⟨HD1.out.c0, HD1.out.c1⟩ (fun hHeld2 => ?_)
 clear hK K
 (refine ti 9 ?_; simp only [Act.put, tA, tB, tC, tD, tE, tF])
 (refine ti 10 ?_; simp only [Act.put, tA, tB, tC, tD, tE, tF])
 (refine ti 11 ?_; simp only [Act.put, tA, tB, tC, tD, tE, tF])
 (refine ti 12 ?_; simp only [Act.put, tA, tB, tC, tD, tE, tF])
 (refine ti 13 ?_; simp only [Act.put, tA, tB, tC, tD, tE, tF])
 (refine ti 14 ?_; simp only [Act.put, tA, tB, tC, tD, tE, tF])
 (refine ti 15 ?_; simp only [Act.put, tA, tB, tC, tD, tE, tF])
 refine wpAnyH_done (by kernel_rfl) ?_ _
 have c0 := HD1.out.c0
 have c1 := HD1.out.c1
 have fz := HD1.out.fz
 go_wp2
 go_ret
 exact ⟨rfl, HD1.out.set 1 _, grown_trans HG1.out (grown_set _ g 1 _)⟩

set_option maxRecDepth 100000 in
set_option maxHeartbeats 2000000 in
theorem iflag_no (x : ByteArray) (g : Nat) (p : Int) (hs : x.size ≤ 1048576) (h : rF x p = none) (w : World) (hd : Rd w g x p) :
  Calls Tryz.prog 79 #[.pointer (some ⟨g, 0, none⟩)] w fun e w' => e = .panicked PAN ∧ w.grownBy w' (some g) := by
 have HD : Hid (Rd w g x p) := hd
 have HR : Hid (rF x p = none) := h
 clear hd h
 cases hn : rN x p with
 | none =>
  have HN := hide hn
  clear hn
  go_enter Tryz.func79, Tryz.ntmps79
  go_wp2_with (go_at_call 76; refine (inum_no x g p hs HN.out _ HD.out).mono ?_; rintro e w' ⟨rfl, hg⟩)
  exact ⟨rfl, rfl, hg⟩
 | some r =>
  obtain ⟨n, q⟩ := r
  have hb : 1 < n := by
   have := HR.out
   unfold rF at this
   rw [hn] at this
   dsimp only at this
   split at this
   ·cases this
   ·omega
  have hb' : (1 : Int) < (n : Int) := by omega
  have HN := hide hn
  clear hn HR
  go_enter Tryz.func79, Tryz.ntmps79
  go_wp2_with (go_at_call 76; refine (inum_yes x g p hs n q HN.out _ HD.out).mono ?_; rintro e w' ⟨rfl, hd, hg⟩)
  exact ⟨rfl, rfl, hg⟩

set_option maxRecDepth 100000 in
set_option maxHeartbeats 2000000 in
theorem iflag_yes (x : ByteArray) (g : Nat) (p : Int) (hs : x.size ≤ 1048576) (f : Bool) (q : Nat) (h : rF x p = some (f, q)) (w : World) (hd : Rd w g x p) :
  Calls Tryz.prog 79 #[.pointer (some ⟨g, 0, none⟩)] w fun e w' => e = .returned (.bool f) ∧ Rd w' g x (q : Int) ∧ w.grownBy w' (some g) := by
 have HD : Hid (Rd w g x p) := hd
 clear hd
 unfold rF at h
 cases hn : rN x p with
 | none => rw [hn] at h; cases h
 | some r =>
  obtain ⟨n, k⟩ := r
  rw [hn] at h
  dsimp only at h
  split at h
  ·rename_i hle
   cases h
   have hb' : ¬ (1 : Int) < (n : Int) := by omega
   have HN := hide hn
   clear hn
   rcases (by omega : n = 0 ∨ n = 1) with rfl | rfl
   ·go_enter Tryz.func79, Tryz.ntmps79
    go_wp2_with (go_at_call 76; refine (inum_yes x g p hs 0 _ HN.out _ HD.out).mono ?_; rintro e w' ⟨rfl, hd, hg⟩)
    go_ret
    exact ⟨rfl, hd, hg⟩
   ·go_enter Tryz.func79, Tryz.ntmps79
    go_wp2_with (go_at_call 76; refine (inum_yes x g p hs 1 _ HN.out _ HD.out).mono ?_; rintro e w' ⟨rfl, hd, hg⟩)
    go_ret
    exact ⟨rfl, hd, hg⟩
  ·cases h

end Go.Proofs.YtpnnncfbodfnhaaGreatDoor
