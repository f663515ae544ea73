/- What spec.Unhex and impl.Unhex return; the law FnExactUnhex, walked. -/
import Derived.Test.YtneknebckpajaaaF1
namespace Go.Proofs.Ytneknebckpajaaa
open Go.RowKit
attribute [local go_sem ↓] Go.wp_at_zero Go.wp_at_succ

/-- l01Value's answer -/
def lv (b : UInt8) : Int := if WM.fv b < 16 then (WM.fv b : Int) else -1

theorem lv_pos {b : UInt8} (h : WM.fv b < 16) : lv b = (WM.fv b : Int) := if_pos h
theorem lv_neg {b : UInt8} (h : ¬ WM.fv b < 16) : lv b = -1 := if_neg h

theorem fv_dig {b : UInt8} (h0 : 48 ≤ b.toNat) (h1 : b.toNat ≤ 57) : lv b = (b.toNat : Int) - 48 := by
  have e : WM.fv b = b.toNat - 48 := by unfold WM.fv; rw [if_pos ⟨h0, h1⟩]
  rw [lv_pos (by omega), e]; omega
theorem fv_let {b : UInt8} (h0 : 97 ≤ b.toNat) (h1 : b.toNat ≤ 102) : lv b = (b.toNat : Int) - 97 + 10 := by
  have e : WM.fv b = b.toNat - 87 := by unfold WM.fv; rw [if_neg (by omega), if_pos ⟨h0, h1⟩]
  rw [lv_pos (by omega), e]; omega
theorem fv_not {b : UInt8} (h0 : ¬ (48 ≤ b.toNat ∧ b.toNat ≤ 57)) (h1 : ¬ (97 ≤ b.toNat ∧ b.toNat ≤ 102)) : lv b = -1 := by
  have e : WM.fv b = 99 := by unfold WM.fv; rw [if_neg h0, if_neg h1]
  exact lv_neg (by omega)

theorem ret_i {a b : Int} (h : a = b) : Ending.returned (.int .i64 a) = .returned (.int .i64 b) := by rw [h]

set_option maxHeartbeats 400000 in
theorem val31 (b : UInt8) (w : World) : Calls Try.prog 31 #[.int .u8 (b.toNat : Int)] w fun e w' => e = .returned (.int .i64 (lv b)) ∧ w = w' := by
  have h255 : (b.toNat : Int) ≤ 255 := by have := b.toNat_lt; omega
  by_cases h1 : b.toNat < 48
  · have d1 : decide ((48 : Int) ≤ (b.toNat : Int)) = false := by simp; omega
    have d2 : decide ((97 : Int) ≤ (b.toNat : Int)) = false := by simp; omega
    go_enter Try.func31, Try.ntmps31
    go_wp2
    go_ret
    exact ⟨ret_i (fv_not (by omega) (by omega)).symm, rfl⟩
  by_cases h2 : b.toNat ≤ 57
  · have d1 : (48 : Int) ≤ (b.toNat : Int) := by omega
    have d2 : (b.toNat : Int) ≤ 57 := by omega
    go_enter Try.func31, Try.ntmps31
    go_wp2
    go_ret
    exact ⟨ret_i (fv_dig (by omega) h2).symm, rfl⟩
  by_cases h3 : b.toNat < 97
  · have d1 : (48 : Int) ≤ (b.toNat : Int) := by omega
    have d3 : decide ((b.toNat : Int) ≤ 57) = false := by simp; omega
    have d2 : decide ((97 : Int) ≤ (b.toNat : Int)) = false := by simp; omega
    go_enter Try.func31, Try.ntmps31
    go_wp2
    go_ret
    exact ⟨ret_i (fv_not (by omega) (by omega)).symm, rfl⟩
  by_cases h4 : b.toNat ≤ 102
  · have d1 : (48 : Int) ≤ (b.toNat : Int) := by omega
    have d3 : decide ((b.toNat : Int) ≤ 57) = false := by simp; omega
    have d2 : (97 : Int) ≤ (b.toNat : Int) := by omega
    have d4 : (b.toNat : Int) ≤ 102 := by omega
    go_enter Try.func31, Try.ntmps31
    go_wp2
    go_ret
    exact ⟨ret_i (fv_let (by omega) h4).symm, rfl⟩
  · have d1 : (48 : Int) ≤ (b.toNat : Int) := by omega
    have d3 : decide ((b.toNat : Int) ≤ 57) = false := by simp; omega
    have d2 : (97 : Int) ≤ (b.toNat : Int) := by omega
    have d4 : decide ((b.toNat : Int) ≤ 102) = false := by simp; omega
    go_enter Try.func31, Try.ntmps31
    go_wp2
    go_ret
    exact ⟨ret_i (fv_not (by omega) (by omega)).symm, rfl⟩

set_option maxHeartbeats 400000 in
theorem sun_no (s : ByteArray) (h : 40000 < s.size ∨ s.size % 2 = 1) (hs : s.size ≤ 1048576) (w : World) :
    Calls Try.prog 20 #[.string s] w fun e w' => e = .returned (.tuple #[.string ⟨#[]⟩, .bool false]) ∧ w = w' := by
  by_cases h1 : 40000 < s.size
  · clear h
    go_enter Try.func20, Try.ntmps20
    go_wp2
    go_ret2
    exact ⟨rfl, rfl⟩
  · have h2 : ((s.size : Int) % 2 != 0) = true := by rw [bne_iff_ne]; omega
    clear h
    go_enter Try.func20, Try.ntmps20
    go_wp2
    go_ret2
    exact ⟨rfl, rfl⟩

set_option maxHeartbeats 400000 in
theorem iun_no (s : ByteArray) (h : 40000 < s.size ∨ s.size % 2 = 1) (hs : s.size ≤ 1048576) (w : World) :
    Calls Try.prog 21 #[.string s] w fun e w' => e = .returned (.tuple #[.string ⟨#[]⟩, .bool false]) ∧ w = w' := by
  by_cases h1 : (s.size : Int) % 2 ≥ 1
  · clear h
    go_enter Try.func21, Try.ntmps21
    go_wp2
    go_ret2
    exact ⟨rfl, rfl⟩
  · have h2 : 40000 < s.size := by omega
    have h3 : (s.size : Int) % 2 ≤ 0 := by omega
    clear h h1
    go_enter Try.func21, Try.ntmps21
    go_wp2
    go_ret2
    exact ⟨rfl, rfl⟩

theorem take_two (s : ByteArray) (k : Nat) (h : k + 1 < s.size) : s.data.toList.take (k + 2) = s.data.toList.take k ++ [s[k], s[k + 1]] := by
  rw [take_snoc s (k + 1) h, take_snoc s k (by omega)]; simp

theorem un_more (s : ByteArray) (m : Nat) (h : 2 * m + 1 < s.size) : WM.unhexL (s.data.toList.take (2 * m + 2)) = WM.unhexL (s.data.toList.take (2 * m)) ++ [UInt8.ofNat (WM.fv s[2 * m] * 16 + WM.fv s[2 * m + 1])] := by
  rw [take_two s (2 * m) h, WM.unhexL_snoc m _ _ _ (by rw [List.length_take, Array.length_toList]; exact Nat.min_eq_left (by show 2 * m ≤ s.size; omega))]

theorem un_len (s : ByteArray) (m : Nat) (h : 2 * m ≤ s.size) : (WM.unhexL (s.data.toList.take (2 * m))).length = m :=
  WM.unhexL_len m _ (by rw [List.length_take, Array.length_toList]; exact Nat.min_eq_left h)

/-- Unhex's answer for a text of an even length -/
def unV (s : ByteArray) : Value := if WM.figsB 16 s.data.toList = true then .tuple #[.string ⟨(WM.unhexL s.data.toList).toArray⟩, .bool true] else .tuple #[.string ⟨#[]⟩, .bool false]
theorem unV_yes {s : ByteArray} (h : WM.figsB 16 s.data.toList = true) : unV s = .tuple #[.string ⟨(WM.unhexL s.data.toList).toArray⟩, .bool true] := if_pos h
theorem unV_no {s : ByteArray} (h : WM.figsB 16 s.data.toList = false) : unV s = .tuple #[.string ⟨#[]⟩, .bool false] := if_neg (by simp [h])

set_option maxRecDepth 100000 in
set_option maxHeartbeats 1000000 in
theorem sun_yes (s : ByteArray) (n : Nat) (hn : s.size = 2 * n) (hs : s.size ≤ 40000) (w : World) :
    Calls Try.prog 20 #[.string s] w fun e w' => e = .returned (unV s) ∧ Below w.heap.size w w' := by
  have hn2 : 2 * n ≤ s.size := by omega
  have hn3 : s.size ≤ 2 * n := by omega
  clear hn
  have d1 : decide ((40000 : Int) < (s.size : Int)) = false := by simp; omega
  have d2 : ((s.size : Int) % 2 != 0) = false := by rw [bne_eq_false_iff_eq]; omega
  go_enter Try.func20, Try.ntmps20
  go_wp2
  go_loopw [4, 5] (fun v t wr => ∃ m : Nat, m ≤ n ∧ t = .int .i64 ((2 * m : Nat) : Int) ∧ Own wr w.heap.size v (WM.unhexL (s.data.toList.take (2 * m))) ∧ Hid (WM.figsB 16 (s.data.toList.take (2 * m)) = true) ∧ Below w.heap.size w wr) (fun _ t _ => s.size - (intOf t).toNat)
  case atStart =>
    exact ⟨0, Nat.zero_le _, rfl, Own.empty _ _ (Nat.le_refl _), rfl, (Below.refl _ _).alloc (Nat.le_refl _) _⟩
  case round =>
    obtain ⟨m, hm, rfl, hown, HF, hb⟩ := hrel
    have hlen : (WM.unhexL (s.data.toList.take (2 * m))).length ≤ 20000 := by rw [un_len s m (by omega)]; omega
    by_cases hlt : m < n
    · have l1 : 2 * m < s.size := by omega
      have l2 : 2 * m + 1 < s.size := by omega
      have l1' : 2 * (m : Int) < (s.size : Int) := by omega
      have l2' : 2 * (m : Int) + 1 < (s.size : Int) := by omega
      by_cases ha : WM.fv s[2 * m] < 16
      · by_cases hc : WM.fv s[2 * m + 1] < 16
        · have va := lv_pos ha
          have vc := lv_pos hc
          have HF2 : Hid (WM.figsB 16 (s.data.toList.take (2 * m + 2)) = true) := figs_more s 16 (2 * m + 1) l2 (figs_more s 16 (2 * m) l1 HF.out ha) hc
          go_wp2_with (first | (go_at_call 31; refine (val31 _ _).mono ?_; rintro e w' ⟨rfl, rfl⟩) | (at_builtin; refine wpApp rfl _ _ rfl w [UInt8.ofNat (WM.fv s[2 * m] * 16 + WM.fv s[2 * m + 1])] rfl hown rfl (ofNatCell _ _ (by omega) (by omega)) (by simp; omega) hb (Nat.le_refl _) ?_))
          intro v' w1 hown1 hb1 _
          have hown2 : Own w1 w.heap.size v' (WM.unhexL (s.data.toList.take (2 * m + 2))) := by rw [un_more s m l2]; simpa using hown1
          clear hown1 hown hb va vc ha hc
          go_wp2
          go_roundw
          case rel => exact ⟨m + 1, by omega, by go_num, hown2, HF2, hb1⟩
          case measure => simp [intOf]; omega
        · have va := lv_pos ha
          have vc := lv_neg hc
          have HN : Hid (WM.figsB 16 s.data.toList = false) := figs_fall s 16 (2 * m + 1) l2 hc
          clear hc
          go_wp2_with (go_at_call 31; refine (val31 _ _).mono ?_; rintro e w' ⟨rfl, rfl⟩)
          go_ret2
          exact ⟨by rw [unV_no HN.out]; rfl, hb⟩
      · have va := lv_neg ha
        have HN : Hid (WM.figsB 16 s.data.toList = false) := figs_fall s 16 (2 * m) l1 ha
        clear ha
        go_wp2_with (go_at_call 31; refine (val31 _ _).mono ?_; rintro e w' ⟨rfl, rfl⟩)
        go_ret2
        exact ⟨by rw [unV_no HN.out]; rfl, hb⟩
    · have hd : decide (2 * (m : Int) < (s.size : Int)) = false := by simp; omega
      have HT : Hid (s.data.toList.take (2 * m) = s.data.toList) := List.take_of_length_le (by simp only [Array.length_toList]; show s.size ≤ 2 * m; omega)
      have hst := hown.str
      go_wp2
      go_ret2
      refine ⟨?_, hb⟩
      have hf := HF.out
      rw [HT.out] at hf ⊢
      rw [unV_yes hf]
      rfl
end Go.Proofs.Ytneknebckpajaaa
