/- What spec.Decimal and impl.Decimal return: the decimal numeral of an int. -/
import Derived.Test.YtneknebckpajaaaDoorF1
import Derived.Test.YtneknebckpajaaaDoorShelf
import Derived.Lib.ItoaLen
import Derived.Lib.ItoaMem
import Derived.Lib.AppendIntMem
import Derived.OpenShut
namespace Go.Proofs.YtneknebckpajaaaDoor
open Go.RowKit

theorem dd_len (m : Nat) (h : m < 18446744073709551616) : (WM.dd m).length ≤ 20 := by
  unfold WM.dd
  split
  · simp
  · rw [Lib.decDigits_length]; exact Lib.nDigits_le20 m h

theorem app_data (b : UInt8) (s : ByteArray) : ((⟨#[b]⟩ : ByteArray) ++ s).data.toList = b :: s.data.toList := by
  simp

theorem fig_dec (m : Nat) : WM.fig (m % 10) = UInt8.ofNat (48 + m % 10) := by
  unfold WM.fig; rw [if_pos (by omega)]

/-- what one round does to the text -/
theorem dd_round {m N : Nat} {s : ByteArray} (hm : 0 < m) (h : WM.dd m ++ s.data.toList = WM.dd N) : WM.dd (m / 10) ++ ((⟨#[WM.fig (m % 10)]⟩ : ByteArray) ++ s).data.toList = WM.dd N := by
  rw [app_data, fig_dec, ← h, WM.dd_step m hm]
  simp

theorem round_size {m N : Nat} {s : ByteArray} (hN : N < 18446744073709551616) (h : WM.dd m ++ s.data.toList = WM.dd N) : s.size ≤ 20 := by
  have h1 := dd_len N hN
  have h2 := congrArg List.length h
  simp at h2
  omega

theorem conv1 (wr : World) (b : UInt8) : (convert 28 9 (.slice (some ⟨wr.heap.size, 0, none⟩) 1 1)).run Tryd.prog (wr.alloc (.cells #[.int .u8 (b.toNat : Int)] 5)) = .ok (.string ⟨#[b]⟩) (wr.alloc (.cells #[.int .u8 (b.toNat : Int)] 5)) := by
  have h : Own (wr.alloc (.cells #[.int .u8 (b.toNat : Int)] 5)) wr.heap.size (.slice (some ⟨wr.heap.size, 0, none⟩) 1 1) [b] :=
    World.ownsRow_lit (size := 1) wr #[.int .u8 (b.toNat : Int)] 1 (Nat.le_refl _) (by unfold maxLen; omega) rfl
  exact h.str

theorem ret_str {a b : ByteArray} (h : a.data.toList = b.data.toList) : Ending.returned (.string a) = .returned (.string b) := by
  have : a = b := by
    apply ByteArray.ext
    exact Array.toList_inj.1 h
  rw [this]

set_option maxRecDepth 100000 in
set_option maxHeartbeats 400000 in
theorem sdec_zero (w : World) : Calls Tryd.prog 5 #[.int .i64 0] w fun e w' => e = .returned (.string ⟨(Lib.itoa 0).toArray⟩) ∧ Below w.heap.size w w' := by
  go_enter Tryd.func5, Tryd.ntmps5
  go_wp2
  go_ret
  refine ⟨ret_str ?_, Below.refl _ _⟩
  have : Lib.itoa 0 = [48] := by
    have := Lib.itoa_nonneg 0
    rw [show ((0 : Nat) : Int) = 0 from rfl] at this
    rw [this, Lib.decDigits_one (by omega)]
    rfl
  rw [this]

set_option maxRecDepth 100000 in
set_option maxHeartbeats 1000000 in
theorem sdec_pos (N : Nat) (h0 : 0 < N) (h1 : N ≤ 9223372036854775807) (w : World) : Calls Tryd.prog 5 #[.int .i64 N] w fun e w' => e = .returned (.string ⟨(Lib.itoa (N : Int)).toArray⟩) ∧ Below w.heap.size w w' := by
  have hz : ((N : Int) == 0) = false := by rw [beq_eq_false_iff_ne]; omega
  have hd : decide ((N : Int) < 0) = false := by simp
  have hf : Hid (Lib.itoa (N : Int) = WM.dd N) := by
    show _ = _
    rw [Lib.itoa_nonneg, WM.dd, if_neg (by omega)]
  go_enter Tryd.func5, Tryd.ntmps5
  go_wp2
  go_loopw [0, 4] (fun t v wr => ∃ (m : Nat) (s : ByteArray), m ≤ N ∧ t = .int .i64 m ∧ v = .string s ∧ Hid (WM.dd m ++ s.data.toList = WM.dd N) ∧ Below w.heap.size w wr) (fun t _ _ => (intOf t).toNat)
  case atStart => exact ⟨N, ⟨#[]⟩, Nat.le_refl _, rfl, rfl, by show _ = _; simp, Below.refl _ _⟩
  case round =>
    obtain ⟨m, s, hm, rfl, rfl, HE, hb⟩ := hrel
    have hsz := round_size (by omega) HE.out
    by_cases hpos : 0 < m
    · have hne : ((m : Int) != 0) = true := by rw [bne_iff_ne]; omega
      have HE2 : Hid _ := dd_round hpos HE.out
      have hcv := conv1 wr (WM.fig (m % 10))
      have hsz2 : (⟨#[WM.fig (m % 10)]⟩ : ByteArray).size ≤ 1 := Nat.le_refl _
      have hnn : ¬ (m : Int) % 10 < 0 := by omega
      go_wp2_with (go_at_call 9; refine (fig9 _ (by omega) (by omega) _).mono ?_; rintro e w' ⟨rfl, rfl⟩; rw [show ((m : Int) % 10).toNat = m % 10 by omega])
      go_roundw
      case rel => exact ⟨m / 10, _, by omega, by go_num, rfl, HE2, hb.alloc hb.size _⟩
      case measure => simp [intOf]; omega
    · have hne : ((m : Int) != 0) = false := by rw [bne_eq_false_iff_eq]; omega
      have HS : Hid (s.data.toList = WM.dd N) := by
        have h := HE.out
        rw [show m = 0 by omega] at h
        exact h
      go_wp2
      go_ret
      refine ⟨ret_str ?_, hb⟩
      rw [HS.out, hf.out]

theorem tm10 (m : Nat) : (-(m : Int)).tmod 10 = -((m % 10 : Nat) : Int) := by
  rw [Int.neg_tmod, Int.tmod_eq_emod_of_nonneg (by omega)]; omega
theorem td10 (m : Nat) : (-(m : Int)).tdiv 10 = -((m / 10 : Nat) : Int) := by
  rw [Int.neg_tdiv, Int.tdiv_eq_ediv_of_nonneg (by omega)]; omega

set_option maxRecDepth 100000 in
set_option maxHeartbeats 1000000 in
theorem sdec_neg (N : Nat) (h0 : 0 < N) (h1 : N ≤ 9223372036854775808) (w : World) : Calls Tryd.prog 5 #[.int .i64 (-(N : Int))] w fun e w' => e = .returned (.string ⟨(Lib.itoa (-(N : Int))).toArray⟩) ∧ Below w.heap.size w w' := by
  have hz : (-(N : Int) == 0) = false := by rw [beq_eq_false_iff_ne]; omega
  have hd : decide (-(N : Int) < 0) = true := by simp; omega
  have hf : Hid (Lib.itoa (-(N : Int)) = 45 :: WM.dd N) := by
    show _ = _
    rw [Lib.itoa_neg N h0, WM.dd, if_neg (by omega)]
  go_enter Tryd.func5, Tryd.ntmps5
  go_wp2
  go_loopw [0, 4] (fun t v wr => ∃ (m : Nat) (s : ByteArray), m ≤ N ∧ t = .int .i64 (-(m : Int)) ∧ v = .string s ∧ Hid (WM.dd m ++ s.data.toList = WM.dd N) ∧ Below w.heap.size w wr) (fun t _ _ => (-(intOf t)).toNat)
  case atStart => exact ⟨N, ⟨#[]⟩, Nat.le_refl _, rfl, rfl, by show _ = _; simp, Below.refl _ _⟩
  case round =>
    obtain ⟨m, s, hm, rfl, rfl, HE, hb⟩ := hrel
    have hsz := round_size (by omega) HE.out
    by_cases hpos : 0 < m
    · have hne : (-(m : Int) != 0) = true := by rw [bne_iff_ne]; omega
      have HE2 : Hid _ := dd_round hpos HE.out
      have hcv := conv1 wr (WM.fig (m % 10))
      have hsz2 : (⟨#[WM.fig (m % 10)]⟩ : ByteArray).size ≤ 1 := Nat.le_refl _
      have e1 := tm10 m
      have e2 := td10 m
      by_cases hr : 0 < m % 10
      · go_wp2_with (go_at_call 9; refine (fig9 _ (by omega) (by omega) _).mono ?_; rintro e w' ⟨rfl, rfl⟩)
        go_roundw
        case rel => exact ⟨m / 10, _, by omega, by go_num, rfl, HE2, hb.alloc hb.size _⟩
        case measure => simp [intOf]; omega
      · have hr' : (m : Int) % 10 ≤ 0 := by omega
        go_wp2_with (go_at_call 9; refine (fig9 _ (by omega) (by omega) _).mono ?_; rintro e w' ⟨rfl, rfl⟩; rw [show (-((m : Int) % 10)).toNat = m % 10 by omega])
        go_roundw
        case rel => exact ⟨m / 10, _, by omega, by go_num, rfl, HE2, hb.alloc hb.size _⟩
        case measure => simp [intOf]; omega
    · have hne : (-(m : Int) != 0) = false := by rw [bne_eq_false_iff_eq]; omega
      have HS : Hid (s.data.toList = WM.dd N) := by
        have h := HE.out
        rw [show m = 0 by omega] at h
        exact h
      go_wp2
      go_ret
      refine ⟨ret_str ?_, hb⟩
      rw [app_data, HS.out, hf.out]

/-- spec.Decimal at every int -/
theorem sdec (n : Int) (h0 : -9223372036854775808 ≤ n) (h1 : n ≤ 9223372036854775807) (w : World) : Calls Tryd.prog 5 #[.int .i64 n] w fun e w' => e = .returned (.string ⟨(Lib.itoa n).toArray⟩) ∧ Below w.heap.size w w' := by
  by_cases hz : n = 0
  · subst hz; exact sdec_zero w
  by_cases hp : 0 < n
  · obtain ⟨N, rfl⟩ : ∃ N : Nat, n = N := ⟨n.toNat, by omega⟩
    exact sdec_pos N (by omega) (by omega) w
  · obtain ⟨N, rfl⟩ : ∃ N : Nat, n = -(N : Int) := ⟨n.natAbs, by omega⟩
    exact sdec_neg N (by omega) (by omega) w

def Tab (w : World) : Prop := Lib.TabIs Tryd.prog w "internal/strconv.uint64pow10" .u64 Lib.pow10Tab

theorem itoa10 (n : Int) (h0 : -9223372036854775808 ≤ n) (h1 : n ≤ 9223372036854775807) (w : World) (ht : Tab w) : Calls Tryd.prog 10 #[.int .i64 n] w fun e w' => e = .returned (.string ⟨(Lib.itoa n).toArray⟩) ∧ Below w.heap.size w w' :=
  (Tryd.strconv_Itoa n h0 h1 w ht).mono fun e w' ⟨he, k, os, hw⟩ => ⟨he, by rw [hw]; exact Lib.below_grow _ _ (Nat.le_refl _) _ _⟩

set_option maxHeartbeats 400000 in
/-- impl.Decimal at every int -/
theorem idec (n : Int) (h0 : -9223372036854775808 ≤ n) (h1 : n ≤ 9223372036854775807) (w : World) (ht : Tab w) : Calls Tryd.prog 6 #[.int .i64 n] w fun e w' => e = .returned (.string ⟨(Lib.itoa n).toArray⟩) ∧ Below w.heap.size w w' := by
  have T : Hid (Tab w) := ht
  clear ht
  go_enter Tryd.func6, Tryd.ntmps6
  go_wp2_with (go_at_call 10; refine (itoa10 n h0 h1 w T.out).mono ?_; rintro e w' ⟨rfl, hb⟩)
  go_ret
  exact ⟨rfl, hb⟩

theorem gPow : Tryd.prog.globalNamed "internal/strconv.uint64pow10" = some 0 := by kernel_rfl

theorem Tab.below {w w' : World} (h : Tab w) (hb : Below w.heap.size w w') : Tab w' := by
  have hlt : 0 < w.heap.size := by
    have h1 : w.var? Tryd.prog "internal/strconv.uint64pow10" = some (Lib.pow10Tab.map fun z => Value.int .u64 z).toArray := h
    unfold World.var? at h1
    simp only [gPow, Option.bind_some] at h1
    by_cases hz : 0 < w.heap.size
    · exact hz
    · rw [Array.getElem?_eq_none (by omega)] at h1
      simp at h1
  exact var?_below hb gPow hlt h

set_option maxHeartbeats 400000 in
theorem law3 (n : Int) (hn : (Lit.int .i64 n).wf = true) (w : World) (ht : Tab w) : Calls Tryd.prog 3 #[.int .i64 n] w fun e w' => e = .returned (.bool true) ∧ Below w.heap.size w w' := by
  obtain ⟨h0, h1⟩ := bounds_i64 hn
  have T : Hid (Tab w) := ht
  clear hn ht
  go_enter Tryd.func3, Tryd.ntmps3
  go_wp2_with (first | (go_at_call 5; refine (sdec n h0 h1 _).mono ?_; rintro e w1 ⟨rfl, hb1⟩) | (go_at_call 6; refine (idec n h0 h1 _ (T.out.below hb1)).mono ?_; rintro e w2 ⟨rfl, hb2⟩))
  go_ret
  exact ⟨rfl, hb1.trans (hb2.mono hb1.size)⟩
end Go.Proofs.YtneknebckpajaaaDoor
