/- What impl.ReadDecimal returns; the law FnExactReadDecimal, walked. -/
import Derived.Test.YtneknebckpajaaaDoorR1
namespace Go.Proofs.YtneknebckpajaaaDoor
open Go.RowKit

theorem cons_at (s : ByteArray) (h : 0 < s.size) : s.data.toList = s[0] :: s.data.toList.drop 1 := by
  have := List.drop_eq_getElem_cons (l := s.data.toList) (i := 0) (by simpa using h)
  rw [List.drop_zero] at this
  exact this

theorem drop_len (s : ByteArray) : (s.data.toList.drop 1).length = s.size - 1 := by
  rw [List.length_drop, Array.length_toList]; rfl

theorem fv_zero {b : UInt8} : WM.fv b = 0 ↔ b.toNat = 48 := by
  unfold WM.fv
  constructor
  · intro h
    split at h
    · omega
    · split at h <;> omega
  · intro h; rw [if_pos (by omega)]; omega

theorem not_empty (s : ByteArray) (h : 0 < s.size) : s.toList.isEmpty = false := by
  rw [ByteArray.toList_eq, List.isEmpty_eq_false_iff]
  intro e
  have := congrArg List.length e
  rw [Array.length_toList] at this
  have h2 : s.size = 0 := this
  omega

set_option maxRecDepth 100000 in
set_option maxHeartbeats 1000000 in
theorem ird_zero (s : ByteArray) (h1 : 1 < s.size) (hs : s.size ≤ 10) (hz : (s[0]'(by omega)).toNat = 48) (w : World) (ht : Tab w) :
    Calls Tryd.prog 8 #[.string s] w fun e w' => e = .returned (rdV s.data.toList) ∧ Below w.heap.size w w' := by
  have HN : Hid (rdB s.data.toList = false) := by
    show _ = _
    rw [cons_at s (by omega)]
    exact rdB_zero (fv_zero.2 hz) (by rw [drop_len]; omega)
  have he := not_empty s (by omega)
  have hz1 : (48 : Int) ≤ ((s[0]'(by omega)).toNat : Int) := by omega
  have hz2 : ((s[0]'(by omega)).toNat : Int) ≤ 48 := by omega
  have T : Hid (Tab w) := ht
  clear ht hz
  go_enter Tryd.func8, Tryd.ntmps8
  go_wp2_with (go_at_call 6; refine (idec_max w T.out).mono ?_; rintro e w' ⟨rfl, hb⟩)
  go_ret2
  exact ⟨by rw [rdV_no HN.out]; rfl, hb⟩

/-- the first byte is no nought, or it stands alone -/
def Lead (s : ByteArray) (h : 0 < s.size) : Prop := ¬ ((s[0]'h).toNat = 48 ∧ 1 < s.size)

theorem lead_cases {s : ByteArray} {h : 0 < s.size} (hl : Lead s h) : (((s[0]'h).toNat : Int) == 48) = false ∨ ((((s[0]'h).toNat : Int) == 48) = true ∧ decide ((1 : Int) < (s.size : Int)) = false) := by
  unfold Lead at hl
  by_cases hq : (s[0]'h).toNat = 48
  · right
    exact ⟨by rw [beq_iff_eq]; omega, by rw [decide_eq_false_iff_not]; omega⟩
  · left
    rw [beq_eq_false_iff_ne]; omega

theorem rdB_lead {s : ByteArray} {h : 0 < s.size} (hl : Lead s h) (hs : s.size ≤ 10) (hf : WM.figsB 10 s.data.toList = true) (hv : WM.decV s.data.toList ≤ 1000000000) : rdB s.data.toList = true := by
  have e := cons_at s h
  rw [e] at hf hv ⊢
  refine rdB_yes ?_ hf hv ?_
  · simp only [List.length_cons, drop_len]; omega
  · rw [drop_len, fv_zero]; unfold Lead at hl; omega

set_option maxRecDepth 100000 in
set_option maxHeartbeats 1000000 in
theorem ird_bad (s : ByteArray) (h0 : 0 < s.size) (hs : s.size ≤ 10) (hl : Lead s h0) (hf : WM.figsB 10 s.data.toList = false) (w : World) (ht : Tab w) :
    Calls Tryd.prog 8 #[.string s] w fun e w' => e = .returned (rdV s.data.toList) ∧ Below w.heap.size w w' := by
  have HN : Hid (rdB s.data.toList = false) := rdB_figs hf
  have HF : Hid (WM.figsB 10 s.data.toList = false) := hf
  have he := not_empty s h0
  have T : Hid (Tab w) := ht
  have hc := lead_cases hl
  clear ht hf hl
  have hd10 : decide ((10 : Int) < (s.size : Int)) = false := by simp; omega
  rcases hc with hc | ⟨hc1, hc2⟩
  all_goals
    go_enter Tryd.func8, Tryd.ntmps8
    go_wp2_with (first | (go_at_call 6; refine (idec_max w T.out).mono ?_; rintro e w1 ⟨rfl, hb1⟩) | (go_at_call 11; refine (fv11_no s 10 (by omega) (by omega) HF.out _).mono ?_; rintro e w2 ⟨rfl, hb2⟩))
    go_ret2
    exact ⟨by rw [rdV_no HN.out]; rfl, hb1.trans (hb2.mono hb1.size)⟩

set_option maxRecDepth 100000 in
set_option maxHeartbeats 2000000 in
theorem ird_yes (s : ByteArray) (h0 : 0 < s.size) (hs : s.size ≤ 10) (hl : Lead s h0) (hf : WM.figsB 10 s.data.toList = true) (w : World) (ht : Tab w) :
    Calls Tryd.prog 8 #[.string s] w fun e w' => e = .returned (rdV s.data.toList) ∧ Below w.heap.size w w' := by
  have HL : Hid (Lead s h0) := hl
  have HF : Hid (WM.figsB 10 s.data.toList = true) := hf
  have he := not_empty s h0
  have T : Hid (Tab w) := ht
  have hc := lead_cases hl
  clear ht hf hl
  have hd10 : decide ((10 : Int) < (s.size : Int)) = false := by simp; omega
  rcases hc with hc | ⟨hc1, hc2⟩
  all_goals
    go_enter Tryd.func8, Tryd.ntmps8
    go_wp2_with (first | (go_at_call 6; refine (idec_max w T.out).mono ?_; rintro e w1 ⟨rfl, hb1⟩) | (go_at_call 11; refine (fv11_yes s 10 (by omega) (by omega) h0 HF.out _).mono ?_; rintro e w2 ⟨hb2, g, cap, rfl, hg, hcell⟩; have HC : Hid _ := hcell; clear hcell))
    have hbb : Below w.heap.size w w2 := hb1.trans (hb2.mono hb1.size)
    go_loop [6, 35] (fun tn ti => ∃ k N : Nat, k ≤ s.size ∧ ti = .int .i64 (k : Int) ∧ tn = .int .i64 (N : Int) ∧ Hid (N = WM.decV (s.data.toList.take k)) ∧ N ≤ 10000000000) (fun _ ti => s.size - (intOf ti).toNat)
    case atStart => exact ⟨0, 0, Nat.zero_le _, rfl, rfl, rfl, by omega⟩
    case round =>
      obtain ⟨k, N, hk, rfl, rfl, HN, hNb⟩ := hrel
      by_cases hlt : k < s.size
      · have hlt' : (k : Int) < (s.size : Int) := by omega
        have hv := figs_take_at s 10 k hlt HF.out
        have c1 : w2.cell? ⟨g, k, none⟩ = some (.int .u8 (WM.fv s[k] : Int)) := HC.out k hlt
        have HN2 : Hid (N * 10 + WM.fv s[k] = WM.decV (s.data.toList.take (k + 1))) := by show _ = _; rw [dec_more s k hlt, ← HN.out]
        have hNb2 : N * 10 + WM.fv s[k] ≤ 10000000000 := by rw [HN2.out]; exact dec_bd s (k + 1) (by omega) (WM.figsB_take HF.out _)
        go_wp2
        go_round
        case rel => exact ⟨k + 1, N * 10 + WM.fv s[k], by omega, by go_num, by go_num, HN2, hNb2⟩
        case measure => simp [intOf]; omega
      · have hd : decide ((k : Int) < (s.size : Int)) = false := by simp; omega
        have HT : Hid (s.data.toList.take k = s.data.toList) := List.take_of_length_le (by simp only [Array.length_toList]; show s.size ≤ k; omega)
        have HN1 : Hid (N = WM.decV s.data.toList) := by show _ = _; rw [HN.out, HT.out]
        by_cases hbig : 1000000000 < N
        · have hr : Hid (rdB s.data.toList = false) := rdB_big (by rw [← HN1.out]; exact hbig)
          go_wp2
          go_ret2
          exact ⟨by rw [rdV_no hr.out]; rfl, hbb⟩
        · have hr : Hid (rdB s.data.toList = true) := rdB_lead HL.out hs HF.out (by rw [← HN1.out]; omega)
          go_wp2
          go_ret2
          exact ⟨by rw [rdV_yes hr.out, ← HN1.out]; rfl, hbb⟩

theorem ird (s : ByteArray) (hs : s.size ≤ 1048576) (w : World) (ht : Tab w) :
    Calls Tryd.prog 8 #[.string s] w fun e w' => e = .returned (rdV s.data.toList) ∧ Below w.heap.size w w' := by
  by_cases h0 : s.size = 0
  · exact ird_empty s h0 w
  by_cases hl : 10 < s.size
  · exact ird_long s hl hs w ht
  by_cases hz : (s[0]'(by omega)).toNat = 48 ∧ 1 < s.size
  · exact ird_zero s hz.2 (by omega) hz.1 w ht
  · cases hf : WM.figsB 10 s.data.toList with
    | false => exact ird_bad s (by omega) (by omega) hz hf w ht
    | true => exact ird_yes s (by omega) (by omega) hz hf w ht

theorem srd_all (s : ByteArray) (w : World) :
    Calls Tryd.prog 7 #[.string s] w fun e w' => e = .returned (rdV s.data.toList) ∧ Below w.heap.size w w' := by
  by_cases hl : 10 < s.size
  · exact srd_long s hl w
  · exact srd s (by omega) w

theorem rd_ret {l : List UInt8} {s : ByteArray} {v : Value} (h : rdV l = v) {w : World} {f : Nat} {P : World → World → Prop} (hc : Calls Tryd.prog f #[.string s] w fun e w' => e = .returned (rdV l) ∧ P w w') :
    Calls Tryd.prog f #[.string s] w fun e w' => e = .returned v ∧ P w w' := by rw [h] at hc; exact hc

set_option maxHeartbeats 400000 in
theorem law4 (s : ByteArray) (hs : s.size ≤ maxLen) (w : World) (ht : Tab w) : Calls Tryd.prog 4 #[.string s] w fun e w' => e = .returned (.bool true) ∧ Below w.heap.size w w' := by
  unfold maxLen at hs
  have T : Hid (Tab w) := ht
  clear ht
  by_cases hbig : 1048576 < s.size
  · go_enter Tryd.func4, Tryd.ntmps4
    go_wp2
    go_ret
    exact ⟨rfl, Below.refl _ _⟩
  have hm : s.size ≤ 1048576 := by omega
  cases hr : rdB s.data.toList with
  | false =>
    have HR : Hid (rdV s.data.toList = .tuple #[.int .i64 0, .bool false]) := rdV_no hr
    clear hr
    go_enter Tryd.func4, Tryd.ntmps4
    go_wp2_with (first | (go_at_call 7; refine (rd_ret HR.out (srd_all s _)).mono ?_; rintro e w1 ⟨rfl, hb1⟩) | (go_at_call 8; refine (rd_ret HR.out (ird s hm _ (T.out.below hb1))).mono ?_; rintro e w2 ⟨rfl, hb2⟩))
    go_ret
    exact ⟨rfl, hb1.trans (hb2.mono hb1.size)⟩
  | true =>
    have HR : Hid (rdV s.data.toList = .tuple #[.int .i64 (WM.decV s.data.toList : Int), .bool true]) := rdV_yes hr
    clear hr
    go_enter Tryd.func4, Tryd.ntmps4
    go_wp2_with (first | (go_at_call 7; refine (rd_ret HR.out (srd_all s _)).mono ?_; rintro e w1 ⟨rfl, hb1⟩) | (go_at_call 8; refine (rd_ret HR.out (ird s hm _ (T.out.below hb1))).mono ?_; rintro e w2 ⟨rfl, hb2⟩))
    go_ret
    exact ⟨rfl, hb1.trans (hb2.mono hb1.size)⟩
end Go.Proofs.YtneknebckpajaaaDoor
