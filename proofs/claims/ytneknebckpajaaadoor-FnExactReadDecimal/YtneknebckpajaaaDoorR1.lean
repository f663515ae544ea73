/- What spec.ReadDecimal and impl.ReadDecimal return; the law FnExactReadDecimal, walked. -/
import Derived.Test.YtneknebckpajaaaDoorD1
namespace Go.Proofs.YtneknebckpajaaaDoor
open Go.RowKit

/-- ReadDecimal: may the text be read? -/
def rdB (l : List UInt8) : Bool := match l with
  | [] => false
  | c :: p => WM.figsB 10 (c :: p) && decide ((c :: p).length ≤ 10) && decide (WM.decV (c :: p) ≤ 1000000000) && !(decide (WM.fv c = 0) && decide (0 < p.length))

def rdV (l : List UInt8) : Value := if rdB l = true then .tuple #[.int .i64 (WM.decV l : Int), .bool true] else .tuple #[.int .i64 0, .bool false]
theorem rdV_yes {l : List UInt8} (h : rdB l = true) : rdV l = .tuple #[.int .i64 (WM.decV l : Int), .bool true] := if_pos h
theorem rdV_no {l : List UInt8} (h : rdB l = false) : rdV l = .tuple #[.int .i64 0, .bool false] := if_neg (by simp [h])

theorem rdB_long {l : List UInt8} (h : 10 < l.length) : rdB l = false := by
  cases l with
  | nil => rfl
  | cons c p =>
    have : decide ((c :: p).length ≤ 10) = false := by simp only [decide_eq_false_iff_not]; omega
    simp only [rdB, this, Bool.and_false, Bool.false_and]
theorem rdB_figs {l : List UInt8} (h : WM.figsB 10 l = false) : rdB l = false := by
  cases l with
  | nil => rfl
  | cons c p => simp only [rdB, h, Bool.false_and]
theorem rdB_big {l : List UInt8} (h : 1000000000 < WM.decV l) : rdB l = false := by
  cases l with
  | nil => rfl
  | cons c p =>
    have : decide (WM.decV (c :: p) ≤ 1000000000) = false := by simp only [decide_eq_false_iff_not]; omega
    simp only [rdB, this, Bool.and_false, Bool.false_and]
theorem rdB_eq {l : List UInt8} (hl : l.length ≤ 10) (hf : WM.figsB 10 l = true) (hv : WM.decV l ≤ 1000000000) : rdB l = decide (Lib.decDigits (WM.decV l) = l) := by
  cases l with
  | nil =>
    have : Lib.decDigits (WM.decV []) ≠ [] := by
      intro e
      have := congrArg List.length e
      rw [Lib.decDigits_length] at this
      have := Lib.nDigits_pos (WM.decV [])
      simp at *
      omega
    simp [rdB, this]
  | cons c p =>
    have hi := WM.dd_iff (c :: p).reverse c p (by simp) hf
    have h1 : decide ((c :: p).length ≤ 10) = true := by simpa using hl
    have h2 : decide (WM.decV (c :: p) ≤ 1000000000) = true := by simpa using hv
    simp only [rdB, hf, h1, h2, Bool.true_and]
    rw [Bool.eq_iff_iff, decide_eq_true_iff, hi]
    simp only [Bool.not_eq_true', Bool.and_eq_false_iff, decide_eq_false_iff_not]
    constructor <;> intro h <;> omega
theorem rdB_yes {c : UInt8} {p : List UInt8} (hl : (c :: p).length ≤ 10) (hf : WM.figsB 10 (c :: p) = true) (hv : WM.decV (c :: p) ≤ 1000000000) (hc : ¬ (WM.fv c = 0 ∧ 0 < p.length)) : rdB (c :: p) = true := by
  have h1 : decide ((c :: p).length ≤ 10) = true := by simpa using hl
  have h2 : decide (WM.decV (c :: p) ≤ 1000000000) = true := by simpa using hv
  simp only [rdB, hf, h1, h2, Bool.true_and]
  simp only [Bool.not_eq_true', Bool.and_eq_false_iff, decide_eq_false_iff_not]
  omega
theorem rdB_zero {c : UInt8} {p : List UInt8} (hc : WM.fv c = 0) (hp : 0 < p.length) : rdB (c :: p) = false := by
  simp [rdB, hc, hp]

theorem fv_range {b : UInt8} : WM.fv b < 10 ↔ 48 ≤ b.toNat ∧ b.toNat ≤ 57 := by
  unfold WM.fv
  constructor
  · intro h
    split at h
    · assumption
    · split at h <;> omega
  · intro h
    rw [if_pos h]; omega
theorem fv_val {b : UInt8} (h : WM.fv b < 10) : (WM.fv b : Int) = (b.toNat : Int) - 48 := by
  have h2 := fv_range.1 h
  have : WM.fv b = b.toNat - 48 := by unfold WM.fv; rw [if_pos h2]
  rw [this]; omega

theorem dec_more (s : ByteArray) (k : Nat) (h : k < s.size) : WM.decV (s.data.toList.take (k + 1)) = WM.decV (s.data.toList.take k) * 10 + WM.fv s[k] := by
  rw [take_snoc s k h, WM.decV_snoc]

theorem dec_bd (s : ByteArray) (k : Nat) (hk : k ≤ 10) (h : WM.figsB 10 (s.data.toList.take k) = true) : WM.decV (s.data.toList.take k) ≤ 10000000000 := by
  have h1 := WM.decV_lt _ h
  have h2 : (s.data.toList.take k).length ≤ 10 := by rw [List.length_take]; omega
  have h3 : 10 ^ (s.data.toList.take k).length ≤ 10 ^ 10 := Nat.pow_le_pow_right (by omega) h2
  omega

set_option maxHeartbeats 400000 in
theorem srd_long (s : ByteArray) (h : 10 < s.size) (w : World) :
    Calls Tryd.prog 7 #[.string s] w fun e w' => e = .returned (rdV s.data.toList) ∧ Below w.heap.size w w' := by
  have HN : Hid (rdB s.data.toList = false) := rdB_long (by rw [Array.length_toList]; exact h)
  go_enter Tryd.func7, Tryd.ntmps7
  go_wp2
  go_ret2
  exact ⟨by rw [rdV_no HN.out]; rfl, Below.refl _ _⟩

theorem neq_eq (n : Nat) (s : ByteArray) : (Lib.itoa (n : Int) == s.toList) = decide (Lib.decDigits n = s.data.toList) := by
  rw [Lib.itoa_nonneg, ByteArray.toList_eq]
  rw [Bool.eq_iff_iff, beq_iff_eq, decide_eq_true_iff]

set_option maxRecDepth 100000 in
set_option maxHeartbeats 1000000 in
theorem srd (s : ByteArray) (h : s.size ≤ 10) (w : World) :
    Calls Tryd.prog 7 #[.string s] w fun e w' => e = .returned (rdV s.data.toList) ∧ Below w.heap.size w w' := by
  have hd0 : decide ((10 : Int) < (s.size : Int)) = false := by simp; omega
  go_enter Tryd.func7, Tryd.ntmps7
  go_wp2
  go_loop [4, 5] (fun tn ti => ∃ k N : Nat, k ≤ s.size ∧ ti = .int .i64 (k : Int) ∧ tn = .int .i64 (N : Int) ∧ Hid (N = WM.decV (s.data.toList.take k)) ∧ N ≤ 10000000000 ∧ Hid (WM.figsB 10 (s.data.toList.take k) = true)) (fun _ ti => s.size - (intOf ti).toNat)
  case atStart => exact ⟨0, 0, Nat.zero_le _, rfl, rfl, rfl, by omega, rfl⟩
  case round =>
    obtain ⟨k, N, hk, rfl, rfl, HN, hNb, HF⟩ := hrel
    by_cases hlt : k < s.size
    · have hlt' : (k : Int) < (s.size : Int) := by omega
      by_cases hv : WM.fv s[k] < 10
      · have hr := fv_range.1 hv
        have e1 := fv_val hv
        have r1 : (48 : Int) ≤ (s[k].toNat : Int) := by omega
        have r2 : (s[k].toNat : Int) ≤ 57 := by omega
        have HF2 : Hid (WM.figsB 10 (s.data.toList.take (k + 1)) = true) := figs_more s 10 k hlt HF.out hv
        have HN2 : Hid (N * 10 + WM.fv s[k] = WM.decV (s.data.toList.take (k + 1))) := by show _ = _; rw [dec_more s k hlt, ← HN.out]
        have hNb2 : N * 10 + WM.fv s[k] ≤ 10000000000 := by rw [HN2.out]; exact dec_bd s (k + 1) (by omega) HF2.out
        have E1 : Hid _ := e1
        clear e1 hr
        go_wp2
        go_round
        case rel => exact ⟨k + 1, N * 10 + WM.fv s[k], by omega, by go_num, by have := E1.out; go_num, HN2, hNb2, HF2⟩
        case measure => simp [intOf]; omega
      · have hb : Hid (rdB s.data.toList = false) := rdB_figs (figs_fall s 10 k hlt hv)
        have h255 : (s[k].toNat : Int) ≤ 255 := by have := s[k].toNat_lt; omega
        have hor : s[k].toNat < 48 ∨ 57 < s[k].toNat := by
          by_cases hl : s[k].toNat < 48
          · exact Or.inl hl
          · right; by_cases hg : 57 < s[k].toNat
            · exact hg
            · exact absurd (fv_range.2 ⟨by omega, by omega⟩) hv
        clear hv
        rcases hor with hl | hl
        · have hl' : (s[k].toNat : Int) < 48 := by omega
          go_wp2
          go_ret2
          exact ⟨by rw [rdV_no hb.out]; rfl, Below.refl _ _⟩
        · have hl' : (57 : Int) < (s[k].toNat : Int) := by omega
          go_wp2
          go_ret2
          exact ⟨by rw [rdV_no hb.out]; rfl, Below.refl _ _⟩
    · have hd : decide ((k : Int) < (s.size : Int)) = false := by simp; omega
      have HT : Hid (s.data.toList.take k = s.data.toList) := List.take_of_length_le (by simp only [Array.length_toList]; show s.size ≤ k; omega)
      have HN1 : Hid (N = WM.decV s.data.toList) := by show _ = _; rw [HN.out, HT.out]
      have HF1 : Hid (WM.figsB 10 s.data.toList = true) := by have := HF.out; rw [HT.out] at this; exact this
      by_cases hbig : 1000000000 < N
      · have hb : Hid (rdB s.data.toList = false) := rdB_big (by rw [← HN1.out]; exact hbig)
        go_wp2
        go_ret2
        exact ⟨by rw [rdV_no hb.out]; rfl, Below.refl _ _⟩
      · have HC : Hid ((Lib.itoa (N : Int) == s.toList) = rdB s.data.toList) := by
          show _ = _
          rw [neq_eq, rdB_eq (by rw [Array.length_toList]; exact h) HF1.out (by rw [← HN1.out]; omega), HN1.out]
        go_wp2_with (go_at_call 5; refine (sdec _ (by omega) (by omega) _).mono ?_; rintro e w' ⟨rfl, hb⟩)
        · have ht : 1000000000 < (N : Int) ∨ (!Lib.itoa (N : Int) == s.toList) = true := by assumption
          have hr : rdB s.data.toList = false := by
            rcases ht with ht | ht
            · omega
            · rw [HC.out] at ht; simpa using ht
          go_ret2
          exact ⟨by rw [rdV_no hr]; rfl, hb⟩
        · have ht : (N : Int) ≤ 1000000000 ∧ (!Lib.itoa (N : Int) == s.toList) = false := by assumption
          have hr : rdB s.data.toList = true := by
            have := ht.2
            rw [HC.out] at this
            simpa using this
          go_ret2
          exact ⟨by rw [rdV_yes hr, ← HN1.out]; rfl, hb⟩

theorem itoa_max : Lib.itoa 1000000000 = [49, 48, 48, 48, 48, 48, 48, 48, 48, 48] := by
  have h := Lib.itoa_nonneg 1000000000
  rw [show ((1000000000 : Nat) : Int) = 1000000000 from rfl] at h
  rw [h]
  have st : ∀ u, ¬ u < 10 → Lib.decDigits u = Lib.decDigits (u / 10) ++ [UInt8.ofNat (48 + u % 10)] := fun u hu => by rw [Lib.decDigits, dif_neg hu]
  rw [st _ (by omega), st _ (by omega), st _ (by omega), st _ (by omega), st _ (by omega), st _ (by omega), st _ (by omega), st _ (by omega), st _ (by omega), Lib.decDigits_one (by omega)]
  rfl

set_option maxHeartbeats 400000 in
theorem idec_max (w : World) (ht : Tab w) : Calls Tryd.prog 6 #[.int .i64 1000000000] w fun e w' => e = .returned (.string ⟨#[49, 48, 48, 48, 48, 48, 48, 48, 48, 48]⟩) ∧ Below w.heap.size w w' :=
  (idec 1000000000 (by omega) (by omega) w ht).mono fun e w' ⟨he, hb⟩ => ⟨by rw [he, itoa_max], hb⟩

set_option maxHeartbeats 400000 in
theorem ird_empty (s : ByteArray) (h : s.size = 0) (w : World) :
    Calls Tryd.prog 8 #[.string s] w fun e w' => e = .returned (rdV s.data.toList) ∧ Below w.heap.size w w' := by
  have hl : s.data.toList = [] := List.length_eq_zero_iff.1 (by rw [Array.length_toList]; exact h)
  have HN : Hid (rdB s.data.toList = false) := by show _ = _; rw [hl]; rfl
  have he : s.toList.isEmpty = true := by rw [ByteArray.toList_eq, hl]; rfl
  clear hl h
  go_enter Tryd.func8, Tryd.ntmps8
  go_wp2
  go_ret2
  exact ⟨by rw [rdV_no HN.out]; rfl, Below.refl _ _⟩

set_option maxRecDepth 100000 in
set_option maxHeartbeats 1000000 in
theorem ird_long (s : ByteArray) (h : 10 < s.size) (hs : s.size ≤ 1048576) (w : World) (ht : Tab w) :
    Calls Tryd.prog 8 #[.string s] w fun e w' => e = .returned (rdV s.data.toList) ∧ Below w.heap.size w w' := by
  have HN : Hid (rdB s.data.toList = false) := rdB_long (by rw [Array.length_toList]; exact h)
  have he : s.toList.isEmpty = false := by
    rw [ByteArray.toList_eq, List.isEmpty_eq_false_iff]
    intro e
    have := congrArg List.length e
    rw [Array.length_toList] at this
    have h2 : s.size = 0 := this
    omega
  have T : Hid (Tab w) := ht
  clear ht
  go_enter Tryd.func8, Tryd.ntmps8
  go_wp2_with (go_at_call 6; refine (idec_max w T.out).mono ?_; rintro e w' ⟨rfl, hb⟩)
  go_ret2
  exact ⟨by rw [rdV_no HN.out]; rfl, hb⟩
end Go.Proofs.YtneknebckpajaaaDoor
