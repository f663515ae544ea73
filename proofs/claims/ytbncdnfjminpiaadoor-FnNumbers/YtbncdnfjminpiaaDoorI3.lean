/- What impl.Decimal and ReadDecimal return. -/
import Derived.Test.YtbncdnfjminpiaaDoorI2
import Derived.Test.YtbncdnfjminpiaaDoorShelf
import Derived.Lib.ItoaLen
import Derived.Lib.ItoaMem
import Derived.Lib.AppendIntMem
import Derived.OpenShut
namespace Go.Proofs.YtbncdnfjminpiaaDoor
open Go.RowKit

def Tab (w : World) : Prop := Lib.TabIs Tryd.prog w "internal/strconv.uint64pow10" .u64 Lib.pow10Tab

theorem itoa10 (n : Int) (h0 : -9223372036854775808 ≤ n) (h1 : n ≤ 9223372036854775807) (w : World) (ht : Tab w) : Calls Tryd.prog 18 #[.int .i64 n] w fun e w' => e = .returned (.string ⟨(Lib.itoa n).toArray⟩) ∧ Below w.heap.size w w' :=
  (Tryd.strconv_Itoa n h0 h1 w ht).mono fun e w' ⟨he, k, os, hw⟩ => ⟨he, by rw [hw]; exact Lib.below_grow _ _ (Nat.le_refl _) _ _⟩

set_option maxHeartbeats 400000 in
/-- impl.Decimal at every int -/
theorem idec (n : Int) (h0 : -9223372036854775808 ≤ n) (h1 : n ≤ 9223372036854775807) (w : World) (ht : Tab w) : Calls Tryd.prog 9 #[.int .i64 n] w fun e w' => e = .returned (.string ⟨(Lib.itoa n).toArray⟩) ∧ Below w.heap.size w w' := by
  have T : Hid (Tab w) := ht
  clear ht
  go_enter Tryd.func9, Tryd.ntmps9
  go_wp2_with (go_at_call 18; refine (itoa10 n h0 h1 w T.out).mono ?_; rintro e w' ⟨rfl, hb⟩)
  go_ret
  exact ⟨rfl, hb⟩

theorem gPow : Tryd.prog.globalNamed "internal/strconv.uint64pow10" = some 0 := by kernel_rfl

theorem Tab.below {w w' : World} (h : Tab w) (hb : Below w.heap.size w w') : Tab w' := by
  have hlt : 0 < w.heap.size := by
    have h1 : w.var? Tryd.prog "internal/strconv.uint64pow10" = some (Lib.pow10Tab.map fun z => Value.int .u64 z).toArray := h
    unfold World.var? at h1
    simp only [gPow, Option.bind_some] at h1
    by_cases hz : 0 < w.heap.size
    · exact hz
    · rw [Array.getElem?_eq_none (by omega)] at h1
      simp at h1
  exact var?_below hb gPow hlt h

/-- ReadDecimal: may the text be read? -/
def rdB (l : List UInt8) : Bool := match l with
  | [] => false
  | c :: p => WM.figsB 10 (c :: p) && decide ((c :: p).length ≤ 10) && decide (WM.decV (c :: p) ≤ 1000000000) && !(decide (WM.fv c = 0) && decide (0 < p.length))

def rdV (l : List UInt8) : Value := if rdB l = true then .tuple #[.int .i64 (WM.decV l : Int), .bool true] else .tuple #[.int .i64 0, .bool false]

theorem rdV_yes {l : List UInt8} (h : rdB l = true) : rdV l = .tuple #[.int .i64 (WM.decV l : Int), .bool true] := if_pos h

theorem rdV_no {l : List UInt8} (h : rdB l = false) : rdV l = .tuple #[.int .i64 0, .bool false] := if_neg (by simp [h])

theorem rdB_long {l : List UInt8} (h : 10 < l.length) : rdB l = false := by
  cases l with
  | nil => rfl
  | cons c p =>
    have : decide ((c :: p).length ≤ 10) = false := by simp only [decide_eq_false_iff_not]; omega
    simp only [rdB, this, Bool.and_false, Bool.false_and]

theorem rdB_figs {l : List UInt8} (h : WM.figsB 10 l = false) : rdB l = false := by
  cases l with
  | nil => rfl
  | cons c p => simp only [rdB, h, Bool.false_and]

theorem rdB_big {l : List UInt8} (h : 1000000000 < WM.decV l) : rdB l = false := by
  cases l with
  | nil => rfl
  | cons c p =>
    have : decide (WM.decV (c :: p) ≤ 1000000000) = false := by simp only [decide_eq_false_iff_not]; omega
    simp only [rdB, this, Bool.and_false, Bool.false_and]

theorem rdB_eq {l : List UInt8} (hl : l.length ≤ 10) (hf : WM.figsB 10 l = true) (hv : WM.decV l ≤ 1000000000) : rdB l = decide (Lib.decDigits (WM.decV l) = l) := by
  cases l with
  | nil =>
    have : Lib.decDigits (WM.decV []) ≠ [] := by
      intro e
      have := congrArg List.length e
      rw [Lib.decDigits_length] at this
      have := Lib.nDigits_pos (WM.decV [])
      simp at *
      omega
    simp [rdB, this]
  | cons c p =>
    have hi := WM.dd_iff (c :: p).reverse c p (by simp) hf
    have h1 : decide ((c :: p).length ≤ 10) = true := by simpa using hl
    have h2 : decide (WM.decV (c :: p) ≤ 1000000000) = true := by simpa using hv
    simp only [rdB, hf, h1, h2, Bool.true_and]
    rw [Bool.eq_iff_iff, decide_eq_true_iff, hi]
    simp only [Bool.not_eq_true', Bool.and_eq_false_iff, decide_eq_false_iff_not]
    constructor <;> intro h <;> omega

theorem rdB_yes {c : UInt8} {p : List UInt8} (hl : (c :: p).length ≤ 10) (hf : WM.figsB 10 (c :: p) = true) (hv : WM.decV (c :: p) ≤ 1000000000) (hc : ¬ (WM.fv c = 0 ∧ 0 < p.length)) : rdB (c :: p) = true := by
  have h1 : decide ((c :: p).length ≤ 10) = true := by simpa using hl
  have h2 : decide (WM.decV (c :: p) ≤ 1000000000) = true := by simpa using hv
  simp only [rdB, hf, h1, h2, Bool.true_and]
  simp only [Bool.not_eq_true', Bool.and_eq_false_iff, decide_eq_false_iff_not]
  omega

theorem rdB_zero {c : UInt8} {p : List UInt8} (hc : WM.fv c = 0) (hp : 0 < p.length) : rdB (c :: p) = false := by
  simp [rdB, hc, hp]

theorem dec_more (s : ByteArray) (k : Nat) (h : k < s.size) : WM.decV (s.data.toList.take (k + 1)) = WM.decV (s.data.toList.take k) * 10 + WM.fv s[k] := by
  rw [take_snoc s k h, WM.decV_snoc]

theorem dec_bd (s : ByteArray) (k : Nat) (hk : k ≤ 10) (h : WM.figsB 10 (s.data.toList.take k) = true) : WM.decV (s.data.toList.take k) ≤ 10000000000 := by
  have h1 := WM.decV_lt _ h
  have h2 : (s.data.toList.take k).length ≤ 10 := by rw [List.length_take]; omega
  have h3 : 10 ^ (s.data.toList.take k).length ≤ 10 ^ 10 := Nat.pow_le_pow_right (by omega) h2
  omega

theorem itoa_max : Lib.itoa 1000000000 = [49, 48, 48, 48, 48, 48, 48, 48, 48, 48] := by
  have h := Lib.itoa_nonneg 1000000000
  rw [show ((1000000000 : Nat) : Int) = 1000000000 from rfl] at h
  rw [h]
  have st : ∀ u, ¬ u < 10 → Lib.decDigits u = Lib.decDigits (u / 10) ++ [UInt8.ofNat (48 + u % 10)] := fun u hu => by rw [Lib.decDigits, dif_neg hu]
  rw [st _ (by omega), st _ (by omega), st _ (by omega), st _ (by omega), st _ (by omega), st _ (by omega), st _ (by omega), st _ (by omega), st _ (by omega), Lib.decDigits_one (by omega)]
  rfl

set_option maxHeartbeats 400000 in
theorem idec_max (w : World) (ht : Tab w) : Calls Tryd.prog 9 #[.int .i64 1000000000] w fun e w' => e = .returned (.string ⟨#[49, 48, 48, 48, 48, 48, 48, 48, 48, 48]⟩) ∧ Below w.heap.size w w' :=
  (idec 1000000000 (by omega) (by omega) w ht).mono fun e w' ⟨he, hb⟩ => ⟨by rw [he, itoa_max], hb⟩

set_option maxHeartbeats 400000 in
theorem ird_empty (s : ByteArray) (h : s.size = 0) (w : World) :
    Calls Tryd.prog 8 #[.string s] w fun e w' => e = .returned (rdV s.data.toList) ∧ Below w.heap.size w w' := by
  have hl : s.data.toList = [] := List.length_eq_zero_iff.1 (by rw [Array.length_toList]; exact h)
  have HN : Hid (rdB s.data.toList = false) := by show _ = _; rw [hl]; rfl
  have he : s.toList.isEmpty = true := by rw [ByteArray.toList_eq, hl]; rfl
  clear hl h
  go_enter Tryd.func8, Tryd.ntmps8
  go_wp2
  go_ret2
  exact ⟨by rw [rdV_no HN.out]; rfl, Below.refl _ _⟩

set_option maxRecDepth 100000 in
set_option maxHeartbeats 1000000 in
theorem ird_long (s : ByteArray) (h : 10 < s.size) (hs : s.size ≤ 1048576) (w : World) (ht : Tab w) :
    Calls Tryd.prog 8 #[.string s] w fun e w' => e = .returned (rdV s.data.toList) ∧ Below w.heap.size w w' := by
  have HN : Hid (rdB s.data.toList = false) := rdB_long (by rw [Array.length_toList]; exact h)
  have he : s.toList.isEmpty = false := by
    rw [ByteArray.toList_eq, List.isEmpty_eq_false_iff]
    intro e
    have := congrArg List.length e
    rw [Array.length_toList] at this
    have h2 : s.size = 0 := this
    omega
  have T : Hid (Tab w) := ht
  clear ht
  go_enter Tryd.func8, Tryd.ntmps8
  go_wp2_with (go_at_call 9; refine (idec_max w T.out).mono ?_; rintro e w' ⟨rfl, hb⟩)
  go_ret2
  exact ⟨by rw [rdV_no HN.out]; rfl, hb⟩

theorem cons_at (s : ByteArray) (h : 0 < s.size) : s.data.toList = s[0] :: s.data.toList.drop 1 := by
  have := List.drop_eq_getElem_cons (l := s.data.toList) (i := 0) (by simpa using h)
  rw [List.drop_zero] at this
  exact this

theorem drop_len (s : ByteArray) : (s.data.toList.drop 1).length = s.size - 1 := by
  rw [List.length_drop, Array.length_toList]; rfl

theorem fv_zero {b : UInt8} : WM.fv b = 0 ↔ b.toNat = 48 := by
  unfold WM.fv
  constructor
  · intro h
    split at h
    · omega
    · split at h <;> omega
  · intro h; rw [if_pos (by omega)]; omega

theorem not_empty (s : ByteArray) (h : 0 < s.size) : s.toList.isEmpty = false := by
  rw [ByteArray.toList_eq, List.isEmpty_eq_false_iff]
  intro e
  have := congrArg List.length e
  rw [Array.length_toList] at this
  have h2 : s.size = 0 := this
  omega

set_option maxRecDepth 100000 in
set_option maxHeartbeats 1000000 in
theorem ird_zero (s : ByteArray) (h1 : 1 < s.size) (hs : s.size ≤ 10) (hz : (s[0]'(by omega)).toNat = 48) (w : World) (ht : Tab w) :
    Calls Tryd.prog 8 #[.string s] w fun e w' => e = .returned (rdV s.data.toList) ∧ Below w.heap.size w w' := by
  have HN : Hid (rdB s.data.toList = false) := by
    show _ = _
    rw [cons_at s (by omega)]
    exact rdB_zero (fv_zero.2 hz) (by rw [drop_len]; omega)
  have he := not_empty s (by omega)
  have hz1 : (48 : Int) ≤ ((s[0]'(by omega)).toNat : Int) := by omega
  have hz2 : ((s[0]'(by omega)).toNat : Int) ≤ 48 := by omega
  have T : Hid (Tab w) := ht
  clear ht hz
  go_enter Tryd.func8, Tryd.ntmps8
  go_wp2_with (go_at_call 9; refine (idec_max w T.out).mono ?_; rintro e w' ⟨rfl, hb⟩)
  go_ret2
  exact ⟨by rw [rdV_no HN.out]; rfl, hb⟩

/-- the first byte is no nought, or it stands alone -/
def Lead (s : ByteArray) (h : 0 < s.size) : Prop := ¬ ((s[0]'h).toNat = 48 ∧ 1 < s.size)

theorem lead_cases {s : ByteArray} {h : 0 < s.size} (hl : Lead s h) : (((s[0]'h).toNat : Int) == 48) = false ∨ ((((s[0]'h).toNat : Int) == 48) = true ∧ decide ((1 : Int) < (s.size : Int)) = false) := by
  unfold Lead at hl
  by_cases hq : (s[0]'h).toNat = 48
  · right
    exact ⟨by rw [beq_iff_eq]; omega, by rw [decide_eq_false_iff_not]; omega⟩
  · left
    rw [beq_eq_false_iff_ne]; omega

theorem rdB_lead {s : ByteArray} {h : 0 < s.size} (hl : Lead s h) (hs : s.size ≤ 10) (hf : WM.figsB 10 s.data.toList = true) (hv : WM.decV s.data.toList ≤ 1000000000) : rdB s.data.toList = true := by
  have e := cons_at s h
  rw [e] at hf hv ⊢
  refine rdB_yes ?_ hf hv ?_
  · simp only [List.length_cons, drop_len]; omega
  · rw [drop_len, fv_zero]; unfold Lead at hl; omega

set_option maxRecDepth 100000 in
set_option maxHeartbeats 1000000 in
theorem ird_bad (s : ByteArray) (h0 : 0 < s.size) (hs : s.size ≤ 10) (hl : Lead s h0) (hf : WM.figsB 10 s.data.toList = false) (w : World) (ht : Tab w) :
    Calls Tryd.prog 8 #[.string s] w fun e w' => e = .returned (rdV s.data.toList) ∧ Below w.heap.size w w' := by
  have HN : Hid (rdB s.data.toList = false) := rdB_figs hf
  have HF : Hid (WM.figsB 10 s.data.toList = false) := hf
  have he := not_empty s h0
  have T : Hid (Tab w) := ht
  have hc := lead_cases hl
  clear ht hf hl
  have hd10 : decide ((10 : Int) < (s.size : Int)) = false := by simp; omega
  rcases hc with hc | ⟨hc1, hc2⟩
  all_goals
    go_enter Tryd.func8, Tryd.ntmps8
    go_wp2_with (first | (go_at_call 9; refine (idec_max w T.out).mono ?_; rintro e w1 ⟨rfl, hb1⟩) | (go_at_call 17; refine (fv32_no s 10 (by omega) (by omega) HF.out _).mono ?_; rintro e w2 ⟨rfl, hb2⟩))
    go_ret2
    exact ⟨by rw [rdV_no HN.out]; rfl, hb1.trans (hb2.mono hb1.size)⟩

set_option maxRecDepth 100000 in
set_option maxHeartbeats 2000000 in
theorem ird_yes (s : ByteArray) (h0 : 0 < s.size) (hs : s.size ≤ 10) (hl : Lead s h0) (hf : WM.figsB 10 s.data.toList = true) (w : World) (ht : Tab w) :
    Calls Tryd.prog 8 #[.string s] w fun e w' => e = .returned (rdV s.data.toList) ∧ Below w.heap.size w w' := by
  have HL : Hid (Lead s h0) := hl
  have HF : Hid (WM.figsB 10 s.data.toList = true) := hf
  have he := not_empty s h0
  have T : Hid (Tab w) := ht
  have hc := lead_cases hl
  clear ht hf hl
  have hd10 : decide ((10 : Int) < (s.size : Int)) = false := by simp; omega
  rcases hc with hc | ⟨hc1, hc2⟩
  all_goals
    go_enter Tryd.func8, Tryd.ntmps8
    go_wp2_with (first | (go_at_call 9; refine (idec_max w T.out).mono ?_; rintro e w1 ⟨rfl, hb1⟩) | (go_at_call 17; refine (fv32_yes s 10 (by omega) (by omega) h0 HF.out _).mono ?_; rintro e w2 ⟨hb2, g, cap, rfl, hg, hcell⟩; have HC : Hid _ := hcell; clear hcell))
    have hbb : Below w.heap.size w w2 := hb1.trans (hb2.mono hb1.size)
    go_loop [6, 35] (fun tn ti => ∃ k N : Nat, k ≤ s.size ∧ ti = .int .i64 (k : Int) ∧ tn = .int .i64 (N : Int) ∧ Hid (N = WM.decV (s.data.toList.take k)) ∧ N ≤ 10000000000) (fun _ ti => s.size - (intOf ti).toNat)
    case atStart => exact ⟨0, 0, Nat.zero_le _, rfl, rfl, rfl, by omega⟩
    case round =>
      obtain ⟨k, N, hk, rfl, rfl, HN, hNb⟩ := hrel
      by_cases hlt : k < s.size
      · have hlt' : (k : Int) < (s.size : Int) := by omega
        have hv := figs_take_at s 10 k hlt HF.out
        have c1 : w2.cell? ⟨g, k, none⟩ = some (.int .u8 (WM.fv s[k] : Int)) := HC.out k hlt
        have HN2 : Hid (N * 10 + WM.fv s[k] = WM.decV (s.data.toList.take (k + 1))) := by show _ = _; rw [dec_more s k hlt, ← HN.out]
        have hNb2 : N * 10 + WM.fv s[k] ≤ 10000000000 := by rw [HN2.out]; exact dec_bd s (k + 1) (by omega) (WM.figsB_take HF.out _)
        go_wp2
        go_round
        case rel => exact ⟨k + 1, N * 10 + WM.fv s[k], by omega, by go_num, by go_num, HN2, hNb2⟩
        case measure => simp [intOf]; omega
      · have hd : decide ((k : Int) < (s.size : Int)) = false := by simp; omega
        have HT : Hid (s.data.toList.take k = s.data.toList) := List.take_of_length_le (by simp only [Array.length_toList]; show s.size ≤ k; omega)
        have HN1 : Hid (N = WM.decV s.data.toList) := by show _ = _; rw [HN.out, HT.out]
        by_cases hbig : 1000000000 < N
        · have hr : Hid (rdB s.data.toList = false) := rdB_big (by rw [← HN1.out]; exact hbig)
          go_wp2
          go_ret2
          exact ⟨by rw [rdV_no hr.out]; rfl, hbb⟩
        · have hr : Hid (rdB s.data.toList = true) := rdB_lead HL.out hs HF.out (by rw [← HN1.out]; omega)
          go_wp2
          go_ret2
          exact ⟨by rw [rdV_yes hr.out, ← HN1.out]; rfl, hbb⟩

theorem ird (s : ByteArray) (hs : s.size ≤ 1048576) (w : World) (ht : Tab w) :
    Calls Tryd.prog 8 #[.string s] w fun e w' => e = .returned (rdV s.data.toList) ∧ Below w.heap.size w w' := by
  by_cases h0 : s.size = 0
  · exact ird_empty s h0 w
  by_cases hl : 10 < s.size
  · exact ird_long s hl hs w ht
  by_cases hz : (s[0]'(by omega)).toNat = 48 ∧ 1 < s.size
  · exact ird_zero s hz.2 (by omega) hz.1 w ht
  · cases hf : WM.figsB 10 s.data.toList with
    | false => exact ird_bad s (by omega) (by omega) hz hf w ht
    | true => exact ird_yes s (by omega) (by omega) hz hf w ht

end Go.Proofs.YtbncdnfjminpiaaDoor
