/- What impl.plainLine, spec.PartsOf and impl.PartsOf return. -/
import Derived.Test.YtneknebckpajaaaP2
import Derived.Test.YtneknebckpajaaaS1
namespace Go.Proofs.Ytneknebckpajaaa
open Go.RowKit

/-- the part that ends at i -/
def pt (s : ByteArray) (fr i : Nat) : List ByteArray := if fr < i then [s.extract fr i] else []

/-- the parts from the place i on, the one under way beginning at fr -/
def ptsF (s : ByteArray) : Nat → Nat → Nat → List ByteArray
  | 0, _, _ => []
  | f + 1, i, fr => if h : i < s.size then (if (s[i]'h).toNat = 32 then pt s fr i ++ ptsF s f (i + 1) (i + 1) else ptsF s f (i + 1) fr) else pt s fr i ++ ptsF s f (i + 1) (i + 1)

def pts (s : ByteArray) : List ByteArray := ptsF s (s.size + 1) 0 0

theorem pts_go {s : ByteArray} {i fr : Nat} {pre : List ByteArray} (hi : i < s.size) (hx : (s[i]'hi).toNat ≠ 32) (h : pre ++ ptsF s (s.size + 1 - i) i fr = pts s) :
    pre ++ ptsF s (s.size + 1 - (i + 1)) (i + 1) fr = pts s := by
  rw [show s.size + 1 - i = (s.size + 1 - (i + 1)) + 1 by omega, ptsF, dif_pos hi, if_neg hx] at h
  exact h
theorem pts_cut {s : ByteArray} {i fr : Nat} {pre : List ByteArray} (hi : i < s.size) (hx : (s[i]'hi).toNat = 32) (h : pre ++ ptsF s (s.size + 1 - i) i fr = pts s) :
    (pre ++ pt s fr i) ++ ptsF s (s.size + 1 - (i + 1)) (i + 1) (i + 1) = pts s := by
  rw [show s.size + 1 - i = (s.size + 1 - (i + 1)) + 1 by omega, ptsF, dif_pos hi, if_pos hx] at h
  rw [List.append_assoc]; exact h
theorem pts_end {s : ByteArray} {i fr : Nat} {pre : List ByteArray} (hi : ¬ i < s.size) (hj : i ≤ s.size) (h : pre ++ ptsF s (s.size + 1 - i) i fr = pts s) :
    (pre ++ pt s fr i) ++ ptsF s (s.size + 1 - (i + 1)) (i + 1) (i + 1) = pts s := by
  rw [show s.size + 1 - i = (s.size + 1 - (i + 1)) + 1 by omega, ptsF, dif_neg hi] at h
  rw [List.append_assoc]; exact h
theorem pts_out {s : ByteArray} {i fr : Nat} {pre : List ByteArray} (hi : ¬ i ≤ s.size) (h : pre ++ ptsF s (s.size + 1 - i) i fr = pts s) : pre = pts s := by
  rw [show s.size + 1 - i = 0 by omega, ptsF, List.append_nil] at h
  exact h

theorem pt_yes {s : ByteArray} {fr i : Nat} (h : fr < i) : pt s fr i = [s.extract fr i] := if_pos h
theorem pt_no {s : ByteArray} {fr i : Nat} (h : ¬ fr < i) : pt s fr i = [] := if_neg h

/-- every byte is in 32 .. 126 -/
def plainB (l : List UInt8) : Bool := l.all fun b => decide (32 ≤ b.toNat ∧ b.toNat ≤ 126)
theorem plain_more (s : ByteArray) (k : Nat) (h : k < s.size) (hp : plainB (s.data.toList.take k) = true) (h1 : 32 ≤ s[k].toNat) (h2 : s[k].toNat ≤ 126) : plainB (s.data.toList.take (k + 1)) = true := by
  rw [take_snoc s k h]
  simp only [plainB, List.all_append, Bool.and_eq_true] at *
  exact ⟨hp, by simp [h1, h2]⟩
theorem plain_fall (s : ByteArray) (k : Nat) (h : k < s.size) (hv : ¬ (32 ≤ s[k].toNat ∧ s[k].toNat ≤ 126)) : plainB s.data.toList = false := by
  cases hc : plainB s.data.toList with
  | false => rfl
  | true =>
    exfalso
    simp only [plainB, List.all_eq_true] at hc
    have := hc s[k] (by rw [show s[k] = s.data[k] from rfl]; simp)
    simp at this
    exact hv this

set_option maxHeartbeats 400000 in
theorem plain33_long (s : ByteArray) (h : 600 < s.size) (w : World) :
    Calls Try.prog 33 #[.string s] w fun e w' => e = .returned (.bool false) ∧ w = w' := by
  go_enter Try.func33, Try.ntmps33
  go_wp2
  go_ret
  exact ⟨rfl, rfl⟩

set_option maxRecDepth 100000 in
set_option maxHeartbeats 1000000 in
theorem plain33 (s : ByteArray) (h : s.size ≤ 600) (w : World) :
    Calls Try.prog 33 #[.string s] w fun e w' => e = .returned (.bool (plainB s.data.toList)) ∧ w = w' := by
  have hd0 : decide ((600 : Int) < (s.size : Int)) = false := by simp; omega
  go_enter Try.func33, Try.ntmps33
  go_wp2
  go_loop [3] (fun t => ∃ k : Nat, k ≤ s.size ∧ t = .int .i64 k ∧ Hid (plainB (s.data.toList.take k) = true)) (fun t => s.size - (intOf t).toNat)
  case atStart => exact ⟨0, Nat.zero_le _, rfl, rfl⟩
  case round =>
    obtain ⟨k, hk, rfl, HP⟩ := hrel
    by_cases hlt : k < s.size
    · have hlt' : (k : Int) < (s.size : Int) := by omega
      have h255 : (s[k].toNat : Int) ≤ 255 := by have := s[k].toNat_lt; omega
      by_cases h1 : s[k].toNat < 32
      · have h1' : (s[k].toNat : Int) < 32 := by omega
        have HN : Hid (plainB s.data.toList = false) := plain_fall s k hlt (by omega)
        go_wp2
        go_ret
        exact ⟨by rw [HN.out]; rfl, rfl⟩
      by_cases h2 : 126 < s[k].toNat
      · have h2' : (126 : Int) < (s[k].toNat : Int) := by omega
        have HN : Hid (plainB s.data.toList = false) := plain_fall s k hlt (by omega)
        go_wp2
        go_ret
        exact ⟨by rw [HN.out]; rfl, rfl⟩
      · have h1' : (32 : Int) ≤ (s[k].toNat : Int) := by omega
        have h2' : (s[k].toNat : Int) ≤ 126 := by omega
        have HP2 : Hid (plainB (s.data.toList.take (k + 1)) = true) := plain_more s k hlt HP.out (by omega) (by omega)
        go_wp2
        go_round
        case rel => exact ⟨k + 1, by omega, by go_num, HP2⟩
        case measure => simp [intOf]; omega
    · have hd : ¬ (k : Int) < (s.size : Int) := by omega
      have HT : Hid (plainB s.data.toList = true) := by
        have := HP.out
        rw [List.take_of_length_le (by simp only [Array.length_toList]; show s.size ≤ k; omega)] at this
        exact this
      go_wp2
      go_ret
      exact ⟨by rw [HT.out]; rfl, rfl⟩
end Go.Proofs.Ytneknebckpajaaa
