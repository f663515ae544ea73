/- What laws.markText, the marks of rows and their test do. -/
import Derived.Test.YtjieojfcmigcdaaH1
import Derived.Test.YtjieojfcmigcdaaKyD5
import Derived.Lib.ItoaNum
import Derived.Lib.ItoaLen
namespace Go.Proofs.Ytjieojfcmigcdaa
open Go.RowKit
open KM
attribute [local go_sem ↓] Go.wp_at_zero Go.wp_at_succ

theorem toNat_ofNat (x : Nat) (h : x < 256) : ((UInt8.ofNat x).toNat : Int) = (x : Int) := by
  simp only [UInt8.toNat_ofNat']; omega
/-- the decimal figures of m, none of 0 -/
def dd (m : Nat) : List UInt8 := if m = 0 then [] else Go.Lib.decDigits m
theorem dd_step (m : Nat) (h : 0 < m) : dd m = dd (m / 10) ++ [UInt8.ofNat (48 + m % 10)] := by
  unfold dd
  rw [if_neg (by omega)]
  by_cases hs : m < 10
  · rw [if_pos (by omega), Go.Lib.decDigits_one hs, show m % 10 = m by omega]; rfl
  · rw [if_neg (by omega), Go.Lib.decDigits, dif_neg hs]
/-- the mark of k -/
def mkB (k : Nat) : ByteArray := ⟨#[109]⟩ ++ ⟨(dd k).toArray⟩
theorem dd_len (m : Nat) (h : m < 18446744073709551616) : (dd m).length ≤ 20 := by
  unfold dd
  split
  · simp
  · rw [Lib.decDigits_length]; exact Lib.nDigits_le20 m h
theorem app_data (b : UInt8) (s : ByteArray) : ((⟨#[b]⟩ : ByteArray) ++ s).data.toList = b :: s.data.toList := by simp
theorem dd_round {m N : Nat} {s : ByteArray} (hm : 0 < m) (h : dd m ++ s.data.toList = dd N) : dd (m / 10) ++ ((⟨#[UInt8.ofNat (48 + m % 10)]⟩ : ByteArray) ++ s).data.toList = dd N := by
  rw [app_data, ← h, dd_step m hm]; simp
theorem round_size {m N : Nat} {s : ByteArray} (hN : N < 18446744073709551616) (h : dd m ++ s.data.toList = dd N) : s.size ≤ 20 := by
  have h1 := dd_len N hN
  have h2 := congrArg List.length h
  simp at h2
  omega
theorem conv1 (wr : World) (b : UInt8) (x : Int) (hx : x = (b.toNat : Int)) : (convert 37 9 (.slice (some ⟨wr.heap.size, 0, none⟩) 1 1)).run Try.prog (wr.alloc (.cells #[.int .u8 x] 5)) = .ok (.string ⟨#[b]⟩) (wr.alloc (.cells #[.int .u8 x] 5)) := by
  subst hx
  have h : Own (wr.alloc (.cells #[.int .u8 (b.toNat : Int)] 5)) wr.heap.size (.slice (some ⟨wr.heap.size, 0, none⟩) 1 1) [b] :=
    World.ownsRow_lit (size := 1) wr #[.int .u8 (b.toNat : Int)] 1 (Nat.le_refl _) (by unfold maxLen; omega) rfl
  exact h.str
theorem ret_str {a b : ByteArray} (h : a.data.toList = b.data.toList) : Ending.returned (.string a) = .returned (.string b) := by
  have : a = b := by
    apply ByteArray.ext
    exact Array.toList_inj.1 h
  rw [this]
theorem own_form {w : World} {base e size n c : Nat} {a : Option Addr} {xs : List Value} (h : w.ownsRow base e size (.slice a n c) n xs) (hn : 0 < n) : ∃ g, a = some ⟨g, 0, none⟩ ∧ base ≤ g ∧ g < w.heap.size := by
  obtain ⟨g, cap, hv, h1, h2⟩ := h.form hn
  cases hv
  exact ⟨g, rfl, h1, h2⟩
theorem gown_ext {α : Type} {E : Enc α} {e : TypeId} {w : World} {base n c : Nat} {a : Option Addr} {xs : List Value} {ls : List α} (hn : ls.length = n) (h : w.ownsRow base e E.size (.slice a n c) n xs) (hx : ∀ j, j < n * E.size → xs[j]? = (E.cells ls)[j]?) : GOwn E e w base (.slice a n c) ls := by
  have e' : xs = E.cells ls := by
    apply List.ext_getElem?
    intro j
    by_cases hj : j < n * E.size
    · exact hx j hj
    · rw [List.getElem?_eq_none (by have := h.1; omega), List.getElem?_eq_none (by rw [E.cells_len, hn]; omega)]
  subst hn
  rw [e'] at h
  exact h
theorem bne_text (t : ByteArray) : (!(t.toList == t.toList)) = false := by simp

/-- the marks of a row -/
def mkP (k n : Nat) : List Rg := (List.range n).map fun j => (mkB (k + 2 * j), mkB ((k + 2 * j) + 1))
theorem mkP_len (k n : Nat) : (mkP k n).length = n := by simp [mkP]
theorem mkP_at (k n j : Nat) (h : j < n) : (mkP k n)[j]'(by rw [mkP_len]; exact h) = (mkB (k + 2 * j), mkB ((k + 2 * j) + 1)) := by simp [mkP]

end Go.Proofs.Ytjieojfcmigcdaa
