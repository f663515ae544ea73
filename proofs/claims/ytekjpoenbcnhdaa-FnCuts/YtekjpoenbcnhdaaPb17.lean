/- A record put: what stays, and what PutRecord tells. -/
import Derived.Test.YtekjpoenbcnhdaaPb16
namespace Go.Proofs.Ytekjpoenbcnhdaa
open Go.RowKit
open DM

theorem wbGo_idx (ss : List ByteArray) (k0 : Nat) : ∀ (f : Nat) (cur : List Wr) (q : Nat) (rest : List UInt8), (∀ p ∈ cur, (k0 : Int) ≤ p.1) → ∀ p ∈ wbGo ss k0 f cur q rest, (k0 : Int) ≤ p.1
  | 0, cur, _, _, h => h
  | f + 1, cur, q, rest, h => by
    simp only [wbGo]
    split
    · exact h
    · refine wbGo_idx ss k0 f _ _ _ (fun p hp => ?_)
      rcases List.mem_append.1 hp with hp | hp
      · exact h p hp
      · simp only [List.mem_singleton] at hp
        subst hp
        show (k0 : Int) ≤ ((k0 + q / 64 : Nat) : Int)
        omega
theorem wb_idx (ss : List ByteArray) (k0 q : Nat) (l : List UInt8) : ∀ p ∈ wb ss k0 q l, (k0 : Int) ≤ p.1 := wbGo_idx ss k0 _ [] _ _ (fun p hp => by cases hp)
theorem flush_get : ∀ (ss : List ByteArray) (ps : List Wr) (j : Nat), (∀ p ∈ ps, p.1.toNat ≠ j) → (flush ss ps)[j]? = ss[j]?
  | _, [], _, _ => rfl
  | ss, p :: ps, j, h => by
    rw [flush, flush_get _ ps j (fun r hr => h r (List.mem_cons_of_mem _ hr)), List.getElem?_set_ne (h p (List.mem_cons_self ..))]
theorem okB_flush {ss : List ByteArray} {ps : List Wr} (h : okB ss ps = true) : okB (flS ss ps) (flP ss ps) = true := by
  have hO := okB_iff.1 h
  rw [flS_yes h, flP_yes h, okB_iff]
  refine ⟨by rw [flush_len]; exact hO.1, by rw [flush_len]; exact hO.2.1, Nat.zero_le _, flush_64 ss ps hO.2.2.2.1 (fun p hp => (hO.2.2.2.2 p hp).2.2), fun p hp => by cases hp⟩
theorem flS_length {ss : List ByteArray} {ps : List Wr} (h : okB ss ps = true) : (flS ss ps).length = ss.length := by rw [flS_yes h, flush_len]
theorem rdR_nil (ss : List ByteArray) (j : Nat) (hj : j < ss.length) : rdR ss [] (j : Int) = ss.getD j ByteArray.empty := by
  rw [show rdR ss [] (j : Int) = rd ss [] (j : Int) from if_pos (hasB_iff.2 ⟨by omega, by omega⟩)]
  rfl
theorem cnt_keep {ss : List ByteArray} {a : Int} {q : Nat} {l : List UInt8} (hA : isA a = true) (h97 : ss.length = 97) (h : okB ss (wb ss (af a + 1).toNat q l) = true) : cnt (flS ss (wb ss (af a + 1).toNat q l)) [] a = cnt ss [] a := by
  have hin := af_in hA
  have hin2 := af1_in hA
  obtain ⟨k1, hk1⟩ : ∃ k1, k1 = (af a + 1).toNat := ⟨_, rfl⟩
  rw [← hk1] at h ⊢
  have hk2 : k1 = (af a).toNat + 1 := by omega
  clear hk1 hin2
  unfold cnt
  rw [if_pos hA, if_pos hA, ← hin.1, rdR_nil _ _ (by rw [flS_length h]; omega), rdR_nil _ _ (by omega), flS_yes h, List.getD_eq_getElem?_getD, List.getD_eq_getElem?_getD, flush_get]
  intro p hp
  have := wb_idx ss k1 _ _ p hp
  omega

def putS (ss : List ByteArray) (ps : List Wr) (a : Int) (t : ByteArray) : List ByteArray := flS (flS ss (recW ss ps a t)) (wb (flS ss (recW ss ps a t)) (af a).toNat 0 [UInt8.ofNat ((cnt ss ps a).toNat + 1)])
def prB (ss : List ByteArray) (ps : List Wr) (a : Int) (t : ByteArray) : Bool := logB ss ps && recB ss ps a t
def prS (ss : List ByteArray) (ps : List Wr) (a : Int) (t : ByteArray) : List ByteArray := if prB ss ps a t = true then putS ss ps a t else ss
theorem prS_yes {ss : List ByteArray} {ps : List Wr} {a : Int} {t : ByteArray} (h1 : logB ss ps = true) (h2 : recB ss ps a t = true) : prB ss ps a t = true ∧ prS ss ps a t = putS ss ps a t := by
  have : prB ss ps a t = true := by simp [prB, h1, h2]
  exact ⟨this, if_pos this⟩
theorem prS_no1 {ss : List ByteArray} {ps : List Wr} {a : Int} {t : ByteArray} (h1 : logB ss ps = false) : prB ss ps a t = false ∧ prS ss ps a t = ss := by
  have : prB ss ps a t = false := by simp [prB, h1]
  exact ⟨this, if_neg (by simp [this])⟩
theorem logB_parts {ss : List ByteArray} {ps : List Wr} (h : logB ss ps = true) : okB ss ps = true ∧ ss.length = 97 ∧ ps = [] := by
  simp only [logB, Bool.and_eq_true, decide_eq_true_eq] at h
  exact ⟨h.1, h.2.1, List.length_eq_zero_iff.1 h.2.2.1⟩
theorem recB_parts {ss : List ByteArray} {ps : List Wr} {a : Int} {t : ByteArray} (h : recB ss ps a t = true) : oB (raO ss ps a) = true ∧ 0 < t.size ∧ cnt ss ps a < 255 ∧ (recL t).length + oE (raO ss ps a) ≤ 3008 ∧ isA a = true := by
  simp only [recB, Bool.and_eq_true, decide_eq_true_eq] at h
  refine ⟨h.1, h.2.1, h.2.2.1, h.2.2.2, ?_⟩
  cases hA : isA a with
  | true => rfl
  | false =>
    have h1 := h.1
    rw [raO_na hA] at h1
    cases h1
end Go.Proofs.Ytekjpoenbcnhdaa
