/- All chosen, whole: as if it was flushed. -/
import Derived.Test.YtnfkecefkkdedaaH3
import Derived.Test.YtnfkecefkkdedaaF4
namespace Go.Proofs.Ytnfkecefkkdedaa
open Go.RowKit
open DM

theorem lst_nil : ∀ n, lst [] n = -1
  | 0 => rfl
  | n + 1 => by rw [lst_no (odd_out (by simp)), lst_nil n]
theorem odd_rep {n k : Nat} (h : k < n) : oddAt (List.replicate n 1) k = true := by simp [oddAt, h]
theorem lst_rep (n : Nat) : ∀ k, k ≤ n → lst (List.replicate n 1) k = (k : Int) - 1
  | 0, _ => rfl
  | k + 1, h => by rw [lst_yes (odd_rep h)]; omega
theorem chs_rep (ps : List Wr) : ∀ k, k ≤ ps.length → chs ps (List.replicate ps.length 1) k = ps.take k
  | 0, _ => by simp [chs]
  | k + 1, h => by
    have hk : k < ps.length := h
    rw [chs_yes hk (odd_rep hk), chs_rep ps k (by omega), List.take_succ_eq_append_getElem hk]
theorem whole64 (t u : ByteArray) (h : t.size = 64) (_hu : u.size ≤ 64) : t.extract 0 64 ++ u.extract 64 64 = t := by
  have e1 : t.extract 0 64 = t := by rw [← h]; exact ByteArray.extract_zero_size
  have e2 : u.extract 64 64 = ByteArray.empty := by
    apply ByteArray.ext
    simp
  rw [e1, e2, ByteArray.append_empty]
theorem cr_all {ss : List ByteArray} {cur : List Wr} (hok : okB ss cur = true) : crS ss cur (List.replicate cur.length 1) 64 = flush ss cur := by
  have hO := okB_iff.1 hok
  by_cases h0 : cur.length = 0
  · obtain rfl : cur = [] := List.length_eq_zero_iff.1 h0
    rw [cr_none hok rfl]
    rfl
  · have hl : cur.length - 1 < cur.length := by omega
    have hw := hO.2.2.2.2 _ (List.getElem_mem hl)
    obtain ⟨m, hm⟩ := Int.eq_ofNat_of_zero_le hw.1
    have h := cr_last (ss := ss) (ps := cur) (ks := List.replicate cur.length 1) (t := 64) (l := cur.length - 1) (m := m) (nt := 64) hok (by rw [lst_rep _ _ (Nat.le_refl _)]; omega) hl hm (by decide) (by omega)
    rw [← h, chs_rep cur _ (by omega)]
    have hml : m < (flush ss (cur.take (cur.length - 1))).length := by rw [flush_len]; have := hw.2.1; omega
    have hu : ((flush ss (cur.take (cur.length - 1))).getD m ByteArray.empty).size ≤ 64 := by
      have h64 := flush_64 ss (cur.take (cur.length - 1)) hO.2.2.2.1 (fun p hp => (hO.2.2.2.2 p (List.mem_of_mem_take hp)).2.2)
      rw [List.getD_eq_getElem?_getD, List.getElem?_eq_getElem hml]
      exact Nat.le_of_eq (h64 _ (List.getElem_mem hml))
    rw [whole64 _ _ hw.2.2 hu, ← flush_succ ss cur (cur.length - 1) m hl hm, Nat.sub_add_cancel (by omega), List.take_length]
end Go.Proofs.Ytnfkecefkkdedaa
