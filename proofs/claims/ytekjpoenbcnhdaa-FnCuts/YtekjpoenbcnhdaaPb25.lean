/- What impl.recordFrom returns. -/
import Derived.Test.YtekjpoenbcnhdaaPb24
namespace Go.Proofs.Ytekjpoenbcnhdaa
open Go.RowKit
open DM
attribute [local go_sem ↓] Go.wp_at_zero Go.wp_at_succ

theorem rec_cells (at' : Nat) (V t : ByteArray) (l0 : List UInt8) (h0 : l0.length = 3008) (hr : V.size + t.size + at' ≤ 3008) (j : Nat) (hj : j < V.size + t.size) :
    ((l0.take at' ++ V.data.toList.take V.size ++ l0.drop (at' + V.size)).take (at' + V.size) ++ t.data.toList.take t.size ++ (l0.take at' ++ V.data.toList.take V.size ++ l0.drop (at' + V.size)).drop (at' + V.size + t.size))[at' + j]? = (V.data.toList ++ t.data.toList)[j]? := by
  have e1 : V.data.toList.length = V.size := by simp
  have e2 : t.data.toList.length = t.size := by simp
  rw [List.take_of_length_le (i := V.size) (by omega), List.take_of_length_le (i := t.size) (by omega)]
  have e3 : (l0.take at' ++ V.data.toList ++ l0.drop (at' + V.size)).take (at' + V.size) = l0.take at' ++ V.data.toList := by
    rw [List.take_append_of_le_length (by simp; omega), List.take_of_length_le (by simp; omega)]
  rw [e3, List.append_assoc, List.append_assoc, List.getElem?_append_right (by simp; omega)]
  have e4 : (l0.take at').length = at' := by rw [List.length_take]; omega
  rw [e4, show at' + j - at' = j by omega, ← List.append_assoc, List.getElem?_append_left (by simp; omega)]

set_option maxRecDepth 100000 in
set_option maxHeartbeats 4000000 in
theorem irf97 (at' : Nat) (t : ByteArray) (hat : at' ≤ 3008) (htz : t.size ≤ 1048576) (ht0 : 0 < t.size) (w : World) :
    Calls Try.prog 56 #[.int .i64 (at' : Int), .string t] w fun e w' => ∃ v, e = .returned (.tuple #[v, .bool (decide ((recL t).length + at' ≤ 3008))]) ∧ ((recL t).length + at' ≤ 3008 → v = .slice (some ⟨w.heap.size, at', none⟩) (recL t).length (recL t).length ∧ ∀ j (hj : j < (recL t).length), w'.cell? ⟨w.heap.size, at' + j, none⟩ = some (.int .u8 ((recL t)[j].toNat : Int))) ∧ Below w.heap.size w w' := by
  obtain ⟨V, hV⟩ : ∃ V : ByteArray, V = ⟨(WM.varL t.size).toArray⟩ := ⟨_, rfl⟩
  have hVs : V.size = (WM.varL t.size).length := by rw [hV]; show (WM.varL t.size).toArray.size = _; simp
  have hV1 : 1 ≤ V.size := by rw [hVs]; exact WM.varL_pos _
  have hV5 : V.size ≤ 5 := by rw [hVs]; exact WM.varL_len5 _ (by omega)
  have HVAR : Hid (∀ W : World, Calls Try.prog 78 #[.int .i64 (t.size : Int)] W fun e w' => e = .returned (.tuple #[.string V, .bool true]) ∧ Below W.heap.size W w') := fun W => by rw [hV]; exact ivar_yes t.size (by omega) W
  have hrl : (recL t).length = V.size + t.size := by rw [recL_len, hVs]
  have HRL : Hid ((recL t).length = V.size + t.size) := hrl
  have HRV : Hid (recL t = V.data.toList ++ t.data.toList) := by show _ = _; rw [hV]; simp [recL]
  obtain ⟨n1, hn1⟩ : ∃ n1, n1 = min V.size (3008 - at') := ⟨_, rfl⟩
  obtain ⟨n2, hn2⟩ : ∃ n2, n2 = min t.size (3008 - at' - n1) := ⟨_, rfl⟩
  have HN1 : Hid (n1 = min V.size (3008 - at')) := hn1
  have HN2 : Hid (n2 = min t.size (3008 - at' - n1)) := hn2
  have hs1 : n1 ≤ 3008 - at' := by omega
  have hs2 : n1 + n2 ≤ 3008 - at' := by omega
  have hs3 : n1 ≤ 5 := by omega
  have HEQ : Hid (((n1 + n2 : Nat) : Int) = (V.size : Int) + (t.size : Int) ↔ V.size + t.size + at' ≤ 3008) := by show _ ↔ _; omega
  have HZ : Hid (((w.alloc (.cells Try.zeroCells84 84)).heap[w.heap.size]? = some (.cells (bv (List.replicate 3008 0)).toArray 84 (0, 0)))) := by
    show _ = _
    rw [← zero108]
    exact heap_alloc_new w _
  clear hV hVs hrl hn1 hn2
  have ha0 : (0 : Int) ≤ (at' : Int) := by omega
  have ha1 : (at' : Int) ≤ 3008 := by omega
  have hc0 : (0 : Int) ≤ (n1 : Int) := by omega
  go_enter Try.func56, Try.ntmps56
  go_wp2_with fail
  refine (HVAR.out _).mono ?_
  rintro e w2 ⟨rfl, hb2⟩
  have HG2 : Hid (w2.heap[w.heap.size]? = some (.cells (bv (List.replicate 3008 0)).toArray 84 (0, 0))) := (hb2.block w.heap.size (by simp)).trans HZ.out
  have HB2 : Hid (Below w.heap.size w w2) := ((belowRefl w).alloc (Nat.le_refl _) _).trans (hb2.mono (by simp))
  clear hb2 HZ HVAR
  by_cases h3008 : at' = 3008
  · subst h3008
    have HND : Hid (decide ((recL t).length + 3008 ≤ 3008) = false) := decide_eq_false (by rw [HRL.out]; omega)
    have HNI : Hid (¬ (recL t).length + 3008 ≤ 3008) := by show ¬ _; rw [HRL.out]; omega
    have heq : ((0 : Int) == (V.size : Int) + (t.size : Int)) = false := by rw [beq_eq_false_iff_ne]; omega
    go_wp2
    rw [run_copy_at w2 w.heap.size 84 _ 0 0 _ 0 V (List.replicate 3008 0) HG2.out (by omega) (by simp)]
    obtain ⟨l1, hl1⟩ : ∃ l1, l1 = (List.replicate 3008 (0 : UInt8)).take 0 ++ V.data.toList.take 0 ++ (List.replicate 3008 (0 : UInt8)).drop (0 + 0) := ⟨_, rfl⟩
    rw [← hl1]
    have HG3 : Hid ((w2.setRow w.heap.size (bv l1).toArray).heap[w.heap.size]? = some (.cells (bv l1).toArray 84 (0, 0))) := setRow_get _ _ _ _ _ _ HG2.out
    have HB3 : Hid (Below w.heap.size w (w2.setRow w.heap.size (bv l1).toArray)) := setRow_below HB2.out (Nat.le_refl _) _
    clear hl1 HG2 HB2
    generalize w2.setRow w.heap.size (bv l1).toArray = w3 at *
    go_wp2
    rw [run_copy_at w3 w.heap.size 84 _ 0 0 _ 0 t l1 HG3.out (by omega) (by omega)]
    have HB4 : Hid (Below w.heap.size w (w3.setRow w.heap.size (bv (l1.take 0 ++ t.data.toList.take 0 ++ l1.drop (0 + 0))).toArray)) := setRow_below HB3.out (Nat.le_refl _) _
    generalize w3.setRow w.heap.size (bv (l1.take 0 ++ t.data.toList.take 0 ++ l1.drop (0 + 0))).toArray = w4 at *
    go_wp2
    go_ret2
    exact ⟨.slice (some ⟨w.heap.size, 0, none⟩) 0 0, by rw [HND.out]; rfl, fun h => absurd h HNI.out, HB4.out⟩
  · have h3008' : at' < 3008 := by omega
    have hz1 : ¬ 3008 - at' = 0 := by omega
    have hz2 : 0 < 3008 - at' := by omega
    go_wp2
    rw [run_copy_at w2 w.heap.size 84 _ at' (3008 - at') _ n1 V (List.replicate 3008 0) HG2.out HN1.out (by simp; omega)]
    obtain ⟨l1, hl1⟩ : ∃ l1, l1 = ((List.replicate 3008 (0 : UInt8)).take at' ++ V.data.toList.take n1 ++ (List.replicate 3008 (0 : UInt8)).drop (at' + n1)) := ⟨_, rfl⟩
    rw [← hl1]
    have hl1l : l1.length = 3008 := by
      have e1 : V.data.toList.length = V.size := by simp
      have e2 := HN1.out
      rw [hl1]
      simp only [List.length_append, List.length_take, List.length_drop, List.length_replicate]
      omega
    have HL1 : Hid (l1 = ((List.replicate 3008 (0 : UInt8)).take at' ++ V.data.toList.take n1 ++ (List.replicate 3008 (0 : UInt8)).drop (at' + n1))) := hl1
    have HL1l : Hid (l1.length = 3008) := hl1l
    clear hl1 hl1l
    have HG3 : Hid ((w2.setRow w.heap.size (bv l1).toArray).heap[w.heap.size]? = some (.cells (bv l1).toArray 84 (0, 0))) := setRow_get _ _ _ _ _ _ HG2.out
    have HB3 : Hid (Below w.heap.size w (w2.setRow w.heap.size (bv l1).toArray)) := setRow_below HB2.out (Nat.le_refl _) _
    generalize w2.setRow w.heap.size (bv l1).toArray = w3 at *
    have hni : (n1 : Int) ≤ 3008 - (at' : Int) := by omega
    by_cases hfull : n1 = 3008 - at'
    · have h1v : n1 ≤ V.size := by have := HN1.out; omega
      have HND : Hid (decide ((recL t).length + at' ≤ 3008) = false) := decide_eq_false (by rw [HRL.out]; omega)
      have HNI : Hid (¬ (recL t).length + at' ≤ 3008) := by show ¬ _; rw [HRL.out]; omega
      have hzz : 3008 - at' - n1 = 0 := by omega
      have heq : ((n1 : Int) == (V.size : Int) + (t.size : Int)) = false := by rw [beq_eq_false_iff_ne]; omega
      have HNN : Hid (n1 = 3008 - at') := hfull
      have hn00 : (0 : Int) ≤ (n1 : Int) := by omega
      have hlt0 : 0 < n1 := by omega
      clear hfull
      go_wp2
      rw [run_copy_at w3 w.heap.size 84 _ at' 0 _ 0 t l1 HG3.out (by omega) (by rw [HL1l.out]; omega)]
      have HB4 : Hid (Below w.heap.size w (w3.setRow w.heap.size (bv (l1.take at' ++ t.data.toList.take 0 ++ l1.drop (at' + 0))).toArray)) := setRow_below HB3.out (Nat.le_refl _) _
      generalize w3.setRow w.heap.size (bv (l1.take at' ++ t.data.toList.take 0 ++ l1.drop (at' + 0))).toArray = w4 at *
      go_wp2
      go_ret2
      exact ⟨.slice (some ⟨w.heap.size, at', none⟩) n1 n1, by rw [HND.out]; rfl, fun h => absurd h HNI.out, HB4.out⟩
    · have hnf : n1 < 3008 - at' := by omega
      have hnf2 : ¬ 3008 - at' - n1 = 0 := by omega
      have hn1v : n1 = V.size := by have := HN1.out; omega
      subst hn1v
      go_wp2
      rw [run_copy_at w3 w.heap.size 84 _ (at' + V.size) (3008 - at' - V.size) _ n2 t l1 HG3.out HN2.out (by rw [HL1l.out]; omega)]
      obtain ⟨l2, hl2⟩ : ∃ l2, l2 = l1.take (at' + V.size) ++ t.data.toList.take n2 ++ l1.drop (at' + V.size + n2) := ⟨_, rfl⟩
      rw [← hl2]
      have HG4 : Hid ((w3.setRow w.heap.size (bv l2).toArray).heap[w.heap.size]? = some (.cells (bv l2).toArray 84 (0, 0))) := setRow_get _ _ _ _ _ _ HG3.out
      have HB4 : Hid (Below w.heap.size w (w3.setRow w.heap.size (bv l2).toArray)) := setRow_below HB3.out (Nat.le_refl _) _
      generalize w3.setRow w.heap.size (bv l2).toArray = w4 at *
      have HL2 : Hid (l2 = l1.take (at' + V.size) ++ t.data.toList.take n2 ++ l1.drop (at' + V.size + n2)) := hl2
      clear hl2
      by_cases hroom : V.size + t.size + at' ≤ 3008
      · have hn2t : n2 = t.size := by have := HN2.out; omega
        subst hn2t
        have HND : Hid (decide ((recL t).length + at' ≤ 3008) = true) := decide_eq_true (by rw [HRL.out]; omega)
        have HC : Hid (∀ j (hj : j < (recL t).length), w4.cell? ⟨w.heap.size, at' + j, none⟩ = some (.int .u8 ((recL t)[j].toNat : Int))) := fun j hj => by
          have h := rec_cells at' V t (List.replicate 3008 0) (by simp) (by omega) j (by have := HRL.out; omega)
          rw [← HL1.out, ← HL2.out, ← HRV.out] at h
          rw [cell_of_row w4 w.heap.size (at' + j) _ 84 (0, 0) HG4.out]
          simp only [bv, List.getElem?_toArray, List.getElem?_map, h]
          rw [List.getElem?_eq_getElem hj]
          rfl
        go_wp2
        go_ret2
        exact ⟨.slice (some ⟨w.heap.size, at', none⟩) (V.size + t.size) (V.size + t.size), by rw [HND.out]; rfl, fun _ => ⟨by rw [HRL.out], HC.out⟩, HB4.out⟩
      · have HND : Hid (decide ((recL t).length + at' ≤ 3008) = false) := decide_eq_false (by rw [HRL.out]; omega)
        have HNI : Hid (¬ (recL t).length + at' ≤ 3008) := by show ¬ _; rw [HRL.out]; omega
        have h2v : n2 < t.size := by have := HN2.out; omega
        have heq : ((V.size : Int) + (n2 : Int) == (V.size : Int) + (t.size : Int)) = false := by rw [beq_eq_false_iff_ne]; omega
        go_wp2
        go_ret2
        exact ⟨.slice (some ⟨w.heap.size, at', none⟩) (V.size + n2) (V.size + n2), by rw [HND.out]; rfl, fun h => absurd h HNI.out, HB4.out⟩
end Go.Proofs.Ytekjpoenbcnhdaa
