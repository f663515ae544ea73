/- The law FnTurned, walked: a sealed text is Unsealed as it was; with one byte turned it is not; SumMore goes on. -/
import Derived.Test.YtojjoekomeamcaaDoorK2
import Derived.Test.YtojjoekomeamcaaDoorDr4
namespace Go.Proofs.YtojjoekomeamcaaDoor
open Go.RowKit
attribute [local go_sem ↓] Go.wp_at_zero Go.wp_at_succ

theorem ba_eq {a b : ByteArray} (h : a.data.toList = b.data.toList) : a = b := by
  apply ByteArray.ext
  exact Array.toList_inj.1 h
theorem seal_data (s : ByteArray) : (sealB s).data.toList = SM.sealL s.data.toList := by simp [sealB, SM.sealL]
theorem seal_size (s : ByteArray) : (sealB s).size = s.size + 4 := by
  have h := congrArg List.length (seal_data s)
  rw [Array.length_toList, SM.seal_len, Array.length_toList] at h
  exact h
theorem len_data (s : ByteArray) : s.data.toList.length = s.size := by rw [Array.length_toList]; rfl
theorem ext_head (t : ByteArray) (n : Nat) : (t.extract 0 n).data.toList = t.data.toList.take n := by
  rw [Lib.extract_data, List.drop_zero, Nat.sub_zero]
theorem ext_tail (t : ByteArray) (n : Nat) (h : t.size = n + 4) : (t.extract n (n + 4)).data.toList = t.data.toList.drop n := by
  rw [Lib.extract_data, List.take_of_length_le]
  rw [List.length_drop, len_data]; omega
theorem seal_head (s : ByteArray) : (sealB s).extract 0 s.size = s := by
  apply ba_eq
  rw [ext_head, seal_data, SM.sealL, ← len_data, List.take_left]
theorem seal_ok (s : ByteArray) : ((⟨(SM.four (SM.sum 4294967295 ((sealB s).extract 0 s.size).data.toList)).toArray⟩ : ByteArray).toList == ((sealB s).extract s.size (s.size + 4)).toList) = true := by
  rw [beq_iff_eq, seal_head, ByteArray.toList_eq, ByteArray.toList_eq, ext_tail _ _ (seal_size s), seal_data, SM.sealL, ← len_data, List.drop_left]
/-- Unsealed of a text that Sealed made -/
theorem iuns_seal (s : ByteArray) (h : s.size ≤ 20000) (w : World) (ht : Tab w) :
    Calls Tryd.prog 12 #[.string (sealB s)] w fun e w' => e = .returned (.tuple #[.string s, .bool true]) ∧ Below w.heap.size w w' := by
  have c := iuns_yes (sealB s) s.size (seal_size s) h (seal_ok s) w ht
  rw [seal_head] at c
  exact c
/-- with one byte turned -/
theorem iuns_turned (s : ByteArray) (h : s.size ≤ 20000) (i : Nat) (hi : i < s.size + 4) (c : UInt8) (hc : some c ≠ (sealB s).data.toList[i]?) (w : World) (ht : Tab w) :
    Calls Tryd.prog 12 #[.string ⟨((sealB s).data.toList.set i c).toArray⟩] w fun e w' => e = .returned (.tuple #[.string ⟨#[]⟩, .bool false]) ∧ Below w.heap.size w w' := by
  have hd : (⟨((sealB s).data.toList.set i c).toArray⟩ : ByteArray).data.toList = (SM.sealL s.data.toList).set i c := by rw [← seal_data]
  have hz : (⟨((sealB s).data.toList.set i c).toArray⟩ : ByteArray).size = s.size + 4 := by
    rw [← len_data, hd, List.length_set, SM.seal_len, len_data]
  rw [seal_data] at hc
  have k := SM.turned s.data.toList i (by rw [len_data]; exact hi) c hc
  refine iuns_bad _ s.size hz h ?_ w ht
  rw [beq_eq_false_iff_ne, ByteArray.toList_eq, ByteArray.toList_eq, ext_tail _ _ hz, ext_head, hd, ← len_data]
  exact k
end Go.Proofs.YtojjoekomeamcaaDoor
