/- 'copy' of a text over bytes of an array. -/
import Derived.Test.YtnfkfhpmhhmbaaaPb15
namespace Go.Proofs.Ytnfkfhpmhhmbaaa
open Go.RowKit
open DM

theorem run_copy_min (V : World) (T ty o dLen dCap n : Nat) (s : ByteArray) (l : List UInt8) (hn : n = min s.size dLen) (hfit : o + n ≤ l.length) :
    (Builtin.copy_ #[70, 9] ty #[.slice (some ⟨V.heap.size, o, none⟩) dLen dCap, .string s]).run Try.prog (V.alloc (.cells (bv l).toArray T)) = .ok (goInt n) (V.alloc (.cells (bv (l.take o ++ s.data.toList.take n ++ l.drop (o + n))).toArray T)) := by
  have es : s.data.toList.length = s.size := by simp
  have hlen : (bv (s.data.toList.take n)).length = n := by rw [bv_len, List.length_take]; omega
  have hst := run_storeCells_at Try.prog V.heap.size o T (bv (s.data.toList.take n)) 0 (bv l).toArray (V.alloc (.cells (bv l).toArray T)) (heap_alloc_new V _) (by rw [hlen, List.size_toArray, bv_len]; omega) (bv_one _)
  have hmin : Nat.min s.size dLen = n := hn.symm
  have htk : List.take n (List.map (fun b : UInt8 => Value.int IntKind.u8 (b.toNat : Int)) s.data.toList) = bv (s.data.toList.take n) := by
    unfold bv
    rw [List.map_take]
  rw [hlen] at hst
  simp only [Nat.add_zero] at hst
  have e1 : List.take o (bv l).toArray.toList ++ bv (s.data.toList.take n) ++ List.drop (o + n) (bv l).toArray.toList = bv (l.take o ++ s.data.toList.take n ++ l.drop (o + n)) := by
    simp [bv]
  rw [e1] at hst
  cases hq : Try.prog.info? 5 with
  | none => have hs := info5s; rw [hq] at hs; cases hs
  | some i =>
    simp [Builtin.copy_, run_underlying Try.underlying70, Builtin.lenOf, Builtin.firstCells, sizeOf, typeInfo, hq, hmin]
    rw [htk, hst]
    simp only [Result.andThen]
    have h := setRow_alloc V (bv l).toArray (bv (l.take o ++ s.data.toList.take n ++ l.drop (o + n))).toArray T
    rw [h]
    simp only [List.append_assoc]
end Go.Proofs.Ytnfkfhpmhhmbaaa
