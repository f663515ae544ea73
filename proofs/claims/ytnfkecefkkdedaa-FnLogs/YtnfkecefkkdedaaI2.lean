/- What impl.recordFrom returns. -/
import Derived.Test.YtnfkecefkkdedaaL2
import Derived.Test.YtnfkecefkkdedaaW0
namespace Go.Proofs.Ytnfkecefkkdedaa
open Go.RowKit
open DM
attribute [local go_sem ↓] Go.wp_at_zero Go.wp_at_succ

theorem zero108 : Try.zeroCells113 = (bv (List.replicate 3008 0)).toArray := by kernel_rfl

/-- 'copy(a[o:], s)' over an array of bytes, wherever it lies -/
theorem run_copy_at (W : World) (g T ty o dLen dCap n : Nat) (s : ByteArray) (l : List UInt8) (hg : W.heap[g]? = some (.cells (bv l).toArray T (0, 0))) (hn : n = min s.size dLen) (hfit : o + n ≤ l.length) :
    (Builtin.copy_ #[22, 9] ty #[.slice (some ⟨g, o, none⟩) dLen dCap, .string s]).run Try.prog W = .ok (goInt n) (W.setRow g (bv (l.take o ++ s.data.toList.take n ++ l.drop (o + n))).toArray) := by
  have es : s.data.toList.length = s.size := by simp
  have hlen : (bv (s.data.toList.take n)).length = n := by rw [bv_len, List.length_take]; omega
  have hst := run_storeCells_at Try.prog g o T (bv (s.data.toList.take n)) 0 (bv l).toArray W hg (by rw [hlen, List.size_toArray, bv_len]; omega) (bv_one _)
  have hmin : Nat.min s.size dLen = n := hn.symm
  have htk : List.take n (List.map (fun b : UInt8 => Value.int IntKind.u8 (b.toNat : Int)) s.data.toList) = bv (s.data.toList.take n) := by
    unfold bv
    rw [List.map_take]
  rw [hlen] at hst
  simp only [Nat.add_zero] at hst
  have e1 : List.take o (bv l).toArray.toList ++ bv (s.data.toList.take n) ++ List.drop (o + n) (bv l).toArray.toList = bv (l.take o ++ s.data.toList.take n ++ l.drop (o + n)) := by
    simp [bv]
  rw [e1] at hst
  cases hq : Try.prog.info? 5 with
  | none => have hs := info5s; rw [hq] at hs; cases hs
  | some i =>
    simp [Builtin.copy_, run_underlying Try.underlying22, Builtin.lenOf, Builtin.firstCells, sizeOf, typeInfo, hq, hmin]
    rw [htk, hst]
    simp only [Result.andThen, List.append_assoc]

theorem setRow_get (W : World) (g : Nat) (cs cur : Array Value) (T : TypeId) (m : Nat × Nat) (hg : W.heap[g]? = some (.cells cur T m)) : (W.setRow g cs).heap[g]? = some (.cells cs T m) := by
  unfold World.setRow
  simp [Array.getElem?_modify, hg]
theorem setRow_below {w W : World} {B g : Nat} (h : Below B w W) (hB : B ≤ g) (cs : Array Value) : Below B w (W.setRow g cs) := by
  refine ⟨h.os, h.tape, h.output, ?_, fun k hk => ?_⟩
  · unfold World.setRow; simpa using h.size
  · rw [← h.block k hk]
    unfold World.setRow
    simp only [Array.getElem?_modify]
    rw [if_neg (by omega)]
theorem setRow_size (W : World) (g : Nat) (cs : Array Value) : (W.setRow g cs).heap.size = W.heap.size := by
  unfold World.setRow; simp
end Go.Proofs.Ytnfkecefkkdedaa
