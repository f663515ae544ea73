/- Bytes written over sectors: what is written. -/
import Derived.Test.YtnfkecefkkdedaaR4
import Derived.Test.YtnfkecefkkdedaaF4
namespace Go.Proofs.Ytnfkecefkkdedaa
open Go.RowKit
open DM

/-- a text with other bytes from a place on -/
def spl (b : ByteArray) (p : Nat) (l : List UInt8) : ByteArray := ⟨(b.data.toList.take p ++ l ++ b.data.toList.drop (p + l.length)).toArray⟩
theorem spl_size (b : ByteArray) (p : Nat) (l : List UInt8) (h : p + l.length ≤ b.size) : (spl b p l).size = b.size := by
  show (b.data.toList.take p ++ l ++ b.data.toList.drop (p + l.length)).toArray.size = b.size
  have e : b.data.toList.length = b.size := by simp
  simp only [List.size_toArray, List.length_append, List.length_take, List.length_drop]
  omega
theorem spl_cat (b x : ByteArray) (p i n : Nat) (hn : i + n ≤ x.size) : (b.extract 0 p ++ x.extract i (i + n)) ++ b.extract (p + n) b.size = spl b p ((x.data.toList.drop i).take n) := by
  have e : x.data.toList.length = x.size := by simp
  have hl : ((x.data.toList.drop i).take n).length = n := by
    rw [List.length_take, List.length_drop]; omega
  unfold spl
  rw [hl]
  apply ByteArray.ext
  apply Array.toList_inj.1
  rw [ByteArray.data_append, ByteArray.data_append, Array.toList_append, Array.toList_append, Lib.extract_data, Lib.extract_data, Lib.extract_data]
  have e2 : (b.data.toList.drop (p + n)).take (b.size - (p + n)) = b.data.toList.drop (p + n) := by
    apply List.take_of_length_le
    have e3 : b.data.toList.length = b.size := by simp
    rw [List.length_drop]; omega
  rw [e2, show i + n - i = n by omega]
  simp

/-- the writes of a text from a byte on, sector by sector -/
def wbGo (ss : List ByteArray) (k0 : Nat) : Nat → List Wr → Nat → List UInt8 → List Wr
  | 0, cur, _, _ => cur
  | f + 1, cur, q, rest => if rest = [] then cur else
      wbGo ss k0 f (cur ++ [(((k0 + q / 64 : Nat) : Int), spl (rdR ss cur ((k0 + q / 64 : Nat) : Int)) (q % 64) (rest.take (64 - q % 64)))]) (q + min (64 - q % 64) rest.length) (rest.drop (64 - q % 64))
def wb (ss : List ByteArray) (k0 q : Nat) (l : List UInt8) : List Wr := wbGo ss k0 l.length [] q l
theorem wbGo_nil {ss : List ByteArray} {k0 f q : Nat} {cur W : List Wr} (h : wbGo ss k0 f cur q [] = W) : cur = W := by
  cases f with
  | zero => exact h
  | succ f => simpa [wbGo] using h
theorem wbGo_step {ss : List ByteArray} {k0 f q : Nat} {cur W : List Wr} {rest : List UInt8} (h : wbGo ss k0 f cur q rest = W) (hr : rest ≠ []) (hf : rest.length ≤ f) :
    ∃ f', (rest.drop (64 - q % 64)).length ≤ f' ∧ wbGo ss k0 f' (cur ++ [(((k0 + q / 64 : Nat) : Int), spl (rdR ss cur ((k0 + q / 64 : Nat) : Int)) (q % 64) (rest.take (64 - q % 64)))]) (q + min (64 - q % 64) rest.length) (rest.drop (64 - q % 64)) = W := by
  have h0 : 0 < rest.length := List.length_pos_iff.2 hr
  cases f with
  | zero => omega
  | succ f =>
    refine ⟨f, by rw [List.length_drop]; omega, ?_⟩
    simpa [wbGo, hr] using h
theorem rdR_is64 {ss : List ByteArray} {ps : List Wr} (h : OkD ss ps) {a : Int} (ha : hasB a ss.length = true) : (rdR ss ps a).size = 64 := by
  have hh := hasB_iff.1 ha
  rw [show rdR ss ps a = rd ss ps a from if_pos ha]
  unfold rd
  cases hb : back ps a ps.length with
  | some t =>
    obtain ⟨p, hm, rfl⟩ := back_mem _ hb
    exact (h.2.2.2.2 p hm).2.2
  | none =>
    have hl : a.toNat < ss.length := by omega
    simp only [Option.getD_none]
    rw [List.getD_eq_getElem?_getD, List.getElem?_eq_getElem hl]
    exact h.2.2.2.1 _ (List.getElem_mem hl)
end Go.Proofs.Ytnfkecefkkdedaa
