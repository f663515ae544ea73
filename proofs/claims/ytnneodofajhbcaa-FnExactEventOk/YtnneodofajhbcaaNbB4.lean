/- What stays: the place of one by its name, on both sides. -/
import Derived.Test.YtnneodofajhbcaaNbN1
import Derived.Deep.RegionHeld3
import Derived.Test.YtnneodofajhbcaaE5
import Derived.Test.YtnneodofajhbcaaV1
import Derived.Test.YtnneodofajhbcaaL1
import Derived.Test.YtnneodofajhbcaaL2
import Derived.Test.YtnneodofajhbcaaProg
import Derived.WalkKit
import Derived.Test.YtnneodofajhbcaaMath
import Derived.WalkSpells
import Derived.WalkLawsBesides
import Derived.Deep.QuietTactic
import Derived.BigQuiet
import Derived.Deep.DrawnRows
import Derived.Test.YtnneodofajhbcaaK1
import Derived.Test.YtnneodofajhbcaaK2
import Derived.Deep.AppendLies
import Derived.Test.YtnneodofajhbcaaBase
import Derived.Test.YtnneodofajhbcaaEnc
import Derived.Test.YtnneodofajhbcaaR1
import Derived.Test.YtnneodofajhbcaaB1
import Derived.Test.YtnneodofajhbcaaNbVMr
import Derived.Test.YtnneodofajhbcaaFit
import Derived.Test.YtnneodofajhbcaaTxM
import Derived.Test.YtnneodofajhbcaaKyR1
import Derived.Test.YtnneodofajhbcaaBx
import Derived.Test.YtnneodofajhbcaaA2
import Derived.Sort.OwnSorted
import Derived.Lib.RowBridge
import Derived.Test.YtnneodofajhbcaaH1
import Derived.Test.YtnneodofajhbcaaLie
import Derived.Test.YtnneodofajhbcaaA3
import Derived.Test.YtnneodofajhbcaaVZn
import Derived.Test.YtnneodofajhbcaaZ1
import Derived.Deep.Cut
import Derived.Deep.CutRange
import Derived.Test.YtnneodofajhbcaaB3
import Derived.Test.YtnneodofajhbcaaNbN8
import Derived.Test.YtnneodofajhbcaaKL2
namespace Go.Proofs.Ytnneodofajhbcaa
open Go.RowKit
open KM
attribute [local go_sem ↓] Go.wp_at_zero Go.wp_at_succ

/-- the names of a list -/
def nms (xs : List Ta) : List ByteArray := xs.map (·.t.nm)
theorem nms_len (xs : List Ta) : (nms xs).length = xs.length := by simp [nms]
theorem nms_at (xs : List Ta) (k : Nat) (h : k < xs.length) : (nms xs)[k]'(by rw [nms_len]; exact h) = xs[k].t.nm := by simp [nms]
theorem nms_txs (xs : List Ta) : nms xs = (txs xs).map (·.nm) := by simp [nms, txs, Function.comp_def]
/-- where a text stands first, counted from k on -/
def idxN : List ByteArray → ByteArray → Nat → Int
  | [], _, _ => -1
  | x :: l, s, k => if (x.toList == s.toList) = true then (k : Int) else idxN l s (k + 1)
theorem idx_yes {l : List ByteArray} {s : ByteArray} {k : Nat} (hk : k < l.length) (h : (l[k].toList == s.toList) = true) : idxN (l.drop k) s k = (k : Int) := by
  rw [List.drop_eq_getElem_cons hk]
  unfold idxN
  rw [if_pos h]
theorem idx_no {l : List ByteArray} {s : ByteArray} {k : Nat} (hk : k < l.length) (h : (l[k].toList == s.toList) = false) : idxN (l.drop k) s k = idxN (l.drop (k + 1)) s (k + 1) := by
  rw [List.drop_eq_getElem_cons hk]
  conv => lhs; unfold idxN
  rw [if_neg (by rw [h]; simp)]
theorem idx_end {l : List ByteArray} {s : ByteArray} {k : Nat} (hk : l.length ≤ k) : idxN (l.drop k) s k = -1 := by
  rw [List.drop_of_length_le hk]
  rfl
theorem beq_comm_list (a b : ByteArray) : (a.toList == b.toList) = (b.toList == a.toList) := by
  rw [Bool.eq_iff_iff]
  simp only [beq_iff_eq]
  exact eq_comm

end Go.Proofs.Ytnneodofajhbcaa
