/- What spec.ScanAt does. -/
import Derived.Test.YtblfljmcbpodbaaH3
namespace Go.Proofs.Ytblfljmcbpodbaa
open Go.RowKit
open KM
open VM
attribute [local go_sem ↓] Go.wp_at_zero Go.wp_at_succ

theorem fm_no {α β : Type} {f : α → Option β} {l : List α} {i : Nat} (h : i < l.length) (hf : f l[i] = none) : (l.take (i + 1)).filterMap f = (l.take i).filterMap f := by
  rw [List.take_succ_eq_append_getElem h, List.filterMap_append]
  simp [hf]
theorem fm_yes {α β : Type} {f : α → Option β} {l : List α} {i : Nat} {p : β} (h : i < l.length) (hf : f l[i] = some p) : (l.take (i + 1)).filterMap f = (l.take i).filterMap f ++ [p] := by
  rw [List.take_succ_eq_append_getElem h, List.filterMap_append]
  simp [hf]
/-- a key and its value, if it is seen -/
def pairF (vs : List Vr) (s : Int) (k : ByteArray) : Option Rg := (seenB vs k s).map fun v => (k, v)

end Go.Proofs.Ytblfljmcbpodbaa
