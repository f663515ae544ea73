/- Lists of those that look and change: how they lie, their size, their copy, their likeness. -/
import Derived.Test.YtnneodofajhbcaaE5
import Derived.Deep.RegionHeld3
import Derived.Test.YtnneodofajhbcaaL1
namespace Go.Proofs.Ytnneodofajhbcaa
open Go.RowKit
open KM
attribute [local go_sem ↓] Go.wp_at_zero Go.wp_at_succ

/-- texts that are not too long, of a list of any length -/
def LFw (ts : List Tx) : Prop := True ∧ ∀ t ∈ ts, TFit t
theorem LFit.w {ts : List Tx} (h : LFit ts) : LFw ts := ⟨trivial, h.2⟩
end Go.Proofs.Ytnneodofajhbcaa
