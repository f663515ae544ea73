/- The laws FnExactBeside and FnExactAhead, walked. -/
import Derived.Test.YtjieojfcmigcdaaN1
import Derived.Deep.RegionHeld3
namespace Go.Proofs.Ytjieojfcmigcdaa
open Go.RowKit
open KM
attribute [local go_sem ↓] Go.wp_at_zero Go.wp_at_succ

theorem TRow.drewT {w : World} {t : Tx} {ra wa : Option Addr} (h : TRow w t ra wa) : TRow w.drew t ra wa := ⟨h.r.drew, h.w.drew⟩
theorem undrew {w w' : World} (h : Below w.drew.heap.size w.drew w') : Below w.heap.size w w' := (belowRefl w).drew.trans h

end Go.Proofs.Ytjieojfcmigcdaa
