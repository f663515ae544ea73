/- What laws' sz, to and eq do over rows of versions, and eq over rows of pairs. -/
import Derived.Test.YtjieojfcmigcdaaEnc
namespace Go.Proofs.Ytjieojfcmigcdaa
open Go.RowKit
open KM
attribute [local go_sem ↓] Go.wp_at_zero Go.wp_at_succ

/-- texts that are not too long -/
def VFit (xs : List Vr) : Prop := ∀ x ∈ xs, x.1.size ≤ 1048576 ∧ x.2.1.size ≤ 1048576

end Go.Proofs.Ytjieojfcmigcdaa
