/- Texts that are not too long, in ranges and writes. -/
import Derived.Test.YtjieojfcmigcdaaEnc
namespace Go.Proofs.Ytjieojfcmigcdaa
open KM
/-- texts that are not too long -/
def WFit (xs : List Wt) : Prop := ∀ x ∈ xs, x.1.size ≤ 1048576 ∧ x.2.1.size ≤ 1048576
/-- texts that are not too long -/
def RFit (xs : List Rg) : Prop := ∀ x ∈ xs, x.1.size ≤ 1048576 ∧ x.2.size ≤ 1048576
end Go.Proofs.Ytjieojfcmigcdaa
