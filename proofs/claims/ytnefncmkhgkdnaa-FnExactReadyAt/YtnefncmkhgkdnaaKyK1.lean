/- What KeyOk, InRange, RangeOk and WriteOk return, on both sides. -/
import Derived.Test.YtnefncmkhgkdnaaK1
import Derived.WalkSpells
import Derived.WalkLawsBesides
import Derived.Deep.QuietTactic
import Derived.BigQuiet
import Derived.Deep.RegionHeld3
import Derived.Deep.DrawnRows
namespace Go.Proofs.Ytnefncmkhgkdnaa
open Go.RowKit
open KM
attribute [local go_sem ↓] Go.wp_at_zero Go.wp_at_succ

end Go.Proofs.Ytnefncmkhgkdnaa
