/- What laws.eqStringS, eqPut, eqPutS and eqDisk say of what is alike. -/
import Derived.Test.YtnfkecefkkdedaaA1
namespace Go.Proofs.Ytnfkecefkkdedaa
open Go.RowKit
open DM
attribute [local go_sem ↓] Go.wp_at_zero Go.wp_at_succ

end Go.Proofs.Ytnfkecefkkdedaa
