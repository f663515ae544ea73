/- Ranges and writes in their cells. -/
import Derived.Test.YtnefncmkhgkdnaaEnc
import Derived.Test.YtnefncmkhgkdnaaVK2
namespace Go.Proofs.Ytnefncmkhgkdnaa
open Go.RowKit
open KM

theorem Try.info116 : (Try.prog.info? 116).map (fun i => (i.zero, i.size, i.bytes)) = some (some (.agg #[.string ByteArray.empty, .string ByteArray.empty, .bool false, .int .i64 0]), 4, 48) := by kernel_rfl
end Go.Proofs.Ytnefncmkhgkdnaa
