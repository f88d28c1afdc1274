/- Ge: what LfPSmaller leans on. Printed by wip/tools/slim13.py. -/
import Derived.Test.YtdafnejphlcgdaaGreatSaGd
import Derived.Test.YtdafnejphlcgdaaGreatSaGc
import Derived.Test.YtdafnejphlcgdaaGreatSaZF
import Derived.Deep.RegionHeld3
import Derived.Test.YtdafnejphlcgdaaGreatSaGra

namespace Go.Proofs.YtdafnejphlcgdaaGreat
open Go.RowKit

set_option maxRecDepth 100000

theorem info_g13 : (Tryz.prog.info? 72).map (fun i => (i.zero, i.size, i.bytes)) = some (some (.agg #[.int .i64 0, .int .i64 0]), 2, 16) := by kernel_rfl
end Go.Proofs.YtdafnejphlcgdaaGreat
