/- window.gather: of a list those that are not empty; window.Plain: a window's plain rectangles. -/
import Derived.Test.YtgnhamhkpbadbaaWFns
namespace Go.Proofs.Ytgnhamhkpbadbaa
open Go.RowKit
theorem infoWR : (Try.prog.info? 127).map (fun i => (i.zero, i.size, i.bytes)) = some (some (.agg #[.int .i64 0, .int .i64 0, .int .i64 0, .int .i64 0]), 4, 32) := by kernel_rfl
end Go.Proofs.Ytgnhamhkpbadbaa
