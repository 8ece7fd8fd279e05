/- wire.Sum: the sum of any bytes. -/
import Derived.Test.YthgcmcdacejelaaDoorUSum1
namespace Go.Proofs.YthgcmcdacejelaaDoor
open Go.RowKit
theorem tab_at (i : Nat) (h : i < 16) : (tabTo 16)[i]? = some (.int .u32 ((Crc.steps 4 i : Nat) : Int)) := by rw [tabTo_at 16 i h, if_pos h]
end Go.Proofs.YthgcmcdacejelaaDoor
