/- wire.nibbles and wire.Sum. -/
import Derived.Test.YthgcmcdacejelaaDoorUBase
import Derived.Test.YthgcmcdacejelaaDoorUCrc
import Derived.Laws.Tables
import Derived.Laws.CopyOwn
namespace Go.Proofs.YthgcmcdacejelaaDoor
open Go.RowKit
/-- The table behind k rounds. -/
def tabTo (k : Nat) : Array Value := ((List.range 16).map fun i => Value.int .u32 (if i < k then (Crc.steps 4 i : Nat) else 0)).toArray
theorem tabTo_size (k : Nat) : (tabTo k).size = 16 := by simp [tabTo]
theorem tabTo_zero : tabTo 0 = #[.int .u32 0, .int .u32 0, .int .u32 0, .int .u32 0, .int .u32 0, .int .u32 0, .int .u32 0, .int .u32 0, .int .u32 0, .int .u32 0, .int .u32 0, .int .u32 0, .int .u32 0, .int .u32 0, .int .u32 0, .int .u32 0] := by rfl
theorem tabTo_at (k i : Nat) (h : i < 16) : (tabTo k)[i]? = some (.int .u32 (if i < k then (Crc.steps 4 i : Nat) else 0)) := by
  simp [tabTo, h]
theorem tabTo_next (k : Nat) (h : k < 16) : (tabTo k).setIfInBounds k (.int .u32 ((Crc.steps 4 k : Nat) : Int)) = tabTo (k + 1) := by
  apply Array.ext_getElem?
  intro i
  rw [Array.getElem?_setIfInBounds]
  by_cases hi : i < 16
  · rw [tabTo_at k i hi, tabTo_at (k + 1) i hi, tabTo_size]
    by_cases e : k = i
    · subst e; simp [h]
    · rw [if_neg e]
      by_cases h1 : i < k
      · simp [h1, show i < k + 1 from by omega]
      · simp [h1, show ¬ i < k + 1 from by omega]
  · rw [Array.getElem?_eq_none (by rw [tabTo_size]; omega), Array.getElem?_eq_none (by rw [tabTo_size]; omega), tabTo_size]
    simp [show ¬ k = i from by omega]
end Go.Proofs.YthgcmcdacejelaaDoor
