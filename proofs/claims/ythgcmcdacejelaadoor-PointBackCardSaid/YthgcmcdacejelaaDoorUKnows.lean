/- The law's own knows: it is true. -/
import Derived.Test.YthgcmcdacejelaaDoorUUnframe
import Derived.Test.YthgcmcdacejelaaDoorUBack
import Derived.Lib.SlBytesConst
namespace Go.Proofs.YthgcmcdacejelaaDoor
open Go.RowKit
theorem cells_ab : (#[.int .u8 97, .int .u8 98] : Array Value) = (bv [97, 98]).toArray := rfl
theorem cells_nine : (#[.int .u8 49, .int .u8 50, .int .u8 51, .int .u8 52, .int .u8 53, .int .u8 54, .int .u8 55, .int .u8 56, .int .u8 57] : Array Value) = (bv [49, 50, 51, 52, 53, 54, 55, 56, 57]).toArray := rfl
theorem sum_nine : Crc.sum [49, 50, 51, 52, 53, 54, 55, 56, 57] = 3421780262 := by decide +kernel
theorem rd_mark {w : World} {cs : Array Value} (fr : Nat × Nat) (l : List UInt8) (h : cs = (bv l).toArray) : Rd (w.alloc (.cells cs 5 fr)) (w.alloc (.cells cs 5 fr)).heap.size (some ⟨w.heap.size, 0, none⟩) l := by
  refine .inr ⟨w.heap.size, 0, rfl, by simp, fun i hi => ?_⟩
  subst h
  rw [World.cell?_alloc_mark]
  simp [bv, hi]
end Go.Proofs.YthgcmcdacejelaaDoor
