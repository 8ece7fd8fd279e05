/- gleberef04.Plain: a window's plain rectangles. -/
import Derived.Test.YtgnhamhkpbadbaaWRow
import Derived.Test.YtgnhamhkpbadbaaWRefM
namespace Go.Proofs.Ytgnhamhkpbadbaa
open Go.RowKit
theorem infoR4 : (Try.prog.info? 121).map (fun i => (i.zero, i.size, i.bytes)) = some (some (.agg #[.int .i64 0, .int .i64 0, .int .i64 0, .int .i64 0]), 4, 32) := by kernel_rfl
theorem take_filter (l : List Rc) (p : Rc → Bool) (m : Nat) (h : m < l.length) : (l.take (m + 1)).filter p = (l.take m).filter p ++ (if p l[m] = true then [l[m]] else []) := by
  rw [List.take_succ_eq_append_getElem h, List.filter_append]
  congr 1
  cases e : p l[m] with
  | true => rw [List.filter_cons_of_pos e]; simp
  | false => rw [List.filter_cons_of_neg (by rw [e]; exact Bool.false_ne_true)]; simp
end Go.Proofs.Ytgnhamhkpbadbaa
