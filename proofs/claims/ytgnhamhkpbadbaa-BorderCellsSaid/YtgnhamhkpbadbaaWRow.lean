/- Lists of rectangles in memory. -/
import Derived.Test.YtgnhamhkpbadbaaWHalf
import Derived.Test.YtgnhamhkpbadbaaLRow
namespace Go.Proofs.Ytgnhamhkpbadbaa
open Go.RowKit
/-- A rectangle's cells. -/
def encR (r : Rc) : List Value := [.int .i64 r.x, .int .i64 r.y, .int .i64 r.w, .int .i64 r.h]
theorem encR_len (r : Rc) : (encR r).length = 4 := rfl
/-- A list of rectangles that a call made; one that lies there. -/
abbrev RowR := RowE encR 4
abbrev ListR := ListE encR 4
theorem flatR_get (l : List Rc) (i : Nat) (h : i < l.length) : (l.flatMap encR)[i * 4]? = some (.int .i64 l[i].x) ∧ (l.flatMap encR)[i * 4 + 1]? = some (.int .i64 l[i].y) ∧ (l.flatMap encR)[i * 4 + 2]? = some (.int .i64 l[i].w) ∧ (l.flatMap encR)[i * 4 + 3]? = some (.int .i64 l[i].h) :=
  ⟨enc_get encR_len l i h 0 _ rfl, enc_get encR_len l i h 1 _ rfl, enc_get encR_len l i h 2 _ rfl, enc_get encR_len l i h 3 _ rfl⟩
end Go.Proofs.Ytgnhamhkpbadbaa
