/- window: which rectangles may be, areas, cells. -/
import Derived.Test.YtgnhamhkpbadbaaWPlainR
namespace Go.Proofs.Ytgnhamhkpbadbaa
open Go.RowKit
/-- Is it empty? -/
def emR (c d : Int) : Bool := c == 0 || d == 0
theorem emR_ne {a b c d : Int} (hc : 0 ≤ c) (hd : 0 ≤ d) : emR c d = !neR ⟨a, b, c, d⟩ := by
  unfold emR neR
  dsimp only
  rw [Bool.eq_iff_iff]
  simp only [Bool.or_eq_true, beq_iff_eq, Bool.not_eq_true', decide_eq_false_iff_not]
  omega
set_option maxHeartbeats 800000 in
theorem wEmpty_any (a b c d : Int) (w : World) : Calls Try.prog 119 #[.agg #[.int .i64 a, .int .i64 b, .int .i64 c, .int .i64 d]] w fun e w' => e = .returned (.bool (emR c d)) ∧ Below w.heap.size w w' := by
  by_cases h1 : c = 0
  · have d1 : (c == 0) = true := beq_iff_eq.2 h1
    rw [show emR c d = true by unfold emR; rw [d1]; rfl]
    clear h1
    go_enter Try.func119, Try.ntmps119
    go_wp2_with fail
    go_ret
    exact ⟨rfl, (Since.refl w).alloc _⟩
  · have d1 : (c == 0) = false := beq_eq_false_iff_ne.2 h1
    rw [show emR c d = (d == 0) by unfold emR; rw [d1]; rfl]
    clear h1
    obtain ⟨z, hz⟩ : ∃ z, (d == 0) = z := ⟨_, rfl⟩
    rw [hz]
    go_enter Try.func119, Try.ntmps119
    go_wp2_with fail
    go_ret
    exact ⟨rfl, (Since.refl w).alloc _⟩
theorem wEmpty_at {a b c d : Int} {z : Bool} (h : emR c d = z) (w : World) : Calls Try.prog 119 #[.agg #[.int .i64 a, .int .i64 b, .int .i64 c, .int .i64 d]] w fun e w' => e = .returned (.bool z) ∧ Below w.heap.size w w' := h ▸ wEmpty_any a b c d w
end Go.Proofs.Ytgnhamhkpbadbaa
