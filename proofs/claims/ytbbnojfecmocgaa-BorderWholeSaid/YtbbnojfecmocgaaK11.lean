/- Lists of rectangles in memory. window: which rectangles may be, areas, cells. gleberef04.Cut of all, Covers. How far a cell is from a rectangle: from its nearest cell; in numbers. gleberef04.Right, off, Dist: how far a cell is from a rectangle. The laws' knows of the windows; the document's Plain of all. What is asked of the program stands as premises. The document's Length, Beside, Apart. -/
import Derived.Test.YtbbnojfecmocgaaK07
import Derived.Test.YtbbnojfecmocgaaK08
import Derived.Test.YtbbnojfecmocgaaK09
import Derived.Test.YtbbnojfecmocgaaK10
import Derived.Maps.AppendAt
import Derived.Great.BuildSlice
import Derived.Laws.IdiomStrings
namespace Go.Proofs.Ytbbnojfecmocgaa
open Go.RowKit
/-- A rectangle's cells. -/
def encR (r : Rc) : List Value := [.int .i64 r.x, .int .i64 r.y, .int .i64 r.w, .int .i64 r.h]
theorem encR_len (r : Rc) : (encR r).length = 4 := rfl
/-- A list of rectangles that a call made; one that lies there. -/
abbrev RowR := RowE encR 4
end Go.Proofs.Ytbbnojfecmocgaa
namespace Go.Proofs.Ytbbnojfecmocgaa
open Go.RowKit
/-- Is it empty? -/
def emR (c d : Int) : Bool := c == 0 || d == 0
theorem emR_ne {a b c d : Int} (hc : 0 ≤ c) (hd : 0 ≤ d) : emR c d = !neR ⟨a, b, c, d⟩ := by
  unfold emR neR
  dsimp only
  rw [Bool.eq_iff_iff]
  simp only [Bool.or_eq_true, beq_iff_eq, Bool.not_eq_true', decide_eq_false_iff_not]
  omega
set_option maxHeartbeats 800000 in
theorem wEmpty_any (a b c d : Int) (w : World) : Calls Try.prog 71 #[.agg #[.int .i64 a, .int .i64 b, .int .i64 c, .int .i64 d]] w fun e w' => e = .returned (.bool (emR c d)) ∧ Below w.heap.size w w' := by
  by_cases h1 : c = 0
  · have d1 : (c == 0) = true := beq_iff_eq.2 h1
    rw [show emR c d = true by unfold emR; rw [d1]; rfl]
    clear h1
    go_enter Try.func71, Try.ntmps71
    go_wp2_with fail
    go_ret
    exact ⟨rfl, (Since.refl w).alloc _⟩
  · have d1 : (c == 0) = false := beq_eq_false_iff_ne.2 h1
    rw [show emR c d = (d == 0) by unfold emR; rw [d1]; rfl]
    clear h1
    obtain ⟨z, hz⟩ : ∃ z, (d == 0) = z := ⟨_, rfl⟩
    rw [hz]
    go_enter Try.func71, Try.ntmps71
    go_wp2_with fail
    go_ret
    exact ⟨rfl, (Since.refl w).alloc _⟩
theorem wEmpty_at {a b c d : Int} {z : Bool} (h : emR c d = z) (w : World) : Calls Try.prog 71 #[.agg #[.int .i64 a, .int .i64 b, .int .i64 c, .int .i64 d]] w fun e w' => e = .returned (.bool z) ∧ Below w.heap.size w w' := h ▸ wEmpty_any a b c d w
end Go.Proofs.Ytbbnojfecmocgaa
namespace Go.Proofs.Ytbbnojfecmocgaa
open Go.RowKit
/-- What Of tells. -/
def OfZ (k d b p q r s E : Int) : Prop := (okP k d b = true ∧ zoneR k d b = ⟨p, q, r, s⟩ ∧ E = 0) ∨ (okP k d b = false ∧ p = 0 ∧ q = 0 ∧ r = 0 ∧ s = 0 ∧ E = 1)
end Go.Proofs.Ytbbnojfecmocgaa
namespace Go.Proofs.Ytbbnojfecmocgaa
open Go.RowKit
/-- How far a number is from the nearest of a span. -/
def offI (k n lo c : Int) : Int := if lo ≤ n ∧ n < lo + c then 0 else min (apart k n lo) (apart k n (lo + c - 1))
/-- How far a cell is from a rectangle; -1 of what may not be. -/
def distR (k : Int) (r : Rc) (a b : Int) : Int := if rightR k r = true ∧ neR r = true ∧ hasB k a b = true then offI k a r.x r.w + offI k b r.y r.h else -1
section
variable {k a : Int}
theorem apart_nn {b : Int} (ha : inB k a = true) (hb : inB k b = true) : 0 ≤ apart k a b := (apart_half ha hb).1
end
end Go.Proofs.Ytbbnojfecmocgaa
namespace Go.Proofs.Ytbbnojfecmocgaa
open Go.RowKit
theorem offI_bd {k n lo c : Int} (hn : inB k n = true) (hl : 0 ≤ lo ∧ 0 < c ∧ lo + c ≤ side k) : 0 ≤ offI k n lo c ∧ offI k n lo c ≤ 65536 := by
  have hsd := side_bd k
  have h1 := apart_half hn (show inB k lo = true from (inB_iff _ _).2 (by omega))
  have h2 := apart_half hn (show inB k (lo + c - 1) = true from (inB_iff _ _).2 (by omega))
  unfold offI
  split <;> omega
end Go.Proofs.Ytbbnojfecmocgaa
namespace Go.Proofs.Ytbbnojfecmocgaa
open Go.RowKit
def DistC : Prop := ∀ (k a b c d x y : Int), a ≤ 9223372036854775807 → b ≤ 9223372036854775807 → ∀ (w : World), Calls Try.prog 36 #[.agg #[.int .i64 k], .agg #[.int .i64 a, .int .i64 b, .int .i64 c, .int .i64 d], .agg #[.int .i64 x, .int .i64 y]] w fun z w' => z = .returned (.int .i64 (distR k ⟨a, b, c, d⟩ x y)) ∧ Below w.heap.size w w'
def RightC : Prop := ∀ (k a b c d : Int), a ≤ 9223372036854775807 → b ≤ 9223372036854775807 → ∀ (w : World), Calls Try.prog 70 #[.agg #[.int .i64 k], .agg #[.int .i64 a, .int .i64 b, .int .i64 c, .int .i64 d]] w fun z w' => z = .returned (.bool (rightR k ⟨a, b, c, d⟩)) ∧ Below w.heap.size w w'
end Go.Proofs.Ytbbnojfecmocgaa
namespace Go.Proofs.Ytbbnojfecmocgaa
open Go.RowKit
set_option linter.unusedVariables false
set_option linter.unusedSimpArgs false
theorem of_ex (k d b : Int) : ∃ p q r s E : Int, OfZ k d b p q r s E := by
  cases h : okP k d b
  · exact ⟨0, 0, 0, 0, 1, .inr ⟨h, rfl, rfl, rfl, rfl, rfl⟩⟩
  · exact ⟨(zoneR k d b).x, (zoneR k d b).y, (zoneR k d b).w, (zoneR k d b).h, 0, .inl ⟨h, rfl, rfl⟩⟩
theorem ofz_no {k d b p q r s E : Int} (h : OfZ k d b p q r s E) (g : okP k d b = false) : E = 1 := by
  rcases h with ⟨h, _⟩ | ⟨_, _, _, _, _, e⟩
  · rw [h] at g; exact absurd g (by decide)
  · exact e
end Go.Proofs.Ytbbnojfecmocgaa
