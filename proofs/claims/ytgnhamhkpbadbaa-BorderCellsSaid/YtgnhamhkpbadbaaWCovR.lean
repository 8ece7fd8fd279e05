/- gleberef04.Cut of all, Covers. -/
import Derived.Test.YtgnhamhkpbadbaaWCutR
namespace Go.Proofs.Ytgnhamhkpbadbaa
open Go.RowKit
/-- What Of tells. -/
def OfZ (k d b p q r s E : Int) : Prop := (okP k d b = true ∧ zoneR k d b = ⟨p, q, r, s⟩ ∧ E = 0) ∨ (okP k d b = false ∧ p = 0 ∧ q = 0 ∧ r = 0 ∧ s = 0 ∧ E = 1)
theorem ofZ_ex (k d b : Int) : ∃ p q r s E, OfZ k d b p q r s E := by
  cases h : okP k d b with
  | true => exact ⟨_, _, _, _, 0, .inl ⟨h, rfl, rfl⟩⟩
  | false => exact ⟨0, 0, 0, 0, 1, .inr ⟨h, rfl, rfl, rfl, rfl, rfl⟩⟩
theorem wrOf_at {k d b p q r s E : Int} (w : World) (h : OfZ k d b p q r s E) : Calls Try.prog 76 #[.int .i64 k, .agg #[.int .i64 d, .int .i64 b]] w fun e w' => e = .returned (.tuple #[.agg #[.int .i64 p, .int .i64 q, .int .i64 r, .int .i64 s], .int .i64 E]) ∧ Below w.heap.size w w' := by
  rcases h with ⟨h, hz, rfl⟩ | ⟨h, rfl, rfl, rfl, rfl, rfl⟩
  · exact wrOf_yes k d b p q r s w h hz
  · exact wrOf_no k d b w h
theorem areaR_le (r : Rc) : areaR r ≤ 1152921504606846976 := by
  unfold areaR
  split
  · next h => have := (fineR_iff r).1 h; exact Int.le_trans (Int.mul_le_mul (show r.w ≤ 1073741824 by omega) (show r.h ≤ 1073741824 by omega) (by omega) (by omega)) (by decide)
  · decide
/-- A sum of a few areas. -/
theorem sum_bd (l : List Rc) : 0 ≤ sumF areaR l ∧ sumF areaR l ≤ l.length * 1152921504606846976 := by
  induction l with
  | nil => exact ⟨Int.le_refl _, Int.le_refl _⟩
  | cons r l ih =>
    have h1 := areaR_nn r
    have h2 := areaR_le r
    show 0 ≤ areaR r + sumF areaR l ∧ areaR r + sumF areaR l ≤ _
    rw [List.length_cons]
    omega
end Go.Proofs.Ytgnhamhkpbadbaa
