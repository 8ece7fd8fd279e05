/- gleberef07.cell, RightRec, RightOp, RightAns. -/
import Derived.Test.YtbgfjkgpekkciaaK08
namespace Go.Proofs.Ytbgfjkgpekkciaa
open Go.RowKit
set_option linter.unusedVariables false
set_option maxRecDepth 100000 in
set_option maxHeartbeats 3200000 in
theorem refRightAns_at {er : Int} {found : Bool} {val : ByteArray} {ver : Int} {r : Bool} (h : ansB er found val ver = r) (w : World) :
    Calls Try.prog 43 #[.agg #[.int .i64 er, .bool found, .string val, .int .i64 ver]] w fun e w' => e = .returned (.bool r) ∧ Below w.heap.size w w' := by
  by_cases g14 : 0 ≤ er
  · by_cases g15 : er ≤ 255
    · by_cases g16 : (val.size : Int) ≤ 32
      · by_cases g17 : 0 ≤ ver
        · by_cases g18 : ver ≤ 1099511627776
          · cases hf : (found) with
            | true =>
              obtain rfl : r = true := by rw [← h]; simp only [ansB, valB, bet]; simp [*]
              clear h
              go_enter Try.func43, Try.ntmps43
              go_wp2
              go_ret
              exact ⟨by first | rfl | simp [*], (Since.refl w).alloc _⟩
            | false =>
              cases hv : (val.toList.isEmpty) with
              | false =>
                obtain rfl : r = false := by rw [← h]; simp only [ansB, valB, bet]; simp [*]
                clear h
                go_enter Try.func43, Try.ntmps43
                go_wp2
                go_ret
                exact ⟨by first | rfl | simp [*], (Since.refl w).alloc _⟩
              | true =>
                cases hz : (ver == 0) with
                | false =>
                  obtain rfl : r = false := by rw [← h]; simp only [ansB, valB, bet]; simp [*]
                  clear h
                  go_enter Try.func43, Try.ntmps43
                  go_wp2
                  go_ret
                  exact ⟨by first | rfl | simp [*], (Since.refl w).alloc _⟩
                | true =>
                  obtain rfl : r = true := by rw [← h]; simp only [ansB, valB, bet]; simp [*]
                  clear h
                  go_enter Try.func43, Try.ntmps43
                  go_wp2
                  go_ret
                  exact ⟨by first | rfl | simp [*], (Since.refl w).alloc _⟩
          · obtain rfl : r = false := by rw [← h]; simp only [ansB, valB, bet]; simp [*]
            clear h
            go_enter Try.func43, Try.ntmps43
            go_wp2
            go_ret
            exact ⟨by first | rfl | simp [*], (Since.refl w).alloc _⟩
        · obtain rfl : r = false := by rw [← h]; simp only [ansB, valB, bet]; simp [*]
          clear h
          go_enter Try.func43, Try.ntmps43
          go_wp2
          go_ret
          exact ⟨by first | rfl | simp [*], (Since.refl w).alloc _⟩
      · obtain rfl : r = false := by rw [← h]; simp only [ansB, valB, bet]; simp [*]
        clear h
        go_enter Try.func43, Try.ntmps43
        go_wp2
        go_ret
        exact ⟨by first | rfl | simp [*], (Since.refl w).alloc _⟩
    · obtain rfl : r = false := by rw [← h]; simp only [ansB, valB, bet]; simp [*]
      clear h
      go_enter Try.func43, Try.ntmps43
      go_wp2
      go_ret
      exact ⟨by first | rfl | simp [*], (Since.refl w).alloc _⟩
  · obtain rfl : r = false := by rw [← h]; simp only [ansB, valB, bet]; simp [*]
    clear h
    go_enter Try.func43, Try.ntmps43
    go_wp2
    go_ret
    exact ⟨by first | rfl | simp [*], (Since.refl w).alloc _⟩
end Go.Proofs.Ytbgfjkgpekkciaa
