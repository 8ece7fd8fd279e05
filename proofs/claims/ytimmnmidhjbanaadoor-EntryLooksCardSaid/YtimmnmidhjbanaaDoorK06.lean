/- gleberef07.cell, RightRec, RightOp, RightAns. -/
import Derived.Test.YtimmnmidhjbanaaDoorK05
namespace Go.Proofs.YtimmnmidhjbanaaDoor
open Go.RowKit
set_option linter.unusedVariables false
theorem refCell_at {x y : Int} {r : Bool} (h : hasB 16 x y = r) (w : World) : Calls Tryd.prog 73 #[.agg #[.int .i64 x, .int .i64 y]] w fun e w' => e = .returned (.bool r) ∧ Below w.heap.size w w' := by
  have hi := hasB_iff 16 x y
  rw [side16, h] at hi
  have hbx : Below w.heap.size w (w.alloc (.cells #[.int .i64 x, .int .i64 y] 23)) := (Since.refl w).alloc _
  by_cases g16 : 0 ≤ x
  · by_cases g17 : x < 65536
    · by_cases g18 : 0 ≤ y
      · by_cases g19 : y < 65536
        · obtain rfl : r = true := hi.2 ⟨by omega, by omega, by omega, by omega⟩
          clear hi h
          go_enter Tryd.func73, Tryd.ntmps73
          go_wp2
          go_ret
          exact ⟨rfl, hbx⟩
        · obtain rfl : r = false := by cases r with | false => rfl | true => exact absurd (hi.1 rfl) (by omega)
          clear hi h
          go_enter Tryd.func73, Tryd.ntmps73
          go_wp2
          go_ret
          exact ⟨rfl, hbx⟩
      · obtain rfl : r = false := by cases r with | false => rfl | true => exact absurd (hi.1 rfl) (by omega)
        clear hi h
        go_enter Tryd.func73, Tryd.ntmps73
        go_wp2
        go_ret
        exact ⟨rfl, hbx⟩
    · obtain rfl : r = false := by cases r with | false => rfl | true => exact absurd (hi.1 rfl) (by omega)
      clear hi h
      go_enter Tryd.func73, Tryd.ntmps73
      go_wp2
      go_ret
      exact ⟨rfl, hbx⟩
  · obtain rfl : r = false := by cases r with | false => rfl | true => exact absurd (hi.1 rfl) (by omega)
    clear hi h
    go_enter Tryd.func73, Tryd.ntmps73
    go_wp2
    go_ret
    exact ⟨rfl, hbx⟩
set_option maxRecDepth 100000 in
set_option maxHeartbeats 3200000 in
theorem refRightOp_at {kind x y : Int} {key val : ByteArray} {cl seq : Int} {r : Bool} (h : opB kind x y key val cl seq = r) (w : World) :
    Calls Tryd.prog 48 #[.agg #[.int .i64 kind, .int .i64 x, .int .i64 y, .string key, .string val, .int .i64 cl, .int .i64 seq]] w fun e w' => e = .returned (.bool r) ∧ Below w.heap.size w w' := by
  obtain ⟨w0, hw0⟩ : ∃ w0, w0 = w.alloc (.cells #[.int .i64 kind, .int .i64 x, .int .i64 y, .string key, .string val, .int .i64 cl, .int .i64 seq] 25) := ⟨_, rfl⟩
  have hs0 : Since w w0 := by rw [hw0]; exact (Since.refl w).alloc _
  have wh0 : Whole w0 (w.heap.size) 25 #[.int .i64 kind, .int .i64 x, .int .i64 y, .string key, .string val, .int .i64 cl, .int .i64 seq] := by rw [hw0]; exact Whole.new w _ _
  have HW := Lib.hid hw0
  have c0_0 := box_cell wh0 0 (.int .i64 kind) rfl
  have c0_1 := box_cell wh0 1 (.int .i64 x) rfl
  have c0_2 := box_cell wh0 2 (.int .i64 y) rfl
  have c0_3 := box_cell wh0 3 (.string key) rfl
  have c0_4 := box_cell wh0 4 (.string val) rfl
  have c0_5 := box_cell wh0 5 (.int .i64 cl) rfl
  have c0_6 := box_cell wh0 6 (.int .i64 seq) rfl
  have hsr := Since.refl w0
  have hsd := hsr.drew
  clear hw0 wh0
  by_cases g9 : 1 ≤ kind
  · by_cases g10 : kind ≤ 3
    · cases hc : (hasB 16 x y) with
      | false =>
        obtain rfl : r = false := by rw [← h]; simp only [opB, keyB, valB, bet]; simp [*]
        clear h
        go_enter Tryd.func48, Tryd.ntmps48
        go_wp2_with fail
        rw [← HW.out]
        go_wp2_with (first | (go_at_call 73; (with_reducible refine (Calls.since (by assumption) (refCell_at (by assumption) _)).mono ?_); rintro e w1 ⟨rfl, hb1⟩) | fail)
        go_ret
        exact ⟨by first | rfl | simp [*], hs0.trans (by assumption)⟩
      | true =>
        by_cases g12 : 1 ≤ (key.size : Int)
        · by_cases g13 : (key.size : Int) ≤ 16
          · by_cases g14 : (val.size : Int) ≤ 32
            · cases hk : (kind == 2) with
              | true =>
                by_cases g16 : 0 ≤ cl
                · by_cases g17 : cl ≤ 7
                  · by_cases g18 : 1 ≤ seq
                    · by_cases g19 : seq ≤ 1099511627776
                      · obtain rfl : r = true := by rw [← h]; simp only [opB, keyB, valB, bet]; simp [*]
                        clear h
                        go_enter Tryd.func48, Tryd.ntmps48
                        go_wp2_with fail
                        rw [← HW.out]
                        go_wp2_with (first | (go_at_call 73; (with_reducible refine (Calls.since (by assumption) (refCell_at (by assumption) _)).mono ?_); rintro e w1 ⟨rfl, hb1⟩) | fail)
                        go_ret
                        exact ⟨by first | rfl | simp [*], hs0.trans (by assumption)⟩
                      · obtain rfl : r = false := by rw [← h]; simp only [opB, keyB, valB, bet]; simp [*]
                        clear h
                        go_enter Tryd.func48, Tryd.ntmps48
                        go_wp2_with fail
                        rw [← HW.out]
                        go_wp2_with (first | (go_at_call 73; (with_reducible refine (Calls.since (by assumption) (refCell_at (by assumption) _)).mono ?_); rintro e w1 ⟨rfl, hb1⟩) | fail)
                        go_ret
                        exact ⟨by first | rfl | simp [*], hs0.trans (by assumption)⟩
                    · obtain rfl : r = false := by rw [← h]; simp only [opB, keyB, valB, bet]; simp [*]
                      clear h
                      go_enter Tryd.func48, Tryd.ntmps48
                      go_wp2_with fail
                      rw [← HW.out]
                      go_wp2_with (first | (go_at_call 73; (with_reducible refine (Calls.since (by assumption) (refCell_at (by assumption) _)).mono ?_); rintro e w1 ⟨rfl, hb1⟩) | fail)
                      go_ret
                      exact ⟨by first | rfl | simp [*], hs0.trans (by assumption)⟩
                  · obtain rfl : r = false := by rw [← h]; simp only [opB, keyB, valB, bet]; simp [*]
                    clear h
                    go_enter Tryd.func48, Tryd.ntmps48
                    go_wp2_with fail
                    rw [← HW.out]
                    go_wp2_with (first | (go_at_call 73; (with_reducible refine (Calls.since (by assumption) (refCell_at (by assumption) _)).mono ?_); rintro e w1 ⟨rfl, hb1⟩) | fail)
                    go_ret
                    exact ⟨by first | rfl | simp [*], hs0.trans (by assumption)⟩
                · obtain rfl : r = false := by rw [← h]; simp only [opB, keyB, valB, bet]; simp [*]
                  clear h
                  go_enter Tryd.func48, Tryd.ntmps48
                  go_wp2_with fail
                  rw [← HW.out]
                  go_wp2_with (first | (go_at_call 73; (with_reducible refine (Calls.since (by assumption) (refCell_at (by assumption) _)).mono ?_); rintro e w1 ⟨rfl, hb1⟩) | fail)
                  go_ret
                  exact ⟨by first | rfl | simp [*], hs0.trans (by assumption)⟩
              | false =>
                cases hv : (val.toList.isEmpty) with
                | false =>
                  obtain rfl : r = false := by rw [← h]; simp only [opB, keyB, valB, bet]; simp [*]
                  clear h
                  go_enter Tryd.func48, Tryd.ntmps48
                  go_wp2_with fail
                  rw [← HW.out]
                  go_wp2_with (first | (go_at_call 73; (with_reducible refine (Calls.since (by assumption) (refCell_at (by assumption) _)).mono ?_); rintro e w1 ⟨rfl, hb1⟩) | fail)
                  go_ret
                  exact ⟨by first | rfl | simp [*], hs0.trans (by assumption)⟩
                | true =>
                  by_cases g16 : 0 ≤ cl
                  · by_cases g17 : cl ≤ 7
                    · by_cases g18 : 1 ≤ seq
                      · by_cases g19 : seq ≤ 1099511627776
                        · obtain rfl : r = true := by rw [← h]; simp only [opB, keyB, valB, bet]; simp [*]
                          clear h
                          go_enter Tryd.func48, Tryd.ntmps48
                          go_wp2_with fail
                          rw [← HW.out]
                          go_wp2_with (first | (go_at_call 73; (with_reducible refine (Calls.since (by assumption) (refCell_at (by assumption) _)).mono ?_); rintro e w1 ⟨rfl, hb1⟩) | fail)
                          go_ret
                          exact ⟨by first | rfl | simp [*], hs0.trans (by assumption)⟩
                        · obtain rfl : r = false := by rw [← h]; simp only [opB, keyB, valB, bet]; simp [*]
                          clear h
                          go_enter Tryd.func48, Tryd.ntmps48
                          go_wp2_with fail
                          rw [← HW.out]
                          go_wp2_with (first | (go_at_call 73; (with_reducible refine (Calls.since (by assumption) (refCell_at (by assumption) _)).mono ?_); rintro e w1 ⟨rfl, hb1⟩) | fail)
                          go_ret
                          exact ⟨by first | rfl | simp [*], hs0.trans (by assumption)⟩
                      · obtain rfl : r = false := by rw [← h]; simp only [opB, keyB, valB, bet]; simp [*]
                        clear h
                        go_enter Tryd.func48, Tryd.ntmps48
                        go_wp2_with fail
                        rw [← HW.out]
                        go_wp2_with (first | (go_at_call 73; (with_reducible refine (Calls.since (by assumption) (refCell_at (by assumption) _)).mono ?_); rintro e w1 ⟨rfl, hb1⟩) | fail)
                        go_ret
                        exact ⟨by first | rfl | simp [*], hs0.trans (by assumption)⟩
                    · obtain rfl : r = false := by rw [← h]; simp only [opB, keyB, valB, bet]; simp [*]
                      clear h
                      go_enter Tryd.func48, Tryd.ntmps48
                      go_wp2_with fail
                      rw [← HW.out]
                      go_wp2_with (first | (go_at_call 73; (with_reducible refine (Calls.since (by assumption) (refCell_at (by assumption) _)).mono ?_); rintro e w1 ⟨rfl, hb1⟩) | fail)
                      go_ret
                      exact ⟨by first | rfl | simp [*], hs0.trans (by assumption)⟩
                  · obtain rfl : r = false := by rw [← h]; simp only [opB, keyB, valB, bet]; simp [*]
                    clear h
                    go_enter Tryd.func48, Tryd.ntmps48
                    go_wp2_with fail
                    rw [← HW.out]
                    go_wp2_with (first | (go_at_call 73; (with_reducible refine (Calls.since (by assumption) (refCell_at (by assumption) _)).mono ?_); rintro e w1 ⟨rfl, hb1⟩) | fail)
                    go_ret
                    exact ⟨by first | rfl | simp [*], hs0.trans (by assumption)⟩
            · obtain rfl : r = false := by rw [← h]; simp only [opB, keyB, valB, bet]; simp [*]
              clear h
              go_enter Tryd.func48, Tryd.ntmps48
              go_wp2_with fail
              rw [← HW.out]
              go_wp2_with (first | (go_at_call 73; (with_reducible refine (Calls.since (by assumption) (refCell_at (by assumption) _)).mono ?_); rintro e w1 ⟨rfl, hb1⟩) | fail)
              go_ret
              exact ⟨by first | rfl | simp [*], hs0.trans (by assumption)⟩
          · obtain rfl : r = false := by rw [← h]; simp only [opB, keyB, valB, bet]; simp [*]
            clear h
            go_enter Tryd.func48, Tryd.ntmps48
            go_wp2_with fail
            rw [← HW.out]
            go_wp2_with (first | (go_at_call 73; (with_reducible refine (Calls.since (by assumption) (refCell_at (by assumption) _)).mono ?_); rintro e w1 ⟨rfl, hb1⟩) | fail)
            go_ret
            exact ⟨by first | rfl | simp [*], hs0.trans (by assumption)⟩
        · obtain rfl : r = false := by rw [← h]; simp only [opB, keyB, valB, bet]; simp [*]
          clear h
          go_enter Tryd.func48, Tryd.ntmps48
          go_wp2_with fail
          rw [← HW.out]
          go_wp2_with (first | (go_at_call 73; (with_reducible refine (Calls.since (by assumption) (refCell_at (by assumption) _)).mono ?_); rintro e w1 ⟨rfl, hb1⟩) | fail)
          go_ret
          exact ⟨by first | rfl | simp [*], hs0.trans (by assumption)⟩
    · obtain rfl : r = false := by rw [← h]; simp only [opB, keyB, valB, bet]; simp [*]
      clear h
      go_enter Tryd.func48, Tryd.ntmps48
      go_wp2_with fail
      rw [← HW.out]
      go_wp2_with (first | (go_at_call 73; (with_reducible refine (Calls.since (by assumption) (refCell_at (by assumption) _)).mono ?_); rintro e w1 ⟨rfl, hb1⟩) | fail)
      go_ret
      exact ⟨by first | rfl | simp [*], hs0.trans (by assumption)⟩
  · obtain rfl : r = false := by rw [← h]; simp only [opB, keyB, valB, bet]; simp [*]
    clear h
    go_enter Tryd.func48, Tryd.ntmps48
    go_wp2_with fail
    rw [← HW.out]
    go_wp2_with (first | (go_at_call 73; (with_reducible refine (Calls.since (by assumption) (refCell_at (by assumption) _)).mono ?_); rintro e w1 ⟨rfl, hb1⟩) | fail)
    go_ret
    exact ⟨by first | rfl | simp [*], hs0.trans (by assumption)⟩
end Go.Proofs.YtimmnmidhjbanaaDoor
