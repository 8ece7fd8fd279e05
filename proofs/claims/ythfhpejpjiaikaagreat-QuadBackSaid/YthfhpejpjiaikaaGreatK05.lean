/- point: what must be so of a record, a call, an answer. gleberef07.cell, RightRec, RightOp, RightAns. -/
import Derived.Test.YthfhpejpjiaikaaGreatK02
import Derived.Deep.Cut
import Derived.Deep.CutRange
namespace Go.Proofs.YthfhpejpjiaikaaGreat
open Go.RowKit
set_option linter.unusedVariables false
/-- From a to b. -/
def bet (n a b : Int) : Bool := decide (a ≤ n ∧ n ≤ b)
theorem bet_iff (n a b : Int) : bet n a b = true ↔ a ≤ n ∧ n ≤ b := by unfold bet; exact decide_eq_true_iff
def keyB (s : ByteArray) : Bool := bet s.size 1 16
def valB (s : ByteArray) : Bool := decide ((s.size : Int) ≤ 32)
def recB (x y : Int) (key val : ByteArray) (ver : Int) : Bool := hasB 16 x y && (keyB key && (valB val && bet ver 1 1099511627776))
theorem all_any (g off n c : Nat) (l : List Bool) (w : World) (hn : l.length = n) (hl : n ≤ 1000000) (hc : ∀ i (h : i < l.length), w.cell? ⟨g, off + i, none⟩ = some (.bool l[i])) :
    Calls Tryz.prog 78 #[.slice (some ⟨g, off, none⟩) n c] w fun e w' => e = .returned (.bool (l.all id)) ∧ w = w' := by
  obtain ⟨R, hR⟩ : ∃ R, R = l.all id := ⟨_, rfl⟩
  rw [← hR]
  have HR := Lib.hid hR
  have HN := Lib.hid hn
  clear hR
  go_enter Tryz.func78, Tryz.ntmps78
  go_wp2
  go_loop [7] (fun i => ∃ k : Nat, k ≤ n ∧ i = .int .i64 (k : Int) ∧ (l.take k).all id = true) (fun i => n - (intOf i).toNat)
  case atStart => exact ⟨0, by omega, rfl, rfl⟩
  case round =>
    obtain ⟨k, hk, rfl, ha⟩ := hrel
    by_cases hlt : k < n
    · have hcell := hc k (by omega)
      have HA := Lib.hid ha
      cases hb : l[k]'(by omega) with
      | true =>
        rw [hb] at hcell
        have HB := Lib.hid (show l[k]? = some true by rw [List.getElem?_eq_getElem (by omega), hb])
        clear hc hb ha hn
        go_wp2
        go_round
        case rel =>
          refine ⟨k + 1, by omega, by go_num, ?_⟩
          rw [List.take_add_one, HB.out, List.all_append, HA.out]
          rfl
        case measure => simp [intOf]; omega
      | false =>
        rw [hb] at hcell
        have HB := Lib.hid (show l[k]? = some false by rw [List.getElem?_eq_getElem (by omega), hb])
        clear hc hb ha hn
        go_wp2
        obtain rfl : R = false := by
          rw [HR.out, List.all_eq_false]
          exact ⟨false, List.mem_of_getElem? HB.out, by simp⟩
        go_ret
        exact ⟨rfl, rfl⟩
    · have HA := Lib.hid ha
      clear hc hn ha
      obtain rfl : k = n := by omega
      obtain rfl : R = true := by
        have h2 := HA.out
        rw [List.take_of_length_le (Nat.le_of_eq HN.out)] at h2
        rw [HR.out, h2]
      clear HR HA
      go_wp2
      go_ret
      exact ⟨rfl, rfl⟩
theorem all_whole {w : World} {g : Nat} {l : List Bool} {cs : Array Value} {t : TypeId} (n c : Nat) (h : Whole w g t cs) (hn : l.length = n) (hl : n ≤ 1000000) (hc : cs = (l.map Value.bool).toArray) :
    Calls Tryz.prog 78 #[.slice (some ⟨g, 0, none⟩) n c] w fun e w' => e = .returned (.bool (l.all id)) ∧ w = w' := by
  refine all_any g 0 n c l w hn hl fun i hi => ?_
  rw [Nat.zero_add, h.cell, hc]
  simp [hi]
theorem all_four {w : World} {g : Nat} {t : TypeId} {b1 b2 b3 b4 : Bool} (h : Whole w g t #[.bool b1, .bool b2, .bool b3, .bool b4]) :
    Calls Tryz.prog 78 #[.slice (some ⟨g, 0, none⟩) 4 4] w fun e w' => e = .returned (.bool (b1 && (b2 && (b3 && b4)))) ∧ w = w' := by
  have := all_whole (l := [b1, b2, b3, b4]) 4 4 h rfl (by decide) rfl
  simpa using this
theorem within_any7 (n a b : Int) (w : World) : Calls Tryz.prog 82 #[.int .i64 n, .int .i64 a, .int .i64 b] w fun e w' => e = .returned (.bool (bet n a b)) ∧ w = w' := by
  by_cases h : a ≤ n
  · by_cases h2 : n ≤ b
    · rw [(bet_iff n a b).2 ⟨h, h2⟩]
      go_enter Tryz.func82, Tryz.ntmps82
      go_wp2
      go_ret
      exact ⟨rfl, rfl⟩
    · rw [show bet n a b = false from Bool.eq_false_iff.2 fun e => h2 ((bet_iff n a b).1 e).2]
      go_enter Tryz.func82, Tryz.ntmps82
      go_wp2
      go_ret
      exact ⟨rfl, rfl⟩
  · rw [show bet n a b = false from Bool.eq_false_iff.2 fun e => h ((bet_iff n a b).1 e).1]
    go_enter Tryz.func82, Tryz.ntmps82
    go_wp2
    go_ret
    exact ⟨rfl, rfl⟩
theorem qwithin_at {n a b : Int} {r : Bool} (h : bet n a b = r) (w : World) : Calls Tryz.prog 82 #[.int .i64 n, .int .i64 a, .int .i64 b] w fun e w' => e = .returned (.bool r) ∧ w = w' := h ▸ within_any7 n a b w
theorem rightKey_at {s : ByteArray} {r : Bool} (h : keyB s = r) (w : World) : Calls Tryz.prog 80 #[.string s] w fun e w' => e = .returned (.bool r) ∧ w = w' := by
  unfold keyB at h
  have HK := Lib.hid h
  clear h
  go_enter Tryz.func80, Tryz.ntmps80
  go_wp2_with (go_at_call 82; (with_reducible refine (qwithin_at HK.out _).mono ?_); rintro e w' ⟨rfl, rfl⟩)
  go_ret
  exact ⟨rfl, rfl⟩
theorem rightValue_at {s : ByteArray} {r : Bool} (h : valB s = r) (w : World) : Calls Tryz.prog 81 #[.string s] w fun e w' => e = .returned (.bool r) ∧ w = w' := by
  unfold valB at h
  have HK := Lib.hid h
  clear h
  go_enter Tryz.func81, Tryz.ntmps81
  go_wp2
  go_ret
  exact ⟨ret_bool HK.out, rfl⟩
theorem rightCell_at {x y : Int} {r : Bool} (h : hasB 16 x y = r) (w : World) : Calls Tryz.prog 79 #[.agg #[.int .i64 x, .int .i64 y]] w fun e w' => e = .returned (.bool r) ∧ Below w.heap.size w w' := by
  have HK := Lib.hid h
  clear h
  obtain ⟨w0, hw0⟩ : ∃ w0, w0 = w.alloc (.cells #[.int .i64 x, .int .i64 y] 50) := ⟨_, rfl⟩
  have hs0 : Since w w0 := by rw [hw0]; exact (Since.refl w).alloc _
  have wh0 : Whole w0 (w.heap.size) 50 #[.int .i64 x, .int .i64 y] := by rw [hw0]; exact Whole.new w _ _
  have HW := Lib.hid hw0
  have c0_0 := box_cell wh0 0 (.int .i64 x) rfl
  have c0_1 := box_cell wh0 1 (.int .i64 y) rfl
  have hsr := Since.refl w0
  have hsd := hsr.drew
  clear hw0 wh0
  go_enter Tryz.func79, Tryz.ntmps79
  go_wp2_with fail
  rw [← HW.out]
  go_wp2_with (go_at_call 105; (with_reducible refine (Calls.since (by assumption) (has_at HK.out _)).mono ?_); rintro e w1 ⟨rfl, hb1⟩)
  go_ret
  exact ⟨rfl, hs0.trans (by assumption)⟩
set_option maxRecDepth 100000 in
set_option maxHeartbeats 1600000 in
theorem rightRec_any (x y : Int) (key val : ByteArray) (ver : Int) (w : World) :
    Calls Tryz.prog 47 #[.agg #[.int .i64 x, .int .i64 y, .string key, .string val, .int .i64 ver]] w fun e w' => e = .returned (.bool (recB x y key val ver)) ∧ Below w.heap.size w w' := by
  unfold recB
  obtain ⟨b1, h1⟩ : ∃ b, hasB 16 x y = b := ⟨_, rfl⟩
  obtain ⟨b2, h2⟩ : ∃ b, keyB key = b := ⟨_, rfl⟩
  obtain ⟨b3, h3⟩ : ∃ b, valB val = b := ⟨_, rfl⟩
  obtain ⟨b4, h4⟩ : ∃ b, bet ver 1 1099511627776 = b := ⟨_, rfl⟩
  rw [h1, h2, h3, h4]
  replace h1 := Lib.hid h1
  replace h2 := Lib.hid h2
  replace h3 := Lib.hid h3
  replace h4 := Lib.hid h4
  obtain ⟨w0, hw0⟩ : ∃ w0, w0 = w.alloc (.cells #[.int .i64 x, .int .i64 y, .string key, .string val, .int .i64 ver] 55) := ⟨_, rfl⟩
  have hs0 : Since w w0 := by rw [hw0]; exact (Since.refl w).alloc _
  have wh0 : Whole w0 (w.heap.size) 55 #[.int .i64 x, .int .i64 y, .string key, .string val, .int .i64 ver] := by rw [hw0]; exact Whole.new w _ _
  have HW := Lib.hid hw0
  have c0_0 := box_cell wh0 0 (.int .i64 x) rfl
  have c0_1 := box_cell wh0 1 (.int .i64 y) rfl
  have c0_2 := box_cell wh0 2 (.string key) rfl
  have c0_3 := box_cell wh0 3 (.string val) rfl
  have c0_4 := box_cell wh0 4 (.int .i64 ver) rfl
  have hsr := Since.refl w0
  have hsd := hsr.drew
  clear hw0 wh0
  go_enter Tryz.func47, Tryz.ntmps47
  go_wp2_with fail
  rw [← HW.out]
  go_region_held3 (fun W => Since w0 W) (first | assumption | exact Since.drew (by assumption) | exact Since.alloc (by assumption) _ | exact Since.alloc (Since.drew (by assumption)) _) ((first | (go_at_call 79; (with_reducible refine (Calls.since (by assumption) (rightCell_at h1.out _)).mono ?_); rintro e w1 ⟨rfl, hb1⟩) | (go_at_call 80; (with_reducible refine (Calls.since_same (by assumption) (rightKey_at h2.out _)).mono ?_); rintro e w1 ⟨rfl, hb1⟩) | (go_at_call 81; (with_reducible refine (Calls.since_same (by assumption) (rightValue_at h3.out _)).mono ?_); rintro e w1 ⟨rfl, hb1⟩) | (go_at_call 82; (with_reducible refine (Calls.since_same (by assumption) (qwithin_at h4.out _)).mono ?_); rintro e w1 ⟨rfl, hb1⟩) | (go_at_call 78; (with_reducible refine (Calls.since_same (by assumption) (all_four (Whole.new _ _ _))).mono ?_); rintro e w1 ⟨rfl, hb1⟩)))
  go_wp2
  go_ret
  exact ⟨rfl, hs0.trans (by assumption)⟩
theorem side16 : side 16 = 65536 := rfl
end Go.Proofs.YthfhpejpjiaikaaGreat
namespace Go.Proofs.YthfhpejpjiaikaaGreat
open Go.RowKit
set_option linter.unusedVariables false
theorem refCell_at {x y : Int} {r : Bool} (h : hasB 16 x y = r) (w : World) : Calls Tryz.prog 71 #[.agg #[.int .i64 x, .int .i64 y]] w fun e w' => e = .returned (.bool r) ∧ Below w.heap.size w w' := by
  have hi := hasB_iff 16 x y
  rw [side16, h] at hi
  have hbx : Below w.heap.size w (w.alloc (.cells #[.int .i64 x, .int .i64 y] 50)) := (Since.refl w).alloc _
  by_cases g16 : 0 ≤ x
  · by_cases g17 : x < 65536
    · by_cases g18 : 0 ≤ y
      · by_cases g19 : y < 65536
        · obtain rfl : r = true := hi.2 ⟨by omega, by omega, by omega, by omega⟩
          clear hi h
          go_enter Tryz.func71, Tryz.ntmps71
          go_wp2
          go_ret
          exact ⟨rfl, hbx⟩
        · obtain rfl : r = false := by cases r with | false => rfl | true => exact absurd (hi.1 rfl) (by omega)
          clear hi h
          go_enter Tryz.func71, Tryz.ntmps71
          go_wp2
          go_ret
          exact ⟨rfl, hbx⟩
      · obtain rfl : r = false := by cases r with | false => rfl | true => exact absurd (hi.1 rfl) (by omega)
        clear hi h
        go_enter Tryz.func71, Tryz.ntmps71
        go_wp2
        go_ret
        exact ⟨rfl, hbx⟩
    · obtain rfl : r = false := by cases r with | false => rfl | true => exact absurd (hi.1 rfl) (by omega)
      clear hi h
      go_enter Tryz.func71, Tryz.ntmps71
      go_wp2
      go_ret
      exact ⟨rfl, hbx⟩
  · obtain rfl : r = false := by cases r with | false => rfl | true => exact absurd (hi.1 rfl) (by omega)
    clear hi h
    go_enter Tryz.func71, Tryz.ntmps71
    go_wp2
    go_ret
    exact ⟨rfl, hbx⟩
set_option maxRecDepth 100000 in
set_option maxHeartbeats 3200000 in
theorem refRightRec_at {x y : Int} {key val : ByteArray} {ver : Int} {r : Bool} (h : recB x y key val ver = r) (w : World) :
    Calls Tryz.prog 40 #[.agg #[.int .i64 x, .int .i64 y, .string key, .string val, .int .i64 ver]] w fun e w' => e = .returned (.bool r) ∧ Below w.heap.size w w' := by
  obtain ⟨w0, hw0⟩ : ∃ w0, w0 = w.alloc (.cells #[.int .i64 x, .int .i64 y, .string key, .string val, .int .i64 ver] 52) := ⟨_, rfl⟩
  have hs0 : Since w w0 := by rw [hw0]; exact (Since.refl w).alloc _
  have wh0 : Whole w0 (w.heap.size) 52 #[.int .i64 x, .int .i64 y, .string key, .string val, .int .i64 ver] := by rw [hw0]; exact Whole.new w _ _
  have HW := Lib.hid hw0
  have c0_0 := box_cell wh0 0 (.int .i64 x) rfl
  have c0_1 := box_cell wh0 1 (.int .i64 y) rfl
  have c0_2 := box_cell wh0 2 (.string key) rfl
  have c0_3 := box_cell wh0 3 (.string val) rfl
  have c0_4 := box_cell wh0 4 (.int .i64 ver) rfl
  have hsr := Since.refl w0
  have hsd := hsr.drew
  clear hw0 wh0
  cases hc : (hasB 16 x y) with
  | false =>
    obtain rfl : r = false := by rw [← h]; simp only [recB, keyB, valB, bet]; simp [*]
    clear h
    go_enter Tryz.func40, Tryz.ntmps40
    go_wp2_with fail
    rw [← HW.out]
    go_wp2_with (first | (go_at_call 71; (with_reducible refine (Calls.since (by assumption) (refCell_at (by assumption) _)).mono ?_); rintro e w1 ⟨rfl, hb1⟩) | fail)
    go_ret
    exact ⟨by first | rfl | simp [*], hs0.trans (by assumption)⟩
  | true =>
    by_cases g15 : 1 ≤ (key.size : Int)
    · by_cases g16 : (key.size : Int) ≤ 16
      · by_cases g17 : (val.size : Int) ≤ 32
        · by_cases g18 : 1 ≤ ver
          · by_cases g19 : ver ≤ 1099511627776
            · obtain rfl : r = true := by rw [← h]; simp only [recB, keyB, valB, bet]; simp [*]
              clear h
              go_enter Tryz.func40, Tryz.ntmps40
              go_wp2_with fail
              rw [← HW.out]
              go_wp2_with (first | (go_at_call 71; (with_reducible refine (Calls.since (by assumption) (refCell_at (by assumption) _)).mono ?_); rintro e w1 ⟨rfl, hb1⟩) | fail)
              go_ret
              exact ⟨by first | rfl | simp [*], hs0.trans (by assumption)⟩
            · obtain rfl : r = false := by rw [← h]; simp only [recB, keyB, valB, bet]; simp [*]
              clear h
              go_enter Tryz.func40, Tryz.ntmps40
              go_wp2_with fail
              rw [← HW.out]
              go_wp2_with (first | (go_at_call 71; (with_reducible refine (Calls.since (by assumption) (refCell_at (by assumption) _)).mono ?_); rintro e w1 ⟨rfl, hb1⟩) | fail)
              go_ret
              exact ⟨by first | rfl | simp [*], hs0.trans (by assumption)⟩
          · obtain rfl : r = false := by rw [← h]; simp only [recB, keyB, valB, bet]; simp [*]
            clear h
            go_enter Tryz.func40, Tryz.ntmps40
            go_wp2_with fail
            rw [← HW.out]
            go_wp2_with (first | (go_at_call 71; (with_reducible refine (Calls.since (by assumption) (refCell_at (by assumption) _)).mono ?_); rintro e w1 ⟨rfl, hb1⟩) | fail)
            go_ret
            exact ⟨by first | rfl | simp [*], hs0.trans (by assumption)⟩
        · obtain rfl : r = false := by rw [← h]; simp only [recB, keyB, valB, bet]; simp [*]
          clear h
          go_enter Tryz.func40, Tryz.ntmps40
          go_wp2_with fail
          rw [← HW.out]
          go_wp2_with (first | (go_at_call 71; (with_reducible refine (Calls.since (by assumption) (refCell_at (by assumption) _)).mono ?_); rintro e w1 ⟨rfl, hb1⟩) | fail)
          go_ret
          exact ⟨by first | rfl | simp [*], hs0.trans (by assumption)⟩
      · obtain rfl : r = false := by rw [← h]; simp only [recB, keyB, valB, bet]; simp [*]
        clear h
        go_enter Tryz.func40, Tryz.ntmps40
        go_wp2_with fail
        rw [← HW.out]
        go_wp2_with (first | (go_at_call 71; (with_reducible refine (Calls.since (by assumption) (refCell_at (by assumption) _)).mono ?_); rintro e w1 ⟨rfl, hb1⟩) | fail)
        go_ret
        exact ⟨by first | rfl | simp [*], hs0.trans (by assumption)⟩
    · obtain rfl : r = false := by rw [← h]; simp only [recB, keyB, valB, bet]; simp [*]
      clear h
      go_enter Tryz.func40, Tryz.ntmps40
      go_wp2_with fail
      rw [← HW.out]
      go_wp2_with (first | (go_at_call 71; (with_reducible refine (Calls.since (by assumption) (refCell_at (by assumption) _)).mono ?_); rintro e w1 ⟨rfl, hb1⟩) | fail)
      go_ret
      exact ⟨by first | rfl | simp [*], hs0.trans (by assumption)⟩
end Go.Proofs.YthfhpejpjiaikaaGreat
