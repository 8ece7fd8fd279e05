/- window.Right, Dist: which rectangles may be, how far a cell is from one. -/
import Derived.Test.YtbbnojfecmocgaaK11
namespace Go.Proofs.Ytbbnojfecmocgaa
open Go.RowKit
/-- Right's closure: does a span fit? -/
def fitB (S a c : Int) : Bool := decide (0 ≤ a ∧ 0 ≤ c ∧ c ≤ S - a)
theorem fitB_iff (S a c : Int) : fitB S a c = true ↔ 0 ≤ a ∧ 0 ≤ c ∧ c ≤ S - a := by unfold fitB; exact decide_eq_true_iff
theorem fits_any {S a c : Int} {g : Nat} (W : World) (hg : W.cell? ⟨g, 0, none⟩ = some (.int .i64 S)) (hS : 0 ≤ S ∧ S ≤ 65536) (ha : a ≤ 9223372036854775807) :
    Calls Try.prog 107 #[.int .i64 a, .int .i64 c, .pointer (some ⟨g, 0, none⟩)] W fun e w' => e = .returned (.bool (fitB S a c)) ∧ W = w' := by
  by_cases h0 : 0 ≤ a
  · have e1 : wrap64 (S - a) = S - a := IntWalk.wrap64_in _ ⟨by omega, by omega⟩
    clear hS ha
    by_cases h1 : 0 ≤ c
    · by_cases h2 : c ≤ S - a
      · rw [show fitB S a c = true from (fitB_iff _ _ _).2 ⟨h0, h1, h2⟩]
        go_enter Try.func107, Try.ntmps107
        go_wp2
        go_ret
        first | exact ⟨rfl, rfl⟩ | exact ⟨ret_bool (decide_eq_false (by omega)), rfl⟩ | exact ⟨ret_bool (decide_eq_true (by omega)), rfl⟩
      · rw [show fitB S a c = false from Bool.eq_false_iff.2 fun e => h2 ((fitB_iff _ _ _).1 e).2.2]
        go_enter Try.func107, Try.ntmps107
        go_wp2
        go_ret
        first | exact ⟨rfl, rfl⟩ | exact ⟨ret_bool (decide_eq_false (by omega)), rfl⟩ | exact ⟨ret_bool (decide_eq_true (by omega)), rfl⟩
    · rw [show fitB S a c = false from Bool.eq_false_iff.2 fun e => h1 ((fitB_iff _ _ _).1 e).2.1]
      go_enter Try.func107, Try.ntmps107
      go_wp2
      go_ret
      first | exact ⟨rfl, rfl⟩ | exact ⟨ret_bool (decide_eq_false (by omega)), rfl⟩ | exact ⟨ret_bool (decide_eq_true (by omega)), rfl⟩
  · rw [show fitB S a c = false from Bool.eq_false_iff.2 fun e => h0 ((fitB_iff _ _ _).1 e).1]
    clear hS ha
    go_enter Try.func107, Try.ntmps107
    go_wp2
    go_ret
    first | exact ⟨rfl, rfl⟩ | exact ⟨ret_bool (decide_eq_false (by omega)), rfl⟩ | exact ⟨ret_bool (decide_eq_true (by omega)), rfl⟩
theorem fits_at {S a c : Int} {z : Bool} {g : Nat} (W : World) (h : fitB S a c = z) (hg : W.cell? ⟨g, 0, none⟩ = some (.int .i64 S)) (hS : 0 ≤ S ∧ S ≤ 65536) (ha : a ≤ 9223372036854775807) :
    Calls Try.prog 107 #[.int .i64 a, .int .i64 c, .pointer (some ⟨g, 0, none⟩)] W fun e w' => e = .returned (.bool z) ∧ W = w' := h ▸ fits_any W hg hS ha
set_option maxRecDepth 100000 in
set_option maxHeartbeats 1600000 in
theorem right_c : RightC := by
  intro k a b c d ha hb w
  have hmf : ∀ (fn : Fn) (first cap : Array Value) (w : World), (Instr.makeFunc fn first cap).run Try.prog w = .ok (.func fn first cap) w := fun _ _ _ _ => rfl
  have hi := rightR_iff k ⟨a, b, c, d⟩
  have hsd := side_bd k
  obtain ⟨S, hS⟩ : ∃ S, side k = S := ⟨_, rfl⟩
  rw [hS] at hi hsd
  dsimp only at hi
  have HS := Lib.hid hS
  have HB := Lib.hid (show 0 ≤ S ∧ S ≤ 65536 from hsd)
  have HA := Lib.hid ha
  have HD := Lib.hid hb
  have hx := fitB_iff S a c
  have hy := fitB_iff S b d
  clear hS ha hb
  obtain ⟨w0, hw0⟩ : ∃ w0, w0 = (w.alloc (.cells #[.int .i64 k] 26)).alloc (.cells #[.int .i64 a, .int .i64 b, .int .i64 c, .int .i64 d] 81) := ⟨_, rfl⟩
  have hs0 : Since w w0 := by rw [hw0]; exact ((Since.refl w).alloc _).alloc _
  have wh0 : Whole w0 (w.heap.size) 26 #[.int .i64 k] := by rw [hw0]; exact (Whole.new w _ _).alloc _
  have wh1 : Whole w0 (w.heap.size + 1) 81 #[.int .i64 a, .int .i64 b, .int .i64 c, .int .i64 d] := by rw [hw0]; exact (Whole.new (w.alloc _) _ _).at_ (by simp)
  have HW := Lib.hid hw0
  have c0_0 := box_cell wh0 0 (.int .i64 k) rfl
  have c1_0 := box_cell wh1 0 (.int .i64 a) rfl
  have c1_1 := box_cell wh1 1 (.int .i64 b) rfl
  have c1_2 := box_cell wh1 2 (.int .i64 c) rfl
  have c1_3 := box_cell wh1 3 (.int .i64 d) rfl
  have hsr := Since.refl w0
  have hsd := hsr.drew
  clear hw0 wh0 wh1
  by_cases h0 : 0 < S
  · have d0 : decide (0 < S) = true := decide_eq_true h0
    cases h1 : fitB S a c
    · rw [show rightR k ⟨a, b, c, d⟩ = false from Bool.eq_false_iff.2 fun e => by have h := hi.1 e; rw [hx.2 ⟨by omega, by omega, by omega⟩] at h1; cases h1]
      have HX := Lib.hid h1
      have HY := Lib.hid (show fitB S b d = fitB S b d from rfl)
      clear hi hx hy hsd h0 h1
      go_enter Try.func70, Try.ntmps70
      go_wp2_with fail
      rw [← HW.out]
      go_wp2_with (first | ((go_at_call 59; (with_reducible refine (Calls.since (by assumption) (side_at HS.out _)).mono ?_); rintro e w1 ⟨rfl, hb1⟩); (have hsa : Since w0 (w1.alloc (.cells #[.int .i64 S] 3)) := Since.alloc hb1 _); (have wn : (w1.alloc (.cells #[.int .i64 S] 3)).cell? ⟨w1.heap.size, 0, none⟩ = some (.int .i64 S) := (Whole.new w1 3 #[.int .i64 S]).cell 0)) | (go_at_call 107; (with_reducible refine (fits_at _ (by first | exact HX.out | exact HY.out) wn HB.out (by first | exact HA.out | exact HD.out)).mono ?_); rintro e w' ⟨rfl, rfl⟩))
      go_ret
      exact ⟨by first | rfl | exact ret_bool (decide_eq_false (by omega)) | exact ret_bool (decide_eq_true (by omega)), hs0.trans hsa⟩
    · cases h2 : fitB S b d
      · rw [show rightR k ⟨a, b, c, d⟩ = false from Bool.eq_false_iff.2 fun e => by have h := hi.1 e; rw [hy.2 ⟨by omega, by omega, by omega⟩] at h2; cases h2]
        have HX := Lib.hid h1
        have HY := Lib.hid h2
        clear hi hx hy hsd h0 h1 h2
        go_enter Try.func70, Try.ntmps70
        go_wp2_with fail
        rw [← HW.out]
        go_wp2_with (first | ((go_at_call 59; (with_reducible refine (Calls.since (by assumption) (side_at HS.out _)).mono ?_); rintro e w1 ⟨rfl, hb1⟩); (have hsa : Since w0 (w1.alloc (.cells #[.int .i64 S] 3)) := Since.alloc hb1 _); (have wn : (w1.alloc (.cells #[.int .i64 S] 3)).cell? ⟨w1.heap.size, 0, none⟩ = some (.int .i64 S) := (Whole.new w1 3 #[.int .i64 S]).cell 0)) | (go_at_call 107; (with_reducible refine (fits_at _ (by first | exact HX.out | exact HY.out) wn HB.out (by first | exact HA.out | exact HD.out)).mono ?_); rintro e w' ⟨rfl, rfl⟩))
        go_ret
        exact ⟨by first | rfl | exact ret_bool (decide_eq_false (by omega)) | exact ret_bool (decide_eq_true (by omega)), hs0.trans hsa⟩
      · rw [show rightR k ⟨a, b, c, d⟩ = true from hi.2 (by have e1 := hx.1 h1; have e2 := hy.1 h2; omega)]
        have HX := Lib.hid h1
        have HY := Lib.hid h2
        clear hi hx hy hsd h0 h1 h2
        go_enter Try.func70, Try.ntmps70
        go_wp2_with fail
        rw [← HW.out]
        go_wp2_with (first | ((go_at_call 59; (with_reducible refine (Calls.since (by assumption) (side_at HS.out _)).mono ?_); rintro e w1 ⟨rfl, hb1⟩); (have hsa : Since w0 (w1.alloc (.cells #[.int .i64 S] 3)) := Since.alloc hb1 _); (have wn : (w1.alloc (.cells #[.int .i64 S] 3)).cell? ⟨w1.heap.size, 0, none⟩ = some (.int .i64 S) := (Whole.new w1 3 #[.int .i64 S]).cell 0)) | (go_at_call 107; (with_reducible refine (fits_at _ (by first | exact HX.out | exact HY.out) wn HB.out (by first | exact HA.out | exact HD.out)).mono ?_); rintro e w' ⟨rfl, rfl⟩))
        go_ret
        exact ⟨by first | rfl | exact ret_bool (decide_eq_false (by omega)) | exact ret_bool (decide_eq_true (by omega)), hs0.trans hsa⟩
  · have d0 : decide (0 < S) = false := decide_eq_false h0
    rw [show rightR k ⟨a, b, c, d⟩ = false from Bool.eq_false_iff.2 fun e => h0 (hi.1 e).1]
    have HX := Lib.hid (show fitB S a c = fitB S a c from rfl)
    have HY := Lib.hid (show fitB S b d = fitB S b d from rfl)
    clear hi hx hy hsd h0
    go_enter Try.func70, Try.ntmps70
    go_wp2_with fail
    rw [← HW.out]
    go_wp2_with (first | ((go_at_call 59; (with_reducible refine (Calls.since (by assumption) (side_at HS.out _)).mono ?_); rintro e w1 ⟨rfl, hb1⟩); (have hsa : Since w0 (w1.alloc (.cells #[.int .i64 S] 3)) := Since.alloc hb1 _); (have wn : (w1.alloc (.cells #[.int .i64 S] 3)).cell? ⟨w1.heap.size, 0, none⟩ = some (.int .i64 S) := (Whole.new w1 3 #[.int .i64 S]).cell 0)) | (go_at_call 107; (with_reducible refine (fits_at _ (by first | exact HX.out | exact HY.out) wn HB.out (by first | exact HA.out | exact HD.out)).mono ?_); rintro e w' ⟨rfl, rfl⟩))
    go_ret
    exact ⟨by first | rfl | exact ret_bool (decide_eq_false (by omega)) | exact ret_bool (decide_eq_true (by omega)), hs0.trans hsa⟩
theorem right4_at {k a b c d : Int} {z : Bool} (h : rightR k ⟨a, b, c, d⟩ = z) (ha : a ≤ 9223372036854775807) (hb : b ≤ 9223372036854775807) (w : World) : Calls Try.prog 70 #[.agg #[.int .i64 k], .agg #[.int .i64 a, .int .i64 b, .int .i64 c, .int .i64 d]] w fun e w' => e = .returned (.bool z) ∧ Below w.heap.size w w' := h ▸ right_c k a b c d ha hb w
end Go.Proofs.Ytbbnojfecmocgaa
