/- window.mayGoRound, Plain: a window's plain rectangles. -/
import Derived.Test.YtbfjnnjblnjdkaaWGather
import Derived.Test.YtbfjnnjblnjdkaaWKnows
namespace Go.Proofs.Ytbfjnnjblnjdkaa
open Go.RowKit
set_option maxHeartbeats 1600000 in
theorem wMay_any (k a b c d : Int) (w : World) : Calls Try.prog 30 #[.agg #[.int .i64 k], .agg #[.int .i64 a, .int .i64 b, .int .i64 c, .int .i64 d]] w fun e w' => e = .returned (.bool (winR k ⟨a, b, c, d⟩)) ∧ Below w.heap.size w w' := by
  have hi := winR_iff k ⟨a, b, c, d⟩
  have hh := hasB_iff k a b
  obtain ⟨S, hS⟩ : ∃ S, side k = S := ⟨_, rfl⟩
  rw [hS] at hi hh
  have HS := Lib.hid hS
  clear hS
  dsimp only at hi
  obtain ⟨w0, hw0⟩ : ∃ w0, w0 = (w.alloc (.cells #[.int .i64 k] 29)).alloc (.cells #[.int .i64 a, .int .i64 b, .int .i64 c, .int .i64 d] 34) := ⟨_, rfl⟩
  have hs0 : Since w w0 := by rw [hw0]; exact ((Since.refl w).alloc _).alloc _
  have wh0 : Whole w0 (w.heap.size) 29 #[.int .i64 k] := by rw [hw0]; exact (Whole.new w _ _).alloc _
  have wh1 : Whole w0 (w.heap.size + 1) 34 #[.int .i64 a, .int .i64 b, .int .i64 c, .int .i64 d] := by rw [hw0]; exact (Whole.new (w.alloc _) _ _).at_ (by simp)
  have HW := Lib.hid hw0
  have c0_0 := box_cell wh0 0 (.int .i64 k) rfl
  have c1_0 := box_cell wh1 0 (.int .i64 a) rfl
  have c1_1 := box_cell wh1 1 (.int .i64 b) rfl
  have c1_2 := box_cell wh1 2 (.int .i64 c) rfl
  have c1_3 := box_cell wh1 3 (.int .i64 d) rfl
  have hsr := Since.refl w0
  have hsd := hsr.drew
  clear hw0 wh0 wh1
  cases hhb : hasB k a b
  · rw [show winR k ⟨a, b, c, d⟩ = false from Bool.eq_false_iff.2 fun e => by have h1 := hi.1 e; have h2 := hh.2 ⟨h1.1, h1.2.1, h1.2.2.1, h1.2.2.2.1⟩; rw [hhb] at h2; cases h2]
    have HH := Lib.hid hhb
    clear hhb hh
    clear hi
    go_enter Try.func30, Try.ntmps30
    go_wp2_with fail
    rw [← HW.out]
    go_wp2_with (first | (go_at_call 28; (with_reducible refine (Calls.since (by assumption) (side_at HS.out _)).mono ?_); rintro e w' ⟨rfl, hb⟩) | (go_at_call 41; (with_reducible refine (Calls.since (by assumption) (has_at HH.out _)).mono ?_); rintro e w2 ⟨rfl, hb2⟩))
    go_ret
    first | exact ⟨rfl, hs0.trans hb2⟩ | exact ⟨ret_bool (decide_eq_false (by omega)), hs0.trans hb2⟩ | exact ⟨ret_bool (decide_eq_true (by omega)), hs0.trans hb2⟩
  · have hq := hh.1 hhb
    have HH := Lib.hid hhb
    clear hhb hh
    by_cases h0 : 0 ≤ c
    rotate_left
    · rw [show winR k ⟨a, b, c, d⟩ = false from Bool.eq_false_iff.2 fun e => h0 (hi.1 e).2.2.2.2.1]
      clear hi
      go_enter Try.func30, Try.ntmps30
      go_wp2_with fail
      rw [← HW.out]
      go_wp2_with (first | (go_at_call 28; (with_reducible refine (Calls.since (by assumption) (side_at HS.out _)).mono ?_); rintro e w' ⟨rfl, hb⟩) | (go_at_call 41; (with_reducible refine (Calls.since (by assumption) (has_at HH.out _)).mono ?_); rintro e w2 ⟨rfl, hb2⟩))
      go_ret
      first | exact ⟨rfl, hs0.trans hb2⟩ | exact ⟨ret_bool (decide_eq_false (by omega)), hs0.trans hb2⟩ | exact ⟨ret_bool (decide_eq_true (by omega)), hs0.trans hb2⟩
    by_cases h1 : c ≤ S
    rotate_left
    · rw [show winR k ⟨a, b, c, d⟩ = false from Bool.eq_false_iff.2 fun e => h1 (hi.1 e).2.2.2.2.2.1]
      clear hi
      go_enter Try.func30, Try.ntmps30
      go_wp2_with fail
      rw [← HW.out]
      go_wp2_with (first | (go_at_call 28; (with_reducible refine (Calls.since (by assumption) (side_at HS.out _)).mono ?_); rintro e w' ⟨rfl, hb⟩) | (go_at_call 41; (with_reducible refine (Calls.since (by assumption) (has_at HH.out _)).mono ?_); rintro e w2 ⟨rfl, hb2⟩))
      go_ret
      first | exact ⟨rfl, hs0.trans hb2⟩ | exact ⟨ret_bool (decide_eq_false (by omega)), hs0.trans hb2⟩ | exact ⟨ret_bool (decide_eq_true (by omega)), hs0.trans hb2⟩
    by_cases h2 : 0 ≤ d
    rotate_left
    · rw [show winR k ⟨a, b, c, d⟩ = false from Bool.eq_false_iff.2 fun e => h2 (hi.1 e).2.2.2.2.2.2.1]
      clear hi
      go_enter Try.func30, Try.ntmps30
      go_wp2_with fail
      rw [← HW.out]
      go_wp2_with (first | (go_at_call 28; (with_reducible refine (Calls.since (by assumption) (side_at HS.out _)).mono ?_); rintro e w' ⟨rfl, hb⟩) | (go_at_call 41; (with_reducible refine (Calls.since (by assumption) (has_at HH.out _)).mono ?_); rintro e w2 ⟨rfl, hb2⟩))
      go_ret
      first | exact ⟨rfl, hs0.trans hb2⟩ | exact ⟨ret_bool (decide_eq_false (by omega)), hs0.trans hb2⟩ | exact ⟨ret_bool (decide_eq_true (by omega)), hs0.trans hb2⟩
    by_cases h3 : d ≤ S
    rotate_left
    · rw [show winR k ⟨a, b, c, d⟩ = false from Bool.eq_false_iff.2 fun e => h3 (hi.1 e).2.2.2.2.2.2.2]
      clear hi
      go_enter Try.func30, Try.ntmps30
      go_wp2_with fail
      rw [← HW.out]
      go_wp2_with (first | (go_at_call 28; (with_reducible refine (Calls.since (by assumption) (side_at HS.out _)).mono ?_); rintro e w' ⟨rfl, hb⟩) | (go_at_call 41; (with_reducible refine (Calls.since (by assumption) (has_at HH.out _)).mono ?_); rintro e w2 ⟨rfl, hb2⟩))
      go_ret
      first | exact ⟨rfl, hs0.trans hb2⟩ | exact ⟨ret_bool (decide_eq_false (by omega)), hs0.trans hb2⟩ | exact ⟨ret_bool (decide_eq_true (by omega)), hs0.trans hb2⟩
    rw [show winR k ⟨a, b, c, d⟩ = true from hi.2 ⟨hq.1, hq.2.1, hq.2.2.1, hq.2.2.2, h0, h1, h2, h3⟩]
    clear hi
    go_enter Try.func30, Try.ntmps30
    go_wp2_with fail
    rw [← HW.out]
    go_wp2_with (first | (go_at_call 28; (with_reducible refine (Calls.since (by assumption) (side_at HS.out _)).mono ?_); rintro e w' ⟨rfl, hb⟩) | (go_at_call 41; (with_reducible refine (Calls.since (by assumption) (has_at HH.out _)).mono ?_); rintro e w2 ⟨rfl, hb2⟩))
    go_ret
    first | exact ⟨rfl, hs0.trans hb2⟩ | exact ⟨ret_bool (decide_eq_false (by omega)), hs0.trans hb2⟩ | exact ⟨ret_bool (decide_eq_true (by omega)), hs0.trans hb2⟩
theorem wMay_at {k a b c d : Int} {z : Bool} (h : winR k ⟨a, b, c, d⟩ = z) (w : World) : Calls Try.prog 30 #[.agg #[.int .i64 k], .agg #[.int .i64 a, .int .i64 b, .int .i64 c, .int .i64 d]] w fun e w' => e = .returned (.bool z) ∧ Below w.heap.size w w' := h ▸ wMay_any k a b c d w
/-- The closure: a span's first part, and what goes round. -/
theorem part_at {k n a c A C : Int} {g : Nat} (W : World) (hg : ∀ W', Since W W' → W'.cell? ⟨g, 0, none⟩ = some (.int .i64 k)) (hS : side k = n) (h0 : 0 ≤ a ∧ a ≤ n ∧ n ≤ 65536 ∧ 0 ≤ c ∧ c ≤ n) (h1 : min c (n - a) = A ∧ c - A = C) :
    Calls Try.prog 31 #[.int .i64 a, .int .i64 c, .pointer (some ⟨g, 0, none⟩)] W fun e w' => e = .returned (.tuple #[.int .i64 A, .int .i64 C]) ∧ Below W.heap.size W w' := by
  obtain ⟨h1, rfl⟩ := h1
  have m1 := min_ite c (n - a)
  have e1 : wrap64 (n - a) = n - a := IntWalk.wrap64_in _ ⟨by omega, by omega⟩
  rw [h1] at m1
  have e2 : wrap64 (c - A) = c - A := IntWalk.wrap64_in _ ⟨by omega, by omega⟩
  have HS := Lib.hid hS
  have g0 := hg W (Since.refl W)
  have hsr := Since.refl W
  clear h1 hS
  go_enter Try.func31, Try.ntmps31
  go_wp2_with (go_at_call 28; (with_reducible refine (Calls.since (by assumption) (side_at HS.out _)).mono ?_); rintro e w' ⟨rfl, hb⟩)
  go_ret2
  exact ⟨rfl, hb⟩
set_option maxRecDepth 100000 in
set_option maxHeartbeats 3200000 in
theorem plain_c : PlainC := by
  intro k a b c d w
  have hmf : ∀ (fn : Fn) (first cap : Array Value) (w : World), (Instr.makeFunc fn first cap).run Try.prog w = .ok (.func fn first cap) w := fun _ _ _ _ => rfl
  unfold plE
  obtain ⟨w0, hw0⟩ : ∃ w0, w0 = (w.alloc (.cells #[.int .i64 k] 29)).alloc (.cells #[.int .i64 a, .int .i64 b, .int .i64 c, .int .i64 d] 34) := ⟨_, rfl⟩
  have hs0 : Since w w0 := by rw [hw0]; exact ((Since.refl w).alloc _).alloc _
  have wh0 : Whole w0 (w.heap.size) 29 #[.int .i64 k] := by rw [hw0]; exact (Whole.new w _ _).alloc _
  have wh1 : Whole w0 (w.heap.size + 1) 34 #[.int .i64 a, .int .i64 b, .int .i64 c, .int .i64 d] := by rw [hw0]; exact (Whole.new (w.alloc _) _ _).at_ (by simp)
  have HW := Lib.hid hw0
  have c0_0 := box_cell wh0 0 (.int .i64 k) rfl
  have c1_0 := box_cell wh1 0 (.int .i64 a) rfl
  have c1_1 := box_cell wh1 1 (.int .i64 b) rfl
  have c1_2 := box_cell wh1 2 (.int .i64 c) rfl
  have c1_3 := box_cell wh1 3 (.int .i64 d) rfl
  have hsr := Since.refl w0
  have hsd := hsr.drew
  clear hw0 wh0 wh1
  cases h : winR k ⟨a, b, c, d⟩
  · rw [if_neg Bool.false_ne_true, plainR_no h]
    replace h := Lib.hid h
    go_enter Try.func7, Try.ntmps7
    go_wp2_with fail
    rw [← HW.out]
    go_wp2_with (go_at_call 30; (with_reducible refine (Calls.since (by assumption) (wMay_at h.out _)).mono ?_); rintro e w1 ⟨rfl, hb1⟩)
    go_ret2
    exact ⟨_, rfl, RowE.nil _ _ _, hs0.trans hb1⟩
  · rw [if_pos rfl]
    have hw := (winR_iff _ _).1 h
    have hsd := side_bd k
    dsimp only at hw
    obtain ⟨S, hS⟩ : ∃ S, side k = S := ⟨_, rfl⟩
    rw [hS] at hw hsd
    have HS := Lib.hid hS
    have H := Lib.hid h
    have q1 := Lib.hid (show 0 ≤ a ∧ a ≤ S ∧ S ≤ 65536 ∧ 0 ≤ c ∧ c ≤ S by omega)
    have q2 := Lib.hid (show 0 ≤ b ∧ b ≤ S ∧ S ≤ 65536 ∧ 0 ≤ d ∧ d ≤ S by omega)
    have HP := Lib.hid (plainR_yes h)
    have hL : partsR k ⟨a, b, c, d⟩ = [⟨a, b, min c (S - a), min d (S - b)⟩, ⟨a, 0, min c (S - a), d - min d (S - b)⟩, ⟨0, b, c - min c (S - a), min d (S - b)⟩, ⟨0, 0, c - min c (S - a), d - min d (S - b)⟩] := by unfold partsR; rw [hS]
    obtain ⟨A1, hA1⟩ : ∃ A, min c (S - a) = A := ⟨_, rfl⟩
    obtain ⟨B1, hB1⟩ : ∃ A, min d (S - b) = A := ⟨_, rfl⟩
    rw [hA1, hB1] at hL
    obtain ⟨C1, hC1⟩ : ∃ C, c - A1 = C := ⟨_, rfl⟩
    obtain ⟨D1, hD1⟩ : ∃ C, d - B1 = C := ⟨_, rfl⟩
    rw [hC1, hD1] at hL
    have p1 := Lib.hid (show min c (S - a) = A1 ∧ c - A1 = C1 from ⟨hA1, hC1⟩)
    have p2 := Lib.hid (show min d (S - b) = B1 ∧ d - B1 = D1 from ⟨hB1, hD1⟩)
    have HN := Lib.hid (show 0 ≤ A1 ∧ 0 ≤ B1 ∧ 0 ≤ C1 ∧ 0 ≤ D1 by omega)
    have HL := Lib.hid hL
    clear hw hsd h hS hA1 hB1 hC1 hD1 hL
    go_enter Try.func7, Try.ntmps7
    go_wp2_with fail
    rw [← HW.out]
    go_wp2_with (first | (go_at_call 30; (with_reducible refine (Calls.since (by assumption) (wMay_at H.out _)).mono ?_); rintro e w1 ⟨rfl, hb1⟩) | (go_at_call 31; (with_reducible refine (Calls.since (by assumption) (part_at (k := k) _ (fun W hW => c0_0 W (Since.trans (by assumption) hW)) HS.out q1.out p1.out)).mono ?_); rintro e w2 ⟨rfl, hb2⟩) | (go_at_call 31; (with_reducible refine (Calls.since (by assumption) (part_at (k := k) _ (fun W hW => c0_0 W (Since.trans (by assumption) hW)) HS.out q2.out p2.out)).mono ?_); rintro e w3 ⟨rfl, hb3⟩))
    refine Calls.named (fun w4 hw => ?_)
    have hs4 : Since w0 w4 := (hb3.alloc _).named hw
    have wg : Whole w4 w3.heap.size 34 (([⟨a, b, A1, B1⟩, ⟨a, 0, A1, D1⟩, ⟨0, b, C1, B1⟩, ⟨0, 0, C1, D1⟩] : List Rc).flatMap encR).toArray := Whole.named (Whole.new w3 34 #[.int .i64 a, .int .i64 b, .int .i64 A1, .int .i64 B1, .int .i64 a, .int .i64 0, .int .i64 A1, .int .i64 D1, .int .i64 0, .int .i64 b, .int .i64 C1, .int .i64 B1, .int .i64 0, .int .i64 0, .int .i64 C1, .int .i64 D1]) hw
    clear hw
    refine (gather_any w4 (ListE.ofWhole (cap := 4) encR_len wg wg.lt) (Nat.le_refl _) (by simp) (by have hn := HN.out; intro r hr; simp only [List.mem_cons, List.not_mem_nil, or_false] at hr; rcases hr with rfl | rfl | rfl | rfl <;> dsimp only <;> omega)).mono ?_
    rintro z w5 ⟨v, rfl, hrow, hb5⟩
    rw [← HL.out, ← HP.out] at hrow
    go_wp2_with fail
    go_ret2
    exact ⟨_, rfl, hrow.mono (hs0.trans hs4).size_, (hs0.trans hs4).trans hb5⟩
end Go.Proofs.Ytbfjnnjblnjdkaa
