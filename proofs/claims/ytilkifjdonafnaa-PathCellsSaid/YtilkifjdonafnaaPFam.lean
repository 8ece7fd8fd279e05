/- path.Child, Parent, Sibling: a path's family. -/
import Derived.Test.YtilkifjdonafnaaPSmall
namespace Go.Proofs.Ytilkifjdonafnaa
open Go.RowKit
theorem or_half {b h : Int} (h0 : 0 ≤ b) (h1 : b < 4294967296) (h2 : 0 ≤ h) (h3 : h ≤ 1) : wthB b h = 2 * b + h := by
  unfold wthB
  rw [IntWalk.wrap64_in _ ⟨by omega, by omega⟩]
  obtain ⟨n, rfl⟩ := Int.eq_ofNat_of_zero_le h0
  obtain ⟨m, rfl⟩ := Int.eq_ofNat_of_zero_le h2
  have hm : m < 2 ^ 1 := by omega
  show IntKind.i64.wrap ((BitVec.ofInt 64 ((n : Int) * 2) ||| BitVec.ofInt 64 (m : Int)).toNat : Int) = _
  have e1 : (BitVec.ofInt 64 ((n : Int) * 2)).toNat = 2 ^ 1 * n := by rw [BitVec.toNat_ofInt]; omega
  have e2 : (BitVec.ofInt 64 (m : Int)).toNat = m := by rw [BitVec.toNat_ofInt]; omega
  rw [BitVec.toNat_or, e1, e2, ← Nat.two_pow_add_eq_or_of_lt hm, IntKind.wrap_i64]
  omega
theorem xor_half {b : Int} (h0 : 0 ≤ b) (h1 : b < 4294967296) : bits .xor .i64 b 1 = b + 1 - 2 * (b % 2) := by
  obtain ⟨n, rfl⟩ := Int.eq_ofNat_of_zero_le h0
  show IntKind.i64.wrap ((BitVec.ofInt 64 (n : Int) ^^^ BitVec.ofInt 64 1).toNat : Int) = _
  have e1 : (BitVec.ofInt 64 (n : Int)).toNat = n := by rw [BitVec.toNat_ofInt]; omega
  have e2 : (BitVec.ofInt 64 1).toNat = 1 := by decide
  have e3 : (n ^^^ 1) / 2 = n / 2 := by rw [Nat.xor_div_two]; simp
  have e4 : (n ^^^ 1) % 2 = (n + 1) % 2 := by
    have h := Nat.xor_mod_two_eq_one (a := n) (b := 1)
    rcases Nat.mod_two_eq_zero_or_one n with e | e <;> rcases Nat.mod_two_eq_zero_or_one (n ^^^ 1) with g | g <;> simp [e, g] at h <;> omega
  rw [BitVec.toNat_xor, e1, e2, IntKind.wrap_i64]
  omega
theorem wthD_in {d : Int} (h0 : -1000 ≤ d) (h1 : d ≤ 1000) : wthD d = d + 1 := IntWalk.wrap64_in _ ⟨by omega, by omega⟩
set_option maxHeartbeats 400000 in
theorem child_ok (d b h : Int) (w : World) (hf : fine d b = true) (hd : d < 32) (h0 : 0 ≤ h) (h1 : h ≤ 1) : Calls Try.prog 24 #[.agg #[.int .i64 d, .int .i64 b], .int .i64 h] w fun e w' => e = .returned (.tuple #[.agg #[.int .i64 (d + 1), .int .i64 (2 * b + h)], .int .i64 0]) ∧ Below w.heap.size w w' := by
  obtain ⟨w0, hw0⟩ : ∃ w0, w0 = (w.alloc (.cells #[.int .i64 d, .int .i64 b] 23)).alloc (.cells #[.int .i64 0, .int .i64 0] 23) := ⟨_, rfl⟩
  have hs0 : Since w w0 := by rw [hw0]; exact ((Since.refl w).alloc _).alloc _
  have wh0 : Whole w0 (w.heap.size) 23 #[.int .i64 d, .int .i64 b] := by rw [hw0]; exact (Whole.new w _ _).alloc _
  have wh1 : Whole w0 (w.heap.size + 1) 23 #[.int .i64 0, .int .i64 0] := by rw [hw0]; exact (Whole.new (w.alloc _) _ _).at_ (by simp)
  have HW := Lib.hid hw0
  have c0_0 := box_cell wh0 0 (.int .i64 d) rfl
  have c0_1 := box_cell wh0 1 (.int .i64 b) rfl
  have c1_0 := box_cell wh1 0 (.int .i64 0) rfl
  have f1_0 := box_free wh1 0
  have c1_1 := box_cell wh1 1 (.int .i64 0) rfl
  have f1_1 := box_free wh1 1
  have hsr := Since.refl w0
  have hsd := hsr.drew
  clear hw0 wh0 wh1
  have hb := fine_bd hf
  have e1 := or_half hb.1 hb.2 h0 h1
  have hd0 := (fine_iff d b).1 hf
  have e2 := wthD_in (d := d) (by omega) (by omega)
  have q1 : decide (h < 0) = false := decide_eq_false (by omega)
  have q2 : decide (1 < h) = false := decide_eq_false (by omega)
  have q3 : (d == 32) = false := by simp; omega
  replace hf := Lib.hid hf
  clear hb hd0
  go_enter Try.func24, Try.ntmps24
  go_wp2_with fail
  rw [← HW.out]
  go_wp2_with (first
    | (go_at_call 33; (with_reducible refine (Calls.since (by assumption) (mayBe_at hf.out _)).mono ?_); rintro e w1 ⟨rfl, hb1⟩)
    | (go_at_call 39; (with_reducible refine (Calls.since (by assumption) (with_any _ _ _ _)).mono ?_); rintro e w2 ⟨rfl, hb2⟩))
  have g1 := c1_0 w2 hb2
  have g2 := c1_1 w2 hb2
  exact bodyPost_ret (v := .tuple #[.agg #[.int .i64 (d + 1), .int .i64 (2 * b + h)], .int .i64 0]) (by simp [results, Try.results24, go_sem, g1, g2]) rfl ⟨rfl, Below.setCell (Below.setCell (hs0.trans hb2) (by simp) _) (by simp) _⟩
set_option maxHeartbeats 400000 in
theorem child_arg (d b h : Int) (w : World) (hf : fine d b = false ∨ (fine d b = true ∧ h < 0) ∨ (fine d b = true ∧ 1 < h)) : Calls Try.prog 24 #[.agg #[.int .i64 d, .int .i64 b], .int .i64 h] w fun e w' => e = .returned (.tuple #[.agg #[.int .i64 0, .int .i64 0], .int .i64 1]) ∧ Below w.heap.size w w' := by
  obtain ⟨w0, hw0⟩ : ∃ w0, w0 = (w.alloc (.cells #[.int .i64 d, .int .i64 b] 23)).alloc (.cells #[.int .i64 0, .int .i64 0] 23) := ⟨_, rfl⟩
  have hs0 : Since w w0 := by rw [hw0]; exact ((Since.refl w).alloc _).alloc _
  have wh0 : Whole w0 (w.heap.size) 23 #[.int .i64 d, .int .i64 b] := by rw [hw0]; exact (Whole.new w _ _).alloc _
  have wh1 : Whole w0 (w.heap.size + 1) 23 #[.int .i64 0, .int .i64 0] := by rw [hw0]; exact (Whole.new (w.alloc _) _ _).at_ (by simp)
  have HW := Lib.hid hw0
  have c0_0 := box_cell wh0 0 (.int .i64 d) rfl
  have c0_1 := box_cell wh0 1 (.int .i64 b) rfl
  have c1_0 := box_cell wh1 0 (.int .i64 0) rfl
  have f1_0 := box_free wh1 0
  have c1_1 := box_cell wh1 1 (.int .i64 0) rfl
  have f1_1 := box_free wh1 1
  have hsr := Since.refl w0
  have hsd := hsr.drew
  clear hw0 wh0 wh1
  rcases hf with hf | ⟨hf, h0⟩ | ⟨hf, h0⟩
  · replace hf := Lib.hid hf
    go_enter Try.func24, Try.ntmps24
    go_wp2_with fail
    rw [← HW.out]
    go_wp2_with (go_at_call 33; (with_reducible refine (Calls.since (by assumption) (mayBe_at hf.out _)).mono ?_); rintro e w1 ⟨rfl, hb1⟩)
    have g1 := c1_0 w1 hb1
    have g2 := c1_1 w1 hb1
    exact bodyPost_ret (v := .tuple #[.agg #[.int .i64 0, .int .i64 0], .int .i64 1]) (by simp [results, Try.results24, go_sem, g1, g2]) rfl ⟨rfl, Below.setCell (Below.setCell (hs0.trans hb1) (by simp) _) (by simp) _⟩
  · replace hf := Lib.hid hf
    have q1 : decide (h < 0) = true := decide_eq_true (by omega)
    go_enter Try.func24, Try.ntmps24
    go_wp2_with fail
    rw [← HW.out]
    go_wp2_with (go_at_call 33; (with_reducible refine (Calls.since (by assumption) (mayBe_at hf.out _)).mono ?_); rintro e w1 ⟨rfl, hb1⟩)
    have g1 := c1_0 w1 hb1
    have g2 := c1_1 w1 hb1
    exact bodyPost_ret (v := .tuple #[.agg #[.int .i64 0, .int .i64 0], .int .i64 1]) (by simp [results, Try.results24, go_sem, g1, g2]) rfl ⟨rfl, Below.setCell (Below.setCell (hs0.trans hb1) (by simp) _) (by simp) _⟩
  · replace hf := Lib.hid hf
    have q1 : decide (h < 0) = false := decide_eq_false (by omega)
    have q2 : decide (1 < h) = true := decide_eq_true (by omega)
    go_enter Try.func24, Try.ntmps24
    go_wp2_with fail
    rw [← HW.out]
    go_wp2_with (go_at_call 33; (with_reducible refine (Calls.since (by assumption) (mayBe_at hf.out _)).mono ?_); rintro e w1 ⟨rfl, hb1⟩)
    have g1 := c1_0 w1 hb1
    have g2 := c1_1 w1 hb1
    exact bodyPost_ret (v := .tuple #[.agg #[.int .i64 0, .int .i64 0], .int .i64 1]) (by simp [results, Try.results24, go_sem, g1, g2]) rfl ⟨rfl, Below.setCell (Below.setCell (hs0.trans hb1) (by simp) _) (by simp) _⟩
set_option maxHeartbeats 400000 in
theorem child_cell (d b h : Int) (w : World) (hf : fine d b = true) (hd : d = 32) (h0 : 0 ≤ h) (h1 : h ≤ 1) : Calls Try.prog 24 #[.agg #[.int .i64 d, .int .i64 b], .int .i64 h] w fun e w' => e = .returned (.tuple #[.agg #[.int .i64 0, .int .i64 0], .int .i64 30]) ∧ Below w.heap.size w w' := by
  obtain ⟨w0, hw0⟩ : ∃ w0, w0 = (w.alloc (.cells #[.int .i64 d, .int .i64 b] 23)).alloc (.cells #[.int .i64 0, .int .i64 0] 23) := ⟨_, rfl⟩
  have hs0 : Since w w0 := by rw [hw0]; exact ((Since.refl w).alloc _).alloc _
  have wh0 : Whole w0 (w.heap.size) 23 #[.int .i64 d, .int .i64 b] := by rw [hw0]; exact (Whole.new w _ _).alloc _
  have wh1 : Whole w0 (w.heap.size + 1) 23 #[.int .i64 0, .int .i64 0] := by rw [hw0]; exact (Whole.new (w.alloc _) _ _).at_ (by simp)
  have HW := Lib.hid hw0
  have c0_0 := box_cell wh0 0 (.int .i64 d) rfl
  have c0_1 := box_cell wh0 1 (.int .i64 b) rfl
  have c1_0 := box_cell wh1 0 (.int .i64 0) rfl
  have f1_0 := box_free wh1 0
  have c1_1 := box_cell wh1 1 (.int .i64 0) rfl
  have f1_1 := box_free wh1 1
  have hsr := Since.refl w0
  have hsd := hsr.drew
  clear hw0 wh0 wh1
  have q1 : decide (h < 0) = false := decide_eq_false (by omega)
  have q2 : decide (1 < h) = false := decide_eq_false (by omega)
  have q3 : (d == 32) = true := by simp; omega
  replace hf := Lib.hid hf
  clear hd
  go_enter Try.func24, Try.ntmps24
  go_wp2_with fail
  rw [← HW.out]
  go_wp2_with (go_at_call 33; (with_reducible refine (Calls.since (by assumption) (mayBe_at hf.out _)).mono ?_); rintro e w1 ⟨rfl, hb1⟩)
  have g1 := c1_0 w1 hb1
  have g2 := c1_1 w1 hb1
  exact bodyPost_ret (v := .tuple #[.agg #[.int .i64 0, .int .i64 0], .int .i64 30]) (by simp [results, Try.results24, go_sem, g1, g2]) rfl ⟨rfl, Below.setCell (Below.setCell (hs0.trans hb1) (by simp) _) (by simp) _⟩
set_option maxHeartbeats 400000 in
theorem parent_ok (d b : Int) (w : World) (hf : fine d b = true) (hd : 0 < d) : Calls Try.prog 26 #[.agg #[.int .i64 d, .int .i64 b]] w fun e w' => e = .returned (.tuple #[.agg #[.int .i64 (d - 1), .int .i64 (b / 2)], .bool true]) ∧ Below w.heap.size w w' := by
  obtain ⟨w0, hw0⟩ : ∃ w0, w0 = (w.alloc (.cells #[.int .i64 d, .int .i64 b] 23)).alloc (.cells #[.int .i64 0, .int .i64 0] 23) := ⟨_, rfl⟩
  have hs0 : Since w w0 := by rw [hw0]; exact ((Since.refl w).alloc _).alloc _
  have wh0 : Whole w0 (w.heap.size) 23 #[.int .i64 d, .int .i64 b] := by rw [hw0]; exact (Whole.new w _ _).alloc _
  have wh1 : Whole w0 (w.heap.size + 1) 23 #[.int .i64 0, .int .i64 0] := by rw [hw0]; exact (Whole.new (w.alloc _) _ _).at_ (by simp)
  have HW := Lib.hid hw0
  have c0_0 := box_cell wh0 0 (.int .i64 d) rfl
  have c0_1 := box_cell wh0 1 (.int .i64 b) rfl
  have c1_0 := box_cell wh1 0 (.int .i64 0) rfl
  have f1_0 := box_free wh1 0
  have c1_1 := box_cell wh1 1 (.int .i64 0) rfl
  have f1_1 := box_free wh1 1
  have hsr := Since.refl w0
  have hsd := hsr.drew
  clear hw0 wh0 wh1
  have hd0 := ((fine_iff d b).1 hf).2.1
  have q3 : (d == 0) = false := by simp; omega
  have hp : pv d b (d - 1) = b / 2 := by rw [pv_half (by omega), show d - 1 + 1 = d by omega, pv_all]
  replace hp := Lib.hid hp
  replace hf := Lib.hid hf
  go_enter Try.func26, Try.ntmps26
  go_wp2_with fail
  rw [← HW.out]
  go_wp2_with (first
    | (go_at_call 33; (with_reducible refine (Calls.since (by assumption) (mayBe_at hf.out _)).mono ?_); rintro e w1 ⟨rfl, hb1⟩)
    | (go_at_call 34; (with_reducible refine (Calls.since (by assumption) (upper_at hp.out _ (by omega) (by omega) (by omega))).mono ?_); rintro e w2 ⟨rfl, hb2⟩))
  have g1 := c1_0 w2 hb2
  have g2 := c1_1 w2 hb2
  exact bodyPost_ret (v := .tuple #[.agg #[.int .i64 (d - 1), .int .i64 (b / 2)], .bool true]) (by simp [results, Try.results26, go_sem, g1, g2]) rfl ⟨rfl, Below.setCell (Below.setCell (hs0.trans hb2) (by simp) _) (by simp) _⟩
set_option maxHeartbeats 400000 in
theorem sibling_ok (d b : Int) (w : World) (hf : fine d b = true) (hd : 0 < d) : Calls Try.prog 25 #[.agg #[.int .i64 d, .int .i64 b]] w fun e w' => e = .returned (.tuple #[.agg #[.int .i64 d, .int .i64 (b + 1 - 2 * (b % 2))], .bool true]) ∧ Below w.heap.size w w' := by
  obtain ⟨w0, hw0⟩ : ∃ w0, w0 = (w.alloc (.cells #[.int .i64 d, .int .i64 b] 23)).alloc (.cells #[.int .i64 0, .int .i64 0] 23) := ⟨_, rfl⟩
  have hs0 : Since w w0 := by rw [hw0]; exact ((Since.refl w).alloc _).alloc _
  have wh0 : Whole w0 (w.heap.size) 23 #[.int .i64 d, .int .i64 b] := by rw [hw0]; exact (Whole.new w _ _).alloc _
  have wh1 : Whole w0 (w.heap.size + 1) 23 #[.int .i64 0, .int .i64 0] := by rw [hw0]; exact (Whole.new (w.alloc _) _ _).at_ (by simp)
  have HW := Lib.hid hw0
  have c0_0 := box_cell wh0 0 (.int .i64 d) rfl
  have c0_1 := box_cell wh0 1 (.int .i64 b) rfl
  have c1_0 := box_cell wh1 0 (.int .i64 0) rfl
  have f1_0 := box_free wh1 0
  have c1_1 := box_cell wh1 1 (.int .i64 0) rfl
  have f1_1 := box_free wh1 1
  have hsr := Since.refl w0
  have hsd := hsr.drew
  clear hw0 wh0 wh1
  have hb := fine_bd hf
  have e1 := xor_half hb.1 hb.2
  have q3 : (d == 0) = false := by simp; omega
  replace hf := Lib.hid hf
  clear hb
  go_enter Try.func25, Try.ntmps25
  go_wp2_with fail
  rw [← HW.out]
  go_wp2_with (go_at_call 33; (with_reducible refine (Calls.since (by assumption) (mayBe_at hf.out _)).mono ?_); rintro e w1 ⟨rfl, hb1⟩)
  have g1 := c1_0 w1 hb1
  have g2 := c1_1 w1 hb1
  exact bodyPost_ret (v := .tuple #[.agg #[.int .i64 d, .int .i64 (b + 1 - 2 * (b % 2))], .bool true]) (by simp [results, Try.results25, go_sem, g1, g2]) rfl ⟨rfl, Below.setCell (Below.setCell (hs0.trans hb1) (by simp) _) (by simp) _⟩
end Go.Proofs.Ytilkifjdonafnaa
