/- path.Right, mayBe: may the path be? path.upper, Bit, Last, with, byX; cmp.Compare: each answers its number or path; it may make memory. path.Child, Parent, Sibling: a path's family. path.Above, Meet: how two paths stand. path.halves: the iterator over a path's halves: what it yields, one by one. path.At: the path of a depth whose zone has the cell. path.Parse: a text read as a path. path.Common: the halves that two paths begin with alike. path.Compare: which stands ahead. path.Print: a path's text. -/
import Derived.Test.YthfhpejpjiaikaaGreatK01
import Derived.Test.YthfhpejpjiaikaaGreatK02
import Derived.RangeFuncNested
import Derived.RangeFuncBound
import Derived.RangeFuncCalls
import Derived.RangeFuncLeaves
import Derived.Shelf.Abstract
import Derived.OwnWalkIn
import Derived.TacticsInMore
import Derived.LoopNIn
import Derived.LoopIn
import Derived.Maps.AppendAt
import Derived.Laws.IdiomStrings
import Derived.Lib.BufferRead
namespace Go.Proofs.YthfhpejpjiaikaaGreat
open Go.RowKit
set_option maxHeartbeats 400000 in
theorem rightP_any (k d b : Int) (w : World) : Calls Tryz.prog 54 #[.int .i64 k, .agg #[.int .i64 d, .int .i64 b]] w fun e w' => e = .returned (.bool (okP k d b)) ∧ Below w.heap.size w w' := by
  by_cases h0 : 1 ≤ k
  rotate_left
  · rw [okP_no (fun e => h0 e.1)]
    have g0 : decide (1 ≤ k) = false := decide_eq_false h0
    go_enter Tryz.func54, Tryz.ntmps54
    go_wp2_with fail
    go_quiet (fail)
    go_wp2
    go_ret
    exact ⟨rfl, ((Since.refl w).alloc _).drewN nq⟩
  by_cases h1 : k ≤ 16
  rotate_left
  · rw [okP_no (fun e => h1 e.2.1)]
    have g0 : decide (1 ≤ k) = true := decide_eq_true h0
    have g1 : decide (k ≤ 16) = false := decide_eq_false h1
    go_enter Tryz.func54, Tryz.ntmps54
    go_wp2_with fail
    go_quiet (fail)
    go_wp2
    go_ret
    exact ⟨rfl, ((Since.refl w).alloc _).drewN nq⟩
  by_cases h2 : 0 ≤ d
  rotate_left
  · rw [okP_no (fun e => h2 e.2.2.1)]
    have g0 : decide (1 ≤ k) = true := decide_eq_true h0
    have g1 : decide (k ≤ 16) = true := decide_eq_true h1
    have g2 : decide (0 ≤ d) = false := decide_eq_false h2
    go_enter Tryz.func54, Tryz.ntmps54
    go_wp2_with fail
    go_quiet (fail)
    go_wp2
    go_ret
    exact ⟨rfl, ((Since.refl w).alloc _).drewN nq⟩
  by_cases h3 : d ≤ 2 * k
  rotate_left
  · rw [okP_no (fun e => h3 e.2.2.2.1)]
    have g0 : decide (1 ≤ k) = true := decide_eq_true h0
    have g1 : decide (k ≤ 16) = true := decide_eq_true h1
    have g2 : decide (0 ≤ d) = true := decide_eq_true h2
    have g3 : decide (d ≤ 2 * k) = false := decide_eq_false h3
    go_enter Tryz.func54, Tryz.ntmps54
    go_wp2_with fail
    go_quiet (fail)
    go_wp2
    go_ret
    exact ⟨rfl, ((Since.refl w).alloc _).drewN nq⟩
  by_cases h4 : 0 ≤ b
  rotate_left
  · rw [okP_no (fun e => h4 e.2.2.2.2.1)]
    have g0 : decide (1 ≤ k) = true := decide_eq_true h0
    have g1 : decide (k ≤ 16) = true := decide_eq_true h1
    have g2 : decide (0 ≤ d) = true := decide_eq_true h2
    have g3 : decide (d ≤ 2 * k) = true := decide_eq_true h3
    have g4 : decide (0 ≤ b) = false := decide_eq_false h4
    go_enter Tryz.func54, Tryz.ntmps54
    go_wp2_with fail
    go_quiet (fail)
    go_wp2
    go_ret
    exact ⟨rfl, ((Since.refl w).alloc _).drewN nq⟩
  by_cases h5 : b < 2 ^ d.toNat
  rotate_left
  · rw [okP_no (fun e => h5 e.2.2.2.2.2)]
    have e1 := p2_wrap (d := d) (by omega)
    have g0 : decide (1 ≤ k) = true := decide_eq_true h0
    have g1 : decide (k ≤ 16) = true := decide_eq_true h1
    have g2 : decide (0 ≤ d) = true := decide_eq_true h2
    have g3 : decide (d ≤ 2 * k) = true := decide_eq_true h3
    have g4 : decide (0 ≤ b) = true := decide_eq_true h4
    have g5 : decide (b < 2 ^ d.toNat) = false := decide_eq_false h5
    go_enter Tryz.func54, Tryz.ntmps54
    go_wp2_with fail
    go_quiet (fail)
    go_wp2
    go_ret
    exact ⟨rfl, ((Since.refl w).alloc _).drewN nq⟩
  rw [show okP k d b = true from (okP_iff k d b).2 ⟨h0, h1, h2, h3, h4, h5⟩]
  have e1 := p2_wrap (d := d) (by omega)
  have g0 : decide (1 ≤ k) = true := decide_eq_true h0
  have g1 : decide (k ≤ 16) = true := decide_eq_true h1
  have g2 : decide (0 ≤ d) = true := decide_eq_true h2
  have g3 : decide (d ≤ 2 * k) = true := decide_eq_true h3
  have g4 : decide (0 ≤ b) = true := decide_eq_true h4
  have g5 : decide (b < 2 ^ d.toNat) = true := decide_eq_true h5
  go_enter Tryz.func54, Tryz.ntmps54
  go_wp2_with fail
  go_quiet (fail)
  go_wp2
  go_ret
  exact ⟨rfl, ((Since.refl w).alloc _).drewN nq⟩
theorem mayBe_any (d b : Int) (w : World) : Calls Tryz.prog 41 #[.agg #[.int .i64 d, .int .i64 b]] w fun e w' => e = .returned (.bool (fine d b)) ∧ Below w.heap.size w w' := by
  obtain ⟨w0, hw0⟩ : ∃ w0, w0 = w.alloc (.cells #[.int .i64 d, .int .i64 b] 23) := ⟨_, rfl⟩
  have hs0 : Since w w0 := by rw [hw0]; exact (Since.refl w).alloc _
  have wh0 : Whole w0 (w.heap.size) 23 #[.int .i64 d, .int .i64 b] := by rw [hw0]; exact Whole.new w _ _
  have HW := Lib.hid hw0
  have c0_0 := box_cell wh0 0 (.int .i64 d) rfl
  have c0_1 := box_cell wh0 1 (.int .i64 b) rfl
  have hsr := Since.refl w0
  have hsd := hsr.drew
  clear hw0 wh0
  go_enter Tryz.func41, Tryz.ntmps41
  go_wp2_with fail
  rw [← HW.out]
  go_wp2_with (go_at_call 54; (with_reducible refine (Calls.since (by assumption) (rightP_any _ _ _ _)).mono ?_); rintro e w' ⟨rfl, hb⟩)
  go_ret
  exact ⟨rfl, hs0.trans hb⟩
theorem mayBe_at {d b : Int} {r : Bool} (h : fine d b = r) (w : World) : Calls Tryz.prog 41 #[.agg #[.int .i64 d, .int .i64 b]] w fun e w' => e = .returned (.bool r) ∧ Below w.heap.size w w' := h ▸ mayBe_any d b w
end Go.Proofs.YthfhpejpjiaikaaGreat
namespace Go.Proofs.YthfhpejpjiaikaaGreat
open Go.RowKit
theorem field_p1 (x y : Int) (w : World) : (Instr.field 23 (.agg #[.int .i64 x, .int .i64 y]) 1).run Tryz.prog w = .ok (.int .i64 y) w := by kernel_rfl
theorem and1 (x : Int) : bits .and .i64 x 1 = x % 2 := mask_mod 1 x
set_option maxHeartbeats 400000 in
theorem upper_any (d b m : Int) (w : World) (h0 : 0 ≤ m) (h1 : m ≤ d) (h2 : d ≤ 32) : Calls Tryz.prog 55 #[.agg #[.int .i64 d, .int .i64 b], .int .i64 m] w fun e w' => e = .returned (.agg #[.int .i64 m, .int .i64 (pv d b m)]) ∧ Below w.heap.size w w' := by
  go_enter Tryz.func55, Tryz.ntmps55
  go_wp2
  exact bodyPost_ret (v := .agg #[.int .i64 m, .int .i64 (pv d b m)]) (by simp [results, Tryz.results55, go_sem, pv]) rfl ⟨rfl, ((Since.refl w).alloc _).alloc _⟩
theorem upper_at {d b m v : Int} (hv : pv d b m = v) (w : World) (h0 : 0 ≤ m) (h1 : m ≤ d) (h2 : d ≤ 32) : Calls Tryz.prog 55 #[.agg #[.int .i64 d, .int .i64 b], .int .i64 m] w fun e w' => e = .returned (.agg #[.int .i64 m, .int .i64 v]) ∧ Below w.heap.size w w' := hv ▸ upper_any d b m w h0 h1 h2
set_option maxHeartbeats 400000 in
theorem bit_any (d b i : Int) (w : World) : Calls Tryz.prog 98 #[.agg #[.int .i64 d, .int .i64 b], .int .i64 i] w fun e w' => e = .returned (.int .i64 (bitI d b i)) ∧ Below w.heap.size w w' := by
  obtain ⟨w0, hw0⟩ : ∃ w0, w0 = w.alloc (.cells #[.int .i64 d, .int .i64 b] 23) := ⟨_, rfl⟩
  have hs0 : Since w w0 := by rw [hw0]; exact (Since.refl w).alloc _
  have wh0 : Whole w0 (w.heap.size) 23 #[.int .i64 d, .int .i64 b] := by rw [hw0]; exact Whole.new w _ _
  have HW := Lib.hid hw0
  have c0_0 := box_cell wh0 0 (.int .i64 d) rfl
  have c0_1 := box_cell wh0 1 (.int .i64 b) rfl
  have hsr := Since.refl w0
  have hsd := hsr.drew
  clear hw0 wh0
  cases h : fine d b with
  | false =>
    rw [bitI_no (by rw [h]; rintro ⟨e, _⟩; cases e)]
    replace h := Lib.hid h
    go_enter Tryz.func98, Tryz.ntmps98
    go_wp2_with fail
    rw [← HW.out]
    go_wp2_with (go_at_call 41; (with_reducible refine (Calls.since (by assumption) (mayBe_at h.out _)).mono ?_); rintro e w' ⟨rfl, hb⟩)
    go_ret
    exact ⟨rfl, hs0.trans hb⟩
  | true =>
    have hd := (fine_iff d b).1 h
    by_cases h0 : 0 ≤ i
    · by_cases h1 : i < d
      · rw [bitI_yes h h0 h1]
        obtain ⟨v, hv⟩ : ∃ v, pv d b (i + 1) = v := ⟨_, rfl⟩
        have ha := and1 v
        rw [hv]
        obtain ⟨hd1, hd2, _, _⟩ := hd
        have q1 : decide (i < 0) = false := decide_eq_false (by omega)
        have q2 : decide (d ≤ i) = false := decide_eq_false (by omega)
        have hfd := field_p1
        replace h := Lib.hid h
        replace hv := Lib.hid hv
        go_enter Tryz.func98, Tryz.ntmps98
        go_wp2_with fail
        rw [← HW.out]
        go_wp2_with (first
          | (go_at_call 41; (with_reducible refine (Calls.since (by assumption) (mayBe_at h.out _)).mono ?_); rintro e w1 ⟨rfl, hb1⟩)
          | (go_at_call 55; (with_reducible refine (Calls.since (by assumption) (upper_at hv.out _ (by omega) (by omega) (by omega))).mono ?_); rintro e w2 ⟨rfl, hb2⟩))
        go_ret
        exact ⟨rfl, hs0.trans hb2⟩
      · rw [bitI_no (fun e => h1 e.2.2)]
        have q1 : decide (i < 0) = false := decide_eq_false (by omega)
        have q2 : decide (d ≤ i) = true := decide_eq_true (by omega)
        clear hd h1
        replace h := Lib.hid h
        go_enter Tryz.func98, Tryz.ntmps98
        go_wp2_with fail
        rw [← HW.out]
        go_wp2_with (go_at_call 41; (with_reducible refine (Calls.since (by assumption) (mayBe_at h.out _)).mono ?_); rintro e w' ⟨rfl, hb⟩)
        go_ret
        exact ⟨rfl, hs0.trans hb⟩
    · rw [bitI_no (fun e => h0 e.2.1)]
      clear hd
      replace h := Lib.hid h
      go_enter Tryz.func98, Tryz.ntmps98
      go_wp2_with fail
      rw [← HW.out]
      go_wp2_with (go_at_call 41; (with_reducible refine (Calls.since (by assumption) (mayBe_at h.out _)).mono ?_); rintro e w' ⟨rfl, hb⟩)
      go_ret
      exact ⟨rfl, hs0.trans hb⟩
theorem byX_any (i : Int) (w : World) : Calls Tryz.prog 70 #[.int .i64 i] w fun e w' => e = .returned (.bool (i.tmod 2 == 0)) ∧ w = w' := by
  go_enter Tryz.func70, Tryz.ntmps70
  go_wp2
  go_ret
  exact ⟨rfl, rfl⟩
end Go.Proofs.YthfhpejpjiaikaaGreat
namespace Go.Proofs.YthfhpejpjiaikaaGreat
open Go.RowKit
theorem xor_half {b : Int} (h0 : 0 ≤ b) (h1 : b < 4294967296) : bits .xor .i64 b 1 = b + 1 - 2 * (b % 2) := by
  obtain ⟨n, rfl⟩ := Int.eq_ofNat_of_zero_le h0
  show IntKind.i64.wrap ((BitVec.ofInt 64 (n : Int) ^^^ BitVec.ofInt 64 1).toNat : Int) = _
  have e1 : (BitVec.ofInt 64 (n : Int)).toNat = n := by rw [BitVec.toNat_ofInt]; omega
  have e2 : (BitVec.ofInt 64 1).toNat = 1 := by decide
  have e3 : (n ^^^ 1) / 2 = n / 2 := by rw [Nat.xor_div_two]; simp
  have e4 : (n ^^^ 1) % 2 = (n + 1) % 2 := by
    have h := Nat.xor_mod_two_eq_one (a := n) (b := 1)
    rcases Nat.mod_two_eq_zero_or_one n with e | e <;> rcases Nat.mod_two_eq_zero_or_one (n ^^^ 1) with g | g <;> simp [e, g] at h <;> omega
  rw [BitVec.toNat_xor, e1, e2, IntKind.wrap_i64]
  omega
set_option maxHeartbeats 400000 in
theorem parent_ok (d b : Int) (w : World) (hf : fine d b = true) (hd : 0 < d) : Calls Tryz.prog 29 #[.agg #[.int .i64 d, .int .i64 b]] w fun e w' => e = .returned (.tuple #[.agg #[.int .i64 (d - 1), .int .i64 (b / 2)], .bool true]) ∧ Below w.heap.size w w' := by
  obtain ⟨w0, hw0⟩ : ∃ w0, w0 = (w.alloc (.cells #[.int .i64 d, .int .i64 b] 23)).alloc (.cells #[.int .i64 0, .int .i64 0] 23) := ⟨_, rfl⟩
  have hs0 : Since w w0 := by rw [hw0]; exact ((Since.refl w).alloc _).alloc _
  have wh0 : Whole w0 (w.heap.size) 23 #[.int .i64 d, .int .i64 b] := by rw [hw0]; exact (Whole.new w _ _).alloc _
  have wh1 : Whole w0 (w.heap.size + 1) 23 #[.int .i64 0, .int .i64 0] := by rw [hw0]; exact (Whole.new (w.alloc _) _ _).at_ (by simp)
  have HW := Lib.hid hw0
  have c0_0 := box_cell wh0 0 (.int .i64 d) rfl
  have c0_1 := box_cell wh0 1 (.int .i64 b) rfl
  have c1_0 := box_cell wh1 0 (.int .i64 0) rfl
  have f1_0 := box_free wh1 0
  have c1_1 := box_cell wh1 1 (.int .i64 0) rfl
  have f1_1 := box_free wh1 1
  have hsr := Since.refl w0
  have hsd := hsr.drew
  clear hw0 wh0 wh1
  have hd0 := ((fine_iff d b).1 hf).2.1
  have q3 : (d == 0) = false := by simp; omega
  have hp : pv d b (d - 1) = b / 2 := by rw [pv_half (by omega), show d - 1 + 1 = d by omega, pv_all]
  replace hp := Lib.hid hp
  replace hf := Lib.hid hf
  go_enter Tryz.func29, Tryz.ntmps29
  go_wp2_with fail
  rw [← HW.out]
  go_wp2_with (first
    | (go_at_call 41; (with_reducible refine (Calls.since (by assumption) (mayBe_at hf.out _)).mono ?_); rintro e w1 ⟨rfl, hb1⟩)
    | (go_at_call 55; (with_reducible refine (Calls.since (by assumption) (upper_at hp.out _ (by omega) (by omega) (by omega))).mono ?_); rintro e w2 ⟨rfl, hb2⟩))
  have g1 := c1_0 w2 hb2
  have g2 := c1_1 w2 hb2
  exact bodyPost_ret (v := .tuple #[.agg #[.int .i64 (d - 1), .int .i64 (b / 2)], .bool true]) (by simp [results, Tryz.results29, go_sem, g1, g2]) rfl ⟨rfl, Below.setCell (Below.setCell (hs0.trans hb2) (by simp) _) (by simp) _⟩
set_option maxHeartbeats 400000 in
theorem sibling_ok (d b : Int) (w : World) (hf : fine d b = true) (hd : 0 < d) : Calls Tryz.prog 28 #[.agg #[.int .i64 d, .int .i64 b]] w fun e w' => e = .returned (.tuple #[.agg #[.int .i64 d, .int .i64 (b + 1 - 2 * (b % 2))], .bool true]) ∧ Below w.heap.size w w' := by
  obtain ⟨w0, hw0⟩ : ∃ w0, w0 = (w.alloc (.cells #[.int .i64 d, .int .i64 b] 23)).alloc (.cells #[.int .i64 0, .int .i64 0] 23) := ⟨_, rfl⟩
  have hs0 : Since w w0 := by rw [hw0]; exact ((Since.refl w).alloc _).alloc _
  have wh0 : Whole w0 (w.heap.size) 23 #[.int .i64 d, .int .i64 b] := by rw [hw0]; exact (Whole.new w _ _).alloc _
  have wh1 : Whole w0 (w.heap.size + 1) 23 #[.int .i64 0, .int .i64 0] := by rw [hw0]; exact (Whole.new (w.alloc _) _ _).at_ (by simp)
  have HW := Lib.hid hw0
  have c0_0 := box_cell wh0 0 (.int .i64 d) rfl
  have c0_1 := box_cell wh0 1 (.int .i64 b) rfl
  have c1_0 := box_cell wh1 0 (.int .i64 0) rfl
  have f1_0 := box_free wh1 0
  have c1_1 := box_cell wh1 1 (.int .i64 0) rfl
  have f1_1 := box_free wh1 1
  have hsr := Since.refl w0
  have hsd := hsr.drew
  clear hw0 wh0 wh1
  have hb := fine_bd hf
  have e1 := xor_half hb.1 hb.2
  have q3 : (d == 0) = false := by simp; omega
  replace hf := Lib.hid hf
  clear hb
  go_enter Tryz.func28, Tryz.ntmps28
  go_wp2_with fail
  rw [← HW.out]
  go_wp2_with (go_at_call 41; (with_reducible refine (Calls.since (by assumption) (mayBe_at hf.out _)).mono ?_); rintro e w1 ⟨rfl, hb1⟩)
  have g1 := c1_0 w1 hb1
  have g2 := c1_1 w1 hb1
  exact bodyPost_ret (v := .tuple #[.agg #[.int .i64 d, .int .i64 (b + 1 - 2 * (b % 2))], .bool true]) (by simp [results, Tryz.results28, go_sem, g1, g2]) rfl ⟨rfl, Below.setCell (Below.setCell (hs0.trans hb1) (by simp) _) (by simp) _⟩
end Go.Proofs.YthfhpejpjiaikaaGreat
namespace Go.Proofs.YthfhpejpjiaikaaGreat
open Go.RowKit
end Go.Proofs.YthfhpejpjiaikaaGreat
namespace Go.Proofs.YthfhpejpjiaikaaGreat
open Go.RowKit Go.Shelf
attribute [local go_sem] Oper.semAt_some
/-- The first k halves, each behind its number. -/
def ups (d b : Int) (k : Nat) : List (Int × Int) := (List.range k).map fun j : Nat => ((j : Int), bitI d b j)
theorem ups_length (d b : Int) (k : Nat) : (ups d b k).length = k := by simp [ups]
theorem ups_succ (d b : Int) (k : Nat) : ups d b (k + 1) = ups d b k ++ [((k : Int), bitI d b k)] := by simp [ups, List.range_succ]
theorem below_grown {w w' : World} (h : Below w.heap.size w w') : w.grownBy w' none := ⟨h.os, h.tape, h.output, h.size, fun k hk _ => h.block k hk⟩
/-- What yield is handed. -/
abbrev enc2 (x : Int × Int) : Array Value := #[.int .i64 x.1, .int .i64 x.2]
theorem wide_d (n : Nat) : Fence.wide.depth.isSome = true → 1 ≤ n := fun h => by cases h
theorem halves_any (d b : Int) (w : World) : Calls Tryz.prog 69 #[.agg #[.int .i64 d, .int .i64 b]] w fun e w' => e = .returned (.func (.func 97) #[] #[.pointer (some ⟨w.heap.size, 0, none⟩)]) ∧ w' = w.alloc (.cells #[.int .i64 d, .int .i64 b] 23) := by
  have hmf : ∀ (fn : Fn) (first cap : Array Value) (w : World), (Instr.makeFunc fn first cap).run Tryz.prog w = .ok (.func fn first cap) w := fun _ _ _ _ => rfl
  go_enter Tryz.func69, Tryz.ntmps69
  go_wp2
  go_ret
  exact ⟨rfl, rfl⟩
/-- Block g lies as it lay. -/
def KB (g : Nat) (W W' : World) : Prop := W'.heap[g]? = W.heap[g]?
theorem KB.t {g : Nat} {A B C : World} (h : KB g A B) (k : KB g B C) : KB g A C := Eq.trans k h
theorem KB.b {g : Nat} {w : World} (hg : g < w.heap.size) (W : World) (l : Nat) (o o' : Obj) (hl : w.heap.size ≤ l) (_ : W.heap[l]? = some o) (_ : o.isCells = false) (_ : o.isWalk = false) : KB g W (W.putObj l o') :=
  World.putObj_heap_other (by omega)
theorem KB.whole {g : Nat} {t : TypeId} {cs : Array Value} {W W' : World} (k : KB g W W') (h : Whole W g t cs) : Whole W' g t cs := Eq.trans k h
/-- How many halves the iterator has. -/
def cnt (d b : Int) : Nat := if fine d b = true then d.toNat else 0
theorem cnt_yes {d b : Int} (h : fine d b = true) : cnt d b = d.toNat := if_pos h
theorem cnt_no {d b : Int} (h : fine d b = false) : cnt d b = 0 := if_neg (by rw [h]; exact Bool.false_ne_true)
set_option maxRecDepth 100000 in
set_option maxHeartbeats 2000000 in
theorem iter_in (n l g : Nat) (d b : Int) (J Jx : List (Int × Int) → World → Prop)
    (hY : ∀ pre x W, J pre W → pre.length < cnt d b → YieldAt Fence.wide (n - 1) Tryz.prog l (enc2 x) W fun e W' =>
      (e = .returned (.bool true) ∧ J (pre ++ [x]) W' ∧ KB g W W') ∨ (e = .returned (.bool false) ∧ Jx (pre ++ [x]) W'))
    (W : World) (hG : Whole W g 23 #[.int .i64 d, .int .i64 b]) (hJ : AbidesFrom W.heap.size J) (h0 : J [] W) :
    CallsIn Fence.wide n Tryz.prog 97 #[.func (.yield l) #[] #[], .pointer (some ⟨g, 0, none⟩)] W fun e W' => (∃ v, e = .returned v) ∧
      ((∃ ys, ys = ups d b (cnt d b) ∧ J ys W') ∨ (∃ pre, (∃ k, k ≤ cnt d b ∧ pre = ups d b k) ∧ Jx pre W')) := by
  have hg := hG.lt
  cases hf : fine d b with
  | false =>
    rw [cnt_no hf] at hY ⊢
    clear hY
    have c0 : ∀ W', Whole W' g 23 #[.int .i64 d, .int .i64 b] → W'.cell? ⟨g, 0, none⟩ = some (.int .i64 d) := fun W' h => h.cell 0
    have c1 : ∀ W', Whole W' g 23 #[.int .i64 d, .int .i64 b] → W'.cell? ⟨g, 1, none⟩ = some (.int .i64 b) := fun W' h => h.cell 1
    have hfh := Lib.hid hf
    clear hf
    refine callsIn_of_wp Tryz.func97 rfl trivial ?_ rfl
    simp only [Tryz.ntmps97, List.size_toArray, List.length_cons, List.length_nil, Nat.reduceAdd, Nat.reduceSub, Array.replicate_succ, Array.replicate_zero, List.push_toArray, List.append_toArray, List.nil_append, List.cons_append]
    gi_wp2_with (refine ⟨trivial, wide_d _, ?_⟩; gi_at_call 41; refine (callsIn_wide.2 (mayBe_at hfh.out W)).mono ?_; rintro e w1 ⟨rfl, hb1⟩)
    refine bodyPost_ret (results_none rfl _ _ _) rfl ?_
    exact ⟨⟨_, rfl⟩, .inl ⟨_, rfl, hJ [] W w1 none h0 (below_grown hb1) (fun r e => by cases e)⟩⟩
  | true =>
    rw [cnt_yes hf] at hY ⊢
    obtain ⟨hd1, hd2, _, _⟩ := (fine_iff d b).1 hf
    obtain ⟨dn, rfl⟩ := Int.eq_ofNat_of_zero_le hd1
    simp only [Int.toNat_natCast] at hY ⊢
    have hfh := Lib.hid hf
    clear hf hd1
    have c0 : ∀ W', Whole W' g 23 #[.int .i64 (dn : Int), .int .i64 b] → W'.cell? ⟨g, 0, none⟩ = some (.int .i64 (dn : Int)) := fun W' h => h.cell 0
    have c1 : ∀ W', Whole W' g 23 #[.int .i64 (dn : Int), .int .i64 b] → W'.cell? ⟨g, 1, none⟩ = some (.int .i64 b) := fun W' h => h.cell 1
    refine callsIn_of_wp Tryz.func97 rfl trivial ?_ rfl
    simp only [Tryz.ntmps97, List.size_toArray, List.length_cons, List.length_nil, Nat.reduceAdd, Nat.reduceSub, Array.replicate_succ, Array.replicate_zero, List.push_toArray, List.append_toArray, List.nil_append, List.cons_append]
    gi_wp2_with (refine ⟨trivial, wide_d _, ?_⟩; gi_at_call 41; refine (callsIn_wide.2 (mayBe_at hfh.out W)).mono ?_; rintro e w1 ⟨rfl, hb1⟩; have hG1 := hG.below hb1 hg)
    have hJ1 := hJ [] W w1 none h0 (below_grown hb1) (fun r e => by cases e)
    clear hb1 hG
    gi_loopw [9] (fun i wr => ∃ k : Nat, k ≤ dn ∧ i = .int .i64 k ∧ J (ups dn b k) wr ∧ Whole wr g 23 #[.int .i64 (dn : Int), .int .i64 b])
      (fun i _ => dn - (intOf i).toNat)
    case atStart => exact ⟨0, Nat.zero_le _, rfl, hJ1, hG1⟩
    case round =>
      obtain ⟨k, hk, rfl, hJs, hGr⟩ := hrel
      have hlr := hGr.lt
      by_cases hlt : k < dn
      · gi_wp2_with (refine ⟨trivial, wide_d _, ?_⟩; gi_at_call 98; refine (callsIn_wide.2 (bit_any _ _ _ _)).mono ?_; rintro e w2 ⟨rfl, hb2⟩; have hG2 := hGr.below hb2 hlr; obtain ⟨fn, tmps, assign, body, hy, hR⟩ := hY _ ((k : Int), bitI dn b k) w2 (hJ _ wr w2 none hJs (below_grown hb2) (fun r e => by cases e)) (by rw [ups_length]; exact hlt); dsimp only [enc2] at hy)
        refine ⟨wide_d _, ?_⟩
        refine hR.mono ?_
        rintro e W3 (⟨rfl, hJ3, hk3⟩ | ⟨rfl, hJx3⟩)
        · gi_wp2
          go_roundw
          case rel => exact ⟨k + 1, by omega, by simp, by rw [ups_succ]; exact hJ3, hk3.whole hG2⟩
          case measure => simp [intOf]; omega
        · gi_wp2
          refine bodyPost_ret (results_none rfl _ _ _) rfl ?_
          exact ⟨⟨_, rfl⟩, .inr ⟨_, ⟨k + 1, by omega, (ups_succ _ _ _).symm⟩, hJx3⟩⟩
      · obtain rfl : k = dn := by omega
        gi_wp2
        go_end0
        exact ⟨⟨_, rfl⟩, .inl ⟨_, rfl, hJs⟩⟩
/-- The iterator yields all halves of a path, or some first ones; of one that may not be there are none. -/
theorem iter_stops (n g : Nat) (d b : Int) (w : World) (hG : Whole w g 23 #[.int .i64 d, .int .i64 b]) :
    SeqStopsK Fence.wide n Tryz.prog 97 #[.pointer (some ⟨g, 0, none⟩)] enc2 (KB g) (fun ys => ys = ups d b (cnt d b)) (fun pre => ∃ k, k ≤ cnt d b ∧ pre = ups d b k) (cnt d b) w := fun l J Jx W hW hJ _ hY h0 =>
  iter_in n l g d b J Jx hY W (hG.below hW hG.lt) hJ h0
end Go.Proofs.YthfhpejpjiaikaaGreat
namespace Go.Proofs.YthfhpejpjiaikaaGreat
open Go.RowKit
/-- The half i of the cell (x, y). -/
def atH (k x y : Int) (i : Nat) : Int := (if i % 2 = 0 then x else y) / 2 ^ (k - 1 - ((i / 2 : Nat) : Int)).toNat % 2
/-- The first m halves of the cell, as one number. -/
def atV (k x y : Int) : Nat → Int
  | 0 => 0
  | m + 1 => 2 * atV k x y m + atH k x y m
theorem atH_bd (k x y : Int) (i : Nat) : 0 ≤ atH k x y i ∧ atH k x y i ≤ 1 := by unfold atH; omega
end Go.Proofs.YthfhpejpjiaikaaGreat
namespace Go.Proofs.YthfhpejpjiaikaaGreat
open Go.RowKit
/-- The digits' number. -/
def valT (l : List UInt8) : Int := l.foldl (fun a c => 2 * a + ((c.toNat : Int) - 48)) 0
theorem valT_snoc (l : List UInt8) (c : UInt8) : valT (l ++ [c]) = 2 * valT l + ((c.toNat : Int) - 48) := by simp [valT]
/-- All are digits 0 and 1. -/
def digs (l : List UInt8) : Prop := ∀ c ∈ l, 48 ≤ (c.toNat : Int) ∧ (c.toNat : Int) ≤ 49
theorem digs_snoc {l : List UInt8} {c : UInt8} : digs (l ++ [c]) ↔ digs l ∧ 48 ≤ (c.toNat : Int) ∧ (c.toNat : Int) ≤ 49 := by
  constructor
  · intro h
    exact ⟨fun x hx => h x (List.mem_append.2 (.inl hx)), h c (List.mem_append.2 (.inr (List.mem_singleton.2 rfl)))⟩
  · rintro ⟨h1, h2⟩ x hx
    rcases List.mem_append.1 hx with h | h
    · exact h1 x h
    · rw [List.mem_singleton.1 h]; exact h2
theorem valT_bdr : ∀ l : List UInt8, digs l.reverse → 0 ≤ valT l.reverse ∧ valT l.reverse < 2 ^ l.length
  | [], _ => ⟨Int.le_refl _, show (0 : Int) < 2 ^ 0 by decide⟩
  | c :: l, h => by
    rw [List.reverse_cons] at h ⊢
    obtain ⟨h1, h2, h3⟩ := digs_snoc.1 h
    obtain ⟨i1, i2⟩ := valT_bdr l h1
    rw [valT_snoc, List.length_cons, p2_add]
    omega
theorem valT_bd {l : List UInt8} (h : digs l) : 0 ≤ valT l ∧ valT l < 2 ^ l.length := by
  have := valT_bdr l.reverse (by rwa [List.reverse_reverse])
  rwa [List.reverse_reverse, List.length_reverse] at this
theorem bytes_size (s : ByteArray) : s.toList.length = s.size := by rw [ByteArray.toList_eq]; cases s; rfl
theorem bytes_get (s : ByteArray) (n : Nat) (h : n < s.size) : s.toList[n]'(by rw [bytes_size]; exact h) = s[n] := by
  simp only [ByteArray.toList_eq]
  cases s; rfl
theorem bytes_take (s : ByteArray) (n : Nat) (h : n < s.size) : s.toList.take (n + 1) = s.toList.take n ++ [s[n]] := by
  rw [← bytes_get s n h, List.take_succ_eq_append_getElem]
end Go.Proofs.YthfhpejpjiaikaaGreat
namespace Go.Proofs.YthfhpejpjiaikaaGreat
open Go.RowKit Go.Shelf
attribute [local go_sem] Oper.semAt_some
theorem whole_from {β : Type} {B b : Nat} {t : TypeId} (hb : b < B) (cs : β → Array Value) : OwnFrom B (fun (s : β) W => Whole W b t (cs s)) :=
  fun _ _ _ _ hs hg hr => (hg.block b hs.lt (fun e => by have := (hr b e.symm).1; omega)).trans hs
theorem keeps_set (B : Nat) (W : World) (a : Addr) (v : Value) : KeepsFrom B W (W.setCell a v) := (KeepsOthers.setCell W a v).from B
theorem KB.set {g : Nat} {A W : World} (h : KB g A W) {p : Addr} (hp : g ≠ p.block) (v : Value) : KB g A (W.setCell p v) := (Below.heap_setCell W p v g hp).trans h
theorem KB.below {g : Nat} {W W' : World} (h : Below W.heap.size W W') (hg : g < W.heap.size) : KB g W W' := h.block g hg
abbrev pA (d b : Int) : Array Value := #[.int .i64 d, .int .i64 b]
end Go.Proofs.YthfhpejpjiaikaaGreat
namespace Go.Proofs.YthfhpejpjiaikaaGreat
open Go.RowKit
end Go.Proofs.YthfhpejpjiaikaaGreat
namespace Go.Proofs.YthfhpejpjiaikaaGreat
open Go.RowKit Go.Shelf
attribute [local go_sem] Oper.semAt_some
/-- A half's digit. -/
def dig (h : Int) : UInt8 := UInt8.ofNat (wrap64 (48 + h) % 256).toNat
theorem dig_nat (h : Int) : ((dig h).toNat : Int) = wrap64 (48 + h) % 256 := by
  unfold dig
  rw [UInt8.toNat_ofNat']
  omega
abbrev encD (x : Int × Int) : Value := .int .u8 ((dig x.2).toNat : Int)
/-- What lies between two rounds of Print. -/
structure PrI (w : World) (N : Nat) (d b : Int) (pre : List (Int × Int)) (W : World) : Prop where
  row : ∃ v, Boxed W (w.heap.size + 1) 134 v ∧ W.ownsRow N 5 1 v pre.length (pre.map encD) ∧ True
  path : Whole W (w.heap.size + 1 + 1) 23 (pA d b)
  bel : Below w.heap.size w W
theorem PrI.own (w : World) {N : Nat} (d b : Int) (hN : w.heap.size + 1 + 1 < N) : OwnFrom N (PrI w N d b) := fun pre W W' row hs hg hr =>
  ⟨(holdsRow_own N (w.heap.size + 1) 134 5 1 (fun pre : List (Int × Int) => pre.length) (fun pre => pre.map encD) (fun _ _ => True)).from N pre W W' row hs.row hg hr,
   whole_from (B := N) hN (fun _ : Unit => _) () W W' row hs.path hg hr, ownFrom_below (B := N) (Nat.le_refl _) (by omega) () W W' row hs.bel hg hr⟩
end Go.Proofs.YthfhpejpjiaikaaGreat
