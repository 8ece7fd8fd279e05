/- gleberef11.Right. -/
import Derived.Test.YtimmnmidhjbanaaDoorK06
import Derived.Test.YtimmnmidhjbanaaDoorK31
namespace Go.Proofs.YtimmnmidhjbanaaDoor
open Go.RowKit
set_option linter.unusedVariables false
set_option linter.unusedSimpArgs false
theorem isEmpty_len {l : List Int} {n : Nat} (h : l.length = n) : l.isEmpty = ((n : Int) == 0) := by
  cases l with
  | nil => subst h; rfl
  | cons a l => subst h; symm; rw [List.isEmpty_cons, beq_eq_false_iff_ne, List.length_cons]; omega
theorem ref_move {nd ep bx : Int} (l : List Int) : (nodeB nd && (nodeB bx && (!decide (nd = bx) && (decide (1 ≤ ep) && (decide (ep ≤ 1099511627776) && (chainB l && (memZ l nd && !memZ l bx))))))) = (epochB ep && (nodeB bx && (chainB l && (memZ l nd && !memZ l bx)))) := by
  rw [Bool.eq_iff_iff]
  simp only [Bool.and_eq_true, nodeB_iff, epochB_iff, chainB_iff, memZ_iff, Bool.not_eq_true', memZ_false, decide_eq_true_eq, decide_eq_false_iff_not]
  constructor
  · rintro ⟨h1, h2, h3, h4, h5, h6, h7, h8⟩
    exact ⟨⟨h4, h5⟩, h2, h6, h7, h8⟩
  · rintro ⟨⟨h4, h5⟩, h2, h6, h7, h8⟩
    exact ⟨h6.1 _ h7, h2, fun e => h8 (e ▸ h7), h4, h5, h6, h7, h8⟩
section
variable {B : Nat} {kind ok x y : Int} {key val : ByteArray} {cl seq nd ep bx : Int} {ca : Option Addr} {cn cc : Nat} {l : List Int} {w : World}
set_option maxRecDepth 100000 in
set_option maxHeartbeats 3200000 in
theorem refRight_call (h : LZ B w (.slice ca cn cc) l) (hB : B ≤ w.heap.size) (k1 : (kind == 1) = true) {r : Bool} (hr : rightB (⟨kind, ok, x, y, key, val, cl, seq, nd, ep, bx⟩ : En) l = r) :
    Calls Tryd.prog 20 #[.agg #[.int .i64 kind, .int .i64 ok, .int .i64 x, .int .i64 y, .string key, .string val, .int .i64 cl, .int .i64 seq, .int .i64 nd, .int .i64 ep, .int .i64 bx, .slice ca cn cc]] w fun e w' => e = .returned (.bool r) ∧ Below w.heap.size w w' := by
  have hln := isEmpty_len h.len
  have hr' : (opB ok x y key val cl seq && (nd == 0 && (ep == 0 && (bx == 0 && ((cn : Int) == 0))))) = r := by
    rw [← hr, ← hln]
    unfold rightB En.opR
    rw [if_pos (show kind = 1 by simpa using k1)]
  clear hr hln h
  obtain ⟨b, hb⟩ : ∃ b, opB ok x y key val cl seq = b := ⟨_, rfl⟩
  rw [hb] at hr'
  have HO := Lib.hid hb
  clear hb
  obtain ⟨w0, hw0⟩ : ∃ w0, w0 = w.alloc (.cells #[.int .i64 kind, .int .i64 ok, .int .i64 x, .int .i64 y, .string key, .string val, .int .i64 cl, .int .i64 seq, .int .i64 nd, .int .i64 ep, .int .i64 bx, .slice ca cn cc] 28) := ⟨_, rfl⟩
  have hs0 : Since w w0 := by rw [hw0]; exact (Since.refl w).alloc _
  have wh0 : Whole w0 (w.heap.size) 28 #[.int .i64 kind, .int .i64 ok, .int .i64 x, .int .i64 y, .string key, .string val, .int .i64 cl, .int .i64 seq, .int .i64 nd, .int .i64 ep, .int .i64 bx, .slice ca cn cc] := by rw [hw0]; exact Whole.new w _ _
  have HW := Lib.hid hw0
  have c0_0 := box_cell wh0 0 (.int .i64 kind) rfl
  have c0_1 := box_cell wh0 1 (.int .i64 ok) rfl
  have c0_2 := box_cell wh0 2 (.int .i64 x) rfl
  have c0_3 := box_cell wh0 3 (.int .i64 y) rfl
  have c0_4 := box_cell wh0 4 (.string key) rfl
  have c0_5 := box_cell wh0 5 (.string val) rfl
  have c0_6 := box_cell wh0 6 (.int .i64 cl) rfl
  have c0_7 := box_cell wh0 7 (.int .i64 seq) rfl
  have c0_8 := box_cell wh0 8 (.int .i64 nd) rfl
  have c0_9 := box_cell wh0 9 (.int .i64 ep) rfl
  have c0_10 := box_cell wh0 10 (.int .i64 bx) rfl
  have c0_11 := box_cell wh0 11 (.slice ca cn cc) rfl
  have hsr := Since.refl w0
  have hsd := hsr.drew
  clear hw0 wh0
  cases b with
  | false =>
    subst hr'
    go_enter Tryd.func20, Tryd.ntmps20
    go_wp2_with fail
    rw [← HW.out]
    go_wp2_with (go_at_call 48; (with_reducible refine (refRightOp_at HO.out _).mono ?_); rintro e w2 ⟨rfl, hb2⟩; (have hs2 : Since w0 w2 := hb2))
    go_ret
    exact ⟨by simp, hs0.trans hs2⟩
  | true =>
    rw [Bool.true_and] at hr'
    by_cases h0 : nd = 0
    rotate_left
    · have g0 : (nd == 0) = false := by rw [beq_eq_false_iff_ne]; exact h0
      rw [g0, Bool.false_and] at hr'
      subst hr'
      go_enter Tryd.func20, Tryd.ntmps20
      go_wp2_with fail
      rw [← HW.out]
      go_wp2_with (go_at_call 48; (with_reducible refine (refRightOp_at HO.out _).mono ?_); rintro e w2 ⟨rfl, hb2⟩; (have hs2 : Since w0 w2 := hb2))
      go_ret
      exact ⟨by simp, hs0.trans hs2⟩
    have g0 : (nd == 0) = true := by simpa using h0
    rw [g0, Bool.true_and] at hr'
    by_cases h1 : ep = 0
    rotate_left
    · have g1 : (ep == 0) = false := by rw [beq_eq_false_iff_ne]; exact h1
      rw [g1, Bool.false_and] at hr'
      subst hr'
      clear h0
      go_enter Tryd.func20, Tryd.ntmps20
      go_wp2_with fail
      rw [← HW.out]
      go_wp2_with (go_at_call 48; (with_reducible refine (refRightOp_at HO.out _).mono ?_); rintro e w2 ⟨rfl, hb2⟩; (have hs2 : Since w0 w2 := hb2))
      go_ret
      exact ⟨by simp, hs0.trans hs2⟩
    have g1 : (ep == 0) = true := by simpa using h1
    rw [g1, Bool.true_and] at hr'
    by_cases h2 : bx = 0
    rotate_left
    · have g2 : (bx == 0) = false := by rw [beq_eq_false_iff_ne]; exact h2
      rw [g2, Bool.false_and] at hr'
      subst hr'
      clear h0 h1
      go_enter Tryd.func20, Tryd.ntmps20
      go_wp2_with fail
      rw [← HW.out]
      go_wp2_with (go_at_call 48; (with_reducible refine (refRightOp_at HO.out _).mono ?_); rintro e w2 ⟨rfl, hb2⟩; (have hs2 : Since w0 w2 := hb2))
      go_ret
      exact ⟨by simp, hs0.trans hs2⟩
    have g2 : (bx == 0) = true := by simpa using h2
    rw [g2, Bool.true_and] at hr'
    clear h0 h1 h2
    go_enter Tryd.func20, Tryd.ntmps20
    go_wp2_with fail
    rw [← HW.out]
    go_wp2_with (go_at_call 48; (with_reducible refine (refRightOp_at HO.out _).mono ?_); rintro e w2 ⟨rfl, hb2⟩; (have hs2 : Since w0 w2 := hb2))
    go_ret
    exact ⟨by simp [hr'], hs0.trans hs2⟩
set_option maxRecDepth 100000 in
set_option maxHeartbeats 6400000 in
theorem refRight_add (h : LZ B w (.slice ca cn cc) l) (hB : B ≤ w.heap.size) (k1 : (kind == 1) = false) (KK : (kind == 2) = true ∨ ((kind == 2) = false ∧ (kind == 3) = true)) {r : Bool} (hr : rightB (⟨kind, ok, x, y, key, val, cl, seq, nd, ep, bx⟩ : En) l = r) :
    Calls Tryd.prog 20 #[.agg #[.int .i64 kind, .int .i64 ok, .int .i64 x, .int .i64 y, .string key, .string val, .int .i64 cl, .int .i64 seq, .int .i64 nd, .int .i64 ep, .int .i64 bx, .slice ca cn cc]] w fun e w' => e = .returned (.bool r) ∧ Below w.heap.size w w' := by
  have hln := isEmpty_len h.len
  obtain ⟨b, hb⟩ : ∃ b, nodeB nd = b := ⟨_, rfl⟩
  have hr' : (opZ (⟨kind, ok, x, y, key, val, cl, seq, nd, ep, bx⟩ : En) && (b && (ep == 0 && (bx == 0 && ((cn : Int) == 0))))) = r := by
    rw [← hr, ← hln, ← hb]
    unfold rightB
    rw [if_neg (show ¬ kind = 1 by simpa using k1), if_pos (show kind = 2 ∨ kind = 3 by rcases KK with k | ⟨_, k⟩; exact .inl (by simpa using k); exact .inr (by simpa using k))]
  have HA := Lib.hid h
  have HL := Lib.hid hB
  have H1 := Lib.hid hb
  have H2 := H1
  clear hr hln h hB hb
  by_cases h0 : ok = 0
  rotate_left
  · have f0 : ¬ ok = 0 := h0
    obtain rfl : r = false := by rw [← hr']; unfold opZ; simp [f0]
    clear f0
    have g0 : (ok == 0) = false := by rw [beq_eq_false_iff_ne]; exact h0
    clear hr' 
    clear HA HL
    rcases KK with k4 | ⟨k4, k5⟩
    all_goals
      go_enter Tryd.func20, Tryd.ntmps20
      go_wp2
      go_ret
      exact ⟨rfl, (Since.refl w).alloc _⟩
  by_cases h1 : x = 0
  rotate_left
  · have f1 : ¬ x = 0 := h1
    obtain rfl : r = false := by rw [← hr']; unfold opZ; simp [f1]
    clear f1
    have g1 : (x == 0) = false := by rw [beq_eq_false_iff_ne]; exact h1
    obtain rfl : ok = 0 := h0
    clear hr' 
    clear HA HL
    rcases KK with k4 | ⟨k4, k5⟩
    all_goals
      go_enter Tryd.func20, Tryd.ntmps20
      go_wp2
      go_ret
      exact ⟨rfl, (Since.refl w).alloc _⟩
  by_cases h2 : y = 0
  rotate_left
  · have f2 : ¬ y = 0 := h2
    obtain rfl : r = false := by rw [← hr']; unfold opZ; simp [f2]
    clear f2
    have g2 : (y == 0) = false := by rw [beq_eq_false_iff_ne]; exact h2
    obtain rfl : ok = 0 := h0
    obtain rfl : x = 0 := h1
    clear hr' 
    clear HA HL
    rcases KK with k4 | ⟨k4, k5⟩
    all_goals
      go_enter Tryd.func20, Tryd.ntmps20
      go_wp2
      go_ret
      exact ⟨rfl, (Since.refl w).alloc _⟩
  by_cases h3 : key.toList = []
  rotate_left
  · have f3 : ¬ key = ⟨#[]⟩ := fun e => h3 (toList_nil.2 e)
    obtain rfl : r = false := by rw [← hr']; unfold opZ; simp [f3]
    clear f3
    obtain rfl : ok = 0 := h0
    obtain rfl : x = 0 := h1
    obtain rfl : y = 0 := h2
    clear hr' 
    clear HA HL
    rcases KK with k4 | ⟨k4, k5⟩
    all_goals
      go_enter Tryd.func20, Tryd.ntmps20
      go_wp2
      go_ret
      exact ⟨rfl, (Since.refl w).alloc _⟩
  by_cases h4 : val.toList = []
  rotate_left
  · have f4 : ¬ val = ⟨#[]⟩ := fun e => h4 (toList_nil.2 e)
    obtain rfl : r = false := by rw [← hr']; unfold opZ; simp [f4]
    clear f4
    obtain rfl : ok = 0 := h0
    obtain rfl : x = 0 := h1
    obtain rfl : y = 0 := h2
    obtain rfl : key = ⟨#[]⟩ := (toList_nil.1 h3)
    clear hr' h3
    clear HA HL
    rcases KK with k4 | ⟨k4, k5⟩
    all_goals
      go_enter Tryd.func20, Tryd.ntmps20
      go_wp2
      go_ret
      exact ⟨rfl, (Since.refl w).alloc _⟩
  by_cases h5 : cl = 0
  rotate_left
  · have f5 : ¬ cl = 0 := h5
    obtain rfl : r = false := by rw [← hr']; unfold opZ; simp [f5]
    clear f5
    have g5 : (cl == 0) = false := by rw [beq_eq_false_iff_ne]; exact h5
    obtain rfl : ok = 0 := h0
    obtain rfl : x = 0 := h1
    obtain rfl : y = 0 := h2
    obtain rfl : key = ⟨#[]⟩ := (toList_nil.1 h3)
    obtain rfl : val = ⟨#[]⟩ := (toList_nil.1 h4)
    clear hr' h3 h4
    clear HA HL
    rcases KK with k4 | ⟨k4, k5⟩
    all_goals
      go_enter Tryd.func20, Tryd.ntmps20
      go_wp2
      go_ret
      exact ⟨rfl, (Since.refl w).alloc _⟩
  by_cases h6 : seq = 0
  rotate_left
  · have f6 : ¬ seq = 0 := h6
    obtain rfl : r = false := by rw [← hr']; unfold opZ; simp [f6]
    clear f6
    have g6 : (seq == 0) = false := by rw [beq_eq_false_iff_ne]; exact h6
    obtain rfl : ok = 0 := h0
    obtain rfl : x = 0 := h1
    obtain rfl : y = 0 := h2
    obtain rfl : key = ⟨#[]⟩ := (toList_nil.1 h3)
    obtain rfl : val = ⟨#[]⟩ := (toList_nil.1 h4)
    obtain rfl : cl = 0 := h5
    clear hr' h3 h4
    clear HA HL
    rcases KK with k4 | ⟨k4, k5⟩
    all_goals
      go_enter Tryd.func20, Tryd.ntmps20
      go_wp2
      go_ret
      exact ⟨rfl, (Since.refl w).alloc _⟩
  obtain rfl : ok = 0 := h0
  obtain rfl : x = 0 := h1
  obtain rfl : y = 0 := h2
  obtain rfl : key = ⟨#[]⟩ := (toList_nil.1 h3)
  obtain rfl : val = ⟨#[]⟩ := (toList_nil.1 h4)
  obtain rfl : cl = 0 := h5
  obtain rfl : seq = 0 := h6
  clear h3 h4 HA HL
  rw [show opZ (⟨kind, 0, 0, 0, ⟨#[]⟩, ⟨#[]⟩, 0, 0, nd, ep, bx⟩ : En) = true from rfl, Bool.true_and] at hr'
  obtain ⟨w0, hw0⟩ : ∃ w0, w0 = w.alloc (.cells #[.int .i64 kind, .int .i64 0, .int .i64 0, .int .i64 0, .string ⟨#[]⟩, .string ⟨#[]⟩, .int .i64 0, .int .i64 0, .int .i64 nd, .int .i64 ep, .int .i64 bx, .slice ca cn cc] 28) := ⟨_, rfl⟩
  have hs0 : Since w w0 := by rw [hw0]; exact (Since.refl w).alloc _
  have wh0 : Whole w0 (w.heap.size) 28 #[.int .i64 kind, .int .i64 0, .int .i64 0, .int .i64 0, .string ⟨#[]⟩, .string ⟨#[]⟩, .int .i64 0, .int .i64 0, .int .i64 nd, .int .i64 ep, .int .i64 bx, .slice ca cn cc] := by rw [hw0]; exact Whole.new w _ _
  have HW := Lib.hid hw0
  have c0_0 := box_cell wh0 0 (.int .i64 kind) rfl
  have c0_1 := box_cell wh0 1 (.int .i64 0) rfl
  have c0_2 := box_cell wh0 2 (.int .i64 0) rfl
  have c0_3 := box_cell wh0 3 (.int .i64 0) rfl
  have c0_4 := box_cell wh0 4 (.string ⟨#[]⟩) rfl
  have c0_5 := box_cell wh0 5 (.string ⟨#[]⟩) rfl
  have c0_6 := box_cell wh0 6 (.int .i64 0) rfl
  have c0_7 := box_cell wh0 7 (.int .i64 0) rfl
  have c0_8 := box_cell wh0 8 (.int .i64 nd) rfl
  have c0_9 := box_cell wh0 9 (.int .i64 ep) rfl
  have c0_10 := box_cell wh0 10 (.int .i64 bx) rfl
  have c0_11 := box_cell wh0 11 (.slice ca cn cc) rfl
  have hsr := Since.refl w0
  have hsd := hsr.drew
  clear hw0 wh0
  rcases KK with k2 | ⟨k2, k3⟩
  all_goals
    cases b with
    | false =>
      subst hr'
      go_enter Tryd.func20, Tryd.ntmps20
      go_wp2_with fail
      rw [← HW.out]
      go_wp2_with (go_at_call 49; (with_reducible refine (node_at (by first | exact H1.out | exact H2.out) _).mono ?_); rintro e w2 ⟨rfl, rfl⟩)
      go_ret
      exact ⟨by simp, hs0⟩
    | true =>
      rw [Bool.true_and] at hr'
      by_cases h1 : ep = 0
      rotate_left
      · have g1 : (ep == 0) = false := by rw [beq_eq_false_iff_ne]; exact h1
        rw [g1, Bool.false_and] at hr'
        subst hr'
        go_enter Tryd.func20, Tryd.ntmps20
        go_wp2_with fail
        rw [← HW.out]
        go_wp2_with (go_at_call 49; (with_reducible refine (node_at (by first | exact H1.out | exact H2.out) _).mono ?_); rintro e w2 ⟨rfl, rfl⟩)
        go_ret
        exact ⟨by simp, hs0⟩
      have g1 : (ep == 0) = true := by simpa using h1
      rw [g1, Bool.true_and] at hr'
      by_cases h2 : bx = 0
      rotate_left
      · have g2 : (bx == 0) = false := by rw [beq_eq_false_iff_ne]; exact h2
        rw [g2, Bool.false_and] at hr'
        subst hr'
        clear h1
        go_enter Tryd.func20, Tryd.ntmps20
        go_wp2_with fail
        rw [← HW.out]
        go_wp2_with (go_at_call 49; (with_reducible refine (node_at (by first | exact H1.out | exact H2.out) _).mono ?_); rintro e w2 ⟨rfl, rfl⟩)
        go_ret
        exact ⟨by simp, hs0⟩
      have g2 : (bx == 0) = true := by simpa using h2
      rw [g2, Bool.true_and] at hr'
      clear h1 h2
      go_enter Tryd.func20, Tryd.ntmps20
      go_wp2_with fail
      rw [← HW.out]
      go_wp2_with (go_at_call 49; (with_reducible refine (node_at (by first | exact H1.out | exact H2.out) _).mono ?_); rintro e w2 ⟨rfl, rfl⟩)
      go_ret
      exact ⟨by simp [hr'], hs0⟩
set_option maxRecDepth 100000 in
set_option maxHeartbeats 12800000 in
theorem refRight_move (h : LZ B w (.slice ca cn cc) l) (hB : B ≤ w.heap.size) (hl : l.length ≤ 1000000) (k1 : (kind == 1) = false) (k2 : (kind == 2) = false) (k3 : (kind == 3) = false) (KK : (kind == 4) = true ∨ ((kind == 4) = false ∧ (kind == 5) = true)) {r : Bool} (hr : rightB (⟨kind, ok, x, y, key, val, cl, seq, nd, ep, bx⟩ : En) l = r) :
    Calls Tryd.prog 20 #[.agg #[.int .i64 kind, .int .i64 ok, .int .i64 x, .int .i64 y, .string key, .string val, .int .i64 cl, .int .i64 seq, .int .i64 nd, .int .i64 ep, .int .i64 bx, .slice ca cn cc]] w fun e w' => e = .returned (.bool r) ∧ Below w.heap.size w w' := by
  obtain ⟨b1, hb1⟩ : ∃ b, nodeB nd = b := ⟨_, rfl⟩
  obtain ⟨b2, hb2⟩ : ∃ b, nodeB bx = b := ⟨_, rfl⟩
  obtain ⟨c1, hc1⟩ : ∃ b, chainB l = b := ⟨_, rfl⟩
  obtain ⟨c2, hc2⟩ : ∃ b, memZ l nd = b := ⟨_, rfl⟩
  obtain ⟨c3, hc3⟩ : ∃ b, memZ l bx = b := ⟨_, rfl⟩
  have hr' : (opZ (⟨kind, ok, x, y, key, val, cl, seq, nd, ep, bx⟩ : En) && (b1 && (b2 && (!decide (nd = bx) && (decide (1 ≤ ep) && (decide (ep ≤ 1099511627776) && (c1 && (c2 && !c3)))))))) = r := by
    rw [← hb1, ← hb2, ← hc1, ← hc2, ← hc3, ref_move, ← hr]
    unfold rightB
    rw [if_neg (show ¬ kind = 1 by simpa using k1), if_neg (show ¬ (kind = 2 ∨ kind = 3) by rintro (k | k); exact absurd k (by simpa using k2); exact absurd k (by simpa using k3)), if_pos (show kind = 4 ∨ kind = 5 by rcases KK with k | ⟨_, k⟩; exact .inl (by simpa using k); exact .inr (by simpa using k))]
  have HA := Lib.hid (fun W (hW : Since w W) => h.since hW hB)
  have HL := Lib.hid (And.intro hl hB)
  have H1 := Lib.hid hb1
  have H2 := Lib.hid hb2
  have HC := Lib.hid (And.intro hc1 (And.intro hc2 hc3))
  clear hr h hB hl hb1 hb2 hc1 hc2 hc3
  by_cases h0 : ok = 0
  rotate_left
  · have f0 : ¬ ok = 0 := h0
    obtain rfl : r = false := by rw [← hr']; unfold opZ; simp [f0]
    clear f0
    have g0 : (ok == 0) = false := by rw [beq_eq_false_iff_ne]; exact h0
    clear hr' 
    clear HA HL
    rcases KK with k4 | ⟨k4, k5⟩
    all_goals
      go_enter Tryd.func20, Tryd.ntmps20
      go_wp2
      go_ret
      exact ⟨rfl, (Since.refl w).alloc _⟩
  by_cases h1 : x = 0
  rotate_left
  · have f1 : ¬ x = 0 := h1
    obtain rfl : r = false := by rw [← hr']; unfold opZ; simp [f1]
    clear f1
    have g1 : (x == 0) = false := by rw [beq_eq_false_iff_ne]; exact h1
    obtain rfl : ok = 0 := h0
    clear hr' 
    clear HA HL
    rcases KK with k4 | ⟨k4, k5⟩
    all_goals
      go_enter Tryd.func20, Tryd.ntmps20
      go_wp2
      go_ret
      exact ⟨rfl, (Since.refl w).alloc _⟩
  by_cases h2 : y = 0
  rotate_left
  · have f2 : ¬ y = 0 := h2
    obtain rfl : r = false := by rw [← hr']; unfold opZ; simp [f2]
    clear f2
    have g2 : (y == 0) = false := by rw [beq_eq_false_iff_ne]; exact h2
    obtain rfl : ok = 0 := h0
    obtain rfl : x = 0 := h1
    clear hr' 
    clear HA HL
    rcases KK with k4 | ⟨k4, k5⟩
    all_goals
      go_enter Tryd.func20, Tryd.ntmps20
      go_wp2
      go_ret
      exact ⟨rfl, (Since.refl w).alloc _⟩
  by_cases h3 : key.toList = []
  rotate_left
  · have f3 : ¬ key = ⟨#[]⟩ := fun e => h3 (toList_nil.2 e)
    obtain rfl : r = false := by rw [← hr']; unfold opZ; simp [f3]
    clear f3
    obtain rfl : ok = 0 := h0
    obtain rfl : x = 0 := h1
    obtain rfl : y = 0 := h2
    clear hr' 
    clear HA HL
    rcases KK with k4 | ⟨k4, k5⟩
    all_goals
      go_enter Tryd.func20, Tryd.ntmps20
      go_wp2
      go_ret
      exact ⟨rfl, (Since.refl w).alloc _⟩
  by_cases h4 : val.toList = []
  rotate_left
  · have f4 : ¬ val = ⟨#[]⟩ := fun e => h4 (toList_nil.2 e)
    obtain rfl : r = false := by rw [← hr']; unfold opZ; simp [f4]
    clear f4
    obtain rfl : ok = 0 := h0
    obtain rfl : x = 0 := h1
    obtain rfl : y = 0 := h2
    obtain rfl : key = ⟨#[]⟩ := (toList_nil.1 h3)
    clear hr' h3
    clear HA HL
    rcases KK with k4 | ⟨k4, k5⟩
    all_goals
      go_enter Tryd.func20, Tryd.ntmps20
      go_wp2
      go_ret
      exact ⟨rfl, (Since.refl w).alloc _⟩
  by_cases h5 : cl = 0
  rotate_left
  · have f5 : ¬ cl = 0 := h5
    obtain rfl : r = false := by rw [← hr']; unfold opZ; simp [f5]
    clear f5
    have g5 : (cl == 0) = false := by rw [beq_eq_false_iff_ne]; exact h5
    obtain rfl : ok = 0 := h0
    obtain rfl : x = 0 := h1
    obtain rfl : y = 0 := h2
    obtain rfl : key = ⟨#[]⟩ := (toList_nil.1 h3)
    obtain rfl : val = ⟨#[]⟩ := (toList_nil.1 h4)
    clear hr' h3 h4
    clear HA HL
    rcases KK with k4 | ⟨k4, k5⟩
    all_goals
      go_enter Tryd.func20, Tryd.ntmps20
      go_wp2
      go_ret
      exact ⟨rfl, (Since.refl w).alloc _⟩
  by_cases h6 : seq = 0
  rotate_left
  · have f6 : ¬ seq = 0 := h6
    obtain rfl : r = false := by rw [← hr']; unfold opZ; simp [f6]
    clear f6
    have g6 : (seq == 0) = false := by rw [beq_eq_false_iff_ne]; exact h6
    obtain rfl : ok = 0 := h0
    obtain rfl : x = 0 := h1
    obtain rfl : y = 0 := h2
    obtain rfl : key = ⟨#[]⟩ := (toList_nil.1 h3)
    obtain rfl : val = ⟨#[]⟩ := (toList_nil.1 h4)
    obtain rfl : cl = 0 := h5
    clear hr' h3 h4
    clear HA HL
    rcases KK with k4 | ⟨k4, k5⟩
    all_goals
      go_enter Tryd.func20, Tryd.ntmps20
      go_wp2
      go_ret
      exact ⟨rfl, (Since.refl w).alloc _⟩
  obtain rfl : ok = 0 := h0
  obtain rfl : x = 0 := h1
  obtain rfl : y = 0 := h2
  obtain rfl : key = ⟨#[]⟩ := (toList_nil.1 h3)
  obtain rfl : val = ⟨#[]⟩ := (toList_nil.1 h4)
  obtain rfl : cl = 0 := h5
  obtain rfl : seq = 0 := h6
  clear h3 h4
  rw [show opZ (⟨kind, 0, 0, 0, ⟨#[]⟩, ⟨#[]⟩, 0, 0, nd, ep, bx⟩ : En) = true from rfl, Bool.true_and] at hr'
  obtain ⟨w0, hw0⟩ : ∃ w0, w0 = w.alloc (.cells #[.int .i64 kind, .int .i64 0, .int .i64 0, .int .i64 0, .string ⟨#[]⟩, .string ⟨#[]⟩, .int .i64 0, .int .i64 0, .int .i64 nd, .int .i64 ep, .int .i64 bx, .slice ca cn cc] 28) := ⟨_, rfl⟩
  have hs0 : Since w w0 := by rw [hw0]; exact (Since.refl w).alloc _
  have wh0 : Whole w0 (w.heap.size) 28 #[.int .i64 kind, .int .i64 0, .int .i64 0, .int .i64 0, .string ⟨#[]⟩, .string ⟨#[]⟩, .int .i64 0, .int .i64 0, .int .i64 nd, .int .i64 ep, .int .i64 bx, .slice ca cn cc] := by rw [hw0]; exact Whole.new w _ _
  have HW := Lib.hid hw0
  have c0_0 := box_cell wh0 0 (.int .i64 kind) rfl
  have c0_1 := box_cell wh0 1 (.int .i64 0) rfl
  have c0_2 := box_cell wh0 2 (.int .i64 0) rfl
  have c0_3 := box_cell wh0 3 (.int .i64 0) rfl
  have c0_4 := box_cell wh0 4 (.string ⟨#[]⟩) rfl
  have c0_5 := box_cell wh0 5 (.string ⟨#[]⟩) rfl
  have c0_6 := box_cell wh0 6 (.int .i64 0) rfl
  have c0_7 := box_cell wh0 7 (.int .i64 0) rfl
  have c0_8 := box_cell wh0 8 (.int .i64 nd) rfl
  have c0_9 := box_cell wh0 9 (.int .i64 ep) rfl
  have c0_10 := box_cell wh0 10 (.int .i64 bx) rfl
  have c0_11 := box_cell wh0 11 (.slice ca cn cc) rfl
  have hsr := Since.refl w0
  have hsd := hsr.drew
  clear hw0 wh0
  rcases KK with k4 | ⟨k4, k5⟩
  all_goals
    by_cases h0 : b1 = true
    rotate_left
    · obtain rfl : b1 = false := by simpa using h0
      obtain rfl : r = false := by rw [← hr']; simp
      clear hr'
      go_enter Tryd.func20, Tryd.ntmps20
      go_wp2_with fail
      rw [← HW.out]
      go_wp2_with (first | (go_at_call 49; (with_reducible refine (node_at (by first | exact H1.out | exact H2.out) _).mono ?_); rintro e w2 ⟨rfl, rfl⟩))
      go_ret
      exact ⟨by simp, hs0⟩
    by_cases h1 : b2 = true
    rotate_left
    · obtain rfl : b2 = false := by simpa using h1
      obtain rfl : r = false := by rw [← hr']; simp
      obtain rfl : b1 = true := h0
      clear hr'
      go_enter Tryd.func20, Tryd.ntmps20
      go_wp2_with fail
      rw [← HW.out]
      go_wp2_with (first | (go_at_call 49; (with_reducible refine (node_at (by first | exact H1.out | exact H2.out) _).mono ?_); rintro e w2 ⟨rfl, rfl⟩))
      go_ret
      exact ⟨by simp, hs0⟩
    by_cases h2 : ¬ nd = bx
    rotate_left
    · have g2 : (nd != bx) = false := by simpa using h2
      obtain rfl : r = false := by rw [← hr']; simp [Classical.not_not.1 h2]
      obtain rfl : b1 = true := h0
      obtain rfl : b2 = true := h1
      clear hr'
      clear h2
      go_enter Tryd.func20, Tryd.ntmps20
      go_wp2_with fail
      rw [← HW.out]
      go_wp2_with (first | (go_at_call 49; (with_reducible refine (node_at (by first | exact H1.out | exact H2.out) _).mono ?_); rintro e w2 ⟨rfl, rfl⟩))
      go_ret
      exact ⟨by simp, hs0⟩
    by_cases h3 : 1 ≤ ep
    rotate_left
    · have g3 : ¬ (ep ≥ 1) := h3
      obtain rfl : r = false := by rw [← hr']; simp [h3]
      obtain rfl : b1 = true := h0
      obtain rfl : b2 = true := h1
      have g2 : (nd != bx) = true := by rw [bne_iff_ne]; exact h2
      clear hr'
      clear h2
      go_enter Tryd.func20, Tryd.ntmps20
      go_wp2_with fail
      rw [← HW.out]
      go_wp2_with (first | (go_at_call 49; (with_reducible refine (node_at (by first | exact H1.out | exact H2.out) _).mono ?_); rintro e w2 ⟨rfl, rfl⟩))
      go_ret
      exact ⟨by simp, hs0⟩
    by_cases h4 : ep ≤ 1099511627776
    rotate_left
    · obtain rfl : r = false := by rw [← hr']; simp [h4]
      obtain rfl : b1 = true := h0
      obtain rfl : b2 = true := h1
      have g2 : (nd != bx) = true := by rw [bne_iff_ne]; exact h2
      have g3 : ep ≥ 1 := h3
      clear hr'
      clear h2
      go_enter Tryd.func20, Tryd.ntmps20
      go_wp2_with fail
      rw [← HW.out]
      go_wp2_with (first | (go_at_call 49; (with_reducible refine (node_at (by first | exact H1.out | exact H2.out) _).mono ?_); rintro e w2 ⟨rfl, rfl⟩))
      go_ret
      exact ⟨by simp, hs0⟩
    by_cases h5 : c1 = true
    rotate_left
    · obtain rfl : c1 = false := by simpa using h5
      obtain rfl : r = false := by rw [← hr']; simp
      obtain rfl : b1 = true := h0
      obtain rfl : b2 = true := h1
      have g2 : (nd != bx) = true := by rw [bne_iff_ne]; exact h2
      have g3 : ep ≥ 1 := h3
      clear hr'
      clear h2
      go_enter Tryd.func20, Tryd.ntmps20
      go_wp2_with fail
      rw [← HW.out]
      go_wp2_with (first | (go_at_call 49; (with_reducible refine (node_at (by first | exact H1.out | exact H2.out) _).mono ?_); rintro e w2 ⟨rfl, rfl⟩) | (go_at_call 22; (with_reducible refine (refRightChain_any (HA.out _ hs0) (Nat.le_trans HL.out.2 hs0.size_) HL.out.1 HC.out.1).mono ?_); rintro e w2 ⟨rfl, hb2⟩; (have hs2 : Since w0 w2 := hb2)))
      go_ret
      exact ⟨by simp, hs0.trans hs2⟩
    by_cases h6 : c2 = true
    rotate_left
    · obtain rfl : c2 = false := by simpa using h6
      obtain rfl : r = false := by rw [← hr']; simp
      obtain rfl : b1 = true := h0
      obtain rfl : b2 = true := h1
      have g2 : (nd != bx) = true := by rw [bne_iff_ne]; exact h2
      have g3 : ep ≥ 1 := h3
      obtain rfl : c1 = true := h5
      clear hr'
      clear h2
      go_enter Tryd.func20, Tryd.ntmps20
      go_wp2_with fail
      rw [← HW.out]
      go_wp2_with (first | (go_at_call 49; (with_reducible refine (node_at (by first | exact H1.out | exact H2.out) _).mono ?_); rintro e w2 ⟨rfl, rfl⟩) | (go_at_call 22; (with_reducible refine (refRightChain_any (HA.out _ hs0) (Nat.le_trans HL.out.2 hs0.size_) HL.out.1 HC.out.1).mono ?_); rintro e w2 ⟨rfl, hb2⟩; (have hs2 : Since w0 w2 := hb2)) | (go_at_call 39; (with_reducible refine (in_any (HA.out _ (hs0.trans hs2)) HL.out.1 (by first | exact HC.out.2.1 | exact HC.out.2.2)).mono ?_); rintro e w3 ⟨rfl, rfl⟩))
      go_ret
      exact ⟨by simp, hs0.trans hs2⟩
    obtain rfl : b1 = true := h0
    obtain rfl : b2 = true := h1
    have g2 : (nd != bx) = true := by rw [bne_iff_ne]; exact h2
    have g3 : ep ≥ 1 := h3
    obtain rfl : c1 = true := h5
    obtain rfl : c2 = true := h6
    have hr2 : (!c3) = r := by rw [← hr']; simp [h2, h3, h4]
    clear hr' h2
    go_enter Tryd.func20, Tryd.ntmps20
    go_wp2_with fail
    rw [← HW.out]
    go_wp2_with (first | (go_at_call 49; (with_reducible refine (node_at (by first | exact H1.out | exact H2.out) _).mono ?_); rintro e w2 ⟨rfl, rfl⟩) | (go_at_call 22; (with_reducible refine (refRightChain_any (HA.out _ hs0) (Nat.le_trans HL.out.2 hs0.size_) HL.out.1 HC.out.1).mono ?_); rintro e w2 ⟨rfl, hb2⟩; (have hs2 : Since w0 w2 := hb2)) | (go_at_call 39; (with_reducible refine (in_any (HA.out _ (hs0.trans hs2)) HL.out.1 (by first | exact HC.out.2.1 | exact HC.out.2.2)).mono ?_); rintro e w3 ⟨rfl, rfl⟩))
    go_ret
    exact ⟨by simp [hr2], hs0.trans hs2⟩
set_option maxRecDepth 100000 in
theorem refRight11_any (h : LZ B w (.slice ca cn cc) l) (hB : B ≤ w.heap.size) (hl : l.length ≤ 1000000) {r : Bool} (hr : rightB (⟨kind, ok, x, y, key, val, cl, seq, nd, ep, bx⟩ : En) l = r) :
    Calls Tryd.prog 20 #[.agg #[.int .i64 kind, .int .i64 ok, .int .i64 x, .int .i64 y, .string key, .string val, .int .i64 cl, .int .i64 seq, .int .i64 nd, .int .i64 ep, .int .i64 bx, .slice ca cn cc]] w fun e w' => e = .returned (.bool r) ∧ Below w.heap.size w w' := by
  by_cases k1 : kind = 1
  · exact refRight_call h hB (by simpa using k1) hr
  · have k1' : (kind == 1) = false := by simpa using k1
    by_cases k2 : kind = 2
    · exact refRight_add h hB k1' (.inl (by simpa using k2)) hr
    · have k2' : (kind == 2) = false := by simpa using k2
      by_cases k3 : kind = 3
      · exact refRight_add h hB k1' (.inr ⟨k2', by simpa using k3⟩) hr
      · have k3' : (kind == 3) = false := by simpa using k3
        by_cases k4 : kind = 4
        · exact refRight_move h hB hl k1' k2' k3' (.inl (by simpa using k4)) hr
        · have k4' : (kind == 4) = false := by simpa using k4
          by_cases k5 : kind = 5
          · exact refRight_move h hB hl k1' k2' k3' (.inr ⟨k4', by simpa using k5⟩) hr
          · have k5' : (kind == 5) = false := by simpa using k5
            obtain rfl : r = false := by rw [← hr]; unfold rightB; rw [if_neg k1, if_neg (show ¬ (kind = 2 ∨ kind = 3) by omega), if_neg (show ¬ (kind = 4 ∨ kind = 5) by omega)]
            clear hr h k1 k2 k3 k4 k5
            go_enter Tryd.func20, Tryd.ntmps20
            go_wp2
            go_ret
            exact ⟨rfl, (Since.refl w).alloc _⟩
end
end Go.Proofs.YtimmnmidhjbanaaDoor
