/- The walk of the law PathCells. -/
import Derived.Test.YtilkifjdonafnaaPCornerR
import Derived.Test.YtilkifjdonafnaaPKnows
import Derived.Deep.Cut
import Derived.Deep.CutRange
namespace Go.Proofs.Ytilkifjdonafnaa
open Go.RowKit
/-- The program and the document have the same path of a cell. -/
theorem at_both (k x y dp : Int) : ∃ A B E : Int, (∀ w : World, Calls Try.prog 18 #[.agg #[.int .i64 k], .agg #[.int .i64 x, .int .i64 y], .int .i64 dp] w fun e w' => e = .returned (.tuple #[.agg #[.int .i64 A, .int .i64 B], .int .i64 E]) ∧ Below w.heap.size w w') ∧ (∀ w : World, Calls Try.prog 19 #[.int .i64 k, .agg #[.int .i64 x, .int .i64 y], .int .i64 dp] w fun e w' => e = .returned (.tuple #[.agg #[.int .i64 A, .int .i64 B], .int .i64 E]) ∧ Below w.heap.size w w') := by
  by_cases h : hasB k x y = true ∧ 0 ≤ dp ∧ dp ≤ 2 * k
  · obtain ⟨h1, h2, h3⟩ := h
    exact ⟨dp, atV k x y dp.toNat, 0, fun w => at_yes k x y dp dp.toNat w h1 (by omega) h3, fun w => refAt_yes k x y dp dp.toNat w h1 (by omega) h3⟩
  · have h' : hasB k x y = false ∨ (hasB k x y = true ∧ dp < 0) ∨ (hasB k x y = true ∧ 0 ≤ dp ∧ 2 * k < dp) := by
      cases e : hasB k x y with
      | false => exact .inl rfl
      | true =>
        rw [e] at h
        by_cases h0 : dp < 0
        · exact .inr (.inl ⟨rfl, h0⟩)
        · exact .inr (.inr ⟨rfl, by omega, by
            rcases Int.lt_or_le (2 * k) dp with h1 | h1
            · exact h1
            · exact absurd ⟨rfl, by omega, h1⟩ h⟩)
    exact ⟨0, 0, 1, fun w => at_no k x y dp w h', fun w => refAt_no k x y dp w h'⟩
/-- The program and the document have the same corner of a path. -/
theorem corner_both (k d b : Int) : ∃ p q r s : Int, (∀ w : World, Calls Try.prog 20 #[.agg #[.int .i64 k], .agg #[.int .i64 d, .int .i64 b]] w fun e w' => e = .returned (.tuple #[.agg #[.int .i64 p, .int .i64 q], .int .i64 r, .int .i64 s]) ∧ Below w.heap.size w w') ∧ (∀ w : World, Calls Try.prog 21 #[.int .i64 k, .agg #[.int .i64 d, .int .i64 b]] w fun e w' => e = .returned (.tuple #[.agg #[.int .i64 p, .int .i64 q], .int .i64 r, .int .i64 s]) ∧ Below w.heap.size w w') := by
  cases h : okP k d b with
  | true => exact ⟨_, _, _, _, fun w => corner_raw k d b w h, fun w => refCorner_yes k d b _ _ _ _ w h rfl⟩
  | false => exact ⟨0, 0, 0, 0, fun w => corner_no k d b w h, fun w => refCorner_no k d b w h⟩
set_option maxRecDepth 100000 in
set_option maxHeartbeats 2000000 in
theorem cells_walk (k x y dp d b : Int) (w : World) : Calls Try.prog 4 #[.int .i64 k, .agg #[.int .i64 x, .int .i64 y], .int .i64 dp, .agg #[.int .i64 d, .int .i64 b]] w fun e w' => e = .returned (.bool true) ∧ Below w.heap.size w w' := by
  obtain ⟨A, B, E, hA, hA'⟩ := at_both k x y dp
  obtain ⟨p, q, r, s, hC, hC'⟩ := corner_both k d b
  obtain ⟨w0, hw0⟩ : ∃ w0, w0 = ((w.alloc (.cells #[.int .i64 x, .int .i64 y] 29)).alloc (.cells #[.int .i64 d, .int .i64 b] 23)).alloc (.cells #[.int .i64 k] 31) := ⟨_, rfl⟩
  have hs0 : Since w w0 := by rw [hw0]; exact (((Since.refl w).alloc _).alloc _).alloc _
  have wh0 : Whole w0 (w.heap.size) 29 #[.int .i64 x, .int .i64 y] := by rw [hw0]; exact ((Whole.new w _ _).alloc _).alloc _
  have wh1 : Whole w0 (w.heap.size + 1) 23 #[.int .i64 d, .int .i64 b] := by rw [hw0]; exact ((Whole.new (w.alloc _) _ _).alloc _).at_ (by simp)
  have wh2 : Whole w0 (w.heap.size + 1 + 1) 31 #[.int .i64 k] := by rw [hw0]; exact (Whole.new ((w.alloc _).alloc _) _ _).at_ (by simp)
  have HW := Lib.hid hw0
  have c0_0 := box_cell wh0 0 (.int .i64 x) rfl
  have c0_1 := box_cell wh0 1 (.int .i64 y) rfl
  have c1_0 := box_cell wh1 0 (.int .i64 d) rfl
  have c1_1 := box_cell wh1 1 (.int .i64 b) rfl
  have c2_0 := box_cell wh2 0 (.int .i64 k) rfl
  have hsr := Since.refl w0
  have hsd := hsr.drew
  clear hw0
  have bc := wh0
  have bp := wh1
  have bt := wh2
  have hs : Since w w0 := hs0
  clear wh0 wh1 wh2 c0_0 c0_1 c1_0 c1_1 c2_0 hsr hsd hs0
  go_enter Try.func4, Try.ntmps4
  go_wp2_with fail
  rw [← HW.out]
  have t_bc0 := bc.cell 0
  have t_bc1 := bc.cell 1
  have l_bc := bc.lt
  have t_bt0 := bt.cell 0
  have l_bt := bt.lt
  go_wp2_with fail
  clear t_bc0 t_bc1 l_bc t_bt0 l_bt
  refine (hA w0).mono ?_
  rintro e w1 ⟨rfl, hb⟩
  replace bc := Since.whole hb bc
  replace bp := Since.whole hb bp
  replace bt := Since.whole hb bt
  replace hs := hs.trans hb
  clear hb
  have t_bc0 := bc.cell 0
  have t_bc1 := bc.cell 1
  have l_bc := bc.lt
  go_wp2_with fail
  clear t_bc0 t_bc1 l_bc
  refine Calls.named (fun w2 hw => ?_)
  replace bc := (bc.alloc (.cells #[.int .i64 A, .int .i64 B] 23)).named hw
  replace bp := (bp.alloc (.cells #[.int .i64 A, .int .i64 B] 23)).named hw
  replace bt := (bt.alloc (.cells #[.int .i64 A, .int .i64 B] 23)).named hw
  replace hs : Since w w2 := Since.named (hs.alloc (.cells #[.int .i64 A, .int .i64 B] 23)) hw
  have ba : Whole w2 w1.heap.size 23 #[.int .i64 A, .int .i64 B] := (Whole.new w1 _ _).named hw
  obtain ⟨g_ba, hg⟩ : ∃ g, g = w1.heap.size := ⟨_, rfl⟩
  rw [← hg] at ba ⊢
  clear hw hg
  refine (hA' _).mono ?_
  rintro e w3 ⟨rfl, hb⟩
  replace bc := Since.whole hb bc
  replace bp := Since.whole hb bp
  replace bt := Since.whole hb bt
  replace ba := Since.whole hb ba
  replace hs := hs.trans hb
  clear hb
  have t_bt0 := bt.cell 0
  have l_bt := bt.lt
  have t_bp0 := bp.cell 0
  have t_bp1 := bp.cell 1
  have l_bp := bp.lt
  go_wp2_with fail
  clear t_bt0 l_bt t_bp0 t_bp1 l_bp
  refine Calls.named (fun w4 hw => ?_)
  replace bc := (bc.alloc (.cells #[.int .i64 A, .int .i64 B] 23)).named hw
  replace bp := (bp.alloc (.cells #[.int .i64 A, .int .i64 B] 23)).named hw
  replace bt := (bt.alloc (.cells #[.int .i64 A, .int .i64 B] 23)).named hw
  replace ba := (ba.alloc (.cells #[.int .i64 A, .int .i64 B] 23)).named hw
  replace hs : Since w w4 := Since.named (hs.alloc (.cells #[.int .i64 A, .int .i64 B] 23)) hw
  have bb : Whole w4 w3.heap.size 23 #[.int .i64 A, .int .i64 B] := (Whole.new w3 _ _).named hw
  obtain ⟨g_bb, hg⟩ : ∃ g, g = w3.heap.size := ⟨_, rfl⟩
  rw [← hg] at bb ⊢
  clear hw hg
  refine (hC _).mono ?_
  rintro e w5 ⟨rfl, hb⟩
  replace bc := Since.whole hb bc
  replace bp := Since.whole hb bp
  replace bt := Since.whole hb bt
  replace ba := Since.whole hb ba
  replace bb := Since.whole hb bb
  replace hs := hs.trans hb
  clear hb
  have t_bp0 := bp.cell 0
  have t_bp1 := bp.cell 1
  have l_bp := bp.lt
  go_wp2_with fail
  clear t_bp0 t_bp1 l_bp
  refine Calls.named (fun w6 hw => ?_)
  replace bc := (bc.alloc (.cells #[.int .i64 p, .int .i64 q] 29)).named hw
  replace bp := (bp.alloc (.cells #[.int .i64 p, .int .i64 q] 29)).named hw
  replace bt := (bt.alloc (.cells #[.int .i64 p, .int .i64 q] 29)).named hw
  replace ba := (ba.alloc (.cells #[.int .i64 p, .int .i64 q] 29)).named hw
  replace bb := (bb.alloc (.cells #[.int .i64 p, .int .i64 q] 29)).named hw
  replace hs : Since w w6 := Since.named (hs.alloc (.cells #[.int .i64 p, .int .i64 q] 29)) hw
  have bx : Whole w6 w5.heap.size 29 #[.int .i64 p, .int .i64 q] := (Whole.new w5 _ _).named hw
  obtain ⟨g_bx, hg⟩ : ∃ g, g = w5.heap.size := ⟨_, rfl⟩
  rw [← hg] at bx ⊢
  clear hw hg
  refine (hC' _).mono ?_
  rintro e w7 ⟨rfl, hb⟩
  replace bc := Since.whole hb bc
  replace bp := Since.whole hb bp
  replace bt := Since.whole hb bt
  replace ba := Since.whole hb ba
  replace bb := Since.whole hb bb
  replace bx := Since.whole hb bx
  replace hs := hs.trans hb
  clear hb
  go_upto_region 6 with fail
  obtain ⟨w8, hw⟩ : ∃ w', w' = w7.alloc (.cells #[.int .i64 p, .int .i64 q] 29) := ⟨_, rfl⟩
  rw [← hw]
  replace bc := (bc.alloc (.cells #[.int .i64 p, .int .i64 q] 29)).named hw
  replace bp := (bp.alloc (.cells #[.int .i64 p, .int .i64 q] 29)).named hw
  replace bt := (bt.alloc (.cells #[.int .i64 p, .int .i64 q] 29)).named hw
  replace ba := (ba.alloc (.cells #[.int .i64 p, .int .i64 q] 29)).named hw
  replace bb := (bb.alloc (.cells #[.int .i64 p, .int .i64 q] 29)).named hw
  replace bx := (bx.alloc (.cells #[.int .i64 p, .int .i64 q] 29)).named hw
  replace hs : Since w w8 := Since.named (hs.alloc (.cells #[.int .i64 p, .int .i64 q] 29)) hw
  have bz : Whole w8 w7.heap.size 29 #[.int .i64 p, .int .i64 q] := (Whole.new w7 _ _).named hw
  obtain ⟨g_bz, hg⟩ : ∃ g, g = w7.heap.size := ⟨_, rfl⟩
  rw [← hg] at bz ⊢
  clear hw hg
  have c_bc0 := box_cell bc 0 (.int .i64 x) rfl
  have c_bc1 := box_cell bc 1 (.int .i64 y) rfl
  have c_bp0 := box_cell bp 0 (.int .i64 d) rfl
  have c_bp1 := box_cell bp 1 (.int .i64 b) rfl
  have c_bt0 := box_cell bt 0 (.int .i64 k) rfl
  have c_ba0 := box_cell ba 0 (.int .i64 A) rfl
  have c_ba1 := box_cell ba 1 (.int .i64 B) rfl
  have c_bb0 := box_cell bb 0 (.int .i64 A) rfl
  have c_bb1 := box_cell bb 1 (.int .i64 B) rfl
  have c_bx0 := box_cell bx 0 (.int .i64 p) rfl
  have c_bx1 := box_cell bx 1 (.int .i64 q) rfl
  have c_bz0 := box_cell bz 0 (.int .i64 p) rfl
  have c_bz1 := box_cell bz 1 (.int .i64 q) rfl
  have hsr := Since.refl w8
  have hsd := hsr.drew
  go_wp2_with (first | (go_at_call 22; (with_reducible refine (Calls.since_same (by assumption) (law_num_any _ _)).mono ?_); rintro e w70 ⟨rfl, hb70⟩) | (go_at_call 17; (with_reducible refine (Calls.since (by assumption) (knows_any _)).mono ?_); rintro e w71 ⟨rfl, hb71⟩))
  go_ret
  exact ⟨rfl, hs.trans (by assumption)⟩
end Go.Proofs.Ytilkifjdonafnaa
