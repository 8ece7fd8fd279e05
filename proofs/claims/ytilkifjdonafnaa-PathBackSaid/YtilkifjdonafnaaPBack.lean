/- The walk of the law PathBack. -/
import Derived.Test.YtilkifjdonafnaaPBackM
import Derived.Test.YtilkifjdonafnaaPCorner
import Derived.Deep.Cut
namespace Go.Proofs.Ytilkifjdonafnaa
open Go.RowKit
set_option maxRecDepth 100000 in
set_option maxHeartbeats 2000000 in
theorem back_walk (pd pb : Int) (s : ByteArray) (w : World) : Calls Try.prog 8 #[.agg #[.int .i64 pd, .int .i64 pb], .string s] w fun e w' => e = .returned (.bool true) ∧ Below w.heap.size w w' := by
  obtain ⟨D, hD⟩ : ∃ D, smD 16 pd = D := ⟨_, rfl⟩
  obtain ⟨B, hBB⟩ : ∃ B, smB 16 pd pb = B := ⟨_, rfl⟩
  have hfp := some_fine 16 pd pb (by omega)
  rw [hD, hBB] at hfp
  have HF := Lib.hid hfp
  have E1 := Lib.hid hD
  have E2 := Lib.hid hBB
  clear hD hBB hfp
  obtain ⟨w0, hw0⟩ : ∃ w0, w0 = w.alloc (.cells #[.int .i64 pd, .int .i64 pb] 23) := ⟨_, rfl⟩
  have hs0 : Since w w0 := by rw [hw0]; exact (Since.refl w).alloc _
  have wh0 : Whole w0 (w.heap.size) 23 #[.int .i64 pd, .int .i64 pb] := by rw [hw0]; exact Whole.new w _ _
  have HW := Lib.hid hw0
  have c0_0 := box_cell wh0 0 (.int .i64 pd) rfl
  have c0_1 := box_cell wh0 1 (.int .i64 pb) rfl
  have hsr := Since.refl w0
  have hsd := hsr.drew
  clear hw0
  by_cases hsz : (s.size : Int) ≤ 200
  rotate_left 1
  · have q : decide (200 < (s.size : Int)) = true := decide_eq_true (by omega)
    clear hsz
    go_enter Try.func8, Try.ntmps8
    go_wp2_with fail
    rw [← HW.out]
    go_wp2_with (go_at_call 17; (with_reducible refine (Calls.since (by assumption) (knows_any _)).mono ?_); rintro e w73 ⟨rfl, hb73⟩)
    go_ret
    exact ⟨rfl, hs0.trans (by assumption)⟩
  have q : decide (200 < (s.size : Int)) = false := decide_eq_false (by omega)
  have HS := Lib.hid hsz
  clear hsz
  have bp := wh0
  have hs : Since w w0 := hs0
  clear wh0 c0_0 c0_1 hsr hsd hs0
  go_enter Try.func8, Try.ntmps8
  go_wp2_with fail
  rw [← HW.out]
  have t_bp0 := bp.cell 0
  have t_bp1 := bp.cell 1
  have l_bp := bp.lt
  go_wp2_with fail
  clear t_bp0 t_bp1 l_bp
  refine (some_at w0 (by decide) (by decide) E1.out E2.out).mono ?_
  rintro e w1 ⟨rfl, hb⟩
  replace bp := Since.whole hb bp
  replace hs := hs.trans hb
  clear hb
  have t_bp0 := bp.cell 0
  have t_bp1 := bp.cell 1
  have l_bp := bp.lt
  have f_bp0 := bp.frozen 0
  have f_bp1 := bp.frozen 1
  go_wp2_with fail
  clear t_bp0 t_bp1 l_bp f_bp0 f_bp1
  refine Calls.named (fun w2 hw => ?_)
  replace bp : Whole w2 (w.heap.size) 23 #[.int .i64 D, .int .i64 B] := (((bp).set_ 0 _).set_ 1 _).named hw
  replace hs : Since w w2 := Since.named (((hs).setCell (p := ⟨w.heap.size, 0, none⟩) (by simp; try omega) _).setCell (p := ⟨w.heap.size, 1, none⟩) (by simp; try omega) _) hw
  clear hw
  refine (print_any _ _ _).mono ?_
  rintro e w3 ⟨rfl, hb⟩
  replace bp := Since.whole hb bp
  replace hs := hs.trans hb
  clear hb
  go_wp2_with fail
  refine (parse_print _ _ HF.out _).mono ?_
  rintro e w4 ⟨rfl, hb⟩
  replace bp := Since.whole hb bp
  replace hs := hs.trans hb
  clear hb
  go_wp2_with fail
  refine Calls.named (fun w5 hw => ?_)
  replace bp := (bp.alloc (.cells #[.int .i64 D, .int .i64 B] 23)).named hw
  replace hs : Since w w5 := Since.named (hs.alloc (.cells #[.int .i64 D, .int .i64 B] 23)) hw
  have bq : Whole w5 w4.heap.size 23 #[.int .i64 D, .int .i64 B] := (Whole.new w4 _ _).named hw
  obtain ⟨g_bq, hg⟩ : ∃ g, g = w4.heap.size := ⟨_, rfl⟩
  rw [← hg] at bq ⊢
  clear hw hg
  refine (parse_any s _ HS.out).mono ?_
  rintro e w6 ⟨⟨x, y, r, rfl, hr⟩, hb⟩
  replace hr := Lib.hid hr
  replace bp := Since.whole hb bp
  replace bq := Since.whole hb bq
  replace hs := hs.trans hb
  clear hb
  go_upto_region 6 with fail
  obtain ⟨w7, hw⟩ : ∃ w', w' = w6.alloc (.cells #[.int .i64 x, .int .i64 y] 23) := ⟨_, rfl⟩
  rw [← hw]
  replace bp := (bp.alloc (.cells #[.int .i64 x, .int .i64 y] 23)).named hw
  replace bq := (bq.alloc (.cells #[.int .i64 x, .int .i64 y] 23)).named hw
  replace hs : Since w w7 := Since.named (hs.alloc (.cells #[.int .i64 x, .int .i64 y] 23)) hw
  have bx : Whole w7 w6.heap.size 23 #[.int .i64 x, .int .i64 y] := (Whole.new w6 _ _).named hw
  obtain ⟨g_bx, hg⟩ : ∃ g, g = w6.heap.size := ⟨_, rfl⟩
  rw [← hg] at bx ⊢
  clear hw hg
  have c_bp0 := box_cell bp 0 (.int .i64 D) rfl
  have c_bp1 := box_cell bp 1 (.int .i64 B) rfl
  have c_bq0 := box_cell bq 0 (.int .i64 D) rfl
  have c_bq1 := box_cell bq 1 (.int .i64 B) rfl
  have c_bx0 := box_cell bx 0 (.int .i64 x) rfl
  have c_bx1 := box_cell bx 1 (.int .i64 y) rfl
  have hsr := Since.refl w7
  have hsd := hsr.drew
  cases r
  · go_wp2_with (go_at_call 17; (with_reducible refine (Calls.since (by assumption) (knows_any _)).mono ?_); rintro e w73 ⟨rfl, hb73⟩)
    go_ret
    exact ⟨rfl, hs.trans (by assumption)⟩
  · obtain ⟨hf, hp⟩ := hr.out rfl
    have ho := Lib.hid (show okP 16 x y = true from hf)
    clear hf
    replace hp := Lib.hid hp
    go_wp2_with (first | (go_at_call 17; (with_reducible refine (Calls.since (by assumption) (knows_any _)).mono ?_); rintro e w73 ⟨rfl, hb73⟩) | (go_at_call 31; (with_reducible refine (Calls.since (by assumption) (print_at hp.out _)).mono ?_); rintro e w71 ⟨rfl, hb71⟩) | (go_at_call 32; (with_reducible refine (Calls.since (by assumption) (right_at ho.out _)).mono ?_); rintro e w72 ⟨rfl, hb72⟩))
    go_ret
    exact ⟨rfl, hs.trans (by assumption)⟩
end Go.Proofs.Ytilkifjdonafnaa
