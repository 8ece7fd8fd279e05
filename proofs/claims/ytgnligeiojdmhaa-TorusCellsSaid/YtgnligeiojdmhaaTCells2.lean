/- The walk of the law TorusCells, where no torus may be. -/
import Derived.Test.YtgnligeiojdmhaaTCells
namespace Go.Proofs.Ytgnligeiojdmhaa
open Go.RowKit
set_option maxRecDepth 100000 in
set_option maxHeartbeats 8000000 in
theorem cells_no (k x y dx dy n : Int) (w : World) (hr : rgt k = false) : Calls Try.prog 3 #[.int .i64 k, .agg #[.int .i64 x, .int .i64 y], .int .i64 dx, .int .i64 dy, .int .i64 n] w fun e w' => e = .returned (.bool true) ∧ Below w.heap.size w w' := by
  have hm := area_bd k
  obtain ⟨S, hS⟩ : ∃ S, side k = S := ⟨_, rfl⟩
  obtain ⟨B, hB⟩ : ∃ B, hasB k x y = B := ⟨_, rfl⟩
  obtain ⟨MX, hMX⟩ : ∃ v, mvX k x y dx dy = v := ⟨_, rfl⟩
  obtain ⟨MY, hMY⟩ : ∃ v, mvY k x y dx dy = v := ⟨_, rfl⟩
  obtain ⟨ME, hME⟩ : ∃ v, mvE k x y dx dy = v := ⟨_, rfl⟩
  obtain ⟨NN, hNN⟩ : ∃ v, nuN k x y = v := ⟨_, rfl⟩
  obtain ⟨NE, hNE⟩ : ∃ v, nuE k x y = v := ⟨_, rfl⟩
  obtain ⟨CX, hCX⟩ : ∃ v, ceX k n = v := ⟨_, rfl⟩
  obtain ⟨CY, hCY⟩ : ∃ v, ceY k n = v := ⟨_, rfl⟩
  obtain ⟨CE, hCE⟩ : ∃ v, ceE k n = v := ⟨_, rfl⟩
  obtain ⟨WX, hWX⟩ : ∃ v, dx % sd k = v := ⟨_, rfl⟩
  obtain ⟨WY, hWY⟩ : ∃ v, dy % sd k = v := ⟨_, rfl⟩
  have hSS : side k * side k = S * S := by rw [hS]
  have ha : IntKind.i64.wrap (S * S) = S * S := by rw [← hS]; exact IntWalk.i64_in _ (by omega)
  have HS := Lib.hid hS
  have HB := Lib.hid hB
  have HSS := Lib.hid hSS
  replace hr := Lib.hid hr
  replace hMX := Lib.hid hMX
  replace hMY := Lib.hid hMY
  replace hME := Lib.hid hME
  replace hNN := Lib.hid hNN
  replace hNE := Lib.hid hNE
  replace hCX := Lib.hid hCX
  replace hCY := Lib.hid hCY
  replace hCE := Lib.hid hCE
  replace hWX := Lib.hid hWX
  replace hWY := Lib.hid hWY
  clear hm hS hB hSS
  go_enter Try.func3, Try.ntmps3
  go_wp2_with fail
  refine Calls.named (fun w0 hw0 => ?_)
  have hs : Since w w0 := ((Since.refl w).alloc _).named hw0
  have wp : Whole w0 w.heap.size 23 #[.int .i64 x, .int .i64 y] := (Whole.new w _ _).named hw0
  clear hw0
  refine (new_no k w0 hr.out).mono ?_
  rintro e w1 ⟨rfl, hb1⟩
  replace hs := hs.trans hb1
  replace wp := Since.whole hb1 wp
  clear hb1
  have y1 := wp.lt
  have y2 : w.heap.size < w1.heap.size + 1 := by omega
  have p1 := wp.cell 0
  have p2 := wp.cell 1
  go_wp2_with (first
    | (go_at_call 8; (with_reducible refine (law_num_any _ _).mono ?_); rintro e w' ⟨rfl, rfl⟩)
    | (go_at_call 9; (with_reducible refine (refRight_at hr.out _).mono ?_); rintro e w' ⟨rfl, rfl⟩))
  clear p1 p2
  refine Calls.named (fun w2 hw => ?_)
  replace hs : Since w w2 := ((hs.alloc _).alloc _).named hw
  replace wp := ((wp.alloc _).alloc _).named hw
  have wu : Whole w2 (w1.heap.size + 1) 25 #[.int .i64 k] := ((Whole.new (w1.alloc _) _ _).at_ (by simp)).named hw
  obtain ⟨u, hu⟩ : ∃ u, u = w1.heap.size + 1 := ⟨_, rfl⟩
  rw [← hu] at wu y2 ⊢
  clear hw hu y1
  refine (move_at hMX.out hMY.out hME.out _).mono ?_
  rintro e w3 ⟨rfl, hb1⟩
  replace hs := hs.trans hb1
  replace wp := Since.whole hb1 wp
  replace wu := Since.whole hb1 wu
  clear hb1
  have zp := wp.lt
  have zu := wu.lt
  have c1 := wp.cell 0
  have c2 := wp.cell 1
  have c3 := wu.cell 0
  go_wp2_with fail
  clear c1 c2 c3
  refine Calls.named (fun w4 hw => ?_)
  replace hs : Since w w4 := (hs.alloc _).named hw
  have wq : Whole w4 w3.heap.size 23 #[.int .i64 MX, .int .i64 MY] := (Whole.new w3 _ _).named hw
  replace wp := (wp.alloc _).named hw
  replace wu := (wu.alloc _).named hw
  obtain ⟨q, hq⟩ : ∃ v, v = w3.heap.size := ⟨_, rfl⟩
  rw [← hq] at wq zp zu ⊢
  clear hw hq
  clear zp zu
  refine (refMove_at hMX.out hMY.out hME.out _).mono ?_
  rintro e w5 ⟨rfl, hb1⟩
  replace hs := hs.trans hb1
  replace wp := Since.whole hb1 wp
  replace wu := Since.whole hb1 wu
  replace wq := Since.whole hb1 wq
  clear hb1
  have zp := wp.lt
  have zu := wu.lt
  have zq := wq.lt
  have c1 := wp.cell 0
  have c2 := wp.cell 1
  have c3 := wu.cell 0
  go_wp2_with fail
  clear c1 c2 c3
  refine Calls.named (fun w6 hw => ?_)
  replace hs : Since w w6 := (hs.alloc _).named hw
  have wr : Whole w6 w5.heap.size 23 #[.int .i64 MX, .int .i64 MY] := (Whole.new w5 _ _).named hw
  replace wp := (wp.alloc _).named hw
  replace wu := (wu.alloc _).named hw
  replace wq := (wq.alloc _).named hw
  obtain ⟨r, hr⟩ : ∃ v, v = w5.heap.size := ⟨_, rfl⟩
  rw [← hr] at wr zp zu zq ⊢
  clear hw hr
  clear zp zu zq
  refine (numb_at hNN.out hNE.out _).mono ?_
  rintro e w7 ⟨rfl, hb1⟩
  replace hs := hs.trans hb1
  replace wp := Since.whole hb1 wp
  replace wu := Since.whole hb1 wu
  replace wq := Since.whole hb1 wq
  replace wr := Since.whole hb1 wr
  clear hb1
  have zp := wp.lt
  have zu := wu.lt
  have zq := wq.lt
  have zr := wr.lt
  have c1 := wp.cell 0
  have c2 := wp.cell 1
  have c3 := wu.cell 0
  go_wp2_with fail
  clear c1 c2 c3
  refine Calls.named (fun w8 hw => ?_)
  replace hs : Since w w8 := hs.named hw
  replace wp := wp.named hw
  replace wu := wu.named hw
  replace wq := wq.named hw
  replace wr := wr.named hw
  clear hw
  clear zp zu zq zr
  refine (refNumb_at hNN.out hNE.out _).mono ?_
  rintro e w9 ⟨rfl, hb1⟩
  replace hs := hs.trans hb1
  replace wp := Since.whole hb1 wp
  replace wu := Since.whole hb1 wu
  replace wq := Since.whole hb1 wq
  replace wr := Since.whole hb1 wr
  clear hb1
  have zp := wp.lt
  have zu := wu.lt
  have zq := wq.lt
  have zr := wr.lt
  have c1 := wp.cell 0
  have c2 := wp.cell 1
  have c3 := wu.cell 0
  go_wp2_with fail
  clear c1 c2 c3
  refine Calls.named (fun w10 hw => ?_)
  replace hs : Since w w10 := hs.named hw
  replace wp := wp.named hw
  replace wu := wu.named hw
  replace wq := wq.named hw
  replace wr := wr.named hw
  clear hw
  clear zp zu zq zr
  refine (cellv_at hCX.out hCY.out hCE.out _).mono ?_
  rintro e w11 ⟨rfl, hb1⟩
  replace hs := hs.trans hb1
  replace wp := Since.whole hb1 wp
  replace wu := Since.whole hb1 wu
  replace wq := Since.whole hb1 wq
  replace wr := Since.whole hb1 wr
  clear hb1
  have zp := wp.lt
  have zu := wu.lt
  have zq := wq.lt
  have zr := wr.lt
  have c1 := wp.cell 0
  have c2 := wp.cell 1
  have c3 := wu.cell 0
  go_wp2_with fail
  clear c1 c2 c3
  refine Calls.named (fun w12 hw => ?_)
  replace hs : Since w w12 := (hs.alloc _).named hw
  have ws : Whole w12 w11.heap.size 23 #[.int .i64 CX, .int .i64 CY] := (Whole.new w11 _ _).named hw
  replace wp := (wp.alloc _).named hw
  replace wu := (wu.alloc _).named hw
  replace wq := (wq.alloc _).named hw
  replace wr := (wr.alloc _).named hw
  obtain ⟨s, hs⟩ : ∃ v, v = w11.heap.size := ⟨_, rfl⟩
  rw [← hs] at ws zp zu zq zr ⊢
  clear hw hs
  clear zp zu zq zr
  refine (refCellv_at hCX.out hCY.out hCE.out _).mono ?_
  rintro e w13 ⟨rfl, hb1⟩
  replace hs := hs.trans hb1
  replace wp := Since.whole hb1 wp
  replace wu := Since.whole hb1 wu
  replace wq := Since.whole hb1 wq
  replace wr := Since.whole hb1 wr
  replace ws := Since.whole hb1 ws
  clear hb1
  have zp := wp.lt
  have zu := wu.lt
  have zq := wq.lt
  have zr := wr.lt
  have zs := ws.lt
  have c1 := wp.cell 0
  have c2 := wp.cell 1
  have c3 := wu.cell 0
  go_wp2
  clear c1 c2 c3
  obtain ⟨w14, hw⟩ : ∃ v, v = w13.alloc (.cells #[.int .i64 CX, .int .i64 CY] 23) := ⟨_, rfl⟩
  rw [← hw]
  replace hs : Since w w14 := (hs.alloc _).named hw
  have wt : Whole w14 w13.heap.size 23 #[.int .i64 CX, .int .i64 CY] := (Whole.new w13 _ _).named hw
  replace wp := (wp.alloc _).named hw
  replace wu := (wu.alloc _).named hw
  replace wq := (wq.alloc _).named hw
  replace wr := (wr.alloc _).named hw
  replace ws := (ws.alloc _).named hw
  obtain ⟨t, ht⟩ : ∃ v, v = w13.heap.size := ⟨_, rfl⟩
  rw [← ht] at wt zp zu zq zr zs ⊢
  clear hw ht
  clear zp zu zq zr zs
  have cp0 := box_cell wp 0 (.int .i64 x) rfl
  have cp1 := box_cell wp 1 (.int .i64 y) rfl
  have cu0 := box_cell wu 0 (.int .i64 k) rfl
  have cq0 := box_cell wq 0 (.int .i64 MX) rfl
  have cq1 := box_cell wq 1 (.int .i64 MY) rfl
  have cr0 := box_cell wr 0 (.int .i64 MX) rfl
  have cr1 := box_cell wr 1 (.int .i64 MY) rfl
  have cs0 := box_cell ws 0 (.int .i64 CX) rfl
  have cs1 := box_cell ws 1 (.int .i64 CY) rfl
  have ct0 := box_cell wt 0 (.int .i64 CX) rfl
  have ct1 := box_cell wt 1 (.int .i64 CY) rfl
  have hsr := Since.refl w14
  clear wp wu wq wr ws wt y2
  simp only [List.append_eq, List.cons_append, List.nil_append]
  go_region_held3 (fun W => Since w14 W) (first | assumption | exact Since.drew (by assumption)) ((first | (go_at_call 16; (with_reducible refine (Calls.since (by assumption) (side_at HS.out _)).mono ?_); rintro e w20 ⟨rfl, hb20⟩) | (go_at_call 17; (with_reducible refine (Calls.since_same (by assumption) (refSide_at HS.out _)).mono ?_); rintro e w20 ⟨rfl, hb20⟩) | (go_at_call 18; (with_reducible refine (Calls.since (by assumption) (area_at HSS.out _)).mono ?_); rintro e w20 ⟨rfl, hb20⟩) | (go_at_call 19; (with_reducible refine (Calls.since (by assumption) (has_at HB.out _)).mono ?_); rintro e w20 ⟨rfl, hb20⟩) | (go_at_call 20; (with_reducible refine (Calls.since (by assumption) (refHas_at HB.out _)).mono ?_); rintro e w20 ⟨rfl, hb20⟩) | (go_at_call 21; (with_reducible refine (Calls.since (by assumption) (wrap_at hWX.out hWY.out _)).mono ?_); rintro e w20 ⟨rfl, hb20⟩) | (go_at_call 22; (with_reducible refine (Calls.since (by assumption) (refWrap_at hWX.out hWY.out _)).mono ?_); rintro e w20 ⟨rfl, hb20⟩) | (go_at_call 8; (with_reducible refine (Calls.since_same (by assumption) (law_num_any _ _)).mono ?_); rintro e w20 ⟨rfl, hb20⟩) | (go_at_call 23; (with_reducible refine (Calls.since (by assumption) (knows_any _)).mono ?_); rintro e w20 ⟨rfl, hb20⟩)))

  go_wp2
  go_ret
  exact ⟨rfl, hs.trans (by assumption)⟩
theorem cells_walk (k x y dx dy n : Int) (w : World) : Calls Try.prog 3 #[.int .i64 k, .agg #[.int .i64 x, .int .i64 y], .int .i64 dx, .int .i64 dy, .int .i64 n] w fun e w' => e = .returned (.bool true) ∧ Below w.heap.size w w' := by
  cases h : rgt k with
  | true => exact cells_yes k x y dx dy n w h
  | false => exact cells_no k x y dx dy n w h
end Go.Proofs.Ytgnligeiojdmhaa
