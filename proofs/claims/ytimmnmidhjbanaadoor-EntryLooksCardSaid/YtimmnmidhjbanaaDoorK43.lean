/- gleberef11.Heirs. -/
import Derived.Test.YtimmnmidhjbanaaDoorK34
namespace Go.Proofs.YtimmnmidhjbanaaDoor
open Go.RowKit
set_option linter.unusedVariables false
set_option linter.unusedSimpArgs false
theorem right_less {e : En} {l : List Int} (h : rightB e l = true) (h4 : e.kind ≠ 4) (h5 : e.kind ≠ 5) : e.kind < 4 := by
  unfold rightB at h
  split at h
  · omega
  · split at h
    · omega
    · rw [if_neg (by omega)] at h; cases h
theorem Off.since11 {F : Nat → Prop} {w W W' : World} (h : Off F W W') (hs : Since w W) (hF : ∀ b, F b → w.heap.size ≤ b) : Since w W' :=
  Below.trans (show Below w.heap.size w W from hs) (h.below hs.size_ hF)
section
variable {B : Nat} {kind ok x y : Int} {key val : ByteArray} {cl seq nd ep bx : Int} {ca : Option Addr} {cn cc : Nat} {l : List Int} {w : World}
set_option maxRecDepth 100000 in
set_option maxHeartbeats 6400000 in
theorem refHeirs_any (h : LZ B w (.slice ca cn cc) l) (hB : B ≤ w.heap.size) (hl : l.length ≤ 1000000) :
    Calls Tryd.prog 13 #[.agg #[.int .i64 kind, .int .i64 ok, .int .i64 x, .int .i64 y, .string key, .string val, .int .i64 cl, .int .i64 seq, .int .i64 nd, .int .i64 ep, .int .i64 bx, .slice ca cn cc]] w (HeirsP (heirs1 (⟨kind, ok, x, y, key, val, cl, seq, nd, ep, bx⟩ : En) l) (heirs2 (⟨kind, ok, x, y, key, val, cl, seq, nd, ep, bx⟩ : En) l) w) := by
  obtain ⟨r, hr⟩ : ∃ r, rightB (⟨kind, ok, x, y, key, val, cl, seq, nd, ep, bx⟩ : En) l = r := ⟨_, rfl⟩
  unfold heirs1 heirs2
  dsimp only
  rw [hr]
  have HR := Lib.hid (fun W (hW : Since w W) => refRight11_any (h.since hW hB) (Nat.le_trans hB hW.size_) hl hr)
  have HA := Lib.hid (fun W (hW : Since w W) => h.since hW hB)
  have HBB := Lib.hid (fun (hrt : r = true) => And.intro hB (right_len (hr.trans hrt)))
  have HLS := Lib.hid (fun (hrt : r = true) => right_less (hr.trans hrt))
  clear h hB hl hr
  obtain ⟨w0, hw0⟩ : ∃ w0, w0 = w.alloc (.cells #[.int .i64 kind, .int .i64 ok, .int .i64 x, .int .i64 y, .string key, .string val, .int .i64 cl, .int .i64 seq, .int .i64 nd, .int .i64 ep, .int .i64 bx, .slice ca cn cc] 28) := ⟨_, rfl⟩
  have hs0 : Since w w0 := by rw [hw0]; exact (Since.refl w).alloc _
  have wh0 : Whole w0 (w.heap.size) 28 #[.int .i64 kind, .int .i64 ok, .int .i64 x, .int .i64 y, .string key, .string val, .int .i64 cl, .int .i64 seq, .int .i64 nd, .int .i64 ep, .int .i64 bx, .slice ca cn cc] := by rw [hw0]; exact Whole.new w _ _
  have HW := Lib.hid hw0
  have c0_0 := box_cell wh0 0 (.int .i64 kind) rfl
  have c0_1 := box_cell wh0 1 (.int .i64 ok) rfl
  have c0_2 := box_cell wh0 2 (.int .i64 x) rfl
  have c0_3 := box_cell wh0 3 (.int .i64 y) rfl
  have c0_4 := box_cell wh0 4 (.string key) rfl
  have c0_5 := box_cell wh0 5 (.string val) rfl
  have c0_6 := box_cell wh0 6 (.int .i64 cl) rfl
  have c0_7 := box_cell wh0 7 (.int .i64 seq) rfl
  have c0_8 := box_cell wh0 8 (.int .i64 nd) rfl
  have c0_9 := box_cell wh0 9 (.int .i64 ep) rfl
  have c0_10 := box_cell wh0 10 (.int .i64 bx) rfl
  have c0_11 := box_cell wh0 11 (.slice ca cn cc) rfl
  have hsr := Since.refl w0
  have hsd := hsr.drew
  clear hw0 wh0
  cases r with
  | false =>
    rw [if_neg (fun h => Bool.false_ne_true h.1), if_neg (fun h => Bool.false_ne_true h.1)]
    go_enter Tryd.func13, Tryd.ntmps13
    go_wp2_with fail
    rw [← HW.out]
    go_wp2_with (go_at_call 20; (with_reducible refine (HR.out _ hs0).mono ?_); rintro e w1 ⟨rfl, hb1⟩; have hs1 : Since w0 w1 := hb1)
    go_ret2
    exact ⟨_, _, rfl, RZ.nil _ _, RZ.nil _ _, hs0.trans hs1⟩
  | true =>
    have HB := Lib.hid (HBB.out rfl)
    have HLT := Lib.hid (HLS.out rfl)
    clear HBB HLS
    by_cases k45 : kind = 4 ∨ kind = 5
    · rw [if_pos (show true = true ∧ (kind = 4 ∨ kind = 5) from ⟨rfl, k45⟩)]
      have g4 : ¬ (kind < 4) := by omega
      rcases k45 with k4 | k5
      · rw [if_pos ⟨rfl, k4⟩]
        have g5 : (kind == 5) = false := by rw [beq_eq_false_iff_ne]; omega
        clear k4
        go_enter Tryd.func13, Tryd.ntmps13
        go_wp2_with fail
        rw [← HW.out]
        go_wp2_with (go_at_call 20; (with_reducible refine (HR.out _ hs0).mono ?_); rintro e w1 ⟨rfl, hb1⟩; have hs1 : Since w0 w1 := hb1; have hsd1 := hs1.drew)
        refine wp_region_held_drew (S := fun W => Since w0 W) (by kernel_rfl) hsd1 (fun hHeld => ?_)
        generalize w1.drew = wq at hHeld ⊢
        have hHeld0 := hHeld
        refine wpAnyH_take (i := 0) (v := ?_) rfl (by kernel_rfl) (by kernel_rfl) (by kernel_rfl) (fun _ _ _ h => h) (Or.inl ⟨by rfl, ?_⟩) (by assumption) ?_
        rotate_left 1
        · (intro W hW; clear hW; go_simp; try with_reducible rfl)
        simp only [Act.put, List.getElem_toArray, List.getElem_cons_zero, List.setIfInBounds_toArray, List.set_cons_zero, List.set_cons_succ]
        refine wpAnyH_take (i := 1) (v := ?_) rfl (by kernel_rfl) (by kernel_rfl) (by kernel_rfl) (fun _ _ _ h => h) (Or.inl ⟨by rfl, ?_⟩) (by assumption) ?_
        rotate_left 1
        · (intro W hW; skip; go_simp; try with_reducible rfl)
        simp only [Act.put, List.getElem_toArray, List.getElem_cons_succ, List.getElem_cons_zero, List.setIfInBounds_toArray, List.set_cons_zero, List.set_cons_succ]
        refine wpAnyH_take (i := 3) (v := ?_) rfl (by kernel_rfl) (by kernel_rfl) (by kernel_rfl) (fun _ _ _ h => h) (Or.inl ⟨by rfl, ?_⟩) (by assumption) ?_
        rotate_left 1
        · (intro W hW; clear hW; go_simp; try with_reducible rfl)
        simp only [Act.put, List.getElem_toArray, List.getElem_cons_succ, List.getElem_cons_zero, List.setIfInBounds_toArray, List.set_cons_zero, List.set_cons_succ]
        refine wpAnyH_take (i := 4) (v := ?_) rfl (by kernel_rfl) (by kernel_rfl) (by kernel_rfl) (fun _ _ _ h => h) (Or.inl ⟨by rfl, ?_⟩) (by assumption) ?_
        rotate_left 1
        · (intro W hW; skip; go_simp; try with_reducible rfl)
        simp only [Act.put, List.getElem_toArray, List.getElem_cons_succ, List.getElem_cons_zero, List.setIfInBounds_toArray, List.set_cons_zero, List.set_cons_succ]
        refine wpAnyH_take (i := 5) (v := ?_) rfl (by kernel_rfl) (by kernel_rfl) (by kernel_rfl) (fun _ _ _ h => h) (Or.inl ⟨by rfl, ?_⟩) (by assumption) ?_
        rotate_left 1
        · (intro W hW; clear hW; go_simp; try with_reducible rfl)
        simp only [Act.put, List.getElem_toArray, List.getElem_cons_succ, List.getElem_cons_zero, List.setIfInBounds_toArray, List.set_cons_zero, List.set_cons_succ]
        refine wpAnyH_take (i := 6) (v := ?_) rfl (by kernel_rfl) (by kernel_rfl) (by kernel_rfl) (fun _ _ _ h => h) (Or.inl ⟨by rfl, ?_⟩) (by assumption) ?_
        rotate_left 1
        · (intro W hW; skip; go_simp; try with_reducible rfl)
        simp only [Act.put, List.getElem_toArray, List.getElem_cons_succ, List.getElem_cons_zero, List.setIfInBounds_toArray, List.set_cons_zero, List.set_cons_succ]
        refine wpAnyH_ready (rs := [2, 7]) (by kernel_rfl) (by simp) ?_
        refine AllReadyH.cons rfl (fun K hK => ?_) (AllReadyH.cons rfl (fun K hK => ?_) AllReadyH.nil)
        · go_simp
          have hrl := RZ.lit1 (W := wq) (a := bx)
          have hbs := (hs0.trans hHeld).size_
          refine hK.out _ _ (hHeld.alloc _) (fun hHeld => ?_)
          clear hK K
          try simp only [Act.put, List.getElem_toArray, List.getElem_cons_succ, List.getElem_cons_zero, List.setIfInBounds_toArray, List.set_cons_zero, List.set_cons_succ]
          refine wpAnyH_ready (rs := [7]) (by kernel_rfl) (by simp) ?_
          refine AllReadyH.cons rfl (fun K hK => ?_) AllReadyH.nil
          go_simp
          refine (refWithout_any (HA.out _ (hs0.trans hHeld)) (Nat.le_trans HB.out.1 (hs0.trans hHeld).size_) (by have := HB.out.2; omega)).mono ?_
          rintro e w7 ⟨v7, rfl, hr7, hb7⟩
          obtain ⟨x7, c7, rfl⟩ := RowE.shape2 hr7
          have hrl := RZ.since hrl hb7
          have hsz7 := Since.size_ hb7
          go_wp2_with fail
          refine hK.out _ _ (Since.trans hHeld hb7) (fun hHeld => ?_)
          clear hK K
          try simp only [Act.put, List.getElem_toArray, List.getElem_cons_succ, List.getElem_cons_zero, List.setIfInBounds_toArray, List.set_cons_zero, List.set_cons_succ]
          refine wpAnyH_ready (rs := [8]) (by kernel_rfl) (by simp) ?_
          refine AllReadyH.cons rfl (fun K hK => ?_) AllReadyH.nil
          have hs8 := hs0.trans hHeld
          refine step_append_val rfl (.tmp 15) (.tmp 20) 26 rfl wq.heap.size 3 _ 8 Tryd.underlying26 infoZ rfl (by decide) hrl (RowE.part hr7 encZ_len) encZ_len encZ_one rfl rfl (by have := lessL_le l nd; have := HB.out.2; simp; omega) (by decide) (by simp at *; try omega) ?_
          intro v8 w8 hrow8 hoff8
          have hs8 : Since w0 w8 := hoff8.since11 hHeld (fun x hx => by have := (hrl.own x hx).1; have := hHeld0.size_; omega)
          refine hK.out _ _ (hs8) (fun hHeld => ?_)
          clear hK K
          try simp only [Act.put, List.getElem_toArray, List.getElem_cons_succ, List.getElem_cons_zero, List.setIfInBounds_toArray, List.set_cons_zero, List.set_cons_succ]
          refine wpAnyH_take (i := 9) (v := ?_) rfl (by kernel_rfl) (by kernel_rfl) (by kernel_rfl) (fun _ _ _ h => h) (Or.inl ⟨by rfl, ?_⟩) (by assumption) ?_
          rotate_left 1
          · (intro W hW; clear hW; go_simp; try with_reducible rfl)
          simp only [Act.put, List.getElem_toArray, List.getElem_cons_succ, List.getElem_cons_zero, List.setIfInBounds_toArray, List.set_cons_zero, List.set_cons_succ]
          refine wpAnyH_done (by kernel_rfl) ?_ _
          obtain ⟨x8, m8, c8, rfl⟩ := RowE.shape3 hrow8
          have hs8a := hs8.alloc (.cells #[] 3)
          go_wp2_with (at_builtin; refine wpList_append_part rfl _ _ 26 rfl w8.heap.size 3 _ 8 Tryd.underlying26 infoZ rfl (by decide) (RowE.empty (enc := encZ) (n := 1) w8 3) (HA.out _ ((hs0.trans hs8).alloc _)).part encZ_len encZ_one rfl rfl (by have := HB.out.2; rw [List.length_nil]; omega) (by decide) (by simp) ?_; intro v9 w9 hrow9 hoff9; have hs9 : Since w8 w9 := hoff9.since11 ((Since.refl w8).alloc _) (fun x hx => by injection hx with hx; exact Nat.le_of_eq hx))
          obtain ⟨x9, m9, c9, rfl⟩ := RowE.shape3 hrow9
          go_ret2
          exact ⟨_, _, rfl, RZ.mono hrow9 (hs0.trans hs8).size_, RZ.mono (RZ.since hrow8 hs9) (by omega), (hs0.trans hs8).trans hs9⟩
        · go_simp
          refine (refWithout_any (HA.out _ (hs0.trans hHeld)) (Nat.le_trans HB.out.1 (hs0.trans hHeld).size_) (by have := HB.out.2; omega)).mono ?_
          rintro e w7 ⟨v7, rfl, hr7, hb7⟩
          obtain ⟨x7, c7, rfl⟩ := RowE.shape2 hr7
          have hsz7 := Since.size_ hb7
          go_wp2_with fail
          refine hK.out _ _ (Since.trans hHeld hb7) (fun hHeld => ?_)
          clear hK K
          try simp only [Act.put, List.getElem_toArray, List.getElem_cons_succ, List.getElem_cons_zero, List.setIfInBounds_toArray, List.set_cons_zero, List.set_cons_succ]
          refine wpAnyH_ready (rs := [2]) (by kernel_rfl) (by simp) ?_
          refine AllReadyH.cons rfl (fun K hK => ?_) AllReadyH.nil
          go_simp
          have hrl := RZ.lit1 (W := w7) (a := bx)
          have hr7 := RZ.since hr7 ((Since.refl w7).alloc (.cells #[.int .i64 bx] 3))
          have hbs := (hs0.trans hHeld).size_
          refine hK.out _ _ (hHeld.alloc _) (fun hHeld => ?_)
          clear hK K
          try simp only [Act.put, List.getElem_toArray, List.getElem_cons_succ, List.getElem_cons_zero, List.setIfInBounds_toArray, List.set_cons_zero, List.set_cons_succ]
          refine wpAnyH_ready (rs := [8]) (by kernel_rfl) (by simp) ?_
          refine AllReadyH.cons rfl (fun K hK => ?_) AllReadyH.nil
          have hs8 := hs0.trans hHeld
          refine step_append_val rfl (.tmp 15) (.tmp 20) 26 rfl w7.heap.size 3 _ 8 Tryd.underlying26 infoZ rfl (by decide) hrl (RowE.part hr7 encZ_len) encZ_len encZ_one rfl rfl (by have := lessL_le l nd; have := HB.out.2; simp; omega) (by decide) (by simp at *; try omega) ?_
          intro v8 w8 hrow8 hoff8
          have hs8 : Since w0 w8 := hoff8.since11 hHeld (fun x hx => by have := (hrl.own x hx).1; have := hHeld0.size_; omega)
          refine hK.out _ _ (hs8) (fun hHeld => ?_)
          clear hK K
          try simp only [Act.put, List.getElem_toArray, List.getElem_cons_succ, List.getElem_cons_zero, List.setIfInBounds_toArray, List.set_cons_zero, List.set_cons_succ]
          refine wpAnyH_take (i := 9) (v := ?_) rfl (by kernel_rfl) (by kernel_rfl) (by kernel_rfl) (fun _ _ _ h => h) (Or.inl ⟨by rfl, ?_⟩) (by assumption) ?_
          rotate_left 1
          · (intro W hW; clear hW; go_simp; try with_reducible rfl)
          simp only [Act.put, List.getElem_toArray, List.getElem_cons_succ, List.getElem_cons_zero, List.setIfInBounds_toArray, List.set_cons_zero, List.set_cons_succ]
          refine wpAnyH_done (by kernel_rfl) ?_ _
          obtain ⟨x8, m8, c8, rfl⟩ := RowE.shape3 hrow8
          have hs8a := hs8.alloc (.cells #[] 3)
          go_wp2_with (at_builtin; refine wpList_append_part rfl _ _ 26 rfl w8.heap.size 3 _ 8 Tryd.underlying26 infoZ rfl (by decide) (RowE.empty (enc := encZ) (n := 1) w8 3) (HA.out _ ((hs0.trans hs8).alloc _)).part encZ_len encZ_one rfl rfl (by have := HB.out.2; rw [List.length_nil]; omega) (by decide) (by simp) ?_; intro v9 w9 hrow9 hoff9; have hs9 : Since w8 w9 := hoff9.since11 ((Since.refl w8).alloc _) (fun x hx => by injection hx with hx; exact Nat.le_of_eq hx))
          obtain ⟨x9, m9, c9, rfl⟩ := RowE.shape3 hrow9
          go_ret2
          exact ⟨_, _, rfl, RZ.mono hrow9 (hs0.trans hs8).size_, RZ.mono (RZ.since hrow8 hs9) (by omega), (hs0.trans hs8).trans hs9⟩
      · rw [if_neg (show ¬ (true = true ∧ kind = 4) from fun h => by omega)]
        have g5 : (kind == 5) = true := by simpa using k5
        clear k5
        go_enter Tryd.func13, Tryd.ntmps13
        go_wp2_with fail
        rw [← HW.out]
        go_wp2_with (go_at_call 20; (with_reducible refine (HR.out _ hs0).mono ?_); rintro e w1 ⟨rfl, hb1⟩; have hs1 : Since w0 w1 := hb1; have hsd1 := hs1.drew)
        refine wp_region_held_drew (S := fun W => Since w0 W) (by kernel_rfl) hsd1 (fun hHeld => ?_)
        generalize w1.drew = wq at hHeld ⊢
        have hHeld0 := hHeld
        refine wpAnyH_take (i := 0) (v := ?_) rfl (by kernel_rfl) (by kernel_rfl) (by kernel_rfl) (fun _ _ _ h => h) (Or.inl ⟨by rfl, ?_⟩) (by assumption) ?_
        rotate_left 1
        · (intro W hW; clear hW; go_simp; try with_reducible rfl)
        simp only [Act.put, List.getElem_toArray, List.getElem_cons_zero, List.setIfInBounds_toArray, List.set_cons_zero, List.set_cons_succ]
        refine wpAnyH_take (i := 1) (v := ?_) rfl (by kernel_rfl) (by kernel_rfl) (by kernel_rfl) (fun _ _ _ h => h) (Or.inl ⟨by rfl, ?_⟩) (by assumption) ?_
        rotate_left 1
        · (intro W hW; skip; go_simp; try with_reducible rfl)
        simp only [Act.put, List.getElem_toArray, List.getElem_cons_succ, List.getElem_cons_zero, List.setIfInBounds_toArray, List.set_cons_zero, List.set_cons_succ]
        refine wpAnyH_take (i := 3) (v := ?_) rfl (by kernel_rfl) (by kernel_rfl) (by kernel_rfl) (fun _ _ _ h => h) (Or.inl ⟨by rfl, ?_⟩) (by assumption) ?_
        rotate_left 1
        · (intro W hW; clear hW; go_simp; try with_reducible rfl)
        simp only [Act.put, List.getElem_toArray, List.getElem_cons_succ, List.getElem_cons_zero, List.setIfInBounds_toArray, List.set_cons_zero, List.set_cons_succ]
        refine wpAnyH_take (i := 4) (v := ?_) rfl (by kernel_rfl) (by kernel_rfl) (by kernel_rfl) (fun _ _ _ h => h) (Or.inl ⟨by rfl, ?_⟩) (by assumption) ?_
        rotate_left 1
        · (intro W hW; skip; go_simp; try with_reducible rfl)
        simp only [Act.put, List.getElem_toArray, List.getElem_cons_succ, List.getElem_cons_zero, List.setIfInBounds_toArray, List.set_cons_zero, List.set_cons_succ]
        refine wpAnyH_take (i := 5) (v := ?_) rfl (by kernel_rfl) (by kernel_rfl) (by kernel_rfl) (fun _ _ _ h => h) (Or.inl ⟨by rfl, ?_⟩) (by assumption) ?_
        rotate_left 1
        · (intro W hW; clear hW; go_simp; try with_reducible rfl)
        simp only [Act.put, List.getElem_toArray, List.getElem_cons_succ, List.getElem_cons_zero, List.setIfInBounds_toArray, List.set_cons_zero, List.set_cons_succ]
        refine wpAnyH_take (i := 6) (v := ?_) rfl (by kernel_rfl) (by kernel_rfl) (by kernel_rfl) (fun _ _ _ h => h) (Or.inl ⟨by rfl, ?_⟩) (by assumption) ?_
        rotate_left 1
        · (intro W hW; skip; go_simp; try with_reducible rfl)
        simp only [Act.put, List.getElem_toArray, List.getElem_cons_succ, List.getElem_cons_zero, List.setIfInBounds_toArray, List.set_cons_zero, List.set_cons_succ]
        refine wpAnyH_ready (rs := [2, 7]) (by kernel_rfl) (by simp) ?_
        refine AllReadyH.cons rfl (fun K hK => ?_) (AllReadyH.cons rfl (fun K hK => ?_) AllReadyH.nil)
        · go_simp
          have hrl := RZ.lit1 (W := wq) (a := bx)
          have hbs := (hs0.trans hHeld).size_
          refine hK.out _ _ (hHeld.alloc _) (fun hHeld => ?_)
          clear hK K
          try simp only [Act.put, List.getElem_toArray, List.getElem_cons_succ, List.getElem_cons_zero, List.setIfInBounds_toArray, List.set_cons_zero, List.set_cons_succ]
          refine wpAnyH_ready (rs := [7]) (by kernel_rfl) (by simp) ?_
          refine AllReadyH.cons rfl (fun K hK => ?_) AllReadyH.nil
          go_simp
          refine (refWithout_any (HA.out _ (hs0.trans hHeld)) (Nat.le_trans HB.out.1 (hs0.trans hHeld).size_) (by have := HB.out.2; omega)).mono ?_
          rintro e w7 ⟨v7, rfl, hr7, hb7⟩
          obtain ⟨x7, c7, rfl⟩ := RowE.shape2 hr7
          have hrl := RZ.since hrl hb7
          have hsz7 := Since.size_ hb7
          go_wp2_with fail
          refine hK.out _ _ (Since.trans hHeld hb7) (fun hHeld => ?_)
          clear hK K
          try simp only [Act.put, List.getElem_toArray, List.getElem_cons_succ, List.getElem_cons_zero, List.setIfInBounds_toArray, List.set_cons_zero, List.set_cons_succ]
          refine wpAnyH_ready (rs := [8]) (by kernel_rfl) (by simp) ?_
          refine AllReadyH.cons rfl (fun K hK => ?_) AllReadyH.nil
          have hs8 := hs0.trans hHeld
          refine step_append_val rfl (.tmp 15) (.tmp 20) 26 rfl wq.heap.size 3 _ 8 Tryd.underlying26 infoZ rfl (by decide) hrl (RowE.part hr7 encZ_len) encZ_len encZ_one rfl rfl (by have := lessL_le l nd; have := HB.out.2; simp; omega) (by decide) (by simp at *; try omega) ?_
          intro v8 w8 hrow8 hoff8
          have hs8 : Since w0 w8 := hoff8.since11 hHeld (fun x hx => by have := (hrl.own x hx).1; have := hHeld0.size_; omega)
          refine hK.out _ _ (hs8) (fun hHeld => ?_)
          clear hK K
          try simp only [Act.put, List.getElem_toArray, List.getElem_cons_succ, List.getElem_cons_zero, List.setIfInBounds_toArray, List.set_cons_zero, List.set_cons_succ]
          refine wpAnyH_take (i := 9) (v := ?_) rfl (by kernel_rfl) (by kernel_rfl) (by kernel_rfl) (fun _ _ _ h => h) (Or.inl ⟨by rfl, ?_⟩) (by assumption) ?_
          rotate_left 1
          · (intro W hW; clear hW; go_simp; try with_reducible rfl)
          simp only [Act.put, List.getElem_toArray, List.getElem_cons_succ, List.getElem_cons_zero, List.setIfInBounds_toArray, List.set_cons_zero, List.set_cons_succ]
          refine wpAnyH_done (by kernel_rfl) ?_ _
          obtain ⟨x8, m8, c8, rfl⟩ := RowE.shape3 hrow8
          go_wp2
          go_ret2
          exact ⟨_, _, rfl, RZ.nil _ _, RZ.mono hrow8 (by omega), hs0.trans hs8⟩
        · go_simp
          refine (refWithout_any (HA.out _ (hs0.trans hHeld)) (Nat.le_trans HB.out.1 (hs0.trans hHeld).size_) (by have := HB.out.2; omega)).mono ?_
          rintro e w7 ⟨v7, rfl, hr7, hb7⟩
          obtain ⟨x7, c7, rfl⟩ := RowE.shape2 hr7
          have hsz7 := Since.size_ hb7
          go_wp2_with fail
          refine hK.out _ _ (Since.trans hHeld hb7) (fun hHeld => ?_)
          clear hK K
          try simp only [Act.put, List.getElem_toArray, List.getElem_cons_succ, List.getElem_cons_zero, List.setIfInBounds_toArray, List.set_cons_zero, List.set_cons_succ]
          refine wpAnyH_ready (rs := [2]) (by kernel_rfl) (by simp) ?_
          refine AllReadyH.cons rfl (fun K hK => ?_) AllReadyH.nil
          go_simp
          have hrl := RZ.lit1 (W := w7) (a := bx)
          have hr7 := RZ.since hr7 ((Since.refl w7).alloc (.cells #[.int .i64 bx] 3))
          have hbs := (hs0.trans hHeld).size_
          refine hK.out _ _ (hHeld.alloc _) (fun hHeld => ?_)
          clear hK K
          try simp only [Act.put, List.getElem_toArray, List.getElem_cons_succ, List.getElem_cons_zero, List.setIfInBounds_toArray, List.set_cons_zero, List.set_cons_succ]
          refine wpAnyH_ready (rs := [8]) (by kernel_rfl) (by simp) ?_
          refine AllReadyH.cons rfl (fun K hK => ?_) AllReadyH.nil
          have hs8 := hs0.trans hHeld
          refine step_append_val rfl (.tmp 15) (.tmp 20) 26 rfl w7.heap.size 3 _ 8 Tryd.underlying26 infoZ rfl (by decide) hrl (RowE.part hr7 encZ_len) encZ_len encZ_one rfl rfl (by have := lessL_le l nd; have := HB.out.2; simp; omega) (by decide) (by simp at *; try omega) ?_
          intro v8 w8 hrow8 hoff8
          have hs8 : Since w0 w8 := hoff8.since11 hHeld (fun x hx => by have := (hrl.own x hx).1; have := hHeld0.size_; omega)
          refine hK.out _ _ (hs8) (fun hHeld => ?_)
          clear hK K
          try simp only [Act.put, List.getElem_toArray, List.getElem_cons_succ, List.getElem_cons_zero, List.setIfInBounds_toArray, List.set_cons_zero, List.set_cons_succ]
          refine wpAnyH_take (i := 9) (v := ?_) rfl (by kernel_rfl) (by kernel_rfl) (by kernel_rfl) (fun _ _ _ h => h) (Or.inl ⟨by rfl, ?_⟩) (by assumption) ?_
          rotate_left 1
          · (intro W hW; clear hW; go_simp; try with_reducible rfl)
          simp only [Act.put, List.getElem_toArray, List.getElem_cons_succ, List.getElem_cons_zero, List.setIfInBounds_toArray, List.set_cons_zero, List.set_cons_succ]
          refine wpAnyH_done (by kernel_rfl) ?_ _
          obtain ⟨x8, m8, c8, rfl⟩ := RowE.shape3 hrow8
          go_wp2
          go_ret2
          exact ⟨_, _, rfl, RZ.nil _ _, RZ.mono hrow8 (by omega), hs0.trans hs8⟩
    · rw [if_neg (fun h => k45 (.inl h.2)), if_neg (fun h => k45 h.2)]
      have g4 : kind < 4 := HLT.out (fun h => k45 (.inl h)) (fun h => k45 (.inr h))
      clear k45
      go_enter Tryd.func13, Tryd.ntmps13
      go_wp2_with fail
      rw [← HW.out]
      go_wp2_with (go_at_call 20; (with_reducible refine (HR.out _ hs0).mono ?_); rintro e w1 ⟨rfl, hb1⟩; have hs1 : Since w0 w1 := hb1)
      go_ret2
      exact ⟨_, _, rfl, RZ.nil _ _, RZ.nil _ _, hs0.trans hs1⟩
end
end Go.Proofs.YtimmnmidhjbanaaDoor
