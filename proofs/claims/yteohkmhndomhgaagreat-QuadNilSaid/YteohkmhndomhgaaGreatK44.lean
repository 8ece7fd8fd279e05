/- The walk of the law QuadNil. -/
import Derived.Test.YteohkmhndomhgaaGreatK12
import Derived.Test.YteohkmhndomhgaaGreatK41
import Derived.Test.YteohkmhndomhgaaGreatK43
import Derived.LoopN
namespace Go.Proofs.YteohkmhndomhgaaGreat
open Go.RowKit
attribute [local go_sem] Oper.semAt_some
set_option linter.unusedVariables false
set_option linter.unusedSimpArgs false
theorem rec8_at (r : Rq) (w : World) : Calls Tryz.prog 16 #[.agg #[.int .i64 r.x, .int .i64 r.y, .string r.key, .string r.val, .int .i64 r.ver]] w fun e w' => e = .returned (.agg #[.int .i64 r.x, .int .i64 r.y, .string r.key, .string r.val, .int .i64 r.ver]) ∧ Below w.heap.size w w' := rec8_any r w
theorem lent8_one {B g : Nat} {W : World} {t : TypeId} {r : Rq} (h : Whole W g t #[.int .i64 r.x, .int .i64 r.y, .string r.key, .string r.val, .int .i64 r.ver]) (hg : g < B) : LentE encQ 5 B W (.slice (some ⟨g, 0, none⟩) 1 1) [r] := by
  refine ⟨_, 1, rfl, .inr ⟨g, 0, rfl, hg, fun i hi j u hu => ?_⟩⟩
  obtain rfl : i = 0 := by simp at hi; omega
  rw [h.cell]
  simpa [encQ] using hu
set_option maxRecDepth 100000 in
set_option maxHeartbeats 1600000 in
/-- Join of a made tree with none. -/
theorem tjoin_nil {g : Nat} {q : QN} {k d b : Int} {L : List Rq} {w : World} (h : TreeO g q k d b L w) {v : Value} (hu : UmQ w v) : Calls Tryz.prog 10 #[.pointer (some ⟨g, 0, none⟩), v] w fun e w' => e = .returned (.tuple #[.pointer none, .int .i64 1]) ∧ Below w.heap.size w w' := by
  obtain ⟨o, rfl⟩ := hu.ptr
  have HM := Lib.hid (fun W (hW : Since w W) => tmade_any (h.since hW))
  have HU := Lib.hid (fun W (hW : Since w W) => umq_made (hu.since hW))
  have hsd : Since w w.drew := (Since.refl w).drew
  clear h hu
  go_enter Tryz.func10, Tryz.ntmps10
  go_wp2_with fail
  refine wp_region_held_drew (S := fun W => Since w W) (by kernel_rfl) hsd (fun hHeld => ?_)
  refine wpAnyH_take (i := 0) (v := ?_) rfl (by kernel_rfl) (by kernel_rfl) (by kernel_rfl) (fun _ _ _ h => h) (Or.inl ⟨by rfl, ?_⟩) (by assumption) ?_
  rotate_left 1
  · (intro W hW; clear hW; go_simp; try with_reducible rfl)
  simp only [Act.put, List.getElem_toArray, List.getElem_cons_zero, List.setIfInBounds_toArray, List.set_cons_zero, List.set_cons_succ]
  refine wpAnyH_ready (rs := [1]) (by kernel_rfl) (by simp) ?_
  refine AllReadyH.cons rfl (fun K hK => ?_) AllReadyH.nil
  go_simp
  refine (HM.out _ hHeld).mono ?_
  rintro e w1 ⟨rfl, rfl⟩
  go_wp2_with fail
  refine hK.out _ _ (hHeld) (fun hHeld => ?_)
  clear hK K
  try simp only [Act.put, List.getElem_toArray, List.getElem_cons_succ, List.getElem_cons_zero, List.setIfInBounds_toArray, List.set_cons_zero, List.set_cons_succ]
  refine wpAnyH_take (i := 2) (v := ?_) rfl (by kernel_rfl) (by kernel_rfl) (by kernel_rfl) (fun _ _ _ h => h) (Or.inl ⟨by rfl, ?_⟩) (by assumption) ?_
  rotate_left 1
  · (intro W hW; clear hW; go_simp; try with_reducible rfl)
  simp only [Act.put, List.getElem_toArray, List.getElem_cons_succ, List.getElem_cons_zero, List.setIfInBounds_toArray, List.set_cons_zero, List.set_cons_succ]
  refine wpAnyH_take (i := 3) (v := ?_) rfl (by kernel_rfl) (by kernel_rfl) (by kernel_rfl) (fun _ _ _ h => h) (Or.inl ⟨by rfl, ?_⟩) (by assumption) ?_
  rotate_left 1
  · (intro W hW; clear hW; go_simp; try with_reducible rfl)
  simp only [Act.put, List.getElem_toArray, List.getElem_cons_succ, List.getElem_cons_zero, List.setIfInBounds_toArray, List.set_cons_zero, List.set_cons_succ]
  refine wpAnyH_take (i := 4) (v := ?_) rfl (by kernel_rfl) (by kernel_rfl) (by kernel_rfl) (fun _ _ _ h => h) (Or.inl ⟨by rfl, ?_⟩) (by assumption) ?_
  rotate_left 1
  · (intro W hW; clear hW; go_simp; try with_reducible rfl)
  simp only [Act.put, List.getElem_toArray, List.getElem_cons_succ, List.getElem_cons_zero, List.setIfInBounds_toArray, List.set_cons_zero, List.set_cons_succ]
  refine wpAnyH_ready (rs := [5]) (by kernel_rfl) (by simp) ?_
  refine AllReadyH.cons rfl (fun K hK => ?_) AllReadyH.nil
  go_simp
  refine (Calls.since hHeld (HU.out _ hHeld)).mono ?_
  rintro e w2 ⟨rfl, hb2⟩
  go_wp2_with fail
  refine hK.out _ _ (hb2) (fun hHeld => ?_)
  clear hK K
  try simp only [Act.put, List.getElem_toArray, List.getElem_cons_succ, List.getElem_cons_zero, List.setIfInBounds_toArray, List.set_cons_zero, List.set_cons_succ]
  refine wpAnyH_take (i := 6) (v := ?_) rfl (by kernel_rfl) (by kernel_rfl) (by kernel_rfl) (fun _ _ _ h => h) (Or.inl ⟨by rfl, ?_⟩) (by assumption) ?_
  rotate_left 1
  · (intro W hW; clear hW; go_simp; try with_reducible rfl)
  simp only [Act.put, List.getElem_toArray, List.getElem_cons_succ, List.getElem_cons_zero, List.setIfInBounds_toArray, List.set_cons_zero, List.set_cons_succ]
  refine wpAnyH_take (i := 7) (v := ?_) rfl (by kernel_rfl) (by kernel_rfl) (by kernel_rfl) (fun _ _ _ h => h) (Or.inl ⟨by rfl, ?_⟩) (by assumption) ?_
  rotate_left 1
  · (intro W hW; clear hW; go_simp; try with_reducible rfl)
  simp only [Act.put, List.getElem_toArray, List.getElem_cons_succ, List.getElem_cons_zero, List.setIfInBounds_toArray, List.set_cons_zero, List.set_cons_succ]
  refine wpAnyH_take (i := 8) (v := ?_) rfl (by kernel_rfl) (by kernel_rfl) (by kernel_rfl) (fun _ _ _ h => h) (Or.inl ⟨by rfl, ?_⟩) (by assumption) ?_
  rotate_left 1
  · (intro W hW; clear hW; go_simp; try with_reducible rfl)
  simp only [Act.put, List.getElem_toArray, List.getElem_cons_succ, List.getElem_cons_zero, List.setIfInBounds_toArray, List.set_cons_zero, List.set_cons_succ]
  refine wpAnyH_take (i := 9) (v := undef) rfl (by kernel_rfl) (by kernel_rfl) (by kernel_rfl) (fun _ _ _ h => h) (Or.inr ⟨by rfl, rfl⟩) (by assumption) ?_
  simp only [Act.put, List.getElem_toArray, List.getElem_cons_succ, List.getElem_cons_zero, List.setIfInBounds_toArray, List.set_cons_zero, List.set_cons_succ]
  refine wpAnyH_take (i := 10) (v := undef) rfl (by kernel_rfl) (by kernel_rfl) (by kernel_rfl) (fun _ _ _ h => h) (Or.inr ⟨by rfl, rfl⟩) (by assumption) ?_
  simp only [Act.put, List.getElem_toArray, List.getElem_cons_succ, List.getElem_cons_zero, List.setIfInBounds_toArray, List.set_cons_zero, List.set_cons_succ]
  refine wpAnyH_take (i := 11) (v := undef) rfl (by kernel_rfl) (by kernel_rfl) (by kernel_rfl) (fun _ _ _ h => h) (Or.inr ⟨by rfl, rfl⟩) (by assumption) ?_
  simp only [Act.put, List.getElem_toArray, List.getElem_cons_succ, List.getElem_cons_zero, List.setIfInBounds_toArray, List.set_cons_zero, List.set_cons_succ]
  refine wpAnyH_take (i := 12) (v := undef) rfl (by kernel_rfl) (by kernel_rfl) (by kernel_rfl) (fun _ _ _ h => h) (Or.inr ⟨by rfl, rfl⟩) (by assumption) ?_
  simp only [Act.put, List.getElem_toArray, List.getElem_cons_succ, List.getElem_cons_zero, List.setIfInBounds_toArray, List.set_cons_zero, List.set_cons_succ]
  refine wpAnyH_take (i := 13) (v := undef) rfl (by kernel_rfl) (by kernel_rfl) (by kernel_rfl) (fun _ _ _ h => h) (Or.inr ⟨by rfl, rfl⟩) (by assumption) ?_
  simp only [Act.put, List.getElem_toArray, List.getElem_cons_succ, List.getElem_cons_zero, List.setIfInBounds_toArray, List.set_cons_zero, List.set_cons_succ]
  refine wpAnyH_take (i := 14) (v := undef) rfl (by kernel_rfl) (by kernel_rfl) (by kernel_rfl) (fun _ _ _ h => h) (Or.inr ⟨by rfl, rfl⟩) (by assumption) ?_
  simp only [Act.put, List.getElem_toArray, List.getElem_cons_succ, List.getElem_cons_zero, List.setIfInBounds_toArray, List.set_cons_zero, List.set_cons_succ]
  refine wpAnyH_take (i := 15) (v := undef) rfl (by kernel_rfl) (by kernel_rfl) (by kernel_rfl) (fun _ _ _ h => h) (Or.inr ⟨by rfl, rfl⟩) (by assumption) ?_
  simp only [Act.put, List.getElem_toArray, List.getElem_cons_succ, List.getElem_cons_zero, List.setIfInBounds_toArray, List.set_cons_zero, List.set_cons_succ]
  refine wpAnyH_take (i := 16) (v := undef) rfl (by kernel_rfl) (by kernel_rfl) (by kernel_rfl) (fun _ _ _ h => h) (Or.inr ⟨by rfl, rfl⟩) (by assumption) ?_
  simp only [Act.put, List.getElem_toArray, List.getElem_cons_succ, List.getElem_cons_zero, List.setIfInBounds_toArray, List.set_cons_zero, List.set_cons_succ]
  refine wpAnyH_take (i := 17) (v := undef) rfl (by kernel_rfl) (by kernel_rfl) (by kernel_rfl) (fun _ _ _ h => h) (Or.inr ⟨by rfl, rfl⟩) (by assumption) ?_
  simp only [Act.put, List.getElem_toArray, List.getElem_cons_succ, List.getElem_cons_zero, List.setIfInBounds_toArray, List.set_cons_zero, List.set_cons_succ]
  refine wpAnyH_take (i := 18) (v := ?_) rfl (by kernel_rfl) (by kernel_rfl) (by kernel_rfl) (fun _ _ _ h => h) (Or.inl ⟨by rfl, ?_⟩) (by assumption) ?_
  rotate_left 1
  · (intro W hW; clear hW; go_simp; try with_reducible rfl)
  simp only [Act.put, List.getElem_toArray, List.getElem_cons_succ, List.getElem_cons_zero, List.setIfInBounds_toArray, List.set_cons_zero, List.set_cons_succ]
  refine wpAnyH_done (by kernel_rfl) ?_ _
  go_wp2_with fail
  go_ret2
  exact ⟨rfl, hb2⟩
set_option maxRecDepth 100000 in
set_option maxHeartbeats 1600000 in
theorem nil8_dark (r : Rq) (a b c d : Int) (w : World) (hl : lightQ [r] = false) : Calls Tryz.prog 4 #[.agg #[.int .i64 r.x, .int .i64 r.y, .string r.key, .string r.val, .int .i64 r.ver], .agg #[.int .i64 a, .int .i64 b, .int .i64 c, .int .i64 d]] w fun e w' => e = .returned (.bool true) ∧ Below w.heap.size w w' := by
  have HL := Lib.hid hl
  clear hl
  obtain ⟨w0, hw0⟩ : ∃ w0, w0 = (w.alloc (.cells #[.int .i64 r.x, .int .i64 r.y, .string r.key, .string r.val, .int .i64 r.ver] 44)).alloc (.cells #[.int .i64 a, .int .i64 b, .int .i64 c, .int .i64 d] 46) := ⟨_, rfl⟩
  have hs0 : Since w w0 := by rw [hw0]; exact ((Since.refl w).alloc _).alloc _
  have wh0 : Whole w0 (w.heap.size) 44 #[.int .i64 r.x, .int .i64 r.y, .string r.key, .string r.val, .int .i64 r.ver] := by rw [hw0]; exact (Whole.new w _ _).alloc _
  have wh1 : Whole w0 (w.heap.size + 1) 46 #[.int .i64 a, .int .i64 b, .int .i64 c, .int .i64 d] := by rw [hw0]; exact (Whole.new (w.alloc _) _ _).at_ (by simp)
  have HW := Lib.hid hw0
  have c0_0 := box_cell wh0 0 (.int .i64 r.x) rfl
  have c0_1 := box_cell wh0 1 (.int .i64 r.y) rfl
  have c0_2 := box_cell wh0 2 (.string r.key) rfl
  have c0_3 := box_cell wh0 3 (.string r.val) rfl
  have c0_4 := box_cell wh0 4 (.int .i64 r.ver) rfl
  have c1_0 := box_cell wh1 0 (.int .i64 a) rfl
  have c1_1 := box_cell wh1 1 (.int .i64 b) rfl
  have c1_2 := box_cell wh1 2 (.int .i64 c) rfl
  have c1_3 := box_cell wh1 3 (.int .i64 d) rfl
  have hsr := Since.refl w0
  have hsd := hsr.drew
  clear hw0 wh0 wh1
  go_enter Tryz.func4, Tryz.ntmps4
  go_upto_region 1 with fail
  rw [← HW.out]
  have HLT := Lib.hid (light8_any (lent8_one (r := r) (Whole.new w0 44 #[.int .i64 r.x, .int .i64 r.y, .string r.key, .string r.val, .int .i64 r.ver]) (B := w0.heap.size + 1) (by omega)) (by simp) HL.out)
  go_wp2_with (first
    | (go_at_call 6; (with_reducible refine HLT.out.mono ?_); rintro e w2 ⟨rfl, hb2⟩; (have hs2 : Since w0 w2 := Since.trans (hsr.alloc _) hb2))
    | (go_at_call 7; (with_reducible refine (knows8_any _).mono ?_); rintro e w3 ⟨rfl, hb3⟩))
  go_ret
  exact ⟨rfl, (hs0.trans hs2).trans hb3⟩
set_option maxRecDepth 100000 in
set_option maxHeartbeats 12800000 in
theorem nil8_light (r : Rq) (a b c d : Int) (w : World) (hl : lightQ [r] = true) : Calls Tryz.prog 4 #[.agg #[.int .i64 r.x, .int .i64 r.y, .string r.key, .string r.val, .int .i64 r.ver], .agg #[.int .i64 a, .int .i64 b, .int .i64 c, .int .i64 d]] w fun e w' => e = .returned (.bool true) ∧ Below w.heap.size w w' := by
  have HL := Lib.hid hl
  clear hl
  obtain ⟨w0, hw0⟩ : ∃ w0, w0 = (w.alloc (.cells #[.int .i64 r.x, .int .i64 r.y, .string r.key, .string r.val, .int .i64 r.ver] 44)).alloc (.cells #[.int .i64 a, .int .i64 b, .int .i64 c, .int .i64 d] 46) := ⟨_, rfl⟩
  have hs0 : Since w w0 := by rw [hw0]; exact ((Since.refl w).alloc _).alloc _
  have wh0 : Whole w0 (w.heap.size) 44 #[.int .i64 r.x, .int .i64 r.y, .string r.key, .string r.val, .int .i64 r.ver] := by rw [hw0]; exact (Whole.new w _ _).alloc _
  have wh1 : Whole w0 (w.heap.size + 1) 46 #[.int .i64 a, .int .i64 b, .int .i64 c, .int .i64 d] := by rw [hw0]; exact (Whole.new (w.alloc _) _ _).at_ (by simp)
  have HW := Lib.hid hw0
  have c0_0 := box_cell wh0 0 (.int .i64 r.x) rfl
  have c0_1 := box_cell wh0 1 (.int .i64 r.y) rfl
  have c0_2 := box_cell wh0 2 (.string r.key) rfl
  have c0_3 := box_cell wh0 3 (.string r.val) rfl
  have c0_4 := box_cell wh0 4 (.int .i64 r.ver) rfl
  have c1_0 := box_cell wh1 0 (.int .i64 a) rfl
  have c1_1 := box_cell wh1 1 (.int .i64 b) rfl
  have c1_2 := box_cell wh1 2 (.int .i64 c) rfl
  have c1_3 := box_cell wh1 3 (.int .i64 d) rfl
  have hsr := Since.refl w0
  have hsd := hsr.drew
  clear hw0 wh0 wh1
  go_enter Tryz.func4, Tryz.ntmps4
  go_upto_region 1 with fail
  rw [← HW.out]
  have HLT := Lib.hid (light8_any (lent8_one (r := r) (Whole.new w0 44 #[.int .i64 r.x, .int .i64 r.y, .string r.key, .string r.val, .int .i64 r.ver]) (B := w0.heap.size + 1) (by omega)) (by simp) HL.out)
  have HN := Lib.hid (fun W => tnew_any (k := 2) (d := 1) (b := 0) (v := .slice none 0 0) (l := []) (nil_listE W) (Nat.le_refl _) (by simp))
  go_wp2_with (first
    | (go_at_call 6; (with_reducible refine HLT.out.mono ?_); rintro e w2 ⟨rfl, hb2⟩; (have hs2 : Since w0 w2 := Since.trans (hsr.alloc _) hb2))
    | (go_at_call 8; (with_reducible refine (HN.out _).mono ?_); rintro e w3 hP; obtain ⟨g, q, rfl, hT, hnew, hb3⟩ := new_yes hP (by kernel_rfl) (by kernel_rfl); (have hs3 : Since w0 w3 := hs2.trans hb3); clear hP))
  have r0 := fun W' (h : Since w3 W') => c0_0 W' (hs3.trans h)
  have r1 := fun W' (h : Since w3 W') => c0_1 W' (hs3.trans h)
  have r2 := fun W' (h : Since w3 W') => c0_2 W' (hs3.trans h)
  have r3 := fun W' (h : Since w3 W') => c0_3 W' (hs3.trans h)
  have r4 := fun W' (h : Since w3 W') => c0_4 W' (hs3.trans h)
  have d0 := fun W' (h : Since w3 W') => c1_0 W' (hs3.trans h)
  have d1 := fun W' (h : Since w3 W') => c1_1 W' (hs3.trans h)
  have d2 := fun W' (h : Since w3 W') => c1_2 W' (hs3.trans h)
  have d3 := fun W' (h : Since w3 W') => c1_3 W' (hs3.trans h)
  have HT := Lib.hid (fun W' (h : Since w3 W') => hT.since h)
  have HU := Lib.hid (fun W' (h : Since w3 W') => show UmQ W' (.pointer none) from .inl rfl)
  have HS3 := Lib.hid (hs0.trans hs3)
  clear c0_0 c0_1 c0_2 c0_3 c0_4 c1_0 c1_1 c1_2 c1_3 hsr hsd hs2 hs3 hb2 hb3 hT hnew HLT HN HL
  have hr3 := Since.refl w3
  refine wp_loop_rounds 3 ?_
  rw [rounds_succ]
  go_wp2_with (first | (go_at_call 15; (with_reducible refine (Calls.since (by first | assumption | exact Since.alloc (by assumption) _) (umq_put (HU.out _ (by first | assumption | exact Since.alloc (by assumption) _)) _ _ _ _ _)).mono ?_); rintro e wx ⟨rfl, hb⟩) | (go_at_call 17; (with_reducible refine (Calls.since (by first | assumption | exact Since.alloc (by assumption) _) (umq_get (HU.out _ (by first | assumption | exact Since.alloc (by assumption) _)) _ _ _)).mono ?_); rintro e wx ⟨rfl, hb⟩) | (go_at_call 18; (with_reducible refine (Calls.since (by first | assumption | exact Since.alloc (by assumption) _) (umq_part (HU.out _ (by first | assumption | exact Since.alloc (by assumption) _)) _ _)).mono ?_); rintro e wx ⟨rfl, hb⟩) | (go_at_call 10; (with_reducible refine (Calls.since (by first | assumption | exact Since.alloc (by assumption) _) (umq_join (HU.out _ (by first | assumption | exact Since.alloc (by assumption) _)) _)).mono ?_); rintro e wx ⟨rfl, hb⟩) | (go_at_call 10; (with_reducible refine (Calls.since (by first | assumption | exact Since.alloc (by assumption) _) (tjoin_nil (HT.out _ (by first | assumption | exact Since.alloc (by assumption) _)) (HU.out _ (by first | assumption | exact Since.alloc (by assumption) _)))).mono ?_); rintro e wx ⟨rfl, hb⟩) | (go_at_call 19; (with_reducible refine (Calls.since (by first | assumption | exact Since.alloc (by assumption) _) (umq_shape (HU.out _ (by first | assumption | exact Since.alloc (by assumption) _)))).mono ?_); rintro e wx ⟨rfl, hb⟩) | (go_at_call 20; (with_reducible refine (Calls.since (by first | assumption | exact Since.alloc (by assumption) _) (umq_del (HU.out _ (by first | assumption | exact Since.alloc (by assumption) _)) _ _ _)).mono ?_); rintro e wx ⟨rfl, hb⟩) | (go_at_call 21; (with_reducible refine (Calls.since (by first | assumption | exact Since.alloc (by assumption) _) (umq_in (HU.out _ (by first | assumption | exact Since.alloc (by assumption) _)) _ _ _ _)).mono ?_); rintro e wx ⟨rfl, hb⟩) | (go_at_call 23; (with_reducible refine (Calls.since (by first | assumption | exact Since.alloc (by assumption) _) (umq_all (HU.out _ (by first | assumption | exact Since.alloc (by assumption) _)))).mono ?_); rintro e wx ⟨rfl, hb⟩) | (go_at_call 24; (with_reducible refine (Calls.since (by first | assumption | exact Since.alloc (by assumption) _) (umq_len (HU.out _ (by first | assumption | exact Since.alloc (by assumption) _)))).mono ?_); rintro e wx ⟨rfl, hb⟩) | (go_at_call 25; (with_reducible refine (Calls.since (by first | assumption | exact Since.alloc (by assumption) _) (umq_zone (HU.out _ (by first | assumption | exact Since.alloc (by assumption) _)))).mono ?_); rintro e wx ⟨rfl, hb⟩) | (go_at_call 26; (with_reducible refine (Calls.since (by first | assumption | exact Since.alloc (by assumption) _) (umq_clone (HU.out _ (by first | assumption | exact Since.alloc (by assumption) _)))).mono ?_); rintro e wx ⟨rfl, hb⟩) | (go_at_call 11; (with_reducible refine (Calls.since_same (by first | assumption | exact Since.alloc (by assumption) _) (num8_any _ _)).mono ?_); rintro e wx ⟨rfl, hb⟩) | (go_at_call 16; (with_reducible refine (Calls.since (by first | assumption | exact Since.alloc (by assumption) _) (rec8_at r _)).mono ?_); rintro e wx ⟨rfl, hb⟩) | (go_at_call 22; (with_reducible refine (Calls.since (by first | assumption | exact Since.alloc (by assumption) _) (own8_any _ _ _ _ _)).mono ?_); rintro e wx ⟨rfl, hb⟩))
  obtain ⟨wb, hwb⟩ : ∃ wb, wb = wx.alloc (.cells #[.int .i64 0, .int .i64 0, .int .i64 0, .pointer none] 66) := ⟨_, rfl⟩
  rw [← hwb]
  have hsb : Since w3 wb := by rw [hwb]; exact Since.alloc (by assumption) _
  have hub : UmQ wb (.pointer (some ⟨wx.heap.size, 0, none⟩)) := .inr ⟨_, rfl, by rw [hwb]; exact Whole.new wx _ _⟩
  have HU2 := Lib.hid (fun W' (h : Since wb W') => hub.since h)
  have HT2 := Lib.hid (fun W' (h : Since wb W') => HT.out W' (hsb.trans h))
  have q0 := fun W' (h : Since wb W') => r0 W' (hsb.trans h)
  have q1 := fun W' (h : Since wb W') => r1 W' (hsb.trans h)
  have q2 := fun W' (h : Since wb W') => r2 W' (hsb.trans h)
  have q3 := fun W' (h : Since wb W') => r3 W' (hsb.trans h)
  have q4 := fun W' (h : Since wb W') => r4 W' (hsb.trans h)
  have e0 := fun W' (h : Since wb W') => d0 W' (hsb.trans h)
  have e1 := fun W' (h : Since wb W') => d1 W' (hsb.trans h)
  have e2 := fun W' (h : Since wb W') => d2 W' (hsb.trans h)
  have e3 := fun W' (h : Since wb W') => d3 W' (hsb.trans h)
  have HSB := Lib.hid (HS3.out.trans hsb)
  clear r0 r1 r2 r3 r4 d0 d1 d2 d3 HT HU HS3 hub hwb hsb
  rename Hid (∀ W', Since wb W' → UmQ W' (.pointer (some ⟨wx.heap.size, 0, none⟩))) => HU
  have HT := HT2
  have hrb := Since.refl wb
  obtain ⟨gb, hgb⟩ : ∃ gb, gb = wx.heap.size := ⟨_, rfl⟩
  rw [← hgb] at HU ⊢
  clear hgb
  rw [rounds_succ]
  go_wp2_with (first | (go_at_call 15; (with_reducible refine (Calls.since (by first | assumption | exact Since.alloc (by assumption) _) (umq_put (HU.out _ (by first | assumption | exact Since.alloc (by assumption) _)) _ _ _ _ _)).mono ?_); rintro e wx ⟨rfl, hb⟩) | (go_at_call 17; (with_reducible refine (Calls.since (by first | assumption | exact Since.alloc (by assumption) _) (umq_get (HU.out _ (by first | assumption | exact Since.alloc (by assumption) _)) _ _ _)).mono ?_); rintro e wx ⟨rfl, hb⟩) | (go_at_call 18; (with_reducible refine (Calls.since (by first | assumption | exact Since.alloc (by assumption) _) (umq_part (HU.out _ (by first | assumption | exact Since.alloc (by assumption) _)) _ _)).mono ?_); rintro e wx ⟨rfl, hb⟩) | (go_at_call 10; (with_reducible refine (Calls.since (by first | assumption | exact Since.alloc (by assumption) _) (umq_join (HU.out _ (by first | assumption | exact Since.alloc (by assumption) _)) _)).mono ?_); rintro e wx ⟨rfl, hb⟩) | (go_at_call 10; (with_reducible refine (Calls.since (by first | assumption | exact Since.alloc (by assumption) _) (tjoin_nil (HT.out _ (by first | assumption | exact Since.alloc (by assumption) _)) (HU.out _ (by first | assumption | exact Since.alloc (by assumption) _)))).mono ?_); rintro e wx ⟨rfl, hb⟩) | (go_at_call 19; (with_reducible refine (Calls.since (by first | assumption | exact Since.alloc (by assumption) _) (umq_shape (HU.out _ (by first | assumption | exact Since.alloc (by assumption) _)))).mono ?_); rintro e wx ⟨rfl, hb⟩) | (go_at_call 20; (with_reducible refine (Calls.since (by first | assumption | exact Since.alloc (by assumption) _) (umq_del (HU.out _ (by first | assumption | exact Since.alloc (by assumption) _)) _ _ _)).mono ?_); rintro e wx ⟨rfl, hb⟩) | (go_at_call 21; (with_reducible refine (Calls.since (by first | assumption | exact Since.alloc (by assumption) _) (umq_in (HU.out _ (by first | assumption | exact Since.alloc (by assumption) _)) _ _ _ _)).mono ?_); rintro e wx ⟨rfl, hb⟩) | (go_at_call 23; (with_reducible refine (Calls.since (by first | assumption | exact Since.alloc (by assumption) _) (umq_all (HU.out _ (by first | assumption | exact Since.alloc (by assumption) _)))).mono ?_); rintro e wx ⟨rfl, hb⟩) | (go_at_call 24; (with_reducible refine (Calls.since (by first | assumption | exact Since.alloc (by assumption) _) (umq_len (HU.out _ (by first | assumption | exact Since.alloc (by assumption) _)))).mono ?_); rintro e wx ⟨rfl, hb⟩) | (go_at_call 25; (with_reducible refine (Calls.since (by first | assumption | exact Since.alloc (by assumption) _) (umq_zone (HU.out _ (by first | assumption | exact Since.alloc (by assumption) _)))).mono ?_); rintro e wx ⟨rfl, hb⟩) | (go_at_call 26; (with_reducible refine (Calls.since (by first | assumption | exact Since.alloc (by assumption) _) (umq_clone (HU.out _ (by first | assumption | exact Since.alloc (by assumption) _)))).mono ?_); rintro e wx ⟨rfl, hb⟩) | (go_at_call 11; (with_reducible refine (Calls.since_same (by first | assumption | exact Since.alloc (by assumption) _) (num8_any _ _)).mono ?_); rintro e wx ⟨rfl, hb⟩) | (go_at_call 16; (with_reducible refine (Calls.since (by first | assumption | exact Since.alloc (by assumption) _) (rec8_at r _)).mono ?_); rintro e wx ⟨rfl, hb⟩) | (go_at_call 22; (with_reducible refine (Calls.since (by first | assumption | exact Since.alloc (by assumption) _) (own8_any _ _ _ _ _)).mono ?_); rintro e wx ⟨rfl, hb⟩))
  have hsz : Since wb (wx.alloc (.cells #[.int .i64 0, .int .i64 0, .int .i64 0, .pointer none] 66)) := Since.alloc (by assumption) _
  rw [rounds_succ]
  go_wp2_with (go_at_call 7; (with_reducible refine (knows8_any _).mono ?_); rintro e w9 ⟨rfl, hb9⟩)
  go_ret
  exact ⟨rfl, (HSB.out.trans hsz).trans hb9⟩
theorem nil8_go (a0 a1 : Int) (a2 a3 : ByteArray) (a4 b0 b1 b2 b3 : Int) (w : World) : Calls Tryz.prog 4 #[.agg #[.int .i64 a0, .int .i64 a1, .string a2, .string a3, .int .i64 a4], .agg #[.int .i64 b0, .int .i64 b1, .int .i64 b2, .int .i64 b3]] w fun e w' => e = .returned (.bool true) ∧ Below w.heap.size w w' := by
  cases hl : lightQ [⟨a0, a1, a2, a3, a4⟩] with
  | false => exact nil8_dark ⟨a0, a1, a2, a3, a4⟩ b0 b1 b2 b3 w hl
  | true => exact nil8_light ⟨a0, a1, a2, a3, a4⟩ b0 b1 b2 b3 w hl
end Go.Proofs.YteohkmhndomhgaaGreat
