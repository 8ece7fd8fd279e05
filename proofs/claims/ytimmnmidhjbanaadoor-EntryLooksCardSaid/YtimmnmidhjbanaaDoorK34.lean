/- Heirs, of both. -/
import Derived.Test.YtimmnmidhjbanaaDoorK22
import Derived.Test.YtimmnmidhjbanaaDoorK29
import Derived.Test.YtimmnmidhjbanaaDoorK31
import Derived.Test.YtimmnmidhjbanaaDoorK32
import Derived.Test.YtimmnmidhjbanaaDoorK33
namespace Go.Proofs.YtimmnmidhjbanaaDoor
open Go.RowKit
set_option linter.unusedVariables false
set_option linter.unusedSimpArgs false
def heirs1 (e : En) (l : List Int) : List Int := if rightB e l = true ∧ e.kind = 4 then l else []
def heirs2 (e : En) (l : List Int) : List Int := if rightB e l = true ∧ (e.kind = 4 ∨ e.kind = 5) then e.bx :: lessL l e.nd else []
theorem RZ.lit1 {W : World} {a : Int} : RZ (W.alloc (.cells #[.int .i64 a] 3)) W.heap.size (.slice (some ⟨W.heap.size, 0, none⟩) 1 1) [a] :=
  RowE.of (enc := encZ) (n := 1) (l := [a]) (S := []) (Nat.le_refl _) (heap_alloc_new W _) (Nat.le_refl _) (by decide) rfl rfl
theorem right_len {e : En} {l : List Int} (h : rightB e l = true) : l.length ≤ 8 := by
  unfold rightB at h
  split at h
  · simp only [Bool.and_eq_true, List.isEmpty_iff] at h
    rw [h.2.2.2.2]; simp
  · split at h
    · simp only [Bool.and_eq_true, List.isEmpty_iff] at h
      rw [h.2.2.2.2]; simp
    · split at h
      · simp only [Bool.and_eq_true, chainB_iff] at h
        exact chain_len h.2.2.2.1
      · cases h
section
variable {B : Nat} {kind ok x y : Int} {key val : ByteArray} {cl seq nd ep bx : Int} {ca : Option Addr} {cn cc : Nat} {l : List Int} {w : World}
/-- What nodesHeirs leaves. -/
def NHP (bx : Int) (l : List Int) (nd : Int) (w : World) (e : Ending) (w' : World) : Prop := ∃ v', e = .returned v' ∧ RZ w' w.heap.size v' (bx :: lessL l nd) ∧ Below w.heap.size w w'
set_option maxRecDepth 100000 in
set_option maxHeartbeats 3200000 in
theorem nodesHeirs_any (h : LZ B w (.slice ca cn cc) l) (hB : B ≤ w.heap.size) (hl : l.length ≤ 400) :
    Calls Tryd.prog 45 #[.agg #[.int .i64 kind, .int .i64 ok, .int .i64 x, .int .i64 y, .string key, .string val, .int .i64 cl, .int .i64 seq, .int .i64 nd, .int .i64 ep, .int .i64 bx, .slice ca cn cc]] w (NHP bx l nd w) := by
  have HA := Lib.hid (fun W (hW : Since w W) => h.since hW hB)
  have HB := Lib.hid (And.intro hB (show l.length ≤ 1000 by omega))
  have HL := Lib.hid hl
  clear h hB hl
  obtain ⟨w0, hw0⟩ : ∃ w0, w0 = w.alloc (.cells #[.int .i64 kind, .int .i64 ok, .int .i64 x, .int .i64 y, .string key, .string val, .int .i64 cl, .int .i64 seq, .int .i64 nd, .int .i64 ep, .int .i64 bx, .slice ca cn cc] 37) := ⟨_, rfl⟩
  have hs0 : Since w w0 := by rw [hw0]; exact (Since.refl w).alloc _
  have wh0 : Whole w0 (w.heap.size) 37 #[.int .i64 kind, .int .i64 ok, .int .i64 x, .int .i64 y, .string key, .string val, .int .i64 cl, .int .i64 seq, .int .i64 nd, .int .i64 ep, .int .i64 bx, .slice ca cn cc] := by rw [hw0]; exact Whole.new w _ _
  have HW := Lib.hid hw0
  have c0_0 := box_cell wh0 0 (.int .i64 kind) rfl
  have c0_1 := box_cell wh0 1 (.int .i64 ok) rfl
  have c0_2 := box_cell wh0 2 (.int .i64 x) rfl
  have c0_3 := box_cell wh0 3 (.int .i64 y) rfl
  have c0_4 := box_cell wh0 4 (.string key) rfl
  have c0_5 := box_cell wh0 5 (.string val) rfl
  have c0_6 := box_cell wh0 6 (.int .i64 cl) rfl
  have c0_7 := box_cell wh0 7 (.int .i64 seq) rfl
  have c0_8 := box_cell wh0 8 (.int .i64 nd) rfl
  have c0_9 := box_cell wh0 9 (.int .i64 ep) rfl
  have c0_10 := box_cell wh0 10 (.int .i64 bx) rfl
  have c0_11 := box_cell wh0 11 (.slice ca cn cc) rfl
  have hsr := Since.refl w0
  have hsd := hsr.drew
  clear hw0 wh0
  go_enter Tryd.func45, Tryd.ntmps45
  go_wp2_with fail
  rw [← HW.out]
  refine wp_region_held_drew (S := fun W => Since w0 W) (by kernel_rfl) hsd (fun hHeld => ?_)
  generalize w0.drew = wq at hHeld ⊢
  refine wpAnyH_take (i := 0) (v := ?_) rfl (by kernel_rfl) (by kernel_rfl) (by kernel_rfl) (fun _ _ _ h => h) (Or.inl ⟨by rfl, ?_⟩) (by assumption) ?_
  rotate_left 1
  · (intro W hW; clear hW; go_simp; try with_reducible rfl)
  simp only [Act.put, List.getElem_toArray, List.getElem_cons_zero, List.setIfInBounds_toArray, List.set_cons_zero, List.set_cons_succ]
  refine wpAnyH_take (i := 1) (v := ?_) rfl (by kernel_rfl) (by kernel_rfl) (by kernel_rfl) (fun _ _ _ h => h) (Or.inl ⟨by rfl, ?_⟩) (by assumption) ?_
  rotate_left 1
  · (intro W hW; skip; go_simp; try with_reducible rfl)
  simp only [Act.put, List.getElem_toArray, List.getElem_cons_succ, List.getElem_cons_zero, List.setIfInBounds_toArray, List.set_cons_zero, List.set_cons_succ]
  refine wpAnyH_take (i := 3) (v := ?_) rfl (by kernel_rfl) (by kernel_rfl) (by kernel_rfl) (fun _ _ _ h => h) (Or.inl ⟨by rfl, ?_⟩) (by assumption) ?_
  rotate_left 1
  · (intro W hW; clear hW; go_simp; try with_reducible rfl)
  simp only [Act.put, List.getElem_toArray, List.getElem_cons_succ, List.getElem_cons_zero, List.setIfInBounds_toArray, List.set_cons_zero, List.set_cons_succ]
  refine wpAnyH_take (i := 4) (v := ?_) rfl (by kernel_rfl) (by kernel_rfl) (by kernel_rfl) (fun _ _ _ h => h) (Or.inl ⟨by rfl, ?_⟩) (by assumption) ?_
  rotate_left 1
  · (intro W hW; skip; go_simp; try with_reducible rfl)
  simp only [Act.put, List.getElem_toArray, List.getElem_cons_succ, List.getElem_cons_zero, List.setIfInBounds_toArray, List.set_cons_zero, List.set_cons_succ]
  refine wpAnyH_take (i := 5) (v := ?_) rfl (by kernel_rfl) (by kernel_rfl) (by kernel_rfl) (fun _ _ _ h => h) (Or.inl ⟨by rfl, ?_⟩) (by assumption) ?_
  rotate_left 1
  · (intro W hW; clear hW; go_simp; try with_reducible rfl)
  simp only [Act.put, List.getElem_toArray, List.getElem_cons_succ, List.getElem_cons_zero, List.setIfInBounds_toArray, List.set_cons_zero, List.set_cons_succ]
  refine wpAnyH_take (i := 6) (v := ?_) rfl (by kernel_rfl) (by kernel_rfl) (by kernel_rfl) (fun _ _ _ h => h) (Or.inl ⟨by rfl, ?_⟩) (by assumption) ?_
  rotate_left 1
  · (intro W hW; skip; go_simp; try with_reducible rfl)
  simp only [Act.put, List.getElem_toArray, List.getElem_cons_succ, List.getElem_cons_zero, List.setIfInBounds_toArray, List.set_cons_zero, List.set_cons_succ]
  refine wpAnyH_ready (rs := [2, 7]) (by kernel_rfl) (by simp) ?_
  refine AllReadyH.cons rfl (fun K hK => ?_) (AllReadyH.cons rfl (fun K hK => ?_) AllReadyH.nil)
  · go_simp
    skip
    refine hK.out _ _ (hHeld.alloc _) (fun hHeld => ?_)
    clear hK K
    try simp only [Act.put, List.getElem_toArray, List.getElem_cons_succ, List.getElem_cons_zero, List.setIfInBounds_toArray, List.set_cons_zero, List.set_cons_succ]
    refine wpAnyH_ready (rs := [7]) (by kernel_rfl) (by simp) ?_
    refine AllReadyH.cons rfl (fun K hK => ?_) AllReadyH.nil
    go_simp
    refine (without_any (HA.out _ (hs0.trans hHeld)) (Nat.le_trans HB.out.1 (hs0.trans hHeld).size_) HB.out.2).mono ?_
    rintro e w7 ⟨v7, rfl, hr7, hb7⟩
    obtain ⟨x7, c7, rfl⟩ := RowE.shape2 hr7
    have hl1 := LZ.since (LZ.lit1 (W := wq) (a := bx)) hb7 (by simp)
    have hl2 := RZ.lz hr7
    have hsz7 := Since.size_ hb7
    go_wp2_with fail
    refine hK.out _ _ (Since.trans hHeld hb7) (fun hHeld => ?_)
    clear hK K
    try simp only [Act.put, List.getElem_toArray, List.getElem_cons_succ, List.getElem_cons_zero, List.setIfInBounds_toArray, List.set_cons_zero, List.set_cons_succ]
    refine wpAnyH_ready (rs := [8]) (by kernel_rfl) (by simp) ?_
    refine AllReadyH.cons rfl (fun K hK => ?_) AllReadyH.nil
    go_simp
    skip
    refine hK.out _ _ (hHeld.alloc _) (fun hHeld => ?_)
    clear hK K
    try simp only [Act.put, List.getElem_toArray, List.getElem_cons_succ, List.getElem_cons_zero, List.setIfInBounds_toArray, List.set_cons_zero, List.set_cons_succ]
    refine wpAnyH_ready (rs := [9]) (by kernel_rfl) (by simp) ?_
    refine AllReadyH.cons rfl (fun K hK => ?_) AllReadyH.nil
    go_simp
    have hz := (hs0.trans hHeld).size_
    refine (concat_twoZ (w := w7.alloc _) (B := (w7.alloc _).heap.size) ((hl1.since ((Since.refl _).alloc _) (by simp at *; try omega)).mono (by simp at *; try omega)) ((hl2.since ((Since.refl _).alloc _) (by simp at *; try omega)).mono (by simp at *; try omega)) (Nat.le_refl _) (Whole.new w7 _ _) (by simp) (by have := lessL_le l nd; have := HL.out; omega)).mono ?_
    rintro e w9 ⟨v9, rfl, hr9, hb9⟩
    obtain ⟨x9, c9, rfl⟩ := RowE.shape2 hr9
    go_wp2_with fail
    refine hK.out _ _ (Since.trans hHeld hb9) (fun hHeld => ?_)
    clear hK K
    try simp only [Act.put, List.getElem_toArray, List.getElem_cons_succ, List.getElem_cons_zero, List.setIfInBounds_toArray, List.set_cons_zero, List.set_cons_succ]
    refine wpAnyH_take (i := 10) (v := ?_) rfl (by kernel_rfl) (by kernel_rfl) (by kernel_rfl) (fun _ _ _ h => h) (Or.inl ⟨by rfl, ?_⟩) (by assumption) ?_
    rotate_left 1
    · (intro W hW; clear hW; go_simp; try with_reducible rfl)
    simp only [Act.put, List.getElem_toArray, List.getElem_cons_succ, List.getElem_cons_zero, List.setIfInBounds_toArray, List.set_cons_zero, List.set_cons_succ]
    refine wpAnyH_done (by kernel_rfl) ?_ _
    go_wp2
    go_ret
    exact ⟨_, rfl, RZ.mono hr9 hz, hs0.trans hHeld⟩
  · go_simp
    refine (without_any (HA.out _ (hs0.trans hHeld)) (Nat.le_trans HB.out.1 (hs0.trans hHeld).size_) HB.out.2).mono ?_
    rintro e w7 ⟨v7, rfl, hr7, hb7⟩
    obtain ⟨x7, c7, rfl⟩ := RowE.shape2 hr7
    go_wp2_with fail
    refine hK.out _ _ (Since.trans hHeld hb7) (fun hHeld => ?_)
    clear hK K
    try simp only [Act.put, List.getElem_toArray, List.getElem_cons_succ, List.getElem_cons_zero, List.setIfInBounds_toArray, List.set_cons_zero, List.set_cons_succ]
    refine wpAnyH_ready (rs := [2]) (by kernel_rfl) (by simp) ?_
    refine AllReadyH.cons rfl (fun K hK => ?_) AllReadyH.nil
    go_simp
    have hl1 := LZ.lit1 (W := w7) (a := bx)
    have hl2 := (RZ.lz hr7).since ((Since.refl w7).alloc (.cells #[.int .i64 bx] 3)) (Nat.le_refl _)
    refine hK.out _ _ (hHeld.alloc _) (fun hHeld => ?_)
    clear hK K
    try simp only [Act.put, List.getElem_toArray, List.getElem_cons_succ, List.getElem_cons_zero, List.setIfInBounds_toArray, List.set_cons_zero, List.set_cons_succ]
    refine wpAnyH_ready (rs := [8]) (by kernel_rfl) (by simp) ?_
    refine AllReadyH.cons rfl (fun K hK => ?_) AllReadyH.nil
    go_simp
    skip
    refine hK.out _ _ (hHeld.alloc _) (fun hHeld => ?_)
    clear hK K
    try simp only [Act.put, List.getElem_toArray, List.getElem_cons_succ, List.getElem_cons_zero, List.setIfInBounds_toArray, List.set_cons_zero, List.set_cons_succ]
    refine wpAnyH_ready (rs := [9]) (by kernel_rfl) (by simp) ?_
    refine AllReadyH.cons rfl (fun K hK => ?_) AllReadyH.nil
    go_simp
    have hz := (hs0.trans hHeld).size_
    refine (concat_twoZ (w := (w7.alloc _).alloc _) (B := ((w7.alloc _).alloc _).heap.size) ((hl1.since ((Since.refl _).alloc _) (by simp at *; try omega)).mono (by simp at *; try omega)) ((hl2.since ((Since.refl _).alloc _) (by simp at *; try omega)).mono (by simp at *; try omega)) (Nat.le_refl _) ((Whole.new (w7.alloc _) _ _).at_ (by simp)) (by simp) (by have := lessL_le l nd; have := HL.out; omega)).mono ?_
    rintro e w9 ⟨v9, rfl, hr9, hb9⟩
    obtain ⟨x9, c9, rfl⟩ := RowE.shape2 hr9
    go_wp2_with fail
    refine hK.out _ _ (Since.trans hHeld hb9) (fun hHeld => ?_)
    clear hK K
    try simp only [Act.put, List.getElem_toArray, List.getElem_cons_succ, List.getElem_cons_zero, List.setIfInBounds_toArray, List.set_cons_zero, List.set_cons_succ]
    refine wpAnyH_take (i := 10) (v := ?_) rfl (by kernel_rfl) (by kernel_rfl) (by kernel_rfl) (fun _ _ _ h => h) (Or.inl ⟨by rfl, ?_⟩) (by assumption) ?_
    rotate_left 1
    · (intro W hW; clear hW; go_simp; try with_reducible rfl)
    simp only [Act.put, List.getElem_toArray, List.getElem_cons_succ, List.getElem_cons_zero, List.setIfInBounds_toArray, List.set_cons_zero, List.set_cons_succ]
    refine wpAnyH_done (by kernel_rfl) ?_ _
    go_wp2
    go_ret
    exact ⟨_, rfl, RZ.mono hr9 hz, hs0.trans hHeld⟩
/-- What Heirs leaves. -/
def HeirsP (L1 L2 : List Int) (w : World) (e : Ending) (w' : World) : Prop := ∃ v1 v2, e = .returned (.tuple #[v1, v2]) ∧ RZ w' w.heap.size v1 L1 ∧ RZ w' w.heap.size v2 L2 ∧ Below w.heap.size w w'
set_option maxRecDepth 100000 in
set_option maxHeartbeats 6400000 in
theorem heirs_any (h : LZ B w (.slice ca cn cc) l) (hB : B ≤ w.heap.size) (hl : l.length ≤ 1000000) :
    Calls Tryd.prog 12 #[.agg #[.int .i64 kind, .int .i64 ok, .int .i64 x, .int .i64 y, .string key, .string val, .int .i64 cl, .int .i64 seq, .int .i64 nd, .int .i64 ep, .int .i64 bx, .slice ca cn cc]] w (HeirsP (heirs1 (⟨kind, ok, x, y, key, val, cl, seq, nd, ep, bx⟩ : En) l) (heirs2 (⟨kind, ok, x, y, key, val, cl, seq, nd, ep, bx⟩ : En) l) w) := by
  obtain ⟨r, hr⟩ : ∃ r, rightB (⟨kind, ok, x, y, key, val, cl, seq, nd, ep, bx⟩ : En) l = r := ⟨_, rfl⟩
  unfold heirs1 heirs2
  dsimp only
  rw [hr]
  have HR := Lib.hid (fun W (hW : Since w W) => right11_any (h.since hW hB) (Nat.le_trans hB hW.size_) hl hr)
  have HA := Lib.hid (fun W (hW : Since w W) => h.since hW hB)
  have HBB := Lib.hid (fun (hrt : r = true) => And.intro hB (right_len (hr.trans hrt)))
  clear h hB hl hr
  obtain ⟨w0, hw0⟩ : ∃ w0, w0 = w.alloc (.cells #[.int .i64 kind, .int .i64 ok, .int .i64 x, .int .i64 y, .string key, .string val, .int .i64 cl, .int .i64 seq, .int .i64 nd, .int .i64 ep, .int .i64 bx, .slice ca cn cc] 37) := ⟨_, rfl⟩
  have hs0 : Since w w0 := by rw [hw0]; exact (Since.refl w).alloc _
  have wh0 : Whole w0 (w.heap.size) 37 #[.int .i64 kind, .int .i64 ok, .int .i64 x, .int .i64 y, .string key, .string val, .int .i64 cl, .int .i64 seq, .int .i64 nd, .int .i64 ep, .int .i64 bx, .slice ca cn cc] := by rw [hw0]; exact Whole.new w _ _
  have HW := Lib.hid hw0
  have c0_0 := box_cell wh0 0 (.int .i64 kind) rfl
  have c0_1 := box_cell wh0 1 (.int .i64 ok) rfl
  have c0_2 := box_cell wh0 2 (.int .i64 x) rfl
  have c0_3 := box_cell wh0 3 (.int .i64 y) rfl
  have c0_4 := box_cell wh0 4 (.string key) rfl
  have c0_5 := box_cell wh0 5 (.string val) rfl
  have c0_6 := box_cell wh0 6 (.int .i64 cl) rfl
  have c0_7 := box_cell wh0 7 (.int .i64 seq) rfl
  have c0_8 := box_cell wh0 8 (.int .i64 nd) rfl
  have c0_9 := box_cell wh0 9 (.int .i64 ep) rfl
  have c0_10 := box_cell wh0 10 (.int .i64 bx) rfl
  have c0_11 := box_cell wh0 11 (.slice ca cn cc) rfl
  have hsr := Since.refl w0
  have hsd := hsr.drew
  clear hw0 wh0
  cases r with
  | false =>
    rw [if_neg (fun h => Bool.false_ne_true h.1), if_neg (fun h => Bool.false_ne_true h.1)]
    go_enter Tryd.func12, Tryd.ntmps12
    go_wp2_with fail
    rw [← HW.out]
    go_wp2_with (go_at_call 23; (with_reducible refine (HR.out _ hs0).mono ?_); rintro e w1 ⟨rfl, hb1⟩; have hs1 : Since w0 w1 := hb1)
    go_ret2
    exact ⟨_, _, rfl, RZ.nil _ _, RZ.nil _ _, hs0.trans hs1⟩
  | true =>
    have HB := Lib.hid (HBB.out rfl)
    clear HBB
    by_cases k4 : kind = 4
    · rw [if_pos ⟨rfl, k4⟩, if_pos ⟨rfl, .inl k4⟩]
      have g4 : (kind == 4) = true := by simpa using k4
      clear k4
      go_enter Tryd.func12, Tryd.ntmps12
      go_wp2_with fail
      rw [← HW.out]
      go_wp2_with (go_at_call 23; (with_reducible refine (HR.out _ hs0).mono ?_); rintro e w1 ⟨rfl, hb1⟩; have hs1 : Since w0 w1 := hb1; have hsd1 := hs1.drew)
      refine wp_region_held_drew (S := fun W => Since w0 W) (by kernel_rfl) hsd1 (fun hHeld => ?_)
      generalize w1.drew = wq at hHeld ⊢
      refine wpAnyH_take (i := 0) (v := ?_) rfl (by kernel_rfl) (by kernel_rfl) (by kernel_rfl) (fun _ _ _ h => h) (Or.inl ⟨by rfl, ?_⟩) (by assumption) ?_
      rotate_left 1
      · (intro W hW; clear hW; go_simp; try with_reducible rfl)
      simp only [Act.put, List.getElem_toArray, List.getElem_cons_zero, List.setIfInBounds_toArray, List.set_cons_zero, List.set_cons_succ]
      refine wpAnyH_take (i := 1) (v := ?_) rfl (by kernel_rfl) (by kernel_rfl) (by kernel_rfl) (fun _ _ _ h => h) (Or.inl ⟨by rfl, ?_⟩) (by assumption) ?_
      rotate_left 1
      · (intro W hW; skip; go_simp; try with_reducible rfl)
      simp only [Act.put, List.getElem_toArray, List.getElem_cons_succ, List.getElem_cons_zero, List.setIfInBounds_toArray, List.set_cons_zero, List.set_cons_succ]
      refine wpAnyH_take (i := 3) (v := ?_) rfl (by kernel_rfl) (by kernel_rfl) (by kernel_rfl) (fun _ _ _ h => h) (Or.inl ⟨by rfl, ?_⟩) (by assumption) ?_
      rotate_left 1
      · (intro W hW; skip; go_simp; try with_reducible rfl)
      simp only [Act.put, List.getElem_toArray, List.getElem_cons_succ, List.getElem_cons_zero, List.setIfInBounds_toArray, List.set_cons_zero, List.set_cons_succ]
      refine wpAnyH_ready (rs := [2]) (by kernel_rfl) (by simp) ?_
      refine AllReadyH.cons rfl (fun K hK => ?_) AllReadyH.nil
      go_simp
      refine (clone11_any (HA.out _ (hs0.trans hHeld)) (Nat.le_trans HB.out.1 (hs0.trans hHeld).size_) (by have := HB.out.2; omega)).mono ?_
      rintro e w2 ⟨v2, rfl, hr2, hb2⟩
      obtain ⟨x2, c2, rfl⟩ := RowE.shape2 hr2
      have hr2 := RZ.mono hr2 (hs0.trans hHeld).size_
      go_wp2_with fail
      refine hK.out _ _ (Since.trans hHeld hb2) (fun hHeld => ?_)
      clear hK K
      try simp only [Act.put, List.getElem_toArray, List.getElem_cons_succ, List.getElem_cons_zero, List.setIfInBounds_toArray, List.set_cons_zero, List.set_cons_succ]
      refine wpAnyH_ready (rs := [4]) (by kernel_rfl) (by simp) ?_
      refine AllReadyH.cons rfl (fun K hK => ?_) AllReadyH.nil
      go_simp
      refine (nodesHeirs_any (HA.out _ (hs0.trans hHeld)) (Nat.le_trans HB.out.1 (hs0.trans hHeld).size_) (by have := HB.out.2; omega)).mono ?_
      rintro e w4 ⟨v4, rfl, hr4, hb4⟩
      obtain ⟨x4, m4, c4, rfl⟩ := RowE.shape3 hr4
      have hr2 := RZ.since hr2 hb4
      have hr4 := RZ.mono hr4 (hs0.trans hHeld).size_
      go_wp2_with fail
      refine hK.out _ _ (Since.trans hHeld hb4) (fun hHeld => ?_)
      clear hK K
      try simp only [Act.put, List.getElem_toArray, List.getElem_cons_succ, List.getElem_cons_zero, List.setIfInBounds_toArray, List.set_cons_zero, List.set_cons_succ]
      refine wpAnyH_take (i := 5) (v := ?_) rfl (by kernel_rfl) (by kernel_rfl) (by kernel_rfl) (fun _ _ _ h => h) (Or.inl ⟨by rfl, ?_⟩) (by assumption) ?_
      rotate_left 1
      · (intro W hW; clear hW; go_simp; try with_reducible rfl)
      simp only [Act.put, List.getElem_toArray, List.getElem_cons_succ, List.getElem_cons_zero, List.setIfInBounds_toArray, List.set_cons_zero, List.set_cons_succ]
      refine wpAnyH_take (i := 6) (v := ?_) rfl (by kernel_rfl) (by kernel_rfl) (by kernel_rfl) (fun _ _ _ h => h) (Or.inl ⟨by rfl, ?_⟩) (by assumption) ?_
      rotate_left 1
      · (intro W hW; clear hW; go_simp; try with_reducible rfl)
      simp only [Act.put, List.getElem_toArray, List.getElem_cons_succ, List.getElem_cons_zero, List.setIfInBounds_toArray, List.set_cons_zero, List.set_cons_succ]
      refine wpAnyH_done (by kernel_rfl) ?_ _
      go_wp2
      go_ret2
      exact ⟨_, _, rfl, hr2, hr4, hs0.trans hHeld⟩
    · have g4 : (kind == 4) = false := by rw [beq_eq_false_iff_ne]; exact k4
      rw [if_neg (fun h => k4 h.2)]
      by_cases k5 : kind = 5
      · rw [if_pos ⟨rfl, .inr k5⟩]
        have g5 : (kind == 5) = true := by simpa using k5
        clear k4 k5
        go_enter Tryd.func12, Tryd.ntmps12
        go_wp2_with fail
        rw [← HW.out]
        go_wp2_with (go_at_call 23; (with_reducible refine (HR.out _ hs0).mono ?_); rintro e w1 ⟨rfl, hb1⟩; have hs1 : Since w0 w1 := hb1)
        refine (nodesHeirs_any (HA.out _ (hs0.trans hs1)) (Nat.le_trans HB.out.1 (hs0.trans hs1).size_) (by have := HB.out.2; omega)).mono ?_
        rintro e w4 ⟨v4, rfl, hr4, hb4⟩
        obtain ⟨x4, m4, c4, rfl⟩ := RowE.shape3 hr4
        go_wp2
        go_ret2
        exact ⟨_, _, rfl, RZ.nil _ _, RZ.mono hr4 (hs0.trans hs1).size_, (hs0.trans hs1).trans hb4⟩
      · rw [if_neg (fun h => h.2.elim k4 k5)]
        have g5 : (kind == 5) = false := by rw [beq_eq_false_iff_ne]; exact k5
        clear k4 k5
        go_enter Tryd.func12, Tryd.ntmps12
        go_wp2_with fail
        rw [← HW.out]
        go_wp2_with (go_at_call 23; (with_reducible refine (HR.out _ hs0).mono ?_); rintro e w1 ⟨rfl, hb1⟩; have hs1 : Since w0 w1 := hb1)
        go_ret2
        exact ⟨_, _, rfl, RZ.nil _ _, RZ.nil _ _, hs0.trans hs1⟩
end
end Go.Proofs.YtimmnmidhjbanaaDoor
