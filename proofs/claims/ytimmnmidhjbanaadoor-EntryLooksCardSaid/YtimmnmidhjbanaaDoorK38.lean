/- glebelaw11.Own, Ref; entry.Clone. -/
import Derived.Test.YtimmnmidhjbanaaDoorK14
import Derived.Test.YtimmnmidhjbanaaDoorK20
namespace Go.Proofs.YtimmnmidhjbanaaDoor
open Go.RowKit
set_option linter.unusedVariables false
set_option linter.unusedSimpArgs false
theorem off_since {F : Nat → Prop} {w W W' : World} (h : Off F W W') (hs : Since w W) (hF : ∀ b, F b → w.heap.size ≤ b) : Since w W' :=
  Below.trans (show Below w.heap.size w W from hs) (h.below hs.size_ hF)
section
variable {B : Nat} {kind ok x y : Int} {key val : ByteArray} {cl seq nd ep bx : Int} {ca : Option Addr} {cn cc : Nat} {l : List Int} {w : World}
/-- What Own, Ref, Clone leave: the same, with a chain of its own. -/
def OwnP (kind ok x y : Int) (key val : ByteArray) (cl seq nd ep bx : Int) (l : List Int) (w : World) (e : Ending) (w' : World) : Prop := ∃ a n c, e = .returned (.agg #[.int .i64 kind, .int .i64 ok, .int .i64 x, .int .i64 y, .string key, .string val, .int .i64 cl, .int .i64 seq, .int .i64 nd, .int .i64 ep, .int .i64 bx, .slice a n c]) ∧ RZ w' w.heap.size (.slice a n c) l ∧ Below w.heap.size w w'
set_option maxRecDepth 100000 in
set_option maxHeartbeats 6400000 in
theorem own11_any (h : LZ B w (.slice ca cn cc) l) (hB : B ≤ w.heap.size) (hl : l.length ≤ 1000) : Calls Tryd.prog 10 #[.agg #[.int .i64 kind, .int .i64 ok, .int .i64 x, .int .i64 y, .string key, .string val, .int .i64 cl, .int .i64 seq, .int .i64 nd, .int .i64 ep, .int .i64 bx, .slice ca cn cc]] w (OwnP kind ok x y key val cl seq nd ep bx l w) := by
  have HA := Lib.hid (fun W (hW : Since w W) => h.since hW hB)
  have HL := Lib.hid (And.intro hB hl)
  clear h hB hl
  obtain ⟨w0, hw0⟩ : ∃ w0, w0 = (w.alloc (.cells #[.int .i64 kind, .int .i64 ok, .int .i64 x, .int .i64 y, .string key, .string val, .int .i64 cl, .int .i64 seq, .int .i64 nd, .int .i64 ep, .int .i64 bx, .slice ca cn cc] 28)).alloc (.cells #[.int .i64 0, .int .i64 0, .int .i64 0, .int .i64 0, .string ⟨#[]⟩, .string ⟨#[]⟩, .int .i64 0, .int .i64 0, .int .i64 0, .int .i64 0, .int .i64 0, .slice none 0 0] 37) := ⟨_, rfl⟩
  have hs0 : Since w w0 := by rw [hw0]; exact ((Since.refl w).alloc _).alloc _
  have wh0 : Whole w0 w.heap.size 28 #[.int .i64 kind, .int .i64 ok, .int .i64 x, .int .i64 y, .string key, .string val, .int .i64 cl, .int .i64 seq, .int .i64 nd, .int .i64 ep, .int .i64 bx, .slice ca cn cc] := by rw [hw0]; exact (Whole.new w _ _).alloc _
  have wh1 : Whole w0 (w.heap.size + 1) 37 #[.int .i64 0, .int .i64 0, .int .i64 0, .int .i64 0, .string ⟨#[]⟩, .string ⟨#[]⟩, .int .i64 0, .int .i64 0, .int .i64 0, .int .i64 0, .int .i64 0, .slice none 0 0] := by rw [hw0]; exact (Whole.new (w.alloc _) _ _).at_ (by simp)
  have hsz0 : w0.heap.size = w.heap.size + 2 := by rw [hw0]; simp
  have HW := Lib.hid hw0
  have low : LowBox (w.heap.size + 1) 37 12 w0 w0 := LowBox.start wh1 rfl
  have c0_0 := fun W (hW : LowBox (w.heap.size + 1) 37 12 w0 W) => (show W.cell? ⟨w.heap.size, 0, none⟩ = some (.int .i64 kind) from (Whole.cell (wh0.below hW.1 (Nat.lt_succ_self _)) 0).trans rfl)
  have c0_1 := fun W (hW : LowBox (w.heap.size + 1) 37 12 w0 W) => (show W.cell? ⟨w.heap.size, 1, none⟩ = some (.int .i64 ok) from (Whole.cell (wh0.below hW.1 (Nat.lt_succ_self _)) 1).trans rfl)
  have c0_2 := fun W (hW : LowBox (w.heap.size + 1) 37 12 w0 W) => (show W.cell? ⟨w.heap.size, 2, none⟩ = some (.int .i64 x) from (Whole.cell (wh0.below hW.1 (Nat.lt_succ_self _)) 2).trans rfl)
  have c0_3 := fun W (hW : LowBox (w.heap.size + 1) 37 12 w0 W) => (show W.cell? ⟨w.heap.size, 3, none⟩ = some (.int .i64 y) from (Whole.cell (wh0.below hW.1 (Nat.lt_succ_self _)) 3).trans rfl)
  have c0_4 := fun W (hW : LowBox (w.heap.size + 1) 37 12 w0 W) => (show W.cell? ⟨w.heap.size, 4, none⟩ = some (.string key) from (Whole.cell (wh0.below hW.1 (Nat.lt_succ_self _)) 4).trans rfl)
  have c0_5 := fun W (hW : LowBox (w.heap.size + 1) 37 12 w0 W) => (show W.cell? ⟨w.heap.size, 5, none⟩ = some (.string val) from (Whole.cell (wh0.below hW.1 (Nat.lt_succ_self _)) 5).trans rfl)
  have c0_6 := fun W (hW : LowBox (w.heap.size + 1) 37 12 w0 W) => (show W.cell? ⟨w.heap.size, 6, none⟩ = some (.int .i64 cl) from (Whole.cell (wh0.below hW.1 (Nat.lt_succ_self _)) 6).trans rfl)
  have c0_7 := fun W (hW : LowBox (w.heap.size + 1) 37 12 w0 W) => (show W.cell? ⟨w.heap.size, 7, none⟩ = some (.int .i64 seq) from (Whole.cell (wh0.below hW.1 (Nat.lt_succ_self _)) 7).trans rfl)
  have c0_8 := fun W (hW : LowBox (w.heap.size + 1) 37 12 w0 W) => (show W.cell? ⟨w.heap.size, 8, none⟩ = some (.int .i64 nd) from (Whole.cell (wh0.below hW.1 (Nat.lt_succ_self _)) 8).trans rfl)
  have c0_9 := fun W (hW : LowBox (w.heap.size + 1) 37 12 w0 W) => (show W.cell? ⟨w.heap.size, 9, none⟩ = some (.int .i64 ep) from (Whole.cell (wh0.below hW.1 (Nat.lt_succ_self _)) 9).trans rfl)
  have c0_10 := fun W (hW : LowBox (w.heap.size + 1) 37 12 w0 W) => (show W.cell? ⟨w.heap.size, 10, none⟩ = some (.int .i64 bx) from (Whole.cell (wh0.below hW.1 (Nat.lt_succ_self _)) 10).trans rfl)
  have c0_11 := fun W (hW : LowBox (w.heap.size + 1) 37 12 w0 W) => (show W.cell? ⟨w.heap.size, 11, none⟩ = some (.slice ca cn cc) from (Whole.cell (wh0.below hW.1 (Nat.lt_succ_self _)) 11).trans rfl)
  clear hw0 wh1
  have hbq0 : w.heap.size + 1 < w0.heap.size := by omega
  have hsd := low.drew
  go_enter Tryd.func10, Tryd.ntmps10
  go_wp2_with fail
  rw [← HW.out]
  refine wp_region_held_drew (S := fun W => LowBox (w.heap.size + 1) 37 12 w0 W) (by kernel_rfl) hsd (fun hHeld => ?_)
  have hgq : w.heap.size + 1 < w0.drew.heap.size := hsd.lt
  generalize w0.drew = wq at hHeld hgq ⊢
  refine wpAnyH_take (i := 0) (v := ?_) rfl (by kernel_rfl) (by kernel_rfl) (by kernel_rfl) (fun _ _ _ h => h) (Or.inl ⟨by rfl, ?_⟩) (by assumption) ?_
  rotate_left 1
  · (intro W hW; clear hW; go_simp; try with_reducible rfl)
  simp only [Act.put, List.getElem_toArray, List.getElem_cons_zero, List.setIfInBounds_toArray, List.set_cons_zero, List.set_cons_succ]
  refine wpAnyH_take (i := 1) (v := ?_) rfl (by kernel_rfl) (by kernel_rfl) (by kernel_rfl) (fun _ _ _ h => h) (Or.inl ⟨by rfl, ?_⟩) (by assumption) ?_
  rotate_left 1
  · (intro W hW; skip; go_simp; try with_reducible rfl)
  simp only [Act.put, List.getElem_toArray, List.getElem_cons_succ, List.getElem_cons_zero, List.setIfInBounds_toArray, List.set_cons_zero, List.set_cons_succ]
  refine wpAnyH_take (i := 2) (v := ?_) rfl (by kernel_rfl) (by kernel_rfl) (by kernel_rfl) (fun _ _ _ h => h) (Or.inl ⟨by rfl, ?_⟩) (by assumption) ?_
  rotate_left 1
  · (intro W hW; clear hW; go_simp; try with_reducible rfl)
  simp only [Act.put, List.getElem_toArray, List.getElem_cons_succ, List.getElem_cons_zero, List.setIfInBounds_toArray, List.set_cons_zero, List.set_cons_succ]
  refine wpAnyH_take (i := 3) (v := ?_) rfl (by kernel_rfl) (by kernel_rfl) (by kernel_rfl) (fun _ _ _ h => h) (Or.inl ⟨by rfl, ?_⟩) (by assumption) ?_
  rotate_left 1
  · (intro W hW; skip; go_simp; try with_reducible rfl)
  simp only [Act.put, List.getElem_toArray, List.getElem_cons_succ, List.getElem_cons_zero, List.setIfInBounds_toArray, List.set_cons_zero, List.set_cons_succ]
  refine wpAnyH_take (i := 5) (v := ?_) rfl (by kernel_rfl) (by kernel_rfl) (by kernel_rfl) (fun _ _ _ h => h) (Or.inl ⟨by rfl, ?_⟩) (by assumption) ?_
  rotate_left 1
  · (intro W hW; clear hW; go_simp; try with_reducible rfl)
  simp only [Act.put, List.getElem_toArray, List.getElem_cons_succ, List.getElem_cons_zero, List.setIfInBounds_toArray, List.set_cons_zero, List.set_cons_succ]
  refine wpAnyH_take (i := 6) (v := ?_) rfl (by kernel_rfl) (by kernel_rfl) (by kernel_rfl) (fun _ _ _ h => h) (Or.inl ⟨by rfl, ?_⟩) (by assumption) ?_
  rotate_left 1
  · (intro W hW; skip; go_simp; try with_reducible rfl)
  simp only [Act.put, List.getElem_toArray, List.getElem_cons_succ, List.getElem_cons_zero, List.setIfInBounds_toArray, List.set_cons_zero, List.set_cons_succ]
  refine wpAnyH_take (i := 7) (v := ?_) rfl (by kernel_rfl) (by kernel_rfl) (by kernel_rfl) (fun _ _ _ h => h) (Or.inl ⟨by rfl, ?_⟩) (by assumption) ?_
  rotate_left 1
  · (intro W hW; clear hW; go_simp; try with_reducible rfl)
  simp only [Act.put, List.getElem_toArray, List.getElem_cons_succ, List.getElem_cons_zero, List.setIfInBounds_toArray, List.set_cons_zero, List.set_cons_succ]
  refine wpAnyH_take (i := 8) (v := ?_) rfl (by kernel_rfl) (by kernel_rfl) (by kernel_rfl) (fun _ _ _ h => h) (Or.inl ⟨by rfl, ?_⟩) (by assumption) ?_
  rotate_left 1
  · (intro W hW; skip; go_simp; try with_reducible rfl)
  simp only [Act.put, List.getElem_toArray, List.getElem_cons_succ, List.getElem_cons_zero, List.setIfInBounds_toArray, List.set_cons_zero, List.set_cons_succ]
  refine wpAnyH_take (i := 9) (v := ?_) rfl (by kernel_rfl) (by kernel_rfl) (by kernel_rfl) (fun _ _ _ h => h) (Or.inl ⟨by rfl, ?_⟩) (by assumption) ?_
  rotate_left 1
  · (intro W hW; clear hW; go_simp; try with_reducible rfl)
  simp only [Act.put, List.getElem_toArray, List.getElem_cons_succ, List.getElem_cons_zero, List.setIfInBounds_toArray, List.set_cons_zero, List.set_cons_succ]
  refine wpAnyH_take (i := 10) (v := ?_) rfl (by kernel_rfl) (by kernel_rfl) (by kernel_rfl) (fun _ _ _ h => h) (Or.inl ⟨by rfl, ?_⟩) (by assumption) ?_
  rotate_left 1
  · (intro W hW; skip; go_simp; try with_reducible rfl)
  simp only [Act.put, List.getElem_toArray, List.getElem_cons_succ, List.getElem_cons_zero, List.setIfInBounds_toArray, List.set_cons_zero, List.set_cons_succ]
  refine wpAnyH_take (i := 12) (v := ?_) rfl (by kernel_rfl) (by kernel_rfl) (by kernel_rfl) (fun _ _ _ h => h) (Or.inl ⟨by rfl, ?_⟩) (by assumption) ?_
  rotate_left 1
  · (intro W hW; clear hW; go_simp; try with_reducible rfl)
  simp only [Act.put, List.getElem_toArray, List.getElem_cons_succ, List.getElem_cons_zero, List.setIfInBounds_toArray, List.set_cons_zero, List.set_cons_succ]
  refine wpAnyH_take (i := 13) (v := ?_) rfl (by kernel_rfl) (by kernel_rfl) (by kernel_rfl) (fun _ _ _ h => h) (Or.inl ⟨by rfl, ?_⟩) (by assumption) ?_
  rotate_left 1
  · (intro W hW; skip; go_simp; try with_reducible rfl)
  simp only [Act.put, List.getElem_toArray, List.getElem_cons_succ, List.getElem_cons_zero, List.setIfInBounds_toArray, List.set_cons_zero, List.set_cons_succ]
  refine wpAnyH_ready (rs := [4, 11]) (by kernel_rfl) (by simp) ?_
  refine AllReadyH.cons rfl (fun K hK => ?_) (AllReadyH.cons rfl (fun K hK => ?_) AllReadyH.nil)
  · go_simp
    refine (lawOp_any ok x y key val cl seq _).mono ?_
    rintro e w4 ⟨rfl, hb4⟩
    have hs4 : Since _ w4 := hb4
    go_wp2_with fail
    refine hK.out _ _ (hHeld.since hb4) (fun hHeld => ?_)
    clear hK K
    try simp only [Act.put, List.getElem_toArray, List.getElem_cons_succ, List.getElem_cons_zero, List.setIfInBounds_toArray, List.set_cons_zero, List.set_cons_succ]
    refine wpAnyH_ready (rs := [11]) (by kernel_rfl) (by simp) ?_
    refine AllReadyH.cons rfl (fun K hK => ?_) AllReadyH.nil
    go_simp
    have hre := RowE.empty (enc := encZ) (n := 1) w4 3
    have hbg := LowBox.lt hHeld
    have hbs : w4.heap.size ≤ (w4.alloc (.cells #[] 3)).heap.size := by simp
    refine hK.out _ _ (hHeld.since ((Since.refl _).alloc _)) (fun hHeld => ?_)
    clear hK K
    try simp only [Act.put, List.getElem_toArray, List.getElem_cons_succ, List.getElem_cons_zero, List.setIfInBounds_toArray, List.set_cons_zero, List.set_cons_succ]
    refine wpAnyH_ready (rs := [14]) (by kernel_rfl) (by simp) ?_
    refine AllReadyH.cons rfl (fun K hK => ?_) AllReadyH.nil
    refine step_append_val rfl (.tmp 14) (.tmp 16) 26 rfl w4.heap.size 3 _ 8 Tryd.underlying26 infoZ rfl (by decide) hre (LZ.part (HA.out _ (hHeld.up hs0 (Nat.le_succ _)))) encZ_len encZ_one rfl rfl (by have := HL.out.2; rw [List.length_nil]; omega) (by decide) hbs ?_
    intro v14 w14 hr14 hoff14
    obtain ⟨x14, m14, c14, rfl⟩ := RowE.shape3 hr14
    refine hK.out _ _ (hHeld.off hoff14 (fun b hb => by have := (hre.own b hb).1; omega)) (fun hHeld => ?_)
    clear hK K
    try simp only [Act.put, List.getElem_toArray, List.getElem_cons_succ, List.getElem_cons_zero, List.setIfInBounds_toArray, List.set_cons_zero, List.set_cons_succ]
    refine wpAnyH_take (i := 15) (v := ?_) rfl (by kernel_rfl) (by kernel_rfl) (by kernel_rfl) (fun _ _ _ h => h) (Or.inl ⟨by rfl, ?_⟩) (by assumption) ?_
    rotate_left 1
    · (intro W hW; clear hW; go_simp; try with_reducible rfl)
    simp only [Act.put, List.getElem_toArray, List.getElem_cons_succ, List.getElem_cons_zero, List.setIfInBounds_toArray, List.set_cons_zero, List.set_cons_succ]
    refine wpAnyH_ready (rs := [16]) (by kernel_rfl) (by simp) ?_
    refine AllReadyH.cons rfl (fun K hK => ?_) AllReadyH.nil
    refine step_store_row rfl 37 _ _ rfl rfl rfl hHeld (by kernel_rfl) rfl (by kernel_rfl) ?_
    intro w16 hwh16 hoff16
    refine hK.out _ _ (hHeld.store hwh16 hoff16 rfl) (fun hHeld => ?_)
    clear hK K
    try simp only [Act.put, List.getElem_toArray, List.getElem_cons_succ, List.getElem_cons_zero, List.setIfInBounds_toArray, List.set_cons_zero, List.set_cons_succ]
    refine wpAnyH_done (by kernel_rfl) ?_ _
    go_wp2
    refine bodyPost_ret (results_cell_row rfl _ _ (w.heap.size + 1) 37 _ (0, 0) _ rfl hwh16 Tryd.underlying37 rfl (by kernel_rfl)) rfl ⟨_, _, _, rfl, ?_, hHeld.up hs0 (Nat.le_succ _)⟩
    have hr16 := RowE.off hr14 hoff16 (fun b hb e => by have := (hr14.own b hb).1; omega)
    exact RZ.mono hr16 (by omega)
  · go_simp
    have hre := RowE.empty (enc := encZ) (n := 1) wq 3
    have hbg := LowBox.lt hHeld
    have hbs : wq.heap.size ≤ (wq.alloc (.cells #[] 3)).heap.size := by simp
    refine hK.out _ _ (hHeld.since ((Since.refl _).alloc _)) (fun hHeld => ?_)
    clear hK K
    try simp only [Act.put, List.getElem_toArray, List.getElem_cons_succ, List.getElem_cons_zero, List.setIfInBounds_toArray, List.set_cons_zero, List.set_cons_succ]
    refine wpAnyH_ready (rs := [4]) (by kernel_rfl) (by simp) ?_
    refine AllReadyH.cons rfl (fun K hK => ?_) AllReadyH.nil
    go_simp
    refine (lawOp_any ok x y key val cl seq _).mono ?_
    rintro e w4 ⟨rfl, hb4⟩
    have hs4 : Since _ w4 := hb4
    have hre := RowE.since hre hb4
    have hbs := Nat.le_trans hbs hs4.size_
    go_wp2_with fail
    refine hK.out _ _ (hHeld.since hb4) (fun hHeld => ?_)
    clear hK K
    try simp only [Act.put, List.getElem_toArray, List.getElem_cons_succ, List.getElem_cons_zero, List.setIfInBounds_toArray, List.set_cons_zero, List.set_cons_succ]
    refine wpAnyH_ready (rs := [14]) (by kernel_rfl) (by simp) ?_
    refine AllReadyH.cons rfl (fun K hK => ?_) AllReadyH.nil
    refine step_append_val rfl (.tmp 14) (.tmp 16) 26 rfl wq.heap.size 3 _ 8 Tryd.underlying26 infoZ rfl (by decide) hre (LZ.part (HA.out _ (hHeld.up hs0 (Nat.le_succ _)))) encZ_len encZ_one rfl rfl (by have := HL.out.2; rw [List.length_nil]; omega) (by decide) hbs ?_
    intro v14 w14 hr14 hoff14
    obtain ⟨x14, m14, c14, rfl⟩ := RowE.shape3 hr14
    refine hK.out _ _ (hHeld.off hoff14 (fun b hb => by have := (hre.own b hb).1; omega)) (fun hHeld => ?_)
    clear hK K
    try simp only [Act.put, List.getElem_toArray, List.getElem_cons_succ, List.getElem_cons_zero, List.setIfInBounds_toArray, List.set_cons_zero, List.set_cons_succ]
    refine wpAnyH_take (i := 15) (v := ?_) rfl (by kernel_rfl) (by kernel_rfl) (by kernel_rfl) (fun _ _ _ h => h) (Or.inl ⟨by rfl, ?_⟩) (by assumption) ?_
    rotate_left 1
    · (intro W hW; clear hW; go_simp; try with_reducible rfl)
    simp only [Act.put, List.getElem_toArray, List.getElem_cons_succ, List.getElem_cons_zero, List.setIfInBounds_toArray, List.set_cons_zero, List.set_cons_succ]
    refine wpAnyH_ready (rs := [16]) (by kernel_rfl) (by simp) ?_
    refine AllReadyH.cons rfl (fun K hK => ?_) AllReadyH.nil
    refine step_store_row rfl 37 _ _ rfl rfl rfl hHeld (by kernel_rfl) rfl (by kernel_rfl) ?_
    intro w16 hwh16 hoff16
    refine hK.out _ _ (hHeld.store hwh16 hoff16 rfl) (fun hHeld => ?_)
    clear hK K
    try simp only [Act.put, List.getElem_toArray, List.getElem_cons_succ, List.getElem_cons_zero, List.setIfInBounds_toArray, List.set_cons_zero, List.set_cons_succ]
    refine wpAnyH_done (by kernel_rfl) ?_ _
    go_wp2
    refine bodyPost_ret (results_cell_row rfl _ _ (w.heap.size + 1) 37 _ (0, 0) _ rfl hwh16 Tryd.underlying37 rfl (by kernel_rfl)) rfl ⟨_, _, _, rfl, ?_, hHeld.up hs0 (Nat.le_succ _)⟩
    have hr16 := RowE.off hr14 hoff16 (fun b hb e => by have := (hr14.own b hb).1; omega)
    exact RZ.mono hr16 (by omega)
set_option maxRecDepth 100000 in
set_option maxHeartbeats 6400000 in
theorem ref11_any (h : LZ B w (.slice ca cn cc) l) (hB : B ≤ w.heap.size) (hl : l.length ≤ 1000) : Calls Tryd.prog 27 #[.agg #[.int .i64 kind, .int .i64 ok, .int .i64 x, .int .i64 y, .string key, .string val, .int .i64 cl, .int .i64 seq, .int .i64 nd, .int .i64 ep, .int .i64 bx, .slice ca cn cc]] w (OwnP kind ok x y key val cl seq nd ep bx l w) := by
  have HA := Lib.hid (fun W (hW : Since w W) => h.since hW hB)
  have HL := Lib.hid (And.intro hB hl)
  clear h hB hl
  obtain ⟨w0, hw0⟩ : ∃ w0, w0 = (w.alloc (.cells #[.int .i64 kind, .int .i64 ok, .int .i64 x, .int .i64 y, .string key, .string val, .int .i64 cl, .int .i64 seq, .int .i64 nd, .int .i64 ep, .int .i64 bx, .slice ca cn cc] 37)).alloc (.cells #[.int .i64 0, .int .i64 0, .int .i64 0, .int .i64 0, .string ⟨#[]⟩, .string ⟨#[]⟩, .int .i64 0, .int .i64 0, .int .i64 0, .int .i64 0, .int .i64 0, .slice none 0 0] 28) := ⟨_, rfl⟩
  have hs0 : Since w w0 := by rw [hw0]; exact ((Since.refl w).alloc _).alloc _
  have wh0 : Whole w0 w.heap.size 37 #[.int .i64 kind, .int .i64 ok, .int .i64 x, .int .i64 y, .string key, .string val, .int .i64 cl, .int .i64 seq, .int .i64 nd, .int .i64 ep, .int .i64 bx, .slice ca cn cc] := by rw [hw0]; exact (Whole.new w _ _).alloc _
  have wh1 : Whole w0 (w.heap.size + 1) 28 #[.int .i64 0, .int .i64 0, .int .i64 0, .int .i64 0, .string ⟨#[]⟩, .string ⟨#[]⟩, .int .i64 0, .int .i64 0, .int .i64 0, .int .i64 0, .int .i64 0, .slice none 0 0] := by rw [hw0]; exact (Whole.new (w.alloc _) _ _).at_ (by simp)
  have hsz0 : w0.heap.size = w.heap.size + 2 := by rw [hw0]; simp
  have HW := Lib.hid hw0
  have low : LowBox (w.heap.size + 1) 28 12 w0 w0 := LowBox.start wh1 rfl
  have c0_0 := fun W (hW : LowBox (w.heap.size + 1) 28 12 w0 W) => (show W.cell? ⟨w.heap.size, 0, none⟩ = some (.int .i64 kind) from (Whole.cell (wh0.below hW.1 (Nat.lt_succ_self _)) 0).trans rfl)
  have c0_1 := fun W (hW : LowBox (w.heap.size + 1) 28 12 w0 W) => (show W.cell? ⟨w.heap.size, 1, none⟩ = some (.int .i64 ok) from (Whole.cell (wh0.below hW.1 (Nat.lt_succ_self _)) 1).trans rfl)
  have c0_2 := fun W (hW : LowBox (w.heap.size + 1) 28 12 w0 W) => (show W.cell? ⟨w.heap.size, 2, none⟩ = some (.int .i64 x) from (Whole.cell (wh0.below hW.1 (Nat.lt_succ_self _)) 2).trans rfl)
  have c0_3 := fun W (hW : LowBox (w.heap.size + 1) 28 12 w0 W) => (show W.cell? ⟨w.heap.size, 3, none⟩ = some (.int .i64 y) from (Whole.cell (wh0.below hW.1 (Nat.lt_succ_self _)) 3).trans rfl)
  have c0_4 := fun W (hW : LowBox (w.heap.size + 1) 28 12 w0 W) => (show W.cell? ⟨w.heap.size, 4, none⟩ = some (.string key) from (Whole.cell (wh0.below hW.1 (Nat.lt_succ_self _)) 4).trans rfl)
  have c0_5 := fun W (hW : LowBox (w.heap.size + 1) 28 12 w0 W) => (show W.cell? ⟨w.heap.size, 5, none⟩ = some (.string val) from (Whole.cell (wh0.below hW.1 (Nat.lt_succ_self _)) 5).trans rfl)
  have c0_6 := fun W (hW : LowBox (w.heap.size + 1) 28 12 w0 W) => (show W.cell? ⟨w.heap.size, 6, none⟩ = some (.int .i64 cl) from (Whole.cell (wh0.below hW.1 (Nat.lt_succ_self _)) 6).trans rfl)
  have c0_7 := fun W (hW : LowBox (w.heap.size + 1) 28 12 w0 W) => (show W.cell? ⟨w.heap.size, 7, none⟩ = some (.int .i64 seq) from (Whole.cell (wh0.below hW.1 (Nat.lt_succ_self _)) 7).trans rfl)
  have c0_8 := fun W (hW : LowBox (w.heap.size + 1) 28 12 w0 W) => (show W.cell? ⟨w.heap.size, 8, none⟩ = some (.int .i64 nd) from (Whole.cell (wh0.below hW.1 (Nat.lt_succ_self _)) 8).trans rfl)
  have c0_9 := fun W (hW : LowBox (w.heap.size + 1) 28 12 w0 W) => (show W.cell? ⟨w.heap.size, 9, none⟩ = some (.int .i64 ep) from (Whole.cell (wh0.below hW.1 (Nat.lt_succ_self _)) 9).trans rfl)
  have c0_10 := fun W (hW : LowBox (w.heap.size + 1) 28 12 w0 W) => (show W.cell? ⟨w.heap.size, 10, none⟩ = some (.int .i64 bx) from (Whole.cell (wh0.below hW.1 (Nat.lt_succ_self _)) 10).trans rfl)
  have c0_11 := fun W (hW : LowBox (w.heap.size + 1) 28 12 w0 W) => (show W.cell? ⟨w.heap.size, 11, none⟩ = some (.slice ca cn cc) from (Whole.cell (wh0.below hW.1 (Nat.lt_succ_self _)) 11).trans rfl)
  clear hw0 wh1
  have hbq0 : w.heap.size + 1 < w0.heap.size := by omega
  have hsd := low.drew
  go_enter Tryd.func27, Tryd.ntmps27
  go_wp2_with fail
  rw [← HW.out]
  refine wp_region_held_drew (S := fun W => LowBox (w.heap.size + 1) 28 12 w0 W) (by kernel_rfl) hsd (fun hHeld => ?_)
  have hgq : w.heap.size + 1 < w0.drew.heap.size := hsd.lt
  generalize w0.drew = wq at hHeld hgq ⊢
  refine wpAnyH_take (i := 0) (v := ?_) rfl (by kernel_rfl) (by kernel_rfl) (by kernel_rfl) (fun _ _ _ h => h) (Or.inl ⟨by rfl, ?_⟩) (by assumption) ?_
  rotate_left 1
  · (intro W hW; clear hW; go_simp; try with_reducible rfl)
  simp only [Act.put, List.getElem_toArray, List.getElem_cons_zero, List.setIfInBounds_toArray, List.set_cons_zero, List.set_cons_succ]
  refine wpAnyH_take (i := 1) (v := ?_) rfl (by kernel_rfl) (by kernel_rfl) (by kernel_rfl) (fun _ _ _ h => h) (Or.inl ⟨by rfl, ?_⟩) (by assumption) ?_
  rotate_left 1
  · (intro W hW; skip; go_simp; try with_reducible rfl)
  simp only [Act.put, List.getElem_toArray, List.getElem_cons_succ, List.getElem_cons_zero, List.setIfInBounds_toArray, List.set_cons_zero, List.set_cons_succ]
  refine wpAnyH_take (i := 2) (v := ?_) rfl (by kernel_rfl) (by kernel_rfl) (by kernel_rfl) (fun _ _ _ h => h) (Or.inl ⟨by rfl, ?_⟩) (by assumption) ?_
  rotate_left 1
  · (intro W hW; clear hW; go_simp; try with_reducible rfl)
  simp only [Act.put, List.getElem_toArray, List.getElem_cons_succ, List.getElem_cons_zero, List.setIfInBounds_toArray, List.set_cons_zero, List.set_cons_succ]
  refine wpAnyH_take (i := 3) (v := ?_) rfl (by kernel_rfl) (by kernel_rfl) (by kernel_rfl) (fun _ _ _ h => h) (Or.inl ⟨by rfl, ?_⟩) (by assumption) ?_
  rotate_left 1
  · (intro W hW; skip; go_simp; try with_reducible rfl)
  simp only [Act.put, List.getElem_toArray, List.getElem_cons_succ, List.getElem_cons_zero, List.setIfInBounds_toArray, List.set_cons_zero, List.set_cons_succ]
  refine wpAnyH_take (i := 5) (v := ?_) rfl (by kernel_rfl) (by kernel_rfl) (by kernel_rfl) (fun _ _ _ h => h) (Or.inl ⟨by rfl, ?_⟩) (by assumption) ?_
  rotate_left 1
  · (intro W hW; clear hW; go_simp; try with_reducible rfl)
  simp only [Act.put, List.getElem_toArray, List.getElem_cons_succ, List.getElem_cons_zero, List.setIfInBounds_toArray, List.set_cons_zero, List.set_cons_succ]
  refine wpAnyH_take (i := 6) (v := ?_) rfl (by kernel_rfl) (by kernel_rfl) (by kernel_rfl) (fun _ _ _ h => h) (Or.inl ⟨by rfl, ?_⟩) (by assumption) ?_
  rotate_left 1
  · (intro W hW; skip; go_simp; try with_reducible rfl)
  simp only [Act.put, List.getElem_toArray, List.getElem_cons_succ, List.getElem_cons_zero, List.setIfInBounds_toArray, List.set_cons_zero, List.set_cons_succ]
  refine wpAnyH_take (i := 7) (v := ?_) rfl (by kernel_rfl) (by kernel_rfl) (by kernel_rfl) (fun _ _ _ h => h) (Or.inl ⟨by rfl, ?_⟩) (by assumption) ?_
  rotate_left 1
  · (intro W hW; clear hW; go_simp; try with_reducible rfl)
  simp only [Act.put, List.getElem_toArray, List.getElem_cons_succ, List.getElem_cons_zero, List.setIfInBounds_toArray, List.set_cons_zero, List.set_cons_succ]
  refine wpAnyH_take (i := 8) (v := ?_) rfl (by kernel_rfl) (by kernel_rfl) (by kernel_rfl) (fun _ _ _ h => h) (Or.inl ⟨by rfl, ?_⟩) (by assumption) ?_
  rotate_left 1
  · (intro W hW; skip; go_simp; try with_reducible rfl)
  simp only [Act.put, List.getElem_toArray, List.getElem_cons_succ, List.getElem_cons_zero, List.setIfInBounds_toArray, List.set_cons_zero, List.set_cons_succ]
  refine wpAnyH_take (i := 9) (v := ?_) rfl (by kernel_rfl) (by kernel_rfl) (by kernel_rfl) (fun _ _ _ h => h) (Or.inl ⟨by rfl, ?_⟩) (by assumption) ?_
  rotate_left 1
  · (intro W hW; clear hW; go_simp; try with_reducible rfl)
  simp only [Act.put, List.getElem_toArray, List.getElem_cons_succ, List.getElem_cons_zero, List.setIfInBounds_toArray, List.set_cons_zero, List.set_cons_succ]
  refine wpAnyH_take (i := 10) (v := ?_) rfl (by kernel_rfl) (by kernel_rfl) (by kernel_rfl) (fun _ _ _ h => h) (Or.inl ⟨by rfl, ?_⟩) (by assumption) ?_
  rotate_left 1
  · (intro W hW; skip; go_simp; try with_reducible rfl)
  simp only [Act.put, List.getElem_toArray, List.getElem_cons_succ, List.getElem_cons_zero, List.setIfInBounds_toArray, List.set_cons_zero, List.set_cons_succ]
  refine wpAnyH_take (i := 12) (v := ?_) rfl (by kernel_rfl) (by kernel_rfl) (by kernel_rfl) (fun _ _ _ h => h) (Or.inl ⟨by rfl, ?_⟩) (by assumption) ?_
  rotate_left 1
  · (intro W hW; clear hW; go_simp; try with_reducible rfl)
  simp only [Act.put, List.getElem_toArray, List.getElem_cons_succ, List.getElem_cons_zero, List.setIfInBounds_toArray, List.set_cons_zero, List.set_cons_succ]
  refine wpAnyH_take (i := 13) (v := ?_) rfl (by kernel_rfl) (by kernel_rfl) (by kernel_rfl) (fun _ _ _ h => h) (Or.inl ⟨by rfl, ?_⟩) (by assumption) ?_
  rotate_left 1
  · (intro W hW; skip; go_simp; try with_reducible rfl)
  simp only [Act.put, List.getElem_toArray, List.getElem_cons_succ, List.getElem_cons_zero, List.setIfInBounds_toArray, List.set_cons_zero, List.set_cons_succ]
  refine wpAnyH_ready (rs := [4, 11]) (by kernel_rfl) (by simp) ?_
  refine AllReadyH.cons rfl (fun K hK => ?_) (AllReadyH.cons rfl (fun K hK => ?_) AllReadyH.nil)
  · go_simp
    refine (lawRefOp_any ok x y key val cl seq _).mono ?_
    rintro e w4 ⟨rfl, hb4⟩
    have hs4 : Since _ w4 := hb4
    go_wp2_with fail
    refine hK.out _ _ (hHeld.since hb4) (fun hHeld => ?_)
    clear hK K
    try simp only [Act.put, List.getElem_toArray, List.getElem_cons_succ, List.getElem_cons_zero, List.setIfInBounds_toArray, List.set_cons_zero, List.set_cons_succ]
    refine wpAnyH_ready (rs := [11]) (by kernel_rfl) (by simp) ?_
    refine AllReadyH.cons rfl (fun K hK => ?_) AllReadyH.nil
    go_simp
    have hre := RowE.empty (enc := encZ) (n := 1) w4 3
    have hbg := LowBox.lt hHeld
    have hbs : w4.heap.size ≤ (w4.alloc (.cells #[] 3)).heap.size := by simp
    refine hK.out _ _ (hHeld.since ((Since.refl _).alloc _)) (fun hHeld => ?_)
    clear hK K
    try simp only [Act.put, List.getElem_toArray, List.getElem_cons_succ, List.getElem_cons_zero, List.setIfInBounds_toArray, List.set_cons_zero, List.set_cons_succ]
    refine wpAnyH_ready (rs := [14]) (by kernel_rfl) (by simp) ?_
    refine AllReadyH.cons rfl (fun K hK => ?_) AllReadyH.nil
    refine step_append_val rfl (.tmp 14) (.tmp 16) 26 rfl w4.heap.size 3 _ 8 Tryd.underlying26 infoZ rfl (by decide) hre (LZ.part (HA.out _ (hHeld.up hs0 (Nat.le_succ _)))) encZ_len encZ_one rfl rfl (by have := HL.out.2; rw [List.length_nil]; omega) (by decide) hbs ?_
    intro v14 w14 hr14 hoff14
    obtain ⟨x14, m14, c14, rfl⟩ := RowE.shape3 hr14
    refine hK.out _ _ (hHeld.off hoff14 (fun b hb => by have := (hre.own b hb).1; omega)) (fun hHeld => ?_)
    clear hK K
    try simp only [Act.put, List.getElem_toArray, List.getElem_cons_succ, List.getElem_cons_zero, List.setIfInBounds_toArray, List.set_cons_zero, List.set_cons_succ]
    refine wpAnyH_take (i := 15) (v := ?_) rfl (by kernel_rfl) (by kernel_rfl) (by kernel_rfl) (fun _ _ _ h => h) (Or.inl ⟨by rfl, ?_⟩) (by assumption) ?_
    rotate_left 1
    · (intro W hW; clear hW; go_simp; try with_reducible rfl)
    simp only [Act.put, List.getElem_toArray, List.getElem_cons_succ, List.getElem_cons_zero, List.setIfInBounds_toArray, List.set_cons_zero, List.set_cons_succ]
    refine wpAnyH_ready (rs := [16]) (by kernel_rfl) (by simp) ?_
    refine AllReadyH.cons rfl (fun K hK => ?_) AllReadyH.nil
    refine step_store_row rfl 28 _ _ rfl rfl rfl hHeld (by kernel_rfl) rfl (by kernel_rfl) ?_
    intro w16 hwh16 hoff16
    refine hK.out _ _ (hHeld.store hwh16 hoff16 rfl) (fun hHeld => ?_)
    clear hK K
    try simp only [Act.put, List.getElem_toArray, List.getElem_cons_succ, List.getElem_cons_zero, List.setIfInBounds_toArray, List.set_cons_zero, List.set_cons_succ]
    refine wpAnyH_done (by kernel_rfl) ?_ _
    go_wp2
    refine bodyPost_ret (results_cell_row rfl _ _ (w.heap.size + 1) 28 _ (0, 0) _ rfl hwh16 Tryd.underlying28 rfl (by kernel_rfl)) rfl ⟨_, _, _, rfl, ?_, hHeld.up hs0 (Nat.le_succ _)⟩
    have hr16 := RowE.off hr14 hoff16 (fun b hb e => by have := (hr14.own b hb).1; omega)
    exact RZ.mono hr16 (by omega)
  · go_simp
    have hre := RowE.empty (enc := encZ) (n := 1) wq 3
    have hbg := LowBox.lt hHeld
    have hbs : wq.heap.size ≤ (wq.alloc (.cells #[] 3)).heap.size := by simp
    refine hK.out _ _ (hHeld.since ((Since.refl _).alloc _)) (fun hHeld => ?_)
    clear hK K
    try simp only [Act.put, List.getElem_toArray, List.getElem_cons_succ, List.getElem_cons_zero, List.setIfInBounds_toArray, List.set_cons_zero, List.set_cons_succ]
    refine wpAnyH_ready (rs := [4]) (by kernel_rfl) (by simp) ?_
    refine AllReadyH.cons rfl (fun K hK => ?_) AllReadyH.nil
    go_simp
    refine (lawRefOp_any ok x y key val cl seq _).mono ?_
    rintro e w4 ⟨rfl, hb4⟩
    have hs4 : Since _ w4 := hb4
    have hre := RowE.since hre hb4
    have hbs := Nat.le_trans hbs hs4.size_
    go_wp2_with fail
    refine hK.out _ _ (hHeld.since hb4) (fun hHeld => ?_)
    clear hK K
    try simp only [Act.put, List.getElem_toArray, List.getElem_cons_succ, List.getElem_cons_zero, List.setIfInBounds_toArray, List.set_cons_zero, List.set_cons_succ]
    refine wpAnyH_ready (rs := [14]) (by kernel_rfl) (by simp) ?_
    refine AllReadyH.cons rfl (fun K hK => ?_) AllReadyH.nil
    refine step_append_val rfl (.tmp 14) (.tmp 16) 26 rfl wq.heap.size 3 _ 8 Tryd.underlying26 infoZ rfl (by decide) hre (LZ.part (HA.out _ (hHeld.up hs0 (Nat.le_succ _)))) encZ_len encZ_one rfl rfl (by have := HL.out.2; rw [List.length_nil]; omega) (by decide) hbs ?_
    intro v14 w14 hr14 hoff14
    obtain ⟨x14, m14, c14, rfl⟩ := RowE.shape3 hr14
    refine hK.out _ _ (hHeld.off hoff14 (fun b hb => by have := (hre.own b hb).1; omega)) (fun hHeld => ?_)
    clear hK K
    try simp only [Act.put, List.getElem_toArray, List.getElem_cons_succ, List.getElem_cons_zero, List.setIfInBounds_toArray, List.set_cons_zero, List.set_cons_succ]
    refine wpAnyH_take (i := 15) (v := ?_) rfl (by kernel_rfl) (by kernel_rfl) (by kernel_rfl) (fun _ _ _ h => h) (Or.inl ⟨by rfl, ?_⟩) (by assumption) ?_
    rotate_left 1
    · (intro W hW; clear hW; go_simp; try with_reducible rfl)
    simp only [Act.put, List.getElem_toArray, List.getElem_cons_succ, List.getElem_cons_zero, List.setIfInBounds_toArray, List.set_cons_zero, List.set_cons_succ]
    refine wpAnyH_ready (rs := [16]) (by kernel_rfl) (by simp) ?_
    refine AllReadyH.cons rfl (fun K hK => ?_) AllReadyH.nil
    refine step_store_row rfl 28 _ _ rfl rfl rfl hHeld (by kernel_rfl) rfl (by kernel_rfl) ?_
    intro w16 hwh16 hoff16
    refine hK.out _ _ (hHeld.store hwh16 hoff16 rfl) (fun hHeld => ?_)
    clear hK K
    try simp only [Act.put, List.getElem_toArray, List.getElem_cons_succ, List.getElem_cons_zero, List.setIfInBounds_toArray, List.set_cons_zero, List.set_cons_succ]
    refine wpAnyH_done (by kernel_rfl) ?_ _
    go_wp2
    refine bodyPost_ret (results_cell_row rfl _ _ (w.heap.size + 1) 28 _ (0, 0) _ rfl hwh16 Tryd.underlying28 rfl (by kernel_rfl)) rfl ⟨_, _, _, rfl, ?_, hHeld.up hs0 (Nat.le_succ _)⟩
    have hr16 := RowE.off hr14 hoff16 (fun b hb e => by have := (hr14.own b hb).1; omega)
    exact RZ.mono hr16 (by omega)
set_option maxRecDepth 100000 in
set_option maxHeartbeats 6400000 in
theorem eclone_any (h : LZ B w (.slice ca cn cc) l) (hB : B ≤ w.heap.size) (hl : l.length ≤ 1000) : Calls Tryd.prog 17 #[.agg #[.int .i64 kind, .int .i64 ok, .int .i64 x, .int .i64 y, .string key, .string val, .int .i64 cl, .int .i64 seq, .int .i64 nd, .int .i64 ep, .int .i64 bx, .slice ca cn cc]] w (OwnP kind ok x y key val cl seq nd ep bx l w) := by
  have HA := Lib.hid (fun W (hW : Since w W) => h.since hW hB)
  have HL := Lib.hid (And.intro hB hl)
  clear h hB hl
  obtain ⟨w0, hw0⟩ : ∃ w0, w0 = (w.alloc (.cells #[.int .i64 kind, .int .i64 ok, .int .i64 x, .int .i64 y, .string key, .string val, .int .i64 cl, .int .i64 seq, .int .i64 nd, .int .i64 ep, .int .i64 bx, .slice ca cn cc] 37)).alloc (.cells #[.int .i64 0, .int .i64 0, .int .i64 0, .int .i64 0, .string ⟨#[]⟩, .string ⟨#[]⟩, .int .i64 0, .int .i64 0, .int .i64 0, .int .i64 0, .int .i64 0, .slice none 0 0] 37) := ⟨_, rfl⟩
  have hs0 : Since w w0 := by rw [hw0]; exact ((Since.refl w).alloc _).alloc _
  have wh0 : Whole w0 (w.heap.size) 37 #[.int .i64 kind, .int .i64 ok, .int .i64 x, .int .i64 y, .string key, .string val, .int .i64 cl, .int .i64 seq, .int .i64 nd, .int .i64 ep, .int .i64 bx, .slice ca cn cc] := by rw [hw0]; exact (Whole.new w _ _).alloc _
  have wh1 : Whole w0 (w.heap.size + 1) 37 #[.int .i64 0, .int .i64 0, .int .i64 0, .int .i64 0, .string ⟨#[]⟩, .string ⟨#[]⟩, .int .i64 0, .int .i64 0, .int .i64 0, .int .i64 0, .int .i64 0, .slice none 0 0] := by rw [hw0]; exact (Whole.new (w.alloc _) _ _).at_ (by simp)
  have HW := Lib.hid hw0
  have c0_0 := box_cell wh0 0 (.int .i64 kind) rfl
  have c0_1 := box_cell wh0 1 (.int .i64 ok) rfl
  have c0_2 := box_cell wh0 2 (.int .i64 x) rfl
  have c0_3 := box_cell wh0 3 (.int .i64 y) rfl
  have c0_4 := box_cell wh0 4 (.string key) rfl
  have c0_5 := box_cell wh0 5 (.string val) rfl
  have c0_6 := box_cell wh0 6 (.int .i64 cl) rfl
  have c0_7 := box_cell wh0 7 (.int .i64 seq) rfl
  have c0_8 := box_cell wh0 8 (.int .i64 nd) rfl
  have c0_9 := box_cell wh0 9 (.int .i64 ep) rfl
  have c0_10 := box_cell wh0 10 (.int .i64 bx) rfl
  have c0_11 := box_cell wh0 11 (.slice ca cn cc) rfl
  have c1_0 := box_cell wh1 0 (.int .i64 0) rfl
  have c1_1 := box_cell wh1 1 (.int .i64 0) rfl
  have c1_2 := box_cell wh1 2 (.int .i64 0) rfl
  have c1_3 := box_cell wh1 3 (.int .i64 0) rfl
  have c1_4 := box_cell wh1 4 (.string ⟨#[]⟩) rfl
  have c1_5 := box_cell wh1 5 (.string ⟨#[]⟩) rfl
  have c1_6 := box_cell wh1 6 (.int .i64 0) rfl
  have c1_7 := box_cell wh1 7 (.int .i64 0) rfl
  have c1_8 := box_cell wh1 8 (.int .i64 0) rfl
  have c1_9 := box_cell wh1 9 (.int .i64 0) rfl
  have c1_10 := box_cell wh1 10 (.int .i64 0) rfl
  have c1_11 := box_cell wh1 11 (.slice none 0 0) rfl
  have hsr := Since.refl w0
  have hsd := hsr.drew
  clear hw0
  go_enter Tryd.func17, Tryd.ntmps17
  go_wp2_with fail
  rw [← HW.out]
  go_wp2_with fail
  refine (clone11_any (HA.out _ hs0) (Nat.le_trans HL.out.1 hs0.size_) HL.out.2).mono ?_
  rintro e w2 ⟨v2, rfl, hr2, hb2⟩
  obtain ⟨x2, m2, c2, rfl⟩ := RowE.shape3 hr2
  have hs2 : Since w0 w2 := hb2
  have wa := Since.whole hs2 wh0
  have wb := Since.whole hs2 wh1
  have hsz0 : w0.heap.size = w.heap.size + 2 := by rw [HW.out]; simp
  have a11 := wa.cell 11
  have f11 := wa.frozen 11
  have wa3 := wa.set_ 11 (.slice x2 m2 c2)
  have wb3 := wb.far (p := ⟨w.heap.size, 11, none⟩) (by simp) (.slice x2 m2 c2)
  have hr3 := RowE.far hr2 (p := ⟨w.heap.size, 11, none⟩) (by simp; omega) (.slice x2 m2 c2)
  have hs3 : Since w (w2.setCell ⟨w.heap.size, 11, none⟩ (.slice x2 m2 c2)) := Since.setCell (p := ⟨w.heap.size, 11, none⟩) (hs0.trans hs2) (Nat.le_refl _) _
  have a0 := wa3.cell 0
  have a1 := wa3.cell 1
  have a2 := wa3.cell 2
  have a3 := wa3.cell 3
  have a4 := wa3.cell 4
  have a5 := wa3.cell 5
  have a6 := wa3.cell 6
  have a7 := wa3.cell 7
  have a8 := wa3.cell 8
  have a9 := wa3.cell 9
  have a10 := wa3.cell 10
  have a11 := wa3.cell 11
  simp at a0 a1 a2 a3 a4 a5 a6 a7 a8 a9 a10 a11
  have HB3 := Lib.hid (And.intro wb3 (And.intro hr3 hs3))
  clear wh0 wh1 wa wb wa3 wb3 hr3 hs3 c1_0 c1_1 c1_2 c1_3 c1_4 c1_5 c1_6 c1_7 c1_8 c1_9 c1_10 c1_11 c0_0 c0_1 c0_2 c0_3 c0_4 c0_5 c0_6 c0_7 c0_8 c0_9 c0_10 c0_11
  have h11 : w2.cell? ⟨w.heap.size, 11, none⟩ = some (.slice ca cn cc) := (Since.whole hs2 (show Whole w0 w.heap.size 37 _ by rw [HW.out]; exact (Whole.new w _ _).alloc _)).cell 11
  go_wp2_with (refine wpList_store_row rfl 37 _ _ rfl rfl rfl HB3.out.1 (by kernel_rfl) rfl (by kernel_rfl) ?_; intro w5 hwh5 hoff5)
  refine bodyPost_ret (results_cell_row rfl _ _ (w.heap.size + 1) 37 _ (0, 0) _ rfl hwh5 Tryd.underlying37 rfl (by kernel_rfl)) rfl ⟨_, _, _, rfl, ?_, off_since hoff5 HB3.out.2.2 (fun b e => by omega)⟩
  exact RZ.mono (RowE.off HB3.out.2.1 hoff5 (fun b hb e => by have := (HB3.out.2.1.own b hb).1; omega)) (by omega)
end
end Go.Proofs.YtimmnmidhjbanaaDoor
