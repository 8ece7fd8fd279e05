/- quad's part. -/
import Derived.Test.YthfhpejpjiaikaaGreatK16
import Derived.Deep.Cut
import Derived.Deep.CutRange
namespace Go.Proofs.YthfhpejpjiaikaaGreat
open Go.RowKit
set_option linter.unusedVariables false
set_option linter.unusedSimpArgs false
set_option maxRecDepth 100000 in
set_option maxHeartbeats 12800000 in
theorem part_any {N : Int} (ih : PutC (N - 1)) : PartC N := by
  intro g v b L wA hat hv hg hs hin hl1 hl4 hA hN
  obtain ⟨hn0, hrow⟩ := hat
  have hgl : g < wA.heap.size := Whole.lt hn0
  obtain ⟨gv, cap, S, hve, hgv1, hgv2, hc1, hc2, hl, hS⟩ := (RowE.cur hrow).resolve_left (fun z => by rw [z.2] at hl4; exact absurd hl4 (by simp))
  subst hve
  have hgvg : gv ≠ g := fun e => hv (by rw [e]; rfl)
  obtain ⟨wa, hwa⟩ : ∃ x, b.w - b.w / 2 = x := ⟨_, rfl⟩
  obtain ⟨wb, hwb⟩ : ∃ x, b.w / 2 = x := ⟨_, rfl⟩
  obtain ⟨ha, hha⟩ : ∃ x, b.h - b.h / 2 = x := ⟨_, rfl⟩
  obtain ⟨hb, hhb⟩ : ∃ x, b.h / 2 = x := ⟨_, rfl⟩
  have b1 := hg.x0; have b2 := hg.y0; have b3 := hg.w1; have b4 := hg.h1; have b5 := hg.x1; have b6 := hg.y1
  have HC0 := Lib.hid (fun W' => halved_any (n := b.w) (by omega) (by omega) hwa hwb W')
  have HC1 := Lib.hid (fun W' => halved_any (n := b.h) (by omega) (by omega) hha hhb W')
  have k2 : ∀ W', Since wA W' → W'.cell? ⟨g, 2, none⟩ = some (.int .i64 b.w) := box_cell hn0 2 _ rfl
  have k3 : ∀ W', Since wA W' → W'.cell? ⟨g, 3, none⟩ = some (.int .i64 b.h) := box_cell hn0 3 _ rfl
  have HN := Lib.hid hn0
  have HL := Lib.hid (hrow.list encQ_len)
  have HB := Lib.hid (And.intro hwa (And.intro hwb (And.intro hha hhb)))
  have hsd : Since wA wA.drew := (Since.refl wA).drew
  clear hn0 hrow hgv1 hgv2 hc1 hc2 hl hS hwa hwb hha hhb
  go_enter Tryz.func77, Tryz.ntmps77
  go_upto_region 0 with fail
  go_cut [2, 3] from 10 to 22 (fun s2 s3 wx => ∃ g2 g3, s2 = .pointer (some ⟨g2, 0, none⟩) ∧ s3 = .pointer (some ⟨g3, 0, none⟩) ∧ Whole wx g2 145 #[.int .i64 wa, .int .i64 wb] ∧ Whole wx g3 145 #[.int .i64 ha, .int .i64 hb] ∧ (wA.heap.size ≤ g2 ∧ wA.heap.size ≤ g3) ∧ Since wA wx)
  case first =>
    obtain ⟨wq, hwq⟩ : ∃ wq, wq = wA.drew := ⟨_, rfl⟩
    refine wp_region_held_drew (S := fun W => Since wA W) (by kernel_rfl) hsd (fun hHeld => ?_)
    rw [← hwq] at hHeld ⊢
    have hq : Since wA wq := hHeld
    clear hwq hsd
    refine wpAnyH_take (i := 0) (v := ?_) rfl (by kernel_rfl) (by kernel_rfl) (by kernel_rfl) (fun _ _ _ h => h) (Or.inl ⟨by rfl, ?_⟩) (by assumption) ?_
    rotate_left 1
    · (intro W hW; clear hW; go_simp; try with_reducible rfl)
    simp only [Act.put, List.getElem_toArray, List.getElem_cons_zero, List.setIfInBounds_toArray, List.set_cons_zero, List.set_cons_succ]
    refine wpAnyH_take (i := 1) (v := ?_) rfl (by kernel_rfl) (by kernel_rfl) (by kernel_rfl) (fun _ _ _ h => h) (Or.inl ⟨by rfl, ?_⟩) (by assumption) ?_
    rotate_left 1
    · (intro W hW; clear hW; go_simp; try with_reducible rfl)
    simp only [Act.put, List.getElem_toArray, List.getElem_cons_succ, List.getElem_cons_zero, List.setIfInBounds_toArray, List.set_cons_zero, List.set_cons_succ]
    refine wpAnyH_take (i := 2) (v := ?_) rfl (by kernel_rfl) (by kernel_rfl) (by kernel_rfl) (fun _ _ _ h => h) (Or.inl ⟨by rfl, ?_⟩) (by assumption) ?_
    rotate_left 1
    · (intro W hW; clear hW; go_simp; try with_reducible rfl)
    simp only [Act.put, List.getElem_toArray, List.getElem_cons_succ, List.getElem_cons_zero, List.setIfInBounds_toArray, List.set_cons_zero, List.set_cons_succ]
    refine wpAnyH_take (i := 3) (v := ?_) rfl (by kernel_rfl) (by kernel_rfl) (by kernel_rfl) (fun _ _ _ h => h) (Or.inl ⟨by rfl, ?_⟩) (by assumption) ?_
    rotate_left 1
    · (intro W hW; clear hW; go_simp; try with_reducible rfl)
    simp only [Act.put, List.getElem_toArray, List.getElem_cons_succ, List.getElem_cons_zero, List.setIfInBounds_toArray, List.set_cons_zero, List.set_cons_succ]
    refine wpAnyH_take (i := 4) (v := ?_) rfl (by kernel_rfl) (by kernel_rfl) (by kernel_rfl) (fun _ _ _ h => h) (Or.inl ⟨by rfl, ?_⟩) (by assumption) ?_
    rotate_left 1
    · (intro W hW; skip; go_simp; try with_reducible rfl)
    simp only [Act.put, List.getElem_toArray, List.getElem_cons_succ, List.getElem_cons_zero, List.setIfInBounds_toArray, List.set_cons_zero, List.set_cons_succ]
    refine wpAnyH_take (i := 6) (v := ?_) rfl (by kernel_rfl) (by kernel_rfl) (by kernel_rfl) (fun _ _ _ h => h) (Or.inl ⟨by rfl, ?_⟩) (by assumption) ?_
    rotate_left 1
    · (intro W hW; clear hW; go_simp; try with_reducible rfl)
    simp only [Act.put, List.getElem_toArray, List.getElem_cons_succ, List.getElem_cons_zero, List.setIfInBounds_toArray, List.set_cons_zero, List.set_cons_succ]
    refine wpAnyH_take (i := 7) (v := ?_) rfl (by kernel_rfl) (by kernel_rfl) (by kernel_rfl) (fun _ _ _ h => h) (Or.inl ⟨by rfl, ?_⟩) (by assumption) ?_
    rotate_left 1
    · (intro W hW; clear hW; go_simp; try with_reducible rfl)
    simp only [Act.put, List.getElem_toArray, List.getElem_cons_succ, List.getElem_cons_zero, List.setIfInBounds_toArray, List.set_cons_zero, List.set_cons_succ]
    refine wpAnyH_take (i := 8) (v := ?_) rfl (by kernel_rfl) (by kernel_rfl) (by kernel_rfl) (fun _ _ _ h => h) (Or.inl ⟨by rfl, ?_⟩) (by assumption) ?_
    rotate_left 1
    · (intro W hW; clear hW; go_simp; try with_reducible rfl)
    simp only [Act.put, List.getElem_toArray, List.getElem_cons_succ, List.getElem_cons_zero, List.setIfInBounds_toArray, List.set_cons_zero, List.set_cons_succ]
    refine wpAnyH_take (i := 9) (v := ?_) rfl (by kernel_rfl) (by kernel_rfl) (by kernel_rfl) (fun _ _ _ h => h) (Or.inl ⟨by rfl, ?_⟩) (by assumption) ?_
    rotate_left 1
    · (intro W hW; clear hW; go_simp; try with_reducible rfl)
    simp only [Act.put, List.getElem_toArray, List.getElem_cons_succ, List.getElem_cons_zero, List.setIfInBounds_toArray, List.set_cons_zero, List.set_cons_succ]
    refine wpAnyH_take (i := 10) (v := ?_) rfl (by kernel_rfl) (by kernel_rfl) (by kernel_rfl) (fun _ _ _ h => h) (Or.inl ⟨by rfl, ?_⟩) (by assumption) ?_
    rotate_left 1
    · (intro W hW; skip; go_simp; try with_reducible rfl)
    simp only [Act.put, List.getElem_toArray, List.getElem_cons_succ, List.getElem_cons_zero, List.setIfInBounds_toArray, List.set_cons_zero, List.set_cons_succ]
    refine wpAnyH_ready (rs := [5, 12, 13]) (by kernel_rfl) (by simp) ?_
    refine AllReadyH.cons rfl (fun K hK => ?_) (AllReadyH.cons rfl (fun K hK => ?_) (AllReadyH.cons rfl (fun K hK => ?_) AllReadyH.nil))
    · go_simp
      refine (HC0.out _).mono ?_
      rintro e wc0 ⟨rfl, hd0⟩
      have hc0 : Since wA wc0 := Since.trans hq hd0
      go_wp2_with fail
      refine hK.out _ _ (hc0) (fun hHeld => ?_)
      clear hK K
      try simp only [Act.put, List.getElem_toArray, List.getElem_cons_succ, List.getElem_cons_zero, List.setIfInBounds_toArray, List.set_cons_zero, List.set_cons_succ]
      refine wpAnyH_ready (rs := [11, 12, 13]) (by kernel_rfl) (by simp) ?_
      refine AllReadyH.cons rfl (fun K hK => ?_) (AllReadyH.cons rfl (fun K hK => ?_) (AllReadyH.cons rfl (fun K hK => ?_) AllReadyH.nil))
      · go_simp
        refine (HC1.out _).mono ?_
        rintro e wc1 ⟨rfl, hd1⟩
        have hc1 : Since wA wc1 := Since.trans hc0 hd1
        go_wp2_with fail
        refine hK.out _ _ (hc1) (fun hHeld => ?_)
        clear hK K
        try simp only [Act.put, List.getElem_toArray, List.getElem_cons_succ, List.getElem_cons_zero, List.setIfInBounds_toArray, List.set_cons_zero, List.set_cons_succ]
        refine wpAnyH_ready (rs := [12, 13]) (by kernel_rfl) (by simp) ?_
        refine AllReadyH.cons rfl (fun K hK => ?_) (AllReadyH.cons rfl (fun K hK => ?_) AllReadyH.nil)
        · go_simp
          have hg0 : wA.heap.size ≤ wc1.heap.size := by have := Since.size_ hc1; omega
          refine hK.out _ _ ((Since.alloc hc1 _)) (fun hHeld => ?_)
          clear hK K
          try simp only [Act.put, List.getElem_toArray, List.getElem_cons_succ, List.getElem_cons_zero, List.setIfInBounds_toArray, List.set_cons_zero, List.set_cons_succ]
          refine wpAnyH_ready (rs := [13]) (by kernel_rfl) (by simp) ?_
          refine AllReadyH.cons rfl (fun K hK => ?_) AllReadyH.nil
          go_simp
          have hg1 : wA.heap.size ≤ wc1.heap.size + 1 := by have := Since.size_ hc1; omega
          have hne : wc1.heap.size ≠ wc1.heap.size + 1 := by omega
          refine hK.out _ _ ((Since.alloc (Since.alloc hc1 (.cells #[.int .i64 0, .int .i64 0] 145)) _)) (fun hHeld => ?_)
          clear hK K
          try simp only [Act.put, List.getElem_toArray, List.getElem_cons_succ, List.getElem_cons_zero, List.setIfInBounds_toArray, List.set_cons_zero, List.set_cons_succ]
          refine wpAnyH_ready (rs := [14]) (by kernel_rfl) (by simp) ?_
          refine AllReadyH.cons rfl (fun K hK => ?_) AllReadyH.nil
          obtain ⟨wx, hwx⟩ : ∃ wx, wx = ((wc1.alloc (.cells #[.int .i64 0, .int .i64 0] 145)).alloc (.cells #[.int .i64 0, .int .i64 0] 145)) := ⟨_, rfl⟩
          have hsx : Since wA wx := by rw [hwx]; exact (Since.alloc (Since.alloc hc1 (.cells #[.int .i64 0, .int .i64 0] 145)) (.cells #[.int .i64 0, .int .i64 0] 145))
          have z0 : Whole wx (wc1.heap.size) 145 #[.int .i64 0, .int .i64 0] := by rw [hwx]; exact (Whole.alloc (Whole.new wc1 145 #[.int .i64 0, .int .i64 0]) (.cells #[.int .i64 0, .int .i64 0] 145))
          have z1 : Whole wx (wc1.heap.size + 1) 145 #[.int .i64 0, .int .i64 0] := by rw [hwx]; exact ((Whole.new (wc1.alloc (.cells #[.int .i64 0, .int .i64 0] 145)) 145 #[.int .i64 0, .int .i64 0]).at_ (by simp))
          rw [← hwx]
          clear hwx
          have hx : Whole _ (wc1.heap.size) 145 #[.int .i64 0, .int .i64 0] := z0
          have x0 := hx.cell 0
          have y0 := hx.frozen 0
          have x1 := hx.cell 1
          have y1 := hx.frozen 1
          go_simp
          clear hx x0 y0 x1 y1
          refine hK.out _ _ ((Since.set2 hsx hg0 _ _)) (fun hHeld => ?_)
          clear hK K
          try simp only [Act.put, List.getElem_toArray, List.getElem_cons_succ, List.getElem_cons_zero, List.setIfInBounds_toArray, List.set_cons_zero, List.set_cons_succ]
          refine wpAnyH_ready (rs := [15]) (by kernel_rfl) (by simp) ?_
          refine AllReadyH.cons rfl (fun K hK => ?_) AllReadyH.nil
          have hx : Whole _ (wc1.heap.size + 1) 145 #[.int .i64 0, .int .i64 0] := (Whole.far (Whole.far z1 (p := ⟨wc1.heap.size, 0, none⟩) (show wc1.heap.size + 1 ≠ wc1.heap.size by omega) (.int .i64 wa)) (p := ⟨wc1.heap.size, 1, none⟩) (show wc1.heap.size + 1 ≠ wc1.heap.size by omega) (.int .i64 wb))
          have x0 := hx.cell 0
          have y0 := hx.frozen 0
          have x1 := hx.cell 1
          have y1 := hx.frozen 1
          go_simp
          clear hx x0 y0 x1 y1
          refine hK.out _ _ ((Since.set2 (Since.set2 hsx hg0 (.int .i64 wa) (.int .i64 wb)) hg1 _ _)) (fun hHeld => ?_)
          clear hK K
          try simp only [Act.put, List.getElem_toArray, List.getElem_cons_succ, List.getElem_cons_zero, List.setIfInBounds_toArray, List.set_cons_zero, List.set_cons_succ]
          refine wpAnyH_done (by kernel_rfl) ?_ _
          go_wp2_with fail
          go_meet
          case rel => exact ⟨wc1.heap.size, wc1.heap.size + 1, rfl, rfl, (Whole.far (Whole.far (Whole.set2 z0 (.int .i64 wa) (.int .i64 wb)) (p := ⟨wc1.heap.size + 1, 0, none⟩) (show wc1.heap.size ≠ wc1.heap.size + 1 by omega) (.int .i64 ha)) (p := ⟨wc1.heap.size + 1, 1, none⟩) (show wc1.heap.size ≠ wc1.heap.size + 1 by omega) (.int .i64 hb)), (Whole.set2 (Whole.far (Whole.far z1 (p := ⟨wc1.heap.size, 0, none⟩) (show wc1.heap.size + 1 ≠ wc1.heap.size by omega) (.int .i64 wa)) (p := ⟨wc1.heap.size, 1, none⟩) (show wc1.heap.size + 1 ≠ wc1.heap.size by omega) (.int .i64 wb)) (.int .i64 ha) (.int .i64 hb)), ⟨by omega, by omega⟩, (Since.set2 (Since.set2 hsx hg0 (.int .i64 wa) (.int .i64 wb)) hg1 (.int .i64 ha) (.int .i64 hb))⟩
        · go_simp
          have hg1 : wA.heap.size ≤ wc1.heap.size := by have := Since.size_ hc1; omega
          refine hK.out _ _ ((Since.alloc hc1 _)) (fun hHeld => ?_)
          clear hK K
          try simp only [Act.put, List.getElem_toArray, List.getElem_cons_succ, List.getElem_cons_zero, List.setIfInBounds_toArray, List.set_cons_zero, List.set_cons_succ]
          refine wpAnyH_ready (rs := [12]) (by kernel_rfl) (by simp) ?_
          refine AllReadyH.cons rfl (fun K hK => ?_) AllReadyH.nil
          go_simp
          have hg0 : wA.heap.size ≤ wc1.heap.size + 1 := by have := Since.size_ hc1; omega
          have hne : wc1.heap.size ≠ wc1.heap.size + 1 := by omega
          refine hK.out _ _ ((Since.alloc (Since.alloc hc1 (.cells #[.int .i64 0, .int .i64 0] 145)) _)) (fun hHeld => ?_)
          clear hK K
          try simp only [Act.put, List.getElem_toArray, List.getElem_cons_succ, List.getElem_cons_zero, List.setIfInBounds_toArray, List.set_cons_zero, List.set_cons_succ]
          refine wpAnyH_ready (rs := [14]) (by kernel_rfl) (by simp) ?_
          refine AllReadyH.cons rfl (fun K hK => ?_) AllReadyH.nil
          obtain ⟨wx, hwx⟩ : ∃ wx, wx = ((wc1.alloc (.cells #[.int .i64 0, .int .i64 0] 145)).alloc (.cells #[.int .i64 0, .int .i64 0] 145)) := ⟨_, rfl⟩
          have hsx : Since wA wx := by rw [hwx]; exact (Since.alloc (Since.alloc hc1 (.cells #[.int .i64 0, .int .i64 0] 145)) (.cells #[.int .i64 0, .int .i64 0] 145))
          have z0 : Whole wx (wc1.heap.size + 1) 145 #[.int .i64 0, .int .i64 0] := by rw [hwx]; exact ((Whole.new (wc1.alloc (.cells #[.int .i64 0, .int .i64 0] 145)) 145 #[.int .i64 0, .int .i64 0]).at_ (by simp))
          have z1 : Whole wx (wc1.heap.size) 145 #[.int .i64 0, .int .i64 0] := by rw [hwx]; exact (Whole.alloc (Whole.new wc1 145 #[.int .i64 0, .int .i64 0]) (.cells #[.int .i64 0, .int .i64 0] 145))
          rw [← hwx]
          clear hwx
          have hx : Whole _ (wc1.heap.size + 1) 145 #[.int .i64 0, .int .i64 0] := z0
          have x0 := hx.cell 0
          have y0 := hx.frozen 0
          have x1 := hx.cell 1
          have y1 := hx.frozen 1
          go_simp
          clear hx x0 y0 x1 y1
          refine hK.out _ _ ((Since.set2 hsx hg0 _ _)) (fun hHeld => ?_)
          clear hK K
          try simp only [Act.put, List.getElem_toArray, List.getElem_cons_succ, List.getElem_cons_zero, List.setIfInBounds_toArray, List.set_cons_zero, List.set_cons_succ]
          refine wpAnyH_ready (rs := [15]) (by kernel_rfl) (by simp) ?_
          refine AllReadyH.cons rfl (fun K hK => ?_) AllReadyH.nil
          have hx : Whole _ (wc1.heap.size) 145 #[.int .i64 0, .int .i64 0] := (Whole.far (Whole.far z1 (p := ⟨wc1.heap.size + 1, 0, none⟩) (show wc1.heap.size ≠ wc1.heap.size + 1 by omega) (.int .i64 wa)) (p := ⟨wc1.heap.size + 1, 1, none⟩) (show wc1.heap.size ≠ wc1.heap.size + 1 by omega) (.int .i64 wb))
          have x0 := hx.cell 0
          have y0 := hx.frozen 0
          have x1 := hx.cell 1
          have y1 := hx.frozen 1
          go_simp
          clear hx x0 y0 x1 y1
          refine hK.out _ _ ((Since.set2 (Since.set2 hsx hg0 (.int .i64 wa) (.int .i64 wb)) hg1 _ _)) (fun hHeld => ?_)
          clear hK K
          try simp only [Act.put, List.getElem_toArray, List.getElem_cons_succ, List.getElem_cons_zero, List.setIfInBounds_toArray, List.set_cons_zero, List.set_cons_succ]
          refine wpAnyH_done (by kernel_rfl) ?_ _
          go_wp2_with fail
          go_meet
          case rel => exact ⟨wc1.heap.size + 1, wc1.heap.size, rfl, rfl, (Whole.far (Whole.far (Whole.set2 z0 (.int .i64 wa) (.int .i64 wb)) (p := ⟨wc1.heap.size, 0, none⟩) (show wc1.heap.size + 1 ≠ wc1.heap.size by omega) (.int .i64 ha)) (p := ⟨wc1.heap.size, 1, none⟩) (show wc1.heap.size + 1 ≠ wc1.heap.size by omega) (.int .i64 hb)), (Whole.set2 (Whole.far (Whole.far z1 (p := ⟨wc1.heap.size + 1, 0, none⟩) (show wc1.heap.size ≠ wc1.heap.size + 1 by omega) (.int .i64 wa)) (p := ⟨wc1.heap.size + 1, 1, none⟩) (show wc1.heap.size ≠ wc1.heap.size + 1 by omega) (.int .i64 wb)) (.int .i64 ha) (.int .i64 hb)), ⟨by omega, by omega⟩, (Since.set2 (Since.set2 hsx hg0 (.int .i64 wa) (.int .i64 wb)) hg1 (.int .i64 ha) (.int .i64 hb))⟩
      · go_simp
        have hg0 : wA.heap.size ≤ wc0.heap.size := by have := Since.size_ hc0; omega
        refine hK.out _ _ ((Since.alloc hc0 _)) (fun hHeld => ?_)
        clear hK K
        try simp only [Act.put, List.getElem_toArray, List.getElem_cons_succ, List.getElem_cons_zero, List.setIfInBounds_toArray, List.set_cons_zero, List.set_cons_succ]
        refine wpAnyH_ready (rs := [11, 13]) (by kernel_rfl) (by simp) ?_
        refine AllReadyH.cons rfl (fun K hK => ?_) (AllReadyH.cons rfl (fun K hK => ?_) AllReadyH.nil)
        · go_simp
          refine (HC1.out _).mono ?_
          rintro e wc1 ⟨rfl, hd1⟩
          have hc1 : Since wA wc1 := Since.trans (Since.alloc hc0 (.cells #[.int .i64 0, .int .i64 0] 145)) hd1
          have b0c1 : Whole wc1 (wc0.heap.size) 145 #[.int .i64 0, .int .i64 0] := Since.whole hd1 (Whole.new wc0 145 #[.int .i64 0, .int .i64 0])
          go_wp2_with fail
          refine hK.out _ _ (hc1) (fun hHeld => ?_)
          clear hK K
          try simp only [Act.put, List.getElem_toArray, List.getElem_cons_succ, List.getElem_cons_zero, List.setIfInBounds_toArray, List.set_cons_zero, List.set_cons_succ]
          refine wpAnyH_ready (rs := [13]) (by kernel_rfl) (by simp) ?_
          refine AllReadyH.cons rfl (fun K hK => ?_) AllReadyH.nil
          go_simp
          have hg1 : wA.heap.size ≤ wc1.heap.size := by have := Since.size_ hc1; omega
          have hne : wc0.heap.size ≠ wc1.heap.size := by have := Whole.lt b0c1; omega
          refine hK.out _ _ ((Since.alloc hc1 _)) (fun hHeld => ?_)
          clear hK K
          try simp only [Act.put, List.getElem_toArray, List.getElem_cons_succ, List.getElem_cons_zero, List.setIfInBounds_toArray, List.set_cons_zero, List.set_cons_succ]
          refine wpAnyH_ready (rs := [14]) (by kernel_rfl) (by simp) ?_
          refine AllReadyH.cons rfl (fun K hK => ?_) AllReadyH.nil
          obtain ⟨wx, hwx⟩ : ∃ wx, wx = (wc1.alloc (.cells #[.int .i64 0, .int .i64 0] 145)) := ⟨_, rfl⟩
          have hsx : Since wA wx := by rw [hwx]; exact (Since.alloc hc1 (.cells #[.int .i64 0, .int .i64 0] 145))
          have z0 : Whole wx (wc0.heap.size) 145 #[.int .i64 0, .int .i64 0] := by rw [hwx]; exact (Whole.alloc b0c1 (.cells #[.int .i64 0, .int .i64 0] 145))
          have z1 : Whole wx (wc1.heap.size) 145 #[.int .i64 0, .int .i64 0] := by rw [hwx]; exact (Whole.new wc1 145 #[.int .i64 0, .int .i64 0])
          rw [← hwx]
          clear hwx
          have hx : Whole _ (wc0.heap.size) 145 #[.int .i64 0, .int .i64 0] := z0
          have x0 := hx.cell 0
          have y0 := hx.frozen 0
          have x1 := hx.cell 1
          have y1 := hx.frozen 1
          go_simp
          clear hx x0 y0 x1 y1
          refine hK.out _ _ ((Since.set2 hsx hg0 _ _)) (fun hHeld => ?_)
          clear hK K
          try simp only [Act.put, List.getElem_toArray, List.getElem_cons_succ, List.getElem_cons_zero, List.setIfInBounds_toArray, List.set_cons_zero, List.set_cons_succ]
          refine wpAnyH_ready (rs := [15]) (by kernel_rfl) (by simp) ?_
          refine AllReadyH.cons rfl (fun K hK => ?_) AllReadyH.nil
          have hx : Whole _ (wc1.heap.size) 145 #[.int .i64 0, .int .i64 0] := (Whole.far (Whole.far z1 (p := ⟨wc0.heap.size, 0, none⟩) (show wc1.heap.size ≠ wc0.heap.size by omega) (.int .i64 wa)) (p := ⟨wc0.heap.size, 1, none⟩) (show wc1.heap.size ≠ wc0.heap.size by omega) (.int .i64 wb))
          have x0 := hx.cell 0
          have y0 := hx.frozen 0
          have x1 := hx.cell 1
          have y1 := hx.frozen 1
          go_simp
          clear hx x0 y0 x1 y1
          refine hK.out _ _ ((Since.set2 (Since.set2 hsx hg0 (.int .i64 wa) (.int .i64 wb)) hg1 _ _)) (fun hHeld => ?_)
          clear hK K
          try simp only [Act.put, List.getElem_toArray, List.getElem_cons_succ, List.getElem_cons_zero, List.setIfInBounds_toArray, List.set_cons_zero, List.set_cons_succ]
          refine wpAnyH_done (by kernel_rfl) ?_ _
          go_wp2_with fail
          go_meet
          case rel => exact ⟨wc0.heap.size, wc1.heap.size, rfl, rfl, (Whole.far (Whole.far (Whole.set2 z0 (.int .i64 wa) (.int .i64 wb)) (p := ⟨wc1.heap.size, 0, none⟩) (show wc0.heap.size ≠ wc1.heap.size by omega) (.int .i64 ha)) (p := ⟨wc1.heap.size, 1, none⟩) (show wc0.heap.size ≠ wc1.heap.size by omega) (.int .i64 hb)), (Whole.set2 (Whole.far (Whole.far z1 (p := ⟨wc0.heap.size, 0, none⟩) (show wc1.heap.size ≠ wc0.heap.size by omega) (.int .i64 wa)) (p := ⟨wc0.heap.size, 1, none⟩) (show wc1.heap.size ≠ wc0.heap.size by omega) (.int .i64 wb)) (.int .i64 ha) (.int .i64 hb)), ⟨by omega, by omega⟩, (Since.set2 (Since.set2 hsx hg0 (.int .i64 wa) (.int .i64 wb)) hg1 (.int .i64 ha) (.int .i64 hb))⟩
        · go_simp
          have hg1 : wA.heap.size ≤ wc0.heap.size + 1 := by have := Since.size_ hc0; omega
          have hne : wc0.heap.size ≠ wc0.heap.size + 1 := by omega
          refine hK.out _ _ ((Since.alloc (Since.alloc hc0 (.cells #[.int .i64 0, .int .i64 0] 145)) _)) (fun hHeld => ?_)
          clear hK K
          try simp only [Act.put, List.getElem_toArray, List.getElem_cons_succ, List.getElem_cons_zero, List.setIfInBounds_toArray, List.set_cons_zero, List.set_cons_succ]
          refine wpAnyH_ready (rs := [11]) (by kernel_rfl) (by simp) ?_
          refine AllReadyH.cons rfl (fun K hK => ?_) AllReadyH.nil
          go_simp
          refine (HC1.out _).mono ?_
          rintro e wc1 ⟨rfl, hd1⟩
          have hc1 : Since wA wc1 := Since.trans (Since.alloc (Since.alloc hc0 (.cells #[.int .i64 0, .int .i64 0] 145)) (.cells #[.int .i64 0, .int .i64 0] 145)) hd1
          have b0c1 : Whole wc1 (wc0.heap.size) 145 #[.int .i64 0, .int .i64 0] := Since.whole hd1 (Whole.alloc (Whole.new wc0 145 #[.int .i64 0, .int .i64 0]) (.cells #[.int .i64 0, .int .i64 0] 145))
          have b1c1 : Whole wc1 (wc0.heap.size + 1) 145 #[.int .i64 0, .int .i64 0] := Since.whole hd1 ((Whole.new (wc0.alloc (.cells #[.int .i64 0, .int .i64 0] 145)) 145 #[.int .i64 0, .int .i64 0]).at_ (by simp))
          go_wp2_with fail
          refine hK.out _ _ (hc1) (fun hHeld => ?_)
          clear hK K
          try simp only [Act.put, List.getElem_toArray, List.getElem_cons_succ, List.getElem_cons_zero, List.setIfInBounds_toArray, List.set_cons_zero, List.set_cons_succ]
          refine wpAnyH_ready (rs := [14]) (by kernel_rfl) (by simp) ?_
          refine AllReadyH.cons rfl (fun K hK => ?_) AllReadyH.nil
          obtain ⟨wx, hwx⟩ : ∃ wx, wx = wc1 := ⟨_, rfl⟩
          have hsx : Since wA wx := by rw [hwx]; exact hc1
          have z0 : Whole wx (wc0.heap.size) 145 #[.int .i64 0, .int .i64 0] := by rw [hwx]; exact b0c1
          have z1 : Whole wx (wc0.heap.size + 1) 145 #[.int .i64 0, .int .i64 0] := by rw [hwx]; exact b1c1
          rw [← hwx]
          clear hwx
          have hx : Whole _ (wc0.heap.size) 145 #[.int .i64 0, .int .i64 0] := z0
          have x0 := hx.cell 0
          have y0 := hx.frozen 0
          have x1 := hx.cell 1
          have y1 := hx.frozen 1
          go_simp
          clear hx x0 y0 x1 y1
          refine hK.out _ _ ((Since.set2 hsx hg0 _ _)) (fun hHeld => ?_)
          clear hK K
          try simp only [Act.put, List.getElem_toArray, List.getElem_cons_succ, List.getElem_cons_zero, List.setIfInBounds_toArray, List.set_cons_zero, List.set_cons_succ]
          refine wpAnyH_ready (rs := [15]) (by kernel_rfl) (by simp) ?_
          refine AllReadyH.cons rfl (fun K hK => ?_) AllReadyH.nil
          have hx : Whole _ (wc0.heap.size + 1) 145 #[.int .i64 0, .int .i64 0] := (Whole.far (Whole.far z1 (p := ⟨wc0.heap.size, 0, none⟩) (show wc0.heap.size + 1 ≠ wc0.heap.size by omega) (.int .i64 wa)) (p := ⟨wc0.heap.size, 1, none⟩) (show wc0.heap.size + 1 ≠ wc0.heap.size by omega) (.int .i64 wb))
          have x0 := hx.cell 0
          have y0 := hx.frozen 0
          have x1 := hx.cell 1
          have y1 := hx.frozen 1
          go_simp
          clear hx x0 y0 x1 y1
          refine hK.out _ _ ((Since.set2 (Since.set2 hsx hg0 (.int .i64 wa) (.int .i64 wb)) hg1 _ _)) (fun hHeld => ?_)
          clear hK K
          try simp only [Act.put, List.getElem_toArray, List.getElem_cons_succ, List.getElem_cons_zero, List.setIfInBounds_toArray, List.set_cons_zero, List.set_cons_succ]
          refine wpAnyH_done (by kernel_rfl) ?_ _
          go_wp2_with fail
          go_meet
          case rel => exact ⟨wc0.heap.size, wc0.heap.size + 1, rfl, rfl, (Whole.far (Whole.far (Whole.set2 z0 (.int .i64 wa) (.int .i64 wb)) (p := ⟨wc0.heap.size + 1, 0, none⟩) (show wc0.heap.size ≠ wc0.heap.size + 1 by omega) (.int .i64 ha)) (p := ⟨wc0.heap.size + 1, 1, none⟩) (show wc0.heap.size ≠ wc0.heap.size + 1 by omega) (.int .i64 hb)), (Whole.set2 (Whole.far (Whole.far z1 (p := ⟨wc0.heap.size, 0, none⟩) (show wc0.heap.size + 1 ≠ wc0.heap.size by omega) (.int .i64 wa)) (p := ⟨wc0.heap.size, 1, none⟩) (show wc0.heap.size + 1 ≠ wc0.heap.size by omega) (.int .i64 wb)) (.int .i64 ha) (.int .i64 hb)), ⟨by omega, by omega⟩, (Since.set2 (Since.set2 hsx hg0 (.int .i64 wa) (.int .i64 wb)) hg1 (.int .i64 ha) (.int .i64 hb))⟩
      · go_simp
        have hg1 : wA.heap.size ≤ wc0.heap.size := by have := Since.size_ hc0; omega
        refine hK.out _ _ ((Since.alloc hc0 _)) (fun hHeld => ?_)
        clear hK K
        try simp only [Act.put, List.getElem_toArray, List.getElem_cons_succ, List.getElem_cons_zero, List.setIfInBounds_toArray, List.set_cons_zero, List.set_cons_succ]
        refine wpAnyH_ready (rs := [11, 12]) (by kernel_rfl) (by simp) ?_
        refine AllReadyH.cons rfl (fun K hK => ?_) (AllReadyH.cons rfl (fun K hK => ?_) AllReadyH.nil)
        · go_simp
          refine (HC1.out _).mono ?_
          rintro e wc1 ⟨rfl, hd1⟩
          have hc1 : Since wA wc1 := Since.trans (Since.alloc hc0 (.cells #[.int .i64 0, .int .i64 0] 145)) hd1
          have b1c1 : Whole wc1 (wc0.heap.size) 145 #[.int .i64 0, .int .i64 0] := Since.whole hd1 (Whole.new wc0 145 #[.int .i64 0, .int .i64 0])
          go_wp2_with fail
          refine hK.out _ _ (hc1) (fun hHeld => ?_)
          clear hK K
          try simp only [Act.put, List.getElem_toArray, List.getElem_cons_succ, List.getElem_cons_zero, List.setIfInBounds_toArray, List.set_cons_zero, List.set_cons_succ]
          refine wpAnyH_ready (rs := [12]) (by kernel_rfl) (by simp) ?_
          refine AllReadyH.cons rfl (fun K hK => ?_) AllReadyH.nil
          go_simp
          have hg0 : wA.heap.size ≤ wc1.heap.size := by have := Since.size_ hc1; omega
          have hne : wc0.heap.size ≠ wc1.heap.size := by have := Whole.lt b1c1; omega
          refine hK.out _ _ ((Since.alloc hc1 _)) (fun hHeld => ?_)
          clear hK K
          try simp only [Act.put, List.getElem_toArray, List.getElem_cons_succ, List.getElem_cons_zero, List.setIfInBounds_toArray, List.set_cons_zero, List.set_cons_succ]
          refine wpAnyH_ready (rs := [14]) (by kernel_rfl) (by simp) ?_
          refine AllReadyH.cons rfl (fun K hK => ?_) AllReadyH.nil
          obtain ⟨wx, hwx⟩ : ∃ wx, wx = (wc1.alloc (.cells #[.int .i64 0, .int .i64 0] 145)) := ⟨_, rfl⟩
          have hsx : Since wA wx := by rw [hwx]; exact (Since.alloc hc1 (.cells #[.int .i64 0, .int .i64 0] 145))
          have z0 : Whole wx (wc1.heap.size) 145 #[.int .i64 0, .int .i64 0] := by rw [hwx]; exact (Whole.new wc1 145 #[.int .i64 0, .int .i64 0])
          have z1 : Whole wx (wc0.heap.size) 145 #[.int .i64 0, .int .i64 0] := by rw [hwx]; exact (Whole.alloc b1c1 (.cells #[.int .i64 0, .int .i64 0] 145))
          rw [← hwx]
          clear hwx
          have hx : Whole _ (wc1.heap.size) 145 #[.int .i64 0, .int .i64 0] := z0
          have x0 := hx.cell 0
          have y0 := hx.frozen 0
          have x1 := hx.cell 1
          have y1 := hx.frozen 1
          go_simp
          clear hx x0 y0 x1 y1
          refine hK.out _ _ ((Since.set2 hsx hg0 _ _)) (fun hHeld => ?_)
          clear hK K
          try simp only [Act.put, List.getElem_toArray, List.getElem_cons_succ, List.getElem_cons_zero, List.setIfInBounds_toArray, List.set_cons_zero, List.set_cons_succ]
          refine wpAnyH_ready (rs := [15]) (by kernel_rfl) (by simp) ?_
          refine AllReadyH.cons rfl (fun K hK => ?_) AllReadyH.nil
          have hx : Whole _ (wc0.heap.size) 145 #[.int .i64 0, .int .i64 0] := (Whole.far (Whole.far z1 (p := ⟨wc1.heap.size, 0, none⟩) (show wc0.heap.size ≠ wc1.heap.size by omega) (.int .i64 wa)) (p := ⟨wc1.heap.size, 1, none⟩) (show wc0.heap.size ≠ wc1.heap.size by omega) (.int .i64 wb))
          have x0 := hx.cell 0
          have y0 := hx.frozen 0
          have x1 := hx.cell 1
          have y1 := hx.frozen 1
          go_simp
          clear hx x0 y0 x1 y1
          refine hK.out _ _ ((Since.set2 (Since.set2 hsx hg0 (.int .i64 wa) (.int .i64 wb)) hg1 _ _)) (fun hHeld => ?_)
          clear hK K
          try simp only [Act.put, List.getElem_toArray, List.getElem_cons_succ, List.getElem_cons_zero, List.setIfInBounds_toArray, List.set_cons_zero, List.set_cons_succ]
          refine wpAnyH_done (by kernel_rfl) ?_ _
          go_wp2_with fail
          go_meet
          case rel => exact ⟨wc1.heap.size, wc0.heap.size, rfl, rfl, (Whole.far (Whole.far (Whole.set2 z0 (.int .i64 wa) (.int .i64 wb)) (p := ⟨wc0.heap.size, 0, none⟩) (show wc1.heap.size ≠ wc0.heap.size by omega) (.int .i64 ha)) (p := ⟨wc0.heap.size, 1, none⟩) (show wc1.heap.size ≠ wc0.heap.size by omega) (.int .i64 hb)), (Whole.set2 (Whole.far (Whole.far z1 (p := ⟨wc1.heap.size, 0, none⟩) (show wc0.heap.size ≠ wc1.heap.size by omega) (.int .i64 wa)) (p := ⟨wc1.heap.size, 1, none⟩) (show wc0.heap.size ≠ wc1.heap.size by omega) (.int .i64 wb)) (.int .i64 ha) (.int .i64 hb)), ⟨by omega, by omega⟩, (Since.set2 (Since.set2 hsx hg0 (.int .i64 wa) (.int .i64 wb)) hg1 (.int .i64 ha) (.int .i64 hb))⟩
        · go_simp
          have hg0 : wA.heap.size ≤ wc0.heap.size + 1 := by have := Since.size_ hc0; omega
          have hne : wc0.heap.size ≠ wc0.heap.size + 1 := by omega
          refine hK.out _ _ ((Since.alloc (Since.alloc hc0 (.cells #[.int .i64 0, .int .i64 0] 145)) _)) (fun hHeld => ?_)
          clear hK K
          try simp only [Act.put, List.getElem_toArray, List.getElem_cons_succ, List.getElem_cons_zero, List.setIfInBounds_toArray, List.set_cons_zero, List.set_cons_succ]
          refine wpAnyH_ready (rs := [11]) (by kernel_rfl) (by simp) ?_
          refine AllReadyH.cons rfl (fun K hK => ?_) AllReadyH.nil
          go_simp
          refine (HC1.out _).mono ?_
          rintro e wc1 ⟨rfl, hd1⟩
          have hc1 : Since wA wc1 := Since.trans (Since.alloc (Since.alloc hc0 (.cells #[.int .i64 0, .int .i64 0] 145)) (.cells #[.int .i64 0, .int .i64 0] 145)) hd1
          have b0c1 : Whole wc1 (wc0.heap.size + 1) 145 #[.int .i64 0, .int .i64 0] := Since.whole hd1 ((Whole.new (wc0.alloc (.cells #[.int .i64 0, .int .i64 0] 145)) 145 #[.int .i64 0, .int .i64 0]).at_ (by simp))
          have b1c1 : Whole wc1 (wc0.heap.size) 145 #[.int .i64 0, .int .i64 0] := Since.whole hd1 (Whole.alloc (Whole.new wc0 145 #[.int .i64 0, .int .i64 0]) (.cells #[.int .i64 0, .int .i64 0] 145))
          go_wp2_with fail
          refine hK.out _ _ (hc1) (fun hHeld => ?_)
          clear hK K
          try simp only [Act.put, List.getElem_toArray, List.getElem_cons_succ, List.getElem_cons_zero, List.setIfInBounds_toArray, List.set_cons_zero, List.set_cons_succ]
          refine wpAnyH_ready (rs := [14]) (by kernel_rfl) (by simp) ?_
          refine AllReadyH.cons rfl (fun K hK => ?_) AllReadyH.nil
          obtain ⟨wx, hwx⟩ : ∃ wx, wx = wc1 := ⟨_, rfl⟩
          have hsx : Since wA wx := by rw [hwx]; exact hc1
          have z0 : Whole wx (wc0.heap.size + 1) 145 #[.int .i64 0, .int .i64 0] := by rw [hwx]; exact b0c1
          have z1 : Whole wx (wc0.heap.size) 145 #[.int .i64 0, .int .i64 0] := by rw [hwx]; exact b1c1
          rw [← hwx]
          clear hwx
          have hx : Whole _ (wc0.heap.size + 1) 145 #[.int .i64 0, .int .i64 0] := z0
          have x0 := hx.cell 0
          have y0 := hx.frozen 0
          have x1 := hx.cell 1
          have y1 := hx.frozen 1
          go_simp
          clear hx x0 y0 x1 y1
          refine hK.out _ _ ((Since.set2 hsx hg0 _ _)) (fun hHeld => ?_)
          clear hK K
          try simp only [Act.put, List.getElem_toArray, List.getElem_cons_succ, List.getElem_cons_zero, List.setIfInBounds_toArray, List.set_cons_zero, List.set_cons_succ]
          refine wpAnyH_ready (rs := [15]) (by kernel_rfl) (by simp) ?_
          refine AllReadyH.cons rfl (fun K hK => ?_) AllReadyH.nil
          have hx : Whole _ (wc0.heap.size) 145 #[.int .i64 0, .int .i64 0] := (Whole.far (Whole.far z1 (p := ⟨wc0.heap.size + 1, 0, none⟩) (show wc0.heap.size ≠ wc0.heap.size + 1 by omega) (.int .i64 wa)) (p := ⟨wc0.heap.size + 1, 1, none⟩) (show wc0.heap.size ≠ wc0.heap.size + 1 by omega) (.int .i64 wb))
          have x0 := hx.cell 0
          have y0 := hx.frozen 0
          have x1 := hx.cell 1
          have y1 := hx.frozen 1
          go_simp
          clear hx x0 y0 x1 y1
          refine hK.out _ _ ((Since.set2 (Since.set2 hsx hg0 (.int .i64 wa) (.int .i64 wb)) hg1 _ _)) (fun hHeld => ?_)
          clear hK K
          try simp only [Act.put, List.getElem_toArray, List.getElem_cons_succ, List.getElem_cons_zero, List.setIfInBounds_toArray, List.set_cons_zero, List.set_cons_succ]
          refine wpAnyH_done (by kernel_rfl) ?_ _
          go_wp2_with fail
          go_meet
          case rel => exact ⟨wc0.heap.size + 1, wc0.heap.size, rfl, rfl, (Whole.far (Whole.far (Whole.set2 z0 (.int .i64 wa) (.int .i64 wb)) (p := ⟨wc0.heap.size, 0, none⟩) (show wc0.heap.size + 1 ≠ wc0.heap.size by omega) (.int .i64 ha)) (p := ⟨wc0.heap.size, 1, none⟩) (show wc0.heap.size + 1 ≠ wc0.heap.size by omega) (.int .i64 hb)), (Whole.set2 (Whole.far (Whole.far z1 (p := ⟨wc0.heap.size + 1, 0, none⟩) (show wc0.heap.size ≠ wc0.heap.size + 1 by omega) (.int .i64 wa)) (p := ⟨wc0.heap.size + 1, 1, none⟩) (show wc0.heap.size ≠ wc0.heap.size + 1 by omega) (.int .i64 wb)) (.int .i64 ha) (.int .i64 hb)), ⟨by omega, by omega⟩, (Since.set2 (Since.set2 hsx hg0 (.int .i64 wa) (.int .i64 wb)) hg1 (.int .i64 ha) (.int .i64 hb))⟩
    · go_simp
      have hg0 : wA.heap.size ≤ wq.heap.size := by have := Since.size_ hq; omega
      refine hK.out _ _ ((Since.alloc hq _)) (fun hHeld => ?_)
      clear hK K
      try simp only [Act.put, List.getElem_toArray, List.getElem_cons_succ, List.getElem_cons_zero, List.setIfInBounds_toArray, List.set_cons_zero, List.set_cons_succ]
      refine wpAnyH_ready (rs := [5, 13]) (by kernel_rfl) (by simp) ?_
      refine AllReadyH.cons rfl (fun K hK => ?_) (AllReadyH.cons rfl (fun K hK => ?_) AllReadyH.nil)
      · go_simp
        refine (HC0.out _).mono ?_
        rintro e wc0 ⟨rfl, hd0⟩
        have hc0 : Since wA wc0 := Since.trans (Since.alloc hq (.cells #[.int .i64 0, .int .i64 0] 145)) hd0
        have b0c0 : Whole wc0 (wq.heap.size) 145 #[.int .i64 0, .int .i64 0] := Since.whole hd0 (Whole.new wq 145 #[.int .i64 0, .int .i64 0])
        go_wp2_with fail
        refine hK.out _ _ (hc0) (fun hHeld => ?_)
        clear hK K
        try simp only [Act.put, List.getElem_toArray, List.getElem_cons_succ, List.getElem_cons_zero, List.setIfInBounds_toArray, List.set_cons_zero, List.set_cons_succ]
        refine wpAnyH_ready (rs := [11, 13]) (by kernel_rfl) (by simp) ?_
        refine AllReadyH.cons rfl (fun K hK => ?_) (AllReadyH.cons rfl (fun K hK => ?_) AllReadyH.nil)
        · go_simp
          refine (HC1.out _).mono ?_
          rintro e wc1 ⟨rfl, hd1⟩
          have hc1 : Since wA wc1 := Since.trans hc0 hd1
          have b0c1 : Whole wc1 (wq.heap.size) 145 #[.int .i64 0, .int .i64 0] := Since.whole hd1 b0c0
          go_wp2_with fail
          refine hK.out _ _ (hc1) (fun hHeld => ?_)
          clear hK K
          try simp only [Act.put, List.getElem_toArray, List.getElem_cons_succ, List.getElem_cons_zero, List.setIfInBounds_toArray, List.set_cons_zero, List.set_cons_succ]
          refine wpAnyH_ready (rs := [13]) (by kernel_rfl) (by simp) ?_
          refine AllReadyH.cons rfl (fun K hK => ?_) AllReadyH.nil
          go_simp
          have hg1 : wA.heap.size ≤ wc1.heap.size := by have := Since.size_ hc1; omega
          have hne : wq.heap.size ≠ wc1.heap.size := by have := Whole.lt b0c1; omega
          refine hK.out _ _ ((Since.alloc hc1 _)) (fun hHeld => ?_)
          clear hK K
          try simp only [Act.put, List.getElem_toArray, List.getElem_cons_succ, List.getElem_cons_zero, List.setIfInBounds_toArray, List.set_cons_zero, List.set_cons_succ]
          refine wpAnyH_ready (rs := [14]) (by kernel_rfl) (by simp) ?_
          refine AllReadyH.cons rfl (fun K hK => ?_) AllReadyH.nil
          obtain ⟨wx, hwx⟩ : ∃ wx, wx = (wc1.alloc (.cells #[.int .i64 0, .int .i64 0] 145)) := ⟨_, rfl⟩
          have hsx : Since wA wx := by rw [hwx]; exact (Since.alloc hc1 (.cells #[.int .i64 0, .int .i64 0] 145))
          have z0 : Whole wx (wq.heap.size) 145 #[.int .i64 0, .int .i64 0] := by rw [hwx]; exact (Whole.alloc b0c1 (.cells #[.int .i64 0, .int .i64 0] 145))
          have z1 : Whole wx (wc1.heap.size) 145 #[.int .i64 0, .int .i64 0] := by rw [hwx]; exact (Whole.new wc1 145 #[.int .i64 0, .int .i64 0])
          rw [← hwx]
          clear hwx
          have hx : Whole _ (wq.heap.size) 145 #[.int .i64 0, .int .i64 0] := z0
          have x0 := hx.cell 0
          have y0 := hx.frozen 0
          have x1 := hx.cell 1
          have y1 := hx.frozen 1
          go_simp
          clear hx x0 y0 x1 y1
          refine hK.out _ _ ((Since.set2 hsx hg0 _ _)) (fun hHeld => ?_)
          clear hK K
          try simp only [Act.put, List.getElem_toArray, List.getElem_cons_succ, List.getElem_cons_zero, List.setIfInBounds_toArray, List.set_cons_zero, List.set_cons_succ]
          refine wpAnyH_ready (rs := [15]) (by kernel_rfl) (by simp) ?_
          refine AllReadyH.cons rfl (fun K hK => ?_) AllReadyH.nil
          have hx : Whole _ (wc1.heap.size) 145 #[.int .i64 0, .int .i64 0] := (Whole.far (Whole.far z1 (p := ⟨wq.heap.size, 0, none⟩) (show wc1.heap.size ≠ wq.heap.size by omega) (.int .i64 wa)) (p := ⟨wq.heap.size, 1, none⟩) (show wc1.heap.size ≠ wq.heap.size by omega) (.int .i64 wb))
          have x0 := hx.cell 0
          have y0 := hx.frozen 0
          have x1 := hx.cell 1
          have y1 := hx.frozen 1
          go_simp
          clear hx x0 y0 x1 y1
          refine hK.out _ _ ((Since.set2 (Since.set2 hsx hg0 (.int .i64 wa) (.int .i64 wb)) hg1 _ _)) (fun hHeld => ?_)
          clear hK K
          try simp only [Act.put, List.getElem_toArray, List.getElem_cons_succ, List.getElem_cons_zero, List.setIfInBounds_toArray, List.set_cons_zero, List.set_cons_succ]
          refine wpAnyH_done (by kernel_rfl) ?_ _
          go_wp2_with fail
          go_meet
          case rel => exact ⟨wq.heap.size, wc1.heap.size, rfl, rfl, (Whole.far (Whole.far (Whole.set2 z0 (.int .i64 wa) (.int .i64 wb)) (p := ⟨wc1.heap.size, 0, none⟩) (show wq.heap.size ≠ wc1.heap.size by omega) (.int .i64 ha)) (p := ⟨wc1.heap.size, 1, none⟩) (show wq.heap.size ≠ wc1.heap.size by omega) (.int .i64 hb)), (Whole.set2 (Whole.far (Whole.far z1 (p := ⟨wq.heap.size, 0, none⟩) (show wc1.heap.size ≠ wq.heap.size by omega) (.int .i64 wa)) (p := ⟨wq.heap.size, 1, none⟩) (show wc1.heap.size ≠ wq.heap.size by omega) (.int .i64 wb)) (.int .i64 ha) (.int .i64 hb)), ⟨by omega, by omega⟩, (Since.set2 (Since.set2 hsx hg0 (.int .i64 wa) (.int .i64 wb)) hg1 (.int .i64 ha) (.int .i64 hb))⟩
        · go_simp
          have hg1 : wA.heap.size ≤ wc0.heap.size := by have := Since.size_ hc0; omega
          have hne : wq.heap.size ≠ wc0.heap.size := by have := Whole.lt b0c0; omega
          refine hK.out _ _ ((Since.alloc hc0 _)) (fun hHeld => ?_)
          clear hK K
          try simp only [Act.put, List.getElem_toArray, List.getElem_cons_succ, List.getElem_cons_zero, List.setIfInBounds_toArray, List.set_cons_zero, List.set_cons_succ]
          refine wpAnyH_ready (rs := [11]) (by kernel_rfl) (by simp) ?_
          refine AllReadyH.cons rfl (fun K hK => ?_) AllReadyH.nil
          go_simp
          refine (HC1.out _).mono ?_
          rintro e wc1 ⟨rfl, hd1⟩
          have hc1 : Since wA wc1 := Since.trans (Since.alloc hc0 (.cells #[.int .i64 0, .int .i64 0] 145)) hd1
          have b0c1 : Whole wc1 (wq.heap.size) 145 #[.int .i64 0, .int .i64 0] := Since.whole hd1 (Whole.alloc b0c0 (.cells #[.int .i64 0, .int .i64 0] 145))
          have b1c1 : Whole wc1 (wc0.heap.size) 145 #[.int .i64 0, .int .i64 0] := Since.whole hd1 (Whole.new wc0 145 #[.int .i64 0, .int .i64 0])
          go_wp2_with fail
          refine hK.out _ _ (hc1) (fun hHeld => ?_)
          clear hK K
          try simp only [Act.put, List.getElem_toArray, List.getElem_cons_succ, List.getElem_cons_zero, List.setIfInBounds_toArray, List.set_cons_zero, List.set_cons_succ]
          refine wpAnyH_ready (rs := [14]) (by kernel_rfl) (by simp) ?_
          refine AllReadyH.cons rfl (fun K hK => ?_) AllReadyH.nil
          obtain ⟨wx, hwx⟩ : ∃ wx, wx = wc1 := ⟨_, rfl⟩
          have hsx : Since wA wx := by rw [hwx]; exact hc1
          have z0 : Whole wx (wq.heap.size) 145 #[.int .i64 0, .int .i64 0] := by rw [hwx]; exact b0c1
          have z1 : Whole wx (wc0.heap.size) 145 #[.int .i64 0, .int .i64 0] := by rw [hwx]; exact b1c1
          rw [← hwx]
          clear hwx
          have hx : Whole _ (wq.heap.size) 145 #[.int .i64 0, .int .i64 0] := z0
          have x0 := hx.cell 0
          have y0 := hx.frozen 0
          have x1 := hx.cell 1
          have y1 := hx.frozen 1
          go_simp
          clear hx x0 y0 x1 y1
          refine hK.out _ _ ((Since.set2 hsx hg0 _ _)) (fun hHeld => ?_)
          clear hK K
          try simp only [Act.put, List.getElem_toArray, List.getElem_cons_succ, List.getElem_cons_zero, List.setIfInBounds_toArray, List.set_cons_zero, List.set_cons_succ]
          refine wpAnyH_ready (rs := [15]) (by kernel_rfl) (by simp) ?_
          refine AllReadyH.cons rfl (fun K hK => ?_) AllReadyH.nil
          have hx : Whole _ (wc0.heap.size) 145 #[.int .i64 0, .int .i64 0] := (Whole.far (Whole.far z1 (p := ⟨wq.heap.size, 0, none⟩) (show wc0.heap.size ≠ wq.heap.size by omega) (.int .i64 wa)) (p := ⟨wq.heap.size, 1, none⟩) (show wc0.heap.size ≠ wq.heap.size by omega) (.int .i64 wb))
          have x0 := hx.cell 0
          have y0 := hx.frozen 0
          have x1 := hx.cell 1
          have y1 := hx.frozen 1
          go_simp
          clear hx x0 y0 x1 y1
          refine hK.out _ _ ((Since.set2 (Since.set2 hsx hg0 (.int .i64 wa) (.int .i64 wb)) hg1 _ _)) (fun hHeld => ?_)
          clear hK K
          try simp only [Act.put, List.getElem_toArray, List.getElem_cons_succ, List.getElem_cons_zero, List.setIfInBounds_toArray, List.set_cons_zero, List.set_cons_succ]
          refine wpAnyH_done (by kernel_rfl) ?_ _
          go_wp2_with fail
          go_meet
          case rel => exact ⟨wq.heap.size, wc0.heap.size, rfl, rfl, (Whole.far (Whole.far (Whole.set2 z0 (.int .i64 wa) (.int .i64 wb)) (p := ⟨wc0.heap.size, 0, none⟩) (show wq.heap.size ≠ wc0.heap.size by omega) (.int .i64 ha)) (p := ⟨wc0.heap.size, 1, none⟩) (show wq.heap.size ≠ wc0.heap.size by omega) (.int .i64 hb)), (Whole.set2 (Whole.far (Whole.far z1 (p := ⟨wq.heap.size, 0, none⟩) (show wc0.heap.size ≠ wq.heap.size by omega) (.int .i64 wa)) (p := ⟨wq.heap.size, 1, none⟩) (show wc0.heap.size ≠ wq.heap.size by omega) (.int .i64 wb)) (.int .i64 ha) (.int .i64 hb)), ⟨by omega, by omega⟩, (Since.set2 (Since.set2 hsx hg0 (.int .i64 wa) (.int .i64 wb)) hg1 (.int .i64 ha) (.int .i64 hb))⟩
      · go_simp
        have hg1 : wA.heap.size ≤ wq.heap.size + 1 := by have := Since.size_ hq; omega
        have hne : wq.heap.size ≠ wq.heap.size + 1 := by omega
        refine hK.out _ _ ((Since.alloc (Since.alloc hq (.cells #[.int .i64 0, .int .i64 0] 145)) _)) (fun hHeld => ?_)
        clear hK K
        try simp only [Act.put, List.getElem_toArray, List.getElem_cons_succ, List.getElem_cons_zero, List.setIfInBounds_toArray, List.set_cons_zero, List.set_cons_succ]
        refine wpAnyH_ready (rs := [5]) (by kernel_rfl) (by simp) ?_
        refine AllReadyH.cons rfl (fun K hK => ?_) AllReadyH.nil
        go_simp
        refine (HC0.out _).mono ?_
        rintro e wc0 ⟨rfl, hd0⟩
        have hc0 : Since wA wc0 := Since.trans (Since.alloc (Since.alloc hq (.cells #[.int .i64 0, .int .i64 0] 145)) (.cells #[.int .i64 0, .int .i64 0] 145)) hd0
        have b0c0 : Whole wc0 (wq.heap.size) 145 #[.int .i64 0, .int .i64 0] := Since.whole hd0 (Whole.alloc (Whole.new wq 145 #[.int .i64 0, .int .i64 0]) (.cells #[.int .i64 0, .int .i64 0] 145))
        have b1c0 : Whole wc0 (wq.heap.size + 1) 145 #[.int .i64 0, .int .i64 0] := Since.whole hd0 ((Whole.new (wq.alloc (.cells #[.int .i64 0, .int .i64 0] 145)) 145 #[.int .i64 0, .int .i64 0]).at_ (by simp))
        go_wp2_with fail
        refine hK.out _ _ (hc0) (fun hHeld => ?_)
        clear hK K
        try simp only [Act.put, List.getElem_toArray, List.getElem_cons_succ, List.getElem_cons_zero, List.setIfInBounds_toArray, List.set_cons_zero, List.set_cons_succ]
        refine wpAnyH_ready (rs := [11]) (by kernel_rfl) (by simp) ?_
        refine AllReadyH.cons rfl (fun K hK => ?_) AllReadyH.nil
        go_simp
        refine (HC1.out _).mono ?_
        rintro e wc1 ⟨rfl, hd1⟩
        have hc1 : Since wA wc1 := Since.trans hc0 hd1
        have b0c1 : Whole wc1 (wq.heap.size) 145 #[.int .i64 0, .int .i64 0] := Since.whole hd1 b0c0
        have b1c1 : Whole wc1 (wq.heap.size + 1) 145 #[.int .i64 0, .int .i64 0] := Since.whole hd1 b1c0
        go_wp2_with fail
        refine hK.out _ _ (hc1) (fun hHeld => ?_)
        clear hK K
        try simp only [Act.put, List.getElem_toArray, List.getElem_cons_succ, List.getElem_cons_zero, List.setIfInBounds_toArray, List.set_cons_zero, List.set_cons_succ]
        refine wpAnyH_ready (rs := [14]) (by kernel_rfl) (by simp) ?_
        refine AllReadyH.cons rfl (fun K hK => ?_) AllReadyH.nil
        obtain ⟨wx, hwx⟩ : ∃ wx, wx = wc1 := ⟨_, rfl⟩
        have hsx : Since wA wx := by rw [hwx]; exact hc1
        have z0 : Whole wx (wq.heap.size) 145 #[.int .i64 0, .int .i64 0] := by rw [hwx]; exact b0c1
        have z1 : Whole wx (wq.heap.size + 1) 145 #[.int .i64 0, .int .i64 0] := by rw [hwx]; exact b1c1
        rw [← hwx]
        clear hwx
        have hx : Whole _ (wq.heap.size) 145 #[.int .i64 0, .int .i64 0] := z0
        have x0 := hx.cell 0
        have y0 := hx.frozen 0
        have x1 := hx.cell 1
        have y1 := hx.frozen 1
        go_simp
        clear hx x0 y0 x1 y1
        refine hK.out _ _ ((Since.set2 hsx hg0 _ _)) (fun hHeld => ?_)
        clear hK K
        try simp only [Act.put, List.getElem_toArray, List.getElem_cons_succ, List.getElem_cons_zero, List.setIfInBounds_toArray, List.set_cons_zero, List.set_cons_succ]
        refine wpAnyH_ready (rs := [15]) (by kernel_rfl) (by simp) ?_
        refine AllReadyH.cons rfl (fun K hK => ?_) AllReadyH.nil
        have hx : Whole _ (wq.heap.size + 1) 145 #[.int .i64 0, .int .i64 0] := (Whole.far (Whole.far z1 (p := ⟨wq.heap.size, 0, none⟩) (show wq.heap.size + 1 ≠ wq.heap.size by omega) (.int .i64 wa)) (p := ⟨wq.heap.size, 1, none⟩) (show wq.heap.size + 1 ≠ wq.heap.size by omega) (.int .i64 wb))
        have x0 := hx.cell 0
        have y0 := hx.frozen 0
        have x1 := hx.cell 1
        have y1 := hx.frozen 1
        go_simp
        clear hx x0 y0 x1 y1
        refine hK.out _ _ ((Since.set2 (Since.set2 hsx hg0 (.int .i64 wa) (.int .i64 wb)) hg1 _ _)) (fun hHeld => ?_)
        clear hK K
        try simp only [Act.put, List.getElem_toArray, List.getElem_cons_succ, List.getElem_cons_zero, List.setIfInBounds_toArray, List.set_cons_zero, List.set_cons_succ]
        refine wpAnyH_done (by kernel_rfl) ?_ _
        go_wp2_with fail
        go_meet
        case rel => exact ⟨wq.heap.size, wq.heap.size + 1, rfl, rfl, (Whole.far (Whole.far (Whole.set2 z0 (.int .i64 wa) (.int .i64 wb)) (p := ⟨wq.heap.size + 1, 0, none⟩) (show wq.heap.size ≠ wq.heap.size + 1 by omega) (.int .i64 ha)) (p := ⟨wq.heap.size + 1, 1, none⟩) (show wq.heap.size ≠ wq.heap.size + 1 by omega) (.int .i64 hb)), (Whole.set2 (Whole.far (Whole.far z1 (p := ⟨wq.heap.size, 0, none⟩) (show wq.heap.size + 1 ≠ wq.heap.size by omega) (.int .i64 wa)) (p := ⟨wq.heap.size, 1, none⟩) (show wq.heap.size + 1 ≠ wq.heap.size by omega) (.int .i64 wb)) (.int .i64 ha) (.int .i64 hb)), ⟨by omega, by omega⟩, (Since.set2 (Since.set2 hsx hg0 (.int .i64 wa) (.int .i64 wb)) hg1 (.int .i64 ha) (.int .i64 hb))⟩
    · go_simp
      have hg1 : wA.heap.size ≤ wq.heap.size := by have := Since.size_ hq; omega
      refine hK.out _ _ ((Since.alloc hq _)) (fun hHeld => ?_)
      clear hK K
      try simp only [Act.put, List.getElem_toArray, List.getElem_cons_succ, List.getElem_cons_zero, List.setIfInBounds_toArray, List.set_cons_zero, List.set_cons_succ]
      refine wpAnyH_ready (rs := [5, 12]) (by kernel_rfl) (by simp) ?_
      refine AllReadyH.cons rfl (fun K hK => ?_) (AllReadyH.cons rfl (fun K hK => ?_) AllReadyH.nil)
      · go_simp
        refine (HC0.out _).mono ?_
        rintro e wc0 ⟨rfl, hd0⟩
        have hc0 : Since wA wc0 := Since.trans (Since.alloc hq (.cells #[.int .i64 0, .int .i64 0] 145)) hd0
        have b1c0 : Whole wc0 (wq.heap.size) 145 #[.int .i64 0, .int .i64 0] := Since.whole hd0 (Whole.new wq 145 #[.int .i64 0, .int .i64 0])
        go_wp2_with fail
        refine hK.out _ _ (hc0) (fun hHeld => ?_)
        clear hK K
        try simp only [Act.put, List.getElem_toArray, List.getElem_cons_succ, List.getElem_cons_zero, List.setIfInBounds_toArray, List.set_cons_zero, List.set_cons_succ]
        refine wpAnyH_ready (rs := [11, 12]) (by kernel_rfl) (by simp) ?_
        refine AllReadyH.cons rfl (fun K hK => ?_) (AllReadyH.cons rfl (fun K hK => ?_) AllReadyH.nil)
        · go_simp
          refine (HC1.out _).mono ?_
          rintro e wc1 ⟨rfl, hd1⟩
          have hc1 : Since wA wc1 := Since.trans hc0 hd1
          have b1c1 : Whole wc1 (wq.heap.size) 145 #[.int .i64 0, .int .i64 0] := Since.whole hd1 b1c0
          go_wp2_with fail
          refine hK.out _ _ (hc1) (fun hHeld => ?_)
          clear hK K
          try simp only [Act.put, List.getElem_toArray, List.getElem_cons_succ, List.getElem_cons_zero, List.setIfInBounds_toArray, List.set_cons_zero, List.set_cons_succ]
          refine wpAnyH_ready (rs := [12]) (by kernel_rfl) (by simp) ?_
          refine AllReadyH.cons rfl (fun K hK => ?_) AllReadyH.nil
          go_simp
          have hg0 : wA.heap.size ≤ wc1.heap.size := by have := Since.size_ hc1; omega
          have hne : wq.heap.size ≠ wc1.heap.size := by have := Whole.lt b1c1; omega
          refine hK.out _ _ ((Since.alloc hc1 _)) (fun hHeld => ?_)
          clear hK K
          try simp only [Act.put, List.getElem_toArray, List.getElem_cons_succ, List.getElem_cons_zero, List.setIfInBounds_toArray, List.set_cons_zero, List.set_cons_succ]
          refine wpAnyH_ready (rs := [14]) (by kernel_rfl) (by simp) ?_
          refine AllReadyH.cons rfl (fun K hK => ?_) AllReadyH.nil
          obtain ⟨wx, hwx⟩ : ∃ wx, wx = (wc1.alloc (.cells #[.int .i64 0, .int .i64 0] 145)) := ⟨_, rfl⟩
          have hsx : Since wA wx := by rw [hwx]; exact (Since.alloc hc1 (.cells #[.int .i64 0, .int .i64 0] 145))
          have z0 : Whole wx (wc1.heap.size) 145 #[.int .i64 0, .int .i64 0] := by rw [hwx]; exact (Whole.new wc1 145 #[.int .i64 0, .int .i64 0])
          have z1 : Whole wx (wq.heap.size) 145 #[.int .i64 0, .int .i64 0] := by rw [hwx]; exact (Whole.alloc b1c1 (.cells #[.int .i64 0, .int .i64 0] 145))
          rw [← hwx]
          clear hwx
          have hx : Whole _ (wc1.heap.size) 145 #[.int .i64 0, .int .i64 0] := z0
          have x0 := hx.cell 0
          have y0 := hx.frozen 0
          have x1 := hx.cell 1
          have y1 := hx.frozen 1
          go_simp
          clear hx x0 y0 x1 y1
          refine hK.out _ _ ((Since.set2 hsx hg0 _ _)) (fun hHeld => ?_)
          clear hK K
          try simp only [Act.put, List.getElem_toArray, List.getElem_cons_succ, List.getElem_cons_zero, List.setIfInBounds_toArray, List.set_cons_zero, List.set_cons_succ]
          refine wpAnyH_ready (rs := [15]) (by kernel_rfl) (by simp) ?_
          refine AllReadyH.cons rfl (fun K hK => ?_) AllReadyH.nil
          have hx : Whole _ (wq.heap.size) 145 #[.int .i64 0, .int .i64 0] := (Whole.far (Whole.far z1 (p := ⟨wc1.heap.size, 0, none⟩) (show wq.heap.size ≠ wc1.heap.size by omega) (.int .i64 wa)) (p := ⟨wc1.heap.size, 1, none⟩) (show wq.heap.size ≠ wc1.heap.size by omega) (.int .i64 wb))
          have x0 := hx.cell 0
          have y0 := hx.frozen 0
          have x1 := hx.cell 1
          have y1 := hx.frozen 1
          go_simp
          clear hx x0 y0 x1 y1
          refine hK.out _ _ ((Since.set2 (Since.set2 hsx hg0 (.int .i64 wa) (.int .i64 wb)) hg1 _ _)) (fun hHeld => ?_)
          clear hK K
          try simp only [Act.put, List.getElem_toArray, List.getElem_cons_succ, List.getElem_cons_zero, List.setIfInBounds_toArray, List.set_cons_zero, List.set_cons_succ]
          refine wpAnyH_done (by kernel_rfl) ?_ _
          go_wp2_with fail
          go_meet
          case rel => exact ⟨wc1.heap.size, wq.heap.size, rfl, rfl, (Whole.far (Whole.far (Whole.set2 z0 (.int .i64 wa) (.int .i64 wb)) (p := ⟨wq.heap.size, 0, none⟩) (show wc1.heap.size ≠ wq.heap.size by omega) (.int .i64 ha)) (p := ⟨wq.heap.size, 1, none⟩) (show wc1.heap.size ≠ wq.heap.size by omega) (.int .i64 hb)), (Whole.set2 (Whole.far (Whole.far z1 (p := ⟨wc1.heap.size, 0, none⟩) (show wq.heap.size ≠ wc1.heap.size by omega) (.int .i64 wa)) (p := ⟨wc1.heap.size, 1, none⟩) (show wq.heap.size ≠ wc1.heap.size by omega) (.int .i64 wb)) (.int .i64 ha) (.int .i64 hb)), ⟨by omega, by omega⟩, (Since.set2 (Since.set2 hsx hg0 (.int .i64 wa) (.int .i64 wb)) hg1 (.int .i64 ha) (.int .i64 hb))⟩
        · go_simp
          have hg0 : wA.heap.size ≤ wc0.heap.size := by have := Since.size_ hc0; omega
          have hne : wq.heap.size ≠ wc0.heap.size := by have := Whole.lt b1c0; omega
          refine hK.out _ _ ((Since.alloc hc0 _)) (fun hHeld => ?_)
          clear hK K
          try simp only [Act.put, List.getElem_toArray, List.getElem_cons_succ, List.getElem_cons_zero, List.setIfInBounds_toArray, List.set_cons_zero, List.set_cons_succ]
          refine wpAnyH_ready (rs := [11]) (by kernel_rfl) (by simp) ?_
          refine AllReadyH.cons rfl (fun K hK => ?_) AllReadyH.nil
          go_simp
          refine (HC1.out _).mono ?_
          rintro e wc1 ⟨rfl, hd1⟩
          have hc1 : Since wA wc1 := Since.trans (Since.alloc hc0 (.cells #[.int .i64 0, .int .i64 0] 145)) hd1
          have b0c1 : Whole wc1 (wc0.heap.size) 145 #[.int .i64 0, .int .i64 0] := Since.whole hd1 (Whole.new wc0 145 #[.int .i64 0, .int .i64 0])
          have b1c1 : Whole wc1 (wq.heap.size) 145 #[.int .i64 0, .int .i64 0] := Since.whole hd1 (Whole.alloc b1c0 (.cells #[.int .i64 0, .int .i64 0] 145))
          go_wp2_with fail
          refine hK.out _ _ (hc1) (fun hHeld => ?_)
          clear hK K
          try simp only [Act.put, List.getElem_toArray, List.getElem_cons_succ, List.getElem_cons_zero, List.setIfInBounds_toArray, List.set_cons_zero, List.set_cons_succ]
          refine wpAnyH_ready (rs := [14]) (by kernel_rfl) (by simp) ?_
          refine AllReadyH.cons rfl (fun K hK => ?_) AllReadyH.nil
          obtain ⟨wx, hwx⟩ : ∃ wx, wx = wc1 := ⟨_, rfl⟩
          have hsx : Since wA wx := by rw [hwx]; exact hc1
          have z0 : Whole wx (wc0.heap.size) 145 #[.int .i64 0, .int .i64 0] := by rw [hwx]; exact b0c1
          have z1 : Whole wx (wq.heap.size) 145 #[.int .i64 0, .int .i64 0] := by rw [hwx]; exact b1c1
          rw [← hwx]
          clear hwx
          have hx : Whole _ (wc0.heap.size) 145 #[.int .i64 0, .int .i64 0] := z0
          have x0 := hx.cell 0
          have y0 := hx.frozen 0
          have x1 := hx.cell 1
          have y1 := hx.frozen 1
          go_simp
          clear hx x0 y0 x1 y1
          refine hK.out _ _ ((Since.set2 hsx hg0 _ _)) (fun hHeld => ?_)
          clear hK K
          try simp only [Act.put, List.getElem_toArray, List.getElem_cons_succ, List.getElem_cons_zero, List.setIfInBounds_toArray, List.set_cons_zero, List.set_cons_succ]
          refine wpAnyH_ready (rs := [15]) (by kernel_rfl) (by simp) ?_
          refine AllReadyH.cons rfl (fun K hK => ?_) AllReadyH.nil
          have hx : Whole _ (wq.heap.size) 145 #[.int .i64 0, .int .i64 0] := (Whole.far (Whole.far z1 (p := ⟨wc0.heap.size, 0, none⟩) (show wq.heap.size ≠ wc0.heap.size by omega) (.int .i64 wa)) (p := ⟨wc0.heap.size, 1, none⟩) (show wq.heap.size ≠ wc0.heap.size by omega) (.int .i64 wb))
          have x0 := hx.cell 0
          have y0 := hx.frozen 0
          have x1 := hx.cell 1
          have y1 := hx.frozen 1
          go_simp
          clear hx x0 y0 x1 y1
          refine hK.out _ _ ((Since.set2 (Since.set2 hsx hg0 (.int .i64 wa) (.int .i64 wb)) hg1 _ _)) (fun hHeld => ?_)
          clear hK K
          try simp only [Act.put, List.getElem_toArray, List.getElem_cons_succ, List.getElem_cons_zero, List.setIfInBounds_toArray, List.set_cons_zero, List.set_cons_succ]
          refine wpAnyH_done (by kernel_rfl) ?_ _
          go_wp2_with fail
          go_meet
          case rel => exact ⟨wc0.heap.size, wq.heap.size, rfl, rfl, (Whole.far (Whole.far (Whole.set2 z0 (.int .i64 wa) (.int .i64 wb)) (p := ⟨wq.heap.size, 0, none⟩) (show wc0.heap.size ≠ wq.heap.size by omega) (.int .i64 ha)) (p := ⟨wq.heap.size, 1, none⟩) (show wc0.heap.size ≠ wq.heap.size by omega) (.int .i64 hb)), (Whole.set2 (Whole.far (Whole.far z1 (p := ⟨wc0.heap.size, 0, none⟩) (show wq.heap.size ≠ wc0.heap.size by omega) (.int .i64 wa)) (p := ⟨wc0.heap.size, 1, none⟩) (show wq.heap.size ≠ wc0.heap.size by omega) (.int .i64 wb)) (.int .i64 ha) (.int .i64 hb)), ⟨by omega, by omega⟩, (Since.set2 (Since.set2 hsx hg0 (.int .i64 wa) (.int .i64 wb)) hg1 (.int .i64 ha) (.int .i64 hb))⟩
      · go_simp
        have hg0 : wA.heap.size ≤ wq.heap.size + 1 := by have := Since.size_ hq; omega
        have hne : wq.heap.size ≠ wq.heap.size + 1 := by omega
        refine hK.out _ _ ((Since.alloc (Since.alloc hq (.cells #[.int .i64 0, .int .i64 0] 145)) _)) (fun hHeld => ?_)
        clear hK K
        try simp only [Act.put, List.getElem_toArray, List.getElem_cons_succ, List.getElem_cons_zero, List.setIfInBounds_toArray, List.set_cons_zero, List.set_cons_succ]
        refine wpAnyH_ready (rs := [5]) (by kernel_rfl) (by simp) ?_
        refine AllReadyH.cons rfl (fun K hK => ?_) AllReadyH.nil
        go_simp
        refine (HC0.out _).mono ?_
        rintro e wc0 ⟨rfl, hd0⟩
        have hc0 : Since wA wc0 := Since.trans (Since.alloc (Since.alloc hq (.cells #[.int .i64 0, .int .i64 0] 145)) (.cells #[.int .i64 0, .int .i64 0] 145)) hd0
        have b0c0 : Whole wc0 (wq.heap.size + 1) 145 #[.int .i64 0, .int .i64 0] := Since.whole hd0 ((Whole.new (wq.alloc (.cells #[.int .i64 0, .int .i64 0] 145)) 145 #[.int .i64 0, .int .i64 0]).at_ (by simp))
        have b1c0 : Whole wc0 (wq.heap.size) 145 #[.int .i64 0, .int .i64 0] := Since.whole hd0 (Whole.alloc (Whole.new wq 145 #[.int .i64 0, .int .i64 0]) (.cells #[.int .i64 0, .int .i64 0] 145))
        go_wp2_with fail
        refine hK.out _ _ (hc0) (fun hHeld => ?_)
        clear hK K
        try simp only [Act.put, List.getElem_toArray, List.getElem_cons_succ, List.getElem_cons_zero, List.setIfInBounds_toArray, List.set_cons_zero, List.set_cons_succ]
        refine wpAnyH_ready (rs := [11]) (by kernel_rfl) (by simp) ?_
        refine AllReadyH.cons rfl (fun K hK => ?_) AllReadyH.nil
        go_simp
        refine (HC1.out _).mono ?_
        rintro e wc1 ⟨rfl, hd1⟩
        have hc1 : Since wA wc1 := Since.trans hc0 hd1
        have b0c1 : Whole wc1 (wq.heap.size + 1) 145 #[.int .i64 0, .int .i64 0] := Since.whole hd1 b0c0
        have b1c1 : Whole wc1 (wq.heap.size) 145 #[.int .i64 0, .int .i64 0] := Since.whole hd1 b1c0
        go_wp2_with fail
        refine hK.out _ _ (hc1) (fun hHeld => ?_)
        clear hK K
        try simp only [Act.put, List.getElem_toArray, List.getElem_cons_succ, List.getElem_cons_zero, List.setIfInBounds_toArray, List.set_cons_zero, List.set_cons_succ]
        refine wpAnyH_ready (rs := [14]) (by kernel_rfl) (by simp) ?_
        refine AllReadyH.cons rfl (fun K hK => ?_) AllReadyH.nil
        obtain ⟨wx, hwx⟩ : ∃ wx, wx = wc1 := ⟨_, rfl⟩
        have hsx : Since wA wx := by rw [hwx]; exact hc1
        have z0 : Whole wx (wq.heap.size + 1) 145 #[.int .i64 0, .int .i64 0] := by rw [hwx]; exact b0c1
        have z1 : Whole wx (wq.heap.size) 145 #[.int .i64 0, .int .i64 0] := by rw [hwx]; exact b1c1
        rw [← hwx]
        clear hwx
        have hx : Whole _ (wq.heap.size + 1) 145 #[.int .i64 0, .int .i64 0] := z0
        have x0 := hx.cell 0
        have y0 := hx.frozen 0
        have x1 := hx.cell 1
        have y1 := hx.frozen 1
        go_simp
        clear hx x0 y0 x1 y1
        refine hK.out _ _ ((Since.set2 hsx hg0 _ _)) (fun hHeld => ?_)
        clear hK K
        try simp only [Act.put, List.getElem_toArray, List.getElem_cons_succ, List.getElem_cons_zero, List.setIfInBounds_toArray, List.set_cons_zero, List.set_cons_succ]
        refine wpAnyH_ready (rs := [15]) (by kernel_rfl) (by simp) ?_
        refine AllReadyH.cons rfl (fun K hK => ?_) AllReadyH.nil
        have hx : Whole _ (wq.heap.size) 145 #[.int .i64 0, .int .i64 0] := (Whole.far (Whole.far z1 (p := ⟨wq.heap.size + 1, 0, none⟩) (show wq.heap.size ≠ wq.heap.size + 1 by omega) (.int .i64 wa)) (p := ⟨wq.heap.size + 1, 1, none⟩) (show wq.heap.size ≠ wq.heap.size + 1 by omega) (.int .i64 wb))
        have x0 := hx.cell 0
        have y0 := hx.frozen 0
        have x1 := hx.cell 1
        have y1 := hx.frozen 1
        go_simp
        clear hx x0 y0 x1 y1
        refine hK.out _ _ ((Since.set2 (Since.set2 hsx hg0 (.int .i64 wa) (.int .i64 wb)) hg1 _ _)) (fun hHeld => ?_)
        clear hK K
        try simp only [Act.put, List.getElem_toArray, List.getElem_cons_succ, List.getElem_cons_zero, List.setIfInBounds_toArray, List.set_cons_zero, List.set_cons_succ]
        refine wpAnyH_done (by kernel_rfl) ?_ _
        go_wp2_with fail
        go_meet
        case rel => exact ⟨wq.heap.size + 1, wq.heap.size, rfl, rfl, (Whole.far (Whole.far (Whole.set2 z0 (.int .i64 wa) (.int .i64 wb)) (p := ⟨wq.heap.size, 0, none⟩) (show wq.heap.size + 1 ≠ wq.heap.size by omega) (.int .i64 ha)) (p := ⟨wq.heap.size, 1, none⟩) (show wq.heap.size + 1 ≠ wq.heap.size by omega) (.int .i64 hb)), (Whole.set2 (Whole.far (Whole.far z1 (p := ⟨wq.heap.size + 1, 0, none⟩) (show wq.heap.size ≠ wq.heap.size + 1 by omega) (.int .i64 wa)) (p := ⟨wq.heap.size + 1, 1, none⟩) (show wq.heap.size ≠ wq.heap.size + 1 by omega) (.int .i64 wb)) (.int .i64 ha) (.int .i64 hb)), ⟨by omega, by omega⟩, (Since.set2 (Since.set2 hsx hg0 (.int .i64 wa) (.int .i64 wb)) hg1 (.int .i64 ha) (.int .i64 hb))⟩
  case rest =>
    obtain ⟨wz, hwz⟩ : ∃ w', w' = wc := ⟨_, rfl⟩
    rw [← hwz] at hcut ⊢
    clear hwz hsd
    obtain ⟨g2, g3, rfl, rfl, v2, v3, ⟨hg2, hg3⟩, hs5⟩ := hcut
    have hgz : g < wz.heap.size := Nat.lt_of_lt_of_le hgl hs5.size_
    have n2 : ¬ g2 = g := by omega
    have n3 : ¬ g3 = g := by omega
    have HX := Lib.hid (And.intro (off_cell (F := fun c => c = g) v2 n2 0 (.int .i64 wa) rfl) (And.intro (off_cell (F := fun c => c = g) v2 n2 1 (.int .i64 wb) rfl) (And.intro (off_cell (F := fun c => c = g) v3 n3 0 (.int .i64 ha) rfl) (off_cell (F := fun c => c = g) v3 n3 1 (.int .i64 hb) rfl))))
    have hst := Qs4.start (Since.whole hs5 HN.out)
    have HG := Lib.hid hg
    obtain ⟨hwa, hwb, hha, hhb⟩ := HB.out
    have HQ := Lib.hid (qtr_val hwa hwb hha hhb)
    have w1 : 0 ≤ wa ∧ wa ≤ 65536 ∧ 0 ≤ wb ∧ wb ≤ 65536 := by omega
    have w2 : 0 ≤ ha ∧ ha ≤ 65536 ∧ 0 ≤ hb ∧ hb ≤ 65536 := by omega
    have e1 : IntKind.i64.wrap b.x = b.x := IntWalk.i64_in _ (by omega)
    have e2 : IntKind.i64.wrap b.y = b.y := IntWalk.i64_in _ (by omega)
    have e3 : IntKind.i64.wrap wa = wa := IntWalk.i64_in _ (by omega)
    have e4 : IntKind.i64.wrap ha = ha := IntWalk.i64_in _ (by omega)
    have e5 : IntKind.i64.wrap (b.x + wa) = b.x + wa := IntWalk.i64_in _ (by omega)
    have e6 : IntKind.i64.wrap (b.y + ha) = b.y + ha := IntWalk.i64_in _ (by omega)
    have f1 : wrap64 b.x = b.x := IntWalk.wrap64_in _ ⟨by omega, by omega⟩
    have f2 : wrap64 b.y = b.y := IntWalk.wrap64_in _ ⟨by omega, by omega⟩
    have f3 : wrap64 wa = wa := IntWalk.wrap64_in _ ⟨by omega, by omega⟩
    have f4 : wrap64 ha = ha := IntWalk.wrap64_in _ ⟨by omega, by omega⟩
    have f5 : wrap64 (b.x + wa) = b.x + wa := IntWalk.wrap64_in _ ⟨by omega, by omega⟩
    have f6 : wrap64 (b.y + ha) = b.y + ha := IntWalk.wrap64_in _ ⟨by omega, by omega⟩
    have e7 : IntKind.i64.wrap 0 = 0 := rfl
    have e8 : IntKind.i64.wrap (b.x + 0) = b.x := by rw [Int.add_zero]; exact e1
    have e9 : IntKind.i64.wrap (b.y + 0) = b.y := by rw [Int.add_zero]; exact e2
    have HHS := Lib.hid (And.intro hs (And.intro hin (And.intro hl1 (And.intro hA (And.intro hN hl4)))))
    clear hwa hwb hha hhb hg b1 b2 b3 b4 b5 b6 w1 w2 v2 v3 hs hin hA hN k2 k3
    go_wp2_with fail
    go_loopw [22] (fun i wr => ∃ (m : Nat) (q : Nat → QN), i = .int .i64 m ∧ m ≤ 4 ∧ Qs4 wz g L.length b (.slice (some ⟨gv, 0, none⟩) L.length cap) q wr ∧ (∀ i, i < m → (q i).Ok (qtr b i) []) ∧ ∀ i, m ≤ i → q i = .nil) (fun i _ => 4 - (intOf i).toNat)
    case atStart => exact ⟨0, fun _ => .nil, rfl, Nat.zero_le _, hst, fun i hi => absurd hi (Nat.not_lt_zero _), fun _ _ => rfl⟩
    case round =>
      clear hst
      obtain ⟨m, q, hi, hm, h4, hok, hnil⟩ := hrel
      have HOK := Lib.hid (And.intro hok hnil)
      have a0 : ∀ W', Since wr W' → W'.cell? ⟨g, 0, none⟩ = some (.int .i64 b.x) := box_cell h4.w 0 _ rfl
      have a1 : ∀ W', Since wr W' → W'.cell? ⟨g, 1, none⟩ = some (.int .i64 b.y) := box_cell h4.w 1 _ rfl
      have x0 := fun W' (hW : Since wr W') => HX.out.1 W' (h4.off.since hW)
      have x1 := fun W' (hW : Since wr W') => HX.out.2.1 W' (h4.off.since hW)
      have y0 := fun W' (hW : Since wr W') => HX.out.2.2.1 W' (h4.off.since hW)
      have y1 := fun W' (hW : Since wr W') => HX.out.2.2.2 W' (h4.off.since hW)
      have H4 := Lib.hid h4
      clear h4 hok hnil
      by_cases hm4 : m < 4
      · rcases (show m = 0 ∨ m = 1 ∨ m = 2 ∨ m = 3 by omega) with rfl | rfl | rfl | rfl
        · replace hi : _ = Value.int .i64 0 := hi
          subst hi
          obtain ⟨A, hAA⟩ : ∃ A, areaR ⟨b.x, b.y, wa, ha⟩ = A := ⟨_, rfl⟩
          have hne := area_q HG.out (i := 0) (A := A) (by decide) (by rw [HQ.out.1]; exact hAA)
          have HA := Lib.hid hAA
          have hsd : Since wr wr.drew := (Since.refl wr).drew
          clear hAA
          cases hnr : neR (qtr b 0)
          · have HR := Lib.hid hnr
            rw [hnr] at hne
            clear hnr
            go_upto_region 5 with fail
            obtain ⟨wq, hwq⟩ : ∃ wq, wq = wr.drew := ⟨_, rfl⟩
            refine wp_region_held_drew (S := fun W => Since wr W) (by kernel_rfl) hsd (fun hHeld => ?_)
            rw [← hwq] at hHeld ⊢
            have hq : Since wr wq := hHeld
            clear hwq hsd
            refine wpAnyH_take (i := 0) (v := ?_) rfl (by kernel_rfl) (by kernel_rfl) (by kernel_rfl) (fun _ _ _ h => h) (Or.inl ⟨by rfl, ?_⟩) (by assumption) ?_
            rotate_left 1
            · (intro W hW; clear hW; go_simp; try with_reducible rfl)
            simp only [Act.put, List.getElem_toArray, List.getElem_cons_zero, List.setIfInBounds_toArray, List.set_cons_zero, List.set_cons_succ]
            refine wpAnyH_take (i := 1) (v := ?_) rfl (by kernel_rfl) (by kernel_rfl) (by kernel_rfl) (fun _ _ _ h => h) (Or.inl ⟨by rfl, ?_⟩) (by assumption) ?_
            rotate_left 1
            · (intro W hW; clear hW; go_simp; try with_reducible rfl)
            simp only [Act.put, List.getElem_toArray, List.getElem_cons_succ, List.getElem_cons_zero, List.setIfInBounds_toArray, List.set_cons_zero, List.set_cons_succ]
            refine wpAnyH_take (i := 2) (v := ?_) rfl (by kernel_rfl) (by kernel_rfl) (by kernel_rfl) (fun _ _ _ h => h) (Or.inl ⟨by rfl, ?_⟩) (by assumption) ?_
            rotate_left 1
            · (intro W hW; clear hW; go_simp; try with_reducible rfl)
            simp only [Act.put, List.getElem_toArray, List.getElem_cons_succ, List.getElem_cons_zero, List.setIfInBounds_toArray, List.set_cons_zero, List.set_cons_succ]
            refine wpAnyH_take (i := 3) (v := ?_) rfl (by kernel_rfl) (by kernel_rfl) (by kernel_rfl) (fun _ _ _ h => h) (Or.inl ⟨by rfl, ?_⟩) (by assumption) ?_
            rotate_left 1
            · (intro W hW; clear hW; go_simp; try with_reducible rfl)
            simp only [Act.put, List.getElem_toArray, List.getElem_cons_succ, List.getElem_cons_zero, List.setIfInBounds_toArray, List.set_cons_zero, List.set_cons_succ]
            refine wpAnyH_take (i := 4) (v := ?_) rfl (by kernel_rfl) (by kernel_rfl) (by kernel_rfl) (fun _ _ _ h => h) (Or.inl ⟨by rfl, ?_⟩) (by assumption) ?_
            rotate_left 1
            · (intro W hW; skip; go_simp; try with_reducible rfl)
            simp only [Act.put, List.getElem_toArray, List.getElem_cons_succ, List.getElem_cons_zero, List.setIfInBounds_toArray, List.set_cons_zero, List.set_cons_succ]
            refine wpAnyH_take (i := 5) (v := ?_) rfl (by kernel_rfl) (by kernel_rfl) (by kernel_rfl) (fun _ _ _ h => h) (Or.inl ⟨by rfl, ?_⟩) (by assumption) ?_
            rotate_left 1
            · (intro W hW; clear hW; go_simp; try with_reducible rfl)
            simp only [Act.put, List.getElem_toArray, List.getElem_cons_succ, List.getElem_cons_zero, List.setIfInBounds_toArray, List.set_cons_zero, List.set_cons_succ]
            refine wpAnyH_take (i := 6) (v := ?_) rfl (by kernel_rfl) (by kernel_rfl) (by kernel_rfl) (fun _ _ _ h => h) (Or.inl ⟨by rfl, ?_⟩) (by assumption) ?_
            rotate_left 1
            · (intro W hW; clear hW; go_simp; try with_reducible rfl)
            simp only [Act.put, List.getElem_toArray, List.getElem_cons_succ, List.getElem_cons_zero, List.setIfInBounds_toArray, List.set_cons_zero, List.set_cons_succ]
            refine wpAnyH_take (i := 7) (v := ?_) rfl (by kernel_rfl) (by kernel_rfl) (by kernel_rfl) (fun _ _ _ h => h) (Or.inl ⟨by rfl, ?_⟩) (by assumption) ?_
            rotate_left 1
            · (intro W hW; skip; go_simp; try with_reducible rfl)
            simp only [Act.put, List.getElem_toArray, List.getElem_cons_succ, List.getElem_cons_zero, List.setIfInBounds_toArray, List.set_cons_zero, List.set_cons_succ]
            refine wpAnyH_take (i := 8) (v := ?_) rfl (by kernel_rfl) (by kernel_rfl) (by kernel_rfl) (fun _ _ _ h => h) (Or.inl ⟨by rfl, ?_⟩) (by assumption) ?_
            rotate_left 1
            · (intro W hW; clear hW; go_simp; try with_reducible rfl)
            simp only [Act.put, List.getElem_toArray, List.getElem_cons_succ, List.getElem_cons_zero, List.setIfInBounds_toArray, List.set_cons_zero, List.set_cons_succ]
            refine wpAnyH_take (i := 9) (v := ?_) rfl (by kernel_rfl) (by kernel_rfl) (by kernel_rfl) (fun _ _ _ h => h) (Or.inl ⟨by rfl, ?_⟩) (by assumption) ?_
            rotate_left 1
            · (intro W hW; clear hW; go_simp; try with_reducible rfl)
            simp only [Act.put, List.getElem_toArray, List.getElem_cons_succ, List.getElem_cons_zero, List.setIfInBounds_toArray, List.set_cons_zero, List.set_cons_succ]
            refine wpAnyH_take (i := 10) (v := ?_) rfl (by kernel_rfl) (by kernel_rfl) (by kernel_rfl) (fun _ _ _ h => h) (Or.inl ⟨by rfl, ?_⟩) (by assumption) ?_
            rotate_left 1
            · (intro W hW; clear hW; go_simp; try with_reducible rfl)
            simp only [Act.put, List.getElem_toArray, List.getElem_cons_succ, List.getElem_cons_zero, List.setIfInBounds_toArray, List.set_cons_zero, List.set_cons_succ]
            refine wpAnyH_take (i := 11) (v := ?_) rfl (by kernel_rfl) (by kernel_rfl) (by kernel_rfl) (fun _ _ _ h => h) (Or.inl ⟨by rfl, ?_⟩) (by assumption) ?_
            rotate_left 1
            · (intro W hW; clear hW; go_simp; try with_reducible rfl)
            simp only [Act.put, List.getElem_toArray, List.getElem_cons_succ, List.getElem_cons_zero, List.setIfInBounds_toArray, List.set_cons_zero, List.set_cons_succ]
            refine wpAnyH_take (i := 12) (v := ?_) rfl (by kernel_rfl) (by kernel_rfl) (by kernel_rfl) (fun _ _ _ h => h) (Or.inl ⟨by rfl, ?_⟩) (by assumption) ?_
            rotate_left 1
            · (intro W hW; clear hW; go_simp; try with_reducible rfl)
            simp only [Act.put, List.getElem_toArray, List.getElem_cons_succ, List.getElem_cons_zero, List.setIfInBounds_toArray, List.set_cons_zero, List.set_cons_succ]
            refine wpAnyH_take (i := 13) (v := ?_) rfl (by kernel_rfl) (by kernel_rfl) (by kernel_rfl) (fun _ _ _ h => h) (Or.inl ⟨by rfl, ?_⟩) (by assumption) ?_
            rotate_left 1
            · (intro W hW; clear hW; go_simp; try with_reducible rfl)
            simp only [Act.put, List.getElem_toArray, List.getElem_cons_succ, List.getElem_cons_zero, List.setIfInBounds_toArray, List.set_cons_zero, List.set_cons_succ]
            refine wpAnyH_take (i := 14) (v := ?_) rfl (by kernel_rfl) (by kernel_rfl) (by kernel_rfl) (fun _ _ _ h => h) (Or.inl ⟨by rfl, ?_⟩) (by assumption) ?_
            rotate_left 1
            · (intro W hW; skip; go_simp; try with_reducible rfl)
            simp only [Act.put, List.getElem_toArray, List.getElem_cons_succ, List.getElem_cons_zero, List.setIfInBounds_toArray, List.set_cons_zero, List.set_cons_succ]
            refine wpAnyH_take (i := 15) (v := ?_) rfl (by kernel_rfl) (by kernel_rfl) (by kernel_rfl) (fun _ _ _ h => h) (Or.inl ⟨by rfl, ?_⟩) (by assumption) ?_
            rotate_left 1
            · (intro W hW; clear hW; go_simp; try with_reducible rfl)
            simp only [Act.put, List.getElem_toArray, List.getElem_cons_succ, List.getElem_cons_zero, List.setIfInBounds_toArray, List.set_cons_zero, List.set_cons_succ]
            refine wpAnyH_take (i := 16) (v := ?_) rfl (by kernel_rfl) (by kernel_rfl) (by kernel_rfl) (fun _ _ _ h => h) (Or.inl ⟨by rfl, ?_⟩) (by assumption) ?_
            rotate_left 1
            · (intro W hW; clear hW; go_simp; try with_reducible rfl)
            simp only [Act.put, List.getElem_toArray, List.getElem_cons_succ, List.getElem_cons_zero, List.setIfInBounds_toArray, List.set_cons_zero, List.set_cons_succ]
            refine wpAnyH_take (i := 17) (v := ?_) rfl (by kernel_rfl) (by kernel_rfl) (by kernel_rfl) (fun _ _ _ h => h) (Or.inl ⟨by rfl, ?_⟩) (by assumption) ?_
            rotate_left 1
            · (intro W hW; skip; go_simp; try with_reducible rfl)
            simp only [Act.put, List.getElem_toArray, List.getElem_cons_succ, List.getElem_cons_zero, List.setIfInBounds_toArray, List.set_cons_zero, List.set_cons_succ]
            refine wpAnyH_take (i := 18) (v := ?_) rfl (by kernel_rfl) (by kernel_rfl) (by kernel_rfl) (fun _ _ _ h => h) (Or.inl ⟨by rfl, ?_⟩) (by assumption) ?_
            rotate_left 1
            · (intro W hW; clear hW; go_simp; try with_reducible rfl)
            simp only [Act.put, List.getElem_toArray, List.getElem_cons_succ, List.getElem_cons_zero, List.setIfInBounds_toArray, List.set_cons_zero, List.set_cons_succ]
            refine wpAnyH_take (i := 19) (v := ?_) rfl (by kernel_rfl) (by kernel_rfl) (by kernel_rfl) (fun _ _ _ h => h) (Or.inl ⟨by rfl, ?_⟩) (by assumption) ?_
            rotate_left 1
            · (intro W hW; clear hW; go_simp; try with_reducible rfl)
            simp only [Act.put, List.getElem_toArray, List.getElem_cons_succ, List.getElem_cons_zero, List.setIfInBounds_toArray, List.set_cons_zero, List.set_cons_succ]
            refine wpAnyH_take (i := 20) (v := ?_) rfl (by kernel_rfl) (by kernel_rfl) (by kernel_rfl) (fun _ _ _ h => h) (Or.inl ⟨by rfl, ?_⟩) (by assumption) ?_
            rotate_left 1
            · (intro W hW; clear hW; go_simp; try with_reducible rfl)
            simp only [Act.put, List.getElem_toArray, List.getElem_cons_succ, List.getElem_cons_zero, List.setIfInBounds_toArray, List.set_cons_zero, List.set_cons_succ]
            refine wpAnyH_take (i := 21) (v := ?_) rfl (by kernel_rfl) (by kernel_rfl) (by kernel_rfl) (fun _ _ _ h => h) (Or.inl ⟨by rfl, ?_⟩) (by assumption) ?_
            rotate_left 1
            · (intro W hW; clear hW; go_simp; try with_reducible rfl)
            simp only [Act.put, List.getElem_toArray, List.getElem_cons_succ, List.getElem_cons_zero, List.setIfInBounds_toArray, List.set_cons_zero, List.set_cons_succ]
            refine wpAnyH_take (i := 22) (v := ?_) rfl (by kernel_rfl) (by kernel_rfl) (by kernel_rfl) (fun _ _ _ h => h) (Or.inl ⟨by rfl, ?_⟩) (by assumption) ?_
            rotate_left 1
            · (intro W hW; skip; go_simp; try with_reducible rfl)
            simp only [Act.put, List.getElem_toArray, List.getElem_cons_succ, List.getElem_cons_zero, List.setIfInBounds_toArray, List.set_cons_zero, List.set_cons_succ]
            refine wpAnyH_take (i := 23) (v := ?_) rfl (by kernel_rfl) (by kernel_rfl) (by kernel_rfl) (fun _ _ _ h => h) (Or.inl ⟨by rfl, ?_⟩) (by assumption) ?_
            rotate_left 1
            · (intro W hW; clear hW; go_simp; try with_reducible rfl)
            simp only [Act.put, List.getElem_toArray, List.getElem_cons_succ, List.getElem_cons_zero, List.setIfInBounds_toArray, List.set_cons_zero, List.set_cons_succ]
            refine wpAnyH_take (i := 24) (v := ?_) rfl (by kernel_rfl) (by kernel_rfl) (by kernel_rfl) (fun _ _ _ h => h) (Or.inl ⟨by rfl, ?_⟩) (by assumption) ?_
            rotate_left 1
            · (intro W hW; clear hW; go_simp; try with_reducible rfl)
            simp only [Act.put, List.getElem_toArray, List.getElem_cons_succ, List.getElem_cons_zero, List.setIfInBounds_toArray, List.set_cons_zero, List.set_cons_succ]
            refine wpAnyH_take (i := 25) (v := ?_) rfl (by kernel_rfl) (by kernel_rfl) (by kernel_rfl) (fun _ _ _ h => h) (Or.inl ⟨by rfl, ?_⟩) (by assumption) ?_
            rotate_left 1
            · (intro W hW; skip; go_simp; try with_reducible rfl)
            simp only [Act.put, List.getElem_toArray, List.getElem_cons_succ, List.getElem_cons_zero, List.setIfInBounds_toArray, List.set_cons_zero, List.set_cons_succ]
            refine wpAnyH_take (i := 26) (v := ?_) rfl (by kernel_rfl) (by kernel_rfl) (by kernel_rfl) (fun _ _ _ h => h) (Or.inl ⟨by rfl, ?_⟩) (by assumption) ?_
            rotate_left 1
            · (intro W hW; clear hW; go_simp; try with_reducible rfl)
            simp only [Act.put, List.getElem_toArray, List.getElem_cons_succ, List.getElem_cons_zero, List.setIfInBounds_toArray, List.set_cons_zero, List.set_cons_succ]
            refine wpAnyH_ready (rs := [27]) (by kernel_rfl) (by simp) ?_
            refine AllReadyH.cons rfl (fun K hK => ?_) AllReadyH.nil
            go_simp
            have hgb : wr.heap.size ≤ wq.heap.size := Since.size_ hq
            refine hK.out _ _ ((Since.alloc hq _)) (fun hHeld => ?_)
            clear hK K
            try simp only [Act.put, List.getElem_toArray, List.getElem_cons_succ, List.getElem_cons_zero, List.setIfInBounds_toArray, List.set_cons_zero, List.set_cons_succ]
            refine wpAnyH_ready (rs := [28]) (by kernel_rfl) (by simp) ?_
            refine AllReadyH.cons rfl (fun K hK => ?_) AllReadyH.nil
            go_simp
            skip
            refine hK.out _ _ ((Since.alloc hq _)) (fun hHeld => ?_)
            clear hK K
            try simp only [Act.put, List.getElem_toArray, List.getElem_cons_succ, List.getElem_cons_zero, List.setIfInBounds_toArray, List.set_cons_zero, List.set_cons_succ]
            refine wpAnyH_done (by kernel_rfl) ?_ _
            obtain ⟨w5, hw5⟩ : ∃ w5, w5 = wq.alloc (.cells #[.int .i64 (b.x), .int .i64 (b.y), .int .i64 wa, .int .i64 ha] 63) := ⟨_, rfl⟩
            have hS5 : Since wr w5 := Since.named (Since.alloc hq _) hw5
            have hSl : Since wq w5 := Since.named (Since.alloc (Since.refl _) _) hw5
            have hN5 : Whole w5 wq.heap.size 63 #[.int .i64 (b.x), .int .i64 (b.y), .int .i64 wa, .int .i64 ha] := (Whole.new wq _ _).named hw5
            obtain ⟨NB, hNB⟩ : ∃ NB, NB = wq.heap.size := ⟨_, rfl⟩
            rw [← hw5, ← hNB]
            rw [← hNB] at hN5
            clear hHeld hw5 hNB
            have hne5 : ¬ NB = g := fun e => by subst e; have z := (Since.whole hS5 H4.out.w).symm.trans hN5; injection z with z; injection z with z1 z2; exact absurd z2 (by decide)
            have r0 := off_cell (F := fun c => c = g) hN5 hne5 0 (.int .i64 (b.x)) rfl
            have r1 := off_cell (F := fun c => c = g) hN5 hne5 1 (.int .i64 (b.y)) rfl
            have r2 := off_cell (F := fun c => c = g) hN5 hne5 2 (.int .i64 (wa)) rfl
            have r3 := off_cell (F := fun c => c = g) hN5 hne5 3 (.int .i64 (ha)) rfl
            have hsr := Off.refl (fun c => c = g) w5
            clear a0 a1 x0 x1 y0 y1
            go_wp2_with (go_at_call 86; (with_reducible refine (wArea_at HA.out _).mono ?_); rintro e w6 ⟨rfl, hb6⟩)
            have hs6 : Since wr w6 := Since.trans hS5 hb6
            go_roundw
            case rel => exact ⟨1, q, rfl, by omega, H4.out.since hs6, (ok_next_nil HOK.out.1 HOK.out.2 HR.out).1, (ok_next_nil HOK.out.1 HOK.out.2 HR.out).2⟩
            case measure => simp [intOf]
          · have HR := Lib.hid hnr
            rw [hnr] at hne
            clear hnr
            go_upto_region 5 with fail
            obtain ⟨wq, hwq⟩ : ∃ wq, wq = wr.drew := ⟨_, rfl⟩
            refine wp_region_held_drew (S := fun W => Since wr W) (by kernel_rfl) hsd (fun hHeld => ?_)
            rw [← hwq] at hHeld ⊢
            have hq : Since wr wq := hHeld
            clear hwq hsd
            refine wpAnyH_take (i := 0) (v := ?_) rfl (by kernel_rfl) (by kernel_rfl) (by kernel_rfl) (fun _ _ _ h => h) (Or.inl ⟨by rfl, ?_⟩) (by assumption) ?_
            rotate_left 1
            · (intro W hW; clear hW; go_simp; try with_reducible rfl)
            simp only [Act.put, List.getElem_toArray, List.getElem_cons_zero, List.setIfInBounds_toArray, List.set_cons_zero, List.set_cons_succ]
            refine wpAnyH_take (i := 1) (v := ?_) rfl (by kernel_rfl) (by kernel_rfl) (by kernel_rfl) (fun _ _ _ h => h) (Or.inl ⟨by rfl, ?_⟩) (by assumption) ?_
            rotate_left 1
            · (intro W hW; clear hW; go_simp; try with_reducible rfl)
            simp only [Act.put, List.getElem_toArray, List.getElem_cons_succ, List.getElem_cons_zero, List.setIfInBounds_toArray, List.set_cons_zero, List.set_cons_succ]
            refine wpAnyH_take (i := 2) (v := ?_) rfl (by kernel_rfl) (by kernel_rfl) (by kernel_rfl) (fun _ _ _ h => h) (Or.inl ⟨by rfl, ?_⟩) (by assumption) ?_
            rotate_left 1
            · (intro W hW; clear hW; go_simp; try with_reducible rfl)
            simp only [Act.put, List.getElem_toArray, List.getElem_cons_succ, List.getElem_cons_zero, List.setIfInBounds_toArray, List.set_cons_zero, List.set_cons_succ]
            refine wpAnyH_take (i := 3) (v := ?_) rfl (by kernel_rfl) (by kernel_rfl) (by kernel_rfl) (fun _ _ _ h => h) (Or.inl ⟨by rfl, ?_⟩) (by assumption) ?_
            rotate_left 1
            · (intro W hW; clear hW; go_simp; try with_reducible rfl)
            simp only [Act.put, List.getElem_toArray, List.getElem_cons_succ, List.getElem_cons_zero, List.setIfInBounds_toArray, List.set_cons_zero, List.set_cons_succ]
            refine wpAnyH_take (i := 4) (v := ?_) rfl (by kernel_rfl) (by kernel_rfl) (by kernel_rfl) (fun _ _ _ h => h) (Or.inl ⟨by rfl, ?_⟩) (by assumption) ?_
            rotate_left 1
            · (intro W hW; skip; go_simp; try with_reducible rfl)
            simp only [Act.put, List.getElem_toArray, List.getElem_cons_succ, List.getElem_cons_zero, List.setIfInBounds_toArray, List.set_cons_zero, List.set_cons_succ]
            refine wpAnyH_take (i := 5) (v := ?_) rfl (by kernel_rfl) (by kernel_rfl) (by kernel_rfl) (fun _ _ _ h => h) (Or.inl ⟨by rfl, ?_⟩) (by assumption) ?_
            rotate_left 1
            · (intro W hW; clear hW; go_simp; try with_reducible rfl)
            simp only [Act.put, List.getElem_toArray, List.getElem_cons_succ, List.getElem_cons_zero, List.setIfInBounds_toArray, List.set_cons_zero, List.set_cons_succ]
            refine wpAnyH_take (i := 6) (v := ?_) rfl (by kernel_rfl) (by kernel_rfl) (by kernel_rfl) (fun _ _ _ h => h) (Or.inl ⟨by rfl, ?_⟩) (by assumption) ?_
            rotate_left 1
            · (intro W hW; clear hW; go_simp; try with_reducible rfl)
            simp only [Act.put, List.getElem_toArray, List.getElem_cons_succ, List.getElem_cons_zero, List.setIfInBounds_toArray, List.set_cons_zero, List.set_cons_succ]
            refine wpAnyH_take (i := 7) (v := ?_) rfl (by kernel_rfl) (by kernel_rfl) (by kernel_rfl) (fun _ _ _ h => h) (Or.inl ⟨by rfl, ?_⟩) (by assumption) ?_
            rotate_left 1
            · (intro W hW; skip; go_simp; try with_reducible rfl)
            simp only [Act.put, List.getElem_toArray, List.getElem_cons_succ, List.getElem_cons_zero, List.setIfInBounds_toArray, List.set_cons_zero, List.set_cons_succ]
            refine wpAnyH_take (i := 8) (v := ?_) rfl (by kernel_rfl) (by kernel_rfl) (by kernel_rfl) (fun _ _ _ h => h) (Or.inl ⟨by rfl, ?_⟩) (by assumption) ?_
            rotate_left 1
            · (intro W hW; clear hW; go_simp; try with_reducible rfl)
            simp only [Act.put, List.getElem_toArray, List.getElem_cons_succ, List.getElem_cons_zero, List.setIfInBounds_toArray, List.set_cons_zero, List.set_cons_succ]
            refine wpAnyH_take (i := 9) (v := ?_) rfl (by kernel_rfl) (by kernel_rfl) (by kernel_rfl) (fun _ _ _ h => h) (Or.inl ⟨by rfl, ?_⟩) (by assumption) ?_
            rotate_left 1
            · (intro W hW; clear hW; go_simp; try with_reducible rfl)
            simp only [Act.put, List.getElem_toArray, List.getElem_cons_succ, List.getElem_cons_zero, List.setIfInBounds_toArray, List.set_cons_zero, List.set_cons_succ]
            refine wpAnyH_take (i := 10) (v := ?_) rfl (by kernel_rfl) (by kernel_rfl) (by kernel_rfl) (fun _ _ _ h => h) (Or.inl ⟨by rfl, ?_⟩) (by assumption) ?_
            rotate_left 1
            · (intro W hW; clear hW; go_simp; try with_reducible rfl)
            simp only [Act.put, List.getElem_toArray, List.getElem_cons_succ, List.getElem_cons_zero, List.setIfInBounds_toArray, List.set_cons_zero, List.set_cons_succ]
            refine wpAnyH_take (i := 11) (v := ?_) rfl (by kernel_rfl) (by kernel_rfl) (by kernel_rfl) (fun _ _ _ h => h) (Or.inl ⟨by rfl, ?_⟩) (by assumption) ?_
            rotate_left 1
            · (intro W hW; clear hW; go_simp; try with_reducible rfl)
            simp only [Act.put, List.getElem_toArray, List.getElem_cons_succ, List.getElem_cons_zero, List.setIfInBounds_toArray, List.set_cons_zero, List.set_cons_succ]
            refine wpAnyH_take (i := 12) (v := ?_) rfl (by kernel_rfl) (by kernel_rfl) (by kernel_rfl) (fun _ _ _ h => h) (Or.inl ⟨by rfl, ?_⟩) (by assumption) ?_
            rotate_left 1
            · (intro W hW; clear hW; go_simp; try with_reducible rfl)
            simp only [Act.put, List.getElem_toArray, List.getElem_cons_succ, List.getElem_cons_zero, List.setIfInBounds_toArray, List.set_cons_zero, List.set_cons_succ]
            refine wpAnyH_take (i := 13) (v := ?_) rfl (by kernel_rfl) (by kernel_rfl) (by kernel_rfl) (fun _ _ _ h => h) (Or.inl ⟨by rfl, ?_⟩) (by assumption) ?_
            rotate_left 1
            · (intro W hW; clear hW; go_simp; try with_reducible rfl)
            simp only [Act.put, List.getElem_toArray, List.getElem_cons_succ, List.getElem_cons_zero, List.setIfInBounds_toArray, List.set_cons_zero, List.set_cons_succ]
            refine wpAnyH_take (i := 14) (v := ?_) rfl (by kernel_rfl) (by kernel_rfl) (by kernel_rfl) (fun _ _ _ h => h) (Or.inl ⟨by rfl, ?_⟩) (by assumption) ?_
            rotate_left 1
            · (intro W hW; skip; go_simp; try with_reducible rfl)
            simp only [Act.put, List.getElem_toArray, List.getElem_cons_succ, List.getElem_cons_zero, List.setIfInBounds_toArray, List.set_cons_zero, List.set_cons_succ]
            refine wpAnyH_take (i := 15) (v := ?_) rfl (by kernel_rfl) (by kernel_rfl) (by kernel_rfl) (fun _ _ _ h => h) (Or.inl ⟨by rfl, ?_⟩) (by assumption) ?_
            rotate_left 1
            · (intro W hW; clear hW; go_simp; try with_reducible rfl)
            simp only [Act.put, List.getElem_toArray, List.getElem_cons_succ, List.getElem_cons_zero, List.setIfInBounds_toArray, List.set_cons_zero, List.set_cons_succ]
            refine wpAnyH_take (i := 16) (v := ?_) rfl (by kernel_rfl) (by kernel_rfl) (by kernel_rfl) (fun _ _ _ h => h) (Or.inl ⟨by rfl, ?_⟩) (by assumption) ?_
            rotate_left 1
            · (intro W hW; clear hW; go_simp; try with_reducible rfl)
            simp only [Act.put, List.getElem_toArray, List.getElem_cons_succ, List.getElem_cons_zero, List.setIfInBounds_toArray, List.set_cons_zero, List.set_cons_succ]
            refine wpAnyH_take (i := 17) (v := ?_) rfl (by kernel_rfl) (by kernel_rfl) (by kernel_rfl) (fun _ _ _ h => h) (Or.inl ⟨by rfl, ?_⟩) (by assumption) ?_
            rotate_left 1
            · (intro W hW; skip; go_simp; try with_reducible rfl)
            simp only [Act.put, List.getElem_toArray, List.getElem_cons_succ, List.getElem_cons_zero, List.setIfInBounds_toArray, List.set_cons_zero, List.set_cons_succ]
            refine wpAnyH_take (i := 18) (v := ?_) rfl (by kernel_rfl) (by kernel_rfl) (by kernel_rfl) (fun _ _ _ h => h) (Or.inl ⟨by rfl, ?_⟩) (by assumption) ?_
            rotate_left 1
            · (intro W hW; clear hW; go_simp; try with_reducible rfl)
            simp only [Act.put, List.getElem_toArray, List.getElem_cons_succ, List.getElem_cons_zero, List.setIfInBounds_toArray, List.set_cons_zero, List.set_cons_succ]
            refine wpAnyH_take (i := 19) (v := ?_) rfl (by kernel_rfl) (by kernel_rfl) (by kernel_rfl) (fun _ _ _ h => h) (Or.inl ⟨by rfl, ?_⟩) (by assumption) ?_
            rotate_left 1
            · (intro W hW; clear hW; go_simp; try with_reducible rfl)
            simp only [Act.put, List.getElem_toArray, List.getElem_cons_succ, List.getElem_cons_zero, List.setIfInBounds_toArray, List.set_cons_zero, List.set_cons_succ]
            refine wpAnyH_take (i := 20) (v := ?_) rfl (by kernel_rfl) (by kernel_rfl) (by kernel_rfl) (fun _ _ _ h => h) (Or.inl ⟨by rfl, ?_⟩) (by assumption) ?_
            rotate_left 1
            · (intro W hW; clear hW; go_simp; try with_reducible rfl)
            simp only [Act.put, List.getElem_toArray, List.getElem_cons_succ, List.getElem_cons_zero, List.setIfInBounds_toArray, List.set_cons_zero, List.set_cons_succ]
            refine wpAnyH_take (i := 21) (v := ?_) rfl (by kernel_rfl) (by kernel_rfl) (by kernel_rfl) (fun _ _ _ h => h) (Or.inl ⟨by rfl, ?_⟩) (by assumption) ?_
            rotate_left 1
            · (intro W hW; clear hW; go_simp; try with_reducible rfl)
            simp only [Act.put, List.getElem_toArray, List.getElem_cons_succ, List.getElem_cons_zero, List.setIfInBounds_toArray, List.set_cons_zero, List.set_cons_succ]
            refine wpAnyH_take (i := 22) (v := ?_) rfl (by kernel_rfl) (by kernel_rfl) (by kernel_rfl) (fun _ _ _ h => h) (Or.inl ⟨by rfl, ?_⟩) (by assumption) ?_
            rotate_left 1
            · (intro W hW; skip; go_simp; try with_reducible rfl)
            simp only [Act.put, List.getElem_toArray, List.getElem_cons_succ, List.getElem_cons_zero, List.setIfInBounds_toArray, List.set_cons_zero, List.set_cons_succ]
            refine wpAnyH_take (i := 23) (v := ?_) rfl (by kernel_rfl) (by kernel_rfl) (by kernel_rfl) (fun _ _ _ h => h) (Or.inl ⟨by rfl, ?_⟩) (by assumption) ?_
            rotate_left 1
            · (intro W hW; clear hW; go_simp; try with_reducible rfl)
            simp only [Act.put, List.getElem_toArray, List.getElem_cons_succ, List.getElem_cons_zero, List.setIfInBounds_toArray, List.set_cons_zero, List.set_cons_succ]
            refine wpAnyH_take (i := 24) (v := ?_) rfl (by kernel_rfl) (by kernel_rfl) (by kernel_rfl) (fun _ _ _ h => h) (Or.inl ⟨by rfl, ?_⟩) (by assumption) ?_
            rotate_left 1
            · (intro W hW; clear hW; go_simp; try with_reducible rfl)
            simp only [Act.put, List.getElem_toArray, List.getElem_cons_succ, List.getElem_cons_zero, List.setIfInBounds_toArray, List.set_cons_zero, List.set_cons_succ]
            refine wpAnyH_take (i := 25) (v := ?_) rfl (by kernel_rfl) (by kernel_rfl) (by kernel_rfl) (fun _ _ _ h => h) (Or.inl ⟨by rfl, ?_⟩) (by assumption) ?_
            rotate_left 1
            · (intro W hW; skip; go_simp; try with_reducible rfl)
            simp only [Act.put, List.getElem_toArray, List.getElem_cons_succ, List.getElem_cons_zero, List.setIfInBounds_toArray, List.set_cons_zero, List.set_cons_succ]
            refine wpAnyH_take (i := 26) (v := ?_) rfl (by kernel_rfl) (by kernel_rfl) (by kernel_rfl) (fun _ _ _ h => h) (Or.inl ⟨by rfl, ?_⟩) (by assumption) ?_
            rotate_left 1
            · (intro W hW; clear hW; go_simp; try with_reducible rfl)
            simp only [Act.put, List.getElem_toArray, List.getElem_cons_succ, List.getElem_cons_zero, List.setIfInBounds_toArray, List.set_cons_zero, List.set_cons_succ]
            refine wpAnyH_ready (rs := [27]) (by kernel_rfl) (by simp) ?_
            refine AllReadyH.cons rfl (fun K hK => ?_) AllReadyH.nil
            go_simp
            have hgb : wr.heap.size ≤ wq.heap.size := Since.size_ hq
            refine hK.out _ _ ((Since.alloc hq _)) (fun hHeld => ?_)
            clear hK K
            try simp only [Act.put, List.getElem_toArray, List.getElem_cons_succ, List.getElem_cons_zero, List.setIfInBounds_toArray, List.set_cons_zero, List.set_cons_succ]
            refine wpAnyH_ready (rs := [28]) (by kernel_rfl) (by simp) ?_
            refine AllReadyH.cons rfl (fun K hK => ?_) AllReadyH.nil
            go_simp
            skip
            refine hK.out _ _ ((Since.alloc hq _)) (fun hHeld => ?_)
            clear hK K
            try simp only [Act.put, List.getElem_toArray, List.getElem_cons_succ, List.getElem_cons_zero, List.setIfInBounds_toArray, List.set_cons_zero, List.set_cons_succ]
            refine wpAnyH_done (by kernel_rfl) ?_ _
            obtain ⟨w5, hw5⟩ : ∃ w5, w5 = wq.alloc (.cells #[.int .i64 (b.x), .int .i64 (b.y), .int .i64 wa, .int .i64 ha] 63) := ⟨_, rfl⟩
            have hS5 : Since wr w5 := Since.named (Since.alloc hq _) hw5
            have hSl : Since wq w5 := Since.named (Since.alloc (Since.refl _) _) hw5
            have hN5 : Whole w5 wq.heap.size 63 #[.int .i64 (b.x), .int .i64 (b.y), .int .i64 wa, .int .i64 ha] := (Whole.new wq _ _).named hw5
            obtain ⟨NB, hNB⟩ : ∃ NB, NB = wq.heap.size := ⟨_, rfl⟩
            rw [← hw5, ← hNB]
            rw [← hNB] at hN5
            clear hHeld hw5 hNB
            have hne5 : ¬ NB = g := fun e => by subst e; have z := (Since.whole hS5 H4.out.w).symm.trans hN5; injection z with z; injection z with z1 z2; exact absurd z2 (by decide)
            have r0 := off_cell (F := fun c => c = g) hN5 hne5 0 (.int .i64 (b.x)) rfl
            have r1 := off_cell (F := fun c => c = g) hN5 hne5 1 (.int .i64 (b.y)) rfl
            have r2 := off_cell (F := fun c => c = g) hN5 hne5 2 (.int .i64 (wa)) rfl
            have r3 := off_cell (F := fun c => c = g) hN5 hne5 3 (.int .i64 (ha)) rfl
            have hsr := Off.refl (fun c => c = g) w5
            clear a0 a1 x0 x1 y0 y1
            go_wp2_with (go_at_call 86; (with_reducible refine (wArea_at HA.out _).mono ?_); rintro e w6 ⟨rfl, hb6⟩)
            have hs6 : Since wr w6 := Since.trans hS5 hb6
            have hb7 : Since w5 w6.drew := Since.drew hb6
            obtain ⟨w7, hw7⟩ : ∃ x, x = w6.drew := ⟨_, rfl⟩
            have hs7 : Since wr w7 := by rw [hw7]; exact hs6.drew
            rw [← hw7] at hb7
            have hsd7 := hb7.off (fun c => c = g)
            have h47 := H4.out.since hs7
            have z0 : ∀ o, (w7.alloc o).cell? ⟨g, 6, none⟩ = some (.pointer none) := fun o => ((h47.w.alloc o).cell 6).trans ((ncells_q _ _ _ _ 0 (by decide)).trans (by rw [HOK.out.2 0 (Nat.le_refl _)]; rfl))
            have z1 : ∀ o, (w7.alloc o).frozen? ⟨g, 6, none⟩ = false := fun o => (h47.w.alloc o).frozen 6
            refine wp_region_held_drew (S := fun W' => Off (fun c => c = g) w5 W') (by kernel_rfl) (hw7 ▸ hsd7) (fun hHeld => ?_)
            rw [← hw7] at hHeld ⊢
            clear hw7
            refine wpAnyH_take (i := 0) (v := ?_) rfl (by kernel_rfl) (by kernel_rfl) (by kernel_rfl) (fun _ _ _ h => h) (Or.inl ⟨by rfl, ?_⟩) (by assumption) ?_
            rotate_left 1
            · (intro W hW; clear hW; go_simp; try with_reducible rfl)
            simp only [Act.put, List.getElem_toArray, List.getElem_cons_zero, List.setIfInBounds_toArray, List.set_cons_zero, List.set_cons_succ]
            refine wpAnyH_take (i := 1) (v := ?_) rfl (by kernel_rfl) (by kernel_rfl) (by kernel_rfl) (fun _ _ _ h => h) (Or.inl ⟨by rfl, ?_⟩) (by assumption) ?_
            rotate_left 1
            · (intro W hW; clear hW; go_simp; try with_reducible rfl)
            simp only [Act.put, List.getElem_toArray, List.getElem_cons_succ, List.getElem_cons_zero, List.setIfInBounds_toArray, List.set_cons_zero, List.set_cons_succ]
            refine wpAnyH_take (i := 2) (v := ?_) rfl (by kernel_rfl) (by kernel_rfl) (by kernel_rfl) (fun _ _ _ h => h) (Or.inl ⟨by rfl, ?_⟩) (by assumption) ?_
            rotate_left 1
            · (intro W hW; skip; go_simp; try with_reducible rfl)
            simp only [Act.put, List.getElem_toArray, List.getElem_cons_succ, List.getElem_cons_zero, List.setIfInBounds_toArray, List.set_cons_zero, List.set_cons_succ]
            refine wpAnyH_take (i := 3) (v := ?_) rfl (by kernel_rfl) (by kernel_rfl) (by kernel_rfl) (fun _ _ _ h => h) (Or.inl ⟨by rfl, ?_⟩) (by assumption) ?_
            rotate_left 1
            · (intro W hW; clear hW; go_simp; try with_reducible rfl)
            simp only [Act.put, List.getElem_toArray, List.getElem_cons_succ, List.getElem_cons_zero, List.setIfInBounds_toArray, List.set_cons_zero, List.set_cons_succ]
            refine wpAnyH_take (i := 5) (v := ?_) rfl (by kernel_rfl) (by kernel_rfl) (by kernel_rfl) (fun _ _ _ h => h) (Or.inl ⟨by rfl, ?_⟩) (by assumption) ?_
            rotate_left 1
            · (intro W hW; clear hW; go_simp; try with_reducible rfl)
            simp only [Act.put, List.getElem_toArray, List.getElem_cons_succ, List.getElem_cons_zero, List.setIfInBounds_toArray, List.set_cons_zero, List.set_cons_succ]
            refine wpAnyH_take (i := 6) (v := ?_) rfl (by kernel_rfl) (by kernel_rfl) (by kernel_rfl) (fun _ _ _ h => h) (Or.inl ⟨by rfl, ?_⟩) (by assumption) ?_
            rotate_left 1
            · (intro W hW; clear hW; go_simp; try with_reducible rfl)
            simp only [Act.put, List.getElem_toArray, List.getElem_cons_succ, List.getElem_cons_zero, List.setIfInBounds_toArray, List.set_cons_zero, List.set_cons_succ]
            refine wpAnyH_ready (rs := [4]) (by kernel_rfl) (by simp) ?_
            refine AllReadyH.cons rfl (fun K hK => ?_) AllReadyH.nil
            go_simp
            skip
            refine hK.out _ _ (hsd7.alloc _) (fun hHeld => ?_)
            clear hK K
            try simp only [Act.put, List.getElem_toArray, List.getElem_cons_succ, List.getElem_cons_zero, List.setIfInBounds_toArray, List.set_cons_zero, List.set_cons_succ]
            refine wpAnyH_take (i := 7) (v := ?_) rfl (by kernel_rfl) (by kernel_rfl) (by kernel_rfl) (fun _ _ _ h => h) (Or.inl ⟨by rfl, ?_⟩) (by assumption) ?_
            rotate_left 1
            · (intro W hW; clear hW; go_simp; try with_reducible rfl)
            simp only [Act.put, List.getElem_toArray, List.getElem_cons_succ, List.getElem_cons_zero, List.setIfInBounds_toArray, List.set_cons_zero, List.set_cons_succ]
            refine wpAnyH_ready (rs := [8]) (by kernel_rfl) (by simp) ?_
            refine AllReadyH.cons rfl (fun K hK => ?_) AllReadyH.nil
            go_simp
            skip
            refine hK.out _ _ ((hsd7.alloc _).setCell (p := ⟨g, 6, none⟩) (.inr rfl) _) (fun hHeld => ?_)
            clear hK K
            try simp only [Act.put, List.getElem_toArray, List.getElem_cons_succ, List.getElem_cons_zero, List.setIfInBounds_toArray, List.set_cons_zero, List.set_cons_succ]
            refine wpAnyH_done (by kernel_rfl) ?_ _
            go_wp2_with fail
            go_roundw
            case rel =>
              have z := Qs4.leaf h47 hgz (m := 0) (by decide) ((Since.refl w7).alloc (.cells #[.int .i64 (b.x), .int .i64 (b.y), .int .i64 (wa), .int .i64 (ha), .int .i64 0, .slice none 0 0, .pointer none, .pointer none, .pointer none, .pointer none] 71)) (c := ⟨b.x, b.y, wa, ha⟩) (Whole.new w7 _ _) (Nat.le_refl _)
              exact ⟨1, _, rfl, by omega, z, (ok_next_leaf HOK.out.1 HOK.out.2 HR.out HQ.out.1).1, (ok_next_leaf (NB := w7.heap.size) HOK.out.1 HOK.out.2 HR.out HQ.out.1).2⟩
            case measure => simp [intOf]
        · replace hi : _ = Value.int .i64 1 := hi
          subst hi
          obtain ⟨A, hAA⟩ : ∃ A, areaR ⟨b.x + wa, b.y, wb, ha⟩ = A := ⟨_, rfl⟩
          have hne := area_q HG.out (i := 1) (A := A) (by decide) (by rw [HQ.out.2.1]; exact hAA)
          have HA := Lib.hid hAA
          have hsd : Since wr wr.drew := (Since.refl wr).drew
          clear hAA
          cases hnr : neR (qtr b 1)
          · have HR := Lib.hid hnr
            rw [hnr] at hne
            clear hnr
            go_upto_region 5 with fail
            obtain ⟨wq, hwq⟩ : ∃ wq, wq = wr.drew := ⟨_, rfl⟩
            refine wp_region_held_drew (S := fun W => Since wr W) (by kernel_rfl) hsd (fun hHeld => ?_)
            rw [← hwq] at hHeld ⊢
            have hq : Since wr wq := hHeld
            clear hwq hsd
            refine wpAnyH_take (i := 0) (v := ?_) rfl (by kernel_rfl) (by kernel_rfl) (by kernel_rfl) (fun _ _ _ h => h) (Or.inl ⟨by rfl, ?_⟩) (by assumption) ?_
            rotate_left 1
            · (intro W hW; clear hW; go_simp; try with_reducible rfl)
            simp only [Act.put, List.getElem_toArray, List.getElem_cons_zero, List.setIfInBounds_toArray, List.set_cons_zero, List.set_cons_succ]
            refine wpAnyH_take (i := 1) (v := ?_) rfl (by kernel_rfl) (by kernel_rfl) (by kernel_rfl) (fun _ _ _ h => h) (Or.inl ⟨by rfl, ?_⟩) (by assumption) ?_
            rotate_left 1
            · (intro W hW; clear hW; go_simp; try with_reducible rfl)
            simp only [Act.put, List.getElem_toArray, List.getElem_cons_succ, List.getElem_cons_zero, List.setIfInBounds_toArray, List.set_cons_zero, List.set_cons_succ]
            refine wpAnyH_take (i := 2) (v := ?_) rfl (by kernel_rfl) (by kernel_rfl) (by kernel_rfl) (fun _ _ _ h => h) (Or.inl ⟨by rfl, ?_⟩) (by assumption) ?_
            rotate_left 1
            · (intro W hW; clear hW; go_simp; try with_reducible rfl)
            simp only [Act.put, List.getElem_toArray, List.getElem_cons_succ, List.getElem_cons_zero, List.setIfInBounds_toArray, List.set_cons_zero, List.set_cons_succ]
            refine wpAnyH_take (i := 3) (v := ?_) rfl (by kernel_rfl) (by kernel_rfl) (by kernel_rfl) (fun _ _ _ h => h) (Or.inl ⟨by rfl, ?_⟩) (by assumption) ?_
            rotate_left 1
            · (intro W hW; clear hW; go_simp; try with_reducible rfl)
            simp only [Act.put, List.getElem_toArray, List.getElem_cons_succ, List.getElem_cons_zero, List.setIfInBounds_toArray, List.set_cons_zero, List.set_cons_succ]
            refine wpAnyH_take (i := 4) (v := ?_) rfl (by kernel_rfl) (by kernel_rfl) (by kernel_rfl) (fun _ _ _ h => h) (Or.inl ⟨by rfl, ?_⟩) (by assumption) ?_
            rotate_left 1
            · (intro W hW; skip; go_simp; try with_reducible rfl)
            simp only [Act.put, List.getElem_toArray, List.getElem_cons_succ, List.getElem_cons_zero, List.setIfInBounds_toArray, List.set_cons_zero, List.set_cons_succ]
            refine wpAnyH_take (i := 5) (v := ?_) rfl (by kernel_rfl) (by kernel_rfl) (by kernel_rfl) (fun _ _ _ h => h) (Or.inl ⟨by rfl, ?_⟩) (by assumption) ?_
            rotate_left 1
            · (intro W hW; clear hW; go_simp; try with_reducible rfl)
            simp only [Act.put, List.getElem_toArray, List.getElem_cons_succ, List.getElem_cons_zero, List.setIfInBounds_toArray, List.set_cons_zero, List.set_cons_succ]
            refine wpAnyH_take (i := 6) (v := ?_) rfl (by kernel_rfl) (by kernel_rfl) (by kernel_rfl) (fun _ _ _ h => h) (Or.inl ⟨by rfl, ?_⟩) (by assumption) ?_
            rotate_left 1
            · (intro W hW; clear hW; go_simp; try with_reducible rfl)
            simp only [Act.put, List.getElem_toArray, List.getElem_cons_succ, List.getElem_cons_zero, List.setIfInBounds_toArray, List.set_cons_zero, List.set_cons_succ]
            refine wpAnyH_take (i := 7) (v := ?_) rfl (by kernel_rfl) (by kernel_rfl) (by kernel_rfl) (fun _ _ _ h => h) (Or.inl ⟨by rfl, ?_⟩) (by assumption) ?_
            rotate_left 1
            · (intro W hW; skip; go_simp; try with_reducible rfl)
            simp only [Act.put, List.getElem_toArray, List.getElem_cons_succ, List.getElem_cons_zero, List.setIfInBounds_toArray, List.set_cons_zero, List.set_cons_succ]
            refine wpAnyH_take (i := 8) (v := ?_) rfl (by kernel_rfl) (by kernel_rfl) (by kernel_rfl) (fun _ _ _ h => h) (Or.inl ⟨by rfl, ?_⟩) (by assumption) ?_
            rotate_left 1
            · (intro W hW; clear hW; go_simp; try with_reducible rfl)
            simp only [Act.put, List.getElem_toArray, List.getElem_cons_succ, List.getElem_cons_zero, List.setIfInBounds_toArray, List.set_cons_zero, List.set_cons_succ]
            refine wpAnyH_take (i := 9) (v := ?_) rfl (by kernel_rfl) (by kernel_rfl) (by kernel_rfl) (fun _ _ _ h => h) (Or.inl ⟨by rfl, ?_⟩) (by assumption) ?_
            rotate_left 1
            · (intro W hW; clear hW; go_simp; try with_reducible rfl)
            simp only [Act.put, List.getElem_toArray, List.getElem_cons_succ, List.getElem_cons_zero, List.setIfInBounds_toArray, List.set_cons_zero, List.set_cons_succ]
            refine wpAnyH_take (i := 10) (v := ?_) rfl (by kernel_rfl) (by kernel_rfl) (by kernel_rfl) (fun _ _ _ h => h) (Or.inl ⟨by rfl, ?_⟩) (by assumption) ?_
            rotate_left 1
            · (intro W hW; clear hW; go_simp; try with_reducible rfl)
            simp only [Act.put, List.getElem_toArray, List.getElem_cons_succ, List.getElem_cons_zero, List.setIfInBounds_toArray, List.set_cons_zero, List.set_cons_succ]
            refine wpAnyH_take (i := 11) (v := ?_) rfl (by kernel_rfl) (by kernel_rfl) (by kernel_rfl) (fun _ _ _ h => h) (Or.inl ⟨by rfl, ?_⟩) (by assumption) ?_
            rotate_left 1
            · (intro W hW; clear hW; go_simp; try with_reducible rfl)
            simp only [Act.put, List.getElem_toArray, List.getElem_cons_succ, List.getElem_cons_zero, List.setIfInBounds_toArray, List.set_cons_zero, List.set_cons_succ]
            refine wpAnyH_take (i := 12) (v := ?_) rfl (by kernel_rfl) (by kernel_rfl) (by kernel_rfl) (fun _ _ _ h => h) (Or.inl ⟨by rfl, ?_⟩) (by assumption) ?_
            rotate_left 1
            · (intro W hW; clear hW; go_simp; try with_reducible rfl)
            simp only [Act.put, List.getElem_toArray, List.getElem_cons_succ, List.getElem_cons_zero, List.setIfInBounds_toArray, List.set_cons_zero, List.set_cons_succ]
            refine wpAnyH_take (i := 13) (v := ?_) rfl (by kernel_rfl) (by kernel_rfl) (by kernel_rfl) (fun _ _ _ h => h) (Or.inl ⟨by rfl, ?_⟩) (by assumption) ?_
            rotate_left 1
            · (intro W hW; clear hW; go_simp; try with_reducible rfl)
            simp only [Act.put, List.getElem_toArray, List.getElem_cons_succ, List.getElem_cons_zero, List.setIfInBounds_toArray, List.set_cons_zero, List.set_cons_succ]
            refine wpAnyH_take (i := 14) (v := ?_) rfl (by kernel_rfl) (by kernel_rfl) (by kernel_rfl) (fun _ _ _ h => h) (Or.inl ⟨by rfl, ?_⟩) (by assumption) ?_
            rotate_left 1
            · (intro W hW; skip; go_simp; try with_reducible rfl)
            simp only [Act.put, List.getElem_toArray, List.getElem_cons_succ, List.getElem_cons_zero, List.setIfInBounds_toArray, List.set_cons_zero, List.set_cons_succ]
            refine wpAnyH_take (i := 15) (v := ?_) rfl (by kernel_rfl) (by kernel_rfl) (by kernel_rfl) (fun _ _ _ h => h) (Or.inl ⟨by rfl, ?_⟩) (by assumption) ?_
            rotate_left 1
            · (intro W hW; clear hW; go_simp; try with_reducible rfl)
            simp only [Act.put, List.getElem_toArray, List.getElem_cons_succ, List.getElem_cons_zero, List.setIfInBounds_toArray, List.set_cons_zero, List.set_cons_succ]
            refine wpAnyH_take (i := 16) (v := ?_) rfl (by kernel_rfl) (by kernel_rfl) (by kernel_rfl) (fun _ _ _ h => h) (Or.inl ⟨by rfl, ?_⟩) (by assumption) ?_
            rotate_left 1
            · (intro W hW; clear hW; go_simp; try with_reducible rfl)
            simp only [Act.put, List.getElem_toArray, List.getElem_cons_succ, List.getElem_cons_zero, List.setIfInBounds_toArray, List.set_cons_zero, List.set_cons_succ]
            refine wpAnyH_take (i := 17) (v := ?_) rfl (by kernel_rfl) (by kernel_rfl) (by kernel_rfl) (fun _ _ _ h => h) (Or.inl ⟨by rfl, ?_⟩) (by assumption) ?_
            rotate_left 1
            · (intro W hW; skip; go_simp; try with_reducible rfl)
            simp only [Act.put, List.getElem_toArray, List.getElem_cons_succ, List.getElem_cons_zero, List.setIfInBounds_toArray, List.set_cons_zero, List.set_cons_succ]
            refine wpAnyH_take (i := 18) (v := ?_) rfl (by kernel_rfl) (by kernel_rfl) (by kernel_rfl) (fun _ _ _ h => h) (Or.inl ⟨by rfl, ?_⟩) (by assumption) ?_
            rotate_left 1
            · (intro W hW; clear hW; go_simp; try with_reducible rfl)
            simp only [Act.put, List.getElem_toArray, List.getElem_cons_succ, List.getElem_cons_zero, List.setIfInBounds_toArray, List.set_cons_zero, List.set_cons_succ]
            refine wpAnyH_take (i := 19) (v := ?_) rfl (by kernel_rfl) (by kernel_rfl) (by kernel_rfl) (fun _ _ _ h => h) (Or.inl ⟨by rfl, ?_⟩) (by assumption) ?_
            rotate_left 1
            · (intro W hW; clear hW; go_simp; try with_reducible rfl)
            simp only [Act.put, List.getElem_toArray, List.getElem_cons_succ, List.getElem_cons_zero, List.setIfInBounds_toArray, List.set_cons_zero, List.set_cons_succ]
            refine wpAnyH_take (i := 20) (v := ?_) rfl (by kernel_rfl) (by kernel_rfl) (by kernel_rfl) (fun _ _ _ h => h) (Or.inl ⟨by rfl, ?_⟩) (by assumption) ?_
            rotate_left 1
            · (intro W hW; clear hW; go_simp; try with_reducible rfl)
            simp only [Act.put, List.getElem_toArray, List.getElem_cons_succ, List.getElem_cons_zero, List.setIfInBounds_toArray, List.set_cons_zero, List.set_cons_succ]
            refine wpAnyH_take (i := 21) (v := ?_) rfl (by kernel_rfl) (by kernel_rfl) (by kernel_rfl) (fun _ _ _ h => h) (Or.inl ⟨by rfl, ?_⟩) (by assumption) ?_
            rotate_left 1
            · (intro W hW; clear hW; go_simp; try with_reducible rfl)
            simp only [Act.put, List.getElem_toArray, List.getElem_cons_succ, List.getElem_cons_zero, List.setIfInBounds_toArray, List.set_cons_zero, List.set_cons_succ]
            refine wpAnyH_take (i := 22) (v := ?_) rfl (by kernel_rfl) (by kernel_rfl) (by kernel_rfl) (fun _ _ _ h => h) (Or.inl ⟨by rfl, ?_⟩) (by assumption) ?_
            rotate_left 1
            · (intro W hW; skip; go_simp; try with_reducible rfl)
            simp only [Act.put, List.getElem_toArray, List.getElem_cons_succ, List.getElem_cons_zero, List.setIfInBounds_toArray, List.set_cons_zero, List.set_cons_succ]
            refine wpAnyH_take (i := 23) (v := ?_) rfl (by kernel_rfl) (by kernel_rfl) (by kernel_rfl) (fun _ _ _ h => h) (Or.inl ⟨by rfl, ?_⟩) (by assumption) ?_
            rotate_left 1
            · (intro W hW; clear hW; go_simp; try with_reducible rfl)
            simp only [Act.put, List.getElem_toArray, List.getElem_cons_succ, List.getElem_cons_zero, List.setIfInBounds_toArray, List.set_cons_zero, List.set_cons_succ]
            refine wpAnyH_take (i := 24) (v := ?_) rfl (by kernel_rfl) (by kernel_rfl) (by kernel_rfl) (fun _ _ _ h => h) (Or.inl ⟨by rfl, ?_⟩) (by assumption) ?_
            rotate_left 1
            · (intro W hW; clear hW; go_simp; try with_reducible rfl)
            simp only [Act.put, List.getElem_toArray, List.getElem_cons_succ, List.getElem_cons_zero, List.setIfInBounds_toArray, List.set_cons_zero, List.set_cons_succ]
            refine wpAnyH_take (i := 25) (v := ?_) rfl (by kernel_rfl) (by kernel_rfl) (by kernel_rfl) (fun _ _ _ h => h) (Or.inl ⟨by rfl, ?_⟩) (by assumption) ?_
            rotate_left 1
            · (intro W hW; skip; go_simp; try with_reducible rfl)
            simp only [Act.put, List.getElem_toArray, List.getElem_cons_succ, List.getElem_cons_zero, List.setIfInBounds_toArray, List.set_cons_zero, List.set_cons_succ]
            refine wpAnyH_take (i := 26) (v := ?_) rfl (by kernel_rfl) (by kernel_rfl) (by kernel_rfl) (fun _ _ _ h => h) (Or.inl ⟨by rfl, ?_⟩) (by assumption) ?_
            rotate_left 1
            · (intro W hW; clear hW; go_simp; try with_reducible rfl)
            simp only [Act.put, List.getElem_toArray, List.getElem_cons_succ, List.getElem_cons_zero, List.setIfInBounds_toArray, List.set_cons_zero, List.set_cons_succ]
            refine wpAnyH_ready (rs := [27]) (by kernel_rfl) (by simp) ?_
            refine AllReadyH.cons rfl (fun K hK => ?_) AllReadyH.nil
            go_simp
            have hgb : wr.heap.size ≤ wq.heap.size := Since.size_ hq
            refine hK.out _ _ ((Since.alloc hq _)) (fun hHeld => ?_)
            clear hK K
            try simp only [Act.put, List.getElem_toArray, List.getElem_cons_succ, List.getElem_cons_zero, List.setIfInBounds_toArray, List.set_cons_zero, List.set_cons_succ]
            refine wpAnyH_ready (rs := [28]) (by kernel_rfl) (by simp) ?_
            refine AllReadyH.cons rfl (fun K hK => ?_) AllReadyH.nil
            go_simp
            skip
            refine hK.out _ _ ((Since.alloc hq _)) (fun hHeld => ?_)
            clear hK K
            try simp only [Act.put, List.getElem_toArray, List.getElem_cons_succ, List.getElem_cons_zero, List.setIfInBounds_toArray, List.set_cons_zero, List.set_cons_succ]
            refine wpAnyH_done (by kernel_rfl) ?_ _
            obtain ⟨w5, hw5⟩ : ∃ w5, w5 = wq.alloc (.cells #[.int .i64 (b.x + wa), .int .i64 (b.y), .int .i64 wb, .int .i64 ha] 63) := ⟨_, rfl⟩
            have hS5 : Since wr w5 := Since.named (Since.alloc hq _) hw5
            have hSl : Since wq w5 := Since.named (Since.alloc (Since.refl _) _) hw5
            have hN5 : Whole w5 wq.heap.size 63 #[.int .i64 (b.x + wa), .int .i64 (b.y), .int .i64 wb, .int .i64 ha] := (Whole.new wq _ _).named hw5
            obtain ⟨NB, hNB⟩ : ∃ NB, NB = wq.heap.size := ⟨_, rfl⟩
            rw [← hw5, ← hNB]
            rw [← hNB] at hN5
            clear hHeld hw5 hNB
            have hne5 : ¬ NB = g := fun e => by subst e; have z := (Since.whole hS5 H4.out.w).symm.trans hN5; injection z with z; injection z with z1 z2; exact absurd z2 (by decide)
            have r0 := off_cell (F := fun c => c = g) hN5 hne5 0 (.int .i64 (b.x + wa)) rfl
            have r1 := off_cell (F := fun c => c = g) hN5 hne5 1 (.int .i64 (b.y)) rfl
            have r2 := off_cell (F := fun c => c = g) hN5 hne5 2 (.int .i64 (wb)) rfl
            have r3 := off_cell (F := fun c => c = g) hN5 hne5 3 (.int .i64 (ha)) rfl
            have hsr := Off.refl (fun c => c = g) w5
            clear a0 a1 x0 x1 y0 y1
            go_wp2_with (go_at_call 86; (with_reducible refine (wArea_at HA.out _).mono ?_); rintro e w6 ⟨rfl, hb6⟩)
            have hs6 : Since wr w6 := Since.trans hS5 hb6
            go_roundw
            case rel => exact ⟨2, q, rfl, by omega, H4.out.since hs6, (ok_next_nil HOK.out.1 HOK.out.2 HR.out).1, (ok_next_nil HOK.out.1 HOK.out.2 HR.out).2⟩
            case measure => simp [intOf]
          · have HR := Lib.hid hnr
            rw [hnr] at hne
            clear hnr
            go_upto_region 5 with fail
            obtain ⟨wq, hwq⟩ : ∃ wq, wq = wr.drew := ⟨_, rfl⟩
            refine wp_region_held_drew (S := fun W => Since wr W) (by kernel_rfl) hsd (fun hHeld => ?_)
            rw [← hwq] at hHeld ⊢
            have hq : Since wr wq := hHeld
            clear hwq hsd
            refine wpAnyH_take (i := 0) (v := ?_) rfl (by kernel_rfl) (by kernel_rfl) (by kernel_rfl) (fun _ _ _ h => h) (Or.inl ⟨by rfl, ?_⟩) (by assumption) ?_
            rotate_left 1
            · (intro W hW; clear hW; go_simp; try with_reducible rfl)
            simp only [Act.put, List.getElem_toArray, List.getElem_cons_zero, List.setIfInBounds_toArray, List.set_cons_zero, List.set_cons_succ]
            refine wpAnyH_take (i := 1) (v := ?_) rfl (by kernel_rfl) (by kernel_rfl) (by kernel_rfl) (fun _ _ _ h => h) (Or.inl ⟨by rfl, ?_⟩) (by assumption) ?_
            rotate_left 1
            · (intro W hW; clear hW; go_simp; try with_reducible rfl)
            simp only [Act.put, List.getElem_toArray, List.getElem_cons_succ, List.getElem_cons_zero, List.setIfInBounds_toArray, List.set_cons_zero, List.set_cons_succ]
            refine wpAnyH_take (i := 2) (v := ?_) rfl (by kernel_rfl) (by kernel_rfl) (by kernel_rfl) (fun _ _ _ h => h) (Or.inl ⟨by rfl, ?_⟩) (by assumption) ?_
            rotate_left 1
            · (intro W hW; clear hW; go_simp; try with_reducible rfl)
            simp only [Act.put, List.getElem_toArray, List.getElem_cons_succ, List.getElem_cons_zero, List.setIfInBounds_toArray, List.set_cons_zero, List.set_cons_succ]
            refine wpAnyH_take (i := 3) (v := ?_) rfl (by kernel_rfl) (by kernel_rfl) (by kernel_rfl) (fun _ _ _ h => h) (Or.inl ⟨by rfl, ?_⟩) (by assumption) ?_
            rotate_left 1
            · (intro W hW; clear hW; go_simp; try with_reducible rfl)
            simp only [Act.put, List.getElem_toArray, List.getElem_cons_succ, List.getElem_cons_zero, List.setIfInBounds_toArray, List.set_cons_zero, List.set_cons_succ]
            refine wpAnyH_take (i := 4) (v := ?_) rfl (by kernel_rfl) (by kernel_rfl) (by kernel_rfl) (fun _ _ _ h => h) (Or.inl ⟨by rfl, ?_⟩) (by assumption) ?_
            rotate_left 1
            · (intro W hW; skip; go_simp; try with_reducible rfl)
            simp only [Act.put, List.getElem_toArray, List.getElem_cons_succ, List.getElem_cons_zero, List.setIfInBounds_toArray, List.set_cons_zero, List.set_cons_succ]
            refine wpAnyH_take (i := 5) (v := ?_) rfl (by kernel_rfl) (by kernel_rfl) (by kernel_rfl) (fun _ _ _ h => h) (Or.inl ⟨by rfl, ?_⟩) (by assumption) ?_
            rotate_left 1
            · (intro W hW; clear hW; go_simp; try with_reducible rfl)
            simp only [Act.put, List.getElem_toArray, List.getElem_cons_succ, List.getElem_cons_zero, List.setIfInBounds_toArray, List.set_cons_zero, List.set_cons_succ]
            refine wpAnyH_take (i := 6) (v := ?_) rfl (by kernel_rfl) (by kernel_rfl) (by kernel_rfl) (fun _ _ _ h => h) (Or.inl ⟨by rfl, ?_⟩) (by assumption) ?_
            rotate_left 1
            · (intro W hW; clear hW; go_simp; try with_reducible rfl)
            simp only [Act.put, List.getElem_toArray, List.getElem_cons_succ, List.getElem_cons_zero, List.setIfInBounds_toArray, List.set_cons_zero, List.set_cons_succ]
            refine wpAnyH_take (i := 7) (v := ?_) rfl (by kernel_rfl) (by kernel_rfl) (by kernel_rfl) (fun _ _ _ h => h) (Or.inl ⟨by rfl, ?_⟩) (by assumption) ?_
            rotate_left 1
            · (intro W hW; skip; go_simp; try with_reducible rfl)
            simp only [Act.put, List.getElem_toArray, List.getElem_cons_succ, List.getElem_cons_zero, List.setIfInBounds_toArray, List.set_cons_zero, List.set_cons_succ]
            refine wpAnyH_take (i := 8) (v := ?_) rfl (by kernel_rfl) (by kernel_rfl) (by kernel_rfl) (fun _ _ _ h => h) (Or.inl ⟨by rfl, ?_⟩) (by assumption) ?_
            rotate_left 1
            · (intro W hW; clear hW; go_simp; try with_reducible rfl)
            simp only [Act.put, List.getElem_toArray, List.getElem_cons_succ, List.getElem_cons_zero, List.setIfInBounds_toArray, List.set_cons_zero, List.set_cons_succ]
            refine wpAnyH_take (i := 9) (v := ?_) rfl (by kernel_rfl) (by kernel_rfl) (by kernel_rfl) (fun _ _ _ h => h) (Or.inl ⟨by rfl, ?_⟩) (by assumption) ?_
            rotate_left 1
            · (intro W hW; clear hW; go_simp; try with_reducible rfl)
            simp only [Act.put, List.getElem_toArray, List.getElem_cons_succ, List.getElem_cons_zero, List.setIfInBounds_toArray, List.set_cons_zero, List.set_cons_succ]
            refine wpAnyH_take (i := 10) (v := ?_) rfl (by kernel_rfl) (by kernel_rfl) (by kernel_rfl) (fun _ _ _ h => h) (Or.inl ⟨by rfl, ?_⟩) (by assumption) ?_
            rotate_left 1
            · (intro W hW; clear hW; go_simp; try with_reducible rfl)
            simp only [Act.put, List.getElem_toArray, List.getElem_cons_succ, List.getElem_cons_zero, List.setIfInBounds_toArray, List.set_cons_zero, List.set_cons_succ]
            refine wpAnyH_take (i := 11) (v := ?_) rfl (by kernel_rfl) (by kernel_rfl) (by kernel_rfl) (fun _ _ _ h => h) (Or.inl ⟨by rfl, ?_⟩) (by assumption) ?_
            rotate_left 1
            · (intro W hW; clear hW; go_simp; try with_reducible rfl)
            simp only [Act.put, List.getElem_toArray, List.getElem_cons_succ, List.getElem_cons_zero, List.setIfInBounds_toArray, List.set_cons_zero, List.set_cons_succ]
            refine wpAnyH_take (i := 12) (v := ?_) rfl (by kernel_rfl) (by kernel_rfl) (by kernel_rfl) (fun _ _ _ h => h) (Or.inl ⟨by rfl, ?_⟩) (by assumption) ?_
            rotate_left 1
            · (intro W hW; clear hW; go_simp; try with_reducible rfl)
            simp only [Act.put, List.getElem_toArray, List.getElem_cons_succ, List.getElem_cons_zero, List.setIfInBounds_toArray, List.set_cons_zero, List.set_cons_succ]
            refine wpAnyH_take (i := 13) (v := ?_) rfl (by kernel_rfl) (by kernel_rfl) (by kernel_rfl) (fun _ _ _ h => h) (Or.inl ⟨by rfl, ?_⟩) (by assumption) ?_
            rotate_left 1
            · (intro W hW; clear hW; go_simp; try with_reducible rfl)
            simp only [Act.put, List.getElem_toArray, List.getElem_cons_succ, List.getElem_cons_zero, List.setIfInBounds_toArray, List.set_cons_zero, List.set_cons_succ]
            refine wpAnyH_take (i := 14) (v := ?_) rfl (by kernel_rfl) (by kernel_rfl) (by kernel_rfl) (fun _ _ _ h => h) (Or.inl ⟨by rfl, ?_⟩) (by assumption) ?_
            rotate_left 1
            · (intro W hW; skip; go_simp; try with_reducible rfl)
            simp only [Act.put, List.getElem_toArray, List.getElem_cons_succ, List.getElem_cons_zero, List.setIfInBounds_toArray, List.set_cons_zero, List.set_cons_succ]
            refine wpAnyH_take (i := 15) (v := ?_) rfl (by kernel_rfl) (by kernel_rfl) (by kernel_rfl) (fun _ _ _ h => h) (Or.inl ⟨by rfl, ?_⟩) (by assumption) ?_
            rotate_left 1
            · (intro W hW; clear hW; go_simp; try with_reducible rfl)
            simp only [Act.put, List.getElem_toArray, List.getElem_cons_succ, List.getElem_cons_zero, List.setIfInBounds_toArray, List.set_cons_zero, List.set_cons_succ]
            refine wpAnyH_take (i := 16) (v := ?_) rfl (by kernel_rfl) (by kernel_rfl) (by kernel_rfl) (fun _ _ _ h => h) (Or.inl ⟨by rfl, ?_⟩) (by assumption) ?_
            rotate_left 1
            · (intro W hW; clear hW; go_simp; try with_reducible rfl)
            simp only [Act.put, List.getElem_toArray, List.getElem_cons_succ, List.getElem_cons_zero, List.setIfInBounds_toArray, List.set_cons_zero, List.set_cons_succ]
            refine wpAnyH_take (i := 17) (v := ?_) rfl (by kernel_rfl) (by kernel_rfl) (by kernel_rfl) (fun _ _ _ h => h) (Or.inl ⟨by rfl, ?_⟩) (by assumption) ?_
            rotate_left 1
            · (intro W hW; skip; go_simp; try with_reducible rfl)
            simp only [Act.put, List.getElem_toArray, List.getElem_cons_succ, List.getElem_cons_zero, List.setIfInBounds_toArray, List.set_cons_zero, List.set_cons_succ]
            refine wpAnyH_take (i := 18) (v := ?_) rfl (by kernel_rfl) (by kernel_rfl) (by kernel_rfl) (fun _ _ _ h => h) (Or.inl ⟨by rfl, ?_⟩) (by assumption) ?_
            rotate_left 1
            · (intro W hW; clear hW; go_simp; try with_reducible rfl)
            simp only [Act.put, List.getElem_toArray, List.getElem_cons_succ, List.getElem_cons_zero, List.setIfInBounds_toArray, List.set_cons_zero, List.set_cons_succ]
            refine wpAnyH_take (i := 19) (v := ?_) rfl (by kernel_rfl) (by kernel_rfl) (by kernel_rfl) (fun _ _ _ h => h) (Or.inl ⟨by rfl, ?_⟩) (by assumption) ?_
            rotate_left 1
            · (intro W hW; clear hW; go_simp; try with_reducible rfl)
            simp only [Act.put, List.getElem_toArray, List.getElem_cons_succ, List.getElem_cons_zero, List.setIfInBounds_toArray, List.set_cons_zero, List.set_cons_succ]
            refine wpAnyH_take (i := 20) (v := ?_) rfl (by kernel_rfl) (by kernel_rfl) (by kernel_rfl) (fun _ _ _ h => h) (Or.inl ⟨by rfl, ?_⟩) (by assumption) ?_
            rotate_left 1
            · (intro W hW; clear hW; go_simp; try with_reducible rfl)
            simp only [Act.put, List.getElem_toArray, List.getElem_cons_succ, List.getElem_cons_zero, List.setIfInBounds_toArray, List.set_cons_zero, List.set_cons_succ]
            refine wpAnyH_take (i := 21) (v := ?_) rfl (by kernel_rfl) (by kernel_rfl) (by kernel_rfl) (fun _ _ _ h => h) (Or.inl ⟨by rfl, ?_⟩) (by assumption) ?_
            rotate_left 1
            · (intro W hW; clear hW; go_simp; try with_reducible rfl)
            simp only [Act.put, List.getElem_toArray, List.getElem_cons_succ, List.getElem_cons_zero, List.setIfInBounds_toArray, List.set_cons_zero, List.set_cons_succ]
            refine wpAnyH_take (i := 22) (v := ?_) rfl (by kernel_rfl) (by kernel_rfl) (by kernel_rfl) (fun _ _ _ h => h) (Or.inl ⟨by rfl, ?_⟩) (by assumption) ?_
            rotate_left 1
            · (intro W hW; skip; go_simp; try with_reducible rfl)
            simp only [Act.put, List.getElem_toArray, List.getElem_cons_succ, List.getElem_cons_zero, List.setIfInBounds_toArray, List.set_cons_zero, List.set_cons_succ]
            refine wpAnyH_take (i := 23) (v := ?_) rfl (by kernel_rfl) (by kernel_rfl) (by kernel_rfl) (fun _ _ _ h => h) (Or.inl ⟨by rfl, ?_⟩) (by assumption) ?_
            rotate_left 1
            · (intro W hW; clear hW; go_simp; try with_reducible rfl)
            simp only [Act.put, List.getElem_toArray, List.getElem_cons_succ, List.getElem_cons_zero, List.setIfInBounds_toArray, List.set_cons_zero, List.set_cons_succ]
            refine wpAnyH_take (i := 24) (v := ?_) rfl (by kernel_rfl) (by kernel_rfl) (by kernel_rfl) (fun _ _ _ h => h) (Or.inl ⟨by rfl, ?_⟩) (by assumption) ?_
            rotate_left 1
            · (intro W hW; clear hW; go_simp; try with_reducible rfl)
            simp only [Act.put, List.getElem_toArray, List.getElem_cons_succ, List.getElem_cons_zero, List.setIfInBounds_toArray, List.set_cons_zero, List.set_cons_succ]
            refine wpAnyH_take (i := 25) (v := ?_) rfl (by kernel_rfl) (by kernel_rfl) (by kernel_rfl) (fun _ _ _ h => h) (Or.inl ⟨by rfl, ?_⟩) (by assumption) ?_
            rotate_left 1
            · (intro W hW; skip; go_simp; try with_reducible rfl)
            simp only [Act.put, List.getElem_toArray, List.getElem_cons_succ, List.getElem_cons_zero, List.setIfInBounds_toArray, List.set_cons_zero, List.set_cons_succ]
            refine wpAnyH_take (i := 26) (v := ?_) rfl (by kernel_rfl) (by kernel_rfl) (by kernel_rfl) (fun _ _ _ h => h) (Or.inl ⟨by rfl, ?_⟩) (by assumption) ?_
            rotate_left 1
            · (intro W hW; clear hW; go_simp; try with_reducible rfl)
            simp only [Act.put, List.getElem_toArray, List.getElem_cons_succ, List.getElem_cons_zero, List.setIfInBounds_toArray, List.set_cons_zero, List.set_cons_succ]
            refine wpAnyH_ready (rs := [27]) (by kernel_rfl) (by simp) ?_
            refine AllReadyH.cons rfl (fun K hK => ?_) AllReadyH.nil
            go_simp
            have hgb : wr.heap.size ≤ wq.heap.size := Since.size_ hq
            refine hK.out _ _ ((Since.alloc hq _)) (fun hHeld => ?_)
            clear hK K
            try simp only [Act.put, List.getElem_toArray, List.getElem_cons_succ, List.getElem_cons_zero, List.setIfInBounds_toArray, List.set_cons_zero, List.set_cons_succ]
            refine wpAnyH_ready (rs := [28]) (by kernel_rfl) (by simp) ?_
            refine AllReadyH.cons rfl (fun K hK => ?_) AllReadyH.nil
            go_simp
            skip
            refine hK.out _ _ ((Since.alloc hq _)) (fun hHeld => ?_)
            clear hK K
            try simp only [Act.put, List.getElem_toArray, List.getElem_cons_succ, List.getElem_cons_zero, List.setIfInBounds_toArray, List.set_cons_zero, List.set_cons_succ]
            refine wpAnyH_done (by kernel_rfl) ?_ _
            obtain ⟨w5, hw5⟩ : ∃ w5, w5 = wq.alloc (.cells #[.int .i64 (b.x + wa), .int .i64 (b.y), .int .i64 wb, .int .i64 ha] 63) := ⟨_, rfl⟩
            have hS5 : Since wr w5 := Since.named (Since.alloc hq _) hw5
            have hSl : Since wq w5 := Since.named (Since.alloc (Since.refl _) _) hw5
            have hN5 : Whole w5 wq.heap.size 63 #[.int .i64 (b.x + wa), .int .i64 (b.y), .int .i64 wb, .int .i64 ha] := (Whole.new wq _ _).named hw5
            obtain ⟨NB, hNB⟩ : ∃ NB, NB = wq.heap.size := ⟨_, rfl⟩
            rw [← hw5, ← hNB]
            rw [← hNB] at hN5
            clear hHeld hw5 hNB
            have hne5 : ¬ NB = g := fun e => by subst e; have z := (Since.whole hS5 H4.out.w).symm.trans hN5; injection z with z; injection z with z1 z2; exact absurd z2 (by decide)
            have r0 := off_cell (F := fun c => c = g) hN5 hne5 0 (.int .i64 (b.x + wa)) rfl
            have r1 := off_cell (F := fun c => c = g) hN5 hne5 1 (.int .i64 (b.y)) rfl
            have r2 := off_cell (F := fun c => c = g) hN5 hne5 2 (.int .i64 (wb)) rfl
            have r3 := off_cell (F := fun c => c = g) hN5 hne5 3 (.int .i64 (ha)) rfl
            have hsr := Off.refl (fun c => c = g) w5
            clear a0 a1 x0 x1 y0 y1
            go_wp2_with (go_at_call 86; (with_reducible refine (wArea_at HA.out _).mono ?_); rintro e w6 ⟨rfl, hb6⟩)
            have hs6 : Since wr w6 := Since.trans hS5 hb6
            have hb7 : Since w5 w6.drew := Since.drew hb6
            obtain ⟨w7, hw7⟩ : ∃ x, x = w6.drew := ⟨_, rfl⟩
            have hs7 : Since wr w7 := by rw [hw7]; exact hs6.drew
            rw [← hw7] at hb7
            have hsd7 := hb7.off (fun c => c = g)
            have h47 := H4.out.since hs7
            have z0 : ∀ o, (w7.alloc o).cell? ⟨g, 7, none⟩ = some (.pointer none) := fun o => ((h47.w.alloc o).cell 7).trans ((ncells_q _ _ _ _ 1 (by decide)).trans (by rw [HOK.out.2 1 (Nat.le_refl _)]; rfl))
            have z1 : ∀ o, (w7.alloc o).frozen? ⟨g, 7, none⟩ = false := fun o => (h47.w.alloc o).frozen 7
            refine wp_region_held_drew (S := fun W' => Off (fun c => c = g) w5 W') (by kernel_rfl) (hw7 ▸ hsd7) (fun hHeld => ?_)
            rw [← hw7] at hHeld ⊢
            clear hw7
            refine wpAnyH_take (i := 0) (v := ?_) rfl (by kernel_rfl) (by kernel_rfl) (by kernel_rfl) (fun _ _ _ h => h) (Or.inl ⟨by rfl, ?_⟩) (by assumption) ?_
            rotate_left 1
            · (intro W hW; clear hW; go_simp; try with_reducible rfl)
            simp only [Act.put, List.getElem_toArray, List.getElem_cons_zero, List.setIfInBounds_toArray, List.set_cons_zero, List.set_cons_succ]
            refine wpAnyH_take (i := 1) (v := ?_) rfl (by kernel_rfl) (by kernel_rfl) (by kernel_rfl) (fun _ _ _ h => h) (Or.inl ⟨by rfl, ?_⟩) (by assumption) ?_
            rotate_left 1
            · (intro W hW; clear hW; go_simp; try with_reducible rfl)
            simp only [Act.put, List.getElem_toArray, List.getElem_cons_succ, List.getElem_cons_zero, List.setIfInBounds_toArray, List.set_cons_zero, List.set_cons_succ]
            refine wpAnyH_take (i := 2) (v := ?_) rfl (by kernel_rfl) (by kernel_rfl) (by kernel_rfl) (fun _ _ _ h => h) (Or.inl ⟨by rfl, ?_⟩) (by assumption) ?_
            rotate_left 1
            · (intro W hW; skip; go_simp; try with_reducible rfl)
            simp only [Act.put, List.getElem_toArray, List.getElem_cons_succ, List.getElem_cons_zero, List.setIfInBounds_toArray, List.set_cons_zero, List.set_cons_succ]
            refine wpAnyH_take (i := 3) (v := ?_) rfl (by kernel_rfl) (by kernel_rfl) (by kernel_rfl) (fun _ _ _ h => h) (Or.inl ⟨by rfl, ?_⟩) (by assumption) ?_
            rotate_left 1
            · (intro W hW; clear hW; go_simp; try with_reducible rfl)
            simp only [Act.put, List.getElem_toArray, List.getElem_cons_succ, List.getElem_cons_zero, List.setIfInBounds_toArray, List.set_cons_zero, List.set_cons_succ]
            refine wpAnyH_take (i := 5) (v := ?_) rfl (by kernel_rfl) (by kernel_rfl) (by kernel_rfl) (fun _ _ _ h => h) (Or.inl ⟨by rfl, ?_⟩) (by assumption) ?_
            rotate_left 1
            · (intro W hW; clear hW; go_simp; try with_reducible rfl)
            simp only [Act.put, List.getElem_toArray, List.getElem_cons_succ, List.getElem_cons_zero, List.setIfInBounds_toArray, List.set_cons_zero, List.set_cons_succ]
            refine wpAnyH_take (i := 6) (v := ?_) rfl (by kernel_rfl) (by kernel_rfl) (by kernel_rfl) (fun _ _ _ h => h) (Or.inl ⟨by rfl, ?_⟩) (by assumption) ?_
            rotate_left 1
            · (intro W hW; clear hW; go_simp; try with_reducible rfl)
            simp only [Act.put, List.getElem_toArray, List.getElem_cons_succ, List.getElem_cons_zero, List.setIfInBounds_toArray, List.set_cons_zero, List.set_cons_succ]
            refine wpAnyH_ready (rs := [4]) (by kernel_rfl) (by simp) ?_
            refine AllReadyH.cons rfl (fun K hK => ?_) AllReadyH.nil
            go_simp
            skip
            refine hK.out _ _ (hsd7.alloc _) (fun hHeld => ?_)
            clear hK K
            try simp only [Act.put, List.getElem_toArray, List.getElem_cons_succ, List.getElem_cons_zero, List.setIfInBounds_toArray, List.set_cons_zero, List.set_cons_succ]
            refine wpAnyH_take (i := 7) (v := ?_) rfl (by kernel_rfl) (by kernel_rfl) (by kernel_rfl) (fun _ _ _ h => h) (Or.inl ⟨by rfl, ?_⟩) (by assumption) ?_
            rotate_left 1
            · (intro W hW; clear hW; go_simp; try with_reducible rfl)
            simp only [Act.put, List.getElem_toArray, List.getElem_cons_succ, List.getElem_cons_zero, List.setIfInBounds_toArray, List.set_cons_zero, List.set_cons_succ]
            refine wpAnyH_ready (rs := [8]) (by kernel_rfl) (by simp) ?_
            refine AllReadyH.cons rfl (fun K hK => ?_) AllReadyH.nil
            go_simp
            skip
            refine hK.out _ _ ((hsd7.alloc _).setCell (p := ⟨g, 7, none⟩) (.inr rfl) _) (fun hHeld => ?_)
            clear hK K
            try simp only [Act.put, List.getElem_toArray, List.getElem_cons_succ, List.getElem_cons_zero, List.setIfInBounds_toArray, List.set_cons_zero, List.set_cons_succ]
            refine wpAnyH_done (by kernel_rfl) ?_ _
            go_wp2_with fail
            go_roundw
            case rel =>
              have z := Qs4.leaf h47 hgz (m := 1) (by decide) ((Since.refl w7).alloc (.cells #[.int .i64 (b.x + wa), .int .i64 (b.y), .int .i64 (wb), .int .i64 (ha), .int .i64 0, .slice none 0 0, .pointer none, .pointer none, .pointer none, .pointer none] 71)) (c := ⟨b.x + wa, b.y, wb, ha⟩) (Whole.new w7 _ _) (Nat.le_refl _)
              exact ⟨2, _, rfl, by omega, z, (ok_next_leaf HOK.out.1 HOK.out.2 HR.out HQ.out.2.1).1, (ok_next_leaf (NB := w7.heap.size) HOK.out.1 HOK.out.2 HR.out HQ.out.2.1).2⟩
            case measure => simp [intOf]
        · replace hi : _ = Value.int .i64 2 := hi
          subst hi
          obtain ⟨A, hAA⟩ : ∃ A, areaR ⟨b.x, b.y + ha, wa, hb⟩ = A := ⟨_, rfl⟩
          have hne := area_q HG.out (i := 2) (A := A) (by decide) (by rw [HQ.out.2.2.1]; exact hAA)
          have HA := Lib.hid hAA
          have hsd : Since wr wr.drew := (Since.refl wr).drew
          clear hAA
          cases hnr : neR (qtr b 2)
          · have HR := Lib.hid hnr
            rw [hnr] at hne
            clear hnr
            go_upto_region 5 with fail
            obtain ⟨wq, hwq⟩ : ∃ wq, wq = wr.drew := ⟨_, rfl⟩
            refine wp_region_held_drew (S := fun W => Since wr W) (by kernel_rfl) hsd (fun hHeld => ?_)
            rw [← hwq] at hHeld ⊢
            have hq : Since wr wq := hHeld
            clear hwq hsd
            refine wpAnyH_take (i := 0) (v := ?_) rfl (by kernel_rfl) (by kernel_rfl) (by kernel_rfl) (fun _ _ _ h => h) (Or.inl ⟨by rfl, ?_⟩) (by assumption) ?_
            rotate_left 1
            · (intro W hW; clear hW; go_simp; try with_reducible rfl)
            simp only [Act.put, List.getElem_toArray, List.getElem_cons_zero, List.setIfInBounds_toArray, List.set_cons_zero, List.set_cons_succ]
            refine wpAnyH_take (i := 1) (v := ?_) rfl (by kernel_rfl) (by kernel_rfl) (by kernel_rfl) (fun _ _ _ h => h) (Or.inl ⟨by rfl, ?_⟩) (by assumption) ?_
            rotate_left 1
            · (intro W hW; clear hW; go_simp; try with_reducible rfl)
            simp only [Act.put, List.getElem_toArray, List.getElem_cons_succ, List.getElem_cons_zero, List.setIfInBounds_toArray, List.set_cons_zero, List.set_cons_succ]
            refine wpAnyH_take (i := 2) (v := ?_) rfl (by kernel_rfl) (by kernel_rfl) (by kernel_rfl) (fun _ _ _ h => h) (Or.inl ⟨by rfl, ?_⟩) (by assumption) ?_
            rotate_left 1
            · (intro W hW; clear hW; go_simp; try with_reducible rfl)
            simp only [Act.put, List.getElem_toArray, List.getElem_cons_succ, List.getElem_cons_zero, List.setIfInBounds_toArray, List.set_cons_zero, List.set_cons_succ]
            refine wpAnyH_take (i := 3) (v := ?_) rfl (by kernel_rfl) (by kernel_rfl) (by kernel_rfl) (fun _ _ _ h => h) (Or.inl ⟨by rfl, ?_⟩) (by assumption) ?_
            rotate_left 1
            · (intro W hW; clear hW; go_simp; try with_reducible rfl)
            simp only [Act.put, List.getElem_toArray, List.getElem_cons_succ, List.getElem_cons_zero, List.setIfInBounds_toArray, List.set_cons_zero, List.set_cons_succ]
            refine wpAnyH_take (i := 4) (v := ?_) rfl (by kernel_rfl) (by kernel_rfl) (by kernel_rfl) (fun _ _ _ h => h) (Or.inl ⟨by rfl, ?_⟩) (by assumption) ?_
            rotate_left 1
            · (intro W hW; skip; go_simp; try with_reducible rfl)
            simp only [Act.put, List.getElem_toArray, List.getElem_cons_succ, List.getElem_cons_zero, List.setIfInBounds_toArray, List.set_cons_zero, List.set_cons_succ]
            refine wpAnyH_take (i := 5) (v := ?_) rfl (by kernel_rfl) (by kernel_rfl) (by kernel_rfl) (fun _ _ _ h => h) (Or.inl ⟨by rfl, ?_⟩) (by assumption) ?_
            rotate_left 1
            · (intro W hW; clear hW; go_simp; try with_reducible rfl)
            simp only [Act.put, List.getElem_toArray, List.getElem_cons_succ, List.getElem_cons_zero, List.setIfInBounds_toArray, List.set_cons_zero, List.set_cons_succ]
            refine wpAnyH_take (i := 6) (v := ?_) rfl (by kernel_rfl) (by kernel_rfl) (by kernel_rfl) (fun _ _ _ h => h) (Or.inl ⟨by rfl, ?_⟩) (by assumption) ?_
            rotate_left 1
            · (intro W hW; clear hW; go_simp; try with_reducible rfl)
            simp only [Act.put, List.getElem_toArray, List.getElem_cons_succ, List.getElem_cons_zero, List.setIfInBounds_toArray, List.set_cons_zero, List.set_cons_succ]
            refine wpAnyH_take (i := 7) (v := ?_) rfl (by kernel_rfl) (by kernel_rfl) (by kernel_rfl) (fun _ _ _ h => h) (Or.inl ⟨by rfl, ?_⟩) (by assumption) ?_
            rotate_left 1
            · (intro W hW; skip; go_simp; try with_reducible rfl)
            simp only [Act.put, List.getElem_toArray, List.getElem_cons_succ, List.getElem_cons_zero, List.setIfInBounds_toArray, List.set_cons_zero, List.set_cons_succ]
            refine wpAnyH_take (i := 8) (v := ?_) rfl (by kernel_rfl) (by kernel_rfl) (by kernel_rfl) (fun _ _ _ h => h) (Or.inl ⟨by rfl, ?_⟩) (by assumption) ?_
            rotate_left 1
            · (intro W hW; clear hW; go_simp; try with_reducible rfl)
            simp only [Act.put, List.getElem_toArray, List.getElem_cons_succ, List.getElem_cons_zero, List.setIfInBounds_toArray, List.set_cons_zero, List.set_cons_succ]
            refine wpAnyH_take (i := 9) (v := ?_) rfl (by kernel_rfl) (by kernel_rfl) (by kernel_rfl) (fun _ _ _ h => h) (Or.inl ⟨by rfl, ?_⟩) (by assumption) ?_
            rotate_left 1
            · (intro W hW; clear hW; go_simp; try with_reducible rfl)
            simp only [Act.put, List.getElem_toArray, List.getElem_cons_succ, List.getElem_cons_zero, List.setIfInBounds_toArray, List.set_cons_zero, List.set_cons_succ]
            refine wpAnyH_take (i := 10) (v := ?_) rfl (by kernel_rfl) (by kernel_rfl) (by kernel_rfl) (fun _ _ _ h => h) (Or.inl ⟨by rfl, ?_⟩) (by assumption) ?_
            rotate_left 1
            · (intro W hW; clear hW; go_simp; try with_reducible rfl)
            simp only [Act.put, List.getElem_toArray, List.getElem_cons_succ, List.getElem_cons_zero, List.setIfInBounds_toArray, List.set_cons_zero, List.set_cons_succ]
            refine wpAnyH_take (i := 11) (v := ?_) rfl (by kernel_rfl) (by kernel_rfl) (by kernel_rfl) (fun _ _ _ h => h) (Or.inl ⟨by rfl, ?_⟩) (by assumption) ?_
            rotate_left 1
            · (intro W hW; clear hW; go_simp; try with_reducible rfl)
            simp only [Act.put, List.getElem_toArray, List.getElem_cons_succ, List.getElem_cons_zero, List.setIfInBounds_toArray, List.set_cons_zero, List.set_cons_succ]
            refine wpAnyH_take (i := 12) (v := ?_) rfl (by kernel_rfl) (by kernel_rfl) (by kernel_rfl) (fun _ _ _ h => h) (Or.inl ⟨by rfl, ?_⟩) (by assumption) ?_
            rotate_left 1
            · (intro W hW; clear hW; go_simp; try with_reducible rfl)
            simp only [Act.put, List.getElem_toArray, List.getElem_cons_succ, List.getElem_cons_zero, List.setIfInBounds_toArray, List.set_cons_zero, List.set_cons_succ]
            refine wpAnyH_take (i := 13) (v := ?_) rfl (by kernel_rfl) (by kernel_rfl) (by kernel_rfl) (fun _ _ _ h => h) (Or.inl ⟨by rfl, ?_⟩) (by assumption) ?_
            rotate_left 1
            · (intro W hW; clear hW; go_simp; try with_reducible rfl)
            simp only [Act.put, List.getElem_toArray, List.getElem_cons_succ, List.getElem_cons_zero, List.setIfInBounds_toArray, List.set_cons_zero, List.set_cons_succ]
            refine wpAnyH_take (i := 14) (v := ?_) rfl (by kernel_rfl) (by kernel_rfl) (by kernel_rfl) (fun _ _ _ h => h) (Or.inl ⟨by rfl, ?_⟩) (by assumption) ?_
            rotate_left 1
            · (intro W hW; skip; go_simp; try with_reducible rfl)
            simp only [Act.put, List.getElem_toArray, List.getElem_cons_succ, List.getElem_cons_zero, List.setIfInBounds_toArray, List.set_cons_zero, List.set_cons_succ]
            refine wpAnyH_take (i := 15) (v := ?_) rfl (by kernel_rfl) (by kernel_rfl) (by kernel_rfl) (fun _ _ _ h => h) (Or.inl ⟨by rfl, ?_⟩) (by assumption) ?_
            rotate_left 1
            · (intro W hW; clear hW; go_simp; try with_reducible rfl)
            simp only [Act.put, List.getElem_toArray, List.getElem_cons_succ, List.getElem_cons_zero, List.setIfInBounds_toArray, List.set_cons_zero, List.set_cons_succ]
            refine wpAnyH_take (i := 16) (v := ?_) rfl (by kernel_rfl) (by kernel_rfl) (by kernel_rfl) (fun _ _ _ h => h) (Or.inl ⟨by rfl, ?_⟩) (by assumption) ?_
            rotate_left 1
            · (intro W hW; clear hW; go_simp; try with_reducible rfl)
            simp only [Act.put, List.getElem_toArray, List.getElem_cons_succ, List.getElem_cons_zero, List.setIfInBounds_toArray, List.set_cons_zero, List.set_cons_succ]
            refine wpAnyH_take (i := 17) (v := ?_) rfl (by kernel_rfl) (by kernel_rfl) (by kernel_rfl) (fun _ _ _ h => h) (Or.inl ⟨by rfl, ?_⟩) (by assumption) ?_
            rotate_left 1
            · (intro W hW; skip; go_simp; try with_reducible rfl)
            simp only [Act.put, List.getElem_toArray, List.getElem_cons_succ, List.getElem_cons_zero, List.setIfInBounds_toArray, List.set_cons_zero, List.set_cons_succ]
            refine wpAnyH_take (i := 18) (v := ?_) rfl (by kernel_rfl) (by kernel_rfl) (by kernel_rfl) (fun _ _ _ h => h) (Or.inl ⟨by rfl, ?_⟩) (by assumption) ?_
            rotate_left 1
            · (intro W hW; clear hW; go_simp; try with_reducible rfl)
            simp only [Act.put, List.getElem_toArray, List.getElem_cons_succ, List.getElem_cons_zero, List.setIfInBounds_toArray, List.set_cons_zero, List.set_cons_succ]
            refine wpAnyH_take (i := 19) (v := ?_) rfl (by kernel_rfl) (by kernel_rfl) (by kernel_rfl) (fun _ _ _ h => h) (Or.inl ⟨by rfl, ?_⟩) (by assumption) ?_
            rotate_left 1
            · (intro W hW; clear hW; go_simp; try with_reducible rfl)
            simp only [Act.put, List.getElem_toArray, List.getElem_cons_succ, List.getElem_cons_zero, List.setIfInBounds_toArray, List.set_cons_zero, List.set_cons_succ]
            refine wpAnyH_take (i := 20) (v := ?_) rfl (by kernel_rfl) (by kernel_rfl) (by kernel_rfl) (fun _ _ _ h => h) (Or.inl ⟨by rfl, ?_⟩) (by assumption) ?_
            rotate_left 1
            · (intro W hW; clear hW; go_simp; try with_reducible rfl)
            simp only [Act.put, List.getElem_toArray, List.getElem_cons_succ, List.getElem_cons_zero, List.setIfInBounds_toArray, List.set_cons_zero, List.set_cons_succ]
            refine wpAnyH_take (i := 21) (v := ?_) rfl (by kernel_rfl) (by kernel_rfl) (by kernel_rfl) (fun _ _ _ h => h) (Or.inl ⟨by rfl, ?_⟩) (by assumption) ?_
            rotate_left 1
            · (intro W hW; clear hW; go_simp; try with_reducible rfl)
            simp only [Act.put, List.getElem_toArray, List.getElem_cons_succ, List.getElem_cons_zero, List.setIfInBounds_toArray, List.set_cons_zero, List.set_cons_succ]
            refine wpAnyH_take (i := 22) (v := ?_) rfl (by kernel_rfl) (by kernel_rfl) (by kernel_rfl) (fun _ _ _ h => h) (Or.inl ⟨by rfl, ?_⟩) (by assumption) ?_
            rotate_left 1
            · (intro W hW; skip; go_simp; try with_reducible rfl)
            simp only [Act.put, List.getElem_toArray, List.getElem_cons_succ, List.getElem_cons_zero, List.setIfInBounds_toArray, List.set_cons_zero, List.set_cons_succ]
            refine wpAnyH_take (i := 23) (v := ?_) rfl (by kernel_rfl) (by kernel_rfl) (by kernel_rfl) (fun _ _ _ h => h) (Or.inl ⟨by rfl, ?_⟩) (by assumption) ?_
            rotate_left 1
            · (intro W hW; clear hW; go_simp; try with_reducible rfl)
            simp only [Act.put, List.getElem_toArray, List.getElem_cons_succ, List.getElem_cons_zero, List.setIfInBounds_toArray, List.set_cons_zero, List.set_cons_succ]
            refine wpAnyH_take (i := 24) (v := ?_) rfl (by kernel_rfl) (by kernel_rfl) (by kernel_rfl) (fun _ _ _ h => h) (Or.inl ⟨by rfl, ?_⟩) (by assumption) ?_
            rotate_left 1
            · (intro W hW; clear hW; go_simp; try with_reducible rfl)
            simp only [Act.put, List.getElem_toArray, List.getElem_cons_succ, List.getElem_cons_zero, List.setIfInBounds_toArray, List.set_cons_zero, List.set_cons_succ]
            refine wpAnyH_take (i := 25) (v := ?_) rfl (by kernel_rfl) (by kernel_rfl) (by kernel_rfl) (fun _ _ _ h => h) (Or.inl ⟨by rfl, ?_⟩) (by assumption) ?_
            rotate_left 1
            · (intro W hW; skip; go_simp; try with_reducible rfl)
            simp only [Act.put, List.getElem_toArray, List.getElem_cons_succ, List.getElem_cons_zero, List.setIfInBounds_toArray, List.set_cons_zero, List.set_cons_succ]
            refine wpAnyH_take (i := 26) (v := ?_) rfl (by kernel_rfl) (by kernel_rfl) (by kernel_rfl) (fun _ _ _ h => h) (Or.inl ⟨by rfl, ?_⟩) (by assumption) ?_
            rotate_left 1
            · (intro W hW; clear hW; go_simp; try with_reducible rfl)
            simp only [Act.put, List.getElem_toArray, List.getElem_cons_succ, List.getElem_cons_zero, List.setIfInBounds_toArray, List.set_cons_zero, List.set_cons_succ]
            refine wpAnyH_ready (rs := [27]) (by kernel_rfl) (by simp) ?_
            refine AllReadyH.cons rfl (fun K hK => ?_) AllReadyH.nil
            go_simp
            have hgb : wr.heap.size ≤ wq.heap.size := Since.size_ hq
            refine hK.out _ _ ((Since.alloc hq _)) (fun hHeld => ?_)
            clear hK K
            try simp only [Act.put, List.getElem_toArray, List.getElem_cons_succ, List.getElem_cons_zero, List.setIfInBounds_toArray, List.set_cons_zero, List.set_cons_succ]
            refine wpAnyH_ready (rs := [28]) (by kernel_rfl) (by simp) ?_
            refine AllReadyH.cons rfl (fun K hK => ?_) AllReadyH.nil
            go_simp
            skip
            refine hK.out _ _ ((Since.alloc hq _)) (fun hHeld => ?_)
            clear hK K
            try simp only [Act.put, List.getElem_toArray, List.getElem_cons_succ, List.getElem_cons_zero, List.setIfInBounds_toArray, List.set_cons_zero, List.set_cons_succ]
            refine wpAnyH_done (by kernel_rfl) ?_ _
            obtain ⟨w5, hw5⟩ : ∃ w5, w5 = wq.alloc (.cells #[.int .i64 (b.x), .int .i64 (b.y + ha), .int .i64 wa, .int .i64 hb] 63) := ⟨_, rfl⟩
            have hS5 : Since wr w5 := Since.named (Since.alloc hq _) hw5
            have hSl : Since wq w5 := Since.named (Since.alloc (Since.refl _) _) hw5
            have hN5 : Whole w5 wq.heap.size 63 #[.int .i64 (b.x), .int .i64 (b.y + ha), .int .i64 wa, .int .i64 hb] := (Whole.new wq _ _).named hw5
            obtain ⟨NB, hNB⟩ : ∃ NB, NB = wq.heap.size := ⟨_, rfl⟩
            rw [← hw5, ← hNB]
            rw [← hNB] at hN5
            clear hHeld hw5 hNB
            have hne5 : ¬ NB = g := fun e => by subst e; have z := (Since.whole hS5 H4.out.w).symm.trans hN5; injection z with z; injection z with z1 z2; exact absurd z2 (by decide)
            have r0 := off_cell (F := fun c => c = g) hN5 hne5 0 (.int .i64 (b.x)) rfl
            have r1 := off_cell (F := fun c => c = g) hN5 hne5 1 (.int .i64 (b.y + ha)) rfl
            have r2 := off_cell (F := fun c => c = g) hN5 hne5 2 (.int .i64 (wa)) rfl
            have r3 := off_cell (F := fun c => c = g) hN5 hne5 3 (.int .i64 (hb)) rfl
            have hsr := Off.refl (fun c => c = g) w5
            clear a0 a1 x0 x1 y0 y1
            go_wp2_with (go_at_call 86; (with_reducible refine (wArea_at HA.out _).mono ?_); rintro e w6 ⟨rfl, hb6⟩)
            have hs6 : Since wr w6 := Since.trans hS5 hb6
            go_roundw
            case rel => exact ⟨3, q, rfl, by omega, H4.out.since hs6, (ok_next_nil HOK.out.1 HOK.out.2 HR.out).1, (ok_next_nil HOK.out.1 HOK.out.2 HR.out).2⟩
            case measure => simp [intOf]
          · have HR := Lib.hid hnr
            rw [hnr] at hne
            clear hnr
            go_upto_region 5 with fail
            obtain ⟨wq, hwq⟩ : ∃ wq, wq = wr.drew := ⟨_, rfl⟩
            refine wp_region_held_drew (S := fun W => Since wr W) (by kernel_rfl) hsd (fun hHeld => ?_)
            rw [← hwq] at hHeld ⊢
            have hq : Since wr wq := hHeld
            clear hwq hsd
            refine wpAnyH_take (i := 0) (v := ?_) rfl (by kernel_rfl) (by kernel_rfl) (by kernel_rfl) (fun _ _ _ h => h) (Or.inl ⟨by rfl, ?_⟩) (by assumption) ?_
            rotate_left 1
            · (intro W hW; clear hW; go_simp; try with_reducible rfl)
            simp only [Act.put, List.getElem_toArray, List.getElem_cons_zero, List.setIfInBounds_toArray, List.set_cons_zero, List.set_cons_succ]
            refine wpAnyH_take (i := 1) (v := ?_) rfl (by kernel_rfl) (by kernel_rfl) (by kernel_rfl) (fun _ _ _ h => h) (Or.inl ⟨by rfl, ?_⟩) (by assumption) ?_
            rotate_left 1
            · (intro W hW; clear hW; go_simp; try with_reducible rfl)
            simp only [Act.put, List.getElem_toArray, List.getElem_cons_succ, List.getElem_cons_zero, List.setIfInBounds_toArray, List.set_cons_zero, List.set_cons_succ]
            refine wpAnyH_take (i := 2) (v := ?_) rfl (by kernel_rfl) (by kernel_rfl) (by kernel_rfl) (fun _ _ _ h => h) (Or.inl ⟨by rfl, ?_⟩) (by assumption) ?_
            rotate_left 1
            · (intro W hW; clear hW; go_simp; try with_reducible rfl)
            simp only [Act.put, List.getElem_toArray, List.getElem_cons_succ, List.getElem_cons_zero, List.setIfInBounds_toArray, List.set_cons_zero, List.set_cons_succ]
            refine wpAnyH_take (i := 3) (v := ?_) rfl (by kernel_rfl) (by kernel_rfl) (by kernel_rfl) (fun _ _ _ h => h) (Or.inl ⟨by rfl, ?_⟩) (by assumption) ?_
            rotate_left 1
            · (intro W hW; clear hW; go_simp; try with_reducible rfl)
            simp only [Act.put, List.getElem_toArray, List.getElem_cons_succ, List.getElem_cons_zero, List.setIfInBounds_toArray, List.set_cons_zero, List.set_cons_succ]
            refine wpAnyH_take (i := 4) (v := ?_) rfl (by kernel_rfl) (by kernel_rfl) (by kernel_rfl) (fun _ _ _ h => h) (Or.inl ⟨by rfl, ?_⟩) (by assumption) ?_
            rotate_left 1
            · (intro W hW; skip; go_simp; try with_reducible rfl)
            simp only [Act.put, List.getElem_toArray, List.getElem_cons_succ, List.getElem_cons_zero, List.setIfInBounds_toArray, List.set_cons_zero, List.set_cons_succ]
            refine wpAnyH_take (i := 5) (v := ?_) rfl (by kernel_rfl) (by kernel_rfl) (by kernel_rfl) (fun _ _ _ h => h) (Or.inl ⟨by rfl, ?_⟩) (by assumption) ?_
            rotate_left 1
            · (intro W hW; clear hW; go_simp; try with_reducible rfl)
            simp only [Act.put, List.getElem_toArray, List.getElem_cons_succ, List.getElem_cons_zero, List.setIfInBounds_toArray, List.set_cons_zero, List.set_cons_succ]
            refine wpAnyH_take (i := 6) (v := ?_) rfl (by kernel_rfl) (by kernel_rfl) (by kernel_rfl) (fun _ _ _ h => h) (Or.inl ⟨by rfl, ?_⟩) (by assumption) ?_
            rotate_left 1
            · (intro W hW; clear hW; go_simp; try with_reducible rfl)
            simp only [Act.put, List.getElem_toArray, List.getElem_cons_succ, List.getElem_cons_zero, List.setIfInBounds_toArray, List.set_cons_zero, List.set_cons_succ]
            refine wpAnyH_take (i := 7) (v := ?_) rfl (by kernel_rfl) (by kernel_rfl) (by kernel_rfl) (fun _ _ _ h => h) (Or.inl ⟨by rfl, ?_⟩) (by assumption) ?_
            rotate_left 1
            · (intro W hW; skip; go_simp; try with_reducible rfl)
            simp only [Act.put, List.getElem_toArray, List.getElem_cons_succ, List.getElem_cons_zero, List.setIfInBounds_toArray, List.set_cons_zero, List.set_cons_succ]
            refine wpAnyH_take (i := 8) (v := ?_) rfl (by kernel_rfl) (by kernel_rfl) (by kernel_rfl) (fun _ _ _ h => h) (Or.inl ⟨by rfl, ?_⟩) (by assumption) ?_
            rotate_left 1
            · (intro W hW; clear hW; go_simp; try with_reducible rfl)
            simp only [Act.put, List.getElem_toArray, List.getElem_cons_succ, List.getElem_cons_zero, List.setIfInBounds_toArray, List.set_cons_zero, List.set_cons_succ]
            refine wpAnyH_take (i := 9) (v := ?_) rfl (by kernel_rfl) (by kernel_rfl) (by kernel_rfl) (fun _ _ _ h => h) (Or.inl ⟨by rfl, ?_⟩) (by assumption) ?_
            rotate_left 1
            · (intro W hW; clear hW; go_simp; try with_reducible rfl)
            simp only [Act.put, List.getElem_toArray, List.getElem_cons_succ, List.getElem_cons_zero, List.setIfInBounds_toArray, List.set_cons_zero, List.set_cons_succ]
            refine wpAnyH_take (i := 10) (v := ?_) rfl (by kernel_rfl) (by kernel_rfl) (by kernel_rfl) (fun _ _ _ h => h) (Or.inl ⟨by rfl, ?_⟩) (by assumption) ?_
            rotate_left 1
            · (intro W hW; clear hW; go_simp; try with_reducible rfl)
            simp only [Act.put, List.getElem_toArray, List.getElem_cons_succ, List.getElem_cons_zero, List.setIfInBounds_toArray, List.set_cons_zero, List.set_cons_succ]
            refine wpAnyH_take (i := 11) (v := ?_) rfl (by kernel_rfl) (by kernel_rfl) (by kernel_rfl) (fun _ _ _ h => h) (Or.inl ⟨by rfl, ?_⟩) (by assumption) ?_
            rotate_left 1
            · (intro W hW; clear hW; go_simp; try with_reducible rfl)
            simp only [Act.put, List.getElem_toArray, List.getElem_cons_succ, List.getElem_cons_zero, List.setIfInBounds_toArray, List.set_cons_zero, List.set_cons_succ]
            refine wpAnyH_take (i := 12) (v := ?_) rfl (by kernel_rfl) (by kernel_rfl) (by kernel_rfl) (fun _ _ _ h => h) (Or.inl ⟨by rfl, ?_⟩) (by assumption) ?_
            rotate_left 1
            · (intro W hW; clear hW; go_simp; try with_reducible rfl)
            simp only [Act.put, List.getElem_toArray, List.getElem_cons_succ, List.getElem_cons_zero, List.setIfInBounds_toArray, List.set_cons_zero, List.set_cons_succ]
            refine wpAnyH_take (i := 13) (v := ?_) rfl (by kernel_rfl) (by kernel_rfl) (by kernel_rfl) (fun _ _ _ h => h) (Or.inl ⟨by rfl, ?_⟩) (by assumption) ?_
            rotate_left 1
            · (intro W hW; clear hW; go_simp; try with_reducible rfl)
            simp only [Act.put, List.getElem_toArray, List.getElem_cons_succ, List.getElem_cons_zero, List.setIfInBounds_toArray, List.set_cons_zero, List.set_cons_succ]
            refine wpAnyH_take (i := 14) (v := ?_) rfl (by kernel_rfl) (by kernel_rfl) (by kernel_rfl) (fun _ _ _ h => h) (Or.inl ⟨by rfl, ?_⟩) (by assumption) ?_
            rotate_left 1
            · (intro W hW; skip; go_simp; try with_reducible rfl)
            simp only [Act.put, List.getElem_toArray, List.getElem_cons_succ, List.getElem_cons_zero, List.setIfInBounds_toArray, List.set_cons_zero, List.set_cons_succ]
            refine wpAnyH_take (i := 15) (v := ?_) rfl (by kernel_rfl) (by kernel_rfl) (by kernel_rfl) (fun _ _ _ h => h) (Or.inl ⟨by rfl, ?_⟩) (by assumption) ?_
            rotate_left 1
            · (intro W hW; clear hW; go_simp; try with_reducible rfl)
            simp only [Act.put, List.getElem_toArray, List.getElem_cons_succ, List.getElem_cons_zero, List.setIfInBounds_toArray, List.set_cons_zero, List.set_cons_succ]
            refine wpAnyH_take (i := 16) (v := ?_) rfl (by kernel_rfl) (by kernel_rfl) (by kernel_rfl) (fun _ _ _ h => h) (Or.inl ⟨by rfl, ?_⟩) (by assumption) ?_
            rotate_left 1
            · (intro W hW; clear hW; go_simp; try with_reducible rfl)
            simp only [Act.put, List.getElem_toArray, List.getElem_cons_succ, List.getElem_cons_zero, List.setIfInBounds_toArray, List.set_cons_zero, List.set_cons_succ]
            refine wpAnyH_take (i := 17) (v := ?_) rfl (by kernel_rfl) (by kernel_rfl) (by kernel_rfl) (fun _ _ _ h => h) (Or.inl ⟨by rfl, ?_⟩) (by assumption) ?_
            rotate_left 1
            · (intro W hW; skip; go_simp; try with_reducible rfl)
            simp only [Act.put, List.getElem_toArray, List.getElem_cons_succ, List.getElem_cons_zero, List.setIfInBounds_toArray, List.set_cons_zero, List.set_cons_succ]
            refine wpAnyH_take (i := 18) (v := ?_) rfl (by kernel_rfl) (by kernel_rfl) (by kernel_rfl) (fun _ _ _ h => h) (Or.inl ⟨by rfl, ?_⟩) (by assumption) ?_
            rotate_left 1
            · (intro W hW; clear hW; go_simp; try with_reducible rfl)
            simp only [Act.put, List.getElem_toArray, List.getElem_cons_succ, List.getElem_cons_zero, List.setIfInBounds_toArray, List.set_cons_zero, List.set_cons_succ]
            refine wpAnyH_take (i := 19) (v := ?_) rfl (by kernel_rfl) (by kernel_rfl) (by kernel_rfl) (fun _ _ _ h => h) (Or.inl ⟨by rfl, ?_⟩) (by assumption) ?_
            rotate_left 1
            · (intro W hW; clear hW; go_simp; try with_reducible rfl)
            simp only [Act.put, List.getElem_toArray, List.getElem_cons_succ, List.getElem_cons_zero, List.setIfInBounds_toArray, List.set_cons_zero, List.set_cons_succ]
            refine wpAnyH_take (i := 20) (v := ?_) rfl (by kernel_rfl) (by kernel_rfl) (by kernel_rfl) (fun _ _ _ h => h) (Or.inl ⟨by rfl, ?_⟩) (by assumption) ?_
            rotate_left 1
            · (intro W hW; clear hW; go_simp; try with_reducible rfl)
            simp only [Act.put, List.getElem_toArray, List.getElem_cons_succ, List.getElem_cons_zero, List.setIfInBounds_toArray, List.set_cons_zero, List.set_cons_succ]
            refine wpAnyH_take (i := 21) (v := ?_) rfl (by kernel_rfl) (by kernel_rfl) (by kernel_rfl) (fun _ _ _ h => h) (Or.inl ⟨by rfl, ?_⟩) (by assumption) ?_
            rotate_left 1
            · (intro W hW; clear hW; go_simp; try with_reducible rfl)
            simp only [Act.put, List.getElem_toArray, List.getElem_cons_succ, List.getElem_cons_zero, List.setIfInBounds_toArray, List.set_cons_zero, List.set_cons_succ]
            refine wpAnyH_take (i := 22) (v := ?_) rfl (by kernel_rfl) (by kernel_rfl) (by kernel_rfl) (fun _ _ _ h => h) (Or.inl ⟨by rfl, ?_⟩) (by assumption) ?_
            rotate_left 1
            · (intro W hW; skip; go_simp; try with_reducible rfl)
            simp only [Act.put, List.getElem_toArray, List.getElem_cons_succ, List.getElem_cons_zero, List.setIfInBounds_toArray, List.set_cons_zero, List.set_cons_succ]
            refine wpAnyH_take (i := 23) (v := ?_) rfl (by kernel_rfl) (by kernel_rfl) (by kernel_rfl) (fun _ _ _ h => h) (Or.inl ⟨by rfl, ?_⟩) (by assumption) ?_
            rotate_left 1
            · (intro W hW; clear hW; go_simp; try with_reducible rfl)
            simp only [Act.put, List.getElem_toArray, List.getElem_cons_succ, List.getElem_cons_zero, List.setIfInBounds_toArray, List.set_cons_zero, List.set_cons_succ]
            refine wpAnyH_take (i := 24) (v := ?_) rfl (by kernel_rfl) (by kernel_rfl) (by kernel_rfl) (fun _ _ _ h => h) (Or.inl ⟨by rfl, ?_⟩) (by assumption) ?_
            rotate_left 1
            · (intro W hW; clear hW; go_simp; try with_reducible rfl)
            simp only [Act.put, List.getElem_toArray, List.getElem_cons_succ, List.getElem_cons_zero, List.setIfInBounds_toArray, List.set_cons_zero, List.set_cons_succ]
            refine wpAnyH_take (i := 25) (v := ?_) rfl (by kernel_rfl) (by kernel_rfl) (by kernel_rfl) (fun _ _ _ h => h) (Or.inl ⟨by rfl, ?_⟩) (by assumption) ?_
            rotate_left 1
            · (intro W hW; skip; go_simp; try with_reducible rfl)
            simp only [Act.put, List.getElem_toArray, List.getElem_cons_succ, List.getElem_cons_zero, List.setIfInBounds_toArray, List.set_cons_zero, List.set_cons_succ]
            refine wpAnyH_take (i := 26) (v := ?_) rfl (by kernel_rfl) (by kernel_rfl) (by kernel_rfl) (fun _ _ _ h => h) (Or.inl ⟨by rfl, ?_⟩) (by assumption) ?_
            rotate_left 1
            · (intro W hW; clear hW; go_simp; try with_reducible rfl)
            simp only [Act.put, List.getElem_toArray, List.getElem_cons_succ, List.getElem_cons_zero, List.setIfInBounds_toArray, List.set_cons_zero, List.set_cons_succ]
            refine wpAnyH_ready (rs := [27]) (by kernel_rfl) (by simp) ?_
            refine AllReadyH.cons rfl (fun K hK => ?_) AllReadyH.nil
            go_simp
            have hgb : wr.heap.size ≤ wq.heap.size := Since.size_ hq
            refine hK.out _ _ ((Since.alloc hq _)) (fun hHeld => ?_)
            clear hK K
            try simp only [Act.put, List.getElem_toArray, List.getElem_cons_succ, List.getElem_cons_zero, List.setIfInBounds_toArray, List.set_cons_zero, List.set_cons_succ]
            refine wpAnyH_ready (rs := [28]) (by kernel_rfl) (by simp) ?_
            refine AllReadyH.cons rfl (fun K hK => ?_) AllReadyH.nil
            go_simp
            skip
            refine hK.out _ _ ((Since.alloc hq _)) (fun hHeld => ?_)
            clear hK K
            try simp only [Act.put, List.getElem_toArray, List.getElem_cons_succ, List.getElem_cons_zero, List.setIfInBounds_toArray, List.set_cons_zero, List.set_cons_succ]
            refine wpAnyH_done (by kernel_rfl) ?_ _
            obtain ⟨w5, hw5⟩ : ∃ w5, w5 = wq.alloc (.cells #[.int .i64 (b.x), .int .i64 (b.y + ha), .int .i64 wa, .int .i64 hb] 63) := ⟨_, rfl⟩
            have hS5 : Since wr w5 := Since.named (Since.alloc hq _) hw5
            have hSl : Since wq w5 := Since.named (Since.alloc (Since.refl _) _) hw5
            have hN5 : Whole w5 wq.heap.size 63 #[.int .i64 (b.x), .int .i64 (b.y + ha), .int .i64 wa, .int .i64 hb] := (Whole.new wq _ _).named hw5
            obtain ⟨NB, hNB⟩ : ∃ NB, NB = wq.heap.size := ⟨_, rfl⟩
            rw [← hw5, ← hNB]
            rw [← hNB] at hN5
            clear hHeld hw5 hNB
            have hne5 : ¬ NB = g := fun e => by subst e; have z := (Since.whole hS5 H4.out.w).symm.trans hN5; injection z with z; injection z with z1 z2; exact absurd z2 (by decide)
            have r0 := off_cell (F := fun c => c = g) hN5 hne5 0 (.int .i64 (b.x)) rfl
            have r1 := off_cell (F := fun c => c = g) hN5 hne5 1 (.int .i64 (b.y + ha)) rfl
            have r2 := off_cell (F := fun c => c = g) hN5 hne5 2 (.int .i64 (wa)) rfl
            have r3 := off_cell (F := fun c => c = g) hN5 hne5 3 (.int .i64 (hb)) rfl
            have hsr := Off.refl (fun c => c = g) w5
            clear a0 a1 x0 x1 y0 y1
            go_wp2_with (go_at_call 86; (with_reducible refine (wArea_at HA.out _).mono ?_); rintro e w6 ⟨rfl, hb6⟩)
            have hs6 : Since wr w6 := Since.trans hS5 hb6
            have hb7 : Since w5 w6.drew := Since.drew hb6
            obtain ⟨w7, hw7⟩ : ∃ x, x = w6.drew := ⟨_, rfl⟩
            have hs7 : Since wr w7 := by rw [hw7]; exact hs6.drew
            rw [← hw7] at hb7
            have hsd7 := hb7.off (fun c => c = g)
            have h47 := H4.out.since hs7
            have z0 : ∀ o, (w7.alloc o).cell? ⟨g, 8, none⟩ = some (.pointer none) := fun o => ((h47.w.alloc o).cell 8).trans ((ncells_q _ _ _ _ 2 (by decide)).trans (by rw [HOK.out.2 2 (Nat.le_refl _)]; rfl))
            have z1 : ∀ o, (w7.alloc o).frozen? ⟨g, 8, none⟩ = false := fun o => (h47.w.alloc o).frozen 8
            refine wp_region_held_drew (S := fun W' => Off (fun c => c = g) w5 W') (by kernel_rfl) (hw7 ▸ hsd7) (fun hHeld => ?_)
            rw [← hw7] at hHeld ⊢
            clear hw7
            refine wpAnyH_take (i := 0) (v := ?_) rfl (by kernel_rfl) (by kernel_rfl) (by kernel_rfl) (fun _ _ _ h => h) (Or.inl ⟨by rfl, ?_⟩) (by assumption) ?_
            rotate_left 1
            · (intro W hW; clear hW; go_simp; try with_reducible rfl)
            simp only [Act.put, List.getElem_toArray, List.getElem_cons_zero, List.setIfInBounds_toArray, List.set_cons_zero, List.set_cons_succ]
            refine wpAnyH_take (i := 1) (v := ?_) rfl (by kernel_rfl) (by kernel_rfl) (by kernel_rfl) (fun _ _ _ h => h) (Or.inl ⟨by rfl, ?_⟩) (by assumption) ?_
            rotate_left 1
            · (intro W hW; clear hW; go_simp; try with_reducible rfl)
            simp only [Act.put, List.getElem_toArray, List.getElem_cons_succ, List.getElem_cons_zero, List.setIfInBounds_toArray, List.set_cons_zero, List.set_cons_succ]
            refine wpAnyH_take (i := 2) (v := ?_) rfl (by kernel_rfl) (by kernel_rfl) (by kernel_rfl) (fun _ _ _ h => h) (Or.inl ⟨by rfl, ?_⟩) (by assumption) ?_
            rotate_left 1
            · (intro W hW; skip; go_simp; try with_reducible rfl)
            simp only [Act.put, List.getElem_toArray, List.getElem_cons_succ, List.getElem_cons_zero, List.setIfInBounds_toArray, List.set_cons_zero, List.set_cons_succ]
            refine wpAnyH_take (i := 3) (v := ?_) rfl (by kernel_rfl) (by kernel_rfl) (by kernel_rfl) (fun _ _ _ h => h) (Or.inl ⟨by rfl, ?_⟩) (by assumption) ?_
            rotate_left 1
            · (intro W hW; clear hW; go_simp; try with_reducible rfl)
            simp only [Act.put, List.getElem_toArray, List.getElem_cons_succ, List.getElem_cons_zero, List.setIfInBounds_toArray, List.set_cons_zero, List.set_cons_succ]
            refine wpAnyH_take (i := 5) (v := ?_) rfl (by kernel_rfl) (by kernel_rfl) (by kernel_rfl) (fun _ _ _ h => h) (Or.inl ⟨by rfl, ?_⟩) (by assumption) ?_
            rotate_left 1
            · (intro W hW; clear hW; go_simp; try with_reducible rfl)
            simp only [Act.put, List.getElem_toArray, List.getElem_cons_succ, List.getElem_cons_zero, List.setIfInBounds_toArray, List.set_cons_zero, List.set_cons_succ]
            refine wpAnyH_take (i := 6) (v := ?_) rfl (by kernel_rfl) (by kernel_rfl) (by kernel_rfl) (fun _ _ _ h => h) (Or.inl ⟨by rfl, ?_⟩) (by assumption) ?_
            rotate_left 1
            · (intro W hW; clear hW; go_simp; try with_reducible rfl)
            simp only [Act.put, List.getElem_toArray, List.getElem_cons_succ, List.getElem_cons_zero, List.setIfInBounds_toArray, List.set_cons_zero, List.set_cons_succ]
            refine wpAnyH_ready (rs := [4]) (by kernel_rfl) (by simp) ?_
            refine AllReadyH.cons rfl (fun K hK => ?_) AllReadyH.nil
            go_simp
            skip
            refine hK.out _ _ (hsd7.alloc _) (fun hHeld => ?_)
            clear hK K
            try simp only [Act.put, List.getElem_toArray, List.getElem_cons_succ, List.getElem_cons_zero, List.setIfInBounds_toArray, List.set_cons_zero, List.set_cons_succ]
            refine wpAnyH_take (i := 7) (v := ?_) rfl (by kernel_rfl) (by kernel_rfl) (by kernel_rfl) (fun _ _ _ h => h) (Or.inl ⟨by rfl, ?_⟩) (by assumption) ?_
            rotate_left 1
            · (intro W hW; clear hW; go_simp; try with_reducible rfl)
            simp only [Act.put, List.getElem_toArray, List.getElem_cons_succ, List.getElem_cons_zero, List.setIfInBounds_toArray, List.set_cons_zero, List.set_cons_succ]
            refine wpAnyH_ready (rs := [8]) (by kernel_rfl) (by simp) ?_
            refine AllReadyH.cons rfl (fun K hK => ?_) AllReadyH.nil
            go_simp
            skip
            refine hK.out _ _ ((hsd7.alloc _).setCell (p := ⟨g, 8, none⟩) (.inr rfl) _) (fun hHeld => ?_)
            clear hK K
            try simp only [Act.put, List.getElem_toArray, List.getElem_cons_succ, List.getElem_cons_zero, List.setIfInBounds_toArray, List.set_cons_zero, List.set_cons_succ]
            refine wpAnyH_done (by kernel_rfl) ?_ _
            go_wp2_with fail
            go_roundw
            case rel =>
              have z := Qs4.leaf h47 hgz (m := 2) (by decide) ((Since.refl w7).alloc (.cells #[.int .i64 (b.x), .int .i64 (b.y + ha), .int .i64 (wa), .int .i64 (hb), .int .i64 0, .slice none 0 0, .pointer none, .pointer none, .pointer none, .pointer none] 71)) (c := ⟨b.x, b.y + ha, wa, hb⟩) (Whole.new w7 _ _) (Nat.le_refl _)
              exact ⟨3, _, rfl, by omega, z, (ok_next_leaf HOK.out.1 HOK.out.2 HR.out HQ.out.2.2.1).1, (ok_next_leaf (NB := w7.heap.size) HOK.out.1 HOK.out.2 HR.out HQ.out.2.2.1).2⟩
            case measure => simp [intOf]
        · replace hi : _ = Value.int .i64 3 := hi
          subst hi
          obtain ⟨A, hAA⟩ : ∃ A, areaR ⟨b.x + wa, b.y + ha, wb, hb⟩ = A := ⟨_, rfl⟩
          have hne := area_q HG.out (i := 3) (A := A) (by decide) (by rw [HQ.out.2.2.2]; exact hAA)
          have HA := Lib.hid hAA
          have hsd : Since wr wr.drew := (Since.refl wr).drew
          clear hAA
          cases hnr : neR (qtr b 3)
          · have HR := Lib.hid hnr
            rw [hnr] at hne
            clear hnr
            go_upto_region 5 with fail
            obtain ⟨wq, hwq⟩ : ∃ wq, wq = wr.drew := ⟨_, rfl⟩
            refine wp_region_held_drew (S := fun W => Since wr W) (by kernel_rfl) hsd (fun hHeld => ?_)
            rw [← hwq] at hHeld ⊢
            have hq : Since wr wq := hHeld
            clear hwq hsd
            refine wpAnyH_take (i := 0) (v := ?_) rfl (by kernel_rfl) (by kernel_rfl) (by kernel_rfl) (fun _ _ _ h => h) (Or.inl ⟨by rfl, ?_⟩) (by assumption) ?_
            rotate_left 1
            · (intro W hW; clear hW; go_simp; try with_reducible rfl)
            simp only [Act.put, List.getElem_toArray, List.getElem_cons_zero, List.setIfInBounds_toArray, List.set_cons_zero, List.set_cons_succ]
            refine wpAnyH_take (i := 1) (v := ?_) rfl (by kernel_rfl) (by kernel_rfl) (by kernel_rfl) (fun _ _ _ h => h) (Or.inl ⟨by rfl, ?_⟩) (by assumption) ?_
            rotate_left 1
            · (intro W hW; clear hW; go_simp; try with_reducible rfl)
            simp only [Act.put, List.getElem_toArray, List.getElem_cons_succ, List.getElem_cons_zero, List.setIfInBounds_toArray, List.set_cons_zero, List.set_cons_succ]
            refine wpAnyH_take (i := 2) (v := ?_) rfl (by kernel_rfl) (by kernel_rfl) (by kernel_rfl) (fun _ _ _ h => h) (Or.inl ⟨by rfl, ?_⟩) (by assumption) ?_
            rotate_left 1
            · (intro W hW; clear hW; go_simp; try with_reducible rfl)
            simp only [Act.put, List.getElem_toArray, List.getElem_cons_succ, List.getElem_cons_zero, List.setIfInBounds_toArray, List.set_cons_zero, List.set_cons_succ]
            refine wpAnyH_take (i := 3) (v := ?_) rfl (by kernel_rfl) (by kernel_rfl) (by kernel_rfl) (fun _ _ _ h => h) (Or.inl ⟨by rfl, ?_⟩) (by assumption) ?_
            rotate_left 1
            · (intro W hW; clear hW; go_simp; try with_reducible rfl)
            simp only [Act.put, List.getElem_toArray, List.getElem_cons_succ, List.getElem_cons_zero, List.setIfInBounds_toArray, List.set_cons_zero, List.set_cons_succ]
            refine wpAnyH_take (i := 4) (v := ?_) rfl (by kernel_rfl) (by kernel_rfl) (by kernel_rfl) (fun _ _ _ h => h) (Or.inl ⟨by rfl, ?_⟩) (by assumption) ?_
            rotate_left 1
            · (intro W hW; skip; go_simp; try with_reducible rfl)
            simp only [Act.put, List.getElem_toArray, List.getElem_cons_succ, List.getElem_cons_zero, List.setIfInBounds_toArray, List.set_cons_zero, List.set_cons_succ]
            refine wpAnyH_take (i := 5) (v := ?_) rfl (by kernel_rfl) (by kernel_rfl) (by kernel_rfl) (fun _ _ _ h => h) (Or.inl ⟨by rfl, ?_⟩) (by assumption) ?_
            rotate_left 1
            · (intro W hW; clear hW; go_simp; try with_reducible rfl)
            simp only [Act.put, List.getElem_toArray, List.getElem_cons_succ, List.getElem_cons_zero, List.setIfInBounds_toArray, List.set_cons_zero, List.set_cons_succ]
            refine wpAnyH_take (i := 6) (v := ?_) rfl (by kernel_rfl) (by kernel_rfl) (by kernel_rfl) (fun _ _ _ h => h) (Or.inl ⟨by rfl, ?_⟩) (by assumption) ?_
            rotate_left 1
            · (intro W hW; clear hW; go_simp; try with_reducible rfl)
            simp only [Act.put, List.getElem_toArray, List.getElem_cons_succ, List.getElem_cons_zero, List.setIfInBounds_toArray, List.set_cons_zero, List.set_cons_succ]
            refine wpAnyH_take (i := 7) (v := ?_) rfl (by kernel_rfl) (by kernel_rfl) (by kernel_rfl) (fun _ _ _ h => h) (Or.inl ⟨by rfl, ?_⟩) (by assumption) ?_
            rotate_left 1
            · (intro W hW; skip; go_simp; try with_reducible rfl)
            simp only [Act.put, List.getElem_toArray, List.getElem_cons_succ, List.getElem_cons_zero, List.setIfInBounds_toArray, List.set_cons_zero, List.set_cons_succ]
            refine wpAnyH_take (i := 8) (v := ?_) rfl (by kernel_rfl) (by kernel_rfl) (by kernel_rfl) (fun _ _ _ h => h) (Or.inl ⟨by rfl, ?_⟩) (by assumption) ?_
            rotate_left 1
            · (intro W hW; clear hW; go_simp; try with_reducible rfl)
            simp only [Act.put, List.getElem_toArray, List.getElem_cons_succ, List.getElem_cons_zero, List.setIfInBounds_toArray, List.set_cons_zero, List.set_cons_succ]
            refine wpAnyH_take (i := 9) (v := ?_) rfl (by kernel_rfl) (by kernel_rfl) (by kernel_rfl) (fun _ _ _ h => h) (Or.inl ⟨by rfl, ?_⟩) (by assumption) ?_
            rotate_left 1
            · (intro W hW; clear hW; go_simp; try with_reducible rfl)
            simp only [Act.put, List.getElem_toArray, List.getElem_cons_succ, List.getElem_cons_zero, List.setIfInBounds_toArray, List.set_cons_zero, List.set_cons_succ]
            refine wpAnyH_take (i := 10) (v := ?_) rfl (by kernel_rfl) (by kernel_rfl) (by kernel_rfl) (fun _ _ _ h => h) (Or.inl ⟨by rfl, ?_⟩) (by assumption) ?_
            rotate_left 1
            · (intro W hW; clear hW; go_simp; try with_reducible rfl)
            simp only [Act.put, List.getElem_toArray, List.getElem_cons_succ, List.getElem_cons_zero, List.setIfInBounds_toArray, List.set_cons_zero, List.set_cons_succ]
            refine wpAnyH_take (i := 11) (v := ?_) rfl (by kernel_rfl) (by kernel_rfl) (by kernel_rfl) (fun _ _ _ h => h) (Or.inl ⟨by rfl, ?_⟩) (by assumption) ?_
            rotate_left 1
            · (intro W hW; clear hW; go_simp; try with_reducible rfl)
            simp only [Act.put, List.getElem_toArray, List.getElem_cons_succ, List.getElem_cons_zero, List.setIfInBounds_toArray, List.set_cons_zero, List.set_cons_succ]
            refine wpAnyH_take (i := 12) (v := ?_) rfl (by kernel_rfl) (by kernel_rfl) (by kernel_rfl) (fun _ _ _ h => h) (Or.inl ⟨by rfl, ?_⟩) (by assumption) ?_
            rotate_left 1
            · (intro W hW; clear hW; go_simp; try with_reducible rfl)
            simp only [Act.put, List.getElem_toArray, List.getElem_cons_succ, List.getElem_cons_zero, List.setIfInBounds_toArray, List.set_cons_zero, List.set_cons_succ]
            refine wpAnyH_take (i := 13) (v := ?_) rfl (by kernel_rfl) (by kernel_rfl) (by kernel_rfl) (fun _ _ _ h => h) (Or.inl ⟨by rfl, ?_⟩) (by assumption) ?_
            rotate_left 1
            · (intro W hW; clear hW; go_simp; try with_reducible rfl)
            simp only [Act.put, List.getElem_toArray, List.getElem_cons_succ, List.getElem_cons_zero, List.setIfInBounds_toArray, List.set_cons_zero, List.set_cons_succ]
            refine wpAnyH_take (i := 14) (v := ?_) rfl (by kernel_rfl) (by kernel_rfl) (by kernel_rfl) (fun _ _ _ h => h) (Or.inl ⟨by rfl, ?_⟩) (by assumption) ?_
            rotate_left 1
            · (intro W hW; skip; go_simp; try with_reducible rfl)
            simp only [Act.put, List.getElem_toArray, List.getElem_cons_succ, List.getElem_cons_zero, List.setIfInBounds_toArray, List.set_cons_zero, List.set_cons_succ]
            refine wpAnyH_take (i := 15) (v := ?_) rfl (by kernel_rfl) (by kernel_rfl) (by kernel_rfl) (fun _ _ _ h => h) (Or.inl ⟨by rfl, ?_⟩) (by assumption) ?_
            rotate_left 1
            · (intro W hW; clear hW; go_simp; try with_reducible rfl)
            simp only [Act.put, List.getElem_toArray, List.getElem_cons_succ, List.getElem_cons_zero, List.setIfInBounds_toArray, List.set_cons_zero, List.set_cons_succ]
            refine wpAnyH_take (i := 16) (v := ?_) rfl (by kernel_rfl) (by kernel_rfl) (by kernel_rfl) (fun _ _ _ h => h) (Or.inl ⟨by rfl, ?_⟩) (by assumption) ?_
            rotate_left 1
            · (intro W hW; clear hW; go_simp; try with_reducible rfl)
            simp only [Act.put, List.getElem_toArray, List.getElem_cons_succ, List.getElem_cons_zero, List.setIfInBounds_toArray, List.set_cons_zero, List.set_cons_succ]
            refine wpAnyH_take (i := 17) (v := ?_) rfl (by kernel_rfl) (by kernel_rfl) (by kernel_rfl) (fun _ _ _ h => h) (Or.inl ⟨by rfl, ?_⟩) (by assumption) ?_
            rotate_left 1
            · (intro W hW; skip; go_simp; try with_reducible rfl)
            simp only [Act.put, List.getElem_toArray, List.getElem_cons_succ, List.getElem_cons_zero, List.setIfInBounds_toArray, List.set_cons_zero, List.set_cons_succ]
            refine wpAnyH_take (i := 18) (v := ?_) rfl (by kernel_rfl) (by kernel_rfl) (by kernel_rfl) (fun _ _ _ h => h) (Or.inl ⟨by rfl, ?_⟩) (by assumption) ?_
            rotate_left 1
            · (intro W hW; clear hW; go_simp; try with_reducible rfl)
            simp only [Act.put, List.getElem_toArray, List.getElem_cons_succ, List.getElem_cons_zero, List.setIfInBounds_toArray, List.set_cons_zero, List.set_cons_succ]
            refine wpAnyH_take (i := 19) (v := ?_) rfl (by kernel_rfl) (by kernel_rfl) (by kernel_rfl) (fun _ _ _ h => h) (Or.inl ⟨by rfl, ?_⟩) (by assumption) ?_
            rotate_left 1
            · (intro W hW; clear hW; go_simp; try with_reducible rfl)
            simp only [Act.put, List.getElem_toArray, List.getElem_cons_succ, List.getElem_cons_zero, List.setIfInBounds_toArray, List.set_cons_zero, List.set_cons_succ]
            refine wpAnyH_take (i := 20) (v := ?_) rfl (by kernel_rfl) (by kernel_rfl) (by kernel_rfl) (fun _ _ _ h => h) (Or.inl ⟨by rfl, ?_⟩) (by assumption) ?_
            rotate_left 1
            · (intro W hW; clear hW; go_simp; try with_reducible rfl)
            simp only [Act.put, List.getElem_toArray, List.getElem_cons_succ, List.getElem_cons_zero, List.setIfInBounds_toArray, List.set_cons_zero, List.set_cons_succ]
            refine wpAnyH_take (i := 21) (v := ?_) rfl (by kernel_rfl) (by kernel_rfl) (by kernel_rfl) (fun _ _ _ h => h) (Or.inl ⟨by rfl, ?_⟩) (by assumption) ?_
            rotate_left 1
            · (intro W hW; clear hW; go_simp; try with_reducible rfl)
            simp only [Act.put, List.getElem_toArray, List.getElem_cons_succ, List.getElem_cons_zero, List.setIfInBounds_toArray, List.set_cons_zero, List.set_cons_succ]
            refine wpAnyH_take (i := 22) (v := ?_) rfl (by kernel_rfl) (by kernel_rfl) (by kernel_rfl) (fun _ _ _ h => h) (Or.inl ⟨by rfl, ?_⟩) (by assumption) ?_
            rotate_left 1
            · (intro W hW; skip; go_simp; try with_reducible rfl)
            simp only [Act.put, List.getElem_toArray, List.getElem_cons_succ, List.getElem_cons_zero, List.setIfInBounds_toArray, List.set_cons_zero, List.set_cons_succ]
            refine wpAnyH_take (i := 23) (v := ?_) rfl (by kernel_rfl) (by kernel_rfl) (by kernel_rfl) (fun _ _ _ h => h) (Or.inl ⟨by rfl, ?_⟩) (by assumption) ?_
            rotate_left 1
            · (intro W hW; clear hW; go_simp; try with_reducible rfl)
            simp only [Act.put, List.getElem_toArray, List.getElem_cons_succ, List.getElem_cons_zero, List.setIfInBounds_toArray, List.set_cons_zero, List.set_cons_succ]
            refine wpAnyH_take (i := 24) (v := ?_) rfl (by kernel_rfl) (by kernel_rfl) (by kernel_rfl) (fun _ _ _ h => h) (Or.inl ⟨by rfl, ?_⟩) (by assumption) ?_
            rotate_left 1
            · (intro W hW; clear hW; go_simp; try with_reducible rfl)
            simp only [Act.put, List.getElem_toArray, List.getElem_cons_succ, List.getElem_cons_zero, List.setIfInBounds_toArray, List.set_cons_zero, List.set_cons_succ]
            refine wpAnyH_take (i := 25) (v := ?_) rfl (by kernel_rfl) (by kernel_rfl) (by kernel_rfl) (fun _ _ _ h => h) (Or.inl ⟨by rfl, ?_⟩) (by assumption) ?_
            rotate_left 1
            · (intro W hW; skip; go_simp; try with_reducible rfl)
            simp only [Act.put, List.getElem_toArray, List.getElem_cons_succ, List.getElem_cons_zero, List.setIfInBounds_toArray, List.set_cons_zero, List.set_cons_succ]
            refine wpAnyH_take (i := 26) (v := ?_) rfl (by kernel_rfl) (by kernel_rfl) (by kernel_rfl) (fun _ _ _ h => h) (Or.inl ⟨by rfl, ?_⟩) (by assumption) ?_
            rotate_left 1
            · (intro W hW; clear hW; go_simp; try with_reducible rfl)
            simp only [Act.put, List.getElem_toArray, List.getElem_cons_succ, List.getElem_cons_zero, List.setIfInBounds_toArray, List.set_cons_zero, List.set_cons_succ]
            refine wpAnyH_ready (rs := [27]) (by kernel_rfl) (by simp) ?_
            refine AllReadyH.cons rfl (fun K hK => ?_) AllReadyH.nil
            go_simp
            have hgb : wr.heap.size ≤ wq.heap.size := Since.size_ hq
            refine hK.out _ _ ((Since.alloc hq _)) (fun hHeld => ?_)
            clear hK K
            try simp only [Act.put, List.getElem_toArray, List.getElem_cons_succ, List.getElem_cons_zero, List.setIfInBounds_toArray, List.set_cons_zero, List.set_cons_succ]
            refine wpAnyH_ready (rs := [28]) (by kernel_rfl) (by simp) ?_
            refine AllReadyH.cons rfl (fun K hK => ?_) AllReadyH.nil
            go_simp
            skip
            refine hK.out _ _ ((Since.alloc hq _)) (fun hHeld => ?_)
            clear hK K
            try simp only [Act.put, List.getElem_toArray, List.getElem_cons_succ, List.getElem_cons_zero, List.setIfInBounds_toArray, List.set_cons_zero, List.set_cons_succ]
            refine wpAnyH_done (by kernel_rfl) ?_ _
            obtain ⟨w5, hw5⟩ : ∃ w5, w5 = wq.alloc (.cells #[.int .i64 (b.x + wa), .int .i64 (b.y + ha), .int .i64 wb, .int .i64 hb] 63) := ⟨_, rfl⟩
            have hS5 : Since wr w5 := Since.named (Since.alloc hq _) hw5
            have hSl : Since wq w5 := Since.named (Since.alloc (Since.refl _) _) hw5
            have hN5 : Whole w5 wq.heap.size 63 #[.int .i64 (b.x + wa), .int .i64 (b.y + ha), .int .i64 wb, .int .i64 hb] := (Whole.new wq _ _).named hw5
            obtain ⟨NB, hNB⟩ : ∃ NB, NB = wq.heap.size := ⟨_, rfl⟩
            rw [← hw5, ← hNB]
            rw [← hNB] at hN5
            clear hHeld hw5 hNB
            have hne5 : ¬ NB = g := fun e => by subst e; have z := (Since.whole hS5 H4.out.w).symm.trans hN5; injection z with z; injection z with z1 z2; exact absurd z2 (by decide)
            have r0 := off_cell (F := fun c => c = g) hN5 hne5 0 (.int .i64 (b.x + wa)) rfl
            have r1 := off_cell (F := fun c => c = g) hN5 hne5 1 (.int .i64 (b.y + ha)) rfl
            have r2 := off_cell (F := fun c => c = g) hN5 hne5 2 (.int .i64 (wb)) rfl
            have r3 := off_cell (F := fun c => c = g) hN5 hne5 3 (.int .i64 (hb)) rfl
            have hsr := Off.refl (fun c => c = g) w5
            clear a0 a1 x0 x1 y0 y1
            go_wp2_with (go_at_call 86; (with_reducible refine (wArea_at HA.out _).mono ?_); rintro e w6 ⟨rfl, hb6⟩)
            have hs6 : Since wr w6 := Since.trans hS5 hb6
            go_roundw
            case rel => exact ⟨4, q, rfl, by omega, H4.out.since hs6, (ok_next_nil HOK.out.1 HOK.out.2 HR.out).1, (ok_next_nil HOK.out.1 HOK.out.2 HR.out).2⟩
            case measure => simp [intOf]
          · have HR := Lib.hid hnr
            rw [hnr] at hne
            clear hnr
            go_upto_region 5 with fail
            obtain ⟨wq, hwq⟩ : ∃ wq, wq = wr.drew := ⟨_, rfl⟩
            refine wp_region_held_drew (S := fun W => Since wr W) (by kernel_rfl) hsd (fun hHeld => ?_)
            rw [← hwq] at hHeld ⊢
            have hq : Since wr wq := hHeld
            clear hwq hsd
            refine wpAnyH_take (i := 0) (v := ?_) rfl (by kernel_rfl) (by kernel_rfl) (by kernel_rfl) (fun _ _ _ h => h) (Or.inl ⟨by rfl, ?_⟩) (by assumption) ?_
            rotate_left 1
            · (intro W hW; clear hW; go_simp; try with_reducible rfl)
            simp only [Act.put, List.getElem_toArray, List.getElem_cons_zero, List.setIfInBounds_toArray, List.set_cons_zero, List.set_cons_succ]
            refine wpAnyH_take (i := 1) (v := ?_) rfl (by kernel_rfl) (by kernel_rfl) (by kernel_rfl) (fun _ _ _ h => h) (Or.inl ⟨by rfl, ?_⟩) (by assumption) ?_
            rotate_left 1
            · (intro W hW; clear hW; go_simp; try with_reducible rfl)
            simp only [Act.put, List.getElem_toArray, List.getElem_cons_succ, List.getElem_cons_zero, List.setIfInBounds_toArray, List.set_cons_zero, List.set_cons_succ]
            refine wpAnyH_take (i := 2) (v := ?_) rfl (by kernel_rfl) (by kernel_rfl) (by kernel_rfl) (fun _ _ _ h => h) (Or.inl ⟨by rfl, ?_⟩) (by assumption) ?_
            rotate_left 1
            · (intro W hW; clear hW; go_simp; try with_reducible rfl)
            simp only [Act.put, List.getElem_toArray, List.getElem_cons_succ, List.getElem_cons_zero, List.setIfInBounds_toArray, List.set_cons_zero, List.set_cons_succ]
            refine wpAnyH_take (i := 3) (v := ?_) rfl (by kernel_rfl) (by kernel_rfl) (by kernel_rfl) (fun _ _ _ h => h) (Or.inl ⟨by rfl, ?_⟩) (by assumption) ?_
            rotate_left 1
            · (intro W hW; clear hW; go_simp; try with_reducible rfl)
            simp only [Act.put, List.getElem_toArray, List.getElem_cons_succ, List.getElem_cons_zero, List.setIfInBounds_toArray, List.set_cons_zero, List.set_cons_succ]
            refine wpAnyH_take (i := 4) (v := ?_) rfl (by kernel_rfl) (by kernel_rfl) (by kernel_rfl) (fun _ _ _ h => h) (Or.inl ⟨by rfl, ?_⟩) (by assumption) ?_
            rotate_left 1
            · (intro W hW; skip; go_simp; try with_reducible rfl)
            simp only [Act.put, List.getElem_toArray, List.getElem_cons_succ, List.getElem_cons_zero, List.setIfInBounds_toArray, List.set_cons_zero, List.set_cons_succ]
            refine wpAnyH_take (i := 5) (v := ?_) rfl (by kernel_rfl) (by kernel_rfl) (by kernel_rfl) (fun _ _ _ h => h) (Or.inl ⟨by rfl, ?_⟩) (by assumption) ?_
            rotate_left 1
            · (intro W hW; clear hW; go_simp; try with_reducible rfl)
            simp only [Act.put, List.getElem_toArray, List.getElem_cons_succ, List.getElem_cons_zero, List.setIfInBounds_toArray, List.set_cons_zero, List.set_cons_succ]
            refine wpAnyH_take (i := 6) (v := ?_) rfl (by kernel_rfl) (by kernel_rfl) (by kernel_rfl) (fun _ _ _ h => h) (Or.inl ⟨by rfl, ?_⟩) (by assumption) ?_
            rotate_left 1
            · (intro W hW; clear hW; go_simp; try with_reducible rfl)
            simp only [Act.put, List.getElem_toArray, List.getElem_cons_succ, List.getElem_cons_zero, List.setIfInBounds_toArray, List.set_cons_zero, List.set_cons_succ]
            refine wpAnyH_take (i := 7) (v := ?_) rfl (by kernel_rfl) (by kernel_rfl) (by kernel_rfl) (fun _ _ _ h => h) (Or.inl ⟨by rfl, ?_⟩) (by assumption) ?_
            rotate_left 1
            · (intro W hW; skip; go_simp; try with_reducible rfl)
            simp only [Act.put, List.getElem_toArray, List.getElem_cons_succ, List.getElem_cons_zero, List.setIfInBounds_toArray, List.set_cons_zero, List.set_cons_succ]
            refine wpAnyH_take (i := 8) (v := ?_) rfl (by kernel_rfl) (by kernel_rfl) (by kernel_rfl) (fun _ _ _ h => h) (Or.inl ⟨by rfl, ?_⟩) (by assumption) ?_
            rotate_left 1
            · (intro W hW; clear hW; go_simp; try with_reducible rfl)
            simp only [Act.put, List.getElem_toArray, List.getElem_cons_succ, List.getElem_cons_zero, List.setIfInBounds_toArray, List.set_cons_zero, List.set_cons_succ]
            refine wpAnyH_take (i := 9) (v := ?_) rfl (by kernel_rfl) (by kernel_rfl) (by kernel_rfl) (fun _ _ _ h => h) (Or.inl ⟨by rfl, ?_⟩) (by assumption) ?_
            rotate_left 1
            · (intro W hW; clear hW; go_simp; try with_reducible rfl)
            simp only [Act.put, List.getElem_toArray, List.getElem_cons_succ, List.getElem_cons_zero, List.setIfInBounds_toArray, List.set_cons_zero, List.set_cons_succ]
            refine wpAnyH_take (i := 10) (v := ?_) rfl (by kernel_rfl) (by kernel_rfl) (by kernel_rfl) (fun _ _ _ h => h) (Or.inl ⟨by rfl, ?_⟩) (by assumption) ?_
            rotate_left 1
            · (intro W hW; clear hW; go_simp; try with_reducible rfl)
            simp only [Act.put, List.getElem_toArray, List.getElem_cons_succ, List.getElem_cons_zero, List.setIfInBounds_toArray, List.set_cons_zero, List.set_cons_succ]
            refine wpAnyH_take (i := 11) (v := ?_) rfl (by kernel_rfl) (by kernel_rfl) (by kernel_rfl) (fun _ _ _ h => h) (Or.inl ⟨by rfl, ?_⟩) (by assumption) ?_
            rotate_left 1
            · (intro W hW; clear hW; go_simp; try with_reducible rfl)
            simp only [Act.put, List.getElem_toArray, List.getElem_cons_succ, List.getElem_cons_zero, List.setIfInBounds_toArray, List.set_cons_zero, List.set_cons_succ]
            refine wpAnyH_take (i := 12) (v := ?_) rfl (by kernel_rfl) (by kernel_rfl) (by kernel_rfl) (fun _ _ _ h => h) (Or.inl ⟨by rfl, ?_⟩) (by assumption) ?_
            rotate_left 1
            · (intro W hW; clear hW; go_simp; try with_reducible rfl)
            simp only [Act.put, List.getElem_toArray, List.getElem_cons_succ, List.getElem_cons_zero, List.setIfInBounds_toArray, List.set_cons_zero, List.set_cons_succ]
            refine wpAnyH_take (i := 13) (v := ?_) rfl (by kernel_rfl) (by kernel_rfl) (by kernel_rfl) (fun _ _ _ h => h) (Or.inl ⟨by rfl, ?_⟩) (by assumption) ?_
            rotate_left 1
            · (intro W hW; clear hW; go_simp; try with_reducible rfl)
            simp only [Act.put, List.getElem_toArray, List.getElem_cons_succ, List.getElem_cons_zero, List.setIfInBounds_toArray, List.set_cons_zero, List.set_cons_succ]
            refine wpAnyH_take (i := 14) (v := ?_) rfl (by kernel_rfl) (by kernel_rfl) (by kernel_rfl) (fun _ _ _ h => h) (Or.inl ⟨by rfl, ?_⟩) (by assumption) ?_
            rotate_left 1
            · (intro W hW; skip; go_simp; try with_reducible rfl)
            simp only [Act.put, List.getElem_toArray, List.getElem_cons_succ, List.getElem_cons_zero, List.setIfInBounds_toArray, List.set_cons_zero, List.set_cons_succ]
            refine wpAnyH_take (i := 15) (v := ?_) rfl (by kernel_rfl) (by kernel_rfl) (by kernel_rfl) (fun _ _ _ h => h) (Or.inl ⟨by rfl, ?_⟩) (by assumption) ?_
            rotate_left 1
            · (intro W hW; clear hW; go_simp; try with_reducible rfl)
            simp only [Act.put, List.getElem_toArray, List.getElem_cons_succ, List.getElem_cons_zero, List.setIfInBounds_toArray, List.set_cons_zero, List.set_cons_succ]
            refine wpAnyH_take (i := 16) (v := ?_) rfl (by kernel_rfl) (by kernel_rfl) (by kernel_rfl) (fun _ _ _ h => h) (Or.inl ⟨by rfl, ?_⟩) (by assumption) ?_
            rotate_left 1
            · (intro W hW; clear hW; go_simp; try with_reducible rfl)
            simp only [Act.put, List.getElem_toArray, List.getElem_cons_succ, List.getElem_cons_zero, List.setIfInBounds_toArray, List.set_cons_zero, List.set_cons_succ]
            refine wpAnyH_take (i := 17) (v := ?_) rfl (by kernel_rfl) (by kernel_rfl) (by kernel_rfl) (fun _ _ _ h => h) (Or.inl ⟨by rfl, ?_⟩) (by assumption) ?_
            rotate_left 1
            · (intro W hW; skip; go_simp; try with_reducible rfl)
            simp only [Act.put, List.getElem_toArray, List.getElem_cons_succ, List.getElem_cons_zero, List.setIfInBounds_toArray, List.set_cons_zero, List.set_cons_succ]
            refine wpAnyH_take (i := 18) (v := ?_) rfl (by kernel_rfl) (by kernel_rfl) (by kernel_rfl) (fun _ _ _ h => h) (Or.inl ⟨by rfl, ?_⟩) (by assumption) ?_
            rotate_left 1
            · (intro W hW; clear hW; go_simp; try with_reducible rfl)
            simp only [Act.put, List.getElem_toArray, List.getElem_cons_succ, List.getElem_cons_zero, List.setIfInBounds_toArray, List.set_cons_zero, List.set_cons_succ]
            refine wpAnyH_take (i := 19) (v := ?_) rfl (by kernel_rfl) (by kernel_rfl) (by kernel_rfl) (fun _ _ _ h => h) (Or.inl ⟨by rfl, ?_⟩) (by assumption) ?_
            rotate_left 1
            · (intro W hW; clear hW; go_simp; try with_reducible rfl)
            simp only [Act.put, List.getElem_toArray, List.getElem_cons_succ, List.getElem_cons_zero, List.setIfInBounds_toArray, List.set_cons_zero, List.set_cons_succ]
            refine wpAnyH_take (i := 20) (v := ?_) rfl (by kernel_rfl) (by kernel_rfl) (by kernel_rfl) (fun _ _ _ h => h) (Or.inl ⟨by rfl, ?_⟩) (by assumption) ?_
            rotate_left 1
            · (intro W hW; clear hW; go_simp; try with_reducible rfl)
            simp only [Act.put, List.getElem_toArray, List.getElem_cons_succ, List.getElem_cons_zero, List.setIfInBounds_toArray, List.set_cons_zero, List.set_cons_succ]
            refine wpAnyH_take (i := 21) (v := ?_) rfl (by kernel_rfl) (by kernel_rfl) (by kernel_rfl) (fun _ _ _ h => h) (Or.inl ⟨by rfl, ?_⟩) (by assumption) ?_
            rotate_left 1
            · (intro W hW; clear hW; go_simp; try with_reducible rfl)
            simp only [Act.put, List.getElem_toArray, List.getElem_cons_succ, List.getElem_cons_zero, List.setIfInBounds_toArray, List.set_cons_zero, List.set_cons_succ]
            refine wpAnyH_take (i := 22) (v := ?_) rfl (by kernel_rfl) (by kernel_rfl) (by kernel_rfl) (fun _ _ _ h => h) (Or.inl ⟨by rfl, ?_⟩) (by assumption) ?_
            rotate_left 1
            · (intro W hW; skip; go_simp; try with_reducible rfl)
            simp only [Act.put, List.getElem_toArray, List.getElem_cons_succ, List.getElem_cons_zero, List.setIfInBounds_toArray, List.set_cons_zero, List.set_cons_succ]
            refine wpAnyH_take (i := 23) (v := ?_) rfl (by kernel_rfl) (by kernel_rfl) (by kernel_rfl) (fun _ _ _ h => h) (Or.inl ⟨by rfl, ?_⟩) (by assumption) ?_
            rotate_left 1
            · (intro W hW; clear hW; go_simp; try with_reducible rfl)
            simp only [Act.put, List.getElem_toArray, List.getElem_cons_succ, List.getElem_cons_zero, List.setIfInBounds_toArray, List.set_cons_zero, List.set_cons_succ]
            refine wpAnyH_take (i := 24) (v := ?_) rfl (by kernel_rfl) (by kernel_rfl) (by kernel_rfl) (fun _ _ _ h => h) (Or.inl ⟨by rfl, ?_⟩) (by assumption) ?_
            rotate_left 1
            · (intro W hW; clear hW; go_simp; try with_reducible rfl)
            simp only [Act.put, List.getElem_toArray, List.getElem_cons_succ, List.getElem_cons_zero, List.setIfInBounds_toArray, List.set_cons_zero, List.set_cons_succ]
            refine wpAnyH_take (i := 25) (v := ?_) rfl (by kernel_rfl) (by kernel_rfl) (by kernel_rfl) (fun _ _ _ h => h) (Or.inl ⟨by rfl, ?_⟩) (by assumption) ?_
            rotate_left 1
            · (intro W hW; skip; go_simp; try with_reducible rfl)
            simp only [Act.put, List.getElem_toArray, List.getElem_cons_succ, List.getElem_cons_zero, List.setIfInBounds_toArray, List.set_cons_zero, List.set_cons_succ]
            refine wpAnyH_take (i := 26) (v := ?_) rfl (by kernel_rfl) (by kernel_rfl) (by kernel_rfl) (fun _ _ _ h => h) (Or.inl ⟨by rfl, ?_⟩) (by assumption) ?_
            rotate_left 1
            · (intro W hW; clear hW; go_simp; try with_reducible rfl)
            simp only [Act.put, List.getElem_toArray, List.getElem_cons_succ, List.getElem_cons_zero, List.setIfInBounds_toArray, List.set_cons_zero, List.set_cons_succ]
            refine wpAnyH_ready (rs := [27]) (by kernel_rfl) (by simp) ?_
            refine AllReadyH.cons rfl (fun K hK => ?_) AllReadyH.nil
            go_simp
            have hgb : wr.heap.size ≤ wq.heap.size := Since.size_ hq
            refine hK.out _ _ ((Since.alloc hq _)) (fun hHeld => ?_)
            clear hK K
            try simp only [Act.put, List.getElem_toArray, List.getElem_cons_succ, List.getElem_cons_zero, List.setIfInBounds_toArray, List.set_cons_zero, List.set_cons_succ]
            refine wpAnyH_ready (rs := [28]) (by kernel_rfl) (by simp) ?_
            refine AllReadyH.cons rfl (fun K hK => ?_) AllReadyH.nil
            go_simp
            skip
            refine hK.out _ _ ((Since.alloc hq _)) (fun hHeld => ?_)
            clear hK K
            try simp only [Act.put, List.getElem_toArray, List.getElem_cons_succ, List.getElem_cons_zero, List.setIfInBounds_toArray, List.set_cons_zero, List.set_cons_succ]
            refine wpAnyH_done (by kernel_rfl) ?_ _
            obtain ⟨w5, hw5⟩ : ∃ w5, w5 = wq.alloc (.cells #[.int .i64 (b.x + wa), .int .i64 (b.y + ha), .int .i64 wb, .int .i64 hb] 63) := ⟨_, rfl⟩
            have hS5 : Since wr w5 := Since.named (Since.alloc hq _) hw5
            have hSl : Since wq w5 := Since.named (Since.alloc (Since.refl _) _) hw5
            have hN5 : Whole w5 wq.heap.size 63 #[.int .i64 (b.x + wa), .int .i64 (b.y + ha), .int .i64 wb, .int .i64 hb] := (Whole.new wq _ _).named hw5
            obtain ⟨NB, hNB⟩ : ∃ NB, NB = wq.heap.size := ⟨_, rfl⟩
            rw [← hw5, ← hNB]
            rw [← hNB] at hN5
            clear hHeld hw5 hNB
            have hne5 : ¬ NB = g := fun e => by subst e; have z := (Since.whole hS5 H4.out.w).symm.trans hN5; injection z with z; injection z with z1 z2; exact absurd z2 (by decide)
            have r0 := off_cell (F := fun c => c = g) hN5 hne5 0 (.int .i64 (b.x + wa)) rfl
            have r1 := off_cell (F := fun c => c = g) hN5 hne5 1 (.int .i64 (b.y + ha)) rfl
            have r2 := off_cell (F := fun c => c = g) hN5 hne5 2 (.int .i64 (wb)) rfl
            have r3 := off_cell (F := fun c => c = g) hN5 hne5 3 (.int .i64 (hb)) rfl
            have hsr := Off.refl (fun c => c = g) w5
            clear a0 a1 x0 x1 y0 y1
            go_wp2_with (go_at_call 86; (with_reducible refine (wArea_at HA.out _).mono ?_); rintro e w6 ⟨rfl, hb6⟩)
            have hs6 : Since wr w6 := Since.trans hS5 hb6
            have hb7 : Since w5 w6.drew := Since.drew hb6
            obtain ⟨w7, hw7⟩ : ∃ x, x = w6.drew := ⟨_, rfl⟩
            have hs7 : Since wr w7 := by rw [hw7]; exact hs6.drew
            rw [← hw7] at hb7
            have hsd7 := hb7.off (fun c => c = g)
            have h47 := H4.out.since hs7
            have z0 : ∀ o, (w7.alloc o).cell? ⟨g, 9, none⟩ = some (.pointer none) := fun o => ((h47.w.alloc o).cell 9).trans ((ncells_q _ _ _ _ 3 (by decide)).trans (by rw [HOK.out.2 3 (Nat.le_refl _)]; rfl))
            have z1 : ∀ o, (w7.alloc o).frozen? ⟨g, 9, none⟩ = false := fun o => (h47.w.alloc o).frozen 9
            refine wp_region_held_drew (S := fun W' => Off (fun c => c = g) w5 W') (by kernel_rfl) (hw7 ▸ hsd7) (fun hHeld => ?_)
            rw [← hw7] at hHeld ⊢
            clear hw7
            refine wpAnyH_take (i := 0) (v := ?_) rfl (by kernel_rfl) (by kernel_rfl) (by kernel_rfl) (fun _ _ _ h => h) (Or.inl ⟨by rfl, ?_⟩) (by assumption) ?_
            rotate_left 1
            · (intro W hW; clear hW; go_simp; try with_reducible rfl)
            simp only [Act.put, List.getElem_toArray, List.getElem_cons_zero, List.setIfInBounds_toArray, List.set_cons_zero, List.set_cons_succ]
            refine wpAnyH_take (i := 1) (v := ?_) rfl (by kernel_rfl) (by kernel_rfl) (by kernel_rfl) (fun _ _ _ h => h) (Or.inl ⟨by rfl, ?_⟩) (by assumption) ?_
            rotate_left 1
            · (intro W hW; clear hW; go_simp; try with_reducible rfl)
            simp only [Act.put, List.getElem_toArray, List.getElem_cons_succ, List.getElem_cons_zero, List.setIfInBounds_toArray, List.set_cons_zero, List.set_cons_succ]
            refine wpAnyH_take (i := 2) (v := ?_) rfl (by kernel_rfl) (by kernel_rfl) (by kernel_rfl) (fun _ _ _ h => h) (Or.inl ⟨by rfl, ?_⟩) (by assumption) ?_
            rotate_left 1
            · (intro W hW; skip; go_simp; try with_reducible rfl)
            simp only [Act.put, List.getElem_toArray, List.getElem_cons_succ, List.getElem_cons_zero, List.setIfInBounds_toArray, List.set_cons_zero, List.set_cons_succ]
            refine wpAnyH_take (i := 3) (v := ?_) rfl (by kernel_rfl) (by kernel_rfl) (by kernel_rfl) (fun _ _ _ h => h) (Or.inl ⟨by rfl, ?_⟩) (by assumption) ?_
            rotate_left 1
            · (intro W hW; clear hW; go_simp; try with_reducible rfl)
            simp only [Act.put, List.getElem_toArray, List.getElem_cons_succ, List.getElem_cons_zero, List.setIfInBounds_toArray, List.set_cons_zero, List.set_cons_succ]
            refine wpAnyH_take (i := 5) (v := ?_) rfl (by kernel_rfl) (by kernel_rfl) (by kernel_rfl) (fun _ _ _ h => h) (Or.inl ⟨by rfl, ?_⟩) (by assumption) ?_
            rotate_left 1
            · (intro W hW; clear hW; go_simp; try with_reducible rfl)
            simp only [Act.put, List.getElem_toArray, List.getElem_cons_succ, List.getElem_cons_zero, List.setIfInBounds_toArray, List.set_cons_zero, List.set_cons_succ]
            refine wpAnyH_take (i := 6) (v := ?_) rfl (by kernel_rfl) (by kernel_rfl) (by kernel_rfl) (fun _ _ _ h => h) (Or.inl ⟨by rfl, ?_⟩) (by assumption) ?_
            rotate_left 1
            · (intro W hW; clear hW; go_simp; try with_reducible rfl)
            simp only [Act.put, List.getElem_toArray, List.getElem_cons_succ, List.getElem_cons_zero, List.setIfInBounds_toArray, List.set_cons_zero, List.set_cons_succ]
            refine wpAnyH_ready (rs := [4]) (by kernel_rfl) (by simp) ?_
            refine AllReadyH.cons rfl (fun K hK => ?_) AllReadyH.nil
            go_simp
            skip
            refine hK.out _ _ (hsd7.alloc _) (fun hHeld => ?_)
            clear hK K
            try simp only [Act.put, List.getElem_toArray, List.getElem_cons_succ, List.getElem_cons_zero, List.setIfInBounds_toArray, List.set_cons_zero, List.set_cons_succ]
            refine wpAnyH_take (i := 7) (v := ?_) rfl (by kernel_rfl) (by kernel_rfl) (by kernel_rfl) (fun _ _ _ h => h) (Or.inl ⟨by rfl, ?_⟩) (by assumption) ?_
            rotate_left 1
            · (intro W hW; clear hW; go_simp; try with_reducible rfl)
            simp only [Act.put, List.getElem_toArray, List.getElem_cons_succ, List.getElem_cons_zero, List.setIfInBounds_toArray, List.set_cons_zero, List.set_cons_succ]
            refine wpAnyH_ready (rs := [8]) (by kernel_rfl) (by simp) ?_
            refine AllReadyH.cons rfl (fun K hK => ?_) AllReadyH.nil
            go_simp
            skip
            refine hK.out _ _ ((hsd7.alloc _).setCell (p := ⟨g, 9, none⟩) (.inr rfl) _) (fun hHeld => ?_)
            clear hK K
            try simp only [Act.put, List.getElem_toArray, List.getElem_cons_succ, List.getElem_cons_zero, List.setIfInBounds_toArray, List.set_cons_zero, List.set_cons_succ]
            refine wpAnyH_done (by kernel_rfl) ?_ _
            go_wp2_with fail
            go_roundw
            case rel =>
              have z := Qs4.leaf h47 hgz (m := 3) (by decide) ((Since.refl w7).alloc (.cells #[.int .i64 (b.x + wa), .int .i64 (b.y + ha), .int .i64 (wb), .int .i64 (hb), .int .i64 0, .slice none 0 0, .pointer none, .pointer none, .pointer none, .pointer none] 71)) (c := ⟨b.x + wa, b.y + ha, wb, hb⟩) (Whole.new w7 _ _) (Nat.le_refl _)
              exact ⟨4, _, rfl, by omega, z, (ok_next_leaf HOK.out.1 HOK.out.2 HR.out HQ.out.2.2.2).1, (ok_next_leaf (NB := w7.heap.size) HOK.out.1 HOK.out.2 HR.out HQ.out.2.2.2).2⟩
            case measure => simp [intOf]
      · obtain rfl : m = 4 := by omega
        replace hi : _ = Value.int .i64 4 := hi
        subst hi
        have a5 : wr.cell? ⟨g, 5, none⟩ = some (.slice (some ⟨gv, 0, none⟩) L.length cap) := (H4.out.w.cell 5).trans rfl
        clear a0 a1 x0 x1 y0 y1
        go_wp2_with fail
        go_loopw [73] (fun i wr => ∃ (j : Nat) (q : Nat → QN), i = .int .i64 j ∧ j ≤ L.length ∧ Qs4 wz g L.length b (.slice (some ⟨gv, 0, none⟩) L.length cap) q wr ∧ ∀ i, i < 4 → (q i).Ok (qtr b i) ((L.take j).filter (inQ (qtr b i)))) (fun i _ => L.length - (intOf i).toNat)
        case atStart => exact ⟨0, q, rfl, Nat.zero_le _, H4.out, fun i hi => HOK.out.1 i hi⟩
        case round =>
          clear a5
          obtain ⟨j, p, rfl, hj, h5, hok5⟩ := hrel
          have hl' : (L.length : Int) ≤ 1000 := by omega
          by_cases hlt : j < L.length
          · obtain ⟨r, hr⟩ : ∃ r, L[j] = r := ⟨_, rfl⟩
            have z := ListE.off HL.out (Nat.le_refl _) ((hs5.off (fun c => c = g)).trans h5.off (fun _ _ z => z)) (fun a ha e => hv (by rw [ha, e]))
            have t0 : wr.cell? ⟨gv, j * 5, none⟩ = some (.int .i64 r.x) := z.at_ hlt 0 (u := .int .i64 r.x) (by rw [hr]; rfl)
            have t1 := z.at_ hlt 1 (u := .int .i64 r.y) (by rw [hr]; rfl)
            have t2 := z.at_ hlt 2 (u := .string r.key) (by rw [hr]; rfl)
            have t3 := z.at_ hlt 3 (u := .string r.val) (by rw [hr]; rfl)
            have t4 := z.at_ hlt 4 (u := .int .i64 r.ver) (by rw [hr]; rfl)
            have hlt' : (j : Int) < L.length := by omega
            have d1 : decide ((j : Int) < L.length) = true := decide_eq_true hlt'
            have ej : IntKind.i64.wrap ((j : Int) + 1) = (j : Int) + 1 := IntWalk.i64_in _ (by omega)
            obtain ⟨t, ht4, hpk, hput⟩ := part_step ih h5 hgz hok5 HG.out HHS.out.1 HHS.out.2.1 hl1 HHS.out.2.2.2.1 HHS.out.2.2.2.2.1 hlt hr
            clear z hr
            go_upto_region 12 with fail
            obtain ⟨w6, hw6⟩ : ∃ x, x = wr.alloc (.cells #[.int .i64 r.x, .int .i64 r.y, .string r.key, .string r.val, .int .i64 r.ver] 55) := ⟨_, rfl⟩
            rw [← hw6]
            have hs6 : Since wr w6 := by rw [hw6]; exact (Since.refl wr).alloc _
            have hbx : Whole w6 wr.heap.size 55 #[.int .i64 r.x, .int .i64 r.y, .string r.key, .string r.val, .int .i64 r.ver] := by rw [hw6]; exact Whole.new wr _ _
            have hbF : ¬ wr.heap.size ∈ (p t).bl := fun z => Nat.lt_irrefl _ ((h5.a t ht4).1.lt _ z)
            have c0 := off_cell hbx (F := fun c => c ∈ (p t).bl) hbF 0 (.int .i64 r.x) rfl
            have c1 := off_cell hbx (F := fun c => c ∈ (p t).bl) hbF 1 (.int .i64 r.y) rfl
            have c2 := off_cell hbx (F := fun c => c ∈ (p t).bl) hbF 2 (.string r.key) rfl
            have c3 := off_cell hbx (F := fun c => c ∈ (p t).bl) hbF 3 (.string r.val) rfl
            have c4 := off_cell hbx (F := fun c => c ∈ (p t).bl) hbF 4 (.int .i64 r.ver) rfl
            have HQF := Lib.hid (fun W' (hW : Since w6 W') => quarterOf_any ((h5.qs).since (hs6.trans hW)) ht4 hpk)
            have HPU := Lib.hid (fun W' (hW : Since w6 W') => hput W' (hs6.trans hW))
            obtain ⟨o, hov, _⟩ := (p t).v_ptr
            rw [hov] at HQF HPU
            have hsr := Off.refl (fun c => c ∈ (p t).bl) w6
            have hsd := hsr.drew
            clear t0 t1 t2 t3 t4 hw6 hbx hbF hov hpk hput h5 hok5 hs6
            obtain ⟨wq, hwq⟩ : ∃ wq, wq = w6.drew := ⟨_, rfl⟩
            have hq : Since w6 wq := by rw [hwq]; exact (Since.refl w6).drew
            refine wp_region_held_drew (S := fun W' => Off (fun c => c ∈ (p t).bl) w6 W') (by kernel_rfl) hsd (fun hHeld => ?_)
            rw [← hwq] at hHeld ⊢
            clear hwq
            refine wpAnyH_take (i := 0) (v := ?_) rfl (by kernel_rfl) (by kernel_rfl) (by kernel_rfl) (fun _ _ _ h => h) (Or.inl ⟨by rfl, ?_⟩) (by assumption) ?_
            rotate_left 1
            · (intro W hW; clear hW; go_simp; try with_reducible rfl)
            simp only [Act.put, List.getElem_toArray, List.getElem_cons_zero, List.setIfInBounds_toArray, List.set_cons_zero, List.set_cons_succ]
            refine wpAnyH_take (i := 1) (v := ?_) rfl (by kernel_rfl) (by kernel_rfl) (by kernel_rfl) (fun _ _ _ h => h) (Or.inl ⟨by rfl, ?_⟩) (by assumption) ?_
            rotate_left 1
            · (intro W hW; clear hW; go_simp; try with_reducible rfl)
            simp only [Act.put, List.getElem_toArray, List.getElem_cons_succ, List.getElem_cons_zero, List.setIfInBounds_toArray, List.set_cons_zero, List.set_cons_succ]
            refine wpAnyH_take (i := 2) (v := ?_) rfl (by kernel_rfl) (by kernel_rfl) (by kernel_rfl) (fun _ _ _ h => h) (Or.inl ⟨by rfl, ?_⟩) (by assumption) ?_
            rotate_left 1
            · (intro W hW; skip; go_simp; try with_reducible rfl)
            simp only [Act.put, List.getElem_toArray, List.getElem_cons_succ, List.getElem_cons_zero, List.setIfInBounds_toArray, List.set_cons_zero, List.set_cons_succ]
            refine wpAnyH_take (i := 4) (v := ?_) rfl (by kernel_rfl) (by kernel_rfl) (by kernel_rfl) (fun _ _ _ h => h) (Or.inl ⟨by rfl, ?_⟩) (by assumption) ?_
            rotate_left 1
            · (intro W hW; skip; go_simp; try with_reducible rfl)
            simp only [Act.put, List.getElem_toArray, List.getElem_cons_succ, List.getElem_cons_zero, List.setIfInBounds_toArray, List.set_cons_zero, List.set_cons_succ]
            refine wpAnyH_ready (rs := [3]) (by kernel_rfl) (by simp) ?_
            refine AllReadyH.cons rfl (fun K hK => ?_) AllReadyH.nil
            go_simp
            refine (HQF.out _ hq).mono ?_
            rintro e w2 ⟨rfl, hb2⟩
            have hs2 : Since w6 w2 := Since.trans hq hb2
            go_wp2_with fail
            refine hK.out _ _ (hs2.off _) (fun hHeld => ?_)
            clear hK K
            try simp only [Act.put, List.getElem_toArray, List.getElem_cons_succ, List.getElem_cons_zero, List.setIfInBounds_toArray, List.set_cons_zero, List.set_cons_succ]
            refine wpAnyH_ready (rs := [5]) (by kernel_rfl) (by simp) ?_
            refine AllReadyH.cons rfl (fun K hK => ?_) AllReadyH.nil
            go_simp
            refine (HPU.out _ hs2).mono ?_
            rintro e w3 ⟨⟨u, rfl⟩, ho3, p3, hq3, hok3⟩
            go_wp2_with fail
            refine hK.out _ _ ((hs2.off _).trans ho3 (fun _ _ z => z)) (fun hHeld => ?_)
            clear hK K
            try simp only [Act.put, List.getElem_toArray, List.getElem_cons_succ, List.getElem_cons_zero, List.setIfInBounds_toArray, List.set_cons_zero, List.set_cons_succ]
            refine wpAnyH_done (by kernel_rfl) ?_ _
            go_wp2_with fail
            go_roundw
            case rel => exact ⟨j + 1, p3, by go_num, by omega, hq3, hok3⟩
            case measure => simp [intOf]; omega
          · have hje : L.length = j := by omega
            have d1 : decide ((j : Int) < L.length) = false := decide_eq_false (by omega)
            have x5 : wr.cell? ⟨g, 5, none⟩ = some (.slice (some ⟨gv, 0, none⟩) L.length cap) := (h5.w.cell 5).trans rfl
            have y5 := h5.w.frozen 5
            have H5 := Lib.hid (part_end h5 hgz hje hok5 HG.out HHS.out.2.2.2.1 hl4)
            clear h5 hok5
            go_wp2_with fail
            go_end0
            obtain ⟨z1, z2, z3, z4, z5⟩ := H5.out
            exact ⟨⟨_, rfl⟩, _, rfl, z1, z2, z3, (hs5.off _).trans z4 (fun c _ z => .inl z), fun c hc => (z5 c hc).imp id (fun y => Nat.le_trans hs5.size_ y)⟩
end Go.Proofs.YthfhpejpjiaikaaGreat
