/- The program's borders: Length, Beside, Apart. -/
import Derived.Test.YtbbnojfecmocgaaK16
import Derived.Deep.Cut
import Derived.Deep.CutRange
namespace Go.Proofs.Ytbbnojfecmocgaa
open Go.RowKit
set_option linter.unusedVariables false
set_option linter.unusedSimpArgs false
theorem shd_bd {k a b c d : Int} (ha : 0 ≤ a ∧ b < side k) (hc : 0 ≤ c ∧ d < side k) : 0 ≤ shd a b c d ∧ shd a b c d ≤ 65536 := by
  have := side_bd k
  unfold shd; omega
theorem lenP_bd (k d b f c : Int) : 0 ≤ lenP k d b f c ∧ lenP k d b f c ≤ 262144 := by
  unfold lenP
  split
  · next h =>
    have h1 : okP k d b = true := by unfold apz at h; simp only [Bool.and_eq_true] at h; exact h.1.1
    have h2 : okP k f c = true := by unfold apz at h; simp only [Bool.and_eq_true] at h; exact h.1.2
    have b1 := zone_bd h1
    have b2 := zone_bd h2
    have t1 := tou_02 k (zx0 k d b) (zx1 k d b) (zx0 k f c) (zx1 k f c)
    have t2 := tou_02 k (zy0 k d b) (zy1 k d b) (zy0 k f c) (zy1 k f c)
    have s1 := shd_bd (k := k) (a := zy0 k d b) (b := zy1 k d b) (c := zy0 k f c) (d := zy1 k f c) (by unfold zy0 zy1; omega) (by unfold zy0 zy1; omega)
    have s2 := shd_bd (k := k) (a := zx0 k d b) (b := zx1 k d b) (c := zx0 k f c) (d := zx1 k f c) (by unfold zx0 zx1; omega) (by unfold zx0 zx1; omega)
    have l : ∀ {t u : Int}, (0 ≤ t ∧ t ≤ 2) → (0 ≤ u ∧ u ≤ 65536) → 0 ≤ t * u ∧ t * u ≤ 131072 := by
      intro t u h1 h2
      rcases (show t = 0 ∨ t = 1 ∨ t = 2 by omega) with rfl | rfl | rfl <;> omega
    have := l t1 s1
    have := l t2 s2
    omega
  · omega
set_option maxRecDepth 100000 in
set_option maxHeartbeats 12800000 in
theorem bLength_any (k d b f c : Int) (w : World) : Calls Try.prog 32 #[.agg #[.int .i64 k], .agg #[.int .i64 d, .int .i64 b], .agg #[.int .i64 f, .int .i64 c]] w fun e w' => e = .returned (.int .i64 (lenP k d b f c)) ∧ Below w.heap.size w w' := by
  have hlb := lenP_bd k d b f c
  obtain ⟨w0, hw0⟩ : ∃ w0, w0 = ((w.alloc (.cells #[.int .i64 k] 26)).alloc (.cells #[.int .i64 d, .int .i64 b] 35)).alloc (.cells #[.int .i64 f, .int .i64 c] 35) := ⟨_, rfl⟩
  have hs0 : Since w w0 := by rw [hw0]; exact (((Since.refl w).alloc _).alloc _).alloc _
  have wh0 : Whole w0 (w.heap.size) 26 #[.int .i64 k] := by rw [hw0]; exact ((Whole.new w _ _).alloc _).alloc _
  have wh1 : Whole w0 (w.heap.size + 1) 35 #[.int .i64 d, .int .i64 b] := by rw [hw0]; exact ((Whole.new (w.alloc _) _ _).alloc _).at_ (by simp)
  have wh2 : Whole w0 (w.heap.size + 1 + 1) 35 #[.int .i64 f, .int .i64 c] := by rw [hw0]; exact (Whole.new ((w.alloc _).alloc _) _ _).at_ (by simp)
  have HW := Lib.hid hw0
  have c0_0 := box_cell wh0 0 (.int .i64 k) rfl
  have c1_0 := box_cell wh1 0 (.int .i64 d) rfl
  have c1_1 := box_cell wh1 1 (.int .i64 b) rfl
  have c2_0 := box_cell wh2 0 (.int .i64 f) rfl
  have c2_1 := box_cell wh2 1 (.int .i64 c) rfl
  have hsr := Since.refl w0
  have hsd := hsr.drew
  clear hw0 wh0 wh1 wh2
  cases h : apz k d b f c
  · have hl : lenP k d b f c = 0 := if_neg (by rw [h]; exact Bool.false_ne_true)
    rw [hl]
    have H := Lib.hid h
    clear h hl hlb
    go_enter Try.func32, Try.ntmps32
    go_wp2_with fail
    rw [← HW.out]
    go_wp2_with (go_at_call 64; (with_reducible refine (Calls.since (by assumption) (bApz_at H.out _)).mono ?_); rintro e w1 ⟨rfl, hb1⟩)
    go_ret
    exact ⟨rfl, hs0.trans hb1⟩
  · have h1 : okP k d b = true := by unfold apz at h; simp only [Bool.and_eq_true] at h; exact h.1.1
    have h2 : okP k f c = true := by unfold apz at h; simp only [Bool.and_eq_true] at h; exact h.1.2
    have hl : lenP k d b f c = tou k (zx0 k d b) (zx1 k d b) (zx0 k f c) (zx1 k f c) * shd (zy0 k d b) (zy1 k d b) (zy0 k f c) (zy1 k f c) + tou k (zy0 k d b) (zy1 k d b) (zy0 k f c) (zy1 k f c) * shd (zx0 k d b) (zx1 k d b) (zx0 k f c) (zx1 k f c) := if_pos h
    have b1 := zone_bd h1
    have b2 := zone_bd h2
    have s1 := shd_bd (k := k) (a := zy0 k d b) (b := zy1 k d b) (c := zy0 k f c) (d := zy1 k f c) (by unfold zy0 zy1; omega) (by unfold zy0 zy1; omega)
    have s2 := shd_bd (k := k) (a := zx0 k d b) (b := zx1 k d b) (c := zx0 k f c) (d := zx1 k f c) (by unfold zx0 zx1; omega) (by unfold zx0 zx1; omega)
    have t1 := tou_02 k (zx0 k d b) (zx1 k d b) (zx0 k f c) (zx1 k f c)
    have t2 := tou_02 k (zy0 k d b) (zy1 k d b) (zy0 k f c) (zy1 k f c)
    rw [hl]
    have C0 : ∀ W : World, Calls Try.prog 65 #[.agg #[.int .i64 k], .agg #[.int .i64 d, .int .i64 b]] W fun e w' => e = .returned (.agg #[.int .i64 (zx0 k d b), .int .i64 (zx1 k d b), .int .i64 (zy0 k d b), .int .i64 (zy1 k d b)]) ∧ Below W.heap.size W w' := fun W => bSpans_at W h1 rfl
    have C1 : ∀ W : World, Calls Try.prog 65 #[.agg #[.int .i64 k], .agg #[.int .i64 f, .int .i64 c]] W fun e w' => e = .returned (.agg #[.int .i64 (zx0 k f c), .int .i64 (zx1 k f c), .int .i64 (zy0 k f c), .int .i64 (zy1 k f c)]) ∧ Below W.heap.size W w' := fun W => bSpans_at W h2 rfl
    have bx0 : 0 ≤ zx0 k d b ∧ zx0 k d b ≤ 65536 := by have := side_bd k; unfold zx0; omega
    have bx1 : -1 ≤ zx1 k d b ∧ zx1 k d b ≤ 65536 := by have := side_bd k; unfold zx1; omega
    have by0 : 0 ≤ zy0 k d b ∧ zy0 k d b ≤ 65536 := by have := side_bd k; unfold zy0; omega
    have by1 : -1 ≤ zy1 k d b ∧ zy1 k d b ≤ 65536 := by have := side_bd k; unfold zy1; omega
    have cx0 : 0 ≤ zx0 k f c ∧ zx0 k f c ≤ 65536 := by have := side_bd k; unfold zx0; omega
    have cx1 : -1 ≤ zx1 k f c ∧ zx1 k f c ≤ 65536 := by have := side_bd k; unfold zx1; omega
    have cy0 : 0 ≤ zy0 k f c ∧ zy0 k f c ≤ 65536 := by have := side_bd k; unfold zy0; omega
    have cy1 : -1 ≤ zy1 k f c ∧ zy1 k f c ≤ 65536 := by have := side_bd k; unfold zy1; omega
    rw [hl] at hlb
    have H := Lib.hid h
    have HC0 := Lib.hid C0
    have HC1 := Lib.hid C1
    clear h h1 h2 hl b1 b2 C0 C1
    generalize zx0 k d b = p0, zx1 k d b = p1, zy0 k d b = q0, zy1 k d b = q1, zx0 k f c = r0, zx1 k f c = r1, zy0 k f c = u0, zy1 k f c = u1 at *
    obtain ⟨T1, hT1⟩ : ∃ T, tou k p0 p1 r0 r1 = T := ⟨_, rfl⟩
    obtain ⟨T2, hT2⟩ : ∃ T, tou k q0 q1 u0 u1 = T := ⟨_, rfl⟩
    obtain ⟨S1, hS1⟩ : ∃ T, shd q0 q1 u0 u1 = T := ⟨_, rfl⟩
    obtain ⟨S2, hS2⟩ : ∃ T, shd p0 p1 r0 r1 = T := ⟨_, rfl⟩
    rw [hT1, hT2, hS1, hS2] at hlb ⊢
    rw [hT1] at t1
    rw [hT2] at t2
    rw [hS1] at s1
    rw [hS2] at s2
    have m1 : 0 ≤ T1 * S1 ∧ T1 * S1 ≤ 131072 := by rcases (show T1 = 0 ∨ T1 = 1 ∨ T1 = 2 by omega) with rfl | rfl | rfl <;> omega
    have m2 : 0 ≤ T2 * S2 ∧ T2 * S2 ≤ 131072 := by rcases (show T2 = 0 ∨ T2 = 1 ∨ T2 = 2 by omega) with rfl | rfl | rfl <;> omega
    have e1 : IntKind.i64.wrap (T1 * S1) = T1 * S1 := IntWalk.i64_in _ (by omega)
    have e2 : wrap64 (T1 * S1) = T1 * S1 := IntWalk.wrap64_in _ ⟨by omega, by omega⟩
    have e3 : IntKind.i64.wrap (T2 * S2) = T2 * S2 := IntWalk.i64_in _ (by omega)
    have e4 : wrap64 (T2 * S2) = T2 * S2 := IntWalk.wrap64_in _ ⟨by omega, by omega⟩
    have e5 : IntKind.i64.wrap (T1 * S1 + T2 * S2) = T1 * S1 + T2 * S2 := IntWalk.i64_in _ (by omega)
    have e6 : wrap64 (T1 * S1 + T2 * S2) = T1 * S1 + T2 * S2 := IntWalk.wrap64_in _ ⟨by omega, by omega⟩
    have HT1 := Lib.hid hT1
    have HT2 := Lib.hid hT2
    have HS1 := Lib.hid (show shd q0 q1 u0 u1 = S1 ∧ (0 ≤ q0 ∧ q0 ≤ 65536) ∧ (-1 ≤ q1 ∧ q1 ≤ 65536) ∧ (0 ≤ u0 ∧ u0 ≤ 65536) ∧ (-1 ≤ u1 ∧ u1 ≤ 65536) from ⟨hS1, by0, by1, cy0, cy1⟩)
    have HS2 := Lib.hid (show shd p0 p1 r0 r1 = S2 ∧ (0 ≤ p0 ∧ p0 ≤ 65536) ∧ (-1 ≤ p1 ∧ p1 ≤ 65536) ∧ (0 ≤ r0 ∧ r0 ≤ 65536) ∧ (-1 ≤ r1 ∧ r1 ≤ 65536) from ⟨hS2, bx0, bx1, cx0, cx1⟩)
    have HE := Lib.hid (show IntKind.i64.wrap (T1 * S1 + T2 * S2) = T1 * S1 + T2 * S2 from e5)
    clear hT1 hT2 hS1 hS2 t1 t2 s1 s2 m1 m2 bx0 bx1 by0 by1 cx0 cx1 cy0 cy1 hlb
    have c0_0' := c0_0
    go_enter Try.func32, Try.ntmps32
    go_wp2_with fail
    rw [← HW.out]
    go_upto_region 3 with (go_at_call 64; (with_reducible refine (Calls.since (by assumption) (bApz_at H.out _)).mono ?_); rintro e wr ⟨rfl, hbr⟩)
    replace hsd : Since wr wr.drew := (Since.refl wr).drew
    have k0 := fun W (hW : Since wr W) => c0_0 W (hbr.trans hW)
    have k1 := fun W (hW : Since wr W) => c1_0 W (hbr.trans hW)
    have k2 := fun W (hW : Since wr W) => c1_1 W (hbr.trans hW)
    have k3 := fun W (hW : Since wr W) => c2_0 W (hbr.trans hW)
    have k4 := fun W (hW : Since wr W) => c2_1 W (hbr.trans hW)
    go_cut [7, 8] from 9 to 44 (fun s7 s8 wx => ∃ g7 g8, s7 = .pointer (some ⟨g7, 0, none⟩) ∧ s8 = .pointer (some ⟨g8, 0, none⟩) ∧ Whole wx g7 128 #[.int .i64 p0, .int .i64 p1, .int .i64 q0, .int .i64 q1] ∧ Whole wx g8 128 #[.int .i64 r0, .int .i64 r1, .int .i64 u0, .int .i64 u1] ∧ Since wr wx)
    case first =>
      obtain ⟨wq, hwq⟩ : ∃ wq, wq = wr.drew := ⟨_, rfl⟩
      refine wp_region_held_drew (S := fun W => Since wr W) (by kernel_rfl) hsd (fun hHeld => ?_)
      rw [← hwq] at hHeld ⊢
      have hq : Since wr wq := hHeld
      clear hwq hsd
      refine wpAnyH_take (i := 0) (v := ?_) rfl (by kernel_rfl) (by kernel_rfl) (by kernel_rfl) (fun _ _ _ h => h) (Or.inl ⟨by rfl, ?_⟩) (by assumption) ?_
      rotate_left 1
      · (intro W hW; skip; go_simp; try with_reducible rfl)
      simp only [Act.put, List.getElem_toArray, List.getElem_cons_zero, List.setIfInBounds_toArray, List.set_cons_zero, List.set_cons_succ]
      refine wpAnyH_take (i := 1) (v := ?_) rfl (by kernel_rfl) (by kernel_rfl) (by kernel_rfl) (fun _ _ _ h => h) (Or.inl ⟨by rfl, ?_⟩) (by assumption) ?_
      rotate_left 1
      · (intro W hW; skip; go_simp; try with_reducible rfl)
      simp only [Act.put, List.getElem_toArray, List.getElem_cons_succ, List.getElem_cons_zero, List.setIfInBounds_toArray, List.set_cons_zero, List.set_cons_succ]
      refine wpAnyH_take (i := 3) (v := ?_) rfl (by kernel_rfl) (by kernel_rfl) (by kernel_rfl) (fun _ _ _ h => h) (Or.inl ⟨by rfl, ?_⟩) (by assumption) ?_
      rotate_left 1
      · (intro W hW; skip; go_simp; try with_reducible rfl)
      simp only [Act.put, List.getElem_toArray, List.getElem_cons_succ, List.getElem_cons_zero, List.setIfInBounds_toArray, List.set_cons_zero, List.set_cons_succ]
      refine wpAnyH_take (i := 4) (v := ?_) rfl (by kernel_rfl) (by kernel_rfl) (by kernel_rfl) (fun _ _ _ h => h) (Or.inl ⟨by rfl, ?_⟩) (by assumption) ?_
      rotate_left 1
      · (intro W hW; skip; go_simp; try with_reducible rfl)
      simp only [Act.put, List.getElem_toArray, List.getElem_cons_succ, List.getElem_cons_zero, List.setIfInBounds_toArray, List.set_cons_zero, List.set_cons_succ]
      refine wpAnyH_ready (rs := [2, 6, 7]) (by kernel_rfl) (by simp) ?_
      refine AllReadyH.cons rfl (fun K hK => ?_) (AllReadyH.cons rfl (fun K hK => ?_) (AllReadyH.cons rfl (fun K hK => ?_) AllReadyH.nil))
      · go_simp
        refine (HC0.out _).mono ?_
        rintro e wc0 ⟨rfl, hd0⟩
        have hc0 : Since wr wc0 := Since.trans hq hd0
        go_wp2_with fail
        refine hK.out _ _ (hc0) (fun hHeld => ?_)
        clear hK K
        try simp only [Act.put, List.getElem_toArray, List.getElem_cons_succ, List.getElem_cons_zero, List.setIfInBounds_toArray, List.set_cons_zero, List.set_cons_succ]
        refine wpAnyH_ready (rs := [5, 6, 7]) (by kernel_rfl) (by simp) ?_
        refine AllReadyH.cons rfl (fun K hK => ?_) (AllReadyH.cons rfl (fun K hK => ?_) (AllReadyH.cons rfl (fun K hK => ?_) AllReadyH.nil))
        · go_simp
          refine (HC1.out _).mono ?_
          rintro e wc1 ⟨rfl, hd1⟩
          have hc1 : Since wr wc1 := Since.trans hc0 hd1
          go_wp2_with fail
          refine hK.out _ _ (hc1) (fun hHeld => ?_)
          clear hK K
          try simp only [Act.put, List.getElem_toArray, List.getElem_cons_succ, List.getElem_cons_zero, List.setIfInBounds_toArray, List.set_cons_zero, List.set_cons_succ]
          refine wpAnyH_ready (rs := [6, 7]) (by kernel_rfl) (by simp) ?_
          refine AllReadyH.cons rfl (fun K hK => ?_) (AllReadyH.cons rfl (fun K hK => ?_) AllReadyH.nil)
          · go_simp
            have hg0 : wr.heap.size ≤ wc1.heap.size := by have := Since.size_ hc1; omega
            refine hK.out _ _ ((Since.alloc hc1 _)) (fun hHeld => ?_)
            clear hK K
            try simp only [Act.put, List.getElem_toArray, List.getElem_cons_succ, List.getElem_cons_zero, List.setIfInBounds_toArray, List.set_cons_zero, List.set_cons_succ]
            refine wpAnyH_ready (rs := [7]) (by kernel_rfl) (by simp) ?_
            refine AllReadyH.cons rfl (fun K hK => ?_) AllReadyH.nil
            go_simp
            have hg1 : wr.heap.size ≤ wc1.heap.size + 1 := by have := Since.size_ hc1; omega
            have hne : wc1.heap.size ≠ wc1.heap.size + 1 := by omega
            refine hK.out _ _ ((Since.alloc (Since.alloc hc1 (.cells #[.int .i64 0, .int .i64 0, .int .i64 0, .int .i64 0] 128)) _)) (fun hHeld => ?_)
            clear hK K
            try simp only [Act.put, List.getElem_toArray, List.getElem_cons_succ, List.getElem_cons_zero, List.setIfInBounds_toArray, List.set_cons_zero, List.set_cons_succ]
            refine wpAnyH_ready (rs := [8]) (by kernel_rfl) (by simp) ?_
            refine AllReadyH.cons rfl (fun K hK => ?_) AllReadyH.nil
            obtain ⟨wx, hwx⟩ : ∃ wx, wx = ((wc1.alloc (.cells #[.int .i64 0, .int .i64 0, .int .i64 0, .int .i64 0] 128)).alloc (.cells #[.int .i64 0, .int .i64 0, .int .i64 0, .int .i64 0] 128)) := ⟨_, rfl⟩
            have hsx : Since wr wx := by rw [hwx]; exact (Since.alloc (Since.alloc hc1 (.cells #[.int .i64 0, .int .i64 0, .int .i64 0, .int .i64 0] 128)) (.cells #[.int .i64 0, .int .i64 0, .int .i64 0, .int .i64 0] 128))
            have z0 : Whole wx (wc1.heap.size) 128 #[.int .i64 0, .int .i64 0, .int .i64 0, .int .i64 0] := by rw [hwx]; exact (Whole.alloc (Whole.new wc1 128 #[.int .i64 0, .int .i64 0, .int .i64 0, .int .i64 0]) (.cells #[.int .i64 0, .int .i64 0, .int .i64 0, .int .i64 0] 128))
            have z1 : Whole wx (wc1.heap.size + 1) 128 #[.int .i64 0, .int .i64 0, .int .i64 0, .int .i64 0] := by rw [hwx]; exact ((Whole.new (wc1.alloc (.cells #[.int .i64 0, .int .i64 0, .int .i64 0, .int .i64 0] 128)) 128 #[.int .i64 0, .int .i64 0, .int .i64 0, .int .i64 0]).at_ (by simp))
            rw [← hwx]
            clear hwx
            have hx : Whole _ (wc1.heap.size) 128 #[.int .i64 0, .int .i64 0, .int .i64 0, .int .i64 0] := z0
            have x0 := hx.cell 0
            have y0 := hx.frozen 0
            have x1 := hx.cell 1
            have y1 := hx.frozen 1
            have x2 := hx.cell 2
            have y2 := hx.frozen 2
            have x3 := hx.cell 3
            have y3 := hx.frozen 3
            go_simp
            clear hx x0 y0 x1 y1 x2 y2 x3 y3
            refine hK.out _ _ ((Since.set4 hsx hg0 _ _ _ _)) (fun hHeld => ?_)
            clear hK K
            try simp only [Act.put, List.getElem_toArray, List.getElem_cons_succ, List.getElem_cons_zero, List.setIfInBounds_toArray, List.set_cons_zero, List.set_cons_succ]
            refine wpAnyH_ready (rs := [9]) (by kernel_rfl) (by simp) ?_
            refine AllReadyH.cons rfl (fun K hK => ?_) AllReadyH.nil
            have hx : Whole _ (wc1.heap.size + 1) 128 #[.int .i64 0, .int .i64 0, .int .i64 0, .int .i64 0] := (Whole.far (Whole.far (Whole.far (Whole.far z1 (p := ⟨wc1.heap.size, 0, none⟩) (show wc1.heap.size + 1 ≠ wc1.heap.size by omega) (.int .i64 p0)) (p := ⟨wc1.heap.size, 1, none⟩) (show wc1.heap.size + 1 ≠ wc1.heap.size by omega) (.int .i64 p1)) (p := ⟨wc1.heap.size, 2, none⟩) (show wc1.heap.size + 1 ≠ wc1.heap.size by omega) (.int .i64 q0)) (p := ⟨wc1.heap.size, 3, none⟩) (show wc1.heap.size + 1 ≠ wc1.heap.size by omega) (.int .i64 q1))
            have x0 := hx.cell 0
            have y0 := hx.frozen 0
            have x1 := hx.cell 1
            have y1 := hx.frozen 1
            have x2 := hx.cell 2
            have y2 := hx.frozen 2
            have x3 := hx.cell 3
            have y3 := hx.frozen 3
            go_simp
            clear hx x0 y0 x1 y1 x2 y2 x3 y3
            refine hK.out _ _ ((Since.set4 (Since.set4 hsx hg0 (.int .i64 p0) (.int .i64 p1) (.int .i64 q0) (.int .i64 q1)) hg1 _ _ _ _)) (fun hHeld => ?_)
            clear hK K
            try simp only [Act.put, List.getElem_toArray, List.getElem_cons_succ, List.getElem_cons_zero, List.setIfInBounds_toArray, List.set_cons_zero, List.set_cons_succ]
            refine wpAnyH_done (by kernel_rfl) ?_ _
            go_wp2_with fail
            go_meet
            case rel => exact ⟨wc1.heap.size, wc1.heap.size + 1, rfl, rfl, (Whole.far (Whole.far (Whole.far (Whole.far (Whole.set4 z0 (.int .i64 p0) (.int .i64 p1) (.int .i64 q0) (.int .i64 q1)) (p := ⟨wc1.heap.size + 1, 0, none⟩) (show wc1.heap.size ≠ wc1.heap.size + 1 by omega) (.int .i64 r0)) (p := ⟨wc1.heap.size + 1, 1, none⟩) (show wc1.heap.size ≠ wc1.heap.size + 1 by omega) (.int .i64 r1)) (p := ⟨wc1.heap.size + 1, 2, none⟩) (show wc1.heap.size ≠ wc1.heap.size + 1 by omega) (.int .i64 u0)) (p := ⟨wc1.heap.size + 1, 3, none⟩) (show wc1.heap.size ≠ wc1.heap.size + 1 by omega) (.int .i64 u1)), (Whole.set4 (Whole.far (Whole.far (Whole.far (Whole.far z1 (p := ⟨wc1.heap.size, 0, none⟩) (show wc1.heap.size + 1 ≠ wc1.heap.size by omega) (.int .i64 p0)) (p := ⟨wc1.heap.size, 1, none⟩) (show wc1.heap.size + 1 ≠ wc1.heap.size by omega) (.int .i64 p1)) (p := ⟨wc1.heap.size, 2, none⟩) (show wc1.heap.size + 1 ≠ wc1.heap.size by omega) (.int .i64 q0)) (p := ⟨wc1.heap.size, 3, none⟩) (show wc1.heap.size + 1 ≠ wc1.heap.size by omega) (.int .i64 q1)) (.int .i64 r0) (.int .i64 r1) (.int .i64 u0) (.int .i64 u1)), (Since.set4 (Since.set4 hsx hg0 (.int .i64 p0) (.int .i64 p1) (.int .i64 q0) (.int .i64 q1)) hg1 (.int .i64 r0) (.int .i64 r1) (.int .i64 u0) (.int .i64 u1))⟩
          · go_simp
            have hg1 : wr.heap.size ≤ wc1.heap.size := by have := Since.size_ hc1; omega
            refine hK.out _ _ ((Since.alloc hc1 _)) (fun hHeld => ?_)
            clear hK K
            try simp only [Act.put, List.getElem_toArray, List.getElem_cons_succ, List.getElem_cons_zero, List.setIfInBounds_toArray, List.set_cons_zero, List.set_cons_succ]
            refine wpAnyH_ready (rs := [6]) (by kernel_rfl) (by simp) ?_
            refine AllReadyH.cons rfl (fun K hK => ?_) AllReadyH.nil
            go_simp
            have hg0 : wr.heap.size ≤ wc1.heap.size + 1 := by have := Since.size_ hc1; omega
            have hne : wc1.heap.size ≠ wc1.heap.size + 1 := by omega
            refine hK.out _ _ ((Since.alloc (Since.alloc hc1 (.cells #[.int .i64 0, .int .i64 0, .int .i64 0, .int .i64 0] 128)) _)) (fun hHeld => ?_)
            clear hK K
            try simp only [Act.put, List.getElem_toArray, List.getElem_cons_succ, List.getElem_cons_zero, List.setIfInBounds_toArray, List.set_cons_zero, List.set_cons_succ]
            refine wpAnyH_ready (rs := [8]) (by kernel_rfl) (by simp) ?_
            refine AllReadyH.cons rfl (fun K hK => ?_) AllReadyH.nil
            obtain ⟨wx, hwx⟩ : ∃ wx, wx = ((wc1.alloc (.cells #[.int .i64 0, .int .i64 0, .int .i64 0, .int .i64 0] 128)).alloc (.cells #[.int .i64 0, .int .i64 0, .int .i64 0, .int .i64 0] 128)) := ⟨_, rfl⟩
            have hsx : Since wr wx := by rw [hwx]; exact (Since.alloc (Since.alloc hc1 (.cells #[.int .i64 0, .int .i64 0, .int .i64 0, .int .i64 0] 128)) (.cells #[.int .i64 0, .int .i64 0, .int .i64 0, .int .i64 0] 128))
            have z0 : Whole wx (wc1.heap.size + 1) 128 #[.int .i64 0, .int .i64 0, .int .i64 0, .int .i64 0] := by rw [hwx]; exact ((Whole.new (wc1.alloc (.cells #[.int .i64 0, .int .i64 0, .int .i64 0, .int .i64 0] 128)) 128 #[.int .i64 0, .int .i64 0, .int .i64 0, .int .i64 0]).at_ (by simp))
            have z1 : Whole wx (wc1.heap.size) 128 #[.int .i64 0, .int .i64 0, .int .i64 0, .int .i64 0] := by rw [hwx]; exact (Whole.alloc (Whole.new wc1 128 #[.int .i64 0, .int .i64 0, .int .i64 0, .int .i64 0]) (.cells #[.int .i64 0, .int .i64 0, .int .i64 0, .int .i64 0] 128))
            rw [← hwx]
            clear hwx
            have hx : Whole _ (wc1.heap.size + 1) 128 #[.int .i64 0, .int .i64 0, .int .i64 0, .int .i64 0] := z0
            have x0 := hx.cell 0
            have y0 := hx.frozen 0
            have x1 := hx.cell 1
            have y1 := hx.frozen 1
            have x2 := hx.cell 2
            have y2 := hx.frozen 2
            have x3 := hx.cell 3
            have y3 := hx.frozen 3
            go_simp
            clear hx x0 y0 x1 y1 x2 y2 x3 y3
            refine hK.out _ _ ((Since.set4 hsx hg0 _ _ _ _)) (fun hHeld => ?_)
            clear hK K
            try simp only [Act.put, List.getElem_toArray, List.getElem_cons_succ, List.getElem_cons_zero, List.setIfInBounds_toArray, List.set_cons_zero, List.set_cons_succ]
            refine wpAnyH_ready (rs := [9]) (by kernel_rfl) (by simp) ?_
            refine AllReadyH.cons rfl (fun K hK => ?_) AllReadyH.nil
            have hx : Whole _ (wc1.heap.size) 128 #[.int .i64 0, .int .i64 0, .int .i64 0, .int .i64 0] := (Whole.far (Whole.far (Whole.far (Whole.far z1 (p := ⟨wc1.heap.size + 1, 0, none⟩) (show wc1.heap.size ≠ wc1.heap.size + 1 by omega) (.int .i64 p0)) (p := ⟨wc1.heap.size + 1, 1, none⟩) (show wc1.heap.size ≠ wc1.heap.size + 1 by omega) (.int .i64 p1)) (p := ⟨wc1.heap.size + 1, 2, none⟩) (show wc1.heap.size ≠ wc1.heap.size + 1 by omega) (.int .i64 q0)) (p := ⟨wc1.heap.size + 1, 3, none⟩) (show wc1.heap.size ≠ wc1.heap.size + 1 by omega) (.int .i64 q1))
            have x0 := hx.cell 0
            have y0 := hx.frozen 0
            have x1 := hx.cell 1
            have y1 := hx.frozen 1
            have x2 := hx.cell 2
            have y2 := hx.frozen 2
            have x3 := hx.cell 3
            have y3 := hx.frozen 3
            go_simp
            clear hx x0 y0 x1 y1 x2 y2 x3 y3
            refine hK.out _ _ ((Since.set4 (Since.set4 hsx hg0 (.int .i64 p0) (.int .i64 p1) (.int .i64 q0) (.int .i64 q1)) hg1 _ _ _ _)) (fun hHeld => ?_)
            clear hK K
            try simp only [Act.put, List.getElem_toArray, List.getElem_cons_succ, List.getElem_cons_zero, List.setIfInBounds_toArray, List.set_cons_zero, List.set_cons_succ]
            refine wpAnyH_done (by kernel_rfl) ?_ _
            go_wp2_with fail
            go_meet
            case rel => exact ⟨wc1.heap.size + 1, wc1.heap.size, rfl, rfl, (Whole.far (Whole.far (Whole.far (Whole.far (Whole.set4 z0 (.int .i64 p0) (.int .i64 p1) (.int .i64 q0) (.int .i64 q1)) (p := ⟨wc1.heap.size, 0, none⟩) (show wc1.heap.size + 1 ≠ wc1.heap.size by omega) (.int .i64 r0)) (p := ⟨wc1.heap.size, 1, none⟩) (show wc1.heap.size + 1 ≠ wc1.heap.size by omega) (.int .i64 r1)) (p := ⟨wc1.heap.size, 2, none⟩) (show wc1.heap.size + 1 ≠ wc1.heap.size by omega) (.int .i64 u0)) (p := ⟨wc1.heap.size, 3, none⟩) (show wc1.heap.size + 1 ≠ wc1.heap.size by omega) (.int .i64 u1)), (Whole.set4 (Whole.far (Whole.far (Whole.far (Whole.far z1 (p := ⟨wc1.heap.size + 1, 0, none⟩) (show wc1.heap.size ≠ wc1.heap.size + 1 by omega) (.int .i64 p0)) (p := ⟨wc1.heap.size + 1, 1, none⟩) (show wc1.heap.size ≠ wc1.heap.size + 1 by omega) (.int .i64 p1)) (p := ⟨wc1.heap.size + 1, 2, none⟩) (show wc1.heap.size ≠ wc1.heap.size + 1 by omega) (.int .i64 q0)) (p := ⟨wc1.heap.size + 1, 3, none⟩) (show wc1.heap.size ≠ wc1.heap.size + 1 by omega) (.int .i64 q1)) (.int .i64 r0) (.int .i64 r1) (.int .i64 u0) (.int .i64 u1)), (Since.set4 (Since.set4 hsx hg0 (.int .i64 p0) (.int .i64 p1) (.int .i64 q0) (.int .i64 q1)) hg1 (.int .i64 r0) (.int .i64 r1) (.int .i64 u0) (.int .i64 u1))⟩
        · go_simp
          have hg0 : wr.heap.size ≤ wc0.heap.size := by have := Since.size_ hc0; omega
          refine hK.out _ _ ((Since.alloc hc0 _)) (fun hHeld => ?_)
          clear hK K
          try simp only [Act.put, List.getElem_toArray, List.getElem_cons_succ, List.getElem_cons_zero, List.setIfInBounds_toArray, List.set_cons_zero, List.set_cons_succ]
          refine wpAnyH_ready (rs := [5, 7]) (by kernel_rfl) (by simp) ?_
          refine AllReadyH.cons rfl (fun K hK => ?_) (AllReadyH.cons rfl (fun K hK => ?_) AllReadyH.nil)
          · go_simp
            refine (HC1.out _).mono ?_
            rintro e wc1 ⟨rfl, hd1⟩
            have hc1 : Since wr wc1 := Since.trans (Since.alloc hc0 (.cells #[.int .i64 0, .int .i64 0, .int .i64 0, .int .i64 0] 128)) hd1
            have b0c1 : Whole wc1 (wc0.heap.size) 128 #[.int .i64 0, .int .i64 0, .int .i64 0, .int .i64 0] := Since.whole hd1 (Whole.new wc0 128 #[.int .i64 0, .int .i64 0, .int .i64 0, .int .i64 0])
            go_wp2_with fail
            refine hK.out _ _ (hc1) (fun hHeld => ?_)
            clear hK K
            try simp only [Act.put, List.getElem_toArray, List.getElem_cons_succ, List.getElem_cons_zero, List.setIfInBounds_toArray, List.set_cons_zero, List.set_cons_succ]
            refine wpAnyH_ready (rs := [7]) (by kernel_rfl) (by simp) ?_
            refine AllReadyH.cons rfl (fun K hK => ?_) AllReadyH.nil
            go_simp
            have hg1 : wr.heap.size ≤ wc1.heap.size := by have := Since.size_ hc1; omega
            have hne : wc0.heap.size ≠ wc1.heap.size := by have := Whole.lt b0c1; omega
            refine hK.out _ _ ((Since.alloc hc1 _)) (fun hHeld => ?_)
            clear hK K
            try simp only [Act.put, List.getElem_toArray, List.getElem_cons_succ, List.getElem_cons_zero, List.setIfInBounds_toArray, List.set_cons_zero, List.set_cons_succ]
            refine wpAnyH_ready (rs := [8]) (by kernel_rfl) (by simp) ?_
            refine AllReadyH.cons rfl (fun K hK => ?_) AllReadyH.nil
            obtain ⟨wx, hwx⟩ : ∃ wx, wx = (wc1.alloc (.cells #[.int .i64 0, .int .i64 0, .int .i64 0, .int .i64 0] 128)) := ⟨_, rfl⟩
            have hsx : Since wr wx := by rw [hwx]; exact (Since.alloc hc1 (.cells #[.int .i64 0, .int .i64 0, .int .i64 0, .int .i64 0] 128))
            have z0 : Whole wx (wc0.heap.size) 128 #[.int .i64 0, .int .i64 0, .int .i64 0, .int .i64 0] := by rw [hwx]; exact (Whole.alloc b0c1 (.cells #[.int .i64 0, .int .i64 0, .int .i64 0, .int .i64 0] 128))
            have z1 : Whole wx (wc1.heap.size) 128 #[.int .i64 0, .int .i64 0, .int .i64 0, .int .i64 0] := by rw [hwx]; exact (Whole.new wc1 128 #[.int .i64 0, .int .i64 0, .int .i64 0, .int .i64 0])
            rw [← hwx]
            clear hwx
            have hx : Whole _ (wc0.heap.size) 128 #[.int .i64 0, .int .i64 0, .int .i64 0, .int .i64 0] := z0
            have x0 := hx.cell 0
            have y0 := hx.frozen 0
            have x1 := hx.cell 1
            have y1 := hx.frozen 1
            have x2 := hx.cell 2
            have y2 := hx.frozen 2
            have x3 := hx.cell 3
            have y3 := hx.frozen 3
            go_simp
            clear hx x0 y0 x1 y1 x2 y2 x3 y3
            refine hK.out _ _ ((Since.set4 hsx hg0 _ _ _ _)) (fun hHeld => ?_)
            clear hK K
            try simp only [Act.put, List.getElem_toArray, List.getElem_cons_succ, List.getElem_cons_zero, List.setIfInBounds_toArray, List.set_cons_zero, List.set_cons_succ]
            refine wpAnyH_ready (rs := [9]) (by kernel_rfl) (by simp) ?_
            refine AllReadyH.cons rfl (fun K hK => ?_) AllReadyH.nil
            have hx : Whole _ (wc1.heap.size) 128 #[.int .i64 0, .int .i64 0, .int .i64 0, .int .i64 0] := (Whole.far (Whole.far (Whole.far (Whole.far z1 (p := ⟨wc0.heap.size, 0, none⟩) (show wc1.heap.size ≠ wc0.heap.size by omega) (.int .i64 p0)) (p := ⟨wc0.heap.size, 1, none⟩) (show wc1.heap.size ≠ wc0.heap.size by omega) (.int .i64 p1)) (p := ⟨wc0.heap.size, 2, none⟩) (show wc1.heap.size ≠ wc0.heap.size by omega) (.int .i64 q0)) (p := ⟨wc0.heap.size, 3, none⟩) (show wc1.heap.size ≠ wc0.heap.size by omega) (.int .i64 q1))
            have x0 := hx.cell 0
            have y0 := hx.frozen 0
            have x1 := hx.cell 1
            have y1 := hx.frozen 1
            have x2 := hx.cell 2
            have y2 := hx.frozen 2
            have x3 := hx.cell 3
            have y3 := hx.frozen 3
            go_simp
            clear hx x0 y0 x1 y1 x2 y2 x3 y3
            refine hK.out _ _ ((Since.set4 (Since.set4 hsx hg0 (.int .i64 p0) (.int .i64 p1) (.int .i64 q0) (.int .i64 q1)) hg1 _ _ _ _)) (fun hHeld => ?_)
            clear hK K
            try simp only [Act.put, List.getElem_toArray, List.getElem_cons_succ, List.getElem_cons_zero, List.setIfInBounds_toArray, List.set_cons_zero, List.set_cons_succ]
            refine wpAnyH_done (by kernel_rfl) ?_ _
            go_wp2_with fail
            go_meet
            case rel => exact ⟨wc0.heap.size, wc1.heap.size, rfl, rfl, (Whole.far (Whole.far (Whole.far (Whole.far (Whole.set4 z0 (.int .i64 p0) (.int .i64 p1) (.int .i64 q0) (.int .i64 q1)) (p := ⟨wc1.heap.size, 0, none⟩) (show wc0.heap.size ≠ wc1.heap.size by omega) (.int .i64 r0)) (p := ⟨wc1.heap.size, 1, none⟩) (show wc0.heap.size ≠ wc1.heap.size by omega) (.int .i64 r1)) (p := ⟨wc1.heap.size, 2, none⟩) (show wc0.heap.size ≠ wc1.heap.size by omega) (.int .i64 u0)) (p := ⟨wc1.heap.size, 3, none⟩) (show wc0.heap.size ≠ wc1.heap.size by omega) (.int .i64 u1)), (Whole.set4 (Whole.far (Whole.far (Whole.far (Whole.far z1 (p := ⟨wc0.heap.size, 0, none⟩) (show wc1.heap.size ≠ wc0.heap.size by omega) (.int .i64 p0)) (p := ⟨wc0.heap.size, 1, none⟩) (show wc1.heap.size ≠ wc0.heap.size by omega) (.int .i64 p1)) (p := ⟨wc0.heap.size, 2, none⟩) (show wc1.heap.size ≠ wc0.heap.size by omega) (.int .i64 q0)) (p := ⟨wc0.heap.size, 3, none⟩) (show wc1.heap.size ≠ wc0.heap.size by omega) (.int .i64 q1)) (.int .i64 r0) (.int .i64 r1) (.int .i64 u0) (.int .i64 u1)), (Since.set4 (Since.set4 hsx hg0 (.int .i64 p0) (.int .i64 p1) (.int .i64 q0) (.int .i64 q1)) hg1 (.int .i64 r0) (.int .i64 r1) (.int .i64 u0) (.int .i64 u1))⟩
          · go_simp
            have hg1 : wr.heap.size ≤ wc0.heap.size + 1 := by have := Since.size_ hc0; omega
            have hne : wc0.heap.size ≠ wc0.heap.size + 1 := by omega
            refine hK.out _ _ ((Since.alloc (Since.alloc hc0 (.cells #[.int .i64 0, .int .i64 0, .int .i64 0, .int .i64 0] 128)) _)) (fun hHeld => ?_)
            clear hK K
            try simp only [Act.put, List.getElem_toArray, List.getElem_cons_succ, List.getElem_cons_zero, List.setIfInBounds_toArray, List.set_cons_zero, List.set_cons_succ]
            refine wpAnyH_ready (rs := [5]) (by kernel_rfl) (by simp) ?_
            refine AllReadyH.cons rfl (fun K hK => ?_) AllReadyH.nil
            go_simp
            refine (HC1.out _).mono ?_
            rintro e wc1 ⟨rfl, hd1⟩
            have hc1 : Since wr wc1 := Since.trans (Since.alloc (Since.alloc hc0 (.cells #[.int .i64 0, .int .i64 0, .int .i64 0, .int .i64 0] 128)) (.cells #[.int .i64 0, .int .i64 0, .int .i64 0, .int .i64 0] 128)) hd1
            have b0c1 : Whole wc1 (wc0.heap.size) 128 #[.int .i64 0, .int .i64 0, .int .i64 0, .int .i64 0] := Since.whole hd1 (Whole.alloc (Whole.new wc0 128 #[.int .i64 0, .int .i64 0, .int .i64 0, .int .i64 0]) (.cells #[.int .i64 0, .int .i64 0, .int .i64 0, .int .i64 0] 128))
            have b1c1 : Whole wc1 (wc0.heap.size + 1) 128 #[.int .i64 0, .int .i64 0, .int .i64 0, .int .i64 0] := Since.whole hd1 ((Whole.new (wc0.alloc (.cells #[.int .i64 0, .int .i64 0, .int .i64 0, .int .i64 0] 128)) 128 #[.int .i64 0, .int .i64 0, .int .i64 0, .int .i64 0]).at_ (by simp))
            go_wp2_with fail
            refine hK.out _ _ (hc1) (fun hHeld => ?_)
            clear hK K
            try simp only [Act.put, List.getElem_toArray, List.getElem_cons_succ, List.getElem_cons_zero, List.setIfInBounds_toArray, List.set_cons_zero, List.set_cons_succ]
            refine wpAnyH_ready (rs := [8]) (by kernel_rfl) (by simp) ?_
            refine AllReadyH.cons rfl (fun K hK => ?_) AllReadyH.nil
            obtain ⟨wx, hwx⟩ : ∃ wx, wx = wc1 := ⟨_, rfl⟩
            have hsx : Since wr wx := by rw [hwx]; exact hc1
            have z0 : Whole wx (wc0.heap.size) 128 #[.int .i64 0, .int .i64 0, .int .i64 0, .int .i64 0] := by rw [hwx]; exact b0c1
            have z1 : Whole wx (wc0.heap.size + 1) 128 #[.int .i64 0, .int .i64 0, .int .i64 0, .int .i64 0] := by rw [hwx]; exact b1c1
            rw [← hwx]
            clear hwx
            have hx : Whole _ (wc0.heap.size) 128 #[.int .i64 0, .int .i64 0, .int .i64 0, .int .i64 0] := z0
            have x0 := hx.cell 0
            have y0 := hx.frozen 0
            have x1 := hx.cell 1
            have y1 := hx.frozen 1
            have x2 := hx.cell 2
            have y2 := hx.frozen 2
            have x3 := hx.cell 3
            have y3 := hx.frozen 3
            go_simp
            clear hx x0 y0 x1 y1 x2 y2 x3 y3
            refine hK.out _ _ ((Since.set4 hsx hg0 _ _ _ _)) (fun hHeld => ?_)
            clear hK K
            try simp only [Act.put, List.getElem_toArray, List.getElem_cons_succ, List.getElem_cons_zero, List.setIfInBounds_toArray, List.set_cons_zero, List.set_cons_succ]
            refine wpAnyH_ready (rs := [9]) (by kernel_rfl) (by simp) ?_
            refine AllReadyH.cons rfl (fun K hK => ?_) AllReadyH.nil
            have hx : Whole _ (wc0.heap.size + 1) 128 #[.int .i64 0, .int .i64 0, .int .i64 0, .int .i64 0] := (Whole.far (Whole.far (Whole.far (Whole.far z1 (p := ⟨wc0.heap.size, 0, none⟩) (show wc0.heap.size + 1 ≠ wc0.heap.size by omega) (.int .i64 p0)) (p := ⟨wc0.heap.size, 1, none⟩) (show wc0.heap.size + 1 ≠ wc0.heap.size by omega) (.int .i64 p1)) (p := ⟨wc0.heap.size, 2, none⟩) (show wc0.heap.size + 1 ≠ wc0.heap.size by omega) (.int .i64 q0)) (p := ⟨wc0.heap.size, 3, none⟩) (show wc0.heap.size + 1 ≠ wc0.heap.size by omega) (.int .i64 q1))
            have x0 := hx.cell 0
            have y0 := hx.frozen 0
            have x1 := hx.cell 1
            have y1 := hx.frozen 1
            have x2 := hx.cell 2
            have y2 := hx.frozen 2
            have x3 := hx.cell 3
            have y3 := hx.frozen 3
            go_simp
            clear hx x0 y0 x1 y1 x2 y2 x3 y3
            refine hK.out _ _ ((Since.set4 (Since.set4 hsx hg0 (.int .i64 p0) (.int .i64 p1) (.int .i64 q0) (.int .i64 q1)) hg1 _ _ _ _)) (fun hHeld => ?_)
            clear hK K
            try simp only [Act.put, List.getElem_toArray, List.getElem_cons_succ, List.getElem_cons_zero, List.setIfInBounds_toArray, List.set_cons_zero, List.set_cons_succ]
            refine wpAnyH_done (by kernel_rfl) ?_ _
            go_wp2_with fail
            go_meet
            case rel => exact ⟨wc0.heap.size, wc0.heap.size + 1, rfl, rfl, (Whole.far (Whole.far (Whole.far (Whole.far (Whole.set4 z0 (.int .i64 p0) (.int .i64 p1) (.int .i64 q0) (.int .i64 q1)) (p := ⟨wc0.heap.size + 1, 0, none⟩) (show wc0.heap.size ≠ wc0.heap.size + 1 by omega) (.int .i64 r0)) (p := ⟨wc0.heap.size + 1, 1, none⟩) (show wc0.heap.size ≠ wc0.heap.size + 1 by omega) (.int .i64 r1)) (p := ⟨wc0.heap.size + 1, 2, none⟩) (show wc0.heap.size ≠ wc0.heap.size + 1 by omega) (.int .i64 u0)) (p := ⟨wc0.heap.size + 1, 3, none⟩) (show wc0.heap.size ≠ wc0.heap.size + 1 by omega) (.int .i64 u1)), (Whole.set4 (Whole.far (Whole.far (Whole.far (Whole.far z1 (p := ⟨wc0.heap.size, 0, none⟩) (show wc0.heap.size + 1 ≠ wc0.heap.size by omega) (.int .i64 p0)) (p := ⟨wc0.heap.size, 1, none⟩) (show wc0.heap.size + 1 ≠ wc0.heap.size by omega) (.int .i64 p1)) (p := ⟨wc0.heap.size, 2, none⟩) (show wc0.heap.size + 1 ≠ wc0.heap.size by omega) (.int .i64 q0)) (p := ⟨wc0.heap.size, 3, none⟩) (show wc0.heap.size + 1 ≠ wc0.heap.size by omega) (.int .i64 q1)) (.int .i64 r0) (.int .i64 r1) (.int .i64 u0) (.int .i64 u1)), (Since.set4 (Since.set4 hsx hg0 (.int .i64 p0) (.int .i64 p1) (.int .i64 q0) (.int .i64 q1)) hg1 (.int .i64 r0) (.int .i64 r1) (.int .i64 u0) (.int .i64 u1))⟩
        · go_simp
          have hg1 : wr.heap.size ≤ wc0.heap.size := by have := Since.size_ hc0; omega
          refine hK.out _ _ ((Since.alloc hc0 _)) (fun hHeld => ?_)
          clear hK K
          try simp only [Act.put, List.getElem_toArray, List.getElem_cons_succ, List.getElem_cons_zero, List.setIfInBounds_toArray, List.set_cons_zero, List.set_cons_succ]
          refine wpAnyH_ready (rs := [5, 6]) (by kernel_rfl) (by simp) ?_
          refine AllReadyH.cons rfl (fun K hK => ?_) (AllReadyH.cons rfl (fun K hK => ?_) AllReadyH.nil)
          · go_simp
            refine (HC1.out _).mono ?_
            rintro e wc1 ⟨rfl, hd1⟩
            have hc1 : Since wr wc1 := Since.trans (Since.alloc hc0 (.cells #[.int .i64 0, .int .i64 0, .int .i64 0, .int .i64 0] 128)) hd1
            have b1c1 : Whole wc1 (wc0.heap.size) 128 #[.int .i64 0, .int .i64 0, .int .i64 0, .int .i64 0] := Since.whole hd1 (Whole.new wc0 128 #[.int .i64 0, .int .i64 0, .int .i64 0, .int .i64 0])
            go_wp2_with fail
            refine hK.out _ _ (hc1) (fun hHeld => ?_)
            clear hK K
            try simp only [Act.put, List.getElem_toArray, List.getElem_cons_succ, List.getElem_cons_zero, List.setIfInBounds_toArray, List.set_cons_zero, List.set_cons_succ]
            refine wpAnyH_ready (rs := [6]) (by kernel_rfl) (by simp) ?_
            refine AllReadyH.cons rfl (fun K hK => ?_) AllReadyH.nil
            go_simp
            have hg0 : wr.heap.size ≤ wc1.heap.size := by have := Since.size_ hc1; omega
            have hne : wc0.heap.size ≠ wc1.heap.size := by have := Whole.lt b1c1; omega
            refine hK.out _ _ ((Since.alloc hc1 _)) (fun hHeld => ?_)
            clear hK K
            try simp only [Act.put, List.getElem_toArray, List.getElem_cons_succ, List.getElem_cons_zero, List.setIfInBounds_toArray, List.set_cons_zero, List.set_cons_succ]
            refine wpAnyH_ready (rs := [8]) (by kernel_rfl) (by simp) ?_
            refine AllReadyH.cons rfl (fun K hK => ?_) AllReadyH.nil
            obtain ⟨wx, hwx⟩ : ∃ wx, wx = (wc1.alloc (.cells #[.int .i64 0, .int .i64 0, .int .i64 0, .int .i64 0] 128)) := ⟨_, rfl⟩
            have hsx : Since wr wx := by rw [hwx]; exact (Since.alloc hc1 (.cells #[.int .i64 0, .int .i64 0, .int .i64 0, .int .i64 0] 128))
            have z0 : Whole wx (wc1.heap.size) 128 #[.int .i64 0, .int .i64 0, .int .i64 0, .int .i64 0] := by rw [hwx]; exact (Whole.new wc1 128 #[.int .i64 0, .int .i64 0, .int .i64 0, .int .i64 0])
            have z1 : Whole wx (wc0.heap.size) 128 #[.int .i64 0, .int .i64 0, .int .i64 0, .int .i64 0] := by rw [hwx]; exact (Whole.alloc b1c1 (.cells #[.int .i64 0, .int .i64 0, .int .i64 0, .int .i64 0] 128))
            rw [← hwx]
            clear hwx
            have hx : Whole _ (wc1.heap.size) 128 #[.int .i64 0, .int .i64 0, .int .i64 0, .int .i64 0] := z0
            have x0 := hx.cell 0
            have y0 := hx.frozen 0
            have x1 := hx.cell 1
            have y1 := hx.frozen 1
            have x2 := hx.cell 2
            have y2 := hx.frozen 2
            have x3 := hx.cell 3
            have y3 := hx.frozen 3
            go_simp
            clear hx x0 y0 x1 y1 x2 y2 x3 y3
            refine hK.out _ _ ((Since.set4 hsx hg0 _ _ _ _)) (fun hHeld => ?_)
            clear hK K
            try simp only [Act.put, List.getElem_toArray, List.getElem_cons_succ, List.getElem_cons_zero, List.setIfInBounds_toArray, List.set_cons_zero, List.set_cons_succ]
            refine wpAnyH_ready (rs := [9]) (by kernel_rfl) (by simp) ?_
            refine AllReadyH.cons rfl (fun K hK => ?_) AllReadyH.nil
            have hx : Whole _ (wc0.heap.size) 128 #[.int .i64 0, .int .i64 0, .int .i64 0, .int .i64 0] := (Whole.far (Whole.far (Whole.far (Whole.far z1 (p := ⟨wc1.heap.size, 0, none⟩) (show wc0.heap.size ≠ wc1.heap.size by omega) (.int .i64 p0)) (p := ⟨wc1.heap.size, 1, none⟩) (show wc0.heap.size ≠ wc1.heap.size by omega) (.int .i64 p1)) (p := ⟨wc1.heap.size, 2, none⟩) (show wc0.heap.size ≠ wc1.heap.size by omega) (.int .i64 q0)) (p := ⟨wc1.heap.size, 3, none⟩) (show wc0.heap.size ≠ wc1.heap.size by omega) (.int .i64 q1))
            have x0 := hx.cell 0
            have y0 := hx.frozen 0
            have x1 := hx.cell 1
            have y1 := hx.frozen 1
            have x2 := hx.cell 2
            have y2 := hx.frozen 2
            have x3 := hx.cell 3
            have y3 := hx.frozen 3
            go_simp
            clear hx x0 y0 x1 y1 x2 y2 x3 y3
            refine hK.out _ _ ((Since.set4 (Since.set4 hsx hg0 (.int .i64 p0) (.int .i64 p1) (.int .i64 q0) (.int .i64 q1)) hg1 _ _ _ _)) (fun hHeld => ?_)
            clear hK K
            try simp only [Act.put, List.getElem_toArray, List.getElem_cons_succ, List.getElem_cons_zero, List.setIfInBounds_toArray, List.set_cons_zero, List.set_cons_succ]
            refine wpAnyH_done (by kernel_rfl) ?_ _
            go_wp2_with fail
            go_meet
            case rel => exact ⟨wc1.heap.size, wc0.heap.size, rfl, rfl, (Whole.far (Whole.far (Whole.far (Whole.far (Whole.set4 z0 (.int .i64 p0) (.int .i64 p1) (.int .i64 q0) (.int .i64 q1)) (p := ⟨wc0.heap.size, 0, none⟩) (show wc1.heap.size ≠ wc0.heap.size by omega) (.int .i64 r0)) (p := ⟨wc0.heap.size, 1, none⟩) (show wc1.heap.size ≠ wc0.heap.size by omega) (.int .i64 r1)) (p := ⟨wc0.heap.size, 2, none⟩) (show wc1.heap.size ≠ wc0.heap.size by omega) (.int .i64 u0)) (p := ⟨wc0.heap.size, 3, none⟩) (show wc1.heap.size ≠ wc0.heap.size by omega) (.int .i64 u1)), (Whole.set4 (Whole.far (Whole.far (Whole.far (Whole.far z1 (p := ⟨wc1.heap.size, 0, none⟩) (show wc0.heap.size ≠ wc1.heap.size by omega) (.int .i64 p0)) (p := ⟨wc1.heap.size, 1, none⟩) (show wc0.heap.size ≠ wc1.heap.size by omega) (.int .i64 p1)) (p := ⟨wc1.heap.size, 2, none⟩) (show wc0.heap.size ≠ wc1.heap.size by omega) (.int .i64 q0)) (p := ⟨wc1.heap.size, 3, none⟩) (show wc0.heap.size ≠ wc1.heap.size by omega) (.int .i64 q1)) (.int .i64 r0) (.int .i64 r1) (.int .i64 u0) (.int .i64 u1)), (Since.set4 (Since.set4 hsx hg0 (.int .i64 p0) (.int .i64 p1) (.int .i64 q0) (.int .i64 q1)) hg1 (.int .i64 r0) (.int .i64 r1) (.int .i64 u0) (.int .i64 u1))⟩
          · go_simp
            have hg0 : wr.heap.size ≤ wc0.heap.size + 1 := by have := Since.size_ hc0; omega
            have hne : wc0.heap.size ≠ wc0.heap.size + 1 := by omega
            refine hK.out _ _ ((Since.alloc (Since.alloc hc0 (.cells #[.int .i64 0, .int .i64 0, .int .i64 0, .int .i64 0] 128)) _)) (fun hHeld => ?_)
            clear hK K
            try simp only [Act.put, List.getElem_toArray, List.getElem_cons_succ, List.getElem_cons_zero, List.setIfInBounds_toArray, List.set_cons_zero, List.set_cons_succ]
            refine wpAnyH_ready (rs := [5]) (by kernel_rfl) (by simp) ?_
            refine AllReadyH.cons rfl (fun K hK => ?_) AllReadyH.nil
            go_simp
            refine (HC1.out _).mono ?_
            rintro e wc1 ⟨rfl, hd1⟩
            have hc1 : Since wr wc1 := Since.trans (Since.alloc (Since.alloc hc0 (.cells #[.int .i64 0, .int .i64 0, .int .i64 0, .int .i64 0] 128)) (.cells #[.int .i64 0, .int .i64 0, .int .i64 0, .int .i64 0] 128)) hd1
            have b0c1 : Whole wc1 (wc0.heap.size + 1) 128 #[.int .i64 0, .int .i64 0, .int .i64 0, .int .i64 0] := Since.whole hd1 ((Whole.new (wc0.alloc (.cells #[.int .i64 0, .int .i64 0, .int .i64 0, .int .i64 0] 128)) 128 #[.int .i64 0, .int .i64 0, .int .i64 0, .int .i64 0]).at_ (by simp))
            have b1c1 : Whole wc1 (wc0.heap.size) 128 #[.int .i64 0, .int .i64 0, .int .i64 0, .int .i64 0] := Since.whole hd1 (Whole.alloc (Whole.new wc0 128 #[.int .i64 0, .int .i64 0, .int .i64 0, .int .i64 0]) (.cells #[.int .i64 0, .int .i64 0, .int .i64 0, .int .i64 0] 128))
            go_wp2_with fail
            refine hK.out _ _ (hc1) (fun hHeld => ?_)
            clear hK K
            try simp only [Act.put, List.getElem_toArray, List.getElem_cons_succ, List.getElem_cons_zero, List.setIfInBounds_toArray, List.set_cons_zero, List.set_cons_succ]
            refine wpAnyH_ready (rs := [8]) (by kernel_rfl) (by simp) ?_
            refine AllReadyH.cons rfl (fun K hK => ?_) AllReadyH.nil
            obtain ⟨wx, hwx⟩ : ∃ wx, wx = wc1 := ⟨_, rfl⟩
            have hsx : Since wr wx := by rw [hwx]; exact hc1
            have z0 : Whole wx (wc0.heap.size + 1) 128 #[.int .i64 0, .int .i64 0, .int .i64 0, .int .i64 0] := by rw [hwx]; exact b0c1
            have z1 : Whole wx (wc0.heap.size) 128 #[.int .i64 0, .int .i64 0, .int .i64 0, .int .i64 0] := by rw [hwx]; exact b1c1
            rw [← hwx]
            clear hwx
            have hx : Whole _ (wc0.heap.size + 1) 128 #[.int .i64 0, .int .i64 0, .int .i64 0, .int .i64 0] := z0
            have x0 := hx.cell 0
            have y0 := hx.frozen 0
            have x1 := hx.cell 1
            have y1 := hx.frozen 1
            have x2 := hx.cell 2
            have y2 := hx.frozen 2
            have x3 := hx.cell 3
            have y3 := hx.frozen 3
            go_simp
            clear hx x0 y0 x1 y1 x2 y2 x3 y3
            refine hK.out _ _ ((Since.set4 hsx hg0 _ _ _ _)) (fun hHeld => ?_)
            clear hK K
            try simp only [Act.put, List.getElem_toArray, List.getElem_cons_succ, List.getElem_cons_zero, List.setIfInBounds_toArray, List.set_cons_zero, List.set_cons_succ]
            refine wpAnyH_ready (rs := [9]) (by kernel_rfl) (by simp) ?_
            refine AllReadyH.cons rfl (fun K hK => ?_) AllReadyH.nil
            have hx : Whole _ (wc0.heap.size) 128 #[.int .i64 0, .int .i64 0, .int .i64 0, .int .i64 0] := (Whole.far (Whole.far (Whole.far (Whole.far z1 (p := ⟨wc0.heap.size + 1, 0, none⟩) (show wc0.heap.size ≠ wc0.heap.size + 1 by omega) (.int .i64 p0)) (p := ⟨wc0.heap.size + 1, 1, none⟩) (show wc0.heap.size ≠ wc0.heap.size + 1 by omega) (.int .i64 p1)) (p := ⟨wc0.heap.size + 1, 2, none⟩) (show wc0.heap.size ≠ wc0.heap.size + 1 by omega) (.int .i64 q0)) (p := ⟨wc0.heap.size + 1, 3, none⟩) (show wc0.heap.size ≠ wc0.heap.size + 1 by omega) (.int .i64 q1))
            have x0 := hx.cell 0
            have y0 := hx.frozen 0
            have x1 := hx.cell 1
            have y1 := hx.frozen 1
            have x2 := hx.cell 2
            have y2 := hx.frozen 2
            have x3 := hx.cell 3
            have y3 := hx.frozen 3
            go_simp
            clear hx x0 y0 x1 y1 x2 y2 x3 y3
            refine hK.out _ _ ((Since.set4 (Since.set4 hsx hg0 (.int .i64 p0) (.int .i64 p1) (.int .i64 q0) (.int .i64 q1)) hg1 _ _ _ _)) (fun hHeld => ?_)
            clear hK K
            try simp only [Act.put, List.getElem_toArray, List.getElem_cons_succ, List.getElem_cons_zero, List.setIfInBounds_toArray, List.set_cons_zero, List.set_cons_succ]
            refine wpAnyH_done (by kernel_rfl) ?_ _
            go_wp2_with fail
            go_meet
            case rel => exact ⟨wc0.heap.size + 1, wc0.heap.size, rfl, rfl, (Whole.far (Whole.far (Whole.far (Whole.far (Whole.set4 z0 (.int .i64 p0) (.int .i64 p1) (.int .i64 q0) (.int .i64 q1)) (p := ⟨wc0.heap.size, 0, none⟩) (show wc0.heap.size + 1 ≠ wc0.heap.size by omega) (.int .i64 r0)) (p := ⟨wc0.heap.size, 1, none⟩) (show wc0.heap.size + 1 ≠ wc0.heap.size by omega) (.int .i64 r1)) (p := ⟨wc0.heap.size, 2, none⟩) (show wc0.heap.size + 1 ≠ wc0.heap.size by omega) (.int .i64 u0)) (p := ⟨wc0.heap.size, 3, none⟩) (show wc0.heap.size + 1 ≠ wc0.heap.size by omega) (.int .i64 u1)), (Whole.set4 (Whole.far (Whole.far (Whole.far (Whole.far z1 (p := ⟨wc0.heap.size + 1, 0, none⟩) (show wc0.heap.size ≠ wc0.heap.size + 1 by omega) (.int .i64 p0)) (p := ⟨wc0.heap.size + 1, 1, none⟩) (show wc0.heap.size ≠ wc0.heap.size + 1 by omega) (.int .i64 p1)) (p := ⟨wc0.heap.size + 1, 2, none⟩) (show wc0.heap.size ≠ wc0.heap.size + 1 by omega) (.int .i64 q0)) (p := ⟨wc0.heap.size + 1, 3, none⟩) (show wc0.heap.size ≠ wc0.heap.size + 1 by omega) (.int .i64 q1)) (.int .i64 r0) (.int .i64 r1) (.int .i64 u0) (.int .i64 u1)), (Since.set4 (Since.set4 hsx hg0 (.int .i64 p0) (.int .i64 p1) (.int .i64 q0) (.int .i64 q1)) hg1 (.int .i64 r0) (.int .i64 r1) (.int .i64 u0) (.int .i64 u1))⟩
      · go_simp
        have hg0 : wr.heap.size ≤ wq.heap.size := by have := Since.size_ hq; omega
        refine hK.out _ _ ((Since.alloc hq _)) (fun hHeld => ?_)
        clear hK K
        try simp only [Act.put, List.getElem_toArray, List.getElem_cons_succ, List.getElem_cons_zero, List.setIfInBounds_toArray, List.set_cons_zero, List.set_cons_succ]
        refine wpAnyH_ready (rs := [2, 7]) (by kernel_rfl) (by simp) ?_
        refine AllReadyH.cons rfl (fun K hK => ?_) (AllReadyH.cons rfl (fun K hK => ?_) AllReadyH.nil)
        · go_simp
          refine (HC0.out _).mono ?_
          rintro e wc0 ⟨rfl, hd0⟩
          have hc0 : Since wr wc0 := Since.trans (Since.alloc hq (.cells #[.int .i64 0, .int .i64 0, .int .i64 0, .int .i64 0] 128)) hd0
          have b0c0 : Whole wc0 (wq.heap.size) 128 #[.int .i64 0, .int .i64 0, .int .i64 0, .int .i64 0] := Since.whole hd0 (Whole.new wq 128 #[.int .i64 0, .int .i64 0, .int .i64 0, .int .i64 0])
          go_wp2_with fail
          refine hK.out _ _ (hc0) (fun hHeld => ?_)
          clear hK K
          try simp only [Act.put, List.getElem_toArray, List.getElem_cons_succ, List.getElem_cons_zero, List.setIfInBounds_toArray, List.set_cons_zero, List.set_cons_succ]
          refine wpAnyH_ready (rs := [5, 7]) (by kernel_rfl) (by simp) ?_
          refine AllReadyH.cons rfl (fun K hK => ?_) (AllReadyH.cons rfl (fun K hK => ?_) AllReadyH.nil)
          · go_simp
            refine (HC1.out _).mono ?_
            rintro e wc1 ⟨rfl, hd1⟩
            have hc1 : Since wr wc1 := Since.trans hc0 hd1
            have b0c1 : Whole wc1 (wq.heap.size) 128 #[.int .i64 0, .int .i64 0, .int .i64 0, .int .i64 0] := Since.whole hd1 b0c0
            go_wp2_with fail
            refine hK.out _ _ (hc1) (fun hHeld => ?_)
            clear hK K
            try simp only [Act.put, List.getElem_toArray, List.getElem_cons_succ, List.getElem_cons_zero, List.setIfInBounds_toArray, List.set_cons_zero, List.set_cons_succ]
            refine wpAnyH_ready (rs := [7]) (by kernel_rfl) (by simp) ?_
            refine AllReadyH.cons rfl (fun K hK => ?_) AllReadyH.nil
            go_simp
            have hg1 : wr.heap.size ≤ wc1.heap.size := by have := Since.size_ hc1; omega
            have hne : wq.heap.size ≠ wc1.heap.size := by have := Whole.lt b0c1; omega
            refine hK.out _ _ ((Since.alloc hc1 _)) (fun hHeld => ?_)
            clear hK K
            try simp only [Act.put, List.getElem_toArray, List.getElem_cons_succ, List.getElem_cons_zero, List.setIfInBounds_toArray, List.set_cons_zero, List.set_cons_succ]
            refine wpAnyH_ready (rs := [8]) (by kernel_rfl) (by simp) ?_
            refine AllReadyH.cons rfl (fun K hK => ?_) AllReadyH.nil
            obtain ⟨wx, hwx⟩ : ∃ wx, wx = (wc1.alloc (.cells #[.int .i64 0, .int .i64 0, .int .i64 0, .int .i64 0] 128)) := ⟨_, rfl⟩
            have hsx : Since wr wx := by rw [hwx]; exact (Since.alloc hc1 (.cells #[.int .i64 0, .int .i64 0, .int .i64 0, .int .i64 0] 128))
            have z0 : Whole wx (wq.heap.size) 128 #[.int .i64 0, .int .i64 0, .int .i64 0, .int .i64 0] := by rw [hwx]; exact (Whole.alloc b0c1 (.cells #[.int .i64 0, .int .i64 0, .int .i64 0, .int .i64 0] 128))
            have z1 : Whole wx (wc1.heap.size) 128 #[.int .i64 0, .int .i64 0, .int .i64 0, .int .i64 0] := by rw [hwx]; exact (Whole.new wc1 128 #[.int .i64 0, .int .i64 0, .int .i64 0, .int .i64 0])
            rw [← hwx]
            clear hwx
            have hx : Whole _ (wq.heap.size) 128 #[.int .i64 0, .int .i64 0, .int .i64 0, .int .i64 0] := z0
            have x0 := hx.cell 0
            have y0 := hx.frozen 0
            have x1 := hx.cell 1
            have y1 := hx.frozen 1
            have x2 := hx.cell 2
            have y2 := hx.frozen 2
            have x3 := hx.cell 3
            have y3 := hx.frozen 3
            go_simp
            clear hx x0 y0 x1 y1 x2 y2 x3 y3
            refine hK.out _ _ ((Since.set4 hsx hg0 _ _ _ _)) (fun hHeld => ?_)
            clear hK K
            try simp only [Act.put, List.getElem_toArray, List.getElem_cons_succ, List.getElem_cons_zero, List.setIfInBounds_toArray, List.set_cons_zero, List.set_cons_succ]
            refine wpAnyH_ready (rs := [9]) (by kernel_rfl) (by simp) ?_
            refine AllReadyH.cons rfl (fun K hK => ?_) AllReadyH.nil
            have hx : Whole _ (wc1.heap.size) 128 #[.int .i64 0, .int .i64 0, .int .i64 0, .int .i64 0] := (Whole.far (Whole.far (Whole.far (Whole.far z1 (p := ⟨wq.heap.size, 0, none⟩) (show wc1.heap.size ≠ wq.heap.size by omega) (.int .i64 p0)) (p := ⟨wq.heap.size, 1, none⟩) (show wc1.heap.size ≠ wq.heap.size by omega) (.int .i64 p1)) (p := ⟨wq.heap.size, 2, none⟩) (show wc1.heap.size ≠ wq.heap.size by omega) (.int .i64 q0)) (p := ⟨wq.heap.size, 3, none⟩) (show wc1.heap.size ≠ wq.heap.size by omega) (.int .i64 q1))
            have x0 := hx.cell 0
            have y0 := hx.frozen 0
            have x1 := hx.cell 1
            have y1 := hx.frozen 1
            have x2 := hx.cell 2
            have y2 := hx.frozen 2
            have x3 := hx.cell 3
            have y3 := hx.frozen 3
            go_simp
            clear hx x0 y0 x1 y1 x2 y2 x3 y3
            refine hK.out _ _ ((Since.set4 (Since.set4 hsx hg0 (.int .i64 p0) (.int .i64 p1) (.int .i64 q0) (.int .i64 q1)) hg1 _ _ _ _)) (fun hHeld => ?_)
            clear hK K
            try simp only [Act.put, List.getElem_toArray, List.getElem_cons_succ, List.getElem_cons_zero, List.setIfInBounds_toArray, List.set_cons_zero, List.set_cons_succ]
            refine wpAnyH_done (by kernel_rfl) ?_ _
            go_wp2_with fail
            go_meet
            case rel => exact ⟨wq.heap.size, wc1.heap.size, rfl, rfl, (Whole.far (Whole.far (Whole.far (Whole.far (Whole.set4 z0 (.int .i64 p0) (.int .i64 p1) (.int .i64 q0) (.int .i64 q1)) (p := ⟨wc1.heap.size, 0, none⟩) (show wq.heap.size ≠ wc1.heap.size by omega) (.int .i64 r0)) (p := ⟨wc1.heap.size, 1, none⟩) (show wq.heap.size ≠ wc1.heap.size by omega) (.int .i64 r1)) (p := ⟨wc1.heap.size, 2, none⟩) (show wq.heap.size ≠ wc1.heap.size by omega) (.int .i64 u0)) (p := ⟨wc1.heap.size, 3, none⟩) (show wq.heap.size ≠ wc1.heap.size by omega) (.int .i64 u1)), (Whole.set4 (Whole.far (Whole.far (Whole.far (Whole.far z1 (p := ⟨wq.heap.size, 0, none⟩) (show wc1.heap.size ≠ wq.heap.size by omega) (.int .i64 p0)) (p := ⟨wq.heap.size, 1, none⟩) (show wc1.heap.size ≠ wq.heap.size by omega) (.int .i64 p1)) (p := ⟨wq.heap.size, 2, none⟩) (show wc1.heap.size ≠ wq.heap.size by omega) (.int .i64 q0)) (p := ⟨wq.heap.size, 3, none⟩) (show wc1.heap.size ≠ wq.heap.size by omega) (.int .i64 q1)) (.int .i64 r0) (.int .i64 r1) (.int .i64 u0) (.int .i64 u1)), (Since.set4 (Since.set4 hsx hg0 (.int .i64 p0) (.int .i64 p1) (.int .i64 q0) (.int .i64 q1)) hg1 (.int .i64 r0) (.int .i64 r1) (.int .i64 u0) (.int .i64 u1))⟩
          · go_simp
            have hg1 : wr.heap.size ≤ wc0.heap.size := by have := Since.size_ hc0; omega
            have hne : wq.heap.size ≠ wc0.heap.size := by have := Whole.lt b0c0; omega
            refine hK.out _ _ ((Since.alloc hc0 _)) (fun hHeld => ?_)
            clear hK K
            try simp only [Act.put, List.getElem_toArray, List.getElem_cons_succ, List.getElem_cons_zero, List.setIfInBounds_toArray, List.set_cons_zero, List.set_cons_succ]
            refine wpAnyH_ready (rs := [5]) (by kernel_rfl) (by simp) ?_
            refine AllReadyH.cons rfl (fun K hK => ?_) AllReadyH.nil
            go_simp
            refine (HC1.out _).mono ?_
            rintro e wc1 ⟨rfl, hd1⟩
            have hc1 : Since wr wc1 := Since.trans (Since.alloc hc0 (.cells #[.int .i64 0, .int .i64 0, .int .i64 0, .int .i64 0] 128)) hd1
            have b0c1 : Whole wc1 (wq.heap.size) 128 #[.int .i64 0, .int .i64 0, .int .i64 0, .int .i64 0] := Since.whole hd1 (Whole.alloc b0c0 (.cells #[.int .i64 0, .int .i64 0, .int .i64 0, .int .i64 0] 128))
            have b1c1 : Whole wc1 (wc0.heap.size) 128 #[.int .i64 0, .int .i64 0, .int .i64 0, .int .i64 0] := Since.whole hd1 (Whole.new wc0 128 #[.int .i64 0, .int .i64 0, .int .i64 0, .int .i64 0])
            go_wp2_with fail
            refine hK.out _ _ (hc1) (fun hHeld => ?_)
            clear hK K
            try simp only [Act.put, List.getElem_toArray, List.getElem_cons_succ, List.getElem_cons_zero, List.setIfInBounds_toArray, List.set_cons_zero, List.set_cons_succ]
            refine wpAnyH_ready (rs := [8]) (by kernel_rfl) (by simp) ?_
            refine AllReadyH.cons rfl (fun K hK => ?_) AllReadyH.nil
            obtain ⟨wx, hwx⟩ : ∃ wx, wx = wc1 := ⟨_, rfl⟩
            have hsx : Since wr wx := by rw [hwx]; exact hc1
            have z0 : Whole wx (wq.heap.size) 128 #[.int .i64 0, .int .i64 0, .int .i64 0, .int .i64 0] := by rw [hwx]; exact b0c1
            have z1 : Whole wx (wc0.heap.size) 128 #[.int .i64 0, .int .i64 0, .int .i64 0, .int .i64 0] := by rw [hwx]; exact b1c1
            rw [← hwx]
            clear hwx
            have hx : Whole _ (wq.heap.size) 128 #[.int .i64 0, .int .i64 0, .int .i64 0, .int .i64 0] := z0
            have x0 := hx.cell 0
            have y0 := hx.frozen 0
            have x1 := hx.cell 1
            have y1 := hx.frozen 1
            have x2 := hx.cell 2
            have y2 := hx.frozen 2
            have x3 := hx.cell 3
            have y3 := hx.frozen 3
            go_simp
            clear hx x0 y0 x1 y1 x2 y2 x3 y3
            refine hK.out _ _ ((Since.set4 hsx hg0 _ _ _ _)) (fun hHeld => ?_)
            clear hK K
            try simp only [Act.put, List.getElem_toArray, List.getElem_cons_succ, List.getElem_cons_zero, List.setIfInBounds_toArray, List.set_cons_zero, List.set_cons_succ]
            refine wpAnyH_ready (rs := [9]) (by kernel_rfl) (by simp) ?_
            refine AllReadyH.cons rfl (fun K hK => ?_) AllReadyH.nil
            have hx : Whole _ (wc0.heap.size) 128 #[.int .i64 0, .int .i64 0, .int .i64 0, .int .i64 0] := (Whole.far (Whole.far (Whole.far (Whole.far z1 (p := ⟨wq.heap.size, 0, none⟩) (show wc0.heap.size ≠ wq.heap.size by omega) (.int .i64 p0)) (p := ⟨wq.heap.size, 1, none⟩) (show wc0.heap.size ≠ wq.heap.size by omega) (.int .i64 p1)) (p := ⟨wq.heap.size, 2, none⟩) (show wc0.heap.size ≠ wq.heap.size by omega) (.int .i64 q0)) (p := ⟨wq.heap.size, 3, none⟩) (show wc0.heap.size ≠ wq.heap.size by omega) (.int .i64 q1))
            have x0 := hx.cell 0
            have y0 := hx.frozen 0
            have x1 := hx.cell 1
            have y1 := hx.frozen 1
            have x2 := hx.cell 2
            have y2 := hx.frozen 2
            have x3 := hx.cell 3
            have y3 := hx.frozen 3
            go_simp
            clear hx x0 y0 x1 y1 x2 y2 x3 y3
            refine hK.out _ _ ((Since.set4 (Since.set4 hsx hg0 (.int .i64 p0) (.int .i64 p1) (.int .i64 q0) (.int .i64 q1)) hg1 _ _ _ _)) (fun hHeld => ?_)
            clear hK K
            try simp only [Act.put, List.getElem_toArray, List.getElem_cons_succ, List.getElem_cons_zero, List.setIfInBounds_toArray, List.set_cons_zero, List.set_cons_succ]
            refine wpAnyH_done (by kernel_rfl) ?_ _
            go_wp2_with fail
            go_meet
            case rel => exact ⟨wq.heap.size, wc0.heap.size, rfl, rfl, (Whole.far (Whole.far (Whole.far (Whole.far (Whole.set4 z0 (.int .i64 p0) (.int .i64 p1) (.int .i64 q0) (.int .i64 q1)) (p := ⟨wc0.heap.size, 0, none⟩) (show wq.heap.size ≠ wc0.heap.size by omega) (.int .i64 r0)) (p := ⟨wc0.heap.size, 1, none⟩) (show wq.heap.size ≠ wc0.heap.size by omega) (.int .i64 r1)) (p := ⟨wc0.heap.size, 2, none⟩) (show wq.heap.size ≠ wc0.heap.size by omega) (.int .i64 u0)) (p := ⟨wc0.heap.size, 3, none⟩) (show wq.heap.size ≠ wc0.heap.size by omega) (.int .i64 u1)), (Whole.set4 (Whole.far (Whole.far (Whole.far (Whole.far z1 (p := ⟨wq.heap.size, 0, none⟩) (show wc0.heap.size ≠ wq.heap.size by omega) (.int .i64 p0)) (p := ⟨wq.heap.size, 1, none⟩) (show wc0.heap.size ≠ wq.heap.size by omega) (.int .i64 p1)) (p := ⟨wq.heap.size, 2, none⟩) (show wc0.heap.size ≠ wq.heap.size by omega) (.int .i64 q0)) (p := ⟨wq.heap.size, 3, none⟩) (show wc0.heap.size ≠ wq.heap.size by omega) (.int .i64 q1)) (.int .i64 r0) (.int .i64 r1) (.int .i64 u0) (.int .i64 u1)), (Since.set4 (Since.set4 hsx hg0 (.int .i64 p0) (.int .i64 p1) (.int .i64 q0) (.int .i64 q1)) hg1 (.int .i64 r0) (.int .i64 r1) (.int .i64 u0) (.int .i64 u1))⟩
        · go_simp
          have hg1 : wr.heap.size ≤ wq.heap.size + 1 := by have := Since.size_ hq; omega
          have hne : wq.heap.size ≠ wq.heap.size + 1 := by omega
          refine hK.out _ _ ((Since.alloc (Since.alloc hq (.cells #[.int .i64 0, .int .i64 0, .int .i64 0, .int .i64 0] 128)) _)) (fun hHeld => ?_)
          clear hK K
          try simp only [Act.put, List.getElem_toArray, List.getElem_cons_succ, List.getElem_cons_zero, List.setIfInBounds_toArray, List.set_cons_zero, List.set_cons_succ]
          refine wpAnyH_ready (rs := [2]) (by kernel_rfl) (by simp) ?_
          refine AllReadyH.cons rfl (fun K hK => ?_) AllReadyH.nil
          go_simp
          refine (HC0.out _).mono ?_
          rintro e wc0 ⟨rfl, hd0⟩
          have hc0 : Since wr wc0 := Since.trans (Since.alloc (Since.alloc hq (.cells #[.int .i64 0, .int .i64 0, .int .i64 0, .int .i64 0] 128)) (.cells #[.int .i64 0, .int .i64 0, .int .i64 0, .int .i64 0] 128)) hd0
          have b0c0 : Whole wc0 (wq.heap.size) 128 #[.int .i64 0, .int .i64 0, .int .i64 0, .int .i64 0] := Since.whole hd0 (Whole.alloc (Whole.new wq 128 #[.int .i64 0, .int .i64 0, .int .i64 0, .int .i64 0]) (.cells #[.int .i64 0, .int .i64 0, .int .i64 0, .int .i64 0] 128))
          have b1c0 : Whole wc0 (wq.heap.size + 1) 128 #[.int .i64 0, .int .i64 0, .int .i64 0, .int .i64 0] := Since.whole hd0 ((Whole.new (wq.alloc (.cells #[.int .i64 0, .int .i64 0, .int .i64 0, .int .i64 0] 128)) 128 #[.int .i64 0, .int .i64 0, .int .i64 0, .int .i64 0]).at_ (by simp))
          go_wp2_with fail
          refine hK.out _ _ (hc0) (fun hHeld => ?_)
          clear hK K
          try simp only [Act.put, List.getElem_toArray, List.getElem_cons_succ, List.getElem_cons_zero, List.setIfInBounds_toArray, List.set_cons_zero, List.set_cons_succ]
          refine wpAnyH_ready (rs := [5]) (by kernel_rfl) (by simp) ?_
          refine AllReadyH.cons rfl (fun K hK => ?_) AllReadyH.nil
          go_simp
          refine (HC1.out _).mono ?_
          rintro e wc1 ⟨rfl, hd1⟩
          have hc1 : Since wr wc1 := Since.trans hc0 hd1
          have b0c1 : Whole wc1 (wq.heap.size) 128 #[.int .i64 0, .int .i64 0, .int .i64 0, .int .i64 0] := Since.whole hd1 b0c0
          have b1c1 : Whole wc1 (wq.heap.size + 1) 128 #[.int .i64 0, .int .i64 0, .int .i64 0, .int .i64 0] := Since.whole hd1 b1c0
          go_wp2_with fail
          refine hK.out _ _ (hc1) (fun hHeld => ?_)
          clear hK K
          try simp only [Act.put, List.getElem_toArray, List.getElem_cons_succ, List.getElem_cons_zero, List.setIfInBounds_toArray, List.set_cons_zero, List.set_cons_succ]
          refine wpAnyH_ready (rs := [8]) (by kernel_rfl) (by simp) ?_
          refine AllReadyH.cons rfl (fun K hK => ?_) AllReadyH.nil
          obtain ⟨wx, hwx⟩ : ∃ wx, wx = wc1 := ⟨_, rfl⟩
          have hsx : Since wr wx := by rw [hwx]; exact hc1
          have z0 : Whole wx (wq.heap.size) 128 #[.int .i64 0, .int .i64 0, .int .i64 0, .int .i64 0] := by rw [hwx]; exact b0c1
          have z1 : Whole wx (wq.heap.size + 1) 128 #[.int .i64 0, .int .i64 0, .int .i64 0, .int .i64 0] := by rw [hwx]; exact b1c1
          rw [← hwx]
          clear hwx
          have hx : Whole _ (wq.heap.size) 128 #[.int .i64 0, .int .i64 0, .int .i64 0, .int .i64 0] := z0
          have x0 := hx.cell 0
          have y0 := hx.frozen 0
          have x1 := hx.cell 1
          have y1 := hx.frozen 1
          have x2 := hx.cell 2
          have y2 := hx.frozen 2
          have x3 := hx.cell 3
          have y3 := hx.frozen 3
          go_simp
          clear hx x0 y0 x1 y1 x2 y2 x3 y3
          refine hK.out _ _ ((Since.set4 hsx hg0 _ _ _ _)) (fun hHeld => ?_)
          clear hK K
          try simp only [Act.put, List.getElem_toArray, List.getElem_cons_succ, List.getElem_cons_zero, List.setIfInBounds_toArray, List.set_cons_zero, List.set_cons_succ]
          refine wpAnyH_ready (rs := [9]) (by kernel_rfl) (by simp) ?_
          refine AllReadyH.cons rfl (fun K hK => ?_) AllReadyH.nil
          have hx : Whole _ (wq.heap.size + 1) 128 #[.int .i64 0, .int .i64 0, .int .i64 0, .int .i64 0] := (Whole.far (Whole.far (Whole.far (Whole.far z1 (p := ⟨wq.heap.size, 0, none⟩) (show wq.heap.size + 1 ≠ wq.heap.size by omega) (.int .i64 p0)) (p := ⟨wq.heap.size, 1, none⟩) (show wq.heap.size + 1 ≠ wq.heap.size by omega) (.int .i64 p1)) (p := ⟨wq.heap.size, 2, none⟩) (show wq.heap.size + 1 ≠ wq.heap.size by omega) (.int .i64 q0)) (p := ⟨wq.heap.size, 3, none⟩) (show wq.heap.size + 1 ≠ wq.heap.size by omega) (.int .i64 q1))
          have x0 := hx.cell 0
          have y0 := hx.frozen 0
          have x1 := hx.cell 1
          have y1 := hx.frozen 1
          have x2 := hx.cell 2
          have y2 := hx.frozen 2
          have x3 := hx.cell 3
          have y3 := hx.frozen 3
          go_simp
          clear hx x0 y0 x1 y1 x2 y2 x3 y3
          refine hK.out _ _ ((Since.set4 (Since.set4 hsx hg0 (.int .i64 p0) (.int .i64 p1) (.int .i64 q0) (.int .i64 q1)) hg1 _ _ _ _)) (fun hHeld => ?_)
          clear hK K
          try simp only [Act.put, List.getElem_toArray, List.getElem_cons_succ, List.getElem_cons_zero, List.setIfInBounds_toArray, List.set_cons_zero, List.set_cons_succ]
          refine wpAnyH_done (by kernel_rfl) ?_ _
          go_wp2_with fail
          go_meet
          case rel => exact ⟨wq.heap.size, wq.heap.size + 1, rfl, rfl, (Whole.far (Whole.far (Whole.far (Whole.far (Whole.set4 z0 (.int .i64 p0) (.int .i64 p1) (.int .i64 q0) (.int .i64 q1)) (p := ⟨wq.heap.size + 1, 0, none⟩) (show wq.heap.size ≠ wq.heap.size + 1 by omega) (.int .i64 r0)) (p := ⟨wq.heap.size + 1, 1, none⟩) (show wq.heap.size ≠ wq.heap.size + 1 by omega) (.int .i64 r1)) (p := ⟨wq.heap.size + 1, 2, none⟩) (show wq.heap.size ≠ wq.heap.size + 1 by omega) (.int .i64 u0)) (p := ⟨wq.heap.size + 1, 3, none⟩) (show wq.heap.size ≠ wq.heap.size + 1 by omega) (.int .i64 u1)), (Whole.set4 (Whole.far (Whole.far (Whole.far (Whole.far z1 (p := ⟨wq.heap.size, 0, none⟩) (show wq.heap.size + 1 ≠ wq.heap.size by omega) (.int .i64 p0)) (p := ⟨wq.heap.size, 1, none⟩) (show wq.heap.size + 1 ≠ wq.heap.size by omega) (.int .i64 p1)) (p := ⟨wq.heap.size, 2, none⟩) (show wq.heap.size + 1 ≠ wq.heap.size by omega) (.int .i64 q0)) (p := ⟨wq.heap.size, 3, none⟩) (show wq.heap.size + 1 ≠ wq.heap.size by omega) (.int .i64 q1)) (.int .i64 r0) (.int .i64 r1) (.int .i64 u0) (.int .i64 u1)), (Since.set4 (Since.set4 hsx hg0 (.int .i64 p0) (.int .i64 p1) (.int .i64 q0) (.int .i64 q1)) hg1 (.int .i64 r0) (.int .i64 r1) (.int .i64 u0) (.int .i64 u1))⟩
      · go_simp
        have hg1 : wr.heap.size ≤ wq.heap.size := by have := Since.size_ hq; omega
        refine hK.out _ _ ((Since.alloc hq _)) (fun hHeld => ?_)
        clear hK K
        try simp only [Act.put, List.getElem_toArray, List.getElem_cons_succ, List.getElem_cons_zero, List.setIfInBounds_toArray, List.set_cons_zero, List.set_cons_succ]
        refine wpAnyH_ready (rs := [2, 6]) (by kernel_rfl) (by simp) ?_
        refine AllReadyH.cons rfl (fun K hK => ?_) (AllReadyH.cons rfl (fun K hK => ?_) AllReadyH.nil)
        · go_simp
          refine (HC0.out _).mono ?_
          rintro e wc0 ⟨rfl, hd0⟩
          have hc0 : Since wr wc0 := Since.trans (Since.alloc hq (.cells #[.int .i64 0, .int .i64 0, .int .i64 0, .int .i64 0] 128)) hd0
          have b1c0 : Whole wc0 (wq.heap.size) 128 #[.int .i64 0, .int .i64 0, .int .i64 0, .int .i64 0] := Since.whole hd0 (Whole.new wq 128 #[.int .i64 0, .int .i64 0, .int .i64 0, .int .i64 0])
          go_wp2_with fail
          refine hK.out _ _ (hc0) (fun hHeld => ?_)
          clear hK K
          try simp only [Act.put, List.getElem_toArray, List.getElem_cons_succ, List.getElem_cons_zero, List.setIfInBounds_toArray, List.set_cons_zero, List.set_cons_succ]
          refine wpAnyH_ready (rs := [5, 6]) (by kernel_rfl) (by simp) ?_
          refine AllReadyH.cons rfl (fun K hK => ?_) (AllReadyH.cons rfl (fun K hK => ?_) AllReadyH.nil)
          · go_simp
            refine (HC1.out _).mono ?_
            rintro e wc1 ⟨rfl, hd1⟩
            have hc1 : Since wr wc1 := Since.trans hc0 hd1
            have b1c1 : Whole wc1 (wq.heap.size) 128 #[.int .i64 0, .int .i64 0, .int .i64 0, .int .i64 0] := Since.whole hd1 b1c0
            go_wp2_with fail
            refine hK.out _ _ (hc1) (fun hHeld => ?_)
            clear hK K
            try simp only [Act.put, List.getElem_toArray, List.getElem_cons_succ, List.getElem_cons_zero, List.setIfInBounds_toArray, List.set_cons_zero, List.set_cons_succ]
            refine wpAnyH_ready (rs := [6]) (by kernel_rfl) (by simp) ?_
            refine AllReadyH.cons rfl (fun K hK => ?_) AllReadyH.nil
            go_simp
            have hg0 : wr.heap.size ≤ wc1.heap.size := by have := Since.size_ hc1; omega
            have hne : wq.heap.size ≠ wc1.heap.size := by have := Whole.lt b1c1; omega
            refine hK.out _ _ ((Since.alloc hc1 _)) (fun hHeld => ?_)
            clear hK K
            try simp only [Act.put, List.getElem_toArray, List.getElem_cons_succ, List.getElem_cons_zero, List.setIfInBounds_toArray, List.set_cons_zero, List.set_cons_succ]
            refine wpAnyH_ready (rs := [8]) (by kernel_rfl) (by simp) ?_
            refine AllReadyH.cons rfl (fun K hK => ?_) AllReadyH.nil
            obtain ⟨wx, hwx⟩ : ∃ wx, wx = (wc1.alloc (.cells #[.int .i64 0, .int .i64 0, .int .i64 0, .int .i64 0] 128)) := ⟨_, rfl⟩
            have hsx : Since wr wx := by rw [hwx]; exact (Since.alloc hc1 (.cells #[.int .i64 0, .int .i64 0, .int .i64 0, .int .i64 0] 128))
            have z0 : Whole wx (wc1.heap.size) 128 #[.int .i64 0, .int .i64 0, .int .i64 0, .int .i64 0] := by rw [hwx]; exact (Whole.new wc1 128 #[.int .i64 0, .int .i64 0, .int .i64 0, .int .i64 0])
            have z1 : Whole wx (wq.heap.size) 128 #[.int .i64 0, .int .i64 0, .int .i64 0, .int .i64 0] := by rw [hwx]; exact (Whole.alloc b1c1 (.cells #[.int .i64 0, .int .i64 0, .int .i64 0, .int .i64 0] 128))
            rw [← hwx]
            clear hwx
            have hx : Whole _ (wc1.heap.size) 128 #[.int .i64 0, .int .i64 0, .int .i64 0, .int .i64 0] := z0
            have x0 := hx.cell 0
            have y0 := hx.frozen 0
            have x1 := hx.cell 1
            have y1 := hx.frozen 1
            have x2 := hx.cell 2
            have y2 := hx.frozen 2
            have x3 := hx.cell 3
            have y3 := hx.frozen 3
            go_simp
            clear hx x0 y0 x1 y1 x2 y2 x3 y3
            refine hK.out _ _ ((Since.set4 hsx hg0 _ _ _ _)) (fun hHeld => ?_)
            clear hK K
            try simp only [Act.put, List.getElem_toArray, List.getElem_cons_succ, List.getElem_cons_zero, List.setIfInBounds_toArray, List.set_cons_zero, List.set_cons_succ]
            refine wpAnyH_ready (rs := [9]) (by kernel_rfl) (by simp) ?_
            refine AllReadyH.cons rfl (fun K hK => ?_) AllReadyH.nil
            have hx : Whole _ (wq.heap.size) 128 #[.int .i64 0, .int .i64 0, .int .i64 0, .int .i64 0] := (Whole.far (Whole.far (Whole.far (Whole.far z1 (p := ⟨wc1.heap.size, 0, none⟩) (show wq.heap.size ≠ wc1.heap.size by omega) (.int .i64 p0)) (p := ⟨wc1.heap.size, 1, none⟩) (show wq.heap.size ≠ wc1.heap.size by omega) (.int .i64 p1)) (p := ⟨wc1.heap.size, 2, none⟩) (show wq.heap.size ≠ wc1.heap.size by omega) (.int .i64 q0)) (p := ⟨wc1.heap.size, 3, none⟩) (show wq.heap.size ≠ wc1.heap.size by omega) (.int .i64 q1))
            have x0 := hx.cell 0
            have y0 := hx.frozen 0
            have x1 := hx.cell 1
            have y1 := hx.frozen 1
            have x2 := hx.cell 2
            have y2 := hx.frozen 2
            have x3 := hx.cell 3
            have y3 := hx.frozen 3
            go_simp
            clear hx x0 y0 x1 y1 x2 y2 x3 y3
            refine hK.out _ _ ((Since.set4 (Since.set4 hsx hg0 (.int .i64 p0) (.int .i64 p1) (.int .i64 q0) (.int .i64 q1)) hg1 _ _ _ _)) (fun hHeld => ?_)
            clear hK K
            try simp only [Act.put, List.getElem_toArray, List.getElem_cons_succ, List.getElem_cons_zero, List.setIfInBounds_toArray, List.set_cons_zero, List.set_cons_succ]
            refine wpAnyH_done (by kernel_rfl) ?_ _
            go_wp2_with fail
            go_meet
            case rel => exact ⟨wc1.heap.size, wq.heap.size, rfl, rfl, (Whole.far (Whole.far (Whole.far (Whole.far (Whole.set4 z0 (.int .i64 p0) (.int .i64 p1) (.int .i64 q0) (.int .i64 q1)) (p := ⟨wq.heap.size, 0, none⟩) (show wc1.heap.size ≠ wq.heap.size by omega) (.int .i64 r0)) (p := ⟨wq.heap.size, 1, none⟩) (show wc1.heap.size ≠ wq.heap.size by omega) (.int .i64 r1)) (p := ⟨wq.heap.size, 2, none⟩) (show wc1.heap.size ≠ wq.heap.size by omega) (.int .i64 u0)) (p := ⟨wq.heap.size, 3, none⟩) (show wc1.heap.size ≠ wq.heap.size by omega) (.int .i64 u1)), (Whole.set4 (Whole.far (Whole.far (Whole.far (Whole.far z1 (p := ⟨wc1.heap.size, 0, none⟩) (show wq.heap.size ≠ wc1.heap.size by omega) (.int .i64 p0)) (p := ⟨wc1.heap.size, 1, none⟩) (show wq.heap.size ≠ wc1.heap.size by omega) (.int .i64 p1)) (p := ⟨wc1.heap.size, 2, none⟩) (show wq.heap.size ≠ wc1.heap.size by omega) (.int .i64 q0)) (p := ⟨wc1.heap.size, 3, none⟩) (show wq.heap.size ≠ wc1.heap.size by omega) (.int .i64 q1)) (.int .i64 r0) (.int .i64 r1) (.int .i64 u0) (.int .i64 u1)), (Since.set4 (Since.set4 hsx hg0 (.int .i64 p0) (.int .i64 p1) (.int .i64 q0) (.int .i64 q1)) hg1 (.int .i64 r0) (.int .i64 r1) (.int .i64 u0) (.int .i64 u1))⟩
          · go_simp
            have hg0 : wr.heap.size ≤ wc0.heap.size := by have := Since.size_ hc0; omega
            have hne : wq.heap.size ≠ wc0.heap.size := by have := Whole.lt b1c0; omega
            refine hK.out _ _ ((Since.alloc hc0 _)) (fun hHeld => ?_)
            clear hK K
            try simp only [Act.put, List.getElem_toArray, List.getElem_cons_succ, List.getElem_cons_zero, List.setIfInBounds_toArray, List.set_cons_zero, List.set_cons_succ]
            refine wpAnyH_ready (rs := [5]) (by kernel_rfl) (by simp) ?_
            refine AllReadyH.cons rfl (fun K hK => ?_) AllReadyH.nil
            go_simp
            refine (HC1.out _).mono ?_
            rintro e wc1 ⟨rfl, hd1⟩
            have hc1 : Since wr wc1 := Since.trans (Since.alloc hc0 (.cells #[.int .i64 0, .int .i64 0, .int .i64 0, .int .i64 0] 128)) hd1
            have b0c1 : Whole wc1 (wc0.heap.size) 128 #[.int .i64 0, .int .i64 0, .int .i64 0, .int .i64 0] := Since.whole hd1 (Whole.new wc0 128 #[.int .i64 0, .int .i64 0, .int .i64 0, .int .i64 0])
            have b1c1 : Whole wc1 (wq.heap.size) 128 #[.int .i64 0, .int .i64 0, .int .i64 0, .int .i64 0] := Since.whole hd1 (Whole.alloc b1c0 (.cells #[.int .i64 0, .int .i64 0, .int .i64 0, .int .i64 0] 128))
            go_wp2_with fail
            refine hK.out _ _ (hc1) (fun hHeld => ?_)
            clear hK K
            try simp only [Act.put, List.getElem_toArray, List.getElem_cons_succ, List.getElem_cons_zero, List.setIfInBounds_toArray, List.set_cons_zero, List.set_cons_succ]
            refine wpAnyH_ready (rs := [8]) (by kernel_rfl) (by simp) ?_
            refine AllReadyH.cons rfl (fun K hK => ?_) AllReadyH.nil
            obtain ⟨wx, hwx⟩ : ∃ wx, wx = wc1 := ⟨_, rfl⟩
            have hsx : Since wr wx := by rw [hwx]; exact hc1
            have z0 : Whole wx (wc0.heap.size) 128 #[.int .i64 0, .int .i64 0, .int .i64 0, .int .i64 0] := by rw [hwx]; exact b0c1
            have z1 : Whole wx (wq.heap.size) 128 #[.int .i64 0, .int .i64 0, .int .i64 0, .int .i64 0] := by rw [hwx]; exact b1c1
            rw [← hwx]
            clear hwx
            have hx : Whole _ (wc0.heap.size) 128 #[.int .i64 0, .int .i64 0, .int .i64 0, .int .i64 0] := z0
            have x0 := hx.cell 0
            have y0 := hx.frozen 0
            have x1 := hx.cell 1
            have y1 := hx.frozen 1
            have x2 := hx.cell 2
            have y2 := hx.frozen 2
            have x3 := hx.cell 3
            have y3 := hx.frozen 3
            go_simp
            clear hx x0 y0 x1 y1 x2 y2 x3 y3
            refine hK.out _ _ ((Since.set4 hsx hg0 _ _ _ _)) (fun hHeld => ?_)
            clear hK K
            try simp only [Act.put, List.getElem_toArray, List.getElem_cons_succ, List.getElem_cons_zero, List.setIfInBounds_toArray, List.set_cons_zero, List.set_cons_succ]
            refine wpAnyH_ready (rs := [9]) (by kernel_rfl) (by simp) ?_
            refine AllReadyH.cons rfl (fun K hK => ?_) AllReadyH.nil
            have hx : Whole _ (wq.heap.size) 128 #[.int .i64 0, .int .i64 0, .int .i64 0, .int .i64 0] := (Whole.far (Whole.far (Whole.far (Whole.far z1 (p := ⟨wc0.heap.size, 0, none⟩) (show wq.heap.size ≠ wc0.heap.size by omega) (.int .i64 p0)) (p := ⟨wc0.heap.size, 1, none⟩) (show wq.heap.size ≠ wc0.heap.size by omega) (.int .i64 p1)) (p := ⟨wc0.heap.size, 2, none⟩) (show wq.heap.size ≠ wc0.heap.size by omega) (.int .i64 q0)) (p := ⟨wc0.heap.size, 3, none⟩) (show wq.heap.size ≠ wc0.heap.size by omega) (.int .i64 q1))
            have x0 := hx.cell 0
            have y0 := hx.frozen 0
            have x1 := hx.cell 1
            have y1 := hx.frozen 1
            have x2 := hx.cell 2
            have y2 := hx.frozen 2
            have x3 := hx.cell 3
            have y3 := hx.frozen 3
            go_simp
            clear hx x0 y0 x1 y1 x2 y2 x3 y3
            refine hK.out _ _ ((Since.set4 (Since.set4 hsx hg0 (.int .i64 p0) (.int .i64 p1) (.int .i64 q0) (.int .i64 q1)) hg1 _ _ _ _)) (fun hHeld => ?_)
            clear hK K
            try simp only [Act.put, List.getElem_toArray, List.getElem_cons_succ, List.getElem_cons_zero, List.setIfInBounds_toArray, List.set_cons_zero, List.set_cons_succ]
            refine wpAnyH_done (by kernel_rfl) ?_ _
            go_wp2_with fail
            go_meet
            case rel => exact ⟨wc0.heap.size, wq.heap.size, rfl, rfl, (Whole.far (Whole.far (Whole.far (Whole.far (Whole.set4 z0 (.int .i64 p0) (.int .i64 p1) (.int .i64 q0) (.int .i64 q1)) (p := ⟨wq.heap.size, 0, none⟩) (show wc0.heap.size ≠ wq.heap.size by omega) (.int .i64 r0)) (p := ⟨wq.heap.size, 1, none⟩) (show wc0.heap.size ≠ wq.heap.size by omega) (.int .i64 r1)) (p := ⟨wq.heap.size, 2, none⟩) (show wc0.heap.size ≠ wq.heap.size by omega) (.int .i64 u0)) (p := ⟨wq.heap.size, 3, none⟩) (show wc0.heap.size ≠ wq.heap.size by omega) (.int .i64 u1)), (Whole.set4 (Whole.far (Whole.far (Whole.far (Whole.far z1 (p := ⟨wc0.heap.size, 0, none⟩) (show wq.heap.size ≠ wc0.heap.size by omega) (.int .i64 p0)) (p := ⟨wc0.heap.size, 1, none⟩) (show wq.heap.size ≠ wc0.heap.size by omega) (.int .i64 p1)) (p := ⟨wc0.heap.size, 2, none⟩) (show wq.heap.size ≠ wc0.heap.size by omega) (.int .i64 q0)) (p := ⟨wc0.heap.size, 3, none⟩) (show wq.heap.size ≠ wc0.heap.size by omega) (.int .i64 q1)) (.int .i64 r0) (.int .i64 r1) (.int .i64 u0) (.int .i64 u1)), (Since.set4 (Since.set4 hsx hg0 (.int .i64 p0) (.int .i64 p1) (.int .i64 q0) (.int .i64 q1)) hg1 (.int .i64 r0) (.int .i64 r1) (.int .i64 u0) (.int .i64 u1))⟩
        · go_simp
          have hg0 : wr.heap.size ≤ wq.heap.size + 1 := by have := Since.size_ hq; omega
          have hne : wq.heap.size ≠ wq.heap.size + 1 := by omega
          refine hK.out _ _ ((Since.alloc (Since.alloc hq (.cells #[.int .i64 0, .int .i64 0, .int .i64 0, .int .i64 0] 128)) _)) (fun hHeld => ?_)
          clear hK K
          try simp only [Act.put, List.getElem_toArray, List.getElem_cons_succ, List.getElem_cons_zero, List.setIfInBounds_toArray, List.set_cons_zero, List.set_cons_succ]
          refine wpAnyH_ready (rs := [2]) (by kernel_rfl) (by simp) ?_
          refine AllReadyH.cons rfl (fun K hK => ?_) AllReadyH.nil
          go_simp
          refine (HC0.out _).mono ?_
          rintro e wc0 ⟨rfl, hd0⟩
          have hc0 : Since wr wc0 := Since.trans (Since.alloc (Since.alloc hq (.cells #[.int .i64 0, .int .i64 0, .int .i64 0, .int .i64 0] 128)) (.cells #[.int .i64 0, .int .i64 0, .int .i64 0, .int .i64 0] 128)) hd0
          have b0c0 : Whole wc0 (wq.heap.size + 1) 128 #[.int .i64 0, .int .i64 0, .int .i64 0, .int .i64 0] := Since.whole hd0 ((Whole.new (wq.alloc (.cells #[.int .i64 0, .int .i64 0, .int .i64 0, .int .i64 0] 128)) 128 #[.int .i64 0, .int .i64 0, .int .i64 0, .int .i64 0]).at_ (by simp))
          have b1c0 : Whole wc0 (wq.heap.size) 128 #[.int .i64 0, .int .i64 0, .int .i64 0, .int .i64 0] := Since.whole hd0 (Whole.alloc (Whole.new wq 128 #[.int .i64 0, .int .i64 0, .int .i64 0, .int .i64 0]) (.cells #[.int .i64 0, .int .i64 0, .int .i64 0, .int .i64 0] 128))
          go_wp2_with fail
          refine hK.out _ _ (hc0) (fun hHeld => ?_)
          clear hK K
          try simp only [Act.put, List.getElem_toArray, List.getElem_cons_succ, List.getElem_cons_zero, List.setIfInBounds_toArray, List.set_cons_zero, List.set_cons_succ]
          refine wpAnyH_ready (rs := [5]) (by kernel_rfl) (by simp) ?_
          refine AllReadyH.cons rfl (fun K hK => ?_) AllReadyH.nil
          go_simp
          refine (HC1.out _).mono ?_
          rintro e wc1 ⟨rfl, hd1⟩
          have hc1 : Since wr wc1 := Since.trans hc0 hd1
          have b0c1 : Whole wc1 (wq.heap.size + 1) 128 #[.int .i64 0, .int .i64 0, .int .i64 0, .int .i64 0] := Since.whole hd1 b0c0
          have b1c1 : Whole wc1 (wq.heap.size) 128 #[.int .i64 0, .int .i64 0, .int .i64 0, .int .i64 0] := Since.whole hd1 b1c0
          go_wp2_with fail
          refine hK.out _ _ (hc1) (fun hHeld => ?_)
          clear hK K
          try simp only [Act.put, List.getElem_toArray, List.getElem_cons_succ, List.getElem_cons_zero, List.setIfInBounds_toArray, List.set_cons_zero, List.set_cons_succ]
          refine wpAnyH_ready (rs := [8]) (by kernel_rfl) (by simp) ?_
          refine AllReadyH.cons rfl (fun K hK => ?_) AllReadyH.nil
          obtain ⟨wx, hwx⟩ : ∃ wx, wx = wc1 := ⟨_, rfl⟩
          have hsx : Since wr wx := by rw [hwx]; exact hc1
          have z0 : Whole wx (wq.heap.size + 1) 128 #[.int .i64 0, .int .i64 0, .int .i64 0, .int .i64 0] := by rw [hwx]; exact b0c1
          have z1 : Whole wx (wq.heap.size) 128 #[.int .i64 0, .int .i64 0, .int .i64 0, .int .i64 0] := by rw [hwx]; exact b1c1
          rw [← hwx]
          clear hwx
          have hx : Whole _ (wq.heap.size + 1) 128 #[.int .i64 0, .int .i64 0, .int .i64 0, .int .i64 0] := z0
          have x0 := hx.cell 0
          have y0 := hx.frozen 0
          have x1 := hx.cell 1
          have y1 := hx.frozen 1
          have x2 := hx.cell 2
          have y2 := hx.frozen 2
          have x3 := hx.cell 3
          have y3 := hx.frozen 3
          go_simp
          clear hx x0 y0 x1 y1 x2 y2 x3 y3
          refine hK.out _ _ ((Since.set4 hsx hg0 _ _ _ _)) (fun hHeld => ?_)
          clear hK K
          try simp only [Act.put, List.getElem_toArray, List.getElem_cons_succ, List.getElem_cons_zero, List.setIfInBounds_toArray, List.set_cons_zero, List.set_cons_succ]
          refine wpAnyH_ready (rs := [9]) (by kernel_rfl) (by simp) ?_
          refine AllReadyH.cons rfl (fun K hK => ?_) AllReadyH.nil
          have hx : Whole _ (wq.heap.size) 128 #[.int .i64 0, .int .i64 0, .int .i64 0, .int .i64 0] := (Whole.far (Whole.far (Whole.far (Whole.far z1 (p := ⟨wq.heap.size + 1, 0, none⟩) (show wq.heap.size ≠ wq.heap.size + 1 by omega) (.int .i64 p0)) (p := ⟨wq.heap.size + 1, 1, none⟩) (show wq.heap.size ≠ wq.heap.size + 1 by omega) (.int .i64 p1)) (p := ⟨wq.heap.size + 1, 2, none⟩) (show wq.heap.size ≠ wq.heap.size + 1 by omega) (.int .i64 q0)) (p := ⟨wq.heap.size + 1, 3, none⟩) (show wq.heap.size ≠ wq.heap.size + 1 by omega) (.int .i64 q1))
          have x0 := hx.cell 0
          have y0 := hx.frozen 0
          have x1 := hx.cell 1
          have y1 := hx.frozen 1
          have x2 := hx.cell 2
          have y2 := hx.frozen 2
          have x3 := hx.cell 3
          have y3 := hx.frozen 3
          go_simp
          clear hx x0 y0 x1 y1 x2 y2 x3 y3
          refine hK.out _ _ ((Since.set4 (Since.set4 hsx hg0 (.int .i64 p0) (.int .i64 p1) (.int .i64 q0) (.int .i64 q1)) hg1 _ _ _ _)) (fun hHeld => ?_)
          clear hK K
          try simp only [Act.put, List.getElem_toArray, List.getElem_cons_succ, List.getElem_cons_zero, List.setIfInBounds_toArray, List.set_cons_zero, List.set_cons_succ]
          refine wpAnyH_done (by kernel_rfl) ?_ _
          go_wp2_with fail
          go_meet
          case rel => exact ⟨wq.heap.size + 1, wq.heap.size, rfl, rfl, (Whole.far (Whole.far (Whole.far (Whole.far (Whole.set4 z0 (.int .i64 p0) (.int .i64 p1) (.int .i64 q0) (.int .i64 q1)) (p := ⟨wq.heap.size, 0, none⟩) (show wq.heap.size + 1 ≠ wq.heap.size by omega) (.int .i64 r0)) (p := ⟨wq.heap.size, 1, none⟩) (show wq.heap.size + 1 ≠ wq.heap.size by omega) (.int .i64 r1)) (p := ⟨wq.heap.size, 2, none⟩) (show wq.heap.size + 1 ≠ wq.heap.size by omega) (.int .i64 u0)) (p := ⟨wq.heap.size, 3, none⟩) (show wq.heap.size + 1 ≠ wq.heap.size by omega) (.int .i64 u1)), (Whole.set4 (Whole.far (Whole.far (Whole.far (Whole.far z1 (p := ⟨wq.heap.size + 1, 0, none⟩) (show wq.heap.size ≠ wq.heap.size + 1 by omega) (.int .i64 p0)) (p := ⟨wq.heap.size + 1, 1, none⟩) (show wq.heap.size ≠ wq.heap.size + 1 by omega) (.int .i64 p1)) (p := ⟨wq.heap.size + 1, 2, none⟩) (show wq.heap.size ≠ wq.heap.size + 1 by omega) (.int .i64 q0)) (p := ⟨wq.heap.size + 1, 3, none⟩) (show wq.heap.size ≠ wq.heap.size + 1 by omega) (.int .i64 q1)) (.int .i64 r0) (.int .i64 r1) (.int .i64 u0) (.int .i64 u1)), (Since.set4 (Since.set4 hsx hg0 (.int .i64 p0) (.int .i64 p1) (.int .i64 q0) (.int .i64 q1)) hg1 (.int .i64 r0) (.int .i64 r1) (.int .i64 u0) (.int .i64 u1))⟩
    case rest =>
      obtain ⟨w5, hw5⟩ : ∃ w', w' = wc := ⟨_, rfl⟩
      rw [← hw5] at hcut ⊢
      clear hw5
      obtain ⟨g7, g8, rfl, rfl, v7, v8, hs5⟩ := hcut
      have a0 := box_cell v7 0 _ rfl
      have a1 := box_cell v7 1 _ rfl
      have a2 := box_cell v7 2 _ rfl
      have a3 := box_cell v7 3 _ rfl
      have n0 := box_cell v8 0 _ rfl
      have n1 := box_cell v8 1 _ rfl
      have n2 := box_cell v8 2 _ rfl
      have n3 := box_cell v8 3 _ rfl
      have hr5 := Since.refl w5
      have hd5 := hr5.drew
      have k0' := fun W (hW : Since w5 W) => k0 W (hs5.trans hW)
      clear k0 k1 k2 k3 k4
      go_upto_region 4 with fail
      go_region_held3 (fun W => Since w5 W) (first | assumption | exact Since.drew (by assumption)) ((first | (go_at_call 66; (with_reducible refine (Calls.since (by assumption) (bTouch_at HT1.out _)).mono ?_); rintro e x1 ⟨rfl, hx1⟩) | (go_at_call 66; (with_reducible refine (Calls.since (by assumption) (bTouch_at HT2.out _)).mono ?_); rintro e x2 ⟨rfl, hx2⟩) | (go_at_call 67; (with_reducible refine (Calls.since (by assumption) (bShared_at HS1.out.1 HS1.out.2 _)).mono ?_); rintro e x3 ⟨rfl, hx3⟩) | (go_at_call 67; (with_reducible refine (Calls.since (by assumption) (bShared_at HS2.out.1 HS2.out.2 _)).mono ?_); rintro e x4 ⟨rfl, hx4⟩)))
      go_wp2
      all_goals
        go_ret
        exact ⟨by first | rfl | exact ret_int HE.out, hs0.trans (hbr.trans (hs5.trans (by assumption)))⟩
end Go.Proofs.Ytbbnojfecmocgaa
