/- path.At: the path of a depth whose zone has the cell. -/
import Derived.Test.YtilkifjdonafnaaPAbove
namespace Go.Proofs.Ytilkifjdonafnaa
open Go.RowKit
/-- The half i of the cell (x, y). -/
def atH (k x y : Int) (i : Nat) : Int := (if i % 2 = 0 then x else y) / 2 ^ (k - 1 - ((i / 2 : Nat) : Int)).toNat % 2
/-- The first m halves of the cell, as one number. -/
def atV (k x y : Int) : Nat → Int
  | 0 => 0
  | m + 1 => 2 * atV k x y m + atH k x y m
theorem atH_bd (k x y : Int) (i : Nat) : 0 ≤ atH k x y i ∧ atH k x y i ≤ 1 := by unfold atH; omega
theorem atV_bd (k x y : Int) : ∀ m : Nat, 0 ≤ atV k x y m ∧ atV k x y m < 2 ^ m
  | 0 => ⟨Int.le_refl _, show (0 : Int) < 2 ^ 0 by decide⟩
  | m + 1 => by
    have h := atV_bd k x y m
    have h1 := atH_bd k x y m
    unfold atV
    rw [p2_add]
    omega
theorem has_at {k x y : Int} {b : Bool} (h : hasB k x y = b) (w : World) : Calls Try.prog 42 #[.agg #[.int .i64 k], .agg #[.int .i64 x, .int .i64 y]] w fun e w' => e = .returned (.bool b) ∧ Below w.heap.size w w' := h ▸ has_any k x y w
set_option maxHeartbeats 800000 in
theorem at_no (k x y d : Int) (w : World) (h : hasB k x y = false ∨ (hasB k x y = true ∧ d < 0) ∨ (hasB k x y = true ∧ 0 ≤ d ∧ 2 * k < d)) : Calls Try.prog 18 #[.agg #[.int .i64 k], .agg #[.int .i64 x, .int .i64 y], .int .i64 d] w fun e w' => e = .returned (.tuple #[.agg #[.int .i64 0, .int .i64 0], .int .i64 1]) ∧ Below w.heap.size w w' := by
  obtain ⟨w0, hw0⟩ : ∃ w0, w0 = ((w.alloc (.cells #[.int .i64 k] 31)).alloc (.cells #[.int .i64 x, .int .i64 y] 29)).alloc (.cells #[.int .i64 0, .int .i64 0] 23) := ⟨_, rfl⟩
  have hs0 : Since w w0 := by rw [hw0]; exact (((Since.refl w).alloc _).alloc _).alloc _
  have wh0 : Whole w0 (w.heap.size) 31 #[.int .i64 k] := by rw [hw0]; exact ((Whole.new w _ _).alloc _).alloc _
  have wh1 : Whole w0 (w.heap.size + 1) 29 #[.int .i64 x, .int .i64 y] := by rw [hw0]; exact ((Whole.new (w.alloc _) _ _).alloc _).at_ (by simp)
  have wh2 : Whole w0 (w.heap.size + 1 + 1) 23 #[.int .i64 0, .int .i64 0] := by rw [hw0]; exact (Whole.new ((w.alloc _).alloc _) _ _).at_ (by simp)
  have HW := Lib.hid hw0
  have c0_0 := box_cell wh0 0 (.int .i64 k) rfl
  have c1_0 := box_cell wh1 0 (.int .i64 x) rfl
  have c1_1 := box_cell wh1 1 (.int .i64 y) rfl
  have c2_0 := box_cell wh2 0 (.int .i64 0) rfl
  have f2_0 := box_free wh2 0
  have c2_1 := box_cell wh2 1 (.int .i64 0) rfl
  have f2_1 := box_free wh2 1
  have hsr := Since.refl w0
  have hsd := hsr.drew
  clear hw0 wh0 wh1 wh2
  rcases h with h | ⟨h, h2⟩ | ⟨h, h2, h3⟩
  · replace h := Lib.hid h
    go_enter Try.func18, Try.ntmps18
    go_wp2_with fail
    rw [← HW.out]
    go_wp2_with (go_at_call 42; (with_reducible refine (Calls.since (by assumption) (has_at h.out _)).mono ?_); rintro e w1 ⟨rfl, hb1⟩)
    have g1 := c2_0 w1 hb1
    have g2 := c2_1 w1 hb1
    exact bodyPost_ret (v := .tuple #[.agg #[.int .i64 0, .int .i64 0], .int .i64 1]) (by simp [results, Try.results18, go_sem, g1, g2]) rfl ⟨rfl, Below.setCell (Below.setCell (hs0.trans hb1) (by simp; omega) _) (by simp; omega) _⟩
  · replace h := Lib.hid h
    have q1 : decide (d < 0) = true := decide_eq_true h2
    go_enter Try.func18, Try.ntmps18
    go_wp2_with fail
    rw [← HW.out]
    go_wp2_with (go_at_call 42; (with_reducible refine (Calls.since (by assumption) (has_at h.out _)).mono ?_); rintro e w1 ⟨rfl, hb1⟩)
    have g1 := c2_0 w1 hb1
    have g2 := c2_1 w1 hb1
    exact bodyPost_ret (v := .tuple #[.agg #[.int .i64 0, .int .i64 0], .int .i64 1]) (by simp [results, Try.results18, go_sem, g1, g2]) rfl ⟨rfl, Below.setCell (Below.setCell (hs0.trans hb1) (by simp; omega) _) (by simp; omega) _⟩
  · have hr : rgt k = true := by
      cases e : rgt k with
      | true => rfl
      | false => rw [hasB_no x y e] at h; cases h
    have hk := (rgt_iff k).1 hr
    have q1 : decide (d < 0) = false := decide_eq_false (by omega)
    have q2 : decide (2 * k < d) = true := decide_eq_true h3
    obtain ⟨hk1, hk2⟩ := hk
    replace h := Lib.hid h
    clear hr
    go_enter Try.func18, Try.ntmps18
    go_wp2_with fail
    rw [← HW.out]
    go_wp2_with (go_at_call 42; (with_reducible refine (Calls.since (by assumption) (has_at h.out _)).mono ?_); rintro e w1 ⟨rfl, hb1⟩)
    have g1 := c2_0 w1 hb1
    have g2 := c2_1 w1 hb1
    exact bodyPost_ret (v := .tuple #[.agg #[.int .i64 0, .int .i64 0], .int .i64 1]) (by simp [results, Try.results18, go_sem, g1, g2]) rfl ⟨rfl, Below.setCell (Below.setCell (hs0.trans hb1) (by simp; omega) _) (by simp; omega) _⟩
set_option maxRecDepth 100000 in
set_option maxHeartbeats 1600000 in
theorem at_yes (k x y d : Int) (dn : Nat) (w : World) (h : hasB k x y = true) (hdn : d = (dn : Int)) (hd : d ≤ 2 * k) : Calls Try.prog 18 #[.agg #[.int .i64 k], .agg #[.int .i64 x, .int .i64 y], .int .i64 d] w fun e w' => e = .returned (.tuple #[.agg #[.int .i64 d, .int .i64 (atV k x y dn)], .int .i64 0]) ∧ Below w.heap.size w w' := by
  subst hdn
  obtain ⟨w0, hw0⟩ : ∃ w0, w0 = ((w.alloc (.cells #[.int .i64 k] 31)).alloc (.cells #[.int .i64 x, .int .i64 y] 29)).alloc (.cells #[.int .i64 0, .int .i64 0] 23) := ⟨_, rfl⟩
  have hs0 : Since w w0 := by rw [hw0]; exact (((Since.refl w).alloc _).alloc _).alloc _
  have wh0 : Whole w0 (w.heap.size) 31 #[.int .i64 k] := by rw [hw0]; exact ((Whole.new w _ _).alloc _).alloc _
  have wh1 : Whole w0 (w.heap.size + 1) 29 #[.int .i64 x, .int .i64 y] := by rw [hw0]; exact ((Whole.new (w.alloc _) _ _).alloc _).at_ (by simp)
  have wh2 : Whole w0 (w.heap.size + 1 + 1) 23 #[.int .i64 0, .int .i64 0] := by rw [hw0]; exact (Whole.new ((w.alloc _).alloc _) _ _).at_ (by simp)
  have HW := Lib.hid hw0
  have c0_0 := box_cell wh0 0 (.int .i64 k) rfl
  have c1_0 := box_cell wh1 0 (.int .i64 x) rfl
  have c1_1 := box_cell wh1 1 (.int .i64 y) rfl
  have c2_0 := box_cell wh2 0 (.int .i64 0) rfl
  have c2_1 := box_cell wh2 1 (.int .i64 0) rfl
  have hsr := Since.refl w0
  have hsd := hsr.drew
  clear hw0
  have hr : rgt k = true := by
    cases e : rgt k with
    | true => rfl
    | false => rw [hasB_no x y e] at h; cases h
  obtain ⟨hk1, hk2⟩ := (rgt_iff k).1 hr
  have q1 : decide ((dn : Int) < 0) = false := decide_eq_false (by omega)
  have q2 : decide (2 * k < (dn : Int)) = false := decide_eq_false (by omega)
  replace h := Lib.hid h
  clear hr
  go_enter Try.func18, Try.ntmps18
  go_wp2_with fail
  rw [← HW.out]
  go_wp2_with (go_at_call 42; (with_reducible refine (Calls.since (by assumption) (has_at h.out _)).mono ?_); rintro e w1 ⟨rfl, hb1⟩)
  have wt := (Since.whole hb1 wh0).alloc (.cells #[.int .i64 0, .int .i64 0] 23)
  have wp := (Since.whole hb1 wh1).alloc (.cells #[.int .i64 0, .int .i64 0] 23)
  have wr0 := (Since.whole hb1 wh2).alloc (.cells #[.int .i64 0, .int .i64 0] 23)
  have wg := Whole.new w1 23 #[.int .i64 0, .int .i64 0]
  have hs : Since w (w1.alloc (.cells #[.int .i64 0, .int .i64 0] 23)) := (hs0.trans hb1).alloc _
  have hlG := (Since.whole hb1 wh2).lt
  obtain ⟨G, hG⟩ : ∃ G, G = w1.heap.size := ⟨_, rfl⟩
  rw [← hG] at hlG wg ⊢
  have u1 : w.heap.size ≠ G := by omega
  have u2 : w.heap.size + 1 ≠ G := by omega
  have u3 : w.heap.size + 1 + 1 ≠ G := by omega
  clear hG c0_0 c1_0 c1_1 c2_0 c2_1 wh0 wh1 wh2 hsr hsd q1 q2
  go_loopw [29] (fun i wr => ∃ n : Nat, i = .int .i64 n ∧ n ≤ dn ∧ Whole wr w.heap.size 31 #[.int .i64 k] ∧ Whole wr (w.heap.size + 1) 29 #[.int .i64 x, .int .i64 y] ∧ Whole wr (w.heap.size + 1 + 1) 23 #[.int .i64 0, .int .i64 0] ∧ Whole wr G 23 #[.int .i64 (n : Int), .int .i64 (atV k x y n)] ∧ Since w wr)
    (fun i _ => dn - (intOf i).toNat)
  case atStart => exact ⟨0, rfl, Nat.zero_le _, wt, wp, wr0, wg, hs⟩
  case round =>
    clear wt wp wr0 wg hs hb1
    obtain ⟨n, rfl, hn, wt, wp, wr0, wg, hs⟩ := hrel
    have ct := but_cell wt u1 0 _ rfl
    have cp1 := but_cell wp u2 0 _ rfl
    have cp2 := but_cell wp u2 1 _ rfl
    have cg1 := box_cell wg 0 _ rfl
    have cg2 := box_cell wg 1 _ rfl
    have fg1 := box_free wg 0
    have fg2 := box_free wg 1
    have hsr := Since.refl wr
    have hbr := (Since.refl wr).but G
    have hsd : Since wr wr.drew := (Since.refl wr).drew
    have hbd : But G wr wr.drew := hsd.but G
    by_cases hlt : n < dn
    · obtain ⟨H, hH⟩ : ∃ H : Int, H = ((n / 2 : Nat) : Int) := ⟨_, rfl⟩
      have eH : IntKind.i64.wrap ((n : Int) / 2) = H := by rw [IntWalk.i64_in _ (by omega)]; omega
      obtain ⟨T, hT⟩ : ∃ T : Int, T = k - 1 - H := ⟨_, rfl⟩
      have eK : IntKind.i64.wrap (k - 1) = k - 1 := IntWalk.i64_in _ (by omega)
      have eT : IntKind.i64.wrap (k - 1 - H) = T := by rw [IntWalk.i64_in _ (by omega)]; omega
      have hT0 : 0 ≤ T := by omega
      have hT1 : T ≤ 16 := by omega
      have HT := Lib.hid hT
      have ha := and1
      have hn32 : (n : Int) < 32 := by omega
      have HH := Lib.hid hH
      have hpar : ((n : Int).tmod 2 == 0) = decide (n % 2 = 0) := by rw [Int.tmod_eq_emod_of_nonneg (by omega), Bool.eq_iff_iff, beq_iff_eq, decide_eq_true_iff]; omega
      have hs1 : atV k x y (n + 1) = 2 * atV k x y n + atH k x y n := rfl
      have HS := Lib.hid hs1
      have hvb := atV_bd k x y n
      have hV := Lib.hid hvb
      have HP := Lib.hid hpar
      obtain ⟨V, hVV⟩ : ∃ V, V = atV k x y n := ⟨_, rfl⟩
      rw [← hVV] at wg cg1 cg2
      have HVV := Lib.hid hVV
      clear hH hs1 hvb hVV hpar hT
      cases hx : ((n : Int).tmod 2 == 0)
      all_goals
        go_wp2_with (go_at_call 43; (with_reducible refine (byX_any _ _).mono ?_); rintro e w' ⟨rfl, rfl⟩)
        obtain ⟨wq, hwq⟩ : ∃ wq, wq = wr.drew := ⟨_, rfl⟩
        refine wp_region_held_drew (S := fun W => But G wr W) (by kernel_rfl) hbd (fun hHeld => ?_)
        have hq : Since wr wq := by rw [hwq]; exact hsd
        rw [← hwq] at hHeld ⊢
        clear hwq hbd hsd
        refine wpAnyH_take (i := 1) (v := ?_) rfl (by kernel_rfl) (by kernel_rfl) (by kernel_rfl) (fun _ _ _ h => h) (Or.inl ⟨by rfl, ?_⟩) (by assumption) ?_
        rotate_left 1
        · (intro W hW; clear hW; go_simp; try with_reducible rfl)
        simp only [Act.put, List.getElem_toArray, List.getElem_cons_succ, List.getElem_cons_zero, List.setIfInBounds_toArray, List.set_cons_zero, List.set_cons_succ]
        refine wpAnyH_take (i := 2) (v := ?_) rfl (by kernel_rfl) (by kernel_rfl) (by kernel_rfl) (fun _ _ _ h => h) (Or.inl ⟨by rfl, ?_⟩) (by assumption) ?_
        rotate_left 1
        · (intro W hW; clear hW; go_simp; try with_reducible rfl)
        simp only [Act.put, List.getElem_toArray, List.getElem_cons_succ, List.getElem_cons_zero, List.setIfInBounds_toArray, List.set_cons_zero, List.set_cons_succ]
        refine wpAnyH_take (i := 3) (v := ?_) rfl (by kernel_rfl) (by kernel_rfl) (by kernel_rfl) (fun _ _ _ h => h) (Or.inl ⟨by rfl, ?_⟩) (by assumption) ?_
        rotate_left 1
        · (intro W hW; skip; go_simp; try with_reducible rfl)
        simp only [Act.put, List.getElem_toArray, List.getElem_cons_succ, List.getElem_cons_zero, List.setIfInBounds_toArray, List.set_cons_zero, List.set_cons_succ]
        refine wpAnyH_take (i := 4) (v := ?_) rfl (by kernel_rfl) (by kernel_rfl) (by kernel_rfl) (fun _ _ _ h => h) (Or.inl ⟨by rfl, ?_⟩) (by assumption) ?_
        rotate_left 1
        · (intro W hW; clear hW; go_simp; try with_reducible rfl)
        simp only [Act.put, List.getElem_toArray, List.getElem_cons_succ, List.getElem_cons_zero, List.setIfInBounds_toArray, List.set_cons_zero, List.set_cons_succ]
        refine wpAnyH_take (i := 5) (v := ?_) rfl (by kernel_rfl) (by kernel_rfl) (by kernel_rfl) (fun _ _ _ h => h) (Or.inl ⟨by rfl, ?_⟩) (by assumption) ?_
        rotate_left 1
        · (intro W hW; clear hW; go_simp; try with_reducible rfl)
        simp only [Act.put, List.getElem_toArray, List.getElem_cons_succ, List.getElem_cons_zero, List.setIfInBounds_toArray, List.set_cons_zero, List.set_cons_succ]
        refine wpAnyH_take (i := 6) (v := ?_) rfl (by kernel_rfl) (by kernel_rfl) (by kernel_rfl) (fun _ _ _ h => h) (Or.inl ⟨by rfl, ?_⟩) (by assumption) ?_
        rotate_left 1
        · (intro W hW; clear hW; go_simp; try with_reducible rfl)
        simp only [Act.put, List.getElem_toArray, List.getElem_cons_succ, List.getElem_cons_zero, List.setIfInBounds_toArray, List.set_cons_zero, List.set_cons_succ]
        refine wpAnyH_take (i := 7) (v := ?_) rfl (by kernel_rfl) (by kernel_rfl) (by kernel_rfl) (fun _ _ _ h => h) (Or.inl ⟨by rfl, ?_⟩) (by assumption) ?_
        rotate_left 1
        · (intro W hW; clear hW; go_simp; try with_reducible rfl)
        simp only [Act.put, List.getElem_toArray, List.getElem_cons_succ, List.getElem_cons_zero, List.setIfInBounds_toArray, List.set_cons_zero, List.set_cons_succ]
        refine wpAnyH_take (i := 8) (v := ?_) rfl (by kernel_rfl) (by kernel_rfl) (by kernel_rfl) (fun _ _ _ h => h) (Or.inl ⟨by rfl, ?_⟩) (by assumption) ?_
        rotate_left 1
        · (intro W hW; clear hW; go_simp; try with_reducible rfl)
        simp only [Act.put, List.getElem_toArray, List.getElem_cons_succ, List.getElem_cons_zero, List.setIfInBounds_toArray, List.set_cons_zero, List.set_cons_succ]
        refine wpAnyH_take (i := 9) (v := ?_) rfl (by kernel_rfl) (by kernel_rfl) (by kernel_rfl) (fun _ _ _ h => h) (Or.inl ⟨by rfl, ?_⟩) (by assumption) ?_
        rotate_left 1
        · (intro W hW; clear hW; go_simp; try with_reducible rfl)
        simp only [Act.put, List.getElem_toArray, List.getElem_cons_succ, List.getElem_cons_zero, List.setIfInBounds_toArray, List.set_cons_zero, List.set_cons_succ]
        refine wpAnyH_ready (rs := [0]) (by kernel_rfl) (by simp) ?_
        refine AllReadyH.cons rfl (fun K hK => ?_) AllReadyH.nil
        go_simp
        skip
        refine hK.out _ _ (hHeld) (fun hHeld => ?_)
        clear hK K
        try simp only [Act.put, List.getElem_toArray, List.getElem_cons_zero, List.setIfInBounds_toArray, List.set_cons_zero, List.set_cons_succ]
        refine wpAnyH_ready (rs := [10]) (by kernel_rfl) (by simp) ?_
        refine AllReadyH.cons rfl (fun K hK => ?_) AllReadyH.nil
        go_simp
        refine (Calls.since hq (with_any _ _ _ _)).mono ?_
        rintro e w2 ⟨rfl, hb2⟩
        go_wp2_with fail
        refine hK.out _ _ (hb2.but _) (fun hHeld => ?_)
        clear hK K
        try simp only [Act.put, List.getElem_toArray, List.getElem_cons_succ, List.getElem_cons_zero, List.setIfInBounds_toArray, List.set_cons_zero, List.set_cons_succ]
        refine wpAnyH_ready (rs := [11]) (by kernel_rfl) (by simp) ?_
        refine AllReadyH.cons rfl (fun K hK => ?_) AllReadyH.nil
        go_simp
        skip
        refine hK.out _ _ (But.set2 hb2 _ _ _ _) (fun hHeld => ?_)
        clear hK K
        try simp only [Act.put, List.getElem_toArray, List.getElem_cons_succ, List.getElem_cons_zero, List.setIfInBounds_toArray, List.set_cons_zero, List.set_cons_succ]
        refine wpAnyH_done (by kernel_rfl) ?_ _
        have hh : atH k x y n = (if decide (n % 2 = 0) = true then x else y) / 2 ^ T.toNat % 2 := by
          unfold atH
          rw [HT.out, HH.out]
          simp only [decide_eq_true_eq]
        rw [← HP.out, hx] at hh
        simp only [Bool.false_eq_true, ↓reduceIte] at hh
        have hb0 := atH_bd k x y n
        rw [hh] at hb0
        have hV2 := hV.out
        have hp2 := p2_32 (n := n) (by omega)
        have hd1 : wthD (n : Int) = ((n + 1 : Nat) : Int) := by rw [wthD_in (by omega) (by omega)]; omega
        have hv1 := or_half (b := V) (by rw [HVV.out]; exact hV2.1) (by rw [HVV.out]; omega) hb0.1 hb0.2
        rw [← hh, HVV.out, ← HS.out] at hv1
        rw [← HVV.out, hh] at hv1
        replace hd1 := Lib.hid hd1
        replace hv1 := Lib.hid hv1
        clear hh hb0 hV2 hp2
        go_wp2
        go_roundw
        case rel =>
          refine ⟨n + 1, by go_num, by omega, ?_, ?_, ?_, ?_, ?_⟩
          · exact ((Since.whole hb2 wt).far (p := ⟨G, 0, none⟩) u1 _).far (p := ⟨G, 1, none⟩) u1 _
          · exact ((Since.whole hb2 wp).far (p := ⟨G, 0, none⟩) u2 _).far (p := ⟨G, 1, none⟩) u2 _
          · exact ((Since.whole hb2 wr0).far (p := ⟨G, 0, none⟩) u3 _).far (p := ⟨G, 1, none⟩) u3 _
          · rw [← hd1.out, ← hv1.out]
            exact ((Since.whole hb2 wg).set_ 0 _).set_ 1 _
          · exact ((hs.trans hb2).setCell (p := ⟨G, 0, none⟩) (by simp; omega) _).setCell (p := ⟨G, 1, none⟩) (by simp; omega) _
        case measure => simp [intOf]; omega
    · obtain rfl : n = dn := by omega
      have r1 := wr0.frozen 0
      have r2 := wr0.frozen 1
      have r3 := wr0.cell 0
      have r4 := wr0.cell 1
      have w1' := (wr0.set_ 0 (.int .i64 (n : Int))).set_ 1 (.int .i64 (atV k x y n))
      have r5 := w1'.cell 0
      have r6 := w1'.cell 1
      clear w1'
      go_wp2
      exact bodyPost_ret (v := .tuple #[.agg #[.int .i64 ((n : Int)), .int .i64 (atV k x y n)], .int .i64 0]) (by simp [results, Try.results18, go_sem, r5, r6]) rfl ⟨rfl, (hs.setCell (p := ⟨w.heap.size + 1 + 1, 0, none⟩) (by simp; omega) _).setCell (p := ⟨w.heap.size + 1 + 1, 1, none⟩) (by simp; omega) _⟩
end Go.Proofs.Ytilkifjdonafnaa
