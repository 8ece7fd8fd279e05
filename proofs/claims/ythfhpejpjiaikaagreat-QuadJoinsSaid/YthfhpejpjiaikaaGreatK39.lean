/- gleberef03.Child. -/
import Derived.Test.YthfhpejpjiaikaaGreatK05
import Derived.Test.YthfhpejpjiaikaaGreatK08
import Derived.Test.YthfhpejpjiaikaaGreatK09
namespace Go.Proofs.YthfhpejpjiaikaaGreat
open Go.RowKit
set_option linter.unusedVariables false
set_option linter.unusedSimpArgs false
theorem conv_at (c : UInt8) (v : Int) (h : v = (c.toNat : Int)) {W : World} {g : Nat} (hw : Whole W g 5 #[.int .u8 v]) : (convert 134 9 (.slice (some ⟨g, 0, none⟩) 1 1)).run Tryz.prog W = .ok (.string ⟨#[c]⟩) W :=
  run_convert_bytes_back (P := Tryz.prog) _ 134 9 5 ⟨g, 0, none⟩ 1 [c] Tryz.underlying134 Tryz.underlying5 Tryz.underlying9 (fun j hj => by
    obtain rfl : j = 0 := by simpa using hj
    subst h
    exact hw.cell 0)
theorem child_txt {d b h : Int} (hf : fine d b = true) (hh : h = 0 ∨ h = 1) : (txt d b ++ ⟨#[dig h]⟩ : ByteArray).toList = digT d b d.toNat ++ [dig h] := by
  rw [ByteArray.toList_eq, ByteArray.data_append]
  simp [txt]
theorem child_of {d b h D V : Int} (hf : fine d b = true) (hd : d < 32) (hh : h = 0 ∨ h = 1) (e1 : d + 1 = D) (e2 : 2 * b + h = V) (W : World) : Calls Tryz.prog 63 #[.string (txt d b ++ ⟨#[dig h]⟩)] W fun e w' => e = .returned (.agg #[.int .i64 D, .int .i64 V]) ∧ Below W.heap.size W w' := by
  have hfi := (fine_iff d b).1 hf
  have hdg := digT_digs hf d.toNat (by omega)
  have ht := child_txt hf hh
  have hdb : ((dig h).toNat : Int) = 48 + h := dig_bit (by omega) (by omega)
  have hsz : (txt d b ++ ⟨#[dig h]⟩ : ByteArray).size = d.toNat + 1 := by rw [← bytes_size, ht, List.length_append, digT_length]; rfl
  refine refOf_at W (by rw [ht]; exact digs_snoc.2 ⟨hdg.1, by omega, by omega⟩) (by omega) (by omega) ?_
  rw [ht, valT_snoc, hdg.2, hdb, ← e2]
  have : pv d b (d.toNat : Int) = b := by
    rw [Int.toNat_of_nonneg hfi.1]
    exact pv_all d b
  rw [this]; omega
set_option maxRecDepth 100000 in
set_option maxHeartbeats 1600000 in
theorem refChild_yes (d b h : Int) (w : World) (hf : fine d b = true) (hd : d < 32) (hh : h = 0 ∨ h = 1) : Calls Tryz.prog 60 #[.agg #[.int .i64 d, .int .i64 b], .int .i64 h] w fun e w' => e = .returned (.tuple #[.agg #[.int .i64 (d + 1), .int .i64 (2 * b + h)], .int .i64 0]) ∧ Below w.heap.size w w' := by
  obtain ⟨w0, hw0⟩ : ∃ w0, w0 = (w.alloc (.cells #[.int .i64 d, .int .i64 b] 23)).alloc (.cells #[.int .i64 0, .int .i64 0] 23) := ⟨_, rfl⟩
  have hs0 : Since w w0 := by rw [hw0]; exact ((Since.refl w).alloc _).alloc _
  have wh0 : Whole w0 (w.heap.size) 23 #[.int .i64 d, .int .i64 b] := by rw [hw0]; exact (Whole.new w _ _).alloc _
  have wh1 : Whole w0 (w.heap.size + 1) 23 #[.int .i64 0, .int .i64 0] := by rw [hw0]; exact (Whole.new (w.alloc _) _ _).at_ (by simp)
  have HW := Lib.hid hw0
  have c0_0 := box_cell wh0 0 (.int .i64 d) rfl
  have c0_1 := box_cell wh0 1 (.int .i64 b) rfl
  have c1_0 := box_cell wh1 0 (.int .i64 0) rfl
  have f1_0 := box_free wh1 0
  have c1_1 := box_cell wh1 1 (.int .i64 0) rfl
  have f1_1 := box_free wh1 1
  have hsr := Since.refl w0
  have hsd := hsr.drew
  clear hw0
  have HF := Lib.hid (fun W => refFine_at hf W)
  have HH := Lib.hid (fun W => refHalves_at hf rfl W)
  have HFI := Lib.hid hf
  have hd32 : (d == 32) = false := by simp; omega
  have hsz := txt_size d b
  obtain ⟨tx, htx⟩ : ∃ tx, tx = txt d b := ⟨_, rfl⟩
  rw [← htx] at HH hsz
  have HTX := Lib.hid htx
  have HSZ := Lib.hid hsz
  obtain ⟨D, hD⟩ : ∃ D, D = d + 1 := ⟨_, rfl⟩
  obtain ⟨V, hV⟩ : ∃ V, V = 2 * b + h := ⟨_, rfl⟩
  have hof := fun W => child_of hf hd hh hD.symm hV.symm W
  rw [← hD, ← hV]
  clear hD hV
  have hl2 : ¬ 9223372036854775807 < tx.size + 1 := by omega
  rw [← htx] at hof
  clear hf htx hsz
  have z1 : IntKind.i64.wrap 48 = 48 := by decide
  have z2 : IntKind.u8.wrap 48 = 48 := by decide
  have z3 : IntKind.i64.wrap 49 = 49 := by decide
  have z4 : IntKind.u8.wrap 49 = 49 := by decide
  rcases hh with rfl | rfl
  · rw [dig_0] at hof
    have HOF := Lib.hid hof
    clear hof
    go_enter Tryz.func60, Tryz.ntmps60
    go_wp2_with fail
    rw [← HW.out]
    go_wp2_with (go_at_call 62; (with_reducible refine (Calls.since (by assumption) (HF.out _)).mono ?_); rintro e wr ⟨rfl, hbr⟩)
    have hne : w.heap.size ≠ w.heap.size + 1 := by omega
    have b0 := but_cell (Since.whole hbr wh0) (g := w.heap.size + 1) hne 0 (.int .i64 d) rfl
    have b1 := but_cell (Since.whole hbr wh0) (g := w.heap.size + 1) hne 1 (.int .i64 b) rfl
    clear hne c0_0 c0_1 c1_0 c1_1 f1_0 f1_1 hsr hsd
    obtain ⟨wq, hwq⟩ : ∃ wq, wq = wr.drew := ⟨_, rfl⟩
    have hrd : Since wr wr.drew := (Since.refl wr).drew
    refine wp_region_held_drew (S := fun W => But (w.heap.size + 1) wr W) (by kernel_rfl) (Since.but hrd _) (fun hHeld => ?_)
    rw [← hwq] at hHeld hrd ⊢
    have hq : Since wr wq := hrd
    clear hwq hrd
    refine wpAnyH_take (i := 0) (v := ?_) rfl (by kernel_rfl) (by kernel_rfl) (by kernel_rfl) (fun _ _ _ h => h) (Or.inl ⟨by rfl, ?_⟩) (by assumption) ?_
    rotate_left 1
    · (intro W hW; skip; go_simp; try with_reducible rfl)
    simp only [Act.put, List.getElem_toArray, List.getElem_cons_zero, List.setIfInBounds_toArray, List.set_cons_zero, List.set_cons_succ]
    refine wpAnyH_take (i := 2) (v := ?_) rfl (by kernel_rfl) (by kernel_rfl) (by kernel_rfl) (fun _ _ _ h => h) (Or.inl ⟨by rfl, ?_⟩) (by assumption) ?_
    rotate_left 1
    · (intro W hW; clear hW; go_simp; try with_reducible rfl)
    simp only [Act.put, List.getElem_toArray, List.getElem_cons_succ, List.getElem_cons_zero, List.setIfInBounds_toArray, List.set_cons_zero, List.set_cons_succ]
    refine wpAnyH_take (i := 3) (v := ?_) rfl (by kernel_rfl) (by kernel_rfl) (by kernel_rfl) (fun _ _ _ h => h) (Or.inl ⟨by rfl, ?_⟩) (by assumption) ?_
    rotate_left 1
    · (intro W hW; clear hW; go_simp; try with_reducible rfl)
    simp only [Act.put, List.getElem_toArray, List.getElem_cons_succ, List.getElem_cons_zero, List.setIfInBounds_toArray, List.set_cons_zero, List.set_cons_succ]
    refine wpAnyH_take (i := 4) (v := ?_) rfl (by kernel_rfl) (by kernel_rfl) (by kernel_rfl) (fun _ _ _ h => h) (Or.inl ⟨by rfl, ?_⟩) (by assumption) ?_
    rotate_left 1
    · (intro W hW; clear hW; go_simp; try with_reducible rfl)
    simp only [Act.put, List.getElem_toArray, List.getElem_cons_succ, List.getElem_cons_zero, List.setIfInBounds_toArray, List.set_cons_zero, List.set_cons_succ]
    refine wpAnyH_ready (rs := [1, 5]) (by kernel_rfl) (by simp) ?_
    refine AllReadyH.cons rfl (fun K hK => ?_) (AllReadyH.cons rfl (fun K hK => ?_) AllReadyH.nil)
    · go_simp
      refine (Calls.since hq (HH.out _)).mono ?_
      rintro e w2 ⟨rfl, hb2⟩
      go_wp2_with fail
      refine hK.out _ _ (Since.but hb2 _) (fun hHeld => ?_)
      clear hK K
      try simp only [Act.put, List.getElem_toArray, List.getElem_cons_succ, List.getElem_cons_zero, List.setIfInBounds_toArray, List.set_cons_zero, List.set_cons_succ]
      refine wpAnyH_ready (rs := [5]) (by kernel_rfl) (by simp) ?_
      refine AllReadyH.cons rfl (fun K hK => ?_) AllReadyH.nil
      go_simp
      have hcx := conv1 48 48 (by decide) w2
      refine hK.out _ _ (Since.but (Since.alloc hb2 _) _) (fun hHeld => ?_)
      clear hK K
      try simp only [Act.put, List.getElem_toArray, List.getElem_cons_succ, List.getElem_cons_zero, List.setIfInBounds_toArray, List.set_cons_zero, List.set_cons_succ]
      refine wpAnyH_ready (rs := [6]) (by kernel_rfl) (by simp) ?_
      refine AllReadyH.cons rfl (fun K hK => ?_) AllReadyH.nil
      go_simp
      skip
      refine hK.out _ _ (Since.but (Since.alloc hb2 _) _) (fun hHeld => ?_)
      clear hK K
      try simp only [Act.put, List.getElem_toArray, List.getElem_cons_succ, List.getElem_cons_zero, List.setIfInBounds_toArray, List.set_cons_zero, List.set_cons_succ]
      refine wpAnyH_take (i := 7) (v := ?_) rfl (by kernel_rfl) (by kernel_rfl) (by kernel_rfl) (fun _ _ _ h => h) (Or.inl ⟨by rfl, ?_⟩) (by assumption) ?_
      rotate_left 1
      · (intro W hW; clear hW; go_simp; try with_reducible rfl)
      simp only [Act.put, List.getElem_toArray, List.getElem_cons_succ, List.getElem_cons_zero, List.setIfInBounds_toArray, List.set_cons_zero, List.set_cons_succ]
      refine wpAnyH_ready (rs := [8]) (by kernel_rfl) (by simp) ?_
      refine AllReadyH.cons rfl (fun K hK => ?_) AllReadyH.nil
      go_simp
      refine (Calls.since (Since.alloc hb2 (.cells #[.int .u8 48] 5)) (HOF.out _)).mono ?_
      rintro e w4 ⟨rfl, hb4⟩
      have hw4 := Since.whole (hbr.trans hb4) wh1
      have x0 := hw4.cell 0
      have x1 := hw4.cell 1
      have y0 := hw4.frozen 0
      have y1 := hw4.frozen 1
      go_wp2_with fail
      refine hK.out _ _ (Since.but hb4 _) (fun hHeld => ?_)
      clear hK K
      try simp only [Act.put, List.getElem_toArray, List.getElem_cons_succ, List.getElem_cons_zero, List.setIfInBounds_toArray, List.set_cons_zero, List.set_cons_succ]
      refine wpAnyH_ready (rs := [9]) (by kernel_rfl) (by simp) ?_
      refine AllReadyH.cons rfl (fun K hK => ?_) AllReadyH.nil
      go_simp
      skip
      refine hK.out _ _ (But.set2 hb4 _ _ _ _) (fun hHeld => ?_)
      clear hK K
      try simp only [Act.put, List.getElem_toArray, List.getElem_cons_succ, List.getElem_cons_zero, List.setIfInBounds_toArray, List.set_cons_zero, List.set_cons_succ]
      refine wpAnyH_take (i := 10) (v := ?_) rfl (by kernel_rfl) (by kernel_rfl) (by kernel_rfl) (fun _ _ _ h => h) (Or.inl ⟨by rfl, ?_⟩) (by assumption) ?_
      rotate_left 1
      · (intro W hW; clear hW; go_simp; try with_reducible rfl)
      simp only [Act.put, List.getElem_toArray, List.getElem_cons_succ, List.getElem_cons_zero, List.setIfInBounds_toArray, List.set_cons_zero, List.set_cons_succ]
      refine wpAnyH_done (by kernel_rfl) ?_ _
      go_wp2_with fail
      have u := (hw4.set_ 0 (.int .i64 D)).set_ 1 (.int .i64 V)
      have u0 := u.cell 0
      have u1 := u.cell 1
      exact bodyPost_ret (v := .tuple #[.agg #[.int .i64 D, .int .i64 V], .int .i64 0]) (by simp [results, Tryz.results60, go_sem, u0, u1]) rfl ⟨rfl, Below.setCell (Below.setCell (hs0.trans (hbr.trans hb4)) (by simp) _) (by simp) _⟩
    · go_simp
      have hcx := conv1 48 48 (by decide) wq
      refine hK.out _ _ (Since.but (Since.alloc hq _) _) (fun hHeld => ?_)
      clear hK K
      try simp only [Act.put, List.getElem_toArray, List.getElem_cons_succ, List.getElem_cons_zero, List.setIfInBounds_toArray, List.set_cons_zero, List.set_cons_succ]
      refine wpAnyH_ready (rs := [1, 6]) (by kernel_rfl) (by simp) ?_
      refine AllReadyH.cons rfl (fun K hK => ?_) (AllReadyH.cons rfl (fun K hK => ?_) AllReadyH.nil)
      · go_simp
        refine (HH.out _).mono ?_
        rintro e w2 ⟨rfl, hb2'⟩
        have hb2 : Since wr w2 := Since.trans (hq.alloc _) hb2'
        have hw := (Whole.new wq 5 #[.int .u8 48]).below hb2' (by simp)
        have hcx := conv_at 48 48 (by decide) hw
        go_wp2_with fail
        refine hK.out _ _ (Since.but hb2 _) (fun hHeld => ?_)
        clear hK K
        try simp only [Act.put, List.getElem_toArray, List.getElem_cons_succ, List.getElem_cons_zero, List.setIfInBounds_toArray, List.set_cons_zero, List.set_cons_succ]
        refine wpAnyH_ready (rs := [6]) (by kernel_rfl) (by simp) ?_
        refine AllReadyH.cons rfl (fun K hK => ?_) AllReadyH.nil
        go_simp
        skip
        refine hK.out _ _ (Since.but hb2 _) (fun hHeld => ?_)
        clear hK K
        try simp only [Act.put, List.getElem_toArray, List.getElem_cons_succ, List.getElem_cons_zero, List.setIfInBounds_toArray, List.set_cons_zero, List.set_cons_succ]
        refine wpAnyH_take (i := 7) (v := ?_) rfl (by kernel_rfl) (by kernel_rfl) (by kernel_rfl) (fun _ _ _ h => h) (Or.inl ⟨by rfl, ?_⟩) (by assumption) ?_
        rotate_left 1
        · (intro W hW; clear hW; go_simp; try with_reducible rfl)
        simp only [Act.put, List.getElem_toArray, List.getElem_cons_succ, List.getElem_cons_zero, List.setIfInBounds_toArray, List.set_cons_zero, List.set_cons_succ]
        refine wpAnyH_ready (rs := [8]) (by kernel_rfl) (by simp) ?_
        refine AllReadyH.cons rfl (fun K hK => ?_) AllReadyH.nil
        go_simp
        refine (Calls.since hb2 (HOF.out _)).mono ?_
        rintro e w4 ⟨rfl, hb4⟩
        have hw4 := Since.whole (hbr.trans hb4) wh1
        have x0 := hw4.cell 0
        have x1 := hw4.cell 1
        have y0 := hw4.frozen 0
        have y1 := hw4.frozen 1
        go_wp2_with fail
        refine hK.out _ _ (Since.but hb4 _) (fun hHeld => ?_)
        clear hK K
        try simp only [Act.put, List.getElem_toArray, List.getElem_cons_succ, List.getElem_cons_zero, List.setIfInBounds_toArray, List.set_cons_zero, List.set_cons_succ]
        refine wpAnyH_ready (rs := [9]) (by kernel_rfl) (by simp) ?_
        refine AllReadyH.cons rfl (fun K hK => ?_) AllReadyH.nil
        go_simp
        skip
        refine hK.out _ _ (But.set2 hb4 _ _ _ _) (fun hHeld => ?_)
        clear hK K
        try simp only [Act.put, List.getElem_toArray, List.getElem_cons_succ, List.getElem_cons_zero, List.setIfInBounds_toArray, List.set_cons_zero, List.set_cons_succ]
        refine wpAnyH_take (i := 10) (v := ?_) rfl (by kernel_rfl) (by kernel_rfl) (by kernel_rfl) (fun _ _ _ h => h) (Or.inl ⟨by rfl, ?_⟩) (by assumption) ?_
        rotate_left 1
        · (intro W hW; clear hW; go_simp; try with_reducible rfl)
        simp only [Act.put, List.getElem_toArray, List.getElem_cons_succ, List.getElem_cons_zero, List.setIfInBounds_toArray, List.set_cons_zero, List.set_cons_succ]
        refine wpAnyH_done (by kernel_rfl) ?_ _
        go_wp2_with fail
        have u := (hw4.set_ 0 (.int .i64 D)).set_ 1 (.int .i64 V)
        have u0 := u.cell 0
        have u1 := u.cell 1
        exact bodyPost_ret (v := .tuple #[.agg #[.int .i64 D, .int .i64 V], .int .i64 0]) (by simp [results, Tryz.results60, go_sem, u0, u1]) rfl ⟨rfl, Below.setCell (Below.setCell (hs0.trans (hbr.trans hb4)) (by simp) _) (by simp) _⟩
      · go_simp
        skip
        refine hK.out _ _ (Since.but (hq.alloc _) _) (fun hHeld => ?_)
        clear hK K
        try simp only [Act.put, List.getElem_toArray, List.getElem_cons_succ, List.getElem_cons_zero, List.setIfInBounds_toArray, List.set_cons_zero, List.set_cons_succ]
        refine wpAnyH_ready (rs := [1]) (by kernel_rfl) (by simp) ?_
        refine AllReadyH.cons rfl (fun K hK => ?_) AllReadyH.nil
        go_simp
        refine (HH.out _).mono ?_
        rintro e w2 ⟨rfl, hb2'⟩
        have hb2 : Since wr w2 := Since.trans (hq.alloc _) hb2'
        have hw := (Whole.new wq 5 #[.int .u8 48]).below hb2' (by simp)
        have hcx := conv_at 48 48 (by decide) hw
        go_wp2_with fail
        refine hK.out _ _ (Since.but hb2 _) (fun hHeld => ?_)
        clear hK K
        try simp only [Act.put, List.getElem_toArray, List.getElem_cons_succ, List.getElem_cons_zero, List.setIfInBounds_toArray, List.set_cons_zero, List.set_cons_succ]
        refine wpAnyH_take (i := 7) (v := ?_) rfl (by kernel_rfl) (by kernel_rfl) (by kernel_rfl) (fun _ _ _ h => h) (Or.inl ⟨by rfl, ?_⟩) (by assumption) ?_
        rotate_left 1
        · (intro W hW; clear hW; go_simp; try with_reducible rfl)
        simp only [Act.put, List.getElem_toArray, List.getElem_cons_succ, List.getElem_cons_zero, List.setIfInBounds_toArray, List.set_cons_zero, List.set_cons_succ]
        refine wpAnyH_ready (rs := [8]) (by kernel_rfl) (by simp) ?_
        refine AllReadyH.cons rfl (fun K hK => ?_) AllReadyH.nil
        go_simp
        refine (Calls.since hb2 (HOF.out _)).mono ?_
        rintro e w4 ⟨rfl, hb4⟩
        have hw4 := Since.whole (hbr.trans hb4) wh1
        have x0 := hw4.cell 0
        have x1 := hw4.cell 1
        have y0 := hw4.frozen 0
        have y1 := hw4.frozen 1
        go_wp2_with fail
        refine hK.out _ _ (Since.but hb4 _) (fun hHeld => ?_)
        clear hK K
        try simp only [Act.put, List.getElem_toArray, List.getElem_cons_succ, List.getElem_cons_zero, List.setIfInBounds_toArray, List.set_cons_zero, List.set_cons_succ]
        refine wpAnyH_ready (rs := [9]) (by kernel_rfl) (by simp) ?_
        refine AllReadyH.cons rfl (fun K hK => ?_) AllReadyH.nil
        go_simp
        skip
        refine hK.out _ _ (But.set2 hb4 _ _ _ _) (fun hHeld => ?_)
        clear hK K
        try simp only [Act.put, List.getElem_toArray, List.getElem_cons_succ, List.getElem_cons_zero, List.setIfInBounds_toArray, List.set_cons_zero, List.set_cons_succ]
        refine wpAnyH_take (i := 10) (v := ?_) rfl (by kernel_rfl) (by kernel_rfl) (by kernel_rfl) (fun _ _ _ h => h) (Or.inl ⟨by rfl, ?_⟩) (by assumption) ?_
        rotate_left 1
        · (intro W hW; clear hW; go_simp; try with_reducible rfl)
        simp only [Act.put, List.getElem_toArray, List.getElem_cons_succ, List.getElem_cons_zero, List.setIfInBounds_toArray, List.set_cons_zero, List.set_cons_succ]
        refine wpAnyH_done (by kernel_rfl) ?_ _
        go_wp2_with fail
        have u := (hw4.set_ 0 (.int .i64 D)).set_ 1 (.int .i64 V)
        have u0 := u.cell 0
        have u1 := u.cell 1
        exact bodyPost_ret (v := .tuple #[.agg #[.int .i64 D, .int .i64 V], .int .i64 0]) (by simp [results, Tryz.results60, go_sem, u0, u1]) rfl ⟨rfl, Below.setCell (Below.setCell (hs0.trans (hbr.trans hb4)) (by simp) _) (by simp) _⟩
  · rw [dig_1] at hof
    have HOF := Lib.hid hof
    clear hof
    go_enter Tryz.func60, Tryz.ntmps60
    go_wp2_with fail
    rw [← HW.out]
    go_wp2_with (go_at_call 62; (with_reducible refine (Calls.since (by assumption) (HF.out _)).mono ?_); rintro e wr ⟨rfl, hbr⟩)
    have hne : w.heap.size ≠ w.heap.size + 1 := by omega
    have b0 := but_cell (Since.whole hbr wh0) (g := w.heap.size + 1) hne 0 (.int .i64 d) rfl
    have b1 := but_cell (Since.whole hbr wh0) (g := w.heap.size + 1) hne 1 (.int .i64 b) rfl
    clear hne c0_0 c0_1 c1_0 c1_1 f1_0 f1_1 hsr hsd
    obtain ⟨wq, hwq⟩ : ∃ wq, wq = wr.drew := ⟨_, rfl⟩
    have hrd : Since wr wr.drew := (Since.refl wr).drew
    refine wp_region_held_drew (S := fun W => But (w.heap.size + 1) wr W) (by kernel_rfl) (Since.but hrd _) (fun hHeld => ?_)
    rw [← hwq] at hHeld hrd ⊢
    have hq : Since wr wq := hrd
    clear hwq hrd
    refine wpAnyH_take (i := 0) (v := ?_) rfl (by kernel_rfl) (by kernel_rfl) (by kernel_rfl) (fun _ _ _ h => h) (Or.inl ⟨by rfl, ?_⟩) (by assumption) ?_
    rotate_left 1
    · (intro W hW; skip; go_simp; try with_reducible rfl)
    simp only [Act.put, List.getElem_toArray, List.getElem_cons_zero, List.setIfInBounds_toArray, List.set_cons_zero, List.set_cons_succ]
    refine wpAnyH_take (i := 2) (v := ?_) rfl (by kernel_rfl) (by kernel_rfl) (by kernel_rfl) (fun _ _ _ h => h) (Or.inl ⟨by rfl, ?_⟩) (by assumption) ?_
    rotate_left 1
    · (intro W hW; clear hW; go_simp; try with_reducible rfl)
    simp only [Act.put, List.getElem_toArray, List.getElem_cons_succ, List.getElem_cons_zero, List.setIfInBounds_toArray, List.set_cons_zero, List.set_cons_succ]
    refine wpAnyH_take (i := 3) (v := ?_) rfl (by kernel_rfl) (by kernel_rfl) (by kernel_rfl) (fun _ _ _ h => h) (Or.inl ⟨by rfl, ?_⟩) (by assumption) ?_
    rotate_left 1
    · (intro W hW; clear hW; go_simp; try with_reducible rfl)
    simp only [Act.put, List.getElem_toArray, List.getElem_cons_succ, List.getElem_cons_zero, List.setIfInBounds_toArray, List.set_cons_zero, List.set_cons_succ]
    refine wpAnyH_take (i := 4) (v := ?_) rfl (by kernel_rfl) (by kernel_rfl) (by kernel_rfl) (fun _ _ _ h => h) (Or.inl ⟨by rfl, ?_⟩) (by assumption) ?_
    rotate_left 1
    · (intro W hW; clear hW; go_simp; try with_reducible rfl)
    simp only [Act.put, List.getElem_toArray, List.getElem_cons_succ, List.getElem_cons_zero, List.setIfInBounds_toArray, List.set_cons_zero, List.set_cons_succ]
    refine wpAnyH_ready (rs := [1, 5]) (by kernel_rfl) (by simp) ?_
    refine AllReadyH.cons rfl (fun K hK => ?_) (AllReadyH.cons rfl (fun K hK => ?_) AllReadyH.nil)
    · go_simp
      refine (Calls.since hq (HH.out _)).mono ?_
      rintro e w2 ⟨rfl, hb2⟩
      go_wp2_with fail
      refine hK.out _ _ (Since.but hb2 _) (fun hHeld => ?_)
      clear hK K
      try simp only [Act.put, List.getElem_toArray, List.getElem_cons_succ, List.getElem_cons_zero, List.setIfInBounds_toArray, List.set_cons_zero, List.set_cons_succ]
      refine wpAnyH_ready (rs := [5]) (by kernel_rfl) (by simp) ?_
      refine AllReadyH.cons rfl (fun K hK => ?_) AllReadyH.nil
      go_simp
      have hcx := conv1 49 49 (by decide) w2
      refine hK.out _ _ (Since.but (Since.alloc hb2 _) _) (fun hHeld => ?_)
      clear hK K
      try simp only [Act.put, List.getElem_toArray, List.getElem_cons_succ, List.getElem_cons_zero, List.setIfInBounds_toArray, List.set_cons_zero, List.set_cons_succ]
      refine wpAnyH_ready (rs := [6]) (by kernel_rfl) (by simp) ?_
      refine AllReadyH.cons rfl (fun K hK => ?_) AllReadyH.nil
      go_simp
      skip
      refine hK.out _ _ (Since.but (Since.alloc hb2 _) _) (fun hHeld => ?_)
      clear hK K
      try simp only [Act.put, List.getElem_toArray, List.getElem_cons_succ, List.getElem_cons_zero, List.setIfInBounds_toArray, List.set_cons_zero, List.set_cons_succ]
      refine wpAnyH_take (i := 7) (v := ?_) rfl (by kernel_rfl) (by kernel_rfl) (by kernel_rfl) (fun _ _ _ h => h) (Or.inl ⟨by rfl, ?_⟩) (by assumption) ?_
      rotate_left 1
      · (intro W hW; clear hW; go_simp; try with_reducible rfl)
      simp only [Act.put, List.getElem_toArray, List.getElem_cons_succ, List.getElem_cons_zero, List.setIfInBounds_toArray, List.set_cons_zero, List.set_cons_succ]
      refine wpAnyH_ready (rs := [8]) (by kernel_rfl) (by simp) ?_
      refine AllReadyH.cons rfl (fun K hK => ?_) AllReadyH.nil
      go_simp
      refine (Calls.since (Since.alloc hb2 (.cells #[.int .u8 49] 5)) (HOF.out _)).mono ?_
      rintro e w4 ⟨rfl, hb4⟩
      have hw4 := Since.whole (hbr.trans hb4) wh1
      have x0 := hw4.cell 0
      have x1 := hw4.cell 1
      have y0 := hw4.frozen 0
      have y1 := hw4.frozen 1
      go_wp2_with fail
      refine hK.out _ _ (Since.but hb4 _) (fun hHeld => ?_)
      clear hK K
      try simp only [Act.put, List.getElem_toArray, List.getElem_cons_succ, List.getElem_cons_zero, List.setIfInBounds_toArray, List.set_cons_zero, List.set_cons_succ]
      refine wpAnyH_ready (rs := [9]) (by kernel_rfl) (by simp) ?_
      refine AllReadyH.cons rfl (fun K hK => ?_) AllReadyH.nil
      go_simp
      skip
      refine hK.out _ _ (But.set2 hb4 _ _ _ _) (fun hHeld => ?_)
      clear hK K
      try simp only [Act.put, List.getElem_toArray, List.getElem_cons_succ, List.getElem_cons_zero, List.setIfInBounds_toArray, List.set_cons_zero, List.set_cons_succ]
      refine wpAnyH_take (i := 10) (v := ?_) rfl (by kernel_rfl) (by kernel_rfl) (by kernel_rfl) (fun _ _ _ h => h) (Or.inl ⟨by rfl, ?_⟩) (by assumption) ?_
      rotate_left 1
      · (intro W hW; clear hW; go_simp; try with_reducible rfl)
      simp only [Act.put, List.getElem_toArray, List.getElem_cons_succ, List.getElem_cons_zero, List.setIfInBounds_toArray, List.set_cons_zero, List.set_cons_succ]
      refine wpAnyH_done (by kernel_rfl) ?_ _
      go_wp2_with fail
      have u := (hw4.set_ 0 (.int .i64 D)).set_ 1 (.int .i64 V)
      have u0 := u.cell 0
      have u1 := u.cell 1
      exact bodyPost_ret (v := .tuple #[.agg #[.int .i64 D, .int .i64 V], .int .i64 0]) (by simp [results, Tryz.results60, go_sem, u0, u1]) rfl ⟨rfl, Below.setCell (Below.setCell (hs0.trans (hbr.trans hb4)) (by simp) _) (by simp) _⟩
    · go_simp
      have hcx := conv1 49 49 (by decide) wq
      refine hK.out _ _ (Since.but (Since.alloc hq _) _) (fun hHeld => ?_)
      clear hK K
      try simp only [Act.put, List.getElem_toArray, List.getElem_cons_succ, List.getElem_cons_zero, List.setIfInBounds_toArray, List.set_cons_zero, List.set_cons_succ]
      refine wpAnyH_ready (rs := [1, 6]) (by kernel_rfl) (by simp) ?_
      refine AllReadyH.cons rfl (fun K hK => ?_) (AllReadyH.cons rfl (fun K hK => ?_) AllReadyH.nil)
      · go_simp
        refine (HH.out _).mono ?_
        rintro e w2 ⟨rfl, hb2'⟩
        have hb2 : Since wr w2 := Since.trans (hq.alloc _) hb2'
        have hw := (Whole.new wq 5 #[.int .u8 49]).below hb2' (by simp)
        have hcx := conv_at 49 49 (by decide) hw
        go_wp2_with fail
        refine hK.out _ _ (Since.but hb2 _) (fun hHeld => ?_)
        clear hK K
        try simp only [Act.put, List.getElem_toArray, List.getElem_cons_succ, List.getElem_cons_zero, List.setIfInBounds_toArray, List.set_cons_zero, List.set_cons_succ]
        refine wpAnyH_ready (rs := [6]) (by kernel_rfl) (by simp) ?_
        refine AllReadyH.cons rfl (fun K hK => ?_) AllReadyH.nil
        go_simp
        skip
        refine hK.out _ _ (Since.but hb2 _) (fun hHeld => ?_)
        clear hK K
        try simp only [Act.put, List.getElem_toArray, List.getElem_cons_succ, List.getElem_cons_zero, List.setIfInBounds_toArray, List.set_cons_zero, List.set_cons_succ]
        refine wpAnyH_take (i := 7) (v := ?_) rfl (by kernel_rfl) (by kernel_rfl) (by kernel_rfl) (fun _ _ _ h => h) (Or.inl ⟨by rfl, ?_⟩) (by assumption) ?_
        rotate_left 1
        · (intro W hW; clear hW; go_simp; try with_reducible rfl)
        simp only [Act.put, List.getElem_toArray, List.getElem_cons_succ, List.getElem_cons_zero, List.setIfInBounds_toArray, List.set_cons_zero, List.set_cons_succ]
        refine wpAnyH_ready (rs := [8]) (by kernel_rfl) (by simp) ?_
        refine AllReadyH.cons rfl (fun K hK => ?_) AllReadyH.nil
        go_simp
        refine (Calls.since hb2 (HOF.out _)).mono ?_
        rintro e w4 ⟨rfl, hb4⟩
        have hw4 := Since.whole (hbr.trans hb4) wh1
        have x0 := hw4.cell 0
        have x1 := hw4.cell 1
        have y0 := hw4.frozen 0
        have y1 := hw4.frozen 1
        go_wp2_with fail
        refine hK.out _ _ (Since.but hb4 _) (fun hHeld => ?_)
        clear hK K
        try simp only [Act.put, List.getElem_toArray, List.getElem_cons_succ, List.getElem_cons_zero, List.setIfInBounds_toArray, List.set_cons_zero, List.set_cons_succ]
        refine wpAnyH_ready (rs := [9]) (by kernel_rfl) (by simp) ?_
        refine AllReadyH.cons rfl (fun K hK => ?_) AllReadyH.nil
        go_simp
        skip
        refine hK.out _ _ (But.set2 hb4 _ _ _ _) (fun hHeld => ?_)
        clear hK K
        try simp only [Act.put, List.getElem_toArray, List.getElem_cons_succ, List.getElem_cons_zero, List.setIfInBounds_toArray, List.set_cons_zero, List.set_cons_succ]
        refine wpAnyH_take (i := 10) (v := ?_) rfl (by kernel_rfl) (by kernel_rfl) (by kernel_rfl) (fun _ _ _ h => h) (Or.inl ⟨by rfl, ?_⟩) (by assumption) ?_
        rotate_left 1
        · (intro W hW; clear hW; go_simp; try with_reducible rfl)
        simp only [Act.put, List.getElem_toArray, List.getElem_cons_succ, List.getElem_cons_zero, List.setIfInBounds_toArray, List.set_cons_zero, List.set_cons_succ]
        refine wpAnyH_done (by kernel_rfl) ?_ _
        go_wp2_with fail
        have u := (hw4.set_ 0 (.int .i64 D)).set_ 1 (.int .i64 V)
        have u0 := u.cell 0
        have u1 := u.cell 1
        exact bodyPost_ret (v := .tuple #[.agg #[.int .i64 D, .int .i64 V], .int .i64 0]) (by simp [results, Tryz.results60, go_sem, u0, u1]) rfl ⟨rfl, Below.setCell (Below.setCell (hs0.trans (hbr.trans hb4)) (by simp) _) (by simp) _⟩
      · go_simp
        skip
        refine hK.out _ _ (Since.but (hq.alloc _) _) (fun hHeld => ?_)
        clear hK K
        try simp only [Act.put, List.getElem_toArray, List.getElem_cons_succ, List.getElem_cons_zero, List.setIfInBounds_toArray, List.set_cons_zero, List.set_cons_succ]
        refine wpAnyH_ready (rs := [1]) (by kernel_rfl) (by simp) ?_
        refine AllReadyH.cons rfl (fun K hK => ?_) AllReadyH.nil
        go_simp
        refine (HH.out _).mono ?_
        rintro e w2 ⟨rfl, hb2'⟩
        have hb2 : Since wr w2 := Since.trans (hq.alloc _) hb2'
        have hw := (Whole.new wq 5 #[.int .u8 49]).below hb2' (by simp)
        have hcx := conv_at 49 49 (by decide) hw
        go_wp2_with fail
        refine hK.out _ _ (Since.but hb2 _) (fun hHeld => ?_)
        clear hK K
        try simp only [Act.put, List.getElem_toArray, List.getElem_cons_succ, List.getElem_cons_zero, List.setIfInBounds_toArray, List.set_cons_zero, List.set_cons_succ]
        refine wpAnyH_take (i := 7) (v := ?_) rfl (by kernel_rfl) (by kernel_rfl) (by kernel_rfl) (fun _ _ _ h => h) (Or.inl ⟨by rfl, ?_⟩) (by assumption) ?_
        rotate_left 1
        · (intro W hW; clear hW; go_simp; try with_reducible rfl)
        simp only [Act.put, List.getElem_toArray, List.getElem_cons_succ, List.getElem_cons_zero, List.setIfInBounds_toArray, List.set_cons_zero, List.set_cons_succ]
        refine wpAnyH_ready (rs := [8]) (by kernel_rfl) (by simp) ?_
        refine AllReadyH.cons rfl (fun K hK => ?_) AllReadyH.nil
        go_simp
        refine (Calls.since hb2 (HOF.out _)).mono ?_
        rintro e w4 ⟨rfl, hb4⟩
        have hw4 := Since.whole (hbr.trans hb4) wh1
        have x0 := hw4.cell 0
        have x1 := hw4.cell 1
        have y0 := hw4.frozen 0
        have y1 := hw4.frozen 1
        go_wp2_with fail
        refine hK.out _ _ (Since.but hb4 _) (fun hHeld => ?_)
        clear hK K
        try simp only [Act.put, List.getElem_toArray, List.getElem_cons_succ, List.getElem_cons_zero, List.setIfInBounds_toArray, List.set_cons_zero, List.set_cons_succ]
        refine wpAnyH_ready (rs := [9]) (by kernel_rfl) (by simp) ?_
        refine AllReadyH.cons rfl (fun K hK => ?_) AllReadyH.nil
        go_simp
        skip
        refine hK.out _ _ (But.set2 hb4 _ _ _ _) (fun hHeld => ?_)
        clear hK K
        try simp only [Act.put, List.getElem_toArray, List.getElem_cons_succ, List.getElem_cons_zero, List.setIfInBounds_toArray, List.set_cons_zero, List.set_cons_succ]
        refine wpAnyH_take (i := 10) (v := ?_) rfl (by kernel_rfl) (by kernel_rfl) (by kernel_rfl) (fun _ _ _ h => h) (Or.inl ⟨by rfl, ?_⟩) (by assumption) ?_
        rotate_left 1
        · (intro W hW; clear hW; go_simp; try with_reducible rfl)
        simp only [Act.put, List.getElem_toArray, List.getElem_cons_succ, List.getElem_cons_zero, List.setIfInBounds_toArray, List.set_cons_zero, List.set_cons_succ]
        refine wpAnyH_done (by kernel_rfl) ?_ _
        go_wp2_with fail
        have u := (hw4.set_ 0 (.int .i64 D)).set_ 1 (.int .i64 V)
        have u0 := u.cell 0
        have u1 := u.cell 1
        exact bodyPost_ret (v := .tuple #[.agg #[.int .i64 D, .int .i64 V], .int .i64 0]) (by simp [results, Tryz.results60, go_sem, u0, u1]) rfl ⟨rfl, Below.setCell (Below.setCell (hs0.trans (hbr.trans hb4)) (by simp) _) (by simp) _⟩
end Go.Proofs.YthfhpejpjiaikaaGreat
