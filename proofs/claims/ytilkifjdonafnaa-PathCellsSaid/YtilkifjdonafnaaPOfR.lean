/- gleberef03.Of: the path of a text of halves. -/
import Derived.Test.YtilkifjdonafnaaPHalvR
namespace Go.Proofs.Ytilkifjdonafnaa
open Go.RowKit
set_option maxRecDepth 100000 in
set_option maxHeartbeats 1600000 in
theorem refOf_any (s : ByteArray) (w : World) (hd : digs s.toList) (hl : s.size ≤ 32) : Calls Try.prog 40 #[.string s] w fun e w' => e = .returned (.agg #[.int .i64 ((s.size : Int)), .int .i64 (valT s.toList)]) ∧ Below w.heap.size w w' := by
  obtain ⟨w0, hw0⟩ : ∃ w0, w0 = (w.alloc (.cells #[.int .i64 0, .int .i64 0] 23)).alloc (.cells #[.int .i64 ((s.size : Int)), .int .i64 0] 23) := ⟨_, rfl⟩
  have hs0 : Since w w0 := by rw [hw0]; exact ((Since.refl w).alloc _).alloc _
  have wh0 : Whole w0 (w.heap.size) 23 #[.int .i64 0, .int .i64 0] := by rw [hw0]; exact (Whole.new w _ _).alloc _
  have wh1 : Whole w0 (w.heap.size + 1) 23 #[.int .i64 ((s.size : Int)), .int .i64 0] := by rw [hw0]; exact (Whole.new (w.alloc _) _ _).at_ (by simp)
  have HW := Lib.hid hw0
  have c0_0 := box_cell wh0 0 (.int .i64 0) rfl
  have c0_1 := box_cell wh0 1 (.int .i64 0) rfl
  have c1_0 := box_cell wh1 0 (.int .i64 ((s.size : Int))) rfl
  have c1_1 := box_cell wh1 1 (.int .i64 0) rfl
  have hsr := Since.refl w0
  have hsd := hsr.drew
  clear hw0
  clear c0_0 c0_1 c1_0 c1_1 hsr hsd
  have HD := Lib.hid hd
  clear hd
  go_enter Try.func40, Try.ntmps40
  go_wp2_with fail
  rw [← HW.out]
  go_loopw [4] (fun i wr => ∃ n : Nat, i = .int .i64 n ∧ n ≤ s.size ∧ Whole wr w.heap.size 23 #[.int .i64 0, .int .i64 0] ∧ Whole wr (w.heap.size + 1) 23 #[.int .i64 (s.size : Int), .int .i64 (valT (s.toList.take n))] ∧ Since w wr) (fun i _ => s.size - (intOf i).toNat)
  case atStart => exact ⟨0, rfl, Nat.zero_le _, wh0, wh1, hs0⟩
  case round =>
    clear wh0 wh1 hs0
    obtain ⟨n, rfl, hn, wr0, wg, hs⟩ := hrel
    by_cases hlt : n < s.size
    · obtain ⟨c, hc⟩ : ∃ c : Int, ((s[n]'hlt).toNat : Int) = c := ⟨_, rfl⟩
      have hmem : s[n]'hlt ∈ s.toList := by rw [← bytes_get s n hlt]; exact List.getElem_mem _
      have hcd := HD.out _ hmem
      rw [hc] at hcd
      have hi0 : (0 : Int) ≤ n := by omega
      have hi1 : (n : Int) < s.size := by omega
      have hi32 : (n : Int) < 32 := by omega
      have htk := bytes_take s n hlt
      have hdt : digs (s.toList.take n) := fun x hx => HD.out x (List.mem_of_mem_take hx)
      have hvb := valT_bd hdt
      rw [List.length_take, bytes_size, show min n s.size = n by omega] at hvb
      have hp32 := p2_32 (n := n) (by omega)
      obtain ⟨V, hV⟩ : ∃ V, V = valT (s.toList.take n) := ⟨_, rfl⟩
      have hV2 : valT (s.toList.take (n + 1)) = 2 * V + (c - 48) := by rw [htk, valT_snoc, hV, hc]
      rw [← hV] at hvb wg
      obtain ⟨U, hU⟩ : ∃ U, U = V * 2 := ⟨_, rfl⟩
      have eV : IntKind.i64.wrap (V * 2) = U := by rw [IntWalk.i64_in _ (by omega)]; omega
      have eU : IntKind.i64.wrap U = U := IntWalk.i64_in _ (by omega)
      have eU1 : IntKind.i64.wrap (U + 1) = U + 1 := IntWalk.i64_in _ (by omega)
      have EW0 := Lib.hid (show wrap64 U = U from IntWalk.wrap64_in _ ⟨by omega, by omega⟩)
      have EW1 := Lib.hid (show wrap64 (U + 1) = U + 1 from IntWalk.wrap64_in _ ⟨by omega, by omega⟩)
      have cg1 := box_cell wg 0 _ rfl
      have cg2 := box_cell wg 1 _ rfl
      have fg2 := box_free wg 1
      have hsr := Since.refl wr
      have hsd : Since wr wr.drew := hsr.drew
      have hbd : But (w.heap.size + 1) wr wr.drew := hsd.but _
      have HV2 := Lib.hid hV2
      have HU := Lib.hid hU
      clear hmem htk hdt hvb hp32 hV hV2 hU
      rcases (show c = 48 ∨ c = 49 by omega) with rfl | rfl
      all_goals
        clear hcd
        go_wp2_with fail
        obtain ⟨wq, hwq⟩ : ∃ wq, wq = wr.drew := ⟨_, rfl⟩
        refine wp_region_held_drew (S := fun W => But (w.heap.size + 1) wr W) (by kernel_rfl) hbd (fun hHeld => ?_)
        have hq : Since wr wq := by rw [hwq]; exact hsd
        rw [← hwq] at hHeld ⊢
        clear hwq hbd hsd
        refine wpAnyH_take (i := 0) (v := ?_) rfl (by kernel_rfl) (by kernel_rfl) (by kernel_rfl) (fun _ _ _ h => h) (Or.inl ⟨by rfl, ?_⟩) (by assumption) ?_
        rotate_left 1
        · (intro W hW; clear hW; go_simp; try with_reducible rfl)
        simp only [Act.put, List.getElem_toArray, List.getElem_cons_zero, List.setIfInBounds_toArray, List.set_cons_zero, List.set_cons_succ]
        refine wpAnyH_take (i := 3) (v := ?_) rfl (by kernel_rfl) (by kernel_rfl) (by kernel_rfl) (fun _ _ _ h => h) (Or.inl ⟨by rfl, ?_⟩) (by assumption) ?_
        rotate_left 1
        · (intro W hW; clear hW; go_simp; try with_reducible rfl)
        simp only [Act.put, List.getElem_toArray, List.getElem_cons_succ, List.getElem_cons_zero, List.setIfInBounds_toArray, List.set_cons_zero, List.set_cons_succ]
        refine wpAnyH_take (i := 4) (v := ?_) rfl (by kernel_rfl) (by kernel_rfl) (by kernel_rfl) (fun _ _ _ h => h) (Or.inl ⟨by rfl, ?_⟩) (by assumption) ?_
        rotate_left 1
        · (intro W hW; clear hW; go_simp; try with_reducible rfl)
        simp only [Act.put, List.getElem_toArray, List.getElem_cons_succ, List.getElem_cons_zero, List.setIfInBounds_toArray, List.set_cons_zero, List.set_cons_succ]
        refine wpAnyH_take (i := 5) (v := ?_) rfl (by kernel_rfl) (by kernel_rfl) (by kernel_rfl) (fun _ _ _ h => h) (Or.inl ⟨by rfl, ?_⟩) (by assumption) ?_
        rotate_left 1
        · (intro W hW; clear hW; go_simp; try with_reducible rfl)
        simp only [Act.put, List.getElem_toArray, List.getElem_cons_succ, List.getElem_cons_zero, List.setIfInBounds_toArray, List.set_cons_zero, List.set_cons_succ]
        refine wpAnyH_take (i := 6) (v := ?_) rfl (by kernel_rfl) (by kernel_rfl) (by kernel_rfl) (fun _ _ _ h => h) (Or.inl ⟨by rfl, ?_⟩) (by assumption) ?_
        rotate_left 1
        · (intro W hW; clear hW; go_simp; try with_reducible rfl)
        simp only [Act.put, List.getElem_toArray, List.getElem_cons_succ, List.getElem_cons_zero, List.setIfInBounds_toArray, List.set_cons_zero, List.set_cons_succ]
        refine wpAnyH_take (i := 7) (v := ?_) rfl (by kernel_rfl) (by kernel_rfl) (by kernel_rfl) (fun _ _ _ h => h) (Or.inl ⟨by rfl, ?_⟩) (by assumption) ?_
        rotate_left 1
        · (intro W hW; clear hW; go_simp; try with_reducible rfl)
        simp only [Act.put, List.getElem_toArray, List.getElem_cons_succ, List.getElem_cons_zero, List.setIfInBounds_toArray, List.set_cons_zero, List.set_cons_succ]
        refine wpAnyH_ready (rs := [1]) (by kernel_rfl) (by simp) ?_
        refine AllReadyH.cons rfl (fun K hK => ?_) AllReadyH.nil
        go_simp
        skip
        refine hK.out _ _ (hHeld) (fun hHeld => ?_)
        clear hK K
        try simp only [Act.put, List.getElem_toArray, List.getElem_cons_succ, List.getElem_cons_zero, List.setIfInBounds_toArray, List.set_cons_zero, List.set_cons_succ]
        refine wpAnyH_take (i := 2) (v := ?_) rfl (by kernel_rfl) (by kernel_rfl) (by kernel_rfl) (fun _ _ _ h => h) (Or.inl ⟨by rfl, ?_⟩) (by assumption) ?_
        rotate_left 1
        · (intro W hW; clear hW; go_simp; try with_reducible rfl)
        simp only [Act.put, List.getElem_toArray, List.getElem_cons_succ, List.getElem_cons_zero, List.setIfInBounds_toArray, List.set_cons_zero, List.set_cons_succ]
        refine wpAnyH_take (i := 8) (v := ?_) rfl (by kernel_rfl) (by kernel_rfl) (by kernel_rfl) (fun _ _ _ h => h) (Or.inl ⟨by rfl, ?_⟩) (by assumption) ?_
        rotate_left 1
        · (intro W hW; clear hW; go_simp; try with_reducible rfl)
        simp only [Act.put, List.getElem_toArray, List.getElem_cons_succ, List.getElem_cons_zero, List.setIfInBounds_toArray, List.set_cons_zero, List.set_cons_succ]
        refine wpAnyH_take (i := 9) (v := ?_) rfl (by kernel_rfl) (by kernel_rfl) (by kernel_rfl) (fun _ _ _ h => h) (Or.inl ⟨by rfl, ?_⟩) (by assumption) ?_
        rotate_left 1
        · (intro W hW; clear hW; go_simp; try with_reducible rfl)
        simp only [Act.put, List.getElem_toArray, List.getElem_cons_succ, List.getElem_cons_zero, List.setIfInBounds_toArray, List.set_cons_zero, List.set_cons_succ]
        refine wpAnyH_ready (rs := [10]) (by kernel_rfl) (by simp) ?_
        refine AllReadyH.cons rfl (fun K hK => ?_) AllReadyH.nil
        go_simp
        skip
        refine hK.out _ _ (But.set1 hq _ _) (fun hHeld => ?_)
        clear hK K
        try simp only [Act.put, List.getElem_toArray, List.getElem_cons_succ, List.getElem_cons_zero, List.setIfInBounds_toArray, List.set_cons_zero, List.set_cons_succ]
        refine wpAnyH_done (by kernel_rfl) ?_ _
        go_wp2
        go_roundw
        case rel =>
          refine ⟨n + 1, by go_num, by omega, ?_, ?_, ?_⟩
          · exact (Since.whole hq wr0).far (p := ⟨w.heap.size + 1, 1, none⟩) (by simp; try omega) _
          · rw [HV2.out]
            have hu := HU.out
            first
              | (rw [show (2 * V + (48 - 48) : Int) = wrap64 (U + 0) by rw [Int.add_zero]; exact (show (2 * V + (48 - 48) : Int) = U by omega).trans EW0.out.symm]; exact (Since.whole hq wg).set_ 1 _)
              | (rw [show (2 * V + (49 - 48) : Int) = wrap64 (U + 1) from (show (2 * V + (49 - 48) : Int) = U + 1 by omega).trans EW1.out.symm]; exact (Since.whole hq wg).set_ 1 _)
          · exact (hs.trans hq).setCell (p := ⟨w.heap.size + 1, 1, none⟩) (by simp; try omega) _
        case measure => simp [intOf]; omega
    · obtain rfl : n = s.size := by omega
      have htk : s.toList.take s.size = s.toList := by rw [← bytes_size]; exact List.take_length
      rw [htk] at wg
      have t1 := wg.cell 0
      have t2 := wg.cell 1
      have r1 := wr0.frozen 0
      have r2 := wr0.frozen 1
      have r3 := wr0.cell 0
      have r4 := wr0.cell 1
      have w1' := (wr0.set_ 0 (.int .i64 (s.size : Int))).set_ 1 (.int .i64 (valT s.toList))
      have r5 := w1'.cell 0
      have r6 := w1'.cell 1
      clear w1' htk
      go_wp2
      exact bodyPost_ret (v := .agg #[.int .i64 ((s.size : Int)), .int .i64 (valT s.toList)]) (by simp [results, Try.results40, go_sem, r5, r6]) rfl ⟨rfl, (hs.setCell (p := ⟨w.heap.size, 0, none⟩) (Nat.le_refl _) _).setCell (p := ⟨w.heap.size, 1, none⟩) (Nat.le_refl _) _⟩
end Go.Proofs.Ytilkifjdonafnaa
