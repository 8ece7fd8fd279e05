/- gleberef09.Join. -/
import Derived.Test.YtbgfjkgpekkciaaDoorK26
import Derived.Test.YtbgfjkgpekkciaaDoorK31
namespace Go.Proofs.YtbgfjkgpekkciaaDoor
open Go.RowKit
set_option linter.unusedVariables false
set_option linter.unusedSimpArgs false
theorem seqs_info : (Tryd.prog.info? 64).map (·.size) = some 8 := by kernel_rfl
theorem anss_info : (Tryd.prog.info? 65).map (·.size) = some 32 := by kernel_rfl
theorem built_tab8 (r0 r1 r2 r3 r4 r5 r6 r7 : SR) : Tryd.prog.built 67 [(0, .agg (scells [r0, r1, r2, r3, r4, r5, r6, r7])), (1, .agg (acells [r0, r1, r2, r3, r4, r5, r6, r7]))] = some (dcells [r0, r1, r2, r3, r4, r5, r6, r7]) := by kernel_rfl
theorem built_tab {L : STab} (h : L.length = 8) : Tryd.prog.built 67 [(0, .agg (scells L)), (1, .agg (acells L))] = some (dcells L) := by
  match L, h with
  | [r0, r1, r2, r3, r4, r5, r6, r7], _ => exact built_tab8 ..
section
variable {w : World} {g u : Nat} {L M : STab}
theorem load_seqs (h : DTab w g L) : ∀ W, Since w W → (Instr.loadAt 64 (.pointer (some ⟨g, 0, none⟩))).run Tryd.prog W = .ok (.agg (scells L)) W := fun W hW =>
  loadAt_cells 64 g 0 8 _ _ _ _ _ (hW.whole h.2) (show _ = L.map (fun r => Value.int .i64 r.seq) by rw [List.drop_zero, List.take_append_of_le_length (by rw [List.length_map, h.1]; decide), List.take_of_length_le (by rw [List.length_map, h.1]; decide)]) (by rw [List.length_map, h.1]) Tryd.underlying64 rfl seqs_info
theorem load_anss (h : DTab w g L) : ∀ W, Since w W → (Instr.loadAt 65 (.pointer (some ⟨g, 8, none⟩))).run Tryd.prog W = .ok (.agg (acells L)) W := fun W hW =>
  loadAt_cells 65 g 8 32 _ _ _ _ _ (hW.whole h.2) (show _ = L.flatMap encSA by rw [List.drop_append_of_le_length (by rw [List.length_map, h.1]; decide), List.drop_of_length_le (by rw [List.length_map, h.1]; decide), List.nil_append, List.take_of_length_le (by rw [flatSA_len, h.1]; decide)]) (by rw [flatSA_len, h.1]) Tryd.underlying65 rfl anss_info
set_option maxHeartbeats 1600000 in
set_option maxRecDepth 100000 in
theorem refJoin_any (h : DTab w g L) (h' : DTab w u M) : Calls Tryd.prog 14 #[.pointer (some ⟨g, 0, none⟩), .pointer (some ⟨u, 0, none⟩)] w fun e w' => e = .returned (.pointer (some ⟨w.heap.size, 0, none⟩)) ∧ DTab w' w.heap.size (joinT L M) ∧ Since w w' := by
  obtain ⟨J, hJ⟩ : ∃ J, J = w.heap.size := ⟨_, rfl⟩
  have hJg : w.heap.size ≤ J := by omega
  have h8 := h.1
  have h8' := h'.1
  rw [← hJ]
  have HJ := Lib.hid hJ
  clear hJ
  go_enter Tryd.func14, Tryd.ntmps14
  go_wp2_with fail
  obtain ⟨wq, hwq⟩ : ∃ wq, wq = w.drew := ⟨_, rfl⟩
  have hsq : Since w wq := by rw [hwq]; exact (Since.refl w).drew
  have hqs : wq.heap.size = J := by rw [hwq, HJ.out]; rfl
  refine wp_region_held_drew (S := fun W => Since w W) (by kernel_rfl) (Since.refl w).drew (fun hHeld => ?_)
  rw [← hwq] at hHeld ⊢
  clear hwq
  have hs := load_seqs h
  have ha := load_anss h
  have hb := built_tab h.1
  refine wpAnyH_take (i := 0) (v := ?_) rfl (by kernel_rfl) (by kernel_rfl) (by kernel_rfl) (fun _ _ _ h => h) (Or.inl ⟨by rfl, ?_⟩) (by assumption) ?_
  rotate_left 1
  · (intro W hW; clear hW; go_simp; try with_reducible rfl)
  simp only [Act.put, List.getElem_toArray, List.getElem_cons_zero, List.setIfInBounds_toArray, List.set_cons_zero, List.set_cons_succ]
  refine wpAnyH_take (i := 1) (v := ?_) rfl (by kernel_rfl) (by kernel_rfl) (by kernel_rfl) (fun _ _ _ h => h) (Or.inl ⟨by rfl, ?_⟩) (by assumption) ?_
  rotate_left 1
  · (intro W hW; clear hW; go_simp; try with_reducible rfl)
  simp only [Act.put, List.getElem_toArray, List.getElem_cons_succ, List.getElem_cons_zero, List.setIfInBounds_toArray, List.set_cons_zero, List.set_cons_succ]
  refine wpAnyH_take (i := 2) (v := ?_) rfl (by kernel_rfl) (by kernel_rfl) (by kernel_rfl) (fun _ _ _ h => h) (Or.inl ⟨by rfl, ?_⟩) (by assumption) ?_
  rotate_left 1
  · (intro W hW; clear hW; go_simp; try with_reducible rfl)
  simp only [Act.put, List.getElem_toArray, List.getElem_cons_succ, List.getElem_cons_zero, List.setIfInBounds_toArray, List.set_cons_zero, List.set_cons_succ]
  refine wpAnyH_take (i := 3) (v := ?_) rfl (by kernel_rfl) (by kernel_rfl) (by kernel_rfl) (fun _ _ _ h => h) (Or.inl ⟨by rfl, ?_⟩) (by assumption) ?_
  rotate_left 1
  · (intro W hW; refine exec_load_is (p := .pointer (some ⟨g, 0, none⟩)) (v := .agg (scells L)) _ (.tmp 9) ?_ ?_ (hs W hW) <;> rfl)
  simp only [Act.put, List.getElem_toArray, List.getElem_cons_succ, List.getElem_cons_zero, List.setIfInBounds_toArray, List.set_cons_zero, List.set_cons_succ]
  refine wpAnyH_take (i := 4) (v := ?_) rfl (by kernel_rfl) (by kernel_rfl) (by kernel_rfl) (fun _ _ _ h => h) (Or.inl ⟨by rfl, ?_⟩) (by assumption) ?_
  rotate_left 1
  · (intro W hW; clear hW; go_simp; try with_reducible rfl)
  simp only [Act.put, List.getElem_toArray, List.getElem_cons_succ, List.getElem_cons_zero, List.setIfInBounds_toArray, List.set_cons_zero, List.set_cons_succ]
  refine wpAnyH_take (i := 5) (v := ?_) rfl (by kernel_rfl) (by kernel_rfl) (by kernel_rfl) (fun _ _ _ h => h) (Or.inl ⟨by rfl, ?_⟩) (by assumption) ?_
  rotate_left 1
  · (intro W hW; clear hW; go_simp; try with_reducible rfl)
  simp only [Act.put, List.getElem_toArray, List.getElem_cons_succ, List.getElem_cons_zero, List.setIfInBounds_toArray, List.set_cons_zero, List.set_cons_succ]
  refine wpAnyH_take (i := 6) (v := ?_) rfl (by kernel_rfl) (by kernel_rfl) (by kernel_rfl) (fun _ _ _ h => h) (Or.inl ⟨by rfl, ?_⟩) (by assumption) ?_
  rotate_left 1
  · (intro W hW; clear hW; go_simp; try with_reducible rfl)
  simp only [Act.put, List.getElem_toArray, List.getElem_cons_succ, List.getElem_cons_zero, List.setIfInBounds_toArray, List.set_cons_zero, List.set_cons_succ]
  refine wpAnyH_take (i := 7) (v := ?_) rfl (by kernel_rfl) (by kernel_rfl) (by kernel_rfl) (fun _ _ _ h => h) (Or.inl ⟨by rfl, ?_⟩) (by assumption) ?_
  rotate_left 1
  · (intro W hW; refine exec_load_is (p := .pointer (some ⟨g, 8, none⟩)) (v := .agg (acells L)) _ (.tmp 13) ?_ ?_ (ha W hW) <;> rfl)
  simp only [Act.put, List.getElem_toArray, List.getElem_cons_succ, List.getElem_cons_zero, List.setIfInBounds_toArray, List.set_cons_zero, List.set_cons_succ]
  refine wpAnyH_take (i := 8) (v := ?_) rfl (by kernel_rfl) (by kernel_rfl) (by kernel_rfl) (fun _ _ _ h => h) (Or.inl ⟨by rfl, ?_⟩) (by assumption) ?_
  rotate_left 1
  · (intro W hW; refine exec_build_is (v := .agg (dcells L)) (vs := #[(0, .agg (scells L)), (1, .agg (acells L))]) _ #[(0, .tmp 10), (1, .tmp 14)] ?_ ?_ (run_build W _ _ _ hb); exact rfl; go_simp)
  simp only [Act.put, List.getElem_toArray, List.getElem_cons_succ, List.getElem_cons_zero, List.setIfInBounds_toArray, List.set_cons_zero, List.set_cons_succ]
  refine wpAnyH_ready (rs := [9]) (by kernel_rfl) (by simp) ?_
  refine AllReadyH.cons rfl (fun K hK => ?_) AllReadyH.nil
  go_simp
  skip
  refine hK.out _ _ ((hHeld.alloc _)) (fun hHeld => ?_)
  clear hK K
  try simp only [Act.put, List.getElem_toArray, List.getElem_cons_succ, List.getElem_cons_zero, List.setIfInBounds_toArray, List.set_cons_zero, List.set_cons_succ]
  refine wpAnyH_take (i := 10) (v := ?_) rfl (by kernel_rfl) (by kernel_rfl) (by kernel_rfl) (fun _ _ _ h => h) (Or.inl ⟨by rfl, ?_⟩) (by assumption) ?_
  rotate_left 1
  · (intro W hW; clear hW; go_simp; try with_reducible rfl)
  simp only [Act.put, List.getElem_toArray, List.getElem_cons_succ, List.getElem_cons_zero, List.setIfInBounds_toArray, List.set_cons_zero, List.set_cons_succ]
  refine wpAnyH_done (by kernel_rfl) ?_ _
  obtain ⟨w1, hw1⟩ : ∃ w1, w1 = wq.alloc (.cells (dcells L) 67) := ⟨_, rfl⟩
  have hP1 : DTab w1 J L := ⟨h8, by rw [hw1, ← hqs]; exact Whole.new wq _ _⟩
  have hs1 : Since w w1 := by rw [hw1]; exact hsq.alloc _
  rw [← hw1]
  clear hw1 hs ha hb hHeld hqs hsq
  go_wp2
  go_loopw [6] (fun i wr => ∃ k : Nat, i = .int .i64 (k : Int) ∧ k ≤ 8 ∧ DTab wr J (joinK L M k) ∧ Since w wr) (fun i _ => 8 - (intOf i).toNat)
  case atStart => exact ⟨0, rfl, Nat.zero_le _, by rw [joinK_zero]; exact hP1, hs1⟩
  case round =>
    obtain ⟨k, rfl, hk, hP, hS⟩ := hrel
    clear hP1 hs1
    by_cases hlt : k < 8
    · obtain ⟨a, ha⟩ : ∃ a, L[k]? = some a := ⟨_, List.getElem?_eq_getElem (by rw [h8]; exact hlt)⟩
      obtain ⟨b, hb⟩ : ∃ b, M[k]? = some b := ⟨_, List.getElem?_eq_getElem (by rw [h8']; exact hlt)⟩
      have HX := Lib.hid (joinK_next h8 h8' hlt ha hb)
      have hat := (joinK_at h8 h8' hlt).trans ha
      have hN8 := joinK_len h8 h8' (Nat.le_of_lt hlt)
      have hjl : k < (joinK L M k).length := by rw [hN8]; exact hlt
      have hklt : (k : Int) < 8 := by omega
      obtain ⟨er, fd, val, ver, seq⟩ := b
      obtain ⟨er', fd', val', ver', seq'⟩ := a
      have hu := h'.since hS
      have huJ : ¬ u = J := by have := h'.lt; have := HJ.out; omega
      clear ha h8 h8'
      generalize joinK L M k = N at hP HX hat hjl hN8
      have cu := hu.seq hb wr (Since.refl _)
      have cj := hP.seq hat wr (Since.refl _)
      dsimp only at cu cj
      go_wp2_with fail
      go_quiet (fail)
      obtain ⟨w3, hw3⟩ : ∃ w3, w3 = wr.drewN nq := ⟨_, rfl⟩
      have hs3 : Since wr w3 := by rw [hw3]; exact (Since.refl wr).drewN _
      rw [← hw3]
      clear hw3 cu cj
      by_cases hlt2 : seq' < seq
      · have hX : later ⟨er', fd', val', ver', seq'⟩ ⟨er, fd, val, ver, seq⟩ = ⟨er, fd, val, ver, seq⟩ := if_pos hlt2
        rw [hX] at HX
        clear hX
        go_wp2_with fail
        obtain ⟨wq, hwq⟩ : ∃ wq, wq = w3.drew := ⟨_, rfl⟩
        have hsq : Since wr wq := by rw [hwq]; exact hs3.drew
        refine wp_region_held_drew (S := fun W => Off (fun b => b = J) wr W) (by kernel_rfl) (hs3.drew.off _) (fun hHeld => ?_)
        rw [← hwq] at hHeld ⊢
        clear hwq
        have us := off_cell (F := fun b => b = J) hu.2 huJ k _ (dcells_seq hb)
        dsimp only at us
        have hPq := hP.since hsq
        have es := hPq.seq hat wq (Since.refl _)
        have fs := hPq.frozen k wq (Since.refl _)
        refine wpAnyH_take (i := 0) (v := ?_) rfl (by kernel_rfl) (by kernel_rfl) (by kernel_rfl) (fun _ _ _ h => h) (Or.inl ⟨by rfl, ?_⟩) (by assumption) ?_
        rotate_left 1
        · (intro W hW; clear hW; go_simp; try with_reducible rfl)
        simp only [Act.put, List.getElem_toArray, List.getElem_cons_zero, List.setIfInBounds_toArray, List.set_cons_zero, List.set_cons_succ]
        refine wpAnyH_take (i := 1) (v := ?_) rfl (by kernel_rfl) (by kernel_rfl) (by kernel_rfl) (fun _ _ _ h => h) (Or.inl ⟨by rfl, ?_⟩) (by assumption) ?_
        rotate_left 1
        · (intro W hW; clear hW; go_simp; try with_reducible rfl)
        simp only [Act.put, List.getElem_toArray, List.getElem_cons_succ, List.getElem_cons_zero, List.setIfInBounds_toArray, List.set_cons_zero, List.set_cons_succ]
        refine wpAnyH_take (i := 2) (v := ?_) rfl (by kernel_rfl) (by kernel_rfl) (by kernel_rfl) (fun _ _ _ h => h) (Or.inl ⟨by rfl, ?_⟩) (by assumption) ?_
        rotate_left 1
        · (intro W hW; clear hW; go_simp; try with_reducible rfl)
        simp only [Act.put, List.getElem_toArray, List.getElem_cons_succ, List.getElem_cons_zero, List.setIfInBounds_toArray, List.set_cons_zero, List.set_cons_succ]
        refine wpAnyH_take (i := 3) (v := ?_) rfl (by kernel_rfl) (by kernel_rfl) (by kernel_rfl) (fun _ _ _ h => h) (Or.inl ⟨by rfl, ?_⟩) (by assumption) ?_
        rotate_left 1
        · (intro W hW; clear hW; go_simp; try with_reducible rfl)
        simp only [Act.put, List.getElem_toArray, List.getElem_cons_succ, List.getElem_cons_zero, List.setIfInBounds_toArray, List.set_cons_zero, List.set_cons_succ]
        refine wpAnyH_take (i := 4) (v := ?_) rfl (by kernel_rfl) (by kernel_rfl) (by kernel_rfl) (fun _ _ _ h => h) (Or.inl ⟨by rfl, ?_⟩) (by assumption) ?_
        rotate_left 1
        · (intro W hW; clear hW; go_simp; try with_reducible rfl)
        simp only [Act.put, List.getElem_toArray, List.getElem_cons_succ, List.getElem_cons_zero, List.setIfInBounds_toArray, List.set_cons_zero, List.set_cons_succ]
        refine wpAnyH_take (i := 5) (v := ?_) rfl (by kernel_rfl) (by kernel_rfl) (by kernel_rfl) (fun _ _ _ h => h) (Or.inl ⟨by rfl, ?_⟩) (by assumption) ?_
        rotate_left 1
        · (intro W hW; clear hW; go_simp; try with_reducible rfl)
        simp only [Act.put, List.getElem_toArray, List.getElem_cons_succ, List.getElem_cons_zero, List.setIfInBounds_toArray, List.set_cons_zero, List.set_cons_succ]
        refine wpAnyH_take (i := 6) (v := ?_) rfl (by kernel_rfl) (by kernel_rfl) (by kernel_rfl) (fun _ _ _ h => h) (Or.inl ⟨by rfl, ?_⟩) (by assumption) ?_
        rotate_left 1
        · (intro W hW; clear hW; go_simp; try with_reducible rfl)
        simp only [Act.put, List.getElem_toArray, List.getElem_cons_succ, List.getElem_cons_zero, List.setIfInBounds_toArray, List.set_cons_zero, List.set_cons_succ]
        refine wpAnyH_take (i := 7) (v := ?_) rfl (by kernel_rfl) (by kernel_rfl) (by kernel_rfl) (fun _ _ _ h => h) (Or.inl ⟨by rfl, ?_⟩) (by assumption) ?_
        rotate_left 1
        · (intro W hW; skip; go_simp; try with_reducible rfl)
        simp only [Act.put, List.getElem_toArray, List.getElem_cons_succ, List.getElem_cons_zero, List.setIfInBounds_toArray, List.set_cons_zero, List.set_cons_succ]
        refine wpAnyH_take (i := 8) (v := ?_) rfl (by kernel_rfl) (by kernel_rfl) (by kernel_rfl) (fun _ _ _ h => h) (Or.inl ⟨by rfl, ?_⟩) (by assumption) ?_
        rotate_left 1
        · (intro W hW; clear hW; go_simp; try with_reducible rfl)
        simp only [Act.put, List.getElem_toArray, List.getElem_cons_succ, List.getElem_cons_zero, List.setIfInBounds_toArray, List.set_cons_zero, List.set_cons_succ]
        refine wpAnyH_take (i := 9) (v := ?_) rfl (by kernel_rfl) (by kernel_rfl) (by kernel_rfl) (fun _ _ _ h => h) (Or.inl ⟨by rfl, ?_⟩) (by assumption) ?_
        rotate_left 1
        · (intro W hW; clear hW; go_simp; try with_reducible rfl)
        simp only [Act.put, List.getElem_toArray, List.getElem_cons_succ, List.getElem_cons_zero, List.setIfInBounds_toArray, List.set_cons_zero, List.set_cons_succ]
        refine wpAnyH_take (i := 10) (v := ?_) rfl (by kernel_rfl) (by kernel_rfl) (by kernel_rfl) (fun _ _ _ h => h) (Or.inl ⟨by rfl, ?_⟩) (by assumption) ?_
        rotate_left 1
        · (intro W hW; clear hW; go_simp; try with_reducible rfl)
        simp only [Act.put, List.getElem_toArray, List.getElem_cons_succ, List.getElem_cons_zero, List.setIfInBounds_toArray, List.set_cons_zero, List.set_cons_succ]
        refine wpAnyH_ready (rs := [11]) (by kernel_rfl) (by simp) ?_
        refine AllReadyH.cons rfl (fun K hK => ?_) AllReadyH.nil
        go_simp
        skip
        refine hK.out _ _ (hHeld.setCell (p := ⟨J, k, none⟩) (.inr rfl) _) (fun hHeld => ?_)
        clear hK K
        try simp only [Act.put, List.getElem_toArray, List.getElem_cons_succ, List.getElem_cons_zero, List.setIfInBounds_toArray, List.set_cons_zero, List.set_cons_succ]
        refine wpAnyH_done (by kernel_rfl) ?_ _
        go_wp2_with fail
        obtain ⟨w4, hw4⟩ : ∃ w4, w4 = wq.setCell ⟨J, k, none⟩ (.int .i64 seq) := ⟨_, rfl⟩
        have wd : Whole w4 J 67 ((dcells N).setIfInBounds k (.int .i64 seq)) := by rw [hw4]; exact hPq.2.set_ k _
        have hS4 : Since w w4 := by rw [hw4]; exact (hS.trans hsq).setCell (p := ⟨J, k, none⟩) hJg _
        rw [← hw4] at hHeld ⊢
        clear hw4 es fs us
        obtain ⟨wz, hwz⟩ : ∃ wz, wz = w4.drew := ⟨_, rfl⟩
        have hsz : Since w4 wz := by rw [hwz]; exact (Since.refl w4).drew
        have hH4 := hHeld
        clear hHeld
        refine wp_region_held_drew (S := fun W => Off (fun b => b = J) wr W) (by kernel_rfl) (hH4.since (Since.refl w4).drew) (fun hHeld => ?_)
        rw [← hwz] at hHeld ⊢
        clear hwz
        have d0 := off_cell (F := fun b => b = J) hu.2 huJ (8 + k * 4) (.int .i64 er) (by have := dcells_ans (j := 0) hu.1 hb (.int .i64 er) rfl; rwa [← Nat.add_assoc] at this)
        have d1 := off_cell (F := fun b => b = J) hu.2 huJ (8 + k * 4 + 1) (.bool fd) (by have := dcells_ans (j := 1) hu.1 hb (.bool fd) rfl; rwa [← Nat.add_assoc] at this)
        have d2 := off_cell (F := fun b => b = J) hu.2 huJ (8 + k * 4 + 2) (.string val) (by have := dcells_ans (j := 2) hu.1 hb (.string val) rfl; rwa [← Nat.add_assoc] at this)
        have d3 := off_cell (F := fun b => b = J) hu.2 huJ (8 + k * 4 + 3) (.int .i64 ver) (by have := dcells_ans (j := 3) hu.1 hb (.int .i64 ver) rfl; rwa [← Nat.add_assoc] at this)
        have wd2 := hsz.whole wd
        have e0 : wz.cell? ⟨J, 8 + k * 4, none⟩ = some (.int .i64 er') := by
          rw [wd2.cell, Array.getElem?_setIfInBounds_ne (by omega)]
          have := dcells_ans (j := 0) hP.1 hat (.int .i64 er') rfl
          rwa [← Nat.add_assoc] at this
        have e1 : wz.cell? ⟨J, 8 + k * 4 + 1, none⟩ = some (.bool fd') := by
          rw [wd2.cell, Array.getElem?_setIfInBounds_ne (by omega)]
          have := dcells_ans (j := 1) hP.1 hat (.bool fd') rfl
          rwa [← Nat.add_assoc] at this
        have e2 : wz.cell? ⟨J, 8 + k * 4 + 2, none⟩ = some (.string val') := by
          rw [wd2.cell, Array.getElem?_setIfInBounds_ne (by omega)]
          have := dcells_ans (j := 2) hP.1 hat (.string val') rfl
          rwa [← Nat.add_assoc] at this
        have e3 : wz.cell? ⟨J, 8 + k * 4 + 3, none⟩ = some (.int .i64 ver') := by
          rw [wd2.cell, Array.getElem?_setIfInBounds_ne (by omega)]
          have := dcells_ans (j := 3) hP.1 hat (.int .i64 ver') rfl
          rwa [← Nat.add_assoc] at this
        have f0 := wd2.frozen (8 + k * 4)
        have f1 := wd2.frozen (8 + k * 4 + 1)
        have f2 := wd2.frozen (8 + k * 4 + 2)
        have f3 := wd2.frozen (8 + k * 4 + 3)
        refine wpAnyH_take (i := 0) (v := ?_) rfl (by kernel_rfl) (by kernel_rfl) (by kernel_rfl) (fun _ _ _ h => h) (Or.inl ⟨by rfl, ?_⟩) (by assumption) ?_
        rotate_left 1
        · (intro W hW; clear hW; go_simp; try with_reducible rfl)
        simp only [Act.put, List.getElem_toArray, List.getElem_cons_zero, List.setIfInBounds_toArray, List.set_cons_zero, List.set_cons_succ]
        refine wpAnyH_take (i := 1) (v := ?_) rfl (by kernel_rfl) (by kernel_rfl) (by kernel_rfl) (fun _ _ _ h => h) (Or.inl ⟨by rfl, ?_⟩) (by assumption) ?_
        rotate_left 1
        · (intro W hW; clear hW; go_simp; try with_reducible rfl)
        simp only [Act.put, List.getElem_toArray, List.getElem_cons_succ, List.getElem_cons_zero, List.setIfInBounds_toArray, List.set_cons_zero, List.set_cons_succ]
        refine wpAnyH_take (i := 2) (v := ?_) rfl (by kernel_rfl) (by kernel_rfl) (by kernel_rfl) (fun _ _ _ h => h) (Or.inl ⟨by rfl, ?_⟩) (by assumption) ?_
        rotate_left 1
        · (intro W hW; clear hW; go_simp; try with_reducible rfl)
        simp only [Act.put, List.getElem_toArray, List.getElem_cons_succ, List.getElem_cons_zero, List.setIfInBounds_toArray, List.set_cons_zero, List.set_cons_succ]
        refine wpAnyH_take (i := 3) (v := ?_) rfl (by kernel_rfl) (by kernel_rfl) (by kernel_rfl) (fun _ _ _ h => h) (Or.inl ⟨by rfl, ?_⟩) (by assumption) ?_
        rotate_left 1
        · (intro W hW; clear hW; go_simp; try with_reducible rfl)
        simp only [Act.put, List.getElem_toArray, List.getElem_cons_succ, List.getElem_cons_zero, List.setIfInBounds_toArray, List.set_cons_zero, List.set_cons_succ]
        refine wpAnyH_take (i := 4) (v := ?_) rfl (by kernel_rfl) (by kernel_rfl) (by kernel_rfl) (fun _ _ _ h => h) (Or.inl ⟨by rfl, ?_⟩) (by assumption) ?_
        rotate_left 1
        · (intro W hW; clear hW; go_simp; try with_reducible rfl)
        simp only [Act.put, List.getElem_toArray, List.getElem_cons_succ, List.getElem_cons_zero, List.setIfInBounds_toArray, List.set_cons_zero, List.set_cons_succ]
        refine wpAnyH_take (i := 5) (v := ?_) rfl (by kernel_rfl) (by kernel_rfl) (by kernel_rfl) (fun _ _ _ h => h) (Or.inl ⟨by rfl, ?_⟩) (by assumption) ?_
        rotate_left 1
        · (intro W hW; clear hW; go_simp; try with_reducible rfl)
        simp only [Act.put, List.getElem_toArray, List.getElem_cons_succ, List.getElem_cons_zero, List.setIfInBounds_toArray, List.set_cons_zero, List.set_cons_succ]
        refine wpAnyH_take (i := 6) (v := ?_) rfl (by kernel_rfl) (by kernel_rfl) (by kernel_rfl) (fun _ _ _ h => h) (Or.inl ⟨by rfl, ?_⟩) (by assumption) ?_
        rotate_left 1
        · (intro W hW; clear hW; go_simp; try with_reducible rfl)
        simp only [Act.put, List.getElem_toArray, List.getElem_cons_succ, List.getElem_cons_zero, List.setIfInBounds_toArray, List.set_cons_zero, List.set_cons_succ]
        refine wpAnyH_take (i := 7) (v := ?_) rfl (by kernel_rfl) (by kernel_rfl) (by kernel_rfl) (fun _ _ _ h => h) (Or.inl ⟨by rfl, ?_⟩) (by assumption) ?_
        rotate_left 1
        · (intro W hW; skip; go_simp; try with_reducible rfl)
        simp only [Act.put, List.getElem_toArray, List.getElem_cons_succ, List.getElem_cons_zero, List.setIfInBounds_toArray, List.set_cons_zero, List.set_cons_succ]
        refine wpAnyH_take (i := 8) (v := ?_) rfl (by kernel_rfl) (by kernel_rfl) (by kernel_rfl) (fun _ _ _ h => h) (Or.inl ⟨by rfl, ?_⟩) (by assumption) ?_
        rotate_left 1
        · (intro W hW; clear hW; go_simp; try with_reducible rfl)
        simp only [Act.put, List.getElem_toArray, List.getElem_cons_succ, List.getElem_cons_zero, List.setIfInBounds_toArray, List.set_cons_zero, List.set_cons_succ]
        refine wpAnyH_take (i := 9) (v := ?_) rfl (by kernel_rfl) (by kernel_rfl) (by kernel_rfl) (fun _ _ _ h => h) (Or.inl ⟨by rfl, ?_⟩) (by assumption) ?_
        rotate_left 1
        · (intro W hW; clear hW; go_simp; try with_reducible rfl)
        simp only [Act.put, List.getElem_toArray, List.getElem_cons_succ, List.getElem_cons_zero, List.setIfInBounds_toArray, List.set_cons_zero, List.set_cons_succ]
        refine wpAnyH_take (i := 10) (v := ?_) rfl (by kernel_rfl) (by kernel_rfl) (by kernel_rfl) (fun _ _ _ h => h) (Or.inl ⟨by rfl, ?_⟩) (by assumption) ?_
        rotate_left 1
        · (intro W hW; clear hW; go_simp; try with_reducible rfl)
        simp only [Act.put, List.getElem_toArray, List.getElem_cons_succ, List.getElem_cons_zero, List.setIfInBounds_toArray, List.set_cons_zero, List.set_cons_succ]
        refine wpAnyH_ready (rs := [11]) (by kernel_rfl) (by simp) ?_
        refine AllReadyH.cons rfl (fun K hK => ?_) AllReadyH.nil
        go_simp
        skip
        refine hK.out _ _ (((((hHeld.setCell (p := ⟨J, 8 + k * 4, none⟩) (.inr rfl) _).setCell (p := ⟨J, 8 + k * 4 + 1, none⟩) (.inr rfl) _).setCell (p := ⟨J, 8 + k * 4 + 2, none⟩) (.inr rfl) _).setCell (p := ⟨J, 8 + k * 4 + 3, none⟩) (.inr rfl) _)) (fun hHeld => ?_)
        clear hK K
        try simp only [Act.put, List.getElem_toArray, List.getElem_cons_succ, List.getElem_cons_zero, List.setIfInBounds_toArray, List.set_cons_zero, List.set_cons_succ]
        refine wpAnyH_done (by kernel_rfl) ?_ _
        have hh := ((((wd2.set_ (8 + k * 4) (.int .i64 er)).set_ (8 + k * 4 + 1) (.bool fd)).set_ (8 + k * 4 + 2) (.string val)).set_ (8 + k * 4 + 3) (.int .i64 ver))
        rw [dcells_set hP.1 hjl ⟨er, fd, val, ver, seq⟩] at hh
        have hS5 := (((((hS4.trans hsz).setCell (p := ⟨J, 8 + k * 4, none⟩) hJg (.int .i64 er)).setCell (p := ⟨J, 8 + k * 4 + 1, none⟩) hJg (.bool fd)).setCell (p := ⟨J, 8 + k * 4 + 2, none⟩) hJg (.string val)).setCell (p := ⟨J, 8 + k * 4 + 3, none⟩) hJg (.int .i64 ver))
        clear e0 e1 e2 e3 f0 f1 f2 f3 d0 d1 d2 d3
        obtain ⟨w5, hw5⟩ : ∃ w5, w5 = ((((wz.setCell ⟨J, 8 + k * 4, none⟩ (.int .i64 er)).setCell ⟨J, 8 + k * 4 + 1, none⟩ (.bool fd)).setCell ⟨J, 8 + k * 4 + 2, none⟩ (.string val)).setCell ⟨J, 8 + k * 4 + 3, none⟩ (.int .i64 ver)) := ⟨_, rfl⟩
        rw [← hw5] at hh hS5 ⊢
        clear hw5
        go_wp2
        go_roundw
        case rel => exact ⟨k + 1, by go_num, by omega, ⟨by rw [HX.out]; exact len_set hP.1 _ _, by rw [HX.out]; exact hh⟩, hS5⟩
        case measure => simp [intOf]; omega
      · have hX : later ⟨er', fd', val', ver', seq'⟩ ⟨er, fd, val, ver, seq⟩ = ⟨er', fd', val', ver', seq'⟩ := if_neg hlt2
        rw [hX, set_same hat] at HX
        clear hX
        have hP3 := hP.since hs3
        have hS3 := hS.trans hs3
        go_wp2
        go_roundw
        case rel => exact ⟨k + 1, by go_num, by omega, by rw [HX.out]; exact hP3, hS3⟩
        case measure => simp [intOf]; omega
    · obtain rfl : k = 8 := by omega
      rw [joinK_end h8 h8'] at hP
      go_wp2
      go_ret
      exact ⟨rfl, hP, hS⟩
end
end Go.Proofs.YtbgfjkgpekkciaaDoor
