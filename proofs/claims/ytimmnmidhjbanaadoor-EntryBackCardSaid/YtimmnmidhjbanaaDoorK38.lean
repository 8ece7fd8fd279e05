/- entry.Take. -/
import Derived.Test.YtimmnmidhjbanaaDoorK37
namespace Go.Proofs.YtimmnmidhjbanaaDoor
open Go.RowKit
set_option linter.unusedVariables false
set_option linter.unusedSimpArgs false
section
variable {w : World} {base g : Nat} {s t : RSt} {kind ok x y : Int} {key val : ByteArray} {cl seq nd ep bx : Int} {l : List Int}
theorem readRaw_eq (s : RSt) : readRaw s = readBody (numS s).1 (numS s).2 := rfl
/-- read, of whatever bytes. -/
theorem readE_any (h : RdS w base g s) (hr : readRaw s = (((⟨kind, ok, x, y, key, val, cl, seq, nd, ep, bx⟩ : En), l), t)) : Calls Tryd.prog 58 #[.pointer (some ⟨g, 0, none⟩)] w (EnP base g kind ok x y key val cl seq nd ep bx l t w) := by
  rw [readRaw_eq] at hr
  obtain ⟨⟨k, s1⟩, hk⟩ : ∃ p, numS s = p := ⟨_, rfl⟩
  rw [hk] at hr
  dsimp only at hr
  unfold readBody at hr
  split at hr
  · next h1 =>
    obtain ⟨⟨⟨rk, rx, ry, rkey, rval, rcl, rseq⟩, s2⟩, ho⟩ : ∃ p, readOp s1 = p := ⟨_, rfl⟩
    rw [ho] at hr
    dsimp only at hr
    simp only [Prod.mk.injEq, En.mk.injEq] at hr
    obtain ⟨⟨⟨rfl, rfl, rfl, rfl, rfl, rfl, rfl, rfl, rfl, rfl, rfl⟩, rfl⟩, rfl⟩ := hr
    exact read_call h hk ho (by simpa using h1)
  · next h1 =>
    have g1 : (k == 1) = false := by rw [beq_eq_false_iff_ne]; exact h1
    split at hr
    · next h2 =>
      obtain ⟨⟨x1, s2⟩, hx⟩ : ∃ p, numS s1 = p := ⟨_, rfl⟩
      rw [hx] at hr
      dsimp only at hr
      simp only [Prod.mk.injEq, En.mk.injEq] at hr
      obtain ⟨⟨⟨rfl, rfl, rfl, rfl, rfl, rfl, rfl, rfl, rfl, rfl, rfl⟩, rfl⟩, rfl⟩ := hr
      refine read_add h hk hx g1 ?_
      rcases h2 with h2 | h2
      · exact .inl (by simpa using h2)
      · exact .inr ⟨by rw [beq_eq_false_iff_ne]; omega, by simpa using h2⟩
    · next h2 =>
      have g2 : (k == 2) = false := by rw [beq_eq_false_iff_ne]; omega
      have g3 : (k == 3) = false := by rw [beq_eq_false_iff_ne]; omega
      split at hr
      · next h4 =>
        obtain ⟨⟨x1, s2⟩, hx⟩ : ∃ p, numS s1 = p := ⟨_, rfl⟩
        obtain ⟨⟨x2, s3⟩, hy⟩ : ∃ p, numS s2 = p := ⟨_, rfl⟩
        obtain ⟨⟨x3, s4⟩, hz⟩ : ∃ p, numS s3 = p := ⟨_, rfl⟩
        obtain ⟨⟨lc, s5⟩, hl⟩ : ∃ p, readChain s4 = p := ⟨_, rfl⟩
        simp only [hx, hy, hz, hl] at hr
        simp only [Prod.mk.injEq, En.mk.injEq] at hr
        obtain ⟨⟨⟨rfl, rfl, rfl, rfl, rfl, rfl, rfl, rfl, rfl, rfl, rfl⟩, rfl⟩, rfl⟩ := hr
        refine read_move h hk hx hy hz hl g1 g2 g3 ?_
        rcases h4 with h4 | h4
        · exact .inl (by simpa using h4)
        · exact .inr ⟨by rw [beq_eq_false_iff_ne]; omega, by simpa using h4⟩
      · next h4 =>
        simp only [Prod.mk.injEq, En.mk.injEq] at hr
        obtain ⟨⟨⟨rfl, rfl, rfl, rfl, rfl, rfl, rfl, rfl, rfl, rfl, rfl⟩, rfl⟩, rfl⟩ := hr
        exact read_none h hk g1 g2 g3 (by rw [beq_eq_false_iff_ne]; omega) (by rw [beq_eq_false_iff_ne]; omega)
theorem readChain_len (s : RSt) : (readChain s).1.length ≤ 8 := by
  have h := up8_le s
  unfold readChain
  dsimp only
  split
  · rw [readNums_len]; omega
  · simp
theorem readRaw_len (s : RSt) : (readRaw s).1.2.length ≤ 8 := by
  unfold readRaw readBody
  split
  · simp
  · split
    · simp
    · split
      · exact readChain_len _
      · simp
set_option maxRecDepth 100000 in
set_option maxHeartbeats 12800000 in
theorem take11_any (h : RdS w base g s) (hr : readEnt s = (((⟨kind, ok, x, y, key, val, cl, seq, nd, ep, bx⟩ : En), l), t)) : Calls Tryd.prog 31 #[.pointer (some ⟨g, 0, none⟩)] w (EnP base g kind ok x y key val cl seq nd ep bx l t w) := by
  obtain ⟨⟨⟨⟨kind1, ok1, x1, y1, key1, val1, cl1, seq1, nd1, ep1, bx1⟩, l1⟩, s1⟩, hraw⟩ : ∃ p, readRaw s = p := ⟨_, rfl⟩
  have hl8 := readRaw_len s
  unfold readEnt at hr
  rw [hraw] at hr hl8
  dsimp only at hr hl8
  obtain ⟨rb, hrb⟩ : ∃ b, rightB (⟨kind1, ok1, x1, y1, key1, val1, cl1, seq1, nd1, ep1, bx1⟩ : En) l1 = b := ⟨_, rfl⟩
  rw [hrb] at hr
  obtain ⟨t1, ht1⟩ : ∃ t, failS rb s1 = t := ⟨_, rfl⟩
  rw [ht1] at hr
  have HRAW := Lib.hid hraw
  have HB := Lib.hid hrb
  have HR := Lib.hid hr
  have HL8 := Lib.hid (show l1.length ≤ 1000000 by omega)
  have hg := h.lt
  obtain ⟨w1, hw1⟩ : ∃ w1, w1 = w.alloc (.cells #[.int .i64 0, .int .i64 0, .int .i64 0, .int .i64 0, .string ⟨#[]⟩, .string ⟨#[]⟩, .int .i64 0, .int .i64 0, .int .i64 0, .int .i64 0, .int .i64 0, .slice none 0 0] 37) := ⟨_, rfl⟩
  have hs1 : Since w w1 := by rw [hw1]; exact (Since.refl w).alloc _
  have hwh : Whole w1 w.heap.size 37 #[.int .i64 0, .int .i64 0, .int .i64 0, .int .i64 0, .string ⟨#[]⟩, .string ⟨#[]⟩, .int .i64 0, .int .i64 0, .int .i64 0, .int .i64 0, .int .i64 0, .slice none 0 0] := by rw [hw1]; exact Whole.new w _ _
  have HW1 := Lib.hid hw1
  obtain ⟨J, hJ⟩ : ∃ J, J = w.heap.size := ⟨_, rfl⟩
  have HJ := Lib.hid hJ
  have hgJ : g < J := by omega
  have hlt1 : J < w1.heap.size := by rw [hw1, hJ]; simp
  rw [← hJ] at hwh
  clear hw1 hJ hraw hrb hr hl8
  go_enter Tryd.func31, Tryd.ntmps31
  go_wp2_with fail
  rw [← HW1.out, ← HJ.out]
  refine (readE_any (h.since hs1) HRAW.out).mono ?_
  rintro e w2 ⟨xc, nc, dc, rfl, hrc, hR2, ho2⟩
  have hlt2 : J < w2.heap.size := by have := ho2.size; omega
  obtain ⟨w3, hw3⟩ : ∃ w3, w3 = w2.alloc (.cells #[.int .i64 kind1, .int .i64 ok1, .int .i64 x1, .int .i64 y1, .string key1, .string val1, .int .i64 cl1, .int .i64 seq1, .int .i64 nd1, .int .i64 ep1, .int .i64 bx1, .slice xc nc dc] 37) := ⟨_, rfl⟩
  obtain ⟨I, hI⟩ : ∃ I, I = w2.heap.size := ⟨_, rfl⟩
  have hJI : J < I := by omega
  have hs23 : Since w2 w3 := by rw [hw3]; exact (Since.refl w2).alloc _
  have hWI : Whole w3 I 37 #[.int .i64 kind1, .int .i64 ok1, .int .i64 x1, .int .i64 y1, .string key1, .string val1, .int .i64 cl1, .int .i64 seq1, .int .i64 nd1, .int .i64 ep1, .int .i64 bx1, .slice xc nc dc] := by rw [hw3, hI]; exact Whole.new w2 _ _
  have hWJ : Whole w3 J 37 #[.int .i64 0, .int .i64 0, .int .i64 0, .int .i64 0, .string ⟨#[]⟩, .string ⟨#[]⟩, .int .i64 0, .int .i64 0, .int .i64 0, .int .i64 0, .int .i64 0, .slice none 0 0] := Since.whole hs23 (ho2.whole hwh (by omega))
  have hR3 := hR2.since hs23
  have hrc3 := RZ.since hrc hs23
  have ho3 : Off (fun b => b = g) w w3 := ((hs1.off _).trans ho2 (fun _ _ z => z)).since hs23
  have HI := Lib.hid (And.intro hw3 hI)
  have hsJ : w.heap.size ≤ J := by rw [HJ.out]; exact Nat.le_refl _
  have hb1 : J < w1.heap.size := hlt1
  have c0 := off_cell (F := fun b => b = g ∨ b = J) hWI (by omega) 0 _ rfl
  have c1 := off_cell (F := fun b => b = g ∨ b = J) hWI (by omega) 1 _ rfl
  have c2 := off_cell (F := fun b => b = g ∨ b = J) hWI (by omega) 2 _ rfl
  have c3 := off_cell (F := fun b => b = g ∨ b = J) hWI (by omega) 3 _ rfl
  have c4 := off_cell (F := fun b => b = g ∨ b = J) hWI (by omega) 4 _ rfl
  have c5 := off_cell (F := fun b => b = g ∨ b = J) hWI (by omega) 5 _ rfl
  have c6 := off_cell (F := fun b => b = g ∨ b = J) hWI (by omega) 6 _ rfl
  have c7 := off_cell (F := fun b => b = g ∨ b = J) hWI (by omega) 7 _ rfl
  have c8 := off_cell (F := fun b => b = g ∨ b = J) hWI (by omega) 8 _ rfl
  have c9 := off_cell (F := fun b => b = g ∨ b = J) hWI (by omega) 9 _ rfl
  have c10 := off_cell (F := fun b => b = g ∨ b = J) hWI (by omega) 10 _ rfl
  have c11 := off_cell (F := fun b => b = g ∨ b = J) hWI (by omega) 11 _ rfl
  have HZ := Lib.hid (fun W (hW : Off (fun b => b = g ∨ b = J) w3 W) => RZ.mono (RowE.off hrc3 hW (fun b hb e => by have := (RowE.own hrc3 b hb).1; omega)) (show w.heap.size ≤ w1.heap.size by omega))
  have hoJ := Lib.hid (fun W (hW : Off (fun b => b = g) w3 W) => hW.whole hWJ (by omega))
  have hHeld0' := (Off.refl (fun b => b = g) w3).drew
  have hsd := (Off.refl (fun b => b = g ∨ b = J) w3).drew
  have HO3 := Lib.hid ho3
  have HR3 := Lib.hid (fun W (hW : Since w3 W) => hR3.since hW)
  clear hw3 hI hs1 hwh hlt1 hlt2 h hR2 ho2 hrc hs23 hWI hWJ hrc3 ho3 hb1
  go_wp2_with fail
  rw [← HI.out.1, ← HI.out.2]
  by_cases h0 : t1.2 = 0
  · have he := HR.out
    rw [if_pos h0] at he
    simp only [Prod.mk.injEq, En.mk.injEq] at he
    obtain ⟨⟨⟨rfl, rfl, rfl, rfl, rfl, rfl, rfl, rfl, rfl, rfl, rfl⟩, rfl⟩, rfl⟩ := he
    have HF := Lib.hid (And.intro ht1 h0)
    clear ht1 h0
    refine wp_region_held_drew (S := fun W => Off (fun b => b = g ∨ b = J) w3 W) (by kernel_rfl) hsd (fun hHeld => ?_)
    have HRq := Lib.hid (HR3.out _ (Since.refl w3).drew)
    have hHeld0 := hHeld0'
    generalize w3.drew = wq at hHeld hHeld0 HRq ⊢
    clear hsd hHeld0'
    refine wpAnyH_take (i := 0) (v := ?_) rfl (by kernel_rfl) (by kernel_rfl) (by kernel_rfl) (fun _ _ _ h => h) (Or.inl ⟨by rfl, ?_⟩) (by assumption) ?_
    rotate_left 1
    · (intro W hW; clear hW; go_simp; try with_reducible rfl)
    simp only [Act.put, List.getElem_toArray, List.getElem_cons_zero, List.setIfInBounds_toArray, List.set_cons_zero, List.set_cons_succ]
    refine wpAnyH_take (i := 1) (v := ?_) rfl (by kernel_rfl) (by kernel_rfl) (by kernel_rfl) (fun _ _ _ h => h) (Or.inl ⟨by rfl, ?_⟩) (by assumption) ?_
    rotate_left 1
    · (intro W hW; skip; go_simp; try with_reducible rfl)
    simp only [Act.put, List.getElem_toArray, List.getElem_cons_succ, List.getElem_cons_zero, List.setIfInBounds_toArray, List.set_cons_zero, List.set_cons_succ]
    refine wpAnyH_take (i := 2) (v := ?_) rfl (by kernel_rfl) (by kernel_rfl) (by kernel_rfl) (fun _ _ _ h => h) (Or.inl ⟨by rfl, ?_⟩) (by assumption) ?_
    rotate_left 1
    · (intro W hW; skip; go_simp; try with_reducible rfl)
    simp only [Act.put, List.getElem_toArray, List.getElem_cons_succ, List.getElem_cons_zero, List.setIfInBounds_toArray, List.set_cons_zero, List.set_cons_succ]
    refine wpAnyH_ready (rs := [3]) (by kernel_rfl) (by simp) ?_
    refine AllReadyH.cons rfl (fun K hK => ?_) AllReadyH.nil
    go_simp
    refine (right11_any (RZ.lz (HZ.out _ hHeld)) (Nat.le_refl _) HL8.out HB.out).mono ?_
    rintro e w5 ⟨rfl, hb5⟩
    go_wp2_with fail
    refine hK.out _ _ (hHeld.since hb5) (fun hHeld => ?_)
    clear hK K
    try simp only [Act.put, List.getElem_toArray, List.getElem_cons_succ, List.getElem_cons_zero, List.setIfInBounds_toArray, List.set_cons_zero, List.set_cons_succ]
    refine wpAnyH_ready (rs := [4]) (by kernel_rfl) (by simp) ?_
    refine AllReadyH.cons rfl (fun K hK => ?_) AllReadyH.nil
    go_simp
    refine (takenE_yes (HRq.out.since hb5) HF.out.1 HF.out.2).mono ?_
    rintro e w6 ⟨rfl, hR6, ho6⟩
    go_wp2_with fail
    refine hK.out _ _ (hHeld.trans ho6 (fun _ _ z => .inl z)) (fun hHeld => ?_)
    clear hK K
    try simp only [Act.put, List.getElem_toArray, List.getElem_cons_succ, List.getElem_cons_zero, List.setIfInBounds_toArray, List.set_cons_zero, List.set_cons_succ]
    refine wpAnyH_ready (rs := [5]) (by kernel_rfl) (by simp) ?_
    refine AllReadyH.cons rfl (fun K hK => ?_) AllReadyH.nil
    refine step_store_wh rfl 37 _ _ rfl rfl rfl (hoJ.out _ (hHeld0.trans (Off.trans ((Off.refl (fun b => b = g) wq).since hb5) ho6 (fun _ _ z => z)) (fun _ _ z => z))) (by kernel_rfl) rfl (by kernel_rfl) ?_
    intro w9 hwh9 hoff9
    refine hK.out _ _ (hHeld.trans hoff9 (fun _ _ z => .inr z)) (fun hHeld => ?_)
    clear hK K
    try simp only [Act.put, List.getElem_toArray, List.getElem_cons_succ, List.getElem_cons_zero, List.setIfInBounds_toArray, List.set_cons_zero, List.set_cons_succ]
    refine wpAnyH_done (by kernel_rfl) ?_ _
    go_wp2
    have hz := HZ.out _ hHeld
    refine bodyPost_ret (results_cell_row rfl _ _ J 37 _ (0, 0) _ rfl hwh9 Tryd.underlying37 rfl (by kernel_rfl)) rfl ⟨_, _, _, rfl, hz, hR6.off hoff9 (fun b e => by omega), ?_⟩
    exact ((HO3.out.trans (hHeld0.trans (Off.trans ((Off.refl (fun b => b = g) wq).since hb5) ho6 (fun _ _ z => z)) (fun _ _ z => z)) (fun _ _ z => z)).trans hoff9 (fun b hlt e => by omega))
  · have he := HR.out
    rw [if_neg h0] at he
    unfold En.zero at he
    simp only [Prod.mk.injEq, En.mk.injEq] at he
    obtain ⟨⟨⟨rfl, rfl, rfl, rfl, rfl, rfl, rfl, rfl, rfl, rfl, rfl⟩, rfl⟩, rfl⟩ := he
    have HF := Lib.hid (And.intro ht1 h0)
    clear ht1 h0
    refine wp_region_held_drew (S := fun W => Off (fun b => b = g ∨ b = J) w3 W) (by kernel_rfl) hsd (fun hHeld => ?_)
    have HRq := Lib.hid (HR3.out _ (Since.refl w3).drew)
    have hHeld0 := hHeld0'
    generalize w3.drew = wq at hHeld hHeld0 HRq ⊢
    clear hsd hHeld0'
    refine wpAnyH_take (i := 0) (v := ?_) rfl (by kernel_rfl) (by kernel_rfl) (by kernel_rfl) (fun _ _ _ h => h) (Or.inl ⟨by rfl, ?_⟩) (by assumption) ?_
    rotate_left 1
    · (intro W hW; clear hW; go_simp; try with_reducible rfl)
    simp only [Act.put, List.getElem_toArray, List.getElem_cons_zero, List.setIfInBounds_toArray, List.set_cons_zero, List.set_cons_succ]
    refine wpAnyH_take (i := 1) (v := ?_) rfl (by kernel_rfl) (by kernel_rfl) (by kernel_rfl) (fun _ _ _ h => h) (Or.inl ⟨by rfl, ?_⟩) (by assumption) ?_
    rotate_left 1
    · (intro W hW; skip; go_simp; try with_reducible rfl)
    simp only [Act.put, List.getElem_toArray, List.getElem_cons_succ, List.getElem_cons_zero, List.setIfInBounds_toArray, List.set_cons_zero, List.set_cons_succ]
    refine wpAnyH_take (i := 2) (v := ?_) rfl (by kernel_rfl) (by kernel_rfl) (by kernel_rfl) (fun _ _ _ h => h) (Or.inl ⟨by rfl, ?_⟩) (by assumption) ?_
    rotate_left 1
    · (intro W hW; skip; go_simp; try with_reducible rfl)
    simp only [Act.put, List.getElem_toArray, List.getElem_cons_succ, List.getElem_cons_zero, List.setIfInBounds_toArray, List.set_cons_zero, List.set_cons_succ]
    refine wpAnyH_ready (rs := [3]) (by kernel_rfl) (by simp) ?_
    refine AllReadyH.cons rfl (fun K hK => ?_) AllReadyH.nil
    go_simp
    refine (right11_any (RZ.lz (HZ.out _ hHeld)) (Nat.le_refl _) HL8.out HB.out).mono ?_
    rintro e w5 ⟨rfl, hb5⟩
    go_wp2_with fail
    refine hK.out _ _ (hHeld.since hb5) (fun hHeld => ?_)
    clear hK K
    try simp only [Act.put, List.getElem_toArray, List.getElem_cons_succ, List.getElem_cons_zero, List.setIfInBounds_toArray, List.set_cons_zero, List.set_cons_succ]
    refine wpAnyH_ready (rs := [4]) (by kernel_rfl) (by simp) ?_
    refine AllReadyH.cons rfl (fun K hK => ?_) AllReadyH.nil
    go_simp
    refine (takenE_no (HRq.out.since hb5) HF.out.1 HF.out.2).mono ?_
    rintro e w6 ⟨rfl, hR6, ho6⟩
    go_wp2_with fail
    refine hK.out _ _ (hHeld.trans ho6 (fun _ _ z => .inl z)) (fun hHeld => ?_)
    clear hK K
    try simp only [Act.put, List.getElem_toArray, List.getElem_cons_succ, List.getElem_cons_zero, List.setIfInBounds_toArray, List.set_cons_zero, List.set_cons_succ]
    refine wpAnyH_ready (rs := [5]) (by kernel_rfl) (by simp) ?_
    refine AllReadyH.cons rfl (fun K hK => ?_) AllReadyH.nil
    refine step_store_wh rfl 37 _ _ rfl rfl rfl (hoJ.out _ (hHeld0.trans (Off.trans ((Off.refl (fun b => b = g) wq).since hb5) ho6 (fun _ _ z => z)) (fun _ _ z => z))) (by kernel_rfl) rfl (by kernel_rfl) ?_
    intro w9 hwh9 hoff9
    refine hK.out _ _ (hHeld.trans hoff9 (fun _ _ z => .inr z)) (fun hHeld => ?_)
    clear hK K
    try simp only [Act.put, List.getElem_toArray, List.getElem_cons_succ, List.getElem_cons_zero, List.setIfInBounds_toArray, List.set_cons_zero, List.set_cons_succ]
    refine wpAnyH_done (by kernel_rfl) ?_ _
    go_wp2
    refine bodyPost_ret (results_cell_row rfl _ _ J 37 _ (0, 0) _ rfl hwh9 Tryd.underlying37 rfl (by kernel_rfl)) rfl ⟨_, _, _, rfl, RZ.nil _ _, hR6.off hoff9 (fun b e => by omega), ?_⟩
    exact ((HO3.out.trans (hHeld0.trans (Off.trans ((Off.refl (fun b => b = g) wq).since hb5) ho6 (fun _ _ z => z)) (fun _ _ z => z)) (fun _ _ z => z)).trans hoff9 (fun b hlt e => by omega))
end
end Go.Proofs.YtimmnmidhjbanaaDoor
