/- gleberef07.TakeRec, TakeOp, TakeAns. -/
import Derived.Test.YtbgfjkgpekkciaaK17
import Derived.Test.YtbgfjkgpekkciaaK19
namespace Go.Proofs.Ytbgfjkgpekkciaa
open Go.RowKit
set_option linter.unusedVariables false
set_option maxRecDepth 100000 in
set_option maxHeartbeats 1600000 in
theorem refTakeAns_any {w : World} {B q n c : Nat} {A : Option Addr} {bb : List UInt8} {s t : RSt} (h : DcS w B q A n c bb s) {rer : Int} {rfd : Bool} {rval : ByteArray} {rver : Int} (hr : readAns s = ((rer, rfd, rval, rver), t)) :
    Calls Try.prog 30 #[.pointer (some ⟨q, 0, none⟩)] w (DPs B q A n c bb t (.agg #[.int .i64 rer, .bool rfd, .string rval, .int .i64 rver]) w) := by
  have hg := h.lt
  unfold readAns at hr
  obtain ⟨⟨er, s0⟩, e0⟩ : ∃ r, numS s = r := ⟨_, rfl⟩
  obtain ⟨⟨fv, s1⟩, e1⟩ : ∃ r, numS s0 = r := ⟨_, rfl⟩
  have hv0 : 0 ≤ fv := by have := numS_pos s0; rw [e1] at this; exact this
  obtain ⟨fd, hfd⟩ : ∃ b, (fv == 1) = b := ⟨_, rfl⟩
  obtain ⟨⟨val, s3⟩, e3⟩ : ∃ r, txS s1 = r := ⟨_, rfl⟩
  obtain ⟨⟨ver, s4⟩, e4⟩ : ∃ r, numS s3 = r := ⟨_, rfl⟩
  simp only [e0, e1, hfd, e3, e4] at hr
  obtain ⟨b1, hb1'⟩ : ∃ b, decide (fv ≤ 1) = b := ⟨_, rfl⟩
  obtain ⟨ok, hok⟩ : ∃ b, ansB er fd val ver = b := ⟨_, rfl⟩
  rw [hb1', hok] at hr
  injection hr with hr1 hr2
  rw [hr2] at hr1
  have HT := Lib.hid hr2
  have HR := Lib.hid hr1
  have E0 := Lib.hid e0
  have E1 := Lib.hid e1
  have E3 := Lib.hid e3
  have E4 := Lib.hid e4
  clear hr1 hr2 e0 e1 e3 e4
  obtain ⟨w1, hw1⟩ : ∃ w1, w1 = w.alloc (.cells #[.int .i64 0, .bool false, .string ⟨#[]⟩, .int .i64 0] 44) := ⟨_, rfl⟩
  have hs1 : Since w w1 := by rw [hw1]; exact (Since.refl w).alloc _
  have hb2 : Whole w1 w.heap.size 44 #[.int .i64 0, .bool false, .string ⟨#[]⟩, .int .i64 0] := by rw [hw1]; exact Whole.new w _ _
  have hR := h.since hs1
  have hO : Off (fun b => b = q) w w1 := hs1.off _
  have HW := Lib.hid hw1
  have hB := h.lie
  clear hw1 hs1 h
  go_enter Try.func30, Try.ntmps30
  go_wp2_with fail
  rw [← HW.out]
  refine (numD hR E0.out).mono ?_
  rintro y w2 ⟨rfl, hR', ho'⟩
  replace hb2 := ho'.whole hb2 (by omega)
  replace hO := hO.trans ho' (fun _ _ z => z)
  clear ho' hR
  go_wp2_with fail
  obtain ⟨w3, hv⟩ : ∃ wx, wx = w2.alloc (.cells #[.int .i64 er, .bool false, .string ⟨#[]⟩, .int .i64 0] 44) := ⟨_, rfl⟩
  rw [← hv]
  obtain ⟨T3, hT3⟩ : ∃ T3, T3 = w2.heap.size := ⟨_, rfl⟩
  rw [← hT3]
  have hlt2 := hb2.lt
  have hsz := hO.size
  have hlR := hR'.lt
  have hR : DcS w3 B q A n c bb s0 := by rw [hv]; exact hR'.since ((Since.refl _).alloc _)
  replace hO : Off (fun b => b = q) w w3 := by rw [hv]; exact hO.alloc _
  replace hb2 : Whole w3 w.heap.size 44 #[.int .i64 0, .bool false, .string ⟨#[]⟩, .int .i64 0] := by rw [hv]; exact hb2.alloc _
  have hb3 : Whole w3 T3 44 #[.int .i64 er, .bool false, .string ⟨#[]⟩, .int .i64 0] := by rw [hv, hT3]; exact Whole.new _ _ _
  have h3w : w.heap.size < T3 := by omega
  have h3q : q < T3 := by omega
  clear hv hR' hT3 hlt2 hsz hlR
  refine (numD hR E1.out).mono ?_
  rintro y w4 ⟨rfl, hR', ho'⟩
  replace hb2 := ho'.whole hb2 (by omega)
  replace hb3 := ho'.whole hb3 (by omega)
  replace hO := hO.trans ho' (fun _ _ z => z)
  clear ho' hR
  have y1 := hb3.cell 1
  have f1 := hb3.frozen 1
  go_wp2_with fail
  obtain ⟨w5, hv⟩ : ∃ wx, wx = w4.setCell ⟨T3, 1, none⟩ (.bool fd) := ⟨_, rfl⟩
  rw [← hv]
  have hR : DcS w5 B q A n c bb s1 := by rw [hv]; exact hR'.set_ ⟨T3, 1, none⟩ (show q < T3 by omega) _
  replace hO : Off (fun b => b = q) w w5 := by rw [hv]; exact hO.setCell (p := ⟨T3, 1, none⟩) (.inl (show w.heap.size ≤ T3 by omega)) _
  replace hb2 : Whole w5 w.heap.size 44 #[.int .i64 0, .bool false, .string ⟨#[]⟩, .int .i64 0] := by rw [hv]; exact hb2.far (p := ⟨T3, 1, none⟩) (show w.heap.size ≠ T3 by omega) _
  replace hb3 : Whole w5 T3 44 #[.int .i64 er, .bool fd, .string ⟨#[]⟩, .int .i64 0] := by rw [hv]; exact hb3.set_ 1 _
  clear hv hR' y1 f1
  refine (textD hR E3.out).mono ?_
  rintro y w6 ⟨rfl, hR', ho'⟩
  replace hb2 := ho'.whole hb2 (by omega)
  replace hb3 := ho'.whole hb3 (by omega)
  replace hO := hO.trans ho' (fun _ _ z => z)
  clear ho' hR
  have y2 := hb3.cell 2
  have f2 := hb3.frozen 2
  go_wp2_with fail
  obtain ⟨w7, hv⟩ : ∃ wx, wx = w6.setCell ⟨T3, 2, none⟩ (.string val) := ⟨_, rfl⟩
  rw [← hv]
  have hR : DcS w7 B q A n c bb s3 := by rw [hv]; exact hR'.set_ ⟨T3, 2, none⟩ (show q < T3 by omega) _
  replace hO : Off (fun b => b = q) w w7 := by rw [hv]; exact hO.setCell (p := ⟨T3, 2, none⟩) (.inl (show w.heap.size ≤ T3 by omega)) _
  replace hb2 : Whole w7 w.heap.size 44 #[.int .i64 0, .bool false, .string ⟨#[]⟩, .int .i64 0] := by rw [hv]; exact hb2.far (p := ⟨T3, 2, none⟩) (show w.heap.size ≠ T3 by omega) _
  replace hb3 : Whole w7 T3 44 #[.int .i64 er, .bool fd, .string val, .int .i64 0] := by rw [hv]; exact hb3.set_ 2 _
  clear hv hR' y2 f2
  refine (numD hR E4.out).mono ?_
  rintro y w8 ⟨rfl, hR', ho'⟩
  replace hb2 := ho'.whole hb2 (by omega)
  replace hb3 := ho'.whole hb3 (by omega)
  replace hO := hO.trans ho' (fun _ _ z => z)
  clear ho' hR
  have y3 := hb3.cell 3
  have f3 := hb3.frozen 3
  have p0 := hb3.cell 0
  have p1 := hb3.cell 1
  have p2 := hb3.cell 2
  go_wp2_with fail
  clear p0 p1 p2
  obtain ⟨w9, hv⟩ : ∃ wx, wx = w8.setCell ⟨T3, 3, none⟩ (.int .i64 ver) := ⟨_, rfl⟩
  rw [← hv]
  have hR : DcS w9 B q A n c bb s4 := by rw [hv]; exact hR'.set_ ⟨T3, 3, none⟩ (show q < T3 by omega) _
  replace hO : Off (fun b => b = q) w w9 := by rw [hv]; exact hO.setCell (p := ⟨T3, 3, none⟩) (.inl (show w.heap.size ≤ T3 by omega)) _
  replace hb2 : Whole w9 w.heap.size 44 #[.int .i64 0, .bool false, .string ⟨#[]⟩, .int .i64 0] := by rw [hv]; exact hb2.far (p := ⟨T3, 3, none⟩) (show w.heap.size ≠ T3 by omega) _
  replace hb3 : Whole w9 T3 44 #[.int .i64 er, .bool fd, .string val, .int .i64 ver] := by rw [hv]; exact hb3.set_ 3 _
  clear hv hR' y3 f3
  have hSr := Since.refl w9
  have l0 := box_cell hb3 0 _ rfl
  have l1 := box_cell hb3 1 _ rfl
  have l2 := box_cell hb3 2 _ rfl
  have l3 := box_cell hb3 3 _ rfl
  have RX : Hid (∀ W, Calls Try.prog 43 #[.agg #[.int .i64 er, .bool fd, .string val, .int .i64 ver]] W fun e w' => e = .returned (.bool ok) ∧ Below W.heap.size W w') := Lib.hid (fun W => refRightAns_at hok W)
  clear hok l0 l1 l2 l3 hSr
  have hv1 : (1 < fv) ↔ b1 = false := by rw [← hb1', decide_eq_false_iff_not]; omega
  clear hb1' hv0
  cases ok with
  | true =>
    cases b1 with
    | true =>
      have hv2 : fv ≤ 1 := by have := hv1; simp at this; omega
      clear hv1
      refine (RX.out _).mono ?_
      rintro y wa ⟨rfl, hba⟩
      have ga := hR.since hba
      have a2 := Whole.below hb2 hba hb2.lt
      have a3 := Whole.below hb3 hba hb3.lt
      have aO := hO.since hba
      have ht : s4 = t := by have := HT.out; simpa [failS] using this
      subst ht
      have e2 := ga.c2
      have p0 := a3.cell 0
      have y0 := a2.cell 0
      have f0 := a2.frozen 0
      have p1 := a3.cell 1
      have y1 := a2.cell 1
      have f1 := a2.frozen 1
      have p2 := a3.cell 2
      have y2 := a2.cell 2
      have f2 := a2.frozen 2
      have p3 := a3.cell 3
      have y3 := a2.cell 3
      have f3 := a2.frozen 3
      by_cases h0 : s4.2 = 0
      · have hz : (s4.2 != 0) = false := by simp [h0]
        have hr := HR.out
        rw [if_pos h0] at hr
        simp only [Prod.mk.injEq] at hr
        obtain ⟨rfl, rfl, rfl, rfl⟩ := hr
        clear h0
        go_wp2
        exact bodyPost_ret (results_cell_row rfl _ _ w.heap.size 44 _ (0, 0) _ rfl (Whole.set_ (Whole.set_ (Whole.set_ (Whole.set_ a2 0 _) 1 _) 2 _) 3 _) Try.underlying44 rfl (by kernel_rfl)) rfl ⟨rfl, ((((ga.set_ ⟨w.heap.size, 0, none⟩ hg _).set_ ⟨w.heap.size, 1, none⟩ hg _).set_ ⟨w.heap.size, 2, none⟩ hg _).set_ ⟨w.heap.size, 3, none⟩ hg _), (Off.setCell (Off.setCell (Off.setCell (Off.setCell aO (p := ⟨w.heap.size, 0, none⟩) (.inl (Nat.le_refl _)) _) (p := ⟨w.heap.size, 1, none⟩) (.inl (Nat.le_refl _)) _) (p := ⟨w.heap.size, 2, none⟩) (.inl (Nat.le_refl _)) _) (p := ⟨w.heap.size, 3, none⟩) (.inl (Nat.le_refl _)) _)⟩
      · have hz : (s4.2 != 0) = true := by simp [h0]
        have hr := HR.out
        rw [if_neg h0] at hr
        simp only [Prod.mk.injEq] at hr
        obtain ⟨rfl, rfl, rfl, rfl⟩ := hr
        clear h0
        go_wp2
        exact bodyPost_ret (results_cell_row rfl _ _ w.heap.size 44 _ (0, 0) _ rfl (Whole.set_ (Whole.set_ (Whole.set_ (Whole.set_ a2 0 _) 1 _) 2 _) 3 _) Try.underlying44 rfl (by kernel_rfl)) rfl ⟨rfl, ((((ga.set_ ⟨w.heap.size, 0, none⟩ hg _).set_ ⟨w.heap.size, 1, none⟩ hg _).set_ ⟨w.heap.size, 2, none⟩ hg _).set_ ⟨w.heap.size, 3, none⟩ hg _), (Off.setCell (Off.setCell (Off.setCell (Off.setCell aO (p := ⟨w.heap.size, 0, none⟩) (.inl (Nat.le_refl _)) _) (p := ⟨w.heap.size, 1, none⟩) (.inl (Nat.le_refl _)) _) (p := ⟨w.heap.size, 2, none⟩) (.inl (Nat.le_refl _)) _) (p := ⟨w.heap.size, 3, none⟩) (.inl (Nat.le_refl _)) _)⟩
    | false =>
      have hv2 : 1 < fv := hv1.2 rfl
      clear hv1
      refine (RX.out _).mono ?_
      rintro y wa ⟨rfl, hba⟩
      have ga := hR.since hba
      have a2 := Whole.below hb2 hba hb2.lt
      have a3 := Whole.below hb3 hba hb3.lt
      have aO := hO.since hba
      have Fl := Lib.hid (failD ga)
      rw [show (s4.1, failR s4.2 21) = t by have := HT.out; simpa [failS] using this] at Fl
      go_wp2_with fail
      refine Fl.out.mono ?_
      rintro y wb ⟨rfl, gb, ho'⟩
      replace a2 := ho'.whole a2 (by omega)
      replace a3 := ho'.whole a3 (by omega)
      replace aO := aO.trans ho' (fun _ _ z => z)
      have e2 := gb.c2
      have p0 := a3.cell 0
      have y0 := a2.cell 0
      have f0 := a2.frozen 0
      have p1 := a3.cell 1
      have y1 := a2.cell 1
      have f1 := a2.frozen 1
      have p2 := a3.cell 2
      have y2 := a2.cell 2
      have f2 := a2.frozen 2
      have p3 := a3.cell 3
      have y3 := a2.cell 3
      have f3 := a2.frozen 3
      by_cases h0 : t.2 = 0
      · have hz : (t.2 != 0) = false := by simp [h0]
        have hr := HR.out
        rw [if_pos h0] at hr
        simp only [Prod.mk.injEq] at hr
        obtain ⟨rfl, rfl, rfl, rfl⟩ := hr
        clear h0
        go_wp2
        exact bodyPost_ret (results_cell_row rfl _ _ w.heap.size 44 _ (0, 0) _ rfl (Whole.set_ (Whole.set_ (Whole.set_ (Whole.set_ a2 0 _) 1 _) 2 _) 3 _) Try.underlying44 rfl (by kernel_rfl)) rfl ⟨rfl, ((((gb.set_ ⟨w.heap.size, 0, none⟩ hg _).set_ ⟨w.heap.size, 1, none⟩ hg _).set_ ⟨w.heap.size, 2, none⟩ hg _).set_ ⟨w.heap.size, 3, none⟩ hg _), (Off.setCell (Off.setCell (Off.setCell (Off.setCell aO (p := ⟨w.heap.size, 0, none⟩) (.inl (Nat.le_refl _)) _) (p := ⟨w.heap.size, 1, none⟩) (.inl (Nat.le_refl _)) _) (p := ⟨w.heap.size, 2, none⟩) (.inl (Nat.le_refl _)) _) (p := ⟨w.heap.size, 3, none⟩) (.inl (Nat.le_refl _)) _)⟩
      · have hz : (t.2 != 0) = true := by simp [h0]
        have hr := HR.out
        rw [if_neg h0] at hr
        simp only [Prod.mk.injEq] at hr
        obtain ⟨rfl, rfl, rfl, rfl⟩ := hr
        clear h0
        go_wp2
        exact bodyPost_ret (results_cell_row rfl _ _ w.heap.size 44 _ (0, 0) _ rfl (Whole.set_ (Whole.set_ (Whole.set_ (Whole.set_ a2 0 _) 1 _) 2 _) 3 _) Try.underlying44 rfl (by kernel_rfl)) rfl ⟨rfl, ((((gb.set_ ⟨w.heap.size, 0, none⟩ hg _).set_ ⟨w.heap.size, 1, none⟩ hg _).set_ ⟨w.heap.size, 2, none⟩ hg _).set_ ⟨w.heap.size, 3, none⟩ hg _), (Off.setCell (Off.setCell (Off.setCell (Off.setCell aO (p := ⟨w.heap.size, 0, none⟩) (.inl (Nat.le_refl _)) _) (p := ⟨w.heap.size, 1, none⟩) (.inl (Nat.le_refl _)) _) (p := ⟨w.heap.size, 2, none⟩) (.inl (Nat.le_refl _)) _) (p := ⟨w.heap.size, 3, none⟩) (.inl (Nat.le_refl _)) _)⟩
  | false =>
    clear hv1
    refine (RX.out _).mono ?_
    rintro y wa ⟨rfl, hba⟩
    have ga := hR.since hba
    have a2 := Whole.below hb2 hba hb2.lt
    have a3 := Whole.below hb3 hba hb3.lt
    have aO := hO.since hba
    have Fl := Lib.hid (failD ga)
    rw [show (s4.1, failR s4.2 21) = t by have := HT.out; simpa [failS] using this] at Fl
    go_wp2_with fail
    refine Fl.out.mono ?_
    rintro y wb ⟨rfl, gb, ho'⟩
    replace a2 := ho'.whole a2 (by omega)
    replace a3 := ho'.whole a3 (by omega)
    replace aO := aO.trans ho' (fun _ _ z => z)
    have e2 := gb.c2
    have p0 := a3.cell 0
    have y0 := a2.cell 0
    have f0 := a2.frozen 0
    have p1 := a3.cell 1
    have y1 := a2.cell 1
    have f1 := a2.frozen 1
    have p2 := a3.cell 2
    have y2 := a2.cell 2
    have f2 := a2.frozen 2
    have p3 := a3.cell 3
    have y3 := a2.cell 3
    have f3 := a2.frozen 3
    by_cases h0 : t.2 = 0
    · have hz : (t.2 != 0) = false := by simp [h0]
      have hr := HR.out
      rw [if_pos h0] at hr
      simp only [Prod.mk.injEq] at hr
      obtain ⟨rfl, rfl, rfl, rfl⟩ := hr
      clear h0
      go_wp2
      exact bodyPost_ret (results_cell_row rfl _ _ w.heap.size 44 _ (0, 0) _ rfl (Whole.set_ (Whole.set_ (Whole.set_ (Whole.set_ a2 0 _) 1 _) 2 _) 3 _) Try.underlying44 rfl (by kernel_rfl)) rfl ⟨rfl, ((((gb.set_ ⟨w.heap.size, 0, none⟩ hg _).set_ ⟨w.heap.size, 1, none⟩ hg _).set_ ⟨w.heap.size, 2, none⟩ hg _).set_ ⟨w.heap.size, 3, none⟩ hg _), (Off.setCell (Off.setCell (Off.setCell (Off.setCell aO (p := ⟨w.heap.size, 0, none⟩) (.inl (Nat.le_refl _)) _) (p := ⟨w.heap.size, 1, none⟩) (.inl (Nat.le_refl _)) _) (p := ⟨w.heap.size, 2, none⟩) (.inl (Nat.le_refl _)) _) (p := ⟨w.heap.size, 3, none⟩) (.inl (Nat.le_refl _)) _)⟩
    · have hz : (t.2 != 0) = true := by simp [h0]
      have hr := HR.out
      rw [if_neg h0] at hr
      simp only [Prod.mk.injEq] at hr
      obtain ⟨rfl, rfl, rfl, rfl⟩ := hr
      clear h0
      go_wp2
      exact bodyPost_ret (results_cell_row rfl _ _ w.heap.size 44 _ (0, 0) _ rfl (Whole.set_ (Whole.set_ (Whole.set_ (Whole.set_ a2 0 _) 1 _) 2 _) 3 _) Try.underlying44 rfl (by kernel_rfl)) rfl ⟨rfl, ((((gb.set_ ⟨w.heap.size, 0, none⟩ hg _).set_ ⟨w.heap.size, 1, none⟩ hg _).set_ ⟨w.heap.size, 2, none⟩ hg _).set_ ⟨w.heap.size, 3, none⟩ hg _), (Off.setCell (Off.setCell (Off.setCell (Off.setCell aO (p := ⟨w.heap.size, 0, none⟩) (.inl (Nat.le_refl _)) _) (p := ⟨w.heap.size, 1, none⟩) (.inl (Nat.le_refl _)) _) (p := ⟨w.heap.size, 2, none⟩) (.inl (Nat.le_refl _)) _) (p := ⟨w.heap.size, 3, none⟩) (.inl (Nat.le_refl _)) _)⟩

end Go.Proofs.Ytbgfjkgpekkciaa
