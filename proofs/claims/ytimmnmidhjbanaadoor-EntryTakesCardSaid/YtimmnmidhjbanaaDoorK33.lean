/- gleberef07.TakeRec, TakeOp, TakeAns. -/
import Derived.Test.YtimmnmidhjbanaaDoorK16
import Derived.Test.YtimmnmidhjbanaaDoorK32
namespace Go.Proofs.YtimmnmidhjbanaaDoor
open Go.RowKit
set_option linter.unusedVariables false
set_option maxRecDepth 100000 in
set_option maxHeartbeats 1600000 in
theorem refTakeOp_any {w : World} {B q n c : Nat} {A : Option Addr} {bb : List UInt8} {s t : RSt} (h : DcS w B q A n c bb s) {rkind : Int} {rx : Int} {ry : Int} {rkey : ByteArray} {rval : ByteArray} {rcl : Int} {rseq : Int} (hr : readOp s = ((rkind, rx, ry, rkey, rval, rcl, rseq), t)) :
    Calls Tryd.prog 61 #[.pointer (some ⟨q, 0, none⟩)] w (DPs B q A n c bb t (.agg #[.int .i64 rkind, .int .i64 rx, .int .i64 ry, .string rkey, .string rval, .int .i64 rcl, .int .i64 rseq]) w) := by
  have hg := h.lt
  unfold readOp at hr
  obtain ⟨⟨kind, s0⟩, e0⟩ : ∃ r, numS s = r := ⟨_, rfl⟩
  obtain ⟨⟨x, s1⟩, e1⟩ : ∃ r, numS s0 = r := ⟨_, rfl⟩
  obtain ⟨⟨y, s2⟩, e2⟩ : ∃ r, numS s1 = r := ⟨_, rfl⟩
  obtain ⟨⟨key, s3⟩, e3⟩ : ∃ r, txS s2 = r := ⟨_, rfl⟩
  obtain ⟨⟨val, s4⟩, e4⟩ : ∃ r, txS s3 = r := ⟨_, rfl⟩
  obtain ⟨⟨cl, s5⟩, e5⟩ : ∃ r, numS s4 = r := ⟨_, rfl⟩
  obtain ⟨⟨seq, s6⟩, e6⟩ : ∃ r, numS s5 = r := ⟨_, rfl⟩
  simp only [e0, e1, e2, e3, e4, e5, e6] at hr
  obtain ⟨ok, hok⟩ : ∃ b, opB kind x y key val cl seq = b := ⟨_, rfl⟩
  rw [hok] at hr
  injection hr with hr1 hr2
  rw [hr2] at hr1
  have HT := Lib.hid hr2
  have HR := Lib.hid hr1
  have E0 := Lib.hid e0
  have E1 := Lib.hid e1
  have E2 := Lib.hid e2
  have E3 := Lib.hid e3
  have E4 := Lib.hid e4
  have E5 := Lib.hid e5
  have E6 := Lib.hid e6
  clear hr1 hr2 e0 e1 e2 e3 e4 e5 e6
  obtain ⟨w1, hw1⟩ : ∃ w1, w1 = w.alloc (.cells #[.int .i64 0, .int .i64 0, .int .i64 0, .string ⟨#[]⟩, .string ⟨#[]⟩, .int .i64 0, .int .i64 0] 25) := ⟨_, rfl⟩
  have hs1 : Since w w1 := by rw [hw1]; exact (Since.refl w).alloc _
  have hb2 : Whole w1 w.heap.size 25 #[.int .i64 0, .int .i64 0, .int .i64 0, .string ⟨#[]⟩, .string ⟨#[]⟩, .int .i64 0, .int .i64 0] := by rw [hw1]; exact Whole.new w _ _
  have hR := h.since hs1
  have hO : Off (fun b => b = q) w w1 := hs1.off _
  have HW := Lib.hid hw1
  have hB := h.lie
  clear hw1 hs1 h
  go_enter Tryd.func61, Tryd.ntmps61
  go_wp2_with fail
  rw [← HW.out]
  refine (numD hR E0.out).mono ?_
  rintro y w2 ⟨rfl, hR', ho'⟩
  replace hb2 := ho'.whole hb2 (by omega)
  replace hO := hO.trans ho' (fun _ _ z => z)
  clear ho' hR
  go_wp2_with fail
  obtain ⟨w3, hv⟩ : ∃ wx, wx = w2.alloc (.cells #[.int .i64 kind, .int .i64 0, .int .i64 0, .string ⟨#[]⟩, .string ⟨#[]⟩, .int .i64 0, .int .i64 0] 25) := ⟨_, rfl⟩
  rw [← hv]
  obtain ⟨T3, hT3⟩ : ∃ T3, T3 = w2.heap.size := ⟨_, rfl⟩
  rw [← hT3]
  have hlt2 := hb2.lt
  have hsz := hO.size
  have hlR := hR'.lt
  have hR : DcS w3 B q A n c bb s0 := by rw [hv]; exact hR'.since ((Since.refl _).alloc _)
  replace hO : Off (fun b => b = q) w w3 := by rw [hv]; exact hO.alloc _
  replace hb2 : Whole w3 w.heap.size 25 #[.int .i64 0, .int .i64 0, .int .i64 0, .string ⟨#[]⟩, .string ⟨#[]⟩, .int .i64 0, .int .i64 0] := by rw [hv]; exact hb2.alloc _
  have hb3 : Whole w3 T3 25 #[.int .i64 kind, .int .i64 0, .int .i64 0, .string ⟨#[]⟩, .string ⟨#[]⟩, .int .i64 0, .int .i64 0] := by rw [hv, hT3]; exact Whole.new _ _ _
  have h3w : w.heap.size < T3 := by omega
  have h3q : q < T3 := by omega
  clear hv hR' hT3 hlt2 hsz hlR
  refine (numD hR E1.out).mono ?_
  rintro y w4 ⟨rfl, hR', ho'⟩
  replace hb2 := ho'.whole hb2 (by omega)
  replace hb3 := ho'.whole hb3 (by omega)
  replace hO := hO.trans ho' (fun _ _ z => z)
  clear ho' hR
  have y1 := hb3.cell 1
  have f1 := hb3.frozen 1
  go_wp2_with fail
  obtain ⟨w5, hv⟩ : ∃ wx, wx = w4.setCell ⟨T3, 1, none⟩ (.int .i64 x) := ⟨_, rfl⟩
  rw [← hv]
  have hR : DcS w5 B q A n c bb s1 := by rw [hv]; exact hR'.set_ ⟨T3, 1, none⟩ (show q < T3 by omega) _
  replace hO : Off (fun b => b = q) w w5 := by rw [hv]; exact hO.setCell (p := ⟨T3, 1, none⟩) (.inl (show w.heap.size ≤ T3 by omega)) _
  replace hb2 : Whole w5 w.heap.size 25 #[.int .i64 0, .int .i64 0, .int .i64 0, .string ⟨#[]⟩, .string ⟨#[]⟩, .int .i64 0, .int .i64 0] := by rw [hv]; exact hb2.far (p := ⟨T3, 1, none⟩) (show w.heap.size ≠ T3 by omega) _
  replace hb3 : Whole w5 T3 25 #[.int .i64 kind, .int .i64 x, .int .i64 0, .string ⟨#[]⟩, .string ⟨#[]⟩, .int .i64 0, .int .i64 0] := by rw [hv]; exact hb3.set_ 1 _
  clear hv hR' y1 f1
  refine (numD hR E2.out).mono ?_
  rintro y w6 ⟨rfl, hR', ho'⟩
  replace hb2 := ho'.whole hb2 (by omega)
  replace hb3 := ho'.whole hb3 (by omega)
  replace hO := hO.trans ho' (fun _ _ z => z)
  clear ho' hR
  have y2 := hb3.cell 2
  have f2 := hb3.frozen 2
  go_wp2_with fail
  obtain ⟨w7, hv⟩ : ∃ wx, wx = w6.setCell ⟨T3, 2, none⟩ (.int .i64 y) := ⟨_, rfl⟩
  rw [← hv]
  have hR : DcS w7 B q A n c bb s2 := by rw [hv]; exact hR'.set_ ⟨T3, 2, none⟩ (show q < T3 by omega) _
  replace hO : Off (fun b => b = q) w w7 := by rw [hv]; exact hO.setCell (p := ⟨T3, 2, none⟩) (.inl (show w.heap.size ≤ T3 by omega)) _
  replace hb2 : Whole w7 w.heap.size 25 #[.int .i64 0, .int .i64 0, .int .i64 0, .string ⟨#[]⟩, .string ⟨#[]⟩, .int .i64 0, .int .i64 0] := by rw [hv]; exact hb2.far (p := ⟨T3, 2, none⟩) (show w.heap.size ≠ T3 by omega) _
  replace hb3 : Whole w7 T3 25 #[.int .i64 kind, .int .i64 x, .int .i64 y, .string ⟨#[]⟩, .string ⟨#[]⟩, .int .i64 0, .int .i64 0] := by rw [hv]; exact hb3.set_ 2 _
  clear hv hR' y2 f2
  refine (textD hR E3.out).mono ?_
  rintro y w8 ⟨rfl, hR', ho'⟩
  replace hb2 := ho'.whole hb2 (by omega)
  replace hb3 := ho'.whole hb3 (by omega)
  replace hO := hO.trans ho' (fun _ _ z => z)
  clear ho' hR
  have y3 := hb3.cell 3
  have f3 := hb3.frozen 3
  go_wp2_with fail
  obtain ⟨w9, hv⟩ : ∃ wx, wx = w8.setCell ⟨T3, 3, none⟩ (.string key) := ⟨_, rfl⟩
  rw [← hv]
  have hR : DcS w9 B q A n c bb s3 := by rw [hv]; exact hR'.set_ ⟨T3, 3, none⟩ (show q < T3 by omega) _
  replace hO : Off (fun b => b = q) w w9 := by rw [hv]; exact hO.setCell (p := ⟨T3, 3, none⟩) (.inl (show w.heap.size ≤ T3 by omega)) _
  replace hb2 : Whole w9 w.heap.size 25 #[.int .i64 0, .int .i64 0, .int .i64 0, .string ⟨#[]⟩, .string ⟨#[]⟩, .int .i64 0, .int .i64 0] := by rw [hv]; exact hb2.far (p := ⟨T3, 3, none⟩) (show w.heap.size ≠ T3 by omega) _
  replace hb3 : Whole w9 T3 25 #[.int .i64 kind, .int .i64 x, .int .i64 y, .string key, .string ⟨#[]⟩, .int .i64 0, .int .i64 0] := by rw [hv]; exact hb3.set_ 3 _
  clear hv hR' y3 f3
  refine (textD hR E4.out).mono ?_
  rintro y w10 ⟨rfl, hR', ho'⟩
  replace hb2 := ho'.whole hb2 (by omega)
  replace hb3 := ho'.whole hb3 (by omega)
  replace hO := hO.trans ho' (fun _ _ z => z)
  clear ho' hR
  have y4 := hb3.cell 4
  have f4 := hb3.frozen 4
  go_wp2_with fail
  obtain ⟨w11, hv⟩ : ∃ wx, wx = w10.setCell ⟨T3, 4, none⟩ (.string val) := ⟨_, rfl⟩
  rw [← hv]
  have hR : DcS w11 B q A n c bb s4 := by rw [hv]; exact hR'.set_ ⟨T3, 4, none⟩ (show q < T3 by omega) _
  replace hO : Off (fun b => b = q) w w11 := by rw [hv]; exact hO.setCell (p := ⟨T3, 4, none⟩) (.inl (show w.heap.size ≤ T3 by omega)) _
  replace hb2 : Whole w11 w.heap.size 25 #[.int .i64 0, .int .i64 0, .int .i64 0, .string ⟨#[]⟩, .string ⟨#[]⟩, .int .i64 0, .int .i64 0] := by rw [hv]; exact hb2.far (p := ⟨T3, 4, none⟩) (show w.heap.size ≠ T3 by omega) _
  replace hb3 : Whole w11 T3 25 #[.int .i64 kind, .int .i64 x, .int .i64 y, .string key, .string val, .int .i64 0, .int .i64 0] := by rw [hv]; exact hb3.set_ 4 _
  clear hv hR' y4 f4
  refine (numD hR E5.out).mono ?_
  rintro y w12 ⟨rfl, hR', ho'⟩
  replace hb2 := ho'.whole hb2 (by omega)
  replace hb3 := ho'.whole hb3 (by omega)
  replace hO := hO.trans ho' (fun _ _ z => z)
  clear ho' hR
  have y5 := hb3.cell 5
  have f5 := hb3.frozen 5
  go_wp2_with fail
  obtain ⟨w13, hv⟩ : ∃ wx, wx = w12.setCell ⟨T3, 5, none⟩ (.int .i64 cl) := ⟨_, rfl⟩
  rw [← hv]
  have hR : DcS w13 B q A n c bb s5 := by rw [hv]; exact hR'.set_ ⟨T3, 5, none⟩ (show q < T3 by omega) _
  replace hO : Off (fun b => b = q) w w13 := by rw [hv]; exact hO.setCell (p := ⟨T3, 5, none⟩) (.inl (show w.heap.size ≤ T3 by omega)) _
  replace hb2 : Whole w13 w.heap.size 25 #[.int .i64 0, .int .i64 0, .int .i64 0, .string ⟨#[]⟩, .string ⟨#[]⟩, .int .i64 0, .int .i64 0] := by rw [hv]; exact hb2.far (p := ⟨T3, 5, none⟩) (show w.heap.size ≠ T3 by omega) _
  replace hb3 : Whole w13 T3 25 #[.int .i64 kind, .int .i64 x, .int .i64 y, .string key, .string val, .int .i64 cl, .int .i64 0] := by rw [hv]; exact hb3.set_ 5 _
  clear hv hR' y5 f5
  refine (numD hR E6.out).mono ?_
  rintro y w14 ⟨rfl, hR', ho'⟩
  replace hb2 := ho'.whole hb2 (by omega)
  replace hb3 := ho'.whole hb3 (by omega)
  replace hO := hO.trans ho' (fun _ _ z => z)
  clear ho' hR
  have y6 := hb3.cell 6
  have f6 := hb3.frozen 6
  have p0 := hb3.cell 0
  have p1 := hb3.cell 1
  have p2 := hb3.cell 2
  have p3 := hb3.cell 3
  have p4 := hb3.cell 4
  have p5 := hb3.cell 5
  go_wp2_with fail
  clear p0 p1 p2 p3 p4 p5
  obtain ⟨w15, hv⟩ : ∃ wx, wx = w14.setCell ⟨T3, 6, none⟩ (.int .i64 seq) := ⟨_, rfl⟩
  rw [← hv]
  have hR : DcS w15 B q A n c bb s6 := by rw [hv]; exact hR'.set_ ⟨T3, 6, none⟩ (show q < T3 by omega) _
  replace hO : Off (fun b => b = q) w w15 := by rw [hv]; exact hO.setCell (p := ⟨T3, 6, none⟩) (.inl (show w.heap.size ≤ T3 by omega)) _
  replace hb2 : Whole w15 w.heap.size 25 #[.int .i64 0, .int .i64 0, .int .i64 0, .string ⟨#[]⟩, .string ⟨#[]⟩, .int .i64 0, .int .i64 0] := by rw [hv]; exact hb2.far (p := ⟨T3, 6, none⟩) (show w.heap.size ≠ T3 by omega) _
  replace hb3 : Whole w15 T3 25 #[.int .i64 kind, .int .i64 x, .int .i64 y, .string key, .string val, .int .i64 cl, .int .i64 seq] := by rw [hv]; exact hb3.set_ 6 _
  clear hv hR' y6 f6
  have hSr := Since.refl w15
  have l0 := box_cell hb3 0 _ rfl
  have l1 := box_cell hb3 1 _ rfl
  have l2 := box_cell hb3 2 _ rfl
  have l3 := box_cell hb3 3 _ rfl
  have l4 := box_cell hb3 4 _ rfl
  have l5 := box_cell hb3 5 _ rfl
  have l6 := box_cell hb3 6 _ rfl
  have RX : Hid (∀ W, Calls Tryd.prog 48 #[.agg #[.int .i64 kind, .int .i64 x, .int .i64 y, .string key, .string val, .int .i64 cl, .int .i64 seq]] W fun e w' => e = .returned (.bool ok) ∧ Below W.heap.size W w') := Lib.hid (fun W => refRightOp_at hok W)
  clear hok l0 l1 l2 l3 l4 l5 l6 hSr
  cases ok with
  | true =>
    refine (RX.out _).mono ?_
    rintro y wa ⟨rfl, hba⟩
    have ga := hR.since hba
    have a2 := Whole.below hb2 hba hb2.lt
    have a3 := Whole.below hb3 hba hb3.lt
    have aO := hO.since hba
    have ht : s6 = t := by have := HT.out; simpa [failS] using this
    subst ht
    have e2 := ga.c2
    have p0 := a3.cell 0
    have y0 := a2.cell 0
    have f0 := a2.frozen 0
    have p1 := a3.cell 1
    have y1 := a2.cell 1
    have f1 := a2.frozen 1
    have p2 := a3.cell 2
    have y2 := a2.cell 2
    have f2 := a2.frozen 2
    have p3 := a3.cell 3
    have y3 := a2.cell 3
    have f3 := a2.frozen 3
    have p4 := a3.cell 4
    have y4 := a2.cell 4
    have f4 := a2.frozen 4
    have p5 := a3.cell 5
    have y5 := a2.cell 5
    have f5 := a2.frozen 5
    have p6 := a3.cell 6
    have y6 := a2.cell 6
    have f6 := a2.frozen 6
    by_cases h0 : s6.2 = 0
    · have hz : (s6.2 != 0) = false := by simp [h0]
      have hr := HR.out
      rw [if_pos h0] at hr
      simp only [Prod.mk.injEq] at hr
      obtain ⟨rfl, rfl, rfl, rfl, rfl, rfl, rfl⟩ := hr
      clear h0
      go_wp2
      exact bodyPost_ret (results_cell_row rfl _ _ w.heap.size 25 _ (0, 0) _ rfl (Whole.set_ (Whole.set_ (Whole.set_ (Whole.set_ (Whole.set_ (Whole.set_ (Whole.set_ a2 0 _) 1 _) 2 _) 3 _) 4 _) 5 _) 6 _) Tryd.underlying25 rfl (by kernel_rfl)) rfl ⟨rfl, (((((((ga.set_ ⟨w.heap.size, 0, none⟩ hg _).set_ ⟨w.heap.size, 1, none⟩ hg _).set_ ⟨w.heap.size, 2, none⟩ hg _).set_ ⟨w.heap.size, 3, none⟩ hg _).set_ ⟨w.heap.size, 4, none⟩ hg _).set_ ⟨w.heap.size, 5, none⟩ hg _).set_ ⟨w.heap.size, 6, none⟩ hg _), (Off.setCell (Off.setCell (Off.setCell (Off.setCell (Off.setCell (Off.setCell (Off.setCell aO (p := ⟨w.heap.size, 0, none⟩) (.inl (Nat.le_refl _)) _) (p := ⟨w.heap.size, 1, none⟩) (.inl (Nat.le_refl _)) _) (p := ⟨w.heap.size, 2, none⟩) (.inl (Nat.le_refl _)) _) (p := ⟨w.heap.size, 3, none⟩) (.inl (Nat.le_refl _)) _) (p := ⟨w.heap.size, 4, none⟩) (.inl (Nat.le_refl _)) _) (p := ⟨w.heap.size, 5, none⟩) (.inl (Nat.le_refl _)) _) (p := ⟨w.heap.size, 6, none⟩) (.inl (Nat.le_refl _)) _)⟩
    · have hz : (s6.2 != 0) = true := by simp [h0]
      have hr := HR.out
      rw [if_neg h0] at hr
      simp only [Prod.mk.injEq] at hr
      obtain ⟨rfl, rfl, rfl, rfl, rfl, rfl, rfl⟩ := hr
      clear h0
      go_wp2
      exact bodyPost_ret (results_cell_row rfl _ _ w.heap.size 25 _ (0, 0) _ rfl (Whole.set_ (Whole.set_ (Whole.set_ (Whole.set_ (Whole.set_ (Whole.set_ (Whole.set_ a2 0 _) 1 _) 2 _) 3 _) 4 _) 5 _) 6 _) Tryd.underlying25 rfl (by kernel_rfl)) rfl ⟨rfl, (((((((ga.set_ ⟨w.heap.size, 0, none⟩ hg _).set_ ⟨w.heap.size, 1, none⟩ hg _).set_ ⟨w.heap.size, 2, none⟩ hg _).set_ ⟨w.heap.size, 3, none⟩ hg _).set_ ⟨w.heap.size, 4, none⟩ hg _).set_ ⟨w.heap.size, 5, none⟩ hg _).set_ ⟨w.heap.size, 6, none⟩ hg _), (Off.setCell (Off.setCell (Off.setCell (Off.setCell (Off.setCell (Off.setCell (Off.setCell aO (p := ⟨w.heap.size, 0, none⟩) (.inl (Nat.le_refl _)) _) (p := ⟨w.heap.size, 1, none⟩) (.inl (Nat.le_refl _)) _) (p := ⟨w.heap.size, 2, none⟩) (.inl (Nat.le_refl _)) _) (p := ⟨w.heap.size, 3, none⟩) (.inl (Nat.le_refl _)) _) (p := ⟨w.heap.size, 4, none⟩) (.inl (Nat.le_refl _)) _) (p := ⟨w.heap.size, 5, none⟩) (.inl (Nat.le_refl _)) _) (p := ⟨w.heap.size, 6, none⟩) (.inl (Nat.le_refl _)) _)⟩
  | false =>
    refine (RX.out _).mono ?_
    rintro y wa ⟨rfl, hba⟩
    have ga := hR.since hba
    have a2 := Whole.below hb2 hba hb2.lt
    have a3 := Whole.below hb3 hba hb3.lt
    have aO := hO.since hba
    have Fl := Lib.hid (failD ga)
    rw [show (s6.1, failR s6.2 21) = t by have := HT.out; simpa [failS] using this] at Fl
    go_wp2_with fail
    refine Fl.out.mono ?_
    rintro y wb ⟨rfl, gb, ho'⟩
    replace a2 := ho'.whole a2 (by omega)
    replace a3 := ho'.whole a3 (by omega)
    replace aO := aO.trans ho' (fun _ _ z => z)
    have e2 := gb.c2
    have p0 := a3.cell 0
    have y0 := a2.cell 0
    have f0 := a2.frozen 0
    have p1 := a3.cell 1
    have y1 := a2.cell 1
    have f1 := a2.frozen 1
    have p2 := a3.cell 2
    have y2 := a2.cell 2
    have f2 := a2.frozen 2
    have p3 := a3.cell 3
    have y3 := a2.cell 3
    have f3 := a2.frozen 3
    have p4 := a3.cell 4
    have y4 := a2.cell 4
    have f4 := a2.frozen 4
    have p5 := a3.cell 5
    have y5 := a2.cell 5
    have f5 := a2.frozen 5
    have p6 := a3.cell 6
    have y6 := a2.cell 6
    have f6 := a2.frozen 6
    by_cases h0 : t.2 = 0
    · have hz : (t.2 != 0) = false := by simp [h0]
      have hr := HR.out
      rw [if_pos h0] at hr
      simp only [Prod.mk.injEq] at hr
      obtain ⟨rfl, rfl, rfl, rfl, rfl, rfl, rfl⟩ := hr
      clear h0
      go_wp2
      exact bodyPost_ret (results_cell_row rfl _ _ w.heap.size 25 _ (0, 0) _ rfl (Whole.set_ (Whole.set_ (Whole.set_ (Whole.set_ (Whole.set_ (Whole.set_ (Whole.set_ a2 0 _) 1 _) 2 _) 3 _) 4 _) 5 _) 6 _) Tryd.underlying25 rfl (by kernel_rfl)) rfl ⟨rfl, (((((((gb.set_ ⟨w.heap.size, 0, none⟩ hg _).set_ ⟨w.heap.size, 1, none⟩ hg _).set_ ⟨w.heap.size, 2, none⟩ hg _).set_ ⟨w.heap.size, 3, none⟩ hg _).set_ ⟨w.heap.size, 4, none⟩ hg _).set_ ⟨w.heap.size, 5, none⟩ hg _).set_ ⟨w.heap.size, 6, none⟩ hg _), (Off.setCell (Off.setCell (Off.setCell (Off.setCell (Off.setCell (Off.setCell (Off.setCell aO (p := ⟨w.heap.size, 0, none⟩) (.inl (Nat.le_refl _)) _) (p := ⟨w.heap.size, 1, none⟩) (.inl (Nat.le_refl _)) _) (p := ⟨w.heap.size, 2, none⟩) (.inl (Nat.le_refl _)) _) (p := ⟨w.heap.size, 3, none⟩) (.inl (Nat.le_refl _)) _) (p := ⟨w.heap.size, 4, none⟩) (.inl (Nat.le_refl _)) _) (p := ⟨w.heap.size, 5, none⟩) (.inl (Nat.le_refl _)) _) (p := ⟨w.heap.size, 6, none⟩) (.inl (Nat.le_refl _)) _)⟩
    · have hz : (t.2 != 0) = true := by simp [h0]
      have hr := HR.out
      rw [if_neg h0] at hr
      simp only [Prod.mk.injEq] at hr
      obtain ⟨rfl, rfl, rfl, rfl, rfl, rfl, rfl⟩ := hr
      clear h0
      go_wp2
      exact bodyPost_ret (results_cell_row rfl _ _ w.heap.size 25 _ (0, 0) _ rfl (Whole.set_ (Whole.set_ (Whole.set_ (Whole.set_ (Whole.set_ (Whole.set_ (Whole.set_ a2 0 _) 1 _) 2 _) 3 _) 4 _) 5 _) 6 _) Tryd.underlying25 rfl (by kernel_rfl)) rfl ⟨rfl, (((((((gb.set_ ⟨w.heap.size, 0, none⟩ hg _).set_ ⟨w.heap.size, 1, none⟩ hg _).set_ ⟨w.heap.size, 2, none⟩ hg _).set_ ⟨w.heap.size, 3, none⟩ hg _).set_ ⟨w.heap.size, 4, none⟩ hg _).set_ ⟨w.heap.size, 5, none⟩ hg _).set_ ⟨w.heap.size, 6, none⟩ hg _), (Off.setCell (Off.setCell (Off.setCell (Off.setCell (Off.setCell (Off.setCell (Off.setCell aO (p := ⟨w.heap.size, 0, none⟩) (.inl (Nat.le_refl _)) _) (p := ⟨w.heap.size, 1, none⟩) (.inl (Nat.le_refl _)) _) (p := ⟨w.heap.size, 2, none⟩) (.inl (Nat.le_refl _)) _) (p := ⟨w.heap.size, 3, none⟩) (.inl (Nat.le_refl _)) _) (p := ⟨w.heap.size, 4, none⟩) (.inl (Nat.le_refl _)) _) (p := ⟨w.heap.size, 5, none⟩) (.inl (Nat.le_refl _)) _) (p := ⟨w.heap.size, 6, none⟩) (.inl (Nat.le_refl _)) _)⟩

end Go.Proofs.YtimmnmidhjbanaaDoor
