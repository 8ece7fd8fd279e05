/- The document's Length, Beside, Apart. -/
import Derived.Test.YtgnhamhkpbadbaaBRef
namespace Go.Proofs.Ytgnhamhkpbadbaa
open Go.RowKit
set_option linter.unusedVariables false
set_option linter.unusedSimpArgs false
theorem of_ex (k d b : Int) : ∃ p q r s E : Int, OfZ k d b p q r s E := by
  cases h : okP k d b
  · exact ⟨0, 0, 0, 0, 1, .inr ⟨h, rfl, rfl, rfl, rfl, rfl⟩⟩
  · exact ⟨(zoneR k d b).x, (zoneR k d b).y, (zoneR k d b).w, (zoneR k d b).h, 0, .inl ⟨h, rfl, rfl⟩⟩
theorem ofz_no {k d b p q r s E : Int} (h : OfZ k d b p q r s E) (g : okP k d b = false) : E = 1 := by
  rcases h with ⟨h, _⟩ | ⟨_, _, _, _, _, e⟩
  · rw [h] at g; exact absurd g (by decide)
  · exact e
set_option maxRecDepth 100000 in
set_option maxHeartbeats 12800000 in
theorem rLength_any (k d b f c : Int) (w : World) : Calls Try.prog 30 #[.int .i64 k, .agg #[.int .i64 d, .int .i64 b], .agg #[.int .i64 f, .int .i64 c]] w fun e w' => e = .returned (.int .i64 (lenP k d b f c)) ∧ Below w.heap.size w w' := by
  obtain ⟨p, q, r, s, E, hO1⟩ := of_ex k d b
  obtain ⟨p', q', r', s', E', hO2⟩ := of_ex k f c
  obtain ⟨w0, hw0⟩ : ∃ w0, w0 = (w.alloc (.cells #[.int .i64 d, .int .i64 b] 27)).alloc (.cells #[.int .i64 f, .int .i64 c] 27) := ⟨_, rfl⟩
  have hs0 : Since w w0 := by rw [hw0]; exact ((Since.refl w).alloc _).alloc _
  have wh0 : Whole w0 (w.heap.size) 27 #[.int .i64 d, .int .i64 b] := by rw [hw0]; exact (Whole.new w _ _).alloc _
  have wh1 : Whole w0 (w.heap.size + 1) 27 #[.int .i64 f, .int .i64 c] := by rw [hw0]; exact (Whole.new (w.alloc _) _ _).at_ (by simp)
  have HW := Lib.hid hw0
  have c0_0 := box_cell wh0 0 (.int .i64 d) rfl
  have c0_1 := box_cell wh0 1 (.int .i64 b) rfl
  have c1_0 := box_cell wh1 0 (.int .i64 f) rfl
  have c1_1 := box_cell wh1 1 (.int .i64 c) rfl
  have hsr := Since.refl w0
  have hsd := hsr.drew
  clear hw0 wh0 wh1
  have HO1 := Lib.hid hO1
  have HO2 := Lib.hid hO2
  cases h1 : okP k d b
  · obtain rfl := ofz_no hO1 h1
    rw [show lenP k d b f c = 0 from if_neg (by unfold apz; rw [h1]; simp)]
    clear hO1 hO2 h1
    go_enter Try.func30, Try.ntmps30
    go_wp2_with fail
    rw [← HW.out]
    go_wp2_with (first | (go_at_call 76; (with_reducible refine (Calls.since (by assumption) (wrOf_at _ HO1.out)).mono ?_); rintro e w1 ⟨rfl, hb1⟩; have hsa : Since w0 (w1.alloc (.cells #[.int .i64 p, .int .i64 q, .int .i64 r, .int .i64 s] 121)) := hb1.alloc _) | (go_at_call 76; (with_reducible refine (wrOf_at _ HO2.out).mono ?_); rintro e w2 ⟨rfl, hd2⟩; have hs2 : Since w0 w2 := Since.trans (hb1.alloc _) hd2; have v7 : Whole w2 w1.heap.size 121 #[.int .i64 p, .int .i64 q, .int .i64 r, .int .i64 s] := Since.whole hd2 (Whole.new w1 _ _); have hsb : Since w0 (w2.alloc (.cells #[.int .i64 p', .int .i64 q', .int .i64 r', .int .i64 s'] 121)) := hs2.alloc _))
    go_ret
    exact ⟨rfl, hs0.trans (hs2.alloc _)⟩
  · cases h2 : okP k f c
    · obtain rfl := ofz_no hO2 h2
      rw [show lenP k d b f c = 0 from if_neg (by unfold apz; rw [h2]; simp)]
      obtain rfl : E = 0 := by
        rcases hO1 with ⟨_, _, e⟩ | ⟨g, _⟩
        · exact e
        · rw [h1] at g; exact absurd g (by decide)
      clear hO1 hO2 h1 h2
      go_enter Try.func30, Try.ntmps30
      go_wp2_with fail
      rw [← HW.out]
      go_wp2_with (first | (go_at_call 76; (with_reducible refine (Calls.since (by assumption) (wrOf_at _ HO1.out)).mono ?_); rintro e w1 ⟨rfl, hb1⟩; have hsa : Since w0 (w1.alloc (.cells #[.int .i64 p, .int .i64 q, .int .i64 r, .int .i64 s] 121)) := hb1.alloc _) | (go_at_call 76; (with_reducible refine (wrOf_at _ HO2.out).mono ?_); rintro e w2 ⟨rfl, hd2⟩; have hs2 : Since w0 w2 := Since.trans (hb1.alloc _) hd2; have v7 : Whole w2 w1.heap.size 121 #[.int .i64 p, .int .i64 q, .int .i64 r, .int .i64 s] := Since.whole hd2 (Whole.new w1 _ _); have hsb : Since w0 (w2.alloc (.cells #[.int .i64 p', .int .i64 q', .int .i64 r', .int .i64 s'] 121)) := hs2.alloc _))
      go_ret
      exact ⟨rfl, hs0.trans (hs2.alloc _)⟩
    · obtain ⟨rfl, hz1⟩ : E = 0 ∧ zoneR k d b = ⟨p, q, r, s⟩ := by
        rcases hO1 with ⟨_, z, e⟩ | ⟨g, _⟩
        · exact ⟨e, z⟩
        · rw [h1] at g; exact absurd g (by decide)
      obtain ⟨rfl, hz2⟩ : E' = 0 ∧ zoneR k f c = ⟨p', q', r', s'⟩ := by
        rcases hO2 with ⟨_, z, e⟩ | ⟨g, _⟩
        · exact ⟨e, z⟩
        · rw [h2] at g; exact absurd g (by decide)
      cases hm : metB d b f c
      · rw [len_eq h1 h2 hm]
        have b1 := zone_bd h1
        have b2 := zone_bd h2
        have hsd := ok_side h1
        have hsb := side_bd k
        rw [hz1] at b1 ⊢
        rw [hz2] at b2 ⊢
        dsimp only at b1 b2
        unfold lenD
        dsimp only
        obtain ⟨sz, hsz⟩ : ∃ x, side k = x := ⟨_, rfl⟩
        rw [hsz] at b1 b2 hsd hsb ⊢
        have HSI := Lib.hid hsz
        have HM := Lib.hid hm
        have HS := Lib.hid (show 0 < sz ∧ sz ≤ 65536 by omega)
        have HB1 := Lib.hid (show sm p ∧ sm r ∧ sm p' ∧ sm r' by unfold sm; omega)
        have HB2 := Lib.hid (show sm q ∧ sm s ∧ sm q' ∧ sm s' by unfold sm; omega)
        have k1 : 0 ≤ ov q s q' s' ∧ ov q s q' s' ≤ 65536 := by unfold ov; omega
        have k2 : 0 ≤ ov p r p' r' ∧ ov p r p' r' ≤ 65536 := by unfold ov; omega
        obtain ⟨t1, ht1⟩ : ∃ x, tch sz p r p' r' = x := ⟨_, rfl⟩
        obtain ⟨t2, ht2⟩ : ∃ x, tch sz q s q' s' = x := ⟨_, rfl⟩
        obtain ⟨u1, hu1⟩ : ∃ x, twc sz p r p' r' = x := ⟨_, rfl⟩
        obtain ⟨u2, hu2⟩ : ∃ x, twc sz q s q' s' = x := ⟨_, rfl⟩
        obtain ⟨C1, hc1⟩ : ∃ x, ov q s q' s' = x := ⟨_, rfl⟩
        obtain ⟨C2, hc2⟩ : ∃ x, ov p r p' r' = x := ⟨_, rfl⟩
        rw [ht1, ht2, hu1, hu2, hc1, hc2]
        rw [hc1] at k1
        rw [hc2] at k2
        have HT1 := Lib.hid ht1
        have HT2 := Lib.hid ht2
        have HW1 := Lib.hid hu1
        have HW2 := Lib.hid hu2
        have HC1 := Lib.hid hc1
        have HC2 := Lib.hid hc2
        have W : ∀ x : Int, 0 ≤ x → x ≤ 262144 → wrap64 x = x := fun x h1 h2 => IntWalk.wrap64_in _ ⟨by omega, by omega⟩
        have g1 := W C1 (by omega) (by omega)
        have g2 := W C2 (by omega) (by omega)
        have g3 := W (C1 + C1) (by omega) (by omega)
        have g4 := W (C2 + C2) (by omega) (by omega)
        have g5 := W (C1 + C2) (by omega) (by omega)
        have g6 := W (C1 + C1 + C2) (by omega) (by omega)
        have g7 := W (C1 + C2 + C2) (by omega) (by omega)
        have g8 := W (C1 + C1 + C2 + C2) (by omega) (by omega)
        have W' : ∀ x : Int, 0 ≤ x → x ≤ 262144 → IntKind.i64.wrap x = x := fun x h1 h2 => IntWalk.i64_in _ (by omega)
        have g1' := W' C1 (by omega) (by omega)
        have g2' := W' C2 (by omega) (by omega)
        have g3' := W' (C1 + C1) (by omega) (by omega)
        have g4' := W' (C2 + C2) (by omega) (by omega)
        have g5' := W' (C1 + C2) (by omega) (by omega)
        have g6' := W' (C1 + C1 + C2) (by omega) (by omega)
        have g7' := W' (C1 + C2 + C2) (by omega) (by omega)
        have g8' := W' (C1 + C1 + C2 + C2) (by omega) (by omega)
        clear W W' hO1 hO2 h1 h2 hz1 hz2 hm b1 b2 hsd hsb hsz k1 k2 ht1 ht2 hu1 hu2 hc1 hc2
        cases t1 <;> cases t2 <;> try cases u1 <;> try cases u2
        all_goals
          go_enter Try.func30, Try.ntmps30
          go_wp2_with fail
          rw [← HW.out]
          go_wp2_with (first | (go_at_call 76; (with_reducible refine (Calls.since (by assumption) (wrOf_at _ HO1.out)).mono ?_); rintro e w1 ⟨rfl, hb1⟩; have hsa : Since w0 (w1.alloc (.cells #[.int .i64 p, .int .i64 q, .int .i64 r, .int .i64 s] 121)) := hb1.alloc _) | (go_at_call 76; (with_reducible refine (wrOf_at _ HO2.out).mono ?_); rintro e w2 ⟨rfl, hd2⟩; have hs2 : Since w0 w2 := Since.trans (hb1.alloc _) hd2; have v7 : Whole w2 w1.heap.size 121 #[.int .i64 p, .int .i64 q, .int .i64 r, .int .i64 s] := Since.whole hd2 (Whole.new w1 _ _); have hsb : Since w0 (w2.alloc (.cells #[.int .i64 p', .int .i64 q', .int .i64 r', .int .i64 s'] 121)) := hs2.alloc _) | (go_at_call 77; (with_reducible refine (refMeet_at HM.out _).mono ?_); rintro e w3 ⟨rfl, hd3⟩; have hs3 : Since w0 w3 := Since.trans (hs2.alloc _) hd3; have v9 : Whole w3 w2.heap.size 121 #[.int .i64 p', .int .i64 q', .int .i64 r', .int .i64 s'] := Since.whole hd3 (Whole.new w2 _ _); have y7 : Whole w3 w1.heap.size 121 #[.int .i64 p, .int .i64 q, .int .i64 r, .int .i64 s] := Since.whole hd3 (v7.alloc _); have l70 := y7.cell 0; have l90 := v9.cell 0; have l71 := y7.cell 1; have l91 := v9.cell 1; have l72 := y7.cell 2; have l92 := v9.cell 2; have l73 := y7.cell 3; have l93 := v9.cell 3) | (go_at_call 78; (with_reducible refine (refSide_at HSI.out _).mono ?_); rintro e wz ⟨rfl, rfl⟩) | (go_at_call 79; (with_reducible refine (rTouch_at HT1.out HS.out HB1.out _).mono ?_); rintro e wz ⟨rfl, rfl⟩) | (go_at_call 79; (with_reducible refine (rTouch_at HT2.out HS.out HB2.out _).mono ?_); rintro e wz ⟨rfl, rfl⟩) | (go_at_call 81; (with_reducible refine (rTwice_at HW1.out HS.out HB1.out _).mono ?_); rintro e wz ⟨rfl, rfl⟩) | (go_at_call 81; (with_reducible refine (rTwice_at HW2.out HS.out HB2.out _).mono ?_); rintro e wz ⟨rfl, rfl⟩) | (go_at_call 80; (with_reducible refine (rCommon_at HC1.out HB2.out _).mono ?_); rintro e wz ⟨rfl, rfl⟩) | (go_at_call 80; (with_reducible refine (rCommon_at HC2.out HB1.out _).mono ?_); rintro e wz ⟨rfl, rfl⟩))
          go_ret
          exact ⟨ret_int (by first | rfl | omega | (simp [g1, g2, g3, g4, g5, g6, g7, g8, g1', g2', g3', g4', g5', g6', g7', g8']; done) | (simp [g1, g2, g3, g4, g5, g6, g7, g8, g1', g2', g3', g4', g5', g6', g7', g8']; omega)), hs0.trans (by assumption)⟩
      · rw [show lenP k d b f c = 0 from if_neg (by unfold apz; rw [hm]; simp)]
        have HM := Lib.hid hm
        clear hO1 hO2 h1 h2 hz1 hz2 hm
        go_enter Try.func30, Try.ntmps30
        go_wp2_with fail
        rw [← HW.out]
        go_wp2_with (first | (go_at_call 76; (with_reducible refine (Calls.since (by assumption) (wrOf_at _ HO1.out)).mono ?_); rintro e w1 ⟨rfl, hb1⟩; have hsa : Since w0 (w1.alloc (.cells #[.int .i64 p, .int .i64 q, .int .i64 r, .int .i64 s] 121)) := hb1.alloc _) | (go_at_call 76; (with_reducible refine (wrOf_at _ HO2.out).mono ?_); rintro e w2 ⟨rfl, hd2⟩; have hs2 : Since w0 w2 := Since.trans (hb1.alloc _) hd2; have v7 : Whole w2 w1.heap.size 121 #[.int .i64 p, .int .i64 q, .int .i64 r, .int .i64 s] := Since.whole hd2 (Whole.new w1 _ _); have hsb : Since w0 (w2.alloc (.cells #[.int .i64 p', .int .i64 q', .int .i64 r', .int .i64 s'] 121)) := hs2.alloc _) | (go_at_call 77; (with_reducible refine (refMeet_at HM.out _).mono ?_); rintro e w3 ⟨rfl, hd3⟩; have hs3 : Since w0 w3 := Since.trans (hs2.alloc _) hd3; have v9 : Whole w3 w2.heap.size 121 #[.int .i64 p', .int .i64 q', .int .i64 r', .int .i64 s'] := Since.whole hd3 (Whole.new w2 _ _); have y7 : Whole w3 w1.heap.size 121 #[.int .i64 p, .int .i64 q, .int .i64 r, .int .i64 s] := Since.whole hd3 (v7.alloc _); have l70 := y7.cell 0; have l90 := v9.cell 0; have l71 := y7.cell 1; have l91 := v9.cell 1; have l72 := y7.cell 2; have l92 := v9.cell 2; have l73 := y7.cell 3; have l93 := v9.cell 3))
        go_ret
        exact ⟨rfl, hs0.trans hs3⟩
end Go.Proofs.Ytgnhamhkpbadbaa
