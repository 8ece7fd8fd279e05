/- QuadBack's walk: the parts of both halves, put together, are the tree. -/
import Derived.Test.YthfhpejpjiaikaaGreatK14
import Derived.Test.YthfhpejpjiaikaaGreatK15
import Derived.Test.YthfhpejpjiaikaaGreatK37
import Derived.Test.YthfhpejpjiaikaaGreatK40
import Derived.Test.YthfhpejpjiaikaaGreatK41
import Derived.Test.YthfhpejpjiaikaaGreatK42
import Derived.Test.YthfhpejpjiaikaaGreatK43
import Derived.Test.YthfhpejpjiaikaaGreatK44
namespace Go.Proofs.YthfhpejpjiaikaaGreat
open Go.RowKit
attribute [local go_sem] Oper.semAt_some
set_option linter.unusedVariables false
set_option linter.unusedSimpArgs false
theorem fits_all2 {k d b : Int} (ho : okP k d b = true) (l : List Rq) : (fitsQ (zoneR k d b) l).all (okR (zoneR k d b)) = true := by
  obtain ⟨-, hw, hh, -⟩ := zone_right ho
  exact List.all_eq_true.2 (fun r hr => fits_ok (zone_good ho) hw hh hr)
theorem filt_all {L : List Rq} {p q : Rq → Bool} (h : L.all p = true) : (L.filter q).all p = true := List.all_eq_true.2 (fun r hr => List.all_eq_true.1 h r (List.mem_filter.1 hr).1)
set_option maxRecDepth 100000 in
set_option maxHeartbeats 12800000 in
theorem back8_go (a0 a1 a2 : Int) (b0 : Option Addr) (len0 cap0 : Nat) (l : List Rq) (w : World)
    (k0 : (Lit.int .i64 a0).wf = true) (k1 : (Lit.int .i64 a1).wf = true) (k2 : (Lit.int .i64 a2).wf = true) (wl : LentE encQ 5 w.heap.size w (.slice b0 len0 cap0) l) :
    Calls Tryz.prog 4 #[.int .i64 a0, .agg #[.int .i64 a1, .int .i64 a2], .slice b0 len0 cap0] w fun e w' => e = .returned (.bool true) ∧ Below w.heap.size w w' := by
  obtain ⟨w0, hw0⟩ : ∃ w0, w0 = w.alloc (.cells #[.int .i64 a1, .int .i64 a2] 23) := ⟨_, rfl⟩
  have hs0 : Since w w0 := by rw [hw0]; exact (Since.refl w).alloc _
  have wh0 : Whole w0 w.heap.size 23 #[.int .i64 a1, .int .i64 a2] := by rw [hw0]; exact Whole.new w _ _
  have HW := Lib.hid hw0
  have HS0 := Lib.hid hs0
  have HWL := Lib.hid wl
  have hsr := Since.refl w0
  obtain ⟨e0, hb0⟩ : ∃ e, lightQ l = e := ⟨_, rfl⟩
  have HL0 := Lib.hid (fun W (hW : Since w0 W) => light8_any (wl.since (hs0.trans hW) (Nat.le_refl _)) (hs0.trans hW).size_ hb0)
  clear hw0 wl
  cases e0 with
  | false =>
    clear wh0 hs0
    go_enter Tryz.func4, Tryz.ntmps4
    go_wp2_with fail
    rw [← HW.out]
    go_wp2_with (first | (go_at_call 5; (with_reducible refine (HL0.out _ (by assumption)).mono ?_); rintro e w1 ⟨rfl, hbw1⟩; (have hsw1 := Since.trans (show Since w0 _ by assumption) hbw1)) | (go_at_call 6; (with_reducible refine (knows8_any _).mono ?_); rintro e w2 ⟨rfl, hbw2⟩; (have hsw2 := Since.trans (show Since w0 _ by assumption) hbw2)))
    go_ret
    exact ⟨rfl, HS0.out.trans (by assumption)⟩
  | true =>
    have hl80 := lightQ_len hb0
    obtain ⟨K, hK⟩ : ∃ K, 1 + a0 % 16 = K := ⟨_, rfl⟩
    obtain ⟨t, ht⟩ : ∃ t, a0.tmod 16 = t := ⟨_, rfl⟩
    have t1 : IntKind.i64.wrap (t + 16) = t + 16 := IntWalk.i64_in _ (by have := tmod_bd a0 16 (by omega); omega)
    have t2 : (t + 16).tmod 16 = a0 % 16 := by rw [← ht]; exact tmod_pos a0 16 (by omega)
    have t3 : IntKind.i64.wrap (1 + a0 % 16) = K := by rw [← hK]; exact IntWalk.i64_in _ (by omega)
    have hK1 : 1 ≤ K := by omega
    have hK2 : K ≤ 16 := by omega
    have ho := some_ok K a1 a2 ⟨hK1, hK2⟩
    obtain ⟨D, hD⟩ : ∃ D, smD K a1 = D := ⟨_, rfl⟩
    obtain ⟨E, hE⟩ : ∃ E, smB K a1 a2 = E := ⟨_, rfl⟩
    rw [hD, hE] at ho
    have HSM := Lib.hid (fun W => some_at W (by omega) hK2 hD hE)
    have HO := Lib.hid ho
    have HN8 := Lib.hid hl80
    clear hK ho hb0 hl80 hs0 hD hE
    go_enter Tryz.func4, Tryz.ntmps4
    go_wp2_with fail
    rw [← HW.out]
    go_wp2_with (first | (go_at_call 5; (with_reducible refine (HL0.out _ (by assumption)).mono ?_); rintro e w1 ⟨rfl, hbw1⟩; (have hsw1 := Since.trans (show Since w0 _ by assumption) hbw1)) | (go_at_call 6; (with_reducible refine (knows8_any _).mono ?_); rintro e w3 ⟨rfl, hbw3⟩; (have hsw3 := Since.trans (show Since w0 _ by assumption) hbw3); (have hz3 := Since.whole hsw3 wh0); (have x0 := hz3.cell 0); (have x1 := hz3.cell 1)) | (go_at_call 14; (with_reducible refine (HSM.out _).mono ?_); rintro e w4 ⟨rfl, hb4⟩; (have hs4 := Since.trans (show Since w0 _ by assumption) hb4); (have hz4 := Since.whole hs4 wh0); (have y0 := hz4.cell 0); (have y1 := hz4.cell 1); (have y2 := hz4.frozen 0); (have y3 := hz4.frozen 1)))
    have hs5 : Since w ((w4.setCell ⟨w.heap.size, 0, none⟩ (.int .i64 D)).setCell ⟨w.heap.size, 1, none⟩ (.int .i64 E)) := Since.setCell (Since.setCell (HS0.out.trans hs4) (p := ⟨w.heap.size, 0, none⟩) (Nat.le_refl _) _) (p := ⟨w.heap.size, 1, none⟩) (Nat.le_refl _) _
    have hz5 := (hz4.set_ 0 (.int .i64 D)).set_ 1 (.int .i64 E)
    generalize ((w4.setCell ⟨w.heap.size, 0, none⟩ (.int .i64 D)).setCell ⟨w.heap.size, 1, none⟩ (.int .i64 E)) = w5 at hs5 hz5 ⊢
    replace hz5 : Whole w5 w.heap.size 23 #[.int .i64 D, .int .i64 E] := hz5
    have hl80 := HN8.out
    obtain ⟨A, hA⟩ : ∃ A, fitsQ (zoneR K D E) l = A := ⟨_, rfl⟩
    have hA80 : A.length ≤ 80 := by rw [← hA]; exact Nat.le_trans (fits_len _ _) hl80
    have HAO := Lib.hid (hA ▸ fits_all2 HO.out l)
    have hfa := fun W (hW : Since w W) => fits_any (HWL.out.since hW (Nat.le_refl _)) hW.size_ (show l.length ≤ 1000 by omega) HO.out
    rw [hA] at hfa
    have HFA := Lib.hid hfa
    have q0 := fun W (hW : Since w5 W) => (Since.whole hW hz5).cell 0
    have q1 := fun W (hW : Since w5 W) => (Since.whole hW hz5).cell 1
    have HZ5 := Lib.hid hz5
    have HS5 := Lib.hid hs5
    clear hfa hA hl80 x0 x1 y0 y1 y2 y3 hz3 hz4 hb4 hs4 hbw1 hbw3 hsw1 hsw3 hsr wh0 hz5
    go_wp2_with fail
    refine wp_region_held_drew (S := fun W => Since w5 W) (by kernel_rfl) (Since.refl w5).drew (fun hHeld => ?_)
    generalize w5.drew = wq at hHeld ⊢
    have hq : Since w5 wq := hHeld
    refine wpAnyH_take (i := 0) (v := ?_) rfl (by kernel_rfl) (by kernel_rfl) (by kernel_rfl) (fun _ _ _ h => h) (Or.inl ⟨by rfl, ?_⟩) (by assumption) ?_
    rotate_left 1
    · (intro W hW; clear hW; go_simp; try with_reducible rfl)
    simp only [Act.put, List.getElem_toArray, List.getElem_cons_zero, List.setIfInBounds_toArray, List.set_cons_zero, List.set_cons_succ]
    refine wpAnyH_take (i := 1) (v := ?_) rfl (by kernel_rfl) (by kernel_rfl) (by kernel_rfl) (fun _ _ _ h => h) (Or.inl ⟨by rfl, ?_⟩) (by assumption) ?_
    rotate_left 1
    · (intro W hW; skip; go_simp; try with_reducible rfl)
    simp only [Act.put, List.getElem_toArray, List.getElem_cons_succ, List.getElem_cons_zero, List.setIfInBounds_toArray, List.set_cons_zero, List.set_cons_succ]
    refine wpAnyH_take (i := 2) (v := ?_) rfl (by kernel_rfl) (by kernel_rfl) (by kernel_rfl) (fun _ _ _ h => h) (Or.inl ⟨by rfl, ?_⟩) (by assumption) ?_
    rotate_left 1
    · (intro W hW; clear hW; go_simp; try with_reducible rfl)
    simp only [Act.put, List.getElem_toArray, List.getElem_cons_succ, List.getElem_cons_zero, List.setIfInBounds_toArray, List.set_cons_zero, List.set_cons_succ]
    refine wpAnyH_take (i := 3) (v := ?_) rfl (by kernel_rfl) (by kernel_rfl) (by kernel_rfl) (fun _ _ _ h => h) (Or.inl ⟨by rfl, ?_⟩) (by assumption) ?_
    rotate_left 1
    · (intro W hW; skip; go_simp; try with_reducible rfl)
    simp only [Act.put, List.getElem_toArray, List.getElem_cons_succ, List.getElem_cons_zero, List.setIfInBounds_toArray, List.set_cons_zero, List.set_cons_succ]
    refine wpAnyH_take (i := 4) (v := ?_) rfl (by kernel_rfl) (by kernel_rfl) (by kernel_rfl) (fun _ _ _ h => h) (Or.inl ⟨by rfl, ?_⟩) (by assumption) ?_
    rotate_left 1
    · (intro W hW; clear hW; go_simp; try with_reducible rfl)
    simp only [Act.put, List.getElem_toArray, List.getElem_cons_succ, List.getElem_cons_zero, List.setIfInBounds_toArray, List.set_cons_zero, List.set_cons_succ]
    refine wpAnyH_ready (rs := [5]) (by kernel_rfl) (by simp) ?_
    refine AllReadyH.cons rfl (fun K hK => ?_) AllReadyH.nil
    go_simp
    refine (HFA.out _ (HS5.out.trans hq)).mono ?_
    rintro e w6 ⟨v6, rfl, hrA, hb6⟩
    obtain ⟨va, ca, rfl⟩ := RowE.shp hrA
    have hs6 : Since w5 w6 := hq.trans hb6
    go_wp2_with fail
    refine hK.out _ _ (hs6) (fun hHeld => ?_)
    clear hK K
    try simp only [Act.put, List.getElem_toArray, List.getElem_cons_succ, List.getElem_cons_zero, List.setIfInBounds_toArray, List.set_cons_zero, List.set_cons_succ]
    refine wpAnyH_ready (rs := [6]) (by kernel_rfl) (by simp) ?_
    refine AllReadyH.cons rfl (fun K hK => ?_) AllReadyH.nil
    go_simp
    have hLA : LentE encQ 5 w6.heap.size w6 (.slice va A.length ca) A := (hrA.list encQ_len).lent
    with_reducible refine (own8l_any hLA (Nat.le_refl _) (show A.length ≤ 1000 by omega)).mono ?_
    rintro e w7 ⟨v7, rfl, hrB, hb7⟩
    obtain ⟨vb, cb, rfl⟩ := RowE.shp hrB
    have hs7 : Since w5 w7 := hs6.trans hb7
    go_wp2_with fail
    refine hK.out _ _ (hs7) (fun hHeld => ?_)
    clear hK K
    try simp only [Act.put, List.getElem_toArray, List.getElem_cons_succ, List.getElem_cons_zero, List.setIfInBounds_toArray, List.set_cons_zero, List.set_cons_succ]
    refine wpAnyH_ready (rs := [7]) (by kernel_rfl) (by simp) ?_
    refine AllReadyH.cons rfl (fun K hK => ?_) AllReadyH.nil
    go_simp
    have hLB : ListE encQ 5 w7.heap.size w7 (.slice vb A.length cb) A := hrB.list encQ_len
    with_reducible refine (tnew_any hLB (Nat.le_refl _) (show A.length ≤ 999 by omega)).mono ?_
    rintro e w8 hP
    obtain ⟨g, q, rfl, hT, hnew, hb8⟩ := new_yes hP HO.out HAO.out
    clear hP
    have hs8 : Since w5 w8 := hs7.trans hb8
    go_wp2_with fail
    refine hK.out _ _ (hs8) (fun hHeld => ?_)
    clear hK K
    try simp only [Act.put, List.getElem_toArray, List.getElem_cons_succ, List.getElem_cons_zero, List.setIfInBounds_toArray, List.set_cons_zero, List.set_cons_succ]
    refine wpAnyH_take (i := 8) (v := ?_) rfl (by kernel_rfl) (by kernel_rfl) (by kernel_rfl) (fun _ _ _ h => h) (Or.inl ⟨by rfl, ?_⟩) (by assumption) ?_
    rotate_left 1
    · (intro W hW; clear hW; go_simp; try with_reducible rfl)
    simp only [Act.put, List.getElem_toArray, List.getElem_cons_succ, List.getElem_cons_zero, List.setIfInBounds_toArray, List.set_cons_zero, List.set_cons_succ]
    refine wpAnyH_take (i := 9) (v := ?_) rfl (by kernel_rfl) (by kernel_rfl) (by kernel_rfl) (fun _ _ _ h => h) (Or.inl ⟨by rfl, ?_⟩) (by assumption) ?_
    rotate_left 1
    · (intro W hW; clear hW; go_simp; try with_reducible rfl)
    simp only [Act.put, List.getElem_toArray, List.getElem_cons_succ, List.getElem_cons_zero, List.setIfInBounds_toArray, List.set_cons_zero, List.set_cons_succ]
    refine wpAnyH_take (i := 10) (v := ?_) rfl (by kernel_rfl) (by kernel_rfl) (by kernel_rfl) (fun _ _ _ h => h) (Or.inl ⟨by rfl, ?_⟩) (by assumption) ?_
    rotate_left 1
    · (intro W hW; clear hW; go_simp; try with_reducible rfl)
    simp only [Act.put, List.getElem_toArray, List.getElem_cons_succ, List.getElem_cons_zero, List.setIfInBounds_toArray, List.set_cons_zero, List.set_cons_succ]
    refine wpAnyH_take (i := 11) (v := ?_) rfl (by kernel_rfl) (by kernel_rfl) (by kernel_rfl) (fun _ _ _ h => h) (Or.inl ⟨by rfl, ?_⟩) (by assumption) ?_
    rotate_left 1
    · (intro W hW; clear hW; go_simp; try with_reducible rfl)
    simp only [Act.put, List.getElem_toArray, List.getElem_cons_succ, List.getElem_cons_zero, List.setIfInBounds_toArray, List.set_cons_zero, List.set_cons_succ]
    refine wpAnyH_take (i := 12) (v := ?_) rfl (by kernel_rfl) (by kernel_rfl) (by kernel_rfl) (fun _ _ _ h => h) (Or.inl ⟨by rfl, ?_⟩) (by assumption) ?_
    rotate_left 1
    · (intro W hW; clear hW; go_simp; try with_reducible rfl)
    simp only [Act.put, List.getElem_toArray, List.getElem_cons_succ, List.getElem_cons_zero, List.setIfInBounds_toArray, List.set_cons_zero, List.set_cons_succ]
    refine wpAnyH_done (by kernel_rfl) ?_ _
    clear hHeld hq hrA hb6 hs6 hrB hb7 hs7 hb8 hLA hLB q0 q1
    have hA80' := hA80
    obtain ⟨T, hTT⟩ : ∃ T, putsQ [] A = T := ⟨_, rfl⟩
    rw [hTT] at hT
    have hTl : T.length ≤ 80 := by have := putsQ_most [] A; rw [← hTT]; simp only [List.length_nil] at this; omega
    have hTO : T.all (okR (zoneR K D E)) = true := List.all_eq_true.2 (fun r hr => by
      rcases puts_sub A sortQ_nil r (hTT ▸ hr) with h | h
      · exact List.all_eq_true.1 HAO.out r h
      · cases h)
    have hz8 := Since.whole hs8 HZ5.out
    have hs08 := HS5.out.trans hs8
    have q0 := fun W (hW : Since w8 W) => (Since.whole hW hz8).cell 0
    have q1 := fun W (hW : Since w8 W) => (Since.whole hW hz8).cell 1
    obtain ⟨K2, hKK⟩ : ∃ x, 2 * K = x := ⟨_, rfl⟩
    have t5 : IntKind.i64.wrap (2 * K) = K2 := by rw [← hKK]; exact IntWalk.i64_in _ (by omega)
    have hsr := Since.refl w8
    have HX8 := Lib.hid (And.intro hs08 (And.intro hTl (And.intro hTO hT)))
    have HSK : Hid (∀ {W W' : World}, Since w8 W → Below W.heap.size W W' → Since w8 W') := fun h1 h2 => h1.trans h2
    by_cases hDK : D = K2
    · have d1 : (D == K2) = true := by rw [hDK]; exact beq_self_eq_true _
      clear hTT hTl hTO hT hKK hnew hs8 hz8 hs08 hA80 hA80' hDK
      go_wp2_with (first | (go_at_call 10; (with_reducible refine (num8_any _ _).mono ?_); rintro e wn ⟨rfl, rfl⟩) | (go_at_call 6; (with_reducible refine (knows8_any _).mono ?_); rintro e w9 ⟨rfl, hb9⟩; (have hs9 : Since w8 w9 := hb9)))
      go_ret
      exact ⟨rfl, HX8.out.1.trans hs9⟩
    · have d1 : (D == K2) = false := by rw [beq_eq_false_iff_ne]; exact hDK
      obtain ⟨o1, o2, o3, o4, o5, o6⟩ := (okP_iff K D E).1 HO.out
      have hf := ok_fine HO.out
      have hd32 : D < 32 := by omega
      have hdk : D < 2 * K := by omega
      obtain ⟨D1, hD1⟩ : ∃ x, D + 1 = x := ⟨_, rfl⟩
      obtain ⟨E0, hE0⟩ : ∃ x, 2 * E + 0 = x := ⟨_, rfl⟩
      obtain ⟨E1, hE1⟩ : ∃ x, 2 * E + 1 = x := ⟨_, rfl⟩
      have HC0 := Lib.hid (fun W => child_at (h := 0) W hf hd32 (by decide) (by decide) hD1 hE0)
      have HC1 := Lib.hid (fun W => child_at (h := 1) W hf hd32 (by decide) (by decide) hD1 hE1)
      have hav0 := abv_half (h := 0) hf hd32 (by decide) (by decide)
      have hav1 := abv_half (h := 1) hf hd32 (by decide) (by decide)
      have hok0 := (zone_child (t := 0) HO.out hdk (by decide) (by decide)).1
      have hok1 := (zone_child (t := 1) HO.out hdk (by decide) (by decide)).1
      obtain ⟨hjn, hjl⟩ := half_recs HO.out hdk hT.tr.sort hT.tr.inn
      rw [hD1, hE0] at hav0 hok0
      rw [hD1, hE1] at hav1 hok1
      rw [hD1, hE0, hE1] at hjn hjl
      obtain ⟨TA, hTA⟩ : ∃ x, T.filter (inQ (zoneR K D1 E0)) = x := ⟨_, rfl⟩
      obtain ⟨TB, hTB⟩ : ∃ x, T.filter (inQ (zoneR K D1 E1)) = x := ⟨_, rfl⟩
      have hPA := fun W (hW : Since w8 W) => tpart_any (hT.since hW) hav0 hok0 (by omega)
      have hPB := fun W (hW : Since w8 W) => tpart_any (hT.since hW) hav1 hok1 (by omega)
      rw [hTA] at hPA hjn hjl
      rw [hTB] at hPB hjn hjl
      have hall : (TB ++ TA).all (okR (zoneR K D E)) = true := by rw [List.all_append, ← hTA, ← hTB, filt_all hTO, filt_all hTO]; rfl
      have HPA := Lib.hid hPA
      have HPB := Lib.hid hPB
      have HLT := Lib.hid (fun W (hW : Since w8 W) => tlen_any (hT.since hW))
      have hd1 : 0 < D1 := by omega
      have hb1 : E1 + 1 - 2 * (E1 % 2) = E0 := by omega
      have hdd : D1 - 1 = D := by omega
      have hee : E1 / 2 = E := by omega
      obtain ⟨na, hna⟩ : ∃ n, TA.length = n := ⟨_, rfl⟩
      obtain ⟨nb, hnb⟩ : ∃ n, TB.length = n := ⟨_, rfl⟩
      obtain ⟨nt, hnt⟩ : ∃ n, T.length = n := ⟨_, rfl⟩
      rw [hna, hnb, hnt] at hjl
      rw [hnt] at hTl HLT
      have t6 : IntKind.i64.wrap ((na : Int) + (nb : Int)) = (nt : Int) := by rw [← hjl]; exact IntWalk.i64_in _ (by omega)
      have HJ := Lib.hid (And.intro hjn (And.intro hall (And.intro hd1 (And.intro hb1 (And.intro hdd (And.intro hee (And.intro hna (And.intro hnb (by omega : na + nb ≤ 500)))))))))
      clear hTT hTl hTO hT hKK hnew hs8 hz8 hs08 hA80 hA80' hDK o1 o2 o3 o4 o5 o6 hf hd32 hdk hD1 hE0 hE1 hav0 hav1 hok0 hok1 hTA hTB hPA hPB hall hd1 hb1 hdd hee hna hnb hnt hjl hjn
      go_upto_region 10 with (first | (go_at_call 10; (with_reducible refine (num8_any _ _).mono ?_); rintro e wn ⟨rfl, rfl⟩) | (go_at_call 6; (with_reducible refine (knows8_any _).mono ?_); rintro e w9 ⟨rfl, hb9⟩; (have hs9 : Since w8 w9 := hb9)))
      go_upto_region 11 with (go_at_call 16; (with_reducible refine (HC0.out _).mono ?_); rintro e w10 ⟨rfl, hb10⟩)
      have hx := Whole.new w10 23 #[.int .i64 D1, .int .i64 E0]
      have hs10 := (hs9.trans (show Since w9 w10 from hb10)).alloc (.cells #[.int .i64 D1, .int .i64 E0] 23)
      generalize w10.alloc (.cells #[.int .i64 D1, .int .i64 E0] 23) = w11 at hx hs10 ⊢
      clear hb9 hb10 hs9
      go_upto_region 12 with (go_at_call 16; (with_reducible refine (HC1.out _).mono ?_); rintro e w12 ⟨rfl, hb12⟩)
      have hs12 : Since w11 w12 := hb12
      have hy := Whole.new w12 23 #[.int .i64 D1, .int .i64 E1]
      have hs13 : Since w11 (w12.alloc (.cells #[.int .i64 D1, .int .i64 E1] 23)) := hs12.alloc (.cells #[.int .i64 D1, .int .i64 E1] 23)
      generalize w12.alloc (.cells #[.int .i64 D1, .int .i64 E1] 23) = w13 at hy hs13 ⊢
      have hx0 := (Since.whole hs13 hx).cell 0
      have hx1 := (Since.whole hs13 hx).cell 1
      have hs8d := hs10.trans hs13
      clear hb12 hs12 hx hs13 hs10
      go_upto_region 13 with (go_at_call 17; (with_reducible refine (HPA.out _ hs8d).mono ?_); rintro e w14 ⟨gx, qx, rfl, hTX, hnx, hb14⟩)
      have hs14 : Since w13 w14 := hb14
      have hy0 := (Since.whole hs14 hy).cell 0
      have hy1 := (Since.whole hs14 hy).cell 1
      have hs8e := hs8d.trans hs14
      clear hx0 hx1 hy hb14 hnx
      have HTX := Lib.hid hTX
      clear hTX
      go_upto_region 14 with (go_at_call 17; (with_reducible refine (HPB.out _ hs8e).mono ?_); rintro e w15 ⟨gy, qy, rfl, hTY, hny, hb15⟩)
      have hs15 : Since w14 w15 := hb15
      have hs8f := hs8e.trans hs15
      obtain ⟨hjn, hall, hd1, hb1, hdd, hee, hna, hnb, hn500⟩ := HJ.out
      have hTX := HTX.out.since hs15
      have hjoin := tjoin_yes hTY hTX hd1 hb1 (by omega)
      have HTY := Lib.hid hTY
      have HTX' := Lib.hid hTX
      have HJO := Lib.hid hjoin
      clear hy0 hy1 hb15 hny hTX hTY hjoin hd1 hb1 hn500
      go_upto_region 15 with (go_at_call 9; (with_reducible refine HJO.out.mono ?_); rintro e w16 hP; rw [hdd, hee] at hP; obtain ⟨gj, qj, rfl, hTJ, hnj, hb16⟩ := new_yes hP HO.out hall; clear hP)
      have hs16 : Since w15 w16 := hb16
      have hs8g := hs8f.trans hs16
      rw [hjn] at hTJ
      have HEQ := Lib.hid (equal8_any hTJ (HX8.out.2.2.2.since hs8g))
      have HLX := Lib.hid (fun W (hW : Since w16 W) => tlen_any (HTX'.out.since (hs16.trans hW)))
      have HLY := Lib.hid (fun W (hW : Since w16 W) => tlen_any (HTY.out.since (hs16.trans hW)))
      rw [hna] at HLX
      rw [hnb] at HLY
      clear hjn hall hdd hee hna hnb hb16 hnj hTJ hs16
      go_wp2_with (first
        | (go_at_call 10; (with_reducible refine (num8_any _ _).mono ?_); rintro e wn ⟨rfl, rfl⟩)
        | (go_at_call 18; (with_reducible refine HEQ.out.mono ?_); rintro e w20 ⟨rfl, hb20⟩; (have hs20 : Since w16 w20 := hb20); (have hs8h := hs8g.trans hs20))
        | (go_at_call 19; (with_reducible refine (HLX.out _ hs20).mono ?_); rintro e wn ⟨rfl, rfl⟩)
        | (go_at_call 19; (with_reducible refine (HLY.out _ hs20).mono ?_); rintro e wn ⟨rfl, rfl⟩)
        | (go_at_call 19; (with_reducible refine (HLT.out _ hs8h).mono ?_); rintro e wn ⟨rfl, rfl⟩))
      go_ret
      exact ⟨by first | rfl | simp, HX8.out.1.trans hs8h⟩
end Go.Proofs.YthfhpejpjiaikaaGreat
