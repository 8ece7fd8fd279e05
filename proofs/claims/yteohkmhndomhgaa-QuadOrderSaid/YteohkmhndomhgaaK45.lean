/- QuadOrder's walk. -/
import Derived.Test.YteohkmhndomhgaaK13
import Derived.Test.YteohkmhndomhgaaK40
import Derived.Test.YteohkmhndomhgaaK43
import Derived.Test.YteohkmhndomhgaaK44
namespace Go.Proofs.Yteohkmhndomhgaa
open Go.RowKit
attribute [local go_sem] Oper.semAt_some
set_option linter.unusedVariables false
set_option linter.unusedSimpArgs false
theorem fits_all {k d b : Int} (ho : okP k d b = true) (l : List Rq) : (fitsQ (zoneR k d b) l).all (okR (zoneR k d b)) = true := by
  obtain ⟨-, hw, hh, -⟩ := zone_right ho
  exact List.all_eq_true.2 (fun r hr => fits_ok (zone_good ho) hw hh hr)
/-- A row of numbers that was handed in. -/
theorem turns_at {w : World} {a : Option Addr} {len cap : Nat} {zs : List Int} (h : (a = none ∧ len = 0 ∧ cap = 0 ∧ zs = []) ∨ ∃ x, a = some x ∧ len ≤ cap ∧ cap ≤ maxLen ∧ zs.length = cap ∧ (∀ i, i < zs.length → w.cell? (x.add i) = some (.int .i64 (zs.getD i 0))) ∧ ∀ n ∈ zs, (Lit.int .i64 n).wf = true) :
    ∀ i, i < len → ∃ g off z, a = some ⟨g, off, none⟩ ∧ g < w.heap.size ∧ w.cell? ⟨g, off + i, none⟩ = some (.int .i64 z) := by
  intro i hi
  rcases h with ⟨_, h, _⟩ | ⟨⟨g, off, spot⟩, rfl, h1, _, h2, hc, _⟩
  · omega
  · have c := hc i (by omega)
    have c0 := hc 0 (by omega)
    have hspot : spot = none := by simpa [Addr.add] using World.cell?_spot c0
    subst hspot
    rw [Addr.add_lit] at c
    exact ⟨g, off, _, rfl, World.block_lt_of_cell? w _ c, c⟩
set_option maxRecDepth 100000 in
set_option maxHeartbeats 12800000 in
theorem order_go (a0 a1 a2 : Int) (b0 : Option Addr) (len0 cap0 : Nat) (l : List Rq) (b1 : Option Addr) (len1 cap1 : Nat) (zs : List Int) (b2 : Option Addr) (len2 cap2 : Nat) (m : List Rq) (w : World)
    (k0 : (Lit.int .i64 a0).wf = true) (k1 : (Lit.int .i64 a1).wf = true) (k2 : (Lit.int .i64 a2).wf = true) (wl : LentE encQ 5 w.heap.size w (.slice b0 len0 cap0) l)
    (wt : (b1 = none ∧ len1 = 0 ∧ cap1 = 0 ∧ zs = []) ∨ ∃ x, b1 = some x ∧ len1 ≤ cap1 ∧ cap1 ≤ maxLen ∧ zs.length = cap1 ∧ (∀ i, i < zs.length → w.cell? (x.add i) = some (.int .i64 (zs.getD i 0))) ∧ ∀ n ∈ zs, (Lit.int .i64 n).wf = true) (wm : LentE encQ 5 w.heap.size w (.slice b2 len2 cap2) m) :
    Calls Try.prog 3 #[.int .i64 a0, .agg #[.int .i64 a1, .int .i64 a2], .slice b0 len0 cap0, .slice b1 len1 cap1, .slice b2 len2 cap2] w fun e w' => e = .returned (.bool true) ∧ Below w.heap.size w w' := by
  have HTN := Lib.hid (turns_at wt)
  clear wt
  obtain ⟨w0, hw0⟩ : ∃ w0, w0 = w.alloc (.cells #[.int .i64 a1, .int .i64 a2] 23) := ⟨_, rfl⟩
  have hs0 : Since w w0 := by rw [hw0]; exact (Since.refl w).alloc _
  have wh0 : Whole w0 w.heap.size 23 #[.int .i64 a1, .int .i64 a2] := by rw [hw0]; exact Whole.new w _ _
  have HW := Lib.hid hw0
  have HS0 := Lib.hid hs0
  have HWL := Lib.hid wl
  have HWM := Lib.hid wm
  have hsr := Since.refl w0
  obtain ⟨e0, hb0⟩ : ∃ e, lightQ l = e := ⟨_, rfl⟩
  obtain ⟨e2, hb2⟩ : ∃ e, lightQ m = e := ⟨_, rfl⟩
  have HL0 := Lib.hid (fun W (hW : Since w0 W) => light8_any (wl.since (hs0.trans hW) (Nat.le_refl _)) (hs0.trans hW).size_ hb0)
  have HL2 := Lib.hid (fun W (hW : Since w0 W) => light8_any (wm.since (hs0.trans hW) (Nat.le_refl _)) (hs0.trans hW).size_ hb2)
  clear hw0 wl wm
  cases e0 with
  | false =>
    clear wh0 hs0 hb2
    go_enter Try.func3, Try.ntmps3
    go_wp2_with fail
    rw [← HW.out]
    go_wp2_with (first | (go_at_call 4; (with_reducible refine (HL0.out _ (by assumption)).mono ?_); rintro e w1 ⟨rfl, hbw1⟩; (have hsw1 := Since.trans (show Since w0 _ by assumption) hbw1)) | (go_at_call 5; (with_reducible refine (knows8_any _).mono ?_); rintro e w2 ⟨rfl, hbw2⟩; (have hsw2 := Since.trans (show Since w0 _ by assumption) hbw2)))
    go_ret
    exact ⟨rfl, HS0.out.trans (by assumption)⟩
  | true =>
    cases e2 with
    | false =>
      clear wh0 hs0
      go_enter Try.func3, Try.ntmps3
      go_wp2_with fail
      rw [← HW.out]
      go_wp2_with (first | (go_at_call 4; (with_reducible refine (HL0.out _ (by assumption)).mono ?_); rintro e w1 ⟨rfl, hbw1⟩; (have hsw1 := Since.trans (show Since w0 _ by assumption) hbw1)) | (go_at_call 4; (with_reducible refine (HL2.out _ (by assumption)).mono ?_); rintro e w1 ⟨rfl, hbw1⟩; (have hsw1 := Since.trans (show Since w0 _ by assumption) hbw1)) | (go_at_call 5; (with_reducible refine (knows8_any _).mono ?_); rintro e w2 ⟨rfl, hbw2⟩; (have hsw2 := Since.trans (show Since w0 _ by assumption) hbw2)))
      go_ret
      exact ⟨rfl, HS0.out.trans (by assumption)⟩
    | true =>
      have hl80 := lightQ_len hb0
      have hm80 := lightQ_len hb2
      obtain ⟨K, hK⟩ : ∃ K, 1 + a0 % 16 = K := ⟨_, rfl⟩
      obtain ⟨t, ht⟩ : ∃ t, a0.tmod 16 = t := ⟨_, rfl⟩
      have t1 : IntKind.i64.wrap (t + 16) = t + 16 := IntWalk.i64_in _ (by have := tmod_bd a0 16 (by omega); omega)
      have t2 : (t + 16).tmod 16 = a0 % 16 := by rw [← ht]; exact tmod_pos a0 16 (by omega)
      have t3 : IntKind.i64.wrap (1 + a0 % 16) = K := by rw [← hK]; exact IntWalk.i64_in _ (by omega)
      have hK1 : 1 ≤ K := by omega
      have hK2 : K ≤ 16 := by omega
      have ho := some_ok K a1 a2 ⟨hK1, hK2⟩
      obtain ⟨D, hD⟩ : ∃ D, smD K a1 = D := ⟨_, rfl⟩
      obtain ⟨E, hE⟩ : ∃ E, smB K a1 a2 = E := ⟨_, rfl⟩
      rw [hD, hE] at ho
      have HSM := Lib.hid (fun W => some_at W (by omega) hK2 hD hE)
      have HO := Lib.hid ho
      have HN8 := Lib.hid (And.intro hl80 hm80)
      clear hK ho hb0 hb2 hl80 hm80 hs0 hD hE
      go_enter Try.func3, Try.ntmps3
      go_wp2_with fail
      rw [← HW.out]
      go_wp2_with (first | (go_at_call 4; (with_reducible refine (HL0.out _ (by assumption)).mono ?_); rintro e w1 ⟨rfl, hbw1⟩; (have hsw1 := Since.trans (show Since w0 _ by assumption) hbw1)) | (go_at_call 4; (with_reducible refine (HL2.out _ (by assumption)).mono ?_); rintro e w2 ⟨rfl, hbw2⟩; (have hsw2 := Since.trans (show Since w0 _ by assumption) hbw2)) | (go_at_call 5; (with_reducible refine (knows8_any _).mono ?_); rintro e w3 ⟨rfl, hbw3⟩; (have hsw3 := Since.trans (show Since w0 _ by assumption) hbw3); (have hz3 := Since.whole hsw3 wh0); (have x0 := hz3.cell 0); (have x1 := hz3.cell 1)) | (go_at_call 6; (with_reducible refine (HSM.out _).mono ?_); rintro e w4 ⟨rfl, hb4⟩; (have hs4 := Since.trans (show Since w0 _ by assumption) hb4); (have hz4 := Since.whole hs4 wh0); (have y0 := hz4.cell 0); (have y1 := hz4.cell 1); (have y2 := hz4.frozen 0); (have y3 := hz4.frozen 1)))
      have hs5 : Since w ((w4.setCell ⟨w.heap.size, 0, none⟩ (.int .i64 D)).setCell ⟨w.heap.size, 1, none⟩ (.int .i64 E)) := Since.setCell (Since.setCell (HS0.out.trans hs4) (p := ⟨w.heap.size, 0, none⟩) (Nat.le_refl _) _) (p := ⟨w.heap.size, 1, none⟩) (Nat.le_refl _) _
      have hz5 := (hz4.set_ 0 (.int .i64 D)).set_ 1 (.int .i64 E)
      generalize ((w4.setCell ⟨w.heap.size, 0, none⟩ (.int .i64 D)).setCell ⟨w.heap.size, 1, none⟩ (.int .i64 E)) = w5 at hs5 hz5 ⊢
      replace hz5 : Whole w5 w.heap.size 23 #[.int .i64 D, .int .i64 E] := hz5
      obtain ⟨hl80, hm80⟩ := HN8.out
      obtain ⟨A, hA⟩ : ∃ A, fitsQ (zoneR K D E) l = A := ⟨_, rfl⟩
      obtain ⟨G, hG⟩ : ∃ G, fitsQ (zoneR K D E) m = G := ⟨_, rfl⟩
      have hA80 : A.length ≤ 80 := by rw [← hA]; exact Nat.le_trans (fits_len _ _) hl80
      have hG80 : G.length ≤ 80 := by rw [← hG]; exact Nat.le_trans (fits_len _ _) hm80
      have HAO := Lib.hid (hA ▸ fits_all HO.out l)
      have HGO := Lib.hid (hG ▸ fits_all HO.out m)
      have hfa := fun W (hW : Since w W) => fits_any (HWL.out.since hW (Nat.le_refl _)) hW.size_ (show l.length ≤ 1000 by omega) HO.out
      have hfg := fun W (hW : Since w W) => fits_any (HWM.out.since hW (Nat.le_refl _)) hW.size_ (show m.length ≤ 1000 by omega) HO.out
      rw [hA] at hfa
      rw [hG] at hfg
      have HFA := Lib.hid hfa
      have HFG := Lib.hid hfg
      have HNW := Lib.hid (fun W => tnew_any (k := K) (d := D) (b := E) (v := .slice none 0 0) (l := []) (nil_listE W) (Nat.le_refl _) (by simp))
      clear hfa hfg hA hG hl80 hm80 x0 x1 y0 y1 y2 y3 hz3 hz4 hb4 hs4 hbw1 hbw2 hbw3 hsw1 hsw2 hsw3 hsr wh0
      have q0 := hz5.cell 0
      have q1 := hz5.cell 1
      go_wp2_with (first
        | (go_at_call 7; (with_reducible refine (HFA.out _ hs5).mono ?_); rintro e w6 ⟨v6, rfl, hrA, hb6⟩; obtain ⟨va, ca, rfl⟩ := RowE.shp hrA; (have hs6 := hs5.trans (show Since w5 w6 from hb6)); (have hz6 := Since.whole (show Since w5 w6 from hb6) hz5); (have y0 := hz6.cell 0); (have y1 := hz6.cell 1))
        | (go_at_call 7; (with_reducible refine (HFG.out _ hs6).mono ?_); rintro e w7 ⟨v7, rfl, hrG, hb7⟩; obtain ⟨vg, cg, rfl⟩ := RowE.shp hrG; (have hs7 := hs6.trans (show Since w6 w7 from hb7)); (have hz7 := Since.whole (show Since w6 w7 from hb7) hz6); (have t0 := hz7.cell 0); (have t1' := hz7.cell 1))
        | (go_at_call 8; (with_reducible refine (HNW.out _).mono ?_); rintro e w8 hP; obtain ⟨g, q, rfl, hT, hnew, hb8⟩ := new_yes hP HO.out rfl; clear hP))
      have hs67 : Since w6 w7 := hb7
      have hs78 : Since w7 w8 := hb8
      have hLA : ListE encQ 5 w7.heap.size w7 (.slice va A.length ca) A := ((hrA.list encQ_len).since hs67 (Nat.le_refl _)).mono hs67.size_
      have hLG : ListE encQ 5 w7.heap.size w7 (.slice vg G.length cg) G := hrG.list encQ_len
      obtain ⟨na, hna⟩ : ∃ n, A.length = n := ⟨_, rfl⟩
      obtain ⟨ng, hng⟩ : ∃ n, G.length = n := ⟨_, rfl⟩
      have HOWN := Lib.hid (fun W (hW : Since w7 W) => own8l_any ((hLG.since hW (Nat.le_refl _)).lent) hW.size_ (show G.length ≤ 1000 by omega))
      rw [hng] at HOWN hLG hG80
      rw [hna] at hLA hA80
      rw [hna, hng]
      have HLA := Lib.hid hLA
      have HLG := Lib.hid hLG
      have HNA := Lib.hid hna
      have HNG := Lib.hid hng
      have hz8 := Since.whole hs78 hz7
      have p0 := fun W (hW : Since w8 W) => (Since.whole hW hz8).cell 0
      have p1 := fun W (hW : Since w8 W) => (Since.whole hW hz8).cell 1
      clear hLA hLG hrA hrG hz5 hz6 hz7 y0 y1 t0 t1' q0 q1 hna hng hb6 hb7 hb8 hs5 hs6
      have hsd := (Since.refl w8).drew
      refine wp_region_held_drew (S := fun W => Since w8 W) (by kernel_rfl) hsd (fun hHeld => ?_)
      generalize w8.drew = wq at hHeld hsd ⊢
      have hq : Since w8 wq := hsd
      have hq7 : Since w7 wq := hs78.trans hq
      refine wpAnyH_take (i := 0) (v := ?_) rfl (by kernel_rfl) (by kernel_rfl) (by kernel_rfl) (fun _ _ _ h => h) (Or.inl ⟨by rfl, ?_⟩) (by assumption) ?_
      rotate_left 1
      · (intro W hW; clear hW; go_simp; try with_reducible rfl)
      simp only [Act.put, List.getElem_toArray, List.getElem_cons_zero, List.setIfInBounds_toArray, List.set_cons_zero, List.set_cons_succ]
      refine wpAnyH_take (i := 1) (v := ?_) rfl (by kernel_rfl) (by kernel_rfl) (by kernel_rfl) (fun _ _ _ h => h) (Or.inl ⟨by rfl, ?_⟩) (by assumption) ?_
      rotate_left 1
      · (intro W hW; skip; go_simp; try with_reducible rfl)
      simp only [Act.put, List.getElem_toArray, List.getElem_cons_succ, List.getElem_cons_zero, List.setIfInBounds_toArray, List.set_cons_zero, List.set_cons_succ]
      refine wpAnyH_take (i := 2) (v := ?_) rfl (by kernel_rfl) (by kernel_rfl) (by kernel_rfl) (fun _ _ _ h => h) (Or.inl ⟨by rfl, ?_⟩) (by assumption) ?_
      rotate_left 1
      · (intro W hW; clear hW; go_simp; try with_reducible rfl)
      simp only [Act.put, List.getElem_toArray, List.getElem_cons_succ, List.getElem_cons_zero, List.setIfInBounds_toArray, List.set_cons_zero, List.set_cons_succ]
      refine wpAnyH_ready (rs := [3]) (by kernel_rfl) (by simp) ?_
      refine AllReadyH.cons rfl (fun K hK => ?_) AllReadyH.nil
      go_simp
      refine (HOWN.out wq hq7).mono ?_
      rintro e w9 ⟨v9, rfl, hrO, hb9⟩
      obtain ⟨vo, co, rfl⟩ := RowE.shp hrO
      have hs9 : Since w8 w9 := hq.trans hb9
      go_wp2_with fail
      refine hK.out _ _ (hs9) (fun hHeld => ?_)
      clear hK K
      try simp only [Act.put, List.getElem_toArray, List.getElem_cons_succ, List.getElem_cons_zero, List.setIfInBounds_toArray, List.set_cons_zero, List.set_cons_succ]
      refine wpAnyH_ready (rs := [4]) (by kernel_rfl) (by simp) ?_
      refine AllReadyH.cons rfl (fun K hK => ?_) AllReadyH.nil
      go_simp
      refine (tnew_any (hrO.list encQ_len) (Nat.le_refl _) (show G.length ≤ 999 by rw [HNG.out]; omega)).mono ?_
      rintro e w10 hP
      obtain ⟨g2, q2, rfl, hU, hnew2, hb10⟩ := new_yes hP HO.out HGO.out
      clear hP
      have hs10 : Since w8 w10 := hs9.trans hb10
      go_wp2_with fail
      refine hK.out _ _ (hs10) (fun hHeld => ?_)
      clear hK K
      try simp only [Act.put, List.getElem_toArray, List.getElem_cons_succ, List.getElem_cons_zero, List.setIfInBounds_toArray, List.set_cons_zero, List.set_cons_succ]
      refine wpAnyH_take (i := 5) (v := ?_) rfl (by kernel_rfl) (by kernel_rfl) (by kernel_rfl) (fun _ _ _ h => h) (Or.inl ⟨by rfl, ?_⟩) (by assumption) ?_
      rotate_left 1
      · (intro W hW; clear hW; go_simp; try with_reducible rfl)
      simp only [Act.put, List.getElem_toArray, List.getElem_cons_succ, List.getElem_cons_zero, List.setIfInBounds_toArray, List.set_cons_zero, List.set_cons_succ]
      refine wpAnyH_take (i := 6) (v := ?_) rfl (by kernel_rfl) (by kernel_rfl) (by kernel_rfl) (fun _ _ _ h => h) (Or.inl ⟨by rfl, ?_⟩) (by assumption) ?_
      rotate_left 1
      · (intro W hW; clear hW; go_simp; try with_reducible rfl)
      simp only [Act.put, List.getElem_toArray, List.getElem_cons_succ, List.getElem_cons_zero, List.setIfInBounds_toArray, List.set_cons_zero, List.set_cons_succ]
      refine wpAnyH_take (i := 7) (v := ?_) rfl (by kernel_rfl) (by kernel_rfl) (by kernel_rfl) (fun _ _ _ h => h) (Or.inl ⟨by rfl, ?_⟩) (by assumption) ?_
      rotate_left 1
      · (intro W hW; clear hW; go_simp; try with_reducible rfl)
      simp only [Act.put, List.getElem_toArray, List.getElem_cons_succ, List.getElem_cons_zero, List.setIfInBounds_toArray, List.set_cons_zero, List.set_cons_succ]
      refine wpAnyH_take (i := 8) (v := ?_) rfl (by kernel_rfl) (by kernel_rfl) (by kernel_rfl) (fun _ _ _ h => h) (Or.inl ⟨by rfl, ?_⟩) (by assumption) ?_
      rotate_left 1
      · (intro W hW; clear hW; go_simp; try with_reducible rfl)
      simp only [Act.put, List.getElem_toArray, List.getElem_cons_succ, List.getElem_cons_zero, List.setIfInBounds_toArray, List.set_cons_zero, List.set_cons_succ]
      refine wpAnyH_take (i := 9) (v := ?_) rfl (by kernel_rfl) (by kernel_rfl) (by kernel_rfl) (fun _ _ _ h => h) (Or.inl ⟨by rfl, ?_⟩) (by assumption) ?_
      rotate_left 1
      · (intro W hW; clear hW; go_simp; try with_reducible rfl)
      simp only [Act.put, List.getElem_toArray, List.getElem_cons_succ, List.getElem_cons_zero, List.setIfInBounds_toArray, List.set_cons_zero, List.set_cons_succ]
      refine wpAnyH_done (by kernel_rfl) ?_ _
      have hsr10 := Since.refl w10
      go_wp2_with (first
        | (go_at_call 10; (with_reducible refine (num8_any _ _).mono ?_); rintro e wn ⟨rfl, rfl⟩)
        | (go_at_call 5; (with_reducible refine (knows8_any _).mono ?_); rintro e w11 ⟨rfl, hb11⟩))
      have hs711 : Since w7 w11 := (hs78.trans hs10).trans hb11
      have hTW : TwoT (fun c => w7.heap.size ≤ c) (fun c => w7.heap.size ≤ c) g g2 K D E (putsQ [] []) (putsQ [] G) w11 :=
        ⟨q, q2, hT.since (hs10.trans hb11), hU.since hb11, hnew, fun c hc => Nat.le_trans (hs78.trans hs9).size_ (hnew2 c hc), fun c hc z => by have := hT.lt c hc; have := hnew2 c z; have := hs9.size_; omega⟩
      have HX := Lib.hid (And.intro hTW hs711)
      clear hT hnew hU hnew2 hb9 hb10 hb11 hsr10 p0 p1 hz8 hq hq7 hrO hs9 hs10 hsd hs67 hs78 hTW hs711
      have HE := Lib.hid (And.intro hs7 (And.intro hA80 hG80))
      clear hs7
      have hx11 := HX.out
      go_loopw [15] (fun i wr => ∃ k : Nat, i = .int .i64 (k : Int) ∧ k ≤ na ∧ TwoT (fun c => w7.heap.size ≤ c) (fun c => w7.heap.size ≤ c) g g2 K D E (putsQ [] (A.take k)) (putsQ [] G) wr ∧ Below w7.heap.size w7 wr) (fun i _ => na - (intOf i).toNat)
      case atStart => exact ⟨0, rfl, Nat.zero_le _, hx11.1, hx11.2⟩
      case round =>
        obtain ⟨k, rfl, hk, htw, hwr⟩ := hrel
        by_cases hlt : k < na
        · have hll : k < A.length := by rw [HNA.out]; exact hlt
          obtain ⟨ga, rfl, -⟩ := HLA.out.root hll
          obtain ⟨r, hz⟩ : ∃ z, A[k] = z := ⟨_, rfl⟩
          have hc5 := fun j u (hu : (encQ r)[j]? = some u) => (HLA.out.below hwr (Nat.le_refl _)).at_ hll j (by rw [hz]; exact hu)
          have c0 := hc5 0 (.int .i64 r.x) rfl
          have c1 := hc5 1 (.int .i64 r.y) rfl
          have c2 := hc5 2 (.string r.key) rfl
          have c3 := hc5 3 (.string r.val) rfl
          have c4 := hc5 4 (.int .i64 r.ver) rfl
          rw [Nat.add_zero] at c0
          have h1' : (k : Int) < na := by omega
          have hok : okR (zoneR K D E) r = true := List.all_eq_true.1 HAO.out r (by rw [← hz]; exact List.getElem_mem hll)
          have hpt : putT (zoneR K D E) (putsQ [] (A.take k)) r = putsQ [] (A.take (k + 1)) := by
            unfold putT
            rw [if_pos hok, List.take_add_one, List.getElem?_eq_getElem hll, hz]
            exact (putsQ_snoc _ _ _).symm
          obtain ⟨q, q2, h1, h2, h3, h4, h5⟩ := htw
          have hln : (putsQ [] (A.take k)).length ≤ 999 := by have := putsQ_most [] (A.take k); simp at this; omega
          have hput := fun W (hW : Since wr W) => tput_any (h1.since hW) hln r
          obtain ⟨H, hH⟩ : ∃ H, hasQ (putsQ [] (A.take k)) r.x r.y r.key = H := ⟨_, rfl⟩
          rw [hok, hpt, hH] at hput
          simp only [if_true, Bool.true_and] at hput
          have HP := Lib.hid hput
          have HQ := Lib.hid (And.intro h1 (And.intro h2 (And.intro h3 (And.intro h4 (And.intro h5 hwr)))))
          clear hput hH h1 h2 h3 h4 h5 hwr hc5 hz hpt hok hln hll
          go_wp2_with (first
            | (go_at_call 12; (with_reducible refine (rec8_eq r _).mono ?_); rintro e w12 ⟨rfl, hb12⟩; (have hs2 : Since wr w12 := hb12))
            | (go_at_call 11; (with_reducible refine (HP.out _ hs2).mono ?_); rintro e w13 ⟨rfl, hp⟩))
          go_roundw
          case rel =>
            obtain ⟨h1, h2, h3, h4, h5, hwr⟩ := HQ.out
            have hz := hwr.size
            have hz2 := hs2.size_
            obtain ⟨t1, t2⟩ := two_put1 (h1.since hs2) (h2.since hs2) h3 h4 h5 (fun c hc => by omega) hp
            exact ⟨k + 1, by go_num, by omega, t1, (hwr.trans (Below.mono hs2 hz)).trans (t2.below (by omega) (fun c z => z))⟩
          case measure => simp [intOf]; omega
        · obtain rfl : na = k := by omega
          obtain ⟨wa, hwa⟩ : ∃ x, x = wr := ⟨_, rfl⟩
          subst hwa
          rw [List.take_of_length_le (Nat.le_of_eq HNA.out)] at htw
          obtain ⟨T, hT⟩ : ∃ T, putsQ [] A = T := ⟨_, rfl⟩
          have hTn : T.length ≤ 80 := by have h := putsQ_most [] A; rw [hT, HNA.out, List.length_nil, Nat.zero_add] at h; omega
          rw [hT] at htw
          have HT := Lib.hid hT
          obtain ⟨nT, hnT⟩ : ∃ n, T.length = n := ⟨_, rfl⟩
          have HNT := Lib.hid hnT
          have hall := fun W (hW : Since wa W) => (by obtain ⟨q, q2, h1, -⟩ := htw; exact tall_any (h1.since hW) : Calls Try.prog 13 #[.pointer (some ⟨g, 0, none⟩)] W fun e w' => ∃ v, e = .returned v ∧ RowE encQ 5 w' W.heap.size 42 v T ∧ Below W.heap.size W w')
          have HALL := Lib.hid hall
          have HTW := Lib.hid (And.intro htw hwr)
          have hsr := Since.refl wa
          clear htw hwr hall hT hx11
          go_wp2_with (go_at_call 13; (with_reducible refine (HALL.out _ hsr).mono ?_); rintro e w12 ⟨vT, rfl, hrT, hb12⟩; obtain ⟨xT, cT, rfl⟩ := RowE.shp hrT; rw [HNT.out])
          obtain ⟨htw, hwr⟩ := HTW.out
          have hs12 : Since wa w12 := hb12
          have hf := (htw.fresh (v := .slice xT nT cT) (fun a z => by rw [hnT] at hrT; exact (hrT.own a z).1)).since hs12
          have hw12 : Below w7.heap.size w7 w12 := hwr.trans (Below.mono hs12 hwr.size)
          have HX2 := Lib.hid (And.intro hrT (And.intro hf hw12))
          have HWB := Lib.hid hwr.size
          clear htw hwr hs12 hf hw12 hrT hb12 hsr
          have hx12 := HX2.out
          go_loopw [17] (fun i wr => ∃ j : Nat, i = .int .i64 (j : Int) ∧ j ≤ 90 ∧ ∃ P, P.length = nT ∧ (∀ r, r ∈ P ↔ r ∈ T) ∧ RowE encQ 5 wr wa.heap.size 42 (.slice xT P.length cT) P ∧ TwoT (fun c => w7.heap.size ≤ c ∧ (Value.slice xT nT cT).ownBlock ≠ some c) (fun c => w7.heap.size ≤ c ∧ (Value.slice xT nT cT).ownBlock ≠ some c) g g2 K D E T (putsQ [] G) wr ∧ Below w7.heap.size w7 wr) (fun i _ => 90 - (intOf i).toNat)
          case atStart => exact ⟨0, rfl, Nat.zero_le _, T, hnT, fun r => Iff.rfl, hx12.1, hx12.2.1, hx12.2.2⟩
          case round =>
            obtain ⟨j, rfl, hj, P, hPn, hPm, hrP, htw, hwr⟩ := hrel
            clear hx12
            by_cases hall : j < len1 ∧ j < 90 ∧ 0 < nT
            · obtain ⟨j1, j2, j3⟩ := hall
              obtain ⟨gt, ot, z, rfl, hgt, hct⟩ := HTN.out j j1
              have hz2 : wr.cell? ⟨gt, ot + j, none⟩ = some (.int .i64 z) := by
                have hs7 := HE.out.1
                rw [World.cell?_of_block (hwr.block gt (Nat.lt_of_lt_of_le hgt hs7.size_)), World.cell?_of_block (hs7.block gt hgt)]
                exact hct
              have j0 : 0 < P.length := by omega
              obtain ⟨X, rfl, -⟩ := (hrP.list encQ_len).root j0
              obtain ⟨z1, hz1⟩ : ∃ y, z.tmod (nT : Int) = y := ⟨_, rfl⟩
              have hbz := tmod_bd z (nT : Int) (by omega)
              rw [hz1] at hbz
              obtain ⟨p, hp⟩ : ∃ p : Nat, z % (nT : Int) = p := ⟨(z % (nT : Int)).toNat, by have := Int.emod_nonneg z (show (nT : Int) ≠ 0 by omega); omega⟩
              have hpl : (p : Int) < nT := by rw [← hp]; exact Int.emod_lt_of_pos z (by omega)
              have e1 : IntKind.i64.wrap (z1 + nT) = z1 + nT := IntWalk.i64_in _ (by have := hnT; omega)
              have e2 : (z1 + (nT : Int)).tmod (nT : Int) = (p : Nat) := by rw [← hz1, tmod_pos z (nT : Int) (by omega)]; exact hp
              obtain ⟨q, hq⟩ : ∃ q : Nat, j % nT = q := ⟨_, rfl⟩
              have hql : q < nT := by rw [← hq]; exact Nat.mod_lt _ j3
              have e3 : (j : Int).tmod (nT : Int) = (q : Nat) := by rw [Int.tmod_eq_emod_of_nonneg (by omega), ← hq]; rfl
              have hn0 : (nT : Int) ≠ 0 := by omega
              have j1' : (j : Int) < len1 := by omega
              have j2' : (j : Int) < 90 := by omega
              have j3' : (0 : Int) < nT := by omega
              have hpP : p < P.length := by omega
              have hqP : q < P.length := by omega
              have hpl' : (p : Int) < nT := by omega
              have hql' : (q : Int) < nT := by omega
              have HQ := Lib.hid (And.intro hrP (And.intro htw (And.intro hwr (And.intro hPn hPm))))
              clear hrP htw hwr hPm hbz hp hq hct
              go_wp2_with fail
              obtain ⟨hrP, htw, hwr2, hPn', hPm⟩ := HQ.out
              have hoq := (Off.refl (fun c => c = X) wr).drew
              have hrq := hrP.since ((Since.refl wr).drew)
              obtain ⟨sp, hsp⟩ : ∃ s, P[p] = s := ⟨_, rfl⟩
              obtain ⟨sq, hsq⟩ : ∃ s, P[q] = s := ⟨_, rfl⟩
              have hsw : (P.set p sq).set q sp = swapQ P p q := by unfold swapQ; rw [dif_pos ⟨hpP, hqP⟩, hsp, hsq]
              refine wp_region_held_drew (S := fun _ => True) (by kernel_rfl) trivial (fun hHeld => ?_)
              generalize wr.drew = wq at hrq hoq hHeld ⊢
              have cp := fun j u (hu : (encQ sp)[j]? = some u) => (hrq.list encQ_len).at_ hpP j (by rw [hsp]; exact hu)
              have cq := fun j u (hu : (encQ sq)[j]? = some u) => (hrq.list encQ_len).at_ hqP j (by rw [hsq]; exact hu)
              have p0 := cp 0 (.int .i64 sp.x) rfl
              have p1 := cp 1 (.int .i64 sp.y) rfl
              have p2 := cp 2 (.string sp.key) rfl
              have p3 := cp 3 (.string sp.val) rfl
              have p4 := cp 4 (.int .i64 sp.ver) rfl
              have q0 := cq 0 (.int .i64 sq.x) rfl
              have q1 := cq 1 (.int .i64 sq.y) rfl
              have q2 := cq 2 (.string sq.key) rfl
              have q3 := cq 3 (.string sq.val) rfl
              have q4 := cq 4 (.int .i64 sq.ver) rfl
              have f0 := World.ownsRow.frozenAt hrq (p * 5)
              have f1 := World.ownsRow.frozenAt hrq (p * 5 + 1)
              have f2 := World.ownsRow.frozenAt hrq (p * 5 + 2)
              have f3 := World.ownsRow.frozenAt hrq (p * 5 + 3)
              have f4 := World.ownsRow.frozenAt hrq (p * 5 + 4)
              rw [Nat.add_zero] at p0 q0
              clear cp cq hwr2 htw hrP hPm hsp hsq
              have HSW := Lib.hid hsw
              have HRQ := Lib.hid (And.intro hrq hoq)
              clear hsw hrq hoq
              refine wpAnyH_take (i := 0) (v := ?_) rfl (by kernel_rfl) (by kernel_rfl) (by kernel_rfl) (fun _ _ _ h => h) (Or.inl ⟨by rfl, ?_⟩) (by assumption) ?_
              rotate_left 1
              · (intro W hW; clear hW; go_simp; try with_reducible rfl)
              simp only [Act.put, List.getElem_toArray, List.getElem_cons_zero, List.setIfInBounds_toArray, List.set_cons_zero, List.set_cons_succ]
              refine wpAnyH_take (i := 1) (v := ?_) rfl (by kernel_rfl) (by kernel_rfl) (by kernel_rfl) (fun _ _ _ h => h) (Or.inl ⟨by rfl, ?_⟩) (by assumption) ?_
              rotate_left 1
              · (intro W hW; clear hW; go_simp; try with_reducible rfl)
              simp only [Act.put, List.getElem_toArray, List.getElem_cons_succ, List.getElem_cons_zero, List.setIfInBounds_toArray, List.set_cons_zero, List.set_cons_succ]
              refine wpAnyH_take (i := 2) (v := ?_) rfl (by kernel_rfl) (by kernel_rfl) (by kernel_rfl) (fun _ _ _ h => h) (Or.inl ⟨by rfl, ?_⟩) (by assumption) ?_
              rotate_left 1
              · (intro W hW; clear hW; go_simp; try with_reducible rfl)
              simp only [Act.put, List.getElem_toArray, List.getElem_cons_succ, List.getElem_cons_zero, List.setIfInBounds_toArray, List.set_cons_zero, List.set_cons_succ]
              refine wpAnyH_take (i := 3) (v := ?_) rfl (by kernel_rfl) (by kernel_rfl) (by kernel_rfl) (fun _ _ _ h => h) (Or.inl ⟨by rfl, ?_⟩) (by assumption) ?_
              rotate_left 1
              · (intro W hW; clear hW; go_simp; try with_reducible rfl)
              simp only [Act.put, List.getElem_toArray, List.getElem_cons_succ, List.getElem_cons_zero, List.setIfInBounds_toArray, List.set_cons_zero, List.set_cons_succ]
              refine wpAnyH_take (i := 4) (v := ?_) rfl (by kernel_rfl) (by kernel_rfl) (by kernel_rfl) (fun _ _ _ h => h) (Or.inl ⟨by rfl, ?_⟩) (by assumption) ?_
              rotate_left 1
              · (intro W hW; clear hW; go_simp; try with_reducible rfl)
              simp only [Act.put, List.getElem_toArray, List.getElem_cons_succ, List.getElem_cons_zero, List.setIfInBounds_toArray, List.set_cons_zero, List.set_cons_succ]
              refine wpAnyH_take (i := 5) (v := ?_) rfl (by kernel_rfl) (by kernel_rfl) (by kernel_rfl) (fun _ _ _ h => h) (Or.inl ⟨by rfl, ?_⟩) (by assumption) ?_
              rotate_left 1
              · (intro W hW; clear hW; go_simp; try with_reducible rfl)
              simp only [Act.put, List.getElem_toArray, List.getElem_cons_succ, List.getElem_cons_zero, List.setIfInBounds_toArray, List.set_cons_zero, List.set_cons_succ]
              refine wpAnyH_take (i := 6) (v := ?_) rfl (by kernel_rfl) (by kernel_rfl) (by kernel_rfl) (fun _ _ _ h => h) (Or.inl ⟨by rfl, ?_⟩) (by assumption) ?_
              rotate_left 1
              · (intro W hW; clear hW; go_simp; try with_reducible rfl)
              simp only [Act.put, List.getElem_toArray, List.getElem_cons_succ, List.getElem_cons_zero, List.setIfInBounds_toArray, List.set_cons_zero, List.set_cons_succ]
              refine wpAnyH_take (i := 8) (v := ?_) rfl (by kernel_rfl) (by kernel_rfl) (by kernel_rfl) (fun _ _ _ h => h) (Or.inl ⟨by rfl, ?_⟩) (by assumption) ?_
              rotate_left 1
              · (intro W hW; clear hW; go_simp; try with_reducible rfl)
              simp only [Act.put, List.getElem_toArray, List.getElem_cons_succ, List.getElem_cons_zero, List.setIfInBounds_toArray, List.set_cons_zero, List.set_cons_succ]
              refine wpAnyH_take (i := 9) (v := ?_) rfl (by kernel_rfl) (by kernel_rfl) (by kernel_rfl) (fun _ _ _ h => h) (Or.inl ⟨by rfl, ?_⟩) (by assumption) ?_
              rotate_left 1
              · (intro W hW; clear hW; go_simp; try with_reducible rfl)
              simp only [Act.put, List.getElem_toArray, List.getElem_cons_succ, List.getElem_cons_zero, List.setIfInBounds_toArray, List.set_cons_zero, List.set_cons_succ]
              refine wpAnyH_take (i := 10) (v := ?_) rfl (by kernel_rfl) (by kernel_rfl) (by kernel_rfl) (fun _ _ _ h => h) (Or.inl ⟨by rfl, ?_⟩) (by assumption) ?_
              rotate_left 1
              · (intro W hW; clear hW; go_simp; try with_reducible rfl)
              simp only [Act.put, List.getElem_toArray, List.getElem_cons_succ, List.getElem_cons_zero, List.setIfInBounds_toArray, List.set_cons_zero, List.set_cons_succ]
              refine wpAnyH_ready (rs := [7, 11]) (by kernel_rfl) (by simp) ?_
              refine AllReadyH.cons rfl (fun K hK => ?_) (AllReadyH.cons rfl (fun K hK => ?_) AllReadyH.nil)
              · go_simp
                skip
                refine hK.out _ _ (trivial) (fun hHeld => ?_)
                clear hK K
                try simp only [Act.put, List.getElem_toArray, List.getElem_cons_succ, List.getElem_cons_zero, List.setIfInBounds_toArray, List.set_cons_zero, List.set_cons_succ]
                refine wpAnyH_ready (rs := [11]) (by kernel_rfl) (by simp) ?_
                refine AllReadyH.cons rfl (fun K hK => ?_) AllReadyH.nil
                go_simp
                skip
                refine hK.out _ _ (trivial) (fun hHeld => ?_)
                clear hK K
                try simp only [Act.put, List.getElem_toArray, List.getElem_cons_succ, List.getElem_cons_zero, List.setIfInBounds_toArray, List.set_cons_zero, List.set_cons_succ]
                refine wpAnyH_take (i := 12) (v := ?_) rfl (by kernel_rfl) (by kernel_rfl) (by kernel_rfl) (fun _ _ _ h => h) (Or.inl ⟨by rfl, ?_⟩) (by assumption) ?_
                rotate_left 1
                · (intro W hW; clear hW; go_simp; try with_reducible rfl)
                simp only [Act.put, List.getElem_toArray, List.getElem_cons_succ, List.getElem_cons_zero, List.setIfInBounds_toArray, List.set_cons_zero, List.set_cons_succ]
                refine wpAnyH_ready (rs := [13]) (by kernel_rfl) (by simp) ?_
                refine AllReadyH.cons rfl (fun K hK => ?_) AllReadyH.nil
                go_simp
                clear p0 p1 p2 p3 p4 q0 q1 q2 q3 q4 f0 f1 f2 f3 f4
                refine hK.out _ _ (trivial) (fun hHeld => ?_)
                clear hK K
                try simp only [Act.put, List.getElem_toArray, List.getElem_cons_succ, List.getElem_cons_zero, List.setIfInBounds_toArray, List.set_cons_zero, List.set_cons_succ]
                refine wpAnyH_take (i := 14) (v := ?_) rfl (by kernel_rfl) (by kernel_rfl) (by kernel_rfl) (fun _ _ _ h => h) (Or.inl ⟨by rfl, ?_⟩) (by assumption) ?_
                rotate_left 1
                · (intro W hW; clear hW; go_simp; try with_reducible rfl)
                simp only [Act.put, List.getElem_toArray, List.getElem_cons_succ, List.getElem_cons_zero, List.setIfInBounds_toArray, List.set_cons_zero, List.set_cons_succ]
                refine wpAnyH_ready (rs := [15]) (by kernel_rfl) (by simp) ?_
                refine AllReadyH.cons rfl (fun K hK => ?_) AllReadyH.nil
                have hr1 := RowE.set5 HRQ.out.1 hpP sq
                have ho1 := five_off (F := fun c => c = X) HRQ.out.2 (g := X) rfl (p * 5) (.int .i64 sq.x) (.int .i64 sq.y) (.string sq.key) (.string sq.val) (.int .i64 sq.ver)
                have hr1' : RowE encQ 5 (((((wq.setCell ⟨X, p * 5, none⟩ (.int .i64 sq.x)).setCell ⟨X, p * 5 + 1, none⟩ (.int .i64 sq.y)).setCell ⟨X, p * 5 + 2, none⟩ (.string sq.key)).setCell ⟨X, p * 5 + 3, none⟩ (.string sq.val)).setCell ⟨X, p * 5 + 4, none⟩ (.int .i64 sq.ver)) wa.heap.size 42 (.slice (some ⟨X, 0, none⟩) (P.set p sq).length cT) (P.set p sq) := by rw [List.length_set]; exact hr1
                clear hr1
                generalize (((((wq.setCell ⟨X, p * 5, none⟩ (.int .i64 sq.x)).setCell ⟨X, p * 5 + 1, none⟩ (.int .i64 sq.y)).setCell ⟨X, p * 5 + 2, none⟩ (.string sq.key)).setCell ⟨X, p * 5 + 3, none⟩ (.string sq.val)).setCell ⟨X, p * 5 + 4, none⟩ (.int .i64 sq.ver)) = W1 at hr1' ho1 ⊢
                have hq2 : q < (P.set p sq).length := by rw [List.length_set]; exact hqP
                obtain ⟨s2, hs2⟩ : ∃ s, (P.set p sq)[q] = s := ⟨_, rfl⟩
                have ck := fun j u (hu : (encQ s2)[j]? = some u) => (hr1'.list encQ_len).at_ hq2 j (by rw [hs2]; exact hu)
                have k0 := ck 0 (.int .i64 s2.x) rfl
                have k1 := ck 1 (.int .i64 s2.y) rfl
                have k2 := ck 2 (.string s2.key) rfl
                have k3 := ck 3 (.string s2.val) rfl
                have k4 := ck 4 (.int .i64 s2.ver) rfl
                have f0 := World.ownsRow.frozenAt hr1' (q * 5)
                have f1 := World.ownsRow.frozenAt hr1' (q * 5 + 1)
                have f2 := World.ownsRow.frozenAt hr1' (q * 5 + 2)
                have f3 := World.ownsRow.frozenAt hr1' (q * 5 + 3)
                have f4 := World.ownsRow.frozenAt hr1' (q * 5 + 4)
                rw [Nat.add_zero] at k0
                clear ck hs2
                go_simp
                clear k0 k1 k2 k3 k4 f0 f1 f2 f3 f4
                refine hK.out _ _ (trivial) (fun hHeld => ?_)
                clear hK K
                try simp only [Act.put, List.getElem_toArray, List.getElem_cons_succ, List.getElem_cons_zero, List.setIfInBounds_toArray, List.set_cons_zero, List.set_cons_succ]
                refine wpAnyH_done (by kernel_rfl) ?_ _
                have hr2 := RowE.set5 hr1' hq2 sp
                have ho2 := five_off (F := fun c => c = X) ho1 (g := X) rfl (q * 5) (.int .i64 sp.x) (.int .i64 sp.y) (.string sp.key) (.string sp.val) (.int .i64 sp.ver)
                generalize (((((W1.setCell ⟨X, q * 5, none⟩ (.int .i64 sp.x)).setCell ⟨X, q * 5 + 1, none⟩ (.int .i64 sp.y)).setCell ⟨X, q * 5 + 2, none⟩ (.string sp.key)).setCell ⟨X, q * 5 + 3, none⟩ (.string sp.val)).setCell ⟨X, q * 5 + 4, none⟩ (.int .i64 sp.ver)) = W2 at hr2 ho2 ⊢
                rw [HSW.out, List.length_set, ← swap_len P p q] at hr2
                have HR2 := Lib.hid hr2
                clear hr2 hr1' ho1
                go_wp2_with fail
                go_roundw
                case rel =>
                  obtain ⟨hrP, htw, hwr2, hPn', hPm⟩ := HQ.out
                  exact ⟨j + 1, by go_num, by omega, swapQ P p q, (swap_len _ _ _).trans hPn', fun r => (swap_mem _ _ _ r).trans (hPm r), HR2.out, htw.off ho2 (fun c e z => z.2 (by rw [e]; rfl)) (fun c e z => z.2 (by rw [e]; rfl)), hwr2.trans (ho2.below hwr2.size (fun c e => by rw [e]; exact Nat.le_trans HWB.out (hrP.own X rfl).1))⟩
                case measure => simp [intOf]; omega
              · go_simp
                skip
                refine hK.out _ _ (trivial) (fun hHeld => ?_)
                clear hK K
                try simp only [Act.put, List.getElem_toArray, List.getElem_cons_succ, List.getElem_cons_zero, List.setIfInBounds_toArray, List.set_cons_zero, List.set_cons_succ]
                refine wpAnyH_ready (rs := [7]) (by kernel_rfl) (by simp) ?_
                refine AllReadyH.cons rfl (fun K hK => ?_) AllReadyH.nil
                go_simp
                skip
                refine hK.out _ _ (trivial) (fun hHeld => ?_)
                clear hK K
                try simp only [Act.put, List.getElem_toArray, List.getElem_cons_succ, List.getElem_cons_zero, List.setIfInBounds_toArray, List.set_cons_zero, List.set_cons_succ]
                refine wpAnyH_take (i := 12) (v := ?_) rfl (by kernel_rfl) (by kernel_rfl) (by kernel_rfl) (fun _ _ _ h => h) (Or.inl ⟨by rfl, ?_⟩) (by assumption) ?_
                rotate_left 1
                · (intro W hW; clear hW; go_simp; try with_reducible rfl)
                simp only [Act.put, List.getElem_toArray, List.getElem_cons_succ, List.getElem_cons_zero, List.setIfInBounds_toArray, List.set_cons_zero, List.set_cons_succ]
                refine wpAnyH_ready (rs := [13]) (by kernel_rfl) (by simp) ?_
                refine AllReadyH.cons rfl (fun K hK => ?_) AllReadyH.nil
                go_simp
                clear p0 p1 p2 p3 p4 q0 q1 q2 q3 q4 f0 f1 f2 f3 f4
                refine hK.out _ _ (trivial) (fun hHeld => ?_)
                clear hK K
                try simp only [Act.put, List.getElem_toArray, List.getElem_cons_succ, List.getElem_cons_zero, List.setIfInBounds_toArray, List.set_cons_zero, List.set_cons_succ]
                refine wpAnyH_take (i := 14) (v := ?_) rfl (by kernel_rfl) (by kernel_rfl) (by kernel_rfl) (fun _ _ _ h => h) (Or.inl ⟨by rfl, ?_⟩) (by assumption) ?_
                rotate_left 1
                · (intro W hW; clear hW; go_simp; try with_reducible rfl)
                simp only [Act.put, List.getElem_toArray, List.getElem_cons_succ, List.getElem_cons_zero, List.setIfInBounds_toArray, List.set_cons_zero, List.set_cons_succ]
                refine wpAnyH_ready (rs := [15]) (by kernel_rfl) (by simp) ?_
                refine AllReadyH.cons rfl (fun K hK => ?_) AllReadyH.nil
                have hr1 := RowE.set5 HRQ.out.1 hpP sq
                have ho1 := five_off (F := fun c => c = X) HRQ.out.2 (g := X) rfl (p * 5) (.int .i64 sq.x) (.int .i64 sq.y) (.string sq.key) (.string sq.val) (.int .i64 sq.ver)
                have hr1' : RowE encQ 5 (((((wq.setCell ⟨X, p * 5, none⟩ (.int .i64 sq.x)).setCell ⟨X, p * 5 + 1, none⟩ (.int .i64 sq.y)).setCell ⟨X, p * 5 + 2, none⟩ (.string sq.key)).setCell ⟨X, p * 5 + 3, none⟩ (.string sq.val)).setCell ⟨X, p * 5 + 4, none⟩ (.int .i64 sq.ver)) wa.heap.size 42 (.slice (some ⟨X, 0, none⟩) (P.set p sq).length cT) (P.set p sq) := by rw [List.length_set]; exact hr1
                clear hr1
                generalize (((((wq.setCell ⟨X, p * 5, none⟩ (.int .i64 sq.x)).setCell ⟨X, p * 5 + 1, none⟩ (.int .i64 sq.y)).setCell ⟨X, p * 5 + 2, none⟩ (.string sq.key)).setCell ⟨X, p * 5 + 3, none⟩ (.string sq.val)).setCell ⟨X, p * 5 + 4, none⟩ (.int .i64 sq.ver)) = W1 at hr1' ho1 ⊢
                have hq2 : q < (P.set p sq).length := by rw [List.length_set]; exact hqP
                obtain ⟨s2, hs2⟩ : ∃ s, (P.set p sq)[q] = s := ⟨_, rfl⟩
                have ck := fun j u (hu : (encQ s2)[j]? = some u) => (hr1'.list encQ_len).at_ hq2 j (by rw [hs2]; exact hu)
                have k0 := ck 0 (.int .i64 s2.x) rfl
                have k1 := ck 1 (.int .i64 s2.y) rfl
                have k2 := ck 2 (.string s2.key) rfl
                have k3 := ck 3 (.string s2.val) rfl
                have k4 := ck 4 (.int .i64 s2.ver) rfl
                have f0 := World.ownsRow.frozenAt hr1' (q * 5)
                have f1 := World.ownsRow.frozenAt hr1' (q * 5 + 1)
                have f2 := World.ownsRow.frozenAt hr1' (q * 5 + 2)
                have f3 := World.ownsRow.frozenAt hr1' (q * 5 + 3)
                have f4 := World.ownsRow.frozenAt hr1' (q * 5 + 4)
                rw [Nat.add_zero] at k0
                clear ck hs2
                go_simp
                clear k0 k1 k2 k3 k4 f0 f1 f2 f3 f4
                refine hK.out _ _ (trivial) (fun hHeld => ?_)
                clear hK K
                try simp only [Act.put, List.getElem_toArray, List.getElem_cons_succ, List.getElem_cons_zero, List.setIfInBounds_toArray, List.set_cons_zero, List.set_cons_succ]
                refine wpAnyH_done (by kernel_rfl) ?_ _
                have hr2 := RowE.set5 hr1' hq2 sp
                have ho2 := five_off (F := fun c => c = X) ho1 (g := X) rfl (q * 5) (.int .i64 sp.x) (.int .i64 sp.y) (.string sp.key) (.string sp.val) (.int .i64 sp.ver)
                generalize (((((W1.setCell ⟨X, q * 5, none⟩ (.int .i64 sp.x)).setCell ⟨X, q * 5 + 1, none⟩ (.int .i64 sp.y)).setCell ⟨X, q * 5 + 2, none⟩ (.string sp.key)).setCell ⟨X, q * 5 + 3, none⟩ (.string sp.val)).setCell ⟨X, q * 5 + 4, none⟩ (.int .i64 sp.ver)) = W2 at hr2 ho2 ⊢
                rw [HSW.out, List.length_set, ← swap_len P p q] at hr2
                have HR2 := Lib.hid hr2
                clear hr2 hr1' ho1
                go_wp2_with fail
                go_roundw
                case rel =>
                  obtain ⟨hrP, htw, hwr2, hPn', hPm⟩ := HQ.out
                  exact ⟨j + 1, by go_num, by omega, swapQ P p q, (swap_len _ _ _).trans hPn', fun r => (swap_mem _ _ _ r).trans (hPm r), HR2.out, htw.off ho2 (fun c e z => z.2 (by rw [e]; rfl)) (fun c e z => z.2 (by rw [e]; rfl)), hwr2.trans (ho2.below hwr2.size (fun c e => by rw [e]; exact Nat.le_trans HWB.out (hrP.own X rfl).1))⟩
                case measure => simp [intOf]; omega
            · obtain hc | ⟨c1, hc⟩ | ⟨c1, c2, hc⟩ : ¬ ((j : Int) < len1) ∨ ((j : Int) < len1 ∧ ¬ ((j : Int) < 90)) ∨ ((j : Int) < len1 ∧ (j : Int) < 90 ∧ ¬ ((0 : Int) < nT)) := by omega
              all_goals
                obtain ⟨wb, hwb⟩ : ∃ x, x = wr := ⟨_, rfl⟩
                subst hwb
                have hLP : ListE encQ 5 wb.heap.size wb (.slice xT nT cT) P := by have h := hrP.list encQ_len; rwa [hPn] at h
                have HX3 := Lib.hid (And.intro hLP (And.intro htw hwr))
                have HPM := Lib.hid hPm
                clear hrP hLP htw hwr hPm
                go_wp2_with fail
                have hx3 := HX3.out
                go_loopw [20] (fun i wr => ∃ k : Nat, i = .int .i64 (k : Int) ∧ k ≤ nT ∧ ListE encQ 5 wb.heap.size wr (.slice xT nT cT) P ∧ wb.heap.size ≤ wr.heap.size ∧ TwoT (fun c => w7.heap.size ≤ c ∧ (Value.slice xT nT cT).ownBlock ≠ some c) (fun c => w7.heap.size ≤ c ∧ (Value.slice xT nT cT).ownBlock ≠ some c) g g2 K D E T (putsQ (putsQ [] G) (P.take k)) wr ∧ Below w7.heap.size w7 wr) (fun i _ => nT - (intOf i).toNat)
                case atStart => exact ⟨0, rfl, Nat.zero_le _, hx3.1, Nat.le_refl _, hx3.2.1, hx3.2.2⟩
                case round =>
                  obtain ⟨k, rfl, hk, hlp, hsz, htw, hwr⟩ := hrel
                  clear hx3
                  by_cases hlt : k < nT
                  · have hll : k < P.length := by rw [hPn]; exact hlt
                    obtain ⟨ga, rfl, hga⟩ := hlp.root hll
                    obtain ⟨r, hz⟩ : ∃ z, P[k] = z := ⟨_, rfl⟩
                    have hc5 := fun j u (hu : (encQ r)[j]? = some u) => hlp.at_ hll j (by rw [hz]; exact hu)
                    have c0 := hc5 0 (.int .i64 r.x) rfl
                    have c1 := hc5 1 (.int .i64 r.y) rfl
                    have c2 := hc5 2 (.string r.key) rfl
                    have c3 := hc5 3 (.string r.val) rfl
                    have c4 := hc5 4 (.int .i64 r.ver) rfl
                    rw [Nat.add_zero] at c0
                    have h1' : (k : Int) < nT := by omega
                    have hrm : r ∈ putsQ [] A := by rw [HT.out]; exact (HPM.out r).1 (by rw [← hz]; exact List.getElem_mem hll)
                    have hok : okR (zoneR K D E) r = true := by
                      rcases puts_sub A sortQ_nil r hrm with h | h
                      · exact List.all_eq_true.1 HAO.out r h
                      · cases h
                    have hpt : putT (zoneR K D E) (putsQ (putsQ [] G) (P.take k)) r = putsQ (putsQ [] G) (P.take (k + 1)) := by
                      unfold putT
                      rw [if_pos hok, List.take_add_one, List.getElem?_eq_getElem hll, hz]
                      exact (putsQ_snoc _ _ _).symm
                    obtain ⟨q, q2, h1, h2, h3, h4, h5⟩ := htw
                    have hln : (putsQ (putsQ [] G) (P.take k)).length ≤ 999 := by
                      have z1 := putsQ_most (putsQ [] G) (P.take k)
                      have z2 := putsQ_most [] G
                      rw [List.length_take] at z1
                      rw [HNG.out, List.length_nil] at z2
                      omega
                    have hput := tput_any h2 hln r
                    obtain ⟨H, hH⟩ : ∃ H, hasQ (putsQ (putsQ [] G) (P.take k)) r.x r.y r.key = H := ⟨_, rfl⟩
                    rw [hok, hpt, hH] at hput
                    simp only [if_true, Bool.true_and] at hput
                    have HP := Lib.hid hput
                    have HQ := Lib.hid (And.intro h1 (And.intro h2 (And.intro h3 (And.intro h4 (And.intro h5 (And.intro hwr hlp))))))
                    clear hput hH h1 h2 h3 h4 h5 hwr hlp hc5 hz hpt hok hln hll hrm
                    go_wp2_with (go_at_call 11; (with_reducible refine HP.out.mono ?_); rintro e w13 ⟨rfl, hp⟩)
                    go_roundw
                    case rel =>
                      obtain ⟨h1, h2, h3, h4, h5, hwr, hlp⟩ := HQ.out
                      have hz := hwr.size
                      obtain ⟨t1, t2⟩ := two_put2 h1 h2 h3 h4 h5 (fun c hc => ⟨by omega, fun e => by have e' : some ga = some c := e; injection e' with e'; omega⟩) hp
                      exact ⟨k + 1, by go_num, by omega, hlp.off hsz t2 (fun a e z => z.2 e), Nat.le_trans hsz t2.size, t1, hwr.trans (t2.below hz (fun c z => z.1))⟩
                    case measure => simp [intOf]; omega
                  · obtain rfl : nT = k := by omega
                    obtain ⟨wc, hwc⟩ : ∃ x, x = wr := ⟨_, rfl⟩
                    subst hwc
                    rw [List.take_of_length_le (Nat.le_of_eq hPn)] at htw
                    have hsame : dropsQ T (putsQ (putsQ [] G) P) G = T := by rw [← HT.out]; exact order_same (fun r => by rw [HT.out]; exact HPM.out r)
                    have hsU : SortQ (putsQ (putsQ [] G) P) := puts_sort P (puts_sort G sortQ_nil)
                    obtain ⟨U, hU⟩ : ∃ U, putsQ (putsQ [] G) P = U := ⟨_, rfl⟩
                    rw [hU] at hsame htw hsU
                    have HSU := Lib.hid (And.intro hsame hsU)
                    have HX4 := Lib.hid (And.intro (htw.mono (G1 := fun c => w7.heap.size ≤ c) (G2 := fun c => w7.heap.size ≤ c) (fun c z => z.1) (fun c z => z.1)) hwr)
                    clear htw hwr hlp hsame hsU hU
                    go_wp2_with fail
                    have hx4 := HX4.out
                    go_loopw [21] (fun i wr => ∃ k : Nat, i = .int .i64 (k : Int) ∧ k ≤ ng ∧ TwoT (fun c => w7.heap.size ≤ c) (fun c => w7.heap.size ≤ c) g g2 K D E T (dropsQ T U (G.take k)) wr ∧ Below w7.heap.size w7 wr) (fun i _ => ng - (intOf i).toNat)
                    case atStart => exact ⟨0, rfl, Nat.zero_le _, hx4.1, hx4.2⟩
                    case round =>
                      obtain ⟨k, rfl, hk, htw, hwr⟩ := hrel
                      clear hx4
                      by_cases hlt : k < ng
                      · have hll : k < G.length := by rw [HNG.out]; exact hlt
                        obtain ⟨gg, rfl, -⟩ := HLG.out.root hll
                        obtain ⟨r, hz⟩ : ∃ z, G[k] = z := ⟨_, rfl⟩
                        have hc5 := fun W (hW : Below w7.heap.size w7 W) j u (hu : (encQ r)[j]? = some u) => (HLG.out.below hW (Nat.le_refl _)).at_ hll j (by rw [hz]; exact hu)
                        have HC5 := Lib.hid hc5
                        have c0 := fun W (hW : Since wr W) => hc5 W (hwr.trans (Below.mono hW hwr.size)) 0 (.int .i64 r.x) rfl
                        have c1 := fun W (hW : Since wr W) => hc5 W (hwr.trans (Below.mono hW hwr.size)) 1 (.int .i64 r.y) rfl
                        have c2 := fun W (hW : Since wr W) => hc5 W (hwr.trans (Below.mono hW hwr.size)) 2 (.string r.key) rfl
                        rw [Nat.add_zero] at c0
                        have h1' : (k : Int) < ng := by omega
                        have htk : dropsQ T U (G.take (k + 1)) = dropQ T (dropsQ T U (G.take k)) r := by
                          rw [List.take_add_one, List.getElem?_eq_getElem hll, hz]
                          exact dropsQ_snoc _ _ _ _
                        obtain ⟨q, q2, h1, h2, h3, h4, h5⟩ := htw
                        obtain ⟨s, hs⟩ : ∃ s, getQ T r.x r.y r.key = s := ⟨_, rfl⟩
                        obtain ⟨H, hH⟩ : ∃ H, hasQ T r.x r.y r.key = H := ⟨_, rfl⟩
                        have hget := fun W (hW : Since wr W) => tget_any (h1.since hW) r.x r.y r.key
                        rw [hs, hH] at hget
                        simp only [Rq.v] at hget
                        have HGET := Lib.hid hget
                        obtain ⟨HD, hHD⟩ : ∃ H, hasQ (dropsQ T U (G.take k)) r.x r.y r.key = H := ⟨_, rfl⟩
                        have hdel := fun W (hW : Since wr W) => tdel_any (h2.since hW) r.x r.y r.key
                        rw [hHD] at hdel
                        have HDEL := Lib.hid hdel
                        have HQ := Lib.hid (And.intro h1 (And.intro h2 (And.intro h3 (And.intro h4 (And.intro h5 (And.intro hwr (And.intro htk hH)))))))
                        clear hget hdel h1 h2 h3 h4 h5 hwr htk hH hHD hs hc5 hz hll
                        have hsd := (Since.refl wr).drew
                        go_wp2_with fail
                        obtain ⟨wq, hwq⟩ : ∃ wq, wq = wr.drew := ⟨_, rfl⟩
                        refine wp_region_held_drew (S := fun W => Since wr W) (by kernel_rfl) hsd (fun hHeld => ?_)
                        rw [← hwq] at hHeld ⊢
                        have hq : Since wr wq := hHeld
                        clear hwq hsd
                        refine wpAnyH_take (i := 0) (v := ?_) rfl (by kernel_rfl) (by kernel_rfl) (by kernel_rfl) (fun _ _ _ h => h) (Or.inl ⟨by rfl, ?_⟩) (by assumption) ?_
                        rotate_left 1
                        · (intro W hW; clear hW; go_simp; try with_reducible rfl)
                        simp only [Act.put, List.getElem_toArray, List.getElem_cons_zero, List.setIfInBounds_toArray, List.set_cons_zero, List.set_cons_succ]
                        refine wpAnyH_take (i := 1) (v := ?_) rfl (by kernel_rfl) (by kernel_rfl) (by kernel_rfl) (fun _ _ _ h => h) (Or.inl ⟨by rfl, ?_⟩) (by assumption) ?_
                        rotate_left 1
                        · (intro W hW; clear hW; go_simp; try with_reducible rfl)
                        simp only [Act.put, List.getElem_toArray, List.getElem_cons_succ, List.getElem_cons_zero, List.setIfInBounds_toArray, List.set_cons_zero, List.set_cons_succ]
                        refine wpAnyH_take (i := 2) (v := ?_) rfl (by kernel_rfl) (by kernel_rfl) (by kernel_rfl) (fun _ _ _ h => h) (Or.inl ⟨by rfl, ?_⟩) (by assumption) ?_
                        rotate_left 1
                        · (intro W hW; clear hW; go_simp; try with_reducible rfl)
                        simp only [Act.put, List.getElem_toArray, List.getElem_cons_succ, List.getElem_cons_zero, List.setIfInBounds_toArray, List.set_cons_zero, List.set_cons_succ]
                        refine wpAnyH_take (i := 3) (v := ?_) rfl (by kernel_rfl) (by kernel_rfl) (by kernel_rfl) (fun _ _ _ h => h) (Or.inl ⟨by rfl, ?_⟩) (by assumption) ?_
                        rotate_left 1
                        · (intro W hW; clear hW; go_simp; try with_reducible rfl)
                        simp only [Act.put, List.getElem_toArray, List.getElem_cons_succ, List.getElem_cons_zero, List.setIfInBounds_toArray, List.set_cons_zero, List.set_cons_succ]
                        refine wpAnyH_take (i := 4) (v := ?_) rfl (by kernel_rfl) (by kernel_rfl) (by kernel_rfl) (fun _ _ _ h => h) (Or.inl ⟨by rfl, ?_⟩) (by assumption) ?_
                        rotate_left 1
                        · (intro W hW; clear hW; go_simp; try with_reducible rfl)
                        simp only [Act.put, List.getElem_toArray, List.getElem_cons_succ, List.getElem_cons_zero, List.setIfInBounds_toArray, List.set_cons_zero, List.set_cons_succ]
                        refine wpAnyH_take (i := 5) (v := ?_) rfl (by kernel_rfl) (by kernel_rfl) (by kernel_rfl) (fun _ _ _ h => h) (Or.inl ⟨by rfl, ?_⟩) (by assumption) ?_
                        rotate_left 1
                        · (intro W hW; skip; go_simp; try with_reducible rfl)
                        simp only [Act.put, List.getElem_toArray, List.getElem_cons_succ, List.getElem_cons_zero, List.setIfInBounds_toArray, List.set_cons_zero, List.set_cons_succ]
                        refine wpAnyH_take (i := 6) (v := ?_) rfl (by kernel_rfl) (by kernel_rfl) (by kernel_rfl) (fun _ _ _ h => h) (Or.inl ⟨by rfl, ?_⟩) (by assumption) ?_
                        rotate_left 1
                        · (intro W hW; clear hW; go_simp; try with_reducible rfl)
                        simp only [Act.put, List.getElem_toArray, List.getElem_cons_succ, List.getElem_cons_zero, List.setIfInBounds_toArray, List.set_cons_zero, List.set_cons_succ]
                        refine wpAnyH_take (i := 7) (v := ?_) rfl (by kernel_rfl) (by kernel_rfl) (by kernel_rfl) (fun _ _ _ h => h) (Or.inl ⟨by rfl, ?_⟩) (by assumption) ?_
                        rotate_left 1
                        · (intro W hW; clear hW; go_simp; try with_reducible rfl)
                        simp only [Act.put, List.getElem_toArray, List.getElem_cons_succ, List.getElem_cons_zero, List.setIfInBounds_toArray, List.set_cons_zero, List.set_cons_succ]
                        refine wpAnyH_take (i := 8) (v := ?_) rfl (by kernel_rfl) (by kernel_rfl) (by kernel_rfl) (fun _ _ _ h => h) (Or.inl ⟨by rfl, ?_⟩) (by assumption) ?_
                        rotate_left 1
                        · (intro W hW; clear hW; go_simp; try with_reducible rfl)
                        simp only [Act.put, List.getElem_toArray, List.getElem_cons_succ, List.getElem_cons_zero, List.setIfInBounds_toArray, List.set_cons_zero, List.set_cons_succ]
                        refine wpAnyH_take (i := 9) (v := ?_) rfl (by kernel_rfl) (by kernel_rfl) (by kernel_rfl) (fun _ _ _ h => h) (Or.inl ⟨by rfl, ?_⟩) (by assumption) ?_
                        rotate_left 1
                        · (intro W hW; clear hW; go_simp; try with_reducible rfl)
                        simp only [Act.put, List.getElem_toArray, List.getElem_cons_succ, List.getElem_cons_zero, List.setIfInBounds_toArray, List.set_cons_zero, List.set_cons_succ]
                        refine wpAnyH_take (i := 10) (v := ?_) rfl (by kernel_rfl) (by kernel_rfl) (by kernel_rfl) (fun _ _ _ h => h) (Or.inl ⟨by rfl, ?_⟩) (by assumption) ?_
                        rotate_left 1
                        · (intro W hW; skip; go_simp; try with_reducible rfl)
                        simp only [Act.put, List.getElem_toArray, List.getElem_cons_succ, List.getElem_cons_zero, List.setIfInBounds_toArray, List.set_cons_zero, List.set_cons_succ]
                        refine wpAnyH_ready (rs := [11, 15]) (by kernel_rfl) (by simp) ?_
                        refine AllReadyH.cons rfl (fun K hK => ?_) (AllReadyH.cons rfl (fun K hK => ?_) AllReadyH.nil)
                        · go_simp
                          refine (Calls.since hq (HGET.out _ (by (try exact hq) <;> exact hq.alloc _))).mono ?_
                          rintro e w2 ⟨rfl, hb2⟩
                          go_wp2_with fail
                          refine hK.out _ _ (hb2) (fun hHeld => ?_)
                          clear hK K
                          try simp only [Act.put, List.getElem_toArray, List.getElem_cons_succ, List.getElem_cons_zero, List.setIfInBounds_toArray, List.set_cons_zero, List.set_cons_succ]
                          refine wpAnyH_take (i := 12) (v := ?_) rfl (by kernel_rfl) (by kernel_rfl) (by kernel_rfl) (fun _ _ _ h => h) (Or.inl ⟨by rfl, ?_⟩) (by assumption) ?_
                          rotate_left 1
                          · (intro W hW; clear hW; go_simp; try with_reducible rfl)
                          simp only [Act.put, List.getElem_toArray, List.getElem_cons_succ, List.getElem_cons_zero, List.setIfInBounds_toArray, List.set_cons_zero, List.set_cons_succ]
                          refine wpAnyH_take (i := 13) (v := ?_) rfl (by kernel_rfl) (by kernel_rfl) (by kernel_rfl) (fun _ _ _ h => h) (Or.inl ⟨by rfl, ?_⟩) (by assumption) ?_
                          rotate_left 1
                          · (intro W hW; clear hW; go_simp; try with_reducible rfl)
                          simp only [Act.put, List.getElem_toArray, List.getElem_cons_succ, List.getElem_cons_zero, List.setIfInBounds_toArray, List.set_cons_zero, List.set_cons_succ]
                          refine wpAnyH_take (i := 14) (v := ?_) rfl (by kernel_rfl) (by kernel_rfl) (by kernel_rfl) (fun _ _ _ h => h) (Or.inl ⟨by rfl, ?_⟩) (by assumption) ?_
                          rotate_left 1
                          · (intro W hW; clear hW; go_simp; try with_reducible rfl)
                          simp only [Act.put, List.getElem_toArray, List.getElem_cons_succ, List.getElem_cons_zero, List.setIfInBounds_toArray, List.set_cons_zero, List.set_cons_succ]
                          refine wpAnyH_ready (rs := [15]) (by kernel_rfl) (by simp) ?_
                          refine AllReadyH.cons rfl (fun K hK => ?_) AllReadyH.nil
                          go_simp
                          skip
                          refine hK.out _ _ (hb2.alloc _) (fun hHeld => ?_)
                          clear hK K
                          try simp only [Act.put, List.getElem_toArray, List.getElem_cons_succ, List.getElem_cons_zero, List.setIfInBounds_toArray, List.set_cons_zero, List.set_cons_succ]
                          refine wpAnyH_ready (rs := [16]) (by kernel_rfl) (by simp) ?_
                          refine AllReadyH.cons rfl (fun K hK => ?_) AllReadyH.nil
                          go_simp
                          skip
                          refine hK.out _ _ (hb2.alloc _) (fun hHeld => ?_)
                          clear hK K
                          try simp only [Act.put, List.getElem_toArray, List.getElem_cons_succ, List.getElem_cons_zero, List.setIfInBounds_toArray, List.set_cons_zero, List.set_cons_succ]
                          refine wpAnyH_take (i := 17) (v := ?_) rfl (by kernel_rfl) (by kernel_rfl) (by kernel_rfl) (fun _ _ _ h => h) (Or.inl ⟨by rfl, ?_⟩) (by assumption) ?_
                          rotate_left 1
                          · (intro W hW; clear hW; go_simp; try with_reducible rfl)
                          simp only [Act.put, List.getElem_toArray, List.getElem_cons_succ, List.getElem_cons_zero, List.setIfInBounds_toArray, List.set_cons_zero, List.set_cons_succ]
                          refine wpAnyH_done (by kernel_rfl) ?_ _
                          obtain ⟨w5, hw5⟩ : ∃ w5, w5 = w2.alloc (.cells #[.int .i64 s.x, .int .i64 s.y, .string s.key, .string s.val, .int .i64 s.ver] 42) := ⟨_, rfl⟩
                          have hS5 : Since wr w5 := Since.named (hb2.alloc _) hw5
                          have hN5 : Whole w5 w2.heap.size 42 #[.int .i64 s.x, .int .i64 s.y, .string s.key, .string s.val, .int .i64 s.ver] := (Whole.new w2 _ _).named hw5
                          obtain ⟨NB, hNB⟩ : ∃ NB, NB = w2.heap.size := ⟨_, rfl⟩
                          rw [← hw5, ← hNB]
                          rw [← hNB] at hN5
                          clear hHeld hb2 hw5 hNB hq
                          cases H with
                          | true =>
                            clear hN5
                            go_wp2_with fail
                            go_roundw
                            case rel =>
                              obtain ⟨h1, h2, h3, h4, h5, hwr, htk, hH⟩ := HQ.out
                              refine ⟨k + 1, by go_num, by omega, ?_, hwr.trans (Below.mono hS5 hwr.size)⟩
                              rw [htk, show dropQ T (dropsQ T U (G.take k)) r = dropsQ T U (G.take k) from if_pos hH]
                              exact ⟨q, q2, h1.since hS5, h2.since hS5, h3, h4, h5⟩
                            case measure => simp [intOf]; omega
                          | false =>
                            clear hN5
                            have e0 := fun W (hW : Below w7.heap.size w7 W) => HC5.out W hW 0 (.int .i64 r.x) rfl
                            have e1 := fun W (hW : Below w7.heap.size w7 W) => HC5.out W hW 1 (.int .i64 r.y) rfl
                            have e2 := fun W (hW : Below w7.heap.size w7 W) => HC5.out W hW 2 (.string r.key) rfl
                            rw [Nat.add_zero] at e0
                            clear c0 c1 c2
                            go_wp2_with fail
                            have hwq := HQ.out.2.2.2.2.2.1
                            have hz5 := (Since.refl w5).drew
                            have hS6 := hS5.trans hz5
                            refine wp_region_held_drew (S := fun W => Below w7.heap.size w7 W) (by kernel_rfl) (hwq.trans (Below.mono hS6 hwq.size)) (fun hHeld => ?_)
                            generalize w5.drew = wz at hHeld hz5 hS6 ⊢
                            clear hwq
                            refine wpAnyH_take (i := 0) (v := ?_) rfl (by kernel_rfl) (by kernel_rfl) (by kernel_rfl) (fun _ _ _ h => h) (Or.inl ⟨by rfl, ?_⟩) (by assumption) ?_
                            rotate_left 1
                            · (intro W hW; clear hW; go_simp; try with_reducible rfl)
                            simp only [Act.put, List.getElem_toArray, List.getElem_cons_zero, List.setIfInBounds_toArray, List.set_cons_zero, List.set_cons_succ]
                            refine wpAnyH_take (i := 1) (v := ?_) rfl (by kernel_rfl) (by kernel_rfl) (by kernel_rfl) (fun _ _ _ h => h) (Or.inl ⟨by rfl, ?_⟩) (by assumption) ?_
                            rotate_left 1
                            · (intro W hW; clear hW; go_simp; try with_reducible rfl)
                            simp only [Act.put, List.getElem_toArray, List.getElem_cons_succ, List.getElem_cons_zero, List.setIfInBounds_toArray, List.set_cons_zero, List.set_cons_succ]
                            refine wpAnyH_take (i := 2) (v := ?_) rfl (by kernel_rfl) (by kernel_rfl) (by kernel_rfl) (fun _ _ _ h => h) (Or.inl ⟨by rfl, ?_⟩) (by assumption) ?_
                            rotate_left 1
                            · (intro W hW; clear hW; go_simp; try with_reducible rfl)
                            simp only [Act.put, List.getElem_toArray, List.getElem_cons_succ, List.getElem_cons_zero, List.setIfInBounds_toArray, List.set_cons_zero, List.set_cons_succ]
                            refine wpAnyH_take (i := 3) (v := ?_) rfl (by kernel_rfl) (by kernel_rfl) (by kernel_rfl) (fun _ _ _ h => h) (Or.inl ⟨by rfl, ?_⟩) (by assumption) ?_
                            rotate_left 1
                            · (intro W hW; clear hW; go_simp; try with_reducible rfl)
                            simp only [Act.put, List.getElem_toArray, List.getElem_cons_succ, List.getElem_cons_zero, List.setIfInBounds_toArray, List.set_cons_zero, List.set_cons_succ]
                            refine wpAnyH_take (i := 4) (v := ?_) rfl (by kernel_rfl) (by kernel_rfl) (by kernel_rfl) (fun _ _ _ h => h) (Or.inl ⟨by rfl, ?_⟩) (by assumption) ?_
                            rotate_left 1
                            · (intro W hW; clear hW; go_simp; try with_reducible rfl)
                            simp only [Act.put, List.getElem_toArray, List.getElem_cons_succ, List.getElem_cons_zero, List.setIfInBounds_toArray, List.set_cons_zero, List.set_cons_succ]
                            refine wpAnyH_take (i := 5) (v := ?_) rfl (by kernel_rfl) (by kernel_rfl) (by kernel_rfl) (fun _ _ _ h => h) (Or.inl ⟨by rfl, ?_⟩) (by assumption) ?_
                            rotate_left 1
                            · (intro W hW; skip; go_simp; try with_reducible rfl)
                            simp only [Act.put, List.getElem_toArray, List.getElem_cons_succ, List.getElem_cons_zero, List.setIfInBounds_toArray, List.set_cons_zero, List.set_cons_succ]
                            refine wpAnyH_take (i := 6) (v := ?_) rfl (by kernel_rfl) (by kernel_rfl) (by kernel_rfl) (fun _ _ _ h => h) (Or.inl ⟨by rfl, ?_⟩) (by assumption) ?_
                            rotate_left 1
                            · (intro W hW; clear hW; go_simp; try with_reducible rfl)
                            simp only [Act.put, List.getElem_toArray, List.getElem_cons_succ, List.getElem_cons_zero, List.setIfInBounds_toArray, List.set_cons_zero, List.set_cons_succ]
                            refine wpAnyH_take (i := 7) (v := ?_) rfl (by kernel_rfl) (by kernel_rfl) (by kernel_rfl) (fun _ _ _ h => h) (Or.inl ⟨by rfl, ?_⟩) (by assumption) ?_
                            rotate_left 1
                            · (intro W hW; clear hW; go_simp; try with_reducible rfl)
                            simp only [Act.put, List.getElem_toArray, List.getElem_cons_succ, List.getElem_cons_zero, List.setIfInBounds_toArray, List.set_cons_zero, List.set_cons_succ]
                            refine wpAnyH_take (i := 8) (v := ?_) rfl (by kernel_rfl) (by kernel_rfl) (by kernel_rfl) (fun _ _ _ h => h) (Or.inl ⟨by rfl, ?_⟩) (by assumption) ?_
                            rotate_left 1
                            · (intro W hW; clear hW; go_simp; try with_reducible rfl)
                            simp only [Act.put, List.getElem_toArray, List.getElem_cons_succ, List.getElem_cons_zero, List.setIfInBounds_toArray, List.set_cons_zero, List.set_cons_succ]
                            refine wpAnyH_take (i := 9) (v := ?_) rfl (by kernel_rfl) (by kernel_rfl) (by kernel_rfl) (fun _ _ _ h => h) (Or.inl ⟨by rfl, ?_⟩) (by assumption) ?_
                            rotate_left 1
                            · (intro W hW; clear hW; go_simp; try with_reducible rfl)
                            simp only [Act.put, List.getElem_toArray, List.getElem_cons_succ, List.getElem_cons_zero, List.setIfInBounds_toArray, List.set_cons_zero, List.set_cons_succ]
                            refine wpAnyH_take (i := 10) (v := ?_) rfl (by kernel_rfl) (by kernel_rfl) (by kernel_rfl) (fun _ _ _ h => h) (Or.inl ⟨by rfl, ?_⟩) (by assumption) ?_
                            rotate_left 1
                            · (intro W hW; skip; go_simp; try with_reducible rfl)
                            simp only [Act.put, List.getElem_toArray, List.getElem_cons_succ, List.getElem_cons_zero, List.setIfInBounds_toArray, List.set_cons_zero, List.set_cons_succ]
                            refine wpAnyH_ready (rs := [11]) (by kernel_rfl) (by simp) ?_
                            refine AllReadyH.cons rfl (fun K hK => ?_) AllReadyH.nil
                            go_simp
                            refine (HDEL.out _ hS6).mono ?_
                            rintro e w6 ⟨rfl, hp⟩
                            obtain ⟨h1, h2, h3, h4, h5, hwr, htk, hH⟩ := HQ.out
                            have hz := hwr.size
                            have hz6 := hS6.size_
                            obtain ⟨t1, t2⟩ := two_put2 (h1.since hS6) (h2.since hS6) h3 h4 h5 (fun c hc => by omega) hp
                            have hb6 : Below w7.heap.size w7 w6 := (hwr.trans (Below.mono hS6 hz)).trans (t2.below (by omega) (fun c z => z))
                            have HT1 := Lib.hid (And.intro t1 hb6)
                            clear h1 h2 h3 h4 h5 hwr hz hz6 t1 t2 hp hH htk
                            go_wp2_with fail
                            refine hK.out _ _ (hb6) (fun hHeld => ?_)
                            clear hK K
                            try simp only [Act.put, List.getElem_toArray, List.getElem_cons_succ, List.getElem_cons_zero, List.setIfInBounds_toArray, List.set_cons_zero, List.set_cons_succ]
                            refine wpAnyH_done (by kernel_rfl) ?_ _
                            go_wp2_with fail
                            go_roundw
                            case rel =>
                              obtain ⟨h1, h2, h3, h4, h5, hwr, htk, hH⟩ := HQ.out
                              refine ⟨k + 1, by go_num, by omega, ?_, HT1.out.2⟩
                              rw [htk, show dropQ T (dropsQ T U (G.take k)) r = delQ (dropsQ T U (G.take k)) r.x r.y r.key from if_neg (by rw [hH]; exact Bool.false_ne_true)]
                              exact HT1.out.1
                            case measure => simp [intOf]; omega
                        · go_simp
                          skip
                          refine hK.out _ _ (hq.alloc _) (fun hHeld => ?_)
                          clear hK K
                          try simp only [Act.put, List.getElem_toArray, List.getElem_cons_succ, List.getElem_cons_zero, List.setIfInBounds_toArray, List.set_cons_zero, List.set_cons_succ]
                          refine wpAnyH_ready (rs := [11]) (by kernel_rfl) (by simp) ?_
                          refine AllReadyH.cons rfl (fun K hK => ?_) AllReadyH.nil
                          go_simp
                          refine (HGET.out _ (by (try exact hq) <;> exact hq.alloc _)).mono ?_
                          rintro e w2 ⟨rfl, hb2'⟩
                          have hb2 : Since wr w2 := Since.trans (hq.alloc _) hb2'
                          have hw := (Whole.new wq 42 #[.int .i64 0, .int .i64 0, .string ⟨#[]⟩, .string ⟨#[]⟩, .int .i64 0]).below hb2' (by simp)
                          have y0 := hw.cell 0
                          have x0 := hw.frozen 0
                          have y1 := hw.cell 1
                          have x1 := hw.frozen 1
                          have y2 := hw.cell 2
                          have x2 := hw.frozen 2
                          have y3 := hw.cell 3
                          have x3 := hw.frozen 3
                          have y4 := hw.cell 4
                          have x4 := hw.frozen 4
                          go_wp2_with fail
                          refine hK.out _ _ (hb2) (fun hHeld => ?_)
                          clear hK K
                          try simp only [Act.put, List.getElem_toArray, List.getElem_cons_succ, List.getElem_cons_zero, List.setIfInBounds_toArray, List.set_cons_zero, List.set_cons_succ]
                          refine wpAnyH_take (i := 12) (v := ?_) rfl (by kernel_rfl) (by kernel_rfl) (by kernel_rfl) (fun _ _ _ h => h) (Or.inl ⟨by rfl, ?_⟩) (by assumption) ?_
                          rotate_left 1
                          · (intro W hW; clear hW; go_simp; try with_reducible rfl)
                          simp only [Act.put, List.getElem_toArray, List.getElem_cons_succ, List.getElem_cons_zero, List.setIfInBounds_toArray, List.set_cons_zero, List.set_cons_succ]
                          refine wpAnyH_take (i := 13) (v := ?_) rfl (by kernel_rfl) (by kernel_rfl) (by kernel_rfl) (fun _ _ _ h => h) (Or.inl ⟨by rfl, ?_⟩) (by assumption) ?_
                          rotate_left 1
                          · (intro W hW; clear hW; go_simp; try with_reducible rfl)
                          simp only [Act.put, List.getElem_toArray, List.getElem_cons_succ, List.getElem_cons_zero, List.setIfInBounds_toArray, List.set_cons_zero, List.set_cons_succ]
                          refine wpAnyH_take (i := 14) (v := ?_) rfl (by kernel_rfl) (by kernel_rfl) (by kernel_rfl) (fun _ _ _ h => h) (Or.inl ⟨by rfl, ?_⟩) (by assumption) ?_
                          rotate_left 1
                          · (intro W hW; clear hW; go_simp; try with_reducible rfl)
                          simp only [Act.put, List.getElem_toArray, List.getElem_cons_succ, List.getElem_cons_zero, List.setIfInBounds_toArray, List.set_cons_zero, List.set_cons_succ]
                          refine wpAnyH_ready (rs := [16]) (by kernel_rfl) (by simp) ?_
                          refine AllReadyH.cons rfl (fun K hK => ?_) AllReadyH.nil
                          go_simp
                          skip
                          refine hK.out _ _ ((Since.setCell (Since.setCell (Since.setCell (Since.setCell (Since.setCell hb2 (p := ⟨wq.heap.size, 0, none⟩) hq.size_ _) (p := ⟨wq.heap.size, 1, none⟩) hq.size_ _) (p := ⟨wq.heap.size, 2, none⟩) hq.size_ _) (p := ⟨wq.heap.size, 3, none⟩) hq.size_ _) (p := ⟨wq.heap.size, 4, none⟩) hq.size_ _)) (fun hHeld => ?_)
                          clear hK K
                          try simp only [Act.put, List.getElem_toArray, List.getElem_cons_succ, List.getElem_cons_zero, List.setIfInBounds_toArray, List.set_cons_zero, List.set_cons_succ]
                          refine wpAnyH_take (i := 17) (v := ?_) rfl (by kernel_rfl) (by kernel_rfl) (by kernel_rfl) (fun _ _ _ h => h) (Or.inl ⟨by rfl, ?_⟩) (by assumption) ?_
                          rotate_left 1
                          · (intro W hW; clear hW; go_simp; try with_reducible rfl)
                          simp only [Act.put, List.getElem_toArray, List.getElem_cons_succ, List.getElem_cons_zero, List.setIfInBounds_toArray, List.set_cons_zero, List.set_cons_succ]
                          refine wpAnyH_done (by kernel_rfl) ?_ _
                          obtain ⟨w5, hw5⟩ : ∃ w5, w5 = (((((w2.setCell ⟨wq.heap.size, 0, none⟩ (.int .i64 s.x)).setCell ⟨wq.heap.size, 1, none⟩ (.int .i64 s.y)).setCell ⟨wq.heap.size, 2, none⟩ (.string s.key)).setCell ⟨wq.heap.size, 3, none⟩ (.string s.val)).setCell ⟨wq.heap.size, 4, none⟩ (.int .i64 s.ver)) := ⟨_, rfl⟩
                          have hS5 : Since wr w5 := Since.named ((Since.setCell (Since.setCell (Since.setCell (Since.setCell (Since.setCell hb2 (p := ⟨wq.heap.size, 0, none⟩) hq.size_ _) (p := ⟨wq.heap.size, 1, none⟩) hq.size_ _) (p := ⟨wq.heap.size, 2, none⟩) hq.size_ _) (p := ⟨wq.heap.size, 3, none⟩) hq.size_ _) (p := ⟨wq.heap.size, 4, none⟩) hq.size_ _)) hw5
                          have hN5 : Whole w5 wq.heap.size 42 #[.int .i64 s.x, .int .i64 s.y, .string s.key, .string s.val, .int .i64 s.ver] := ((((((hw.set_ 0 _).set_ 1 _).set_ 2 _).set_ 3 _).set_ 4 _)).named hw5
                          clear hw hb2' x0 y0 x1 y1 x2 y2 x3 y3 x4 y4
                          obtain ⟨NB, hNB⟩ : ∃ NB, NB = wq.heap.size := ⟨_, rfl⟩
                          rw [← hw5, ← hNB]
                          rw [← hNB] at hN5
                          clear hHeld hb2 hw5 hNB hq
                          cases H with
                          | true =>
                            clear hN5
                            go_wp2_with fail
                            go_roundw
                            case rel =>
                              obtain ⟨h1, h2, h3, h4, h5, hwr, htk, hH⟩ := HQ.out
                              refine ⟨k + 1, by go_num, by omega, ?_, hwr.trans (Below.mono hS5 hwr.size)⟩
                              rw [htk, show dropQ T (dropsQ T U (G.take k)) r = dropsQ T U (G.take k) from if_pos hH]
                              exact ⟨q, q2, h1.since hS5, h2.since hS5, h3, h4, h5⟩
                            case measure => simp [intOf]; omega
                          | false =>
                            clear hN5
                            have e0 := fun W (hW : Below w7.heap.size w7 W) => HC5.out W hW 0 (.int .i64 r.x) rfl
                            have e1 := fun W (hW : Below w7.heap.size w7 W) => HC5.out W hW 1 (.int .i64 r.y) rfl
                            have e2 := fun W (hW : Below w7.heap.size w7 W) => HC5.out W hW 2 (.string r.key) rfl
                            rw [Nat.add_zero] at e0
                            clear c0 c1 c2
                            go_wp2_with fail
                            have hwq := HQ.out.2.2.2.2.2.1
                            have hz5 := (Since.refl w5).drew
                            have hS6 := hS5.trans hz5
                            refine wp_region_held_drew (S := fun W => Below w7.heap.size w7 W) (by kernel_rfl) (hwq.trans (Below.mono hS6 hwq.size)) (fun hHeld => ?_)
                            generalize w5.drew = wz at hHeld hz5 hS6 ⊢
                            clear hwq
                            refine wpAnyH_take (i := 0) (v := ?_) rfl (by kernel_rfl) (by kernel_rfl) (by kernel_rfl) (fun _ _ _ h => h) (Or.inl ⟨by rfl, ?_⟩) (by assumption) ?_
                            rotate_left 1
                            · (intro W hW; clear hW; go_simp; try with_reducible rfl)
                            simp only [Act.put, List.getElem_toArray, List.getElem_cons_zero, List.setIfInBounds_toArray, List.set_cons_zero, List.set_cons_succ]
                            refine wpAnyH_take (i := 1) (v := ?_) rfl (by kernel_rfl) (by kernel_rfl) (by kernel_rfl) (fun _ _ _ h => h) (Or.inl ⟨by rfl, ?_⟩) (by assumption) ?_
                            rotate_left 1
                            · (intro W hW; clear hW; go_simp; try with_reducible rfl)
                            simp only [Act.put, List.getElem_toArray, List.getElem_cons_succ, List.getElem_cons_zero, List.setIfInBounds_toArray, List.set_cons_zero, List.set_cons_succ]
                            refine wpAnyH_take (i := 2) (v := ?_) rfl (by kernel_rfl) (by kernel_rfl) (by kernel_rfl) (fun _ _ _ h => h) (Or.inl ⟨by rfl, ?_⟩) (by assumption) ?_
                            rotate_left 1
                            · (intro W hW; clear hW; go_simp; try with_reducible rfl)
                            simp only [Act.put, List.getElem_toArray, List.getElem_cons_succ, List.getElem_cons_zero, List.setIfInBounds_toArray, List.set_cons_zero, List.set_cons_succ]
                            refine wpAnyH_take (i := 3) (v := ?_) rfl (by kernel_rfl) (by kernel_rfl) (by kernel_rfl) (fun _ _ _ h => h) (Or.inl ⟨by rfl, ?_⟩) (by assumption) ?_
                            rotate_left 1
                            · (intro W hW; clear hW; go_simp; try with_reducible rfl)
                            simp only [Act.put, List.getElem_toArray, List.getElem_cons_succ, List.getElem_cons_zero, List.setIfInBounds_toArray, List.set_cons_zero, List.set_cons_succ]
                            refine wpAnyH_take (i := 4) (v := ?_) rfl (by kernel_rfl) (by kernel_rfl) (by kernel_rfl) (fun _ _ _ h => h) (Or.inl ⟨by rfl, ?_⟩) (by assumption) ?_
                            rotate_left 1
                            · (intro W hW; clear hW; go_simp; try with_reducible rfl)
                            simp only [Act.put, List.getElem_toArray, List.getElem_cons_succ, List.getElem_cons_zero, List.setIfInBounds_toArray, List.set_cons_zero, List.set_cons_succ]
                            refine wpAnyH_take (i := 5) (v := ?_) rfl (by kernel_rfl) (by kernel_rfl) (by kernel_rfl) (fun _ _ _ h => h) (Or.inl ⟨by rfl, ?_⟩) (by assumption) ?_
                            rotate_left 1
                            · (intro W hW; skip; go_simp; try with_reducible rfl)
                            simp only [Act.put, List.getElem_toArray, List.getElem_cons_succ, List.getElem_cons_zero, List.setIfInBounds_toArray, List.set_cons_zero, List.set_cons_succ]
                            refine wpAnyH_take (i := 6) (v := ?_) rfl (by kernel_rfl) (by kernel_rfl) (by kernel_rfl) (fun _ _ _ h => h) (Or.inl ⟨by rfl, ?_⟩) (by assumption) ?_
                            rotate_left 1
                            · (intro W hW; clear hW; go_simp; try with_reducible rfl)
                            simp only [Act.put, List.getElem_toArray, List.getElem_cons_succ, List.getElem_cons_zero, List.setIfInBounds_toArray, List.set_cons_zero, List.set_cons_succ]
                            refine wpAnyH_take (i := 7) (v := ?_) rfl (by kernel_rfl) (by kernel_rfl) (by kernel_rfl) (fun _ _ _ h => h) (Or.inl ⟨by rfl, ?_⟩) (by assumption) ?_
                            rotate_left 1
                            · (intro W hW; clear hW; go_simp; try with_reducible rfl)
                            simp only [Act.put, List.getElem_toArray, List.getElem_cons_succ, List.getElem_cons_zero, List.setIfInBounds_toArray, List.set_cons_zero, List.set_cons_succ]
                            refine wpAnyH_take (i := 8) (v := ?_) rfl (by kernel_rfl) (by kernel_rfl) (by kernel_rfl) (fun _ _ _ h => h) (Or.inl ⟨by rfl, ?_⟩) (by assumption) ?_
                            rotate_left 1
                            · (intro W hW; clear hW; go_simp; try with_reducible rfl)
                            simp only [Act.put, List.getElem_toArray, List.getElem_cons_succ, List.getElem_cons_zero, List.setIfInBounds_toArray, List.set_cons_zero, List.set_cons_succ]
                            refine wpAnyH_take (i := 9) (v := ?_) rfl (by kernel_rfl) (by kernel_rfl) (by kernel_rfl) (fun _ _ _ h => h) (Or.inl ⟨by rfl, ?_⟩) (by assumption) ?_
                            rotate_left 1
                            · (intro W hW; clear hW; go_simp; try with_reducible rfl)
                            simp only [Act.put, List.getElem_toArray, List.getElem_cons_succ, List.getElem_cons_zero, List.setIfInBounds_toArray, List.set_cons_zero, List.set_cons_succ]
                            refine wpAnyH_take (i := 10) (v := ?_) rfl (by kernel_rfl) (by kernel_rfl) (by kernel_rfl) (fun _ _ _ h => h) (Or.inl ⟨by rfl, ?_⟩) (by assumption) ?_
                            rotate_left 1
                            · (intro W hW; skip; go_simp; try with_reducible rfl)
                            simp only [Act.put, List.getElem_toArray, List.getElem_cons_succ, List.getElem_cons_zero, List.setIfInBounds_toArray, List.set_cons_zero, List.set_cons_succ]
                            refine wpAnyH_ready (rs := [11]) (by kernel_rfl) (by simp) ?_
                            refine AllReadyH.cons rfl (fun K hK => ?_) AllReadyH.nil
                            go_simp
                            refine (HDEL.out _ hS6).mono ?_
                            rintro e w6 ⟨rfl, hp⟩
                            obtain ⟨h1, h2, h3, h4, h5, hwr, htk, hH⟩ := HQ.out
                            have hz := hwr.size
                            have hz6 := hS6.size_
                            obtain ⟨t1, t2⟩ := two_put2 (h1.since hS6) (h2.since hS6) h3 h4 h5 (fun c hc => by omega) hp
                            have hb6 : Below w7.heap.size w7 w6 := (hwr.trans (Below.mono hS6 hz)).trans (t2.below (by omega) (fun c z => z))
                            have HT1 := Lib.hid (And.intro t1 hb6)
                            clear h1 h2 h3 h4 h5 hwr hz hz6 t1 t2 hp hH htk
                            go_wp2_with fail
                            refine hK.out _ _ (hb6) (fun hHeld => ?_)
                            clear hK K
                            try simp only [Act.put, List.getElem_toArray, List.getElem_cons_succ, List.getElem_cons_zero, List.setIfInBounds_toArray, List.set_cons_zero, List.set_cons_succ]
                            refine wpAnyH_done (by kernel_rfl) ?_ _
                            go_wp2_with fail
                            go_roundw
                            case rel =>
                              obtain ⟨h1, h2, h3, h4, h5, hwr, htk, hH⟩ := HQ.out
                              refine ⟨k + 1, by go_num, by omega, ?_, HT1.out.2⟩
                              rw [htk, show dropQ T (dropsQ T U (G.take k)) r = delQ (dropsQ T U (G.take k)) r.x r.y r.key from if_neg (by rw [hH]; exact Bool.false_ne_true)]
                              exact HT1.out.1
                            case measure => simp [intOf]; omega
                      · obtain rfl : ng = k := by omega
                        rw [List.take_of_length_le (Nat.le_of_eq HNG.out), HSU.out.1] at htw
                        obtain ⟨q, q2, h1, h2, h3, h4, h5⟩ := htw
                        have HEQ := Lib.hid (equal8_any h1 h2)
                        have HWR := Lib.hid hwr
                        clear h1 h2 h3 h4 h5 hwr
                        go_wp2_with (go_at_call 16; (with_reducible refine HEQ.out.mono ?_); rintro e w20 ⟨rfl, hb20⟩)
                        go_ret
                        have hs7 := HE.out.1
                        have hz := HWR.out.size
                        exact ⟨rfl, (Below.trans hs7 (Below.mono HWR.out hs7.size_)).trans (Below.mono hb20 (Nat.le_trans hs7.size_ hz))⟩
end Go.Proofs.Yteohkmhndomhgaa
