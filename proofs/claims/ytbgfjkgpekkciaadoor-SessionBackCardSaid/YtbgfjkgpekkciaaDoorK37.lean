/- The walk of the law SessionPlays. -/
import Derived.Test.YtbgfjkgpekkciaaDoorK15
import Derived.Test.YtbgfjkgpekkciaaDoorK30
import Derived.Test.YtbgfjkgpekkciaaDoorK34
import Derived.Test.YtbgfjkgpekkciaaDoorK35
import Derived.Test.YtbgfjkgpekkciaaDoorK36
namespace Go.Proofs.YtbgfjkgpekkciaaDoor
open Go.RowKit
set_option linter.unusedVariables false
set_option linter.unusedSimpArgs false
theorem light_len {A : List SC} (h : lightB A = true) : A.length ≤ 50 := by
  unfold lightB at h
  simpa using (Bool.and_eq_true_iff.1 h).2
set_option maxHeartbeats 6400000 in
set_option maxRecDepth 100000 in
theorem plays9_walk {B : Nat} {vl vm : Value} {A C : List SC} (w : World) (hA : LentE encSC 6 B w vl A) (hC : LentE encSC 6 B w vm C) (hB : B ≤ w.heap.size) :
    Calls Tryd.prog 3 #[vl, vm] w fun e w' => e = .returned (.bool true) ∧ Below w.heap.size w w' := by
  obtain ⟨la, hla⟩ : ∃ b, lightB A = b := ⟨_, rfl⟩
  obtain ⟨lc, hlc⟩ : ∃ b, lightB C = b := ⟨_, rfl⟩
  have L1 := Lib.hid (light_any hA hla)
  have L2 := Lib.hid (light_any hC hlc)
  have hsr := Since.refl w
  by_cases hh : la = true ∧ lc = true
  · obtain ⟨rfl, rfl⟩ := hh
    have hn1 := light_len hla
    have hn2 := light_len hlc
    obtain ⟨L, hL⟩ : ∃ L, playT A = L := ⟨_, rfl⟩
    obtain ⟨M, hM⟩ : ∃ M, playT C = M := ⟨_, rfl⟩
    have okL : tabOk L := hL ▸ playT_ok A
    have okM : tabOk M := hM ▸ playT_ok C
    have HL := Lib.hid hL
    have HM := Lib.hid hM
    have OL := Lib.hid okL
    have OM := Lib.hid okM
    clear hla hlc hL hM okL okM
    go_enter Tryd.func3, Tryd.ntmps3
    go_wp2_with (first
      | (go_at_call 6; (with_reducible refine L1.out.mono ?_); rintro e w' ⟨rfl, rfl⟩)
      | (go_at_call 6; (with_reducible refine L2.out.mono ?_); rintro e w' ⟨rfl, rfl⟩))
    refine (both_any hA hB (by omega) HL.out).mono ?_
    rintro e w1 ⟨g, q, rfl, ⟨hg, hq⟩, hP, hD, hs1⟩
    go_wp2_with fail
    refine (both_any (hC.since hs1 hB) (Nat.le_trans hB hs1.size_) (by omega) HM.out).mono ?_
    rintro e w2 ⟨g2, q2, rfl, ⟨hg2, hq2⟩, hP2, hD2, hs2⟩
    have hS2 : Since w w2 := hs1.trans hs2
    have hPt := hP.since hs2
    have hDt := hD.since hs2
    clear L1 L2 hP hD hA hC
    go_wp2_with fail
    refine (knows9_any _).mono ?_
    rintro e w3 ⟨rfl, hs3⟩
    go_wp2_with fail
    have hP3 := hPt.since hs3
    have hP23 := hP2.since hs3
    refine (tjoin_any hP3 hP23).mono ?_
    rintro e w4 ⟨rfl, hPj, hs4⟩
    obtain ⟨J, hJ⟩ : ∃ J, J = w3.heap.size := ⟨_, rfl⟩
    rw [← hJ] at hPj ⊢
    have hgJ : J ≠ g := by have := hP3.lt; omega
    clear hJ
    go_wp2_with fail
    refine (tclone_any (hP3.since hs4)).mono ?_
    rintro e w5 ⟨rfl, hPc, hs5⟩
    obtain ⟨K, hK⟩ : ∃ K, K = w4.heap.size := ⟨_, rfl⟩
    rw [← hK] at hPc ⊢
    have hgK : K ≠ g := by have := (hP3.since hs4).lt; omega
    clear hK
    go_wp2_with fail
    obtain ⟨b0, hb0⟩ : ∃ b : Bool, b = true ↔ L = M := by
      by_cases h : L = M
      · exact ⟨true, by simp [h]⟩
      · exact ⟨false, by simp [h]⟩
    refine (tsame_any ((hP3.since hs4).since hs5) ((hP23.since hs4).since hs5) hb0).mono ?_
    rintro e w6 ⟨rfl, hs6⟩
    have hs36 : Since w3 w6 := (hs4.trans hs5).trans hs6
    go_wp2_with fail
    refine (tnote_any (a := ⟨0, false, ⟨#[]⟩, 0, 1099511627776⟩) (hP3.since hs36) rfl rfl).mono ?_
    rintro e w7 ⟨rfl, hP7, ho7⟩
    have hgq : q ≠ g := (hPt.ne hDt).symm
    have hgq2 : q2 ≠ g := (hPt.ne hD2).symm
    have hDt7 := (hDt.since (hs3.trans hs36)).off ho7 hgq
    have hDs7 := (hD2.since (hs3.trans hs36)).off ho7 hgq2
    have hPj7 := (hPj.since (hs5.trans hs6)).off ho7 hgJ
    have hPc7 := (hPc.since hs6).off ho7 hgK
    have hS7 : Since w w7 := Below.trans ((hS2.trans hs3).trans hs36) (Off.below ho7 ((hS2.trans hs3).trans hs36).size_ (fun b z => by subst z; exact hg))
    clear hP3 hP23 hPt hDt hP2 hD2 hPj hPc hP7 ho7 hs1 hs2 hs3 hs4 hs5 hs6 hs36 hS2 hgJ hgK hgq hgq2
    go_wp2_with fail
    obtain ⟨wq, hwq⟩ : ∃ wq, wq = w7.drew := ⟨_, rfl⟩
    have hsq : Since w7 wq := by rw [hwq]; exact (Since.refl w7).drew
    refine wp_region_held_drew (S := fun W => Since wq W) (by kernel_rfl) (by rw [hwq]; exact Since.refl _) (fun hHeld => ?_)
    have hDt := hDt7.since hsq
    have hDs := hDs7.since hsq
    have hPj := hPj7.since hsq
    have hPc := hPc7.since hsq
    have hWq := hS7.trans hsq
    rw [← hwq] at hHeld ⊢
    clear hwq hsq hDt7 hDs7 hPj7 hPc7 hS7
    refine wpAnyH_take (i := 0) (v := ?_) rfl (by kernel_rfl) (by kernel_rfl) (by kernel_rfl) (fun _ _ _ h => h) (Or.inl ⟨by rfl, ?_⟩) (by assumption) ?_
    rotate_left 1
    · (intro W hW; clear hW; go_simp; try with_reducible rfl)
    simp only [Act.put, List.getElem_toArray, List.getElem_cons_zero, List.setIfInBounds_toArray, List.set_cons_zero, List.set_cons_succ]
    refine wpAnyH_take (i := 1) (v := ?_) rfl (by kernel_rfl) (by kernel_rfl) (by kernel_rfl) (fun _ _ _ h => h) (Or.inl ⟨by rfl, ?_⟩) (by assumption) ?_
    rotate_left 1
    · (intro W hW; clear hW; go_simp; try with_reducible rfl)
    simp only [Act.put, List.getElem_toArray, List.getElem_cons_succ, List.getElem_cons_zero, List.setIfInBounds_toArray, List.set_cons_zero, List.set_cons_succ]
    refine wpAnyH_take (i := 2) (v := ?_) rfl (by kernel_rfl) (by kernel_rfl) (by kernel_rfl) (fun _ _ _ h => h) (Or.inl ⟨by rfl, ?_⟩) (by assumption) ?_
    rotate_left 1
    · (intro W hW; clear hW; go_simp; try with_reducible rfl)
    simp only [Act.put, List.getElem_toArray, List.getElem_cons_succ, List.getElem_cons_zero, List.setIfInBounds_toArray, List.set_cons_zero, List.set_cons_succ]
    refine wpAnyH_ready (rs := [3]) (by kernel_rfl) (by simp) ?_
    refine AllReadyH.cons rfl (fun K hK => ?_) AllReadyH.nil
    go_simp
    refine (refJoin_any (hDt.since hHeld) (hDs.since hHeld)).mono ?_
    rintro e wx ⟨rfl, hJ2, hx⟩
    go_wp2_with fail
    refine hK.out _ _ (hHeld.trans hx) (fun hHeld => ?_)
    clear hK K
    try simp only [Act.put, List.getElem_toArray, List.getElem_cons_succ, List.getElem_cons_zero, List.setIfInBounds_toArray, List.set_cons_zero, List.set_cons_succ]
    refine wpAnyH_ready (rs := [4]) (by kernel_rfl) (by simp) ?_
    refine AllReadyH.cons rfl (fun K hK => ?_) AllReadyH.nil
    go_simp
    refine (lawSame9_any (hPj.since hHeld) hJ2).mono ?_
    rintro e wy ⟨rfl, hx⟩
    go_wp2_with fail
    refine hK.out _ _ (hHeld.trans hx) (fun hHeld => ?_)
    clear hK K
    try simp only [Act.put, List.getElem_toArray, List.getElem_cons_succ, List.getElem_cons_zero, List.setIfInBounds_toArray, List.set_cons_zero, List.set_cons_succ]
    refine wpAnyH_take (i := 5) (v := ?_) rfl (by kernel_rfl) (by kernel_rfl) (by kernel_rfl) (fun _ _ _ h => h) (Or.inl ⟨by rfl, ?_⟩) (by assumption) ?_
    rotate_left 1
    · (intro W hW; clear hW; go_simp; try with_reducible rfl)
    simp only [Act.put, List.getElem_toArray, List.getElem_cons_succ, List.getElem_cons_zero, List.setIfInBounds_toArray, List.set_cons_zero, List.set_cons_succ]
    refine wpAnyH_take (i := 6) (v := ?_) rfl (by kernel_rfl) (by kernel_rfl) (by kernel_rfl) (fun _ _ _ h => h) (Or.inl ⟨by rfl, ?_⟩) (by assumption) ?_
    rotate_left 1
    · (intro W hW; clear hW; go_simp; try with_reducible rfl)
    simp only [Act.put, List.getElem_toArray, List.getElem_cons_succ, List.getElem_cons_zero, List.setIfInBounds_toArray, List.set_cons_zero, List.set_cons_succ]
    refine wpAnyH_take (i := 7) (v := ?_) rfl (by kernel_rfl) (by kernel_rfl) (by kernel_rfl) (fun _ _ _ h => h) (Or.inl ⟨by rfl, ?_⟩) (by assumption) ?_
    rotate_left 1
    · (intro W hW; clear hW; go_simp; try with_reducible rfl)
    simp only [Act.put, List.getElem_toArray, List.getElem_cons_succ, List.getElem_cons_zero, List.setIfInBounds_toArray, List.set_cons_zero, List.set_cons_succ]
    refine wpAnyH_ready (rs := [8]) (by kernel_rfl) (by simp) ?_
    refine AllReadyH.cons rfl (fun K hK => ?_) AllReadyH.nil
    go_simp
    refine (lawSame9_any (hPc.since hHeld) (hDt.since hHeld)).mono ?_
    rintro e wz ⟨rfl, hx⟩
    go_wp2_with fail
    refine hK.out _ _ (hHeld.trans hx) (fun hHeld => ?_)
    clear hK K
    try simp only [Act.put, List.getElem_toArray, List.getElem_cons_succ, List.getElem_cons_zero, List.setIfInBounds_toArray, List.set_cons_zero, List.set_cons_succ]
    refine wpAnyH_take (i := 9) (v := ?_) rfl (by kernel_rfl) (by kernel_rfl) (by kernel_rfl) (fun _ _ _ h => h) (Or.inl ⟨by rfl, ?_⟩) (by assumption) ?_
    rotate_left 1
    · (intro W hW; clear hW; go_simp; try with_reducible rfl)
    simp only [Act.put, List.getElem_toArray, List.getElem_cons_succ, List.getElem_cons_zero, List.setIfInBounds_toArray, List.set_cons_zero, List.set_cons_succ]
    refine wpAnyH_take (i := 10) (v := ?_) rfl (by kernel_rfl) (by kernel_rfl) (by kernel_rfl) (fun _ _ _ h => h) (Or.inl ⟨by rfl, ?_⟩) (by assumption) ?_
    rotate_left 1
    · (intro W hW; clear hW; go_simp; try with_reducible rfl)
    simp only [Act.put, List.getElem_toArray, List.getElem_cons_succ, List.getElem_cons_zero, List.setIfInBounds_toArray, List.set_cons_zero, List.set_cons_succ]
    refine wpAnyH_take (i := 11) (v := ?_) rfl (by kernel_rfl) (by kernel_rfl) (by kernel_rfl) (fun _ _ _ h => h) (Or.inl ⟨by rfl, ?_⟩) (by assumption) ?_
    rotate_left 1
    · (intro W hW; clear hW; go_simp; try with_reducible rfl)
    simp only [Act.put, List.getElem_toArray, List.getElem_cons_succ, List.getElem_cons_zero, List.setIfInBounds_toArray, List.set_cons_zero, List.set_cons_succ]
    refine wpAnyH_take (i := 14) (v := ?_) rfl (by kernel_rfl) (by kernel_rfl) (by kernel_rfl) (fun _ _ _ h => h) (Or.inl ⟨by rfl, ?_⟩) (by assumption) ?_
    rotate_left 1
    · (intro W hW; clear hW; go_simp; try with_reducible rfl)
    simp only [Act.put, List.getElem_toArray, List.getElem_cons_succ, List.getElem_cons_zero, List.setIfInBounds_toArray, List.set_cons_zero, List.set_cons_succ]
    refine wpAnyH_ready (rs := [12]) (by kernel_rfl) (by simp) ?_
    refine AllReadyH.cons rfl (fun K hK => ?_) AllReadyH.nil
    go_simp
    refine (tput_any (hPc.since hHeld) OL.out.2).mono ?_
    rintro e w12 ⟨A12, n12, c12, rfl, hx12, hb12⟩
    have hs12 : Since _ w12 := hb12
    go_wp2_with fail
    refine hK.out _ _ (hHeld.trans hs12) (fun hHeld => ?_)
    clear hK K
    try simp only [Act.put, List.getElem_toArray, List.getElem_cons_succ, List.getElem_cons_zero, List.setIfInBounds_toArray, List.set_cons_zero, List.set_cons_succ]
    refine wpAnyH_mono (S' := fun W => Since w12 W) (fun W h => hHeld.trans h) _ _ _ _ ?_
    replace hDt := hDt.since hHeld
    replace hDs := hDs.since hHeld
    replace hWq := hWq.trans hHeld
    have tx12 := fun W (hW : Since w12 W) => text_of W n12 c12 (hx12.rd.below hW (Nat.le_refl _)) hx12.len
    clear hHeld
    have hHeld := Since.refl w12
    refine wpAnyH_take (i := 13) (v := ?_) rfl (by kernel_rfl) (by kernel_rfl) (by kernel_rfl) (fun _ _ _ h => h) (Or.inl ⟨by rfl, ?_⟩) (by assumption) ?_
    rotate_left 1
    · (intro W hW; skip; go_simp; try with_reducible rfl)
    simp only [Act.put, List.getElem_toArray, List.getElem_cons_succ, List.getElem_cons_zero, List.setIfInBounds_toArray, List.set_cons_zero, List.set_cons_succ]
    refine wpAnyH_ready (rs := [15]) (by kernel_rfl) (by simp) ?_
    refine AllReadyH.cons rfl (fun K hK => ?_) AllReadyH.nil
    go_simp
    refine (refPutTab_any (hDt.since hHeld) OL.out.2).mono ?_
    rintro e w15 ⟨A15, n15, c15, rfl, hx15, hb15⟩
    have hs15 : Since _ w15 := hb15
    go_wp2_with fail
    refine hK.out _ _ (hHeld.trans hs15) (fun hHeld => ?_)
    clear hK K
    try simp only [Act.put, List.getElem_toArray, List.getElem_cons_succ, List.getElem_cons_zero, List.setIfInBounds_toArray, List.set_cons_zero, List.set_cons_succ]
    refine wpAnyH_mono (S' := fun W => Since w15 W) (fun W h => hHeld.trans h) _ _ _ _ ?_
    replace hDt := hDt.since hHeld
    replace hDs := hDs.since hHeld
    replace hWq := hWq.trans hHeld
    have tx15 := fun W (hW : Since w15 W) => text_of W n15 c15 (hx15.rd.below hW (Nat.le_refl _)) hx15.len
    clear hHeld
    have hHeld := Since.refl w15
    refine wpAnyH_take (i := 16) (v := ?_) rfl (by kernel_rfl) (by kernel_rfl) (by kernel_rfl) (fun _ _ _ h => h) (Or.inl ⟨by rfl, ?_⟩) (by assumption) ?_
    rotate_left 1
    · (intro W hW; skip; go_simp; try with_reducible rfl)
    simp only [Act.put, List.getElem_toArray, List.getElem_cons_succ, List.getElem_cons_zero, List.setIfInBounds_toArray, List.set_cons_zero, List.set_cons_succ]
    refine wpAnyH_take (i := 17) (v := ?_) rfl (by kernel_rfl) (by kernel_rfl) (by kernel_rfl) (fun _ _ _ h => h) (Or.inl ⟨by rfl, ?_⟩) (by assumption) ?_
    rotate_left 1
    · (intro W hW; clear hW; go_simp; try with_reducible rfl)
    simp only [Act.put, List.getElem_toArray, List.getElem_cons_succ, List.getElem_cons_zero, List.setIfInBounds_toArray, List.set_cons_zero, List.set_cons_succ]
    refine wpAnyH_take (i := 18) (v := ?_) rfl (by kernel_rfl) (by kernel_rfl) (by kernel_rfl) (fun _ _ _ h => h) (Or.inl ⟨by rfl, ?_⟩) (by assumption) ?_
    rotate_left 1
    · (intro W hW; clear hW; go_simp; try with_reducible rfl)
    simp only [Act.put, List.getElem_toArray, List.getElem_cons_succ, List.getElem_cons_zero, List.setIfInBounds_toArray, List.set_cons_zero, List.set_cons_succ]
    refine wpAnyH_take (i := 19) (v := ?_) rfl (by kernel_rfl) (by kernel_rfl) (by kernel_rfl) (fun _ _ _ h => h) (Or.inl ⟨by rfl, ?_⟩) (by assumption) ?_
    rotate_left 1
    · (intro W hW; clear hW; go_simp; try with_reducible rfl)
    simp only [Act.put, List.getElem_toArray, List.getElem_cons_succ, List.getElem_cons_zero, List.setIfInBounds_toArray, List.set_cons_zero, List.set_cons_succ]
    refine wpAnyH_take (i := 20) (v := ?_) rfl (by kernel_rfl) (by kernel_rfl) (by kernel_rfl) (fun _ _ _ h => h) (Or.inl ⟨by rfl, ?_⟩) (by assumption) ?_
    rotate_left 1
    · (intro W hW; clear hW; go_simp; try with_reducible rfl)
    simp only [Act.put, List.getElem_toArray, List.getElem_cons_succ, List.getElem_cons_zero, List.setIfInBounds_toArray, List.set_cons_zero, List.set_cons_succ]
    refine wpAnyH_take (i := 21) (v := ?_) rfl (by kernel_rfl) (by kernel_rfl) (by kernel_rfl) (fun _ _ _ h => h) (Or.inl ⟨by rfl, ?_⟩) (by assumption) ?_
    rotate_left 1
    · (intro W hW; clear hW; go_simp; try with_reducible rfl)
    simp only [Act.put, List.getElem_toArray, List.getElem_cons_succ, List.getElem_cons_zero, List.setIfInBounds_toArray, List.set_cons_zero, List.set_cons_succ]
    refine wpAnyH_take (i := 24) (v := ?_) rfl (by kernel_rfl) (by kernel_rfl) (by kernel_rfl) (fun _ _ _ h => h) (Or.inl ⟨by rfl, ?_⟩) (by assumption) ?_
    rotate_left 1
    · (intro W hW; clear hW; go_simp; try with_reducible rfl)
    simp only [Act.put, List.getElem_toArray, List.getElem_cons_succ, List.getElem_cons_zero, List.setIfInBounds_toArray, List.set_cons_zero, List.set_cons_succ]
    refine wpAnyH_ready (rs := [22]) (by kernel_rfl) (by simp) ?_
    refine AllReadyH.cons rfl (fun K hK => ?_) AllReadyH.nil
    go_simp
    refine (refPutTab_any (hDt.since hHeld) OL.out.2).mono ?_
    rintro e w22 ⟨A22, n22, c22, rfl, hx22, hb22⟩
    have hs22 : Since _ w22 := hb22
    go_wp2_with fail
    refine hK.out _ _ (hHeld.trans hs22) (fun hHeld => ?_)
    clear hK K
    try simp only [Act.put, List.getElem_toArray, List.getElem_cons_succ, List.getElem_cons_zero, List.setIfInBounds_toArray, List.set_cons_zero, List.set_cons_succ]
    refine wpAnyH_mono (S' := fun W => Since w22 W) (fun W h => hHeld.trans h) _ _ _ _ ?_
    replace hDt := hDt.since hHeld
    replace hDs := hDs.since hHeld
    replace hWq := hWq.trans hHeld
    have tx22 := fun W (hW : Since w22 W) => text_of W n22 c22 (hx22.rd.below hW (Nat.le_refl _)) hx22.len
    clear hHeld
    have hHeld := Since.refl w22
    refine wpAnyH_take (i := 23) (v := ?_) rfl (by kernel_rfl) (by kernel_rfl) (by kernel_rfl) (fun _ _ _ h => h) (Or.inl ⟨by rfl, ?_⟩) (by assumption) ?_
    rotate_left 1
    · (intro W hW; skip; go_simp; try with_reducible rfl)
    simp only [Act.put, List.getElem_toArray, List.getElem_cons_succ, List.getElem_cons_zero, List.setIfInBounds_toArray, List.set_cons_zero, List.set_cons_succ]
    refine wpAnyH_ready (rs := [25]) (by kernel_rfl) (by simp) ?_
    refine AllReadyH.cons rfl (fun K hK => ?_) AllReadyH.nil
    go_simp
    refine (refPutTab_any (hDs.since hHeld) OM.out.2).mono ?_
    rintro e w25 ⟨A25, n25, c25, rfl, hx25, hb25⟩
    have hs25 : Since _ w25 := hb25
    go_wp2_with fail
    refine hK.out _ _ (hHeld.trans hs25) (fun hHeld => ?_)
    clear hK K
    try simp only [Act.put, List.getElem_toArray, List.getElem_cons_succ, List.getElem_cons_zero, List.setIfInBounds_toArray, List.set_cons_zero, List.set_cons_succ]
    refine wpAnyH_mono (S' := fun W => Since w25 W) (fun W h => hHeld.trans h) _ _ _ _ ?_
    replace hDt := hDt.since hHeld
    replace hDs := hDs.since hHeld
    replace hWq := hWq.trans hHeld
    have tx25 := fun W (hW : Since w25 W) => text_of W n25 c25 (hx25.rd.below hW (Nat.le_refl _)) hx25.len
    clear hHeld
    have hHeld := Since.refl w25
    refine wpAnyH_take (i := 26) (v := ?_) rfl (by kernel_rfl) (by kernel_rfl) (by kernel_rfl) (fun _ _ _ h => h) (Or.inl ⟨by rfl, ?_⟩) (by assumption) ?_
    rotate_left 1
    · (intro W hW; skip; go_simp; try with_reducible rfl)
    simp only [Act.put, List.getElem_toArray, List.getElem_cons_succ, List.getElem_cons_zero, List.setIfInBounds_toArray, List.set_cons_zero, List.set_cons_succ]
    refine wpAnyH_take (i := 27) (v := ?_) rfl (by kernel_rfl) (by kernel_rfl) (by kernel_rfl) (fun _ _ _ h => h) (Or.inl ⟨by rfl, ?_⟩) (by assumption) ?_
    rotate_left 1
    · (intro W hW; clear hW; go_simp; try with_reducible rfl)
    simp only [Act.put, List.getElem_toArray, List.getElem_cons_succ, List.getElem_cons_zero, List.setIfInBounds_toArray, List.set_cons_zero, List.set_cons_succ]
    refine wpAnyH_take (i := 28) (v := ?_) rfl (by kernel_rfl) (by kernel_rfl) (by kernel_rfl) (fun _ _ _ h => h) (Or.inl ⟨by rfl, ?_⟩) (by assumption) ?_
    rotate_left 1
    · (intro W hW; clear hW; go_simp; try with_reducible rfl)
    simp only [Act.put, List.getElem_toArray, List.getElem_cons_succ, List.getElem_cons_zero, List.setIfInBounds_toArray, List.set_cons_zero, List.set_cons_succ]
    refine wpAnyH_take (i := 29) (v := ?_) rfl (by kernel_rfl) (by kernel_rfl) (by kernel_rfl) (fun _ _ _ h => h) (Or.inl ⟨by rfl, ?_⟩) (by assumption) ?_
    rotate_left 1
    · (intro W hW; clear hW; go_simp; try with_reducible rfl)
    simp only [Act.put, List.getElem_toArray, List.getElem_cons_succ, List.getElem_cons_zero, List.setIfInBounds_toArray, List.set_cons_zero, List.set_cons_succ]
    refine wpAnyH_take (i := 30) (v := ?_) rfl (by kernel_rfl) (by kernel_rfl) (by kernel_rfl) (fun _ _ _ h => h) (Or.inl ⟨by rfl, ?_⟩) (by assumption) ?_
    rotate_left 1
    · (intro W hW; clear hW; go_simp; try with_reducible rfl)
    simp only [Act.put, List.getElem_toArray, List.getElem_cons_succ, List.getElem_cons_zero, List.setIfInBounds_toArray, List.set_cons_zero, List.set_cons_succ]
    refine wpAnyH_done (by kernel_rfl) ?_ _
    have hfin : (b0 == (tabL L == tabL M)) = true := by rw [beq_iff_eq, Bool.eq_iff_iff, beq_iff_eq, hb0, tabL_inj OL.out OM.out]
    rw [hfin]
    go_wp2
    go_ret
    exact ⟨rfl, hWq⟩
  · cases la with
    | false =>
      clear hla hlc hh hA hC
      go_enter Tryd.func3, Tryd.ntmps3
      go_wp2_with (first
        | (go_at_call 6; (with_reducible refine L1.out.mono ?_); rintro e w' ⟨rfl, rfl⟩)
        | (go_at_call 7; (with_reducible refine (knows9_any _).mono ?_); rintro e w3 ⟨rfl, hS3⟩))
      go_ret
      exact ⟨rfl, hS3⟩
    | true =>
      obtain rfl : lc = false := by
        cases lc with
        | false => rfl
        | true => exact absurd ⟨rfl, rfl⟩ hh
      clear hla hlc hh hA hC
      go_enter Tryd.func3, Tryd.ntmps3
      go_wp2_with (first
        | (go_at_call 6; (with_reducible refine L1.out.mono ?_); rintro e w' ⟨rfl, rfl⟩)
        | (go_at_call 6; (with_reducible refine L2.out.mono ?_); rintro e w' ⟨rfl, rfl⟩)
        | (go_at_call 7; (with_reducible refine (knows9_any _).mono ?_); rintro e w3 ⟨rfl, hS3⟩))
      go_ret
      exact ⟨rfl, hS3⟩
end Go.Proofs.YtbgfjkgpekkciaaDoor
