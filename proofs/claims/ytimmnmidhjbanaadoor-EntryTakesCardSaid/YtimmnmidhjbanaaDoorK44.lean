/- The walk of the law EntryTakes. -/
import Derived.Test.YtimmnmidhjbanaaDoorK13
import Derived.Test.YtimmnmidhjbanaaDoorK25
import Derived.Test.YtimmnmidhjbanaaDoorK30
import Derived.Test.YtimmnmidhjbanaaDoorK35
import Derived.Test.YtimmnmidhjbanaaDoorK37
import Derived.Test.YtimmnmidhjbanaaDoorK43
import Derived.Deep.Cut
import Derived.Deep.CutRange
namespace Go.Proofs.YtimmnmidhjbanaaDoor
open Go.RowKit
set_option linter.unusedVariables false
set_option linter.unusedSimpArgs false
theorem readEnt_len (s : RSt) : (readEnt s).1.2.length ≤ 8 := by
  have h := readRaw_len s
  unfold readEnt
  dsimp only
  split
  · exact h
  · simp
theorem etakes_long (A : Option Addr) (n c : Nat) (w : World) (h : 3000 < n) : Calls Tryd.prog 4 #[.slice A n c] w fun e w' => e = .returned (.bool true) ∧ Below w.heap.size w w' := by
  go_enter Tryd.func4, Tryd.ntmps4
  go_wp2_with (go_at_call 8; (with_reducible refine (knows11_any _).mono ?_); rintro e w1 ⟨rfl, hb⟩)
  go_ret
  exact ⟨rfl, hb⟩
set_option maxRecDepth 100000 in
set_option maxHeartbeats 12800000 in
theorem etakes_short (A0 : Option Addr) (n0 c0 : Nat) (b : List UInt8) (w : World) (hr : Rd w w.heap.size A0 b) (hn : b.length = n0) (hc : n0 ≤ c0) (hA : Seen A0 n0 c0) (h0 : n0 ≤ 3000) :
    Calls Tryd.prog 4 #[.slice A0 n0 c0] w fun e w' => e = .returned (.bool true) ∧ Below w.heap.size w w' := by
  have HN := Lib.hid hn
  have HA := Lib.hid hA
  clear hn hA
  go_enter Tryd.func4, Tryd.ntmps4
  go_wp2_with fail
  refine (lent_any A0 n0 c0 b w hr HN.out (by omega)).mono ?_
  rintro e wl ⟨gl, cl, rfl, hL, hg1, hg2, hbl⟩
  have hsl := hbl.size
  have HR0 : Hid (Rd wl wl.heap.size A0 b) := (hr.below hbl (Nat.le_refl _)).more hsl
  have HL : Hid (Rd wl wl.heap.size (some ⟨gl, 0, none⟩) (b ++ [71, 72])) := hL.rd
  have hcl : n0 + 2 ≤ cl := hL.cap
  clear hr hL
  have hW0 : Since wl wl := Since.refl wl
  obtain ⟨⟨⟨⟨kind, ok, x, y, key, val, cl1, seq, nd, ep, bx⟩, l⟩, t0⟩, hr0⟩ : ∃ r, readEnt (b, 0) = r := ⟨_, rfl⟩
  have hl8 := readEnt_len (b, 0)
  rw [hr0] at hl8
  have HL8 := Lib.hid (show l.length ≤ 1000 by dsimp only at hl8; omega)
  have HRD0 := Lib.hid hr0
  clear hr0 hl8
  go_wp2_with fail
  refine (open_any (some ⟨gl, 0, none⟩) n0 cl b wl ((HL.out.pre.below hW0 (Nat.le_refl _)).more hW0.size_) HN.out (by omega)).mono ?_
  rintro e wP0 ⟨gP0, A2, n2, c2, rfl, hP, hbP⟩
  have hlP := hP.lie
  have hgP := hP.whole.lt
  have hWP : Since wl wP0 := hW0.trans hbP
  go_wp2_with fail
  refine (ropen_any A0 n0 c0 wl.heap.size b wP0 (HR0.out.below hWP (Nat.le_refl _)) hWP.size_ HN.out hc).mono ?_
  rintro e wQ0 ⟨rfl, hQ, hbQ⟩
  have hWQ : Since wl wQ0 := hWP.trans hbQ
  obtain ⟨q0, hq⟩ : ∃ q, q = wP0.heap.size := ⟨_, rfl⟩
  rw [← hq] at hQ hgP
  have hPs : RdS wQ0 _ gP0 (b, 0) := ⟨_, _, _, hP.below hbQ⟩
  have hQs : DcS wQ0 wl.heap.size q0 A0 n0 c0 b (b, 0) := ⟨0, ⟨hQ, fun _ => rfl, by omega, HA.out⟩⟩
  have hlg : wl.heap.size ≤ gP0 := Nat.le_trans hW0.size_ hlP
  have hlq : wl.heap.size ≤ q0 := hQs.lie
  have hqs : q0 < wQ0.heap.size := hQs.lt
  have hwQ := hWQ.size_
  go_wp2_with fail
  rw [← hq]
  clear hP hQ hbP hbQ hWP hlP hq
  obtain ⟨wq, hwq⟩ : ∃ wq, wq = wQ0.drew := ⟨_, rfl⟩
  refine wp_region_held_drew (S := fun _ => True) (by kernel_rfl) trivial (fun hHeld => ?_)
  have hPq : RdS wq wl.heap.size gP0 (b, 0) := by rw [hwq]; exact hPs.since (Since.refl _).drew
  have hQq : DcS wq wl.heap.size q0 A0 n0 c0 b (b, 0) := by rw [hwq]; exact hQs.since (Since.refl _).drew
  have hWq : Since wl wq := by rw [hwq]; exact hWQ.drew
  have hqq : q0 < wq.heap.size := hQq.lt
  rw [← hwq]
  clear hwq hPs hQs hqs
  refine wpAnyH_take (i := 0) (v := ?_) rfl (by kernel_rfl) (by kernel_rfl) (by kernel_rfl) (fun _ _ _ h => h) (Or.inl ⟨by rfl, ?_⟩) (by assumption) ?_
  rotate_left 1
  · (intro W hW; clear hW; go_simp; try with_reducible rfl)
  simp only [Act.put, List.getElem_toArray, List.getElem_cons_zero, List.setIfInBounds_toArray, List.set_cons_zero, List.set_cons_succ]
  refine wpAnyH_take (i := 3) (v := ?_) rfl (by kernel_rfl) (by kernel_rfl) (by kernel_rfl) (fun _ _ _ h => h) (Or.inl ⟨by rfl, ?_⟩) (by assumption) ?_
  rotate_left 1
  · (intro W hW; clear hW; go_simp; try with_reducible rfl)
  simp only [Act.put, List.getElem_toArray, List.getElem_cons_succ, List.getElem_cons_zero, List.setIfInBounds_toArray, List.set_cons_zero, List.set_cons_succ]
  refine wpAnyH_ready (rs := [1]) (by kernel_rfl) (by simp) ?_
  refine AllReadyH.cons rfl (fun K hK => ?_) AllReadyH.nil
  go_simp
  refine (take11_any hPq HRD0.out).mono ?_
  rintro z wa ⟨xa, na, da, rfl, hra, hPa, hoa⟩
  have hQa := hQq.off hoa (fun b z => by subst z; exact ⟨hlg, by omega⟩)
  have hWa : Since wl wa := Below.trans hWq (Off.below hoa hWq.size_ (fun b z => by subst z; exact hlg))
  have hqa : q0 < wa.heap.size := hQa.lt
  go_wp2_with fail
  refine hK.out _ _ (trivial) (fun hHeld => ?_)
  clear hK K
  try simp only [Act.put, List.getElem_toArray, List.getElem_cons_succ, List.getElem_cons_zero, List.setIfInBounds_toArray, List.set_cons_zero, List.set_cons_succ]
  refine wpAnyH_ready (rs := [2]) (by kernel_rfl) (by simp) ?_
  refine AllReadyH.cons rfl (fun K hK => ?_) AllReadyH.nil
  go_simp
  refine (ref11_any (RZ.lz hra) (Nat.le_refl _) HL8.out).mono ?_
  rintro z wb ⟨xb, nb, db, rfl, hrb, hbb⟩
  have hPb := hPa.since hbb
  have hQb := hQa.since hbb
  have hWb := hWa.trans hbb
  go_wp2_with fail
  refine hK.out _ _ (trivial) (fun hHeld => ?_)
  clear hK K
  try simp only [Act.put, List.getElem_toArray, List.getElem_cons_succ, List.getElem_cons_zero, List.setIfInBounds_toArray, List.set_cons_zero, List.set_cons_succ]
  refine wpAnyH_ready (rs := [4]) (by kernel_rfl) (by simp) ?_
  refine AllReadyH.cons rfl (fun K hK => ?_) AllReadyH.nil
  go_simp
  refine (refTake11_any hQb HRD0.out).mono ?_
  rintro z wc ⟨xc, nc, dc, rfl, hrc, hQc, hoc⟩
  have hPc := hPb.off hoc (fun b z => by subst z; omega)
  have hWc : Since wl wc := Below.trans hWb (Off.below hoc hWb.size_ (fun b z => by subst z; exact hlq))
  have e2 := hQc.c2
  have hrb2 := RowE.off hrb hoc (fun b hb e => by have := (RowE.own hrb b hb).1; omega)
  go_wp2_with fail
  refine hK.out _ _ (trivial) (fun hHeld => ?_)
  clear hK K
  try simp only [Act.put, List.getElem_toArray, List.getElem_cons_succ, List.getElem_cons_zero, List.setIfInBounds_toArray, List.set_cons_zero, List.set_cons_succ]
  refine wpAnyH_mono (S' := fun W => W.cell? ⟨q0, 2, none⟩ = some (.int .i64 t0.2)) (fun _ _ => trivial) _ _ _ _ ?_
  replace hHeld := e2
  refine wpAnyH_ready (rs := [5]) (by kernel_rfl) (by simp) ?_
  refine AllReadyH.cons rfl (fun K hK => ?_) AllReadyH.nil
  go_simp
  refine (refSame11_any (RZ.lz hrb2) (RZ.lz hrc) (Nat.le_refl _) (by have := HL8.out; omega) ((plainE_iff _ _).2 rfl) ((sameZ_iff _ _).2 rfl)).mono ?_
  rintro z wd ⟨rfl, hb5⟩
  have hPd := hPc.since hb5
  have hQd := hQc.since hb5
  have hWd : Since wl wd := Since.trans hWc hb5
  have e3 := hQd.c2
  go_wp2_with fail
  refine hK.out _ _ (e3) (fun hHeld => ?_)
  clear hK K
  try simp only [Act.put, List.getElem_toArray, List.getElem_cons_succ, List.getElem_cons_zero, List.setIfInBounds_toArray, List.set_cons_zero, List.set_cons_succ]
  refine wpAnyH_take (i := 6) (v := ?_) rfl (by kernel_rfl) (by kernel_rfl) (by kernel_rfl) (fun _ _ _ h => h) (Or.inl ⟨by rfl, ?_⟩) (by assumption) ?_
  rotate_left 1
  · (intro W hW; clear hW; go_simp; try with_reducible rfl)
  simp only [Act.put, List.getElem_toArray, List.getElem_cons_succ, List.getElem_cons_zero, List.setIfInBounds_toArray, List.set_cons_zero, List.set_cons_succ]
  refine wpAnyH_take (i := 7) (v := ?_) rfl (by kernel_rfl) (by kernel_rfl) (by kernel_rfl) (fun _ _ _ h => h) (Or.inl ⟨by rfl, ?_⟩) (by assumption) ?_
  rotate_left 1
  · (intro W hW; clear hW; go_simp; try with_reducible rfl)
  simp only [Act.put, List.getElem_toArray, List.getElem_cons_succ, List.getElem_cons_zero, List.setIfInBounds_toArray, List.set_cons_zero, List.set_cons_succ]
  refine wpAnyH_take (i := 8) (v := ?_) rfl (by kernel_rfl) (by kernel_rfl) (by kernel_rfl) (fun _ _ _ h => h) (Or.inl ⟨by rfl, ?_⟩) (by assumption) ?_
  rotate_left 1
  · (intro W hW; clear hW; go_simp; try with_reducible rfl)
  simp only [Act.put, List.getElem_toArray, List.getElem_cons_succ, List.getElem_cons_zero, List.setIfInBounds_toArray, List.set_cons_zero, List.set_cons_succ]
  refine wpAnyH_take (i := 11) (v := ?_) rfl (by kernel_rfl) (by kernel_rfl) (by kernel_rfl) (fun _ _ _ h => h) (Or.inl ⟨by rfl, ?_⟩) (by assumption) ?_
  rotate_left 1
  · (intro W hW; clear hW; go_simp; try with_reducible rfl)
  simp only [Act.put, List.getElem_toArray, List.getElem_cons_succ, List.getElem_cons_zero, List.setIfInBounds_toArray, List.set_cons_zero, List.set_cons_succ]
  refine wpAnyH_take (i := 12) (v := ?_) rfl (by kernel_rfl) (by kernel_rfl) (by kernel_rfl) (fun _ _ _ h => h) (Or.inl ⟨by rfl, ?_⟩) (by assumption) ?_
  rotate_left 1
  · (intro W hW; clear hW; go_simp; try with_reducible rfl)
  simp only [Act.put, List.getElem_toArray, List.getElem_cons_succ, List.getElem_cons_zero, List.setIfInBounds_toArray, List.set_cons_zero, List.set_cons_succ]
  refine wpAnyH_take (i := 13) (v := ?_) rfl (by kernel_rfl) (by kernel_rfl) (by kernel_rfl) (fun _ _ _ h => h) (Or.inl ⟨by rfl, ?_⟩) (by assumption) ?_
  rotate_left 1
  · (intro W hW; clear hW; go_simp; try with_reducible rfl)
  simp only [Act.put, List.getElem_toArray, List.getElem_cons_succ, List.getElem_cons_zero, List.setIfInBounds_toArray, List.set_cons_zero, List.set_cons_succ]
  refine wpAnyH_take (i := 14) (v := ?_) rfl (by kernel_rfl) (by kernel_rfl) (by kernel_rfl) (fun _ _ _ h => h) (Or.inl ⟨by rfl, ?_⟩) (by assumption) ?_
  rotate_left 1
  · (intro W hW; skip; go_simp; try with_reducible rfl)
  simp only [Act.put, List.getElem_toArray, List.getElem_cons_succ, List.getElem_cons_zero, List.setIfInBounds_toArray, List.set_cons_zero, List.set_cons_succ]
  refine wpAnyH_ready (rs := [9]) (by kernel_rfl) (by simp) ?_
  refine AllReadyH.cons rfl (fun K hK => ?_) AllReadyH.nil
  go_simp
  refine (errP hPd).mono ?_
  rintro z w9 ⟨rfl, rfl⟩
  go_wp2_with fail
  refine hK.out _ _ (e3) (fun hHeld => ?_)
  clear hK K
  try simp only [Act.put, List.getElem_toArray, List.getElem_cons_succ, List.getElem_cons_zero, List.setIfInBounds_toArray, List.set_cons_zero, List.set_cons_succ]
  refine wpAnyH_ready (rs := [10]) (by kernel_rfl) (by simp) ?_
  refine AllReadyH.cons rfl (fun K hK => ?_) AllReadyH.nil
  go_simp
  refine (num11_any _ _).mono ?_
  rintro z w9 ⟨rfl, rfl⟩
  go_wp2_with fail
  refine hK.out _ _ (e3) (fun hHeld => ?_)
  clear hK K
  try simp only [Act.put, List.getElem_toArray, List.getElem_cons_succ, List.getElem_cons_zero, List.setIfInBounds_toArray, List.set_cons_zero, List.set_cons_succ]
  refine wpAnyH_take (i := 15) (v := ?_) rfl (by kernel_rfl) (by kernel_rfl) (by kernel_rfl) (fun _ _ _ h => h) (Or.inl ⟨by rfl, ?_⟩) (by assumption) ?_
  rotate_left 1
  · (intro W hW; clear hW; go_simp; try with_reducible rfl)
  simp only [Act.put, List.getElem_toArray, List.getElem_cons_succ, List.getElem_cons_zero, List.setIfInBounds_toArray, List.set_cons_zero, List.set_cons_succ]
  refine wpAnyH_take (i := 16) (v := ?_) rfl (by kernel_rfl) (by kernel_rfl) (by kernel_rfl) (fun _ _ _ h => h) (Or.inl ⟨by rfl, ?_⟩) (by assumption) ?_
  rotate_left 1
  · (intro W hW; clear hW; go_simp; try with_reducible rfl)
  simp only [Act.put, List.getElem_toArray, List.getElem_cons_succ, List.getElem_cons_zero, List.setIfInBounds_toArray, List.set_cons_zero, List.set_cons_succ]
  refine wpAnyH_take (i := 17) (v := ?_) rfl (by kernel_rfl) (by kernel_rfl) (by kernel_rfl) (fun _ _ _ h => h) (Or.inl ⟨by rfl, ?_⟩) (by assumption) ?_
  rotate_left 1
  · (intro W hW; clear hW; go_simp; try with_reducible rfl)
  simp only [Act.put, List.getElem_toArray, List.getElem_cons_succ, List.getElem_cons_zero, List.setIfInBounds_toArray, List.set_cons_zero, List.set_cons_succ]
  refine wpAnyH_take (i := 18) (v := ?_) rfl (by kernel_rfl) (by kernel_rfl) (by kernel_rfl) (fun _ _ _ h => h) (Or.inl ⟨by rfl, ?_⟩) (by assumption) ?_
  rotate_left 1
  · (intro W hW; clear hW; go_simp; try with_reducible rfl)
  simp only [Act.put, List.getElem_toArray, List.getElem_cons_succ, List.getElem_cons_zero, List.setIfInBounds_toArray, List.set_cons_zero, List.set_cons_succ]
  refine wpAnyH_take (i := 20) (v := ?_) rfl (by kernel_rfl) (by kernel_rfl) (by kernel_rfl) (fun _ _ _ h => h) (Or.inl ⟨by rfl, ?_⟩) (by assumption) ?_
  rotate_left 1
  · (intro W hW; clear hW; go_simp; try with_reducible rfl)
  simp only [Act.put, List.getElem_toArray, List.getElem_cons_succ, List.getElem_cons_zero, List.setIfInBounds_toArray, List.set_cons_zero, List.set_cons_succ]
  refine wpAnyH_ready (rs := [19]) (by kernel_rfl) (by simp) ?_
  refine AllReadyH.cons rfl (fun K hK => ?_) AllReadyH.nil
  go_simp
  refine (leftP hPd).mono ?_
  rintro z w9 ⟨rfl, rfl⟩
  go_wp2_with fail
  refine hK.out _ _ (e3) (fun hHeld => ?_)
  clear hK K
  try simp only [Act.put, List.getElem_toArray, List.getElem_cons_succ, List.getElem_cons_zero, List.setIfInBounds_toArray, List.set_cons_zero, List.set_cons_succ]
  refine wpAnyH_ready (rs := [21]) (by kernel_rfl) (by simp) ?_
  refine AllReadyH.cons rfl (fun K hK => ?_) AllReadyH.nil
  go_simp
  refine (leftD hQd).mono ?_
  rintro z we ⟨rfl, md, hwe⟩
  have hWe : Since wl we := by rw [hwe]; exact hWd.drewN md
  have e4 : we.cell? ⟨q0, 2, none⟩ = some (.int .i64 t0.2) := by rw [hwe]; exact e3
  clear hwe
  go_wp2_with fail
  refine hK.out _ _ (e4) (fun hHeld => ?_)
  clear hK K
  try simp only [Act.put, List.getElem_toArray, List.getElem_cons_succ, List.getElem_cons_zero, List.setIfInBounds_toArray, List.set_cons_zero, List.set_cons_succ]
  refine wpAnyH_take (i := 22) (v := ?_) rfl (by kernel_rfl) (by kernel_rfl) (by kernel_rfl) (fun _ _ _ h => h) (Or.inl ⟨by rfl, ?_⟩) (by assumption) ?_
  rotate_left 1
  · (intro W hW; clear hW; go_simp; try with_reducible rfl)
  simp only [Act.put, List.getElem_toArray, List.getElem_cons_succ, List.getElem_cons_zero, List.setIfInBounds_toArray, List.set_cons_zero, List.set_cons_succ]
  refine wpAnyH_take (i := 23) (v := ?_) rfl (by kernel_rfl) (by kernel_rfl) (by kernel_rfl) (fun _ _ _ h => h) (Or.inl ⟨by rfl, ?_⟩) (by assumption) ?_
  rotate_left 1
  · (intro W hW; clear hW; go_simp; try with_reducible rfl)
  simp only [Act.put, List.getElem_toArray, List.getElem_cons_succ, List.getElem_cons_zero, List.setIfInBounds_toArray, List.set_cons_zero, List.set_cons_succ]
  refine wpAnyH_done (by kernel_rfl) ?_ _
  skip
  obtain ⟨wc1, hnw⟩ : ∃ w', w' = we := ⟨_, rfl⟩
  rw [← hnw] at hWe ⊢
  have hW1 := hWe
  clear hnw hWQ hlg hlq hwQ hgP hPq hQq hWq hqq hPa hQa hWa hqa hoa hra hPb hQb hWb hbb hrb hPc hQc hWc hoc hrc hrb2 e2 hPd hQd hWd e3 hb5 e4 hWe hHeld
  obtain ⟨⟨l2, t1⟩, hr1⟩ : ∃ r, readChain (b, 0) = r := ⟨_, rfl⟩
  have hl8 := readChain_len (b, 0)
  rw [hr1] at hl8
  have HL9 := Lib.hid (show l2.length ≤ 1000 by dsimp only at hl8; omega)
  have HRD1 := Lib.hid hr1
  clear hr1 hl8
  go_wp2_with fail
  refine (open_any (some ⟨gl, 0, none⟩) n0 cl b wc1 ((HL.out.pre.below hW1 (Nat.le_refl _)).more hW1.size_) HN.out (by omega)).mono ?_
  rintro e wP1 ⟨gP1, A2, n2, c2, rfl, hP, hbP⟩
  have hlP := hP.lie
  have hgP := hP.whole.lt
  have hWP : Since wl wP1 := hW1.trans hbP
  go_wp2_with fail
  refine (ropen_any A0 n0 c0 wl.heap.size b wP1 (HR0.out.below hWP (Nat.le_refl _)) hWP.size_ HN.out hc).mono ?_
  rintro e wQ1 ⟨rfl, hQ, hbQ⟩
  have hWQ : Since wl wQ1 := hWP.trans hbQ
  obtain ⟨q1, hq⟩ : ∃ q, q = wP1.heap.size := ⟨_, rfl⟩
  rw [← hq] at hQ hgP
  have hPs : RdS wQ1 _ gP1 (b, 0) := ⟨_, _, _, hP.below hbQ⟩
  have hQs : DcS wQ1 wl.heap.size q1 A0 n0 c0 b (b, 0) := ⟨0, ⟨hQ, fun _ => rfl, by omega, HA.out⟩⟩
  have hlg : wl.heap.size ≤ gP1 := Nat.le_trans hW1.size_ hlP
  have hlq : wl.heap.size ≤ q1 := hQs.lie
  have hqs : q1 < wQ1.heap.size := hQs.lt
  have hwQ := hWQ.size_
  go_wp2_with fail
  rw [← hq]
  clear hP hQ hbP hbQ hWP hlP hq
  obtain ⟨wq, hwq⟩ : ∃ wq, wq = wQ1.drew := ⟨_, rfl⟩
  refine wp_region_held_drew (S := fun _ => True) (by kernel_rfl) trivial (fun hHeld => ?_)
  have hPq : RdS wq wc1.heap.size gP1 (b, 0) := by rw [hwq]; exact hPs.since (Since.refl _).drew
  have hQq : DcS wq wl.heap.size q1 A0 n0 c0 b (b, 0) := by rw [hwq]; exact hQs.since (Since.refl _).drew
  have hWq : Since wl wq := by rw [hwq]; exact hWQ.drew
  have hqq : q1 < wq.heap.size := hQq.lt
  rw [← hwq]
  clear hwq hPs hQs hqs
  refine wpAnyH_take (i := 0) (v := ?_) rfl (by kernel_rfl) (by kernel_rfl) (by kernel_rfl) (fun _ _ _ h => h) (Or.inl ⟨by rfl, ?_⟩) (by assumption) ?_
  rotate_left 1
  · (intro W hW; clear hW; go_simp; try with_reducible rfl)
  simp only [Act.put, List.getElem_toArray, List.getElem_cons_zero, List.setIfInBounds_toArray, List.set_cons_zero, List.set_cons_succ]
  refine wpAnyH_take (i := 2) (v := ?_) rfl (by kernel_rfl) (by kernel_rfl) (by kernel_rfl) (fun _ _ _ h => h) (Or.inl ⟨by rfl, ?_⟩) (by assumption) ?_
  rotate_left 1
  · (intro W hW; clear hW; go_simp; try with_reducible rfl)
  simp only [Act.put, List.getElem_toArray, List.getElem_cons_succ, List.getElem_cons_zero, List.setIfInBounds_toArray, List.set_cons_zero, List.set_cons_succ]
  refine wpAnyH_ready (rs := [1]) (by kernel_rfl) (by simp) ?_
  refine AllReadyH.cons rfl (fun K hK => ?_) AllReadyH.nil
  go_simp
  refine (takeChain_any hPq HRD1.out).mono ?_
  rintro z wa ⟨xa, na, da, rfl, hra, hPa, hoa⟩
  have hQa := hQq.off hoa (fun b z => by subst z; exact ⟨hlg, by omega⟩)
  have hWa : Since wl wa := Below.trans hWq (Off.below hoa hWq.size_ (fun b z => by subst z; exact hlg))
  have hqa : q1 < wa.heap.size := hQa.lt
  go_wp2_with fail
  refine hK.out _ _ (trivial) (fun hHeld => ?_)
  clear hK K
  try simp only [Act.put, List.getElem_toArray, List.getElem_cons_succ, List.getElem_cons_zero, List.setIfInBounds_toArray, List.set_cons_zero, List.set_cons_succ]
  refine wpAnyH_ready (rs := [3]) (by kernel_rfl) (by simp) ?_
  refine AllReadyH.cons rfl (fun K hK => ?_) AllReadyH.nil
  go_simp
  refine (refTakeChain_any hQa HRD1.out).mono ?_
  rintro z wc ⟨xc, nc, dc, rfl, hrc, hQc, hoc⟩
  have hPc := hPa.off hoc (fun b z => by subst z; omega)
  have hWc : Since wl wc := Below.trans hWa (Off.below hoc hWa.size_ (fun b z => by subst z; exact hlq))
  have e2 := hQc.c2
  have hrb2 := RowE.off hra hoc (fun b hb e => by have := (RowE.own hra b hb).1; omega)
  go_wp2_with fail
  refine hK.out _ _ (trivial) (fun hHeld => ?_)
  clear hK K
  try simp only [Act.put, List.getElem_toArray, List.getElem_cons_succ, List.getElem_cons_zero, List.setIfInBounds_toArray, List.set_cons_zero, List.set_cons_succ]
  refine wpAnyH_mono (S' := fun W => W.cell? ⟨q1, 2, none⟩ = some (.int .i64 t1.2)) (fun _ _ => trivial) _ _ _ _ ?_
  replace hHeld := e2
  refine wpAnyH_ready (rs := [4]) (by kernel_rfl) (by simp) ?_
  refine AllReadyH.cons rfl (fun K hK => ?_) AllReadyH.nil
  go_simp
  refine (sameList_any (RZ.lz hrb2) (RZ.lz hrc) (Nat.le_refl _) (by have := HL9.out; omega) ((sameZ_iff _ _).2 rfl)).mono ?_
  rintro z wd ⟨rfl, hb5⟩
  have hPd := hPc.since hb5
  have hQd := hQc.since hb5
  have hWd : Since wl wd := Since.trans hWc hb5
  have e3 := hQd.c2
  go_wp2_with fail
  refine hK.out _ _ (e3) (fun hHeld => ?_)
  clear hK K
  try simp only [Act.put, List.getElem_toArray, List.getElem_cons_succ, List.getElem_cons_zero, List.setIfInBounds_toArray, List.set_cons_zero, List.set_cons_succ]
  refine wpAnyH_take (i := 5) (v := ?_) rfl (by kernel_rfl) (by kernel_rfl) (by kernel_rfl) (fun _ _ _ h => h) (Or.inl ⟨by rfl, ?_⟩) (by assumption) ?_
  rotate_left 1
  · (intro W hW; clear hW; go_simp; try with_reducible rfl)
  simp only [Act.put, List.getElem_toArray, List.getElem_cons_succ, List.getElem_cons_zero, List.setIfInBounds_toArray, List.set_cons_zero, List.set_cons_succ]
  refine wpAnyH_take (i := 6) (v := ?_) rfl (by kernel_rfl) (by kernel_rfl) (by kernel_rfl) (fun _ _ _ h => h) (Or.inl ⟨by rfl, ?_⟩) (by assumption) ?_
  rotate_left 1
  · (intro W hW; clear hW; go_simp; try with_reducible rfl)
  simp only [Act.put, List.getElem_toArray, List.getElem_cons_succ, List.getElem_cons_zero, List.setIfInBounds_toArray, List.set_cons_zero, List.set_cons_succ]
  refine wpAnyH_take (i := 9) (v := ?_) rfl (by kernel_rfl) (by kernel_rfl) (by kernel_rfl) (fun _ _ _ h => h) (Or.inl ⟨by rfl, ?_⟩) (by assumption) ?_
  rotate_left 1
  · (intro W hW; clear hW; go_simp; try with_reducible rfl)
  simp only [Act.put, List.getElem_toArray, List.getElem_cons_succ, List.getElem_cons_zero, List.setIfInBounds_toArray, List.set_cons_zero, List.set_cons_succ]
  refine wpAnyH_take (i := 10) (v := ?_) rfl (by kernel_rfl) (by kernel_rfl) (by kernel_rfl) (fun _ _ _ h => h) (Or.inl ⟨by rfl, ?_⟩) (by assumption) ?_
  rotate_left 1
  · (intro W hW; clear hW; go_simp; try with_reducible rfl)
  simp only [Act.put, List.getElem_toArray, List.getElem_cons_succ, List.getElem_cons_zero, List.setIfInBounds_toArray, List.set_cons_zero, List.set_cons_succ]
  refine wpAnyH_take (i := 11) (v := ?_) rfl (by kernel_rfl) (by kernel_rfl) (by kernel_rfl) (fun _ _ _ h => h) (Or.inl ⟨by rfl, ?_⟩) (by assumption) ?_
  rotate_left 1
  · (intro W hW; clear hW; go_simp; try with_reducible rfl)
  simp only [Act.put, List.getElem_toArray, List.getElem_cons_succ, List.getElem_cons_zero, List.setIfInBounds_toArray, List.set_cons_zero, List.set_cons_succ]
  refine wpAnyH_take (i := 12) (v := ?_) rfl (by kernel_rfl) (by kernel_rfl) (by kernel_rfl) (fun _ _ _ h => h) (Or.inl ⟨by rfl, ?_⟩) (by assumption) ?_
  rotate_left 1
  · (intro W hW; skip; go_simp; try with_reducible rfl)
  simp only [Act.put, List.getElem_toArray, List.getElem_cons_succ, List.getElem_cons_zero, List.setIfInBounds_toArray, List.set_cons_zero, List.set_cons_succ]
  refine wpAnyH_ready (rs := [7]) (by kernel_rfl) (by simp) ?_
  refine AllReadyH.cons rfl (fun K hK => ?_) AllReadyH.nil
  go_simp
  refine (errP hPd).mono ?_
  rintro z w9 ⟨rfl, rfl⟩
  go_wp2_with fail
  refine hK.out _ _ (e3) (fun hHeld => ?_)
  clear hK K
  try simp only [Act.put, List.getElem_toArray, List.getElem_cons_succ, List.getElem_cons_zero, List.setIfInBounds_toArray, List.set_cons_zero, List.set_cons_succ]
  refine wpAnyH_ready (rs := [8]) (by kernel_rfl) (by simp) ?_
  refine AllReadyH.cons rfl (fun K hK => ?_) AllReadyH.nil
  go_simp
  refine (num11_any _ _).mono ?_
  rintro z w9 ⟨rfl, rfl⟩
  go_wp2_with fail
  refine hK.out _ _ (e3) (fun hHeld => ?_)
  clear hK K
  try simp only [Act.put, List.getElem_toArray, List.getElem_cons_succ, List.getElem_cons_zero, List.setIfInBounds_toArray, List.set_cons_zero, List.set_cons_succ]
  refine wpAnyH_take (i := 13) (v := ?_) rfl (by kernel_rfl) (by kernel_rfl) (by kernel_rfl) (fun _ _ _ h => h) (Or.inl ⟨by rfl, ?_⟩) (by assumption) ?_
  rotate_left 1
  · (intro W hW; clear hW; go_simp; try with_reducible rfl)
  simp only [Act.put, List.getElem_toArray, List.getElem_cons_succ, List.getElem_cons_zero, List.setIfInBounds_toArray, List.set_cons_zero, List.set_cons_succ]
  refine wpAnyH_take (i := 14) (v := ?_) rfl (by kernel_rfl) (by kernel_rfl) (by kernel_rfl) (fun _ _ _ h => h) (Or.inl ⟨by rfl, ?_⟩) (by assumption) ?_
  rotate_left 1
  · (intro W hW; clear hW; go_simp; try with_reducible rfl)
  simp only [Act.put, List.getElem_toArray, List.getElem_cons_succ, List.getElem_cons_zero, List.setIfInBounds_toArray, List.set_cons_zero, List.set_cons_succ]
  refine wpAnyH_take (i := 15) (v := ?_) rfl (by kernel_rfl) (by kernel_rfl) (by kernel_rfl) (fun _ _ _ h => h) (Or.inl ⟨by rfl, ?_⟩) (by assumption) ?_
  rotate_left 1
  · (intro W hW; clear hW; go_simp; try with_reducible rfl)
  simp only [Act.put, List.getElem_toArray, List.getElem_cons_succ, List.getElem_cons_zero, List.setIfInBounds_toArray, List.set_cons_zero, List.set_cons_succ]
  refine wpAnyH_take (i := 16) (v := ?_) rfl (by kernel_rfl) (by kernel_rfl) (by kernel_rfl) (fun _ _ _ h => h) (Or.inl ⟨by rfl, ?_⟩) (by assumption) ?_
  rotate_left 1
  · (intro W hW; clear hW; go_simp; try with_reducible rfl)
  simp only [Act.put, List.getElem_toArray, List.getElem_cons_succ, List.getElem_cons_zero, List.setIfInBounds_toArray, List.set_cons_zero, List.set_cons_succ]
  refine wpAnyH_take (i := 18) (v := ?_) rfl (by kernel_rfl) (by kernel_rfl) (by kernel_rfl) (fun _ _ _ h => h) (Or.inl ⟨by rfl, ?_⟩) (by assumption) ?_
  rotate_left 1
  · (intro W hW; clear hW; go_simp; try with_reducible rfl)
  simp only [Act.put, List.getElem_toArray, List.getElem_cons_succ, List.getElem_cons_zero, List.setIfInBounds_toArray, List.set_cons_zero, List.set_cons_succ]
  refine wpAnyH_ready (rs := [17]) (by kernel_rfl) (by simp) ?_
  refine AllReadyH.cons rfl (fun K hK => ?_) AllReadyH.nil
  go_simp
  refine (leftP hPd).mono ?_
  rintro z w9 ⟨rfl, rfl⟩
  go_wp2_with fail
  refine hK.out _ _ (e3) (fun hHeld => ?_)
  clear hK K
  try simp only [Act.put, List.getElem_toArray, List.getElem_cons_succ, List.getElem_cons_zero, List.setIfInBounds_toArray, List.set_cons_zero, List.set_cons_succ]
  refine wpAnyH_ready (rs := [19]) (by kernel_rfl) (by simp) ?_
  refine AllReadyH.cons rfl (fun K hK => ?_) AllReadyH.nil
  go_simp
  refine (leftD hQd).mono ?_
  rintro z we ⟨rfl, md, hwe⟩
  have hWe : Since wl we := by rw [hwe]; exact hWd.drewN md
  have e4 : we.cell? ⟨q1, 2, none⟩ = some (.int .i64 t1.2) := by rw [hwe]; exact e3
  clear hwe
  go_wp2_with fail
  refine hK.out _ _ (e4) (fun hHeld => ?_)
  clear hK K
  try simp only [Act.put, List.getElem_toArray, List.getElem_cons_succ, List.getElem_cons_zero, List.setIfInBounds_toArray, List.set_cons_zero, List.set_cons_succ]
  refine wpAnyH_take (i := 20) (v := ?_) rfl (by kernel_rfl) (by kernel_rfl) (by kernel_rfl) (fun _ _ _ h => h) (Or.inl ⟨by rfl, ?_⟩) (by assumption) ?_
  rotate_left 1
  · (intro W hW; clear hW; go_simp; try with_reducible rfl)
  simp only [Act.put, List.getElem_toArray, List.getElem_cons_succ, List.getElem_cons_zero, List.setIfInBounds_toArray, List.set_cons_zero, List.set_cons_succ]
  refine wpAnyH_take (i := 21) (v := ?_) rfl (by kernel_rfl) (by kernel_rfl) (by kernel_rfl) (fun _ _ _ h => h) (Or.inl ⟨by rfl, ?_⟩) (by assumption) ?_
  rotate_left 1
  · (intro W hW; clear hW; go_simp; try with_reducible rfl)
  simp only [Act.put, List.getElem_toArray, List.getElem_cons_succ, List.getElem_cons_zero, List.setIfInBounds_toArray, List.set_cons_zero, List.set_cons_succ]
  refine wpAnyH_take (i := 22) (v := ?_) rfl (by kernel_rfl) (by kernel_rfl) (by kernel_rfl) (fun _ _ _ h => h) (Or.inl ⟨by rfl, ?_⟩) (by assumption) ?_
  rotate_left 1
  · (intro W hW; clear hW; go_simp; try with_reducible rfl)
  simp only [Act.put, List.getElem_toArray, List.getElem_cons_succ, List.getElem_cons_zero, List.setIfInBounds_toArray, List.set_cons_zero, List.set_cons_succ]
  refine wpAnyH_take (i := 23) (v := ?_) rfl (by kernel_rfl) (by kernel_rfl) (by kernel_rfl) (fun _ _ _ h => h) (Or.inl ⟨by rfl, ?_⟩) (by assumption) ?_
  rotate_left 1
  · (intro W hW; clear hW; go_simp; try with_reducible rfl)
  simp only [Act.put, List.getElem_toArray, List.getElem_cons_succ, List.getElem_cons_zero, List.setIfInBounds_toArray, List.set_cons_zero, List.set_cons_succ]
  refine wpAnyH_take (i := 24) (v := ?_) rfl (by kernel_rfl) (by kernel_rfl) (by kernel_rfl) (fun _ _ _ h => h) (Or.inl ⟨by rfl, ?_⟩) (by assumption) ?_
  rotate_left 1
  · (intro W hW; clear hW; go_simp; try with_reducible rfl)
  simp only [Act.put, List.getElem_toArray, List.getElem_cons_succ, List.getElem_cons_zero, List.setIfInBounds_toArray, List.set_cons_zero, List.set_cons_succ]
  refine wpAnyH_ready (rs := [25]) (by kernel_rfl) (by simp) ?_
  refine AllReadyH.cons rfl (fun K hK => ?_) AllReadyH.nil
  go_simp
  refine (stays_any gl n0 cl A0 c0 b we ((HL.out.below hWe (Nat.le_refl _)).more hWe.size_) ((HR0.out.below hWe (Nat.le_refl _)).more hWe.size_) HN.out hcl (by omega)).mono ?_
  rintro z wf ⟨rfl, me, hwf⟩
  have hWf : Since wl wf := by rw [hwf]; exact hWe.drewN me
  have e5 : wf.cell? ⟨q1, 2, none⟩ = some (.int .i64 t1.2) := by rw [hwf]; exact e4
  clear hwf
  go_wp2_with fail
  refine hK.out _ _ (e5) (fun hHeld => ?_)
  clear hK K
  try simp only [Act.put, List.getElem_toArray, List.getElem_cons_succ, List.getElem_cons_zero, List.setIfInBounds_toArray, List.set_cons_zero, List.set_cons_succ]
  refine wpAnyH_take (i := 26) (v := ?_) rfl (by kernel_rfl) (by kernel_rfl) (by kernel_rfl) (fun _ _ _ h => h) (Or.inl ⟨by rfl, ?_⟩) (by assumption) ?_
  rotate_left 1
  · (intro W hW; clear hW; go_simp; try with_reducible rfl)
  simp only [Act.put, List.getElem_toArray, List.getElem_cons_succ, List.getElem_cons_zero, List.setIfInBounds_toArray, List.set_cons_zero, List.set_cons_succ]
  refine wpAnyH_take (i := 27) (v := ?_) rfl (by kernel_rfl) (by kernel_rfl) (by kernel_rfl) (fun _ _ _ h => h) (Or.inl ⟨by rfl, ?_⟩) (by assumption) ?_
  rotate_left 1
  · (intro W hW; clear hW; go_simp; try with_reducible rfl)
  simp only [Act.put, List.getElem_toArray, List.getElem_cons_succ, List.getElem_cons_zero, List.setIfInBounds_toArray, List.set_cons_zero, List.set_cons_succ]
  refine wpAnyH_ready (rs := [28]) (by kernel_rfl) (by simp) ?_
  refine AllReadyH.cons rfl (fun K hK => ?_) AllReadyH.nil
  go_simp
  refine (knows11_any _).mono ?_
  rintro z wg ⟨rfl, hbg⟩
  go_wp2_with fail
  refine hK.out _ _ ((hbg.cell (World.block_lt_of_cell? wf _ e5)).trans e5) (fun hHeld => ?_)
  clear hK K
  try simp only [Act.put, List.getElem_toArray, List.getElem_cons_succ, List.getElem_cons_zero, List.setIfInBounds_toArray, List.set_cons_zero, List.set_cons_succ]
  refine wpAnyH_take (i := 29) (v := ?_) rfl (by kernel_rfl) (by kernel_rfl) (by kernel_rfl) (fun _ _ _ h => h) (Or.inl ⟨by rfl, ?_⟩) (by assumption) ?_
  rotate_left 1
  · (intro W hW; clear hW; go_simp; try with_reducible rfl)
  simp only [Act.put, List.getElem_toArray, List.getElem_cons_succ, List.getElem_cons_zero, List.setIfInBounds_toArray, List.set_cons_zero, List.set_cons_succ]
  refine wpAnyH_take (i := 30) (v := ?_) rfl (by kernel_rfl) (by kernel_rfl) (by kernel_rfl) (fun _ _ _ h => h) (Or.inl ⟨by rfl, ?_⟩) (by assumption) ?_
  rotate_left 1
  · (intro W hW; clear hW; go_simp; try with_reducible rfl)
  simp only [Act.put, List.getElem_toArray, List.getElem_cons_succ, List.getElem_cons_zero, List.setIfInBounds_toArray, List.set_cons_zero, List.set_cons_succ]
  refine wpAnyH_done (by kernel_rfl) ?_ _
  go_wp2
  go_ret
  exact ⟨rfl, hbl.trans (Below.mono (hWf.trans hbg) hsl)⟩
theorem etakes_walk (a0 : Option Addr) (len0 cap0 : Nat) (z0 : List Int) (w : World) (w0 : RowIn .u8 w a0 len0 cap0 z0) :
    Calls Tryd.prog 4 #[.slice a0 len0 cap0] w fun e w' => e = .returned (.bool true) ∧ Below w.heap.size w w' := by
  have hs := seen_of_row w0
  obtain ⟨l, hl, hr, hc⟩ := rd_of_row w0
  by_cases h : 3000 < len0
  · exact etakes_long a0 len0 cap0 w h
  · exact etakes_short a0 len0 cap0 l w hr hl hc hs (by omega)
end Go.Proofs.YtimmnmidhjbanaaDoor
