/- The walk of the law WireFrames. -/
import Derived.Test.YtgbgbkfbiebjgaaRefUnframe4
import Derived.Test.YtgbgbkfbiebjgaaTurned
namespace Go.Proofs.Ytgbgbkfbiebjgaa
open Go.RowKit
theorem frame_bad (kind : Int) (A : Option Addr) (n c : Nat) (w : World) (hk : kind < 0 ∨ 255 < kind) : Calls Try.prog 21 #[.int .i64 kind, .slice A n c] w (SliceNumPost w.heap.size [] 1 w) := by
  by_cases h : kind < 0
  · exact frame_low kind A n c w h
  · exact frame_high kind A n c w (by omega) (by omega)
theorem unC_length (l : List UInt8) : (unC l).length ≤ l.length := by
  unfold unC
  split
  · rw [List.length_take, List.length_drop]; omega
  · simp
theorem frames_step {w wr : World} {g n c j : Nat} {L : List UInt8} (h : Has wr w.heap.size (some ⟨g, 0, none⟩) n c L) (hb : Below w.heap.size w wr) (hj : j < n) (hg : w.heap.size ≤ g) :
    ∃ x : Nat, x < 256 ∧ wr.cell? ⟨g, j, none⟩ = some (.int .u8 (x : Int)) ∧ wr.frozen? ⟨g, j, none⟩ = false ∧
      ∀ z : Int, z = ((x : Int) + 1) % 256 → ∃ L', Has (wr.setCell ⟨g, j, none⟩ (.int .u8 z)) w.heap.size (some ⟨g, 0, none⟩) n c L' ∧ Below w.heap.size w (wr.setCell ⟨g, j, none⟩ (.int .u8 z)) := by
  have hl : j < L.length := by rw [h.len]; exact hj
  obtain ⟨b, o, he, _, hc⟩ := h.rd.at_ hl
  injection he with he
  injection he with e1 e2
  subst e1; subst e2
  refine ⟨L[j].toNat, L[j].toNat_lt, by simpa using hc j hl, World.ownsRow.frozenAt (by have := h.own; unfold Own at this; rw [h.len] at this; exact this) _, ?_⟩
  rintro z rfl
  have e : ((L[j].toNat : Int) + 1) % 256 = ((UInt8.ofNat ((L[j].toNat + 1) % 256)).toNat : Int) := by rw [ofNat_toNat (by omega)]; omega
  rw [e]
  exact ⟨_, turn_stored h j hl _, hb.setCell (p := ⟨g, j, none⟩) hg _⟩
set_option maxRecDepth 100000 in
set_option maxHeartbeats 3200000 in
theorem frames_fine (kind : Nat) (A1 : Option Addr) (n1 c1 : Nat) (l1 : List UInt8) (A2 : Option Addr) (n2 c2 : Nat) (l2 : List UInt8) (w : World) (hr1 : Rd w w.heap.size A1 l1) (hn1 : l1.length = n1) (h1 : n1 ≤ 9000)
    (hr2 : Rd w w.heap.size A2 l2) (hn2 : l2.length = n2) (hc2 : n2 ≤ c2) (h2 : n2 ≤ 9000) (hk : kind ≤ 255) :
    Calls Try.prog 5 #[.int .i64 (kind : Int), .slice A1 n1 c1, .slice A2 n2 c2] w fun e w' => e = .returned (.bool true) ∧ Below w.heap.size w w' := by
  have HN1 := Lib.hid hn1
  have HN2 := Lib.hid hn2
  clear hn1 hn2
  go_enter Try.func5, Try.ntmps5
  go_wp2_with fail
  refine (lent_any A1 n1 c1 l1 w hr1 HN1.out (by omega)).mono ?_
  rintro e w1 ⟨g1, d1, rfl, x1, gx1, gy1, hb1⟩
  have hd1 := x1.cap
  have hs1 := hb1.size
  go_wp2_with fail
  refine (lent_any A2 n2 c2 l2 w1 ((hr2.below hb1 (Nat.le_refl _)).more hs1) HN2.out (by omega)).mono ?_
  rintro e w2 ⟨g2, d2, rfl, x2, gx2, gy2, hb2⟩
  have hd2 := x2.cap
  have hbw2 := hb1.trans (hb2.mono hs1)
  have x1' := x1.below hb2
  clear x1 hb1 hb2
  have hs2 := hbw2.size
  go_wp2_with fail
  refine (frame_good kind _ n1 d1 l1 w2 hk x1'.rd.pre HN1.out (by omega)).mono ?_
  rintro e w3 ⟨A3, n3, c3, rfl, h3, hb3⟩
  have hbw3 := hbw2.trans (hb3.mono hs2)
  have y1 := x1'.below hb3
  have y2 := x2.below hb3
  have hs3 := hbw3.size
  clear x1' x2 hb3 hbw2
  obtain ⟨m, hm⟩ : ∃ m, m = frameB kind l1 := ⟨_, rfl⟩
  rw [← hm] at h3
  have tb : ∀ W : World, Below w3.heap.size w3 W → (convert 22 9 (.slice A3 n3 c3)).run Try.prog W = .ok (.string ⟨m.toArray⟩) W := fun W hW => text_of W n3 c3 (h3.rd.below hW (Nat.le_refl _)) h3.len
  have f1 : ∀ W : World, Below w3.heap.size w3 W → Calls Try.prog 22 #[.int .i64 (kind : Int), .slice A1 n1 c1] W fun e w' => ∃ A n c, e = .returned (.slice A n c) ∧ Below w3.heap.size w3 w' ∧ ∀ W', Below w'.heap.size w' W' → (convert 22 9 (.slice A n c)).run Try.prog W' = .ok (.string ⟨m.toArray⟩) W' := by
    intro W hW
    have hbW := hbw3.trans (hW.mono hs3)
    refine (refFrame_any kind _ n1 c1 l1 W hk ((hr1.below hbW (Nat.le_refl _)).more hbW.size) HN1.out (by omega)).mono ?_
    rintro e w' ⟨A, n, c, rfl, h3, h4⟩
    rw [← hm] at h3
    exact ⟨A, n, c, rfl, hW.trans (h4.mono hW.size), fun W' hW' => text_of W' n c (h3.below hW').rd h3.len⟩
  have TB := Lib.hid tb
  have F1 := Lib.hid f1
  clear tb f1 hm h3
  have Y1 := Lib.hid y1
  have Y2 := Lib.hid y2
  have HR1 := Lib.hid hr1
  have HR2 := Lib.hid hr2
  clear y1 y2 hr1 hr2
  go_wp2
  rw [show decide ((kind : Int) ≤ 255) = true from decide_eq_true (by omega)]
  have hbq : Below w3.heap.size w3 w3.drew := (Below.refl _ _).drew
  obtain ⟨wq, hwq⟩ : ∃ wq, wq = w3.drew := ⟨_, rfl⟩
  refine wp_region_held_drew (S := fun W => Below w3.heap.size w3 W) (by kernel_rfl) hbq (fun hHeld => ?_)
  rw [← hwq] at hbq hHeld ⊢
  clear hwq
  refine wpAnyH_take (i := 0) (v := ?_) rfl (by kernel_rfl) (by kernel_rfl) (by kernel_rfl) (fun _ _ _ h => h) (Or.inl ⟨by rfl, ?_⟩) (by assumption) ?_
  rotate_left 1
  · (intro W hW; clear hW; go_simp; try with_reducible rfl)
  simp only [Act.put, List.getElem_toArray, List.getElem_cons_zero, List.setIfInBounds_toArray, List.set_cons_zero, List.set_cons_succ]
  refine wpAnyH_take (i := 3) (v := ?_) rfl (by kernel_rfl) (by kernel_rfl) (by kernel_rfl) (fun _ _ _ h => h) (Or.inl ⟨by rfl, ?_⟩) (by assumption) ?_
  rotate_left 1
  · (intro W hW; clear hW; go_simp; try with_reducible rfl)
  simp only [Act.put, List.getElem_toArray, List.getElem_cons_succ, List.getElem_cons_zero, List.setIfInBounds_toArray, List.set_cons_zero, List.set_cons_succ]
  refine wpAnyH_ready (rs := [1]) (by kernel_rfl) (by simp) ?_
  refine AllReadyH.cons rfl (fun K hK => ?_) AllReadyH.nil
  go_simp
  refine (law_num_any _ _).mono ?_
  rintro e w' ⟨rfl, rfl⟩
  go_wp2_with fail
  refine hK.out _ _ (hbq) (fun hHeld => ?_)
  clear hK K
  try simp only [Act.put, List.getElem_toArray, List.getElem_cons_succ, List.getElem_cons_zero, List.setIfInBounds_toArray, List.set_cons_zero, List.set_cons_succ]
  refine wpAnyH_take (i := 2) (v := ?_) rfl (by kernel_rfl) (by kernel_rfl) (by kernel_rfl) (fun _ _ _ h => h) (Or.inl ⟨by rfl, ?_⟩) (by assumption) ?_
  rotate_left 1
  · (intro W hW; clear hW; go_simp; try with_reducible rfl)
  simp only [Act.put, List.getElem_toArray, List.getElem_cons_succ, List.getElem_cons_zero, List.setIfInBounds_toArray, List.set_cons_zero, List.set_cons_succ]
  refine wpAnyH_take (i := 4) (v := ?_) rfl (by kernel_rfl) (by kernel_rfl) (by kernel_rfl) (fun _ _ _ h => h) (Or.inl ⟨by rfl, ?_⟩) (by assumption) ?_
  rotate_left 1
  · (intro W hW; clear hW; go_simp; try with_reducible rfl)
  simp only [Act.put, List.getElem_toArray, List.getElem_cons_succ, List.getElem_cons_zero, List.setIfInBounds_toArray, List.set_cons_zero, List.set_cons_succ]
  refine wpAnyH_take (i := 5) (v := ?_) rfl (by kernel_rfl) (by kernel_rfl) (by kernel_rfl) (fun _ _ _ h => h) (Or.inl ⟨by rfl, ?_⟩) (by assumption) ?_
  rotate_left 1
  · (intro W hW; clear hW; go_simp; try with_reducible rfl)
  simp only [Act.put, List.getElem_toArray, List.getElem_cons_succ, List.getElem_cons_zero, List.setIfInBounds_toArray, List.set_cons_zero, List.set_cons_succ]
  refine wpAnyH_take (i := 6) (v := ?_) rfl (by kernel_rfl) (by kernel_rfl) (by kernel_rfl) (fun _ _ _ h => h) (Or.inl ⟨by rfl, ?_⟩) (by assumption) ?_
  rotate_left 1
  · (intro W hW; clear hW; go_simp; try with_reducible rfl)
  simp only [Act.put, List.getElem_toArray, List.getElem_cons_succ, List.getElem_cons_zero, List.setIfInBounds_toArray, List.set_cons_zero, List.set_cons_succ]
  refine wpAnyH_take (i := 7) (v := ?_) rfl (by kernel_rfl) (by kernel_rfl) (by kernel_rfl) (fun _ _ _ h => h) (Or.inl ⟨by rfl, ?_⟩) (by assumption) ?_
  rotate_left 1
  · (intro W hW; clear hW; go_simp; try with_reducible rfl)
  simp only [Act.put, List.getElem_toArray, List.getElem_cons_succ, List.getElem_cons_zero, List.setIfInBounds_toArray, List.set_cons_zero, List.set_cons_succ]
  refine wpAnyH_take (i := 8) (v := ?_) rfl (by kernel_rfl) (by kernel_rfl) (by kernel_rfl) (fun _ _ _ h => h) (Or.inl ⟨by rfl, ?_⟩) (by assumption) ?_
  rotate_left 1
  · (intro W hW; clear hW; go_simp; try with_reducible rfl)
  simp only [Act.put, List.getElem_toArray, List.getElem_cons_succ, List.getElem_cons_zero, List.setIfInBounds_toArray, List.set_cons_zero, List.set_cons_succ]
  refine wpAnyH_take (i := 9) (v := undef) rfl (by kernel_rfl) (by kernel_rfl) (by kernel_rfl) (fun _ _ _ h => h) (Or.inr ⟨by rfl, rfl⟩) (by assumption) ?_
  simp only [Act.put, List.getElem_toArray, List.getElem_cons_succ, List.getElem_cons_zero, List.setIfInBounds_toArray, List.set_cons_zero, List.set_cons_succ]
  refine wpAnyH_take (i := 10) (v := undef) rfl (by kernel_rfl) (by kernel_rfl) (by kernel_rfl) (fun _ _ _ h => h) (Or.inr ⟨by rfl, rfl⟩) (by assumption) ?_
  simp only [Act.put, List.getElem_toArray, List.getElem_cons_succ, List.getElem_cons_zero, List.setIfInBounds_toArray, List.set_cons_zero, List.set_cons_succ]
  refine wpAnyH_take (i := 11) (v := undef) rfl (by kernel_rfl) (by kernel_rfl) (by kernel_rfl) (fun _ _ _ h => h) (Or.inr ⟨by rfl, rfl⟩) (by assumption) ?_
  simp only [Act.put, List.getElem_toArray, List.getElem_cons_succ, List.getElem_cons_zero, List.setIfInBounds_toArray, List.set_cons_zero, List.set_cons_succ]
  refine wpAnyH_take (i := 12) (v := undef) rfl (by kernel_rfl) (by kernel_rfl) (by kernel_rfl) (fun _ _ _ h => h) (Or.inr ⟨by rfl, rfl⟩) (by assumption) ?_
  simp only [Act.put, List.getElem_toArray, List.getElem_cons_succ, List.getElem_cons_zero, List.setIfInBounds_toArray, List.set_cons_zero, List.set_cons_succ]
  refine wpAnyH_take (i := 13) (v := undef) rfl (by kernel_rfl) (by kernel_rfl) (by kernel_rfl) (fun _ _ _ h => h) (Or.inr ⟨by rfl, rfl⟩) (by assumption) ?_
  simp only [Act.put, List.getElem_toArray, List.getElem_cons_succ, List.getElem_cons_zero, List.setIfInBounds_toArray, List.set_cons_zero, List.set_cons_succ]
  refine wpAnyH_take (i := 14) (v := undef) rfl (by kernel_rfl) (by kernel_rfl) (by kernel_rfl) (fun _ _ _ h => h) (Or.inr ⟨by rfl, rfl⟩) (by assumption) ?_
  simp only [Act.put, List.getElem_toArray, List.getElem_cons_succ, List.getElem_cons_zero, List.setIfInBounds_toArray, List.set_cons_zero, List.set_cons_succ]
  refine wpAnyH_take (i := 15) (v := undef) rfl (by kernel_rfl) (by kernel_rfl) (by kernel_rfl) (fun _ _ _ h => h) (Or.inr ⟨by rfl, rfl⟩) (by assumption) ?_
  simp only [Act.put, List.getElem_toArray, List.getElem_cons_succ, List.getElem_cons_zero, List.setIfInBounds_toArray, List.set_cons_zero, List.set_cons_succ]
  refine wpAnyH_take (i := 16) (v := undef) rfl (by kernel_rfl) (by kernel_rfl) (by kernel_rfl) (fun _ _ _ h => h) (Or.inr ⟨by rfl, rfl⟩) (by assumption) ?_
  simp only [Act.put, List.getElem_toArray, List.getElem_cons_succ, List.getElem_cons_zero, List.setIfInBounds_toArray, List.set_cons_zero, List.set_cons_succ]
  refine wpAnyH_take (i := 17) (v := ?_) rfl (by kernel_rfl) (by kernel_rfl) (by kernel_rfl) (fun _ _ _ h => h) (Or.inl ⟨by rfl, ?_⟩) (by assumption) ?_
  rotate_left 1
  · (intro W hW; clear hW; go_simp; try with_reducible rfl)
  simp only [Act.put, List.getElem_toArray, List.getElem_cons_succ, List.getElem_cons_zero, List.setIfInBounds_toArray, List.set_cons_zero, List.set_cons_succ]
  refine wpAnyH_take (i := 18) (v := ?_) rfl (by kernel_rfl) (by kernel_rfl) (by kernel_rfl) (fun _ _ _ h => h) (Or.inl ⟨by rfl, ?_⟩) (by assumption) ?_
  rotate_left 1
  · (intro W hW; clear hW; go_simp; try with_reducible rfl)
  simp only [Act.put, List.getElem_toArray, List.getElem_cons_succ, List.getElem_cons_zero, List.setIfInBounds_toArray, List.set_cons_zero, List.set_cons_succ]
  refine wpAnyH_take (i := 19) (v := ?_) rfl (by kernel_rfl) (by kernel_rfl) (by kernel_rfl) (fun _ _ _ h => h) (Or.inl ⟨by rfl, ?_⟩) (by assumption) ?_
  rotate_left 1
  · (intro W hW; clear hW; go_simp; try with_reducible rfl)
  simp only [Act.put, List.getElem_toArray, List.getElem_cons_succ, List.getElem_cons_zero, List.setIfInBounds_toArray, List.set_cons_zero, List.set_cons_succ]
  refine wpAnyH_take (i := 20) (v := ?_) rfl (by kernel_rfl) (by kernel_rfl) (by kernel_rfl) (fun _ _ _ h => h) (Or.inl ⟨by rfl, ?_⟩) (by assumption) ?_
  rotate_left 1
  · (intro W hW; clear hW; go_simp; try with_reducible rfl)
  simp only [Act.put, List.getElem_toArray, List.getElem_cons_succ, List.getElem_cons_zero, List.setIfInBounds_toArray, List.set_cons_zero, List.set_cons_succ]
  refine wpAnyH_take (i := 21) (v := ?_) rfl (by kernel_rfl) (by kernel_rfl) (by kernel_rfl) (fun _ _ _ h => h) (Or.inl ⟨by rfl, ?_⟩) (by assumption) ?_
  rotate_left 1
  · (intro W hW; clear hW; go_simp; try with_reducible rfl)
  simp only [Act.put, List.getElem_toArray, List.getElem_cons_succ, List.getElem_cons_zero, List.setIfInBounds_toArray, List.set_cons_zero, List.set_cons_succ]
  refine wpAnyH_take (i := 22) (v := ?_) rfl (by kernel_rfl) (by kernel_rfl) (by kernel_rfl) (fun _ _ _ h => h) (Or.inl ⟨by rfl, ?_⟩) (by assumption) ?_
  rotate_left 1
  · (intro W hW; clear hW; go_simp; try with_reducible rfl)
  simp only [Act.put, List.getElem_toArray, List.getElem_cons_succ, List.getElem_cons_zero, List.setIfInBounds_toArray, List.set_cons_zero, List.set_cons_succ]
  refine wpAnyH_take (i := 23) (v := ?_) rfl (by kernel_rfl) (by kernel_rfl) (by kernel_rfl) (fun _ _ _ h => h) (Or.inl ⟨by rfl, ?_⟩) (by assumption) ?_
  rotate_left 1
  · (intro W hW; have t := TB.out W hW; go_simp; try with_reducible rfl)
  simp only [Act.put, List.getElem_toArray, List.getElem_cons_succ, List.getElem_cons_zero, List.setIfInBounds_toArray, List.set_cons_zero, List.set_cons_succ]
  refine wpAnyH_take (i := 24) (v := ?_) rfl (by kernel_rfl) (by kernel_rfl) (by kernel_rfl) (fun _ _ _ h => h) (Or.inl ⟨by rfl, ?_⟩) (by assumption) ?_
  rotate_left 1
  · (intro W hW; clear hW; go_simp; try with_reducible rfl)
  simp only [Act.put, List.getElem_toArray, List.getElem_cons_succ, List.getElem_cons_zero, List.setIfInBounds_toArray, List.set_cons_zero, List.set_cons_succ]
  refine wpAnyH_take (i := 25) (v := ?_) rfl (by kernel_rfl) (by kernel_rfl) (by kernel_rfl) (fun _ _ _ h => h) (Or.inl ⟨by rfl, ?_⟩) (by assumption) ?_
  rotate_left 1
  · (intro W hW; clear hW; go_simp; try with_reducible rfl)
  simp only [Act.put, List.getElem_toArray, List.getElem_cons_succ, List.getElem_cons_zero, List.setIfInBounds_toArray, List.set_cons_zero, List.set_cons_succ]
  refine wpAnyH_ready (rs := [26]) (by kernel_rfl) (by simp) ?_
  refine AllReadyH.cons rfl (fun K hK => ?_) AllReadyH.nil
  go_simp
  refine (F1.out _ (by assumption)).mono ?_
  rintro e w5 ⟨A5, n5, c5, rfl, hb5, hc5⟩
  have hc5' := hc5 w5 (Below.refl _ _)
  go_wp2_with fail
  refine hK.out _ _ (hb5) (fun hHeld => ?_)
  clear hK K
  try simp only [Act.put, List.getElem_toArray, List.getElem_cons_succ, List.getElem_cons_zero, List.setIfInBounds_toArray, List.set_cons_zero, List.set_cons_succ]
  refine wpAnyH_ready (rs := [27]) (by kernel_rfl) (by simp) ?_
  refine AllReadyH.cons rfl (fun K hK => ?_) AllReadyH.nil
  go_simp
  refine hK.out _ _ (hb5) (fun hHeld => ?_)
  clear hK K
  try simp only [Act.put, List.getElem_toArray, List.getElem_cons_succ, List.getElem_cons_zero, List.setIfInBounds_toArray, List.set_cons_zero, List.set_cons_succ]
  refine wpAnyH_take (i := 28) (v := ?_) rfl (by kernel_rfl) (by kernel_rfl) (by kernel_rfl) (fun _ _ _ h => h) (Or.inl ⟨by rfl, ?_⟩) (by assumption) ?_
  rotate_left 1
  · (intro W hW; clear hW; go_simp; try with_reducible rfl)
  simp only [Act.put, List.getElem_toArray, List.getElem_cons_succ, List.getElem_cons_zero, List.setIfInBounds_toArray, List.set_cons_zero, List.set_cons_succ]
  refine wpAnyH_take (i := 29) (v := ?_) rfl (by kernel_rfl) (by kernel_rfl) (by kernel_rfl) (fun _ _ _ h => h) (Or.inl ⟨by rfl, ?_⟩) (by assumption) ?_
  rotate_left 1
  · (intro W hW; clear hW; go_simp; try with_reducible rfl)
  simp only [Act.put, List.getElem_toArray, List.getElem_cons_succ, List.getElem_cons_zero, List.setIfInBounds_toArray, List.set_cons_zero, List.set_cons_succ]
  refine wpAnyH_take (i := 30) (v := ?_) rfl (by kernel_rfl) (by kernel_rfl) (by kernel_rfl) (fun _ _ _ h => h) (Or.inl ⟨by rfl, ?_⟩) (by assumption) ?_
  rotate_left 1
  · (intro W hW; clear hW; go_simp; try with_reducible rfl)
  simp only [Act.put, List.getElem_toArray, List.getElem_cons_succ, List.getElem_cons_zero, List.setIfInBounds_toArray, List.set_cons_zero, List.set_cons_succ]
  refine wpAnyH_done (by kernel_rfl) ?_ _
  have hbw5 := hbw3.trans (hb5.mono hs3)
  have hs5 := hbw5.size
  have z1 := Y1.out.below hb5
  have z2 := Y2.out.below hb5
  clear hb5 hbq hbw3 hHeld hc5'
  go_wp2_with fail
  obtain ⟨uk, uc, ue, hun, huc, hru⟩ : ∃ uk uc ue, Calls Try.prog 23 #[.slice (some ⟨g2, 0, none⟩) n2 d2] w5 (UnPost uk uc ue w5) ∧ uc.length ≤ 9000 ∧ ∀ W : World, Rd W W.heap.size A2 l2 → Calls Try.prog 24 #[.slice A2 n2 c2] W (UnPost uk uc ue W) :=
    ⟨_, _, _, unframe_any (some ⟨g2, 0, none⟩) n2 d2 l2 _ z2.rd.pre HN2.out (by omega) (by omega), (by have := unC_length l2; have := HN2.out; omega), fun W hW => refUnframe_any A2 n2 c2 l2 W hW HN2.out hc2 (by omega)⟩
  have RU := Lib.hid hru
  clear hru
  refine hun.mono ?_
  rintro e w6 ⟨A6, n6, c6, rfl, h6, hb6⟩
  have hn6 : n6 ≤ 9000 := by rw [← h6.len]; exact huc
  clear huc
  have hbw6 := hbw5.trans (hb6.mono hs5)
  have hs6 := hb6.size
  go_wp2_with fail
  refine (RU.out w6 ((HR2.out.below hbw6 (Nat.le_refl _)).more hbw6.size)).mono ?_
  rintro e w7 ⟨A7, n7, c7, rfl, h7, hb7⟩
  have hb57 := hb6.trans (hb7.mono hs6)
  have h67 := h6.below hb7
  have t6 := text_of w7 n6 c6 h67.rd h67.len
  have t7 := text_of w7 n7 c7 h7.rd h7.len
  have H67 := Lib.hid h67
  have Z1 := Lib.hid z1
  have Z2 := Lib.hid z2
  clear RU hun h67 h7 hb6 hb7 h6 z1 z2 hbw6 Y1 Y2 TB F1
  go_wp2_with (go_at_call 19; (with_reducible refine (law_num_any _ _).mono ?_); rintro e w' ⟨rfl, rfl⟩)
  clear t6 t7
  go_loopw [18] (fun i wr => ∃ (j : Nat) (L : List UInt8), i = .int .i64 (j : Int) ∧ j ≤ n6 ∧ Has wr w5.heap.size A6 n6 c6 L ∧ Below w5.heap.size w5 wr) (fun i _ => n6 - (intOf i).toNat)
  case atStart => exact ⟨0, uc, rfl, by omega, H67.out, hb57⟩
  case round =>
    obtain ⟨j, L, rfl, hj, hL, hbr⟩ := hrel
    by_cases hlt : j < n6
    · obtain ⟨g, hA, hg1, hg2⟩ := hL.some_ (by omega)
      subst hA
      obtain ⟨x, hx, hcell, hfro, hnext⟩ := frames_step hL hbr hlt hg1
      have HX := Lib.hid hnext
      clear hnext hL hbr H67 hb57
      go_wp2
      go_roundw
      case rel =>
        obtain ⟨L', q1, q2⟩ := HX.out _ rfl
        exact ⟨j + 1, L', by go_num, by omega, q1, q2⟩
      case measure => simp [intOf]; omega
    · have hbwr := hbw5.trans (hbr.mono hs5)
      have sa := stays_any g1 n1 d1 A1 c1 l1 wr (Z1.out.below hbr).rd (((HR1.out.below hbwr (Nat.le_refl _)).more hbwr.size)) HN1.out hd1 (by omega)
      have sb := fun k => stays_any g2 n2 d2 A2 c2 l2 (wr.drewN k) ((Z2.out.below hbr).drewN k).rd (((HR2.out.below hbwr (Nat.le_refl _)).more hbwr.size)) HN2.out hd2 (by omega)
      have SA := Lib.hid sa
      have SB := Lib.hid sb
      clear sa sb hL hbr H67 hb57
      go_wp2_with (first
        | (go_at_call 15; (with_reducible refine SA.out.mono ?_); rintro e w' ⟨rfl, k1, rfl⟩)
        | (go_at_call 15; (with_reducible refine (SB.out k1).mono ?_); rintro e w' ⟨rfl, k2, rfl⟩)
        | (go_at_call 11; (with_reducible refine (knows_any _).mono ?_); rintro e w8 ⟨rfl, hb8⟩))
      go_ret
      exact ⟨rfl, hbwr.trans ((⟨hb8.os, hb8.tape, hb8.output, hb8.size, hb8.block⟩ : Below wr.heap.size wr w8).mono hbwr.size)⟩
end Go.Proofs.Ytgbgbkfbiebjgaa
