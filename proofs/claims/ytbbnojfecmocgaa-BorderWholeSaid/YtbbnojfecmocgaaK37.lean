/- tiling: Find. -/
import Derived.Test.YtbbnojfecmocgaaK29
namespace Go.Proofs.Ytbbnojfecmocgaa
open Go.RowKit
set_option linter.unusedVariables false
theorem but_set3 {g : Nat} {w0 W : World} (h : Since w0 W) (u v x : Value) : But g w0 (((W.setCell ⟨g, 0, none⟩ u).setCell ⟨g, 1, none⟩ v).setCell ⟨g, 2, none⟩ x) := (But.set2 h 0 1 u v).set_ (p := ⟨g, 2, none⟩) rfl x
theorem cell_fine {k : Int} (hk : 1 ≤ k ∧ k ≤ 16) (x y : Int) : fine (2 * k) (atV k x y (2 * k).toNat) = true := by
  have := atV_bd k x y (2 * k).toNat
  exact (fine_iff _ _).2 ⟨by omega, by omega, this.1, this.2⟩
theorem hit_abv {k x y d b : Int} (hk : 1 ≤ k ∧ k ≤ 16) (hf : fine d b = true) (hd : d ≤ 2 * k) : hitB k x y d b = abvB d b (2 * k) (atV k x y (2 * k).toNat) := by
  have h0 := ((fine_iff _ _).1 hf).1
  have e1 : ((2 * k).toNat : Int) = 2 * k := by omega
  have e2 : ((d.toNat : Nat) : Int) = d := by omega
  have h1 := atV_pv k x y d.toNat (2 * k).toNat (by omega)
  rw [e1, e2] at h1
  unfold abvB hitB
  rw [hf, cell_fine hk, h1, decide_eq_true hd]
  rfl
theorem find_way {k : Int} {p s : PT} {ed eb x y : Int} {pre post : List Tl} (hk : 1 ≤ k ∧ k ≤ 16) (hn : (p.tr.high : Int) ≤ 2 * k) (hB : hasB k x y = true) (hw : WayE k p (2 * k) (atV k x y (2 * k).toNat) s ed eb pre post) :
    (s = .gap ∧ findT k (p.tr.tiles 0 0) x y = none) ∨ ∃ g2 who, s = .leaf g2 who ∧ findT k (p.tr.tiles 0 0) x y = some ⟨ed, eb, who⟩ := by
  have hf : ∀ z ∈ p.tr.tiles 0 0, fine z.d z.b = true ∧ z.d ≤ 2 * k := fun z hz => by
    obtain ⟨h1, h2⟩ := Tr.tiles_abv p.tr 0 0 (by decide) (by omega) z hz
    exact ⟨((abvB_iff _ _ _ _).1 h1).2.1, by omega⟩
  have hno : ∀ z ∈ pre ++ post, hitB k x y z.d z.b = false := fun z hz => by
    have hz' : z ∈ p.tr.tiles 0 0 := by
      rw [hw.tiles]
      rcases List.mem_append.1 hz with h | h <;> simp [h]
    rw [hit_abv hk (hf z hz').1 (hf z hz').2]
    have := hw.out z hz
    unfold metB at this
    exact (Bool.or_eq_false_iff.1 this).1
  have hpre : pre.find? (fun z => hitB k x y z.d z.b) = none := List.find?_eq_none.2 (fun z hz => by rw [hno z (List.mem_append.2 (.inl hz))]; exact Bool.false_ne_true)
  have hpost : post.find? (fun z => hitB k x y z.d z.b) = none := List.find?_eq_none.2 (fun z hz => by rw [hno z (List.mem_append.2 (.inr hz))]; exact Bool.false_ne_true)
  unfold findT
  rw [if_pos hB, hw.tiles, List.append_assoc, List.find?_append, hpre, Option.none_or, List.find?_append, hpost, Option.or_none]
  cases hs : s with
  | gap => exact .inl ⟨rfl, rfl⟩
  | leaf g2 who =>
    refine .inr ⟨g2, who, rfl, ?_⟩
    have hm : (⟨ed, eb, who⟩ : Tl) ∈ p.tr.tiles 0 0 := by rw [hw.tiles, hs]; simp [PT.tr, Tr.tiles]
    have h2 := hit_abv (x := x) (y := y) hk (hf _ hm).1 (hf _ hm).2
    have h3 : hitB k x y ed eb = true := h2.trans hw.abv
    simp [PT.tr, Tr.tiles, h3]
  | node g z l r =>
    have h1 := hw.high
    have h2 := hw.last
    rw [hs] at h1 h2
    simp only [PT.tr, Tr.high] at h1
    simp [PT.isNode] at h2
    omega
set_option maxRecDepth 100000 in
set_option maxHeartbeats 1600000 in
theorem find_any {g : Nat} {p : PT} {k : Int} {w : World} (h : TilO g p k w) (x y : Int) : Calls Try.prog 13 #[.pointer (some ⟨g, 0, none⟩), .agg #[.int .i64 x, .int .i64 y]] w fun e W' => e = .returned (tlV (findT k (p.tr.tiles 0 0) x y)) ∧ Below w.heap.size w W' := by
  obtain ⟨w0, hw0⟩ : ∃ w0, w0 = (w.alloc (.cells #[.int .i64 x, .int .i64 y] 24)).alloc (.cells #[.int .i64 0, .int .i64 0, .int .i64 0] 37) := ⟨_, rfl⟩
  have hs0 : Since w w0 := by rw [hw0]; exact ((Since.refl w).alloc _).alloc _
  have wh0 : Whole w0 (w.heap.size) 24 #[.int .i64 x, .int .i64 y] := by rw [hw0]; exact (Whole.new w _ _).alloc _
  have wh1 : Whole w0 (w.heap.size + 1) 37 #[.int .i64 0, .int .i64 0, .int .i64 0] := by rw [hw0]; exact (Whole.new (w.alloc _) _ _).at_ (by simp)
  have HW := Lib.hid hw0
  have c0_0 := box_cell wh0 0 (.int .i64 x) rfl
  have c0_1 := box_cell wh0 1 (.int .i64 y) rfl
  have c1_0 := box_cell wh1 0 (.int .i64 0) rfl
  have f1_0 := box_free wh1 0
  have c1_1 := box_cell wh1 1 (.int .i64 0) rfl
  have f1_1 := box_free wh1 1
  have c1_2 := box_cell wh1 2 (.int .i64 0) rfl
  have f1_2 := box_free wh1 2
  have hsr := Since.refl w0
  have hsd := hsr.drew
  clear hw0
  have hkb := h.kb
  have hbox := h.box
  have hgl := hbox.lt
  have HM := Lib.hid (fun W (hW : Since w0 W) => made_yes (h.since (hs0.trans hW)))
  have hw2k : wrap64 (2 * k) = 2 * k := IntWalk.wrap64_in _ ⟨by omega, by omega⟩
  have hw2k' : IntKind.i64.wrap (2 * k) = 2 * k := IntWalk.i64_in _ ⟨by omega, by omega⟩
  cases hB : hasB k x y with
  | false =>
    have hr : findT k (p.tr.tiles 0 0) x y = none := by unfold findT; rw [if_neg (by rw [hB]; exact Bool.false_ne_true)]
    rw [hr]
    have HAT := Lib.hid (fun W => at_no k x y (2 * k) W (.inl hB))
    clear hr hB h
    obtain ⟨LN, hLN⟩ : ∃ n, n = (p.tr.tiles 0 0).length := ⟨_, rfl⟩
    rw [← hLN] at hbox
    clear hLN
    go_enter Try.func13, Try.ntmps13
    go_wp2_with fail
    rw [← HW.out]
    go_wp2_with (go_at_call 39; (with_reducible refine (Calls.since (by assumption) (HM.out _ (by assumption))).mono ?_); rintro e wr ⟨rfl, hbr⟩)
    have hbr1 := Since.whole (hs0.trans hbr) hbox
    have wr0 := Since.whole hbr wh0
    have wr1 := Since.whole hbr wh1
    have q0 := box_cell hbr1 0 (.int .i64 k) rfl
    have q1 := box_cell wr0 0 (.int .i64 x) rfl
    have q2 := box_cell wr0 1 (.int .i64 y) rfl
    have hsd : Since wr wr.drew := (Since.refl wr).drew
    clear c0_0 c0_1 c1_0 c1_1 c1_2 f1_0 f1_1 f1_2
    obtain ⟨wq, hwq⟩ : ∃ wq, wq = wr.drew := ⟨_, rfl⟩
    refine wp_region_held_drew (S := fun W => Since wr W) (by kernel_rfl) hsd (fun hHeld => ?_)
    rw [← hwq] at hHeld ⊢
    have hq : Since wr wq := hHeld
    clear hwq hsd
    refine wpAnyH_take (i := 0) (v := ?_) rfl (by kernel_rfl) (by kernel_rfl) (by kernel_rfl) (fun _ _ _ h => h) (Or.inl ⟨by rfl, ?_⟩) (by assumption) ?_
    rotate_left 1
    · (intro W hW; clear hW; go_simp; try with_reducible rfl)
    simp only [Act.put, List.getElem_toArray, List.getElem_cons_zero, List.setIfInBounds_toArray, List.set_cons_zero, List.set_cons_succ]
    refine wpAnyH_take (i := 1) (v := ?_) rfl (by kernel_rfl) (by kernel_rfl) (by kernel_rfl) (fun _ _ _ h => h) (Or.inl ⟨by rfl, ?_⟩) (by assumption) ?_
    rotate_left 1
    · (intro W hW; clear hW; go_simp; try with_reducible rfl)
    simp only [Act.put, List.getElem_toArray, List.getElem_cons_succ, List.getElem_cons_zero, List.setIfInBounds_toArray, List.set_cons_zero, List.set_cons_succ]
    refine wpAnyH_take (i := 2) (v := ?_) rfl (by kernel_rfl) (by kernel_rfl) (by kernel_rfl) (fun _ _ _ h => h) (Or.inl ⟨by rfl, ?_⟩) (by assumption) ?_
    rotate_left 1
    · (intro W hW; clear hW; go_simp; try with_reducible rfl)
    simp only [Act.put, List.getElem_toArray, List.getElem_cons_succ, List.getElem_cons_zero, List.setIfInBounds_toArray, List.set_cons_zero, List.set_cons_succ]
    refine wpAnyH_take (i := 3) (v := ?_) rfl (by kernel_rfl) (by kernel_rfl) (by kernel_rfl) (fun _ _ _ h => h) (Or.inl ⟨by rfl, ?_⟩) (by assumption) ?_
    rotate_left 1
    · (intro W hW; skip; go_simp; try with_reducible rfl)
    simp only [Act.put, List.getElem_toArray, List.getElem_cons_succ, List.getElem_cons_zero, List.setIfInBounds_toArray, List.set_cons_zero, List.set_cons_succ]
    refine wpAnyH_take (i := 4) (v := ?_) rfl (by kernel_rfl) (by kernel_rfl) (by kernel_rfl) (fun _ _ _ h => h) (Or.inl ⟨by rfl, ?_⟩) (by assumption) ?_
    rotate_left 1
    · (intro W hW; skip; go_simp; try with_reducible rfl)
    simp only [Act.put, List.getElem_toArray, List.getElem_cons_succ, List.getElem_cons_zero, List.setIfInBounds_toArray, List.set_cons_zero, List.set_cons_succ]
    refine wpAnyH_take (i := 5) (v := ?_) rfl (by kernel_rfl) (by kernel_rfl) (by kernel_rfl) (fun _ _ _ h => h) (Or.inl ⟨by rfl, ?_⟩) (by assumption) ?_
    rotate_left 1
    · (intro W hW; clear hW; go_simp; try with_reducible rfl)
    simp only [Act.put, List.getElem_toArray, List.getElem_cons_succ, List.getElem_cons_zero, List.setIfInBounds_toArray, List.set_cons_zero, List.set_cons_succ]
    refine wpAnyH_take (i := 6) (v := ?_) rfl (by kernel_rfl) (by kernel_rfl) (by kernel_rfl) (fun _ _ _ h => h) (Or.inl ⟨by rfl, ?_⟩) (by assumption) ?_
    rotate_left 1
    · (intro W hW; clear hW; go_simp; try with_reducible rfl)
    simp only [Act.put, List.getElem_toArray, List.getElem_cons_succ, List.getElem_cons_zero, List.setIfInBounds_toArray, List.set_cons_zero, List.set_cons_succ]
    refine wpAnyH_take (i := 7) (v := ?_) rfl (by kernel_rfl) (by kernel_rfl) (by kernel_rfl) (fun _ _ _ h => h) (Or.inl ⟨by rfl, ?_⟩) (by assumption) ?_
    rotate_left 1
    · (intro W hW; clear hW; go_simp; try with_reducible rfl)
    simp only [Act.put, List.getElem_toArray, List.getElem_cons_succ, List.getElem_cons_zero, List.setIfInBounds_toArray, List.set_cons_zero, List.set_cons_succ]
    refine wpAnyH_take (i := 8) (v := ?_) rfl (by kernel_rfl) (by kernel_rfl) (by kernel_rfl) (fun _ _ _ h => h) (Or.inl ⟨by rfl, ?_⟩) (by assumption) ?_
    rotate_left 1
    · (intro W hW; clear hW; go_simp; try with_reducible rfl)
    simp only [Act.put, List.getElem_toArray, List.getElem_cons_succ, List.getElem_cons_zero, List.setIfInBounds_toArray, List.set_cons_zero, List.set_cons_succ]
    refine wpAnyH_take (i := 9) (v := ?_) rfl (by kernel_rfl) (by kernel_rfl) (by kernel_rfl) (fun _ _ _ h => h) (Or.inl ⟨by rfl, ?_⟩) (by assumption) ?_
    rotate_left 1
    · (intro W hW; skip; go_simp; try with_reducible rfl)
    simp only [Act.put, List.getElem_toArray, List.getElem_cons_succ, List.getElem_cons_zero, List.setIfInBounds_toArray, List.set_cons_zero, List.set_cons_succ]
    refine wpAnyH_take (i := 10) (v := ?_) rfl (by kernel_rfl) (by kernel_rfl) (by kernel_rfl) (fun _ _ _ h => h) (Or.inl ⟨by rfl, ?_⟩) (by assumption) ?_
    rotate_left 1
    · (intro W hW; clear hW; go_simp; try with_reducible rfl)
    simp only [Act.put, List.getElem_toArray, List.getElem_cons_succ, List.getElem_cons_zero, List.setIfInBounds_toArray, List.set_cons_zero, List.set_cons_succ]
    refine wpAnyH_ready (rs := [11, 15]) (by kernel_rfl) (by simp) ?_
    refine AllReadyH.cons rfl (fun K hK => ?_) (AllReadyH.cons rfl (fun K hK => ?_) AllReadyH.nil)
    · go_simp
      refine (Calls.since hq (HAT.out _)).mono ?_
      rintro e w2 ⟨rfl, hb2⟩
      go_wp2_with fail
      refine hK.out _ _ (hb2) (fun hHeld => ?_)
      clear hK K
      try simp only [Act.put, List.getElem_toArray, List.getElem_cons_succ, List.getElem_cons_zero, List.setIfInBounds_toArray, List.set_cons_zero, List.set_cons_succ]
      refine wpAnyH_take (i := 12) (v := ?_) rfl (by kernel_rfl) (by kernel_rfl) (by kernel_rfl) (fun _ _ _ h => h) (Or.inl ⟨by rfl, ?_⟩) (by assumption) ?_
      rotate_left 1
      · (intro W hW; clear hW; go_simp; try with_reducible rfl)
      simp only [Act.put, List.getElem_toArray, List.getElem_cons_succ, List.getElem_cons_zero, List.setIfInBounds_toArray, List.set_cons_zero, List.set_cons_succ]
      refine wpAnyH_take (i := 13) (v := ?_) rfl (by kernel_rfl) (by kernel_rfl) (by kernel_rfl) (fun _ _ _ h => h) (Or.inl ⟨by rfl, ?_⟩) (by assumption) ?_
      rotate_left 1
      · (intro W hW; clear hW; go_simp; try with_reducible rfl)
      simp only [Act.put, List.getElem_toArray, List.getElem_cons_succ, List.getElem_cons_zero, List.setIfInBounds_toArray, List.set_cons_zero, List.set_cons_succ]
      refine wpAnyH_take (i := 14) (v := ?_) rfl (by kernel_rfl) (by kernel_rfl) (by kernel_rfl) (fun _ _ _ h => h) (Or.inl ⟨by rfl, ?_⟩) (by assumption) ?_
      rotate_left 1
      · (intro W hW; clear hW; go_simp; try with_reducible rfl)
      simp only [Act.put, List.getElem_toArray, List.getElem_cons_succ, List.getElem_cons_zero, List.setIfInBounds_toArray, List.set_cons_zero, List.set_cons_succ]
      refine wpAnyH_ready (rs := [15]) (by kernel_rfl) (by simp) ?_
      refine AllReadyH.cons rfl (fun K hK => ?_) AllReadyH.nil
      go_simp
      skip
      refine hK.out _ _ (hb2.alloc _) (fun hHeld => ?_)
      clear hK K
      try simp only [Act.put, List.getElem_toArray, List.getElem_cons_succ, List.getElem_cons_zero, List.setIfInBounds_toArray, List.set_cons_zero, List.set_cons_succ]
      refine wpAnyH_ready (rs := [16]) (by kernel_rfl) (by simp) ?_
      refine AllReadyH.cons rfl (fun K hK => ?_) AllReadyH.nil
      go_simp
      skip
      refine hK.out _ _ (hb2.alloc _) (fun hHeld => ?_)
      clear hK K
      try simp only [Act.put, List.getElem_toArray, List.getElem_cons_succ, List.getElem_cons_zero, List.setIfInBounds_toArray, List.set_cons_zero, List.set_cons_succ]
      refine wpAnyH_take (i := 17) (v := ?_) rfl (by kernel_rfl) (by kernel_rfl) (by kernel_rfl) (fun _ _ _ h => h) (Or.inl ⟨by rfl, ?_⟩) (by assumption) ?_
      rotate_left 1
      · (intro W hW; clear hW; go_simp; try with_reducible rfl)
      simp only [Act.put, List.getElem_toArray, List.getElem_cons_succ, List.getElem_cons_zero, List.setIfInBounds_toArray, List.set_cons_zero, List.set_cons_succ]
      refine wpAnyH_done (by kernel_rfl) ?_ _
      obtain ⟨w5, hw5⟩ : ∃ w5, w5 = w2.alloc (.cells #[.int .i64 0, .int .i64 0] 35) := ⟨_, rfl⟩
      have hS5 : Since wr w5 := Since.named (hb2.alloc _) hw5
      have hN5 : Whole w5 w2.heap.size 35 #[.int .i64 0, .int .i64 0] := (Whole.new w2 _ _).named hw5
      obtain ⟨NB, hNB⟩ : ∃ NB, NB = w2.heap.size := ⟨_, rfl⟩
      rw [← hw5, ← hNB]
      rw [← hNB] at hN5
      clear hHeld hb2 hw5 hNB hq
      have hr5 := Since.whole hS5 wr1
      have hs5 := (hs0.trans hbr).trans hS5
      have v0 := hr5.cell 0
      have v1 := hr5.cell 1
      have v2 := hr5.cell 2
      have z0 := hr5.frozen 0
      have z1 := hr5.frozen 1
      have z2 := hr5.frozen 2
      go_wp2_with fail
      have u := ((hr5.set_ 0 (.int .i64 0)).set_ 1 (.int .i64 0)).set_ 2 (.int .i64 0)
      have u0 := u.cell 0
      have u1 := u.cell 1
      have u2 := u.cell 2
      exact bodyPost_ret (v := tlV none) (by simp [results, Try.results13, go_sem, u0, u1, u2, tlV]) rfl ⟨rfl, Below.setCell (Below.setCell (Below.setCell hs5 (by simp) _) (by simp) _) (by simp) _⟩
    · go_simp
      skip
      refine hK.out _ _ (hq.alloc _) (fun hHeld => ?_)
      clear hK K
      try simp only [Act.put, List.getElem_toArray, List.getElem_cons_succ, List.getElem_cons_zero, List.setIfInBounds_toArray, List.set_cons_zero, List.set_cons_succ]
      refine wpAnyH_ready (rs := [11]) (by kernel_rfl) (by simp) ?_
      refine AllReadyH.cons rfl (fun K hK => ?_) AllReadyH.nil
      go_simp
      refine (HAT.out _).mono ?_
      rintro e w2 ⟨rfl, hb2'⟩
      have hb2 : Since wr w2 := Since.trans (hq.alloc _) hb2'
      have hw := (Whole.new wq 35 #[.int .i64 0, .int .i64 0]).below hb2' (by simp)
      have y0 := hw.cell 0
      have x0 := hw.frozen 0
      have y1 := hw.cell 1
      have x1 := hw.frozen 1
      go_wp2_with fail
      refine hK.out _ _ (hb2) (fun hHeld => ?_)
      clear hK K
      try simp only [Act.put, List.getElem_toArray, List.getElem_cons_succ, List.getElem_cons_zero, List.setIfInBounds_toArray, List.set_cons_zero, List.set_cons_succ]
      refine wpAnyH_take (i := 12) (v := ?_) rfl (by kernel_rfl) (by kernel_rfl) (by kernel_rfl) (fun _ _ _ h => h) (Or.inl ⟨by rfl, ?_⟩) (by assumption) ?_
      rotate_left 1
      · (intro W hW; clear hW; go_simp; try with_reducible rfl)
      simp only [Act.put, List.getElem_toArray, List.getElem_cons_succ, List.getElem_cons_zero, List.setIfInBounds_toArray, List.set_cons_zero, List.set_cons_succ]
      refine wpAnyH_take (i := 13) (v := ?_) rfl (by kernel_rfl) (by kernel_rfl) (by kernel_rfl) (fun _ _ _ h => h) (Or.inl ⟨by rfl, ?_⟩) (by assumption) ?_
      rotate_left 1
      · (intro W hW; clear hW; go_simp; try with_reducible rfl)
      simp only [Act.put, List.getElem_toArray, List.getElem_cons_succ, List.getElem_cons_zero, List.setIfInBounds_toArray, List.set_cons_zero, List.set_cons_succ]
      refine wpAnyH_take (i := 14) (v := ?_) rfl (by kernel_rfl) (by kernel_rfl) (by kernel_rfl) (fun _ _ _ h => h) (Or.inl ⟨by rfl, ?_⟩) (by assumption) ?_
      rotate_left 1
      · (intro W hW; clear hW; go_simp; try with_reducible rfl)
      simp only [Act.put, List.getElem_toArray, List.getElem_cons_succ, List.getElem_cons_zero, List.setIfInBounds_toArray, List.set_cons_zero, List.set_cons_succ]
      refine wpAnyH_ready (rs := [16]) (by kernel_rfl) (by simp) ?_
      refine AllReadyH.cons rfl (fun K hK => ?_) AllReadyH.nil
      go_simp
      skip
      refine hK.out _ _ ((Since.setCell (Since.setCell hb2 (p := ⟨wq.heap.size, 0, none⟩) hq.size_ _) (p := ⟨wq.heap.size, 1, none⟩) hq.size_ _)) (fun hHeld => ?_)
      clear hK K
      try simp only [Act.put, List.getElem_toArray, List.getElem_cons_succ, List.getElem_cons_zero, List.setIfInBounds_toArray, List.set_cons_zero, List.set_cons_succ]
      refine wpAnyH_take (i := 17) (v := ?_) rfl (by kernel_rfl) (by kernel_rfl) (by kernel_rfl) (fun _ _ _ h => h) (Or.inl ⟨by rfl, ?_⟩) (by assumption) ?_
      rotate_left 1
      · (intro W hW; clear hW; go_simp; try with_reducible rfl)
      simp only [Act.put, List.getElem_toArray, List.getElem_cons_succ, List.getElem_cons_zero, List.setIfInBounds_toArray, List.set_cons_zero, List.set_cons_succ]
      refine wpAnyH_done (by kernel_rfl) ?_ _
      obtain ⟨w5, hw5⟩ : ∃ w5, w5 = ((w2.setCell ⟨wq.heap.size, 0, none⟩ (.int .i64 0)).setCell ⟨wq.heap.size, 1, none⟩ (.int .i64 0)) := ⟨_, rfl⟩
      have hS5 : Since wr w5 := Since.named ((Since.setCell (Since.setCell hb2 (p := ⟨wq.heap.size, 0, none⟩) hq.size_ _) (p := ⟨wq.heap.size, 1, none⟩) hq.size_ _)) hw5
      have hN5 : Whole w5 wq.heap.size 35 #[.int .i64 0, .int .i64 0] := (((hw.set_ 0 _).set_ 1 _)).named hw5
      clear hw hb2' x0 y0 x1 y1
      obtain ⟨NB, hNB⟩ : ∃ NB, NB = wq.heap.size := ⟨_, rfl⟩
      rw [← hw5, ← hNB]
      rw [← hNB] at hN5
      clear hHeld hb2 hw5 hNB hq
      have hr5 := Since.whole hS5 wr1
      have hs5 := (hs0.trans hbr).trans hS5
      have v0 := hr5.cell 0
      have v1 := hr5.cell 1
      have v2 := hr5.cell 2
      have z0 := hr5.frozen 0
      have z1 := hr5.frozen 1
      have z2 := hr5.frozen 2
      go_wp2_with fail
      have u := ((hr5.set_ 0 (.int .i64 0)).set_ 1 (.int .i64 0)).set_ 2 (.int .i64 0)
      have u0 := u.cell 0
      have u1 := u.cell 1
      have u2 := u.cell 2
      exact bodyPost_ret (v := tlV none) (by simp [results, Try.results13, go_sem, u0, u1, u2, tlV]) rfl ⟨rfl, Below.setCell (Below.setCell (Below.setCell hs5 (by simp) _) (by simp) _) (by simp) _⟩
  | true =>
    have hn : ((2 * k).toNat : Int) = 2 * k := by omega
    obtain ⟨s, ed, eb, pre, post, hw⟩ := h.way (cell_fine hkb x y)
    have hfw := find_way hkb h.high hB hw
    have ht2 := fun W (hW : Since w0 W) => toward_tow (h.since (hs0.trans hW)) _ _ hw.fine hw.tow
    have HAT := Lib.hid (fun W => at_yes k x y (2 * k) (2 * k).toNat W hB hn.symm (Int.le_refl _))
    obtain ⟨AV, hAV⟩ : ∃ A, A = atV k x y (2 * k).toNat := ⟨_, rfl⟩
    rw [← hAV] at HAT ht2
    have hnode : ∀ g2 who, s = .leaf g2 who → Whole w g2 96 #[.int .i64 who, .pointer none, .pointer none] := fun g2 who e => by
      have := PT.tow_at (2 * k) (atV k x y (2 * k).toNat) p 0 0 h.at_
      rw [hw.tow, e] at this
      exact this
    rcases hfw with ⟨rfl, hr⟩ | ⟨g2, who, rfl, hr⟩
    · rw [hr]
      have HT := Lib.hid ht2
      simp only [PT.v] at HT
      clear hr hB h hw hAV ht2 hn hnode
      obtain ⟨LN, hLN⟩ : ∃ n, n = (p.tr.tiles 0 0).length := ⟨_, rfl⟩
      rw [← hLN] at hbox
      clear hLN
      go_enter Try.func13, Try.ntmps13
      go_wp2_with fail
      rw [← HW.out]
      go_wp2_with (go_at_call 39; (with_reducible refine (Calls.since (by assumption) (HM.out _ (by assumption))).mono ?_); rintro e wr ⟨rfl, hbr⟩)
      have hbr1 := Since.whole (hs0.trans hbr) hbox
      have wr0 := Since.whole hbr wh0
      have wr1 := Since.whole hbr wh1
      have q0 := box_cell hbr1 0 (.int .i64 k) rfl
      have q1 := box_cell wr0 0 (.int .i64 x) rfl
      have q2 := box_cell wr0 1 (.int .i64 y) rfl
      have hsd : Since wr wr.drew := (Since.refl wr).drew
      clear c0_0 c0_1 c1_0 c1_1 c1_2 f1_0 f1_1 f1_2
      obtain ⟨wq, hwq⟩ : ∃ wq, wq = wr.drew := ⟨_, rfl⟩
      refine wp_region_held_drew (S := fun W => Since wr W) (by kernel_rfl) hsd (fun hHeld => ?_)
      rw [← hwq] at hHeld ⊢
      have hq : Since wr wq := hHeld
      clear hwq hsd
      refine wpAnyH_take (i := 0) (v := ?_) rfl (by kernel_rfl) (by kernel_rfl) (by kernel_rfl) (fun _ _ _ h => h) (Or.inl ⟨by rfl, ?_⟩) (by assumption) ?_
      rotate_left 1
      · (intro W hW; clear hW; go_simp; try with_reducible rfl)
      simp only [Act.put, List.getElem_toArray, List.getElem_cons_zero, List.setIfInBounds_toArray, List.set_cons_zero, List.set_cons_succ]
      refine wpAnyH_take (i := 1) (v := ?_) rfl (by kernel_rfl) (by kernel_rfl) (by kernel_rfl) (fun _ _ _ h => h) (Or.inl ⟨by rfl, ?_⟩) (by assumption) ?_
      rotate_left 1
      · (intro W hW; clear hW; go_simp; try with_reducible rfl)
      simp only [Act.put, List.getElem_toArray, List.getElem_cons_succ, List.getElem_cons_zero, List.setIfInBounds_toArray, List.set_cons_zero, List.set_cons_succ]
      refine wpAnyH_take (i := 2) (v := ?_) rfl (by kernel_rfl) (by kernel_rfl) (by kernel_rfl) (fun _ _ _ h => h) (Or.inl ⟨by rfl, ?_⟩) (by assumption) ?_
      rotate_left 1
      · (intro W hW; clear hW; go_simp; try with_reducible rfl)
      simp only [Act.put, List.getElem_toArray, List.getElem_cons_succ, List.getElem_cons_zero, List.setIfInBounds_toArray, List.set_cons_zero, List.set_cons_succ]
      refine wpAnyH_take (i := 3) (v := ?_) rfl (by kernel_rfl) (by kernel_rfl) (by kernel_rfl) (fun _ _ _ h => h) (Or.inl ⟨by rfl, ?_⟩) (by assumption) ?_
      rotate_left 1
      · (intro W hW; skip; go_simp; try with_reducible rfl)
      simp only [Act.put, List.getElem_toArray, List.getElem_cons_succ, List.getElem_cons_zero, List.setIfInBounds_toArray, List.set_cons_zero, List.set_cons_succ]
      refine wpAnyH_take (i := 4) (v := ?_) rfl (by kernel_rfl) (by kernel_rfl) (by kernel_rfl) (fun _ _ _ h => h) (Or.inl ⟨by rfl, ?_⟩) (by assumption) ?_
      rotate_left 1
      · (intro W hW; skip; go_simp; try with_reducible rfl)
      simp only [Act.put, List.getElem_toArray, List.getElem_cons_succ, List.getElem_cons_zero, List.setIfInBounds_toArray, List.set_cons_zero, List.set_cons_succ]
      refine wpAnyH_take (i := 5) (v := ?_) rfl (by kernel_rfl) (by kernel_rfl) (by kernel_rfl) (fun _ _ _ h => h) (Or.inl ⟨by rfl, ?_⟩) (by assumption) ?_
      rotate_left 1
      · (intro W hW; clear hW; go_simp; try with_reducible rfl)
      simp only [Act.put, List.getElem_toArray, List.getElem_cons_succ, List.getElem_cons_zero, List.setIfInBounds_toArray, List.set_cons_zero, List.set_cons_succ]
      refine wpAnyH_take (i := 6) (v := ?_) rfl (by kernel_rfl) (by kernel_rfl) (by kernel_rfl) (fun _ _ _ h => h) (Or.inl ⟨by rfl, ?_⟩) (by assumption) ?_
      rotate_left 1
      · (intro W hW; clear hW; go_simp; try with_reducible rfl)
      simp only [Act.put, List.getElem_toArray, List.getElem_cons_succ, List.getElem_cons_zero, List.setIfInBounds_toArray, List.set_cons_zero, List.set_cons_succ]
      refine wpAnyH_take (i := 7) (v := ?_) rfl (by kernel_rfl) (by kernel_rfl) (by kernel_rfl) (fun _ _ _ h => h) (Or.inl ⟨by rfl, ?_⟩) (by assumption) ?_
      rotate_left 1
      · (intro W hW; clear hW; go_simp; try with_reducible rfl)
      simp only [Act.put, List.getElem_toArray, List.getElem_cons_succ, List.getElem_cons_zero, List.setIfInBounds_toArray, List.set_cons_zero, List.set_cons_succ]
      refine wpAnyH_take (i := 8) (v := ?_) rfl (by kernel_rfl) (by kernel_rfl) (by kernel_rfl) (fun _ _ _ h => h) (Or.inl ⟨by rfl, ?_⟩) (by assumption) ?_
      rotate_left 1
      · (intro W hW; clear hW; go_simp; try with_reducible rfl)
      simp only [Act.put, List.getElem_toArray, List.getElem_cons_succ, List.getElem_cons_zero, List.setIfInBounds_toArray, List.set_cons_zero, List.set_cons_succ]
      refine wpAnyH_take (i := 9) (v := ?_) rfl (by kernel_rfl) (by kernel_rfl) (by kernel_rfl) (fun _ _ _ h => h) (Or.inl ⟨by rfl, ?_⟩) (by assumption) ?_
      rotate_left 1
      · (intro W hW; skip; go_simp; try with_reducible rfl)
      simp only [Act.put, List.getElem_toArray, List.getElem_cons_succ, List.getElem_cons_zero, List.setIfInBounds_toArray, List.set_cons_zero, List.set_cons_succ]
      refine wpAnyH_take (i := 10) (v := ?_) rfl (by kernel_rfl) (by kernel_rfl) (by kernel_rfl) (fun _ _ _ h => h) (Or.inl ⟨by rfl, ?_⟩) (by assumption) ?_
      rotate_left 1
      · (intro W hW; clear hW; go_simp; try with_reducible rfl)
      simp only [Act.put, List.getElem_toArray, List.getElem_cons_succ, List.getElem_cons_zero, List.setIfInBounds_toArray, List.set_cons_zero, List.set_cons_succ]
      refine wpAnyH_ready (rs := [11, 15]) (by kernel_rfl) (by simp) ?_
      refine AllReadyH.cons rfl (fun K hK => ?_) (AllReadyH.cons rfl (fun K hK => ?_) AllReadyH.nil)
      · go_simp
        refine (Calls.since hq (HAT.out _)).mono ?_
        rintro e w2 ⟨rfl, hb2⟩
        go_wp2_with fail
        refine hK.out _ _ (hb2) (fun hHeld => ?_)
        clear hK K
        try simp only [Act.put, List.getElem_toArray, List.getElem_cons_succ, List.getElem_cons_zero, List.setIfInBounds_toArray, List.set_cons_zero, List.set_cons_succ]
        refine wpAnyH_take (i := 12) (v := ?_) rfl (by kernel_rfl) (by kernel_rfl) (by kernel_rfl) (fun _ _ _ h => h) (Or.inl ⟨by rfl, ?_⟩) (by assumption) ?_
        rotate_left 1
        · (intro W hW; clear hW; go_simp; try with_reducible rfl)
        simp only [Act.put, List.getElem_toArray, List.getElem_cons_succ, List.getElem_cons_zero, List.setIfInBounds_toArray, List.set_cons_zero, List.set_cons_succ]
        refine wpAnyH_take (i := 13) (v := ?_) rfl (by kernel_rfl) (by kernel_rfl) (by kernel_rfl) (fun _ _ _ h => h) (Or.inl ⟨by rfl, ?_⟩) (by assumption) ?_
        rotate_left 1
        · (intro W hW; clear hW; go_simp; try with_reducible rfl)
        simp only [Act.put, List.getElem_toArray, List.getElem_cons_succ, List.getElem_cons_zero, List.setIfInBounds_toArray, List.set_cons_zero, List.set_cons_succ]
        refine wpAnyH_take (i := 14) (v := ?_) rfl (by kernel_rfl) (by kernel_rfl) (by kernel_rfl) (fun _ _ _ h => h) (Or.inl ⟨by rfl, ?_⟩) (by assumption) ?_
        rotate_left 1
        · (intro W hW; clear hW; go_simp; try with_reducible rfl)
        simp only [Act.put, List.getElem_toArray, List.getElem_cons_succ, List.getElem_cons_zero, List.setIfInBounds_toArray, List.set_cons_zero, List.set_cons_succ]
        refine wpAnyH_ready (rs := [15]) (by kernel_rfl) (by simp) ?_
        refine AllReadyH.cons rfl (fun K hK => ?_) AllReadyH.nil
        go_simp
        skip
        refine hK.out _ _ (hb2.alloc _) (fun hHeld => ?_)
        clear hK K
        try simp only [Act.put, List.getElem_toArray, List.getElem_cons_succ, List.getElem_cons_zero, List.setIfInBounds_toArray, List.set_cons_zero, List.set_cons_succ]
        refine wpAnyH_ready (rs := [16]) (by kernel_rfl) (by simp) ?_
        refine AllReadyH.cons rfl (fun K hK => ?_) AllReadyH.nil
        go_simp
        skip
        refine hK.out _ _ (hb2.alloc _) (fun hHeld => ?_)
        clear hK K
        try simp only [Act.put, List.getElem_toArray, List.getElem_cons_succ, List.getElem_cons_zero, List.setIfInBounds_toArray, List.set_cons_zero, List.set_cons_succ]
        refine wpAnyH_take (i := 17) (v := ?_) rfl (by kernel_rfl) (by kernel_rfl) (by kernel_rfl) (fun _ _ _ h => h) (Or.inl ⟨by rfl, ?_⟩) (by assumption) ?_
        rotate_left 1
        · (intro W hW; clear hW; go_simp; try with_reducible rfl)
        simp only [Act.put, List.getElem_toArray, List.getElem_cons_succ, List.getElem_cons_zero, List.setIfInBounds_toArray, List.set_cons_zero, List.set_cons_succ]
        refine wpAnyH_done (by kernel_rfl) ?_ _
        obtain ⟨w5, hw5⟩ : ∃ w5, w5 = w2.alloc (.cells #[.int .i64 (2 * k), .int .i64 AV] 35) := ⟨_, rfl⟩
        have hS5 : Since wr w5 := Since.named (hb2.alloc _) hw5
        have hN5 : Whole w5 w2.heap.size 35 #[.int .i64 (2 * k), .int .i64 AV] := (Whole.new w2 _ _).named hw5
        obtain ⟨NB, hNB⟩ : ∃ NB, NB = w2.heap.size := ⟨_, rfl⟩
        rw [← hw5, ← hNB]
        rw [← hNB] at hN5
        clear hHeld hb2 hw5 hNB hq
        have p0 := hN5.cell 0
        have p1 := hN5.cell 1
        have h05 := hbr.trans hS5
        go_wp2_with fail
        refine (HT.out _ h05).mono ?_
        rintro e w6 ⟨rfl, hb6⟩
        clear p0 p1
        have hr5 := Since.whole (hS5.trans (Since.alloc hb6 (.cells #[.int .i64 ed, .int .i64 eb] 35))) wr1
        have hs5 := (hs0.trans h05).trans (Since.alloc hb6 (.cells #[.int .i64 ed, .int .i64 eb] 35))
        have v0 := hr5.cell 0
        have v1 := hr5.cell 1
        have v2 := hr5.cell 2
        have z0 := hr5.frozen 0
        have z1 := hr5.frozen 1
        have z2 := hr5.frozen 2
        go_wp2_with fail
        have u := ((hr5.set_ 0 (.int .i64 0)).set_ 1 (.int .i64 0)).set_ 2 (.int .i64 0)
        have u0 := u.cell 0
        have u1 := u.cell 1
        have u2 := u.cell 2
        exact bodyPost_ret (v := tlV none) (by simp [results, Try.results13, go_sem, u0, u1, u2, tlV]) rfl ⟨rfl, Below.setCell (Below.setCell (Below.setCell hs5 (by simp) _) (by simp) _) (by simp) _⟩
      · go_simp
        skip
        refine hK.out _ _ (hq.alloc _) (fun hHeld => ?_)
        clear hK K
        try simp only [Act.put, List.getElem_toArray, List.getElem_cons_succ, List.getElem_cons_zero, List.setIfInBounds_toArray, List.set_cons_zero, List.set_cons_succ]
        refine wpAnyH_ready (rs := [11]) (by kernel_rfl) (by simp) ?_
        refine AllReadyH.cons rfl (fun K hK => ?_) AllReadyH.nil
        go_simp
        refine (HAT.out _).mono ?_
        rintro e w2 ⟨rfl, hb2'⟩
        have hb2 : Since wr w2 := Since.trans (hq.alloc _) hb2'
        have hw := (Whole.new wq 35 #[.int .i64 0, .int .i64 0]).below hb2' (by simp)
        have y0 := hw.cell 0
        have x0 := hw.frozen 0
        have y1 := hw.cell 1
        have x1 := hw.frozen 1
        go_wp2_with fail
        refine hK.out _ _ (hb2) (fun hHeld => ?_)
        clear hK K
        try simp only [Act.put, List.getElem_toArray, List.getElem_cons_succ, List.getElem_cons_zero, List.setIfInBounds_toArray, List.set_cons_zero, List.set_cons_succ]
        refine wpAnyH_take (i := 12) (v := ?_) rfl (by kernel_rfl) (by kernel_rfl) (by kernel_rfl) (fun _ _ _ h => h) (Or.inl ⟨by rfl, ?_⟩) (by assumption) ?_
        rotate_left 1
        · (intro W hW; clear hW; go_simp; try with_reducible rfl)
        simp only [Act.put, List.getElem_toArray, List.getElem_cons_succ, List.getElem_cons_zero, List.setIfInBounds_toArray, List.set_cons_zero, List.set_cons_succ]
        refine wpAnyH_take (i := 13) (v := ?_) rfl (by kernel_rfl) (by kernel_rfl) (by kernel_rfl) (fun _ _ _ h => h) (Or.inl ⟨by rfl, ?_⟩) (by assumption) ?_
        rotate_left 1
        · (intro W hW; clear hW; go_simp; try with_reducible rfl)
        simp only [Act.put, List.getElem_toArray, List.getElem_cons_succ, List.getElem_cons_zero, List.setIfInBounds_toArray, List.set_cons_zero, List.set_cons_succ]
        refine wpAnyH_take (i := 14) (v := ?_) rfl (by kernel_rfl) (by kernel_rfl) (by kernel_rfl) (fun _ _ _ h => h) (Or.inl ⟨by rfl, ?_⟩) (by assumption) ?_
        rotate_left 1
        · (intro W hW; clear hW; go_simp; try with_reducible rfl)
        simp only [Act.put, List.getElem_toArray, List.getElem_cons_succ, List.getElem_cons_zero, List.setIfInBounds_toArray, List.set_cons_zero, List.set_cons_succ]
        refine wpAnyH_ready (rs := [16]) (by kernel_rfl) (by simp) ?_
        refine AllReadyH.cons rfl (fun K hK => ?_) AllReadyH.nil
        go_simp
        skip
        refine hK.out _ _ ((Since.setCell (Since.setCell hb2 (p := ⟨wq.heap.size, 0, none⟩) hq.size_ _) (p := ⟨wq.heap.size, 1, none⟩) hq.size_ _)) (fun hHeld => ?_)
        clear hK K
        try simp only [Act.put, List.getElem_toArray, List.getElem_cons_succ, List.getElem_cons_zero, List.setIfInBounds_toArray, List.set_cons_zero, List.set_cons_succ]
        refine wpAnyH_take (i := 17) (v := ?_) rfl (by kernel_rfl) (by kernel_rfl) (by kernel_rfl) (fun _ _ _ h => h) (Or.inl ⟨by rfl, ?_⟩) (by assumption) ?_
        rotate_left 1
        · (intro W hW; clear hW; go_simp; try with_reducible rfl)
        simp only [Act.put, List.getElem_toArray, List.getElem_cons_succ, List.getElem_cons_zero, List.setIfInBounds_toArray, List.set_cons_zero, List.set_cons_succ]
        refine wpAnyH_done (by kernel_rfl) ?_ _
        obtain ⟨w5, hw5⟩ : ∃ w5, w5 = ((w2.setCell ⟨wq.heap.size, 0, none⟩ (.int .i64 (2 * k))).setCell ⟨wq.heap.size, 1, none⟩ (.int .i64 AV)) := ⟨_, rfl⟩
        have hS5 : Since wr w5 := Since.named ((Since.setCell (Since.setCell hb2 (p := ⟨wq.heap.size, 0, none⟩) hq.size_ _) (p := ⟨wq.heap.size, 1, none⟩) hq.size_ _)) hw5
        have hN5 : Whole w5 wq.heap.size 35 #[.int .i64 (2 * k), .int .i64 AV] := (((hw.set_ 0 _).set_ 1 _)).named hw5
        clear hw hb2' x0 y0 x1 y1
        obtain ⟨NB, hNB⟩ : ∃ NB, NB = wq.heap.size := ⟨_, rfl⟩
        rw [← hw5, ← hNB]
        rw [← hNB] at hN5
        clear hHeld hb2 hw5 hNB hq
        have p0 := hN5.cell 0
        have p1 := hN5.cell 1
        have h05 := hbr.trans hS5
        go_wp2_with fail
        refine (HT.out _ h05).mono ?_
        rintro e w6 ⟨rfl, hb6⟩
        clear p0 p1
        have hr5 := Since.whole (hS5.trans (Since.alloc hb6 (.cells #[.int .i64 ed, .int .i64 eb] 35))) wr1
        have hs5 := (hs0.trans h05).trans (Since.alloc hb6 (.cells #[.int .i64 ed, .int .i64 eb] 35))
        have v0 := hr5.cell 0
        have v1 := hr5.cell 1
        have v2 := hr5.cell 2
        have z0 := hr5.frozen 0
        have z1 := hr5.frozen 1
        have z2 := hr5.frozen 2
        go_wp2_with fail
        have u := ((hr5.set_ 0 (.int .i64 0)).set_ 1 (.int .i64 0)).set_ 2 (.int .i64 0)
        have u0 := u.cell 0
        have u1 := u.cell 1
        have u2 := u.cell 2
        exact bodyPost_ret (v := tlV none) (by simp [results, Try.results13, go_sem, u0, u1, u2, tlV]) rfl ⟨rfl, Below.setCell (Below.setCell (Below.setCell hs5 (by simp) _) (by simp) _) (by simp) _⟩
    · rw [hr]
      have HT := Lib.hid ht2
      simp only [PT.v] at HT
      have hg2 := hnode g2 who rfl
      have hg2l := hg2.lt
      clear hr hB h hw hAV ht2 hn hnode
      obtain ⟨LN, hLN⟩ : ∃ n, n = (p.tr.tiles 0 0).length := ⟨_, rfl⟩
      rw [← hLN] at hbox
      clear hLN
      go_enter Try.func13, Try.ntmps13
      go_wp2_with fail
      rw [← HW.out]
      go_wp2_with (go_at_call 39; (with_reducible refine (Calls.since (by assumption) (HM.out _ (by assumption))).mono ?_); rintro e wr ⟨rfl, hbr⟩)
      have hbr1 := Since.whole (hs0.trans hbr) hbox
      have wr0 := Since.whole hbr wh0
      have wr1 := Since.whole hbr wh1
      have q0 := box_cell hbr1 0 (.int .i64 k) rfl
      have q1 := box_cell wr0 0 (.int .i64 x) rfl
      have q2 := box_cell wr0 1 (.int .i64 y) rfl
      have hsd : Since wr wr.drew := (Since.refl wr).drew
      clear c0_0 c0_1 c1_0 c1_1 c1_2 f1_0 f1_1 f1_2
      obtain ⟨wq, hwq⟩ : ∃ wq, wq = wr.drew := ⟨_, rfl⟩
      refine wp_region_held_drew (S := fun W => Since wr W) (by kernel_rfl) hsd (fun hHeld => ?_)
      rw [← hwq] at hHeld ⊢
      have hq : Since wr wq := hHeld
      clear hwq hsd
      refine wpAnyH_take (i := 0) (v := ?_) rfl (by kernel_rfl) (by kernel_rfl) (by kernel_rfl) (fun _ _ _ h => h) (Or.inl ⟨by rfl, ?_⟩) (by assumption) ?_
      rotate_left 1
      · (intro W hW; clear hW; go_simp; try with_reducible rfl)
      simp only [Act.put, List.getElem_toArray, List.getElem_cons_zero, List.setIfInBounds_toArray, List.set_cons_zero, List.set_cons_succ]
      refine wpAnyH_take (i := 1) (v := ?_) rfl (by kernel_rfl) (by kernel_rfl) (by kernel_rfl) (fun _ _ _ h => h) (Or.inl ⟨by rfl, ?_⟩) (by assumption) ?_
      rotate_left 1
      · (intro W hW; clear hW; go_simp; try with_reducible rfl)
      simp only [Act.put, List.getElem_toArray, List.getElem_cons_succ, List.getElem_cons_zero, List.setIfInBounds_toArray, List.set_cons_zero, List.set_cons_succ]
      refine wpAnyH_take (i := 2) (v := ?_) rfl (by kernel_rfl) (by kernel_rfl) (by kernel_rfl) (fun _ _ _ h => h) (Or.inl ⟨by rfl, ?_⟩) (by assumption) ?_
      rotate_left 1
      · (intro W hW; clear hW; go_simp; try with_reducible rfl)
      simp only [Act.put, List.getElem_toArray, List.getElem_cons_succ, List.getElem_cons_zero, List.setIfInBounds_toArray, List.set_cons_zero, List.set_cons_succ]
      refine wpAnyH_take (i := 3) (v := ?_) rfl (by kernel_rfl) (by kernel_rfl) (by kernel_rfl) (fun _ _ _ h => h) (Or.inl ⟨by rfl, ?_⟩) (by assumption) ?_
      rotate_left 1
      · (intro W hW; skip; go_simp; try with_reducible rfl)
      simp only [Act.put, List.getElem_toArray, List.getElem_cons_succ, List.getElem_cons_zero, List.setIfInBounds_toArray, List.set_cons_zero, List.set_cons_succ]
      refine wpAnyH_take (i := 4) (v := ?_) rfl (by kernel_rfl) (by kernel_rfl) (by kernel_rfl) (fun _ _ _ h => h) (Or.inl ⟨by rfl, ?_⟩) (by assumption) ?_
      rotate_left 1
      · (intro W hW; skip; go_simp; try with_reducible rfl)
      simp only [Act.put, List.getElem_toArray, List.getElem_cons_succ, List.getElem_cons_zero, List.setIfInBounds_toArray, List.set_cons_zero, List.set_cons_succ]
      refine wpAnyH_take (i := 5) (v := ?_) rfl (by kernel_rfl) (by kernel_rfl) (by kernel_rfl) (fun _ _ _ h => h) (Or.inl ⟨by rfl, ?_⟩) (by assumption) ?_
      rotate_left 1
      · (intro W hW; clear hW; go_simp; try with_reducible rfl)
      simp only [Act.put, List.getElem_toArray, List.getElem_cons_succ, List.getElem_cons_zero, List.setIfInBounds_toArray, List.set_cons_zero, List.set_cons_succ]
      refine wpAnyH_take (i := 6) (v := ?_) rfl (by kernel_rfl) (by kernel_rfl) (by kernel_rfl) (fun _ _ _ h => h) (Or.inl ⟨by rfl, ?_⟩) (by assumption) ?_
      rotate_left 1
      · (intro W hW; clear hW; go_simp; try with_reducible rfl)
      simp only [Act.put, List.getElem_toArray, List.getElem_cons_succ, List.getElem_cons_zero, List.setIfInBounds_toArray, List.set_cons_zero, List.set_cons_succ]
      refine wpAnyH_take (i := 7) (v := ?_) rfl (by kernel_rfl) (by kernel_rfl) (by kernel_rfl) (fun _ _ _ h => h) (Or.inl ⟨by rfl, ?_⟩) (by assumption) ?_
      rotate_left 1
      · (intro W hW; clear hW; go_simp; try with_reducible rfl)
      simp only [Act.put, List.getElem_toArray, List.getElem_cons_succ, List.getElem_cons_zero, List.setIfInBounds_toArray, List.set_cons_zero, List.set_cons_succ]
      refine wpAnyH_take (i := 8) (v := ?_) rfl (by kernel_rfl) (by kernel_rfl) (by kernel_rfl) (fun _ _ _ h => h) (Or.inl ⟨by rfl, ?_⟩) (by assumption) ?_
      rotate_left 1
      · (intro W hW; clear hW; go_simp; try with_reducible rfl)
      simp only [Act.put, List.getElem_toArray, List.getElem_cons_succ, List.getElem_cons_zero, List.setIfInBounds_toArray, List.set_cons_zero, List.set_cons_succ]
      refine wpAnyH_take (i := 9) (v := ?_) rfl (by kernel_rfl) (by kernel_rfl) (by kernel_rfl) (fun _ _ _ h => h) (Or.inl ⟨by rfl, ?_⟩) (by assumption) ?_
      rotate_left 1
      · (intro W hW; skip; go_simp; try with_reducible rfl)
      simp only [Act.put, List.getElem_toArray, List.getElem_cons_succ, List.getElem_cons_zero, List.setIfInBounds_toArray, List.set_cons_zero, List.set_cons_succ]
      refine wpAnyH_take (i := 10) (v := ?_) rfl (by kernel_rfl) (by kernel_rfl) (by kernel_rfl) (fun _ _ _ h => h) (Or.inl ⟨by rfl, ?_⟩) (by assumption) ?_
      rotate_left 1
      · (intro W hW; clear hW; go_simp; try with_reducible rfl)
      simp only [Act.put, List.getElem_toArray, List.getElem_cons_succ, List.getElem_cons_zero, List.setIfInBounds_toArray, List.set_cons_zero, List.set_cons_succ]
      refine wpAnyH_ready (rs := [11, 15]) (by kernel_rfl) (by simp) ?_
      refine AllReadyH.cons rfl (fun K hK => ?_) (AllReadyH.cons rfl (fun K hK => ?_) AllReadyH.nil)
      · go_simp
        refine (Calls.since hq (HAT.out _)).mono ?_
        rintro e w2 ⟨rfl, hb2⟩
        go_wp2_with fail
        refine hK.out _ _ (hb2) (fun hHeld => ?_)
        clear hK K
        try simp only [Act.put, List.getElem_toArray, List.getElem_cons_succ, List.getElem_cons_zero, List.setIfInBounds_toArray, List.set_cons_zero, List.set_cons_succ]
        refine wpAnyH_take (i := 12) (v := ?_) rfl (by kernel_rfl) (by kernel_rfl) (by kernel_rfl) (fun _ _ _ h => h) (Or.inl ⟨by rfl, ?_⟩) (by assumption) ?_
        rotate_left 1
        · (intro W hW; clear hW; go_simp; try with_reducible rfl)
        simp only [Act.put, List.getElem_toArray, List.getElem_cons_succ, List.getElem_cons_zero, List.setIfInBounds_toArray, List.set_cons_zero, List.set_cons_succ]
        refine wpAnyH_take (i := 13) (v := ?_) rfl (by kernel_rfl) (by kernel_rfl) (by kernel_rfl) (fun _ _ _ h => h) (Or.inl ⟨by rfl, ?_⟩) (by assumption) ?_
        rotate_left 1
        · (intro W hW; clear hW; go_simp; try with_reducible rfl)
        simp only [Act.put, List.getElem_toArray, List.getElem_cons_succ, List.getElem_cons_zero, List.setIfInBounds_toArray, List.set_cons_zero, List.set_cons_succ]
        refine wpAnyH_take (i := 14) (v := ?_) rfl (by kernel_rfl) (by kernel_rfl) (by kernel_rfl) (fun _ _ _ h => h) (Or.inl ⟨by rfl, ?_⟩) (by assumption) ?_
        rotate_left 1
        · (intro W hW; clear hW; go_simp; try with_reducible rfl)
        simp only [Act.put, List.getElem_toArray, List.getElem_cons_succ, List.getElem_cons_zero, List.setIfInBounds_toArray, List.set_cons_zero, List.set_cons_succ]
        refine wpAnyH_ready (rs := [15]) (by kernel_rfl) (by simp) ?_
        refine AllReadyH.cons rfl (fun K hK => ?_) AllReadyH.nil
        go_simp
        skip
        refine hK.out _ _ (hb2.alloc _) (fun hHeld => ?_)
        clear hK K
        try simp only [Act.put, List.getElem_toArray, List.getElem_cons_succ, List.getElem_cons_zero, List.setIfInBounds_toArray, List.set_cons_zero, List.set_cons_succ]
        refine wpAnyH_ready (rs := [16]) (by kernel_rfl) (by simp) ?_
        refine AllReadyH.cons rfl (fun K hK => ?_) AllReadyH.nil
        go_simp
        skip
        refine hK.out _ _ (hb2.alloc _) (fun hHeld => ?_)
        clear hK K
        try simp only [Act.put, List.getElem_toArray, List.getElem_cons_succ, List.getElem_cons_zero, List.setIfInBounds_toArray, List.set_cons_zero, List.set_cons_succ]
        refine wpAnyH_take (i := 17) (v := ?_) rfl (by kernel_rfl) (by kernel_rfl) (by kernel_rfl) (fun _ _ _ h => h) (Or.inl ⟨by rfl, ?_⟩) (by assumption) ?_
        rotate_left 1
        · (intro W hW; clear hW; go_simp; try with_reducible rfl)
        simp only [Act.put, List.getElem_toArray, List.getElem_cons_succ, List.getElem_cons_zero, List.setIfInBounds_toArray, List.set_cons_zero, List.set_cons_succ]
        refine wpAnyH_done (by kernel_rfl) ?_ _
        obtain ⟨w5, hw5⟩ : ∃ w5, w5 = w2.alloc (.cells #[.int .i64 (2 * k), .int .i64 AV] 35) := ⟨_, rfl⟩
        have hS5 : Since wr w5 := Since.named (hb2.alloc _) hw5
        have hN5 : Whole w5 w2.heap.size 35 #[.int .i64 (2 * k), .int .i64 AV] := (Whole.new w2 _ _).named hw5
        obtain ⟨NB, hNB⟩ : ∃ NB, NB = w2.heap.size := ⟨_, rfl⟩
        rw [← hw5, ← hNB]
        rw [← hNB] at hN5
        clear hHeld hb2 hw5 hNB hq
        have p0 := hN5.cell 0
        have p1 := hN5.cell 1
        have h05 := hbr.trans hS5
        go_wp2_with fail
        refine (HT.out _ h05).mono ?_
        rintro e w6 ⟨rfl, hb6⟩
        clear p0 p1
        go_wp2_with fail
        obtain ⟨w7, hw7⟩ : ∃ w7, w7 = w6.alloc (.cells #[.int .i64 ed, .int .i64 eb] 35) := ⟨_, rfl⟩
        have hb7 : Since w5 w7 := by rw [hw7]; exact Since.alloc hb6 _
        have hN7 : Whole w7 w6.heap.size 35 #[.int .i64 ed, .int .i64 eb] := by rw [hw7]; exact Whole.new w6 _ _
        have hs7 := (hs0.trans h05).trans hb7
        have hr5 := Since.whole (hS5.trans hb7) wr1
        rw [← hw7]
        clear hw7
        have hnr : w6.heap.size ≠ w.heap.size + 1 := by have := (hs0.trans h05).size_; have := Since.size_ hb6; have := (Since.whole hS5 wr1).lt; omega
        have e0 := but_cell hN7 (g := w.heap.size + 1) hnr 0 (.int .i64 ed) rfl
        have e1 := but_cell hN7 (g := w.heap.size + 1) hnr 1 (.int .i64 eb) rfl
        have hg27 := Since.whole hs7 hg2
        have e2 := but_cell hg27 (g := w.heap.size + 1) (by omega) 0 (.int .i64 who) rfl
        have v0 := hr5.cell 0
        have v1 := hr5.cell 1
        have v2 := hr5.cell 2
        have z0 := hr5.frozen 0
        have z1 := hr5.frozen 1
        have z2 := hr5.frozen 2
        have hsr7 := Since.refl w7
        go_region_held3 (fun W => But (w.heap.size + 1) w7 W) (first | assumption | exact Since.but (Since.drew (by assumption)) _ | exact Since.but (by assumption) _ | exact but_set3 (by assumption) _ _ _) ((first | fail))
        go_wp2_with fail
        have u := ((hr5.set_ 0 (.int .i64 ed)).set_ 1 (.int .i64 eb)).set_ 2 (.int .i64 who)
        have u0 := u.cell 0
        have u1 := u.cell 1
        have u2 := u.cell 2
        refine bodyPost_ret (v := tlV (some ⟨ed, eb, who⟩)) (by simp [results, Try.results13, go_sem, u0, u1, u2, tlV]) rfl ⟨rfl, ?_⟩
        first
          | exact Since.drew (Below.setCell (Below.setCell (Below.setCell hs7 (by simp) _) (by simp) _) (by simp) _)
          | exact Below.setCell (Below.setCell (Below.setCell (Since.drew hs7) (by simp) _) (by simp) _) (by simp) _
      · go_simp
        skip
        refine hK.out _ _ (hq.alloc _) (fun hHeld => ?_)
        clear hK K
        try simp only [Act.put, List.getElem_toArray, List.getElem_cons_succ, List.getElem_cons_zero, List.setIfInBounds_toArray, List.set_cons_zero, List.set_cons_succ]
        refine wpAnyH_ready (rs := [11]) (by kernel_rfl) (by simp) ?_
        refine AllReadyH.cons rfl (fun K hK => ?_) AllReadyH.nil
        go_simp
        refine (HAT.out _).mono ?_
        rintro e w2 ⟨rfl, hb2'⟩
        have hb2 : Since wr w2 := Since.trans (hq.alloc _) hb2'
        have hw := (Whole.new wq 35 #[.int .i64 0, .int .i64 0]).below hb2' (by simp)
        have y0 := hw.cell 0
        have x0 := hw.frozen 0
        have y1 := hw.cell 1
        have x1 := hw.frozen 1
        go_wp2_with fail
        refine hK.out _ _ (hb2) (fun hHeld => ?_)
        clear hK K
        try simp only [Act.put, List.getElem_toArray, List.getElem_cons_succ, List.getElem_cons_zero, List.setIfInBounds_toArray, List.set_cons_zero, List.set_cons_succ]
        refine wpAnyH_take (i := 12) (v := ?_) rfl (by kernel_rfl) (by kernel_rfl) (by kernel_rfl) (fun _ _ _ h => h) (Or.inl ⟨by rfl, ?_⟩) (by assumption) ?_
        rotate_left 1
        · (intro W hW; clear hW; go_simp; try with_reducible rfl)
        simp only [Act.put, List.getElem_toArray, List.getElem_cons_succ, List.getElem_cons_zero, List.setIfInBounds_toArray, List.set_cons_zero, List.set_cons_succ]
        refine wpAnyH_take (i := 13) (v := ?_) rfl (by kernel_rfl) (by kernel_rfl) (by kernel_rfl) (fun _ _ _ h => h) (Or.inl ⟨by rfl, ?_⟩) (by assumption) ?_
        rotate_left 1
        · (intro W hW; clear hW; go_simp; try with_reducible rfl)
        simp only [Act.put, List.getElem_toArray, List.getElem_cons_succ, List.getElem_cons_zero, List.setIfInBounds_toArray, List.set_cons_zero, List.set_cons_succ]
        refine wpAnyH_take (i := 14) (v := ?_) rfl (by kernel_rfl) (by kernel_rfl) (by kernel_rfl) (fun _ _ _ h => h) (Or.inl ⟨by rfl, ?_⟩) (by assumption) ?_
        rotate_left 1
        · (intro W hW; clear hW; go_simp; try with_reducible rfl)
        simp only [Act.put, List.getElem_toArray, List.getElem_cons_succ, List.getElem_cons_zero, List.setIfInBounds_toArray, List.set_cons_zero, List.set_cons_succ]
        refine wpAnyH_ready (rs := [16]) (by kernel_rfl) (by simp) ?_
        refine AllReadyH.cons rfl (fun K hK => ?_) AllReadyH.nil
        go_simp
        skip
        refine hK.out _ _ ((Since.setCell (Since.setCell hb2 (p := ⟨wq.heap.size, 0, none⟩) hq.size_ _) (p := ⟨wq.heap.size, 1, none⟩) hq.size_ _)) (fun hHeld => ?_)
        clear hK K
        try simp only [Act.put, List.getElem_toArray, List.getElem_cons_succ, List.getElem_cons_zero, List.setIfInBounds_toArray, List.set_cons_zero, List.set_cons_succ]
        refine wpAnyH_take (i := 17) (v := ?_) rfl (by kernel_rfl) (by kernel_rfl) (by kernel_rfl) (fun _ _ _ h => h) (Or.inl ⟨by rfl, ?_⟩) (by assumption) ?_
        rotate_left 1
        · (intro W hW; clear hW; go_simp; try with_reducible rfl)
        simp only [Act.put, List.getElem_toArray, List.getElem_cons_succ, List.getElem_cons_zero, List.setIfInBounds_toArray, List.set_cons_zero, List.set_cons_succ]
        refine wpAnyH_done (by kernel_rfl) ?_ _
        obtain ⟨w5, hw5⟩ : ∃ w5, w5 = ((w2.setCell ⟨wq.heap.size, 0, none⟩ (.int .i64 (2 * k))).setCell ⟨wq.heap.size, 1, none⟩ (.int .i64 AV)) := ⟨_, rfl⟩
        have hS5 : Since wr w5 := Since.named ((Since.setCell (Since.setCell hb2 (p := ⟨wq.heap.size, 0, none⟩) hq.size_ _) (p := ⟨wq.heap.size, 1, none⟩) hq.size_ _)) hw5
        have hN5 : Whole w5 wq.heap.size 35 #[.int .i64 (2 * k), .int .i64 AV] := (((hw.set_ 0 _).set_ 1 _)).named hw5
        clear hw hb2' x0 y0 x1 y1
        obtain ⟨NB, hNB⟩ : ∃ NB, NB = wq.heap.size := ⟨_, rfl⟩
        rw [← hw5, ← hNB]
        rw [← hNB] at hN5
        clear hHeld hb2 hw5 hNB hq
        have p0 := hN5.cell 0
        have p1 := hN5.cell 1
        have h05 := hbr.trans hS5
        go_wp2_with fail
        refine (HT.out _ h05).mono ?_
        rintro e w6 ⟨rfl, hb6⟩
        clear p0 p1
        go_wp2_with fail
        obtain ⟨w7, hw7⟩ : ∃ w7, w7 = w6.alloc (.cells #[.int .i64 ed, .int .i64 eb] 35) := ⟨_, rfl⟩
        have hb7 : Since w5 w7 := by rw [hw7]; exact Since.alloc hb6 _
        have hN7 : Whole w7 w6.heap.size 35 #[.int .i64 ed, .int .i64 eb] := by rw [hw7]; exact Whole.new w6 _ _
        have hs7 := (hs0.trans h05).trans hb7
        have hr5 := Since.whole (hS5.trans hb7) wr1
        rw [← hw7]
        clear hw7
        have hnr : w6.heap.size ≠ w.heap.size + 1 := by have := (hs0.trans h05).size_; have := Since.size_ hb6; have := (Since.whole hS5 wr1).lt; omega
        have e0 := but_cell hN7 (g := w.heap.size + 1) hnr 0 (.int .i64 ed) rfl
        have e1 := but_cell hN7 (g := w.heap.size + 1) hnr 1 (.int .i64 eb) rfl
        have hg27 := Since.whole hs7 hg2
        have e2 := but_cell hg27 (g := w.heap.size + 1) (by omega) 0 (.int .i64 who) rfl
        have v0 := hr5.cell 0
        have v1 := hr5.cell 1
        have v2 := hr5.cell 2
        have z0 := hr5.frozen 0
        have z1 := hr5.frozen 1
        have z2 := hr5.frozen 2
        have hsr7 := Since.refl w7
        go_region_held3 (fun W => But (w.heap.size + 1) w7 W) (first | assumption | exact Since.but (Since.drew (by assumption)) _ | exact Since.but (by assumption) _ | exact but_set3 (by assumption) _ _ _) ((first | fail))
        go_wp2_with fail
        have u := ((hr5.set_ 0 (.int .i64 ed)).set_ 1 (.int .i64 eb)).set_ 2 (.int .i64 who)
        have u0 := u.cell 0
        have u1 := u.cell 1
        have u2 := u.cell 2
        refine bodyPost_ret (v := tlV (some ⟨ed, eb, who⟩)) (by simp [results, Try.results13, go_sem, u0, u1, u2, tlV]) rfl ⟨rfl, ?_⟩
        first
          | exact Since.drew (Below.setCell (Below.setCell (Below.setCell hs7 (by simp) _) (by simp) _) (by simp) _)
          | exact Below.setCell (Below.setCell (Below.setCell (Since.drew hs7) (by simp) _) (by simp) _) (by simp) _
end Go.Proofs.Ytbbnojfecmocgaa
