/- tiling: made, the way towards a path. -/
import Derived.Test.YtbbnojfecmocgaaK07
import Derived.Test.YtbbnojfecmocgaaK24
namespace Go.Proofs.Ytbbnojfecmocgaa
open Go.RowKit
set_option linter.unusedVariables false
/-- A tiling of k: its block g, its tree p. -/
structure TilO (g : Nat) (p : PT) (k : Int) (W : World) : Prop where
  box : Whole W g 91 #[.int .i64 k, p.v, .int .i64 ((p.tr.tiles 0 0).length : Int)]
  at_ : p.At W
  norm : p.tr.norm
  nodup : (g :: p.bl).Nodup
  high : (p.tr.high : Int) ≤ 2 * k
  most : (p.tr.tiles 0 0).length ≤ 64
  right : rgt k = true
theorem TilO.keep {g : Nat} {p : PT} {k : Int} {W W' : World} (h : TilO g p k W) (hb : ∀ b ∈ g :: p.bl, W'.heap[b]? = W.heap[b]?) : TilO g p k W' :=
  ⟨(hb g List.mem_cons_self).trans h.box, h.at_.keep (fun b hx => hb b (List.mem_cons_of_mem _ hx)), h.norm, h.nodup, h.high, h.most, h.right⟩
theorem TilO.lt {g : Nat} {p : PT} {k : Int} {W : World} (h : TilO g p k W) : ∀ b ∈ g :: p.bl, b < W.heap.size := by
  intro b hb
  rcases List.mem_cons.1 hb with rfl | hb
  · exact h.box.lt
  · exact h.at_.lt b hb
theorem TilO.since {g : Nat} {p : PT} {k : Int} {W W' : World} (h : TilO g p k W) (hs : Since W W') : TilO g p k W' := h.keep (fun b hb => hs.block b (h.lt b hb))
theorem TilO.kb {g : Nat} {p : PT} {k : Int} {W : World} (h : TilO g p k W) : 1 ≤ k ∧ k ≤ 16 := (rgt_iff k).1 h.right
set_option maxRecDepth 100000 in
theorem made_yes {g : Nat} {p : PT} {k : Int} {W : World} (h : TilO g p k W) : Calls Try.prog 39 #[.pointer (some ⟨g, 0, none⟩)] W fun e w' => e = .returned (.bool true) ∧ Below W.heap.size W w' := by
  have h0 := h.box.cell 0
  have hk : (k == 0) = false := by have := h.kb; simp; omega
  go_enter Try.func39, Try.ntmps39
  go_wp2
  go_ret
  exact ⟨rfl, Below.refl _ _⟩
/-- The depth that a box holds. -/
def depN (W : World) (g : Nat) : Nat := match W.cell? ⟨g, 0, none⟩ with | some (.int _ d) => d.toNat | _ => 0
theorem depN_of {W : World} {g : Nat} {d b : Int} (h : Whole W g 35 #[.int .i64 d, .int .i64 b]) : depN W g = d.toNat := by unfold depN; rw [h.cell 0]; rfl
theorem abv_root {pd pb : Int} (hf : fine pd pb = true) : abvB 0 0 pd pb = true := (abvB_iff _ _ _ _).2 ⟨by decide, hf, ((fine_iff _ _).1 hf).1, pv_zero hf⟩
set_option maxRecDepth 100000 in
set_option maxHeartbeats 3200000 in
theorem toward_tow {g : Nat} {p : PT} {k : Int} {w : World} (h : TilO g p k w) (pd pb : Int) (hf : fine pd pb = true) {s : PT} {ed eb : Int} (hs : p.tow pd pb 0 0 = (s, ed, eb)) :
    Calls Try.prog 41 #[.pointer (some ⟨g, 0, none⟩), .agg #[.int .i64 pd, .int .i64 pb]] w fun e w' => e = .returned (.tuple #[s.v, .agg #[.int .i64 ed, .int .i64 eb]]) ∧ Below w.heap.size w w' := by
  have hz0 := h.box.lt
  have hh32 : p.tr.high ≤ 32 := by have := h.high; have := h.kb; omega
  obtain ⟨V0, hV0⟩ : ∃ V, p.v = V := ⟨_, rfl⟩
  have hbox := h.box
  rw [hV0] at hbox
  have cg : ∀ W, Since w W → W.cell? ⟨g, 1, none⟩ = some V0 := box_cell hbox 1 _ rfl
  have x1 := cg ((w.alloc (.cells #[.int .i64 pd, .int .i64 pb] 35)).alloc (.cells #[.int .i64 0, .int .i64 0] 35)) (((Since.refl w).alloc _).alloc _)
  go_enter Try.func41, Try.ntmps41
  go_wp2_with fail
  clear x1
  go_loopw [6] (fun n wr => ∃ (q : PT) (d b : Int), n = q.v ∧ q.At wr ∧ (∀ x ∈ q.bl, x < w.heap.size) ∧ q.tr.norm ∧ abvB d b pd pb = true ∧ 0 ≤ d ∧ d + q.tr.high ≤ 32 ∧ q.tow pd pb d b = (s, ed, eb) ∧ Whole wr w.heap.size 35 #[.int .i64 pd, .int .i64 pb] ∧ Whole wr (w.heap.size + 1) 35 #[.int .i64 0, .int .i64 0] ∧ Whole wr (w.heap.size + 2) 35 #[.int .i64 d, .int .i64 b] ∧ Since w wr) (fun _ wr => 33 - depN wr (w.heap.size + 2))
  case atStart =>
    have hs2 : Since w (((w.alloc (.cells #[.int .i64 pd, .int .i64 pb] 35)).alloc (.cells #[.int .i64 0, .int .i64 0] 35)).alloc (.cells #[.int .i64 0, .int .i64 0] 35)) := (((Since.refl w).alloc _).alloc _).alloc _
    exact ⟨p, 0, 0, hV0.symm, h.at_.since hs2, h.at_.lt, h.norm, abv_root hf, Int.le_refl _, by omega, hs, ((Whole.new w _ _).alloc _).alloc _, ((Whole.new (w.alloc _) _ _).at_ (by simp)).alloc _, (Whole.new ((w.alloc _).alloc _) _ _).at_ (by simp), hs2⟩
  case round =>
    have HTOP : True ∧ TilO g p k w := ⟨trivial, h⟩
    clear h hbox hV0 cg hs hh32
    obtain ⟨q, d, b, rfl, hq, hql0, hn, ha, hd0, hhq, htow, wp, wr1, wq, hsw⟩ := hrel
    have hle := abv_dle ha
    have a0 := wp.cell 0
    have a1 := wp.cell 1
    have b0 := wq.cell 0
    have b1 := wq.cell 1
    cases q with
    | gap =>
      obtain ⟨rfl, rfl, rfl⟩ : PT.gap = s ∧ d = ed ∧ b = eb := by simpa [PT.tow] using htow
      simp only [PT.v]
      go_wp2_with fail
      have c0 := but_cell wq (g := w.heap.size + 1) (by omega) 0 _ rfl
      have c1 := but_cell wq (g := w.heap.size + 1) (by omega) 1 _ rfl
      have hsr := Since.refl wr
      have y0 := wr1.cell 0
      have y1 := wr1.cell 1
      have y2 := wr1.frozen 0
      have y3 := wr1.frozen 1
      go_region_held3 (fun W => But (w.heap.size + 1) wr W) (first | assumption | exact Since.but (Since.drew (by assumption)) _ | exact Since.but (by assumption) _ | exact But.set2 (by assumption) _ _ _ _) ((first | fail))
      go_wp2_with fail
      have sx := wr1.set_ 0 (.int .i64 d)
      have g0 := sx.cell 0
      have g1 := (sx.set_ 1 (.int .i64 b)).cell 1
      exact bodyPost_ret (v := .tuple #[_, .agg #[.int .i64 d, .int .i64 b]]) (by simp [results, Try.results41, go_sem, g0, g1, PT.v]) rfl ⟨rfl, Below.setCell (Below.setCell (Since.drew hsw) (by simp) _) (by simp) _⟩
    | leaf g2 who =>
      obtain ⟨rfl, rfl, rfl⟩ : PT.leaf g2 who = s ∧ d = ed ∧ b = eb := by simpa [PT.tow] using htow
      have hl : Calls Try.prog 69 #[.pointer (some ⟨g2, 0, none⟩)] wr fun e w' => e = .returned (.bool true) ∧ Below wr.heap.size wr w' := isTile_any hq hn
      simp only [PT.v]
      go_wp2_with (go_at_call 69; (with_reducible refine hl.mono ?_); rintro e w1 ⟨rfl, hb1⟩)
      clear a0 a1 b0 b1
      replace wp := Since.whole hb1 wp
      replace wr1 := Since.whole hb1 wr1
      replace wq := Since.whole hb1 wq
      replace hsw := Since.trans hsw hb1
      clear hl hb1 hq
      obtain ⟨wr, rfl⟩ : ∃ x, x = w1 := ⟨_, rfl⟩
      have c0 := but_cell wq (g := w.heap.size + 1) (by omega) 0 _ rfl
      have c1 := but_cell wq (g := w.heap.size + 1) (by omega) 1 _ rfl
      have hsr := Since.refl wr
      have y0 := wr1.cell 0
      have y1 := wr1.cell 1
      have y2 := wr1.frozen 0
      have y3 := wr1.frozen 1
      go_region_held3 (fun W => But (w.heap.size + 1) wr W) (first | assumption | exact Since.but (Since.drew (by assumption)) _ | exact Since.but (by assumption) _ | exact But.set2 (by assumption) _ _ _ _) ((first | fail))
      go_wp2_with fail
      have sx := wr1.set_ 0 (.int .i64 d)
      have g0 := sx.cell 0
      have g1 := (sx.set_ 1 (.int .i64 b)).cell 1
      exact bodyPost_ret (v := .tuple #[_, .agg #[.int .i64 d, .int .i64 b]]) (by simp [results, Try.results41, go_sem, g0, g1, PT.v]) rfl ⟨rfl, Below.setCell (Below.setCell (Since.drew hsw) (by simp) _) (by simp) _⟩
    | node g2 z l r =>
      have hl : Calls Try.prog 69 #[.pointer (some ⟨g2, 0, none⟩)] wr fun e w' => e = .returned (.bool false) ∧ Below wr.heap.size wr w' := isTile_any hq hn
      have hq0 := hq
      obtain ⟨hg2, hql, hqr⟩ := hq
      by_cases ed0 : d = pd
      · obtain ⟨rfl, rfl, rfl⟩ : PT.node g2 z l r = s ∧ d = ed ∧ b = eb := by
          unfold PT.tow at htow
          rw [if_pos ed0] at htow
          simpa using htow
        have eb0 := abv_eq ha ed0
        subst eb0; subst ed0
        simp only [PT.v]
        go_wp2_with (go_at_call 69; (with_reducible refine hl.mono ?_); rintro e w1 ⟨rfl, hb1⟩; have a0' := (Since.whole hb1 wp).cell 0; have a1' := (Since.whole hb1 wp).cell 1; have b0' := (Since.whole hb1 wq).cell 0; have b1' := (Since.whole hb1 wq).cell 1)
        clear a0 a1 b0 b1 a0' a1' b0' b1'
        replace wp := Since.whole hb1 wp
        replace wr1 := Since.whole hb1 wr1
        replace wq := Since.whole hb1 wq
        replace hsw := Since.trans hsw hb1
        clear hl hb1 hq0 hg2 hql hqr
        obtain ⟨wr, rfl⟩ : ∃ x, x = w1 := ⟨_, rfl⟩
        have c0 := but_cell wq (g := w.heap.size + 1) (by omega) 0 _ rfl
        have c1 := but_cell wq (g := w.heap.size + 1) (by omega) 1 _ rfl
        have hsr := Since.refl wr
        have y0 := wr1.cell 0
        have y1 := wr1.cell 1
        have y2 := wr1.frozen 0
        have y3 := wr1.frozen 1
        go_region_held3 (fun W => But (w.heap.size + 1) wr W) (first | assumption | exact Since.but (Since.drew (by assumption)) _ | exact Since.but (by assumption) _ | exact But.set2 (by assumption) _ _ _ _) ((first | fail))
        go_wp2_with fail
        have sx := wr1.set_ 0 (.int .i64 d)
        have g0 := sx.cell 0
        have g1 := (sx.set_ 1 (.int .i64 b)).cell 1
        exact bodyPost_ret (v := .tuple #[_, .agg #[.int .i64 d, .int .i64 b]]) (by simp [results, Try.results41, go_sem, g0, g1, PT.v]) rfl ⟨rfl, Below.setCell (Below.setCell (Since.drew hsw) (by simp) _) (by simp) _⟩
      · have hlt : d < pd := by omega
        have hfd := abv_fine ha
        have h32 := abv_32 ha hlt
        have hne1 : (d == pd) = false := by simp; exact ed0
        rcases bit_two ha hlt with hb | hb
        · have hc1 := abv_0 ha hlt hb
          skip
          clear ha
          simp only [PT.v]
          go_wp2_with (first | (go_at_call 69; (with_reducible refine hl.mono ?_); clear hl; rintro e w1 ⟨rfl, hb1⟩; have a0' := (Since.whole hb1 wp).cell 0; have a1' := (Since.whole hb1 wp).cell 1; have b0' := (Since.whole hb1 wq).cell 0; have b1' := (Since.whole hb1 wq).cell 1) | (go_at_call 76; (with_reducible refine (bit_at hb _).mono ?_); rintro e w2 ⟨rfl, hb2⟩))
          clear a0 a1 b0 b1 a0' a1' b0' b1'
          have h12 := Since.trans hb1 hb2
          clear hb1 hb2
          have wq2 := Since.whole h12 wq
          have wg2 := Since.whole h12 hg2
          have hgne : g2 ≠ w.heap.size + 2 := by have := hql0 g2 List.mem_cons_self; omega
          obtain ⟨V, hV⟩ : ∃ V, l.v = V := ⟨_, rfl⟩
          have k0 := but_cell wg2 hgne 1 l.v rfl
          rw [hV] at k0
          obtain ⟨wd, hwd⟩ : ∃ wd, wd = w2.drew := ⟨_, rfl⟩
          have hqs : Since w2 wd := by rw [hwd]; exact (Since.refl w2).drew
          refine wp_region_held_drew (S := fun W => But (w.heap.size + 2) w2 W) (by kernel_rfl) (Since.but ((Since.refl w2).drew) _) (fun hHeld => ?_)
          rw [← hwd] at hHeld ⊢
          have wqd := Since.whole hqs wq2
          have m0 := wqd.cell 0
          have m1 := wqd.cell 1
          clear hwd
          refine wpAnyH_take (i := 0) (v := ?_) rfl (by kernel_rfl) (by kernel_rfl) (by kernel_rfl) (fun _ _ _ h => h) (Or.inl ⟨by rfl, ?_⟩) (by assumption) ?_
          rotate_left 1
          · (intro W hW; clear hW; go_simp; try with_reducible rfl)
          simp only [Act.put, List.getElem_toArray, List.getElem_cons_zero, List.setIfInBounds_toArray, List.set_cons_zero, List.set_cons_succ]
          refine wpAnyH_take (i := 1) (v := ?_) rfl (by kernel_rfl) (by kernel_rfl) (by kernel_rfl) (fun _ _ _ h => h) (Or.inl ⟨by rfl, ?_⟩) (by assumption) ?_
          rotate_left 1
          · (intro W hW; clear hW; go_simp; try with_reducible rfl)
          simp only [Act.put, List.getElem_toArray, List.getElem_cons_succ, List.getElem_cons_zero, List.setIfInBounds_toArray, List.set_cons_zero, List.set_cons_succ]
          refine wpAnyH_take (i := 2) (v := ?_) rfl (by kernel_rfl) (by kernel_rfl) (by kernel_rfl) (fun _ _ _ h => h) (Or.inl ⟨by rfl, ?_⟩) (by assumption) ?_
          rotate_left 1
          · (intro W hW; clear hW; go_simp; try with_reducible rfl)
          simp only [Act.put, List.getElem_toArray, List.getElem_cons_succ, List.getElem_cons_zero, List.setIfInBounds_toArray, List.set_cons_zero, List.set_cons_succ]
          refine wpAnyH_take (i := 3) (v := ?_) rfl (by kernel_rfl) (by kernel_rfl) (by kernel_rfl) (fun _ _ _ h => h) (Or.inl ⟨by rfl, ?_⟩) (by assumption) ?_
          rotate_left 1
          · (intro W hW; clear hW; go_simp; try with_reducible rfl)
          simp only [Act.put, List.getElem_toArray, List.getElem_cons_succ, List.getElem_cons_zero, List.setIfInBounds_toArray, List.set_cons_zero, List.set_cons_succ]
          refine wpAnyH_take (i := 4) (v := ?_) rfl (by kernel_rfl) (by kernel_rfl) (by kernel_rfl) (fun _ _ _ h => h) (Or.inl ⟨by rfl, ?_⟩) (by assumption) ?_
          rotate_left 1
          · (intro W hW; clear hW; go_simp; try with_reducible rfl)
          simp only [Act.put, List.getElem_toArray, List.getElem_cons_succ, List.getElem_cons_zero, List.setIfInBounds_toArray, List.set_cons_zero, List.set_cons_succ]
          refine wpAnyH_take (i := 5) (v := ?_) rfl (by kernel_rfl) (by kernel_rfl) (by kernel_rfl) (fun _ _ _ h => h) (Or.inl ⟨by rfl, ?_⟩) (by assumption) ?_
          rotate_left 1
          · (intro W hW; skip; go_simp; try with_reducible rfl)
          simp only [Act.put, List.getElem_toArray, List.getElem_cons_succ, List.getElem_cons_zero, List.setIfInBounds_toArray, List.set_cons_zero, List.set_cons_succ]
          refine wpAnyH_take (i := 7) (v := ?_) rfl (by kernel_rfl) (by kernel_rfl) (by kernel_rfl) (fun _ _ _ h => h) (Or.inl ⟨by rfl, ?_⟩) (by assumption) ?_
          rotate_left 1
          · (intro W hW; clear hW; go_simp; try with_reducible rfl)
          simp only [Act.put, List.getElem_toArray, List.getElem_cons_succ, List.getElem_cons_zero, List.setIfInBounds_toArray, List.set_cons_zero, List.set_cons_succ]
          refine wpAnyH_ready (rs := [6]) (by kernel_rfl) (by simp) ?_
          refine AllReadyH.cons rfl (fun K hK => ?_) AllReadyH.nil
          go_simp
          skip
          refine hK.out _ _ (hHeld) (fun hHeld => ?_)
          clear hK K
          try simp only [Act.put, List.getElem_toArray, List.getElem_cons_succ, List.getElem_cons_zero, List.setIfInBounds_toArray, List.set_cons_zero, List.set_cons_succ]
          refine wpAnyH_ready (rs := [8]) (by kernel_rfl) (by simp) ?_
          refine AllReadyH.cons rfl (fun K hK => ?_) AllReadyH.nil
          go_simp
          refine (tchild_at (d := d) (b := b) (h := 0) (D := d + 1) (B := 2 * b) wd hfd h32 (by decide) (by decide) rfl (by omega)).mono ?_
          rintro e w5 ⟨rfl, hb5⟩
          have wq5 := Since.whole hb5 wqd
          have z0 := wq5.cell 0
          have z1 := wq5.cell 1
          have z2 := wq5.frozen 0
          have z3 := wq5.frozen 1
          go_wp2_with fail
          refine hK.out _ _ (Since.but (hqs.trans hb5) _) (fun hHeld => ?_)
          clear hK K
          try simp only [Act.put, List.getElem_toArray, List.getElem_cons_succ, List.getElem_cons_zero, List.setIfInBounds_toArray, List.set_cons_zero, List.set_cons_succ]
          refine wpAnyH_take (i := 9) (v := ?_) rfl (by kernel_rfl) (by kernel_rfl) (by kernel_rfl) (fun _ _ _ h => h) (Or.inl ⟨by rfl, ?_⟩) (by assumption) ?_
          rotate_left 1
          · (intro W hW; clear hW; go_simp; try with_reducible rfl)
          simp only [Act.put, List.getElem_toArray, List.getElem_cons_succ, List.getElem_cons_zero, List.setIfInBounds_toArray, List.set_cons_zero, List.set_cons_succ]
          refine wpAnyH_ready (rs := [10]) (by kernel_rfl) (by simp) ?_
          refine AllReadyH.cons rfl (fun K hK => ?_) AllReadyH.nil
          go_simp
          skip
          refine hK.out _ _ (But.set2 (hqs.trans hb5) _ _ _ _) (fun hHeld => ?_)
          clear hK K
          try simp only [Act.put, List.getElem_toArray, List.getElem_cons_succ, List.getElem_cons_zero, List.setIfInBounds_toArray, List.set_cons_zero, List.set_cons_succ]
          refine wpAnyH_done (by kernel_rfl) ?_ _
          go_wp2_with fail
          go_roundw
          case rel =>
            have hs5 : Since wr w5 := h12.trans (hqs.trans hb5)
            have hq5 : l.At ((w5.setCell ⟨w.heap.size + 2, 0, none⟩ (.int .i64 (d + 1))).setCell ⟨w.heap.size + 2, 1, none⟩ (.int .i64 (2 * b))) := (hql.since hs5).keep (fun x hx => heap_set2 _ _ _ _ _ (by have := hql0 x (List.mem_cons_of_mem _ (List.mem_append.2 (.inl hx))); omega))
            exact ⟨l, d + 1, _, hV.symm, hq5, fun x hx => hql0 x (List.mem_cons_of_mem _ (List.mem_append.2 (.inl hx))), hn.2.1, hc1, by omega, by simp only [PT.tr, Tr.high] at hhq; omega, by rw [← htow, PT.tow, if_neg ed0, if_pos hb], ((Since.whole hs5 wp).far (p := ⟨w.heap.size + 2, 0, none⟩) (by simp; try omega) _).far (p := ⟨w.heap.size + 2, 1, none⟩) (by simp; try omega) _, ((Since.whole hs5 wr1).far (p := ⟨w.heap.size + 2, 0, none⟩) (by simp; try omega) _).far (p := ⟨w.heap.size + 2, 1, none⟩) (by simp; try omega) _, (wq5.set_ 0 _).set_ 1 _, Below.setCell (Below.setCell (hsw.trans hs5) (by simp; try omega) _) (by simp; try omega) _⟩
          case measure => rw [depN_of ((wq5.set_ 0 (.int .i64 (d + 1))).set_ 1 (.int .i64 _)), depN_of wq]; omega
        · have hc1 := abv_1 ha hlt hb
          skip
          clear ha
          simp only [PT.v]
          go_wp2_with (first | (go_at_call 69; (with_reducible refine hl.mono ?_); clear hl; rintro e w1 ⟨rfl, hb1⟩; have a0' := (Since.whole hb1 wp).cell 0; have a1' := (Since.whole hb1 wp).cell 1; have b0' := (Since.whole hb1 wq).cell 0; have b1' := (Since.whole hb1 wq).cell 1) | (go_at_call 76; (with_reducible refine (bit_at hb _).mono ?_); rintro e w2 ⟨rfl, hb2⟩))
          clear a0 a1 b0 b1 a0' a1' b0' b1'
          have h12 := Since.trans hb1 hb2
          clear hb1 hb2
          have wq2 := Since.whole h12 wq
          have wg2 := Since.whole h12 hg2
          have hgne : g2 ≠ w.heap.size + 2 := by have := hql0 g2 List.mem_cons_self; omega
          obtain ⟨V, hV⟩ : ∃ V, r.v = V := ⟨_, rfl⟩
          have k0 := but_cell wg2 hgne 2 r.v rfl
          rw [hV] at k0
          obtain ⟨wd, hwd⟩ : ∃ wd, wd = w2.drew := ⟨_, rfl⟩
          have hqs : Since w2 wd := by rw [hwd]; exact (Since.refl w2).drew
          refine wp_region_held_drew (S := fun W => But (w.heap.size + 2) w2 W) (by kernel_rfl) (Since.but ((Since.refl w2).drew) _) (fun hHeld => ?_)
          rw [← hwd] at hHeld ⊢
          have wqd := Since.whole hqs wq2
          have m0 := wqd.cell 0
          have m1 := wqd.cell 1
          clear hwd
          refine wpAnyH_take (i := 0) (v := ?_) rfl (by kernel_rfl) (by kernel_rfl) (by kernel_rfl) (fun _ _ _ h => h) (Or.inl ⟨by rfl, ?_⟩) (by assumption) ?_
          rotate_left 1
          · (intro W hW; clear hW; go_simp; try with_reducible rfl)
          simp only [Act.put, List.getElem_toArray, List.getElem_cons_zero, List.setIfInBounds_toArray, List.set_cons_zero, List.set_cons_succ]
          refine wpAnyH_take (i := 1) (v := ?_) rfl (by kernel_rfl) (by kernel_rfl) (by kernel_rfl) (fun _ _ _ h => h) (Or.inl ⟨by rfl, ?_⟩) (by assumption) ?_
          rotate_left 1
          · (intro W hW; clear hW; go_simp; try with_reducible rfl)
          simp only [Act.put, List.getElem_toArray, List.getElem_cons_succ, List.getElem_cons_zero, List.setIfInBounds_toArray, List.set_cons_zero, List.set_cons_succ]
          refine wpAnyH_take (i := 2) (v := ?_) rfl (by kernel_rfl) (by kernel_rfl) (by kernel_rfl) (fun _ _ _ h => h) (Or.inl ⟨by rfl, ?_⟩) (by assumption) ?_
          rotate_left 1
          · (intro W hW; clear hW; go_simp; try with_reducible rfl)
          simp only [Act.put, List.getElem_toArray, List.getElem_cons_succ, List.getElem_cons_zero, List.setIfInBounds_toArray, List.set_cons_zero, List.set_cons_succ]
          refine wpAnyH_take (i := 3) (v := ?_) rfl (by kernel_rfl) (by kernel_rfl) (by kernel_rfl) (fun _ _ _ h => h) (Or.inl ⟨by rfl, ?_⟩) (by assumption) ?_
          rotate_left 1
          · (intro W hW; clear hW; go_simp; try with_reducible rfl)
          simp only [Act.put, List.getElem_toArray, List.getElem_cons_succ, List.getElem_cons_zero, List.setIfInBounds_toArray, List.set_cons_zero, List.set_cons_succ]
          refine wpAnyH_take (i := 4) (v := ?_) rfl (by kernel_rfl) (by kernel_rfl) (by kernel_rfl) (fun _ _ _ h => h) (Or.inl ⟨by rfl, ?_⟩) (by assumption) ?_
          rotate_left 1
          · (intro W hW; clear hW; go_simp; try with_reducible rfl)
          simp only [Act.put, List.getElem_toArray, List.getElem_cons_succ, List.getElem_cons_zero, List.setIfInBounds_toArray, List.set_cons_zero, List.set_cons_succ]
          refine wpAnyH_take (i := 5) (v := ?_) rfl (by kernel_rfl) (by kernel_rfl) (by kernel_rfl) (fun _ _ _ h => h) (Or.inl ⟨by rfl, ?_⟩) (by assumption) ?_
          rotate_left 1
          · (intro W hW; skip; go_simp; try with_reducible rfl)
          simp only [Act.put, List.getElem_toArray, List.getElem_cons_succ, List.getElem_cons_zero, List.setIfInBounds_toArray, List.set_cons_zero, List.set_cons_succ]
          refine wpAnyH_take (i := 7) (v := ?_) rfl (by kernel_rfl) (by kernel_rfl) (by kernel_rfl) (fun _ _ _ h => h) (Or.inl ⟨by rfl, ?_⟩) (by assumption) ?_
          rotate_left 1
          · (intro W hW; clear hW; go_simp; try with_reducible rfl)
          simp only [Act.put, List.getElem_toArray, List.getElem_cons_succ, List.getElem_cons_zero, List.setIfInBounds_toArray, List.set_cons_zero, List.set_cons_succ]
          refine wpAnyH_ready (rs := [6]) (by kernel_rfl) (by simp) ?_
          refine AllReadyH.cons rfl (fun K hK => ?_) AllReadyH.nil
          go_simp
          skip
          refine hK.out _ _ (hHeld) (fun hHeld => ?_)
          clear hK K
          try simp only [Act.put, List.getElem_toArray, List.getElem_cons_succ, List.getElem_cons_zero, List.setIfInBounds_toArray, List.set_cons_zero, List.set_cons_succ]
          refine wpAnyH_ready (rs := [8]) (by kernel_rfl) (by simp) ?_
          refine AllReadyH.cons rfl (fun K hK => ?_) AllReadyH.nil
          go_simp
          refine (tchild_at (d := d) (b := b) (h := 1) (D := d + 1) (B := 2 * b + 1) wd hfd h32 (by decide) (by decide) rfl (by omega)).mono ?_
          rintro e w5 ⟨rfl, hb5⟩
          have wq5 := Since.whole hb5 wqd
          have z0 := wq5.cell 0
          have z1 := wq5.cell 1
          have z2 := wq5.frozen 0
          have z3 := wq5.frozen 1
          go_wp2_with fail
          refine hK.out _ _ (Since.but (hqs.trans hb5) _) (fun hHeld => ?_)
          clear hK K
          try simp only [Act.put, List.getElem_toArray, List.getElem_cons_succ, List.getElem_cons_zero, List.setIfInBounds_toArray, List.set_cons_zero, List.set_cons_succ]
          refine wpAnyH_take (i := 9) (v := ?_) rfl (by kernel_rfl) (by kernel_rfl) (by kernel_rfl) (fun _ _ _ h => h) (Or.inl ⟨by rfl, ?_⟩) (by assumption) ?_
          rotate_left 1
          · (intro W hW; clear hW; go_simp; try with_reducible rfl)
          simp only [Act.put, List.getElem_toArray, List.getElem_cons_succ, List.getElem_cons_zero, List.setIfInBounds_toArray, List.set_cons_zero, List.set_cons_succ]
          refine wpAnyH_ready (rs := [10]) (by kernel_rfl) (by simp) ?_
          refine AllReadyH.cons rfl (fun K hK => ?_) AllReadyH.nil
          go_simp
          skip
          refine hK.out _ _ (But.set2 (hqs.trans hb5) _ _ _ _) (fun hHeld => ?_)
          clear hK K
          try simp only [Act.put, List.getElem_toArray, List.getElem_cons_succ, List.getElem_cons_zero, List.setIfInBounds_toArray, List.set_cons_zero, List.set_cons_succ]
          refine wpAnyH_done (by kernel_rfl) ?_ _
          go_wp2_with fail
          go_roundw
          case rel =>
            have hs5 : Since wr w5 := h12.trans (hqs.trans hb5)
            have hq5 : r.At ((w5.setCell ⟨w.heap.size + 2, 0, none⟩ (.int .i64 (d + 1))).setCell ⟨w.heap.size + 2, 1, none⟩ (.int .i64 (2 * b + 1))) := (hqr.since hs5).keep (fun x hx => heap_set2 _ _ _ _ _ (by have := hql0 x (List.mem_cons_of_mem _ (List.mem_append.2 (.inr hx))); omega))
            exact ⟨r, d + 1, _, hV.symm, hq5, fun x hx => hql0 x (List.mem_cons_of_mem _ (List.mem_append.2 (.inr hx))), hn.2.2, hc1, by omega, by simp only [PT.tr, Tr.high] at hhq; omega, by rw [← htow, PT.tow, if_neg ed0, if_neg (by omega)], ((Since.whole hs5 wp).far (p := ⟨w.heap.size + 2, 0, none⟩) (by simp; try omega) _).far (p := ⟨w.heap.size + 2, 1, none⟩) (by simp; try omega) _, ((Since.whole hs5 wr1).far (p := ⟨w.heap.size + 2, 0, none⟩) (by simp; try omega) _).far (p := ⟨w.heap.size + 2, 1, none⟩) (by simp; try omega) _, (wq5.set_ 0 _).set_ 1 _, Below.setCell (Below.setCell (hsw.trans hs5) (by simp; try omega) _) (by simp; try omega) _⟩
          case measure => rw [depN_of ((wq5.set_ 0 (.int .i64 (d + 1))).set_ 1 (.int .i64 _)), depN_of wq]; omega
end Go.Proofs.Ytbbnojfecmocgaa
