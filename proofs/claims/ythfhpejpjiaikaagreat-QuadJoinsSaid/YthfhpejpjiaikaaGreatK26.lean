/- gleberef08, the document's tree: a list of records in order; Has (of gleberef04), has, find. -/
import Derived.Test.YthfhpejpjiaikaaGreatK05
import Derived.Test.YthfhpejpjiaikaaGreatK07
import Derived.Test.YthfhpejpjiaikaaGreatK09
import Derived.Test.YthfhpejpjiaikaaGreatK10
import Derived.Test.YthfhpejpjiaikaaGreatK13
import Derived.Test.YthfhpejpjiaikaaGreatK14
import Derived.Test.YthfhpejpjiaikaaGreatK25
namespace Go.Proofs.YthfhpejpjiaikaaGreat
open Go.RowKit
attribute [local go_sem] Oper.semAt_some
set_option linter.unusedVariables false
set_option linter.unusedSimpArgs false
set_option maxHeartbeats 3200000 in
theorem dHas4_any (a b c d x y : Int) (w : World) : Calls Tryz.prog 91 #[.agg #[.int .i64 a, .int .i64 b, .int .i64 c, .int .i64 d], .agg #[.int .i64 x, .int .i64 y]] w fun e w' => e = .returned (.bool (hasR ⟨a, b, c, d⟩ x y)) ∧ Below w.heap.size w w' := by
  obtain ⟨w0, hw0⟩ : ∃ w0, w0 = (w.alloc (.cells #[.int .i64 a, .int .i64 b, .int .i64 c, .int .i64 d] 112)).alloc (.cells #[.int .i64 x, .int .i64 y] 50) := ⟨_, rfl⟩
  have hs0 : Since w w0 := by rw [hw0]; exact ((Since.refl w).alloc _).alloc _
  have wh0 : Whole w0 (w.heap.size) 112 #[.int .i64 a, .int .i64 b, .int .i64 c, .int .i64 d] := by rw [hw0]; exact (Whole.new w _ _).alloc _
  have wh1 : Whole w0 (w.heap.size + 1) 50 #[.int .i64 x, .int .i64 y] := by rw [hw0]; exact (Whole.new (w.alloc _) _ _).at_ (by simp)
  have HW := Lib.hid hw0
  have c0_0 := box_cell wh0 0 (.int .i64 a) rfl
  have c0_1 := box_cell wh0 1 (.int .i64 b) rfl
  have c0_2 := box_cell wh0 2 (.int .i64 c) rfl
  have c0_3 := box_cell wh0 3 (.int .i64 d) rfl
  have c1_0 := box_cell wh1 0 (.int .i64 x) rfl
  have c1_1 := box_cell wh1 1 (.int .i64 y) rfl
  have hsr := Since.refl w0
  have hsd := hsr.drew
  clear hw0 wh0 wh1
  cases h : fineR ⟨a, b, c, d⟩
  · rw [show hasR ⟨a, b, c, d⟩ x y = false by unfold hasR; rw [h]; rfl]
    have HF := Lib.hid h
    clear h
    go_enter Tryz.func91, Tryz.ntmps91
    go_wp2_with fail
    rw [← HW.out]
    go_wp2_with (go_at_call 111; (with_reducible refine (Calls.since (by assumption) (wrFine_at HF.out _)).mono ?_); rintro e w' ⟨rfl, hb⟩)
    go_ret
    first | exact ⟨rfl, hs0.trans hb⟩ | exact ⟨ret_bool (decide_eq_false (by omega)), hs0.trans hb⟩ | exact ⟨ret_bool (decide_eq_true (by omega)), hs0.trans hb⟩
  · have h1 := (fineR_iff _).1 h
    dsimp only at h1
    have e1 : wrap64 (a + c) = a + c := IntWalk.wrap64_in _ ⟨by omega, by omega⟩
    have e2 : wrap64 (b + d) = b + d := IntWalk.wrap64_in _ ⟨by omega, by omega⟩
    have hh : hasR ⟨a, b, c, d⟩ x y = decide (a ≤ x ∧ x < a + c ∧ b ≤ y ∧ y < b + d) := by unfold hasR; rw [h]; rfl
    rw [hh]
    have HF := Lib.hid h
    clear h hh h1
    by_cases h0 : a ≤ x
    rotate_left
    · rw [decide_eq_false (fun z => h0 z.1)]
      go_enter Tryz.func91, Tryz.ntmps91
      go_wp2_with fail
      rw [← HW.out]
      go_wp2_with (go_at_call 111; (with_reducible refine (Calls.since (by assumption) (wrFine_at HF.out _)).mono ?_); rintro e w' ⟨rfl, hb⟩)
      go_ret
      first | exact ⟨rfl, hs0.trans hb⟩ | exact ⟨ret_bool (decide_eq_false (by omega)), hs0.trans hb⟩ | exact ⟨ret_bool (decide_eq_true (by omega)), hs0.trans hb⟩
    by_cases h1 : x < a + c
    rotate_left
    · rw [decide_eq_false (fun z => h1 z.2.1)]
      go_enter Tryz.func91, Tryz.ntmps91
      go_wp2_with fail
      rw [← HW.out]
      go_wp2_with (go_at_call 111; (with_reducible refine (Calls.since (by assumption) (wrFine_at HF.out _)).mono ?_); rintro e w' ⟨rfl, hb⟩)
      go_ret
      first | exact ⟨rfl, hs0.trans hb⟩ | exact ⟨ret_bool (decide_eq_false (by omega)), hs0.trans hb⟩ | exact ⟨ret_bool (decide_eq_true (by omega)), hs0.trans hb⟩
    by_cases h2 : b ≤ y
    rotate_left
    · rw [decide_eq_false (fun z => h2 z.2.2.1)]
      go_enter Tryz.func91, Tryz.ntmps91
      go_wp2_with fail
      rw [← HW.out]
      go_wp2_with (go_at_call 111; (with_reducible refine (Calls.since (by assumption) (wrFine_at HF.out _)).mono ?_); rintro e w' ⟨rfl, hb⟩)
      go_ret
      first | exact ⟨rfl, hs0.trans hb⟩ | exact ⟨ret_bool (decide_eq_false (by omega)), hs0.trans hb⟩ | exact ⟨ret_bool (decide_eq_true (by omega)), hs0.trans hb⟩
    by_cases h3 : y < b + d
    rotate_left
    · rw [decide_eq_false (fun z => h3 z.2.2.2)]
      go_enter Tryz.func91, Tryz.ntmps91
      go_wp2_with fail
      rw [← HW.out]
      go_wp2_with (go_at_call 111; (with_reducible refine (Calls.since (by assumption) (wrFine_at HF.out _)).mono ?_); rintro e w' ⟨rfl, hb⟩)
      go_ret
      first | exact ⟨rfl, hs0.trans hb⟩ | exact ⟨ret_bool (decide_eq_false (by omega)), hs0.trans hb⟩ | exact ⟨ret_bool (decide_eq_true (by omega)), hs0.trans hb⟩
    rw [decide_eq_true ⟨h0, h1, h2, h3⟩]
    go_enter Tryz.func91, Tryz.ntmps91
    go_wp2_with fail
    rw [← HW.out]
    go_wp2_with (go_at_call 111; (with_reducible refine (Calls.since (by assumption) (wrFine_at HF.out _)).mono ?_); rintro e w' ⟨rfl, hb⟩)
    go_ret
    first | exact ⟨rfl, hs0.trans hb⟩ | exact ⟨ret_bool (decide_eq_false (by omega)), hs0.trans hb⟩ | exact ⟨ret_bool (decide_eq_true (by omega)), hs0.trans hb⟩
theorem dHas4_at {a b c d x y : Int} {z : Bool} (h : hasR ⟨a, b, c, d⟩ x y = z) (w : World) : Calls Tryz.prog 91 #[.agg #[.int .i64 a, .int .i64 b, .int .i64 c, .int .i64 d], .agg #[.int .i64 x, .int .i64 y]] w fun e w' => e = .returned (.bool z) ∧ Below w.heap.size w w' := h ▸ dHas4_any a b c d x y w
/-- The document's tree: its struct, its list. -/
structure DocO (gr : Nat) (k d b : Int) (L : List Rq) (v : Value) (W : World) : Prop where
  box : Whole W gr 81 #[.int .i64 k, .int .i64 d, .int .i64 b, v]
  row : RowE encQ 5 W 0 52 v L
  own : v.ownBlock ≠ some gr
  ok : okP k d b = true
  sort : SortQ L
  inn : ∀ s ∈ L, inQ (zoneR k d b) s = true
section
variable {gr : Nat} {k d b : Int} {L : List Rq} {v : Value} {w : World}
theorem DocO.since {W W' : World} (h : DocO gr k d b L v W) (hs : Since W W') : DocO gr k d b L v W' := ⟨Since.whole hs h.box, h.row.since hs, h.own, h.ok, h.sort, h.inn⟩
theorem DocO.size (h : DocO gr k d b L v w) : ∃ a c, v = .slice a L.length c := h.row.shape2
theorem DocO.rec_ {a : Option Addr} {n c i : Nat} (h : DocO gr k d b L (.slice a n c) w) (hi : i < L.length) {s : Rq} (hs : L[i] = s) : ∃ g, a = some ⟨g, 0, none⟩ ∧ ∀ W, Since w W → ∀ j u, (encQ s)[j]? = some u → W.cell? ⟨g, i * 5 + j, none⟩ = some u := by
  obtain ⟨a2, c2, e, hg⟩ := (h.row.list encQ_len).form
  obtain ⟨g, e2, _⟩ := hg i hi
  injection e with e1 e3 e4
  subst e1 e3 e4 e2
  exact ⟨g, rfl, fun W hW j u hu => ((h.row.since hW).list encQ_len).at_ hi j (by rw [hs]; exact hu)⟩
set_option maxRecDepth 100000 in
set_option maxHeartbeats 3200000 in
theorem dhas_any (h : DocO gr k d b L v w) (x y : Int) : Calls Tryz.prog 58 #[.pointer (some ⟨gr, 0, none⟩), .agg #[.int .i64 x, .int .i64 y]] w fun e w' => e = .returned (.bool (hasR (zoneR k d b) x y)) ∧ Below w.heap.size w w' := by
  obtain ⟨⟨zx, zy, zw, zh⟩, hz⟩ : ∃ z, zoneR k d b = z := ⟨_, rfl⟩
  have HO := Lib.hid (fun W => wrOf_yes k d b zx zy zw zh W h.ok hz)
  rw [hz]
  obtain ⟨r, hr⟩ : ∃ r, hasR ⟨zx, zy, zw, zh⟩ x y = r := ⟨_, rfl⟩
  rw [hr]
  have HH := Lib.hid (fun W => dHas4_at hr W)
  obtain ⟨w0, hw0⟩ : ∃ w0, w0 = w.alloc (.cells #[.int .i64 x, .int .i64 y] 50) := ⟨_, rfl⟩
  have hs0 : Since w w0 := by rw [hw0]; exact (Since.refl w).alloc _
  have wh0 : Whole w0 (w.heap.size) 50 #[.int .i64 x, .int .i64 y] := by rw [hw0]; exact Whole.new w _ _
  have HW := Lib.hid hw0
  have c0_0 := box_cell wh0 0 (.int .i64 x) rfl
  have c0_1 := box_cell wh0 1 (.int .i64 y) rfl
  have hsr := Since.refl w0
  have hsd := hsr.drew
  clear hw0 wh0
  have a0 := fun W (hW : Since w0 W) => (Since.whole (hs0.trans hW) h.box).cell 0
  have a1 := fun W (hW : Since w0 W) => (Since.whole (hs0.trans hW) h.box).cell 1
  have a2 := fun W (hW : Since w0 W) => (Since.whole (hs0.trans hW) h.box).cell 2
  have HS0 := Lib.hid hs0
  clear h hz hr hs0
  go_enter Tryz.func58, Tryz.ntmps58
  go_wp2_with fail
  rw [← HW.out]
  obtain ⟨wq, hwq⟩ : ∃ wq, wq = w0.drew := ⟨_, rfl⟩
  refine wp_region_held_drew (S := fun W => Since w0 W) (by kernel_rfl) hsd (fun hHeld => ?_)
  rw [← hwq] at hHeld ⊢
  have hq : Since w0 wq := hHeld
  clear hwq hsd
  refine wpAnyH_take (i := 0) (v := ?_) rfl (by kernel_rfl) (by kernel_rfl) (by kernel_rfl) (fun _ _ _ h => h) (Or.inl ⟨by rfl, ?_⟩) (by assumption) ?_
  rotate_left 1
  · (intro W hW; clear hW; go_simp; try with_reducible rfl)
  simp only [Act.put, List.getElem_toArray, List.getElem_cons_zero, List.setIfInBounds_toArray, List.set_cons_zero, List.set_cons_succ]
  refine wpAnyH_take (i := 1) (v := ?_) rfl (by kernel_rfl) (by kernel_rfl) (by kernel_rfl) (fun _ _ _ h => h) (Or.inl ⟨by rfl, ?_⟩) (by assumption) ?_
  rotate_left 1
  · (intro W hW; clear hW; go_simp; try with_reducible rfl)
  simp only [Act.put, List.getElem_toArray, List.getElem_cons_succ, List.getElem_cons_zero, List.setIfInBounds_toArray, List.set_cons_zero, List.set_cons_succ]
  refine wpAnyH_take (i := 2) (v := ?_) rfl (by kernel_rfl) (by kernel_rfl) (by kernel_rfl) (fun _ _ _ h => h) (Or.inl ⟨by rfl, ?_⟩) (by assumption) ?_
  rotate_left 1
  · (intro W hW; clear hW; go_simp; try with_reducible rfl)
  simp only [Act.put, List.getElem_toArray, List.getElem_cons_succ, List.getElem_cons_zero, List.setIfInBounds_toArray, List.set_cons_zero, List.set_cons_succ]
  refine wpAnyH_take (i := 3) (v := ?_) rfl (by kernel_rfl) (by kernel_rfl) (by kernel_rfl) (fun _ _ _ h => h) (Or.inl ⟨by rfl, ?_⟩) (by assumption) ?_
  rotate_left 1
  · (intro W hW; skip; go_simp; try with_reducible rfl)
  simp only [Act.put, List.getElem_toArray, List.getElem_cons_succ, List.getElem_cons_zero, List.setIfInBounds_toArray, List.set_cons_zero, List.set_cons_succ]
  refine wpAnyH_take (i := 4) (v := ?_) rfl (by kernel_rfl) (by kernel_rfl) (by kernel_rfl) (fun _ _ _ h => h) (Or.inl ⟨by rfl, ?_⟩) (by assumption) ?_
  rotate_left 1
  · (intro W hW; clear hW; go_simp; try with_reducible rfl)
  simp only [Act.put, List.getElem_toArray, List.getElem_cons_succ, List.getElem_cons_zero, List.setIfInBounds_toArray, List.set_cons_zero, List.set_cons_succ]
  refine wpAnyH_take (i := 5) (v := ?_) rfl (by kernel_rfl) (by kernel_rfl) (by kernel_rfl) (fun _ _ _ h => h) (Or.inl ⟨by rfl, ?_⟩) (by assumption) ?_
  rotate_left 1
  · (intro W hW; clear hW; go_simp; try with_reducible rfl)
  simp only [Act.put, List.getElem_toArray, List.getElem_cons_succ, List.getElem_cons_zero, List.setIfInBounds_toArray, List.set_cons_zero, List.set_cons_succ]
  refine wpAnyH_take (i := 6) (v := ?_) rfl (by kernel_rfl) (by kernel_rfl) (by kernel_rfl) (fun _ _ _ h => h) (Or.inl ⟨by rfl, ?_⟩) (by assumption) ?_
  rotate_left 1
  · (intro W hW; clear hW; go_simp; try with_reducible rfl)
  simp only [Act.put, List.getElem_toArray, List.getElem_cons_succ, List.getElem_cons_zero, List.setIfInBounds_toArray, List.set_cons_zero, List.set_cons_succ]
  refine wpAnyH_take (i := 7) (v := ?_) rfl (by kernel_rfl) (by kernel_rfl) (by kernel_rfl) (fun _ _ _ h => h) (Or.inl ⟨by rfl, ?_⟩) (by assumption) ?_
  rotate_left 1
  · (intro W hW; skip; go_simp; try with_reducible rfl)
  simp only [Act.put, List.getElem_toArray, List.getElem_cons_succ, List.getElem_cons_zero, List.setIfInBounds_toArray, List.set_cons_zero, List.set_cons_succ]
  refine wpAnyH_ready (rs := [8, 12]) (by kernel_rfl) (by simp) ?_
  refine AllReadyH.cons rfl (fun K hK => ?_) (AllReadyH.cons rfl (fun K hK => ?_) AllReadyH.nil)
  · go_simp
    refine (Calls.since hq (HO.out _)).mono ?_
    rintro e w2 ⟨rfl, hb2⟩
    go_wp2_with fail
    refine hK.out _ _ (hb2) (fun hHeld => ?_)
    clear hK K
    try simp only [Act.put, List.getElem_toArray, List.getElem_cons_succ, List.getElem_cons_zero, List.setIfInBounds_toArray, List.set_cons_zero, List.set_cons_succ]
    refine wpAnyH_take (i := 9) (v := ?_) rfl (by kernel_rfl) (by kernel_rfl) (by kernel_rfl) (fun _ _ _ h => h) (Or.inl ⟨by rfl, ?_⟩) (by assumption) ?_
    rotate_left 1
    · (intro W hW; clear hW; go_simp; try with_reducible rfl)
    simp only [Act.put, List.getElem_toArray, List.getElem_cons_succ, List.getElem_cons_zero, List.setIfInBounds_toArray, List.set_cons_zero, List.set_cons_succ]
    refine wpAnyH_take (i := 10) (v := ?_) rfl (by kernel_rfl) (by kernel_rfl) (by kernel_rfl) (fun _ _ _ h => h) (Or.inl ⟨by rfl, ?_⟩) (by assumption) ?_
    rotate_left 1
    · (intro W hW; clear hW; go_simp; try with_reducible rfl)
    simp only [Act.put, List.getElem_toArray, List.getElem_cons_succ, List.getElem_cons_zero, List.setIfInBounds_toArray, List.set_cons_zero, List.set_cons_succ]
    refine wpAnyH_take (i := 11) (v := ?_) rfl (by kernel_rfl) (by kernel_rfl) (by kernel_rfl) (fun _ _ _ h => h) (Or.inl ⟨by rfl, ?_⟩) (by assumption) ?_
    rotate_left 1
    · (intro W hW; clear hW; go_simp; try with_reducible rfl)
    simp only [Act.put, List.getElem_toArray, List.getElem_cons_succ, List.getElem_cons_zero, List.setIfInBounds_toArray, List.set_cons_zero, List.set_cons_succ]
    refine wpAnyH_ready (rs := [12]) (by kernel_rfl) (by simp) ?_
    refine AllReadyH.cons rfl (fun K hK => ?_) AllReadyH.nil
    go_simp
    skip
    refine hK.out _ _ (hb2.alloc _) (fun hHeld => ?_)
    clear hK K
    try simp only [Act.put, List.getElem_toArray, List.getElem_cons_succ, List.getElem_cons_zero, List.setIfInBounds_toArray, List.set_cons_zero, List.set_cons_succ]
    refine wpAnyH_ready (rs := [13]) (by kernel_rfl) (by simp) ?_
    refine AllReadyH.cons rfl (fun K hK => ?_) AllReadyH.nil
    go_simp
    skip
    refine hK.out _ _ (hb2.alloc _) (fun hHeld => ?_)
    clear hK K
    try simp only [Act.put, List.getElem_toArray, List.getElem_cons_succ, List.getElem_cons_zero, List.setIfInBounds_toArray, List.set_cons_zero, List.set_cons_succ]
    refine wpAnyH_take (i := 14) (v := ?_) rfl (by kernel_rfl) (by kernel_rfl) (by kernel_rfl) (fun _ _ _ h => h) (Or.inl ⟨by rfl, ?_⟩) (by assumption) ?_
    rotate_left 1
    · (intro W hW; clear hW; go_simp; try with_reducible rfl)
    simp only [Act.put, List.getElem_toArray, List.getElem_cons_succ, List.getElem_cons_zero, List.setIfInBounds_toArray, List.set_cons_zero, List.set_cons_succ]
    refine wpAnyH_done (by kernel_rfl) ?_ _
    obtain ⟨w5, hw5⟩ : ∃ w5, w5 = w2.alloc (.cells #[.int .i64 zx, .int .i64 zy, .int .i64 zw, .int .i64 zh] 112) := ⟨_, rfl⟩
    have hS5 : Since w0 w5 := Since.named (hb2.alloc _) hw5
    have hN5 : Whole w5 w2.heap.size 112 #[.int .i64 zx, .int .i64 zy, .int .i64 zw, .int .i64 zh] := (Whole.new w2 _ _).named hw5
    obtain ⟨NB, hNB⟩ : ∃ NB, NB = w2.heap.size := ⟨_, rfl⟩
    rw [← hw5, ← hNB]
    rw [← hNB] at hN5
    clear hHeld hb2 hw5 hNB hq
    have y0 := fun W (hW : Since w5 W) => (Since.whole hW hN5).cell 0
    have y1 := fun W (hW : Since w5 W) => (Since.whole hW hN5).cell 1
    have y2 := fun W (hW : Since w5 W) => (Since.whole hW hN5).cell 2
    have y3 := fun W (hW : Since w5 W) => (Since.whole hW hN5).cell 3
    have hsr5 := Since.refl w5
    go_wp2_with (go_at_call 91; (with_reducible refine (HH.out _).mono ?_); rintro e w6 ⟨rfl, hb6⟩)
    go_ret
    exact ⟨rfl, HS0.out.trans (hS5.trans hb6)⟩
  · go_simp
    skip
    refine hK.out _ _ (hq.alloc _) (fun hHeld => ?_)
    clear hK K
    try simp only [Act.put, List.getElem_toArray, List.getElem_cons_succ, List.getElem_cons_zero, List.setIfInBounds_toArray, List.set_cons_zero, List.set_cons_succ]
    refine wpAnyH_ready (rs := [8]) (by kernel_rfl) (by simp) ?_
    refine AllReadyH.cons rfl (fun K hK => ?_) AllReadyH.nil
    go_simp
    refine (HO.out _).mono ?_
    rintro e w2 ⟨rfl, hb2'⟩
    have hb2 : Since w0 w2 := Since.trans (hq.alloc _) hb2'
    have hw := (Whole.new wq 112 #[.int .i64 0, .int .i64 0, .int .i64 0, .int .i64 0]).below hb2' (by simp)
    have y0 := hw.cell 0
    have x0 := hw.frozen 0
    have y1 := hw.cell 1
    have x1 := hw.frozen 1
    have y2 := hw.cell 2
    have x2 := hw.frozen 2
    have y3 := hw.cell 3
    have x3 := hw.frozen 3
    go_wp2_with fail
    refine hK.out _ _ (hb2) (fun hHeld => ?_)
    clear hK K
    try simp only [Act.put, List.getElem_toArray, List.getElem_cons_succ, List.getElem_cons_zero, List.setIfInBounds_toArray, List.set_cons_zero, List.set_cons_succ]
    refine wpAnyH_take (i := 9) (v := ?_) rfl (by kernel_rfl) (by kernel_rfl) (by kernel_rfl) (fun _ _ _ h => h) (Or.inl ⟨by rfl, ?_⟩) (by assumption) ?_
    rotate_left 1
    · (intro W hW; clear hW; go_simp; try with_reducible rfl)
    simp only [Act.put, List.getElem_toArray, List.getElem_cons_succ, List.getElem_cons_zero, List.setIfInBounds_toArray, List.set_cons_zero, List.set_cons_succ]
    refine wpAnyH_take (i := 10) (v := ?_) rfl (by kernel_rfl) (by kernel_rfl) (by kernel_rfl) (fun _ _ _ h => h) (Or.inl ⟨by rfl, ?_⟩) (by assumption) ?_
    rotate_left 1
    · (intro W hW; clear hW; go_simp; try with_reducible rfl)
    simp only [Act.put, List.getElem_toArray, List.getElem_cons_succ, List.getElem_cons_zero, List.setIfInBounds_toArray, List.set_cons_zero, List.set_cons_succ]
    refine wpAnyH_take (i := 11) (v := ?_) rfl (by kernel_rfl) (by kernel_rfl) (by kernel_rfl) (fun _ _ _ h => h) (Or.inl ⟨by rfl, ?_⟩) (by assumption) ?_
    rotate_left 1
    · (intro W hW; clear hW; go_simp; try with_reducible rfl)
    simp only [Act.put, List.getElem_toArray, List.getElem_cons_succ, List.getElem_cons_zero, List.setIfInBounds_toArray, List.set_cons_zero, List.set_cons_succ]
    refine wpAnyH_ready (rs := [13]) (by kernel_rfl) (by simp) ?_
    refine AllReadyH.cons rfl (fun K hK => ?_) AllReadyH.nil
    go_simp
    skip
    refine hK.out _ _ ((Since.setCell (Since.setCell (Since.setCell (Since.setCell hb2 (p := ⟨wq.heap.size, 0, none⟩) hq.size_ _) (p := ⟨wq.heap.size, 1, none⟩) hq.size_ _) (p := ⟨wq.heap.size, 2, none⟩) hq.size_ _) (p := ⟨wq.heap.size, 3, none⟩) hq.size_ _)) (fun hHeld => ?_)
    clear hK K
    try simp only [Act.put, List.getElem_toArray, List.getElem_cons_succ, List.getElem_cons_zero, List.setIfInBounds_toArray, List.set_cons_zero, List.set_cons_succ]
    refine wpAnyH_take (i := 14) (v := ?_) rfl (by kernel_rfl) (by kernel_rfl) (by kernel_rfl) (fun _ _ _ h => h) (Or.inl ⟨by rfl, ?_⟩) (by assumption) ?_
    rotate_left 1
    · (intro W hW; clear hW; go_simp; try with_reducible rfl)
    simp only [Act.put, List.getElem_toArray, List.getElem_cons_succ, List.getElem_cons_zero, List.setIfInBounds_toArray, List.set_cons_zero, List.set_cons_succ]
    refine wpAnyH_done (by kernel_rfl) ?_ _
    obtain ⟨w5, hw5⟩ : ∃ w5, w5 = ((((w2.setCell ⟨wq.heap.size, 0, none⟩ (.int .i64 zx)).setCell ⟨wq.heap.size, 1, none⟩ (.int .i64 zy)).setCell ⟨wq.heap.size, 2, none⟩ (.int .i64 zw)).setCell ⟨wq.heap.size, 3, none⟩ (.int .i64 zh)) := ⟨_, rfl⟩
    have hS5 : Since w0 w5 := Since.named ((Since.setCell (Since.setCell (Since.setCell (Since.setCell hb2 (p := ⟨wq.heap.size, 0, none⟩) hq.size_ _) (p := ⟨wq.heap.size, 1, none⟩) hq.size_ _) (p := ⟨wq.heap.size, 2, none⟩) hq.size_ _) (p := ⟨wq.heap.size, 3, none⟩) hq.size_ _)) hw5
    have hN5 : Whole w5 wq.heap.size 112 #[.int .i64 zx, .int .i64 zy, .int .i64 zw, .int .i64 zh] := (((((hw.set_ 0 _).set_ 1 _).set_ 2 _).set_ 3 _)).named hw5
    clear hw hb2' x0 y0 x1 y1 x2 y2 x3 y3
    obtain ⟨NB, hNB⟩ : ∃ NB, NB = wq.heap.size := ⟨_, rfl⟩
    rw [← hw5, ← hNB]
    rw [← hNB] at hN5
    clear hHeld hb2 hw5 hNB hq
    have y0 := fun W (hW : Since w5 W) => (Since.whole hW hN5).cell 0
    have y1 := fun W (hW : Since w5 W) => (Since.whole hW hN5).cell 1
    have y2 := fun W (hW : Since w5 W) => (Since.whole hW hN5).cell 2
    have y3 := fun W (hW : Since w5 W) => (Since.whole hW hN5).cell 3
    have hsr5 := Since.refl w5
    go_wp2_with (go_at_call 91; (with_reducible refine (HH.out _).mono ?_); rintro e w6 ⟨rfl, hb6⟩)
    go_ret
    exact ⟨rfl, HS0.out.trans (hS5.trans hb6)⟩
end
end Go.Proofs.YthfhpejpjiaikaaGreat
