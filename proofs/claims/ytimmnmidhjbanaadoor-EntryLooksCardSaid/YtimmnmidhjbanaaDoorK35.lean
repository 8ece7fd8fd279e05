/- entry.content, Put. -/
import Derived.Test.YtimmnmidhjbanaaDoorK29
import Derived.Test.YtimmnmidhjbanaaDoorK31
namespace Go.Proofs.YtimmnmidhjbanaaDoor
open Go.RowKit
set_option linter.unusedVariables false
set_option linter.unusedSimpArgs false
/-- What stands behind the kind. -/
def contL (e : En) (l : List Int) : List UInt8 :=
  if e.kind = 1 then opL e.ok e.x e.y e.key e.val e.cl e.seq
  else if e.kind = 2 ∨ e.kind = 3 then numL e.nd
  else [e.nd, e.ep, e.bx].flatMap numL ++ chainL l
def entL (e : En) (l : List Int) : List UInt8 := numL e.kind ++ contL e l
theorem opL_short {kind x y : Int} {key val : ByteArray} {cl seq : Int} (h : opB kind x y key val cl seq = true) : (opL kind x y key val cl seq).length ≤ 2100 := by
  unfold opL
  have hb := opB_bd h
  have h1 := flat_len numL 9 [kind, x, y] fun x hx => numL_len x
  have h2 := flat_len textL 1009 [key, val] fun x hx => textL_len (by simp only [List.mem_cons, List.not_mem_nil, or_false] at hx; rcases hx with rfl | rfl <;> omega)
  have h3 := flat_len numL 9 [cl, seq] fun x hx => numL_len x
  simp only [List.length_append, List.length_cons, List.length_nil] at *
  omega
theorem contL_len {e : En} {l : List Int} (h : rightB e l = true) : (contL e l).length ≤ 2200 := by
  unfold contL
  unfold rightB at h
  split
  · next k =>
    rw [if_pos k, Bool.and_eq_true] at h
    have := opL_short h.1
    omega
  · next k =>
    rw [if_neg k] at h
    split
    · have := numL_len e.nd; omega
    · next k2 =>
      rw [if_neg k2] at h
      split at h
      · simp only [Bool.and_eq_true, chainB_iff] at h
        have h1 := chainL_len h.2.2.2.1
        have h2 := flat_len numL 9 [e.nd, e.ep, e.bx] fun x hx => numL_len x
        rw [List.length_append]
        simp only [List.length_cons, List.length_nil] at h2
        omega
      · cases h
section
variable {B : Nat} {kind ok x y : Int} {key val : ByteArray} {cl seq nd ep bx : Int} {ca : Option Addr} {cn cc : Nat} {l : List Int} {w : World}
set_option maxRecDepth 100000 in
set_option maxHeartbeats 3200000 in
theorem content_any (h : LZ B w (.slice ca cn cc) l) (hB : B ≤ w.heap.size) (hr : rightB (⟨kind, ok, x, y, key, val, cl, seq, nd, ep, bx⟩ : En) l = true) :
    Calls Tryd.prog 42 #[.agg #[.int .i64 kind, .int .i64 ok, .int .i64 x, .int .i64 y, .string key, .string val, .int .i64 cl, .int .i64 seq, .int .i64 nd, .int .i64 ep, .int .i64 bx, .slice ca cn cc]] w (SlicePost w.heap.size (contL (⟨kind, ok, x, y, key, val, cl, seq, nd, ep, bx⟩ : En) l) w) := by
  have HA := Lib.hid (fun W (hW : Since w W) => h.since hW hB)
  have HB := Lib.hid hB
  unfold rightB at hr
  unfold contL
  dsimp only at hr ⊢
  obtain ⟨w0, hw0⟩ : ∃ w0, w0 = w.alloc (.cells #[.int .i64 kind, .int .i64 ok, .int .i64 x, .int .i64 y, .string key, .string val, .int .i64 cl, .int .i64 seq, .int .i64 nd, .int .i64 ep, .int .i64 bx, .slice ca cn cc] 37) := ⟨_, rfl⟩
  have hs0 : Since w w0 := by rw [hw0]; exact (Since.refl w).alloc _
  have wh0 : Whole w0 (w.heap.size) 37 #[.int .i64 kind, .int .i64 ok, .int .i64 x, .int .i64 y, .string key, .string val, .int .i64 cl, .int .i64 seq, .int .i64 nd, .int .i64 ep, .int .i64 bx, .slice ca cn cc] := by rw [hw0]; exact Whole.new w _ _
  have HW := Lib.hid hw0
  have c0_0 := box_cell wh0 0 (.int .i64 kind) rfl
  have c0_1 := box_cell wh0 1 (.int .i64 ok) rfl
  have c0_2 := box_cell wh0 2 (.int .i64 x) rfl
  have c0_3 := box_cell wh0 3 (.int .i64 y) rfl
  have c0_4 := box_cell wh0 4 (.string key) rfl
  have c0_5 := box_cell wh0 5 (.string val) rfl
  have c0_6 := box_cell wh0 6 (.int .i64 cl) rfl
  have c0_7 := box_cell wh0 7 (.int .i64 seq) rfl
  have c0_8 := box_cell wh0 8 (.int .i64 nd) rfl
  have c0_9 := box_cell wh0 9 (.int .i64 ep) rfl
  have c0_10 := box_cell wh0 10 (.int .i64 bx) rfl
  have c0_11 := box_cell wh0 11 (.slice ca cn cc) rfl
  have hsr := Since.refl w0
  have hsd := hsr.drew
  clear hw0 wh0
  have HSZ := Lib.hid (show w0.heap.size = w.heap.size + 1 by rw [HW.out]; simp)
  by_cases k1 : kind = 1
  · rw [if_pos k1] at hr ⊢
    have HO := Lib.hid (show opB ok x y key val cl seq = true from (Bool.and_eq_true_iff.1 hr).1)
    have k1' : (kind == 1) = true := by simpa using k1
    clear hr k1 h hB
    go_enter Tryd.func42, Tryd.ntmps42
    go_wp2_with fail
    rw [← HW.out]
    go_wp2_with fail
    refine (putOp_yes ok x y key val cl seq _ HO.out).mono ?_
    rintro e w1 ⟨A, n, c, rfl, hh, hb⟩
    go_wp2
    go_ret
    exact ⟨A, n, c, rfl, hh.lower hs0.size_, hs0.trans hb⟩
  · rw [if_neg k1] at hr ⊢
    have k1' : (kind == 1) = false := by simpa using k1
    by_cases k23 : kind = 2 ∨ kind = 3
    · rw [if_pos k23] at hr ⊢
      have KK : (kind == 2) = true ∨ ((kind == 2) = false ∧ (kind == 3) = true) := by
        rcases k23 with k | k
        · exact .inl (by simpa using k)
        · exact .inr ⟨by rw [beq_eq_false_iff_ne]; omega, by simpa using k⟩
      clear hr k1 k23 h hB
      rcases KK with k2 | ⟨k2, k3⟩
      all_goals
        go_enter Tryd.func42, Tryd.ntmps42
        go_wp2_with fail
        rw [← HW.out]
        go_wp2_with fail
        have hsz := HSZ.out
        refine (nums11_any (LZ.lit1' (W := w0) (a := nd) hsz) (by simp [hsz]) (by simp)).mono ?_
        rintro e w1 ⟨A, n, c, rfl, hh, hb⟩
        go_wp2
        go_ret
        rw [show [nd].flatMap numL = numL nd from List.append_nil _] at hh
        exact ⟨A, n, c, rfl, hh.lower (Nat.le_trans hs0.size_ (by simp)), (hs0.alloc _).trans hb⟩
    · rw [if_neg k23] at hr ⊢
      have k2 : (kind == 2) = false := by rw [beq_eq_false_iff_ne]; omega
      have k3 : (kind == 3) = false := by rw [beq_eq_false_iff_ne]; omega
      have hch : chainB l = true := by
        split at hr
        · simp only [Bool.and_eq_true] at hr
          exact hr.2.2.2.1
        · cases hr
      have HC := Lib.hid hch
      have HLL := Lib.hid (chainL_len ((chainB_iff _).1 hch))
      clear hr k1 k23 h hB hch
      go_enter Tryd.func42, Tryd.ntmps42
      go_wp2_with fail
      rw [← HW.out]
      go_wp2_with fail
      refine (putChain_yes (HA.out _ hs0) (Nat.le_trans HB.out hs0.size_) HC.out).mono ?_
      rintro e w1 ⟨A1, n1, c1, rfl, hh1, hb1⟩
      have hs1 : Since w0 w1 := hb1
      go_wp2_with fail
      refine (nums11_any (LZ.lit3 (W := w1) (a := nd) (b := ep) (c := bx)) (by simp) (by simp)).mono ?_
      rintro e w2 ⟨A2, n2, c2, rfl, hh2, hb2⟩
      have hs2 : Since w0 w2 := (hs1.alloc _).trans hb2
      have ho1 : Own w2 _ _ _ := ((hh1.alloc _).own.below hb2)
      go_wp2_with fail
      refine (concat_twoB (w := w2.alloc _) (g := w2.heap.size) (hh2.own.alloc _) (ho1.alloc _) (Whole.new w2 _ _) (by have h2 := flat_len numL 9 [nd, ep, bx] fun x hx => numL_len x; simp only [List.length_cons, List.length_nil] at h2; omega) (by have := HLL.out; omega)).mono ?_
      rintro e w4 ⟨v4, rfl, hr4, hb4⟩
      obtain ⟨A, n, c, rfl, hh⟩ := (own_row.2 hr4).has
      go_wp2
      go_ret
      exact ⟨A, n, c, rfl, hh.lower (Nat.le_trans (hs0.trans hs2).size_ (by simp)), (hs0.trans (hs2.alloc _)).trans hb4⟩
set_option maxRecDepth 100000 in
theorem put11_no (h : LZ B w (.slice ca cn cc) l) (hB : B ≤ w.heap.size) (hl : l.length ≤ 1000) (hr : rightB (⟨kind, ok, x, y, key, val, cl, seq, nd, ep, bx⟩ : En) l = false) :
    Calls Tryd.prog 9 #[.agg #[.int .i64 kind, .int .i64 ok, .int .i64 x, .int .i64 y, .string key, .string val, .int .i64 cl, .int .i64 seq, .int .i64 nd, .int .i64 ep, .int .i64 bx, .slice ca cn cc]] w fun e w' => e = .returned (.tuple #[.slice none 0 0, .int .i64 1]) ∧ Below w.heap.size w w' := by
  have HA := Lib.hid (fun W (hW : Since w W) => right11_any (h.since hW hB) (Nat.le_trans hB hW.size_) (by omega) hr)
  clear h hr
  obtain ⟨w0, hw0⟩ : ∃ w0, w0 = w.alloc (.cells #[.int .i64 kind, .int .i64 ok, .int .i64 x, .int .i64 y, .string key, .string val, .int .i64 cl, .int .i64 seq, .int .i64 nd, .int .i64 ep, .int .i64 bx, .slice ca cn cc] 37) := ⟨_, rfl⟩
  have hs0 : Since w w0 := by rw [hw0]; exact (Since.refl w).alloc _
  have wh0 : Whole w0 (w.heap.size) 37 #[.int .i64 kind, .int .i64 ok, .int .i64 x, .int .i64 y, .string key, .string val, .int .i64 cl, .int .i64 seq, .int .i64 nd, .int .i64 ep, .int .i64 bx, .slice ca cn cc] := by rw [hw0]; exact Whole.new w _ _
  have HW := Lib.hid hw0
  have c0_0 := box_cell wh0 0 (.int .i64 kind) rfl
  have c0_1 := box_cell wh0 1 (.int .i64 ok) rfl
  have c0_2 := box_cell wh0 2 (.int .i64 x) rfl
  have c0_3 := box_cell wh0 3 (.int .i64 y) rfl
  have c0_4 := box_cell wh0 4 (.string key) rfl
  have c0_5 := box_cell wh0 5 (.string val) rfl
  have c0_6 := box_cell wh0 6 (.int .i64 cl) rfl
  have c0_7 := box_cell wh0 7 (.int .i64 seq) rfl
  have c0_8 := box_cell wh0 8 (.int .i64 nd) rfl
  have c0_9 := box_cell wh0 9 (.int .i64 ep) rfl
  have c0_10 := box_cell wh0 10 (.int .i64 bx) rfl
  have c0_11 := box_cell wh0 11 (.slice ca cn cc) rfl
  have hsr := Since.refl w0
  have hsd := hsr.drew
  clear hw0 wh0
  go_enter Tryd.func9, Tryd.ntmps9
  go_wp2_with fail
  rw [← HW.out]
  go_wp2_with fail
  refine (HA.out _ hs0).mono ?_
  rintro e w1 ⟨rfl, hb1⟩
  go_wp2
  go_ret2
  exact ⟨rfl, hs0.trans hb1⟩
set_option maxRecDepth 100000 in
set_option maxHeartbeats 3200000 in
theorem put11_yes (h : LZ B w (.slice ca cn cc) l) (hB : B ≤ w.heap.size) (hl : l.length ≤ 1000) (hr : rightB (⟨kind, ok, x, y, key, val, cl, seq, nd, ep, bx⟩ : En) l = true) :
    Calls Tryd.prog 9 #[.agg #[.int .i64 kind, .int .i64 ok, .int .i64 x, .int .i64 y, .string key, .string val, .int .i64 cl, .int .i64 seq, .int .i64 nd, .int .i64 ep, .int .i64 bx, .slice ca cn cc]] w (SliceNumPost w.heap.size (entL (⟨kind, ok, x, y, key, val, cl, seq, nd, ep, bx⟩ : En) l) 0 w) := by
  have HA := Lib.hid (fun W (hW : Since w W) => h.since hW hB)
  have HB := Lib.hid (And.intro hB (And.intro hl hr))
  have HLL := Lib.hid (show (([kind].flatMap numL).length ≤ 4000) ∧ (contL (⟨kind, ok, x, y, key, val, cl, seq, nd, ep, bx⟩ : En) l).length ≤ 4000 from ⟨by have := flat_len numL 9 [kind] fun x hx => numL_len x; simp only [List.length_cons, List.length_nil] at this; omega, by have := contL_len hr; omega⟩)
  clear h hr hB hl
  obtain ⟨w0, hw0⟩ : ∃ w0, w0 = w.alloc (.cells #[.int .i64 kind, .int .i64 ok, .int .i64 x, .int .i64 y, .string key, .string val, .int .i64 cl, .int .i64 seq, .int .i64 nd, .int .i64 ep, .int .i64 bx, .slice ca cn cc] 37) := ⟨_, rfl⟩
  have hs0 : Since w w0 := by rw [hw0]; exact (Since.refl w).alloc _
  have wh0 : Whole w0 (w.heap.size) 37 #[.int .i64 kind, .int .i64 ok, .int .i64 x, .int .i64 y, .string key, .string val, .int .i64 cl, .int .i64 seq, .int .i64 nd, .int .i64 ep, .int .i64 bx, .slice ca cn cc] := by rw [hw0]; exact Whole.new w _ _
  have HW := Lib.hid hw0
  have c0_0 := box_cell wh0 0 (.int .i64 kind) rfl
  have c0_1 := box_cell wh0 1 (.int .i64 ok) rfl
  have c0_2 := box_cell wh0 2 (.int .i64 x) rfl
  have c0_3 := box_cell wh0 3 (.int .i64 y) rfl
  have c0_4 := box_cell wh0 4 (.string key) rfl
  have c0_5 := box_cell wh0 5 (.string val) rfl
  have c0_6 := box_cell wh0 6 (.int .i64 cl) rfl
  have c0_7 := box_cell wh0 7 (.int .i64 seq) rfl
  have c0_8 := box_cell wh0 8 (.int .i64 nd) rfl
  have c0_9 := box_cell wh0 9 (.int .i64 ep) rfl
  have c0_10 := box_cell wh0 10 (.int .i64 bx) rfl
  have c0_11 := box_cell wh0 11 (.slice ca cn cc) rfl
  have hsr := Since.refl w0
  have hsd := hsr.drew
  clear hw0 wh0
  go_enter Tryd.func9, Tryd.ntmps9
  go_wp2_with fail
  rw [← HW.out]
  go_wp2_with fail
  refine (right11_any (HA.out _ hs0) (Nat.le_trans HB.out.1 hs0.size_) (by have := HB.out.2.1; omega) HB.out.2.2).mono ?_
  rintro e w1 ⟨rfl, hb1⟩
  have hs1 : Since w0 w1 := hb1
  have hsd1 := hs1.drew
  go_wp2_with fail
  refine wp_region_held_drew (S := fun W => Since w0 W) (by kernel_rfl) hsd1 (fun hHeld => ?_)
  generalize w1.drew = wq at hHeld ⊢
  refine wpAnyH_take (i := 0) (v := ?_) rfl (by kernel_rfl) (by kernel_rfl) (by kernel_rfl) (fun _ _ _ h => h) (Or.inl ⟨by rfl, ?_⟩) (by assumption) ?_
  rotate_left 1
  · (intro W hW; clear hW; go_simp; try with_reducible rfl)
  simp only [Act.put, List.getElem_toArray, List.getElem_cons_zero, List.setIfInBounds_toArray, List.set_cons_zero, List.set_cons_succ]
  refine wpAnyH_take (i := 1) (v := ?_) rfl (by kernel_rfl) (by kernel_rfl) (by kernel_rfl) (fun _ _ _ h => h) (Or.inl ⟨by rfl, ?_⟩) (by assumption) ?_
  rotate_left 1
  · (intro W hW; skip; go_simp; try with_reducible rfl)
  simp only [Act.put, List.getElem_toArray, List.getElem_cons_succ, List.getElem_cons_zero, List.setIfInBounds_toArray, List.set_cons_zero, List.set_cons_succ]
  refine wpAnyH_take (i := 4) (v := ?_) rfl (by kernel_rfl) (by kernel_rfl) (by kernel_rfl) (fun _ _ _ h => h) (Or.inl ⟨by rfl, ?_⟩) (by assumption) ?_
  rotate_left 1
  · (intro W hW; skip; go_simp; try with_reducible rfl)
  simp only [Act.put, List.getElem_toArray, List.getElem_cons_succ, List.getElem_cons_zero, List.setIfInBounds_toArray, List.set_cons_zero, List.set_cons_succ]
  refine wpAnyH_ready (rs := [2]) (by kernel_rfl) (by simp) ?_
  refine AllReadyH.cons rfl (fun K hK => ?_) AllReadyH.nil
  go_simp
  skip
  refine hK.out _ _ (hHeld.alloc _) (fun hHeld => ?_)
  clear hK K
  try simp only [Act.put, List.getElem_toArray, List.getElem_cons_succ, List.getElem_cons_zero, List.setIfInBounds_toArray, List.set_cons_zero, List.set_cons_succ]
  refine wpAnyH_ready (rs := [3]) (by kernel_rfl) (by simp) ?_
  refine AllReadyH.cons rfl (fun K hK => ?_) AllReadyH.nil
  go_simp
  refine (nums11_any (LZ.lit1 (W := wq) (a := kind)) (by simp) (by simp)).mono ?_
  rintro e w3 ⟨A3, n3, c3, rfl, hh3, hb3⟩
  have ho3 := hh3.own
  go_wp2_with fail
  refine hK.out _ _ (Since.trans hHeld hb3) (fun hHeld => ?_)
  clear hK K
  try simp only [Act.put, List.getElem_toArray, List.getElem_cons_succ, List.getElem_cons_zero, List.setIfInBounds_toArray, List.set_cons_zero, List.set_cons_succ]
  refine wpAnyH_ready (rs := [5]) (by kernel_rfl) (by simp) ?_
  refine AllReadyH.cons rfl (fun K hK => ?_) AllReadyH.nil
  go_simp
  refine (content_any (HA.out _ (hs0.trans hHeld)) (Nat.le_trans HB.out.1 (hs0.trans hHeld).size_) HB.out.2.2).mono ?_
  rintro e w5 ⟨A5, n5, c5, rfl, hh5, hb5⟩
  have ho5 := hh5.own
  have ho3 := hh3.own.below hb5
  go_wp2_with fail
  refine hK.out _ _ (Since.trans hHeld hb5) (fun hHeld => ?_)
  clear hK K
  try simp only [Act.put, List.getElem_toArray, List.getElem_cons_succ, List.getElem_cons_zero, List.setIfInBounds_toArray, List.set_cons_zero, List.set_cons_succ]
  refine wpAnyH_ready (rs := [6]) (by kernel_rfl) (by simp) ?_
  refine AllReadyH.cons rfl (fun K hK => ?_) AllReadyH.nil
  go_simp
  skip
  refine hK.out _ _ (hHeld.alloc _) (fun hHeld => ?_)
  clear hK K
  try simp only [Act.put, List.getElem_toArray, List.getElem_cons_succ, List.getElem_cons_zero, List.setIfInBounds_toArray, List.set_cons_zero, List.set_cons_succ]
  refine wpAnyH_ready (rs := [7]) (by kernel_rfl) (by simp) ?_
  refine AllReadyH.cons rfl (fun K hK => ?_) AllReadyH.nil
  go_simp
  have hz := (hs0.trans hHeld).size_
  refine (concat_twoB (w := w5.alloc _) (g := w5.heap.size) (ho3.alloc _) (ho5.alloc _) (Whole.new w5 _ _) (by have := HLL.out.1; simp at this ⊢; omega) HLL.out.2).mono ?_
  rintro e w4 ⟨v4, rfl, hr4, hb4⟩
  obtain ⟨A, n, c, rfl, hh⟩ := (own_row.2 hr4).has
  go_wp2_with fail
  refine hK.out _ _ (Since.trans hHeld hb4) (fun hHeld => ?_)
  clear hK K
  try simp only [Act.put, List.getElem_toArray, List.getElem_cons_succ, List.getElem_cons_zero, List.setIfInBounds_toArray, List.set_cons_zero, List.set_cons_succ]
  refine wpAnyH_take (i := 8) (v := ?_) rfl (by kernel_rfl) (by kernel_rfl) (by kernel_rfl) (fun _ _ _ h => h) (Or.inl ⟨by rfl, ?_⟩) (by assumption) ?_
  rotate_left 1
  · (intro W hW; clear hW; go_simp; try with_reducible rfl)
  simp only [Act.put, List.getElem_toArray, List.getElem_cons_succ, List.getElem_cons_zero, List.setIfInBounds_toArray, List.set_cons_zero, List.set_cons_succ]
  refine wpAnyH_take (i := 9) (v := ?_) rfl (by kernel_rfl) (by kernel_rfl) (by kernel_rfl) (fun _ _ _ h => h) (Or.inl ⟨by rfl, ?_⟩) (by assumption) ?_
  rotate_left 1
  · (intro W hW; clear hW; go_simp; try with_reducible rfl)
  simp only [Act.put, List.getElem_toArray, List.getElem_cons_succ, List.getElem_cons_zero, List.setIfInBounds_toArray, List.set_cons_zero, List.set_cons_succ]
  refine wpAnyH_done (by kernel_rfl) ?_ _
  go_wp2
  go_ret2
  rw [show [kind].flatMap numL = numL kind from List.append_nil _] at hh
  exact ⟨A, n, c, rfl, hh.lower hz, hs0.trans hHeld⟩
end
end Go.Proofs.YtimmnmidhjbanaaDoor
