/- quad's nodes: isLeaf, crowded, halved, quarterOf. -/
import Derived.Test.YteohkmhndomhgaaK14
import Derived.Test.YteohkmhndomhgaaK15
import Derived.Deep.Cut
import Derived.Deep.CutRange
import Derived.StillTailTactics
namespace Go.Proofs.Yteohkmhndomhgaa
open Go.RowKit
set_option linter.unusedVariables false
set_option linter.unusedSimpArgs false
theorem QN.v_ptr (q : QN) : ∃ o, q.v = .pointer o ∧ o.isNone = q.isNil := by
  cases q with
  | nil => exact ⟨none, rfl, rfl⟩
  | leaf g v a L => exact ⟨some ⟨g, 0, none⟩, rfl, rfl⟩
  | quad g n a q => exact ⟨some ⟨g, 0, none⟩, rfl, rfl⟩
theorem eq_quarters (o0 o1 o2 o3 : Option Addr) (W : World) : (Op.equalIn 10000 66 (.agg #[.pointer o0, .pointer o1, .pointer o2, .pointer o3]) (.agg #[.pointer none, .pointer none, .pointer none, .pointer none])).run Try.prog W = .ok (o0.isNone && (o1.isNone && (o2.isNone && o3.isNone))) W := by
  cases o0 <;> cases o1 <;> cases o2 <;> cases o3 <;> kernel_rfl
set_option maxRecDepth 100000 in
theorem isLeafN_yes {g : Nat} {v : Value} {a : Rc} {L : List Rq} {W : World} (h : (QN.leaf g v a L).At W) : Calls Try.prog 33 #[.pointer (some ⟨g, 0, none⟩)] W fun e w' => e = .returned (.bool true) ∧ W = w' := by
  have hw : Whole W g 68 #[.int .i64 a.x, .int .i64 a.y, .int .i64 a.w, .int .i64 a.h, .int .i64 (L.length : Nat), v, .pointer none, .pointer none, .pointer none, .pointer none] := h.1
  have h0 := hw.cell 6
  have h1 := hw.cell 7
  have h2 := hw.cell 8
  have h3 := hw.cell 9
  have he := eq_quarters none none none none
  clear h hw
  go_enter Try.func33, Try.ntmps33
  go_wp2
  go_ret
  exact ⟨rfl, rfl⟩
set_option maxRecDepth 100000 in
theorem isLeafN_no {g n : Nat} {a : Rc} {q : Nat → QN} {W : World} (h : (QN.quad g n a q).At W) (hn : (q 0).isNil = false) : Calls Try.prog 33 #[.pointer (some ⟨g, 0, none⟩)] W fun e w' => e = .returned (.bool false) ∧ W = w' := by
  have hw : Whole W g 68 #[.int .i64 a.x, .int .i64 a.y, .int .i64 a.w, .int .i64 a.h, .int .i64 (n : Nat), .slice none 0 0, (q 0).v, (q 1).v, (q 2).v, (q 3).v] := h.1
  obtain ⟨o0, e0, i0⟩ := (q 0).v_ptr
  obtain ⟨o1, e1, i1⟩ := (q 1).v_ptr
  obtain ⟨o2, e2, i2⟩ := (q 2).v_ptr
  obtain ⟨o3, e3, i3⟩ := (q 3).v_ptr
  rw [e0, e1, e2, e3] at hw
  have h0 := hw.cell 6
  have h1 := hw.cell 7
  have h2 := hw.cell 8
  have h3 := hw.cell 9
  have he : ∀ W, (Op.equalIn 10000 66 (.agg #[.pointer o0, .pointer o1, .pointer o2, .pointer o3]) (.agg #[.pointer none, .pointer none, .pointer none, .pointer none])).run Try.prog W = .ok false W := fun W => by
    rw [eq_quarters, i0, hn]; rfl
  clear h hw i0 i1 i2 i3 e0 e1 e2 e3
  go_enter Try.func33, Try.ntmps33
  go_wp2
  go_ret
  exact ⟨rfl, rfl⟩
set_option maxRecDepth 100000 in
set_option maxHeartbeats 800000 in
theorem crowded_any {g n : Nat} {a : Rc} {W : World} {cs : Array Value} (h : Whole W g 68 cs) (h0 : cs[0]? = some (.int .i64 a.x)) (h1 : cs[1]? = some (.int .i64 a.y)) (h2 : cs[2]? = some (.int .i64 a.w)) (h3 : cs[3]? = some (.int .i64 a.h)) (h4 : cs[4]? = some (.int .i64 (n : Nat))) (ha : Good a) :
    Calls Try.prog 47 #[.pointer (some ⟨g, 0, none⟩)] W fun e w' => e = .returned (.bool (decide (4 < n ∧ 1 < a.w * a.h))) ∧ Below W.heap.size W w' := by
  have c0 := (h.cell 0).trans h0
  have c1 := (h.cell 1).trans h1
  have c2 := (h.cell 2).trans h2
  have c3 := (h.cell 3).trans h3
  have c4 := (h.cell 4).trans h4
  have hA : areaR ⟨a.x, a.y, a.w, a.h⟩ = a.w * a.h := by unfold areaR; rw [show fineR ⟨a.x, a.y, a.w, a.h⟩ = true from ha.fine]; rfl
  obtain ⟨A, hA2⟩ : ∃ A, a.w * a.h = A := ⟨_, rfl⟩
  rw [hA2] at hA ⊢
  have HA := Lib.hid hA
  clear h h0 h1 h2 h3 h4 hA hA2
  by_cases hn : 4 < n
  · have d1 : decide ((4 : Int) < n) = true := decide_eq_true (by omega)
    have HR := Lib.hid (show decide (4 < n ∧ 1 < A) = decide (1 < A) by simp [hn])
    go_enter Try.func47, Try.ntmps47
    go_wp2_with (go_at_call 56; (with_reducible refine (wArea_at HA.out _).mono ?_); rintro e w1 ⟨rfl, hb1⟩)
    go_ret
    exact ⟨by rw [HR.out]; rfl, hb1⟩
  · have d1 : decide ((4 : Int) < n) = false := decide_eq_false (by omega)
    have HR := Lib.hid (show decide (4 < n ∧ 1 < A) = false by simp [hn])
    go_enter Try.func47, Try.ntmps47
    go_wp2
    go_ret
    exact ⟨by rw [HR.out]; rfl, Below.refl _ _⟩
set_option maxRecDepth 100000 in
theorem halved_any {n a b : Int} (h0 : 0 ≤ n) (h1 : n ≤ 65536) (ha : n - n / 2 = a) (hb : n / 2 = b) (w : World) : Calls Try.prog 68 #[.int .i64 n] w fun e w' => e = .returned (.agg #[.int .i64 a, .int .i64 b]) ∧ Below w.heap.size w w' := by
  have ht : n.tdiv 2 = b := by rw [Int.tdiv_eq_ediv_of_nonneg h0]; exact hb
  have hw1 : IntKind.i64.wrap b = b := IntWalk.i64_in _ (by omega)
  have hw2 : IntKind.i64.wrap (n - b) = a := by rw [IntWalk.i64_in _ (by omega)]; omega
  have hx := Whole.new w 110 #[.int .i64 0, .int .i64 0]
  have x0 := hx.cell 0
  have x1 := hx.cell 1
  have y0 := hx.frozen 0
  have y1 := hx.frozen 1
  clear ha hb hx
  go_enter Try.func68, Try.ntmps68
  go_wp2
  have u := Whole.new w 110 #[.int .i64 a, .int .i64 b]
  have u0 := u.cell 0
  have u1 := u.cell 1
  exact bodyPost_ret (v := .agg #[.int .i64 a, .int .i64 b]) (by simp [results, Try.results68, go_sem, u0, u1]) rfl ⟨rfl, (Below.refl _ w).alloc (Nat.le_refl _) _⟩
set_option maxRecDepth 100000 in
set_option maxHeartbeats 800000 in
/-- Has the quarter the cell? -/
theorem hasq_any {q : QN} {W : World} (h : q.At W) {x y : Int} {pb : Nat} (hp : Whole W pb 40 #[.int .i64 x, .int .i64 y]) {R : Bool} (hR : q.hasC x y = R) :
    Calls Try.prog 64 #[q.v, .pointer (some ⟨pb, 0, none⟩)] W fun e w' => e = .returned (.bool R) ∧ Below W.heap.size W w' := by
  have p0 := box_cell hp 0 _ rfl
  have p1 := box_cell hp 1 _ rfl
  have hsr := Since.refl W
  have hsd := hsr.drew
  cases hn : q.isNil with
  | true =>
    cases q with
    | nil =>
      obtain rfl : R = false := by rw [← hR]; rfl
      clear hR hp h
      simp only [QN.v]
      go_enter Try.func64, Try.ntmps64
      go_upto_region 1 with fail
      refine wp_region_held_drew (S := fun W' => Since W W') (by kernel_rfl) hsd (fun hHeld => ?_)
      refine wpAnyH_take (i := 0) (v := ?_) rfl (by kernel_rfl) (by kernel_rfl) (by kernel_rfl) (fun _ _ _ h => h) (Or.inl ⟨by rfl, ?_⟩) (by assumption) ?_
      rotate_left 1
      · (intro W hW; clear hW; go_simp; try with_reducible rfl)
      simp only [Act.put, List.getElem_toArray, List.getElem_cons_zero, List.setIfInBounds_toArray, List.set_cons_zero, List.set_cons_succ]
      refine wpAnyH_take (i := 1) (v := ?_) rfl (by kernel_rfl) (by kernel_rfl) (by kernel_rfl) (fun _ _ _ h => h) (Or.inl ⟨by rfl, ?_⟩) (by assumption) ?_
      rotate_left 1
      · (intro W hW; clear hW; go_simp; try with_reducible rfl)
      simp only [Act.put, List.getElem_toArray, List.getElem_cons_succ, List.getElem_cons_zero, List.setIfInBounds_toArray, List.set_cons_zero, List.set_cons_succ]
      refine wpAnyH_take (i := 2) (v := ?_) rfl (by kernel_rfl) (by kernel_rfl) (by kernel_rfl) (fun _ _ _ h => h) (Or.inl ⟨by rfl, ?_⟩) (by assumption) ?_
      rotate_left 1
      · (intro W hW; clear hW; go_simp; try with_reducible rfl)
      simp only [Act.put, List.getElem_toArray, List.getElem_cons_succ, List.getElem_cons_zero, List.setIfInBounds_toArray, List.set_cons_zero, List.set_cons_succ]
      refine wpAnyH_take (i := 3) (v := undef) rfl (by kernel_rfl) (by kernel_rfl) (by kernel_rfl) (fun _ _ _ h => h) (Or.inr ⟨by rfl, rfl⟩) (by assumption) ?_
      simp only [Act.put, List.getElem_toArray, List.getElem_cons_succ, List.getElem_cons_zero, List.setIfInBounds_toArray, List.set_cons_zero, List.set_cons_succ]
      refine wpAnyH_take (i := 4) (v := undef) rfl (by kernel_rfl) (by kernel_rfl) (by kernel_rfl) (fun _ _ _ h => h) (Or.inr ⟨by rfl, rfl⟩) (by assumption) ?_
      simp only [Act.put, List.getElem_toArray, List.getElem_cons_succ, List.getElem_cons_zero, List.setIfInBounds_toArray, List.set_cons_zero, List.set_cons_succ]
      refine wpAnyH_take (i := 5) (v := undef) rfl (by kernel_rfl) (by kernel_rfl) (by kernel_rfl) (fun _ _ _ h => h) (Or.inr ⟨by rfl, rfl⟩) (by assumption) ?_
      simp only [Act.put, List.getElem_toArray, List.getElem_cons_succ, List.getElem_cons_zero, List.setIfInBounds_toArray, List.set_cons_zero, List.set_cons_succ]
      refine wpAnyH_take (i := 6) (v := undef) rfl (by kernel_rfl) (by kernel_rfl) (by kernel_rfl) (fun _ _ _ h => h) (Or.inr ⟨by rfl, rfl⟩) (by assumption) ?_
      simp only [Act.put, List.getElem_toArray, List.getElem_cons_succ, List.getElem_cons_zero, List.setIfInBounds_toArray, List.set_cons_zero, List.set_cons_succ]
      refine wpAnyH_take (i := 7) (v := undef) rfl (by kernel_rfl) (by kernel_rfl) (by kernel_rfl) (fun _ _ _ h => h) (Or.inr ⟨by rfl, rfl⟩) (by assumption) ?_
      simp only [Act.put, List.getElem_toArray, List.getElem_cons_succ, List.getElem_cons_zero, List.setIfInBounds_toArray, List.set_cons_zero, List.set_cons_succ]
      refine wpAnyH_take (i := 8) (v := undef) rfl (by kernel_rfl) (by kernel_rfl) (by kernel_rfl) (fun _ _ _ h => h) (Or.inr ⟨by rfl, rfl⟩) (by assumption) ?_
      simp only [Act.put, List.getElem_toArray, List.getElem_cons_succ, List.getElem_cons_zero, List.setIfInBounds_toArray, List.set_cons_zero, List.set_cons_succ]
      refine wpAnyH_take (i := 9) (v := ?_) rfl (by kernel_rfl) (by kernel_rfl) (by kernel_rfl) (fun _ _ _ h => h) (Or.inl ⟨by rfl, ?_⟩) (by assumption) ?_
      rotate_left 1
      · (intro W hW; clear hW; go_simp; try with_reducible rfl)
      simp only [Act.put, List.getElem_toArray, List.getElem_cons_succ, List.getElem_cons_zero, List.setIfInBounds_toArray, List.set_cons_zero, List.set_cons_succ]
      refine wpAnyH_take (i := 10) (v := ?_) rfl (by kernel_rfl) (by kernel_rfl) (by kernel_rfl) (fun _ _ _ h => h) (Or.inl ⟨by rfl, ?_⟩) (by assumption) ?_
      rotate_left 1
      · (intro W hW; clear hW; go_simp; try with_reducible rfl)
      simp only [Act.put, List.getElem_toArray, List.getElem_cons_succ, List.getElem_cons_zero, List.setIfInBounds_toArray, List.set_cons_zero, List.set_cons_succ]
      refine wpAnyH_done (by kernel_rfl) ?_ _
      go_wp2_with fail
      go_ret
      exact ⟨rfl, hsd⟩
    | leaf g v a L => cases hn
    | quad g n a q => cases hn
  | false =>
    have hw : ∃ g cs, q.v = .pointer (some ⟨g, 0, none⟩) ∧ Whole W g 68 cs ∧ cs[0]? = some (.int .i64 q.area.x) ∧ cs[1]? = some (.int .i64 q.area.y) ∧ cs[2]? = some (.int .i64 q.area.w) ∧ cs[3]? = some (.int .i64 q.area.h) := by
      cases q with
      | nil => cases hn
      | leaf g v a L => exact ⟨g, _, rfl, h.1, rfl, rfl, rfl, rfl⟩
      | quad g n a q => exact ⟨g, _, rfl, h.1, rfl, rfl, rfl, rfl⟩
    obtain ⟨g, cs, e, hc, h0, h1, h2, h3⟩ := hw
    have hR2 : hasR ⟨q.area.x, q.area.y, q.area.w, q.area.h⟩ x y = R := by rw [← hR]; unfold QN.hasC; rw [hn]; rfl
    have c0 := box_cell hc 0 _ h0
    have c1 := box_cell hc 1 _ h1
    have c2 := box_cell hc 2 _ h2
    have c3 := box_cell hc 3 _ h3
    have HH := Lib.hid (fun w => hR2 ▸ wHas_any q.area.x q.area.y q.area.w q.area.h x y w)
    generalize q.area.x = ax, q.area.y = ay, q.area.w = aw, q.area.h = ah at *
    rw [e]
    clear hR hR2 hp h hn e hc h0 h1 h2 h3
    go_enter Try.func64, Try.ntmps64
    go_upto_region 1 with fail
    go_region_held3 (fun W' => Since W W') (first | assumption | exact Since.drew (by assumption)) ((first | (go_at_call 39; (with_reducible refine (Calls.since (by assumption) (HH.out _)).mono ?_); rintro e w5 ⟨rfl, hb5⟩)))
    go_wp2_with fail
    go_ret
    exact ⟨rfl, hb5⟩
end Go.Proofs.Yteohkmhndomhgaa
