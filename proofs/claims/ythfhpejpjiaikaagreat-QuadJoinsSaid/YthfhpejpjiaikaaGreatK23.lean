/- quad: nodes$1 at a node that is met: the node, then those of its quarters. -/
import Derived.Test.YthfhpejpjiaikaaGreatK02
import Derived.Test.YthfhpejpjiaikaaGreatK12
import Derived.Test.YthfhpejpjiaikaaGreatK14
import Derived.Test.YthfhpejpjiaikaaGreatK22
namespace Go.Proofs.YthfhpejpjiaikaaGreat
open Go.RowKit Go.Shelf
attribute [local go_sem] Oper.semAt_some
set_option linter.unusedVariables false
set_option linter.unusedSimpArgs false
/-- A step further below. -/
abbrev subN (x : Int × QN) : Int × QN := (x.1 + 1, x.2)
/-- The node, and the nodes of its first i quarters. -/
def upN (p : QN) (r : Rc) (kids : Nat → QN) (i : Nat) : List (Int × QN) := (0, p) :: ((List.range i).flatMap fun i => (kids i).visit r).map subN
theorem upN_succ (p : QN) (r : Rc) (kids : Nat → QN) (i : Nat) : upN p r kids (i + 1) = upN p r kids i ++ ((kids i).visit r).map subN := by
  unfold upN
  rw [List.range_succ, List.flatMap_append]
  simp
theorem upN_pre (p : QN) (r : Rc) (kids : Nat → QN) {i : Nat} (hi : i < 4) {pre : List (Int × QN)} (hp : pre <+: (kids i).visit r) : upN p r kids i ++ pre.map subN <+: upN p r kids 4 := by
  have h1 : ∀ m, i + 1 ≤ m → upN p r kids (i + 1) <+: upN p r kids m := by
    intro m hm
    induction hm with
    | refl => exact List.prefix_refl _
    | step _ ih => exact ih.trans ⟨_, (upN_succ p r kids _).symm⟩
  refine List.IsPrefix.trans ?_ (h1 4 hi)
  rw [upN_succ]
  exact List.prefix_append_right_inj _ |>.2 (List.IsPrefix.map _ hp)
/-- What is known between two rounds of the loop over the quarters. -/
structure InvN (T : List (Int × QN)) (J : List (Int × QN) → (Nat → Prop) → World → Prop) (F0 : Nat → Prop) (w0 W1 : World) (ds : List Nat) : Prop where
  ex : ∃ F1, J T F1 W1 ∧ (∀ b, F1 b → F0 b ∨ w0.heap.size ≤ b) ∧ ∀ D ∈ ds, ¬ F1 D
  off : Off F0 w0 W1
  nodup : ds.Nodup
  marks : ∀ D ∈ ds, W1.heap[D]? = some (.deferred (some []))
  low : ∀ D ∈ ds, w0.heap.size ≤ D
theorem shut_end {T : List (Int × QN)} {J : List (Int × QN) → (Nat → Prop) → World → Prop} {F0 : Nat → Prop} {w0 W1 : World} {ds : List Nat} (h : InvN T J F0 w0 W1 ds) (kJ : Kept J) : EndP J T F0 w0 (shutD ds W1) := by
  obtain ⟨F1, h1, h2, h3⟩ := h.ex
  have ho := shutD_off ds W1
  refine ⟨F1, kJ _ _ _ _ h1 (by rw [shutD_size]; exact Nat.le_refl _) (fun b hb => ?_), h.off.trans ho (fun b hb z => by have := h.low b z; omega), h2⟩
  have hn : b ∉ ds := fun z => h3 b z hb
  -- a block of the object is no mark's
  have hlt : ∀ (ds : List Nat) (W : World), b ∉ ds → (shutD ds W).heap[b]? = W.heap[b]? := by
    intro ds
    induction ds with
    | nil => intro W _; rfl
    | cons D ds ih =>
      intro W hb
      rw [shutD, ih _ (fun z => hb (List.mem_cons_of_mem _ z))]
      exact World.putObj_heap_other (fun z => hb (z ▸ List.mem_cons_self))
  exact hlt ds W1 hn
theorem inv_next {T T' : List (Int × QN)} {J K : List (Int × QN) → (Nat → Prop) → World → Prop} {F0 F1 F' : Nat → Prop} {w0 W1 wl W3 : World} {ds : List Nat} {D : Nat} (h : InvN T J F0 w0 W1 ds) (j2 : ∀ b, F1 b → F0 b ∨ w0.heap.size ≤ b) (j3 : ∀ D ∈ ds, ¬ F1 D)
    (hsl : Since W1 wl) (k1 : K T' F' W3) (ho : Off F1 wl W3) (hf : ∀ b, F' b → F1 b ∨ wl.heap.size ≤ b) (hDF : ¬ F' D) (hdd : W3.heap[D]? = some (.deferred (some []))) (hD : wl.heap.size ≤ D) : InvN T' K F0 w0 W3 (D :: ds) := by
  have z1 := h.off.size
  have z2 := hsl.size_
  have hlt : ∀ E ∈ ds, E < W1.heap.size := fun E hE => (Array.getElem?_eq_some_iff.1 (h.marks E hE)).1
  refine ⟨⟨F', k1, fun b hb => ?_, fun E hE z => ?_⟩, (h.off.since hsl).trans ho (fun b hb z => (j2 b z).resolve_right (by omega)), List.nodup_cons.2 ⟨fun z => by have := hlt D z; omega, h.nodup⟩, fun E hE => ?_, fun E hE => ?_⟩
  · rcases hf b hb with y | y
    · exact j2 b y
    · exact .inr (by omega)
  · rcases List.mem_cons.1 hE with rfl | hE
    · exact hDF z
    · rcases hf E z with y | y
      · exact j3 E hE y
      · have := hlt E hE; omega
  · rcases List.mem_cons.1 hE with rfl | hE
    · exact hdd
    · have := hlt E hE
      exact (ho.block E (by omega) (j3 E hE)).trans ((hsl.block E this).trans (h.marks E hE))
  · rcases List.mem_cons.1 hE with rfl | hE
    · omega
    · exact h.low E hE
theorem visit_nil {q : QN} (h : q.isNil = true) (r : Rc) : q.visit r = [] := by
  cases q <;> first | rfl | cases h
set_option maxRecDepth 100000 in
set_option maxHeartbeats 6400000 in
theorem nodes_met {p : QN} {g n : Nat} {vv : Value} {kids : Nat → QN} {r : Rc} {w : World} (hv : p.v = .pointer (some ⟨g, 0, none⟩)) (hgb : g ∈ p.bl) (hcs : Whole w g 71 (ncells p.area n vv fun i => (kids i).v))
    (hkb : ∀ i, i < 4 → ∀ b ∈ (kids i).bl, b ∈ p.bl) (hkA : ∀ i, i < 4 → (kids i).At w) (hhi : ∀ i, i < 4 → ∀ x ∈ (kids i).visit r, 0 ≤ x.1 ∧ x.1 ≤ 200000)
    (ih : ∀ i, i < 4 → (kids i).isNil = false → ∀ (W : World), (kids i).At W → ∀ {NB RB : Nat}, Whole W NB 68 #[(kids i).v] → Whole W RB 63 #[.int .i64 r.x, .int .i64 r.y, .int .i64 r.w, .int .i64 r.h] →
      SeqO 85 #[.pointer (some ⟨NB, 0, none⟩), .pointer (some ⟨RB, 0, none⟩)] encN ((kids i).visit r) (nodG (kids i) NB RB) W)
    (hm : toucR p.area r = true) {NB RB : Nat} (hn : Whole w NB 68 #[p.v]) (hr : Whole w RB 63 #[.int .i64 r.x, .int .i64 r.y, .int .i64 r.w, .int .i64 r.h]) (hlt : ∀ b ∈ p.bl, b < w.heap.size) :
    SeqO 85 #[.pointer (some ⟨NB, 0, none⟩), .pointer (some ⟨RB, 0, none⟩)] encN (upN p r kids 4) (nodG p NB RB) w := by
  intro l J Jx F0 W hsz hGW hFG kJ lJ kX lX hY hJ
  have hnW : Whole W NB 68 #[p.v] := (hGW NB (.inr (.inl rfl))).trans hn
  have hrW : Whole W RB 63 #[.int .i64 r.x, .int .i64 r.y, .int .i64 r.w, .int .i64 r.h] := (hGW RB (.inr (.inr rfl))).trans hr
  have hcW : Whole W g 71 (ncells p.area n vv fun i => (kids i).v) := (hGW g (.inl hgb)).trans hcs
  have hFlt := lJ _ _ _ hJ
  obtain ⟨w0, hw0⟩ : ∃ w0, w0 = W.alloc (.cells #[.func (.yield l) #[] #[]] 127) := ⟨_, rfl⟩
  have hs0 : Since W w0 := by rw [hw0]; exact (Since.refl W).alloc _
  have whY : Whole w0 W.heap.size 127 #[.func (.yield l) #[] #[]] := by rw [hw0]; exact Whole.new W _ _
  have hz0 : w0.heap.size = W.heap.size + 1 := by rw [hw0]; simp
  have HW := Lib.hid hw0
  clear hw0
  have hY0 := fun W' (hW' : Since w0 W') => hY [] (0, p) F0 W' (List.IsPrefix.trans (by simp [upN]) (upN_pre p r kids (i := 0) (by decide) (pre := []) (List.nil_prefix))) (kJ.since lJ hJ (hs0.trans hW')) ((hs0.trans hW').off _)
  obtain ⟨⟨a, b, c, d⟩, ha⟩ : ∃ A, p.area = A := ⟨_, rfl⟩
  obtain ⟨rx, ry, rw', rh⟩ := r
  obtain ⟨⟨X, Y, C, D⟩, hM⟩ : ∃ M, meetR ⟨a, b, c, d⟩ ⟨rx, ry, rw', rh⟩ = M := ⟨_, rfl⟩
  rw [ha] at hcW hm
  unfold toucR at hm
  rw [hM] at hm
  have hm0 : (areaR ⟨X, Y, C, D⟩ == 0) = false := by simpa using hm
  obtain ⟨ar, har⟩ : ∃ ar, areaR ⟨X, Y, C, D⟩ = ar := ⟨_, rfl⟩
  rw [har] at hm0
  have HM := Lib.hid hM
  have HA := Lib.hid har
  dsimp only [encN] at hY0
  rw [hv] at hnW hY0
  have HY := Lib.hid hY0
  obtain ⟨o0, e0, -⟩ := (kids 0).v_ptr
  obtain ⟨o1, e1, -⟩ := (kids 1).v_ptr
  obtain ⟨o2, e2, -⟩ := (kids 2).v_ptr
  obtain ⟨o3, e3, -⟩ := (kids 3).v_ptr
  have hgF : ¬ F0 g := fun z => hFG _ z (.inl hgb)
  have q0 := off_cell (F := F0) (hs0.whole hcW) hgF 0 (.int .i64 a) rfl
  have q1 := off_cell (F := F0) (hs0.whole hcW) hgF 1 (.int .i64 b) rfl
  have q2 := off_cell (F := F0) (hs0.whole hcW) hgF 2 (.int .i64 c) rfl
  have q3 := off_cell (F := F0) (hs0.whole hcW) hgF 3 (.int .i64 d) rfl
  have q6 := off_cell (F := F0) (hs0.whole hcW) hgF 6 (.pointer o0) (by rw [← e0]; rfl)
  have q7 := off_cell (F := F0) (hs0.whole hcW) hgF 7 (.pointer o1) (by rw [← e1]; rfl)
  have q8 := off_cell (F := F0) (hs0.whole hcW) hgF 8 (.pointer o2) (by rw [← e2]; rfl)
  have q9 := off_cell (F := F0) (hs0.whole hcW) hgF 9 (.pointer o3) (by rw [← e3]; rfl)
  have n0 := off_cell (F := F0) (hs0.whole hnW) (fun z => hFG _ z (.inr (.inl rfl))) 0 (.pointer (some ⟨g, 0, none⟩)) rfl
  have r0 := off_cell (F := F0) (hs0.whole hrW) (fun z => hFG _ z (.inr (.inr rfl))) 0 (.int .i64 rx) rfl
  have r1 := off_cell (F := F0) (hs0.whole hrW) (fun z => hFG _ z (.inr (.inr rfl))) 1 (.int .i64 ry) rfl
  have r2 := off_cell (F := F0) (hs0.whole hrW) (fun z => hFG _ z (.inr (.inr rfl))) 2 (.int .i64 rw') rfl
  have r3 := off_cell (F := F0) (hs0.whole hrW) (fun z => hFG _ z (.inr (.inr rfl))) 3 (.int .i64 rh) rfl
  have y0 := off_cell (F := F0) whY (fun z => Nat.lt_irrefl _ (hFlt _ z)) 0 (.func (.yield l) #[] #[]) rfl
  have hend : ∀ {K : List (Int × QN) → (Nat → Prop) → World → Prop} {t} {W1 W'}, Since w0 W1 → EndP K t F0 W1 W' → EndP K t F0 W W' := fun h1 h => EndP.since (hs0.trans h1) h
  have HWY := Lib.hid whY
  have HKA := Lib.hid (fun i (hi : i < 4) (W1 : World) (h : Off F0 w0 W1) => (hkA i hi).keep (W' := W1) (fun b hb => (h.block b (by have := hlt b (hkb i hi b hb); omega) (fun z => hFG b z (.inl (hkb i hi b hb)))).trans ((hs0.block b (by have := hlt b (hkb i hi b hb); omega)).trans (hGW b (.inl (hkb i hi b hb))))))
  have hix : ∀ i (hi : i < 4) (w : World), (Instr.index 69 (.agg #[.pointer o0, .pointer o1, .pointer o2, .pointer o3]) (.int .i64 (i : Nat))).run Tryz.prog w = .ok (kids i).v w := by
    intro i hi w
    rcases (show i = 0 ∨ i = 1 ∨ i = 2 ∨ i = 3 by omega) with rfl | rfl | rfl | rfl
    · rw [e0]; kernel_rfl
    · rw [e1]; kernel_rfl
    · rw [e2]; kernel_rfl
    · rw [e3]; kernel_rfl
  have HIX := Lib.hid hix
  clear hm hM hcW hcs hrW hY0 har whY hix e0 e1 e2 e3 hkA
  show Calls Tryz.prog 85 #[.func (.yield l) #[] #[], .pointer (some ⟨NB, 0, none⟩), .pointer (some ⟨RB, 0, none⟩)] W _
  refine (callsIn_wide (n := 0)).1 ?_
  refine callsIn_of_wp_marks Tryz.func85 rfl trivial ?_ rfl
  refine wpIn_wide.2 ?_
  simp only [Tryz.ntmps85, List.size_toArray, List.length_cons, List.length_nil, Nat.reduceAdd, Nat.reduceSub, Array.replicate_succ, Array.replicate_zero, List.push_toArray, List.append_toArray, List.nil_append, List.cons_append]
  go_wp2_with fail
  rw [← HW.out]
  obtain ⟨wq, hwq⟩ : ∃ wq, wq = w0.drew := ⟨_, rfl⟩
  have hqs : Since w0 wq := by rw [hwq]; exact (Since.refl w0).drew
  refine (wpIn_wide (n := 0)).1 ?_
  refine wide_held_calm (S := fun W' => Off F0 w0 W') (by kernel_rfl) ((Since.refl w0).drew.off _) (fun hHeld => ?_)
  rw [← hwq] at hHeld ⊢
  clear hwq
  refine wpAnyF_take (i := 0) (v := ?_) rfl (by kernel_rfl) (by kernel_rfl) (by kernel_rfl) (fun _ _ _ h => h) (Or.inl ⟨by rfl, ?_⟩) (by assumption) ?_
  rotate_left 1
  · (intro W hW; skip; go_simp; try with_reducible rfl)
  simp only [Act.put, List.getElem_toArray, List.getElem_cons_zero, List.setIfInBounds_toArray, List.set_cons_zero, List.set_cons_succ]
  refine wpAnyF_take (i := 1) (v := ?_) rfl (by kernel_rfl) (by kernel_rfl) (by kernel_rfl) (fun _ _ _ h => h) (Or.inl ⟨by rfl, ?_⟩) (by assumption) ?_
  rotate_left 1
  · (intro W hW; clear hW; go_simp; try with_reducible rfl)
  simp only [Act.put, List.getElem_toArray, List.getElem_cons_succ, List.getElem_cons_zero, List.setIfInBounds_toArray, List.set_cons_zero, List.set_cons_succ]
  refine wpAnyF_take (i := 2) (v := ?_) rfl (by kernel_rfl) (by kernel_rfl) (by kernel_rfl) (fun _ _ _ h => h) (Or.inl ⟨by rfl, ?_⟩) (by assumption) ?_
  rotate_left 1
  · (intro W hW; clear hW; go_simp; try with_reducible rfl)
  simp only [Act.put, List.getElem_toArray, List.getElem_cons_succ, List.getElem_cons_zero, List.setIfInBounds_toArray, List.set_cons_zero, List.set_cons_succ]
  refine wpAnyF_take (i := 3) (v := ?_) rfl (by kernel_rfl) (by kernel_rfl) (by kernel_rfl) (fun _ _ _ h => h) (Or.inl ⟨by rfl, ?_⟩) (by assumption) ?_
  rotate_left 1
  · (intro W hW; skip; go_simp; try with_reducible rfl)
  simp only [Act.put, List.getElem_toArray, List.getElem_cons_succ, List.getElem_cons_zero, List.setIfInBounds_toArray, List.set_cons_zero, List.set_cons_succ]
  refine wpAnyF_take (i := 4) (v := ?_) rfl (by kernel_rfl) (by kernel_rfl) (by kernel_rfl) (fun _ _ _ h => h) (Or.inl ⟨by rfl, ?_⟩) (by assumption) ?_
  rotate_left 1
  · (intro W hW; skip; go_simp; try with_reducible rfl)
  simp only [Act.put, List.getElem_toArray, List.getElem_cons_succ, List.getElem_cons_zero, List.setIfInBounds_toArray, List.set_cons_zero, List.set_cons_succ]
  refine wpAnyF_ready (rs := [5]) (by kernel_rfl) (by simp) ?_
  refine AllReadyF.cons rfl (fun K hK => ?_) AllReadyF.nil
  go_simp
  refine (wMeet_at HM.out _).mono ?_
  rintro e w2 ⟨rfl, hb2⟩
  have hs2 := Since.trans hqs hb2
  go_wp2_with fail
  refine hK.out _ _ (hs2.off _) (fun hHeld => ?_)
  clear hK K
  try simp only [Act.put, List.getElem_toArray, List.getElem_cons_succ, List.getElem_cons_zero, List.setIfInBounds_toArray, List.set_cons_zero, List.set_cons_succ]
  refine wpAnyF_ready (rs := [6]) (by kernel_rfl) (by simp) ?_
  refine AllReadyF.cons rfl (fun K hK => ?_) AllReadyF.nil
  go_simp
  refine (wArea_at HA.out _).mono ?_
  rintro e w3 ⟨rfl, hb3⟩
  have hs3 := Since.trans hs2 hb3
  go_wp2_with fail
  refine hK.out _ _ (hs3.off _) (fun hHeld => ?_)
  clear hK K
  try simp only [Act.put, List.getElem_toArray, List.getElem_cons_succ, List.getElem_cons_zero, List.setIfInBounds_toArray, List.set_cons_zero, List.set_cons_succ]
  refine wpAnyF_take (i := 7) (v := ?_) rfl (by kernel_rfl) (by kernel_rfl) (by kernel_rfl) (fun _ _ _ h => h) (Or.inl ⟨by rfl, ?_⟩) (by assumption) ?_
  rotate_left 1
  · (intro W hW; clear hW; go_simp; try with_reducible rfl)
  simp only [Act.put, List.getElem_toArray, List.getElem_cons_succ, List.getElem_cons_zero, List.setIfInBounds_toArray, List.set_cons_zero, List.set_cons_succ]
  refine wpAnyF_take (i := 8) (v := ?_) rfl (by kernel_rfl) (by kernel_rfl) (by kernel_rfl) (fun _ _ _ h => h) (Or.inl ⟨by rfl, ?_⟩) (by assumption) ?_
  rotate_left 1
  · (intro W hW; clear hW; go_simp; try with_reducible rfl)
  simp only [Act.put, List.getElem_toArray, List.getElem_cons_succ, List.getElem_cons_zero, List.setIfInBounds_toArray, List.set_cons_zero, List.set_cons_succ]
  refine wpAnyF_take (i := 9) (v := ?_) rfl (by kernel_rfl) (by kernel_rfl) (by kernel_rfl) (fun _ _ _ h => h) (Or.inl ⟨by rfl, ?_⟩) (by assumption) ?_
  rotate_left 1
  · (intro W hW; skip; go_simp; try with_reducible rfl)
  simp only [Act.put, List.getElem_toArray, List.getElem_cons_succ, List.getElem_cons_zero, List.setIfInBounds_toArray, List.set_cons_zero, List.set_cons_succ]
  refine wpAnyF_take (i := 10) (v := ?_) rfl (by kernel_rfl) (by kernel_rfl) (by kernel_rfl) (fun _ _ _ h => h) (Or.inl ⟨by rfl, ?_⟩) (by assumption) ?_
  rotate_left 1
  · (intro W hW; skip; go_simp; try with_reducible rfl)
  simp only [Act.put, List.getElem_toArray, List.getElem_cons_succ, List.getElem_cons_zero, List.setIfInBounds_toArray, List.set_cons_zero, List.set_cons_succ]
  refine wpAnyF_ready (rs := [11]) (by kernel_rfl) (by simp) ?_
  refine AllReadyF.yield rfl (fun K hK => ?_) AllReadyF.nil
  obtain ⟨fn, tmps, assign, body, hyy, hR⟩ := HY.out _ hs3 0
  rw [if_pos (by rfl)]
  refine ⟨fun _ _ => trivial, ?_⟩
  go_simp
  refine ⟨rfl, ?_⟩
  refine hR.mono ?_
  rintro e w4 hpost
  obtain ⟨bb, rfl, ho4, hend4⟩ := rnd_bb hpost
  have ho04 := Off.trans (hs3.off F0) ho4 (fun _ _ z => z)
  simp only []
  refine hK.out _ _ (ho04) (fun hHeld => ?_)
  clear hK K
  try simp only [Act.put, List.getElem_toArray, List.getElem_cons_succ, List.getElem_cons_zero, List.setIfInBounds_toArray, List.set_cons_zero, List.set_cons_succ]
  refine wpAnyF_take (i := 12) (v := ?_) rfl (by kernel_rfl) (by kernel_rfl) (by kernel_rfl) (fun _ _ _ h => h) (Or.inl ⟨by rfl, ?_⟩) (by assumption) ?_
  rotate_left 1
  · (intro W hW; clear hW; go_simp; try with_reducible rfl)
  simp only [Act.put, List.getElem_toArray, List.getElem_cons_succ, List.getElem_cons_zero, List.setIfInBounds_toArray, List.set_cons_zero, List.set_cons_succ]
  refine wpAnyF_take (i := 13) (v := ?_) rfl (by kernel_rfl) (by kernel_rfl) (by kernel_rfl) (fun _ _ _ h => h) (Or.inl ⟨by rfl, ?_⟩) (by assumption) ?_
  rotate_left 1
  · (intro W hW; clear hW; go_simp; try with_reducible rfl)
  simp only [Act.put, List.getElem_toArray, List.getElem_cons_succ, List.getElem_cons_zero, List.setIfInBounds_toArray, List.set_cons_zero, List.set_cons_succ]
  refine wpAnyF_done (by kernel_rfl) ?_ _
  rcases hend4 with ⟨rfl, h1⟩ | ⟨rfl, h1⟩
  · have hI0 : InvN (upN p ⟨rx, ry, rw', rh⟩ kids 0) J F0 w0 w4 [] := by
      obtain ⟨F1, j1, j2, j3⟩ := h1
      exact ⟨⟨F1, j1, fun b hb => (j3 b hb).imp id (fun z => Nat.le_trans hs3.size_ z), fun _ h => by cases h⟩, ho04, List.nodup_nil, (fun _ h => by cases h), (fun _ h => by cases h)⟩
    have HI0 := Lib.hid hI0
    clear h1 hI0
    simp only [calmQ, Bool.not_true]
    go_wp2
    refine (wpIn_wide (n := 0)).1 ?_
    refine rounds_inv 4 (fun i A W1 => ∃ u5 u27 u28 u29 u30 u31 u32 u33 u42 ds, A = { tmps := #[.func (.yield l) #[] #[], .pointer (some ⟨NB, 0, none⟩), .pointer (some ⟨RB, 0, none⟩), .pointer (some ⟨W.heap.size, 0, none⟩), undef, u5, undef, undef, .pointer (some ⟨g, 0, none⟩), .pointer (some ⟨g, 0, none⟩), .pointer (some ⟨g, 0, none⟩), .agg #[.int .i64 a, .int .i64 b, .int .i64 c, .int .i64 d], .agg #[.int .i64 rx, .int .i64 ry, .int .i64 rw', .int .i64 rh], .agg #[.int .i64 X, .int .i64 Y, .int .i64 C, .int .i64 D], .int .i64 ar, .bool false, .bool false, .func (.yield l) #[] #[], .pointer (some ⟨g, 0, none⟩), .bool true, .bool false, .bool false, .pointer (some ⟨g, 0, none⟩), .pointer (some ⟨g, 0, none⟩), .pointer (some ⟨g, 6, none⟩), .agg #[.pointer o0, .pointer o1, .pointer o2, .pointer o3], .int .i64 (i : Nat), u27, u28, u29, u30, u31, u32, u33, undef, undef, undef, undef, undef, undef, undef, undef, u42], defers := marksD ds } ∧ InvN (upN p ⟨rx, ry, rw', rh⟩ kids i) J F0 w0 W1 ds) ?start ?step ?done
    case start => exact ⟨_, _, _, _, _, _, _, _, _, [], rfl, HI0.out⟩
    case done =>
      rintro A W1 ⟨u5, u27, u28, u29, u30, u31, u32, u33, u42, ds, rfl, hI⟩
      refine wpIn_wide.2 ?_
      go_wp2
      exact leaves_marks ds W1 hI.nodup hI.marks ⟨.tuple #[], by simp [results, Tryz.results85, go_sem], ⟨_, rfl⟩, .inl (EndP.since hs0 (shut_end hI kJ))⟩
    case step =>
      rintro i A W1 hi ⟨u5, u27, u28, u29, u30, u31, u32, u33, u42, ds, rfl, hI⟩
      obtain ⟨o, eo, hnil⟩ := (kids i).v_ptr
      have hI4 : decide ((i : Int) < 4) = true := decide_eq_true (by omega)
      have hIx := fun w => HIX.out i hi w
      rw [eo] at hIx
      have hiw : IntKind.i64.wrap ((i : Int) + 1) = ((i + 1 : Nat) : Int) := IntWalk.i64_in _ (by omega)
      have hO1 := hI.off
      have HII := Lib.hid hI
      have HNL := Lib.hid hnil
      clear hI hnil
      refine wpIn_wide.2 ?_
      cases o with
      | none =>
        go_wp2_with (refine wpList_index_is rfl _ _ _ rfl rfl rfl (hIx _) ?_)
        refine ⟨_, _, _, _, _, _, _, _, _, ds, rfl, ?_⟩
        rw [upN_succ, visit_nil HNL.out.symm, List.map_nil, List.append_nil]
        exact HII.out
      | some ad =>
        go_wp2_with (first | (refine wpList_index_is rfl _ _ _ rfl rfl rfl (hIx _) ?_) | (go_at_call 50; (with_reducible refine (nodes_any _ _ rfl ⟨rx, ry, rw', rh⟩ _).mono ?_); rintro e w2 ⟨rfl, hw2⟩))
        subst hw2
        have hIN := HII.out
        obtain ⟨F1, j1, j2, j3⟩ := hIN.ex
        obtain ⟨wl, hwl⟩ : ∃ wl, wl = ((W1.alloc (.cells #[.pointer (some ad)] 68)).alloc (.cells #[.int .i64 rx, .int .i64 ry, .int .i64 rw', .int .i64 rh] 63)) := ⟨_, rfl⟩
        rw [← hwl]
        have hsl : Since W1 wl := by rw [hwl]; exact ((Since.refl W1).alloc _).alloc _
        have whN : Whole wl W1.heap.size 68 #[(kids i).v] := by rw [hwl, eo]; exact (Whole.new W1 _ _).alloc _
        have whR : Whole wl (W1.heap.size + 1) 63 #[.int .i64 rx, .int .i64 ry, .int .i64 rw', .int .i64 rh] := by rw [hwl]; exact (Whole.new (W1.alloc _) _ _).at_ (by simp)
        have hzl : wl.heap.size = W1.heap.size + 2 := by rw [hwl]; simp
        have hz01 := hO1.size
        have hF1lt := lJ _ _ _ j1
        have hni : (kids i).isNil = false := HNL.out.symm
        have hseq := ih i hi hni wl ((HKA.out i hi W1 hO1).since hsl) whN whR
        clear hwl whN whR
        refine (wpIn_wide (n := 0)).1 ?_
        refine range_wp (gf := 85) (lb := #[.pointer (some ⟨W1.heap.size, 0, none⟩), .pointer (some ⟨W1.heap.size + 1, 0, none⟩)]) rfl (enters_of Tryz.func85 (by kernel_rfl) rfl) hseq ?hG (fun _ => rfl)
          (fun pre F W => J (upN p ⟨rx, ry, rw', rh⟩ kids i ++ pre.map subN) F W) (fun c pre F W => c = .ret ∧ Jx (upN p ⟨rx, ry, rw', rh⟩ kids i ++ pre.map subN) F W)
          (fun s F W W' h => kJ _ F W W' h) (fun s F W h => lJ _ F W h) (fun c s F W W' h hs hb => ⟨h.1, kX _ F W W' h.2 hs hb⟩) (fun c s F W h => lX _ F W h.2)
          F1 ?hF0 ?h0 ?rnd ?dn ?stp
        case hG =>
          rintro b (z | z | z)
          · have := hlt b (hkb i hi b z); omega
          · omega
          · omega
        case hF0 =>
          rintro b hb (z | z | z)
          · rcases j2 b hb with y | y
            · exact hFG b y (.inl (hkb i hi b z))
            · have := hlt b (hkb i hi b z); omega
          · have := hF1lt b hb; omega
          · have := hF1lt b hb; omega
        case h0 =>
          rw [List.map_nil, List.append_nil]
          exact kJ.since lJ j1 hsl
        case stp =>
          rintro D c pre W3 hD hpre ⟨F', ⟨rfl, h⟩, ho, hf, hDF⟩ hdd
          have hN := inv_next (K := Jx) hIN j2 j3 hsl h ho hf hDF hdd hD
          have HN := Lib.hid hN
          clear hN h ho hf hdd
          refine wpIn_wide.2 ?_
          go_wp2
          exact leaves_marks (D :: ds) W3 HN.out.nodup HN.out.marks ⟨.tuple #[], by simp [results, Tryz.results85, go_sem], ⟨_, rfl⟩, .inr ⟨_, upN_pre p ⟨rx, ry, rw', rh⟩ kids hi hpre, EndP.since hs0 (shut_end HN.out kX)⟩⟩
        case dn =>
          rintro D W3 hD ⟨F', h, ho, hf, hDF⟩ hdd
          have hN := inv_next (K := J) hIN j2 j3 hsl h ho hf hDF hdd hD
          rw [← upN_succ] at hN
          have HN := Lib.hid hN
          clear hN h ho hf hdd
          go_wp2
          exact ⟨_, _, _, _, _, _, _, _, _, D :: ds, rfl, HN.out⟩
        case rnd =>
          rintro l2 pre ⟨bw, qx⟩ F W2 hpre hI2 hoff hwl2 hl2 hFl
          obtain ⟨hb0, hb1⟩ := hhi i hi (bw, qx) (hpre.subset (by simp))
          obtain ⟨vo, hvo, -⟩ := qx.v_ptr
          have hbw : IntKind.i64.wrap (bw + 1) = bw + 1 := IntWalk.i64_in _ (by dsimp only at hb0 hb1; omega)
          have hp2 := upN_pre p ⟨rx, ry, rw', rh⟩ kids hi hpre
          rw [List.map_append, ← List.append_assoc] at hp2
          have hsz2 := hoff.size
          have HX := Lib.hid (fun W3 (hz3 : W3.heap.size = W2.heap.size) (ho3 : Off (fun b => b = l2) W2 W3) => show Off F0 w0 W3 from ((hO1.since hsl).trans hoff (fun b hb z => (j2 b z).resolve_right (by omega))).trans ho3 (fun b hb z => by have z' : b = l2 := z; omega))
          have HY3 := Lib.hid (fun W3 (hz3 : W3.heap.size = W2.heap.size) (ho3 : Off (fun b => b = l2) W2 W3) => hY _ (subN (bw, qx)) F W3 hp2 (kJ _ _ _ _ hI2 (by omega) (fun b hb => ho3.block b (lJ _ _ _ hI2 b hb) (fun z => hFl (by have z' : b = l2 := z; rw [← z']; exact hb)))) ((hs0.off F0).trans (HX.out W3 hz3 ho3) (fun b hb z => z)))
          simp only [encN, hvo]
          clear hseq hpre hp2 hI2
          gi_wp2
          refine ⟨Since.refl W2, fun W3 hz3 ho3 => ?_⟩
          have hyc := y0 W3 (HX.out W3 hz3 ho3)
          obtain ⟨fn, tmps, assign, body, hyy, hR⟩ := HY3.out W3 hz3 ho3 0
          dsimp only [encN, subN] at hyy
          rw [hvo] at hyy
          gi_wp2
          refine ⟨rfl, ?_⟩
          refine (RoundIn.inRound l2 hR).mono ?_
          rintro e W4 hpost
          obtain ⟨bb, rfl, ho4, hend4⟩ := rnd_bb hpost
          rcases hend4 with ⟨rfl, F', k1, k2, k3⟩ | ⟨rfl, F', k1, k2, k3⟩
          · gi_wp2
            exact ⟨F', by (try dsimp only); rw [List.map_append, ← List.append_assoc]; exact k1, k2, fun b hb => (k3 b hb).imp id (fun z => by omega)⟩
          · gi_wp2
            exact ⟨F', ⟨rfl, by (try dsimp only); rw [List.map_append, ← List.append_assoc]; exact k1⟩, k2, fun b hb => (k3 b hb).imp id (fun z => by omega)⟩
  · simp only [calmQ, Bool.not_false]
    go_wp2
    exact ⟨.tuple #[], by simp [results, Tryz.results85, go_sem], ⟨_, rfl⟩, .inr ⟨[(0, p)], List.IsPrefix.trans (by simp [upN]) (upN_pre p ⟨rx, ry, rw', rh⟩ kids (i := 0) (by decide) (pre := []) (List.nil_prefix)), hend hs3 h1⟩⟩
/-- How high a tree stands. -/
def QN.high : QN → Nat
  | .nil => 0
  | .leaf .. => 0
  | .quad _ _ _ q => 1 + max (max (q 0).high (q 1).high) (max (q 2).high (q 3).high)
theorem visit_high (r : Rc) : ∀ (q : QN) (x : Int × QN), x ∈ q.visit r → 0 ≤ x.1 ∧ x.1 ≤ q.high
  | .nil, x, h => by cases h
  | .leaf g v a L, x, h => by
    simp only [QN.visit] at h
    split at h
    · simp only [List.mem_singleton] at h
      subst h
      exact ⟨Int.le_refl _, Int.natCast_nonneg _⟩
    · cases h
  | .quad g n a q, x, h => by
    simp only [QN.visit] at h
    split at h
    · rcases List.mem_cons.1 h with rfl | h
      · exact ⟨Int.le_refl _, Int.natCast_nonneg _⟩
      · obtain ⟨y, hy, rfl⟩ := List.mem_map.1 h
        simp only [List.mem_append] at hy
        simp only [QN.high]
        rcases hy with ((hy | hy) | hy) | hy
        · have := visit_high r (q 0) y hy; (try dsimp only); omega
        · have := visit_high r (q 1) y hy; (try dsimp only); omega
        · have := visit_high r (q 2) y hy; (try dsimp only); omega
        · have := visit_high r (q 3) y hy; (try dsimp only); omega
    · cases h
theorem ok_high : ∀ (q : QN) (a : Rc) (L : List Rq), q.Ok a L → (neR a = true → Good a) → (q.high : Int) ≤ max 0 (a.w + a.h)
  | .nil, a, L, _, _ => by simp only [QN.high]; omega
  | .leaf .., a, L, _, _ => by simp only [QN.high]; omega
  | .quad g n b q, a, L, h, hg => by
    obtain ⟨rfl, _, h3, _, h5, h6⟩ := h
    have hgd := hg h3
    have ih := fun i (hi : i < 4) => ok_high (q i) (qtr b i) _ (h6 i hi) (fun hn => qtr_good hgd hi hn)
    have hw := hgd.w1
    have hh := hgd.h1
    have k := fun i (hi : i < 4) => qtr_less hgd h5 hi
    have a0 := ih 0 (by decide); have a1 := ih 1 (by decide); have a2 := ih 2 (by decide); have a3 := ih 3 (by decide)
    have b0 := k 0 (by decide); have b1 := k 1 (by decide); have b2 := k 2 (by decide); have b3 := k 3 (by decide)
    simp only [QN.high]
    omega
theorem leaf_met {g : Nat} {v : Value} {a : Rc} {L : List Rq} {r : Rc} (h : toucR a r = true) : (QN.leaf g v a L).visit r = upN (.leaf g v a L) r (fun _ => .nil) 4 := by
  simp only [QN.visit, h, if_true]
  rfl
theorem quad_met {g n : Nat} {a : Rc} {q : Nat → QN} {r : Rc} (h : toucR a r = true) : (QN.quad g n a q).visit r = upN (.quad g n a q) r q 4 := by
  simp only [QN.visit, h, if_true, upN]
  simp [List.range_succ]
/-- **The iterator over a tree's nodes.** -/
theorem nodes_seq (r : Rc) : ∀ (q : QN), q.high ≤ 190000 → q.isNil = false → ∀ (w : World), q.At w → ∀ {NB RB : Nat}, Whole w NB 68 #[q.v] → Whole w RB 63 #[.int .i64 r.x, .int .i64 r.y, .int .i64 r.w, .int .i64 r.h] →
    SeqO 85 #[.pointer (some ⟨NB, 0, none⟩), .pointer (some ⟨RB, 0, none⟩)] encN (q.visit r) (nodG q NB RB) w := by
  intro q
  induction q with
  | nil => intro _ h; cases h
  | leaf g v a L =>
    intro _ _ w hA NB RB hn hr
    have hw : Whole w g 71 (ncells a L.length v noQ) := hA.1
    cases hm : toucR a r with
    | true =>
      rw [leaf_met hm]
      have k4 : g ∈ (QN.leaf g v a L).bl := List.mem_cons_self
      have k5 : ∀ b ∈ (QN.leaf g v a L).bl, b < w.heap.size := hA.lt
      have k7 : (QN.leaf g v a L).v = .pointer (some ⟨g, 0, none⟩) := rfl
      have k8 : (QN.leaf g v a L).area = a := rfl
      have hw' : Whole w g 71 (ncells a L.length v fun i => ((fun _ : Nat => QN.nil) i).v) := hw
      have h0 : ∀ i, i < 4 → ∀ b ∈ ((fun _ : Nat => QN.nil) i).bl, b ∈ (QN.leaf g v a L).bl := fun i _ b hb => absurd hb List.not_mem_nil
      have h1 : ∀ i, i < 4 → ((fun _ : Nat => QN.nil) i).At w := fun _ _ => trivial
      have h2 : ∀ i, i < 4 → ∀ x ∈ ((fun _ : Nat => QN.nil) i).visit r, 0 ≤ x.1 ∧ x.1 ≤ 200000 := fun i _ x hx => absurd hx List.not_mem_nil
      have h3 : ∀ i, i < 4 → ((fun _ : Nat => QN.nil) i).isNil = false → ∀ (W : World), ((fun _ : Nat => QN.nil) i).At W → ∀ {NB RB : Nat}, Whole W NB 68 #[((fun _ : Nat => QN.nil) i).v] → Whole W RB 63 #[.int .i64 r.x, .int .i64 r.y, .int .i64 r.w, .int .i64 r.h] →
          SeqO 85 #[.pointer (some ⟨NB, 0, none⟩), .pointer (some ⟨RB, 0, none⟩)] encN (((fun _ : Nat => QN.nil) i).visit r) (nodG ((fun _ : Nat => QN.nil) i) NB RB) W := fun i hi hni => by simp [QN.isNil] at hni
      clear hA hw
      generalize QN.leaf g v a L = p at *
      rw [← k8] at hw' hm
      exact nodes_met k7 k4 hw' h0 h1 h2 h3 hm hn hr k5
    | false =>
      have e : (QN.leaf g v a L).visit r = [] := by simp only [QN.visit, hm]; rfl
      rw [e]
      refine nodes_out (p := QN.leaf g v a L) (g := g) rfl (fun W hb j u hj => ?_) hm hn hr hA.lt
      have hW : Whole W g 71 (ncells a L.length v noQ) := (hb g List.mem_cons_self).trans hw
      rw [hW.cell]
      rcases (show j = 0 ∨ j = 1 ∨ j = 2 ∨ j = 3 ∨ 4 ≤ j by omega) with rfl | rfl | rfl | rfl | h
      · exact hj
      · exact hj
      · exact hj
      · exact hj
      · rw [Array.getElem?_eq_none (by simpa using h)] at hj; cases hj
  | quad g n a q ih =>
    intro hh _ w hA NB RB hn hr
    have hw : Whole w g 71 (ncells a n (.slice none 0 0) fun i => (q i).v) := hA.1
    simp only [QN.high] at hh
    have hhi : ∀ i, i < 4 → (q i).high ≤ 190000 := fun i hi => by
      rcases (show i = 0 ∨ i = 1 ∨ i = 2 ∨ i = 3 by omega) with rfl | rfl | rfl | rfl <;> omega
    cases hm : toucR a r with
    | true =>
      rw [quad_met hm]
      have k1 : ∀ i, i < 4 → ∀ b ∈ (q i).bl, b ∈ (QN.quad g n a q).bl := fun i hi b hb => bl_quad.2 (.inr ⟨i, hi, hb⟩)
      have k2 : ∀ i, i < 4 → ∀ x ∈ (q i).visit r, 0 ≤ x.1 ∧ x.1 ≤ 200000 := fun i hi x hx => by have h1 := visit_high r (q i) x hx; have h2 := hhi i hi; omega
      have k3 : ∀ i, i < 4 → (q i).isNil = false → ∀ (W : World), (q i).At W → ∀ {NB RB : Nat}, Whole W NB 68 #[(q i).v] → Whole W RB 63 #[.int .i64 r.x, .int .i64 r.y, .int .i64 r.w, .int .i64 r.h] →
          SeqO 85 #[.pointer (some ⟨NB, 0, none⟩), .pointer (some ⟨RB, 0, none⟩)] encN ((q i).visit r) (nodG (q i) NB RB) W := fun i hi hni W hAt _ _ h1 h2 => ih i (hhi i hi) hni W hAt h1 h2
      have k4 : g ∈ (QN.quad g n a q).bl := bl_quad.2 (.inl rfl)
      have k5 : ∀ b ∈ (QN.quad g n a q).bl, b < w.heap.size := hA.lt
      have k6 : ∀ i, i < 4 → (q i).At w := hA.2
      have k7 : (QN.quad g n a q).v = .pointer (some ⟨g, 0, none⟩) := rfl
      have k8 : (QN.quad g n a q).area = a := rfl
      clear ih hA
      generalize QN.quad g n a q = p at *
      rw [← k8] at hw hm
      exact nodes_met k7 k4 hw k1 k6 k2 k3 hm hn hr k5
    | false =>
      have e : (QN.quad g n a q).visit r = [] := by simp only [QN.visit, hm]; rfl
      rw [e]
      refine nodes_out (p := QN.quad g n a q) (g := g) rfl (fun W hb j u hj => ?_) hm hn hr hA.lt
      have hW : Whole W g 71 (ncells a n (.slice none 0 0) fun i => (q i).v) := (hb g (bl_quad.2 (.inl rfl))).trans hw
      rw [hW.cell]
      rcases (show j = 0 ∨ j = 1 ∨ j = 2 ∨ j = 3 ∨ 4 ≤ j by omega) with rfl | rfl | rfl | rfl | h
      · exact hj
      · exact hj
      · exact hj
      · exact hj
      · rw [Array.getElem?_eq_none (by simpa using h)] at hj; cases hj
theorem Tree.high {q : QN} {a : Rc} {L : List Rq} {W : World} (h : Tree q a L W) : q.high ≤ 190000 := by
  have h1 := ok_high q a L h.ok (fun _ => h.good)
  have := h.good.x0; have := h.good.y0; have := h.good.x1; have := h.good.y1
  omega
end Go.Proofs.YthfhpejpjiaikaaGreat
