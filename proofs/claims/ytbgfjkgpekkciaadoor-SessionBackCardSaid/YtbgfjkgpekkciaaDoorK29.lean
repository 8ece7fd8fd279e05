/- session.takeRow, Take. -/
import Derived.Test.YtbgfjkgpekkciaaDoorK17
import Derived.Test.YtbgfjkgpekkciaaDoorK27
namespace Go.Proofs.YtbgfjkgpekkciaaDoor
open Go.RowKit
set_option linter.unusedVariables false
set_option linter.unusedSimpArgs false
/-- A number up to MaxSeq; a row; rows one behind the other. -/
def upS (s : RSt) : Int × RSt := (((upR 1099511627776 s.1 s.2).1 : Int), (s.1.drop (upR 1099511627776 s.1 s.2).2.1, (upR 1099511627776 s.1 s.2).2.2))
def readRow (s : RSt) : SR × RSt :=
  let a := upS s
  if 0 < a.1 then
    let b := readAns a.2
    (⟨b.1.1, b.1.2.1, b.1.2.2.1, b.1.2.2.2, a.1⟩, b.2)
  else (.zero, a.2)
def readRows : Nat → RSt → STab × RSt
  | 0, s => ([], s)
  | n + 1, s => ((readRows n s).1 ++ [(readRow (readRows n s).2).1], (readRow (readRows n s).2).2)
theorem readRows_len (n : Nat) (s : RSt) : (readRows n s).1.length = n := by
  induction n with
  | zero => rfl
  | succ n ih => simp [readRows, ih]
theorem upS_pos (s : RSt) : 0 ≤ (upS s).1 := Int.natCast_nonneg _
section
variable {w : World} {base g : Nat} {s t : RSt}
theorem upP (h : RdS w base g s) {x : Int} (hx : upS s = (x, t)) : Calls Tryd.prog 48 #[.pointer (some ⟨g, 0, none⟩), .int .i64 1099511627776] w (RPs base g t (.int .i64 x) w) := by
  obtain ⟨A, n, c, h⟩ := h
  refine (wupto h 1099511627776).mono ?_
  rintro y w' ⟨rfl, A', n', c', h1, ho⟩
  unfold upS at hx
  injection hx with e1 e2
  subst e1; subst e2
  exact ⟨rfl, ⟨A', n', c', h1⟩, ho.off⟩
set_option maxRecDepth 100000 in
theorem takeRow_any (h : RdS w base g s) {r : SR} (hr : readRow s = (r, t)) : Calls Tryd.prog 37 #[.pointer (some ⟨g, 0, none⟩)] w (RPs base g t (.agg #[.int .i64 r.er, .bool r.fd, .string r.val, .int .i64 r.ver, .int .i64 r.seq]) w) := by
  have hg := h.lt
  unfold readRow at hr
  obtain ⟨⟨x, s1⟩, hx⟩ : ∃ p, upS s = p := ⟨_, rfl⟩
  have hx0 : 0 ≤ x := by have := upS_pos s; rw [hx] at this; exact this
  have HU := Lib.hid hx
  simp only [hx] at hr
  clear hx
  obtain ⟨w0, hw0⟩ : ∃ w0, w0 = (w.alloc (.cells #[.int .i64 0, .bool false, .string ⟨#[]⟩, .int .i64 0, .int .i64 0] 53)).alloc (.cells #[.int .i64 0, .bool false, .string ⟨#[]⟩, .int .i64 0, .int .i64 0] 53) := ⟨_, rfl⟩
  have hs0 : Since w w0 := by rw [hw0]; exact ((Since.refl w).alloc _).alloc _
  have wh0 : Whole w0 (w.heap.size) 53 #[.int .i64 0, .bool false, .string ⟨#[]⟩, .int .i64 0, .int .i64 0] := by rw [hw0]; exact (Whole.new w _ _).alloc _
  have wh1 : Whole w0 (w.heap.size + 1) 53 #[.int .i64 0, .bool false, .string ⟨#[]⟩, .int .i64 0, .int .i64 0] := by rw [hw0]; exact (Whole.new (w.alloc _) _ _).at_ (by simp)
  have HW := Lib.hid hw0
  have c0_0 := box_cell wh0 0 (.int .i64 0) rfl
  have c0_1 := box_cell wh0 1 (.bool false) rfl
  have c0_2 := box_cell wh0 2 (.string ⟨#[]⟩) rfl
  have c0_3 := box_cell wh0 3 (.int .i64 0) rfl
  have c0_4 := box_cell wh0 4 (.int .i64 0) rfl
  have c1_0 := box_cell wh1 0 (.int .i64 0) rfl
  have c1_1 := box_cell wh1 1 (.bool false) rfl
  have c1_2 := box_cell wh1 2 (.string ⟨#[]⟩) rfl
  have c1_3 := box_cell wh1 3 (.int .i64 0) rfl
  have c1_4 := box_cell wh1 4 (.int .i64 0) rfl
  have hsr := Since.refl w0
  have hsd := hsr.drew
  clear hw0
  have h1 := h.since hs0
  have hwg : ∀ b, b = g → ¬ (b = w.heap.size) ∧ ¬ (b = w.heap.size + 1) := fun b e => by omega
  by_cases hp : 0 < x
  · rw [if_pos hp] at hr
    obtain ⟨⟨⟨er, fd, val, ver⟩, s2⟩, ha⟩ : ∃ p, readAns s1 = p := ⟨_, rfl⟩
    rw [ha] at hr
    have HA := Lib.hid ha
    clear ha
    injection hr with hr1 hr2
    subst hr1; subst hr2
    dsimp only
    go_enter Tryd.func37, Tryd.ntmps37
    go_wp2_with fail
    rw [← HW.out]
    refine (upP h1 HU.out).mono ?_
    rintro e w1 ⟨rfl, hR1, ho1⟩
    have wa := ho1.whole wh1 (by omega)
    have wz := ho1.whole wh0 (by omega)
    have a4 := wa.cell 4
    have b4 := wa.frozen 4
    have hR2 := hR1.set_ ⟨w.heap.size + 1, 4, none⟩ (by simp; omega) (.int .i64 x)
    have wa2 := wa.set_ 4 (.int .i64 x)
    have wz2 := wz.far (p := ⟨w.heap.size + 1, 4, none⟩) (by simp) (.int .i64 x)
    have ho2 : Off (fun b => b = g) w (w1.setCell ⟨w.heap.size + 1, 4, none⟩ (.int .i64 x)) := ((hs0.off _).trans ho1 (fun _ _ z => z)).setCell (p := ⟨w.heap.size + 1, 4, none⟩) (.inl (by simp)) _
    go_wp2_with fail
    obtain ⟨w2, hw2⟩ : ∃ w2, w2 = w1.setCell ⟨w.heap.size + 1, 4, none⟩ (.int .i64 x) := ⟨_, rfl⟩
    rw [← hw2] at hR2 wa2 wz2 ho2 ⊢
    clear hw2 wa wz a4 b4 hR1 ho1
    have HT := Lib.hid (fun W (hW : W = w2) => takeAns_any (w := W) (hW ▸ hR2) HA.out)
    have p4 := wa2.cell 4
    simp at p4
    go_wp2_with fail
    refine (takeAns_any hR2 HA.out).mono ?_
    rintro e w3 ⟨rfl, hR3, ho3⟩
    have wa3 := ho3.whole wa2 (by omega)
    have wz3 := ho3.whole wz2 (by omega)
    have hlt3 := ho3.size
    have a0 := wa3.cell 0
    have a1 := wa3.cell 1
    have a2 := wa3.cell 2
    have a3 := wa3.cell 3
    have a4 := wa3.cell 4
    simp at a0 a1 a2 a3 a4
    have f0 := wa3.frozen 0
    have f1 := wa3.frozen 1
    have f2 := wa3.frozen 2
    have f3 := wa3.frozen 3
    have z0 := wz3.cell 0
    have z1 := wz3.cell 1
    have z2 := wz3.cell 2
    have z3 := wz3.cell 3
    have z4 := wz3.cell 4
    have y0 := wz3.frozen 0
    have y1 := wz3.frozen 1
    have y2 := wz3.frozen 2
    have y3 := wz3.frozen 3
    have y4 := wz3.frozen 4
    go_wp2
    refine bodyPost_ret (v := .agg #[.int .i64 er, .bool fd, .string val, .int .i64 ver, .int .i64 x]) (by simp [results, Tryd.results37, go_sem, z0, z1, z2, z3, z4, y0, y1, y2, y3, y4]) rfl ?_
    exact ⟨rfl, (((((((((hR3.set_ ⟨w.heap.size + 1, 0, none⟩ (by simp; omega) _).set_ ⟨w.heap.size + 1, 1, none⟩ (by simp; omega) _).set_ ⟨w.heap.size + 1, 2, none⟩ (by simp; omega) _).set_ ⟨w.heap.size + 1, 3, none⟩ (by simp; omega) _).set_ ⟨w.heap.size, 0, none⟩ (by simp; omega) _).set_ ⟨w.heap.size, 1, none⟩ (by simp; omega) _).set_ ⟨w.heap.size, 2, none⟩ (by simp; omega) _).set_ ⟨w.heap.size, 3, none⟩ (by simp; omega) _).set_ ⟨w.heap.size, 4, none⟩ (by simp; omega) _), ((((((((((ho2.trans ho3 (fun _ _ z => z)).setCell (p := ⟨w.heap.size + 1, 0, none⟩) (.inl (by simp)) _).setCell (p := ⟨w.heap.size + 1, 1, none⟩) (.inl (by simp)) _).setCell (p := ⟨w.heap.size + 1, 2, none⟩) (.inl (by simp)) _).setCell (p := ⟨w.heap.size + 1, 3, none⟩) (.inl (by simp)) _).setCell (p := ⟨w.heap.size, 0, none⟩) (.inl (by simp)) _).setCell (p := ⟨w.heap.size, 1, none⟩) (.inl (by simp)) _).setCell (p := ⟨w.heap.size, 2, none⟩) (.inl (by simp)) _).setCell (p := ⟨w.heap.size, 3, none⟩) (.inl (by simp)) _).setCell (p := ⟨w.heap.size, 4, none⟩) (.inl (by simp)) _)⟩
  · rw [if_neg hp] at hr
    injection hr with hr1 hr2
    subst hr1; subst hr2
    obtain rfl : x = 0 := by omega
    go_enter Tryd.func37, Tryd.ntmps37
    go_wp2_with fail
    rw [← HW.out]
    refine (upP h1 HU.out).mono ?_
    rintro e w1 ⟨rfl, hR1, ho1⟩
    have wa := ho1.whole wh1 (by omega)
    have wz := ho1.whole wh0 (by omega)
    have ho2 := (hs0.off _).trans ho1 (fun _ _ z => z)
    have a0 := wa.cell 0
    have a1 := wa.cell 1
    have a2 := wa.cell 2
    have a3 := wa.cell 3
    have a4 := wa.cell 4
    have b4 := wa.frozen 4
    have z0 := wz.cell 0
    have z1 := wz.cell 1
    have z2 := wz.cell 2
    have z3 := wz.cell 3
    have z4 := wz.cell 4
    have y0 := wz.frozen 0
    have y1 := wz.frozen 1
    have y2 := wz.frozen 2
    have y3 := wz.frozen 3
    have y4 := wz.frozen 4
    go_wp2
    refine bodyPost_ret (v := .agg #[.int .i64 0, .bool false, .string ⟨#[]⟩, .int .i64 0, .int .i64 0]) (by simp [results, Tryd.results37, go_sem, a0, a1, a2, a3, a4, b4, z0, z1, z2, z3, z4, y0, y1, y2, y3, y4]) rfl ?_
    exact ⟨rfl, ((((((hR1.set_ ⟨w.heap.size + 1, 4, none⟩ (by simp; omega) _).set_ ⟨w.heap.size, 0, none⟩ (by simp; omega) _).set_ ⟨w.heap.size, 1, none⟩ (by simp; omega) _).set_ ⟨w.heap.size, 2, none⟩ (by simp; omega) _).set_ ⟨w.heap.size, 3, none⟩ (by simp; omega) _).set_ ⟨w.heap.size, 4, none⟩ (by simp; omega) _), ((((((ho2.setCell (p := ⟨w.heap.size + 1, 4, none⟩) (.inl (by simp)) _).setCell (p := ⟨w.heap.size, 0, none⟩) (.inl (by simp)) _).setCell (p := ⟨w.heap.size, 1, none⟩) (.inl (by simp)) _).setCell (p := ⟨w.heap.size, 2, none⟩) (.inl (by simp)) _).setCell (p := ⟨w.heap.size, 3, none⟩) (.inl (by simp)) _).setCell (p := ⟨w.heap.size, 4, none⟩) (.inl (by simp)) _)⟩
/-- The rows that were read, and zeros behind them. -/
def rowsK (k : Nat) (s : RSt) : STab := (readRows k s).1 ++ List.replicate (8 - k) .zero
theorem rowsK_len {k : Nat} (h : k ≤ 8) (s : RSt) : (rowsK k s).length = 8 := by
  unfold rowsK
  rw [List.length_append, readRows_len, List.length_replicate]
  omega
theorem rowsK_at {k : Nat} (h : k < 8) (s : RSt) : (rowsK k s)[k]? = some .zero := by
  unfold rowsK
  rw [List.getElem?_append_right (by rw [readRows_len]; exact Nat.le_refl _), readRows_len, Nat.sub_self, List.getElem?_replicate]
  simp; omega
theorem rowsK_next {k : Nat} (h : k < 8) (s : RSt) : rowsK (k + 1) s = (rowsK k s).set k (readRow (readRows k s).2).1 := by
  unfold rowsK
  rw [List.set_append_right _ _ (by rw [readRows_len]; exact Nat.le_refl _), readRows_len, Nat.sub_self, show 8 - k = (8 - (k + 1)) + 1 by omega, List.replicate_succ, List.set_cons_zero]
  simp [readRows]
theorem rowsK_end (s : RSt) : rowsK 8 s = (readRows 8 s).1 := by unfold rowsK; simp
/-- What Take leaves: a table at J, or none. -/
def TakeP (base g J : Nat) (L : STab) (t : RSt) (w : World) (y : Ending) (w' : World) : Prop :=
  ((t.2 = 0 ∧ y = .returned (.pointer (some ⟨J, 0, none⟩)) ∧ PTab w' J L) ∨ (t.2 ≠ 0 ∧ y = .returned (.pointer none))) ∧ RdS w' base g t ∧ Off (fun b => b = g) w w'
set_option maxRecDepth 100000 in
set_option maxHeartbeats 1600000 in
theorem take_any (h : RdS w base g s) {L : STab} {t : RSt} (ht : readRows 8 s = (L, t)) : Calls Tryd.prog 23 #[.pointer (some ⟨g, 0, none⟩)] w (TakeP base g w.heap.size L t w) := by
  have hg := h.lt
  have HT := Lib.hid ht
  clear ht
  obtain ⟨J, hJ⟩ : ∃ J, J = w.heap.size := ⟨_, rfl⟩
  have hJ0 : w.heap.size ≤ J := by omega
  have hgJ : g < J := by omega
  rw [← hJ]
  go_enter Tryd.func23, Tryd.ntmps23
  go_wp2_with fail
  refine (tabNew_any w).mono ?_
  rintro e w1 ⟨rfl, hP1, hs1⟩
  rw [← hJ] at hP1 ⊢
  have hR1 := h.since hs1
  have ho1 : Off (fun b => b = g) w w1 := hs1.off _
  clear h hs1 hJ
  go_wp2
  go_loopw [6] (fun i wr => ∃ k : Nat, i = .int .i64 (k : Int) ∧ k ≤ 8 ∧ PTab wr J (rowsK k s) ∧ RdS wr base g (readRows k s).2 ∧ Off (fun b => b = g) w wr) (fun i _ => 8 - (intOf i).toNat)
  case atStart => exact ⟨0, rfl, Nat.zero_le _, hP1, hR1, ho1⟩
  case round =>
    obtain ⟨k, rfl, hk, hP, hR, ho⟩ := hrel
    clear hP1 hR1 ho1
    by_cases hlt : k < 8
    · obtain ⟨⟨r, s2⟩, hr⟩ : ∃ p, readRow (readRows k s).2 = p := ⟨_, rfl⟩
      have hat := rowsK_at hlt s
      have hX := rowsK_next hlt s
      have hY : (readRows (k + 1) s).2 = s2 := by show (readRow (readRows k s).2).2 = s2; rw [hr]
      rw [hr] at hX
      have hkl : k < (rowsK k s).length := by rw [rowsK_len (by omega)]; exact hlt
      have HX := Lib.hid hX
      have HY := Lib.hid hY
      have HR := Lib.hid hr
      have hklt : (k : Int) < 8 := by omega
      clear hX hY hr
      generalize rowsK k s = N at hP hat hkl HX
      generalize (readRows k s).2 = sk at hR HR
      go_wp2_with fail
      obtain ⟨wq, hwq⟩ : ∃ wq, wq = wr.drew := ⟨_, rfl⟩
      have hsq : Since wr wq := by rw [hwq]; exact (Since.refl wr).drew
      refine wp_region_held_drew (S := fun _ => True) (by kernel_rfl) trivial (fun hHeld => ?_)
      have hPq := hP.since hsq
      have hRq := hR.since hsq
      have hoq := ho.since hsq
      rw [← hwq]
      clear hwq hP hR ho hsq
      refine wpAnyH_take (i := 0) (v := ?_) rfl (by kernel_rfl) (by kernel_rfl) (by kernel_rfl) (fun _ _ _ h => h) (Or.inl ⟨by rfl, ?_⟩) (by assumption) ?_
      rotate_left 1
      · (intro W hW; clear hW; go_simp; try with_reducible rfl)
      simp only [Act.put, List.getElem_toArray, List.getElem_cons_zero, List.setIfInBounds_toArray, List.set_cons_zero, List.set_cons_succ]
      refine wpAnyH_take (i := 1) (v := ?_) rfl (by kernel_rfl) (by kernel_rfl) (by kernel_rfl) (fun _ _ _ h => h) (Or.inl ⟨by rfl, ?_⟩) (by assumption) ?_
      rotate_left 1
      · (intro W hW; clear hW; go_simp; try with_reducible rfl)
      simp only [Act.put, List.getElem_toArray, List.getElem_cons_succ, List.getElem_cons_zero, List.setIfInBounds_toArray, List.set_cons_zero, List.set_cons_succ]
      refine wpAnyH_take (i := 2) (v := ?_) rfl (by kernel_rfl) (by kernel_rfl) (by kernel_rfl) (fun _ _ _ h => h) (Or.inl ⟨by rfl, ?_⟩) (by assumption) ?_
      rotate_left 1
      · (intro W hW; clear hW; go_simp; try with_reducible rfl)
      simp only [Act.put, List.getElem_toArray, List.getElem_cons_succ, List.getElem_cons_zero, List.setIfInBounds_toArray, List.set_cons_zero, List.set_cons_succ]
      refine wpAnyH_take (i := 4) (v := ?_) rfl (by kernel_rfl) (by kernel_rfl) (by kernel_rfl) (fun _ _ _ h => h) (Or.inl ⟨by rfl, ?_⟩) (by assumption) ?_
      rotate_left 1
      · (intro W hW; clear hW; go_simp; try with_reducible rfl)
      simp only [Act.put, List.getElem_toArray, List.getElem_cons_succ, List.getElem_cons_zero, List.setIfInBounds_toArray, List.set_cons_zero, List.set_cons_succ]
      refine wpAnyH_take (i := 5) (v := ?_) rfl (by kernel_rfl) (by kernel_rfl) (by kernel_rfl) (fun _ _ _ h => h) (Or.inl ⟨by rfl, ?_⟩) (by assumption) ?_
      rotate_left 1
      · (intro W hW; clear hW; go_simp; try with_reducible rfl)
      simp only [Act.put, List.getElem_toArray, List.getElem_cons_succ, List.getElem_cons_zero, List.setIfInBounds_toArray, List.set_cons_zero, List.set_cons_succ]
      refine wpAnyH_ready (rs := [3]) (by kernel_rfl) (by simp) ?_
      refine AllReadyH.cons rfl (fun K hK => ?_) AllReadyH.nil
      go_simp
      refine (takeRow_any hRq HR.out).mono ?_
      rintro e w2 ⟨rfl, hR2, ho2⟩
      have hP2 := hPq.off ho2 (by omega)
      have e0 := hP2.c0 hat w2 (Since.refl _)
      have e1 := hP2.c1 hat w2 (Since.refl _)
      have e2 := hP2.c2 hat w2 (Since.refl _)
      have e3 := hP2.c3 hat w2 (Since.refl _)
      have e4 := hP2.c4 hat w2 (Since.refl _)
      have f0 := hP2.frozen (1 + k * 5) w2 (Since.refl _)
      have f1 := hP2.frozen (1 + k * 5 + 1) w2 (Since.refl _)
      have f2 := hP2.frozen (1 + k * 5 + 2) w2 (Since.refl _)
      have f3 := hP2.frozen (1 + k * 5 + 3) w2 (Since.refl _)
      have f4 := hP2.frozen (1 + k * 5 + 4) w2 (Since.refl _)
      go_wp2_with fail
      refine hK.out _ _ (trivial) (fun hHeld => ?_)
      clear hK K
      try simp only [Act.put, List.getElem_toArray, List.getElem_cons_succ, List.getElem_cons_zero, List.setIfInBounds_toArray, List.set_cons_zero, List.set_cons_succ]
      refine wpAnyH_take (i := 6) (v := ?_) rfl (by kernel_rfl) (by kernel_rfl) (by kernel_rfl) (fun _ _ _ h => h) (Or.inl ⟨by rfl, ?_⟩) (by assumption) ?_
      rotate_left 1
      · (intro W hW; clear hW; go_simp; try with_reducible rfl)
      simp only [Act.put, List.getElem_toArray, List.getElem_cons_succ, List.getElem_cons_zero, List.setIfInBounds_toArray, List.set_cons_zero, List.set_cons_succ]
      refine wpAnyH_ready (rs := [7]) (by kernel_rfl) (by simp) ?_
      refine AllReadyH.cons rfl (fun K hK => ?_) AllReadyH.nil
      go_simp
      skip
      refine hK.out _ _ (trivial) (fun hHeld => ?_)
      clear hK K
      try simp only [Act.put, List.getElem_toArray, List.getElem_cons_succ, List.getElem_cons_zero, List.setIfInBounds_toArray, List.set_cons_zero, List.set_cons_succ]
      refine wpAnyH_done (by kernel_rfl) ?_ _
      have ho3 := hoq.trans ho2 (fun _ _ z => z)
      have hh := (((((hP2.2.set_ (1 + k * 5) (.int .i64 r.er)).set_ (1 + k * 5 + 1) (.bool r.fd)).set_ (1 + k * 5 + 2) (.string r.val)).set_ (1 + k * 5 + 3) (.int .i64 r.ver)).set_ (1 + k * 5 + 4) (.int .i64 r.seq))
      rw [pcells_set hkl r] at hh
      have hR5 := (((((hR2.set_ ⟨J, 1 + k * 5, none⟩ (by simp; omega) (.int .i64 r.er)).set_ ⟨J, 1 + k * 5 + 1, none⟩ (by simp; omega) (.bool r.fd)).set_ ⟨J, 1 + k * 5 + 2, none⟩ (by simp; omega) (.string r.val)).set_ ⟨J, 1 + k * 5 + 3, none⟩ (by simp; omega) (.int .i64 r.ver)).set_ ⟨J, 1 + k * 5 + 4, none⟩ (by simp; omega) (.int .i64 r.seq))
      have ho5 := (((((ho3.setCell (p := ⟨J, 1 + k * 5, none⟩) (.inl (by simp; omega)) (.int .i64 r.er)).setCell (p := ⟨J, 1 + k * 5 + 1, none⟩) (.inl (by simp; omega)) (.bool r.fd)).setCell (p := ⟨J, 1 + k * 5 + 2, none⟩) (.inl (by simp; omega)) (.string r.val)).setCell (p := ⟨J, 1 + k * 5 + 3, none⟩) (.inl (by simp; omega)) (.int .i64 r.ver)).setCell (p := ⟨J, 1 + k * 5 + 4, none⟩) (.inl (by simp; omega)) (.int .i64 r.seq))
      clear e0 e1 e2 e3 e4 f0 f1 f2 f3 f4
      obtain ⟨w5, hw5⟩ : ∃ w5, w5 = (((((w2.setCell ⟨J, 1 + k * 5, none⟩ (.int .i64 r.er)).setCell ⟨J, 1 + k * 5 + 1, none⟩ (.bool r.fd)).setCell ⟨J, 1 + k * 5 + 2, none⟩ (.string r.val)).setCell ⟨J, 1 + k * 5 + 3, none⟩ (.int .i64 r.ver)).setCell ⟨J, 1 + k * 5 + 4, none⟩ (.int .i64 r.seq)) := ⟨_, rfl⟩
      rw [← hw5] at hh hR5 ho5 ⊢
      clear hw5
      go_wp2
      go_roundw
      case rel => exact ⟨k + 1, by go_num, by omega, ⟨by rw [HX.out]; exact len_set hP2.1 _ _, by rw [HX.out]; exact hh⟩, by rw [HY.out]; exact hR5, ho5⟩
      case measure => simp [intOf]; omega
    · obtain rfl : k = 8 := by omega
      rw [rowsK_end, HT.out] at hP
      rw [HT.out] at hR
      replace hP : PTab wr J L := hP
      replace hR : RdS wr base g t := hR
      clear HT
      obtain ⟨l, er⟩ := t
      by_cases he : er = 0
      · subst he
        go_wp2_with (go_at_call 38; (with_reducible refine (errP hR).mono ?_); rintro e w' ⟨rfl, rfl⟩)
        go_ret
        exact ⟨.inl ⟨rfl, rfl, hP⟩, hR, ho⟩
      · have heb : (er == 0) = false := by simpa using he
        have heb2 : (er != 0) = true := by rw [bne_iff_ne]; exact he
        have HE := Lib.hid he
        clear he
        go_wp2_with (go_at_call 38; (with_reducible refine (errP hR).mono ?_); rintro e w' ⟨rfl, rfl⟩)
        go_ret
        exact ⟨.inr ⟨HE.out, rfl⟩, hR, ho⟩
end
end Go.Proofs.YtbgfjkgpekkciaaDoor
