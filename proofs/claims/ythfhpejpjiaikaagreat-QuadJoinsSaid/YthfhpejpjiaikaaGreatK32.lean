/- quad.Tree, made: Shape. -/
import Derived.Test.YthfhpejpjiaikaaGreatK24
import Derived.Test.YthfhpejpjiaikaaGreatK25
import Derived.Test.YthfhpejpjiaikaaGreatK28
import Derived.Test.YthfhpejpjiaikaaGreatK29
namespace Go.Proofs.YthfhpejpjiaikaaGreat
open Go.RowKit Go.Shelf
attribute [local go_sem] Oper.semAt_some
set_option linter.unusedVariables false
set_option linter.unusedSimpArgs false
/-- The three results in their boxes. -/
structure ShB (A B C : Nat) (n l d : Int) (W0 W : World) : Prop where
  a : Whole W A 3 #[.int .i64 n]
  b : Whole W B 3 #[.int .i64 l]
  c : Whole W C 3 #[.int .i64 d]
  off : Off (fun x => x = A ∨ x = B ∨ x = C) W0 W
section
variable {A B C : Nat} {n l d n' l' d' : Int} {W0 W W' : World}
theorem ShB.drew (h : ShB A B C n l d W0 W) : ShB A B C n l d W0 W.drew := ⟨h.a, h.b, h.c, h.off.drew⟩
theorem ShB.since (h : ShB A B C n l d W0 W) (hs : Since W W') : ShB A B C n l d W0 W' := ⟨Since.whole hs h.a, Since.whole hs h.b, Since.whole hs h.c, h.off.since hs⟩
theorem ShB.set1 (h : ShB A B C n l d W0 W) (hab : A ≠ B) (hac : A ≠ C) (n' : Int) : ShB A B C n' l d W0 (W.setCell ⟨A, 0, none⟩ (.int .i64 n')) := ⟨h.a.set_ 0 _, h.b.far (p := ⟨A, 0, none⟩) (fun z => hab z.symm) _, h.c.far (p := ⟨A, 0, none⟩) (fun z => hac z.symm) _, h.off.setCell (p := ⟨A, 0, none⟩) (.inr (.inl rfl)) _⟩
theorem ShB.set2 (h : ShB A B C n l d W0 W) (hab : A ≠ B) (hbc : B ≠ C) (l' : Int) : ShB A B C n l' d W0 (W.setCell ⟨B, 0, none⟩ (.int .i64 l')) := ⟨h.a.far (p := ⟨B, 0, none⟩) hab _, h.b.set_ 0 _, h.c.far (p := ⟨B, 0, none⟩) (fun z => hbc z.symm) _, h.off.setCell (p := ⟨B, 0, none⟩) (.inr (.inr (.inl rfl))) _⟩
theorem ShB.set3 (h : ShB A B C n l d W0 W) (hac : A ≠ C) (hbc : B ≠ C) (d' : Int) : ShB A B C n l d' W0 (W.setCell ⟨C, 0, none⟩ (.int .i64 d')) := ⟨h.a.far (p := ⟨C, 0, none⟩) hac _, h.b.far (p := ⟨C, 0, none⟩) hbc _, h.c.set_ 0 _, h.off.setCell (p := ⟨C, 0, none⟩) (.inr (.inr (.inr rfl))) _⟩
end
/-- So far. -/
def shI (A B C : Nat) (pre : List (Int × QN)) (F : Nat → Prop) (W : World) : Prop := (∀ x, F x ↔ (x = A ∨ x = B ∨ x = C)) ∧ ShB A B C (pre.length : Nat) (lvV pre : Nat) (dpV pre) W W
theorem shI_kept {A B C : Nat} : Kept (shI A B C) := by
  rintro pre F W W' ⟨h1, h2⟩ hs hb
  exact ⟨h1, (hb A ((h1 A).2 (.inl rfl))).trans h2.a, (hb B ((h1 B).2 (.inr (.inl rfl)))).trans h2.b, (hb C ((h1 C).2 (.inr (.inr rfl)))).trans h2.c, Off.refl _ _⟩
theorem shI_low {A B C : Nat} : Low (shI A B C) := by
  rintro pre F W ⟨h1, h2⟩ b hb
  rcases (h1 b).1 hb with rfl | rfl | rfl
  · exact h2.a.lt
  · exact h2.b.lt
  · exact h2.c.lt
theorem visit_quad (r : Rc) : ∀ (q : QN) (a : Rc) (L : List Rq), q.Ok a L → (neR a = true → Good a) → ∀ x ∈ q.visit r, ∀ g n b p, x.2 = .quad g n b p → (p 0).isNil = false
  | .nil, a, L, _, _, x, h => by cases h
  | .leaf g v b M, a, L, hO, hg, x, h => by
    simp only [QN.visit] at h
    split at h
    · simp only [List.mem_singleton] at h
      subst h
      intro _ _ _ _ he; cases he
    · cases h
  | .quad g n b q, a, L, hO, hgd, x, h => by
    obtain ⟨rfl, _, h3, _, _, h6⟩ := hO
    have hg := hgd h3
    simp only [QN.visit] at h
    split at h
    · rcases List.mem_cons.1 h with rfl | h
      · intro g2 n2 b2 p2 he
        injection he with _ _ _ he
        subst he
        rw [(h6 0 (by decide)).nil_iff, qtr0_ne hg]; rfl
      · obtain ⟨y, hy, rfl⟩ := List.mem_map.1 h
        simp only [List.mem_append] at hy
        have key : ∀ i, i < 4 → y ∈ (q i).visit r → ∀ g n b p, y.2 = .quad g n b p → (p 0).isNil = false := fun i hi hm => visit_quad r (q i) (qtr b i) _ (h6 i hi) (fun hn => qtr_good hg hi hn) y hm
        rcases hy with ((hy | hy) | hy) | hy
        · exact key 0 (by decide) hy
        · exact key 1 (by decide) hy
        · exact key 2 (by decide) hy
        · exact key 3 (by decide) hy
    · cases h
theorem isLeafN_at {m : QN} {W : World} (hA : m.At W) (hn : m.isNil = false) (hq : ∀ g n b p, m = .quad g n b p → (p 0).isNil = false) : Calls Tryz.prog 51 #[m.v] W fun e w' => e = .returned (.bool m.isLeaf) ∧ W = w' := by
  cases m with
  | nil => cases hn
  | leaf g v a L => exact isLeafN_yes hA
  | quad g n a q => exact isLeafN_no hA (hq g n a q rfl)
set_option maxRecDepth 100000 in
set_option maxHeartbeats 6400000 in
theorem tshapeV_any {g : Nat} {q : QN} {k d b : Int} {L : List Rq} {w : World} (h : TreeO g q k d b L w) : Calls Tryz.prog 22 #[.pointer (some ⟨g, 0, none⟩)] w fun e w' => e = .returned (.tuple #[.int .i64 (shV (q.visit (zoneR k d b))).1, .int .i64 (shV (q.visit (zoneR k d b))).2.1, .int .i64 (shV (q.visit (zoneR k d b))).2.2]) ∧ Below w.heap.size w w' := by
  obtain ⟨gq, hq, -, hrc⟩ := h.tr.root
  have hcnt : (q.visit (zoneR k d b)).length ≤ 1000000000 := by
    have h1 := visit_count (zoneR k d b) q _ L h.tr.ok (fun _ => h.tr.good) h.tr.inn
    have h2 := Nat.mul_le_mul h.tr.len h.tr.high
    omega
  have hlt := h.lt
  obtain ⟨w0, hw0⟩ : ∃ w0, w0 = ((w.alloc (.cells #[.int .i64 0] 3)).alloc (.cells #[.int .i64 0] 3)).alloc (.cells #[.int .i64 0] 3) := ⟨_, rfl⟩
  have hs0 : Since w w0 := by rw [hw0]; exact (((Since.refl w).alloc _).alloc _).alloc _
  have hA : Whole w0 w.heap.size 3 #[.int .i64 0] := by rw [hw0]; exact ((Whole.new w _ _).alloc _).alloc _
  have hB : Whole w0 (w.heap.size + 1) 3 #[.int .i64 0] := by rw [hw0]; exact ((Whole.new (w.alloc _) _ _).at_ (by simp)).alloc _
  have hC : Whole w0 (w.heap.size + 1 + 1) 3 #[.int .i64 0] := by rw [hw0]; exact (Whole.new ((w.alloc _).alloc _) _ _).at_ (by simp)
  have hsz0 : w0.heap.size = w.heap.size + 3 := by rw [hw0]; simp
  have HM := Lib.hid (fun W (hW : Since w0 W) => tmade_any (h.since (hs0.trans hW)))
  have hrc2 := fun W' (hW : Since w0 W') => hrc W' (h.tr.at_.since (hs0.trans hW))
  have c3 := box_cell (Since.whole hs0 h.wh) 3 q.v rfl
  have HAT := Lib.hid (fun W' (hW : Since w0 W') => h.tr.at_.since (hs0.trans hW))
  have hhi := h.tr.high
  have HVQ := Lib.hid (visit_quad (zoneR k d b) q _ L h.tr.ok (fun _ => h.tr.good))
  have hnn := h.tr.nn
  have HV := Lib.hid hq
  rw [hq] at c3
  generalize zoneR k d b = a at hrc2 hcnt HVQ ⊢
  obtain ⟨ax, ay, aw, ah⟩ := a
  have a0 := fun W' hW => (hrc2 W' hW).1
  have a1 := fun W' hW => (hrc2 W' hW).2.1
  have a2 := fun W' hW => (hrc2 W' hW).2.2.1
  have a3 := fun W' hW => (hrc2 W' hW).2.2.2.1
  dsimp only at a0 a1 a2 a3
  have hsr := Since.refl w0
  have hsd := hsr.drew
  have HW := Lib.hid hw0
  have HSZ := Lib.hid hsz0
  have HABC := Lib.hid (And.intro hA (And.intro hB hC))
  clear h hq hrc hrc2 hw0 hsz0 hA hB hC
  refine (callsIn_wide (n := 0)).1 ?_
  refine callsIn_of_wp_marks Tryz.func22 rfl trivial ?_ rfl
  refine wpIn_wide.2 ?_
  simp only [Tryz.ntmps22, List.size_toArray, List.length_cons, List.length_nil, Nat.reduceAdd, Nat.reduceSub, Array.replicate_succ, Array.replicate_zero, List.push_toArray, List.append_toArray, List.nil_append, List.cons_append]
  go_upto_region 1 with fail
  rw [← HW.out]
  go_upto_region 3 with (go_at_call 27; (with_reducible refine (HM.out _ hsr).mono ?_); rintro e w4 ⟨rfl, rfl⟩)
  obtain ⟨wq, hwq⟩ : ∃ wq, wq = w0.drew := ⟨_, rfl⟩
  have hqs : Since w0 wq := by rw [hwq]; exact hsd
  have HQZ := Lib.hid (show wq.heap.size = w0.heap.size by rw [hwq]; rfl)
  refine (wpIn_wide (n := 0)).1 ?_
  refine wide_held_calm (S := fun W' => Since w0 W') (by kernel_rfl) hsd (fun hHeld => ?_)
  rw [← hwq] at hHeld ⊢
  clear hwq
  refine wpAnyF_take (i := 0) (v := ?_) rfl (by kernel_rfl) (by kernel_rfl) (by kernel_rfl) (fun _ _ _ h => h) (Or.inl ⟨by rfl, ?_⟩) (by assumption) ?_
  rotate_left 1
  · (intro W hW; clear hW; go_simp; try with_reducible rfl)
  simp only [Act.put, List.getElem_toArray, List.getElem_cons_zero, List.setIfInBounds_toArray, List.set_cons_zero, List.set_cons_succ]
  refine wpAnyF_take (i := 1) (v := ?_) rfl (by kernel_rfl) (by kernel_rfl) (by kernel_rfl) (fun _ _ _ h => h) (Or.inl ⟨by rfl, ?_⟩) (by assumption) ?_
  rotate_left 1
  · (intro W hW; clear hW; go_simp; try with_reducible rfl)
  simp only [Act.put, List.getElem_toArray, List.getElem_cons_succ, List.getElem_cons_zero, List.setIfInBounds_toArray, List.set_cons_zero, List.set_cons_succ]
  refine wpAnyF_take (i := 2) (v := ?_) rfl (by kernel_rfl) (by kernel_rfl) (by kernel_rfl) (fun _ _ _ h => h) (Or.inl ⟨by rfl, ?_⟩) (by assumption) ?_
  rotate_left 1
  · (intro W hW; clear hW; go_simp; try with_reducible rfl)
  simp only [Act.put, List.getElem_toArray, List.getElem_cons_succ, List.getElem_cons_zero, List.setIfInBounds_toArray, List.set_cons_zero, List.set_cons_succ]
  refine wpAnyF_take (i := 3) (v := ?_) rfl (by kernel_rfl) (by kernel_rfl) (by kernel_rfl) (fun _ _ _ h => h) (Or.inl ⟨by rfl, ?_⟩) (by assumption) ?_
  rotate_left 1
  · (intro W hW; skip; go_simp; try with_reducible rfl)
  simp only [Act.put, List.getElem_toArray, List.getElem_cons_succ, List.getElem_cons_zero, List.setIfInBounds_toArray, List.set_cons_zero, List.set_cons_succ]
  refine wpAnyF_take (i := 4) (v := ?_) rfl (by kernel_rfl) (by kernel_rfl) (by kernel_rfl) (fun _ _ _ h => h) (Or.inl ⟨by rfl, ?_⟩) (by assumption) ?_
  rotate_left 1
  · (intro W hW; clear hW; go_simp; try with_reducible rfl)
  simp only [Act.put, List.getElem_toArray, List.getElem_cons_succ, List.getElem_cons_zero, List.setIfInBounds_toArray, List.set_cons_zero, List.set_cons_succ]
  refine wpAnyF_take (i := 5) (v := ?_) rfl (by kernel_rfl) (by kernel_rfl) (by kernel_rfl) (fun _ _ _ h => h) (Or.inl ⟨by rfl, ?_⟩) (by assumption) ?_
  rotate_left 1
  · (intro W hW; clear hW; go_simp; try with_reducible rfl)
  simp only [Act.put, List.getElem_toArray, List.getElem_cons_succ, List.getElem_cons_zero, List.setIfInBounds_toArray, List.set_cons_zero, List.set_cons_succ]
  refine wpAnyF_take (i := 6) (v := ?_) rfl (by kernel_rfl) (by kernel_rfl) (by kernel_rfl) (fun _ _ _ h => h) (Or.inl ⟨by rfl, ?_⟩) (by assumption) ?_
  rotate_left 1
  · (intro W hW; clear hW; go_simp; try with_reducible rfl)
  simp only [Act.put, List.getElem_toArray, List.getElem_cons_succ, List.getElem_cons_zero, List.setIfInBounds_toArray, List.set_cons_zero, List.set_cons_succ]
  refine wpAnyF_take (i := 7) (v := ?_) rfl (by kernel_rfl) (by kernel_rfl) (by kernel_rfl) (fun _ _ _ h => h) (Or.inl ⟨by rfl, ?_⟩) (by assumption) ?_
  rotate_left 1
  · (intro W hW; skip; go_simp; try with_reducible rfl)
  simp only [Act.put, List.getElem_toArray, List.getElem_cons_succ, List.getElem_cons_zero, List.setIfInBounds_toArray, List.set_cons_zero, List.set_cons_succ]
  refine wpAnyF_take (i := 8) (v := ?_) rfl (by kernel_rfl) (by kernel_rfl) (by kernel_rfl) (fun _ _ _ h => h) (Or.inl ⟨by rfl, ?_⟩) (by assumption) ?_
  rotate_left 1
  · (intro W hW; clear hW; go_simp; try with_reducible rfl)
  simp only [Act.put, List.getElem_toArray, List.getElem_cons_succ, List.getElem_cons_zero, List.setIfInBounds_toArray, List.set_cons_zero, List.set_cons_succ]
  refine wpAnyF_take (i := 9) (v := ?_) rfl (by kernel_rfl) (by kernel_rfl) (by kernel_rfl) (fun _ _ _ h => h) (Or.inl ⟨by rfl, ?_⟩) (by assumption) ?_
  rotate_left 1
  · (intro W hW; clear hW; go_simp; try with_reducible rfl)
  simp only [Act.put, List.getElem_toArray, List.getElem_cons_succ, List.getElem_cons_zero, List.setIfInBounds_toArray, List.set_cons_zero, List.set_cons_succ]
  refine wpAnyF_take (i := 10) (v := ?_) rfl (by kernel_rfl) (by kernel_rfl) (by kernel_rfl) (fun _ _ _ h => h) (Or.inl ⟨by rfl, ?_⟩) (by assumption) ?_
  rotate_left 1
  · (intro W hW; skip; go_simp; try with_reducible rfl)
  simp only [Act.put, List.getElem_toArray, List.getElem_cons_succ, List.getElem_cons_zero, List.setIfInBounds_toArray, List.set_cons_zero, List.set_cons_succ]
  refine wpAnyF_ready (rs := [11]) (by kernel_rfl) (by simp) ?_
  refine AllReadyF.cons rfl (fun K hK => ?_) AllReadyF.nil
  go_simp
  refine (nodes_any _ _ rfl ⟨ax, ay, aw, ah⟩ _).mono ?_
  rintro e wl ⟨rfl, hwl⟩
  have hsl : Since w0 wl := by rw [hwl]; exact (hqs.alloc _).alloc _
  have HWL := Lib.hid hwl
  clear hwl
  go_wp2_with fail
  refine hK.out _ _ (hsl) (fun hHeld => ?_)
  clear hK K
  try simp only [Act.put, List.getElem_toArray, List.getElem_cons_succ, List.getElem_cons_zero, List.setIfInBounds_toArray, List.set_cons_zero, List.set_cons_succ]
  refine wpAnyF_done (by kernel_rfl) ?_ _
  simp only [calmQ]
  go_wp2
  have hwl := HWL.out
  have hsz0 := HSZ.out
  have hqz := HQZ.out
  obtain ⟨hA, hB, hC⟩ := HABC.out
  have whN : Whole wl wq.heap.size 68 #[q.v] := by rw [hwl, HV.out]; exact (Whole.new wq _ _).alloc _
  have whR : Whole wl (wq.heap.size + 1) 63 #[.int .i64 ax, .int .i64 ay, .int .i64 aw, .int .i64 ah] := by rw [hwl]; exact (Whole.new (wq.alloc _) _ _).at_ (by simp)
  have hzl : wl.heap.size = wq.heap.size + 2 := by rw [hwl]; simp
  have hseq := nodes_seq ⟨ax, ay, aw, ah⟩ q hhi hnn wl (HAT.out wl hsl) whN whR
  clear hwl HWL whN whR
  refine (wpIn_wide (n := 0)).1 ?_
  refine range_wp (gf := 85) (lb := #[.pointer (some ⟨wq.heap.size, 0, none⟩), .pointer (some ⟨wq.heap.size + 1, 0, none⟩)]) rfl (enters_of Tryz.func85 (by kernel_rfl) rfl) hseq ?hG (fun _ => rfl)
    (shI w.heap.size (w.heap.size + 1) (w.heap.size + 1 + 1)) (fun _ _ _ _ => False) shI_kept shI_low (fun _ => no_kept) (fun _ => no_low)
    (fun x => x = w.heap.size ∨ x = w.heap.size + 1 ∨ x = w.heap.size + 1 + 1) ?hF0 ?h0 ?round ?done ?stop
  case hG =>
    rintro b (z | rfl | rfl)
    · have := hlt b (List.mem_cons_of_mem _ z); omega
    · omega
    · omega
  case hF0 =>
    rintro b hb (z | z | z)
    · have := hlt b (List.mem_cons_of_mem _ z); omega
    · omega
    · omega
  case h0 => exact ⟨fun b => Iff.rfl, ⟨Since.whole hsl hA, Since.whole hsl hB, Since.whole hsl hC, Off.refl _ _⟩⟩
  case stop =>
    rintro D c pre W _ _ ⟨F', h, _⟩ _
    exact h.elim
  case done =>
    rintro D W hD ⟨F', ⟨hF', hsh⟩, ho, hf, _⟩ hdd
    obtain ⟨N, hN⟩ : ∃ N, (((q.visit ⟨ax, ay, aw, ah⟩).length : Nat) : Int) = N := ⟨_, rfl⟩
    obtain ⟨V, hV⟩ : ∃ V, ((lvV (q.visit ⟨ax, ay, aw, ah⟩) : Nat) : Int) = V := ⟨_, rfl⟩
    obtain ⟨P, hP⟩ : ∃ P, dpV (q.visit ⟨ax, ay, aw, ah⟩) = P := ⟨_, rfl⟩
    rw [hN, hV, hP] at hsh
    have HNVP := Lib.hid (And.intro hN (And.intro hV hP))
    have hAB : w.heap.size ≠ w.heap.size + 1 := by omega
    have hAC : w.heap.size ≠ w.heap.size + 1 + 1 := by omega
    have hBC : w.heap.size + 1 ≠ w.heap.size + 1 + 1 := by omega
    have HO := Lib.hid (show Below w.heap.size w W from Below.trans (hs0.trans hsl) (ho.below (by omega) (fun b z => by have z' : b = w.heap.size ∨ b = w.heap.size + 1 ∨ b = w.heap.size + 1 + 1 := z; omega)))
    have HDD := Lib.hid hdd
    have HD := Lib.hid (And.intro hD (And.intro hsz0 (And.intro hqz (And.intro hzl hsl.size_))))
    have k0 : ∀ W', ShB w.heap.size (w.heap.size + 1) (w.heap.size + 1 + 1) N V P W W' → W'.cell? ⟨w.heap.size, 0, none⟩ = some (.int .i64 N) := fun W' h => h.a.cell 0
    have k1 : ∀ W', ShB w.heap.size (w.heap.size + 1) (w.heap.size + 1 + 1) N V P W W' → W'.cell? ⟨w.heap.size + 1, 0, none⟩ = some (.int .i64 V) := fun W' h => h.b.cell 0
    have k2 : ∀ W', ShB w.heap.size (w.heap.size + 1) (w.heap.size + 1 + 1) N V P W W' → W'.cell? ⟨w.heap.size + 1 + 1, 0, none⟩ = some (.int .i64 P) := fun W' h => h.c.cell 0
    have k3 : ∀ W', ShB w.heap.size (w.heap.size + 1) (w.heap.size + 1 + 1) N V P W W' → W'.frozen? ⟨w.heap.size, 0, none⟩ = false := fun W' h => h.a.frozen 0
    have k4 : ∀ W', ShB w.heap.size (w.heap.size + 1) (w.heap.size + 1 + 1) N V P W W' → W'.frozen? ⟨w.heap.size + 1, 0, none⟩ = false := fun W' h => h.b.frozen 0
    have k5 : ∀ W', ShB w.heap.size (w.heap.size + 1) (w.heap.size + 1 + 1) N V P W W' → W'.frozen? ⟨w.heap.size + 1 + 1, 0, none⟩ = false := fun W' h => h.c.frozen 0
    have hsr := hsh
    have hsd := hsh.drew
    clear hseq ho hf hdd hD hsh hsz0 hqz hzl hcnt hA hB hC hsl hs0 hqs hN hV hP
    go_wp2_with fail
    go_region_held3 (fun W' => ShB w.heap.size (w.heap.size + 1) (w.heap.size + 1 + 1) N V P W W') (first | assumption | exact ShB.drew (by assumption) | exact ShB.set1 (by assumption) hAB hAC _ | exact ShB.set2 (by assumption) hAB hBC _ | exact ShB.set3 (by assumption) hAC hBC _) ((first | fail))
    go_wp2_with fail
    obtain ⟨hD1, hD2, hD3, hD4, hD5⟩ := HD.out
    have hS := (((hsr.set1 hAB hAC N).set2 hAB hBC V).set3 hAC hBC P).drew
    have hDl : D < W.heap.size := (Array.getElem?_eq_some_iff.1 HDD.out).1
    have hdf := (hS.off.block D hDl (fun z => by have z' : D = w.heap.size ∨ D = w.heap.size + 1 ∨ D = w.heap.size + 1 + 1 := z; omega)).trans HDD.out
    have y0 := Whole.cell (show Whole ((((W.setCell ⟨w.heap.size, 0, none⟩ (.int .i64 N)).setCell ⟨w.heap.size + 1, 0, none⟩ (.int .i64 V)).setCell ⟨w.heap.size + 1 + 1, 0, none⟩ (.int .i64 P)).drew.putObj D (.deferred none)) w.heap.size 3 #[.int .i64 N] from (World.putObj_heap_other (by omega)).trans hS.a) 0
    have y1 := Whole.cell (show Whole ((((W.setCell ⟨w.heap.size, 0, none⟩ (.int .i64 N)).setCell ⟨w.heap.size + 1, 0, none⟩ (.int .i64 V)).setCell ⟨w.heap.size + 1 + 1, 0, none⟩ (.int .i64 P)).drew.putObj D (.deferred none)) (w.heap.size + 1) 3 #[.int .i64 V] from (World.putObj_heap_other (by omega)).trans hS.b) 0
    have y2 := Whole.cell (show Whole ((((W.setCell ⟨w.heap.size, 0, none⟩ (.int .i64 N)).setCell ⟨w.heap.size + 1, 0, none⟩ (.int .i64 V)).setCell ⟨w.heap.size + 1 + 1, 0, none⟩ (.int .i64 P)).drew.putObj D (.deferred none)) (w.heap.size + 1 + 1) 3 #[.int .i64 P] from (World.putObj_heap_other (by omega)).trans hS.c) 0
    obtain ⟨hN, hV, hP⟩ := HNVP.out
    unfold shV
    rw [hN, hV, hP]
    have hbw := HO.out.trans ((hS.off.below (B := w.heap.size) HO.out.size (fun b z => by have z' : b = w.heap.size ∨ b = w.heap.size + 1 ∨ b = w.heap.size + 1 + 1 := z; omega)).trans (belowK_b (w := w) (Nat.le_refl _) _ D _ (.deferred none) (by omega) hdf rfl rfl))
    refine ⟨by simp, .inl ⟨_, _, rfl, run_takeDeferred hdf, ?_⟩⟩
    exact ⟨_, by simp [results, Tryz.results22, go_sem, y0, y1, y2], rfl, hbw⟩
  case round =>
    rintro l pre ⟨bw, m⟩ F W hpre ⟨hF, hsh⟩ hoff hwl2 hl hFl
    have hmem : (bw, m) ∈ q.visit ⟨ax, ay, aw, ah⟩ := hpre.subset (by simp)
    obtain ⟨m1, m2, m3⟩ := visit_in _ q _ hmem
    obtain ⟨hb0, -⟩ := visit_high _ q _ hmem
    have hvq := HVQ.out _ hmem
    have hlp : pre.length + 1 ≤ 1000000000 := by have := hpre.length_le; simp at this; omega
    dsimp only at m1 m2 m3 hb0 hvq
    obtain ⟨vo, hvo, -⟩ := m.v_ptr
    obtain ⟨n, hn⟩ : ∃ n : Int, ((pre.length : Nat) : Int) = n := ⟨_, rfl⟩
    obtain ⟨lv, hlv⟩ : ∃ n : Int, ((lvV pre : Nat) : Int) = n := ⟨_, rfl⟩
    obtain ⟨dp, hdp⟩ : ∃ n : Int, dpV pre = n := ⟨_, rfl⟩
    have hlvp : lvV pre ≤ pre.length := List.countP_le_length
    rw [hn, hlv, hdp] at hsh
    have hwn : IntKind.i64.wrap (n + 1) = n + 1 := IntWalk.i64_in _ (by omega)
    have hwl : IntKind.i64.wrap (lv + 1) = lv + 1 := IntWalk.i64_in _ (by omega)
    have hA0 : w.heap.size ≠ l := fun z => hFl ((hF l).2 (.inl z.symm))
    have hB0 : w.heap.size + 1 ≠ l := fun z => hFl ((hF l).2 (.inr (.inl z.symm)))
    have hC0 : w.heap.size + 1 + 1 ≠ l := fun z => hFl ((hF l).2 (.inr (.inr z.symm)))
    have hmW : m.At W := (m3 wl (HAT.out wl hsl)).off hoff (fun b hb z => by have := hlt b (List.mem_cons_of_mem _ (m2 b hb)); have z' : b = w.heap.size ∨ b = w.heap.size + 1 ∨ b = w.heap.size + 1 + 1 := z; omega)
    have hml : ∀ b ∈ m.bl, b < w.heap.size := fun b hb => hlt b (List.mem_cons_of_mem _ (m2 b hb))
    have hszW := hoff.size
    have HPX := Lib.hid (And.intro hn (And.intro hlv (And.intro hdp hb0)))
    simp only [encN, hvo]
    clear hseq hpre hmem m2 m3 hn hlv hdp hb0 hlp hlvp hA hB hC
    gi_wp2
    refine ⟨Since.refl W, fun W2 hz2 ho2 => ?_⟩
    have hs2 : ShB w.heap.size (w.heap.size + 1) (w.heap.size + 1 + 1) n lv dp W2 W2 := ⟨ho2.whole hsh.a hA0, ho2.whole hsh.b hB0, ho2.whole hsh.c hC0, Off.refl _ _⟩
    have hm2 : m.At W2 := hmW.off ho2 (fun b hb z => by have := hml b hb; have z' : b = l := z; omega)
    have hab : w.heap.size ≠ w.heap.size + 1 := by omega
    have hac : w.heap.size ≠ w.heap.size + 1 + 1 := by omega
    have hbc : w.heap.size + 1 ≠ w.heap.size + 1 + 1 := by omega
    have hba : w.heap.size + 1 ≠ w.heap.size := by omega
    have hca : w.heap.size + 1 + 1 ≠ w.heap.size := by omega
    have hcb : w.heap.size + 1 + 1 ≠ w.heap.size + 1 := by omega
    have hma : m.At (W2.setCell ⟨w.heap.size, 0, none⟩ (.int .i64 (n + 1))) := hm2.keep (fun b hb => Below.heap_setCell W2 ⟨w.heap.size, 0, none⟩ _ b (by have := hml b hb; show b ≠ w.heap.size; omega))
    have hil := isLeafN_at hma m1 hvq
    rw [hvo] at hil
    have HIL := Lib.hid hil
    have HS2 := Lib.hid hs2
    have HS3 := Lib.hid (fun v => hs2.set1 hab hac v)
    have e0 := hs2.a.cell 0
    have e1 := hs2.a.frozen 0
    have e2 := (hs2.set1 hab hac (n + 1)).b.cell 0
    have e3 := (hs2.set1 hab hac (n + 1)).b.frozen 0
    have e4 := (hs2.set1 hab hac (n + 1)).c.cell 0
    have e5 := (hs2.set1 hab hac (n + 1)).c.frozen 0
    have e6 := ((hs2.set1 hab hac (n + 1)).set2 hab hbc (lv + 1)).c.cell 0
    have e7 := ((hs2.set1 hab hac (n + 1)).set2 hab hbc (lv + 1)).c.frozen 0
    obtain ⟨lf, hlf⟩ : ∃ lf, m.isLeaf = lf := ⟨_, rfl⟩
    rw [hlf] at HIL
    have HLF := Lib.hid hlf
    clear hsh hs2 hm2 hmW hma hil hlf hab hac hbc
    cases lf with
    | false =>
      gi_wp2_with (refine ⟨trivial, rfl, ?_⟩; gi_at_call 51; refine (CallsIn.inRound l (callsIn_wide.2 HIL.out)).mono ?_; rintro e w3 ⟨rfl, rfl⟩)
      obtain ⟨hn, hlv, hdp, hb0⟩ := HPX.out
      have hab : w.heap.size ≠ w.heap.size + 1 := by omega
      have hac : w.heap.size ≠ w.heap.size + 1 + 1 := by omega
      have hbc : w.heap.size + 1 ≠ w.heap.size + 1 + 1 := by omega
      have q1 : (((pre ++ [(bw, m)]).length : Nat) : Int) = n + 1 := by rw [List.length_append, ← hn]; simp
      have q2 : ((lvV (pre ++ [(bw, m)]) : Nat) : Int) = lv := by
        unfold lvV at hlv ⊢
        rw [List.countP_append, ← hlv]
        simp [HLF.out]
      have q3 : dpV (pre ++ [(bw, m)]) = max dp bw := by rw [dpV_snoc _ _ hb0, hdp]
      have hSf := (HS2.out.set1 hab hac (n + 1)).set3 hac hbc (max dp bw)
      exact ⟨F, ⟨hF, by rw [q1, q2, q3]; exact ⟨hSf.a, hSf.b, hSf.c, Off.refl _ _⟩⟩, hSf.off.mono (fun b _ z => (hF b).2 z), fun _ z => .inl z⟩
    | true =>
      gi_wp2_with (refine ⟨trivial, rfl, ?_⟩; gi_at_call 51; refine (CallsIn.inRound l (callsIn_wide.2 HIL.out)).mono ?_; rintro e w3 ⟨rfl, rfl⟩)
      obtain ⟨hn, hlv, hdp, hb0⟩ := HPX.out
      have hab : w.heap.size ≠ w.heap.size + 1 := by omega
      have hac : w.heap.size ≠ w.heap.size + 1 + 1 := by omega
      have hbc : w.heap.size + 1 ≠ w.heap.size + 1 + 1 := by omega
      have q1 : (((pre ++ [(bw, m)]).length : Nat) : Int) = n + 1 := by rw [List.length_append, ← hn]; simp
      have q2 : ((lvV (pre ++ [(bw, m)]) : Nat) : Int) = lv + 1 := by
        unfold lvV at hlv ⊢
        rw [List.countP_append, ← hlv]
        simp [HLF.out]
      have q3 : dpV (pre ++ [(bw, m)]) = max dp bw := by rw [dpV_snoc _ _ hb0, hdp]
      have hSf := ((HS2.out.set1 hab hac (n + 1)).set2 hab hbc (lv + 1)).set3 hac hbc (max dp bw)
      exact ⟨F, ⟨hF, by rw [q1, q2, q3]; exact ⟨hSf.a, hSf.b, hSf.c, Off.refl _ _⟩⟩, hSf.off.mono (fun b _ z => (hF b).2 z), fun _ z => .inl z⟩
theorem zone_high {k d b : Int} (h : okP k d b = true) : ((zoneR k d b).w + (zoneR k d b).h).toNat ≤ 131072 := by
  have h1 := zone_good h
  have := h1.x0; have := h1.y0; have := h1.x1; have := h1.y1
  omega
/-- Shape: just what the zone and the records ask. -/
theorem tshape_any {g : Nat} {q : QN} {k d b : Int} {L : List Rq} {w : World} (h : TreeO g q k d b L w) {f : Nat} (hf : ((zoneR k d b).w + (zoneR k d b).h).toNat ≤ f) {x y z : Int} (hS : shQ f (zoneR k d b) L = (x, y, z)) : Calls Tryz.prog 22 #[.pointer (some ⟨g, 0, none⟩)] w fun e w' => e = .returned (.tuple #[.int .i64 x, .int .i64 y, .int .i64 z]) ∧ Below w.heap.size w w' := by
  have h1 := ok_high q _ L h.tr.ok (fun _ => h.tr.good)
  have hg := h.tr.good
  have := hg.w1; have := hg.h1
  have e := shape_ok (zoneR k d b) q (zoneR k d b) L f h.tr.ok h.tr.good h.tr.nn (fun _ _ z => z) (by omega)
  have hs := tshapeV_any h
  rw [e, hS] at hs
  exact hs
end Go.Proofs.YthfhpejpjiaikaaGreat
