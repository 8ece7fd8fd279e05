/- quad.Tree's Part of a made tree: a zone below, its records put one by one. -/
import Derived.Test.YthfhpejpjiaikaaGreatK11
import Derived.Test.YthfhpejpjiaikaaGreatK25
import Derived.Test.YthfhpejpjiaikaaGreatK30
import Derived.Test.YthfhpejpjiaikaaGreatK31
import Derived.Test.YthfhpejpjiaikaaGreatK40
namespace Go.Proofs.YthfhpejpjiaikaaGreat
open Go.RowKit Go.Shelf
attribute [local go_sem] Oper.semAt_some
set_option linter.unusedVariables false
set_option linter.unusedSimpArgs false
/-- The new tree while it is filled; its blocks. -/
def fillI (gp NB : Nat) (k d b : Int) (pre : List Rq) (F : Nat → Prop) (W : World) : Prop := ∃ q, TreeO gp q k d b (putsQ [] pre) W ∧ (∀ c, F c ↔ c ∈ gp :: q.bl) ∧ ¬ F NB
theorem fillI_kept {gp NB : Nat} {k d b : Int} : Kept (fillI gp NB k d b) := by
  rintro s F W W' ⟨q, h1, h2, h3⟩ hsz hb
  exact ⟨q, h1.keep (fun c hc => hb c ((h2 c).2 hc)), h2, h3⟩
theorem fillI_low {gp NB : Nat} {k d b : Int} : Low (fillI gp NB k d b) := by
  rintro s F W ⟨q, h1, h2, h3⟩ c hc
  exact h1.lt c ((h2 c).1 hc)
/-- A round: one record more. -/
theorem fill_put {gp NB : Nat} {k d b : Int} {pre : List Rq} {q p : QN} {W W2 W3 W4 : World} {F : Nat → Prop} (h : TreeO gp q k d b (putsQ [] pre) W2) (hF : ∀ c, F c ↔ c ∈ gp :: q.bl) (hnF : ¬ F NB) (hnW : NB < W.heap.size) (hz : W.heap.size ≤ W2.heap.size) (hs : Since W2 W3)
    {s : Rq} (hi : inQ (zoneR k d b) s = true) (hl : pre.length ≤ 999) (p1 : p.v = q.v) (p2 : p.At W4) (p3 : p.Sep) (p4 : p.Ok (zoneR k d b) (putQ (putsQ [] pre) s)) (p5 : Off (fun c => c ∈ q.bl) W3 W4) (p6 : ∀ c ∈ p.bl, c ∈ q.bl ∨ W3.heap.size ≤ c) :
    ∃ F', fillI gp NB k d b (pre ++ [s]) F' W4 ∧ Off F W2 W4 ∧ ∀ c, F' c → F c ∨ W.heap.size ≤ c := by
  have hm := putsQ_most [] pre
  simp only [List.length_nil] at hm
  obtain ⟨q2, e1, e2, e3, e4⟩ := TreeP.of h hs p1 p2 p3 p4 p5 p6 (putQ_sort h.tr.sort s) (putQ_in h.tr.sort h.tr.inn hi) (Nat.le_trans (putQ_most (putsQ [] pre) s) (by omega))
  have key : ∀ c ∈ gp :: q2.bl, F c ∨ W.heap.size ≤ c := fun c hc => by
    rcases List.mem_cons.1 hc with rfl | hc
    · exact .inl ((hF _).2 List.mem_cons_self)
    · rcases e4 c hc with z | z
      · exact .inl ((hF c).2 (List.mem_cons_of_mem _ z))
      · exact .inr (Nat.le_trans hz z)
  exact ⟨fun c => c ∈ gp :: q2.bl, ⟨q2, by rw [putsQ_snoc]; exact e2, fun _ => Iff.rfl, fun z => (key NB z).elim hnF (fun y => by omega)⟩, e3.mono (fun c _ z => (hF c).2 (List.mem_cons_of_mem _ z)), key⟩
/-- What Part answers: a new tree. -/
def PartO (k d b : Int) (M : List Rq) (w : World) (e : Ending) (W' : World) : Prop := ∃ g q, e = .returned (.tuple #[.pointer (some ⟨g, 0, none⟩), .int .i64 0]) ∧ TreeO g q k d b M W' ∧ (∀ c ∈ g :: q.bl, w.heap.size ≤ c) ∧ Below w.heap.size w W'
set_option maxRecDepth 100000 in
set_option maxHeartbeats 6400000 in
theorem tpart_any {g : Nat} {q : QN} {k d b d2 b2 : Int} {L : List Rq} {w : World} (h : TreeO g q k d b L w) (ha : abvB d b d2 b2 = true) (ho : okP k d2 b2 = true) (hl : L.length ≤ 500) :
    Calls Tryz.prog 17 #[.pointer (some ⟨g, 0, none⟩), .agg #[.int .i64 d2, .int .i64 b2]] w (PartO k d2 b2 (L.filter (inQ (zoneR k d2 b2))) w) := by
  obtain ⟨⟨zx, zy, zw, zh⟩, hz⟩ : ∃ z, zoneR k d2 b2 = z := ⟨_, rfl⟩
  obtain ⟨gq, hq0, -, -⟩ := h.tr.root
  obtain ⟨w0, hw0⟩ : ∃ w0, w0 = w.alloc (.cells #[.int .i64 d2, .int .i64 b2] 23) := ⟨_, rfl⟩
  have hs0 : Since w w0 := by rw [hw0]; exact (Since.refl w).alloc _
  have wh0 : Whole w0 w.heap.size 23 #[.int .i64 d2, .int .i64 b2] := by rw [hw0]; exact Whole.new w _ _
  have b0 := box_cell wh0 0 (.int .i64 d2) rfl
  have b1 := box_cell wh0 1 (.int .i64 b2) rfl
  have HM := Lib.hid (fun W (hW : Since w0 W) => tmade_any (h.since (hs0.trans hW)))
  have HAB := Lib.hid (fun W => above_at ha W)
  have HN := Lib.hid (fun W => tnew_any (k := k) (d := d2) (b := b2) (v := .slice none 0 0) (l := []) (nil_listE W) (Nat.le_refl _) (by simp))
  have a0 := fun W (hW : Since w0 W) => (Since.whole (hs0.trans hW) h.wh).cell 0
  have a1 := fun W (hW : Since w0 W) => (Since.whole (hs0.trans hW) h.wh).cell 1
  have a2 := fun W (hW : Since w0 W) => (Since.whole (hs0.trans hW) h.wh).cell 2
  have HH := Lib.hid h
  have HZ := Lib.hid (And.intro hz (And.intro hq0 (And.intro ho hl)))
  have HS0 := Lib.hid hs0
  have HW := Lib.hid hw0
  clear hw0 wh0 ha hl h hz hq0
  refine (callsIn_wide (n := 0)).1 ?_
  refine callsIn_of_wp_marks Tryz.func17 rfl trivial ?_ rfl
  refine wpIn_wide.2 ?_
  simp only [Tryz.ntmps17, List.size_toArray, List.length_cons, List.length_nil, Nat.reduceAdd, Nat.reduceSub, Array.replicate_succ, Array.replicate_zero, List.push_toArray, List.append_toArray, List.nil_append, List.cons_append]
  go_wp2_with fail
  rw [← HW.out]
  refine (wpIn_wide (n := 0)).1 ?_
  refine wide_held_calm (S := fun W => Since w0 W) (by kernel_rfl) (Since.refl w0).drew (fun hHeld => ?_)
  generalize w0.drew = wq at hHeld ⊢
  have hq : Since w0 wq := hHeld
  refine wpAnyF_take (i := 0) (v := ?_) rfl (by kernel_rfl) (by kernel_rfl) (by kernel_rfl) (fun _ _ _ h => h) (Or.inl ⟨by rfl, ?_⟩) (by assumption) ?_
  rotate_left 1
  · (intro W hW; clear hW; go_simp; try with_reducible rfl)
  simp only [Act.put, List.getElem_toArray, List.getElem_cons_zero, List.setIfInBounds_toArray, List.set_cons_zero, List.set_cons_succ]
  refine wpAnyF_ready (rs := [1]) (by kernel_rfl) (by simp) ?_
  refine AllReadyF.cons rfl (fun K hK => ?_) AllReadyF.nil
  go_simp
  refine (HM.out _ hq).mono ?_
  rintro e wn ⟨rfl, rfl⟩
  go_wp2_with fail
  refine hK.out _ _ (hq) (fun hHeld => ?_)
  clear hK K
  try simp only [Act.put, List.getElem_toArray, List.getElem_cons_succ, List.getElem_cons_zero, List.setIfInBounds_toArray, List.set_cons_zero, List.set_cons_succ]
  refine wpAnyF_take (i := 2) (v := ?_) rfl (by kernel_rfl) (by kernel_rfl) (by kernel_rfl) (fun _ _ _ h => h) (Or.inl ⟨by rfl, ?_⟩) (by assumption) ?_
  rotate_left 1
  · (intro W hW; clear hW; go_simp; try with_reducible rfl)
  simp only [Act.put, List.getElem_toArray, List.getElem_cons_succ, List.getElem_cons_zero, List.setIfInBounds_toArray, List.set_cons_zero, List.set_cons_succ]
  refine wpAnyF_take (i := 3) (v := ?_) rfl (by kernel_rfl) (by kernel_rfl) (by kernel_rfl) (fun _ _ _ h => h) (Or.inl ⟨by rfl, ?_⟩) (by assumption) ?_
  rotate_left 1
  · (intro W hW; clear hW; go_simp; try with_reducible rfl)
  simp only [Act.put, List.getElem_toArray, List.getElem_cons_succ, List.getElem_cons_zero, List.setIfInBounds_toArray, List.set_cons_zero, List.set_cons_succ]
  refine wpAnyF_take (i := 4) (v := ?_) rfl (by kernel_rfl) (by kernel_rfl) (by kernel_rfl) (fun _ _ _ h => h) (Or.inl ⟨by rfl, ?_⟩) (by assumption) ?_
  rotate_left 1
  · (intro W hW; clear hW; go_simp; try with_reducible rfl)
  simp only [Act.put, List.getElem_toArray, List.getElem_cons_succ, List.getElem_cons_zero, List.setIfInBounds_toArray, List.set_cons_zero, List.set_cons_succ]
  refine wpAnyF_take (i := 5) (v := ?_) rfl (by kernel_rfl) (by kernel_rfl) (by kernel_rfl) (fun _ _ _ h => h) (Or.inl ⟨by rfl, ?_⟩) (by assumption) ?_
  rotate_left 1
  · (intro W hW; clear hW; go_simp; try with_reducible rfl)
  simp only [Act.put, List.getElem_toArray, List.getElem_cons_succ, List.getElem_cons_zero, List.setIfInBounds_toArray, List.set_cons_zero, List.set_cons_succ]
  refine wpAnyF_take (i := 6) (v := ?_) rfl (by kernel_rfl) (by kernel_rfl) (by kernel_rfl) (fun _ _ _ h => h) (Or.inl ⟨by rfl, ?_⟩) (by assumption) ?_
  rotate_left 1
  · (intro W hW; clear hW; go_simp; try with_reducible rfl)
  simp only [Act.put, List.getElem_toArray, List.getElem_cons_succ, List.getElem_cons_zero, List.setIfInBounds_toArray, List.set_cons_zero, List.set_cons_succ]
  refine wpAnyF_take (i := 7) (v := ?_) rfl (by kernel_rfl) (by kernel_rfl) (by kernel_rfl) (fun _ _ _ h => h) (Or.inl ⟨by rfl, ?_⟩) (by assumption) ?_
  rotate_left 1
  · (intro W hW; skip; go_simp; try with_reducible rfl)
  simp only [Act.put, List.getElem_toArray, List.getElem_cons_succ, List.getElem_cons_zero, List.setIfInBounds_toArray, List.set_cons_zero, List.set_cons_succ]
  refine wpAnyF_take (i := 8) (v := ?_) rfl (by kernel_rfl) (by kernel_rfl) (by kernel_rfl) (fun _ _ _ h => h) (Or.inl ⟨by rfl, ?_⟩) (by assumption) ?_
  rotate_left 1
  · (intro W hW; skip; go_simp; try with_reducible rfl)
  simp only [Act.put, List.getElem_toArray, List.getElem_cons_succ, List.getElem_cons_zero, List.setIfInBounds_toArray, List.set_cons_zero, List.set_cons_succ]
  refine wpAnyF_ready (rs := [9]) (by kernel_rfl) (by simp) ?_
  refine AllReadyF.cons rfl (fun K hK => ?_) AllReadyF.nil
  go_simp
  refine (HAB.out _).mono ?_
  rintro e w2 ⟨rfl, hb2⟩
  have hs2 : Since w0 w2 := hq.trans hb2
  go_wp2_with fail
  refine hK.out _ _ (hs2) (fun hHeld => ?_)
  clear hK K
  try simp only [Act.put, List.getElem_toArray, List.getElem_cons_succ, List.getElem_cons_zero, List.setIfInBounds_toArray, List.set_cons_zero, List.set_cons_succ]
  refine wpAnyF_take (i := 10) (v := ?_) rfl (by kernel_rfl) (by kernel_rfl) (by kernel_rfl) (fun _ _ _ h => h) (Or.inl ⟨by rfl, ?_⟩) (by assumption) ?_
  rotate_left 1
  · (intro W hW; clear hW; go_simp; try with_reducible rfl)
  simp only [Act.put, List.getElem_toArray, List.getElem_cons_succ, List.getElem_cons_zero, List.setIfInBounds_toArray, List.set_cons_zero, List.set_cons_succ]
  refine wpAnyF_take (i := 11) (v := ?_) rfl (by kernel_rfl) (by kernel_rfl) (by kernel_rfl) (fun _ _ _ h => h) (Or.inl ⟨by rfl, ?_⟩) (by assumption) ?_
  rotate_left 1
  · (intro W hW; clear hW; go_simp; try with_reducible rfl)
  simp only [Act.put, List.getElem_toArray, List.getElem_cons_succ, List.getElem_cons_zero, List.setIfInBounds_toArray, List.set_cons_zero, List.set_cons_succ]
  refine wpAnyF_done (by kernel_rfl) ?_ _
  simp only [calmQ]
  go_wp2_with fail
  clear hHeld hb2 hq a1 a2
  refine (wpIn_wide (n := 0)).1 ?_
  refine wide_held_calm (S := fun W => Since w0 W) (by kernel_rfl) hs2.drew (fun hHeld => ?_)
  generalize w2.drew = wr at hHeld ⊢
  have hr : Since w0 wr := hHeld
  clear hs2
  refine wpAnyF_take (i := 0) (v := ?_) rfl (by kernel_rfl) (by kernel_rfl) (by kernel_rfl) (fun _ _ _ h => h) (Or.inl ⟨by rfl, ?_⟩) (by assumption) ?_
  rotate_left 1
  · (intro W hW; clear hW; go_simp; try with_reducible rfl)
  simp only [Act.put, List.getElem_toArray, List.getElem_cons_zero, List.setIfInBounds_toArray, List.set_cons_zero, List.set_cons_succ]
  refine wpAnyF_take (i := 1) (v := ?_) rfl (by kernel_rfl) (by kernel_rfl) (by kernel_rfl) (fun _ _ _ h => h) (Or.inl ⟨by rfl, ?_⟩) (by assumption) ?_
  rotate_left 1
  · (intro W hW; clear hW; go_simp; try with_reducible rfl)
  simp only [Act.put, List.getElem_toArray, List.getElem_cons_succ, List.getElem_cons_zero, List.setIfInBounds_toArray, List.set_cons_zero, List.set_cons_succ]
  refine wpAnyF_take (i := 2) (v := ?_) rfl (by kernel_rfl) (by kernel_rfl) (by kernel_rfl) (fun _ _ _ h => h) (Or.inl ⟨by rfl, ?_⟩) (by assumption) ?_
  rotate_left 1
  · (intro W hW; clear hW; go_simp; try with_reducible rfl)
  simp only [Act.put, List.getElem_toArray, List.getElem_cons_succ, List.getElem_cons_zero, List.setIfInBounds_toArray, List.set_cons_zero, List.set_cons_succ]
  refine wpAnyF_take (i := 3) (v := ?_) rfl (by kernel_rfl) (by kernel_rfl) (by kernel_rfl) (fun _ _ _ h => h) (Or.inl ⟨by rfl, ?_⟩) (by assumption) ?_
  rotate_left 1
  · (intro W hW; skip; go_simp; try with_reducible rfl)
  simp only [Act.put, List.getElem_toArray, List.getElem_cons_succ, List.getElem_cons_zero, List.setIfInBounds_toArray, List.set_cons_zero, List.set_cons_succ]
  refine wpAnyF_take (i := 4) (v := ?_) rfl (by kernel_rfl) (by kernel_rfl) (by kernel_rfl) (fun _ _ _ h => h) (Or.inl ⟨by rfl, ?_⟩) (by assumption) ?_
  rotate_left 1
  · (intro W hW; skip; go_simp; try with_reducible rfl)
  simp only [Act.put, List.getElem_toArray, List.getElem_cons_succ, List.getElem_cons_zero, List.setIfInBounds_toArray, List.set_cons_zero, List.set_cons_succ]
  refine wpAnyF_ready (rs := [5, 9]) (by kernel_rfl) (by simp) ?_
  refine AllReadyF.cons rfl (fun K hK => ?_) (AllReadyF.cons rfl (fun K hK => ?_) AllReadyF.nil)
  · go_simp
    refine (HN.out _).mono ?_
    rintro e w3 hP
    obtain ⟨gp, q0, rfl, hT, hnew, hb3⟩ := new_yes hP ho rfl
    clear hP
    have hs3 : Since w0 w3 := hr.trans hb3
    go_wp2_with fail
    refine hK.out _ _ (hs3) (fun hHeld => ?_)
    clear hK K
    try simp only [Act.put, List.getElem_toArray, List.getElem_cons_succ, List.getElem_cons_zero, List.setIfInBounds_toArray, List.set_cons_zero, List.set_cons_succ]
    refine wpAnyF_take (i := 6) (v := ?_) rfl (by kernel_rfl) (by kernel_rfl) (by kernel_rfl) (fun _ _ _ h => h) (Or.inl ⟨by rfl, ?_⟩) (by assumption) ?_
    rotate_left 1
    · (intro W hW; clear hW; go_simp; try with_reducible rfl)
    simp only [Act.put, List.getElem_toArray, List.getElem_cons_succ, List.getElem_cons_zero, List.setIfInBounds_toArray, List.set_cons_zero, List.set_cons_succ]
    refine wpAnyF_take (i := 7) (v := ?_) rfl (by kernel_rfl) (by kernel_rfl) (by kernel_rfl) (fun _ _ _ h => h) (Or.inl ⟨by rfl, ?_⟩) (by assumption) ?_
    rotate_left 1
    · (intro W hW; clear hW; go_simp; try with_reducible rfl)
    simp only [Act.put, List.getElem_toArray, List.getElem_cons_succ, List.getElem_cons_zero, List.setIfInBounds_toArray, List.set_cons_zero, List.set_cons_succ]
    refine wpAnyF_take (i := 8) (v := ?_) rfl (by kernel_rfl) (by kernel_rfl) (by kernel_rfl) (fun _ _ _ h => h) (Or.inl ⟨by rfl, ?_⟩) (by assumption) ?_
    rotate_left 1
    · (intro W hW; clear hW; go_simp; try with_reducible rfl)
    simp only [Act.put, List.getElem_toArray, List.getElem_cons_succ, List.getElem_cons_zero, List.setIfInBounds_toArray, List.set_cons_zero, List.set_cons_succ]
    refine wpAnyF_ready (rs := [9]) (by kernel_rfl) (by simp) ?_
    refine AllReadyF.cons rfl (fun K hK => ?_) AllReadyF.nil
    go_simp
    skip
    refine hK.out _ _ (hs3.alloc _) (fun hHeld => ?_)
    clear hK K
    try simp only [Act.put, List.getElem_toArray, List.getElem_cons_succ, List.getElem_cons_zero, List.setIfInBounds_toArray, List.set_cons_zero, List.set_cons_succ]
    refine wpAnyF_ready (rs := [10]) (by kernel_rfl) (by simp) ?_
    refine AllReadyF.cons rfl (fun K hK => ?_) AllReadyF.nil
    go_simp
    skip
    refine hK.out _ _ (hs3.alloc _) (fun hHeld => ?_)
    clear hK K
    try simp only [Act.put, List.getElem_toArray, List.getElem_cons_succ, List.getElem_cons_zero, List.setIfInBounds_toArray, List.set_cons_zero, List.set_cons_succ]
    refine wpAnyF_take (i := 11) (v := ?_) rfl (by kernel_rfl) (by kernel_rfl) (by kernel_rfl) (fun _ _ _ h => h) (Or.inl ⟨by rfl, ?_⟩) (by assumption) ?_
    rotate_left 1
    · (intro W hW; clear hW; go_simp; try with_reducible rfl)
    simp only [Act.put, List.getElem_toArray, List.getElem_cons_succ, List.getElem_cons_zero, List.setIfInBounds_toArray, List.set_cons_zero, List.set_cons_succ]
    refine wpAnyF_done (by kernel_rfl) ?_ _
    simp only [calmQ]
    obtain ⟨w5, hw5⟩ : ∃ w5, w5 = w3.alloc (.cells #[.pointer (some ⟨gp, 0, none⟩)] 27) := ⟨_, rfl⟩
    have hS5 : Since w0 w5 := Since.named (hs3.alloc _) hw5
    have hN5 : Whole w5 w3.heap.size 27 #[.pointer (some ⟨gp, 0, none⟩)] := (Whole.new w3 _ _).named hw5
    have hT5 : TreeO gp q0 k d2 b2 [] w5 := by rw [hw5]; exact hT.since ((Since.refl w3).alloc _)
    obtain ⟨NB, hNB⟩ : ∃ NB, NB = w3.heap.size := ⟨_, rfl⟩
    have hNT : ∀ c ∈ gp :: q0.bl, c ≠ NB := fun c hc e => by have := hT.lt c hc; omega
    have hNl : w0.heap.size ≤ NB := by have := hs3.size_; omega
    have hnew5 : ∀ c ∈ gp :: q0.bl, w0.heap.size ≤ c := fun c hc => Nat.le_trans hr.size_ (hnew c hc)
    rw [← hw5, ← hNB]
    rw [← hNB] at hN5
    clear hHeld hw5 hNB hb3 hr hs3 hT hnew
    obtain ⟨gz, hqz, -, hzc⟩ := hT5.tr.root
    obtain ⟨hz, hq0, ho', hl⟩ := HZ.out
    rw [hz] at hzc
    dsimp only at hzc
    have c3 := fun W (hW : Since w5 W) => (Since.whole (HS0.out.trans (hS5.trans hW)) HH.out.wh).cell 3
    rw [hq0] at c3
    replace c3 : ∀ W, Since w5 W → W.cell? ⟨g, 3, none⟩ = some (.pointer (some ⟨gq, 0, none⟩)) := c3
    have n0 := fun W (hW : Since w5 W) => (Since.whole hW hN5).cell 0
    replace n0 : ∀ W, Since w5 W → W.cell? ⟨NB, 0, none⟩ = some (.pointer (some ⟨gp, 0, none⟩)) := n0
    have t3 := fun W (hW : Since w5 W) => (Since.whole hW hT5.wh).cell 3
    rw [hqz] at t3
    replace t3 : ∀ W, Since w5 W → W.cell? ⟨gp, 3, none⟩ = some (.pointer (some ⟨gz, 0, none⟩)) := t3
    have z0 := fun W (hW : Since w5 W) => (hzc W (hT5.tr.at_.since hW)).1
    have z1 := fun W (hW : Since w5 W) => (hzc W (hT5.tr.at_.since hW)).2.1
    have z2 := fun W (hW : Since w5 W) => (hzc W (hT5.tr.at_.since hW)).2.2.1
    have z3 := fun W (hW : Since w5 W) => (hzc W (hT5.tr.at_.since hW)).2.2.2.1
    have HT5 := Lib.hid (And.intro hT5 (And.intro hNT (And.intro hNl hnew5)))
    have HN5 := Lib.hid hN5
    clear hzc hT5 hNT hNl hnew5 hN5 hz hq0 ho' hl hqz a0 b0 b1
    go_wp2_with fail
    refine (wpIn_wide (n := 0)).1 ?_
    refine wide_held_calm (S := fun W => Since w5 W) (by kernel_rfl) (Since.refl w5).drew (fun hHeld => ?_)
    generalize w5.drew = ws at hHeld ⊢
    have hs : Since w5 ws := hHeld
    refine wpAnyF_take (i := 0) (v := ?_) rfl (by kernel_rfl) (by kernel_rfl) (by kernel_rfl) (fun _ _ _ h => h) (Or.inl ⟨by rfl, ?_⟩) (by assumption) ?_
    rotate_left 1
    · (intro W hW; clear hW; go_simp; try with_reducible rfl)
    simp only [Act.put, List.getElem_toArray, List.getElem_cons_zero, List.setIfInBounds_toArray, List.set_cons_zero, List.set_cons_succ]
    refine wpAnyF_take (i := 1) (v := ?_) rfl (by kernel_rfl) (by kernel_rfl) (by kernel_rfl) (fun _ _ _ h => h) (Or.inl ⟨by rfl, ?_⟩) (by assumption) ?_
    rotate_left 1
    · (intro W hW; clear hW; go_simp; try with_reducible rfl)
    simp only [Act.put, List.getElem_toArray, List.getElem_cons_succ, List.getElem_cons_zero, List.setIfInBounds_toArray, List.set_cons_zero, List.set_cons_succ]
    refine wpAnyF_take (i := 2) (v := ?_) rfl (by kernel_rfl) (by kernel_rfl) (by kernel_rfl) (fun _ _ _ h => h) (Or.inl ⟨by rfl, ?_⟩) (by assumption) ?_
    rotate_left 1
    · (intro W hW; clear hW; go_simp; try with_reducible rfl)
    simp only [Act.put, List.getElem_toArray, List.getElem_cons_succ, List.getElem_cons_zero, List.setIfInBounds_toArray, List.set_cons_zero, List.set_cons_succ]
    refine wpAnyF_take (i := 3) (v := ?_) rfl (by kernel_rfl) (by kernel_rfl) (by kernel_rfl) (fun _ _ _ h => h) (Or.inl ⟨by rfl, ?_⟩) (by assumption) ?_
    rotate_left 1
    · (intro W hW; skip; go_simp; try with_reducible rfl)
    simp only [Act.put, List.getElem_toArray, List.getElem_cons_succ, List.getElem_cons_zero, List.setIfInBounds_toArray, List.set_cons_zero, List.set_cons_succ]
    refine wpAnyF_take (i := 4) (v := ?_) rfl (by kernel_rfl) (by kernel_rfl) (by kernel_rfl) (fun _ _ _ h => h) (Or.inl ⟨by rfl, ?_⟩) (by assumption) ?_
    rotate_left 1
    · (intro W hW; skip; go_simp; try with_reducible rfl)
    simp only [Act.put, List.getElem_toArray, List.getElem_cons_succ, List.getElem_cons_zero, List.setIfInBounds_toArray, List.set_cons_zero, List.set_cons_succ]
    refine wpAnyF_take (i := 5) (v := ?_) rfl (by kernel_rfl) (by kernel_rfl) (by kernel_rfl) (fun _ _ _ h => h) (Or.inl ⟨by rfl, ?_⟩) (by assumption) ?_
    rotate_left 1
    · (intro W hW; clear hW; go_simp; try with_reducible rfl)
    simp only [Act.put, List.getElem_toArray, List.getElem_cons_succ, List.getElem_cons_zero, List.setIfInBounds_toArray, List.set_cons_zero, List.set_cons_succ]
    refine wpAnyF_take (i := 6) (v := ?_) rfl (by kernel_rfl) (by kernel_rfl) (by kernel_rfl) (fun _ _ _ h => h) (Or.inl ⟨by rfl, ?_⟩) (by assumption) ?_
    rotate_left 1
    · (intro W hW; clear hW; go_simp; try with_reducible rfl)
    simp only [Act.put, List.getElem_toArray, List.getElem_cons_succ, List.getElem_cons_zero, List.setIfInBounds_toArray, List.set_cons_zero, List.set_cons_succ]
    refine wpAnyF_take (i := 7) (v := ?_) rfl (by kernel_rfl) (by kernel_rfl) (by kernel_rfl) (fun _ _ _ h => h) (Or.inl ⟨by rfl, ?_⟩) (by assumption) ?_
    rotate_left 1
    · (intro W hW; skip; go_simp; try with_reducible rfl)
    simp only [Act.put, List.getElem_toArray, List.getElem_cons_succ, List.getElem_cons_zero, List.setIfInBounds_toArray, List.set_cons_zero, List.set_cons_succ]
    refine wpAnyF_take (i := 8) (v := ?_) rfl (by kernel_rfl) (by kernel_rfl) (by kernel_rfl) (fun _ _ _ h => h) (Or.inl ⟨by rfl, ?_⟩) (by assumption) ?_
    rotate_left 1
    · (intro W hW; clear hW; go_simp; try with_reducible rfl)
    simp only [Act.put, List.getElem_toArray, List.getElem_cons_succ, List.getElem_cons_zero, List.setIfInBounds_toArray, List.set_cons_zero, List.set_cons_succ]
    refine wpAnyF_take (i := 9) (v := ?_) rfl (by kernel_rfl) (by kernel_rfl) (by kernel_rfl) (fun _ _ _ h => h) (Or.inl ⟨by rfl, ?_⟩) (by assumption) ?_
    rotate_left 1
    · (intro W hW; clear hW; go_simp; try with_reducible rfl)
    simp only [Act.put, List.getElem_toArray, List.getElem_cons_succ, List.getElem_cons_zero, List.setIfInBounds_toArray, List.set_cons_zero, List.set_cons_succ]
    refine wpAnyF_take (i := 10) (v := ?_) rfl (by kernel_rfl) (by kernel_rfl) (by kernel_rfl) (fun _ _ _ h => h) (Or.inl ⟨by rfl, ?_⟩) (by assumption) ?_
    rotate_left 1
    · (intro W hW; skip; go_simp; try with_reducible rfl)
    simp only [Act.put, List.getElem_toArray, List.getElem_cons_succ, List.getElem_cons_zero, List.setIfInBounds_toArray, List.set_cons_zero, List.set_cons_succ]
    refine wpAnyF_ready (rs := [11]) (by kernel_rfl) (by simp) ?_
    refine AllReadyF.cons rfl (fun K hK => ?_) AllReadyF.nil
    go_simp
    refine (inside_any _ _ rfl ⟨zx, zy, zw, zh⟩ _).mono ?_
    rintro e wl ⟨rfl, hwl⟩
    have hsl : Since w5 wl := by rw [hwl]; exact (hs.alloc _).alloc _
    have HWL := Lib.hid hwl
    clear hwl
    go_wp2_with fail
    refine hK.out _ _ (hsl) (fun hHeld => ?_)
    clear hK K
    try simp only [Act.put, List.getElem_toArray, List.getElem_cons_succ, List.getElem_cons_zero, List.setIfInBounds_toArray, List.set_cons_zero, List.set_cons_succ]
    refine wpAnyF_done (by kernel_rfl) ?_ _
    simp only [calmQ]
    go_wp2_with fail
    have hwl := HWL.out
    have whN : Whole wl ws.heap.size 68 #[.pointer (some ⟨gq, 0, none⟩)] := by rw [hwl]; exact (Whole.new ws _ _).alloc _
    have whR : Whole wl (ws.heap.size + 1) 63 #[.int .i64 zx, .int .i64 zy, .int .i64 zw, .int .i64 zh] := by rw [hwl]; exact (Whole.new (ws.alloc _) _ _).at_ (by simp)
    have hzl : wl.heap.size = ws.heap.size + 2 := by rw [hwl]; simp
    obtain ⟨hT5, hNT, hNl, hnew5⟩ := HT5.out
    obtain ⟨hz, hq0, ho', hl⟩ := HZ.out
    have hTl := hT5.since hsl
    have hHl := HH.out.since (HS0.out.trans (hS5.trans hsl))
    have hNll := Since.whole hsl HN5.out
    have hh1 := ok_high q _ L hHl.tr.ok (fun _ => hHl.tr.good)
    have hgd := hHl.tr.good
    have hgz := zone_good HH.out.ok
    have hhi : q.high ≤ 190000 := by have := hgd.w1; have := hgd.h1; have := hgd.x1; have := hgd.y1; have := hgd.x0; have := hgd.y0; omega
    have hown := visit_own ⟨zx, zy, zw, zh⟩ 1000 q _ L hHl.tr.ok (by omega)
    rw [← hq0] at whN
    have hseq := inside_seq hhi hHl.tr.nn hHl.tr.at_ hown whN whR
    have hws : w5.heap.size ≤ ws.heap.size := Since.size_ hs
    have hqlt : ∀ c ∈ g :: q.bl, c < w.heap.size := HH.out.lt
    have hw05 := (HS0.out.trans hS5).size_
    have hw00 := HS0.out.size_
    have hperm := inner_perm ⟨zx, zy, zw, zh⟩ q _ L hHl.tr.ok (fun _ => hHl.tr.good) hHl.tr.inn
    have hT5l := hT5.lt
    have HSQ := Lib.hid hTl
    have HNL := Lib.hid hNll
    have HPM := Lib.hid (And.intro hperm (And.intro hl hHl.tr.sort))
    have HFA := Lib.hid (And.intro hNT (And.intro hNl (And.intro hnew5 (And.intro hz (hS5.trans hsl)))))
    clear hwl HWL whN whR hs hHeld hTl hHl hNll hh1 hgd hgz hhi hown hperm hT5 hz hl ho' c3 n0 t3 z0 z1 z2 z3
    refine (wpIn_wide (n := 0)).1 ?_
    refine range_wp (gf := 72) (lb := #[.pointer (some ⟨ws.heap.size, 0, none⟩), .pointer (some ⟨ws.heap.size + 1, 0, none⟩)]) rfl (enters_of Tryz.func72 (by kernel_rfl) rfl) hseq ?hG (fun _ => rfl) (fillI gp NB k d2 b2) (fun _ _ _ _ => False) fillI_kept fillI_low (fun _ => no_kept) (fun _ => no_low) (fun c => c ∈ gp :: q0.bl) ?hF0 ?h0 ?round ?done ?stop
    case hG =>
      rintro c (z | z | z)
      · have := hqlt c (List.mem_cons_of_mem _ z); omega
      · omega
      · omega
    case hF0 =>
      rintro c hc (z | z | z)
      · have := hqlt c (List.mem_cons_of_mem _ z); have := hnew5 c hc; omega
      · have := hT5l c hc; omega
      · have := hT5l c hc; omega
    case h0 => exact ⟨q0, HSQ.out, fun _ => Iff.rfl, fun z => HFA.out.1 NB z rfl⟩
    case stop =>
      rintro D c pre W _ _ ⟨F', h, _⟩ _
      exact h.elim
    case done =>
      rintro D W hD ⟨F', ⟨q', hT', hF', -⟩, ho2, hf, hFD⟩ hdd
      have hnb := ho2.whole HNL.out (fun z => HFA.out.1 NB z rfl)
      have x1 := hnb.cell 0
      have HE := Lib.hid (And.intro hD (And.intro hT' (And.intro hF' (And.intro ho2 (And.intro hf hFD)))))
      clear hD hT' hF' ho2 hf hFD hnb hseq
      go_wp2
      obtain ⟨hD, hT', hF', ho2, hf, hFD⟩ := HE.out
      obtain ⟨hNT, hNl, hnew5, hz, hsw⟩ := HFA.out
      obtain ⟨hperm, hl, hsort⟩ := HPM.out
      have hb0 : Since w W := Below.trans (HS0.out.trans hsw) (ho2.below (by have := (HS0.out.trans hsw).size_; omega) (fun c z => Nat.le_trans hw00 (hnew5 c z)))
      refine ⟨by simp, .inl ⟨_, _, rfl, run_takeDeferred hdd, ?_⟩⟩
      refine ⟨_, by simp [results, Tryz.results17, go_sem], ⟨gp, q', rfl, ?_, fun c hc => ?_, ?_⟩⟩
      · rw [hz, ← puts_perm (filt_sort hsort _) hperm]
        exact hT'.keep (fun c hc => World.putObj_heap_other (fun e => hFD (e ▸ (hF' c).2 hc)))
      · rcases hf c ((hF' c).2 hc) with z | z
        · have := hnew5 c z; omega
        · have := (HS0.out.trans hsw).size_; omega
      · exact Below.trans hb0 (belowK_b (w := w) (Nat.le_refl _) _ D _ _ (by omega) hdd rfl rfl)
    case round =>
      rintro l pre s F W hpre ⟨q', hT', hF', hNF'⟩ hoff hwl hl2 hFl
      have hszW := hoff.size
      have hgl : ∀ c ∈ gp :: q'.bl, c ≠ l := fun c hc e => hFl ((hF' l).2 (e ▸ hc))
      have hNF : NB ∉ gp :: q0.bl := fun z => HFA.out.1 NB z rfl
      have hnbW := hoff.whole HNL.out hNF
      have hNBl : NB < wl.heap.size := HNL.out.lt
      have hsin : inQ ⟨zx, zy, zw, zh⟩ s = true := (List.mem_filter.1 (HPM.out.1.mem_iff.1 (hpre.subset (by simp)))).2
      have hpl : pre.length ≤ 499 := by
        have h1 := hpre.length_le
        have h2 := HPM.out.1.length_eq
        have h3 := List.length_filter_le (inQ ⟨zx, zy, zw, zh⟩) L
        have h4 := HPM.out.2.1
        rw [List.length_append, List.length_singleton] at h1
        omega
      clear hseq hpre
      simp only [encI, Rq.v]
      gi_wp2
      refine ⟨(Since.refl W).alloc _, fun W2 hz2 ho2 => ?_⟩
      have hz2' : W2.heap.size = W.heap.size + 1 := by rw [hz2]; try simp
      have hTlt := hT'.lt
      have ha2 := ho2.whole (Whole.new W 55 #[.int .i64 s.x, .int .i64 s.y, .string s.key, .string s.val, .int .i64 s.ver]) (fun z => by have z' : W.heap.size = l := z; omega)
      have hk2 := ho2.whole (hnbW.alloc (.cells #[.int .i64 s.x, .int .i64 s.y, .string s.key, .string s.val, .int .i64 s.ver] 55)) (fun z => by have z' : NB = l := z; omega)
      have hT2 := (hT'.since ((Since.refl W).alloc (.cells #[.int .i64 s.x, .int .i64 s.y, .string s.key, .string s.val, .int .i64 s.ver] 55))).off ho2 (fun c hc z => hgl c hc z)
      obtain ⟨gc, hqc, -, -⟩ := hT2.tr.root
      have hNq : NB ∉ q'.bl := fun z => hNF' ((hF' NB).2 (List.mem_cons_of_mem _ z))
      have hNBW : NB < W.heap.size := hnbW.lt
      have hRq : W.heap.size ∉ q'.bl := fun z => by have := hTlt _ (List.mem_cons_of_mem _ z); omega
      have v0 := off_cell (F := fun c => c ∈ q'.bl) hk2 hNq 0 (.pointer (some ⟨gp, 0, none⟩)) rfl
      have v3 := off_cell (F := fun c => c ∈ q'.bl) hT2.wh hT2.out 3 q'.v rfl
      rw [hqc] at v3
      have r0 := off_cell (F := fun c => c ∈ q'.bl) ha2 hRq 0 (.int .i64 s.x) rfl
      have r1 := off_cell (F := fun c => c ∈ q'.bl) ha2 hRq 1 (.int .i64 s.y) rfl
      have r2 := off_cell (F := fun c => c ∈ q'.bl) ha2 hRq 2 (.string s.key) rfl
      have r3 := off_cell (F := fun c => c ∈ q'.bl) ha2 hRq 3 (.string s.val) rfl
      have r4 := off_cell (F := fun c => c ∈ q'.bl) ha2 hRq 4 (.int .i64 s.ver) rfl
      have hi2 : inQ (zoneR k d2 b2) s = true := by rw [HFA.out.2.2.2.1]; exact hsin
      have hm2 := putsQ_most [] pre
      simp only [List.length_nil] at hm2
      have HP := Lib.hid (fun W3 (hW : Since W2 W3) => put_any (hT2.tr.since hW) hT2.tr.nn (r := s) hi2 (by omega))
      unfold PutP at HP
      rw [hqc] at HP
      obtain ⟨H, hH⟩ : ∃ H, hasQ (putsQ [] pre) s.x s.y s.key = H := ⟨_, rfl⟩
      rw [hH] at HP
      have HR := Lib.hid (And.intro hT2 (And.intro hF' (And.intro hi2 (And.intro hpl (And.intro hqc (And.intro hNF' hNBW))))))
      have hzz : W.heap.size ≤ W2.heap.size := by omega
      have HRZ := Lib.hid hzz
      clear hT2 hT' hF' hNF' hNBW hi2 hqc ha2 hk2 ho2 hnbW hm2 hH hz2 hz2' hzz hgl hTlt hsin hpl
      refine wpIn_block ?_
      obtain ⟨wq2, hwq2⟩ : ∃ wq, wq = W2.drew := ⟨_, rfl⟩
      have hqs : Since W2 wq2 := by rw [hwq2]; exact (Since.refl W2).drew
      refine round_held_drew (fun X => Off (fun c => c ∈ q'.bl) W2 X) (by kernel_rfl) (by kernel_rfl) ((Since.refl W2).drew.off _) (fun hHeld => ?_)
      rw [← hwq2] at hHeld ⊢
      clear hwq2
      refine wpAnyH_take (i := 0) (v := ?_) rfl (by kernel_rfl) (by kernel_rfl) (by kernel_rfl) (fun _ _ _ h => h) (Or.inl ⟨by rfl, ?_⟩) (by assumption) ?_
      rotate_left 1
      · (intro W hW; skip; go_simp; try with_reducible rfl)
      simp only [Act.put, List.getElem_toArray, List.getElem_cons_zero, List.setIfInBounds_toArray, List.set_cons_zero, List.set_cons_succ]
      refine wpAnyH_take (i := 1) (v := ?_) rfl (by kernel_rfl) (by kernel_rfl) (by kernel_rfl) (fun _ _ _ h => h) (Or.inl ⟨by rfl, ?_⟩) (by assumption) ?_
      rotate_left 1
      · (intro W hW; clear hW; go_simp; try with_reducible rfl)
      simp only [Act.put, List.getElem_toArray, List.getElem_cons_succ, List.getElem_cons_zero, List.setIfInBounds_toArray, List.set_cons_zero, List.set_cons_succ]
      refine wpAnyH_take (i := 2) (v := ?_) rfl (by kernel_rfl) (by kernel_rfl) (by kernel_rfl) (fun _ _ _ h => h) (Or.inl ⟨by rfl, ?_⟩) (by assumption) ?_
      rotate_left 1
      · (intro W hW; clear hW; go_simp; try with_reducible rfl)
      simp only [Act.put, List.getElem_toArray, List.getElem_cons_succ, List.getElem_cons_zero, List.setIfInBounds_toArray, List.set_cons_zero, List.set_cons_succ]
      refine wpAnyH_take (i := 3) (v := ?_) rfl (by kernel_rfl) (by kernel_rfl) (by kernel_rfl) (fun _ _ _ h => h) (Or.inl ⟨by rfl, ?_⟩) (by assumption) ?_
      rotate_left 1
      · (intro W hW; skip; go_simp; try with_reducible rfl)
      simp only [Act.put, List.getElem_toArray, List.getElem_cons_succ, List.getElem_cons_zero, List.setIfInBounds_toArray, List.set_cons_zero, List.set_cons_succ]
      refine wpAnyH_take (i := 4) (v := ?_) rfl (by kernel_rfl) (by kernel_rfl) (by kernel_rfl) (fun _ _ _ h => h) (Or.inl ⟨by rfl, ?_⟩) (by assumption) ?_
      rotate_left 1
      · (intro W hW; skip; go_simp; try with_reducible rfl)
      simp only [Act.put, List.getElem_toArray, List.getElem_cons_succ, List.getElem_cons_zero, List.setIfInBounds_toArray, List.set_cons_zero, List.set_cons_succ]
      refine wpAnyH_ready (rs := [5]) (by kernel_rfl) (by simp) ?_
      refine AllReadyH.cons rfl (fun K hK => ?_) AllReadyH.nil
      go_simp
      refine (HP.out _ hqs).mono ?_
      rintro e w9 ⟨rfl, p, p1, p2, p3, p4, p5, p6⟩
      go_wp2_with fail
      refine hK.out _ _ ((hqs.off _).trans p5 (fun _ _ z => z)) (fun hHeld => ?_)
      clear hK K
      try simp only [Act.put, List.getElem_toArray, List.getElem_cons_succ, List.getElem_cons_zero, List.setIfInBounds_toArray, List.set_cons_zero, List.set_cons_succ]
      refine wpAnyH_done (by kernel_rfl) ?_ _
      refine ⟨rfl, ?_⟩
      obtain ⟨hT2, hF', hi2, hpl, hqc, hNF', hNBW⟩ := HR.out
      exact fill_put hT2 hF' hNF' hNBW HRZ.out hqs hi2 (by omega) (p1.trans hqc.symm) p2 p3 p4 p5 p6
  · go_simp
    skip
    refine hK.out _ _ (hr.alloc _) (fun hHeld => ?_)
    clear hK K
    try simp only [Act.put, List.getElem_toArray, List.getElem_cons_succ, List.getElem_cons_zero, List.setIfInBounds_toArray, List.set_cons_zero, List.set_cons_succ]
    refine wpAnyF_ready (rs := [5]) (by kernel_rfl) (by simp) ?_
    refine AllReadyF.cons rfl (fun K hK => ?_) AllReadyF.nil
    go_simp
    refine (HN.out _).mono ?_
    rintro e w3 hP
    obtain ⟨gp, q0, rfl, hT, hnew, hb3⟩ := new_yes hP ho rfl
    clear hP
    have hs3 : Since w0 w3 := (hr.alloc _).trans hb3
    have hx3 := (Whole.new wr 27 #[.pointer none]).below hb3 (by simp)
    have x0 := hx3.cell 0
    have y0 := hx3.frozen 0
    go_wp2_with fail
    refine hK.out _ _ (hs3) (fun hHeld => ?_)
    clear hK K
    try simp only [Act.put, List.getElem_toArray, List.getElem_cons_succ, List.getElem_cons_zero, List.setIfInBounds_toArray, List.set_cons_zero, List.set_cons_succ]
    refine wpAnyF_take (i := 6) (v := ?_) rfl (by kernel_rfl) (by kernel_rfl) (by kernel_rfl) (fun _ _ _ h => h) (Or.inl ⟨by rfl, ?_⟩) (by assumption) ?_
    rotate_left 1
    · (intro W hW; clear hW; go_simp; try with_reducible rfl)
    simp only [Act.put, List.getElem_toArray, List.getElem_cons_succ, List.getElem_cons_zero, List.setIfInBounds_toArray, List.set_cons_zero, List.set_cons_succ]
    refine wpAnyF_take (i := 7) (v := ?_) rfl (by kernel_rfl) (by kernel_rfl) (by kernel_rfl) (fun _ _ _ h => h) (Or.inl ⟨by rfl, ?_⟩) (by assumption) ?_
    rotate_left 1
    · (intro W hW; clear hW; go_simp; try with_reducible rfl)
    simp only [Act.put, List.getElem_toArray, List.getElem_cons_succ, List.getElem_cons_zero, List.setIfInBounds_toArray, List.set_cons_zero, List.set_cons_succ]
    refine wpAnyF_take (i := 8) (v := ?_) rfl (by kernel_rfl) (by kernel_rfl) (by kernel_rfl) (fun _ _ _ h => h) (Or.inl ⟨by rfl, ?_⟩) (by assumption) ?_
    rotate_left 1
    · (intro W hW; clear hW; go_simp; try with_reducible rfl)
    simp only [Act.put, List.getElem_toArray, List.getElem_cons_succ, List.getElem_cons_zero, List.setIfInBounds_toArray, List.set_cons_zero, List.set_cons_succ]
    refine wpAnyF_ready (rs := [10]) (by kernel_rfl) (by simp) ?_
    refine AllReadyF.cons rfl (fun K hK => ?_) AllReadyF.nil
    go_simp
    skip
    refine hK.out _ _ (Since.setCell hs3 (p := ⟨wr.heap.size, 0, none⟩) hr.size_ _) (fun hHeld => ?_)
    clear hK K
    try simp only [Act.put, List.getElem_toArray, List.getElem_cons_succ, List.getElem_cons_zero, List.setIfInBounds_toArray, List.set_cons_zero, List.set_cons_succ]
    refine wpAnyF_take (i := 11) (v := ?_) rfl (by kernel_rfl) (by kernel_rfl) (by kernel_rfl) (fun _ _ _ h => h) (Or.inl ⟨by rfl, ?_⟩) (by assumption) ?_
    rotate_left 1
    · (intro W hW; clear hW; go_simp; try with_reducible rfl)
    simp only [Act.put, List.getElem_toArray, List.getElem_cons_succ, List.getElem_cons_zero, List.setIfInBounds_toArray, List.set_cons_zero, List.set_cons_succ]
    refine wpAnyF_done (by kernel_rfl) ?_ _
    simp only [calmQ]
    obtain ⟨w5, hw5⟩ : ∃ w5, w5 = w3.setCell ⟨wr.heap.size, 0, none⟩ (.pointer (some ⟨gp, 0, none⟩)) := ⟨_, rfl⟩
    have hS5 : Since w0 w5 := Since.named (Since.setCell hs3 (p := ⟨wr.heap.size, 0, none⟩) hr.size_ _) hw5
    have hN5 : Whole w5 wr.heap.size 27 #[.pointer (some ⟨gp, 0, none⟩)] := (hx3.set_ 0 _).named hw5
    have hnw : ∀ c ∈ gp :: q0.bl, wr.heap.size + 1 ≤ c := fun c hc => by have := hnew c hc; simpa using this
    have hT5 : TreeO gp q0 k d2 b2 [] w5 := by rw [hw5]; exact hT.off ((Off.refl (fun c => c = wr.heap.size) w3).setCell (p := ⟨wr.heap.size, 0, none⟩) (.inr rfl) _) (fun c hc e => by have := hnw c hc; have e' : c = wr.heap.size := e; omega)
    clear x0 y0 hx3
    obtain ⟨NB, hNB⟩ : ∃ NB, NB = wr.heap.size := ⟨_, rfl⟩
    have hNT : ∀ c ∈ gp :: q0.bl, c ≠ NB := fun c hc e => by have := hnw c hc; omega
    have hNl : w0.heap.size ≤ NB := by have := hr.size_; omega
    have hnew5 : ∀ c ∈ gp :: q0.bl, w0.heap.size ≤ c := fun c hc => by have := hnw c hc; have := hr.size_; omega
    rw [← hw5, ← hNB]
    rw [← hNB] at hN5
    clear hHeld hw5 hNB hb3 hr hs3 hT hnew
    obtain ⟨gz, hqz, -, hzc⟩ := hT5.tr.root
    obtain ⟨hz, hq0, ho', hl⟩ := HZ.out
    rw [hz] at hzc
    dsimp only at hzc
    have c3 := fun W (hW : Since w5 W) => (Since.whole (HS0.out.trans (hS5.trans hW)) HH.out.wh).cell 3
    rw [hq0] at c3
    replace c3 : ∀ W, Since w5 W → W.cell? ⟨g, 3, none⟩ = some (.pointer (some ⟨gq, 0, none⟩)) := c3
    have n0 := fun W (hW : Since w5 W) => (Since.whole hW hN5).cell 0
    replace n0 : ∀ W, Since w5 W → W.cell? ⟨NB, 0, none⟩ = some (.pointer (some ⟨gp, 0, none⟩)) := n0
    have t3 := fun W (hW : Since w5 W) => (Since.whole hW hT5.wh).cell 3
    rw [hqz] at t3
    replace t3 : ∀ W, Since w5 W → W.cell? ⟨gp, 3, none⟩ = some (.pointer (some ⟨gz, 0, none⟩)) := t3
    have z0 := fun W (hW : Since w5 W) => (hzc W (hT5.tr.at_.since hW)).1
    have z1 := fun W (hW : Since w5 W) => (hzc W (hT5.tr.at_.since hW)).2.1
    have z2 := fun W (hW : Since w5 W) => (hzc W (hT5.tr.at_.since hW)).2.2.1
    have z3 := fun W (hW : Since w5 W) => (hzc W (hT5.tr.at_.since hW)).2.2.2.1
    have HT5 := Lib.hid (And.intro hT5 (And.intro hNT (And.intro hNl hnew5)))
    have HN5 := Lib.hid hN5
    clear hzc hT5 hNT hNl hnew5 hN5 hz hq0 ho' hl hqz a0 b0 b1
    go_wp2_with fail
    refine (wpIn_wide (n := 0)).1 ?_
    refine wide_held_calm (S := fun W => Since w5 W) (by kernel_rfl) (Since.refl w5).drew (fun hHeld => ?_)
    generalize w5.drew = ws at hHeld ⊢
    have hs : Since w5 ws := hHeld
    refine wpAnyF_take (i := 0) (v := ?_) rfl (by kernel_rfl) (by kernel_rfl) (by kernel_rfl) (fun _ _ _ h => h) (Or.inl ⟨by rfl, ?_⟩) (by assumption) ?_
    rotate_left 1
    · (intro W hW; clear hW; go_simp; try with_reducible rfl)
    simp only [Act.put, List.getElem_toArray, List.getElem_cons_zero, List.setIfInBounds_toArray, List.set_cons_zero, List.set_cons_succ]
    refine wpAnyF_take (i := 1) (v := ?_) rfl (by kernel_rfl) (by kernel_rfl) (by kernel_rfl) (fun _ _ _ h => h) (Or.inl ⟨by rfl, ?_⟩) (by assumption) ?_
    rotate_left 1
    · (intro W hW; clear hW; go_simp; try with_reducible rfl)
    simp only [Act.put, List.getElem_toArray, List.getElem_cons_succ, List.getElem_cons_zero, List.setIfInBounds_toArray, List.set_cons_zero, List.set_cons_succ]
    refine wpAnyF_take (i := 2) (v := ?_) rfl (by kernel_rfl) (by kernel_rfl) (by kernel_rfl) (fun _ _ _ h => h) (Or.inl ⟨by rfl, ?_⟩) (by assumption) ?_
    rotate_left 1
    · (intro W hW; clear hW; go_simp; try with_reducible rfl)
    simp only [Act.put, List.getElem_toArray, List.getElem_cons_succ, List.getElem_cons_zero, List.setIfInBounds_toArray, List.set_cons_zero, List.set_cons_succ]
    refine wpAnyF_take (i := 3) (v := ?_) rfl (by kernel_rfl) (by kernel_rfl) (by kernel_rfl) (fun _ _ _ h => h) (Or.inl ⟨by rfl, ?_⟩) (by assumption) ?_
    rotate_left 1
    · (intro W hW; skip; go_simp; try with_reducible rfl)
    simp only [Act.put, List.getElem_toArray, List.getElem_cons_succ, List.getElem_cons_zero, List.setIfInBounds_toArray, List.set_cons_zero, List.set_cons_succ]
    refine wpAnyF_take (i := 4) (v := ?_) rfl (by kernel_rfl) (by kernel_rfl) (by kernel_rfl) (fun _ _ _ h => h) (Or.inl ⟨by rfl, ?_⟩) (by assumption) ?_
    rotate_left 1
    · (intro W hW; skip; go_simp; try with_reducible rfl)
    simp only [Act.put, List.getElem_toArray, List.getElem_cons_succ, List.getElem_cons_zero, List.setIfInBounds_toArray, List.set_cons_zero, List.set_cons_succ]
    refine wpAnyF_take (i := 5) (v := ?_) rfl (by kernel_rfl) (by kernel_rfl) (by kernel_rfl) (fun _ _ _ h => h) (Or.inl ⟨by rfl, ?_⟩) (by assumption) ?_
    rotate_left 1
    · (intro W hW; clear hW; go_simp; try with_reducible rfl)
    simp only [Act.put, List.getElem_toArray, List.getElem_cons_succ, List.getElem_cons_zero, List.setIfInBounds_toArray, List.set_cons_zero, List.set_cons_succ]
    refine wpAnyF_take (i := 6) (v := ?_) rfl (by kernel_rfl) (by kernel_rfl) (by kernel_rfl) (fun _ _ _ h => h) (Or.inl ⟨by rfl, ?_⟩) (by assumption) ?_
    rotate_left 1
    · (intro W hW; clear hW; go_simp; try with_reducible rfl)
    simp only [Act.put, List.getElem_toArray, List.getElem_cons_succ, List.getElem_cons_zero, List.setIfInBounds_toArray, List.set_cons_zero, List.set_cons_succ]
    refine wpAnyF_take (i := 7) (v := ?_) rfl (by kernel_rfl) (by kernel_rfl) (by kernel_rfl) (fun _ _ _ h => h) (Or.inl ⟨by rfl, ?_⟩) (by assumption) ?_
    rotate_left 1
    · (intro W hW; skip; go_simp; try with_reducible rfl)
    simp only [Act.put, List.getElem_toArray, List.getElem_cons_succ, List.getElem_cons_zero, List.setIfInBounds_toArray, List.set_cons_zero, List.set_cons_succ]
    refine wpAnyF_take (i := 8) (v := ?_) rfl (by kernel_rfl) (by kernel_rfl) (by kernel_rfl) (fun _ _ _ h => h) (Or.inl ⟨by rfl, ?_⟩) (by assumption) ?_
    rotate_left 1
    · (intro W hW; clear hW; go_simp; try with_reducible rfl)
    simp only [Act.put, List.getElem_toArray, List.getElem_cons_succ, List.getElem_cons_zero, List.setIfInBounds_toArray, List.set_cons_zero, List.set_cons_succ]
    refine wpAnyF_take (i := 9) (v := ?_) rfl (by kernel_rfl) (by kernel_rfl) (by kernel_rfl) (fun _ _ _ h => h) (Or.inl ⟨by rfl, ?_⟩) (by assumption) ?_
    rotate_left 1
    · (intro W hW; clear hW; go_simp; try with_reducible rfl)
    simp only [Act.put, List.getElem_toArray, List.getElem_cons_succ, List.getElem_cons_zero, List.setIfInBounds_toArray, List.set_cons_zero, List.set_cons_succ]
    refine wpAnyF_take (i := 10) (v := ?_) rfl (by kernel_rfl) (by kernel_rfl) (by kernel_rfl) (fun _ _ _ h => h) (Or.inl ⟨by rfl, ?_⟩) (by assumption) ?_
    rotate_left 1
    · (intro W hW; skip; go_simp; try with_reducible rfl)
    simp only [Act.put, List.getElem_toArray, List.getElem_cons_succ, List.getElem_cons_zero, List.setIfInBounds_toArray, List.set_cons_zero, List.set_cons_succ]
    refine wpAnyF_ready (rs := [11]) (by kernel_rfl) (by simp) ?_
    refine AllReadyF.cons rfl (fun K hK => ?_) AllReadyF.nil
    go_simp
    refine (inside_any _ _ rfl ⟨zx, zy, zw, zh⟩ _).mono ?_
    rintro e wl ⟨rfl, hwl⟩
    have hsl : Since w5 wl := by rw [hwl]; exact (hs.alloc _).alloc _
    have HWL := Lib.hid hwl
    clear hwl
    go_wp2_with fail
    refine hK.out _ _ (hsl) (fun hHeld => ?_)
    clear hK K
    try simp only [Act.put, List.getElem_toArray, List.getElem_cons_succ, List.getElem_cons_zero, List.setIfInBounds_toArray, List.set_cons_zero, List.set_cons_succ]
    refine wpAnyF_done (by kernel_rfl) ?_ _
    simp only [calmQ]
    go_wp2_with fail
    have hwl := HWL.out
    have whN : Whole wl ws.heap.size 68 #[.pointer (some ⟨gq, 0, none⟩)] := by rw [hwl]; exact (Whole.new ws _ _).alloc _
    have whR : Whole wl (ws.heap.size + 1) 63 #[.int .i64 zx, .int .i64 zy, .int .i64 zw, .int .i64 zh] := by rw [hwl]; exact (Whole.new (ws.alloc _) _ _).at_ (by simp)
    have hzl : wl.heap.size = ws.heap.size + 2 := by rw [hwl]; simp
    obtain ⟨hT5, hNT, hNl, hnew5⟩ := HT5.out
    obtain ⟨hz, hq0, ho', hl⟩ := HZ.out
    have hTl := hT5.since hsl
    have hHl := HH.out.since (HS0.out.trans (hS5.trans hsl))
    have hNll := Since.whole hsl HN5.out
    have hh1 := ok_high q _ L hHl.tr.ok (fun _ => hHl.tr.good)
    have hgd := hHl.tr.good
    have hgz := zone_good HH.out.ok
    have hhi : q.high ≤ 190000 := by have := hgd.w1; have := hgd.h1; have := hgd.x1; have := hgd.y1; have := hgd.x0; have := hgd.y0; omega
    have hown := visit_own ⟨zx, zy, zw, zh⟩ 1000 q _ L hHl.tr.ok (by omega)
    rw [← hq0] at whN
    have hseq := inside_seq hhi hHl.tr.nn hHl.tr.at_ hown whN whR
    have hws : w5.heap.size ≤ ws.heap.size := Since.size_ hs
    have hqlt : ∀ c ∈ g :: q.bl, c < w.heap.size := HH.out.lt
    have hw05 := (HS0.out.trans hS5).size_
    have hw00 := HS0.out.size_
    have hperm := inner_perm ⟨zx, zy, zw, zh⟩ q _ L hHl.tr.ok (fun _ => hHl.tr.good) hHl.tr.inn
    have hT5l := hT5.lt
    have HSQ := Lib.hid hTl
    have HNL := Lib.hid hNll
    have HPM := Lib.hid (And.intro hperm (And.intro hl hHl.tr.sort))
    have HFA := Lib.hid (And.intro hNT (And.intro hNl (And.intro hnew5 (And.intro hz (hS5.trans hsl)))))
    clear hwl HWL whN whR hs hHeld hTl hHl hNll hh1 hgd hgz hhi hown hperm hT5 hz hl ho' c3 n0 t3 z0 z1 z2 z3
    refine (wpIn_wide (n := 0)).1 ?_
    refine range_wp (gf := 72) (lb := #[.pointer (some ⟨ws.heap.size, 0, none⟩), .pointer (some ⟨ws.heap.size + 1, 0, none⟩)]) rfl (enters_of Tryz.func72 (by kernel_rfl) rfl) hseq ?hG (fun _ => rfl) (fillI gp NB k d2 b2) (fun _ _ _ _ => False) fillI_kept fillI_low (fun _ => no_kept) (fun _ => no_low) (fun c => c ∈ gp :: q0.bl) ?hF0 ?h0 ?round ?done ?stop
    case hG =>
      rintro c (z | z | z)
      · have := hqlt c (List.mem_cons_of_mem _ z); omega
      · omega
      · omega
    case hF0 =>
      rintro c hc (z | z | z)
      · have := hqlt c (List.mem_cons_of_mem _ z); have := hnew5 c hc; omega
      · have := hT5l c hc; omega
      · have := hT5l c hc; omega
    case h0 => exact ⟨q0, HSQ.out, fun _ => Iff.rfl, fun z => HFA.out.1 NB z rfl⟩
    case stop =>
      rintro D c pre W _ _ ⟨F', h, _⟩ _
      exact h.elim
    case done =>
      rintro D W hD ⟨F', ⟨q', hT', hF', -⟩, ho2, hf, hFD⟩ hdd
      have hnb := ho2.whole HNL.out (fun z => HFA.out.1 NB z rfl)
      have x1 := hnb.cell 0
      have HE := Lib.hid (And.intro hD (And.intro hT' (And.intro hF' (And.intro ho2 (And.intro hf hFD)))))
      clear hD hT' hF' ho2 hf hFD hnb hseq
      go_wp2
      obtain ⟨hD, hT', hF', ho2, hf, hFD⟩ := HE.out
      obtain ⟨hNT, hNl, hnew5, hz, hsw⟩ := HFA.out
      obtain ⟨hperm, hl, hsort⟩ := HPM.out
      have hb0 : Since w W := Below.trans (HS0.out.trans hsw) (ho2.below (by have := (HS0.out.trans hsw).size_; omega) (fun c z => Nat.le_trans hw00 (hnew5 c z)))
      refine ⟨by simp, .inl ⟨_, _, rfl, run_takeDeferred hdd, ?_⟩⟩
      refine ⟨_, by simp [results, Tryz.results17, go_sem], ⟨gp, q', rfl, ?_, fun c hc => ?_, ?_⟩⟩
      · rw [hz, ← puts_perm (filt_sort hsort _) hperm]
        exact hT'.keep (fun c hc => World.putObj_heap_other (fun e => hFD (e ▸ (hF' c).2 hc)))
      · rcases hf c ((hF' c).2 hc) with z | z
        · have := hnew5 c z; omega
        · have := (HS0.out.trans hsw).size_; omega
      · exact Below.trans hb0 (belowK_b (w := w) (Nat.le_refl _) _ D _ _ (by omega) hdd rfl rfl)
    case round =>
      rintro l pre s F W hpre ⟨q', hT', hF', hNF'⟩ hoff hwl hl2 hFl
      have hszW := hoff.size
      have hgl : ∀ c ∈ gp :: q'.bl, c ≠ l := fun c hc e => hFl ((hF' l).2 (e ▸ hc))
      have hNF : NB ∉ gp :: q0.bl := fun z => HFA.out.1 NB z rfl
      have hnbW := hoff.whole HNL.out hNF
      have hNBl : NB < wl.heap.size := HNL.out.lt
      have hsin : inQ ⟨zx, zy, zw, zh⟩ s = true := (List.mem_filter.1 (HPM.out.1.mem_iff.1 (hpre.subset (by simp)))).2
      have hpl : pre.length ≤ 499 := by
        have h1 := hpre.length_le
        have h2 := HPM.out.1.length_eq
        have h3 := List.length_filter_le (inQ ⟨zx, zy, zw, zh⟩) L
        have h4 := HPM.out.2.1
        rw [List.length_append, List.length_singleton] at h1
        omega
      clear hseq hpre
      simp only [encI, Rq.v]
      gi_wp2
      refine ⟨(Since.refl W).alloc _, fun W2 hz2 ho2 => ?_⟩
      have hz2' : W2.heap.size = W.heap.size + 1 := by rw [hz2]; try simp
      have hTlt := hT'.lt
      have ha2 := ho2.whole (Whole.new W 55 #[.int .i64 s.x, .int .i64 s.y, .string s.key, .string s.val, .int .i64 s.ver]) (fun z => by have z' : W.heap.size = l := z; omega)
      have hk2 := ho2.whole (hnbW.alloc (.cells #[.int .i64 s.x, .int .i64 s.y, .string s.key, .string s.val, .int .i64 s.ver] 55)) (fun z => by have z' : NB = l := z; omega)
      have hT2 := (hT'.since ((Since.refl W).alloc (.cells #[.int .i64 s.x, .int .i64 s.y, .string s.key, .string s.val, .int .i64 s.ver] 55))).off ho2 (fun c hc z => hgl c hc z)
      obtain ⟨gc, hqc, -, -⟩ := hT2.tr.root
      have hNq : NB ∉ q'.bl := fun z => hNF' ((hF' NB).2 (List.mem_cons_of_mem _ z))
      have hNBW : NB < W.heap.size := hnbW.lt
      have hRq : W.heap.size ∉ q'.bl := fun z => by have := hTlt _ (List.mem_cons_of_mem _ z); omega
      have v0 := off_cell (F := fun c => c ∈ q'.bl) hk2 hNq 0 (.pointer (some ⟨gp, 0, none⟩)) rfl
      have v3 := off_cell (F := fun c => c ∈ q'.bl) hT2.wh hT2.out 3 q'.v rfl
      rw [hqc] at v3
      have r0 := off_cell (F := fun c => c ∈ q'.bl) ha2 hRq 0 (.int .i64 s.x) rfl
      have r1 := off_cell (F := fun c => c ∈ q'.bl) ha2 hRq 1 (.int .i64 s.y) rfl
      have r2 := off_cell (F := fun c => c ∈ q'.bl) ha2 hRq 2 (.string s.key) rfl
      have r3 := off_cell (F := fun c => c ∈ q'.bl) ha2 hRq 3 (.string s.val) rfl
      have r4 := off_cell (F := fun c => c ∈ q'.bl) ha2 hRq 4 (.int .i64 s.ver) rfl
      have hi2 : inQ (zoneR k d2 b2) s = true := by rw [HFA.out.2.2.2.1]; exact hsin
      have hm2 := putsQ_most [] pre
      simp only [List.length_nil] at hm2
      have HP := Lib.hid (fun W3 (hW : Since W2 W3) => put_any (hT2.tr.since hW) hT2.tr.nn (r := s) hi2 (by omega))
      unfold PutP at HP
      rw [hqc] at HP
      obtain ⟨H, hH⟩ : ∃ H, hasQ (putsQ [] pre) s.x s.y s.key = H := ⟨_, rfl⟩
      rw [hH] at HP
      have HR := Lib.hid (And.intro hT2 (And.intro hF' (And.intro hi2 (And.intro hpl (And.intro hqc (And.intro hNF' hNBW))))))
      have hzz : W.heap.size ≤ W2.heap.size := by omega
      have HRZ := Lib.hid hzz
      clear hT2 hT' hF' hNF' hNBW hi2 hqc ha2 hk2 ho2 hnbW hm2 hH hz2 hz2' hzz hgl hTlt hsin hpl
      refine wpIn_block ?_
      obtain ⟨wq2, hwq2⟩ : ∃ wq, wq = W2.drew := ⟨_, rfl⟩
      have hqs : Since W2 wq2 := by rw [hwq2]; exact (Since.refl W2).drew
      refine round_held_drew (fun X => Off (fun c => c ∈ q'.bl) W2 X) (by kernel_rfl) (by kernel_rfl) ((Since.refl W2).drew.off _) (fun hHeld => ?_)
      rw [← hwq2] at hHeld ⊢
      clear hwq2
      refine wpAnyH_take (i := 0) (v := ?_) rfl (by kernel_rfl) (by kernel_rfl) (by kernel_rfl) (fun _ _ _ h => h) (Or.inl ⟨by rfl, ?_⟩) (by assumption) ?_
      rotate_left 1
      · (intro W hW; skip; go_simp; try with_reducible rfl)
      simp only [Act.put, List.getElem_toArray, List.getElem_cons_zero, List.setIfInBounds_toArray, List.set_cons_zero, List.set_cons_succ]
      refine wpAnyH_take (i := 1) (v := ?_) rfl (by kernel_rfl) (by kernel_rfl) (by kernel_rfl) (fun _ _ _ h => h) (Or.inl ⟨by rfl, ?_⟩) (by assumption) ?_
      rotate_left 1
      · (intro W hW; clear hW; go_simp; try with_reducible rfl)
      simp only [Act.put, List.getElem_toArray, List.getElem_cons_succ, List.getElem_cons_zero, List.setIfInBounds_toArray, List.set_cons_zero, List.set_cons_succ]
      refine wpAnyH_take (i := 2) (v := ?_) rfl (by kernel_rfl) (by kernel_rfl) (by kernel_rfl) (fun _ _ _ h => h) (Or.inl ⟨by rfl, ?_⟩) (by assumption) ?_
      rotate_left 1
      · (intro W hW; clear hW; go_simp; try with_reducible rfl)
      simp only [Act.put, List.getElem_toArray, List.getElem_cons_succ, List.getElem_cons_zero, List.setIfInBounds_toArray, List.set_cons_zero, List.set_cons_succ]
      refine wpAnyH_take (i := 3) (v := ?_) rfl (by kernel_rfl) (by kernel_rfl) (by kernel_rfl) (fun _ _ _ h => h) (Or.inl ⟨by rfl, ?_⟩) (by assumption) ?_
      rotate_left 1
      · (intro W hW; skip; go_simp; try with_reducible rfl)
      simp only [Act.put, List.getElem_toArray, List.getElem_cons_succ, List.getElem_cons_zero, List.setIfInBounds_toArray, List.set_cons_zero, List.set_cons_succ]
      refine wpAnyH_take (i := 4) (v := ?_) rfl (by kernel_rfl) (by kernel_rfl) (by kernel_rfl) (fun _ _ _ h => h) (Or.inl ⟨by rfl, ?_⟩) (by assumption) ?_
      rotate_left 1
      · (intro W hW; skip; go_simp; try with_reducible rfl)
      simp only [Act.put, List.getElem_toArray, List.getElem_cons_succ, List.getElem_cons_zero, List.setIfInBounds_toArray, List.set_cons_zero, List.set_cons_succ]
      refine wpAnyH_ready (rs := [5]) (by kernel_rfl) (by simp) ?_
      refine AllReadyH.cons rfl (fun K hK => ?_) AllReadyH.nil
      go_simp
      refine (HP.out _ hqs).mono ?_
      rintro e w9 ⟨rfl, p, p1, p2, p3, p4, p5, p6⟩
      go_wp2_with fail
      refine hK.out _ _ ((hqs.off _).trans p5 (fun _ _ z => z)) (fun hHeld => ?_)
      clear hK K
      try simp only [Act.put, List.getElem_toArray, List.getElem_cons_succ, List.getElem_cons_zero, List.setIfInBounds_toArray, List.set_cons_zero, List.set_cons_succ]
      refine wpAnyH_done (by kernel_rfl) ?_ _
      refine ⟨rfl, ?_⟩
      obtain ⟨hT2, hF', hi2, hpl, hqc, hNF', hNBW⟩ := HR.out
      exact fill_put hT2 hF' hNF' hNBW HRZ.out hqs hi2 (by omega) (p1.trans hqc.symm) p2 p3 p4 p5 p6
end Go.Proofs.YthfhpejpjiaikaaGreat
