/- quad.Tree, made: Get. -/
import Derived.Test.YthfhpejpjiaikaaGreatK30
namespace Go.Proofs.YthfhpejpjiaikaaGreat
open Go.RowKit
set_option linter.unusedVariables false
set_option linter.unusedSimpArgs false
def zeroQ : Rq := ⟨0, 0, ⟨#[]⟩, ⟨#[]⟩, 0⟩
/-- The record of that cell and key, or the zero one. -/
def getQ (L : List Rq) (x y : Int) (ky : ByteArray) : Rq := (L.find? fun s => cmpK s x y ky == 0).getD zeroQ
theorem getQ_no {L : List Rq} {x y : Int} {ky : ByteArray} (h : hasQ L x y ky = false) : getQ L x y ky = zeroQ := by
  unfold getQ
  have : L.find? (fun s => cmpK s x y ky == 0) = none := by
    rw [List.find?_eq_none]
    intro s hs hz
    have := hasQ_mem.2 ⟨s, hs, beq_iff_eq.1 hz⟩
    rw [h] at this; cases this
  rw [this]; rfl
theorem getQ_of {L : List Rq} (hs : SortQ L) {x y : Int} {ky : ByteArray} {s : Rq} (hm : s ∈ L) (hz : cmpK s x y ky = 0) : getQ L x y ky = s := by
  unfold getQ
  cases hf : L.find? (fun s => cmpK s x y ky == 0) with
  | none => exact absurd (beq_iff_eq.2 hz) (List.find?_eq_none.1 hf s hm)
  | some t =>
    have h1 := List.mem_of_find?_eq_some hf
    have h2 : cmpK t x y ky = 0 := beq_iff_eq.1 (by have := List.find?_some hf; exact this)
    obtain ⟨i, hi, rfl⟩ := List.getElem_of_mem hm
    obtain ⟨j, hj, rfl⟩ := List.getElem_of_mem h1
    have e1 := posQ_zero hs hi hz
    have e2 := posQ_zero hs hj h2
    subst e1
    subst e2
    rfl
/-- Five cells written behind a box that is new. -/
theorem five_new {w w0 w1 : World} {RB : Nat} {cs : Array Value} {t : TypeId} (hs0 : Since w w0) (hB : Whole w0 RB t cs) (hn : cs.size = 5) (hs1 : Since w0 w1) (hr : w.heap.size ≤ RB) (a b c d e : Value) :
    Below w.heap.size w (((((w1.setCell ⟨RB, 0, none⟩ a).setCell ⟨RB, 1, none⟩ b).setCell ⟨RB, 2, none⟩ c).setCell ⟨RB, 3, none⟩ d).setCell ⟨RB, 4, none⟩ e) ∧
    Whole (((((w1.setCell ⟨RB, 0, none⟩ a).setCell ⟨RB, 1, none⟩ b).setCell ⟨RB, 2, none⟩ c).setCell ⟨RB, 3, none⟩ d).setCell ⟨RB, 4, none⟩ e) RB t #[a, b, c, d, e] := by
  have h := hs0.trans hs1
  refine ⟨((((h.setCell (p := ⟨RB, 0, none⟩) hr _).setCell (p := ⟨RB, 1, none⟩) hr _).setCell (p := ⟨RB, 2, none⟩) hr _).setCell (p := ⟨RB, 3, none⟩) hr _).setCell (p := ⟨RB, 4, none⟩) hr _, ?_⟩
  have z := (((((Since.whole hs1 hB).set_ 0 a).set_ 1 b).set_ 2 c).set_ 3 d).set_ 4 e
  obtain ⟨⟨⟩⟩ := cs
  · cases hn
  · rename_i x0 l
    match l, hn with
    | [x1, x2, x3, x4], _ => exact z
section
variable {g : Nat} {q : QN} {k d b : Int} {L : List Rq} {w : World}
set_option maxRecDepth 100000 in
set_option maxHeartbeats 3200000 in
theorem tget_any (h : TreeO g q k d b L w) (x y : Int) (ky : ByteArray) : Calls Tryz.prog 21 #[.pointer (some ⟨g, 0, none⟩), .agg #[.int .i64 x, .int .i64 y], .string ky] w fun e w' => e = .returned (.tuple #[(getQ L x y ky).v, .bool (hasQ L x y ky)]) ∧ Below w.heap.size w w' := by
  obtain ⟨w0, hw0⟩ : ∃ w0, w0 = (w.alloc (.cells #[.int .i64 x, .int .i64 y] 50)).alloc (.cells #[.int .i64 0, .int .i64 0, .string ⟨#[]⟩, .string ⟨#[]⟩, .int .i64 0] 55) := ⟨_, rfl⟩
  have hs0 : Since w w0 := by rw [hw0]; exact ((Since.refl w).alloc _).alloc _
  have wh0 : Whole w0 w.heap.size 50 #[.int .i64 x, .int .i64 y] := by rw [hw0]; exact (Whole.new w _ _).alloc _
  have wh1 : Whole w0 (w.heap.size + 1) 55 #[.int .i64 0, .int .i64 0, .string ⟨#[]⟩, .string ⟨#[]⟩, .int .i64 0] := by rw [hw0]; exact (Whole.new (w.alloc _) _ _).at_ (by simp)
  have hsz0 : w0.heap.size = w.heap.size + 2 := by rw [hw0]; simp
  have HH := Lib.hid (fun W (hW : Since w0 W) => thas_any (h.since (hs0.trans hW)) x y)
  obtain ⟨gq, hq, -, -⟩ := h.tr.root
  have c3 := box_cell (Since.whole hs0 h.wh) 3 q.v rfl
  rw [hq] at c3
  have b0 := box_cell wh0 0 (.int .i64 x) rfl
  have b1 := box_cell wh0 1 (.int .i64 y) rfl
  have f0 := box_free wh1 0
  have f1 := box_free wh1 1
  have f2 := box_free wh1 2
  have f3 := box_free wh1 3
  have f4 := box_free wh1 4
  have z0 := box_cell wh1 0 (.int .i64 0) rfl
  have z1 := box_cell wh1 1 (.int .i64 0) rfl
  have z2 := box_cell wh1 2 (.string ⟨#[]⟩) rfl
  have z3 := box_cell wh1 3 (.string ⟨#[]⟩) rfl
  have z4 := box_cell wh1 4 (.int .i64 0) rfl
  have HB := Lib.hid wh1
  have hsr := Since.refl w0
  have hsd := hsr.drew
  obtain ⟨H, hH⟩ : ∃ H, hasQ L x y ky = H := ⟨_, rfl⟩
  obtain ⟨⟨t0, t1, t2, t3, t4⟩, hT⟩ : ∃ T, getQ L x y ky = T := ⟨_, rfl⟩
  rw [hH, hT]
  simp only [Rq.v]
  have HSZ := Lib.hid hsz0
  have HW := Lib.hid hw0
  cases h1 : hasR (zoneR k d b) x y with
  | false =>
    have h2 := has_out (ky := ky) h.tr.inn h1
    have h3 := getQ_no h2
    rw [h2] at hH
    rw [h3] at hT
    subst hH
    obtain ⟨rfl, rfl, rfl, rfl, rfl⟩ : 0 = t0 ∧ 0 = t1 ∧ (⟨#[]⟩ : ByteArray) = t2 ∧ (⟨#[]⟩ : ByteArray) = t3 ∧ 0 = t4 := by injection hT; exact ⟨by assumption, by assumption, by assumption, by assumption, by assumption⟩
    rw [h1] at HH
    clear h h1 h2 h3 hT hw0 wh0 wh1 hq hsz0
    go_enter Tryz.func21, Tryz.ntmps21
    go_upto_region 1 with fail
    rw [← HW.out]
    go_wp2_with (go_at_call 46; (with_reducible refine (HH.out _ hsr).mono ?_); rintro e w1 ⟨rfl, hb1⟩; (have hs1 : Since w0 w1 := hb1))
    obtain ⟨u1, u2⟩ := five_new hs0 HB.out rfl hs1 (by omega) (.int .i64 0) (.int .i64 0) (.string ⟨#[]⟩) (.string ⟨#[]⟩) (.int .i64 0)
    have y0 := u2.cell 0
    have y1 := u2.cell 1
    have y2 := u2.cell 2
    have y3 := u2.cell 3
    have y4 := u2.cell 4
    exact bodyPost_ret (v := .tuple #[.agg #[.int .i64 0, .int .i64 0, .string ⟨#[]⟩, .string ⟨#[]⟩, .int .i64 0], .bool false]) (by simp [results, Tryz.results21, go_sem, y0, y1, y2, y3, y4]) rfl ⟨rfl, u1⟩
  | true =>
    have HLF := Lib.hid (fun W (hW : Since w0 W) => leafOf_any (h.tr.since (hs0.trans hW)) h.tr.nn h1)
    rw [hq] at HLF
    have HN := Lib.hid (And.intro h (And.intro h1 (And.intro hH hT)))
    rw [h1] at HH
    clear h h1 hH hT hw0 wh0 wh1 hq hsz0
    go_enter Tryz.func21, Tryz.ntmps21
    go_upto_region 1 with fail
    rw [← HW.out]
    go_upto_region 3 with (go_at_call 46; (with_reducible refine (HH.out _ hsr).mono ?_); rintro e w1 ⟨rfl, hb1⟩; (have hs1 : Since w0 w1 := hb1))
    obtain ⟨wq, hwq⟩ : ∃ wq, wq = w1.drew := ⟨_, rfl⟩
    have hqs : Since w0 wq := by rw [hwq]; exact hs1.drew
    refine wp_region_held_drew (S := fun W' => Since w0 W') (by kernel_rfl) hs1.drew (fun hHeld => ?_)
    rw [← hwq] at hHeld ⊢
    clear hwq
    refine wpAnyH_take (i := 0) (v := ?_) rfl (by kernel_rfl) (by kernel_rfl) (by kernel_rfl) (fun _ _ _ h => h) (Or.inl ⟨by rfl, ?_⟩) (by assumption) ?_
    rotate_left 1
    · (intro W hW; clear hW; go_simp; try with_reducible rfl)
    simp only [Act.put, List.getElem_toArray, List.getElem_cons_zero, List.setIfInBounds_toArray, List.set_cons_zero, List.set_cons_succ]
    refine wpAnyH_take (i := 1) (v := ?_) rfl (by kernel_rfl) (by kernel_rfl) (by kernel_rfl) (fun _ _ _ h => h) (Or.inl ⟨by rfl, ?_⟩) (by assumption) ?_
    rotate_left 1
    · (intro W hW; clear hW; go_simp; try with_reducible rfl)
    simp only [Act.put, List.getElem_toArray, List.getElem_cons_succ, List.getElem_cons_zero, List.setIfInBounds_toArray, List.set_cons_zero, List.set_cons_succ]
    refine wpAnyH_take (i := 2) (v := ?_) rfl (by kernel_rfl) (by kernel_rfl) (by kernel_rfl) (fun _ _ _ h => h) (Or.inl ⟨by rfl, ?_⟩) (by assumption) ?_
    rotate_left 1
    · (intro W hW; clear hW; go_simp; try with_reducible rfl)
    simp only [Act.put, List.getElem_toArray, List.getElem_cons_succ, List.getElem_cons_zero, List.setIfInBounds_toArray, List.set_cons_zero, List.set_cons_succ]
    refine wpAnyH_take (i := 3) (v := ?_) rfl (by kernel_rfl) (by kernel_rfl) (by kernel_rfl) (fun _ _ _ h => h) (Or.inl ⟨by rfl, ?_⟩) (by assumption) ?_
    rotate_left 1
    · (intro W hW; skip; go_simp; try with_reducible rfl)
    simp only [Act.put, List.getElem_toArray, List.getElem_cons_succ, List.getElem_cons_zero, List.setIfInBounds_toArray, List.set_cons_zero, List.set_cons_succ]
    refine wpAnyH_take (i := 4) (v := ?_) rfl (by kernel_rfl) (by kernel_rfl) (by kernel_rfl) (fun _ _ _ h => h) (Or.inl ⟨by rfl, ?_⟩) (by assumption) ?_
    rotate_left 1
    · (intro W hW; skip; go_simp; try with_reducible rfl)
    simp only [Act.put, List.getElem_toArray, List.getElem_cons_succ, List.getElem_cons_zero, List.setIfInBounds_toArray, List.set_cons_zero, List.set_cons_succ]
    refine wpAnyH_ready (rs := [5]) (by kernel_rfl) (by simp) ?_
    refine AllReadyH.cons rfl (fun K hK => ?_) AllReadyH.nil
    go_simp
    refine (HLF.out _ hqs).mono ?_
    rintro e w3 ⟨gl, vl, bl, M, P, rfl, hAt, hM, hPQ, hb3⟩
    have hs3 := Since.trans hqs hb3
    go_wp2_with fail
    refine hK.out _ _ (hs3) (fun hHeld => ?_)
    clear hK K
    try simp only [Act.put, List.getElem_toArray, List.getElem_cons_succ, List.getElem_cons_zero, List.setIfInBounds_toArray, List.set_cons_zero, List.set_cons_succ]
    refine wpAnyH_take (i := 6) (v := ?_) rfl (by kernel_rfl) (by kernel_rfl) (by kernel_rfl) (fun _ _ _ h => h) (Or.inl ⟨by rfl, ?_⟩) (by assumption) ?_
    rotate_left 1
    · (intro W hW; clear hW; go_simp; try with_reducible rfl)
    simp only [Act.put, List.getElem_toArray, List.getElem_cons_succ, List.getElem_cons_zero, List.setIfInBounds_toArray, List.set_cons_zero, List.set_cons_succ]
    refine wpAnyH_done (by kernel_rfl) ?_ _
    obtain ⟨h, h1, hH, hT⟩ := HN.out
    have hsM : SortQ M := by rw [hM]; exact h.tr.sort.filter _
    have hlM : M.length ≤ 1000 := by rw [hM]; exact Nat.le_trans (List.length_filter_le _ _) h.tr.len
    have hhM : hasQ M x y ky = H := by rw [hM, ← hH]; exact has_part hPQ.1 ⟨x, y, ky, ⟨#[]⟩, 0⟩ (hPQ.2 _ rfl rfl) rfl rfl
    have hmL : ∀ s ∈ M, s ∈ L := fun s hs => by rw [hM] at hs; exact (List.mem_filter.1 hs).1
    obtain ⟨pm, hpm⟩ : ∃ pm, posQ M x y ky = pm := ⟨_, rfl⟩
    have hfi := fun W (hW : Since w3 W) => nfind_any (hAt.since hW) hsM (by omega) x y ky
    rw [hpm, hhM] at hfi
    have HF := Lib.hid hfi
    have hs33 := Since.refl w3
    cases H with
    | false =>
      have h3 := getQ_no hH
      rw [h3] at hT
      obtain ⟨rfl, rfl, rfl, rfl, rfl⟩ : 0 = t0 ∧ 0 = t1 ∧ (⟨#[]⟩ : ByteArray) = t2 ∧ (⟨#[]⟩ : ByteArray) = t3 ∧ 0 = t4 := by injection hT; exact ⟨by assumption, by assumption, by assumption, by assumption, by assumption⟩
      clear h h1 hH hT hsM hlM hhM hmL hfi hpm hM hPQ hAt h3
      go_wp2_with (go_at_call 49; (with_reducible refine (HF.out _ hs33).mono ?_); rintro e w4 ⟨rfl, hb4⟩; (have hs4 : Since w0 w4 := hs3.trans hb4))
      obtain ⟨u1, u2⟩ := five_new hs0 HB.out rfl hs4 (by omega) (.int .i64 0) (.int .i64 0) (.string ⟨#[]⟩) (.string ⟨#[]⟩) (.int .i64 0)
      have y0 := u2.cell 0
      have y1 := u2.cell 1
      have y2 := u2.cell 2
      have y3 := u2.cell 3
      have y4 := u2.cell 4
      exact bodyPost_ret (v := .tuple #[.agg #[.int .i64 0, .int .i64 0, .string ⟨#[]⟩, .string ⟨#[]⟩, .int .i64 0], .bool false]) (by simp [results, Tryz.results21, go_sem, y0, y1, y2, y3, y4]) rfl ⟨rfl, u1⟩
    | true =>
      obtain ⟨hp, hz⟩ := (hasQ_iff hsM).1 hhM
      simp only [hpm] at hp hz
      have he := getQ_of h.tr.sort (hmL _ (List.getElem_mem hp)) hz
      rw [hT] at he
      obtain ⟨a2, c2, hv2, hg2⟩ := ((hAt.2).list encQ_len).form
      obtain ⟨g2, rfl, hg2l⟩ := hg2 pm hp
      subst hv2
      have cl : ∀ W', Since w3 W' → ∀ j u, (encQ ⟨t0, t1, t2, t3, t4⟩)[j]? = some u → W'.cell? ⟨g2, pm * 5 + j, none⟩ = some u := fun W' hW j u hu => ((RowE.since hAt.2 hW).list encQ_len).at_ hp j (by rw [← he]; exact hu)
      have k0 := fun W' hW => cl W' hW 0 (.int .i64 t0) rfl
      have k1 := fun W' hW => cl W' hW 1 (.int .i64 t1) rfl
      have k2 := fun W' hW => cl W' hW 2 (.string t2) rfl
      have k3 := fun W' hW => cl W' hW 3 (.string t3) rfl
      have k4 := fun W' hW => cl W' hW 4 (.int .i64 t4) rfl
      rw [Nat.add_zero] at k0
      have hwl : Whole w3 gl 71 (ncells bl M.length (.slice (some ⟨g2, 0, none⟩) M.length c2) noQ) := hAt.1
      have l5 : ∀ W', Since w3 W' → W'.cell? ⟨gl, 5, none⟩ = some (.slice (some ⟨g2, 0, none⟩) M.length c2) := fun W' hW => ((Since.whole hW hwl).cell 5).trans rfl
      have hpi : (pm : Int) < (M.length : Nat) := by omega
      have hpd : decide ((pm : Int) < (M.length : Nat)) = true := decide_eq_true hpi
      clear h h1 hH hT hsM hlM hhM hmL hfi hpm hM hPQ hAt cl hz he hwl hg2
      go_wp2_with (go_at_call 49; (with_reducible refine (HF.out _ hs33).mono ?_); rintro e w4 ⟨rfl, hb4⟩; (have hs4 : Since w0 w4 := hs3.trans hb4); (have hs34 : Since w3 w4 := hb4))
      obtain ⟨u1, u2⟩ := five_new hs0 HB.out rfl hs4 (by omega) (.int .i64 t0) (.int .i64 t1) (.string t2) (.string t3) (.int .i64 t4)
      have y0 := u2.cell 0
      have y1 := u2.cell 1
      have y2 := u2.cell 2
      have y3 := u2.cell 3
      have y4 := u2.cell 4
      exact bodyPost_ret (v := .tuple #[.agg #[.int .i64 t0, .int .i64 t1, .string t2, .string t3, .int .i64 t4], .bool true]) (by simp [results, Tryz.results21, go_sem, y0, y1, y2, y3, y4]) rfl ⟨rfl, u1⟩
end
end Go.Proofs.YthfhpejpjiaikaaGreat
