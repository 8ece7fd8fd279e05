/- gleberef04.Of, Cut: what a zone has of a window. -/
import Derived.Test.YtbfjnnjblnjdkaaWPlainR
namespace Go.Proofs.Ytbfjnnjblnjdkaa
open Go.RowKit
set_option maxHeartbeats 800000 in
theorem wrPlain_no (k a b c d : Int) (w : World) (h : winR k ⟨a, b, c, d⟩ = false) : Calls Try.prog 9 #[.int .i64 k, .agg #[.int .i64 a, .int .i64 b, .int .i64 c, .int .i64 d]] w fun e w' => e = .returned (.tuple #[.slice none 0 0, .int .i64 1]) ∧ Below w.heap.size w w' := by
  obtain ⟨w0, hw0⟩ : ∃ w0, w0 = w.alloc (.cells #[.int .i64 a, .int .i64 b, .int .i64 c, .int .i64 d] 23) := ⟨_, rfl⟩
  have hs0 : Since w w0 := by rw [hw0]; exact (Since.refl w).alloc _
  have wh0 : Whole w0 (w.heap.size) 23 #[.int .i64 a, .int .i64 b, .int .i64 c, .int .i64 d] := by rw [hw0]; exact Whole.new w _ _
  have HW := Lib.hid hw0
  have c0_0 := box_cell wh0 0 (.int .i64 a) rfl
  have c0_1 := box_cell wh0 1 (.int .i64 b) rfl
  have c0_2 := box_cell wh0 2 (.int .i64 c) rfl
  have c0_3 := box_cell wh0 3 (.int .i64 d) rfl
  have hsr := Since.refl w0
  have hsd := hsr.drew
  clear hw0 wh0
  replace h := Lib.hid h
  go_enter Try.func9, Try.ntmps9
  go_wp2_with fail
  rw [← HW.out]
  go_wp2_with (go_at_call 33; (with_reducible refine (Calls.since (by assumption) (wrWin_at h.out _)).mono ?_); rintro e w1 ⟨rfl, hb1⟩)
  go_ret2
  exact ⟨rfl, hs0.trans hb1⟩
set_option maxHeartbeats 800000 in
theorem wrOf_no (k d b : Int) (w : World) (h : okP k d b = false) : Calls Try.prog 37 #[.int .i64 k, .agg #[.int .i64 d, .int .i64 b]] w fun e w' => e = .returned (.tuple #[.agg #[.int .i64 0, .int .i64 0, .int .i64 0, .int .i64 0], .int .i64 1]) ∧ Below w.heap.size w w' := by
  obtain ⟨w0, hw0⟩ : ∃ w0, w0 = (w.alloc (.cells #[.int .i64 d, .int .i64 b] 25)).alloc (.cells #[.int .i64 0, .int .i64 0, .int .i64 0, .int .i64 0] 23) := ⟨_, rfl⟩
  have hs0 : Since w w0 := by rw [hw0]; exact ((Since.refl w).alloc _).alloc _
  have wh0 : Whole w0 (w.heap.size) 25 #[.int .i64 d, .int .i64 b] := by rw [hw0]; exact (Whole.new w _ _).alloc _
  have wh1 : Whole w0 (w.heap.size + 1) 23 #[.int .i64 0, .int .i64 0, .int .i64 0, .int .i64 0] := by rw [hw0]; exact (Whole.new (w.alloc _) _ _).at_ (by simp)
  have HW := Lib.hid hw0
  have c0_0 := box_cell wh0 0 (.int .i64 d) rfl
  have c0_1 := box_cell wh0 1 (.int .i64 b) rfl
  have c1_0 := box_cell wh1 0 (.int .i64 0) rfl
  have f1_0 := box_free wh1 0
  have c1_1 := box_cell wh1 1 (.int .i64 0) rfl
  have f1_1 := box_free wh1 1
  have c1_2 := box_cell wh1 2 (.int .i64 0) rfl
  have f1_2 := box_free wh1 2
  have c1_3 := box_cell wh1 3 (.int .i64 0) rfl
  have f1_3 := box_free wh1 3
  have hsr := Since.refl w0
  have hsd := hsr.drew
  clear hw0
  replace h := Lib.hid h
  go_enter Try.func37, Try.ntmps37
  go_wp2_with fail
  rw [← HW.out]
  go_wp2_with (go_at_call 57; (with_reducible refine (Calls.since (by assumption) (refRightP_at h.out _)).mono ?_); rintro e w1 ⟨rfl, hb1⟩)
  have g0 := (Since.whole hb1 wh1).set4 (.int .i64 0) (.int .i64 0) (.int .i64 0) (.int .i64 0)
  have g1 := g0.cell 0
  have g2 := g0.cell 1
  have g3 := g0.cell 2
  have g4 := g0.cell 3
  exact bodyPost_ret (v := .tuple #[.agg #[.int .i64 0, .int .i64 0, .int .i64 0, .int .i64 0], .int .i64 1]) (by simp [results, Try.results37, go_sem, g1, g2, g3, g4]) rfl ⟨rfl, (hs0.trans hb1).set4 (by simp) _ _ _ _⟩
set_option maxHeartbeats 800000 in
theorem wrOf_yes (k d b p q r s : Int) (w : World) (h : okP k d b = true) (e : zoneR k d b = ⟨p, q, r, s⟩) : Calls Try.prog 37 #[.int .i64 k, .agg #[.int .i64 d, .int .i64 b]] w fun e w' => e = .returned (.tuple #[.agg #[.int .i64 p, .int .i64 q, .int .i64 r, .int .i64 s], .int .i64 0]) ∧ Below w.heap.size w w' := by
  have he : corF (side k) (ups d b (cnt d b)) = (p, q, r, s) := by
    unfold zoneR at e
    injection e with e1 e2 e3 e4
    rw [← e1, ← e2, ← e3, ← e4]
  obtain ⟨w0, hw0⟩ : ∃ w0, w0 = (w.alloc (.cells #[.int .i64 d, .int .i64 b] 25)).alloc (.cells #[.int .i64 0, .int .i64 0, .int .i64 0, .int .i64 0] 23) := ⟨_, rfl⟩
  have hs0 : Since w w0 := by rw [hw0]; exact ((Since.refl w).alloc _).alloc _
  have wh0 : Whole w0 (w.heap.size) 25 #[.int .i64 d, .int .i64 b] := by rw [hw0]; exact (Whole.new w _ _).alloc _
  have wh1 : Whole w0 (w.heap.size + 1) 23 #[.int .i64 0, .int .i64 0, .int .i64 0, .int .i64 0] := by rw [hw0]; exact (Whole.new (w.alloc _) _ _).at_ (by simp)
  have HW := Lib.hid hw0
  have c0_0 := box_cell wh0 0 (.int .i64 d) rfl
  have c0_1 := box_cell wh0 1 (.int .i64 b) rfl
  have c1_0 := box_cell wh1 0 (.int .i64 0) rfl
  have f1_0 := box_free wh1 0
  have c1_1 := box_cell wh1 1 (.int .i64 0) rfl
  have f1_1 := box_free wh1 1
  have c1_2 := box_cell wh1 2 (.int .i64 0) rfl
  have f1_2 := box_free wh1 2
  have c1_3 := box_cell wh1 3 (.int .i64 0) rfl
  have f1_3 := box_free wh1 3
  have hsr := Since.refl w0
  have hsd := hsr.drew
  clear hw0
  replace h := Lib.hid h
  replace he := Lib.hid he
  clear e
  go_enter Try.func37, Try.ntmps37
  go_wp2_with fail
  rw [← HW.out]
  go_wp2_with (first | (go_at_call 57; (with_reducible refine (Calls.since (by assumption) (refRightP_at h.out _)).mono ?_); rintro e w1 ⟨rfl, hb1⟩) | ((go_at_call 58; (with_reducible refine (Calls.since (by assumption) (refCorner_yes k d b p q r s _ h.out he.out)).mono ?_); rintro e w2 ⟨rfl, hb2⟩); (have x1 := Since.whole hb2 wh1); (have x2 := (x1.alloc (.cells #[.int .i64 p, .int .i64 q] 27)).frozen 0); (have x3 := (x1.alloc (.cells #[.int .i64 p, .int .i64 q] 27)).frozen 1); (have x4 := (x1.alloc (.cells #[.int .i64 p, .int .i64 q] 27)).frozen 2); (have x5 := (x1.alloc (.cells #[.int .i64 p, .int .i64 q] 27)).frozen 3); (have y1 := (x1.alloc (.cells #[.int .i64 p, .int .i64 q] 27)).cell 0); (have y2 := (x1.alloc (.cells #[.int .i64 p, .int .i64 q] 27)).cell 1); (have y3 := (x1.alloc (.cells #[.int .i64 p, .int .i64 q] 27)).cell 2); (have y4 := (x1.alloc (.cells #[.int .i64 p, .int .i64 q] 27)).cell 3)))
  have g0 := (x1.alloc (.cells #[.int .i64 p, .int .i64 q] 27)).set4 (.int .i64 p) (.int .i64 q) (.int .i64 r) (.int .i64 s)
  have g1 := g0.cell 0
  have g2 := g0.cell 1
  have g3 := g0.cell 2
  have g4 := g0.cell 3
  exact bodyPost_ret (v := .tuple #[.agg #[.int .i64 p, .int .i64 q, .int .i64 r, .int .i64 s], .int .i64 0]) (by simp [results, Try.results37, go_sem, g1, g2, g3, g4]) rfl ⟨rfl, ((hs0.trans hb2).alloc _).set4 (by simp) _ _ _ _⟩
theorem take_map_filter (l : List Rc) (g : Rc → Rc) (p : Rc → Bool) (m : Nat) (h : m < l.length) : ((l.take (m + 1)).map g).filter p = ((l.take m).map g).filter p ++ (if p (g l[m]) = true then [g l[m]] else []) := by
  rw [List.take_succ_eq_append_getElem h, List.map_append, List.filter_append]
  congr 1
  show List.filter p [g l[m]] = _
  cases e : p (g l[m]) with
  | true => rw [List.filter_cons_of_pos e]; simp
  | false => rw [List.filter_cons_of_neg (by rw [e]; exact Bool.false_ne_true)]; simp
set_option maxRecDepth 100000 in
set_option maxHeartbeats 3200000 in
theorem wrCut_yes (k a b c d e f : Int) (w : World) (h : winR k ⟨a, b, c, d⟩ = true) (ho : okP k e f = true) : Calls Try.prog 13 #[.int .i64 k, .agg #[.int .i64 a, .int .i64 b, .int .i64 c, .int .i64 d], .agg #[.int .i64 e, .int .i64 f]] w fun z w' => ∃ v, z = .returned v ∧ RowR w' w.heap.size 23 v (cutR k ⟨a, b, c, d⟩ e f) ∧ Below w.heap.size w w' := by
  have HC := Lib.hid (cutR_yes h ho)
  obtain ⟨⟨p, q, r, s⟩, hz⟩ : ∃ Z, zoneR k e f = Z := ⟨_, rfl⟩
  have HZ := Lib.hid hz
  have H := Lib.hid h
  have HO := Lib.hid ho
  clear hz h ho
  obtain ⟨w0, hw0⟩ : ∃ w0, w0 = (w.alloc (.cells #[.int .i64 a, .int .i64 b, .int .i64 c, .int .i64 d] 23)).alloc (.cells #[.int .i64 e, .int .i64 f] 25) := ⟨_, rfl⟩
  have hs0 : Since w w0 := by rw [hw0]; exact ((Since.refl w).alloc _).alloc _
  have wh0 : Whole w0 (w.heap.size) 23 #[.int .i64 a, .int .i64 b, .int .i64 c, .int .i64 d] := by rw [hw0]; exact (Whole.new w _ _).alloc _
  have wh1 : Whole w0 (w.heap.size + 1) 25 #[.int .i64 e, .int .i64 f] := by rw [hw0]; exact (Whole.new (w.alloc _) _ _).at_ (by simp)
  have HW := Lib.hid hw0
  have c0_0 := box_cell wh0 0 (.int .i64 a) rfl
  have c0_1 := box_cell wh0 1 (.int .i64 b) rfl
  have c0_2 := box_cell wh0 2 (.int .i64 c) rfl
  have c0_3 := box_cell wh0 3 (.int .i64 d) rfl
  have c1_0 := box_cell wh1 0 (.int .i64 e) rfl
  have c1_1 := box_cell wh1 1 (.int .i64 f) rfl
  have hsr := Since.refl w0
  have hsd := hsr.drew
  clear hw0 wh0 wh1
  go_enter Try.func13, Try.ntmps13
  go_wp2_with fail
  rw [← HW.out]
  go_wp2_with fail
  refine Calls.named (fun w1 hw => ?_)
  have hs1 : Since w0 w1 := hsr.named hw
  clear hw
  refine (wrPlain_yes k a b c d w1 H.out).mono ?_
  rintro z w2 ⟨v, rfl, hrow, hb⟩
  replace hs1 := hs1.trans hb
  clear hb
  have hlist := hrow.list encR_len
  obtain ⟨L, hL⟩ : ∃ L, plainR k ⟨a, b, c, d⟩ = L := ⟨_, rfl⟩
  have hl4 : L.length ≤ 4 := by rw [← hL]; exact plain_len
  have hfn : ∀ r ∈ L, fineR r = true := by rw [← hL]; exact fun r hr => right_fine (plain_right r hr).1
  rw [hL] at hlist
  have HL := Lib.hid hL
  clear hL hrow
  obtain ⟨B0, hB0⟩ : ∃ B0, B0 = w2.heap.size := ⟨_, rfl⟩
  rw [← hB0] at hlist
  have hB1 : w.heap.size ≤ B0 := by have := (hs0.trans hs1).size; omega
  replace hB0 := Lib.hid hB0
  go_wp2_with fail
  refine Calls.named (fun w3 hw => ?_)
  have hs3 : Since w2 w3 := (Since.refl w2).named hw
  clear hw
  refine (wrOf_yes k e f p q r s w3 HO.out HZ.out).mono ?_
  rintro z w4 ⟨rfl, hb⟩
  replace hs3 := hs3.trans hb
  clear hb
  replace hlist := hlist.since hs3 (by rw [hB0.out]; exact Nat.le_refl _)
  replace hs1 := hs1.trans hs3
  have hB2 : B0 ≤ w4.heap.size := by rw [hB0.out]; exact hs3.size
  clear hs3
  obtain ⟨va, cap, rfl, hform⟩ := hlist.form
  go_wp2_with fail
  have hsN := (hs0.trans hs1).alloc (.cells #[.int .i64 p, .int .i64 q, .int .i64 r, .int .i64 s] 23)
  have wz := Whole.new w4 23 #[.int .i64 p, .int .i64 q, .int .i64 r, .int .i64 s]
  have hlN := hlist.since ((Since.refl w4).alloc (.cells #[.int .i64 p, .int .i64 q, .int .i64 r, .int .i64 s] 23)) hB2
  obtain ⟨Z, hZ⟩ : ∃ Z, Z = w4.heap.size := ⟨_, rfl⟩
  rw [← hZ] at wz hB2 ⊢
  clear hZ hlist hs1 c0_0 c0_1 c0_2 c0_3 c1_0 c1_1 hsr hsd hs0
  go_loopw [11, 12] (fun out i wr => ∃ m : Nat, i = .int .i64 m ∧ m ≤ L.length ∧ RowR wr (Z + 1) 23 out (((L.take m).map (fun x => meetR x ⟨p, q, r, s⟩)).filter (fun x => decide (0 < areaR x))) ∧ Whole wr Z 23 #[.int .i64 p, .int .i64 q, .int .i64 r, .int .i64 s] ∧ ListR B0 wr (.slice va L.length cap) L ∧ Since w wr) (fun _ i _ => L.length - (intOf i).toNat)
  case atStart => exact ⟨0, rfl, Nat.zero_le _, RowE.nil _ _ _, wz, hlN, hsN⟩
  case round =>
    clear hsN wz hlN
    obtain ⟨m, rfl, hm, hrow, wz, hls, hs⟩ := hrel
    by_cases hlt : m < L.length
    · obtain ⟨g, rfl, hg⟩ := hform m hlt
      obtain ⟨⟨x, y, u, t⟩, hr⟩ : ∃ ρ, L[m] = ρ := ⟨_, rfl⟩
      have hBr : B0 ≤ wr.heap.size := by have := wz.lt; omega
      have t1 : ∀ W, Since wr W → W.cell? ⟨g, m * 4, none⟩ = some (.int .i64 x) := fun W hW => (hls.since hW hBr).at_ hlt 0 (by rw [hr]; rfl)
      have t2 : ∀ W, Since wr W → W.cell? ⟨g, m * 4 + 1, none⟩ = some (.int .i64 y) := fun W hW => (hls.since hW hBr).at_ hlt 1 (by rw [hr]; rfl)
      have t3 : ∀ W, Since wr W → W.cell? ⟨g, m * 4 + 2, none⟩ = some (.int .i64 u) := fun W hW => (hls.since hW hBr).at_ hlt 2 (by rw [hr]; rfl)
      have t4 : ∀ W, Since wr W → W.cell? ⟨g, m * 4 + 3, none⟩ = some (.int .i64 t) := fun W hW => (hls.since hW hBr).at_ hlt 3 (by rw [hr]; rfl)
      have s1 := box_cell wz 0 _ rfl
      have s2 := box_cell wz 1 _ rfl
      have s3 := box_cell wz 2 _ rfl
      have s4 := box_cell wz 3 _ rfl
      obtain ⟨⟨X, Y, C, D⟩, hmt⟩ : ∃ ρ, meetR ⟨x, y, u, t⟩ ⟨p, q, r, s⟩ = ρ := ⟨_, rfl⟩
      have HMT := Lib.hid hmt
      have htk := take_map_filter L (fun x => meetR x ⟨p, q, r, s⟩) (fun x => decide (0 < areaR x)) m hlt
      rw [hr, hmt] at htk
      obtain ⟨V, hV⟩ : ∃ V, areaR ⟨X, Y, C, D⟩ = V := ⟨_, rfl⟩
      rw [hV] at htk
      have HAR := Lib.hid hV
      have hll : (((L.take m).map (fun x => meetR x ⟨p, q, r, s⟩)).filter (fun x => decide (0 < areaR x))).length ≤ 4 := by
        have h1 := List.length_filter_le (fun x => decide (0 < areaR x)) ((L.take m).map (fun x => meetR x ⟨p, q, r, s⟩))
        rw [List.length_map] at h1
        have := List.length_take_le m L
        omega
      obtain ⟨l, hl⟩ : ∃ l, ((L.take m).map (fun x => meetR x ⟨p, q, r, s⟩)).filter (fun x => decide (0 < areaR x)) = l := ⟨_, rfl⟩
      rw [hl] at hrow hll htk
      have HT := Lib.hid htk
      clear hmt hr htk hV hl hform
      have hsr := Since.refl wr
      have hsd := hsr.drew
      have hd : decide ((m : Int) < L.length) = true := decide_eq_true (by omega)
      go_wp2_with fail
      obtain ⟨wq, hwq⟩ : ∃ wq, wq = wr.drew := ⟨_, rfl⟩
      refine wp_region_held_drew (S := fun W => Since wr W) (by kernel_rfl) hsd (fun hHeld => ?_)
      rw [← hwq] at hHeld ⊢
      have hq : Since wr wq := hHeld
      clear hwq hsd
      refine wpAnyH_take (i := 0) (v := ?_) rfl (by kernel_rfl) (by kernel_rfl) (by kernel_rfl) (fun _ _ _ h => h) (Or.inl ⟨by rfl, ?_⟩) (by assumption) ?_
      rotate_left 1
      · (intro W hW; clear hW; go_simp; try with_reducible rfl)
      simp only [Act.put, List.getElem_toArray, List.getElem_cons_zero, List.setIfInBounds_toArray, List.set_cons_zero, List.set_cons_succ]
      refine wpAnyH_take (i := 1) (v := ?_) rfl (by kernel_rfl) (by kernel_rfl) (by kernel_rfl) (fun _ _ _ h => h) (Or.inl ⟨by rfl, ?_⟩) (by assumption) ?_
      rotate_left 1
      · (intro W hW; clear hW; go_simp; try with_reducible rfl)
      simp only [Act.put, List.getElem_toArray, List.getElem_cons_succ, List.getElem_cons_zero, List.setIfInBounds_toArray, List.set_cons_zero, List.set_cons_succ]
      refine wpAnyH_take (i := 2) (v := ?_) rfl (by kernel_rfl) (by kernel_rfl) (by kernel_rfl) (fun _ _ _ h => h) (Or.inl ⟨by rfl, ?_⟩) (by assumption) ?_
      rotate_left 1
      · (intro W hW; clear hW; go_simp; try with_reducible rfl)
      simp only [Act.put, List.getElem_toArray, List.getElem_cons_succ, List.getElem_cons_zero, List.setIfInBounds_toArray, List.set_cons_zero, List.set_cons_succ]
      refine wpAnyH_take (i := 3) (v := ?_) rfl (by kernel_rfl) (by kernel_rfl) (by kernel_rfl) (fun _ _ _ h => h) (Or.inl ⟨by rfl, ?_⟩) (by assumption) ?_
      rotate_left 1
      · (intro W hW; skip; go_simp; try with_reducible rfl)
      simp only [Act.put, List.getElem_toArray, List.getElem_cons_succ, List.getElem_cons_zero, List.setIfInBounds_toArray, List.set_cons_zero, List.set_cons_succ]
      refine wpAnyH_take (i := 4) (v := ?_) rfl (by kernel_rfl) (by kernel_rfl) (by kernel_rfl) (fun _ _ _ h => h) (Or.inl ⟨by rfl, ?_⟩) (by assumption) ?_
      rotate_left 1
      · (intro W hW; skip; go_simp; try with_reducible rfl)
      simp only [Act.put, List.getElem_toArray, List.getElem_cons_succ, List.getElem_cons_zero, List.setIfInBounds_toArray, List.set_cons_zero, List.set_cons_succ]
      refine wpAnyH_ready (rs := [5, 6]) (by kernel_rfl) (by simp) ?_
      refine AllReadyH.cons rfl (fun K hK => ?_) (AllReadyH.cons rfl (fun K hK => ?_) AllReadyH.nil)
      · go_simp
        refine (Calls.since hq (wrMeet_at HMT.out _)).mono ?_
        rintro e w2 ⟨rfl, hb2⟩
        go_wp2_with fail
        refine hK.out _ _ (hb2) (fun hHeld => ?_)
        clear hK K
        try simp only [Act.put, List.getElem_toArray, List.getElem_cons_succ, List.getElem_cons_zero, List.setIfInBounds_toArray, List.set_cons_zero, List.set_cons_succ]
        refine wpAnyH_ready (rs := [6]) (by kernel_rfl) (by simp) ?_
        refine AllReadyH.cons rfl (fun K hK => ?_) AllReadyH.nil
        go_simp
        skip
        refine hK.out _ _ (hb2.alloc _) (fun hHeld => ?_)
        clear hK K
        try simp only [Act.put, List.getElem_toArray, List.getElem_cons_succ, List.getElem_cons_zero, List.setIfInBounds_toArray, List.set_cons_zero, List.set_cons_succ]
        refine wpAnyH_ready (rs := [7]) (by kernel_rfl) (by simp) ?_
        refine AllReadyH.cons rfl (fun K hK => ?_) AllReadyH.nil
        go_simp
        skip
        refine hK.out _ _ (hb2.alloc _) (fun hHeld => ?_)
        clear hK K
        try simp only [Act.put, List.getElem_toArray, List.getElem_cons_succ, List.getElem_cons_zero, List.setIfInBounds_toArray, List.set_cons_zero, List.set_cons_succ]
        refine wpAnyH_done (by kernel_rfl) ?_ _
        obtain ⟨w5, hw5⟩ : ∃ w5, w5 = w2.alloc (.cells #[.int .i64 X, .int .i64 Y, .int .i64 C, .int .i64 D] 23) := ⟨_, rfl⟩
        have hS5 : Since wr w5 := Since.named (hb2.alloc _) hw5
        have hN5 : Whole w5 w2.heap.size 23 #[.int .i64 X, .int .i64 Y, .int .i64 C, .int .i64 D] := (Whole.new w2 _ _).named hw5
        obtain ⟨NB, hNB⟩ : ∃ NB, NB = w2.heap.size := ⟨_, rfl⟩
        rw [← hw5, ← hNB]
        rw [← hNB] at hN5
        clear hHeld hb2 hw5 hNB hq
        have z1 := box_cell hN5 0 _ rfl
        have z2 := box_cell hN5 1 _ rfl
        have z3 := box_cell hN5 2 _ rfl
        have z4 := box_cell hN5 3 _ rfl
        have hsr5 := Since.refl w5
        go_wp2_with fail
        refine (wrArea_at HAR.out w5).mono ?_
        rintro z0 w6 ⟨rfl, hb6⟩
        have hS6 := hS5.trans hb6
        replace hrow := hrow.since hS6
        replace wz := Since.whole hS6 wz
        replace hls := hls.since hS6 hBr
        replace hs := hs.trans hS6
        replace hsr5 : Since w5 w6 := hb6
        have hB6 := wz.lt
        by_cases hv : 0 < V
        · rw [if_pos (decide_eq_true hv)] at HT
          go_wp2_with (at_builtin; refine wpList_append_e rfl _ _ 36 rfl (Z + 1) 23 _ 32 Try.underlying36 infoR4 rfl (by decide) hrow ⟨X, Y, C, D⟩ rfl rfl (by simp [encR, Value.oneCell']) rfl rfl (by omega) (by decide) hs (by omega) (by omega) ?_; intro v' w7 hrow2 hs2 hk)
          go_roundw
          case rel => exact ⟨m + 1, by go_num, by omega, by rw [HT.out]; exact hrow2, wz.below hk (by omega), hls.below hk (by omega), hs2⟩
          case measure => simp [intOf]; omega
        · rw [if_neg (by rw [decide_eq_false hv]; exact Bool.false_ne_true), List.append_nil] at HT
          go_wp2_with fail
          go_roundw
          case rel => exact ⟨m + 1, by go_num, by omega, by rw [HT.out]; exact hrow, wz, hls, hs⟩
          case measure => simp [intOf]; omega
      · go_simp
        skip
        refine hK.out _ _ (hq.alloc _) (fun hHeld => ?_)
        clear hK K
        try simp only [Act.put, List.getElem_toArray, List.getElem_cons_succ, List.getElem_cons_zero, List.setIfInBounds_toArray, List.set_cons_zero, List.set_cons_succ]
        refine wpAnyH_ready (rs := [5]) (by kernel_rfl) (by simp) ?_
        refine AllReadyH.cons rfl (fun K hK => ?_) AllReadyH.nil
        go_simp
        refine (wrMeet_at HMT.out _).mono ?_
        rintro e w2 ⟨rfl, hb2'⟩
        have hb2 : Since wr w2 := Since.trans (hq.alloc _) hb2'
        have hw := (Whole.new wq 23 #[.int .i64 0, .int .i64 0, .int .i64 0, .int .i64 0]).below hb2' (by simp)
        have y0 := hw.cell 0
        have x0 := hw.frozen 0
        have y1 := hw.cell 1
        have x1 := hw.frozen 1
        have y2 := hw.cell 2
        have x2 := hw.frozen 2
        have y3 := hw.cell 3
        have x3 := hw.frozen 3
        go_wp2_with fail
        refine hK.out _ _ (hb2) (fun hHeld => ?_)
        clear hK K
        try simp only [Act.put, List.getElem_toArray, List.getElem_cons_succ, List.getElem_cons_zero, List.setIfInBounds_toArray, List.set_cons_zero, List.set_cons_succ]
        refine wpAnyH_ready (rs := [7]) (by kernel_rfl) (by simp) ?_
        refine AllReadyH.cons rfl (fun K hK => ?_) AllReadyH.nil
        go_simp
        skip
        refine hK.out _ _ ((Since.setCell (Since.setCell (Since.setCell (Since.setCell hb2 (p := ⟨wq.heap.size, 0, none⟩) hq.size_ _) (p := ⟨wq.heap.size, 1, none⟩) hq.size_ _) (p := ⟨wq.heap.size, 2, none⟩) hq.size_ _) (p := ⟨wq.heap.size, 3, none⟩) hq.size_ _)) (fun hHeld => ?_)
        clear hK K
        try simp only [Act.put, List.getElem_toArray, List.getElem_cons_succ, List.getElem_cons_zero, List.setIfInBounds_toArray, List.set_cons_zero, List.set_cons_succ]
        refine wpAnyH_done (by kernel_rfl) ?_ _
        obtain ⟨w5, hw5⟩ : ∃ w5, w5 = ((((w2.setCell ⟨wq.heap.size, 0, none⟩ (.int .i64 X)).setCell ⟨wq.heap.size, 1, none⟩ (.int .i64 Y)).setCell ⟨wq.heap.size, 2, none⟩ (.int .i64 C)).setCell ⟨wq.heap.size, 3, none⟩ (.int .i64 D)) := ⟨_, rfl⟩
        have hS5 : Since wr w5 := Since.named ((Since.setCell (Since.setCell (Since.setCell (Since.setCell hb2 (p := ⟨wq.heap.size, 0, none⟩) hq.size_ _) (p := ⟨wq.heap.size, 1, none⟩) hq.size_ _) (p := ⟨wq.heap.size, 2, none⟩) hq.size_ _) (p := ⟨wq.heap.size, 3, none⟩) hq.size_ _)) hw5
        have hN5 : Whole w5 wq.heap.size 23 #[.int .i64 X, .int .i64 Y, .int .i64 C, .int .i64 D] := (((((hw.set_ 0 _).set_ 1 _).set_ 2 _).set_ 3 _)).named hw5
        clear hw hb2' x0 y0 x1 y1 x2 y2 x3 y3
        obtain ⟨NB, hNB⟩ : ∃ NB, NB = wq.heap.size := ⟨_, rfl⟩
        rw [← hw5, ← hNB]
        rw [← hNB] at hN5
        clear hHeld hb2 hw5 hNB hq
        have z1 := box_cell hN5 0 _ rfl
        have z2 := box_cell hN5 1 _ rfl
        have z3 := box_cell hN5 2 _ rfl
        have z4 := box_cell hN5 3 _ rfl
        have hsr5 := Since.refl w5
        go_wp2_with fail
        refine (wrArea_at HAR.out w5).mono ?_
        rintro z0 w6 ⟨rfl, hb6⟩
        have hS6 := hS5.trans hb6
        replace hrow := hrow.since hS6
        replace wz := Since.whole hS6 wz
        replace hls := hls.since hS6 hBr
        replace hs := hs.trans hS6
        replace hsr5 : Since w5 w6 := hb6
        have hB6 := wz.lt
        by_cases hv : 0 < V
        · rw [if_pos (decide_eq_true hv)] at HT
          go_wp2_with (at_builtin; refine wpList_append_e rfl _ _ 36 rfl (Z + 1) 23 _ 32 Try.underlying36 infoR4 rfl (by decide) hrow ⟨X, Y, C, D⟩ rfl rfl (by simp [encR, Value.oneCell']) rfl rfl (by omega) (by decide) hs (by omega) (by omega) ?_; intro v' w7 hrow2 hs2 hk)
          go_roundw
          case rel => exact ⟨m + 1, by go_num, by omega, by rw [HT.out]; exact hrow2, wz.below hk (by omega), hls.below hk (by omega), hs2⟩
          case measure => simp [intOf]; omega
        · rw [if_neg (by rw [decide_eq_false hv]; exact Bool.false_ne_true), List.append_nil] at HT
          go_wp2_with fail
          go_roundw
          case rel => exact ⟨m + 1, by go_num, by omega, by rw [HT.out]; exact hrow, wz, hls, hs⟩
          case measure => simp [intOf]; omega
    · obtain rfl : m = L.length := by omega
      have hd : decide ((L.length : Int) < L.length) = false := decide_eq_false (by omega)
      rw [List.take_of_length_le (Nat.le_refl _), ← HL.out, ← HZ.out, ← HC.out] at hrow
      go_wp2_with fail
      go_ret
      exact ⟨_, rfl, hrow.mono (by omega), hs⟩
end Go.Proofs.Ytbfjnnjblnjdkaa
