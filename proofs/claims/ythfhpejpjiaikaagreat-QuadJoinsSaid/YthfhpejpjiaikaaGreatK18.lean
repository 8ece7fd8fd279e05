/- quad's put of a new record at a leaf. quad's put, at every tree. -/
import Derived.Test.YthfhpejpjiaikaaGreatK14
import Derived.Test.YthfhpejpjiaikaaGreatK17
namespace Go.Proofs.YthfhpejpjiaikaaGreat
open Go.RowKit
set_option linter.unusedVariables false
set_option linter.unusedSimpArgs false
theorem RowE.shp {α : Type} {enc : α → List Value} {n : Nat} {W : World} {base : Nat} {T : TypeId} {v : Value} {l : List α} (h : RowE enc n W base T v l) : ∃ a c, v = .slice a l.length c := by
  obtain ⟨_, ⟨rfl, h⟩ | ⟨g, cap, cur, rfl, _⟩⟩ := h
  · exact ⟨none, 0, by rw [h]⟩
  · exact ⟨_, _, rfl⟩
theorem whole_ins {g n : Nat} {a : Rc} {v v' : Value} {W : World} (h : Whole W g 71 (ncells a n v noQ)) : Whole ((W.setCell ⟨g, 5, none⟩ v').setCell ⟨g, 4, none⟩ (.int .i64 ((n : Int) + 1))) g 71 (ncells a (n + 1) v' noQ) :=
  Whole.set_ (Whole.set_ h 5 v') 4 (.int .i64 ((n + 1 : Nat) : Int))
/-- The leaf behind an Insert. -/
theorem leaf_ins {g : Nat} {v v' : Value} {a : Rc} {M M2 : List Rq} {W w2 : World} (h : (QN.leaf g v a M).At W) (hsep : v.ownBlock ≠ some g) (hs : Off (fun c => v.ownBlock = some c) W w2) (hrow : RowE encQ 5 w2 0 55 v' M2) (hob : v'.ownBlock = v.ownBlock ∨ ∃ c, v'.ownBlock = some c ∧ W.heap.size ≤ c) (hl : M2.length = M.length + 1) :
    (QN.leaf g v' a M2).At ((w2.setCell ⟨g, 5, none⟩ v').setCell ⟨g, 4, none⟩ (.int .i64 ((M.length : Int) + 1))) ∧ v'.ownBlock ≠ some g ∧
      Off (fun c => c ∈ (QN.leaf g v a M).bl) W ((w2.setCell ⟨g, 5, none⟩ v').setCell ⟨g, 4, none⟩ (.int .i64 ((M.length : Int) + 1))) ∧ (∀ c ∈ (QN.leaf g v' a M2).bl, c ∈ (QN.leaf g v a M).bl ∨ W.heap.size ≤ c) := by
  have hgl : g < W.heap.size := Whole.lt h.1
  have hne : v'.ownBlock ≠ some g := by
    rcases hob with z | ⟨c, z, y⟩
    · rw [z]; exact hsep
    · rw [z]; intro e; injection e with e; omega
  refine ⟨⟨?_, hrow.keepQ (fun b hb => ?_)⟩, hne, ?_, fun c hc => ?_⟩
  · rw [hl]
    exact whole_ins (hs.whole h.1 hsep)
  · have e : b ≠ g := fun e => hne (by rw [hb, e])
    exact (Below.heap_setCell _ ⟨g, 4, none⟩ _ b e).trans (Below.heap_setCell w2 ⟨g, 5, none⟩ _ b e)
  · have h1 : Off (fun c => c ∈ (QN.leaf g v a M).bl) W w2 := hs.mono (fun c _ hc => List.mem_cons_of_mem _ (ownL_mem.2 hc))
    exact (h1.setCell (p := ⟨g, 5, none⟩) (.inr List.mem_cons_self) _).setCell (p := ⟨g, 4, none⟩) (.inr List.mem_cons_self) _
  · rcases List.mem_cons.1 hc with rfl | hc
    · exact .inl List.mem_cons_self
    · have hc := ownL_mem.1 hc
      rcases hob with z | ⟨d, z, y⟩
      · rw [z] at hc; exact .inl (List.mem_cons_of_mem _ (ownL_mem.2 hc))
      · rw [z] at hc; injection hc with hc; exact .inr (by omega)
theorem putQ_new {L : List Rq} {r : Rq} (h : hasQ L r.x r.y r.key = false) : putQ L r = L.take (posQ L r.x r.y r.key) ++ r :: L.drop (posQ L r.x r.y r.key) := by
  unfold putQ; rw [if_neg (by rw [h]; exact Bool.false_ne_true)]
set_option maxRecDepth 100000 in
set_option maxHeartbeats 12800000 in
theorem put_new {N : Int} (hpart : PartC N) {g : Nat} {v : Value} {b a : Rc} {M L : List Rq} {r : Rq} {W : World} (h : Tree (.leaf g v b M) a L W) (hr : inQ a r = true) (hl9 : L.length ≤ 999) (hN : a.w + a.h ≤ N) (hh : hasQ L r.x r.y r.key = false) :
    Calls Tryz.prog 45 #[.pointer (some ⟨g, 0, none⟩), .agg #[.int .i64 r.x, .int .i64 r.y, .string r.key, .string r.val, .int .i64 r.ver]] W (PutP (.leaf g v b M) a L r W) := by
  obtain ⟨w0, hw0⟩ : ∃ w0, w0 = W.alloc (.cells #[.int .i64 r.x, .int .i64 r.y, .string r.key, .string r.val, .int .i64 r.ver] 55) := ⟨_, rfl⟩
  have hs0 : Since W w0 := by rw [hw0]; exact (Since.refl W).alloc _
  have hbx : Whole w0 W.heap.size 55 #[.int .i64 r.x, .int .i64 r.y, .string r.key, .string r.val, .int .i64 r.ver] := by rw [hw0]; exact Whole.new W _ _
  obtain ⟨h1, h2, h3, h4⟩ := h.ok
  subst h1
  subst h2
  have hat0 := h.at_.since hs0
  have HL := Lib.hid (isLeafN_yes hat0)
  have HF := Lib.hid (fun W' (hW : Since w0 W') => nfind_any (hat0.since hW) h.sort (by have := h.len; omega) r.x r.y r.key)
  have hgl : g < W.heap.size := Whole.lt h.at_.1
  have hown : ∀ c, v.ownBlock = some c → c < W.heap.size := fun c hc => (RowE.own h.at_.2 c hc).2
  obtain ⟨P, hP⟩ : ∃ P, posQ M r.x r.y r.key = P := ⟨_, rfl⟩
  have hpu := putQ_new hh
  have hple := posQ_le M r.x r.y r.key
  rw [hP] at hpu hple
  rw [hP, hh] at HF
  obtain ⟨M2, hM2⟩ : ∃ M2, putQ M r = M2 := ⟨_, rfl⟩
  have hl2 : M2.length = M.length + 1 := by rw [← hM2, putQ_len, if_neg (by rw [hh]; exact Bool.false_ne_true)]
  have hsort2 : SortQ M2 := by rw [← hM2]; exact putQ_sort h.sort r
  have hin2 : ∀ s ∈ M2, inQ b s = true := fun s hs => by
    rw [← hM2] at hs
    rcases (putQ_mem h.sort r s).1 hs with z | z
    · rw [z]; exact hr
    · exact h.inn s z.1
  rw [hM2] at hpu
  have HIN := Lib.hid (fun wq (hq : Since w0 wq) => insert_any (W := wq.alloc (.cells (encQ r).toArray 55)) (base := 0) (RowE.since hat0.2 (hq.alloc _)) (Nat.zero_le _) (by have := h.len; omega) hple r (Whole.new wq _ _) (fun e => by have := hown _ e; have := hs0.size_; have := hq.size_; omega))
  rw [← hpu] at HIN
  have hv0 : Whole w0 g 71 (ncells b M.length v noQ) := hat0.1
  have HV := Lib.hid hv0
  have b5 : ∀ W', Off (fun c => v.ownBlock = some c) w0 W' → W'.cell? ⟨g, 5, none⟩ = some v := off_cell (F := fun c => v.ownBlock = some c) hv0 h.sep 5 _ rfl
  have hbo : ¬ v.ownBlock = some W.heap.size := fun e => by have := hown _ e; omega
  have b0 := off_cell hbx (F := fun c => v.ownBlock = some c) hbo 0 _ rfl
  have b1 := off_cell hbx (F := fun c => v.ownBlock = some c) hbo 1 _ rfl
  have b2 := off_cell hbx (F := fun c => v.ownBlock = some c) hbo 2 _ rfl
  have b3 := off_cell hbx (F := fun c => v.ownBlock = some c) hbo 3 _ rfl
  have b4 := off_cell hbx (F := fun c => v.ownBlock = some c) hbo 4 _ rfl
  have HH := Lib.hid (And.intro h (And.intro hh (And.intro hM2 (And.intro hl2 (And.intro hsort2 (And.intro hin2 h3))))))
  have HAT := Lib.hid hat0
  have HSEP := Lib.hid h.sep
  have HW := Lib.hid hw0
  have hsr := Since.refl w0
  have hsr2 := Off.refl (fun c => v.ownBlock = some c) w0
  have hn9 : (M.length : Int) ≤ 1000 := by omega
  have e1 : IntKind.i64.wrap ((M.length : Int) + 1) = (M.length : Int) + 1 := IntWalk.i64_in _ (by omega)
  clear hw0 hbx hat0 hP hpu hh h hM2 hl2 hsort2 hin2 hv0 hple h3 h4
  go_enter Tryz.func45, Tryz.ntmps45
  go_wp2_with fail
  rw [← HW.out]
  go_wp2_with (first | (go_at_call 51; (with_reducible refine HL.out.mono ?_); rintro e wn ⟨rfl, rfl⟩) | (go_at_call 49; (with_reducible refine (HF.out _ hsr).mono ?_); rintro e w1 ⟨rfl, hb1⟩; (have hs1 : Since w0 w1 := hb1)))
  have hsd := hs1.drew
  obtain ⟨wq, hwq⟩ : ∃ wq, wq = w1.drew := ⟨_, rfl⟩
  refine wp_region_last (fun W' => Off (fun c => v.ownBlock = some c) w0 W') 11 (by kernel_rfl) (hsd.off _) (fun hHeld => ?_)
  rw [← hwq] at hHeld hsd ⊢
  have hq : Since w0 wq := hsd
  clear hwq hsd
  refine wpLast_take (i := 0) (v := ?_) rfl (by decide) (by kernel_rfl) (by kernel_rfl) (by kernel_rfl) (by kernel_rfl) (fun _ _ _ h => h) (Or.inl ⟨by rfl, ?_⟩) (by assumption) ?_
  rotate_left 1
  · (intro W hW; clear hW; go_simp; try with_reducible rfl)
  simp only [Act.put, List.getElem_toArray, List.getElem_cons_zero, List.setIfInBounds_toArray, List.set_cons_zero, List.set_cons_succ]
  refine wpLast_take (i := 1) (v := ?_) rfl (by decide) (by kernel_rfl) (by kernel_rfl) (by kernel_rfl) (by kernel_rfl) (fun _ _ _ h => h) (Or.inl ⟨by rfl, ?_⟩) (by assumption) ?_
  rotate_left 1
  · (intro W hW; clear hW; go_simp; try with_reducible rfl)
  simp only [Act.put, List.getElem_toArray, List.getElem_cons_succ, List.getElem_cons_zero, List.setIfInBounds_toArray, List.set_cons_zero, List.set_cons_succ]
  refine wpLast_take (i := 2) (v := ?_) rfl (by decide) (by kernel_rfl) (by kernel_rfl) (by kernel_rfl) (by kernel_rfl) (fun _ _ _ h => h) (Or.inl ⟨by rfl, ?_⟩) (by assumption) ?_
  rotate_left 1
  · (intro W hW; clear hW; go_simp; try with_reducible rfl)
  simp only [Act.put, List.getElem_toArray, List.getElem_cons_succ, List.getElem_cons_zero, List.setIfInBounds_toArray, List.set_cons_zero, List.set_cons_succ]
  refine wpLast_take (i := 3) (v := ?_) rfl (by decide) (by kernel_rfl) (by kernel_rfl) (by kernel_rfl) (by kernel_rfl) (fun _ _ _ h => h) (Or.inl ⟨by rfl, ?_⟩) (by assumption) ?_
  rotate_left 1
  · (intro W hW; clear hW; go_simp; try with_reducible rfl)
  simp only [Act.put, List.getElem_toArray, List.getElem_cons_succ, List.getElem_cons_zero, List.setIfInBounds_toArray, List.set_cons_zero, List.set_cons_succ]
  refine wpLast_take (i := 4) (v := ?_) rfl (by decide) (by kernel_rfl) (by kernel_rfl) (by kernel_rfl) (by kernel_rfl) (fun _ _ _ h => h) (Or.inl ⟨by rfl, ?_⟩) (by assumption) ?_
  rotate_left 1
  · (intro W hW; skip; go_simp; try with_reducible rfl)
  simp only [Act.put, List.getElem_toArray, List.getElem_cons_succ, List.getElem_cons_zero, List.setIfInBounds_toArray, List.set_cons_zero, List.set_cons_succ]
  refine wpLast_take (i := 5) (v := ?_) rfl (by decide) (by kernel_rfl) (by kernel_rfl) (by kernel_rfl) (by kernel_rfl) (fun _ _ _ h => h) (Or.inl ⟨by rfl, ?_⟩) (by assumption) ?_
  rotate_left 1
  · (intro W hW; clear hW; go_simp; try with_reducible rfl)
  simp only [Act.put, List.getElem_toArray, List.getElem_cons_succ, List.getElem_cons_zero, List.setIfInBounds_toArray, List.set_cons_zero, List.set_cons_succ]
  refine wpLast_take (i := 6) (v := ?_) rfl (by decide) (by kernel_rfl) (by kernel_rfl) (by kernel_rfl) (by kernel_rfl) (fun _ _ _ h => h) (Or.inl ⟨by rfl, ?_⟩) (by assumption) ?_
  rotate_left 1
  · (intro W hW; skip; go_simp; try with_reducible rfl)
  simp only [Act.put, List.getElem_toArray, List.getElem_cons_succ, List.getElem_cons_zero, List.setIfInBounds_toArray, List.set_cons_zero, List.set_cons_succ]
  refine wpLast_ready (rs := [7]) (by kernel_rfl) (by simp) ?_
  refine LastReady.cons rfl (fun K hK => ?_) LastReady.nil
  go_simp
  skip
  refine hK.out _ _ (fun _ => ((hq.alloc _).off _)) (fun hHeld => ?_)
  replace hHeld := hHeld (by decide)
  clear hK K
  try simp only [Act.put, List.getElem_toArray, List.getElem_cons_succ, List.getElem_cons_zero, List.setIfInBounds_toArray, List.set_cons_zero, List.set_cons_succ]
  refine wpLast_ready (rs := [8]) (by kernel_rfl) (by simp) ?_
  refine LastReady.cons rfl (fun K hK => ?_) LastReady.nil
  go_simp
  refine (HIN.out wq hq).mono ?_
  rintro e w2 ⟨v2, rfl, hrow2, hoff2, hob2⟩
  obtain ⟨va2, vc2, rfl⟩ := RowE.shp hrow2
  have ho2 : Off (fun c => v.ownBlock = some c) w0 w2 := ((hq.alloc _).off _).trans hoff2 (fun _ _ z => z)
  go_wp2_with fail
  refine hK.out _ _ (fun _ => ho2) (fun hHeld => ?_)
  replace hHeld := hHeld (by decide)
  clear hK K
  try simp only [Act.put, List.getElem_toArray, List.getElem_cons_succ, List.getElem_cons_zero, List.setIfInBounds_toArray, List.set_cons_zero, List.set_cons_succ]
  refine wpLast_take (i := 9) (v := ?_) rfl (by decide) (by kernel_rfl) (by kernel_rfl) (by kernel_rfl) (by kernel_rfl) (fun _ _ _ h => h) (Or.inl ⟨by rfl, ?_⟩) (by assumption) ?_
  rotate_left 1
  · (intro W hW; clear hW; go_simp; try with_reducible rfl)
  simp only [Act.put, List.getElem_toArray, List.getElem_cons_succ, List.getElem_cons_zero, List.setIfInBounds_toArray, List.set_cons_zero, List.set_cons_succ]
  refine wpLast_take (i := 10) (v := ?_) rfl (by decide) (by kernel_rfl) (by kernel_rfl) (by kernel_rfl) (by kernel_rfl) (fun _ _ _ h => h) (Or.inl ⟨by rfl, ?_⟩) (by assumption) ?_
  rotate_left 1
  · (intro W hW; clear hW; go_simp; try with_reducible rfl)
  simp only [Act.put, List.getElem_toArray, List.getElem_cons_succ, List.getElem_cons_zero, List.setIfInBounds_toArray, List.set_cons_zero, List.set_cons_succ]
  refine wpLast_ready (rs := [11]) (by kernel_rfl) (by simp) ?_
  refine LastReady.cons rfl (fun K hK => ?_) LastReady.nil
  have z0 := (ho2.whole HV.out HSEP.out).cell 5
  have z1 := (ho2.whole HV.out HSEP.out).frozen 5
  have z2 : (ncells b M.length v noQ)[5]? = some v := rfl
  rw [z2] at z0
  go_simp
  clear z0 z1 z2
  refine hK.out _ _ (fun h => absurd rfl h) (fun hHeld => ?_)
  clear hK K
  try simp only [Act.put, List.getElem_toArray, List.getElem_cons_succ, List.getElem_cons_zero, List.setIfInBounds_toArray, List.set_cons_zero, List.set_cons_succ]
  refine wpLast_done (by kernel_rfl) ?_ _
  have hgW : w2.heap.size ≤ w2.heap.size := Nat.le_refl _
  have hls := leaf_ins HAT.out HSEP.out ho2 hrow2 (hob2.imp id fun ⟨c, z, y⟩ => ⟨c, z, Nat.le_trans hq.size_ (by rw [World.size_alloc] at y; omega)⟩) HH.out.2.2.2.1
  obtain ⟨w3, hw3⟩ : ∃ w3, w3 = w2.setCell ⟨g, 5, none⟩ (.slice va2 M2.length vc2) := ⟨_, rfl⟩
  have hg3 : Whole w3 g 71 (ncells b M.length (.slice va2 M2.length vc2) noQ) := by rw [hw3]; exact Whole.set_ (ho2.whole HV.out HSEP.out) 5 _
  rw [← hw3] at hls ⊢
  have x4 : w3.cell? ⟨g, 4, none⟩ = some (.int .i64 (M.length : Nat)) := (hg3.cell 4).trans rfl
  have y4 := hg3.frozen 4
  obtain ⟨w4, hw4⟩ : ∃ w4, w4 = w3.setCell ⟨g, 4, none⟩ (.int .i64 ((M.length : Int) + 1)) := ⟨_, rfl⟩
  rw [← hw4] at hls
  have HW4 := Lib.hid hw4
  have HLS := Lib.hid hls
  have HG4 := Lib.hid (show Whole w4 g 71 (ncells b (M.length + 1) (.slice va2 M2.length vc2) noQ) by have z := hls.1.1; rw [← HH.out.2.2.2.1]; exact z)
  clear hls hw4 hw3 hg3 hrow2 hoff2 hob2 ho2 b0 b1 b2 b3 b4 b5 hgW
  go_upto_region 12 with fail
  rw [← HW4.out]
  have hoffW : Off (fun c => c ∈ (QN.leaf g v b M).bl) W w4 := (hs0.off _).trans HLS.out.2.2.1 (fun _ _ z => z)
  have hblW : ∀ c ∈ (QN.leaf g (.slice va2 M2.length vc2) b M2).bl, c ∈ (QN.leaf g v b M).bl ∨ W.heap.size ≤ c := fun c hc => (HLS.out.2.2.2 c hc).imp id (fun z => Nat.le_trans hs0.size_ z)
  have HOW := Lib.hid (And.intro hoffW hblW)
  clear hoffW hblW
  by_cases hc : 4 < M.length + 1 ∧ 1 < b.w * b.h
  · have hd : decide (4 < M.length + 1 ∧ 1 < b.w * b.h) = true := decide_eq_true hc
    have HCR := Lib.hid (crowded_any HG4.out rfl rfl rfl rfl rfl HH.out.1.good)
    rw [hd] at HCR
    have HPT := Lib.hid (fun W' (hW : Since w4 W') => hpart g (.slice va2 M2.length vc2) b M2 W' (HLS.out.1.since hW) HLS.out.2.1 HH.out.1.good HH.out.2.2.2.2.1 HH.out.2.2.2.2.2.1 (by rw [HH.out.2.2.2.1]; omega) (by rw [HH.out.2.2.2.1]; exact hc.1) hc.2 hN)
    clear hd hc
    go_wp2_with (first | (go_at_call 76; (with_reducible refine HCR.out.mono ?_); rintro e w5 ⟨rfl, hb5⟩; (have hs5 : Since w4 w5 := hb5)) | (go_at_call 77; (with_reducible refine (HPT.out _ hs5).mono ?_); rintro e w6 ⟨⟨u, rfl⟩, p, p1, p2, p3, p4, p5, p6⟩))
    go_ret
    refine ⟨by rw [HH.out.2.1]; rfl, p, p1, p2, p3, by rw [HH.out.2.2.1]; exact p4, ((HOW.out.1.since hs5).trans p5 (fun c hc z => ?_)), fun c hc => ?_⟩
    · rcases z with rfl | z
      · exact List.mem_cons_self
      · exact (HOW.out.2 c (List.mem_cons_of_mem _ (ownL_mem.2 z))).resolve_right (by omega)
    · rcases p6 c hc with rfl | z
      · exact .inl List.mem_cons_self
      · exact .inr (Nat.le_trans (HOW.out.1.since hs5).size z)
  · have hd : decide (4 < M.length + 1 ∧ 1 < b.w * b.h) = false := decide_eq_false hc
    have HCR := Lib.hid (crowded_any HG4.out rfl rfl rfl rfl rfl HH.out.1.good)
    rw [hd] at HCR
    have HNC := Lib.hid hc
    clear hd hc
    go_wp2_with (go_at_call 76; (with_reducible refine HCR.out.mono ?_); rintro e w5 ⟨rfl, hb5⟩)
    go_ret
    refine ⟨by rw [HH.out.2.1]; rfl, .leaf g (.slice va2 M2.length vc2) b M2, rfl, HLS.out.1.since hb5, HLS.out.2.1, ⟨rfl, HH.out.2.2.1.symm, HH.out.2.2.2.2.2.2, fun z => ?_⟩, HOW.out.1.since hb5, HOW.out.2⟩
    rw [HH.out.2.2.1, HH.out.2.2.2.1] at z
    exact Int.not_lt.1 (fun y => HNC.out ⟨z, y⟩)
theorem put_leaf {N : Int} (hpart : PartC N) {g : Nat} {v : Value} {b a : Rc} {M L : List Rq} {r : Rq} {W : World} (h : Tree (.leaf g v b M) a L W) (hr : inQ a r = true) (hl9 : L.length ≤ 999) (hN : a.w + a.h ≤ N) :
    Calls Tryz.prog 45 #[.pointer (some ⟨g, 0, none⟩), .agg #[.int .i64 r.x, .int .i64 r.y, .string r.key, .string r.val, .int .i64 r.ver]] W (PutP (.leaf g v b M) a L r W) := by
  cases hh : hasQ L r.x r.y r.key with
  | true => exact put_there h hh
  | false => exact put_new hpart h hr hl9 hN hh

end Go.Proofs.YthfhpejpjiaikaaGreat
namespace Go.Proofs.YthfhpejpjiaikaaGreat
open Go.RowKit
set_option linter.unusedVariables false
theorem put_all : ∀ n : Nat, PutC (n : Int)
  | 0 => fun q a L r W h hn hr hl hN => by have := h.good.w1; have := h.good.h1; omega
  | n + 1 => fun q a L r W h hn hr hl hN => by
    have ih : PutC (((n + 1 : Nat) : Int) - 1) := by
      have e : ((n + 1 : Nat) : Int) - 1 = (n : Int) := by omega
      rw [e]; exact put_all n
    cases q with
    | nil => cases hn
    | leaf g v b M => exact put_leaf (part_any ih) h hr hl hN
    | quad g m b q => exact put_quad ih h hr hl hN
theorem put_any {q : QN} {a : Rc} {L : List Rq} {r : Rq} {W : World} (h : Tree q a L W) (hn : q.isNil = false) (hr : inQ a r = true) (hl : L.length ≤ 999) :
    Calls Tryz.prog 45 #[q.v, .agg #[.int .i64 r.x, .int .i64 r.y, .string r.key, .string r.val, .int .i64 r.ver]] W (PutP q a L r W) :=
  put_all (a.w + a.h).toNat q a L r W h hn hr hl (by have := h.good.w1; have := h.good.h1; omega)
end Go.Proofs.YthfhpejpjiaikaaGreat
