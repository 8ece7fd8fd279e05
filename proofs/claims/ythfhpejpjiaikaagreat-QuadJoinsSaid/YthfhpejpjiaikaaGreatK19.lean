/- quad's del at a leaf. quad's del at a node with quarters, by what gather does and what del does at smaller rectangles. -/
import Derived.Test.YthfhpejpjiaikaaGreatK15
import Derived.Test.YthfhpejpjiaikaaGreatK18
namespace Go.Proofs.YthfhpejpjiaikaaGreat
open Go.RowKit
set_option linter.unusedVariables false
set_option linter.unusedSimpArgs false
def DelP (q : QN) (a : Rc) (L : List Rq) (x y : Int) (k : ByteArray) (W : World) (e : Ending) (W' : World) : Prop :=
  e = .returned (.bool (hasQ L x y k)) ∧ ∃ p : QN, p.v = q.v ∧ p.At W' ∧ p.Sep ∧ p.Ok a (delQ L x y k) ∧ Off (fun b => b ∈ q.bl) W W' ∧ ∀ b ∈ p.bl, b ∈ q.bl ∨ W.heap.size ≤ b
/-- The leaf behind a Delete. -/
theorem leaf_del {g : Nat} {v v' : Value} {a : Rc} {M M2 : List Rq} {W w2 : World} (h : (QN.leaf g v a M).At W) (hsep : v.ownBlock ≠ some g) (hs : Off (fun c => v.ownBlock = some c) W w2) (hrow : RowE encQ 5 w2 0 55 v' M2) (hob : v'.ownBlock = v.ownBlock) (hl : M2.length + 1 = M.length) :
    (QN.leaf g v' a M2).At ((w2.setCell ⟨g, 5, none⟩ v').setCell ⟨g, 4, none⟩ (.int .i64 ((M.length : Int) - 1))) ∧ v'.ownBlock ≠ some g ∧
      Off (fun c => c ∈ (QN.leaf g v a M).bl) W ((w2.setCell ⟨g, 5, none⟩ v').setCell ⟨g, 4, none⟩ (.int .i64 ((M.length : Int) - 1))) ∧ (∀ c ∈ (QN.leaf g v' a M2).bl, c ∈ (QN.leaf g v a M).bl) := by
  have hne : v'.ownBlock ≠ some g := by rw [hob]; exact hsep
  have e1 : (M.length : Int) - 1 = ((M2.length : Nat) : Int) := by omega
  refine ⟨⟨?_, hrow.keepQ (fun b hb => ?_)⟩, hne, ?_, fun c hc => ?_⟩
  · rw [e1]
    exact Whole.set_ (Whole.set_ (hs.whole h.1 hsep) 5 v') 4 (.int .i64 ((M2.length : Nat) : Int))
  · have e : b ≠ g := fun e => hne (by rw [hb, e])
    exact (Below.heap_setCell _ ⟨g, 4, none⟩ _ b e).trans (Below.heap_setCell w2 ⟨g, 5, none⟩ _ b e)
  · have h1 : Off (fun c => c ∈ (QN.leaf g v a M).bl) W w2 := hs.mono (fun c _ hc => List.mem_cons_of_mem _ (ownL_mem.2 hc))
    exact (h1.setCell (p := ⟨g, 5, none⟩) (.inr List.mem_cons_self) _).setCell (p := ⟨g, 4, none⟩) (.inr List.mem_cons_self) _
  · rcases List.mem_cons.1 hc with rfl | hc
    · exact List.mem_cons_self
    · have hc := ownL_mem.1 hc
      rw [hob] at hc
      exact List.mem_cons_of_mem _ (ownL_mem.2 hc)
theorem delQ_no {L : List Rq} {x y : Int} {k : ByteArray} (h : hasQ L x y k = false) : delQ L x y k = L := by
  unfold delQ; rw [if_neg (by rw [h]; exact Bool.false_ne_true)]
theorem delQ_yes {L : List Rq} {x y : Int} {k : ByteArray} (h : hasQ L x y k = true) : delQ L x y k = L.take (posQ L x y k) ++ L.drop (posQ L x y k + 1) := by
  unfold delQ; rw [if_pos h]
set_option maxRecDepth 100000 in
set_option maxHeartbeats 6400000 in
theorem del_leaf {g : Nat} {v : Value} {b a : Rc} {M L : List Rq} {x y : Int} {k : ByteArray} {W : World} (h : Tree (.leaf g v b M) a L W) :
    Calls Tryz.prog 52 #[.pointer (some ⟨g, 0, none⟩), .agg #[.int .i64 x, .int .i64 y], .string k] W (DelP (.leaf g v b M) a L x y k W) := by
  obtain ⟨w0, hw0⟩ : ∃ w0, w0 = W.alloc (.cells #[.int .i64 x, .int .i64 y] 50) := ⟨_, rfl⟩
  have hs0 : Since W w0 := by rw [hw0]; exact (Since.refl W).alloc _
  have hbx : Whole w0 W.heap.size 50 #[.int .i64 x, .int .i64 y] := by rw [hw0]; exact Whole.new W _ _
  obtain ⟨h1, h2, h3, h4⟩ := h.ok
  subst h1
  subst h2
  have hat0 := h.at_.since hs0
  have HL := Lib.hid (isLeafN_yes hat0)
  have HF := Lib.hid (fun W' (hW : Since w0 W') => nfind_any (hat0.since hW) h.sort (by have := h.len; omega) x y k)
  obtain ⟨P, hP⟩ : ∃ P, posQ M x y k = P := ⟨_, rfl⟩
  have hv0 : Whole w0 g 71 (ncells b M.length v noQ) := hat0.1
  have c0 : ∀ W', Since w0 W' → W'.cell? ⟨W.heap.size, 0, none⟩ = some (.int .i64 x) := box_cell hbx 0 _ rfl
  have c1 : ∀ W', Since w0 W' → W'.cell? ⟨W.heap.size, 1, none⟩ = some (.int .i64 y) := box_cell hbx 1 _ rfl
  have HW := Lib.hid hw0
  have hsr := Since.refl w0
  have hln := h.len
  cases hh : hasQ M x y k with
  | false =>
    rw [hP, hh] at HF
    have HR := Lib.hid (And.intro hat0 (And.intro h.sep (And.intro (show (QN.leaf g v b M).Ok b (delQ M x y k) by rw [delQ_no hh]; exact h.ok) hh)))
    clear hw0 hbx hat0 hP hv0 h h3 h4 hh
    go_enter Tryz.func52, Tryz.ntmps52
    go_wp2_with fail
    rw [← HW.out]
    go_wp2_with (first | (go_at_call 51; (with_reducible refine HL.out.mono ?_); rintro e wn ⟨rfl, rfl⟩) | (go_at_call 49; (with_reducible refine (HF.out _ hsr).mono ?_); rintro e w1 ⟨rfl, hb1⟩; (have hs1 : Since w0 w1 := hb1)))
    go_ret
    exact ⟨by rw [HR.out.2.2.2]; rfl, .leaf g v b M, rfl, HR.out.1.since hs1, HR.out.2.1, HR.out.2.2.1, (hs0.trans hs1).off _, fun c hc => .inl hc⟩
  | true =>
    obtain ⟨hp, hz⟩ := (hasQ_iff h.sort).1 hh
    rw [hP] at hp
    rw [hP, hh] at HF
    have hde := delQ_yes hh
    rw [hP] at hde
    obtain ⟨M2, hM2⟩ : ∃ M2, delQ M x y k = M2 := ⟨_, rfl⟩
    have hl2 : M2.length + 1 = M.length := by rw [← hM2, delQ_len h.sort, if_pos hh]; omega
    rw [hM2] at hde
    have HD := Lib.hid (fun W' (hW : Since w0 W') => delete_any (W := W') (base := 0) (RowE.since hat0.2 hW) hp (by omega))
    rw [← hde] at HD
    have HV := Lib.hid (fun W' (hW : Since w0 W') => Since.whole hW hv0)
    have b5 : ∀ W', Since w0 W' → W'.cell? ⟨g, 5, none⟩ = some v := fun W' hW => ((Since.whole hW hv0).cell 5).trans rfl
    have ep : IntKind.i64.wrap ((P : Int) + 1) = (P : Int) + 1 := IntWalk.i64_in _ (by omega)
    have em : IntKind.i64.wrap ((M.length : Int) - 1) = (M.length : Int) - 1 := IntWalk.i64_in _ (by omega)
    have HSEP := Lib.hid (show v.ownBlock ≠ some g from h.sep)
    have HR := Lib.hid (And.intro hat0 (And.intro hM2 (And.intro hl2 (And.intro hh (show neR b = true ∧ (4 < M.length → b.w * b.h ≤ 1) from ⟨h3, h4⟩)))))
    obtain ⟨va, vc, rfl⟩ := RowE.shp hat0.2
    clear hw0 hbx hat0 hP hv0 h h3 h4 hh hz hde hM2 hl2
    go_enter Tryz.func52, Tryz.ntmps52
    go_wp2_with fail
    rw [← HW.out]
    go_wp2_with (first | (go_at_call 51; (with_reducible refine HL.out.mono ?_); rintro e wn ⟨rfl, rfl⟩) | (go_at_call 49; (with_reducible refine (HF.out _ hsr).mono ?_); rintro e w1 ⟨rfl, hb1⟩; (have hs1 : Since w0 w1 := hb1)) | (go_at_call 89; (with_reducible refine (HD.out _ hs1).mono ?_); rintro e w2 ⟨v2, rfl, hrow2, hoff2, hob2⟩; obtain ⟨va2, vc2, rfl⟩ := RowE.shp hrow2; (have z5 := (hoff2.whole (HV.out _ hs1) HSEP.out).cell 5); (have y5 := (hoff2.whole (HV.out _ hs1) HSEP.out).frozen 5); (have z4 : w2.cell? ⟨g, 4, none⟩ = some (.int .i64 (M.length : Nat)) := ((hoff2.whole (HV.out _ hs1) HSEP.out).cell 4).trans rfl); (have y4 := (hoff2.whole (HV.out _ hs1) HSEP.out).frozen 4)))
    go_ret
    obtain ⟨q1, q2, q3, q4⟩ := leaf_del (HR.out.1.since hs1) HSEP.out hoff2 hrow2 hob2 HR.out.2.2.1
    exact ⟨by rw [HR.out.2.2.2.1]; rfl, .leaf g (.slice va2 M2.length vc2) b M2, rfl, q1, q2, ⟨rfl, HR.out.2.1.symm, HR.out.2.2.2.2.1, fun z => HR.out.2.2.2.2.2 (by rw [HR.out.2.1] at z; have := HR.out.2.2.1; omega)⟩, ((hs0.trans hs1).off _).trans q3 (fun _ _ z => z), fun c hc => .inl (q4 c hc)⟩
end Go.Proofs.YthfhpejpjiaikaaGreat
namespace Go.Proofs.YthfhpejpjiaikaaGreat
open Go.RowKit
set_option linter.unusedVariables false
set_option linter.unusedSimpArgs false
def DelC (N : Int) : Prop := ∀ (q : QN) (a : Rc) (L : List Rq) (x y : Int) (k : ByteArray) (W : World), Tree q a L W → q.isNil = false → hasR a x y = true → a.w + a.h ≤ N →
  Calls Tryz.prog 52 #[q.v, .agg #[.int .i64 x, .int .i64 y], .string k] W (DelP q a L x y k W)
/-- gather: a node with few records becomes a leaf again. -/
def GatherP (q : QN) (a : Rc) (L : List Rq) (W : World) (e : Ending) (W' : World) : Prop :=
  (∃ u, e = .returned u) ∧ ∃ p : QN, p.v = q.v ∧ p.At W' ∧ p.Sep ∧ p.Ok a L ∧ Off (fun b => b ∈ q.bl) W W' ∧ ∀ b ∈ p.bl, b ∈ q.bl ∨ W.heap.size ≤ b
def GatherC : Prop := ∀ (g n : Nat) (a : Rc) (q : Nat → QN) (L : List Rq) (W : World), (QN.quad g n a q).At W → (QN.quad g n a q).Sep → n = L.length → Good a → SortQ L → (∀ s ∈ L, inQ a s = true) → L.length ≤ 4 → (∀ i, i < 4 → (q i).Ok (qtr a i) (L.filter (inQ (qtr a i)))) →
  Calls Tryz.prog 88 #[.pointer (some ⟨g, 0, none⟩)] W (GatherP (.quad g n a q) a L W)
theorem other_del {a : Rc} (hg : Good a) {L : List Rq} (hs : SortQ L) {x y : Int} {k : ByteArray} (hc : hasR a x y = true) {i : Nat} (hi : i < 4) (hne : i ≠ qix a x y) {q : QN} (ho : q.Ok (qtr a i) (L.filter (inQ (qtr a i)))) : q.Ok (qtr a i) ((delQ L x y k).filter (inQ (qtr a i))) := by
  rw [del_part hs]
  have hno : hasQ (L.filter (inQ (qtr a i))) x y k = false := by
    rw [Bool.eq_false_iff]
    intro z
    obtain ⟨s, hs1, hz⟩ := hasQ_mem.1 z
    obtain ⟨e1, e2, _⟩ := (cmpK_zero s x y k).1 hz
    have hin := (List.mem_filter.1 hs1).2
    unfold inQ at hin
    rw [e1, e2] at hin
    have hn : neR (qtr a i) = true := by
      have hq := hin
      unfold hasR at hq
      rw [Bool.and_eq_true, decide_eq_true_iff] at hq
      unfold neR
      exact decide_eq_true (by omega)
    exact hne ((qtr_has hg hc hi).1 ⟨hn, hin⟩)
  rw [delQ_no hno]
  exact ho
theorem delQ_sub {L : List Rq} (hs : SortQ L) (x y : Int) (k : ByteArray) : ∀ s ∈ delQ L x y k, s ∈ L := fun s h => ((delQ_mem hs x y k s).1 h).1
theorem del_end {g n : Nat} {b a : Rc} {q : Nat → QN} {L : List Rq} {x y : Int} {k : ByteArray} {W w2 w3 : World} (h : Tree (.quad g n b q) a L W) (hc : hasR a x y = true) (hs : Since W w2) {p : QN} (hp1 : p.v = (q (qix a x y)).v) (hp2 : p.At w3) (hp3 : p.Sep) (hp4 : p.Ok (qtr a (qix a x y)) (delQ (L.filter (inQ (qtr a (qix a x y)))) x y k))
    (hp5 : Off (fun b => b ∈ (q (qix a x y)).bl) w2 w3) (hp6 : ∀ c ∈ p.bl, c ∈ (q (qix a x y)).bl ∨ w2.heap.size ≤ c) :
    ∃ u : Nat → QN, (QN.quad g n b u).At w3 ∧ (∀ m : Nat, (QN.quad g m b u).At (w3.setCell ⟨g, 4, none⟩ (.int .i64 (m : Nat)))) ∧ (∀ m : Nat, (QN.quad g m b u).Sep) ∧ (∀ i, i < 4 → (u i).Ok (qtr a i) ((delQ L x y k).filter (inQ (qtr a i)))) ∧
      Off (fun c => c ∈ (QN.quad g n b q).bl) W w3 ∧ (∀ m : Nat, ∀ c ∈ (QN.quad g m b u).bl, c ∈ (QN.quad g n b q).bl ∨ W.heap.size ≤ c) := by
  have ht4 := qix_lt a x y
  obtain ⟨z1, z2, z3⟩ := quad_updQ (h.at_.since hs) h.sep ht4 hp2 hp3 hp1 hp5 hp6
  refine ⟨updQ q (qix a x y) p, z1, fun m => size_set z1 (fun i hi => (z2.1 i hi).2), fun m => z2, fun i hi => ?_, (hs.off _).trans (hp5.mono (fun c _ hc => bl_quad.2 (.inr ⟨_, ht4, hc⟩))) (fun _ _ z => z), fun m c hc => (z3 c hc).imp id (fun y => Nat.le_trans hs.size_ y)⟩
  by_cases e : i = qix a x y
  · subst e
    rw [updQ_same, del_part h.sort]
    exact hp4
  · rw [updQ_ne e]
    exact other_del h.good h.sort hc hi e (h.ok.2.2.2.2.2 i hi)
set_option maxRecDepth 100000 in
set_option maxHeartbeats 6400000 in
theorem del_quad {N : Int} (ih : DelC (N - 1)) (hga : GatherC) {g n : Nat} {b a : Rc} {q : Nat → QN} {L : List Rq} {x y : Int} {k : ByteArray} {W : World} (h : Tree (.quad g n b q) a L W) (hr : hasR a x y = true) (hN : a.w + a.h ≤ N) :
    Calls Tryz.prog 52 #[.pointer (some ⟨g, 0, none⟩), .agg #[.int .i64 x, .int .i64 y], .string k] W (DelP (.quad g n b q) a L x y k W) := by
  obtain ⟨w0, hw0⟩ : ∃ w0, w0 = W.alloc (.cells #[.int .i64 x, .int .i64 y] 50) := ⟨_, rfl⟩
  have hs0 : Since W w0 := by rw [hw0]; exact (Since.refl W).alloc _
  have hbx : Whole w0 W.heap.size 50 #[.int .i64 x, .int .i64 y] := by rw [hw0]; exact Whole.new W _ _
  obtain ⟨t, ht⟩ : ∃ t, qix a x y = t := ⟨_, rfl⟩
  have ht4 : t < 4 := by rw [← ht]; exact qix_lt _ _ _
  obtain ⟨k1, k2, k3, k4, k5, k6⟩ := h.ok
  have hpk := fun i (hi : i < 4) => pick_one k6 h.good hr i hi
  rw [ht] at hpk
  have hn0 : (q 0).isNil = false := by rw [(k6 0 (by decide)).nil_iff, qtr0_ne h.good]; rfl
  have hnt := (qtr_has h.good hr ht4).2 ht.symm
  have hnn : (q t).isNil = false := by rw [(k6 t ht4).nil_iff, hnt.1]; rfl
  have hat0 := h.at_.since hs0
  have HQ := Lib.hid (fun W' (hW : Since w0 W') => quarterOf_any ((QN.At.qs (hat0.since hW))) ht4 hpk)
  have HL := Lib.hid (isLeafN_no hat0 hn0)
  have hfl : (L.filter (inQ (qtr a t))).length ≤ L.length := filter_len _
  have HIH := Lib.hid (fun W' (hW : Since w0 W') => ih (q t) (qtr a t) (L.filter (inQ (qtr a t))) x y k W' ⟨(hat0.2 t ht4).since hW, (h.sep.1 t ht4).1, k6 t ht4, qtr_good h.good ht4 hnt.1, h.sort.filter _, fun s hs => (List.mem_filter.1 hs).2, by have := h.len; omega⟩ hnn hnt.2 (by have := qtr_less h.good k5 ht4; omega))
  have hhas : hasQ (L.filter (inQ (qtr a t))) x y k = hasQ L x y k := has_part (p := inQ (qtr a t)) (inQ_cell (qtr a t)) ⟨x, y, k, ⟨#[]⟩, 0⟩ hnt.2 rfl rfl
  obtain ⟨TH, hTH⟩ : ∃ b, hasQ L x y k = b := ⟨_, rfl⟩
  obtain ⟨o, hov, _⟩ := (q t).v_ptr
  have hov2 := hov
  unfold DelP at HIH
  rw [hhas, hTH, hov] at HIH
  rw [hov] at HQ
  have hgF : ¬ g ∈ (q t).bl := (h.sep.1 t ht4).2
  have hbF : ¬ W.heap.size ∈ (q t).bl := fun z => by have := (h.at_.2 t ht4).lt _ z; omega
  have b0 := off_cell hbx (F := fun b => b ∈ (q t).bl) hbF 0 (.int .i64 x) rfl
  have b1 := off_cell hbx (F := fun b => b ∈ (q t).bl) hbF 1 (.int .i64 y) rfl
  have hdl := delQ_len h.sort x y k
  rw [hTH] at hdl
  have HW := Lib.hid hw0
  have HH := Lib.hid h
  have HT := Lib.hid (And.intro ht (And.intro hTH (And.intro hdl (And.intro k1 (And.intro k2 (And.intro k3 (And.intro k4 k5)))))))
  have HA := Lib.hid hat0
  have hsr := Off.refl (fun b => b ∈ (q t).bl) w0
  have hsd := hsr.drew
  have hov2 := Lib.hid hov2
  have hn9 : (n : Int) ≤ 1000 ∧ 4 < (n : Int) := by have := h.len; omega
  clear hw0 hbx ht hpk hnn hat0 hfl hhas hTH hov hnt k1 k2 k3 k4 k5 k6 hn0 h hdl
  go_enter Tryz.func52, Tryz.ntmps52
  go_wp2_with fail
  rw [← HW.out]
  go_wp2_with (go_at_call 51; (with_reducible refine HL.out.mono ?_); rintro e wn ⟨rfl, rfl⟩)
  obtain ⟨wq, hwq⟩ : ∃ wq, wq = w0.drew := ⟨_, rfl⟩
  have hq : Since w0 wq := by rw [hwq]; exact (Since.refl w0).drew
  refine wp_region_held_drew (S := fun W' => Off (fun b => b ∈ (q t).bl) w0 W') (by kernel_rfl) hsd (fun hHeld => ?_)
  rw [← hwq] at hHeld ⊢
  clear hwq
  refine wpAnyH_take (i := 0) (v := ?_) rfl (by kernel_rfl) (by kernel_rfl) (by kernel_rfl) (fun _ _ _ h => h) (Or.inl ⟨by rfl, ?_⟩) (by assumption) ?_
  rotate_left 1
  · (intro W hW; clear hW; go_simp; try with_reducible rfl)
  simp only [Act.put, List.getElem_toArray, List.getElem_cons_zero, List.setIfInBounds_toArray, List.set_cons_zero, List.set_cons_succ]
  refine wpAnyH_take (i := 1) (v := ?_) rfl (by kernel_rfl) (by kernel_rfl) (by kernel_rfl) (fun _ _ _ h => h) (Or.inl ⟨by rfl, ?_⟩) (by assumption) ?_
  rotate_left 1
  · (intro W hW; skip; go_simp; try with_reducible rfl)
  simp only [Act.put, List.getElem_toArray, List.getElem_cons_succ, List.getElem_cons_zero, List.setIfInBounds_toArray, List.set_cons_zero, List.set_cons_succ]
  refine wpAnyH_take (i := 3) (v := ?_) rfl (by kernel_rfl) (by kernel_rfl) (by kernel_rfl) (fun _ _ _ h => h) (Or.inl ⟨by rfl, ?_⟩) (by assumption) ?_
  rotate_left 1
  · (intro W hW; skip; go_simp; try with_reducible rfl)
  simp only [Act.put, List.getElem_toArray, List.getElem_cons_succ, List.getElem_cons_zero, List.setIfInBounds_toArray, List.set_cons_zero, List.set_cons_succ]
  refine wpAnyH_take (i := 4) (v := ?_) rfl (by kernel_rfl) (by kernel_rfl) (by kernel_rfl) (fun _ _ _ h => h) (Or.inl ⟨by rfl, ?_⟩) (by assumption) ?_
  rotate_left 1
  · (intro W hW; clear hW; go_simp; try with_reducible rfl)
  simp only [Act.put, List.getElem_toArray, List.getElem_cons_succ, List.getElem_cons_zero, List.setIfInBounds_toArray, List.set_cons_zero, List.set_cons_succ]
  refine wpAnyH_ready (rs := [2]) (by kernel_rfl) (by simp) ?_
  refine AllReadyH.cons rfl (fun K hK => ?_) AllReadyH.nil
  go_simp
  refine (HQ.out _ hq).mono ?_
  rintro e w2 ⟨rfl, hb2⟩
  have hs2 : Since w0 w2 := Since.trans hq hb2
  go_wp2_with fail
  refine hK.out _ _ (hs2.off _) (fun hHeld => ?_)
  clear hK K
  try simp only [Act.put, List.getElem_toArray, List.getElem_cons_succ, List.getElem_cons_zero, List.setIfInBounds_toArray, List.set_cons_zero, List.set_cons_succ]
  refine wpAnyH_ready (rs := [5]) (by kernel_rfl) (by simp) ?_
  refine AllReadyH.cons rfl (fun K hK => ?_) AllReadyH.nil
  go_simp
  refine (HIH.out _ hs2).mono ?_
  rintro e w3 ⟨rfl, p, hp1, hp2, hp3, hp4, hp5, hp6⟩
  go_wp2_with fail
  refine hK.out _ _ ((hs2.off _).trans hp5 (fun _ _ z => z)) (fun hHeld => ?_)
  clear hK K
  try simp only [Act.put, List.getElem_toArray, List.getElem_cons_succ, List.getElem_cons_zero, List.setIfInBounds_toArray, List.set_cons_zero, List.set_cons_succ]
  refine wpAnyH_take (i := 6) (v := ?_) rfl (by kernel_rfl) (by kernel_rfl) (by kernel_rfl) (fun _ _ _ h => h) (Or.inl ⟨by rfl, ?_⟩) (by assumption) ?_
  rotate_left 1
  · (intro W hW; clear hW; go_simp; try with_reducible rfl)
  simp only [Act.put, List.getElem_toArray, List.getElem_cons_succ, List.getElem_cons_zero, List.setIfInBounds_toArray, List.set_cons_zero, List.set_cons_succ]
  refine wpAnyH_done (by kernel_rfl) ?_ _
  have hg2 : Whole w2 g 71 _ := Since.whole hs2 HA.out.1
  have hg3 := hp5.whole hg2 hgF
  have c4 : w3.cell? ⟨g, 4, none⟩ = some (.int .i64 (n : Nat)) := (hg3.cell 4).trans rfl
  have f4 := hg3.frozen 4
  have e1 : IntKind.i64.wrap ((n : Int) - 1) = (n : Int) - 1 := IntWalk.i64_in _ (by omega)
  have ht := HT.out.1
  subst ht
  have HTH := Lib.hid HT.out.2
  clear HT
  rw [← hov2.out] at hp1
  obtain ⟨u, hu⟩ := del_end HH.out hr (Since.trans hs0 hs2) hp1 hp2 hp3 hp4 hp5 hp6
  have HE := Lib.hid hu
  clear hu hp1 hp2 hp3 hp4 hp5 hp6 hg2 hg3 b0 b1 hq hb2 hHeld
  obtain ⟨l1, l2, l3, l4, l5, l6, l7⟩ := HTH.out
  subst l3
  cases TH
  · have HD := Lib.hid (delQ_no l1)
    have HCR := Lib.hid (crowded_any (n := n) HE.out.1.1 rfl rfl rfl rfl rfl HH.out.good)
    rw [decide_eq_true (show 4 < n ∧ 1 < b.w * b.h by omega)] at HCR
    have HX := Lib.hid (And.intro l1 (And.intro l4 (And.intro l5 l7)))
    clear l1 l2 l4 l5 l6 l7
    go_wp2_with (go_at_call 76; (with_reducible refine HCR.out.mono ?_); rintro e w5 ⟨rfl, hb5⟩; (have hs5 : Since w3 w5 := hb5))
    go_ret
    obtain ⟨u1, u2, u3, u4, u5, u6⟩ := HE.out
    rw [HD.out] at u4
    refine ⟨by rw [HX.out.1]; rfl, .quad g n b u, rfl, u1.since hs5, u3 n, ?_, u5.since hs5, u6 n⟩
    rw [HD.out]
    exact ⟨rfl, HX.out.2.1, HX.out.2.2.1, by have := HX.out.2.1; omega, HX.out.2.2.2, u4⟩
  · rw [if_pos rfl] at l2
    obtain ⟨m, hm⟩ : ∃ m : Nat, m + 1 = n := ⟨n - 1, by omega⟩
    have hml : m = (delQ L x y k).length := by omega
    have em : (n : Int) - 1 = (m : Nat) := by omega
    have e2 : IntKind.i64.wrap ((n : Int) - 1) = (m : Nat) := e1.trans em
    obtain ⟨wv, hwv⟩ : ∃ wv, wv = w3.setCell ⟨g, 4, none⟩ (.int .i64 (m : Nat)) := ⟨_, rfl⟩
    have HV := Lib.hid hwv
    have hAt : (QN.quad g m b u).At wv := by rw [hwv]; exact HE.out.2.1 m
    have hOff : Off (fun c => c ∈ (QN.quad g n b q).bl) W wv := by rw [hwv]; exact HE.out.2.2.2.2.1.setCell (p := ⟨g, 4, none⟩) (.inr (bl_quad.2 (.inl rfl))) _
    have HX := Lib.hid (And.intro l1 (And.intro hml (And.intro l5 (And.intro l7 (And.intro hAt hOff)))))
    clear e1 hwv em
    by_cases hcr : 4 < m
    · have HCR := Lib.hid (crowded_any (n := m) hAt.1 rfl rfl rfl rfl rfl HH.out.good)
      rw [decide_eq_true (show 4 < m ∧ 1 < b.w * b.h by omega)] at HCR
      clear l1 l2 l4 l5 l6 l7 hml hAt hOff
      go_upto_region 5 with fail
      rw [← HV.out]
      go_wp2_with (go_at_call 76; (with_reducible refine HCR.out.mono ?_); rintro e w5 ⟨rfl, hb5⟩; (have hs5 : Since wv w5 := hb5))
      go_ret
      exact ⟨by rw [HX.out.1]; rfl, .quad g m b u, rfl, HX.out.2.2.2.2.1.since hs5, HE.out.2.2.1 m, ⟨rfl, HX.out.2.1, HX.out.2.2.1, by have := HX.out.2.1; omega, HX.out.2.2.2.1, HE.out.2.2.2.1⟩, HX.out.2.2.2.2.2.since hs5, HE.out.2.2.2.2.2 m⟩
    · have HCR := Lib.hid (crowded_any (n := m) hAt.1 rfl rfl rfl rfl rfl HH.out.good)
      rw [decide_eq_false (show ¬ (4 < m ∧ 1 < b.w * b.h) by omega)] at HCR
      have HGA := Lib.hid (fun W' (hW : Since wv W') => hga g m b u (delQ L x y k) W' (HX.out.2.2.2.2.1.since hW) (HE.out.2.2.1 m) HX.out.2.1 HH.out.good (delQ_sort HH.out.sort x y k) (fun s hs => HH.out.inn s (delQ_sub HH.out.sort x y k s hs)) (by have := HX.out.2.1; omega) HE.out.2.2.2.1)
      clear l1 l2 l4 l5 l6 l7 hml hAt hOff
      go_upto_region 5 with fail
      rw [← HV.out]
      go_wp2_with (first | (go_at_call 76; (with_reducible refine HCR.out.mono ?_); rintro e w5 ⟨rfl, hb5⟩; (have hs5 : Since wv w5 := hb5)) | (go_at_call 88; (with_reducible refine (HGA.out _ hs5).mono ?_); rintro e w6 ⟨⟨uu, rfl⟩, p2, q1, q2, q3, q4, q5, q6⟩))
      go_ret
      have hO5 := HX.out.2.2.2.2.2.since hs5
      exact ⟨by rw [HX.out.1]; rfl, p2, q1, q2, q3, q4, hO5.trans q5 (fun c hc z => (HE.out.2.2.2.2.2 m c z).resolve_right (by omega)), fun c hc => (q6 c hc).elim (fun z => HE.out.2.2.2.2.2 m c z) (fun z => .inr (Nat.le_trans hO5.size z))⟩
theorem del_all (hga : GatherC) : ∀ n : Nat, DelC (n : Int)
  | 0 => fun q a L x y k W h hn hr hN => by have := h.good.w1; have := h.good.h1; omega
  | n + 1 => fun q a L x y k W h hn hr hN => by
    have ih : DelC (((n + 1 : Nat) : Int) - 1) := by
      have e : ((n + 1 : Nat) : Int) - 1 = (n : Int) := by omega
      rw [e]; exact del_all hga n
    cases q with
    | nil => cases hn
    | leaf g v b M => exact del_leaf h
    | quad g m b q => exact del_quad ih hga h hr hN
theorem del_any (hga : GatherC) {q : QN} {a : Rc} {L : List Rq} {x y : Int} {k : ByteArray} {W : World} (h : Tree q a L W) (hn : q.isNil = false) (hr : hasR a x y = true) :
    Calls Tryz.prog 52 #[q.v, .agg #[.int .i64 x, .int .i64 y], .string k] W (DelP q a L x y k W) :=
  del_all hga (a.w + a.h).toNat q a L x y k W h hn hr (by have := h.good.w1; have := h.good.h1; omega)
end Go.Proofs.YthfhpejpjiaikaaGreat
