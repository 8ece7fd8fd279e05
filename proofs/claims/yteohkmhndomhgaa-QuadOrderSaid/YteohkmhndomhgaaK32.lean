/- quad's del at a leaf. -/
import Derived.Test.YteohkmhndomhgaaK22
import Derived.Test.YteohkmhndomhgaaK31
namespace Go.Proofs.Yteohkmhndomhgaa
open Go.RowKit
set_option linter.unusedVariables false
set_option linter.unusedSimpArgs false
def DelP (q : QN) (a : Rc) (L : List Rq) (x y : Int) (k : ByteArray) (W : World) (e : Ending) (W' : World) : Prop :=
  e = .returned (.bool (hasQ L x y k)) ∧ ∃ p : QN, p.v = q.v ∧ p.At W' ∧ p.Sep ∧ p.Ok a (delQ L x y k) ∧ Off (fun b => b ∈ q.bl) W W' ∧ ∀ b ∈ p.bl, b ∈ q.bl ∨ W.heap.size ≤ b
/-- The leaf behind a Delete. -/
theorem leaf_del {g : Nat} {v v' : Value} {a : Rc} {M M2 : List Rq} {W w2 : World} (h : (QN.leaf g v a M).At W) (hsep : v.ownBlock ≠ some g) (hs : Off (fun c => v.ownBlock = some c) W w2) (hrow : RowE encQ 5 w2 0 42 v' M2) (hob : v'.ownBlock = v.ownBlock) (hl : M2.length + 1 = M.length) :
    (QN.leaf g v' a M2).At ((w2.setCell ⟨g, 5, none⟩ v').setCell ⟨g, 4, none⟩ (.int .i64 ((M.length : Int) - 1))) ∧ v'.ownBlock ≠ some g ∧
      Off (fun c => c ∈ (QN.leaf g v a M).bl) W ((w2.setCell ⟨g, 5, none⟩ v').setCell ⟨g, 4, none⟩ (.int .i64 ((M.length : Int) - 1))) ∧ (∀ c ∈ (QN.leaf g v' a M2).bl, c ∈ (QN.leaf g v a M).bl) := by
  have hne : v'.ownBlock ≠ some g := by rw [hob]; exact hsep
  have e1 : (M.length : Int) - 1 = ((M2.length : Nat) : Int) := by omega
  refine ⟨⟨?_, hrow.keepQ (fun b hb => ?_)⟩, hne, ?_, fun c hc => ?_⟩
  · rw [e1]
    exact Whole.set_ (Whole.set_ (hs.whole h.1 hsep) 5 v') 4 (.int .i64 ((M2.length : Nat) : Int))
  · have e : b ≠ g := fun e => hne (by rw [hb, e])
    exact (Below.heap_setCell _ ⟨g, 4, none⟩ _ b e).trans (Below.heap_setCell w2 ⟨g, 5, none⟩ _ b e)
  · have h1 : Off (fun c => c ∈ (QN.leaf g v a M).bl) W w2 := hs.mono (fun c _ hc => List.mem_cons_of_mem _ (ownL_mem.2 hc))
    exact (h1.setCell (p := ⟨g, 5, none⟩) (.inr List.mem_cons_self) _).setCell (p := ⟨g, 4, none⟩) (.inr List.mem_cons_self) _
  · rcases List.mem_cons.1 hc with rfl | hc
    · exact List.mem_cons_self
    · have hc := ownL_mem.1 hc
      rw [hob] at hc
      exact List.mem_cons_of_mem _ (ownL_mem.2 hc)
theorem delQ_no {L : List Rq} {x y : Int} {k : ByteArray} (h : hasQ L x y k = false) : delQ L x y k = L := by
  unfold delQ; rw [if_neg (by rw [h]; exact Bool.false_ne_true)]
theorem delQ_yes {L : List Rq} {x y : Int} {k : ByteArray} (h : hasQ L x y k = true) : delQ L x y k = L.take (posQ L x y k) ++ L.drop (posQ L x y k + 1) := by
  unfold delQ; rw [if_pos h]
set_option maxRecDepth 100000 in
set_option maxHeartbeats 6400000 in
theorem del_leaf {g : Nat} {v : Value} {b a : Rc} {M L : List Rq} {x y : Int} {k : ByteArray} {W : World} (h : Tree (.leaf g v b M) a L W) :
    Calls Try.prog 30 #[.pointer (some ⟨g, 0, none⟩), .agg #[.int .i64 x, .int .i64 y], .string k] W (DelP (.leaf g v b M) a L x y k W) := by
  obtain ⟨w0, hw0⟩ : ∃ w0, w0 = W.alloc (.cells #[.int .i64 x, .int .i64 y] 40) := ⟨_, rfl⟩
  have hs0 : Since W w0 := by rw [hw0]; exact (Since.refl W).alloc _
  have hbx : Whole w0 W.heap.size 40 #[.int .i64 x, .int .i64 y] := by rw [hw0]; exact Whole.new W _ _
  obtain ⟨h1, h2, h3, h4⟩ := h.ok
  subst h1
  subst h2
  have hat0 := h.at_.since hs0
  have HL := Lib.hid (isLeafN_yes hat0)
  have HF := Lib.hid (fun W' (hW : Since w0 W') => nfind_any (hat0.since hW) h.sort (by have := h.len; omega) x y k)
  obtain ⟨P, hP⟩ : ∃ P, posQ M x y k = P := ⟨_, rfl⟩
  have hv0 : Whole w0 g 68 (ncells b M.length v noQ) := hat0.1
  have c0 : ∀ W', Since w0 W' → W'.cell? ⟨W.heap.size, 0, none⟩ = some (.int .i64 x) := box_cell hbx 0 _ rfl
  have c1 : ∀ W', Since w0 W' → W'.cell? ⟨W.heap.size, 1, none⟩ = some (.int .i64 y) := box_cell hbx 1 _ rfl
  have HW := Lib.hid hw0
  have hsr := Since.refl w0
  have hln := h.len
  cases hh : hasQ M x y k with
  | false =>
    rw [hP, hh] at HF
    have HR := Lib.hid (And.intro hat0 (And.intro h.sep (And.intro (show (QN.leaf g v b M).Ok b (delQ M x y k) by rw [delQ_no hh]; exact h.ok) hh)))
    clear hw0 hbx hat0 hP hv0 h h3 h4 hh
    go_enter Try.func30, Try.ntmps30
    go_wp2_with fail
    rw [← HW.out]
    go_wp2_with (first | (go_at_call 33; (with_reducible refine HL.out.mono ?_); rintro e wn ⟨rfl, rfl⟩) | (go_at_call 29; (with_reducible refine (HF.out _ hsr).mono ?_); rintro e w1 ⟨rfl, hb1⟩; (have hs1 : Since w0 w1 := hb1)))
    go_ret
    exact ⟨by rw [HR.out.2.2.2]; rfl, .leaf g v b M, rfl, HR.out.1.since hs1, HR.out.2.1, HR.out.2.2.1, (hs0.trans hs1).off _, fun c hc => .inl hc⟩
  | true =>
    obtain ⟨hp, hz⟩ := (hasQ_iff h.sort).1 hh
    rw [hP] at hp
    rw [hP, hh] at HF
    have hde := delQ_yes hh
    rw [hP] at hde
    obtain ⟨M2, hM2⟩ : ∃ M2, delQ M x y k = M2 := ⟨_, rfl⟩
    have hl2 : M2.length + 1 = M.length := by rw [← hM2, delQ_len h.sort, if_pos hh]; omega
    rw [hM2] at hde
    have HD := Lib.hid (fun W' (hW : Since w0 W') => delete_any (W := W') (base := 0) (RowE.since hat0.2 hW) hp (by omega))
    rw [← hde] at HD
    have HV := Lib.hid (fun W' (hW : Since w0 W') => Since.whole hW hv0)
    have b5 : ∀ W', Since w0 W' → W'.cell? ⟨g, 5, none⟩ = some v := fun W' hW => ((Since.whole hW hv0).cell 5).trans rfl
    have ep : IntKind.i64.wrap ((P : Int) + 1) = (P : Int) + 1 := IntWalk.i64_in _ (by omega)
    have em : IntKind.i64.wrap ((M.length : Int) - 1) = (M.length : Int) - 1 := IntWalk.i64_in _ (by omega)
    have HSEP := Lib.hid (show v.ownBlock ≠ some g from h.sep)
    have HR := Lib.hid (And.intro hat0 (And.intro hM2 (And.intro hl2 (And.intro hh (show neR b = true ∧ (4 < M.length → b.w * b.h ≤ 1) from ⟨h3, h4⟩)))))
    obtain ⟨va, vc, rfl⟩ := RowE.shp hat0.2
    clear hw0 hbx hat0 hP hv0 h h3 h4 hh hz hde hM2 hl2
    go_enter Try.func30, Try.ntmps30
    go_wp2_with fail
    rw [← HW.out]
    go_wp2_with (first | (go_at_call 33; (with_reducible refine HL.out.mono ?_); rintro e wn ⟨rfl, rfl⟩) | (go_at_call 29; (with_reducible refine (HF.out _ hsr).mono ?_); rintro e w1 ⟨rfl, hb1⟩; (have hs1 : Since w0 w1 := hb1)) | (go_at_call 54; (with_reducible refine (HD.out _ hs1).mono ?_); rintro e w2 ⟨v2, rfl, hrow2, hoff2, hob2⟩; obtain ⟨va2, vc2, rfl⟩ := RowE.shp hrow2; (have z5 := (hoff2.whole (HV.out _ hs1) HSEP.out).cell 5); (have y5 := (hoff2.whole (HV.out _ hs1) HSEP.out).frozen 5); (have z4 : w2.cell? ⟨g, 4, none⟩ = some (.int .i64 (M.length : Nat)) := ((hoff2.whole (HV.out _ hs1) HSEP.out).cell 4).trans rfl); (have y4 := (hoff2.whole (HV.out _ hs1) HSEP.out).frozen 4)))
    go_ret
    obtain ⟨q1, q2, q3, q4⟩ := leaf_del (HR.out.1.since hs1) HSEP.out hoff2 hrow2 hob2 HR.out.2.2.1
    exact ⟨by rw [HR.out.2.2.2.1]; rfl, .leaf g (.slice va2 M2.length vc2) b M2, rfl, q1, q2, ⟨rfl, HR.out.2.1.symm, HR.out.2.2.2.2.1, fun z => HR.out.2.2.2.2.2 (by rw [HR.out.2.1] at z; have := HR.out.2.2.1; omega)⟩, ((hs0.trans hs1).off _).trans q3 (fun _ _ z => z), fun c hc => .inl (q4 c hc)⟩
end Go.Proofs.Yteohkmhndomhgaa
