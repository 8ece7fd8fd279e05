/- quad: sorted: the records inside a rectangle, by Compare; gather. -/
import Derived.Test.YteohkmhndomhgaaK06
import Derived.Test.YteohkmhndomhgaaK27
import Derived.Test.YteohkmhndomhgaaK30
import Derived.Test.YteohkmhndomhgaaK33
import Derived.Test.YteohkmhndomhgaaSortLay
namespace Go.Proofs.Yteohkmhndomhgaa
open Go.RowKit
set_option linter.unusedVariables false
set_option linter.unusedSimpArgs false
theorem cmpLaysQ (blk off size : Nat) (w : World) : CmpLays Try.prog 51 #[] encQ 5 cmpQ blk off size w := fun _ _ _ _ x y => qcompare_grew x y _
/-- slices.SortFunc by Compare. -/
theorem sortRow_any {W : World} {base : Nat} {v : Value} {l M : List Rq} (h : RowE encQ 5 W base 42 v l) (hM : SortQ M) (hp : l.Perm M) (hl : l.length ≤ 100000) :
    Calls Try.prog 70 #[v, .func (.func 51) #[] #[]] W fun e W' => e = .returned (.tuple #[]) ∧ RowE encQ 5 W' base 42 v M ∧ Off (fun b => v.ownBlock = some b) W W' := by
  have heg : ∀ args w, (callFunc 51 args).run Try.prog w = .ok (.enter 51 args) w := enters_of Try.func51 (by kernel_rfl) rfl
  rcases RowE.cur h with ⟨rfl, rfl⟩ | ⟨g, cap, S, rfl, _⟩
  · have hM0 : M = [] := List.Perm.nil_eq hp |>.symm
    subst hM0
    have hc := AnyF.slices_SortFunc_none (P := Try.prog) (ρ := Try.sortRec_ren) { Try.sortRec with } none 0 (.func (.func 51) #[] #[]) W
    change Calls Try.prog 70 _ _ _ at hc
    exact hc.mono fun e w' ⟨h1, h2⟩ => ⟨h1, h2 ▸ h, h2 ▸ Off.refl _ _⟩
  · obtain ⟨hH, hg⟩ := row_holds h
    have hc := AnyQ.slices_SortFunc Try.sortRec 5 Try.isAgg42 Try.sizeOf42 encQ encQ_len encQ_one cmpQ swoQ 51 #[] g 0 cap l.toArray W heg (cmpLaysQ _ _ _ _) hH hg (by simp; omega)
    change Calls Try.prog 70 _ _ _ at hc
    refine hc.mono fun e w' ⟨h1, d', n, os, h2, h3, h4⟩ => ⟨h1, ?_⟩
    have hs : d'.size = l.length := by rw [h2.1]; simp
    have he := sorted_is h2 h3 hM (by simpa using hp)
    obtain ⟨k1, k2⟩ := row_sorted (n := n) (os := os) h hs
    rw [← h4] at k1 k2
    rw [he, hp.length_eq] at k1
    refine ⟨?_, k2.mono (fun b _ z => by rw [z]; rfl)⟩
    rw [hp.length_eq]
    exact k1
set_option maxRecDepth 100000 in
set_option maxHeartbeats 1600000 in
/-- slices.SortedFunc by Compare over an iterator. -/
theorem sortedFunc_any {gf : Nat} {lb : Array Value} {xs M : List Rq} {G : Nat → Prop} {w : World} (hseq : ∀ W, Since w W → SeqO gf lb encI xs G W) (hG : ∀ b, G b → b < w.heap.size) (hen : ∀ args w, (callFunc gf args).run Try.prog w = .ok (.enter gf args) w) (hlen : xs.length ≤ 2048) (hM : SortQ M) (hp : xs.Perm M) :
    Calls Try.prog 49 #[.func (.func gf) #[] lb, .func (.func 51) #[] #[]] w fun e W' => ∃ a, e = .returned a ∧ RowE encQ 5 W' w.heap.size 42 a M ∧ Below w.heap.size w W' := by
  have HC := Lib.hid (collectRecs_any hseq hG hen hlen)
  have HS := Lib.hid (fun (W : World) (v : Value) (h : RowE encQ 5 W w.heap.size 42 v xs) => sortRow_any h hM hp (by omega))
  clear hseq hG hen
  go_enter Try.func49, Try.ntmps49
  go_wp2_with (first
    | (go_at_call 69; (with_reducible refine HC.out.mono ?_); rintro e w1 ⟨a, rfl, h1, h2⟩; obtain ⟨va, vc, rfl⟩ := RowE.shp h1)
    | (go_at_call 70; (with_reducible refine (HS.out _ _ h1).mono ?_); rintro e w2 ⟨rfl, h3, h4⟩))
  go_ret
  exact ⟨_, rfl, h3, h2.trans (h4.below h2.size (fun b z => (h1.own b z).1))⟩
set_option maxRecDepth 100000 in
set_option maxHeartbeats 1600000 in
/-- sorted: at a node in memory. -/
theorem sorted_any {q : QN} {r : Rc} {w : World} {M : List Rq} (hh : q.high ≤ 190000) (hni : q.isNil = false) (hA : q.At w) (hown : ∀ x ∈ q.visit r, x.2.own.length ≤ 1000) (hlen : M.length ≤ 2048) (hM : SortQ M) (hp : (q.inner r).Perm M) :
    Calls Try.prog 27 #[q.v, .agg #[.int .i64 r.x, .int .i64 r.y, .int .i64 r.w, .int .i64 r.h]] w fun e W' => ∃ a, e = .returned a ∧ RowE encQ 5 W' w.heap.size 42 a M ∧ Below w.heap.size w W' := by
  obtain ⟨qo, hqo, -⟩ := q.v_ptr
  have hlt := hA.lt
  have HS := Lib.hid (fun (W : World) (NB RB : Nat) (hW : Since w W) (hn : Whole W NB 65 #[q.v]) (hr : Whole W RB 56 #[.int .i64 r.x, .int .i64 r.y, .int .i64 r.w, .int .i64 r.h]) =>
    sortedFunc_any (gf := 71) (lb := #[.pointer (some ⟨NB, 0, none⟩), .pointer (some ⟨RB, 0, none⟩)]) (w := W) (G := nodG q NB RB) (fun W1 h1 => inside_seq hh hni (hA.since (hW.trans h1)) hown (Since.whole h1 hn) (Since.whole h1 hr))
      (fun b z => by
        rcases z with z | rfl | rfl
        · exact Nat.lt_of_lt_of_le (hlt b z) hW.size_
        · exact hn.lt
        · exact hr.lt) (enters_of Try.func71 (by kernel_rfl) rfl) (by rw [hp.length_eq]; exact hlen) hM hp)
  obtain ⟨w0, hw0⟩ : ∃ w0, w0 = w.alloc (.cells #[.int .i64 r.x, .int .i64 r.y, .int .i64 r.w, .int .i64 r.h] 56) := ⟨_, rfl⟩
  have hs0 : Since w w0 := by rw [hw0]; exact (Since.refl w).alloc _
  have hbx : Whole w0 w.heap.size 56 #[.int .i64 r.x, .int .i64 r.y, .int .i64 r.w, .int .i64 r.h] := by rw [hw0]; exact Whole.new w _ _
  have b0 := hbx.cell 0
  have b1 := hbx.cell 1
  have b2 := hbx.cell 2
  have b3 := hbx.cell 3
  rw [hqo] at HS ⊢
  have HW := Lib.hid hw0
  clear hw0 hbx hown hA hlt hp
  go_enter Try.func27, Try.ntmps27
  go_upto_region 1 with fail
  rw [← HW.out]
  go_wp2_with (first
    | (go_at_call 50; (with_reducible refine (inside_any _ _ rfl r _).mono ?_); rintro e w2 ⟨rfl, hw2⟩; (have hs2 : Since w w2 := by rw [hw2]; exact (hs0.alloc _).alloc _); (have hn2 : Whole w2 w0.heap.size 65 #[.pointer qo] := by rw [hw2]; exact (Whole.new w0 _ _).alloc _); (have hr2 : Whole w2 (w0.heap.size + 1) 56 #[.int .i64 r.x, .int .i64 r.y, .int .i64 r.w, .int .i64 r.h] := by rw [hw2]; exact (Whole.new (w0.alloc _) _ _).at_ (by simp)); clear hw2)
    | (go_at_call 49; (with_reducible refine (HS.out _ _ _ hs2 hn2 hr2).mono ?_); rintro e w3 ⟨a, rfl, h1, h2⟩))
  go_ret
  exact ⟨a, rfl, h1.mono hs2.size_, hs2.trans h2⟩
theorem Tree.own {q : QN} {a : Rc} {L : List Rq} {W : World} (h : Tree q a L W) (r : Rc) : ∀ x ∈ q.visit r, x.2.own.length ≤ 1000 := visit_own r 1000 q a L h.ok h.len
theorem tree_sorted {q : QN} {a : Rc} {L : List Rq} {w : World} (h : Tree q a L w) (hni : q.isNil = false) (r : Rc) :
    Calls Try.prog 27 #[q.v, .agg #[.int .i64 r.x, .int .i64 r.y, .int .i64 r.w, .int .i64 r.h]] w fun e W' => ∃ v, e = .returned v ∧ RowE encQ 5 W' w.heap.size 42 v (L.filter (inQ r)) ∧ Below w.heap.size w W' :=
  sorted_any h.high hni h.at_ (h.own r) (Nat.le_trans (List.length_filter_le _ _) (Nat.le_trans h.len (by decide))) (h.sort.filter _) (inner_perm r q a L h.ok (fun _ => h.good) h.inn)
theorem Good.ne' {a : Rc} (h : Good a) : neR a = true := by
  unfold neR
  have := h.w1; have := h.h1
  exact decide_eq_true (by omega)
theorem all_in {a : Rc} {L : List Rq} (h : ∀ s ∈ L, inQ a s = true) : L.filter (inQ a) = L := List.filter_eq_self.2 h
set_option maxRecDepth 100000 in
set_option maxHeartbeats 1600000 in
/-- gather. -/
theorem gather_any : GatherC := by
  intro g n a q L W hA hS hn hg hs hL hl hok
  have hW : Whole W g 68 (ncells a n (.slice none 0 0) fun i => (q i).v) := hA.1
  have hhi : (QN.quad g n a q).high ≤ 190000 := by
    have hi : ∀ i, i < 4 → ((q i).high : Int) ≤ 131072 := fun i hi => by
      have h1 := ok_high (q i) (qtr a i) _ (hok i hi) (fun hn => qtr_good hg hi hn)
      cases hne : neR (qtr a i) with
      | true =>
        have h2 := qtr_good hg hi hne
        have := h2.x0; have := h2.y0; have := h2.x1; have := h2.y1
        omega
      | false =>
        have h3 := (hok i hi).nil_iff
        rw [hne] at h3
        cases hq : q i with
        | nil => simp [QN.high]
        | leaf _ _ _ _ => rw [hq] at h3; cases h3
        | quad _ _ _ _ => rw [hq] at h3; cases h3
    have a0 := hi 0 (by decide); have a1 := hi 1 (by decide); have a2 := hi 2 (by decide); have a3 := hi 3 (by decide)
    simp only [QN.high]
    omega
  have hperm := inner_quad (g := g) (n := n) a hg hL (fun i hi => inner_perm a (q i) (qtr a i) _ (hok i hi) (fun hn => qtr_good hg hi hn) filt_sub)
  rw [all_in hL] at hperm
  have hown : ∀ x ∈ (QN.quad g n a q).visit a, x.2.own.length ≤ 1000 := by
    intro x hx
    simp only [QN.visit] at hx
    split at hx
    · rcases List.mem_cons.1 hx with rfl | hx
      · exact Nat.zero_le _
      · obtain ⟨y, hy, rfl⟩ := List.mem_map.1 hx
        simp only [List.mem_append] at hy
        have key : ∀ i, i < 4 → y ∈ (q i).visit a → y.2.own.length ≤ 1000 := fun i hi hm => visit_own a 1000 (q i) (qtr a i) _ (hok i hi) (Nat.le_trans (List.length_filter_le _ _) (by omega)) y hm
        rcases hy with ((hy | hy) | hy) | hy
        · exact key 0 (by decide) hy
        · exact key 1 (by decide) hy
        · exact key 2 (by decide) hy
        · exact key 3 (by decide) hy
    · cases hx
  have hso := sorted_any (r := a) hhi rfl hA hown (by omega) hs hperm
  simp only [QN.v] at hso
  have HSO := Lib.hid hso
  have HX := Lib.hid (And.intro hg (And.intro hL (And.intro hl hn)))
  have hgl := hW.lt
  have c0 := hW.cell 0
  have c1 := hW.cell 1
  have c2 := hW.cell 2
  have c3 := hW.cell 3
  have HW := Lib.hid hW
  clear hso hperm hown hok hA hS hL hW
  show Calls Try.prog 53 #[.pointer (some ⟨g, 0, none⟩)] W _
  dsimp only [ncells] at c0 c1 c2 c3
  replace c0 : W.cell? ⟨g, 0, none⟩ = some (.int .i64 a.x) := c0
  replace c1 : W.cell? ⟨g, 1, none⟩ = some (.int .i64 a.y) := c1
  replace c2 : W.cell? ⟨g, 2, none⟩ = some (.int .i64 a.w) := c2
  replace c3 : W.cell? ⟨g, 3, none⟩ = some (.int .i64 a.h) := c3
  go_enter Try.func53, Try.ntmps53
  go_wp2_with (go_at_call 27; (with_reducible refine HSO.out.mono ?_); rintro e w1 ⟨v, rfl, h1, h2⟩; obtain ⟨va, vc, rfl⟩ := RowE.shp h1; (have hw1 := Since.whole (show Since W w1 from h2) HW.out); (have z5 : w1.cell? ⟨g, 5, none⟩ = some (.slice none 0 0) := (hw1.cell 5).trans rfl); (have y5 := hw1.frozen 5); (have z6 : w1.cell? ⟨g, 6, none⟩ = some (q 0).v := (hw1.cell 6).trans rfl); (have y6 := hw1.frozen 6); (have z7 : w1.cell? ⟨g, 7, none⟩ = some (q 1).v := (hw1.cell 7).trans rfl); (have y7 := hw1.frozen 7); (have z8 : w1.cell? ⟨g, 8, none⟩ = some (q 2).v := (hw1.cell 8).trans rfl); (have y8 := hw1.frozen 8); (have z9 : w1.cell? ⟨g, 9, none⟩ = some (q 3).v := (hw1.cell 9).trans rfl); (have y9 := hw1.frozen 9))
  obtain ⟨hg, hL, hl, hn⟩ := HX.out
  subst hn
  have hs2 : Since W w1 := h2
  have hown : ∀ c, (Value.slice va L.length vc).ownBlock = some c → W.heap.size ≤ c := fun c hc => (h1.own c hc).1
  have hw5 := ((((hw1.set_ 5 (.slice va L.length vc)).set_ 6 (.pointer none)).set_ 7 (.pointer none)).set_ 8 (.pointer none)).set_ 9 (.pointer none)
  have hr5 := ((((h1.far (p := ⟨g, 5, none⟩) hgl (.slice va L.length vc)).far (p := ⟨g, 6, none⟩) hgl (.pointer none)).far (p := ⟨g, 7, none⟩) hgl (.pointer none)).far (p := ⟨g, 8, none⟩) hgl (.pointer none)).far (p := ⟨g, 9, none⟩) hgl (.pointer none)
  have hg5 : g ∈ (QN.quad g L.length a q).bl := bl_quad.2 (.inl rfl)
  go_end0
  exact ⟨⟨_, rfl⟩, .leaf g (.slice va L.length vc) a L, rfl, ⟨hw5, hr5.mono (Nat.zero_le _)⟩, fun z => by have := hown g z; omega, ⟨rfl, rfl, hg.ne', fun z => by omega⟩,
    (((((hs2.off _).setCell (p := ⟨g, 5, none⟩) (.inr hg5) _).setCell (p := ⟨g, 6, none⟩) (.inr hg5) _).setCell (p := ⟨g, 7, none⟩) (.inr hg5) _).setCell (p := ⟨g, 8, none⟩) (.inr hg5) _).setCell (p := ⟨g, 9, none⟩) (.inr hg5) _,
    fun c hc => by
      rcases List.mem_cons.1 hc with rfl | hc
      · exact .inl hg5
      · exact .inr (hown c (ownL_mem.1 hc))⟩
end Go.Proofs.Yteohkmhndomhgaa
