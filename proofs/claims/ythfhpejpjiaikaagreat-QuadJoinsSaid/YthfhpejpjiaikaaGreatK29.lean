/- A list that grows in a box while an iterator hands out its elements. Nothing of one program. quad: what an iterator over records hands out, collected: slices.AppendSeq, Collect. quad: sorted: the records inside a rectangle, by Compare; gather. -/
import Derived.Test.YthfhpejpjiaikaaGreatK07
import Derived.Test.YthfhpejpjiaikaaGreatK19
import Derived.Test.YthfhpejpjiaikaaGreatK20
import Derived.Test.YthfhpejpjiaikaaGreatK24
import Derived.Test.YthfhpejpjiaikaaGreatK28
import Derived.Test.YthfhpejpjiaikaaGreatSortLay
namespace Go.Proofs.YthfhpejpjiaikaaGreat
open Go.RowKit Go.Shelf
set_option linter.unusedVariables false
theorem RowE.keep {α : Type} {enc : α → List Value} {n : Nat} {W W' : World} {base : Nat} {T : TypeId} {v : Value} {l : List α} (h : RowE enc n W base T v l) (hs : W.heap.size ≤ W'.heap.size) (hF : ∀ a, v.ownBlock = some a → W'.heap[a]? = W.heap[a]?) : RowE enc n W' base T v l := by
  rcases h with ⟨h1, h2⟩
  refine ⟨h1, ?_⟩
  rcases h2 with h2 | ⟨g, cap, cur, rfl, hg, hh, rest⟩
  · exact .inl h2
  · exact .inr ⟨g, cap, cur, rfl, hg, (hF g rfl).trans hh, rest⟩
theorem RowE.not_deferred {α : Type} {enc : α → List Value} {n : Nat} {W : World} {base D : Nat} {T : TypeId} {v : Value} {l : List α} {o : Option (List Deferred)} (h : RowE enc n W base T v l) (hd : W.heap[D]? = some (.deferred o)) : v.ownBlock ≠ some D := by
  rcases h with ⟨h1, h2⟩
  rcases h2 with h2 | ⟨g, cap, cur, rfl, hg, hh, rest⟩
  · intro z
    rw [h2.1] at z
    cases z
  · intro z
    injection z with z
    subst z
    rw [hd] at hh
    cases hh
/-- The list so far, in its box. -/
def undI {α β : Type} (enc : α → List Value) (n : Nat) (KB base : Nat) (S T : TypeId) (f : List β → List α) (pre : List β) (F : Nat → Prop) (W : World) : Prop :=
  ∃ v, (∀ b, F b ↔ (b = KB ∨ v.ownBlock = some b)) ∧ Whole W KB S #[v] ∧ RowE enc n W base T v (f pre)
theorem undI_kept {α β : Type} {enc : α → List Value} {n KB base : Nat} {S T : TypeId} {f : List β → List α} : Kept (undI enc n KB base S T f) := by
  rintro pre F W W' ⟨v, h1, h2, h3⟩ hs hb
  exact ⟨v, h1, (hb KB ((h1 KB).2 (.inl rfl))).trans h2, h3.keep hs (fun a ha => hb a ((h1 a).2 (.inr ha)))⟩
theorem undI_low {α β : Type} {enc : α → List Value} {n KB base : Nat} {S T : TypeId} {f : List β → List α} : Low (undI enc n KB base S T f) := by
  rintro pre F W ⟨v, h1, h2, h3⟩ b hb
  rcases (h1 b).1 hb with rfl | z
  · exact h2.lt
  · exact (h3.own b z).2
theorem no_kept {β : Type} : Kept (fun (_ : List β) _ _ => False) := fun _ _ _ _ h _ _ => h.elim
theorem no_low {β : Type} : Low (fun (_ : List β) _ _ => False) := fun _ _ _ h _ _ => h.elim
end Go.Proofs.YthfhpejpjiaikaaGreat
namespace Go.Proofs.YthfhpejpjiaikaaGreat
open Go.RowKit Go.Shelf
attribute [local go_sem] Oper.semAt_some
set_option linter.unusedVariables false
set_option linter.unusedSimpArgs false
set_option maxRecDepth 100000 in
set_option maxHeartbeats 3200000 in
theorem appendRecs_any {gf : Nat} {lb : Array Value} {xs : List Rq} {G : Nat → Prop} {w : World} (hseq : ∀ W, Since w W → SeqO gf lb encI xs G W) (hG : ∀ b, G b → b < w.heap.size) (hen : ∀ args w, (callFunc gf args).run Tryz.prog w = .ok (.enter gf args) w) (hlen : xs.length ≤ 2048) :
    Calls Tryz.prog 118 #[.slice none 0 0, .func (.func gf) #[] lb] w fun e W' => ∃ a, e = .returned a ∧ RowE encQ 5 W' w.heap.size 55 a xs ∧ Below w.heap.size w W' := by
  obtain ⟨wl, hwl⟩ : ∃ wl, wl = w.alloc (.cells #[.slice none 0 0] 31) := ⟨_, rfl⟩
  have hsl : Since w wl := by rw [hwl]; exact (Since.refl w).alloc _
  have whK : Whole wl w.heap.size 31 #[.slice none 0 0] := by rw [hwl]; exact Whole.new w _ _
  have HSZ := Lib.hid (show wl.heap.size = w.heap.size + 1 by rw [hwl]; simp)
  have HW := Lib.hid hwl
  clear hwl
  refine (callsIn_wide (n := 0)).1 ?_
  refine callsIn_of_wp_marks Tryz.func118 rfl trivial ?_ rfl
  refine wpIn_wide.2 ?_
  simp only [Tryz.ntmps118, List.size_toArray, List.length_cons, List.length_nil, Nat.reduceAdd, Nat.reduceSub, Array.replicate_succ, Array.replicate_zero, List.push_toArray, List.append_toArray, List.nil_append, List.cons_append]
  go_wp2_with fail
  rw [← HW.out]
  have hseq := hseq wl hsl
  refine (wpIn_wide (n := 0)).1 ?_
  refine range_wp (gf := gf) (lb := lb) rfl hen hseq ?hG (fun _ => rfl)
    (undI encQ 5 w.heap.size wl.heap.size 31 55 (fun pre => pre)) (fun _ _ _ _ => False) undI_kept undI_low (fun _ => no_kept) (fun _ => no_low)
    (fun b => b = w.heap.size) ?hF0 ?h0 ?round ?done ?stop
  case hG => exact fun b z => by have := hG b z; have := HSZ.out; omega
  case hF0 => rintro b rfl z; have := hG _ z; omega
  case h0 => exact ⟨.slice none 0 0, fun b => by simp [Value.ownBlock], whK, RowE.nil _ _ _⟩
  case stop =>
    rintro D c pre W _ _ ⟨F', h, _⟩ _
    exact h.elim
  case done =>
    rintro D W hD ⟨F', ⟨v, hF', hk, hr⟩, ho, hf, _⟩ hdd
    have x1 := hk.cell 0
    have hDD := Lib.hid hD
    have hoo := Lib.hid ho
    clear hD ho hf
    go_wp2
    have hszl := HSZ.out
    have hD := hDD.out
    have hb0 : Since w W := Below.trans hsl (hoo.out.below (by omega) (fun b z => by have z' : b = w.heap.size := z; omega))
    have hne : ∀ a, v.ownBlock = some a → a ≠ D := fun a ha z => hr.not_deferred (z ▸ hdd) ha
    refine ⟨by simp, .inl ⟨_, _, rfl, run_takeDeferred hdd, ?_⟩⟩
    refine ⟨_, by simp [results, Tryz.results118, go_sem], ⟨v, rfl, ?_, ?_⟩⟩
    · exact (hr.keep (by simp) (fun a ha => World.putObj_heap_other (hne a ha))).mono (by omega)
    · exact Below.trans hb0 (belowK_b (w := w) (Nat.le_refl _) _ D _ _ (by omega) hdd rfl rfl)
  case round =>
    rintro l pre s F W hpre ⟨v, hF, hk, hr⟩ hoff hwl hl hFl
    have hszW := hoff.size
    have hkl := hk.lt
    have hKl : w.heap.size ≠ l := fun z => hFl ((hF l).2 (.inl z.symm))
    have hOl : ∀ a, v.ownBlock = some a → a ≠ l := fun a ha z => hFl ((hF l).2 (.inr (z ▸ ha)))
    have hOwn : ∀ a, v.ownBlock = some a → wl.heap.size ≤ a ∧ a < W.heap.size := fun a ha => hr.own a ha
    have hlp : pre.length ≤ 2048 := by have := hpre.length_le; simp at this; omega
    have hFK : F w.heap.size := (hF _).2 (.inl rfl)
    have hFv : ∀ b, v.ownBlock = some b → F b := fun b z => (hF b).2 (.inr z)
    clear hseq hpre whK
    simp only [encI, Rq.v]
    gi_wp2
    refine ⟨(Since.refl W).alloc _, fun W2 hz2 ho2 => ?_⟩
    have hz2' : W2.heap.size = W.heap.size + 1 := by rw [hz2]; try simp
    have ha : Whole (W.alloc (.cells #[.int .i64 s.x, .int .i64 s.y, .string s.key, .string s.val, .int .i64 s.ver] 55)) W.heap.size 55 #[.int .i64 s.x, .int .i64 s.y, .string s.key, .string s.val, .int .i64 s.ver] := Whole.new W _ _
    have ha2 := ho2.whole ha (fun z => by have z' : W.heap.size = l := z; omega)
    have hk2 := ho2.whole (hk.alloc (.cells #[.int .i64 s.x, .int .i64 s.y, .string s.key, .string s.val, .int .i64 s.ver] 55)) hKl
    have hr2 : RowE encQ 5 W2 wl.heap.size 55 v pre := RowE.off (hr.alloc _) ho2 (fun a h z => hOl a h z)
    have a0 := ha2.cell 0
    have a1 := ha2.cell 1
    have a2 := ha2.cell 2
    have a3 := ha2.cell 3
    have a4 := ha2.cell 4
    have y0 := hk2.cell 0
    clear ho2 hr hk hz2 ha hoff
    refine wpIn_block ?_
    refine wpIn_region_lit (wpList_round _ _ _ (by kernel_rfl) ?_)
    have hmax : pre.length ≤ 100000 := by omega
    have hbW : wl.heap.size ≤ W2.heap.size := by omega
    have hKF : ∀ a, v.ownBlock = some a → a ≠ w.heap.size := fun a ha z => by have := (hOwn a ha).1; have := HSZ.out; omega
    have HZ2 := Lib.hid hz2'
    clear hz2'
    go_wp2_with (at_builtin; refine wpList_append_off rfl _ _ 31 rfl wl.heap.size 55 _ 56 Tryz.underlying31 infoRec rfl (by decide) hr2 s rfl rfl (by simp [encQ, Value.oneCell']) rfl rfl hmax (by decide) hbW ?_; intro v' w1 hrow2 hoff2 hob2; obtain ⟨va, vc, hv'⟩ := RowE.shp hrow2; rw [List.length_append, show ([s] : List Rq).length = 1 from rfl] at hv'; subst hv'; have hk3 := hoff2.whole hk2 (fun z => hKF _ z rfl); have x0 := hk3.cell 0; have x1 := hk3.frozen 0)
    refine ⟨rfl, ?_⟩
    have hz2' := HZ2.out
    have e0 := hrow2.far (p := ⟨w.heap.size, 0, none⟩) (by show w.heap.size < wl.heap.size; have := HSZ.out; omega) (.slice va (pre.length + 1) vc)
    have hfin : ∃ F', undI encQ 5 w.heap.size wl.heap.size 31 55 (fun pre => pre) (pre ++ [s]) F' (w1.setCell ⟨w.heap.size, 0, none⟩ (.slice va (pre.length + 1) vc)) ∧ Off F W2 (w1.setCell ⟨w.heap.size, 0, none⟩ (.slice va (pre.length + 1) vc)) ∧ ∀ b, F' b → F b ∨ W.heap.size ≤ b := by
      refine ⟨fun y => y = w.heap.size ∨ (Value.slice va (pre.length + 1) vc).ownBlock = some y, ⟨_, fun b => Iff.rfl, hk3.set_ 0 _, e0⟩, (hoff2.mono (fun b _ z => hFv b z)).setCell (p := ⟨w.heap.size, 0, none⟩) (.inr hFK) _, ?_⟩
      rintro y (rfl | z)
      · exact .inl hFK
      · rcases hob2 with h | ⟨g3, h, h2⟩
        · exact .inl (hFv _ (h ▸ z))
        · rw [h] at z
          injection z with z
          exact .inr (by omega)
    exact hfin
/-- slices.Collect. -/
theorem collectRecs_any {gf : Nat} {lb : Array Value} {xs : List Rq} {G : Nat → Prop} {w : World} (hseq : ∀ W, Since w W → SeqO gf lb encI xs G W) (hG : ∀ b, G b → b < w.heap.size) (hen : ∀ args w, (callFunc gf args).run Tryz.prog w = .ok (.enter gf args) w) (hlen : xs.length ≤ 2048) :
    Calls Tryz.prog 109 #[.func (.func gf) #[] lb] w fun e W' => ∃ a, e = .returned a ∧ RowE encQ 5 W' w.heap.size 55 a xs ∧ Below w.heap.size w W' := by
  have ha := appendRecs_any hseq hG hen hlen
  clear hseq hG hen
  go_enter Tryz.func109, Tryz.ntmps109
  go_wp2_with (go_at_call 118; (with_reducible refine ha.mono ?_); rintro e w1 ⟨a, rfl, h1, h2⟩)
  go_ret
  exact ⟨a, rfl, h1, h2⟩
end Go.Proofs.YthfhpejpjiaikaaGreat
namespace Go.Proofs.YthfhpejpjiaikaaGreat
open Go.RowKit
set_option linter.unusedVariables false
set_option linter.unusedSimpArgs false
theorem cmpLaysQ (blk off size : Nat) (w : World) : CmpLays Tryz.prog 84 #[] encQ 5 cmpQ blk off size w := fun _ _ _ _ x y => qcompare_grew x y _
/-- slices.SortFunc by Compare. -/
theorem sortRow_any {W : World} {base : Nat} {v : Value} {l M : List Rq} (h : RowE encQ 5 W base 55 v l) (hM : SortQ M) (hp : l.Perm M) (hl : l.length ≤ 100000) :
    Calls Tryz.prog 110 #[v, .func (.func 84) #[] #[]] W fun e W' => e = .returned (.tuple #[]) ∧ RowE encQ 5 W' base 55 v M ∧ Off (fun b => v.ownBlock = some b) W W' := by
  have heg : ∀ args w, (callFunc 84 args).run Tryz.prog w = .ok (.enter 84 args) w := enters_of Tryz.func84 (by kernel_rfl) rfl
  rcases RowE.cur h with ⟨rfl, rfl⟩ | ⟨g, cap, S, rfl, _⟩
  · have hM0 : M = [] := List.Perm.nil_eq hp |>.symm
    subst hM0
    have hc := AnyF.slices_SortFunc_none (P := Tryz.prog) (ρ := Tryz.sortRec_ren) { Tryz.sortRec with } none 0 (.func (.func 84) #[] #[]) W
    change Calls Tryz.prog 110 _ _ _ at hc
    exact hc.mono fun e w' ⟨h1, h2⟩ => ⟨h1, h2 ▸ h, h2 ▸ Off.refl _ _⟩
  · obtain ⟨hH, hg⟩ := row_holds h
    have hc := AnyQ.slices_SortFunc Tryz.sortRec 5 Tryz.isAgg55 Tryz.sizeOf55 encQ encQ_len encQ_one cmpQ swoQ 84 #[] g 0 cap l.toArray W heg (cmpLaysQ _ _ _ _) hH hg (by simp; omega)
    change Calls Tryz.prog 110 _ _ _ at hc
    refine hc.mono fun e w' ⟨h1, d', n, os, h2, h3, h4⟩ => ⟨h1, ?_⟩
    have hs : d'.size = l.length := by rw [h2.1]; simp
    have he := sorted_is h2 h3 hM (by simpa using hp)
    obtain ⟨k1, k2⟩ := row_sorted (n := n) (os := os) h hs
    rw [← h4] at k1 k2
    rw [he, hp.length_eq] at k1
    refine ⟨?_, k2.mono (fun b _ z => by rw [z]; rfl)⟩
    rw [hp.length_eq]
    exact k1
set_option maxRecDepth 100000 in
set_option maxHeartbeats 1600000 in
/-- slices.SortedFunc by Compare over an iterator. -/
theorem sortedFunc_any {gf : Nat} {lb : Array Value} {xs M : List Rq} {G : Nat → Prop} {w : World} (hseq : ∀ W, Since w W → SeqO gf lb encI xs G W) (hG : ∀ b, G b → b < w.heap.size) (hen : ∀ args w, (callFunc gf args).run Tryz.prog w = .ok (.enter gf args) w) (hlen : xs.length ≤ 2048) (hM : SortQ M) (hp : xs.Perm M) :
    Calls Tryz.prog 90 #[.func (.func gf) #[] lb, .func (.func 84) #[] #[]] w fun e W' => ∃ a, e = .returned a ∧ RowE encQ 5 W' w.heap.size 55 a M ∧ Below w.heap.size w W' := by
  have HC := Lib.hid (collectRecs_any hseq hG hen hlen)
  have HS := Lib.hid (fun (W : World) (v : Value) (h : RowE encQ 5 W w.heap.size 55 v xs) => sortRow_any h hM hp (by omega))
  clear hseq hG hen
  go_enter Tryz.func90, Tryz.ntmps90
  go_wp2_with (first
    | (go_at_call 109; (with_reducible refine HC.out.mono ?_); rintro e w1 ⟨a, rfl, h1, h2⟩; obtain ⟨va, vc, rfl⟩ := RowE.shp h1)
    | (go_at_call 110; (with_reducible refine (HS.out _ _ h1).mono ?_); rintro e w2 ⟨rfl, h3, h4⟩))
  go_ret
  exact ⟨_, rfl, h3, h2.trans (h4.below h2.size (fun b z => (h1.own b z).1))⟩
set_option maxRecDepth 100000 in
set_option maxHeartbeats 1600000 in
/-- sorted: at a node in memory. -/
theorem sorted_any {q : QN} {r : Rc} {w : World} {M : List Rq} (hh : q.high ≤ 190000) (hni : q.isNil = false) (hA : q.At w) (hown : ∀ x ∈ q.visit r, x.2.own.length ≤ 1000) (hlen : M.length ≤ 2048) (hM : SortQ M) (hp : (q.inner r).Perm M) :
    Calls Tryz.prog 53 #[q.v, .agg #[.int .i64 r.x, .int .i64 r.y, .int .i64 r.w, .int .i64 r.h]] w fun e W' => ∃ a, e = .returned a ∧ RowE encQ 5 W' w.heap.size 55 a M ∧ Below w.heap.size w W' := by
  obtain ⟨qo, hqo, -⟩ := q.v_ptr
  have hlt := hA.lt
  have HS := Lib.hid (fun (W : World) (NB RB : Nat) (hW : Since w W) (hn : Whole W NB 68 #[q.v]) (hr : Whole W RB 63 #[.int .i64 r.x, .int .i64 r.y, .int .i64 r.w, .int .i64 r.h]) =>
    sortedFunc_any (gf := 72) (lb := #[.pointer (some ⟨NB, 0, none⟩), .pointer (some ⟨RB, 0, none⟩)]) (w := W) (G := nodG q NB RB) (fun W1 h1 => inside_seq hh hni (hA.since (hW.trans h1)) hown (Since.whole h1 hn) (Since.whole h1 hr))
      (fun b z => by
        rcases z with z | rfl | rfl
        · exact Nat.lt_of_lt_of_le (hlt b z) hW.size_
        · exact hn.lt
        · exact hr.lt) (enters_of Tryz.func72 (by kernel_rfl) rfl) (by rw [hp.length_eq]; exact hlen) hM hp)
  obtain ⟨w0, hw0⟩ : ∃ w0, w0 = w.alloc (.cells #[.int .i64 r.x, .int .i64 r.y, .int .i64 r.w, .int .i64 r.h] 63) := ⟨_, rfl⟩
  have hs0 : Since w w0 := by rw [hw0]; exact (Since.refl w).alloc _
  have hbx : Whole w0 w.heap.size 63 #[.int .i64 r.x, .int .i64 r.y, .int .i64 r.w, .int .i64 r.h] := by rw [hw0]; exact Whole.new w _ _
  have b0 := hbx.cell 0
  have b1 := hbx.cell 1
  have b2 := hbx.cell 2
  have b3 := hbx.cell 3
  rw [hqo] at HS ⊢
  have HW := Lib.hid hw0
  clear hw0 hbx hown hA hlt hp
  go_enter Tryz.func53, Tryz.ntmps53
  go_upto_region 1 with fail
  rw [← HW.out]
  go_wp2_with (first
    | (go_at_call 44; (with_reducible refine (inside_any _ _ rfl r _).mono ?_); rintro e w2 ⟨rfl, hw2⟩; (have hs2 : Since w w2 := by rw [hw2]; exact (hs0.alloc _).alloc _); (have hn2 : Whole w2 w0.heap.size 68 #[.pointer qo] := by rw [hw2]; exact (Whole.new w0 _ _).alloc _); (have hr2 : Whole w2 (w0.heap.size + 1) 63 #[.int .i64 r.x, .int .i64 r.y, .int .i64 r.w, .int .i64 r.h] := by rw [hw2]; exact (Whole.new (w0.alloc _) _ _).at_ (by simp)); clear hw2)
    | (go_at_call 90; (with_reducible refine (HS.out _ _ _ hs2 hn2 hr2).mono ?_); rintro e w3 ⟨a, rfl, h1, h2⟩))
  go_ret
  exact ⟨a, rfl, h1.mono hs2.size_, hs2.trans h2⟩
theorem Tree.own {q : QN} {a : Rc} {L : List Rq} {W : World} (h : Tree q a L W) (r : Rc) : ∀ x ∈ q.visit r, x.2.own.length ≤ 1000 := visit_own r 1000 q a L h.ok h.len
theorem tree_sorted {q : QN} {a : Rc} {L : List Rq} {w : World} (h : Tree q a L w) (hni : q.isNil = false) (r : Rc) :
    Calls Tryz.prog 53 #[q.v, .agg #[.int .i64 r.x, .int .i64 r.y, .int .i64 r.w, .int .i64 r.h]] w fun e W' => ∃ v, e = .returned v ∧ RowE encQ 5 W' w.heap.size 55 v (L.filter (inQ r)) ∧ Below w.heap.size w W' :=
  sorted_any h.high hni h.at_ (h.own r) (Nat.le_trans (List.length_filter_le _ _) (Nat.le_trans h.len (by decide))) (h.sort.filter _) (inner_perm r q a L h.ok (fun _ => h.good) h.inn)
theorem Good.ne' {a : Rc} (h : Good a) : neR a = true := by
  unfold neR
  have := h.w1; have := h.h1
  exact decide_eq_true (by omega)
theorem all_in {a : Rc} {L : List Rq} (h : ∀ s ∈ L, inQ a s = true) : L.filter (inQ a) = L := List.filter_eq_self.2 h
set_option maxRecDepth 100000 in
set_option maxHeartbeats 1600000 in
/-- gather. -/
theorem gather_any : GatherC := by
  intro g n a q L W hA hS hn hg hs hL hl hok
  have hW : Whole W g 71 (ncells a n (.slice none 0 0) fun i => (q i).v) := hA.1
  have hhi : (QN.quad g n a q).high ≤ 190000 := by
    have hi : ∀ i, i < 4 → ((q i).high : Int) ≤ 131072 := fun i hi => by
      have h1 := ok_high (q i) (qtr a i) _ (hok i hi) (fun hn => qtr_good hg hi hn)
      cases hne : neR (qtr a i) with
      | true =>
        have h2 := qtr_good hg hi hne
        have := h2.x0; have := h2.y0; have := h2.x1; have := h2.y1
        omega
      | false =>
        have h3 := (hok i hi).nil_iff
        rw [hne] at h3
        cases hq : q i with
        | nil => simp [QN.high]
        | leaf _ _ _ _ => rw [hq] at h3; cases h3
        | quad _ _ _ _ => rw [hq] at h3; cases h3
    have a0 := hi 0 (by decide); have a1 := hi 1 (by decide); have a2 := hi 2 (by decide); have a3 := hi 3 (by decide)
    simp only [QN.high]
    omega
  have hperm := inner_quad (g := g) (n := n) a hg hL (fun i hi => inner_perm a (q i) (qtr a i) _ (hok i hi) (fun hn => qtr_good hg hi hn) filt_sub)
  rw [all_in hL] at hperm
  have hown : ∀ x ∈ (QN.quad g n a q).visit a, x.2.own.length ≤ 1000 := by
    intro x hx
    simp only [QN.visit] at hx
    split at hx
    · rcases List.mem_cons.1 hx with rfl | hx
      · exact Nat.zero_le _
      · obtain ⟨y, hy, rfl⟩ := List.mem_map.1 hx
        simp only [List.mem_append] at hy
        have key : ∀ i, i < 4 → y ∈ (q i).visit a → y.2.own.length ≤ 1000 := fun i hi hm => visit_own a 1000 (q i) (qtr a i) _ (hok i hi) (Nat.le_trans (List.length_filter_le _ _) (by omega)) y hm
        rcases hy with ((hy | hy) | hy) | hy
        · exact key 0 (by decide) hy
        · exact key 1 (by decide) hy
        · exact key 2 (by decide) hy
        · exact key 3 (by decide) hy
    · cases hx
  have hso := sorted_any (r := a) hhi rfl hA hown (by omega) hs hperm
  simp only [QN.v] at hso
  have HSO := Lib.hid hso
  have HX := Lib.hid (And.intro hg (And.intro hL (And.intro hl hn)))
  have hgl := hW.lt
  have c0 := hW.cell 0
  have c1 := hW.cell 1
  have c2 := hW.cell 2
  have c3 := hW.cell 3
  have HW := Lib.hid hW
  clear hso hperm hown hok hA hS hL hW
  show Calls Tryz.prog 88 #[.pointer (some ⟨g, 0, none⟩)] W _
  dsimp only [ncells] at c0 c1 c2 c3
  replace c0 : W.cell? ⟨g, 0, none⟩ = some (.int .i64 a.x) := c0
  replace c1 : W.cell? ⟨g, 1, none⟩ = some (.int .i64 a.y) := c1
  replace c2 : W.cell? ⟨g, 2, none⟩ = some (.int .i64 a.w) := c2
  replace c3 : W.cell? ⟨g, 3, none⟩ = some (.int .i64 a.h) := c3
  go_enter Tryz.func88, Tryz.ntmps88
  go_wp2_with (go_at_call 53; (with_reducible refine HSO.out.mono ?_); rintro e w1 ⟨v, rfl, h1, h2⟩; obtain ⟨va, vc, rfl⟩ := RowE.shp h1; (have hw1 := Since.whole (show Since W w1 from h2) HW.out); (have z5 : w1.cell? ⟨g, 5, none⟩ = some (.slice none 0 0) := (hw1.cell 5).trans rfl); (have y5 := hw1.frozen 5); (have z6 : w1.cell? ⟨g, 6, none⟩ = some (q 0).v := (hw1.cell 6).trans rfl); (have y6 := hw1.frozen 6); (have z7 : w1.cell? ⟨g, 7, none⟩ = some (q 1).v := (hw1.cell 7).trans rfl); (have y7 := hw1.frozen 7); (have z8 : w1.cell? ⟨g, 8, none⟩ = some (q 2).v := (hw1.cell 8).trans rfl); (have y8 := hw1.frozen 8); (have z9 : w1.cell? ⟨g, 9, none⟩ = some (q 3).v := (hw1.cell 9).trans rfl); (have y9 := hw1.frozen 9))
  obtain ⟨hg, hL, hl, hn⟩ := HX.out
  subst hn
  have hs2 : Since W w1 := h2
  have hown : ∀ c, (Value.slice va L.length vc).ownBlock = some c → W.heap.size ≤ c := fun c hc => (h1.own c hc).1
  have hw5 := ((((hw1.set_ 5 (.slice va L.length vc)).set_ 6 (.pointer none)).set_ 7 (.pointer none)).set_ 8 (.pointer none)).set_ 9 (.pointer none)
  have hr5 := ((((h1.far (p := ⟨g, 5, none⟩) hgl (.slice va L.length vc)).far (p := ⟨g, 6, none⟩) hgl (.pointer none)).far (p := ⟨g, 7, none⟩) hgl (.pointer none)).far (p := ⟨g, 8, none⟩) hgl (.pointer none)).far (p := ⟨g, 9, none⟩) hgl (.pointer none)
  have hg5 : g ∈ (QN.quad g L.length a q).bl := bl_quad.2 (.inl rfl)
  go_end0
  exact ⟨⟨_, rfl⟩, .leaf g (.slice va L.length vc) a L, rfl, ⟨hw5, hr5.mono (Nat.zero_le _)⟩, fun z => by have := hown g z; omega, ⟨rfl, rfl, hg.ne', fun z => by omega⟩,
    (((((hs2.off _).setCell (p := ⟨g, 5, none⟩) (.inr hg5) _).setCell (p := ⟨g, 6, none⟩) (.inr hg5) _).setCell (p := ⟨g, 7, none⟩) (.inr hg5) _).setCell (p := ⟨g, 8, none⟩) (.inr hg5) _).setCell (p := ⟨g, 9, none⟩) (.inr hg5) _,
    fun c hc => by
      rcases List.mem_cons.1 hc with rfl | hc
      · exact .inl hg5
      · exact .inr (hown c (ownL_mem.1 hc))⟩
end Go.Proofs.YthfhpejpjiaikaaGreat
