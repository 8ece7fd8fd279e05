/- tiling: Under, List. -/
import Derived.Test.YtbbnojfecmocgaaK40
import Derived.Test.YtbbnojfecmocgaaK41
namespace Go.Proofs.Ytbbnojfecmocgaa
open Go.RowKit Go.Shelf
attribute [local go_sem] Oper.semAt_some
set_option linter.unusedVariables false
theorem infoT5 : (Try.prog.info? 37).map (fun i => (i.zero, i.size, i.bytes)) = some (some (.agg #[.int .i64 0, .int .i64 0, .int .i64 0]), 3, 24) := by kernel_rfl
/-- A node's tile, if it is one. -/
def tilW (x : (Int × Int) × PT) : Option Tl := match x.2 with
  | .leaf _ w => some ⟨x.1.1, x.1.2, w⟩
  | _ => none
theorem walk_tiles : ∀ (q : PT) (d b : Int), (q.walk d b).filterMap tilW = q.tr.tiles d b
  | .gap, _, _ => rfl
  | .leaf _ _, _, _ => rfl
  | .node g z l r, d, b => by
    show (((d, b), PT.node g z l r) :: (l.walk (d + 1) (2 * b) ++ r.walk (d + 1) (2 * b + 1))).filterMap tilW = l.tr.tiles _ _ ++ r.tr.tiles _ _
    rw [List.filterMap_cons_none (by rfl), List.filterMap_append, walk_tiles l, walk_tiles r]
/-- What is met on the way is a part of the tree. -/
theorem walk_in {W : World} : ∀ (q : PT) (d b : Int), q.tr.norm → ∀ x ∈ q.walk d b, (∀ y ∈ x.2.bl, y ∈ q.bl) ∧ x.2.tr.norm ∧ (q.At W → x.2.At W)
  | .gap, _, _, h, x, hx => by obtain rfl := List.mem_singleton.1 hx; exact ⟨fun _ z => z, h, id⟩
  | .leaf _ _, _, _, h, x, hx => by obtain rfl := List.mem_singleton.1 hx; exact ⟨fun _ z => z, h, id⟩
  | .node g z l r, d, b, h, x, hx => by
    rcases List.mem_cons.1 hx with rfl | hx
    · exact ⟨fun _ z => z, h, id⟩
    · rcases List.mem_append.1 hx with hx | hx
      · obtain ⟨h1, h2, h3⟩ := walk_in (W := W) l _ _ h.2.1 x hx
        exact ⟨fun y hy => List.mem_cons_of_mem _ (List.mem_append.2 (.inl (h1 y hy))), h2, fun hq => h3 hq.2.1⟩
      · obtain ⟨h1, h2, h3⟩ := walk_in (W := W) r _ _ h.2.2 x hx
        exact ⟨fun y hy => List.mem_cons_of_mem _ (List.mem_append.2 (.inr (h1 y hy))), h2, fun hq => h3 hq.2.2⟩
theorem under_list {k : Int} {p : PT} {pd pb : Int} (hn : p.tr.norm) (hh : (p.tr.high : Int) ≤ 2 * k) (hk : 1 ≤ k ∧ k ≤ 16) : (atP k p pd pb).tr.tiles pd pb = (p.tr.tiles 0 0).filter fun s => abvB pd pb s.d s.b := by
  cases hok : okP k pd pb with
  | false =>
    have e1 : atP k p pd pb = .gap := by unfold atP; rw [hok]; rfl
    rw [e1, filter_no (A := p.tr.tiles 0 0) (fun x hx => Bool.eq_false_iff.2 fun z => ?_)]
    · rfl
    · obtain ⟨h1, h2⟩ := Tr.tiles_abv p.tr 0 0 (by decide) (by omega) x hx
      obtain ⟨f1, f2, f3, _⟩ := (abvB_iff _ _ _ _).1 z
      obtain ⟨g1, g2, g3, g4⟩ := (fine_iff _ _).1 f1
      have := (okP_iff k pd pb).2 ⟨hk.1, hk.2, g1, by omega, g3, g4⟩
      rw [hok] at this; cases this
  | true =>
    obtain ⟨s, ed, eb, pre, post, hw⟩ := way_of hn hh hk.2 (okP_fine hok)
    have hno : ∀ x ∈ pre ++ post, abvB pd pb x.d x.b = false := fun x hx => by
      have := hw.out x hx
      unfold metB at this
      exact (Bool.or_eq_false_iff.1 this).2
    rw [hw.atP, hw.tiles, filter_out hno]
    by_cases e : ed = pd
    · rw [if_pos ⟨hok, e⟩]
      have e2 := hw.same e
      subst e; subst e2
      refine (List.filter_eq_self.2 (fun x hx => ?_)).symm
      exact (Tr.tiles_abv s.tr ed eb hw.fine (by have := hw.high; omega) x hx).1
    · rw [if_neg (fun z => e z.2)]
      have hl := hw.last.resolve_left e
      have hle := hw.le
      cases hs : s with
      | gap => rfl
      | node g z l r => rw [hs] at hl; cases hl
      | leaf g z =>
        refine (filter_no (fun x hx => Bool.eq_false_iff.2 fun y => ?_)).symm
        obtain rfl := List.mem_singleton.1 hx
        have := ((abvB_iff _ _ _ _).1 y).2.2.1
        simp at this
        omega
theorem RowE.keep {α : Type} {enc : α → List Value} {n : Nat} {W W' : World} {base : Nat} {T : TypeId} {v : Value} {l : List α} (h : RowE enc n W base T v l) (hs : W.heap.size ≤ W'.heap.size) (hF : ∀ a, v.ownBlock = some a → W'.heap[a]? = W.heap[a]?) : RowE enc n W' base T v l := by
  rcases h with ⟨h1, h2⟩
  refine ⟨h1, ?_⟩
  rcases h2 with h2 | ⟨g, cap, cur, rfl, hg, hh, rest⟩
  · exact .inl h2
  · exact .inr ⟨g, cap, cur, rfl, hg, (hF g rfl).trans hh, rest⟩
theorem RowE.not_deferred {α : Type} {enc : α → List Value} {n : Nat} {W : World} {base D : Nat} {T : TypeId} {v : Value} {l : List α} {o : Option (List Deferred)} (h : RowE enc n W base T v l) (hd : W.heap[D]? = some (.deferred o)) : v.ownBlock ≠ some D := by
  rcases h with ⟨h1, h2⟩
  rcases h2 with h2 | ⟨g, cap, cur, rfl, hg, hh, rest⟩
  · intro z
    rw [h2.1] at z
    cases z
  · intro z
    injection z with z
    subst z
    rw [hd] at hh
    cases hh
/-- The list so far, in its box. -/
def undI {α β : Type} (enc : α → List Value) (n : Nat) (KB base : Nat) (S T : TypeId) (f : List β → List α) (pre : List β) (F : Nat → Prop) (W : World) : Prop :=
  ∃ v, (∀ b, F b ↔ (b = KB ∨ v.ownBlock = some b)) ∧ Whole W KB S #[v] ∧ RowE enc n W base T v (f pre)
theorem undI_kept {α β : Type} {enc : α → List Value} {n KB base : Nat} {S T : TypeId} {f : List β → List α} : Kept (undI enc n KB base S T f) := by
  rintro pre F W W' ⟨v, h1, h2, h3⟩ hs hb
  exact ⟨v, h1, (hb KB ((h1 KB).2 (.inl rfl))).trans h2, h3.keep hs (fun a ha => hb a ((h1 a).2 (.inr ha)))⟩
theorem undI_low {α β : Type} {enc : α → List Value} {n KB base : Nat} {S T : TypeId} {f : List β → List α} : Low (undI enc n KB base S T f) := by
  rintro pre F W ⟨v, h1, h2, h3⟩ b hb
  rcases (h1 b).1 hb with rfl | z
  · exact h2.lt
  · exact (h3.own b z).2
theorem no_kept {β : Type} : Kept (fun (_ : List β) _ _ => False) := fun _ _ _ _ h _ _ => h.elim
theorem no_low {β : Type} : Low (fun (_ : List β) _ _ => False) := fun _ _ _ h _ _ => h.elim
set_option maxRecDepth 100000 in
set_option maxHeartbeats 3200000 in
theorem under_any {g : Nat} {p : PT} {k : Int} {w : World} (h : TilO g p k w) (pd pb : Int) : Calls Try.prog 33 #[.pointer (some ⟨g, 0, none⟩), .agg #[.int .i64 pd, .int .i64 pb]] w fun e W' => ∃ a, e = .returned a ∧ RowE encT 3 W' w.heap.size 37 a ((p.tr.tiles 0 0).filter fun s => abvB pd pb s.d s.b) ∧ Below w.heap.size w W' := by
  have hmost : ((atP k p pd pb).tr.tiles pd pb).length ≤ 64 := by
    rw [under_list h.norm h.high h.kb]
    exact Nat.le_trans (List.length_filter_le _ _) h.most
  rw [← under_list h.norm h.high h.kb]
  have hnorm := atP_norm (k := k) h.norm pd pb
  have hAt0 := atP_at (k := k) h.at_ pd pb
  have hqlt : ∀ x ∈ (atP k p pd pb).bl, x < w.heap.size := fun x hx => h.at_.lt x (atP_bl k p pd pb x hx)
  have hseq0 := fun W (hW : Since w W) XB PB hx hp => below_seq (h.since hW) pd pb (XB := XB) (PB := PB) hx hp
  obtain ⟨q, hq⟩ : ∃ q, q = atP k p pd pb := ⟨_, rfl⟩
  rw [← hq] at hseq0 hnorm hAt0 hqlt hmost ⊢
  clear hq
  have HSQ := Lib.hid hseq0
  have HAT := Lib.hid hAt0
  clear hseq0 hAt0
  obtain ⟨w0, hw0⟩ : ∃ w0, w0 = w.alloc (.cells #[.int .i64 pd, .int .i64 pb] 35) := ⟨_, rfl⟩
  have hs0 : Since w w0 := by rw [hw0]; exact (Since.refl w).alloc _
  have wh0 : Whole w0 (w.heap.size) 35 #[.int .i64 pd, .int .i64 pb] := by rw [hw0]; exact Whole.new w _ _
  have HW := Lib.hid hw0
  have c0_0 := box_cell wh0 0 (.int .i64 pd) rfl
  have c0_1 := box_cell wh0 1 (.int .i64 pb) rfl
  have hsr := Since.refl w0
  have hsd := hsr.drew
  clear hw0
  have HM := Lib.hid (fun W (hW : Since w0 W) => made_yes (h.since (hs0.trans hW)))
  have HH := Lib.hid h
  refine (callsIn_wide (n := 0)).1 ?_
  refine callsIn_of_wp_marks Try.func33 rfl trivial ?_ rfl
  refine wpIn_wide.2 ?_
  simp only [Try.ntmps33, List.size_toArray, List.length_cons, List.length_nil, Nat.reduceAdd, Nat.reduceSub, Array.replicate_succ, Array.replicate_zero, List.push_toArray, List.append_toArray, List.nil_append, List.cons_append]
  go_wp2_with fail
  rw [← HW.out]
  go_wp2_with (first
    | (go_at_call 39; (with_reducible refine (Calls.since (by assumption) (HM.out _ (by assumption))).mono ?_); rintro e w1 ⟨rfl, hb1⟩; have hb2 : Since w0 (w1.alloc (.cells #[.slice none 0 0] 30)) := Since.alloc hb1 _)
    | (go_at_call 68; (with_reducible refine (below_any _ _ rfl _ _ _).mono ?_); rintro e w2 ⟨rfl, hw2⟩))
  subst hw2
  obtain ⟨wl, hwl⟩ : ∃ wl, wl = (((w1.alloc (.cells #[.slice none 0 0] 30)).alloc (.cells #[.pointer (some ⟨g, 0, none⟩)] 27)).alloc (.cells #[.int .i64 pd, .int .i64 pb] 35)) := ⟨_, rfl⟩
  rw [← hwl]
  have hbl : Since w0 wl := by rw [hwl]; exact (hb2.alloc _).alloc _
  have whK : Whole wl w1.heap.size 30 #[.slice none 0 0] := by rw [hwl]; exact ((Whole.new w1 _ _).alloc _).alloc _
  have whX : Whole wl (w1.heap.size + 1) 27 #[.pointer (some ⟨g, 0, none⟩)] := by rw [hwl]; exact ((Whole.new (w1.alloc _) _ _).at_ (by simp)).alloc _
  have whP : Whole wl (w1.heap.size + 1 + 1) 35 #[.int .i64 pd, .int .i64 pb] := by rw [hwl]; exact (Whole.new ((w1.alloc _).alloc _) _ _).at_ (by simp)
  have HSZ := Lib.hid (show wl.heap.size = w1.heap.size + 3 by rw [hwl]; simp)
  have hs0l : Since w wl := hs0.trans hbl
  have hw1 : w.heap.size ≤ w1.heap.size := (hs0.trans hb1).size_
  have hOl := HH.out.since hs0l
  clear hwl hb2 c0_0 c0_1 hsr hsd
  have hseq := HSQ.out wl hs0l _ _ whX whP
  refine (wpIn_wide (n := 0)).1 ?_
  refine range_wp (gf := 105) (lb := #[.pointer (some ⟨w1.heap.size + 1 + 1, 0, none⟩), .pointer (some ⟨w1.heap.size + 1, 0, none⟩)]) rfl (enters_of Try.func105 (by kernel_rfl) rfl) hseq ?hG (fun _ => rfl)
    (undI encT 3 w1.heap.size wl.heap.size 30 37 (fun pre => pre.filterMap tilW)) (fun _ _ _ _ => False) undI_kept undI_low (fun _ => no_kept) (fun _ => no_low)
    (fun b => b = w1.heap.size) ?hF0 ?h0 ?round ?done ?stop
  case hG =>
    have hszl := HSZ.out
    rintro b (z | rfl | rfl)
    · have := HH.out.lt b z; omega
    · omega
    · omega
  case hF0 =>
    rintro b rfl (z | z | z)
    · have := HH.out.lt _ z; omega
    · omega
    · omega
  case h0 => exact ⟨.slice none 0 0, fun b => by simp [Value.ownBlock], whK, RowE.nil _ _ _⟩
  case stop =>
    rintro D c pre W _ _ ⟨F', h, _⟩ _
    exact h.elim
  case done =>
    rintro D W hD ⟨F', ⟨v, hF', hk, hr⟩, ho, hf, _⟩ hdd
    have x1 := hk.cell 0
    have hDD := Lib.hid hD
    have hoo := Lib.hid ho
    have hff := Lib.hid hf
    clear hD ho hf
    go_wp2
    have hszl := HSZ.out
    have hD := hDD.out
    have hb0 : Since w W := Below.trans hs0l (hoo.out.below (by omega) (fun b z => by have z' : b = w1.heap.size := z; omega))
    have hne : ∀ a, v.ownBlock = some a → a ≠ D := fun a ha z => hr.not_deferred (z ▸ hdd) ha
    refine ⟨by simp, .inl ⟨_, _, rfl, run_takeDeferred hdd, ?_⟩⟩
    refine ⟨_, by simp [results, Try.results33, go_sem], ⟨v, rfl, ?_, ?_⟩⟩
    · have h1 : RowE encT 3 (W.putObj D (.deferred none)) wl.heap.size 37 v _ := hr.keep (by simp) (fun a ha => World.putObj_heap_other (hne a ha))
      rw [walk_tiles] at h1
      exact h1.mono (by omega)
    · exact Below.trans hb0 (belowK_b (w := w) (Nat.le_refl _) _ D _ _ (by omega) hdd rfl rfl)
  case round =>
    rintro l pre ⟨⟨d, b⟩, x⟩ F W hpre ⟨v, hF, hk, hr⟩ hoff hwl hl hFl
    obtain ⟨hx1, hx2, hx3⟩ := walk_in (W := W) q pd pb hnorm ((d, b), x) (hpre.subset (by simp))
    have hqW : q.At W := (HAT.out.since hs0l).keep (fun y hy => hoff.block y (by have := hqlt y hy; have := hs0l.size_; omega) (fun z => by have z' : y = w1.heap.size := z; have := hqlt y hy; omega))
    have hxW := hx3 hqW
    have hxlt : ∀ y ∈ x.bl, y < w.heap.size := fun y hy => hqlt y (hx1 y hy)
    have hszW := hoff.size
    have hFo : ∀ y, y < wl.heap.size → y ≠ w1.heap.size → ¬ F y := fun y h1 h2 z => by
      rcases (hF y).1 z with z | z
      · exact h2 z
      · have := (hr.own y z).1; omega
    have hkl := hk.lt
    have hKl : w1.heap.size ≠ l := fun z => hFl ((hF l).2 (.inl z.symm))
    have hOl : ∀ a, v.ownBlock = some a → a ≠ l := fun a ha z => hFl ((hF l).2 (.inr (z ▸ ha)))
    have hxl : ∀ y ∈ x.bl, y ≠ l := fun y hy z => by have := hxlt y hy; have := hs0l.size_; omega
    have hOwn : ∀ a, v.ownBlock = some a → a < W.heap.size := fun a ha => (hr.own a ha).2
    have hlen : (pre.filterMap tilW).length ≤ 64 := by
      have h1 : (pre ++ [((d, b), x)]).filterMap tilW <+: (q.walk pd pb).filterMap tilW := List.IsPrefix.filterMap _ hpre
      rw [walk_tiles] at h1
      have h2 := h1.length_le
      rw [List.filterMap_append, List.length_append] at h2
      omega
    have HS0 := Lib.hid hs0l
    clear hx3 hqW hseq hpre whK whX whP hb1 hbl hmost hs0 hs0l
    gi_wp2
    refine ⟨(Since.refl W).alloc _, fun W2 hz2 ho2 => ?_⟩
    have ha : Whole (W.alloc (.cells #[.int .i64 d, .int .i64 b] 35)) W.heap.size 35 #[.int .i64 d, .int .i64 b] := Whole.new W _ _
    have ha2 := ho2.whole ha (fun z => by have z' : W.heap.size = l := z; omega)
    have hk2 := ho2.whole (hk.alloc (.cells #[.int .i64 d, .int .i64 b] 35)) hKl
    have hr2 : RowE encT 3 W2 wl.heap.size 37 v (pre.filterMap tilW) := RowE.off (hr.alloc _) ho2 (fun a h z => hOl a h z)
    have hx2' : x.At W2 := (hxW.since ((Since.refl W).alloc (.cells #[.int .i64 d, .int .i64 b] 35))).off ho2 (fun y hy z => hxl y hy z)
    have hsame : ∀ W3, Since W2 W3 → (pre ++ [((d, b), x)]).filterMap tilW = pre.filterMap tilW → ∃ F', undI encT 3 w1.heap.size wl.heap.size 30 37 (fun pre => pre.filterMap tilW) (pre ++ [((d, b), x)]) F' W3 ∧ Off F W2 W3 ∧ ∀ b, F' b → F b ∨ W.heap.size ≤ b := fun W3 hs e =>
      ⟨F, ⟨v, hF, Since.whole hs hk2, by show RowE _ _ _ _ _ _ ((pre ++ [((d, b), x)]).filterMap tilW); rw [e]; exact hr2.since hs⟩, hs.off F, fun _ z => .inl z⟩
    have HSM := Lib.hid hsame
    clear hsame ho2 hr hk hxW
    cases x with
    | gap =>
      have hl : ∀ W, Calls Try.prog 69 #[.pointer none] W fun e w' => e = .returned (.bool false) ∧ Below W.heap.size W w' := isTile_nil
      simp only [PT.v]
      gi_wp2_with ((refine ⟨trivial, rfl, ?_⟩; gi_at_call 69; refine (CallsIn.inRound l (callsIn_wide.2 (hl _))).mono ?_; rintro e W3 ⟨rfl, hb3⟩))
      exact HSM.out _ hb3 (by simp [tilW])
    | node g2 z2 a c =>
      have hl : Calls Try.prog 69 #[.pointer (some ⟨g2, 0, none⟩)] W2 fun e w' => e = .returned (.bool false) ∧ Below W2.heap.size W2 w' := isTile_any hx2' hx2
      simp only [PT.v]
      gi_wp2_with ((refine ⟨trivial, rfl, ?_⟩; gi_at_call 69; refine (CallsIn.inRound l (callsIn_wide.2 (hl))).mono ?_; rintro e W3 ⟨rfl, hb3⟩))
      exact HSM.out _ hb3 (by simp [tilW])
    | leaf g2 who =>
      have hl : Calls Try.prog 69 #[.pointer (some ⟨g2, 0, none⟩)] W2 fun e w' => e = .returned (.bool true) ∧ Below W2.heap.size W2 w' := isTile_any hx2' hx2
      simp only [PT.v]
      gi_wp2_with ((refine ⟨trivial, rfl, ?_⟩; gi_at_call 69; refine (CallsIn.inRound l (callsIn_wide.2 (hl))).mono ?_; rintro e W3 ⟨rfl, hb3⟩))
      have hk3 := Since.whole hb3 hk2
      have ha3 := Since.whole hb3 ha2
      have hn3 : Whole W3 g2 96 #[.int .i64 who, .pointer none, .pointer none] := Since.whole hb3 hx2'
      have hr3 := hr2.since hb3
      have hg2 : g2 < w.heap.size := hxlt g2 (List.mem_singleton.2 rfl)
      have hKF : ∀ a, v.ownBlock = some a → a ≠ w1.heap.size := fun a ha z => by have := (hr3.own a ha).1; have := HSZ.out; omega
      have hAF : ¬ F W.heap.size := fun z => by
        rcases (hF _).1 z with z | z
        · omega
        · have h9 := hOwn _ z; omega
      have hGF : ¬ F g2 := hFo g2 (by have := HSZ.out; omega) (by omega)
      have q1 := off_cell ha3 hAF 0 (.int .i64 d) rfl
      have q2 := off_cell ha3 hAF 1 (.int .i64 b) rfl
      have q3 := off_cell hn3 hGF 0 (.int .i64 who) rfl
      have hFK : F w1.heap.size := (hF _).2 (.inl rfl)
      have hFv : ∀ b, v.ownBlock = some b → F b := fun b z => (hF b).2 (.inr z)
      obtain ⟨wq, hwq⟩ : ∃ wq, wq = W3.drew := ⟨_, rfl⟩
      have hqs : Since W3 wq := by rw [hwq]; exact (Since.refl W3).drew
      refine round_held_drew (fun X => Off F W3 X) (by kernel_rfl) (by kernel_rfl) ((Since.refl W3).drew.off _) (fun hHeld => ?_)
      rw [← hwq] at hHeld ⊢
      have hkq := Since.whole hqs hk3
      have hrq := hr3.since hqs
      have hbq : wl.heap.size ≤ wq.heap.size := by have := hqs.size_; have := Since.size_ hb3; omega
      have c0 := hkq.cell 0
      have c0' := (hkq.alloc (.cells #[.int .i64 d, .int .i64 b, .int .i64 who] 37)).cell 0
      clear hwq hl
      refine wpAnyH_take (i := 1) (v := ?_) rfl (by kernel_rfl) (by kernel_rfl) (by kernel_rfl) (fun _ _ _ h => h) (Or.inl ⟨by rfl, ?_⟩) (by assumption) ?_
      rotate_left 1
      · (intro W hW; skip; go_simp; try with_reducible rfl)
      simp only [Act.put, List.getElem_toArray, List.getElem_cons_succ, List.getElem_cons_zero, List.setIfInBounds_toArray, List.set_cons_zero, List.set_cons_succ]
      refine wpAnyH_take (i := 2) (v := ?_) rfl (by kernel_rfl) (by kernel_rfl) (by kernel_rfl) (fun _ _ _ h => h) (Or.inl ⟨by rfl, ?_⟩) (by assumption) ?_
      rotate_left 1
      · (intro W hW; clear hW; go_simp; try with_reducible rfl)
      simp only [Act.put, List.getElem_toArray, List.getElem_cons_succ, List.getElem_cons_zero, List.setIfInBounds_toArray, List.set_cons_zero, List.set_cons_succ]
      refine wpAnyH_take (i := 3) (v := ?_) rfl (by kernel_rfl) (by kernel_rfl) (by kernel_rfl) (fun _ _ _ h => h) (Or.inl ⟨by rfl, ?_⟩) (by assumption) ?_
      rotate_left 1
      · (intro W hW; clear hW; go_simp; try with_reducible rfl)
      simp only [Act.put, List.getElem_toArray, List.getElem_cons_succ, List.getElem_cons_zero, List.setIfInBounds_toArray, List.set_cons_zero, List.set_cons_succ]
      refine wpAnyH_take (i := 4) (v := ?_) rfl (by kernel_rfl) (by kernel_rfl) (by kernel_rfl) (fun _ _ _ h => h) (Or.inl ⟨by rfl, ?_⟩) (by assumption) ?_
      rotate_left 1
      · (intro W hW; clear hW; go_simp; try with_reducible rfl)
      simp only [Act.put, List.getElem_toArray, List.getElem_cons_succ, List.getElem_cons_zero, List.setIfInBounds_toArray, List.set_cons_zero, List.set_cons_succ]
      refine wpAnyH_take (i := 5) (v := ?_) rfl (by kernel_rfl) (by kernel_rfl) (by kernel_rfl) (fun _ _ _ h => h) (Or.inl ⟨by rfl, ?_⟩) (by assumption) ?_
      rotate_left 1
      · (intro W hW; skip; go_simp; try with_reducible rfl)
      simp only [Act.put, List.getElem_toArray, List.getElem_cons_succ, List.getElem_cons_zero, List.setIfInBounds_toArray, List.set_cons_zero, List.set_cons_succ]
      refine wpAnyH_take (i := 6) (v := ?_) rfl (by kernel_rfl) (by kernel_rfl) (by kernel_rfl) (fun _ _ _ h => h) (Or.inl ⟨by rfl, ?_⟩) (by assumption) ?_
      rotate_left 1
      · (intro W hW; clear hW; go_simp; try with_reducible rfl)
      simp only [Act.put, List.getElem_toArray, List.getElem_cons_succ, List.getElem_cons_zero, List.setIfInBounds_toArray, List.set_cons_zero, List.set_cons_succ]
      refine wpAnyH_ready (rs := [0, 7]) (by kernel_rfl) (by simp) ?_
      refine AllReadyH.cons rfl (fun K hK => ?_) (AllReadyH.cons rfl (fun K hK => ?_) AllReadyH.nil)
      · go_simp
        skip
        refine hK.out _ _ (hqs.off _) (fun hHeld => ?_)
        clear hK K
        try simp only [Act.put, List.getElem_toArray, List.getElem_cons_zero, List.setIfInBounds_toArray, List.set_cons_zero, List.set_cons_succ]
        refine wpAnyH_ready (rs := [7]) (by kernel_rfl) (by simp) ?_
        refine AllReadyH.cons rfl (fun K hK => ?_) AllReadyH.nil
        go_simp
        skip
        refine hK.out _ _ ((hqs.alloc _).off _) (fun hHeld => ?_)
        clear hK K
        try simp only [Act.put, List.getElem_toArray, List.getElem_cons_succ, List.getElem_cons_zero, List.setIfInBounds_toArray, List.set_cons_zero, List.set_cons_succ]
        refine wpAnyH_ready (rs := [8]) (by kernel_rfl) (by simp) ?_
        refine AllReadyH.cons rfl (fun K hK => ?_) AllReadyH.nil
        refine step_append_off rfl _ _ 30 rfl wl.heap.size 37 _ 24 Try.underlying30 infoT5 rfl (by decide) hrq ⟨d, b, who⟩ rfl rfl (by simp [encT, Value.oneCell']) rfl rfl (by omega) (by decide) hbq ?_
        intro g3 c3 w3 hrow3 hoff3 hob3
        have hk3' := hoff3.whole hkq (fun z => hKF _ z rfl)
        have x0 := hk3'.cell 0
        have x1 := hk3'.frozen 0
        have ho3 := Off.trans (hqs.off F) hoff3 (fun b _ z => hFv b z)
        refine hK.out _ _ (ho3) (fun hHeld => ?_)
        clear hK K
        try simp only [Act.put, List.getElem_toArray, List.getElem_cons_succ, List.getElem_cons_zero, List.setIfInBounds_toArray, List.set_cons_zero, List.set_cons_succ]
        refine wpAnyH_ready (rs := [9]) (by kernel_rfl) (by simp) ?_
        refine AllReadyH.cons rfl (fun K hK => ?_) AllReadyH.nil
        go_simp
        skip
        refine hK.out _ _ (ho3.setCell (p := ⟨w1.heap.size, 0, none⟩) (.inr hFK) _) (fun hHeld => ?_)
        clear hK K
        try simp only [Act.put, List.getElem_toArray, List.getElem_cons_succ, List.getElem_cons_zero, List.setIfInBounds_toArray, List.set_cons_zero, List.set_cons_succ]
        refine wpAnyH_done (by kernel_rfl) ?_ _
        refine ⟨rfl, ?_⟩
        have hWq : W.heap.size ≤ wq.heap.size := by have := Since.size_ (Since.trans hb3 hqs); omega
        gi_wp2
        refine ⟨fun b => b = w1.heap.size ∨ b = g3, ⟨.slice (some ⟨g3, 0, none⟩) ((pre.filterMap tilW).length + 1) c3, fun b => by simp [Value.ownBlock, eq_comm], hk3'.set_ 0 _, ?_⟩, ((Since.off hb3 F).trans ho3 (fun _ _ z => z)).setCell (p := ⟨w1.heap.size, 0, none⟩) (.inr hFK) _, ?_⟩
        · have e1 : (pre ++ [((d, b), PT.leaf g2 who)]).filterMap tilW = pre.filterMap tilW ++ [⟨d, b, who⟩] := by simp [tilW]
          show RowE _ _ _ _ _ _ ((pre ++ [((d, b), PT.leaf g2 who)]).filterMap tilW)
          rw [e1]
          exact hrow3.far (p := ⟨w1.heap.size, 0, none⟩) (by show w1.heap.size < wl.heap.size; have := HSZ.out; omega) _
        · rintro y (rfl | rfl)
          · exact .inl hFK
          · rcases hob3 with z | z
            · exact .inl (hFv _ z)
            · exact .inr (Nat.le_trans hWq z)
      · go_simp
        skip
        refine hK.out _ _ ((hqs.alloc _).off _) (fun hHeld => ?_)
        clear hK K
        try simp only [Act.put, List.getElem_toArray, List.getElem_cons_succ, List.getElem_cons_zero, List.setIfInBounds_toArray, List.set_cons_zero, List.set_cons_succ]
        refine wpAnyH_ready (rs := [0]) (by kernel_rfl) (by simp) ?_
        refine AllReadyH.cons rfl (fun K hK => ?_) AllReadyH.nil
        go_simp
        skip
        refine hK.out _ _ ((hqs.alloc _).off _) (fun hHeld => ?_)
        clear hK K
        try simp only [Act.put, List.getElem_toArray, List.getElem_cons_zero, List.setIfInBounds_toArray, List.set_cons_zero, List.set_cons_succ]
        refine wpAnyH_ready (rs := [8]) (by kernel_rfl) (by simp) ?_
        refine AllReadyH.cons rfl (fun K hK => ?_) AllReadyH.nil
        refine step_append_off rfl _ _ 30 rfl wl.heap.size 37 _ 24 Try.underlying30 infoT5 rfl (by decide) hrq ⟨d, b, who⟩ rfl rfl (by simp [encT, Value.oneCell']) rfl rfl (by omega) (by decide) hbq ?_
        intro g3 c3 w3 hrow3 hoff3 hob3
        have hk3' := hoff3.whole hkq (fun z => hKF _ z rfl)
        have x0 := hk3'.cell 0
        have x1 := hk3'.frozen 0
        have ho3 := Off.trans (hqs.off F) hoff3 (fun b _ z => hFv b z)
        refine hK.out _ _ (ho3) (fun hHeld => ?_)
        clear hK K
        try simp only [Act.put, List.getElem_toArray, List.getElem_cons_succ, List.getElem_cons_zero, List.setIfInBounds_toArray, List.set_cons_zero, List.set_cons_succ]
        refine wpAnyH_ready (rs := [9]) (by kernel_rfl) (by simp) ?_
        refine AllReadyH.cons rfl (fun K hK => ?_) AllReadyH.nil
        go_simp
        skip
        refine hK.out _ _ (ho3.setCell (p := ⟨w1.heap.size, 0, none⟩) (.inr hFK) _) (fun hHeld => ?_)
        clear hK K
        try simp only [Act.put, List.getElem_toArray, List.getElem_cons_succ, List.getElem_cons_zero, List.setIfInBounds_toArray, List.set_cons_zero, List.set_cons_succ]
        refine wpAnyH_done (by kernel_rfl) ?_ _
        refine ⟨rfl, ?_⟩
        have hWq : W.heap.size ≤ wq.heap.size := by have := Since.size_ (Since.trans hb3 hqs); omega
        gi_wp2
        refine ⟨fun b => b = w1.heap.size ∨ b = g3, ⟨.slice (some ⟨g3, 0, none⟩) ((pre.filterMap tilW).length + 1) c3, fun b => by simp [Value.ownBlock, eq_comm], hk3'.set_ 0 _, ?_⟩, ((Since.off hb3 F).trans ho3 (fun _ _ z => z)).setCell (p := ⟨w1.heap.size, 0, none⟩) (.inr hFK) _, ?_⟩
        · have e1 : (pre ++ [((d, b), PT.leaf g2 who)]).filterMap tilW = pre.filterMap tilW ++ [⟨d, b, who⟩] := by simp [tilW]
          show RowE _ _ _ _ _ _ ((pre ++ [((d, b), PT.leaf g2 who)]).filterMap tilW)
          rw [e1]
          exact hrow3.far (p := ⟨w1.heap.size, 0, none⟩) (by show w1.heap.size < wl.heap.size; have := HSZ.out; omega) _
        · rintro y (rfl | rfl)
          · exact .inl hFK
          · rcases hob3 with z | z
            · exact .inl (hFv _ z)
            · exact .inr (Nat.le_trans hWq z)
end Go.Proofs.Ytbbnojfecmocgaa
