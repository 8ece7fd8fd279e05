/- tiling: gaps, Whole. -/
import Derived.Test.YtgnhamhkpbadbaaGUnder
namespace Go.Proofs.Ytgnhamhkpbadbaa
open Go.RowKit Go.Shelf
attribute [local go_sem] Oper.semAt_some
set_option linter.unusedVariables false
/-- A node's path, if it is a gap. -/
def gapW (x : (Int × Int) × PT) : Option (Int × Int) := if x.2.isGap = true then some x.1 else none
theorem walk_gaps : ∀ (q : PT) (d b : Int), q.tr.norm → (q.walk d b).filterMap gapW = q.tr.gaps d b
  | .gap, _, _, _ => rfl
  | .leaf _ _, _, _, _ => rfl
  | .node g z l r, d, b, h => by
    show (((d, b), PT.node g z l r) :: (l.walk (d + 1) (2 * b) ++ r.walk (d + 1) (2 * b + 1))).filterMap gapW = Tr.gaps (.node l.tr r.tr) d b
    rw [List.filterMap_cons_none (by rfl), List.filterMap_append, walk_gaps l _ _ h.2.1, walk_gaps r _ _ h.2.2]
    show _ = if (l.tr.bare && r.tr.bare) = true then [(d, b)] else l.tr.gaps (d + 1) (2 * b) ++ r.tr.gaps (d + 1) (2 * b + 1)
    rw [if_neg (fun z => by
      rw [Bool.and_eq_true] at z
      exact h.1 ⟨Tr.norm_bare h.2.1 z.1, Tr.norm_bare h.2.2 z.2⟩)]
abbrev encP (x : Int × Int) : Array Value := #[.agg #[.int .i64 x.1, .int .i64 x.2]]
theorem gaps_any (v : Value) (o : Option Addr) (hv : v = .pointer o) (w : World) : Calls Try.prog 70 #[v] w fun e w' => e = .returned (.func (.func 114) #[] #[.pointer (some ⟨w.heap.size, 0, none⟩)]) ∧ w' = w.alloc (.cells #[v] 29) := by
  have hmf : ∀ (fn : Fn) (first cap : Array Value) (w : World), (Instr.makeFunc fn first cap).run Try.prog w = .ok (.func fn first cap) w := fun _ _ _ _ => rfl
  subst hv
  go_enter Try.func70, Try.ntmps70
  go_wp2
  go_ret
  exact ⟨rfl, rfl⟩
theorem Off.put {F : Nat → Prop} {W W' : World} (h : Off F W W') {D : Nat} (hD : W.heap.size ≤ D) (o : Obj) : Off F W (W'.putObj D o) := h.trans (off_putObj W' D o) (fun b hb z => by have z' : b = D := z; omega)
/-- What the outer loop has, beside the box of its yield. -/
def gapI (J : List (Int × Int) → (Nat → Prop) → World → Prop) (l YB : Nat) (pre : List ((Int × Int) × PT)) (F : Nat → Prop) (W : World) : Prop :=
  ∃ F1, J (pre.filterMap gapW) F1 W ∧ (∀ b, F b ↔ (F1 b ∨ b = YB)) ∧ ¬ F1 YB ∧ Whole W YB 141 #[.func (.yield l) #[] #[]]
theorem gapI_kept {J : List (Int × Int) → (Nat → Prop) → World → Prop} {l YB : Nat} (kJ : Kept J) : Kept (gapI J l YB) := by
  rintro pre F W W' ⟨F1, h1, h2, h4, h3⟩ hs hb
  exact ⟨F1, kJ _ _ _ _ h1 hs (fun b z => hb b ((h2 b).2 (.inl z))), h2, h4, (hb YB ((h2 YB).2 (.inr rfl))).trans h3⟩
theorem gapI_low {J : List (Int × Int) → (Nat → Prop) → World → Prop} {l YB : Nat} (lJ : Low J) : Low (gapI J l YB) := by
  rintro pre F W ⟨F1, h1, h2, h4, h3⟩ b hb
  rcases (h2 b).1 hb with z | rfl
  · exact lJ _ _ _ h1 b z
  · exact h3.lt
set_option maxRecDepth 100000 in
set_option maxHeartbeats 3200000 in
theorem gaps_seq {g : Nat} {p : PT} {k : Int} {w : World} (h : TilO g p k w) {XB : Nat} (hx : Whole w XB 29 #[.pointer (some ⟨g, 0, none⟩)]) :
    SeqO 114 #[.pointer (some ⟨XB, 0, none⟩)] encP (p.tr.gaps 0 0) (fun x => x ∈ g :: p.bl ∨ x = XB) w := by
  rw [← walk_gaps p 0 0 h.norm]
  intro l J Jx F0 W hsz hGW hFG kJ lJ kX lX hY hJ
  have hO : TilO g p k W := h.keep (fun b hb => hGW b (.inl hb))
  have hxW : Whole W XB 29 #[.pointer (some ⟨g, 0, none⟩)] := (hGW XB (.inr rfl)).trans hx
  have hFlt := lJ _ _ _ hJ
  have hx0 := hxW.alloc (.cells #[.func (.yield l) #[] #[]] 141)
  have c0 := hx0.cell 0
  have hplt := hO.lt
  have hxlt := hxW.lt
  have hseq0 := fun W1 (hW : Since W W1) X2 P2 hx hp => below_seq (hO.since hW) 0 0 (XB := X2) (PB := P2) hx hp
  rw [atP_root h.kb] at hseq0
  have HSQ := Lib.hid hseq0
  have hFG' : ∀ b, b ∈ g :: p.bl → ¬ F0 b := fun b hb z => hFG b z (.inl hb)
  clear hseq0 hFG hGW hsz hx h hO
  show Calls Try.prog 114 #[.func (.yield l) #[] #[], .pointer (some ⟨XB, 0, none⟩)] W _
  refine (callsIn_wide (n := 0)).1 ?_
  refine callsIn_of_wp_marks Try.func114 rfl trivial ?_ rfl
  refine wpIn_wide.2 ?_
  simp only [Try.ntmps114, List.size_toArray, List.length_cons, List.length_nil, Nat.reduceAdd, Nat.reduceSub, Array.replicate_succ, Array.replicate_zero, List.push_toArray, List.append_toArray, List.nil_append, List.cons_append]
  go_wp2_with (go_at_call 61; (with_reducible refine (below_any _ _ rfl _ _ _).mono ?_); rintro e w2 ⟨rfl, hw2⟩)
  subst hw2
  obtain ⟨wl, hwl⟩ : ∃ wl, wl = (((W.alloc (.cells #[.func (.yield l) #[] #[]] 141)).alloc (.cells #[.pointer (some ⟨g, 0, none⟩)] 29)).alloc (.cells #[.int .i64 0, .int .i64 0] 27)) := ⟨_, rfl⟩
  rw [← hwl]
  have hsl : Since W wl := by rw [hwl]; exact (((Since.refl W).alloc _).alloc _).alloc _
  have whY : Whole wl W.heap.size 141 #[.func (.yield l) #[] #[]] := by rw [hwl]; exact ((Whole.new W _ _).alloc _).alloc _
  have whX : Whole wl (W.heap.size + 1) 29 #[.pointer (some ⟨g, 0, none⟩)] := by rw [hwl]; exact ((Whole.new (W.alloc _) _ _).at_ (by simp)).alloc _
  have whP : Whole wl (W.heap.size + 1 + 1) 27 #[.int .i64 0, .int .i64 0] := by rw [hwl]; exact (Whole.new ((W.alloc _).alloc _) _ _).at_ (by simp)
  have HSZ := Lib.hid (show wl.heap.size = W.heap.size + 3 by rw [hwl]; simp)
  clear hwl c0 hx0
  have hseq := HSQ.out wl hsl _ _ whX whP
  refine (wpIn_wide (n := 0)).1 ?_
  refine range_wp (gf := 108) (lb := #[.pointer (some ⟨W.heap.size + 1 + 1, 0, none⟩), .pointer (some ⟨W.heap.size + 1, 0, none⟩)]) rfl (enters_of Try.func108 (by kernel_rfl) rfl) hseq ?hG (fun _ => rfl)
    (gapI J l W.heap.size) (fun c pre F W1 => c = .ret ∧ Jx (pre.filterMap gapW) F W1) (gapI_kept kJ) (gapI_low lJ) (fun c pre F W1 W2 h1 h2 h3 => ⟨h1.1, kX _ _ _ _ h1.2 h2 h3⟩) (fun c pre F W1 h1 => lX _ _ _ h1.2)
    (fun b => F0 b ∨ b = W.heap.size) ?hF0 ?h0 ?round ?done ?stop
  case hG =>
    have hszl := HSZ.out
    rintro b (z | rfl | rfl)
    · have := hplt b z; omega
    · omega
    · omega
  case hF0 =>
    rintro b hb (z | z | z)
    · rcases hb with y | y
      · exact hFG' b z y
      · have := hplt b z; omega
    · rcases hb with y | y
      · have := hFlt b y; omega
      · omega
    · rcases hb with y | y
      · have := hFlt b y; omega
      · omega
  case h0 => exact ⟨F0, kJ.since lJ hJ hsl, fun b => Iff.rfl, fun z => Nat.lt_irrefl _ (hFlt _ z), whY⟩
  case stop =>
    rintro D c pre W1 hD hpre ⟨F', ⟨rfl, h1⟩, ho, hf, hnd⟩ hdd
    have hszl := HSZ.out
    have hof : Off F0 W W1 := (hsl.off F0).trans ho (fun b hb z => by
      have z' : F0 b ∨ b = W.heap.size := z
      exact z'.resolve_right (by omega))
    have hfin : EndP Jx (pre.filterMap gapW) F0 W (W1.putObj D (.deferred none)) := ⟨F', kX _ _ _ _ h1 (by simp) (fun b z => World.putObj_heap_other (fun y => hnd (y ▸ z))), hof.put (by omega) _, fun b z => by
      rcases hf b z with (y | y) | y
      · exact .inl y
      · exact .inr (by omega)
      · exact .inr (by omega)⟩
    have hpx : pre.filterMap gapW <+: (p.walk 0 0).filterMap gapW := List.IsPrefix.filterMap _ hpre
    have HF := Lib.hid (And.intro hfin hpx)
    have HDD := Lib.hid hdd
    clear hfin hpx hof ho hf h1 hdd hD hszl
    refine wpIn_wide.2 ?_
    go_wp2
    refine ⟨by simp, .inl ⟨_, _, rfl, run_takeDeferred HDD.out, ?_⟩⟩
    exact ⟨.tuple #[], by simp [results, Try.results114, go_sem], ⟨⟨_, rfl⟩, .inr ⟨_, HF.out.2, HF.out.1⟩⟩⟩
  case done =>
    rintro D W1 hD ⟨F', ⟨F1, hj, hF', hnY, hk⟩, ho, hf, hnd⟩ hdd
    have hszl := HSZ.out
    have hof : Off F0 W W1 := (hsl.off F0).trans ho (fun b hb z => by
      have z' : F0 b ∨ b = W.heap.size := z
      exact z'.resolve_right (by omega))
    have hfin : EndP J ((p.walk 0 0).filterMap gapW) F0 W (W1.putObj D (.deferred none)) := ⟨F1, kJ _ _ _ _ hj (by simp) (fun b z => World.putObj_heap_other (fun y => hnd ((hF' D).2 (.inl (y ▸ z))))), hof.put (by omega) _, fun b z => by
      rcases hf b ((hF' b).2 (.inl z)) with (y | y) | y
      · exact .inl y
      · exact .inr (by omega)
      · exact .inr (by omega)⟩
    have HF := Lib.hid hfin
    have HDD := Lib.hid hdd
    clear hfin hof ho hf hj hdd hD hszl
    go_wp2
    refine ⟨by simp, .inl ⟨_, _, rfl, run_takeDeferred HDD.out, ?_⟩⟩
    exact ⟨.tuple #[], by simp [results, Try.results114, go_sem], ⟨⟨_, rfl⟩, .inl HF.out⟩⟩
  case round =>
    rintro l2 pre ⟨⟨d, b⟩, x⟩ F W1 hpre ⟨F1, hj, hF, hnY, hk⟩ hoff hwl hl hFl
    have hszl := HSZ.out
    have hFY : F W.heap.size := (hF _).2 (.inr rfl)
    have hFF : ∀ b, F1 b → F b := fun b z => (hF b).2 (.inl z)
    have hYl : W.heap.size ≠ l2 := fun z => hFl (z ▸ hFY)
    have hkl := hk.lt
    have hpx : (pre ++ [((d, b), x)]).filterMap gapW <+: (p.walk 0 0).filterMap gapW := List.IsPrefix.filterMap _ hpre
    have hofW : Off F0 W W1 := (hsl.off F0).trans hoff (fun b hb z => by
      have z' : F0 b ∨ b = W.heap.size := z
      exact z'.resolve_right (by omega))
    have hszW := hofW.size
    have HPX := Lib.hid hpx
    have HY := Lib.hid hY
    clear hseq hpre whY whX whP hpx hoff hY
    gi_wp2
    refine ⟨(Since.refl W1).alloc _, fun W2 hz2 ho2 => ?_⟩
    have hz2' : W2.heap.size = W1.heap.size + 1 := by rw [hz2]; simp
    have ha : Whole (W1.alloc (.cells #[.int .i64 d, .int .i64 b] 27)) W1.heap.size 27 #[.int .i64 d, .int .i64 b] := Whole.new W1 _ _
    have ha2 := ho2.whole ha (fun z => by have z' : W1.heap.size = l2 := z; omega)
    have hk2 := ho2.whole (hk.alloc (.cells #[.int .i64 d, .int .i64 b] 27)) hYl
    have hj2 : J (pre.filterMap gapW) F1 W2 := kJ.off lJ (kJ.since lJ hj ((Since.refl W1).alloc (.cells #[.int .i64 d, .int .i64 b] 27))) ho2 (fun b z y => hFl (by have y' : b = l2 := y; rw [← y']; exact hFF b z))
    have hof2 : Off F0 W W2 := (hofW.since ((Since.refl W1).alloc (.cells #[.int .i64 d, .int .i64 b] 27))).trans ho2 (fun b hb z => by have z' : b = l2 := z; omega)
    have a0 := ha2.cell 0
    have a1 := ha2.cell 1
    have y0 := hk2.cell 0
    have hsame : (pre ++ [((d, b), x)]).filterMap gapW = pre.filterMap gapW → ∃ F', gapI J l W.heap.size (pre ++ [((d, b), x)]) F' W2 ∧ Off F W2 W2 ∧ ∀ b, F' b → F b ∨ W1.heap.size ≤ b := fun e =>
      ⟨F, ⟨F1, by rw [e]; exact hj2, hF, hnY, hk2⟩, Off.refl _ _, fun _ z => .inl z⟩
    have HSM := Lib.hid hsame
    clear hsame hk hj hofW ho2 ha hz2 hszl
    cases x with
    | leaf g2 who =>
      simp only [PT.v]
      gi_wp2
      refine ⟨fun _ h => (by cases h), ?_⟩
      gi_wp2
      exact HSM.out (by simp [gapW, PT.isGap])
    | node g2 z2 a c =>
      simp only [PT.v]
      gi_wp2
      refine ⟨fun _ h => (by cases h), ?_⟩
      gi_wp2
      exact HSM.out (by simp [gapW, PT.isGap])
    | gap =>
      have e1 : (pre ++ [((d, b), PT.gap)]).filterMap gapW = pre.filterMap gapW ++ [(d, b)] := by simp [gapW, PT.isGap]
      obtain ⟨fn, tmps, assign, body, hyy, hR⟩ := HY.out (pre.filterMap gapW) (d, b) F1 W2 (e1 ▸ HPX.out) hj2 hof2 0
      dsimp only [encP] at hyy
      simp only [PT.v]
      gi_wp2
      have hR2 : RoundIn (Fence.wide.inRound l2) 0 Try.prog l fn tmps assign body W2 (RndP J Jx (pre.filterMap gapW) (d, b) F1 W2) := hR
      refine ⟨rfl, hR2.mono ?_⟩
      rintro e W3 (⟨rfl, F3, j1, j2, j3⟩ | ⟨rfl, F3, j1, j2, j3⟩)
      · gi_wp2
        refine ⟨fun b => F3 b ∨ b = W.heap.size, ⟨F3, by rw [e1]; exact j1, fun _ => Iff.rfl, fun z => ?_, j2.whole hk2 hnY⟩, j2.mono (fun b _ z => hFF b z), ?_⟩
        · rcases j3 _ z with y | y
          · exact hnY y
          · omega
        · rintro y (z | rfl)
          · exact (j3 y z).imp (hFF y) (fun z => by omega)
          · exact .inl hFY
      · gi_wp2
        refine ⟨F3, ⟨rfl, by rw [e1]; exact j1⟩, j2.mono (fun b _ z => hFF b z), fun y z => (j3 y z).imp (hFF y) (fun z => by omega)⟩
/-- Nothing has come yet. -/
def whoI (RB : Nat) (pre : List (Int × Int)) (F : Nat → Prop) (W : World) : Prop := pre = [] ∧ (∀ b, F b ↔ b = RB) ∧ Whole W RB 4 #[.bool false]
theorem whoI_kept {RB : Nat} : Kept (whoI RB) := fun pre F W W' ⟨h1, h2, h3⟩ _ hb => ⟨h1, h2, (hb RB ((h2 RB).2 rfl)).trans h3⟩
theorem whoI_low {RB : Nat} : Low (whoI RB) := fun pre F W ⟨h1, h2, h3⟩ b hb => by rw [(h2 b).1 hb]; exact h3.lt
set_option maxRecDepth 100000 in
set_option maxHeartbeats 3200000 in
theorem whole_any {g : Nat} {p : PT} {k : Int} {w : World} (h : TilO g p k w) : Calls Try.prog 28 #[.pointer (some ⟨g, 0, none⟩)] w fun e W' => e = .returned (.bool (p.tr.gaps 0 0).isEmpty) ∧ Below w.heap.size w W' := by
  have hplt := h.lt
  have HSQ := Lib.hid (fun W (hW : Since w W) XB hx => gaps_seq (h.since hW) (XB := XB) hx)
  obtain ⟨xs, hxs⟩ : ∃ xs, xs = p.tr.gaps 0 0 := ⟨_, rfl⟩
  rw [← hxs] at HSQ ⊢
  clear hxs
  obtain ⟨w0, hw0⟩ : ∃ w0, w0 = w.alloc (.cells #[.bool false] 4) := ⟨_, rfl⟩
  have hs0 : Since w w0 := by rw [hw0]; exact (Since.refl w).alloc _
  have wh0 : Whole w0 w.heap.size 4 #[.bool false] := by rw [hw0]; exact Whole.new w _ _
  have HW := Lib.hid hw0
  have HM := Lib.hid (fun W (hW : Since w0 W) => made_yes (h.since (hs0.trans hW)))
  have hsr := Since.refl w0
  clear hw0
  refine (callsIn_wide (n := 0)).1 ?_
  refine callsIn_of_wp_marks Try.func28 rfl trivial ?_ rfl
  refine wpIn_wide.2 ?_
  simp only [Try.ntmps28, List.size_toArray, List.length_cons, List.length_nil, Nat.reduceAdd, Nat.reduceSub, Array.replicate_succ, Array.replicate_zero, List.push_toArray, List.append_toArray, List.nil_append, List.cons_append]
  go_wp2_with fail
  rw [← HW.out]
  go_wp2_with (first
    | (go_at_call 49; (with_reducible refine (Calls.since (by assumption) (HM.out _ (by assumption))).mono ?_); rintro e w1 ⟨rfl, hb1⟩)
    | (go_at_call 70; (with_reducible refine (gaps_any _ _ rfl _).mono ?_); rintro e w2 ⟨rfl, hw2⟩))
  subst hw2
  obtain ⟨wl, hwl⟩ : ∃ wl, wl = w1.alloc (.cells #[.pointer (some ⟨g, 0, none⟩)] 29) := ⟨_, rfl⟩
  rw [← hwl]
  have hbl : Since w0 wl := by rw [hwl]; exact Since.alloc hb1 _
  have whX : Whole wl w1.heap.size 29 #[.pointer (some ⟨g, 0, none⟩)] := by rw [hwl]; exact Whole.new w1 _ _
  have HSZ := Lib.hid (show wl.heap.size = w1.heap.size + 1 by rw [hwl]; simp)
  have hs0l : Since w wl := hs0.trans hbl
  have hwr := Since.whole hbl wh0
  have hw1 : w.heap.size < w1.heap.size := by have := (Since.whole hb1 wh0).lt; omega
  clear hwl hsr
  have hseq := HSQ.out wl hs0l _ whX
  refine (wpIn_wide (n := 0)).1 ?_
  refine range_wp (gf := 114) (lb := #[.pointer (some ⟨w1.heap.size, 0, none⟩)]) rfl (enters_of Try.func114 (by kernel_rfl) rfl) hseq ?hG (fun _ => rfl)
    (whoI w.heap.size) (fun c pre F W1 => c = .ret ∧ pre ≠ [] ∧ (∀ b, F b ↔ b = w.heap.size) ∧ Whole W1 w.heap.size 4 #[.bool false]) whoI_kept whoI_low
    (fun c pre F W W' h _ hb => ⟨h.1, h.2.1, h.2.2.1, (hb _ ((h.2.2.1 _).2 rfl)).trans h.2.2.2⟩) (fun c pre F W h b hb => by rw [(h.2.2.1 b).1 hb]; exact h.2.2.2.lt)
    (fun b => b = w.heap.size) ?hF0 ?h0 ?round ?done ?stop
  case hG =>
    have hszl := HSZ.out
    rintro b (z | rfl)
    · have := hplt b z; have := hs0l.size_; omega
    · omega
  case hF0 =>
    rintro b rfl (z | z)
    · have := hplt _ z; omega
    · omega
  case h0 => exact ⟨rfl, fun b => Iff.rfl, hwr⟩
  case stop =>
    rintro D c pre W1 hD hpre ⟨F', ⟨rfl, h1, h2, hk⟩, ho, hf, hnd⟩ hdd
    have hne : xs.isEmpty = false := by
      cases xs with
      | nil => exact absurd (List.prefix_nil.1 hpre) h1
      | cons _ _ => rfl
    have hszl := HSZ.out
    have hb0 : Since w W1 := Below.trans hs0l (ho.below (by omega) (fun b z => by have z' : b = w.heap.size := z; omega))
    have hk2 : Whole (W1.putObj D (.deferred none)) w.heap.size 4 #[.bool false] := (World.putObj_heap_other (by omega)).trans hk
    have y4 := hk2.cell 0
    have hbf : Below w.heap.size w (W1.putObj D (.deferred none)) := Below.trans hb0 (belowK_b (w := w) (Nat.le_refl _) _ D _ _ (by omega) hdd rfl rfl)
    have HF := Lib.hid hbf
    have HDD := Lib.hid hdd
    clear hbf hb0 ho hf h1 h2 hdd hD hszl hk2 hk
    refine wpIn_wide.2 ?_
    go_wp2
    refine ⟨by simp, .inl ⟨_, _, rfl, run_takeDeferred HDD.out, ?_⟩⟩
    exact ⟨.bool false, by simp [results, Try.results28, go_sem, y4], by rw [hne], HF.out⟩
  case done =>
    rintro D W1 hD ⟨F', ⟨rfl, hF', hk⟩, ho, hf, hnd⟩ hdd
    have hszl := HSZ.out
    have hb0 : Since w W1 := Below.trans hs0l (ho.below (by omega) (fun b z => by have z' : b = w.heap.size := z; omega))
    have x1 := hk.cell 0
    have x2 := hk.frozen 0
    have hk1 := hk.set_ 0 (.bool true)
    have hk2 : Whole ((W1.setCell ⟨w.heap.size, 0, none⟩ (.bool true)).putObj D (.deferred none)) w.heap.size 4 #[.bool true] := (World.putObj_heap_other (by omega)).trans hk1
    have y4 := hk2.cell 0
    have hdd1 : (W1.setCell ⟨w.heap.size, 0, none⟩ (.bool true)).heap[D]? = some (.deferred (some [])) := (Below.heap_setCell _ _ _ D (show D ≠ w.heap.size by omega)).trans hdd
    have hbf : Below w.heap.size w ((W1.setCell ⟨w.heap.size, 0, none⟩ (.bool true)).putObj D (.deferred none)) := Below.trans (Below.setCell hb0 (p := ⟨w.heap.size, 0, none⟩) (by simp) _) (belowK_b (w := w) (Nat.le_refl _) _ D _ _ (by omega) hdd1 rfl rfl)
    have HF := Lib.hid hbf
    have HDD := Lib.hid hdd1
    clear hbf hb0 ho hf hF' hdd hdd1 hD hszl hk2 hk hk1
    go_wp2
    refine ⟨by simp, .inl ⟨_, _, rfl, run_takeDeferred HDD.out, ?_⟩⟩
    exact ⟨.bool true, by simp [results, Try.results28, go_sem, y4], rfl, HF.out⟩
  case round =>
    rintro l2 pre ⟨d, b⟩ F W1 hpre ⟨rfl, hF, hk⟩ hoff hwl hl hFl
    have hFY : F w.heap.size := (hF _).2 rfl
    have hYl : w.heap.size ≠ l2 := fun z => hFl (z ▸ hFY)
    clear hseq hpre hoff
    gi_wp2
    refine ⟨Since.refl W1, fun W2 hz2 ho2 => ?_⟩
    have hk2 := ho2.whole hk hYl
    have x1 := hk2.cell 0
    have x2 := hk2.frozen 0
    have hfin : ∃ F' : Nat → Prop, (Code.ret = Code.ret ∧ ([] ++ [(d, b)]) ≠ ([] : List (Int × Int)) ∧ (∀ b, F' b ↔ b = w.heap.size) ∧ Whole (W2.setCell ⟨w.heap.size, 0, none⟩ (.bool false)) w.heap.size 4 #[.bool false]) ∧ Off F W2 (W2.setCell ⟨w.heap.size, 0, none⟩ (.bool false)) ∧ ∀ b, F' b → F b ∨ W1.heap.size ≤ b :=
      ⟨F, ⟨rfl, by simp, hF, hk2.set_ 0 _⟩, (Off.refl F W2).setCell (p := ⟨w.heap.size, 0, none⟩) (.inr hFY) _, fun _ z => .inl z⟩
    have HF := Lib.hid hfin
    clear hfin hk2 hk ho2
    gi_wp2
    obtain ⟨F', ⟨_, h2, h3, h4⟩, h5, h6⟩ := HF.out
    exact ⟨F', ⟨rfl, h2, h3, h4⟩, h5, h6⟩
end Go.Proofs.Ytgnhamhkpbadbaa
