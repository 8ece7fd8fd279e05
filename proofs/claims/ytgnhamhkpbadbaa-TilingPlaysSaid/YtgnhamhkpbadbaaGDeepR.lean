/- tiling: Deepest. -/
import Derived.Test.YtgnhamhkpbadbaaGUnder
namespace Go.Proofs.Ytgnhamhkpbadbaa
open Go.RowKit Go.Shelf
attribute [local go_sem] Oper.semAt_some
set_option linter.unusedVariables false
/-- The first pair of the greatest depth, node by node. -/
def pairStep (o : Option (Int × Int)) (x : (Int × Int) × PT) : Option (Int × Int) := if (x.2.isPair && (match o with | none => true | some u => decide (u.1 < x.1.1))) = true then some x.1 else o
def parT (s : Tl) : Int × Int := (s.d - 1, s.b / 2)
/-- What meets a half meets the whole. -/
theorem met_half {e c d b b' : Int} (hb : b' = 2 * b ∨ b' = 2 * b + 1) (hf : fine d b = true) (hd : d < 32) (h : metB e c (d + 1) b' = true) : metB e c d b = true := by
  have ha : abvB d b (d + 1) b' = true := by rcases hb with rfl | rfl <;> first | exact abv_l hf hd | exact abv_r hf hd
  unfold metB at h ⊢
  rw [Bool.or_eq_true] at h ⊢
  rcases h with h | h
  · obtain ⟨f1, f2, f3, f4⟩ := (abvB_iff _ _ _ _).1 h
    obtain ⟨g1, g2, g3, g4⟩ := (abvB_iff _ _ _ _).1 ha
    rcases Int.lt_or_le d e with c1 | c1
    · have e1 : e = d + 1 := by omega
      have e2 := abv_eq h e1
      rw [e1, e2]
      exact .inr ha
    · refine .inl ((abvB_iff _ _ _ _).2 ⟨f1, hf, c1, ?_⟩)
      rw [← g4, pv_pv c1 g3]
      exact f4
  · exact .inr (abv_trans ha h)
theorem deep_walk_eq (L : List Tl) : ∀ (q : PT) (d b : Int) (pre post : List Tl) (o : Option Tl), 0 ≤ d → fine d b = true → d + q.tr.high ≤ 32 → q.tr.norm → L = pre ++ q.tr.tiles d b ++ post → (∀ x ∈ pre ++ post, metB x.d x.b d b = false) → (q.isLeaf = true → ∀ w, candB L ⟨d, b, w⟩ = false) →
    (q.walk d b).foldl pairStep (o.map parT) = (deepF L (q.tr.tiles d b) o).map parT
  | .gap, d, b, pre, post, o, _, _, _, _, _, _, _ => by simp [PT.walk, PT.tr, Tr.tiles, deepF, pairStep, PT.isPair]
  | .leaf g w, d, b, pre, post, o, _, _, _, _, _, _, hc => by
    have h1 := hc rfl w
    simp [PT.walk, PT.tr, Tr.tiles, deepF, pairStep, PT.isPair, deepStep, h1]
  | .node g z l r, d, b, pre, post, o, h0, hf, hh, hn, hL, hout, _ => by
    simp only [PT.tr, Tr.high] at hh
    have hd : d < 32 := by omega
    have hfl := fine_l hf hd
    have hfr := fine_r hf hd
    have hT2 : hasT L (d + 1) (2 * b + 1) = r.isLeaf := by
      rw [hL, hasT_mid (fun x hx hz => mid_half hf hd hout x hx ⟨hz.1, .inr hz.2⟩)]
      exact half_in2
    show (((d, b), PT.node g z l r) :: (l.walk (d + 1) (2 * b) ++ r.walk (d + 1) (2 * b + 1))).foldl pairStep (o.map parT) = (deepF L (l.tr.tiles (d + 1) (2 * b) ++ r.tr.tiles (d + 1) (2 * b + 1)) o).map parT
    rw [List.foldl_cons, List.foldl_append]
    unfold deepF
    rw [List.foldl_append]
    have hodd : ∀ w, candB L ⟨d + 1, 2 * b + 1, w⟩ = false := fun w => by
      unfold candB
      simp
    by_cases hp : l.isLeaf = true ∧ r.isLeaf = true
    · cases l with
      | gap => cases hp.1
      | node _ _ _ _ => cases hp.1
      | leaf g1 w1 =>
        cases r with
        | gap => cases hp.2
        | node _ _ _ _ => cases hp.2
        | leaf g2 w2 =>
          have hc : candB L ⟨d + 1, 2 * b, w1⟩ = true := by
            unfold candB
            simp only [hT2]
            have e1 : (2 * b) % 2 = 0 := by omega
            have e2 : 0 < d + 1 := by omega
            simp [e1, e2, PT.isLeaf]
          have e3 : 2 * b / 2 = b := by omega
          simp only [PT.walk, PT.tr, Tr.tiles, List.foldl_cons, List.foldl_nil]
          have e4 : ∀ o, pairStep o ((d + 1, 2 * b), PT.leaf g1 w1) = o := fun o => by simp [pairStep, PT.isPair]
          have e5 : ∀ o, pairStep o ((d + 1, 2 * b + 1), PT.leaf g2 w2) = o := fun o => by simp [pairStep, PT.isPair]
          have e6 : ∀ o, deepStep L o ⟨d + 1, 2 * b + 1, w2⟩ = o := fun o => by simp [deepStep, hodd]
          rw [e4, e5, e6]
          cases o with
          | none => simp [pairStep, PT.isPair, PT.isLeaf, deepStep, hc, deeperB, parT]
          | some u =>
            have e7 : (u.d - 1 < d) ↔ (u.d < d + 1) := by omega
            by_cases c : u.d < d + 1
            · simp [pairStep, PT.isPair, PT.isLeaf, deepStep, hc, deeperB, parT, e7, c]
            · simp [pairStep, PT.isPair, PT.isLeaf, deepStep, hc, deeperB, parT, e7, c]
    · have e1 : ∀ o, pairStep o ((d, b), PT.node g z l r) = o := fun o => by
        have : (PT.node g z l r).isPair = false := by
          refine Bool.eq_false_iff.2 fun y => hp ?_
          unfold PT.isPair at y
          rwa [Bool.and_eq_true] at y
        simp [pairStep, this]
      rw [e1]
      have hml : ∀ x ∈ pre ++ (r.tr.tiles (d + 1) (2 * b + 1) ++ post), metB x.d x.b (d + 1) (2 * b) = false := by
        intro x hx
        rcases List.mem_append.1 hx with hx | hx
        · refine Bool.eq_false_iff.2 fun y => ?_
          have h1 := hout x (List.mem_append.2 (.inl hx))
          rw [met_half (.inl rfl) hf hd y] at h1
          cases h1
        · rcases List.mem_append.1 hx with hx | hx
          · rw [metB_comm]
            exact (halves_apart hf hd (abv_self hfl) (Tr.tiles_abv r.tr _ _ hfr (by omega) x hx).1).2
          · refine Bool.eq_false_iff.2 fun y => ?_
            have h1 := hout x (List.mem_append.2 (.inr hx))
            rw [met_half (.inl rfl) hf hd y] at h1
            cases h1
      have hmr : ∀ x ∈ (pre ++ l.tr.tiles (d + 1) (2 * b)) ++ post, metB x.d x.b (d + 1) (2 * b + 1) = false := by
        intro x hx
        rcases List.mem_append.1 hx with hx | hx
        · rcases List.mem_append.1 hx with hx | hx
          · refine Bool.eq_false_iff.2 fun y => ?_
            have h1 := hout x (List.mem_append.2 (.inl hx))
            rw [met_half (.inr rfl) hf hd y] at h1
            cases h1
          · exact (halves_apart hf hd (Tr.tiles_abv l.tr _ _ hfl (by omega) x hx).1 (abv_self hfr)).2
        · refine Bool.eq_false_iff.2 fun y => ?_
          have h1 := hout x (List.mem_append.2 (.inr hx))
          rw [met_half (.inr rfl) hf hd y] at h1
          cases h1
      rw [deep_walk_eq L l (d + 1) (2 * b) pre (r.tr.tiles (d + 1) (2 * b + 1) ++ post) o (by omega) hfl (by omega) hn.2.1 (by rw [hL]; simp [PT.tr, Tr.tiles]) hml (fun hl w => by
        unfold candB
        have : r.isLeaf = false := Bool.eq_false_iff.2 fun y => hp ⟨hl, y⟩
        simp [hT2, this])]
      exact deep_walk_eq L r (d + 1) (2 * b + 1) (pre ++ l.tr.tiles (d + 1) (2 * b)) post _ (by omega) hfr (by omega) hn.2.2 (by rw [hL]; simp [PT.tr, Tr.tiles]) hmr (fun _ w => hodd w)
theorem deep_eq {p : PT} (hn : p.tr.norm) (hh : p.tr.high ≤ 32) : (p.walk 0 0).foldl pairStep none = (deepL (p.tr.tiles 0 0)).map parT :=
  deep_walk_eq (p.tr.tiles 0 0) p 0 0 [] [] none (Int.le_refl _) (by decide) (by omega) hn (by simp) (by simp) (fun _ w => by simp [candB])
/-- The deepest pair so far, in its boxes. -/
def deepI (DB SB : Nat) (pre : List ((Int × Int) × PT)) (F : Nat → Prop) (W : World) : Prop :=
  (∀ b, F b ↔ (b = DB ∨ b = SB)) ∧ Whole W DB 27 #[.int .i64 ((pre.foldl pairStep none).getD (0, 0)).1, .int .i64 ((pre.foldl pairStep none).getD (0, 0)).2] ∧ Whole W SB 4 #[.bool (pre.foldl pairStep none).isSome]
theorem deepI_kept {DB SB : Nat} : Kept (deepI DB SB) := by
  rintro pre F W W' ⟨h1, h2, h3⟩ hs hb
  exact ⟨h1, (hb DB ((h1 DB).2 (.inl rfl))).trans h2, (hb SB ((h1 SB).2 (.inr rfl))).trans h3⟩
theorem deepI_low {DB SB : Nat} : Low (deepI DB SB) := by
  rintro pre F W ⟨h1, h2, h3⟩ b hb
  rcases (h1 b).1 hb with rfl | rfl
  · exact h2.lt
  · exact h3.lt
set_option maxRecDepth 100000 in
set_option maxHeartbeats 3200000 in
theorem deepest_any {g : Nat} {p : PT} {k : Int} {w : World} (h : TilO g p k w) : Calls Try.prog 21 #[.pointer (some ⟨g, 0, none⟩)] w fun e W' => e = .returned (deV (deepL (p.tr.tiles 0 0))) ∧ Below w.heap.size w W' := by
  have hdv : deV (deepL (p.tr.tiles 0 0)) = .tuple #[.agg #[.int .i64 (((p.walk 0 0).foldl pairStep none).getD (0, 0)).1, .int .i64 (((p.walk 0 0).foldl pairStep none).getD (0, 0)).2], .bool ((p.walk 0 0).foldl pairStep none).isSome] := by
    rw [deep_eq h.norm (by have := h.high; have := h.kb; omega)]
    cases deepL (p.tr.tiles 0 0) <;> rfl
  rw [hdv]
  clear hdv
  have hnorm := h.norm
  have hplt := h.lt
  have hseq0 := fun W (hW : Since w W) XB PB hx hp => below_seq (h.since hW) 0 0 (XB := XB) (PB := PB) hx hp
  rw [atP_root h.kb] at hseq0
  have HSQ := Lib.hid hseq0
  have HAT := Lib.hid h.at_
  clear hseq0
  obtain ⟨w0, hw0⟩ : ∃ w0, w0 = w.alloc (.cells #[.int .i64 0, .int .i64 0] 27) := ⟨_, rfl⟩
  have hs0 : Since w w0 := by rw [hw0]; exact (Since.refl w).alloc _
  have wh0 : Whole w0 (w.heap.size) 27 #[.int .i64 0, .int .i64 0] := by rw [hw0]; exact Whole.new w _ _
  have HW := Lib.hid hw0
  have c0_0 := box_cell wh0 0 (.int .i64 0) rfl
  have c0_1 := box_cell wh0 1 (.int .i64 0) rfl
  have hsr := Since.refl w0
  have hsd := hsr.drew
  clear hw0
  have HM := Lib.hid (fun W (hW : Since w0 W) => made_yes (h.since (hs0.trans hW)))
  have HH := Lib.hid h
  refine (callsIn_wide (n := 0)).1 ?_
  refine callsIn_of_wp_marks Try.func21 rfl trivial ?_ rfl
  refine wpIn_wide.2 ?_
  simp only [Try.ntmps21, List.size_toArray, List.length_cons, List.length_nil, Nat.reduceAdd, Nat.reduceSub, Array.replicate_succ, Array.replicate_zero, List.push_toArray, List.append_toArray, List.nil_append, List.cons_append]
  go_wp2_with fail
  rw [← HW.out]
  go_wp2_with (first
    | (go_at_call 49; (with_reducible refine (Calls.since (by assumption) (HM.out _ (by assumption))).mono ?_); rintro e w1 ⟨rfl, hb1⟩)
    | (go_at_call 61; (with_reducible refine (below_any _ _ rfl _ _ _).mono ?_); rintro e w2 ⟨rfl, hw2⟩))
  subst hw2
  obtain ⟨wl, hwl⟩ : ∃ wl, wl = ((((w1.alloc (.cells #[.int .i64 0, .int .i64 0] 27)).alloc (.cells #[.bool false] 4)).alloc (.cells #[.pointer (some ⟨g, 0, none⟩)] 29)).alloc (.cells #[.int .i64 0, .int .i64 0] 27)) := ⟨_, rfl⟩
  rw [← hwl]
  have hbl : Since w0 wl := by rw [hwl]; exact (((Since.alloc hb1 _).alloc _).alloc _).alloc _
  have whD : Whole wl w1.heap.size 27 #[.int .i64 0, .int .i64 0] := by rw [hwl]; exact (((Whole.new w1 _ _).alloc _).alloc _).alloc _
  have whS : Whole wl (w1.heap.size + 1) 4 #[.bool false] := by rw [hwl]; exact (((Whole.new (w1.alloc _) _ _).at_ (by simp)).alloc _).alloc _
  have whX : Whole wl (w1.heap.size + 1 + 1) 29 #[.pointer (some ⟨g, 0, none⟩)] := by rw [hwl]; exact ((Whole.new ((w1.alloc _).alloc _) _ _).at_ (by simp)).alloc _
  have whP : Whole wl (w1.heap.size + 1 + 1 + 1) 27 #[.int .i64 0, .int .i64 0] := by rw [hwl]; exact (Whole.new (((w1.alloc _).alloc _).alloc _) _ _).at_ (by simp)
  have HSZ := Lib.hid (show wl.heap.size = w1.heap.size + 4 by rw [hwl]; simp)
  have hs0l : Since w wl := hs0.trans hbl
  have hwr := Since.whole hbl wh0
  have hw1 : w.heap.size < w1.heap.size := by have := (Since.whole hb1 wh0).lt; omega
  clear hwl c0_0 c0_1 hsr hsd
  have hseq := HSQ.out wl hs0l _ _ whX whP
  refine (wpIn_wide (n := 0)).1 ?_
  refine range_wp (gf := 108) (lb := #[.pointer (some ⟨w1.heap.size + 1 + 1 + 1, 0, none⟩), .pointer (some ⟨w1.heap.size + 1 + 1, 0, none⟩)]) rfl (enters_of Try.func108 (by kernel_rfl) rfl) hseq ?hG (fun _ => rfl)
    (deepI w1.heap.size (w1.heap.size + 1)) (fun _ _ _ _ => False) deepI_kept deepI_low (fun _ => no_kept) (fun _ => no_low)
    (fun b => b = w1.heap.size ∨ b = w1.heap.size + 1) ?hF0 ?h0 ?round ?done ?stop
  case hG =>
    have hszl := HSZ.out
    rintro b (z | rfl | rfl)
    · have := HH.out.lt b z; omega
    · omega
    · omega
  case hF0 =>
    rintro b hb (z | z | z)
    · have := HH.out.lt _ z; omega
    · omega
    · omega
  case h0 => exact ⟨fun b => Iff.rfl, whD, whS⟩
  case stop =>
    rintro D c pre W _ _ ⟨F', h, _⟩ _
    exact h.elim
  case done =>
    rintro D W hD ⟨F', ⟨hF', hk, hr⟩, ho, hf, _⟩ hdd
    obtain ⟨X, hX⟩ : ∃ X, X = (((p.walk 0 0).foldl pairStep none).getD (0, 0)).1 := ⟨_, rfl⟩
    obtain ⟨Y, hY⟩ : ∃ Y, Y = (((p.walk 0 0).foldl pairStep none).getD (0, 0)).2 := ⟨_, rfl⟩
    obtain ⟨Z, hZ⟩ : ∃ Z, Z = ((p.walk 0 0).foldl pairStep none).isSome := ⟨_, rfl⟩
    rw [← hX, ← hY] at hk
    rw [← hZ] at hr
    have hszl := HSZ.out
    have hwR : Whole W w.heap.size 27 #[.int .i64 0, .int .i64 0] := ho.whole hwr (fun z => by have z' : w.heap.size = w1.heap.size ∨ w.heap.size = w1.heap.size + 1 := z; omega)
    have hb0 : Since w W := Below.trans hs0l (ho.below (by omega) (fun b z => by have z' : b = w1.heap.size ∨ b = w1.heap.size + 1 := z; omega))
    have q0 := but_cell hk (g := w.heap.size) (by omega) 0 (.int .i64 X) rfl
    have q1 := but_cell hk (g := w.heap.size) (by omega) 1 (.int .i64 Y) rfl
    have q2 := but_cell hr (g := w.heap.size) (by omega) 0 (.bool Z) rfl
    have x3 := hwR.frozen 0
    have x4 := hwR.frozen 1
    have x5 := hwR.cell 0
    have x6 := hwR.cell 1
    have HXYZ := Lib.hid (And.intro hX (And.intro hY hZ))
    have HB := Lib.hid hb0
    have HDD := Lib.hid hdd
    have HD := Lib.hid hD
    clear hX hY hZ ho hf hseq hszl hb0 hdd hD hbl hs0l hb1
    have hsr := Since.refl W
    go_wp2_with fail
    go_region_held3 (fun W' => But w.heap.size W W') (first | assumption | exact Since.but (Since.drew (by assumption)) _ | exact Since.but (by assumption) _ | exact But.set2 (by assumption) _ _ _ _) ((first | fail))
    go_wp2_with fail
    obtain ⟨y1, y2, y3⟩ := two_end X Y hwR HB.out (Nat.le_refl _) (show w.heap.size < D by have := HD.out; have := HSZ.out; omega) HDD.out
    obtain ⟨hX, hY, hZ⟩ := HXYZ.out
    rw [← hX, ← hY, ← hZ]
    have y4 : ((((W.setCell ⟨w.heap.size, 0, none⟩ (.int .i64 X)).setCell ⟨w.heap.size, 1, none⟩ (.int .i64 Y)).drew).putObj D (.deferred none)).cell? ⟨w.heap.size, 0, none⟩ = some (.int .i64 X) := y2.cell 0
    have y5 : ((((W.setCell ⟨w.heap.size, 0, none⟩ (.int .i64 X)).setCell ⟨w.heap.size, 1, none⟩ (.int .i64 Y)).drew).putObj D (.deferred none)).cell? ⟨w.heap.size, 1, none⟩ = some (.int .i64 Y) := y2.cell 1
    refine ⟨by simp, .inl ⟨_, _, rfl, run_takeDeferred y1, ?_⟩⟩
    exact ⟨_, by simp [results, Try.results21, go_sem, y4, y5], rfl, Since.drew y3⟩
  case round =>
    rintro l pre ⟨⟨d, b⟩, x⟩ F W hpre ⟨hF, hk, hr⟩ hoff hwl hl hFl
    have hszl := HSZ.out
    obtain ⟨hx1, hx2, hx3⟩ := walk_in (W := W) p 0 0 hnorm ((d, b), x) (hpre.subset (by simp))
    have hqW : p.At W := (HAT.out.since hs0l).keep (fun y hy => hoff.block y (by have := hplt y (List.mem_cons_of_mem _ hy); omega) (fun z => by have z' : y = w1.heap.size ∨ y = w1.heap.size + 1 := z; have := hplt y (List.mem_cons_of_mem _ hy); omega))
    have hxW := hx3 hqW
    have hxl : ∀ y ∈ x.bl, y ≠ l := fun y hy z => by have := hplt y (List.mem_cons_of_mem _ (hx1 y hy)); omega
    have hszW := hoff.size
    have hFD : F w1.heap.size := (hF _).2 (.inl rfl)
    have hFS : F (w1.heap.size + 1) := (hF _).2 (.inr rfl)
    have hDl : w1.heap.size ≠ l := fun z => hFl (z ▸ hFD)
    have hSl : w1.heap.size + 1 ≠ l := fun z => hFl (z ▸ hFS)
    have HS0 := Lib.hid hs0l
    obtain ⟨V, hV⟩ : ∃ V, x.v = V := ⟨_, rfl⟩
    have hVV : (∃ o, V = .pointer o) := by obtain ⟨o, ho, _⟩ := x.v_ptr; exact ⟨o, hV ▸ ho⟩
    obtain ⟨vo, rfl⟩ := hVV
    simp only [encW, hV]
    clear hx3 hqW hseq hpre whD whS whX whP hb1 hbl hs0 hs0l hszl
    gi_wp2
    refine ⟨(Since.refl W).alloc _, fun W2 hz2 ho2 => ?_⟩
    have ha : Whole (W.alloc (.cells #[.int .i64 d, .int .i64 b] 27)) W.heap.size 27 #[.int .i64 d, .int .i64 b] := Whole.new W _ _
    have ha2 := ho2.whole ha (fun z => by have z' : W.heap.size = l := z; omega)
    have hk2 := ho2.whole (hk.alloc (.cells #[.int .i64 d, .int .i64 b] 27)) hDl
    have hr2 := ho2.whole (hr.alloc (.cells #[.int .i64 d, .int .i64 b] 27)) hSl
    have hx2' : x.At W2 := (hxW.since ((Since.refl W).alloc (.cells #[.int .i64 d, .int .i64 b] 27))).off ho2 (fun y hy z => hxl y hy z)
    have hip := isPair_any hx2' hx2
    rw [hV] at hip
    have hsame : ∀ W3, Since W2 W3 → pairStep (pre.foldl pairStep none) ((d, b), x) = pre.foldl pairStep none → ∃ F', deepI w1.heap.size (w1.heap.size + 1) (pre ++ [((d, b), x)]) F' W3 ∧ Off F W2 W3 ∧ ∀ b, F' b → F b ∨ W.heap.size ≤ b := fun W3 hs e => by
      have e1 : (pre ++ [((d, b), x)]).foldl pairStep none = pre.foldl pairStep none := by rw [List.foldl_append, List.foldl_cons, List.foldl_nil, e]
      exact ⟨F, ⟨hF, by rw [e1]; exact Since.whole hs hk2, by rw [e1]; exact Since.whole hs hr2⟩, hs.off F, fun _ z => .inl z⟩
    have hnew : ∀ W3, Since W2 W3 → pairStep (pre.foldl pairStep none) ((d, b), x) = some (d, b) → ∃ F', deepI w1.heap.size (w1.heap.size + 1) (pre ++ [((d, b), x)]) F' (((W3.setCell ⟨w1.heap.size, 0, none⟩ (.int .i64 d)).setCell ⟨w1.heap.size, 1, none⟩ (.int .i64 b)).setCell ⟨w1.heap.size + 1, 0, none⟩ (.bool true)) ∧ Off F W2 (((W3.setCell ⟨w1.heap.size, 0, none⟩ (.int .i64 d)).setCell ⟨w1.heap.size, 1, none⟩ (.int .i64 b)).setCell ⟨w1.heap.size + 1, 0, none⟩ (.bool true)) ∧ ∀ b, F' b → F b ∨ W.heap.size ≤ b := fun W3 hs e => by
      have e1 : (pre ++ [((d, b), x)]).foldl pairStep none = some (d, b) := by rw [List.foldl_append, List.foldl_cons, List.foldl_nil, e]
      have o1 := (((hs.off F).setCell (p := ⟨w1.heap.size, 0, none⟩) (.inr hFD) (.int .i64 d)).setCell (p := ⟨w1.heap.size, 1, none⟩) (.inr hFD) (.int .i64 b)).setCell (p := ⟨w1.heap.size + 1, 0, none⟩) (.inr hFS) (.bool true)
      refine ⟨F, ⟨hF, ?_, ?_⟩, o1, fun _ z => .inl z⟩
      · rw [e1]
        exact (((Since.whole hs hk2).set_ 0 _).set_ 1 _).far (p := ⟨w1.heap.size + 1, 0, none⟩) (by simp) _
      · rw [e1]
        exact (((Since.whole hs hr2).far (p := ⟨w1.heap.size, 0, none⟩) (by simp) _).far (p := ⟨w1.heap.size, 1, none⟩) (by simp) _).set_ 0 _
    have HSM := Lib.hid hsame
    have HNW := Lib.hid hnew
    have hstep : ∀ o, pairStep o ((d, b), x) = if (x.isPair && (match o with | none => true | some u => decide (u.1 < d))) = true then some (d, b) else o := fun _ => rfl
    have HST := Lib.hid hstep
    have a0 := box_cell ha2 0 (.int .i64 d) rfl
    have a1 := box_cell ha2 1 (.int .i64 b) rfl
    obtain ⟨o, ho⟩ : ∃ o, o = pre.foldl pairStep none := ⟨_, rfl⟩
    rw [← ho] at hk2 hr2 HSM HNW
    have hfr0 := box_free hk2 0
    have hfr1 := box_free hk2 1
    have hfr2 := box_free hr2 0
    clear ho hsame hnew hstep ho2 hr hk hxW ha hV hx2' hx1 hxl hoff hFl
    obtain ⟨ip, hip2⟩ : ∃ ip, ip = x.isPair := ⟨_, rfl⟩
    rw [← hip2] at hip
    have HIP := Lib.hid hip2
    clear hip2
    cases ip with
    | false =>
      gi_wp2_with ((refine ⟨trivial, rfl, ?_⟩; gi_at_call 62; refine (CallsIn.inRound l (callsIn_wide.2 (hip))).mono ?_; rintro e W3 ⟨rfl, hb3⟩; have hb4 : Since W2 W3 := hb3))
      exact HSM.out _ hb3 (by rw [HST.out, ← HIP.out]; rfl)
    | true =>
      cases o with
      | none =>
        have k0 := box_cell hk2 0 (.int .i64 0) rfl
        have k1 := box_cell hk2 1 (.int .i64 0) rfl
        have k2 := box_cell hr2 0 (.bool false) rfl
        gi_wp2_with ((refine ⟨trivial, rfl, ?_⟩; gi_at_call 62; refine (CallsIn.inRound l (callsIn_wide.2 (hip))).mono ?_; rintro e W3 ⟨rfl, hb3⟩; have hb4 : Since W2 W3 := hb3))
        exact HNW.out _ hb3 (by rw [HST.out, ← HIP.out]; rfl)
      | some u =>
        obtain ⟨u1, u2⟩ := u
        have k0 := box_cell hk2 0 (.int .i64 u1) rfl
        have k1 := box_cell hk2 1 (.int .i64 u2) rfl
        have k2 := box_cell hr2 0 (.bool true) rfl
        by_cases c : u1 < d
        · have c1 : decide (u1 < d) = true := decide_eq_true c
          gi_wp2_with ((refine ⟨trivial, rfl, ?_⟩; gi_at_call 62; refine (CallsIn.inRound l (callsIn_wide.2 (hip))).mono ?_; rintro e W3 ⟨rfl, hb3⟩; have hb4 : Since W2 W3 := hb3))
          exact HNW.out _ hb3 (by rw [HST.out, ← HIP.out]; simp [c])
        · have c1 : decide (u1 < d) = false := decide_eq_false c
          gi_wp2_with ((refine ⟨trivial, rfl, ?_⟩; gi_at_call 62; refine (CallsIn.inRound l (callsIn_wide.2 (hip))).mono ?_; rintro e W3 ⟨rfl, hb3⟩; have hb4 : Since W2 W3 := hb3))
          exact HSM.out _ hb3 (by rw [HST.out, ← HIP.out]; exact if_neg (by simpa using c))
end Go.Proofs.Ytgnhamhkpbadbaa
