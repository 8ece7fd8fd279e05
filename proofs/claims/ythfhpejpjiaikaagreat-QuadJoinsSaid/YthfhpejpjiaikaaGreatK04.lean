/- path.Corner: a zone's least cell, how wide and how high it is. -/
import Derived.Test.YthfhpejpjiaikaaGreatK03
namespace Go.Proofs.YthfhpejpjiaikaaGreat
open Go.RowKit Go.Shelf
attribute [local go_sem] Oper.semAt_some
theorem right_at {k d b : Int} {r : Bool} (h : okP k d b = r) (w : World) : Calls Tryz.prog 54 #[.int .i64 k, .agg #[.int .i64 d, .int .i64 b]] w fun e w' => e = .returned (.bool r) ∧ Below w.heap.size w w' := h ▸ rightP_any k d b w
/-- A number's own box, whatever it holds. -/
def Num (W : World) (B : Nat) : Prop := ∃ a, Whole W B 3 #[.int .i64 a]
def got (W : World) (B : Nat) : Value := (W.cell? ⟨B, 0, none⟩).getD undef
theorem Num.cell {W : World} {B : Nat} (h : Num W B) : W.cell? ⟨B, 0, none⟩ = some (got W B) := by
  obtain ⟨a, h⟩ := h
  have h1 := h.cell 0
  unfold got
  rw [h1]
  rfl
theorem Num.frozen {W : World} {B : Nat} (h : Num W B) : W.frozen? ⟨B, 0, none⟩ = false := by
  obtain ⟨a, h⟩ := h
  exact h.frozen 0
theorem Num.lt {W : World} {B : Nat} (h : Num W B) : B < W.heap.size := by obtain ⟨a, h⟩ := h; exact h.lt
theorem Num.set {W : World} {B : Nat} (h : Num W B) (v : Int) : Whole (W.setCell ⟨B, 0, none⟩ (.int .i64 v)) B 3 #[.int .i64 v] := by
  obtain ⟨a, h⟩ := h
  exact h.set_ 0 _
theorem Num.far {W : World} {B B' : Nat} (h : Num W B) (hne : B ≠ B') (v : Value) : Num (W.setCell ⟨B', 0, none⟩ v) B := by
  obtain ⟨a, h⟩ := h
  exact ⟨a, h.far (p := ⟨B', 0, none⟩) hne _⟩
/-- The boxes of Corner while its first numbers are laid. -/
structure CornS (w : World) (k d b : Int) (W : World) : Prop where
  t : Whole W w.heap.size 67 #[.int .i64 k]
  p : Whole W (w.heap.size + 1) 23 (pA d b)
  c : Whole W (w.heap.size + 1 + 1) 50 (pA 0 0)
  x : Num W (w.heap.size + 1 + 1 + 1)
  y : Num W (w.heap.size + 1 + 1 + 1 + 1)
  bel : Below w.heap.size w W
section
variable {w W : World} {k d b : Int}
theorem CornS.drew (h : CornS w k d b W) : CornS w k d b W.drew := ⟨h.t, h.p, h.c, h.x, h.y, h.bel.drew⟩
theorem CornS.below (h : CornS w k d b W) {W' : World} (hb : Below W.heap.size W W') : CornS w k d b W' :=
  ⟨h.t.below hb h.t.lt, h.p.below hb h.p.lt, h.c.below hb h.c.lt, by obtain ⟨a, e⟩ := h.x; exact ⟨a, e.below hb e.lt⟩, by obtain ⟨a, e⟩ := h.y; exact ⟨a, e.below hb e.lt⟩, h.bel.trans (hb.mono h.bel.size)⟩
theorem CornS.setx (h : CornS w k d b W) (v : Int) : CornS w k d b (W.setCell ⟨w.heap.size + 1 + 1 + 1, 0, none⟩ (.int .i64 v)) :=
  ⟨h.t.far (p := ⟨w.heap.size + 1 + 1 + 1, 0, none⟩) (by simp; omega) _, h.p.far (p := ⟨w.heap.size + 1 + 1 + 1, 0, none⟩) (by simp) _, h.c.far (p := ⟨w.heap.size + 1 + 1 + 1, 0, none⟩) (by simp) _, ⟨v, h.x.set v⟩, h.y.far (by omega) _, h.bel.setCell (p := ⟨w.heap.size + 1 + 1 + 1, 0, none⟩) (by simp; omega) _⟩
theorem CornS.sety (h : CornS w k d b W) (v : Int) : CornS w k d b (W.setCell ⟨w.heap.size + 1 + 1 + 1 + 1, 0, none⟩ (.int .i64 v)) :=
  ⟨h.t.far (p := ⟨w.heap.size + 1 + 1 + 1 + 1, 0, none⟩) (by simp; omega) _, h.p.far (p := ⟨w.heap.size + 1 + 1 + 1 + 1, 0, none⟩) (by simp) _, h.c.far (p := ⟨w.heap.size + 1 + 1 + 1 + 1, 0, none⟩) (by simp) _, h.x.far (by omega) _, ⟨v, h.y.set v⟩, h.bel.setCell (p := ⟨w.heap.size + 1 + 1 + 1 + 1, 0, none⟩) (by simp; omega) _⟩
theorem CornS.call {P : Program} {f : Nat} {args : Array Value} {R : Ending → Prop} (h : CornS w k d b W) (c : Calls P f args W fun e w' => R e ∧ Below W.heap.size W w') : Calls P f args W fun e w' => R e ∧ CornS w k d b w' :=
  c.mono fun _ _ ⟨h1, h2⟩ => ⟨h1, h.below h2⟩
end
/-- What comes of one half: the corner's X and Y, how wide, how high. -/
def corStep (t : Int × Int × Int × Int) (x : Int × Int) : Int × Int × Int × Int :=
  if (x.1.tmod 2 == 0) = true then (wrap64 (t.1 + wrap64 (x.2 * wrap64 (t.2.2.1.tdiv 2))), t.2.1, wrap64 (t.2.2.1.tdiv 2), t.2.2.2)
  else (t.1, wrap64 (t.2.1 + wrap64 (x.2 * wrap64 (t.2.2.2.tdiv 2))), t.2.2.1, wrap64 (t.2.2.2.tdiv 2))
def corF (s : Int) (pre : List (Int × Int)) : Int × Int × Int × Int := pre.foldl corStep (0, 0, s, s)
theorem corF_snoc (s : Int) (pre : List (Int × Int)) (x : Int × Int) : corF s (pre ++ [x]) = corStep (corF s pre) x := by simp [corF]
theorem corStep_x {t : Int × Int × Int × Int} {x : Int × Int} (h : (x.1.tmod 2 == 0) = true) : corStep t x = (wrap64 (t.1 + wrap64 (x.2 * wrap64 (t.2.2.1.tdiv 2))), t.2.1, wrap64 (t.2.2.1.tdiv 2), t.2.2.2) := if_pos h
theorem corStep_y {t : Int × Int × Int × Int} {x : Int × Int} (h : (x.1.tmod 2 == 0) = false) : corStep t x = (t.1, wrap64 (t.2.1 + wrap64 (x.2 * wrap64 (t.2.2.2.tdiv 2))), t.2.2.1, wrap64 (t.2.2.2.tdiv 2)) := if_neg (by rw [h]; exact Bool.false_ne_true)
/-- The boxes of Corner while its numbers are handed back: nothing turns. -/
structure CornE (w : World) (D : Nat) (p q r s : Int) (W : World) : Prop where
  c : Whole W (w.heap.size + 1 + 1) 50 (pA p q)
  x : Whole W (w.heap.size + 1 + 1 + 1) 3 #[.int .i64 r]
  y : Whole W (w.heap.size + 1 + 1 + 1 + 1) 3 #[.int .i64 s]
  bel : Below w.heap.size w W
  k : W.heap[D]? = some (.deferred (some []))
  lt : w.heap.size + 1 + 1 + 1 + 1 < D
section
variable {w W : World} {D : Nat} {p q r s : Int}
theorem CornE.drew (h : CornE w D p q r s W) : CornE w D p q r s W.drew := ⟨h.c, h.x, h.y, h.bel.drew, h.k, h.lt⟩
theorem CornE.setc (h : CornE w D p q r s W) : CornE w D p q r s ((W.setCell ⟨w.heap.size + 1 + 1, 0, none⟩ (.int .i64 p)).setCell ⟨w.heap.size + 1 + 1, 1, none⟩ (.int .i64 q)) :=
  have hl := h.lt
  ⟨(h.c.set_ 0 _).set_ 1 _, (h.x.far (p := ⟨w.heap.size + 1 + 1, 0, none⟩) (by simp; try omega) _).far (p := ⟨w.heap.size + 1 + 1, 1, none⟩) (by simp; try omega) _, (h.y.far (p := ⟨w.heap.size + 1 + 1, 0, none⟩) (by simp; try omega) _).far (p := ⟨w.heap.size + 1 + 1, 1, none⟩) (by simp; try omega) _, (h.bel.setCell (p := ⟨w.heap.size + 1 + 1, 0, none⟩) (by simp; try omega) _).setCell (p := ⟨w.heap.size + 1 + 1, 1, none⟩) (by simp; try omega) _,
    (Below.heap_setCell _ _ _ D (show D ≠ w.heap.size + 1 + 1 by omega)).trans ((Below.heap_setCell _ _ _ D (show D ≠ w.heap.size + 1 + 1 by omega)).trans h.k), h.lt⟩
theorem CornE.setx (h : CornE w D p q r s W) : CornE w D p q r s (W.setCell ⟨w.heap.size + 1 + 1 + 1, 0, none⟩ (.int .i64 r)) :=
  have hl := h.lt
  ⟨h.c.far (p := ⟨w.heap.size + 1 + 1 + 1, 0, none⟩) (by simp; try omega) _, h.x.set_ 0 _, h.y.far (p := ⟨w.heap.size + 1 + 1 + 1, 0, none⟩) (by simp; try omega) _, h.bel.setCell (p := ⟨w.heap.size + 1 + 1 + 1, 0, none⟩) (by simp; try omega) _,
    (Below.heap_setCell _ _ _ D (show D ≠ w.heap.size + 1 + 1 + 1 by omega)).trans h.k, h.lt⟩
theorem CornE.sety (h : CornE w D p q r s W) : CornE w D p q r s (W.setCell ⟨w.heap.size + 1 + 1 + 1 + 1, 0, none⟩ (.int .i64 s)) :=
  have hl := h.lt
  ⟨h.c.far (p := ⟨w.heap.size + 1 + 1 + 1 + 1, 0, none⟩) (by simp; try omega) _, h.x.far (p := ⟨w.heap.size + 1 + 1 + 1 + 1, 0, none⟩) (by simp; try omega) _, h.y.set_ 0 _, h.bel.setCell (p := ⟨w.heap.size + 1 + 1 + 1 + 1, 0, none⟩) (by simp; try omega) _,
    (Below.heap_setCell _ _ _ D (show D ≠ w.heap.size + 1 + 1 + 1 + 1 by omega)).trans h.k, h.lt⟩
theorem CornE.done (h : CornE w D p q r s W) : (W.putObj D (.deferred none)).cell? ⟨w.heap.size + 1 + 1, 0, none⟩ = some (.int .i64 p) ∧ (W.putObj D (.deferred none)).cell? ⟨w.heap.size + 1 + 1, 1, none⟩ = some (.int .i64 q) ∧
    (W.putObj D (.deferred none)).cell? ⟨w.heap.size + 1 + 1 + 1, 0, none⟩ = some (.int .i64 r) ∧ (W.putObj D (.deferred none)).cell? ⟨w.heap.size + 1 + 1 + 1 + 1, 0, none⟩ = some (.int .i64 s) ∧ Below w.heap.size w (W.putObj D (.deferred none)) := by
  have hl := h.lt
  have h1 : Whole (W.putObj D (.deferred none)) (w.heap.size + 1 + 1) 50 (pA p q) := (World.putObj_heap_other (by omega)).trans h.c
  have h2 : Whole (W.putObj D (.deferred none)) (w.heap.size + 1 + 1 + 1) 3 #[.int .i64 r] := (World.putObj_heap_other (by omega)).trans h.x
  have h3 : Whole (W.putObj D (.deferred none)) (w.heap.size + 1 + 1 + 1 + 1) 3 #[.int .i64 s] := (World.putObj_heap_other (by omega)).trans h.y
  exact ⟨h1.cell 0, h1.cell 1, h2.cell 0, h3.cell 0, h.bel.trans (belowK_b (w := w) (Nat.le_refl _) _ D _ _ (by omega) h.k rfl rfl)⟩
end
set_option maxRecDepth 100000 in
set_option maxHeartbeats 2000000 in
theorem corner_raw (k d b : Int) (w : World) (h : okP k d b = true) : Calls Tryz.prog 39 #[.agg #[.int .i64 k], .agg #[.int .i64 d, .int .i64 b]] w fun e w' => e = .returned (.tuple #[.agg #[.int .i64 ((corF (side k) (ups d b (cnt d b))).1), .int .i64 ((corF (side k) (ups d b (cnt d b))).2.1)], .int .i64 (corF (side k) (ups d b (cnt d b))).2.2.1, .int .i64 (corF (side k) (ups d b (cnt d b))).2.2.2]) ∧ Below w.heap.size w w' := by
  obtain ⟨w0, hw0⟩ : ∃ w0, w0 = ((((w.alloc (.cells #[.int .i64 k] 67)).alloc (.cells #[.int .i64 d, .int .i64 b] 23)).alloc (.cells #[.int .i64 0, .int .i64 0] 50)).alloc (.cells #[.int .i64 0] 3)).alloc (.cells #[.int .i64 0] 3) := ⟨_, rfl⟩
  have hs0 : Since w w0 := by rw [hw0]; exact (((((Since.refl w).alloc _).alloc _).alloc _).alloc _).alloc _
  have wh0 : Whole w0 (w.heap.size) 67 #[.int .i64 k] := by rw [hw0]; exact ((((Whole.new w _ _).alloc _).alloc _).alloc _).alloc _
  have wh1 : Whole w0 (w.heap.size + 1) 23 #[.int .i64 d, .int .i64 b] := by rw [hw0]; exact ((((Whole.new (w.alloc _) _ _).alloc _).alloc _).alloc _).at_ (by simp)
  have wh2 : Whole w0 (w.heap.size + 1 + 1) 50 #[.int .i64 0, .int .i64 0] := by rw [hw0]; exact (((Whole.new ((w.alloc _).alloc _) _ _).alloc _).alloc _).at_ (by simp)
  have wh3 : Whole w0 (w.heap.size + 1 + 1 + 1) 3 #[.int .i64 0] := by rw [hw0]; exact ((Whole.new (((w.alloc _).alloc _).alloc _) _ _).alloc _).at_ (by simp)
  have wh4 : Whole w0 (w.heap.size + 1 + 1 + 1 + 1) 3 #[.int .i64 0] := by rw [hw0]; exact (Whole.new ((((w.alloc _).alloc _).alloc _).alloc _) _ _).at_ (by simp)
  have HW := Lib.hid hw0
  have c0_0 := box_cell wh0 0 (.int .i64 k) rfl
  have c1_0 := box_cell wh1 0 (.int .i64 d) rfl
  have c1_1 := box_cell wh1 1 (.int .i64 b) rfl
  have c2_0 := box_cell wh2 0 (.int .i64 0) rfl
  have c2_1 := box_cell wh2 1 (.int .i64 0) rfl
  have c3_0 := box_cell wh3 0 (.int .i64 0) rfl
  have c4_0 := box_cell wh4 0 (.int .i64 0) rfl
  have hsr := Since.refl w0
  have hsd := hsr.drew
  clear hw0
  have hS : CornS w k d b w0 := ⟨wh0, wh1, wh2, ⟨_, wh3⟩, ⟨_, wh4⟩, hs0⟩
  have e1 : ∀ W, CornS w k d b W → W.cell? ⟨w.heap.size, 0, none⟩ = some (.int .i64 k) := fun W h => h.t.cell 0
  have e2 : ∀ W, CornS w k d b W → W.cell? ⟨w.heap.size + 1, 0, none⟩ = some (.int .i64 d) := fun W h => h.p.cell 0
  have e3 : ∀ W, CornS w k d b W → W.cell? ⟨w.heap.size + 1, 1, none⟩ = some (.int .i64 b) := fun W h => h.p.cell 1
  have e4 : ∀ W, CornS w k d b W → W.cell? ⟨w.heap.size + 1 + 1 + 1, 0, none⟩ = some (got W (w.heap.size + 1 + 1 + 1)) := fun W h => h.x.cell
  have e5 : ∀ W, CornS w k d b W → W.cell? ⟨w.heap.size + 1 + 1 + 1 + 1, 0, none⟩ = some (got W (w.heap.size + 1 + 1 + 1 + 1)) := fun W h => h.y.cell
  have e6 : ∀ W, CornS w k d b W → W.frozen? ⟨w.heap.size + 1 + 1 + 1, 0, none⟩ = false := fun W h => h.x.frozen
  have e7 : ∀ W, CornS w k d b W → W.frozen? ⟨w.heap.size + 1 + 1 + 1 + 1, 0, none⟩ = false := fun W h => h.y.frozen
  clear c0_0 c1_0 c1_1 c2_0 c2_1 c3_0 c4_0 wh0 wh1 wh2 wh3 wh4
  replace h := Lib.hid h
  refine (callsIn_wide (n := 3)).1 ?_
  refine callsIn_of_wp_marks Tryz.func39 rfl trivial ?_ rfl
  refine wpIn_wide.2 ?_
  simp only [Tryz.ntmps39, List.size_toArray, List.length_cons, List.length_nil, Nat.reduceAdd, Nat.reduceSub, Array.replicate_succ, Array.replicate_zero, List.push_toArray, List.append_toArray, List.nil_append, List.cons_append]
  go_wp2_with fail
  rw [← HW.out]
  go_wp2_with (go_at_call 54; (with_reducible refine (CornS.call (by assumption) (right_at h.out _)).mono ?_); rintro e w1 ⟨rfl, hb1⟩)
  go_region_held3 (fun W => CornS w k d b W) (first | assumption | exact CornS.drew (by assumption) | exact CornS.setx (by assumption) _ | exact CornS.sety (by assumption) _ | exact CornS.sety (CornS.setx (by assumption) _) _)
    ((go_at_call 68; (with_reducible refine (CornS.call (by assumption) (side_any _ _)).mono ?_); rintro e w3 ⟨rfl, hb3⟩))
  go_wp2_with fail
  refine Calls.named (fun w4 hw4 => ?_)
  have a1 : Whole w4 (w.heap.size + 1 + 1) 50 (pA 0 0) := ((hb3.setx (side k)).sety (side k)).c.named hw4
  have a2 : Whole w4 (w.heap.size + 1 + 1 + 1) 3 #[.int .i64 (side k)] := ((hb3.x.set (side k)).far (p := ⟨w.heap.size + 1 + 1 + 1 + 1, 0, none⟩) (by simp) _).named hw4
  have a3 : Whole w4 (w.heap.size + 1 + 1 + 1 + 1) 3 #[.int .i64 (side k)] := ((hb3.setx (side k)).y.set (side k)).named hw4
  have a4 : Since w w4 := Since.named ((hb3.setx (side k)).sety (side k)).bel hw4
  clear hw4 e1 e2 e3 e4 e5 e6 e7 hS
  refine (halves_any d b w4).mono ?_
  rintro e w5 ⟨rfl, hw5⟩
  have b1 := (a1.alloc (.cells #[.int .i64 d, .int .i64 b] 23)).named hw5
  have b2 := (a2.alloc (.cells #[.int .i64 d, .int .i64 b] 23)).named hw5
  have b3 := (a3.alloc (.cells #[.int .i64 d, .int .i64 b] 23)).named hw5
  have b4 : Since w w5 := (a4.alloc (.cells #[.int .i64 d, .int .i64 b] 23)).named hw5
  have b5 : Whole w5 w4.heap.size 23 (pA d b) := (Whole.new w4 _ _).named hw5
  have hlt := a3.lt
  obtain ⟨G, hG⟩ : ∃ G, G = w4.heap.size := ⟨_, rfl⟩
  rw [← hG] at b5 hlt ⊢
  clear hw5 hG a1 a2 a3 a4
  go_wp2_with fail
  refine (wpIn_wide (n := 3)).1 ?_
  refine wpIn_rangeFunc_ownG rfl (by omega) (gf := 97) (lb := #[.pointer (some ⟨G, 0, none⟩)]) rfl trivial (enters_of Tryz.func97 (by kernel_rfl) rfl) (iter_stops _ _ d b w5 b5) KB.t (KB.b b5.lt) (Below.refl _ _) (fun _ => rfl)
    (fun pre W => Whole W (w.heap.size + 1 + 1) 50 (pA (corF (side k) pre).1 (corF (side k) pre).2.1) ∧ Whole W (w.heap.size + 1 + 1 + 1) 3 #[.int .i64 (corF (side k) pre).2.2.1] ∧ Whole W (w.heap.size + 1 + 1 + 1 + 1) 3 #[.int .i64 (corF (side k) pre).2.2.2] ∧ Whole W G 23 (pA d b) ∧ Below w.heap.size w W)
    (fun _ _ _ => False)
    (fun pre W W' row hs hg hr => ⟨whole_from (B := w5.heap.size) b1.lt (fun _ : Unit => _) () W W' row hs.1 hg hr, whole_from (B := w5.heap.size) b2.lt (fun _ : Unit => _) () W W' row hs.2.1 hg hr, whole_from (B := w5.heap.size) b3.lt (fun _ : Unit => _) () W W' row hs.2.2.1 hg hr, whole_from (B := w5.heap.size) b5.lt (fun _ : Unit => _) () W W' row hs.2.2.2.1 hg hr, ownFrom_below (Nat.le_refl _) (by have := b3.lt; omega) () W W' row hs.2.2.2.2 hg hr⟩)
    (fun _ _ _ _ _ hs _ _ => hs)
    ⟨b1, b2, b3, b5, b4⟩
    (fun x => { tmps := #[.agg #[.int .i64 k], .agg #[.int .i64 d, .int .i64 b], .pointer (some ⟨w.heap.size, 0, none⟩), .pointer (some ⟨w.heap.size + 1, 0, none⟩), .pointer (some ⟨w.heap.size + 1 + 1, 0, none⟩), .pointer (some ⟨w.heap.size + 1 + 1 + 1, 0, none⟩), .pointer (some ⟨w.heap.size + 1 + 1 + 1 + 1, 0, none⟩), .int .i64 x.1, .int .i64 x.2,
      .pointer (some ⟨w.heap.size, 0, none⟩), .int .i64 k, .agg #[.int .i64 d, .int .i64 b], .bool true, .bool false, undef, .agg #[.int .i64 k], .int .i64 (side k), .agg #[.int .i64 k], .int .i64 (side k), .agg #[.int .i64 d, .int .i64 b], .func (.func 97) #[] #[.pointer (some ⟨G, 0, none⟩)], .int .i64 x.1, .int .i64 x.2, undef, undef, undef, undef, undef, undef, undef, undef, undef, undef, undef, undef, undef, undef, undef, undef, undef, undef, undef, undef, undef, undef, undef], defers := [] }) ?assign ?body ?done ?stop
  case assign =>
    intro l x W K hK
    gi_wp2
    exact hK
  case body =>
    rintro l pre x W ⟨wc, wx, wy, wg, hB⟩ hlen
    have q1 := wc.cell 0
    have q2 := wc.cell 1
    have q3 := wx.cell 0
    have q4 := wy.cell 0
    have f1 := wc.frozen 0
    have f2 := wc.frozen 1
    have f3 := wx.frozen 0
    have f4 := wy.frozen 0
    clear hlen
    cases hx : x.1.tmod 2 == 0
    · gi_wp2_with (refine ⟨trivial, ?_⟩; gi_at_call 70; refine (CallsIn.inRound l (callsIn_wide.2 (byX_any _ _))).mono ?_; rintro e w1 ⟨rfl, rfl⟩)
      exact ⟨(keeps_set _ _ _ _).trans (keeps_set _ _ _ _), ((show KB G W W from rfl).set (p := ⟨w.heap.size + 1 + 1 + 1 + 1, 0, none⟩) (by simp; omega) _).set (p := ⟨w.heap.size + 1 + 1, 1, none⟩) (by simp; omega) _,
        by dsimp only; rw [corF_snoc, corStep_y hx]; exact ⟨((wc).far (p := ⟨w.heap.size + 1 + 1 + 1 + 1, 0, none⟩) (by simp; try omega) _).set_ 1 _, ((wx).far (p := ⟨w.heap.size + 1 + 1 + 1 + 1, 0, none⟩) (by simp; try omega) _).far (p := ⟨w.heap.size + 1 + 1, 1, none⟩) (by simp; try omega) _, (wy.set_ 0 _).far (p := ⟨w.heap.size + 1 + 1, 1, none⟩) (by simp; try omega) _, ((wg).far (p := ⟨w.heap.size + 1 + 1 + 1 + 1, 0, none⟩) (by simp; try omega) _).far (p := ⟨w.heap.size + 1 + 1, 1, none⟩) (by simp; try omega) _, ((hB).setCell (p := ⟨w.heap.size + 1 + 1 + 1 + 1, 0, none⟩) (by simp; try omega) _).setCell (p := ⟨w.heap.size + 1 + 1, 1, none⟩) (by simp; try omega) _⟩⟩
    · gi_wp2_with (refine ⟨trivial, ?_⟩; gi_at_call 70; refine (CallsIn.inRound l (callsIn_wide.2 (byX_any _ _))).mono ?_; rintro e w1 ⟨rfl, rfl⟩)
      exact ⟨(keeps_set _ _ _ _).trans (keeps_set _ _ _ _), ((show KB G W W from rfl).set (p := ⟨w.heap.size + 1 + 1 + 1, 0, none⟩) (by simp; omega) _).set (p := ⟨w.heap.size + 1 + 1, 0, none⟩) (by simp; omega) _,
        by dsimp only; rw [corF_snoc, corStep_x hx]; exact ⟨((wc).far (p := ⟨w.heap.size + 1 + 1 + 1, 0, none⟩) (by simp; try omega) _).set_ 0 _, (wx.set_ 0 _).far (p := ⟨w.heap.size + 1 + 1, 0, none⟩) (by simp; try omega) _, ((wy).far (p := ⟨w.heap.size + 1 + 1 + 1, 0, none⟩) (by simp; try omega) _).far (p := ⟨w.heap.size + 1 + 1, 0, none⟩) (by simp; try omega) _, ((wg).far (p := ⟨w.heap.size + 1 + 1 + 1, 0, none⟩) (by simp; try omega) _).far (p := ⟨w.heap.size + 1 + 1, 0, none⟩) (by simp; try omega) _, ((hB).setCell (p := ⟨w.heap.size + 1 + 1 + 1, 0, none⟩) (by simp; try omega) _).setCell (p := ⟨w.heap.size + 1 + 1, 0, none⟩) (by simp; try omega) _⟩⟩
  case stop =>
    rintro D c pre W _ _ h _
    exact h.elim
  case done =>
    rintro D xs W hD rfl ⟨wc, wx, wy, wg, hB⟩ hK
    have hE : CornE w D _ _ _ _ W := ⟨wc, wx, wy, hB, hK, by have := b5.lt; omega⟩
    clear wc wx wy wg hB hK
    obtain ⟨r, hr⟩ : ∃ r, r = corF (side k) (ups d b (cnt d b)) := ⟨_, rfl⟩
    rw [← hr] at hE
    replace hr := Lib.hid hr
    have e1 : ∀ W, CornE w D r.1 r.2.1 r.2.2.1 r.2.2.2 W → W.cell? ⟨w.heap.size + 1 + 1, 0, none⟩ = some (.int .i64 r.1) := fun W h => h.c.cell 0
    have e2 : ∀ W, CornE w D r.1 r.2.1 r.2.2.1 r.2.2.2 W → W.cell? ⟨w.heap.size + 1 + 1, 1, none⟩ = some (.int .i64 r.2.1) := fun W h => h.c.cell 1
    have e3 : ∀ W, CornE w D r.1 r.2.1 r.2.2.1 r.2.2.2 W → W.cell? ⟨w.heap.size + 1 + 1 + 1, 0, none⟩ = some (.int .i64 r.2.2.1) := fun W h => h.x.cell 0
    have e4 : ∀ W, CornE w D r.1 r.2.1 r.2.2.1 r.2.2.2 W → W.cell? ⟨w.heap.size + 1 + 1 + 1 + 1, 0, none⟩ = some (.int .i64 r.2.2.2) := fun W h => h.y.cell 0
    have e5 : ∀ W, CornE w D r.1 r.2.1 r.2.2.1 r.2.2.2 W → W.frozen? ⟨w.heap.size + 1 + 1, 0, none⟩ = false := fun W h => h.c.frozen 0
    have e6 : ∀ W, CornE w D r.1 r.2.1 r.2.2.1 r.2.2.2 W → W.frozen? ⟨w.heap.size + 1 + 1, 1, none⟩ = false := fun W h => h.c.frozen 1
    have e7 : ∀ W, CornE w D r.1 r.2.1 r.2.2.1 r.2.2.2 W → W.frozen? ⟨w.heap.size + 1 + 1 + 1, 0, none⟩ = false := fun W h => h.x.frozen 0
    have e8 : ∀ W, CornE w D r.1 r.2.1 r.2.2.1 r.2.2.2 W → W.frozen? ⟨w.heap.size + 1 + 1 + 1 + 1, 0, none⟩ = false := fun W h => h.y.frozen 0
    go_wp2_with fail
    go_region_held3 (fun W => CornE w D r.1 r.2.1 r.2.2.1 r.2.2.2 W) (first | assumption | exact CornE.drew (by assumption) | exact CornE.setc (by assumption) | exact CornE.setx (by assumption) | exact CornE.sety (by assumption) | exact CornE.setx (CornE.setc (by assumption)) | exact CornE.sety (CornE.setx (CornE.setc (by assumption)))) (fail)
    go_wp2
    rename_i hE2
    obtain ⟨y1, y2, y3, y4, y5⟩ := hE2.done
    refine ⟨by simp, .inl ⟨_, _, rfl, run_takeDeferred hE2.k, ?_⟩⟩
    rw [← hr.out]
    exact ⟨_, by simp [results, Tryz.results39, go_sem, y1, y2, y3, y4], rfl, y5⟩
end Go.Proofs.YthfhpejpjiaikaaGreat
