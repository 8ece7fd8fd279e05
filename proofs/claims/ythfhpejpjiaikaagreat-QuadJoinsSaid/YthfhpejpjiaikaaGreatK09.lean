/- gleberef04: what two rectangles have together, a zone's rectangle. window: which rectangles may be, areas, cells. Objects behind pointers: what a call may change of memory, and what stays. quad: no tree, and one that nobody made. quad: no tree, and one that nobody made: the rest of its calls. gleberef04.Of, Cut: what a zone has of a window. -/
import Derived.Test.YthfhpejpjiaikaaGreatK05
import Derived.Test.YthfhpejpjiaikaaGreatK08
import Derived.Deep.AppendLies
namespace Go.Proofs.YthfhpejpjiaikaaGreat
open Go.RowKit
/-- A number that the least and the greatest of two are, as the machine takes them. -/
theorem max_ite (a p : Int) : (if a < p then p else a) = max a p := by split <;> omega
theorem min_ite (a p : Int) : (if p < a then p else a) = min a p := by split <;> omega
/-- Four cells behind each other, stored. -/
theorem Since.set4 {w0 W : World} (h : Since w0 W) {g : Nat} (hg : w0.heap.size ≤ g) (a b c d : Value) : Since w0 ((((W.setCell ⟨g, 0, none⟩ a).setCell ⟨g, 1, none⟩ b).setCell ⟨g, 2, none⟩ c).setCell ⟨g, 3, none⟩ d) :=
  (((h.setCell (p := ⟨g, 0, none⟩) hg _).setCell (p := ⟨g, 1, none⟩) hg _).setCell (p := ⟨g, 2, none⟩) hg _).setCell (p := ⟨g, 3, none⟩) hg _
theorem But.set4 {g : Nat} {w0 W : World} (h : Since w0 W) (a b c d : Value) : But g w0 ((((W.setCell ⟨g, 0, none⟩ a).setCell ⟨g, 1, none⟩ b).setCell ⟨g, 2, none⟩ c).setCell ⟨g, 3, none⟩ d) :=
  ((But.set2 h 0 1 a b).set_ (p := ⟨g, 2, none⟩) rfl c).set_ (p := ⟨g, 3, none⟩) rfl d
theorem Whole.set4 {W : World} {g : Nat} {t : TypeId} {x y z u : Value} (h : Whole W g t #[x, y, z, u]) (a b c d : Value) : Whole ((((W.setCell ⟨g, 0, none⟩ a).setCell ⟨g, 1, none⟩ b).setCell ⟨g, 2, none⟩ c).setCell ⟨g, 3, none⟩ d) g t #[a, b, c, d] :=
  (((h.set_ 0 a).set_ 1 b).set_ 2 c).set_ 3 d
end Go.Proofs.YthfhpejpjiaikaaGreat
namespace Go.Proofs.YthfhpejpjiaikaaGreat
open Go.RowKit
theorem wCounts_any (n : Int) (w : World) : Calls Tryz.prog 113 #[.int .i64 n] w fun e w' => e = .returned (.bool (nmB n)) ∧ w = w' := by
  by_cases h1 : 0 ≤ n
  · by_cases h2 : n ≤ 1073741824
    · rw [show nmB n = true from (nmB_iff n).2 ⟨h1, h2⟩]
      go_enter Tryz.func113, Tryz.ntmps113
      go_wp2
      go_ret
      exact ⟨rfl, rfl⟩
    · rw [show nmB n = false from Bool.eq_false_iff.2 fun e => h2 ((nmB_iff n).1 e).2]
      go_enter Tryz.func113, Tryz.ntmps113
      go_wp2
      go_ret
      exact ⟨rfl, rfl⟩
  · rw [show nmB n = false from Bool.eq_false_iff.2 fun e => h1 ((nmB_iff n).1 e).1]
    go_enter Tryz.func113, Tryz.ntmps113
    go_wp2
    go_ret
    exact ⟨rfl, rfl⟩
theorem wCounts_at {n : Int} {b : Bool} (h : nmB n = b) (w : World) : Calls Tryz.prog 113 #[.int .i64 n] w fun e w' => e = .returned (.bool b) ∧ w = w' := h ▸ wCounts_any n w
set_option maxHeartbeats 1600000 in
theorem wMayCount_any (a b c d : Int) (w : World) : Calls Tryz.prog 99 #[.agg #[.int .i64 a, .int .i64 b, .int .i64 c, .int .i64 d]] w fun e w' => e = .returned (.bool (fineR ⟨a, b, c, d⟩)) ∧ Below w.heap.size w w' := by
  rw [fineR_nm]
  obtain ⟨w0, hw0⟩ : ∃ w0, w0 = w.alloc (.cells #[.int .i64 a, .int .i64 b, .int .i64 c, .int .i64 d] 63) := ⟨_, rfl⟩
  have hs0 : Since w w0 := by rw [hw0]; exact (Since.refl w).alloc _
  have wh0 : Whole w0 (w.heap.size) 63 #[.int .i64 a, .int .i64 b, .int .i64 c, .int .i64 d] := by rw [hw0]; exact Whole.new w _ _
  have HW := Lib.hid hw0
  have c0_0 := box_cell wh0 0 (.int .i64 a) rfl
  have c0_1 := box_cell wh0 1 (.int .i64 b) rfl
  have c0_2 := box_cell wh0 2 (.int .i64 c) rfl
  have c0_3 := box_cell wh0 3 (.int .i64 d) rfl
  have hsr := Since.refl w0
  have hsd := hsr.drew
  clear hw0 wh0
  cases ha : nmB a
  · replace ha := Lib.hid ha
    go_enter Tryz.func99, Tryz.ntmps99
    go_wp2_with fail
    rw [← HW.out]
    go_wp2_with (go_at_call 113; (with_reducible refine (Calls.since_same (by assumption) (wCounts_at (by first | exact ha.out | exact hb.out | exact hc.out | exact hd.out) _)).mono ?_); rintro e w' ⟨rfl, hb1⟩)
    go_ret
    exact ⟨rfl, hs0.trans (by assumption)⟩
  · replace ha := Lib.hid ha
    cases hb : nmB b
    · replace hb := Lib.hid hb
      go_enter Tryz.func99, Tryz.ntmps99
      go_wp2_with fail
      rw [← HW.out]
      go_wp2_with (go_at_call 113; (with_reducible refine (Calls.since_same (by assumption) (wCounts_at (by first | exact ha.out | exact hb.out | exact hc.out | exact hd.out) _)).mono ?_); rintro e w' ⟨rfl, hb1⟩)
      go_ret
      exact ⟨rfl, hs0.trans (by assumption)⟩
    · replace hb := Lib.hid hb
      cases hc : nmB c
      · replace hc := Lib.hid hc
        go_enter Tryz.func99, Tryz.ntmps99
        go_wp2_with fail
        rw [← HW.out]
        go_wp2_with (go_at_call 113; (with_reducible refine (Calls.since_same (by assumption) (wCounts_at (by first | exact ha.out | exact hb.out | exact hc.out | exact hd.out) _)).mono ?_); rintro e w' ⟨rfl, hb1⟩)
        go_ret
        exact ⟨rfl, hs0.trans (by assumption)⟩
      · replace hc := Lib.hid hc
        cases hd : nmB d
        · replace hd := Lib.hid hd
          go_enter Tryz.func99, Tryz.ntmps99
          go_wp2_with fail
          rw [← HW.out]
          go_wp2_with (go_at_call 113; (with_reducible refine (Calls.since_same (by assumption) (wCounts_at (by first | exact ha.out | exact hb.out | exact hc.out | exact hd.out) _)).mono ?_); rintro e w' ⟨rfl, hb1⟩)
          go_ret
          exact ⟨rfl, hs0.trans (by assumption)⟩
        · replace hd := Lib.hid hd
          go_enter Tryz.func99, Tryz.ntmps99
          go_wp2_with fail
          rw [← HW.out]
          go_wp2_with (go_at_call 113; (with_reducible refine (Calls.since_same (by assumption) (wCounts_at (by first | exact ha.out | exact hb.out | exact hc.out | exact hd.out) _)).mono ?_); rintro e w' ⟨rfl, hb1⟩)
          go_ret
          exact ⟨rfl, hs0.trans (by assumption)⟩
theorem wMayCount_at {a b c d : Int} {z : Bool} (h : fineR ⟨a, b, c, d⟩ = z) (w : World) : Calls Tryz.prog 99 #[.agg #[.int .i64 a, .int .i64 b, .int .i64 c, .int .i64 d]] w fun e w' => e = .returned (.bool z) ∧ Below w.heap.size w w' := h ▸ wMayCount_any a b c d w
set_option maxHeartbeats 800000 in
theorem wArea_any (a b c d : Int) (w : World) : Calls Tryz.prog 86 #[.agg #[.int .i64 a, .int .i64 b, .int .i64 c, .int .i64 d]] w fun e w' => e = .returned (.int .i64 (areaR ⟨a, b, c, d⟩)) ∧ Below w.heap.size w w' := by
  obtain ⟨w0, hw0⟩ : ∃ w0, w0 = w.alloc (.cells #[.int .i64 a, .int .i64 b, .int .i64 c, .int .i64 d] 63) := ⟨_, rfl⟩
  have hs0 : Since w w0 := by rw [hw0]; exact (Since.refl w).alloc _
  have wh0 : Whole w0 (w.heap.size) 63 #[.int .i64 a, .int .i64 b, .int .i64 c, .int .i64 d] := by rw [hw0]; exact Whole.new w _ _
  have HW := Lib.hid hw0
  have c0_0 := box_cell wh0 0 (.int .i64 a) rfl
  have c0_1 := box_cell wh0 1 (.int .i64 b) rfl
  have c0_2 := box_cell wh0 2 (.int .i64 c) rfl
  have c0_3 := box_cell wh0 3 (.int .i64 d) rfl
  have hsr := Since.refl w0
  have hsd := hsr.drew
  clear hw0 wh0
  cases h : fineR ⟨a, b, c, d⟩
  · rw [show areaR ⟨a, b, c, d⟩ = 0 from if_neg (by rw [h]; exact Bool.false_ne_true)]
    replace h := Lib.hid h
    go_enter Tryz.func86, Tryz.ntmps86
    go_wp2_with fail
    rw [← HW.out]
    go_wp2_with (go_at_call 99; (with_reducible refine (Calls.since (by assumption) (wMayCount_at h.out _)).mono ?_); rintro e w' ⟨rfl, hb⟩)
    go_ret
    exact ⟨rfl, hs0.trans hb⟩
  · have h1 := (fineR_iff _).1 h
    dsimp only at h1
    have h2 : 0 ≤ c * d := Int.mul_nonneg (by omega) (by omega)
    have h3 : c * d ≤ 1073741824 * 1073741824 := Int.mul_le_mul (by omega) (by omega) (by omega) (by omega)
    have h4 : wrap64 (c * d) = c * d := IntWalk.wrap64_in _ ⟨by omega, by omega⟩
    rw [show areaR ⟨a, b, c, d⟩ = c * d from if_pos h]
    replace h := Lib.hid h
    clear h1 h2 h3
    go_enter Tryz.func86, Tryz.ntmps86
    go_wp2_with fail
    rw [← HW.out]
    go_wp2_with (go_at_call 99; (with_reducible refine (Calls.since (by assumption) (wMayCount_at h.out _)).mono ?_); rintro e w' ⟨rfl, hb⟩)
    go_ret
    exact ⟨ret_int h4, hs0.trans hb⟩
theorem wArea_at {a b c d v : Int} (h : areaR ⟨a, b, c, d⟩ = v) (w : World) : Calls Tryz.prog 86 #[.agg #[.int .i64 a, .int .i64 b, .int .i64 c, .int .i64 d]] w fun e w' => e = .returned (.int .i64 v) ∧ Below w.heap.size w w' := h ▸ wArea_any a b c d w
set_option maxHeartbeats 3200000 in
theorem wHas_any (a b c d x y : Int) (w : World) : Calls Tryz.prog 73 #[.agg #[.int .i64 a, .int .i64 b, .int .i64 c, .int .i64 d], .agg #[.int .i64 x, .int .i64 y]] w fun e w' => e = .returned (.bool (hasR ⟨a, b, c, d⟩ x y)) ∧ Below w.heap.size w w' := by
  obtain ⟨w0, hw0⟩ : ∃ w0, w0 = (w.alloc (.cells #[.int .i64 a, .int .i64 b, .int .i64 c, .int .i64 d] 63)).alloc (.cells #[.int .i64 x, .int .i64 y] 50) := ⟨_, rfl⟩
  have hs0 : Since w w0 := by rw [hw0]; exact ((Since.refl w).alloc _).alloc _
  have wh0 : Whole w0 (w.heap.size) 63 #[.int .i64 a, .int .i64 b, .int .i64 c, .int .i64 d] := by rw [hw0]; exact (Whole.new w _ _).alloc _
  have wh1 : Whole w0 (w.heap.size + 1) 50 #[.int .i64 x, .int .i64 y] := by rw [hw0]; exact (Whole.new (w.alloc _) _ _).at_ (by simp)
  have HW := Lib.hid hw0
  have c0_0 := box_cell wh0 0 (.int .i64 a) rfl
  have c0_1 := box_cell wh0 1 (.int .i64 b) rfl
  have c0_2 := box_cell wh0 2 (.int .i64 c) rfl
  have c0_3 := box_cell wh0 3 (.int .i64 d) rfl
  have c1_0 := box_cell wh1 0 (.int .i64 x) rfl
  have c1_1 := box_cell wh1 1 (.int .i64 y) rfl
  have hsr := Since.refl w0
  have hsd := hsr.drew
  clear hw0 wh0 wh1
  cases h : fineR ⟨a, b, c, d⟩
  · rw [show hasR ⟨a, b, c, d⟩ x y = false by unfold hasR; rw [h]; rfl]
    have HF := Lib.hid h
    clear h
    go_enter Tryz.func73, Tryz.ntmps73
    go_wp2_with fail
    rw [← HW.out]
    go_wp2_with (go_at_call 99; (with_reducible refine (Calls.since (by assumption) (wMayCount_at HF.out _)).mono ?_); rintro e w' ⟨rfl, hb⟩)
    go_ret
    first | exact ⟨rfl, hs0.trans hb⟩ | exact ⟨ret_bool (decide_eq_false (by omega)), hs0.trans hb⟩ | exact ⟨ret_bool (decide_eq_true (by omega)), hs0.trans hb⟩
  · have h1 := (fineR_iff _).1 h
    dsimp only at h1
    have e1 : wrap64 (a + c) = a + c := IntWalk.wrap64_in _ ⟨by omega, by omega⟩
    have e2 : wrap64 (b + d) = b + d := IntWalk.wrap64_in _ ⟨by omega, by omega⟩
    have hh : hasR ⟨a, b, c, d⟩ x y = decide (a ≤ x ∧ x < a + c ∧ b ≤ y ∧ y < b + d) := by unfold hasR; rw [h]; rfl
    rw [hh]
    have HF := Lib.hid h
    clear h hh h1
    by_cases h0 : a ≤ x
    rotate_left
    · rw [decide_eq_false (fun z => h0 z.1)]
      go_enter Tryz.func73, Tryz.ntmps73
      go_wp2_with fail
      rw [← HW.out]
      go_wp2_with (go_at_call 99; (with_reducible refine (Calls.since (by assumption) (wMayCount_at HF.out _)).mono ?_); rintro e w' ⟨rfl, hb⟩)
      go_ret
      first | exact ⟨rfl, hs0.trans hb⟩ | exact ⟨ret_bool (decide_eq_false (by omega)), hs0.trans hb⟩ | exact ⟨ret_bool (decide_eq_true (by omega)), hs0.trans hb⟩
    by_cases h1 : x < a + c
    rotate_left
    · rw [decide_eq_false (fun z => h1 z.2.1)]
      go_enter Tryz.func73, Tryz.ntmps73
      go_wp2_with fail
      rw [← HW.out]
      go_wp2_with (go_at_call 99; (with_reducible refine (Calls.since (by assumption) (wMayCount_at HF.out _)).mono ?_); rintro e w' ⟨rfl, hb⟩)
      go_ret
      first | exact ⟨rfl, hs0.trans hb⟩ | exact ⟨ret_bool (decide_eq_false (by omega)), hs0.trans hb⟩ | exact ⟨ret_bool (decide_eq_true (by omega)), hs0.trans hb⟩
    by_cases h2 : b ≤ y
    rotate_left
    · rw [decide_eq_false (fun z => h2 z.2.2.1)]
      go_enter Tryz.func73, Tryz.ntmps73
      go_wp2_with fail
      rw [← HW.out]
      go_wp2_with (go_at_call 99; (with_reducible refine (Calls.since (by assumption) (wMayCount_at HF.out _)).mono ?_); rintro e w' ⟨rfl, hb⟩)
      go_ret
      first | exact ⟨rfl, hs0.trans hb⟩ | exact ⟨ret_bool (decide_eq_false (by omega)), hs0.trans hb⟩ | exact ⟨ret_bool (decide_eq_true (by omega)), hs0.trans hb⟩
    by_cases h3 : y < b + d
    rotate_left
    · rw [decide_eq_false (fun z => h3 z.2.2.2)]
      go_enter Tryz.func73, Tryz.ntmps73
      go_wp2_with fail
      rw [← HW.out]
      go_wp2_with (go_at_call 99; (with_reducible refine (Calls.since (by assumption) (wMayCount_at HF.out _)).mono ?_); rintro e w' ⟨rfl, hb⟩)
      go_ret
      first | exact ⟨rfl, hs0.trans hb⟩ | exact ⟨ret_bool (decide_eq_false (by omega)), hs0.trans hb⟩ | exact ⟨ret_bool (decide_eq_true (by omega)), hs0.trans hb⟩
    rw [decide_eq_true ⟨h0, h1, h2, h3⟩]
    go_enter Tryz.func73, Tryz.ntmps73
    go_wp2_with fail
    rw [← HW.out]
    go_wp2_with (go_at_call 99; (with_reducible refine (Calls.since (by assumption) (wMayCount_at HF.out _)).mono ?_); rintro e w' ⟨rfl, hb⟩)
    go_ret
    first | exact ⟨rfl, hs0.trans hb⟩ | exact ⟨ret_bool (decide_eq_false (by omega)), hs0.trans hb⟩ | exact ⟨ret_bool (decide_eq_true (by omega)), hs0.trans hb⟩
end Go.Proofs.YthfhpejpjiaikaaGreat
namespace Go.Proofs.YthfhpejpjiaikaaGreat
open Go.RowKit
/-- W' came behind W, and of what was there only blocks of F may have changed. -/
structure Off (F : Nat → Prop) (W W' : World) : Prop where
  os : W'.os = W.os
  tape : W'.tape = W.tape
  output : W'.output = W.output
  size : W.heap.size ≤ W'.heap.size
  block : ∀ b, b < W.heap.size → ¬ F b → W'.heap[b]? = W.heap[b]?
theorem Below.drewN {B : Nat} {W W' : World} (h : Below B W W') (n : Nat) : Below B W (W'.drewN n) := ⟨h.os, h.tape, h.output, h.size, h.block⟩
section
variable {F G : Nat → Prop} {W W' W2 : World}
theorem Off.refl (F : Nat → Prop) (W : World) : Off F W W := ⟨rfl, rfl, rfl, Nat.le_refl _, fun _ _ _ => rfl⟩
theorem Off.trans (h : Off F W W') (g : Off G W' W2) (hG : ∀ b, b < W.heap.size → G b → F b) : Off F W W2 :=
  ⟨g.os.trans h.os, g.tape.trans h.tape, g.output.trans h.output, Nat.le_trans h.size g.size,
    fun b hb hf => (g.block b (Nat.lt_of_lt_of_le hb h.size) (fun z => hf (hG b hb z))).trans (h.block b hb hf)⟩
theorem Since.off (h : Since W W') (F : Nat → Prop) : Off F W W' := ⟨h.os, h.tape, h.output, h.size, fun b hb _ => h.block b hb⟩
theorem Off.since (h : Off F W W') (g : Since W' W2) : Off F W W2 := h.trans (g.off F) (fun _ _ z => z)
theorem Off.below {B : Nat} (h : Off F W W') (hB : B ≤ W.heap.size) (hF : ∀ b, F b → B ≤ b) : Below B W W' :=
  ⟨h.os, h.tape, h.output, h.size, fun b hb => h.block b (Nat.lt_of_lt_of_le hb hB) (fun z => Nat.not_lt.2 (hF b z) hb)⟩
theorem Below.off {B : Nat} (h : Below B W W') (hF : ∀ b, b < W.heap.size → B ≤ b → F b) : Off F W W' :=
  ⟨h.os, h.tape, h.output, h.size, fun b hb hf => h.block b (by
    rcases Nat.lt_or_ge b B with c | c
    · exact c
    · exact absurd (hF b hb c) hf)⟩
theorem Off.whole {g : Nat} {t : TypeId} {cs : Array Value} (h : Off F W W') (hc : Whole W g t cs) (hg : ¬ F g) : Whole W' g t cs := (h.block g hc.lt hg).trans hc
theorem Off.named {w : World} (h : Off F W W') (e : w = W') : Off F W w := e ▸ h
theorem Off.mono (h : Off F W W') (hFG : ∀ b, b < W.heap.size → F b → G b) : Off G W W' := ⟨h.os, h.tape, h.output, h.size, fun b hb hg => h.block b hb (fun z => hg (hFG b hb z))⟩
theorem Off.alloc (h : Off F W W') (o : Obj) : Off F W (W'.alloc o) := h.since ((Since.refl W').alloc o)
theorem Off.drew (h : Off F W W') : Off F W W'.drew := h.since (Since.refl W').drew
theorem Off.setCell (h : Off F W W') {p : Addr} (hp : W.heap.size ≤ p.block ∨ F p.block) (v : Value) : Off F W (W'.setCell p v) :=
  ⟨h.os, h.tape, h.output, by simpa using h.size, fun b hb hf => (Below.heap_setCell W' p v b (fun e => by
    rcases hp with hp | hp
    · omega
    · exact hf (e ▸ hp))).trans (h.block b hb hf)⟩
/-- The cells of a box that is none of F's, at any world behind. -/
theorem off_cell {g : Nat} {t : TypeId} {cs : Array Value} (hc : Whole W g t cs) (hg : ¬ F g) (i : Nat) (v : Value) (hv : cs[i]? = some v) : ∀ W', Off F W W' → W'.cell? ⟨g, i, none⟩ = some v :=
  fun _ h => ((h.whole hc hg).cell i).trans hv
variable {α : Type} {enc : α → List Value} {n : Nat} {v : Value} {l : List α}
theorem ListE.off {B : Nat} (h : ListE enc n B W v l) (hB : B ≤ W.heap.size) (ho : Off F W W') (hF : ∀ a, v.ownBlock = some a → ¬ F a) : ListE enc n B W' v l := by
  rcases h with h | ⟨g, cap, rfl, hlt, hc⟩
  · exact .inl h
  · have e : ∀ j, W'.cell? ⟨g, j, none⟩ = W.cell? ⟨g, j, none⟩ := fun j => World.cell?_of_block (ho.block g (Nat.lt_of_lt_of_le hlt hB) (hF g rfl))
    exact .inr ⟨g, cap, rfl, hlt, fun i hi j u hu => (e _).trans (hc i hi j u hu)⟩
theorem RowE.own {base : Nat} {T : TypeId} (h : RowE enc n W base T v l) : ∀ a, v.ownBlock = some a → base ≤ a ∧ a < W.heap.size := fun a ha => World.ownsRow.lt h a ha
theorem RowE.off {base : Nat} {T : TypeId} (h : RowE enc n W base T v l) (ho : Off F W W') (hF : ∀ a, v.ownBlock = some a → ¬ F a) : RowE enc n W' base T v l := by
  rcases h with ⟨h1, h2⟩
  refine ⟨h1, ?_⟩
  rcases h2 with h2 | ⟨g, cap, cur, rfl, hg, hh, rest⟩
  · exact .inl h2
  · refine .inr ⟨g, cap, cur, rfl, hg, ?_, rest⟩
    have hlt : g < W.heap.size := by
      rcases Nat.lt_or_ge g W.heap.size with c | c
      · exact c
      · rw [Array.getElem?_eq_none c] at hh; cases hh
    exact (ho.block g hlt (hF g rfl)).trans hh
end
/-- append(s, x) of one element x, s a list of the call's own: only its own block may have changed. -/
theorem wpList_append_off {α : Type} {enc : α → List Value} {n : Nat} {W : World} {ops : Array Oper} {rest : List Oper} {o : Oper} {a : Act} {Q : Exit → Act → World → Prop} (hgd : o.guard = none) (s x : Operand) (TS : TypeId)
    (ho : o.op = .call { callee := .builtin .append, args := #[s, x], argTypes := #[TS, TS] })
    (base : Nat) (T : TypeId) (z : Value) (bytes : Nat) (ht : Tryz.prog.underlying TS = some (.slice T)) (hi : (Tryz.prog.info? T).map (fun i => (i.zero, i.size, i.bytes)) = some (some z, n, bytes)) (hzs : z.cells.size = n) (hsz : 0 < n)
    {v : Value} {l : List α} (hrow : RowE enc n W base T v l) (r : α) {cs : Array Value} (hcs : cs = (enc r).toArray) (hlen : (enc r).length = n) (h1 : ∀ u ∈ enc r, u.oneCell' = true)
    (hs : a.eval s = v) (hx : a.eval x = .slice (some ⟨W.heap.size, 0, none⟩) 1 1)
    (hmax : l.length ≤ 100000) (hbytes : bytes ≤ 1000) (hbW : base ≤ W.heap.size)
    (h : ∀ v' w', RowE enc n w' base T v' (l ++ [r]) → Off (fun b => v.ownBlock = some b) W w' → (v'.ownBlock = v.ownBlock ∨ ∃ g, v'.ownBlock = some g ∧ W.heap.size ≤ g) → wpList Tryz.prog ops Q rest (a.put o.dst v') w') :
    wpList Tryz.prog ops Q (o :: rest) a (W.alloc (.cells cs T)) := by
  obtain ⟨i0, hi, hz0, hz1, hz2⟩ := info_parts hi
  subst hcs
  have hl : (l.length + 1) * bytes ≤ 140737488355328 := Nat.le_trans (Nat.mul_le_mul (show l.length + 1 ≤ 100001 by omega) hbytes) (by decide)
  refine wpList_append_own_at _ hgd s x TS ho base T i0 z n bytes ht hi hz0 hz1 hz2 hzs hsz v l.length _ hs (hrow.alloc _) ⟨W.heap.size, 0, none⟩ 1 1 (enc r) hx (by rw [hlen, Nat.one_mul]) (enc_new _ _ _) h1 (Nat.le_trans (show _ ≤ 100001 by omega) (by decide)) hl (by simp; omega) ?_
  intro v' w1 hown hgrow _ hob
  have ha := (Since.refl W).alloc (.cells (enc r).toArray T)
  refine h v' w1 (RowE.more hown) ⟨hgrow.os.trans ha.os, hgrow.tape.trans ha.tape, hgrow.output.trans ha.output, Nat.le_trans ha.size hgrow.size, fun b hb hn => (hgrow.block b (Nat.lt_of_lt_of_le hb ha.size) (fun e => hn e.symm)).trans (ha.block b hb)⟩ (hob.imp id fun e => ⟨_, e, ha.size⟩)
end Go.Proofs.YthfhpejpjiaikaaGreat
namespace Go.Proofs.YthfhpejpjiaikaaGreat
open Go.RowKit
set_option linter.unusedVariables false
set_option linter.unusedSimpArgs false
/-- No tree, or one that nobody made. -/
def UmQ (W : World) (v : Value) : Prop := v = .pointer none ∨ ∃ g, v = .pointer (some ⟨g, 0, none⟩) ∧ Whole W g 73 #[.int .i64 0, .int .i64 0, .int .i64 0, .pointer none]
theorem UmQ.since {W W' : World} {v : Value} (h : UmQ W v) (hs : Since W W') : UmQ W' v := h.imp id (fun ⟨g, e, hw⟩ => ⟨g, e, Since.whole hs hw⟩)
theorem UmQ.ptr {W : World} {v : Value} (h : UmQ W v) : ∃ o, v = .pointer o := by
  rcases h with rfl | ⟨g, rfl, _⟩
  · exact ⟨_, rfl⟩
  · exact ⟨_, rfl⟩
set_option maxRecDepth 100000 in
theorem umq_made {W : World} {v : Value} (h : UmQ W v) : Calls Tryz.prog 27 #[v] W fun e w' => e = .returned (.bool false) ∧ Below W.heap.size W w' := by
  rcases h with rfl | ⟨g, rfl, hw⟩
  · go_enter Tryz.func27, Tryz.ntmps27
    go_wp2
    go_ret
    exact ⟨rfl, Below.refl _ _⟩
  · have h0 : W.cell? ⟨g, 3, none⟩ = some (.pointer none) := (hw.cell 3).trans rfl
    go_enter Tryz.func27, Tryz.ntmps27
    go_wp2
    go_ret
    exact ⟨rfl, Below.refl _ _⟩
end Go.Proofs.YthfhpejpjiaikaaGreat
namespace Go.Proofs.YthfhpejpjiaikaaGreat
open Go.RowKit
set_option linter.unusedVariables false
set_option linter.unusedSimpArgs false
set_option maxRecDepth 100000 in
set_option maxHeartbeats 1600000 in
/-- Join of no tree. -/
theorem umq_join {w : World} {v : Value} (h : UmQ w v) (o2 : Option Addr) : Calls Tryz.prog 9 #[v, .pointer o2] w fun e w' => e = .returned (.tuple #[.pointer none, .int .i64 1]) ∧ Below w.heap.size w w' := by
  obtain ⟨o, rfl⟩ := h.ptr
  have HM := Lib.hid (fun W (hW : Since w W) => umq_made (h.since hW))
  have hsd : Since w w.drew := (Since.refl w).drew
  go_enter Tryz.func9, Tryz.ntmps9
  go_wp2_with fail
  refine wp_region_held_drew (S := fun W => Since w W) (by kernel_rfl) hsd (fun hHeld => ?_)
  refine wpAnyH_take (i := 0) (v := ?_) rfl (by kernel_rfl) (by kernel_rfl) (by kernel_rfl) (fun _ _ _ h => h) (Or.inl ⟨by rfl, ?_⟩) (by assumption) ?_
  rotate_left 1
  · (intro W hW; clear hW; go_simp; try with_reducible rfl)
  simp only [Act.put, List.getElem_toArray, List.getElem_cons_zero, List.setIfInBounds_toArray, List.set_cons_zero, List.set_cons_succ]
  refine wpAnyH_ready (rs := [1]) (by kernel_rfl) (by simp) ?_
  refine AllReadyH.cons rfl (fun K hK => ?_) AllReadyH.nil
  go_simp
  refine (Calls.since hHeld (HM.out _ hHeld)).mono ?_
  rintro e w1 ⟨rfl, hb1⟩
  go_wp2_with fail
  refine hK.out _ _ (hb1) (fun hHeld => ?_)
  clear hK K
  try simp only [Act.put, List.getElem_toArray, List.getElem_cons_succ, List.getElem_cons_zero, List.setIfInBounds_toArray, List.set_cons_zero, List.set_cons_succ]
  refine wpAnyH_take (i := 2) (v := ?_) rfl (by kernel_rfl) (by kernel_rfl) (by kernel_rfl) (fun _ _ _ h => h) (Or.inl ⟨by rfl, ?_⟩) (by assumption) ?_
  rotate_left 1
  · (intro W hW; clear hW; go_simp; try with_reducible rfl)
  simp only [Act.put, List.getElem_toArray, List.getElem_cons_succ, List.getElem_cons_zero, List.setIfInBounds_toArray, List.set_cons_zero, List.set_cons_succ]
  refine wpAnyH_take (i := 3) (v := ?_) rfl (by kernel_rfl) (by kernel_rfl) (by kernel_rfl) (fun _ _ _ h => h) (Or.inl ⟨by rfl, ?_⟩) (by assumption) ?_
  rotate_left 1
  · (intro W hW; clear hW; go_simp; try with_reducible rfl)
  simp only [Act.put, List.getElem_toArray, List.getElem_cons_succ, List.getElem_cons_zero, List.setIfInBounds_toArray, List.set_cons_zero, List.set_cons_succ]
  refine wpAnyH_take (i := 4) (v := undef) rfl (by kernel_rfl) (by kernel_rfl) (by kernel_rfl) (fun _ _ _ h => h) (Or.inr ⟨by rfl, rfl⟩) (by assumption) ?_
  simp only [Act.put, List.getElem_toArray, List.getElem_cons_succ, List.getElem_cons_zero, List.setIfInBounds_toArray, List.set_cons_zero, List.set_cons_succ]
  refine wpAnyH_take (i := 5) (v := undef) rfl (by kernel_rfl) (by kernel_rfl) (by kernel_rfl) (fun _ _ _ h => h) (Or.inr ⟨by rfl, rfl⟩) (by assumption) ?_
  simp only [Act.put, List.getElem_toArray, List.getElem_cons_succ, List.getElem_cons_zero, List.setIfInBounds_toArray, List.set_cons_zero, List.set_cons_succ]
  refine wpAnyH_take (i := 6) (v := undef) rfl (by kernel_rfl) (by kernel_rfl) (by kernel_rfl) (fun _ _ _ h => h) (Or.inr ⟨by rfl, rfl⟩) (by assumption) ?_
  simp only [Act.put, List.getElem_toArray, List.getElem_cons_succ, List.getElem_cons_zero, List.setIfInBounds_toArray, List.set_cons_zero, List.set_cons_succ]
  refine wpAnyH_take (i := 7) (v := ?_) rfl (by kernel_rfl) (by kernel_rfl) (by kernel_rfl) (fun _ _ _ h => h) (Or.inl ⟨by rfl, ?_⟩) (by assumption) ?_
  rotate_left 1
  · (intro W hW; clear hW; go_simp; try with_reducible rfl)
  simp only [Act.put, List.getElem_toArray, List.getElem_cons_succ, List.getElem_cons_zero, List.setIfInBounds_toArray, List.set_cons_zero, List.set_cons_succ]
  refine wpAnyH_take (i := 8) (v := ?_) rfl (by kernel_rfl) (by kernel_rfl) (by kernel_rfl) (fun _ _ _ h => h) (Or.inl ⟨by rfl, ?_⟩) (by assumption) ?_
  rotate_left 1
  · (intro W hW; clear hW; go_simp; try with_reducible rfl)
  simp only [Act.put, List.getElem_toArray, List.getElem_cons_succ, List.getElem_cons_zero, List.setIfInBounds_toArray, List.set_cons_zero, List.set_cons_succ]
  refine wpAnyH_take (i := 9) (v := undef) rfl (by kernel_rfl) (by kernel_rfl) (by kernel_rfl) (fun _ _ _ h => h) (Or.inr ⟨by rfl, rfl⟩) (by assumption) ?_
  simp only [Act.put, List.getElem_toArray, List.getElem_cons_succ, List.getElem_cons_zero, List.setIfInBounds_toArray, List.set_cons_zero, List.set_cons_succ]
  refine wpAnyH_take (i := 10) (v := undef) rfl (by kernel_rfl) (by kernel_rfl) (by kernel_rfl) (fun _ _ _ h => h) (Or.inr ⟨by rfl, rfl⟩) (by assumption) ?_
  simp only [Act.put, List.getElem_toArray, List.getElem_cons_succ, List.getElem_cons_zero, List.setIfInBounds_toArray, List.set_cons_zero, List.set_cons_succ]
  refine wpAnyH_take (i := 11) (v := undef) rfl (by kernel_rfl) (by kernel_rfl) (by kernel_rfl) (fun _ _ _ h => h) (Or.inr ⟨by rfl, rfl⟩) (by assumption) ?_
  simp only [Act.put, List.getElem_toArray, List.getElem_cons_succ, List.getElem_cons_zero, List.setIfInBounds_toArray, List.set_cons_zero, List.set_cons_succ]
  refine wpAnyH_take (i := 12) (v := undef) rfl (by kernel_rfl) (by kernel_rfl) (by kernel_rfl) (fun _ _ _ h => h) (Or.inr ⟨by rfl, rfl⟩) (by assumption) ?_
  simp only [Act.put, List.getElem_toArray, List.getElem_cons_succ, List.getElem_cons_zero, List.setIfInBounds_toArray, List.set_cons_zero, List.set_cons_succ]
  refine wpAnyH_take (i := 13) (v := undef) rfl (by kernel_rfl) (by kernel_rfl) (by kernel_rfl) (fun _ _ _ h => h) (Or.inr ⟨by rfl, rfl⟩) (by assumption) ?_
  simp only [Act.put, List.getElem_toArray, List.getElem_cons_succ, List.getElem_cons_zero, List.setIfInBounds_toArray, List.set_cons_zero, List.set_cons_succ]
  refine wpAnyH_take (i := 14) (v := undef) rfl (by kernel_rfl) (by kernel_rfl) (by kernel_rfl) (fun _ _ _ h => h) (Or.inr ⟨by rfl, rfl⟩) (by assumption) ?_
  simp only [Act.put, List.getElem_toArray, List.getElem_cons_succ, List.getElem_cons_zero, List.setIfInBounds_toArray, List.set_cons_zero, List.set_cons_succ]
  refine wpAnyH_take (i := 15) (v := undef) rfl (by kernel_rfl) (by kernel_rfl) (by kernel_rfl) (fun _ _ _ h => h) (Or.inr ⟨by rfl, rfl⟩) (by assumption) ?_
  simp only [Act.put, List.getElem_toArray, List.getElem_cons_succ, List.getElem_cons_zero, List.setIfInBounds_toArray, List.set_cons_zero, List.set_cons_succ]
  refine wpAnyH_take (i := 16) (v := undef) rfl (by kernel_rfl) (by kernel_rfl) (by kernel_rfl) (fun _ _ _ h => h) (Or.inr ⟨by rfl, rfl⟩) (by assumption) ?_
  simp only [Act.put, List.getElem_toArray, List.getElem_cons_succ, List.getElem_cons_zero, List.setIfInBounds_toArray, List.set_cons_zero, List.set_cons_succ]
  refine wpAnyH_take (i := 17) (v := undef) rfl (by kernel_rfl) (by kernel_rfl) (by kernel_rfl) (fun _ _ _ h => h) (Or.inr ⟨by rfl, rfl⟩) (by assumption) ?_
  simp only [Act.put, List.getElem_toArray, List.getElem_cons_succ, List.getElem_cons_zero, List.setIfInBounds_toArray, List.set_cons_zero, List.set_cons_succ]
  refine wpAnyH_take (i := 18) (v := ?_) rfl (by kernel_rfl) (by kernel_rfl) (by kernel_rfl) (fun _ _ _ h => h) (Or.inl ⟨by rfl, ?_⟩) (by assumption) ?_
  rotate_left 1
  · (intro W hW; clear hW; go_simp; try with_reducible rfl)
  simp only [Act.put, List.getElem_toArray, List.getElem_cons_succ, List.getElem_cons_zero, List.setIfInBounds_toArray, List.set_cons_zero, List.set_cons_succ]
  refine wpAnyH_done (by kernel_rfl) ?_ _
  go_wp2_with fail
  go_ret2
  exact ⟨rfl, hb1⟩
end Go.Proofs.YthfhpejpjiaikaaGreat
namespace Go.Proofs.YthfhpejpjiaikaaGreat
open Go.RowKit
set_option maxHeartbeats 800000 in
theorem wrOf_yes (k d b p q r s : Int) (w : World) (h : okP k d b = true) (e : zoneR k d b = ⟨p, q, r, s⟩) : Calls Tryz.prog 65 #[.int .i64 k, .agg #[.int .i64 d, .int .i64 b]] w fun e w' => e = .returned (.tuple #[.agg #[.int .i64 p, .int .i64 q, .int .i64 r, .int .i64 s], .int .i64 0]) ∧ Below w.heap.size w w' := by
  have he : corF (side k) (ups d b (cnt d b)) = (p, q, r, s) := by
    unfold zoneR at e
    injection e with e1 e2 e3 e4
    rw [← e1, ← e2, ← e3, ← e4]
  obtain ⟨w0, hw0⟩ : ∃ w0, w0 = (w.alloc (.cells #[.int .i64 d, .int .i64 b] 23)).alloc (.cells #[.int .i64 0, .int .i64 0, .int .i64 0, .int .i64 0] 112) := ⟨_, rfl⟩
  have hs0 : Since w w0 := by rw [hw0]; exact ((Since.refl w).alloc _).alloc _
  have wh0 : Whole w0 (w.heap.size) 23 #[.int .i64 d, .int .i64 b] := by rw [hw0]; exact (Whole.new w _ _).alloc _
  have wh1 : Whole w0 (w.heap.size + 1) 112 #[.int .i64 0, .int .i64 0, .int .i64 0, .int .i64 0] := by rw [hw0]; exact (Whole.new (w.alloc _) _ _).at_ (by simp)
  have HW := Lib.hid hw0
  have c0_0 := box_cell wh0 0 (.int .i64 d) rfl
  have c0_1 := box_cell wh0 1 (.int .i64 b) rfl
  have c1_0 := box_cell wh1 0 (.int .i64 0) rfl
  have f1_0 := box_free wh1 0
  have c1_1 := box_cell wh1 1 (.int .i64 0) rfl
  have f1_1 := box_free wh1 1
  have c1_2 := box_cell wh1 2 (.int .i64 0) rfl
  have f1_2 := box_free wh1 2
  have c1_3 := box_cell wh1 3 (.int .i64 0) rfl
  have f1_3 := box_free wh1 3
  have hsr := Since.refl w0
  have hsd := hsr.drew
  clear hw0
  replace h := Lib.hid h
  replace he := Lib.hid he
  clear e
  go_enter Tryz.func65, Tryz.ntmps65
  go_wp2_with fail
  rw [← HW.out]
  go_wp2_with (first | (go_at_call 32; (with_reducible refine (Calls.since (by assumption) (refRightP_at h.out _)).mono ?_); rintro e w1 ⟨rfl, hb1⟩) | ((go_at_call 94; (with_reducible refine (Calls.since (by assumption) (refCorner_yes k d b p q r s _ h.out he.out)).mono ?_); rintro e w2 ⟨rfl, hb2⟩); (have x1 := Since.whole hb2 wh1); (have x2 := (x1.alloc (.cells #[.int .i64 p, .int .i64 q] 50)).frozen 0); (have x3 := (x1.alloc (.cells #[.int .i64 p, .int .i64 q] 50)).frozen 1); (have x4 := (x1.alloc (.cells #[.int .i64 p, .int .i64 q] 50)).frozen 2); (have x5 := (x1.alloc (.cells #[.int .i64 p, .int .i64 q] 50)).frozen 3); (have y1 := (x1.alloc (.cells #[.int .i64 p, .int .i64 q] 50)).cell 0); (have y2 := (x1.alloc (.cells #[.int .i64 p, .int .i64 q] 50)).cell 1); (have y3 := (x1.alloc (.cells #[.int .i64 p, .int .i64 q] 50)).cell 2); (have y4 := (x1.alloc (.cells #[.int .i64 p, .int .i64 q] 50)).cell 3)))
  have g0 := (x1.alloc (.cells #[.int .i64 p, .int .i64 q] 50)).set4 (.int .i64 p) (.int .i64 q) (.int .i64 r) (.int .i64 s)
  have g1 := g0.cell 0
  have g2 := g0.cell 1
  have g3 := g0.cell 2
  have g4 := g0.cell 3
  exact bodyPost_ret (v := .tuple #[.agg #[.int .i64 p, .int .i64 q, .int .i64 r, .int .i64 s], .int .i64 0]) (by simp [results, Tryz.results65, go_sem, g1, g2, g3, g4]) rfl ⟨rfl, ((hs0.trans hb2).alloc _).set4 (by simp) _ _ _ _⟩
end Go.Proofs.YthfhpejpjiaikaaGreat
