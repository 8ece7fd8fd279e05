/- The laws' knows of the windows; the document's Plain of all. What is asked of the program stands as premises. -/
import Derived.Test.YtbfjnnjblnjdkaaWLaw
namespace Go.Proofs.Ytbfjnnjblnjdkaa
open Go.RowKit
/-- Plain's error. -/
def plE (k : Int) (r : Rc) : Int := if winR k r = true then 0 else 1
/-- What the program's Plain, Cut, Covers, Dist, Right, Area, Meet, Has are to do. -/
def PlainC : Prop := ∀ (k a b c d : Int) (w : World), Calls Try.prog 7 #[.agg #[.int .i64 k], .agg #[.int .i64 a, .int .i64 b, .int .i64 c, .int .i64 d]] w fun e w' => ∃ v, e = .returned (.tuple #[v, .int .i64 (plE k ⟨a, b, c, d⟩)]) ∧ RowR w' w.heap.size 34 v (plainR k ⟨a, b, c, d⟩) ∧ Below w.heap.size w w'
def CutC : Prop := ∀ (k a b c d e f : Int) (w : World), Calls Try.prog 12 #[.agg #[.int .i64 k], .agg #[.int .i64 a, .int .i64 b, .int .i64 c, .int .i64 d], .agg #[.int .i64 e, .int .i64 f]] w fun z w' => ∃ v, z = .returned v ∧ RowR w' w.heap.size 34 v (cutR k ⟨a, b, c, d⟩ e f) ∧ Below w.heap.size w w'
def CoversC : Prop := ∀ (k a b c d e f : Int) (w : World), Calls Try.prog 14 #[.agg #[.int .i64 k], .agg #[.int .i64 a, .int .i64 b, .int .i64 c, .int .i64 d], .agg #[.int .i64 e, .int .i64 f]] w fun z w' => z = .returned (.bool (covR k ⟨a, b, c, d⟩ e f)) ∧ Below w.heap.size w w'
def DistC : Prop := ∀ (k a b c d x y : Int), a ≤ 9223372036854775807 → b ≤ 9223372036854775807 → ∀ (w : World), Calls Try.prog 16 #[.agg #[.int .i64 k], .agg #[.int .i64 a, .int .i64 b, .int .i64 c, .int .i64 d], .agg #[.int .i64 x, .int .i64 y]] w fun z w' => z = .returned (.int .i64 (distR k ⟨a, b, c, d⟩ x y)) ∧ Below w.heap.size w w'
def RightC : Prop := ∀ (k a b c d : Int), a ≤ 9223372036854775807 → b ≤ 9223372036854775807 → ∀ (w : World), Calls Try.prog 22 #[.agg #[.int .i64 k], .agg #[.int .i64 a, .int .i64 b, .int .i64 c, .int .i64 d]] w fun z w' => z = .returned (.bool (rightR k ⟨a, b, c, d⟩)) ∧ Below w.heap.size w w'
def AreaC : Prop := ∀ (a b c d : Int) (w : World), Calls Try.prog 23 #[.agg #[.int .i64 a, .int .i64 b, .int .i64 c, .int .i64 d]] w fun e w' => e = .returned (.int .i64 (areaR ⟨a, b, c, d⟩)) ∧ Below w.heap.size w w'
def HasC : Prop := ∀ (a b c d x y : Int) (w : World), Calls Try.prog 48 #[.agg #[.int .i64 a, .int .i64 b, .int .i64 c, .int .i64 d], .agg #[.int .i64 x, .int .i64 y]] w fun e w' => e = .returned (.bool (hasR ⟨a, b, c, d⟩ x y)) ∧ Below w.heap.size w w'
def MeetC : Prop := ∀ (a b c d p q r s : Int) (w : World), Calls Try.prog 24 #[.agg #[.int .i64 a, .int .i64 b, .int .i64 c, .int .i64 d], .agg #[.int .i64 p, .int .i64 q, .int .i64 r, .int .i64 s]] w fun e w' => e = .returned (.agg #[.int .i64 ((meetR ⟨a, b, c, d⟩ ⟨p, q, r, s⟩).x), .int .i64 ((meetR ⟨a, b, c, d⟩ ⟨p, q, r, s⟩).y), .int .i64 ((meetR ⟨a, b, c, d⟩ ⟨p, q, r, s⟩).w), .int .i64 ((meetR ⟨a, b, c, d⟩ ⟨p, q, r, s⟩).h)]) ∧ Below w.heap.size w w'
theorem wrPlain_any (k a b c d : Int) (w : World) : Calls Try.prog 9 #[.int .i64 k, .agg #[.int .i64 a, .int .i64 b, .int .i64 c, .int .i64 d]] w fun e w' => ∃ v, e = .returned (.tuple #[v, .int .i64 (plE k ⟨a, b, c, d⟩)]) ∧ RowR w' w.heap.size 23 v (plainR k ⟨a, b, c, d⟩) ∧ Below w.heap.size w w' := by
  unfold plE
  cases h : winR k ⟨a, b, c, d⟩
  · rw [if_neg Bool.false_ne_true, plainR_no h]
    refine (wrPlain_no k a b c d w h).mono ?_
    rintro e w' ⟨rfl, hb⟩
    exact ⟨_, rfl, RowE.nil _ _ _, hb⟩
  · rw [if_pos rfl]
    exact wrPlain_yes k a b c d w h
set_option maxRecDepth 100000 in
set_option maxHeartbeats 1600000 in
theorem knows4 (hP : PlainC) (hD : DistC) (w : World) : Calls Try.prog 18 #[] w fun e w' => e = .returned (.bool true) ∧ Below w.heap.size w w' := by
  have hp := hP 2 3 3 2 1
  have hd := hD 2 3 3 1 1 0 0 (by decide) (by decide)
  rw [show plainR 2 ⟨3, 3, 2, 1⟩ = [⟨3, 3, 1, 1⟩, ⟨0, 3, 1, 1⟩] from rfl, show plE 2 ⟨3, 3, 2, 1⟩ = 0 by decide] at hp
  rw [show distR 2 ⟨3, 3, 1, 1⟩ 0 0 = 2 by decide] at hd
  clear hP hD
  go_enter Try.func18, Try.ntmps18
  go_wp2_with fail
  refine Calls.named (fun w1 hw => ?_)
  have bt : Whole w1 w.heap.size 29 #[.int .i64 2] := (Whole.new w _ _).named hw
  have hs : Since w w1 := ((Since.refl w).alloc _).named hw
  clear hw
  refine (hp w1).mono ?_
  rintro e w2 ⟨v, rfl, hrow, hb⟩
  have hls := hrow.list encR_len
  replace bt := Since.whole hb bt
  replace hs := hs.trans hb
  clear hrow hb hp
  obtain ⟨va, cap, rfl, hform⟩ := hls.form
  obtain ⟨g, rfl, hg⟩ := hform 0 (by decide)
  have e1 := fun W (hW : Since w2 W) => hls.since hW (Nat.le_refl _)
  have t0 : ∀ W, Since w2 W → W.cell? ⟨g, 0, none⟩ = some (.int .i64 3) := fun W hW => (e1 W hW).at_ (i := 0) (by decide) 0 rfl
  have t1 : ∀ W, Since w2 W → W.cell? ⟨g, 1, none⟩ = some (.int .i64 3) := fun W hW => (e1 W hW).at_ (i := 0) (by decide) 1 rfl
  have t2 : ∀ W, Since w2 W → W.cell? ⟨g, 2, none⟩ = some (.int .i64 1) := fun W hW => (e1 W hW).at_ (i := 0) (by decide) 2 rfl
  have t3 : ∀ W, Since w2 W → W.cell? ⟨g, 3, none⟩ = some (.int .i64 1) := fun W hW => (e1 W hW).at_ (i := 0) (by decide) 3 rfl
  have t4 : ∀ W, Since w2 W → W.cell? ⟨g, 4, none⟩ = some (.int .i64 0) := fun W hW => (e1 W hW).at_ (i := 1) (by decide) 0 rfl
  have t5 : ∀ W, Since w2 W → W.cell? ⟨g, 5, none⟩ = some (.int .i64 3) := fun W hW => (e1 W hW).at_ (i := 1) (by decide) 1 rfl
  have t6 : ∀ W, Since w2 W → W.cell? ⟨g, 6, none⟩ = some (.int .i64 1) := fun W hW => (e1 W hW).at_ (i := 1) (by decide) 2 rfl
  have t7 : ∀ W, Since w2 W → W.cell? ⟨g, 7, none⟩ = some (.int .i64 1) := fun W hW => (e1 W hW).at_ (i := 1) (by decide) 3 rfl
  have t8 := box_cell bt 0 _ rfl
  have hsr := Since.refl w2
  have hsd := hsr.drew
  clear e1 hform hls
  simp only [List.length_cons, List.length_nil, Nat.reduceAdd]
  go_wp2_with fail
  go_region_held3 (fun W => Since w2 W) (first | assumption | exact Since.drew (by assumption)) ((first | (go_at_call 11; (with_reducible refine (Calls.since_same (by assumption) (law4_num _ _)).mono ?_); rintro e w4 ⟨rfl, hb4⟩) | (go_at_call 16; (with_reducible refine (Calls.since (by assumption) (hd _)).mono ?_); rintro e w5 ⟨rfl, hb5⟩)))
  go_wp2
  go_ret
  exact ⟨rfl, hs.trans (by assumption)⟩
end Go.Proofs.Ytbfjnnjblnjdkaa
