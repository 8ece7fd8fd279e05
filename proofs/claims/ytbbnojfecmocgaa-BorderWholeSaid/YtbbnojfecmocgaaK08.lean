/- torus.Apart, Dist, nearer: how far. torus.Toward: the next cell on the way. torus.away, Ring: how many cells are so far. What distances keep: in numbers. What the laws of the torus share: num, on, at, knows. Rectangles and windows in numbers: areas, what two have together, the plain ones of a window; nothing of the program. What zones have of a window, in numbers: the sum of the areas, both halves together. gleberef04: what two rectangles have together, a zone's rectangle. -/
import Derived.Test.YtbbnojfecmocgaaK03
import Derived.Test.YtbbnojfecmocgaaK07
import Derived.Maps.AppendAt
import Derived.Great.BuildSlice
import Derived.Laws.IdiomStrings
namespace Go.Proofs.Ytbbnojfecmocgaa
open Go.RowKit
/-- How far apart two numbers are; -1 of others. -/
def apart (k a b : Int) : Int := if inB k a && inB k b then min ((b - a) % sd k) ((a - b) % sd k) else -1
theorem within_at {k a : Int} {b : Bool} (h : inB k a = b) (w : World) : Calls Try.prog 108 #[.agg #[.int .i64 k], .int .i64 a] w fun e w' => e = .returned (.bool b) ∧ Below w.heap.size w w' := h ▸ within_any k a w
set_option maxHeartbeats 400000 in
theorem apart_any (k a b : Int) (w : World) : Calls Try.prog 74 #[.agg #[.int .i64 k], .int .i64 a, .int .i64 b] w fun e w' => e = .returned (.int .i64 (apart k a b)) ∧ Below w.heap.size w w' := by
  obtain ⟨w0, hw0⟩ : ∃ w0, w0 = w.alloc (.cells #[.int .i64 k] 26) := ⟨_, rfl⟩
  have hs0 : Since w w0 := by rw [hw0]; exact (Since.refl w).alloc _
  have wh0 : Whole w0 (w.heap.size) 26 #[.int .i64 k] := by rw [hw0]; exact Whole.new w _ _
  have HW := Lib.hid hw0
  have c0_0 := box_cell wh0 0 (.int .i64 k) rfl
  have hsr := Since.refl w0
  have hsd := hsr.drew
  clear hw0 wh0
  cases ha : inB k a with
  | false =>
    rw [show apart k a b = -1 by unfold apart; rw [ha]; rfl]
    replace ha := Lib.hid ha
    go_enter Try.func74, Try.ntmps74
    go_wp2_with fail
    rw [← HW.out]
    go_wp2_with ((go_at_call 108; (with_reducible refine (Calls.since (by assumption) (within_at ha.out _)).mono ?_); rintro e w' ⟨rfl, hb1⟩))
    go_ret
    exact ⟨rfl, hs0.trans hb1⟩
  | true =>
    cases hb : inB k b with
    | false =>
      rw [show apart k a b = -1 by unfold apart; rw [ha, hb]; rfl]
      replace ha := Lib.hid ha
      replace hb := Lib.hid hb
      go_enter Try.func74, Try.ntmps74
      go_wp2_with fail
      rw [← HW.out]
      go_wp2_with (go_at_call 108; (with_reducible refine (Calls.since (by assumption) (within_at (by first | exact ha.out | exact hb.out) _)).mono ?_); rintro e w' ⟨rfl, hb1⟩)
      go_ret
      exact ⟨rfl, hs0.trans (by assumption)⟩
    | true =>
      rw [show apart k a b = min ((b - a) % sd k) ((a - b) % sd k) by unfold apart; rw [ha, hb]; rfl]
      replace ha := Lib.hid ha
      replace hb := Lib.hid hb
      go_enter Try.func74, Try.ntmps74
      go_wp2_with fail
      rw [← HW.out]
      go_wp2_with (go_at_call 108; (with_reducible refine (Calls.since (by assumption) (within_at (by first | exact ha.out | exact hb.out) _)).mono ?_); rintro e w' ⟨rfl, hb1⟩)
      go_region_held3 (fun W => Since w0 W) (first | assumption | exact Since.drew (by assumption))
        (((go_at_call 109; (with_reducible refine (Calls.since (by assumption) (up_any _ _ _ _)).mono ?_); rintro e w3 ⟨rfl, hb3⟩)))
      go_wp2
      all_goals
        go_ret
        exact ⟨ret_int (by omega), hs0.trans (by assumption)⟩
end Go.Proofs.Ytbbnojfecmocgaa
namespace Go.Proofs.Ytbbnojfecmocgaa
open Go.RowKit
end Go.Proofs.Ytbbnojfecmocgaa
namespace Go.Proofs.Ytbbnojfecmocgaa
open Go.RowKit
end Go.Proofs.Ytbbnojfecmocgaa
namespace Go.Proofs.Ytbbnojfecmocgaa
open Go.RowKit
theorem emod_sub {s a b : Int} (ha : 0 ≤ a ∧ a < s) (hb : 0 ≤ b ∧ b < s) : (b - a) % s = if a ≤ b then b - a else b - a + s := by
  split
  · exact Int.emod_eq_of_lt (by omega) (by omega)
  · rw [← Int.add_emod_right, Int.emod_eq_of_lt (by omega) (by omega)]
theorem apart_eq {k a b : Int} (ha : inB k a = true) (hb : inB k b = true) : apart k a b = min (if a ≤ b then b - a else b - a + side k) (if b ≤ a then a - b else a - b + side k) := by
  have h1 := (inB_iff k a).1 ha
  have h2 := (inB_iff k b).1 hb
  have hr : rgt k = true := by
    cases e : rgt k with
    | true => rfl
    | false => have := side_no e; omega
  unfold apart
  rw [ha, hb, sd_yes hr, emod_sub h1 h2, emod_sub h2 h1]
  rfl
theorem apart_comm {k a b : Int} (ha : inB k a = true) (hb : inB k b = true) : apart k a b = apart k b a := by
  rw [apart_eq ha hb, apart_eq hb ha, Int.min_comm]
theorem apart_half {k a b : Int} (ha : inB k a = true) (hb : inB k b = true) : 0 ≤ apart k a b ∧ 2 * apart k a b ≤ side k := by
  have h1 := (inB_iff k a).1 ha
  have h2 := (inB_iff k b).1 hb
  rw [apart_eq ha hb]
  split <;> split <;> omega
theorem apart_zero {k a b : Int} (ha : inB k a = true) (hb : inB k b = true) : apart k a b = 0 ↔ a = b := by
  have h1 := (inB_iff k a).1 ha
  have h2 := (inB_iff k b).1 hb
  rw [apart_eq ha hb]
  split <;> split <;> omega
theorem has_in {k x y : Int} (h : hasB k x y = true) : inB k x = true ∧ inB k y = true := by
  unfold hasB at h
  rwa [Bool.and_eq_true] at h
end Go.Proofs.Ytbbnojfecmocgaa
namespace Go.Proofs.Ytbbnojfecmocgaa
open Go.RowKit
theorem new_yes (k : Int) (w : World) (h : rgt k = true) : Calls Try.prog 57 #[.int .i64 k] w fun e w' => e = .returned (.tuple #[.agg #[.int .i64 k], .int .i64 0]) ∧ Below w.heap.size w w' := by
  replace h := Lib.hid h
  go_enter Try.func57, Try.ntmps57
  go_wp2_with (go_at_call 98; (with_reducible refine (right_yes h.out _).mono ?_); rintro e w' ⟨rfl, rfl⟩)
  exact bodyPost_ret (v := .tuple #[.agg #[.int .i64 k], .int .i64 0]) (by simp [results, Try.results57, go_sem]) rfl ⟨rfl, (Since.refl w).alloc _⟩
theorem right_no' {k : Int} (h : rgt k = false) (w : World) : Calls Try.prog 98 #[.int .i64 k] w fun e w' => e = .returned (.bool false) ∧ w = w' :=
  (right_no h w).mono fun _ _ ⟨a, b⟩ => ⟨a, b.symm⟩
theorem new_no (k : Int) (w : World) (h : rgt k = false) : Calls Try.prog 57 #[.int .i64 k] w fun e w' => e = .returned (.tuple #[.agg #[.int .i64 0], .int .i64 1]) ∧ Below w.heap.size w w' := by
  replace h := Lib.hid h
  go_enter Try.func57, Try.ntmps57
  go_wp2_with (go_at_call 98; (with_reducible refine (right_no' h.out _).mono ?_); rintro e w' ⟨rfl, rfl⟩)
  exact bodyPost_ret (v := .tuple #[.agg #[.int .i64 0], .int .i64 1]) (by simp [results, Try.results57, go_sem]) rfl ⟨rfl, (Since.refl w).alloc _⟩
end Go.Proofs.Ytbbnojfecmocgaa
namespace Go.Proofs.Ytbbnojfecmocgaa
open Go.RowKit
/-- A rectangle. -/
structure Rc where
  x : Int
  y : Int
  w : Int
  h : Int
/-- May it be, of k? -/
def rightR (k : Int) (r : Rc) : Bool := decide (0 < side k ∧ 0 ≤ r.x ∧ r.x ≤ side k ∧ 0 ≤ r.y ∧ r.y ≤ side k ∧ 0 ≤ r.w ∧ r.w ≤ side k - r.x ∧ 0 ≤ r.h ∧ r.h ≤ side k - r.y)
theorem rightR_iff (k : Int) (r : Rc) : rightR k r = true ↔ 0 < side k ∧ 0 ≤ r.x ∧ r.x ≤ side k ∧ 0 ≤ r.y ∧ r.y ≤ side k ∧ 0 ≤ r.w ∧ r.w ≤ side k - r.x ∧ 0 ≤ r.h ∧ r.h ≤ side k - r.y := by unfold rightR; exact decide_eq_true_iff
/-- Has it cells? -/
def neR (r : Rc) : Bool := decide (0 < r.w ∧ 0 < r.h)
theorem neR_iff (r : Rc) : neR r = true ↔ 0 < r.w ∧ 0 < r.h := by unfold neR; exact decide_eq_true_iff
section
variable {k : Int} {w : Rc}
end
end Go.Proofs.Ytbbnojfecmocgaa
namespace Go.Proofs.Ytbbnojfecmocgaa
open Go.RowKit
/-- How many numbers two spans have together. -/
def ov (l c l' c' : Int) : Int := max 0 (min (l + c) (l' + c') - max l l')
/-- A path's zone. -/
def zoneR (k d b : Int) : Rc := ⟨(corF (side k) (ups d b (cnt d b))).1, (corF (side k) (ups d b (cnt d b))).2.1, (corF (side k) (ups d b (cnt d b))).2.2.1, (corF (side k) (ups d b (cnt d b))).2.2.2⟩
section
variable {k d b : Int} {w : Rc}
theorem ok_nat (ho : okP k d b = true) : ∃ n : Nat, k = (n : Int) ∧ 1 ≤ n ∧ n ≤ 16 ∧ side k = 2 ^ n := by
  obtain ⟨h1, h2, _⟩ := (okP_iff k d b).1 ho
  exact ⟨k.toNat, by omega, by omega, by omega, side_yes ((rgt_iff k).2 ⟨h1, h2⟩)⟩
theorem zone_right (ho : okP k d b = true) : rightR k (zoneR k d b) = true ∧ 0 < (zoneR k d b).w ∧ 0 < (zoneR k d b).h ∧ (zoneR k d b).w * (zoneR k d b).h * 2 ^ d.toNat = side k * side k := by
  obtain ⟨n, hk, hn1, hn16, hs⟩ := ok_nat ho
  obtain ⟨p, q, r, s, Z⟩ := zone_of (show okP n d b = true by rw [← hk]; exact ho)
  have hz : zoneR k d b = ⟨p, q, r, s⟩ := by unfold zoneR; rw [hs, Z.val]
  have z1 := Z.p0
  have z2 := Z.q0
  have z3 := Z.r0
  have z4 := Z.s0
  have z5 := Z.pr
  have z6 := Z.qs
  rw [hz, hs, rightR_iff]
  dsimp only
  rw [hs]
  exact ⟨by omega, z3, z4, Z.area⟩
end
end Go.Proofs.Ytbbnojfecmocgaa
namespace Go.Proofs.Ytbbnojfecmocgaa
open Go.RowKit
/-- Four cells behind each other, stored. -/
theorem Since.set4 {w0 W : World} (h : Since w0 W) {g : Nat} (hg : w0.heap.size ≤ g) (a b c d : Value) : Since w0 ((((W.setCell ⟨g, 0, none⟩ a).setCell ⟨g, 1, none⟩ b).setCell ⟨g, 2, none⟩ c).setCell ⟨g, 3, none⟩ d) :=
  (((h.setCell (p := ⟨g, 0, none⟩) hg _).setCell (p := ⟨g, 1, none⟩) hg _).setCell (p := ⟨g, 2, none⟩) hg _).setCell (p := ⟨g, 3, none⟩) hg _
theorem But.set4 {g : Nat} {w0 W : World} (h : Since w0 W) (a b c d : Value) : But g w0 ((((W.setCell ⟨g, 0, none⟩ a).setCell ⟨g, 1, none⟩ b).setCell ⟨g, 2, none⟩ c).setCell ⟨g, 3, none⟩ d) :=
  ((But.set2 h 0 1 a b).set_ (p := ⟨g, 2, none⟩) rfl c).set_ (p := ⟨g, 3, none⟩) rfl d
theorem Whole.set4 {W : World} {g : Nat} {t : TypeId} {x y z u : Value} (h : Whole W g t #[x, y, z, u]) (a b c d : Value) : Whole ((((W.setCell ⟨g, 0, none⟩ a).setCell ⟨g, 1, none⟩ b).setCell ⟨g, 2, none⟩ c).setCell ⟨g, 3, none⟩ d) g t #[a, b, c, d] :=
  (((h.set_ 0 a).set_ 1 b).set_ 2 c).set_ 3 d
end Go.Proofs.Ytbbnojfecmocgaa
