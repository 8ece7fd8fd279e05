/- torus.right, mayStep, Side, mask, within, up: each answers its number; it may make memory. -/
import Derived.Test.YthgcmcdacejelaaDoorTMath
import Derived.Outline
import Derived.WalkSpells
namespace Go.Proofs.YthgcmcdacejelaaDoor
open Go.RowKit
theorem bcell {W w1 : World} (hb : Below W.heap.size W w1) : (∀ b o, b < W.heap.size → w1.cell? ⟨b, o, none⟩ = W.cell? ⟨b, o, none⟩) ∧ (∀ b o, b < W.heap.size → w1.frozen? ⟨b, o, none⟩ = W.frozen? ⟨b, o, none⟩) :=
  ⟨fun b o h => hb.cell (p := ⟨b, o, none⟩) h, fun b o h => hb.frozen (p := ⟨b, o, none⟩) h⟩
theorem ret_int {k : IntKind} {a b : Int} (h : a = b) : Ending.returned (.int k a) = .returned (.int k b) := by rw [h]
theorem ret_bool {a b : Bool} (h : a = b) : Ending.returned (.bool a) = .returned (.bool b) := by rw [h]
theorem right_any (k : Int) (w : World) : Calls Tryd.prog 83 #[.int .i64 k] w fun e w' => e = .returned (.bool (rgt k)) ∧ w = w' := by
  cases h : rgt k with
  | true =>
    obtain ⟨h1, h2⟩ := (rgt_iff k).1 h
    clear h
    go_enter Tryd.func83, Tryd.ntmps83
    go_wp2
    go_ret
    exact ⟨rfl, rfl⟩
  | false =>
    have h3 : ¬ (1 ≤ k ∧ k ≤ 16) := fun e => by rw [(rgt_iff k).2 e] at h; cases h
    by_cases h1 : 1 ≤ k
    · have h2 : ¬ k ≤ 16 := fun e => h3 ⟨h1, e⟩
      clear h h3
      go_enter Tryd.func83, Tryd.ntmps83
      go_wp2
      go_ret
      exact ⟨rfl, rfl⟩
    · clear h h3
      go_enter Tryd.func83, Tryd.ntmps83
      go_wp2
      go_ret
      exact ⟨rfl, rfl⟩
theorem side_wrap {k : Int} (h : rgt k = true) : wrap64 (2 ^ k.toNat) = side k := by
  have := side_bd k
  rw [side_yes h] at this ⊢
  exact IntWalk.wrap64_in _ ⟨by omega, by omega⟩
theorem side_any (k : Int) (w : World) : Calls Tryd.prog 92 #[.agg #[.int .i64 k]] w fun e w' => e = .returned (.int .i64 (side k)) ∧ Below w.heap.size w w' := by
  cases h : rgt k with
  | true =>
    have e := Lib.hid (side_wrap h)
    obtain ⟨h1, h2⟩ := (rgt_iff k).1 h
    go_enter Tryd.func92, Tryd.ntmps92
    go_wp2_with (go_at_call 83; (with_reducible refine (right_any _ _).mono ?_); rintro e w' ⟨rfl, rfl⟩)
    go_ret
    exact ⟨ret_int e.out, (Below.refl _ _).alloc (Nat.le_refl _) _⟩
  | false =>
    rw [side_no h]
    go_enter Tryd.func92, Tryd.ntmps92
    go_wp2_with (go_at_call 83; (with_reducible refine (right_any _ _).mono ?_); rintro e w' ⟨rfl, rfl⟩)
    go_ret
    exact ⟨rfl, (Below.refl _ _).alloc (Nat.le_refl _) _⟩
theorem mask_any (k : Int) (w : World) : Calls Tryd.prog 90 #[.agg #[.int .i64 k]] w fun e w' => e = .returned (.int .i64 (sd k - 1)) ∧ Below w.heap.size w w' := by
  have hm := Lib.hid (side_max k)
  have h1 := sd_pos k
  have h2 := sd_le k
  have h3 := side_bd k
  go_enter Tryd.func90, Tryd.ntmps90
  go_wp2_with (go_at_call 92; (with_reducible refine (side_any _ _).mono ?_); rintro e w1 ⟨rfl, hb⟩)
  all_goals
    go_ret
    exact ⟨ret_int (by have := hm.out; omega), ((Below.refl _ _).alloc (Nat.le_refl _) _).trans (hb.mono (by simp))⟩
/-- Is a number one of the side's? -/
def inB (k n : Int) : Bool := decide (0 ≤ n ∧ n < side k)
theorem inB_iff (k n : Int) : inB k n = true ↔ 0 ≤ n ∧ n < side k := by unfold inB; exact decide_eq_true_iff
theorem side_at {k s : Int} (h : side k = s) (w : World) : Calls Tryd.prog 92 #[.agg #[.int .i64 k]] w fun e w' => e = .returned (.int .i64 s) ∧ Below w.heap.size w w' := h ▸ side_any k w
end Go.Proofs.YthgcmcdacejelaaDoor
