/- What distances keep: in numbers. -/
import Derived.Test.YtgnligeiojdmhaaTToward
namespace Go.Proofs.Ytgnligeiojdmhaa
open Go.RowKit
theorem emod_sub {s a b : Int} (ha : 0 ≤ a ∧ a < s) (hb : 0 ≤ b ∧ b < s) : (b - a) % s = if a ≤ b then b - a else b - a + s := by
  split
  · exact Int.emod_eq_of_lt (by omega) (by omega)
  · rw [← Int.add_emod_right, Int.emod_eq_of_lt (by omega) (by omega)]
theorem apart_eq {k a b : Int} (ha : inB k a = true) (hb : inB k b = true) : apart k a b = min (if a ≤ b then b - a else b - a + side k) (if b ≤ a then a - b else a - b + side k) := by
  have h1 := (inB_iff k a).1 ha
  have h2 := (inB_iff k b).1 hb
  have hr : rgt k = true := by
    cases e : rgt k with
    | true => rfl
    | false => have := side_no e; omega
  unfold apart
  rw [ha, hb, sd_yes hr, emod_sub h1 h2, emod_sub h2 h1]
  rfl
theorem apart_tri {k a b c : Int} (ha : inB k a = true) (hb : inB k b = true) (hc : inB k c = true) : apart k a c ≤ apart k a b + apart k b c := by
  have h1 := (inB_iff k a).1 ha
  have h2 := (inB_iff k b).1 hb
  have h3 := (inB_iff k c).1 hc
  rw [apart_eq ha hb, apart_eq hb hc, apart_eq ha hc]
  split <;> split <;> split <;> split <;> split <;> split <;> omega
theorem apart_comm {k a b : Int} (ha : inB k a = true) (hb : inB k b = true) : apart k a b = apart k b a := by
  rw [apart_eq ha hb, apart_eq hb ha, Int.min_comm]
theorem apart_half {k a b : Int} (ha : inB k a = true) (hb : inB k b = true) : 0 ≤ apart k a b ∧ 2 * apart k a b ≤ side k := by
  have h1 := (inB_iff k a).1 ha
  have h2 := (inB_iff k b).1 hb
  rw [apart_eq ha hb]
  split <;> split <;> omega
theorem apart_zero {k a b : Int} (ha : inB k a = true) (hb : inB k b = true) : apart k a b = 0 ↔ a = b := by
  have h1 := (inB_iff k a).1 ha
  have h2 := (inB_iff k b).1 hb
  rw [apart_eq ha hb]
  split <;> split <;> omega
theorem inB_mod_yes {k : Int} (h : rgt k = true) (x : Int) : inB k (x % sd k) = true := by
  rw [inB_iff, ← sd_yes h]
  have h1 := sd_pos k
  exact ⟨Int.emod_nonneg _ (by omega), Int.emod_lt_of_pos _ h1⟩
theorem inB_rgt {k x : Int} (h : inB k x = true) : rgt k = true := by
  have h1 := (inB_iff k x).1 h
  cases e : rgt k with
  | true => rfl
  | false => have := side_no e; omega
theorem apart_move {k a b : Int} (d : Int) (ha : inB k a = true) (hb : inB k b = true) : apart k ((a + d) % sd k) ((b + d) % sd k) = apart k a b := by
  have hr := inB_rgt ha
  have e : ∀ x y : Int, ((x + d) % sd k - (y + d) % sd k) % sd k = (x - y) % sd k := by
    intro x y
    rw [← Int.sub_emod]
    congr 1
    omega
  unfold apart
  rw [ha, hb, inB_mod_yes hr, inB_mod_yes hr, e, e]
theorem has_in {k x y : Int} (h : hasB k x y = true) : inB k x = true ∧ inB k y = true := by
  unfold hasB at h
  rwa [Bool.and_eq_true] at h
theorem has_mk {k x y : Int} (h1 : inB k x = true) (h2 : inB k y = true) : hasB k x y = true := by unfold hasB; rw [h1, h2]; rfl
theorem has_mod {k : Int} (h : rgt k = true) (x y : Int) : hasB k (x % sd k) (y % sd k) = true := has_mk (inB_mod_yes h x) (inB_mod_yes h y)
theorem dist_eq {k ax ay bx by' : Int} (ha : hasB k ax ay = true) (hb : hasB k bx by' = true) : dist k ax ay bx by' = apart k ax bx + apart k ay by' := by
  unfold dist; rw [ha, hb]; rfl
theorem dist_comm {k ax ay bx by' : Int} (ha : hasB k ax ay = true) (hb : hasB k bx by' = true) : dist k bx by' ax ay = dist k ax ay bx by' := by
  rw [dist_eq ha hb, dist_eq hb ha, apart_comm (has_in ha).1 (has_in hb).1, apart_comm (has_in ha).2 (has_in hb).2]
theorem dist_bd {k ax ay bx by' : Int} (ha : hasB k ax ay = true) (hb : hasB k bx by' = true) : 0 ≤ dist k ax ay bx by' ∧ dist k ax ay bx by' ≤ side k := by
  rw [dist_eq ha hb]
  have h1 := apart_half (has_in ha).1 (has_in hb).1
  have h2 := apart_half (has_in ha).2 (has_in hb).2
  omega
theorem dist_zero {k ax ay bx by' : Int} (ha : hasB k ax ay = true) (hb : hasB k bx by' = true) : dist k ax ay bx by' = 0 ↔ ax = bx ∧ ay = by' := by
  rw [dist_eq ha hb, ← apart_zero (has_in ha).1 (has_in hb).1, ← apart_zero (has_in ha).2 (has_in hb).2]
  have h1 := apart_half (has_in ha).1 (has_in hb).1
  have h2 := apart_half (has_in ha).2 (has_in hb).2
  omega
theorem dist_tri {k ax ay bx by' cx cy : Int} (ha : hasB k ax ay = true) (hb : hasB k bx by' = true) (hc : hasB k cx cy = true) : dist k ax ay cx cy ≤ dist k ax ay bx by' + dist k bx by' cx cy := by
  rw [dist_eq ha hb, dist_eq ha hc, dist_eq hb hc]
  have h1 := apart_tri (has_in ha).1 (has_in hb).1 (has_in hc).1
  have h2 := apart_tri (has_in ha).2 (has_in hb).2 (has_in hc).2
  omega
theorem dist_move {k ax ay bx by' : Int} (dx dy : Int) (ha : hasB k ax ay = true) (hb : hasB k bx by' = true) :
    dist k ((ax + dx) % sd k) ((ay + dy) % sd k) ((bx + dx) % sd k) ((by' + dy) % sd k) = dist k ax ay bx by' := by
  have hr := inB_rgt (has_in ha).1
  rw [dist_eq ha hb, dist_eq (has_mod hr _ _) (has_mod hr _ _), apart_move dx (has_in ha).1 (has_in hb).1, apart_move dy (has_in ha).2 (has_in hb).2]
end Go.Proofs.Ytgnligeiojdmhaa
