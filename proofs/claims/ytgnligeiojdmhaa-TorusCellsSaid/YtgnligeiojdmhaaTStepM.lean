/- A step by Toward: in numbers, and as a call. -/
import Derived.Test.YtgnligeiojdmhaaTDistM
import Derived.Test.YtgnligeiojdmhaaTKnows
namespace Go.Proofs.Ytgnligeiojdmhaa
open Go.RowKit
/-- One step up or down from a. -/
theorem near_mod {k a b : Int} (ha : inB k a = true) : (a + near k a b) % sd k = if a + near k a b = side k then 0 else if a + near k a b = -1 then side k - 1 else a + near k a b := by
  have h1 := (inB_iff k a).1 ha
  have h2 := near_bd k a b
  have hr := inB_rgt ha
  have h3 := sd_pos k
  rw [sd_yes hr] at h3 ⊢
  split
  · next e => rw [e, Int.emod_self]
  · split
    · next e => rw [e, ← Int.add_emod_right, Int.emod_eq_of_lt (by omega) (by omega)]; omega
    · exact Int.emod_eq_of_lt (by omega) (by omega)
theorem near_eq {k a b : Int} (ha : inB k a = true) (hb : inB k b = true) : near k a b = if (if a ≤ b then b - a else b - a + side k) ≤ (if b ≤ a then a - b else a - b + side k) then 1 else -1 := by
  have h1 := (inB_iff k a).1 ha
  have h2 := (inB_iff k b).1 hb
  unfold near
  rw [sd_yes (inB_rgt ha), emod_sub h1 h2, emod_sub h2 h1]
theorem near_step {k a b : Int} (ha : inB k a = true) (hb : inB k b = true) (hne : a ≠ b) :
    inB k ((a + near k a b) % sd k) = true ∧ apart k a ((a + near k a b) % sd k) = 1 ∧ apart k ((a + near k a b) % sd k) b = apart k a b - 1 := by
  have h1 := (inB_iff k a).1 ha
  have h2 := (inB_iff k b).1 hb
  obtain ⟨m, hm, hm1, _⟩ := side_half (inB_rgt ha)
  have hc := inB_mod_yes (inB_rgt ha) (a + near k a b)
  refine ⟨hc, ?_, ?_⟩
  · rw [apart_eq ha hc, near_mod ha]
    rw [near_eq ha hb]
    split <;> split <;> split <;> split <;> omega
  · rw [apart_eq hc hb, apart_eq ha hb, near_mod ha, near_eq ha hb]
    split <;> split <;> split <;> split <;> omega
/-- Where Toward leads to. -/
def twX (k px qx : Int) : Int := if px = qx then px % sd k else (px + near k px qx) % sd k
def twY (k px py qx qy : Int) : Int := if px = qx then (py + near k py qy) % sd k else py % sd k
theorem mod_in {k a : Int} (ha : inB k a = true) : a % sd k = a := by
  have h1 := (inB_iff k a).1 ha
  rw [sd_yes (inB_rgt ha)]
  exact Int.emod_eq_of_lt h1.1 h1.2
theorem apart_self {k a : Int} (ha : inB k a = true) : apart k a a = 0 := (apart_zero ha ha).2 rfl
theorem tw_step {k px py qx qy : Int} (ha : hasB k px py = true) (hb : hasB k qx qy = true) (hne : 0 < dist k px py qx qy) :
    hasB k (twX k px qx) (twY k px py qx qy) = true ∧ dist k px py (twX k px qx) (twY k px py qx qy) = 1 ∧ dist k (twX k px qx) (twY k px py qx qy) qx qy = dist k px py qx qy - 1 := by
  obtain ⟨a1, a2⟩ := has_in ha
  obtain ⟨b1, b2⟩ := has_in hb
  by_cases e : px = qx
  · have hn : py ≠ qy := fun e2 => by have := (dist_zero ha hb).2 ⟨e, e2⟩; omega
    obtain ⟨s1, s2, s3⟩ := near_step a2 b2 hn
    have e1 : twX k px qx = px := by unfold twX; rw [if_pos e, mod_in a1]
    have e2 : twY k px py qx qy = (py + near k py qy) % sd k := by unfold twY; rw [if_pos e]
    have hh : hasB k px ((py + near k py qy) % sd k) = true := has_mk a1 s1
    rw [e1, e2, dist_eq ha hh, dist_eq hh hb, dist_eq ha hb, s2, s3, apart_self a1]
    exact ⟨hh, by omega, by omega⟩
  · obtain ⟨s1, s2, s3⟩ := near_step a1 b1 e
    have e1 : twX k px qx = (px + near k px qx) % sd k := by unfold twX; rw [if_neg e]
    have e2 : twY k px py qx qy = py := by unfold twY; rw [if_neg e, mod_in a2]
    have hh : hasB k ((px + near k px qx) % sd k) py = true := has_mk s1 a2
    rw [e1, e2, dist_eq ha hh, dist_eq hh hb, dist_eq ha hb, s2, s3, apart_self a2]
    exact ⟨hh, by omega, by omega⟩
theorem toward_step (k px py qx qy : Int) (w : World) (ha : hasB k px py = true) (hb : hasB k qx qy = true) (hne : 0 < dist k px py qx qy) :
    Calls Try.prog 27 #[.agg #[.int .i64 k], .agg #[.int .i64 px, .int .i64 py], .agg #[.int .i64 qx, .int .i64 qy]] w fun e w' => e = .returned (.tuple #[.agg #[.int .i64 (twX k px qx), .int .i64 (twY k px py qx qy)], .bool true]) ∧ Below w.heap.size w w' := by
  by_cases e : px = qx
  · have hn : py ≠ qy := fun e2 => by have := (dist_zero ha hb).2 ⟨e, e2⟩; omega
    rw [show twX k px qx = px % sd k by unfold twX; rw [if_pos e], show twY k px py qx qy = (py + near k py qy) % sd k by unfold twY; rw [if_pos e]]
    subst e
    exact toward_y k px py qy w ha hb hn
  · rw [show twX k px qx = (px + near k px qx) % sd k by unfold twX; rw [if_neg e], show twY k px py qx qy = py % sd k by unfold twY; rw [if_neg e]]
    exact toward_x k px py qx qy w ha hb e
end Go.Proofs.Ytgnligeiojdmhaa
