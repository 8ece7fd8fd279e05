/- The walk of the law TilingOnce, by premises. -/
import Derived.Test.YtdbacinaffdkaaaGBackW
import Derived.Deep.Cut
import Derived.Deep.CutRange
namespace Go.Proofs.Ytdbacinaffdkaaa
open Go.RowKit
theorem find_hit {α : Type} (p : α → Bool) : ∀ (L : List α), L.countP p ≤ 1 → ∀ (i : Nat) (h : i < L.length), p L[i] = true → L.find? p = some L[i]
  | [], _, i, h, _ => absurd h (Nat.not_lt_zero i)
  | x :: L, hc, 0, _, hp => List.find?_cons_of_pos hp
  | x :: L, hc, i + 1, h, hp => by
    have hl : i < L.length := by simpa using h
    have hm : p L[i] = true := hp
    by_cases hx : p x = true
    · rw [List.countP_cons_of_pos hx] at hc
      have := List.countP_pos_iff.2 ⟨L[i], List.getElem_mem _, hm⟩
      omega
    · rw [List.countP_cons_of_neg hx] at hc
      rw [List.find?_cons_of_neg hx, find_hit p L hc i hl hm]
      rfl
theorem find_no {α : Type} (p : α → Bool) {L : List α} (h : L.countP p = 0) : L.find? p = none := by
  rw [List.find?_eq_none]
  intro x hx hp
  have := List.countP_pos_iff.2 ⟨x, hx, hp⟩
  omega
theorem countP_take {α : Type} (p : α → Bool) (L : List α) (m : Nat) (h : m < L.length) : (L.take (m + 1)).countP p = (L.take m).countP p + (if p L[m] = true then 1 else 0) := by
  rw [List.take_succ_eq_append_getElem h, List.countP_append]
  congr 1
  by_cases hp : p L[m] = true
  · rw [if_pos hp, List.countP_cons_of_pos hp]; rfl
  · rw [if_neg hp, List.countP_cons_of_neg hp]; rfl
theorem sumG_nn {α : Type} {f : α → Int} (hf : ∀ x, 0 ≤ f x) : ∀ L : List α, 0 ≤ sumG f L
  | [] => Int.le_refl _
  | x :: L => by have h1 := hf x; have h2 := sumG_nn hf L; show 0 ≤ f x + sumG f L; omega
theorem sumG_take_le {α : Type} {f : α → Int} (hf : ∀ x, 0 ≤ f x) (L : List α) (m : Nat) : sumG f (L.take m) ≤ sumG f L := by
  have h : sumG f L = sumG f (L.take m) + sumG f (L.drop m) := by rw [← sumG_app, List.take_append_drop]
  have := sumG_nn hf (L.drop m)
  omega
theorem zA_nn (k d : Int) : 0 ≤ zA k d := Int.le_of_lt (p2_pos _)
theorem zA_bd {k d : Int} (hk : k ≤ 16) (hd : 0 ≤ d) : zA k d ≤ 4294967296 := by
  unfold zA
  exact p2_le (m := 32) (by omega)
theorem zA_side {k : Int} (hr : rgt k = true) : zA k 0 = side k * side k := by
  have h1 := (rgt_iff k).1 hr
  rw [side_yes hr, ← p2_add]
  unfold zA
  congr 1
  omega
/-- What is known of a tile, of a gap. -/
theorem Tr.tile_ok {k : Int} {t : Tr} (hr : rgt k = true) (hh : (t.high : Int) ≤ 2 * k) {s : Tl} (hs : s ∈ t.tiles 0 0) : okP k s.d s.b = true ∧ 0 ≤ s.d ∧ s.d ≤ 2 * k := by
  have h1 := (rgt_iff k).1 hr
  obtain ⟨a1, a2⟩ := Tr.tiles_abv t 0 0 (by decide) (by omega) s hs
  obtain ⟨_, fs, _⟩ := (abvB_iff _ _ _ _).1 a1
  obtain ⟨f1, f2, f3, f4⟩ := (fine_iff _ _).1 fs
  exact ⟨(okP_iff _ _ _).2 ⟨h1.1, h1.2, f1, by omega, f3, f4⟩, f1, by omega⟩
theorem Tr.gap_ok {k : Int} {t : Tr} (hr : rgt k = true) (hh : (t.high : Int) ≤ 2 * k) {s : Int × Int} (hs : s ∈ t.gaps 0 0) : okP k s.1 s.2 = true ∧ 0 ≤ s.1 ∧ s.1 ≤ 2 * k := by
  have h1 := (rgt_iff k).1 hr
  obtain ⟨a1, a2⟩ := Tr.gaps_abv t 0 0 (by decide) (by omega) s hs
  obtain ⟨_, fs, _⟩ := (abvB_iff _ _ _ _).1 a1
  obtain ⟨f1, f2, f3, f4⟩ := (fine_iff _ _).1 fs
  exact ⟨(okP_iff _ _ _).2 ⟨h1.1, h1.2, f1, by omega, f3, f4⟩, f1, by omega⟩
theorem corner_area {k d b p q r s : Int} (ho : okP k d b = true) (h : corF (side k) (ups d b (cnt d b)) = (p, q, r, s)) : r * s = zA k d := by
  have h1 := zone_zA ho
  unfold zoneR at h1
  rw [h] at h1
  exact h1
/-- Gaps are few: there are not more than there are tiles' halves. -/
theorem Tr.gaps_len : ∀ (t : Tr) (d b : Int), (t.gaps d b).length ≤ 1 + (t.tiles d b).length * t.high
  | .gap, _, _ => by simp [Tr.gaps]
  | .leaf _, _, _ => by simp [Tr.gaps]
  | .node l r, d, b => by
    have h1 := Tr.gaps_len l (d + 1) (2 * b)
    have h2 := Tr.gaps_len r (d + 1) (2 * b + 1)
    have e1 := Tr.bare_tiles l (d + 1) (2 * b)
    have e2 := Tr.bare_tiles r (d + 1) (2 * b + 1)
    unfold Tr.gaps Tr.tiles
    split
    · simp
    · next hn =>
      simp only [Tr.high, List.length_append]
      have hp : 1 ≤ (l.tiles (d + 1) (2 * b)).length + (r.tiles (d + 1) (2 * b + 1)).length := by
        rcases Nat.eq_zero_or_pos ((l.tiles (d + 1) (2 * b)).length + (r.tiles (d + 1) (2 * b + 1)).length) with z | z
        · exfalso
          apply hn
          rw [Bool.and_eq_true]
          exact ⟨e1.2 (List.eq_nil_of_length_eq_zero (by omega)), e2.2 (List.eq_nil_of_length_eq_zero (by omega))⟩
        · exact z
      have m1 : (l.tiles (d + 1) (2 * b)).length * l.high ≤ (l.tiles (d + 1) (2 * b)).length * max l.high r.high := Nat.mul_le_mul_left _ (Nat.le_max_left _ _)
      have m2 : (r.tiles (d + 1) (2 * b + 1)).length * r.high ≤ (r.tiles (d + 1) (2 * b + 1)).length * max l.high r.high := Nat.mul_le_mul_left _ (Nat.le_max_right _ _)
      rw [Nat.mul_add, Nat.add_mul]
      omega
end Go.Proofs.Ytdbacinaffdkaaa
