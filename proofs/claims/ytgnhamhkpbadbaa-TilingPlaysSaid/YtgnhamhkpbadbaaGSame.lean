/- The laws' own Same and Paths: lists of tiles, of paths, that are the same. -/
import Derived.Test.YtgnhamhkpbadbaaGObj
namespace Go.Proofs.Ytgnhamhkpbadbaa
open Go.RowKit
set_option maxRecDepth 100000 in
set_option maxHeartbeats 1600000 in
theorem sameT_any {B : Nat} {v v' : Value} {l : List Tl} (w : World) (h1 : ListE encT 3 B w v l) (h2 : ListE encT 3 B w v' l) (hB : B ≤ w.heap.size) (hl : l.length ≤ 2900) : Calls Try.prog 17 #[v, v'] w fun e w' => e = .returned (.bool true) ∧ Below w.heap.size w w' := by
  obtain ⟨va, cap, rfl, f1⟩ := h1.form
  obtain ⟨vb, cap2, rfl, f2⟩ := h2.form
  go_enter Try.func17, Try.ntmps17
  go_wp2_with fail
  go_loopw [5] (fun i wr => ∃ m : Nat, i = .int .i64 m ∧ m ≤ l.length ∧ Since w wr) (fun i _ => l.length - (intOf i).toNat)
  case atStart => exact ⟨0, rfl, Nat.zero_le _, Since.refl w⟩
  case round =>
    obtain ⟨m, rfl, hm, hs⟩ := hrel
    by_cases hlt : m < l.length
    · obtain ⟨g, rfl, hg⟩ := f1 m hlt
      obtain ⟨g', rfl, hg'⟩ := f2 m hlt
      obtain ⟨⟨x, y, z⟩, hr⟩ : ∃ ρ, l[m] = ρ := ⟨_, rfl⟩
      have l1 := h1.since hs hB
      have l2 := h2.since hs hB
      have t0 := l1.at_ hlt 0 (u := .int .i64 x) (by rw [hr]; rfl)
      have t1 := l1.at_ hlt 1 (u := .int .i64 y) (by rw [hr]; rfl)
      have t2 := l1.at_ hlt 2 (u := .int .i64 z) (by rw [hr]; rfl)
      have s0 := l2.at_ hlt 0 (u := .int .i64 x) (by rw [hr]; rfl)
      have s1 := l2.at_ hlt 1 (u := .int .i64 y) (by rw [hr]; rfl)
      have s2 := l2.at_ hlt 2 (u := .int .i64 z) (by rw [hr]; rfl)
      rw [Nat.add_zero] at t0 s0
      have hd : decide ((m : Int) < l.length) = true := decide_eq_true (by omega)
      have hml : (m : Int) < 3000 := by omega
      clear l1 l2 hr f1 f2 h1 h2
      go_wp2_with fail
      go_quiet (fail)
      go_wp2_with fail
      go_roundw
      case rel => exact ⟨m + 1, by go_num, by omega, hs.drewN _⟩
      case measure => simp [intOf]; omega
    · obtain rfl : m = l.length := by omega
      have hd : decide ((l.length : Int) < l.length) = false := decide_eq_false (by omega)
      go_wp2_with fail
      go_ret
      exact ⟨rfl, hs⟩
set_option maxRecDepth 100000 in
set_option maxHeartbeats 1600000 in
theorem pathsG_any {B : Nat} {v v' : Value} {l : List (Int × Int)} (w : World) (h1 : ListE encG 2 B w v l) (h2 : ListE encG 2 B w v' l) (hB : B ≤ w.heap.size) (hl : l.length ≤ 2900) : Calls Try.prog 25 #[v, v'] w fun e w' => e = .returned (.bool true) ∧ Below w.heap.size w w' := by
  obtain ⟨va, cap, rfl, f1⟩ := h1.form
  obtain ⟨vb, cap2, rfl, f2⟩ := h2.form
  go_enter Try.func25, Try.ntmps25
  go_wp2_with fail
  go_loopw [5] (fun i wr => ∃ m : Nat, i = .int .i64 m ∧ m ≤ l.length ∧ Since w wr) (fun i _ => l.length - (intOf i).toNat)
  case atStart => exact ⟨0, rfl, Nat.zero_le _, Since.refl w⟩
  case round =>
    obtain ⟨m, rfl, hm, hs⟩ := hrel
    by_cases hlt : m < l.length
    · obtain ⟨g, rfl, hg⟩ := f1 m hlt
      obtain ⟨g', rfl, hg'⟩ := f2 m hlt
      obtain ⟨⟨x, y⟩, hr⟩ : ∃ ρ, l[m] = ρ := ⟨_, rfl⟩
      have l1 := h1.since hs hB
      have l2 := h2.since hs hB
      have t0 := l1.at_ hlt 0 (u := .int .i64 x) (by rw [hr]; rfl)
      have t1 := l1.at_ hlt 1 (u := .int .i64 y) (by rw [hr]; rfl)
      have s0 := l2.at_ hlt 0 (u := .int .i64 x) (by rw [hr]; rfl)
      have s1 := l2.at_ hlt 1 (u := .int .i64 y) (by rw [hr]; rfl)
      rw [Nat.add_zero] at t0 s0
      have hd : decide ((m : Int) < l.length) = true := decide_eq_true (by omega)
      have hml : (m : Int) < 3000 := by omega
      clear l1 l2 hr f1 f2 h1 h2
      go_wp2_with fail
      go_quiet (fail)
      go_wp2_with fail
      go_roundw
      case rel => exact ⟨m + 1, by go_num, by omega, hs.drewN _⟩
      case measure => simp [intOf]; omega
    · obtain rfl : m = l.length := by omega
      have hd : decide ((l.length : Int) < l.length) = false := decide_eq_false (by omega)
      go_wp2_with fail
      go_ret
      exact ⟨rfl, hs⟩
end Go.Proofs.Ytgnhamhkpbadbaa
