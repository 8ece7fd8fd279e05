/- The laws' Some: a path of any numbers that may be. -/
import Derived.Test.YtilkifjdonafnaaPKnows
namespace Go.Proofs.Ytilkifjdonafnaa
open Go.RowKit
set_option maxHeartbeats 400000 in
theorem some_any (k d b : Int) (w : World) (hk0 : 0 ≤ k) (hk : k ≤ 16) : Calls Try.prog 23 #[.int .i64 k, .agg #[.int .i64 d, .int .i64 b]] w fun e w' => e = .returned (.agg #[.int .i64 (smD k d), .int .i64 (smB k d b)]) ∧ Below w.heap.size w w' := by
  have t1 := tmod_bd d (2 * k + 1) (by omega)
  have e0 := tmod_pos d (2 * k + 1) (by omega)
  rw [show d.tmod (2 * k + 1) + (2 * k + 1) = d.tmod (2 * k + 1) + 2 * k + 1 by omega] at e0
  have hfine := (fine_iff _ _).1 (some_fine k d b ⟨hk0, hk⟩)
  obtain ⟨D, hD⟩ : ∃ D, D = smD k d := ⟨_, rfl⟩
  have e1 : (d.tmod (2 * k + 1) + 2 * k + 1).tmod (2 * k + 1) = D := by rw [e0, hD]; rfl
  rw [← hD] at hfine
  obtain ⟨f1, f2, _, _⟩ := hfine
  obtain ⟨N, hN⟩ : ∃ N : Int, N = 2 ^ D.toNat := ⟨_, rfl⟩
  have e2 : wrap64 (2 ^ D.toNat) = N := by rw [p2_wrap f2, hN]
  have n1 : 0 < N := by rw [hN]; exact p2_pos _
  have n2 : N ≤ 4294967296 := by rw [hN]; exact p2_32 (by omega)
  have t2 := tmod_bd b N n1
  have e3 : (b.tmod N + N).tmod N = smB k d b := by rw [tmod_pos b N n1, hN, hD]; rfl
  obtain ⟨B, hB⟩ : ∃ B, B = smB k d b := ⟨_, rfl⟩
  rw [← hB] at e3
  rw [← hD, ← hB]
  clear e0 hD hN hB
  go_enter Try.func23, Try.ntmps23
  go_wp2
  exact bodyPost_ret (v := .agg #[.int .i64 D, .int .i64 B]) (by simp [results, Try.results23, go_sem]) rfl ⟨rfl, ((Since.refl w).alloc _).alloc _⟩
end Go.Proofs.Ytilkifjdonafnaa
