/- The document's borders. -/
import Derived.Test.YtgnhamhkpbadbaaBMath
import Derived.Test.YtgnhamhkpbadbaaWCovR
import Derived.Test.YtgnhamhkpbadbaaWDistR
import Derived.Test.YtgnhamhkpbadbaaPTwos
namespace Go.Proofs.Ytgnhamhkpbadbaa
open Go.RowKit
set_option linter.unusedVariables false
set_option linter.unusedSimpArgs false
/-- Numbers that are small. -/
def sm (x : Int) : Prop := 0 ≤ x ∧ x ≤ 65536
theorem same_b {W : World} (F : World → Prop) (h : F W) : F W := h
set_option maxHeartbeats 800000 in
theorem rCommon_at {a n b m v : Int} (h : ov a n b m = v) (hb : sm a ∧ sm n ∧ sm b ∧ sm m) (w : World) : Calls Try.prog 80 #[.int .i64 a, .int .i64 n, .int .i64 b, .int .i64 m] w fun e w' => e = .returned (.int .i64 v) ∧ w = w' := by
  have g1 : wrap64 (a + n) = a + n := IntWalk.wrap64_in _ (by unfold sm at hb; constructor <;> omega)
  have g2 : wrap64 (b + m) = b + m := IntWalk.wrap64_in _ (by unfold sm at hb; constructor <;> omega)
  have H := Lib.hid h
  have HB := Lib.hid hb
  clear h hb
  go_enter Try.func80, Try.ntmps80
  go_wp2_with fail
  all_goals
    go_ret
    refine ⟨ret_int ?_, rfl⟩
    have hb := HB.out
    unfold sm at hb
    have W : ∀ x : Int, -131073 ≤ x → x ≤ 131073 → wrap64 x = x := fun x h1 h2 => IntWalk.wrap64_in _ ⟨by omega, by omega⟩
    have g3 := W (a + n - a) (by omega) (by omega)
    have g4 := W (a + n - b) (by omega) (by omega)
    have g5 := W (b + m - a) (by omega) (by omega)
    have g6 := W (b + m - b) (by omega) (by omega)
    clear W
    rcases (show (b + m < a + n ∧ b + m + 1 ≤ a + n) ∨ (¬ b + m < a + n ∧ a + n ≤ b + m) by omega) with ⟨c1, k1⟩ | ⟨c1, k1⟩ <;> rcases (show (a < b ∧ a + 1 ≤ b) ∨ (¬ a < b ∧ b ≤ a) by omega) with ⟨c2, k2⟩ | ⟨c2, k2⟩ <;> simp only [c1, c2, if_true, if_false, g1, g2, g3, g4, g5, g6] at *
    all_goals (have hh := H.out; unfold ov at hh; omega)
set_option maxHeartbeats 800000 in
theorem rNext_at {s a n b : Int} {v : Bool} (h : nxt s a n b = v) (hs : 0 < s ∧ s ≤ 65536) (hb : sm a ∧ sm n) (w : World) : Calls Try.prog 117 #[.int .i64 s, .int .i64 a, .int .i64 n, .int .i64 b] w fun e w' => e = .returned (.bool v) ∧ w = w' := by
  subst h
  have g1 : wrap64 (a + n) = a + n := IntWalk.wrap64_in _ (by unfold sm at hb; constructor <;> omega)
  have g1' : IntKind.i64.wrap (a + n) = a + n := IntWalk.i64_in _ (by unfold sm at hb; omega)
  have g2 : (s == 0) = false := by simp; omega
  have g3 : ¬ s = 0 := by omega
  have hz : 0 ≤ (a + n).tmod s ∧ (a + n).tmod s < 65536 := by
    unfold sm at hb
    have h1 := Int.tmod_nonneg s (show 0 ≤ a + n by omega)
    have h2 : (a + n).tmod s < s := by rw [Int.tmod_eq_emod_of_nonneg (by omega)]; exact Int.emod_lt_of_pos _ (by omega)
    omega
  have g4 : wrap64 ((a + n).tmod s) = (a + n).tmod s := IntWalk.wrap64_in _ (by constructor <;> omega)
  have g4' : IntKind.i64.wrap ((a + n).tmod s) = (a + n).tmod s := IntWalk.i64_in _ (by omega)
  clear hz
  unfold nxt
  clear hb hs
  go_enter Try.func117, Try.ntmps117
  go_wp2_with fail
  go_ret
  exact ⟨by first | rfl | simp [g1', g4'], rfl⟩
set_option maxHeartbeats 1600000 in
theorem rTouch_at {s a n b m : Int} {v : Bool} (h : tch s a n b m = v) (hs : 0 < s ∧ s ≤ 65536) (hb : sm a ∧ sm n ∧ sm b ∧ sm m) (w : World) : Calls Try.prog 79 #[.int .i64 s, .int .i64 a, .int .i64 n, .int .i64 b, .int .i64 m] w fun e w' => e = .returned (.bool v) ∧ w = w' := by
  subst h
  unfold tch
  have HS := Lib.hid hs
  have HB := Lib.hid hb
  obtain ⟨c, hc⟩ : ∃ c, ov a n b m = c := ⟨_, rfl⟩
  obtain ⟨n1, h1⟩ : ∃ c, nxt s a n b = c := ⟨_, rfl⟩
  obtain ⟨n2, h2⟩ : ∃ c, nxt s b m a = c := ⟨_, rfl⟩
  rw [hc, h1, h2]
  have H0 := Lib.hid hc
  have H1 := Lib.hid h1
  have H2 := Lib.hid h2
  clear hc h1 h2 hs hb
  cases h0 : (c == 0)
  · go_enter Try.func79, Try.ntmps79
    go_wp2_with (go_at_call 80; (with_reducible refine (rCommon_at H0.out HB.out _).mono ?_); rintro e wz ⟨rfl, rfl⟩)
    go_ret
    exact ⟨rfl, rfl⟩
  · cases n1
    · go_enter Try.func79, Try.ntmps79
      go_wp2_with (first | (go_at_call 80; (with_reducible refine (rCommon_at H0.out HB.out _).mono ?_); rintro e wz ⟨rfl, rfl⟩) | (go_at_call 117; (with_reducible refine (rNext_at H1.out HS.out ⟨HB.out.1, HB.out.2.1⟩ _).mono ?_); rintro e wz ⟨rfl, rfl⟩) | (go_at_call 117; (with_reducible refine (rNext_at H2.out HS.out ⟨HB.out.2.2.1, HB.out.2.2.2⟩ _).mono ?_); rintro e wz ⟨rfl, rfl⟩))
      go_ret
      exact ⟨by simp, rfl⟩
    · go_enter Try.func79, Try.ntmps79
      go_wp2_with (first | (go_at_call 80; (with_reducible refine (rCommon_at H0.out HB.out _).mono ?_); rintro e wz ⟨rfl, rfl⟩) | (go_at_call 117; (with_reducible refine (rNext_at H1.out HS.out ⟨HB.out.1, HB.out.2.1⟩ _).mono ?_); rintro e wz ⟨rfl, rfl⟩))
      go_ret
      exact ⟨by simp, rfl⟩
set_option maxHeartbeats 1600000 in
theorem rTwice_at {s a n b m : Int} {v : Bool} (h : twc s a n b m = v) (hs : 0 < s ∧ s ≤ 65536) (hb : sm a ∧ sm n ∧ sm b ∧ sm m) (w : World) : Calls Try.prog 81 #[.int .i64 s, .int .i64 a, .int .i64 n, .int .i64 b, .int .i64 m] w fun e w' => e = .returned (.bool v) ∧ w = w' := by
  subst h
  unfold twc
  have HS := Lib.hid hs
  have HB := Lib.hid hb
  obtain ⟨n1, h1⟩ : ∃ c, nxt s a n b = c := ⟨_, rfl⟩
  obtain ⟨n2, h2⟩ : ∃ c, nxt s b m a = c := ⟨_, rfl⟩
  rw [h1, h2]
  have H1 := Lib.hid h1
  have H2 := Lib.hid h2
  clear h1 h2 hs hb
  cases n1
  · go_enter Try.func81, Try.ntmps81
    go_wp2_with (go_at_call 117; (with_reducible refine (rNext_at H1.out HS.out ⟨HB.out.1, HB.out.2.1⟩ _).mono ?_); rintro e wz ⟨rfl, rfl⟩)
    go_ret
    exact ⟨by simp, rfl⟩
  · cases n2
    · go_enter Try.func81, Try.ntmps81
      go_wp2_with (first | (go_at_call 117; (with_reducible refine (rNext_at H1.out HS.out ⟨HB.out.1, HB.out.2.1⟩ _).mono ?_); rintro e wz ⟨rfl, rfl⟩) | (go_at_call 117; (with_reducible refine (rNext_at H2.out HS.out ⟨HB.out.2.2.1, HB.out.2.2.2⟩ _).mono ?_); rintro e wz ⟨rfl, rfl⟩))
      go_ret
      exact ⟨by simp, rfl⟩
    · cases h3 : decide (1 < n)
      · go_enter Try.func81, Try.ntmps81
        go_wp2_with (first | (go_at_call 117; (with_reducible refine (rNext_at H1.out HS.out ⟨HB.out.1, HB.out.2.1⟩ _).mono ?_); rintro e wz ⟨rfl, rfl⟩) | (go_at_call 117; (with_reducible refine (rNext_at H2.out HS.out ⟨HB.out.2.2.1, HB.out.2.2.2⟩ _).mono ?_); rintro e wz ⟨rfl, rfl⟩))
        go_ret
        exact ⟨by simp, rfl⟩
      · go_enter Try.func81, Try.ntmps81
        go_wp2_with (first | (go_at_call 117; (with_reducible refine (rNext_at H1.out HS.out ⟨HB.out.1, HB.out.2.1⟩ _).mono ?_); rintro e wz ⟨rfl, rfl⟩) | (go_at_call 117; (with_reducible refine (rNext_at H2.out HS.out ⟨HB.out.2.2.1, HB.out.2.2.2⟩ _).mono ?_); rintro e wz ⟨rfl, rfl⟩))
        go_ret
        exact ⟨by simp, rfl⟩
end Go.Proofs.Ytgnhamhkpbadbaa
