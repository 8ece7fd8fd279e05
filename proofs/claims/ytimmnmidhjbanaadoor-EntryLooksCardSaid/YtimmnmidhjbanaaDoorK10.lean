/- gleberef01.Num, wire.Num, wire.appendFixed, wire.fixed. -/
import Derived.Test.YtimmnmidhjbanaaDoorK09
namespace Go.Proofs.YtimmnmidhjbanaaDoor
open Go.RowKit
/-- The bytes of a number that may be; nothing of another one. -/
def numL (n : Int) : List UInt8 := if 0 ≤ n ∧ n ≤ 9007199254740992 then numB n.toNat else []
def numE (n : Int) : Int := if 0 ≤ n ∧ n ≤ 9007199254740992 then 0 else 1
set_option maxRecDepth 100000 in
set_option maxHeartbeats 400000 in
theorem refNum_good (N : Nat) (w : World) (hN : (N : Int) ≤ 9007199254740992) :
    Calls Tryd.prog 46 #[.int .i64 (N : Int)] w fun e w' => ∃ v', e = .returned v' ∧ Own w' w.heap.size v' (numB N) ∧ Below w.heap.size w w' := by
  have hNl : (numB N).length ≤ 9 := numB_le (by omega)
  have hN0 : (0 : Int) ≤ (N : Int) := by omega
  go_enter Tryd.func46, Tryd.ntmps46
  go_wp2
  have HN := Lib.hid hN
  clear hN hN0
  go_loopw [0, 3] (fun r s wr => ∃ (l : List UInt8) (m : Nat), r = .int .i64 (m : Int) ∧ m ≤ N ∧ l ++ numB m = numB N ∧ Own wr w.heap.size s l ∧ Below w.heap.size w wr) (fun r _ _ => (intOf r).toNat)
  case atStart => exact ⟨[], N, rfl, Nat.le_refl _, rfl, Own.nil _ _, Below.refl _ _⟩
  case round =>
    obtain ⟨l, m, rfl, hm, heq, hown, hb⟩ := hrel
    have hbs := hb.size
    have hlen : l.length + (numB m).length = (numB N).length := by rw [← List.length_append, heq]
    have hll : l.length ≤ 9 := by omega
    by_cases hlt : m < 128
    · have HP := Lib.hid (byte_eq (p := m) (by omega))
      rw [numB_small hlt] at heq
      have HE := Lib.hid heq
      clear heq hlen hNl
      go_wp2_with (at_builtin; refine wpList_app _ rfl (.tmp 21) (.tmp 24) _ rfl w.heap.size _ l rfl (hown.alloc _) _ [UInt8.ofNat m] rfl (src_of_rd 1 (rd_one _ HP.out)) (by simp only [List.length_cons, List.length_nil]; omega) (by simp; omega) ?_; intro v1 w1 hown1 hb1)
      refine bodyPost_ret (v := v1) (by simp [results, Tryd.results46, go_sem]) rfl ⟨v1, rfl, ?_, (hb.alloc hbs _).trans hb1⟩
      rw [← HE.out]
      exact hown1
    · obtain ⟨p, hp⟩ : ∃ p, p = m % 128 + 128 := ⟨_, rfl⟩
      have hpl : p < 256 := by omega
      have e2 : 128 + (m : Int) % 128 = (p : Int) := by omega
      rw [numB_great hlt, ← hp] at heq
      have HP := Lib.hid (byte_eq (p := p) hpl)
      have HE := Lib.hid heq
      clear heq hlen hNl hp
      go_wp2_with (at_builtin; refine wpList_app _ rfl (.tmp 12) (.tmp 17) _ rfl w.heap.size _ l rfl (hown.alloc _) _ [UInt8.ofNat p] rfl (src_of_rd 1 (rd_one _ HP.out)) (by simp only [List.length_cons, List.length_nil]; omega) (by simp; omega) ?_; intro v1 w1 hown1 hb1)
      go_roundw
      case rel => exact ⟨l ++ [UInt8.ofNat p], m / 128, by go_num, by omega, by rw [← HE.out, List.append_assoc]; rfl, hown1, (hb.alloc hbs _).trans hb1⟩
      case measure => simp [intOf]; omega
theorem refNum_low (n : Int) (w : World) (h : n < 0) : Calls Tryd.prog 46 #[.int .i64 n] w fun e w' => e = .returned (.slice none 0 0) ∧ w = w' := by
  go_enter Tryd.func46, Tryd.ntmps46
  go_wp2
  go_ret
  exact ⟨rfl, rfl⟩
theorem refNum_high (n : Int) (w : World) (h0 : 0 ≤ n) (h : 9007199254740992 < n) : Calls Tryd.prog 46 #[.int .i64 n] w fun e w' => e = .returned (.slice none 0 0) ∧ w = w' := by
  go_enter Tryd.func46, Tryd.ntmps46
  go_wp2
  go_ret
  exact ⟨rfl, rfl⟩
theorem refNum_any (n : Int) (w : World) :
    Calls Tryd.prog 46 #[.int .i64 n] w fun e w' => ∃ v', e = .returned v' ∧ Own w' w.heap.size v' (numL n) ∧ Below w.heap.size w w' := by
  unfold numL
  by_cases h0 : n < 0
  · rw [if_neg (by omega)]
    refine (refNum_low n w h0).mono ?_
    rintro e w' ⟨rfl, rfl⟩
    exact ⟨_, rfl, Own.nil _ _, Below.refl _ _⟩
  · by_cases h1 : 9007199254740992 < n
    · rw [if_neg (by omega)]
      refine (refNum_high n w (by omega) h1).mono ?_
      rintro e w' ⟨rfl, rfl⟩
      exact ⟨_, rfl, Own.nil _ _, Below.refl _ _⟩
    · rw [if_pos (by omega)]
      obtain ⟨N, rfl⟩ := Int.eq_ofNat_of_zero_le (show 0 ≤ n by omega)
      exact refNum_good N w (by omega)
/-- What wire.Num answers. -/
def NumPost (n : Int) (w : World) (e : Ending) (w' : World) : Prop := ∃ v', e = .returned (.tuple #[v', .int .i64 (numE n)]) ∧ Own w' w.heap.size v' (numL n) ∧ Below w.heap.size w w'
set_option maxRecDepth 100000 in
theorem num_any (n : Int) (w : World) : Calls Tryd.prog 68 #[.int .i64 n] w (NumPost n w) := by
  by_cases h0 : n < 0
  · have he := Lib.hid (show numE n = 1 by unfold numE; rw [if_neg (by omega)])
    have hl := Lib.hid (show numL n = [] by unfold numL; rw [if_neg (by omega)])
    go_enter Tryd.func68, Tryd.ntmps68
    go_wp2
    go_ret2
    exact ⟨.slice none 0 0, by rw [he.out]; rfl, by rw [hl.out]; exact Own.nil _ _, Below.refl _ _⟩
  · by_cases h1 : 9007199254740992 < n
    · have h2 : 0 ≤ n := by omega
      have he := Lib.hid (show numE n = 1 by unfold numE; rw [if_neg (by omega)])
      have hl := Lib.hid (show numL n = [] by unfold numL; rw [if_neg (by omega)])
      go_enter Tryd.func68, Tryd.ntmps68
      go_wp2
      go_ret2
      exact ⟨.slice none 0 0, by rw [he.out]; rfl, by rw [hl.out]; exact Own.nil _ _, Below.refl _ _⟩
    · have h2 : 0 ≤ n := by omega
      obtain ⟨N, rfl⟩ := Int.eq_ofNat_of_zero_le h2
      have h3 : (N : Int) ≤ 9007199254740992 := by omega
      have he := Lib.hid (show numE (N : Int) = 0 by unfold numE; rw [if_pos (by omega)])
      have hl := Lib.hid (show numL (N : Int) = numB N by unfold numL; rw [if_pos (by omega)]; rfl)
      go_enter Tryd.func68, Tryd.ntmps68
      go_wp2_with (go_at_call 84; refine (appendNum_any w.heap.size _ [] N _ (Own.nil _ _) (Nat.le_refl _) (by simp) (by omega)).mono ?_; rintro e w1 ⟨v1, rfl, hown1, hb1⟩)
      go_ret2
      exact ⟨v1, by rw [he.out]; rfl, by rw [hl.out]; exact hown1, hb1⟩
end Go.Proofs.YtimmnmidhjbanaaDoor
