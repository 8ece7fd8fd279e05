/- point: what must be so of a record, a call, an answer. -/
import Derived.Test.YtbgfjkgpekkciaaK02
import Derived.Deep.Cut
import Derived.Deep.CutRange
namespace Go.Proofs.Ytbgfjkgpekkciaa
open Go.RowKit
set_option linter.unusedVariables false
/-- From a to b. -/
def bet (n a b : Int) : Bool := decide (a ≤ n ∧ n ≤ b)
theorem bet_iff (n a b : Int) : bet n a b = true ↔ a ≤ n ∧ n ≤ b := by unfold bet; exact decide_eq_true_iff
def valB (s : ByteArray) : Bool := decide ((s.size : Int) ≤ 32)
def ansB (er : Int) (found : Bool) (val : ByteArray) (ver : Int) : Bool :=
  bet er 0 255 && (valB val && (bet ver 0 1099511627776 && (found || (val.toList.isEmpty && ver == 0))))
theorem all_any (g off n c : Nat) (l : List Bool) (w : World) (hn : l.length = n) (hl : n ≤ 1000000) (hc : ∀ i (h : i < l.length), w.cell? ⟨g, off + i, none⟩ = some (.bool l[i])) :
    Calls Try.prog 45 #[.slice (some ⟨g, off, none⟩) n c] w fun e w' => e = .returned (.bool (l.all id)) ∧ w = w' := by
  obtain ⟨R, hR⟩ : ∃ R, R = l.all id := ⟨_, rfl⟩
  rw [← hR]
  have HR := Lib.hid hR
  have HN := Lib.hid hn
  clear hR
  go_enter Try.func45, Try.ntmps45
  go_wp2
  go_loop [7] (fun i => ∃ k : Nat, k ≤ n ∧ i = .int .i64 (k : Int) ∧ (l.take k).all id = true) (fun i => n - (intOf i).toNat)
  case atStart => exact ⟨0, by omega, rfl, rfl⟩
  case round =>
    obtain ⟨k, hk, rfl, ha⟩ := hrel
    by_cases hlt : k < n
    · have hcell := hc k (by omega)
      have HA := Lib.hid ha
      cases hb : l[k]'(by omega) with
      | true =>
        rw [hb] at hcell
        have HB := Lib.hid (show l[k]? = some true by rw [List.getElem?_eq_getElem (by omega), hb])
        clear hc hb ha hn
        go_wp2
        go_round
        case rel =>
          refine ⟨k + 1, by omega, by go_num, ?_⟩
          rw [List.take_add_one, HB.out, List.all_append, HA.out]
          rfl
        case measure => simp [intOf]; omega
      | false =>
        rw [hb] at hcell
        have HB := Lib.hid (show l[k]? = some false by rw [List.getElem?_eq_getElem (by omega), hb])
        clear hc hb ha hn
        go_wp2
        obtain rfl : R = false := by
          rw [HR.out, List.all_eq_false]
          exact ⟨false, List.mem_of_getElem? HB.out, by simp⟩
        go_ret
        exact ⟨rfl, rfl⟩
    · have HA := Lib.hid ha
      clear hc hn ha
      obtain rfl : k = n := by omega
      obtain rfl : R = true := by
        have h2 := HA.out
        rw [List.take_of_length_le (Nat.le_of_eq HN.out)] at h2
        rw [HR.out, h2]
      clear HR HA
      go_wp2
      go_ret
      exact ⟨rfl, rfl⟩
theorem all_whole {w : World} {g : Nat} {l : List Bool} {cs : Array Value} {t : TypeId} (n c : Nat) (h : Whole w g t cs) (hn : l.length = n) (hl : n ≤ 1000000) (hc : cs = (l.map Value.bool).toArray) :
    Calls Try.prog 45 #[.slice (some ⟨g, 0, none⟩) n c] w fun e w' => e = .returned (.bool (l.all id)) ∧ w = w' := by
  refine all_any g 0 n c l w hn hl fun i hi => ?_
  rw [Nat.zero_add, h.cell, hc]
  simp [hi]
theorem all_four {w : World} {g : Nat} {t : TypeId} {b1 b2 b3 b4 : Bool} (h : Whole w g t #[.bool b1, .bool b2, .bool b3, .bool b4]) :
    Calls Try.prog 45 #[.slice (some ⟨g, 0, none⟩) 4 4] w fun e w' => e = .returned (.bool (b1 && (b2 && (b3 && b4)))) ∧ w = w' := by
  have := all_whole (l := [b1, b2, b3, b4]) 4 4 h rfl (by decide) rfl
  simpa using this
theorem all_two {w : World} {g : Nat} {t : TypeId} {b1 b2 : Bool} (h : Whole w g t #[.bool b1, .bool b2]) :
    Calls Try.prog 45 #[.slice (some ⟨g, 0, none⟩) 2 2] w fun e w' => e = .returned (.bool (b1 && b2)) ∧ w = w' := by
  have := all_whole (l := [b1, b2]) 2 2 h rfl (by decide) rfl
  simpa using this
theorem within_any7 (n a b : Int) (w : World) : Calls Try.prog 46 #[.int .i64 n, .int .i64 a, .int .i64 b] w fun e w' => e = .returned (.bool (bet n a b)) ∧ w = w' := by
  by_cases h : a ≤ n
  · by_cases h2 : n ≤ b
    · rw [(bet_iff n a b).2 ⟨h, h2⟩]
      go_enter Try.func46, Try.ntmps46
      go_wp2
      go_ret
      exact ⟨rfl, rfl⟩
    · rw [show bet n a b = false from Bool.eq_false_iff.2 fun e => h2 ((bet_iff n a b).1 e).2]
      go_enter Try.func46, Try.ntmps46
      go_wp2
      go_ret
      exact ⟨rfl, rfl⟩
  · rw [show bet n a b = false from Bool.eq_false_iff.2 fun e => h ((bet_iff n a b).1 e).1]
    go_enter Try.func46, Try.ntmps46
    go_wp2
    go_ret
    exact ⟨rfl, rfl⟩
theorem qwithin_at {n a b : Int} {r : Bool} (h : bet n a b = r) (w : World) : Calls Try.prog 46 #[.int .i64 n, .int .i64 a, .int .i64 b] w fun e w' => e = .returned (.bool r) ∧ w = w' := h ▸ within_any7 n a b w
theorem rightValue_at {s : ByteArray} {r : Bool} (h : valB s = r) (w : World) : Calls Try.prog 47 #[.string s] w fun e w' => e = .returned (.bool r) ∧ w = w' := by
  unfold valB at h
  have HK := Lib.hid h
  clear h
  go_enter Try.func47, Try.ntmps47
  go_wp2
  go_ret
  exact ⟨ret_bool HK.out, rfl⟩
end Go.Proofs.Ytbgfjkgpekkciaa
