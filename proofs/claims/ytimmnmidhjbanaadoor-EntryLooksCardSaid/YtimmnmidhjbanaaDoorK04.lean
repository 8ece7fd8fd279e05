/- point: what must be so of a record, a call, an answer. -/
import Derived.Test.YtimmnmidhjbanaaDoorK02
import Derived.Deep.Cut
import Derived.Deep.CutRange
namespace Go.Proofs.YtimmnmidhjbanaaDoor
open Go.RowKit
set_option linter.unusedVariables false
/-- From a to b. -/
def bet (n a b : Int) : Bool := decide (a ≤ n ∧ n ≤ b)
theorem bet_iff (n a b : Int) : bet n a b = true ↔ a ≤ n ∧ n ≤ b := by unfold bet; exact decide_eq_true_iff
def keyB (s : ByteArray) : Bool := bet s.size 1 16
def valB (s : ByteArray) : Bool := decide ((s.size : Int) ≤ 32)
def opB (kind x y : Int) (key val : ByteArray) (cl seq : Int) : Bool :=
  bet kind 1 3 && (hasB 16 x y && (keyB key && (valB val && ((kind == 2 || val.toList.isEmpty) && (bet cl 0 7 && bet seq 1 1099511627776)))))
theorem all_any (g off n c : Nat) (l : List Bool) (w : World) (hn : l.length = n) (hl : n ≤ 1000000) (hc : ∀ i (h : i < l.length), w.cell? ⟨g, off + i, none⟩ = some (.bool l[i])) :
    Calls Tryd.prog 74 #[.slice (some ⟨g, off, none⟩) n c] w fun e w' => e = .returned (.bool (l.all id)) ∧ w = w' := by
  obtain ⟨R, hR⟩ : ∃ R, R = l.all id := ⟨_, rfl⟩
  rw [← hR]
  have HR := Lib.hid hR
  have HN := Lib.hid hn
  clear hR
  go_enter Tryd.func74, Tryd.ntmps74
  go_wp2
  go_loop [7] (fun i => ∃ k : Nat, k ≤ n ∧ i = .int .i64 (k : Int) ∧ (l.take k).all id = true) (fun i => n - (intOf i).toNat)
  case atStart => exact ⟨0, by omega, rfl, rfl⟩
  case round =>
    obtain ⟨k, hk, rfl, ha⟩ := hrel
    by_cases hlt : k < n
    · have hcell := hc k (by omega)
      have HA := Lib.hid ha
      cases hb : l[k]'(by omega) with
      | true =>
        rw [hb] at hcell
        have HB := Lib.hid (show l[k]? = some true by rw [List.getElem?_eq_getElem (by omega), hb])
        clear hc hb ha hn
        go_wp2
        go_round
        case rel =>
          refine ⟨k + 1, by omega, by go_num, ?_⟩
          rw [List.take_add_one, HB.out, List.all_append, HA.out]
          rfl
        case measure => simp [intOf]; omega
      | false =>
        rw [hb] at hcell
        have HB := Lib.hid (show l[k]? = some false by rw [List.getElem?_eq_getElem (by omega), hb])
        clear hc hb ha hn
        go_wp2
        obtain rfl : R = false := by
          rw [HR.out, List.all_eq_false]
          exact ⟨false, List.mem_of_getElem? HB.out, by simp⟩
        go_ret
        exact ⟨rfl, rfl⟩
    · have HA := Lib.hid ha
      clear hc hn ha
      obtain rfl : k = n := by omega
      obtain rfl : R = true := by
        have h2 := HA.out
        rw [List.take_of_length_le (Nat.le_of_eq HN.out)] at h2
        rw [HR.out, h2]
      clear HR HA
      go_wp2
      go_ret
      exact ⟨rfl, rfl⟩
theorem all_whole {w : World} {g : Nat} {l : List Bool} {cs : Array Value} {t : TypeId} (n c : Nat) (h : Whole w g t cs) (hn : l.length = n) (hl : n ≤ 1000000) (hc : cs = (l.map Value.bool).toArray) :
    Calls Tryd.prog 74 #[.slice (some ⟨g, 0, none⟩) n c] w fun e w' => e = .returned (.bool (l.all id)) ∧ w = w' := by
  refine all_any g 0 n c l w hn hl fun i hi => ?_
  rw [Nat.zero_add, h.cell, hc]
  simp [hi]
theorem all_seven {w : World} {g : Nat} {t : TypeId} {b1 b2 b3 b4 b5 b6 b7 : Bool} (h : Whole w g t #[.bool b1, .bool b2, .bool b3, .bool b4, .bool b5, .bool b6, .bool b7]) :
    Calls Tryd.prog 74 #[.slice (some ⟨g, 0, none⟩) 7 7] w fun e w' => e = .returned (.bool (b1 && (b2 && (b3 && (b4 && (b5 && (b6 && b7))))))) ∧ w = w' := by
  have := all_whole (l := [b1, b2, b3, b4, b5, b6, b7]) 7 7 h rfl (by decide) rfl
  simpa using this
theorem within_any7 (n a b : Int) (w : World) : Calls Tryd.prog 75 #[.int .i64 n, .int .i64 a, .int .i64 b] w fun e w' => e = .returned (.bool (bet n a b)) ∧ w = w' := by
  by_cases h : a ≤ n
  · by_cases h2 : n ≤ b
    · rw [(bet_iff n a b).2 ⟨h, h2⟩]
      go_enter Tryd.func75, Tryd.ntmps75
      go_wp2
      go_ret
      exact ⟨rfl, rfl⟩
    · rw [show bet n a b = false from Bool.eq_false_iff.2 fun e => h2 ((bet_iff n a b).1 e).2]
      go_enter Tryd.func75, Tryd.ntmps75
      go_wp2
      go_ret
      exact ⟨rfl, rfl⟩
  · rw [show bet n a b = false from Bool.eq_false_iff.2 fun e => h ((bet_iff n a b).1 e).1]
    go_enter Tryd.func75, Tryd.ntmps75
    go_wp2
    go_ret
    exact ⟨rfl, rfl⟩
theorem qwithin_at {n a b : Int} {r : Bool} (h : bet n a b = r) (w : World) : Calls Tryd.prog 75 #[.int .i64 n, .int .i64 a, .int .i64 b] w fun e w' => e = .returned (.bool r) ∧ w = w' := h ▸ within_any7 n a b w
theorem rightKey_at {s : ByteArray} {r : Bool} (h : keyB s = r) (w : World) : Calls Tryd.prog 77 #[.string s] w fun e w' => e = .returned (.bool r) ∧ w = w' := by
  unfold keyB at h
  have HK := Lib.hid h
  clear h
  go_enter Tryd.func77, Tryd.ntmps77
  go_wp2_with (go_at_call 75; (with_reducible refine (qwithin_at HK.out _).mono ?_); rintro e w' ⟨rfl, rfl⟩)
  go_ret
  exact ⟨rfl, rfl⟩
theorem rightValue_at {s : ByteArray} {r : Bool} (h : valB s = r) (w : World) : Calls Tryd.prog 78 #[.string s] w fun e w' => e = .returned (.bool r) ∧ w = w' := by
  unfold valB at h
  have HK := Lib.hid h
  clear h
  go_enter Tryd.func78, Tryd.ntmps78
  go_wp2
  go_ret
  exact ⟨ret_bool HK.out, rfl⟩
theorem rightCell_at {x y : Int} {r : Bool} (h : hasB 16 x y = r) (w : World) : Calls Tryd.prog 76 #[.agg #[.int .i64 x, .int .i64 y]] w fun e w' => e = .returned (.bool r) ∧ Below w.heap.size w w' := by
  have HK := Lib.hid h
  clear h
  obtain ⟨w0, hw0⟩ : ∃ w0, w0 = w.alloc (.cells #[.int .i64 x, .int .i64 y] 23) := ⟨_, rfl⟩
  have hs0 : Since w w0 := by rw [hw0]; exact (Since.refl w).alloc _
  have wh0 : Whole w0 (w.heap.size) 23 #[.int .i64 x, .int .i64 y] := by rw [hw0]; exact Whole.new w _ _
  have HW := Lib.hid hw0
  have c0_0 := box_cell wh0 0 (.int .i64 x) rfl
  have c0_1 := box_cell wh0 1 (.int .i64 y) rfl
  have hsr := Since.refl w0
  have hsd := hsr.drew
  clear hw0 wh0
  go_enter Tryd.func76, Tryd.ntmps76
  go_wp2_with fail
  rw [← HW.out]
  go_wp2_with (go_at_call 89; (with_reducible refine (Calls.since (by assumption) (has_at HK.out _)).mono ?_); rintro e w1 ⟨rfl, hb1⟩)
  go_ret
  exact ⟨rfl, hs0.trans (by assumption)⟩
theorem side16 : side 16 = 65536 := rfl
end Go.Proofs.YtimmnmidhjbanaaDoor
