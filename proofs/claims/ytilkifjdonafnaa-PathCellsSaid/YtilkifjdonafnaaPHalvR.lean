/- gleberef03.Halves: a path's halves as a text. -/
import Derived.Test.YtilkifjdonafnaaPRef
import Derived.Great.BuildSlice
import Derived.Laws.IdiomStrings
namespace Go.Proofs.Ytilkifjdonafnaa
open Go.RowKit
/-- The last i halves' digits. -/
def sufT (b : Int) : Nat → List UInt8
  | 0 => []
  | i + 1 => dig (b / 2 ^ i % 2) :: sufT b i
theorem sufT_length (b : Int) : ∀ i, (sufT b i).length = i
  | 0 => rfl
  | i + 1 => by rw [show sufT b (i + 1) = dig (b / 2 ^ i % 2) :: sufT b i from rfl, List.length_cons, sufT_length b i]
theorem sufT_all {d b : Int} (hf : fine d b = true) : ∀ i : Nat, (i : Int) ≤ d → digT d b (d.toNat - i) ++ sufT b i = digT d b d.toNat
  | 0, _ => by unfold sufT; rw [List.append_nil]; rfl
  | i + 1, hi => by
    have hd := (fine_iff d b).1 hf
    rw [← sufT_all hf i (by omega)]
    rw [show sufT b (i + 1) = dig (b / 2 ^ i % 2) :: sufT b i from rfl, show d.toNat - i = d.toNat - (i + 1) + 1 by omega, digT_succ, List.append_assoc, List.singleton_append]
    congr 3
    rw [bitI_yes hf (by omega) (by omega)]
    unfold pv
    rw [show (d - (((d.toNat - (i + 1) : Nat) : Int) + 1)).toNat = i by omega]
theorem bytes_app (l m : List UInt8) : (ByteArray.mk l.toArray) ++ (ByteArray.mk m.toArray) = ByteArray.mk (l ++ m).toArray := by
  apply ByteArray.ext
  rw [ByteArray.data_append]
  simp
theorem dig_0 : dig 0 = 48 := UInt8.toNat_inj.1 (by have := dig_bit (h := 0) (by omega) (by omega); have : (48 : UInt8).toNat = 48 := rfl; omega)
theorem dig_1 : dig 1 = 49 := UInt8.toNat_inj.1 (by have := dig_bit (h := 1) (by omega) (by omega); have : (49 : UInt8).toNat = 49 := rfl; omega)
/-- A text of one byte, off a row that was just made. -/
theorem conv1 (c : UInt8) (v : Int) (h : v = (c.toNat : Int)) (W : World) : (convert 67 9 (.slice (some ⟨W.heap.size, 0, none⟩) 1 1)).run Try.prog (W.alloc (.cells #[.int .u8 v] 5)) = .ok (.string ⟨#[c]⟩) (W.alloc (.cells #[.int .u8 v] 5)) :=
  run_convert_bytes_back (P := Try.prog) _ 67 9 5 ⟨W.heap.size, 0, none⟩ 1 [c] Try.underlying67 Try.underlying5 Try.underlying9 (fun j hj => by
    obtain rfl : j = 0 := by simpa using hj
    subst h
    exact (Whole.new W 5 #[.int .u8 (c.toNat : Int)]).cell 0)
set_option maxRecDepth 100000 in
set_option maxHeartbeats 1600000 in
theorem refHalves_any (d b : Int) (w : World) (hf : fine d b = true) : Calls Try.prog 36 #[.agg #[.int .i64 d, .int .i64 b]] w fun e w' => e = .returned (.string ⟨(digT d b d.toNat).toArray⟩) ∧ Below w.heap.size w w' := by
  have hd := (fine_iff d b).1 hf
  have hsuf := sufT_all hf d.toNat (by omega)
  rw [Nat.sub_self, show digT d b 0 = [] from rfl, List.nil_append] at hsuf
  rw [← hsuf]
  obtain ⟨dn, hdn⟩ : ∃ dn : Nat, d.toNat = dn := ⟨_, rfl⟩
  have hdd : d = (dn : Int) := by omega
  have hb := fine_bd hf
  rw [hdn] at *
  obtain ⟨w0, hw0⟩ : ∃ w0, w0 = w.alloc (.cells #[.int .i64 d, .int .i64 b] 23) := ⟨_, rfl⟩
  have hs0 : Since w w0 := by rw [hw0]; exact (Since.refl w).alloc _
  have wh0 : Whole w0 (w.heap.size) 23 #[.int .i64 d, .int .i64 b] := by rw [hw0]; exact Whole.new w _ _
  have HW := Lib.hid hw0
  have c0_0 := box_cell wh0 0 (.int .i64 d) rfl
  have c0_1 := box_cell wh0 1 (.int .i64 b) rfl
  have hsr := Since.refl w0
  have hsd := hsr.drew
  clear hw0
  have HF := Lib.hid hf
  have HDN := Lib.hid hdn
  have h32 : dn ≤ 32 := by omega
  have HDD := Lib.hid hdd
  clear hsuf hf hdn hd c0_0 c0_1 hsr hsd hdd
  go_enter Try.func36, Try.ntmps36
  go_wp2_with fail
  rw [← HW.out]
  go_loopw [3, 4] (fun s c wr => ∃ i : Nat, c = .int .i64 i ∧ s = .string ⟨(sufT b i).toArray⟩ ∧ i ≤ dn ∧ Whole wr w.heap.size 23 #[.int .i64 d, .int .i64 b] ∧ Since w wr) (fun _ c _ => dn - (intOf c).toNat)
  case atStart => exact ⟨0, rfl, rfl, Nat.zero_le _, wh0, hs0⟩
  case round =>
    clear wh0 hs0
    obtain ⟨i, rfl, rfl, hi, wp, hs⟩ := hrel
    have q1 := wp.cell 0
    have q2 := wp.cell 1
    by_cases hlt : i < dn
    · have hc : decide ((i : Int) < d) = true := decide_eq_true (by have := HDD.out; omega)
      have hi32 : (i : Int) < 32 := by omega
      have hcases : b / 2 ^ i % 2 = 0 ∨ b / 2 ^ i % 2 = 1 := by omega
      have hq : 0 ≤ b / 2 ^ i := Int.ediv_nonneg hb.1 (Int.le_of_lt (p2_pos _))
      have e1 : (b / 2 ^ i).tmod 2 = b / 2 ^ i % 2 := Int.tmod_eq_emod_of_nonneg hq
      rcases hcases with h | h
      all_goals
        have e2 : (b / 2 ^ i).tmod 2 = _ := e1.trans h
        have hsx : sufT b (i + 1) = dig (b / 2 ^ i % 2) :: sufT b i := rfl
        rw [h] at hsx
        replace hsx := Lib.hid hsx
        clear e1 h
        have hln := sufT_length b i
        have hln2 : ¬ 9223372036854775807 < 1 + i := by omega
        have hcv := conv1 48 48 (by decide)
        have hcv2 := conv1 49 49 (by decide)
        go_wp2_with fail
        go_roundw
        case rel =>
          refine ⟨i + 1, by go_num, ?_, by omega, wp.alloc _, hs.alloc _⟩
          rw [hsx.out]
          first
            | (rw [dig_0]; exact congrArg Value.string (bytes_app [48] (sufT b i)))
            | (rw [dig_1]; exact congrArg Value.string (bytes_app [49] (sufT b i)))
        case measure => simp [intOf]; omega
    · have hc : decide ((i : Int) < d) = false := decide_eq_false (by have := HDD.out; omega)
      have hi2 : i = dn := by omega
      subst hi2
      go_wp2_with fail
      go_ret
      exact ⟨rfl, hs⟩
end Go.Proofs.Ytilkifjdonafnaa
