/- The ends of the laws SessionOnce and SessionJoins. -/
import Derived.Test.YtbgfjkgpekkciaaK35
import Derived.Test.YtbgfjkgpekkciaaK36
import Derived.Test.YtbgfjkgpekkciaaK37
namespace Go.Proofs.Ytbgfjkgpekkciaa
open Go.RowKit
set_option linter.unusedVariables false
set_option linter.unusedSimpArgs false
set_option maxHeartbeats 1600000 in
set_option maxRecDepth 100000 in
theorem once9_dark {B : Nat} {vl : Value} {A : List SC} (c s er : Int) (fd : Bool) (val : ByteArray) (ver o : Int) (w : World) (hA : LentE encSC 6 B w vl A) (hB : B ≤ w.heap.size) {la : Bool} (hla : lightB A = la) (hlx : la = false ∨ la = true ∧ lightB [⟨c, s, er, fd, val, ver⟩] = false) :
    Calls Try.prog 4 #[vl, .agg #[.int .i64 c, .int .i64 s, .int .i64 er, .bool fd, .string val, .int .i64 ver], .int .i64 o] w fun e w' => e = .returned (.bool true) ∧ Below w.heap.size w w' := by
  have HLA := Lib.hid hla
  clear hla
  obtain ⟨w0, hw0⟩ : ∃ w0, w0 = w.alloc (.cells #[.int .i64 c, .int .i64 s, .int .i64 er, .bool fd, .string val, .int .i64 ver] 46) := ⟨_, rfl⟩
  have hs0 : Since w w0 := by rw [hw0]; exact (Since.refl w).alloc _
  have wh0 : Whole w0 (w.heap.size) 46 #[.int .i64 c, .int .i64 s, .int .i64 er, .bool fd, .string val, .int .i64 ver] := by rw [hw0]; exact Whole.new w _ _
  have HW := Lib.hid hw0
  have c0_0 := box_cell wh0 0 (.int .i64 c) rfl
  have c0_1 := box_cell wh0 1 (.int .i64 s) rfl
  have c0_2 := box_cell wh0 2 (.int .i64 er) rfl
  have c0_3 := box_cell wh0 3 (.bool fd) rfl
  have c0_4 := box_cell wh0 4 (.string val) rfl
  have c0_5 := box_cell wh0 5 (.int .i64 ver) rfl
  have hsr := Since.refl w0
  have hsd := hsr.drew
  clear hw0 wh0
  have hz0 : w0.heap.size = w.heap.size + 1 := by rw [HW.out]; simp
  have hA0 := hA.since hs0 hB
  rcases hlx with rfl | ⟨rfl, hlx⟩
  · go_enter Try.func4, Try.ntmps4
    go_wp2_with fail
    rw [← HW.out]
    refine (light_any hA0 HLA.out).mono ?_
    rintro e wz ⟨rfl, rfl⟩
    go_wp2_with (go_at_call 6; (with_reducible refine (knows9_any _).mono ?_); rintro e w3 ⟨rfl, hS3⟩)
    go_ret
    exact ⟨rfl, hs0.trans hS3⟩
  · have HLX := Lib.hid hlx
    clear hlx
    go_enter Try.func4, Try.ntmps4
    go_wp2_with fail
    rw [← HW.out]
    refine (light_any hA0 HLA.out).mono ?_
    rintro e wz ⟨rfl, rfl⟩
    go_wp2_with fail
    obtain ⟨w1, hw1⟩ : ∃ w1, w1 = w0.alloc (.cells #[.int .i64 c, .int .i64 s, .int .i64 er, .bool fd, .string val, .int .i64 ver] 46) := ⟨_, rfl⟩
    have hs1 : Since w0 w1 := by rw [hw1]; exact hsr.alloc _
    have wh1 : Whole w1 w0.heap.size 46 #[.int .i64 c, .int .i64 s, .int .i64 er, .bool fd, .string val, .int .i64 ver] := by rw [hw1]; exact Whole.new w0 _ _
    rw [← hw1]
    clear hw1
    have hLt := lent9_one (B := w.heap.size + 2) (a := ⟨c, s, er, fd, val, ver⟩) (wh1.at_ hz0) (by omega)
    refine (light_any hLt HLX.out).mono ?_
    rintro e wz ⟨rfl, rfl⟩
    go_wp2_with (go_at_call 6; (with_reducible refine (knows9_any _).mono ?_); rintro e w3 ⟨rfl, hS3⟩)
    go_ret
    exact ⟨rfl, (hs0.trans hs1).trans hS3⟩
theorem once9_go (a0 : Option Addr) (len0 cap0 : Nat) (A : List SC) (c s er : Int) (fd : Bool) (val : ByteArray) (ver o : Int) (w : World) (hA : LentE encSC 6 w.heap.size w (.slice a0 len0 cap0) A) (_ : (Lit.int .i64 o).wf = true) :
    Calls Try.prog 4 #[.slice a0 len0 cap0, .agg #[.int .i64 c, .int .i64 s, .int .i64 er, .bool fd, .string val, .int .i64 ver], .int .i64 o] w fun e w' => e = .returned (.bool true) ∧ Below w.heap.size w w' := by
  cases hla : lightB A with
  | false => exact once9_dark c s er fd val ver o w hA (Nat.le_refl _) hla (.inl rfl)
  | true =>
    cases hlx : lightB [⟨c, s, er, fd, val, ver⟩] with
    | false => exact once9_dark c s er fd val ver o w hA (Nat.le_refl _) hla (.inr ⟨rfl, hlx⟩)
    | true => exact once9_light c s er fd val ver o w hA (Nat.le_refl _) hla hlx
theorem joins9_dark {B : Nat} {vl vm vo : Value} {A C D : List SC} (w : World) (hA : LentE encSC 6 B w vl A) (hC : LentE encSC 6 B w vm C) (hD : LentE encSC 6 B w vo D) {la lc ld : Bool} (ha : lightB A = la) (hc : lightB C = lc) (hd : lightB D = ld) (hh : ¬ (la = true ∧ lc = true ∧ ld = true)) :
    Calls Try.prog 5 #[vl, vm, vo] w fun e w' => e = .returned (.bool true) ∧ Below w.heap.size w w' := by
  have L1 := Lib.hid (light_any hA ha)
  have L2 := Lib.hid (light_any hC hc)
  have L3 := Lib.hid (light_any hD hd)
  clear ha hc hd hA hC hD
  cases la with
  | false =>
    clear hh
    go_enter Try.func5, Try.ntmps5
    go_wp2_with (first
      | (go_at_call 18; (with_reducible refine L1.out.mono ?_); rintro e w' ⟨rfl, rfl⟩)
      | (go_at_call 6; (with_reducible refine (knows9_any _).mono ?_); rintro e w3 ⟨rfl, hS3⟩))
    go_ret
    exact ⟨rfl, hS3⟩
  | true =>
    cases lc with
    | false =>
      clear hh
      go_enter Try.func5, Try.ntmps5
      go_wp2_with (first
        | (go_at_call 18; (with_reducible refine L1.out.mono ?_); rintro e w' ⟨rfl, rfl⟩)
        | (go_at_call 18; (with_reducible refine L2.out.mono ?_); rintro e w' ⟨rfl, rfl⟩)
        | (go_at_call 6; (with_reducible refine (knows9_any _).mono ?_); rintro e w3 ⟨rfl, hS3⟩))
      go_ret
      exact ⟨rfl, hS3⟩
    | true =>
      obtain rfl : ld = false := by
        cases ld with
        | false => rfl
        | true => exact absurd ⟨rfl, rfl, rfl⟩ hh
      clear hh
      go_enter Try.func5, Try.ntmps5
      go_wp2_with (first
        | (go_at_call 18; (with_reducible refine L1.out.mono ?_); rintro e w' ⟨rfl, rfl⟩)
        | (go_at_call 18; (with_reducible refine L2.out.mono ?_); rintro e w' ⟨rfl, rfl⟩)
        | (go_at_call 18; (with_reducible refine L3.out.mono ?_); rintro e w' ⟨rfl, rfl⟩)
        | (go_at_call 6; (with_reducible refine (knows9_any _).mono ?_); rintro e w3 ⟨rfl, hS3⟩))
      go_ret
      exact ⟨rfl, hS3⟩
theorem joins9_go (a0 : Option Addr) (len0 cap0 : Nat) (A : List SC) (a1 : Option Addr) (len1 cap1 : Nat) (C : List SC) (a2 : Option Addr) (len2 cap2 : Nat) (D : List SC) (w : World) (hA : LentE encSC 6 w.heap.size w (.slice a0 len0 cap0) A) (hC : LentE encSC 6 w.heap.size w (.slice a1 len1 cap1) C) (hD : LentE encSC 6 w.heap.size w (.slice a2 len2 cap2) D) :
    Calls Try.prog 5 #[.slice a0 len0 cap0, .slice a1 len1 cap1, .slice a2 len2 cap2] w fun e w' => e = .returned (.bool true) ∧ Below w.heap.size w w' := by
  by_cases hh : lightB A = true ∧ lightB C = true ∧ lightB D = true
  · exact joins9_light w hA hC hD (Nat.le_refl _) hh.1 hh.2.1 hh.2.2
  · exact joins9_dark w hA hC hD rfl rfl rfl hh
end Go.Proofs.Ytbgfjkgpekkciaa
