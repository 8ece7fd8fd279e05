/- gleberef07.Compare. -/
import Derived.Test.YthgcmcdacejelaaDoorQCmp
namespace Go.Proofs.YthgcmcdacejelaaDoor
open Go.RowKit
set_option linter.unusedVariables false
theorem bl_of {a b : ByteArray} : Op.bytesLess a.toList b.toList = decide (Lib.compareBytes a.data.toList b.data.toList = -1) := by
  rw [ByteArray.toList_eq, ByteArray.toList_eq, cb_less]
theorem be_of {a b : ByteArray} : (a.toList == b.toList) = decide (Lib.compareBytes a.data.toList b.data.toList = 0) := by
  rw [ByteArray.toList_eq, ByteArray.toList_eq, Bool.eq_iff_iff, beq_iff_eq, decide_eq_true_iff, cb_zero]
set_option maxRecDepth 100000 in
set_option maxHeartbeats 3200000 in
theorem refCompare_at {ax ay : Int} {ak av : ByteArray} {aw : Int} {bx b_y : Int} {bk bv : ByteArray} {bw R : Int} (hR : cmpR ax ay ak.data.toList bx b_y bk.data.toList = R) (w : World) :
    Calls Tryd.prog 22 #[.agg #[.int .i64 ax, .int .i64 ay, .string ak, .string av, .int .i64 aw], .agg #[.int .i64 bx, .int .i64 b_y, .string bk, .string bv, .int .i64 bw]] w fun e w' => e = .returned (.int .i64 R) ∧ Below w.heap.size w w' := by
  rw [cmpR_eq] at hR
  have hbl := bl_of (a := ak) (b := bk)
  have hbe := be_of (a := ak) (b := bk)
  by_cases h1 : ay < b_y
  · rw [if_pos h1] at hR
    subst hR
    clear hbl hbe
    go_enter Tryd.func22, Tryd.ntmps22
    go_wp2
    go_ret
    exact ⟨rfl, ((Since.refl w).alloc _).alloc _⟩
  · rw [if_neg h1] at hR
    by_cases h2 : b_y < ay
    · rw [if_pos h2] at hR
      subst hR
      have e1 : (ay == b_y) = false := by rw [beq_eq_false_iff_ne]; omega
      clear hbl hbe
      go_enter Tryd.func22, Tryd.ntmps22
      go_wp2
      go_ret
      exact ⟨rfl, ((Since.refl w).alloc _).alloc _⟩
    · rw [if_neg h2] at hR
      obtain rfl : ay = b_y := by omega
      by_cases h3 : ax < bx
      · rw [if_pos h3] at hR
        subst hR
        clear hbl hbe
        go_enter Tryd.func22, Tryd.ntmps22
        go_wp2
        go_ret
        exact ⟨rfl, ((Since.refl w).alloc _).alloc _⟩
      · rw [if_neg h3] at hR
        by_cases h4 : bx < ax
        · rw [if_pos h4] at hR
          subst hR
          have e1 : (ax == bx) = false := by rw [beq_eq_false_iff_ne]; omega
          clear hbl hbe
          go_enter Tryd.func22, Tryd.ntmps22
          go_wp2
          go_ret
          exact ⟨rfl, ((Since.refl w).alloc _).alloc _⟩
        · rw [if_neg h4] at hR
          obtain rfl : ax = bx := by omega
          rw [hR] at hbl hbe
          rcases (cb_three ak.data.toList bk.data.toList) with h5 | h5 | h5 <;> rw [hR] at h5 <;> subst h5 <;> clear hR
          · replace hbl : Op.bytesLess ak.toList bk.toList = true := hbl
            clear hbe
            go_enter Tryd.func22, Tryd.ntmps22
            go_wp2
            go_ret
            exact ⟨rfl, ((Since.refl w).alloc _).alloc _⟩
          · replace hbl : Op.bytesLess ak.toList bk.toList = false := hbl
            replace hbe : (ak.toList == bk.toList) = true := hbe
            go_enter Tryd.func22, Tryd.ntmps22
            go_wp2
            go_ret
            exact ⟨rfl, ((Since.refl w).alloc _).alloc _⟩
          · replace hbl : Op.bytesLess ak.toList bk.toList = false := hbl
            replace hbe : (ak.toList == bk.toList) = false := hbe
            go_enter Tryd.func22, Tryd.ntmps22
            go_wp2
            go_ret
            exact ⟨rfl, ((Since.refl w).alloc _).alloc _⟩
end Go.Proofs.YthgcmcdacejelaaDoor
