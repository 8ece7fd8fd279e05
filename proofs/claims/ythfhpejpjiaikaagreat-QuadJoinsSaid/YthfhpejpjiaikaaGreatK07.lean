/- point.Compare, gleberef07.Compare. point.Compare: the world behind it: draws and new blocks, nothing else (as the sort wants it). gleberef07.Compare. -/
import Derived.Test.YthfhpejpjiaikaaGreatK02
import Derived.Test.YthfhpejpjiaikaaGreatK06
import Derived.Sort.Grow
import Derived.Test.YthfhpejpjiaikaaGreatLay
namespace Go.Proofs.YthfhpejpjiaikaaGreat
open Go.RowKit
set_option linter.unusedVariables false
theorem isNaN7_any (x : Int) (w : World) : Calls Tryz.prog 116 #[.int .i64 x] w fun e w' => e = .returned (.bool false) ∧ w = w' := by
  go_enter Tryz.func116, Tryz.ntmps116
  go_wp2
  go_ret
  exact ⟨by first | rfl | simp, rfl⟩
theorem cmp7_at {x y r : Int} (h : cmpN x y = r) (w : World) : Calls Tryz.prog 107 #[.int .i64 x, .int .i64 y] w fun e w' => e = .returned (.int .i64 r) ∧ w = w' := by
  subst h
  rcases cmpN_cases x y with ⟨h, e⟩ | ⟨h, e⟩ | ⟨h, e⟩
  · rw [e]
    clear e
    go_enter Tryz.func107, Tryz.ntmps107
    go_wp2_with (go_at_call 116; (with_reducible refine (isNaN7_any _ _).mono ?_); rintro e w' ⟨rfl, rfl⟩)
    go_ret
    exact ⟨rfl, rfl⟩
  · rw [e]
    clear e
    subst h
    go_enter Tryz.func107, Tryz.ntmps107
    go_wp2_with (go_at_call 116; (with_reducible refine (isNaN7_any _ _).mono ?_); rintro e w' ⟨rfl, rfl⟩)
    go_ret
    exact ⟨rfl, rfl⟩
  · rw [e]
    clear e
    have h2 : ¬ x < y := by omega
    go_enter Tryz.func107, Tryz.ntmps107
    go_wp2_with (go_at_call 116; (with_reducible refine (isNaN7_any _ _).mono ?_); rintro e w' ⟨rfl, rfl⟩)
    go_ret
    exact ⟨rfl, rfl⟩
theorem or_any {g n c : Nat} {l : List Int} {cs : Array Value} {w : World} (hg : Whole w g 3 cs) (hcs : cs = (l.map (Value.int .i64)).toArray) (hn : l.length = n) (hl : n ≤ 1000) {R : Int} (hR : orL l = R) :
    Calls Tryz.prog 106 #[.slice (some ⟨g, 0, none⟩) n c] w fun e w' => e = .returned (.int .i64 R) ∧ w = w' := by
  have HR := Lib.hid hR
  have HN := Lib.hid hn
  clear hR
  go_enter Tryz.func106, Tryz.ntmps106
  go_wp2
  go_loop [8] (fun i => ∃ k : Nat, k ≤ n ∧ i = .int .i64 (k : Int) ∧ (l.take k).find? (· != 0) = none) (fun i => n - (intOf i).toNat)
  case atStart => exact ⟨0, by omega, rfl, rfl⟩
  case round =>
    obtain ⟨k, hk, rfl, ha⟩ := hrel
    by_cases hlt : k < n
    · have hlk : k < l.length := by omega
      obtain ⟨z, hz⟩ : ∃ z, l[k] = z := ⟨_, rfl⟩
      have hcell : w.cell? ⟨g, k, none⟩ = some (.int .i64 z) := by
        rw [hg.cell, hcs, ← hz]
        simp [hlk]
      have HA := Lib.hid ha
      have HZ := Lib.hid (show l[k]? = some z by rw [List.getElem?_eq_getElem hlk, hz])
      clear hn ha hz hlk hcs
      by_cases h5 : z = 0
      · subst h5
        go_wp2
        go_round
        case rel =>
          refine ⟨k + 1, by omega, by go_num, ?_⟩
          rw [List.take_add_one, HZ.out, List.find?_append, HA.out]
          rfl
        case measure => simp [intOf]; omega
      · have h6 : (z != 0) = true := by simp [h5]
        have hs : l = l.take k ++ z :: l.drop (k + 1) := by
          obtain ⟨hk', he⟩ := List.getElem?_eq_some_iff.1 HZ.out
          rw [← he, ← List.drop_eq_getElem_cons hk', List.take_append_drop]
        obtain rfl : R = z := by
          rw [← HR.out]
          unfold orL
          rw [hs, List.find?_append, HA.out, List.find?_cons, h6]
          rfl
        clear hs h5
        go_wp2
        go_ret
        exact ⟨rfl, rfl⟩
    · have HA := Lib.hid ha
      clear hn ha hcs
      obtain rfl : k = n := by omega
      obtain rfl : R = 0 := by
        have h2 := HA.out
        rw [List.take_of_length_le (Nat.le_of_eq HN.out)] at h2
        rw [← HR.out]
        unfold orL
        rw [h2]
        rfl
      clear HR HA
      go_wp2
      go_ret
      exact ⟨rfl, rfl⟩
theorem or_three {w : World} {g : Nat} {a b c R : Int} (h : Whole w g 3 #[.int .i64 a, .int .i64 b, .int .i64 c]) (hR : orL [a, b, c] = R) :
    Calls Tryz.prog 106 #[.slice (some ⟨g, 0, none⟩) 3 3] w fun e w' => e = .returned (.int .i64 R) ∧ w = w' :=
  or_any (l := [a, b, c]) h rfl rfl (show 3 ≤ 1000 by decide) hR
theorem scmp_at {a b : ByteArray} {R : Int} (h : Lib.compareBytes a.data.toList b.data.toList = R) (w : World) : Calls Tryz.prog 108 #[.string a, .string b] w fun e w' => e = .returned (.int .i64 R) ∧ w = w' :=
  (Tryz.strings_Compare a b w).mono fun _ _ ⟨h1, h2⟩ => ⟨h ▸ h1, h2.symm⟩
set_option maxRecDepth 100000 in
set_option maxHeartbeats 1600000 in
theorem qcompare_at {ax ay : Int} {ak av : ByteArray} {aw : Int} {bx b_y : Int} {bk bv : ByteArray} {bw R : Int} (hR : cmpR ax ay ak.data.toList bx b_y bk.data.toList = R) (w : World) :
    Calls Tryz.prog 84 #[.agg #[.int .i64 ax, .int .i64 ay, .string ak, .string av, .int .i64 aw], .agg #[.int .i64 bx, .int .i64 b_y, .string bk, .string bv, .int .i64 bw]] w fun e w' => e = .returned (.int .i64 R) ∧ Below w.heap.size w w' := by
  obtain ⟨r1, h1⟩ : ∃ r, cmpN ay b_y = r := ⟨_, rfl⟩
  obtain ⟨r2, h2⟩ : ∃ r, cmpN ax bx = r := ⟨_, rfl⟩
  obtain ⟨r3, h3⟩ : ∃ r, Lib.compareBytes ak.data.toList bk.data.toList = r := ⟨_, rfl⟩
  unfold cmpR at hR
  rw [h1, h2, h3] at hR
  replace h1 := Lib.hid h1
  replace h2 := Lib.hid h2
  replace h3 := Lib.hid h3
  replace hR := Lib.hid hR
  obtain ⟨w0, hw0⟩ : ∃ w0, w0 = (w.alloc (.cells #[.int .i64 ax, .int .i64 ay, .string ak, .string av, .int .i64 aw] 55)).alloc (.cells #[.int .i64 bx, .int .i64 (b_y), .string bk, .string bv, .int .i64 bw] 55) := ⟨_, rfl⟩
  have hs0 : Since w w0 := by rw [hw0]; exact ((Since.refl w).alloc _).alloc _
  have wh0 : Whole w0 (w.heap.size) 55 #[.int .i64 ax, .int .i64 ay, .string ak, .string av, .int .i64 aw] := by rw [hw0]; exact (Whole.new w _ _).alloc _
  have wh1 : Whole w0 (w.heap.size + 1) 55 #[.int .i64 bx, .int .i64 (b_y), .string bk, .string bv, .int .i64 bw] := by rw [hw0]; exact (Whole.new (w.alloc _) _ _).at_ (by simp)
  have HW := Lib.hid hw0
  have c0_0 := box_cell wh0 0 (.int .i64 ax) rfl
  have c0_1 := box_cell wh0 1 (.int .i64 ay) rfl
  have c0_2 := box_cell wh0 2 (.string ak) rfl
  have c0_3 := box_cell wh0 3 (.string av) rfl
  have c0_4 := box_cell wh0 4 (.int .i64 aw) rfl
  have c1_0 := box_cell wh1 0 (.int .i64 bx) rfl
  have c1_1 := box_cell wh1 1 (.int .i64 (b_y)) rfl
  have c1_2 := box_cell wh1 2 (.string bk) rfl
  have c1_3 := box_cell wh1 3 (.string bv) rfl
  have c1_4 := box_cell wh1 4 (.int .i64 bw) rfl
  have hsr := Since.refl w0
  have hsd := hsr.drew
  clear hw0 wh0 wh1
  go_enter Tryz.func84, Tryz.ntmps84
  go_wp2_with fail
  rw [← HW.out]
  go_region_held3 (fun W => Since w0 W) (first | assumption | exact Since.drew (by assumption) | exact Since.alloc (by assumption) _ | exact Since.alloc (Since.drew (by assumption)) _) ((first | (go_at_call 107; (with_reducible refine (Calls.since_same (by assumption) (cmp7_at h1.out _)).mono ?_); rintro e w1 ⟨rfl, hb1⟩) | (go_at_call 107; (with_reducible refine (Calls.since_same (by assumption) (cmp7_at h2.out _)).mono ?_); rintro e w1 ⟨rfl, hb1⟩) | (go_at_call 108; (with_reducible refine (Calls.since_same (by assumption) (scmp_at h3.out _)).mono ?_); rintro e w1 ⟨rfl, hb1⟩) | (go_at_call 106; (with_reducible refine (Calls.since_same (by assumption) (or_three (Whole.new _ _ _) hR.out)).mono ?_); rintro e w1 ⟨rfl, hb1⟩)))
  go_wp2
  go_ret
  exact ⟨rfl, hs0.trans (by assumption)⟩
end Go.Proofs.YthfhpejpjiaikaaGreat
namespace Go.Proofs.YthfhpejpjiaikaaGreat
open Go.RowKit
set_option linter.unusedVariables false
/-- Draws and new blocks, nothing else. -/
def Grew (w W : World) : Prop := ∃ q os, W = Go.Sort.grow (w.drewN q) os
theorem Grew.refl (w : World) : Grew w w := ⟨0, #[], by simp [Go.Sort.grow, World.drewN]⟩
theorem Grew.drew {w W : World} (h : Grew w W) : Grew w W.drew := by
  obtain ⟨q, os, rfl⟩ := h
  exact ⟨q + 1, os, rfl⟩
theorem Grew.alloc {w W : World} (h : Grew w W) (o : Obj) : Grew w (W.alloc o) := by
  obtain ⟨q, os, rfl⟩ := h
  exact ⟨q, os ++ #[o], by rw [Go.Sort.alloc_eq_grow, Go.Sort.grow_grow]⟩
theorem Grew.since {w W : World} (h : Grew w W) : Since w W := by
  obtain ⟨q, os, rfl⟩ := h
  refine ⟨rfl, rfl, rfl, ?_, fun k hk => ?_⟩
  · simp [Go.Sort.grow, World.drewN]
  · exact Go.Sort.heap_grow_old (w.drewN q) os hk
theorem Grew.trans {w W W' : World} (h : Grew w W) (g : Grew W W') : Grew w W' := by
  obtain ⟨q, os, rfl⟩ := h
  obtain ⟨q2, os2, rfl⟩ := g
  refine ⟨q + q2, os ++ os2, ?_⟩
  simp only [Go.Sort.grow, World.drewN, Array.append_assoc, Nat.add_assoc]
theorem whole_new_drew (W : World) (t : TypeId) (cs : Array Value) : Whole (W.alloc (.cells cs t)).drew W.heap.size t cs := Whole.new W t cs
set_option maxRecDepth 100000 in
set_option maxHeartbeats 1600000 in
theorem qcompare_grew (a b : Rq) (w : World) : Calls Tryz.prog 84 #[a.v, b.v] w fun e w' => e = .returned (.int .i64 (cmpQ a b)) ∧ Grew w w' := by
  obtain ⟨ax, ay, ak, av, aw⟩ := a
  obtain ⟨bx, b_y, bk, bv, bw⟩ := b
  obtain ⟨R, hR⟩ : ∃ R, cmpQ ⟨ax, ay, ak, av, aw⟩ ⟨bx, b_y, bk, bv, bw⟩ = R := ⟨_, rfl⟩
  rw [hR]
  unfold cmpQ cmpK at hR
  dsimp only at hR
  simp only [Rq.v]
  obtain ⟨r1, h1⟩ : ∃ r, cmpN ay b_y = r := ⟨_, rfl⟩
  obtain ⟨r2, h2⟩ : ∃ r, cmpN ax bx = r := ⟨_, rfl⟩
  obtain ⟨r3, h3⟩ : ∃ r, Lib.compareBytes ak.data.toList bk.data.toList = r := ⟨_, rfl⟩
  unfold cmpR at hR
  rw [h1, h2, h3] at hR
  replace h1 := Lib.hid h1
  replace h2 := Lib.hid h2
  replace h3 := Lib.hid h3
  replace hR := Lib.hid hR
  obtain ⟨w0, hw0⟩ : ∃ w0, w0 = (w.alloc (.cells #[.int .i64 ax, .int .i64 ay, .string ak, .string av, .int .i64 aw] 55)).alloc (.cells #[.int .i64 bx, .int .i64 (b_y), .string bk, .string bv, .int .i64 bw] 55) := ⟨_, rfl⟩
  have hs0 : Grew w w0 := by rw [hw0]; exact ((Grew.refl w).alloc _).alloc _
  have wh0 : Whole w0 (w.heap.size) 55 #[.int .i64 ax, .int .i64 ay, .string ak, .string av, .int .i64 aw] := by rw [hw0]; exact (Whole.new w _ _).alloc _
  have wh1 : Whole w0 (w.heap.size + 1) 55 #[.int .i64 bx, .int .i64 (b_y), .string bk, .string bv, .int .i64 bw] := by rw [hw0]; exact (Whole.new (w.alloc _) _ _).at_ (by simp)
  have HW := Lib.hid hw0
  have c0_0 := fun W' (h : Grew w0 W') => box_cell wh0 0 (.int .i64 ax) rfl W' h.since
  have c0_1 := fun W' (h : Grew w0 W') => box_cell wh0 1 (.int .i64 ay) rfl W' h.since
  have c0_2 := fun W' (h : Grew w0 W') => box_cell wh0 2 (.string ak) rfl W' h.since
  have c0_3 := fun W' (h : Grew w0 W') => box_cell wh0 3 (.string av) rfl W' h.since
  have c0_4 := fun W' (h : Grew w0 W') => box_cell wh0 4 (.int .i64 aw) rfl W' h.since
  have c1_0 := fun W' (h : Grew w0 W') => box_cell wh1 0 (.int .i64 bx) rfl W' h.since
  have c1_1 := fun W' (h : Grew w0 W') => box_cell wh1 1 (.int .i64 (b_y)) rfl W' h.since
  have c1_2 := fun W' (h : Grew w0 W') => box_cell wh1 2 (.string bk) rfl W' h.since
  have c1_3 := fun W' (h : Grew w0 W') => box_cell wh1 3 (.string bv) rfl W' h.since
  have c1_4 := fun W' (h : Grew w0 W') => box_cell wh1 4 (.int .i64 bw) rfl W' h.since
  have hsr := Grew.refl w0
  have hsd := hsr.drew
  clear hw0 wh0 wh1
  go_enter Tryz.func84, Tryz.ntmps84
  go_wp2_with fail
  rw [← HW.out]
  go_region_held3 (fun W => Grew w0 W) (first | assumption | exact Grew.drew (by assumption) | exact Grew.alloc (by assumption) _ | exact Grew.alloc (Grew.drew (by assumption)) _) ((first | (go_at_call 107; (with_reducible refine (cmp7_at h1.out _).mono ?_); rintro e w1 ⟨rfl, rfl⟩) | (go_at_call 107; (with_reducible refine (cmp7_at h2.out _).mono ?_); rintro e w1 ⟨rfl, rfl⟩) | (go_at_call 108; (with_reducible refine (scmp_at h3.out _).mono ?_); rintro e w1 ⟨rfl, rfl⟩) | (go_at_call 106; (with_reducible refine (or_three (Whole.new _ _ _) hR.out).mono ?_); rintro e w1 ⟨rfl, rfl⟩) | (go_at_call 106; (with_reducible refine (or_three (whole_new_drew _ _ _) hR.out).mono ?_); rintro e w1 ⟨rfl, rfl⟩)))
  go_wp2
  go_ret
  exact ⟨rfl, hs0.trans (by assumption)⟩
end Go.Proofs.YthfhpejpjiaikaaGreat
namespace Go.Proofs.YthfhpejpjiaikaaGreat
open Go.RowKit
set_option linter.unusedVariables false
theorem bl_of {a b : ByteArray} : Op.bytesLess a.toList b.toList = decide (Lib.compareBytes a.data.toList b.data.toList = -1) := by
  rw [ByteArray.toList_eq, ByteArray.toList_eq, cb_less]
theorem be_of {a b : ByteArray} : (a.toList == b.toList) = decide (Lib.compareBytes a.data.toList b.data.toList = 0) := by
  rw [ByteArray.toList_eq, ByteArray.toList_eq, Bool.eq_iff_iff, beq_iff_eq, decide_eq_true_iff, cb_zero]
set_option maxRecDepth 100000 in
set_option maxHeartbeats 3200000 in
theorem refCompare_at {ax ay : Int} {ak av : ByteArray} {aw : Int} {bx b_y : Int} {bk bv : ByteArray} {bw R : Int} (hR : cmpR ax ay ak.data.toList bx b_y bk.data.toList = R) (w : World) :
    Calls Tryz.prog 92 #[.agg #[.int .i64 ax, .int .i64 ay, .string ak, .string av, .int .i64 aw], .agg #[.int .i64 bx, .int .i64 b_y, .string bk, .string bv, .int .i64 bw]] w fun e w' => e = .returned (.int .i64 R) ∧ Below w.heap.size w w' := by
  rw [cmpR_eq] at hR
  have hbl := bl_of (a := ak) (b := bk)
  have hbe := be_of (a := ak) (b := bk)
  by_cases h1 : ay < b_y
  · rw [if_pos h1] at hR
    subst hR
    clear hbl hbe
    go_enter Tryz.func92, Tryz.ntmps92
    go_wp2
    go_ret
    exact ⟨rfl, ((Since.refl w).alloc _).alloc _⟩
  · rw [if_neg h1] at hR
    by_cases h2 : b_y < ay
    · rw [if_pos h2] at hR
      subst hR
      have e1 : (ay == b_y) = false := by rw [beq_eq_false_iff_ne]; omega
      clear hbl hbe
      go_enter Tryz.func92, Tryz.ntmps92
      go_wp2
      go_ret
      exact ⟨rfl, ((Since.refl w).alloc _).alloc _⟩
    · rw [if_neg h2] at hR
      obtain rfl : ay = b_y := by omega
      by_cases h3 : ax < bx
      · rw [if_pos h3] at hR
        subst hR
        clear hbl hbe
        go_enter Tryz.func92, Tryz.ntmps92
        go_wp2
        go_ret
        exact ⟨rfl, ((Since.refl w).alloc _).alloc _⟩
      · rw [if_neg h3] at hR
        by_cases h4 : bx < ax
        · rw [if_pos h4] at hR
          subst hR
          have e1 : (ax == bx) = false := by rw [beq_eq_false_iff_ne]; omega
          clear hbl hbe
          go_enter Tryz.func92, Tryz.ntmps92
          go_wp2
          go_ret
          exact ⟨rfl, ((Since.refl w).alloc _).alloc _⟩
        · rw [if_neg h4] at hR
          obtain rfl : ax = bx := by omega
          rw [hR] at hbl hbe
          rcases (cb_three ak.data.toList bk.data.toList) with h5 | h5 | h5 <;> rw [hR] at h5 <;> subst h5 <;> clear hR
          · replace hbl : Op.bytesLess ak.toList bk.toList = true := hbl
            clear hbe
            go_enter Tryz.func92, Tryz.ntmps92
            go_wp2
            go_ret
            exact ⟨rfl, ((Since.refl w).alloc _).alloc _⟩
          · replace hbl : Op.bytesLess ak.toList bk.toList = false := hbl
            replace hbe : (ak.toList == bk.toList) = true := hbe
            go_enter Tryz.func92, Tryz.ntmps92
            go_wp2
            go_ret
            exact ⟨rfl, ((Since.refl w).alloc _).alloc _⟩
          · replace hbl : Op.bytesLess ak.toList bk.toList = false := hbl
            replace hbe : (ak.toList == bk.toList) = false := hbe
            go_enter Tryz.func92, Tryz.ntmps92
            go_wp2
            go_ret
            exact ⟨rfl, ((Since.refl w).alloc _).alloc _⟩
end Go.Proofs.YthfhpejpjiaikaaGreat
