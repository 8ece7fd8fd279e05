/- gleberef03: which paths may be; the halves as a text; a text's path. gleberef03.Halves: a path's halves as a text. gleberef03.Of: the path of a text of halves. gleberef03.Above, Meet. gleberef03.Common, Compare. gleberef03.At: half by half. gleberef03.Corner: a zone's least cell, how wide and how high it is, half by half. -/
import Derived.Test.YthfhpejpjiaikaaGreatK05
import Derived.Maps.AppendAt
import Derived.Great.BuildSlice
import Derived.Laws.IdiomStrings
namespace Go.Proofs.YthfhpejpjiaikaaGreat
open Go.RowKit
set_option maxHeartbeats 800000 in
theorem refRightP_any (k d b : Int) (w : World) : Calls Tryz.prog 32 #[.int .i64 k, .agg #[.int .i64 d, .int .i64 b]] w fun e w' => e = .returned (.bool (okP k d b)) ∧ Below w.heap.size w w' := by
  obtain ⟨w0, hw0⟩ : ∃ w0, w0 = w.alloc (.cells #[.int .i64 d, .int .i64 b] 23) := ⟨_, rfl⟩
  have hs0 : Since w w0 := by rw [hw0]; exact (Since.refl w).alloc _
  have wh0 : Whole w0 (w.heap.size) 23 #[.int .i64 d, .int .i64 b] := by rw [hw0]; exact Whole.new w _ _
  have HW := Lib.hid hw0
  have c0_0 := box_cell wh0 0 (.int .i64 d) rfl
  have c0_1 := box_cell wh0 1 (.int .i64 b) rfl
  have hsr := Since.refl w0
  have hsd := hsr.drew
  clear hw0 wh0
  cases hr : rgt k with
  | false =>
    have hno : okP k d b = false := okP_no fun e => by rw [(rgt_iff k).2 ⟨e.1, e.2.1⟩] at hr; cases hr
    rw [hno]
    clear hno
    replace hr := Lib.hid hr
    go_enter Tryz.func32, Tryz.ntmps32
    go_wp2_with fail
    rw [← HW.out]
    go_wp2_with (go_at_call 57; (with_reducible refine (refRight_at hr.out _).mono ?_); rintro e w' ⟨rfl, rfl⟩)
    go_ret
    exact ⟨rfl, hs0⟩
  | true =>
    obtain ⟨hk1, hk2⟩ := (rgt_iff k).1 hr
    have e2 : wrap64 (2 * k) = 2 * k := IntWalk.wrap64_in _ ⟨by omega, by omega⟩
    replace hr := Lib.hid hr
    by_cases h1 : 0 ≤ d
    rotate_left 1
    · rw [okP_no fun e => h1 e.2.2.1]
      have q1 : decide (0 ≤ d) = false := decide_eq_false h1
      go_enter Tryz.func32, Tryz.ntmps32
      go_wp2_with fail
      rw [← HW.out]
      go_wp2_with (go_at_call 57; (with_reducible refine (refRight_at hr.out _).mono ?_); rintro e w' ⟨rfl, rfl⟩)
      go_ret
      exact ⟨rfl, hs0⟩
    have q1 : decide (0 ≤ d) = true := decide_eq_true h1
    by_cases h2 : d ≤ 2 * k
    rotate_left 1
    · rw [okP_no fun e => h2 e.2.2.2.1]
      have q2 : decide (d ≤ 2 * k) = false := decide_eq_false h2
      go_enter Tryz.func32, Tryz.ntmps32
      go_wp2_with fail
      rw [← HW.out]
      go_wp2_with (go_at_call 57; (with_reducible refine (refRight_at hr.out _).mono ?_); rintro e w' ⟨rfl, rfl⟩)
      go_ret
      exact ⟨rfl, hs0⟩
    have q2 : decide (d ≤ 2 * k) = true := decide_eq_true h2
    by_cases h3 : 0 ≤ b
    rotate_left 1
    · rw [okP_no fun e => h3 e.2.2.2.2.1]
      have q3 : decide (0 ≤ b) = false := decide_eq_false h3
      go_enter Tryz.func32, Tryz.ntmps32
      go_wp2_with fail
      rw [← HW.out]
      go_wp2_with (go_at_call 57; (with_reducible refine (refRight_at hr.out _).mono ?_); rintro e w' ⟨rfl, rfl⟩)
      go_ret
      exact ⟨rfl, hs0⟩
    have q3 : decide (0 ≤ b) = true := decide_eq_true h3
    obtain ⟨N, hN⟩ : ∃ N : Int, N = 2 ^ d.toNat := ⟨_, rfl⟩
    have e3 : wrap64 (2 ^ d.toNat) = N := by rw [p2_wrap (by omega), hN]
    have hb : okP k d b = decide (b < N) := by
      unfold okP
      rw [Bool.eq_iff_iff, decide_eq_true_iff, decide_eq_true_iff, hN]
      exact ⟨fun e => e.2.2.2.2.2, fun e => ⟨hk1, hk2, h1, h2, h3, e⟩⟩
    rw [hb]
    clear hb hN
    go_enter Tryz.func32, Tryz.ntmps32
    go_wp2_with fail
    rw [← HW.out]
    go_wp2_with (go_at_call 57; (with_reducible refine (refRight_at hr.out _).mono ?_); rintro e w' ⟨rfl, rfl⟩)
    go_ret
    exact ⟨rfl, hs0⟩
theorem refRightP_at {k d b : Int} {r : Bool} (h : okP k d b = r) (w : World) : Calls Tryz.prog 32 #[.int .i64 k, .agg #[.int .i64 d, .int .i64 b]] w fun e w' => e = .returned (.bool r) ∧ Below w.heap.size w w' := h ▸ refRightP_any k d b w
theorem refFine_any (d b : Int) (w : World) : Calls Tryz.prog 62 #[.agg #[.int .i64 d, .int .i64 b]] w fun e w' => e = .returned (.bool (fine d b)) ∧ Below w.heap.size w w' := by
  obtain ⟨w0, hw0⟩ : ∃ w0, w0 = w.alloc (.cells #[.int .i64 d, .int .i64 b] 23) := ⟨_, rfl⟩
  have hs0 : Since w w0 := by rw [hw0]; exact (Since.refl w).alloc _
  have wh0 : Whole w0 (w.heap.size) 23 #[.int .i64 d, .int .i64 b] := by rw [hw0]; exact Whole.new w _ _
  have HW := Lib.hid hw0
  have c0_0 := box_cell wh0 0 (.int .i64 d) rfl
  have c0_1 := box_cell wh0 1 (.int .i64 b) rfl
  have hsr := Since.refl w0
  have hsd := hsr.drew
  clear hw0 wh0
  go_enter Tryz.func62, Tryz.ntmps62
  go_wp2_with fail
  rw [← HW.out]
  go_wp2_with (go_at_call 32; (with_reducible refine (Calls.since (by assumption) (refRightP_any _ _ _ _)).mono ?_); rintro e w1 ⟨rfl, hb1⟩)
  go_ret
  exact ⟨rfl, hs0.trans hb1⟩
theorem refFine_at {d b : Int} {r : Bool} (h : fine d b = r) (w : World) : Calls Tryz.prog 62 #[.agg #[.int .i64 d, .int .i64 b]] w fun e w' => e = .returned (.bool r) ∧ Below w.heap.size w w' := h ▸ refFine_any d b w
end Go.Proofs.YthfhpejpjiaikaaGreat
namespace Go.Proofs.YthfhpejpjiaikaaGreat
open Go.RowKit
/-- The last i halves' digits. -/
def sufT (b : Int) : Nat → List UInt8
  | 0 => []
  | i + 1 => dig (b / 2 ^ i % 2) :: sufT b i
theorem sufT_length (b : Int) : ∀ i, (sufT b i).length = i
  | 0 => rfl
  | i + 1 => by rw [show sufT b (i + 1) = dig (b / 2 ^ i % 2) :: sufT b i from rfl, List.length_cons, sufT_length b i]
theorem sufT_all {d b : Int} (hf : fine d b = true) : ∀ i : Nat, (i : Int) ≤ d → digT d b (d.toNat - i) ++ sufT b i = digT d b d.toNat
  | 0, _ => by unfold sufT; rw [List.append_nil]; rfl
  | i + 1, hi => by
    have hd := (fine_iff d b).1 hf
    rw [← sufT_all hf i (by omega)]
    rw [show sufT b (i + 1) = dig (b / 2 ^ i % 2) :: sufT b i from rfl, show d.toNat - i = d.toNat - (i + 1) + 1 by omega, digT_succ, List.append_assoc, List.singleton_append]
    congr 3
    rw [bitI_yes hf (by omega) (by omega)]
    unfold pv
    rw [show (d - (((d.toNat - (i + 1) : Nat) : Int) + 1)).toNat = i by omega]
theorem bytes_app (l m : List UInt8) : (ByteArray.mk l.toArray) ++ (ByteArray.mk m.toArray) = ByteArray.mk (l ++ m).toArray := by
  apply ByteArray.ext
  rw [ByteArray.data_append]
  simp
theorem dig_0 : dig 0 = 48 := UInt8.toNat_inj.1 (by have := dig_bit (h := 0) (by omega) (by omega); have : (48 : UInt8).toNat = 48 := rfl; omega)
theorem dig_1 : dig 1 = 49 := UInt8.toNat_inj.1 (by have := dig_bit (h := 1) (by omega) (by omega); have : (49 : UInt8).toNat = 49 := rfl; omega)
/-- A text of one byte, off a row that was just made. -/
theorem conv1 (c : UInt8) (v : Int) (h : v = (c.toNat : Int)) (W : World) : (convert 134 9 (.slice (some ⟨W.heap.size, 0, none⟩) 1 1)).run Tryz.prog (W.alloc (.cells #[.int .u8 v] 5)) = .ok (.string ⟨#[c]⟩) (W.alloc (.cells #[.int .u8 v] 5)) :=
  run_convert_bytes_back (P := Tryz.prog) _ 134 9 5 ⟨W.heap.size, 0, none⟩ 1 [c] Tryz.underlying134 Tryz.underlying5 Tryz.underlying9 (fun j hj => by
    obtain rfl : j = 0 := by simpa using hj
    subst h
    exact (Whole.new W 5 #[.int .u8 (c.toNat : Int)]).cell 0)
set_option maxRecDepth 100000 in
set_option maxHeartbeats 1600000 in
theorem refHalves_any (d b : Int) (w : World) (hf : fine d b = true) : Calls Tryz.prog 64 #[.agg #[.int .i64 d, .int .i64 b]] w fun e w' => e = .returned (.string ⟨(digT d b d.toNat).toArray⟩) ∧ Below w.heap.size w w' := by
  have hd := (fine_iff d b).1 hf
  have hsuf := sufT_all hf d.toNat (by omega)
  rw [Nat.sub_self, show digT d b 0 = [] from rfl, List.nil_append] at hsuf
  rw [← hsuf]
  obtain ⟨dn, hdn⟩ : ∃ dn : Nat, d.toNat = dn := ⟨_, rfl⟩
  have hdd : d = (dn : Int) := by omega
  have hb := fine_bd hf
  rw [hdn] at *
  obtain ⟨w0, hw0⟩ : ∃ w0, w0 = w.alloc (.cells #[.int .i64 d, .int .i64 b] 23) := ⟨_, rfl⟩
  have hs0 : Since w w0 := by rw [hw0]; exact (Since.refl w).alloc _
  have wh0 : Whole w0 (w.heap.size) 23 #[.int .i64 d, .int .i64 b] := by rw [hw0]; exact Whole.new w _ _
  have HW := Lib.hid hw0
  have c0_0 := box_cell wh0 0 (.int .i64 d) rfl
  have c0_1 := box_cell wh0 1 (.int .i64 b) rfl
  have hsr := Since.refl w0
  have hsd := hsr.drew
  clear hw0
  have HF := Lib.hid hf
  have HDN := Lib.hid hdn
  have h32 : dn ≤ 32 := by omega
  have HDD := Lib.hid hdd
  clear hsuf hf hdn hd c0_0 c0_1 hsr hsd hdd
  go_enter Tryz.func64, Tryz.ntmps64
  go_wp2_with fail
  rw [← HW.out]
  go_loopw [3, 4] (fun s c wr => ∃ i : Nat, c = .int .i64 i ∧ s = .string ⟨(sufT b i).toArray⟩ ∧ i ≤ dn ∧ Whole wr w.heap.size 23 #[.int .i64 d, .int .i64 b] ∧ Since w wr) (fun _ c _ => dn - (intOf c).toNat)
  case atStart => exact ⟨0, rfl, rfl, Nat.zero_le _, wh0, hs0⟩
  case round =>
    clear wh0 hs0
    obtain ⟨i, rfl, rfl, hi, wp, hs⟩ := hrel
    have q1 := wp.cell 0
    have q2 := wp.cell 1
    by_cases hlt : i < dn
    · have hc : decide ((i : Int) < d) = true := decide_eq_true (by have := HDD.out; omega)
      have hi32 : (i : Int) < 32 := by omega
      have hcases : b / 2 ^ i % 2 = 0 ∨ b / 2 ^ i % 2 = 1 := by omega
      have hq : 0 ≤ b / 2 ^ i := Int.ediv_nonneg hb.1 (Int.le_of_lt (p2_pos _))
      have e1 : (b / 2 ^ i).tmod 2 = b / 2 ^ i % 2 := Int.tmod_eq_emod_of_nonneg hq
      rcases hcases with h | h
      all_goals
        have e2 : (b / 2 ^ i).tmod 2 = _ := e1.trans h
        have hsx : sufT b (i + 1) = dig (b / 2 ^ i % 2) :: sufT b i := rfl
        rw [h] at hsx
        replace hsx := Lib.hid hsx
        clear e1 h
        have hln := sufT_length b i
        have hln2 : ¬ 9223372036854775807 < 1 + i := by omega
        have hcv := conv1 48 48 (by decide)
        have hcv2 := conv1 49 49 (by decide)
        go_wp2_with fail
        go_roundw
        case rel =>
          refine ⟨i + 1, by go_num, ?_, by omega, wp.alloc _, hs.alloc _⟩
          rw [hsx.out]
          first
            | (rw [dig_0]; exact congrArg Value.string (bytes_app [48] (sufT b i)))
            | (rw [dig_1]; exact congrArg Value.string (bytes_app [49] (sufT b i)))
        case measure => simp [intOf]; omega
    · have hc : decide ((i : Int) < d) = false := decide_eq_false (by have := HDD.out; omega)
      have hi2 : i = dn := by omega
      subst hi2
      go_wp2_with fail
      go_ret
      exact ⟨rfl, hs⟩
end Go.Proofs.YthfhpejpjiaikaaGreat
namespace Go.Proofs.YthfhpejpjiaikaaGreat
open Go.RowKit
set_option maxRecDepth 100000 in
set_option maxHeartbeats 1600000 in
theorem refOf_any (s : ByteArray) (w : World) (hd : digs s.toList) (hl : s.size ≤ 32) : Calls Tryz.prog 63 #[.string s] w fun e w' => e = .returned (.agg #[.int .i64 ((s.size : Int)), .int .i64 (valT s.toList)]) ∧ Below w.heap.size w w' := by
  obtain ⟨w0, hw0⟩ : ∃ w0, w0 = (w.alloc (.cells #[.int .i64 0, .int .i64 0] 23)).alloc (.cells #[.int .i64 ((s.size : Int)), .int .i64 0] 23) := ⟨_, rfl⟩
  have hs0 : Since w w0 := by rw [hw0]; exact ((Since.refl w).alloc _).alloc _
  have wh0 : Whole w0 (w.heap.size) 23 #[.int .i64 0, .int .i64 0] := by rw [hw0]; exact (Whole.new w _ _).alloc _
  have wh1 : Whole w0 (w.heap.size + 1) 23 #[.int .i64 ((s.size : Int)), .int .i64 0] := by rw [hw0]; exact (Whole.new (w.alloc _) _ _).at_ (by simp)
  have HW := Lib.hid hw0
  have c0_0 := box_cell wh0 0 (.int .i64 0) rfl
  have c0_1 := box_cell wh0 1 (.int .i64 0) rfl
  have c1_0 := box_cell wh1 0 (.int .i64 ((s.size : Int))) rfl
  have c1_1 := box_cell wh1 1 (.int .i64 0) rfl
  have hsr := Since.refl w0
  have hsd := hsr.drew
  clear hw0
  clear c0_0 c0_1 c1_0 c1_1 hsr hsd
  have HD := Lib.hid hd
  clear hd
  go_enter Tryz.func63, Tryz.ntmps63
  go_wp2_with fail
  rw [← HW.out]
  go_loopw [4] (fun i wr => ∃ n : Nat, i = .int .i64 n ∧ n ≤ s.size ∧ Whole wr w.heap.size 23 #[.int .i64 0, .int .i64 0] ∧ Whole wr (w.heap.size + 1) 23 #[.int .i64 (s.size : Int), .int .i64 (valT (s.toList.take n))] ∧ Since w wr) (fun i _ => s.size - (intOf i).toNat)
  case atStart => exact ⟨0, rfl, Nat.zero_le _, wh0, wh1, hs0⟩
  case round =>
    clear wh0 wh1 hs0
    obtain ⟨n, rfl, hn, wr0, wg, hs⟩ := hrel
    by_cases hlt : n < s.size
    · obtain ⟨c, hc⟩ : ∃ c : Int, ((s[n]'hlt).toNat : Int) = c := ⟨_, rfl⟩
      have hmem : s[n]'hlt ∈ s.toList := by rw [← bytes_get s n hlt]; exact List.getElem_mem _
      have hcd := HD.out _ hmem
      rw [hc] at hcd
      have hi0 : (0 : Int) ≤ n := by omega
      have hi1 : (n : Int) < s.size := by omega
      have hi32 : (n : Int) < 32 := by omega
      have htk := bytes_take s n hlt
      have hdt : digs (s.toList.take n) := fun x hx => HD.out x (List.mem_of_mem_take hx)
      have hvb := valT_bd hdt
      rw [List.length_take, bytes_size, show min n s.size = n by omega] at hvb
      have hp32 := p2_32 (n := n) (by omega)
      obtain ⟨V, hV⟩ : ∃ V, V = valT (s.toList.take n) := ⟨_, rfl⟩
      have hV2 : valT (s.toList.take (n + 1)) = 2 * V + (c - 48) := by rw [htk, valT_snoc, hV, hc]
      rw [← hV] at hvb wg
      obtain ⟨U, hU⟩ : ∃ U, U = V * 2 := ⟨_, rfl⟩
      have eV : IntKind.i64.wrap (V * 2) = U := by rw [IntWalk.i64_in _ (by omega)]; omega
      have eU : IntKind.i64.wrap U = U := IntWalk.i64_in _ (by omega)
      have eU1 : IntKind.i64.wrap (U + 1) = U + 1 := IntWalk.i64_in _ (by omega)
      have EW0 := Lib.hid (show wrap64 U = U from IntWalk.wrap64_in _ ⟨by omega, by omega⟩)
      have EW1 := Lib.hid (show wrap64 (U + 1) = U + 1 from IntWalk.wrap64_in _ ⟨by omega, by omega⟩)
      have cg1 := box_cell wg 0 _ rfl
      have cg2 := box_cell wg 1 _ rfl
      have fg2 := box_free wg 1
      have hsr := Since.refl wr
      have hsd : Since wr wr.drew := hsr.drew
      have hbd : But (w.heap.size + 1) wr wr.drew := hsd.but _
      have HV2 := Lib.hid hV2
      have HU := Lib.hid hU
      clear hmem htk hdt hvb hp32 hV hV2 hU
      rcases (show c = 48 ∨ c = 49 by omega) with rfl | rfl
      all_goals
        clear hcd
        go_wp2_with fail
        obtain ⟨wq, hwq⟩ : ∃ wq, wq = wr.drew := ⟨_, rfl⟩
        refine wp_region_held_drew (S := fun W => But (w.heap.size + 1) wr W) (by kernel_rfl) hbd (fun hHeld => ?_)
        have hq : Since wr wq := by rw [hwq]; exact hsd
        rw [← hwq] at hHeld ⊢
        clear hwq hbd hsd
        refine wpAnyH_take (i := 0) (v := ?_) rfl (by kernel_rfl) (by kernel_rfl) (by kernel_rfl) (fun _ _ _ h => h) (Or.inl ⟨by rfl, ?_⟩) (by assumption) ?_
        rotate_left 1
        · (intro W hW; clear hW; go_simp; try with_reducible rfl)
        simp only [Act.put, List.getElem_toArray, List.getElem_cons_zero, List.setIfInBounds_toArray, List.set_cons_zero, List.set_cons_succ]
        refine wpAnyH_take (i := 3) (v := ?_) rfl (by kernel_rfl) (by kernel_rfl) (by kernel_rfl) (fun _ _ _ h => h) (Or.inl ⟨by rfl, ?_⟩) (by assumption) ?_
        rotate_left 1
        · (intro W hW; clear hW; go_simp; try with_reducible rfl)
        simp only [Act.put, List.getElem_toArray, List.getElem_cons_succ, List.getElem_cons_zero, List.setIfInBounds_toArray, List.set_cons_zero, List.set_cons_succ]
        refine wpAnyH_take (i := 4) (v := ?_) rfl (by kernel_rfl) (by kernel_rfl) (by kernel_rfl) (fun _ _ _ h => h) (Or.inl ⟨by rfl, ?_⟩) (by assumption) ?_
        rotate_left 1
        · (intro W hW; clear hW; go_simp; try with_reducible rfl)
        simp only [Act.put, List.getElem_toArray, List.getElem_cons_succ, List.getElem_cons_zero, List.setIfInBounds_toArray, List.set_cons_zero, List.set_cons_succ]
        refine wpAnyH_take (i := 5) (v := ?_) rfl (by kernel_rfl) (by kernel_rfl) (by kernel_rfl) (fun _ _ _ h => h) (Or.inl ⟨by rfl, ?_⟩) (by assumption) ?_
        rotate_left 1
        · (intro W hW; clear hW; go_simp; try with_reducible rfl)
        simp only [Act.put, List.getElem_toArray, List.getElem_cons_succ, List.getElem_cons_zero, List.setIfInBounds_toArray, List.set_cons_zero, List.set_cons_succ]
        refine wpAnyH_take (i := 6) (v := ?_) rfl (by kernel_rfl) (by kernel_rfl) (by kernel_rfl) (fun _ _ _ h => h) (Or.inl ⟨by rfl, ?_⟩) (by assumption) ?_
        rotate_left 1
        · (intro W hW; clear hW; go_simp; try with_reducible rfl)
        simp only [Act.put, List.getElem_toArray, List.getElem_cons_succ, List.getElem_cons_zero, List.setIfInBounds_toArray, List.set_cons_zero, List.set_cons_succ]
        refine wpAnyH_take (i := 7) (v := ?_) rfl (by kernel_rfl) (by kernel_rfl) (by kernel_rfl) (fun _ _ _ h => h) (Or.inl ⟨by rfl, ?_⟩) (by assumption) ?_
        rotate_left 1
        · (intro W hW; clear hW; go_simp; try with_reducible rfl)
        simp only [Act.put, List.getElem_toArray, List.getElem_cons_succ, List.getElem_cons_zero, List.setIfInBounds_toArray, List.set_cons_zero, List.set_cons_succ]
        refine wpAnyH_ready (rs := [1]) (by kernel_rfl) (by simp) ?_
        refine AllReadyH.cons rfl (fun K hK => ?_) AllReadyH.nil
        go_simp
        skip
        refine hK.out _ _ (hHeld) (fun hHeld => ?_)
        clear hK K
        try simp only [Act.put, List.getElem_toArray, List.getElem_cons_succ, List.getElem_cons_zero, List.setIfInBounds_toArray, List.set_cons_zero, List.set_cons_succ]
        refine wpAnyH_take (i := 2) (v := ?_) rfl (by kernel_rfl) (by kernel_rfl) (by kernel_rfl) (fun _ _ _ h => h) (Or.inl ⟨by rfl, ?_⟩) (by assumption) ?_
        rotate_left 1
        · (intro W hW; clear hW; go_simp; try with_reducible rfl)
        simp only [Act.put, List.getElem_toArray, List.getElem_cons_succ, List.getElem_cons_zero, List.setIfInBounds_toArray, List.set_cons_zero, List.set_cons_succ]
        refine wpAnyH_take (i := 8) (v := ?_) rfl (by kernel_rfl) (by kernel_rfl) (by kernel_rfl) (fun _ _ _ h => h) (Or.inl ⟨by rfl, ?_⟩) (by assumption) ?_
        rotate_left 1
        · (intro W hW; clear hW; go_simp; try with_reducible rfl)
        simp only [Act.put, List.getElem_toArray, List.getElem_cons_succ, List.getElem_cons_zero, List.setIfInBounds_toArray, List.set_cons_zero, List.set_cons_succ]
        refine wpAnyH_take (i := 9) (v := ?_) rfl (by kernel_rfl) (by kernel_rfl) (by kernel_rfl) (fun _ _ _ h => h) (Or.inl ⟨by rfl, ?_⟩) (by assumption) ?_
        rotate_left 1
        · (intro W hW; clear hW; go_simp; try with_reducible rfl)
        simp only [Act.put, List.getElem_toArray, List.getElem_cons_succ, List.getElem_cons_zero, List.setIfInBounds_toArray, List.set_cons_zero, List.set_cons_succ]
        refine wpAnyH_ready (rs := [10]) (by kernel_rfl) (by simp) ?_
        refine AllReadyH.cons rfl (fun K hK => ?_) AllReadyH.nil
        go_simp
        skip
        refine hK.out _ _ (But.set1 hq _ _) (fun hHeld => ?_)
        clear hK K
        try simp only [Act.put, List.getElem_toArray, List.getElem_cons_succ, List.getElem_cons_zero, List.setIfInBounds_toArray, List.set_cons_zero, List.set_cons_succ]
        refine wpAnyH_done (by kernel_rfl) ?_ _
        go_wp2
        go_roundw
        case rel =>
          refine ⟨n + 1, by go_num, by omega, ?_, ?_, ?_⟩
          · exact (Since.whole hq wr0).far (p := ⟨w.heap.size + 1, 1, none⟩) (by simp; try omega) _
          · rw [HV2.out]
            have hu := HU.out
            first
              | (rw [show (2 * V + (48 - 48) : Int) = wrap64 (U + 0) by rw [Int.add_zero]; exact (show (2 * V + (48 - 48) : Int) = U by omega).trans EW0.out.symm]; exact (Since.whole hq wg).set_ 1 _)
              | (rw [show (2 * V + (49 - 48) : Int) = wrap64 (U + 1) from (show (2 * V + (49 - 48) : Int) = U + 1 by omega).trans EW1.out.symm]; exact (Since.whole hq wg).set_ 1 _)
          · exact (hs.trans hq).setCell (p := ⟨w.heap.size + 1, 1, none⟩) (by simp; try omega) _
        case measure => simp [intOf]; omega
    · obtain rfl : n = s.size := by omega
      have htk : s.toList.take s.size = s.toList := by rw [← bytes_size]; exact List.take_length
      rw [htk] at wg
      have t1 := wg.cell 0
      have t2 := wg.cell 1
      have r1 := wr0.frozen 0
      have r2 := wr0.frozen 1
      have r3 := wr0.cell 0
      have r4 := wr0.cell 1
      have w1' := (wr0.set_ 0 (.int .i64 (s.size : Int))).set_ 1 (.int .i64 (valT s.toList))
      have r5 := w1'.cell 0
      have r6 := w1'.cell 1
      clear w1' htk
      go_wp2
      exact bodyPost_ret (v := .agg #[.int .i64 ((s.size : Int)), .int .i64 (valT s.toList)]) (by simp [results, Tryz.results63, go_sem, r5, r6]) rfl ⟨rfl, (hs.setCell (p := ⟨w.heap.size, 0, none⟩) (Nat.le_refl _) _).setCell (p := ⟨w.heap.size, 1, none⟩) (Nat.le_refl _) _⟩
end Go.Proofs.YthfhpejpjiaikaaGreat
namespace Go.Proofs.YthfhpejpjiaikaaGreat
open Go.RowKit
/-- A path's text. -/
def txt (d b : Int) : ByteArray := ⟨(digT d b d.toNat).toArray⟩
theorem txt_list (d b : Int) : (txt d b).toList = digT d b d.toNat := list_arr _
theorem txt_size (d b : Int) : (txt d b).size = d.toNat := by rw [← bytes_size, txt_list, digT_length]
theorem refHalves_at {d b : Int} {s : ByteArray} (h : fine d b = true) (e : txt d b = s) (w : World) : Calls Tryz.prog 64 #[.agg #[.int .i64 d, .int .i64 b]] w fun e w' => e = .returned (.string s) ∧ Below w.heap.size w w' := e ▸ refHalves_any d b w h
theorem digT_take (d b : Int) (k : Nat) : ∀ n : Nat, k ≤ n → (digT d b n).take k = digT d b k
  | 0, h => by obtain rfl : k = 0 := by omega
               rfl
  | n + 1, h => by
    rcases Nat.lt_or_ge n k with h1 | h1
    · obtain rfl : k = n + 1 := by omega
      exact List.take_of_length_le (by rw [digT_length]; omega)
    · rw [digT_succ, List.take_append_of_le_length (by rw [digT_length]; exact h1)]
      exact digT_take d b k n h1
/-- The first halves' text is the first bytes. -/
theorem txt_cut {d b m : Int} (hf : fine d b = true) (h1 : m ≤ d) : (txt d b).extract 0 m.toNat = txt m (pv d b m) := by
  have e1 : ((txt d b).extract 0 m.toNat).toList = (txt m (pv d b m)).toList := by
    rw [txt_list, ByteArray.toList_eq, ByteArray.data_extract]
    simp only [txt, Array.toList_extract, List.extract_eq_take_drop, List.drop_zero, Nat.sub_zero]
    rw [digT_take d b _ _ (by omega)]
    exact digT_same _ fun j hj => (bitI_pv hf (by omega) (by omega) h1).symm
  rw [ByteArray.toList_eq, ByteArray.toList_eq] at e1
  exact ByteArray.ext (Array.toList_inj.1 e1)
end Go.Proofs.YthfhpejpjiaikaaGreat
namespace Go.Proofs.YthfhpejpjiaikaaGreat
open Go.RowKit
theorem refOf_at {s : ByteArray} {D V : Int} (w : World) (hd : digs s.toList) (hl : s.size ≤ 32) (e1 : (s.size : Int) = D) (e2 : valT s.toList = V) : Calls Tryz.prog 63 #[.string s] w fun e w' => e = .returned (.agg #[.int .i64 D, .int .i64 V]) ∧ Below w.heap.size w w' := e1 ▸ e2 ▸ refOf_any s w hd hl
/-- The byte i of a path's text. -/
theorem txt_get {d b : Int} (hf : fine d b = true) (n : Nat) (h : n < (txt d b).size) : (((txt d b)[n]'h).toNat : Int) = 48 + bitI d b n := by
  have hn : n < d.toNat := by rw [txt_size] at h; exact h
  have hb := bit_01 (i := n) hf (by omega) (by omega)
  rw [← bytes_get (txt d b) n h]
  have e1 : (txt d b).toList[n]'(by rw [bytes_size]; exact h) = dig (bitI d b n) := by
    simp only [txt_list, digT, ups, List.getElem_map, List.getElem_range]
  rw [e1]
  exact dig_bit hb.1 hb.2
end Go.Proofs.YthfhpejpjiaikaaGreat
namespace Go.Proofs.YthfhpejpjiaikaaGreat
open Go.RowKit
end Go.Proofs.YthfhpejpjiaikaaGreat
namespace Go.Proofs.YthfhpejpjiaikaaGreat
open Go.RowKit
/-- One half more of a row of cells, out of a path's halves. -/
theorem half_more {z t P W : Int} (hW : W = 2 * P) : (2 * z + t) * P = z * W + t * P := by
  rw [hW, Int.add_mul, ← Int.mul_assoc, Int.mul_comm z 2]
set_option maxRecDepth 100000 in
set_option maxHeartbeats 3200000 in
theorem refCorner_yes (k d b p q r s : Int) (w : World) (h : okP k d b = true) (e : corF (side k) (ups d b (cnt d b)) = (p, q, r, s)) : Calls Tryz.prog 94 #[.int .i64 k, .agg #[.int .i64 d, .int .i64 b]] w fun e w' => e = .returned (.tuple #[.agg #[.int .i64 p, .int .i64 q], .int .i64 r, .int .i64 s]) ∧ Below w.heap.size w w' := by
  have hf := okP_fine h
  obtain ⟨k1, k2, d1, d2, b1, b2⟩ := (okP_iff k d b).1 h
  obtain ⟨n, hn⟩ : ∃ n : Nat, k = (n : Int) := ⟨k.toNat, by omega⟩
  obtain ⟨dn, hdn⟩ : ∃ dn : Nat, d.toNat = dn := ⟨_, rfl⟩
  have hdd : d = (dn : Int) := by omega
  have hside : side k = 2 ^ n := by rw [side_yes ((rgt_iff k).2 ⟨k1, k2⟩), hn]; rfl
  have hn16 : n ≤ 16 := by omega
  have hn1 : 1 ≤ n := by omega
  have hdn2 : dn ≤ 2 * n := by omega
  have hv := corF_val (n := n) (d := d) (b := b) hn1 hn16 hf (by omega) dn (by omega)
  rw [hside, cnt_yes hf, hdn, hv] at e
  obtain ⟨e1, e⟩ := Prod.mk.inj e
  obtain ⟨e2, e⟩ := Prod.mk.inj e
  obtain ⟨e3, e4⟩ := Prod.mk.inj e
  have E1 := Lib.hid e1
  have E2 := Lib.hid e2
  have E3 := Lib.hid e3
  have E4 := Lib.hid e4
  have HS2 := Lib.hid hside
  have HF := Lib.hid hf
  have HD := Lib.hid hdd
  obtain ⟨S, hS⟩ : ∃ S, txt d b = S := ⟨_, rfl⟩
  have zS : (S.size : Int) = dn := by rw [← hS, txt_size, hdn]
  have hgS : ∀ n : Nat, (hn : n < S.size) → ((S[n]'hn).toNat : Int) = 48 + bitI d b n := by rw [← hS]; exact fun n hn => txt_get hf n hn
  have HGS := Lib.hid hgS
  have ZS := Lib.hid zS
  replace hS := Lib.hid hS
  replace h := Lib.hid h
  obtain ⟨w0, hw0⟩ : ∃ w0, w0 = (w.alloc (.cells #[.int .i64 d, .int .i64 b] 23)).alloc (.cells #[.int .i64 0, .int .i64 0] 50) := ⟨_, rfl⟩
  have hs0 : Since w w0 := by rw [hw0]; exact ((Since.refl w).alloc _).alloc _
  have wh0 : Whole w0 (w.heap.size) 23 #[.int .i64 d, .int .i64 b] := by rw [hw0]; exact (Whole.new w _ _).alloc _
  have wh1 : Whole w0 (w.heap.size + 1) 50 #[.int .i64 0, .int .i64 0] := by rw [hw0]; exact (Whole.new (w.alloc _) _ _).at_ (by simp)
  have HW := Lib.hid hw0
  have c0_0 := box_cell wh0 0 (.int .i64 d) rfl
  have c0_1 := box_cell wh0 1 (.int .i64 b) rfl
  have c1_0 := box_cell wh1 0 (.int .i64 0) rfl
  have c1_1 := box_cell wh1 1 (.int .i64 0) rfl
  have hsr := Since.refl w0
  have hsd := hsr.drew
  clear hw0
  have hzx : xs d b 0 * 2 ^ (n - hx 0) = 0 := Int.zero_mul _
  have hzy : ys d b 0 * 2 ^ (n - hy 0) = 0 := Int.zero_mul _
  have ZX := Lib.hid hzx
  have ZY := Lib.hid hzy
  clear e e1 e2 e3 e4 hside hv hgS zS hzx hzy hf hdd hn k1 k2 d1 d2 b1 b2 hdn
  go_enter Tryz.func94, Tryz.ntmps94
  go_wp2_with fail
  rw [← HW.out]
  go_wp2_with (first | (go_at_call 32; (with_reducible refine (Calls.since (by assumption) (refRightP_at h.out _)).mono ?_); rintro e w1 ⟨rfl, hb1⟩) | ((go_at_call 112; (with_reducible refine (Calls.since_same (by assumption) (refSide_at HS2.out _)).mono ?_); rintro e w2 ⟨rfl, hb2⟩); have hsa := hb2.alloc (.cells #[.int .i64 0, .int .i64 0] 50)))
  refine Calls.named (fun w3 hw3 => ?_)
  have wg : Whole w3 w2.heap.size 50 #[.int .i64 0, .int .i64 0] := (Whole.new w2 50 #[.int .i64 0, .int .i64 0]).named hw3
  have hlG := (Since.whole hb2 wh1).lt
  have wr0 : Whole w3 (w.heap.size + 1) 50 #[.int .i64 0, .int .i64 0] := ((Since.whole hb2 wh1).alloc (.cells #[.int .i64 0, .int .i64 0] 50)).named hw3
  have hs : Since w w3 := ((hs0.trans hb2).alloc (.cells #[.int .i64 0, .int .i64 0] 50)).named hw3
  clear hw3 hsa
  refine (refHalves_at HF.out hS.out w3).mono ?_
  rintro e w4 ⟨rfl, hb4⟩
  replace wg := Since.whole hb4 wg
  replace wr0 := Since.whole hb4 wr0
  replace hs := hs.trans hb4
  obtain ⟨G, hG⟩ : ∃ G, G = w2.heap.size := ⟨_, rfl⟩
  rw [← hG] at hlG wg ⊢
  have u0 : w.heap.size + 1 ≠ G := by omega
  clear hG hb4 c0_0 c0_1 c1_0 c1_1 wh0 wh1 hsr hsd hs0
  go_wp2_with fail
  go_loopw [7, 8, 11] (fun wd ht i wr => ∃ m : Nat, i = .int .i64 m ∧ m ≤ dn ∧ wd = .int .i64 (2 ^ (n - hx m)) ∧ ht = .int .i64 (2 ^ (n - hy m)) ∧
      Whole wr G 50 #[.int .i64 (xs d b m * 2 ^ (n - hx m)), .int .i64 (ys d b m * 2 ^ (n - hy m))] ∧ Whole wr (w.heap.size + 1) 50 #[.int .i64 0, .int .i64 0] ∧ Since w wr) (fun _ _ i _ => dn - (intOf i).toNat)
  case atStart => exact ⟨0, rfl, Nat.zero_le _, rfl, rfl, by rw [ZX.out, ZY.out]; exact wg, wr0, hs⟩
  case round =>
    clear wg wr0 hs
    obtain ⟨m, rfl, hm, rfl, rfl, wg, wr0, hs⟩ := hrel
    have hln : (m : Int) ≤ 32 := by omega
    by_cases hlt : m < dn
    · have l1 : m < S.size := by have := ZS.out; omega
      have d1 : decide ((m : Int) < S.size) = true := decide_eq_true (by omega)
      have j1 : (m : Int) < S.size := by omega
      have gs := HGS.out m l1
      have hb := bit01 (i := m) HF.out (by omega) (by have := HD.out; omega)
      have hz := xs_bd HF.out m (by have := HD.out; omega)
      by_cases he : m % 2 = 0
      · have f1 := tmod_even he
        obtain ⟨ex, ey⟩ := hx_even he
        obtain ⟨s1, s2⟩ := xs_e (d := d) (b := b) he
        have hle : hx (m + 1) ≤ n := by unfold hx; omega
        have hE : n - hx m = n - hx (m + 1) + 1 := by rw [ex] at hle ⊢; omega
        have hpe : (2 : Int) ^ (n - hx m) = 2 * 2 ^ (n - hx (m + 1)) := by rw [hE, p2_succ]
        have hp16 := p2_16 (n := n) hn16
        have hpp := p2_pos (n - hx (m + 1))
        have hpb := part_bd (e := n - hx m) (n := n) hz.1 hz.2.1 (by rw [ex] at hle; omega)
        have hmo := half_more (z := xs d b m) (t := bitI d b m) hpe
        rw [← s1] at hmo
        obtain ⟨P, hP⟩ : ∃ P : Int, 2 ^ (n - hx (m + 1)) = P := ⟨_, rfl⟩
        obtain ⟨W, hWW⟩ : ∃ W : Int, 2 ^ (n - hx m) = W := ⟨_, rfl⟩
        rw [hP, hWW] at hmo
        rw [hP] at hpe hpp
        rw [hWW] at hpe hpb
        obtain ⟨X, hX⟩ : ∃ X : Int, xs d b m * W = X := ⟨_, rfl⟩
        obtain ⟨V, hV⟩ : ∃ V : Int, 2 ^ (n - hy m) = V := ⟨_, rfl⟩
        obtain ⟨Y, hY⟩ : ∃ Y : Int, ys d b m * V = Y := ⟨_, rfl⟩
        rw [hWW, hV, hX, hY] at wg
        rw [hX] at hmo hpb
        rw [hWW, hV]
        have u1 : W.tdiv 2 = P := by rw [hpe, Int.tdiv_eq_ediv_of_nonneg (by omega)]; omega
        have u2 : W / 2 = P := by omega
        have u3 : wrap64 P = P := IntWalk.wrap64_in _ ⟨by omega, by omega⟩
        have u4 : wrap64 (X + P) = X + P := IntWalk.wrap64_in _ ⟨by omega, by omega⟩
        have HP := Lib.hid hP
        have HV := Lib.hid hV
        have HY := Lib.hid hY
        have HE := Lib.hid ey
        have SY := Lib.hid s2
        have t1 := wg.cell 0
        have t2 := wg.cell 1
        have f2 := wg.frozen 0
        rcases (show bitI d b m = 0 ∨ bitI d b m = 1 by omega) with hbit | hbit
        · rw [hbit] at gs hmo
          have gs' : ((S[m]'l1).toNat : Int) = 48 := by omega
          have hmo' : xs d b (m + 1) * P = X := by omega
          have SX := Lib.hid hmo'
          clear gs hmo hmo' hbit hb hz ex ey s1 s2 hle hE hpe hp16 hpp hpb hP hWW hX hV hY
          go_wp2_with fail
          go_roundw
          case rel =>
            refine ⟨m + 1, by go_num, by omega, ?_, ?_, ?_, wr0, hs⟩
            · rw [HP.out]; try rw [u3]
            · rw [HE.out, HV.out]
            · rw [HP.out, SX.out, SY.out, HE.out, HV.out, HY.out]
              exact wg
          case measure => simp [intOf]; omega
        · rw [hbit] at gs hmo
          have gs' : ((S[m]'l1).toNat : Int) = 49 := by omega
          have hmo' : xs d b (m + 1) * P = X + P := by omega
          have SX := Lib.hid hmo'
          clear gs hmo hmo' hbit hb hz ex ey s1 s2 hle hE hpe hp16 hpp hpb hP hWW hX hV hY
          go_wp2_with fail
          go_roundw
          case rel =>
            refine ⟨m + 1, by go_num, by omega, ?_, ?_, ?_, wr0.far (p := ⟨G, 0, none⟩) u0 _, hs.setCell (p := ⟨G, 0, none⟩) (by simp; omega) _⟩
            · rw [HP.out]; try rw [u3]
            · rw [HE.out, HV.out]
            · rw [HP.out, SX.out, SY.out, HE.out, HV.out, HY.out]
              first | exact wg.set_ 0 _ | (have := wg.set_ 0 (.int .i64 (wrap64 (X + P))); rw [u4] at this; exact this) | trace_state
          case measure => simp [intOf]; omega
      · have f1 := tmod_odd he
        obtain ⟨ex, ey⟩ := hx_odd he
        obtain ⟨s1, s2⟩ := xs_o (d := d) (b := b) he
        have hle : hy (m + 1) ≤ n := by unfold hy; omega
        have hE : n - hy m = n - hy (m + 1) + 1 := by rw [ey] at hle ⊢; omega
        have hpe : (2 : Int) ^ (n - hy m) = 2 * 2 ^ (n - hy (m + 1)) := by rw [hE, p2_succ]
        have hp16 := p2_16 (n := n) hn16
        have hpp := p2_pos (n - hy (m + 1))
        have hpb := part_bd (e := n - hy m) (n := n) hz.2.2.1 hz.2.2.2 (by rw [ey] at hle; omega)
        have hmo := half_more (z := ys d b m) (t := bitI d b m) hpe
        rw [← s2] at hmo
        obtain ⟨P, hP⟩ : ∃ P : Int, 2 ^ (n - hy (m + 1)) = P := ⟨_, rfl⟩
        obtain ⟨W, hWW⟩ : ∃ W : Int, 2 ^ (n - hy m) = W := ⟨_, rfl⟩
        rw [hP, hWW] at hmo
        rw [hP] at hpe hpp
        rw [hWW] at hpe hpb
        obtain ⟨X, hX⟩ : ∃ X : Int, ys d b m * W = X := ⟨_, rfl⟩
        obtain ⟨V, hV⟩ : ∃ V : Int, 2 ^ (n - hx m) = V := ⟨_, rfl⟩
        obtain ⟨Y, hY⟩ : ∃ Y : Int, xs d b m * V = Y := ⟨_, rfl⟩
        rw [hWW, hV, hX, hY] at wg
        rw [hX] at hmo hpb
        rw [hWW, hV]
        have u1 : W.tdiv 2 = P := by rw [hpe, Int.tdiv_eq_ediv_of_nonneg (by omega)]; omega
        have u2 : W / 2 = P := by omega
        have u3 : wrap64 P = P := IntWalk.wrap64_in _ ⟨by omega, by omega⟩
        have u4 : wrap64 (X + P) = X + P := IntWalk.wrap64_in _ ⟨by omega, by omega⟩
        have HP := Lib.hid hP
        have HV := Lib.hid hV
        have HY := Lib.hid hY
        have HE := Lib.hid ex
        have SY := Lib.hid s1
        have t1 := wg.cell 0
        have t2 := wg.cell 1
        have f2 := wg.frozen 1
        rcases (show bitI d b m = 0 ∨ bitI d b m = 1 by omega) with hbit | hbit
        · rw [hbit] at gs hmo
          have gs' : ((S[m]'l1).toNat : Int) = 48 := by omega
          have hmo' : ys d b (m + 1) * P = X := by omega
          have SX := Lib.hid hmo'
          clear gs hmo hmo' hbit hb hz ex ey s1 s2 hle hE hpe hp16 hpp hpb hP hWW hX hV hY
          go_wp2_with fail
          go_roundw
          case rel =>
            refine ⟨m + 1, by go_num, by omega, ?_, ?_, ?_, wr0, hs⟩
            · rw [HE.out, HV.out]
            · rw [HP.out]; try rw [u3]
            · rw [HP.out, SX.out, SY.out, HE.out, HV.out, HY.out]
              exact wg
          case measure => simp [intOf]; omega
        · rw [hbit] at gs hmo
          have gs' : ((S[m]'l1).toNat : Int) = 49 := by omega
          have hmo' : ys d b (m + 1) * P = X + P := by omega
          have SX := Lib.hid hmo'
          clear gs hmo hmo' hbit hb hz ex ey s1 s2 hle hE hpe hp16 hpp hpb hP hWW hX hV hY
          go_wp2_with fail
          go_roundw
          case rel =>
            refine ⟨m + 1, by go_num, by omega, ?_, ?_, ?_, wr0.far (p := ⟨G, 1, none⟩) u0 _, hs.setCell (p := ⟨G, 1, none⟩) (by simp; omega) _⟩
            · rw [HE.out, HV.out]
            · rw [HP.out]; try rw [u3]
            · rw [HP.out, SX.out, SY.out, HE.out, HV.out, HY.out]
              first | exact wg.set_ 1 _ | (have := wg.set_ 1 (.int .i64 (wrap64 (X + P))); rw [u4] at this; exact this) | trace_state
          case measure => simp [intOf]; omega
    · obtain rfl : m = dn := by omega
      have d1 : decide (m < S.size) = false := decide_eq_false (by have := ZS.out; omega)
      rw [E1.out, E2.out] at wg
      rw [E3.out, E4.out]
      have q1 := wg.cell 0
      have q2 := wg.cell 1
      have r1 := wr0.frozen 0
      have r2 := wr0.frozen 1
      have r3 := wr0.cell 0
      have r4 := wr0.cell 1
      have w1' := (wr0.set_ 0 (.int .i64 p)).set_ 1 (.int .i64 q)
      have r5 := w1'.cell 0
      have r6 := w1'.cell 1
      clear w1'
      go_wp2
      exact bodyPost_ret (v := .tuple #[.agg #[.int .i64 p, .int .i64 q], .int .i64 r, .int .i64 s]) (by simp [results, Tryz.results94, go_sem, r5, r6]) rfl ⟨rfl, (hs.setCell (p := ⟨w.heap.size + 1, 0, none⟩) (by simp) _).setCell (p := ⟨w.heap.size + 1, 1, none⟩) (by simp) _⟩
end Go.Proofs.YthfhpejpjiaikaaGreat
