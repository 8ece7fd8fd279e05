/- What the laws of the paths share: num, knows, Some. -/
import Derived.Test.YtilkifjdonafnaaPCompare
import Derived.Test.YtilkifjdonafnaaPCorner
import Derived.Test.YtilkifjdonafnaaPPrint
import Derived.Test.YtilkifjdonafnaaPAt
import Derived.Test.YtilkifjdonafnaaPParse
import Derived.Test.YtilkifjdonafnaaTArea
namespace Go.Proofs.Ytilkifjdonafnaa
open Go.RowKit
theorem law_num_any (k : Int) (w : World) : Calls Try.prog 22 #[.int .i64 k] w fun e w' => e = .returned (.int .i64 k) ∧ w = w' := by
  go_enter Try.func22, Try.ntmps22
  go_wp2
  go_ret
  exact ⟨rfl, rfl⟩
theorem knows_at (w : World) : Calls Try.prog 18 #[.agg #[.int .i64 2], .agg #[.int .i64 3, .int .i64 1], .int .i64 3] w fun e w' => e = .returned (.tuple #[.agg #[.int .i64 3, .int .i64 5], .int .i64 0]) ∧ Below w.heap.size w w' := by
  have h := at_yes 2 3 1 3 3 w (by decide) rfl (by decide)
  rw [show atV 2 3 1 3 = 5 by decide] at h
  exact h
theorem knows_corner (w : World) : Calls Try.prog 20 #[.agg #[.int .i64 2], .agg #[.int .i64 3, .int .i64 5]] w fun e w' => e = .returned (.tuple #[.agg #[.int .i64 3, .int .i64 0], .int .i64 1, .int .i64 2]) ∧ Below w.heap.size w w' := by
  have h := corner_raw 2 3 5 w (by decide)
  rw [show corF (side 2) (ups 3 5 (cnt 3 5)) = (3, 0, 1, 2) by decide +kernel] at h
  exact h
theorem knows_print (w : World) : Calls Try.prog 31 #[.agg #[.int .i64 3, .int .i64 5]] w fun e w' => e = .returned (.string ⟨#[49, 48, 49]⟩) ∧ Below w.heap.size w w' := by
  have h := print_raw 3 5 w (by decide)
  rw [show ((ups 3 5 (cnt 3 5)).map fun x => dig x.2) = [49, 48, 49] by decide +kernel] at h
  exact h
theorem knows_parse (w : World) : Calls Try.prog 30 #[.string ⟨#[49, 48, 49]⟩] w fun e w' => e = .returned (.tuple #[.agg #[.int .i64 3, .int .i64 5], .bool true]) ∧ Below w.heap.size w w' := by
  have hl : (ByteArray.mk #[49, 48, 49]).toList = [49, 48, 49] := by rw [ByteArray.toList_eq]
  have hd : digs [49, 48, 49] := by
    intro c hc
    simp only [List.mem_cons, List.not_mem_nil, or_false] at hc
    rcases hc with rfl | rfl | rfl <;> decide
  refine (parse_raw ⟨#[49, 48, 49]⟩ w (by rw [hl]; decide) (by decide)).mono ?_
  rintro e w' ⟨h | h, hb⟩
  · obtain ⟨_, _, rfl⟩ := h
    refine ⟨?_, hb⟩
    rw [hl]
    rfl
  · exact absurd ⟨by rw [hl]; exact hd, by decide⟩ h.1
set_option maxRecDepth 100000 in
set_option maxHeartbeats 800000 in
theorem knows_any (w : World) : Calls Try.prog 17 #[] w fun e w' => e = .returned (.bool true) ∧ Below w.heap.size w w' := by
  go_enter Try.func17, Try.ntmps17
  go_wp2_with fail
  refine Calls.named (fun w1 hw => ?_)
  have wt : Whole w1 w.heap.size 31 #[.int .i64 2] := (Whole.new w _ _).named hw
  have hs : Since w w1 := ((Since.refl w).alloc _).named hw
  clear hw
  refine (knows_at w1).mono ?_
  rintro e w2 ⟨rfl, hb⟩
  replace wt := Since.whole hb wt
  replace hs := hs.trans hb
  have ct := wt.cell 0
  have hlt := wt.lt
  clear hb
  go_wp2_with fail
  refine Calls.named (fun w3 hw => ?_)
  have wp : Whole w3 w2.heap.size 23 #[.int .i64 3, .int .i64 5] := (Whole.new w2 _ _).named hw
  replace wt := (wt.alloc (.cells #[.int .i64 3, .int .i64 5] 23)).named hw
  replace hs : Since w w3 := (hs.alloc _).named hw
  obtain ⟨p, hp⟩ : ∃ p, p = w2.heap.size := ⟨_, rfl⟩
  rw [← hp] at wp ⊢
  clear hw hp ct hlt
  refine (knows_corner w3).mono ?_
  rintro e w4 ⟨rfl, hb⟩
  replace wp := Since.whole hb wp
  replace hs := hs.trans hb
  clear hb wt
  go_wp2_with fail
  refine Calls.named (fun w5 hw => ?_)
  have wc : Whole w5 w4.heap.size 29 #[.int .i64 3, .int .i64 0] := (Whole.new w4 _ _).named hw
  replace wp := (wp.alloc (.cells #[.int .i64 3, .int .i64 0] 29)).named hw
  replace hs : Since w w5 := (hs.alloc _).named hw
  obtain ⟨c, hc⟩ : ∃ c, c = w4.heap.size := ⟨_, rfl⟩
  rw [← hc] at wc ⊢
  clear hw hc
  refine (knows_parse w5).mono ?_
  rintro e w6 ⟨rfl, hb⟩
  replace wp := Since.whole hb wp
  replace wc := Since.whole hb wc
  replace hs := hs.trans hb
  clear hb
  go_wp2_with fail
  refine Calls.named (fun w7 hw => ?_)
  have wq : Whole w7 w6.heap.size 23 #[.int .i64 3, .int .i64 5] := (Whole.new w6 _ _).named hw
  replace wp := (wp.alloc (.cells #[.int .i64 3, .int .i64 5] 23)).named hw
  replace wc := (wc.alloc (.cells #[.int .i64 3, .int .i64 5] 23)).named hw
  replace hs : Since w w7 := (hs.alloc _).named hw
  obtain ⟨q, hq⟩ : ∃ q, q = w6.heap.size := ⟨_, rfl⟩
  rw [← hq] at wq ⊢
  clear hw hq
  have p1 := wp.cell 0
  have p2 := wp.cell 1
  have c1 := wc.cell 0
  have c2 := wc.cell 1
  have q1 := wq.cell 0
  have q2 := wq.cell 1
  refine (law_num_any _ _).mono ?_
  rintro e w8 ⟨rfl, rfl⟩
  go_wp2_with (go_at_call 31; (with_reducible refine (knows_print _).mono ?_); rintro e w9 ⟨rfl, hb9⟩)
  go_ret
  exact ⟨rfl, hs.trans hb9⟩
/-- A path of any numbers, of k: how deep, which bits. -/
def smD (k d : Int) : Int := d % (2 * k + 1)
def smB (k d b : Int) : Int := b % 2 ^ (smD k d).toNat
theorem some_fine (k d b : Int) (h : 0 ≤ k ∧ k ≤ 16) : fine (smD k d) (smB k d b) = true := by
  have h1 := Int.emod_nonneg d (show 2 * k + 1 ≠ 0 by omega)
  have h2 := Int.emod_lt_of_pos d (show 0 < 2 * k + 1 by omega)
  have h3 := p2_pos (smD k d).toNat
  exact (fine_iff _ _).2 ⟨h1, by unfold smD; omega, Int.emod_nonneg _ (by omega), Int.emod_lt_of_pos _ h3⟩
theorem some_ok (k d b : Int) (h : 1 ≤ k ∧ k ≤ 16) : okP k (smD k d) (smB k d b) = true := by
  obtain ⟨h1, h2, h3, h4⟩ := (fine_iff _ _).1 (some_fine k d b (by omega))
  have h5 := Int.emod_lt_of_pos d (show 0 < 2 * k + 1 by omega)
  exact (okP_iff _ _ _).2 ⟨h.1, h.2, h1, by unfold smD; omega, h3, h4⟩
theorem tmod_emod (k m : Int) : k.tmod m % m = k % m := by
  have h4 := Int.tmod_add_mul_tdiv k m
  have h5 : k % m = (k.tmod m + m * k.tdiv m) % m := by rw [h4]
  rw [h5, Int.add_mul_emod_self_left]
theorem tmod_bd (k m : Int) (hm : 0 < m) : -m < k.tmod m ∧ k.tmod m < m := ⟨Int.lt_tmod_of_pos k hm, Int.tmod_lt_of_pos k hm⟩
theorem tmod_pos (x m : Int) (hm : 0 < m) : (x.tmod m + m).tmod m = x % m := by
  have h := tmod_bd x m hm
  rw [Int.tmod_eq_emod_of_nonneg (by omega), Int.add_emod_right, tmod_emod]
end Go.Proofs.Ytilkifjdonafnaa
