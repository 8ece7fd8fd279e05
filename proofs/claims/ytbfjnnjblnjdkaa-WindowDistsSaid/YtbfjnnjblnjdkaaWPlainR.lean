/- gleberef04.Plain: a window's plain rectangles. -/
import Derived.Test.YtbfjnnjblnjdkaaWRow
import Derived.Test.YtbfjnnjblnjdkaaWRefM
namespace Go.Proofs.Ytbfjnnjblnjdkaa
open Go.RowKit
theorem infoR4 : (Try.prog.info? 23).map (fun i => (i.zero, i.size, i.bytes)) = some (some (.agg #[.int .i64 0, .int .i64 0, .int .i64 0, .int .i64 0]), 4, 32) := by kernel_rfl
theorem take_filter (l : List Rc) (p : Rc → Bool) (m : Nat) (h : m < l.length) : (l.take (m + 1)).filter p = (l.take m).filter p ++ (if p l[m] = true then [l[m]] else []) := by
  rw [List.take_succ_eq_append_getElem h, List.filter_append]
  congr 1
  cases e : p l[m] with
  | true => rw [List.filter_cons_of_pos e]; simp
  | false => rw [List.filter_cons_of_neg (by rw [e]; exact Bool.false_ne_true)]; simp
set_option maxRecDepth 100000 in
set_option maxHeartbeats 3200000 in
theorem wrPlain_yes (k a b c d : Int) (w : World) (h : winR k ⟨a, b, c, d⟩ = true) : Calls Try.prog 9 #[.int .i64 k, .agg #[.int .i64 a, .int .i64 b, .int .i64 c, .int .i64 d]] w fun e w' => ∃ v, e = .returned (.tuple #[v, .int .i64 0]) ∧ RowR w' w.heap.size 23 v (plainR k ⟨a, b, c, d⟩) ∧ Below w.heap.size w w' := by
  obtain ⟨i0, hi, hz0, hz1, hz2⟩ := info_parts infoR4
  have hw := (winR_iff _ _).1 h
  have hsd := side_bd k
  obtain ⟨S, hS⟩ : ∃ S, side k = S := ⟨_, rfl⟩
  have HP := Lib.hid (plainR_yes h)
  rw [hS] at hw hsd
  dsimp only at hw
  have e1 : wrap64 (S - a) = S - a := IntWalk.wrap64_in _ ⟨by omega, by omega⟩
  have e2 : wrap64 (S - b) = S - b := IntWalk.wrap64_in _ ⟨by omega, by omega⟩
  have m1 := min_ite c (S - a)
  have m2 := min_ite d (S - b)
  have hL : partsR k ⟨a, b, c, d⟩ = [⟨a, b, min c (S - a), min d (S - b)⟩, ⟨a, 0, min c (S - a), d - min d (S - b)⟩, ⟨0, b, c - min c (S - a), min d (S - b)⟩, ⟨0, 0, c - min c (S - a), d - min d (S - b)⟩] := by unfold partsR; rw [hS]
  have x1 : 0 ≤ min c (S - a) ∧ min c (S - a) ≤ c := by omega
  have x2 : 0 ≤ min d (S - b) ∧ min d (S - b) ≤ d := by omega
  obtain ⟨A, hA⟩ : ∃ A, min c (S - a) = A := ⟨_, rfl⟩
  obtain ⟨B, hB⟩ : ∃ B, min d (S - b) = B := ⟨_, rfl⟩
  rw [hA] at m1 x1
  rw [hB] at m2 x2
  rw [hA, hB] at hL
  have e3 : wrap64 (c - A) = c - A := IntWalk.wrap64_in _ ⟨by omega, by omega⟩
  have e4 : wrap64 (d - B) = d - B := IntWalk.wrap64_in _ ⟨by omega, by omega⟩
  obtain ⟨C, hC⟩ : ∃ C, c - A = C := ⟨_, rfl⟩
  obtain ⟨D, hD⟩ : ∃ D, d - B = D := ⟨_, rfl⟩
  rw [hC] at e3 hL
  rw [hD] at e4 hL
  have HS := Lib.hid hS
  have HL := Lib.hid hL
  replace h := Lib.hid h
  clear hw hsd hS x1 x2 hA hB hL
  obtain ⟨w0, hw0⟩ : ∃ w0, w0 = w.alloc (.cells #[.int .i64 a, .int .i64 b, .int .i64 c, .int .i64 d] 23) := ⟨_, rfl⟩
  have hs0 : Since w w0 := by rw [hw0]; exact (Since.refl w).alloc _
  have wh0 : Whole w0 (w.heap.size) 23 #[.int .i64 a, .int .i64 b, .int .i64 c, .int .i64 d] := by rw [hw0]; exact Whole.new w _ _
  have HW := Lib.hid hw0
  have c0_0 := box_cell wh0 0 (.int .i64 a) rfl
  have c0_1 := box_cell wh0 1 (.int .i64 b) rfl
  have c0_2 := box_cell wh0 2 (.int .i64 c) rfl
  have c0_3 := box_cell wh0 3 (.int .i64 d) rfl
  have hsr := Since.refl w0
  have hsd := hsr.drew
  clear hw0 wh0
  go_enter Try.func9, Try.ntmps9
  go_wp2_with fail
  rw [← HW.out]
  go_wp2_with (first | (go_at_call 33; (with_reducible refine (Calls.since (by assumption) (wrWin_at h.out _)).mono ?_); rintro e w1 ⟨rfl, hb1⟩) | (go_at_call 34; (with_reducible refine (Calls.since_same (by assumption) (refSide_at HS.out _)).mono ?_); rintro e w2 ⟨rfl, hb2⟩))
  have hsN : Since w (w2.alloc (.cells #[.int .i64 a, .int .i64 b, .int .i64 A, .int .i64 B, .int .i64 a, .int .i64 0, .int .i64 A, .int .i64 D, .int .i64 0, .int .i64 b, .int .i64 C, .int .i64 B, .int .i64 0, .int .i64 0, .int .i64 C, .int .i64 D] 23)) := (hs0.trans hb2).alloc _
  have wg0 := Whole.new w2 23 #[.int .i64 a, .int .i64 b, .int .i64 A, .int .i64 B, .int .i64 a, .int .i64 0, .int .i64 A, .int .i64 D, .int .i64 0, .int .i64 b, .int .i64 C, .int .i64 B, .int .i64 0, .int .i64 0, .int .i64 C, .int .i64 D]
  obtain ⟨G, hG⟩ : ∃ G, G = w2.heap.size := ⟨_, rfl⟩
  have hGw : w.heap.size ≤ G := by have := (hs0.trans hb2).size; omega
  obtain ⟨L, hLL⟩ : ∃ L : List Rc, L = [⟨a, b, A, B⟩, ⟨a, 0, A, D⟩, ⟨0, b, C, B⟩, ⟨0, 0, C, D⟩] := ⟨_, rfl⟩
  have hlen : L.length = 4 := by rw [hLL]; rfl
  have wg : Whole (w2.alloc (.cells #[.int .i64 a, .int .i64 b, .int .i64 A, .int .i64 B, .int .i64 a, .int .i64 0, .int .i64 A, .int .i64 D, .int .i64 0, .int .i64 b, .int .i64 C, .int .i64 B, .int .i64 0, .int .i64 0, .int .i64 C, .int .i64 D] 23)) G 23 (L.flatMap encR).toArray := by
    rw [hLL, hG]; exact wg0
  rw [← hG]
  replace HL := Lib.hid (show plainR k ⟨a, b, c, d⟩ = L.filter neR by rw [HP.out, HL.out, hLL])
  clear wg0 hLL hG c0_0 c0_1 c0_2 c0_3 hsr hsd HP e1 e2 e3 e4 m1 m2 hC hD
  go_loopw [10, 11] (fun out i wr => ∃ m : Nat, i = .int .i64 m ∧ m ≤ 4 ∧ RowR wr (G + 1) 23 out ((L.take m).filter neR) ∧ Whole wr G 23 (L.flatMap encR).toArray ∧ Since w wr) (fun _ i _ => 4 - (intOf i).toNat)
  case atStart => exact ⟨0, rfl, Nat.zero_le _, RowE.nil _ _ _, wg, hsN⟩
  case round =>
    clear hsN wg hb1 hb2
    obtain ⟨m, rfl, hm, hrow, wg, hs⟩ := hrel
    have hlg := wg.lt
    by_cases hlt : m < 4
    · have hml : m < L.length := by omega
      obtain ⟨g1, g2, g3, g4⟩ := flatR_get L m hml
      have t1 := wg.cell (m * 4)
      have t2 := wg.cell (m * 4 + 1)
      have t3 := wg.cell (m * 4 + 2)
      have t4 := wg.cell (m * 4 + 3)
      rw [List.getElem?_toArray, g1] at t1
      rw [List.getElem?_toArray, g2] at t2
      rw [List.getElem?_toArray, g3] at t3
      rw [List.getElem?_toArray, g4] at t4
      have htk := take_filter L neR m hml
      have hne := neR_iff L[m]
      have hll : ((L.take m).filter neR).length ≤ 4 := by
        have := List.length_filter_le neR (L.take m)
        have := List.length_take_le m L
        omega
      obtain ⟨⟨x, y, u, z⟩, hr⟩ : ∃ r, L[m] = r := ⟨_, rfl⟩
      rw [hr] at t1 t2 t3 t4 htk hne
      dsimp only at t1 t2 t3 t4 hne
      obtain ⟨l, hl⟩ : ∃ l, (L.take m).filter neR = l := ⟨_, rfl⟩
      rw [hl] at hrow hll htk
      have HT := Lib.hid htk
      have hGs : w.heap.size ≤ G + 1 := by omega
      clear htk hl hr g1 g2 g3 g4
      by_cases p1 : 0 < u
      · by_cases p2 : 0 < z
        · rw [hne.2 ⟨p1, p2⟩, if_pos rfl] at HT
          clear hne
          go_wp2_with (at_builtin; refine wpList_append_e rfl _ _ 36 rfl (G + 1) 23 _ 32 Try.underlying36 infoR4 rfl (by decide) hrow ⟨x, y, u, z⟩ rfl rfl (by simp [encR, Value.oneCell']) rfl rfl (by omega) (by decide) hs hGs (by omega) ?_; intro v' w1 hrow2 hs2 hk)
          go_roundw
          case rel => exact ⟨m + 1, by go_num, by omega, by rw [HT.out]; exact hrow2, wg.below hk (by omega), hs2⟩
          case measure => simp [intOf]; omega
        · have hn : neR ⟨x, y, u, z⟩ = false := Bool.eq_false_iff.2 fun e => p2 (hne.1 e).2
          rw [hn, if_neg Bool.false_ne_true, List.append_nil] at HT
          clear hne hn
          go_wp2_with fail
          go_roundw
          case rel => exact ⟨m + 1, by go_num, by omega, by rw [HT.out]; exact hrow, wg, hs⟩
          case measure => simp [intOf]; omega
      · have hn : neR ⟨x, y, u, z⟩ = false := Bool.eq_false_iff.2 fun e => p1 (hne.1 e).1
        rw [hn, if_neg Bool.false_ne_true, List.append_nil] at HT
        clear hne hn
        go_wp2_with fail
        go_roundw
        case rel => exact ⟨m + 1, by go_num, by omega, by rw [HT.out]; exact hrow, wg, hs⟩
        case measure => simp [intOf]; omega
    · obtain rfl : m = 4 := by omega
      rw [List.take_of_length_le (by omega), ← HL.out] at hrow
      go_wp2_with fail
      go_ret2
      exact ⟨_, rfl, hrow.mono (by omega), hs⟩
end Go.Proofs.Ytbfjnnjblnjdkaa
