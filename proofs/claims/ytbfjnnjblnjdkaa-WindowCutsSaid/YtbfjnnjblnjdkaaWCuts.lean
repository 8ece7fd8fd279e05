/- The walk of the law WindowCuts, by premises on the program. -/
import Derived.Test.YtbfjnnjblnjdkaaWKnows
namespace Go.Proofs.Ytbfjnnjblnjdkaa
open Go.RowKit
theorem Calls.sinceE {α : Type} {P : Program} {f : Nat} {args : Array Value} {w0 W : World} {F : α → Ending → Prop} {G : α → World → Prop} (hS : Since w0 W)
    (c : Calls P f args W fun e w' => ∃ v, F v e ∧ G v w' ∧ Below W.heap.size W w') : Calls P f args W fun e w' => ∃ v, F v e ∧ G v w' ∧ Since w0 w' :=
  c.mono fun _ _ ⟨v, h1, h2, h3⟩ => ⟨v, h1, h2, hS.trans h3⟩
theorem same_at {B B' : Nat} {v v' : Value} {l : List Rc} (w : World) (h1 : ListR B w v l) (h2 : ListR B' w v' l) (hB : B ≤ w.heap.size) (hB' : B' ≤ w.heap.size) (hl : l.length ≤ 1000) : Calls Try.prog 10 #[v, v'] w fun e w' => e = .returned (.bool true) ∧ Below w.heap.size w w' :=
  same_any w (h1.mono hB) (h2.mono hB') (Nat.le_refl _) hl
set_option maxRecDepth 100000 in
set_option maxHeartbeats 6400000 in
theorem cuts_walk (hP : PlainC) (hC : CutC) (hV : CoversC) (hD : DistC) (k a b c d e f x y : Int) (ha : a ≤ 9223372036854775807) (hb0 : b ≤ 9223372036854775807) (w : World) : Calls Try.prog 3 #[.int .i64 k, .agg #[.int .i64 a, .int .i64 b, .int .i64 c, .int .i64 d], .agg #[.int .i64 e, .int .i64 f], .agg #[.int .i64 x, .int .i64 y]] w fun z w' => z = .returned (.bool true) ∧ Below w.heap.size w w' := by
  have hlp : (plainR k ⟨a, b, c, d⟩).length ≤ 1000 := Nat.le_trans plain_len (by decide)
  have hlc : (cutR k ⟨a, b, c, d⟩ e f).length ≤ 1000 := Nat.le_trans (cut_len _ _ _ _) (by decide)
  have hk := fun W => knows4 hP hD W
  have hp := hP k a b c d
  have hq := wrPlain_any k a b c d
  have hv := hV k a b c d e f
  have hc := hC k a b c d e f
  have hu := wrCovers_any k a b c d e f
  have hd := hD k a b c d x y ha hb0
  have ht := wrDist_any k a b c d x y
  obtain ⟨E, hE⟩ : ∃ E, plE k ⟨a, b, c, d⟩ = E := ⟨_, rfl⟩
  obtain ⟨V, hVV⟩ : ∃ V, covR k ⟨a, b, c, d⟩ e f = V := ⟨_, rfl⟩
  obtain ⟨D, hDD⟩ : ∃ D, distR k ⟨a, b, c, d⟩ x y = D := ⟨_, rfl⟩
  rw [hE] at hp hq
  rw [hVV] at hv hu
  rw [hDD] at hd ht
  clear hE hVV hDD hV hD hP hC ha hb0
  obtain ⟨w0, hw0⟩ : ∃ w0, w0 = (((w.alloc (.cells #[.int .i64 a, .int .i64 b, .int .i64 c, .int .i64 d] 23)).alloc (.cells #[.int .i64 e, .int .i64 f] 25)).alloc (.cells #[.int .i64 x, .int .i64 y] 27)).alloc (.cells #[.int .i64 k] 29) := ⟨_, rfl⟩
  have hs0 : Since w w0 := by rw [hw0]; exact ((((Since.refl w).alloc _).alloc _).alloc _).alloc _
  have wh0 : Whole w0 (w.heap.size) 23 #[.int .i64 a, .int .i64 b, .int .i64 c, .int .i64 d] := by rw [hw0]; exact (((Whole.new w _ _).alloc _).alloc _).alloc _
  have wh1 : Whole w0 (w.heap.size + 1) 25 #[.int .i64 e, .int .i64 f] := by rw [hw0]; exact (((Whole.new (w.alloc _) _ _).alloc _).alloc _).at_ (by simp)
  have wh2 : Whole w0 (w.heap.size + 1 + 1) 27 #[.int .i64 x, .int .i64 y] := by rw [hw0]; exact ((Whole.new ((w.alloc _).alloc _) _ _).alloc _).at_ (by simp)
  have wh3 : Whole w0 (w.heap.size + 1 + 1 + 1) 29 #[.int .i64 k] := by rw [hw0]; exact (Whole.new (((w.alloc _).alloc _).alloc _) _ _).at_ (by simp)
  have HW := Lib.hid hw0
  have c0_0 := box_cell wh0 0 (.int .i64 a) rfl
  have c0_1 := box_cell wh0 1 (.int .i64 b) rfl
  have c0_2 := box_cell wh0 2 (.int .i64 c) rfl
  have c0_3 := box_cell wh0 3 (.int .i64 d) rfl
  have c1_0 := box_cell wh1 0 (.int .i64 e) rfl
  have c1_1 := box_cell wh1 1 (.int .i64 f) rfl
  have c2_0 := box_cell wh2 0 (.int .i64 x) rfl
  have c2_1 := box_cell wh2 1 (.int .i64 y) rfl
  have c3_0 := box_cell wh3 0 (.int .i64 k) rfl
  have hsr := Since.refl w0
  have hsd := hsr.drew
  clear hw0 wh0 wh1 wh2 wh3
  go_enter Try.func3, Try.ntmps3
  go_wp2_with fail
  rw [← HW.out]
  go_region_held3 (fun W => Since w0 W) (first | assumption | exact Since.drew (by assumption)) ((first | (go_at_call 8; (with_reducible refine (Calls.since (by assumption) (own_any _ _ _ _ _)).mono ?_); rintro e w4 ⟨rfl, hb4⟩) | (go_at_call 7; (with_reducible refine (hp _).mono ?_); rintro z w5 ⟨v1, rfl, hrow1, hb5⟩; have hS5 : Since w0 w5 := Since.trans (by assumption) hb5)))
  have hls1 := hrow1.list encR_len
  go_wp2_with fail
  refine Calls.named (fun w6 hw => ?_)
  have hs6 : Since w5 w6 := (Since.refl w5).named hw
  clear hw
  refine (hq w6).mono ?_
  rintro z w3 ⟨v2, rfl, hrow2, hb3⟩
  have hls2 := hrow2.list encR_len
  have hS53 := hs6.trans hb3
  replace hls1 := hls1.since hS53 (Nat.le_refl _)
  have hB1 := Since.size_ hS53
  have hB2 : w3.heap.size ≤ w3.heap.size := Nat.le_refl _
  have hs3 := hS5.trans hS53
  have c00 := fun W (hW : Since w3 W) => c0_0 W (hs3.trans hW)
  have c01 := fun W (hW : Since w3 W) => c0_1 W (hs3.trans hW)
  have c02 := fun W (hW : Since w3 W) => c0_2 W (hs3.trans hW)
  have c03 := fun W (hW : Since w3 W) => c0_3 W (hs3.trans hW)
  have c10 := fun W (hW : Since w3 W) => c1_0 W (hs3.trans hW)
  have c11 := fun W (hW : Since w3 W) => c1_1 W (hs3.trans hW)
  have c20 := fun W (hW : Since w3 W) => c2_0 W (hs3.trans hW)
  have c21 := fun W (hW : Since w3 W) => c2_1 W (hs3.trans hW)
  have c30 := fun W (hW : Since w3 W) => c3_0 W (hs3.trans hW)
  have hsw := hs0.trans hs3
  have hsr3 := Since.refl w3
  have hsd3 := hsr3.drew
  clear c0_0 c0_1 c0_2 c0_3 c1_0 c1_1 c2_0 c2_1 c3_0 hs3 hS53 hs6 hb3 hrow1 hrow2 hb5 hS5 hb4 hsr hsd hp hq
  go_wp2_with fail
  go_region_held3 (fun W => Since w3 W) (first | assumption | exact Since.drew (by assumption)) ((first | (go_at_call 10; (with_reducible refine (Calls.since (by assumption) (same_at _ (hls1.since (by assumption) hB1) (hls2.since (by assumption) hB2) (Nat.le_trans hB1 (Since.size_ (by assumption))) (Nat.le_trans hB2 (Since.size_ (by assumption))) hlp)).mono ?_); rintro e w8 ⟨rfl, hb8⟩) | (go_at_call 11; (with_reducible refine (Calls.since_same (by assumption) (law4_num _ _)).mono ?_); rintro e w9 ⟨rfl, hb9⟩) | (go_at_call 8; (with_reducible refine (Calls.since (by assumption) (own_any _ _ _ _ _)).mono ?_); rintro e w4 ⟨rfl, hb4⟩) | (go_at_call 12; (with_reducible refine (hc _).mono ?_); rintro z w10 ⟨v3, rfl, hrow3, hb10⟩; have hS10 : Since w3 w10 := Since.trans (by assumption) hb10; have hls3 := hrow3.list encR_len) | (go_at_call 13; (with_reducible refine (wrCut_any k a b c d e f _).mono ?_); rintro z w11 ⟨v4, rfl, hrow4, hb11⟩; have hS11 : Since w3 w11 := Since.trans (by assumption) hb11; have hls4 := hrow4.list encR_len; have hls3' := hls3.since hb11 (Nat.le_refl _); have hB3 := Since.size_ hb11) | (go_at_call 10; (with_reducible refine (Calls.since (by assumption) (same_at _ hls3' hls4 hB3 (Nat.le_refl _) hlc)).mono ?_); rintro e w12 ⟨rfl, hb12⟩) | (go_at_call 14; (with_reducible refine (Calls.since (by assumption) (hv _)).mono ?_); rintro e w13 ⟨rfl, hb13⟩) | (go_at_call 15; (with_reducible refine (Calls.since (by assumption) (hu _)).mono ?_); rintro e w14 ⟨rfl, hb14⟩) | (go_at_call 16; (with_reducible refine (Calls.since (by assumption) (hd _)).mono ?_); rintro e w15 ⟨rfl, hb15⟩) | (go_at_call 17; (with_reducible refine (Calls.since (by assumption) (ht _)).mono ?_); rintro e w16 ⟨rfl, hb16⟩) | (go_at_call 18; (with_reducible refine (Calls.since (by assumption) (hk _)).mono ?_); rintro e w17 ⟨rfl, hb17⟩)))
  go_wp2
  go_ret
  exact ⟨rfl, hsw.trans (by assumption)⟩
end Go.Proofs.Ytbfjnnjblnjdkaa
