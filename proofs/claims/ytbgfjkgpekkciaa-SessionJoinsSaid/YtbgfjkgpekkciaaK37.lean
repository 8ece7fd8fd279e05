/- The walk of the law SessionJoins. -/
import Derived.Test.YtbgfjkgpekkciaaK29
import Derived.Test.YtbgfjkgpekkciaaK36
namespace Go.Proofs.Ytbgfjkgpekkciaa
open Go.RowKit
set_option linter.unusedVariables false
set_option linter.unusedSimpArgs false
theorem later_assoc (a b c : SR) : later (later a b) c = later a (later b c) := by
  unfold later
  by_cases h1 : a.seq < b.seq <;> by_cases h2 : b.seq < c.seq <;> by_cases h3 : a.seq < c.seq <;> simp [h1, h2, h3] <;> omega
theorem later_self (a : SR) : later a a = a := by unfold later; rw [if_neg (by omega)]
theorem joinT_assoc : ∀ (L M N : STab), joinT (joinT L M) N = joinT L (joinT M N)
  | [], _, _ => rfl
  | _ :: _, [], _ => rfl
  | _ :: _, _ :: _, [] => rfl
  | a :: L, b :: M, c :: N => by
    have ih := joinT_assoc L M N
    unfold joinT at ih ⊢
    simp only [List.zipWith_cons_cons, later_assoc, ih]
theorem joinT_self : ∀ (L : STab), joinT L L = L
  | [] => rfl
  | a :: L => by
    have ih := joinT_self L
    unfold joinT at ih ⊢
    simp only [List.zipWith_cons_cons, later_self, ih]
theorem last_join {L M : STab} (h : L.length = 8) (h' : M.length = 8) {i : Int} (h0 : 0 ≤ i) (h1 : i < 8) : lastT (joinT L M) i = later (lastT L i) (lastT M i) := by
  unfold lastT
  rw [(cliB_iff i).2 ⟨h0, h1⟩, if_pos rfl, if_pos rfl, if_pos rfl]
  have a := rowT_get h h0 h1
  have b := rowT_get h' h0 h1
  have c := rowT_get (len_join h h') h0 h1
  unfold joinT at c ⊢
  rw [List.getElem?_zipWith, a, b] at c
  exact (Option.some.inj c).symm
theorem max3_at {y z v x : Int} (h : (if v > (if z > y then z else y) then v else if z > y then z else y) = x) (W : World) : (Builtin.max_ #[3, 3, 3] 3 #[.int .i64 y, .int .i64 z, .int .i64 v]).run Try.prog W = .ok (.int .i64 x) W := by
  rw [← h]
  simp [Builtin.max_, Builtin.max2]
set_option maxHeartbeats 6400000 in
set_option maxRecDepth 100000 in
theorem joins9_light {B : Nat} {vl vm vo : Value} {A C D : List SC} (w : World) (hA : LentE encSC 6 B w vl A) (hC : LentE encSC 6 B w vm C) (hD : LentE encSC 6 B w vo D) (hB : B ≤ w.heap.size) (ha : lightB A = true) (hc : lightB C = true) (hd : lightB D = true) :
    Calls Try.prog 5 #[vl, vm, vo] w fun e w' => e = .returned (.bool true) ∧ Below w.heap.size w w' := by
  have L1 := Lib.hid (light_any hA ha)
  have L2 := Lib.hid (light_any hC hc)
  have L3 := Lib.hid (light_any hD hd)
  have n1 := light9_len ha
  have n2 := light9_len hc
  have n3 := light9_len hd
  obtain ⟨L, hL⟩ : ∃ L, playT A = L := ⟨_, rfl⟩
  obtain ⟨M, hM⟩ : ∃ M, playT C = M := ⟨_, rfl⟩
  obtain ⟨N, hN⟩ : ∃ N, playT D = N := ⟨_, rfl⟩
  have l8 : L.length = 8 := hL ▸ (playT_ok A).1
  have m8 : M.length = 8 := hM ▸ (playT_ok C).1
  have o8 : N.length = 8 := hN ▸ (playT_ok D).1
  have HL := Lib.hid hL
  have HM := Lib.hid hM
  have HN := Lib.hid hN
  clear ha hc hd hL hM hN
  go_enter Try.func5, Try.ntmps5
  go_wp2_with (first
    | (go_at_call 18; (with_reducible refine L1.out.mono ?_); rintro e w' ⟨rfl, rfl⟩)
    | (go_at_call 18; (with_reducible refine L2.out.mono ?_); rintro e w' ⟨rfl, rfl⟩)
    | (go_at_call 18; (with_reducible refine L3.out.mono ?_); rintro e w' ⟨rfl, rfl⟩))
  refine (both_any hA hB (by omega) HL.out).mono ?_
  rintro e w1 ⟨g1, q1, rfl, ⟨hg1, hq1⟩, hP1, hD1, hs1⟩
  go_wp2_with fail
  refine (both_any (hC.since hs1 hB) (Nat.le_trans hB hs1.size_) (by omega) HM.out).mono ?_
  rintro e w2 ⟨g2, q2, rfl, ⟨hg2, hq2⟩, hP2, hD2, hs2⟩
  have hS2 : Since w w2 := hs1.trans hs2
  go_wp2_with fail
  refine (both_any (hD.since hS2 hB) (Nat.le_trans hB hS2.size_) (by omega) HN.out).mono ?_
  rintro e w3 ⟨g3, q3, rfl, ⟨hg3, hq3⟩, hP3, hD3, hs3⟩
  have hS3 : Since w w3 := hS2.trans hs3
  have hT := (hP1.since hs2).since hs3
  have hU := hP2.since hs3
  clear hD1 hD2 hD3 L1 L2 L3 HL HM HN hP1 hP2 hA hC hD
  go_wp2_with fail
  refine (tjoin_any hT hU).mono ?_
  rintro e w4 ⟨rfl, hJ1, hs4⟩
  go_wp2_with fail
  refine (tjoin_any hJ1 (hP3.since hs4)).mono ?_
  rintro e w5 ⟨rfl, hJa, hs5⟩
  have hs35 := hs4.trans hs5
  obtain ⟨ja, hja⟩ : ∃ x, x = w4.heap.size := ⟨_, rfl⟩
  rw [← hja] at hJa ⊢
  clear hja
  go_wp2_with fail
  refine (tjoin_any (hU.since hs35) (hP3.since hs35)).mono ?_
  rintro e w6 ⟨rfl, hJ2, hs6⟩
  go_wp2_with fail
  refine (tjoin_any ((hT.since hs35).since hs6) hJ2).mono ?_
  rintro e w7 ⟨rfl, hJb, hs7⟩
  have hs57 := hs6.trans hs7
  obtain ⟨jb, hjb⟩ : ∃ x, x = w6.heap.size := ⟨_, rfl⟩
  rw [← hjb] at hJb ⊢
  clear hjb
  go_wp2_with fail
  refine (tsame_any (b := true) (hJa.since hs57) hJb (by simp [joinT_assoc])).mono ?_
  rintro e w8 ⟨rfl, hs8⟩
  have hs38 := (hs35.trans hs57).trans hs8
  go_wp2_with fail
  refine (tjoin_any (hT.since hs38) (hT.since hs38)).mono ?_
  rintro e w9 ⟨rfl, hJs, hs9⟩
  go_wp2_with fail
  refine (tsame_any (b := true) hJs ((hT.since hs38).since hs9) (by simp [joinT_self])).mono ?_
  rintro e w10 ⟨rfl, hs10⟩
  go_wp2_with fail
  refine (knows9_any _).mono ?_
  rintro e w11 ⟨rfl, hs11⟩
  have hs811 := (hs9.trans hs10).trans hs11
  have hs311 := hs38.trans hs811
  have kA := hJa.since (hs57.trans (hs8.trans hs811))
  have kT := hT.since hs311
  have kU := hU.since hs311
  have kV := hP3.since hs311
  have kS := hS3.trans hs311
  clear hJ1 hJ2 hJa hJb hJs hT hU hP3 hs1 hs2 hs3 hs4 hs5 hs6 hs7 hs8 hs9 hs10 hs11 hs35 hs57 hs38 hs811 hs311 hS2 hS3
  go_wp2
  go_loopw [15] (fun i wr => ∃ k : Nat, i = .int .i64 (k : Int) ∧ k ≤ 8 ∧ Since w11 wr) (fun i _ => 8 - (intOf i).toNat)
  case atStart => exact ⟨0, rfl, Nat.zero_le _, Since.refl _⟩
  case round =>
  obtain ⟨k, rfl, hk, hS⟩ := hrel
  by_cases hlt : k < 8
  · have hklt : (k : Int) < 8 := by omega
    obtain ⟨⟨er2, fd2, val2, ver2, sq2⟩, h2⟩ : ∃ R, lastT L (k : Int) = R := ⟨_, rfl⟩
    obtain ⟨⟨er3, fd3, val3, ver3, sq3⟩, h3⟩ : ∃ R, lastT M (k : Int) = R := ⟨_, rfl⟩
    obtain ⟨⟨er4, fd4, val4, ver4, sq4⟩, h4⟩ : ∃ R, lastT N (k : Int) = R := ⟨_, rfl⟩
    obtain ⟨⟨er1, fd1, val1, ver1, sq1⟩, h1⟩ : ∃ R, lastT (joinT (joinT L M) N) (k : Int) = R := ⟨_, rfl⟩
    have hx := last_join (len_join l8 m8) o8 (i := (k : Int)) (by omega) hklt
    rw [last_join l8 m8 (by omega) hklt, h1, h2, h3, h4] at hx
    have H1 := Lib.hid h1
    have H2 := Lib.hid h2
    have H3 := Lib.hid h3
    have H4 := Lib.hid h4
    clear h1 h2 h3 h4
    have pA := kA.since hS
    have pT := kT.since hS
    have pU := kU.since hS
    have pV := kV.since hS
    clear kA kT kU kV l8 m8 o8
    have hx4 : (er1 = er2 ∧ fd1 = fd2 ∧ val1 = val2 ∧ ver1 = ver2 ∧ sq1 = sq2) ∧ ¬ sq2 < sq3 ∧ ¬ sq2 < sq4 ∨
        (er1 = er3 ∧ fd1 = fd3 ∧ val1 = val3 ∧ ver1 = ver3 ∧ sq1 = sq3) ∧ sq2 < sq3 ∧ ¬ sq3 < sq4 ∨
        (er1 = er4 ∧ fd1 = fd4 ∧ val1 = val4 ∧ ver1 = ver4 ∧ sq1 = sq4) ∧ sq2 < sq4 ∧ sq3 < sq4 := by
      unfold later at hx
      by_cases c1 : sq2 < sq3
      · by_cases c2 : sq3 < sq4
        · simp [c1, c2] at hx
          exact .inr (.inr ⟨hx, by omega, c2⟩)
        · simp [c1, c2] at hx
          exact .inr (.inl ⟨hx, c1, c2⟩)
      · by_cases c2 : sq2 < sq4
        · simp [c1, c2] at hx
          exact .inr (.inr ⟨hx, c2, by omega⟩)
        · simp [c1, c2] at hx
          exact .inl ⟨hx, c1, c2⟩
    clear hx
    go_wp2_with fail
    refine (tlast_any (pA) H1.out).mono ?_
    rintro e waa ⟨rfl, hsa1⟩
    dsimp only
    go_wp2_with fail
    obtain ⟨wa, hw1⟩ : ∃ W, W = waa.alloc (.cells #[.int .i64 er1, .bool fd1, .string val1, .int .i64 ver1] 51) := ⟨_, rfl⟩
    have hsb1 : Since waa wa := by rw [hw1]; exact (Since.refl _).alloc _
    have whb1 : Whole wa waa.heap.size 51 #[.int .i64 er1, .bool fd1, .string val1, .int .i64 ver1] := by rw [hw1]; exact Whole.new _ _ _
    rw [← hw1]
    clear hw1
    have hS1 := (hS.trans hsa1).trans hsb1
    refine (tlast_any ((pT.since hsa1).since hsb1) H2.out).mono ?_
    rintro e wba ⟨rfl, hsa2⟩
    dsimp only
    go_wp2_with fail
    obtain ⟨wb, hw2⟩ : ∃ W, W = wba.alloc (.cells #[.int .i64 er2, .bool fd2, .string val2, .int .i64 ver2] 51) := ⟨_, rfl⟩
    have hsb2 : Since wba wb := by rw [hw2]; exact (Since.refl _).alloc _
    have whb2 : Whole wb wba.heap.size 51 #[.int .i64 er2, .bool fd2, .string val2, .int .i64 ver2] := by rw [hw2]; exact Whole.new _ _ _
    rw [← hw2]
    clear hw2
    have hS2 := (hS1.trans hsa2).trans hsb2
    refine (tlast_any ((((pU.since hsa1).since hsb1).since hsa2).since hsb2) H3.out).mono ?_
    rintro e wma ⟨rfl, hsa3⟩
    dsimp only
    go_wp2_with fail
    obtain ⟨wm, hw3⟩ : ∃ W, W = wma.alloc (.cells #[.int .i64 er3, .bool fd3, .string val3, .int .i64 ver3] 51) := ⟨_, rfl⟩
    have hsb3 : Since wma wm := by rw [hw3]; exact (Since.refl _).alloc _
    have whb3 : Whole wm wma.heap.size 51 #[.int .i64 er3, .bool fd3, .string val3, .int .i64 ver3] := by rw [hw3]; exact Whole.new _ _ _
    rw [← hw3]
    clear hw3
    have hS3 := (hS2.trans hsa3).trans hsb3
    refine (tlast_any ((((((pV.since hsa1).since hsb1).since hsa2).since hsb2).since hsa3).since hsb3) H4.out).mono ?_
    rintro e wna ⟨rfl, hsa4⟩
    dsimp only
    iterate 23 go_step
    obtain ⟨wn, hw4⟩ : ∃ W, W = wna.alloc (.cells #[.int .i64 er4, .bool fd4, .string val4, .int .i64 ver4] 51) := ⟨_, rfl⟩
    have hsb4 : Since wna wn := by rw [hw4]; exact (Since.refl _).alloc _
    have whb4 : Whole wn wna.heap.size 51 #[.int .i64 er4, .bool fd4, .string val4, .int .i64 ver4] := by rw [hw4]; exact Whole.new _ _ _
    rw [← hw4]
    clear hw4
    have hS4 := (hS3.trans hsa4).trans hsb4
    have v1 := ((((hsa2.trans hsb2).trans hsa3).trans hsb3).trans hsa4).trans hsb4
    have v2 := ((hsa3.trans hsb3).trans hsa4).trans hsb4
    have v3 := hsa4.trans hsb4
    have x1 := v1.whole whb1
    have x2 := v2.whole whb2
    have x3 := v3.whole whb3
    have a10 := box_cell x1 0 _ rfl
    have a11 := box_cell x1 1 _ rfl
    have a12 := box_cell x1 2 _ rfl
    have a13 := box_cell x1 3 _ rfl
    have a20 := box_cell x2 0 _ rfl
    have a21 := box_cell x2 1 _ rfl
    have a22 := box_cell x2 2 _ rfl
    have a23 := box_cell x2 3 _ rfl
    have a30 := box_cell x3 0 _ rfl
    have a31 := box_cell x3 1 _ rfl
    have a32 := box_cell x3 2 _ rfl
    have a33 := box_cell x3 3 _ rfl
    have a40 := box_cell whb4 0 _ rfl
    have a41 := box_cell whb4 1 _ rfl
    have a42 := box_cell whb4 2 _ rfl
    have a43 := box_cell whb4 3 _ rfl
    have hnn := Since.refl wn
    clear v1 v2 v3 x1 x2 x3 whb1 whb2 whb3 whb4 hsa1 hsb1 hsa2 hsb2 hsa3 hsb3 hsa4 hsb4 hS hS1 hS2 hS3 pA pT pU pV H1 H2 H3 H4
    rcases hx4 with ⟨⟨rfl, rfl, rfl, rfl, rfl⟩, c1, c2⟩ | ⟨⟨rfl, rfl, rfl, rfl, rfl⟩, c1, c2⟩ | ⟨⟨rfl, rfl, rfl, rfl, rfl⟩, c1, c2⟩
    · have d1 : sq3 ≤ sq1 := by omega
      have d2 : sq4 ≤ sq1 := by omega
      have hmx := max3_at (y := sq1) (z := sq3) (v := sq4) (x := sq1) (by (repeat' split) <;> omega)
      go_wp2
      go_roundw
      case rel => exact ⟨k + 1, by go_num, by omega, hS4⟩
      case measure => simp [intOf]; omega
    · have d1 : sq4 ≤ sq1 := by omega
      have d2 : sq2 ≤ sq1 := by omega
      have d3 : (sq1 == sq2) = false := by simp; omega
      have hmx := max3_at (y := sq2) (z := sq1) (v := sq4) (x := sq1) (by (repeat' split) <;> omega)
      go_wp2
      go_roundw
      case rel => exact ⟨k + 1, by go_num, by omega, hS4⟩
      case measure => simp [intOf]; omega
    · have d1 : sq3 ≤ sq1 := by omega
      have d2 : sq2 ≤ sq1 := by omega
      have d3 : (sq1 == sq2) = false := by simp; omega
      have d4 : (sq1 == sq3) = false := by simp; omega
      have hmx := max3_at (y := sq2) (z := sq3) (v := sq1) (x := sq1) (by (repeat' split) <;> omega)
      go_wp2
      go_roundw
      case rel => exact ⟨k + 1, by go_num, by omega, hS4⟩
      case measure => simp [intOf]; omega
  · obtain rfl : k = 8 := by omega
    go_wp2
    go_ret
    exact ⟨rfl, kS.trans hS⟩
end Go.Proofs.Ytbgfjkgpekkciaa
