/- gleberef03.Common, Compare. -/
import Derived.Test.YtilkifjdonafnaaPAboveR
import Derived.Test.YtilkifjdonafnaaPOrdM
namespace Go.Proofs.Ytilkifjdonafnaa
open Go.RowKit
theorem refOf_at {s : ByteArray} {D V : Int} (w : World) (hd : digs s.toList) (hl : s.size ≤ 32) (e1 : (s.size : Int) = D) (e2 : valT s.toList = V) : Calls Try.prog 40 #[.string s] w fun e w' => e = .returned (.agg #[.int .i64 D, .int .i64 V]) ∧ Below w.heap.size w w' := e1 ▸ e2 ▸ refOf_any s w hd hl
theorem com_no {d b e c : Int} (h : fine d b = false ∨ fine e c = false) : cpl d b e c = 0 ∧ comB d b e c = 0 := by
  have h1 : cpl d b e c = 0 := by
    cases hf : fine d b with
    | false =>
      unfold cpl
      rw [cnt_no hf]
      rfl
    | true =>
      have hg : fine e c = false := by rcases h with h | h; (rw [h] at hf; cases hf); exact h
      have hd := (fine_iff d b).1 hf
      by_cases h0 : 0 < d
      · refine cpl_uniq hf (k := 0) (by omega) (fun j hj => by omega) (.inr ?_)
        rw [bitI_no (d := e) (by rw [hg]; rintro ⟨e, _⟩; cases e), bitI_yes hf (by omega) (by omega)]
        omega
      · exact cpl_uniq hf (k := 0) (by omega) (fun j hj => by omega) (.inl (by omega))
  refine ⟨h1, ?_⟩
  unfold comB
  split
  · next hf => rw [h1]; exact pv_zero hf
  · rfl
/-- The byte i of a path's text. -/
theorem txt_get {d b : Int} (hf : fine d b = true) (n : Nat) (h : n < (txt d b).size) : (((txt d b)[n]'h).toNat : Int) = 48 + bitI d b n := by
  have hn : n < d.toNat := by rw [txt_size] at h; exact h
  have hb := bit_01 (i := n) hf (by omega) (by omega)
  rw [← bytes_get (txt d b) n h]
  have e1 : (txt d b).toList[n]'(by rw [bytes_size]; exact h) = dig (bitI d b n) := by
    simp only [txt_list, digT, ups, List.getElem_map, List.getElem_range]
  rw [e1]
  exact dig_bit hb.1 hb.2
set_option maxRecDepth 100000 in
set_option maxHeartbeats 1600000 in
theorem refCommon_any (dp bp dq bq : Int) (w : World) : Calls Try.prog 14 #[.agg #[.int .i64 dp, .int .i64 bp], .agg #[.int .i64 dq, .int .i64 bq]] w fun e w' => e = .returned (.agg #[.int .i64 ((cpl dp bp dq bq : Int)), .int .i64 (comB dp bp dq bq)]) ∧ Below w.heap.size w w' := by
  obtain ⟨w0, hw0⟩ : ∃ w0, w0 = ((w.alloc (.cells #[.int .i64 dp, .int .i64 bp] 23)).alloc (.cells #[.int .i64 dq, .int .i64 bq] 23)).alloc (.cells #[.int .i64 0, .int .i64 0] 23) := ⟨_, rfl⟩
  have hs0 : Since w w0 := by rw [hw0]; exact (((Since.refl w).alloc _).alloc _).alloc _
  have wh0 : Whole w0 (w.heap.size) 23 #[.int .i64 dp, .int .i64 bp] := by rw [hw0]; exact ((Whole.new w _ _).alloc _).alloc _
  have wh1 : Whole w0 (w.heap.size + 1) 23 #[.int .i64 dq, .int .i64 bq] := by rw [hw0]; exact ((Whole.new (w.alloc _) _ _).alloc _).at_ (by simp)
  have wh2 : Whole w0 (w.heap.size + 1 + 1) 23 #[.int .i64 0, .int .i64 0] := by rw [hw0]; exact (Whole.new ((w.alloc _).alloc _) _ _).at_ (by simp)
  have HW := Lib.hid hw0
  have c0_0 := box_cell wh0 0 (.int .i64 dp) rfl
  have c0_1 := box_cell wh0 1 (.int .i64 bp) rfl
  have c1_0 := box_cell wh1 0 (.int .i64 dq) rfl
  have c1_1 := box_cell wh1 1 (.int .i64 bq) rfl
  have c2_0 := box_cell wh2 0 (.int .i64 0) rfl
  have f2_0 := box_free wh2 0
  have c2_1 := box_cell wh2 1 (.int .i64 0) rfl
  have f2_1 := box_free wh2 1
  have hsr := Since.refl w0
  have hsd := hsr.drew
  clear hw0
  by_cases hno : fine dp bp = false ∨ fine dq bq = false
  · obtain ⟨n1, n2⟩ := com_no hno
    rw [n1, n2]
    clear n1 n2 wh0 wh1 wh2
    by_cases h : fine dp bp = false
    · replace h := Lib.hid h
      clear hno
      go_enter Try.func14, Try.ntmps14
      go_wp2_with fail
      rw [← HW.out]
      go_wp2_with (go_at_call 35; (with_reducible refine (Calls.since (by assumption) (refFine_at h.out _)).mono ?_); rintro e w1 ⟨rfl, hb1⟩)
      have g1 := c2_0 w1 hb1
      have g2 := c2_1 w1 hb1
      exact bodyPost_ret (v := .agg #[.int .i64 0, .int .i64 0]) (by simp [results, Try.results14, go_sem, g1, g2]) rfl ⟨rfl, Below.setCell (Below.setCell (hs0.trans hb1) (by simp; omega) _) (by simp; omega) _⟩
    · have h : fine dp bp = true := by cases e : fine dp bp; exact absurd e h; rfl
      replace h := Lib.hid h
      have g : fine dq bq = false := by rcases hno with e | e; (rw [h.out] at e; cases e); exact e
      replace g := Lib.hid g
      clear hno
      go_enter Try.func14, Try.ntmps14
      go_wp2_with fail
      rw [← HW.out]
      go_wp2_with (go_at_call 35; (with_reducible refine (Calls.since (by assumption) (refFine_at (by first | exact h.out | exact g.out) _)).mono ?_); rintro e w1 ⟨rfl, hb1⟩)
      have g1 := c2_0 w1 hb1
      have g2 := c2_1 w1 hb1
      exact bodyPost_ret (v := .agg #[.int .i64 0, .int .i64 0]) (by simp [results, Try.results14, go_sem, g1, g2]) rfl ⟨rfl, Below.setCell (Below.setCell (hs0.trans hb1) (by simp; omega) _) (by simp; omega) _⟩
  · have h : fine dp bp = true := by cases e : fine dp bp; exact absurd (.inl e) hno; rfl
    have g : fine dq bq = true := by cases e : fine dq bq; exact absurd (.inr e) hno; rfl
    have hd := (fine_iff dp bp).1 h
    have he := (fine_iff dq bq).1 g
    obtain ⟨p1, p2, p3, p4, p5⟩ := cpl_spec h g
    obtain ⟨k, hk⟩ : ∃ k, cpl dp bp dq bq = k := ⟨_, rfl⟩
    have hcb := comB_yes (e := dq) (c := bq) h
    rw [hk] at p1 p2 p3 p4 p5 hcb ⊢
    obtain ⟨S, hS⟩ : ∃ S, txt dp bp = S := ⟨_, rfl⟩
    obtain ⟨T, hT⟩ : ∃ T, txt dq bq = T := ⟨_, rfl⟩
    have hcut : S.extract 0 k = txt k (pv dp bp k) := by rw [← hS]; exact txt_cut (m := (k : Int)) h p1
    have fk := pv_fine (m := (k : Int)) h (by omega) p1
    have hkd := digT_digs fk k (Int.le_refl _)
    have hx1 : digs (S.extract 0 k).toList := by rw [hcut, txt_list]; exact hkd.1
    have hx2 : ((S.extract 0 k).size : Int) = k := by rw [hcut, txt_size]; rfl
    have hx3 : valT (S.extract 0 k).toList = comB dp bp dq bq := by
      rw [hcut, txt_list, hcb]
      exact hkd.2.trans (pv_all _ _)
    obtain ⟨C, hC⟩ : ∃ C, comB dp bp dq bq = C := ⟨_, rfl⟩
    rw [hC] at hx3 ⊢
    have HX1 := Lib.hid hx1
    have HX2 := Lib.hid hx2
    have HX3 := Lib.hid hx3
    have hgS : ∀ n : Nat, (hn : n < S.size) → ((S[n]'hn).toNat : Int) = 48 + bitI dp bp n := by rw [← hS]; exact fun n hn => txt_get h n hn
    have hgT : ∀ n : Nat, (hn : n < T.size) → ((T[n]'hn).toNat : Int) = 48 + bitI dq bq n := by rw [← hT]; exact fun n hn => txt_get g n hn
    have HGS := Lib.hid hgS
    have HGT := Lib.hid hgT
    have zS : (S.size : Int) = dp := by rw [← hS, txt_size]; omega
    have zT : (T.size : Int) = dq := by rw [← hT, txt_size]; omega
    have ZS := Lib.hid zS
    have ZT := Lib.hid zT
    have P3 := Lib.hid p3
    have P4 := Lib.hid p4
    have p1' : k ≤ S.size := by omega
    have p2' : k ≤ T.size := by omega
    have hS32 : S.size ≤ 32 := by omega
    have hT32 : T.size ≤ 32 := by omega
    replace h := Lib.hid h
    replace g := Lib.hid g
    replace hS := Lib.hid hS
    replace hT := Lib.hid hT
    clear hno hd he p1 p2 p3 p4 p5 hk hcb hcut fk hkd hx1 hx2 hx3 hC hgS hgT zS zT
    go_enter Try.func14, Try.ntmps14
    go_wp2_with fail
    rw [← HW.out]
    go_wp2_with (first | (go_at_call 35; (with_reducible refine (Calls.since (by assumption) (refFine_at (by first | exact h.out | exact g.out) _)).mono ?_); rintro e w1 ⟨rfl, hb1⟩) | (go_at_call 36; (with_reducible refine (Calls.since (by assumption) (refHalves_at (by first | exact h.out | exact g.out) (by first | exact hS.out | exact hT.out) _)).mono ?_); rintro e w2 ⟨rfl, hb2⟩))
    go_loopw [7] (fun i wr => ∃ n : Nat, i = .int .i64 n ∧ n ≤ k ∧ Since w0 wr) (fun i _ => k - (intOf i).toNat)
    case atStart => exact ⟨0, rfl, Nat.zero_le _, by assumption⟩
    case round =>
      obtain ⟨n, rfl, hn, hsw⟩ := hrel
      have i0 : (0 : Int) ≤ n := by omega
      have hsr := hsw
      by_cases hlt : n < k
      · have l1 : n < S.size := by omega
        have l2 : n < T.size := by omega
        have d1 : decide ((n : Int) < S.size) = true := decide_eq_true (by omega)
        have d2 : decide ((n : Int) < T.size) = true := decide_eq_true (by omega)
        have gs := HGS.out n l1
        have gt := HGT.out n l2
        rw [← P3.out n hlt] at gt
        obtain ⟨c, hc⟩ : ∃ c, 48 + bitI dp bp n = c := ⟨_, rfl⟩
        rw [hc] at gs gt
        have j1 : (n : Int) < S.size := by omega
        have j2 : (n : Int) < T.size := by omega
        clear hc
        go_wp2_with fail
        go_quiet (fail)
        go_wp2
        go_roundw
        case rel => exact ⟨n + 1, by go_num, by omega, by first | assumption | exact hsw.drewN _⟩
        case measure => simp [intOf]; omega
      · obtain rfl : n = k := by omega
        have j0 : (n : Int) ≤ S.size := by omega
        have hways : (decide (n < S.size) = false) ∨ (decide (n < S.size) = true ∧ decide (n < T.size) = false) ∨
            ∃ a b : Int, ∃ (l1 : n < S.size) (l2 : n < T.size), ((S[n]'l1).toNat : Int) = a ∧ ((T[n]'l2).toNat : Int) = b ∧ (a == b) = false := by
          by_cases l1 : n < S.size
          · by_cases l2 : n < T.size
            · refine .inr (.inr ⟨_, _, l1, l2, rfl, rfl, ?_⟩)
              rw [HGS.out n l1, HGT.out n l2]
              apply beq_eq_false_iff_ne.2
              have := P4.out
              have := ZS.out
              omega
            · exact .inr (.inl ⟨decide_eq_true (by omega), decide_eq_false (by omega)⟩)
          · exact .inl (decide_eq_false (by omega))
        rcases hways with d1 | ⟨d1, d2⟩ | ⟨a, b, l1, l2, gs, gt, hne⟩
        rotate_left 2
        · have d1 : decide ((n : Int) < S.size) = true := decide_eq_true (by omega)
          have d2 : decide ((n : Int) < T.size) = true := decide_eq_true (by omega)
          have j1 : (n : Int) < S.size := by omega
          have j2 : (n : Int) < T.size := by omega
          go_wp2_with fail
          go_quiet (fail)
          have hsn := hsw.drewN nq
          go_wp2_with (go_at_call 40; (with_reducible refine (Calls.since (by assumption) (refOf_at _ HX1.out (by have := HX2.out; omega) HX2.out HX3.out)).mono ?_); rintro e w3 ⟨rfl, hb3⟩)
          have g1 := c2_0 w3 hb3
          have g2 := c2_1 w3 hb3
          exact bodyPost_ret (v := .agg #[.int .i64 ((n : Int)), .int .i64 C]) (by simp [results, Try.results14, go_sem, g1, g2]) rfl ⟨rfl, Below.setCell (Below.setCell (hs0.trans hb3) (by simp; omega) _) (by simp; omega) _⟩
        all_goals
          go_wp2_with fail
          go_quiet (fail)
          have hsn := hsw.drewN nq
          go_wp2_with (go_at_call 40; (with_reducible refine (Calls.since (by assumption) (refOf_at _ HX1.out (by have := HX2.out; omega) HX2.out HX3.out)).mono ?_); rintro e w3 ⟨rfl, hb3⟩)
          have g1 := c2_0 w3 hb3
          have g2 := c2_1 w3 hb3
          exact bodyPost_ret (v := .agg #[.int .i64 ((n : Int)), .int .i64 C]) (by simp [results, Try.results14, go_sem, g1, g2]) rfl ⟨rfl, Below.setCell (Below.setCell (hs0.trans hb3) (by simp; omega) _) (by simp; omega) _⟩
/-! ### Compare -/
theorem less_pre : ∀ l x y : List UInt8, Op.bytesLess (l ++ x) (l ++ y) = Op.bytesLess x y
  | [], _, _ => rfl
  | a :: l, x, y => by
    rw [List.cons_append, List.cons_append, Op.bytesLess, less_pre l x y]
    simp
theorem digT_split (d b : Int) (k : Nat) : ∀ n : Nat, k < n → ∃ r, digT d b n = digT d b k ++ dig (bitI d b k) :: r
  | n + 1, h => by
    rcases Nat.lt_or_ge k n with h1 | h1
    · obtain ⟨r, hr⟩ := digT_split d b k n h1
      exact ⟨r ++ [dig (bitI d b n)], by rw [digT_succ, hr, List.append_assoc]; rfl⟩
    · obtain rfl : k = n := by omega
      exact ⟨[], digT_succ d b k⟩
theorem dig_lt {x y : Int} (hx : 0 ≤ x ∧ x ≤ 1) (hy : 0 ≤ y ∧ y ≤ 1) : dig x < dig y ↔ x < y := by
  rw [UInt8.lt_iff_toNat_lt]
  have h1 := dig_bit hx.1 hx.2
  have h2 := dig_bit hy.1 hy.2
  omega
/-- Texts stand as paths do. -/
theorem less_txt {d b e c : Int} (hf : fine d b = true) (hg : fine e c = true) (hne : ¬ (d = e ∧ b = c)) : cmpP d b e c = if Op.bytesLess (txt d b).toList (txt e c).toList = true then -1 else 1 := by
  obtain ⟨p1, p2, p3, p4, p5⟩ := cpl_spec hf hg
  obtain ⟨g1, g2⟩ := first_diff hf hg hne
  have hd := (fine_iff d b).1 hf
  have he := (fine_iff e c).1 hg
  rw [cmpP_yes hf hg, txt_list, txt_list]
  obtain ⟨k, hk⟩ : ∃ k, cpl d b e c = k := ⟨_, rfl⟩
  rw [hk] at p1 p2 p3 g2 ⊢
  have hsame : digT d b k = digT e c k := digT_same k p3
  by_cases h1 : k < d.toNat
  · have hb1 := bit_01 (i := k) hf (by omega) (by omega)
    obtain ⟨r1, hr1⟩ := digT_split d b k _ h1
    by_cases h2 : k < e.toNat
    · have hb2 := bit_01 (i := k) hg (by omega) (by omega)
      obtain ⟨r2, hr2⟩ := digT_split e c k _ h2
      rw [hr1, hr2, hsame, less_pre, Op.bytesLess]
      have hl := dig_lt hb1 hb2
      have hq : (dig (bitI d b k) == dig (bitI e c k)) = false := by
        apply beq_eq_false_iff_ne.2
        intro e1
        have e2 := congrArg UInt8.toNat e1
        have := dig_bit hb1.1 hb1.2
        have := dig_bit hb2.1 hb2.2
        omega
      rw [hq, Bool.false_and, Bool.or_false]
      unfold cmpI
      simp only [decide_eq_true_eq, hl]
      split
      · rfl
      · rw [if_pos (by omega)]
    · have hke : k = e.toNat := by omega
      rw [hr1, hsame, hke, ← hke, bitI_no (d := e) (by omega)]
      have e1 := less_pre (digT e c k) (dig (bitI d b k) :: r1) []
      rw [List.append_nil] at e1
      rw [e1]
      unfold cmpI
      rw [if_neg (by omega), if_pos (by omega)]
      rfl
  · have hkd : k = d.toNat := by omega
    have h2 : k < e.toNat := by
      rcases Nat.lt_or_ge k e.toNat with h2 | h2
      · exact h2
      · rw [bitI_no (d := d) (by omega), bitI_no (d := e) (by omega)] at g2
        exact absurd rfl g2
    have hb2 := bit_01 (i := k) hg (by omega) (by omega)
    obtain ⟨r2, hr2⟩ := digT_split e c k _ h2
    rw [hr2, ← hsame, ← hkd, bitI_no (d := d) (by omega)]
    have e1 := less_pre (digT d b k) [] (dig (bitI e c k) :: r2)
    rw [List.append_nil] at e1
    rw [e1]
    unfold cmpI
    rw [if_pos (by omega)]
    rfl
set_option maxRecDepth 100000 in
set_option maxHeartbeats 800000 in
theorem refCompare_any (dp bp dq bq : Int) (w : World) : Calls Try.prog 16 #[.agg #[.int .i64 dp, .int .i64 bp], .agg #[.int .i64 dq, .int .i64 bq]] w fun e w' => e = .returned (.int .i64 (cmpP dp bp dq bq)) ∧ Below w.heap.size w w' := by
  obtain ⟨w0, hw0⟩ : ∃ w0, w0 = (w.alloc (.cells #[.int .i64 dp, .int .i64 bp] 23)).alloc (.cells #[.int .i64 dq, .int .i64 bq] 23) := ⟨_, rfl⟩
  have hs0 : Since w w0 := by rw [hw0]; exact ((Since.refl w).alloc _).alloc _
  have wh0 : Whole w0 (w.heap.size) 23 #[.int .i64 dp, .int .i64 bp] := by rw [hw0]; exact (Whole.new w _ _).alloc _
  have wh1 : Whole w0 (w.heap.size + 1) 23 #[.int .i64 dq, .int .i64 bq] := by rw [hw0]; exact (Whole.new (w.alloc _) _ _).at_ (by simp)
  have HW := Lib.hid hw0
  have c0_0 := box_cell wh0 0 (.int .i64 dp) rfl
  have c0_1 := box_cell wh0 1 (.int .i64 bp) rfl
  have c1_0 := box_cell wh1 0 (.int .i64 dq) rfl
  have c1_1 := box_cell wh1 1 (.int .i64 bq) rfl
  have hsr := Since.refl w0
  have hsd := hsr.drew
  clear hw0 wh0 wh1
  cases h : fine dp bp with
  | false =>
    rw [cmpP_no (by rw [h]; rintro ⟨e, _⟩; cases e)]
    replace h := Lib.hid h
    go_enter Try.func16, Try.ntmps16
    go_wp2_with fail
    rw [← HW.out]
    go_wp2_with (go_at_call 35; (with_reducible refine (Calls.since (by assumption) (refFine_at h.out _)).mono ?_); rintro e w1 ⟨rfl, hb1⟩)
    go_ret
    exact ⟨rfl, hs0.trans (by assumption)⟩
  | true =>
    cases g : fine dq bq with
    | false =>
      rw [cmpP_no (by rw [g]; rintro ⟨_, e⟩; cases e)]
      replace h := Lib.hid h
      replace g := Lib.hid g
      go_enter Try.func16, Try.ntmps16
      go_wp2_with fail
      rw [← HW.out]
      go_wp2_with (go_at_call 35; (with_reducible refine (Calls.since (by assumption) (refFine_at (by first | exact h.out | exact g.out) _)).mono ?_); rintro e w1 ⟨rfl, hb1⟩)
      go_ret
      exact ⟨rfl, hs0.trans (by assumption)⟩
    | true =>
      by_cases hne : dp = dq ∧ bp = bq
      · rw [(cmpP_zero h g).2 hne]
        have q1 : (dp == dq) = true := beq_iff_eq.2 hne.1
        have q2 : (bp == bq) = true := beq_iff_eq.2 hne.2
        clear hne
        replace h := Lib.hid h
        replace g := Lib.hid g
        go_enter Try.func16, Try.ntmps16
        go_wp2_with fail
        rw [← HW.out]
        go_wp2_with (go_at_call 35; (with_reducible refine (Calls.since (by assumption) (refFine_at (by first | exact h.out | exact g.out) _)).mono ?_); rintro e w1 ⟨rfl, hb1⟩)
        go_ret
        exact ⟨rfl, hs0.trans (by assumption)⟩
      · rw [less_txt h g hne]
        have hq : ((dp == dq) = true ∧ (bp == bq) = false) ∨ (dp == dq) = false := by
          by_cases z1 : dp = dq
          · exact .inl ⟨beq_iff_eq.2 z1, beq_eq_false_iff_ne.2 fun z2 => hne ⟨z1, z2⟩⟩
          · exact .inr (beq_eq_false_iff_ne.2 z1)
        obtain ⟨S, hS⟩ : ∃ S, txt dp bp = S := ⟨_, rfl⟩
        obtain ⟨T, hT⟩ : ∃ T, txt dq bq = T := ⟨_, rfl⟩
        rw [hS, hT]
        replace h := Lib.hid h
        replace g := Lib.hid g
        replace hS := Lib.hid hS
        replace hT := Lib.hid hT
        clear hne
        rcases hq with ⟨q1, q2⟩ | q1
        all_goals
          cases hl : Op.bytesLess S.toList T.toList
          all_goals
            go_enter Try.func16, Try.ntmps16
            go_wp2_with fail
            rw [← HW.out]
            go_wp2_with (go_at_call 35; (with_reducible refine (Calls.since (by assumption) (refFine_at (by first | exact h.out | exact g.out) _)).mono ?_); rintro e w1 ⟨rfl, hb1⟩)
            go_region_held3 (fun W => Since w0 W) (first | assumption | exact Since.drew (by assumption)) ((first | (go_at_call 36; (with_reducible refine (Calls.since (by assumption) (refHalves_at (by first | exact h.out | exact g.out) (by first | exact hS.out | exact hT.out) _)).mono ?_); rintro e w2 ⟨rfl, hb2⟩)))
            go_wp2
            go_ret
            exact ⟨rfl, hs0.trans (by assumption)⟩
end Go.Proofs.Ytilkifjdonafnaa
