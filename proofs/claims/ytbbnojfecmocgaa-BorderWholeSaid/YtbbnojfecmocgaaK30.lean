/- tiling: Add. -/
import Derived.Test.YtbbnojfecmocgaaK29
namespace Go.Proofs.Ytbbnojfecmocgaa
open Go.RowKit
set_option linter.unusedVariables false
/-- A tile at its place. -/
def insT (L : List Tl) (t : Tl) : List Tl := L.takeWhile (fun s => decide (cmpP s.d s.b t.d t.b < 0)) ++ [t] ++ L.dropWhile (fun s => decide (cmpP s.d s.b t.d t.b < 0))
/-- Add: the error, the tiles behind it. -/
def addT (k : Int) (L : List Tl) (t : Tl) : Int × List Tl :=
  if okP k t.d t.b = true then if (L.any fun s => metB s.d s.b t.d t.b) = true then (31, L) else if 64 ≤ L.length then (7, L) else (0, insT L t) else (1, L)
theorem ins_mid {pre post : List Tl} {t : Tl} (h1 : ∀ s ∈ pre, cmpP s.d s.b t.d t.b < 0) (h2 : ∀ s ∈ post, ¬ cmpP s.d s.b t.d t.b < 0) : insT (pre ++ post) t = pre ++ [t] ++ post := by
  have e1 : ∀ pre : List Tl, (∀ s ∈ pre, cmpP s.d s.b t.d t.b < 0) → (pre ++ post).takeWhile (fun s => decide (cmpP s.d s.b t.d t.b < 0)) = pre ∧ (pre ++ post).dropWhile (fun s => decide (cmpP s.d s.b t.d t.b < 0)) = post := by
    intro pre
    induction pre with
    | nil =>
      intro _
      cases post with
      | nil => exact ⟨rfl, rfl⟩
      | cons y ys =>
        have := h2 y List.mem_cons_self
        exact ⟨by rw [List.nil_append, List.takeWhile_cons_of_neg (by simpa using this)], by rw [List.nil_append, List.dropWhile_cons_of_neg (by simpa using this)]⟩
    | cons x xs ih =>
      intro h
      have hx := h x List.mem_cons_self
      obtain ⟨i1, i2⟩ := ih (fun s hs => h s (List.mem_cons_of_mem _ hs))
      exact ⟨by rw [List.cons_append, List.takeWhile_cons_of_pos (by simpa using hx), i1], by rw [List.cons_append, List.dropWhile_cons_of_pos (by simpa using hx), i2]⟩
  unfold insT
  rw [(e1 pre h1).1, (e1 pre h1).2]
/-- In a list of tiles in order, what stands between. -/
theorem ins_pair {pre post : List Tl} {t : Tl} (hp : (pre ++ [t] ++ post).Pairwise Tl.ltB) (hf : ∀ s ∈ pre ++ [t] ++ post, fine s.d s.b = true) : insT (pre ++ post) t = pre ++ [t] ++ post := by
  rw [List.append_assoc, List.pairwise_append] at hp
  obtain ⟨_, h2, h3⟩ := hp
  refine ins_mid (fun s hs => (h3 s hs t (by simp)).1) (fun s hs => ?_)
  have h4 := (List.pairwise_cons.1 h2).1 s hs
  have := cmpP_anti (hf t (by simp)) (hf s (by simp [hs]))
  rw [this]
  have := h4.1
  omega
set_option maxRecDepth 100000 in
set_option maxHeartbeats 1600000 in
theorem add_any {g : Nat} {p : PT} {k : Int} {w : World} (h : TilO g p k w) (pd pb who : Int) : Calls Try.prog 58 #[.pointer (some ⟨g, 0, none⟩), .agg #[.int .i64 pd, .int .i64 pb, .int .i64 who]] w (ChgO g p k (addT k (p.tr.tiles 0 0) ⟨pd, pb, who⟩) w) := by
  obtain ⟨w0, hw0⟩ : ∃ w0, w0 = w.alloc (.cells #[.int .i64 pd, .int .i64 pb, .int .i64 who] 37) := ⟨_, rfl⟩
  have hs0 : Since w w0 := by rw [hw0]; exact (Since.refl w).alloc _
  have wh0 : Whole w0 (w.heap.size) 37 #[.int .i64 pd, .int .i64 pb, .int .i64 who] := by rw [hw0]; exact Whole.new w _ _
  have HW := Lib.hid hw0
  have c0_0 := box_cell wh0 0 (.int .i64 pd) rfl
  have c0_1 := box_cell wh0 1 (.int .i64 pb) rfl
  have c0_2 := box_cell wh0 2 (.int .i64 who) rfl
  have hsr := Since.refl w0
  have hsd := hsr.drew
  clear hw0
  have hkb := h.kb
  have hbox := h.box
  have hgl := hbox.lt
  have HM := Lib.hid (fun W (hW : Since w0 W) => made_yes (h.since (hs0.trans hW)))
  cases hok : okP k pd pb with
  | false =>
    have hr : addT k (p.tr.tiles 0 0) ⟨pd, pb, who⟩ = (1, p.tr.tiles 0 0) := by unfold addT; rw [if_neg (by rw [hok]; exact Bool.false_ne_true)]
    rw [hr]
    have HOK := Lib.hid hok
    have HH := Lib.hid h
    clear hr hok h
    obtain ⟨LN, hLN⟩ : ∃ n, n = (p.tr.tiles 0 0).length := ⟨_, rfl⟩
    rw [← hLN] at hbox
    clear hLN
    have ck0 := box_cell (Since.whole hs0 hbox) 0 _ rfl
    go_enter Try.func58, Try.ntmps58
    go_wp2_with fail
    rw [← HW.out]
    go_region_held3 (fun W => Since w0 W) (first | assumption | exact Since.drew (by assumption)) ((first | (go_at_call 39; (with_reducible refine (Calls.since (by assumption) (HM.out _ (by assumption))).mono ?_); rintro e w4 ⟨rfl, hb4⟩) | (go_at_call 42; (with_reducible refine (Calls.since (by assumption) (right_at HOK.out _)).mono ?_); rintro e w1 ⟨rfl, hb1⟩)))
    go_wp2_with fail
    go_ret
    exact ChgO.no HH.out (hs0.trans (by assumption))
  | true =>
    have hfin := okP_fine hok
    obtain ⟨s, ed, eb, pre, post, hw⟩ := h.way hfin
    have hmet := hw.met
    have HOK := Lib.hid hok
    obtain ⟨V, hV⟩ : ∃ V, s.v = V := ⟨_, rfl⟩
    have HT := Lib.hid (fun W (hW : Since w0 W) => hV ▸ toward_tow (h.since (hs0.trans hW)) pd pb hfin hw.tow)
    have hpd := (okP_iff _ _ _).1 hok
    by_cases hs : s = .gap
    · subst hs
      have hV' : V = .pointer none := hV.symm
      subst hV'
      have hm := h.most
      have hany : ¬ ((p.tr.tiles 0 0).any fun s => metB s.d s.b pd pb) = true := by rw [hmet]; exact Bool.false_ne_true
      have hL : p.tr.tiles 0 0 = pre ++ post := by rw [hw.tiles]; simp [PT.tr, Tr.tiles]
      by_cases h64 : 64 ≤ (p.tr.tiles 0 0).length
      · have hr : addT k (p.tr.tiles 0 0) ⟨pd, pb, who⟩ = (7, p.tr.tiles 0 0) := by unfold addT; rw [if_pos hok, if_neg hany, if_pos h64]
        rw [hr]
        have h2' : (((p.tr.tiles 0 0).length : Int) == 64) = true := by simp; omega
        have HH := Lib.hid h
        clear hr hok h hany hL hmet hw hm hpd
        obtain ⟨LN, hLN⟩ : ∃ n, n = (p.tr.tiles 0 0).length := ⟨_, rfl⟩
        rw [← hLN] at hbox h2'
        clear hLN h64
        have ck0 := box_cell (Since.whole hs0 hbox) 0 _ rfl
        have ck2 := box_cell (Since.whole hs0 hbox) 2 _ rfl
        go_enter Try.func58, Try.ntmps58
        go_wp2_with fail
        rw [← HW.out]
        go_region_held3 (fun W => Since w0 W) (first | assumption | exact Since.drew (by assumption)) ((first | (go_at_call 39; (with_reducible refine (Calls.since (by assumption) (HM.out _ (by assumption))).mono ?_); rintro e w4 ⟨rfl, hb4⟩) | (go_at_call 42; (with_reducible refine (Calls.since (by assumption) (right_at HOK.out _)).mono ?_); rintro e w1 ⟨rfl, hb1⟩)))
        go_wp2_with (go_at_call 41; (with_reducible refine (Calls.since (by assumption) (HT.out _ (by assumption))).mono ?_); rintro e w2 ⟨rfl, hb2⟩; have hb3 : Since w0 (w2.alloc (.cells #[.int .i64 ed, .int .i64 eb] 35)) := Since.alloc hb2 _)
        go_ret
        exact ChgO.no HH.out (hs0.trans hb3)
      · have hk : ∀ n : Tr, (n.high : Int) + pd ≤ 2 * k → ((Tr.put pd pb n pd.toNat 0 p.tr).high : Int) ≤ 32 := fun n hn => by
          have := Tr.put_high pd pb n pd.toNat 0 p.tr
          have := h.high
          omega
        have hins : insT (p.tr.tiles 0 0) ⟨pd, pb, who⟩ = pre ++ [⟨pd, pb, who⟩] ++ post := by
          have e1 : (Tr.put pd pb (.leaf who) pd.toNat 0 p.tr).tiles 0 0 = pre ++ [⟨pd, pb, who⟩] ++ post := hw.put (.inl rfl) (.leaf who)
          rw [hL]
          have hh := hk (.leaf who) (by simp [Tr.high]; omega)
          refine ins_pair ?_ (fun x hx => ?_)
          · rw [← e1]
            exact Tr.tiles_pair _ 0 0 (by decide) (by omega)
          · rw [← e1] at hx
            exact ((abvB_iff _ _ _ _).1 (Tr.tiles_abv _ 0 0 (by decide) (by omega) x hx).1).2.1
        have hr : addT k (p.tr.tiles 0 0) ⟨pd, pb, who⟩ = (0, pre ++ [⟨pd, pb, who⟩] ++ post) := by unfold addT; rw [if_pos hok, if_neg hany, if_neg h64, hins]
        rw [hr]
        have h2' : (((p.tr.tiles 0 0).length : Int) == 64) = false := by simp; omega
        have hlen : (pre ++ [(⟨pd, pb, who⟩ : Tl)] ++ post).length = (p.tr.tiles 0 0).length + 1 := by rw [hL]; simp; omega
        have hplt := h.at_.lt
        have HP := Lib.hid (fun W z (hW0 : Since w0 W) (hz : z = W.heap.size) => have hW := hs0.trans hW0; put_any (n := .leaf z who) (w := W.alloc (.cells #[.int .i64 who, .pointer none, .pointer none] 96)) (Since.whole (hW.alloc _) h.box) (h.at_.since (hW.alloc _)) h.nodup hw.fine (hw.clear (.inl rfl)) (by subst hz; exact Whole.new W _ _) (by simp [PT.bl])
          (fun x hx y => by
            obtain rfl := List.mem_singleton.1 hx
            have := hplt _ (PT.rest_sub _ _ _ _ _ _ y)
            have := hW.size_
            omega)
          (fun hx => by
            obtain rfl := List.mem_singleton.1 hx
            have := hW.size_
            omega))
        have fin := fun (z : Nat) (hz : w.heap.size ≤ z) w1 W1 q' (hs1 : Since w w1) a b c d e f => TilO.after (n := .leaf z who) (L := pre ++ [⟨pd, pb, who⟩] ++ post) (sz' := ((p.tr.tiles 0 0).length : Int) + 1) (w1 := w1) (W1 := W1) (q' := q') (sz := ((p.tr.tiles 0 0).length : Int)) h hw (.inl rfl) hs1 a b c d e f trivial (by simp [PT.tr, Tr.high]; omega) (fun x hx => by
          obtain rfl := List.mem_singleton.1 hx
          exact .inr hz) rfl (by rw [hlen]; omega) (by omega)
        have hwr : wrap64 (((p.tr.tiles 0 0).length : Int) + 1) = ((p.tr.tiles 0 0).length : Int) + 1 := IntWalk.wrap64_in _ ⟨by omega, by omega⟩
        have FIN := Lib.hid fin
        simp only [PT.v] at HP
        clear hr hok h hany hL hmet hw hm hpd hins hk hplt fin hlen
        obtain ⟨LN, hLN⟩ : ∃ n, n = (p.tr.tiles 0 0).length := ⟨_, rfl⟩
        rw [← hLN] at hbox h2' HP FIN hwr
        clear hLN h64
        have ck0 := box_cell (Since.whole hs0 hbox) 0 _ rfl
        have ck2 := box_cell (Since.whole hs0 hbox) 2 _ rfl
        go_enter Try.func58, Try.ntmps58
        go_wp2_with fail
        rw [← HW.out]
        go_region_held3 (fun W => Since w0 W) (first | assumption | exact Since.drew (by assumption)) ((first | (go_at_call 39; (with_reducible refine (Calls.since (by assumption) (HM.out _ (by assumption))).mono ?_); rintro e w4 ⟨rfl, hb4⟩) | (go_at_call 42; (with_reducible refine (Calls.since (by assumption) (right_at HOK.out _)).mono ?_); rintro e w1 ⟨rfl, hb1⟩)))
        go_wp2_with (first
          | (go_at_call 41; (with_reducible refine (Calls.since (by assumption) (HT.out _ (by assumption))).mono ?_); rintro e w2 ⟨rfl, hb2⟩; have hb3 : Since w0 (w2.alloc (.cells #[.int .i64 ed, .int .i64 eb] 35)) := Since.alloc hb2 _)
          | (go_at_call 63; (with_reducible refine (HP.out _ _ (by assumption) (by simp)).mono ?_); rintro e w5 ⟨rfl, q', f1, f2, f3, f4, f5, f6⟩; have y0 := f1.cell 2; have y1 := f1.frozen 2))
        go_ret
        exact FIN.out _ (by have := (hs0.trans hb3).size_; simp at this; omega) _ _ _ ((hs0.trans hb3).alloc _) f1 f2 f3 f4 f5 f6
    · have hr : addT k (p.tr.tiles 0 0) ⟨pd, pb, who⟩ = (31, p.tr.tiles 0 0) := by
        unfold addT
        rw [if_pos hok, if_pos (by show ((p.tr.tiles 0 0).any fun s => metB s.d s.b pd pb) = true; rw [hmet]; cases s <;> first | rfl | exact absurd rfl hs)]
      rw [hr]
      obtain ⟨o, ho1, ho2⟩ := s.v_ptr
      have hon : (o == none) = false := by
        cases o with
        | none => exact absurd (ho2.1 rfl) hs
        | some a => rfl
      rw [ho1] at hV
      subst hV
      have HH := Lib.hid h
      cases o with
      | none => exact absurd (ho2.1 rfl) hs
      | some a =>
      clear hr hok h hmet hw hpd ho1 ho2 hon hs
      obtain ⟨LN, hLN⟩ : ∃ n, n = (p.tr.tiles 0 0).length := ⟨_, rfl⟩
      rw [← hLN] at hbox
      clear hLN
      have ck0 := box_cell (Since.whole hs0 hbox) 0 _ rfl
      go_enter Try.func58, Try.ntmps58
      go_wp2_with fail
      rw [← HW.out]
      go_region_held3 (fun W => Since w0 W) (first | assumption | exact Since.drew (by assumption)) ((first | (go_at_call 39; (with_reducible refine (Calls.since (by assumption) (HM.out _ (by assumption))).mono ?_); rintro e w4 ⟨rfl, hb4⟩) | (go_at_call 42; (with_reducible refine (Calls.since (by assumption) (right_at HOK.out _)).mono ?_); rintro e w1 ⟨rfl, hb1⟩)))
      go_wp2_with (go_at_call 41; (with_reducible refine (Calls.since (by assumption) (HT.out _ (by assumption))).mono ?_); rintro e w2 ⟨rfl, hb2⟩; have hb3 : Since w0 (w2.alloc (.cells #[.int .i64 ed, .int .i64 eb] 35)) := Since.alloc hb2 _)
      go_ret
      exact ChgO.no HH.out (hs0.trans hb3)
end Go.Proofs.Ytbbnojfecmocgaa
