/- The walk of the law EntryLooks. -/
import Derived.Test.YtimmnmidhjbanaaDoorK41
import Derived.Test.YtimmnmidhjbanaaDoorK42
import Derived.Test.YtimmnmidhjbanaaDoorK43
namespace Go.Proofs.YtimmnmidhjbanaaDoor
open Go.RowKit
set_option linter.unusedVariables false
set_option linter.unusedSimpArgs false
theorem heirs_short1 {e : En} {l : List Int} (h : l.length ≤ 1000000) : (heirs1 e l).length ≤ 1000000 := by
  unfold heirs1
  split
  · exact h
  · simp
theorem heirs_short2 {e : En} {l : List Int} (h : l.length ≤ 1000) : (heirs2 e l).length ≤ 1000000 := by
  unfold heirs2
  split
  · have := lessL_le l e.nd; simp only [List.length_cons]; omega
  · simp
section
variable {kind ok x y : Int} {key val : ByteArray} {cl seq nd ep bx : Int} {kind2 ok2 x2 y2 : Int} {key2 val2 : ByteArray} {cl2 seq2 nd2 ep2 bx2 : Int} {ca : Option Addr} {cn cc : Nat} {ca2 : Option Addr} {cn2 cc2 : Nat} {l l2 m : List Int} {mx : Option Addr} {mn mc : Nat} {nn : Int} {w : World}
set_option maxRecDepth 100000 in
set_option maxHeartbeats 3200000 in
theorem elooks_a (hl : lightB11 key val cn = false) : Calls Tryd.prog 3 #[.agg #[.int .i64 kind, .int .i64 ok, .int .i64 x, .int .i64 y, .string key, .string val, .int .i64 cl, .int .i64 seq, .int .i64 nd, .int .i64 ep, .int .i64 bx, .slice ca cn cc], .agg #[.int .i64 kind2, .int .i64 ok2, .int .i64 x2, .int .i64 y2, .string key2, .string val2, .int .i64 cl2, .int .i64 seq2, .int .i64 nd2, .int .i64 ep2, .int .i64 bx2, .slice ca2 cn2 cc2], .slice mx mn mc, .int .i64 nn] w fun e w' => e = .returned (.bool true) ∧ Below w.heap.size w w' := by
  have HL := Lib.hid hl
  clear hl
  obtain ⟨w0, hw0⟩ : ∃ w0, w0 = (w.alloc (.cells #[.int .i64 kind, .int .i64 ok, .int .i64 x, .int .i64 y, .string key, .string val, .int .i64 cl, .int .i64 seq, .int .i64 nd, .int .i64 ep, .int .i64 bx, .slice ca cn cc] 28)).alloc (.cells #[.int .i64 kind2, .int .i64 ok2, .int .i64 x2, .int .i64 y2, .string key2, .string val2, .int .i64 cl2, .int .i64 seq2, .int .i64 nd2, .int .i64 ep2, .int .i64 bx2, .slice ca2 cn2 cc2] 28) := ⟨_, rfl⟩
  have hs0 : Since w w0 := by rw [hw0]; exact ((Since.refl w).alloc _).alloc _
  have wh0 : Whole w0 (w.heap.size) 28 #[.int .i64 kind, .int .i64 ok, .int .i64 x, .int .i64 y, .string key, .string val, .int .i64 cl, .int .i64 seq, .int .i64 nd, .int .i64 ep, .int .i64 bx, .slice ca cn cc] := by rw [hw0]; exact (Whole.new w _ _).alloc _
  have wh1 : Whole w0 (w.heap.size + 1) 28 #[.int .i64 kind2, .int .i64 ok2, .int .i64 x2, .int .i64 y2, .string key2, .string val2, .int .i64 cl2, .int .i64 seq2, .int .i64 nd2, .int .i64 ep2, .int .i64 bx2, .slice ca2 cn2 cc2] := by rw [hw0]; exact (Whole.new (w.alloc _) _ _).at_ (by simp)
  have HW := Lib.hid hw0
  have c0_0 := box_cell wh0 0 (.int .i64 kind) rfl
  have c0_1 := box_cell wh0 1 (.int .i64 ok) rfl
  have c0_2 := box_cell wh0 2 (.int .i64 x) rfl
  have c0_3 := box_cell wh0 3 (.int .i64 y) rfl
  have c0_4 := box_cell wh0 4 (.string key) rfl
  have c0_5 := box_cell wh0 5 (.string val) rfl
  have c0_6 := box_cell wh0 6 (.int .i64 cl) rfl
  have c0_7 := box_cell wh0 7 (.int .i64 seq) rfl
  have c0_8 := box_cell wh0 8 (.int .i64 nd) rfl
  have c0_9 := box_cell wh0 9 (.int .i64 ep) rfl
  have c0_10 := box_cell wh0 10 (.int .i64 bx) rfl
  have c0_11 := box_cell wh0 11 (.slice ca cn cc) rfl
  have c1_0 := box_cell wh1 0 (.int .i64 kind2) rfl
  have c1_1 := box_cell wh1 1 (.int .i64 ok2) rfl
  have c1_2 := box_cell wh1 2 (.int .i64 x2) rfl
  have c1_3 := box_cell wh1 3 (.int .i64 y2) rfl
  have c1_4 := box_cell wh1 4 (.string key2) rfl
  have c1_5 := box_cell wh1 5 (.string val2) rfl
  have c1_6 := box_cell wh1 6 (.int .i64 cl2) rfl
  have c1_7 := box_cell wh1 7 (.int .i64 seq2) rfl
  have c1_8 := box_cell wh1 8 (.int .i64 nd2) rfl
  have c1_9 := box_cell wh1 9 (.int .i64 ep2) rfl
  have c1_10 := box_cell wh1 10 (.int .i64 bx2) rfl
  have c1_11 := box_cell wh1 11 (.slice ca2 cn2 cc2) rfl
  have hsr := Since.refl w0
  have hsd := hsr.drew
  clear hw0 wh0 wh1
  go_enter Tryd.func3, Tryd.ntmps3
  go_wp2_with fail
  rw [← HW.out]
  go_wp2_with fail
  refine (light11_any kind ok x y key val cl seq nd ep bx ca cn cc HL.out _).mono ?_
  rintro e w1 ⟨rfl, hb1⟩
  go_wp2_with fail
  refine (knows11_any _).mono ?_
  rintro e w9 ⟨rfl, hb9⟩
  go_wp2
  go_ret
  exact ⟨rfl, (hs0.trans hb1).trans hb9⟩
set_option maxRecDepth 100000 in
set_option maxHeartbeats 3200000 in
theorem elooks_b (hl : lightB11 key val cn = true) (hl2 : lightB11 key2 val2 cn2 = false) : Calls Tryd.prog 3 #[.agg #[.int .i64 kind, .int .i64 ok, .int .i64 x, .int .i64 y, .string key, .string val, .int .i64 cl, .int .i64 seq, .int .i64 nd, .int .i64 ep, .int .i64 bx, .slice ca cn cc], .agg #[.int .i64 kind2, .int .i64 ok2, .int .i64 x2, .int .i64 y2, .string key2, .string val2, .int .i64 cl2, .int .i64 seq2, .int .i64 nd2, .int .i64 ep2, .int .i64 bx2, .slice ca2 cn2 cc2], .slice mx mn mc, .int .i64 nn] w fun e w' => e = .returned (.bool true) ∧ Below w.heap.size w w' := by
  have HL := Lib.hid hl
  clear hl
  have HL2 := Lib.hid hl2
  clear hl2
  obtain ⟨w0, hw0⟩ : ∃ w0, w0 = (w.alloc (.cells #[.int .i64 kind, .int .i64 ok, .int .i64 x, .int .i64 y, .string key, .string val, .int .i64 cl, .int .i64 seq, .int .i64 nd, .int .i64 ep, .int .i64 bx, .slice ca cn cc] 28)).alloc (.cells #[.int .i64 kind2, .int .i64 ok2, .int .i64 x2, .int .i64 y2, .string key2, .string val2, .int .i64 cl2, .int .i64 seq2, .int .i64 nd2, .int .i64 ep2, .int .i64 bx2, .slice ca2 cn2 cc2] 28) := ⟨_, rfl⟩
  have hs0 : Since w w0 := by rw [hw0]; exact ((Since.refl w).alloc _).alloc _
  have wh0 : Whole w0 (w.heap.size) 28 #[.int .i64 kind, .int .i64 ok, .int .i64 x, .int .i64 y, .string key, .string val, .int .i64 cl, .int .i64 seq, .int .i64 nd, .int .i64 ep, .int .i64 bx, .slice ca cn cc] := by rw [hw0]; exact (Whole.new w _ _).alloc _
  have wh1 : Whole w0 (w.heap.size + 1) 28 #[.int .i64 kind2, .int .i64 ok2, .int .i64 x2, .int .i64 y2, .string key2, .string val2, .int .i64 cl2, .int .i64 seq2, .int .i64 nd2, .int .i64 ep2, .int .i64 bx2, .slice ca2 cn2 cc2] := by rw [hw0]; exact (Whole.new (w.alloc _) _ _).at_ (by simp)
  have HW := Lib.hid hw0
  have c0_0 := box_cell wh0 0 (.int .i64 kind) rfl
  have c0_1 := box_cell wh0 1 (.int .i64 ok) rfl
  have c0_2 := box_cell wh0 2 (.int .i64 x) rfl
  have c0_3 := box_cell wh0 3 (.int .i64 y) rfl
  have c0_4 := box_cell wh0 4 (.string key) rfl
  have c0_5 := box_cell wh0 5 (.string val) rfl
  have c0_6 := box_cell wh0 6 (.int .i64 cl) rfl
  have c0_7 := box_cell wh0 7 (.int .i64 seq) rfl
  have c0_8 := box_cell wh0 8 (.int .i64 nd) rfl
  have c0_9 := box_cell wh0 9 (.int .i64 ep) rfl
  have c0_10 := box_cell wh0 10 (.int .i64 bx) rfl
  have c0_11 := box_cell wh0 11 (.slice ca cn cc) rfl
  have c1_0 := box_cell wh1 0 (.int .i64 kind2) rfl
  have c1_1 := box_cell wh1 1 (.int .i64 ok2) rfl
  have c1_2 := box_cell wh1 2 (.int .i64 x2) rfl
  have c1_3 := box_cell wh1 3 (.int .i64 y2) rfl
  have c1_4 := box_cell wh1 4 (.string key2) rfl
  have c1_5 := box_cell wh1 5 (.string val2) rfl
  have c1_6 := box_cell wh1 6 (.int .i64 cl2) rfl
  have c1_7 := box_cell wh1 7 (.int .i64 seq2) rfl
  have c1_8 := box_cell wh1 8 (.int .i64 nd2) rfl
  have c1_9 := box_cell wh1 9 (.int .i64 ep2) rfl
  have c1_10 := box_cell wh1 10 (.int .i64 bx2) rfl
  have c1_11 := box_cell wh1 11 (.slice ca2 cn2 cc2) rfl
  have hsr := Since.refl w0
  have hsd := hsr.drew
  clear hw0 wh0 wh1
  go_enter Tryd.func3, Tryd.ntmps3
  go_wp2_with fail
  rw [← HW.out]
  go_wp2_with fail
  refine (light11_any kind ok x y key val cl seq nd ep bx ca cn cc HL.out _).mono ?_
  rintro e w1 ⟨rfl, hb1⟩
  have hs1 : Since w0 w1 := hb1
  go_wp2_with fail
  refine (light11_any kind2 ok2 x2 y2 key2 val2 cl2 seq2 nd2 ep2 bx2 ca2 cn2 cc2 HL2.out _).mono ?_
  rintro e w2 ⟨rfl, hb2⟩
  go_wp2_with fail
  refine (knows11_any _).mono ?_
  rintro e w9 ⟨rfl, hb9⟩
  go_wp2
  go_ret
  exact ⟨rfl, ((hs0.trans hb1).trans hb2).trans hb9⟩
set_option maxRecDepth 100000 in
set_option maxHeartbeats 3200000 in
theorem elooks_c (hl : lightB11 key val cn = true) (hl2 : lightB11 key2 val2 cn2 = true) (h40 : (mn : Int) > 40) : Calls Tryd.prog 3 #[.agg #[.int .i64 kind, .int .i64 ok, .int .i64 x, .int .i64 y, .string key, .string val, .int .i64 cl, .int .i64 seq, .int .i64 nd, .int .i64 ep, .int .i64 bx, .slice ca cn cc], .agg #[.int .i64 kind2, .int .i64 ok2, .int .i64 x2, .int .i64 y2, .string key2, .string val2, .int .i64 cl2, .int .i64 seq2, .int .i64 nd2, .int .i64 ep2, .int .i64 bx2, .slice ca2 cn2 cc2], .slice mx mn mc, .int .i64 nn] w fun e w' => e = .returned (.bool true) ∧ Below w.heap.size w w' := by
  have HL := Lib.hid hl
  clear hl
  have HL2 := Lib.hid hl2
  clear hl2
  obtain ⟨w0, hw0⟩ : ∃ w0, w0 = (w.alloc (.cells #[.int .i64 kind, .int .i64 ok, .int .i64 x, .int .i64 y, .string key, .string val, .int .i64 cl, .int .i64 seq, .int .i64 nd, .int .i64 ep, .int .i64 bx, .slice ca cn cc] 28)).alloc (.cells #[.int .i64 kind2, .int .i64 ok2, .int .i64 x2, .int .i64 y2, .string key2, .string val2, .int .i64 cl2, .int .i64 seq2, .int .i64 nd2, .int .i64 ep2, .int .i64 bx2, .slice ca2 cn2 cc2] 28) := ⟨_, rfl⟩
  have hs0 : Since w w0 := by rw [hw0]; exact ((Since.refl w).alloc _).alloc _
  have wh0 : Whole w0 (w.heap.size) 28 #[.int .i64 kind, .int .i64 ok, .int .i64 x, .int .i64 y, .string key, .string val, .int .i64 cl, .int .i64 seq, .int .i64 nd, .int .i64 ep, .int .i64 bx, .slice ca cn cc] := by rw [hw0]; exact (Whole.new w _ _).alloc _
  have wh1 : Whole w0 (w.heap.size + 1) 28 #[.int .i64 kind2, .int .i64 ok2, .int .i64 x2, .int .i64 y2, .string key2, .string val2, .int .i64 cl2, .int .i64 seq2, .int .i64 nd2, .int .i64 ep2, .int .i64 bx2, .slice ca2 cn2 cc2] := by rw [hw0]; exact (Whole.new (w.alloc _) _ _).at_ (by simp)
  have HW := Lib.hid hw0
  have c0_0 := box_cell wh0 0 (.int .i64 kind) rfl
  have c0_1 := box_cell wh0 1 (.int .i64 ok) rfl
  have c0_2 := box_cell wh0 2 (.int .i64 x) rfl
  have c0_3 := box_cell wh0 3 (.int .i64 y) rfl
  have c0_4 := box_cell wh0 4 (.string key) rfl
  have c0_5 := box_cell wh0 5 (.string val) rfl
  have c0_6 := box_cell wh0 6 (.int .i64 cl) rfl
  have c0_7 := box_cell wh0 7 (.int .i64 seq) rfl
  have c0_8 := box_cell wh0 8 (.int .i64 nd) rfl
  have c0_9 := box_cell wh0 9 (.int .i64 ep) rfl
  have c0_10 := box_cell wh0 10 (.int .i64 bx) rfl
  have c0_11 := box_cell wh0 11 (.slice ca cn cc) rfl
  have c1_0 := box_cell wh1 0 (.int .i64 kind2) rfl
  have c1_1 := box_cell wh1 1 (.int .i64 ok2) rfl
  have c1_2 := box_cell wh1 2 (.int .i64 x2) rfl
  have c1_3 := box_cell wh1 3 (.int .i64 y2) rfl
  have c1_4 := box_cell wh1 4 (.string key2) rfl
  have c1_5 := box_cell wh1 5 (.string val2) rfl
  have c1_6 := box_cell wh1 6 (.int .i64 cl2) rfl
  have c1_7 := box_cell wh1 7 (.int .i64 seq2) rfl
  have c1_8 := box_cell wh1 8 (.int .i64 nd2) rfl
  have c1_9 := box_cell wh1 9 (.int .i64 ep2) rfl
  have c1_10 := box_cell wh1 10 (.int .i64 bx2) rfl
  have c1_11 := box_cell wh1 11 (.slice ca2 cn2 cc2) rfl
  have hsr := Since.refl w0
  have hsd := hsr.drew
  clear hw0 wh0 wh1
  go_enter Tryd.func3, Tryd.ntmps3
  go_wp2_with fail
  rw [← HW.out]
  go_wp2_with fail
  refine (light11_any kind ok x y key val cl seq nd ep bx ca cn cc HL.out _).mono ?_
  rintro e w1 ⟨rfl, hb1⟩
  have hs1 : Since w0 w1 := hb1
  go_wp2_with fail
  refine (light11_any kind2 ok2 x2 y2 key2 val2 cl2 seq2 nd2 ep2 bx2 ca2 cn2 cc2 HL2.out _).mono ?_
  rintro e w2 ⟨rfl, hb2⟩
  go_wp2_with fail
  refine (knows11_any _).mono ?_
  rintro e w9 ⟨rfl, hb9⟩
  go_wp2
  go_ret
  exact ⟨rfl, ((hs0.trans hb1).trans hb2).trans hb9⟩
set_option maxRecDepth 100000 in
set_option maxHeartbeats 25600000 in
theorem elooks_main (h : LZ w.heap.size w (.slice ca cn cc) l) (h2 : LZ w.heap.size w (.slice ca2 cn2 cc2) l2) (hm : LZ w.heap.size w (.slice mx mn mc) m) (hl : lightB11 key val cn = true) (hl2 : lightB11 key2 val2 cn2 = true) (h40 : mn ≤ 40) : Calls Tryd.prog 3 #[.agg #[.int .i64 kind, .int .i64 ok, .int .i64 x, .int .i64 y, .string key, .string val, .int .i64 cl, .int .i64 seq, .int .i64 nd, .int .i64 ep, .int .i64 bx, .slice ca cn cc], .agg #[.int .i64 kind2, .int .i64 ok2, .int .i64 x2, .int .i64 y2, .string key2, .string val2, .int .i64 cl2, .int .i64 seq2, .int .i64 nd2, .int .i64 ep2, .int .i64 bx2, .slice ca2 cn2 cc2], .slice mx mn mc, .int .i64 nn] w fun e w' => e = .returned (.bool true) ∧ Below w.heap.size w w' := by
  have hc1 := light11_len hl
  have hc2 := light11_len hl2
  have hn1 := h.len
  have hn2 := h2.len
  have hn3 := hm.len
  have HLT := Lib.hid hl
  have HLT2 := Lib.hid hl2
  have HC := Lib.hid (fun W (hW : Since w W) => h.since hW (Nat.le_refl _))
  have HC2 := Lib.hid (fun W (hW : Since w W) => h2.since hW (Nat.le_refl _))
  have HCM := Lib.hid (fun W (hW : Since w W) => hm.since hW (Nat.le_refl _))
  have HN := Lib.hid (show l.length ≤ 40 ∧ l2.length ≤ 40 ∧ m.length ≤ 40 from ⟨by omega, by omega, by omega⟩)
  have HLN := Lib.hid (And.intro hn1 hn3)
  have g40 : ¬ ((mn : Int) > 40) := by omega
  obtain ⟨b1, hB1⟩ : ∃ b, rightB (⟨kind, ok, x, y, key, val, cl, seq, nd, ep, bx⟩ : En) l = b := ⟨_, rfl⟩
  obtain ⟨L1, hL1⟩ : ∃ L, (if b1 then entL (⟨kind, ok, x, y, key, val, cl, seq, nd, ep, bx⟩ : En) l else []) = L := ⟨_, rfl⟩
  obtain ⟨E1, hE1⟩ : ∃ E : Int, (if b1 then 0 else 1) = E := ⟨_, rfl⟩
  have eq1 : (E1 == 0) = b1 := by rw [← hE1]; cases b1 <;> rfl
  have le1 : decide (E1 ≤ 1) = true := by rw [← hE1]; cases b1 <;> rfl
  obtain ⟨b2, hB2⟩ : ∃ b, chainB m = b := ⟨_, rfl⟩
  obtain ⟨L2, hL2⟩ : ∃ L, (if b2 then chainL m else []) = L := ⟨_, rfl⟩
  obtain ⟨E2, hE2⟩ : ∃ E : Int, (if b2 then 0 else 1) = E := ⟨_, rfl⟩
  have eq2 : (E2 == 0) = b2 := by rw [← hE2]; cases b2 <;> rfl
  have le2 : decide (E2 ≤ 1) = true := by rw [← hE2]; cases b2 <;> rfl
  have le1' : E1 ≤ 1 := of_decide_eq_true le1
  have le2' : E2 ≤ 1 := of_decide_eq_true le2
  obtain ⟨pE, hpE⟩ : ∃ b, plainE (⟨kind, ok, x, y, key, val, cl, seq, nd, ep, bx⟩ : En) (⟨kind2, ok2, x2, y2, key2, val2, cl2, seq2, nd2, ep2, bx2⟩ : En) = b := ⟨_, rfl⟩
  obtain ⟨sE, hsE⟩ : ∃ b, sameZ l l2 = b := ⟨_, rfl⟩
  have HB1 := Lib.hid hB1
  have HL1 := Lib.hid hL1
  have HE1 := Lib.hid hE1
  have HB2 := Lib.hid hB2
  have HL2 := Lib.hid hL2
  have HE2 := Lib.hid hE2
  have HPE := Lib.hid hpE
  have HSE := Lib.hid hsE
  clear h h2 hm hl hl2 hc1 hc2 hn1 hn2 hn3 hB1 hL1 hE1 hB2 hL2 hE2 hpE hsE h40
  obtain ⟨w0, hw0⟩ : ∃ w0, w0 = (w.alloc (.cells #[.int .i64 kind, .int .i64 ok, .int .i64 x, .int .i64 y, .string key, .string val, .int .i64 cl, .int .i64 seq, .int .i64 nd, .int .i64 ep, .int .i64 bx, .slice ca cn cc] 28)).alloc (.cells #[.int .i64 kind2, .int .i64 ok2, .int .i64 x2, .int .i64 y2, .string key2, .string val2, .int .i64 cl2, .int .i64 seq2, .int .i64 nd2, .int .i64 ep2, .int .i64 bx2, .slice ca2 cn2 cc2] 28) := ⟨_, rfl⟩
  have hs0 : Since w w0 := by rw [hw0]; exact ((Since.refl w).alloc _).alloc _
  have wh0 : Whole w0 (w.heap.size) 28 #[.int .i64 kind, .int .i64 ok, .int .i64 x, .int .i64 y, .string key, .string val, .int .i64 cl, .int .i64 seq, .int .i64 nd, .int .i64 ep, .int .i64 bx, .slice ca cn cc] := by rw [hw0]; exact (Whole.new w _ _).alloc _
  have wh1 : Whole w0 (w.heap.size + 1) 28 #[.int .i64 kind2, .int .i64 ok2, .int .i64 x2, .int .i64 y2, .string key2, .string val2, .int .i64 cl2, .int .i64 seq2, .int .i64 nd2, .int .i64 ep2, .int .i64 bx2, .slice ca2 cn2 cc2] := by rw [hw0]; exact (Whole.new (w.alloc _) _ _).at_ (by simp)
  have HW := Lib.hid hw0
  have c0_0 := box_cell wh0 0 (.int .i64 kind) rfl
  have c0_1 := box_cell wh0 1 (.int .i64 ok) rfl
  have c0_2 := box_cell wh0 2 (.int .i64 x) rfl
  have c0_3 := box_cell wh0 3 (.int .i64 y) rfl
  have c0_4 := box_cell wh0 4 (.string key) rfl
  have c0_5 := box_cell wh0 5 (.string val) rfl
  have c0_6 := box_cell wh0 6 (.int .i64 cl) rfl
  have c0_7 := box_cell wh0 7 (.int .i64 seq) rfl
  have c0_8 := box_cell wh0 8 (.int .i64 nd) rfl
  have c0_9 := box_cell wh0 9 (.int .i64 ep) rfl
  have c0_10 := box_cell wh0 10 (.int .i64 bx) rfl
  have c0_11 := box_cell wh0 11 (.slice ca cn cc) rfl
  have c1_0 := box_cell wh1 0 (.int .i64 kind2) rfl
  have c1_1 := box_cell wh1 1 (.int .i64 ok2) rfl
  have c1_2 := box_cell wh1 2 (.int .i64 x2) rfl
  have c1_3 := box_cell wh1 3 (.int .i64 y2) rfl
  have c1_4 := box_cell wh1 4 (.string key2) rfl
  have c1_5 := box_cell wh1 5 (.string val2) rfl
  have c1_6 := box_cell wh1 6 (.int .i64 cl2) rfl
  have c1_7 := box_cell wh1 7 (.int .i64 seq2) rfl
  have c1_8 := box_cell wh1 8 (.int .i64 nd2) rfl
  have c1_9 := box_cell wh1 9 (.int .i64 ep2) rfl
  have c1_10 := box_cell wh1 10 (.int .i64 bx2) rfl
  have c1_11 := box_cell wh1 11 (.slice ca2 cn2 cc2) rfl
  have hsr := Since.refl w0
  have hsd := hsr.drew
  clear hw0
  have HWH := Lib.hid (And.intro wh0 wh1)
  clear wh0 wh1
  go_enter Tryd.func3, Tryd.ntmps3
  go_wp2_with fail
  rw [← HW.out]
  go_wp2_with fail
  refine (light11_any kind ok x y key val cl seq nd ep bx ca cn cc HLT.out _).mono ?_
  rintro e w1 ⟨rfl, hb1⟩
  have hs1 : Since w0 w1 := hb1
  go_wp2_with fail
  refine (light11_any kind2 ok2 x2 y2 key2 val2 cl2 seq2 nd2 ep2 bx2 ca2 cn2 cc2 HLT2.out _).mono ?_
  rintro e w2 ⟨rfl, hb2⟩
  have hs2 : Since w0 w2 := hs1.trans hb2
  clear hb1 hb2
  go_wp2_with fail
  refine (own11_any (HC.out _ (hs0.trans hs2)) (hs0.trans hs2).size_ (by have := HN.out.1; omega)).mono ?_
  rintro e w3 ⟨xa, na, da, rfl, hra, hb3⟩
  have hs3 : Since w0 w3 := hs2.trans hb3
  go_wp2_with fail
  refine (put11_at (RZ.lz hra) (Nat.le_refl _) (by have := HN.out.1; omega) HB1.out HL1.out HE1.out).mono ?_
  rintro e w4 ⟨A4, n4, c4, rfl, hh4, hb4⟩
  have hs4 : Since w0 w4 := hs3.trans hb4
  clear hra hb3 hb4
  have hp4 := (HCM.out _ ((hs0.trans hs4).alloc (.cells #[] 3))).part
  go_wp2_with (at_builtin; refine wpList_append_part rfl (.tmp 42) (.tmp 43) 26 rfl w4.heap.size 3 _ 8 Tryd.underlying26 infoZ rfl (by decide) (RowE.empty (enc := encZ) (n := 1) w4 3) hp4 encZ_len encZ_one rfl rfl (by have := HN.out.2.2; rw [List.length_nil]; omega) (by decide) (by simp) ?_; intro v5 w5 hr5 hoff5; have hs45 : Since w4 w5 := off_since2 hoff5 ((Since.refl w4).alloc _) (fun b e => by injection e with e; exact Nat.le_of_eq e); obtain ⟨x5, m5, c5, rfl⟩ := RowE.shape3 hr5)
  rw [List.nil_append] at hr5
  refine (putChain_at (RZ.lz hr5) (Nat.le_refl _) (by have := HN.out.2.2; omega) HB2.out HL2.out HE2.out).mono ?_
  rintro e w6 ⟨A6, n6, c6, rfl, hh6, hb6⟩
  have hs46 : Since w4 w6 := hs45.trans hb6
  have hs6 : Since w0 w6 := hs4.trans hs46
  have hh4 := hh4.below hs46
  clear hp4 hr5 hoff5 hs45 hb6 hs46
  go_wp2_with fail
  refine (own11_any (HC.out _ (hs0.trans hs6)) (hs0.trans hs6).size_ (by have := HN.out.1; omega)).mono ?_
  rintro e w7 ⟨xb, nb, db, rfl, hrb, hb7⟩
  have hs7 : Since w0 w7 := hs6.trans hb7
  go_wp2_with fail
  refine (heirs_any (RZ.lz hrb) (Nat.le_refl _) (by have := HN.out.1; omega)).mono ?_
  rintro e w8 ⟨v8, v9, rfl, hq1, hq2, hb8⟩
  have hs8 : Since w0 w8 := hs7.trans hb8
  obtain ⟨x8, m8, d8, rfl⟩ := RowE.shape3 hq1
  obtain ⟨x9, m9, d9, rfl⟩ := RowE.shape3 hq2
  clear hrb
  go_wp2_with fail
  refine (refHeirs_any (HC.out _ (hs0.trans hs8)) (hs0.trans hs8).size_ (by have := HN.out.1; omega)).mono ?_
  rintro e wa ⟨va, vb, rfl, hq3, hq4, hba⟩
  have hsa : Since w0 wa := hs8.trans hba
  obtain ⟨xa2, ma, da2, rfl⟩ := RowE.shape3 hq3
  obtain ⟨xb2, mb, db2, rfl⟩ := RowE.shape3 hq4
  replace hq1 := RZ.since hq1 hba
  replace hq2 := RZ.since hq2 hba
  have h6a : Since w6 wa := Since.trans (Since.trans hb7 hb8) hba
  have hh4 := hh4.below h6a
  have hh6 := hh6.below h6a
  clear hb7 hb8 hba h6a
  have hpa := (HCM.out _ ((hs0.trans hsa).alloc (.cells #[] 3))).part
  go_wp2_with (at_builtin; refine wpList_append_part rfl (.tmp 59) (.tmp 60) 26 rfl wa.heap.size 3 _ 8 Tryd.underlying26 infoZ rfl (by decide) (RowE.empty (enc := encZ) (n := 1) wa 3) hpa encZ_len encZ_one rfl rfl (by have := HN.out.2.2; rw [List.length_nil]; omega) (by decide) (by simp) ?_; intro vd wd hrd hoffd; have hsad : Since wa wd := off_since2 hoffd ((Since.refl wa).alloc _) (fun b e => by injection e with e; exact Nat.le_of_eq e); obtain ⟨xd, md, dd, rfl⟩ := RowE.shape3 hrd)
  rw [List.nil_append] at hrd
  have hsd2 : Since w0 wd := hsa.trans hsad
  replace hq1 := RZ.since hq1 hsad
  replace hq2 := RZ.since hq2 hsad
  replace hq3 := RZ.since hq3 hsad
  replace hq4 := RZ.since hq4 hsad
  clear hpa hoffd
  refine (without_any (RZ.lz hrd) (Nat.le_refl _) (by have := HN.out.2.2; omega)).mono ?_
  rintro e we ⟨ve, rfl, hre, hbe⟩
  obtain ⟨xe, me, de, rfl⟩ := RowE.shape3 hre
  have hse : Since w0 we := hsd2.trans hbe
  go_wp2_with fail
  refine (refWithout_any (HCM.out _ (hs0.trans hse)) (hs0.trans hse).size_ (by have := HN.out.2.2; omega)).mono ?_
  rintro e wf ⟨vf, rfl, hrf, hbf⟩
  obtain ⟨xf, mf, df, rfl⟩ := RowE.shape3 hrf
  have hsf : Since w0 wf := hse.trans hbf
  go_wp2_with fail
  refine (sameList_any (RZ.lz (RZ.since hre hbf)) (RZ.lz hrf) (Nat.le_refl _) (by have := lessL_le m nn; have := HN.out.2.2; omega) ((sameZ_iff _ _).2 rfl)).mono ?_
  rintro e wg ⟨rfl, hbg⟩
  have hsg : Since w0 wg := hsf.trans hbg
  have hdg : Since wd wg := Since.trans (Since.trans hbe hbf) hbg
  go_wp2_with fail
  refine (sameList_any (RZ.lz (RZ.since hrd hdg)) ((HCM.out _ (hs0.trans hsg)).mono (hs0.trans hsg).size_) (Nat.le_refl _) (by have := HN.out.2.2; omega) ((sameZ_iff _ _).2 rfl)).mono ?_
  rintro e wh ⟨rfl, hbh⟩
  have hsh : Since w0 wh := hsg.trans hbh
  have hdh : Since wd wh := hdg.trans hbh
  go_wp2_with fail
  refine (sameList_any (RZ.lz (RZ.since hq1 hdh)) (RZ.lz (RZ.since hq3 hdh)) (Nat.le_refl _) (heirs_short1 (by have := HN.out.1; omega)) ((sameZ_iff _ _).2 rfl)).mono ?_
  rintro e wi ⟨rfl, hbi⟩
  have hsi : Since w0 wi := hsh.trans hbi
  have hdi : Since wd wi := hdh.trans hbi
  go_wp2_with fail
  refine (sameList_any (RZ.lz (RZ.since hq2 hdi)) (RZ.lz (RZ.since hq4 hdi)) (Nat.le_refl _) (heirs_short2 (by have := HN.out.1; omega)) ((sameZ_iff _ _).2 rfl)).mono ?_
  rintro e wj ⟨rfl, hbj⟩
  have hsj : Since w0 wj := hsi.trans hbj
  have hdj : Since wd wj := hdi.trans hbj
  have hrd := RZ.since hrd hdj
  have hh4 := hh4.below (hsad.trans hdj)
  have hh6 := hh6.below (hsad.trans hdj)
  clear hre hrf hbe hbf hbg hbh hbi hbj hse hsf hsg hsh hsi hdg hdh hdi hdj hq1 hq2 hq3 hq4 hsad hsa hsd2 hs1 hs2 hs3 hs4 hs6 hs7 hs8
  obtain ⟨wk, hwk⟩ : ∃ W0, W0 = wj := ⟨_, rfl⟩
  rw [← hwk] at hrd hh4 hh6 hsj ⊢
  clear hwk
  go_wp2_with fail
  refine (own11_any (HC.out _ (hs0.trans hsj)) (hs0.trans hsj).size_ (by have := HN.out.1; omega)).mono ?_
  rintro e wl ⟨xc, nc, dc, rfl, hrc, hbl⟩
  have hsl : Since w0 wl := hsj.trans hbl
  have hsk : Since wk wl := hbl
  obtain ⟨I1, hI1⟩ : ∃ I, I = wl.heap.size := ⟨_, rfl⟩
  obtain ⟨wm, hwm⟩ : ∃ W0, W0 = wl.alloc (.cells #[.int .i64 kind, .int .i64 ok, .int .i64 x, .int .i64 y, .string key, .string val, .int .i64 cl, .int .i64 seq, .int .i64 nd, .int .i64 ep, .int .i64 bx, .slice xc nc dc] 37) := ⟨_, rfl⟩
  have hlm : Since wl wm := by rw [hwm]; exact (Since.refl wl).alloc _
  have hW1 : Whole wm I1 37 #[.int .i64 kind, .int .i64 ok, .int .i64 x, .int .i64 y, .string key, .string val, .int .i64 cl, .int .i64 seq, .int .i64 nd, .int .i64 ep, .int .i64 bx, .slice xc nc dc] := by rw [hwm, hI1]; exact Whole.new wl _ _
  have HWM := Lib.hid (And.intro hwm hI1)
  clear hwm hbl hI1
  go_wp2_with fail
  rw [← HWM.out.1, ← HWM.out.2]
  have hrm := RZ.since hrc hlm
  refine (eclone_any (RZ.lz hrm) (Nat.le_refl _) (by have := HN.out.1; omega)).mono ?_
  rintro e wn ⟨xn, nq, dn, rfl, hrn, hbn⟩
  have hmn : Since wm wn := hbn
  obtain ⟨I2, hI2⟩ : ∃ I, I = wn.heap.size := ⟨_, rfl⟩
  obtain ⟨wo, hwo⟩ : ∃ W0, W0 = wn.alloc (.cells #[.int .i64 kind, .int .i64 ok, .int .i64 x, .int .i64 y, .string key, .string val, .int .i64 cl, .int .i64 seq, .int .i64 nd, .int .i64 ep, .int .i64 bx, .slice xn nq dn] 37) := ⟨_, rfl⟩
  have hno : Since wn wo := by rw [hwo]; exact (Since.refl wn).alloc _
  have hW2 : Whole wo I2 37 #[.int .i64 kind, .int .i64 ok, .int .i64 x, .int .i64 y, .string key, .string val, .int .i64 cl, .int .i64 seq, .int .i64 nd, .int .i64 ep, .int .i64 bx, .slice xn nq dn] := by rw [hwo, hI2]; exact Whole.new wn _ _
  have hmo : Since wm wo := hmn.trans hno
  have hW1o := Since.whole hmo hW1
  have HWO := Lib.hid (And.intro hwo hI2)
  have hrno := RZ.since hrn hno
  have hrco := RZ.since hrm hmo
  have hsz1 : wk.heap.size ≤ I1 := by rw [HWM.out.2]; exact hsk.size_
  have hsz2 : I1 < wm.heap.size := hW1.lt
  have hsz3 : wm.heap.size ≤ I2 := by rw [HWO.out.2]; exact hmn.size_
  have hko : Since wk wo := (hsk.trans hlm).trans hmo
  have hs0o : Since w0 wo := hsj.trans hko
  have hcF : ∀ b, (Value.slice xc nc dc).ownBlock = some b → wk.heap.size ≤ b ∧ b < I1 := fun b hb => ⟨(RowE.own hrc b hb).1, by have := (RowE.own hrc b hb).2; rw [HWM.out.2]; exact this⟩
  clear hwo hI2 hbn hrm hrn hW1 hsk hlm hno hmn hmo hrc
  go_wp2_with fail
  try rw [← HWO.out.1, ← HWO.out.2]
  have hnc : l.length = nc := (RZ.lz hrco).len
  have hblk0 : 0 < nc → ∃ g cur, xc = some ⟨g, 0, none⟩ ∧ Whole wo g 3 cur ∧ nc ≤ cur.size := fun h => by obtain ⟨g, cur, z1, _, z2, z3⟩ := RZ.block hrco hnc h; exact ⟨g, cur, z1, z2, z3⟩
  have hnc40 : nc ≤ 40 := by have := HN.out.1; omega
  have HLAST := Lib.hid (And.intro hW1o (And.intro hW2 (And.intro hrno (And.intro hrd (And.intro hh4 (And.intro hh6 (And.intro hsj (And.intro hko (And.intro hs0o (And.intro hcF (And.intro hs0 (And.intro hsz1 (And.intro hsz2 hsz3)))))))))))))
  have HC0 := Lib.hid (fun W (hW : Since w0 W) => And.intro (And.intro (c0_0 W hW) (And.intro (c0_1 W hW) (And.intro (c0_2 W hW) (And.intro (c0_3 W hW) (And.intro (c0_4 W hW) (c0_5 W hW)))))) (And.intro (c0_6 W hW) (And.intro (c0_7 W hW) (And.intro (c0_8 W hW) (And.intro (c0_9 W hW) (And.intro (c0_10 W hW) (c0_11 W hW)))))))
  have HC1 := Lib.hid (fun W (hW : Since w0 W) => And.intro (And.intro (c1_0 W hW) (And.intro (c1_1 W hW) (And.intro (c1_2 W hW) (And.intro (c1_3 W hW) (And.intro (c1_4 W hW) (c1_5 W hW)))))) (And.intro (c1_6 W hW) (And.intro (c1_7 W hW) (And.intro (c1_8 W hW) (And.intro (c1_9 W hW) (And.intro (c1_10 W hW) (c1_11 W hW)))))))
  clear hW1o hW2 hrno hrd hh4 hh6 hsj hko hs0o hcF hs0 hsz1 hsz2 hsz3 hrco hsr hsd hnc c0_0 c0_1 c0_2 c0_3 c0_4 c0_5 c0_6 c0_7 c0_8 c0_9 c0_10 c0_11 c1_0 c1_1 c1_2 c1_3 c1_4 c1_5 c1_6 c1_7 c1_8 c1_9 c1_10 c1_11
  go_loopw [20] (fun i wr => ∃ k : Nat, i = .int .i64 (k : Int) ∧ k ≤ nc ∧ Off (fun b => (Value.slice xc nc dc).ownBlock = some b) wo wr ∧ (0 < nc → ∃ g cur, xc = some ⟨g, 0, none⟩ ∧ Whole wr g 3 cur ∧ nc ≤ cur.size)) (fun i _ => nc - (intOf i).toNat)
  case atStart => exact ⟨0, rfl, Nat.zero_le _, Off.refl _ _, hblk0⟩
  case round =>
    obtain ⟨k, rfl, hk, hoff, hblk⟩ := hrel
    clear hblk0
    have hI1 : ¬ ((Value.slice xc nc dc).ownBlock = some I1) := fun e => Nat.lt_irrefl _ (HLAST.out.2.2.2.2.2.2.2.2.2.1 _ e).2
    have d11 : wr.cell? ⟨I1, 11, none⟩ = some (.slice xc nc dc) := ((hoff.whole HLAST.out.1 hI1).cell 11).trans rfl
    clear hI1
    by_cases hlt : k < nc
    · obtain ⟨g, cur, rfl, hWg, hcur⟩ := hblk (by omega)
      have hkc : k < cur.size := by omega
      have ak := (hWg.cell k).trans (Array.getElem?_eq_getElem hkc)
      have fk := hWg.frozen k
      have HX := Lib.hid (And.intro (hWg.set_ k (.int .i64 99)) (And.intro (hoff.setCell (p := ⟨g, k, none⟩) (.inr rfl) (.int .i64 99)) (show nc ≤ (cur.setIfInBounds k (Value.int .i64 99)).size by rw [Array.size_setIfInBounds]; exact hcur)))
      have hlt' : (k : Int) < nc := by omega
      clear hWg hoff hblk hcur
      generalize cur[k] = vk at ak
      clear hkc
      go_wp2
      go_roundw
      case rel => exact ⟨k + 1, by go_num, by omega, HX.out.2.1, fun _ => ⟨g, _, rfl, HX.out.1, HX.out.2.2⟩⟩
      case measure => simp [intOf]; omega
    · have hlt' : ¬ ((k : Int) < nc) := by omega
      obtain ⟨hW1o, hW2, hrno, hrd, hh4, hh6, hsj, hko, hs0o, hcF, hs0, hsz1, hsz2, hsz3⟩ := HLAST.out
      have hbl : Below wk.heap.size wo wr := hoff.below hko.size_ (fun b hb => (hcF b hb).1)
      have hsR : Since w0 wr := Below.trans (show Below w0.heap.size w0 wo from hs0o) (Below.mono hbl hsj.size_)
      have hkr : Since wk wr := Below.trans (show Below wk.heap.size wk wo from hko) hbl
      have hWd := hoff.whole hW2 (fun e => by have := (hcF _ e).2; omega)
      have hrnr := RowE.off hrno hoff (fun b hb e => by have := (hcF b e).2; have := (RowE.own hrno b hb).1; omega)
      have HSR := Lib.hid (And.intro hs0 hsR)
      have HA := Lib.hid (fun W (hW : Since wr W) => (HC.out W ((hs0.trans hsR).trans hW)).mono ((hs0.trans hsR).trans hW).size_)
      have HA2 := Lib.hid (fun W (hW : Since wr W) => (HC2.out W ((hs0.trans hsR).trans hW)).mono ((hs0.trans hsR).trans hW).size_)
      have HAM := Lib.hid (fun W (hW : Since wr W) => (HCM.out W ((hs0.trans hsR).trans hW)).mono ((hs0.trans hsR).trans hW).size_)
      have HD := Lib.hid (fun W (hW : Since wr W) => RZ.lz (RZ.since (RZ.since hrd hkr) hW))
      have HDN := Lib.hid (fun W (hW : Since wr W) => RZ.lz (RZ.since hrnr hW))
      have h4r := hh4.below hkr
      have h6r := hh6.below hkr
      have txx := fun W (hW : Since wr W) => text_of W n4 c4 (h4r.rd.below hW (Nat.le_refl _)) h4r.len
      have txy := fun W (hW : Since wr W) => text_of W n6 c6 (h6r.rd.below hW (Nat.le_refl _)) h6r.len
      have HS9 := Lib.hid (show l.length ≤ 1000 by have := HN.out.1; omega)
      have HS6 := Lib.hid (show l.length ≤ 1000000 by have := HN.out.1; omega)
      have HS92 := Lib.hid (show l2.length ≤ 1000 by have := HN.out.2.1; omega)
      have HM9 := Lib.hid (show m.length ≤ 1000 by have := HN.out.2.2; omega)
      have HM6 := Lib.hid (show m.length ≤ 1000000 by have := HN.out.2.2; omega)
      obtain ⟨va, hva⟩ : ∃ v, v = Value.agg #[.int .i64 kind, .int .i64 ok, .int .i64 x, .int .i64 y, .string key, .string val, .int .i64 cl, .int .i64 seq, .int .i64 nd, .int .i64 ep, .int .i64 bx, .slice ca cn cc] := ⟨_, rfl⟩
      obtain ⟨vb, hvb⟩ : ∃ v, v = Value.agg #[.int .i64 kind2, .int .i64 ok2, .int .i64 x2, .int .i64 y2, .string key2, .string val2, .int .i64 cl2, .int .i64 seq2, .int .i64 nd2, .int .i64 ep2, .int .i64 bx2, .slice ca2 cn2 cc2] := ⟨_, rfl⟩
      obtain ⟨vd, hvd⟩ : ∃ v, v = Value.agg #[.int .i64 kind, .int .i64 ok, .int .i64 x, .int .i64 y, .string key, .string val, .int .i64 cl, .int .i64 seq, .int .i64 nd, .int .i64 ep, .int .i64 bx, .slice xn nq dn] := ⟨_, rfl⟩
      have HLA := Lib.hid (fun W (hW : Since wr W) => (show (Instr.loadAt 28 (.pointer (some ⟨w.heap.size, 0, none⟩))).run Tryd.prog W = .ok va W by rw [hva]; exact load_box (Since.whole (hsR.trans hW) HWH.out.1) Tryd.underlying28 rfl (by kernel_rfl)))
      have HLB := Lib.hid (fun W (hW : Since wr W) => (show (Instr.loadAt 28 (.pointer (some ⟨w.heap.size + 1, 0, none⟩))).run Tryd.prog W = .ok vb W by rw [hvb]; exact load_box (Since.whole (hsR.trans hW) HWH.out.2) Tryd.underlying28 rfl (by kernel_rfl)))
      have HLD := Lib.hid (fun W (hW : Since wr W) => (show (Instr.loadAt 37 (.pointer (some ⟨I2, 0, none⟩))).run Tryd.prog W = .ok vd W by rw [hvd]; exact load_box (Since.whole hW hWd) Tryd.underlying37 rfl (by kernel_rfl)))
      have HVA := Lib.hid (fun W (hW : Since wr W) => (show EnV va (⟨kind, ok, x, y, key, val, cl, seq, nd, ep, bx⟩ : En) l W from ⟨ca, cn, cc, hva, HA.out W hW⟩))
      have HVB := Lib.hid (fun W (hW : Since wr W) => (show EnV vb (⟨kind2, ok2, x2, y2, key2, val2, cl2, seq2, nd2, ep2, bx2⟩ : En) l2 W from ⟨ca2, cn2, cc2, hvb, HA2.out W hW⟩))
      have HVD := Lib.hid (fun W (hW : Since wr W) => (show EnV vd (⟨kind, ok, x, y, key, val, cl, seq, nd, ep, bx⟩ : En) l W from ⟨xn, nq, dn, hvd, HDN.out W hW⟩))
      rw [← hva, ← hvb, ← hvd]
      clear hva hvb hvd
      generalize Value.agg #[.int .i64 kind, .int .i64 ok, .int .i64 x, .int .i64 y, .string key, .string val, .int .i64 cl, .int .i64 seq, .int .i64 nd, .int .i64 ep, .int .i64 bx, .slice xa na da] = ua
      generalize Value.agg #[.int .i64 kind, .int .i64 ok, .int .i64 x, .int .i64 y, .string key, .string val, .int .i64 cl, .int .i64 seq, .int .i64 nd, .int .i64 ep, .int .i64 bx, .slice xb nb db] = ub
      generalize Value.agg #[.int .i64 kind, .int .i64 ok, .int .i64 x, .int .i64 y, .string key, .string val, .int .i64 cl, .int .i64 seq, .int .i64 nd, .int .i64 ep, .int .i64 bx, .slice xc nc dc] = uc
      have hsdr := (Since.refl wr).drew
      clear hoff hblk hW1o hW2 hrno hrd hh4 hh6 hsj hko hs0o hcF hs0 hsz1 hsz2 hsz3 hbl hsR hkr hWd hrnr h4r h6r
      go_wp2_with fail
      refine wp_region_held_drew (S := fun W => Since wr W) (by kernel_rfl) hsdr (fun hHeld => ?_)
      generalize wr.drew = wq at hHeld ⊢
      refine wpAnyH_take (i := 0) (v := ?_) rfl (by kernel_rfl) (by kernel_rfl) (by kernel_rfl) (fun _ _ _ h => h) (Or.inl ⟨by rfl, ?_⟩) (by assumption) ?_
      rotate_left 1
      · (intro W hW; clear hW; go_simp; try with_reducible rfl)
      simp only [Act.put, List.getElem_toArray, List.getElem_cons_zero, List.setIfInBounds_toArray, List.set_cons_zero, List.set_cons_succ]
      refine wpAnyH_take (i := 1) (v := ?_) rfl (by kernel_rfl) (by kernel_rfl) (by kernel_rfl) (fun _ _ _ h => h) (Or.inl ⟨by rfl, ?_⟩) (by assumption) ?_
      rotate_left 1
      · (intro W hW; skip; go_simp; try with_reducible rfl)
      simp only [Act.put, List.getElem_toArray, List.getElem_cons_succ, List.getElem_cons_zero, List.setIfInBounds_toArray, List.set_cons_zero, List.set_cons_succ]
      refine wpAnyH_take (i := 2) (v := ?_) rfl (by kernel_rfl) (by kernel_rfl) (by kernel_rfl) (fun _ _ _ h => h) (Or.inl ⟨by rfl, ?_⟩) (by assumption) ?_
      rotate_left 1
      · (intro W hW; refine exec_load_is (p := .pointer (some ⟨w.heap.size, 0, none⟩)) (v := va) _ (.tmp 4) ?_ ?_ (HLA.out W hW) <;> rfl)
      simp only [Act.put, List.getElem_toArray, List.getElem_cons_succ, List.getElem_cons_zero, List.setIfInBounds_toArray, List.set_cons_zero, List.set_cons_succ]
      refine wpAnyH_ready (rs := [3]) (by kernel_rfl) (by simp) ?_
      refine AllReadyH.cons rfl (fun K hK => ?_) AllReadyH.nil
      go_simp
      refine (refPutV (HVA.out _ hHeld) HS9.out HB1.out HL1.out).mono ?_
      rintro e wa1 ⟨AF1, nF1, cF1, rfl, hF1, hbf1⟩
      have ty1 := text_of wa1 nF1 cF1 hF1.rd hF1.len
      clear hF1
      go_wp2_with fail
      refine hK.out _ _ (Since.trans hHeld hbf1) (fun hHeld => ?_)
      clear hK K
      try simp only [Act.put, List.getElem_toArray, List.getElem_cons_succ, List.getElem_cons_zero, List.setIfInBounds_toArray, List.set_cons_zero, List.set_cons_succ]
      refine wpAnyH_ready (rs := [4]) (by kernel_rfl) (by simp) ?_
      refine AllReadyH.cons rfl (fun K hK => ?_) AllReadyH.nil
      go_simp
      skip
      refine hK.out _ _ (hHeld) (fun hHeld => ?_)
      clear hK K
      try simp only [Act.put, List.getElem_toArray, List.getElem_cons_succ, List.getElem_cons_zero, List.setIfInBounds_toArray, List.set_cons_zero, List.set_cons_succ]
      refine wpAnyH_take (i := 5) (v := ?_) rfl (by kernel_rfl) (by kernel_rfl) (by kernel_rfl) (fun _ _ _ h => h) (Or.inl ⟨by rfl, ?_⟩) (by assumption) ?_
      rotate_left 1
      · (intro W hW; clear hW; go_simp; try with_reducible rfl)
      simp only [Act.put, List.getElem_toArray, List.getElem_cons_succ, List.getElem_cons_zero, List.setIfInBounds_toArray, List.set_cons_zero, List.set_cons_succ]
      refine wpAnyH_take (i := 6) (v := ?_) rfl (by kernel_rfl) (by kernel_rfl) (by kernel_rfl) (fun _ _ _ h => h) (Or.inl ⟨by rfl, ?_⟩) (by assumption) ?_
      rotate_left 1
      · (intro W hW; clear hW; go_simp; try with_reducible rfl)
      simp only [Act.put, List.getElem_toArray, List.getElem_cons_succ, List.getElem_cons_zero, List.setIfInBounds_toArray, List.set_cons_zero, List.set_cons_succ]
      refine wpAnyH_take (i := 7) (v := ?_) rfl (by kernel_rfl) (by kernel_rfl) (by kernel_rfl) (fun _ _ _ h => h) (Or.inl ⟨by rfl, ?_⟩) (by assumption) ?_
      rotate_left 1
      · (intro W hW; clear hW; go_simp; try with_reducible rfl)
      simp only [Act.put, List.getElem_toArray, List.getElem_cons_succ, List.getElem_cons_zero, List.setIfInBounds_toArray, List.set_cons_zero, List.set_cons_succ]
      refine wpAnyH_take (i := 10) (v := ?_) rfl (by kernel_rfl) (by kernel_rfl) (by kernel_rfl) (fun _ _ _ h => h) (Or.inl ⟨by rfl, ?_⟩) (by assumption) ?_
      rotate_left 1
      · (intro W hW; refine exec_load_is (p := .pointer (some ⟨w.heap.size, 0, none⟩)) (v := va) _ (.tmp 4) ?_ ?_ (HLA.out W hW) <;> rfl)
      simp only [Act.put, List.getElem_toArray, List.getElem_cons_succ, List.getElem_cons_zero, List.setIfInBounds_toArray, List.set_cons_zero, List.set_cons_succ]
      refine wpAnyH_ready (rs := [8]) (by kernel_rfl) (by simp) ?_
      refine AllReadyH.cons rfl (fun K hK => ?_) AllReadyH.nil
      go_simp
      refine (num11_any _ _).mono ?_
      rintro e w9 ⟨rfl, rfl⟩
      go_wp2_with fail
      refine hK.out _ _ (hHeld) (fun hHeld => ?_)
      clear hK K
      try simp only [Act.put, List.getElem_toArray, List.getElem_cons_succ, List.getElem_cons_zero, List.setIfInBounds_toArray, List.set_cons_zero, List.set_cons_succ]
      refine wpAnyH_take (i := 9) (v := ?_) rfl (by kernel_rfl) (by kernel_rfl) (by kernel_rfl) (fun _ _ _ h => h) (Or.inl ⟨by rfl, ?_⟩) (by assumption) ?_
      rotate_left 1
      · (intro W hW; clear hW; go_simp; try with_reducible rfl)
      simp only [Act.put, List.getElem_toArray, List.getElem_cons_succ, List.getElem_cons_zero, List.setIfInBounds_toArray, List.set_cons_zero, List.set_cons_succ]
      refine wpAnyH_ready (rs := [11]) (by kernel_rfl) (by simp) ?_
      refine AllReadyH.cons rfl (fun K hK => ?_) AllReadyH.nil
      go_simp
      refine (refRightV (HVA.out _ hHeld) HS6.out HB1.out).mono ?_
      rintro e wa2 ⟨rfl, hbf2⟩
      go_wp2_with fail
      refine hK.out _ _ (Since.trans hHeld hbf2) (fun hHeld => ?_)
      clear hK K
      try simp only [Act.put, List.getElem_toArray, List.getElem_cons_succ, List.getElem_cons_zero, List.setIfInBounds_toArray, List.set_cons_zero, List.set_cons_succ]
      refine wpAnyH_take (i := 12) (v := ?_) rfl (by kernel_rfl) (by kernel_rfl) (by kernel_rfl) (fun _ _ _ h => h) (Or.inl ⟨by rfl, ?_⟩) (by assumption) ?_
      rotate_left 1
      · (intro W hW; clear hW; go_simp; try with_reducible rfl)
      simp only [Act.put, List.getElem_toArray, List.getElem_cons_succ, List.getElem_cons_zero, List.setIfInBounds_toArray, List.set_cons_zero, List.set_cons_succ]
      refine wpAnyH_take (i := 13) (v := ?_) rfl (by kernel_rfl) (by kernel_rfl) (by kernel_rfl) (fun _ _ _ h => h) (Or.inl ⟨by rfl, ?_⟩) (by assumption) ?_
      rotate_left 1
      · (intro W hW; clear hW; go_simp; try with_reducible rfl)
      simp only [Act.put, List.getElem_toArray, List.getElem_cons_succ, List.getElem_cons_zero, List.setIfInBounds_toArray, List.set_cons_zero, List.set_cons_succ]
      refine wpAnyH_take (i := 14) (v := ?_) rfl (by kernel_rfl) (by kernel_rfl) (by kernel_rfl) (fun _ _ _ h => h) (Or.inl ⟨by rfl, ?_⟩) (by assumption) ?_
      rotate_left 1
      · (intro W hW; clear hW; go_simp; try with_reducible rfl)
      simp only [Act.put, List.getElem_toArray, List.getElem_cons_succ, List.getElem_cons_zero, List.setIfInBounds_toArray, List.set_cons_zero, List.set_cons_succ]
      refine wpAnyH_take (i := 15) (v := ?_) rfl (by kernel_rfl) (by kernel_rfl) (by kernel_rfl) (fun _ _ _ h => h) (Or.inl ⟨by rfl, ?_⟩) (by assumption) ?_
      rotate_left 1
      · (intro W hW; clear hW; go_simp; try with_reducible rfl)
      simp only [Act.put, List.getElem_toArray, List.getElem_cons_succ, List.getElem_cons_zero, List.setIfInBounds_toArray, List.set_cons_zero, List.set_cons_succ]
      refine wpAnyH_ready (rs := [16]) (by kernel_rfl) (by simp) ?_
      refine AllReadyH.cons rfl (fun K hK => ?_) AllReadyH.nil
      go_simp
      refine (num11_any _ _).mono ?_
      rintro e w9 ⟨rfl, rfl⟩
      go_wp2_with fail
      refine hK.out _ _ (hHeld) (fun hHeld => ?_)
      clear hK K
      try simp only [Act.put, List.getElem_toArray, List.getElem_cons_succ, List.getElem_cons_zero, List.setIfInBounds_toArray, List.set_cons_zero, List.set_cons_succ]
      refine wpAnyH_take (i := 17) (v := ?_) rfl (by kernel_rfl) (by kernel_rfl) (by kernel_rfl) (fun _ _ _ h => h) (Or.inl ⟨by rfl, ?_⟩) (by assumption) ?_
      rotate_left 1
      · (intro W hW; clear hW; go_simp; try with_reducible rfl)
      simp only [Act.put, List.getElem_toArray, List.getElem_cons_succ, List.getElem_cons_zero, List.setIfInBounds_toArray, List.set_cons_zero, List.set_cons_succ]
      refine wpAnyH_take (i := 18) (v := ?_) rfl (by kernel_rfl) (by kernel_rfl) (by kernel_rfl) (fun _ _ _ h => h) (Or.inl ⟨by rfl, ?_⟩) (by assumption) ?_
      rotate_left 1
      · (intro W hW; clear hW; go_simp; try with_reducible rfl)
      simp only [Act.put, List.getElem_toArray, List.getElem_cons_succ, List.getElem_cons_zero, List.setIfInBounds_toArray, List.set_cons_zero, List.set_cons_succ]
      refine wpAnyH_take (i := 19) (v := ?_) rfl (by kernel_rfl) (by kernel_rfl) (by kernel_rfl) (fun _ _ _ h => h) (Or.inl ⟨by rfl, ?_⟩) (by assumption) ?_
      rotate_left 1
      · (intro W hW; clear hW; go_simp; try with_reducible rfl)
      simp only [Act.put, List.getElem_toArray, List.getElem_cons_succ, List.getElem_cons_zero, List.setIfInBounds_toArray, List.set_cons_zero, List.set_cons_succ]
      refine wpAnyH_take (i := 20) (v := ?_) rfl (by kernel_rfl) (by kernel_rfl) (by kernel_rfl) (fun _ _ _ h => h) (Or.inl ⟨by rfl, ?_⟩) (by assumption) ?_
      rotate_left 1
      · (intro W hW; clear hW; go_simp; try with_reducible rfl)
      simp only [Act.put, List.getElem_toArray, List.getElem_cons_succ, List.getElem_cons_zero, List.setIfInBounds_toArray, List.set_cons_zero, List.set_cons_succ]
      refine wpAnyH_take (i := 21) (v := ?_) rfl (by kernel_rfl) (by kernel_rfl) (by kernel_rfl) (fun _ _ _ h => h) (Or.inl ⟨by rfl, ?_⟩) (by assumption) ?_
      rotate_left 1
      · (intro W hW; skip; go_simp; try with_reducible rfl)
      simp only [Act.put, List.getElem_toArray, List.getElem_cons_succ, List.getElem_cons_zero, List.setIfInBounds_toArray, List.set_cons_zero, List.set_cons_succ]
      refine wpAnyH_take (i := 22) (v := ?_) rfl (by kernel_rfl) (by kernel_rfl) (by kernel_rfl) (fun _ _ _ h => h) (Or.inl ⟨by rfl, ?_⟩) (by assumption) ?_
      rotate_left 1
      · (intro W hW; clear hW; go_simp; try with_reducible rfl)
      simp only [Act.put, List.getElem_toArray, List.getElem_cons_succ, List.getElem_cons_zero, List.setIfInBounds_toArray, List.set_cons_zero, List.set_cons_succ]
      refine wpAnyH_ready (rs := [23]) (by kernel_rfl) (by simp) ?_
      refine AllReadyH.cons rfl (fun K hK => ?_) AllReadyH.nil
      go_simp
      refine (refPutChain_at (HAM.out _ hHeld) (Nat.le_refl _) HM9.out HB2.out HL2.out).mono ?_
      rintro e wa3 ⟨AF3, nF3, cF3, rfl, hF3, hbf3⟩
      have ty3 := text_of wa3 nF3 cF3 hF3.rd hF3.len
      clear hF3
      go_wp2_with fail
      refine hK.out _ _ (Since.trans hHeld hbf3) (fun hHeld => ?_)
      clear hK K
      try simp only [Act.put, List.getElem_toArray, List.getElem_cons_succ, List.getElem_cons_zero, List.setIfInBounds_toArray, List.set_cons_zero, List.set_cons_succ]
      refine wpAnyH_ready (rs := [24]) (by kernel_rfl) (by simp) ?_
      refine AllReadyH.cons rfl (fun K hK => ?_) AllReadyH.nil
      go_simp
      skip
      refine hK.out _ _ (hHeld) (fun hHeld => ?_)
      clear hK K
      try simp only [Act.put, List.getElem_toArray, List.getElem_cons_succ, List.getElem_cons_zero, List.setIfInBounds_toArray, List.set_cons_zero, List.set_cons_succ]
      refine wpAnyH_take (i := 25) (v := ?_) rfl (by kernel_rfl) (by kernel_rfl) (by kernel_rfl) (fun _ _ _ h => h) (Or.inl ⟨by rfl, ?_⟩) (by assumption) ?_
      rotate_left 1
      · (intro W hW; clear hW; go_simp; try with_reducible rfl)
      simp only [Act.put, List.getElem_toArray, List.getElem_cons_succ, List.getElem_cons_zero, List.setIfInBounds_toArray, List.set_cons_zero, List.set_cons_succ]
      refine wpAnyH_take (i := 26) (v := ?_) rfl (by kernel_rfl) (by kernel_rfl) (by kernel_rfl) (fun _ _ _ h => h) (Or.inl ⟨by rfl, ?_⟩) (by assumption) ?_
      rotate_left 1
      · (intro W hW; clear hW; go_simp; try with_reducible rfl)
      simp only [Act.put, List.getElem_toArray, List.getElem_cons_succ, List.getElem_cons_zero, List.setIfInBounds_toArray, List.set_cons_zero, List.set_cons_succ]
      refine wpAnyH_take (i := 27) (v := ?_) rfl (by kernel_rfl) (by kernel_rfl) (by kernel_rfl) (fun _ _ _ h => h) (Or.inl ⟨by rfl, ?_⟩) (by assumption) ?_
      rotate_left 1
      · (intro W hW; clear hW; go_simp; try with_reducible rfl)
      simp only [Act.put, List.getElem_toArray, List.getElem_cons_succ, List.getElem_cons_zero, List.setIfInBounds_toArray, List.set_cons_zero, List.set_cons_succ]
      refine wpAnyH_take (i := 28) (v := ?_) rfl (by kernel_rfl) (by kernel_rfl) (by kernel_rfl) (fun _ _ _ h => h) (Or.inl ⟨by rfl, ?_⟩) (by assumption) ?_
      rotate_left 1
      · (intro W hW; clear hW; go_simp; try with_reducible rfl)
      simp only [Act.put, List.getElem_toArray, List.getElem_cons_succ, List.getElem_cons_zero, List.setIfInBounds_toArray, List.set_cons_zero, List.set_cons_succ]
      refine wpAnyH_take (i := 31) (v := ?_) rfl (by kernel_rfl) (by kernel_rfl) (by kernel_rfl) (fun _ _ _ h => h) (Or.inl ⟨by rfl, ?_⟩) (by assumption) ?_
      rotate_left 1
      · (intro W hW; clear hW; go_simp; try with_reducible rfl)
      simp only [Act.put, List.getElem_toArray, List.getElem_cons_succ, List.getElem_cons_zero, List.setIfInBounds_toArray, List.set_cons_zero, List.set_cons_succ]
      refine wpAnyH_ready (rs := [29]) (by kernel_rfl) (by simp) ?_
      refine AllReadyH.cons rfl (fun K hK => ?_) AllReadyH.nil
      go_simp
      refine (num11_any _ _).mono ?_
      rintro e w9 ⟨rfl, rfl⟩
      go_wp2_with fail
      refine hK.out _ _ (hHeld) (fun hHeld => ?_)
      clear hK K
      try simp only [Act.put, List.getElem_toArray, List.getElem_cons_succ, List.getElem_cons_zero, List.setIfInBounds_toArray, List.set_cons_zero, List.set_cons_succ]
      refine wpAnyH_take (i := 30) (v := ?_) rfl (by kernel_rfl) (by kernel_rfl) (by kernel_rfl) (fun _ _ _ h => h) (Or.inl ⟨by rfl, ?_⟩) (by assumption) ?_
      rotate_left 1
      · (intro W hW; clear hW; go_simp; try with_reducible rfl)
      simp only [Act.put, List.getElem_toArray, List.getElem_cons_succ, List.getElem_cons_zero, List.setIfInBounds_toArray, List.set_cons_zero, List.set_cons_succ]
      refine wpAnyH_ready (rs := [32]) (by kernel_rfl) (by simp) ?_
      refine AllReadyH.cons rfl (fun K hK => ?_) AllReadyH.nil
      go_simp
      refine (refRightChain_any (HAM.out _ hHeld) (Nat.le_refl _) HM6.out HB2.out).mono ?_
      rintro e wa4 ⟨rfl, hbf4⟩
      go_wp2_with fail
      refine hK.out _ _ (Since.trans hHeld hbf4) (fun hHeld => ?_)
      clear hK K
      try simp only [Act.put, List.getElem_toArray, List.getElem_cons_succ, List.getElem_cons_zero, List.setIfInBounds_toArray, List.set_cons_zero, List.set_cons_succ]
      refine wpAnyH_take (i := 33) (v := ?_) rfl (by kernel_rfl) (by kernel_rfl) (by kernel_rfl) (fun _ _ _ h => h) (Or.inl ⟨by rfl, ?_⟩) (by assumption) ?_
      rotate_left 1
      · (intro W hW; clear hW; go_simp; try with_reducible rfl)
      simp only [Act.put, List.getElem_toArray, List.getElem_cons_succ, List.getElem_cons_zero, List.setIfInBounds_toArray, List.set_cons_zero, List.set_cons_succ]
      refine wpAnyH_take (i := 34) (v := ?_) rfl (by kernel_rfl) (by kernel_rfl) (by kernel_rfl) (fun _ _ _ h => h) (Or.inl ⟨by rfl, ?_⟩) (by assumption) ?_
      rotate_left 1
      · (intro W hW; clear hW; go_simp; try with_reducible rfl)
      simp only [Act.put, List.getElem_toArray, List.getElem_cons_succ, List.getElem_cons_zero, List.setIfInBounds_toArray, List.set_cons_zero, List.set_cons_succ]
      refine wpAnyH_take (i := 35) (v := ?_) rfl (by kernel_rfl) (by kernel_rfl) (by kernel_rfl) (fun _ _ _ h => h) (Or.inl ⟨by rfl, ?_⟩) (by assumption) ?_
      rotate_left 1
      · (intro W hW; clear hW; go_simp; try with_reducible rfl)
      simp only [Act.put, List.getElem_toArray, List.getElem_cons_succ, List.getElem_cons_zero, List.setIfInBounds_toArray, List.set_cons_zero, List.set_cons_succ]
      refine wpAnyH_take (i := 36) (v := ?_) rfl (by kernel_rfl) (by kernel_rfl) (by kernel_rfl) (fun _ _ _ h => h) (Or.inl ⟨by rfl, ?_⟩) (by assumption) ?_
      rotate_left 1
      · (intro W hW; clear hW; go_simp; try with_reducible rfl)
      simp only [Act.put, List.getElem_toArray, List.getElem_cons_succ, List.getElem_cons_zero, List.setIfInBounds_toArray, List.set_cons_zero, List.set_cons_succ]
      refine wpAnyH_ready (rs := [37]) (by kernel_rfl) (by simp) ?_
      refine AllReadyH.cons rfl (fun K hK => ?_) AllReadyH.nil
      go_simp
      refine (num11_any _ _).mono ?_
      rintro e w9 ⟨rfl, rfl⟩
      go_wp2_with fail
      refine hK.out _ _ (hHeld) (fun hHeld => ?_)
      clear hK K
      try simp only [Act.put, List.getElem_toArray, List.getElem_cons_succ, List.getElem_cons_zero, List.setIfInBounds_toArray, List.set_cons_zero, List.set_cons_succ]
      refine wpAnyH_take (i := 38) (v := ?_) rfl (by kernel_rfl) (by kernel_rfl) (by kernel_rfl) (fun _ _ _ h => h) (Or.inl ⟨by rfl, ?_⟩) (by assumption) ?_
      rotate_left 1
      · (intro W hW; clear hW; go_simp; try with_reducible rfl)
      simp only [Act.put, List.getElem_toArray, List.getElem_cons_succ, List.getElem_cons_zero, List.setIfInBounds_toArray, List.set_cons_zero, List.set_cons_succ]
      refine wpAnyH_take (i := 39) (v := ?_) rfl (by kernel_rfl) (by kernel_rfl) (by kernel_rfl) (fun _ _ _ h => h) (Or.inl ⟨by rfl, ?_⟩) (by assumption) ?_
      rotate_left 1
      · (intro W hW; clear hW; go_simp; try with_reducible rfl)
      simp only [Act.put, List.getElem_toArray, List.getElem_cons_succ, List.getElem_cons_zero, List.setIfInBounds_toArray, List.set_cons_zero, List.set_cons_succ]
      refine wpAnyH_take (i := 40) (v := ?_) rfl (by kernel_rfl) (by kernel_rfl) (by kernel_rfl) (fun _ _ _ h => h) (Or.inl ⟨by rfl, ?_⟩) (by assumption) ?_
      rotate_left 1
      · (intro W hW; clear hW; go_simp; try with_reducible rfl)
      simp only [Act.put, List.getElem_toArray, List.getElem_cons_succ, List.getElem_cons_zero, List.setIfInBounds_toArray, List.set_cons_zero, List.set_cons_succ]
      refine wpAnyH_take (i := 41) (v := ?_) rfl (by kernel_rfl) (by kernel_rfl) (by kernel_rfl) (fun _ _ _ h => h) (Or.inl ⟨by rfl, ?_⟩) (by assumption) ?_
      rotate_left 1
      · (intro W hW; refine exec_load_is (p := .pointer (some ⟨w.heap.size, 0, none⟩)) (v := va) _ (.tmp 4) ?_ ?_ (HLA.out W hW) <;> rfl)
      simp only [Act.put, List.getElem_toArray, List.getElem_cons_succ, List.getElem_cons_zero, List.setIfInBounds_toArray, List.set_cons_zero, List.set_cons_succ]
      refine wpAnyH_take (i := 44) (v := ?_) rfl (by kernel_rfl) (by kernel_rfl) (by kernel_rfl) (fun _ _ _ h => h) (Or.inl ⟨by rfl, ?_⟩) (by assumption) ?_
      rotate_left 1
      · (intro W hW; refine exec_load_is (p := .pointer (some ⟨w.heap.size, 0, none⟩)) (v := va) _ (.tmp 4) ?_ ?_ (HLA.out W hW) <;> rfl)
      simp only [Act.put, List.getElem_toArray, List.getElem_cons_succ, List.getElem_cons_zero, List.setIfInBounds_toArray, List.set_cons_zero, List.set_cons_succ]
      refine wpAnyH_ready (rs := [42]) (by kernel_rfl) (by simp) ?_
      refine AllReadyH.cons rfl (fun K hK => ?_) AllReadyH.nil
      go_simp
      refine (ownV (HVA.out _ hHeld) HS9.out).mono ?_
      rintro e wa5 ⟨vo1, rfl, hro1, hbf5⟩
      go_wp2_with fail
      refine hK.out _ _ (Since.trans hHeld hbf5) (fun hHeld => ?_)
      clear hK K
      try simp only [Act.put, List.getElem_toArray, List.getElem_cons_succ, List.getElem_cons_zero, List.setIfInBounds_toArray, List.set_cons_zero, List.set_cons_succ]
      refine wpAnyH_ready (rs := [43]) (by kernel_rfl) (by simp) ?_
      refine AllReadyH.cons rfl (fun K hK => ?_) AllReadyH.nil
      go_simp
      refine (rightV hro1 HS6.out HB1.out).mono ?_
      rintro e wa6 ⟨rfl, hbf6⟩
      go_wp2_with fail
      refine hK.out _ _ (Since.trans hHeld hbf6) (fun hHeld => ?_)
      clear hK K
      try simp only [Act.put, List.getElem_toArray, List.getElem_cons_succ, List.getElem_cons_zero, List.setIfInBounds_toArray, List.set_cons_zero, List.set_cons_succ]
      refine wpAnyH_ready (rs := [45]) (by kernel_rfl) (by simp) ?_
      refine AllReadyH.cons rfl (fun K hK => ?_) AllReadyH.nil
      go_simp
      refine (refRightV (HVA.out _ hHeld) HS6.out HB1.out).mono ?_
      rintro e wa7 ⟨rfl, hbf7⟩
      go_wp2_with fail
      refine hK.out _ _ (Since.trans hHeld hbf7) (fun hHeld => ?_)
      clear hK K
      try simp only [Act.put, List.getElem_toArray, List.getElem_cons_succ, List.getElem_cons_zero, List.setIfInBounds_toArray, List.set_cons_zero, List.set_cons_succ]
      refine wpAnyH_take (i := 46) (v := ?_) rfl (by kernel_rfl) (by kernel_rfl) (by kernel_rfl) (fun _ _ _ h => h) (Or.inl ⟨by rfl, ?_⟩) (by assumption) ?_
      rotate_left 1
      · (intro W hW; clear hW; go_simp; try with_reducible rfl)
      simp only [Act.put, List.getElem_toArray, List.getElem_cons_succ, List.getElem_cons_zero, List.setIfInBounds_toArray, List.set_cons_zero, List.set_cons_succ]
      refine wpAnyH_take (i := 47) (v := ?_) rfl (by kernel_rfl) (by kernel_rfl) (by kernel_rfl) (fun _ _ _ h => h) (Or.inl ⟨by rfl, ?_⟩) (by assumption) ?_
      rotate_left 1
      · (intro W hW; clear hW; go_simp; try with_reducible rfl)
      simp only [Act.put, List.getElem_toArray, List.getElem_cons_succ, List.getElem_cons_zero, List.setIfInBounds_toArray, List.set_cons_zero, List.set_cons_succ]
      refine wpAnyH_take (i := 48) (v := ?_) rfl (by kernel_rfl) (by kernel_rfl) (by kernel_rfl) (fun _ _ _ h => h) (Or.inl ⟨by rfl, ?_⟩) (by assumption) ?_
      rotate_left 1
      · (intro W hW; clear hW; go_simp; try with_reducible rfl)
      simp only [Act.put, List.getElem_toArray, List.getElem_cons_succ, List.getElem_cons_zero, List.setIfInBounds_toArray, List.set_cons_zero, List.set_cons_succ]
      refine wpAnyH_take (i := 49) (v := ?_) rfl (by kernel_rfl) (by kernel_rfl) (by kernel_rfl) (fun _ _ _ h => h) (Or.inl ⟨by rfl, ?_⟩) (by assumption) ?_
      rotate_left 1
      · (intro W hW; clear hW; go_simp; try with_reducible rfl)
      simp only [Act.put, List.getElem_toArray, List.getElem_cons_succ, List.getElem_cons_zero, List.setIfInBounds_toArray, List.set_cons_zero, List.set_cons_succ]
      refine wpAnyH_take (i := 51) (v := ?_) rfl (by kernel_rfl) (by kernel_rfl) (by kernel_rfl) (fun _ _ _ h => h) (Or.inl ⟨by rfl, ?_⟩) (by assumption) ?_
      rotate_left 1
      · (intro W hW; clear hW; go_simp; try with_reducible rfl)
      simp only [Act.put, List.getElem_toArray, List.getElem_cons_succ, List.getElem_cons_zero, List.setIfInBounds_toArray, List.set_cons_zero, List.set_cons_succ]
      refine wpAnyH_ready (rs := [50]) (by kernel_rfl) (by simp) ?_
      refine AllReadyH.cons rfl (fun K hK => ?_) AllReadyH.nil
      go_simp
      refine (rightChain_any (HD.out _ hHeld) (Nat.le_refl _) HM6.out HB2.out).mono ?_
      rintro e wa8 ⟨rfl, hbf8⟩
      go_wp2_with fail
      refine hK.out _ _ (Since.trans hHeld hbf8) (fun hHeld => ?_)
      clear hK K
      try simp only [Act.put, List.getElem_toArray, List.getElem_cons_succ, List.getElem_cons_zero, List.setIfInBounds_toArray, List.set_cons_zero, List.set_cons_succ]
      refine wpAnyH_ready (rs := [52]) (by kernel_rfl) (by simp) ?_
      refine AllReadyH.cons rfl (fun K hK => ?_) AllReadyH.nil
      go_simp
      refine (refRightChain_any (HAM.out _ hHeld) (Nat.le_refl _) HM6.out HB2.out).mono ?_
      rintro e wa9 ⟨rfl, hbf9⟩
      go_wp2_with fail
      refine hK.out _ _ (Since.trans hHeld hbf9) (fun hHeld => ?_)
      clear hK K
      try simp only [Act.put, List.getElem_toArray, List.getElem_cons_succ, List.getElem_cons_zero, List.setIfInBounds_toArray, List.set_cons_zero, List.set_cons_succ]
      refine wpAnyH_take (i := 53) (v := ?_) rfl (by kernel_rfl) (by kernel_rfl) (by kernel_rfl) (fun _ _ _ h => h) (Or.inl ⟨by rfl, ?_⟩) (by assumption) ?_
      rotate_left 1
      · (intro W hW; clear hW; go_simp; try with_reducible rfl)
      simp only [Act.put, List.getElem_toArray, List.getElem_cons_succ, List.getElem_cons_zero, List.setIfInBounds_toArray, List.set_cons_zero, List.set_cons_succ]
      refine wpAnyH_take (i := 54) (v := ?_) rfl (by kernel_rfl) (by kernel_rfl) (by kernel_rfl) (fun _ _ _ h => h) (Or.inl ⟨by rfl, ?_⟩) (by assumption) ?_
      rotate_left 1
      · (intro W hW; clear hW; go_simp; try with_reducible rfl)
      simp only [Act.put, List.getElem_toArray, List.getElem_cons_succ, List.getElem_cons_zero, List.setIfInBounds_toArray, List.set_cons_zero, List.set_cons_succ]
      refine wpAnyH_take (i := 55) (v := ?_) rfl (by kernel_rfl) (by kernel_rfl) (by kernel_rfl) (fun _ _ _ h => h) (Or.inl ⟨by rfl, ?_⟩) (by assumption) ?_
      rotate_left 1
      · (intro W hW; clear hW; go_simp; try with_reducible rfl)
      simp only [Act.put, List.getElem_toArray, List.getElem_cons_succ, List.getElem_cons_zero, List.setIfInBounds_toArray, List.set_cons_zero, List.set_cons_succ]
      refine wpAnyH_take (i := 56) (v := ?_) rfl (by kernel_rfl) (by kernel_rfl) (by kernel_rfl) (fun _ _ _ h => h) (Or.inl ⟨by rfl, ?_⟩) (by assumption) ?_
      rotate_left 1
      · (intro W hW; refine exec_load_is (p := .pointer (some ⟨w.heap.size, 0, none⟩)) (v := va) _ (.tmp 4) ?_ ?_ (HLA.out W hW) <;> rfl)
      simp only [Act.put, List.getElem_toArray, List.getElem_cons_succ, List.getElem_cons_zero, List.setIfInBounds_toArray, List.set_cons_zero, List.set_cons_succ]
      refine wpAnyH_take (i := 58) (v := ?_) rfl (by kernel_rfl) (by kernel_rfl) (by kernel_rfl) (fun _ _ _ h => h) (Or.inl ⟨by rfl, ?_⟩) (by assumption) ?_
      rotate_left 1
      · (intro W hW; refine exec_load_is (p := .pointer (some ⟨w.heap.size + 1, 0, none⟩)) (v := vb) _ (.tmp 5) ?_ ?_ (HLB.out W hW) <;> rfl)
      simp only [Act.put, List.getElem_toArray, List.getElem_cons_succ, List.getElem_cons_zero, List.setIfInBounds_toArray, List.set_cons_zero, List.set_cons_succ]
      refine wpAnyH_take (i := 61) (v := ?_) rfl (by kernel_rfl) (by kernel_rfl) (by kernel_rfl) (fun _ _ _ h => h) (Or.inl ⟨by rfl, ?_⟩) (by assumption) ?_
      rotate_left 1
      · (intro W hW; refine exec_load_is (p := .pointer (some ⟨w.heap.size, 0, none⟩)) (v := va) _ (.tmp 4) ?_ ?_ (HLA.out W hW) <;> rfl)
      simp only [Act.put, List.getElem_toArray, List.getElem_cons_succ, List.getElem_cons_zero, List.setIfInBounds_toArray, List.set_cons_zero, List.set_cons_succ]
      refine wpAnyH_take (i := 62) (v := ?_) rfl (by kernel_rfl) (by kernel_rfl) (by kernel_rfl) (fun _ _ _ h => h) (Or.inl ⟨by rfl, ?_⟩) (by assumption) ?_
      rotate_left 1
      · (intro W hW; refine exec_load_is (p := .pointer (some ⟨w.heap.size + 1, 0, none⟩)) (v := vb) _ (.tmp 5) ?_ ?_ (HLB.out W hW) <;> rfl)
      simp only [Act.put, List.getElem_toArray, List.getElem_cons_succ, List.getElem_cons_zero, List.setIfInBounds_toArray, List.set_cons_zero, List.set_cons_succ]
      refine wpAnyH_ready (rs := [57]) (by kernel_rfl) (by simp) ?_
      refine AllReadyH.cons rfl (fun K hK => ?_) AllReadyH.nil
      go_simp
      refine (ownV (HVA.out _ hHeld) HS9.out).mono ?_
      rintro e wab ⟨vo2, rfl, hro2, hbfb⟩
      go_wp2_with fail
      refine hK.out _ _ (Since.trans hHeld hbfb) (fun hHeld => ?_)
      clear hK K
      try simp only [Act.put, List.getElem_toArray, List.getElem_cons_succ, List.getElem_cons_zero, List.setIfInBounds_toArray, List.set_cons_zero, List.set_cons_succ]
      refine wpAnyH_ready (rs := [59]) (by kernel_rfl) (by simp) ?_
      refine AllReadyH.cons rfl (fun K hK => ?_) AllReadyH.nil
      go_simp
      refine (ownV (HVB.out _ hHeld) HS92.out).mono ?_
      rintro e wac ⟨vo3, rfl, hro3, hbfc⟩
      have hro2 := hro2.since hbfc
      go_wp2_with fail
      refine hK.out _ _ (Since.trans hHeld hbfc) (fun hHeld => ?_)
      clear hK K
      try simp only [Act.put, List.getElem_toArray, List.getElem_cons_succ, List.getElem_cons_zero, List.setIfInBounds_toArray, List.set_cons_zero, List.set_cons_succ]
      refine wpAnyH_ready (rs := [60]) (by kernel_rfl) (by simp) ?_
      refine AllReadyH.cons rfl (fun K hK => ?_) AllReadyH.nil
      go_simp
      refine (esameV hro2 hro3 HS6.out HPE.out HSE.out).mono ?_
      rintro e wad ⟨rfl, hbfd⟩
      go_wp2_with fail
      refine hK.out _ _ (Since.trans hHeld hbfd) (fun hHeld => ?_)
      clear hK K
      try simp only [Act.put, List.getElem_toArray, List.getElem_cons_succ, List.getElem_cons_zero, List.setIfInBounds_toArray, List.set_cons_zero, List.set_cons_succ]
      refine wpAnyH_ready (rs := [63]) (by kernel_rfl) (by simp) ?_
      refine AllReadyH.cons rfl (fun K hK => ?_) AllReadyH.nil
      go_simp
      refine (refSameV (HVA.out _ hHeld) (HVB.out _ hHeld) HS6.out HPE.out HSE.out).mono ?_
      rintro e wae ⟨rfl, hbfe⟩
      go_wp2_with fail
      refine hK.out _ _ (Since.trans hHeld hbfe) (fun hHeld => ?_)
      clear hK K
      try simp only [Act.put, List.getElem_toArray, List.getElem_cons_succ, List.getElem_cons_zero, List.setIfInBounds_toArray, List.set_cons_zero, List.set_cons_succ]
      refine wpAnyH_take (i := 64) (v := ?_) rfl (by kernel_rfl) (by kernel_rfl) (by kernel_rfl) (fun _ _ _ h => h) (Or.inl ⟨by rfl, ?_⟩) (by assumption) ?_
      rotate_left 1
      · (intro W hW; clear hW; go_simp; try with_reducible rfl)
      simp only [Act.put, List.getElem_toArray, List.getElem_cons_succ, List.getElem_cons_zero, List.setIfInBounds_toArray, List.set_cons_zero, List.set_cons_succ]
      refine wpAnyH_take (i := 65) (v := ?_) rfl (by kernel_rfl) (by kernel_rfl) (by kernel_rfl) (fun _ _ _ h => h) (Or.inl ⟨by rfl, ?_⟩) (by assumption) ?_
      rotate_left 1
      · (intro W hW; clear hW; go_simp; try with_reducible rfl)
      simp only [Act.put, List.getElem_toArray, List.getElem_cons_succ, List.getElem_cons_zero, List.setIfInBounds_toArray, List.set_cons_zero, List.set_cons_succ]
      refine wpAnyH_take (i := 66) (v := ?_) rfl (by kernel_rfl) (by kernel_rfl) (by kernel_rfl) (fun _ _ _ h => h) (Or.inl ⟨by rfl, ?_⟩) (by assumption) ?_
      rotate_left 1
      · (intro W hW; clear hW; go_simp; try with_reducible rfl)
      simp only [Act.put, List.getElem_toArray, List.getElem_cons_succ, List.getElem_cons_zero, List.setIfInBounds_toArray, List.set_cons_zero, List.set_cons_succ]
      refine wpAnyH_take (i := 67) (v := ?_) rfl (by kernel_rfl) (by kernel_rfl) (by kernel_rfl) (fun _ _ _ h => h) (Or.inl ⟨by rfl, ?_⟩) (by assumption) ?_
      rotate_left 1
      · (intro W hW; refine exec_load_is (p := .pointer (some ⟨I2, 0, none⟩)) (v := vd) _ (.tmp 19) ?_ ?_ (HLD.out W hW) <;> rfl)
      simp only [Act.put, List.getElem_toArray, List.getElem_cons_succ, List.getElem_cons_zero, List.setIfInBounds_toArray, List.set_cons_zero, List.set_cons_succ]
      refine wpAnyH_take (i := 69) (v := ?_) rfl (by kernel_rfl) (by kernel_rfl) (by kernel_rfl) (fun _ _ _ h => h) (Or.inl ⟨by rfl, ?_⟩) (by assumption) ?_
      rotate_left 1
      · (intro W hW; refine exec_load_is (p := .pointer (some ⟨w.heap.size, 0, none⟩)) (v := va) _ (.tmp 4) ?_ ?_ (HLA.out W hW) <;> rfl)
      simp only [Act.put, List.getElem_toArray, List.getElem_cons_succ, List.getElem_cons_zero, List.setIfInBounds_toArray, List.set_cons_zero, List.set_cons_succ]
      refine wpAnyH_ready (rs := [68]) (by kernel_rfl) (by simp) ?_
      refine AllReadyH.cons rfl (fun K hK => ?_) AllReadyH.nil
      go_simp
      refine (refV (HVD.out _ hHeld) HS9.out).mono ?_
      rintro e waf ⟨vo4, rfl, hro4, hbff⟩
      go_wp2_with fail
      refine hK.out _ _ (Since.trans hHeld hbff) (fun hHeld => ?_)
      clear hK K
      try simp only [Act.put, List.getElem_toArray, List.getElem_cons_succ, List.getElem_cons_zero, List.setIfInBounds_toArray, List.set_cons_zero, List.set_cons_succ]
      refine wpAnyH_ready (rs := [70]) (by kernel_rfl) (by simp) ?_
      refine AllReadyH.cons rfl (fun K hK => ?_) AllReadyH.nil
      go_simp
      refine (refSameV hro4 (HVA.out _ hHeld) HS6.out ((plainE_iff _ _).2 rfl) ((sameZ_iff _ _).2 rfl)).mono ?_
      rintro e wag ⟨rfl, hbfg⟩
      go_wp2_with fail
      refine hK.out _ _ (Since.trans hHeld hbfg) (fun hHeld => ?_)
      clear hK K
      try simp only [Act.put, List.getElem_toArray, List.getElem_cons_succ, List.getElem_cons_zero, List.setIfInBounds_toArray, List.set_cons_zero, List.set_cons_succ]
      refine wpAnyH_take (i := 71) (v := ?_) rfl (by kernel_rfl) (by kernel_rfl) (by kernel_rfl) (fun _ _ _ h => h) (Or.inl ⟨by rfl, ?_⟩) (by assumption) ?_
      rotate_left 1
      · (intro W hW; clear hW; go_simp; try with_reducible rfl)
      simp only [Act.put, List.getElem_toArray, List.getElem_cons_succ, List.getElem_cons_zero, List.setIfInBounds_toArray, List.set_cons_zero, List.set_cons_succ]
      refine wpAnyH_take (i := 72) (v := ?_) rfl (by kernel_rfl) (by kernel_rfl) (by kernel_rfl) (fun _ _ _ h => h) (Or.inl ⟨by rfl, ?_⟩) (by assumption) ?_
      rotate_left 1
      · (intro W hW; clear hW; go_simp; try with_reducible rfl)
      simp only [Act.put, List.getElem_toArray, List.getElem_cons_succ, List.getElem_cons_zero, List.setIfInBounds_toArray, List.set_cons_zero, List.set_cons_succ]
      refine wpAnyH_ready (rs := [73]) (by kernel_rfl) (by simp) ?_
      refine AllReadyH.cons rfl (fun K hK => ?_) AllReadyH.nil
      go_simp
      refine (knows11_any _).mono ?_
      rintro e wah ⟨rfl, hbfh⟩
      go_wp2_with fail
      refine hK.out _ _ (Since.trans hHeld hbfh) (fun hHeld => ?_)
      clear hK K
      try simp only [Act.put, List.getElem_toArray, List.getElem_cons_succ, List.getElem_cons_zero, List.setIfInBounds_toArray, List.set_cons_zero, List.set_cons_succ]
      refine wpAnyH_take (i := 74) (v := ?_) rfl (by kernel_rfl) (by kernel_rfl) (by kernel_rfl) (fun _ _ _ h => h) (Or.inl ⟨by rfl, ?_⟩) (by assumption) ?_
      rotate_left 1
      · (intro W hW; clear hW; go_simp; try with_reducible rfl)
      simp only [Act.put, List.getElem_toArray, List.getElem_cons_succ, List.getElem_cons_zero, List.setIfInBounds_toArray, List.set_cons_zero, List.set_cons_succ]
      refine wpAnyH_take (i := 75) (v := ?_) rfl (by kernel_rfl) (by kernel_rfl) (by kernel_rfl) (fun _ _ _ h => h) (Or.inl ⟨by rfl, ?_⟩) (by assumption) ?_
      rotate_left 1
      · (intro W hW; clear hW; go_simp; try with_reducible rfl)
      simp only [Act.put, List.getElem_toArray, List.getElem_cons_succ, List.getElem_cons_zero, List.setIfInBounds_toArray, List.set_cons_zero, List.set_cons_succ]
      refine wpAnyH_done (by kernel_rfl) ?_ _
      go_wp2
      go_ret
      exact ⟨by first | rfl | simp, (HSR.out.1.trans HSR.out.2).trans hHeld⟩
theorem elooks_go (kind ok x y : Int) (key val : ByteArray) (cl seq nd ep bx : Int) (ca : Option Addr) (cn cc : Nat) (l : List Int) (kind2 ok2 x2 y2 : Int) (key2 val2 : ByteArray) (cl2 seq2 nd2 ep2 bx2 : Int) (ca2 : Option Addr) (cn2 cc2 : Nat) (l2 : List Int) (mx : Option Addr) (mn mc : Nat) (zm : List Int) (nn : Int) (w : World) (h : LZ w.heap.size w (.slice ca cn cc) l) (h2 : LZ w.heap.size w (.slice ca2 cn2 cc2) l2) (hm : RowIn .i64 w mx mn mc zm) : Calls Tryd.prog 3 #[.agg #[.int .i64 kind, .int .i64 ok, .int .i64 x, .int .i64 y, .string key, .string val, .int .i64 cl, .int .i64 seq, .int .i64 nd, .int .i64 ep, .int .i64 bx, .slice ca cn cc], .agg #[.int .i64 kind2, .int .i64 ok2, .int .i64 x2, .int .i64 y2, .string key2, .string val2, .int .i64 cl2, .int .i64 seq2, .int .i64 nd2, .int .i64 ep2, .int .i64 bx2, .slice ca2 cn2 cc2], .slice mx mn mc, .int .i64 nn] w fun e w' => e = .returned (.bool true) ∧ Below w.heap.size w w' := by
  cases hl : lightB11 key val cn with
  | false => exact elooks_a hl
  | true =>
    cases hl2 : lightB11 key2 val2 cn2 with
    | false => exact elooks_b hl hl2
    | true =>
      by_cases h40 : mn ≤ 40
      · exact elooks_main h h2 (lz_of_row hm) hl hl2 h40
      · exact elooks_c hl hl2 (by omega)
end
end Go.Proofs.YtimmnmidhjbanaaDoor
