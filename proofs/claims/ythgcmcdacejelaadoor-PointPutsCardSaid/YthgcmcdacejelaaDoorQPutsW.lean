/- The walk of the law PointPuts. -/
import Derived.Test.YthgcmcdacejelaaDoorQPutsB
import Derived.Test.YthgcmcdacejelaaDoorQRefCmp
import Derived.Test.YthgcmcdacejelaaDoorQKnows
import Derived.Deep.Cut
import Derived.Deep.CutRange
namespace Go.Proofs.YthgcmcdacejelaaDoor
open Go.RowKit
set_option linter.unusedVariables false
set_option maxRecDepth 100000 in
set_option maxHeartbeats 1600000 in
theorem puts_long (x y : Int) (key val : ByteArray) (ver bx b_y : Int) (bk bv : ByteArray) (bw kind ox oy : Int) (okey oval : ByteArray) (cl seq er : Int) (found : Bool) (aval : ByteArray) (aver : Int) (w : World) (h : longB [key, val, bk, bv, okey, oval, aval] = true) : Calls Tryd.prog 3 #[.agg #[.int .i64 x, .int .i64 y, .string key, .string val, .int .i64 ver], .agg #[.int .i64 bx, .int .i64 b_y, .string bk, .string bv, .int .i64 bw], .agg #[.int .i64 kind, .int .i64 ox, .int .i64 oy, .string okey, .string oval, .int .i64 cl, .int .i64 seq], .agg #[.int .i64 er, .bool found, .string aval, .int .i64 aver]] w fun e w' => e = .returned (.bool true) ∧ Below w.heap.size w w' := by
  replace h := Lib.hid h
  obtain ⟨w0, hw0⟩ : ∃ w0, w0 = (((w.alloc (.cells #[.int .i64 x, .int .i64 y, .string key, .string val, .int .i64 ver] 25)).alloc (.cells #[.int .i64 bx, .int .i64 (b_y), .string bk, .string bv, .int .i64 bw] 25)).alloc (.cells #[.int .i64 kind, .int .i64 ox, .int .i64 oy, .string okey, .string oval, .int .i64 cl, .int .i64 seq] 27)).alloc (.cells #[.int .i64 er, .bool found, .string aval, .int .i64 aver] 29) := ⟨_, rfl⟩
  have hs0 : Since w w0 := by rw [hw0]; exact ((((Since.refl w).alloc _).alloc _).alloc _).alloc _
  have wh0 : Whole w0 (w.heap.size) 25 #[.int .i64 x, .int .i64 y, .string key, .string val, .int .i64 ver] := by rw [hw0]; exact (((Whole.new w _ _).alloc _).alloc _).alloc _
  have wh1 : Whole w0 (w.heap.size + 1) 25 #[.int .i64 bx, .int .i64 (b_y), .string bk, .string bv, .int .i64 bw] := by rw [hw0]; exact (((Whole.new (w.alloc _) _ _).alloc _).alloc _).at_ (by simp)
  have wh2 : Whole w0 (w.heap.size + 1 + 1) 27 #[.int .i64 kind, .int .i64 ox, .int .i64 oy, .string okey, .string oval, .int .i64 cl, .int .i64 seq] := by rw [hw0]; exact ((Whole.new ((w.alloc _).alloc _) _ _).alloc _).at_ (by simp)
  have wh3 : Whole w0 (w.heap.size + 1 + 1 + 1) 29 #[.int .i64 er, .bool found, .string aval, .int .i64 aver] := by rw [hw0]; exact (Whole.new (((w.alloc _).alloc _).alloc _) _ _).at_ (by simp)
  have HW := Lib.hid hw0
  have c0_0 := box_cell wh0 0 (.int .i64 x) rfl
  have c0_1 := box_cell wh0 1 (.int .i64 y) rfl
  have c0_2 := box_cell wh0 2 (.string key) rfl
  have c0_3 := box_cell wh0 3 (.string val) rfl
  have c0_4 := box_cell wh0 4 (.int .i64 ver) rfl
  have c1_0 := box_cell wh1 0 (.int .i64 bx) rfl
  have c1_1 := box_cell wh1 1 (.int .i64 (b_y)) rfl
  have c1_2 := box_cell wh1 2 (.string bk) rfl
  have c1_3 := box_cell wh1 3 (.string bv) rfl
  have c1_4 := box_cell wh1 4 (.int .i64 bw) rfl
  have c2_0 := box_cell wh2 0 (.int .i64 kind) rfl
  have c2_1 := box_cell wh2 1 (.int .i64 ox) rfl
  have c2_2 := box_cell wh2 2 (.int .i64 oy) rfl
  have c2_3 := box_cell wh2 3 (.string okey) rfl
  have c2_4 := box_cell wh2 4 (.string oval) rfl
  have c2_5 := box_cell wh2 5 (.int .i64 cl) rfl
  have c2_6 := box_cell wh2 6 (.int .i64 seq) rfl
  have c3_0 := box_cell wh3 0 (.int .i64 er) rfl
  have c3_1 := box_cell wh3 1 (.bool found) rfl
  have c3_2 := box_cell wh3 2 (.string aval) rfl
  have c3_3 := box_cell wh3 3 (.int .i64 aver) rfl
  have hsr := Since.refl w0
  have hsd := hsr.drew
  clear hw0 wh0 wh1 wh2 wh3
  go_enter Tryd.func3, Tryd.ntmps3
  go_wp2_with fail
  rw [← HW.out]
  have hz : w0.heap.size = w.heap.size + 1 + 1 + 1 + 1 := by rw [HW.out]; simp
  refine (Calls.since_same (hsr.alloc _) (long_7 ((Whole.new w0 _ _).at_ hz) h.out)).mono ?_
  rintro e w1 ⟨rfl, hb1⟩
  go_wp2_with ((go_at_call 8; (with_reducible refine (Calls.since (by assumption) (knows7_any _)).mono ?_); rintro e w2 ⟨rfl, hb2⟩))
  go_ret
  exact ⟨rfl, hs0.trans (by assumption)⟩
set_option maxRecDepth 100000 in
set_option maxHeartbeats 6400000 in
theorem puts_short (x y : Int) (key val : ByteArray) (ver bx b_y : Int) (bk bv : ByteArray) (bw kind ox oy : Int) (okey oval : ByteArray) (cl seq er : Int) (found : Bool) (aval : ByteArray) (aver : Int) (w : World) (h : longB [key, val, bk, bv, okey, oval, aval] = false) : Calls Tryd.prog 3 #[.agg #[.int .i64 x, .int .i64 y, .string key, .string val, .int .i64 ver], .agg #[.int .i64 bx, .int .i64 b_y, .string bk, .string bv, .int .i64 bw], .agg #[.int .i64 kind, .int .i64 ox, .int .i64 oy, .string okey, .string oval, .int .i64 cl, .int .i64 seq], .agg #[.int .i64 er, .bool found, .string aval, .int .i64 aver]] w fun e w' => e = .returned (.bool true) ∧ Below w.heap.size w w' := by
  replace h := Lib.hid h
  obtain ⟨b1, hb1⟩ : ∃ b, recB x y key val ver = b := ⟨_, rfl⟩
  obtain ⟨L1, hL1⟩ : ∃ l, (if b1 then recL x y key val ver else []) = l := ⟨_, rfl⟩
  obtain ⟨E1, hE1⟩ : ∃ e : Int, (if b1 then 0 else 1) = e := ⟨_, rfl⟩
  have eq1 : (E1 == 0) = b1 := by rw [← hE1]; cases b1 <;> rfl
  have gt1 : decide (1 < E1) = false := by rw [← hE1]; cases b1 <;> rfl
  have HB1 := Lib.hid hb1
  have HL1 := Lib.hid hL1
  have HE1 := Lib.hid hE1
  clear hb1 hL1 hE1
  obtain ⟨b2, hb2⟩ : ∃ b, opB kind ox oy okey oval cl seq = b := ⟨_, rfl⟩
  obtain ⟨L2, hL2⟩ : ∃ l, (if b2 then opL kind ox oy okey oval cl seq else []) = l := ⟨_, rfl⟩
  obtain ⟨E2, hE2⟩ : ∃ e : Int, (if b2 then 0 else 1) = e := ⟨_, rfl⟩
  have eq2 : (E2 == 0) = b2 := by rw [← hE2]; cases b2 <;> rfl
  have gt2 : decide (1 < E2) = false := by rw [← hE2]; cases b2 <;> rfl
  have HB2 := Lib.hid hb2
  have HL2 := Lib.hid hL2
  have HE2 := Lib.hid hE2
  clear hb2 hL2 hE2
  obtain ⟨b3, hb3⟩ : ∃ b, ansB er found aval aver = b := ⟨_, rfl⟩
  obtain ⟨L3, hL3⟩ : ∃ l, (if b3 then ansL er found aval aver else []) = l := ⟨_, rfl⟩
  obtain ⟨E3, hE3⟩ : ∃ e : Int, (if b3 then 0 else 1) = e := ⟨_, rfl⟩
  have eq3 : (E3 == 0) = b3 := by rw [← hE3]; cases b3 <;> rfl
  have gt3 : decide (1 < E3) = false := by rw [← hE3]; cases b3 <;> rfl
  have HB3 := Lib.hid hb3
  have HL3 := Lib.hid hL3
  have HE3 := Lib.hid hE3
  clear hb3 hL3 hE3
  obtain ⟨C, hC⟩ : ∃ c, cmpR x y key.data.toList bx b_y bk.data.toList = c := ⟨_, rfl⟩
  have HC := Lib.hid hC
  clear hC
  obtain ⟨w0, hw0⟩ : ∃ w0, w0 = (((w.alloc (.cells #[.int .i64 x, .int .i64 y, .string key, .string val, .int .i64 ver] 25)).alloc (.cells #[.int .i64 bx, .int .i64 (b_y), .string bk, .string bv, .int .i64 bw] 25)).alloc (.cells #[.int .i64 kind, .int .i64 ox, .int .i64 oy, .string okey, .string oval, .int .i64 cl, .int .i64 seq] 27)).alloc (.cells #[.int .i64 er, .bool found, .string aval, .int .i64 aver] 29) := ⟨_, rfl⟩
  have hs0 : Since w w0 := by rw [hw0]; exact ((((Since.refl w).alloc _).alloc _).alloc _).alloc _
  have wh0 : Whole w0 (w.heap.size) 25 #[.int .i64 x, .int .i64 y, .string key, .string val, .int .i64 ver] := by rw [hw0]; exact (((Whole.new w _ _).alloc _).alloc _).alloc _
  have wh1 : Whole w0 (w.heap.size + 1) 25 #[.int .i64 bx, .int .i64 (b_y), .string bk, .string bv, .int .i64 bw] := by rw [hw0]; exact (((Whole.new (w.alloc _) _ _).alloc _).alloc _).at_ (by simp)
  have wh2 : Whole w0 (w.heap.size + 1 + 1) 27 #[.int .i64 kind, .int .i64 ox, .int .i64 oy, .string okey, .string oval, .int .i64 cl, .int .i64 seq] := by rw [hw0]; exact ((Whole.new ((w.alloc _).alloc _) _ _).alloc _).at_ (by simp)
  have wh3 : Whole w0 (w.heap.size + 1 + 1 + 1) 29 #[.int .i64 er, .bool found, .string aval, .int .i64 aver] := by rw [hw0]; exact (Whole.new (((w.alloc _).alloc _).alloc _) _ _).at_ (by simp)
  have HW := Lib.hid hw0
  have c0_0 := box_cell wh0 0 (.int .i64 x) rfl
  have c0_1 := box_cell wh0 1 (.int .i64 y) rfl
  have c0_2 := box_cell wh0 2 (.string key) rfl
  have c0_3 := box_cell wh0 3 (.string val) rfl
  have c0_4 := box_cell wh0 4 (.int .i64 ver) rfl
  have c1_0 := box_cell wh1 0 (.int .i64 bx) rfl
  have c1_1 := box_cell wh1 1 (.int .i64 (b_y)) rfl
  have c1_2 := box_cell wh1 2 (.string bk) rfl
  have c1_3 := box_cell wh1 3 (.string bv) rfl
  have c1_4 := box_cell wh1 4 (.int .i64 bw) rfl
  have c2_0 := box_cell wh2 0 (.int .i64 kind) rfl
  have c2_1 := box_cell wh2 1 (.int .i64 ox) rfl
  have c2_2 := box_cell wh2 2 (.int .i64 oy) rfl
  have c2_3 := box_cell wh2 3 (.string okey) rfl
  have c2_4 := box_cell wh2 4 (.string oval) rfl
  have c2_5 := box_cell wh2 5 (.int .i64 cl) rfl
  have c2_6 := box_cell wh2 6 (.int .i64 seq) rfl
  have c3_0 := box_cell wh3 0 (.int .i64 er) rfl
  have c3_1 := box_cell wh3 1 (.bool found) rfl
  have c3_2 := box_cell wh3 2 (.string aval) rfl
  have c3_3 := box_cell wh3 3 (.int .i64 aver) rfl
  have hsr := Since.refl w0
  have hsd := hsr.drew
  clear hw0 wh0 wh1 wh2 wh3
  go_enter Tryd.func3, Tryd.ntmps3
  go_wp2_with fail
  rw [← HW.out]
  have hz : w0.heap.size = w.heap.size + 1 + 1 + 1 + 1 := by rw [HW.out]; simp
  refine (Calls.since_same (hsr.alloc _) (long_7 ((Whole.new w0 _ _).at_ hz) h.out)).mono ?_
  rintro e wa ⟨rfl, hSa⟩
  clear hz hsr hsd
  go_wp2_with fail
  refine (lawRec_any _ _ _ _ _ _).mono ?_
  rintro e wb1 ⟨rfl, hbb1⟩
  have hSb1 := hSa.trans hbb1
  go_wp2_with fail
  refine (putRec_at HB1.out HL1.out HE1.out _).mono ?_
  rintro e wc1 ⟨A1, n1, c1, rfl, hh1, hbc1⟩
  have hSc1 := hSb1.trans hbc1
  clear hbb1 hbc1
  go_wp2_with fail
  refine (lawOp_any _ _ _ _ _ _ _ _).mono ?_
  rintro e wb2 ⟨rfl, hbb2⟩
  have hSb2 := hSc1.trans hbb2
  go_wp2_with fail
  refine (putOp_at HB2.out HL2.out HE2.out _).mono ?_
  rintro e wc2 ⟨A2, n2, c2, rfl, hh2, hbc2⟩
  have hSc2 := hSb2.trans hbc2
  replace hh1 := (hh1.below hbb2).below hbc2
  clear hbb2 hbc2
  go_wp2_with fail
  refine (lawAns_any _ _ _ _ _).mono ?_
  rintro e wb3 ⟨rfl, hbb3⟩
  have hSb3 := hSc2.trans hbb3
  go_wp2_with fail
  refine (putAns_at HB3.out HL3.out HE3.out _).mono ?_
  rintro e wc3 ⟨A3, n3, c3, rfl, hh3, hbc3⟩
  have hSc3 := hSb3.trans hbc3
  replace hh1 := (hh1.below hbb3).below hbc3
  replace hh2 := (hh2.below hbb3).below hbc3
  clear hbb3 hbc3
  go_wp2_with fail
  obtain ⟨wz, hwz⟩ : ∃ w', w' = wc3 := ⟨_, rfl⟩
  rw [← hwz] at hh1 hh2 hh3 hSc3 ⊢
  clear hwz hSa hSb1 hSb2 hSb3 hSc1 hSc2
  have d0_0 := fun W (hW : Since wz W) => c0_0 W (hSc3.trans hW)
  have d0_1 := fun W (hW : Since wz W) => c0_1 W (hSc3.trans hW)
  have d0_2 := fun W (hW : Since wz W) => c0_2 W (hSc3.trans hW)
  have d0_3 := fun W (hW : Since wz W) => c0_3 W (hSc3.trans hW)
  have d0_4 := fun W (hW : Since wz W) => c0_4 W (hSc3.trans hW)
  have d1_0 := fun W (hW : Since wz W) => c1_0 W (hSc3.trans hW)
  have d1_1 := fun W (hW : Since wz W) => c1_1 W (hSc3.trans hW)
  have d1_2 := fun W (hW : Since wz W) => c1_2 W (hSc3.trans hW)
  have d1_3 := fun W (hW : Since wz W) => c1_3 W (hSc3.trans hW)
  have d1_4 := fun W (hW : Since wz W) => c1_4 W (hSc3.trans hW)
  have d2_0 := fun W (hW : Since wz W) => c2_0 W (hSc3.trans hW)
  have d2_1 := fun W (hW : Since wz W) => c2_1 W (hSc3.trans hW)
  have d2_2 := fun W (hW : Since wz W) => c2_2 W (hSc3.trans hW)
  have d2_3 := fun W (hW : Since wz W) => c2_3 W (hSc3.trans hW)
  have d2_4 := fun W (hW : Since wz W) => c2_4 W (hSc3.trans hW)
  have d2_5 := fun W (hW : Since wz W) => c2_5 W (hSc3.trans hW)
  have d2_6 := fun W (hW : Since wz W) => c2_6 W (hSc3.trans hW)
  have d3_0 := fun W (hW : Since wz W) => c3_0 W (hSc3.trans hW)
  have d3_1 := fun W (hW : Since wz W) => c3_1 W (hSc3.trans hW)
  have d3_2 := fun W (hW : Since wz W) => c3_2 W (hSc3.trans hW)
  have d3_3 := fun W (hW : Since wz W) => c3_3 W (hSc3.trans hW)
  clear c0_0 c0_1 c0_2 c0_3 c0_4 c1_0 c1_1 c1_2 c1_3 c1_4 c2_0 c2_1 c2_2 c2_3 c2_4 c2_5 c2_6 c3_0 c3_1 c3_2 c3_3
  have tx1 := fun W (hW : Since wz W) => text_of W n1 c1 (hh1.rd.below hW (Nat.le_refl _)) hh1.len
  have tx2 := fun W (hW : Since wz W) => text_of W n2 c2 (hh2.rd.below hW (Nat.le_refl _)) hh2.len
  have tx3 := fun W (hW : Since wz W) => text_of W n3 c3 (hh3.rd.below hW (Nat.le_refl _)) hh3.len
  clear hh1 hh2 hh3
  have hdr : Since wz wz.drew := (Since.refl wz).drew
  go_cut [82] from 50 to 81 (fun s wx => s = .bool false ∧ Since wz wx)
  case first =>
    go_region_held3 (fun W => Since wz W) (first | assumption | exact Since.drew (by assumption)) ((first | (go_at_call 10; (with_reducible refine (Calls.since (by assumption) (lawRec_any _ _ _ _ _ _)).mono ?_); rintro e w9 ⟨rfl, hb9⟩) | (go_at_call 15; (with_reducible refine (Calls.since (by assumption) (rightRec_at HB1.out _)).mono ?_); rintro e w9 ⟨rfl, hb9⟩) | (go_at_call 16; (with_reducible refine (Calls.since (by assumption) (refRightRec_at HB1.out _)).mono ?_); rintro e w9 ⟨rfl, hb9⟩) | (go_at_call 12; (with_reducible refine (Calls.since (by assumption) (lawOp_any _ _ _ _ _ _ _ _)).mono ?_); rintro e w9 ⟨rfl, hb9⟩) | (go_at_call 17; (with_reducible refine (Calls.since (by assumption) (rightOp_at HB2.out _)).mono ?_); rintro e w9 ⟨rfl, hb9⟩) | (go_at_call 18; (with_reducible refine (Calls.since (by assumption) (refRightOp_at HB2.out _)).mono ?_); rintro e w9 ⟨rfl, hb9⟩) | (go_at_call 14; (with_reducible refine (Calls.since (by assumption) (lawAns_any _ _ _ _ _)).mono ?_); rintro e w9 ⟨rfl, hb9⟩) | (go_at_call 19; (with_reducible refine (Calls.since (by assumption) (rightAns_at HB3.out _)).mono ?_); rintro e w9 ⟨rfl, hb9⟩) | (go_at_call 20; (with_reducible refine (Calls.since (by assumption) (refRightAns_at HB3.out _)).mono ?_); rintro e w9 ⟨rfl, hb9⟩) | (go_at_call 21; (with_reducible refine (Calls.since (by assumption) (compare_at HC.out _)).mono ?_); rintro e w9 ⟨rfl, hb9⟩) | (go_at_call 22; (with_reducible refine (Calls.since (by assumption) (refCompare_at HC.out _)).mono ?_); rintro e w9 ⟨rfl, hb9⟩) | (go_at_call 23; (with_reducible refine (Calls.since_same (by assumption) (num7_any _ _)).mono ?_); rintro e w9 ⟨rfl, hb9⟩)))
    go_wp2_with fail
    go_meet
    case rel => exact ⟨by first | rfl | simp, by assumption⟩
  case rest =>
    obtain ⟨wy, hwy⟩ : ∃ w', w' = wc := ⟨_, rfl⟩
    rw [← hwy] at hcut ⊢
    clear hwy hdr
    obtain ⟨rfl, hSy⟩ := hcut
    have hdr : Since wz wy.drew := hSy.drew
    go_wp2_with fail
    go_cut [119] from 83 to 118 (fun s wx => s = .bool false ∧ Since wz wx)
    case first =>
      go_region_held3 (fun W => Since wz W) (first | assumption | exact Since.drew (by assumption)) ((first | (go_at_call 10; (with_reducible refine (Calls.since (by assumption) (lawRec_any _ _ _ _ _ _)).mono ?_); rintro e w9 ⟨rfl, hb9⟩) | (go_at_call 15; (with_reducible refine (Calls.since (by assumption) (rightRec_at HB1.out _)).mono ?_); rintro e w9 ⟨rfl, hb9⟩) | (go_at_call 16; (with_reducible refine (Calls.since (by assumption) (refRightRec_at HB1.out _)).mono ?_); rintro e w9 ⟨rfl, hb9⟩) | (go_at_call 12; (with_reducible refine (Calls.since (by assumption) (lawOp_any _ _ _ _ _ _ _ _)).mono ?_); rintro e w9 ⟨rfl, hb9⟩) | (go_at_call 17; (with_reducible refine (Calls.since (by assumption) (rightOp_at HB2.out _)).mono ?_); rintro e w9 ⟨rfl, hb9⟩) | (go_at_call 18; (with_reducible refine (Calls.since (by assumption) (refRightOp_at HB2.out _)).mono ?_); rintro e w9 ⟨rfl, hb9⟩) | (go_at_call 14; (with_reducible refine (Calls.since (by assumption) (lawAns_any _ _ _ _ _)).mono ?_); rintro e w9 ⟨rfl, hb9⟩) | (go_at_call 19; (with_reducible refine (Calls.since (by assumption) (rightAns_at HB3.out _)).mono ?_); rintro e w9 ⟨rfl, hb9⟩) | (go_at_call 20; (with_reducible refine (Calls.since (by assumption) (refRightAns_at HB3.out _)).mono ?_); rintro e w9 ⟨rfl, hb9⟩) | (go_at_call 21; (with_reducible refine (Calls.since (by assumption) (compare_at HC.out _)).mono ?_); rintro e w9 ⟨rfl, hb9⟩) | (go_at_call 22; (with_reducible refine (Calls.since (by assumption) (refCompare_at HC.out _)).mono ?_); rintro e w9 ⟨rfl, hb9⟩) | (go_at_call 23; (with_reducible refine (Calls.since_same (by assumption) (num7_any _ _)).mono ?_); rintro e w9 ⟨rfl, hb9⟩)))
      go_wp2_with fail
      go_meet
      case rel => exact ⟨by first | rfl | simp, by assumption⟩
    case rest =>
      obtain ⟨wy, hwy⟩ : ∃ w', w' = wc := ⟨_, rfl⟩
      rw [← hwy] at hcut ⊢
      clear hwy hdr
      obtain ⟨rfl, hSy⟩ := hcut
      have hdr : Since wz wy.drew := hSy.drew
      go_wp2_with fail
      obtain ⟨wq, hwq⟩ : ∃ wq, wq = wy.drew := ⟨_, rfl⟩
      refine wp_region_held_drew (S := fun W => Since wz W) (by kernel_rfl) hdr (fun hHeld => ?_)
      rw [← hwq] at hHeld ⊢
      have hq : Since wz wq := hHeld
      clear hwq hdr
      refine wpAnyH_take (i := 0) (v := ?_) rfl (by kernel_rfl) (by kernel_rfl) (by kernel_rfl) (fun _ _ _ h => h) (Or.inl ⟨by rfl, ?_⟩) (by assumption) ?_
      rotate_left 1
      · (intro W hW; clear hW; go_simp; try with_reducible rfl)
      simp only [Act.put, List.getElem_toArray, List.getElem_cons_zero, List.setIfInBounds_toArray, List.set_cons_zero, List.set_cons_succ]
      refine wpAnyH_take (i := 1) (v := ?_) rfl (by kernel_rfl) (by kernel_rfl) (by kernel_rfl) (fun _ _ _ h => h) (Or.inl ⟨by rfl, ?_⟩) (by assumption) ?_
      rotate_left 1
      · (intro W hW; skip; go_simp; try with_reducible rfl)
      simp only [Act.put, List.getElem_toArray, List.getElem_cons_succ, List.getElem_cons_zero, List.setIfInBounds_toArray, List.set_cons_zero, List.set_cons_succ]
      refine wpAnyH_take (i := 2) (v := ?_) rfl (by kernel_rfl) (by kernel_rfl) (by kernel_rfl) (fun _ _ _ h => h) (Or.inl ⟨by rfl, ?_⟩) (by assumption) ?_
      rotate_left 1
      · (intro W hW; skip; go_simp; try with_reducible rfl)
      simp only [Act.put, List.getElem_toArray, List.getElem_cons_succ, List.getElem_cons_zero, List.setIfInBounds_toArray, List.set_cons_zero, List.set_cons_succ]
      refine wpAnyH_ready (rs := [3]) (by kernel_rfl) (by simp) ?_
      refine AllReadyH.cons rfl (fun K hK => ?_) AllReadyH.nil
      go_simp
      refine (refPutRec_at HB1.out HL1.out _).mono ?_
      rintro e wf1 ⟨AF1, nF1, cF1, rfl, hF1, hbf1'⟩
      have hbf1 : Since wz wf1 := Since.trans hq hbf1'
      have ty1 := text_of wf1 nF1 cF1 hF1.rd hF1.len
      clear hF1
      go_wp2_with fail
      refine hK.out _ _ (hbf1) (fun hHeld => ?_)
      clear hK K
      try simp only [Act.put, List.getElem_toArray, List.getElem_cons_succ, List.getElem_cons_zero, List.setIfInBounds_toArray, List.set_cons_zero, List.set_cons_succ]
      refine wpAnyH_ready (rs := [4]) (by kernel_rfl) (by simp) ?_
      refine AllReadyH.cons rfl (fun K hK => ?_) AllReadyH.nil
      go_simp
      skip
      refine hK.out _ _ (hbf1) (fun hHeld => ?_)
      clear hK K
      try simp only [Act.put, List.getElem_toArray, List.getElem_cons_succ, List.getElem_cons_zero, List.setIfInBounds_toArray, List.set_cons_zero, List.set_cons_succ]
      refine wpAnyH_take (i := 5) (v := ?_) rfl (by kernel_rfl) (by kernel_rfl) (by kernel_rfl) (fun _ _ _ h => h) (Or.inl ⟨by rfl, ?_⟩) (by assumption) ?_
      rotate_left 1
      · (intro W hW; clear hW; go_simp; try with_reducible rfl)
      simp only [Act.put, List.getElem_toArray, List.getElem_cons_succ, List.getElem_cons_zero, List.setIfInBounds_toArray, List.set_cons_zero, List.set_cons_succ]
      refine wpAnyH_take (i := 6) (v := ?_) rfl (by kernel_rfl) (by kernel_rfl) (by kernel_rfl) (fun _ _ _ h => h) (Or.inl ⟨by rfl, ?_⟩) (by assumption) ?_
      rotate_left 1
      · (intro W hW; clear hW; go_simp; try with_reducible rfl)
      simp only [Act.put, List.getElem_toArray, List.getElem_cons_succ, List.getElem_cons_zero, List.setIfInBounds_toArray, List.set_cons_zero, List.set_cons_succ]
      refine wpAnyH_take (i := 7) (v := ?_) rfl (by kernel_rfl) (by kernel_rfl) (by kernel_rfl) (fun _ _ _ h => h) (Or.inl ⟨by rfl, ?_⟩) (by assumption) ?_
      rotate_left 1
      · (intro W hW; clear hW; go_simp; try with_reducible rfl)
      simp only [Act.put, List.getElem_toArray, List.getElem_cons_succ, List.getElem_cons_zero, List.setIfInBounds_toArray, List.set_cons_zero, List.set_cons_succ]
      refine wpAnyH_take (i := 8) (v := ?_) rfl (by kernel_rfl) (by kernel_rfl) (by kernel_rfl) (fun _ _ _ h => h) (Or.inl ⟨by rfl, ?_⟩) (by assumption) ?_
      rotate_left 1
      · (intro W hW; skip; go_simp; try with_reducible rfl)
      simp only [Act.put, List.getElem_toArray, List.getElem_cons_succ, List.getElem_cons_zero, List.setIfInBounds_toArray, List.set_cons_zero, List.set_cons_succ]
      refine wpAnyH_take (i := 9) (v := ?_) rfl (by kernel_rfl) (by kernel_rfl) (by kernel_rfl) (fun _ _ _ h => h) (Or.inl ⟨by rfl, ?_⟩) (by assumption) ?_
      rotate_left 1
      · (intro W hW; skip; go_simp; try with_reducible rfl)
      simp only [Act.put, List.getElem_toArray, List.getElem_cons_succ, List.getElem_cons_zero, List.setIfInBounds_toArray, List.set_cons_zero, List.set_cons_succ]
      refine wpAnyH_ready (rs := [10]) (by kernel_rfl) (by simp) ?_
      refine AllReadyH.cons rfl (fun K hK => ?_) AllReadyH.nil
      go_simp
      refine (refPutOp_at HB2.out HL2.out _).mono ?_
      rintro e wf2 ⟨AF2, nF2, cF2, rfl, hF2, hbf2'⟩
      have hbf2 : Since wz wf2 := Since.trans hbf1 hbf2'
      have ty2 := text_of wf2 nF2 cF2 hF2.rd hF2.len
      clear hF2
      go_wp2_with fail
      refine hK.out _ _ (hbf2) (fun hHeld => ?_)
      clear hK K
      try simp only [Act.put, List.getElem_toArray, List.getElem_cons_succ, List.getElem_cons_zero, List.setIfInBounds_toArray, List.set_cons_zero, List.set_cons_succ]
      refine wpAnyH_ready (rs := [11]) (by kernel_rfl) (by simp) ?_
      refine AllReadyH.cons rfl (fun K hK => ?_) AllReadyH.nil
      go_simp
      skip
      refine hK.out _ _ (hbf2) (fun hHeld => ?_)
      clear hK K
      try simp only [Act.put, List.getElem_toArray, List.getElem_cons_succ, List.getElem_cons_zero, List.setIfInBounds_toArray, List.set_cons_zero, List.set_cons_succ]
      refine wpAnyH_take (i := 12) (v := ?_) rfl (by kernel_rfl) (by kernel_rfl) (by kernel_rfl) (fun _ _ _ h => h) (Or.inl ⟨by rfl, ?_⟩) (by assumption) ?_
      rotate_left 1
      · (intro W hW; clear hW; go_simp; try with_reducible rfl)
      simp only [Act.put, List.getElem_toArray, List.getElem_cons_succ, List.getElem_cons_zero, List.setIfInBounds_toArray, List.set_cons_zero, List.set_cons_succ]
      refine wpAnyH_take (i := 13) (v := ?_) rfl (by kernel_rfl) (by kernel_rfl) (by kernel_rfl) (fun _ _ _ h => h) (Or.inl ⟨by rfl, ?_⟩) (by assumption) ?_
      rotate_left 1
      · (intro W hW; clear hW; go_simp; try with_reducible rfl)
      simp only [Act.put, List.getElem_toArray, List.getElem_cons_succ, List.getElem_cons_zero, List.setIfInBounds_toArray, List.set_cons_zero, List.set_cons_succ]
      refine wpAnyH_take (i := 14) (v := ?_) rfl (by kernel_rfl) (by kernel_rfl) (by kernel_rfl) (fun _ _ _ h => h) (Or.inl ⟨by rfl, ?_⟩) (by assumption) ?_
      rotate_left 1
      · (intro W hW; clear hW; go_simp; try with_reducible rfl)
      simp only [Act.put, List.getElem_toArray, List.getElem_cons_succ, List.getElem_cons_zero, List.setIfInBounds_toArray, List.set_cons_zero, List.set_cons_succ]
      refine wpAnyH_take (i := 15) (v := ?_) rfl (by kernel_rfl) (by kernel_rfl) (by kernel_rfl) (fun _ _ _ h => h) (Or.inl ⟨by rfl, ?_⟩) (by assumption) ?_
      rotate_left 1
      · (intro W hW; clear hW; go_simp; try with_reducible rfl)
      simp only [Act.put, List.getElem_toArray, List.getElem_cons_succ, List.getElem_cons_zero, List.setIfInBounds_toArray, List.set_cons_zero, List.set_cons_succ]
      refine wpAnyH_take (i := 16) (v := ?_) rfl (by kernel_rfl) (by kernel_rfl) (by kernel_rfl) (fun _ _ _ h => h) (Or.inl ⟨by rfl, ?_⟩) (by assumption) ?_
      rotate_left 1
      · (intro W hW; skip; go_simp; try with_reducible rfl)
      simp only [Act.put, List.getElem_toArray, List.getElem_cons_succ, List.getElem_cons_zero, List.setIfInBounds_toArray, List.set_cons_zero, List.set_cons_succ]
      refine wpAnyH_take (i := 17) (v := ?_) rfl (by kernel_rfl) (by kernel_rfl) (by kernel_rfl) (fun _ _ _ h => h) (Or.inl ⟨by rfl, ?_⟩) (by assumption) ?_
      rotate_left 1
      · (intro W hW; skip; go_simp; try with_reducible rfl)
      simp only [Act.put, List.getElem_toArray, List.getElem_cons_succ, List.getElem_cons_zero, List.setIfInBounds_toArray, List.set_cons_zero, List.set_cons_succ]
      refine wpAnyH_ready (rs := [18]) (by kernel_rfl) (by simp) ?_
      refine AllReadyH.cons rfl (fun K hK => ?_) AllReadyH.nil
      go_simp
      refine (refPutAns_at HB3.out HL3.out _).mono ?_
      rintro e wf3 ⟨AF3, nF3, cF3, rfl, hF3, hbf3'⟩
      have hbf3 : Since wz wf3 := Since.trans hbf2 hbf3'
      have ty3 := text_of wf3 nF3 cF3 hF3.rd hF3.len
      clear hF3
      go_wp2_with fail
      refine hK.out _ _ (hbf3) (fun hHeld => ?_)
      clear hK K
      try simp only [Act.put, List.getElem_toArray, List.getElem_cons_succ, List.getElem_cons_zero, List.setIfInBounds_toArray, List.set_cons_zero, List.set_cons_succ]
      refine wpAnyH_ready (rs := [19]) (by kernel_rfl) (by simp) ?_
      refine AllReadyH.cons rfl (fun K hK => ?_) AllReadyH.nil
      go_simp
      skip
      refine hK.out _ _ (hbf3) (fun hHeld => ?_)
      clear hK K
      try simp only [Act.put, List.getElem_toArray, List.getElem_cons_succ, List.getElem_cons_zero, List.setIfInBounds_toArray, List.set_cons_zero, List.set_cons_succ]
      refine wpAnyH_take (i := 20) (v := ?_) rfl (by kernel_rfl) (by kernel_rfl) (by kernel_rfl) (fun _ _ _ h => h) (Or.inl ⟨by rfl, ?_⟩) (by assumption) ?_
      rotate_left 1
      · (intro W hW; clear hW; go_simp; try with_reducible rfl)
      simp only [Act.put, List.getElem_toArray, List.getElem_cons_succ, List.getElem_cons_zero, List.setIfInBounds_toArray, List.set_cons_zero, List.set_cons_succ]
      refine wpAnyH_take (i := 21) (v := ?_) rfl (by kernel_rfl) (by kernel_rfl) (by kernel_rfl) (fun _ _ _ h => h) (Or.inl ⟨by rfl, ?_⟩) (by assumption) ?_
      rotate_left 1
      · (intro W hW; clear hW; go_simp; try with_reducible rfl)
      simp only [Act.put, List.getElem_toArray, List.getElem_cons_succ, List.getElem_cons_zero, List.setIfInBounds_toArray, List.set_cons_zero, List.set_cons_succ]
      refine wpAnyH_take (i := 22) (v := ?_) rfl (by kernel_rfl) (by kernel_rfl) (by kernel_rfl) (fun _ _ _ h => h) (Or.inl ⟨by rfl, ?_⟩) (by assumption) ?_
      rotate_left 1
      · (intro W hW; clear hW; go_simp; try with_reducible rfl)
      simp only [Act.put, List.getElem_toArray, List.getElem_cons_succ, List.getElem_cons_zero, List.setIfInBounds_toArray, List.set_cons_zero, List.set_cons_succ]
      refine wpAnyH_ready (rs := [23]) (by kernel_rfl) (by simp) ?_
      refine AllReadyH.cons rfl (fun K hK => ?_) AllReadyH.nil
      go_simp
      refine (knows7_any _).mono ?_
      rintro e wk ⟨rfl, hbk⟩
      go_wp2_with fail
      refine hK.out _ _ (hbf3.trans hbk) (fun hHeld => ?_)
      clear hK K
      try simp only [Act.put, List.getElem_toArray, List.getElem_cons_succ, List.getElem_cons_zero, List.setIfInBounds_toArray, List.set_cons_zero, List.set_cons_succ]
      refine wpAnyH_take (i := 24) (v := ?_) rfl (by kernel_rfl) (by kernel_rfl) (by kernel_rfl) (fun _ _ _ h => h) (Or.inl ⟨by rfl, ?_⟩) (by assumption) ?_
      rotate_left 1
      · (intro W hW; clear hW; go_simp; try with_reducible rfl)
      simp only [Act.put, List.getElem_toArray, List.getElem_cons_succ, List.getElem_cons_zero, List.setIfInBounds_toArray, List.set_cons_zero, List.set_cons_succ]
      refine wpAnyH_take (i := 25) (v := ?_) rfl (by kernel_rfl) (by kernel_rfl) (by kernel_rfl) (fun _ _ _ h => h) (Or.inl ⟨by rfl, ?_⟩) (by assumption) ?_
      rotate_left 1
      · (intro W hW; clear hW; go_simp; try with_reducible rfl)
      simp only [Act.put, List.getElem_toArray, List.getElem_cons_succ, List.getElem_cons_zero, List.setIfInBounds_toArray, List.set_cons_zero, List.set_cons_succ]
      refine wpAnyH_done (by kernel_rfl) ?_ _
      go_wp2
      go_ret
      exact ⟨by first | rfl | simp, hs0.trans (hSc3.trans (hbf3.trans hbk))⟩
theorem puts_go (x y : Int) (key val : ByteArray) (ver bx b_y : Int) (bk bv : ByteArray) (bw kind ox oy : Int) (okey oval : ByteArray) (cl seq er : Int) (found : Bool) (aval : ByteArray) (aver : Int) (w : World) : Calls Tryd.prog 3 #[.agg #[.int .i64 x, .int .i64 y, .string key, .string val, .int .i64 ver], .agg #[.int .i64 bx, .int .i64 b_y, .string bk, .string bv, .int .i64 bw], .agg #[.int .i64 kind, .int .i64 ox, .int .i64 oy, .string okey, .string oval, .int .i64 cl, .int .i64 seq], .agg #[.int .i64 er, .bool found, .string aval, .int .i64 aver]] w fun e w' => e = .returned (.bool true) ∧ Below w.heap.size w w' := by
  cases h : longB [key, val, bk, bv, okey, oval, aval] with
  | true => exact puts_long x y key val ver bx b_y bk bv bw kind ox oy okey oval cl seq er found aval aver w h
  | false => exact puts_short x y key val ver bx b_y bk bv bw kind ox oy okey oval cl seq er found aval aver w h
end Go.Proofs.YthgcmcdacejelaaDoor
