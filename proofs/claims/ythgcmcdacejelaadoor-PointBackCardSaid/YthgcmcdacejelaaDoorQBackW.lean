/- The walk of the law PointBack. -/
import Derived.Test.YthgcmcdacejelaaDoorQBackM
import Derived.Test.YthgcmcdacejelaaDoorQKnows
import Derived.Test.YthgcmcdacejelaaDoorUReads3
import Derived.Deep.Cut
import Derived.Deep.CutRange
namespace Go.Proofs.YthgcmcdacejelaaDoor
open Go.RowKit
set_option linter.unusedVariables false
set_option maxRecDepth 100000 in
set_option maxHeartbeats 1600000 in
theorem back_long (x y : Int) (key val : ByteArray) (ver kind ox oy : Int) (okey oval : ByteArray) (cl seq er : Int) (found : Bool) (aval : ByteArray) (aver : Int) (A0 : Option Addr) (n0 c0 : Nat) (w : World) (h : longB [key, val, okey, oval, aval] = true) : Calls Tryd.prog 5 #[.agg #[.int .i64 x, .int .i64 y, .string key, .string val, .int .i64 ver], .agg #[.int .i64 kind, .int .i64 ox, .int .i64 oy, .string okey, .string oval, .int .i64 cl, .int .i64 seq], .agg #[.int .i64 er, .bool found, .string aval, .int .i64 aver], .slice A0 n0 c0] w fun e w' => e = .returned (.bool true) ∧ Below w.heap.size w w' := by
  replace h := Lib.hid h
  obtain ⟨w0, hw0⟩ : ∃ w0, w0 = ((w.alloc (.cells #[.int .i64 x, .int .i64 y, .string key, .string val, .int .i64 ver] 25)).alloc (.cells #[.int .i64 kind, .int .i64 ox, .int .i64 oy, .string okey, .string oval, .int .i64 cl, .int .i64 seq] 27)).alloc (.cells #[.int .i64 er, .bool found, .string aval, .int .i64 aver] 29) := ⟨_, rfl⟩
  have hs0 : Since w w0 := by rw [hw0]; exact (((Since.refl w).alloc _).alloc _).alloc _
  have wh0 : Whole w0 (w.heap.size) 25 #[.int .i64 x, .int .i64 y, .string key, .string val, .int .i64 ver] := by rw [hw0]; exact ((Whole.new w _ _).alloc _).alloc _
  have wh1 : Whole w0 (w.heap.size + 1) 27 #[.int .i64 kind, .int .i64 ox, .int .i64 oy, .string okey, .string oval, .int .i64 cl, .int .i64 seq] := by rw [hw0]; exact ((Whole.new (w.alloc _) _ _).alloc _).at_ (by simp)
  have wh2 : Whole w0 (w.heap.size + 1 + 1) 29 #[.int .i64 er, .bool found, .string aval, .int .i64 aver] := by rw [hw0]; exact (Whole.new ((w.alloc _).alloc _) _ _).at_ (by simp)
  have HW := Lib.hid hw0
  have c0_0 := box_cell wh0 0 (.int .i64 x) rfl
  have c0_1 := box_cell wh0 1 (.int .i64 y) rfl
  have c0_2 := box_cell wh0 2 (.string key) rfl
  have c0_3 := box_cell wh0 3 (.string val) rfl
  have c0_4 := box_cell wh0 4 (.int .i64 ver) rfl
  have c1_0 := box_cell wh1 0 (.int .i64 kind) rfl
  have c1_1 := box_cell wh1 1 (.int .i64 ox) rfl
  have c1_2 := box_cell wh1 2 (.int .i64 oy) rfl
  have c1_3 := box_cell wh1 3 (.string okey) rfl
  have c1_4 := box_cell wh1 4 (.string oval) rfl
  have c1_5 := box_cell wh1 5 (.int .i64 cl) rfl
  have c1_6 := box_cell wh1 6 (.int .i64 seq) rfl
  have c2_0 := box_cell wh2 0 (.int .i64 er) rfl
  have c2_1 := box_cell wh2 1 (.bool found) rfl
  have c2_2 := box_cell wh2 2 (.string aval) rfl
  have c2_3 := box_cell wh2 3 (.int .i64 aver) rfl
  have hsr := Since.refl w0
  have hsd := hsr.drew
  clear hw0 wh0 wh1 wh2
  go_enter Tryd.func5, Tryd.ntmps5
  go_wp2_with fail
  rw [← HW.out]
  have hz : w0.heap.size = w.heap.size + 1 + 1 + 1 := by rw [HW.out]; simp
  refine (Calls.since_same (hsr.alloc _) (long_5 ((Whole.new w0 _ _).at_ hz) h.out)).mono ?_
  rintro e w1 ⟨rfl, hb1⟩
  go_wp2_with ((go_at_call 8; (with_reducible refine (Calls.since (by assumption) (knows7_any _)).mono ?_); rintro e w2 ⟨rfl, hb2⟩))
  go_ret
  exact ⟨rfl, hs0.trans (by assumption)⟩
set_option maxRecDepth 100000 in
set_option maxHeartbeats 1600000 in
theorem back_wide (x y : Int) (key val : ByteArray) (ver kind ox oy : Int) (okey oval : ByteArray) (cl seq er : Int) (found : Bool) (aval : ByteArray) (aver : Int) (A0 : Option Addr) (n0 c0 : Nat) (w : World) (h : longB [key, val, okey, oval, aval] = false) (h5 : 500 < n0) : Calls Tryd.prog 5 #[.agg #[.int .i64 x, .int .i64 y, .string key, .string val, .int .i64 ver], .agg #[.int .i64 kind, .int .i64 ox, .int .i64 oy, .string okey, .string oval, .int .i64 cl, .int .i64 seq], .agg #[.int .i64 er, .bool found, .string aval, .int .i64 aver], .slice A0 n0 c0] w fun e w' => e = .returned (.bool true) ∧ Below w.heap.size w w' := by
  replace h := Lib.hid h
  obtain ⟨w0, hw0⟩ : ∃ w0, w0 = ((w.alloc (.cells #[.int .i64 x, .int .i64 y, .string key, .string val, .int .i64 ver] 25)).alloc (.cells #[.int .i64 kind, .int .i64 ox, .int .i64 oy, .string okey, .string oval, .int .i64 cl, .int .i64 seq] 27)).alloc (.cells #[.int .i64 er, .bool found, .string aval, .int .i64 aver] 29) := ⟨_, rfl⟩
  have hs0 : Since w w0 := by rw [hw0]; exact (((Since.refl w).alloc _).alloc _).alloc _
  have wh0 : Whole w0 (w.heap.size) 25 #[.int .i64 x, .int .i64 y, .string key, .string val, .int .i64 ver] := by rw [hw0]; exact ((Whole.new w _ _).alloc _).alloc _
  have wh1 : Whole w0 (w.heap.size + 1) 27 #[.int .i64 kind, .int .i64 ox, .int .i64 oy, .string okey, .string oval, .int .i64 cl, .int .i64 seq] := by rw [hw0]; exact ((Whole.new (w.alloc _) _ _).alloc _).at_ (by simp)
  have wh2 : Whole w0 (w.heap.size + 1 + 1) 29 #[.int .i64 er, .bool found, .string aval, .int .i64 aver] := by rw [hw0]; exact (Whole.new ((w.alloc _).alloc _) _ _).at_ (by simp)
  have HW := Lib.hid hw0
  have c0_0 := box_cell wh0 0 (.int .i64 x) rfl
  have c0_1 := box_cell wh0 1 (.int .i64 y) rfl
  have c0_2 := box_cell wh0 2 (.string key) rfl
  have c0_3 := box_cell wh0 3 (.string val) rfl
  have c0_4 := box_cell wh0 4 (.int .i64 ver) rfl
  have c1_0 := box_cell wh1 0 (.int .i64 kind) rfl
  have c1_1 := box_cell wh1 1 (.int .i64 ox) rfl
  have c1_2 := box_cell wh1 2 (.int .i64 oy) rfl
  have c1_3 := box_cell wh1 3 (.string okey) rfl
  have c1_4 := box_cell wh1 4 (.string oval) rfl
  have c1_5 := box_cell wh1 5 (.int .i64 cl) rfl
  have c1_6 := box_cell wh1 6 (.int .i64 seq) rfl
  have c2_0 := box_cell wh2 0 (.int .i64 er) rfl
  have c2_1 := box_cell wh2 1 (.bool found) rfl
  have c2_2 := box_cell wh2 2 (.string aval) rfl
  have c2_3 := box_cell wh2 3 (.int .i64 aver) rfl
  have hsr := Since.refl w0
  have hsd := hsr.drew
  clear hw0 wh0 wh1 wh2
  go_enter Tryd.func5, Tryd.ntmps5
  go_wp2_with fail
  rw [← HW.out]
  have hz : w0.heap.size = w.heap.size + 1 + 1 + 1 := by rw [HW.out]; simp
  refine (Calls.since_same (hsr.alloc _) (long_5 ((Whole.new w0 _ _).at_ hz) h.out)).mono ?_
  rintro e w1 ⟨rfl, hb1⟩
  go_wp2_with ((go_at_call 8; (with_reducible refine (Calls.since (by assumption) (knows7_any _)).mono ?_); rintro e w2 ⟨rfl, hb2⟩))
  go_ret
  exact ⟨rfl, hs0.trans (by assumption)⟩
theorem leftP7 {w : World} {base g : Nat} {s : RSt} (h : RdS w base g s) : Calls Tryd.prog 34 #[.pointer (some ⟨g, 0, none⟩)] w fun x w' => x = .returned (.int .i64 (leftOf s.1.length s.2)) ∧ w = w' := by
  obtain ⟨A, n, c, h⟩ := h
  exact (wleft h).mono fun _ _ h => ⟨h.1, h.2.symm⟩
theorem recL_len {x y : Int} {key val : ByteArray} {ver : Int} (h : recB x y key val ver = true) : (recL x y key val ver).length ≤ 10000 := by
  have hb := recB_bd h
  have h1 := numL_len x
  have h2 := numL_len y
  have h3 := numL_len ver
  have h4 := textL_len (show key.size ≤ 1000 by omega)
  have h5 := textL_len (show val.size ≤ 1000 by omega)
  unfold recL
  simp
  omega
theorem opL_len {kind x y : Int} {key val : ByteArray} {cl seq : Int} (h : opB kind x y key val cl seq = true) : (opL kind x y key val cl seq).length ≤ 10000 := by
  have hb := opB_bd h
  have h0 := numL_len kind
  have h1 := numL_len x
  have h2 := numL_len y
  have h3 := numL_len cl
  have h6 := numL_len seq
  have h4 := textL_len (show key.size ≤ 1000 by omega)
  have h5 := textL_len (show val.size ≤ 1000 by omega)
  unfold opL
  simp
  omega
theorem ansL_len {er : Int} {fd : Bool} {val : ByteArray} {ver : Int} (h : ansB er fd val ver = true) : (ansL er fd val ver).length ≤ 10000 := by
  have hb := ansB_bd h
  have h0 := numL_len er
  have h1 := numL_len (if fd then 1 else 0)
  have h3 := numL_len ver
  have h5 := textL_len (show val.size ≤ 1000 by omega)
  unfold ansL
  simp
  omega
set_option maxRecDepth 100000 in
set_option maxHeartbeats 12800000 in
theorem back_short (x y : Int) (key val : ByteArray) (ver kind ox oy : Int) (okey oval : ByteArray) (cl seq er : Int) (found : Bool) (aval : ByteArray) (aver : Int) (A0 : Option Addr) (n0 c0 : Nat) (b : List UInt8) (w : World) (h : longB [key, val, okey, oval, aval] = false) (hr : Rd w w.heap.size A0 b) (hn : b.length = n0) (hc : n0 ≤ c0) (h5 : n0 ≤ 500) (hA : Seen A0 n0 c0) : Calls Tryd.prog 5 #[.agg #[.int .i64 x, .int .i64 y, .string key, .string val, .int .i64 ver], .agg #[.int .i64 kind, .int .i64 ox, .int .i64 oy, .string okey, .string oval, .int .i64 cl, .int .i64 seq], .agg #[.int .i64 er, .bool found, .string aval, .int .i64 aver], .slice A0 n0 c0] w fun e w' => e = .returned (.bool true) ∧ Below w.heap.size w w' := by
  replace h := Lib.hid h
  have HN := Lib.hid hn
  have HA := Lib.hid hA
  have HRD := Lib.hid hr
  have hlf : leftOf b.length 0 = (n0 : Int) := by unfold leftOf; rw [if_pos rfl, hn]
  clear hn hA hr
  obtain ⟨b1, hb1⟩ : ∃ b, recB x y key val ver = b := ⟨_, rfl⟩
  obtain ⟨L1, hL1⟩ : ∃ l, (if b1 then recL x y key val ver else []) = l := ⟨_, rfl⟩
  obtain ⟨E1, hE1⟩ : ∃ e : Int, (if b1 then 0 else 1) = e := ⟨_, rfl⟩
  have eq1 : (E1 == 0) = b1 := by rw [← hE1]; cases b1 <;> rfl
  have HM1 : Hid (L1.length ≤ 10000) := by
    unfold Hid
    rw [← hL1]
    cases hq : b1 with
    | true => rw [if_pos rfl]; exact recL_len (hb1.trans hq)
    | false => simp
  have HB1 := Lib.hid hb1
  have HL1 := Lib.hid hL1
  have HE1 := Lib.hid hE1
  clear hb1 hL1 hE1
  obtain ⟨b2, hb2⟩ : ∃ b, opB kind ox oy okey oval cl seq = b := ⟨_, rfl⟩
  obtain ⟨L2, hL2⟩ : ∃ l, (if b2 then opL kind ox oy okey oval cl seq else []) = l := ⟨_, rfl⟩
  obtain ⟨E2, hE2⟩ : ∃ e : Int, (if b2 then 0 else 1) = e := ⟨_, rfl⟩
  have eq2 : (E2 == 0) = b2 := by rw [← hE2]; cases b2 <;> rfl
  have HM2 : Hid (L2.length ≤ 10000) := by
    unfold Hid
    rw [← hL2]
    cases hq : b2 with
    | true => rw [if_pos rfl]; exact opL_len (hb2.trans hq)
    | false => simp
  have HB2 := Lib.hid hb2
  have HL2 := Lib.hid hL2
  have HE2 := Lib.hid hE2
  clear hb2 hL2 hE2
  obtain ⟨b3, hb3⟩ : ∃ b, ansB er found aval aver = b := ⟨_, rfl⟩
  obtain ⟨L3, hL3⟩ : ∃ l, (if b3 then ansL er found aval aver else []) = l := ⟨_, rfl⟩
  obtain ⟨E3, hE3⟩ : ∃ e : Int, (if b3 then 0 else 1) = e := ⟨_, rfl⟩
  have eq3 : (E3 == 0) = b3 := by rw [← hE3]; cases b3 <;> rfl
  have HM3 : Hid (L3.length ≤ 10000) := by
    unfold Hid
    rw [← hL3]
    cases hq : b3 with
    | true => rw [if_pos rfl]; exact ansL_len (hb3.trans hq)
    | false => simp
  have HB3 := Lib.hid hb3
  have HL3 := Lib.hid hL3
  have HE3 := Lib.hid hE3
  clear hb3 hL3 hE3
  obtain ⟨w0, hw0⟩ : ∃ w0, w0 = ((w.alloc (.cells #[.int .i64 x, .int .i64 y, .string key, .string val, .int .i64 ver] 25)).alloc (.cells #[.int .i64 kind, .int .i64 ox, .int .i64 oy, .string okey, .string oval, .int .i64 cl, .int .i64 seq] 27)).alloc (.cells #[.int .i64 er, .bool found, .string aval, .int .i64 aver] 29) := ⟨_, rfl⟩
  have hs0 : Since w w0 := by rw [hw0]; exact (((Since.refl w).alloc _).alloc _).alloc _
  have wh0 : Whole w0 (w.heap.size) 25 #[.int .i64 x, .int .i64 y, .string key, .string val, .int .i64 ver] := by rw [hw0]; exact ((Whole.new w _ _).alloc _).alloc _
  have wh1 : Whole w0 (w.heap.size + 1) 27 #[.int .i64 kind, .int .i64 ox, .int .i64 oy, .string okey, .string oval, .int .i64 cl, .int .i64 seq] := by rw [hw0]; exact ((Whole.new (w.alloc _) _ _).alloc _).at_ (by simp)
  have wh2 : Whole w0 (w.heap.size + 1 + 1) 29 #[.int .i64 er, .bool found, .string aval, .int .i64 aver] := by rw [hw0]; exact (Whole.new ((w.alloc _).alloc _) _ _).at_ (by simp)
  have HW := Lib.hid hw0
  have c0_0 := box_cell wh0 0 (.int .i64 x) rfl
  have c0_1 := box_cell wh0 1 (.int .i64 y) rfl
  have c0_2 := box_cell wh0 2 (.string key) rfl
  have c0_3 := box_cell wh0 3 (.string val) rfl
  have c0_4 := box_cell wh0 4 (.int .i64 ver) rfl
  have c1_0 := box_cell wh1 0 (.int .i64 kind) rfl
  have c1_1 := box_cell wh1 1 (.int .i64 ox) rfl
  have c1_2 := box_cell wh1 2 (.int .i64 oy) rfl
  have c1_3 := box_cell wh1 3 (.string okey) rfl
  have c1_4 := box_cell wh1 4 (.string oval) rfl
  have c1_5 := box_cell wh1 5 (.int .i64 cl) rfl
  have c1_6 := box_cell wh1 6 (.int .i64 seq) rfl
  have c2_0 := box_cell wh2 0 (.int .i64 er) rfl
  have c2_1 := box_cell wh2 1 (.bool found) rfl
  have c2_2 := box_cell wh2 2 (.string aval) rfl
  have c2_3 := box_cell wh2 3 (.int .i64 aver) rfl
  have hsr := Since.refl w0
  have hsd := hsr.drew
  clear hw0 wh0 wh1 wh2
  go_enter Tryd.func5, Tryd.ntmps5
  go_wp2_with fail
  rw [← HW.out]
  have hz : w0.heap.size = w.heap.size + 1 + 1 + 1 := by rw [HW.out]; simp
  refine (Calls.since_same (hsr.alloc _) (long_5 ((Whole.new w0 _ _).at_ hz) h.out)).mono ?_
  rintro e wa ⟨rfl, hSa⟩
  clear hz hsr hsd
  go_wp2_with fail
  refine (lawRec_any _ _ _ _ _ _).mono ?_
  rintro e wb1 ⟨rfl, hbb1⟩
  have hSb1 := hSa.trans hbb1
  go_wp2_with fail
  refine (putRec_at HB1.out HL1.out HE1.out _).mono ?_
  rintro e wc1 ⟨A1, n1, c1, rfl, hh1, hbc1⟩
  have hSc1 := hSb1.trans hbc1
  clear hbb1 hbc1
  go_wp2_with fail
  refine (lawOp_any _ _ _ _ _ _ _ _).mono ?_
  rintro e wb2 ⟨rfl, hbb2⟩
  have hSb2 := hSc1.trans hbb2
  go_wp2_with fail
  refine (putOp_at HB2.out HL2.out HE2.out _).mono ?_
  rintro e wc2 ⟨A2, n2, c2, rfl, hh2, hbc2⟩
  have hSc2 := hSb2.trans hbc2
  replace hh1 := (hh1.below hbb2).below hbc2
  clear hbb2 hbc2
  go_wp2_with fail
  refine (lawAns_any _ _ _ _ _).mono ?_
  rintro e wb3 ⟨rfl, hbb3⟩
  have hSb3 := hSc2.trans hbb3
  go_wp2_with fail
  refine (putAns_at HB3.out HL3.out HE3.out _).mono ?_
  rintro e wc3 ⟨A3, n3, c3, rfl, hh3, hbc3⟩
  have hSc3 := hSb3.trans hbc3
  replace hh1 := (hh1.below hbb3).below hbc3
  replace hh2 := (hh2.below hbb3).below hbc3
  clear hbb3 hbc3
  obtain ⟨wz, hwz⟩ : ∃ w', w' = wc3 := ⟨_, rfl⟩
  rw [← hwz] at hh1 hh2 hh3 hSc3 ⊢
  clear hwz hSa hSb1 hSb2 hSb3 hSc1 hSc2
  have d0_0 := fun W (hW : Since wz W) => c0_0 W (hSc3.trans hW)
  have d0_1 := fun W (hW : Since wz W) => c0_1 W (hSc3.trans hW)
  have d0_2 := fun W (hW : Since wz W) => c0_2 W (hSc3.trans hW)
  have d0_3 := fun W (hW : Since wz W) => c0_3 W (hSc3.trans hW)
  have d0_4 := fun W (hW : Since wz W) => c0_4 W (hSc3.trans hW)
  have d1_0 := fun W (hW : Since wz W) => c1_0 W (hSc3.trans hW)
  have d1_1 := fun W (hW : Since wz W) => c1_1 W (hSc3.trans hW)
  have d1_2 := fun W (hW : Since wz W) => c1_2 W (hSc3.trans hW)
  have d1_3 := fun W (hW : Since wz W) => c1_3 W (hSc3.trans hW)
  have d1_4 := fun W (hW : Since wz W) => c1_4 W (hSc3.trans hW)
  have d1_5 := fun W (hW : Since wz W) => c1_5 W (hSc3.trans hW)
  have d1_6 := fun W (hW : Since wz W) => c1_6 W (hSc3.trans hW)
  have d2_0 := fun W (hW : Since wz W) => c2_0 W (hSc3.trans hW)
  have d2_1 := fun W (hW : Since wz W) => c2_1 W (hSc3.trans hW)
  have d2_2 := fun W (hW : Since wz W) => c2_2 W (hSc3.trans hW)
  have d2_3 := fun W (hW : Since wz W) => c2_3 W (hSc3.trans hW)
  clear c0_0 c0_1 c0_2 c0_3 c0_4 c1_0 c1_1 c1_2 c1_3 c1_4 c1_5 c1_6 c2_0 c2_1 c2_2 c2_3
  have HH1 := Lib.hid hh1
  have HH2 := Lib.hid hh2
  have HH3 := Lib.hid hh3
  have HR0 : Hid (Rd wz wz.heap.size A0 b) := (HRD.out.below (hs0.trans hSc3) (Nat.le_refl _)).more (hs0.trans hSc3).size_
  have hS0 : Since wz wz := Since.refl wz
  clear hh1 hh2 hh3
  go_upto_if 59 with ((go_at_call 23; (with_reducible refine (num7_any _ _).mono ?_); rintro e w' ⟨rfl, rfl⟩))
  go_cut [] from 57 to 77 (fun wx => Since wz wx)
  case first =>
    cases b1 with
    | false =>
      go_wp2_with fail
      go_meet
      case rel => exact hS0
    | true =>
      have hread : readRec (L1 ++ b, 0) = ((x, y, key, val, ver), (b, 0)) := by rw [← HL1.out, if_pos rfl]; exact read_recL HB1.out b
      have HRE := Lib.hid hread
      clear hread
      have hx1 := (HH1.out.below hS0).rd.below ((Below.refl _ _).alloc (Nat.le_refl _) (.cells #[] 5)) (Nat.le_refl _)
      have hln1 := HH1.out.len
      go_wp2_with (first
      | (at_builtin; refine wpList_grow _ rfl (.tmp 60) (.tmp 61) _ rfl wz.heap.size _ [] rfl (own_lit wz wz.heap.size _ [] rfl (by simp) (Nat.le_refl _)) _ L1 rfl (src_at n1 c1 hx1 hln1) (by have := HM1.out; simp; omega) (by simp) ?_; intro AX nX cX wX hX hbX; have hWX : Since wz wX := Below.trans hS0 (Below.mono (((Below.refl _ _).alloc (Nat.le_refl _) _).trans hbX) (Since.size_ hS0)); have hxr := HR0.out.below hWX (Nat.le_refl _); have hXl := hX.len)
      | (at_builtin; refine wpList_grow _ rfl (.tmp 62) (.tmp 63) _ rfl wz.heap.size _ _ rfl hX.own _ b rfl (src_at n0 c0 hxr HN.out) (by have := HN.out; have := HM1.out; rw [List.nil_append]; omega) (by have := hbX.size; simp at this ⊢; omega) ?_; intro AY nY cY wY hY hbY))
      rw [List.nil_append] at hY
      have hWY : Since wz wY := Below.trans hS0 (Below.mono ((((Below.refl _ _).alloc (Nat.le_refl _) _).trans hbX).trans hbY) hS0.size_)
      have hYl := hY.len
      refine (open_any AY nY cY _ wY hY.rd hY.len (by have := HN.out; have := HM1.out; (try simp at hYl); omega)).mono ?_
      rintro e wP ⟨gP, A9, n9, c9, rfl, hP, hbP⟩
      have hlP : wz.heap.size ≤ gP := Nat.le_trans hWY.size_ hP.lie
      have hWP : Since wz wP := hWY.trans hbP
      go_wp2_with fail
      obtain ⟨wq, hwq⟩ : ∃ wq, wq = wP.drew := ⟨_, rfl⟩
      have hPq : RdS wq wY.heap.size gP (L1 ++ b, 0) := by rw [hwq]; exact RdS.since ⟨_, _, _, hP⟩ (Since.refl _).drew
      refine wp_region_held_drew (S := fun W => Since wz W) (by kernel_rfl) hWP.drew (fun hHeld => ?_)
      rw [← hwq] at hHeld ⊢
      have hWq : Since wz wq := hHeld
      clear hwq hP
      refine wpAnyH_take (i := 0) (v := ?_) rfl (by kernel_rfl) (by kernel_rfl) (by kernel_rfl) (fun _ _ _ h => h) (Or.inl ⟨by rfl, ?_⟩) (by assumption) ?_
      rotate_left 1
      · (intro W hW; clear hW; go_simp; try with_reducible rfl)
      simp only [Act.put, List.getElem_toArray, List.getElem_cons_zero, List.setIfInBounds_toArray, List.set_cons_zero, List.set_cons_succ]
      refine wpAnyH_take (i := 3) (v := ?_) rfl (by kernel_rfl) (by kernel_rfl) (by kernel_rfl) (fun _ _ _ h => h) (Or.inl ⟨by rfl, ?_⟩) (by assumption) ?_
      rotate_left 1
      · (intro W hW; skip; go_simp; try with_reducible rfl)
      simp only [Act.put, List.getElem_toArray, List.getElem_cons_succ, List.getElem_cons_zero, List.setIfInBounds_toArray, List.set_cons_zero, List.set_cons_succ]
      refine wpAnyH_ready (rs := [1]) (by kernel_rfl) (by simp) ?_
      refine AllReadyH.cons rfl (fun K hK => ?_) AllReadyH.nil
      go_simp
      refine (takeRec_any hPq HRE.out).mono ?_
      rintro y wa ⟨rfl, hPa, hoa⟩
      have hWa : Since wz wa := Below.trans hWq (Off.below hoa hWq.size_ (fun b z => by subst z; exact hlP))
      go_wp2_with fail
      refine hK.out _ _ (hWa) (fun hHeld => ?_)
      clear hK K
      try simp only [Act.put, List.getElem_toArray, List.getElem_cons_succ, List.getElem_cons_zero, List.setIfInBounds_toArray, List.set_cons_zero, List.set_cons_succ]
      refine wpAnyH_ready (rs := [2]) (by kernel_rfl) (by simp) ?_
      refine AllReadyH.cons rfl (fun K hK => ?_) AllReadyH.nil
      go_simp
      refine (lawRefRec_any _ _ _ _ _ _).mono ?_
      rintro y wb ⟨rfl, hbb⟩
      have hPb := hPa.since hbb
      have hWb := hWa.trans hbb
      go_wp2_with fail
      refine hK.out _ _ (hWb) (fun hHeld => ?_)
      clear hK K
      try simp only [Act.put, List.getElem_toArray, List.getElem_cons_succ, List.getElem_cons_zero, List.setIfInBounds_toArray, List.set_cons_zero, List.set_cons_succ]
      refine wpAnyH_take (i := 4) (v := ?_) rfl (by kernel_rfl) (by kernel_rfl) (by kernel_rfl) (fun _ _ _ h => h) (Or.inl ⟨by rfl, ?_⟩) (by assumption) ?_
      rotate_left 1
      · (intro W hW; clear hW; go_simp; try with_reducible rfl)
      simp only [Act.put, List.getElem_toArray, List.getElem_cons_succ, List.getElem_cons_zero, List.setIfInBounds_toArray, List.set_cons_zero, List.set_cons_succ]
      refine wpAnyH_take (i := 5) (v := ?_) rfl (by kernel_rfl) (by kernel_rfl) (by kernel_rfl) (fun _ _ _ h => h) (Or.inl ⟨by rfl, ?_⟩) (by assumption) ?_
      rotate_left 1
      · (intro W hW; clear hW; go_simp; try with_reducible rfl)
      simp only [Act.put, List.getElem_toArray, List.getElem_cons_succ, List.getElem_cons_zero, List.setIfInBounds_toArray, List.set_cons_zero, List.set_cons_succ]
      refine wpAnyH_take (i := 6) (v := ?_) rfl (by kernel_rfl) (by kernel_rfl) (by kernel_rfl) (fun _ _ _ h => h) (Or.inl ⟨by rfl, ?_⟩) (by assumption) ?_
      rotate_left 1
      · (intro W hW; clear hW; go_simp; try with_reducible rfl)
      simp only [Act.put, List.getElem_toArray, List.getElem_cons_succ, List.getElem_cons_zero, List.setIfInBounds_toArray, List.set_cons_zero, List.set_cons_succ]
      refine wpAnyH_take (i := 8) (v := ?_) rfl (by kernel_rfl) (by kernel_rfl) (by kernel_rfl) (fun _ _ _ h => h) (Or.inl ⟨by rfl, ?_⟩) (by assumption) ?_
      rotate_left 1
      · (intro W hW; clear hW; go_simp; try with_reducible rfl)
      simp only [Act.put, List.getElem_toArray, List.getElem_cons_succ, List.getElem_cons_zero, List.setIfInBounds_toArray, List.set_cons_zero, List.set_cons_succ]
      refine wpAnyH_take (i := 9) (v := ?_) rfl (by kernel_rfl) (by kernel_rfl) (by kernel_rfl) (fun _ _ _ h => h) (Or.inl ⟨by rfl, ?_⟩) (by assumption) ?_
      rotate_left 1
      · (intro W hW; clear hW; go_simp; try with_reducible rfl)
      simp only [Act.put, List.getElem_toArray, List.getElem_cons_succ, List.getElem_cons_zero, List.setIfInBounds_toArray, List.set_cons_zero, List.set_cons_succ]
      refine wpAnyH_ready (rs := [7]) (by kernel_rfl) (by simp) ?_
      refine AllReadyH.cons rfl (fun K hK => ?_) AllReadyH.nil
      go_simp
      refine (leftP7 hPb).mono ?_
      rintro y w9 ⟨rfl, rfl⟩
      go_wp2_with fail
      refine hK.out _ _ (hWb) (fun hHeld => ?_)
      clear hK K
      try simp only [Act.put, List.getElem_toArray, List.getElem_cons_succ, List.getElem_cons_zero, List.setIfInBounds_toArray, List.set_cons_zero, List.set_cons_succ]
      refine wpAnyH_take (i := 10) (v := ?_) rfl (by kernel_rfl) (by kernel_rfl) (by kernel_rfl) (fun _ _ _ h => h) (Or.inl ⟨by rfl, ?_⟩) (by assumption) ?_
      rotate_left 1
      · (intro W hW; clear hW; go_simp; try with_reducible rfl)
      simp only [Act.put, List.getElem_toArray, List.getElem_cons_succ, List.getElem_cons_zero, List.setIfInBounds_toArray, List.set_cons_zero, List.set_cons_succ]
      refine wpAnyH_take (i := 11) (v := ?_) rfl (by kernel_rfl) (by kernel_rfl) (by kernel_rfl) (fun _ _ _ h => h) (Or.inl ⟨by rfl, ?_⟩) (by assumption) ?_
      rotate_left 1
      · (intro W hW; clear hW; go_simp; try with_reducible rfl)
      simp only [Act.put, List.getElem_toArray, List.getElem_cons_succ, List.getElem_cons_zero, List.setIfInBounds_toArray, List.set_cons_zero, List.set_cons_succ]
      refine wpAnyH_done (by kernel_rfl) ?_ _
      go_wp2_with fail
      go_meet
      case rel => exact hWb
  case rest =>
    obtain ⟨wr1, hnw⟩ : ∃ w', w' = wc := ⟨_, rfl⟩
    rw [← hnw] at hcut ⊢
    clear hnw
    have hT1 : Since wz wr1 := hcut
    clear hcut
    go_upto_if 80 with ((go_at_call 23; (with_reducible refine (num7_any _ _).mono ?_); rintro e w' ⟨rfl, rfl⟩))
    go_cut [] from 78 to 98 (fun wx => Since wz wx)
    case first =>
      cases b2 with
      | false =>
        go_wp2_with fail
        go_meet
        case rel => exact hT1
      | true =>
        have hread : readOp (L2 ++ b, 0) = ((kind, ox, oy, okey, oval, cl, seq), (b, 0)) := by rw [← HL2.out, if_pos rfl]; exact read_opL HB2.out b
        have HRE := Lib.hid hread
        clear hread
        have hx2 := (HH2.out.below hT1).rd.below ((Below.refl _ _).alloc (Nat.le_refl _) (.cells #[] 5)) (Nat.le_refl _)
        have hln2 := HH2.out.len
        go_wp2_with (first
        | (at_builtin; refine wpList_grow _ rfl (.tmp 81) (.tmp 82) _ rfl wr1.heap.size _ [] rfl (own_lit wr1 wr1.heap.size _ [] rfl (by simp) (Nat.le_refl _)) _ L2 rfl (src_at n2 c2 hx2 hln2) (by have := HM2.out; simp; omega) (by simp) ?_; intro AX nX cX wX hX hbX; have hWX : Since wz wX := Below.trans hT1 (Below.mono (((Below.refl _ _).alloc (Nat.le_refl _) _).trans hbX) (Since.size_ hT1)); have hxr := HR0.out.below hWX (Nat.le_refl _); have hXl := hX.len)
        | (at_builtin; refine wpList_grow _ rfl (.tmp 83) (.tmp 84) _ rfl wr1.heap.size _ _ rfl hX.own _ b rfl (src_at n0 c0 hxr HN.out) (by have := HN.out; have := HM2.out; rw [List.nil_append]; omega) (by have := hbX.size; simp at this ⊢; omega) ?_; intro AY nY cY wY hY hbY))
        rw [List.nil_append] at hY
        have hWY : Since wz wY := Below.trans hT1 (Below.mono ((((Below.refl _ _).alloc (Nat.le_refl _) _).trans hbX).trans hbY) hT1.size_)
        have hYl := hY.len
        refine (open_any AY nY cY _ wY hY.rd hY.len (by have := HN.out; have := HM2.out; (try simp at hYl); omega)).mono ?_
        rintro e wP ⟨gP, A9, n9, c9, rfl, hP, hbP⟩
        have hlP : wz.heap.size ≤ gP := Nat.le_trans hWY.size_ hP.lie
        have hWP : Since wz wP := hWY.trans hbP
        go_wp2_with fail
        obtain ⟨wq, hwq⟩ : ∃ wq, wq = wP.drew := ⟨_, rfl⟩
        have hPq : RdS wq wY.heap.size gP (L2 ++ b, 0) := by rw [hwq]; exact RdS.since ⟨_, _, _, hP⟩ (Since.refl _).drew
        refine wp_region_held_drew (S := fun W => Since wz W) (by kernel_rfl) hWP.drew (fun hHeld => ?_)
        rw [← hwq] at hHeld ⊢
        have hWq : Since wz wq := hHeld
        clear hwq hP
        refine wpAnyH_take (i := 0) (v := ?_) rfl (by kernel_rfl) (by kernel_rfl) (by kernel_rfl) (fun _ _ _ h => h) (Or.inl ⟨by rfl, ?_⟩) (by assumption) ?_
        rotate_left 1
        · (intro W hW; clear hW; go_simp; try with_reducible rfl)
        simp only [Act.put, List.getElem_toArray, List.getElem_cons_zero, List.setIfInBounds_toArray, List.set_cons_zero, List.set_cons_succ]
        refine wpAnyH_take (i := 3) (v := ?_) rfl (by kernel_rfl) (by kernel_rfl) (by kernel_rfl) (fun _ _ _ h => h) (Or.inl ⟨by rfl, ?_⟩) (by assumption) ?_
        rotate_left 1
        · (intro W hW; skip; go_simp; try with_reducible rfl)
        simp only [Act.put, List.getElem_toArray, List.getElem_cons_succ, List.getElem_cons_zero, List.setIfInBounds_toArray, List.set_cons_zero, List.set_cons_succ]
        refine wpAnyH_ready (rs := [1]) (by kernel_rfl) (by simp) ?_
        refine AllReadyH.cons rfl (fun K hK => ?_) AllReadyH.nil
        go_simp
        refine (takeOp_any hPq HRE.out).mono ?_
        rintro y wa ⟨rfl, hPa, hoa⟩
        have hWa : Since wz wa := Below.trans hWq (Off.below hoa hWq.size_ (fun b z => by subst z; exact hlP))
        go_wp2_with fail
        refine hK.out _ _ (hWa) (fun hHeld => ?_)
        clear hK K
        try simp only [Act.put, List.getElem_toArray, List.getElem_cons_succ, List.getElem_cons_zero, List.setIfInBounds_toArray, List.set_cons_zero, List.set_cons_succ]
        refine wpAnyH_ready (rs := [2]) (by kernel_rfl) (by simp) ?_
        refine AllReadyH.cons rfl (fun K hK => ?_) AllReadyH.nil
        go_simp
        refine (lawRefOp_any _ _ _ _ _ _ _ _).mono ?_
        rintro y wb ⟨rfl, hbb⟩
        have hPb := hPa.since hbb
        have hWb := hWa.trans hbb
        go_wp2_with fail
        refine hK.out _ _ (hWb) (fun hHeld => ?_)
        clear hK K
        try simp only [Act.put, List.getElem_toArray, List.getElem_cons_succ, List.getElem_cons_zero, List.setIfInBounds_toArray, List.set_cons_zero, List.set_cons_succ]
        refine wpAnyH_take (i := 4) (v := ?_) rfl (by kernel_rfl) (by kernel_rfl) (by kernel_rfl) (fun _ _ _ h => h) (Or.inl ⟨by rfl, ?_⟩) (by assumption) ?_
        rotate_left 1
        · (intro W hW; clear hW; go_simp; try with_reducible rfl)
        simp only [Act.put, List.getElem_toArray, List.getElem_cons_succ, List.getElem_cons_zero, List.setIfInBounds_toArray, List.set_cons_zero, List.set_cons_succ]
        refine wpAnyH_take (i := 5) (v := ?_) rfl (by kernel_rfl) (by kernel_rfl) (by kernel_rfl) (fun _ _ _ h => h) (Or.inl ⟨by rfl, ?_⟩) (by assumption) ?_
        rotate_left 1
        · (intro W hW; clear hW; go_simp; try with_reducible rfl)
        simp only [Act.put, List.getElem_toArray, List.getElem_cons_succ, List.getElem_cons_zero, List.setIfInBounds_toArray, List.set_cons_zero, List.set_cons_succ]
        refine wpAnyH_take (i := 6) (v := ?_) rfl (by kernel_rfl) (by kernel_rfl) (by kernel_rfl) (fun _ _ _ h => h) (Or.inl ⟨by rfl, ?_⟩) (by assumption) ?_
        rotate_left 1
        · (intro W hW; clear hW; go_simp; try with_reducible rfl)
        simp only [Act.put, List.getElem_toArray, List.getElem_cons_succ, List.getElem_cons_zero, List.setIfInBounds_toArray, List.set_cons_zero, List.set_cons_succ]
        refine wpAnyH_take (i := 8) (v := ?_) rfl (by kernel_rfl) (by kernel_rfl) (by kernel_rfl) (fun _ _ _ h => h) (Or.inl ⟨by rfl, ?_⟩) (by assumption) ?_
        rotate_left 1
        · (intro W hW; clear hW; go_simp; try with_reducible rfl)
        simp only [Act.put, List.getElem_toArray, List.getElem_cons_succ, List.getElem_cons_zero, List.setIfInBounds_toArray, List.set_cons_zero, List.set_cons_succ]
        refine wpAnyH_take (i := 9) (v := ?_) rfl (by kernel_rfl) (by kernel_rfl) (by kernel_rfl) (fun _ _ _ h => h) (Or.inl ⟨by rfl, ?_⟩) (by assumption) ?_
        rotate_left 1
        · (intro W hW; clear hW; go_simp; try with_reducible rfl)
        simp only [Act.put, List.getElem_toArray, List.getElem_cons_succ, List.getElem_cons_zero, List.setIfInBounds_toArray, List.set_cons_zero, List.set_cons_succ]
        refine wpAnyH_ready (rs := [7]) (by kernel_rfl) (by simp) ?_
        refine AllReadyH.cons rfl (fun K hK => ?_) AllReadyH.nil
        go_simp
        refine (leftP7 hPb).mono ?_
        rintro y w9 ⟨rfl, rfl⟩
        go_wp2_with fail
        refine hK.out _ _ (hWb) (fun hHeld => ?_)
        clear hK K
        try simp only [Act.put, List.getElem_toArray, List.getElem_cons_succ, List.getElem_cons_zero, List.setIfInBounds_toArray, List.set_cons_zero, List.set_cons_succ]
        refine wpAnyH_take (i := 10) (v := ?_) rfl (by kernel_rfl) (by kernel_rfl) (by kernel_rfl) (fun _ _ _ h => h) (Or.inl ⟨by rfl, ?_⟩) (by assumption) ?_
        rotate_left 1
        · (intro W hW; clear hW; go_simp; try with_reducible rfl)
        simp only [Act.put, List.getElem_toArray, List.getElem_cons_succ, List.getElem_cons_zero, List.setIfInBounds_toArray, List.set_cons_zero, List.set_cons_succ]
        refine wpAnyH_take (i := 11) (v := ?_) rfl (by kernel_rfl) (by kernel_rfl) (by kernel_rfl) (fun _ _ _ h => h) (Or.inl ⟨by rfl, ?_⟩) (by assumption) ?_
        rotate_left 1
        · (intro W hW; clear hW; go_simp; try with_reducible rfl)
        simp only [Act.put, List.getElem_toArray, List.getElem_cons_succ, List.getElem_cons_zero, List.setIfInBounds_toArray, List.set_cons_zero, List.set_cons_succ]
        refine wpAnyH_done (by kernel_rfl) ?_ _
        go_wp2_with fail
        go_meet
        case rel => exact hWb
    case rest =>
      obtain ⟨wr2, hnw⟩ : ∃ w', w' = wc := ⟨_, rfl⟩
      rw [← hnw] at hcut ⊢
      clear hnw
      have hT2 : Since wz wr2 := hcut
      clear hcut
      go_upto_if 101 with ((go_at_call 23; (with_reducible refine (num7_any _ _).mono ?_); rintro e w' ⟨rfl, rfl⟩))
      go_cut [] from 99 to 119 (fun wx => Since wz wx)
      case first =>
        cases b3 with
        | false =>
          go_wp2_with fail
          go_meet
          case rel => exact hT2
        | true =>
          have hread : readAns (L3 ++ b, 0) = ((er, found, aval, aver), (b, 0)) := by rw [← HL3.out, if_pos rfl]; exact read_ansL HB3.out b
          have HRE := Lib.hid hread
          clear hread
          have hx3 := (HH3.out.below hT2).rd.below ((Below.refl _ _).alloc (Nat.le_refl _) (.cells #[] 5)) (Nat.le_refl _)
          have hln3 := HH3.out.len
          go_wp2_with (first
          | (at_builtin; refine wpList_grow _ rfl (.tmp 102) (.tmp 103) _ rfl wr2.heap.size _ [] rfl (own_lit wr2 wr2.heap.size _ [] rfl (by simp) (Nat.le_refl _)) _ L3 rfl (src_at n3 c3 hx3 hln3) (by have := HM3.out; simp; omega) (by simp) ?_; intro AX nX cX wX hX hbX; have hWX : Since wz wX := Below.trans hT2 (Below.mono (((Below.refl _ _).alloc (Nat.le_refl _) _).trans hbX) (Since.size_ hT2)); have hxr := HR0.out.below hWX (Nat.le_refl _); have hXl := hX.len)
          | (at_builtin; refine wpList_grow _ rfl (.tmp 104) (.tmp 105) _ rfl wr2.heap.size _ _ rfl hX.own _ b rfl (src_at n0 c0 hxr HN.out) (by have := HN.out; have := HM3.out; rw [List.nil_append]; omega) (by have := hbX.size; simp at this ⊢; omega) ?_; intro AY nY cY wY hY hbY))
          rw [List.nil_append] at hY
          have hWY : Since wz wY := Below.trans hT2 (Below.mono ((((Below.refl _ _).alloc (Nat.le_refl _) _).trans hbX).trans hbY) hT2.size_)
          have hYl := hY.len
          refine (open_any AY nY cY _ wY hY.rd hY.len (by have := HN.out; have := HM3.out; (try simp at hYl); omega)).mono ?_
          rintro e wP ⟨gP, A9, n9, c9, rfl, hP, hbP⟩
          have hlP : wz.heap.size ≤ gP := Nat.le_trans hWY.size_ hP.lie
          have hWP : Since wz wP := hWY.trans hbP
          go_wp2_with fail
          obtain ⟨wq, hwq⟩ : ∃ wq, wq = wP.drew := ⟨_, rfl⟩
          have hPq : RdS wq wY.heap.size gP (L3 ++ b, 0) := by rw [hwq]; exact RdS.since ⟨_, _, _, hP⟩ (Since.refl _).drew
          refine wp_region_held_drew (S := fun W => Since wz W) (by kernel_rfl) hWP.drew (fun hHeld => ?_)
          rw [← hwq] at hHeld ⊢
          have hWq : Since wz wq := hHeld
          clear hwq hP
          refine wpAnyH_take (i := 0) (v := ?_) rfl (by kernel_rfl) (by kernel_rfl) (by kernel_rfl) (fun _ _ _ h => h) (Or.inl ⟨by rfl, ?_⟩) (by assumption) ?_
          rotate_left 1
          · (intro W hW; clear hW; go_simp; try with_reducible rfl)
          simp only [Act.put, List.getElem_toArray, List.getElem_cons_zero, List.setIfInBounds_toArray, List.set_cons_zero, List.set_cons_succ]
          refine wpAnyH_take (i := 3) (v := ?_) rfl (by kernel_rfl) (by kernel_rfl) (by kernel_rfl) (fun _ _ _ h => h) (Or.inl ⟨by rfl, ?_⟩) (by assumption) ?_
          rotate_left 1
          · (intro W hW; skip; go_simp; try with_reducible rfl)
          simp only [Act.put, List.getElem_toArray, List.getElem_cons_succ, List.getElem_cons_zero, List.setIfInBounds_toArray, List.set_cons_zero, List.set_cons_succ]
          refine wpAnyH_ready (rs := [1]) (by kernel_rfl) (by simp) ?_
          refine AllReadyH.cons rfl (fun K hK => ?_) AllReadyH.nil
          go_simp
          refine (takeAns_any hPq HRE.out).mono ?_
          rintro y wa ⟨rfl, hPa, hoa⟩
          have hWa : Since wz wa := Below.trans hWq (Off.below hoa hWq.size_ (fun b z => by subst z; exact hlP))
          go_wp2_with fail
          refine hK.out _ _ (hWa) (fun hHeld => ?_)
          clear hK K
          try simp only [Act.put, List.getElem_toArray, List.getElem_cons_succ, List.getElem_cons_zero, List.setIfInBounds_toArray, List.set_cons_zero, List.set_cons_succ]
          refine wpAnyH_ready (rs := [2]) (by kernel_rfl) (by simp) ?_
          refine AllReadyH.cons rfl (fun K hK => ?_) AllReadyH.nil
          go_simp
          refine (lawRefAns_any _ _ _ _ _).mono ?_
          rintro y wb ⟨rfl, hbb⟩
          have hPb := hPa.since hbb
          have hWb := hWa.trans hbb
          go_wp2_with fail
          refine hK.out _ _ (hWb) (fun hHeld => ?_)
          clear hK K
          try simp only [Act.put, List.getElem_toArray, List.getElem_cons_succ, List.getElem_cons_zero, List.setIfInBounds_toArray, List.set_cons_zero, List.set_cons_succ]
          refine wpAnyH_take (i := 4) (v := ?_) rfl (by kernel_rfl) (by kernel_rfl) (by kernel_rfl) (fun _ _ _ h => h) (Or.inl ⟨by rfl, ?_⟩) (by assumption) ?_
          rotate_left 1
          · (intro W hW; clear hW; go_simp; try with_reducible rfl)
          simp only [Act.put, List.getElem_toArray, List.getElem_cons_succ, List.getElem_cons_zero, List.setIfInBounds_toArray, List.set_cons_zero, List.set_cons_succ]
          refine wpAnyH_take (i := 5) (v := ?_) rfl (by kernel_rfl) (by kernel_rfl) (by kernel_rfl) (fun _ _ _ h => h) (Or.inl ⟨by rfl, ?_⟩) (by assumption) ?_
          rotate_left 1
          · (intro W hW; clear hW; go_simp; try with_reducible rfl)
          simp only [Act.put, List.getElem_toArray, List.getElem_cons_succ, List.getElem_cons_zero, List.setIfInBounds_toArray, List.set_cons_zero, List.set_cons_succ]
          refine wpAnyH_take (i := 6) (v := ?_) rfl (by kernel_rfl) (by kernel_rfl) (by kernel_rfl) (fun _ _ _ h => h) (Or.inl ⟨by rfl, ?_⟩) (by assumption) ?_
          rotate_left 1
          · (intro W hW; clear hW; go_simp; try with_reducible rfl)
          simp only [Act.put, List.getElem_toArray, List.getElem_cons_succ, List.getElem_cons_zero, List.setIfInBounds_toArray, List.set_cons_zero, List.set_cons_succ]
          refine wpAnyH_take (i := 8) (v := ?_) rfl (by kernel_rfl) (by kernel_rfl) (by kernel_rfl) (fun _ _ _ h => h) (Or.inl ⟨by rfl, ?_⟩) (by assumption) ?_
          rotate_left 1
          · (intro W hW; clear hW; go_simp; try with_reducible rfl)
          simp only [Act.put, List.getElem_toArray, List.getElem_cons_succ, List.getElem_cons_zero, List.setIfInBounds_toArray, List.set_cons_zero, List.set_cons_succ]
          refine wpAnyH_take (i := 9) (v := ?_) rfl (by kernel_rfl) (by kernel_rfl) (by kernel_rfl) (fun _ _ _ h => h) (Or.inl ⟨by rfl, ?_⟩) (by assumption) ?_
          rotate_left 1
          · (intro W hW; clear hW; go_simp; try with_reducible rfl)
          simp only [Act.put, List.getElem_toArray, List.getElem_cons_succ, List.getElem_cons_zero, List.setIfInBounds_toArray, List.set_cons_zero, List.set_cons_succ]
          refine wpAnyH_ready (rs := [7]) (by kernel_rfl) (by simp) ?_
          refine AllReadyH.cons rfl (fun K hK => ?_) AllReadyH.nil
          go_simp
          refine (leftP7 hPb).mono ?_
          rintro y w9 ⟨rfl, rfl⟩
          go_wp2_with fail
          refine hK.out _ _ (hWb) (fun hHeld => ?_)
          clear hK K
          try simp only [Act.put, List.getElem_toArray, List.getElem_cons_succ, List.getElem_cons_zero, List.setIfInBounds_toArray, List.set_cons_zero, List.set_cons_succ]
          refine wpAnyH_take (i := 10) (v := ?_) rfl (by kernel_rfl) (by kernel_rfl) (by kernel_rfl) (fun _ _ _ h => h) (Or.inl ⟨by rfl, ?_⟩) (by assumption) ?_
          rotate_left 1
          · (intro W hW; clear hW; go_simp; try with_reducible rfl)
          simp only [Act.put, List.getElem_toArray, List.getElem_cons_succ, List.getElem_cons_zero, List.setIfInBounds_toArray, List.set_cons_zero, List.set_cons_succ]
          refine wpAnyH_take (i := 11) (v := ?_) rfl (by kernel_rfl) (by kernel_rfl) (by kernel_rfl) (fun _ _ _ h => h) (Or.inl ⟨by rfl, ?_⟩) (by assumption) ?_
          rotate_left 1
          · (intro W hW; clear hW; go_simp; try with_reducible rfl)
          simp only [Act.put, List.getElem_toArray, List.getElem_cons_succ, List.getElem_cons_zero, List.setIfInBounds_toArray, List.set_cons_zero, List.set_cons_succ]
          refine wpAnyH_done (by kernel_rfl) ?_ _
          go_wp2_with fail
          go_meet
          case rel => exact hWb
      case rest =>
        obtain ⟨wr3, hnw⟩ : ∃ w', w' = wc := ⟨_, rfl⟩
        rw [← hnw] at hcut ⊢
        clear hnw
        have hT3 : Since wz wr3 := hcut
        clear hcut
        clear d0_0 d0_1 d0_2 d0_3 d0_4 d1_0 d1_1 d1_2 d1_3 d1_4 d1_5 d1_6 d2_0 d2_1 d2_2 d2_3
        obtain ⟨⟨⟨rx, ry, rkey, rval, rver⟩, tp0⟩, hrd⟩ : ∃ r, readRec (b, 0) = r := ⟨_, rfl⟩
        obtain ⟨Bp0, hB⟩ : ∃ b, recB rx ry rkey rval rver = b := ⟨_, rfl⟩
        obtain ⟨Lp0, hL⟩ : ∃ l, (if Bp0 then recL rx ry rkey rval rver else []) = l := ⟨_, rfl⟩
        obtain ⟨Ep0, hE⟩ : ∃ e : Int, (if Bp0 then 0 else 1) = e := ⟨_, rfl⟩
        have HCp0 : Hid (tp0.2 = 0 → Bp0 = true ∧ b = Lp0 ++ tp0.1) := by
          unfold Hid
          intro h0
          obtain ⟨h1, h2⟩ := rec_came hrd h0
          have h3 : Bp0 = true := hB.symm.trans h1
          refine ⟨h3, ?_⟩
          rw [← hL, h3, if_pos rfl]
          exact h2
        have hEz : Bp0 = true → Ep0 = 0 := fun h => by rw [← hE, h]; rfl
        have HEz := Lib.hid hEz
        have HRDp0 := Lib.hid hrd
        have HBpp0 := Lib.hid hB
        have HLpp0 := Lib.hid hL
        have HEpp0 := Lib.hid hE
        clear hrd hB hL hE hEz
        have hxr := HR0.out.below (hT3.trans ((Since.refl _).alloc (.cells #[] 5))) (Nat.le_refl _)
        go_wp2_with (at_builtin; refine wpList_grow _ rfl (.tmp 120) (.tmp 121) _ rfl wr3.heap.size _ [] rfl (own_lit wr3 wr3.heap.size _ [] rfl (by simp) (Nat.le_refl _)) _ b rfl (src_at n0 c0 hxr HN.out) (by have := HN.out; simp; omega) (by simp) ?_; intro AY nY cY wY hY hbY)
        rw [List.nil_append] at hY
        have hWY : Since wz wY := Below.trans hT3 (Below.mono (((Below.refl _ _).alloc (Nat.le_refl _) _).trans hbY) hT3.size_)
        have hYl := hY.len
        refine (open_any AY nY cY _ wY hY.rd hY.len (by have := HN.out; (try simp at hYl); omega)).mono ?_
        rintro e wP ⟨gP, A9, n9, c9, rfl, hP, hbP⟩
        have hlP : wz.heap.size ≤ gP := Nat.le_trans hWY.size_ hP.lie
        have hWP : Since wz wP := hWY.trans hbP
        go_wp2_with fail
        refine (takeRec_any (s := (b, 0)) ⟨_, _, _, hP⟩ HRDp0.out).mono ?_
        rintro y wa ⟨rfl, hPa, hoa⟩
        have hWa : Since wz wa := Below.trans hWP (Off.below hoa hWP.size_ (fun b z => by subst z; exact hlP))
        go_wp2_with fail
        refine (putRec_at HBpp0.out HLpp0.out HEpp0.out _).mono ?_
        rintro e wb ⟨Ap, np, cp, rfl, hhp, hbb⟩
        have hWb : Since wz wb := hWa.trans hbb
        have hPb := hPa.since hbb
        clear hPa hoa hbb hWa hWP hP hbP hY hYl hbY hWY
        have txp := fun W (hW : Since wb W) => text_of W np cp (hhp.rd.below hW (Nat.le_refl _)) hhp.len
        clear hhp hxr
        have hdr : Since wb wb.drew := (Since.refl wb).drew
        go_wp2_with fail
        go_cut [158] from 130 to 157 (fun s wx => s = .bool false ∧ Since wz wx)
        case first =>
          obtain ⟨wq, hwq⟩ : ∃ wq, wq = wb.drew := ⟨_, rfl⟩
          have hPq := hPb.since hdr
          by_cases h0 : tp0.2 = 0
          · have z0 : (tp0.2 == 0) = true := by simp [h0]
            have z1 : (tp0.2 != 0) = false := by simp [h0]
            obtain ⟨hB1, hbl⟩ := HCp0.out h0
            have hE0 := HEz.out hB1
            have hsum : n0 = Lp0.length + tp0.1.length := by rw [← HN.out, hbl, List.length_append]
            have hLp : 0 < Lp0.length := by
              rw [← HLpp0.out, hB1, if_pos rfl]
              have := numL_pos (z := rx) (by have := recB_bd (HBpp0.out.trans hB1); omega)
              unfold recL
              simp
              omega
            have htk : b.take Lp0.length = Lp0 := by rw [hbl, List.take_left]
            obtain ⟨k, hk⟩ : ∃ k, k = Lp0.length := ⟨_, rfl⟩
            obtain ⟨m, hm⟩ : ∃ m, m = tp0.1.length := ⟨_, rfl⟩
            rw [← hm] at hsum
            have hLe : leftOf tp0.1.length tp0.2 = (m : Int) := by unfold leftOf; rw [if_pos h0, hm]
            rw [← hk] at hsum htk hLp
            have s1 : wrap64 ((n0 : Int) - (m : Int)) = (k : Int) := by rw [IntWalk.wrap64_in _ ⟨by omega, by omega⟩]; omega
            have s2 : IntKind.i64.wrap ((n0 : Int) - (m : Int)) = (k : Int) := by rw [IntWalk.i64_in _ (by omega)]; omega
            have g1 : decide ((n0 : Int) < (m : Int)) = false := by simp; omega
            have g2 : decide ((m : Int) ≤ (n0 : Int)) = true := by simp; omega
            have g4 : decide (n0 < m) = false := by simp; omega
            have g5 : decide (m ≤ n0) = true := by simp; omega
            have g3 : (k : Int) ≤ (c0 : Int) := by omega
            have e0 : (Ep0 == 0) = true := by simp [hE0]
            have e1 : (Ep0 != 0) = false := by simp [hE0]
            have txr := fun W (hW : Since wb W) => text_of W k c0 ((HR0.out.below (hWb.trans hW) (Nat.le_refl _)).take k) (by rw [htk]; exact hk.symm)
            rw [htk] at txr
            rcases A0 with _ | ad
            · exfalso
              have := HR0.out.none_nil
              have h9 := HN.out
              rw [this] at h9
              simp at h9
              omega
            · clear h0 hbl htk hsum hk hm hE0 hB1 hLp
              refine wp_region_held_drew (S := fun W => Since wb W) (by kernel_rfl) hdr (fun hHeld => ?_)
              rw [← hwq] at hHeld hPq ⊢
              have hq : Since wb wq := hHeld
              clear hwq hdr
              refine wpAnyH_take (i := 0) (v := ?_) rfl (by kernel_rfl) (by kernel_rfl) (by kernel_rfl) (fun _ _ _ h => h) (Or.inl ⟨by rfl, ?_⟩) (by assumption) ?_
              rotate_left 1
              · (intro W hW; clear hW; go_simp; try with_reducible rfl)
              simp only [Act.put, List.getElem_toArray, List.getElem_cons_zero, List.setIfInBounds_toArray, List.set_cons_zero, List.set_cons_succ]
              refine wpAnyH_ready (rs := [1]) (by kernel_rfl) (by simp) ?_
              refine AllReadyH.cons rfl (fun K hK => ?_) AllReadyH.nil
              go_simp
              refine (errP hPq).mono ?_
              rintro y w9 ⟨rfl, rfl⟩
              go_wp2_with fail
              refine hK.out _ _ (hq) (fun hHeld => ?_)
              clear hK K
              try simp only [Act.put, List.getElem_toArray, List.getElem_cons_succ, List.getElem_cons_zero, List.setIfInBounds_toArray, List.set_cons_zero, List.set_cons_succ]
              refine wpAnyH_ready (rs := [2]) (by kernel_rfl) (by simp) ?_
              refine AllReadyH.cons rfl (fun K hK => ?_) AllReadyH.nil
              go_simp
              refine (num7_any _ _).mono ?_
              rintro y w9 ⟨rfl, rfl⟩
              go_wp2_with fail
              refine hK.out _ _ (hq) (fun hHeld => ?_)
              clear hK K
              try simp only [Act.put, List.getElem_toArray, List.getElem_cons_succ, List.getElem_cons_zero, List.setIfInBounds_toArray, List.set_cons_zero, List.set_cons_succ]
              refine wpAnyH_take (i := 3) (v := ?_) rfl (by kernel_rfl) (by kernel_rfl) (by kernel_rfl) (fun _ _ _ h => h) (Or.inl ⟨by rfl, ?_⟩) (by assumption) ?_
              rotate_left 1
              · (intro W hW; clear hW; go_simp; try with_reducible rfl)
              simp only [Act.put, List.getElem_toArray, List.getElem_cons_succ, List.getElem_cons_zero, List.setIfInBounds_toArray, List.set_cons_zero, List.set_cons_succ]
              refine wpAnyH_take (i := 4) (v := ?_) rfl (by kernel_rfl) (by kernel_rfl) (by kernel_rfl) (fun _ _ _ h => h) (Or.inl ⟨by rfl, ?_⟩) (by assumption) ?_
              rotate_left 1
              · (intro W hW; clear hW; go_simp; try with_reducible rfl)
              simp only [Act.put, List.getElem_toArray, List.getElem_cons_succ, List.getElem_cons_zero, List.setIfInBounds_toArray, List.set_cons_zero, List.set_cons_succ]
              refine wpAnyH_take (i := 5) (v := ?_) rfl (by kernel_rfl) (by kernel_rfl) (by kernel_rfl) (fun _ _ _ h => h) (Or.inl ⟨by rfl, ?_⟩) (by assumption) ?_
              rotate_left 1
              · (intro W hW; clear hW; go_simp; try with_reducible rfl)
              simp only [Act.put, List.getElem_toArray, List.getElem_cons_succ, List.getElem_cons_zero, List.setIfInBounds_toArray, List.set_cons_zero, List.set_cons_succ]
              refine wpAnyH_ready (rs := [6]) (by kernel_rfl) (by simp) ?_
              refine AllReadyH.cons rfl (fun K hK => ?_) AllReadyH.nil
              go_simp
              refine (num7_any _ _).mono ?_
              rintro y w9 ⟨rfl, rfl⟩
              go_wp2_with fail
              refine hK.out _ _ (hq) (fun hHeld => ?_)
              clear hK K
              try simp only [Act.put, List.getElem_toArray, List.getElem_cons_succ, List.getElem_cons_zero, List.setIfInBounds_toArray, List.set_cons_zero, List.set_cons_succ]
              refine wpAnyH_take (i := 7) (v := ?_) rfl (by kernel_rfl) (by kernel_rfl) (by kernel_rfl) (fun _ _ _ h => h) (Or.inl ⟨by rfl, ?_⟩) (by assumption) ?_
              rotate_left 1
              · (intro W hW; clear hW; go_simp; try with_reducible rfl)
              simp only [Act.put, List.getElem_toArray, List.getElem_cons_succ, List.getElem_cons_zero, List.setIfInBounds_toArray, List.set_cons_zero, List.set_cons_succ]
              refine wpAnyH_take (i := 8) (v := ?_) rfl (by kernel_rfl) (by kernel_rfl) (by kernel_rfl) (fun _ _ _ h => h) (Or.inl ⟨by rfl, ?_⟩) (by assumption) ?_
              rotate_left 1
              · (intro W hW; clear hW; go_simp; try with_reducible rfl)
              simp only [Act.put, List.getElem_toArray, List.getElem_cons_succ, List.getElem_cons_zero, List.setIfInBounds_toArray, List.set_cons_zero, List.set_cons_succ]
              refine wpAnyH_take (i := 9) (v := ?_) rfl (by kernel_rfl) (by kernel_rfl) (by kernel_rfl) (fun _ _ _ h => h) (Or.inl ⟨by rfl, ?_⟩) (by assumption) ?_
              rotate_left 1
              · (intro W hW; clear hW; go_simp; try with_reducible rfl)
              simp only [Act.put, List.getElem_toArray, List.getElem_cons_succ, List.getElem_cons_zero, List.setIfInBounds_toArray, List.set_cons_zero, List.set_cons_succ]
              refine wpAnyH_take (i := 11) (v := ?_) rfl (by kernel_rfl) (by kernel_rfl) (by kernel_rfl) (fun _ _ _ h => h) (Or.inl ⟨by rfl, ?_⟩) (by assumption) ?_
              rotate_left 1
              · (intro W hW; clear hW; go_simp; try with_reducible rfl)
              simp only [Act.put, List.getElem_toArray, List.getElem_cons_succ, List.getElem_cons_zero, List.setIfInBounds_toArray, List.set_cons_zero, List.set_cons_succ]
              refine wpAnyH_take (i := 12) (v := ?_) rfl (by kernel_rfl) (by kernel_rfl) (by kernel_rfl) (fun _ _ _ h => h) (Or.inl ⟨by rfl, ?_⟩) (by assumption) ?_
              rotate_left 1
              · (intro W hW; clear hW; go_simp; try with_reducible rfl)
              simp only [Act.put, List.getElem_toArray, List.getElem_cons_succ, List.getElem_cons_zero, List.setIfInBounds_toArray, List.set_cons_zero, List.set_cons_succ]
              refine wpAnyH_ready (rs := [10]) (by kernel_rfl) (by simp) ?_
              refine AllReadyH.cons rfl (fun K hK => ?_) AllReadyH.nil
              go_simp
              refine (leftP7 hPq).mono ?_
              rintro y w9 ⟨rfl, rfl⟩
              go_wp2_with fail
              refine hK.out _ _ (hq) (fun hHeld => ?_)
              clear hK K
              try simp only [Act.put, List.getElem_toArray, List.getElem_cons_succ, List.getElem_cons_zero, List.setIfInBounds_toArray, List.set_cons_zero, List.set_cons_succ]
              refine wpAnyH_take (i := 13) (v := ?_) rfl (by kernel_rfl) (by kernel_rfl) (by kernel_rfl) (fun _ _ _ h => h) (Or.inl ⟨by rfl, ?_⟩) (by assumption) ?_
              rotate_left 1
              · (intro W hW; clear hW; go_simp; try with_reducible rfl)
              simp only [Act.put, List.getElem_toArray, List.getElem_cons_succ, List.getElem_cons_zero, List.setIfInBounds_toArray, List.set_cons_zero, List.set_cons_succ]
              refine wpAnyH_take (i := 14) (v := ?_) rfl (by kernel_rfl) (by kernel_rfl) (by kernel_rfl) (fun _ _ _ h => h) (Or.inl ⟨by rfl, ?_⟩) (by assumption) ?_
              rotate_left 1
              · (intro W hW; clear hW; go_simp; try with_reducible rfl)
              simp only [Act.put, List.getElem_toArray, List.getElem_cons_succ, List.getElem_cons_zero, List.setIfInBounds_toArray, List.set_cons_zero, List.set_cons_succ]
              refine wpAnyH_take (i := 15) (v := ?_) rfl (by kernel_rfl) (by kernel_rfl) (by kernel_rfl) (fun _ _ _ h => h) (Or.inl ⟨by rfl, ?_⟩) (by assumption) ?_
              rotate_left 1
              · (intro W hW; clear hW; go_simp; try with_reducible rfl)
              simp only [Act.put, List.getElem_toArray, List.getElem_cons_succ, List.getElem_cons_zero, List.setIfInBounds_toArray, List.set_cons_zero, List.set_cons_succ]
              refine wpAnyH_take (i := 16) (v := ?_) rfl (by kernel_rfl) (by kernel_rfl) (by kernel_rfl) (fun _ _ _ h => h) (Or.inl ⟨by rfl, ?_⟩) (by assumption) ?_
              rotate_left 1
              · (intro W hW; clear hW; go_simp; try with_reducible rfl)
              simp only [Act.put, List.getElem_toArray, List.getElem_cons_succ, List.getElem_cons_zero, List.setIfInBounds_toArray, List.set_cons_zero, List.set_cons_succ]
              refine wpAnyH_take (i := 17) (v := ?_) rfl (by kernel_rfl) (by kernel_rfl) (by kernel_rfl) (fun _ _ _ h => h) (Or.inl ⟨by rfl, ?_⟩) (by assumption) ?_
              rotate_left 1
              · (intro W hW; skip; go_simp; try with_reducible rfl)
              simp only [Act.put, List.getElem_toArray, List.getElem_cons_succ, List.getElem_cons_zero, List.setIfInBounds_toArray, List.set_cons_zero, List.set_cons_succ]
              refine wpAnyH_take (i := 18) (v := ?_) rfl (by kernel_rfl) (by kernel_rfl) (by kernel_rfl) (fun _ _ _ h => h) (Or.inl ⟨by rfl, ?_⟩) (by assumption) ?_
              rotate_left 1
              · (intro W hW; clear hW; go_simp; try with_reducible rfl)
              simp only [Act.put, List.getElem_toArray, List.getElem_cons_succ, List.getElem_cons_zero, List.setIfInBounds_toArray, List.set_cons_zero, List.set_cons_succ]
              refine wpAnyH_take (i := 19) (v := ?_) rfl (by kernel_rfl) (by kernel_rfl) (by kernel_rfl) (fun _ _ _ h => h) (Or.inl ⟨by rfl, ?_⟩) (by assumption) ?_
              rotate_left 1
              · (intro W hW; clear hW; go_simp; try with_reducible rfl)
              simp only [Act.put, List.getElem_toArray, List.getElem_cons_succ, List.getElem_cons_zero, List.setIfInBounds_toArray, List.set_cons_zero, List.set_cons_succ]
              refine wpAnyH_take (i := 20) (v := ?_) rfl (by kernel_rfl) (by kernel_rfl) (by kernel_rfl) (fun _ _ _ h => h) (Or.inl ⟨by rfl, ?_⟩) (by assumption) ?_
              rotate_left 1
              · (intro W hW; clear hW; go_simp; try with_reducible rfl)
              simp only [Act.put, List.getElem_toArray, List.getElem_cons_succ, List.getElem_cons_zero, List.setIfInBounds_toArray, List.set_cons_zero, List.set_cons_succ]
              refine wpAnyH_take (i := 21) (v := ?_) rfl (by kernel_rfl) (by kernel_rfl) (by kernel_rfl) (fun _ _ _ h => h) (Or.inl ⟨by rfl, ?_⟩) (by assumption) ?_
              rotate_left 1
              · (intro W hW; clear hW; go_simp; try with_reducible rfl)
              simp only [Act.put, List.getElem_toArray, List.getElem_cons_succ, List.getElem_cons_zero, List.setIfInBounds_toArray, List.set_cons_zero, List.set_cons_succ]
              refine wpAnyH_ready (rs := [22]) (by kernel_rfl) (by simp) ?_
              refine AllReadyH.cons rfl (fun K hK => ?_) AllReadyH.nil
              go_simp
              refine (leftP7 hPq).mono ?_
              rintro y w9 ⟨rfl, rfl⟩
              go_wp2_with fail
              refine hK.out _ _ (hq) (fun hHeld => ?_)
              clear hK K
              try simp only [Act.put, List.getElem_toArray, List.getElem_cons_succ, List.getElem_cons_zero, List.setIfInBounds_toArray, List.set_cons_zero, List.set_cons_succ]
              refine wpAnyH_take (i := 23) (v := ?_) rfl (by kernel_rfl) (by kernel_rfl) (by kernel_rfl) (fun _ _ _ h => h) (Or.inl ⟨by rfl, ?_⟩) (by assumption) ?_
              rotate_left 1
              · (intro W hW; clear hW; go_simp; try with_reducible rfl)
              simp only [Act.put, List.getElem_toArray, List.getElem_cons_succ, List.getElem_cons_zero, List.setIfInBounds_toArray, List.set_cons_zero, List.set_cons_succ]
              refine wpAnyH_take (i := 24) (v := ?_) rfl (by kernel_rfl) (by kernel_rfl) (by kernel_rfl) (fun _ _ _ h => h) (Or.inl ⟨by rfl, ?_⟩) (by assumption) ?_
              rotate_left 1
              · (intro W hW; clear hW; go_simp; try with_reducible rfl)
              simp only [Act.put, List.getElem_toArray, List.getElem_cons_succ, List.getElem_cons_zero, List.setIfInBounds_toArray, List.set_cons_zero, List.set_cons_succ]
              refine wpAnyH_take (i := 25) (v := ?_) rfl (by kernel_rfl) (by kernel_rfl) (by kernel_rfl) (fun _ _ _ h => h) (Or.inl ⟨by rfl, ?_⟩) (by assumption) ?_
              rotate_left 1
              · (intro W hW; skip; go_simp; try with_reducible rfl)
              simp only [Act.put, List.getElem_toArray, List.getElem_cons_succ, List.getElem_cons_zero, List.setIfInBounds_toArray, List.set_cons_zero, List.set_cons_succ]
              refine wpAnyH_take (i := 26) (v := ?_) rfl (by kernel_rfl) (by kernel_rfl) (by kernel_rfl) (fun _ _ _ h => h) (Or.inl ⟨by rfl, ?_⟩) (by assumption) ?_
              rotate_left 1
              · (intro W hW; clear hW; go_simp; try with_reducible rfl)
              simp only [Act.put, List.getElem_toArray, List.getElem_cons_succ, List.getElem_cons_zero, List.setIfInBounds_toArray, List.set_cons_zero, List.set_cons_succ]
              refine wpAnyH_take (i := 27) (v := ?_) rfl (by kernel_rfl) (by kernel_rfl) (by kernel_rfl) (fun _ _ _ h => h) (Or.inl ⟨by rfl, ?_⟩) (by assumption) ?_
              rotate_left 1
              · (intro W hW; clear hW; go_simp; try with_reducible rfl)
              simp only [Act.put, List.getElem_toArray, List.getElem_cons_succ, List.getElem_cons_zero, List.setIfInBounds_toArray, List.set_cons_zero, List.set_cons_succ]
              refine wpAnyH_take (i := 28) (v := ?_) rfl (by kernel_rfl) (by kernel_rfl) (by kernel_rfl) (fun _ _ _ h => h) (Or.inl ⟨by rfl, ?_⟩) (by assumption) ?_
              rotate_left 1
              · (intro W hW; clear hW; go_simp; try with_reducible rfl)
              simp only [Act.put, List.getElem_toArray, List.getElem_cons_succ, List.getElem_cons_zero, List.setIfInBounds_toArray, List.set_cons_zero, List.set_cons_succ]
              refine wpAnyH_done (by kernel_rfl) ?_ _
              go_wp2_with fail
              go_meet
              case rel => exact ⟨by first | rfl | simp [*], hWb.trans hq⟩
          · have z0 : (tp0.2 == 0) = false := by simp [h0]
            have z1 : (tp0.2 != 0) = true := by simp [h0]
            clear h0
            refine wp_region_held_drew (S := fun W => Since wb W) (by kernel_rfl) hdr (fun hHeld => ?_)
            rw [← hwq] at hHeld hPq ⊢
            have hq : Since wb wq := hHeld
            clear hwq hdr
            refine wpAnyH_take (i := 0) (v := ?_) rfl (by kernel_rfl) (by kernel_rfl) (by kernel_rfl) (fun _ _ _ h => h) (Or.inl ⟨by rfl, ?_⟩) (by assumption) ?_
            rotate_left 1
            · (intro W hW; clear hW; go_simp; try with_reducible rfl)
            simp only [Act.put, List.getElem_toArray, List.getElem_cons_zero, List.setIfInBounds_toArray, List.set_cons_zero, List.set_cons_succ]
            refine wpAnyH_ready (rs := [1]) (by kernel_rfl) (by simp) ?_
            refine AllReadyH.cons rfl (fun K hK => ?_) AllReadyH.nil
            go_simp
            refine (errP hPq).mono ?_
            rintro y w9 ⟨rfl, rfl⟩
            go_wp2_with fail
            refine hK.out _ _ (hq) (fun hHeld => ?_)
            clear hK K
            try simp only [Act.put, List.getElem_toArray, List.getElem_cons_succ, List.getElem_cons_zero, List.setIfInBounds_toArray, List.set_cons_zero, List.set_cons_succ]
            refine wpAnyH_ready (rs := [2]) (by kernel_rfl) (by simp) ?_
            refine AllReadyH.cons rfl (fun K hK => ?_) AllReadyH.nil
            go_simp
            refine (num7_any _ _).mono ?_
            rintro y w9 ⟨rfl, rfl⟩
            go_wp2_with fail
            refine hK.out _ _ (hq) (fun hHeld => ?_)
            clear hK K
            try simp only [Act.put, List.getElem_toArray, List.getElem_cons_succ, List.getElem_cons_zero, List.setIfInBounds_toArray, List.set_cons_zero, List.set_cons_succ]
            refine wpAnyH_take (i := 3) (v := ?_) rfl (by kernel_rfl) (by kernel_rfl) (by kernel_rfl) (fun _ _ _ h => h) (Or.inl ⟨by rfl, ?_⟩) (by assumption) ?_
            rotate_left 1
            · (intro W hW; clear hW; go_simp; try with_reducible rfl)
            simp only [Act.put, List.getElem_toArray, List.getElem_cons_succ, List.getElem_cons_zero, List.setIfInBounds_toArray, List.set_cons_zero, List.set_cons_succ]
            refine wpAnyH_take (i := 4) (v := ?_) rfl (by kernel_rfl) (by kernel_rfl) (by kernel_rfl) (fun _ _ _ h => h) (Or.inl ⟨by rfl, ?_⟩) (by assumption) ?_
            rotate_left 1
            · (intro W hW; clear hW; go_simp; try with_reducible rfl)
            simp only [Act.put, List.getElem_toArray, List.getElem_cons_succ, List.getElem_cons_zero, List.setIfInBounds_toArray, List.set_cons_zero, List.set_cons_succ]
            refine wpAnyH_take (i := 5) (v := undef) rfl (by kernel_rfl) (by kernel_rfl) (by kernel_rfl) (fun _ _ _ h => h) (Or.inr ⟨by rfl, rfl⟩) (by assumption) ?_
            simp only [Act.put, List.getElem_toArray, List.getElem_cons_succ, List.getElem_cons_zero, List.setIfInBounds_toArray, List.set_cons_zero, List.set_cons_succ]
            refine wpAnyH_take (i := 6) (v := undef) rfl (by kernel_rfl) (by kernel_rfl) (by kernel_rfl) (fun _ _ _ h => h) (Or.inr ⟨by rfl, rfl⟩) (by assumption) ?_
            simp only [Act.put, List.getElem_toArray, List.getElem_cons_succ, List.getElem_cons_zero, List.setIfInBounds_toArray, List.set_cons_zero, List.set_cons_succ]
            refine wpAnyH_take (i := 7) (v := undef) rfl (by kernel_rfl) (by kernel_rfl) (by kernel_rfl) (fun _ _ _ h => h) (Or.inr ⟨by rfl, rfl⟩) (by assumption) ?_
            simp only [Act.put, List.getElem_toArray, List.getElem_cons_succ, List.getElem_cons_zero, List.setIfInBounds_toArray, List.set_cons_zero, List.set_cons_succ]
            refine wpAnyH_take (i := 8) (v := undef) rfl (by kernel_rfl) (by kernel_rfl) (by kernel_rfl) (fun _ _ _ h => h) (Or.inr ⟨by rfl, rfl⟩) (by assumption) ?_
            simp only [Act.put, List.getElem_toArray, List.getElem_cons_succ, List.getElem_cons_zero, List.setIfInBounds_toArray, List.set_cons_zero, List.set_cons_succ]
            refine wpAnyH_take (i := 9) (v := undef) rfl (by kernel_rfl) (by kernel_rfl) (by kernel_rfl) (fun _ _ _ h => h) (Or.inr ⟨by rfl, rfl⟩) (by assumption) ?_
            simp only [Act.put, List.getElem_toArray, List.getElem_cons_succ, List.getElem_cons_zero, List.setIfInBounds_toArray, List.set_cons_zero, List.set_cons_succ]
            refine wpAnyH_take (i := 10) (v := undef) rfl (by kernel_rfl) (by kernel_rfl) (by kernel_rfl) (fun _ _ _ h => h) (Or.inr ⟨by rfl, rfl⟩) (by assumption) ?_
            simp only [Act.put, List.getElem_toArray, List.getElem_cons_succ, List.getElem_cons_zero, List.setIfInBounds_toArray, List.set_cons_zero, List.set_cons_succ]
            refine wpAnyH_take (i := 11) (v := undef) rfl (by kernel_rfl) (by kernel_rfl) (by kernel_rfl) (fun _ _ _ h => h) (Or.inr ⟨by rfl, rfl⟩) (by assumption) ?_
            simp only [Act.put, List.getElem_toArray, List.getElem_cons_succ, List.getElem_cons_zero, List.setIfInBounds_toArray, List.set_cons_zero, List.set_cons_succ]
            refine wpAnyH_take (i := 12) (v := undef) rfl (by kernel_rfl) (by kernel_rfl) (by kernel_rfl) (fun _ _ _ h => h) (Or.inr ⟨by rfl, rfl⟩) (by assumption) ?_
            simp only [Act.put, List.getElem_toArray, List.getElem_cons_succ, List.getElem_cons_zero, List.setIfInBounds_toArray, List.set_cons_zero, List.set_cons_succ]
            refine wpAnyH_take (i := 13) (v := undef) rfl (by kernel_rfl) (by kernel_rfl) (by kernel_rfl) (fun _ _ _ h => h) (Or.inr ⟨by rfl, rfl⟩) (by assumption) ?_
            simp only [Act.put, List.getElem_toArray, List.getElem_cons_succ, List.getElem_cons_zero, List.setIfInBounds_toArray, List.set_cons_zero, List.set_cons_succ]
            refine wpAnyH_take (i := 14) (v := undef) rfl (by kernel_rfl) (by kernel_rfl) (by kernel_rfl) (fun _ _ _ h => h) (Or.inr ⟨by rfl, rfl⟩) (by assumption) ?_
            simp only [Act.put, List.getElem_toArray, List.getElem_cons_succ, List.getElem_cons_zero, List.setIfInBounds_toArray, List.set_cons_zero, List.set_cons_succ]
            refine wpAnyH_take (i := 15) (v := undef) rfl (by kernel_rfl) (by kernel_rfl) (by kernel_rfl) (fun _ _ _ h => h) (Or.inr ⟨by rfl, rfl⟩) (by assumption) ?_
            simp only [Act.put, List.getElem_toArray, List.getElem_cons_succ, List.getElem_cons_zero, List.setIfInBounds_toArray, List.set_cons_zero, List.set_cons_succ]
            refine wpAnyH_take (i := 16) (v := undef) rfl (by kernel_rfl) (by kernel_rfl) (by kernel_rfl) (fun _ _ _ h => h) (Or.inr ⟨by rfl, rfl⟩) (by assumption) ?_
            simp only [Act.put, List.getElem_toArray, List.getElem_cons_succ, List.getElem_cons_zero, List.setIfInBounds_toArray, List.set_cons_zero, List.set_cons_succ]
            refine wpAnyH_take (i := 17) (v := undef) rfl (by kernel_rfl) (by kernel_rfl) (by kernel_rfl) (fun _ _ _ h => h) (Or.inr ⟨by rfl, rfl⟩) (by assumption) ?_
            simp only [Act.put, List.getElem_toArray, List.getElem_cons_succ, List.getElem_cons_zero, List.setIfInBounds_toArray, List.set_cons_zero, List.set_cons_succ]
            refine wpAnyH_take (i := 18) (v := undef) rfl (by kernel_rfl) (by kernel_rfl) (by kernel_rfl) (fun _ _ _ h => h) (Or.inr ⟨by rfl, rfl⟩) (by assumption) ?_
            simp only [Act.put, List.getElem_toArray, List.getElem_cons_succ, List.getElem_cons_zero, List.setIfInBounds_toArray, List.set_cons_zero, List.set_cons_succ]
            refine wpAnyH_take (i := 19) (v := undef) rfl (by kernel_rfl) (by kernel_rfl) (by kernel_rfl) (fun _ _ _ h => h) (Or.inr ⟨by rfl, rfl⟩) (by assumption) ?_
            simp only [Act.put, List.getElem_toArray, List.getElem_cons_succ, List.getElem_cons_zero, List.setIfInBounds_toArray, List.set_cons_zero, List.set_cons_succ]
            refine wpAnyH_take (i := 20) (v := undef) rfl (by kernel_rfl) (by kernel_rfl) (by kernel_rfl) (fun _ _ _ h => h) (Or.inr ⟨by rfl, rfl⟩) (by assumption) ?_
            simp only [Act.put, List.getElem_toArray, List.getElem_cons_succ, List.getElem_cons_zero, List.setIfInBounds_toArray, List.set_cons_zero, List.set_cons_succ]
            refine wpAnyH_take (i := 21) (v := undef) rfl (by kernel_rfl) (by kernel_rfl) (by kernel_rfl) (fun _ _ _ h => h) (Or.inr ⟨by rfl, rfl⟩) (by assumption) ?_
            simp only [Act.put, List.getElem_toArray, List.getElem_cons_succ, List.getElem_cons_zero, List.setIfInBounds_toArray, List.set_cons_zero, List.set_cons_succ]
            refine wpAnyH_take (i := 22) (v := undef) rfl (by kernel_rfl) (by kernel_rfl) (by kernel_rfl) (fun _ _ _ h => h) (Or.inr ⟨by rfl, rfl⟩) (by assumption) ?_
            simp only [Act.put, List.getElem_toArray, List.getElem_cons_succ, List.getElem_cons_zero, List.setIfInBounds_toArray, List.set_cons_zero, List.set_cons_succ]
            refine wpAnyH_take (i := 23) (v := undef) rfl (by kernel_rfl) (by kernel_rfl) (by kernel_rfl) (fun _ _ _ h => h) (Or.inr ⟨by rfl, rfl⟩) (by assumption) ?_
            simp only [Act.put, List.getElem_toArray, List.getElem_cons_succ, List.getElem_cons_zero, List.setIfInBounds_toArray, List.set_cons_zero, List.set_cons_succ]
            refine wpAnyH_take (i := 24) (v := undef) rfl (by kernel_rfl) (by kernel_rfl) (by kernel_rfl) (fun _ _ _ h => h) (Or.inr ⟨by rfl, rfl⟩) (by assumption) ?_
            simp only [Act.put, List.getElem_toArray, List.getElem_cons_succ, List.getElem_cons_zero, List.setIfInBounds_toArray, List.set_cons_zero, List.set_cons_succ]
            refine wpAnyH_take (i := 25) (v := undef) rfl (by kernel_rfl) (by kernel_rfl) (by kernel_rfl) (fun _ _ _ h => h) (Or.inr ⟨by rfl, rfl⟩) (by assumption) ?_
            simp only [Act.put, List.getElem_toArray, List.getElem_cons_succ, List.getElem_cons_zero, List.setIfInBounds_toArray, List.set_cons_zero, List.set_cons_succ]
            refine wpAnyH_take (i := 26) (v := undef) rfl (by kernel_rfl) (by kernel_rfl) (by kernel_rfl) (fun _ _ _ h => h) (Or.inr ⟨by rfl, rfl⟩) (by assumption) ?_
            simp only [Act.put, List.getElem_toArray, List.getElem_cons_succ, List.getElem_cons_zero, List.setIfInBounds_toArray, List.set_cons_zero, List.set_cons_succ]
            refine wpAnyH_take (i := 27) (v := undef) rfl (by kernel_rfl) (by kernel_rfl) (by kernel_rfl) (fun _ _ _ h => h) (Or.inr ⟨by rfl, rfl⟩) (by assumption) ?_
            simp only [Act.put, List.getElem_toArray, List.getElem_cons_succ, List.getElem_cons_zero, List.setIfInBounds_toArray, List.set_cons_zero, List.set_cons_succ]
            refine wpAnyH_take (i := 28) (v := ?_) rfl (by kernel_rfl) (by kernel_rfl) (by kernel_rfl) (fun _ _ _ h => h) (Or.inl ⟨by rfl, ?_⟩) (by assumption) ?_
            rotate_left 1
            · (intro W hW; clear hW; go_simp; try with_reducible rfl)
            simp only [Act.put, List.getElem_toArray, List.getElem_cons_succ, List.getElem_cons_zero, List.setIfInBounds_toArray, List.set_cons_zero, List.set_cons_succ]
            refine wpAnyH_done (by kernel_rfl) ?_ _
            go_wp2_with fail
            go_meet
            case rel => exact ⟨by first | rfl | simp [*], hWb.trans hq⟩
        case rest =>
          obtain ⟨wv, hnw⟩ : ∃ w', w' = wc := ⟨_, rfl⟩
          rw [← hnw] at hcut ⊢
          clear hnw
          obtain ⟨rfl, hT9⟩ := hcut
          clear hWb hPb txp hdr hlP HEz
          obtain ⟨⟨⟨rk, rx, ry, rkey, rval, rcl, rseq⟩, tp1⟩, hrd⟩ : ∃ r, readOp (b, 0) = r := ⟨_, rfl⟩
          obtain ⟨Bp1, hB⟩ : ∃ b, opB rk rx ry rkey rval rcl rseq = b := ⟨_, rfl⟩
          obtain ⟨Lp1, hL⟩ : ∃ l, (if Bp1 then opL rk rx ry rkey rval rcl rseq else []) = l := ⟨_, rfl⟩
          obtain ⟨Ep1, hE⟩ : ∃ e : Int, (if Bp1 then 0 else 1) = e := ⟨_, rfl⟩
          have HCp1 : Hid (tp1.2 = 0 → Bp1 = true ∧ b = Lp1 ++ tp1.1) := by
            unfold Hid
            intro h0
            obtain ⟨h1, h2⟩ := op_came hrd h0
            have h3 : Bp1 = true := hB.symm.trans h1
            refine ⟨h3, ?_⟩
            rw [← hL, h3, if_pos rfl]
            exact h2
          have hEz : Bp1 = true → Ep1 = 0 := fun h => by rw [← hE, h]; rfl
          have HEz := Lib.hid hEz
          have HRDp1 := Lib.hid hrd
          have HBpp1 := Lib.hid hB
          have HLpp1 := Lib.hid hL
          have HEpp1 := Lib.hid hE
          clear hrd hB hL hE hEz
          have hxr := HR0.out.below (hT9.trans ((Since.refl _).alloc (.cells #[] 5))) (Nat.le_refl _)
          go_wp2_with (at_builtin; refine wpList_grow _ rfl (.tmp 159) (.tmp 160) _ rfl wv.heap.size _ [] rfl (own_lit wv wv.heap.size _ [] rfl (by simp) (Nat.le_refl _)) _ b rfl (src_at n0 c0 hxr HN.out) (by have := HN.out; simp; omega) (by simp) ?_; intro AY nY cY wY hY hbY)
          rw [List.nil_append] at hY
          have hWY : Since wz wY := Below.trans hT9 (Below.mono (((Below.refl _ _).alloc (Nat.le_refl _) _).trans hbY) hT9.size_)
          have hYl := hY.len
          refine (open_any AY nY cY _ wY hY.rd hY.len (by have := HN.out; (try simp at hYl); omega)).mono ?_
          rintro e wP ⟨gP, A9, n9, c9, rfl, hP, hbP⟩
          have hlP : wz.heap.size ≤ gP := Nat.le_trans hWY.size_ hP.lie
          have hWP : Since wz wP := hWY.trans hbP
          go_wp2_with fail
          refine (takeOp_any (s := (b, 0)) ⟨_, _, _, hP⟩ HRDp1.out).mono ?_
          rintro y wa ⟨rfl, hPa, hoa⟩
          have hWa : Since wz wa := Below.trans hWP (Off.below hoa hWP.size_ (fun b z => by subst z; exact hlP))
          go_wp2_with fail
          refine (putOp_at HBpp1.out HLpp1.out HEpp1.out _).mono ?_
          rintro e wb ⟨Ap, np, cp, rfl, hhp, hbb⟩
          have hWb : Since wz wb := hWa.trans hbb
          have hPb := hPa.since hbb
          clear hPa hoa hbb hWa hWP hP hbP hY hYl hbY hWY
          have txp := fun W (hW : Since wb W) => text_of W np cp (hhp.rd.below hW (Nat.le_refl _)) hhp.len
          clear hhp hxr
          have hdr : Since wb wb.drew := (Since.refl wb).drew
          go_wp2_with fail
          obtain ⟨wq, hwq⟩ : ∃ wq, wq = wb.drew := ⟨_, rfl⟩
          have hPq := hPb.since hdr
          by_cases h0 : tp1.2 = 0
          · have z0 : (tp1.2 == 0) = true := by simp [h0]
            have z1 : (tp1.2 != 0) = false := by simp [h0]
            obtain ⟨hB1, hbl⟩ := HCp1.out h0
            have hE0 := HEz.out hB1
            have hsum : n0 = Lp1.length + tp1.1.length := by rw [← HN.out, hbl, List.length_append]
            have hLp : 0 < Lp1.length := by
              rw [← HLpp1.out, hB1, if_pos rfl]
              have := numL_pos (z := rx) (by have := opB_bd (HBpp1.out.trans hB1); omega)
              unfold opL
              simp
              omega
            have htk : b.take Lp1.length = Lp1 := by rw [hbl, List.take_left]
            obtain ⟨k, hk⟩ : ∃ k, k = Lp1.length := ⟨_, rfl⟩
            obtain ⟨m, hm⟩ : ∃ m, m = tp1.1.length := ⟨_, rfl⟩
            rw [← hm] at hsum
            have hLe : leftOf tp1.1.length tp1.2 = (m : Int) := by unfold leftOf; rw [if_pos h0, hm]
            rw [← hk] at hsum htk hLp
            have s1 : wrap64 ((n0 : Int) - (m : Int)) = (k : Int) := by rw [IntWalk.wrap64_in _ ⟨by omega, by omega⟩]; omega
            have s2 : IntKind.i64.wrap ((n0 : Int) - (m : Int)) = (k : Int) := by rw [IntWalk.i64_in _ (by omega)]; omega
            have g1 : decide ((n0 : Int) < (m : Int)) = false := by simp; omega
            have g2 : decide ((m : Int) ≤ (n0 : Int)) = true := by simp; omega
            have g4 : decide (n0 < m) = false := by simp; omega
            have g5 : decide (m ≤ n0) = true := by simp; omega
            have g3 : (k : Int) ≤ (c0 : Int) := by omega
            have e0 : (Ep1 == 0) = true := by simp [hE0]
            have e1 : (Ep1 != 0) = false := by simp [hE0]
            have txr := fun W (hW : Since wb W) => text_of W k c0 ((HR0.out.below (hWb.trans hW) (Nat.le_refl _)).take k) (by rw [htk]; exact hk.symm)
            rw [htk] at txr
            rcases A0 with _ | ad
            · exfalso
              have := HR0.out.none_nil
              have h9 := HN.out
              rw [this] at h9
              simp at h9
              omega
            · clear h0 hbl htk hsum hk hm hE0 hB1 hLp
              refine wp_region_held_drew (S := fun W => Since wb W) (by kernel_rfl) hdr (fun hHeld => ?_)
              rw [← hwq] at hHeld hPq ⊢
              have hq : Since wb wq := hHeld
              clear hwq hdr
              refine wpAnyH_take (i := 0) (v := ?_) rfl (by kernel_rfl) (by kernel_rfl) (by kernel_rfl) (fun _ _ _ h => h) (Or.inl ⟨by rfl, ?_⟩) (by assumption) ?_
              rotate_left 1
              · (intro W hW; clear hW; go_simp; try with_reducible rfl)
              simp only [Act.put, List.getElem_toArray, List.getElem_cons_zero, List.setIfInBounds_toArray, List.set_cons_zero, List.set_cons_succ]
              refine wpAnyH_ready (rs := [1]) (by kernel_rfl) (by simp) ?_
              refine AllReadyH.cons rfl (fun K hK => ?_) AllReadyH.nil
              go_simp
              refine (errP hPq).mono ?_
              rintro y w9 ⟨rfl, rfl⟩
              go_wp2_with fail
              refine hK.out _ _ (hq) (fun hHeld => ?_)
              clear hK K
              try simp only [Act.put, List.getElem_toArray, List.getElem_cons_succ, List.getElem_cons_zero, List.setIfInBounds_toArray, List.set_cons_zero, List.set_cons_succ]
              refine wpAnyH_ready (rs := [2]) (by kernel_rfl) (by simp) ?_
              refine AllReadyH.cons rfl (fun K hK => ?_) AllReadyH.nil
              go_simp
              refine (num7_any _ _).mono ?_
              rintro y w9 ⟨rfl, rfl⟩
              go_wp2_with fail
              refine hK.out _ _ (hq) (fun hHeld => ?_)
              clear hK K
              try simp only [Act.put, List.getElem_toArray, List.getElem_cons_succ, List.getElem_cons_zero, List.setIfInBounds_toArray, List.set_cons_zero, List.set_cons_succ]
              refine wpAnyH_take (i := 3) (v := ?_) rfl (by kernel_rfl) (by kernel_rfl) (by kernel_rfl) (fun _ _ _ h => h) (Or.inl ⟨by rfl, ?_⟩) (by assumption) ?_
              rotate_left 1
              · (intro W hW; clear hW; go_simp; try with_reducible rfl)
              simp only [Act.put, List.getElem_toArray, List.getElem_cons_succ, List.getElem_cons_zero, List.setIfInBounds_toArray, List.set_cons_zero, List.set_cons_succ]
              refine wpAnyH_take (i := 4) (v := ?_) rfl (by kernel_rfl) (by kernel_rfl) (by kernel_rfl) (fun _ _ _ h => h) (Or.inl ⟨by rfl, ?_⟩) (by assumption) ?_
              rotate_left 1
              · (intro W hW; clear hW; go_simp; try with_reducible rfl)
              simp only [Act.put, List.getElem_toArray, List.getElem_cons_succ, List.getElem_cons_zero, List.setIfInBounds_toArray, List.set_cons_zero, List.set_cons_succ]
              refine wpAnyH_take (i := 5) (v := ?_) rfl (by kernel_rfl) (by kernel_rfl) (by kernel_rfl) (fun _ _ _ h => h) (Or.inl ⟨by rfl, ?_⟩) (by assumption) ?_
              rotate_left 1
              · (intro W hW; clear hW; go_simp; try with_reducible rfl)
              simp only [Act.put, List.getElem_toArray, List.getElem_cons_succ, List.getElem_cons_zero, List.setIfInBounds_toArray, List.set_cons_zero, List.set_cons_succ]
              refine wpAnyH_ready (rs := [6]) (by kernel_rfl) (by simp) ?_
              refine AllReadyH.cons rfl (fun K hK => ?_) AllReadyH.nil
              go_simp
              refine (num7_any _ _).mono ?_
              rintro y w9 ⟨rfl, rfl⟩
              go_wp2_with fail
              refine hK.out _ _ (hq) (fun hHeld => ?_)
              clear hK K
              try simp only [Act.put, List.getElem_toArray, List.getElem_cons_succ, List.getElem_cons_zero, List.setIfInBounds_toArray, List.set_cons_zero, List.set_cons_succ]
              refine wpAnyH_take (i := 7) (v := ?_) rfl (by kernel_rfl) (by kernel_rfl) (by kernel_rfl) (fun _ _ _ h => h) (Or.inl ⟨by rfl, ?_⟩) (by assumption) ?_
              rotate_left 1
              · (intro W hW; clear hW; go_simp; try with_reducible rfl)
              simp only [Act.put, List.getElem_toArray, List.getElem_cons_succ, List.getElem_cons_zero, List.setIfInBounds_toArray, List.set_cons_zero, List.set_cons_succ]
              refine wpAnyH_take (i := 8) (v := ?_) rfl (by kernel_rfl) (by kernel_rfl) (by kernel_rfl) (fun _ _ _ h => h) (Or.inl ⟨by rfl, ?_⟩) (by assumption) ?_
              rotate_left 1
              · (intro W hW; clear hW; go_simp; try with_reducible rfl)
              simp only [Act.put, List.getElem_toArray, List.getElem_cons_succ, List.getElem_cons_zero, List.setIfInBounds_toArray, List.set_cons_zero, List.set_cons_succ]
              refine wpAnyH_take (i := 9) (v := ?_) rfl (by kernel_rfl) (by kernel_rfl) (by kernel_rfl) (fun _ _ _ h => h) (Or.inl ⟨by rfl, ?_⟩) (by assumption) ?_
              rotate_left 1
              · (intro W hW; clear hW; go_simp; try with_reducible rfl)
              simp only [Act.put, List.getElem_toArray, List.getElem_cons_succ, List.getElem_cons_zero, List.setIfInBounds_toArray, List.set_cons_zero, List.set_cons_succ]
              refine wpAnyH_take (i := 11) (v := ?_) rfl (by kernel_rfl) (by kernel_rfl) (by kernel_rfl) (fun _ _ _ h => h) (Or.inl ⟨by rfl, ?_⟩) (by assumption) ?_
              rotate_left 1
              · (intro W hW; clear hW; go_simp; try with_reducible rfl)
              simp only [Act.put, List.getElem_toArray, List.getElem_cons_succ, List.getElem_cons_zero, List.setIfInBounds_toArray, List.set_cons_zero, List.set_cons_succ]
              refine wpAnyH_take (i := 12) (v := ?_) rfl (by kernel_rfl) (by kernel_rfl) (by kernel_rfl) (fun _ _ _ h => h) (Or.inl ⟨by rfl, ?_⟩) (by assumption) ?_
              rotate_left 1
              · (intro W hW; clear hW; go_simp; try with_reducible rfl)
              simp only [Act.put, List.getElem_toArray, List.getElem_cons_succ, List.getElem_cons_zero, List.setIfInBounds_toArray, List.set_cons_zero, List.set_cons_succ]
              refine wpAnyH_ready (rs := [10]) (by kernel_rfl) (by simp) ?_
              refine AllReadyH.cons rfl (fun K hK => ?_) AllReadyH.nil
              go_simp
              refine (leftP7 hPq).mono ?_
              rintro y w9 ⟨rfl, rfl⟩
              go_wp2_with fail
              refine hK.out _ _ (hq) (fun hHeld => ?_)
              clear hK K
              try simp only [Act.put, List.getElem_toArray, List.getElem_cons_succ, List.getElem_cons_zero, List.setIfInBounds_toArray, List.set_cons_zero, List.set_cons_succ]
              refine wpAnyH_take (i := 13) (v := ?_) rfl (by kernel_rfl) (by kernel_rfl) (by kernel_rfl) (fun _ _ _ h => h) (Or.inl ⟨by rfl, ?_⟩) (by assumption) ?_
              rotate_left 1
              · (intro W hW; clear hW; go_simp; try with_reducible rfl)
              simp only [Act.put, List.getElem_toArray, List.getElem_cons_succ, List.getElem_cons_zero, List.setIfInBounds_toArray, List.set_cons_zero, List.set_cons_succ]
              refine wpAnyH_take (i := 14) (v := ?_) rfl (by kernel_rfl) (by kernel_rfl) (by kernel_rfl) (fun _ _ _ h => h) (Or.inl ⟨by rfl, ?_⟩) (by assumption) ?_
              rotate_left 1
              · (intro W hW; clear hW; go_simp; try with_reducible rfl)
              simp only [Act.put, List.getElem_toArray, List.getElem_cons_succ, List.getElem_cons_zero, List.setIfInBounds_toArray, List.set_cons_zero, List.set_cons_succ]
              refine wpAnyH_take (i := 15) (v := ?_) rfl (by kernel_rfl) (by kernel_rfl) (by kernel_rfl) (fun _ _ _ h => h) (Or.inl ⟨by rfl, ?_⟩) (by assumption) ?_
              rotate_left 1
              · (intro W hW; clear hW; go_simp; try with_reducible rfl)
              simp only [Act.put, List.getElem_toArray, List.getElem_cons_succ, List.getElem_cons_zero, List.setIfInBounds_toArray, List.set_cons_zero, List.set_cons_succ]
              refine wpAnyH_take (i := 16) (v := ?_) rfl (by kernel_rfl) (by kernel_rfl) (by kernel_rfl) (fun _ _ _ h => h) (Or.inl ⟨by rfl, ?_⟩) (by assumption) ?_
              rotate_left 1
              · (intro W hW; clear hW; go_simp; try with_reducible rfl)
              simp only [Act.put, List.getElem_toArray, List.getElem_cons_succ, List.getElem_cons_zero, List.setIfInBounds_toArray, List.set_cons_zero, List.set_cons_succ]
              refine wpAnyH_take (i := 17) (v := ?_) rfl (by kernel_rfl) (by kernel_rfl) (by kernel_rfl) (fun _ _ _ h => h) (Or.inl ⟨by rfl, ?_⟩) (by assumption) ?_
              rotate_left 1
              · (intro W hW; skip; go_simp; try with_reducible rfl)
              simp only [Act.put, List.getElem_toArray, List.getElem_cons_succ, List.getElem_cons_zero, List.setIfInBounds_toArray, List.set_cons_zero, List.set_cons_succ]
              refine wpAnyH_take (i := 18) (v := ?_) rfl (by kernel_rfl) (by kernel_rfl) (by kernel_rfl) (fun _ _ _ h => h) (Or.inl ⟨by rfl, ?_⟩) (by assumption) ?_
              rotate_left 1
              · (intro W hW; clear hW; go_simp; try with_reducible rfl)
              simp only [Act.put, List.getElem_toArray, List.getElem_cons_succ, List.getElem_cons_zero, List.setIfInBounds_toArray, List.set_cons_zero, List.set_cons_succ]
              refine wpAnyH_take (i := 19) (v := ?_) rfl (by kernel_rfl) (by kernel_rfl) (by kernel_rfl) (fun _ _ _ h => h) (Or.inl ⟨by rfl, ?_⟩) (by assumption) ?_
              rotate_left 1
              · (intro W hW; clear hW; go_simp; try with_reducible rfl)
              simp only [Act.put, List.getElem_toArray, List.getElem_cons_succ, List.getElem_cons_zero, List.setIfInBounds_toArray, List.set_cons_zero, List.set_cons_succ]
              refine wpAnyH_take (i := 20) (v := ?_) rfl (by kernel_rfl) (by kernel_rfl) (by kernel_rfl) (fun _ _ _ h => h) (Or.inl ⟨by rfl, ?_⟩) (by assumption) ?_
              rotate_left 1
              · (intro W hW; clear hW; go_simp; try with_reducible rfl)
              simp only [Act.put, List.getElem_toArray, List.getElem_cons_succ, List.getElem_cons_zero, List.setIfInBounds_toArray, List.set_cons_zero, List.set_cons_succ]
              refine wpAnyH_take (i := 21) (v := ?_) rfl (by kernel_rfl) (by kernel_rfl) (by kernel_rfl) (fun _ _ _ h => h) (Or.inl ⟨by rfl, ?_⟩) (by assumption) ?_
              rotate_left 1
              · (intro W hW; clear hW; go_simp; try with_reducible rfl)
              simp only [Act.put, List.getElem_toArray, List.getElem_cons_succ, List.getElem_cons_zero, List.setIfInBounds_toArray, List.set_cons_zero, List.set_cons_succ]
              refine wpAnyH_ready (rs := [22]) (by kernel_rfl) (by simp) ?_
              refine AllReadyH.cons rfl (fun K hK => ?_) AllReadyH.nil
              go_simp
              refine (leftP7 hPq).mono ?_
              rintro y w9 ⟨rfl, rfl⟩
              go_wp2_with fail
              refine hK.out _ _ (hq) (fun hHeld => ?_)
              clear hK K
              try simp only [Act.put, List.getElem_toArray, List.getElem_cons_succ, List.getElem_cons_zero, List.setIfInBounds_toArray, List.set_cons_zero, List.set_cons_succ]
              refine wpAnyH_take (i := 23) (v := ?_) rfl (by kernel_rfl) (by kernel_rfl) (by kernel_rfl) (fun _ _ _ h => h) (Or.inl ⟨by rfl, ?_⟩) (by assumption) ?_
              rotate_left 1
              · (intro W hW; clear hW; go_simp; try with_reducible rfl)
              simp only [Act.put, List.getElem_toArray, List.getElem_cons_succ, List.getElem_cons_zero, List.setIfInBounds_toArray, List.set_cons_zero, List.set_cons_succ]
              refine wpAnyH_take (i := 24) (v := ?_) rfl (by kernel_rfl) (by kernel_rfl) (by kernel_rfl) (fun _ _ _ h => h) (Or.inl ⟨by rfl, ?_⟩) (by assumption) ?_
              rotate_left 1
              · (intro W hW; clear hW; go_simp; try with_reducible rfl)
              simp only [Act.put, List.getElem_toArray, List.getElem_cons_succ, List.getElem_cons_zero, List.setIfInBounds_toArray, List.set_cons_zero, List.set_cons_succ]
              refine wpAnyH_take (i := 25) (v := ?_) rfl (by kernel_rfl) (by kernel_rfl) (by kernel_rfl) (fun _ _ _ h => h) (Or.inl ⟨by rfl, ?_⟩) (by assumption) ?_
              rotate_left 1
              · (intro W hW; skip; go_simp; try with_reducible rfl)
              simp only [Act.put, List.getElem_toArray, List.getElem_cons_succ, List.getElem_cons_zero, List.setIfInBounds_toArray, List.set_cons_zero, List.set_cons_succ]
              refine wpAnyH_take (i := 26) (v := ?_) rfl (by kernel_rfl) (by kernel_rfl) (by kernel_rfl) (fun _ _ _ h => h) (Or.inl ⟨by rfl, ?_⟩) (by assumption) ?_
              rotate_left 1
              · (intro W hW; clear hW; go_simp; try with_reducible rfl)
              simp only [Act.put, List.getElem_toArray, List.getElem_cons_succ, List.getElem_cons_zero, List.setIfInBounds_toArray, List.set_cons_zero, List.set_cons_succ]
              refine wpAnyH_take (i := 27) (v := ?_) rfl (by kernel_rfl) (by kernel_rfl) (by kernel_rfl) (fun _ _ _ h => h) (Or.inl ⟨by rfl, ?_⟩) (by assumption) ?_
              rotate_left 1
              · (intro W hW; clear hW; go_simp; try with_reducible rfl)
              simp only [Act.put, List.getElem_toArray, List.getElem_cons_succ, List.getElem_cons_zero, List.setIfInBounds_toArray, List.set_cons_zero, List.set_cons_succ]
              refine wpAnyH_take (i := 28) (v := ?_) rfl (by kernel_rfl) (by kernel_rfl) (by kernel_rfl) (fun _ _ _ h => h) (Or.inl ⟨by rfl, ?_⟩) (by assumption) ?_
              rotate_left 1
              · (intro W hW; clear hW; go_simp; try with_reducible rfl)
              simp only [Act.put, List.getElem_toArray, List.getElem_cons_succ, List.getElem_cons_zero, List.setIfInBounds_toArray, List.set_cons_zero, List.set_cons_succ]
              refine wpAnyH_take (i := 29) (v := ?_) rfl (by kernel_rfl) (by kernel_rfl) (by kernel_rfl) (fun _ _ _ h => h) (Or.inl ⟨by rfl, ?_⟩) (by assumption) ?_
              rotate_left 1
              · (intro W hW; clear hW; go_simp; try with_reducible rfl)
              simp only [Act.put, List.getElem_toArray, List.getElem_cons_succ, List.getElem_cons_zero, List.setIfInBounds_toArray, List.set_cons_zero, List.set_cons_succ]
              refine wpAnyH_ready (rs := [30]) (by kernel_rfl) (by simp) ?_
              refine AllReadyH.cons rfl (fun K hK => ?_) AllReadyH.nil
              go_simp
              refine (knows7_any _).mono ?_
              rintro e wk ⟨rfl, hbk⟩
              go_wp2_with fail
              refine hK.out _ _ (hq.trans hbk) (fun hHeld => ?_)
              clear hK K
              try simp only [Act.put, List.getElem_toArray, List.getElem_cons_succ, List.getElem_cons_zero, List.setIfInBounds_toArray, List.set_cons_zero, List.set_cons_succ]
              refine wpAnyH_take (i := 31) (v := ?_) rfl (by kernel_rfl) (by kernel_rfl) (by kernel_rfl) (fun _ _ _ h => h) (Or.inl ⟨by rfl, ?_⟩) (by assumption) ?_
              rotate_left 1
              · (intro W hW; clear hW; go_simp; try with_reducible rfl)
              simp only [Act.put, List.getElem_toArray, List.getElem_cons_succ, List.getElem_cons_zero, List.setIfInBounds_toArray, List.set_cons_zero, List.set_cons_succ]
              refine wpAnyH_take (i := 32) (v := ?_) rfl (by kernel_rfl) (by kernel_rfl) (by kernel_rfl) (fun _ _ _ h => h) (Or.inl ⟨by rfl, ?_⟩) (by assumption) ?_
              rotate_left 1
              · (intro W hW; clear hW; go_simp; try with_reducible rfl)
              simp only [Act.put, List.getElem_toArray, List.getElem_cons_succ, List.getElem_cons_zero, List.setIfInBounds_toArray, List.set_cons_zero, List.set_cons_succ]
              refine wpAnyH_done (by kernel_rfl) ?_ _
              go_wp2
              go_ret
              exact ⟨by first | rfl | simp [*], hs0.trans (hSc3.trans (hWb.trans (hq.trans hbk)))⟩
          · have z0 : (tp1.2 == 0) = false := by simp [h0]
            have z1 : (tp1.2 != 0) = true := by simp [h0]
            clear h0
            refine wp_region_held_drew (S := fun W => Since wb W) (by kernel_rfl) hdr (fun hHeld => ?_)
            rw [← hwq] at hHeld hPq ⊢
            have hq : Since wb wq := hHeld
            clear hwq hdr
            refine wpAnyH_take (i := 0) (v := ?_) rfl (by kernel_rfl) (by kernel_rfl) (by kernel_rfl) (fun _ _ _ h => h) (Or.inl ⟨by rfl, ?_⟩) (by assumption) ?_
            rotate_left 1
            · (intro W hW; clear hW; go_simp; try with_reducible rfl)
            simp only [Act.put, List.getElem_toArray, List.getElem_cons_zero, List.setIfInBounds_toArray, List.set_cons_zero, List.set_cons_succ]
            refine wpAnyH_ready (rs := [1]) (by kernel_rfl) (by simp) ?_
            refine AllReadyH.cons rfl (fun K hK => ?_) AllReadyH.nil
            go_simp
            refine (errP hPq).mono ?_
            rintro y w9 ⟨rfl, rfl⟩
            go_wp2_with fail
            refine hK.out _ _ (hq) (fun hHeld => ?_)
            clear hK K
            try simp only [Act.put, List.getElem_toArray, List.getElem_cons_succ, List.getElem_cons_zero, List.setIfInBounds_toArray, List.set_cons_zero, List.set_cons_succ]
            refine wpAnyH_ready (rs := [2]) (by kernel_rfl) (by simp) ?_
            refine AllReadyH.cons rfl (fun K hK => ?_) AllReadyH.nil
            go_simp
            refine (num7_any _ _).mono ?_
            rintro y w9 ⟨rfl, rfl⟩
            go_wp2_with fail
            refine hK.out _ _ (hq) (fun hHeld => ?_)
            clear hK K
            try simp only [Act.put, List.getElem_toArray, List.getElem_cons_succ, List.getElem_cons_zero, List.setIfInBounds_toArray, List.set_cons_zero, List.set_cons_succ]
            refine wpAnyH_take (i := 3) (v := ?_) rfl (by kernel_rfl) (by kernel_rfl) (by kernel_rfl) (fun _ _ _ h => h) (Or.inl ⟨by rfl, ?_⟩) (by assumption) ?_
            rotate_left 1
            · (intro W hW; clear hW; go_simp; try with_reducible rfl)
            simp only [Act.put, List.getElem_toArray, List.getElem_cons_succ, List.getElem_cons_zero, List.setIfInBounds_toArray, List.set_cons_zero, List.set_cons_succ]
            refine wpAnyH_take (i := 4) (v := ?_) rfl (by kernel_rfl) (by kernel_rfl) (by kernel_rfl) (fun _ _ _ h => h) (Or.inl ⟨by rfl, ?_⟩) (by assumption) ?_
            rotate_left 1
            · (intro W hW; clear hW; go_simp; try with_reducible rfl)
            simp only [Act.put, List.getElem_toArray, List.getElem_cons_succ, List.getElem_cons_zero, List.setIfInBounds_toArray, List.set_cons_zero, List.set_cons_succ]
            refine wpAnyH_take (i := 5) (v := undef) rfl (by kernel_rfl) (by kernel_rfl) (by kernel_rfl) (fun _ _ _ h => h) (Or.inr ⟨by rfl, rfl⟩) (by assumption) ?_
            simp only [Act.put, List.getElem_toArray, List.getElem_cons_succ, List.getElem_cons_zero, List.setIfInBounds_toArray, List.set_cons_zero, List.set_cons_succ]
            refine wpAnyH_take (i := 6) (v := undef) rfl (by kernel_rfl) (by kernel_rfl) (by kernel_rfl) (fun _ _ _ h => h) (Or.inr ⟨by rfl, rfl⟩) (by assumption) ?_
            simp only [Act.put, List.getElem_toArray, List.getElem_cons_succ, List.getElem_cons_zero, List.setIfInBounds_toArray, List.set_cons_zero, List.set_cons_succ]
            refine wpAnyH_take (i := 7) (v := undef) rfl (by kernel_rfl) (by kernel_rfl) (by kernel_rfl) (fun _ _ _ h => h) (Or.inr ⟨by rfl, rfl⟩) (by assumption) ?_
            simp only [Act.put, List.getElem_toArray, List.getElem_cons_succ, List.getElem_cons_zero, List.setIfInBounds_toArray, List.set_cons_zero, List.set_cons_succ]
            refine wpAnyH_take (i := 8) (v := undef) rfl (by kernel_rfl) (by kernel_rfl) (by kernel_rfl) (fun _ _ _ h => h) (Or.inr ⟨by rfl, rfl⟩) (by assumption) ?_
            simp only [Act.put, List.getElem_toArray, List.getElem_cons_succ, List.getElem_cons_zero, List.setIfInBounds_toArray, List.set_cons_zero, List.set_cons_succ]
            refine wpAnyH_take (i := 9) (v := undef) rfl (by kernel_rfl) (by kernel_rfl) (by kernel_rfl) (fun _ _ _ h => h) (Or.inr ⟨by rfl, rfl⟩) (by assumption) ?_
            simp only [Act.put, List.getElem_toArray, List.getElem_cons_succ, List.getElem_cons_zero, List.setIfInBounds_toArray, List.set_cons_zero, List.set_cons_succ]
            refine wpAnyH_take (i := 10) (v := undef) rfl (by kernel_rfl) (by kernel_rfl) (by kernel_rfl) (fun _ _ _ h => h) (Or.inr ⟨by rfl, rfl⟩) (by assumption) ?_
            simp only [Act.put, List.getElem_toArray, List.getElem_cons_succ, List.getElem_cons_zero, List.setIfInBounds_toArray, List.set_cons_zero, List.set_cons_succ]
            refine wpAnyH_take (i := 11) (v := undef) rfl (by kernel_rfl) (by kernel_rfl) (by kernel_rfl) (fun _ _ _ h => h) (Or.inr ⟨by rfl, rfl⟩) (by assumption) ?_
            simp only [Act.put, List.getElem_toArray, List.getElem_cons_succ, List.getElem_cons_zero, List.setIfInBounds_toArray, List.set_cons_zero, List.set_cons_succ]
            refine wpAnyH_take (i := 12) (v := undef) rfl (by kernel_rfl) (by kernel_rfl) (by kernel_rfl) (fun _ _ _ h => h) (Or.inr ⟨by rfl, rfl⟩) (by assumption) ?_
            simp only [Act.put, List.getElem_toArray, List.getElem_cons_succ, List.getElem_cons_zero, List.setIfInBounds_toArray, List.set_cons_zero, List.set_cons_succ]
            refine wpAnyH_take (i := 13) (v := undef) rfl (by kernel_rfl) (by kernel_rfl) (by kernel_rfl) (fun _ _ _ h => h) (Or.inr ⟨by rfl, rfl⟩) (by assumption) ?_
            simp only [Act.put, List.getElem_toArray, List.getElem_cons_succ, List.getElem_cons_zero, List.setIfInBounds_toArray, List.set_cons_zero, List.set_cons_succ]
            refine wpAnyH_take (i := 14) (v := undef) rfl (by kernel_rfl) (by kernel_rfl) (by kernel_rfl) (fun _ _ _ h => h) (Or.inr ⟨by rfl, rfl⟩) (by assumption) ?_
            simp only [Act.put, List.getElem_toArray, List.getElem_cons_succ, List.getElem_cons_zero, List.setIfInBounds_toArray, List.set_cons_zero, List.set_cons_succ]
            refine wpAnyH_take (i := 15) (v := undef) rfl (by kernel_rfl) (by kernel_rfl) (by kernel_rfl) (fun _ _ _ h => h) (Or.inr ⟨by rfl, rfl⟩) (by assumption) ?_
            simp only [Act.put, List.getElem_toArray, List.getElem_cons_succ, List.getElem_cons_zero, List.setIfInBounds_toArray, List.set_cons_zero, List.set_cons_succ]
            refine wpAnyH_take (i := 16) (v := undef) rfl (by kernel_rfl) (by kernel_rfl) (by kernel_rfl) (fun _ _ _ h => h) (Or.inr ⟨by rfl, rfl⟩) (by assumption) ?_
            simp only [Act.put, List.getElem_toArray, List.getElem_cons_succ, List.getElem_cons_zero, List.setIfInBounds_toArray, List.set_cons_zero, List.set_cons_succ]
            refine wpAnyH_take (i := 17) (v := undef) rfl (by kernel_rfl) (by kernel_rfl) (by kernel_rfl) (fun _ _ _ h => h) (Or.inr ⟨by rfl, rfl⟩) (by assumption) ?_
            simp only [Act.put, List.getElem_toArray, List.getElem_cons_succ, List.getElem_cons_zero, List.setIfInBounds_toArray, List.set_cons_zero, List.set_cons_succ]
            refine wpAnyH_take (i := 18) (v := undef) rfl (by kernel_rfl) (by kernel_rfl) (by kernel_rfl) (fun _ _ _ h => h) (Or.inr ⟨by rfl, rfl⟩) (by assumption) ?_
            simp only [Act.put, List.getElem_toArray, List.getElem_cons_succ, List.getElem_cons_zero, List.setIfInBounds_toArray, List.set_cons_zero, List.set_cons_succ]
            refine wpAnyH_take (i := 19) (v := undef) rfl (by kernel_rfl) (by kernel_rfl) (by kernel_rfl) (fun _ _ _ h => h) (Or.inr ⟨by rfl, rfl⟩) (by assumption) ?_
            simp only [Act.put, List.getElem_toArray, List.getElem_cons_succ, List.getElem_cons_zero, List.setIfInBounds_toArray, List.set_cons_zero, List.set_cons_succ]
            refine wpAnyH_take (i := 20) (v := undef) rfl (by kernel_rfl) (by kernel_rfl) (by kernel_rfl) (fun _ _ _ h => h) (Or.inr ⟨by rfl, rfl⟩) (by assumption) ?_
            simp only [Act.put, List.getElem_toArray, List.getElem_cons_succ, List.getElem_cons_zero, List.setIfInBounds_toArray, List.set_cons_zero, List.set_cons_succ]
            refine wpAnyH_take (i := 21) (v := undef) rfl (by kernel_rfl) (by kernel_rfl) (by kernel_rfl) (fun _ _ _ h => h) (Or.inr ⟨by rfl, rfl⟩) (by assumption) ?_
            simp only [Act.put, List.getElem_toArray, List.getElem_cons_succ, List.getElem_cons_zero, List.setIfInBounds_toArray, List.set_cons_zero, List.set_cons_succ]
            refine wpAnyH_take (i := 22) (v := undef) rfl (by kernel_rfl) (by kernel_rfl) (by kernel_rfl) (fun _ _ _ h => h) (Or.inr ⟨by rfl, rfl⟩) (by assumption) ?_
            simp only [Act.put, List.getElem_toArray, List.getElem_cons_succ, List.getElem_cons_zero, List.setIfInBounds_toArray, List.set_cons_zero, List.set_cons_succ]
            refine wpAnyH_take (i := 23) (v := undef) rfl (by kernel_rfl) (by kernel_rfl) (by kernel_rfl) (fun _ _ _ h => h) (Or.inr ⟨by rfl, rfl⟩) (by assumption) ?_
            simp only [Act.put, List.getElem_toArray, List.getElem_cons_succ, List.getElem_cons_zero, List.setIfInBounds_toArray, List.set_cons_zero, List.set_cons_succ]
            refine wpAnyH_take (i := 24) (v := undef) rfl (by kernel_rfl) (by kernel_rfl) (by kernel_rfl) (fun _ _ _ h => h) (Or.inr ⟨by rfl, rfl⟩) (by assumption) ?_
            simp only [Act.put, List.getElem_toArray, List.getElem_cons_succ, List.getElem_cons_zero, List.setIfInBounds_toArray, List.set_cons_zero, List.set_cons_succ]
            refine wpAnyH_take (i := 25) (v := undef) rfl (by kernel_rfl) (by kernel_rfl) (by kernel_rfl) (fun _ _ _ h => h) (Or.inr ⟨by rfl, rfl⟩) (by assumption) ?_
            simp only [Act.put, List.getElem_toArray, List.getElem_cons_succ, List.getElem_cons_zero, List.setIfInBounds_toArray, List.set_cons_zero, List.set_cons_succ]
            refine wpAnyH_take (i := 26) (v := undef) rfl (by kernel_rfl) (by kernel_rfl) (by kernel_rfl) (fun _ _ _ h => h) (Or.inr ⟨by rfl, rfl⟩) (by assumption) ?_
            simp only [Act.put, List.getElem_toArray, List.getElem_cons_succ, List.getElem_cons_zero, List.setIfInBounds_toArray, List.set_cons_zero, List.set_cons_succ]
            refine wpAnyH_take (i := 27) (v := undef) rfl (by kernel_rfl) (by kernel_rfl) (by kernel_rfl) (fun _ _ _ h => h) (Or.inr ⟨by rfl, rfl⟩) (by assumption) ?_
            simp only [Act.put, List.getElem_toArray, List.getElem_cons_succ, List.getElem_cons_zero, List.setIfInBounds_toArray, List.set_cons_zero, List.set_cons_succ]
            refine wpAnyH_take (i := 28) (v := ?_) rfl (by kernel_rfl) (by kernel_rfl) (by kernel_rfl) (fun _ _ _ h => h) (Or.inl ⟨by rfl, ?_⟩) (by assumption) ?_
            rotate_left 1
            · (intro W hW; clear hW; go_simp; try with_reducible rfl)
            simp only [Act.put, List.getElem_toArray, List.getElem_cons_succ, List.getElem_cons_zero, List.setIfInBounds_toArray, List.set_cons_zero, List.set_cons_succ]
            refine wpAnyH_take (i := 29) (v := ?_) rfl (by kernel_rfl) (by kernel_rfl) (by kernel_rfl) (fun _ _ _ h => h) (Or.inl ⟨by rfl, ?_⟩) (by assumption) ?_
            rotate_left 1
            · (intro W hW; clear hW; go_simp; try with_reducible rfl)
            simp only [Act.put, List.getElem_toArray, List.getElem_cons_succ, List.getElem_cons_zero, List.setIfInBounds_toArray, List.set_cons_zero, List.set_cons_succ]
            refine wpAnyH_ready (rs := [30]) (by kernel_rfl) (by simp) ?_
            refine AllReadyH.cons rfl (fun K hK => ?_) AllReadyH.nil
            go_simp
            refine (knows7_any _).mono ?_
            rintro e wk ⟨rfl, hbk⟩
            go_wp2_with fail
            refine hK.out _ _ (hq.trans hbk) (fun hHeld => ?_)
            clear hK K
            try simp only [Act.put, List.getElem_toArray, List.getElem_cons_succ, List.getElem_cons_zero, List.setIfInBounds_toArray, List.set_cons_zero, List.set_cons_succ]
            refine wpAnyH_take (i := 31) (v := ?_) rfl (by kernel_rfl) (by kernel_rfl) (by kernel_rfl) (fun _ _ _ h => h) (Or.inl ⟨by rfl, ?_⟩) (by assumption) ?_
            rotate_left 1
            · (intro W hW; clear hW; go_simp; try with_reducible rfl)
            simp only [Act.put, List.getElem_toArray, List.getElem_cons_succ, List.getElem_cons_zero, List.setIfInBounds_toArray, List.set_cons_zero, List.set_cons_succ]
            refine wpAnyH_take (i := 32) (v := ?_) rfl (by kernel_rfl) (by kernel_rfl) (by kernel_rfl) (fun _ _ _ h => h) (Or.inl ⟨by rfl, ?_⟩) (by assumption) ?_
            rotate_left 1
            · (intro W hW; clear hW; go_simp; try with_reducible rfl)
            simp only [Act.put, List.getElem_toArray, List.getElem_cons_succ, List.getElem_cons_zero, List.setIfInBounds_toArray, List.set_cons_zero, List.set_cons_succ]
            refine wpAnyH_done (by kernel_rfl) ?_ _
            go_wp2
            go_ret
            exact ⟨by first | rfl | simp [*], hs0.trans (hSc3.trans (hWb.trans (hq.trans hbk)))⟩
theorem back_go (x y : Int) (key val : ByteArray) (ver kind ox oy : Int) (okey oval : ByteArray) (cl seq er : Int) (found : Bool) (aval : ByteArray) (aver : Int) (A0 : Option Addr) (n0 c0 : Nat) (z0 : List Int) (w : World) (hr : RowIn .u8 w A0 n0 c0 z0) : Calls Tryd.prog 5 #[.agg #[.int .i64 x, .int .i64 y, .string key, .string val, .int .i64 ver], .agg #[.int .i64 kind, .int .i64 ox, .int .i64 oy, .string okey, .string oval, .int .i64 cl, .int .i64 seq], .agg #[.int .i64 er, .bool found, .string aval, .int .i64 aver], .slice A0 n0 c0] w fun e w' => e = .returned (.bool true) ∧ Below w.heap.size w w' := by
  have hs := seen_of_row hr
  obtain ⟨l, hl, hrd, hc⟩ := rd_of_row hr
  cases h : longB [key, val, okey, oval, aval] with
  | true => exact back_long x y key val ver kind ox oy okey oval cl seq er found aval aver A0 n0 c0 w h
  | false =>
    by_cases h5 : 500 < n0
    · exact back_wide x y key val ver kind ox oy okey oval cl seq er found aval aver A0 n0 c0 w h h5
    · exact back_short x y key val ver kind ox oy okey oval cl seq er found aval aver A0 n0 c0 l w h hrd hl hc (by omega) hs
end Go.Proofs.YthgcmcdacejelaaDoor
