/- point.PutRec, PutOp, PutAns: records, calls and answers as bytes. -/
import Derived.Test.YtimmnmidhjbanaaDoorK05
import Derived.Test.YtimmnmidhjbanaaDoorK24
namespace Go.Proofs.YtimmnmidhjbanaaDoor
open Go.RowKit
set_option linter.unusedVariables false
def opL (kind x y : Int) (key val : ByteArray) (cl seq : Int) : List UInt8 := ([kind, x, y].flatMap numL ++ [key, val].flatMap textL) ++ [cl, seq].flatMap numL
theorem bufBytes_any {B b : Nat} {l : List UInt8} {w : World} (h : Buf B b l w) (hn : 0 < l.length) :
    Calls Tryd.prog 87 #[.pointer (some ⟨b, 0, none⟩)] w fun e w' => ∃ A n c, e = .returned (.slice A n c) ∧ Has w' B A n c l ∧ Below w.heap.size w w' := by
  obtain ⟨hB, v, lr, h3, ho, hne⟩ := h
  have c0 : w.cell? ⟨b, 0, none⟩ = some v := h3.c0
  have c1 : w.cell? ⟨b, 1, none⟩ = some (.int .i64 0) := h3.c1
  replace ho : Own w B v l := by
    unfold Own
    rw [bv_length] at ho
    exact ho
  obtain ⟨A, n, c, rfl, hh⟩ := ho.has
  have hlen := hh.len
  obtain ⟨g, rfl, hg1, hg2⟩ := hh.some_ (by omega)
  have hc := hh.cap
  have hc0 : 0 < c := by omega
  have HH := Lib.hid hh
  clear hh ho h3 hne hlen hn
  go_enter Tryd.func87, Tryd.ntmps87
  go_wp2
  go_quiet (fail)
  go_wp2
  go_ret
  exact ⟨_, _, _, rfl, HH.out.drewN _, (Since.refl _).drewN nq⟩
theorem opB_bd {kind x y : Int} {key val : ByteArray} {cl seq : Int} (h : opB kind x y key val cl seq = true) : (1 ≤ kind ∧ kind ≤ 3) ∧ (0 ≤ x ∧ x < 65536) ∧ (0 ≤ y ∧ y < 65536) ∧ (1 ≤ key.size ∧ key.size ≤ 16) ∧ val.size ≤ 32 ∧ (0 ≤ cl ∧ cl ≤ 7) ∧ (1 ≤ seq ∧ seq ≤ 1099511627776) := by
  unfold opB keyB valB bet at h
  simp only [Bool.and_eq_true, decide_eq_true_iff, hasB_iff, side16] at h
  omega
set_option maxRecDepth 100000 in
set_option maxHeartbeats 1600000 in
theorem putOp_yes (kind x y : Int) (key val : ByteArray) (cl seq : Int) (w : World) (h : opB kind x y key val cl seq = true) :
    Calls Tryd.prog 69 #[.agg #[.int .i64 kind, .int .i64 x, .int .i64 y, .string key, .string val, .int .i64 cl, .int .i64 seq]] w (SliceNumPost w.heap.size (opL kind x y key val cl seq) 0 w) := by
  obtain ⟨w0, hw0⟩ : ∃ w0, w0 = w.alloc (.cells #[.int .i64 kind, .int .i64 x, .int .i64 y, .string key, .string val, .int .i64 cl, .int .i64 seq] 35) := ⟨_, rfl⟩
  have hs0 : Since w w0 := by rw [hw0]; exact (Since.refl w).alloc _
  have wh0 : Whole w0 (w.heap.size) 35 #[.int .i64 kind, .int .i64 x, .int .i64 y, .string key, .string val, .int .i64 cl, .int .i64 seq] := by rw [hw0]; exact Whole.new w _ _
  have HW := Lib.hid hw0
  have c0_0 := box_cell wh0 0 (.int .i64 kind) rfl
  have c0_1 := box_cell wh0 1 (.int .i64 x) rfl
  have c0_2 := box_cell wh0 2 (.int .i64 y) rfl
  have c0_3 := box_cell wh0 3 (.string key) rfl
  have c0_4 := box_cell wh0 4 (.string val) rfl
  have c0_5 := box_cell wh0 5 (.int .i64 cl) rfl
  have c0_6 := box_cell wh0 6 (.int .i64 seq) rfl
  have hsr := Since.refl w0
  have hsd := hsr.drew
  clear hw0 wh0
  have HR := Lib.hid (rightOp_any kind x y key val cl seq w0)
  rw [h] at HR
  have HB := Lib.hid (opB_bd h)
  clear h
  go_enter Tryd.func69, Tryd.ntmps69
  go_wp2_with fail
  rw [← HW.out]
  refine HR.out.mono ?_
  rintro e w1 ⟨rfl, hb1⟩
  have hS1 : Since w0 w1 := hb1
  have hS1a := hS1.alloc (.cells #[.slice none 0 0, .int .i64 0, .int .i8 0] 116)
  clear hb1
  go_wp2_with fail
  refine (nums_any (B := w1.heap.size) (b := w1.heap.size) (l := []) (zs := [kind, x, y]) (((Buf.fresh w1).below ((Below.refl _ _).alloc (Nat.le_refl _) _))) (by simp; omega) ((Whole.new (w1.alloc _) _ _).at_ (by simp)) rfl (by omega) 3 3 rfl (by have := HB.out; simp only [List.mem_cons, List.not_mem_nil, or_false]; rintro z (rfl | rfl | rfl) <;> omega) (by simp)).mono ?_
  rintro e w2 ⟨rfl, hbf2, hbl2, hok2⟩
  rw [List.nil_append] at hbf2
  have hb02 : Below w1.heap.size w1 w2 := (((Below.refl _ _).alloc (Nat.le_refl _) _).alloc (by simp) _).trans hbl2
  have hsz2 := hb02.size
  have hS2 : Since w0 w2 := hS1.trans hb02
  have HL1 := Lib.hid (flat_len numL 9 [kind, x, y] fun x hx => numL_len x)
  clear hbl2 hok2 hS1a
  go_wp2_with fail
  refine (texts_any (B := w1.heap.size) (b := w1.heap.size) (zs := [key, val]) (hbf2.below ((Below.refl _ _).alloc (Nat.le_refl _) _)) (by simp; omega) (Whole.new w2 _ _) rfl (by have := hbf2.lt; omega) 2 2 rfl (by have := HB.out; simp only [List.mem_cons, List.not_mem_nil, or_false]; rintro z (rfl | rfl) <;> omega) (by have := HL1.out; simp at this ⊢; omega)).mono ?_
  rintro e w3 ⟨rfl, hbf3, hbl3, hok3⟩
  have hb23 : Below w1.heap.size w2 w3 := ((Below.refl _ _).alloc hsz2 _).trans hbl3
  have hb03 := hb02.trans hb23
  have hsz3 := hb03.size
  have hS3 : Since w0 w3 := hS1.trans hb03
  have HL2 := Lib.hid (flat_len textL 1009 [key, val] fun x hx => textL_len (by have := HB.out; simp only [List.mem_cons, List.not_mem_nil, or_false] at hx; rcases hx with rfl | rfl <;> omega))
  clear hbl3 hok3
  go_wp2_with fail
  refine (nums_any (B := w1.heap.size) (b := w1.heap.size) (zs := [cl, seq]) (hbf3.below ((Below.refl _ _).alloc (Nat.le_refl _) _)) (by simp; omega) (Whole.new w3 _ _) rfl (by have := hbf3.lt; omega) 2 2 rfl (by have := HB.out; simp only [List.mem_cons, List.not_mem_nil, or_false]; rintro z (rfl | rfl) <;> omega) (by have := HL1.out; have := HL2.out; simp at *; omega)).mono ?_
  rintro e w4 ⟨rfl, hbf4, hbl4, hok4⟩
  have hb34 : Below w1.heap.size w3 w4 := ((Below.refl _ _).alloc hsz3 _).trans hbl4
  have hb04 := hb03.trans hb34
  have hS4 : Since w0 w4 := hS1.trans hb04
  have hpos : 0 < (([] : List UInt8) ++ [kind, x, y].flatMap numL ++ [key, val].flatMap textL ++ [cl, seq].flatMap numL).length := by
    have := numL_pos (z := cl) (by have := HB.out; omega)
    simp
    omega
  clear hbl4 hok4
  go_wp2_with fail
  refine (bufBytes_any hbf4 (by simpa using hpos)).mono ?_
  rintro e w5 ⟨A, n, c, rfl, hh, hb5⟩
  go_wp2
  go_ret2
  exact ⟨A, n, c, rfl, { hh with own := hh.own.lower (Nat.le_trans hs0.size_ hS1.size_) }, hs0.trans (hS4.trans hb5)⟩
end Go.Proofs.YtimmnmidhjbanaaDoor
