/- point.PutRec, PutOp, PutAns: records, calls and answers as bytes. -/
import Derived.Test.YtbgfjkgpekkciaaDoorK07
import Derived.Test.YtbgfjkgpekkciaaDoorK09
namespace Go.Proofs.YtbgfjkgpekkciaaDoor
open Go.RowKit
set_option linter.unusedVariables false
def ansL (er : Int) (found : Bool) (val : ByteArray) (ver : Int) : List UInt8 := ([er, if found then 1 else 0].flatMap numL ++ [val].flatMap textL) ++ [ver].flatMap numL
theorem bufBytes_any {B b : Nat} {l : List UInt8} {w : World} (h : Buf B b l w) (hn : 0 < l.length) :
    Calls Tryd.prog 60 #[.pointer (some ⟨b, 0, none⟩)] w fun e w' => ∃ A n c, e = .returned (.slice A n c) ∧ Has w' B A n c l ∧ Below w.heap.size w w' := by
  obtain ⟨hB, v, lr, h3, ho, hne⟩ := h
  have c0 : w.cell? ⟨b, 0, none⟩ = some v := h3.c0
  have c1 : w.cell? ⟨b, 1, none⟩ = some (.int .i64 0) := h3.c1
  replace ho : Own w B v l := by
    unfold Own
    rw [bv_length] at ho
    exact ho
  obtain ⟨A, n, c, rfl, hh⟩ := ho.has
  have hlen := hh.len
  obtain ⟨g, rfl, hg1, hg2⟩ := hh.some_ (by omega)
  have hc := hh.cap
  have hc0 : 0 < c := by omega
  have HH := Lib.hid hh
  clear hh ho h3 hne hlen hn
  go_enter Tryd.func60, Tryd.ntmps60
  go_wp2
  go_quiet (fail)
  go_wp2
  go_ret
  exact ⟨_, _, _, rfl, HH.out.drewN _, (Since.refl _).drewN nq⟩
theorem ansB_bd {er : Int} {found : Bool} {val : ByteArray} {ver : Int} (h : ansB er found val ver = true) : (0 ≤ er ∧ er ≤ 255) ∧ val.size ≤ 32 ∧ (0 ≤ ver ∧ ver ≤ 1099511627776) := by
  unfold ansB valB bet at h
  simp only [Bool.and_eq_true, decide_eq_true_iff] at h
  omega
set_option maxRecDepth 100000 in
set_option maxHeartbeats 1600000 in
theorem putAns_yes (er : Int) (found : Bool) (val : ByteArray) (ver : Int) (w : World) (h : ansB er found val ver = true) :
    Calls Tryd.prog 51 #[.agg #[.int .i64 er, .bool found, .string val, .int .i64 ver]] w (SliceNumPost w.heap.size (ansL er found val ver) 0 w) := by
  unfold ansL
  obtain ⟨fl, hfl⟩ : ∃ fl : Int, (if found then 1 else 0) = fl := ⟨_, rfl⟩
  have hfb : 0 ≤ fl ∧ fl ≤ 1 := by cases found <;> simp at hfl <;> omega
  rw [hfl]
  have HFL := Lib.hid hfl
  clear hfl
  obtain ⟨w0, hw0⟩ : ∃ w0, w0 = w.alloc (.cells #[.int .i64 er, .bool found, .string val, .int .i64 ver] 35) := ⟨_, rfl⟩
  have hs0 : Since w w0 := by rw [hw0]; exact (Since.refl w).alloc _
  have wh0 : Whole w0 (w.heap.size) 35 #[.int .i64 er, .bool found, .string val, .int .i64 ver] := by rw [hw0]; exact Whole.new w _ _
  have HW := Lib.hid hw0
  have c0_0 := box_cell wh0 0 (.int .i64 er) rfl
  have c0_1 := box_cell wh0 1 (.bool found) rfl
  have c0_2 := box_cell wh0 2 (.string val) rfl
  have c0_3 := box_cell wh0 3 (.int .i64 ver) rfl
  have hsr := Since.refl w0
  have hsd := hsr.drew
  clear hw0 wh0
  have HR := Lib.hid (rightAns_any er found val ver w0)
  rw [h] at HR
  have HB := Lib.hid (And.intro hfb (ansB_bd h))
  clear h
  go_enter Tryd.func51, Tryd.ntmps51
  go_wp2_with fail
  rw [← HW.out]
  refine HR.out.mono ?_
  rintro e w1 ⟨rfl, hb1⟩
  have hS1 : Since w0 w1 := hb1
  have hS1a := hS1.alloc (.cells #[.slice none 0 0, .int .i64 0, .int .i8 0] 107)
  clear hb1
  go_wp2_with fail
  obtain ⟨wq, hwq⟩ : ∃ wq, wq = (w1.alloc (.cells #[.slice none 0 0, .int .i64 0, .int .i8 0] 107)).drew := ⟨_, rfl⟩
  have hfr : Buf w1.heap.size w1.heap.size [] wq := by rw [hwq]; exact LibA.IsBuffer.drew (Buf.fresh w1)
  have hb1q : Below w1.heap.size w1 wq := by rw [hwq]; exact Below.drew ((Below.refl _ _).alloc (Nat.le_refl _) _)
  have HZ1 : Hid (∀ z ∈ [er, fl], 0 ≤ z ∧ z ≤ 9007199254740992) := by
    unfold Hid
    have := HB.out
    simp only [List.mem_cons, List.not_mem_nil, or_false]
    rintro z (rfl | rfl) <;> omega
  refine wp_region_held_drew (S := fun W => Since w0 W) (by kernel_rfl) hS1a.drew (fun hHeld => ?_)
  rw [← hwq] at hHeld ⊢
  clear hwq
  refine wpAnyH_take (i := 0) (v := ?_) rfl (by kernel_rfl) (by kernel_rfl) (by kernel_rfl) (fun _ _ _ h => h) (Or.inl ⟨by rfl, ?_⟩) (by assumption) ?_
  rotate_left 1
  · (intro W hW; clear hW; go_simp; try with_reducible rfl)
  simp only [Act.put, List.getElem_toArray, List.getElem_cons_zero, List.setIfInBounds_toArray, List.set_cons_zero, List.set_cons_succ]
  refine wpAnyH_take (i := 1) (v := ?_) rfl (by kernel_rfl) (by kernel_rfl) (by kernel_rfl) (fun _ _ _ h => h) (Or.inl ⟨by rfl, ?_⟩) (by assumption) ?_
  rotate_left 1
  · (intro W hW; skip; go_simp; try with_reducible rfl)
  simp only [Act.put, List.getElem_toArray, List.getElem_cons_succ, List.getElem_cons_zero, List.setIfInBounds_toArray, List.set_cons_zero, List.set_cons_succ]
  refine wpAnyH_take (i := 2) (v := ?_) rfl (by kernel_rfl) (by kernel_rfl) (by kernel_rfl) (fun _ _ _ h => h) (Or.inl ⟨by rfl, ?_⟩) (by assumption) ?_
  rotate_left 1
  · (intro W hW; clear hW; go_simp; try with_reducible rfl)
  simp only [Act.put, List.getElem_toArray, List.getElem_cons_succ, List.getElem_cons_zero, List.setIfInBounds_toArray, List.set_cons_zero, List.set_cons_succ]
  refine wpAnyH_take (i := 3) (v := ?_) rfl (by kernel_rfl) (by kernel_rfl) (by kernel_rfl) (fun _ _ _ h => h) (Or.inl ⟨by rfl, ?_⟩) (by assumption) ?_
  rotate_left 1
  · (intro W hW; skip; go_simp; try with_reducible rfl)
  simp only [Act.put, List.getElem_toArray, List.getElem_cons_succ, List.getElem_cons_zero, List.setIfInBounds_toArray, List.set_cons_zero, List.set_cons_succ]
  refine wpAnyH_ready (rs := [4]) (by kernel_rfl) (by simp) ?_
  refine AllReadyH.cons rfl (fun K hK => ?_) AllReadyH.nil
  go_simp
  refine (flag_at HFL.out _).mono ?_
  rintro e w9 ⟨rfl, rfl⟩
  go_wp2_with fail
  refine hK.out _ _ (by assumption) (fun hHeld => ?_)
  clear hK K
  try simp only [Act.put, List.getElem_toArray, List.getElem_cons_succ, List.getElem_cons_zero, List.setIfInBounds_toArray, List.set_cons_zero, List.set_cons_succ]
  refine wpAnyH_ready (rs := [5]) (by kernel_rfl) (by simp) ?_
  refine AllReadyH.cons rfl (fun K hK => ?_) AllReadyH.nil
  go_simp
  skip
  refine hK.out _ _ (Since.alloc (by assumption) _) (fun hHeld => ?_)
  clear hK K
  try simp only [Act.put, List.getElem_toArray, List.getElem_cons_succ, List.getElem_cons_zero, List.setIfInBounds_toArray, List.set_cons_zero, List.set_cons_succ]
  refine wpAnyH_ready (rs := [6]) (by kernel_rfl) (by simp) ?_
  refine AllReadyH.cons rfl (fun K hK => ?_) AllReadyH.nil
  go_simp
  refine (nums_any (B := w1.heap.size) (b := w1.heap.size) (l := []) (zs := [er, fl]) (hfr.below ((Below.refl _ _).alloc (Nat.le_refl _) _)) (by have := hb1q.size; simp; omega) (Whole.new wq _ _) rfl (by have := hfr.lt; omega) 2 2 rfl HZ1.out (by simp)).mono ?_
  rintro e w2 ⟨rfl, hbf2, hbl2, hok2⟩
  go_wp2_with fail
  refine hK.out _ _ (hS1.trans (hb1q.trans (((Below.refl _ _).alloc hb1q.size _).trans hbl2))) (fun hHeld => ?_)
  clear hK K
  try simp only [Act.put, List.getElem_toArray, List.getElem_cons_succ, List.getElem_cons_zero, List.setIfInBounds_toArray, List.set_cons_zero, List.set_cons_succ]
  refine wpAnyH_done (by kernel_rfl) ?_ _
  rw [List.nil_append] at hbf2
  have hb02 : Below w1.heap.size w1 w2 := hb1q.trans (((Below.refl _ _).alloc hb1q.size _).trans hbl2)
  have hsz2 := hb02.size
  have hS2 : Since w0 w2 := hS1.trans hb02
  have HL1 := Lib.hid (flat_len numL 9 [er, fl] fun x hx => numL_len x)
  clear hbl2 hok2 hS1a
  go_wp2_with fail
  refine (texts_any (B := w1.heap.size) (b := w1.heap.size) (zs := [val]) (hbf2.below ((Below.refl _ _).alloc (Nat.le_refl _) _)) (by simp; omega) (Whole.new w2 _ _) rfl (by have := hbf2.lt; omega) 1 1 rfl (by have := HB.out; simp only [List.mem_cons, List.not_mem_nil, or_false]; rintro z rfl <;> omega) (by have := HL1.out; simp at this ⊢; omega)).mono ?_
  rintro e w3 ⟨rfl, hbf3, hbl3, hok3⟩
  have hb23 : Below w1.heap.size w2 w3 := ((Below.refl _ _).alloc hsz2 _).trans hbl3
  have hb03 := hb02.trans hb23
  have hsz3 := hb03.size
  have hS3 : Since w0 w3 := hS1.trans hb03
  have HL2 := Lib.hid (flat_len textL 1009 [val] fun x hx => textL_len (by have := HB.out; simp only [List.mem_cons, List.not_mem_nil, or_false] at hx; rcases hx with rfl <;> omega))
  clear hbl3 hok3
  go_wp2_with fail
  refine (nums_any (B := w1.heap.size) (b := w1.heap.size) (zs := [ver]) (hbf3.below ((Below.refl _ _).alloc (Nat.le_refl _) _)) (by simp; omega) (Whole.new w3 _ _) rfl (by have := hbf3.lt; omega) 1 1 rfl (by have := HB.out; simp only [List.mem_cons, List.not_mem_nil, or_false]; rintro z rfl <;> omega) (by have := HL1.out; have := HL2.out; simp at *; omega)).mono ?_
  rintro e w4 ⟨rfl, hbf4, hbl4, hok4⟩
  have hb34 : Below w1.heap.size w3 w4 := ((Below.refl _ _).alloc hsz3 _).trans hbl4
  have hb04 := hb03.trans hb34
  have hS4 : Since w0 w4 := hS1.trans hb04
  have hpos : 0 < (([] : List UInt8) ++ [er, fl].flatMap numL ++ [val].flatMap textL ++ [ver].flatMap numL).length := by
    have := numL_pos (z := ver) (by have := HB.out; omega)
    simp
    omega
  clear hbl4 hok4
  go_wp2_with fail
  refine (bufBytes_any hbf4 (by simpa using hpos)).mono ?_
  rintro e w5 ⟨A, n, c, rfl, hh, hb5⟩
  go_wp2
  go_ret2
  exact ⟨A, n, c, rfl, { hh with own := hh.own.lower (Nat.le_trans hs0.size_ hS1.size_) }, hs0.trans (hS4.trans hb5)⟩
end Go.Proofs.YtbgfjkgpekkciaaDoor
