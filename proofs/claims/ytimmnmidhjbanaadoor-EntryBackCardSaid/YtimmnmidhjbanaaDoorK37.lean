/- entry.taken, Take. -/
import Derived.Test.YtimmnmidhjbanaaDoorK36
namespace Go.Proofs.YtimmnmidhjbanaaDoor
open Go.RowKit
set_option linter.unusedVariables false
set_option linter.unusedSimpArgs false
section
variable {ops : Array Oper} {o : Oper} {a : Act} {W : World} {K : Act → World → Prop} {Q : Exit → Act → World → Prop} {E : Prop}
theorem step_store_wh (hgd : o.guard = none) (ty : TypeId) (x y : Operand) (ho : o.op = .store ty x y) {g : Nat} {old cells : Array Value} {t : TypeId} (hx : a.eval x = .pointer (some ⟨g, 0, none⟩)) (hy : a.eval y = .agg cells)
    (hg : Whole W g t old) (hi : (Tryd.prog.info? ty).map (·.size) = some cells.size) (hsz : old.size = cells.size) (h1 : cells.all (·.oneCell') = true)
    (h : ∀ W', Whole W' g t cells → Off (fun b => b = g) W W' → K (a.put o.dst undef) W') : if Region.wanted o (yielded ops a.tmps) = true then Oper.wp Tryd.prog o a W K Q else E := by
  have hw : Region.wanted o (yielded ops a.tmps) = true := by simp [Region.wanted, hgd]
  rw [if_pos hw]
  exact wp_store_is ty x y ho hx hy (storeAt_whole ty t g old cells hg hi hsz h1) (h _ (whole_setRow hg) (off_setRow1 cells))
end
section
variable {w : World} {base g : Nat} {s t : RSt} {kind ok x y : Int} {key val : ByteArray} {cl seq nd ep bx : Int} {ca : Option Addr} {cn cc : Nat} {l : List Int}
set_option maxRecDepth 100000 in
set_option maxHeartbeats 6400000 in
theorem takenE_yes (h : RdS w base g s) {fl : Bool} (ht : failS fl s = t) (h0 : t.2 = 0) :
    Calls Tryd.prog 59 #[.pointer (some ⟨g, 0, none⟩), .agg #[.int .i64 kind, .int .i64 ok, .int .i64 x, .int .i64 y, .string key, .string val, .int .i64 cl, .int .i64 seq, .int .i64 nd, .int .i64 ep, .int .i64 bx, .slice ca cn cc], .bool fl] w fun r w' => r = .returned (.agg #[.int .i64 kind, .int .i64 ok, .int .i64 x, .int .i64 y, .string key, .string val, .int .i64 cl, .int .i64 seq, .int .i64 nd, .int .i64 ep, .int .i64 bx, .slice ca cn cc]) ∧ RdS w' base g t ∧ Off (fun b => b = g) w w' := by
  unfold failS at ht
  have hg := h.lt
  cases fl with
  | false =>
    rw [if_neg (by simp)] at ht
    subst ht
    exact absurd h0 (by show failR s.2 21 ≠ 0; unfold failR; split <;> omega)
  | true =>
    rw [if_pos rfl] at ht
    subst ht
    obtain ⟨lb, er⟩ := s
    dsimp only at h0
    subst h0
    obtain ⟨w0, hw0⟩ : ∃ w0, w0 = (w.alloc (.cells #[.int .i64 kind, .int .i64 ok, .int .i64 x, .int .i64 y, .string key, .string val, .int .i64 cl, .int .i64 seq, .int .i64 nd, .int .i64 ep, .int .i64 bx, .slice ca cn cc] 37)).alloc (.cells #[.int .i64 0, .int .i64 0, .int .i64 0, .int .i64 0, .string ⟨#[]⟩, .string ⟨#[]⟩, .int .i64 0, .int .i64 0, .int .i64 0, .int .i64 0, .int .i64 0, .slice none 0 0] 37) := ⟨_, rfl⟩
    have hs0 : Since w w0 := by rw [hw0]; exact ((Since.refl w).alloc _).alloc _
    have wh0 : Whole w0 (w.heap.size) 37 #[.int .i64 kind, .int .i64 ok, .int .i64 x, .int .i64 y, .string key, .string val, .int .i64 cl, .int .i64 seq, .int .i64 nd, .int .i64 ep, .int .i64 bx, .slice ca cn cc] := by rw [hw0]; exact (Whole.new w _ _).alloc _
    have wh1 : Whole w0 (w.heap.size + 1) 37 #[.int .i64 0, .int .i64 0, .int .i64 0, .int .i64 0, .string ⟨#[]⟩, .string ⟨#[]⟩, .int .i64 0, .int .i64 0, .int .i64 0, .int .i64 0, .int .i64 0, .slice none 0 0] := by rw [hw0]; exact (Whole.new (w.alloc _) _ _).at_ (by simp)
    have HW := Lib.hid hw0
    have c0_0 := box_cell wh0 0 (.int .i64 kind) rfl
    have c0_1 := box_cell wh0 1 (.int .i64 ok) rfl
    have c0_2 := box_cell wh0 2 (.int .i64 x) rfl
    have c0_3 := box_cell wh0 3 (.int .i64 y) rfl
    have c0_4 := box_cell wh0 4 (.string key) rfl
    have c0_5 := box_cell wh0 5 (.string val) rfl
    have c0_6 := box_cell wh0 6 (.int .i64 cl) rfl
    have c0_7 := box_cell wh0 7 (.int .i64 seq) rfl
    have c0_8 := box_cell wh0 8 (.int .i64 nd) rfl
    have c0_9 := box_cell wh0 9 (.int .i64 ep) rfl
    have c0_10 := box_cell wh0 10 (.int .i64 bx) rfl
    have c0_11 := box_cell wh0 11 (.slice ca cn cc) rfl
    have c1_0 := box_cell wh1 0 (.int .i64 0) rfl
    have c1_1 := box_cell wh1 1 (.int .i64 0) rfl
    have c1_2 := box_cell wh1 2 (.int .i64 0) rfl
    have c1_3 := box_cell wh1 3 (.int .i64 0) rfl
    have c1_4 := box_cell wh1 4 (.string ⟨#[]⟩) rfl
    have c1_5 := box_cell wh1 5 (.string ⟨#[]⟩) rfl
    have c1_6 := box_cell wh1 6 (.int .i64 0) rfl
    have c1_7 := box_cell wh1 7 (.int .i64 0) rfl
    have c1_8 := box_cell wh1 8 (.int .i64 0) rfl
    have c1_9 := box_cell wh1 9 (.int .i64 0) rfl
    have c1_10 := box_cell wh1 10 (.int .i64 0) rfl
    have c1_11 := box_cell wh1 11 (.slice none 0 0) rfl
    have hsr := Since.refl w0
    have hsd := hsr.drew
    clear hw0
    have HRR := Lib.hid (h.since hs0)
    have HWH := Lib.hid wh1
    clear h wh0 wh1
    go_enter Tryd.func59, Tryd.ntmps59
    go_wp2_with fail
    rw [← HW.out]
    go_wp2_with (first | (go_at_call 33; (with_reducible refine (errP HRR.out).mono ?_); rintro e w' ⟨rfl, rfl⟩) | (refine wpList_store_row rfl 37 _ _ rfl rfl rfl (HWH.out) (by kernel_rfl) rfl (by kernel_rfl) ?_; intro w9 hwh9 hoff9))
    refine bodyPost_ret (results_cell_row rfl _ _ (w.heap.size + 1) 37 _ (0, 0) _ rfl hwh9 Tryd.underlying37 rfl (by kernel_rfl)) rfl ⟨rfl,  HRR.out.off hoff9 (fun b e => by omega), (hs0.off _).trans hoff9 (fun b hlt e => by omega)⟩
set_option maxRecDepth 100000 in
set_option maxHeartbeats 6400000 in
theorem takenE_no (h : RdS w base g s) {fl : Bool} (ht : failS fl s = t) (h0 : t.2 ≠ 0) :
    Calls Tryd.prog 59 #[.pointer (some ⟨g, 0, none⟩), .agg #[.int .i64 kind, .int .i64 ok, .int .i64 x, .int .i64 y, .string key, .string val, .int .i64 cl, .int .i64 seq, .int .i64 nd, .int .i64 ep, .int .i64 bx, .slice ca cn cc], .bool fl] w fun r w' => r = .returned (.agg #[.int .i64 0, .int .i64 0, .int .i64 0, .int .i64 0, .string ⟨#[]⟩, .string ⟨#[]⟩, .int .i64 0, .int .i64 0, .int .i64 0, .int .i64 0, .int .i64 0, .slice none 0 0]) ∧ RdS w' base g t ∧ Off (fun b => b = g) w w' := by
  unfold failS at ht
  have hg := h.lt
  cases fl with
  | true =>
    rw [if_pos rfl] at ht
    subst ht
    obtain ⟨lb, er⟩ := s
    dsimp only at h0
    have heb2 : (er != 0) = true := by rw [bne_iff_ne]; exact h0
    obtain ⟨w0, hw0⟩ : ∃ w0, w0 = (w.alloc (.cells #[.int .i64 kind, .int .i64 ok, .int .i64 x, .int .i64 y, .string key, .string val, .int .i64 cl, .int .i64 seq, .int .i64 nd, .int .i64 ep, .int .i64 bx, .slice ca cn cc] 37)).alloc (.cells #[.int .i64 0, .int .i64 0, .int .i64 0, .int .i64 0, .string ⟨#[]⟩, .string ⟨#[]⟩, .int .i64 0, .int .i64 0, .int .i64 0, .int .i64 0, .int .i64 0, .slice none 0 0] 37) := ⟨_, rfl⟩
    have hs0 : Since w w0 := by rw [hw0]; exact ((Since.refl w).alloc _).alloc _
    have wh0 : Whole w0 (w.heap.size) 37 #[.int .i64 kind, .int .i64 ok, .int .i64 x, .int .i64 y, .string key, .string val, .int .i64 cl, .int .i64 seq, .int .i64 nd, .int .i64 ep, .int .i64 bx, .slice ca cn cc] := by rw [hw0]; exact (Whole.new w _ _).alloc _
    have wh1 : Whole w0 (w.heap.size + 1) 37 #[.int .i64 0, .int .i64 0, .int .i64 0, .int .i64 0, .string ⟨#[]⟩, .string ⟨#[]⟩, .int .i64 0, .int .i64 0, .int .i64 0, .int .i64 0, .int .i64 0, .slice none 0 0] := by rw [hw0]; exact (Whole.new (w.alloc _) _ _).at_ (by simp)
    have HW := Lib.hid hw0
    have c0_0 := box_cell wh0 0 (.int .i64 kind) rfl
    have c0_1 := box_cell wh0 1 (.int .i64 ok) rfl
    have c0_2 := box_cell wh0 2 (.int .i64 x) rfl
    have c0_3 := box_cell wh0 3 (.int .i64 y) rfl
    have c0_4 := box_cell wh0 4 (.string key) rfl
    have c0_5 := box_cell wh0 5 (.string val) rfl
    have c0_6 := box_cell wh0 6 (.int .i64 cl) rfl
    have c0_7 := box_cell wh0 7 (.int .i64 seq) rfl
    have c0_8 := box_cell wh0 8 (.int .i64 nd) rfl
    have c0_9 := box_cell wh0 9 (.int .i64 ep) rfl
    have c0_10 := box_cell wh0 10 (.int .i64 bx) rfl
    have c0_11 := box_cell wh0 11 (.slice ca cn cc) rfl
    have c1_0 := box_cell wh1 0 (.int .i64 0) rfl
    have c1_1 := box_cell wh1 1 (.int .i64 0) rfl
    have c1_2 := box_cell wh1 2 (.int .i64 0) rfl
    have c1_3 := box_cell wh1 3 (.int .i64 0) rfl
    have c1_4 := box_cell wh1 4 (.string ⟨#[]⟩) rfl
    have c1_5 := box_cell wh1 5 (.string ⟨#[]⟩) rfl
    have c1_6 := box_cell wh1 6 (.int .i64 0) rfl
    have c1_7 := box_cell wh1 7 (.int .i64 0) rfl
    have c1_8 := box_cell wh1 8 (.int .i64 0) rfl
    have c1_9 := box_cell wh1 9 (.int .i64 0) rfl
    have c1_10 := box_cell wh1 10 (.int .i64 0) rfl
    have c1_11 := box_cell wh1 11 (.slice none 0 0) rfl
    have hsr := Since.refl w0
    have hsd := hsr.drew
    clear hw0
    have HRR := Lib.hid (h.since hs0)
    have HWH := Lib.hid wh1
    clear h wh0 wh1 h0
    go_enter Tryd.func59, Tryd.ntmps59
    go_wp2_with fail
    rw [← HW.out]
    go_wp2_with (first | (go_at_call 33; (with_reducible refine (errP HRR.out).mono ?_); rintro e w' ⟨rfl, rfl⟩) | (refine wpList_store_row rfl 37 _ _ rfl rfl rfl (HWH.out.alloc _) (by kernel_rfl) rfl (by kernel_rfl) ?_; intro w9 hwh9 hoff9))
    refine bodyPost_ret (results_cell_row rfl _ _ (w.heap.size + 1) 37 _ (0, 0) _ rfl hwh9 Tryd.underlying37 rfl (by kernel_rfl)) rfl ⟨rfl,  (HRR.out.since ((Since.refl w0).alloc _)).off hoff9 (fun b e => by omega), ((hs0.alloc _).off _).trans hoff9 (fun b hlt e => by omega)⟩
  | false =>
    rw [if_neg (by simp)] at ht
    subst ht
    have heb2 : (failR s.2 21 != 0) = true := by rw [bne_iff_ne]; exact h0
    obtain ⟨w0, hw0⟩ : ∃ w0, w0 = (w.alloc (.cells #[.int .i64 kind, .int .i64 ok, .int .i64 x, .int .i64 y, .string key, .string val, .int .i64 cl, .int .i64 seq, .int .i64 nd, .int .i64 ep, .int .i64 bx, .slice ca cn cc] 37)).alloc (.cells #[.int .i64 0, .int .i64 0, .int .i64 0, .int .i64 0, .string ⟨#[]⟩, .string ⟨#[]⟩, .int .i64 0, .int .i64 0, .int .i64 0, .int .i64 0, .int .i64 0, .slice none 0 0] 37) := ⟨_, rfl⟩
    have hs0 : Since w w0 := by rw [hw0]; exact ((Since.refl w).alloc _).alloc _
    have wh0 : Whole w0 (w.heap.size) 37 #[.int .i64 kind, .int .i64 ok, .int .i64 x, .int .i64 y, .string key, .string val, .int .i64 cl, .int .i64 seq, .int .i64 nd, .int .i64 ep, .int .i64 bx, .slice ca cn cc] := by rw [hw0]; exact (Whole.new w _ _).alloc _
    have wh1 : Whole w0 (w.heap.size + 1) 37 #[.int .i64 0, .int .i64 0, .int .i64 0, .int .i64 0, .string ⟨#[]⟩, .string ⟨#[]⟩, .int .i64 0, .int .i64 0, .int .i64 0, .int .i64 0, .int .i64 0, .slice none 0 0] := by rw [hw0]; exact (Whole.new (w.alloc _) _ _).at_ (by simp)
    have HW := Lib.hid hw0
    have c0_0 := box_cell wh0 0 (.int .i64 kind) rfl
    have c0_1 := box_cell wh0 1 (.int .i64 ok) rfl
    have c0_2 := box_cell wh0 2 (.int .i64 x) rfl
    have c0_3 := box_cell wh0 3 (.int .i64 y) rfl
    have c0_4 := box_cell wh0 4 (.string key) rfl
    have c0_5 := box_cell wh0 5 (.string val) rfl
    have c0_6 := box_cell wh0 6 (.int .i64 cl) rfl
    have c0_7 := box_cell wh0 7 (.int .i64 seq) rfl
    have c0_8 := box_cell wh0 8 (.int .i64 nd) rfl
    have c0_9 := box_cell wh0 9 (.int .i64 ep) rfl
    have c0_10 := box_cell wh0 10 (.int .i64 bx) rfl
    have c0_11 := box_cell wh0 11 (.slice ca cn cc) rfl
    have c1_0 := box_cell wh1 0 (.int .i64 0) rfl
    have c1_1 := box_cell wh1 1 (.int .i64 0) rfl
    have c1_2 := box_cell wh1 2 (.int .i64 0) rfl
    have c1_3 := box_cell wh1 3 (.int .i64 0) rfl
    have c1_4 := box_cell wh1 4 (.string ⟨#[]⟩) rfl
    have c1_5 := box_cell wh1 5 (.string ⟨#[]⟩) rfl
    have c1_6 := box_cell wh1 6 (.int .i64 0) rfl
    have c1_7 := box_cell wh1 7 (.int .i64 0) rfl
    have c1_8 := box_cell wh1 8 (.int .i64 0) rfl
    have c1_9 := box_cell wh1 9 (.int .i64 0) rfl
    have c1_10 := box_cell wh1 10 (.int .i64 0) rfl
    have c1_11 := box_cell wh1 11 (.slice none 0 0) rfl
    have hsr := Since.refl w0
    have hsd := hsr.drew
    clear hw0
    have HF := Lib.hid (failP (h.since hs0))
    have HWH := Lib.hid wh1
    generalize failR s.2 21 = er at heb2 HF
    clear h wh0 wh1 h0
    go_enter Tryd.func59, Tryd.ntmps59
    go_wp2_with fail
    rw [← HW.out]
    go_wp2_with fail
    refine HF.out.mono ?_
    rintro e w1 ⟨rfl, hR1, ho1⟩
    have HRR := Lib.hid hR1
    have HW1 := Lib.hid (ho1.whole HWH.out (by omega))
    go_wp2_with (first | (go_at_call 33; (with_reducible refine (errP HRR.out).mono ?_); rintro e w' ⟨rfl, rfl⟩) | (refine wpList_store_row rfl 37 _ _ rfl rfl rfl (HW1.out.alloc _) (by kernel_rfl) rfl (by kernel_rfl) ?_; intro w9 hwh9 hoff9))
    refine bodyPost_ret (results_cell_row rfl _ _ (w.heap.size + 1) 37 _ (0, 0) _ rfl hwh9 Tryd.underlying37 rfl (by kernel_rfl)) rfl ⟨rfl,  (HRR.out.since ((Since.refl w1).alloc _)).off hoff9 (fun b e => by omega), (((hs0.off _).trans ho1 (fun _ _ z => z)).alloc _).trans hoff9 (fun b hlt e => by omega)⟩
end
end Go.Proofs.YtimmnmidhjbanaaDoor
