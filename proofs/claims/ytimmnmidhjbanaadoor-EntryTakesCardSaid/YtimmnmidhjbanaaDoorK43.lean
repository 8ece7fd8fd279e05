/- gleberef11.Take. -/
import Derived.Test.YtimmnmidhjbanaaDoorK21
import Derived.Test.YtimmnmidhjbanaaDoorK33
import Derived.Test.YtimmnmidhjbanaaDoorK39
import Derived.Test.YtimmnmidhjbanaaDoorK42
namespace Go.Proofs.YtimmnmidhjbanaaDoor
open Go.RowKit
set_option linter.unusedVariables false
set_option linter.unusedSimpArgs false
section
variable {w : World} {B q n c : Nat} {A : Option Addr} {bb : List UInt8} {s t : RSt}
/-- What is known when the kind is read: the result's box J, the entry's box I behind it. -/
def DState (B q n c : Nat) (A : Option Addr) (bb : List UInt8) (J I : Nat) (cs : Array Value) (s : RSt) (w W : World) : Prop := Whole W J 28 #[.int .i64 0, .int .i64 0, .int .i64 0, .int .i64 0, .string ⟨#[]⟩, .string ⟨#[]⟩, .int .i64 0, .int .i64 0, .int .i64 0, .int .i64 0, .int .i64 0, .slice none 0 0] ∧ Whole W I 28 cs ∧ DcS W B q A n c bb s ∧ Off (fun b => b = q) w W ∧ w.heap.size ≤ J ∧ J < I ∧ q < J
section
variable {J I : Nat} {cs cs' : Array Value} {s' : RSt} {W W' : World}
theorem DState.set (h : DState B q n c A bb J I cs s w W) (i : Nat) (v : Value) (hc : cs.setIfInBounds i v = cs') : DState B q n c A bb J I cs' s w (W.setCell ⟨I, i, none⟩ v) := by
  obtain ⟨h1, h2, h3, h4, h5, h6, h7⟩ := h
  exact ⟨h1.far (p := ⟨I, i, none⟩) (by dsimp only; omega) v, hc ▸ h2.set_ i v, h3.set_ ⟨I, i, none⟩ (by dsimp only; omega) v, h4.setCell (p := ⟨I, i, none⟩) (.inl (by dsimp only; omega)) v, h5, h6, h7⟩
theorem DState.call (h : DState B q n c A bb J I cs s w W) (hr : DcS W' B q A n c bb s') (ho : Off (fun b => b = q) W W') : DState B q n c A bb J I cs s' w W' := by
  obtain ⟨h1, h2, h3, h4, h5, h6, h7⟩ := h
  exact ⟨ho.whole h1 (by omega), ho.whole h2 (by omega), hr, h4.trans ho (fun _ _ z => z), h5, h6, h7⟩
theorem DState.since (h : DState B q n c A bb J I cs s w W) (hs : Since W W') : DState B q n c A bb J I cs s w W' := h.call (h.2.2.1.since hs) (hs.off _)
theorem DState.fin (h : DState B q n c A bb J I cs s w W) (ho : Off (fun b => b = J) W W') : DcS W' B q A n c bb s ∧ Off (fun b => b = q) w W' := by
  obtain ⟨h1, h2, h3, h4, h5, h6, h7⟩ := h
  exact ⟨h3.off ho (fun b e => by have := h3.lie; omega), h4.trans ho (fun b hlt e => by omega)⟩
end
/-- What the document's Take leaves. -/
def TkD (B q n c : Nat) (A : Option Addr) (bb : List UInt8) (kind ok x y : Int) (key val : ByteArray) (cl seq nd ep bx : Int) (l : List Int) (t : RSt) (w : World) (z : Ending) (w' : World) : Prop :=
  ((t.2 = 0 ∧ ∃ a m d, z = .returned (.agg #[.int .i64 kind, .int .i64 ok, .int .i64 x, .int .i64 y, .string key, .string val, .int .i64 cl, .int .i64 seq, .int .i64 nd, .int .i64 ep, .int .i64 bx, .slice a m d]) ∧ RZ w' w.heap.size (.slice a m d) l) ∨ (t.2 ≠ 0 ∧ z = .returned (.agg #[.int .i64 0, .int .i64 0, .int .i64 0, .int .i64 0, .string ⟨#[]⟩, .string ⟨#[]⟩, .int .i64 0, .int .i64 0, .int .i64 0, .int .i64 0, .int .i64 0, .slice none 0 0]))) ∧ DcS w' B q A n c bb t ∧ Off (fun b => b = q) w w'
set_option maxRecDepth 100000 in
set_option maxHeartbeats 25600000 in
theorem refTake_none (h : DcS w B q A n c bb s) {k : Int}  {s1 : RSt} (hk : numS s = (k, s1)) (k1 : (k == 1) = false) (k2 : (k == 2) = false) (k3 : (k == 3) = false) (k4 : (k == 4) = false) (k5 : (k == 5) = false) {rb : Bool} (hrb : rightB ⟨k, 0, 0, 0, ⟨#[]⟩, ⟨#[]⟩, 0, 0, 0, 0, 0⟩ [] = rb) (hl9 : ([] : List Int).length ≤ 1000000) {t1 : RSt} (ht1 : failS rb s1 = t1) :
    Calls Tryd.prog 32 #[.pointer (some ⟨q, 0, none⟩)] w (TkD B q n c A bb k 0 0 0 ⟨#[]⟩ ⟨#[]⟩ 0 0 0 0 0 [] t1 w) := by
  have HK := Lib.hid hk
  have HB := Lib.hid hrb
  have HT := Lib.hid ht1
  have HL := Lib.hid hl9
  clear hk hrb ht1 hl9
  obtain ⟨w1, hw1⟩ : ∃ w1, w1 = w.alloc (.cells #[.int .i64 0, .int .i64 0, .int .i64 0, .int .i64 0, .string ⟨#[]⟩, .string ⟨#[]⟩, .int .i64 0, .int .i64 0, .int .i64 0, .int .i64 0, .int .i64 0, .slice none 0 0] 28) := ⟨_, rfl⟩
  have hs1 : Since w w1 := by rw [hw1]; exact (Since.refl w).alloc _
  have hwh : Whole w1 w.heap.size 28 #[.int .i64 0, .int .i64 0, .int .i64 0, .int .i64 0, .string ⟨#[]⟩, .string ⟨#[]⟩, .int .i64 0, .int .i64 0, .int .i64 0, .int .i64 0, .int .i64 0, .slice none 0 0] := by rw [hw1]; exact Whole.new w _ _
  have HW1 := Lib.hid hw1
  obtain ⟨J, hJ⟩ : ∃ J, J = w.heap.size := ⟨_, rfl⟩
  have HJ := Lib.hid hJ
  have hgJ : q < J := by have := h.lt; omega
  have hlt1 : J < w1.heap.size := by rw [hw1, hJ]; simp
  rw [← hJ] at hwh
  clear hw1 hJ
  go_enter Tryd.func32, Tryd.ntmps32
  go_wp2_with fail
  rw [← HW1.out, ← HJ.out]
  refine (numD (h.since hs1) HK.out).mono ?_
  rintro e w2 ⟨rfl, hR2, ho2⟩
  have hlt2 : J < w2.heap.size := by have := ho2.size; omega
  have hst : DState B q n c A bb J w2.heap.size #[.int .i64 k, .int .i64 0, .int .i64 0, .int .i64 0, .string ⟨#[]⟩, .string ⟨#[]⟩, .int .i64 0, .int .i64 0, .int .i64 0, .int .i64 0, .int .i64 0, .slice none 0 0] s1 w (w2.alloc (.cells #[.int .i64 k, .int .i64 0, .int .i64 0, .int .i64 0, .string ⟨#[]⟩, .string ⟨#[]⟩, .int .i64 0, .int .i64 0, .int .i64 0, .int .i64 0, .int .i64 0, .slice none 0 0] 28)) := by
    have hs23 : Since w2 (w2.alloc (.cells #[.int .i64 k, .int .i64 0, .int .i64 0, .int .i64 0, .string ⟨#[]⟩, .string ⟨#[]⟩, .int .i64 0, .int .i64 0, .int .i64 0, .int .i64 0, .int .i64 0, .slice none 0 0] 28)) := (Since.refl w2).alloc _
    exact ⟨Since.whole hs23 (ho2.whole hwh (by omega)), Whole.new w2 _ _, hR2.since hs23, ((hs1.off _).trans ho2 (fun _ _ z => z)).since hs23, by rw [HJ.out]; exact Nat.le_refl _, by omega, hgJ⟩
  clear hR2 ho2 hlt1 hlt2 hwh hs1 h
  obtain ⟨s2, hs2⟩ : ∃ s2, s1 = s2 := ⟨_, rfl⟩
  rw [hs2] at HT hst
  go_wp2_with fail
  obtain ⟨w5, hw5⟩ : ∃ w5, w5 = w2.alloc (.cells #[.int .i64 k, .int .i64 0, .int .i64 0, .int .i64 0, .string ⟨#[]⟩, .string ⟨#[]⟩, .int .i64 0, .int .i64 0, .int .i64 0, .int .i64 0, .int .i64 0, .slice none 0 0] 28) := ⟨_, rfl⟩
  obtain ⟨I, hI⟩ : ∃ I, I = w2.heap.size := ⟨_, rfl⟩
  rw [← hw5, ← hI] at hst
  rw [← hw5]
  try rw [← hI]
  have h5 := hst
  clear hst hw5 hI
  have rz : RZ w5 w.heap.size (.slice none 0 0) [] := RZ.nil _ _
  have HZR := Lib.hid rz
  refine (refRight11_any (RZ.lz rz) (Nat.le_refl _) HL.out HB.out).mono ?_
  rintro e w6 ⟨rfl, hb6⟩
  have hs6 : Since w5 w6 := hb6
  have h6 := h5.since hs6
  have rz6 := RZ.since rz hs6
  clear rz h5 hb6
  unfold failS at HT
  cases rb with
  | true =>
    have e2 := HT.out
    rw [if_pos rfl] at e2
    subst e2
    obtain ⟨lb, er⟩ := s2
    have cE := h6.2.2.1.c2
    dsimp only at cE
    by_cases he : er = 0
    · subst he
      have b0 := h6.2.1.cell 0
      have b1 := h6.2.1.cell 1
      have b2 := h6.2.1.cell 2
      have b3 := h6.2.1.cell 3
      have b4 := h6.2.1.cell 4
      have b5 := h6.2.1.cell 5
      have b6 := h6.2.1.cell 6
      have b7 := h6.2.1.cell 7
      have b8 := h6.2.1.cell 8
      have b9 := h6.2.1.cell 9
      have b10 := h6.2.1.cell 10
      have b11 := h6.2.1.cell 11
      simp at b0 b1 b2 b3 b4 b5 b6 b7 b8 b9 b10 b11
      have HS := Lib.hid h6
      have HRZ := Lib.hid rz6
      clear h6 rz6
      go_wp2_with (refine wpList_store_row rfl 28 _ _ rfl rfl rfl HS.out.1 (by kernel_rfl) rfl (by kernel_rfl) ?_; intro w9 hwh9 hoff9)
      refine bodyPost_ret (results_cell_row rfl _ _ J 28 _ (0, 0) _ rfl hwh9 Tryd.underlying28 rfl (by kernel_rfl)) rfl ⟨.inl ⟨rfl, _, _, _, rfl, RZ.nil _ _⟩, (HS.out.fin hoff9).1, (HS.out.fin hoff9).2⟩
    · have heb2 : (er != 0) = true := by rw [bne_iff_ne]; exact he
      have HS := Lib.hid h6
      have HE := Lib.hid he
      clear h6 rz6 he
      go_wp2_with (refine wpList_store_row rfl 28 _ _ rfl rfl rfl HS.out.1 (by kernel_rfl) rfl (by kernel_rfl) ?_; intro w9 hwh9 hoff9)
      refine bodyPost_ret (results_cell_row rfl _ _ J 28 _ (0, 0) _ rfl hwh9 Tryd.underlying28 rfl (by kernel_rfl)) rfl ⟨.inr ⟨HE.out, rfl⟩, (HS.out.fin hoff9).1, (HS.out.fin hoff9).2⟩
  | false =>
    have e2 := HT.out
    rw [if_neg (by simp)] at e2
    subst e2
    have hne : failR s2.2 21 ≠ 0 := by unfold failR; split <;> omega
    have hF := failD h6.2.2.1
    have heb2 : (failR s2.2 21 != 0) = true := by rw [bne_iff_ne]; exact hne
    obtain ⟨er, her⟩ : ∃ er, failR s2.2 21 = er := ⟨_, rfl⟩
    rw [her] at hF heb2 hne ⊢
    have HF := Lib.hid hF
    have HE := Lib.hid hne
    have HEQ := Lib.hid her
    clear hF her hne rz6
    go_wp2_with fail
    refine HF.out.mono ?_
    rintro e w7 ⟨rfl, hR7, ho7⟩
    have h7 := h6.call hR7 ho7
    have cE := h7.2.2.1.c2
    dsimp only at cE
    have HS := Lib.hid h7
    clear h6 h7 hR7 ho7
    go_wp2_with (refine wpList_store_row rfl 28 _ _ rfl rfl rfl HS.out.1 (by kernel_rfl) rfl (by kernel_rfl) ?_; intro w9 hwh9 hoff9)
    refine bodyPost_ret (results_cell_row rfl _ _ J 28 _ (0, 0) _ rfl hwh9 Tryd.underlying28 rfl (by kernel_rfl)) rfl ?_
    unfold TkD
    rw [HEQ.out]
    exact ⟨.inr ⟨HE.out, rfl⟩, (HS.out.fin hoff9).1, (HS.out.fin hoff9).2⟩
set_option maxRecDepth 100000 in
set_option maxHeartbeats 25600000 in
theorem refTake_add (h : DcS w B q A n c bb s) {k : Int} {x : Int} {s2 : RSt} {s1 : RSt} (hk : numS s = (k, s1)) (hx : numS s1 = (x, s2)) (k1 : (k == 1) = false) (k23 : (k == 2) = true ∨ ((k == 2) = false ∧ (k == 3) = true)) {rb : Bool} (hrb : rightB ⟨k, 0, 0, 0, ⟨#[]⟩, ⟨#[]⟩, 0, 0, x, 0, 0⟩ [] = rb) (hl9 : ([] : List Int).length ≤ 1000000) {t1 : RSt} (ht1 : failS rb s2 = t1) :
    Calls Tryd.prog 32 #[.pointer (some ⟨q, 0, none⟩)] w (TkD B q n c A bb k 0 0 0 ⟨#[]⟩ ⟨#[]⟩ 0 0 x 0 0 [] t1 w) := by
  have HK := Lib.hid hk
  have HB := Lib.hid hrb
  have HT := Lib.hid ht1
  have HL := Lib.hid hl9
  clear hk hrb ht1 hl9
  have HX := Lib.hid hx
  clear hx
  rcases k23 with k2 | ⟨k2, k3⟩
  all_goals
    obtain ⟨w1, hw1⟩ : ∃ w1, w1 = w.alloc (.cells #[.int .i64 0, .int .i64 0, .int .i64 0, .int .i64 0, .string ⟨#[]⟩, .string ⟨#[]⟩, .int .i64 0, .int .i64 0, .int .i64 0, .int .i64 0, .int .i64 0, .slice none 0 0] 28) := ⟨_, rfl⟩
    have hs1 : Since w w1 := by rw [hw1]; exact (Since.refl w).alloc _
    have hwh : Whole w1 w.heap.size 28 #[.int .i64 0, .int .i64 0, .int .i64 0, .int .i64 0, .string ⟨#[]⟩, .string ⟨#[]⟩, .int .i64 0, .int .i64 0, .int .i64 0, .int .i64 0, .int .i64 0, .slice none 0 0] := by rw [hw1]; exact Whole.new w _ _
    have HW1 := Lib.hid hw1
    obtain ⟨J, hJ⟩ : ∃ J, J = w.heap.size := ⟨_, rfl⟩
    have HJ := Lib.hid hJ
    have hgJ : q < J := by have := h.lt; omega
    have hlt1 : J < w1.heap.size := by rw [hw1, hJ]; simp
    rw [← hJ] at hwh
    clear hw1 hJ
    go_enter Tryd.func32, Tryd.ntmps32
    go_wp2_with fail
    rw [← HW1.out, ← HJ.out]
    refine (numD (h.since hs1) HK.out).mono ?_
    rintro e w2 ⟨rfl, hR2, ho2⟩
    have hlt2 : J < w2.heap.size := by have := ho2.size; omega
    have hst : DState B q n c A bb J w2.heap.size #[.int .i64 k, .int .i64 0, .int .i64 0, .int .i64 0, .string ⟨#[]⟩, .string ⟨#[]⟩, .int .i64 0, .int .i64 0, .int .i64 0, .int .i64 0, .int .i64 0, .slice none 0 0] s1 w (w2.alloc (.cells #[.int .i64 k, .int .i64 0, .int .i64 0, .int .i64 0, .string ⟨#[]⟩, .string ⟨#[]⟩, .int .i64 0, .int .i64 0, .int .i64 0, .int .i64 0, .int .i64 0, .slice none 0 0] 28)) := by
      have hs23 : Since w2 (w2.alloc (.cells #[.int .i64 k, .int .i64 0, .int .i64 0, .int .i64 0, .string ⟨#[]⟩, .string ⟨#[]⟩, .int .i64 0, .int .i64 0, .int .i64 0, .int .i64 0, .int .i64 0, .slice none 0 0] 28)) := (Since.refl w2).alloc _
      exact ⟨Since.whole hs23 (ho2.whole hwh (by omega)), Whole.new w2 _ _, hR2.since hs23, ((hs1.off _).trans ho2 (fun _ _ z => z)).since hs23, by rw [HJ.out]; exact Nat.le_refl _, by omega, hgJ⟩
    clear hR2 ho2 hlt1 hlt2 hwh hs1 h
    go_wp2_with fail
    obtain ⟨w3, hw3⟩ : ∃ w3, w3 = w2.alloc (.cells #[.int .i64 k, .int .i64 0, .int .i64 0, .int .i64 0, .string ⟨#[]⟩, .string ⟨#[]⟩, .int .i64 0, .int .i64 0, .int .i64 0, .int .i64 0, .int .i64 0, .slice none 0 0] 28) := ⟨_, rfl⟩
    obtain ⟨I, hI⟩ : ∃ I, I = w2.heap.size := ⟨_, rfl⟩
    rw [← hw3, ← hI] at hst ⊢
    clear hw3 hI
    refine (numD hst.2.2.1 HX.out).mono ?_
    rintro e w4 ⟨rfl, hR4, ho4⟩
    have h4 := hst.call hR4 ho4
    have f8 := h4.2.1.frozen 8
    have a8 := h4.2.1.cell 8
    simp at a8
    have h5 := h4.set 8 (.int .i64 x) (cs' := #[.int .i64 k, .int .i64 0, .int .i64 0, .int .i64 0, .string ⟨#[]⟩, .string ⟨#[]⟩, .int .i64 0, .int .i64 0, .int .i64 x, .int .i64 0, .int .i64 0, .slice none 0 0]) rfl
    have b0 := h5.2.1.cell 0
    have b1 := h5.2.1.cell 1
    have b2 := h5.2.1.cell 2
    have b3 := h5.2.1.cell 3
    have b4 := h5.2.1.cell 4
    have b5 := h5.2.1.cell 5
    have b6 := h5.2.1.cell 6
    have b7 := h5.2.1.cell 7
    have b8 := h5.2.1.cell 8
    have b9 := h5.2.1.cell 9
    have b10 := h5.2.1.cell 10
    have b11 := h5.2.1.cell 11
    simp at b0 b1 b2 b3 b4 b5 b6 b7 b8 b9 b10 b11
    clear h4 hst hR4 ho4
    go_wp2_with fail
    obtain ⟨w5, hw5⟩ : ∃ w5, w5 = w4.setCell ⟨I, 8, none⟩ (.int .i64 x) := ⟨_, rfl⟩
    rw [← hw5] at h5 ⊢
    clear hw5 f8 a8 b0 b1 b2 b3 b4 b5 b6 b7 b8 b9 b10 b11
    have rz : RZ w5 w.heap.size (.slice none 0 0) [] := RZ.nil _ _
    have HZR := Lib.hid rz
    refine (refRight11_any (RZ.lz rz) (Nat.le_refl _) HL.out HB.out).mono ?_
    rintro e w6 ⟨rfl, hb6⟩
    have hs6 : Since w5 w6 := hb6
    have h6 := h5.since hs6
    have rz6 := RZ.since rz hs6
    clear rz h5 hb6
    unfold failS at HT
    cases rb with
    | true =>
      have e2 := HT.out
      rw [if_pos rfl] at e2
      subst e2
      obtain ⟨lb, er⟩ := s2
      have cE := h6.2.2.1.c2
      dsimp only at cE
      by_cases he : er = 0
      · subst he
        have b0 := h6.2.1.cell 0
        have b1 := h6.2.1.cell 1
        have b2 := h6.2.1.cell 2
        have b3 := h6.2.1.cell 3
        have b4 := h6.2.1.cell 4
        have b5 := h6.2.1.cell 5
        have b6 := h6.2.1.cell 6
        have b7 := h6.2.1.cell 7
        have b8 := h6.2.1.cell 8
        have b9 := h6.2.1.cell 9
        have b10 := h6.2.1.cell 10
        have b11 := h6.2.1.cell 11
        simp at b0 b1 b2 b3 b4 b5 b6 b7 b8 b9 b10 b11
        have HS := Lib.hid h6
        have HRZ := Lib.hid rz6
        clear h6 rz6
        go_wp2_with (refine wpList_store_row rfl 28 _ _ rfl rfl rfl HS.out.1 (by kernel_rfl) rfl (by kernel_rfl) ?_; intro w9 hwh9 hoff9)
        refine bodyPost_ret (results_cell_row rfl _ _ J 28 _ (0, 0) _ rfl hwh9 Tryd.underlying28 rfl (by kernel_rfl)) rfl ⟨.inl ⟨rfl, _, _, _, rfl, RZ.nil _ _⟩, (HS.out.fin hoff9).1, (HS.out.fin hoff9).2⟩
      · have heb2 : (er != 0) = true := by rw [bne_iff_ne]; exact he
        have HS := Lib.hid h6
        have HE := Lib.hid he
        clear h6 rz6 he
        go_wp2_with (refine wpList_store_row rfl 28 _ _ rfl rfl rfl HS.out.1 (by kernel_rfl) rfl (by kernel_rfl) ?_; intro w9 hwh9 hoff9)
        refine bodyPost_ret (results_cell_row rfl _ _ J 28 _ (0, 0) _ rfl hwh9 Tryd.underlying28 rfl (by kernel_rfl)) rfl ⟨.inr ⟨HE.out, rfl⟩, (HS.out.fin hoff9).1, (HS.out.fin hoff9).2⟩
    | false =>
      have e2 := HT.out
      rw [if_neg (by simp)] at e2
      subst e2
      have hne : failR s2.2 21 ≠ 0 := by unfold failR; split <;> omega
      have hF := failD h6.2.2.1
      have heb2 : (failR s2.2 21 != 0) = true := by rw [bne_iff_ne]; exact hne
      obtain ⟨er, her⟩ : ∃ er, failR s2.2 21 = er := ⟨_, rfl⟩
      rw [her] at hF heb2 hne ⊢
      have HF := Lib.hid hF
      have HE := Lib.hid hne
      have HEQ := Lib.hid her
      clear hF her hne rz6
      go_wp2_with fail
      refine HF.out.mono ?_
      rintro e w7 ⟨rfl, hR7, ho7⟩
      have h7 := h6.call hR7 ho7
      have cE := h7.2.2.1.c2
      dsimp only at cE
      have HS := Lib.hid h7
      clear h6 h7 hR7 ho7
      go_wp2_with (refine wpList_store_row rfl 28 _ _ rfl rfl rfl HS.out.1 (by kernel_rfl) rfl (by kernel_rfl) ?_; intro w9 hwh9 hoff9)
      refine bodyPost_ret (results_cell_row rfl _ _ J 28 _ (0, 0) _ rfl hwh9 Tryd.underlying28 rfl (by kernel_rfl)) rfl ?_
      unfold TkD
      rw [HEQ.out]
      exact ⟨.inr ⟨HE.out, rfl⟩, (HS.out.fin hoff9).1, (HS.out.fin hoff9).2⟩
set_option maxRecDepth 100000 in
set_option maxHeartbeats 25600000 in
theorem refTake_call (h : DcS w B q A n c bb s) {k : Int} {rk rx ry : Int} {rkey rval : ByteArray} {rcl rseq : Int} {s2 : RSt} {s1 : RSt} (hk : numS s = (k, s1)) (hx : readOp s1 = ((rk, rx, ry, rkey, rval, rcl, rseq), s2)) (k1 : (k == 1) = true) {rb : Bool} (hrb : rightB ⟨k, rk, rx, ry, rkey, rval, rcl, rseq, 0, 0, 0⟩ [] = rb) (hl9 : ([] : List Int).length ≤ 1000000) {t1 : RSt} (ht1 : failS rb s2 = t1) :
    Calls Tryd.prog 32 #[.pointer (some ⟨q, 0, none⟩)] w (TkD B q n c A bb k rk rx ry rkey rval rcl rseq 0 0 0 [] t1 w) := by
  have HK := Lib.hid hk
  have HB := Lib.hid hrb
  have HT := Lib.hid ht1
  have HL := Lib.hid hl9
  clear hk hrb ht1 hl9
  have HX := Lib.hid hx
  clear hx
  obtain ⟨w1, hw1⟩ : ∃ w1, w1 = w.alloc (.cells #[.int .i64 0, .int .i64 0, .int .i64 0, .int .i64 0, .string ⟨#[]⟩, .string ⟨#[]⟩, .int .i64 0, .int .i64 0, .int .i64 0, .int .i64 0, .int .i64 0, .slice none 0 0] 28) := ⟨_, rfl⟩
  have hs1 : Since w w1 := by rw [hw1]; exact (Since.refl w).alloc _
  have hwh : Whole w1 w.heap.size 28 #[.int .i64 0, .int .i64 0, .int .i64 0, .int .i64 0, .string ⟨#[]⟩, .string ⟨#[]⟩, .int .i64 0, .int .i64 0, .int .i64 0, .int .i64 0, .int .i64 0, .slice none 0 0] := by rw [hw1]; exact Whole.new w _ _
  have HW1 := Lib.hid hw1
  obtain ⟨J, hJ⟩ : ∃ J, J = w.heap.size := ⟨_, rfl⟩
  have HJ := Lib.hid hJ
  have hgJ : q < J := by have := h.lt; omega
  have hlt1 : J < w1.heap.size := by rw [hw1, hJ]; simp
  rw [← hJ] at hwh
  clear hw1 hJ
  go_enter Tryd.func32, Tryd.ntmps32
  go_wp2_with fail
  rw [← HW1.out, ← HJ.out]
  refine (numD (h.since hs1) HK.out).mono ?_
  rintro e w2 ⟨rfl, hR2, ho2⟩
  have hlt2 : J < w2.heap.size := by have := ho2.size; omega
  have hst : DState B q n c A bb J w2.heap.size #[.int .i64 k, .int .i64 0, .int .i64 0, .int .i64 0, .string ⟨#[]⟩, .string ⟨#[]⟩, .int .i64 0, .int .i64 0, .int .i64 0, .int .i64 0, .int .i64 0, .slice none 0 0] s1 w (w2.alloc (.cells #[.int .i64 k, .int .i64 0, .int .i64 0, .int .i64 0, .string ⟨#[]⟩, .string ⟨#[]⟩, .int .i64 0, .int .i64 0, .int .i64 0, .int .i64 0, .int .i64 0, .slice none 0 0] 28)) := by
    have hs23 : Since w2 (w2.alloc (.cells #[.int .i64 k, .int .i64 0, .int .i64 0, .int .i64 0, .string ⟨#[]⟩, .string ⟨#[]⟩, .int .i64 0, .int .i64 0, .int .i64 0, .int .i64 0, .int .i64 0, .slice none 0 0] 28)) := (Since.refl w2).alloc _
    exact ⟨Since.whole hs23 (ho2.whole hwh (by omega)), Whole.new w2 _ _, hR2.since hs23, ((hs1.off _).trans ho2 (fun _ _ z => z)).since hs23, by rw [HJ.out]; exact Nat.le_refl _, by omega, hgJ⟩
  clear hR2 ho2 hlt1 hlt2 hwh hs1 h
  go_wp2_with fail
  obtain ⟨w3, hw3⟩ : ∃ w3, w3 = w2.alloc (.cells #[.int .i64 k, .int .i64 0, .int .i64 0, .int .i64 0, .string ⟨#[]⟩, .string ⟨#[]⟩, .int .i64 0, .int .i64 0, .int .i64 0, .int .i64 0, .int .i64 0, .slice none 0 0] 28) := ⟨_, rfl⟩
  obtain ⟨I, hI⟩ : ∃ I, I = w2.heap.size := ⟨_, rfl⟩
  rw [← hw3, ← hI] at hst ⊢
  clear hw3 hI
  refine (refTakeOp_any hst.2.2.1 HX.out).mono ?_
  rintro e w4 ⟨rfl, hR4, ho4⟩
  have h4 := hst.call hR4 ho4
  have hth := h4.2.1.there (o := 1) (n := 7) (by simp)
  have h5 := (((((((h4.set 1 (.int .i64 rk) rfl).set 2 (.int .i64 rx) rfl).set 3 (.int .i64 ry) rfl).set 4 (.string rkey) rfl).set 5 (.string rval) rfl).set 6 (.int .i64 rcl) rfl).set 7 (.int .i64 rseq) (cs' := #[.int .i64 k, .int .i64 rk, .int .i64 rx, .int .i64 ry, .string rkey, .string rval, .int .i64 rcl, .int .i64 rseq, .int .i64 0, .int .i64 0, .int .i64 0, .slice none 0 0]) rfl)
  obtain ⟨w5, hw5⟩ : ∃ w5, w5 = w4.setCells I 1 (#[.int .i64 rk, .int .i64 rx, .int .i64 ry, .string rkey, .string rval, .int .i64 rcl, .int .i64 rseq] : Array Value).toList := ⟨_, rfl⟩
  replace h5 : DState B q n c A bb J I #[.int .i64 k, .int .i64 rk, .int .i64 rx, .int .i64 ry, .string rkey, .string rval, .int .i64 rcl, .int .i64 rseq, .int .i64 0, .int .i64 0, .int .i64 0, .slice none 0 0] s2 w w5 := by rw [hw5]; exact h5
  have HW5 := Lib.hid hw5
  have HTH := Lib.hid hth
  have b0 := h5.2.1.cell 0
  have b1 := h5.2.1.cell 1
  have b2 := h5.2.1.cell 2
  have b3 := h5.2.1.cell 3
  have b4 := h5.2.1.cell 4
  have b5 := h5.2.1.cell 5
  have b6 := h5.2.1.cell 6
  have b7 := h5.2.1.cell 7
  have b8 := h5.2.1.cell 8
  have b9 := h5.2.1.cell 9
  have b10 := h5.2.1.cell 10
  have b11 := h5.2.1.cell 11
  simp at b0 b1 b2 b3 b4 b5 b6 b7 b8 b9 b10 b11
  clear h4 hst hR4 ho4 hw5 hth
  go_wp2_with (refine wpList_store_mid rfl 25 _ _ rfl I 1 #[.int .i64 rk, .int .i64 rx, .int .i64 ry, .string rkey, .string rval, .int .i64 rcl, .int .i64 rseq] rfl rfl HTH.out (by kernel_rfl) (by kernel_rfl) ?_; rw [← HW5.out])
  clear b0 b1 b2 b3 b4 b5 b6 b7 b8 b9 b10 b11
  have rz : RZ w5 w.heap.size (.slice none 0 0) [] := RZ.nil _ _
  have HZR := Lib.hid rz
  refine (refRight11_any (RZ.lz rz) (Nat.le_refl _) HL.out HB.out).mono ?_
  rintro e w6 ⟨rfl, hb6⟩
  have hs6 : Since w5 w6 := hb6
  have h6 := h5.since hs6
  have rz6 := RZ.since rz hs6
  clear rz h5 hb6
  unfold failS at HT
  cases rb with
  | true =>
    have e2 := HT.out
    rw [if_pos rfl] at e2
    subst e2
    obtain ⟨lb, er⟩ := s2
    have cE := h6.2.2.1.c2
    dsimp only at cE
    by_cases he : er = 0
    · subst he
      have b0 := h6.2.1.cell 0
      have b1 := h6.2.1.cell 1
      have b2 := h6.2.1.cell 2
      have b3 := h6.2.1.cell 3
      have b4 := h6.2.1.cell 4
      have b5 := h6.2.1.cell 5
      have b6 := h6.2.1.cell 6
      have b7 := h6.2.1.cell 7
      have b8 := h6.2.1.cell 8
      have b9 := h6.2.1.cell 9
      have b10 := h6.2.1.cell 10
      have b11 := h6.2.1.cell 11
      simp at b0 b1 b2 b3 b4 b5 b6 b7 b8 b9 b10 b11
      have HS := Lib.hid h6
      have HRZ := Lib.hid rz6
      clear h6 rz6
      go_wp2_with (refine wpList_store_row rfl 28 _ _ rfl rfl rfl HS.out.1 (by kernel_rfl) rfl (by kernel_rfl) ?_; intro w9 hwh9 hoff9)
      refine bodyPost_ret (results_cell_row rfl _ _ J 28 _ (0, 0) _ rfl hwh9 Tryd.underlying28 rfl (by kernel_rfl)) rfl ⟨.inl ⟨rfl, _, _, _, rfl, RZ.nil _ _⟩, (HS.out.fin hoff9).1, (HS.out.fin hoff9).2⟩
    · have heb2 : (er != 0) = true := by rw [bne_iff_ne]; exact he
      have HS := Lib.hid h6
      have HE := Lib.hid he
      clear h6 rz6 he
      go_wp2_with (refine wpList_store_row rfl 28 _ _ rfl rfl rfl HS.out.1 (by kernel_rfl) rfl (by kernel_rfl) ?_; intro w9 hwh9 hoff9)
      refine bodyPost_ret (results_cell_row rfl _ _ J 28 _ (0, 0) _ rfl hwh9 Tryd.underlying28 rfl (by kernel_rfl)) rfl ⟨.inr ⟨HE.out, rfl⟩, (HS.out.fin hoff9).1, (HS.out.fin hoff9).2⟩
  | false =>
    have e2 := HT.out
    rw [if_neg (by simp)] at e2
    subst e2
    have hne : failR s2.2 21 ≠ 0 := by unfold failR; split <;> omega
    have hF := failD h6.2.2.1
    have heb2 : (failR s2.2 21 != 0) = true := by rw [bne_iff_ne]; exact hne
    obtain ⟨er, her⟩ : ∃ er, failR s2.2 21 = er := ⟨_, rfl⟩
    rw [her] at hF heb2 hne ⊢
    have HF := Lib.hid hF
    have HE := Lib.hid hne
    have HEQ := Lib.hid her
    clear hF her hne rz6
    go_wp2_with fail
    refine HF.out.mono ?_
    rintro e w7 ⟨rfl, hR7, ho7⟩
    have h7 := h6.call hR7 ho7
    have cE := h7.2.2.1.c2
    dsimp only at cE
    have HS := Lib.hid h7
    clear h6 h7 hR7 ho7
    go_wp2_with (refine wpList_store_row rfl 28 _ _ rfl rfl rfl HS.out.1 (by kernel_rfl) rfl (by kernel_rfl) ?_; intro w9 hwh9 hoff9)
    refine bodyPost_ret (results_cell_row rfl _ _ J 28 _ (0, 0) _ rfl hwh9 Tryd.underlying28 rfl (by kernel_rfl)) rfl ?_
    unfold TkD
    rw [HEQ.out]
    exact ⟨.inr ⟨HE.out, rfl⟩, (HS.out.fin hoff9).1, (HS.out.fin hoff9).2⟩
set_option maxRecDepth 100000 in
set_option maxHeartbeats 25600000 in
theorem refTake_move (h : DcS w B q A n c bb s) {k : Int} {x y z : Int} {l : List Int} {sa sb sc s2 : RSt} {s1 : RSt} (hk : numS s = (k, s1)) (hx : numS s1 = (x, sa)) (hy : numS sa = (y, sb)) (hz : numS sb = (z, sc)) (hl : readChain sc = (l, s2)) (k1 : (k == 1) = false) (k2 : (k == 2) = false) (k3 : (k == 3) = false) (k45 : (k == 4) = true ∨ ((k == 4) = false ∧ (k == 5) = true)) {rb : Bool} (hrb : rightB ⟨k, 0, 0, 0, ⟨#[]⟩, ⟨#[]⟩, 0, 0, x, y, z⟩ l = rb) (hl9 : (l : List Int).length ≤ 1000000) {t1 : RSt} (ht1 : failS rb s2 = t1) :
    Calls Tryd.prog 32 #[.pointer (some ⟨q, 0, none⟩)] w (TkD B q n c A bb k 0 0 0 ⟨#[]⟩ ⟨#[]⟩ 0 0 x y z l t1 w) := by
  have HK := Lib.hid hk
  have HB := Lib.hid hrb
  have HT := Lib.hid ht1
  have HL := Lib.hid hl9
  clear hk hrb ht1 hl9
  have HX := Lib.hid (And.intro hx (And.intro hy (And.intro hz hl)))
  clear hx hy hz hl
  rcases k45 with k4 | ⟨k4, k5⟩
  all_goals
    obtain ⟨w1, hw1⟩ : ∃ w1, w1 = w.alloc (.cells #[.int .i64 0, .int .i64 0, .int .i64 0, .int .i64 0, .string ⟨#[]⟩, .string ⟨#[]⟩, .int .i64 0, .int .i64 0, .int .i64 0, .int .i64 0, .int .i64 0, .slice none 0 0] 28) := ⟨_, rfl⟩
    have hs1 : Since w w1 := by rw [hw1]; exact (Since.refl w).alloc _
    have hwh : Whole w1 w.heap.size 28 #[.int .i64 0, .int .i64 0, .int .i64 0, .int .i64 0, .string ⟨#[]⟩, .string ⟨#[]⟩, .int .i64 0, .int .i64 0, .int .i64 0, .int .i64 0, .int .i64 0, .slice none 0 0] := by rw [hw1]; exact Whole.new w _ _
    have HW1 := Lib.hid hw1
    obtain ⟨J, hJ⟩ : ∃ J, J = w.heap.size := ⟨_, rfl⟩
    have HJ := Lib.hid hJ
    have hgJ : q < J := by have := h.lt; omega
    have hlt1 : J < w1.heap.size := by rw [hw1, hJ]; simp
    rw [← hJ] at hwh
    clear hw1 hJ
    go_enter Tryd.func32, Tryd.ntmps32
    go_wp2_with fail
    rw [← HW1.out, ← HJ.out]
    refine (numD (h.since hs1) HK.out).mono ?_
    rintro e w2 ⟨rfl, hR2, ho2⟩
    have hlt2 : J < w2.heap.size := by have := ho2.size; omega
    have hst : DState B q n c A bb J w2.heap.size #[.int .i64 k, .int .i64 0, .int .i64 0, .int .i64 0, .string ⟨#[]⟩, .string ⟨#[]⟩, .int .i64 0, .int .i64 0, .int .i64 0, .int .i64 0, .int .i64 0, .slice none 0 0] s1 w (w2.alloc (.cells #[.int .i64 k, .int .i64 0, .int .i64 0, .int .i64 0, .string ⟨#[]⟩, .string ⟨#[]⟩, .int .i64 0, .int .i64 0, .int .i64 0, .int .i64 0, .int .i64 0, .slice none 0 0] 28)) := by
      have hs23 : Since w2 (w2.alloc (.cells #[.int .i64 k, .int .i64 0, .int .i64 0, .int .i64 0, .string ⟨#[]⟩, .string ⟨#[]⟩, .int .i64 0, .int .i64 0, .int .i64 0, .int .i64 0, .int .i64 0, .slice none 0 0] 28)) := (Since.refl w2).alloc _
      exact ⟨Since.whole hs23 (ho2.whole hwh (by omega)), Whole.new w2 _ _, hR2.since hs23, ((hs1.off _).trans ho2 (fun _ _ z => z)).since hs23, by rw [HJ.out]; exact Nat.le_refl _, by omega, hgJ⟩
    clear hR2 ho2 hlt1 hlt2 hwh hs1 h
    go_wp2_with fail
    obtain ⟨w3, hw3⟩ : ∃ w3, w3 = w2.alloc (.cells #[.int .i64 k, .int .i64 0, .int .i64 0, .int .i64 0, .string ⟨#[]⟩, .string ⟨#[]⟩, .int .i64 0, .int .i64 0, .int .i64 0, .int .i64 0, .int .i64 0, .slice none 0 0] 28) := ⟨_, rfl⟩
    obtain ⟨I, hI⟩ : ∃ I, I = w2.heap.size := ⟨_, rfl⟩
    rw [← hw3, ← hI] at hst ⊢
    clear hw3 hI
    refine (numD hst.2.2.1 HX.out.1).mono ?_
    rintro e w4 ⟨rfl, hR4, ho4⟩
    have h4 := hst.call hR4 ho4
    have f8 := h4.2.1.frozen 8
    have a8 := h4.2.1.cell 8
    simp at a8
    have h5 := h4.set 8 (.int .i64 x) (cs' := #[.int .i64 k, .int .i64 0, .int .i64 0, .int .i64 0, .string ⟨#[]⟩, .string ⟨#[]⟩, .int .i64 0, .int .i64 0, .int .i64 x, .int .i64 0, .int .i64 0, .slice none 0 0]) rfl
    clear hst hR4 ho4 h4
    go_wp2_with fail
    obtain ⟨w5, hw5⟩ : ∃ w5, w5 = w4.setCell ⟨I, 8, none⟩ (.int .i64 x) := ⟨_, rfl⟩
    rw [← hw5] at h5 ⊢
    clear hw5 f8 a8
    refine (numD h5.2.2.1 HX.out.2.1).mono ?_
    rintro e w6 ⟨rfl, hR6, ho6⟩
    have h6 := h5.call hR6 ho6
    have f9 := h6.2.1.frozen 9
    have a9 := h6.2.1.cell 9
    simp at a9
    have h7 := h6.set 9 (.int .i64 y) (cs' := #[.int .i64 k, .int .i64 0, .int .i64 0, .int .i64 0, .string ⟨#[]⟩, .string ⟨#[]⟩, .int .i64 0, .int .i64 0, .int .i64 x, .int .i64 y, .int .i64 0, .slice none 0 0]) rfl
    clear hR6 ho6 h5 h6
    go_wp2_with fail
    obtain ⟨w7, hw7⟩ : ∃ w7, w7 = w6.setCell ⟨I, 9, none⟩ (.int .i64 y) := ⟨_, rfl⟩
    rw [← hw7] at h7 ⊢
    clear hw7 f9 a9
    refine (numD h7.2.2.1 HX.out.2.2.1).mono ?_
    rintro e w8 ⟨rfl, hR8, ho8⟩
    have h8 := h7.call hR8 ho8
    have f10 := h8.2.1.frozen 10
    have a10 := h8.2.1.cell 10
    simp at a10
    have h9 := h8.set 10 (.int .i64 z) (cs' := #[.int .i64 k, .int .i64 0, .int .i64 0, .int .i64 0, .string ⟨#[]⟩, .string ⟨#[]⟩, .int .i64 0, .int .i64 0, .int .i64 x, .int .i64 y, .int .i64 z, .slice none 0 0]) rfl
    clear hR8 ho8 h7 h8
    go_wp2_with fail
    obtain ⟨w9, hw9⟩ : ∃ w9, w9 = w8.setCell ⟨I, 10, none⟩ (.int .i64 z) := ⟨_, rfl⟩
    rw [← hw9] at h9 ⊢
    clear hw9 f10 a10
    refine (refTakeChain_any h9.2.2.1 HX.out.2.2.2).mono ?_
    rintro e wa ⟨xc, nc, dc, rfl, hrc, hRa, hoa⟩
    have ha := h9.call hRa hoa
    have hI9 := h9.2.1.lt
    have f11 := ha.2.1.frozen 11
    have a11 := ha.2.1.cell 11
    have h5 := ha.set 11 (.slice xc nc dc) (cs' := #[.int .i64 k, .int .i64 0, .int .i64 0, .int .i64 0, .string ⟨#[]⟩, .string ⟨#[]⟩, .int .i64 0, .int .i64 0, .int .i64 x, .int .i64 y, .int .i64 z, .slice xc nc dc]) rfl
    have rz0 := RowE.far hrc (p := ⟨I, 11, none⟩) hI9 (.slice xc nc dc)
    have b0 := h5.2.1.cell 0
    have b1 := h5.2.1.cell 1
    have b2 := h5.2.1.cell 2
    have b3 := h5.2.1.cell 3
    have b4 := h5.2.1.cell 4
    have b5 := h5.2.1.cell 5
    have b6 := h5.2.1.cell 6
    have b7 := h5.2.1.cell 7
    have b8 := h5.2.1.cell 8
    have b9 := h5.2.1.cell 9
    have b10 := h5.2.1.cell 10
    have b11 := h5.2.1.cell 11
    simp at a11 b0 b1 b2 b3 b4 b5 b6 b7 b8 b9 b10 b11
    have hJI := h9.2.2.2.2.2.1
    have HRO := Lib.hid (fun b (hb : (Value.slice xc nc dc).ownBlock = some b) => show J < b by have := (RowE.own rz0 b hb).1; omega)
    have rz := RZ.mono rz0 h9.2.2.2.1.size
    clear ha h9 hRa hoa hrc rz0
    go_wp2_with fail
    obtain ⟨w5, hw5⟩ : ∃ w5, w5 = wa.setCell ⟨I, 11, none⟩ (.slice xc nc dc) := ⟨_, rfl⟩
    rw [← hw5] at h5 rz ⊢
    clear hw5 f11 a11 b0 b1 b2 b3 b4 b5 b6 b7 b8 b9 b10 b11
    have HZR := Lib.hid rz
    refine (refRight11_any (RZ.lz rz) (Nat.le_refl _) HL.out HB.out).mono ?_
    rintro e w6 ⟨rfl, hb6⟩
    have hs6 : Since w5 w6 := hb6
    have h6 := h5.since hs6
    have rz6 := RZ.since rz hs6
    clear rz h5 hb6
    unfold failS at HT
    cases rb with
    | true =>
      have e2 := HT.out
      rw [if_pos rfl] at e2
      subst e2
      obtain ⟨lb, er⟩ := s2
      have cE := h6.2.2.1.c2
      dsimp only at cE
      by_cases he : er = 0
      · subst he
        have b0 := h6.2.1.cell 0
        have b1 := h6.2.1.cell 1
        have b2 := h6.2.1.cell 2
        have b3 := h6.2.1.cell 3
        have b4 := h6.2.1.cell 4
        have b5 := h6.2.1.cell 5
        have b6 := h6.2.1.cell 6
        have b7 := h6.2.1.cell 7
        have b8 := h6.2.1.cell 8
        have b9 := h6.2.1.cell 9
        have b10 := h6.2.1.cell 10
        have b11 := h6.2.1.cell 11
        simp at b0 b1 b2 b3 b4 b5 b6 b7 b8 b9 b10 b11
        have HS := Lib.hid h6
        have HRZ := Lib.hid rz6
        clear h6 rz6
        go_wp2_with (refine wpList_store_row rfl 28 _ _ rfl rfl rfl HS.out.1 (by kernel_rfl) rfl (by kernel_rfl) ?_; intro w9 hwh9 hoff9)
        refine bodyPost_ret (results_cell_row rfl _ _ J 28 _ (0, 0) _ rfl hwh9 Tryd.underlying28 rfl (by kernel_rfl)) rfl ⟨.inl ⟨rfl, _, _, _, rfl, RowE.off HRZ.out hoff9 (fun b hb e => by have := (RowE.own HRZ.out b hb).1; have := HRO.out b hb; omega)⟩, (HS.out.fin hoff9).1, (HS.out.fin hoff9).2⟩
      · have heb2 : (er != 0) = true := by rw [bne_iff_ne]; exact he
        have HS := Lib.hid h6
        have HE := Lib.hid he
        clear h6 rz6 he
        go_wp2_with (refine wpList_store_row rfl 28 _ _ rfl rfl rfl HS.out.1 (by kernel_rfl) rfl (by kernel_rfl) ?_; intro w9 hwh9 hoff9)
        refine bodyPost_ret (results_cell_row rfl _ _ J 28 _ (0, 0) _ rfl hwh9 Tryd.underlying28 rfl (by kernel_rfl)) rfl ⟨.inr ⟨HE.out, rfl⟩, (HS.out.fin hoff9).1, (HS.out.fin hoff9).2⟩
    | false =>
      have e2 := HT.out
      rw [if_neg (by simp)] at e2
      subst e2
      have hne : failR s2.2 21 ≠ 0 := by unfold failR; split <;> omega
      have hF := failD h6.2.2.1
      have heb2 : (failR s2.2 21 != 0) = true := by rw [bne_iff_ne]; exact hne
      obtain ⟨er, her⟩ : ∃ er, failR s2.2 21 = er := ⟨_, rfl⟩
      rw [her] at hF heb2 hne ⊢
      have HF := Lib.hid hF
      have HE := Lib.hid hne
      have HEQ := Lib.hid her
      clear hF her hne rz6
      go_wp2_with fail
      refine HF.out.mono ?_
      rintro e w7 ⟨rfl, hR7, ho7⟩
      have h7 := h6.call hR7 ho7
      have cE := h7.2.2.1.c2
      dsimp only at cE
      have HS := Lib.hid h7
      clear h6 h7 hR7 ho7
      go_wp2_with (refine wpList_store_row rfl 28 _ _ rfl rfl rfl HS.out.1 (by kernel_rfl) rfl (by kernel_rfl) ?_; intro w9 hwh9 hoff9)
      refine bodyPost_ret (results_cell_row rfl _ _ J 28 _ (0, 0) _ rfl hwh9 Tryd.underlying28 rfl (by kernel_rfl)) rfl ?_
      unfold TkD
      rw [HEQ.out]
      exact ⟨.inr ⟨HE.out, rfl⟩, (HS.out.fin hoff9).1, (HS.out.fin hoff9).2⟩
/-- What the document's Take leaves, in the program's words. -/
def EnD (B q n c : Nat) (A : Option Addr) (bb : List UInt8) (kind ok x y : Int) (key val : ByteArray) (cl seq nd ep bx : Int) (l : List Int) (t : RSt) (w : World) (z : Ending) (w' : World) : Prop := ∃ a m d, z = .returned (.agg #[.int .i64 kind, .int .i64 ok, .int .i64 x, .int .i64 y, .string key, .string val, .int .i64 cl, .int .i64 seq, .int .i64 nd, .int .i64 ep, .int .i64 bx, .slice a m d]) ∧ RZ w' w.heap.size (.slice a m d) l ∧ DcS w' B q A n c bb t ∧ Off (fun b => b = q) w w'
theorem TkD.en {kind1 ok1 x1 y1 : Int} {key1 val1 : ByteArray} {cl1 seq1 nd1 ep1 bx1 : Int} {l1 : List Int} {t1 : RSt} {w' : World} {z : Ending} (h : TkD B q n c A bb kind1 ok1 x1 y1 key1 val1 cl1 seq1 nd1 ep1 bx1 l1 t1 w z w') {kind ok x y : Int} {key val : ByteArray} {cl seq nd ep bx : Int} {l : List Int} (he : (if t1.2 = 0 then ((⟨kind1, ok1, x1, y1, key1, val1, cl1, seq1, nd1, ep1, bx1⟩ : En), l1) else (En.zero, [])) = ((⟨kind, ok, x, y, key, val, cl, seq, nd, ep, bx⟩ : En), l)) : EnD B q n c A bb kind ok x y key val cl seq nd ep bx l t1 w z w' := by
  obtain ⟨h1, h2, h3⟩ := h
  rcases h1 with ⟨h0, a, m, d, rfl, hr⟩ | ⟨h0, rfl⟩
  · rw [if_pos h0] at he
    simp only [Prod.mk.injEq, En.mk.injEq] at he
    obtain ⟨⟨rfl, rfl, rfl, rfl, rfl, rfl, rfl, rfl, rfl, rfl, rfl⟩, rfl⟩ := he
    exact ⟨a, m, d, rfl, hr, h2, h3⟩
  · rw [if_neg h0] at he
    unfold En.zero at he
    simp only [Prod.mk.injEq, En.mk.injEq] at he
    obtain ⟨⟨rfl, rfl, rfl, rfl, rfl, rfl, rfl, rfl, rfl, rfl, rfl⟩, rfl⟩ := he
    exact ⟨_, _, _, rfl, RZ.nil _ _, h2, h3⟩
theorem refTake11_any (h : DcS w B q A n c bb s) {kind ok x y : Int} {key val : ByteArray} {cl seq nd ep bx : Int} {l : List Int} {t : RSt} (hr : readEnt s = (((⟨kind, ok, x, y, key, val, cl, seq, nd, ep, bx⟩ : En), l), t)) : Calls Tryd.prog 32 #[.pointer (some ⟨q, 0, none⟩)] w (EnD B q n c A bb kind ok x y key val cl seq nd ep bx l t w) := by
  have hl8 := readRaw_len s
  unfold readEnt at hr
  rw [readRaw_eq] at hr hl8
  obtain ⟨⟨k, s1⟩, hk⟩ : ∃ p, numS s = p := ⟨_, rfl⟩
  rw [hk] at hr hl8
  dsimp only at hr hl8
  injection hr with hr ht
  subst ht
  unfold readBody at hr hl8 ⊢
  by_cases h1 : k = 1
  · simp only [if_pos h1] at hr hl8 ⊢
    obtain ⟨⟨⟨rk, rx, ry, rkey, rval, rcl, rseq⟩, s2⟩, ho⟩ : ∃ p, readOp s1 = p := ⟨_, rfl⟩
    simp only [ho] at hr hl8 ⊢
    exact (refTake_call h hk ho (by simpa using h1) rfl (by simp) rfl).mono fun _ _ hz => hz.en hr
  · simp only [if_neg h1] at hr hl8 ⊢
    have g1 : (k == 1) = false := by rw [beq_eq_false_iff_ne]; exact h1
    by_cases h2 : k = 2 ∨ k = 3
    · simp only [if_pos h2] at hr hl8 ⊢
      obtain ⟨⟨x1, s2⟩, hx⟩ : ∃ p, numS s1 = p := ⟨_, rfl⟩
      simp only [hx] at hr hl8 ⊢
      exact (refTake_add h hk hx g1 (by rcases h2 with h2 | h2; exact .inl (by simpa using h2); exact .inr ⟨by rw [beq_eq_false_iff_ne]; omega, by simpa using h2⟩) rfl (by simp) rfl).mono fun _ _ hz => hz.en hr
    · simp only [if_neg h2] at hr hl8 ⊢
      have g2 : (k == 2) = false := by rw [beq_eq_false_iff_ne]; omega
      have g3 : (k == 3) = false := by rw [beq_eq_false_iff_ne]; omega
      by_cases h4 : k = 4 ∨ k = 5
      · simp only [if_pos h4] at hr hl8 ⊢
        obtain ⟨⟨x1, s2⟩, hx⟩ : ∃ p, numS s1 = p := ⟨_, rfl⟩
        obtain ⟨⟨x2, s3⟩, hy⟩ : ∃ p, numS s2 = p := ⟨_, rfl⟩
        obtain ⟨⟨x3, s4⟩, hz⟩ : ∃ p, numS s3 = p := ⟨_, rfl⟩
        obtain ⟨⟨lc, s5⟩, hl⟩ : ∃ p, readChain s4 = p := ⟨_, rfl⟩
        simp only [hx, hy, hz, hl] at hr hl8 ⊢
        exact (refTake_move h hk hx hy hz hl g1 g2 g3 (by rcases h4 with h4 | h4; exact .inl (by simpa using h4); exact .inr ⟨by rw [beq_eq_false_iff_ne]; omega, by simpa using h4⟩) rfl (by omega) rfl).mono fun _ _ hz => hz.en hr
      · simp only [if_neg h4] at hr hl8 ⊢
        exact (refTake_none h hk g1 g2 g3 (by rw [beq_eq_false_iff_ne]; omega) (by rw [beq_eq_false_iff_ne]; omega) rfl (by simp) rfl).mono fun _ _ hz => hz.en hr
end
end Go.Proofs.YtimmnmidhjbanaaDoor
