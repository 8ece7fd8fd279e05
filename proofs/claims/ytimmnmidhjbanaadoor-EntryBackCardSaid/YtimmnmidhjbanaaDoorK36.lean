/- entry.read, taken, Take. -/
import Derived.Test.YtimmnmidhjbanaaDoorK10
import Derived.Test.YtimmnmidhjbanaaDoorK27
import Derived.Test.YtimmnmidhjbanaaDoorK33
import Derived.Test.YtimmnmidhjbanaaDoorK35
import Derived.Deep.MidRow
namespace Go.Proofs.YtimmnmidhjbanaaDoor
open Go.RowKit
set_option linter.unusedVariables false
set_option linter.unusedSimpArgs false
/-- What is read behind a kind. -/
def readBody (k : Int) (s : RSt) : (En × List Int) × RSt :=
  if k = 1 then ((⟨k, (readOp s).1.1, (readOp s).1.2.1, (readOp s).1.2.2.1, (readOp s).1.2.2.2.1, (readOp s).1.2.2.2.2.1, (readOp s).1.2.2.2.2.2.1, (readOp s).1.2.2.2.2.2.2, 0, 0, 0⟩, []), (readOp s).2)
  else if k = 2 ∨ k = 3 then ((⟨k, 0, 0, 0, ⟨#[]⟩, ⟨#[]⟩, 0, 0, (numS s).1, 0, 0⟩, []), (numS s).2)
  else if k = 4 ∨ k = 5 then ((⟨k, 0, 0, 0, ⟨#[]⟩, ⟨#[]⟩, 0, 0, (numS s).1, (numS (numS s).2).1, (numS (numS (numS s).2).2).1⟩, (readChain (numS (numS (numS s).2).2).2).1), (readChain (numS (numS (numS s).2).2).2).2)
  else ((⟨k, 0, 0, 0, ⟨#[]⟩, ⟨#[]⟩, 0, 0, 0, 0, 0⟩, []), s)
def readRaw (s : RSt) : (En × List Int) × RSt := readBody (numS s).1 (numS s).2
def readEnt (s : RSt) : (En × List Int) × RSt :=
  let r := readRaw s
  let t := failS (rightB r.1.1 r.1.2) r.2
  (if t.2 = 0 then r.1 else (En.zero, []), t)
section
variable {w : World} {base g : Nat} {s t : RSt}
/-- What reading an entry leaves. -/
def EnP (base g : Nat) (kind ok x y : Int) (key val : ByteArray) (cl seq nd ep bx : Int) (l : List Int) (t : RSt) (w : World) (z : Ending) (w' : World) : Prop := ∃ a n c, z = .returned (.agg #[.int .i64 kind, .int .i64 ok, .int .i64 x, .int .i64 y, .string key, .string val, .int .i64 cl, .int .i64 seq, .int .i64 nd, .int .i64 ep, .int .i64 bx, .slice a n c]) ∧ RZ w' w.heap.size (.slice a n c) l ∧ RdS w' base g t ∧ Off (fun b => b = g) w w'
theorem Whole.there {W : World} {g : Nat} {t : TypeId} {cs : Array Value} (h : Whole W g t cs) {o n : Nat} (hn : o + n ≤ cs.size) : W.there g o n := fun j hj => ⟨by rw [h.cell, Array.getElem?_eq_getElem (by omega)]; rfl, h.frozen _⟩
/-- What is known when the kind is read: the result's box J, the entry's box I behind it. -/
def RdState (base g J I : Nat) (cs : Array Value) (s : RSt) (w W : World) : Prop := Whole W J 37 #[.int .i64 0, .int .i64 0, .int .i64 0, .int .i64 0, .string ⟨#[]⟩, .string ⟨#[]⟩, .int .i64 0, .int .i64 0, .int .i64 0, .int .i64 0, .int .i64 0, .slice none 0 0] ∧ Whole W I 37 cs ∧ RdS W base g s ∧ Off (fun b => b = g) w W ∧ w.heap.size ≤ J ∧ J < I ∧ g < J
theorem RdState.set {base g J I : Nat} {cs cs' : Array Value} {s : RSt} {w W : World} (h : RdState base g J I cs s w W) (i : Nat) (v : Value) (hc : cs.setIfInBounds i v = cs') : RdState base g J I cs' s w (W.setCell ⟨I, i, none⟩ v) := by
  obtain ⟨h1, h2, h3, h4, h5, h6, h7⟩ := h
  exact ⟨h1.far (p := ⟨I, i, none⟩) (by dsimp only; omega) v, hc ▸ h2.set_ i v, h3.set_ ⟨I, i, none⟩ (by dsimp only; omega) v, h4.setCell (p := ⟨I, i, none⟩) (.inl (by dsimp only; omega)) v, h5, h6, h7⟩
theorem RdState.call {base g J I : Nat} {cs : Array Value} {s s' : RSt} {w W W' : World} (h : RdState base g J I cs s w W) (hr : RdS W' base g s') (ho : Off (fun b => b = g) W W') : RdState base g J I cs s' w W' := by
  obtain ⟨h1, h2, h3, h4, h5, h6, h7⟩ := h
  exact ⟨ho.whole h1 (by omega), ho.whole h2 (by omega), hr, h4.trans ho (fun _ _ z => z), h5, h6, h7⟩
theorem RdState.fin {base g J I : Nat} {cs : Array Value} {s : RSt} {w W W' : World} (h : RdState base g J I cs s w W) (ho : Off (fun b => b = J) W W') : RdS W' base g s ∧ Off (fun b => b = g) w W' := by
  obtain ⟨h1, h2, h3, h4, h5, h6, h7⟩ := h
  exact ⟨h3.off ho (fun b e => by omega), h4.trans ho (fun b hlt e => by omega)⟩
set_option maxRecDepth 100000 in
set_option maxHeartbeats 3200000 in
theorem read_none (h : RdS w base g s) {k : Int} {s1 : RSt} (hk : numS s = (k, s1)) (k1 : (k == 1) = false) (k2 : (k == 2) = false) (k3 : (k == 3) = false) (k4 : (k == 4) = false) (k5 : (k == 5) = false) :
    Calls Tryd.prog 58 #[.pointer (some ⟨g, 0, none⟩)] w (EnP base g k 0 0 0 ⟨#[]⟩ ⟨#[]⟩ 0 0 0 0 0 [] s1 w) := by
  have HK := Lib.hid hk
  clear hk
  obtain ⟨w1, hw1⟩ : ∃ w1, w1 = w.alloc (.cells #[.int .i64 0, .int .i64 0, .int .i64 0, .int .i64 0, .string ⟨#[]⟩, .string ⟨#[]⟩, .int .i64 0, .int .i64 0, .int .i64 0, .int .i64 0, .int .i64 0, .slice none 0 0] 37) := ⟨_, rfl⟩
  have hs1 : Since w w1 := by rw [hw1]; exact (Since.refl w).alloc _
  have hwh : Whole w1 w.heap.size 37 #[.int .i64 0, .int .i64 0, .int .i64 0, .int .i64 0, .string ⟨#[]⟩, .string ⟨#[]⟩, .int .i64 0, .int .i64 0, .int .i64 0, .int .i64 0, .int .i64 0, .slice none 0 0] := by rw [hw1]; exact Whole.new w _ _
  have HW1 := Lib.hid hw1
  obtain ⟨J, hJ⟩ : ∃ J, J = w.heap.size := ⟨_, rfl⟩
  have HJ := Lib.hid hJ
  have hgJ : g < J := by have := h.lt; omega
  have hlt1 : J < w1.heap.size := by rw [hw1, hJ]; simp
  rw [← hJ] at hwh
  clear hw1 hJ
  go_enter Tryd.func58, Tryd.ntmps58
  go_wp2_with fail
  rw [← HW1.out, ← HJ.out]
  refine (numP (h.since hs1) HK.out).mono ?_
  rintro e w2 ⟨rfl, hR2, ho2⟩
  have hlt2 : J < w2.heap.size := by have := ho2.size; omega
  obtain ⟨w3, hw3⟩ : ∃ w3, w3 = w2.alloc (.cells #[.int .i64 k, .int .i64 0, .int .i64 0, .int .i64 0, .string ⟨#[]⟩, .string ⟨#[]⟩, .int .i64 0, .int .i64 0, .int .i64 0, .int .i64 0, .int .i64 0, .slice none 0 0] 37) := ⟨_, rfl⟩
  obtain ⟨I, hI⟩ : ∃ I, I = w2.heap.size := ⟨_, rfl⟩
  have HI := Lib.hid (And.intro hw3 hI)
  have hst : RdState base g J I #[.int .i64 k, .int .i64 0, .int .i64 0, .int .i64 0, .string ⟨#[]⟩, .string ⟨#[]⟩, .int .i64 0, .int .i64 0, .int .i64 0, .int .i64 0, .int .i64 0, .slice none 0 0] s1 w w3 := by
    have hs23 : Since w2 w3 := by rw [hw3]; exact (Since.refl w2).alloc _
    exact ⟨Since.whole hs23 (ho2.whole hwh (by omega)), by rw [hw3, hI]; exact Whole.new w2 _ _, hR2.since hs23, ((hs1.off _).trans ho2 (fun _ _ z => z)).since hs23, by rw [HJ.out]; exact Nat.le_refl _, by omega, hgJ⟩
  clear hw3 hI hR2 ho2 hlt1 hlt2 hwh hs1 h
  have hst0 := hst
  rw [HI.out.1, HI.out.2] at hst0
  have HS := Lib.hid hst0
  clear hst0 hst
  go_wp2_with (refine wpList_store_row rfl 37 _ _ rfl rfl rfl HS.out.1 (by kernel_rfl) rfl (by kernel_rfl) ?_; intro w5 hwh5 hoff5)
  refine bodyPost_ret (results_cell_row rfl _ _ J 37 _ (0, 0) _ rfl hwh5 Tryd.underlying37 rfl (by kernel_rfl)) rfl ⟨_, _, _, rfl, RZ.nil _ _, (HS.out.fin hoff5).1, (HS.out.fin hoff5).2⟩
set_option maxRecDepth 100000 in
set_option maxHeartbeats 6400000 in
theorem read_add (h : RdS w base g s) {k x : Int} {s1 s2 : RSt} (hk : numS s = (k, s1)) (hx : numS s1 = (x, s2)) (k1 : (k == 1) = false) (k23 : (k == 2) = true ∨ ((k == 2) = false ∧ (k == 3) = true)) :
    Calls Tryd.prog 58 #[.pointer (some ⟨g, 0, none⟩)] w (EnP base g k 0 0 0 ⟨#[]⟩ ⟨#[]⟩ 0 0 x 0 0 [] s2 w) := by
  have HK := Lib.hid hk
  have HX := Lib.hid hx
  clear hk hx
  rcases k23 with k2 | ⟨k2, k3⟩
  all_goals
    obtain ⟨w1, hw1⟩ : ∃ w1, w1 = w.alloc (.cells #[.int .i64 0, .int .i64 0, .int .i64 0, .int .i64 0, .string ⟨#[]⟩, .string ⟨#[]⟩, .int .i64 0, .int .i64 0, .int .i64 0, .int .i64 0, .int .i64 0, .slice none 0 0] 37) := ⟨_, rfl⟩
    have hs1 : Since w w1 := by rw [hw1]; exact (Since.refl w).alloc _
    have hwh : Whole w1 w.heap.size 37 #[.int .i64 0, .int .i64 0, .int .i64 0, .int .i64 0, .string ⟨#[]⟩, .string ⟨#[]⟩, .int .i64 0, .int .i64 0, .int .i64 0, .int .i64 0, .int .i64 0, .slice none 0 0] := by rw [hw1]; exact Whole.new w _ _
    have HW1 := Lib.hid hw1
    obtain ⟨J, hJ⟩ : ∃ J, J = w.heap.size := ⟨_, rfl⟩
    have HJ := Lib.hid hJ
    have hgJ : g < J := by have := h.lt; omega
    have hlt1 : J < w1.heap.size := by rw [hw1, hJ]; simp
    rw [← hJ] at hwh
    clear hw1 hJ
    go_enter Tryd.func58, Tryd.ntmps58
    go_wp2_with fail
    rw [← HW1.out, ← HJ.out]
    refine (numP (h.since hs1) HK.out).mono ?_
    rintro e w2 ⟨rfl, hR2, ho2⟩
    have hlt2 : J < w2.heap.size := by have := ho2.size; omega
    obtain ⟨w3, hw3⟩ : ∃ w3, w3 = w2.alloc (.cells #[.int .i64 k, .int .i64 0, .int .i64 0, .int .i64 0, .string ⟨#[]⟩, .string ⟨#[]⟩, .int .i64 0, .int .i64 0, .int .i64 0, .int .i64 0, .int .i64 0, .slice none 0 0] 37) := ⟨_, rfl⟩
    obtain ⟨I, hI⟩ : ∃ I, I = w2.heap.size := ⟨_, rfl⟩
    have HI := Lib.hid (And.intro hw3 hI)
    have hst : RdState base g J I #[.int .i64 k, .int .i64 0, .int .i64 0, .int .i64 0, .string ⟨#[]⟩, .string ⟨#[]⟩, .int .i64 0, .int .i64 0, .int .i64 0, .int .i64 0, .int .i64 0, .slice none 0 0] s1 w w3 := by
      have hs23 : Since w2 w3 := by rw [hw3]; exact (Since.refl w2).alloc _
      exact ⟨Since.whole hs23 (ho2.whole hwh (by omega)), by rw [hw3, hI]; exact Whole.new w2 _ _, hR2.since hs23, ((hs1.off _).trans ho2 (fun _ _ z => z)).since hs23, by rw [HJ.out]; exact Nat.le_refl _, by omega, hgJ⟩
    clear hw3 hI hR2 ho2 hlt1 hlt2 hwh hs1 h
    go_wp2_with fail
    rw [← HI.out.1, ← HI.out.2]
    refine (numP hst.2.2.1 HX.out).mono ?_
    rintro e w4 ⟨rfl, hR4, ho4⟩
    have h4 := hst.call hR4 ho4
    have f8 := h4.2.1.frozen 8
    have a8 := h4.2.1.cell 8
    have h5 := h4.set 8 (.int .i64 x) (cs' := #[.int .i64 k, .int .i64 0, .int .i64 0, .int .i64 0, .string ⟨#[]⟩, .string ⟨#[]⟩, .int .i64 0, .int .i64 0, .int .i64 x, .int .i64 0, .int .i64 0, .slice none 0 0]) rfl
    have b0 := h5.2.1.cell 0
    have b1 := h5.2.1.cell 1
    have b2 := h5.2.1.cell 2
    have b3 := h5.2.1.cell 3
    have b4 := h5.2.1.cell 4
    have b5 := h5.2.1.cell 5
    have b6 := h5.2.1.cell 6
    have b7 := h5.2.1.cell 7
    have b8 := h5.2.1.cell 8
    have b9 := h5.2.1.cell 9
    have b10 := h5.2.1.cell 10
    have b11 := h5.2.1.cell 11
    simp at a8 b0 b1 b2 b3 b4 b5 b6 b7 b8 b9 b10 b11
    have HS := Lib.hid h5
    clear h5 h4 hst hR4 ho4
    go_wp2_with (refine wpList_store_row rfl 37 _ _ rfl rfl rfl HS.out.1 (by kernel_rfl) rfl (by kernel_rfl) ?_; intro w5 hwh5 hoff5)
    refine bodyPost_ret (results_cell_row rfl _ _ J 37 _ (0, 0) _ rfl hwh5 Tryd.underlying37 rfl (by kernel_rfl)) rfl ⟨_, _, _, rfl, RZ.nil _ _, (HS.out.fin hoff5).1, (HS.out.fin hoff5).2⟩
set_option maxRecDepth 100000 in
set_option maxHeartbeats 6400000 in
theorem read_call (h : RdS w base g s) {k : Int} {rk rx ry : Int} {rkey rval : ByteArray} {rcl rseq : Int} {s1 s2 : RSt} (hk : numS s = (k, s1)) (hx : readOp s1 = ((rk, rx, ry, rkey, rval, rcl, rseq), s2)) (k1 : (k == 1) = true) :
    Calls Tryd.prog 58 #[.pointer (some ⟨g, 0, none⟩)] w (EnP base g k rk rx ry rkey rval rcl rseq 0 0 0 [] s2 w) := by
  have HK := Lib.hid hk
  have HX := Lib.hid hx
  clear hk hx
  obtain ⟨w1, hw1⟩ : ∃ w1, w1 = w.alloc (.cells #[.int .i64 0, .int .i64 0, .int .i64 0, .int .i64 0, .string ⟨#[]⟩, .string ⟨#[]⟩, .int .i64 0, .int .i64 0, .int .i64 0, .int .i64 0, .int .i64 0, .slice none 0 0] 37) := ⟨_, rfl⟩
  have hs1 : Since w w1 := by rw [hw1]; exact (Since.refl w).alloc _
  have hwh : Whole w1 w.heap.size 37 #[.int .i64 0, .int .i64 0, .int .i64 0, .int .i64 0, .string ⟨#[]⟩, .string ⟨#[]⟩, .int .i64 0, .int .i64 0, .int .i64 0, .int .i64 0, .int .i64 0, .slice none 0 0] := by rw [hw1]; exact Whole.new w _ _
  have HW1 := Lib.hid hw1
  obtain ⟨J, hJ⟩ : ∃ J, J = w.heap.size := ⟨_, rfl⟩
  have HJ := Lib.hid hJ
  have hgJ : g < J := by have := h.lt; omega
  have hlt1 : J < w1.heap.size := by rw [hw1, hJ]; simp
  rw [← hJ] at hwh
  clear hw1 hJ
  go_enter Tryd.func58, Tryd.ntmps58
  go_wp2_with fail
  rw [← HW1.out, ← HJ.out]
  refine (numP (h.since hs1) HK.out).mono ?_
  rintro e w2 ⟨rfl, hR2, ho2⟩
  have hlt2 : J < w2.heap.size := by have := ho2.size; omega
  obtain ⟨w3, hw3⟩ : ∃ w3, w3 = w2.alloc (.cells #[.int .i64 k, .int .i64 0, .int .i64 0, .int .i64 0, .string ⟨#[]⟩, .string ⟨#[]⟩, .int .i64 0, .int .i64 0, .int .i64 0, .int .i64 0, .int .i64 0, .slice none 0 0] 37) := ⟨_, rfl⟩
  obtain ⟨I, hI⟩ : ∃ I, I = w2.heap.size := ⟨_, rfl⟩
  have HI := Lib.hid (And.intro hw3 hI)
  have hst : RdState base g J I #[.int .i64 k, .int .i64 0, .int .i64 0, .int .i64 0, .string ⟨#[]⟩, .string ⟨#[]⟩, .int .i64 0, .int .i64 0, .int .i64 0, .int .i64 0, .int .i64 0, .slice none 0 0] s1 w w3 := by
    have hs23 : Since w2 w3 := by rw [hw3]; exact (Since.refl w2).alloc _
    exact ⟨Since.whole hs23 (ho2.whole hwh (by omega)), by rw [hw3, hI]; exact Whole.new w2 _ _, hR2.since hs23, ((hs1.off _).trans ho2 (fun _ _ z => z)).since hs23, by rw [HJ.out]; exact Nat.le_refl _, by omega, hgJ⟩
  clear hw3 hI hR2 ho2 hlt1 hlt2 hwh hs1 h
  go_wp2_with fail
  rw [← HI.out.1, ← HI.out.2]
  refine (takeOp_any hst.2.2.1 HX.out).mono ?_
  rintro e w4 ⟨rfl, hR4, ho4⟩
  have h4 := hst.call hR4 ho4
  have hth := h4.2.1.there (o := 1) (n := 7) (by simp)
  have h5 := (((((((h4.set 1 (.int .i64 rk) rfl).set 2 (.int .i64 rx) rfl).set 3 (.int .i64 ry) rfl).set 4 (.string rkey) rfl).set 5 (.string rval) rfl).set 6 (.int .i64 rcl) rfl).set 7 (.int .i64 rseq) (cs' := #[.int .i64 k, .int .i64 rk, .int .i64 rx, .int .i64 ry, .string rkey, .string rval, .int .i64 rcl, .int .i64 rseq, .int .i64 0, .int .i64 0, .int .i64 0, .slice none 0 0]) rfl)
  obtain ⟨w5, hw5⟩ : ∃ w5, w5 = w4.setCells I 1 (#[.int .i64 rk, .int .i64 rx, .int .i64 ry, .string rkey, .string rval, .int .i64 rcl, .int .i64 rseq] : Array Value).toList := ⟨_, rfl⟩
  replace h5 : RdState base g J I #[.int .i64 k, .int .i64 rk, .int .i64 rx, .int .i64 ry, .string rkey, .string rval, .int .i64 rcl, .int .i64 rseq, .int .i64 0, .int .i64 0, .int .i64 0, .slice none 0 0] s2 w w5 := by rw [hw5]; exact h5
  have HW5 := Lib.hid hw5
  have HTH := Lib.hid hth
  have b0 := h5.2.1.cell 0
  have b1 := h5.2.1.cell 1
  have b2 := h5.2.1.cell 2
  have b3 := h5.2.1.cell 3
  have b4 := h5.2.1.cell 4
  have b5 := h5.2.1.cell 5
  have b6 := h5.2.1.cell 6
  have b7 := h5.2.1.cell 7
  have b8 := h5.2.1.cell 8
  have b9 := h5.2.1.cell 9
  have b10 := h5.2.1.cell 10
  have b11 := h5.2.1.cell 11
  simp at b0 b1 b2 b3 b4 b5 b6 b7 b8 b9 b10 b11
  have HS := Lib.hid h5
  clear h5 h4 hst hR4 ho4 hw5 hth
  go_wp2_with (first
    | (refine wpList_store_row rfl 37 _ _ rfl rfl rfl HS.out.1 (by kernel_rfl) rfl (by kernel_rfl) ?_; intro w6 hwh5 hoff5)
    | (refine wpList_store_mid rfl 35 _ _ rfl I 1 #[.int .i64 rk, .int .i64 rx, .int .i64 ry, .string rkey, .string rval, .int .i64 rcl, .int .i64 rseq] rfl rfl HTH.out (by kernel_rfl) (by kernel_rfl) ?_; rw [← HW5.out]))
  refine bodyPost_ret (results_cell_row rfl _ _ J 37 _ (0, 0) _ rfl hwh5 Tryd.underlying37 rfl (by kernel_rfl)) rfl ⟨_, _, _, rfl, RZ.nil _ _, (HS.out.fin hoff5).1, (HS.out.fin hoff5).2⟩
set_option maxRecDepth 100000 in
set_option maxHeartbeats 12800000 in
theorem read_move (h : RdS w base g s) {k x y z : Int} {l : List Int} {s1 s2 s3 s4 s5 : RSt} (hk : numS s = (k, s1)) (hx : numS s1 = (x, s2)) (hy : numS s2 = (y, s3)) (hz : numS s3 = (z, s4)) (hl : readChain s4 = (l, s5))
    (k1 : (k == 1) = false) (k2 : (k == 2) = false) (k3 : (k == 3) = false) (k45 : (k == 4) = true ∨ ((k == 4) = false ∧ (k == 5) = true)) :
    Calls Tryd.prog 58 #[.pointer (some ⟨g, 0, none⟩)] w (EnP base g k 0 0 0 ⟨#[]⟩ ⟨#[]⟩ 0 0 x y z l s5 w) := by
  have HK := Lib.hid hk
  have HX := Lib.hid (And.intro hx (And.intro hy (And.intro hz hl)))
  clear hk hx hy hz hl
  rcases k45 with k4 | ⟨k4, k5⟩
  all_goals
    obtain ⟨w1, hw1⟩ : ∃ w1, w1 = w.alloc (.cells #[.int .i64 0, .int .i64 0, .int .i64 0, .int .i64 0, .string ⟨#[]⟩, .string ⟨#[]⟩, .int .i64 0, .int .i64 0, .int .i64 0, .int .i64 0, .int .i64 0, .slice none 0 0] 37) := ⟨_, rfl⟩
    have hs1 : Since w w1 := by rw [hw1]; exact (Since.refl w).alloc _
    have hwh : Whole w1 w.heap.size 37 #[.int .i64 0, .int .i64 0, .int .i64 0, .int .i64 0, .string ⟨#[]⟩, .string ⟨#[]⟩, .int .i64 0, .int .i64 0, .int .i64 0, .int .i64 0, .int .i64 0, .slice none 0 0] := by rw [hw1]; exact Whole.new w _ _
    have HW1 := Lib.hid hw1
    obtain ⟨J, hJ⟩ : ∃ J, J = w.heap.size := ⟨_, rfl⟩
    have HJ := Lib.hid hJ
    have hgJ : g < J := by have := h.lt; omega
    have hlt1 : J < w1.heap.size := by rw [hw1, hJ]; simp
    rw [← hJ] at hwh
    clear hw1 hJ
    go_enter Tryd.func58, Tryd.ntmps58
    go_wp2_with fail
    rw [← HW1.out, ← HJ.out]
    refine (numP (h.since hs1) HK.out).mono ?_
    rintro e w2 ⟨rfl, hR2, ho2⟩
    have hlt2 : J < w2.heap.size := by have := ho2.size; omega
    obtain ⟨w3, hw3⟩ : ∃ w3, w3 = w2.alloc (.cells #[.int .i64 k, .int .i64 0, .int .i64 0, .int .i64 0, .string ⟨#[]⟩, .string ⟨#[]⟩, .int .i64 0, .int .i64 0, .int .i64 0, .int .i64 0, .int .i64 0, .slice none 0 0] 37) := ⟨_, rfl⟩
    obtain ⟨I, hI⟩ : ∃ I, I = w2.heap.size := ⟨_, rfl⟩
    have HI := Lib.hid (And.intro hw3 hI)
    have hst : RdState base g J I #[.int .i64 k, .int .i64 0, .int .i64 0, .int .i64 0, .string ⟨#[]⟩, .string ⟨#[]⟩, .int .i64 0, .int .i64 0, .int .i64 0, .int .i64 0, .int .i64 0, .slice none 0 0] s1 w w3 := by
      have hs23 : Since w2 w3 := by rw [hw3]; exact (Since.refl w2).alloc _
      exact ⟨Since.whole hs23 (ho2.whole hwh (by omega)), by rw [hw3, hI]; exact Whole.new w2 _ _, hR2.since hs23, ((hs1.off _).trans ho2 (fun _ _ z => z)).since hs23, by rw [HJ.out]; exact Nat.le_refl _, by omega, hgJ⟩
    clear hw3 hI hR2 ho2 hlt1 hlt2 hwh hs1 h
    go_wp2_with fail
    rw [← HI.out.1, ← HI.out.2]
    refine (numP hst.2.2.1 HX.out.1).mono ?_
    rintro e w4 ⟨rfl, hR4, ho4⟩
    have h4 := hst.call hR4 ho4
    have f8 := h4.2.1.frozen 8
    have a8 := h4.2.1.cell 8
    simp at a8
    have h5 := h4.set 8 (.int .i64 x) (cs' := #[.int .i64 k, .int .i64 0, .int .i64 0, .int .i64 0, .string ⟨#[]⟩, .string ⟨#[]⟩, .int .i64 0, .int .i64 0, .int .i64 x, .int .i64 0, .int .i64 0, .slice none 0 0]) rfl
    clear hst hR4 ho4 h4
    go_wp2_with fail
    obtain ⟨w5, hw5⟩ : ∃ w5, w5 = w4.setCell ⟨I, 8, none⟩ (.int .i64 x) := ⟨_, rfl⟩
    rw [← hw5] at h5 ⊢
    clear hw5 f8 a8
    refine (numP h5.2.2.1 HX.out.2.1).mono ?_
    rintro e w6 ⟨rfl, hR6, ho6⟩
    have h6 := h5.call hR6 ho6
    have f9 := h6.2.1.frozen 9
    have a9 := h6.2.1.cell 9
    simp at a9
    have h7 := h6.set 9 (.int .i64 y) (cs' := #[.int .i64 k, .int .i64 0, .int .i64 0, .int .i64 0, .string ⟨#[]⟩, .string ⟨#[]⟩, .int .i64 0, .int .i64 0, .int .i64 x, .int .i64 y, .int .i64 0, .slice none 0 0]) rfl
    clear hR6 ho6 h5 h6
    go_wp2_with fail
    obtain ⟨w7, hw7⟩ : ∃ w7, w7 = w6.setCell ⟨I, 9, none⟩ (.int .i64 y) := ⟨_, rfl⟩
    rw [← hw7] at h7 ⊢
    clear hw7 f9 a9
    refine (numP h7.2.2.1 HX.out.2.2.1).mono ?_
    rintro e w8 ⟨rfl, hR8, ho8⟩
    have h8 := h7.call hR8 ho8
    have f10 := h8.2.1.frozen 10
    have a10 := h8.2.1.cell 10
    simp at a10
    have h9 := h8.set 10 (.int .i64 z) (cs' := #[.int .i64 k, .int .i64 0, .int .i64 0, .int .i64 0, .string ⟨#[]⟩, .string ⟨#[]⟩, .int .i64 0, .int .i64 0, .int .i64 x, .int .i64 y, .int .i64 z, .slice none 0 0]) rfl
    clear hR8 ho8 h7 h8
    go_wp2_with fail
    obtain ⟨w9, hw9⟩ : ∃ w9, w9 = w8.setCell ⟨I, 10, none⟩ (.int .i64 z) := ⟨_, rfl⟩
    rw [← hw9] at h9 ⊢
    clear hw9 f10 a10
    refine (takeChain_any h9.2.2.1 HX.out.2.2.2).mono ?_
    rintro e wa ⟨xc, nc, dc, rfl, hrc, hRa, hoa⟩
    have ha := h9.call hRa hoa
    have hI9 := h9.2.1.lt
    have f11 := ha.2.1.frozen 11
    have a11 := ha.2.1.cell 11
    have hb := ha.set 11 (.slice xc nc dc) (cs' := #[.int .i64 k, .int .i64 0, .int .i64 0, .int .i64 0, .string ⟨#[]⟩, .string ⟨#[]⟩, .int .i64 0, .int .i64 0, .int .i64 x, .int .i64 y, .int .i64 z, .slice xc nc dc]) rfl
    have hrb := RowE.far hrc (p := ⟨I, 11, none⟩) hI9 (.slice xc nc dc)
    have b0 := hb.2.1.cell 0
    have b1 := hb.2.1.cell 1
    have b2 := hb.2.1.cell 2
    have b3 := hb.2.1.cell 3
    have b4 := hb.2.1.cell 4
    have b5 := hb.2.1.cell 5
    have b6 := hb.2.1.cell 6
    have b7 := hb.2.1.cell 7
    have b8 := hb.2.1.cell 8
    have b9 := hb.2.1.cell 9
    have b10 := hb.2.1.cell 10
    have b11 := hb.2.1.cell 11
    simp at a11 b0 b1 b2 b3 b4 b5 b6 b7 b8 b9 b10 b11
    have hsw9 := h9.2.2.2.1.size
    have HS := Lib.hid hb
    have HRC := Lib.hid (And.intro hrb (And.intro hI9 hsw9))
    clear hb ha h9 hRa hoa hrc hrb hI9 hsw9
    go_wp2_with (refine wpList_store_row rfl 37 _ _ rfl rfl rfl HS.out.1 (by kernel_rfl) rfl (by kernel_rfl) ?_; intro wc hwh5 hoff5)
    refine bodyPost_ret (results_cell_row rfl _ _ J 37 _ (0, 0) _ rfl hwh5 Tryd.underlying37 rfl (by kernel_rfl)) rfl ⟨_, _, _, rfl, ?_, (HS.out.fin hoff5).1, (HS.out.fin hoff5).2⟩
    exact RZ.mono (RowE.off HRC.out.1 hoff5 (fun b hb e => by have := (RowE.own HRC.out.1 b hb).1; have := HRC.out.2.1; have := HS.out.2.2.2.2.2.1; omega)) HRC.out.2.2
end
end Go.Proofs.YtimmnmidhjbanaaDoor
