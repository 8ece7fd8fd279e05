/- point.taken, and what a take answers. -/
import Derived.Test.YtimmnmidhjbanaaDoorK32
namespace Go.Proofs.YtimmnmidhjbanaaDoor
open Go.RowKit
set_option linter.unusedVariables false
/-- What a take of a Op answers, and what it leaves of the reader. -/
def readOp (s : RSt) : (Int × Int × Int × ByteArray × ByteArray × Int × Int) × RSt :=
  let a0 := numS s
  let kind := a0.1
  let a1 := numS a0.2
  let x := a1.1
  let a2 := numS a1.2
  let y := a2.1
  let a3 := txS a2.2
  let key := a3.1
  let a4 := txS a3.2
  let val := a4.1
  let a5 := numS a4.2
  let cl := a5.1
  let a6 := numS a5.2
  let seq := a6.1
  let t := failS (opB kind x y key val cl seq) a6.2
  (if t.2 = 0 then (kind, x, y, key, val, cl, seq) else (0, 0, 0, ⟨#[]⟩, ⟨#[]⟩, 0, 0), t)
set_option maxRecDepth 100000 in
theorem takenOp_any {w : World} {base g : Nat} {s t : RSt} (h : RdS w base g s) (kind : Int) (x : Int) (y : Int) (key : ByteArray) (val : ByteArray) (cl : Int) (seq : Int) (ok : Bool) {rkind : Int} {rx : Int} {ry : Int} {rkey : ByteArray} {rval : ByteArray} {rcl : Int} {rseq : Int} (ht : failS ok s = t) (hr : (if t.2 = 0 then (kind, x, y, key, val, cl, seq) else (0, 0, 0, ⟨#[]⟩, ⟨#[]⟩, 0, 0)) = (rkind, rx, ry, rkey, rval, rcl, rseq)) :
    Calls Tryd.prog 93 #[.pointer (some ⟨g, 0, none⟩), .agg #[.int .i64 kind, .int .i64 x, .int .i64 y, .string key, .string val, .int .i64 cl, .int .i64 seq], .bool ok] w (RPs base g t (.agg #[.int .i64 rkind, .int .i64 rx, .int .i64 ry, .string rkey, .string rval, .int .i64 rcl, .int .i64 rseq]) w) := by
  have hg := h.lt
  obtain ⟨w1, hw1⟩ : ∃ w1, w1 = (w.alloc (.cells #[.int .i64 kind, .int .i64 x, .int .i64 y, .string key, .string val, .int .i64 cl, .int .i64 seq] 35)).alloc (.cells #[.int .i64 0, .int .i64 0, .int .i64 0, .string ⟨#[]⟩, .string ⟨#[]⟩, .int .i64 0, .int .i64 0] 35) := ⟨_, rfl⟩
  have hs1 : Since w w1 := by rw [hw1]; exact ((Since.refl w).alloc _).alloc _
  have hb1 : Whole w1 w.heap.size 35 #[.int .i64 kind, .int .i64 x, .int .i64 y, .string key, .string val, .int .i64 cl, .int .i64 seq] := by rw [hw1]; exact (Whole.new w _ _).alloc _
  have hb2 : Whole w1 (w.heap.size + 1) 35 #[.int .i64 0, .int .i64 0, .int .i64 0, .string ⟨#[]⟩, .string ⟨#[]⟩, .int .i64 0, .int .i64 0] := by rw [hw1]; exact (Whole.new (w.alloc _) _ _).at_ (by simp)
  have HW := Lib.hid hw1
  have h1 := h.since hs1
  have HT := Lib.hid ht
  have HR := Lib.hid hr
  clear hw1 hr ht
  cases ok with
  | true =>
    have ht : s = t := HT.out
    subst ht
    go_enter Tryd.func93, Tryd.ntmps93
    go_wp2_with fail
    rw [← HW.out]
    go_wp2_with fail
    refine (errP h1).mono ?_
    rintro e wx ⟨rfl, rfl⟩
    have p0 := hb1.cell 0
    have q0 := hb2.cell 0
    have f0 := hb2.frozen 0
    have p1 := hb1.cell 1
    have q1 := hb2.cell 1
    have f1 := hb2.frozen 1
    have p2 := hb1.cell 2
    have q2 := hb2.cell 2
    have f2 := hb2.frozen 2
    have p3 := hb1.cell 3
    have q3 := hb2.cell 3
    have f3 := hb2.frozen 3
    have p4 := hb1.cell 4
    have q4 := hb2.cell 4
    have f4 := hb2.frozen 4
    have p5 := hb1.cell 5
    have q5 := hb2.cell 5
    have f5 := hb2.frozen 5
    have p6 := hb1.cell 6
    have q6 := hb2.cell 6
    have f6 := hb2.frozen 6
    have hl2 := hb2.lt
    by_cases h0 : s.2 = 0
    · have hz : (s.2 != 0) = false := by simp [h0]
      have hr := HR.out
      rw [if_pos h0] at hr
      simp only [Prod.mk.injEq] at hr
      obtain ⟨rfl, rfl, rfl, rfl, rfl, rfl, rfl⟩ := hr
      clear h0
      go_wp2
      exact bodyPost_ret (results_cell_row rfl _ _ (w.heap.size + 1) 35 _ (0, 0) _ rfl (Whole.set_ (Whole.set_ (Whole.set_ (Whole.set_ (Whole.set_ (Whole.set_ (Whole.set_ hb2 0 _) 1 _) 2 _) 3 _) 4 _) 5 _) 6 _) Tryd.underlying35 rfl (by kernel_rfl)) rfl ⟨rfl, (((((((h1.set_ ⟨w.heap.size + 1, 0, none⟩ (show g < w.heap.size + 1 by omega) _).set_ ⟨w.heap.size + 1, 1, none⟩ (show g < w.heap.size + 1 by omega) _).set_ ⟨w.heap.size + 1, 2, none⟩ (show g < w.heap.size + 1 by omega) _).set_ ⟨w.heap.size + 1, 3, none⟩ (show g < w.heap.size + 1 by omega) _).set_ ⟨w.heap.size + 1, 4, none⟩ (show g < w.heap.size + 1 by omega) _).set_ ⟨w.heap.size + 1, 5, none⟩ (show g < w.heap.size + 1 by omega) _).set_ ⟨w.heap.size + 1, 6, none⟩ (show g < w.heap.size + 1 by omega) _), (Off.setCell (Off.setCell (Off.setCell (Off.setCell (Off.setCell (Off.setCell (Off.setCell (hs1.off _) (p := ⟨w.heap.size + 1, 0, none⟩) (.inl (Nat.le_add_right _ 1)) _) (p := ⟨w.heap.size + 1, 1, none⟩) (.inl (Nat.le_add_right _ 1)) _) (p := ⟨w.heap.size + 1, 2, none⟩) (.inl (Nat.le_add_right _ 1)) _) (p := ⟨w.heap.size + 1, 3, none⟩) (.inl (Nat.le_add_right _ 1)) _) (p := ⟨w.heap.size + 1, 4, none⟩) (.inl (Nat.le_add_right _ 1)) _) (p := ⟨w.heap.size + 1, 5, none⟩) (.inl (Nat.le_add_right _ 1)) _) (p := ⟨w.heap.size + 1, 6, none⟩) (.inl (Nat.le_add_right _ 1)) _)⟩
    · have hz : (s.2 != 0) = true := by simp [h0]
      have hr := HR.out
      rw [if_neg h0] at hr
      simp only [Prod.mk.injEq] at hr
      obtain ⟨rfl, rfl, rfl, rfl, rfl, rfl, rfl⟩ := hr
      clear h0
      go_wp2
      exact bodyPost_ret (results_cell_row rfl _ _ (w.heap.size + 1) 35 _ (0, 0) _ rfl (Whole.alloc (Whole.set_ (Whole.set_ (Whole.set_ (Whole.set_ (Whole.set_ (Whole.set_ (Whole.set_ hb2 0 _) 1 _) 2 _) 3 _) 4 _) 5 _) 6 _) _) Tryd.underlying35 rfl (by kernel_rfl)) rfl ⟨rfl, RdS.since (((((((h1.set_ ⟨w.heap.size + 1, 0, none⟩ (show g < w.heap.size + 1 by omega) _).set_ ⟨w.heap.size + 1, 1, none⟩ (show g < w.heap.size + 1 by omega) _).set_ ⟨w.heap.size + 1, 2, none⟩ (show g < w.heap.size + 1 by omega) _).set_ ⟨w.heap.size + 1, 3, none⟩ (show g < w.heap.size + 1 by omega) _).set_ ⟨w.heap.size + 1, 4, none⟩ (show g < w.heap.size + 1 by omega) _).set_ ⟨w.heap.size + 1, 5, none⟩ (show g < w.heap.size + 1 by omega) _).set_ ⟨w.heap.size + 1, 6, none⟩ (show g < w.heap.size + 1 by omega) _) ((Since.refl _).alloc _), Off.alloc (Off.setCell (Off.setCell (Off.setCell (Off.setCell (Off.setCell (Off.setCell (Off.setCell (hs1.off _) (p := ⟨w.heap.size + 1, 0, none⟩) (.inl (Nat.le_add_right _ 1)) _) (p := ⟨w.heap.size + 1, 1, none⟩) (.inl (Nat.le_add_right _ 1)) _) (p := ⟨w.heap.size + 1, 2, none⟩) (.inl (Nat.le_add_right _ 1)) _) (p := ⟨w.heap.size + 1, 3, none⟩) (.inl (Nat.le_add_right _ 1)) _) (p := ⟨w.heap.size + 1, 4, none⟩) (.inl (Nat.le_add_right _ 1)) _) (p := ⟨w.heap.size + 1, 5, none⟩) (.inl (Nat.le_add_right _ 1)) _) (p := ⟨w.heap.size + 1, 6, none⟩) (.inl (Nat.le_add_right _ 1)) _) _⟩
  | false =>
    have F := Lib.hid (failP h1)
    rw [show (s.1, failR s.2 21) = t from HT.out] at F
    go_enter Tryd.func93, Tryd.ntmps93
    go_wp2_with fail
    rw [← HW.out]
    refine F.out.mono ?_
    rintro y w2 ⟨rfl, h2, ho2⟩
    have hc1 := ho2.whole hb1 (by omega)
    have hc2 := ho2.whole hb2 (by omega)
    have ho := (hs1.off _).trans ho2 (fun _ _ z => z)
    clear ho2
    go_wp2_with fail
    refine (errP h2).mono ?_
    rintro e wx ⟨rfl, rfl⟩
    have p0 := hc1.cell 0
    have q0 := hc2.cell 0
    have f0 := hc2.frozen 0
    have p1 := hc1.cell 1
    have q1 := hc2.cell 1
    have f1 := hc2.frozen 1
    have p2 := hc1.cell 2
    have q2 := hc2.cell 2
    have f2 := hc2.frozen 2
    have p3 := hc1.cell 3
    have q3 := hc2.cell 3
    have f3 := hc2.frozen 3
    have p4 := hc1.cell 4
    have q4 := hc2.cell 4
    have f4 := hc2.frozen 4
    have p5 := hc1.cell 5
    have q5 := hc2.cell 5
    have f5 := hc2.frozen 5
    have p6 := hc1.cell 6
    have q6 := hc2.cell 6
    have f6 := hc2.frozen 6
    have hl2 := hc2.lt
    by_cases h0 : t.2 = 0
    · have hz : (t.2 != 0) = false := by simp [h0]
      have hr := HR.out
      rw [if_pos h0] at hr
      simp only [Prod.mk.injEq] at hr
      obtain ⟨rfl, rfl, rfl, rfl, rfl, rfl, rfl⟩ := hr
      clear h0
      go_wp2
      exact bodyPost_ret (results_cell_row rfl _ _ (w.heap.size + 1) 35 _ (0, 0) _ rfl (Whole.set_ (Whole.set_ (Whole.set_ (Whole.set_ (Whole.set_ (Whole.set_ (Whole.set_ hc2 0 _) 1 _) 2 _) 3 _) 4 _) 5 _) 6 _) Tryd.underlying35 rfl (by kernel_rfl)) rfl ⟨rfl, (((((((h2.set_ ⟨w.heap.size + 1, 0, none⟩ (show g < w.heap.size + 1 by omega) _).set_ ⟨w.heap.size + 1, 1, none⟩ (show g < w.heap.size + 1 by omega) _).set_ ⟨w.heap.size + 1, 2, none⟩ (show g < w.heap.size + 1 by omega) _).set_ ⟨w.heap.size + 1, 3, none⟩ (show g < w.heap.size + 1 by omega) _).set_ ⟨w.heap.size + 1, 4, none⟩ (show g < w.heap.size + 1 by omega) _).set_ ⟨w.heap.size + 1, 5, none⟩ (show g < w.heap.size + 1 by omega) _).set_ ⟨w.heap.size + 1, 6, none⟩ (show g < w.heap.size + 1 by omega) _), (Off.setCell (Off.setCell (Off.setCell (Off.setCell (Off.setCell (Off.setCell (Off.setCell (ho) (p := ⟨w.heap.size + 1, 0, none⟩) (.inl (Nat.le_add_right _ 1)) _) (p := ⟨w.heap.size + 1, 1, none⟩) (.inl (Nat.le_add_right _ 1)) _) (p := ⟨w.heap.size + 1, 2, none⟩) (.inl (Nat.le_add_right _ 1)) _) (p := ⟨w.heap.size + 1, 3, none⟩) (.inl (Nat.le_add_right _ 1)) _) (p := ⟨w.heap.size + 1, 4, none⟩) (.inl (Nat.le_add_right _ 1)) _) (p := ⟨w.heap.size + 1, 5, none⟩) (.inl (Nat.le_add_right _ 1)) _) (p := ⟨w.heap.size + 1, 6, none⟩) (.inl (Nat.le_add_right _ 1)) _)⟩
    · have hz : (t.2 != 0) = true := by simp [h0]
      have hr := HR.out
      rw [if_neg h0] at hr
      simp only [Prod.mk.injEq] at hr
      obtain ⟨rfl, rfl, rfl, rfl, rfl, rfl, rfl⟩ := hr
      clear h0
      go_wp2
      exact bodyPost_ret (results_cell_row rfl _ _ (w.heap.size + 1) 35 _ (0, 0) _ rfl (Whole.alloc (Whole.set_ (Whole.set_ (Whole.set_ (Whole.set_ (Whole.set_ (Whole.set_ (Whole.set_ hc2 0 _) 1 _) 2 _) 3 _) 4 _) 5 _) 6 _) _) Tryd.underlying35 rfl (by kernel_rfl)) rfl ⟨rfl, RdS.since (((((((h2.set_ ⟨w.heap.size + 1, 0, none⟩ (show g < w.heap.size + 1 by omega) _).set_ ⟨w.heap.size + 1, 1, none⟩ (show g < w.heap.size + 1 by omega) _).set_ ⟨w.heap.size + 1, 2, none⟩ (show g < w.heap.size + 1 by omega) _).set_ ⟨w.heap.size + 1, 3, none⟩ (show g < w.heap.size + 1 by omega) _).set_ ⟨w.heap.size + 1, 4, none⟩ (show g < w.heap.size + 1 by omega) _).set_ ⟨w.heap.size + 1, 5, none⟩ (show g < w.heap.size + 1 by omega) _).set_ ⟨w.heap.size + 1, 6, none⟩ (show g < w.heap.size + 1 by omega) _) ((Since.refl _).alloc _), Off.alloc (Off.setCell (Off.setCell (Off.setCell (Off.setCell (Off.setCell (Off.setCell (Off.setCell (ho) (p := ⟨w.heap.size + 1, 0, none⟩) (.inl (Nat.le_add_right _ 1)) _) (p := ⟨w.heap.size + 1, 1, none⟩) (.inl (Nat.le_add_right _ 1)) _) (p := ⟨w.heap.size + 1, 2, none⟩) (.inl (Nat.le_add_right _ 1)) _) (p := ⟨w.heap.size + 1, 3, none⟩) (.inl (Nat.le_add_right _ 1)) _) (p := ⟨w.heap.size + 1, 4, none⟩) (.inl (Nat.le_add_right _ 1)) _) (p := ⟨w.heap.size + 1, 5, none⟩) (.inl (Nat.le_add_right _ 1)) _) (p := ⟨w.heap.size + 1, 6, none⟩) (.inl (Nat.le_add_right _ 1)) _) _⟩
end Go.Proofs.YtimmnmidhjbanaaDoor
