/- Records, calls and answers that a law is handed by value. -/
import Derived.Test.YthgcmcdacejelaaDoorQLaw
import Derived.Deep.Slices
import Derived.ChangeSame
import Derived.Deep.Fields
namespace Go.Proofs.YthgcmcdacejelaaDoor
open Go.ChangeShapes Go.WideShapes Go.RowKit
set_option linter.unusedSimpArgs false
set_option maxRecDepth 100000 in
theorem open_rec7 {H : Type} {enc : TypeId × Value → H} {w : World} {base b0 : Nat} {spare : Nat → Bool} {held : Bool} {r : Reach} {v : Value} {d : DataW H} {p : List MemPlace}
    (hv : Value.okWide Tryd.prog w r b0 25 v) (h : DataW.Trod enc Tryd.prog w base spare held 25 v d p) : ∃ (z0 : Int) (z1 : Int) (z2 : ByteArray) (z3 : ByteArray) (z4 : Int), v = .agg #[.int .i64 z0, .int .i64 z1, .string z2, .string z3, .int .i64 z4] := by
  obtain ⟨cs, rfl, hsz⟩ := okWide_struct Tryd.underlying25 hv
  have ce : Tryd.prog.cellsOf 25 = 5 := by kernel_rfl
  have ci : Tryd.prog.cellsOf 3 = 1 := by kernel_rfl
  have cs1 : Tryd.prog.cellsOf 9 = 1 := by kernel_rfl
  have cb1 : Tryd.prog.cellsOf 4 = 1 := by kernel_rfl
  have cp : Tryd.prog.cellsOf 23 = 2 := by kernel_rfl
  rw [ce] at hsz
  obtain ⟨fuel, hf⟩ := h
  obtain ⟨l⟩ := cs
  match l, hsz with
  | [c0, c1, c2, c3, c4], _ =>
    obtain ⟨xs, k, hk, hxy, _, hxl, hg⟩ := DataW.trod_struct Tryd.underlying25 hf
    match xs, hxl with
    | [y0, y1, y2, y3], _ =>
      have g0 := hg 0 _ rfl
      have g1 := hg 1 _ rfl
      have g2 := hg 2 _ rfl
      have g3 := hg 3 _ rfl
      simp [ci, cp, cs1, cb1, Value.cells] at g0 g1 g2 g3
      obtain ⟨z2, e2, _⟩ := DataW.trod_string Tryd.underlying9 g1
      obtain ⟨z3, e3, _⟩ := DataW.trod_string Tryd.underlying9 g2
      obtain ⟨z4, e4, _⟩ := DataW.trod_int Tryd.underlying3 g3
      obtain ⟨ys, k', _, _, _, hyl, hh⟩ := DataW.trod_struct Tryd.underlying23 g0
      match ys, hyl with
      | [p0, p1], _ =>
        have f0 := hh 0 _ rfl
        have f1 := hh 1 _ rfl
        simp [ci] at f0 f1
        obtain ⟨z0, e0, _⟩ := DataW.trod_int Tryd.underlying3 f0
        obtain ⟨z1, e1, _⟩ := DataW.trod_int Tryd.underlying3 f1
        simp only [List.cons.injEq, and_true] at e2 e3 e4 e0 e1
        subst e2 e3 e4 e0 e1
        exact ⟨z0, z1, z2, z3, z4, rfl⟩
set_option maxRecDepth 100000 in
theorem open_op7 {H : Type} {enc : TypeId × Value → H} {w : World} {base b0 : Nat} {spare : Nat → Bool} {held : Bool} {r : Reach} {v : Value} {d : DataW H} {p : List MemPlace}
    (hv : Value.okWide Tryd.prog w r b0 27 v) (h : DataW.Trod enc Tryd.prog w base spare held 27 v d p) : ∃ (z0 : Int) (z1 : Int) (z2 : Int) (z3 : ByteArray) (z4 : ByteArray) (z5 : Int) (z6 : Int), v = .agg #[.int .i64 z0, .int .i64 z1, .int .i64 z2, .string z3, .string z4, .int .i64 z5, .int .i64 z6] := by
  obtain ⟨cs, rfl, hsz⟩ := okWide_struct Tryd.underlying27 hv
  have ce : Tryd.prog.cellsOf 27 = 7 := by kernel_rfl
  have ci : Tryd.prog.cellsOf 3 = 1 := by kernel_rfl
  have cs1 : Tryd.prog.cellsOf 9 = 1 := by kernel_rfl
  have cb1 : Tryd.prog.cellsOf 4 = 1 := by kernel_rfl
  have cp : Tryd.prog.cellsOf 23 = 2 := by kernel_rfl
  rw [ce] at hsz
  obtain ⟨fuel, hf⟩ := h
  obtain ⟨l⟩ := cs
  match l, hsz with
  | [c0, c1, c2, c3, c4, c5, c6], _ =>
    obtain ⟨xs, k, hk, hxy, _, hxl, hg⟩ := DataW.trod_struct Tryd.underlying27 hf
    match xs, hxl with
    | [y0, y1, y2, y3, y4, y5], _ =>
      have g0 := hg 0 _ rfl
      have g1 := hg 1 _ rfl
      have g2 := hg 2 _ rfl
      have g3 := hg 3 _ rfl
      have g4 := hg 4 _ rfl
      have g5 := hg 5 _ rfl
      simp [ci, cp, cs1, cb1, Value.cells] at g0 g1 g2 g3 g4 g5
      obtain ⟨z0, e0, _⟩ := DataW.trod_int Tryd.underlying3 g0
      obtain ⟨z3, e3, _⟩ := DataW.trod_string Tryd.underlying9 g2
      obtain ⟨z4, e4, _⟩ := DataW.trod_string Tryd.underlying9 g3
      obtain ⟨z5, e5, _⟩ := DataW.trod_int Tryd.underlying3 g4
      obtain ⟨z6, e6, _⟩ := DataW.trod_int Tryd.underlying3 g5
      obtain ⟨ys, k', _, _, _, hyl, hh⟩ := DataW.trod_struct Tryd.underlying23 g1
      match ys, hyl with
      | [p0, p1], _ =>
        have f0 := hh 0 _ rfl
        have f1 := hh 1 _ rfl
        simp [ci] at f0 f1
        obtain ⟨z1, e1, _⟩ := DataW.trod_int Tryd.underlying3 f0
        obtain ⟨z2, e2, _⟩ := DataW.trod_int Tryd.underlying3 f1
        simp only [List.cons.injEq, and_true] at e0 e3 e4 e5 e6 e1 e2
        subst e0 e3 e4 e5 e6 e1 e2
        exact ⟨z0, z1, z2, z3, z4, z5, z6, rfl⟩
set_option maxRecDepth 100000 in
theorem open_ans7 {H : Type} {enc : TypeId × Value → H} {w : World} {base b0 : Nat} {spare : Nat → Bool} {held : Bool} {r : Reach} {v : Value} {d : DataW H} {p : List MemPlace}
    (hv : Value.okWide Tryd.prog w r b0 29 v) (h : DataW.Trod enc Tryd.prog w base spare held 29 v d p) : ∃ (z0 : Int) (z1 : Bool) (z2 : ByteArray) (z3 : Int), v = .agg #[.int .i64 z0, .bool z1, .string z2, .int .i64 z3] := by
  obtain ⟨cs, rfl, hsz⟩ := okWide_struct Tryd.underlying29 hv
  have ce : Tryd.prog.cellsOf 29 = 4 := by kernel_rfl
  have ci : Tryd.prog.cellsOf 3 = 1 := by kernel_rfl
  have cs1 : Tryd.prog.cellsOf 9 = 1 := by kernel_rfl
  have cb1 : Tryd.prog.cellsOf 4 = 1 := by kernel_rfl
  have cp : Tryd.prog.cellsOf 23 = 2 := by kernel_rfl
  rw [ce] at hsz
  obtain ⟨fuel, hf⟩ := h
  obtain ⟨l⟩ := cs
  match l, hsz with
  | [c0, c1, c2, c3], _ =>
    obtain ⟨xs, k, hk, hxy, _, hxl, hg⟩ := DataW.trod_struct Tryd.underlying29 hf
    match xs, hxl with
    | [y0, y1, y2, y3], _ =>
      have g0 := hg 0 _ rfl
      have g1 := hg 1 _ rfl
      have g2 := hg 2 _ rfl
      have g3 := hg 3 _ rfl
      simp [ci, cp, cs1, cb1, Value.cells] at g0 g1 g2 g3
      obtain ⟨z0, e0, _⟩ := DataW.trod_int Tryd.underlying3 g0
      obtain ⟨z1, e1, _⟩ := DataW.trod_bool Tryd.underlying4 g1
      obtain ⟨z2, e2, _⟩ := DataW.trod_string Tryd.underlying9 g2
      obtain ⟨z3, e3, _⟩ := DataW.trod_int Tryd.underlying3 g3
      simp only [List.cons.injEq, and_true] at e0 e1 e2 e3
      subst e0 e1 e2 e3
      exact ⟨z0, z1, z2, z3, rfl⟩
end Go.Proofs.YthgcmcdacejelaaDoor
