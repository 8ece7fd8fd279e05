/- An act that a law is handed by value. -/
import Derived.Test.YtdbacinaffdkaaaGMade
import Derived.Deep.Slices
import Derived.ChangeSame
import Derived.Deep.Fields
namespace Go.Proofs.Ytdbacinaffdkaaa
open Go.ChangeShapes Go.WideShapes Go.RowKit
set_option maxRecDepth 100000 in
theorem open_act {H : Type} {enc : TypeId × Value → H} {w : World} {base b0 : Nat} {spare : Nat → Bool} {held : Bool} {r : Reach} {v : Value} {d : DataW H} {p : List MemPlace}
    (hv : Value.okWide Try.prog w r b0 40 v) (h : DataW.Trod enc Try.prog w base spare held 40 v d p) : ∃ k a b c : Int, v = .agg #[.int .i64 k, .int .i64 a, .int .i64 b, .int .i64 c] := by
  obtain ⟨cs, rfl, hsz⟩ := okWide_struct Try.underlying40 hv
  have ce : Try.prog.cellsOf 40 = 4 := by kernel_rfl
  have ci : Try.prog.cellsOf 3 = 1 := by kernel_rfl
  have cp : Try.prog.cellsOf 27 = 2 := by kernel_rfl
  rw [ce] at hsz
  obtain ⟨fuel, hf⟩ := h
  obtain ⟨l⟩ := cs
  match l, hsz with
  | [c0, c1, c2, c3], _ =>
    obtain ⟨xs, k, hk, hxy, _, hxl, hg⟩ := DataW.trod_struct Try.underlying40 hf
    match xs, hxl with
    | [y0, y1, y2], _ =>
      have g0 := hg 0 _ rfl
      have g1 := hg 1 _ rfl
      have g2 := hg 2 _ rfl
      simp [ci, cp, Value.cells] at g0 g1 g2
      obtain ⟨z0, e0, _⟩ := DataW.trod_int Try.underlying3 g0
      obtain ⟨z3, e3, _⟩ := DataW.trod_int Try.underlying3 g2
      obtain ⟨ys, k', _, _, _, hyl, hh⟩ := DataW.trod_struct Try.underlying27 g1
      match ys, hyl with
      | [p0, p1], _ =>
        have f0 := hh 0 _ rfl
        have f1 := hh 1 _ rfl
        simp [ci] at f0 f1
        obtain ⟨z1, e1, _⟩ := DataW.trod_int Try.underlying3 f0
        obtain ⟨z2, e2, _⟩ := DataW.trod_int Try.underlying3 f1
        simp only [List.cons.injEq, and_true] at e0 e1 e2 e3
        subst e0 e1 e2 e3
        exact ⟨z0, z1, z2, z3, rfl⟩
end Go.Proofs.Ytdbacinaffdkaaa
