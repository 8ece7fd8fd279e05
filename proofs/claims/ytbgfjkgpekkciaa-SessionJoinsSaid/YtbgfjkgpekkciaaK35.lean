/- What a law of session's is handed, opened to its cells: an act by value, a list of acts. -/
import Derived.Test.YtbgfjkgpekkciaaK31
import Derived.Deep.Slices
import Derived.ChangeSame
import Derived.Deep.Fields
namespace Go.Proofs.Ytbgfjkgpekkciaa
open Go.ChangeShapes Go.WideShapes Go.RowKit
set_option linter.unusedSimpArgs false
set_option maxRecDepth 100000 in
theorem open_sact {H : Type} {enc : TypeId × Value → H} {w : World} {base b0 : Nat} {spare : Nat → Bool} {held : Bool} {r : Reach} {v : Value} {d : DataW H} {p : List MemPlace}
    (hv : Value.okWide Try.prog w r b0 46 v) (h : DataW.Trod enc Try.prog w base spare held 46 v d p) : ∃ (z0 : Int) (z1 : Int) (z2 : Int) (z3 : Bool) (z4 : ByteArray) (z5 : Int), v = .agg #[.int .i64 z0, .int .i64 z1, .int .i64 z2, .bool z3, .string z4, .int .i64 z5] := by
  obtain ⟨cs, rfl, hsz⟩ := okWide_struct Try.underlying46 hv
  have ce : Try.prog.cellsOf 46 = 6 := by kernel_rfl
  have ca : Try.prog.cellsOf 44 = 4 := by kernel_rfl
  have ci : Try.prog.cellsOf 3 = 1 := by kernel_rfl
  have cs1 : Try.prog.cellsOf 9 = 1 := by kernel_rfl
  have cb1 : Try.prog.cellsOf 4 = 1 := by kernel_rfl
  rw [ce] at hsz
  obtain ⟨fuel, hf⟩ := h
  obtain ⟨l⟩ := cs
  match l, hsz with
  | [c0, c1, c2, c3, c4, c5], _ =>
    obtain ⟨xs, k, hk, hxy, _, hxl, hg⟩ := DataW.trod_struct Try.underlying46 hf
    match xs, hxl with
    | [y0, y1, y2], _ =>
      have g0 := hg 0 _ rfl
      have g1 := hg 1 _ rfl
      have g2 := hg 2 _ rfl
      simp [ci, ca, cs1, cb1, Value.cells] at g0 g1 g2
      obtain ⟨z0, e0, _⟩ := DataW.trod_int Try.underlying3 g0
      obtain ⟨z1, e1, _⟩ := DataW.trod_int Try.underlying3 g1
      obtain ⟨ys, k', _, _, _, hyl, hh⟩ := DataW.trod_struct Try.underlying44 g2
      match ys, hyl with
      | [p0, p1, p2, p3], _ =>
        have f0 := hh 0 _ rfl
        have f1 := hh 1 _ rfl
        have f2 := hh 2 _ rfl
        have f3 := hh 3 _ rfl
        simp [ci, cs1, cb1] at f0 f1 f2 f3
        obtain ⟨z2, e2, _⟩ := DataW.trod_int Try.underlying3 f0
        obtain ⟨z3, e3, _⟩ := DataW.trod_bool Try.underlying4 f1
        obtain ⟨z4, e4, _⟩ := DataW.trod_string Try.underlying9 f2
        obtain ⟨z5, e5, _⟩ := DataW.trod_int Try.underlying3 f3
        simp only [List.cons.injEq, and_true] at e0 e1 e2 e3 e4 e5
        subst e0 e1 e2 e3 e4 e5
        exact ⟨z0, z1, z2, z3, z4, z5, rfl⟩
set_option maxRecDepth 100000 in
theorem open_sacts {H : Type} {enc : TypeId × Value → H} {w : World} {base : Nat} {spare : Nat → Bool} {held : Bool} {fuel : Nat} {a : Option Addr} {len cap : Nat} {x : DataW H × List MemPlace}
    (h : DataW.trod enc Try.prog w base spare held fuel 42 [.slice a len cap] = some x) : ∃ A : List SC, LentE encSC 6 w.heap.size w (.slice a len cap) A := by
  rcases Go.Deep.open_slice Try.underlying42 h with ⟨hcs, _⟩ | ⟨y, l, c, m, n, D, Pl, hcs, _, hl, _, hmm, _, hi⟩
  · simp only [List.cons.injEq, Value.slice.injEq, and_true] at hcs
    obtain ⟨rfl, rfl, rfl⟩ := hcs
    exact ⟨[], none, 0, rfl, .inl rfl⟩
  · simp only [List.cons.injEq, Value.slice.injEq, and_true] at hcs
    obtain ⟨rfl, rfl, rfl⟩ := hcs
    have each : ∀ i, i < len → ∃ q : SC, ∀ j u, (encSC q)[j]? = some u → w.cell? (y.add (i * 6 + j)) = some u := by
      intro i hil
      obtain ⟨cs', h1, h2⟩ := hi i (by split at hmm <;> omega)
      have ce : Try.prog.cellsOf 46 = 6 := by kernel_rfl
      have ca : Try.prog.cellsOf 44 = 4 := by kernel_rfl
      have ci : Try.prog.cellsOf 3 = 1 := by kernel_rfl
      have cs1 : Try.prog.cellsOf 9 = 1 := by kernel_rfl
      have cb1 : Try.prog.cellsOf 4 = 1 := by kernel_rfl
      rw [ce] at h1
      obtain ⟨_, hlen, hcell⟩ := World.cells?_some h1
      obtain ⟨xs, k, hk, hxy, _, hxl, hg⟩ := DataW.trod_struct Try.underlying46 h2
      match xs, hxl, cs', hlen with
      | [y0, y1, y2], _, [c0, c1, c2, c3, c4, c5], _ =>
        have g0 := hg 0 _ rfl
        have g1 := hg 1 _ rfl
        have g2 := hg 2 _ rfl
        simp [ci, ca, cs1, cb1] at g0 g1 g2
        obtain ⟨z0, e0, _⟩ := DataW.trod_int Try.underlying3 g0
        obtain ⟨z1, e1, _⟩ := DataW.trod_int Try.underlying3 g1
        obtain ⟨ys, k', _, _, _, hyl, hh⟩ := DataW.trod_struct Try.underlying44 g2
        match ys, hyl with
        | [p0, p1, p2, p3], _ =>
          have f0 := hh 0 _ rfl
          have f1 := hh 1 _ rfl
          have f2 := hh 2 _ rfl
          have f3 := hh 3 _ rfl
          simp [ci, cs1, cb1] at f0 f1 f2 f3
          obtain ⟨z2, e2, _⟩ := DataW.trod_int Try.underlying3 f0
          obtain ⟨z3, e3, _⟩ := DataW.trod_bool Try.underlying4 f1
          obtain ⟨z4, e4, _⟩ := DataW.trod_string Try.underlying9 f2
          obtain ⟨z5, e5, _⟩ := DataW.trod_int Try.underlying3 f3
          simp only [List.cons.injEq, and_true] at e0 e1 e2 e3 e4 e5
          subst e0 e1 e2 e3 e4 e5
          refine ⟨⟨z0, z1, z2, z3, z4, z5⟩, fun j u hu => ?_⟩
          have hj : j < 6 := (List.getElem?_eq_some_iff.1 hu).1
          have hc := hcell j hj
          rw [Go.Deep.add_add] at hc
          rw [hc]
          exact hu
    obtain ⟨q, hq⟩ : ∃ q : Nat → SC, ∀ i, i < len → ∀ j u, (encSC (q i))[j]? = some u → w.cell? (y.add (i * 6 + j)) = some u :=
      ⟨fun i => if h : i < len then (each i h).choose else ⟨0, 0, 0, false, ⟨#[]⟩, 0⟩, fun i h j u hu => by simp only [dif_pos h] at hu; exact (each i h).choose_spec j u hu⟩
    refine ⟨(List.range len).map q, some y, cap, by simp, ?_⟩
    by_cases h0 : len = 0
    · exact .inl (by simp [h0])
    · obtain ⟨b, off, spot⟩ := y
      have hc0 := hq 0 (by omega) 0 _ rfl
      have hspot : spot = none := by simpa [Addr.add] using World.cell?_spot hc0
      subst hspot
      refine .inr ⟨b, off, rfl, World.block_lt_of_cell? w _ (by simpa [Addr.add] using hc0), fun i hi' j u hu => ?_⟩
      simp only [List.length_map, List.length_range] at hi'
      simp only [List.getElem_map, List.getElem_range] at hu
      have h1 := hq i hi' j u hu
      rw [Addr.add_lit] at h1
      rw [Nat.add_assoc]
      exact h1
end Go.Proofs.Ytbgfjkgpekkciaa
