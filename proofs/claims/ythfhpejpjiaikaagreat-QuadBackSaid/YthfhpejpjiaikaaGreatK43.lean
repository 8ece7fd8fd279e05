/- What a law of quad's is handed, opened to its cells: a record by value, a list of records. -/
import Derived.Test.YthfhpejpjiaikaaGreatK03
import Derived.Test.YthfhpejpjiaikaaGreatK04
import Derived.Deep.Slices
import Derived.ChangeSame
import Derived.Deep.Fields
namespace Go.Proofs.YthfhpejpjiaikaaGreat
open Go.ChangeShapes Go.WideShapes Go.RowKit
set_option linter.unusedSimpArgs false
set_option maxRecDepth 100000 in
theorem open_rec8 {H : Type} {enc : TypeId × Value → H} {w : World} {base b0 : Nat} {spare : Nat → Bool} {held : Bool} {r : Reach} {v : Value} {d : DataW H} {p : List MemPlace}
    (hv : Value.okWide Tryz.prog w r b0 52 v) (h : DataW.Trod enc Tryz.prog w base spare held 52 v d p) : ∃ (z0 : Int) (z1 : Int) (z2 : ByteArray) (z3 : ByteArray) (z4 : Int), v = .agg #[.int .i64 z0, .int .i64 z1, .string z2, .string z3, .int .i64 z4] := by
  obtain ⟨cs, rfl, hsz⟩ := okWide_struct Tryz.underlying52 hv
  have ce : Tryz.prog.cellsOf 52 = 5 := by kernel_rfl
  have ci : Tryz.prog.cellsOf 3 = 1 := by kernel_rfl
  have cs1 : Tryz.prog.cellsOf 9 = 1 := by kernel_rfl
  have cb1 : Tryz.prog.cellsOf 4 = 1 := by kernel_rfl
  have cp : Tryz.prog.cellsOf 50 = 2 := by kernel_rfl
  rw [ce] at hsz
  obtain ⟨fuel, hf⟩ := h
  obtain ⟨l⟩ := cs
  match l, hsz with
  | [c0, c1, c2, c3, c4], _ =>
    obtain ⟨xs, k, hk, hxy, _, hxl, hg⟩ := DataW.trod_struct Tryz.underlying52 hf
    match xs, hxl with
    | [y0, y1, y2, y3], _ =>
      have g0 := hg 0 _ rfl
      have g1 := hg 1 _ rfl
      have g2 := hg 2 _ rfl
      have g3 := hg 3 _ rfl
      simp [ci, cp, cs1, cb1, Value.cells] at g0 g1 g2 g3
      obtain ⟨z2, e2, _⟩ := DataW.trod_string Tryz.underlying9 g1
      obtain ⟨z3, e3, _⟩ := DataW.trod_string Tryz.underlying9 g2
      obtain ⟨z4, e4, _⟩ := DataW.trod_int Tryz.underlying3 g3
      obtain ⟨ys, k', _, _, _, hyl, hh⟩ := DataW.trod_struct Tryz.underlying50 g0
      match ys, hyl with
      | [p0, p1], _ =>
        have f0 := hh 0 _ rfl
        have f1 := hh 1 _ rfl
        simp [ci] at f0 f1
        obtain ⟨z0, e0, _⟩ := DataW.trod_int Tryz.underlying3 f0
        obtain ⟨z1, e1, _⟩ := DataW.trod_int Tryz.underlying3 f1
        simp only [List.cons.injEq, and_true] at e2 e3 e4 e0 e1
        subst e2 e3 e4 e0 e1
        exact ⟨z0, z1, z2, z3, z4, rfl⟩
set_option maxRecDepth 100000 in
theorem open_recs8 {H : Type} {enc : TypeId × Value → H} {w : World} {base : Nat} {spare : Nat → Bool} {held : Bool} {fuel : Nat} {a : Option Addr} {len cap : Nat} {x : DataW H × List MemPlace}
    (h : DataW.trod enc Tryz.prog w base spare held fuel 24 [.slice a len cap] = some x) : ∃ A : List Rq, LentE encQ 5 w.heap.size w (.slice a len cap) A := by
  rcases Go.Deep.open_slice Tryz.underlying24 h with ⟨hcs, _⟩ | ⟨y, l, c, m, n, D, Pl, hcs, _, hl, _, hmm, _, hi⟩
  · simp only [List.cons.injEq, Value.slice.injEq, and_true] at hcs
    obtain ⟨rfl, rfl, rfl⟩ := hcs
    exact ⟨[], none, 0, rfl, .inl rfl⟩
  · simp only [List.cons.injEq, Value.slice.injEq, and_true] at hcs
    obtain ⟨rfl, rfl, rfl⟩ := hcs
    have each : ∀ i, i < len → ∃ q : Rq, ∀ j u, (encQ q)[j]? = some u → w.cell? (y.add (i * 5 + j)) = some u := by
      intro i hil
      obtain ⟨cs', h1, h2⟩ := hi i (by split at hmm <;> omega)
      have ce : Tryz.prog.cellsOf 52 = 5 := by kernel_rfl
      have ci : Tryz.prog.cellsOf 3 = 1 := by kernel_rfl
      have cs1 : Tryz.prog.cellsOf 9 = 1 := by kernel_rfl
      have cp : Tryz.prog.cellsOf 50 = 2 := by kernel_rfl
      rw [ce] at h1
      obtain ⟨_, hlen, hcell⟩ := World.cells?_some h1
      obtain ⟨xs, k, hk, hxy, _, hxl, hg⟩ := DataW.trod_struct Tryz.underlying52 h2
      match xs, hxl, cs', hlen with
      | [y0, y1, y2, y3], _, [c0, c1, c2, c3, c4], _ =>
        have g0 := hg 0 _ rfl
        have g1 := hg 1 _ rfl
        have g2 := hg 2 _ rfl
        have g3 := hg 3 _ rfl
        simp [ci, cp, cs1] at g0 g1 g2 g3
        obtain ⟨z2, e2, _⟩ := DataW.trod_string Tryz.underlying9 g1
        obtain ⟨z3, e3, _⟩ := DataW.trod_string Tryz.underlying9 g2
        obtain ⟨z4, e4, _⟩ := DataW.trod_int Tryz.underlying3 g3
        obtain ⟨ys, k', _, _, _, hyl, hh⟩ := DataW.trod_struct Tryz.underlying50 g0
        match ys, hyl with
        | [p0, p1], _ =>
          have f0 := hh 0 _ rfl
          have f1 := hh 1 _ rfl
          simp [ci] at f0 f1
          obtain ⟨z0, e0, _⟩ := DataW.trod_int Tryz.underlying3 f0
          obtain ⟨z1, e1, _⟩ := DataW.trod_int Tryz.underlying3 f1
          simp only [List.cons.injEq, and_true] at e0 e1 e2 e3 e4
          subst e0 e1 e2 e3 e4
          refine ⟨⟨z0, z1, z2, z3, z4⟩, fun j u hu => ?_⟩
          have hj : j < 5 := (List.getElem?_eq_some_iff.1 hu).1
          have hc := hcell j hj
          rw [Go.Deep.add_add] at hc
          rw [hc]
          exact hu
    obtain ⟨q, hq⟩ : ∃ q : Nat → Rq, ∀ i, i < len → ∀ j u, (encQ (q i))[j]? = some u → w.cell? (y.add (i * 5 + j)) = some u :=
      ⟨fun i => if h : i < len then (each i h).choose else ⟨0, 0, ⟨#[]⟩, ⟨#[]⟩, 0⟩, fun i h j u hu => by simp only [dif_pos h] at hu; exact (each i h).choose_spec j u hu⟩
    refine ⟨(List.range len).map q, some y, cap, by simp, ?_⟩
    by_cases h0 : len = 0
    · exact .inl (by simp [h0])
    · obtain ⟨b, off, spot⟩ := y
      have hc0 := hq 0 (by omega) 0 _ rfl
      have hspot : spot = none := by simpa [Addr.add] using World.cell?_spot hc0
      subst hspot
      refine .inr ⟨b, off, rfl, World.block_lt_of_cell? w _ (by simpa [Addr.add] using hc0), fun i hi' j u hu => ?_⟩
      simp only [List.length_map, List.length_range] at hi'
      simp only [List.getElem_map, List.getElem_range] at hu
      have h1 := hq i hi' j u hu
      rw [Addr.add_lit] at h1
      rw [Nat.add_assoc]
      exact h1
end Go.Proofs.YthfhpejpjiaikaaGreat
