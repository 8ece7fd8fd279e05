/- The acts that a law is handed, opened to their cells. -/
import Derived.Test.YtbbnojfecmocgaaK45
import Derived.Deep.Slices
import Derived.ChangeSame
import Derived.Deep.Fields
namespace Go.Proofs.Ytbbnojfecmocgaa
open Go.ChangeShapes Go.WideShapes Go.RowKit
set_option maxRecDepth 100000 in
theorem open_acts {H : Type} {enc : TypeId × Value → H} {w : World} {base : Nat} {spare : Nat → Bool} {held : Bool} {fuel : Nat} {a : Option Addr} {len cap : Nat} {x : DataW H × List MemPlace}
    (h : DataW.trod enc Try.prog w base spare held fuel 22 [.slice a len cap] = some x) : ∃ A : List Ac, LentE encA 4 w.heap.size w (.slice a len cap) A := by
  rcases Go.Deep.open_slice Try.underlying22 h with ⟨hcs, _⟩ | ⟨y, l, c, m, n, D, Pl, hcs, _, hl, _, hmm, _, hi⟩
  · simp only [List.cons.injEq, Value.slice.injEq, and_true] at hcs
    obtain ⟨rfl, rfl, rfl⟩ := hcs
    exact ⟨[], none, 0, rfl, .inl rfl⟩
  · simp only [List.cons.injEq, Value.slice.injEq, and_true] at hcs
    obtain ⟨rfl, rfl, rfl⟩ := hcs
    have each : ∀ i, i < len → ∃ q : Ac, ∀ j u, (encA q)[j]? = some u → w.cell? (y.add (i * 4 + j)) = some u := by
      intro i hil
      obtain ⟨cs', h1, h2⟩ := hi i (by split at hmm <;> omega)
      have ce : Try.prog.cellsOf 75 = 4 := by kernel_rfl
      have ci : Try.prog.cellsOf 3 = 1 := by kernel_rfl
      have cp : Try.prog.cellsOf 35 = 2 := by kernel_rfl
      rw [ce] at h1
      obtain ⟨_, hlen, hcell⟩ := World.cells?_some h1
      obtain ⟨xs, k, hk, hxy, _, hxl, hf⟩ := DataW.trod_struct Try.underlying75 h2
      match xs, hxl, cs', hlen with
      | [y0, y1, y2], _, [c0, c1, c2, c3], _ =>
        have g0 := hf 0 _ rfl
        have g1 := hf 1 _ rfl
        have g2 := hf 2 _ rfl
        simp [ci, cp] at g0 g1 g2
        obtain ⟨z0, e0, _⟩ := DataW.trod_int Try.underlying3 g0
        obtain ⟨z3, e3, _⟩ := DataW.trod_int Try.underlying3 g2
        obtain ⟨ys, k', _, _, _, hyl, hg⟩ := DataW.trod_struct Try.underlying35 g1
        match ys, hyl with
        | [p0, p1], _ =>
          have f0 := hg 0 _ rfl
          have f1 := hg 1 _ rfl
          simp [ci] at f0 f1
          obtain ⟨z1, e1, _⟩ := DataW.trod_int Try.underlying3 f0
          obtain ⟨z2, e2, _⟩ := DataW.trod_int Try.underlying3 f1
          simp only [List.cons.injEq, and_true] at e0 e1 e2 e3
          subst e0 e1 e2 e3
          refine ⟨⟨z0, z1, z2, z3⟩, fun j u hu => ?_⟩
          have hj : j < 4 := (List.getElem?_eq_some_iff.1 hu).1
          have hc := hcell j hj
          rw [Go.Deep.add_add] at hc
          rw [hc]
          exact hu
    obtain ⟨q, hq⟩ : ∃ q : Nat → Ac, ∀ i, i < len → ∀ j u, (encA (q i))[j]? = some u → w.cell? (y.add (i * 4 + j)) = some u :=
      ⟨fun i => if h : i < len then (each i h).choose else ⟨0, 0, 0, 0⟩, fun i h j u hu => by simp only [dif_pos h] at hu; exact (each i h).choose_spec j u hu⟩
    refine ⟨(List.range len).map q, some y, cap, by simp, ?_⟩
    by_cases h0 : len = 0
    · exact .inl (by simp [h0])
    · obtain ⟨b, off, spot⟩ := y
      have hc0 := hq 0 (by omega) 0 _ rfl
      have hspot : spot = none := by simpa [Addr.add] using World.cell?_spot hc0
      subst hspot
      refine .inr ⟨b, off, rfl, World.block_lt_of_cell? w _ (by simpa [Addr.add] using hc0), fun i hi' j u hu => ?_⟩
      simp only [List.length_map, List.length_range] at hi'
      simp only [List.getElem_map, List.getElem_range] at hu
      have h1 := hq i hi' j u hu
      rw [Addr.add_lit] at h1
      rw [Nat.add_assoc]
      exact h1
end Go.Proofs.Ytbbnojfecmocgaa
