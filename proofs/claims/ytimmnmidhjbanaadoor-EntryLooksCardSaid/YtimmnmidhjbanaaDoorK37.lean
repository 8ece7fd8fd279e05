/- An entry that a law is handed by value; numbers that one is handed. -/
import Derived.Test.YtimmnmidhjbanaaDoorK18
import Derived.Test.YtimmnmidhjbanaaDoorK36
import Derived.Deep.Slices
import Derived.ChangeSame
import Derived.Deep.Fields
import Derived.ChangeSlices
namespace Go.Proofs.YtimmnmidhjbanaaDoor
open Go.ChangeShapes Go.WideShapes Go.RowKit
set_option linter.unusedSimpArgs false
theorem lz_ints {w : World} {a : Addr} {len cap : Nat} {zs : List Int} (hl : len ≤ cap) (hn : len ≤ zs.length) (hc : ∀ i, i < zs.length → w.cell? (a.add i) = some (.int .i64 (zs.getD i 0))) : LZ w.heap.size w (.slice (some a) len cap) (zs.take len) := by
  have hlen : (zs.take len).length = len := by rw [List.length_take]; omega
  have := LZ.of (B := w.heap.size) (W := w) (l := zs.take len) (a := some a) (cap := cap) (fun e => by cases e) (by omega) (by
    by_cases h0 : len = 0
    · exact .inl (by omega)
    · obtain ⟨b, off, spot⟩ := a
      have hc0 := hc 0 (by omega)
      have hspot : spot = none := by simpa [Addr.add] using World.cell?_spot hc0
      subst hspot
      refine .inr ⟨b, off, rfl, World.block_lt_of_cell? w _ hc0, fun i x hx => ?_⟩
      rw [List.getElem?_take] at hx
      split at hx
      · have hi := (List.getElem?_eq_some_iff.1 hx).1
        have h2 := hc i hi
        rw [Addr.add_lit, List.getD_eq_getElem?_getD, hx] at h2
        exact h2
      · cases hx)
  rwa [hlen] at this
theorem lz_of_row {w : World} {a : Option Addr} {len cap : Nat} {zs : List Int} (h : RowIn .i64 w a len cap zs) : LZ w.heap.size w (.slice a len cap) (zs.take len) := by
  rcases h with ⟨rfl, rfl, rfl, rfl⟩ | ⟨x, rfl, hl, hm, hz, hcell, hwz⟩
  · exact LZ.nil _ _
  · exact lz_ints hl (by omega) hcell
set_option maxRecDepth 100000 in
theorem open_entry11 {H : Type} {enc : TypeId × Value → H} {w : World} {base b0 : Nat} {spare : Nat → Bool} {held : Bool} {r : Reach} {v : Value} {d : DataW H} {p : List MemPlace}
    (hv : Value.okWide Tryd.prog w r b0 28 v) (h : DataW.Trod enc Tryd.prog w base spare held 28 v d p) :
    ∃ (z0 z1 z2 z3 : Int) (z4 z5 : ByteArray) (z6 z7 z8 z9 z10 : Int) (ca : Option Addr) (cn cc : Nat) (l : List Int), v = .agg #[.int .i64 z0, .int .i64 z1, .int .i64 z2, .int .i64 z3, .string z4, .string z5, .int .i64 z6, .int .i64 z7, .int .i64 z8, .int .i64 z9, .int .i64 z10, .slice ca cn cc] ∧ LZ w.heap.size w (.slice ca cn cc) l := by
  obtain ⟨cs, rfl, hsz⟩ := okWide_struct Tryd.underlying28 hv
  have ce : Tryd.prog.cellsOf 28 = 12 := by kernel_rfl
  have ci : Tryd.prog.cellsOf 3 = 1 := by kernel_rfl
  have cs1 : Tryd.prog.cellsOf 9 = 1 := by kernel_rfl
  have cl1 : Tryd.prog.cellsOf 26 = 1 := by kernel_rfl
  have co : Tryd.prog.cellsOf 25 = 7 := by kernel_rfl
  have cp : Tryd.prog.cellsOf 23 = 2 := by kernel_rfl
  rw [ce] at hsz
  obtain ⟨fuel, hf⟩ := h
  obtain ⟨l⟩ := cs
  match l, hsz with
  | [c0, c1, c2, c3, c4, c5, c6, c7, c8, c9, c10, c11], _ =>
    obtain ⟨xs, k, hk, hxy, _, hxl, hg⟩ := DataW.trod_struct Tryd.underlying28 hf
    match xs, hxl with
    | [y0, y1, y2, y3, y4, y5], _ =>
      have g0 := hg 0 _ rfl
      have g1 := hg 1 _ rfl
      have g2 := hg 2 _ rfl
      have g3 := hg 3 _ rfl
      have g4 := hg 4 _ rfl
      have g5 := hg 5 _ rfl
      simp [ci, cp, cs1, cl1, co, Value.cells] at g0 g1 g2 g3 g4 g5
      obtain ⟨z0, e0, _⟩ := DataW.trod_int Tryd.underlying3 g0
      obtain ⟨z8, e8, _⟩ := DataW.trod_int Tryd.underlying3 g2
      obtain ⟨z9, e9, _⟩ := DataW.trod_int Tryd.underlying3 g3
      obtain ⟨z10, e10, _⟩ := DataW.trod_int Tryd.underlying3 g4
      obtain ⟨xo, ko, _, _, _, hol, ho⟩ := DataW.trod_struct Tryd.underlying25 g1
      match xo, hol with
      | [o0, o1, o2, o3, o4, o5], _ =>
        have q0 := ho 0 _ rfl
        have q1 := ho 1 _ rfl
        have q2 := ho 2 _ rfl
        have q3 := ho 3 _ rfl
        have q4 := ho 4 _ rfl
        have q5 := ho 5 _ rfl
        simp [ci, cp, cs1, Value.cells] at q0 q1 q2 q3 q4 q5
        obtain ⟨z1, e1, _⟩ := DataW.trod_int Tryd.underlying3 q0
        obtain ⟨z4, e4, _⟩ := DataW.trod_string Tryd.underlying9 q2
        obtain ⟨z5, e5, _⟩ := DataW.trod_string Tryd.underlying9 q3
        obtain ⟨z6, e6, _⟩ := DataW.trod_int Tryd.underlying3 q4
        obtain ⟨z7, e7, _⟩ := DataW.trod_int Tryd.underlying3 q5
        obtain ⟨ys, k', _, _, _, hyl, hh⟩ := DataW.trod_struct Tryd.underlying23 q1
        match ys, hyl with
        | [p0, p1], _ =>
          have f0 := hh 0 _ rfl
          have f1 := hh 1 _ rfl
          simp [ci] at f0 f1
          obtain ⟨z2, e2, _⟩ := DataW.trod_int Tryd.underlying3 f0
          obtain ⟨z3, e3, _⟩ := DataW.trod_int Tryd.underlying3 f1
          simp only [List.cons.injEq, and_true] at e0 e1 e2 e3 e4 e5 e6 e7 e8 e9 e10
          subst e0 e1 e2 e3 e4 e5 e6 e7 e8 e9 e10
          rcases open_ints Tryd.underlying26 Tryd.underlying3 (by kernel_rfl) g5 with ⟨hcs, _⟩ | ⟨x, len, cap, zs, hcs, _, hl, hm, hz, _, hcell, hwz⟩
          · simp only [List.cons.injEq, and_true] at hcs
            subst hcs
            exact ⟨z0, z1, z2, z3, z4, z5, z6, z7, z8, z9, z10, none, 0, 0, [], rfl, LZ.nil _ _⟩
          · simp only [List.cons.injEq, and_true] at hcs
            subst hcs
            exact ⟨z0, z1, z2, z3, z4, z5, z6, z7, z8, z9, z10, some x, len, cap, zs.take len, rfl, lz_ints hl (by rw [hz]; split <;> omega) hcell⟩
end Go.Proofs.YtimmnmidhjbanaaDoor
