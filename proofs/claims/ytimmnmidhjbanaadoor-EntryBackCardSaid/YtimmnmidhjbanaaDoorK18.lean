/- The walk of the law WireSums: the sum of any bytes is the document's; with one bit turned it is another one. An entry that a law is handed by value; numbers that one is handed. wire.Text and gleberef01.Text. The walk of the law WireNumbers: any number's and any text's bytes are the document's. -/
import Derived.Test.YtimmnmidhjbanaaDoorK08
import Derived.Test.YtimmnmidhjbanaaDoorK16
import Derived.Test.YtimmnmidhjbanaaDoorK17
import Derived.Deep.Slices
import Derived.ChangeSame
import Derived.Deep.Fields
import Derived.ChangeSlices
import Derived.Lib.SlBytesConst
import Derived.Deep.RegionHeld3
namespace Go.Proofs.YtimmnmidhjbanaaDoor
open Go.RowKit
/-- A slice of bytes that came in. -/
def RowIn (k : IntKind) (w : World) (a : Option Addr) (len cap : Nat) (zs : List Int) : Prop :=
  (a = none ∧ len = 0 ∧ cap = 0 ∧ zs = []) ∨
  ∃ x, a = some x ∧ len ≤ cap ∧ cap ≤ maxLen ∧ zs.length = cap ∧ (∀ i, i < zs.length → w.cell? (x.add i) = some (.int k (zs.getD i 0))) ∧ ∀ n ∈ zs, (Lit.int k n).wf = true
theorem wf_byte {n : Int} (h : (Lit.int .u8 n).wf = true) : 0 ≤ n ∧ n < 256 := by
  simp [Lit.wf, IntKind.min, IntKind.max, IntKind.signed, IntKind.bits] at h
  omega
theorem rd_of_row {w : World} {a : Option Addr} {len cap : Nat} {zs : List Int} (h : RowIn .u8 w a len cap zs) : ∃ l : List UInt8, l.length = len ∧ Rd w w.heap.size a l ∧ len ≤ cap := by
  rcases h with ⟨rfl, rfl, rfl, rfl⟩ | ⟨x, rfl, hl, hm, hz, hcell, hwz⟩
  · exact ⟨[], rfl, .inl rfl, Nat.le_refl _⟩
  · refine ⟨(zs.take len).map fun z => UInt8.ofNat z.toNat, by simp [hz, hl], ?_, hl⟩
    by_cases h0 : len = 0
    · subst h0
      exact .inl rfl
    · obtain ⟨b, off, spot⟩ := x
      have hc0 := hcell 0 (by omega)
      have hspot : spot = none := by simpa [Addr.add] using World.cell?_spot hc0
      subst hspot
      refine .inr ⟨b, off, rfl, World.block_lt_of_cell? w _ hc0, fun i hi => ?_⟩
      have hi2 : i < len := by
        have := hi
        simp only [List.length_map, List.length_take] at this
        omega
      have hc := hcell i (by omega)
      rw [Addr.add_lit] at hc
      rw [hc]
      have hg : zs.getD i 0 = zs[i]'(by omega) := by simp [List.getD, show i < zs.length by omega]
      have hw := wf_byte (hwz _ (List.getElem_mem (show i < zs.length by omega)))
      rw [hg]
      simp only [List.getElem_map, List.getElem_take]
      rw [ofNat_toNat (by omega)]
      congr 2
      omega
theorem Rd.set_ {w : World} {B g off i : Nat} {l : List UInt8} (h : Rd w B (some ⟨g, off, none⟩) l) (hi : i < l.length) (y : UInt8) :
    Rd (w.setCell ⟨g, off + i, none⟩ (.int .u8 (y.toNat : Int))) B (some ⟨g, off, none⟩) (l.set i y) := by
  obtain ⟨b, o, he, hb, hc⟩ := h.at_ hi
  injection he with he
  injection he with e1 e2
  subst e1; subst e2
  refine .inr ⟨g, off, rfl, hb, fun k hk => ?_⟩
  rw [List.length_set] at hk
  by_cases e : i = k
  · subst e
    have hx := hc i hi
    rw [World.cell?_setCell_same w _ _ hx]
    simp
  · rw [World.cell?_setCell_other w _ _ _ (fun h => by injection h with _ h; omega), hc k hk]
    simp [e]
end Go.Proofs.YtimmnmidhjbanaaDoor
namespace Go.Proofs.YtimmnmidhjbanaaDoor
open Go.ChangeShapes Go.WideShapes Go.RowKit
set_option linter.unusedSimpArgs false
theorem lz_ints {w : World} {a : Addr} {len cap : Nat} {zs : List Int} (hl : len ≤ cap) (hn : len ≤ zs.length) (hc : ∀ i, i < zs.length → w.cell? (a.add i) = some (.int .i64 (zs.getD i 0))) : LZ w.heap.size w (.slice (some a) len cap) (zs.take len) := by
  have hlen : (zs.take len).length = len := by rw [List.length_take]; omega
  have := LZ.of (B := w.heap.size) (W := w) (l := zs.take len) (a := some a) (cap := cap) (fun e => by cases e) (by omega) (by
    by_cases h0 : len = 0
    · exact .inl (by omega)
    · obtain ⟨b, off, spot⟩ := a
      have hc0 := hc 0 (by omega)
      have hspot : spot = none := by simpa [Addr.add] using World.cell?_spot hc0
      subst hspot
      refine .inr ⟨b, off, rfl, World.block_lt_of_cell? w _ hc0, fun i x hx => ?_⟩
      rw [List.getElem?_take] at hx
      split at hx
      · have hi := (List.getElem?_eq_some_iff.1 hx).1
        have h2 := hc i hi
        rw [Addr.add_lit, List.getD_eq_getElem?_getD, hx] at h2
        exact h2
      · cases hx)
  rwa [hlen] at this
set_option maxRecDepth 100000 in
theorem open_entry11 {H : Type} {enc : TypeId × Value → H} {w : World} {base b0 : Nat} {spare : Nat → Bool} {held : Bool} {r : Reach} {v : Value} {d : DataW H} {p : List MemPlace}
    (hv : Value.okWide Tryd.prog w r b0 28 v) (h : DataW.Trod enc Tryd.prog w base spare held 28 v d p) :
    ∃ (z0 z1 z2 z3 : Int) (z4 z5 : ByteArray) (z6 z7 z8 z9 z10 : Int) (ca : Option Addr) (cn cc : Nat) (l : List Int), v = .agg #[.int .i64 z0, .int .i64 z1, .int .i64 z2, .int .i64 z3, .string z4, .string z5, .int .i64 z6, .int .i64 z7, .int .i64 z8, .int .i64 z9, .int .i64 z10, .slice ca cn cc] ∧ LZ w.heap.size w (.slice ca cn cc) l := by
  obtain ⟨cs, rfl, hsz⟩ := okWide_struct Tryd.underlying28 hv
  have ce : Tryd.prog.cellsOf 28 = 12 := by kernel_rfl
  have ci : Tryd.prog.cellsOf 3 = 1 := by kernel_rfl
  have cs1 : Tryd.prog.cellsOf 9 = 1 := by kernel_rfl
  have cl1 : Tryd.prog.cellsOf 26 = 1 := by kernel_rfl
  have co : Tryd.prog.cellsOf 25 = 7 := by kernel_rfl
  have cp : Tryd.prog.cellsOf 23 = 2 := by kernel_rfl
  rw [ce] at hsz
  obtain ⟨fuel, hf⟩ := h
  obtain ⟨l⟩ := cs
  match l, hsz with
  | [c0, c1, c2, c3, c4, c5, c6, c7, c8, c9, c10, c11], _ =>
    obtain ⟨xs, k, hk, hxy, _, hxl, hg⟩ := DataW.trod_struct Tryd.underlying28 hf
    match xs, hxl with
    | [y0, y1, y2, y3, y4, y5], _ =>
      have g0 := hg 0 _ rfl
      have g1 := hg 1 _ rfl
      have g2 := hg 2 _ rfl
      have g3 := hg 3 _ rfl
      have g4 := hg 4 _ rfl
      have g5 := hg 5 _ rfl
      simp [ci, cp, cs1, cl1, co, Value.cells] at g0 g1 g2 g3 g4 g5
      obtain ⟨z0, e0, _⟩ := DataW.trod_int Tryd.underlying3 g0
      obtain ⟨z8, e8, _⟩ := DataW.trod_int Tryd.underlying3 g2
      obtain ⟨z9, e9, _⟩ := DataW.trod_int Tryd.underlying3 g3
      obtain ⟨z10, e10, _⟩ := DataW.trod_int Tryd.underlying3 g4
      obtain ⟨xo, ko, _, _, _, hol, ho⟩ := DataW.trod_struct Tryd.underlying25 g1
      match xo, hol with
      | [o0, o1, o2, o3, o4, o5], _ =>
        have q0 := ho 0 _ rfl
        have q1 := ho 1 _ rfl
        have q2 := ho 2 _ rfl
        have q3 := ho 3 _ rfl
        have q4 := ho 4 _ rfl
        have q5 := ho 5 _ rfl
        simp [ci, cp, cs1, Value.cells] at q0 q1 q2 q3 q4 q5
        obtain ⟨z1, e1, _⟩ := DataW.trod_int Tryd.underlying3 q0
        obtain ⟨z4, e4, _⟩ := DataW.trod_string Tryd.underlying9 q2
        obtain ⟨z5, e5, _⟩ := DataW.trod_string Tryd.underlying9 q3
        obtain ⟨z6, e6, _⟩ := DataW.trod_int Tryd.underlying3 q4
        obtain ⟨z7, e7, _⟩ := DataW.trod_int Tryd.underlying3 q5
        obtain ⟨ys, k', _, _, _, hyl, hh⟩ := DataW.trod_struct Tryd.underlying23 q1
        match ys, hyl with
        | [p0, p1], _ =>
          have f0 := hh 0 _ rfl
          have f1 := hh 1 _ rfl
          simp [ci] at f0 f1
          obtain ⟨z2, e2, _⟩ := DataW.trod_int Tryd.underlying3 f0
          obtain ⟨z3, e3, _⟩ := DataW.trod_int Tryd.underlying3 f1
          simp only [List.cons.injEq, and_true] at e0 e1 e2 e3 e4 e5 e6 e7 e8 e9 e10
          subst e0 e1 e2 e3 e4 e5 e6 e7 e8 e9 e10
          rcases open_ints Tryd.underlying26 Tryd.underlying3 (by kernel_rfl) g5 with ⟨hcs, _⟩ | ⟨x, len, cap, zs, hcs, _, hl, hm, hz, _, hcell, hwz⟩
          · simp only [List.cons.injEq, and_true] at hcs
            subst hcs
            exact ⟨z0, z1, z2, z3, z4, z5, z6, z7, z8, z9, z10, none, 0, 0, [], rfl, LZ.nil _ _⟩
          · simp only [List.cons.injEq, and_true] at hcs
            subst hcs
            exact ⟨z0, z1, z2, z3, z4, z5, z6, z7, z8, z9, z10, some x, len, cap, zs.take len, rfl, lz_ints hl (by rw [hz]; split <;> omega) hcell⟩
end Go.Proofs.YtimmnmidhjbanaaDoor
namespace Go.Proofs.YtimmnmidhjbanaaDoor
open Go.RowKit
def textB (l : List UInt8) : List UInt8 := numB l.length ++ l
set_option maxRecDepth 100000 in
theorem text_good (s : ByteArray) (w : World) (h : (s.size : Int) ≤ 131072) :
    Calls Tryd.prog 95 #[.string s] w (SliceNumPost w.heap.size (textB s.data.toList) 0 w) := by
  have hsz := Lib.hid (show s.data.toList.length = s.size by simp)
  go_enter Tryd.func95, Tryd.ntmps95
  go_wp2_with fail
  refine (appendNum_at w.heap.size none 0 0 [] _ w (Has.nil _ _) (Nat.le_refl _) (by omega) (by omega) (by omega)).mono ?_
  rintro e w1 ⟨A1, n1, c1, rfl, h1, hb1⟩
  have hs1 := hb1.size
  have hl1 : (([] ++ numB ((s.size : Int)).toNat) : List UInt8).length ≤ 9 := by
    rw [List.nil_append]
    exact numB_le (by omega)
  go_wp2_with (at_builtin; refine wpList_grow _ rfl (.tmp 9) (.tmp 10) _ rfl w.heap.size _ _ rfl h1.own _ s.data.toList rfl (src_of_text _ s) (by rw [hsz.out]; omega) hs1 ?_; intro A2 n2 c2 w2 h2 hb2)
  go_ret2
  refine ⟨A2, n2, c2, rfl, ?_, hb1.trans hb2⟩
  have e : ((s.size : Int)).toNat = s.data.toList.length := by rw [hsz.out]; simp
  rw [e] at h2
  exact h2
end Go.Proofs.YtimmnmidhjbanaaDoor
namespace Go.Proofs.YtimmnmidhjbanaaDoor
open Go.RowKit
/-- A text that stays in memory: what it is told as, in each later world. -/
theorem text_later {w : World} {base : Nat} {A : Option Addr} {n c : Nat} {l : List UInt8} (h : Has w base A n c l) : ∀ W : World, Below w.heap.size w W → (convert 31 9 (.slice A n c)).run Tryd.prog W = .ok (.string ⟨l.toArray⟩) W :=
  fun W hW => text_of W n c (h.below hW).rd h.len
end Go.Proofs.YtimmnmidhjbanaaDoor
