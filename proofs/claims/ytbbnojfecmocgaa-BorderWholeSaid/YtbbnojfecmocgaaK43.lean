/- tiling: gaps, Whole. tiling: Gaps (slices.Collect), List. tiling: New. tiling: all that the laws ask of it. -/
import Derived.Test.YtbbnojfecmocgaaK29
import Derived.Test.YtbbnojfecmocgaaK30
import Derived.Test.YtbbnojfecmocgaaK36
import Derived.Test.YtbbnojfecmocgaaK37
import Derived.Test.YtbbnojfecmocgaaK42
namespace Go.Proofs.Ytbbnojfecmocgaa
open Go.RowKit Go.Shelf
attribute [local go_sem] Oper.semAt_some
set_option linter.unusedVariables false
theorem Off.put {F : Nat → Prop} {W W' : World} (h : Off F W W') {D : Nat} (hD : W.heap.size ≤ D) (o : Obj) : Off F W (W'.putObj D o) := h.trans (off_putObj W' D o) (fun b hb z => by have z' : b = D := z; omega)
end Go.Proofs.Ytbbnojfecmocgaa
namespace Go.Proofs.Ytbbnojfecmocgaa
open Go.RowKit Go.Shelf
attribute [local go_sem] Oper.semAt_some
set_option linter.unusedVariables false
theorem RowE.shape {α : Type} {enc : α → List Value} {n : Nat} {W : World} {base : Nat} {T : TypeId} {v : Value} {l : List α} (h : RowE enc n W base T v l) : ∃ a c, v = .slice a l.length c := by
  rcases h.2 with ⟨h1, h2⟩ | ⟨g, cap, cur, h1, _⟩
  · exact ⟨none, 0, by rw [h1, h2]⟩
  · exact ⟨_, _, h1⟩
set_option maxRecDepth 100000 in
theorem list_any {g : Nat} {p : PT} {k : Int} {w : World} (h : TilO g p k w) : Calls Try.prog 7 #[.pointer (some ⟨g, 0, none⟩)] w fun e W' => ∃ a, e = .returned a ∧ RowE encT 3 W' w.heap.size 37 a (p.tr.tiles 0 0) ∧ Below w.heap.size w W' := by
  have hu := under_any h 0 0
  have he : ((p.tr.tiles 0 0).filter fun s => abvB 0 0 s.d s.b) = p.tr.tiles 0 0 := List.filter_eq_self.2 (fun x hx => (Tr.tiles_abv p.tr 0 0 (by decide) (by have := h.high; have := h.kb; omega) x hx).1)
  rw [he] at hu
  have HU := Lib.hid hu
  clear hu he
  go_enter Try.func7, Try.ntmps7
  go_wp2_with (go_at_call 33; (with_reducible refine HU.out.mono ?_); rintro e w1 ⟨a, rfl, h1, h2⟩)
  go_ret
  exact ⟨a, rfl, h1, h2⟩
end Go.Proofs.Ytbbnojfecmocgaa
namespace Go.Proofs.Ytbbnojfecmocgaa
open Go.RowKit
set_option linter.unusedVariables false
/-- One tile after the other. -/
def addAll (k : Int) : List Tl → List Tl → Int × List Tl
  | acc, [] => (0, acc)
  | acc, t :: l => if (addT k acc t).1 = 0 then addAll k (addT k acc t).2 l else ((addT k acc t).1, acc)
theorem addAll_cons (k : Int) (acc : List Tl) (t : Tl) (l : List Tl) : addAll k acc (t :: l) = if (addT k acc t).1 = 0 then addAll k (addT k acc t).2 l else ((addT k acc t).1, acc) := rfl
def newT (k : Int) (L : List Tl) : Int × List Tl := if rgt k = true then addAll k [] L else (1, [])
/-- Behind New. -/
def NewP (k : Int) (r : Int × List Tl) (w : World) (e : Ending) (W' : World) : Prop :=
  (r.1 = 0 ∧ ∃ g p, e = .returned (.tuple #[.pointer (some ⟨g, 0, none⟩), .int .i64 0]) ∧ TilO g p k W' ∧ p.tr.tiles 0 0 = r.2 ∧ (∀ x ∈ g :: p.bl, w.heap.size ≤ x) ∧ Below w.heap.size w W') ∨
  (r.1 ≠ 0 ∧ e = .returned (.tuple #[.pointer none, .int .i64 r.1]) ∧ Below w.heap.size w W')
set_option maxRecDepth 100000 in
set_option maxHeartbeats 3200000 in
theorem tnew_any {k : Int} {B : Nat} {v : Value} {L : List Tl} (w : World) (hL : ListE encT 3 B w v L) (hB : B ≤ w.heap.size) (hlen : L.length ≤ 1000) : Calls Try.prog 28 #[.int .i64 k, v] w (NewP k (newT k L) w) := by
  obtain ⟨va, cap, rfl, hform⟩ := ListE.form hL
  cases hk : rgt k with
  | false =>
    have hr : newT k L = (1, []) := by unfold newT; rw [if_neg (by rw [hk]; exact Bool.false_ne_true)]
    rw [hr]
    have hn := Lib.hid (new_no k w hk)
    clear hL hform hr
    go_enter Try.func28, Try.ntmps28
    go_wp2_with (go_at_call 57; (with_reducible refine hn.out.mono ?_); rintro e w1 ⟨rfl, hb1⟩)
    go_ret2
    exact .inr ⟨by decide, rfl, Since.alloc hb1 _⟩
  | true =>
    have hr : newT k L = addAll k [] L := by unfold newT; rw [if_pos hk]
    rw [hr]
    clear hr
    have hn := Lib.hid (new_yes k w hk)
    have HK := Lib.hid hk
    have HL := Lib.hid hL
    clear hL
    go_enter Try.func28, Try.ntmps28
    go_wp2_with (go_at_call 57; (with_reducible refine hn.out.mono ?_); rintro e w1 ⟨rfl, hb1⟩)
    obtain ⟨R, hR⟩ : ∃ R, R = addAll k [] L := ⟨_, rfl⟩
    have HR := Lib.hid hR
    clear hR
    go_loopw [25] (fun i wr => ∃ (m : Nat) (p : PT), i = .int .i64 m ∧ m ≤ L.length ∧ TilO (w1.heap.size + 1) p k wr ∧ (∀ x ∈ (w1.heap.size + 1) :: p.bl, w.heap.size ≤ x) ∧ addAll k (p.tr.tiles 0 0) (L.drop m) = R ∧ Below w.heap.size w wr) (fun i _ => L.length - (intOf i).toNat)
    case atStart =>
      have hk2 := (rgt_iff k).1 HK.out
      have hbx := Whole.new (w1.alloc (.cells #[.int .i64 k] 26)) 91 #[.int .i64 k, .pointer none, .int .i64 0]
      refine ⟨0, .gap, rfl, Nat.zero_le _, ⟨hbx.at_ (by simp), trivial, trivial, by simp [PT.bl], by simp [PT.tr, Tr.high]; omega, by simp [PT.tr, Tr.tiles], HK.out⟩, ?_, HR.out.symm, (Since.alloc hb1 _).alloc _⟩
      intro x hx
      have hx' : x = w1.heap.size + 1 := by simpa [PT.bl] using hx
      have := Since.size_ hb1
      omega
    case round =>
      obtain ⟨m, p, rfl, hm, hO, hF, hA, hbw⟩ := hrel
      by_cases hlt : m < L.length
      rotate_left
      · obtain rfl : m = L.length := by omega
        have d1 : decide ((L.length : Int) < L.length) = false := decide_eq_false (by omega)
        go_wp2_with fail
        go_ret2
        have hR : R = (0, p.tr.tiles 0 0) := by rw [← hA, List.drop_length]; rfl
        rw [show addAll k [] L = (0, p.tr.tiles 0 0) from HR.out.symm.trans hR]
        exact .inl ⟨rfl, _, p, rfl, hO, rfl, hF, hbw⟩
      · have d1 : decide ((m : Int) < L.length) = true := decide_eq_true (by omega)
        obtain ⟨g, rfl, hg⟩ := hform m hlt
        obtain ⟨⟨td, tb, tw⟩, ht⟩ : ∃ t, t = L[m] := ⟨_, rfl⟩
        have hat := fun j u (hu : (encT L[m])[j]? = some u) => ListE.at_ HL.out hlt j hu
        rw [← ht] at hat
        have hbl : ∀ j, wr.cell? ⟨g, j, none⟩ = w.cell? ⟨g, j, none⟩ := fun j => World.cell?_of_block (hbw.block g (Nat.lt_of_lt_of_le hg hB))
        have q0 : wr.cell? ⟨g, m * 3, none⟩ = some (.int .i64 td) := (hbl _).trans (hat 0 _ rfl)
        have q1 : wr.cell? ⟨g, m * 3 + 1, none⟩ = some (.int .i64 tb) := (hbl _).trans (hat 1 _ rfl)
        have q2 : wr.cell? ⟨g, m * 3 + 2, none⟩ = some (.int .i64 tw) := (hbl _).trans (hat 2 _ rfl)
        have hdr : L.drop m = ⟨td, tb, tw⟩ :: L.drop (m + 1) := by rw [ht]; exact List.drop_eq_getElem_cons hlt
        rw [hdr] at hA
        have hwrap : wrap64 ((m : Int) + 1) = ((m + 1 : Nat) : Int) := IntWalk.wrap64_in _ ⟨by omega, by omega⟩
        obtain ⟨er, her⟩ : ∃ er, er = (addT k (p.tr.tiles 0 0) ⟨td, tb, tw⟩).1 := ⟨_, rfl⟩
        have HA := Lib.hid hA
        have HE := Lib.hid her
        clear hat hbl hdr hA ht
        have hadd : ∀ W, Since wr W → Calls Try.prog 58 #[.pointer (some ⟨w1.heap.size + 1, 0, none⟩), .agg #[.int .i64 td, .int .i64 tb, .int .i64 tw]] W (ChgO (w1.heap.size + 1) p k (addT k (p.tr.tiles 0 0) ⟨td, tb, tw⟩) W) := fun W hW => add_any (hO.since hW) td tb tw
        have HADD := Lib.hid hadd
        clear hadd her
        have HBW := Lib.hid hbw
        have HFF := Lib.hid hF
        have hsr : Since wr (wr.alloc (.cells #[.int .i64 td, .int .i64 tb, .int .i64 tw] 37)) := (Since.refl wr).alloc _
        have HS := Lib.hid hsr
        clear hbw hF hO hn hform
        go_wp2_with fail
        refine (HADD.out _ HS.out).mono ?_
        rintro e w3 ⟨rfl, p', g1, g2, g3, g4⟩
        rw [← HE.out]
        have hb3 : Below w.heap.size w w3 := by
          have h1 : Below w.heap.size w (wr.alloc (.cells #[.int .i64 td, .int .i64 tb, .int .i64 tw] 37)) := HBW.out.trans (Below.mono HS.out HBW.out.size)
          exact h1.trans (g3.below h1.size (fun x hx => HFF.out x hx))
        have hszr := HS.out.size_
        have hF3 : ∀ x ∈ (w1.heap.size + 1) :: p'.bl, w.heap.size ≤ x := by
          intro x hx
          rcases List.mem_cons.1 hx with rfl | hx
          · exact HFF.out _ List.mem_cons_self
          · rcases g4 x hx with z | z
            · exact HFF.out x (List.mem_cons_of_mem _ z)
            · have := HBW.out.size; omega
        by_cases h0 : er = 0
        · have hA : addAll k (p'.tr.tiles 0 0) (L.drop (m + 1)) = R := by
            rw [← HA.out, addAll_cons]
            rw [if_pos (HE.out ▸ h0), g2]
          have HA2 := Lib.hid hA
          subst h0
          clear hA g2 g3 g4 hszr
          have HG := Lib.hid g1
          have HB3 := Lib.hid hb3
          have HF3 := Lib.hid hF3
          clear g1 hb3 hF3
          go_wp2_with fail
          go_roundw
          case rel => exact ⟨m + 1, p', rfl, by omega, HG.out, HF3.out, HA2.out, HB3.out⟩
          case measure => simp [intOf]; omega
        · have hne : (er == 0) = false := by simpa using h0
          have hR : addAll k [] L = (er, p.tr.tiles 0 0) := by
            rw [← HR.out, ← HA.out, addAll_cons]
            rw [if_neg (by rw [← HE.out]; exact h0), ← HE.out]
          have HR2 := Lib.hid hR
          have HB3 := Lib.hid hb3
          have h00 := Lib.hid h0
          clear hR h0 g1 g2 g3 g4 hb3 hF3 hszr
          go_wp2_with fail
          go_ret2
          rw [HR2.out]
          exact .inr ⟨h00.out, rfl, HB3.out⟩
end Go.Proofs.Ytbbnojfecmocgaa
namespace Go.Proofs.Ytbbnojfecmocgaa
open Go.RowKit
set_option linter.unusedVariables false
/-- A tiling, its blocks, its tree. -/
def TilObj (F : Nat → Prop) (W : World) (v : Value) (k : Int) (t : Tr) : Prop := ∃ g p, v = .pointer (some ⟨g, 0, none⟩) ∧ TilO g p k W ∧ p.tr = t ∧ ∀ b, F b ↔ b ∈ g :: p.bl
theorem ChgO.changes {F : Nat → Prop} {W : World} {g : Nat} {p : PT} {k : Int} {r : Int × List Tl} (hF : ∀ b, F b ↔ b ∈ g :: p.bl) {e : Ending} {W' : World} (h : ChgO g p k r W e W') : Changes TilObj F W (.pointer (some ⟨g, 0, none⟩)) k r e W' := by
  obtain ⟨rfl, q', h1, h2, h3, h4⟩ := h
  refine ⟨rfl, fun b => b ∈ g :: q'.bl, q'.tr, ⟨g, q', rfl, h1, rfl, fun _ => Iff.rfl⟩, h2, h3.mono (fun b _ z => (hF b).2 z), fun b hb => ?_⟩
  rcases List.mem_cons.1 hb with rfl | hb
  · exact .inl ((hF b).2 List.mem_cons_self)
  · exact (h4 b hb).imp (fun z => (hF b).2 (List.mem_cons_of_mem _ z)) id
theorem new_one (k who : Int) (hk : rgt k = true) : newT k [⟨0, 0, who⟩] = (0, [⟨0, 0, who⟩]) := by
  have hk2 := (rgt_iff k).1 hk
  have hok : okP k 0 0 = true := (okP_iff k 0 0).2 ⟨hk2.1, hk2.2, by omega, by omega, by omega, by decide⟩
  have h1 : addT k [] ⟨0, 0, who⟩ = (0, [⟨0, 0, who⟩]) := by
    unfold addT
    rw [if_pos hok]
    rfl
  unfold newT
  rw [if_pos hk, addAll_cons, h1]
  rfl
end Go.Proofs.Ytbbnojfecmocgaa
