/- append(s, x...) of a whole list onto a list of the call's own; parts of lists. Nothing of one program. session.Join, Same. glebelaw07's own Rec, Op, Ans, RefRec, RefOp, RefAns, num, long. glebelaw09: Light, both, Same, knows. -/
import Derived.Test.YtbgfjkgpekkciaaK01
import Derived.Test.YtbgfjkgpekkciaaK03
import Derived.Test.YtbgfjkgpekkciaaK20
import Derived.Test.YtbgfjkgpekkciaaK24
import Derived.Test.YtbgfjkgpekkciaaK25
import Derived.DeepKeys
import Derived.Laws.Rows
import Derived.Deep.WholeRow
import Derived.RangeFuncRecord
namespace Go.Proofs.Ytbgfjkgpekkciaa
open Go.RowKit
set_option linter.unusedVariables false
section
variable {α : Type} {enc : α → List Value} {n : Nat} {W W' : World}
/-- A part of a list that lies there, at whatever place. -/
def PartE (enc : α → List Value) (W : World) (x : Value) (m : List α) : Prop :=
  (x = .slice none 0 0 ∧ m = []) ∨ ∃ ad c, x = .slice (some ad) m.length c ∧ ∀ j u, (m.flatMap enc)[j]? = some u → W.cell? (ad.add j) = some u
/-- A list of one in memory. -/
theorem PartE.one {g : Nat} {t : TypeId} {r : α} {c : Nat} (h : Whole W g t (enc r).toArray) : PartE enc W (.slice (some ⟨g, 0, none⟩) 1 c) [r] :=
  .inr ⟨_, c, rfl, fun j u hu => by
    rw [show (⟨g, 0, none⟩ : Addr).add j = ⟨g, j, none⟩ by unfold Addr.add; split <;> simp_all, h.cell j]
    simpa using hu⟩
theorem flat_take (hlen : ∀ r, (enc r).length = n) : ∀ (l : List α) (i : Nat), (l.take i).flatMap enc = (l.flatMap enc).take (i * n)
  | [], i => by simp
  | r :: l, 0 => by simp
  | r :: l, i + 1 => by
    rw [List.take_succ_cons, List.flatMap_cons, List.flatMap_cons, flat_take hlen l i, Nat.add_mul, Nat.one_mul, List.take_append, List.take_of_length_le (l := enc r) (by rw [hlen]; omega), hlen, Nat.add_sub_cancel]
theorem flat_drop (hlen : ∀ r, (enc r).length = n) : ∀ (l : List α) (i : Nat), (l.drop i).flatMap enc = (l.flatMap enc).drop (i * n)
  | [], i => by simp
  | r :: l, 0 => by simp
  | r :: l, i + 1 => by
    rw [List.drop_succ_cons, List.flatMap_cons, flat_drop hlen l i, Nat.add_mul, Nat.one_mul, List.drop_append, List.drop_of_length_le (l := enc r) (by rw [hlen]; omega), hlen, Nat.add_sub_cancel, List.nil_append]
theorem RowE.take {g cap i : Nat} {base : Nat} {T : TypeId} {l : List α} (h : RowE enc n W base T (.slice (some ⟨g, 0, none⟩) l.length cap) l) (hlen : ∀ r, (enc r).length = n) (hi : i ≤ l.length) : PartE enc W (.slice (some ⟨g, 0, none⟩) i cap) (l.take i) := by
  have hl : (l.take i).length = i := by rw [List.length_take]; omega
  refine .inr ⟨_, cap, by rw [hl], fun j u hu => ?_⟩
  rw [flat_take hlen] at hu
  exact World.ownsRow.cells (g := g) h rfl j u (by
    rw [List.getElem?_take] at hu
    split at hu
    · exact hu
    · cases hu)
theorem RowE.drop {g cap i c : Nat} {base : Nat} {T : TypeId} {l : List α} (h : RowE enc n W base T (.slice (some ⟨g, 0, none⟩) l.length cap) l) (hlen : ∀ r, (enc r).length = n) : PartE enc W (.slice (some ⟨g, i * n, none⟩) (l.length - i) c) (l.drop i) := by
  refine .inr ⟨_, c, by rw [List.length_drop], fun j u hu => ?_⟩
  rw [flat_drop hlen, List.getElem?_drop] at hu
  have := World.ownsRow.cells (g := g) h rfl (i * n + j) u hu
  rw [add_at] at this
  rw [show (⟨g, i * n, none⟩ : Addr).add j = ⟨g, i * n + j, none⟩ by unfold Addr.add; split <;> simp_all]
  exact this
end
end Go.Proofs.Ytbgfjkgpekkciaa
namespace Go.Proofs.Ytbgfjkgpekkciaa
open Go.RowKit
set_option linter.unusedVariables false
set_option linter.unusedSimpArgs false
theorem set_same {α : Type} {l : List α} {i : Nat} {a : α} (h : l[i]? = some a) : l.set i a = l := by
  obtain ⟨h1, rfl⟩ := List.getElem?_eq_some_iff.1 h
  exact List.set_getElem_self h1
section
variable {w : World} {g u : Nat} {L M : STab}
end
end Go.Proofs.Ytbgfjkgpekkciaa
namespace Go.Proofs.Ytbgfjkgpekkciaa
open Go.RowKit
set_option linter.unusedVariables false
theorem lawRefAns_any (er : Int) (fd : Bool) (val : ByteArray) (ver : Int) (w : World) : Calls Try.prog 32 #[.agg #[.int .i64 er, .bool fd, .string val, .int .i64 ver]] w fun e w' => e = .returned (.agg #[.int .i64 er, .bool fd, .string val, .int .i64 ver]) ∧ Below w.heap.size w w' := by
  go_enter Try.func32, Try.ntmps32
  go_wp2
  exact bodyPost_ret (results_cell_row rfl _ _ (w.heap.size + 1) 44 _ (0, 0) _ rfl ((Whole.new (w.alloc _) _ _).at_ (by simp)) Try.underlying44 rfl (by kernel_rfl)) rfl ⟨rfl, ((Since.refl w).alloc _).alloc _⟩
end Go.Proofs.Ytbgfjkgpekkciaa
namespace Go.Proofs.Ytbgfjkgpekkciaa
open Go.RowKit
set_option linter.unusedVariables false
set_option linter.unusedSimpArgs false
/-- What a law is handed: a client, a Seq, an answer. -/
structure SC where
  c : Int
  s : Int
  er : Int
  fd : Bool
  val : ByteArray
  ver : Int
def SC.row (a : SC) : SR := ⟨a.er, a.fd, a.val, a.ver, a.s⟩
theorem num9_any (k : Int) (w : World) : Calls Try.prog 12 #[.int .i64 k] w fun e w' => e = .returned (.int .i64 k) ∧ w = w' := by
  go_enter Try.func12, Try.ntmps12
  go_wp2
  go_ret
  exact ⟨rfl, rfl⟩
/-- Note, whatever it answers. -/
theorem tnote_any {w : World} {g : Nat} {L L' : STab} (h : PTab w g L) {c : Int} {a : SR} {r : Int} (hr : noteT L c a.seq (ansB a.er a.fd a.val a.ver) = r) (hL : notedT L c a = L') :
    Calls Try.prog 20 #[.pointer (some ⟨g, 0, none⟩), .int .i64 c, .int .i64 a.seq, .agg #[.int .i64 a.er, .bool a.fd, .string a.val, .int .i64 a.ver]] w (NotePost g r L' w) := by
  subst hL
  unfold notedT
  by_cases h0 : r = 0
  · subst h0
    rw [if_pos hr]
    exact note_yes h hr
  · rw [hr, if_neg h0]
    exact note_no h rfl hr h0
section
variable {B len cap : Nat} {v : Value} {A : List SC} {w : World}
end
end Go.Proofs.Ytbgfjkgpekkciaa
