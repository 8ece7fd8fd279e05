/- Entries as values whose cells are not looked at: what the law's last region asks of each call. -/
import Derived.Test.YtimmnmidhjbanaaDoorK40
import Derived.Test.YtimmnmidhjbanaaDoorK41
import Derived.Deep.MidRow
namespace Go.Proofs.YtimmnmidhjbanaaDoor
open Go.RowKit
set_option linter.unusedVariables false
set_option linter.unusedSimpArgs false
/-- An entry of these parts and this chain. -/
def EnV (v : Value) (E : En) (l : List Int) (W : World) : Prop := ∃ a n c, v = .agg #[.int .i64 E.kind, .int .i64 E.ok, .int .i64 E.x, .int .i64 E.y, .string E.key, .string E.val, .int .i64 E.cl, .int .i64 E.seq, .int .i64 E.nd, .int .i64 E.ep, .int .i64 E.bx, .slice a n c] ∧ LZ W.heap.size W (.slice a n c) l
section
variable {v v2 : Value} {E E2 : En} {l l2 : List Int} {W W' : World}
theorem EnV.since (h : EnV v E l W) (hs : Since W W') : EnV v E l W' := by
  obtain ⟨a, n, c, e, h⟩ := h
  exact ⟨a, n, c, e, (h.since hs (Nat.le_refl _)).mono hs.size_⟩
def OwnV (E : En) (l : List Int) (W : World) (e : Ending) (W' : World) : Prop := ∃ v', e = .returned v' ∧ EnV v' E l W' ∧ Since W W'
theorem ownV (h : EnV v E l W) (hl : l.length ≤ 1000) : Calls Tryd.prog 10 #[v] W (OwnV E l W) := by
  obtain ⟨a, n, c, rfl, h⟩ := h
  refine (own11_any h (Nat.le_refl _) hl).mono ?_
  rintro e w' ⟨x, m, d, rfl, hr, hb⟩
  exact ⟨_, rfl, ⟨x, m, d, rfl, RZ.lz hr⟩, hb⟩
theorem refV (h : EnV v E l W) (hl : l.length ≤ 1000) : Calls Tryd.prog 27 #[v] W (OwnV E l W) := by
  obtain ⟨a, n, c, rfl, h⟩ := h
  refine (ref11_any h (Nat.le_refl _) hl).mono ?_
  rintro e w' ⟨x, m, d, rfl, hr, hb⟩
  exact ⟨_, rfl, ⟨x, m, d, rfl, RZ.lz hr⟩, hb⟩
theorem rightV (h : EnV v E l W) (hl : l.length ≤ 1000000) {r : Bool} (hr : rightB E l = r) : Calls Tryd.prog 23 #[v] W fun e w' => e = .returned (.bool r) ∧ Below W.heap.size W w' := by
  obtain ⟨a, n, c, rfl, h⟩ := h
  exact right11_any h (Nat.le_refl _) hl hr
theorem refRightV (h : EnV v E l W) (hl : l.length ≤ 1000000) {r : Bool} (hr : rightB E l = r) : Calls Tryd.prog 20 #[v] W fun e w' => e = .returned (.bool r) ∧ Below W.heap.size W w' := by
  obtain ⟨a, n, c, rfl, h⟩ := h
  exact refRight11_any h (Nat.le_refl _) hl hr
theorem refPutV (h : EnV v E l W) (hl : l.length ≤ 1000) {b : Bool} {L : List UInt8} (hb : rightB E l = b) (hL : (if b then entL E l else []) = L) : Calls Tryd.prog 18 #[v] W (SlicePost W.heap.size L W) := by
  obtain ⟨a, n, c, rfl, h⟩ := h
  exact refPut11_at h (Nat.le_refl _) hl hb hL
theorem esameV (h : EnV v E l W) (h2 : EnV v2 E2 l2 W) (hl : l.length ≤ 1000000) {b c : Bool} (hb : plainE E E2 = b) (hc : sameZ l l2 = c) : Calls Tryd.prog 25 #[v, v2] W fun e w' => e = .returned (.bool (b && c)) ∧ Below W.heap.size W w' := by
  obtain ⟨a, n, d, rfl, h⟩ := h
  obtain ⟨a2, n2, d2, rfl, h2⟩ := h2
  exact esame_any h h2 (Nat.le_refl _) hl hb hc
theorem refSameV (h : EnV v E l W) (h2 : EnV v2 E2 l2 W) (hl : l.length ≤ 1000000) {b c : Bool} (hb : plainE E E2 = b) (hc : sameZ l l2 = c) : Calls Tryd.prog 26 #[v, v2] W fun e w' => e = .returned (.bool (b && c)) ∧ Below W.heap.size W w' := by
  obtain ⟨a, n, d, rfl, h⟩ := h
  obtain ⟨a2, n2, d2, rfl, h2⟩ := h2
  exact refSame11_any h h2 (Nat.le_refl _) hl hb hc
/-- A struct's box, read as one value. -/
theorem load_box {ty t : TypeId} {g : Nat} {cs : Array Value} {d : TypeDesc} (h : Whole W g t cs) (hu : Tryd.prog.underlying ty = some d) (hd : d.isRow = true) (hi : (Tryd.prog.info? ty).map (·.size) = some cs.toList.length) :
    (Instr.loadAt ty (.pointer (some ⟨g, 0, none⟩))).run Tryd.prog W = .ok (.agg cs) W := by
  have := run_loadAt_mid (P := Tryd.prog) W g 0 ty cs.toList d (fun j v hv => by rw [Nat.zero_add, h.cell]; simpa using hv) hu hd hi
  simpa using this
end
end Go.Proofs.YtimmnmidhjbanaaDoor
