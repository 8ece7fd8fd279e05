/- Wide values: structs and arrays of many cells loaded, stored, indexed and compared as one; the law at the operation. Nothing of one program. A result's box beside what lies below it; a struct of many cells stored whole. -/
import Derived.Test.YtimmnmidhjbanaaDoorK02
import Derived.Test.YtimmnmidhjbanaaDoorK16
import Derived.Test.YtimmnmidhjbanaaDoorK19
import Derived.Laws.Rows
import Derived.Deep.WholeRow
namespace Go.Proofs.YtimmnmidhjbanaaDoor
open Go.RowKit
set_option linter.unusedVariables false
section
variable {P : Program} {ops : Array Oper} {rest : List Oper} {o : Oper} {a : Act} {w w' : World} {Q : Exit → Act → World → Prop} {K : Act → World → Prop}
theorem wp_store_is (ty : TypeId) (x y : Operand) (ho : o.op = .store ty x y) {p v : Value} (hx : a.eval x = p) (hy : a.eval y = v) (hr : (Instr.storeAt ty p v).run P w = .ok () w') (h : K (a.put o.dst undef) w') : o.wp P a w K Q := by
  unfold Oper.wp execOp
  simp only [ho, hx, hy, Sem.run_bind, hr, Result.andThen_ok, Sem.run_pure, Oper.upon_skip]
  exact h
theorem wpList_store_is (hg : o.guard = none) (ty : TypeId) (x y : Operand) (ho : o.op = .store ty x y) {p v : Value} (hx : a.eval x = p) (hy : a.eval y = v) (hr : (Instr.storeAt ty p v).run P w = .ok () w') (h : wpList P ops Q rest (a.put o.dst undef) w') : wpList P ops Q (o :: rest) a w :=
  wpList_plain hg fun _ hK => wp_store_is ty x y ho hx hy hr (hK _ _ h)
theorem exec_load_is (ty : TypeId) (x : Operand) (ho : o.op = .load ty x) {p v : Value} (hx : a.eval x = p) (hr : (Instr.loadAt ty p).run P w = .ok v w) : (execOp a.eval o).run P w = .ok (.value v) w := by
  unfold execOp
  simp only [ho, hx, Sem.run_bind, hr, Result.andThen_ok, Sem.run_pure]
theorem exec_eql_is (ty ty' : TypeId) (x y : Operand) (ho : o.op = .binOp .eql ty x y ty') {u v : Value} (hx : a.eval x = u) (hy : a.eval y = v) (hg : (eqGuard .eql ty x y u v).run P w = .ok () w) {b : Bool} (hr : (binOp .eql ty u v).run P w = .ok (.bool b) w) : (execOp a.eval o).run P w = .ok (.value (.bool b)) w := by
  unfold execOp
  simp only [ho, hx, hy, Sem.run_bind, hg, hr, Result.andThen_ok, Sem.run_pure]
/-- A whole value into a block. -/
theorem storeAt_whole (ty t : TypeId) (g : Nat) (old cells : Array Value) (hg : w.heap[g]? = some (.cells old t (0, 0))) (hi : (P.info? ty).map (·.size) = some cells.size)
    (ho : old.size = cells.size) (h1 : cells.all (·.oneCell') = true) :
    (Instr.storeAt ty (.pointer (some ⟨g, 0, none⟩)) (.agg cells)).run P w = .ok () (w.setRow g cells) := by
  simp only [Instr.storeAt, Instr.sureAddr, Sem.run_bind, Sem.run_pure, Result.andThen]
  exact run_storeVar_row w g t ty old cells hg hi ho h1
end
end Go.Proofs.YtimmnmidhjbanaaDoor
namespace Go.Proofs.YtimmnmidhjbanaaDoor
open Go.RowKit
set_option linter.unusedVariables false
set_option linter.unusedSimpArgs false
/-- What lies below block g is as it was, and g is a block of n cells. -/
def LowBox (g : Nat) (t : TypeId) (n : Nat) (w0 W : World) : Prop := Below g w0 W ∧ ∃ old, old.size = n ∧ Whole W g t old
section
variable {g n : Nat} {t : TypeId} {w0 W W' : World} {F : Nat → Prop}
theorem LowBox.start {cs : Array Value} (h : Whole w0 g t cs) (hn : cs.size = n) : LowBox g t n w0 w0 := ⟨Below.refl _ _, cs, hn, h⟩
theorem LowBox.lt (h : LowBox g t n w0 W) : g < W.heap.size := by obtain ⟨_, old, _, h⟩ := h; exact h.lt
theorem LowBox.since (h : LowBox g t n w0 W) (hs : Since W W') : LowBox g t n w0 W' := by
  have hlt := h.lt
  obtain ⟨hb, old, hn, hw⟩ := h
  exact ⟨Below.trans hb (Below.mono (show Below W.heap.size W W' from hs) (Nat.le_of_lt hlt)), old, hn, Since.whole hs hw⟩
theorem LowBox.drew (h : LowBox g t n w0 W) : LowBox g t n w0 W.drew := h.since (Since.refl W).drew
theorem LowBox.off (h : LowBox g t n w0 W) (ho : Off F W W') (hF : ∀ b, F b → g < b) : LowBox g t n w0 W' := by
  have hlt := h.lt
  obtain ⟨hb, old, hn, hw⟩ := h
  exact ⟨Below.trans hb (ho.below (Nat.le_of_lt hlt) (fun b hb => Nat.le_of_lt (hF b hb))), old, hn, ho.whole hw (fun z => Nat.lt_irrefl _ (hF _ z))⟩
theorem LowBox.store {cs : Array Value} (h : LowBox g t n w0 W) (hw : Whole W' g t cs) (ho : Off (fun b => b = g) W W') (hn : cs.size = n) : LowBox g t n w0 W' :=
  ⟨Below.trans h.1 (ho.below (Nat.le_of_lt h.lt) (fun b e => Nat.le_of_eq e.symm)), cs, hn, hw⟩
/-- From what lies below the boxes. -/
theorem LowBox.up {w : World} (h : LowBox g t n w0 W) (hs : Since w w0) (hg : w.heap.size ≤ g) : Since w W := Below.trans (show Below w.heap.size w w0 from hs) (Below.mono h.1 hg)
theorem whole_setRow {old cells : Array Value} (h : Whole W g t old) : Whole (W.setRow g cells) g t cells := setRow_heap W g old cells t (0, 0) h
theorem off_setRow1 (cells : Array Value) : Off (fun b => b = g) W (W.setRow g cells) := off_row (Off.refl _ W) cells
end
section
variable {ops : Array Oper} {rest : List Oper} {o : Oper} {a : Act} {W : World} {K : Act → World → Prop} {Q : Exit → Act → World → Prop} {E : Prop}
/-- A store of a whole struct into its box, at a step of a region that draws its order. -/
theorem step_store_row (hgd : o.guard = none) (ty : TypeId) (x y : Operand) (ho : o.op = .store ty x y) {g : Nat} {n : Nat} {cells : Array Value} {t : TypeId} {w0 : World} (hx : a.eval x = .pointer (some ⟨g, 0, none⟩)) (hy : a.eval y = .agg cells)
    (hg : LowBox g t n w0 W) (hi : (Tryd.prog.info? ty).map (·.size) = some n) (hsz : cells.size = n) (h1 : cells.all (·.oneCell') = true)
    (h : ∀ W', Whole W' g t cells → Off (fun b => b = g) W W' → K (a.put o.dst undef) W') : if Region.wanted o (yielded ops a.tmps) = true then Oper.wp Tryd.prog o a W K Q else E := by
  have hw : Region.wanted o (yielded ops a.tmps) = true := by simp [Region.wanted, hgd]
  rw [if_pos hw]
  obtain ⟨_, old, hn, hwh⟩ := hg
  exact wp_store_is ty x y ho hx hy (storeAt_whole ty t g old cells hwh (by rw [hsz]; exact hi) (by rw [hn, hsz]) h1) (h _ (whole_setRow hwh) (off_setRow1 cells))
/-- The same in a plain region. -/
theorem wpList_store_row (hgd : o.guard = none) (ty : TypeId) (x y : Operand) (ho : o.op = .store ty x y) {g : Nat} {old cells : Array Value} {t : TypeId} (hx : a.eval x = .pointer (some ⟨g, 0, none⟩)) (hy : a.eval y = .agg cells)
    (hg : Whole W g t old) (hi : (Tryd.prog.info? ty).map (·.size) = some cells.size) (hsz : old.size = cells.size) (h1 : cells.all (·.oneCell') = true)
    (h : ∀ W', Whole W' g t cells → Off (fun b => b = g) W W' → wpList Tryd.prog ops Q rest (a.put o.dst undef) W') : wpList Tryd.prog ops Q (o :: rest) a W :=
  wpList_store_is hgd ty x y ho hx hy (storeAt_whole ty t g old cells hg hi hsz h1) (h _ (whole_setRow hg) (off_setRow1 cells))
end
end Go.Proofs.YtimmnmidhjbanaaDoor
