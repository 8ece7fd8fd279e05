/- append(s, x...) of a whole list onto a list of the call's own; parts of lists. Nothing of one program. Rows of elements of k cells each: copy, append of zeros, a part put in or taken out; the law at the operation. Nothing of one program. -/
import Derived.Test.YthfhpejpjiaikaaGreatK05
import Derived.Test.YthfhpejpjiaikaaGreatK09
import Derived.Laws.CopyRow
import Derived.Lib.AppendZerosOnto
import Derived.Lib.Overlaps
import Derived.Shelf.Spec.SlicesInsert
import Derived.RangeFuncRecord
import Derived.Lib.AppendZeros
namespace Go.Proofs.YthfhpejpjiaikaaGreat
open Go.RowKit
set_option linter.unusedVariables false
section
variable {α : Type} {enc : α → List Value} {n : Nat} {W W' : World}
/-- A part of a list that lies there, at whatever place. -/
def PartE (enc : α → List Value) (W : World) (x : Value) (m : List α) : Prop :=
  (x = .slice none 0 0 ∧ m = []) ∨ ∃ ad c, x = .slice (some ad) m.length c ∧ ∀ j u, (m.flatMap enc)[j]? = some u → W.cell? (ad.add j) = some u
theorem run_append_part (t ty e : TypeId) (i : TypeInfo) (z : Value) (bytes : Nat) (base : Nat) (ht : Tryz.prog.underlying t = some (.slice e)) (hi : Tryz.prog.info? e = some i) (hz : i.zero = some z)
    (hsize : i.size = n) (hby : i.bytes = bytes) (hzs : z.cells.size = n) (hsz : 0 < n) {v : Value} {l : List α} (hrow : RowE enc n W base e v l) {x : Value} {m : List α} (hx : PartE enc W x m) (hlen : ∀ r, (enc r).length = n) (h1 : ∀ r, ∀ u ∈ enc r, u.oneCell' = true)
    (hmax : l.length + m.length ≤ 100000) (hbytes : bytes ≤ 1000) (hb : base ≤ W.heap.size) :
    ∃ v' w', (Builtin.append_ #[t, t] ty #[v, x]).run Tryz.prog W = .ok v' w' ∧ RowE enc n w' base e v' (l ++ m) ∧ W.grownBy w' v.ownBlock ∧ (v'.ownBlock = v.ownBlock ∨ v'.ownBlock = some W.heap.size) := by
  have hbb : (l.length + m.length) * bytes ≤ 140737488355328 := Nat.le_trans (Nat.mul_le_mul hmax hbytes) (by decide)
  have hfl : ∀ m : List α, (m.flatMap enc).length = m.length * n := fun m => by
    induction m with
    | nil => simp
    | cons r m ih => rw [List.flatMap_cons, List.length_append, ih, hlen, List.length_cons, Nat.add_mul]; omega
  rcases hx with ⟨rfl, rfl⟩ | ⟨ad, c, rfl, hc⟩
  · subst hsize
    refine ⟨v, W, ?_, by rw [List.append_nil]; exact hrow, ⟨rfl, rfl, rfl, Nat.le_refl _, fun _ _ _ => rfl⟩, .inl rfl⟩
    rcases hrow.2 with ⟨rfl, h0⟩ | ⟨g, cap, cur, rfl, hbg, hg, hnc, hcm, hcs, htake⟩
    · simp [Builtin.append_, run_underlying ht, sizeOf, typeInfo, hi, Builtin.lenOf, Builtin.firstCells]
    · simp [Builtin.append_, run_underlying ht, sizeOf, typeInfo, hi, Builtin.lenOf, Builtin.firstCells, loadCells, hnc, storeCells]
  · obtain ⟨v', w', h2, h3, h4, _, h5⟩ := run_append_own_at (P := Tryz.prog) W base t ty e i z n bytes ht hi hz hsize hby hzs hsz v l.length _ hrow ad m.length c (m.flatMap enc) (hfl m) hc (fun u hu => by
      obtain ⟨r, _, hr⟩ := List.mem_flatMap.1 hu
      exact h1 r u hr) (Nat.le_trans hmax (by decide)) hbb hb
    refine ⟨v', w', h2, ?_, h4, h5⟩
    unfold RowE
    rw [List.length_append, List.flatMap_append]
    exact h3
theorem RowE.shape2 {base : Nat} {T : TypeId} {v : Value} {l : List α} (h : RowE enc n W base T v l) : ∃ a c, v = .slice a l.length c := by
  rcases h.2 with ⟨h1, h2⟩ | ⟨g, cap, cur, h1, _⟩
  · exact ⟨none, 0, by rw [h1, h2]⟩
  · exact ⟨_, _, h1⟩
theorem RowE.shape3 {base : Nat} {T : TypeId} {v : Value} {l : List α} (h : RowE enc n W base T v l) : ∃ a m c, v = .slice a m c := let ⟨a, c, e⟩ := h.shape2; ⟨a, _, c, e⟩
/-- append(s, x...) at a step of a region that draws its order. -/
theorem step_append_part {ops : Array Oper} {o : Oper} {a : Act} {K : Act → World → Prop} {Q : Exit → Act → World → Prop} {E : Prop} (hgd : o.guard = none) (s x : Operand) (TS : TypeId)
    (ho : o.op = .call { callee := .builtin .append, args := #[s, x], argTypes := #[TS, TS] })
    (base : Nat) (T : TypeId) (z : Value) (bytes : Nat) (ht : Tryz.prog.underlying TS = some (.slice T)) (hi : (Tryz.prog.info? T).map (fun i => (i.zero, i.size, i.bytes)) = some (some z, n, bytes)) (hzs : z.cells.size = n) (hsz : 0 < n)
    {v xv : Value} {l m : List α} (hrow : RowE enc n W base T v l) (hx : PartE enc W xv m) (hlen : ∀ r, (enc r).length = n) (h1 : ∀ r, ∀ u ∈ enc r, u.oneCell' = true)
    (hs : a.eval s = v) (hxv : a.eval x = xv) (hmax : l.length + m.length ≤ 100000) (hbytes : bytes ≤ 1000) (hb : base ≤ W.heap.size)
    (h : ∀ va vc w', RowE enc n w' base T (.slice va (l.length + m.length) vc) (l ++ m) → Off (fun b => v.ownBlock = some b) W w' → ((Value.slice va (l.length + m.length) vc).ownBlock = v.ownBlock ∨ (Value.slice va (l.length + m.length) vc).ownBlock = some W.heap.size) → K (a.put o.dst (.slice va (l.length + m.length) vc)) w') :
    if Region.wanted o (yielded ops a.tmps) = true then Oper.wp Tryz.prog o a W K Q else E := by
  obtain ⟨i0, hi, hz0, hz1, hz2⟩ := info_parts hi
  obtain ⟨v', w', hr, h2, h3, h4⟩ := run_append_part (W := W) TS o.type T i0 z bytes base ht hi hz0 hz1 hz2 hzs hsz hrow hx hlen h1 hmax hbytes hb
  have hw : Region.wanted o (yielded ops a.tmps) = true := by simp [Region.wanted, hgd]
  rw [if_pos hw]
  obtain ⟨va, vc, rfl⟩ := RowE.shape2 h2
  rw [List.length_append] at h2 h4 hr
  have hk := h va vc w' h2 ⟨h3.os, h3.tape, h3.output, h3.size, fun b hb hn => h3.block b hb (fun e => hn e.symm)⟩ h4
  unfold Oper.wp execOp
  simp only [ho, resolve, invoke, builtin, Sem.run_bind, Sem.run_pure, Result.andThen_ok, List.map_toArray, List.map_cons, List.map_nil, hs, hxv, hr]
  exact hk
/-- The same, where what comes out needs no form. -/
theorem step_append_val {ops : Array Oper} {o : Oper} {a : Act} {K : Act → World → Prop} {Q : Exit → Act → World → Prop} {E : Prop} (hgd : o.guard = none) (s x : Operand) (TS : TypeId)
    (ho : o.op = .call { callee := .builtin .append, args := #[s, x], argTypes := #[TS, TS] })
    (base : Nat) (T : TypeId) (z : Value) (bytes : Nat) (ht : Tryz.prog.underlying TS = some (.slice T)) (hi : (Tryz.prog.info? T).map (fun i => (i.zero, i.size, i.bytes)) = some (some z, n, bytes)) (hzs : z.cells.size = n) (hsz : 0 < n)
    {v xv : Value} {l m : List α} (hrow : RowE enc n W base T v l) (hx : PartE enc W xv m) (hlen : ∀ r, (enc r).length = n) (h1 : ∀ r, ∀ u ∈ enc r, u.oneCell' = true)
    (hs : a.eval s = v) (hxv : a.eval x = xv) (hmax : l.length + m.length ≤ 100000) (hbytes : bytes ≤ 1000) (hb : base ≤ W.heap.size)
    (h : ∀ v' w', RowE enc n w' base T v' (l ++ m) → Off (fun b => v.ownBlock = some b) W w' → K (a.put o.dst v') w') :
    if Region.wanted o (yielded ops a.tmps) = true then Oper.wp Tryz.prog o a W K Q else E :=
  step_append_part hgd s x TS ho base T z bytes ht hi hzs hsz hrow hx hlen h1 hs hxv hmax hbytes hb (fun va vc w' a1 a2 _ => h _ w' a1 a2)
/-- A list of one in memory. -/
theorem PartE.one {g : Nat} {t : TypeId} {r : α} {c : Nat} (h : Whole W g t (enc r).toArray) : PartE enc W (.slice (some ⟨g, 0, none⟩) 1 c) [r] :=
  .inr ⟨_, c, rfl, fun j u hu => by
    rw [show (⟨g, 0, none⟩ : Addr).add j = ⟨g, j, none⟩ by unfold Addr.add; split <;> simp_all, h.cell j]
    simpa using hu⟩
theorem flat_take (hlen : ∀ r, (enc r).length = n) : ∀ (l : List α) (i : Nat), (l.take i).flatMap enc = (l.flatMap enc).take (i * n)
  | [], i => by simp
  | r :: l, 0 => by simp
  | r :: l, i + 1 => by
    rw [List.take_succ_cons, List.flatMap_cons, List.flatMap_cons, flat_take hlen l i, Nat.add_mul, Nat.one_mul, List.take_append, List.take_of_length_le (l := enc r) (by rw [hlen]; omega), hlen, Nat.add_sub_cancel]
theorem flat_drop (hlen : ∀ r, (enc r).length = n) : ∀ (l : List α) (i : Nat), (l.drop i).flatMap enc = (l.flatMap enc).drop (i * n)
  | [], i => by simp
  | r :: l, 0 => by simp
  | r :: l, i + 1 => by
    rw [List.drop_succ_cons, List.flatMap_cons, flat_drop hlen l i, Nat.add_mul, Nat.one_mul, List.drop_append, List.drop_of_length_le (l := enc r) (by rw [hlen]; omega), hlen, Nat.add_sub_cancel, List.nil_append]
/-- An empty list of the call's own. -/
theorem RowE.empty (W : World) (T : TypeId) : RowE enc n (W.alloc (.cells #[] T)) W.heap.size T (.slice (some ⟨W.heap.size, 0, none⟩) 0 0) [] :=
  ⟨by simp, .inr ⟨W.heap.size, 0, #[], rfl, Nat.le_refl _, World.alloc_heap_new W _, Nat.le_refl _, by decide, by simp, by simp⟩⟩
theorem RowE.take {g cap i : Nat} {base : Nat} {T : TypeId} {l : List α} (h : RowE enc n W base T (.slice (some ⟨g, 0, none⟩) l.length cap) l) (hlen : ∀ r, (enc r).length = n) (hi : i ≤ l.length) : PartE enc W (.slice (some ⟨g, 0, none⟩) i cap) (l.take i) := by
  have hl : (l.take i).length = i := by rw [List.length_take]; omega
  refine .inr ⟨_, cap, by rw [hl], fun j u hu => ?_⟩
  rw [flat_take hlen] at hu
  exact World.ownsRow.cells (g := g) h rfl j u (by
    rw [List.getElem?_take] at hu
    split at hu
    · exact hu
    · cases hu)
theorem RowE.drop {g cap i c : Nat} {base : Nat} {T : TypeId} {l : List α} (h : RowE enc n W base T (.slice (some ⟨g, 0, none⟩) l.length cap) l) (hlen : ∀ r, (enc r).length = n) : PartE enc W (.slice (some ⟨g, i * n, none⟩) (l.length - i) c) (l.drop i) := by
  refine .inr ⟨_, c, by rw [List.length_drop], fun j u hu => ?_⟩
  rw [flat_drop hlen, List.getElem?_drop] at hu
  have := World.ownsRow.cells (g := g) h rfl (i * n + j) u hu
  rw [add_at] at this
  rw [show (⟨g, i * n, none⟩ : Addr).add j = ⟨g, i * n + j, none⟩ by unfold Addr.add; split <;> simp_all]
  exact this
/-- A whole row. -/
theorem RowE.part {base : Nat} {T : TypeId} {v : Value} {l : List α} (h : RowE enc n W base T v l) (hlen : ∀ r, (enc r).length = n) : PartE enc W v l := by
  rcases h.2 with ⟨h1, h2⟩ | ⟨g, cap, cur, rfl, _⟩
  · exact .inl ⟨h1, List.eq_nil_of_length_eq_zero h2⟩
  · exact .inr ⟨_, _, rfl, World.ownsRow.cells (g := g) h rfl⟩
end
/-- append(s, x...) at a step of a plain region. -/
theorem wpList_append_part {α : Type} {enc : α → List Value} {n : Nat} {W : World} {ops : Array Oper} {rest : List Oper} {o : Oper} {a : Act} {Q : Exit → Act → World → Prop} (hgd : o.guard = none) (s x : Operand) (TS : TypeId)
    (ho : o.op = .call { callee := .builtin .append, args := #[s, x], argTypes := #[TS, TS] })
    (base : Nat) (T : TypeId) (z : Value) (bytes : Nat) (ht : Tryz.prog.underlying TS = some (.slice T)) (hi : (Tryz.prog.info? T).map (fun i => (i.zero, i.size, i.bytes)) = some (some z, n, bytes)) (hzs : z.cells.size = n) (hsz : 0 < n)
    {v xv : Value} {l m : List α} (hrow : RowE enc n W base T v l) (hx : PartE enc W xv m) (hlen : ∀ r, (enc r).length = n) (h1 : ∀ r, ∀ u ∈ enc r, u.oneCell' = true)
    (hs : a.eval s = v) (hxv : a.eval x = xv) (hmax : l.length + m.length ≤ 100000) (hbytes : bytes ≤ 1000) (hb : base ≤ W.heap.size)
    (h : ∀ v' w', RowE enc n w' base T v' (l ++ m) → Off (fun b => v.ownBlock = some b) W w' → wpList Tryz.prog ops Q rest (a.put o.dst v') w') : wpList Tryz.prog ops Q (o :: rest) a W := by
  obtain ⟨i0, hi, hz0, hz1, hz2⟩ := info_parts hi
  obtain ⟨v', w', hr, h2, h3, h4⟩ := run_append_part (W := W) TS o.type T i0 z bytes base ht hi hz0 hz1 hz2 hzs hsz hrow hx hlen h1 hmax hbytes hb
  exact Lib.wpList_append_run W hgd s x TS TS ho v xv hs hxv v' w' hr (h v' w' h2 ⟨h3.os, h3.tape, h3.output, h3.size, fun b hb hn => h3.block b hb (fun e => hn e.symm)⟩)
end Go.Proofs.YthfhpejpjiaikaaGreat
namespace Go.Proofs.YthfhpejpjiaikaaGreat
open Go.RowKit
set_option linter.unusedSimpArgs false
/-- copy, elements of k cells each, into a row that is known whole. -/
theorem run_copy_k {P : Program} (w : World) (dT sT ty elem : TypeId) (k g o dLen dCap : Nat) (a : Addr) (sLen sCap m : Nat) (cur : Array Value) (t : TypeId) (cs : List Value)
    (hu : P.underlying dT = some (.slice elem)) (hs : (P.info? elem).map (·.size) = some k)
    (hg : w.heap[g]? = some (.cells cur t (0, 0))) (hm : Nat.min sLen dLen = m) (hn : cs.length = m * k)
    (hsrc : ∀ j v, cs[j]? = some v → w.cell? (a.add j) = some v) (hfit : o + cs.length ≤ cur.size) (h1 : ∀ v ∈ cs, v.oneCell' = true) :
    (Builtin.copy_ #[dT, sT] ty #[.slice (some ⟨g, o, none⟩) dLen dCap, .slice (some a) sLen sCap]).run P w =
      .ok (goInt m) (w.setRow g (cur.toList.take o ++ cs ++ cur.toList.drop (o + cs.length)).toArray) := by
  have hl := run_loadCells_list (P := P) w a cs hsrc
  have hst := run_storeCells_at P g o t cs 0 cur w hg (by simpa using hfit) h1
  cases hq : P.info? elem with
  | none => simp [hq] at hs
  | some i =>
    have hi : i.size = k := by simpa [hq] using hs
    rw [hn, Nat.add_zero] at *
    simp [Builtin.copy_, run_underlying hu, Builtin.lenOf, Builtin.firstCells, sizeOf, typeInfo, hq, hi, hm, hl, hst]
section
variable {α : Type} {enc : α → List Value} {n : Nat}
theorem rows_len (hn : ∀ x, (enc x).length = n) : ∀ l : List α, (l.flatMap enc).length = l.length * n
  | [] => by simp
  | r :: l => by rw [List.flatMap_cons, List.length_append, hn, rows_len hn l, List.length_cons, Nat.add_mul]; omega
theorem flat_one (h1 : ∀ r, ∀ u ∈ enc r, u.oneCell' = true) (l : List α) : ∀ u ∈ l.flatMap enc, u.oneCell' = true := by
  intro u hu
  obtain ⟨r, _, h⟩ := List.mem_flatMap.1 hu
  exact h1 r u h
/-- A row in a block: its cells, and what is spare behind them. -/
theorem RowE.cur {W : World} {base : Nat} {T : TypeId} {v : Value} {l : List α} (h : RowE enc n W base T v l) :
    (v = .slice none 0 0 ∧ l = []) ∨ ∃ g cap S, v = .slice (some ⟨g, 0, none⟩) l.length cap ∧ base ≤ g ∧ W.heap[g]? = some (.cells (l.flatMap enc ++ S).toArray T (0, 0)) ∧ l.length ≤ cap ∧ cap ≤ maxLen ∧ (l.flatMap enc).length = l.length * n ∧ S.length = (cap - l.length) * n := by
  obtain ⟨h0, h | ⟨g, cap, cur, rfl, hb, hg, hc, hm, hs, ht⟩⟩ := h
  · exact .inl ⟨h.1, List.eq_nil_of_length_eq_zero h.2⟩
  · refine .inr ⟨g, cap, cur.toList.drop (l.length * n), rfl, hb, ?_, hc, hm, h0, ?_⟩
    · rw [hg, ← ht, List.take_append_drop, Array.toArray_toList]
    · rw [List.length_drop, Array.length_toList, hs, Nat.sub_mul]
theorem RowE.of {W : World} {base : Nat} {T : TypeId} {l : List α} {g cap : Nat} {S : List Value} (hb : base ≤ g) (hg : W.heap[g]? = some (.cells (l.flatMap enc ++ S).toArray T (0, 0))) (hc : l.length ≤ cap) (hm : cap ≤ maxLen) (hl : (l.flatMap enc).length = l.length * n) (hS : S.length = (cap - l.length) * n) :
    RowE enc n W base T (.slice (some ⟨g, 0, none⟩) l.length cap) l := by
  refine ⟨hl, .inr ⟨g, cap, _, rfl, hb, hg, hc, hm, ?_, ?_⟩⟩
  · rw [List.size_toArray, List.length_append, hl, hS, ← Nat.add_mul]
    congr 1
    omega
  · rw [List.take_append_of_le_length (by rw [hl]; exact Nat.le_refl _), List.take_of_length_le (by rw [hl]; exact Nat.le_refl _)]
end
theorem off_setRow {F : Nat → Prop} {W W' : World} (h : Off F W W') {g : Nat} (hg : W.heap.size ≤ g ∨ F g) (cs : Array Value) : Off F W (W'.setRow g cs) :=
  ⟨h.os, h.tape, h.output, by simpa [World.setRow] using h.size, fun b hb hf => by
    have hne : g ≠ b := fun e => by subst e; rcases hg with z | z
                                    · omega
                                    · exact hf z
    have := h.block b hb hf
    simp only [World.setRow]
    rw [Array.getElem?_modify]
    rw [if_neg hne]
    exact this⟩
/-- append, its run known by an equation, at a step of a region that draws. -/
theorem step_append_runI {P : Program} {ops : Array Oper} {o : Oper} {a : Act} {w : World} {K : Act → World → Prop} {Q : Exit → Act → World → Prop} {E : Prop} (hg : o.guard = none) (s x : Operand) (t tn : TypeId)
    (ho : o.op = .call { callee := .builtin .append, args := #[s, x], argTypes := #[t, tn] }) (vs vx : Value) (hs : a.eval s = vs) (hx : a.eval x = vx)
    (v' : Value) (w' : World) (hr : (Builtin.append_ #[t, tn] o.type #[vs, vx]).run P w = .ok v' w') (hK : K (a.put o.dst v') w') :
    if Region.wanted o (yielded ops a.tmps) = true then Oper.wp P o a w K Q else E := by
  rw [if_pos (by simp [Region.wanted, hg])]
  exact Lib.wp_append_run w s x t tn ho vs vx hs hx v' w' hr hK
/-- clear of some elements of k cells each. -/
theorem run_clear_k {P : Program} (w : World) (t e ty : TypeId) (z : Value) (k : Nat) (ht : P.underlying t = some (.slice e)) (hv : ∀ w, (zeroValue e).run P w = .ok z w) (hz : z.cells.size = k) (h1 : ∀ v ∈ (Builtin.zeroCells z.cells 1).toList, v.oneCell' = true) (g o c : Nat) (cur : Array Value) (tt : TypeId)
    (hg : w.heap[g]? = some (.cells cur tt (0, 0))) (hfit : o + k ≤ cur.size) :
    (Builtin.clear_ #[t] ty #[.slice (some ⟨g, o, none⟩) 1 c]).run P w = .ok (.tuple #[]) (w.setRow g (cur.toList.take o ++ (Builtin.zeroCells z.cells 1).toList ++ cur.toList.drop (o + k)).toArray) := by
  have hl : (Builtin.zeroCells z.cells 1).toList.length = k := by rw [Array.length_toList, size_zeroCells, hz, Nat.one_mul]
  have hst := run_storeCells_at P g o tt (Builtin.zeroCells z.cells 1).toList 0 cur w hg (by rw [hl]; simpa using hfit) h1
  rw [hl, Nat.add_zero] at hst
  simp [Builtin.clear_, run_underlying ht, hv, hst]
theorem off_row {W W' : World} {g : Nat} (h : Off (fun b => b = g) W W') (cs : Array Value) : Off (fun b => b = g) W (W'.setRow g cs) := off_setRow h (.inr rfl) cs
end Go.Proofs.YthfhpejpjiaikaaGreat
