/- A region in which a send or a receive stands that does not wait, in the walk of one goroutine. Nothing of one program. border: the search's own step, a closure that sends. -/
import Derived.Test.YtbbnojfecmocgaaK10
import Derived.Test.YtbbnojfecmocgaaK22
import Derived.Test.YtbbnojfecmocgaaK31
import Derived.Conc.LoneCalls
import Derived.Calls
namespace Go.Proofs.Ytbbnojfecmocgaa
open Go.RowKit Go.Conc
/-- What is left of a region, as the machine goes through it. -/
def COps (P : Program) (ops : Array Oper) (Q : Exit → Act → World → Prop) (l : List Nat) (a : Act) (w : World) : Prop :=
  ∀ (b : Frame) (k : List Item) (cs : List Frame), ∃ e a' w', Q e a' w' ∧ Arrives P (lone (b.at a (.inRegion ops l :: k)) cs w) b k cs e a' w'
section
variable {P : Program} {ops : Array Oper} {Q : Exit → Act → World → Prop} {a : Act} {w w' : World} {i : Nat} {rest : List Nat} {o : Oper}
theorem COps.of {l : List Nat} (h : wpOps P ops Q l a w) : COps P ops Q l a w := wp_ops l a w h
theorem COps.done (h : Q .normal a w) : COps P ops Q [] a w := COps.of h
theorem COps.region {id : Nat} (h : COps P ops Q (List.range ops.size) a w) : (Code.region id ops false).wp P Q a w :=
  fun b k cs => let ⟨e, a', w', q, r⟩ := h b k cs; ⟨e, a', w', q, .of_steps (.one step_region) r⟩
theorem COps.value {v : Value} (ho : ops[i]? = some o) (hw : Region.wanted o (yielded ops a.tmps) = true) (hr : (execOp a.eval o).run P w = .ok (.value v) w') (h : COps P ops Q rest (a.put o.dst v) w') : COps P ops Q (i :: rest) a w := by
  intro b k cs
  obtain ⟨e, a', w'', hq, harr⟩ := h b k cs
  have hg := stepG_op (P := P) (b := b) (k := k) (cs := cs) (w := w) (rest := rest) ho hw
  have hfin : (b.at a (.inRegion ops (i :: rest) :: k)).finish v = b.at (a.put o.dst v) (.inRegion ops rest :: k) := by rw [Frame.finish_at, ho]; rfl
  refine ⟨e, a', w'', hq, .of_steps (.one (step_lone_go ?_)) harr⟩
  rw [hg, ← hfin]; simp [stepG.apply, hr]
theorem COps.skip (ho : ops[i]? = some o) (hw : Region.wanted o (yielded ops a.tmps) = true) (hr : (execOp a.eval o).run P w = .ok .skip w') (h : COps P ops Q rest (a.put o.dst undef) w') : COps P ops Q (i :: rest) a w := by
  intro b k cs
  obtain ⟨e, a', w'', hq, harr⟩ := h b k cs
  have hg := stepG_op (P := P) (b := b) (k := k) (cs := cs) (w := w) (rest := rest) ho hw
  have hfin : (b.at a (.inRegion ops (i :: rest) :: k)).finish undef = b.at (a.put o.dst undef) (.inRegion ops rest :: k) := by rw [Frame.finish_at, ho]; rfl
  refine ⟨e, a', w'', hq, .of_steps (.one (step_lone_go ?_)) harr⟩
  rw [hg, ← hfin]; simp [stepG.apply, hr]
theorem stepG_comm_any {b : Frame} {k : List Item} {cs : List Frame} {cases : Array CommCase} {blocking : Bool} {shape : CommShape} (ho : ops[i]? = some o) (hw : Region.wanted o (yielded ops a.tmps) = true)
    (hr : (execOp a.eval o).run P w = .ok (.comm cases blocking shape) w') :
    ∃ es, stepG P true (G (b.at a (.inRegion ops (i :: rest) :: k)) cs) w = .comm (G (b.at a (.inRegion ops (i :: rest) :: k)) cs) cases blocking shape w' es := by
  rw [stepG_oper ho hw]
  simp only [stepG.apply, Sem.runT_eq, if_true, hr]
  exact ⟨_, rfl⟩
/-- A receive from a channel that holds something. -/
theorem COps.recv {c cap s r : Nat} {buf : Array Value} {z : Value} {closed tm : Bool} (ho : ops[i]? = some o) (hw : Region.wanted o (yielded ops a.tmps) = true)
    (hr : (execOp a.eval o).run P w = .ok (.comm #[rcase c z] true (.recv false)) w) (hc : w.heap[c]? = some (.chan cap buf closed s r tm)) (hsome : 0 < buf.size)
    (h : COps P ops Q rest (a.put o.dst (buf.getD 0 undef)) (w.setChan c cap (buf.extract 1 buf.size) closed s (r + 1) tm)) : COps P ops Q (i :: rest) a w := by
  intro b k cs
  obtain ⟨e, a', w'', hq, harr⟩ := h b k cs
  obtain ⟨es, hg⟩ := stepG_comm_any (P := P) (b := b) (k := k) (cs := cs) (rest := rest) ho hw hr
  have hs := step_lone_recv_buf false hg hc hsome
  have hfin : ∀ v, (b.at a (.inRegion ops (i :: rest) :: k)).finish v = b.at (a.put o.dst v) (.inRegion ops rest :: k) := fun v => by rw [Frame.finish_at, ho]; rfl
  rw [hfin] at hs
  exact ⟨e, a', w'', hq, .of_steps (.one hs) harr⟩
/-- A send where there is room. -/
theorem COps.send {c cap s r : Nat} {buf : Array Value} {v z : Value} {tm : Bool} (ho : ops[i]? = some o) (hw : Region.wanted o (yielded ops a.tmps) = true)
    (hr : (execOp a.eval o).run P w = .ok (.comm #[scase c v z] true .send) w) (hc : w.heap[c]? = some (.chan cap buf false s r tm)) (hroom : buf.size < cap)
    (h : COps P ops Q rest (a.put o.dst undef) (w.setChan c cap (buf.push v) false (s + 1) r tm)) : COps P ops Q (i :: rest) a w := by
  intro b k cs
  obtain ⟨e, a', w'', hq, harr⟩ := h b k cs
  obtain ⟨es, hg⟩ := stepG_comm_any (P := P) (b := b) (k := k) (cs := cs) (rest := rest) ho hw hr
  have hs := step_lone_send_room hg hc hroom
  have hfin : ∀ v, (b.at a (.inRegion ops (i :: rest) :: k)).finish v = b.at (a.put o.dst v) (.inRegion ops rest :: k) := fun v => by rw [Frame.finish_at, ho]; rfl
  rw [hfin] at hs
  exact ⟨e, a', w'', hq, .of_steps (.one hs) harr⟩
end
end Go.Proofs.Ytbbnojfecmocgaa
namespace Go.Proofs.Ytbbnojfecmocgaa
open Go.RowKit Go.Conc
set_option linter.unusedVariables false
set_option linter.unusedSimpArgs false
def boolV (l : List Bool) : Array Value := (l.map Value.bool).toArray
def natV (l : List Nat) : Array Value := (l.map fun i : Nat => Value.int .i64 (i : Int)).toArray
/-- The search in memory: seen's box and row, count's box, the channel and its box. -/
structure Srch (W : World) (gs gl gc gw gh n : Nat) (seen : List Bool) (q : List Nat) : Prop where
  s : Whole W gs 142 #[.slice (some ⟨gl, 0, none⟩) n n]
  l : Whole W gl 4 (boolV seen)
  c : Whole W gc 3 #[.int .i64 (seen.count true : Nat)]
  w : Whole W gw 141 #[.chan (some gh)]
  h : ∃ m r, W.heap[gh]? = some (.chan n (natV q) false m r false)
  d1 : gs ≠ gl
  d2 : gs ≠ gc
  d3 : gs ≠ gw
  d4 : gl ≠ gc
  d5 : gl ≠ gw
  d6 : gc ≠ gw
  d7 : gh ≠ gs
  d8 : gh ≠ gl
  d9 : gh ≠ gc
  d10 : gh ≠ gw
def SrF (gl gc gh : Nat) (b : Nat) : Prop := b = gl ∨ b = gc ∨ b = gh
theorem Srch.off {W W' : World} {gs gl gc gw gh n : Nat} {seen : List Bool} {q : List Nat} (h : Srch W gs gl gc gw gh n seen q) (hs : Since W W') : Srch W' gs gl gc gw gh n seen q := by
  obtain ⟨m, r, hh⟩ := h.h
  have hlt : gh < W.heap.size := (Array.getElem?_eq_some_iff.1 hh).1
  exact { h with s := hs.whole h.s, l := hs.whole h.l, c := hs.whole h.c, w := hs.whole h.w, h := ⟨m, r, (hs.block gh hlt).trans hh⟩ }
theorem off_setChan {F : Nat → Prop} {W W' : World} (h : Off F W W') {c : Nat} (hc : W.heap.size ≤ c ∨ F c) (cap : Nat) (buf : Array Value) (cl : Bool) (s r : Nat) (tm : Bool) : Off F W (W'.setChan c cap buf cl s r tm) :=
  ⟨h.os, h.tape, h.output, by simpa [World.setChan] using h.size, fun b hb hf => by
    have hne : b ≠ c := fun e => by subst e; rcases hc with z | z
                                    · omega
                                    · exact hf z
    simp only [World.setChan]
    rw [Array.getElem?_setIfInBounds_ne (fun e => hne e.symm)]
    exact h.block b hb hf⟩
theorem whole_setChan {W : World} {g c : Nat} {t : TypeId} {cs : Array Value} (h : Whole W g t cs) (hne : g ≠ c) (cap : Nat) (buf : Array Value) (cl : Bool) (s r : Nat) (tm : Bool) : Whole (W.setChan c cap buf cl s r tm) g t cs := by
  unfold Whole at *
  simp only [World.setChan]
  rw [Array.getElem?_setIfInBounds_ne (fun e => hne e.symm)]
  exact h
theorem Srch.bool {W : World} {gs gl gc gw gh n : Nat} {seen : List Bool} {q : List Nat} (h : Srch W gs gl gc gw gh n seen q) {i : Nat} {v : Bool} (hi : seen[i]? = some v) : W.cell? ⟨gl, i, none⟩ = some (.bool v) := by
  rw [h.l.cell, boolV, List.getElem?_toArray, List.getElem?_map, hi]; rfl
set_option maxHeartbeats 1600000 in
theorem reach_yes {W : World} {gs gl gc gw gh n : Nat} {seen : List Bool} {q : List Nat} (h : Srch W gs gl gc gw gh n seen q) {i : Nat} (hi : seen[i]? = some true) (hn : i < n) (hnb : n ≤ 1000) :
    Calls Try.prog 78 #[.int .i64 (i : Int), .pointer (some ⟨gs, 0, none⟩), .pointer (some ⟨gc, 0, none⟩), .pointer (some ⟨gw, 0, none⟩)] W fun e W' => (∃ v, e = .returned v) ∧ W = W' := by
  have c1 := h.s.cell 0
  have c2 := h.bool hi
  have hii : (i : Int) < n := by omega
  clear h hi
  go_enter Try.func78, Try.ntmps78
  go_wp2
  go_end0
  exact ⟨⟨_, rfl⟩, rfl⟩
set_option maxHeartbeats 1600000 in
theorem reach_no {W : World} {gs gl gc gw gh n : Nat} {seen : List Bool} {q : List Nat} (h : Srch W gs gl gc gw gh n seen q) (hS : Sea n seen q) {i : Nat} (hi : seen[i]? = some false) (hn : i < n) (hnb : n ≤ 1000) :
    Calls Try.prog 78 #[.int .i64 (i : Int), .pointer (some ⟨gs, 0, none⟩), .pointer (some ⟨gc, 0, none⟩), .pointer (some ⟨gw, 0, none⟩)] W fun e W' => (∃ v, e = .returned v) ∧ Srch W' gs gl gc gw gh n (seen.set i true) (q ++ [i]) ∧ Off (SrF gl gc gh) W W' := by
  have c1 := h.s.cell 0
  have c2 := h.bool hi
  have c3 := h.l.frozen i
  have c4 := h.c.cell 0
  have c5 := h.c.frozen 0
  have c6 := h.w.cell 0
  have hd1 := h.d1
  have hd2 := h.d2
  have hd4 := h.d4
  have hd5 := h.d5
  have hd6 := h.d6
  have hd4' := h.d4.symm
  have hd5' := h.d5.symm
  have hd6' := h.d6.symm
  have hd1' := h.d1.symm
  have hii : (i : Int) < n := by omega
  have hcn : seen.count true ≤ n := by rw [← hS.len]; exact cnt_le
  obtain ⟨C, hC⟩ : ∃ C, seen.count true = C := ⟨_, rfl⟩
  rw [hC] at hcn c4
  have hw : IntKind.i64.wrap ((C : Int) + 1) = (C : Int) + 1 := IntWalk.i64_in _ (by omega)
  have hw2 : wrap64 ((C : Int) + 1) = (C : Int) + 1 := IntWalk.wrap64_in _ ⟨by omega, by omega⟩
  have hroom := hS.room hi
  have hset := cnt_set hi
  rw [hC] at hset
  obtain ⟨W2, hW2⟩ : ∃ W2, W2 = (W.setCell ⟨gl, i, none⟩ (.bool true)).setCell ⟨gc, 0, none⟩ (.int .i64 ((C : Int) + 1)) := ⟨_, rfl⟩
  have k1 : Whole W2 gs 142 #[.slice (some ⟨gl, 0, none⟩) n n] := by rw [hW2]; exact (h.s.far (p := ⟨gl, i, none⟩) h.d1 _).far (p := ⟨gc, 0, none⟩) h.d2 _
  have k2 : Whole W2 gl 4 (boolV (seen.set i true)) := by
    rw [hW2]
    have := (h.l.set_ i (.bool true)).far (p := ⟨gc, 0, none⟩) h.d4 (.int .i64 ((C : Int) + 1))
    unfold boolV at this ⊢
    rw [List.map_set, ← List.setIfInBounds_toArray]
    exact this
  have k3 : Whole W2 gc 3 #[.int .i64 ((seen.set i true).count true : Nat)] := by
    rw [hW2, hset]
    exact (h.c.far (p := ⟨gl, i, none⟩) h.d4.symm _).set_ 0 _
  have k4 : Whole W2 gw 141 #[.chan (some gh)] := by rw [hW2]; exact (h.w.far (p := ⟨gl, i, none⟩) h.d5.symm _).far (p := ⟨gc, 0, none⟩) h.d6.symm _
  obtain ⟨m, r, hh⟩ := h.h
  have k5 : W2.heap[gh]? = some (.chan n (natV q) false m r false) := by
    rw [hW2]
    exact ((Below.heap_setCell _ ⟨gc, 0, none⟩ _ gh h.d9).trans (Below.heap_setCell W ⟨gl, i, none⟩ _ gh h.d8)).trans hh
  have k6 : Off (SrF gl gc gh) W W2 := by
    rw [hW2]
    exact ((Off.refl _ W).setCell (p := ⟨gl, i, none⟩) (.inr (.inl rfl)) _).setCell (p := ⟨gc, 0, none⟩) (.inr (.inr (.inl rfl))) _
  have fin : Srch (W2.setChan gh n ((natV q).push (.int .i64 (i : Int))) false (m + 1) r false) gs gl gc gw gh n (seen.set i true) (q ++ [i]) := by
    refine { h with s := whole_setChan k1 h.d7.symm _ _ _ _ _ _, l := whole_setChan k2 h.d8.symm _ _ _ _ _ _, c := whole_setChan k3 h.d9.symm _ _ _ _ _ _, w := whole_setChan k4 h.d10.symm _ _ _ _ _ _, h := ⟨m + 1, r, ?_⟩ }
    have hlt : gh < W2.heap.size := (Array.getElem?_eq_some_iff.1 k5).1
    rw [heap_setChan _ _ _ _ _ _ _ _ hlt]
    unfold natV
    simp
  have FIN := Lib.hid (And.intro fin (off_setChan k6 (c := gh) (.inr (.inr (.inr rfl))) n ((natV q).push (.int .i64 (i : Int))) false (m + 1) r false))
  have hsz : (natV q).size < n := by unfold natV; simpa using hroom
  have k4c := k4.cell 0
  have HK := Lib.hid (And.intro k5 (And.intro hsz hW2))
  clear h hS hi k1 k2 k3 k4 hh k5 k6 fin hC hset hroom hsz hcn hW2
  go_enter Try.func78, Try.ntmps78
  go_upto_region 3 with fail
  rw [← HK.out.2.2]
  refine COps.region ?_
  change COps _ _ _ [0, 1, 2] _ _
  refine COps.value (v := .chan (some gh)) (w' := W2) rfl rfl (by simp [go_sem, k4c]) ?_
  refine COps.value (v := .int .i64 (i : Int)) (w' := W2) rfl rfl (by simp [go_sem]) ?_
  refine COps.send (c := gh) (v := .int .i64 (i : Int)) (z := .tuple #[]) rfl rfl (by simp [go_sem, scase]) HK.out.1 HK.out.2.1 ?_
  refine COps.done ?_
  go_wp2
  go_end0
  exact ⟨⟨_, rfl⟩, FIN.out.1, FIN.out.2⟩
end Go.Proofs.Ytbbnojfecmocgaa
