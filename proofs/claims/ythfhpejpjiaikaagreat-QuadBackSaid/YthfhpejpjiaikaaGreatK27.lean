/- Marks of ranges over functions among a frame's deferred calls, any number of them: how the frame leaves. Nothing of one program. quad: nodes: the nodes of a tree that have to do with a rectangle, one by one. A loop of at most N rounds within the wide fence, by an invariant with the round's number; a yield called in a round of another loop. Nothing of one program. -/
import Derived.Test.YthfhpejpjiaikaaGreatK17
import Derived.Test.YthfhpejpjiaikaaGreatK25
import Derived.Test.YthfhpejpjiaikaaGreatK26
namespace Go.Proofs.YthfhpejpjiaikaaGreat
open Go.RowKit Go.Shelf
/-- The marks of these blocks; the world behind the leaving. -/
def marksD (ds : List Nat) : List Deferred := ds.map fun D => { target := .collected D, args := #[] }
def shutD : List Nat → World → World
  | [], W => W
  | D :: ds, W => shutD ds (W.putObj D (.deferred none))
theorem shutD_size : ∀ (ds : List Nat) (W : World), (shutD ds W).heap.size = W.heap.size
  | [], _ => rfl
  | D :: ds, W => by rw [shutD, shutD_size ds]; simp
theorem shutD_off : ∀ (ds : List Nat) (W : World), Off (fun b => b ∈ ds) W (shutD ds W)
  | [], W => Off.refl _ _
  | D :: ds, W => by
    have h1 := (off_putObj W D (.deferred none)).mono (G := fun b => b ∈ D :: ds) (fun b _ z => by rw [z]; exact .head _)
    have h2 := (shutD_off ds (W.putObj D (.deferred none))).mono (G := fun b => b ∈ D :: ds) (fun b _ z => .tail _ z)
    exact h1.trans h2 (fun _ _ z => z)
theorem leaves_marks {F : Fence} {n : Nat} {P : Program} {fn : Func} {tmps : Array Value} {R : Ending → World → Prop} : ∀ (ds : List Nat) (W : World), ds.Nodup → (∀ D ∈ ds, W.heap[D]? = some (.deferred (some []))) →
    (∃ v, (results fn tmps).run P (shutD ds W) = .ok v (shutD ds W) ∧ R (.returned v) (shutD ds W)) → LeavesInM F n P fn tmps R (marksD ds) .returning W
  | [], W, _, _, h => h
  | D :: ds, W, hn, hd, h => by
    obtain ⟨h1, h2⟩ := List.nodup_cons.1 hn
    have hD := hd D (.head _)
    refine ⟨by simp, .inl ⟨D, _, rfl, run_takeDeferred hD, leaves_marks ds _ h2 (fun E hE => ?_) h⟩⟩
    have hne : E ≠ D := fun z => h1 (z ▸ hE)
    exact (World.putObj_heap_other hne).trans (hd E (.tail _ hE))
end Go.Proofs.YthfhpejpjiaikaaGreat
namespace Go.Proofs.YthfhpejpjiaikaaGreat
open Go.RowKit Go.Shelf
attribute [local go_sem] Oper.semAt_some
set_option linter.unusedVariables false
set_option linter.unusedSimpArgs false
/-- Has the rectangle to do with the other one? -/
def toucR (a r : Rc) : Bool := !(areaR (meetR a r) == 0)
/-- The nodes that are visited, each with how deep below it stands. -/
def QN.visit (r : Rc) : QN → List (Int × QN)
  | .nil => []
  | .leaf g v a L => if toucR a r then [(0, .leaf g v a L)] else []
  | .quad g n a q => if toucR a r then (0, .quad g n a q) :: ((q 0).visit r ++ (q 1).visit r ++ (q 2).visit r ++ (q 3).visit r).map (fun x => (x.1 + 1, x.2)) else []
abbrev encN (x : Int × QN) : Array Value := #[.int .i64 x.1, x.2.v]
/-- The blocks that the iterator leans on. -/
def nodG (p : QN) (NB RB : Nat) (b : Nat) : Prop := b ∈ p.bl ∨ b = NB ∨ b = RB
theorem nodes_any (v : Value) (o : Option Addr) (hv : v = .pointer o) (r : Rc) (w : World) : Calls Tryz.prog 50 #[v, .agg #[.int .i64 r.x, .int .i64 r.y, .int .i64 r.w, .int .i64 r.h]] w fun e w' => e = .returned (.func (.func 85) #[] #[.pointer (some ⟨w.heap.size, 0, none⟩), .pointer (some ⟨w.heap.size + 1, 0, none⟩)]) ∧
    w' = (w.alloc (.cells #[v] 68)).alloc (.cells #[.int .i64 r.x, .int .i64 r.y, .int .i64 r.w, .int .i64 r.h] 63) := by
  have hmf : ∀ (fn : Fn) (first cap : Array Value) (w : World), (Instr.makeFunc fn first cap).run Tryz.prog w = .ok (.func fn first cap) w := fun _ _ _ _ => rfl
  subst hv
  go_enter Tryz.func50, Tryz.ntmps50
  go_wp2
  go_ret
  exact ⟨rfl, rfl⟩
/-- Where the rectangle has nothing to do with the node's: nothing. -/
theorem nodes_out {p : QN} {g : Nat} {r : Rc} {w : World} (hv : p.v = .pointer (some ⟨g, 0, none⟩)) (hA : ∀ W : World, (∀ b ∈ p.bl, W.heap[b]? = w.heap[b]?) → ∀ j v, (#[Value.int .i64 p.area.x, .int .i64 p.area.y, .int .i64 p.area.w, .int .i64 p.area.h])[j]? = some v → W.cell? ⟨g, j, none⟩ = some v)
    (hm : toucR p.area r = false) {NB RB : Nat} (hn : Whole w NB 68 #[p.v]) (hr : Whole w RB 63 #[.int .i64 r.x, .int .i64 r.y, .int .i64 r.w, .int .i64 r.h]) (hlt : ∀ b ∈ p.bl, b < w.heap.size) :
    SeqO 85 #[.pointer (some ⟨NB, 0, none⟩), .pointer (some ⟨RB, 0, none⟩)] encN [] (nodG p NB RB) w := by
  intro l J Jx F0 W hsz hGW hFG kJ lJ kX lX hY hJ
  have hnW : Whole W NB 68 #[p.v] := (hGW NB (.inr (.inl rfl))).trans hn
  have hrW : Whole W RB 63 #[.int .i64 r.x, .int .i64 r.y, .int .i64 r.w, .int .i64 r.h] := (hGW RB (.inr (.inr rfl))).trans hr
  obtain ⟨w0, hw0⟩ : ∃ w0, w0 = W.alloc (.cells #[.func (.yield l) #[] #[]] 127) := ⟨_, rfl⟩
  have hs0 : Since W w0 := by rw [hw0]; exact (Since.refl W).alloc _
  have HW := Lib.hid hw0
  clear hw0
  have hc := fun W' (hW' : Since w0 W') => hA W' (fun b hb => ((hs0.trans hW').block b (Nat.lt_of_lt_of_le (hlt b hb) hsz)).trans (hGW b (.inl hb)))
  obtain ⟨⟨a, b, c, d⟩, ha⟩ : ∃ A, p.area = A := ⟨_, rfl⟩
  obtain ⟨rx, ry, rw', rh⟩ := r
  obtain ⟨⟨X, Y, C, D⟩, hM⟩ : ∃ M, meetR ⟨a, b, c, d⟩ ⟨rx, ry, rw', rh⟩ = M := ⟨_, rfl⟩
  rw [ha] at hc hm
  unfold toucR at hm
  rw [hM] at hm
  have hm0 : areaR ⟨X, Y, C, D⟩ = 0 := by simpa using hm
  have HM := Lib.hid hM
  have HA := Lib.hid hm0
  rw [hv] at hnW
  have q0 := fun W' h => hc W' h 0 _ rfl
  have q1 := fun W' h => hc W' h 1 _ rfl
  have q2 := fun W' h => hc W' h 2 _ rfl
  have q3 := fun W' h => hc W' h 3 _ rfl
  have n0 := box_cell (hs0.whole hnW) 0 _ rfl
  have r0 := box_cell (hs0.whole hrW) 0 _ rfl
  have r1 := box_cell (hs0.whole hrW) 1 _ rfl
  have r2 := box_cell (hs0.whole hrW) 2 _ rfl
  have r3 := box_cell (hs0.whole hrW) 3 _ rfl
  dsimp only at q0 q1 q2 q3 r0 r1 r2 r3
  have hend : ∀ W', Since w0 W' → EndP J [] F0 W W' := fun W' h => EndP.since (hs0.trans h) ⟨F0, kJ.since lJ hJ (hs0.trans h), Off.refl _ _, fun _ z => .inl z⟩
  clear hm hM hm0 hc hA hnW hrW hv ha hn hr hGW hFG hY hJ hlt
  show Calls Tryz.prog 85 #[.func (.yield l) #[] #[], .pointer (some ⟨NB, 0, none⟩), .pointer (some ⟨RB, 0, none⟩)] W _
  go_enter Tryz.func85, Tryz.ntmps85
  go_wp2_with fail
  rw [← HW.out]
  obtain ⟨wq, hwq⟩ : ∃ wq, wq = w0.drew := ⟨_, rfl⟩
  have hqs : Since w0 wq := by rw [hwq]; exact (Since.refl w0).drew
  refine wp_region_held_drew (S := fun W' => Since w0 W') (by kernel_rfl) (Since.refl w0).drew (fun hHeld => ?_)
  rw [← hwq] at hHeld ⊢
  clear hwq
  refine wpAnyH_take (i := 0) (v := ?_) rfl (by kernel_rfl) (by kernel_rfl) (by kernel_rfl) (fun _ _ _ h => h) (Or.inl ⟨by rfl, ?_⟩) (by assumption) ?_
  rotate_left 1
  · (intro W hW; skip; go_simp; try with_reducible rfl)
  simp only [Act.put, List.getElem_toArray, List.getElem_cons_zero, List.setIfInBounds_toArray, List.set_cons_zero, List.set_cons_succ]
  refine wpAnyH_take (i := 1) (v := ?_) rfl (by kernel_rfl) (by kernel_rfl) (by kernel_rfl) (fun _ _ _ h => h) (Or.inl ⟨by rfl, ?_⟩) (by assumption) ?_
  rotate_left 1
  · (intro W hW; clear hW; go_simp; try with_reducible rfl)
  simp only [Act.put, List.getElem_toArray, List.getElem_cons_succ, List.getElem_cons_zero, List.setIfInBounds_toArray, List.set_cons_zero, List.set_cons_succ]
  refine wpAnyH_take (i := 2) (v := ?_) rfl (by kernel_rfl) (by kernel_rfl) (by kernel_rfl) (fun _ _ _ h => h) (Or.inl ⟨by rfl, ?_⟩) (by assumption) ?_
  rotate_left 1
  · (intro W hW; clear hW; go_simp; try with_reducible rfl)
  simp only [Act.put, List.getElem_toArray, List.getElem_cons_succ, List.getElem_cons_zero, List.setIfInBounds_toArray, List.set_cons_zero, List.set_cons_succ]
  refine wpAnyH_take (i := 3) (v := ?_) rfl (by kernel_rfl) (by kernel_rfl) (by kernel_rfl) (fun _ _ _ h => h) (Or.inl ⟨by rfl, ?_⟩) (by assumption) ?_
  rotate_left 1
  · (intro W hW; skip; go_simp; try with_reducible rfl)
  simp only [Act.put, List.getElem_toArray, List.getElem_cons_succ, List.getElem_cons_zero, List.setIfInBounds_toArray, List.set_cons_zero, List.set_cons_succ]
  refine wpAnyH_take (i := 4) (v := ?_) rfl (by kernel_rfl) (by kernel_rfl) (by kernel_rfl) (fun _ _ _ h => h) (Or.inl ⟨by rfl, ?_⟩) (by assumption) ?_
  rotate_left 1
  · (intro W hW; skip; go_simp; try with_reducible rfl)
  simp only [Act.put, List.getElem_toArray, List.getElem_cons_succ, List.getElem_cons_zero, List.setIfInBounds_toArray, List.set_cons_zero, List.set_cons_succ]
  refine wpAnyH_ready (rs := [5]) (by kernel_rfl) (by simp) ?_
  refine AllReadyH.cons rfl (fun K hK => ?_) AllReadyH.nil
  go_simp
  refine (wMeet_at HM.out _).mono ?_
  rintro e w2 ⟨rfl, hb2⟩
  go_wp2_with fail
  refine hK.out _ _ (hHeld.trans hb2) (fun hHeld => ?_)
  clear hK K
  try simp only [Act.put, List.getElem_toArray, List.getElem_cons_succ, List.getElem_cons_zero, List.setIfInBounds_toArray, List.set_cons_zero, List.set_cons_succ]
  refine wpAnyH_ready (rs := [6]) (by kernel_rfl) (by simp) ?_
  refine AllReadyH.cons rfl (fun K hK => ?_) AllReadyH.nil
  go_simp
  refine (wArea_at HA.out _).mono ?_
  rintro e w3 ⟨rfl, hb3⟩
  go_wp2_with fail
  refine hK.out _ _ (hHeld.trans hb3) (fun hHeld => ?_)
  clear hK K
  try simp only [Act.put, List.getElem_toArray, List.getElem_cons_succ, List.getElem_cons_zero, List.setIfInBounds_toArray, List.set_cons_zero, List.set_cons_succ]
  refine wpAnyH_take (i := 7) (v := ?_) rfl (by kernel_rfl) (by kernel_rfl) (by kernel_rfl) (fun _ _ _ h => h) (Or.inl ⟨by rfl, ?_⟩) (by assumption) ?_
  rotate_left 1
  · (intro W hW; clear hW; go_simp; try with_reducible rfl)
  simp only [Act.put, List.getElem_toArray, List.getElem_cons_succ, List.getElem_cons_zero, List.setIfInBounds_toArray, List.set_cons_zero, List.set_cons_succ]
  refine wpAnyH_take (i := 8) (v := ?_) rfl (by kernel_rfl) (by kernel_rfl) (by kernel_rfl) (fun _ _ _ h => h) (Or.inl ⟨by rfl, ?_⟩) (by assumption) ?_
  rotate_left 1
  · (intro W hW; clear hW; go_simp; try with_reducible rfl)
  simp only [Act.put, List.getElem_toArray, List.getElem_cons_succ, List.getElem_cons_zero, List.setIfInBounds_toArray, List.set_cons_zero, List.set_cons_succ]
  refine wpAnyH_take (i := 9) (v := undef) rfl (by kernel_rfl) (by kernel_rfl) (by kernel_rfl) (fun _ _ _ h => h) (Or.inr ⟨by rfl, rfl⟩) (by assumption) ?_
  simp only [Act.put, List.getElem_toArray, List.getElem_cons_succ, List.getElem_cons_zero, List.setIfInBounds_toArray, List.set_cons_zero, List.set_cons_succ]
  refine wpAnyH_take (i := 10) (v := undef) rfl (by kernel_rfl) (by kernel_rfl) (by kernel_rfl) (fun _ _ _ h => h) (Or.inr ⟨by rfl, rfl⟩) (by assumption) ?_
  simp only [Act.put, List.getElem_toArray, List.getElem_cons_succ, List.getElem_cons_zero, List.setIfInBounds_toArray, List.set_cons_zero, List.set_cons_succ]
  refine wpAnyH_take (i := 11) (v := undef) rfl (by kernel_rfl) (by kernel_rfl) (by kernel_rfl) (fun _ _ _ h => h) (Or.inr ⟨by rfl, rfl⟩) (by assumption) ?_
  simp only [Act.put, List.getElem_toArray, List.getElem_cons_succ, List.getElem_cons_zero, List.setIfInBounds_toArray, List.set_cons_zero, List.set_cons_succ]
  refine wpAnyH_take (i := 12) (v := undef) rfl (by kernel_rfl) (by kernel_rfl) (by kernel_rfl) (fun _ _ _ h => h) (Or.inr ⟨by rfl, rfl⟩) (by assumption) ?_
  simp only [Act.put, List.getElem_toArray, List.getElem_cons_succ, List.getElem_cons_zero, List.setIfInBounds_toArray, List.set_cons_zero, List.set_cons_succ]
  refine wpAnyH_take (i := 13) (v := ?_) rfl (by kernel_rfl) (by kernel_rfl) (by kernel_rfl) (fun _ _ _ h => h) (Or.inl ⟨by rfl, ?_⟩) (by assumption) ?_
  rotate_left 1
  · (intro W hW; clear hW; go_simp; try with_reducible rfl)
  simp only [Act.put, List.getElem_toArray, List.getElem_cons_succ, List.getElem_cons_zero, List.setIfInBounds_toArray, List.set_cons_zero, List.set_cons_succ]
  refine wpAnyH_done (by kernel_rfl) ?_ _
  go_wp2
  (try simp only [Exit.inBlock, Exit.then]); refine bodyPost_ret (results_none rfl _ _ _) rfl ?_
  exact ⟨⟨_, rfl⟩, .inl (hend _ hHeld)⟩
/-- Behind a round: what the yield has answered. -/
theorem rnd_bb {α : Type} {J Jx : List α → (Nat → Prop) → World → Prop} {pre : List α} {x : α} {F : Nat → Prop} {W W' : World} {e : Ending} (h : RndP J Jx pre x F W e W') :
    ∃ bb, e = .returned (.bool bb) ∧ Off F W W' ∧ ((bb = true ∧ EndP J (pre ++ [x]) F W W') ∨ (bb = false ∧ EndP Jx (pre ++ [x]) F W W')) := by
  rcases h with ⟨rfl, h⟩ | ⟨rfl, h⟩
  · exact ⟨true, rfl, h.choose_spec.2.1, .inl ⟨rfl, h⟩⟩
  · exact ⟨false, rfl, h.choose_spec.2.1, .inr ⟨rfl, h⟩⟩
end Go.Proofs.YthfhpejpjiaikaaGreat
namespace Go.Proofs.YthfhpejpjiaikaaGreat
open Go.RowKit Go.Shelf
theorem rounds_inv {F : Fence} {n : Nat} {P : Program} {c : Code} {Q : Exit → Act → World → Prop} {a : Act} {w : World} (N : Nat) (Inv : Nat → Act → World → Prop) (h0 : Inv 0 a w)
    (hstep : ∀ i a w, i < N → Inv i a w → c.wpIn F n P (Exit.then (Inv (i + 1)) Q) a w) (hend : ∀ a w, Inv N a w → c.wpIn F n P (Exit.then (fun _ _ => False) Q) a w) : (Code.loop c).wpIn F n P Q a w := by
  refine wpIn_loop_rounds (N + 1) ?_
  have key : ∀ m i a w, i + m = N → Inv i a w → Code.roundsIn F n P c Q (m + 1) a w := by
    intro m
    induction m with
    | zero =>
      intro i a w hi h
      obtain rfl : i = N := by omega
      exact wpIn_mono (hend a w h) (fun e a w h => by cases e <;> first | exact h | exact h.elim)
    | succ m ih =>
      intro i a w hi h
      exact wpIn_mono (hstep i a w (by omega) h) (fun e a w h => by cases e <;> first | exact h | exact ih (i + 1) a w (by omega) h)
  exact key N 0 a w (by omega) h0
theorem RoundIn.inRound {F : Fence} {n : Nat} {P : Program} {l0 : Nat} {f : FuncId} {tmps : Array Value} {assign body : Code} {w : World} {R : Ending → World → Prop} (l : Nat) (h : RoundIn F n P l0 f tmps assign body w R) : RoundIn (F.inRound l) n P l0 f tmps assign body w R := h
end Go.Proofs.YthfhpejpjiaikaaGreat
