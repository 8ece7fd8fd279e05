/- A region that draws its order, one of whose operations waits for all others: what is known of the world need not hold behind that one. Nothing of one program. append(s, x...) of a whole list onto a list of the call's own; parts of lists. Nothing of one program. The document's tilings: a list by paths: at, cut, put. The document's tilings: where a path lies in the list. The document's tilings: a tile at its place. The document's tilings: Drop, Give. The changes of a list by places are those of tiles in order. Pure. Split and Merge of a list by places are those of tiles in order. Pure. -/
import Derived.Test.YtgnhamhkpbadbaaTBase
import Derived.OrdersHeld
import Derived.Deep.RegionHeld
import Derived.Test.YtgnhamhkpbadbaaHOff
import Derived.RangeFuncRecord
import Derived.Test.YtgnhamhkpbadbaaGAdd
import Derived.Test.YtgnhamhkpbadbaaPRef
import Derived.Test.YtgnhamhkpbadbaaPTwos
namespace Go.Proofs.Ytgnhamhkpbadbaa
section
variable {P : Program} {ops : Array Oper} {Q : Exit → Act → World → Prop} {md : Region.Mode} {S : World → Prop} {z : Nat}
/-- Does operation z wait for i? -/
def zWaits (md : Region.Mode) (ops : Array Oper) (z i : Nat) : Bool := match ops[z]? with
  | some o => o.after.any fun e => Region.binds md e && e.on == i
  | none => false
theorem zWaits_spec {i : Nat} {oz : Oper} (hz : ops[z]? = some oz) (h : zWaits md ops z i = true) : ∃ e ∈ oz.after, Region.binds md e = true ∧ e.on = i := by
  unfold zWaits at h
  rw [hz] at h
  obtain ⟨e, h1, h2⟩ := Array.any_eq_true'.1 h
  rw [Bool.and_eq_true, beq_iff_eq] at h2
  exact ⟨e, h1, h2.1, h2.2⟩
/-- z waits for i, or for one that is still open and waits for i. -/
def zHolds (md : Region.Mode) (ops : Array Oper) (z : Nat) (listed : Array Bool) (i : Nat) : Bool := zWaits md ops z i || (List.range ops.size).any fun k => zWaits md ops z k && zWaits md ops k i && !listed.getD k true
theorem zHolds_spec {listed : Array Bool} {i : Nat} (h : zHolds md ops z listed i = true) : zWaits md ops z i = true ∨ ∃ k, zWaits md ops z k = true ∧ zWaits md ops k i = true ∧ listed.getD k true = false := by
  unfold zHolds at h
  rcases (by simpa only [Bool.or_eq_true] using h : _ ∨ _) with h | h
  · exact .inl h
  · obtain ⟨k, _, h1⟩ := List.any_eq_true.1 h
    simp only [Bool.and_eq_true, Bool.not_eq_true'] at h1
    exact .inr ⟨k, h1.1.1, h1.1.2, h1.2⟩
/-- In whatever order; S holds behind each operation but z. -/
def wpLast (P : Program) (md : Region.Mode) (ops : Array Oper) (Q : Exit → Act → World → Prop) (S : World → Prop) (z : Nat) : Nat → Array Bool → Act → World → Prop
  | 0, listed, a, w => Region.ready md ops listed = [] ∧ Q .normal a w
  | fuel + 1, listed, a, w =>
    (Region.ready md ops listed = [] → Q .normal a w) ∧
    ∀ i ∈ Region.ready md ops listed, wpOp P ops Q i (fun a' w' => (i ≠ z → S w') ∧ wpLast P md ops Q S z fuel (listed.setIfInBounds i true) a' w') a w
theorem wpAny_of_last : ∀ (fuel : Nat) (listed : Array Bool) (a : Act) (w : World), wpLast P md ops Q S z fuel listed a w → wpAny P md ops Q fuel listed a w
  | 0, _, _, _, h => h
  | fuel + 1, _, _, _, h => ⟨h.1, fun i hi => wpOp_mono (fun a' w' h' => wpAny_of_last fuel _ a' w' h'.2) (h.2 i hi)⟩
theorem wpLast_first {i : Nat} {oi : Oper} {v : Value} (hi : ops[i]? = some oi) (hiz : i ≠ z) (hsel : ∀ (j : Nat) (o : Oper) cs b, ops[j]? = some o → o.op ≠ .select cs b)
    (hQ : ∀ c a w, Q (.panic c) (a.put oi.dst v) w → Q (.panic c) a w) :
    ∀ (fuel : Nat) (listed : Array Bool) (a : Act) (w : World),
      (zWaits md ops z i = true ∨ ∃ k, zWaits md ops z k = true ∧ zWaits md ops k i = true ∧ listed.getD k true = false) →
      (∀ j oj, ops[j]? = some oj → j ≠ i → listed.getD j true = false → (∀ e ∈ oj.after, Region.binds md e = true → e.on ≠ i) → oi.apart ops oj = true) →
      i ∈ Region.ready md ops listed → YieldsIf P ops S oi v a → S w →
      wpLast P md ops Q S z fuel (listed.setIfInBounds i true) (a.put oi.dst v) w → wpLast P md ops Q S z (fuel + 1) listed a w := by
  intro fuel
  induction fuel with
  | zero =>
    intro listed a w _ _ hr hy hS H
    refine ⟨fun h => (by rw [h] at hr; cases hr), fun j hj => ?_⟩
    by_cases hji : j = i
    · subst hji
      exact hy.wpOp hi hS ⟨fun _ => hS, H⟩
    · have := ready_mono hj hji
      rw [H.1] at this
      cases this
  | succ fuel ih =>
    intro listed a w hzi hfree hr hy hS H
    refine ⟨fun h => (by rw [h] at hr; cases hr), fun j hj => ?_⟩
    by_cases hji : j = i
    · subst hji
      exact hy.wpOp hi hS ⟨fun _ => hS, H⟩
    · have h1 := H.2 j (ready_mono hj hji)
      obtain ⟨hjun, oj, hoj, hall⟩ := mem_ready.1 hj
      have hnot : ∀ e ∈ oj.after, Region.binds md e = true → e.on ≠ i := fun e he hb heq => by
        have h1 := hall e he hb
        have h0 := (mem_ready.1 hr).1
        rw [heq] at h1
        rcases Nat.lt_or_ge i listed.size with h' | h'
        · simp [h'] at h0 h1; rw [h0] at h1; cases h1
        · simp [Array.getElem?_eq_none h'] at h1
      -- z waits for i, and so does not come up here
      have hjz : j ≠ z := fun e => by
        subst e
        rcases hzi with hzi | ⟨k, h1, _, h3⟩
        · obtain ⟨e, he, hb, heq⟩ := zWaits_spec hoj hzi
          exact hnot e he hb heq
        · obtain ⟨e, he, hb, heq⟩ := zWaits_spec hoj h1
          have h5 := hall e he hb
          rw [heq] at h5
          rcases Nat.lt_or_ge k listed.size with h' | h'
          · simp [h'] at h3 h5; rw [h3] at h5; cases h5
          · simp [Array.getElem?_eq_none h'] at h5
      have hzi' : zWaits md ops z i = true ∨ ∃ k, zWaits md ops z k = true ∧ zWaits md ops k i = true ∧ (listed.setIfInBounds j true).getD k true = false := by
        rcases hzi with hzi | ⟨k, h1, h2, h3⟩
        · exact .inl hzi
        · refine .inr ⟨k, h1, h2, ?_⟩
          by_cases hjk : j = k
          · subst hjk
            obtain ⟨e, he, hb, heq⟩ := zWaits_spec hoj h2
            exact absurd heq (hnot e he hb)
          · rw [getD_set_ne true hjk]; exact h3
      have h2 := wpOp_putIf hoj (hfree j oj hoj hji hjun hnot) (fun cs b => hsel i oi cs b hi) (fun cs b => hsel j oj cs b hoj) hQ hy h1
      have hfree' : ∀ k ok, ops[k]? = some ok → k ≠ i → (listed.setIfInBounds j true).getD k true = false →
          (∀ e ∈ ok.after, Region.binds md e = true → e.on ≠ i) → oi.apart ops ok = true := fun k ok hk hki hun hno => by
        refine hfree k ok hk hki ?_ hno
        by_cases hjk : j = k
        · subst hjk; exact hjun
        · rw [getD_set_ne true hjk] at hun; exact hun
      refine wpOp_mono (fun a' w' h3 => ⟨h3.2.1, ih (listed.setIfInBounds j true) a' w' hzi' hfree' (ready_mono hr (Ne.symm hji)) h3.1 (h3.2.1 hjz) ?_⟩) h2
      rw [Array.setIfInBounds_comm _ _ hji]
      exact h3.2.2
/-- Take operation i first. -/
theorem wpLast_take {i : Nat} {oi : Oper} {v : Value} {fuel : Nat} {listed : Array Bool} {a : Act} {w : World} (hi : ops[i]? = some oi) (hiz : (i == z) = false) (hzi : zHolds md ops z listed i = true)
    (hs : Region.noSelect ops = true) (hf : Region.free md ops listed i = true) (hr : (Region.ready md ops listed).contains i = true)
    (hQ : ∀ c a w, Q (.panic c) (a.put oi.dst v) w → Q (.panic c) a w) (hy : YieldsIf P ops S oi v a) (hS : S w)
    (h : wpLast P md ops Q S z fuel (listed.setIfInBounds i true) (a.put oi.dst v) w) : wpLast P md ops Q S z (fuel + 1) listed a w :=
  wpLast_first hi (by simpa using hiz) (Region.noSelect_spec hs) hQ fuel listed a w (zHolds_spec hzi) (Region.free_spec hi hf) (by simpa using hr) hy hS h
/-- Each of the operations rs comes up next. -/
def LastReady (P : Program) (md : Region.Mode) (ops : Array Oper) (Q : Exit → Act → World → Prop) (S : World → Prop) (z : Nat) (fuel : Nat) (listed : Array Bool) (a : Act) (w : World) (rs : List Nat) : Prop :=
  ∀ i ∈ rs, wpOp P ops Q i (fun a' w' => (i ≠ z → S w') ∧ wpLast P md ops Q S z fuel (listed.setIfInBounds i true) a' w') a w
theorem LastReady.nil {fuel : Nat} {listed : Array Bool} {a : Act} {w : World} : LastReady P md ops Q S z fuel listed a w [] := fun _ h => by cases h
theorem LastReady.cons {fuel : Nat} {listed : Array Bool} {a : Act} {w : World} {i : Nat} {o : Oper} {rs : List Nat} (ho : ops[i]? = some o)
    (h : ∀ K' : Act → World → Prop, Shut (∀ a w, (i ≠ z → S w) → ((i ≠ z → S w) → wpLast P md ops Q S z fuel (listed.setIfInBounds i true) a w) → K' a w) → if Region.wanted o (yielded ops a.tmps) = true then Oper.wp P o a w K' Q else K' (a.put o.dst undef) w)
    (hs : LastReady P md ops Q S z fuel listed a w rs) : LastReady P md ops Q S z fuel listed a w (i :: rs) := fun j hj => by
  rcases List.mem_cons.1 hj with rfl | hj
  · exact wpOp_step ho (fun K' hK => h K' (fun a w hS hW => hK a w ⟨hS, hW hS⟩))
  · exact hs j hj
theorem wpLast_ready {rs : List Nat} {fuel : Nat} {listed : Array Bool} {a : Act} {w : World} (hr : Region.ready md ops listed = rs) (hne : rs ≠ [])
    (h : LastReady P md ops Q S z fuel listed a w rs) : wpLast P md ops Q S z (fuel + 1) listed a w := ⟨fun h0 => absurd (hr ▸ h0) hne, hr ▸ h⟩
theorem wpLast_done {listed : Array Bool} {a : Act} {w : World} (hr : Region.ready md ops listed = []) (h : Q .normal a w) : ∀ fuel, wpLast P md ops Q S z fuel listed a w
  | 0 => ⟨hr, h⟩
  | _ + 1 => ⟨fun _ => h, by rw [hr]; simp⟩
/-- The beginning. -/
theorem wp_region_last (S : World → Prop) (z : Nat) {id : Nat} {a : Act} {w : World} (hm : P.follows .mixedOrders = true) (hS : S w.drew)
    (h : S w.drew → wpLast P .any ops Q S z ops.size (Array.replicate ops.size false) a w.drew) : (Code.region id ops true).wp P Q a w :=
  wp_region_any hm (wpAny_of_last _ _ _ _ (h hS))
end
end Go.Proofs.Ytgnhamhkpbadbaa
namespace Go.Proofs.Ytgnhamhkpbadbaa
open Go.RowKit
set_option linter.unusedVariables false
section
variable {α : Type} {enc : α → List Value} {n : Nat} {W W' : World}
/-- A part of a list that lies there, at whatever place. -/
def PartE (enc : α → List Value) (W : World) (x : Value) (m : List α) : Prop :=
  (x = .slice none 0 0 ∧ m = []) ∨ ∃ ad c, x = .slice (some ad) m.length c ∧ ∀ j u, (m.flatMap enc)[j]? = some u → W.cell? (ad.add j) = some u
theorem run_append_part (t ty e : TypeId) (i : TypeInfo) (z : Value) (bytes : Nat) (base : Nat) (ht : Try.prog.underlying t = some (.slice e)) (hi : Try.prog.info? e = some i) (hz : i.zero = some z)
    (hsize : i.size = n) (hby : i.bytes = bytes) (hzs : z.cells.size = n) (hsz : 0 < n) {v : Value} {l : List α} (hrow : RowE enc n W base e v l) {x : Value} {m : List α} (hx : PartE enc W x m) (hlen : ∀ r, (enc r).length = n) (h1 : ∀ r, ∀ u ∈ enc r, u.oneCell' = true)
    (hmax : l.length + m.length ≤ 100000) (hbytes : bytes ≤ 1000) (hb : base ≤ W.heap.size) :
    ∃ v' w', (Builtin.append_ #[t, t] ty #[v, x]).run Try.prog W = .ok v' w' ∧ RowE enc n w' base e v' (l ++ m) ∧ W.grownBy w' v.ownBlock ∧ (v'.ownBlock = v.ownBlock ∨ v'.ownBlock = some W.heap.size) := by
  have hbb : (l.length + m.length) * bytes ≤ 140737488355328 := Nat.le_trans (Nat.mul_le_mul hmax hbytes) (by decide)
  have hfl : ∀ m : List α, (m.flatMap enc).length = m.length * n := fun m => by
    induction m with
    | nil => simp
    | cons r m ih => rw [List.flatMap_cons, List.length_append, ih, hlen, List.length_cons, Nat.add_mul]; omega
  rcases hx with ⟨rfl, rfl⟩ | ⟨ad, c, rfl, hc⟩
  · subst hsize
    refine ⟨v, W, ?_, by rw [List.append_nil]; exact hrow, ⟨rfl, rfl, rfl, Nat.le_refl _, fun _ _ _ => rfl⟩, .inl rfl⟩
    rcases hrow.2 with ⟨rfl, h0⟩ | ⟨g, cap, cur, rfl, hbg, hg, hnc, hcm, hcs, htake⟩
    · simp [Builtin.append_, run_underlying ht, sizeOf, typeInfo, hi, Builtin.lenOf, Builtin.firstCells]
    · simp [Builtin.append_, run_underlying ht, sizeOf, typeInfo, hi, Builtin.lenOf, Builtin.firstCells, loadCells, hnc, storeCells]
  · obtain ⟨v', w', h2, h3, h4, _, h5⟩ := run_append_own_at (P := Try.prog) W base t ty e i z n bytes ht hi hz hsize hby hzs hsz v l.length _ hrow ad m.length c (m.flatMap enc) (hfl m) hc (fun u hu => by
      obtain ⟨r, _, hr⟩ := List.mem_flatMap.1 hu
      exact h1 r u hr) (Nat.le_trans hmax (by decide)) hbb hb
    refine ⟨v', w', h2, ?_, h4, h5⟩
    unfold RowE
    rw [List.length_append, List.flatMap_append]
    exact h3
theorem RowE.shape2 {base : Nat} {T : TypeId} {v : Value} {l : List α} (h : RowE enc n W base T v l) : ∃ a c, v = .slice a l.length c := by
  rcases h.2 with ⟨h1, h2⟩ | ⟨g, cap, cur, h1, _⟩
  · exact ⟨none, 0, by rw [h1, h2]⟩
  · exact ⟨_, _, h1⟩
theorem RowE.shape3 {base : Nat} {T : TypeId} {v : Value} {l : List α} (h : RowE enc n W base T v l) : ∃ a m c, v = .slice a m c := let ⟨a, c, e⟩ := h.shape2; ⟨a, _, c, e⟩
/-- append(s, x...) at a step of a region that draws its order. -/
theorem step_append_part {ops : Array Oper} {o : Oper} {a : Act} {K : Act → World → Prop} {Q : Exit → Act → World → Prop} {E : Prop} (hgd : o.guard = none) (s x : Operand) (TS : TypeId)
    (ho : o.op = .call { callee := .builtin .append, args := #[s, x], argTypes := #[TS, TS] })
    (base : Nat) (T : TypeId) (z : Value) (bytes : Nat) (ht : Try.prog.underlying TS = some (.slice T)) (hi : (Try.prog.info? T).map (fun i => (i.zero, i.size, i.bytes)) = some (some z, n, bytes)) (hzs : z.cells.size = n) (hsz : 0 < n)
    {v xv : Value} {l m : List α} (hrow : RowE enc n W base T v l) (hx : PartE enc W xv m) (hlen : ∀ r, (enc r).length = n) (h1 : ∀ r, ∀ u ∈ enc r, u.oneCell' = true)
    (hs : a.eval s = v) (hxv : a.eval x = xv) (hmax : l.length + m.length ≤ 100000) (hbytes : bytes ≤ 1000) (hb : base ≤ W.heap.size)
    (h : ∀ va vc w', RowE enc n w' base T (.slice va (l.length + m.length) vc) (l ++ m) → Off (fun b => v.ownBlock = some b) W w' → ((Value.slice va (l.length + m.length) vc).ownBlock = v.ownBlock ∨ (Value.slice va (l.length + m.length) vc).ownBlock = some W.heap.size) → K (a.put o.dst (.slice va (l.length + m.length) vc)) w') :
    if Region.wanted o (yielded ops a.tmps) = true then Oper.wp Try.prog o a W K Q else E := by
  obtain ⟨i0, hi, hz0, hz1, hz2⟩ := info_parts hi
  obtain ⟨v', w', hr, h2, h3, h4⟩ := run_append_part (W := W) TS o.type T i0 z bytes base ht hi hz0 hz1 hz2 hzs hsz hrow hx hlen h1 hmax hbytes hb
  have hw : Region.wanted o (yielded ops a.tmps) = true := by simp [Region.wanted, hgd]
  rw [if_pos hw]
  obtain ⟨va, vc, rfl⟩ := RowE.shape2 h2
  rw [List.length_append] at h2 h4 hr
  have hk := h va vc w' h2 ⟨h3.os, h3.tape, h3.output, h3.size, fun b hb hn => h3.block b hb (fun e => hn e.symm)⟩ h4
  unfold Oper.wp execOp
  simp only [ho, resolve, invoke, builtin, Sem.run_bind, Sem.run_pure, Result.andThen_ok, List.map_toArray, List.map_cons, List.map_nil, hs, hxv, hr]
  exact hk
/-- The same, where what comes out needs no form. -/
theorem step_append_val {ops : Array Oper} {o : Oper} {a : Act} {K : Act → World → Prop} {Q : Exit → Act → World → Prop} {E : Prop} (hgd : o.guard = none) (s x : Operand) (TS : TypeId)
    (ho : o.op = .call { callee := .builtin .append, args := #[s, x], argTypes := #[TS, TS] })
    (base : Nat) (T : TypeId) (z : Value) (bytes : Nat) (ht : Try.prog.underlying TS = some (.slice T)) (hi : (Try.prog.info? T).map (fun i => (i.zero, i.size, i.bytes)) = some (some z, n, bytes)) (hzs : z.cells.size = n) (hsz : 0 < n)
    {v xv : Value} {l m : List α} (hrow : RowE enc n W base T v l) (hx : PartE enc W xv m) (hlen : ∀ r, (enc r).length = n) (h1 : ∀ r, ∀ u ∈ enc r, u.oneCell' = true)
    (hs : a.eval s = v) (hxv : a.eval x = xv) (hmax : l.length + m.length ≤ 100000) (hbytes : bytes ≤ 1000) (hb : base ≤ W.heap.size)
    (h : ∀ v' w', RowE enc n w' base T v' (l ++ m) → Off (fun b => v.ownBlock = some b) W w' → K (a.put o.dst v') w') :
    if Region.wanted o (yielded ops a.tmps) = true then Oper.wp Try.prog o a W K Q else E :=
  step_append_part hgd s x TS ho base T z bytes ht hi hzs hsz hrow hx hlen h1 hs hxv hmax hbytes hb (fun va vc w' a1 a2 _ => h _ w' a1 a2)
/-- A list of one in memory. -/
theorem PartE.one {g : Nat} {t : TypeId} {r : α} {c : Nat} (h : Whole W g t (enc r).toArray) : PartE enc W (.slice (some ⟨g, 0, none⟩) 1 c) [r] :=
  .inr ⟨_, c, rfl, fun j u hu => by
    rw [show (⟨g, 0, none⟩ : Addr).add j = ⟨g, j, none⟩ by unfold Addr.add; split <;> simp_all, h.cell j]
    simpa using hu⟩
theorem flat_take (hlen : ∀ r, (enc r).length = n) : ∀ (l : List α) (i : Nat), (l.take i).flatMap enc = (l.flatMap enc).take (i * n)
  | [], i => by simp
  | r :: l, 0 => by simp
  | r :: l, i + 1 => by
    rw [List.take_succ_cons, List.flatMap_cons, List.flatMap_cons, flat_take hlen l i, Nat.add_mul, Nat.one_mul, List.take_append, List.take_of_length_le (l := enc r) (by rw [hlen]; omega), hlen, Nat.add_sub_cancel]
theorem flat_drop (hlen : ∀ r, (enc r).length = n) : ∀ (l : List α) (i : Nat), (l.drop i).flatMap enc = (l.flatMap enc).drop (i * n)
  | [], i => by simp
  | r :: l, 0 => by simp
  | r :: l, i + 1 => by
    rw [List.drop_succ_cons, List.flatMap_cons, flat_drop hlen l i, Nat.add_mul, Nat.one_mul, List.drop_append, List.drop_of_length_le (l := enc r) (by rw [hlen]; omega), hlen, Nat.add_sub_cancel, List.nil_append]
/-- An empty list of the call's own. -/
theorem RowE.empty (W : World) (T : TypeId) : RowE enc n (W.alloc (.cells #[] T)) W.heap.size T (.slice (some ⟨W.heap.size, 0, none⟩) 0 0) [] :=
  ⟨by simp, .inr ⟨W.heap.size, 0, #[], rfl, Nat.le_refl _, World.alloc_heap_new W _, Nat.le_refl _, by decide, by simp, by simp⟩⟩
theorem RowE.take {g cap i : Nat} {base : Nat} {T : TypeId} {l : List α} (h : RowE enc n W base T (.slice (some ⟨g, 0, none⟩) l.length cap) l) (hlen : ∀ r, (enc r).length = n) (hi : i ≤ l.length) : PartE enc W (.slice (some ⟨g, 0, none⟩) i cap) (l.take i) := by
  have hl : (l.take i).length = i := by rw [List.length_take]; omega
  refine .inr ⟨_, cap, by rw [hl], fun j u hu => ?_⟩
  rw [flat_take hlen] at hu
  exact World.ownsRow.cells (g := g) h rfl j u (by
    rw [List.getElem?_take] at hu
    split at hu
    · exact hu
    · cases hu)
theorem RowE.drop {g cap i c : Nat} {base : Nat} {T : TypeId} {l : List α} (h : RowE enc n W base T (.slice (some ⟨g, 0, none⟩) l.length cap) l) (hlen : ∀ r, (enc r).length = n) : PartE enc W (.slice (some ⟨g, i * n, none⟩) (l.length - i) c) (l.drop i) := by
  refine .inr ⟨_, c, by rw [List.length_drop], fun j u hu => ?_⟩
  rw [flat_drop hlen, List.getElem?_drop] at hu
  have := World.ownsRow.cells (g := g) h rfl (i * n + j) u hu
  rw [add_at] at this
  rw [show (⟨g, i * n, none⟩ : Addr).add j = ⟨g, i * n + j, none⟩ by unfold Addr.add; split <;> simp_all]
  exact this
theorem RowE.drop2 {g cap i : Nat} {base : Nat} {T : TypeId} {l : List α} (h : RowE enc n W base T (.slice (some ⟨g, 0, none⟩) l.length cap) l) (hlen : ∀ r, (enc r).length = n) (hc : l.length ≤ cap) {x c : Nat} : PartE enc W (.slice (if cap = i then some ⟨g, x, none⟩ else some ⟨g, i * n, none⟩) (l.length - i) c) (l.drop i) := by
  by_cases hci : cap = i
  · have e : l.drop i = [] := List.drop_of_length_le (by omega)
    rw [if_pos hci, e, show l.length - i = 0 by omega]
    exact .inr ⟨⟨g, x, none⟩, c, rfl, fun j u hu => by simp at hu⟩
  · rw [if_neg hci]; exact h.drop hlen
/-- A whole row. -/
theorem RowE.part {base : Nat} {T : TypeId} {v : Value} {l : List α} (h : RowE enc n W base T v l) (hlen : ∀ r, (enc r).length = n) : PartE enc W v l := by
  rcases h.2 with ⟨h1, h2⟩ | ⟨g, cap, cur, rfl, _⟩
  · exact .inl ⟨h1, List.eq_nil_of_length_eq_zero h2⟩
  · exact .inr ⟨_, _, rfl, World.ownsRow.cells (g := g) h rfl⟩
end
end Go.Proofs.Ytgnhamhkpbadbaa
namespace Go.Proofs.Ytgnhamhkpbadbaa
open Go.RowKit
set_option linter.unusedVariables false
theorem infoR5 : (Try.prog.info? 53).map (fun i => (i.zero, i.size, i.bytes)) = some (some (.agg #[.int .i64 0, .int .i64 0, .int .i64 0]), 3, 24) := by kernel_rfl
theorem encT_one (r : Tl) : ∀ u ∈ encT r, u.oneCell' = true := by simp [encT, Value.oneCell']
/-- A list of tiles in memory, its struct. -/
structure RefO (gr : Nat) (k : Int) (L : List Tl) (v : Value) (W : World) : Prop where
  box : Whole W gr 48 #[.int .i64 k, v]
  row : RowE encT 3 W 0 53 v L
  own : v.ownBlock ≠ some gr
theorem RefO.since {gr : Nat} {k : Int} {L : List Tl} {v : Value} {W W' : World} (h : RefO gr k L v W) (hs : Since W W') : RefO gr k L v W' := ⟨Since.whole hs h.box, h.row.since hs, h.own⟩
/-- The list's cell is stored, last. -/
theorem RefO.store {gr : Nat} {k : Int} {L L' : List Tl} {v v' : Value} {w W : World} (h : RefO gr k L v w) (hs : Since w W) {B : Nat} (hB : w.heap.size ≤ B) (hr : RowE encT 3 W B 53 v' L') : RefO gr k L' v' (W.setCell ⟨gr, 1, none⟩ v') ∧ Off (fun b => b = gr) w (W.setCell ⟨gr, 1, none⟩ v') := by
  have hlt := h.box.lt
  refine ⟨⟨(Since.whole hs h.box).set_ 1 _, (hr.far (p := ⟨gr, 1, none⟩) (by show gr < B; omega) _).mono (Nat.zero_le _), fun e => ?_⟩, (Since.off hs (fun b => b = gr)).setCell (p := ⟨gr, 1, none⟩) (.inr rfl) _⟩
  have := (hr.own gr e).1; omega
theorem RefO.form {gr : Nat} {k : Int} {L : List Tl} {v : Value} {w : World} (h : RefO gr k L v w) {i : Nat} (hi : i < L.length) : ∃ g cap, v = .slice (some ⟨g, 0, none⟩) L.length cap ∧ L.length ≤ cap ∧ cap ≤ maxLen := by
  rcases h.row.2 with ⟨_, h0⟩ | ⟨g, cap, cur, h1, _, _, h2, h3, _⟩
  · omega
  · exact ⟨g, cap, h1, h2, h3⟩
theorem Off.since_of {F : Nat → Prop} {w W W' : World} (h : Off F W W') (hs : Since w W) (hF : ∀ b, F b → w.heap.size ≤ b) : Since w W' :=
  Off.below (F := F) ((Since.off hs F).trans h (fun _ _ z => z)) (Nat.le_refl _) hF
set_option maxRecDepth 100000 in
set_option maxHeartbeats 1600000 in
theorem refCut_any {gr : Nat} {k : Int} {L : List Tl} {v : Value} {w : World} (h : RefO gr k L v w) (i : Nat) (hi : i < L.length) (hm : L.length ≤ 1000) : Calls Try.prog 101 #[.pointer (some ⟨gr, 0, none⟩), .int .i64 i] w fun e W' => e = .returned (.tuple #[]) ∧ (∃ v', RefO gr k (L.take i ++ L.drop (i + 1)) v' W') ∧ Off (fun b => b = gr) w W' := by
  obtain ⟨g, cap, rfl, hcap, hcm⟩ := h.form hi
  have hbx := h.box
  have c1 := box_cell hbx 1 (.slice (some ⟨g, 0, none⟩) L.length cap) rfl
  have hic : i ≤ cap := by omega
  have hi1 : IntKind.i64.wrap ((i : Int) + 1) = (i : Int) + 1 := IntWalk.i64_in _ (by omega)
  have hi2 : (0 : Int) ≤ (i : Int) + 1 := by omega
  have hi3 : (i : Int) + 1 ≤ (L.length : Int) := by omega
  have htl : (L.take i).length = i := by rw [List.length_take]; omega
  have hdl : (L.drop (i + 1)).length = L.length - (i + 1) := List.length_drop ..
  go_enter Try.func101, Try.ntmps101
  go_wp2_with fail
  obtain ⟨wq, hwq⟩ : ∃ wq, wq = w.drew := ⟨_, rfl⟩
  have hqs : Since w wq := by rw [hwq]; exact (Since.refl w).drew
  refine wp_region_last (fun W' => Since w W') 19 (by kernel_rfl) (Since.refl w).drew (fun hHeld => ?_)
  rw [← hwq] at hHeld ⊢
  clear hwq
  have hF0 : ∀ b, (some wq.heap.size : Option Nat) = some b → w.heap.size ≤ b := fun b e => by have e' := Option.some.inj e; have := hqs.size; omega
  refine wpLast_take (i := 0) (v := ?_) rfl (by decide) (by kernel_rfl) (by kernel_rfl) (by kernel_rfl) (by kernel_rfl) (fun _ _ _ h => h) (Or.inl ⟨by rfl, ?_⟩) (by assumption) ?_
  rotate_left 1
  · (intro W hW; clear hW; go_simp; try with_reducible rfl)
  simp only [Act.put, List.getElem_toArray, List.getElem_cons_zero, List.setIfInBounds_toArray, List.set_cons_zero, List.set_cons_succ]
  refine wpLast_take (i := 2) (v := ?_) rfl (by decide) (by kernel_rfl) (by kernel_rfl) (by kernel_rfl) (by kernel_rfl) (fun _ _ _ h => h) (Or.inl ⟨by rfl, ?_⟩) (by assumption) ?_
  rotate_left 1
  · (intro W hW; clear hW; go_simp; try with_reducible rfl)
  simp only [Act.put, List.getElem_toArray, List.getElem_cons_succ, List.getElem_cons_zero, List.setIfInBounds_toArray, List.set_cons_zero, List.set_cons_succ]
  refine wpLast_take (i := 3) (v := ?_) rfl (by decide) (by kernel_rfl) (by kernel_rfl) (by kernel_rfl) (by kernel_rfl) (fun _ _ _ h => h) (Or.inl ⟨by rfl, ?_⟩) (by assumption) ?_
  rotate_left 1
  · (intro W hW; clear hW; go_simp; try with_reducible rfl)
  simp only [Act.put, List.getElem_toArray, List.getElem_cons_succ, List.getElem_cons_zero, List.setIfInBounds_toArray, List.set_cons_zero, List.set_cons_succ]
  refine wpLast_take (i := 4) (v := ?_) rfl (by decide) (by kernel_rfl) (by kernel_rfl) (by kernel_rfl) (by kernel_rfl) (fun _ _ _ h => h) (Or.inl ⟨by rfl, ?_⟩) (by assumption) ?_
  rotate_left 1
  · (intro W hW; clear hW; go_simp; try with_reducible rfl)
  simp only [Act.put, List.getElem_toArray, List.getElem_cons_succ, List.getElem_cons_zero, List.setIfInBounds_toArray, List.set_cons_zero, List.set_cons_succ]
  refine wpLast_take (i := 5) (v := ?_) rfl (by decide) (by kernel_rfl) (by kernel_rfl) (by kernel_rfl) (by kernel_rfl) (fun _ _ _ h => h) (Or.inl ⟨by rfl, ?_⟩) (by assumption) ?_
  rotate_left 1
  · (intro W hW; skip; go_simp; try with_reducible rfl)
  simp only [Act.put, List.getElem_toArray, List.getElem_cons_succ, List.getElem_cons_zero, List.setIfInBounds_toArray, List.set_cons_zero, List.set_cons_succ]
  refine wpLast_take (i := 6) (v := ?_) rfl (by decide) (by kernel_rfl) (by kernel_rfl) (by kernel_rfl) (by kernel_rfl) (fun _ _ _ h => h) (Or.inl ⟨by rfl, ?_⟩) (by assumption) ?_
  rotate_left 1
  · (intro W hW; clear hW; go_simp; try with_reducible rfl)
  simp only [Act.put, List.getElem_toArray, List.getElem_cons_succ, List.getElem_cons_zero, List.setIfInBounds_toArray, List.set_cons_zero, List.set_cons_succ]
  refine wpLast_take (i := 7) (v := ?_) rfl (by decide) (by kernel_rfl) (by kernel_rfl) (by kernel_rfl) (by kernel_rfl) (fun _ _ _ h => h) (Or.inl ⟨by rfl, ?_⟩) (by assumption) ?_
  rotate_left 1
  · (intro W hW; clear hW; go_simp; try with_reducible rfl)
  simp only [Act.put, List.getElem_toArray, List.getElem_cons_succ, List.getElem_cons_zero, List.setIfInBounds_toArray, List.set_cons_zero, List.set_cons_succ]
  refine wpLast_take (i := 9) (v := ?_) rfl (by decide) (by kernel_rfl) (by kernel_rfl) (by kernel_rfl) (by kernel_rfl) (fun _ _ _ h => h) (Or.inl ⟨by rfl, ?_⟩) (by assumption) ?_
  rotate_left 1
  · (intro W hW; clear hW; go_simp; try with_reducible rfl)
  simp only [Act.put, List.getElem_toArray, List.getElem_cons_succ, List.getElem_cons_zero, List.setIfInBounds_toArray, List.set_cons_zero, List.set_cons_succ]
  refine wpLast_take (i := 10) (v := ?_) rfl (by decide) (by kernel_rfl) (by kernel_rfl) (by kernel_rfl) (by kernel_rfl) (fun _ _ _ h => h) (Or.inl ⟨by rfl, ?_⟩) (by assumption) ?_
  rotate_left 1
  · (intro W hW; clear hW; go_simp; try with_reducible rfl)
  simp only [Act.put, List.getElem_toArray, List.getElem_cons_succ, List.getElem_cons_zero, List.setIfInBounds_toArray, List.set_cons_zero, List.set_cons_succ]
  refine wpLast_take (i := 11) (v := ?_) rfl (by decide) (by kernel_rfl) (by kernel_rfl) (by kernel_rfl) (by kernel_rfl) (fun _ _ _ h => h) (Or.inl ⟨by rfl, ?_⟩) (by assumption) ?_
  rotate_left 1
  · (intro W hW; clear hW; go_simp; try with_reducible rfl)
  simp only [Act.put, List.getElem_toArray, List.getElem_cons_succ, List.getElem_cons_zero, List.setIfInBounds_toArray, List.set_cons_zero, List.set_cons_succ]
  refine wpLast_take (i := 12) (v := ?_) rfl (by decide) (by kernel_rfl) (by kernel_rfl) (by kernel_rfl) (by kernel_rfl) (fun _ _ _ h => h) (Or.inl ⟨by rfl, ?_⟩) (by assumption) ?_
  rotate_left 1
  · (intro W hW; skip; go_simp; try with_reducible rfl)
  simp only [Act.put, List.getElem_toArray, List.getElem_cons_succ, List.getElem_cons_zero, List.setIfInBounds_toArray, List.set_cons_zero, List.set_cons_succ]
  refine wpLast_take (i := 13) (v := ?_) rfl (by decide) (by kernel_rfl) (by kernel_rfl) (by kernel_rfl) (by kernel_rfl) (fun _ _ _ h => h) (Or.inl ⟨by rfl, ?_⟩) (by assumption) ?_
  rotate_left 1
  · (intro W hW; clear hW; go_simp; try with_reducible rfl)
  simp only [Act.put, List.getElem_toArray, List.getElem_cons_succ, List.getElem_cons_zero, List.setIfInBounds_toArray, List.set_cons_zero, List.set_cons_succ]
  refine wpLast_take (i := 14) (v := ?_) rfl (by decide) (by kernel_rfl) (by kernel_rfl) (by kernel_rfl) (by kernel_rfl) (fun _ _ _ h => h) (Or.inl ⟨by rfl, ?_⟩) (by assumption) ?_
  rotate_left 1
  · (intro W hW; clear hW; go_simp; try with_reducible rfl)
  simp only [Act.put, List.getElem_toArray, List.getElem_cons_succ, List.getElem_cons_zero, List.setIfInBounds_toArray, List.set_cons_zero, List.set_cons_succ]
  refine wpLast_take (i := 15) (v := ?_) rfl (by decide) (by kernel_rfl) (by kernel_rfl) (by kernel_rfl) (by kernel_rfl) (fun _ _ _ h => h) (Or.inl ⟨by rfl, ?_⟩) (by assumption) ?_
  rotate_left 1
  · (intro W hW; clear hW; go_simp; try with_reducible rfl)
  simp only [Act.put, List.getElem_toArray, List.getElem_cons_succ, List.getElem_cons_zero, List.setIfInBounds_toArray, List.set_cons_zero, List.set_cons_succ]
  refine wpLast_ready (rs := [1]) (by kernel_rfl) (by simp) ?_
  refine LastReady.cons rfl (fun K hK => ?_) LastReady.nil
  go_simp
  skip
  refine hK.out _ _ (fun _ => hqs.alloc _) (fun hHeld => ?_)
  replace hHeld := hHeld (by decide)
  clear hK K
  try simp only [Act.put, List.getElem_toArray, List.getElem_cons_succ, List.getElem_cons_zero, List.setIfInBounds_toArray, List.set_cons_zero, List.set_cons_succ]
  refine wpLast_ready (rs := [8]) (by kernel_rfl) (by simp) ?_
  refine LastReady.cons rfl (fun K hK => ?_) LastReady.nil
  refine step_append_part rfl (.tmp 5) (.tmp 11) 22 rfl wq.heap.size 53 _ 24 Try.underlying22 infoR5 rfl (by decide) (RowE.empty wq _) ((h.row.since (hqs.alloc _)).take encT_len (by omega)) encT_len encT_one rfl rfl (by rw [htl]; simp; omega) (by decide) (by simp) ?_
  intro va3 vc3 w3 hrow3 hoff3 hob3
  have hs3 : Since w w3 := hoff3.since_of (hqs.alloc _) hF0
  have hz3 := hoff3.size
  rw [World.size_alloc] at hz3
  refine hK.out _ _ (fun _ => hs3) (fun hHeld => ?_)
  replace hHeld := hHeld (by decide)
  clear hK K
  try simp only [Act.put, List.getElem_toArray, List.getElem_cons_succ, List.getElem_cons_zero, List.setIfInBounds_toArray, List.set_cons_zero, List.set_cons_succ]
  refine wpLast_ready (rs := [16]) (by kernel_rfl) (by simp) ?_
  refine LastReady.cons rfl (fun K hK => ?_) LastReady.nil
  refine step_append_part rfl (.tmp 12) (.tmp 19) 22 rfl wq.heap.size 53 _ 24 Try.underlying22 infoR5 rfl (by decide) hrow3 ((h.row.since hs3).drop2 encT_len hcap) encT_len encT_one rfl rfl (by rw [List.length_append, htl, hdl]; simp; omega) (by decide) (by omega) ?_
  intro va4 vc4 w4 hrow4 hoff4 hob4
  have hs4 : Since w w4 := hoff4.since_of hs3 (fun b e => by have := (hrow3.own b e).1; have := hqs.size; omega)
  have hw4 := Since.whole hs4 hbx
  have x4 := hw4.cell 1
  have y4 := hw4.frozen 1
  refine hK.out _ _ (fun _ => hs4) (fun hHeld => ?_)
  replace hHeld := hHeld (by decide)
  clear hK K
  try simp only [Act.put, List.getElem_toArray, List.getElem_cons_succ, List.getElem_cons_zero, List.setIfInBounds_toArray, List.set_cons_zero, List.set_cons_succ]
  refine wpLast_take (i := 17) (v := ?_) rfl (by decide) (by kernel_rfl) (by kernel_rfl) (by kernel_rfl) (by kernel_rfl) (fun _ _ _ h => h) (Or.inl ⟨by rfl, ?_⟩) (by assumption) ?_
  rotate_left 1
  · (intro W hW; clear hW; go_simp; try with_reducible rfl)
  simp only [Act.put, List.getElem_toArray, List.getElem_cons_succ, List.getElem_cons_zero, List.setIfInBounds_toArray, List.set_cons_zero, List.set_cons_succ]
  refine wpLast_take (i := 18) (v := ?_) rfl (by decide) (by kernel_rfl) (by kernel_rfl) (by kernel_rfl) (by kernel_rfl) (fun _ _ _ h => h) (Or.inl ⟨by rfl, ?_⟩) (by assumption) ?_
  rotate_left 1
  · (intro W hW; clear hW; go_simp; try with_reducible rfl)
  simp only [Act.put, List.getElem_toArray, List.getElem_cons_succ, List.getElem_cons_zero, List.setIfInBounds_toArray, List.set_cons_zero, List.set_cons_succ]
  refine wpLast_ready (rs := [19]) (by kernel_rfl) (by simp) ?_
  refine LastReady.cons rfl (fun K hK => ?_) LastReady.nil
  go_simp
  skip
  refine hK.out _ _ (fun h => absurd rfl h) (fun hHeld => ?_)
  clear hK K
  try simp only [Act.put, List.getElem_toArray, List.getElem_cons_succ, List.getElem_cons_zero, List.setIfInBounds_toArray, List.set_cons_zero, List.set_cons_succ]
  refine wpLast_done (by kernel_rfl) ?_ _
  have hfin := h.store hs4 hqs.size hrow4
  rw [List.nil_append, htl, hdl] at hfin
  go_end0
  exact ⟨rfl, ⟨_, hfin.1⟩, hfin.2⟩
end Go.Proofs.Ytgnhamhkpbadbaa
namespace Go.Proofs.Ytgnhamhkpbadbaa
open Go.RowKit
set_option linter.unusedVariables false
/-- A path's place among tiles, counted from m; -1: it is not there. -/
def atG (d b : Int) : List Tl → Nat → Int
  | [], _ => -1
  | t :: l, m => if t.d = d ∧ t.b = b then m else atG d b l (m + 1)
theorem RefO.size {gr : Nat} {k : Int} {L : List Tl} {v : Value} {w : World} (h : RefO gr k L v w) : ∃ a c, v = .slice a L.length c := h.row.shape2
theorem RefO.tile {gr : Nat} {k : Int} {L : List Tl} {v : Value} {w W : World} (h : RefO gr k L v w) (hs : Since w W) {m : Nat} (hm : m < L.length) {g c : Nat} (e : v = .slice (some ⟨g, 0, none⟩) L.length c) :
    W.cell? ⟨g, m * 3, none⟩ = some (.int .i64 L[m].d) ∧ W.cell? ⟨g, m * 3 + 1, none⟩ = some (.int .i64 L[m].b) ∧ W.cell? ⟨g, m * 3 + 2, none⟩ = some (.int .i64 L[m].who) := by
  subst e
  have hL := (h.row.since hs).list encT_len
  have hat := fun j u (hu : (encT L[m])[j]? = some u) => ListE.at_ hL hm j hu
  exact ⟨hat 0 _ rfl, hat 1 _ rfl, hat 2 _ rfl⟩
set_option maxRecDepth 100000 in
set_option maxHeartbeats 1600000 in
theorem refAtL_any {gr : Nat} {k : Int} {L : List Tl} {v : Value} {w : World} (h : RefO gr k L v w) (d b : Int) (hm : L.length ≤ 1000) : Calls Try.prog 65 #[.pointer (some ⟨gr, 0, none⟩), .agg #[.int .i64 d, .int .i64 b]] w fun e W' => e = .returned (.int .i64 (atG d b L 0)) ∧ Since w W' := by
  obtain ⟨va, vc, rfl⟩ := h.size
  have hbx := h.box
  have c1 := box_cell hbx 1 (.slice va L.length vc) rfl
  obtain ⟨wl, hwl⟩ : ∃ wl, wl = w.alloc (.cells #[.int .i64 d, .int .i64 b] 27) := ⟨_, rfl⟩
  have hs0 : Since w wl := by rw [hwl]; exact (Since.refl w).alloc _
  have wh0 : Whole wl w.heap.size 27 #[.int .i64 d, .int .i64 b] := by rw [hwl]; exact Whole.new w _ _
  have p0 := box_cell wh0 0 (.int .i64 d) rfl
  have p1 := box_cell wh0 1 (.int .i64 b) rfl
  go_enter Try.func65, Try.ntmps65
  go_wp2_with fail
  rw [← hwl]
  have H := Lib.hid h
  have HS0 := Lib.hid hs0
  clear hbx hwl hs0 h
  go_loopw [5] (fun i wr => ∃ m : Nat, i = .int .i64 m ∧ m ≤ L.length ∧ Since wl wr ∧ atG d b (L.drop m) m = atG d b L 0) (fun i _ => L.length - (intOf i).toNat)
  case atStart => exact ⟨0, rfl, Nat.zero_le _, Since.refl wl, rfl⟩
  case round =>
    obtain ⟨m, rfl, hml, hs, hA⟩ := hrel
    have HA := Lib.hid hA
    have q1 := c1 _ (HS0.out.trans hs)
    have q2 := p0 _ hs
    have q3 := p1 _ hs
    have hwrap : wrap64 ((m : Int) + 1) = ((m + 1 : Nat) : Int) := IntWalk.wrap64_in _ ⟨by omega, by omega⟩
    by_cases hlt : m < L.length
    rotate_left
    · obtain rfl : m = L.length := by omega
      have d1 : decide ((L.length : Int) < L.length) = false := decide_eq_false (by omega)
      clear hA
      go_wp2_with fail
      go_ret
      refine ⟨?_, HS0.out.trans hs⟩
      rw [← HA.out, List.drop_length]; rfl
    · have d1 : decide ((m : Int) < L.length) = true := decide_eq_true (by omega)
      obtain ⟨g, cap, e0, _, _⟩ := H.out.form hlt
      injection e0 with e1 e2 e3
      subst e1 e3
      obtain ⟨t0, t1, _⟩ := H.out.tile (HS0.out.trans hs) hlt rfl
      obtain ⟨⟨td, tb, tw⟩, ht⟩ : ∃ t, t = L[m] := ⟨_, rfl⟩
      rw [← ht] at t0 t1
      have hdr : L.drop m = ⟨td, tb, tw⟩ :: L.drop (m + 1) := by rw [ht]; exact List.drop_eq_getElem_cons hlt
      rw [hdr] at hA
      have hA' : (if td = d ∧ tb = b then (m : Int) else atG d b (L.drop (m + 1)) (m + 1)) = atG d b L 0 := hA
      have HA2 := Lib.hid hA'
      clear hA hA' hdr ht e2 HA
      by_cases hd : td = d ∧ tb = b
      · obtain ⟨rfl, rfl⟩ := hd
        have HA3 := Lib.hid ((if_pos (⟨rfl, rfl⟩ : td = td ∧ tb = tb)).symm.trans HA2.out)
        go_wp2_with fail
        go_quiet (fail)
        go_wp2_with fail
        go_ret
        exact ⟨by rw [show atG td tb L 0 = (m : Int) from HA3.out.symm]; rfl, HS0.out.trans (hs.drewN _)⟩
      · have HA3 := Lib.hid ((if_neg hd).symm.trans HA2.out)
        by_cases h1 : td = d
        · have h2 : (tb == b) = false := by simpa using fun h2 => hd ⟨h1, h2⟩
          subst h1
          clear hd
          go_wp2_with fail
          go_quiet (fail)
          go_wp2_with fail
          go_roundw
          case rel => exact ⟨m + 1, by go_num, by omega, hs.drewN _, HA3.out⟩
          case measure => simp [intOf]; omega
        · have h2 : (td == d) = false := by simpa using h1
          clear hd
          go_wp2_with fail
          go_quiet (fail)
          go_wp2_with fail
          go_roundw
          case rel => exact ⟨m + 1, by go_num, by omega, hs.drewN _, HA3.out⟩
          case measure => simp [intOf]; omega
end Go.Proofs.Ytgnhamhkpbadbaa
namespace Go.Proofs.Ytgnhamhkpbadbaa
open Go.RowKit
set_option linter.unusedVariables false
set_option linter.unusedSimpArgs false
/-- How many tiles stand before t. -/
def nBef (L : List Tl) (t : Tl) : Nat := (L.takeWhile fun s => decide (cmpP s.d s.b t.d t.b < 0)).length
theorem nBef_le (L : List Tl) (t : Tl) : nBef L t ≤ L.length := (List.takeWhile_prefix _).length_le
theorem take_bef (L : List Tl) (t : Tl) : L.take (nBef L t) ++ [t] ++ L.drop (nBef L t) = insT L t := by
  unfold nBef insT
  have h := List.takeWhile_append_dropWhile (p := fun s : Tl => decide (cmpP s.d s.b t.d t.b < 0)) (l := L)
  have h1 : L.take (L.takeWhile fun s => decide (cmpP s.d s.b t.d t.b < 0)).length = L.takeWhile fun s => decide (cmpP s.d s.b t.d t.b < 0) := by
    conv => lhs; arg 2; rw [← h]
    exact List.take_left' rfl
  have h2 : L.drop (L.takeWhile fun s => decide (cmpP s.d s.b t.d t.b < 0)).length = L.dropWhile fun s => decide (cmpP s.d s.b t.d t.b < 0) := by
    conv => lhs; arg 2; rw [← h]
    exact List.drop_left' rfl
  rw [h1, h2]
/-- The count of the loop: from m on. -/
def befG (t : Tl) : List Tl → Nat → Nat
  | [], m => m
  | s :: l, m => if cmpP s.d s.b t.d t.b < 0 then befG t l (m + 1) else m
theorem befG_add (t : Tl) : ∀ (L : List Tl) (m : Nat), befG t L m = m + nBef L t
  | [], m => rfl
  | s :: l, m => by
    unfold befG nBef
    by_cases h : cmpP s.d s.b t.d t.b < 0
    · rw [if_pos h, befG_add t l (m + 1), List.takeWhile_cons_of_pos (by simpa using h), List.length_cons]; unfold nBef; omega
    · rw [if_neg h, List.takeWhile_cons_of_neg (by simpa using h)]; rfl
theorem take_to {L : List Tl} {t : Tl} {n : Nat} (h : n = nBef L t) : L.take n ++ [t] ++ L.drop n = insT L t := h ▸ take_bef L t
set_option maxRecDepth 100000 in
set_option maxHeartbeats 3200000 in
theorem refPut_any {gr : Nat} {k : Int} {L : List Tl} {v : Value} {w : World} (h : RefO gr k L v w) (d b who : Int) (hm : L.length ≤ 1000) : Calls Try.prog 97 #[.pointer (some ⟨gr, 0, none⟩), .agg #[.int .i64 d, .int .i64 b, .int .i64 who]] w fun e W' => e = .returned (.tuple #[]) ∧ (∃ v', RefO gr k (insT L ⟨d, b, who⟩) v' W') ∧ Off (fun b => b = gr) w W' := by
  obtain ⟨va, vc, rfl⟩ := h.size
  have hbx := h.box
  have c1 := box_cell hbx 1 (.slice va L.length vc) rfl
  obtain ⟨wl, hwl⟩ : ∃ wl, wl = w.alloc (.cells #[.int .i64 d, .int .i64 b, .int .i64 who] 53) := ⟨_, rfl⟩
  have hs0 : Since w wl := by rw [hwl]; exact (Since.refl w).alloc _
  have wh0 : Whole wl w.heap.size 53 #[.int .i64 d, .int .i64 b, .int .i64 who] := by rw [hwl]; exact Whole.new w _ _
  have p0 := box_cell wh0 0 (.int .i64 d) rfl
  have p1 := box_cell wh0 1 (.int .i64 b) rfl
  have p2 := box_cell wh0 2 (.int .i64 who) rfl
  go_enter Try.func97, Try.ntmps97
  go_wp2_with fail
  rw [← hwl]
  have H := Lib.hid (h.since hs0)
  have HS0 := Lib.hid hs0
  have HC : ∀ (td tb : Int) W, Calls Try.prog 129 #[.agg #[.int .i64 td, .int .i64 tb], .agg #[.int .i64 d, .int .i64 b]] W fun e W' => e = .returned (.int .i64 (cmpP td tb d b)) ∧ Below W.heap.size W W' := fun td tb W => refCompare_any td tb d b W
  replace HC := Lib.hid HC
  replace c1 := fun W (hW : Since wl W) => c1 W (hs0.trans hW)
  clear hbx hwl hs0 h
  go_loopw [4] (fun i wr => ∃ m : Nat, i = .int .i64 m ∧ m ≤ L.length ∧ Since wl wr ∧ befG ⟨d, b, who⟩ (L.drop m) m = befG ⟨d, b, who⟩ L 0) (fun i _ => L.length - (intOf i).toNat)
  case atStart => exact ⟨0, rfl, Nat.zero_le _, Since.refl wl, rfl⟩
  case round =>
    obtain ⟨m, rfl, hml, hs, hA⟩ := hrel
    have hwrap : wrap64 ((m : Int) + 1) = ((m + 1 : Nat) : Int) := IntWalk.wrap64_in _ ⟨by omega, by omega⟩
    obtain ⟨wp, hwp⟩ : ∃ wp, wp = wr.drew := ⟨_, rfl⟩
    have hsd : Since wl wr.drew := hs.drew
    by_cases hlt : m < L.length
    rotate_left
    · have d1 : decide ((m : Int) < L.length) = false := decide_eq_false (by omega)
      have hdm : L.drop m = [] := List.drop_of_length_le (by omega)
      have hn : m = nBef L ⟨d, b, who⟩ := by
        have h1 := hA.trans (befG_add ⟨d, b, who⟩ L 0)
        rw [hdm, Nat.zero_add] at h1
        exact h1
      clear hdm
      clear hA
      replace hn := Lib.hid hn
      go_wp2_with fail
      refine wp_region_held_drew (S := fun W => Since wl W) (by kernel_rfl) hsd (fun hHeld => ?_)
      rw [← hwp] at hHeld ⊢
      have hq : Since wl wp := hHeld
      clear hwp hsd
      refine wpAnyH_take (i := 0) (v := ?_) rfl (by kernel_rfl) (by kernel_rfl) (by kernel_rfl) (fun _ _ _ h => h) (Or.inl ⟨by rfl, ?_⟩) (by assumption) ?_
      rotate_left 1
      · (intro W hW; clear hW; go_simp; try with_reducible rfl)
      simp only [Act.put, List.getElem_toArray, List.getElem_cons_zero, List.setIfInBounds_toArray, List.set_cons_zero, List.set_cons_succ]
      refine wpAnyH_take (i := 1) (v := ?_) rfl (by kernel_rfl) (by kernel_rfl) (by kernel_rfl) (fun _ _ _ h => h) (Or.inl ⟨by rfl, ?_⟩) (by assumption) ?_
      rotate_left 1
      · (intro W hW; clear hW; go_simp; try with_reducible rfl)
      simp only [Act.put, List.getElem_toArray, List.getElem_cons_succ, List.getElem_cons_zero, List.setIfInBounds_toArray, List.set_cons_zero, List.set_cons_succ]
      refine wpAnyH_take (i := 2) (v := ?_) rfl (by kernel_rfl) (by kernel_rfl) (by kernel_rfl) (fun _ _ _ h => h) (Or.inl ⟨by rfl, ?_⟩) (by assumption) ?_
      rotate_left 1
      · (intro W hW; clear hW; go_simp; try with_reducible rfl)
      simp only [Act.put, List.getElem_toArray, List.getElem_cons_succ, List.getElem_cons_zero, List.setIfInBounds_toArray, List.set_cons_zero, List.set_cons_succ]
      refine wpAnyH_take (i := 3) (v := ?_) rfl (by kernel_rfl) (by kernel_rfl) (by kernel_rfl) (fun _ _ _ h => h) (Or.inl ⟨by rfl, ?_⟩) (by assumption) ?_
      rotate_left 1
      · (intro W hW; clear hW; go_simp; try with_reducible rfl)
      simp only [Act.put, List.getElem_toArray, List.getElem_cons_succ, List.getElem_cons_zero, List.setIfInBounds_toArray, List.set_cons_zero, List.set_cons_succ]
      refine wpAnyH_take (i := 4) (v := ?_) rfl (by kernel_rfl) (by kernel_rfl) (by kernel_rfl) (fun _ _ _ h => h) (Or.inl ⟨by rfl, ?_⟩) (by assumption) ?_
      rotate_left 1
      · (intro W hW; skip; go_simp; try with_reducible rfl)
      simp only [Act.put, List.getElem_toArray, List.getElem_cons_succ, List.getElem_cons_zero, List.setIfInBounds_toArray, List.set_cons_zero, List.set_cons_succ]
      refine wpAnyH_take (i := 5) (v := ?_) rfl (by kernel_rfl) (by kernel_rfl) (by kernel_rfl) (fun _ _ _ h => h) (Or.inl ⟨by rfl, ?_⟩) (by assumption) ?_
      rotate_left 1
      · (intro W hW; clear hW; go_simp; try with_reducible rfl)
      simp only [Act.put, List.getElem_toArray, List.getElem_cons_succ, List.getElem_cons_zero, List.setIfInBounds_toArray, List.set_cons_zero, List.set_cons_succ]
      refine wpAnyH_take (i := 6) (v := ?_) rfl (by kernel_rfl) (by kernel_rfl) (by kernel_rfl) (fun _ _ _ h => h) (Or.inl ⟨by rfl, ?_⟩) (by assumption) ?_
      rotate_left 1
      · (intro W hW; clear hW; go_simp; try with_reducible rfl)
      simp only [Act.put, List.getElem_toArray, List.getElem_cons_succ, List.getElem_cons_zero, List.setIfInBounds_toArray, List.set_cons_zero, List.set_cons_succ]
      refine wpAnyH_take (i := 7) (v := ?_) rfl (by kernel_rfl) (by kernel_rfl) (by kernel_rfl) (fun _ _ _ h => h) (Or.inl ⟨by rfl, ?_⟩) (by assumption) ?_
      rotate_left 1
      · (intro W hW; clear hW; go_simp; try with_reducible rfl)
      simp only [Act.put, List.getElem_toArray, List.getElem_cons_succ, List.getElem_cons_zero, List.setIfInBounds_toArray, List.set_cons_zero, List.set_cons_succ]
      refine wpAnyH_take (i := 8) (v := undef) rfl (by kernel_rfl) (by kernel_rfl) (by kernel_rfl) (fun _ _ _ h => h) (Or.inr ⟨by rfl, rfl⟩) (by assumption) ?_
      simp only [Act.put, List.getElem_toArray, List.getElem_cons_succ, List.getElem_cons_zero, List.setIfInBounds_toArray, List.set_cons_zero, List.set_cons_succ]
      refine wpAnyH_take (i := 9) (v := undef) rfl (by kernel_rfl) (by kernel_rfl) (by kernel_rfl) (fun _ _ _ h => h) (Or.inr ⟨by rfl, rfl⟩) (by assumption) ?_
      simp only [Act.put, List.getElem_toArray, List.getElem_cons_succ, List.getElem_cons_zero, List.setIfInBounds_toArray, List.set_cons_zero, List.set_cons_succ]
      refine wpAnyH_take (i := 10) (v := undef) rfl (by kernel_rfl) (by kernel_rfl) (by kernel_rfl) (fun _ _ _ h => h) (Or.inr ⟨by rfl, rfl⟩) (by assumption) ?_
      simp only [Act.put, List.getElem_toArray, List.getElem_cons_succ, List.getElem_cons_zero, List.setIfInBounds_toArray, List.set_cons_zero, List.set_cons_succ]
      refine wpAnyH_take (i := 11) (v := undef) rfl (by kernel_rfl) (by kernel_rfl) (by kernel_rfl) (fun _ _ _ h => h) (Or.inr ⟨by rfl, rfl⟩) (by assumption) ?_
      simp only [Act.put, List.getElem_toArray, List.getElem_cons_succ, List.getElem_cons_zero, List.setIfInBounds_toArray, List.set_cons_zero, List.set_cons_succ]
      refine wpAnyH_take (i := 12) (v := undef) rfl (by kernel_rfl) (by kernel_rfl) (by kernel_rfl) (fun _ _ _ h => h) (Or.inr ⟨by rfl, rfl⟩) (by assumption) ?_
      simp only [Act.put, List.getElem_toArray, List.getElem_cons_succ, List.getElem_cons_zero, List.setIfInBounds_toArray, List.set_cons_zero, List.set_cons_succ]
      refine wpAnyH_take (i := 13) (v := undef) rfl (by kernel_rfl) (by kernel_rfl) (by kernel_rfl) (fun _ _ _ h => h) (Or.inr ⟨by rfl, rfl⟩) (by assumption) ?_
      simp only [Act.put, List.getElem_toArray, List.getElem_cons_succ, List.getElem_cons_zero, List.setIfInBounds_toArray, List.set_cons_zero, List.set_cons_succ]
      refine wpAnyH_take (i := 14) (v := undef) rfl (by kernel_rfl) (by kernel_rfl) (by kernel_rfl) (fun _ _ _ h => h) (Or.inr ⟨by rfl, rfl⟩) (by assumption) ?_
      simp only [Act.put, List.getElem_toArray, List.getElem_cons_succ, List.getElem_cons_zero, List.setIfInBounds_toArray, List.set_cons_zero, List.set_cons_succ]
      refine wpAnyH_take (i := 15) (v := undef) rfl (by kernel_rfl) (by kernel_rfl) (by kernel_rfl) (fun _ _ _ h => h) (Or.inr ⟨by rfl, rfl⟩) (by assumption) ?_
      simp only [Act.put, List.getElem_toArray, List.getElem_cons_succ, List.getElem_cons_zero, List.setIfInBounds_toArray, List.set_cons_zero, List.set_cons_succ]
      refine wpAnyH_take (i := 16) (v := undef) rfl (by kernel_rfl) (by kernel_rfl) (by kernel_rfl) (fun _ _ _ h => h) (Or.inr ⟨by rfl, rfl⟩) (by assumption) ?_
      simp only [Act.put, List.getElem_toArray, List.getElem_cons_succ, List.getElem_cons_zero, List.setIfInBounds_toArray, List.set_cons_zero, List.set_cons_succ]
      refine wpAnyH_take (i := 17) (v := undef) rfl (by kernel_rfl) (by kernel_rfl) (by kernel_rfl) (fun _ _ _ h => h) (Or.inr ⟨by rfl, rfl⟩) (by assumption) ?_
      simp only [Act.put, List.getElem_toArray, List.getElem_cons_succ, List.getElem_cons_zero, List.setIfInBounds_toArray, List.set_cons_zero, List.set_cons_succ]
      refine wpAnyH_take (i := 18) (v := undef) rfl (by kernel_rfl) (by kernel_rfl) (by kernel_rfl) (fun _ _ _ h => h) (Or.inr ⟨by rfl, rfl⟩) (by assumption) ?_
      simp only [Act.put, List.getElem_toArray, List.getElem_cons_succ, List.getElem_cons_zero, List.setIfInBounds_toArray, List.set_cons_zero, List.set_cons_succ]
      refine wpAnyH_take (i := 19) (v := undef) rfl (by kernel_rfl) (by kernel_rfl) (by kernel_rfl) (fun _ _ _ h => h) (Or.inr ⟨by rfl, rfl⟩) (by assumption) ?_
      simp only [Act.put, List.getElem_toArray, List.getElem_cons_succ, List.getElem_cons_zero, List.setIfInBounds_toArray, List.set_cons_zero, List.set_cons_succ]
      refine wpAnyH_take (i := 20) (v := ?_) rfl (by kernel_rfl) (by kernel_rfl) (by kernel_rfl) (fun _ _ _ h => h) (Or.inl ⟨by rfl, ?_⟩) (by assumption) ?_
      rotate_left 1
      · (intro W hW; clear hW; go_simp; try with_reducible rfl)
      simp only [Act.put, List.getElem_toArray, List.getElem_cons_succ, List.getElem_cons_zero, List.setIfInBounds_toArray, List.set_cons_zero, List.set_cons_succ]
      refine wpAnyH_done (by kernel_rfl) ?_ _
      go_wp2_with fail
      rcases H.out.row.2 with ⟨e1, e2⟩ | ⟨g, cap, cur, e1, _, _, hcap, hcm, _⟩
      · injection e1 with e1 e3 e4
        subst e1 e4
        obtain rfl : L = [] := List.eq_nil_of_length_eq_zero e2
        obtain rfl : m = 0 := by simpa using hml
        replace hn := Lib.hid (show 0 = nBef [] ⟨d, b, who⟩ from hn.out)
        obtain ⟨wq, hwq⟩ : ∃ wq, wq = wp.drew := ⟨_, rfl⟩
        have hqs : Since wl wq := by rw [hwq]; exact hq.drew
        refine wp_region_last (fun W' => Since wl W') 21 (by kernel_rfl) hq.drew (fun hHeld => ?_)
        rw [← hwq] at hHeld ⊢
        clear hwq
        refine wpLast_take (i := 0) (v := ?_) rfl (by decide) (by kernel_rfl) (by kernel_rfl) (by kernel_rfl) (by kernel_rfl) (fun _ _ _ h => h) (Or.inl ⟨by rfl, ?_⟩) (by assumption) ?_
        rotate_left 1
        · (intro W hW; clear hW; go_simp; try with_reducible rfl)
        simp only [Act.put, List.getElem_toArray, List.getElem_cons_zero, List.setIfInBounds_toArray, List.set_cons_zero, List.set_cons_succ]
        refine wpLast_take (i := 2) (v := ?_) rfl (by decide) (by kernel_rfl) (by kernel_rfl) (by kernel_rfl) (by kernel_rfl) (fun _ _ _ h => h) (Or.inl ⟨by rfl, ?_⟩) (by assumption) ?_
        rotate_left 1
        · (intro W hW; clear hW; go_simp; try with_reducible rfl)
        simp only [Act.put, List.getElem_toArray, List.getElem_cons_succ, List.getElem_cons_zero, List.setIfInBounds_toArray, List.set_cons_zero, List.set_cons_succ]
        refine wpLast_take (i := 3) (v := ?_) rfl (by decide) (by kernel_rfl) (by kernel_rfl) (by kernel_rfl) (by kernel_rfl) (fun _ _ _ h => h) (Or.inl ⟨by rfl, ?_⟩) (by assumption) ?_
        rotate_left 1
        · (intro W hW; clear hW; go_simp; try with_reducible rfl)
        simp only [Act.put, List.getElem_toArray, List.getElem_cons_succ, List.getElem_cons_zero, List.setIfInBounds_toArray, List.set_cons_zero, List.set_cons_succ]
        refine wpLast_take (i := 4) (v := ?_) rfl (by decide) (by kernel_rfl) (by kernel_rfl) (by kernel_rfl) (by kernel_rfl) (fun _ _ _ h => h) (Or.inl ⟨by rfl, ?_⟩) (by assumption) ?_
        rotate_left 1
        · (intro W hW; clear hW; go_simp; try with_reducible rfl)
        simp only [Act.put, List.getElem_toArray, List.getElem_cons_succ, List.getElem_cons_zero, List.setIfInBounds_toArray, List.set_cons_zero, List.set_cons_succ]
        refine wpLast_take (i := 5) (v := ?_) rfl (by decide) (by kernel_rfl) (by kernel_rfl) (by kernel_rfl) (by kernel_rfl) (fun _ _ _ h => h) (Or.inl ⟨by rfl, ?_⟩) (by assumption) ?_
        rotate_left 1
        · (intro W hW; skip; go_simp; try with_reducible rfl)
        simp only [Act.put, List.getElem_toArray, List.getElem_cons_succ, List.getElem_cons_zero, List.setIfInBounds_toArray, List.set_cons_zero, List.set_cons_succ]
        refine wpLast_take (i := 6) (v := ?_) rfl (by decide) (by kernel_rfl) (by kernel_rfl) (by kernel_rfl) (by kernel_rfl) (fun _ _ _ h => h) (Or.inl ⟨by rfl, ?_⟩) (by assumption) ?_
        rotate_left 1
        · (intro W hW; clear hW; go_simp; try with_reducible rfl)
        simp only [Act.put, List.getElem_toArray, List.getElem_cons_succ, List.getElem_cons_zero, List.setIfInBounds_toArray, List.set_cons_zero, List.set_cons_succ]
        refine wpLast_take (i := 7) (v := ?_) rfl (by decide) (by kernel_rfl) (by kernel_rfl) (by kernel_rfl) (by kernel_rfl) (fun _ _ _ h => h) (Or.inl ⟨by rfl, ?_⟩) (by assumption) ?_
        rotate_left 1
        · (intro W hW; clear hW; go_simp; try with_reducible rfl)
        simp only [Act.put, List.getElem_toArray, List.getElem_cons_succ, List.getElem_cons_zero, List.setIfInBounds_toArray, List.set_cons_zero, List.set_cons_succ]
        refine wpLast_take (i := 9) (v := ?_) rfl (by decide) (by kernel_rfl) (by kernel_rfl) (by kernel_rfl) (by kernel_rfl) (fun _ _ _ h => h) (Or.inl ⟨by rfl, ?_⟩) (by assumption) ?_
        rotate_left 1
        · (intro W hW; skip; go_simp; try with_reducible rfl)
        simp only [Act.put, List.getElem_toArray, List.getElem_cons_succ, List.getElem_cons_zero, List.setIfInBounds_toArray, List.set_cons_zero, List.set_cons_succ]
        refine wpLast_take (i := 12) (v := ?_) rfl (by decide) (by kernel_rfl) (by kernel_rfl) (by kernel_rfl) (by kernel_rfl) (fun _ _ _ h => h) (Or.inl ⟨by rfl, ?_⟩) (by assumption) ?_
        rotate_left 1
        · (intro W hW; clear hW; go_simp; try with_reducible rfl)
        simp only [Act.put, List.getElem_toArray, List.getElem_cons_succ, List.getElem_cons_zero, List.setIfInBounds_toArray, List.set_cons_zero, List.set_cons_succ]
        refine wpLast_take (i := 13) (v := ?_) rfl (by decide) (by kernel_rfl) (by kernel_rfl) (by kernel_rfl) (by kernel_rfl) (fun _ _ _ h => h) (Or.inl ⟨by rfl, ?_⟩) (by assumption) ?_
        rotate_left 1
        · (intro W hW; clear hW; go_simp; try with_reducible rfl)
        simp only [Act.put, List.getElem_toArray, List.getElem_cons_succ, List.getElem_cons_zero, List.setIfInBounds_toArray, List.set_cons_zero, List.set_cons_succ]
        refine wpLast_take (i := 14) (v := ?_) rfl (by decide) (by kernel_rfl) (by kernel_rfl) (by kernel_rfl) (by kernel_rfl) (fun _ _ _ h => h) (Or.inl ⟨by rfl, ?_⟩) (by assumption) ?_
        rotate_left 1
        · (intro W hW; clear hW; go_simp; try with_reducible rfl)
        simp only [Act.put, List.getElem_toArray, List.getElem_cons_succ, List.getElem_cons_zero, List.setIfInBounds_toArray, List.set_cons_zero, List.set_cons_succ]
        refine wpLast_take (i := 15) (v := ?_) rfl (by decide) (by kernel_rfl) (by kernel_rfl) (by kernel_rfl) (by kernel_rfl) (fun _ _ _ h => h) (Or.inl ⟨by rfl, ?_⟩) (by assumption) ?_
        rotate_left 1
        · (intro W hW; skip; go_simp; try with_reducible rfl)
        simp only [Act.put, List.getElem_toArray, List.getElem_cons_succ, List.getElem_cons_zero, List.setIfInBounds_toArray, List.set_cons_zero, List.set_cons_succ]
        refine wpLast_take (i := 16) (v := ?_) rfl (by decide) (by kernel_rfl) (by kernel_rfl) (by kernel_rfl) (by kernel_rfl) (fun _ _ _ h => h) (Or.inl ⟨by rfl, ?_⟩) (by assumption) ?_
        rotate_left 1
        · (intro W hW; clear hW; go_simp; try with_reducible rfl)
        simp only [Act.put, List.getElem_toArray, List.getElem_cons_succ, List.getElem_cons_zero, List.setIfInBounds_toArray, List.set_cons_zero, List.set_cons_succ]
        refine wpLast_take (i := 17) (v := ?_) rfl (by decide) (by kernel_rfl) (by kernel_rfl) (by kernel_rfl) (by kernel_rfl) (fun _ _ _ h => h) (Or.inl ⟨by rfl, ?_⟩) (by assumption) ?_
        rotate_left 1
        · (intro W hW; clear hW; go_simp; try with_reducible rfl)
        simp only [Act.put, List.getElem_toArray, List.getElem_cons_succ, List.getElem_cons_zero, List.setIfInBounds_toArray, List.set_cons_zero, List.set_cons_succ]
        refine wpLast_ready (rs := [1, 10]) (by kernel_rfl) (by simp) ?_
        refine LastReady.cons rfl (fun K hK => ?_) (LastReady.cons rfl (fun K hK => ?_) LastReady.nil)
        · go_simp
          have hrow0 := RowE.empty (enc := encT) (n := 3) wq 53
          have hsx : Since wl (wq.alloc (.cells #[] 53)) := hqs.alloc _
          refine hK.out _ _ (fun _ => hsx) (fun hHeld => ?_)
          replace hHeld := hHeld (by decide)
          clear hK K
          try simp only [Act.put, List.getElem_toArray, List.getElem_cons_succ, List.getElem_cons_zero, List.setIfInBounds_toArray, List.set_cons_zero, List.set_cons_succ]
          refine wpLast_ready (rs := [8, 10]) (by kernel_rfl) (by simp) ?_
          refine LastReady.cons rfl (fun K hK => ?_) (LastReady.cons rfl (fun K hK => ?_) LastReady.nil)
          · refine step_append_val rfl (.tmp 29) (.tmp 35) 22 rfl wq.heap.size 53 _ 24 Try.underlying22 infoR5 rfl (by decide) hrow0 (show PartE encT _ _ (([] : List Tl).take 0) from .inl ⟨rfl, rfl⟩) encT_len encT_one rfl rfl (by simp only [List.length_append, List.length_take, List.length_drop, List.length_cons, List.length_nil]; omega) (by decide) (by simp only [World.size_alloc]; omega) ?_
            intro V3 w3 hrow3 hoff3
            have hs3 : Since wl w3 := hoff3.since_of hsx (fun x e => by have := (hrow0.own x e).1; have := hqs.size; omega)
            have hz3 : wq.heap.size ≤ w3.heap.size := by have := hoff3.size; (try simp at this); omega
            refine hK.out _ _ (fun _ => hs3) (fun hHeld => ?_)
            replace hHeld := hHeld (by decide)
            clear hK K
            try simp only [Act.put, List.getElem_toArray, List.getElem_cons_succ, List.getElem_cons_zero, List.setIfInBounds_toArray, List.set_cons_zero, List.set_cons_succ]
            refine wpLast_ready (rs := [10]) (by kernel_rfl) (by simp) ?_
            refine LastReady.cons rfl (fun K hK => ?_) LastReady.nil
            go_simp
            have hw5 := Whole.new w3 53 #[.int .i64 d, .int .i64 b, .int .i64 who]
            replace hrow3 := hrow3.alloc (.cells #[.int .i64 d, .int .i64 b, .int .i64 who] 53)
            replace hs3 := hs3.alloc (.cells #[.int .i64 d, .int .i64 b, .int .i64 who] 53)
            refine hK.out _ _ (fun _ => hs3) (fun hHeld => ?_)
            replace hHeld := hHeld (by decide)
            clear hK K
            try simp only [Act.put, List.getElem_toArray, List.getElem_cons_succ, List.getElem_cons_zero, List.setIfInBounds_toArray, List.set_cons_zero, List.set_cons_succ]
            refine wpLast_ready (rs := [11]) (by kernel_rfl) (by simp) ?_
            refine LastReady.cons rfl (fun K hK => ?_) LastReady.nil
            refine step_append_val rfl (.tmp 36) (.tmp 38) 22 rfl wq.heap.size 53 _ 24 Try.underlying22 infoR5 rfl (by decide) hrow3 (PartE.one (r := (⟨d, b, who⟩ : Tl)) hw5) encT_len encT_one rfl rfl (by simp only [List.length_append, List.length_take, List.length_drop, List.length_cons, List.length_nil]; omega) (by decide) (by simp; omega) ?_
            intro V4 w4 hrow4 hoff4
            have hs4 : Since wl w4 := hoff4.since_of hs3 (fun x e => by have := (hrow3.own x e).1; have := hqs.size; omega)
            have hz4 : wq.heap.size ≤ w4.heap.size := by have := hoff4.size; (try simp at this); omega
            refine hK.out _ _ (fun _ => hs4) (fun hHeld => ?_)
            replace hHeld := hHeld (by decide)
            clear hK K
            try simp only [Act.put, List.getElem_toArray, List.getElem_cons_succ, List.getElem_cons_zero, List.setIfInBounds_toArray, List.set_cons_zero, List.set_cons_succ]
            refine wpLast_ready (rs := [18]) (by kernel_rfl) (by simp) ?_
            refine LastReady.cons rfl (fun K hK => ?_) LastReady.nil
            refine step_append_val rfl (.tmp 39) (.tmp 45) 22 rfl wq.heap.size 53 _ 24 Try.underlying22 infoR5 rfl (by decide) hrow4 (show PartE encT _ _ (([] : List Tl).drop 0) from .inl ⟨rfl, rfl⟩) encT_len encT_one rfl rfl (by simp only [List.length_append, List.length_take, List.length_drop, List.length_cons, List.length_nil]; omega) (by decide) hz4 ?_
            intro V5 w5 hrow5 hoff5
            obtain ⟨va5, vn5, vc5, rfl⟩ := hrow5.shape3
            have hs5 : Since wl w5 := hoff5.since_of hs4 (fun x e => by have := (hrow4.own x e).1; have := hqs.size; omega)
            have hw6 := Since.whole hs5 H.out.box
            have x5 := hw6.cell 1
            have y5 := hw6.frozen 1
            have hfin := H.out.store hs5 hqs.size hrow5
            refine hK.out _ _ (fun _ => hs5) (fun hHeld => ?_)
            replace hHeld := hHeld (by decide)
            clear hK K
            try simp only [Act.put, List.getElem_toArray, List.getElem_cons_succ, List.getElem_cons_zero, List.setIfInBounds_toArray, List.set_cons_zero, List.set_cons_succ]
            refine wpLast_take (i := 19) (v := ?_) rfl (by decide) (by kernel_rfl) (by kernel_rfl) (by kernel_rfl) (by kernel_rfl) (fun _ _ _ h => h) (Or.inl ⟨by rfl, ?_⟩) (by assumption) ?_
            rotate_left 1
            · (intro W hW; clear hW; go_simp; try with_reducible rfl)
            simp only [Act.put, List.getElem_toArray, List.getElem_cons_succ, List.getElem_cons_zero, List.setIfInBounds_toArray, List.set_cons_zero, List.set_cons_succ]
            refine wpLast_take (i := 20) (v := ?_) rfl (by decide) (by kernel_rfl) (by kernel_rfl) (by kernel_rfl) (by kernel_rfl) (fun _ _ _ h => h) (Or.inl ⟨by rfl, ?_⟩) (by assumption) ?_
            rotate_left 1
            · (intro W hW; clear hW; go_simp; try with_reducible rfl)
            simp only [Act.put, List.getElem_toArray, List.getElem_cons_succ, List.getElem_cons_zero, List.setIfInBounds_toArray, List.set_cons_zero, List.set_cons_succ]
            refine wpLast_ready (rs := [21]) (by kernel_rfl) (by simp) ?_
            refine LastReady.cons rfl (fun K hK => ?_) LastReady.nil
            go_simp
            skip
            refine hK.out _ _ (fun h => absurd rfl h) (fun hHeld => ?_)
            clear hK K
            try simp only [Act.put, List.getElem_toArray, List.getElem_cons_succ, List.getElem_cons_zero, List.setIfInBounds_toArray, List.set_cons_zero, List.set_cons_succ]
            refine wpLast_done (by kernel_rfl) ?_ _
            have hfin2 := hfin
            simp only [List.nil_append] at hfin2
            rw [take_to hn.out] at hfin2
            go_end0
            exact ⟨rfl, ⟨_, hfin2.1⟩, (Since.off HS0.out _).trans hfin2.2 (fun _ _ z => z)⟩
          · go_simp
            have hw5 := Whole.new (wq.alloc (.cells #[] 53)) 53 #[.int .i64 d, .int .i64 b, .int .i64 who]
            rw [World.size_alloc] at hw5
            replace hrow0 := hrow0.alloc (.cells #[.int .i64 d, .int .i64 b, .int .i64 who] 53)
            replace hsx := hsx.alloc (.cells #[.int .i64 d, .int .i64 b, .int .i64 who] 53)
            refine hK.out _ _ (fun _ => hsx) (fun hHeld => ?_)
            replace hHeld := hHeld (by decide)
            clear hK K
            try simp only [Act.put, List.getElem_toArray, List.getElem_cons_succ, List.getElem_cons_zero, List.setIfInBounds_toArray, List.set_cons_zero, List.set_cons_succ]
            refine wpLast_ready (rs := [8]) (by kernel_rfl) (by simp) ?_
            refine LastReady.cons rfl (fun K hK => ?_) LastReady.nil
            refine step_append_val rfl (.tmp 29) (.tmp 35) 22 rfl wq.heap.size 53 _ 24 Try.underlying22 infoR5 rfl (by decide) hrow0 (show PartE encT _ _ (([] : List Tl).take 0) from .inl ⟨rfl, rfl⟩) encT_len encT_one rfl rfl (by simp only [List.length_append, List.length_take, List.length_drop, List.length_cons, List.length_nil]; omega) (by decide) (by simp only [World.size_alloc]; omega) ?_
            intro V3 w3 hrow3 hoff3
            have hs3 : Since wl w3 := hoff3.since_of hsx (fun x e => by have := (hrow0.own x e).1; have := hqs.size; omega)
            have hz3 : wq.heap.size ≤ w3.heap.size := by have := hoff3.size; (try simp at this); omega
            replace hw5 := hoff3.whole hw5 (by simp [Value.ownBlock])
            refine hK.out _ _ (fun _ => hs3) (fun hHeld => ?_)
            replace hHeld := hHeld (by decide)
            clear hK K
            try simp only [Act.put, List.getElem_toArray, List.getElem_cons_succ, List.getElem_cons_zero, List.setIfInBounds_toArray, List.set_cons_zero, List.set_cons_succ]
            refine wpLast_ready (rs := [11]) (by kernel_rfl) (by simp) ?_
            refine LastReady.cons rfl (fun K hK => ?_) LastReady.nil
            refine step_append_val rfl (.tmp 36) (.tmp 38) 22 rfl wq.heap.size 53 _ 24 Try.underlying22 infoR5 rfl (by decide) hrow3 (PartE.one (r := (⟨d, b, who⟩ : Tl)) hw5) encT_len encT_one rfl rfl (by simp only [List.length_append, List.length_take, List.length_drop, List.length_cons, List.length_nil]; omega) (by decide) hz3 ?_
            intro V4 w4 hrow4 hoff4
            have hs4 : Since wl w4 := hoff4.since_of hs3 (fun x e => by have := (hrow3.own x e).1; have := hqs.size; omega)
            have hz4 : wq.heap.size ≤ w4.heap.size := by have := hoff4.size; (try simp at this); omega
            refine hK.out _ _ (fun _ => hs4) (fun hHeld => ?_)
            replace hHeld := hHeld (by decide)
            clear hK K
            try simp only [Act.put, List.getElem_toArray, List.getElem_cons_succ, List.getElem_cons_zero, List.setIfInBounds_toArray, List.set_cons_zero, List.set_cons_succ]
            refine wpLast_ready (rs := [18]) (by kernel_rfl) (by simp) ?_
            refine LastReady.cons rfl (fun K hK => ?_) LastReady.nil
            refine step_append_val rfl (.tmp 39) (.tmp 45) 22 rfl wq.heap.size 53 _ 24 Try.underlying22 infoR5 rfl (by decide) hrow4 (show PartE encT _ _ (([] : List Tl).drop 0) from .inl ⟨rfl, rfl⟩) encT_len encT_one rfl rfl (by simp only [List.length_append, List.length_take, List.length_drop, List.length_cons, List.length_nil]; omega) (by decide) hz4 ?_
            intro V5 w5 hrow5 hoff5
            obtain ⟨va5, vn5, vc5, rfl⟩ := hrow5.shape3
            have hs5 : Since wl w5 := hoff5.since_of hs4 (fun x e => by have := (hrow4.own x e).1; have := hqs.size; omega)
            have hw6 := Since.whole hs5 H.out.box
            have x5 := hw6.cell 1
            have y5 := hw6.frozen 1
            have hfin := H.out.store hs5 hqs.size hrow5
            refine hK.out _ _ (fun _ => hs5) (fun hHeld => ?_)
            replace hHeld := hHeld (by decide)
            clear hK K
            try simp only [Act.put, List.getElem_toArray, List.getElem_cons_succ, List.getElem_cons_zero, List.setIfInBounds_toArray, List.set_cons_zero, List.set_cons_succ]
            refine wpLast_take (i := 19) (v := ?_) rfl (by decide) (by kernel_rfl) (by kernel_rfl) (by kernel_rfl) (by kernel_rfl) (fun _ _ _ h => h) (Or.inl ⟨by rfl, ?_⟩) (by assumption) ?_
            rotate_left 1
            · (intro W hW; clear hW; go_simp; try with_reducible rfl)
            simp only [Act.put, List.getElem_toArray, List.getElem_cons_succ, List.getElem_cons_zero, List.setIfInBounds_toArray, List.set_cons_zero, List.set_cons_succ]
            refine wpLast_take (i := 20) (v := ?_) rfl (by decide) (by kernel_rfl) (by kernel_rfl) (by kernel_rfl) (by kernel_rfl) (fun _ _ _ h => h) (Or.inl ⟨by rfl, ?_⟩) (by assumption) ?_
            rotate_left 1
            · (intro W hW; clear hW; go_simp; try with_reducible rfl)
            simp only [Act.put, List.getElem_toArray, List.getElem_cons_succ, List.getElem_cons_zero, List.setIfInBounds_toArray, List.set_cons_zero, List.set_cons_succ]
            refine wpLast_ready (rs := [21]) (by kernel_rfl) (by simp) ?_
            refine LastReady.cons rfl (fun K hK => ?_) LastReady.nil
            go_simp
            skip
            refine hK.out _ _ (fun h => absurd rfl h) (fun hHeld => ?_)
            clear hK K
            try simp only [Act.put, List.getElem_toArray, List.getElem_cons_succ, List.getElem_cons_zero, List.setIfInBounds_toArray, List.set_cons_zero, List.set_cons_succ]
            refine wpLast_done (by kernel_rfl) ?_ _
            have hfin2 := hfin
            simp only [List.nil_append] at hfin2
            rw [take_to hn.out] at hfin2
            go_end0
            exact ⟨rfl, ⟨_, hfin2.1⟩, (Since.off HS0.out _).trans hfin2.2 (fun _ _ z => z)⟩
        · go_simp
          have hw5 := Whole.new wq 53 #[.int .i64 d, .int .i64 b, .int .i64 who]
          refine hK.out _ _ (fun _ => hqs.alloc _) (fun hHeld => ?_)
          replace hHeld := hHeld (by decide)
          clear hK K
          try simp only [Act.put, List.getElem_toArray, List.getElem_cons_succ, List.getElem_cons_zero, List.setIfInBounds_toArray, List.set_cons_zero, List.set_cons_succ]
          refine wpLast_ready (rs := [1]) (by kernel_rfl) (by simp) ?_
          refine LastReady.cons rfl (fun K hK => ?_) LastReady.nil
          go_simp
          have hrow0 := RowE.empty (enc := encT) (n := 3) (wq.alloc (.cells #[.int .i64 d, .int .i64 b, .int .i64 who] 53)) 53
          rw [World.size_alloc] at hrow0
          replace hrow0 := hrow0.mono (base' := wq.heap.size) (by omega)
          replace hw5 := hw5.alloc (.cells #[] 53)
          have hsx : Since wl ((wq.alloc (.cells #[.int .i64 d, .int .i64 b, .int .i64 who] 53)).alloc (.cells #[] 53)) := (hqs.alloc _).alloc _
          refine hK.out _ _ (fun _ => hsx) (fun hHeld => ?_)
          replace hHeld := hHeld (by decide)
          clear hK K
          try simp only [Act.put, List.getElem_toArray, List.getElem_cons_succ, List.getElem_cons_zero, List.setIfInBounds_toArray, List.set_cons_zero, List.set_cons_succ]
          refine wpLast_ready (rs := [8]) (by kernel_rfl) (by simp) ?_
          refine LastReady.cons rfl (fun K hK => ?_) LastReady.nil
          refine step_append_val rfl (.tmp 29) (.tmp 35) 22 rfl wq.heap.size 53 _ 24 Try.underlying22 infoR5 rfl (by decide) hrow0 (show PartE encT _ _ (([] : List Tl).take 0) from .inl ⟨rfl, rfl⟩) encT_len encT_one rfl rfl (by simp only [List.length_append, List.length_take, List.length_drop, List.length_cons, List.length_nil]; omega) (by decide) (by simp only [World.size_alloc]; omega) ?_
          intro V3 w3 hrow3 hoff3
          have hs3 : Since wl w3 := hoff3.since_of hsx (fun x e => by have := (hrow0.own x e).1; have := hqs.size; omega)
          have hz3 : wq.heap.size ≤ w3.heap.size := by have := hoff3.size; (try simp at this); omega
          replace hw5 := hoff3.whole hw5 (by simp [Value.ownBlock])
          refine hK.out _ _ (fun _ => hs3) (fun hHeld => ?_)
          replace hHeld := hHeld (by decide)
          clear hK K
          try simp only [Act.put, List.getElem_toArray, List.getElem_cons_succ, List.getElem_cons_zero, List.setIfInBounds_toArray, List.set_cons_zero, List.set_cons_succ]
          refine wpLast_ready (rs := [11]) (by kernel_rfl) (by simp) ?_
          refine LastReady.cons rfl (fun K hK => ?_) LastReady.nil
          refine step_append_val rfl (.tmp 36) (.tmp 38) 22 rfl wq.heap.size 53 _ 24 Try.underlying22 infoR5 rfl (by decide) hrow3 (PartE.one (r := (⟨d, b, who⟩ : Tl)) hw5) encT_len encT_one rfl rfl (by simp only [List.length_append, List.length_take, List.length_drop, List.length_cons, List.length_nil]; omega) (by decide) hz3 ?_
          intro V4 w4 hrow4 hoff4
          have hs4 : Since wl w4 := hoff4.since_of hs3 (fun x e => by have := (hrow3.own x e).1; have := hqs.size; omega)
          have hz4 : wq.heap.size ≤ w4.heap.size := by have := hoff4.size; (try simp at this); omega
          refine hK.out _ _ (fun _ => hs4) (fun hHeld => ?_)
          replace hHeld := hHeld (by decide)
          clear hK K
          try simp only [Act.put, List.getElem_toArray, List.getElem_cons_succ, List.getElem_cons_zero, List.setIfInBounds_toArray, List.set_cons_zero, List.set_cons_succ]
          refine wpLast_ready (rs := [18]) (by kernel_rfl) (by simp) ?_
          refine LastReady.cons rfl (fun K hK => ?_) LastReady.nil
          refine step_append_val rfl (.tmp 39) (.tmp 45) 22 rfl wq.heap.size 53 _ 24 Try.underlying22 infoR5 rfl (by decide) hrow4 (show PartE encT _ _ (([] : List Tl).drop 0) from .inl ⟨rfl, rfl⟩) encT_len encT_one rfl rfl (by simp only [List.length_append, List.length_take, List.length_drop, List.length_cons, List.length_nil]; omega) (by decide) hz4 ?_
          intro V5 w5 hrow5 hoff5
          obtain ⟨va5, vn5, vc5, rfl⟩ := hrow5.shape3
          have hs5 : Since wl w5 := hoff5.since_of hs4 (fun x e => by have := (hrow4.own x e).1; have := hqs.size; omega)
          have hw6 := Since.whole hs5 H.out.box
          have x5 := hw6.cell 1
          have y5 := hw6.frozen 1
          have hfin := H.out.store hs5 hqs.size hrow5
          refine hK.out _ _ (fun _ => hs5) (fun hHeld => ?_)
          replace hHeld := hHeld (by decide)
          clear hK K
          try simp only [Act.put, List.getElem_toArray, List.getElem_cons_succ, List.getElem_cons_zero, List.setIfInBounds_toArray, List.set_cons_zero, List.set_cons_succ]
          refine wpLast_take (i := 19) (v := ?_) rfl (by decide) (by kernel_rfl) (by kernel_rfl) (by kernel_rfl) (by kernel_rfl) (fun _ _ _ h => h) (Or.inl ⟨by rfl, ?_⟩) (by assumption) ?_
          rotate_left 1
          · (intro W hW; clear hW; go_simp; try with_reducible rfl)
          simp only [Act.put, List.getElem_toArray, List.getElem_cons_succ, List.getElem_cons_zero, List.setIfInBounds_toArray, List.set_cons_zero, List.set_cons_succ]
          refine wpLast_take (i := 20) (v := ?_) rfl (by decide) (by kernel_rfl) (by kernel_rfl) (by kernel_rfl) (by kernel_rfl) (fun _ _ _ h => h) (Or.inl ⟨by rfl, ?_⟩) (by assumption) ?_
          rotate_left 1
          · (intro W hW; clear hW; go_simp; try with_reducible rfl)
          simp only [Act.put, List.getElem_toArray, List.getElem_cons_succ, List.getElem_cons_zero, List.setIfInBounds_toArray, List.set_cons_zero, List.set_cons_succ]
          refine wpLast_ready (rs := [21]) (by kernel_rfl) (by simp) ?_
          refine LastReady.cons rfl (fun K hK => ?_) LastReady.nil
          go_simp
          skip
          refine hK.out _ _ (fun h => absurd rfl h) (fun hHeld => ?_)
          clear hK K
          try simp only [Act.put, List.getElem_toArray, List.getElem_cons_succ, List.getElem_cons_zero, List.setIfInBounds_toArray, List.set_cons_zero, List.set_cons_succ]
          refine wpLast_done (by kernel_rfl) ?_ _
          have hfin2 := hfin
          simp only [List.nil_append] at hfin2
          rw [take_to hn.out] at hfin2
          go_end0
          exact ⟨rfl, ⟨_, hfin2.1⟩, (Since.off HS0.out _).trans hfin2.2 (fun _ _ z => z)⟩
      · injection e1 with e1 e3 e4
        subst e1 e4
        have hmc : m ≤ vc := Nat.le_trans hml hcap
        have hmi : (m : Int) ≤ (L.length : Int) := by omega
        have hm0 : (0 : Int) ≤ (m : Int) := by omega
        clear e3
        obtain ⟨wq, hwq⟩ : ∃ wq, wq = wp.drew := ⟨_, rfl⟩
        have hqs : Since wl wq := by rw [hwq]; exact hq.drew
        refine wp_region_last (fun W' => Since wl W') 21 (by kernel_rfl) hq.drew (fun hHeld => ?_)
        rw [← hwq] at hHeld ⊢
        clear hwq
        refine wpLast_take (i := 0) (v := ?_) rfl (by decide) (by kernel_rfl) (by kernel_rfl) (by kernel_rfl) (by kernel_rfl) (fun _ _ _ h => h) (Or.inl ⟨by rfl, ?_⟩) (by assumption) ?_
        rotate_left 1
        · (intro W hW; clear hW; go_simp; try with_reducible rfl)
        simp only [Act.put, List.getElem_toArray, List.getElem_cons_zero, List.setIfInBounds_toArray, List.set_cons_zero, List.set_cons_succ]
        refine wpLast_take (i := 2) (v := ?_) rfl (by decide) (by kernel_rfl) (by kernel_rfl) (by kernel_rfl) (by kernel_rfl) (fun _ _ _ h => h) (Or.inl ⟨by rfl, ?_⟩) (by assumption) ?_
        rotate_left 1
        · (intro W hW; clear hW; go_simp; try with_reducible rfl)
        simp only [Act.put, List.getElem_toArray, List.getElem_cons_succ, List.getElem_cons_zero, List.setIfInBounds_toArray, List.set_cons_zero, List.set_cons_succ]
        refine wpLast_take (i := 3) (v := ?_) rfl (by decide) (by kernel_rfl) (by kernel_rfl) (by kernel_rfl) (by kernel_rfl) (fun _ _ _ h => h) (Or.inl ⟨by rfl, ?_⟩) (by assumption) ?_
        rotate_left 1
        · (intro W hW; clear hW; go_simp; try with_reducible rfl)
        simp only [Act.put, List.getElem_toArray, List.getElem_cons_succ, List.getElem_cons_zero, List.setIfInBounds_toArray, List.set_cons_zero, List.set_cons_succ]
        refine wpLast_take (i := 4) (v := ?_) rfl (by decide) (by kernel_rfl) (by kernel_rfl) (by kernel_rfl) (by kernel_rfl) (fun _ _ _ h => h) (Or.inl ⟨by rfl, ?_⟩) (by assumption) ?_
        rotate_left 1
        · (intro W hW; clear hW; go_simp; try with_reducible rfl)
        simp only [Act.put, List.getElem_toArray, List.getElem_cons_succ, List.getElem_cons_zero, List.setIfInBounds_toArray, List.set_cons_zero, List.set_cons_succ]
        refine wpLast_take (i := 5) (v := ?_) rfl (by decide) (by kernel_rfl) (by kernel_rfl) (by kernel_rfl) (by kernel_rfl) (fun _ _ _ h => h) (Or.inl ⟨by rfl, ?_⟩) (by assumption) ?_
        rotate_left 1
        · (intro W hW; skip; go_simp; try with_reducible rfl)
        simp only [Act.put, List.getElem_toArray, List.getElem_cons_succ, List.getElem_cons_zero, List.setIfInBounds_toArray, List.set_cons_zero, List.set_cons_succ]
        refine wpLast_take (i := 6) (v := ?_) rfl (by decide) (by kernel_rfl) (by kernel_rfl) (by kernel_rfl) (by kernel_rfl) (fun _ _ _ h => h) (Or.inl ⟨by rfl, ?_⟩) (by assumption) ?_
        rotate_left 1
        · (intro W hW; clear hW; go_simp; try with_reducible rfl)
        simp only [Act.put, List.getElem_toArray, List.getElem_cons_succ, List.getElem_cons_zero, List.setIfInBounds_toArray, List.set_cons_zero, List.set_cons_succ]
        refine wpLast_take (i := 7) (v := ?_) rfl (by decide) (by kernel_rfl) (by kernel_rfl) (by kernel_rfl) (by kernel_rfl) (fun _ _ _ h => h) (Or.inl ⟨by rfl, ?_⟩) (by assumption) ?_
        rotate_left 1
        · (intro W hW; clear hW; go_simp; try with_reducible rfl)
        simp only [Act.put, List.getElem_toArray, List.getElem_cons_succ, List.getElem_cons_zero, List.setIfInBounds_toArray, List.set_cons_zero, List.set_cons_succ]
        refine wpLast_take (i := 9) (v := ?_) rfl (by decide) (by kernel_rfl) (by kernel_rfl) (by kernel_rfl) (by kernel_rfl) (fun _ _ _ h => h) (Or.inl ⟨by rfl, ?_⟩) (by assumption) ?_
        rotate_left 1
        · (intro W hW; skip; go_simp; try with_reducible rfl)
        simp only [Act.put, List.getElem_toArray, List.getElem_cons_succ, List.getElem_cons_zero, List.setIfInBounds_toArray, List.set_cons_zero, List.set_cons_succ]
        refine wpLast_take (i := 12) (v := ?_) rfl (by decide) (by kernel_rfl) (by kernel_rfl) (by kernel_rfl) (by kernel_rfl) (fun _ _ _ h => h) (Or.inl ⟨by rfl, ?_⟩) (by assumption) ?_
        rotate_left 1
        · (intro W hW; clear hW; go_simp; try with_reducible rfl)
        simp only [Act.put, List.getElem_toArray, List.getElem_cons_succ, List.getElem_cons_zero, List.setIfInBounds_toArray, List.set_cons_zero, List.set_cons_succ]
        refine wpLast_take (i := 13) (v := ?_) rfl (by decide) (by kernel_rfl) (by kernel_rfl) (by kernel_rfl) (by kernel_rfl) (fun _ _ _ h => h) (Or.inl ⟨by rfl, ?_⟩) (by assumption) ?_
        rotate_left 1
        · (intro W hW; clear hW; go_simp; try with_reducible rfl)
        simp only [Act.put, List.getElem_toArray, List.getElem_cons_succ, List.getElem_cons_zero, List.setIfInBounds_toArray, List.set_cons_zero, List.set_cons_succ]
        refine wpLast_take (i := 14) (v := ?_) rfl (by decide) (by kernel_rfl) (by kernel_rfl) (by kernel_rfl) (by kernel_rfl) (fun _ _ _ h => h) (Or.inl ⟨by rfl, ?_⟩) (by assumption) ?_
        rotate_left 1
        · (intro W hW; clear hW; go_simp; try with_reducible rfl)
        simp only [Act.put, List.getElem_toArray, List.getElem_cons_succ, List.getElem_cons_zero, List.setIfInBounds_toArray, List.set_cons_zero, List.set_cons_succ]
        refine wpLast_take (i := 15) (v := ?_) rfl (by decide) (by kernel_rfl) (by kernel_rfl) (by kernel_rfl) (by kernel_rfl) (fun _ _ _ h => h) (Or.inl ⟨by rfl, ?_⟩) (by assumption) ?_
        rotate_left 1
        · (intro W hW; skip; go_simp; try with_reducible rfl)
        simp only [Act.put, List.getElem_toArray, List.getElem_cons_succ, List.getElem_cons_zero, List.setIfInBounds_toArray, List.set_cons_zero, List.set_cons_succ]
        refine wpLast_take (i := 16) (v := ?_) rfl (by decide) (by kernel_rfl) (by kernel_rfl) (by kernel_rfl) (by kernel_rfl) (fun _ _ _ h => h) (Or.inl ⟨by rfl, ?_⟩) (by assumption) ?_
        rotate_left 1
        · (intro W hW; clear hW; go_simp; try with_reducible rfl)
        simp only [Act.put, List.getElem_toArray, List.getElem_cons_succ, List.getElem_cons_zero, List.setIfInBounds_toArray, List.set_cons_zero, List.set_cons_succ]
        refine wpLast_take (i := 17) (v := ?_) rfl (by decide) (by kernel_rfl) (by kernel_rfl) (by kernel_rfl) (by kernel_rfl) (fun _ _ _ h => h) (Or.inl ⟨by rfl, ?_⟩) (by assumption) ?_
        rotate_left 1
        · (intro W hW; clear hW; go_simp; try with_reducible rfl)
        simp only [Act.put, List.getElem_toArray, List.getElem_cons_succ, List.getElem_cons_zero, List.setIfInBounds_toArray, List.set_cons_zero, List.set_cons_succ]
        refine wpLast_ready (rs := [1, 10]) (by kernel_rfl) (by simp) ?_
        refine LastReady.cons rfl (fun K hK => ?_) (LastReady.cons rfl (fun K hK => ?_) LastReady.nil)
        · go_simp
          have hrow0 := RowE.empty (enc := encT) (n := 3) wq 53
          have hsx : Since wl (wq.alloc (.cells #[] 53)) := hqs.alloc _
          refine hK.out _ _ (fun _ => hsx) (fun hHeld => ?_)
          replace hHeld := hHeld (by decide)
          clear hK K
          try simp only [Act.put, List.getElem_toArray, List.getElem_cons_succ, List.getElem_cons_zero, List.setIfInBounds_toArray, List.set_cons_zero, List.set_cons_succ]
          refine wpLast_ready (rs := [8, 10]) (by kernel_rfl) (by simp) ?_
          refine LastReady.cons rfl (fun K hK => ?_) (LastReady.cons rfl (fun K hK => ?_) LastReady.nil)
          · refine step_append_val rfl (.tmp 29) (.tmp 35) 22 rfl wq.heap.size 53 _ 24 Try.underlying22 infoR5 rfl (by decide) hrow0 ((H.out.row.since hsx).take encT_len (by omega)) encT_len encT_one rfl rfl (by simp only [List.length_append, List.length_take, List.length_drop, List.length_cons, List.length_nil]; omega) (by decide) (by simp only [World.size_alloc]; omega) ?_
            intro V3 w3 hrow3 hoff3
            have hs3 : Since wl w3 := hoff3.since_of hsx (fun x e => by have := (hrow0.own x e).1; have := hqs.size; omega)
            have hz3 : wq.heap.size ≤ w3.heap.size := by have := hoff3.size; (try simp at this); omega
            refine hK.out _ _ (fun _ => hs3) (fun hHeld => ?_)
            replace hHeld := hHeld (by decide)
            clear hK K
            try simp only [Act.put, List.getElem_toArray, List.getElem_cons_succ, List.getElem_cons_zero, List.setIfInBounds_toArray, List.set_cons_zero, List.set_cons_succ]
            refine wpLast_ready (rs := [10]) (by kernel_rfl) (by simp) ?_
            refine LastReady.cons rfl (fun K hK => ?_) LastReady.nil
            go_simp
            have hw5 := Whole.new w3 53 #[.int .i64 d, .int .i64 b, .int .i64 who]
            replace hrow3 := hrow3.alloc (.cells #[.int .i64 d, .int .i64 b, .int .i64 who] 53)
            replace hs3 := hs3.alloc (.cells #[.int .i64 d, .int .i64 b, .int .i64 who] 53)
            refine hK.out _ _ (fun _ => hs3) (fun hHeld => ?_)
            replace hHeld := hHeld (by decide)
            clear hK K
            try simp only [Act.put, List.getElem_toArray, List.getElem_cons_succ, List.getElem_cons_zero, List.setIfInBounds_toArray, List.set_cons_zero, List.set_cons_succ]
            refine wpLast_ready (rs := [11]) (by kernel_rfl) (by simp) ?_
            refine LastReady.cons rfl (fun K hK => ?_) LastReady.nil
            refine step_append_val rfl (.tmp 36) (.tmp 38) 22 rfl wq.heap.size 53 _ 24 Try.underlying22 infoR5 rfl (by decide) hrow3 (PartE.one (r := (⟨d, b, who⟩ : Tl)) hw5) encT_len encT_one rfl rfl (by simp only [List.length_append, List.length_take, List.length_drop, List.length_cons, List.length_nil]; omega) (by decide) (by simp; omega) ?_
            intro V4 w4 hrow4 hoff4
            have hs4 : Since wl w4 := hoff4.since_of hs3 (fun x e => by have := (hrow3.own x e).1; have := hqs.size; omega)
            have hz4 : wq.heap.size ≤ w4.heap.size := by have := hoff4.size; (try simp at this); omega
            refine hK.out _ _ (fun _ => hs4) (fun hHeld => ?_)
            replace hHeld := hHeld (by decide)
            clear hK K
            try simp only [Act.put, List.getElem_toArray, List.getElem_cons_succ, List.getElem_cons_zero, List.setIfInBounds_toArray, List.set_cons_zero, List.set_cons_succ]
            refine wpLast_ready (rs := [18]) (by kernel_rfl) (by simp) ?_
            refine LastReady.cons rfl (fun K hK => ?_) LastReady.nil
            refine step_append_val rfl (.tmp 39) (.tmp 45) 22 rfl wq.heap.size 53 _ 24 Try.underlying22 infoR5 rfl (by decide) hrow4 ((H.out.row.since hs4).drop2 encT_len hcap) encT_len encT_one rfl rfl (by simp only [List.length_append, List.length_take, List.length_drop, List.length_cons, List.length_nil]; omega) (by decide) hz4 ?_
            intro V5 w5 hrow5 hoff5
            obtain ⟨va5, vn5, vc5, rfl⟩ := hrow5.shape3
            have hs5 : Since wl w5 := hoff5.since_of hs4 (fun x e => by have := (hrow4.own x e).1; have := hqs.size; omega)
            have hw6 := Since.whole hs5 H.out.box
            have x5 := hw6.cell 1
            have y5 := hw6.frozen 1
            have hfin := H.out.store hs5 hqs.size hrow5
            refine hK.out _ _ (fun _ => hs5) (fun hHeld => ?_)
            replace hHeld := hHeld (by decide)
            clear hK K
            try simp only [Act.put, List.getElem_toArray, List.getElem_cons_succ, List.getElem_cons_zero, List.setIfInBounds_toArray, List.set_cons_zero, List.set_cons_succ]
            refine wpLast_take (i := 19) (v := ?_) rfl (by decide) (by kernel_rfl) (by kernel_rfl) (by kernel_rfl) (by kernel_rfl) (fun _ _ _ h => h) (Or.inl ⟨by rfl, ?_⟩) (by assumption) ?_
            rotate_left 1
            · (intro W hW; clear hW; go_simp; try with_reducible rfl)
            simp only [Act.put, List.getElem_toArray, List.getElem_cons_succ, List.getElem_cons_zero, List.setIfInBounds_toArray, List.set_cons_zero, List.set_cons_succ]
            refine wpLast_take (i := 20) (v := ?_) rfl (by decide) (by kernel_rfl) (by kernel_rfl) (by kernel_rfl) (by kernel_rfl) (fun _ _ _ h => h) (Or.inl ⟨by rfl, ?_⟩) (by assumption) ?_
            rotate_left 1
            · (intro W hW; clear hW; go_simp; try with_reducible rfl)
            simp only [Act.put, List.getElem_toArray, List.getElem_cons_succ, List.getElem_cons_zero, List.setIfInBounds_toArray, List.set_cons_zero, List.set_cons_succ]
            refine wpLast_ready (rs := [21]) (by kernel_rfl) (by simp) ?_
            refine LastReady.cons rfl (fun K hK => ?_) LastReady.nil
            go_simp
            skip
            refine hK.out _ _ (fun h => absurd rfl h) (fun hHeld => ?_)
            clear hK K
            try simp only [Act.put, List.getElem_toArray, List.getElem_cons_succ, List.getElem_cons_zero, List.setIfInBounds_toArray, List.set_cons_zero, List.set_cons_succ]
            refine wpLast_done (by kernel_rfl) ?_ _
            have hfin2 := hfin
            simp only [List.nil_append] at hfin2
            rw [take_to hn.out] at hfin2
            go_end0
            exact ⟨rfl, ⟨_, hfin2.1⟩, (Since.off HS0.out _).trans hfin2.2 (fun _ _ z => z)⟩
          · go_simp
            have hw5 := Whole.new (wq.alloc (.cells #[] 53)) 53 #[.int .i64 d, .int .i64 b, .int .i64 who]
            rw [World.size_alloc] at hw5
            replace hrow0 := hrow0.alloc (.cells #[.int .i64 d, .int .i64 b, .int .i64 who] 53)
            replace hsx := hsx.alloc (.cells #[.int .i64 d, .int .i64 b, .int .i64 who] 53)
            refine hK.out _ _ (fun _ => hsx) (fun hHeld => ?_)
            replace hHeld := hHeld (by decide)
            clear hK K
            try simp only [Act.put, List.getElem_toArray, List.getElem_cons_succ, List.getElem_cons_zero, List.setIfInBounds_toArray, List.set_cons_zero, List.set_cons_succ]
            refine wpLast_ready (rs := [8]) (by kernel_rfl) (by simp) ?_
            refine LastReady.cons rfl (fun K hK => ?_) LastReady.nil
            refine step_append_val rfl (.tmp 29) (.tmp 35) 22 rfl wq.heap.size 53 _ 24 Try.underlying22 infoR5 rfl (by decide) hrow0 ((H.out.row.since hsx).take encT_len (by omega)) encT_len encT_one rfl rfl (by simp only [List.length_append, List.length_take, List.length_drop, List.length_cons, List.length_nil]; omega) (by decide) (by simp only [World.size_alloc]; omega) ?_
            intro V3 w3 hrow3 hoff3
            have hs3 : Since wl w3 := hoff3.since_of hsx (fun x e => by have := (hrow0.own x e).1; have := hqs.size; omega)
            have hz3 : wq.heap.size ≤ w3.heap.size := by have := hoff3.size; (try simp at this); omega
            replace hw5 := hoff3.whole hw5 (by simp [Value.ownBlock])
            refine hK.out _ _ (fun _ => hs3) (fun hHeld => ?_)
            replace hHeld := hHeld (by decide)
            clear hK K
            try simp only [Act.put, List.getElem_toArray, List.getElem_cons_succ, List.getElem_cons_zero, List.setIfInBounds_toArray, List.set_cons_zero, List.set_cons_succ]
            refine wpLast_ready (rs := [11]) (by kernel_rfl) (by simp) ?_
            refine LastReady.cons rfl (fun K hK => ?_) LastReady.nil
            refine step_append_val rfl (.tmp 36) (.tmp 38) 22 rfl wq.heap.size 53 _ 24 Try.underlying22 infoR5 rfl (by decide) hrow3 (PartE.one (r := (⟨d, b, who⟩ : Tl)) hw5) encT_len encT_one rfl rfl (by simp only [List.length_append, List.length_take, List.length_drop, List.length_cons, List.length_nil]; omega) (by decide) hz3 ?_
            intro V4 w4 hrow4 hoff4
            have hs4 : Since wl w4 := hoff4.since_of hs3 (fun x e => by have := (hrow3.own x e).1; have := hqs.size; omega)
            have hz4 : wq.heap.size ≤ w4.heap.size := by have := hoff4.size; (try simp at this); omega
            refine hK.out _ _ (fun _ => hs4) (fun hHeld => ?_)
            replace hHeld := hHeld (by decide)
            clear hK K
            try simp only [Act.put, List.getElem_toArray, List.getElem_cons_succ, List.getElem_cons_zero, List.setIfInBounds_toArray, List.set_cons_zero, List.set_cons_succ]
            refine wpLast_ready (rs := [18]) (by kernel_rfl) (by simp) ?_
            refine LastReady.cons rfl (fun K hK => ?_) LastReady.nil
            refine step_append_val rfl (.tmp 39) (.tmp 45) 22 rfl wq.heap.size 53 _ 24 Try.underlying22 infoR5 rfl (by decide) hrow4 ((H.out.row.since hs4).drop2 encT_len hcap) encT_len encT_one rfl rfl (by simp only [List.length_append, List.length_take, List.length_drop, List.length_cons, List.length_nil]; omega) (by decide) hz4 ?_
            intro V5 w5 hrow5 hoff5
            obtain ⟨va5, vn5, vc5, rfl⟩ := hrow5.shape3
            have hs5 : Since wl w5 := hoff5.since_of hs4 (fun x e => by have := (hrow4.own x e).1; have := hqs.size; omega)
            have hw6 := Since.whole hs5 H.out.box
            have x5 := hw6.cell 1
            have y5 := hw6.frozen 1
            have hfin := H.out.store hs5 hqs.size hrow5
            refine hK.out _ _ (fun _ => hs5) (fun hHeld => ?_)
            replace hHeld := hHeld (by decide)
            clear hK K
            try simp only [Act.put, List.getElem_toArray, List.getElem_cons_succ, List.getElem_cons_zero, List.setIfInBounds_toArray, List.set_cons_zero, List.set_cons_succ]
            refine wpLast_take (i := 19) (v := ?_) rfl (by decide) (by kernel_rfl) (by kernel_rfl) (by kernel_rfl) (by kernel_rfl) (fun _ _ _ h => h) (Or.inl ⟨by rfl, ?_⟩) (by assumption) ?_
            rotate_left 1
            · (intro W hW; clear hW; go_simp; try with_reducible rfl)
            simp only [Act.put, List.getElem_toArray, List.getElem_cons_succ, List.getElem_cons_zero, List.setIfInBounds_toArray, List.set_cons_zero, List.set_cons_succ]
            refine wpLast_take (i := 20) (v := ?_) rfl (by decide) (by kernel_rfl) (by kernel_rfl) (by kernel_rfl) (by kernel_rfl) (fun _ _ _ h => h) (Or.inl ⟨by rfl, ?_⟩) (by assumption) ?_
            rotate_left 1
            · (intro W hW; clear hW; go_simp; try with_reducible rfl)
            simp only [Act.put, List.getElem_toArray, List.getElem_cons_succ, List.getElem_cons_zero, List.setIfInBounds_toArray, List.set_cons_zero, List.set_cons_succ]
            refine wpLast_ready (rs := [21]) (by kernel_rfl) (by simp) ?_
            refine LastReady.cons rfl (fun K hK => ?_) LastReady.nil
            go_simp
            skip
            refine hK.out _ _ (fun h => absurd rfl h) (fun hHeld => ?_)
            clear hK K
            try simp only [Act.put, List.getElem_toArray, List.getElem_cons_succ, List.getElem_cons_zero, List.setIfInBounds_toArray, List.set_cons_zero, List.set_cons_succ]
            refine wpLast_done (by kernel_rfl) ?_ _
            have hfin2 := hfin
            simp only [List.nil_append] at hfin2
            rw [take_to hn.out] at hfin2
            go_end0
            exact ⟨rfl, ⟨_, hfin2.1⟩, (Since.off HS0.out _).trans hfin2.2 (fun _ _ z => z)⟩
        · go_simp
          have hw5 := Whole.new wq 53 #[.int .i64 d, .int .i64 b, .int .i64 who]
          refine hK.out _ _ (fun _ => hqs.alloc _) (fun hHeld => ?_)
          replace hHeld := hHeld (by decide)
          clear hK K
          try simp only [Act.put, List.getElem_toArray, List.getElem_cons_succ, List.getElem_cons_zero, List.setIfInBounds_toArray, List.set_cons_zero, List.set_cons_succ]
          refine wpLast_ready (rs := [1]) (by kernel_rfl) (by simp) ?_
          refine LastReady.cons rfl (fun K hK => ?_) LastReady.nil
          go_simp
          have hrow0 := RowE.empty (enc := encT) (n := 3) (wq.alloc (.cells #[.int .i64 d, .int .i64 b, .int .i64 who] 53)) 53
          rw [World.size_alloc] at hrow0
          replace hrow0 := hrow0.mono (base' := wq.heap.size) (by omega)
          replace hw5 := hw5.alloc (.cells #[] 53)
          have hsx : Since wl ((wq.alloc (.cells #[.int .i64 d, .int .i64 b, .int .i64 who] 53)).alloc (.cells #[] 53)) := (hqs.alloc _).alloc _
          refine hK.out _ _ (fun _ => hsx) (fun hHeld => ?_)
          replace hHeld := hHeld (by decide)
          clear hK K
          try simp only [Act.put, List.getElem_toArray, List.getElem_cons_succ, List.getElem_cons_zero, List.setIfInBounds_toArray, List.set_cons_zero, List.set_cons_succ]
          refine wpLast_ready (rs := [8]) (by kernel_rfl) (by simp) ?_
          refine LastReady.cons rfl (fun K hK => ?_) LastReady.nil
          refine step_append_val rfl (.tmp 29) (.tmp 35) 22 rfl wq.heap.size 53 _ 24 Try.underlying22 infoR5 rfl (by decide) hrow0 ((H.out.row.since hsx).take encT_len (by omega)) encT_len encT_one rfl rfl (by simp only [List.length_append, List.length_take, List.length_drop, List.length_cons, List.length_nil]; omega) (by decide) (by simp only [World.size_alloc]; omega) ?_
          intro V3 w3 hrow3 hoff3
          have hs3 : Since wl w3 := hoff3.since_of hsx (fun x e => by have := (hrow0.own x e).1; have := hqs.size; omega)
          have hz3 : wq.heap.size ≤ w3.heap.size := by have := hoff3.size; (try simp at this); omega
          replace hw5 := hoff3.whole hw5 (by simp [Value.ownBlock])
          refine hK.out _ _ (fun _ => hs3) (fun hHeld => ?_)
          replace hHeld := hHeld (by decide)
          clear hK K
          try simp only [Act.put, List.getElem_toArray, List.getElem_cons_succ, List.getElem_cons_zero, List.setIfInBounds_toArray, List.set_cons_zero, List.set_cons_succ]
          refine wpLast_ready (rs := [11]) (by kernel_rfl) (by simp) ?_
          refine LastReady.cons rfl (fun K hK => ?_) LastReady.nil
          refine step_append_val rfl (.tmp 36) (.tmp 38) 22 rfl wq.heap.size 53 _ 24 Try.underlying22 infoR5 rfl (by decide) hrow3 (PartE.one (r := (⟨d, b, who⟩ : Tl)) hw5) encT_len encT_one rfl rfl (by simp only [List.length_append, List.length_take, List.length_drop, List.length_cons, List.length_nil]; omega) (by decide) hz3 ?_
          intro V4 w4 hrow4 hoff4
          have hs4 : Since wl w4 := hoff4.since_of hs3 (fun x e => by have := (hrow3.own x e).1; have := hqs.size; omega)
          have hz4 : wq.heap.size ≤ w4.heap.size := by have := hoff4.size; (try simp at this); omega
          refine hK.out _ _ (fun _ => hs4) (fun hHeld => ?_)
          replace hHeld := hHeld (by decide)
          clear hK K
          try simp only [Act.put, List.getElem_toArray, List.getElem_cons_succ, List.getElem_cons_zero, List.setIfInBounds_toArray, List.set_cons_zero, List.set_cons_succ]
          refine wpLast_ready (rs := [18]) (by kernel_rfl) (by simp) ?_
          refine LastReady.cons rfl (fun K hK => ?_) LastReady.nil
          refine step_append_val rfl (.tmp 39) (.tmp 45) 22 rfl wq.heap.size 53 _ 24 Try.underlying22 infoR5 rfl (by decide) hrow4 ((H.out.row.since hs4).drop2 encT_len hcap) encT_len encT_one rfl rfl (by simp only [List.length_append, List.length_take, List.length_drop, List.length_cons, List.length_nil]; omega) (by decide) hz4 ?_
          intro V5 w5 hrow5 hoff5
          obtain ⟨va5, vn5, vc5, rfl⟩ := hrow5.shape3
          have hs5 : Since wl w5 := hoff5.since_of hs4 (fun x e => by have := (hrow4.own x e).1; have := hqs.size; omega)
          have hw6 := Since.whole hs5 H.out.box
          have x5 := hw6.cell 1
          have y5 := hw6.frozen 1
          have hfin := H.out.store hs5 hqs.size hrow5
          refine hK.out _ _ (fun _ => hs5) (fun hHeld => ?_)
          replace hHeld := hHeld (by decide)
          clear hK K
          try simp only [Act.put, List.getElem_toArray, List.getElem_cons_succ, List.getElem_cons_zero, List.setIfInBounds_toArray, List.set_cons_zero, List.set_cons_succ]
          refine wpLast_take (i := 19) (v := ?_) rfl (by decide) (by kernel_rfl) (by kernel_rfl) (by kernel_rfl) (by kernel_rfl) (fun _ _ _ h => h) (Or.inl ⟨by rfl, ?_⟩) (by assumption) ?_
          rotate_left 1
          · (intro W hW; clear hW; go_simp; try with_reducible rfl)
          simp only [Act.put, List.getElem_toArray, List.getElem_cons_succ, List.getElem_cons_zero, List.setIfInBounds_toArray, List.set_cons_zero, List.set_cons_succ]
          refine wpLast_take (i := 20) (v := ?_) rfl (by decide) (by kernel_rfl) (by kernel_rfl) (by kernel_rfl) (by kernel_rfl) (fun _ _ _ h => h) (Or.inl ⟨by rfl, ?_⟩) (by assumption) ?_
          rotate_left 1
          · (intro W hW; clear hW; go_simp; try with_reducible rfl)
          simp only [Act.put, List.getElem_toArray, List.getElem_cons_succ, List.getElem_cons_zero, List.setIfInBounds_toArray, List.set_cons_zero, List.set_cons_succ]
          refine wpLast_ready (rs := [21]) (by kernel_rfl) (by simp) ?_
          refine LastReady.cons rfl (fun K hK => ?_) LastReady.nil
          go_simp
          skip
          refine hK.out _ _ (fun h => absurd rfl h) (fun hHeld => ?_)
          clear hK K
          try simp only [Act.put, List.getElem_toArray, List.getElem_cons_succ, List.getElem_cons_zero, List.setIfInBounds_toArray, List.set_cons_zero, List.set_cons_succ]
          refine wpLast_done (by kernel_rfl) ?_ _
          have hfin2 := hfin
          simp only [List.nil_append] at hfin2
          rw [take_to hn.out] at hfin2
          go_end0
          exact ⟨rfl, ⟨_, hfin2.1⟩, (Since.off HS0.out _).trans hfin2.2 (fun _ _ z => z)⟩
    · have d1 : decide ((m : Int) < L.length) = true := decide_eq_true (by omega)
      obtain ⟨g, cap, e0, hcap, _⟩ := H.out.form hlt
      injection e0 with e1 e3 e4
      subst e1 e4
      obtain ⟨t0, t1, _⟩ := H.out.tile hs hlt rfl
      obtain ⟨⟨td, tb, tw⟩, ht⟩ : ∃ t, t = L[m] := ⟨_, rfl⟩
      rw [← ht] at t0 t1
      have hdr : L.drop m = ⟨td, tb, tw⟩ :: L.drop (m + 1) := by rw [ht]; exact List.drop_eq_getElem_cons hlt
      rw [hdr] at hA
      have hA' : (if cmpP td tb d b < 0 then befG ⟨d, b, who⟩ (L.drop (m + 1)) (m + 1) else m) = befG ⟨d, b, who⟩ L 0 := hA
      obtain ⟨cv, hcv⟩ : ∃ cv, cv = cmpP td tb d b := ⟨_, rfl⟩
      have hcall := HC.out td tb
      rw [← hcv] at hA' hcall
      have HCL := Lib.hid hcall
      have HA := Lib.hid hA'
      have hkt0 : ∀ W, Since wr W → W.cell? ⟨g, m * 3, none⟩ = some (.int .i64 td) := fun W hW => (H.out.tile (hs.trans hW) hlt rfl).1.trans (by rw [← ht])
      have hkt1 : ∀ W, Since wr W → W.cell? ⟨g, m * 3 + 1, none⟩ = some (.int .i64 tb) := fun W hW => (H.out.tile (hs.trans hW) hlt rfl).2.1.trans (by rw [← ht])
      have cr1 := fun W (hW : Since wr W) => c1 W (hs.trans hW)
      have pr0 := fun W (hW : Since wr W) => p0 W (hs.trans hW)
      have pr1 := fun W (hW : Since wr W) => p1 W (hs.trans hW)
      have hmc : m ≤ vc := Nat.le_trans hml hcap
      have hmi : (m : Int) ≤ (L.length : Int) := by omega
      have hm0 : (0 : Int) ≤ (m : Int) := by omega
      clear hA hA' hdr ht e3 t0 t1 hcall hcv
      by_cases hc : cv < 0
      · have dc : decide (cv < 0) = true := decide_eq_true hc
        have hA2 := (if_pos hc).symm.trans HA.out
        replace HA := Lib.hid hA2
        clear hA2 hc
        go_wp2_with fail
        have hrd : Since wr wr.drew := (Since.refl wr).drew
        refine wp_region_held_drew (S := fun W => Since wr W) (by kernel_rfl) hrd (fun hHeld => ?_)
        rw [← hwp] at hHeld ⊢
        have hq : Since wr wp := hHeld
        clear hwp hsd hrd
        refine wpAnyH_take (i := 0) (v := ?_) rfl (by kernel_rfl) (by kernel_rfl) (by kernel_rfl) (fun _ _ _ h => h) (Or.inl ⟨by rfl, ?_⟩) (by assumption) ?_
        rotate_left 1
        · (intro W hW; clear hW; go_simp; try with_reducible rfl)
        simp only [Act.put, List.getElem_toArray, List.getElem_cons_zero, List.setIfInBounds_toArray, List.set_cons_zero, List.set_cons_succ]
        refine wpAnyH_take (i := 1) (v := ?_) rfl (by kernel_rfl) (by kernel_rfl) (by kernel_rfl) (fun _ _ _ h => h) (Or.inl ⟨by rfl, ?_⟩) (by assumption) ?_
        rotate_left 1
        · (intro W hW; clear hW; go_simp; try with_reducible rfl)
        simp only [Act.put, List.getElem_toArray, List.getElem_cons_succ, List.getElem_cons_zero, List.setIfInBounds_toArray, List.set_cons_zero, List.set_cons_succ]
        refine wpAnyH_take (i := 2) (v := ?_) rfl (by kernel_rfl) (by kernel_rfl) (by kernel_rfl) (fun _ _ _ h => h) (Or.inl ⟨by rfl, ?_⟩) (by assumption) ?_
        rotate_left 1
        · (intro W hW; clear hW; go_simp; try with_reducible rfl)
        simp only [Act.put, List.getElem_toArray, List.getElem_cons_succ, List.getElem_cons_zero, List.setIfInBounds_toArray, List.set_cons_zero, List.set_cons_succ]
        refine wpAnyH_take (i := 3) (v := ?_) rfl (by kernel_rfl) (by kernel_rfl) (by kernel_rfl) (fun _ _ _ h => h) (Or.inl ⟨by rfl, ?_⟩) (by assumption) ?_
        rotate_left 1
        · (intro W hW; clear hW; go_simp; try with_reducible rfl)
        simp only [Act.put, List.getElem_toArray, List.getElem_cons_succ, List.getElem_cons_zero, List.setIfInBounds_toArray, List.set_cons_zero, List.set_cons_succ]
        refine wpAnyH_take (i := 4) (v := ?_) rfl (by kernel_rfl) (by kernel_rfl) (by kernel_rfl) (fun _ _ _ h => h) (Or.inl ⟨by rfl, ?_⟩) (by assumption) ?_
        rotate_left 1
        · (intro W hW; skip; go_simp; try with_reducible rfl)
        simp only [Act.put, List.getElem_toArray, List.getElem_cons_succ, List.getElem_cons_zero, List.setIfInBounds_toArray, List.set_cons_zero, List.set_cons_succ]
        refine wpAnyH_take (i := 5) (v := ?_) rfl (by kernel_rfl) (by kernel_rfl) (by kernel_rfl) (fun _ _ _ h => h) (Or.inl ⟨by rfl, ?_⟩) (by assumption) ?_
        rotate_left 1
        · (intro W hW; clear hW; go_simp; try with_reducible rfl)
        simp only [Act.put, List.getElem_toArray, List.getElem_cons_succ, List.getElem_cons_zero, List.setIfInBounds_toArray, List.set_cons_zero, List.set_cons_succ]
        refine wpAnyH_take (i := 6) (v := ?_) rfl (by kernel_rfl) (by kernel_rfl) (by kernel_rfl) (fun _ _ _ h => h) (Or.inl ⟨by rfl, ?_⟩) (by assumption) ?_
        rotate_left 1
        · (intro W hW; clear hW; go_simp; try with_reducible rfl)
        simp only [Act.put, List.getElem_toArray, List.getElem_cons_succ, List.getElem_cons_zero, List.setIfInBounds_toArray, List.set_cons_zero, List.set_cons_succ]
        refine wpAnyH_take (i := 7) (v := ?_) rfl (by kernel_rfl) (by kernel_rfl) (by kernel_rfl) (fun _ _ _ h => h) (Or.inl ⟨by rfl, ?_⟩) (by assumption) ?_
        rotate_left 1
        · (intro W hW; clear hW; go_simp; try with_reducible rfl)
        simp only [Act.put, List.getElem_toArray, List.getElem_cons_succ, List.getElem_cons_zero, List.setIfInBounds_toArray, List.set_cons_zero, List.set_cons_succ]
        refine wpAnyH_take (i := 8) (v := ?_) rfl (by kernel_rfl) (by kernel_rfl) (by kernel_rfl) (fun _ _ _ h => h) (Or.inl ⟨by rfl, ?_⟩) (by assumption) ?_
        rotate_left 1
        · (intro W hW; clear hW; go_simp; try with_reducible rfl)
        simp only [Act.put, List.getElem_toArray, List.getElem_cons_succ, List.getElem_cons_zero, List.setIfInBounds_toArray, List.set_cons_zero, List.set_cons_succ]
        refine wpAnyH_take (i := 9) (v := ?_) rfl (by kernel_rfl) (by kernel_rfl) (by kernel_rfl) (fun _ _ _ h => h) (Or.inl ⟨by rfl, ?_⟩) (by assumption) ?_
        rotate_left 1
        · (intro W hW; clear hW; go_simp; try with_reducible rfl)
        simp only [Act.put, List.getElem_toArray, List.getElem_cons_succ, List.getElem_cons_zero, List.setIfInBounds_toArray, List.set_cons_zero, List.set_cons_succ]
        refine wpAnyH_take (i := 10) (v := ?_) rfl (by kernel_rfl) (by kernel_rfl) (by kernel_rfl) (fun _ _ _ h => h) (Or.inl ⟨by rfl, ?_⟩) (by assumption) ?_
        rotate_left 1
        · (intro W hW; clear hW; go_simp; try with_reducible rfl)
        simp only [Act.put, List.getElem_toArray, List.getElem_cons_succ, List.getElem_cons_zero, List.setIfInBounds_toArray, List.set_cons_zero, List.set_cons_succ]
        refine wpAnyH_take (i := 11) (v := ?_) rfl (by kernel_rfl) (by kernel_rfl) (by kernel_rfl) (fun _ _ _ h => h) (Or.inl ⟨by rfl, ?_⟩) (by assumption) ?_
        rotate_left 1
        · (intro W hW; skip; go_simp; try with_reducible rfl)
        simp only [Act.put, List.getElem_toArray, List.getElem_cons_succ, List.getElem_cons_zero, List.setIfInBounds_toArray, List.set_cons_zero, List.set_cons_succ]
        refine wpAnyH_take (i := 12) (v := ?_) rfl (by kernel_rfl) (by kernel_rfl) (by kernel_rfl) (fun _ _ _ h => h) (Or.inl ⟨by rfl, ?_⟩) (by assumption) ?_
        rotate_left 1
        · (intro W hW; clear hW; go_simp; try with_reducible rfl)
        simp only [Act.put, List.getElem_toArray, List.getElem_cons_succ, List.getElem_cons_zero, List.setIfInBounds_toArray, List.set_cons_zero, List.set_cons_succ]
        refine wpAnyH_take (i := 13) (v := ?_) rfl (by kernel_rfl) (by kernel_rfl) (by kernel_rfl) (fun _ _ _ h => h) (Or.inl ⟨by rfl, ?_⟩) (by assumption) ?_
        rotate_left 1
        · (intro W hW; clear hW; go_simp; try with_reducible rfl)
        simp only [Act.put, List.getElem_toArray, List.getElem_cons_succ, List.getElem_cons_zero, List.setIfInBounds_toArray, List.set_cons_zero, List.set_cons_succ]
        refine wpAnyH_take (i := 14) (v := ?_) rfl (by kernel_rfl) (by kernel_rfl) (by kernel_rfl) (fun _ _ _ h => h) (Or.inl ⟨by rfl, ?_⟩) (by assumption) ?_
        rotate_left 1
        · (intro W hW; clear hW; go_simp; try with_reducible rfl)
        simp only [Act.put, List.getElem_toArray, List.getElem_cons_succ, List.getElem_cons_zero, List.setIfInBounds_toArray, List.set_cons_zero, List.set_cons_succ]
        refine wpAnyH_take (i := 15) (v := ?_) rfl (by kernel_rfl) (by kernel_rfl) (by kernel_rfl) (fun _ _ _ h => h) (Or.inl ⟨by rfl, ?_⟩) (by assumption) ?_
        rotate_left 1
        · (intro W hW; skip; go_simp; try with_reducible rfl)
        simp only [Act.put, List.getElem_toArray, List.getElem_cons_succ, List.getElem_cons_zero, List.setIfInBounds_toArray, List.set_cons_zero, List.set_cons_succ]
        refine wpAnyH_take (i := 16) (v := ?_) rfl (by kernel_rfl) (by kernel_rfl) (by kernel_rfl) (fun _ _ _ h => h) (Or.inl ⟨by rfl, ?_⟩) (by assumption) ?_
        rotate_left 1
        · (intro W hW; clear hW; go_simp; try with_reducible rfl)
        simp only [Act.put, List.getElem_toArray, List.getElem_cons_succ, List.getElem_cons_zero, List.setIfInBounds_toArray, List.set_cons_zero, List.set_cons_succ]
        refine wpAnyH_take (i := 17) (v := ?_) rfl (by kernel_rfl) (by kernel_rfl) (by kernel_rfl) (fun _ _ _ h => h) (Or.inl ⟨by rfl, ?_⟩) (by assumption) ?_
        rotate_left 1
        · (intro W hW; skip; go_simp; try with_reducible rfl)
        simp only [Act.put, List.getElem_toArray, List.getElem_cons_succ, List.getElem_cons_zero, List.setIfInBounds_toArray, List.set_cons_zero, List.set_cons_succ]
        refine wpAnyH_ready (rs := [18]) (by kernel_rfl) (by simp) ?_
        refine AllReadyH.cons rfl (fun K hK => ?_) AllReadyH.nil
        go_simp
        refine (Calls.since hq (HCL.out _)).mono ?_
        rintro e w2 ⟨rfl, hb2⟩
        go_wp2_with fail
        refine hK.out _ _ (hb2) (fun hHeld => ?_)
        clear hK K
        try simp only [Act.put, List.getElem_toArray, List.getElem_cons_succ, List.getElem_cons_zero, List.setIfInBounds_toArray, List.set_cons_zero, List.set_cons_succ]
        refine wpAnyH_take (i := 19) (v := ?_) rfl (by kernel_rfl) (by kernel_rfl) (by kernel_rfl) (fun _ _ _ h => h) (Or.inl ⟨by rfl, ?_⟩) (by assumption) ?_
        rotate_left 1
        · (intro W hW; clear hW; go_simp; try with_reducible rfl)
        simp only [Act.put, List.getElem_toArray, List.getElem_cons_succ, List.getElem_cons_zero, List.setIfInBounds_toArray, List.set_cons_zero, List.set_cons_succ]
        refine wpAnyH_take (i := 20) (v := ?_) rfl (by kernel_rfl) (by kernel_rfl) (by kernel_rfl) (fun _ _ _ h => h) (Or.inl ⟨by rfl, ?_⟩) (by assumption) ?_
        rotate_left 1
        · (intro W hW; clear hW; go_simp; try with_reducible rfl)
        simp only [Act.put, List.getElem_toArray, List.getElem_cons_succ, List.getElem_cons_zero, List.setIfInBounds_toArray, List.set_cons_zero, List.set_cons_succ]
        refine wpAnyH_done (by kernel_rfl) ?_ _
        go_wp2_with fail
        go_roundw
        case rel => exact ⟨m + 1, by go_num, by omega, hs.trans (by assumption), HA.out⟩
        case measure => simp [intOf]; omega
      · have dc : decide (cv < 0) = false := decide_eq_false hc
        have hA2 := (if_neg hc).symm.trans HA.out
        have hn := Lib.hid (show m = nBef L ⟨d, b, who⟩ from hA2.trans ((befG_add _ L 0).trans (Nat.zero_add _)))
        clear hA2 hc
        go_wp2_with fail
        have hrd : Since wr wr.drew := (Since.refl wr).drew
        refine wp_region_held_drew (S := fun W => Since wr W) (by kernel_rfl) hrd (fun hHeld => ?_)
        rw [← hwp] at hHeld ⊢
        have hq : Since wr wp := hHeld
        clear hwp hsd hrd
        refine wpAnyH_take (i := 0) (v := ?_) rfl (by kernel_rfl) (by kernel_rfl) (by kernel_rfl) (fun _ _ _ h => h) (Or.inl ⟨by rfl, ?_⟩) (by assumption) ?_
        rotate_left 1
        · (intro W hW; clear hW; go_simp; try with_reducible rfl)
        simp only [Act.put, List.getElem_toArray, List.getElem_cons_zero, List.setIfInBounds_toArray, List.set_cons_zero, List.set_cons_succ]
        refine wpAnyH_take (i := 1) (v := ?_) rfl (by kernel_rfl) (by kernel_rfl) (by kernel_rfl) (fun _ _ _ h => h) (Or.inl ⟨by rfl, ?_⟩) (by assumption) ?_
        rotate_left 1
        · (intro W hW; clear hW; go_simp; try with_reducible rfl)
        simp only [Act.put, List.getElem_toArray, List.getElem_cons_succ, List.getElem_cons_zero, List.setIfInBounds_toArray, List.set_cons_zero, List.set_cons_succ]
        refine wpAnyH_take (i := 2) (v := ?_) rfl (by kernel_rfl) (by kernel_rfl) (by kernel_rfl) (fun _ _ _ h => h) (Or.inl ⟨by rfl, ?_⟩) (by assumption) ?_
        rotate_left 1
        · (intro W hW; clear hW; go_simp; try with_reducible rfl)
        simp only [Act.put, List.getElem_toArray, List.getElem_cons_succ, List.getElem_cons_zero, List.setIfInBounds_toArray, List.set_cons_zero, List.set_cons_succ]
        refine wpAnyH_take (i := 3) (v := ?_) rfl (by kernel_rfl) (by kernel_rfl) (by kernel_rfl) (fun _ _ _ h => h) (Or.inl ⟨by rfl, ?_⟩) (by assumption) ?_
        rotate_left 1
        · (intro W hW; clear hW; go_simp; try with_reducible rfl)
        simp only [Act.put, List.getElem_toArray, List.getElem_cons_succ, List.getElem_cons_zero, List.setIfInBounds_toArray, List.set_cons_zero, List.set_cons_succ]
        refine wpAnyH_take (i := 4) (v := ?_) rfl (by kernel_rfl) (by kernel_rfl) (by kernel_rfl) (fun _ _ _ h => h) (Or.inl ⟨by rfl, ?_⟩) (by assumption) ?_
        rotate_left 1
        · (intro W hW; skip; go_simp; try with_reducible rfl)
        simp only [Act.put, List.getElem_toArray, List.getElem_cons_succ, List.getElem_cons_zero, List.setIfInBounds_toArray, List.set_cons_zero, List.set_cons_succ]
        refine wpAnyH_take (i := 5) (v := ?_) rfl (by kernel_rfl) (by kernel_rfl) (by kernel_rfl) (fun _ _ _ h => h) (Or.inl ⟨by rfl, ?_⟩) (by assumption) ?_
        rotate_left 1
        · (intro W hW; clear hW; go_simp; try with_reducible rfl)
        simp only [Act.put, List.getElem_toArray, List.getElem_cons_succ, List.getElem_cons_zero, List.setIfInBounds_toArray, List.set_cons_zero, List.set_cons_succ]
        refine wpAnyH_take (i := 6) (v := ?_) rfl (by kernel_rfl) (by kernel_rfl) (by kernel_rfl) (fun _ _ _ h => h) (Or.inl ⟨by rfl, ?_⟩) (by assumption) ?_
        rotate_left 1
        · (intro W hW; clear hW; go_simp; try with_reducible rfl)
        simp only [Act.put, List.getElem_toArray, List.getElem_cons_succ, List.getElem_cons_zero, List.setIfInBounds_toArray, List.set_cons_zero, List.set_cons_succ]
        refine wpAnyH_take (i := 7) (v := ?_) rfl (by kernel_rfl) (by kernel_rfl) (by kernel_rfl) (fun _ _ _ h => h) (Or.inl ⟨by rfl, ?_⟩) (by assumption) ?_
        rotate_left 1
        · (intro W hW; clear hW; go_simp; try with_reducible rfl)
        simp only [Act.put, List.getElem_toArray, List.getElem_cons_succ, List.getElem_cons_zero, List.setIfInBounds_toArray, List.set_cons_zero, List.set_cons_succ]
        refine wpAnyH_take (i := 8) (v := ?_) rfl (by kernel_rfl) (by kernel_rfl) (by kernel_rfl) (fun _ _ _ h => h) (Or.inl ⟨by rfl, ?_⟩) (by assumption) ?_
        rotate_left 1
        · (intro W hW; clear hW; go_simp; try with_reducible rfl)
        simp only [Act.put, List.getElem_toArray, List.getElem_cons_succ, List.getElem_cons_zero, List.setIfInBounds_toArray, List.set_cons_zero, List.set_cons_succ]
        refine wpAnyH_take (i := 9) (v := ?_) rfl (by kernel_rfl) (by kernel_rfl) (by kernel_rfl) (fun _ _ _ h => h) (Or.inl ⟨by rfl, ?_⟩) (by assumption) ?_
        rotate_left 1
        · (intro W hW; clear hW; go_simp; try with_reducible rfl)
        simp only [Act.put, List.getElem_toArray, List.getElem_cons_succ, List.getElem_cons_zero, List.setIfInBounds_toArray, List.set_cons_zero, List.set_cons_succ]
        refine wpAnyH_take (i := 10) (v := ?_) rfl (by kernel_rfl) (by kernel_rfl) (by kernel_rfl) (fun _ _ _ h => h) (Or.inl ⟨by rfl, ?_⟩) (by assumption) ?_
        rotate_left 1
        · (intro W hW; clear hW; go_simp; try with_reducible rfl)
        simp only [Act.put, List.getElem_toArray, List.getElem_cons_succ, List.getElem_cons_zero, List.setIfInBounds_toArray, List.set_cons_zero, List.set_cons_succ]
        refine wpAnyH_take (i := 11) (v := ?_) rfl (by kernel_rfl) (by kernel_rfl) (by kernel_rfl) (fun _ _ _ h => h) (Or.inl ⟨by rfl, ?_⟩) (by assumption) ?_
        rotate_left 1
        · (intro W hW; skip; go_simp; try with_reducible rfl)
        simp only [Act.put, List.getElem_toArray, List.getElem_cons_succ, List.getElem_cons_zero, List.setIfInBounds_toArray, List.set_cons_zero, List.set_cons_succ]
        refine wpAnyH_take (i := 12) (v := ?_) rfl (by kernel_rfl) (by kernel_rfl) (by kernel_rfl) (fun _ _ _ h => h) (Or.inl ⟨by rfl, ?_⟩) (by assumption) ?_
        rotate_left 1
        · (intro W hW; clear hW; go_simp; try with_reducible rfl)
        simp only [Act.put, List.getElem_toArray, List.getElem_cons_succ, List.getElem_cons_zero, List.setIfInBounds_toArray, List.set_cons_zero, List.set_cons_succ]
        refine wpAnyH_take (i := 13) (v := ?_) rfl (by kernel_rfl) (by kernel_rfl) (by kernel_rfl) (fun _ _ _ h => h) (Or.inl ⟨by rfl, ?_⟩) (by assumption) ?_
        rotate_left 1
        · (intro W hW; clear hW; go_simp; try with_reducible rfl)
        simp only [Act.put, List.getElem_toArray, List.getElem_cons_succ, List.getElem_cons_zero, List.setIfInBounds_toArray, List.set_cons_zero, List.set_cons_succ]
        refine wpAnyH_take (i := 14) (v := ?_) rfl (by kernel_rfl) (by kernel_rfl) (by kernel_rfl) (fun _ _ _ h => h) (Or.inl ⟨by rfl, ?_⟩) (by assumption) ?_
        rotate_left 1
        · (intro W hW; clear hW; go_simp; try with_reducible rfl)
        simp only [Act.put, List.getElem_toArray, List.getElem_cons_succ, List.getElem_cons_zero, List.setIfInBounds_toArray, List.set_cons_zero, List.set_cons_succ]
        refine wpAnyH_take (i := 15) (v := ?_) rfl (by kernel_rfl) (by kernel_rfl) (by kernel_rfl) (fun _ _ _ h => h) (Or.inl ⟨by rfl, ?_⟩) (by assumption) ?_
        rotate_left 1
        · (intro W hW; skip; go_simp; try with_reducible rfl)
        simp only [Act.put, List.getElem_toArray, List.getElem_cons_succ, List.getElem_cons_zero, List.setIfInBounds_toArray, List.set_cons_zero, List.set_cons_succ]
        refine wpAnyH_take (i := 16) (v := ?_) rfl (by kernel_rfl) (by kernel_rfl) (by kernel_rfl) (fun _ _ _ h => h) (Or.inl ⟨by rfl, ?_⟩) (by assumption) ?_
        rotate_left 1
        · (intro W hW; clear hW; go_simp; try with_reducible rfl)
        simp only [Act.put, List.getElem_toArray, List.getElem_cons_succ, List.getElem_cons_zero, List.setIfInBounds_toArray, List.set_cons_zero, List.set_cons_succ]
        refine wpAnyH_take (i := 17) (v := ?_) rfl (by kernel_rfl) (by kernel_rfl) (by kernel_rfl) (fun _ _ _ h => h) (Or.inl ⟨by rfl, ?_⟩) (by assumption) ?_
        rotate_left 1
        · (intro W hW; skip; go_simp; try with_reducible rfl)
        simp only [Act.put, List.getElem_toArray, List.getElem_cons_succ, List.getElem_cons_zero, List.setIfInBounds_toArray, List.set_cons_zero, List.set_cons_succ]
        refine wpAnyH_ready (rs := [18]) (by kernel_rfl) (by simp) ?_
        refine AllReadyH.cons rfl (fun K hK => ?_) AllReadyH.nil
        go_simp
        refine (Calls.since hq (HCL.out _)).mono ?_
        rintro e w2 ⟨rfl, hb2⟩
        go_wp2_with fail
        refine hK.out _ _ (hb2) (fun hHeld => ?_)
        clear hK K
        try simp only [Act.put, List.getElem_toArray, List.getElem_cons_succ, List.getElem_cons_zero, List.setIfInBounds_toArray, List.set_cons_zero, List.set_cons_succ]
        refine wpAnyH_take (i := 19) (v := ?_) rfl (by kernel_rfl) (by kernel_rfl) (by kernel_rfl) (fun _ _ _ h => h) (Or.inl ⟨by rfl, ?_⟩) (by assumption) ?_
        rotate_left 1
        · (intro W hW; clear hW; go_simp; try with_reducible rfl)
        simp only [Act.put, List.getElem_toArray, List.getElem_cons_succ, List.getElem_cons_zero, List.setIfInBounds_toArray, List.set_cons_zero, List.set_cons_succ]
        refine wpAnyH_take (i := 20) (v := ?_) rfl (by kernel_rfl) (by kernel_rfl) (by kernel_rfl) (fun _ _ _ h => h) (Or.inl ⟨by rfl, ?_⟩) (by assumption) ?_
        rotate_left 1
        · (intro W hW; clear hW; go_simp; try with_reducible rfl)
        simp only [Act.put, List.getElem_toArray, List.getElem_cons_succ, List.getElem_cons_zero, List.setIfInBounds_toArray, List.set_cons_zero, List.set_cons_succ]
        refine wpAnyH_done (by kernel_rfl) ?_ _
        go_wp2_with fail
        have hb3 := hs.trans hb2
        obtain ⟨wq, hwq⟩ : ∃ wq, wq = w2.drew := ⟨_, rfl⟩
        have hqs : Since wl wq := by rw [hwq]; exact hb3.drew
        refine wp_region_last (fun W' => Since wl W') 21 (by kernel_rfl) hb3.drew (fun hHeld => ?_)
        rw [← hwq] at hHeld ⊢
        clear hwq
        refine wpLast_take (i := 0) (v := ?_) rfl (by decide) (by kernel_rfl) (by kernel_rfl) (by kernel_rfl) (by kernel_rfl) (fun _ _ _ h => h) (Or.inl ⟨by rfl, ?_⟩) (by assumption) ?_
        rotate_left 1
        · (intro W hW; clear hW; go_simp; try with_reducible rfl)
        simp only [Act.put, List.getElem_toArray, List.getElem_cons_zero, List.setIfInBounds_toArray, List.set_cons_zero, List.set_cons_succ]
        refine wpLast_take (i := 2) (v := ?_) rfl (by decide) (by kernel_rfl) (by kernel_rfl) (by kernel_rfl) (by kernel_rfl) (fun _ _ _ h => h) (Or.inl ⟨by rfl, ?_⟩) (by assumption) ?_
        rotate_left 1
        · (intro W hW; clear hW; go_simp; try with_reducible rfl)
        simp only [Act.put, List.getElem_toArray, List.getElem_cons_succ, List.getElem_cons_zero, List.setIfInBounds_toArray, List.set_cons_zero, List.set_cons_succ]
        refine wpLast_take (i := 3) (v := ?_) rfl (by decide) (by kernel_rfl) (by kernel_rfl) (by kernel_rfl) (by kernel_rfl) (fun _ _ _ h => h) (Or.inl ⟨by rfl, ?_⟩) (by assumption) ?_
        rotate_left 1
        · (intro W hW; clear hW; go_simp; try with_reducible rfl)
        simp only [Act.put, List.getElem_toArray, List.getElem_cons_succ, List.getElem_cons_zero, List.setIfInBounds_toArray, List.set_cons_zero, List.set_cons_succ]
        refine wpLast_take (i := 4) (v := ?_) rfl (by decide) (by kernel_rfl) (by kernel_rfl) (by kernel_rfl) (by kernel_rfl) (fun _ _ _ h => h) (Or.inl ⟨by rfl, ?_⟩) (by assumption) ?_
        rotate_left 1
        · (intro W hW; clear hW; go_simp; try with_reducible rfl)
        simp only [Act.put, List.getElem_toArray, List.getElem_cons_succ, List.getElem_cons_zero, List.setIfInBounds_toArray, List.set_cons_zero, List.set_cons_succ]
        refine wpLast_take (i := 5) (v := ?_) rfl (by decide) (by kernel_rfl) (by kernel_rfl) (by kernel_rfl) (by kernel_rfl) (fun _ _ _ h => h) (Or.inl ⟨by rfl, ?_⟩) (by assumption) ?_
        rotate_left 1
        · (intro W hW; skip; go_simp; try with_reducible rfl)
        simp only [Act.put, List.getElem_toArray, List.getElem_cons_succ, List.getElem_cons_zero, List.setIfInBounds_toArray, List.set_cons_zero, List.set_cons_succ]
        refine wpLast_take (i := 6) (v := ?_) rfl (by decide) (by kernel_rfl) (by kernel_rfl) (by kernel_rfl) (by kernel_rfl) (fun _ _ _ h => h) (Or.inl ⟨by rfl, ?_⟩) (by assumption) ?_
        rotate_left 1
        · (intro W hW; clear hW; go_simp; try with_reducible rfl)
        simp only [Act.put, List.getElem_toArray, List.getElem_cons_succ, List.getElem_cons_zero, List.setIfInBounds_toArray, List.set_cons_zero, List.set_cons_succ]
        refine wpLast_take (i := 7) (v := ?_) rfl (by decide) (by kernel_rfl) (by kernel_rfl) (by kernel_rfl) (by kernel_rfl) (fun _ _ _ h => h) (Or.inl ⟨by rfl, ?_⟩) (by assumption) ?_
        rotate_left 1
        · (intro W hW; clear hW; go_simp; try with_reducible rfl)
        simp only [Act.put, List.getElem_toArray, List.getElem_cons_succ, List.getElem_cons_zero, List.setIfInBounds_toArray, List.set_cons_zero, List.set_cons_succ]
        refine wpLast_take (i := 9) (v := ?_) rfl (by decide) (by kernel_rfl) (by kernel_rfl) (by kernel_rfl) (by kernel_rfl) (fun _ _ _ h => h) (Or.inl ⟨by rfl, ?_⟩) (by assumption) ?_
        rotate_left 1
        · (intro W hW; skip; go_simp; try with_reducible rfl)
        simp only [Act.put, List.getElem_toArray, List.getElem_cons_succ, List.getElem_cons_zero, List.setIfInBounds_toArray, List.set_cons_zero, List.set_cons_succ]
        refine wpLast_take (i := 12) (v := ?_) rfl (by decide) (by kernel_rfl) (by kernel_rfl) (by kernel_rfl) (by kernel_rfl) (fun _ _ _ h => h) (Or.inl ⟨by rfl, ?_⟩) (by assumption) ?_
        rotate_left 1
        · (intro W hW; clear hW; go_simp; try with_reducible rfl)
        simp only [Act.put, List.getElem_toArray, List.getElem_cons_succ, List.getElem_cons_zero, List.setIfInBounds_toArray, List.set_cons_zero, List.set_cons_succ]
        refine wpLast_take (i := 13) (v := ?_) rfl (by decide) (by kernel_rfl) (by kernel_rfl) (by kernel_rfl) (by kernel_rfl) (fun _ _ _ h => h) (Or.inl ⟨by rfl, ?_⟩) (by assumption) ?_
        rotate_left 1
        · (intro W hW; clear hW; go_simp; try with_reducible rfl)
        simp only [Act.put, List.getElem_toArray, List.getElem_cons_succ, List.getElem_cons_zero, List.setIfInBounds_toArray, List.set_cons_zero, List.set_cons_succ]
        refine wpLast_take (i := 14) (v := ?_) rfl (by decide) (by kernel_rfl) (by kernel_rfl) (by kernel_rfl) (by kernel_rfl) (fun _ _ _ h => h) (Or.inl ⟨by rfl, ?_⟩) (by assumption) ?_
        rotate_left 1
        · (intro W hW; clear hW; go_simp; try with_reducible rfl)
        simp only [Act.put, List.getElem_toArray, List.getElem_cons_succ, List.getElem_cons_zero, List.setIfInBounds_toArray, List.set_cons_zero, List.set_cons_succ]
        refine wpLast_take (i := 15) (v := ?_) rfl (by decide) (by kernel_rfl) (by kernel_rfl) (by kernel_rfl) (by kernel_rfl) (fun _ _ _ h => h) (Or.inl ⟨by rfl, ?_⟩) (by assumption) ?_
        rotate_left 1
        · (intro W hW; skip; go_simp; try with_reducible rfl)
        simp only [Act.put, List.getElem_toArray, List.getElem_cons_succ, List.getElem_cons_zero, List.setIfInBounds_toArray, List.set_cons_zero, List.set_cons_succ]
        refine wpLast_take (i := 16) (v := ?_) rfl (by decide) (by kernel_rfl) (by kernel_rfl) (by kernel_rfl) (by kernel_rfl) (fun _ _ _ h => h) (Or.inl ⟨by rfl, ?_⟩) (by assumption) ?_
        rotate_left 1
        · (intro W hW; clear hW; go_simp; try with_reducible rfl)
        simp only [Act.put, List.getElem_toArray, List.getElem_cons_succ, List.getElem_cons_zero, List.setIfInBounds_toArray, List.set_cons_zero, List.set_cons_succ]
        refine wpLast_take (i := 17) (v := ?_) rfl (by decide) (by kernel_rfl) (by kernel_rfl) (by kernel_rfl) (by kernel_rfl) (fun _ _ _ h => h) (Or.inl ⟨by rfl, ?_⟩) (by assumption) ?_
        rotate_left 1
        · (intro W hW; clear hW; go_simp; try with_reducible rfl)
        simp only [Act.put, List.getElem_toArray, List.getElem_cons_succ, List.getElem_cons_zero, List.setIfInBounds_toArray, List.set_cons_zero, List.set_cons_succ]
        refine wpLast_ready (rs := [1, 10]) (by kernel_rfl) (by simp) ?_
        refine LastReady.cons rfl (fun K hK => ?_) (LastReady.cons rfl (fun K hK => ?_) LastReady.nil)
        · go_simp
          have hrow0 := RowE.empty (enc := encT) (n := 3) wq 53
          have hsx : Since wl (wq.alloc (.cells #[] 53)) := hqs.alloc _
          refine hK.out _ _ (fun _ => hsx) (fun hHeld => ?_)
          replace hHeld := hHeld (by decide)
          clear hK K
          try simp only [Act.put, List.getElem_toArray, List.getElem_cons_succ, List.getElem_cons_zero, List.setIfInBounds_toArray, List.set_cons_zero, List.set_cons_succ]
          refine wpLast_ready (rs := [8, 10]) (by kernel_rfl) (by simp) ?_
          refine LastReady.cons rfl (fun K hK => ?_) (LastReady.cons rfl (fun K hK => ?_) LastReady.nil)
          · refine step_append_val rfl (.tmp 29) (.tmp 35) 22 rfl wq.heap.size 53 _ 24 Try.underlying22 infoR5 rfl (by decide) hrow0 ((H.out.row.since hsx).take encT_len (by omega)) encT_len encT_one rfl rfl (by simp only [List.length_append, List.length_take, List.length_drop, List.length_cons, List.length_nil]; omega) (by decide) (by simp only [World.size_alloc]; omega) ?_
            intro V3 w3 hrow3 hoff3
            have hs3 : Since wl w3 := hoff3.since_of hsx (fun x e => by have := (hrow0.own x e).1; have := hqs.size; omega)
            have hz3 : wq.heap.size ≤ w3.heap.size := by have := hoff3.size; (try simp at this); omega
            refine hK.out _ _ (fun _ => hs3) (fun hHeld => ?_)
            replace hHeld := hHeld (by decide)
            clear hK K
            try simp only [Act.put, List.getElem_toArray, List.getElem_cons_succ, List.getElem_cons_zero, List.setIfInBounds_toArray, List.set_cons_zero, List.set_cons_succ]
            refine wpLast_ready (rs := [10]) (by kernel_rfl) (by simp) ?_
            refine LastReady.cons rfl (fun K hK => ?_) LastReady.nil
            go_simp
            have hw5 := Whole.new w3 53 #[.int .i64 d, .int .i64 b, .int .i64 who]
            replace hrow3 := hrow3.alloc (.cells #[.int .i64 d, .int .i64 b, .int .i64 who] 53)
            replace hs3 := hs3.alloc (.cells #[.int .i64 d, .int .i64 b, .int .i64 who] 53)
            refine hK.out _ _ (fun _ => hs3) (fun hHeld => ?_)
            replace hHeld := hHeld (by decide)
            clear hK K
            try simp only [Act.put, List.getElem_toArray, List.getElem_cons_succ, List.getElem_cons_zero, List.setIfInBounds_toArray, List.set_cons_zero, List.set_cons_succ]
            refine wpLast_ready (rs := [11]) (by kernel_rfl) (by simp) ?_
            refine LastReady.cons rfl (fun K hK => ?_) LastReady.nil
            refine step_append_val rfl (.tmp 36) (.tmp 38) 22 rfl wq.heap.size 53 _ 24 Try.underlying22 infoR5 rfl (by decide) hrow3 (PartE.one (r := (⟨d, b, who⟩ : Tl)) hw5) encT_len encT_one rfl rfl (by simp only [List.length_append, List.length_take, List.length_drop, List.length_cons, List.length_nil]; omega) (by decide) (by simp; omega) ?_
            intro V4 w4 hrow4 hoff4
            have hs4 : Since wl w4 := hoff4.since_of hs3 (fun x e => by have := (hrow3.own x e).1; have := hqs.size; omega)
            have hz4 : wq.heap.size ≤ w4.heap.size := by have := hoff4.size; (try simp at this); omega
            refine hK.out _ _ (fun _ => hs4) (fun hHeld => ?_)
            replace hHeld := hHeld (by decide)
            clear hK K
            try simp only [Act.put, List.getElem_toArray, List.getElem_cons_succ, List.getElem_cons_zero, List.setIfInBounds_toArray, List.set_cons_zero, List.set_cons_succ]
            refine wpLast_ready (rs := [18]) (by kernel_rfl) (by simp) ?_
            refine LastReady.cons rfl (fun K hK => ?_) LastReady.nil
            refine step_append_val rfl (.tmp 39) (.tmp 45) 22 rfl wq.heap.size 53 _ 24 Try.underlying22 infoR5 rfl (by decide) hrow4 ((H.out.row.since hs4).drop2 encT_len hcap) encT_len encT_one rfl rfl (by simp only [List.length_append, List.length_take, List.length_drop, List.length_cons, List.length_nil]; omega) (by decide) hz4 ?_
            intro V5 w5 hrow5 hoff5
            obtain ⟨va5, vn5, vc5, rfl⟩ := hrow5.shape3
            have hs5 : Since wl w5 := hoff5.since_of hs4 (fun x e => by have := (hrow4.own x e).1; have := hqs.size; omega)
            have hw6 := Since.whole hs5 H.out.box
            have x5 := hw6.cell 1
            have y5 := hw6.frozen 1
            have hfin := H.out.store hs5 hqs.size hrow5
            refine hK.out _ _ (fun _ => hs5) (fun hHeld => ?_)
            replace hHeld := hHeld (by decide)
            clear hK K
            try simp only [Act.put, List.getElem_toArray, List.getElem_cons_succ, List.getElem_cons_zero, List.setIfInBounds_toArray, List.set_cons_zero, List.set_cons_succ]
            refine wpLast_take (i := 19) (v := ?_) rfl (by decide) (by kernel_rfl) (by kernel_rfl) (by kernel_rfl) (by kernel_rfl) (fun _ _ _ h => h) (Or.inl ⟨by rfl, ?_⟩) (by assumption) ?_
            rotate_left 1
            · (intro W hW; clear hW; go_simp; try with_reducible rfl)
            simp only [Act.put, List.getElem_toArray, List.getElem_cons_succ, List.getElem_cons_zero, List.setIfInBounds_toArray, List.set_cons_zero, List.set_cons_succ]
            refine wpLast_take (i := 20) (v := ?_) rfl (by decide) (by kernel_rfl) (by kernel_rfl) (by kernel_rfl) (by kernel_rfl) (fun _ _ _ h => h) (Or.inl ⟨by rfl, ?_⟩) (by assumption) ?_
            rotate_left 1
            · (intro W hW; clear hW; go_simp; try with_reducible rfl)
            simp only [Act.put, List.getElem_toArray, List.getElem_cons_succ, List.getElem_cons_zero, List.setIfInBounds_toArray, List.set_cons_zero, List.set_cons_succ]
            refine wpLast_ready (rs := [21]) (by kernel_rfl) (by simp) ?_
            refine LastReady.cons rfl (fun K hK => ?_) LastReady.nil
            go_simp
            skip
            refine hK.out _ _ (fun h => absurd rfl h) (fun hHeld => ?_)
            clear hK K
            try simp only [Act.put, List.getElem_toArray, List.getElem_cons_succ, List.getElem_cons_zero, List.setIfInBounds_toArray, List.set_cons_zero, List.set_cons_succ]
            refine wpLast_done (by kernel_rfl) ?_ _
            have hfin2 := hfin
            simp only [List.nil_append] at hfin2
            rw [take_to hn.out] at hfin2
            go_end0
            exact ⟨rfl, ⟨_, hfin2.1⟩, (Since.off HS0.out _).trans hfin2.2 (fun _ _ z => z)⟩
          · go_simp
            have hw5 := Whole.new (wq.alloc (.cells #[] 53)) 53 #[.int .i64 d, .int .i64 b, .int .i64 who]
            rw [World.size_alloc] at hw5
            replace hrow0 := hrow0.alloc (.cells #[.int .i64 d, .int .i64 b, .int .i64 who] 53)
            replace hsx := hsx.alloc (.cells #[.int .i64 d, .int .i64 b, .int .i64 who] 53)
            refine hK.out _ _ (fun _ => hsx) (fun hHeld => ?_)
            replace hHeld := hHeld (by decide)
            clear hK K
            try simp only [Act.put, List.getElem_toArray, List.getElem_cons_succ, List.getElem_cons_zero, List.setIfInBounds_toArray, List.set_cons_zero, List.set_cons_succ]
            refine wpLast_ready (rs := [8]) (by kernel_rfl) (by simp) ?_
            refine LastReady.cons rfl (fun K hK => ?_) LastReady.nil
            refine step_append_val rfl (.tmp 29) (.tmp 35) 22 rfl wq.heap.size 53 _ 24 Try.underlying22 infoR5 rfl (by decide) hrow0 ((H.out.row.since hsx).take encT_len (by omega)) encT_len encT_one rfl rfl (by simp only [List.length_append, List.length_take, List.length_drop, List.length_cons, List.length_nil]; omega) (by decide) (by simp only [World.size_alloc]; omega) ?_
            intro V3 w3 hrow3 hoff3
            have hs3 : Since wl w3 := hoff3.since_of hsx (fun x e => by have := (hrow0.own x e).1; have := hqs.size; omega)
            have hz3 : wq.heap.size ≤ w3.heap.size := by have := hoff3.size; (try simp at this); omega
            replace hw5 := hoff3.whole hw5 (by simp [Value.ownBlock])
            refine hK.out _ _ (fun _ => hs3) (fun hHeld => ?_)
            replace hHeld := hHeld (by decide)
            clear hK K
            try simp only [Act.put, List.getElem_toArray, List.getElem_cons_succ, List.getElem_cons_zero, List.setIfInBounds_toArray, List.set_cons_zero, List.set_cons_succ]
            refine wpLast_ready (rs := [11]) (by kernel_rfl) (by simp) ?_
            refine LastReady.cons rfl (fun K hK => ?_) LastReady.nil
            refine step_append_val rfl (.tmp 36) (.tmp 38) 22 rfl wq.heap.size 53 _ 24 Try.underlying22 infoR5 rfl (by decide) hrow3 (PartE.one (r := (⟨d, b, who⟩ : Tl)) hw5) encT_len encT_one rfl rfl (by simp only [List.length_append, List.length_take, List.length_drop, List.length_cons, List.length_nil]; omega) (by decide) hz3 ?_
            intro V4 w4 hrow4 hoff4
            have hs4 : Since wl w4 := hoff4.since_of hs3 (fun x e => by have := (hrow3.own x e).1; have := hqs.size; omega)
            have hz4 : wq.heap.size ≤ w4.heap.size := by have := hoff4.size; (try simp at this); omega
            refine hK.out _ _ (fun _ => hs4) (fun hHeld => ?_)
            replace hHeld := hHeld (by decide)
            clear hK K
            try simp only [Act.put, List.getElem_toArray, List.getElem_cons_succ, List.getElem_cons_zero, List.setIfInBounds_toArray, List.set_cons_zero, List.set_cons_succ]
            refine wpLast_ready (rs := [18]) (by kernel_rfl) (by simp) ?_
            refine LastReady.cons rfl (fun K hK => ?_) LastReady.nil
            refine step_append_val rfl (.tmp 39) (.tmp 45) 22 rfl wq.heap.size 53 _ 24 Try.underlying22 infoR5 rfl (by decide) hrow4 ((H.out.row.since hs4).drop2 encT_len hcap) encT_len encT_one rfl rfl (by simp only [List.length_append, List.length_take, List.length_drop, List.length_cons, List.length_nil]; omega) (by decide) hz4 ?_
            intro V5 w5 hrow5 hoff5
            obtain ⟨va5, vn5, vc5, rfl⟩ := hrow5.shape3
            have hs5 : Since wl w5 := hoff5.since_of hs4 (fun x e => by have := (hrow4.own x e).1; have := hqs.size; omega)
            have hw6 := Since.whole hs5 H.out.box
            have x5 := hw6.cell 1
            have y5 := hw6.frozen 1
            have hfin := H.out.store hs5 hqs.size hrow5
            refine hK.out _ _ (fun _ => hs5) (fun hHeld => ?_)
            replace hHeld := hHeld (by decide)
            clear hK K
            try simp only [Act.put, List.getElem_toArray, List.getElem_cons_succ, List.getElem_cons_zero, List.setIfInBounds_toArray, List.set_cons_zero, List.set_cons_succ]
            refine wpLast_take (i := 19) (v := ?_) rfl (by decide) (by kernel_rfl) (by kernel_rfl) (by kernel_rfl) (by kernel_rfl) (fun _ _ _ h => h) (Or.inl ⟨by rfl, ?_⟩) (by assumption) ?_
            rotate_left 1
            · (intro W hW; clear hW; go_simp; try with_reducible rfl)
            simp only [Act.put, List.getElem_toArray, List.getElem_cons_succ, List.getElem_cons_zero, List.setIfInBounds_toArray, List.set_cons_zero, List.set_cons_succ]
            refine wpLast_take (i := 20) (v := ?_) rfl (by decide) (by kernel_rfl) (by kernel_rfl) (by kernel_rfl) (by kernel_rfl) (fun _ _ _ h => h) (Or.inl ⟨by rfl, ?_⟩) (by assumption) ?_
            rotate_left 1
            · (intro W hW; clear hW; go_simp; try with_reducible rfl)
            simp only [Act.put, List.getElem_toArray, List.getElem_cons_succ, List.getElem_cons_zero, List.setIfInBounds_toArray, List.set_cons_zero, List.set_cons_succ]
            refine wpLast_ready (rs := [21]) (by kernel_rfl) (by simp) ?_
            refine LastReady.cons rfl (fun K hK => ?_) LastReady.nil
            go_simp
            skip
            refine hK.out _ _ (fun h => absurd rfl h) (fun hHeld => ?_)
            clear hK K
            try simp only [Act.put, List.getElem_toArray, List.getElem_cons_succ, List.getElem_cons_zero, List.setIfInBounds_toArray, List.set_cons_zero, List.set_cons_succ]
            refine wpLast_done (by kernel_rfl) ?_ _
            have hfin2 := hfin
            simp only [List.nil_append] at hfin2
            rw [take_to hn.out] at hfin2
            go_end0
            exact ⟨rfl, ⟨_, hfin2.1⟩, (Since.off HS0.out _).trans hfin2.2 (fun _ _ z => z)⟩
        · go_simp
          have hw5 := Whole.new wq 53 #[.int .i64 d, .int .i64 b, .int .i64 who]
          refine hK.out _ _ (fun _ => hqs.alloc _) (fun hHeld => ?_)
          replace hHeld := hHeld (by decide)
          clear hK K
          try simp only [Act.put, List.getElem_toArray, List.getElem_cons_succ, List.getElem_cons_zero, List.setIfInBounds_toArray, List.set_cons_zero, List.set_cons_succ]
          refine wpLast_ready (rs := [1]) (by kernel_rfl) (by simp) ?_
          refine LastReady.cons rfl (fun K hK => ?_) LastReady.nil
          go_simp
          have hrow0 := RowE.empty (enc := encT) (n := 3) (wq.alloc (.cells #[.int .i64 d, .int .i64 b, .int .i64 who] 53)) 53
          rw [World.size_alloc] at hrow0
          replace hrow0 := hrow0.mono (base' := wq.heap.size) (by omega)
          replace hw5 := hw5.alloc (.cells #[] 53)
          have hsx : Since wl ((wq.alloc (.cells #[.int .i64 d, .int .i64 b, .int .i64 who] 53)).alloc (.cells #[] 53)) := (hqs.alloc _).alloc _
          refine hK.out _ _ (fun _ => hsx) (fun hHeld => ?_)
          replace hHeld := hHeld (by decide)
          clear hK K
          try simp only [Act.put, List.getElem_toArray, List.getElem_cons_succ, List.getElem_cons_zero, List.setIfInBounds_toArray, List.set_cons_zero, List.set_cons_succ]
          refine wpLast_ready (rs := [8]) (by kernel_rfl) (by simp) ?_
          refine LastReady.cons rfl (fun K hK => ?_) LastReady.nil
          refine step_append_val rfl (.tmp 29) (.tmp 35) 22 rfl wq.heap.size 53 _ 24 Try.underlying22 infoR5 rfl (by decide) hrow0 ((H.out.row.since hsx).take encT_len (by omega)) encT_len encT_one rfl rfl (by simp only [List.length_append, List.length_take, List.length_drop, List.length_cons, List.length_nil]; omega) (by decide) (by simp only [World.size_alloc]; omega) ?_
          intro V3 w3 hrow3 hoff3
          have hs3 : Since wl w3 := hoff3.since_of hsx (fun x e => by have := (hrow0.own x e).1; have := hqs.size; omega)
          have hz3 : wq.heap.size ≤ w3.heap.size := by have := hoff3.size; (try simp at this); omega
          replace hw5 := hoff3.whole hw5 (by simp [Value.ownBlock])
          refine hK.out _ _ (fun _ => hs3) (fun hHeld => ?_)
          replace hHeld := hHeld (by decide)
          clear hK K
          try simp only [Act.put, List.getElem_toArray, List.getElem_cons_succ, List.getElem_cons_zero, List.setIfInBounds_toArray, List.set_cons_zero, List.set_cons_succ]
          refine wpLast_ready (rs := [11]) (by kernel_rfl) (by simp) ?_
          refine LastReady.cons rfl (fun K hK => ?_) LastReady.nil
          refine step_append_val rfl (.tmp 36) (.tmp 38) 22 rfl wq.heap.size 53 _ 24 Try.underlying22 infoR5 rfl (by decide) hrow3 (PartE.one (r := (⟨d, b, who⟩ : Tl)) hw5) encT_len encT_one rfl rfl (by simp only [List.length_append, List.length_take, List.length_drop, List.length_cons, List.length_nil]; omega) (by decide) hz3 ?_
          intro V4 w4 hrow4 hoff4
          have hs4 : Since wl w4 := hoff4.since_of hs3 (fun x e => by have := (hrow3.own x e).1; have := hqs.size; omega)
          have hz4 : wq.heap.size ≤ w4.heap.size := by have := hoff4.size; (try simp at this); omega
          refine hK.out _ _ (fun _ => hs4) (fun hHeld => ?_)
          replace hHeld := hHeld (by decide)
          clear hK K
          try simp only [Act.put, List.getElem_toArray, List.getElem_cons_succ, List.getElem_cons_zero, List.setIfInBounds_toArray, List.set_cons_zero, List.set_cons_succ]
          refine wpLast_ready (rs := [18]) (by kernel_rfl) (by simp) ?_
          refine LastReady.cons rfl (fun K hK => ?_) LastReady.nil
          refine step_append_val rfl (.tmp 39) (.tmp 45) 22 rfl wq.heap.size 53 _ 24 Try.underlying22 infoR5 rfl (by decide) hrow4 ((H.out.row.since hs4).drop2 encT_len hcap) encT_len encT_one rfl rfl (by simp only [List.length_append, List.length_take, List.length_drop, List.length_cons, List.length_nil]; omega) (by decide) hz4 ?_
          intro V5 w5 hrow5 hoff5
          obtain ⟨va5, vn5, vc5, rfl⟩ := hrow5.shape3
          have hs5 : Since wl w5 := hoff5.since_of hs4 (fun x e => by have := (hrow4.own x e).1; have := hqs.size; omega)
          have hw6 := Since.whole hs5 H.out.box
          have x5 := hw6.cell 1
          have y5 := hw6.frozen 1
          have hfin := H.out.store hs5 hqs.size hrow5
          refine hK.out _ _ (fun _ => hs5) (fun hHeld => ?_)
          replace hHeld := hHeld (by decide)
          clear hK K
          try simp only [Act.put, List.getElem_toArray, List.getElem_cons_succ, List.getElem_cons_zero, List.setIfInBounds_toArray, List.set_cons_zero, List.set_cons_succ]
          refine wpLast_take (i := 19) (v := ?_) rfl (by decide) (by kernel_rfl) (by kernel_rfl) (by kernel_rfl) (by kernel_rfl) (fun _ _ _ h => h) (Or.inl ⟨by rfl, ?_⟩) (by assumption) ?_
          rotate_left 1
          · (intro W hW; clear hW; go_simp; try with_reducible rfl)
          simp only [Act.put, List.getElem_toArray, List.getElem_cons_succ, List.getElem_cons_zero, List.setIfInBounds_toArray, List.set_cons_zero, List.set_cons_succ]
          refine wpLast_take (i := 20) (v := ?_) rfl (by decide) (by kernel_rfl) (by kernel_rfl) (by kernel_rfl) (by kernel_rfl) (fun _ _ _ h => h) (Or.inl ⟨by rfl, ?_⟩) (by assumption) ?_
          rotate_left 1
          · (intro W hW; clear hW; go_simp; try with_reducible rfl)
          simp only [Act.put, List.getElem_toArray, List.getElem_cons_succ, List.getElem_cons_zero, List.setIfInBounds_toArray, List.set_cons_zero, List.set_cons_succ]
          refine wpLast_ready (rs := [21]) (by kernel_rfl) (by simp) ?_
          refine LastReady.cons rfl (fun K hK => ?_) LastReady.nil
          go_simp
          skip
          refine hK.out _ _ (fun h => absurd rfl h) (fun hHeld => ?_)
          clear hK K
          try simp only [Act.put, List.getElem_toArray, List.getElem_cons_succ, List.getElem_cons_zero, List.setIfInBounds_toArray, List.set_cons_zero, List.set_cons_succ]
          refine wpLast_done (by kernel_rfl) ?_ _
          have hfin2 := hfin
          simp only [List.nil_append] at hfin2
          rw [take_to hn.out] at hfin2
          go_end0
          exact ⟨rfl, ⟨_, hfin2.1⟩, (Since.off HS0.out _).trans hfin2.2 (fun _ _ z => z)⟩
end Go.Proofs.Ytgnhamhkpbadbaa
namespace Go.Proofs.Ytgnhamhkpbadbaa
open Go.RowKit
set_option linter.unusedVariables false
set_option linter.unusedSimpArgs false
theorem atG_cases (d b : Int) : ∀ (L : List Tl) (m : Nat), (atG d b L m = -1 ∧ hasT L d b = false) ∨ ∃ i, i < L.length ∧ atG d b L m = (m + i : Nat) ∧ hasT L d b = true ∧ (∃ t, L[i]? = some t ∧ t.d = d ∧ t.b = b)
  | [], m => .inl ⟨rfl, rfl⟩
  | t :: l, m => by
    unfold atG
    by_cases h : t.d = d ∧ t.b = b
    · rw [if_pos h]
      exact .inr ⟨0, by simp, rfl, by simp [hasT, h.1, h.2], t, rfl, h.1, h.2⟩
    · rw [if_neg h]
      rcases atG_cases d b l (m + 1) with ⟨h1, h2⟩ | ⟨i, h1, h2, h3, h4⟩
      · refine .inl ⟨h1, ?_⟩
        unfold hasT at h2 ⊢
        rw [List.any_cons, h2, Bool.or_false]
        simpa using h
      · refine .inr ⟨i + 1, by rw [List.length_cons]; omega, by rw [h2]; congr 1; omega, ?_, h4⟩
        unfold hasT at h3 ⊢
        rw [List.any_cons, h3, Bool.or_true]
/-- Drop, Give of a list, by places. -/
def dropG (L : List Tl) (d b : Int) : Int × List Tl := if atG d b L 0 < 0 then (3, L) else (0, L.take (atG d b L 0).toNat ++ L.drop ((atG d b L 0).toNat + 1))
def giveG (L : List Tl) (d b who : Int) : Int × List Tl := if atG d b L 0 < 0 then (3, L) else (0, L.take (atG d b L 0).toNat ++ [⟨d, b, who⟩] ++ L.drop ((atG d b L 0).toNat + 1))
/-- Behind a change of the document's tiling. -/
def RefC (gr : Nat) (k : Int) (r : Int × List Tl) (w : World) (e : Ending) (W' : World) : Prop := e = .returned (.int .i64 r.1) ∧ (∃ v', RefO gr k r.2 v' W') ∧ Off (fun b => b = gr) w W'
set_option maxRecDepth 100000 in
set_option maxHeartbeats 1600000 in
theorem refDrop_any {gr : Nat} {k : Int} {L : List Tl} {v : Value} {w : World} (h : RefO gr k L v w) (d b : Int) (hm : L.length ≤ 1000) : Calls Try.prog 52 #[.pointer (some ⟨gr, 0, none⟩), .agg #[.int .i64 d, .int .i64 b]] w (RefC gr k (dropG L d b) w) := by
  have hat := fun W (hW : Since w W) => refAtL_any (h.since hW) d b hm
  obtain ⟨wl, hwl⟩ : ∃ wl, wl = w.alloc (.cells #[.int .i64 d, .int .i64 b] 27) := ⟨_, rfl⟩
  have hs0 : Since w wl := by rw [hwl]; exact (Since.refl w).alloc _
  have wh0 : Whole wl w.heap.size 27 #[.int .i64 d, .int .i64 b] := by rw [hwl]; exact Whole.new w _ _
  have x0 := wh0.cell 0
  have y0 := wh0.frozen 0
  have x1 := wh0.cell 1
  have y1 := wh0.frozen 1
  rcases atG_cases d b L 0 with ⟨e1, e2⟩ | ⟨i, e1, e2, e3, _⟩
  · have hr : dropG L d b = (3, L) := by unfold dropG; rw [if_pos (by rw [e1]; decide)]
    rw [hr]
    rw [e1] at hat
    have HAT := Lib.hid hat
    have H := Lib.hid h
    have HS0 := Lib.hid hs0
    clear hr e1 e2 hat h
    go_enter Try.func52, Try.ntmps52
    go_wp2_with fail
    rw [← hwl]
    go_wp2_with (go_at_call 65; (with_reducible refine (HAT.out _ (by assumption)).mono ?_); rintro e w2 ⟨rfl, hb2⟩)
    go_ret
    exact ⟨rfl, ⟨_, H.out.since (HS0.out.trans hb2)⟩, (HS0.out.trans hb2).off _⟩
  · have hr : dropG L d b = (0, L.take i ++ L.drop (i + 1)) := by
      unfold dropG
      rw [if_neg (by rw [e2]; omega), e2]
      simp
    rw [hr]
    rw [e2, Nat.zero_add] at hat
    have HAT := Lib.hid hat
    have HCU := Lib.hid (fun W (hW : Since w W) => refCut_any (h.since hW) i e1 hm)
    have HS0 := Lib.hid hs0
    have di : decide ((i : Int) < 0) = false := decide_eq_false (by omega)
    clear hr e1 e2 hat h
    go_enter Try.func52, Try.ntmps52
    go_wp2_with fail
    rw [← hwl]
    go_wp2_with (first | (go_at_call 65; (with_reducible refine (HAT.out _ (by assumption)).mono ?_); rintro e w2 ⟨rfl, hb2⟩; have hb2s := Since.trans hs0 hb2) | (go_at_call 101; (with_reducible refine (HCU.out _ (by assumption)).mono ?_); rintro e w3 ⟨rfl, g3, o3⟩))
    go_ret
    exact ⟨rfl, g3, (Since.off (HS0.out.trans hb2) _).trans o3 (fun _ _ z => z)⟩
set_option maxRecDepth 100000 in
set_option maxHeartbeats 1600000 in
theorem refGive_any {gr : Nat} {k : Int} {L : List Tl} {v : Value} {w : World} (h : RefO gr k L v w) (d b who : Int) (hm : L.length ≤ 1000) : Calls Try.prog 57 #[.pointer (some ⟨gr, 0, none⟩), .agg #[.int .i64 d, .int .i64 b], .int .i64 who] w (RefC gr k (giveG L d b who) w) := by
  have hat := fun W (hW : Since w W) => refAtL_any (h.since hW) d b hm
  obtain ⟨wl, hwl⟩ : ∃ wl, wl = w.alloc (.cells #[.int .i64 d, .int .i64 b] 27) := ⟨_, rfl⟩
  have hs0 : Since w wl := by rw [hwl]; exact (Since.refl w).alloc _
  have wh0 : Whole wl w.heap.size 27 #[.int .i64 d, .int .i64 b] := by rw [hwl]; exact Whole.new w _ _
  have x0 := wh0.cell 0
  have y0 := wh0.frozen 0
  have x1 := wh0.cell 1
  have y1 := wh0.frozen 1
  have p0 := box_cell wh0 0 (.int .i64 d) rfl
  have p1 := box_cell wh0 1 (.int .i64 b) rfl
  rcases atG_cases d b L 0 with ⟨e1, e2⟩ | ⟨i, e1, e2, e3, _⟩
  · have hr : giveG L d b who = (3, L) := by unfold giveG; rw [if_pos (by rw [e1]; decide)]
    rw [hr]
    rw [e1] at hat
    have HAT := Lib.hid hat
    have H := Lib.hid h
    have HS0 := Lib.hid hs0
    clear hr e1 e2 hat h
    go_enter Try.func57, Try.ntmps57
    go_wp2_with fail
    rw [← hwl]
    go_wp2_with (go_at_call 65; (with_reducible refine (HAT.out _ (by assumption)).mono ?_); rintro e w2 ⟨rfl, hb2⟩)
    go_ret
    exact ⟨rfl, ⟨_, H.out.since (HS0.out.trans hb2)⟩, (HS0.out.trans hb2).off _⟩
  · have hr : giveG L d b who = (0, L.take i ++ [⟨d, b, who⟩] ++ L.drop (i + 1)) := by
      unfold giveG
      rw [if_neg (by rw [e2]; omega), e2]
      simp
    rw [hr]
    obtain ⟨R, hR⟩ : ∃ R, R = L.take i ++ [⟨d, b, who⟩] ++ L.drop (i + 1) := ⟨_, rfl⟩
    rw [← hR]
    have HR := Lib.hid hR
    clear hR
    rw [e2, Nat.zero_add] at hat
    obtain ⟨g, vc, rfl, hcap, hcm⟩ := h.form e1
    have hbx := h.box
    have c0 := box_cell hbx 1 (.slice (some ⟨g, 0, none⟩) L.length vc) rfl
    have c1 := fun W (hW : Since wl W) => c0 W (hs0.trans hW)
    have H := Lib.hid (h.since hs0)
    have HAT := Lib.hid hat
    have HS0 := Lib.hid hs0
    have di : decide ((i : Int) < 0) = false := decide_eq_false (by omega)
    have hic : i ≤ vc := by omega
    have hi0 : (0 : Int) ≤ (i : Int) := by omega
    have hi1 : IntKind.i64.wrap ((i : Int) + 1) = (i : Int) + 1 := IntWalk.i64_in _ (by omega)
    have hi2 : (0 : Int) ≤ (i : Int) + 1 := by omega
    have hi3 : (i : Int) + 1 ≤ (L.length : Int) := by omega
    clear hr e2 hat h hbx c0
    go_enter Try.func57, Try.ntmps57
    go_wp2_with fail
    rw [← hwl]
    go_wp2_with (go_at_call 65; (with_reducible refine (HAT.out _ (by assumption)).mono ?_); rintro e w2 ⟨rfl, hb2⟩)
    have hb3 : Since wl w2 := hb2
    clear HAT hs0 x0 x1 y0 y1 hwl e3
    obtain ⟨wq, hwq⟩ : ∃ wq, wq = w2.drew := ⟨_, rfl⟩
    have hqs : Since wl wq := by rw [hwq]; exact hb3.drew
    refine wp_region_last (fun W' => Since wl W') 24 (by kernel_rfl) hb3.drew (fun hHeld => ?_)
    rw [← hwq] at hHeld ⊢
    clear hwq
    refine wpLast_take (i := 0) (v := ?_) rfl (by decide) (by kernel_rfl) (by kernel_rfl) (by kernel_rfl) (by kernel_rfl) (fun _ _ _ h => h) (Or.inl ⟨by rfl, ?_⟩) (by assumption) ?_
    rotate_left 1
    · (intro W hW; clear hW; go_simp; try with_reducible rfl)
    simp only [Act.put, List.getElem_toArray, List.getElem_cons_zero, List.setIfInBounds_toArray, List.set_cons_zero, List.set_cons_succ]
    refine wpLast_take (i := 2) (v := ?_) rfl (by decide) (by kernel_rfl) (by kernel_rfl) (by kernel_rfl) (by kernel_rfl) (fun _ _ _ h => h) (Or.inl ⟨by rfl, ?_⟩) (by assumption) ?_
    rotate_left 1
    · (intro W hW; clear hW; go_simp; try with_reducible rfl)
    simp only [Act.put, List.getElem_toArray, List.getElem_cons_succ, List.getElem_cons_zero, List.setIfInBounds_toArray, List.set_cons_zero, List.set_cons_succ]
    refine wpLast_take (i := 3) (v := ?_) rfl (by decide) (by kernel_rfl) (by kernel_rfl) (by kernel_rfl) (by kernel_rfl) (fun _ _ _ h => h) (Or.inl ⟨by rfl, ?_⟩) (by assumption) ?_
    rotate_left 1
    · (intro W hW; clear hW; go_simp; try with_reducible rfl)
    simp only [Act.put, List.getElem_toArray, List.getElem_cons_succ, List.getElem_cons_zero, List.setIfInBounds_toArray, List.set_cons_zero, List.set_cons_succ]
    refine wpLast_take (i := 4) (v := ?_) rfl (by decide) (by kernel_rfl) (by kernel_rfl) (by kernel_rfl) (by kernel_rfl) (fun _ _ _ h => h) (Or.inl ⟨by rfl, ?_⟩) (by assumption) ?_
    rotate_left 1
    · (intro W hW; clear hW; go_simp; try with_reducible rfl)
    simp only [Act.put, List.getElem_toArray, List.getElem_cons_succ, List.getElem_cons_zero, List.setIfInBounds_toArray, List.set_cons_zero, List.set_cons_succ]
    refine wpLast_take (i := 5) (v := ?_) rfl (by decide) (by kernel_rfl) (by kernel_rfl) (by kernel_rfl) (by kernel_rfl) (fun _ _ _ h => h) (Or.inl ⟨by rfl, ?_⟩) (by assumption) ?_
    rotate_left 1
    · (intro W hW; skip; go_simp; try with_reducible rfl)
    simp only [Act.put, List.getElem_toArray, List.getElem_cons_succ, List.getElem_cons_zero, List.setIfInBounds_toArray, List.set_cons_zero, List.set_cons_succ]
    refine wpLast_take (i := 6) (v := ?_) rfl (by decide) (by kernel_rfl) (by kernel_rfl) (by kernel_rfl) (by kernel_rfl) (fun _ _ _ h => h) (Or.inl ⟨by rfl, ?_⟩) (by assumption) ?_
    rotate_left 1
    · (intro W hW; clear hW; go_simp; try with_reducible rfl)
    simp only [Act.put, List.getElem_toArray, List.getElem_cons_succ, List.getElem_cons_zero, List.setIfInBounds_toArray, List.set_cons_zero, List.set_cons_succ]
    refine wpLast_take (i := 7) (v := ?_) rfl (by decide) (by kernel_rfl) (by kernel_rfl) (by kernel_rfl) (by kernel_rfl) (fun _ _ _ h => h) (Or.inl ⟨by rfl, ?_⟩) (by assumption) ?_
    rotate_left 1
    · (intro W hW; clear hW; go_simp; try with_reducible rfl)
    simp only [Act.put, List.getElem_toArray, List.getElem_cons_succ, List.getElem_cons_zero, List.setIfInBounds_toArray, List.set_cons_zero, List.set_cons_succ]
    refine wpLast_take (i := 9) (v := ?_) rfl (by decide) (by kernel_rfl) (by kernel_rfl) (by kernel_rfl) (by kernel_rfl) (fun _ _ _ h => h) (Or.inl ⟨by rfl, ?_⟩) (by assumption) ?_
    rotate_left 1
    · (intro W hW; skip; go_simp; try with_reducible rfl)
    simp only [Act.put, List.getElem_toArray, List.getElem_cons_succ, List.getElem_cons_zero, List.setIfInBounds_toArray, List.set_cons_zero, List.set_cons_succ]
    refine wpLast_take (i := 10) (v := ?_) rfl (by decide) (by kernel_rfl) (by kernel_rfl) (by kernel_rfl) (by kernel_rfl) (fun _ _ _ h => h) (Or.inl ⟨by rfl, ?_⟩) (by assumption) ?_
    rotate_left 1
    · (intro W hW; clear hW; go_simp; try with_reducible rfl)
    simp only [Act.put, List.getElem_toArray, List.getElem_cons_succ, List.getElem_cons_zero, List.setIfInBounds_toArray, List.set_cons_zero, List.set_cons_succ]
    refine wpLast_take (i := 11) (v := ?_) rfl (by decide) (by kernel_rfl) (by kernel_rfl) (by kernel_rfl) (by kernel_rfl) (fun _ _ _ h => h) (Or.inl ⟨by rfl, ?_⟩) (by assumption) ?_
    rotate_left 1
    · (intro W hW; clear hW; go_simp; try with_reducible rfl)
    simp only [Act.put, List.getElem_toArray, List.getElem_cons_succ, List.getElem_cons_zero, List.setIfInBounds_toArray, List.set_cons_zero, List.set_cons_succ]
    refine wpLast_take (i := 14) (v := ?_) rfl (by decide) (by kernel_rfl) (by kernel_rfl) (by kernel_rfl) (by kernel_rfl) (fun _ _ _ h => h) (Or.inl ⟨by rfl, ?_⟩) (by assumption) ?_
    rotate_left 1
    · (intro W hW; clear hW; go_simp; try with_reducible rfl)
    simp only [Act.put, List.getElem_toArray, List.getElem_cons_succ, List.getElem_cons_zero, List.setIfInBounds_toArray, List.set_cons_zero, List.set_cons_succ]
    refine wpLast_take (i := 15) (v := ?_) rfl (by decide) (by kernel_rfl) (by kernel_rfl) (by kernel_rfl) (by kernel_rfl) (fun _ _ _ h => h) (Or.inl ⟨by rfl, ?_⟩) (by assumption) ?_
    rotate_left 1
    · (intro W hW; clear hW; go_simp; try with_reducible rfl)
    simp only [Act.put, List.getElem_toArray, List.getElem_cons_succ, List.getElem_cons_zero, List.setIfInBounds_toArray, List.set_cons_zero, List.set_cons_succ]
    refine wpLast_take (i := 16) (v := ?_) rfl (by decide) (by kernel_rfl) (by kernel_rfl) (by kernel_rfl) (by kernel_rfl) (fun _ _ _ h => h) (Or.inl ⟨by rfl, ?_⟩) (by assumption) ?_
    rotate_left 1
    · (intro W hW; clear hW; go_simp; try with_reducible rfl)
    simp only [Act.put, List.getElem_toArray, List.getElem_cons_succ, List.getElem_cons_zero, List.setIfInBounds_toArray, List.set_cons_zero, List.set_cons_succ]
    refine wpLast_take (i := 17) (v := ?_) rfl (by decide) (by kernel_rfl) (by kernel_rfl) (by kernel_rfl) (by kernel_rfl) (fun _ _ _ h => h) (Or.inl ⟨by rfl, ?_⟩) (by assumption) ?_
    rotate_left 1
    · (intro W hW; skip; go_simp; try with_reducible rfl)
    simp only [Act.put, List.getElem_toArray, List.getElem_cons_succ, List.getElem_cons_zero, List.setIfInBounds_toArray, List.set_cons_zero, List.set_cons_succ]
    refine wpLast_take (i := 18) (v := ?_) rfl (by decide) (by kernel_rfl) (by kernel_rfl) (by kernel_rfl) (by kernel_rfl) (fun _ _ _ h => h) (Or.inl ⟨by rfl, ?_⟩) (by assumption) ?_
    rotate_left 1
    · (intro W hW; clear hW; go_simp; try with_reducible rfl)
    simp only [Act.put, List.getElem_toArray, List.getElem_cons_succ, List.getElem_cons_zero, List.setIfInBounds_toArray, List.set_cons_zero, List.set_cons_succ]
    refine wpLast_take (i := 19) (v := ?_) rfl (by decide) (by kernel_rfl) (by kernel_rfl) (by kernel_rfl) (by kernel_rfl) (fun _ _ _ h => h) (Or.inl ⟨by rfl, ?_⟩) (by assumption) ?_
    rotate_left 1
    · (intro W hW; clear hW; go_simp; try with_reducible rfl)
    simp only [Act.put, List.getElem_toArray, List.getElem_cons_succ, List.getElem_cons_zero, List.setIfInBounds_toArray, List.set_cons_zero, List.set_cons_succ]
    refine wpLast_take (i := 20) (v := ?_) rfl (by decide) (by kernel_rfl) (by kernel_rfl) (by kernel_rfl) (by kernel_rfl) (fun _ _ _ h => h) (Or.inl ⟨by rfl, ?_⟩) (by assumption) ?_
    rotate_left 1
    · (intro W hW; clear hW; go_simp; try with_reducible rfl)
    simp only [Act.put, List.getElem_toArray, List.getElem_cons_succ, List.getElem_cons_zero, List.setIfInBounds_toArray, List.set_cons_zero, List.set_cons_succ]
    refine wpLast_ready (rs := [1, 12]) (by kernel_rfl) (by simp) ?_
    refine LastReady.cons rfl (fun K hK => ?_) (LastReady.cons rfl (fun K hK => ?_) LastReady.nil)
    · go_simp
      have hrow0 := RowE.empty (enc := encT) (n := 3) wq 53
      have hsx : Since wl (wq.alloc (.cells #[] 53)) := hqs.alloc _
      refine hK.out _ _ (fun _ => hsx) (fun hHeld => ?_)
      replace hHeld := hHeld (by decide)
      clear hK K
      try simp only [Act.put, List.getElem_toArray, List.getElem_cons_succ, List.getElem_cons_zero, List.setIfInBounds_toArray, List.set_cons_zero, List.set_cons_succ]
      refine wpLast_ready (rs := [8, 12]) (by kernel_rfl) (by simp) ?_
      refine LastReady.cons rfl (fun K hK => ?_) (LastReady.cons rfl (fun K hK => ?_) LastReady.nil)
      · refine step_append_val rfl (.tmp 14) (.tmp 20) 22 rfl wq.heap.size 53 _ 24 Try.underlying22 infoR5 rfl (by decide) hrow0 ((H.out.row.since hsx).take encT_len (by omega)) encT_len encT_one rfl rfl (by simp only [List.length_append, List.length_take, List.length_drop, List.length_cons, List.length_nil]; omega) (by decide) (by simp only [World.size_alloc]; omega) ?_
        intro V3 w3 hrow3 hoff3
        have hs3 : Since wl w3 := hoff3.since_of hsx (fun x e => by have := (hrow0.own x e).1; have := hqs.size; omega)
        have hz3 : wq.heap.size ≤ w3.heap.size := by have := hoff3.size; (try simp at this); omega
        refine hK.out _ _ (fun _ => hs3) (fun hHeld => ?_)
        replace hHeld := hHeld (by decide)
        clear hK K
        try simp only [Act.put, List.getElem_toArray, List.getElem_cons_succ, List.getElem_cons_zero, List.setIfInBounds_toArray, List.set_cons_zero, List.set_cons_succ]
        refine wpLast_ready (rs := [12]) (by kernel_rfl) (by simp) ?_
        refine LastReady.cons rfl (fun K hK => ?_) LastReady.nil
        go_simp
        have hw5 := Whole.new w3 53 #[.int .i64 d, .int .i64 b, .int .i64 who]
        replace hrow3 := hrow3.alloc (.cells #[.int .i64 d, .int .i64 b, .int .i64 who] 53)
        replace hs3 := hs3.alloc (.cells #[.int .i64 d, .int .i64 b, .int .i64 who] 53)
        refine hK.out _ _ (fun _ => hs3) (fun hHeld => ?_)
        replace hHeld := hHeld (by decide)
        clear hK K
        try simp only [Act.put, List.getElem_toArray, List.getElem_cons_succ, List.getElem_cons_zero, List.setIfInBounds_toArray, List.set_cons_zero, List.set_cons_succ]
        refine wpLast_ready (rs := [13]) (by kernel_rfl) (by simp) ?_
        refine LastReady.cons rfl (fun K hK => ?_) LastReady.nil
        refine step_append_val rfl (.tmp 21) (.tmp 25) 22 rfl wq.heap.size 53 _ 24 Try.underlying22 infoR5 rfl (by decide) hrow3 (PartE.one (r := (⟨d, b, who⟩ : Tl)) hw5) encT_len encT_one rfl rfl (by simp only [List.length_append, List.length_take, List.length_drop, List.length_cons, List.length_nil]; omega) (by decide) (by simp; omega) ?_
        intro V4 w4 hrow4 hoff4
        have hs4 : Since wl w4 := hoff4.since_of hs3 (fun x e => by have := (hrow3.own x e).1; have := hqs.size; omega)
        have hz4 : wq.heap.size ≤ w4.heap.size := by have := hoff4.size; (try simp at this); omega
        refine hK.out _ _ (fun _ => hs4) (fun hHeld => ?_)
        replace hHeld := hHeld (by decide)
        clear hK K
        try simp only [Act.put, List.getElem_toArray, List.getElem_cons_succ, List.getElem_cons_zero, List.setIfInBounds_toArray, List.set_cons_zero, List.set_cons_succ]
        refine wpLast_ready (rs := [21]) (by kernel_rfl) (by simp) ?_
        refine LastReady.cons rfl (fun K hK => ?_) LastReady.nil
        refine step_append_val rfl (.tmp 26) (.tmp 33) 22 rfl wq.heap.size 53 _ 24 Try.underlying22 infoR5 rfl (by decide) hrow4 ((H.out.row.since hs4).drop2 encT_len hcap) encT_len encT_one rfl rfl (by simp only [List.length_append, List.length_take, List.length_drop, List.length_cons, List.length_nil]; omega) (by decide) hz4 ?_
        intro V5 w5 hrow5 hoff5
        obtain ⟨va5, vn5, vc5, rfl⟩ := hrow5.shape3
        have hs5 : Since wl w5 := hoff5.since_of hs4 (fun x e => by have := (hrow4.own x e).1; have := hqs.size; omega)
        have hw6 := Since.whole hs5 H.out.box
        have x5 := hw6.cell 1
        have y5 := hw6.frozen 1
        have hfin := H.out.store hs5 hqs.size hrow5
        refine hK.out _ _ (fun _ => hs5) (fun hHeld => ?_)
        replace hHeld := hHeld (by decide)
        clear hK K
        try simp only [Act.put, List.getElem_toArray, List.getElem_cons_succ, List.getElem_cons_zero, List.setIfInBounds_toArray, List.set_cons_zero, List.set_cons_succ]
        refine wpLast_take (i := 22) (v := ?_) rfl (by decide) (by kernel_rfl) (by kernel_rfl) (by kernel_rfl) (by kernel_rfl) (fun _ _ _ h => h) (Or.inl ⟨by rfl, ?_⟩) (by assumption) ?_
        rotate_left 1
        · (intro W hW; clear hW; go_simp; try with_reducible rfl)
        simp only [Act.put, List.getElem_toArray, List.getElem_cons_succ, List.getElem_cons_zero, List.setIfInBounds_toArray, List.set_cons_zero, List.set_cons_succ]
        refine wpLast_take (i := 23) (v := ?_) rfl (by decide) (by kernel_rfl) (by kernel_rfl) (by kernel_rfl) (by kernel_rfl) (fun _ _ _ h => h) (Or.inl ⟨by rfl, ?_⟩) (by assumption) ?_
        rotate_left 1
        · (intro W hW; clear hW; go_simp; try with_reducible rfl)
        simp only [Act.put, List.getElem_toArray, List.getElem_cons_succ, List.getElem_cons_zero, List.setIfInBounds_toArray, List.set_cons_zero, List.set_cons_succ]
        refine wpLast_ready (rs := [24]) (by kernel_rfl) (by simp) ?_
        refine LastReady.cons rfl (fun K hK => ?_) LastReady.nil
        go_simp
        skip
        refine hK.out _ _ (fun h => absurd rfl h) (fun hHeld => ?_)
        clear hK K
        try simp only [Act.put, List.getElem_toArray, List.getElem_cons_succ, List.getElem_cons_zero, List.setIfInBounds_toArray, List.set_cons_zero, List.set_cons_succ]
        refine wpLast_done (by kernel_rfl) ?_ _
        have hfin2 := hfin
        simp only [List.nil_append] at hfin2
        go_wp2_with fail
        all_goals (go_ret; exact ⟨rfl, ⟨_, by rw [HR.out]; exact hfin2.1⟩, (Since.off HS0.out _).trans hfin2.2 (fun _ _ z => z)⟩)
      · go_simp
        have hw5 := Whole.new (wq.alloc (.cells #[] 53)) 53 #[.int .i64 d, .int .i64 b, .int .i64 who]
        rw [World.size_alloc] at hw5
        replace hrow0 := hrow0.alloc (.cells #[.int .i64 d, .int .i64 b, .int .i64 who] 53)
        replace hsx := hsx.alloc (.cells #[.int .i64 d, .int .i64 b, .int .i64 who] 53)
        refine hK.out _ _ (fun _ => hsx) (fun hHeld => ?_)
        replace hHeld := hHeld (by decide)
        clear hK K
        try simp only [Act.put, List.getElem_toArray, List.getElem_cons_succ, List.getElem_cons_zero, List.setIfInBounds_toArray, List.set_cons_zero, List.set_cons_succ]
        refine wpLast_ready (rs := [8]) (by kernel_rfl) (by simp) ?_
        refine LastReady.cons rfl (fun K hK => ?_) LastReady.nil
        refine step_append_val rfl (.tmp 14) (.tmp 20) 22 rfl wq.heap.size 53 _ 24 Try.underlying22 infoR5 rfl (by decide) hrow0 ((H.out.row.since hsx).take encT_len (by omega)) encT_len encT_one rfl rfl (by simp only [List.length_append, List.length_take, List.length_drop, List.length_cons, List.length_nil]; omega) (by decide) (by simp only [World.size_alloc]; omega) ?_
        intro V3 w3 hrow3 hoff3
        have hs3 : Since wl w3 := hoff3.since_of hsx (fun x e => by have := (hrow0.own x e).1; have := hqs.size; omega)
        have hz3 : wq.heap.size ≤ w3.heap.size := by have := hoff3.size; (try simp at this); omega
        replace hw5 := hoff3.whole hw5 (by simp [Value.ownBlock])
        refine hK.out _ _ (fun _ => hs3) (fun hHeld => ?_)
        replace hHeld := hHeld (by decide)
        clear hK K
        try simp only [Act.put, List.getElem_toArray, List.getElem_cons_succ, List.getElem_cons_zero, List.setIfInBounds_toArray, List.set_cons_zero, List.set_cons_succ]
        refine wpLast_ready (rs := [13]) (by kernel_rfl) (by simp) ?_
        refine LastReady.cons rfl (fun K hK => ?_) LastReady.nil
        refine step_append_val rfl (.tmp 21) (.tmp 25) 22 rfl wq.heap.size 53 _ 24 Try.underlying22 infoR5 rfl (by decide) hrow3 (PartE.one (r := (⟨d, b, who⟩ : Tl)) hw5) encT_len encT_one rfl rfl (by simp only [List.length_append, List.length_take, List.length_drop, List.length_cons, List.length_nil]; omega) (by decide) hz3 ?_
        intro V4 w4 hrow4 hoff4
        have hs4 : Since wl w4 := hoff4.since_of hs3 (fun x e => by have := (hrow3.own x e).1; have := hqs.size; omega)
        have hz4 : wq.heap.size ≤ w4.heap.size := by have := hoff4.size; (try simp at this); omega
        refine hK.out _ _ (fun _ => hs4) (fun hHeld => ?_)
        replace hHeld := hHeld (by decide)
        clear hK K
        try simp only [Act.put, List.getElem_toArray, List.getElem_cons_succ, List.getElem_cons_zero, List.setIfInBounds_toArray, List.set_cons_zero, List.set_cons_succ]
        refine wpLast_ready (rs := [21]) (by kernel_rfl) (by simp) ?_
        refine LastReady.cons rfl (fun K hK => ?_) LastReady.nil
        refine step_append_val rfl (.tmp 26) (.tmp 33) 22 rfl wq.heap.size 53 _ 24 Try.underlying22 infoR5 rfl (by decide) hrow4 ((H.out.row.since hs4).drop2 encT_len hcap) encT_len encT_one rfl rfl (by simp only [List.length_append, List.length_take, List.length_drop, List.length_cons, List.length_nil]; omega) (by decide) hz4 ?_
        intro V5 w5 hrow5 hoff5
        obtain ⟨va5, vn5, vc5, rfl⟩ := hrow5.shape3
        have hs5 : Since wl w5 := hoff5.since_of hs4 (fun x e => by have := (hrow4.own x e).1; have := hqs.size; omega)
        have hw6 := Since.whole hs5 H.out.box
        have x5 := hw6.cell 1
        have y5 := hw6.frozen 1
        have hfin := H.out.store hs5 hqs.size hrow5
        refine hK.out _ _ (fun _ => hs5) (fun hHeld => ?_)
        replace hHeld := hHeld (by decide)
        clear hK K
        try simp only [Act.put, List.getElem_toArray, List.getElem_cons_succ, List.getElem_cons_zero, List.setIfInBounds_toArray, List.set_cons_zero, List.set_cons_succ]
        refine wpLast_take (i := 22) (v := ?_) rfl (by decide) (by kernel_rfl) (by kernel_rfl) (by kernel_rfl) (by kernel_rfl) (fun _ _ _ h => h) (Or.inl ⟨by rfl, ?_⟩) (by assumption) ?_
        rotate_left 1
        · (intro W hW; clear hW; go_simp; try with_reducible rfl)
        simp only [Act.put, List.getElem_toArray, List.getElem_cons_succ, List.getElem_cons_zero, List.setIfInBounds_toArray, List.set_cons_zero, List.set_cons_succ]
        refine wpLast_take (i := 23) (v := ?_) rfl (by decide) (by kernel_rfl) (by kernel_rfl) (by kernel_rfl) (by kernel_rfl) (fun _ _ _ h => h) (Or.inl ⟨by rfl, ?_⟩) (by assumption) ?_
        rotate_left 1
        · (intro W hW; clear hW; go_simp; try with_reducible rfl)
        simp only [Act.put, List.getElem_toArray, List.getElem_cons_succ, List.getElem_cons_zero, List.setIfInBounds_toArray, List.set_cons_zero, List.set_cons_succ]
        refine wpLast_ready (rs := [24]) (by kernel_rfl) (by simp) ?_
        refine LastReady.cons rfl (fun K hK => ?_) LastReady.nil
        go_simp
        skip
        refine hK.out _ _ (fun h => absurd rfl h) (fun hHeld => ?_)
        clear hK K
        try simp only [Act.put, List.getElem_toArray, List.getElem_cons_succ, List.getElem_cons_zero, List.setIfInBounds_toArray, List.set_cons_zero, List.set_cons_succ]
        refine wpLast_done (by kernel_rfl) ?_ _
        have hfin2 := hfin
        simp only [List.nil_append] at hfin2
        go_wp2_with fail
        all_goals (go_ret; exact ⟨rfl, ⟨_, by rw [HR.out]; exact hfin2.1⟩, (Since.off HS0.out _).trans hfin2.2 (fun _ _ z => z)⟩)
    · go_simp
      have hw5 := Whole.new wq 53 #[.int .i64 d, .int .i64 b, .int .i64 who]
      refine hK.out _ _ (fun _ => hqs.alloc _) (fun hHeld => ?_)
      replace hHeld := hHeld (by decide)
      clear hK K
      try simp only [Act.put, List.getElem_toArray, List.getElem_cons_succ, List.getElem_cons_zero, List.setIfInBounds_toArray, List.set_cons_zero, List.set_cons_succ]
      refine wpLast_ready (rs := [1]) (by kernel_rfl) (by simp) ?_
      refine LastReady.cons rfl (fun K hK => ?_) LastReady.nil
      go_simp
      have hrow0 := RowE.empty (enc := encT) (n := 3) (wq.alloc (.cells #[.int .i64 d, .int .i64 b, .int .i64 who] 53)) 53
      rw [World.size_alloc] at hrow0
      replace hrow0 := hrow0.mono (base' := wq.heap.size) (by omega)
      replace hw5 := hw5.alloc (.cells #[] 53)
      have hsx : Since wl ((wq.alloc (.cells #[.int .i64 d, .int .i64 b, .int .i64 who] 53)).alloc (.cells #[] 53)) := (hqs.alloc _).alloc _
      refine hK.out _ _ (fun _ => hsx) (fun hHeld => ?_)
      replace hHeld := hHeld (by decide)
      clear hK K
      try simp only [Act.put, List.getElem_toArray, List.getElem_cons_succ, List.getElem_cons_zero, List.setIfInBounds_toArray, List.set_cons_zero, List.set_cons_succ]
      refine wpLast_ready (rs := [8]) (by kernel_rfl) (by simp) ?_
      refine LastReady.cons rfl (fun K hK => ?_) LastReady.nil
      refine step_append_val rfl (.tmp 14) (.tmp 20) 22 rfl wq.heap.size 53 _ 24 Try.underlying22 infoR5 rfl (by decide) hrow0 ((H.out.row.since hsx).take encT_len (by omega)) encT_len encT_one rfl rfl (by simp only [List.length_append, List.length_take, List.length_drop, List.length_cons, List.length_nil]; omega) (by decide) (by simp only [World.size_alloc]; omega) ?_
      intro V3 w3 hrow3 hoff3
      have hs3 : Since wl w3 := hoff3.since_of hsx (fun x e => by have := (hrow0.own x e).1; have := hqs.size; omega)
      have hz3 : wq.heap.size ≤ w3.heap.size := by have := hoff3.size; (try simp at this); omega
      replace hw5 := hoff3.whole hw5 (by simp [Value.ownBlock])
      refine hK.out _ _ (fun _ => hs3) (fun hHeld => ?_)
      replace hHeld := hHeld (by decide)
      clear hK K
      try simp only [Act.put, List.getElem_toArray, List.getElem_cons_succ, List.getElem_cons_zero, List.setIfInBounds_toArray, List.set_cons_zero, List.set_cons_succ]
      refine wpLast_ready (rs := [13]) (by kernel_rfl) (by simp) ?_
      refine LastReady.cons rfl (fun K hK => ?_) LastReady.nil
      refine step_append_val rfl (.tmp 21) (.tmp 25) 22 rfl wq.heap.size 53 _ 24 Try.underlying22 infoR5 rfl (by decide) hrow3 (PartE.one (r := (⟨d, b, who⟩ : Tl)) hw5) encT_len encT_one rfl rfl (by simp only [List.length_append, List.length_take, List.length_drop, List.length_cons, List.length_nil]; omega) (by decide) hz3 ?_
      intro V4 w4 hrow4 hoff4
      have hs4 : Since wl w4 := hoff4.since_of hs3 (fun x e => by have := (hrow3.own x e).1; have := hqs.size; omega)
      have hz4 : wq.heap.size ≤ w4.heap.size := by have := hoff4.size; (try simp at this); omega
      refine hK.out _ _ (fun _ => hs4) (fun hHeld => ?_)
      replace hHeld := hHeld (by decide)
      clear hK K
      try simp only [Act.put, List.getElem_toArray, List.getElem_cons_succ, List.getElem_cons_zero, List.setIfInBounds_toArray, List.set_cons_zero, List.set_cons_succ]
      refine wpLast_ready (rs := [21]) (by kernel_rfl) (by simp) ?_
      refine LastReady.cons rfl (fun K hK => ?_) LastReady.nil
      refine step_append_val rfl (.tmp 26) (.tmp 33) 22 rfl wq.heap.size 53 _ 24 Try.underlying22 infoR5 rfl (by decide) hrow4 ((H.out.row.since hs4).drop2 encT_len hcap) encT_len encT_one rfl rfl (by simp only [List.length_append, List.length_take, List.length_drop, List.length_cons, List.length_nil]; omega) (by decide) hz4 ?_
      intro V5 w5 hrow5 hoff5
      obtain ⟨va5, vn5, vc5, rfl⟩ := hrow5.shape3
      have hs5 : Since wl w5 := hoff5.since_of hs4 (fun x e => by have := (hrow4.own x e).1; have := hqs.size; omega)
      have hw6 := Since.whole hs5 H.out.box
      have x5 := hw6.cell 1
      have y5 := hw6.frozen 1
      have hfin := H.out.store hs5 hqs.size hrow5
      refine hK.out _ _ (fun _ => hs5) (fun hHeld => ?_)
      replace hHeld := hHeld (by decide)
      clear hK K
      try simp only [Act.put, List.getElem_toArray, List.getElem_cons_succ, List.getElem_cons_zero, List.setIfInBounds_toArray, List.set_cons_zero, List.set_cons_succ]
      refine wpLast_take (i := 22) (v := ?_) rfl (by decide) (by kernel_rfl) (by kernel_rfl) (by kernel_rfl) (by kernel_rfl) (fun _ _ _ h => h) (Or.inl ⟨by rfl, ?_⟩) (by assumption) ?_
      rotate_left 1
      · (intro W hW; clear hW; go_simp; try with_reducible rfl)
      simp only [Act.put, List.getElem_toArray, List.getElem_cons_succ, List.getElem_cons_zero, List.setIfInBounds_toArray, List.set_cons_zero, List.set_cons_succ]
      refine wpLast_take (i := 23) (v := ?_) rfl (by decide) (by kernel_rfl) (by kernel_rfl) (by kernel_rfl) (by kernel_rfl) (fun _ _ _ h => h) (Or.inl ⟨by rfl, ?_⟩) (by assumption) ?_
      rotate_left 1
      · (intro W hW; clear hW; go_simp; try with_reducible rfl)
      simp only [Act.put, List.getElem_toArray, List.getElem_cons_succ, List.getElem_cons_zero, List.setIfInBounds_toArray, List.set_cons_zero, List.set_cons_succ]
      refine wpLast_ready (rs := [24]) (by kernel_rfl) (by simp) ?_
      refine LastReady.cons rfl (fun K hK => ?_) LastReady.nil
      go_simp
      skip
      refine hK.out _ _ (fun h => absurd rfl h) (fun hHeld => ?_)
      clear hK K
      try simp only [Act.put, List.getElem_toArray, List.getElem_cons_succ, List.getElem_cons_zero, List.setIfInBounds_toArray, List.set_cons_zero, List.set_cons_succ]
      refine wpLast_done (by kernel_rfl) ?_ _
      have hfin2 := hfin
      simp only [List.nil_append] at hfin2
      go_wp2_with fail
      all_goals (go_ret; exact ⟨rfl, ⟨_, by rw [HR.out]; exact hfin2.1⟩, (Since.off HS0.out _).trans hfin2.2 (fun _ _ z => z)⟩)
end Go.Proofs.Ytgnhamhkpbadbaa
namespace Go.Proofs.Ytgnhamhkpbadbaa
set_option linter.unusedSimpArgs false
theorem cmp_self0 (d b : Int) : ¬ cmpP d b d b < 0 := by
  cases h : fine d b with
  | true => rw [cmpP_same h]; decide
  | false => rw [cmpP_no (by rw [h]; exact fun z => Bool.false_ne_true z.1)]; decide
theorem uniq_split {L : List Tl} (hp : L.Pairwise Tl.ltB) {i : Nat} {t : Tl} (h : L[i]? = some t) : L = L.take i ++ t :: L.drop (i + 1) ∧ (∀ s ∈ L.take i, ¬ (s.d = t.d ∧ s.b = t.b)) ∧ ∀ s ∈ L.drop (i + 1), ¬ (s.d = t.d ∧ s.b = t.b) := by
  obtain ⟨hi, rfl⟩ := List.getElem?_eq_some_iff.1 h
  have e : L = L.take i ++ L[i] :: L.drop (i + 1) := by rw [← List.drop_eq_getElem_cons hi, List.take_append_drop]
  refine ⟨e, ?_⟩
  rw [e] at hp
  obtain ⟨_, h2, h3⟩ := List.pairwise_append.1 hp
  refine ⟨fun s hs hc => ?_, fun s hs hc => ?_⟩
  · have := (h3 s hs _ List.mem_cons_self).1
    rw [hc.1, hc.2] at this
    exact cmp_self0 _ _ this
  · have := ((List.pairwise_cons.1 h2).1 s hs).1
    rw [hc.1, hc.2] at this
    exact cmp_self0 _ _ this
theorem filter_self {L : List Tl} {d b : Int} (h : ∀ s ∈ L, ¬ (s.d = d ∧ s.b = b)) : (L.filter fun s => !(s.d == d && s.b == b)) = L := by
  rw [List.filter_eq_self]
  intro s hs
  have z := h s hs
  cases e : (s.d == d && s.b == b) with
  | false => rfl
  | true => exact absurd (by simpa using e) z
theorem map_self {L : List Tl} {d b who : Int} (h : ∀ s ∈ L, ¬ (s.d = d ∧ s.b = b)) : (L.map fun s => if s.d = d ∧ s.b = b then (⟨d, b, who⟩ : Tl) else s) = L := by
  conv => rhs; rw [← List.map_id L]
  refine List.map_congr_left fun s hs => ?_
  rw [if_neg (h s hs)]; rfl
theorem dropG_eq {L : List Tl} (hp : L.Pairwise Tl.ltB) (d b : Int) : dropG L d b = dropT L d b := by
  unfold dropG dropT
  rcases atG_cases d b L 0 with ⟨h1, h2⟩ | ⟨i, h1, h2, h3, t, h4, rfl, rfl⟩
  · rw [if_pos (by rw [h1]; decide), if_neg (by rw [h2]; exact Bool.false_ne_true)]
  · obtain ⟨e, f1, f2⟩ := uniq_split hp h4
    rw [if_neg (by rw [h2]; omega), if_pos h3, h2, Nat.zero_add, Int.toNat_natCast]
    congr 1
    conv => rhs; rw [e]
    rw [List.filter_append, List.filter_cons_of_neg (by simp), filter_self f1, filter_self f2]
theorem giveG_eq {L : List Tl} (hp : L.Pairwise Tl.ltB) (d b who : Int) : giveG L d b who = giveT L d b who := by
  unfold giveG giveT
  rcases atG_cases d b L 0 with ⟨h1, h2⟩ | ⟨i, h1, h2, h3, t, h4, rfl, rfl⟩
  · rw [if_pos (by rw [h1]; decide), if_neg (by rw [h2]; exact Bool.false_ne_true)]
  · obtain ⟨e, f1, f2⟩ := uniq_split hp h4
    rw [if_neg (by rw [h2]; omega), if_pos h3, h2, Nat.zero_add, Int.toNat_natCast]
    congr 1
    conv => rhs; rw [e]
    rw [List.map_append, List.map_cons, map_self f1, map_self f2, if_pos ⟨rfl, rfl⟩, List.append_assoc]
    rfl
end Go.Proofs.Ytgnhamhkpbadbaa
namespace Go.Proofs.Ytgnhamhkpbadbaa
set_option linter.unusedSimpArgs false
theorem spl_form {pre post : List Tl} {t : Tl} (who : Int) (f1 : ∀ s ∈ pre, ¬ (s.d = t.d ∧ s.b = t.b)) (f2 : ∀ s ∈ post, ¬ (s.d = t.d ∧ s.b = t.b)) : splT (pre ++ t :: post) t.d t.b who = pre ++ [⟨t.d + 1, 2 * t.b, t.who⟩] ++ [⟨t.d + 1, 2 * t.b + 1, who⟩] ++ post := by
  unfold splT
  rw [List.flatMap_append, List.flatMap_cons, flat_self pre _ (fun s hs => if_neg (f1 s hs)), flat_self post _ (fun s hs => if_neg (f2 s hs)), if_pos ⟨rfl, rfl⟩]
  simp
/-- Two tiles at their places, one behind the other. -/
theorem ins_two {pre post : List Tl} {a b : Tl} (hp : (pre ++ [a] ++ [b] ++ post).Pairwise Tl.ltB) (hf : ∀ s ∈ pre ++ [a] ++ [b] ++ post, fine s.d s.b = true) : insT (insT (pre ++ post) a) b = pre ++ [a] ++ [b] ++ post := by
  have h1 : insT (pre ++ post) a = pre ++ [a] ++ post := by
    refine ins_pair (hp.sublist ?_) (fun s hs => hf s ?_)
    · exact (List.sublist_append_left _ _).append (List.Sublist.refl _)
    · simp only [List.mem_append, List.mem_singleton] at hs ⊢
      rcases hs with (hs | hs) | hs
      · exact .inl (.inl (.inl hs))
      · exact .inl (.inl (.inr hs))
      · exact .inr hs
  rw [h1]
  exact ins_pair hp hf
/-- Split of a list, by places. -/
def splitG (k : Int) (L : List Tl) (d b who : Int) : Int × List Tl :=
  if atG d b L 0 < 0 then (3, L) else if d = 2 * k then (30, L) else if 64 ≤ L.length then (7, L) else
    (0, insT (insT (L.take (atG d b L 0).toNat ++ L.drop ((atG d b L 0).toNat + 1)) ⟨d + 1, 2 * b, ((L[(atG d b L 0).toNat]?).map Tl.who).getD 0⟩) ⟨d + 1, 2 * b + 1, who⟩)
theorem splitG_eq {k : Int} {L : List Tl} (hp : L.Pairwise Tl.ltB) (d b who : Int) (h2 : (splitT k L d b who).2.Pairwise Tl.ltB) (hf : ∀ s ∈ (splitT k L d b who).2, fine s.d s.b = true) : splitG k L d b who = splitT k L d b who := by
  unfold splitG
  rcases atG_cases d b L 0 with ⟨h1, h3⟩ | ⟨i, h1, h3, h4, t, h5, rfl, rfl⟩
  · rw [if_pos (by rw [h1]; decide)]; unfold splitT; rw [if_neg (by rw [h3]; exact Bool.false_ne_true)]
  · obtain ⟨e, f1, f2⟩ := uniq_split hp h5
    rw [if_neg (by rw [h3]; omega)]
    unfold splitT at h2 hf ⊢
    rw [if_pos h4] at h2 hf ⊢
    by_cases hd : t.d = 2 * k
    · rw [if_pos hd, if_pos hd]
    · rw [if_neg hd] at h2 hf ⊢
      rw [if_neg hd]
      by_cases h64 : 64 ≤ L.length
      · rw [if_pos h64, if_pos h64]
      · rw [if_neg h64] at h2 hf ⊢
        rw [if_neg h64]
        have es : splT L t.d t.b who = L.take i ++ [⟨t.d + 1, 2 * t.b, t.who⟩] ++ [⟨t.d + 1, 2 * t.b + 1, who⟩] ++ L.drop (i + 1) := by
          conv => lhs; rw [e]
          exact spl_form who f1 f2
        dsimp only at h2 hf
        rw [es] at h2 hf
        rw [es, h3, Nat.zero_add, Int.toNat_natCast, h5]
        congr 1
        exact ins_two h2 hf
theorem mrg_form {pre mid post : List Tl} {u v : Tl} {d b : Int} (hu : u.d = d + 1 ∧ u.b = 2 * b) (hv : v.d = d + 1 ∧ v.b = 2 * b + 1) (f : ∀ s ∈ pre ++ mid ++ post, ¬ (s.d = d + 1 ∧ s.b = 2 * b) ∧ ¬ (s.d = d + 1 ∧ s.b = 2 * b + 1)) : mrgT (pre ++ u :: (mid ++ v :: post)) d b = pre ++ [⟨d, b, u.who⟩] ++ (mid ++ post) := by
  have g : ∀ l : List Tl, (∀ s ∈ l, s ∈ pre ++ mid ++ post) → (l.flatMap fun s => if s.d = d + 1 ∧ s.b = 2 * b then [(⟨d, b, s.who⟩ : Tl)] else if s.d = d + 1 ∧ s.b = 2 * b + 1 then [] else [s]) = l := fun l hl =>
    flat_self l _ (fun s hs => by rw [if_neg (f s (hl s hs)).1, if_neg (f s (hl s hs)).2])
  unfold mrgT
  rw [List.flatMap_append, List.flatMap_cons, List.flatMap_append, List.flatMap_cons, g pre (by intro s hs; simp [hs]), g mid (by intro s hs; simp [hs]), g post (by intro s hs; simp [hs]), if_pos hu, if_neg (by rw [hv.1, hv.2]; omega), if_pos hv]
  simp
end Go.Proofs.Ytgnhamhkpbadbaa
