/- A region that draws its order, one of whose operations waits for all others: what is known of the world need not hold behind that one. Nothing of one program. quad's put at a node with quarters, and at a leaf, by what part does and what put does at smaller rectangles. -/
import Derived.Test.YthfhpejpjiaikaaGreatK02
import Derived.Test.YthfhpejpjiaikaaGreatK13
import Derived.OrdersHeld
import Derived.Deep.RegionHeld
namespace Go.Proofs.YthfhpejpjiaikaaGreat
section
variable {P : Program} {ops : Array Oper} {Q : Exit → Act → World → Prop} {md : Region.Mode} {S : World → Prop} {z : Nat}
/-- Does operation z wait for i? -/
def zWaits (md : Region.Mode) (ops : Array Oper) (z i : Nat) : Bool := match ops[z]? with
  | some o => o.after.any fun e => Region.binds md e && e.on == i
  | none => false
theorem zWaits_spec {i : Nat} {oz : Oper} (hz : ops[z]? = some oz) (h : zWaits md ops z i = true) : ∃ e ∈ oz.after, Region.binds md e = true ∧ e.on = i := by
  unfold zWaits at h
  rw [hz] at h
  obtain ⟨e, h1, h2⟩ := Array.any_eq_true'.1 h
  rw [Bool.and_eq_true, beq_iff_eq] at h2
  exact ⟨e, h1, h2.1, h2.2⟩
/-- z waits for i, or for one that is still open and waits for i. -/
def zHolds (md : Region.Mode) (ops : Array Oper) (z : Nat) (listed : Array Bool) (i : Nat) : Bool := zWaits md ops z i || (List.range ops.size).any fun k => zWaits md ops z k && zWaits md ops k i && !listed.getD k true
theorem zHolds_spec {listed : Array Bool} {i : Nat} (h : zHolds md ops z listed i = true) : zWaits md ops z i = true ∨ ∃ k, zWaits md ops z k = true ∧ zWaits md ops k i = true ∧ listed.getD k true = false := by
  unfold zHolds at h
  rcases (by simpa only [Bool.or_eq_true] using h : _ ∨ _) with h | h
  · exact .inl h
  · obtain ⟨k, _, h1⟩ := List.any_eq_true.1 h
    simp only [Bool.and_eq_true, Bool.not_eq_true'] at h1
    exact .inr ⟨k, h1.1.1, h1.1.2, h1.2⟩
/-- In whatever order; S holds behind each operation but z. -/
def wpLast (P : Program) (md : Region.Mode) (ops : Array Oper) (Q : Exit → Act → World → Prop) (S : World → Prop) (z : Nat) : Nat → Array Bool → Act → World → Prop
  | 0, listed, a, w => Region.ready md ops listed = [] ∧ Q .normal a w
  | fuel + 1, listed, a, w =>
    (Region.ready md ops listed = [] → Q .normal a w) ∧
    ∀ i ∈ Region.ready md ops listed, wpOp P ops Q i (fun a' w' => (i ≠ z → S w') ∧ wpLast P md ops Q S z fuel (listed.setIfInBounds i true) a' w') a w
theorem wpAny_of_last : ∀ (fuel : Nat) (listed : Array Bool) (a : Act) (w : World), wpLast P md ops Q S z fuel listed a w → wpAny P md ops Q fuel listed a w
  | 0, _, _, _, h => h
  | fuel + 1, _, _, _, h => ⟨h.1, fun i hi => wpOp_mono (fun a' w' h' => wpAny_of_last fuel _ a' w' h'.2) (h.2 i hi)⟩
theorem wpLast_first {i : Nat} {oi : Oper} {v : Value} (hi : ops[i]? = some oi) (hiz : i ≠ z) (hsel : ∀ (j : Nat) (o : Oper) cs b, ops[j]? = some o → o.op ≠ .select cs b)
    (hQ : ∀ c a w, Q (.panic c) (a.put oi.dst v) w → Q (.panic c) a w) :
    ∀ (fuel : Nat) (listed : Array Bool) (a : Act) (w : World),
      (zWaits md ops z i = true ∨ ∃ k, zWaits md ops z k = true ∧ zWaits md ops k i = true ∧ listed.getD k true = false) →
      (∀ j oj, ops[j]? = some oj → j ≠ i → listed.getD j true = false → (∀ e ∈ oj.after, Region.binds md e = true → e.on ≠ i) → oi.apart ops oj = true) →
      i ∈ Region.ready md ops listed → YieldsIf P ops S oi v a → S w →
      wpLast P md ops Q S z fuel (listed.setIfInBounds i true) (a.put oi.dst v) w → wpLast P md ops Q S z (fuel + 1) listed a w := by
  intro fuel
  induction fuel with
  | zero =>
    intro listed a w _ _ hr hy hS H
    refine ⟨fun h => (by rw [h] at hr; cases hr), fun j hj => ?_⟩
    by_cases hji : j = i
    · subst hji
      exact hy.wpOp hi hS ⟨fun _ => hS, H⟩
    · have := ready_mono hj hji
      rw [H.1] at this
      cases this
  | succ fuel ih =>
    intro listed a w hzi hfree hr hy hS H
    refine ⟨fun h => (by rw [h] at hr; cases hr), fun j hj => ?_⟩
    by_cases hji : j = i
    · subst hji
      exact hy.wpOp hi hS ⟨fun _ => hS, H⟩
    · have h1 := H.2 j (ready_mono hj hji)
      obtain ⟨hjun, oj, hoj, hall⟩ := mem_ready.1 hj
      have hnot : ∀ e ∈ oj.after, Region.binds md e = true → e.on ≠ i := fun e he hb heq => by
        have h1 := hall e he hb
        have h0 := (mem_ready.1 hr).1
        rw [heq] at h1
        rcases Nat.lt_or_ge i listed.size with h' | h'
        · simp [h'] at h0 h1; rw [h0] at h1; cases h1
        · simp [Array.getElem?_eq_none h'] at h1
      -- z waits for i, and so does not come up here
      have hjz : j ≠ z := fun e => by
        subst e
        rcases hzi with hzi | ⟨k, h1, _, h3⟩
        · obtain ⟨e, he, hb, heq⟩ := zWaits_spec hoj hzi
          exact hnot e he hb heq
        · obtain ⟨e, he, hb, heq⟩ := zWaits_spec hoj h1
          have h5 := hall e he hb
          rw [heq] at h5
          rcases Nat.lt_or_ge k listed.size with h' | h'
          · simp [h'] at h3 h5; rw [h3] at h5; cases h5
          · simp [Array.getElem?_eq_none h'] at h5
      have hzi' : zWaits md ops z i = true ∨ ∃ k, zWaits md ops z k = true ∧ zWaits md ops k i = true ∧ (listed.setIfInBounds j true).getD k true = false := by
        rcases hzi with hzi | ⟨k, h1, h2, h3⟩
        · exact .inl hzi
        · refine .inr ⟨k, h1, h2, ?_⟩
          by_cases hjk : j = k
          · subst hjk
            obtain ⟨e, he, hb, heq⟩ := zWaits_spec hoj h2
            exact absurd heq (hnot e he hb)
          · rw [getD_set_ne true hjk]; exact h3
      have h2 := wpOp_putIf hoj (hfree j oj hoj hji hjun hnot) (fun cs b => hsel i oi cs b hi) (fun cs b => hsel j oj cs b hoj) hQ hy h1
      have hfree' : ∀ k ok, ops[k]? = some ok → k ≠ i → (listed.setIfInBounds j true).getD k true = false →
          (∀ e ∈ ok.after, Region.binds md e = true → e.on ≠ i) → oi.apart ops ok = true := fun k ok hk hki hun hno => by
        refine hfree k ok hk hki ?_ hno
        by_cases hjk : j = k
        · subst hjk; exact hjun
        · rw [getD_set_ne true hjk] at hun; exact hun
      refine wpOp_mono (fun a' w' h3 => ⟨h3.2.1, ih (listed.setIfInBounds j true) a' w' hzi' hfree' (ready_mono hr (Ne.symm hji)) h3.1 (h3.2.1 hjz) ?_⟩) h2
      rw [Array.setIfInBounds_comm _ _ hji]
      exact h3.2.2
/-- Take operation i first. -/
theorem wpLast_take {i : Nat} {oi : Oper} {v : Value} {fuel : Nat} {listed : Array Bool} {a : Act} {w : World} (hi : ops[i]? = some oi) (hiz : (i == z) = false) (hzi : zHolds md ops z listed i = true)
    (hs : Region.noSelect ops = true) (hf : Region.free md ops listed i = true) (hr : (Region.ready md ops listed).contains i = true)
    (hQ : ∀ c a w, Q (.panic c) (a.put oi.dst v) w → Q (.panic c) a w) (hy : YieldsIf P ops S oi v a) (hS : S w)
    (h : wpLast P md ops Q S z fuel (listed.setIfInBounds i true) (a.put oi.dst v) w) : wpLast P md ops Q S z (fuel + 1) listed a w :=
  wpLast_first hi (by simpa using hiz) (Region.noSelect_spec hs) hQ fuel listed a w (zHolds_spec hzi) (Region.free_spec hi hf) (by simpa using hr) hy hS h
/-- Each of the operations rs comes up next. -/
def LastReady (P : Program) (md : Region.Mode) (ops : Array Oper) (Q : Exit → Act → World → Prop) (S : World → Prop) (z : Nat) (fuel : Nat) (listed : Array Bool) (a : Act) (w : World) (rs : List Nat) : Prop :=
  ∀ i ∈ rs, wpOp P ops Q i (fun a' w' => (i ≠ z → S w') ∧ wpLast P md ops Q S z fuel (listed.setIfInBounds i true) a' w') a w
theorem LastReady.nil {fuel : Nat} {listed : Array Bool} {a : Act} {w : World} : LastReady P md ops Q S z fuel listed a w [] := fun _ h => by cases h
theorem LastReady.cons {fuel : Nat} {listed : Array Bool} {a : Act} {w : World} {i : Nat} {o : Oper} {rs : List Nat} (ho : ops[i]? = some o)
    (h : ∀ K' : Act → World → Prop, Shut (∀ a w, (i ≠ z → S w) → ((i ≠ z → S w) → wpLast P md ops Q S z fuel (listed.setIfInBounds i true) a w) → K' a w) → if Region.wanted o (yielded ops a.tmps) = true then Oper.wp P o a w K' Q else K' (a.put o.dst undef) w)
    (hs : LastReady P md ops Q S z fuel listed a w rs) : LastReady P md ops Q S z fuel listed a w (i :: rs) := fun j hj => by
  rcases List.mem_cons.1 hj with rfl | hj
  · exact wpOp_step ho (fun K' hK => h K' (fun a w hS hW => hK a w ⟨hS, hW hS⟩))
  · exact hs j hj
theorem wpLast_ready {rs : List Nat} {fuel : Nat} {listed : Array Bool} {a : Act} {w : World} (hr : Region.ready md ops listed = rs) (hne : rs ≠ [])
    (h : LastReady P md ops Q S z fuel listed a w rs) : wpLast P md ops Q S z (fuel + 1) listed a w := ⟨fun h0 => absurd (hr ▸ h0) hne, hr ▸ h⟩
theorem wpLast_done {listed : Array Bool} {a : Act} {w : World} (hr : Region.ready md ops listed = []) (h : Q .normal a w) : ∀ fuel, wpLast P md ops Q S z fuel listed a w
  | 0 => ⟨hr, h⟩
  | _ + 1 => ⟨fun _ => h, by rw [hr]; simp⟩
/-- The beginning. -/
theorem wp_region_last (S : World → Prop) (z : Nat) {id : Nat} {a : Act} {w : World} (hm : P.follows .mixedOrders = true) (hS : S w.drew)
    (h : S w.drew → wpLast P .any ops Q S z ops.size (Array.replicate ops.size false) a w.drew) : (Code.region id ops true).wp P Q a w :=
  wp_region_any hm (wpAny_of_last _ _ _ _ (h hS))
end
end Go.Proofs.YthfhpejpjiaikaaGreat
namespace Go.Proofs.YthfhpejpjiaikaaGreat
open Go.RowKit
set_option linter.unusedVariables false
set_option linter.unusedSimpArgs false
/-- What a tree of just these records is, in memory. -/
structure Tree (q : QN) (a : Rc) (L : List Rq) (W : World) : Prop where
  at_ : q.At W
  sep : q.Sep
  ok : q.Ok a L
  good : Good a
  sort : SortQ L
  inn : ∀ s ∈ L, inQ a s = true
  len : L.length ≤ 1000
def PutP (q : QN) (a : Rc) (L : List Rq) (r : Rq) (W : World) (e : Ending) (W' : World) : Prop :=
  e = .returned (.bool (hasQ L r.x r.y r.key)) ∧ ∃ p : QN, p.v = q.v ∧ p.At W' ∧ p.Sep ∧ p.Ok a (putQ L r) ∧ Off (fun b => b ∈ q.bl) W W' ∧ ∀ b ∈ p.bl, b ∈ q.bl ∨ W.heap.size ≤ b
def PutC (N : Int) : Prop := ∀ (q : QN) (a : Rc) (L : List Rq) (r : Rq) (W : World), Tree q a L W → q.isNil = false → inQ a r = true → L.length ≤ 999 → a.w + a.h ≤ N →
  Calls Tryz.prog 45 #[q.v, .agg #[.int .i64 r.x, .int .i64 r.y, .string r.key, .string r.val, .int .i64 r.ver]] W (PutP q a L r W)
/-- part: a leaf that is too full gets quarters. -/
def PartP (g : Nat) (v : Value) (a : Rc) (L : List Rq) (W : World) (e : Ending) (W' : World) : Prop :=
  (∃ u, e = .returned u) ∧ ∃ p : QN, p.v = .pointer (some ⟨g, 0, none⟩) ∧ p.At W' ∧ p.Sep ∧ p.Ok a L ∧ Off (fun b => b = g ∨ v.ownBlock = some b) W W' ∧ ∀ b ∈ p.bl, b = g ∨ W.heap.size ≤ b
def PartC (N : Int) : Prop := ∀ (g : Nat) (v : Value) (a : Rc) (L : List Rq) (W : World), (QN.leaf g v a L).At W → v.ownBlock ≠ some g → Good a → SortQ L → (∀ s ∈ L, inQ a s = true) → L.length ≤ 1000 → 4 < L.length → 1 < a.w * a.h → a.w + a.h ≤ N →
  Calls Tryz.prog 77 #[.pointer (some ⟨g, 0, none⟩)] W (PartP g v a L W)
theorem size_set {g n m : Nat} {b : Rc} {q : Nat → QN} {W : World} (h : (QN.quad g n b q).At W) (hs : ∀ i, i < 4 → g ∉ (q i).bl) : (QN.quad g m b q).At (W.setCell ⟨g, 4, none⟩ (.int .i64 (m : Nat))) :=
  ⟨Whole.set_ (show Whole W g 71 _ from h.1) 4 (.int .i64 (m : Nat)), fun i hi => (h.2 i hi).keep (fun c hc => Below.heap_setCell W ⟨g, 4, none⟩ _ c (fun e => hs i hi (by have e2 : c = g := e; rw [← e2]; exact hc)))⟩
theorem put_end {g n : Nat} {b a : Rc} {q : Nat → QN} {L : List Rq} {r : Rq} {W w2 w3 : World} (h : Tree (.quad g n b q) a L W) (hr : inQ a r = true) (hs : Since W w2) {p : QN} (hp1 : p.v = (q (qix a r.x r.y)).v) (hp2 : p.At w3) (hp3 : p.Sep) (hp4 : p.Ok (qtr a (qix a r.x r.y)) (putQ (L.filter (inQ (qtr a (qix a r.x r.y)))) r))
    (hp5 : Off (fun b => b ∈ (q (qix a r.x r.y)).bl) w2 w3) (hp6 : ∀ c ∈ p.bl, c ∈ (q (qix a r.x r.y)).bl ∨ w2.heap.size ≤ c) :
    (hasQ L r.x r.y r.key = true → ∃ u : QN, u.v = .pointer (some ⟨g, 0, none⟩) ∧ u.At w3 ∧ u.Sep ∧ u.Ok a (putQ L r) ∧ Off (fun c => c ∈ (QN.quad g n b q).bl) W w3 ∧ ∀ c ∈ u.bl, c ∈ (QN.quad g n b q).bl ∨ W.heap.size ≤ c) ∧
    (hasQ L r.x r.y r.key = false → ∃ u : QN, u.v = .pointer (some ⟨g, 0, none⟩) ∧ u.At (w3.setCell ⟨g, 4, none⟩ (.int .i64 ((n : Int) + 1))) ∧ u.Sep ∧ u.Ok a (putQ L r) ∧ Off (fun c => c ∈ (QN.quad g n b q).bl) W (w3.setCell ⟨g, 4, none⟩ (.int .i64 ((n : Int) + 1))) ∧ ∀ c ∈ u.bl, c ∈ (QN.quad g n b q).bl ∨ W.heap.size ≤ c) := by
  have ht4 := qix_lt a r.x r.y
  obtain ⟨z1, z2, z3⟩ := quad_updQ (h.at_.since hs) h.sep ht4 hp2 hp3 hp1 hp5 hp6
  have hoff : Off (fun c => c ∈ (QN.quad g n b q).bl) W w3 := (hs.off _).trans (hp5.mono (fun c _ hc => bl_quad.2 (.inr ⟨_, ht4, hc⟩))) (fun _ _ z => z)
  have hbl : ∀ c ∈ (QN.quad g n b (updQ q (qix a r.x r.y) p)).bl, c ∈ (QN.quad g n b q).bl ∨ W.heap.size ≤ c := fun c hc => (z3 c hc).imp id (fun y => Nat.le_trans hs.size_ y)
  have hlen := putQ_len L r
  have hnL : n = L.length := h.ok.2.1
  refine ⟨fun hh => ⟨_, rfl, z1, z2, quad_ok h.ok h.good h.sort h.inn hr hp4 (by rw [hlen, if_pos hh, hnL]), hoff, hbl⟩, fun hh => ⟨.quad g (n + 1) b (updQ q (qix a r.x r.y) p), rfl, size_set z1 (fun i hi => (z2.1 i hi).2), z2, quad_ok h.ok h.good h.sort h.inn hr hp4 (by rw [hlen, if_neg (by rw [hh]; exact Bool.false_ne_true), hnL]), hoff.setCell (p := ⟨g, 4, none⟩) (.inr (bl_quad.2 (.inl rfl))) _, hbl⟩⟩
set_option maxRecDepth 100000 in
set_option maxHeartbeats 6400000 in
theorem put_quad {N : Int} (ih : PutC (N - 1)) {g n : Nat} {b a : Rc} {q : Nat → QN} {L : List Rq} {r : Rq} {W : World} (h : Tree (.quad g n b q) a L W) (hr : inQ a r = true) (hl : L.length ≤ 999) (hN : a.w + a.h ≤ N) :
    Calls Tryz.prog 45 #[.pointer (some ⟨g, 0, none⟩), .agg #[.int .i64 r.x, .int .i64 r.y, .string r.key, .string r.val, .int .i64 r.ver]] W (PutP (.quad g n b q) a L r W) := by
  obtain ⟨w0, hw0⟩ : ∃ w0, w0 = W.alloc (.cells #[.int .i64 r.x, .int .i64 r.y, .string r.key, .string r.val, .int .i64 r.ver] 55) := ⟨_, rfl⟩
  have hs0 : Since W w0 := by rw [hw0]; exact (Since.refl W).alloc _
  have hbx : Whole w0 W.heap.size 55 #[.int .i64 r.x, .int .i64 r.y, .string r.key, .string r.val, .int .i64 r.ver] := by rw [hw0]; exact Whole.new W _ _
  obtain ⟨t, ht⟩ : ∃ t, qix a r.x r.y = t := ⟨_, rfl⟩
  have ht4 : t < 4 := by rw [← ht]; exact qix_lt _ _ _
  obtain ⟨k1, k2, k3, k4, k5, k6⟩ := h.ok
  have hpk := fun i (hi : i < 4) => pick_one k6 h.good hr i hi
  rw [ht] at hpk
  have hn0 : (q 0).isNil = false := by rw [(k6 0 (by decide)).nil_iff, qtr0_ne h.good]; rfl
  have hnt := (qtr_has h.good hr ht4).2 ht.symm
  have hnn : (q t).isNil = false := by rw [(k6 t ht4).nil_iff, hnt.1]; rfl
  have hat0 := h.at_.since hs0
  have HQ := Lib.hid (fun W' (hW : Since w0 W') => quarterOf_any ((QN.At.qs (hat0.since hW))) ht4 hpk)
  have HL := Lib.hid (isLeafN_no hat0 hn0)
  have hfl : (L.filter (inQ (qtr a t))).length ≤ L.length := filter_len _
  have HIH := Lib.hid (fun W' (hW : Since w0 W') => ih (q t) (qtr a t) (L.filter (inQ (qtr a t))) r W' ⟨(hat0.2 t ht4).since hW, (h.sep.1 t ht4).1, k6 t ht4, qtr_good h.good ht4 hnt.1, h.sort.filter _, fun s hs => (List.mem_filter.1 hs).2, by have := h.len; omega⟩ hnn hnt.2 (by omega) (by have := qtr_less h.good k5 ht4; omega))
  have hhas : hasQ (L.filter (inQ (qtr a t))) r.x r.y r.key = hasQ L r.x r.y r.key := has_part (inQ_cell (qtr a t)) r hnt.2 rfl rfl
  obtain ⟨TH, hTH⟩ : ∃ b, hasQ L r.x r.y r.key = b := ⟨_, rfl⟩
  obtain ⟨o, hov, _⟩ := (q t).v_ptr
  have hov2 := hov
  unfold PutP at HIH
  rw [hhas, hTH, hov] at HIH
  rw [hov] at HQ
  have hgF : ¬ g ∈ (q t).bl := (h.sep.1 t ht4).2
  have hgl : g < W.heap.size := Whole.lt h.at_.1
  have hbF : ¬ W.heap.size ∈ (q t).bl := fun z => by have := (h.at_.2 t ht4).lt _ z; omega
  have b0 := off_cell hbx (F := fun b => b ∈ (q t).bl) hbF 0 _ rfl
  have b1 := off_cell hbx (F := fun b => b ∈ (q t).bl) hbF 1 _ rfl
  have b2 := off_cell hbx (F := fun b => b ∈ (q t).bl) hbF 2 _ rfl
  have b3 := off_cell hbx (F := fun b => b ∈ (q t).bl) hbF 3 _ rfl
  have b4 := off_cell hbx (F := fun b => b ∈ (q t).bl) hbF 4 _ rfl
  have hnl : n = L.length := k2
  have hpl := putQ_len L r
  rw [hTH] at hpl
  have HW := Lib.hid hw0
  have HH := Lib.hid h
  have HT := Lib.hid (And.intro ht (And.intro hTH (And.intro hpl hnl)))
  have HA := Lib.hid hat0
  have hsr := Off.refl (fun b => b ∈ (q t).bl) w0
  have hsd := hsr.drew
  have hov2 := Lib.hid hov2
  have hn9 : (n : Int) ≤ 1000 := by omega
  clear hw0 hbx ht hpk hnn hat0 hfl hhas hTH hov hnt k1 k2 k3 k4 k5 k6 hn0 h hpl hnl
  go_enter Tryz.func45, Tryz.ntmps45
  go_wp2_with fail
  rw [← HW.out]
  go_wp2_with (go_at_call 51; (with_reducible refine HL.out.mono ?_); rintro e wn ⟨rfl, rfl⟩)
  obtain ⟨wq, hwq⟩ : ∃ wq, wq = w0.drew := ⟨_, rfl⟩
  have hq : Since w0 wq := by rw [hwq]; exact (Since.refl w0).drew
  refine wp_region_held_drew (S := fun W' => Off (fun b => b ∈ (q t).bl) w0 W') (by kernel_rfl) hsd (fun hHeld => ?_)
  rw [← hwq] at hHeld ⊢
  clear hwq
  refine wpAnyH_take (i := 0) (v := ?_) rfl (by kernel_rfl) (by kernel_rfl) (by kernel_rfl) (fun _ _ _ h => h) (Or.inl ⟨by rfl, ?_⟩) (by assumption) ?_
  rotate_left 1
  · (intro W hW; clear hW; go_simp; try with_reducible rfl)
  simp only [Act.put, List.getElem_toArray, List.getElem_cons_zero, List.setIfInBounds_toArray, List.set_cons_zero, List.set_cons_succ]
  refine wpAnyH_take (i := 1) (v := ?_) rfl (by kernel_rfl) (by kernel_rfl) (by kernel_rfl) (fun _ _ _ h => h) (Or.inl ⟨by rfl, ?_⟩) (by assumption) ?_
  rotate_left 1
  · (intro W hW; clear hW; go_simp; try with_reducible rfl)
  simp only [Act.put, List.getElem_toArray, List.getElem_cons_succ, List.getElem_cons_zero, List.setIfInBounds_toArray, List.set_cons_zero, List.set_cons_succ]
  refine wpAnyH_take (i := 2) (v := ?_) rfl (by kernel_rfl) (by kernel_rfl) (by kernel_rfl) (fun _ _ _ h => h) (Or.inl ⟨by rfl, ?_⟩) (by assumption) ?_
  rotate_left 1
  · (intro W hW; skip; go_simp; try with_reducible rfl)
  simp only [Act.put, List.getElem_toArray, List.getElem_cons_succ, List.getElem_cons_zero, List.setIfInBounds_toArray, List.set_cons_zero, List.set_cons_succ]
  refine wpAnyH_take (i := 4) (v := ?_) rfl (by kernel_rfl) (by kernel_rfl) (by kernel_rfl) (fun _ _ _ h => h) (Or.inl ⟨by rfl, ?_⟩) (by assumption) ?_
  rotate_left 1
  · (intro W hW; skip; go_simp; try with_reducible rfl)
  simp only [Act.put, List.getElem_toArray, List.getElem_cons_succ, List.getElem_cons_zero, List.setIfInBounds_toArray, List.set_cons_zero, List.set_cons_succ]
  refine wpAnyH_ready (rs := [3]) (by kernel_rfl) (by simp) ?_
  refine AllReadyH.cons rfl (fun K hK => ?_) AllReadyH.nil
  go_simp
  refine (HQ.out _ hq).mono ?_
  rintro e w2 ⟨rfl, hb2⟩
  have hs2 : Since w0 w2 := Since.trans hq hb2
  go_wp2_with fail
  refine hK.out _ _ (hs2.off _) (fun hHeld => ?_)
  clear hK K
  try simp only [Act.put, List.getElem_toArray, List.getElem_cons_succ, List.getElem_cons_zero, List.setIfInBounds_toArray, List.set_cons_zero, List.set_cons_succ]
  refine wpAnyH_ready (rs := [5]) (by kernel_rfl) (by simp) ?_
  refine AllReadyH.cons rfl (fun K hK => ?_) AllReadyH.nil
  go_simp
  refine (HIH.out _ hs2).mono ?_
  rintro e w3 ⟨rfl, p, hp1, hp2, hp3, hp4, hp5, hp6⟩
  go_wp2_with fail
  refine hK.out _ _ ((hs2.off _).trans hp5 (fun _ _ z => z)) (fun hHeld => ?_)
  clear hK K
  try simp only [Act.put, List.getElem_toArray, List.getElem_cons_succ, List.getElem_cons_zero, List.setIfInBounds_toArray, List.set_cons_zero, List.set_cons_succ]
  refine wpAnyH_take (i := 6) (v := ?_) rfl (by kernel_rfl) (by kernel_rfl) (by kernel_rfl) (fun _ _ _ h => h) (Or.inl ⟨by rfl, ?_⟩) (by assumption) ?_
  rotate_left 1
  · (intro W hW; clear hW; go_simp; try with_reducible rfl)
  simp only [Act.put, List.getElem_toArray, List.getElem_cons_succ, List.getElem_cons_zero, List.setIfInBounds_toArray, List.set_cons_zero, List.set_cons_succ]
  refine wpAnyH_done (by kernel_rfl) ?_ _
  have hg2 : Whole w2 g 71 _ := Since.whole hs2 HA.out.1
  have hg3 := hp5.whole hg2 hgF
  have c4 : w3.cell? ⟨g, 4, none⟩ = some (.int .i64 (n : Nat)) := (hg3.cell 4).trans rfl
  have f4 := hg3.frozen 4
  have e1 : IntKind.i64.wrap ((n : Int) + 1) = (n : Int) + 1 := IntWalk.i64_in _ (by omega)
  have ht := HT.out.1
  subst ht
  have HTH := Lib.hid HT.out.2.1
  clear HT
  rw [← hov2.out] at hp1
  have HE := Lib.hid (put_end HH.out hr (Since.trans hs0 hs2) hp1 hp2 hp3 hp4 hp5 hp6)
  clear hp1 hp2 hp3 hp4 hp5 hp6 hg2 hg3 b0 b1 b2 b3 b4 hq hb2 hHeld
  cases TH
  · go_wp2_with fail
    go_ret
    exact ⟨by rw [HTH.out]; rfl, HE.out.2 HTH.out⟩
  · go_wp2_with fail
    go_ret
    exact ⟨by rw [HTH.out]; rfl, HE.out.1 HTH.out⟩
theorem five_off {F : Nat → Prop} {W W' : World} (h : Off F W W') {g : Nat} (hg : F g) (o : Nat) (a b c d e : Value) : Off F W (((((W'.setCell ⟨g, o, none⟩ a).setCell ⟨g, o + 1, none⟩ b).setCell ⟨g, o + 2, none⟩ c).setCell ⟨g, o + 3, none⟩ d).setCell ⟨g, o + 4, none⟩ e) :=
  ((((h.setCell (p := ⟨g, o, none⟩) (.inr hg) _).setCell (p := ⟨g, o + 1, none⟩) (.inr hg) _).setCell (p := ⟨g, o + 2, none⟩) (.inr hg) _).setCell (p := ⟨g, o + 3, none⟩) (.inr hg) _).setCell (p := ⟨g, o + 4, none⟩) (.inr hg) _
set_option maxRecDepth 100000 in
set_option maxHeartbeats 6400000 in
/-- put at a leaf that has the record already. -/
theorem put_there {g : Nat} {v : Value} {b a : Rc} {M L : List Rq} {r : Rq} {W : World} (h : Tree (.leaf g v b M) a L W) (hh : hasQ L r.x r.y r.key = true) :
    Calls Tryz.prog 45 #[.pointer (some ⟨g, 0, none⟩), .agg #[.int .i64 r.x, .int .i64 r.y, .string r.key, .string r.val, .int .i64 r.ver]] W (PutP (.leaf g v b M) a L r W) := by
  obtain ⟨w0, hw0⟩ : ∃ w0, w0 = W.alloc (.cells #[.int .i64 r.x, .int .i64 r.y, .string r.key, .string r.val, .int .i64 r.ver] 55) := ⟨_, rfl⟩
  have hs0 : Since W w0 := by rw [hw0]; exact (Since.refl W).alloc _
  have hbx : Whole w0 W.heap.size 55 #[.int .i64 r.x, .int .i64 r.y, .string r.key, .string r.val, .int .i64 r.ver] := by rw [hw0]; exact Whole.new W _ _
  obtain ⟨h1, h2, h3, h4⟩ := h.ok
  subst h1
  subst h2
  have hat0 := h.at_.since hs0
  obtain ⟨hp, hz⟩ := (hasQ_iff h.sort).1 hh
  have HL := Lib.hid (isLeafN_yes hat0)
  have HF := Lib.hid (fun W' (hW : Since w0 W') => nfind_any (hat0.since hW) h.sort (by have := h.len; omega) r.x r.y r.key)
  obtain ⟨g2, cap, S, hve, hg1, hg2, hc1, hc2, hl, hS⟩ := (RowE.cur h.at_.2).resolve_left (fun z => by rw [z.2] at hp; exact absurd hp (Nat.not_lt_zero _))
  subst hve
  have hne : g2 ≠ g := fun e => h.sep (by rw [e]; rfl)
  have hne' : g ≠ g2 := fun e => hne e.symm
  have hg2l : g2 < W.heap.size := (Array.getElem?_eq_some_iff.1 hg2).1
  have hnb : W.heap.size ≠ g2 := by omega
  have hnb' : g2 ≠ W.heap.size := by omega
  obtain ⟨P, hP⟩ : ∃ P, posQ M r.x r.y r.key = P := ⟨_, rfl⟩
  have hpu : putQ M r = M.set P r := by unfold putQ; rw [if_pos hh, hP]
  rw [hP, hh] at HF
  rw [hP] at hp
  have HH := Lib.hid h
  have HR := Lib.hid (fun W' (hW : Since w0 W') => And.intro (RowE.set5 (RowE.since hat0.2 hW) hp r) (five_off (F := fun c => c ∈ (QN.leaf g (.slice (some ⟨g2, 0, none⟩) M.length cap) b M).bl) (hW.off _) (g := g2) (List.mem_cons_of_mem _ (ownL_mem.2 rfl)) (P * 5) (.int .i64 r.x) (.int .i64 r.y) (.string r.key) (.string r.val) (.int .i64 r.ver)))
  have c5 : ∀ W', Since w0 W' → W'.cell? ⟨g, 5, none⟩ = some (.slice (some ⟨g2, 0, none⟩) M.length cap) := fun W' hW => ((Since.whole hW (show Whole w0 g 71 _ from hat0.1)).cell 5).trans rfl
  have b0 := box_cell hbx 0 _ rfl
  have b1 := box_cell hbx 1 _ rfl
  have b2 := box_cell hbx 2 _ rfl
  have b3 := box_cell hbx 3 _ rfl
  have b4 := box_cell hbx 4 _ rfl
  obtain ⟨s, hs⟩ : ∃ s, M[P] = s := ⟨_, rfl⟩
  have cl : ∀ W', Since w0 W' → ∀ j u, (encQ s)[j]? = some u → W'.cell? ⟨g2, P * 5 + j, none⟩ = some u := fun W' hW j u hu => ((RowE.since hat0.2 hW).list encQ_len).at_ hp j (by rw [hs]; exact hu)
  have HCL := Lib.hid (fun W' hW => And.intro (cl W' hW 0 _ rfl) (And.intro (cl W' hW 1 _ rfl) (And.intro (cl W' hW 2 _ rfl) (And.intro (cl W' hW 3 _ rfl) (cl W' hW 4 _ rfl)))))
  have HFZ := Lib.hid (fun W' (hW : Since w0 W') j => World.ownsRow.frozenAt (RowE.since hat0.2 hW) (P * 5 + j))
  have HWG := Lib.hid (fun W' (hW : Since w0 W') (c0 c1 c2 c3 c4 : Value) => ((((((Since.whole hW (show Whole w0 g 71 _ from hat0.1)).far (p := ⟨g2, P * 5, none⟩) hne' c0).far (p := ⟨g2, P * 5 + 1, none⟩) hne' c1).far (p := ⟨g2, P * 5 + 2, none⟩) hne' c2).far (p := ⟨g2, P * 5 + 3, none⟩) hne' c3).far (p := ⟨g2, P * 5 + 4, none⟩) hne' c4))
  have HW := Lib.hid hw0
  have hsr := Since.refl w0
  have hpi : (P : Int) < M.length := by omega
  have HPU := Lib.hid (And.intro hpu hh)
  have hpn : P < M.length := hp
  clear hw0 hbx hat0 hz hg2 hc1 hc2 hl hS hP hpu hh h cl hs h3 h4
  go_enter Tryz.func45, Tryz.ntmps45
  go_wp2_with fail
  rw [← HW.out]
  go_wp2_with (first | (go_at_call 51; (with_reducible refine HL.out.mono ?_); rintro e wn ⟨rfl, rfl⟩) | (go_at_call 49; (with_reducible refine (HF.out _ hsr).mono ?_); rintro e w1 ⟨rfl, hb1⟩; (have hs1 : Since w0 w1 := hb1)))
  have hsd := hs1.drew
  obtain ⟨wq, hwq⟩ : ∃ wq, wq = w1.drew := ⟨_, rfl⟩
  refine wp_region_last (fun W' => Since w0 W') 7 (by kernel_rfl) hsd (fun hHeld => ?_)
  rw [← hwq] at hHeld hsd ⊢
  have hq : Since w0 wq := hHeld
  clear hwq
  refine wpLast_take (i := 0) (v := ?_) rfl (by decide) (by kernel_rfl) (by kernel_rfl) (by kernel_rfl) (by kernel_rfl) (fun _ _ _ h => h) (Or.inl ⟨by rfl, ?_⟩) (by assumption) ?_
  rotate_left 1
  · (intro W hW; clear hW; go_simp; try with_reducible rfl)
  simp only [Act.put, List.getElem_toArray, List.getElem_cons_zero, List.setIfInBounds_toArray, List.set_cons_zero, List.set_cons_succ]
  refine wpLast_take (i := 1) (v := ?_) rfl (by decide) (by kernel_rfl) (by kernel_rfl) (by kernel_rfl) (by kernel_rfl) (fun _ _ _ h => h) (Or.inl ⟨by rfl, ?_⟩) (by assumption) ?_
  rotate_left 1
  · (intro W hW; clear hW; go_simp; try with_reducible rfl)
  simp only [Act.put, List.getElem_toArray, List.getElem_cons_succ, List.getElem_cons_zero, List.setIfInBounds_toArray, List.set_cons_zero, List.set_cons_succ]
  refine wpLast_take (i := 2) (v := ?_) rfl (by decide) (by kernel_rfl) (by kernel_rfl) (by kernel_rfl) (by kernel_rfl) (fun _ _ _ h => h) (Or.inl ⟨by rfl, ?_⟩) (by assumption) ?_
  rotate_left 1
  · (intro W hW; clear hW; go_simp; try with_reducible rfl)
  simp only [Act.put, List.getElem_toArray, List.getElem_cons_succ, List.getElem_cons_zero, List.setIfInBounds_toArray, List.set_cons_zero, List.set_cons_succ]
  refine wpLast_take (i := 3) (v := ?_) rfl (by decide) (by kernel_rfl) (by kernel_rfl) (by kernel_rfl) (by kernel_rfl) (fun _ _ _ h => h) (Or.inl ⟨by rfl, ?_⟩) (by assumption) ?_
  rotate_left 1
  · (intro W hW; skip; go_simp; try with_reducible rfl)
  simp only [Act.put, List.getElem_toArray, List.getElem_cons_succ, List.getElem_cons_zero, List.setIfInBounds_toArray, List.set_cons_zero, List.set_cons_succ]
  refine wpLast_take (i := 4) (v := ?_) rfl (by decide) (by kernel_rfl) (by kernel_rfl) (by kernel_rfl) (by kernel_rfl) (fun _ _ _ h => h) (Or.inl ⟨by rfl, ?_⟩) (by assumption) ?_
  rotate_left 1
  · (intro W hW; clear hW; go_simp; try with_reducible rfl)
  simp only [Act.put, List.getElem_toArray, List.getElem_cons_succ, List.getElem_cons_zero, List.setIfInBounds_toArray, List.set_cons_zero, List.set_cons_succ]
  refine wpLast_take (i := 5) (v := ?_) rfl (by decide) (by kernel_rfl) (by kernel_rfl) (by kernel_rfl) (by kernel_rfl) (fun _ _ _ h => h) (Or.inl ⟨by rfl, ?_⟩) (by assumption) ?_
  rotate_left 1
  · (intro W hW; skip; go_simp; try with_reducible rfl)
  simp only [Act.put, List.getElem_toArray, List.getElem_cons_succ, List.getElem_cons_zero, List.setIfInBounds_toArray, List.set_cons_zero, List.set_cons_succ]
  refine wpLast_take (i := 6) (v := ?_) rfl (by decide) (by kernel_rfl) (by kernel_rfl) (by kernel_rfl) (by kernel_rfl) (fun _ _ _ h => h) (Or.inl ⟨by rfl, ?_⟩) (by assumption) ?_
  rotate_left 1
  · (intro W hW; clear hW; go_simp; try with_reducible rfl)
  simp only [Act.put, List.getElem_toArray, List.getElem_cons_succ, List.getElem_cons_zero, List.setIfInBounds_toArray, List.set_cons_zero, List.set_cons_succ]
  refine wpLast_ready (rs := [7]) (by kernel_rfl) (by simp) ?_
  refine LastReady.cons rfl (fun K hK => ?_) LastReady.nil
  obtain ⟨t0, t1, t2, t3, t4⟩ := HCL.out wq hq
  have z0 := HFZ.out wq hq 0
  have z1 := HFZ.out wq hq 1
  have z2 := HFZ.out wq hq 2
  have z3 := HFZ.out wq hq 3
  have z4 := HFZ.out wq hq 4
  rw [Nat.add_zero] at t0 z0
  go_simp
  clear t0 t1 t2 t3 t4 z0 z1 z2 z3 z4
  refine hK.out _ _ (fun h => absurd rfl h) (fun hHeld => ?_)
  clear hK K
  try simp only [Act.put, List.getElem_toArray, List.getElem_cons_succ, List.getElem_cons_zero, List.setIfInBounds_toArray, List.set_cons_zero, List.set_cons_succ]
  refine wpLast_done (by kernel_rfl) ?_ _
  go_wp2_with fail
  go_ret
  have hfi := HR.out wq hq
  have hlen := putQ_len M r
  rw [if_pos HPU.out.2] at hlen
  refine ⟨by rw [HPU.out.2]; rfl, .leaf g (.slice (some ⟨g2, 0, none⟩) M.length cap) b (M.set P r), rfl, ⟨?_, hfi.1⟩, HH.out.sep, ⟨rfl, HPU.out.1.symm, HH.out.ok.2.2.1, fun z => HH.out.ok.2.2.2 (by rwa [hlen] at z)⟩, (hs0.off _).trans hfi.2 (fun _ _ z => z), fun c hc => .inl hc⟩
  rw [List.length_set]
  exact HWG.out wq hq _ _ _ _ _
end Go.Proofs.YthfhpejpjiaikaaGreat
