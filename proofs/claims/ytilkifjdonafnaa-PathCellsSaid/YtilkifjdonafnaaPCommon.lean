/- path.Common: the halves that two paths begin with alike. -/
import Derived.Test.YtilkifjdonafnaaPHalves
namespace Go.Proofs.Ytilkifjdonafnaa
open Go.RowKit Go.Shelf
attribute [local go_sem] Oper.semAt_some
theorem whole_from {β : Type} {B b : Nat} {t : TypeId} (hb : b < B) (cs : β → Array Value) : OwnFrom B (fun (s : β) W => Whole W b t (cs s)) :=
  fun _ _ _ _ hs hg hr => (hg.block b hs.lt (fun e => by have := (hr b e.symm).1; omega)).trans hs
theorem keeps_below {B : Nat} {W W' : World} (h : Below W.heap.size W W') : KeepsFrom B W W' :=
  ⟨h.size, fun k _ _ hk _ => (h.block k (Array.getElem?_eq_some_iff.1 hk).1).trans hk⟩
theorem keeps_set (B : Nat) (W : World) (a : Addr) (v : Value) : KeepsFrom B W (W.setCell a v) := (KeepsOthers.setCell W a v).from B
theorem KB.set {g : Nat} {A W : World} (h : KB g A W) {p : Addr} (hp : g ≠ p.block) (v : Value) : KB g A (W.setCell p v) := (Below.heap_setCell W p v g hp).trans h
theorem KB.below {g : Nat} {W W' : World} (h : Below W.heap.size W W') (hg : g < W.heap.size) : KB g W W' := h.block g hg
/-- What has been put together of the halves that have come. -/
def comF (pre : List (Int × Int)) : Int × Int := pre.foldl (fun s x => (wthD s.1, wthB s.2 x.2)) (0, 0)
theorem comF_snoc (pre : List (Int × Int)) (x : Int × Int) : comF (pre ++ [x]) = (wthD (comF pre).1, wthB (comF pre).2 x.2) := by simp [comF]
abbrev pA (d b : Int) : Array Value := #[.int .i64 d, .int .i64 b]
theorem ups_mem {d b : Int} {k j : Nat} (h : j < k) : ((j : Int), bitI d b j) ∈ ups d b k := List.mem_map.2 ⟨j, List.mem_range.2 h, rfl⟩
theorem ups_last {d b : Int} {k : Nat} {pre : List (Int × Int)} {x : Int × Int} (h : ups d b k = pre ++ [x]) : ∃ m, k = m + 1 ∧ x = ((m : Int), bitI d b m) ∧ pre = ups d b m := by
  cases k with
  | zero => exact absurd h (by simp [ups])
  | succ m =>
    rw [ups_succ] at h
    obtain ⟨h1, h2⟩ := List.append_inj' h rfl
    exact ⟨m, rfl, (List.singleton_inj.1 h2).symm, h1.symm⟩
/-- A call's end that stores two numbers into its result, and takes what is deferred. -/
theorem two_end {w W : World} {R D : Nat} {t : TypeId} {a0 b0 : Int} (a b : Int) (wr : Whole W R t (pA a0 b0)) (hB : Below w.heap.size w W) (hR : w.heap.size ≤ R) (hD : R < D) (hK : W.heap[D]? = some (.deferred (some []))) :
    ((W.setCell ⟨R, 0, none⟩ (.int .i64 a)).setCell ⟨R, 1, none⟩ (.int .i64 b)).heap[D]? = some (.deferred (some [])) ∧
    Whole (((W.setCell ⟨R, 0, none⟩ (.int .i64 a)).setCell ⟨R, 1, none⟩ (.int .i64 b)).putObj D (.deferred none)) R t (pA a b) ∧
    Below w.heap.size w (((W.setCell ⟨R, 0, none⟩ (.int .i64 a)).setCell ⟨R, 1, none⟩ (.int .i64 b)).putObj D (.deferred none)) := by
  have h1 : ((W.setCell ⟨R, 0, none⟩ (.int .i64 a)).setCell ⟨R, 1, none⟩ (.int .i64 b)).heap[D]? = some (.deferred (some [])) :=
    (Below.heap_setCell _ _ _ D (show D ≠ R by omega)).trans ((Below.heap_setCell _ _ _ D (show D ≠ R by omega)).trans hK)
  refine ⟨h1, ?_, ?_⟩
  · exact (World.putObj_heap_other (show R ≠ D by omega)).trans ((wr.set_ 0 (.int .i64 a)).set_ 1 (.int .i64 b))
  · exact ((hB.setCell (p := ⟨R, 0, none⟩) hR _).setCell (p := ⟨R, 1, none⟩) hR _).trans (belowK_b (w := w) (Nat.le_refl _) _ D _ _ (by omega) h1 rfl rfl)
set_option maxRecDepth 100000 in
set_option maxHeartbeats 2000000 in
theorem common_raw (dp bp dq bq : Int) (w : World) : Calls Try.prog 13 #[.agg #[.int .i64 dp, .int .i64 bp], .agg #[.int .i64 dq, .int .i64 bq]] w fun e w' => (∃ k : Nat, k ≤ cnt dp bp ∧ (∀ j : Nat, j < k → bitI dq bq j = bitI dp bp j) ∧ (k = cnt dp bp ∨ bitI dq bq k ≠ bitI dp bp k) ∧
      e = .returned (.agg #[.int .i64 ((comF (ups dp bp k)).1), .int .i64 ((comF (ups dp bp k)).2)])) ∧ Below w.heap.size w w' := by
  obtain ⟨w0, hw0⟩ : ∃ w0, w0 = ((((w.alloc (.cells #[.int .i64 dp, .int .i64 bp] 23)).alloc (.cells #[.int .i64 dq, .int .i64 bq] 23)).alloc (.cells #[.int .i64 0, .int .i64 0] 23)).alloc (.cells #[.int .i64 0, .int .i64 0] 23)).alloc (.cells #[.int .i64 dp, .int .i64 bp] 23) := ⟨_, rfl⟩
  have hs0 : Since w w0 := by rw [hw0]; exact (((((Since.refl w).alloc _).alloc _).alloc _).alloc _).alloc _
  have wh0 : Whole w0 (w.heap.size) 23 #[.int .i64 dp, .int .i64 bp] := by rw [hw0]; exact ((((Whole.new w _ _).alloc _).alloc _).alloc _).alloc _
  have wh1 : Whole w0 (w.heap.size + 1) 23 #[.int .i64 dq, .int .i64 bq] := by rw [hw0]; exact ((((Whole.new (w.alloc _) _ _).alloc _).alloc _).alloc _).at_ (by simp)
  have wh2 : Whole w0 (w.heap.size + 1 + 1) 23 #[.int .i64 0, .int .i64 0] := by rw [hw0]; exact (((Whole.new ((w.alloc _).alloc _) _ _).alloc _).alloc _).at_ (by simp)
  have wh3 : Whole w0 (w.heap.size + 1 + 1 + 1) 23 #[.int .i64 0, .int .i64 0] := by rw [hw0]; exact ((Whole.new (((w.alloc _).alloc _).alloc _) _ _).alloc _).at_ (by simp)
  have wh4 : Whole w0 (w.heap.size + 1 + 1 + 1 + 1) 23 #[.int .i64 dp, .int .i64 bp] := by rw [hw0]; exact (Whole.new ((((w.alloc _).alloc _).alloc _).alloc _) _ _).at_ (by simp)
  have HW := Lib.hid hw0
  have c0_0 := box_cell wh0 0 (.int .i64 dp) rfl
  have c0_1 := box_cell wh0 1 (.int .i64 bp) rfl
  have c1_0 := box_cell wh1 0 (.int .i64 dq) rfl
  have c1_1 := box_cell wh1 1 (.int .i64 bq) rfl
  have c2_0 := box_cell wh2 0 (.int .i64 0) rfl
  have c2_1 := box_cell wh2 1 (.int .i64 0) rfl
  have c3_0 := box_cell wh3 0 (.int .i64 0) rfl
  have c3_1 := box_cell wh3 1 (.int .i64 0) rfl
  have c4_0 := box_cell wh4 0 (.int .i64 dp) rfl
  have c4_1 := box_cell wh4 1 (.int .i64 bp) rfl
  have hsr := Since.refl w0
  have hsd := hsr.drew
  clear hw0
  have hsz : w0.heap.size = w.heap.size + 5 := by rw [HW.out]; simp
  refine (callsIn_wide (n := 3)).1 ?_
  refine callsIn_of_wp_marks Try.func13 rfl trivial ?_ rfl
  refine wpIn_wide.2 ?_
  simp only [Try.ntmps13, List.size_toArray, List.length_cons, List.length_nil, Nat.reduceAdd, Nat.reduceSub, Array.replicate_succ, Array.replicate_zero, List.push_toArray, List.append_toArray, List.nil_append, List.cons_append]
  go_wp2_with (go_at_call 37; (with_reducible refine (halves_any _ _ _).mono ?_); rintro e w' ⟨rfl, rfl⟩)
  refine (wpIn_wide (n := 3)).1 ?_
  rw [← HW.out]
  clear c0_0 c0_1 c1_0 c1_1 c2_0 c2_1 c3_0 c3_1 c4_0 c4_1
  refine wpIn_rangeFunc_ownG rfl (by omega) (gf := 49) (lb := #[.pointer (some ⟨w.heap.size + 1 + 1 + 1 + 1, 0, none⟩)]) rfl trivial (enters_of Try.func49 (by kernel_rfl) rfl) (iter_stops _ _ dp bp w0 wh4) KB.t (KB.b wh4.lt) (Below.refl _ _) (fun _ => rfl)
    (fun pre W => (Whole W (w.heap.size + 1 + 1 + 1) 23 (pA (comF pre).1 (comF pre).2) ∧ Whole W (w.heap.size + 1) 23 (pA dq bq) ∧ Whole W (w.heap.size + 1 + 1) 23 (pA 0 0) ∧ Whole W (w.heap.size + 1 + 1 + 1 + 1) 23 (pA dp bp) ∧ Below w.heap.size w W) ∧ ∀ y ∈ pre, bitI dq bq y.1 = y.2)
    (fun c pre W => ∃ pre' x, (c = .exit 0 ∧ pre = pre' ++ [x] ∧ bitI dq bq x.1 ≠ x.2 ∧ ∀ y ∈ pre', bitI dq bq y.1 = y.2) ∧ Whole W (w.heap.size + 1 + 1 + 1) 23 (pA (comF pre').1 (comF pre').2) ∧ Whole W (w.heap.size + 1 + 1) 23 (pA 0 0) ∧ Below w.heap.size w W)
    (fun pre W W' row hs hg hr => ⟨⟨whole_from (B := w0.heap.size) (by omega) (fun _ : Unit => _) () W W' row hs.1.1 hg hr, whole_from (B := w0.heap.size) (by omega) (fun _ : Unit => _) () W W' row hs.1.2.1 hg hr, whole_from (B := w0.heap.size) (by omega) (fun _ : Unit => _) () W W' row hs.1.2.2.1 hg hr, whole_from (B := w0.heap.size) (by omega) (fun _ : Unit => _) () W W' row hs.1.2.2.2.1 hg hr, ownFrom_below (Nat.le_refl _) (by omega) () W W' row hs.1.2.2.2.2 hg hr⟩, hs.2⟩)
    (fun c pre W W' row hs hg hr => by
      obtain ⟨pre', x, h1, h2, h3, h4⟩ := hs
      exact ⟨pre', x, h1, whole_from (B := w0.heap.size) (by omega) (fun _ : Unit => _) () W W' row h2 hg hr, whole_from (B := w0.heap.size) (by omega) (fun _ : Unit => _) () W W' row h3 hg hr, ownFrom_below (Nat.le_refl _) (by omega) () W W' row h4 hg hr⟩)
    ⟨⟨wh3, wh1, wh2, wh4, hs0⟩, fun y hy => by cases hy⟩
    (fun x => { tmps := #[.agg #[.int .i64 dp, .int .i64 bp], .agg #[.int .i64 dq, .int .i64 bq], .pointer (some ⟨w.heap.size, 0, none⟩), .pointer (some ⟨w.heap.size + 1, 0, none⟩), .pointer (some ⟨w.heap.size + 1 + 1, 0, none⟩), .pointer (some ⟨w.heap.size + 1 + 1 + 1, 0, none⟩), .int .i64 x.1, .int .i64 x.2, .agg #[.int .i64 0, .int .i64 0], .agg #[.int .i64 dp, .int .i64 bp], .func (.func 49) #[] #[.pointer (some ⟨w.heap.size + 1 + 1 + 1 + 1, 0, none⟩)], .int .i64 x.1, .int .i64 x.2, undef, undef, undef, undef, undef, undef, undef, undef, undef], defers := [] }) ?assign ?body ?done ?stop
  case assign =>
    intro l x W K hK
    gi_wp2
    exact hK
  case body =>
    rintro l pre x W ⟨⟨wc, wq, wr, wg, hB⟩, hag⟩ hlen
    have q1 := wq.cell 0
    have q2 := wq.cell 1
    have hltq := wq.lt
    have hltc := wc.lt
    have hltr := wr.lt
    have hltg := wg.lt
    have HL := Lib.hid hlen
    clear hlen
    cases hx : bitI dq bq x.1 == x.2
    · gi_wp2_with (refine ⟨trivial, ?_⟩; gi_at_call 38; refine (CallsIn.inRound l (callsIn_wide.2 (bit_any _ _ _ _))).mono ?_; rintro e w1 ⟨rfl, hb1⟩)
      exact ⟨keeps_below hb1, pre, x, ⟨rfl, rfl, fun e => by rw [e] at hx; simp at hx, hag⟩, wc.below hb1 hltc, wr.below hb1 hltr, hB.trans (hb1.mono hB.size)⟩
    · gi_wp2_with (first
        | (refine ⟨trivial, ?_⟩; gi_at_call 38; refine (CallsIn.inRound l (callsIn_wide.2 (bit_any _ _ _ _))).mono ?_; rintro e w1 ⟨rfl, hb1⟩; have wc1 := wc.below hb1 hltc; have x1 := wc1.cell 0; have x2 := wc1.cell 1)
        | (refine ⟨trivial, ?_⟩; gi_at_call 39; refine (CallsIn.inRound l (callsIn_wide.2 (with_any _ _ _ _))).mono ?_; rintro e w2 ⟨rfl, hb2⟩; have hb3 := hb1.trans (hb2.mono hb1.size); have wc2 := wc.below hb3 hltc; have x3 := wc2.frozen 0; have x4 := wc2.frozen 1; have x5 := wc2.cell 0; have x6 := wc2.cell 1))
      exact ⟨((keeps_below hb3).trans (keeps_set _ _ _ _)).trans (keeps_set _ _ _ _), ((KB.below hb3 hltg).set (p := ⟨w.heap.size + 1 + 1 + 1, 0, none⟩) (by simp) _).set (p := ⟨w.heap.size + 1 + 1 + 1, 1, none⟩) (by simp) _,
        ⟨⟨by rw [comF_snoc]; exact (wc2.set_ 0 _).set_ 1 _, ((wq.below hb3 hltq).far (p := ⟨w.heap.size + 1 + 1 + 1, 0, none⟩) (by simp) _).far (p := ⟨w.heap.size + 1 + 1 + 1, 1, none⟩) (by simp) _,
          ((wr.below hb3 hltr).far (p := ⟨w.heap.size + 1 + 1 + 1, 0, none⟩) (by simp) _).far (p := ⟨w.heap.size + 1 + 1 + 1, 1, none⟩) (by simp) _,
          ((wg.below hb3 hltg).far (p := ⟨w.heap.size + 1 + 1 + 1, 0, none⟩) (by simp) _).far (p := ⟨w.heap.size + 1 + 1 + 1, 1, none⟩) (by simp) _,
          ((hB.trans (hb3.mono hB.size)).setCell (p := ⟨w.heap.size + 1 + 1 + 1, 0, none⟩) (by simp; omega) _).setCell (p := ⟨w.heap.size + 1 + 1 + 1, 1, none⟩) (by simp; omega) _⟩,
         fun y hy => by
          rcases List.mem_append.1 hy with h | h
          · exact hag y h
          · rw [List.mem_singleton.1 h]
            exact eq_of_beq hx⟩⟩
  case done =>
    rintro D xs W hD rfl ⟨⟨wc, wq, wr, wg, hB⟩, hag⟩ hK
    have x1 := wc.cell 0
    have x2 := wc.cell 1
    have x3 := wr.frozen 0
    have x4 := wr.frozen 1
    have x5 := wr.cell 0
    have x6 := wr.cell 1
    go_wp2
    obtain ⟨y1, y2, y3⟩ := two_end (comF (ups dp bp (cnt dp bp))).1 (comF (ups dp bp (cnt dp bp))).2 wr hB (by omega) (show w.heap.size + 1 + 1 < D by omega) hK
    have y4 := y2.cell 0
    have y5 := y2.cell 1
    refine ⟨by simp, .inl ⟨_, _, rfl, run_takeDeferred y1, ?_⟩⟩
    exact ⟨_, by simp [results, Try.results13, go_sem, y4, y5], ⟨cnt dp bp, Nat.le_refl _, fun j hj => hag ((j : Int), bitI dp bp j) (ups_mem hj), .inl rfl, rfl⟩, y3⟩
  case stop =>
    rintro D c pre W hD ⟨k, hk, hpre⟩ ⟨pre', x, ⟨rfl, h1, h2, h3⟩, wc, wr, hB⟩ hK
    have x1 := wc.cell 0
    have x2 := wc.cell 1
    have x3 := wr.frozen 0
    have x4 := wr.frozen 1
    have x5 := wr.cell 0
    have x6 := wr.cell 1
    refine wpIn_wide.2 ?_
    go_wp2
    obtain ⟨m, rfl, hx, rfl⟩ := ups_last (hpre.symm.trans h1)
    obtain ⟨y1, y2, y3⟩ := two_end (comF (ups dp bp m)).1 (comF (ups dp bp m)).2 wr hB (by omega) (show w.heap.size + 1 + 1 < D by omega) hK
    have y4 := y2.cell 0
    have y5 := y2.cell 1
    refine ⟨by simp, .inl ⟨_, _, rfl, run_takeDeferred y1, ?_⟩⟩
    exact ⟨_, by simp [results, Try.results13, go_sem, y4, y5], ⟨m, by omega, fun j hj => h3 ((j : Int), bitI dp bp j) (ups_mem hj), .inr (by rw [hx] at h2; exact h2), rfl⟩, y3⟩
/-- How many of the first n agree. -/
def cplN (f g : Nat → Int) : Nat → Nat
  | 0 => 0
  | n + 1 => if cplN f g n = n ∧ f n = g n then n + 1 else cplN f g n
theorem cplN_spec (f g : Nat → Int) : ∀ n, cplN f g n ≤ n ∧ (∀ j, j < cplN f g n → f j = g j) ∧ (cplN f g n = n ∨ f (cplN f g n) ≠ g (cplN f g n))
  | 0 => ⟨Nat.le_refl _, fun j h => absurd h (Nat.not_lt_zero j), .inl rfl⟩
  | n + 1 => by
    obtain ⟨h1, h2, h3⟩ := cplN_spec f g n
    unfold cplN
    split
    · next h =>
      refine ⟨Nat.le_refl _, fun j hj => ?_, .inl rfl⟩
      by_cases e : j = n
      · rw [e]; exact h.2
      · exact h2 j (by omega)
    · next h =>
      refine ⟨by omega, h2, ?_⟩
      rcases h3 with h3 | h3
      · rw [h3]
        exact .inr fun e => h ⟨h3, e⟩
      · exact .inr h3
theorem cplN_uniq {f g : Nat → Int} {n k : Nat} (h1 : k ≤ n) (h2 : ∀ j, j < k → f j = g j) (h3 : k = n ∨ f k ≠ g k) : k = cplN f g n := by
  obtain ⟨g1, g2, g3⟩ := cplN_spec f g n
  rcases Nat.lt_trichotomy k (cplN f g n) with h | h | h
  · rcases h3 with e | e
    · omega
    · exact absurd (g2 k h) e
  · exact h
  · rcases g3 with e | e
    · omega
    · exact absurd (h2 _ h) e
/-- How many halves p and q begin with alike. -/
def cpl (dp bp dq bq : Int) : Nat := cplN (fun j => bitI dq bq j) (fun j => bitI dp bp j) (cnt dp bp)
/-- Those halves. -/
def comB (dp bp dq bq : Int) : Int := if fine dp bp = true then pv dp bp (cpl dp bp dq bq) else 0
theorem comF_ups {d b : Int} (h : fine d b = true) : ∀ k : Nat, (k : Int) ≤ d → comF (ups d b k) = ((k : Int), pv d b k)
  | 0, _ => by rw [show ((0 : Nat) : Int) = 0 from rfl, pv_zero h]; rfl
  | k + 1, hk => by
    have hd := ((fine_iff d b).1 h).2.1
    have h1 := comF_ups h k (by omega)
    have h2 := pv_bd (m := k) h
    have h3 := fine_bd h
    have h4 := bitI_yes h (Int.natCast_nonneg k) (show (k : Int) < d by omega)
    rw [ups_succ, comF_snoc, h1, wthD_in (by omega) (by omega), or_half h2.1 (by omega) (by omega) (by omega), show ((k + 1 : Nat) : Int) = (k : Int) + 1 by omega, pv_succ h (by omega) (by omega)]
theorem common_any (dp bp dq bq : Int) (w : World) : Calls Try.prog 13 #[.agg #[.int .i64 dp, .int .i64 bp], .agg #[.int .i64 dq, .int .i64 bq]] w fun e w' => e = .returned (.agg #[.int .i64 ((cpl dp bp dq bq : Int)), .int .i64 (comB dp bp dq bq)]) ∧ Below w.heap.size w w' := by
  refine (common_raw dp bp dq bq w).mono ?_
  rintro e w' ⟨⟨k, h1, h2, h3, rfl⟩, hb⟩
  have hk : k = cpl dp bp dq bq := cplN_uniq h1 h2 h3
  refine ⟨?_, hb⟩
  unfold comB
  rw [← hk]
  cases hf : fine dp bp with
  | false =>
    rw [cnt_no hf] at h1
    obtain rfl : k = 0 := by omega
    rfl
  | true =>
    have hd := (fine_iff dp bp).1 hf
    rw [cnt_yes hf] at h1
    rw [comF_ups hf k (by omega)]
    rfl
end Go.Proofs.Ytilkifjdonafnaa
