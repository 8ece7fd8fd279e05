/- quad's part: its four new quarters, and the records put into them one by one. -/
import Derived.Test.YthfhpejpjiaikaaGreatK14
namespace Go.Proofs.YthfhpejpjiaikaaGreat
open Go.RowKit
set_option linter.unusedVariables false
set_option linter.unusedSimpArgs false
/-- A node's quarters while it is parted: all are new since WC. -/
structure Qs4 (WC : World) (g n : Nat) (b : Rc) (v : Value) (q : Nat → QN) (W : World) : Prop where
  off : Off (fun c => c = g) WC W
  w : Whole W g 71 (ncells b n v fun i => (q i).v)
  a : ∀ i, i < 4 → (q i).At W ∧ (q i).Sep
  new : ∀ i, i < 4 → ∀ c ∈ (q i).bl, WC.heap.size ≤ c
  sep : ∀ i j, i < 4 → j < 4 → i ≠ j → ∀ c ∈ (q i).bl, c ∉ (q j).bl
section
variable {WC W W' : World} {g n : Nat} {b : Rc} {v : Value} {q : Nat → QN}
theorem Qs4.qs (h : Qs4 WC g n b v q W) : QsAt W g (ncells b n v fun i => (q i).v) q := ⟨h.w, fun i hi => ncells_q _ _ _ _ i hi, fun i hi => (h.a i hi).1⟩
theorem Qs4.since (h : Qs4 WC g n b v q W) (hs : Since W W') : Qs4 WC g n b v q W' := ⟨h.off.since hs, Since.whole hs h.w, fun i hi => ⟨(h.a i hi).1.since hs, (h.a i hi).2⟩, h.new, h.sep⟩
theorem Qs4.start (h : Whole W g 71 (ncells b n v noQ)) : Qs4 W g n b v (fun _ => .nil) W :=
  ⟨Off.refl _ _, h, fun i _ => ⟨trivial, trivial⟩, fun i _ c hc => (nomatch hc), fun i j _ _ _ c hc => (nomatch hc)⟩
theorem ncells_set (p : QN) {m : Nat} (hm : m < 4) : (ncells b n v fun i => (q i).v).setIfInBounds (6 + m) p.v = ncells b n v fun i => (updQ q m p i).v := by
  rcases (show m = 0 ∨ m = 1 ∨ m = 2 ∨ m = 3 by omega) with rfl | rfl | rfl | rfl <;> rfl
theorem Qs4.leaf (h : Qs4 WC g n b v q W) (hgW : g < WC.heap.size) {m : Nat} (hm : m < 4) (hs : Since W W') {NB : Nat} {c : Rc} (hw : Whole W' NB 71 (ncells c 0 (.slice none 0 0) noQ)) (hNB : W.heap.size ≤ NB) :
    Qs4 WC g n b v (updQ q m (.leaf NB (.slice none 0 0) c [])) (W'.setCell ⟨g, 6 + m, none⟩ (.pointer (some ⟨NB, 0, none⟩))) := by
  have hsz := h.off.size
  have hlt := fun i hi => (h.a i hi).1.lt
  have hmem : ∀ d ∈ (QN.leaf NB (.slice none 0 0) c []).bl, d = NB := fun d hd => by
    rcases List.mem_cons.1 hd with e | e
    · exact e
    · cases e
  have hkeep : ∀ d, d ≠ g → (W'.setCell ⟨g, 6 + m, none⟩ (.pointer (some ⟨NB, 0, none⟩))).heap[d]? = W'.heap[d]? := fun d hd => Below.heap_setCell W' ⟨g, 6 + m, none⟩ _ d hd
  refine ⟨(h.off.since hs).setCell (p := ⟨g, 6 + m, none⟩) (.inr rfl) _, ?_, fun i hi => ?_, fun i hi d hd => ?_, fun i j hi hj hij d hdi hdj => ?_⟩
  · have z := Whole.set_ (Since.whole hs h.w) (6 + m) (QN.leaf NB (.slice none 0 0) c []).v
    rw [ncells_set _ hm] at z
    exact z
  · by_cases e : i = m
    · subst e
      rw [updQ_same]
      exact ⟨⟨(hkeep NB (by omega)).trans hw, RowE.nil _ _ _⟩, fun z => (nomatch z)⟩
    · rw [updQ_ne e]
      exact ⟨((h.a i hi).1.since hs).keep (fun d hd => hkeep d (by have := h.new i hi d hd; omega)), (h.a i hi).2⟩
  · by_cases e : i = m
    · subst e
      rw [updQ_same] at hd
      have := hmem d hd
      omega
    · rw [updQ_ne e] at hd; exact h.new i hi d hd
  · by_cases e : i = m
    · subst e
      rw [updQ_same] at hdi
      rw [updQ_ne (fun z => hij z.symm)] at hdj
      have := hmem d hdi; have := hlt j hj d hdj; omega
    · rw [updQ_ne e] at hdi
      by_cases e2 : j = m
      · subst e2
        rw [updQ_same] at hdj
        have := hmem d hdj; have := hlt i hi d hdi; omega
      · rw [updQ_ne e2] at hdj
        exact h.sep i j hi hj hij d hdi hdj
theorem Qs4.put (h : Qs4 WC g n b v q W) (hgW : g < WC.heap.size) {t : Nat} (ht : t < 4) {p : QN} (hp : p.At W') (hps : p.Sep) (hv : p.v = (q t).v) (ho : Off (fun c => c ∈ (q t).bl) W W') (hb : ∀ c ∈ p.bl, c ∈ (q t).bl ∨ W.heap.size ≤ c) :
    Qs4 WC g n b v (updQ q t p) W' := by
  have hsz := h.off.size
  have hlt := fun i hi => (h.a i hi).1.lt
  refine ⟨h.off.trans ho (fun c hc z => by have := h.new t ht c z; omega), ?_, fun i hi => ?_, fun i hi d hd => ?_, fun i j hi hj hij d hdi hdj => ?_⟩
  · rw [ncells_updQ hv]
    exact ho.whole h.w (fun z => by have := h.new t ht g z; omega)
  · by_cases e : i = t
    · subst e; rw [updQ_same]; exact ⟨hp, hps⟩
    · rw [updQ_ne e]
      exact ⟨(h.a i hi).1.off ho (fun c hc => h.sep i t hi ht e c hc), (h.a i hi).2⟩
  · by_cases e : i = t
    · subst e
      rw [updQ_same] at hd
      rcases hb d hd with z | z
      · exact h.new i hi d z
      · omega
    · rw [updQ_ne e] at hd; exact h.new i hi d hd
  · by_cases e : i = t
    · subst e
      rw [updQ_same] at hdi
      rw [updQ_ne (fun z => hij z.symm)] at hdj
      rcases hb d hdi with z | z
      · exact h.sep i j hi hj hij d z hdj
      · have := hlt j hj d hdj; omega
    · rw [updQ_ne e] at hdi
      by_cases e2 : j = t
      · subst e2
        rw [updQ_same] at hdj
        rcases hb d hdj with z | z
        · exact h.sep i j hi hj hij d hdi z
        · have := hlt i hi d hdi; omega
      · rw [updQ_ne e2] at hdj
        exact h.sep i j hi hj hij d hdi hdj
end
theorem Since.set2 {w0 W : World} (h : Since w0 W) {g : Nat} (hg : w0.heap.size ≤ g) (a b : Value) : Since w0 ((W.setCell ⟨g, 0, none⟩ a).setCell ⟨g, 1, none⟩ b) :=
  (h.setCell (p := ⟨g, 0, none⟩) hg _).setCell (p := ⟨g, 1, none⟩) hg _
theorem Whole.set2 {W : World} {g : Nat} {t : TypeId} {x y : Value} (h : Whole W g t #[x, y]) (a b : Value) : Whole ((W.setCell ⟨g, 0, none⟩ a).setCell ⟨g, 1, none⟩ b) g t #[a, b] := (h.set_ 0 a).set_ 1 b
theorem SortQ.take {L : List Rq} (h : SortQ L) (j : Nat) : SortQ (L.take j) := List.Pairwise.sublist (List.take_sublist _ _) h
/-- The next record of a list in order comes last. -/
theorem putQ_next {L : List Rq} (hs : SortQ L) {j : Nat} (hj : j < L.length) : putQ (L.take j) L[j] = L.take (j + 1) := by
  have e : L.take (j + 1) = L.take j ++ [L[j]] := (List.take_append_getElem hj).symm
  refine sort_ext (putQ_sort (hs.take j) _) (hs.take _) (fun s => ?_)
  rw [putQ_mem (hs.take j), e, List.mem_append, List.mem_singleton]
  have hp : SortQ (L.take j ++ [L[j]]) := e ▸ hs.take (j + 1)
  have hlt : ∀ s ∈ L.take j, cmpQ s L[j] < 0 := fun s hs => (List.pairwise_append.1 hp).2.2 s hs _ (List.mem_singleton.2 rfl)
  constructor
  · rintro (z | z)
    · exact .inr z
    · exact .inl z.1
  · rintro (z | z)
    · exact .inr ⟨z, by have := hlt s z; omega⟩
    · exact .inl z
theorem area_q {a : Rc} (h : Good a) {i : Nat} (hi : i < 4) {A : Int} (hA : areaR (qtr a i) = A) : decide (0 < A) = neR (qtr a i) := by
  subst hA
  cases hn : neR (qtr a i) with
  | true =>
    have hg := qtr_good h hi hn
    have e : areaR (qtr a i) = (qtr a i).w * (qtr a i).h := by unfold areaR; rw [hg.fine]; rfl
    rw [e]
    exact decide_eq_true (Int.mul_pos (by have := hg.w1; omega) (by have := hg.h1; omega))
  | false =>
    refine decide_eq_false (fun z => ?_)
    have h3 := h.w1; have h4 := h.h1
    have hwh : (qtr a i).w = 0 ∨ (qtr a i).h = 0 := by
      unfold neR at hn
      have hn := of_decide_eq_false hn
      rcases (show i = 0 ∨ i = 1 ∨ i = 2 ∨ i = 3 by omega) with rfl | rfl | rfl | rfl <;> (simp [qtr] at hn ⊢; omega)
    unfold areaR at z
    rcases hwh with e | e
    · rw [e, Int.zero_mul] at z; split at z <;> omega
    · rw [e, Int.mul_zero] at z; split at z <;> omega
theorem leaf_ok {a : Rc} {NB : Nat} (hn : neR a = true) : (QN.leaf NB (.slice none 0 0) a []).Ok a [] := ⟨rfl, rfl, hn, fun z => absurd z (by simp)⟩
theorem qtr_val {b : Rc} {wa wb ha hb : Int} (h1 : b.w - b.w / 2 = wa) (h2 : b.w / 2 = wb) (h3 : b.h - b.h / 2 = ha) (h4 : b.h / 2 = hb) :
    qtr b 0 = ⟨b.x, b.y, wa, ha⟩ ∧ qtr b 1 = ⟨b.x + wa, b.y, wb, ha⟩ ∧ qtr b 2 = ⟨b.x, b.y + ha, wa, hb⟩ ∧ qtr b 3 = ⟨b.x + wa, b.y + ha, wb, hb⟩ := by
  subst h1 h2 h3 h4
  simp [qtr]
theorem ok_next_nil {q : Nat → QN} {b : Rc} {m : Nat} (hok : ∀ i, i < m → (q i).Ok (qtr b i) []) (hnil : ∀ i, m ≤ i → q i = .nil) (hn : neR (qtr b m) = false) : (∀ i, i < m + 1 → (q i).Ok (qtr b i) []) ∧ ∀ i, m + 1 ≤ i → q i = .nil := by
  refine ⟨fun i hi => ?_, fun i hi => hnil i (by omega)⟩
  rcases Nat.lt_or_eq_of_le (Nat.le_of_lt_succ hi) with z | z
  · exact hok i z
  · subst z; rw [hnil i (Nat.le_refl _)]; exact ⟨hn, rfl⟩
theorem ok_next_leaf {q : Nat → QN} {b c : Rc} {m NB : Nat} (hok : ∀ i, i < m → (q i).Ok (qtr b i) []) (hnil : ∀ i, m ≤ i → q i = .nil) (hn : neR (qtr b m) = true) (hc : qtr b m = c) : (∀ i, i < m + 1 → (updQ q m (.leaf NB (.slice none 0 0) c []) i).Ok (qtr b i) []) ∧ ∀ i, m + 1 ≤ i → updQ q m (.leaf NB (.slice none 0 0) c []) i = .nil := by
  subst hc
  refine ⟨fun i hi => ?_, fun i hi => ?_⟩
  · rcases Nat.lt_or_eq_of_le (Nat.le_of_lt_succ hi) with z | z
    · rw [updQ_ne (by omega)]; exact hok i z
    · subst z; rw [updQ_same]; exact leaf_ok hn
  · rw [updQ_ne (by omega)]; exact hnil i (by omega)
/-- One record put into its quarter. -/
theorem part_step {N : Int} (ih : PutC (N - 1)) {WC W : World} {g n : Nat} {b : Rc} {v : Value} {q : Nat → QN} {L : List Rq} (h : Qs4 WC g n b v q W) (hgW : g < WC.heap.size) {j : Nat} (hok : ∀ i, i < 4 → (q i).Ok (qtr b i) ((L.take j).filter (inQ (qtr b i)))) (hg : Good b) (hs : SortQ L)
    (hin : ∀ s ∈ L, inQ b s = true) (hl : L.length ≤ 1000) (hA : 1 < b.w * b.h) (hN : b.w + b.h ≤ N) (hj : j < L.length) {r : Rq} (hr : L[j] = r) :
    ∃ t, t < 4 ∧ (∀ i, i < 4 → (q i).hasC r.x r.y = decide (i = t)) ∧ ∀ W', Since W W' → Calls Tryz.prog 45 #[(q t).v, .agg #[.int .i64 r.x, .int .i64 r.y, .string r.key, .string r.val, .int .i64 r.ver]] W' fun e W2 => (∃ u, e = .returned u) ∧ Off (fun c => c ∈ (q t).bl) W' W2 ∧ ∃ q', Qs4 WC g n b v q' W2 ∧ ∀ i, i < 4 → (q' i).Ok (qtr b i) ((L.take (j + 1)).filter (inQ (qtr b i))) := by
  have hrL : inQ b r = true := hin r (hr ▸ List.getElem_mem hj)
  have ht := qix_lt b r.x r.y
  have hq := (qtr_has hg hrL ht).2 rfl
  refine ⟨qix b r.x r.y, ht, pick_one hok hg hrL, fun W' hW => ?_⟩
  have h' := h.since hW
  have hts := hs.take j
  have htl : (L.take j).length ≤ j := by rw [List.length_take]; omega
  have hfl : ((L.take j).filter (inQ (qtr b (qix b r.x r.y)))).length ≤ (L.take j).length := filter_len _
  refine (ih _ (qtr b (qix b r.x r.y)) ((L.take j).filter (inQ (qtr b (qix b r.x r.y)))) r W' ⟨(h'.a _ ht).1, (h'.a _ ht).2, hok _ ht, qtr_good hg ht hq.1, hts.filter _, fun s hs => (List.mem_filter.1 hs).2, by omega⟩ (by rw [(hok _ ht).nil_iff, hq.1]; rfl) hq.2 (by omega) (by have := qtr_less hg hA ht; omega)).mono ?_
  rintro e W2 ⟨rfl, p, p1, p2, p3, p4, p5, p6⟩
  refine ⟨⟨_, rfl⟩, p5, _, h'.put hgW ht p2 p3 p1 p5 p6, fun i hi => ?_⟩
  have hnx := putQ_next hs hj
  rw [hr] at hnx
  rw [← hnx]
  by_cases e : i = qix b r.x r.y
  · subst e
    rw [updQ_same, put_part hts hq.2]
    exact p4
  · rw [updQ_ne e]
    exact other_put hg hts (fun s hs => hin s (List.mem_of_mem_take hs)) hrL hi e (hok i hi)
/-- The parted node. -/
theorem part_end {WC W : World} {g : Nat} {b : Rc} {v : Value} {q : Nat → QN} {L : List Rq} (h : Qs4 WC g L.length b v q W) (hgW : g < WC.heap.size) {j : Nat} (hj : L.length = j) (hok : ∀ i, i < 4 → (q i).Ok (qtr b i) ((L.take j).filter (inQ (qtr b i)))) (hg : Good b) (hA : 1 < b.w * b.h) (hl4 : 4 < L.length) :
    (QN.quad g L.length b q).At (W.setCell ⟨g, 5, none⟩ (.slice none 0 0)) ∧ (QN.quad g L.length b q).Sep ∧ (QN.quad g L.length b q).Ok b L ∧ Off (fun c => c = g) WC (W.setCell ⟨g, 5, none⟩ (.slice none 0 0)) ∧ ∀ c ∈ (QN.quad g L.length b q).bl, c = g ∨ WC.heap.size ≤ c := by
  have hkeep : ∀ d, d ≠ g → (W.setCell ⟨g, 5, none⟩ (.slice none 0 0)).heap[d]? = W.heap[d]? := fun d hd => Below.heap_setCell W ⟨g, 5, none⟩ _ d hd
  have hw : Whole (W.setCell ⟨g, 5, none⟩ (.slice none 0 0)) g 71 (ncells b L.length (.slice none 0 0) fun i => (q i).v) := Whole.set_ h.w 5 (.slice none 0 0)
  refine ⟨⟨hw, fun i hi => (h.a i hi).1.keep (fun c hc => hkeep c (by have := h.new i hi c hc; omega))⟩, ⟨fun i hi => ⟨(h.a i hi).2, fun z => by have := h.new i hi g z; omega⟩, h.sep⟩, ⟨rfl, rfl, ?_, hl4, hA, fun i hi => ?_⟩, h.off.setCell (p := ⟨g, 5, none⟩) (.inr rfl) _, fun c hc => ?_⟩
  · unfold neR
    have := hg.w1; have := hg.h1
    exact decide_eq_true (by omega)
  · have z := hok i hi
    rw [← hj, List.take_length] at z
    exact z
  · rcases bl_quad.1 hc with z | ⟨i, hi, z⟩
    · exact .inl z
    · exact .inr (h.new i hi c z)
end Go.Proofs.YthfhpejpjiaikaaGreat
