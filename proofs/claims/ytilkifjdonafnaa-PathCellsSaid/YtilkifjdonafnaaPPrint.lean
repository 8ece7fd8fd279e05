/- path.Print: a path's text. -/
import Derived.Test.YtilkifjdonafnaaPCommon
import Derived.Maps.AppendAt
import Derived.Laws.IdiomStrings
import Derived.Lib.BufferRead
namespace Go.Proofs.Ytilkifjdonafnaa
open Go.RowKit Go.Shelf
attribute [local go_sem] Oper.semAt_some
theorem infoU8 : (Try.prog.info? 5).map (fun i => (i.zero, i.size, i.bytes)) = some (some (.int .u8 0), 1, 1) := by kernel_rfl
set_option maxHeartbeats 400000 in
theorem print_whole (w : World) : Calls Try.prog 31 #[.agg #[.int .i64 0, .int .i64 0]] w fun e w' => e = .returned (.string ⟨#[45]⟩) ∧ Below w.heap.size w w' := by
  go_enter Try.func31, Try.ntmps31
  go_wp2
  go_ret
  exact ⟨rfl, (Since.refl w).alloc _⟩
theorem row_mono {W : World} {base base' : Nat} {e : TypeId} {size : Nat} {v : Value} {n : Nat} {xs : List Value} (h : W.ownsRow base e size v n xs) (hb : base' ≤ base) : W.ownsRow base' e size v n xs :=
  ⟨h.1, h.2.imp id fun ⟨g, cap, cur, a, b, rest⟩ => ⟨g, cap, cur, a, Nat.le_trans hb b, rest⟩⟩
/-- A half's digit. -/
def dig (h : Int) : UInt8 := UInt8.ofNat (wrap64 (48 + h) % 256).toNat
theorem dig_nat (h : Int) : ((dig h).toNat : Int) = wrap64 (48 + h) % 256 := by
  unfold dig
  rw [UInt8.toNat_ofNat']
  omega
abbrev encD (x : Int × Int) : Value := .int .u8 ((dig x.2).toNat : Int)
/-- A row of bytes as a text. -/
theorem text_row {W : World} {base : Nat} {v : Value} {pre : List (Int × Int)} (h : W.ownsRow base 5 1 v pre.length (pre.map encD)) : (convert 67 9 v).run Try.prog W = .ok (.string ⟨(pre.map fun x => dig x.2).toArray⟩) W := by
  have hcs : ∀ g, v.ownBlock = some g → ∀ j (hj : j < (pre.map fun x => dig x.2).length), W.cell? ((⟨g, 0, none⟩ : Addr).add j) = some (.int .u8 (((pre.map fun x => dig x.2)[j]).toNat : Int)) := fun g hg j hj => by
    refine h.cells hg j _ ?_
    have hj' : j < pre.length := by simpa using hj
    simp [hj']
  rcases h.2 with ⟨rfl, h0⟩ | ⟨g, cap, cur, rfl, _, _, _, _, _, _⟩
  · rw [List.length_eq_zero_iff] at h0
    subst h0
    exact Lib.run_convert_nil_bytes W _ _ 5 0 Try.underlying67 Try.underlying5 Try.underlying9
  · have h1 := run_convert_bytes_back (P := Try.prog) W 67 9 5 ⟨g, 0, none⟩ cap (pre.map fun x => dig x.2) Try.underlying67 Try.underlying5 Try.underlying9 (hcs g rfl)
    rwa [List.length_map] at h1
/-- What lies between two rounds of Print. -/
structure PrI (w : World) (N : Nat) (d b : Int) (pre : List (Int × Int)) (W : World) : Prop where
  row : ∃ v, Boxed W (w.heap.size + 1) 67 v ∧ W.ownsRow N 5 1 v pre.length (pre.map encD) ∧ True
  path : Whole W (w.heap.size + 1 + 1) 23 (pA d b)
  bel : Below w.heap.size w W
theorem PrI.own (w : World) {N : Nat} (d b : Int) (hN : w.heap.size + 1 + 1 < N) : OwnFrom N (PrI w N d b) := fun pre W W' row hs hg hr =>
  ⟨(holdsRow_own N (w.heap.size + 1) 67 5 1 (fun pre : List (Int × Int) => pre.length) (fun pre => pre.map encD) (fun _ _ => True)).from N pre W W' row hs.row hg hr,
   whole_from (B := N) hN (fun _ : Unit => _) () W W' row hs.path hg hr, ownFrom_below (B := N) (Nat.le_refl _) (by omega) () W W' row hs.bel hg hr⟩
set_option maxRecDepth 100000 in
set_option maxHeartbeats 800000 in
theorem print_raw (d b : Int) (w : World) (hz : ¬ (d = 0 ∧ b = 0)) : Calls Try.prog 31 #[.agg #[.int .i64 d, .int .i64 b]] w fun e w' => e = .returned (.string ⟨((ups d b (cnt d b)).map fun x => dig x.2).toArray⟩) ∧ Below w.heap.size w w' := by
  obtain ⟨i0, hi, hz0, hz1, hz2⟩ := info_parts infoU8
  obtain ⟨w0, hw0⟩ : ∃ w0, w0 = ((w.alloc (.cells #[.int .i64 d, .int .i64 b] 23)).alloc (.cells #[.slice none 0 0] 67)).alloc (.cells #[.int .i64 d, .int .i64 b] 23) := ⟨_, rfl⟩
  have hs0 : Since w w0 := by rw [hw0]; exact (((Since.refl w).alloc _).alloc _).alloc _
  have wh0 : Whole w0 (w.heap.size) 23 #[.int .i64 d, .int .i64 b] := by rw [hw0]; exact ((Whole.new w _ _).alloc _).alloc _
  have wh1 : Whole w0 (w.heap.size + 1) 67 #[.slice none 0 0] := by rw [hw0]; exact ((Whole.new (w.alloc _) _ _).alloc _).at_ (by simp)
  have wh2 : Whole w0 (w.heap.size + 1 + 1) 23 #[.int .i64 d, .int .i64 b] := by rw [hw0]; exact (Whole.new ((w.alloc _).alloc _) _ _).at_ (by simp)
  have HW := Lib.hid hw0
  have c0_0 := box_cell wh0 0 (.int .i64 d) rfl
  have c0_1 := box_cell wh0 1 (.int .i64 b) rfl
  have c1_0 := box_cell wh1 0 (.slice none 0 0) rfl
  have c2_0 := box_cell wh2 0 (.int .i64 d) rfl
  have c2_1 := box_cell wh2 1 (.int .i64 b) rfl
  have hsr := Since.refl w0
  have hsd := hsr.drew
  clear hw0
  clear c0_0 c0_1 c1_0 c2_0 c2_1
  have hsz : w0.heap.size = w.heap.size + 3 := by rw [HW.out]; simp
  have hcn : cnt d b ≤ 32 := by
    unfold cnt
    split
    · next h => have := ((fine_iff d b).1 h).2.1; omega
    · omega
  have hq : (d == 0) = false ∨ ((d == 0) = true ∧ (b == 0) = false) := by
    simp only [beq_iff_eq, beq_eq_false_iff_ne]
    omega
  clear hz
  refine (callsIn_wide (n := 3)).1 ?_
  refine callsIn_of_wp_marks Try.func31 rfl trivial ?_ rfl
  refine wpIn_wide.2 ?_
  simp only [Try.ntmps31, List.size_toArray, List.length_cons, List.length_nil, Nat.reduceAdd, Nat.reduceSub, Array.replicate_succ, Array.replicate_zero, List.push_toArray, List.append_toArray, List.nil_append, List.cons_append]
  rcases hq with hq | ⟨hq, hq2⟩
  all_goals
    go_wp2_with (go_at_call 37; (with_reducible refine (halves_any _ _ _).mono ?_); rintro e w' ⟨rfl, rfl⟩)
    refine (wpIn_wide (n := 3)).1 ?_
    rw [← HW.out]
    refine wpIn_rangeFunc_ownG rfl (by omega) (gf := 49) (lb := #[.pointer (some ⟨w.heap.size + 1 + 1, 0, none⟩)]) rfl trivial (enters_of Try.func49 (by kernel_rfl) rfl) (iter_stops _ _ d b w0 wh2) KB.t (KB.b wh2.lt) (Below.refl _ _) (fun _ => rfl)
      (PrI w w0.heap.size d b)
      (fun _ _ _ => False)
      (PrI.own w d b wh2.lt)
      (fun _ _ _ _ _ hs _ _ => hs)
      ⟨⟨.slice none 0 0, wh1, World.ownsRow_nil _ _ _ _, trivial⟩, wh2, hs0⟩
      (fun x => { tmps := #[.agg #[.int .i64 d, .int .i64 b], .pointer (some ⟨w.heap.size, 0, none⟩), .string ⟨#[]⟩, .pointer (some ⟨w.heap.size + 1, 0, none⟩), undef, .int .i64 x.2, .agg #[.int .i64 d, .int .i64 b], .agg #[.int .i64 0, .int .i64 0], .bool false, .agg #[.int .i64 d, .int .i64 b], .func (.func 49) #[] #[.pointer (some ⟨w.heap.size + 1 + 1, 0, none⟩)], .int .i64 x.1, .int .i64 x.2, undef, undef, undef, undef, undef, undef, undef, undef], defers := [] }) ?assign ?body ?done ?stop
    case assign =>
      intro l x W K hK
      gi_wp2
      exact hK
    case body =>
      rintro l pre x W ⟨⟨v, hv, hrow, _⟩, wg, hB⟩ hlt
      have hc := hv.cell
      have hltg := wg.lt
      have HL := Lib.hid hlt
      clear hlt
      have hl : pre.length < 32 := by have := HL.out; omega
      have hdn := Lib.hid (dig_nat x.2)
      have hszW : w0.heap.size ≤ W.heap.size := by omega
      gi_wp2_with (gi_at_builtin; refine wpListIn_append_own _ rfl _ _ 67 rfl w0.heap.size 5 i0 (.int .u8 0) 1 1 Try.underlying67 hi hz0 hz1 hz2 rfl (by decide) _ _ _ rfl (hrow.alloc _) ⟨W.heap.size, 0, none⟩ 1 1 [encD x] rfl rfl (by rw [← hdn.out]; exact cell_one_new _ _ _) (by simp [Value.oneCell']) (Nat.le_trans (show _ ≤ 33 by omega) (by decide)) (by omega) (by simp; omega) ?_; intro v' w1 hown' hgrow _; obtain ⟨g', cap', rfl⟩ := ownsRow_succ hown'; obtain ⟨hv1, hv2, hr2, hk2, hb2⟩ := hv.appended (by decide) (row_mono hrow (show w.heap.size ≤ _ by omega)) hB.size (by omega) (row_mono hown' (show w.heap.size ≤ _ by omega)) hgrow; have hr3 := hown'.kept (grownBy_setCell' w1 (w.heap.size + 1) (.slice (some ⟨g', 0, none⟩) (pre.length + 1) cap')) (.inr (hv1.not_row (by decide) hown').symm); have hg3 : KB (w.heap.size + 1 + 1) W w1 := (hgrow.block _ (by simp; omega) (fun e => by have := (hrow.lt _ e.symm).1; omega)).trans (Below.heap_alloc _ _ _ hltg); have hc1 := hv1.cell; have hf1 := hv1.frozen)
      exact ⟨hk2.from _, hg3.set (p := ⟨w.heap.size + 1, 0, none⟩) (by simp) _, ⟨⟨_, hv2, by simpa using hr3, trivial⟩, (hg3.set (p := ⟨w.heap.size + 1, 0, none⟩) (by simp) _).whole wg, hB.trans hb2⟩⟩
    case stop =>
      rintro D c pre W _ _ h _
      exact h.elim
    case done =>
      rintro D xs W hD rfl ⟨⟨v, hv, hrow, _⟩, wg, hB⟩ hK
      have hc := hv.cell
      have hconv := (text_row hrow : (convert 67 9 v).run Try.prog W = _)
      go_wp2
      refine ⟨by simp, .inl ⟨_, _, rfl, run_takeDeferred hK, ?_⟩⟩
      exact ⟨_, results_tmp rfl _ _ _, rfl, hB.trans (belowK_b (w := w) (Nat.le_refl _) W D _ _ (by omega) hK rfl rfl)⟩
end Go.Proofs.Ytilkifjdonafnaa
