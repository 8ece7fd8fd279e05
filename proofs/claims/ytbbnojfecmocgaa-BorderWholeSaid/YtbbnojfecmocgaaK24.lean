/- tiling: trees in memory; isTile, isPair, child. -/
import Derived.Test.YtbbnojfecmocgaaK05
import Derived.Test.YtbbnojfecmocgaaK21
import Derived.Test.YtbbnojfecmocgaaK23
import Derived.StillTailTactics
namespace Go.Proofs.Ytbbnojfecmocgaa
open Go.RowKit
set_option linter.unusedVariables false
def PT.v : PT → Value
  | .gap => .pointer none
  | .leaf g _ => .pointer (some ⟨g, 0, none⟩)
  | .node g _ _ _ => .pointer (some ⟨g, 0, none⟩)
/-- The tree lies in memory. -/
def PT.At (W : World) : PT → Prop
  | .gap => True
  | .leaf g who => Whole W g 96 #[.int .i64 who, .pointer none, .pointer none]
  | .node g z l r => Whole W g 96 #[.int .i64 z, l.v, r.v] ∧ l.At W ∧ r.At W
theorem PT.At.keep {W W' : World} : ∀ {p : PT}, p.At W → (∀ b ∈ p.bl, W'.heap[b]? = W.heap[b]?) → p.At W'
  | .gap, _, _ => trivial
  | .leaf g _, h, hb => (hb g List.mem_cons_self).trans h
  | .node g z l r, ⟨h, hl, hr⟩, hb => ⟨(hb g List.mem_cons_self).trans h, hl.keep (fun b hx => hb b (List.mem_cons_of_mem _ (List.mem_append.2 (.inl hx)))), hr.keep (fun b hx => hb b (List.mem_cons_of_mem _ (List.mem_append.2 (.inr hx))))⟩
theorem PT.At.lt {W : World} : ∀ {p : PT}, p.At W → ∀ b ∈ p.bl, b < W.heap.size
  | .gap, _, b, hb => by cases hb
  | .leaf g _, h, b, hb => by
    obtain rfl := List.mem_singleton.1 hb
    exact Whole.lt h
  | .node g z l r, ⟨h, hl, hr⟩, b, hb => by
    rcases List.mem_cons.1 hb with rfl | hb
    · exact Whole.lt h
    · rcases List.mem_append.1 hb with hb | hb
      · exact hl.lt b hb
      · exact hr.lt b hb
theorem PT.At.off {F : Nat → Prop} {W W' : World} {p : PT} (h : p.At W) (ho : Off F W W') (hF : ∀ b ∈ p.bl, ¬ F b) : p.At W' := h.keep (fun b hb => ho.block b (h.lt b hb) (hF b hb))
theorem PT.At.since {W W' : World} {p : PT} (h : p.At W) (hs : Since W W') : p.At W' := h.keep (fun b hb => hs.block b (h.lt b hb))
theorem PT.At.named {W W' : World} {p : PT} (h : p.At W) (e : W' = W) : p.At W' := e ▸ h
theorem PT.v_ptr (p : PT) : ∃ o, p.v = .pointer o ∧ (o = none ↔ p = .gap) := by
  cases p with
  | gap => exact ⟨none, rfl, by simp⟩
  | leaf g w => exact ⟨some ⟨g, 0, none⟩, rfl, by simp⟩
  | node g z l r => exact ⟨some ⟨g, 0, none⟩, rfl, by simp⟩
theorem eq_halves (o q : Option Addr) (W : World) : (Op.equalIn 10000 94 (.agg #[.pointer o, .pointer q]) (.agg #[.pointer none, .pointer none])).run Try.prog W = .ok (o.isNone && q.isNone) W := by
  cases o <;> cases q <;> kernel_rfl
set_option maxRecDepth 100000 in
theorem isTile_any {p : PT} {W : World} (hp : p.At W) (hn : p.tr.norm) : Calls Try.prog 69 #[p.v] W fun e w' => e = .returned (.bool p.isLeaf) ∧ Below W.heap.size W w' := by
  cases p with
  | gap =>
    simp only [PT.v, PT.isLeaf]
    go_enter Try.func69, Try.ntmps69
    go_wp2
    go_ret
    exact ⟨rfl, Below.refl _ _⟩
  | leaf g who =>
    simp only [PT.v, PT.isLeaf]
    have h0 := Whole.cell hp 1
    have h1 := Whole.cell hp 2
    have he := eq_halves none none
    go_enter Try.func69, Try.ntmps69
    go_wp2
    go_ret
    exact ⟨rfl, Below.refl _ _⟩
  | node g z l r =>
    obtain ⟨h, _, _⟩ := hp
    obtain ⟨o, e1, k1⟩ := l.v_ptr
    obtain ⟨q, e2, k2⟩ := r.v_ptr
    rw [e1, e2] at h
    simp only [PT.v, PT.isLeaf]
    have h0 := Whole.cell h 1
    have h1 := Whole.cell h 2
    have he : ∀ W, (Op.equalIn 10000 94 (.agg #[.pointer o, .pointer q]) (.agg #[.pointer none, .pointer none])).run Try.prog W = .ok false W := fun W => by
      rw [eq_halves]
      have : (o.isNone && q.isNone) = false := Bool.eq_false_iff.2 fun z => by
        rw [Bool.and_eq_true, Option.isNone_iff_eq_none, Option.isNone_iff_eq_none] at z
        exact hn.1 ⟨(PT.gap_iff l).2 (k1.1 z.1), (PT.gap_iff r).2 (k2.1 z.2)⟩
      rw [this]
    go_enter Try.func69, Try.ntmps69
    go_wp2
    go_ret
    exact ⟨rfl, Below.refl _ _⟩
theorem isTile_at {p : PT} {W : World} {r : Bool} (hp : p.At W) (hn : p.tr.norm) (h : p.isLeaf = r) : Calls Try.prog 69 #[p.v] W fun e w' => e = .returned (.bool r) ∧ Below W.heap.size W w' := h ▸ isTile_any hp hn
theorem isTile_nil (W : World) : Calls Try.prog 69 #[.pointer none] W fun e w' => e = .returned (.bool false) ∧ Below W.heap.size W w' := isTile_any (p := .gap) trivial trivial
set_option maxRecDepth 100000 in
theorem tchild_ok (d b h : Int) (w : World) (hf : fine d b = true) (hd : d < 32) (h0 : 0 ≤ h) (h1 : h ≤ 1) : Calls Try.prog 77 #[.agg #[.int .i64 d, .int .i64 b], .int .i64 h] w fun e w' => e = .returned (.agg #[.int .i64 (d + 1), .int .i64 (2 * b + h)]) ∧ Below w.heap.size w w' := by
  obtain ⟨w0, hw0⟩ : ∃ w0, w0 = (w.alloc (.cells #[.int .i64 d, .int .i64 b] 35)).alloc (.cells #[.int .i64 0, .int .i64 0] 35) := ⟨_, rfl⟩
  have hs0 : Since w w0 := by rw [hw0]; exact ((Since.refl w).alloc _).alloc _
  have wh0 : Whole w0 (w.heap.size) 35 #[.int .i64 d, .int .i64 b] := by rw [hw0]; exact (Whole.new w _ _).alloc _
  have wh1 : Whole w0 (w.heap.size + 1) 35 #[.int .i64 0, .int .i64 0] := by rw [hw0]; exact (Whole.new (w.alloc _) _ _).at_ (by simp)
  have HW := Lib.hid hw0
  have c0_0 := box_cell wh0 0 (.int .i64 d) rfl
  have c0_1 := box_cell wh0 1 (.int .i64 b) rfl
  have c1_0 := box_cell wh1 0 (.int .i64 0) rfl
  have f1_0 := box_free wh1 0
  have c1_1 := box_cell wh1 1 (.int .i64 0) rfl
  have f1_1 := box_free wh1 1
  have hsr := Since.refl w0
  have hsd := hsr.drew
  clear hw0
  have hc : ∀ W, Calls Try.prog 111 #[.agg #[.int .i64 d, .int .i64 b], .int .i64 h] W fun e w' => e = .returned (.tuple #[.agg #[.int .i64 (d + 1), .int .i64 (2 * b + h)], .int .i64 0]) ∧ Below W.heap.size W w' := fun W => child_ok d b h W hf hd h0 h1
  have HC := Lib.hid hc
  clear hc hf hd h0 h1
  go_enter Try.func77, Try.ntmps77
  go_wp2_with fail
  rw [← HW.out]
  go_wp2_with (go_at_call 111; (with_reducible refine (Calls.since (by assumption) (HC.out _)).mono ?_); rintro e w1 ⟨rfl, hb1⟩; have hb2 : Since w0 (w1.alloc (.cells #[.int .i64 (d + 1), .int .i64 (2 * b + h)] 35)) := Since.alloc hb1 _)
  have s := ((Since.whole hb2 wh1).set_ 0 (.int .i64 (d + 1))).set_ 1 (.int .i64 (2 * b + h))
  have g0 := s.cell 0
  have g1 := s.cell 1
  exact bodyPost_ret (v := .agg #[.int .i64 (d + 1), .int .i64 (2 * b + h)]) (by simp [results, Try.results77, go_sem, g0, g1]) rfl ⟨rfl, Below.setCell (Below.setCell (hs0.trans hb2) (by simp) _) (by simp) _⟩
theorem tchild_at {d b h D B : Int} (w : World) (hf : fine d b = true) (hd : d < 32) (h0 : 0 ≤ h) (h1 : h ≤ 1) (e1 : d + 1 = D) (e2 : 2 * b + h = B) : Calls Try.prog 77 #[.agg #[.int .i64 d, .int .i64 b], .int .i64 h] w fun e w' => e = .returned (.agg #[.int .i64 D, .int .i64 B]) ∧ Below w.heap.size w w' := e1 ▸ e2 ▸ tchild_ok d b h w hf hd h0 h1
end Go.Proofs.Ytbbnojfecmocgaa
