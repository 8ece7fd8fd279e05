/- tiling: Gaps (slices.Collect), List. -/
import Derived.Test.YtgnhamhkpbadbaaGGaps
namespace Go.Proofs.Ytgnhamhkpbadbaa
open Go.RowKit Go.Shelf
attribute [local go_sem] Oper.semAt_some
set_option linter.unusedVariables false
theorem RowE.shape {α : Type} {enc : α → List Value} {n : Nat} {W : World} {base : Nat} {T : TypeId} {v : Value} {l : List α} (h : RowE enc n W base T v l) : ∃ a c, v = .slice a l.length c := by
  rcases h.2 with ⟨h1, h2⟩ | ⟨g, cap, cur, h1, _⟩
  · exact ⟨none, 0, by rw [h1, h2]⟩
  · exact ⟨_, _, h1⟩
theorem infoG5 : (Try.prog.info? 27).map (fun i => (i.zero, i.size, i.bytes)) = some (some (.agg #[.int .i64 0, .int .i64 0]), 2, 16) := by kernel_rfl
theorem gaps_count : ∀ t : Tr, t.norm → ∀ d b : Int, (t = .gap → (t.gaps d b).length = 1) ∧ (t ≠ .gap → (t.gaps d b).length ≤ (t.tiles d b).length * t.high)
  | .gap, _, d, b => ⟨fun _ => rfl, fun h => absurd rfl h⟩
  | .leaf w, _, d, b => ⟨(fun h => (by cases h)), (fun _ => Nat.zero_le _)⟩
  | .node l r, h, d, b => by
    refine ⟨fun z => (by cases z), fun _ => ?_⟩
    obtain ⟨l1, l2⟩ := gaps_count l h.2.1 (d + 1) (2 * b)
    obtain ⟨r1, r2⟩ := gaps_count r h.2.2 (d + 1) (2 * b + 1)
    have e : (Tr.node l r).gaps d b = l.gaps (d + 1) (2 * b) ++ r.gaps (d + 1) (2 * b + 1) := by
      show (if (l.bare && r.bare) = true then [(d, b)] else l.gaps (d + 1) (2 * b) ++ r.gaps (d + 1) (2 * b + 1)) = _
      rw [if_neg (fun z => by
        rw [Bool.and_eq_true] at z
        exact h.1 ⟨Tr.norm_bare h.2.1 z.1, Tr.norm_bare h.2.2 z.2⟩)]
    rw [e]
    simp only [Tr.tiles, Tr.high, List.length_append]
    have t1 : l ≠ .gap → 1 ≤ (l.tiles (d + 1) (2 * b)).length := fun z => List.length_pos_iff.2 (Tr.norm_some h.2.1 z _ _)
    have t2 : r ≠ .gap → 1 ≤ (r.tiles (d + 1) (2 * b + 1)).length := fun z => List.length_pos_iff.2 (Tr.norm_some h.2.2 z _ _)
    have m1 : (l.tiles (d + 1) (2 * b)).length * l.high ≤ (l.tiles (d + 1) (2 * b)).length * max l.high r.high := Nat.mul_le_mul_left _ (Nat.le_max_left _ _)
    have m2 : (r.tiles (d + 1) (2 * b + 1)).length * r.high ≤ (r.tiles (d + 1) (2 * b + 1)).length * max l.high r.high := Nat.mul_le_mul_left _ (Nat.le_max_right _ _)
    rw [Nat.mul_add, Nat.mul_one, Nat.add_mul]
    by_cases cl : l = .gap
    · by_cases cr : r = .gap
      · exact absurd ⟨cl, cr⟩ h.1
      · have := l1 cl; have := r2 cr; have := t2 cr; omega
    · by_cases cr : r = .gap
      · have := l2 cl; have := r1 cr; have := t1 cl; omega
      · have := l2 cl; have := r2 cr; omega
theorem gaps_most {t : Tr} (h : t.norm) (d b : Int) (h1 : (t.tiles d b).length ≤ 64) (h2 : t.high ≤ 32) : (t.gaps d b).length ≤ 2048 := by
  obtain ⟨g1, g2⟩ := gaps_count t h d b
  by_cases c : t = .gap
  · have := g1 c; omega
  · have := g2 c
    have := Nat.mul_le_mul h1 h2
    omega
set_option maxRecDepth 100000 in
set_option maxHeartbeats 3200000 in
theorem appendSeq_any {gf : Nat} {lb : Array Value} {xs : List (Int × Int)} {G : Nat → Prop} {w : World} (hseq : ∀ W, Since w W → SeqO gf lb encP xs G W) (hG : ∀ b, G b → b < w.heap.size) (hen : ∀ args w, (callFunc gf args).run Try.prog w = .ok (.enter gf args) w) (hlen : xs.length ≤ 2048) :
    Calls Try.prog 113 #[.slice none 0 0, .func (.func gf) #[] lb] w fun e W' => ∃ a, e = .returned a ∧ RowE encG 2 W' w.heap.size 27 a xs ∧ Below w.heap.size w W' := by
  obtain ⟨wl, hwl⟩ : ∃ wl, wl = w.alloc (.cells #[.slice none 0 0] 61) := ⟨_, rfl⟩
  have hsl : Since w wl := by rw [hwl]; exact (Since.refl w).alloc _
  have whK : Whole wl w.heap.size 61 #[.slice none 0 0] := by rw [hwl]; exact Whole.new w _ _
  have HSZ := Lib.hid (show wl.heap.size = w.heap.size + 1 by rw [hwl]; simp)
  have HW := Lib.hid hwl
  clear hwl
  refine (callsIn_wide (n := 0)).1 ?_
  refine callsIn_of_wp_marks Try.func113 rfl trivial ?_ rfl
  refine wpIn_wide.2 ?_
  simp only [Try.ntmps113, List.size_toArray, List.length_cons, List.length_nil, Nat.reduceAdd, Nat.reduceSub, Array.replicate_succ, Array.replicate_zero, List.push_toArray, List.append_toArray, List.nil_append, List.cons_append]
  go_wp2_with fail
  rw [← HW.out]
  have hseq := hseq wl hsl
  refine (wpIn_wide (n := 0)).1 ?_
  refine range_wp (gf := gf) (lb := lb) rfl hen hseq ?hG (fun _ => rfl)
    (undI encG 2 w.heap.size wl.heap.size 61 27 (fun pre => pre)) (fun _ _ _ _ => False) undI_kept undI_low (fun _ => no_kept) (fun _ => no_low)
    (fun b => b = w.heap.size) ?hF0 ?h0 ?round ?done ?stop
  case hG => exact fun b z => by have := hG b z; have := HSZ.out; omega
  case hF0 => rintro b rfl z; have := hG _ z; omega
  case h0 => exact ⟨.slice none 0 0, fun b => by simp [Value.ownBlock], whK, RowE.nil _ _ _⟩
  case stop =>
    rintro D c pre W _ _ ⟨F', h, _⟩ _
    exact h.elim
  case done =>
    rintro D W hD ⟨F', ⟨v, hF', hk, hr⟩, ho, hf, _⟩ hdd
    have x1 := hk.cell 0
    have hDD := Lib.hid hD
    have hoo := Lib.hid ho
    clear hD ho hf
    go_wp2
    have hszl := HSZ.out
    have hD := hDD.out
    have hb0 : Since w W := Below.trans hsl (hoo.out.below (by omega) (fun b z => by have z' : b = w.heap.size := z; omega))
    have hne : ∀ a, v.ownBlock = some a → a ≠ D := fun a ha z => hr.not_deferred (z ▸ hdd) ha
    refine ⟨by simp, .inl ⟨_, _, rfl, run_takeDeferred hdd, ?_⟩⟩
    refine ⟨_, by simp [results, Try.results113, go_sem], ⟨v, rfl, ?_, ?_⟩⟩
    · exact (hr.keep (by simp) (fun a ha => World.putObj_heap_other (hne a ha))).mono (by omega)
    · exact Below.trans hb0 (belowK_b (w := w) (Nat.le_refl _) _ D _ _ (by omega) hdd rfl rfl)
  case round =>
    rintro l pre ⟨d, b⟩ F W hpre ⟨v, hF, hk, hr⟩ hoff hwl hl hFl
    have hszW := hoff.size
    have hkl := hk.lt
    have hKl : w.heap.size ≠ l := fun z => hFl ((hF l).2 (.inl z.symm))
    have hOl : ∀ a, v.ownBlock = some a → a ≠ l := fun a ha z => hFl ((hF l).2 (.inr (z ▸ ha)))
    have hOwn : ∀ a, v.ownBlock = some a → wl.heap.size ≤ a ∧ a < W.heap.size := fun a ha => hr.own a ha
    have hlp : pre.length ≤ 2048 := by have := hpre.length_le; simp at this; omega
    have hFK : F w.heap.size := (hF _).2 (.inl rfl)
    have hFv : ∀ b, v.ownBlock = some b → F b := fun b z => (hF b).2 (.inr z)
    clear hseq hpre whK
    gi_wp2
    refine ⟨(Since.refl W).alloc _, fun W2 hz2 ho2 => ?_⟩
    have hz2' : W2.heap.size = W.heap.size + 1 := by rw [hz2]; try simp
    have ha : Whole (W.alloc (.cells #[.int .i64 d, .int .i64 b] 27)) W.heap.size 27 #[.int .i64 d, .int .i64 b] := Whole.new W _ _
    have ha2 := ho2.whole ha (fun z => by have z' : W.heap.size = l := z; omega)
    have hk2 := ho2.whole (hk.alloc (.cells #[.int .i64 d, .int .i64 b] 27)) hKl
    have hr2 : RowE encG 2 W2 wl.heap.size 27 v pre := RowE.off (hr.alloc _) ho2 (fun a h z => hOl a h z)
    have a0 := ha2.cell 0
    have a1 := ha2.cell 1
    have y0 := hk2.cell 0
    clear ho2 hr hk hz2 ha hoff
    refine wpIn_block ?_
    refine wpIn_region_lit (wpList_round _ _ _ (by kernel_rfl) ?_)
    have hmax : pre.length ≤ 100000 := by omega
    have hbW : wl.heap.size ≤ W2.heap.size := by omega
    have hKF : ∀ a, v.ownBlock = some a → a ≠ w.heap.size := fun a ha z => by have := (hOwn a ha).1; have := HSZ.out; omega
    have HZ2 := Lib.hid hz2'
    clear hz2'
    go_wp2_with (at_builtin; refine wpList_append_off rfl _ _ 61 rfl wl.heap.size 27 _ 16 Try.underlying61 infoG5 rfl (by decide) hr2 (d, b) rfl rfl (by simp [encG, Value.oneCell']) rfl rfl hmax (by decide) hbW ?_; intro v' w1 hrow2 hoff2 hob2; obtain ⟨va, vc, hv'⟩ := RowE.shape hrow2; rw [List.length_append, show ([(d, b)] : List (Int × Int)).length = 1 from rfl] at hv'; subst hv'; have hk3 := hoff2.whole hk2 (fun z => hKF _ z rfl); have x0 := hk3.cell 0; have x1 := hk3.frozen 0)
    refine ⟨rfl, ?_⟩
    have hz2' := HZ2.out
    have e0 := hrow2.far (p := ⟨w.heap.size, 0, none⟩) (by show w.heap.size < wl.heap.size; have := HSZ.out; omega) (.slice va (pre.length + 1) vc)
    have hfin : ∃ F', undI encG 2 w.heap.size wl.heap.size 61 27 (fun pre => pre) (pre ++ [(d, b)]) F' (w1.setCell ⟨w.heap.size, 0, none⟩ (.slice va (pre.length + 1) vc)) ∧ Off F W2 (w1.setCell ⟨w.heap.size, 0, none⟩ (.slice va (pre.length + 1) vc)) ∧ ∀ b, F' b → F b ∨ W.heap.size ≤ b := by
      refine ⟨fun y => y = w.heap.size ∨ (Value.slice va (pre.length + 1) vc).ownBlock = some y, ⟨_, fun b => Iff.rfl, hk3.set_ 0 _, e0⟩, (hoff2.mono (fun b _ z => hFv b z)).setCell (p := ⟨w.heap.size, 0, none⟩) (.inr hFK) _, ?_⟩
      rintro y (rfl | z)
      · exact .inl hFK
      · rcases hob2 with h | ⟨g3, h, h2⟩
        · exact .inl (hFv _ (h ▸ z))
        · rw [h] at z
          injection z with z
          exact .inr (by omega)
    exact hfin
set_option maxRecDepth 100000 in
set_option maxHeartbeats 1600000 in
theorem gapsList_any {g : Nat} {p : PT} {k : Int} {w : World} (h : TilO g p k w) : Calls Try.prog 26 #[.pointer (some ⟨g, 0, none⟩)] w fun e W' => ∃ a, e = .returned a ∧ RowE encG 2 W' w.heap.size 27 a (p.tr.gaps 0 0) ∧ Below w.heap.size w W' := by
  have hlt := h.lt
  have hm := gaps_most h.norm 0 0 h.most (by have := h.high; have := h.kb; omega)
  have HA := Lib.hid (fun W X (hW : Since w W) (hX : Whole W X 29 #[.pointer (some ⟨g, 0, none⟩)]) => appendSeq_any (gf := 114) (lb := #[.pointer (some ⟨X, 0, none⟩)]) (w := W) (fun W1 h1 => gaps_seq (h.since (hW.trans h1)) (XB := X) (Since.whole h1 hX))
    (fun b z => by
      rcases z with z | rfl
      · exact Nat.lt_of_lt_of_le (hlt b z) hW.size_
      · exact hX.lt) (enters_of Try.func114 (by kernel_rfl) rfl) hm)
  have hcol : ∀ W X, Since w W → Whole W X 29 #[.pointer (some ⟨g, 0, none⟩)] → Calls Try.prog 69 #[.func (.func 114) #[] #[.pointer (some ⟨X, 0, none⟩)]] W fun e W' => ∃ a, e = .returned a ∧ RowE encG 2 W' W.heap.size 27 a (p.tr.gaps 0 0) ∧ Below W.heap.size W W' := by
    intro W X hW hX
    have ha := HA.out W X hW hX
    go_enter Try.func69, Try.ntmps69
    go_wp2_with (go_at_call 113; (with_reducible refine ha.mono ?_); rintro e w1 ⟨a, rfl, h1, h2⟩)
    go_ret
    exact ⟨a, rfl, h1, h2⟩
  have HC := Lib.hid hcol
  have HM := Lib.hid (made_yes h)
  clear hcol hm
  go_enter Try.func26, Try.ntmps26
  go_wp2_with (first
    | (go_at_call 49; (with_reducible refine HM.out.mono ?_); rintro e w1 ⟨rfl, hb1⟩)
    | (go_at_call 70; (with_reducible refine (gaps_any _ _ rfl _).mono ?_); rintro e w2 ⟨rfl, rfl⟩; have hsA : Since w (w1.alloc (.cells #[.pointer (some ⟨g, 0, none⟩)] 29)) := Since.alloc hb1 _; have hxA : Whole (w1.alloc (.cells #[.pointer (some ⟨g, 0, none⟩)] 29)) w1.heap.size 29 #[.pointer (some ⟨g, 0, none⟩)] := Whole.new w1 _ _)
    | (go_at_call 69; (with_reducible refine (HC.out _ _ hsA hxA).mono ?_); rintro e w3 ⟨a, rfl, h1, h2⟩))
  go_ret
  have hs : Since w (w1.alloc (.cells #[.pointer (some ⟨g, 0, none⟩)] 29)) := Since.alloc hb1 _
  exact ⟨a, rfl, h1.mono hs.size_, hs.trans h2⟩
set_option maxRecDepth 100000 in
theorem list_any {g : Nat} {p : PT} {k : Int} {w : World} (h : TilO g p k w) : Calls Try.prog 18 #[.pointer (some ⟨g, 0, none⟩)] w fun e W' => ∃ a, e = .returned a ∧ RowE encT 3 W' w.heap.size 50 a (p.tr.tiles 0 0) ∧ Below w.heap.size w W' := by
  have hu := under_any h 0 0
  have he : ((p.tr.tiles 0 0).filter fun s => abvB 0 0 s.d s.b) = p.tr.tiles 0 0 := List.filter_eq_self.2 (fun x hx => (Tr.tiles_abv p.tr 0 0 (by decide) (by have := h.high; have := h.kb; omega) x hx).1)
  rw [he] at hu
  have HU := Lib.hid hu
  clear hu he
  go_enter Try.func18, Try.ntmps18
  go_wp2_with (go_at_call 23; (with_reducible refine HU.out.mono ?_); rintro e w1 ⟨a, rfl, h1, h2⟩)
  go_ret
  exact ⟨a, rfl, h1, h2⟩
end Go.Proofs.Ytgnhamhkpbadbaa
