/- A list that grows in a box while an iterator hands out its elements. Nothing of one program. quad: what an iterator over records hands out, collected: slices.AppendSeq, Collect. -/
import Derived.Test.YteohkmhndomhgaaK23
import Derived.Test.YteohkmhndomhgaaK29
namespace Go.Proofs.Yteohkmhndomhgaa
open Go.RowKit Go.Shelf
set_option linter.unusedVariables false
theorem RowE.keep {α : Type} {enc : α → List Value} {n : Nat} {W W' : World} {base : Nat} {T : TypeId} {v : Value} {l : List α} (h : RowE enc n W base T v l) (hs : W.heap.size ≤ W'.heap.size) (hF : ∀ a, v.ownBlock = some a → W'.heap[a]? = W.heap[a]?) : RowE enc n W' base T v l := by
  rcases h with ⟨h1, h2⟩
  refine ⟨h1, ?_⟩
  rcases h2 with h2 | ⟨g, cap, cur, rfl, hg, hh, rest⟩
  · exact .inl h2
  · exact .inr ⟨g, cap, cur, rfl, hg, (hF g rfl).trans hh, rest⟩
theorem RowE.not_deferred {α : Type} {enc : α → List Value} {n : Nat} {W : World} {base D : Nat} {T : TypeId} {v : Value} {l : List α} {o : Option (List Deferred)} (h : RowE enc n W base T v l) (hd : W.heap[D]? = some (.deferred o)) : v.ownBlock ≠ some D := by
  rcases h with ⟨h1, h2⟩
  rcases h2 with h2 | ⟨g, cap, cur, rfl, hg, hh, rest⟩
  · intro z
    rw [h2.1] at z
    cases z
  · intro z
    injection z with z
    subst z
    rw [hd] at hh
    cases hh
/-- The list so far, in its box. -/
def undI {α β : Type} (enc : α → List Value) (n : Nat) (KB base : Nat) (S T : TypeId) (f : List β → List α) (pre : List β) (F : Nat → Prop) (W : World) : Prop :=
  ∃ v, (∀ b, F b ↔ (b = KB ∨ v.ownBlock = some b)) ∧ Whole W KB S #[v] ∧ RowE enc n W base T v (f pre)
theorem undI_kept {α β : Type} {enc : α → List Value} {n KB base : Nat} {S T : TypeId} {f : List β → List α} : Kept (undI enc n KB base S T f) := by
  rintro pre F W W' ⟨v, h1, h2, h3⟩ hs hb
  exact ⟨v, h1, (hb KB ((h1 KB).2 (.inl rfl))).trans h2, h3.keep hs (fun a ha => hb a ((h1 a).2 (.inr ha)))⟩
theorem undI_low {α β : Type} {enc : α → List Value} {n KB base : Nat} {S T : TypeId} {f : List β → List α} : Low (undI enc n KB base S T f) := by
  rintro pre F W ⟨v, h1, h2, h3⟩ b hb
  rcases (h1 b).1 hb with rfl | z
  · exact h2.lt
  · exact (h3.own b z).2
theorem no_kept {β : Type} : Kept (fun (_ : List β) _ _ => False) := fun _ _ _ _ h _ _ => h.elim
theorem no_low {β : Type} : Low (fun (_ : List β) _ _ => False) := fun _ _ _ h _ _ => h.elim
end Go.Proofs.Yteohkmhndomhgaa
namespace Go.Proofs.Yteohkmhndomhgaa
open Go.RowKit Go.Shelf
attribute [local go_sem] Oper.semAt_some
set_option linter.unusedVariables false
set_option linter.unusedSimpArgs false
set_option maxRecDepth 100000 in
set_option maxHeartbeats 3200000 in
theorem appendRecs_any {gf : Nat} {lb : Array Value} {xs : List Rq} {G : Nat → Prop} {w : World} (hseq : ∀ W, Since w W → SeqO gf lb encI xs G W) (hG : ∀ b, G b → b < w.heap.size) (hen : ∀ args w, (callFunc gf args).run Try.prog w = .ok (.enter gf args) w) (hlen : xs.length ≤ 2048) :
    Calls Try.prog 79 #[.slice none 0 0, .func (.func gf) #[] lb] w fun e W' => ∃ a, e = .returned a ∧ RowE encQ 5 W' w.heap.size 42 a xs ∧ Below w.heap.size w W' := by
  obtain ⟨wl, hwl⟩ : ∃ wl, wl = w.alloc (.cells #[.slice none 0 0] 34) := ⟨_, rfl⟩
  have hsl : Since w wl := by rw [hwl]; exact (Since.refl w).alloc _
  have whK : Whole wl w.heap.size 34 #[.slice none 0 0] := by rw [hwl]; exact Whole.new w _ _
  have HSZ := Lib.hid (show wl.heap.size = w.heap.size + 1 by rw [hwl]; simp)
  have HW := Lib.hid hwl
  clear hwl
  refine (callsIn_wide (n := 0)).1 ?_
  refine callsIn_of_wp_marks Try.func79 rfl trivial ?_ rfl
  refine wpIn_wide.2 ?_
  simp only [Try.ntmps79, List.size_toArray, List.length_cons, List.length_nil, Nat.reduceAdd, Nat.reduceSub, Array.replicate_succ, Array.replicate_zero, List.push_toArray, List.append_toArray, List.nil_append, List.cons_append]
  go_wp2_with fail
  rw [← HW.out]
  have hseq := hseq wl hsl
  refine (wpIn_wide (n := 0)).1 ?_
  refine range_wp (gf := gf) (lb := lb) rfl hen hseq ?hG (fun _ => rfl)
    (undI encQ 5 w.heap.size wl.heap.size 34 42 (fun pre => pre)) (fun _ _ _ _ => False) undI_kept undI_low (fun _ => no_kept) (fun _ => no_low)
    (fun b => b = w.heap.size) ?hF0 ?h0 ?round ?done ?stop
  case hG => exact fun b z => by have := hG b z; have := HSZ.out; omega
  case hF0 => rintro b rfl z; have := hG _ z; omega
  case h0 => exact ⟨.slice none 0 0, fun b => by simp [Value.ownBlock], whK, RowE.nil _ _ _⟩
  case stop =>
    rintro D c pre W _ _ ⟨F', h, _⟩ _
    exact h.elim
  case done =>
    rintro D W hD ⟨F', ⟨v, hF', hk, hr⟩, ho, hf, _⟩ hdd
    have x1 := hk.cell 0
    have hDD := Lib.hid hD
    have hoo := Lib.hid ho
    clear hD ho hf
    go_wp2
    have hszl := HSZ.out
    have hD := hDD.out
    have hb0 : Since w W := Below.trans hsl (hoo.out.below (by omega) (fun b z => by have z' : b = w.heap.size := z; omega))
    have hne : ∀ a, v.ownBlock = some a → a ≠ D := fun a ha z => hr.not_deferred (z ▸ hdd) ha
    refine ⟨by simp, .inl ⟨_, _, rfl, run_takeDeferred hdd, ?_⟩⟩
    refine ⟨_, by simp [results, Try.results79, go_sem], ⟨v, rfl, ?_, ?_⟩⟩
    · exact (hr.keep (by simp) (fun a ha => World.putObj_heap_other (hne a ha))).mono (by omega)
    · exact Below.trans hb0 (belowK_b (w := w) (Nat.le_refl _) _ D _ _ (by omega) hdd rfl rfl)
  case round =>
    rintro l pre s F W hpre ⟨v, hF, hk, hr⟩ hoff hwl hl hFl
    have hszW := hoff.size
    have hkl := hk.lt
    have hKl : w.heap.size ≠ l := fun z => hFl ((hF l).2 (.inl z.symm))
    have hOl : ∀ a, v.ownBlock = some a → a ≠ l := fun a ha z => hFl ((hF l).2 (.inr (z ▸ ha)))
    have hOwn : ∀ a, v.ownBlock = some a → wl.heap.size ≤ a ∧ a < W.heap.size := fun a ha => hr.own a ha
    have hlp : pre.length ≤ 2048 := by have := hpre.length_le; simp at this; omega
    have hFK : F w.heap.size := (hF _).2 (.inl rfl)
    have hFv : ∀ b, v.ownBlock = some b → F b := fun b z => (hF b).2 (.inr z)
    clear hseq hpre whK
    simp only [encI, Rq.v]
    gi_wp2
    refine ⟨(Since.refl W).alloc _, fun W2 hz2 ho2 => ?_⟩
    have hz2' : W2.heap.size = W.heap.size + 1 := by rw [hz2]; try simp
    have ha : Whole (W.alloc (.cells #[.int .i64 s.x, .int .i64 s.y, .string s.key, .string s.val, .int .i64 s.ver] 42)) W.heap.size 42 #[.int .i64 s.x, .int .i64 s.y, .string s.key, .string s.val, .int .i64 s.ver] := Whole.new W _ _
    have ha2 := ho2.whole ha (fun z => by have z' : W.heap.size = l := z; omega)
    have hk2 := ho2.whole (hk.alloc (.cells #[.int .i64 s.x, .int .i64 s.y, .string s.key, .string s.val, .int .i64 s.ver] 42)) hKl
    have hr2 : RowE encQ 5 W2 wl.heap.size 42 v pre := RowE.off (hr.alloc _) ho2 (fun a h z => hOl a h z)
    have a0 := ha2.cell 0
    have a1 := ha2.cell 1
    have a2 := ha2.cell 2
    have a3 := ha2.cell 3
    have a4 := ha2.cell 4
    have y0 := hk2.cell 0
    clear ho2 hr hk hz2 ha hoff
    refine wpIn_block ?_
    refine wpIn_region_lit (wpList_round _ _ _ (by kernel_rfl) ?_)
    have hmax : pre.length ≤ 100000 := by omega
    have hbW : wl.heap.size ≤ W2.heap.size := by omega
    have hKF : ∀ a, v.ownBlock = some a → a ≠ w.heap.size := fun a ha z => by have := (hOwn a ha).1; have := HSZ.out; omega
    have HZ2 := Lib.hid hz2'
    clear hz2'
    go_wp2_with (at_builtin; refine wpList_append_off rfl _ _ 34 rfl wl.heap.size 42 _ 56 Try.underlying34 infoRec rfl (by decide) hr2 s rfl rfl (by simp [encQ, Value.oneCell']) rfl rfl hmax (by decide) hbW ?_; intro v' w1 hrow2 hoff2 hob2; obtain ⟨va, vc, hv'⟩ := RowE.shp hrow2; rw [List.length_append, show ([s] : List Rq).length = 1 from rfl] at hv'; subst hv'; have hk3 := hoff2.whole hk2 (fun z => hKF _ z rfl); have x0 := hk3.cell 0; have x1 := hk3.frozen 0)
    refine ⟨rfl, ?_⟩
    have hz2' := HZ2.out
    have e0 := hrow2.far (p := ⟨w.heap.size, 0, none⟩) (by show w.heap.size < wl.heap.size; have := HSZ.out; omega) (.slice va (pre.length + 1) vc)
    have hfin : ∃ F', undI encQ 5 w.heap.size wl.heap.size 34 42 (fun pre => pre) (pre ++ [s]) F' (w1.setCell ⟨w.heap.size, 0, none⟩ (.slice va (pre.length + 1) vc)) ∧ Off F W2 (w1.setCell ⟨w.heap.size, 0, none⟩ (.slice va (pre.length + 1) vc)) ∧ ∀ b, F' b → F b ∨ W.heap.size ≤ b := by
      refine ⟨fun y => y = w.heap.size ∨ (Value.slice va (pre.length + 1) vc).ownBlock = some y, ⟨_, fun b => Iff.rfl, hk3.set_ 0 _, e0⟩, (hoff2.mono (fun b _ z => hFv b z)).setCell (p := ⟨w.heap.size, 0, none⟩) (.inr hFK) _, ?_⟩
      rintro y (rfl | z)
      · exact .inl hFK
      · rcases hob2 with h | ⟨g3, h, h2⟩
        · exact .inl (hFv _ (h ▸ z))
        · rw [h] at z
          injection z with z
          exact .inr (by omega)
    exact hfin
/-- slices.Collect. -/
theorem collectRecs_any {gf : Nat} {lb : Array Value} {xs : List Rq} {G : Nat → Prop} {w : World} (hseq : ∀ W, Since w W → SeqO gf lb encI xs G W) (hG : ∀ b, G b → b < w.heap.size) (hen : ∀ args w, (callFunc gf args).run Try.prog w = .ok (.enter gf args) w) (hlen : xs.length ≤ 2048) :
    Calls Try.prog 69 #[.func (.func gf) #[] lb] w fun e W' => ∃ a, e = .returned a ∧ RowE encQ 5 W' w.heap.size 42 a xs ∧ Below w.heap.size w W' := by
  have ha := appendRecs_any hseq hG hen hlen
  clear hseq hG hen
  go_enter Try.func69, Try.ntmps69
  go_wp2_with (go_at_call 79; (with_reducible refine ha.mono ?_); rintro e w1 ⟨a, rfl, h1, h2⟩)
  go_ret
  exact ⟨a, rfl, h1, h2⟩
end Go.Proofs.Yteohkmhndomhgaa
