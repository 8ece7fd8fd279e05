/- tiling: put: a tree comes in the place of what is at a path. -/
import Derived.Test.YtbbnojfecmocgaaK26
namespace Go.Proofs.Ytbbnojfecmocgaa
open Go.RowKit
set_option linter.unusedVariables false
/-- The blocks of what is not at the path. -/
def PT.rest (pd pb : Int) : Nat → Int → PT → List Nat
  | m + 1, d, .node g _ l r => if bitI pd pb d = 0 then g :: (PT.rest pd pb m (d + 1) l ++ r.bl) else g :: (l.bl ++ PT.rest pd pb m (d + 1) r)
  | _, _, _ => []
/-- No tile is ahead of the path. -/
def PT.clear (pd pb : Int) : Nat → Int → PT → Prop
  | m + 1, d, .node _ _ l r => if bitI pd pb d = 0 then PT.clear pd pb m (d + 1) l else PT.clear pd pb m (d + 1) r
  | _ + 1, _, .leaf _ _ => False
  | _, _, _ => True
theorem PT.rest_sub (pd pb : Int) : ∀ (m : Nat) (d : Int) (q : PT), ∀ x ∈ PT.rest pd pb m d q, x ∈ q.bl
  | 0, _, q, x, h => by cases q <;> cases h
  | m + 1, _, .gap, x, h => by cases h
  | m + 1, _, .leaf _ _, x, h => by cases h
  | m + 1, d, .node g z l r, x, h => by
    unfold PT.rest at h
    split at h
    · rcases List.mem_cons.1 h with h | h
      · exact h ▸ List.mem_cons_self
      · rcases List.mem_append.1 h with h | h
        · exact List.mem_cons_of_mem _ (List.mem_append.2 (.inl (PT.rest_sub pd pb m _ l x h)))
        · exact List.mem_cons_of_mem _ (List.mem_append.2 (.inr h))
    · rcases List.mem_cons.1 h with h | h
      · exact h ▸ List.mem_cons_self
      · rcases List.mem_append.1 h with h | h
        · exact List.mem_cons_of_mem _ (List.mem_append.2 (.inl h))
        · exact List.mem_cons_of_mem _ (List.mem_append.2 (.inr (PT.rest_sub pd pb m _ r x h)))
/-- Behind put's closure. -/
def PutP (pd pb : Int) (n : PT) (m : Nat) (d : Int) (q : PT) (W : World) (e : Ending) (W' : World) : Prop :=
  ∃ q' : PT, e = .returned q'.v ∧ q'.At W' ∧ q'.bl.Nodup ∧ (∀ x ∈ q'.bl, x ∈ PT.rest pd pb m d q ∨ x ∈ n.bl ∨ W.heap.size ≤ x) ∧ q'.tr = Tr.put pd pb n.tr m d q.tr ∧ Off (fun x => x ∈ PT.rest pd pb m d q) W W'
theorem Tr.mk_node {l r : Tr} (h : ¬ (l = .gap ∧ r = .gap)) : Tr.mk l r = .node l r := by
  cases l <;> cases r <;> first | rfl | exact absurd ⟨rfl, rfl⟩ h
theorem nodup_node {g : Nat} {A B : List Nat} (hA : A.Nodup) (hB : B.Nodup) (h1 : g ∉ A) (h2 : g ∉ B) (h3 : ∀ x ∈ A, x ∉ B) : (g :: (A ++ B)).Nodup := by
  refine List.nodup_cons.2 ⟨fun z => (List.mem_append.1 z).elim h1 h2, List.nodup_append.2 ⟨hA, hB, fun a ha b hb e => h3 a ha (e ▸ hb)⟩⟩
theorem nodup_parts {g : Nat} {A B : List Nat} (h : (g :: (A ++ B)).Nodup) : A.Nodup ∧ B.Nodup ∧ g ∉ A ∧ g ∉ B ∧ ∀ x ∈ A, x ∉ B := by
  obtain ⟨h1, h2⟩ := List.nodup_cons.1 h
  obtain ⟨h3, h4, h5⟩ := List.nodup_append.1 h2
  exact ⟨h3, h4, fun z => h1 (List.mem_append.2 (.inl z)), fun z => h1 (List.mem_append.2 (.inr z)), fun x hx hy => h5 x hx x hy rfl⟩
theorem eq_halves_no {o q : Option Addr} (h : ¬ (o = none ∧ q = none)) (W : World) : (Op.equalIn 10000 94 (.agg #[.pointer o, .pointer q]) (.agg #[.pointer none, .pointer none])).run Try.prog W = .ok false W := by
  rw [eq_halves]
  have : (o.isNone && q.isNone) = false := Bool.eq_false_iff.2 fun z => by
    rw [Bool.and_eq_true, Option.isNone_iff_eq_none, Option.isNone_iff_eq_none] at z
    exact h z
  rw [this]

set_option maxRecDepth 100000 in
set_option maxHeartbeats 3200000 in
theorem put1_ok (pd pb : Int) (hf : fine pd pb = true) (n : PT) (hnn : n.bl.Nodup) {PB NB WB : Nat} : ∀ (m : Nat) (d : Int) (q : PT) (W : World), d + m = pd → 0 ≤ d → PT.clear pd pb m d q → q.At W → q.bl.Nodup → n.At W → (∀ x ∈ n.bl, x ∉ PT.rest pd pb m d q) →
    Whole W PB 35 #[.int .i64 pd, .int .i64 pb] → Whole W NB 89 #[n.v] → Whole W WB 162 #[.func (.func 102) #[] #[.pointer (some ⟨PB, 0, none⟩), .pointer (some ⟨NB, 0, none⟩), .pointer (some ⟨WB, 0, none⟩)]] → (∀ x ∈ PT.rest pd pb m d q, x ≠ PB ∧ x ≠ NB ∧ x ≠ WB) →
    Calls Try.prog 102 #[q.v, .int .i64 d, .pointer (some ⟨PB, 0, none⟩), .pointer (some ⟨NB, 0, none⟩), .pointer (some ⟨WB, 0, none⟩)] W (PutP pd pb n m d q W) := by
  intro m
  induction m with
  | zero =>
    intro d q W hdm hd0 hcl hq hqn hn hnd hp hb hw hav
    obtain rfl : d = pd := by omega
    obtain ⟨V, hV⟩ : ∃ V, q.v = V := ⟨_, rfl⟩
    obtain ⟨U, hU⟩ : ∃ U, n.v = U := ⟨_, rfl⟩
    rw [hU] at hb
    rw [hV]
    have p0 := hp.cell 0
    have b0 := hb.cell 0
    go_enter Try.func102, Try.ntmps102
    go_wp2_with fail
    go_ret
    exact ⟨n, by rw [hU]; rfl, hn, hnn, fun x hx => .inr (.inl hx), rfl, Off.refl _ _⟩
  | succ m ih =>
    intro d q W hdm hd0 hcl hq hqn hn hnd hp hb hw hav
    have hd1 : (d == pd) = false := by simp; omega
    have hlt : d < pd := by omega
    have hpd := ((fine_iff _ _).1 hf).2.1
    have hwr : wrap64 (d + 1) = d + 1 := IntWalk.wrap64_in _ ⟨by omega, by omega⟩
    have hwr2 : IntKind.i64.wrap (d + 1) = d + 1 := IntWalk.i64_in _ ⟨by omega, by omega⟩
    have p0 := hp.cell 0
    cases q with
    | leaf g who => exact hcl.elim
    | gap =>
      rcases (show bitI pd pb d = 0 ∨ bitI pd pb d = 1 by rw [bitI_yes hf hd0 hlt]; omega) with hbit | hbit
      · have hb' := bit_at (d := pd) (b := pb) (i := d) hbit
        simp only [PT.v]
        have p1 := (hp.alloc (.cells #[.int .i64 0, .pointer none, .pointer none] 96)).cell 0
        have p2 := (hp.alloc (.cells #[.int .i64 0, .pointer none, .pointer none] 96)).cell 1
        go_enter Try.func102, Try.ntmps102
        go_wp2_with fail
        refine Calls.named (fun W0 hW0 => ?_)
        have hs0 : Since W W0 := ((Since.refl W).alloc _).named hW0
        have hg : Whole W0 W.heap.size 96 #[.int .i64 0, .pointer none, .pointer none] := (Whole.new W _ _).named hW0
        have hgl := hg.lt
        obtain ⟨g, hgg⟩ : ∃ g, g = W.heap.size := ⟨_, rfl⟩
        rw [← hgg] at hg hgl ⊢
        have hge : W.heap.size ≤ g := by omega
        have HGG := Lib.hid hgg
        clear hgg
        have hco : PT.At W0 PT.gap := trivial
        clear hW0
        refine (hb' W0).mono ?_
        rintro e w1 ⟨rfl, hb1⟩
        have hs1 := hs0.trans hb1
        replace hg := Since.whole hb1 hg
        replace hco := hco.since hb1
        clear hb1 hb' p0 p1 p2
        obtain ⟨VC, hVC⟩ : ∃ V, PT.v .gap = V := ⟨_, rfl⟩
        obtain ⟨oo, hoo1, hoo2⟩ := PT.v_ptr PT.gap
        have hoo3 : oo = none := hoo2.2 rfl
        subst hoo3
        have hg' : Whole w1 g 96 #[.int .i64 0, VC, .pointer none] := by rw [← hVC, ← hoo1]; exact hg
        clear hg
        go_wp2_with fail
        obtain ⟨wq, hwq⟩ : ∃ wq, wq = w1.drew := ⟨_, rfl⟩
        have hqs : Since w1 wq := by rw [hwq]; exact (Since.refl w1).drew
        have hsq := hs1.trans hqs
        obtain ⟨F, hF⟩ : ∃ F : Nat → Prop, ∀ x, F x ↔ (x = g ∨ x ∈ PT.rest pd pb m (d + 1) .gap) := ⟨_, fun _ => Iff.rfl⟩
        have hSW : ∀ W', Off F w1 W' → W'.cell? ⟨WB, 0, none⟩ = some (.func (.func 102) #[] #[.pointer (some ⟨PB, 0, none⟩), .pointer (some ⟨NB, 0, none⟩), .pointer (some ⟨WB, 0, none⟩)]) := off_cell (Since.whole hs1 hw) (fun z => by
          rcases (hF _).1 z with z | z
          · have := hw.lt; omega
          · have := PT.rest_sub _ _ _ _ _ _ z; cases this) 0 _ rfl
        refine wp_region_held_drew (S := fun W' => Off F w1 W') (by kernel_rfl) ((Since.refl w1).drew.off _) (fun hHeld => ?_)
        rw [← hwq] at hHeld ⊢
        have hgq := Since.whole hqs hg'
        have m0 := hgq.cell 1
        clear hwq
        have hih := ih (d + 1) .gap wq (by omega) (by omega) (by cases m <;> trivial) trivial List.nodup_nil (hn.since hsq) (fun x _ z => by have := PT.rest_sub _ _ _ _ _ _ z; cases this) (Since.whole hsq hp) (Since.whole hsq hb) (Since.whole hsq hw) (fun x z => by have := PT.rest_sub _ _ _ _ _ _ z; cases this)
        rw [hVC] at hih
        have hgR : g ∉ PT.rest pd pb m (d + 1) .gap := fun z => by have := PT.rest_sub _ _ _ _ _ _ z; cases this
        refine wpAnyH_take (i := 0) (v := ?_) rfl (by kernel_rfl) (by kernel_rfl) (by kernel_rfl) (fun _ _ _ h => h) (Or.inl ⟨by rfl, ?_⟩) (by assumption) ?_
        rotate_left 1
        · (intro W hW; clear hW; go_simp; try with_reducible rfl)
        simp only [Act.put, List.getElem_toArray, List.getElem_cons_zero, List.setIfInBounds_toArray, List.set_cons_zero, List.set_cons_succ]
        refine wpAnyH_take (i := 1) (v := ?_) rfl (by kernel_rfl) (by kernel_rfl) (by kernel_rfl) (fun _ _ _ h => h) (Or.inl ⟨by rfl, ?_⟩) (by assumption) ?_
        rotate_left 1
        · (intro W hW; clear hW; go_simp; try with_reducible rfl)
        simp only [Act.put, List.getElem_toArray, List.getElem_cons_succ, List.getElem_cons_zero, List.setIfInBounds_toArray, List.set_cons_zero, List.set_cons_succ]
        refine wpAnyH_take (i := 2) (v := ?_) rfl (by kernel_rfl) (by kernel_rfl) (by kernel_rfl) (fun _ _ _ h => h) (Or.inl ⟨by rfl, ?_⟩) (by assumption) ?_
        rotate_left 1
        · (intro W hW; skip; go_simp; try with_reducible rfl)
        simp only [Act.put, List.getElem_toArray, List.getElem_cons_succ, List.getElem_cons_zero, List.setIfInBounds_toArray, List.set_cons_zero, List.set_cons_succ]
        refine wpAnyH_take (i := 3) (v := ?_) rfl (by kernel_rfl) (by kernel_rfl) (by kernel_rfl) (fun _ _ _ h => h) (Or.inl ⟨by rfl, ?_⟩) (by assumption) ?_
        rotate_left 1
        · (intro W hW; clear hW; go_simp; try with_reducible rfl)
        simp only [Act.put, List.getElem_toArray, List.getElem_cons_succ, List.getElem_cons_zero, List.setIfInBounds_toArray, List.set_cons_zero, List.set_cons_succ]
        refine wpAnyH_take (i := 4) (v := ?_) rfl (by kernel_rfl) (by kernel_rfl) (by kernel_rfl) (fun _ _ _ h => h) (Or.inl ⟨by rfl, ?_⟩) (by assumption) ?_
        rotate_left 1
        · (intro W hW; clear hW; go_simp; try with_reducible rfl)
        simp only [Act.put, List.getElem_toArray, List.getElem_cons_succ, List.getElem_cons_zero, List.setIfInBounds_toArray, List.set_cons_zero, List.set_cons_succ]
        refine wpAnyH_take (i := 5) (v := ?_) rfl (by kernel_rfl) (by kernel_rfl) (by kernel_rfl) (fun _ _ _ h => h) (Or.inl ⟨by rfl, ?_⟩) (by assumption) ?_
        rotate_left 1
        · (intro W hW; clear hW; go_simp; try with_reducible rfl)
        simp only [Act.put, List.getElem_toArray, List.getElem_cons_succ, List.getElem_cons_zero, List.setIfInBounds_toArray, List.set_cons_zero, List.set_cons_succ]
        refine wpAnyH_take (i := 6) (v := ?_) rfl (by kernel_rfl) (by kernel_rfl) (by kernel_rfl) (fun _ _ _ h => h) (Or.inl ⟨by rfl, ?_⟩) (by assumption) ?_
        rotate_left 1
        · (intro W hW; clear hW; go_simp; try with_reducible rfl)
        simp only [Act.put, List.getElem_toArray, List.getElem_cons_succ, List.getElem_cons_zero, List.setIfInBounds_toArray, List.set_cons_zero, List.set_cons_succ]
        refine wpAnyH_take (i := 7) (v := ?_) rfl (by kernel_rfl) (by kernel_rfl) (by kernel_rfl) (fun _ _ _ h => h) (Or.inl ⟨by rfl, ?_⟩) (by assumption) ?_
        rotate_left 1
        · (intro W hW; clear hW; go_simp; try with_reducible rfl)
        simp only [Act.put, List.getElem_toArray, List.getElem_cons_succ, List.getElem_cons_zero, List.setIfInBounds_toArray, List.set_cons_zero, List.set_cons_succ]
        refine wpAnyH_take (i := 9) (v := ?_) rfl (by kernel_rfl) (by kernel_rfl) (by kernel_rfl) (fun _ _ _ h => h) (Or.inl ⟨by rfl, ?_⟩) (by assumption) ?_
        rotate_left 1
        · (intro W hW; clear hW; go_simp; try with_reducible rfl)
        simp only [Act.put, List.getElem_toArray, List.getElem_cons_succ, List.getElem_cons_zero, List.setIfInBounds_toArray, List.set_cons_zero, List.set_cons_succ]
        refine wpAnyH_take (i := 10) (v := ?_) rfl (by kernel_rfl) (by kernel_rfl) (by kernel_rfl) (fun _ _ _ h => h) (Or.inl ⟨by rfl, ?_⟩) (by assumption) ?_
        rotate_left 1
        · (intro W hW; clear hW; go_simp; try with_reducible rfl)
        simp only [Act.put, List.getElem_toArray, List.getElem_cons_succ, List.getElem_cons_zero, List.setIfInBounds_toArray, List.set_cons_zero, List.set_cons_succ]
        refine wpAnyH_take (i := 12) (v := ?_) rfl (by kernel_rfl) (by kernel_rfl) (by kernel_rfl) (fun _ _ _ h => h) (Or.inl ⟨by rfl, ?_⟩) (by assumption) ?_
        rotate_left 1
        · (intro W hW; clear hW; go_simp; try with_reducible rfl)
        simp only [Act.put, List.getElem_toArray, List.getElem_cons_succ, List.getElem_cons_zero, List.setIfInBounds_toArray, List.set_cons_zero, List.set_cons_succ]
        refine wpAnyH_take (i := 13) (v := ?_) rfl (by kernel_rfl) (by kernel_rfl) (by kernel_rfl) (fun _ _ _ h => h) (Or.inl ⟨by rfl, ?_⟩) (by assumption) ?_
        rotate_left 1
        · (intro W hW; clear hW; go_simp; try with_reducible rfl)
        simp only [Act.put, List.getElem_toArray, List.getElem_cons_succ, List.getElem_cons_zero, List.setIfInBounds_toArray, List.set_cons_zero, List.set_cons_succ]
        refine wpAnyH_ready (rs := [8]) (by kernel_rfl) (by simp) ?_
        refine AllReadyH.cons rfl (fun K hK => ?_) AllReadyH.nil
        go_simp
        skip
        refine hK.out _ _ (hHeld) (fun hHeld => ?_)
        clear hK K
        try simp only [Act.put, List.getElem_toArray, List.getElem_cons_succ, List.getElem_cons_zero, List.setIfInBounds_toArray, List.set_cons_zero, List.set_cons_succ]
        refine wpAnyH_ready (rs := [11]) (by kernel_rfl) (by simp) ?_
        refine AllReadyH.cons rfl (fun K hK => ?_) AllReadyH.nil
        go_simp
        refine hih.mono ?_
        clear hih
        rintro e w3 ⟨q', rfl, f1, f2, f3, f4, f5⟩
        obtain ⟨o', ho1, ho2⟩ := PT.v_ptr q'
        rw [ho1]
        have hg3 := f5.whole hgq hgR
        have k0 := hg3.cell 1
        have k1 := hg3.frozen 1
        have ho3 : Off F w1 w3 := Off.trans (hqs.off _) f5 (fun _ _ z => (hF _).2 (.inr z))
        go_wp2_with fail
        refine hK.out _ _ (ho3) (fun hHeld => ?_)
        clear hK K
        try simp only [Act.put, List.getElem_toArray, List.getElem_cons_succ, List.getElem_cons_zero, List.setIfInBounds_toArray, List.set_cons_zero, List.set_cons_succ]
        refine wpAnyH_take (i := 14) (v := ?_) rfl (by kernel_rfl) (by kernel_rfl) (by kernel_rfl) (fun _ _ _ h => h) (Or.inl ⟨by rfl, ?_⟩) (by assumption) ?_
        rotate_left 1
        · (intro W hW; clear hW; go_simp; try with_reducible rfl)
        simp only [Act.put, List.getElem_toArray, List.getElem_cons_succ, List.getElem_cons_zero, List.setIfInBounds_toArray, List.set_cons_zero, List.set_cons_succ]
        refine wpAnyH_ready (rs := [15]) (by kernel_rfl) (by simp) ?_
        refine AllReadyH.cons rfl (fun K hK => ?_) AllReadyH.nil
        go_simp
        skip
        refine hK.out _ _ (ho3.setCell (p := ⟨g, 1, none⟩) (.inr ((hF _).2 (.inl rfl))) _) (fun hHeld => ?_)
        clear hK K
        try simp only [Act.put, List.getElem_toArray, List.getElem_cons_succ, List.getElem_cons_zero, List.setIfInBounds_toArray, List.set_cons_zero, List.set_cons_succ]
        refine wpAnyH_done (by kernel_rfl) ?_ _
        have hg4 := hg3.set_ 1 (.pointer o')
        have hsz : W.heap.size ≤ wq.heap.size := hsq.size_
        have v0 := hg4.cell 1
        have v1 := hg4.cell 2
        clear m0 k0 k1
        have hQ : ∀ x ∈ q'.bl, x ≠ g := by
          intro x hx z
          rcases f3 x hx with h | h | h
          · exact hgR (z ▸ h)
          · have := hn.lt x h; omega
          · have := hgq.lt; omega
        have hq4 : q'.At (w3.setCell ⟨g, 1, none⟩ (.pointer o')) := f1.keep (fun x hx => Below.heap_setCell _ _ _ _ (hQ x hx))
        have hoff : Off (fun x => x ∈ PT.rest pd pb (m + 1) d PT.gap) W (w3.setCell ⟨g, 1, none⟩ (.pointer o')) := by
          have hb3 : Since W w3 := by
            have e1 : Off (fun x => False) W w3 := Off.trans (hsq.off _) f5 (fun x _ z => by have := PT.rest_sub _ _ _ _ _ _ z; cases this)
            exact e1.below (Nat.le_refl _) (fun b z => z.elim)
          exact (Since.setCell hb3 (p := ⟨g, 1, none⟩) (by show W.heap.size ≤ g; omega) _).off _
        by_cases cc : o' = (none : Option Addr) ∧ none = (none : Option Addr)
        · have htr : Tr.gap = Tr.put pd pb n.tr (m + 1) d Tr.gap := by
            have e1 : q'.tr = Tr.gap := (PT.gap_iff _).2 (ho2.1 cc.1)
            rw [e1] at f4
            unfold Tr.put
            rw [if_pos hbit]
            simp only [Tr.kids]
            rw [show Tr.put pd pb n.tr m (d + 1) Tr.gap = Tr.gap from f4.symm]
            rfl
          have hg5 := hg4
          skip
          obtain rfl := cc.1
          have he := eq_halves none none
          go_wp2_with fail
          go_ret
          exact ⟨.gap, rfl, trivial, List.nodup_nil, (fun x hx => by cases hx), htr, hoff⟩
        · have he := eq_halves_no cc
          go_wp2_with fail
          go_ret
          refine ⟨.node g 0 q' .gap, rfl, ⟨?_, hq4, trivial⟩, ?_, ?_, ?_, hoff⟩
          · rw [ho1, hoo1]; exact hg4
          · exact nodup_node f2 List.nodup_nil (fun z => hQ g z rfl) (by simp [PT.bl]) (fun x _ z => by cases z)
          · intro x hx
            rcases List.mem_cons.1 hx with h | h
            · exact .inr (.inr (by omega))
            · have h2 : x ∈ q'.bl := by simpa [PT.bl] using h
              rcases f3 x h2 with z | z | z
              · have := PT.rest_sub _ _ _ _ _ _ z; cases this
              · exact .inr (.inl z)
              · exact .inr (.inr (by omega))
          · show Tr.node _ _ = Tr.put pd pb n.tr (m + 1) d Tr.gap
            unfold Tr.put
            rw [if_pos hbit]
            simp only [Tr.kids]
            rw [show Tr.put pd pb n.tr m (d + 1) Tr.gap = q'.tr from f4.symm]
            refine (Tr.mk_node ?_).symm
            exact fun z => cc ⟨ho2.2 ((PT.gap_iff _).1 z.1), by trivial⟩
      · have hb' := bit_at (d := pd) (b := pb) (i := d) hbit
        simp only [PT.v]
        have p1 := (hp.alloc (.cells #[.int .i64 0, .pointer none, .pointer none] 96)).cell 0
        have p2 := (hp.alloc (.cells #[.int .i64 0, .pointer none, .pointer none] 96)).cell 1
        go_enter Try.func102, Try.ntmps102
        go_wp2_with fail
        refine Calls.named (fun W0 hW0 => ?_)
        have hs0 : Since W W0 := ((Since.refl W).alloc _).named hW0
        have hg : Whole W0 W.heap.size 96 #[.int .i64 0, .pointer none, .pointer none] := (Whole.new W _ _).named hW0
        have hgl := hg.lt
        obtain ⟨g, hgg⟩ : ∃ g, g = W.heap.size := ⟨_, rfl⟩
        rw [← hgg] at hg hgl ⊢
        have hge : W.heap.size ≤ g := by omega
        have HGG := Lib.hid hgg
        clear hgg
        have hco : PT.At W0 PT.gap := trivial
        clear hW0
        refine (hb' W0).mono ?_
        rintro e w1 ⟨rfl, hb1⟩
        have hs1 := hs0.trans hb1
        replace hg := Since.whole hb1 hg
        replace hco := hco.since hb1
        clear hb1 hb' p0 p1 p2
        obtain ⟨VC, hVC⟩ : ∃ V, PT.v .gap = V := ⟨_, rfl⟩
        obtain ⟨oo, hoo1, hoo2⟩ := PT.v_ptr PT.gap
        have hoo3 : oo = none := hoo2.2 rfl
        subst hoo3
        have hg' : Whole w1 g 96 #[.int .i64 0, .pointer none, VC] := by rw [← hVC, ← hoo1]; exact hg
        clear hg
        go_wp2_with fail
        obtain ⟨wq, hwq⟩ : ∃ wq, wq = w1.drew := ⟨_, rfl⟩
        have hqs : Since w1 wq := by rw [hwq]; exact (Since.refl w1).drew
        have hsq := hs1.trans hqs
        obtain ⟨F, hF⟩ : ∃ F : Nat → Prop, ∀ x, F x ↔ (x = g ∨ x ∈ PT.rest pd pb m (d + 1) .gap) := ⟨_, fun _ => Iff.rfl⟩
        have hSW : ∀ W', Off F w1 W' → W'.cell? ⟨WB, 0, none⟩ = some (.func (.func 102) #[] #[.pointer (some ⟨PB, 0, none⟩), .pointer (some ⟨NB, 0, none⟩), .pointer (some ⟨WB, 0, none⟩)]) := off_cell (Since.whole hs1 hw) (fun z => by
          rcases (hF _).1 z with z | z
          · have := hw.lt; omega
          · have := PT.rest_sub _ _ _ _ _ _ z; cases this) 0 _ rfl
        refine wp_region_held_drew (S := fun W' => Off F w1 W') (by kernel_rfl) ((Since.refl w1).drew.off _) (fun hHeld => ?_)
        rw [← hwq] at hHeld ⊢
        have hgq := Since.whole hqs hg'
        have m0 := hgq.cell 2
        clear hwq
        have hih := ih (d + 1) .gap wq (by omega) (by omega) (by cases m <;> trivial) trivial List.nodup_nil (hn.since hsq) (fun x _ z => by have := PT.rest_sub _ _ _ _ _ _ z; cases this) (Since.whole hsq hp) (Since.whole hsq hb) (Since.whole hsq hw) (fun x z => by have := PT.rest_sub _ _ _ _ _ _ z; cases this)
        rw [hVC] at hih
        have hgR : g ∉ PT.rest pd pb m (d + 1) .gap := fun z => by have := PT.rest_sub _ _ _ _ _ _ z; cases this
        refine wpAnyH_take (i := 0) (v := ?_) rfl (by kernel_rfl) (by kernel_rfl) (by kernel_rfl) (fun _ _ _ h => h) (Or.inl ⟨by rfl, ?_⟩) (by assumption) ?_
        rotate_left 1
        · (intro W hW; clear hW; go_simp; try with_reducible rfl)
        simp only [Act.put, List.getElem_toArray, List.getElem_cons_zero, List.setIfInBounds_toArray, List.set_cons_zero, List.set_cons_succ]
        refine wpAnyH_take (i := 1) (v := ?_) rfl (by kernel_rfl) (by kernel_rfl) (by kernel_rfl) (fun _ _ _ h => h) (Or.inl ⟨by rfl, ?_⟩) (by assumption) ?_
        rotate_left 1
        · (intro W hW; clear hW; go_simp; try with_reducible rfl)
        simp only [Act.put, List.getElem_toArray, List.getElem_cons_succ, List.getElem_cons_zero, List.setIfInBounds_toArray, List.set_cons_zero, List.set_cons_succ]
        refine wpAnyH_take (i := 2) (v := ?_) rfl (by kernel_rfl) (by kernel_rfl) (by kernel_rfl) (fun _ _ _ h => h) (Or.inl ⟨by rfl, ?_⟩) (by assumption) ?_
        rotate_left 1
        · (intro W hW; skip; go_simp; try with_reducible rfl)
        simp only [Act.put, List.getElem_toArray, List.getElem_cons_succ, List.getElem_cons_zero, List.setIfInBounds_toArray, List.set_cons_zero, List.set_cons_succ]
        refine wpAnyH_take (i := 3) (v := ?_) rfl (by kernel_rfl) (by kernel_rfl) (by kernel_rfl) (fun _ _ _ h => h) (Or.inl ⟨by rfl, ?_⟩) (by assumption) ?_
        rotate_left 1
        · (intro W hW; clear hW; go_simp; try with_reducible rfl)
        simp only [Act.put, List.getElem_toArray, List.getElem_cons_succ, List.getElem_cons_zero, List.setIfInBounds_toArray, List.set_cons_zero, List.set_cons_succ]
        refine wpAnyH_take (i := 4) (v := ?_) rfl (by kernel_rfl) (by kernel_rfl) (by kernel_rfl) (fun _ _ _ h => h) (Or.inl ⟨by rfl, ?_⟩) (by assumption) ?_
        rotate_left 1
        · (intro W hW; clear hW; go_simp; try with_reducible rfl)
        simp only [Act.put, List.getElem_toArray, List.getElem_cons_succ, List.getElem_cons_zero, List.setIfInBounds_toArray, List.set_cons_zero, List.set_cons_succ]
        refine wpAnyH_take (i := 5) (v := ?_) rfl (by kernel_rfl) (by kernel_rfl) (by kernel_rfl) (fun _ _ _ h => h) (Or.inl ⟨by rfl, ?_⟩) (by assumption) ?_
        rotate_left 1
        · (intro W hW; clear hW; go_simp; try with_reducible rfl)
        simp only [Act.put, List.getElem_toArray, List.getElem_cons_succ, List.getElem_cons_zero, List.setIfInBounds_toArray, List.set_cons_zero, List.set_cons_succ]
        refine wpAnyH_take (i := 6) (v := ?_) rfl (by kernel_rfl) (by kernel_rfl) (by kernel_rfl) (fun _ _ _ h => h) (Or.inl ⟨by rfl, ?_⟩) (by assumption) ?_
        rotate_left 1
        · (intro W hW; clear hW; go_simp; try with_reducible rfl)
        simp only [Act.put, List.getElem_toArray, List.getElem_cons_succ, List.getElem_cons_zero, List.setIfInBounds_toArray, List.set_cons_zero, List.set_cons_succ]
        refine wpAnyH_take (i := 7) (v := ?_) rfl (by kernel_rfl) (by kernel_rfl) (by kernel_rfl) (fun _ _ _ h => h) (Or.inl ⟨by rfl, ?_⟩) (by assumption) ?_
        rotate_left 1
        · (intro W hW; clear hW; go_simp; try with_reducible rfl)
        simp only [Act.put, List.getElem_toArray, List.getElem_cons_succ, List.getElem_cons_zero, List.setIfInBounds_toArray, List.set_cons_zero, List.set_cons_succ]
        refine wpAnyH_take (i := 9) (v := ?_) rfl (by kernel_rfl) (by kernel_rfl) (by kernel_rfl) (fun _ _ _ h => h) (Or.inl ⟨by rfl, ?_⟩) (by assumption) ?_
        rotate_left 1
        · (intro W hW; clear hW; go_simp; try with_reducible rfl)
        simp only [Act.put, List.getElem_toArray, List.getElem_cons_succ, List.getElem_cons_zero, List.setIfInBounds_toArray, List.set_cons_zero, List.set_cons_succ]
        refine wpAnyH_take (i := 10) (v := ?_) rfl (by kernel_rfl) (by kernel_rfl) (by kernel_rfl) (fun _ _ _ h => h) (Or.inl ⟨by rfl, ?_⟩) (by assumption) ?_
        rotate_left 1
        · (intro W hW; clear hW; go_simp; try with_reducible rfl)
        simp only [Act.put, List.getElem_toArray, List.getElem_cons_succ, List.getElem_cons_zero, List.setIfInBounds_toArray, List.set_cons_zero, List.set_cons_succ]
        refine wpAnyH_take (i := 12) (v := ?_) rfl (by kernel_rfl) (by kernel_rfl) (by kernel_rfl) (fun _ _ _ h => h) (Or.inl ⟨by rfl, ?_⟩) (by assumption) ?_
        rotate_left 1
        · (intro W hW; clear hW; go_simp; try with_reducible rfl)
        simp only [Act.put, List.getElem_toArray, List.getElem_cons_succ, List.getElem_cons_zero, List.setIfInBounds_toArray, List.set_cons_zero, List.set_cons_succ]
        refine wpAnyH_take (i := 13) (v := ?_) rfl (by kernel_rfl) (by kernel_rfl) (by kernel_rfl) (fun _ _ _ h => h) (Or.inl ⟨by rfl, ?_⟩) (by assumption) ?_
        rotate_left 1
        · (intro W hW; clear hW; go_simp; try with_reducible rfl)
        simp only [Act.put, List.getElem_toArray, List.getElem_cons_succ, List.getElem_cons_zero, List.setIfInBounds_toArray, List.set_cons_zero, List.set_cons_succ]
        refine wpAnyH_ready (rs := [8]) (by kernel_rfl) (by simp) ?_
        refine AllReadyH.cons rfl (fun K hK => ?_) AllReadyH.nil
        go_simp
        skip
        refine hK.out _ _ (hHeld) (fun hHeld => ?_)
        clear hK K
        try simp only [Act.put, List.getElem_toArray, List.getElem_cons_succ, List.getElem_cons_zero, List.setIfInBounds_toArray, List.set_cons_zero, List.set_cons_succ]
        refine wpAnyH_ready (rs := [11]) (by kernel_rfl) (by simp) ?_
        refine AllReadyH.cons rfl (fun K hK => ?_) AllReadyH.nil
        go_simp
        refine hih.mono ?_
        clear hih
        rintro e w3 ⟨q', rfl, f1, f2, f3, f4, f5⟩
        obtain ⟨o', ho1, ho2⟩ := PT.v_ptr q'
        rw [ho1]
        have hg3 := f5.whole hgq hgR
        have k0 := hg3.cell 2
        have k1 := hg3.frozen 2
        have ho3 : Off F w1 w3 := Off.trans (hqs.off _) f5 (fun _ _ z => (hF _).2 (.inr z))
        go_wp2_with fail
        refine hK.out _ _ (ho3) (fun hHeld => ?_)
        clear hK K
        try simp only [Act.put, List.getElem_toArray, List.getElem_cons_succ, List.getElem_cons_zero, List.setIfInBounds_toArray, List.set_cons_zero, List.set_cons_succ]
        refine wpAnyH_take (i := 14) (v := ?_) rfl (by kernel_rfl) (by kernel_rfl) (by kernel_rfl) (fun _ _ _ h => h) (Or.inl ⟨by rfl, ?_⟩) (by assumption) ?_
        rotate_left 1
        · (intro W hW; clear hW; go_simp; try with_reducible rfl)
        simp only [Act.put, List.getElem_toArray, List.getElem_cons_succ, List.getElem_cons_zero, List.setIfInBounds_toArray, List.set_cons_zero, List.set_cons_succ]
        refine wpAnyH_ready (rs := [15]) (by kernel_rfl) (by simp) ?_
        refine AllReadyH.cons rfl (fun K hK => ?_) AllReadyH.nil
        go_simp
        skip
        refine hK.out _ _ (ho3.setCell (p := ⟨g, 2, none⟩) (.inr ((hF _).2 (.inl rfl))) _) (fun hHeld => ?_)
        clear hK K
        try simp only [Act.put, List.getElem_toArray, List.getElem_cons_succ, List.getElem_cons_zero, List.setIfInBounds_toArray, List.set_cons_zero, List.set_cons_succ]
        refine wpAnyH_done (by kernel_rfl) ?_ _
        have hg4 := hg3.set_ 2 (.pointer o')
        have hsz : W.heap.size ≤ wq.heap.size := hsq.size_
        have v0 := hg4.cell 1
        have v1 := hg4.cell 2
        clear m0 k0 k1
        have hQ : ∀ x ∈ q'.bl, x ≠ g := by
          intro x hx z
          rcases f3 x hx with h | h | h
          · exact hgR (z ▸ h)
          · have := hn.lt x h; omega
          · have := hgq.lt; omega
        have hq4 : q'.At (w3.setCell ⟨g, 2, none⟩ (.pointer o')) := f1.keep (fun x hx => Below.heap_setCell _ _ _ _ (hQ x hx))
        have hoff : Off (fun x => x ∈ PT.rest pd pb (m + 1) d PT.gap) W (w3.setCell ⟨g, 2, none⟩ (.pointer o')) := by
          have hb3 : Since W w3 := by
            have e1 : Off (fun x => False) W w3 := Off.trans (hsq.off _) f5 (fun x _ z => by have := PT.rest_sub _ _ _ _ _ _ z; cases this)
            exact e1.below (Nat.le_refl _) (fun b z => z.elim)
          exact (Since.setCell hb3 (p := ⟨g, 2, none⟩) (by show W.heap.size ≤ g; omega) _).off _
        by_cases cc : none = (none : Option Addr) ∧ o' = (none : Option Addr)
        · have htr : Tr.gap = Tr.put pd pb n.tr (m + 1) d Tr.gap := by
            have e1 : q'.tr = Tr.gap := (PT.gap_iff _).2 (ho2.1 cc.2)
            rw [e1] at f4
            unfold Tr.put
            rw [if_neg (by omega)]
            simp only [Tr.kids]
            rw [show Tr.put pd pb n.tr m (d + 1) Tr.gap = Tr.gap from f4.symm]
            rfl
          have hg5 := hg4
          skip
          obtain rfl := cc.2
          have he := eq_halves none none
          go_wp2_with fail
          go_ret
          exact ⟨.gap, rfl, trivial, List.nodup_nil, (fun x hx => by cases hx), htr, hoff⟩
        · have he := eq_halves_no cc
          go_wp2_with fail
          go_ret
          refine ⟨.node g 0 .gap q', rfl, ⟨?_, trivial, hq4⟩, ?_, ?_, ?_, hoff⟩
          · rw [ho1, hoo1]; exact hg4
          · exact nodup_node List.nodup_nil f2 (by simp [PT.bl]) (fun z => hQ g z rfl) (fun x z _ => by cases z)
          · intro x hx
            rcases List.mem_cons.1 hx with h | h
            · exact .inr (.inr (by omega))
            · have h2 : x ∈ q'.bl := by simpa [PT.bl] using h
              rcases f3 x h2 with z | z | z
              · have := PT.rest_sub _ _ _ _ _ _ z; cases this
              · exact .inr (.inl z)
              · exact .inr (.inr (by omega))
          · show Tr.node _ _ = Tr.put pd pb n.tr (m + 1) d Tr.gap
            unfold Tr.put
            rw [if_neg (by omega)]
            simp only [Tr.kids]
            rw [show Tr.put pd pb n.tr m (d + 1) Tr.gap = q'.tr from f4.symm]
            refine (Tr.mk_node ?_).symm
            exact fun z => cc ⟨by trivial, ho2.2 ((PT.gap_iff _).1 z.2)⟩
    | node g z l r =>
      obtain ⟨hg, hql, hqr⟩ := hq
      rcases (show bitI pd pb d = 0 ∨ bitI pd pb d = 1 by rw [bitI_yes hf hd0 hlt]; omega) with hbit | hbit
      · have hclc : PT.clear pd pb m (d + 1) l := by unfold PT.clear at hcl; rwa [if_pos hbit] at hcl
        have hmem : ∀ x ∈ PT.rest pd pb m (d + 1) l, x ∈ PT.rest pd pb (m + 1) d (.node g z l r) := fun x hx => by rw [show PT.rest pd pb (m + 1) d (.node g z l r) = _ from if_pos hbit]; exact List.mem_cons_of_mem _ (List.mem_append.2 (.inl hx))
        obtain ⟨hnc, hno, hgc, hgo, hdis0⟩ := nodup_parts hqn
        have hdis : ∀ x ∈ l.bl, x ∉ r.bl := hdis0
        have hb' := bit_at (d := pd) (b := pb) (i := d) hbit
        simp only [PT.v]
        have p1 := hp.cell 1
        go_enter Try.func102, Try.ntmps102
        go_wp2_with fail
        refine Calls.named (fun W0 hW0 => ?_)
        have hs0 : Since W W0 := (Since.refl W).named hW0
        replace hg := hg.named hW0
        have hco : l.At W0 := hql.named hW0
        have hoo : r.At W0 := hqr.named hW0
        clear hW0
        refine (hb' W0).mono ?_
        rintro e w1 ⟨rfl, hb1⟩
        have hs1 := hs0.trans hb1
        replace hg := Since.whole hb1 hg
        replace hco := hco.since hb1
        replace hoo := hoo.since hb1
        clear hb1 hb' p0 p1
        obtain ⟨VC, hVC⟩ : ∃ V, PT.v l = V := ⟨_, rfl⟩
        obtain ⟨oo, hoo1, hoo2⟩ := PT.v_ptr r
        have hg' : Whole w1 g 96 #[.int .i64 z, VC, .pointer oo] := by rw [← hVC, ← hoo1]; exact hg
        clear hg
        go_wp2_with fail
        obtain ⟨wq, hwq⟩ : ∃ wq, wq = w1.drew := ⟨_, rfl⟩
        have hqs : Since w1 wq := by rw [hwq]; exact (Since.refl w1).drew
        have hsq := hs1.trans hqs
        obtain ⟨F, hF⟩ : ∃ F : Nat → Prop, ∀ x, F x ↔ (x = g ∨ x ∈ PT.rest pd pb m (d + 1) l) := ⟨_, fun _ => Iff.rfl⟩
        have hSW : ∀ W', Off F w1 W' → W'.cell? ⟨WB, 0, none⟩ = some (.func (.func 102) #[] #[.pointer (some ⟨PB, 0, none⟩), .pointer (some ⟨NB, 0, none⟩), .pointer (some ⟨WB, 0, none⟩)]) := off_cell (Since.whole hs1 hw) (fun z => by
          rcases (hF _).1 z with z | z
          · exact (hav g (by unfold PT.rest; split <;> exact List.mem_cons_self)).2.2 z.symm
          · exact (hav _ (hmem _ z)).2.2 rfl) 0 _ rfl
        refine wp_region_held_drew (S := fun W' => Off F w1 W') (by kernel_rfl) ((Since.refl w1).drew.off _) (fun hHeld => ?_)
        rw [← hwq] at hHeld ⊢
        have hgq := Since.whole hqs hg'
        have m0 := hgq.cell 1
        clear hwq
        have hih := ih (d + 1) l wq (by omega) (by omega) hclc (hco.since hqs) hnc (hn.since hsq) (fun x hx z => hnd x hx (hmem x z)) (Since.whole hsq hp) (Since.whole hsq hb) (Since.whole hsq hw) (fun x z => hav x (hmem x z))
        rw [hVC] at hih
        have hgR : g ∉ PT.rest pd pb m (d + 1) l := fun z => hgc (PT.rest_sub _ _ _ _ _ _ z)
        refine wpAnyH_take (i := 0) (v := ?_) rfl (by kernel_rfl) (by kernel_rfl) (by kernel_rfl) (fun _ _ _ h => h) (Or.inl ⟨by rfl, ?_⟩) (by assumption) ?_
        rotate_left 1
        · (intro W hW; clear hW; go_simp; try with_reducible rfl)
        simp only [Act.put, List.getElem_toArray, List.getElem_cons_zero, List.setIfInBounds_toArray, List.set_cons_zero, List.set_cons_succ]
        refine wpAnyH_take (i := 1) (v := ?_) rfl (by kernel_rfl) (by kernel_rfl) (by kernel_rfl) (fun _ _ _ h => h) (Or.inl ⟨by rfl, ?_⟩) (by assumption) ?_
        rotate_left 1
        · (intro W hW; clear hW; go_simp; try with_reducible rfl)
        simp only [Act.put, List.getElem_toArray, List.getElem_cons_succ, List.getElem_cons_zero, List.setIfInBounds_toArray, List.set_cons_zero, List.set_cons_succ]
        refine wpAnyH_take (i := 2) (v := ?_) rfl (by kernel_rfl) (by kernel_rfl) (by kernel_rfl) (fun _ _ _ h => h) (Or.inl ⟨by rfl, ?_⟩) (by assumption) ?_
        rotate_left 1
        · (intro W hW; skip; go_simp; try with_reducible rfl)
        simp only [Act.put, List.getElem_toArray, List.getElem_cons_succ, List.getElem_cons_zero, List.setIfInBounds_toArray, List.set_cons_zero, List.set_cons_succ]
        refine wpAnyH_take (i := 3) (v := ?_) rfl (by kernel_rfl) (by kernel_rfl) (by kernel_rfl) (fun _ _ _ h => h) (Or.inl ⟨by rfl, ?_⟩) (by assumption) ?_
        rotate_left 1
        · (intro W hW; clear hW; go_simp; try with_reducible rfl)
        simp only [Act.put, List.getElem_toArray, List.getElem_cons_succ, List.getElem_cons_zero, List.setIfInBounds_toArray, List.set_cons_zero, List.set_cons_succ]
        refine wpAnyH_take (i := 4) (v := ?_) rfl (by kernel_rfl) (by kernel_rfl) (by kernel_rfl) (fun _ _ _ h => h) (Or.inl ⟨by rfl, ?_⟩) (by assumption) ?_
        rotate_left 1
        · (intro W hW; clear hW; go_simp; try with_reducible rfl)
        simp only [Act.put, List.getElem_toArray, List.getElem_cons_succ, List.getElem_cons_zero, List.setIfInBounds_toArray, List.set_cons_zero, List.set_cons_succ]
        refine wpAnyH_take (i := 5) (v := ?_) rfl (by kernel_rfl) (by kernel_rfl) (by kernel_rfl) (fun _ _ _ h => h) (Or.inl ⟨by rfl, ?_⟩) (by assumption) ?_
        rotate_left 1
        · (intro W hW; clear hW; go_simp; try with_reducible rfl)
        simp only [Act.put, List.getElem_toArray, List.getElem_cons_succ, List.getElem_cons_zero, List.setIfInBounds_toArray, List.set_cons_zero, List.set_cons_succ]
        refine wpAnyH_take (i := 6) (v := ?_) rfl (by kernel_rfl) (by kernel_rfl) (by kernel_rfl) (fun _ _ _ h => h) (Or.inl ⟨by rfl, ?_⟩) (by assumption) ?_
        rotate_left 1
        · (intro W hW; clear hW; go_simp; try with_reducible rfl)
        simp only [Act.put, List.getElem_toArray, List.getElem_cons_succ, List.getElem_cons_zero, List.setIfInBounds_toArray, List.set_cons_zero, List.set_cons_succ]
        refine wpAnyH_take (i := 7) (v := ?_) rfl (by kernel_rfl) (by kernel_rfl) (by kernel_rfl) (fun _ _ _ h => h) (Or.inl ⟨by rfl, ?_⟩) (by assumption) ?_
        rotate_left 1
        · (intro W hW; clear hW; go_simp; try with_reducible rfl)
        simp only [Act.put, List.getElem_toArray, List.getElem_cons_succ, List.getElem_cons_zero, List.setIfInBounds_toArray, List.set_cons_zero, List.set_cons_succ]
        refine wpAnyH_take (i := 9) (v := ?_) rfl (by kernel_rfl) (by kernel_rfl) (by kernel_rfl) (fun _ _ _ h => h) (Or.inl ⟨by rfl, ?_⟩) (by assumption) ?_
        rotate_left 1
        · (intro W hW; clear hW; go_simp; try with_reducible rfl)
        simp only [Act.put, List.getElem_toArray, List.getElem_cons_succ, List.getElem_cons_zero, List.setIfInBounds_toArray, List.set_cons_zero, List.set_cons_succ]
        refine wpAnyH_take (i := 10) (v := ?_) rfl (by kernel_rfl) (by kernel_rfl) (by kernel_rfl) (fun _ _ _ h => h) (Or.inl ⟨by rfl, ?_⟩) (by assumption) ?_
        rotate_left 1
        · (intro W hW; clear hW; go_simp; try with_reducible rfl)
        simp only [Act.put, List.getElem_toArray, List.getElem_cons_succ, List.getElem_cons_zero, List.setIfInBounds_toArray, List.set_cons_zero, List.set_cons_succ]
        refine wpAnyH_take (i := 12) (v := ?_) rfl (by kernel_rfl) (by kernel_rfl) (by kernel_rfl) (fun _ _ _ h => h) (Or.inl ⟨by rfl, ?_⟩) (by assumption) ?_
        rotate_left 1
        · (intro W hW; clear hW; go_simp; try with_reducible rfl)
        simp only [Act.put, List.getElem_toArray, List.getElem_cons_succ, List.getElem_cons_zero, List.setIfInBounds_toArray, List.set_cons_zero, List.set_cons_succ]
        refine wpAnyH_take (i := 13) (v := ?_) rfl (by kernel_rfl) (by kernel_rfl) (by kernel_rfl) (fun _ _ _ h => h) (Or.inl ⟨by rfl, ?_⟩) (by assumption) ?_
        rotate_left 1
        · (intro W hW; clear hW; go_simp; try with_reducible rfl)
        simp only [Act.put, List.getElem_toArray, List.getElem_cons_succ, List.getElem_cons_zero, List.setIfInBounds_toArray, List.set_cons_zero, List.set_cons_succ]
        refine wpAnyH_ready (rs := [8]) (by kernel_rfl) (by simp) ?_
        refine AllReadyH.cons rfl (fun K hK => ?_) AllReadyH.nil
        go_simp
        skip
        refine hK.out _ _ (hHeld) (fun hHeld => ?_)
        clear hK K
        try simp only [Act.put, List.getElem_toArray, List.getElem_cons_succ, List.getElem_cons_zero, List.setIfInBounds_toArray, List.set_cons_zero, List.set_cons_succ]
        refine wpAnyH_ready (rs := [11]) (by kernel_rfl) (by simp) ?_
        refine AllReadyH.cons rfl (fun K hK => ?_) AllReadyH.nil
        go_simp
        refine hih.mono ?_
        clear hih
        rintro e w3 ⟨q', rfl, f1, f2, f3, f4, f5⟩
        obtain ⟨o', ho1, ho2⟩ := PT.v_ptr q'
        rw [ho1]
        have hg3 := f5.whole hgq hgR
        have k0 := hg3.cell 1
        have k1 := hg3.frozen 1
        have ho3 : Off F w1 w3 := Off.trans (hqs.off _) f5 (fun _ _ z => (hF _).2 (.inr z))
        go_wp2_with fail
        refine hK.out _ _ (ho3) (fun hHeld => ?_)
        clear hK K
        try simp only [Act.put, List.getElem_toArray, List.getElem_cons_succ, List.getElem_cons_zero, List.setIfInBounds_toArray, List.set_cons_zero, List.set_cons_succ]
        refine wpAnyH_take (i := 14) (v := ?_) rfl (by kernel_rfl) (by kernel_rfl) (by kernel_rfl) (fun _ _ _ h => h) (Or.inl ⟨by rfl, ?_⟩) (by assumption) ?_
        rotate_left 1
        · (intro W hW; clear hW; go_simp; try with_reducible rfl)
        simp only [Act.put, List.getElem_toArray, List.getElem_cons_succ, List.getElem_cons_zero, List.setIfInBounds_toArray, List.set_cons_zero, List.set_cons_succ]
        refine wpAnyH_ready (rs := [15]) (by kernel_rfl) (by simp) ?_
        refine AllReadyH.cons rfl (fun K hK => ?_) AllReadyH.nil
        go_simp
        skip
        refine hK.out _ _ (ho3.setCell (p := ⟨g, 1, none⟩) (.inr ((hF _).2 (.inl rfl))) _) (fun hHeld => ?_)
        clear hK K
        try simp only [Act.put, List.getElem_toArray, List.getElem_cons_succ, List.getElem_cons_zero, List.setIfInBounds_toArray, List.set_cons_zero, List.set_cons_succ]
        refine wpAnyH_done (by kernel_rfl) ?_ _
        have hg4 := hg3.set_ 1 (.pointer o')
        have hsz : W.heap.size ≤ wq.heap.size := hsq.size_
        have v0 := hg4.cell 1
        have v1 := hg4.cell 2
        clear m0 k0 k1
        have hQ : ∀ x ∈ q'.bl, x ≠ g := by
          intro x hx z
          rcases f3 x hx with h | h | h
          · exact hgR (z ▸ h)
          · exact hnd x h (by rw [z]; unfold PT.rest; split <;> exact List.mem_cons_self)
          · have := hgq.lt; omega
        have hq4 : q'.At (w3.setCell ⟨g, 1, none⟩ (.pointer o')) := f1.keep (fun x hx => Below.heap_setCell _ _ _ _ (hQ x hx))
        have ho4 : r.At (w3.setCell ⟨g, 1, none⟩ (.pointer o')) := ((hoo.since hqs).off f5 (fun x hx z => hdis x (PT.rest_sub _ _ _ _ _ _ z) hx)).keep (fun x hx => Below.heap_setCell _ _ _ _ (fun z => hgo (by have z' : x = g := z; rw [← z']; exact hx)))
        have hoff : Off (fun x => x ∈ PT.rest pd pb (m + 1) d (PT.node g z l r)) W (w3.setCell ⟨g, 1, none⟩ (.pointer o')) := by
          exact (Off.trans (hsq.off _) f5 (fun x _ z => hmem x z)).setCell (p := ⟨g, 1, none⟩) (.inr (by show g ∈ PT.rest _ _ _ _ _; unfold PT.rest; split <;> exact List.mem_cons_self)) _
        by_cases cc : o' = (none : Option Addr) ∧ oo = (none : Option Addr)
        · have htr : Tr.gap = Tr.put pd pb n.tr (m + 1) d (Tr.node l.tr r.tr) := by
            have e1 : q'.tr = Tr.gap := (PT.gap_iff _).2 (ho2.1 cc.1)
            rw [e1] at f4
            unfold Tr.put
            rw [if_pos hbit]
            simp only [Tr.kids]
            rw [show Tr.put pd pb n.tr m (d + 1) l.tr = Tr.gap from f4.symm, (PT.gap_iff _).2 (hoo2.1 cc.2)]
            rfl
          have hg5 := hg4
          skip
          obtain ⟨rfl, rfl⟩ := cc
          have he := eq_halves none none
          go_wp2_with fail
          go_ret
          exact ⟨.gap, rfl, trivial, List.nodup_nil, (fun x hx => by cases hx), htr, hoff⟩
        · have he := eq_halves_no cc
          go_wp2_with fail
          go_ret
          refine ⟨.node g z q' r, rfl, ⟨?_, hq4, ho4⟩, ?_, ?_, ?_, hoff⟩
          · rw [ho1, hoo1]; exact hg4
          · refine nodup_node f2 hno (fun z => hQ g z rfl) hgo (fun x hx hy => ?_)
            rcases f3 x hx with h | h | h
            · exact hdis x (PT.rest_sub _ _ _ _ _ _ h) hy
            · exact hnd x h (by unfold PT.rest; rw [if_pos hbit]; exact List.mem_cons_of_mem _ (List.mem_append.2 (.inr hy)))
            · have := (hoo.since hqs).lt x hy; omega
          · intro x hx
            unfold PT.rest
            rw [if_pos hbit]
            rcases List.mem_cons.1 hx with h | h
            · exact .inl (h ▸ List.mem_cons_self)
            · rcases List.mem_append.1 h with h | h
              · rcases f3 x h with z | z | z
                · exact .inl (List.mem_cons_of_mem _ (List.mem_append.2 (.inl z)))
                · exact .inr (.inl z)
                · exact .inr (.inr (by omega))
              · exact .inl (List.mem_cons_of_mem _ (List.mem_append.2 (.inr h)))
          · show Tr.node _ _ = Tr.put pd pb n.tr (m + 1) d (Tr.node l.tr r.tr)
            unfold Tr.put
            rw [if_pos hbit]
            simp only [Tr.kids]
            rw [show Tr.put pd pb n.tr m (d + 1) l.tr = q'.tr from f4.symm]
            refine (Tr.mk_node ?_).symm
            exact fun z => cc ⟨ho2.2 ((PT.gap_iff _).1 z.1), hoo2.2 ((PT.gap_iff _).1 z.2)⟩
      · have hclc : PT.clear pd pb m (d + 1) r := by unfold PT.clear at hcl; rwa [if_neg (by omega)] at hcl
        have hmem : ∀ x ∈ PT.rest pd pb m (d + 1) r, x ∈ PT.rest pd pb (m + 1) d (.node g z l r) := fun x hx => by rw [show PT.rest pd pb (m + 1) d (.node g z l r) = _ from if_neg (by omega)]; exact List.mem_cons_of_mem _ (List.mem_append.2 (.inr hx))
        obtain ⟨hno, hnc, hgo, hgc, hdis0⟩ := nodup_parts hqn
        have hdis : ∀ x ∈ r.bl, x ∉ l.bl := fun x hx hy => hdis0 x hy hx
        have hb' := bit_at (d := pd) (b := pb) (i := d) hbit
        simp only [PT.v]
        have p1 := hp.cell 1
        go_enter Try.func102, Try.ntmps102
        go_wp2_with fail
        refine Calls.named (fun W0 hW0 => ?_)
        have hs0 : Since W W0 := (Since.refl W).named hW0
        replace hg := hg.named hW0
        have hco : r.At W0 := hqr.named hW0
        have hoo : l.At W0 := hql.named hW0
        clear hW0
        refine (hb' W0).mono ?_
        rintro e w1 ⟨rfl, hb1⟩
        have hs1 := hs0.trans hb1
        replace hg := Since.whole hb1 hg
        replace hco := hco.since hb1
        replace hoo := hoo.since hb1
        clear hb1 hb' p0 p1
        obtain ⟨VC, hVC⟩ : ∃ V, PT.v r = V := ⟨_, rfl⟩
        obtain ⟨oo, hoo1, hoo2⟩ := PT.v_ptr l
        have hg' : Whole w1 g 96 #[.int .i64 z, .pointer oo, VC] := by rw [← hVC, ← hoo1]; exact hg
        clear hg
        go_wp2_with fail
        obtain ⟨wq, hwq⟩ : ∃ wq, wq = w1.drew := ⟨_, rfl⟩
        have hqs : Since w1 wq := by rw [hwq]; exact (Since.refl w1).drew
        have hsq := hs1.trans hqs
        obtain ⟨F, hF⟩ : ∃ F : Nat → Prop, ∀ x, F x ↔ (x = g ∨ x ∈ PT.rest pd pb m (d + 1) r) := ⟨_, fun _ => Iff.rfl⟩
        have hSW : ∀ W', Off F w1 W' → W'.cell? ⟨WB, 0, none⟩ = some (.func (.func 102) #[] #[.pointer (some ⟨PB, 0, none⟩), .pointer (some ⟨NB, 0, none⟩), .pointer (some ⟨WB, 0, none⟩)]) := off_cell (Since.whole hs1 hw) (fun z => by
          rcases (hF _).1 z with z | z
          · exact (hav g (by unfold PT.rest; split <;> exact List.mem_cons_self)).2.2 z.symm
          · exact (hav _ (hmem _ z)).2.2 rfl) 0 _ rfl
        refine wp_region_held_drew (S := fun W' => Off F w1 W') (by kernel_rfl) ((Since.refl w1).drew.off _) (fun hHeld => ?_)
        rw [← hwq] at hHeld ⊢
        have hgq := Since.whole hqs hg'
        have m0 := hgq.cell 2
        clear hwq
        have hih := ih (d + 1) r wq (by omega) (by omega) hclc (hco.since hqs) hnc (hn.since hsq) (fun x hx z => hnd x hx (hmem x z)) (Since.whole hsq hp) (Since.whole hsq hb) (Since.whole hsq hw) (fun x z => hav x (hmem x z))
        rw [hVC] at hih
        have hgR : g ∉ PT.rest pd pb m (d + 1) r := fun z => hgc (PT.rest_sub _ _ _ _ _ _ z)
        refine wpAnyH_take (i := 0) (v := ?_) rfl (by kernel_rfl) (by kernel_rfl) (by kernel_rfl) (fun _ _ _ h => h) (Or.inl ⟨by rfl, ?_⟩) (by assumption) ?_
        rotate_left 1
        · (intro W hW; clear hW; go_simp; try with_reducible rfl)
        simp only [Act.put, List.getElem_toArray, List.getElem_cons_zero, List.setIfInBounds_toArray, List.set_cons_zero, List.set_cons_succ]
        refine wpAnyH_take (i := 1) (v := ?_) rfl (by kernel_rfl) (by kernel_rfl) (by kernel_rfl) (fun _ _ _ h => h) (Or.inl ⟨by rfl, ?_⟩) (by assumption) ?_
        rotate_left 1
        · (intro W hW; clear hW; go_simp; try with_reducible rfl)
        simp only [Act.put, List.getElem_toArray, List.getElem_cons_succ, List.getElem_cons_zero, List.setIfInBounds_toArray, List.set_cons_zero, List.set_cons_succ]
        refine wpAnyH_take (i := 2) (v := ?_) rfl (by kernel_rfl) (by kernel_rfl) (by kernel_rfl) (fun _ _ _ h => h) (Or.inl ⟨by rfl, ?_⟩) (by assumption) ?_
        rotate_left 1
        · (intro W hW; skip; go_simp; try with_reducible rfl)
        simp only [Act.put, List.getElem_toArray, List.getElem_cons_succ, List.getElem_cons_zero, List.setIfInBounds_toArray, List.set_cons_zero, List.set_cons_succ]
        refine wpAnyH_take (i := 3) (v := ?_) rfl (by kernel_rfl) (by kernel_rfl) (by kernel_rfl) (fun _ _ _ h => h) (Or.inl ⟨by rfl, ?_⟩) (by assumption) ?_
        rotate_left 1
        · (intro W hW; clear hW; go_simp; try with_reducible rfl)
        simp only [Act.put, List.getElem_toArray, List.getElem_cons_succ, List.getElem_cons_zero, List.setIfInBounds_toArray, List.set_cons_zero, List.set_cons_succ]
        refine wpAnyH_take (i := 4) (v := ?_) rfl (by kernel_rfl) (by kernel_rfl) (by kernel_rfl) (fun _ _ _ h => h) (Or.inl ⟨by rfl, ?_⟩) (by assumption) ?_
        rotate_left 1
        · (intro W hW; clear hW; go_simp; try with_reducible rfl)
        simp only [Act.put, List.getElem_toArray, List.getElem_cons_succ, List.getElem_cons_zero, List.setIfInBounds_toArray, List.set_cons_zero, List.set_cons_succ]
        refine wpAnyH_take (i := 5) (v := ?_) rfl (by kernel_rfl) (by kernel_rfl) (by kernel_rfl) (fun _ _ _ h => h) (Or.inl ⟨by rfl, ?_⟩) (by assumption) ?_
        rotate_left 1
        · (intro W hW; clear hW; go_simp; try with_reducible rfl)
        simp only [Act.put, List.getElem_toArray, List.getElem_cons_succ, List.getElem_cons_zero, List.setIfInBounds_toArray, List.set_cons_zero, List.set_cons_succ]
        refine wpAnyH_take (i := 6) (v := ?_) rfl (by kernel_rfl) (by kernel_rfl) (by kernel_rfl) (fun _ _ _ h => h) (Or.inl ⟨by rfl, ?_⟩) (by assumption) ?_
        rotate_left 1
        · (intro W hW; clear hW; go_simp; try with_reducible rfl)
        simp only [Act.put, List.getElem_toArray, List.getElem_cons_succ, List.getElem_cons_zero, List.setIfInBounds_toArray, List.set_cons_zero, List.set_cons_succ]
        refine wpAnyH_take (i := 7) (v := ?_) rfl (by kernel_rfl) (by kernel_rfl) (by kernel_rfl) (fun _ _ _ h => h) (Or.inl ⟨by rfl, ?_⟩) (by assumption) ?_
        rotate_left 1
        · (intro W hW; clear hW; go_simp; try with_reducible rfl)
        simp only [Act.put, List.getElem_toArray, List.getElem_cons_succ, List.getElem_cons_zero, List.setIfInBounds_toArray, List.set_cons_zero, List.set_cons_succ]
        refine wpAnyH_take (i := 9) (v := ?_) rfl (by kernel_rfl) (by kernel_rfl) (by kernel_rfl) (fun _ _ _ h => h) (Or.inl ⟨by rfl, ?_⟩) (by assumption) ?_
        rotate_left 1
        · (intro W hW; clear hW; go_simp; try with_reducible rfl)
        simp only [Act.put, List.getElem_toArray, List.getElem_cons_succ, List.getElem_cons_zero, List.setIfInBounds_toArray, List.set_cons_zero, List.set_cons_succ]
        refine wpAnyH_take (i := 10) (v := ?_) rfl (by kernel_rfl) (by kernel_rfl) (by kernel_rfl) (fun _ _ _ h => h) (Or.inl ⟨by rfl, ?_⟩) (by assumption) ?_
        rotate_left 1
        · (intro W hW; clear hW; go_simp; try with_reducible rfl)
        simp only [Act.put, List.getElem_toArray, List.getElem_cons_succ, List.getElem_cons_zero, List.setIfInBounds_toArray, List.set_cons_zero, List.set_cons_succ]
        refine wpAnyH_take (i := 12) (v := ?_) rfl (by kernel_rfl) (by kernel_rfl) (by kernel_rfl) (fun _ _ _ h => h) (Or.inl ⟨by rfl, ?_⟩) (by assumption) ?_
        rotate_left 1
        · (intro W hW; clear hW; go_simp; try with_reducible rfl)
        simp only [Act.put, List.getElem_toArray, List.getElem_cons_succ, List.getElem_cons_zero, List.setIfInBounds_toArray, List.set_cons_zero, List.set_cons_succ]
        refine wpAnyH_take (i := 13) (v := ?_) rfl (by kernel_rfl) (by kernel_rfl) (by kernel_rfl) (fun _ _ _ h => h) (Or.inl ⟨by rfl, ?_⟩) (by assumption) ?_
        rotate_left 1
        · (intro W hW; clear hW; go_simp; try with_reducible rfl)
        simp only [Act.put, List.getElem_toArray, List.getElem_cons_succ, List.getElem_cons_zero, List.setIfInBounds_toArray, List.set_cons_zero, List.set_cons_succ]
        refine wpAnyH_ready (rs := [8]) (by kernel_rfl) (by simp) ?_
        refine AllReadyH.cons rfl (fun K hK => ?_) AllReadyH.nil
        go_simp
        skip
        refine hK.out _ _ (hHeld) (fun hHeld => ?_)
        clear hK K
        try simp only [Act.put, List.getElem_toArray, List.getElem_cons_succ, List.getElem_cons_zero, List.setIfInBounds_toArray, List.set_cons_zero, List.set_cons_succ]
        refine wpAnyH_ready (rs := [11]) (by kernel_rfl) (by simp) ?_
        refine AllReadyH.cons rfl (fun K hK => ?_) AllReadyH.nil
        go_simp
        refine hih.mono ?_
        clear hih
        rintro e w3 ⟨q', rfl, f1, f2, f3, f4, f5⟩
        obtain ⟨o', ho1, ho2⟩ := PT.v_ptr q'
        rw [ho1]
        have hg3 := f5.whole hgq hgR
        have k0 := hg3.cell 2
        have k1 := hg3.frozen 2
        have ho3 : Off F w1 w3 := Off.trans (hqs.off _) f5 (fun _ _ z => (hF _).2 (.inr z))
        go_wp2_with fail
        refine hK.out _ _ (ho3) (fun hHeld => ?_)
        clear hK K
        try simp only [Act.put, List.getElem_toArray, List.getElem_cons_succ, List.getElem_cons_zero, List.setIfInBounds_toArray, List.set_cons_zero, List.set_cons_succ]
        refine wpAnyH_take (i := 14) (v := ?_) rfl (by kernel_rfl) (by kernel_rfl) (by kernel_rfl) (fun _ _ _ h => h) (Or.inl ⟨by rfl, ?_⟩) (by assumption) ?_
        rotate_left 1
        · (intro W hW; clear hW; go_simp; try with_reducible rfl)
        simp only [Act.put, List.getElem_toArray, List.getElem_cons_succ, List.getElem_cons_zero, List.setIfInBounds_toArray, List.set_cons_zero, List.set_cons_succ]
        refine wpAnyH_ready (rs := [15]) (by kernel_rfl) (by simp) ?_
        refine AllReadyH.cons rfl (fun K hK => ?_) AllReadyH.nil
        go_simp
        skip
        refine hK.out _ _ (ho3.setCell (p := ⟨g, 2, none⟩) (.inr ((hF _).2 (.inl rfl))) _) (fun hHeld => ?_)
        clear hK K
        try simp only [Act.put, List.getElem_toArray, List.getElem_cons_succ, List.getElem_cons_zero, List.setIfInBounds_toArray, List.set_cons_zero, List.set_cons_succ]
        refine wpAnyH_done (by kernel_rfl) ?_ _
        have hg4 := hg3.set_ 2 (.pointer o')
        have hsz : W.heap.size ≤ wq.heap.size := hsq.size_
        have v0 := hg4.cell 1
        have v1 := hg4.cell 2
        clear m0 k0 k1
        have hQ : ∀ x ∈ q'.bl, x ≠ g := by
          intro x hx z
          rcases f3 x hx with h | h | h
          · exact hgR (z ▸ h)
          · exact hnd x h (by rw [z]; unfold PT.rest; split <;> exact List.mem_cons_self)
          · have := hgq.lt; omega
        have hq4 : q'.At (w3.setCell ⟨g, 2, none⟩ (.pointer o')) := f1.keep (fun x hx => Below.heap_setCell _ _ _ _ (hQ x hx))
        have ho4 : l.At (w3.setCell ⟨g, 2, none⟩ (.pointer o')) := ((hoo.since hqs).off f5 (fun x hx z => hdis x (PT.rest_sub _ _ _ _ _ _ z) hx)).keep (fun x hx => Below.heap_setCell _ _ _ _ (fun z => hgo (by have z' : x = g := z; rw [← z']; exact hx)))
        have hoff : Off (fun x => x ∈ PT.rest pd pb (m + 1) d (PT.node g z l r)) W (w3.setCell ⟨g, 2, none⟩ (.pointer o')) := by
          exact (Off.trans (hsq.off _) f5 (fun x _ z => hmem x z)).setCell (p := ⟨g, 2, none⟩) (.inr (by show g ∈ PT.rest _ _ _ _ _; unfold PT.rest; split <;> exact List.mem_cons_self)) _
        by_cases cc : oo = (none : Option Addr) ∧ o' = (none : Option Addr)
        · have htr : Tr.gap = Tr.put pd pb n.tr (m + 1) d (Tr.node l.tr r.tr) := by
            have e1 : q'.tr = Tr.gap := (PT.gap_iff _).2 (ho2.1 cc.2)
            rw [e1] at f4
            unfold Tr.put
            rw [if_neg (by omega)]
            simp only [Tr.kids]
            rw [show Tr.put pd pb n.tr m (d + 1) r.tr = Tr.gap from f4.symm, (PT.gap_iff _).2 (hoo2.1 cc.1)]
            rfl
          have hg5 := hg4
          skip
          obtain ⟨rfl, rfl⟩ := cc
          have he := eq_halves none none
          go_wp2_with fail
          go_ret
          exact ⟨.gap, rfl, trivial, List.nodup_nil, (fun x hx => by cases hx), htr, hoff⟩
        · have he := eq_halves_no cc
          go_wp2_with fail
          go_ret
          refine ⟨.node g z l q', rfl, ⟨?_, ho4, hq4⟩, ?_, ?_, ?_, hoff⟩
          · rw [ho1, hoo1]; exact hg4
          · refine nodup_node hno f2 hgo (fun z => hQ g z rfl) (fun x hx hy => ?_)
            rcases f3 x hy with h | h | h
            · exact hdis x (PT.rest_sub _ _ _ _ _ _ h) hx
            · exact hnd x h (by unfold PT.rest; rw [if_neg (by omega)]; exact List.mem_cons_of_mem _ (List.mem_append.2 (.inl hx)))
            · have := (hoo.since hqs).lt x hx; omega
          · intro x hx
            unfold PT.rest
            rw [if_neg (by omega)]
            rcases List.mem_cons.1 hx with h | h
            · exact .inl (h ▸ List.mem_cons_self)
            · rcases List.mem_append.1 h with h | h
              · exact .inl (List.mem_cons_of_mem _ (List.mem_append.2 (.inl h)))
              · rcases f3 x h with z | z | z
                · exact .inl (List.mem_cons_of_mem _ (List.mem_append.2 (.inr z)))
                · exact .inr (.inl z)
                · exact .inr (.inr (by omega))
          · show Tr.node _ _ = Tr.put pd pb n.tr (m + 1) d (Tr.node l.tr r.tr)
            unfold Tr.put
            rw [if_neg (by omega)]
            simp only [Tr.kids]
            rw [show Tr.put pd pb n.tr m (d + 1) r.tr = q'.tr from f4.symm]
            refine (Tr.mk_node ?_).symm
            exact fun z => cc ⟨hoo2.2 ((PT.gap_iff _).1 z.1), ho2.2 ((PT.gap_iff _).1 z.2)⟩
end Go.Proofs.Ytbbnojfecmocgaa
