/- tiling: below: the nodes at a path and below it, one by one. -/
import Derived.Test.YtbbnojfecmocgaaK26
import Derived.Test.YtbbnojfecmocgaaK38
namespace Go.Proofs.Ytbbnojfecmocgaa
open Go.RowKit Go.Shelf
attribute [local go_sem] Oper.semAt_some
set_option linter.unusedVariables false
/-- The nodes of a tree, each behind its path, in order. -/
def PT.walk : PT → Int → Int → List ((Int × Int) × PT)
  | .gap, d, b => [((d, b), .gap)]
  | .leaf g w, d, b => [((d, b), .leaf g w)]
  | .node g z l r, d, b => ((d, b), .node g z l r) :: (l.walk (d + 1) (2 * b) ++ r.walk (d + 1) (2 * b + 1))
/-- What yield is handed. -/
abbrev encW (x : (Int × Int) × PT) : Array Value := #[.agg #[.int .i64 x.1.1, .int .i64 x.1.2], x.2.v]
/-- Behind visit: all has come, or somebody has said 'no more'. -/
def VisP (J Jx : List ((Int × Int) × PT) → (Nat → Prop) → World → Prop) (xs tot : List ((Int × Int) × PT)) (F : Nat → Prop) (W : World) (e : Ending) (W' : World) : Prop :=
  (e = .returned (.bool true) ∧ EndP J tot F W W') ∨ (e = .returned (.bool false) ∧ ∃ pre, pre <+: xs ∧ EndP Jx pre F W W')
theorem VisP.bb {J Jx : List ((Int × Int) × PT) → (Nat → Prop) → World → Prop} {xs tot : List ((Int × Int) × PT)} {F : Nat → Prop} {W W' : World} {e : Ending} (h : VisP J Jx xs tot F W e W') :
    ∃ bb, e = .returned (.bool bb) ∧ Off F W W' ∧ ((bb = true ∧ EndP J tot F W W') ∨ (bb = false ∧ ∃ pre, pre <+: xs ∧ EndP Jx pre F W W')) := by
  rcases h with ⟨h1, h2⟩ | ⟨h1, pre, h2, h3⟩
  · exact ⟨true, h1, h2.choose_spec.2.1, .inl ⟨rfl, h2⟩⟩
  · exact ⟨false, h1, h3.choose_spec.2.1, .inr ⟨rfl, pre, h2, h3⟩⟩
theorem VisP.of {J Jx : List ((Int × Int) × PT) → (Nat → Prop) → World → Prop} {xs tot : List ((Int × Int) × PT)} {F : Nat → Prop} {W W' : World} {bb : Bool} (h : (bb = true ∧ EndP J tot F W W') ∨ (bb = false ∧ ∃ pre, pre <+: xs ∧ EndP Jx pre F W W')) : VisP J Jx xs tot F W (.returned (.bool bb)) W' := by
  rcases h with ⟨rfl, h2⟩ | ⟨rfl, h2⟩
  · exact .inl ⟨rfl, h2⟩
  · exact .inr ⟨rfl, h2⟩
set_option maxRecDepth 100000 in
set_option maxHeartbeats 3200000 in
theorem visit_ok (l : Nat) (J Jx : List ((Int × Int) × PT) → (Nat → Prop) → World → Prop) (xs : List ((Int × Int) × PT)) (F0 : Nat → Prop) (w : World) {YB VB : Nat} (kJ : Kept J) (lJ : Low J)
    (hY : ∀ pre x F W1, pre ++ [x] <+: xs → J pre F W1 → Off F0 w W1 → Yld l (encW x) W1 (RndP J Jx pre x F W1)) :
    ∀ (q : PT) (d b : Int) (pre : List ((Int × Int) × PT)) (F : Nat → Prop) (W : World), (q.isNode = true → fine d b = true ∧ d + q.tr.high ≤ 32) → q.tr.norm → q.At w → (∀ x ∈ q.bl, ¬ F0 x) → Off F0 w W → (∀ b, F b → F0 b ∨ w.heap.size ≤ b) →
      Whole W YB 165 #[.func (.yield l) #[] #[]] → Whole W VB 165 #[.func (.func 106) #[] #[.pointer (some ⟨YB, 0, none⟩), .pointer (some ⟨VB, 0, none⟩)]] → ¬ F YB → ¬ F VB → pre ++ q.walk d b <+: xs → J pre F W →
      Calls Try.prog 106 #[.agg #[.int .i64 d, .int .i64 b], q.v, .pointer (some ⟨YB, 0, none⟩), .pointer (some ⟨VB, 0, none⟩)] W (VisP J Jx xs (pre ++ q.walk d b) F W) := by
  intro q
  induction q with
  | gap =>
    intro d b pre F W hfh hn hq hqG hO hFS hy hv hFy hFv hpre hJ
    have hJ0 : J pre F (W.alloc (.cells #[.int .i64 d, .int .i64 b] 35)) := kJ.since lJ hJ ((Since.refl W).alloc _)
    have hG0 : Off F0 w (W.alloc (.cells #[.int .i64 d, .int .i64 b] 35)) := hO.since ((Since.refl W).alloc _)
    obtain ⟨n, _⟩ : ∃ n : Nat, n = n := ⟨1, rfl⟩
    obtain ⟨fn, tmps, assign, body, hyy, hR⟩ := hY pre ((d, b), .gap) F _ hpre hJ0 hG0 (n - 1)
    have y0 := (hy.alloc (.cells #[.int .i64 d, .int .i64 b] 35)).cell 0
    have hP : ∀ {K : List ((Int × Int) × PT) → (Nat → Prop) → World → Prop} {t} {W'}, EndP K t F (W.alloc (.cells #[.int .i64 d, .int .i64 b] 35)) W' → EndP K t F W W' := fun h => EndP.since ((Since.refl W).alloc _) h
    dsimp only [encW, PT.v] at hyy
    simp only [PT.v]
    refine (callsIn_wide (n := n)).1 ?_
    refine callsIn_of_wp Try.func106 rfl trivial ?_ rfl
    simp only [Try.ntmps106, List.size_toArray, List.length_cons, List.length_nil, Nat.reduceAdd, Nat.reduceSub, Array.replicate_succ, Array.replicate_zero, List.push_toArray, List.append_toArray, List.nil_append, List.cons_append]
    gi_wp2
    refine ⟨wide_d _, ?_⟩
    refine hR.mono ?_
    rintro e W1 (⟨rfl, hE⟩ | ⟨rfl, hE⟩)
    · gi_wp2
      refine ⟨trivial, ?_⟩
      gi_wp2
      go_ret
      exact .inl ⟨rfl, hP hE⟩
    · gi_wp2
      go_ret
      exact .inr ⟨rfl, _, hpre, hP hE⟩
  | leaf g who =>
    intro d b pre F W hfh hn hq hqG hO hFS hy hv hFy hFv hpre hJ
    have hJ0 : J pre F (W.alloc (.cells #[.int .i64 d, .int .i64 b] 35)) := kJ.since lJ hJ ((Since.refl W).alloc _)
    have hG0 : Off F0 w (W.alloc (.cells #[.int .i64 d, .int .i64 b] 35)) := hO.since ((Since.refl W).alloc _)
    obtain ⟨n, _⟩ : ∃ n : Nat, n = n := ⟨1, rfl⟩
    obtain ⟨fn, tmps, assign, body, hyy, hR⟩ := hY pre ((d, b), .leaf g who) F _ hpre hJ0 hG0 (n - 1)
    have y0 := (hy.alloc (.cells #[.int .i64 d, .int .i64 b] 35)).cell 0
    have hP : ∀ {K : List ((Int × Int) × PT) → (Nat → Prop) → World → Prop} {t} {W'}, EndP K t F (W.alloc (.cells #[.int .i64 d, .int .i64 b] 35)) W' → EndP K t F W W' := fun h => EndP.since ((Since.refl W).alloc _) h
    have hq1 : ∀ {K : List ((Int × Int) × PT) → (Nat → Prop) → World → Prop} {t} {W'}, EndP K t F (W.alloc (.cells #[.int .i64 d, .int .i64 b] 35)) W' → (PT.leaf g who).At W' := fun ⟨_, _, ho, _⟩ => hq.keep (fun x hx => (ho.block x (Nat.lt_of_lt_of_le (hq.lt x hx) hG0.size) (fun z => (hFS x z).elim (hqG x hx) (fun y => by have := hq.lt x hx; omega))).trans (hG0.block x (hq.lt x hx) (hqG x hx)))
    have hJk : ∀ {K : List ((Int × Int) × PT) → (Nat → Prop) → World → Prop} {t} {W1 W2}, K = J → EndP K t F W W1 → Since W1 W2 → EndP K t F W W2 := fun e ⟨F', h1, h2, h3⟩ hs => ⟨F', by subst e; exact kJ.since lJ h1 hs, h2.since hs, h3⟩
    dsimp only [encW, PT.v] at hyy
    simp only [PT.v]
    refine (callsIn_wide (n := n)).1 ?_
    refine callsIn_of_wp Try.func106 rfl trivial ?_ rfl
    simp only [Try.ntmps106, List.size_toArray, List.length_cons, List.length_nil, Nat.reduceAdd, Nat.reduceSub, Array.replicate_succ, Array.replicate_zero, List.push_toArray, List.append_toArray, List.nil_append, List.cons_append]
    gi_wp2
    refine ⟨wide_d _, ?_⟩
    refine hR.mono ?_
    rintro e W1 (⟨rfl, hE⟩ | ⟨rfl, hE⟩)
    · have hl : Calls Try.prog 69 #[.pointer (some ⟨g, 0, none⟩)] W1 fun e w' => e = .returned (.bool true) ∧ Below W1.heap.size W1 w' := isTile_any (hq1 hE) hn
      clear hq1
      gi_wp2_with ((refine ⟨trivial, wide_d _, ?_⟩; gi_at_call 69; refine (callsIn_wide.2 (hl)).mono ?_; rintro e w2 ⟨rfl, hb2⟩))
      go_ret
      exact .inl ⟨rfl, hJk rfl (hP hE) hb2⟩
    · gi_wp2
      go_ret
      exact .inr ⟨rfl, _, hpre, hP hE⟩
  | node g z tl tr ihl ihr =>
    intro d b pre F W hfh hn hq hqG hO hFS hy hv hFy hFv hpre hJ
    obtain ⟨hf, hh⟩ := hfh rfl
    have hs0 : Since W (W.alloc (.cells #[.int .i64 d, .int .i64 b] 35)) := (Since.refl W).alloc _
    have hp0 : Whole (W.alloc (.cells #[.int .i64 d, .int .i64 b] 35)) W.heap.size 35 #[.int .i64 d, .int .i64 b] := Whole.new W _ _
    have hy0 := Since.whole hs0 hy
    have hv0 := Since.whole hs0 hv
    have hJ0 : J pre F (W.alloc (.cells #[.int .i64 d, .int .i64 b] 35)) := kJ.since lJ hJ hs0
    have hG0 : Off F0 w (W.alloc (.cells #[.int .i64 d, .int .i64 b] 35)) := hO.since hs0
    have hqlt := hq.lt
    have hsz0 : ((W.alloc (.cells #[.int .i64 d, .int .i64 b] 35))).heap.size = W.heap.size + 1 := by simp
    have hpre1 : pre ++ [((d, b), PT.node g z tl tr)] <+: xs := List.IsPrefix.trans ⟨tl.walk (d + 1) (2 * b) ++ tr.walk (d + 1) (2 * b + 1), by simp [PT.walk]⟩ hpre
    obtain ⟨n, _⟩ : ∃ n : Nat, n = n := ⟨1, rfl⟩
    obtain ⟨fn, tmps, assign, body, hyy, hR⟩ := hY pre ((d, b), .node g z tl tr) F _ hpre1 hJ0 hG0 (n - 1)
    have y0 := hy0.cell 0
    have hFlt := lJ _ _ _ hJ
    simp only [PT.tr, Tr.high] at hh
    have hd32 : d < 32 := by omega
    have hfl := fine_l hf hd32
    have hfr := fine_r hf hd32
    have z0 := hp0.cell 0
    have z1 := hp0.cell 1
    dsimp only [encW, PT.v] at hyy
    simp only [PT.v]
    refine (callsIn_wide (n := n)).1 ?_
    refine callsIn_of_wp Try.func106 rfl trivial ?_ rfl
    simp only [Try.ntmps106, List.size_toArray, List.length_cons, List.length_nil, Nat.reduceAdd, Nat.reduceSub, Array.replicate_succ, Array.replicate_zero, List.push_toArray, List.append_toArray, List.nil_append, List.cons_append]
    gi_wp2
    refine ⟨wide_d _, ?_⟩
    refine hR.mono ?_
    rintro e W1 (⟨rfl, hE⟩ | ⟨rfl, hE⟩)
    rotate_left
    · gi_wp2
      go_ret
      exact .inr ⟨rfl, _, hpre1, EndP.since hs0 hE⟩
    · obtain ⟨F1, hJ1, ho1, hf1⟩ := hE
      have hq1 : (PT.node g z tl tr).At W1 := hq.keep (fun x hx => (ho1.block x (Nat.lt_of_lt_of_le (hqlt x hx) hG0.size) (fun z => (hFS x z).elim (hqG x hx) (fun y => by have := hqlt x hx; omega))).trans (hG0.block x (hqlt x hx) (hqG x hx)))
      have hG1 : Off F0 w W1 := hG0.trans ho1 (fun x hx z => (hFS x z).resolve_right (by omega))
      have hy1 := ho1.whole hy0 hFy
      have hv1 := ho1.whole hv0 hFv
      have hnp : ¬ F W.heap.size := fun z => Nat.lt_irrefl _ (hFlt _ z)
      have hp1 := ho1.whole hp0 hnp
      have hFG1 : ∀ x, F1 x → F0 x ∨ w.heap.size ≤ x := fun x h1 => by
        rcases hf1 x h1 with z | z
        · exact hFS x z
        · exact .inr (Nat.le_trans hG0.size z)
      have hF1 : ∀ x, x < ((W.alloc (.cells #[.int .i64 d, .int .i64 b] 35))).heap.size → ¬ F x → ¬ F1 x := fun x h1 h2 h3 => (hf1 x h3).elim h2 (fun z => by omega)
      have hFy1 := hF1 YB hy0.lt hFy
      have hFv1 := hF1 VB hv0.lt hFv
      have hFp1 := hF1 _ hp0.lt hnp
      have hl : Calls Try.prog 69 #[.pointer (some ⟨g, 0, none⟩)] W1 fun e w' => e = .returned (.bool false) ∧ Below W1.heap.size W1 w' := isTile_any hq1 hn
      have hgG : ¬ F0 g := hqG g List.mem_cons_self
      have hglt : g < w.heap.size := hqlt g List.mem_cons_self
      have hlG : ∀ x ∈ tl.bl, ¬ F0 x := fun x hx => hqG x (List.mem_cons_of_mem _ (List.mem_append.2 (.inl hx)))
      have hrG : ∀ x ∈ tr.bl, ¬ F0 x := fun x hx => hqG x (List.mem_cons_of_mem _ (List.mem_append.2 (.inr hx)))
      have hE1 : ∀ {K : List ((Int × Int) × PT) → (Nat → Prop) → World → Prop} {t} {W'}, EndP K t F1 W1 W' → EndP K t F W W' := fun h => EndP.since hs0 (EndP.trans ho1 hf1 h)
      have hpre2 : (pre ++ [((d, b), PT.node g z tl tr)]) ++ tl.walk (d + 1) (2 * b) <+: xs := List.IsPrefix.trans ⟨tr.walk (d + 1) (2 * b + 1), by simp [PT.walk]⟩ hpre
      have hpre3 : ((pre ++ [((d, b), PT.node g z tl tr)]) ++ tl.walk (d + 1) (2 * b)) ++ tr.walk (d + 1) (2 * b + 1) <+: xs := by
        have e : ((pre ++ [((d, b), PT.node g z tl tr)]) ++ tl.walk (d + 1) (2 * b)) ++ tr.walk (d + 1) (2 * b + 1) = pre ++ (PT.node g z tl tr).walk d b := by simp [PT.walk]
        rw [e]; exact hpre
      have hcl : ∀ W2, Since W1 W2 → Calls Try.prog 106 #[.agg #[.int .i64 (d + 1), .int .i64 (2 * b)], tl.v, .pointer (some ⟨YB, 0, none⟩), .pointer (some ⟨VB, 0, none⟩)] W2 (VisP J Jx xs ((pre ++ [((d, b), PT.node g z tl tr)]) ++ tl.walk (d + 1) (2 * b)) F1 W2) := fun W2 hs =>
        ihl _ _ _ F1 W2 (fun _ => ⟨hfl, by omega⟩) hn.2.1 hq.2.1 hlG (hG1.since hs) hFG1 (Since.whole hs hy1) (Since.whole hs hv1) hFy1 hFv1 hpre2 (kJ.since lJ hJ1 hs)
      have hcr : ∀ F3 W3 W4, J ((pre ++ [((d, b), PT.node g z tl tr)]) ++ tl.walk (d + 1) (2 * b)) F3 W3 → Off F1 W1 W3 → (∀ x, F3 x → F1 x ∨ W1.heap.size ≤ x) → Since W3 W4 → Calls Try.prog 106 #[.agg #[.int .i64 (d + 1), .int .i64 (2 * b + 1)], tr.v, .pointer (some ⟨YB, 0, none⟩), .pointer (some ⟨VB, 0, none⟩)] W4 (VisP J Jx xs (((pre ++ [((d, b), PT.node g z tl tr)]) ++ tl.walk (d + 1) (2 * b)) ++ tr.walk (d + 1) (2 * b + 1)) F3 W4) := fun F3 W3 W4 hJ3 ho3 hf3 hs => by
        have hF3 : ∀ x, x < W1.heap.size → ¬ F1 x → ¬ F3 x := fun x h1 h2 h3 => (hf3 x h3).elim h2 (fun z => by omega)
        have ho4 := ho3.since hs
        exact ihr _ _ _ F3 W4 (fun _ => ⟨hfr, by omega⟩) hn.2.2 hq.2.2 hrG (hG1.trans ho4 (fun x hx z => (hFG1 x z).resolve_right (by omega))) (fun x h1 => by
          rcases hf3 x h1 with y | y
          · exact hFG1 x y
          · exact .inr (Nat.le_trans hG1.size y)) (ho4.whole hy1 hFy1) (ho4.whole hv1 hFv1) (hF3 _ hy1.lt hFy1) (hF3 _ hv1.lt hFv1) hpre3 (kJ.since lJ hJ3 hs)
      have HCL := Lib.hid hcl
      have HCR := Lib.hid hcr
      obtain ⟨ol, el, kl⟩ := tl.v_ptr
      obtain ⟨or', er, kr⟩ := tr.v_ptr
      have hgW := hq1.1
      rw [el, er] at hgW
      rw [el] at HCL
      rw [er] at HCR
      have hgF : ¬ F1 g := fun z => (hFG1 g z).elim hgG (fun y => by omega)
      have c1 := off_cell hgW hgF 1 (.pointer ol) rfl
      have c2 := off_cell hgW hgF 2 (.pointer or') rfl
      have c3 := off_cell hv1 hFv1 0 (.func (.func 106) #[] #[.pointer (some ⟨YB, 0, none⟩), .pointer (some ⟨VB, 0, none⟩)]) rfl
      have c4 := off_cell hp1 hFp1 0 (.int .i64 d) rfl
      have c5 := off_cell hp1 hFp1 1 (.int .i64 b) rfl
      have HC0 := Lib.hid (fun W => tchild_at (d := d) (b := b) (h := 0) (D := d + 1) (B := 2 * b) W hf hd32 (by decide) (by decide) rfl (by omega))
      have HC1 := Lib.hid (fun W => tchild_at (d := d) (b := b) (h := 1) (D := d + 1) (B := 2 * b + 1) W hf hd32 (by decide) (by decide) rfl (by omega))
      clear hcl hcr hlG hrG hgG hpre1 hyy hR y0 z0 z1 hsz0 hG0 hG1 hpre ihl ihr hFG1 hF1 hq1 hY
      clear hq hqG hO hFS hqlt
      gi_wp2_with ((refine ⟨trivial, wide_d _, ?_⟩; gi_at_call 69; refine (callsIn_wide.2 (hl)).mono ?_; rintro e W2 ⟨rfl, hb2⟩))
      refine wpIn_wide.2 ?_
      obtain ⟨wq, hwq⟩ : ∃ wq, wq = W2.drew := ⟨_, rfl⟩
      have hqs : Since W1 wq := by rw [hwq]; exact Since.drew hb2
      refine wp_region_held_drew (S := fun W' => Off F1 W1 W') (by kernel_rfl) ((Since.drew hb2).off _) (fun hHeld => ?_)
      rw [← hwq] at hHeld ⊢
      clear hwq hb2 hl
      refine wpAnyH_take (i := 0) (v := ?_) rfl (by kernel_rfl) (by kernel_rfl) (by kernel_rfl) (fun _ _ _ h => h) (Or.inl ⟨by rfl, ?_⟩) (by assumption) ?_
      rotate_left 1
      · (intro W hW; skip; go_simp; try with_reducible rfl)
      simp only [Act.put, List.getElem_toArray, List.getElem_cons_zero, List.setIfInBounds_toArray, List.set_cons_zero, List.set_cons_succ]
      refine wpAnyH_take (i := 1) (v := ?_) rfl (by kernel_rfl) (by kernel_rfl) (by kernel_rfl) (fun _ _ _ h => h) (Or.inl ⟨by rfl, ?_⟩) (by assumption) ?_
      rotate_left 1
      · (intro W hW; skip; go_simp; try with_reducible rfl)
      simp only [Act.put, List.getElem_toArray, List.getElem_cons_succ, List.getElem_cons_zero, List.setIfInBounds_toArray, List.set_cons_zero, List.set_cons_succ]
      refine wpAnyH_take (i := 3) (v := ?_) rfl (by kernel_rfl) (by kernel_rfl) (by kernel_rfl) (fun _ _ _ h => h) (Or.inl ⟨by rfl, ?_⟩) (by assumption) ?_
      rotate_left 1
      · (intro W hW; clear hW; go_simp; try with_reducible rfl)
      simp only [Act.put, List.getElem_toArray, List.getElem_cons_succ, List.getElem_cons_zero, List.setIfInBounds_toArray, List.set_cons_zero, List.set_cons_succ]
      refine wpAnyH_take (i := 4) (v := ?_) rfl (by kernel_rfl) (by kernel_rfl) (by kernel_rfl) (fun _ _ _ h => h) (Or.inl ⟨by rfl, ?_⟩) (by assumption) ?_
      rotate_left 1
      · (intro W hW; clear hW; go_simp; try with_reducible rfl)
      simp only [Act.put, List.getElem_toArray, List.getElem_cons_succ, List.getElem_cons_zero, List.setIfInBounds_toArray, List.set_cons_zero, List.set_cons_succ]
      refine wpAnyH_take (i := 5) (v := ?_) rfl (by kernel_rfl) (by kernel_rfl) (by kernel_rfl) (fun _ _ _ h => h) (Or.inl ⟨by rfl, ?_⟩) (by assumption) ?_
      rotate_left 1
      · (intro W hW; clear hW; go_simp; try with_reducible rfl)
      simp only [Act.put, List.getElem_toArray, List.getElem_cons_succ, List.getElem_cons_zero, List.setIfInBounds_toArray, List.set_cons_zero, List.set_cons_succ]
      refine wpAnyH_take (i := 6) (v := ?_) rfl (by kernel_rfl) (by kernel_rfl) (by kernel_rfl) (fun _ _ _ h => h) (Or.inl ⟨by rfl, ?_⟩) (by assumption) ?_
      rotate_left 1
      · (intro W hW; clear hW; go_simp; try with_reducible rfl)
      simp only [Act.put, List.getElem_toArray, List.getElem_cons_succ, List.getElem_cons_zero, List.setIfInBounds_toArray, List.set_cons_zero, List.set_cons_succ]
      refine wpAnyH_take (i := 7) (v := ?_) rfl (by kernel_rfl) (by kernel_rfl) (by kernel_rfl) (fun _ _ _ h => h) (Or.inl ⟨by rfl, ?_⟩) (by assumption) ?_
      rotate_left 1
      · (intro W hW; skip; go_simp; try with_reducible rfl)
      simp only [Act.put, List.getElem_toArray, List.getElem_cons_succ, List.getElem_cons_zero, List.setIfInBounds_toArray, List.set_cons_zero, List.set_cons_succ]
      refine wpAnyH_ready (rs := [2]) (by kernel_rfl) (by simp) ?_
      refine AllReadyH.cons rfl (fun K hK => ?_) AllReadyH.nil
      go_simp
      refine (HC0.out _).mono ?_
      rintro e w2 ⟨rfl, hb2⟩
      have hs2 := Since.trans hqs hb2
      go_wp2_with fail
      refine hK.out _ _ (hs2.off _) (fun hHeld => ?_)
      clear hK K
      try simp only [Act.put, List.getElem_toArray, List.getElem_cons_succ, List.getElem_cons_zero, List.setIfInBounds_toArray, List.set_cons_zero, List.set_cons_succ]
      refine wpAnyH_ready (rs := [8]) (by kernel_rfl) (by simp) ?_
      refine AllReadyH.cons rfl (fun K hK => ?_) AllReadyH.nil
      go_simp
      refine (HCL.out _ hs2).mono ?_
      rintro e w3 (⟨rfl, F3, hJ3, ho3, hf3⟩ | ⟨rfl, pre3, hp3, hE3⟩)
      · have ho13 : Off F1 W1 w3 := Off.trans (hs2.off _) ho3 (fun _ _ z => z)
        have hf13 : ∀ x, F3 x → F1 x ∨ W1.heap.size ≤ x := fun x hx => (hf3 x hx).imp id (fun z => Nat.le_trans hs2.size_ z)
        go_wp2_with fail
        refine hK.out _ _ (ho13) (fun hHeld => ?_)
        clear hK K
        try simp only [Act.put, List.getElem_toArray, List.getElem_cons_succ, List.getElem_cons_zero, List.setIfInBounds_toArray, List.set_cons_zero, List.set_cons_succ]
        refine wpAnyH_take (i := 9) (v := ?_) rfl (by kernel_rfl) (by kernel_rfl) (by kernel_rfl) (fun _ _ _ h => h) (Or.inl ⟨by rfl, ?_⟩) (by assumption) ?_
        rotate_left 1
        · (intro W hW; clear hW; go_simp; try with_reducible rfl)
        simp only [Act.put, List.getElem_toArray, List.getElem_cons_succ, List.getElem_cons_zero, List.setIfInBounds_toArray, List.set_cons_zero, List.set_cons_succ]
        refine wpAnyH_take (i := 10) (v := ?_) rfl (by kernel_rfl) (by kernel_rfl) (by kernel_rfl) (fun _ _ _ h => h) (Or.inl ⟨by rfl, ?_⟩) (by assumption) ?_
        rotate_left 1
        · (intro W hW; skip; go_simp; try with_reducible rfl)
        simp only [Act.put, List.getElem_toArray, List.getElem_cons_succ, List.getElem_cons_zero, List.setIfInBounds_toArray, List.set_cons_zero, List.set_cons_succ]
        refine wpAnyH_take (i := 11) (v := ?_) rfl (by kernel_rfl) (by kernel_rfl) (by kernel_rfl) (fun _ _ _ h => h) (Or.inl ⟨by rfl, ?_⟩) (by assumption) ?_
        rotate_left 1
        · (intro W hW; skip; go_simp; try with_reducible rfl)
        simp only [Act.put, List.getElem_toArray, List.getElem_cons_succ, List.getElem_cons_zero, List.setIfInBounds_toArray, List.set_cons_zero, List.set_cons_succ]
        refine wpAnyH_take (i := 13) (v := ?_) rfl (by kernel_rfl) (by kernel_rfl) (by kernel_rfl) (fun _ _ _ h => h) (Or.inl ⟨by rfl, ?_⟩) (by assumption) ?_
        rotate_left 1
        · (intro W hW; clear hW; go_simp; try with_reducible rfl)
        simp only [Act.put, List.getElem_toArray, List.getElem_cons_succ, List.getElem_cons_zero, List.setIfInBounds_toArray, List.set_cons_zero, List.set_cons_succ]
        refine wpAnyH_take (i := 14) (v := ?_) rfl (by kernel_rfl) (by kernel_rfl) (by kernel_rfl) (fun _ _ _ h => h) (Or.inl ⟨by rfl, ?_⟩) (by assumption) ?_
        rotate_left 1
        · (intro W hW; clear hW; go_simp; try with_reducible rfl)
        simp only [Act.put, List.getElem_toArray, List.getElem_cons_succ, List.getElem_cons_zero, List.setIfInBounds_toArray, List.set_cons_zero, List.set_cons_succ]
        refine wpAnyH_take (i := 15) (v := ?_) rfl (by kernel_rfl) (by kernel_rfl) (by kernel_rfl) (fun _ _ _ h => h) (Or.inl ⟨by rfl, ?_⟩) (by assumption) ?_
        rotate_left 1
        · (intro W hW; clear hW; go_simp; try with_reducible rfl)
        simp only [Act.put, List.getElem_toArray, List.getElem_cons_succ, List.getElem_cons_zero, List.setIfInBounds_toArray, List.set_cons_zero, List.set_cons_succ]
        refine wpAnyH_take (i := 16) (v := ?_) rfl (by kernel_rfl) (by kernel_rfl) (by kernel_rfl) (fun _ _ _ h => h) (Or.inl ⟨by rfl, ?_⟩) (by assumption) ?_
        rotate_left 1
        · (intro W hW; clear hW; go_simp; try with_reducible rfl)
        simp only [Act.put, List.getElem_toArray, List.getElem_cons_succ, List.getElem_cons_zero, List.setIfInBounds_toArray, List.set_cons_zero, List.set_cons_succ]
        refine wpAnyH_take (i := 17) (v := ?_) rfl (by kernel_rfl) (by kernel_rfl) (by kernel_rfl) (fun _ _ _ h => h) (Or.inl ⟨by rfl, ?_⟩) (by assumption) ?_
        rotate_left 1
        · (intro W hW; skip; go_simp; try with_reducible rfl)
        simp only [Act.put, List.getElem_toArray, List.getElem_cons_succ, List.getElem_cons_zero, List.setIfInBounds_toArray, List.set_cons_zero, List.set_cons_succ]
        refine wpAnyH_ready (rs := [12]) (by kernel_rfl) (by simp) ?_
        refine AllReadyH.cons rfl (fun K hK => ?_) AllReadyH.nil
        go_simp
        refine (HC1.out _).mono ?_
        rintro e w4 ⟨rfl, hb4⟩
        have ho14 : Off F1 W1 w4 := ho13.since hb4
        go_wp2_with fail
        refine hK.out _ _ (ho14) (fun hHeld => ?_)
        clear hK K
        try simp only [Act.put, List.getElem_toArray, List.getElem_cons_succ, List.getElem_cons_zero, List.setIfInBounds_toArray, List.set_cons_zero, List.set_cons_succ]
        refine wpAnyH_ready (rs := [18]) (by kernel_rfl) (by simp) ?_
        refine AllReadyH.cons rfl (fun K hK => ?_) AllReadyH.nil
        go_simp
        refine (HCR.out F3 w3 w4 hJ3 ho13 hf13 hb4).mono ?_
        rintro e w5 hpost
        obtain ⟨bb, rfl, ho5, hend⟩ := hpost.bb
        clear hpost
        have ho15 : Off F1 W1 w5 := ho14.trans ho5 (fun x hx z => (hf13 x z).resolve_right (by omega))
        go_wp2_with fail
        refine hK.out _ _ (ho15) (fun hHeld => ?_)
        clear hK K
        try simp only [Act.put, List.getElem_toArray, List.getElem_cons_succ, List.getElem_cons_zero, List.setIfInBounds_toArray, List.set_cons_zero, List.set_cons_succ]
        refine wpAnyH_take (i := 19) (v := ?_) rfl (by kernel_rfl) (by kernel_rfl) (by kernel_rfl) (fun _ _ _ h => h) (Or.inl ⟨by rfl, ?_⟩) (by assumption) ?_
        rotate_left 1
        · (intro W hW; clear hW; go_simp; try with_reducible rfl)
        simp only [Act.put, List.getElem_toArray, List.getElem_cons_succ, List.getElem_cons_zero, List.setIfInBounds_toArray, List.set_cons_zero, List.set_cons_succ]
        refine wpAnyH_take (i := 20) (v := ?_) rfl (by kernel_rfl) (by kernel_rfl) (by kernel_rfl) (fun _ _ _ h => h) (Or.inl ⟨by rfl, ?_⟩) (by assumption) ?_
        rotate_left 1
        · (intro W hW; clear hW; go_simp; try with_reducible rfl)
        simp only [Act.put, List.getElem_toArray, List.getElem_cons_succ, List.getElem_cons_zero, List.setIfInBounds_toArray, List.set_cons_zero, List.set_cons_succ]
        refine wpAnyH_done (by kernel_rfl) ?_ _
        gi_wp2
        go_ret
        have e : ((pre ++ [((d, b), PT.node g z tl tr)]) ++ tl.walk (d + 1) (2 * b)) ++ tr.walk (d + 1) (2 * b + 1) = pre ++ (PT.node g z tl tr).walk d b := by simp [PT.walk]
        rw [e] at hend
        exact VisP.of (hend.imp (fun ⟨h1, h2⟩ => ⟨h1, hE1 (EndP.trans ho14 hf13 h2)⟩) (fun ⟨h1, pr, h2, h3⟩ => ⟨h1, pr, h2, hE1 (EndP.trans ho14 hf13 h3)⟩))
      · have ho13 : Off F1 W1 w3 := Off.trans (hs2.off _) hE3.choose_spec.2.1 (fun _ _ z => z)
        go_wp2_with fail
        refine hK.out _ _ (ho13) (fun hHeld => ?_)
        clear hK K
        try simp only [Act.put, List.getElem_toArray, List.getElem_cons_succ, List.getElem_cons_zero, List.setIfInBounds_toArray, List.set_cons_zero, List.set_cons_succ]
        refine wpAnyH_take (i := 9) (v := ?_) rfl (by kernel_rfl) (by kernel_rfl) (by kernel_rfl) (fun _ _ _ h => h) (Or.inl ⟨by rfl, ?_⟩) (by assumption) ?_
        rotate_left 1
        · (intro W hW; clear hW; go_simp; try with_reducible rfl)
        simp only [Act.put, List.getElem_toArray, List.getElem_cons_succ, List.getElem_cons_zero, List.setIfInBounds_toArray, List.set_cons_zero, List.set_cons_succ]
        refine wpAnyH_take (i := 10) (v := undef) rfl (by kernel_rfl) (by kernel_rfl) (by kernel_rfl) (fun _ _ _ h => h) (Or.inr ⟨by rfl, rfl⟩) (by assumption) ?_
        simp only [Act.put, List.getElem_toArray, List.getElem_cons_succ, List.getElem_cons_zero, List.setIfInBounds_toArray, List.set_cons_zero, List.set_cons_succ]
        refine wpAnyH_take (i := 11) (v := undef) rfl (by kernel_rfl) (by kernel_rfl) (by kernel_rfl) (fun _ _ _ h => h) (Or.inr ⟨by rfl, rfl⟩) (by assumption) ?_
        simp only [Act.put, List.getElem_toArray, List.getElem_cons_succ, List.getElem_cons_zero, List.setIfInBounds_toArray, List.set_cons_zero, List.set_cons_succ]
        refine wpAnyH_take (i := 12) (v := undef) rfl (by kernel_rfl) (by kernel_rfl) (by kernel_rfl) (fun _ _ _ h => h) (Or.inr ⟨by rfl, rfl⟩) (by assumption) ?_
        simp only [Act.put, List.getElem_toArray, List.getElem_cons_succ, List.getElem_cons_zero, List.setIfInBounds_toArray, List.set_cons_zero, List.set_cons_succ]
        refine wpAnyH_take (i := 13) (v := undef) rfl (by kernel_rfl) (by kernel_rfl) (by kernel_rfl) (fun _ _ _ h => h) (Or.inr ⟨by rfl, rfl⟩) (by assumption) ?_
        simp only [Act.put, List.getElem_toArray, List.getElem_cons_succ, List.getElem_cons_zero, List.setIfInBounds_toArray, List.set_cons_zero, List.set_cons_succ]
        refine wpAnyH_take (i := 14) (v := undef) rfl (by kernel_rfl) (by kernel_rfl) (by kernel_rfl) (fun _ _ _ h => h) (Or.inr ⟨by rfl, rfl⟩) (by assumption) ?_
        simp only [Act.put, List.getElem_toArray, List.getElem_cons_succ, List.getElem_cons_zero, List.setIfInBounds_toArray, List.set_cons_zero, List.set_cons_succ]
        refine wpAnyH_take (i := 15) (v := undef) rfl (by kernel_rfl) (by kernel_rfl) (by kernel_rfl) (fun _ _ _ h => h) (Or.inr ⟨by rfl, rfl⟩) (by assumption) ?_
        simp only [Act.put, List.getElem_toArray, List.getElem_cons_succ, List.getElem_cons_zero, List.setIfInBounds_toArray, List.set_cons_zero, List.set_cons_succ]
        refine wpAnyH_take (i := 16) (v := undef) rfl (by kernel_rfl) (by kernel_rfl) (by kernel_rfl) (fun _ _ _ h => h) (Or.inr ⟨by rfl, rfl⟩) (by assumption) ?_
        simp only [Act.put, List.getElem_toArray, List.getElem_cons_succ, List.getElem_cons_zero, List.setIfInBounds_toArray, List.set_cons_zero, List.set_cons_succ]
        refine wpAnyH_take (i := 17) (v := undef) rfl (by kernel_rfl) (by kernel_rfl) (by kernel_rfl) (fun _ _ _ h => h) (Or.inr ⟨by rfl, rfl⟩) (by assumption) ?_
        simp only [Act.put, List.getElem_toArray, List.getElem_cons_succ, List.getElem_cons_zero, List.setIfInBounds_toArray, List.set_cons_zero, List.set_cons_succ]
        refine wpAnyH_take (i := 18) (v := undef) rfl (by kernel_rfl) (by kernel_rfl) (by kernel_rfl) (fun _ _ _ h => h) (Or.inr ⟨by rfl, rfl⟩) (by assumption) ?_
        simp only [Act.put, List.getElem_toArray, List.getElem_cons_succ, List.getElem_cons_zero, List.setIfInBounds_toArray, List.set_cons_zero, List.set_cons_succ]
        refine wpAnyH_take (i := 19) (v := ?_) rfl (by kernel_rfl) (by kernel_rfl) (by kernel_rfl) (fun _ _ _ h => h) (Or.inl ⟨by rfl, ?_⟩) (by assumption) ?_
        rotate_left 1
        · (intro W hW; clear hW; go_simp; try with_reducible rfl)
        simp only [Act.put, List.getElem_toArray, List.getElem_cons_succ, List.getElem_cons_zero, List.setIfInBounds_toArray, List.set_cons_zero, List.set_cons_succ]
        refine wpAnyH_take (i := 20) (v := ?_) rfl (by kernel_rfl) (by kernel_rfl) (by kernel_rfl) (fun _ _ _ h => h) (Or.inl ⟨by rfl, ?_⟩) (by assumption) ?_
        rotate_left 1
        · (intro W hW; clear hW; go_simp; try with_reducible rfl)
        simp only [Act.put, List.getElem_toArray, List.getElem_cons_succ, List.getElem_cons_zero, List.setIfInBounds_toArray, List.set_cons_zero, List.set_cons_succ]
        refine wpAnyH_done (by kernel_rfl) ?_ _
        gi_wp2
        go_ret
        exact .inr ⟨rfl, pre3, hp3, hE1 (EndP.trans (hs2.off _) (fun x hx => .inl hx) hE3)⟩
end Go.Proofs.Ytbbnojfecmocgaa
