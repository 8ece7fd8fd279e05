/- tiling: put. -/
import Derived.Test.YtbbnojfecmocgaaK27
namespace Go.Proofs.Ytbbnojfecmocgaa
open Go.RowKit
set_option linter.unusedVariables false
/-- Behind put. -/
def PutO (g : Nat) (p : PT) (k sz pd pb : Int) (n : PT) (W : World) (e : Ending) (W' : World) : Prop :=
  e = .returned (.tuple #[]) ∧ ∃ q' : PT, Whole W' g 91 #[.int .i64 k, q'.v, .int .i64 sz] ∧ q'.At W' ∧ (g :: q'.bl).Nodup ∧ (∀ x ∈ q'.bl, x ∈ p.bl ∨ x ∈ n.bl ∨ W.heap.size ≤ x) ∧ q'.tr = Tr.put pd pb n.tr pd.toNat 0 p.tr ∧ Off (fun x => x = g ∨ x ∈ p.bl) W W'
set_option maxRecDepth 100000 in
set_option maxHeartbeats 1600000 in
theorem put_any {g : Nat} {p n : PT} {k sz pd pb : Int} {w : World} (hg : Whole w g 91 #[.int .i64 k, p.v, .int .i64 sz]) (hp : p.At w) (hnd : (g :: p.bl).Nodup) (hf : fine pd pb = true) (hcl : PT.clear pd pb pd.toNat 0 p)
    (hn : n.At w) (hnn : n.bl.Nodup) (hnr : ∀ x ∈ n.bl, x ∉ PT.rest pd pb pd.toNat 0 p) (hng : g ∉ n.bl) :
    Calls Try.prog 63 #[.pointer (some ⟨g, 0, none⟩), .agg #[.int .i64 pd, .int .i64 pb], n.v] w (PutO g p k sz pd pb n w) := by
  have hmf : ∀ (fn : Fn) (first cap : Array Value) (w : World), (Instr.makeFunc fn first cap).run Try.prog w = .ok (.func fn first cap) w := fun _ _ _ _ => rfl
  have hst : ∀ (a : Addr) (fn : Fn) (fi ca : Array Value) (m : Mode) (w : World), (store a (.func fn fi ca) m).run Try.prog w = stored Try.prog w a (.func fn fi ca) m := fun a fn fi ca m w => run_store Try.prog w a _ m rfl
  obtain ⟨no, hno, hno'⟩ := n.v_ptr
  obtain ⟨po, hpo, hpo'⟩ := p.v_ptr
  have hgl := hg.lt
  have hfn : (0 : Int) + (pd.toNat : Nat) = pd := by have := ((fine_iff _ _).1 hf).1; omega
  obtain ⟨w0, hw0⟩ : ∃ w0, w0 = (((w.alloc (.cells #[.int .i64 pd, .int .i64 pb] 35)).alloc (.cells #[n.v] 89)).alloc (.cells #[.func (.func 102) #[] #[.pointer (some ⟨w.heap.size, 0, none⟩), .pointer (some ⟨w.heap.size + 1, 0, none⟩), .pointer (some ⟨w.heap.size + 1 + 1, 0, none⟩)]] 162)) := ⟨_, rfl⟩
  have hs0 : Since w w0 := by rw [hw0]; exact (((Since.refl w).alloc _).alloc _).alloc _
  have whp : Whole w0 (w.heap.size) 35 #[.int .i64 pd, .int .i64 pb] := by rw [hw0]; exact ((Whole.new w _ _).alloc _).alloc _
  have whn : Whole w0 (w.heap.size + 1) 89 #[n.v] := by rw [hw0]; exact ((Whole.new (w.alloc _) _ _).at_ (by simp)).alloc _
  have whf : Whole w0 (w.heap.size + 1 + 1) 162 #[.func (.func 102) #[] #[.pointer (some ⟨w.heap.size, 0, none⟩), .pointer (some ⟨w.heap.size + 1, 0, none⟩), .pointer (some ⟨w.heap.size + 1 + 1, 0, none⟩)]] := by rw [hw0]; exact (Whole.new ((w.alloc _).alloc _) _ _).at_ (by simp)
  have HW := Lib.hid hw0
  have hg0 := Since.whole hs0 hg
  have hp0 := hp.since hs0
  have hn0 := hn.since hs0
  clear hw0
  have hnd' := List.nodup_cons.1 hnd
  have hrs : ∀ x ∈ PT.rest pd pb pd.toNat 0 p, x ∈ p.bl := PT.rest_sub _ _ _ _ _
  obtain ⟨F, hF⟩ : ∃ F : Nat → Prop, ∀ x, F x ↔ (x = g ∨ x ∈ PT.rest pd pb pd.toNat 0 p) := ⟨_, fun _ => Iff.rfl⟩
  have hFlt : ∀ x, F x → x < w.heap.size := fun x z => by
    rcases (hF x).1 z with rfl | z
    · exact hgl
    · exact hp.lt x (hrs x z)
  have hFf : ¬ F (w.heap.size + 1 + 1) := fun z => by have := hFlt _ z; omega
  have hSW := off_cell whf hFf 0 (.func (.func 102) #[] #[.pointer (some ⟨w.heap.size, 0, none⟩), .pointer (some ⟨w.heap.size + 1, 0, none⟩), .pointer (some ⟨w.heap.size + 1 + 1, 0, none⟩)]) rfl
  have ih := fun W (hs : Since w0 W) => put1_ok pd pb hf n hnn pd.toNat 0 p W hfn (Int.le_refl _) hcl (hp0.since hs) hnd'.2 (hn0.since hs) hnr (Since.whole hs whp) (Since.whole hs whn) (Since.whole hs whf) (fun x z => by have := hp.lt x (hrs x z); omega)
  rw [hno]
  have hpv : p.v = .pointer po := hpo
  go_enter Try.func63, Try.ntmps63
  go_wp2_with fail
  clear hmf hst
  rw [hpo] at hg0
  rw [← hno, ← HW.out]
  obtain ⟨wq, hwq⟩ : ∃ wq, wq = w0.drew := ⟨_, rfl⟩
  have hqs : Since w0 wq := by rw [hwq]; exact (Since.refl w0).drew
  refine wp_region_held_drew (S := fun W' => Off F w0 W') (by kernel_rfl) ((Since.refl w0).drew.off _) (fun hHeld => ?_)
  rw [← hwq] at hHeld ⊢
  have hgq := Since.whole hqs hg0
  have m0 := hgq.cell 1
  have hih := ih wq hqs
  rw [hpo] at hih
  clear hwq ih
  refine wpAnyH_take (i := 0) (v := ?_) rfl (by kernel_rfl) (by kernel_rfl) (by kernel_rfl) (fun _ _ _ h => h) (Or.inl ⟨by rfl, ?_⟩) (by assumption) ?_
  rotate_left 1
  · (intro W hW; clear hW; go_simp; try with_reducible rfl)
  simp only [Act.put, List.getElem_toArray, List.getElem_cons_zero, List.setIfInBounds_toArray, List.set_cons_zero, List.set_cons_succ]
  refine wpAnyH_take (i := 1) (v := ?_) rfl (by kernel_rfl) (by kernel_rfl) (by kernel_rfl) (fun _ _ _ h => h) (Or.inl ⟨by rfl, ?_⟩) (by assumption) ?_
  rotate_left 1
  · (intro W hW; skip; go_simp; try with_reducible rfl)
  simp only [Act.put, List.getElem_toArray, List.getElem_cons_succ, List.getElem_cons_zero, List.setIfInBounds_toArray, List.set_cons_zero, List.set_cons_succ]
  refine wpAnyH_take (i := 2) (v := ?_) rfl (by kernel_rfl) (by kernel_rfl) (by kernel_rfl) (fun _ _ _ h => h) (Or.inl ⟨by rfl, ?_⟩) (by assumption) ?_
  rotate_left 1
  · (intro W hW; clear hW; go_simp; try with_reducible rfl)
  simp only [Act.put, List.getElem_toArray, List.getElem_cons_succ, List.getElem_cons_zero, List.setIfInBounds_toArray, List.set_cons_zero, List.set_cons_succ]
  refine wpAnyH_take (i := 3) (v := ?_) rfl (by kernel_rfl) (by kernel_rfl) (by kernel_rfl) (fun _ _ _ h => h) (Or.inl ⟨by rfl, ?_⟩) (by assumption) ?_
  rotate_left 1
  · (intro W hW; clear hW; go_simp; try with_reducible rfl)
  simp only [Act.put, List.getElem_toArray, List.getElem_cons_succ, List.getElem_cons_zero, List.setIfInBounds_toArray, List.set_cons_zero, List.set_cons_succ]
  refine wpAnyH_take (i := 4) (v := ?_) rfl (by kernel_rfl) (by kernel_rfl) (by kernel_rfl) (fun _ _ _ h => h) (Or.inl ⟨by rfl, ?_⟩) (by assumption) ?_
  rotate_left 1
  · (intro W hW; clear hW; go_simp; try with_reducible rfl)
  simp only [Act.put, List.getElem_toArray, List.getElem_cons_succ, List.getElem_cons_zero, List.setIfInBounds_toArray, List.set_cons_zero, List.set_cons_succ]
  refine wpAnyH_ready (rs := [5]) (by kernel_rfl) (by simp) ?_
  refine AllReadyH.cons rfl (fun K hK => ?_) AllReadyH.nil
  go_simp
  skip
  refine hK.out _ _ (hHeld) (fun hHeld => ?_)
  clear hK K
  try simp only [Act.put, List.getElem_toArray, List.getElem_cons_succ, List.getElem_cons_zero, List.setIfInBounds_toArray, List.set_cons_zero, List.set_cons_succ]
  refine wpAnyH_ready (rs := [6]) (by kernel_rfl) (by simp) ?_
  refine AllReadyH.cons rfl (fun K hK => ?_) AllReadyH.nil
  go_simp
  refine hih.mono ?_
  clear hih
  rintro e w3 ⟨q', rfl, f1, f2, f3, f4, f5⟩
  obtain ⟨o', ho1, ho2⟩ := PT.v_ptr q'
  rw [ho1]
  have hg3 := f5.whole hgq (fun z => hnd'.1 (hrs _ z))
  have k0 := hg3.cell 1
  have k1 := hg3.frozen 1
  have ho3 : Off F w0 w3 := Off.trans (hqs.off _) f5 (fun _ _ z => (hF _).2 (.inr z))
  go_wp2_with fail
  refine hK.out _ _ (ho3) (fun hHeld => ?_)
  clear hK K
  try simp only [Act.put, List.getElem_toArray, List.getElem_cons_succ, List.getElem_cons_zero, List.setIfInBounds_toArray, List.set_cons_zero, List.set_cons_succ]
  refine wpAnyH_take (i := 7) (v := ?_) rfl (by kernel_rfl) (by kernel_rfl) (by kernel_rfl) (fun _ _ _ h => h) (Or.inl ⟨by rfl, ?_⟩) (by assumption) ?_
  rotate_left 1
  · (intro W hW; clear hW; go_simp; try with_reducible rfl)
  simp only [Act.put, List.getElem_toArray, List.getElem_cons_succ, List.getElem_cons_zero, List.setIfInBounds_toArray, List.set_cons_zero, List.set_cons_succ]
  refine wpAnyH_take (i := 8) (v := ?_) rfl (by kernel_rfl) (by kernel_rfl) (by kernel_rfl) (fun _ _ _ h => h) (Or.inl ⟨by rfl, ?_⟩) (by assumption) ?_
  rotate_left 1
  · (intro W hW; clear hW; go_simp; try with_reducible rfl)
  simp only [Act.put, List.getElem_toArray, List.getElem_cons_succ, List.getElem_cons_zero, List.setIfInBounds_toArray, List.set_cons_zero, List.set_cons_succ]
  refine wpAnyH_ready (rs := [9]) (by kernel_rfl) (by simp) ?_
  refine AllReadyH.cons rfl (fun K hK => ?_) AllReadyH.nil
  go_simp
  skip
  refine hK.out _ _ (ho3.setCell (p := ⟨g, 1, none⟩) (.inr ((hF _).2 (.inl rfl))) _) (fun hHeld => ?_)
  clear hK K
  try simp only [Act.put, List.getElem_toArray, List.getElem_cons_succ, List.getElem_cons_zero, List.setIfInBounds_toArray, List.set_cons_zero, List.set_cons_succ]
  refine wpAnyH_done (by kernel_rfl) ?_ _
  have hg4 := hg3.set_ 1 (.pointer o')
  have hQ : ∀ x ∈ q'.bl, x ≠ g := by
    intro x hx z
    rcases f3 x hx with h | h | h
    · exact hnd'.1 (hrs _ (z ▸ h))
    · exact hng (z ▸ h)
    · have := hgq.lt; omega
  have hsq := hs0.trans hqs
  refine bodyPost_ret (results_none rfl _ _ _) rfl ?_
  refine ⟨rfl, q', ?_, f1.keep (fun x hx => Below.heap_setCell _ _ _ _ (hQ x hx)), List.nodup_cons.2 ⟨fun z => hQ g z rfl, f2⟩, ?_, f4, ?_⟩
  · rw [ho1]; exact hg4
  · intro x hx
    rcases f3 x hx with h | h | h
    · exact .inl (hrs x h)
    · exact .inr (.inl h)
    · exact .inr (.inr (Nat.le_trans hsq.size_ h))
  · exact (Off.trans (hsq.off _) f5 (fun x _ z => .inr (hrs x z))).setCell (p := ⟨g, 1, none⟩) (.inr (.inl rfl)) _
end Go.Proofs.Ytbbnojfecmocgaa
