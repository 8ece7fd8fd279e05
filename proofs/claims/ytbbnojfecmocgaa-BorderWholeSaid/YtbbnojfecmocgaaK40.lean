/- tiling: below: the iterator. -/
import Derived.Test.YtbbnojfecmocgaaK29
import Derived.Test.YtbbnojfecmocgaaK39
namespace Go.Proofs.Ytbbnojfecmocgaa
open Go.RowKit Go.Shelf
attribute [local go_sem] Oper.semAt_some
set_option linter.unusedVariables false
theorem below_any (v : Value) (o : Option Addr) (hv : v = .pointer o) (d b : Int) (w : World) : Calls Try.prog 68 #[v, .agg #[.int .i64 d, .int .i64 b]] w fun e w' => e = .returned (.func (.func 105) #[] #[.pointer (some ⟨w.heap.size + 1, 0, none⟩), .pointer (some ⟨w.heap.size, 0, none⟩)]) ∧ w' = (w.alloc (.cells #[v] 27)).alloc (.cells #[.int .i64 d, .int .i64 b] 35) := by
  have hmf : ∀ (fn : Fn) (first cap : Array Value) (w : World), (Instr.makeFunc fn first cap).run Try.prog w = .ok (.func fn first cap) w := fun _ _ _ _ => rfl
  subst hv
  go_enter Try.func68, Try.ntmps68
  go_wp2
  go_ret
  exact ⟨rfl, rfl⟩
/-- The blocks that the iterator leans on. -/
def belG (g : Nat) (p : PT) (XB PB : Nat) (x : Nat) : Prop := x ∈ g :: p.bl ∨ x = XB ∨ x = PB
theorem atP_bl (k : Int) (p : PT) (pd pb : Int) : ∀ x ∈ (atP k p pd pb).bl, x ∈ p.bl := by
  intro x hx
  rcases atP_sub k p pd pb with e | ⟨e, c, h⟩
  · rw [e] at hx; cases hx
  · have := PT.tow_bl pd pb p 0 0 x
    rw [h] at this
    exact this hx
theorem atP_node {k : Int} {p : PT} {pd pb : Int} (hn : p.tr.norm) (hh : (p.tr.high : Int) ≤ 2 * k) (h : (atP k p pd pb).isNode = true) : fine pd pb = true ∧ pd + (atP k p pd pb).tr.high ≤ 32 := by
  cases hok : okP k pd pb with
  | false => unfold atP at h; rw [hok] at h; cases h
  | true =>
    have hk := (okP_iff _ _ _).1 hok
    obtain ⟨s, ed, eb, pre, post, hw⟩ := way_of hn hh hk.2.1 (okP_fine hok)
    refine ⟨okP_fine hok, ?_⟩
    rw [hw.atP] at h ⊢
    split at h
    · next c =>
      rw [if_pos c]
      have := hw.high
      omega
    · cases h
set_option maxRecDepth 100000 in
set_option maxHeartbeats 3200000 in
theorem below_seq {g : Nat} {p : PT} {k : Int} {w : World} (h : TilO g p k w) (pd pb : Int) {XB PB : Nat} (hx : Whole w XB 27 #[.pointer (some ⟨g, 0, none⟩)]) (hp : Whole w PB 35 #[.int .i64 pd, .int .i64 pb]) :
    SeqO 105 #[.pointer (some ⟨PB, 0, none⟩), .pointer (some ⟨XB, 0, none⟩)] encW ((atP k p pd pb).walk pd pb) (belG g p XB PB) w := by
  intro l J Jx F0 W hsz hGW hFG kJ lJ kX lX hY hJ
  have hlt : ∀ b, belG g p XB PB b → b < w.heap.size := by
    rintro b (z | rfl | rfl)
    · exact h.lt b z
    · exact hx.lt
    · exact hp.lt
  have hO : TilO g p k W := h.keep (fun b hb => hGW b (.inl hb))
  have hxW : Whole W XB 27 #[.pointer (some ⟨g, 0, none⟩)] := (hGW XB (.inr (.inl rfl))).trans hx
  have hpW : Whole W PB 35 #[.int .i64 pd, .int .i64 pb] := (hGW PB (.inr (.inr rfl))).trans hp
  have hFlt := lJ _ _ _ hJ
  obtain ⟨w0, hw0⟩ : ∃ w0, w0 = ((W.alloc (.cells #[.func (.yield l) #[] #[]] 165)).alloc (.cells #[.func (.func 106) #[] #[.pointer (some ⟨W.heap.size, 0, none⟩), .pointer (some ⟨W.heap.size + 1, 0, none⟩)]] 165)) := ⟨_, rfl⟩
  have hs0 : Since W w0 := by rw [hw0]; exact ((Since.refl W).alloc _).alloc _
  have whY : Whole w0 W.heap.size 165 #[.func (.yield l) #[] #[]] := by rw [hw0]; exact (Whole.new W _ _).alloc _
  have whV : Whole w0 (W.heap.size + 1) 165 #[.func (.func 106) #[] #[.pointer (some ⟨W.heap.size, 0, none⟩), .pointer (some ⟨W.heap.size + 1, 0, none⟩)]] := by rw [hw0]; exact (Whole.new (W.alloc _) _ _).at_ (by simp)
  have HW := Lib.hid hw0
  clear hw0
  have hmf : ∀ (fn : Fn) (first cap : Array Value) (w : World), (Instr.makeFunc fn first cap).run Try.prog w = .ok (.func fn first cap) w := fun _ _ _ _ => rfl
  have hst : ∀ (a : Addr) (fn : Fn) (fi ca : Array Value) (m : Mode) (w : World), (store a (.func fn fi ca) m).run Try.prog w = stored Try.prog w a (.func fn fi ca) m := fun a fn fi ca m w => run_store Try.prog w a _ m rfl
  have hFY : ¬ F0 W.heap.size := fun z => Nat.lt_irrefl _ (hFlt _ z)
  have hFV : ¬ F0 (W.heap.size + 1) := fun z => by have := hFlt _ z; omega
  have hcv : ∀ W2, Since w0 W2 → Calls Try.prog 106 #[.agg #[.int .i64 pd, .int .i64 pb], (atP k p pd pb).v, .pointer (some ⟨W.heap.size, 0, none⟩), .pointer (some ⟨W.heap.size + 1, 0, none⟩)] W2 (VisP J Jx ((atP k p pd pb).walk pd pb) ([] ++ (atP k p pd pb).walk pd pb) F0 W2) := fun W2 hs =>
    visit_ok l J Jx _ F0 W kJ lJ hY (atP k p pd pb) pd pb [] F0 W2 (atP_node h.norm h.high) (atP_norm h.norm pd pb) (atP_at hO.at_ pd pb) (fun x hx z => hFG x z (.inl (List.mem_cons_of_mem _ (atP_bl k p pd pb x hx))))
      ((hs0.trans hs).off _) (fun _ z => .inl z) (Since.whole hs whY) (Since.whole hs whV) hFY hFV (by simp) (kJ.since lJ hJ (hs0.trans hs))
  obtain ⟨V, hV⟩ : ∃ V, (atP k p pd pb).v = V := ⟨_, rfl⟩
  have HA := Lib.hid (fun W2 (hW : Since w0 W2) => hV ▸ at_atP (hO.since (hs0.trans hW)) pd pb)
  rw [hV] at hcv
  have HCV := Lib.hid hcv
  have q0 := off_cell (F := F0) (Since.whole hs0 hxW) (fun z => hFG _ z (.inr (.inl rfl))) 0 (.pointer (some ⟨g, 0, none⟩)) rfl
  have q1 := off_cell (F := F0) (Since.whole hs0 hpW) (fun z => hFG _ z (.inr (.inr rfl))) 0 (.int .i64 pd) rfl
  have q2 := off_cell (F := F0) (Since.whole hs0 hpW) (fun z => hFG _ z (.inr (.inr rfl))) 1 (.int .i64 pb) rfl
  have q3 := off_cell (F := F0) whV hFV 0 (.func (.func 106) #[] #[.pointer (some ⟨W.heap.size, 0, none⟩), .pointer (some ⟨W.heap.size + 1, 0, none⟩)]) rfl
  clear hcv hV
  show Calls Try.prog 105 #[.func (.yield l) #[] #[], .pointer (some ⟨PB, 0, none⟩), .pointer (some ⟨XB, 0, none⟩)] W _
  go_enter Try.func105, Try.ntmps105
  go_wp2_with fail
  rw [← HW.out]
  clear hmf hst
  obtain ⟨wq, hwq⟩ : ∃ wq, wq = w0.drew := ⟨_, rfl⟩
  have hqs : Since w0 wq := by rw [hwq]; exact (Since.refl w0).drew
  refine wp_region_held_drew (S := fun W' => Off F0 w0 W') (by kernel_rfl) ((Since.refl w0).drew.off _) (fun hHeld => ?_)
  rw [← hwq] at hHeld ⊢
  clear hwq
  refine wpAnyH_take (i := 0) (v := ?_) rfl (by kernel_rfl) (by kernel_rfl) (by kernel_rfl) (fun _ _ _ h => h) (Or.inl ⟨by rfl, ?_⟩) (by assumption) ?_
  rotate_left 1
  · (intro W hW; skip; go_simp; try with_reducible rfl)
  simp only [Act.put, List.getElem_toArray, List.getElem_cons_zero, List.setIfInBounds_toArray, List.set_cons_zero, List.set_cons_succ]
  refine wpAnyH_take (i := 1) (v := ?_) rfl (by kernel_rfl) (by kernel_rfl) (by kernel_rfl) (fun _ _ _ h => h) (Or.inl ⟨by rfl, ?_⟩) (by assumption) ?_
  rotate_left 1
  · (intro W hW; skip; go_simp; try with_reducible rfl)
  simp only [Act.put, List.getElem_toArray, List.getElem_cons_succ, List.getElem_cons_zero, List.setIfInBounds_toArray, List.set_cons_zero, List.set_cons_succ]
  refine wpAnyH_take (i := 2) (v := ?_) rfl (by kernel_rfl) (by kernel_rfl) (by kernel_rfl) (fun _ _ _ h => h) (Or.inl ⟨by rfl, ?_⟩) (by assumption) ?_
  rotate_left 1
  · (intro W hW; skip; go_simp; try with_reducible rfl)
  simp only [Act.put, List.getElem_toArray, List.getElem_cons_succ, List.getElem_cons_zero, List.setIfInBounds_toArray, List.set_cons_zero, List.set_cons_succ]
  refine wpAnyH_take (i := 3) (v := ?_) rfl (by kernel_rfl) (by kernel_rfl) (by kernel_rfl) (fun _ _ _ h => h) (Or.inl ⟨by rfl, ?_⟩) (by assumption) ?_
  rotate_left 1
  · (intro W hW; skip; go_simp; try with_reducible rfl)
  simp only [Act.put, List.getElem_toArray, List.getElem_cons_succ, List.getElem_cons_zero, List.setIfInBounds_toArray, List.set_cons_zero, List.set_cons_succ]
  refine wpAnyH_ready (rs := [4]) (by kernel_rfl) (by simp) ?_
  refine AllReadyH.cons rfl (fun K hK => ?_) AllReadyH.nil
  go_simp
  refine (HA.out wq hqs).mono ?_
  rintro e w2 ⟨rfl, hb2⟩
  have hs2 := Since.trans hqs hb2
  go_wp2_with fail
  refine hK.out _ _ (hs2.off _) (fun hHeld => ?_)
  clear hK K
  try simp only [Act.put, List.getElem_toArray, List.getElem_cons_succ, List.getElem_cons_zero, List.setIfInBounds_toArray, List.set_cons_zero, List.set_cons_succ]
  refine wpAnyH_ready (rs := [5]) (by kernel_rfl) (by simp) ?_
  refine AllReadyH.cons rfl (fun K hK => ?_) AllReadyH.nil
  go_simp
  refine (HCV.out _ hs2).mono ?_
  rintro e w3 hpost
  obtain ⟨bb, rfl, ho3, hend⟩ := hpost.bb
  have ho03 := Off.trans (hs2.off F0) ho3 (fun _ _ z => z)
  go_wp2_with fail
  refine hK.out _ _ (ho03) (fun hHeld => ?_)
  clear hK K
  try simp only [Act.put, List.getElem_toArray, List.getElem_cons_succ, List.getElem_cons_zero, List.setIfInBounds_toArray, List.set_cons_zero, List.set_cons_succ]
  refine wpAnyH_done (by kernel_rfl) ?_ _
  have hs02 := hs0.trans hs2
  go_end0
  refine ⟨⟨_, rfl⟩, ?_⟩
  rcases hend with ⟨_, h1⟩ | ⟨_, pre, h1, h2⟩
  · exact .inl (EndP.since hs02 h1)
  · exact .inr ⟨pre, h1, EndP.since hs02 h2⟩
end Go.Proofs.Ytbbnojfecmocgaa
