/- The program's tiling and the document's, side by side. The law's own one: an act on both tilings. The law's own Own; Clone of the program's tiling. -/
import Derived.Test.YtgnhamhkpbadbaaMRefE
import Derived.Test.YtgnhamhkpbadbaaMRefD
import Derived.Test.YtgnhamhkpbadbaaGTilP
namespace Go.Proofs.Ytgnhamhkpbadbaa
open Go.RowKit
set_option linter.unusedVariables false
set_option linter.unusedSimpArgs false
structure Two (gx : Nat) (p : PT) (gr : Nat) (v : Value) (k : Int) (W : World) : Prop where
  x : TilO gx p k W
  r : RefO gr k (p.tr.tiles 0 0) v W
theorem PT.At.kind {W : World} : ∀ {p : PT}, p.At W → ∀ b ∈ p.bl, ∃ cs, Whole W b 97 cs
  | .gap, _, b, hb => by simp [PT.bl] at hb
  | .leaf g who, h, b, hb => by
    obtain rfl : b = g := by simpa [PT.bl] using hb
    exact ⟨_, h⟩
  | .node g z l r, ⟨h, hl, hr⟩, b, hb => by
    simp only [PT.bl, List.mem_cons, List.mem_append] at hb
    rcases hb with rfl | hb | hb
    · exact ⟨_, h⟩
    · exact hl.kind b hb
    · exact hr.kind b hb
theorem TilO.kind {g : Nat} {p : PT} {k : Int} {W : World} (h : TilO g p k W) : ∀ b ∈ g :: p.bl, ∃ cs ty, Whole W b ty cs ∧ ty ≠ 53 ∧ ty ≠ 48 := by
  intro b hb
  rcases List.mem_cons.1 hb with rfl | hb
  · exact ⟨_, _, h.box, by decide, by decide⟩
  · obtain ⟨cs, hc⟩ := h.at_.kind b hb
    exact ⟨cs, _, hc, by decide, by decide⟩
theorem whole_same {W : World} {g : Nat} {t t' : TypeId} {cs cs' : Array Value} (h : Whole W g t cs) (h' : Whole W g t' cs') : t = t' := by
  have z := Option.some.inj ((show W.heap[g]? = _ from h).symm.trans h')
  injection z
theorem RefO.apart {g gr : Nat} {p : PT} {k k' : Int} {L : List Tl} {v : Value} {W : World} (h : TilO g p k W) (hr : RefO gr k' L v W) : ∀ b ∈ g :: p.bl, b ≠ gr ∧ v.ownBlock ≠ some b := by
  intro b hb
  obtain ⟨cs, ty, hc, n1, n2⟩ := h.kind b hb
  constructor
  · rintro rfl
    exact n2 (whole_same hc hr.box)
  · intro e
    rcases hr.row.2 with ⟨rfl, _⟩ | ⟨g', cap, cur, rfl, hbg, hg, _⟩
    · simp [Value.ownBlock] at e
    · obtain rfl : g' = b := by simpa [Value.ownBlock] using e
      exact n1 (whole_same hc hg)
theorem RefO.off {F : Nat → Prop} {gr : Nat} {k : Int} {L : List Tl} {v : Value} {W W' : World} (h : RefO gr k L v W) (ho : Off F W W') (hg : ¬ F gr) (hl : ∀ b, v.ownBlock = some b → ¬ F b) : RefO gr k L v W' := by
  refine ⟨ho.whole h.box hg, ⟨h.row.1, ?_⟩, h.own⟩
  rcases h.row.2 with z | ⟨g', cap, cur, rfl, hbg, hg', hrest⟩
  · exact .inl z
  · exact .inr ⟨g', cap, cur, rfl, hbg, (ho.block g' (Whole.lt hg') (hl g' (by simp [Value.ownBlock]))).trans hg', hrest⟩
theorem TilO.off {F : Nat → Prop} {g : Nat} {p : PT} {k : Int} {W W' : World} (h : TilO g p k W) (ho : Off F W W') (hF : ∀ b ∈ g :: p.bl, ¬ F b) : TilO g p k W' :=
  h.keep fun b hb => ho.block b (h.lt b hb) (hF b hb)
theorem TilO.k32 {g : Nat} {p : PT} {k : Int} {W : World} (h : TilO g p k W) : 1 ≤ k ∧ k ≤ 16 ∧ (0 : Int) + p.tr.high ≤ 32 := by
  have h1 := (rgt_iff k).1 h.right
  have h2 := h.high
  omega
theorem TilO.pair {g : Nat} {p : PT} {k : Int} {W : World} (h : TilO g p k W) : (p.tr.tiles 0 0).Pairwise Tl.ltB := Tr.tiles_pair p.tr 0 0 (by decide) h.k32.2.2
theorem TilO.fine {g : Nat} {p : PT} {k : Int} {W : World} (h : TilO g p k W) : ∀ s ∈ p.tr.tiles 0 0, fine s.d s.b = true ∧ s.d ≤ 2 * k := by
  intro s hs
  have h1 := Tr.tiles_abv p.tr 0 0 (by decide) h.k32.2.2 s hs
  have h2 := h.high
  exact ⟨((abvB_iff _ _ _ _).1 h1.1).2.1, by omega⟩
/-- Behind a change of the program's: the document's is as it was. -/
theorem Two.prog {gx gr : Nat} {p : PT} {v : Value} {k : Int} {r : Int × List Tl} {W W1 : World} {e : Ending} (h : Two gx p gr v k W) (hc : ChgO gx p k r W e W1) : e = .returned (.int .i64 r.1) ∧ ∃ p1, TilO gx p1 k W1 ∧ p1.tr.tiles 0 0 = r.2 ∧ RefO gr k (p.tr.tiles 0 0) v W1 ∧ Off (fun b => b ∈ gx :: p.bl) W W1 ∧ ∀ x ∈ p1.bl, x ∈ p.bl ∨ W.heap.size ≤ x := by
  obtain ⟨rfl, q, h1, h2, h3, h4⟩ := hc
  have ha := RefO.apart h.x h.r
  exact ⟨rfl, q, h1, h2, h.r.off h3 (fun z => (ha gr z).1 rfl) (fun b hb z => (ha b z).2 hb), h3, h4⟩
/-- Behind the document's change. -/
theorem two_ref {gx gr : Nat} {p1 : PT} {v v2 : Value} {k : Int} {L L2 : List Tl} {W1 W2 : World} (hx : TilO gx p1 k W1) (hr : RefO gr k L v W1) (h2 : RefO gr k L2 v2 W2) (ho : Off (fun b => b = gr) W1 W2) (e : p1.tr.tiles 0 0 = L2) : Two gx p1 gr v2 k W2 := by
  have ha := RefO.apart hx hr
  exact ⟨hx.off ho (fun b hb z => (ha b hb).1 z), by rw [e]; exact h2⟩
section
variable {gx gr : Nat} {p p1 : PT} {v : Value} {k : Int} {W W1 W0 : World}
theorem two_drop (h : TilO gx p k W0) (hr : RefO gr k (p.tr.tiles 0 0) v W) (d b : Int) : Calls Try.prog 52 #[.pointer (some ⟨gr, 0, none⟩), .agg #[.int .i64 d, .int .i64 b]] W (RefC gr k (dropT (p.tr.tiles 0 0) d b) W) :=
  dropG_eq h.pair d b ▸ refDrop_any hr d b (by have := h.most; omega)
theorem two_give (h : TilO gx p k W0) (hr : RefO gr k (p.tr.tiles 0 0) v W) (d b who : Int) : Calls Try.prog 57 #[.pointer (some ⟨gr, 0, none⟩), .agg #[.int .i64 d, .int .i64 b], .int .i64 who] W (RefC gr k (giveT (p.tr.tiles 0 0) d b who) W) :=
  giveG_eq h.pair d b who ▸ refGive_any hr d b who (by have := h.most; omega)
theorem two_add (h : TilO gx p k W0) (hr : RefO gr k (p.tr.tiles 0 0) v W) (d b who : Int) : Calls Try.prog 48 #[.pointer (some ⟨gr, 0, none⟩), .agg #[.int .i64 d, .int .i64 b, .int .i64 who]] W (RefC gr k (addT k (p.tr.tiles 0 0) ⟨d, b, who⟩) W) :=
  refAdd_any hr d b who (by have := h.most; omega)
theorem two_split (h : TilO gx p k W0) (hr : RefO gr k (p.tr.tiles 0 0) v W) (d b who : Int) (h1 : TilO gx p1 k W1) (e : p1.tr.tiles 0 0 = (splitT k (p.tr.tiles 0 0) d b who).2) : Calls Try.prog 53 #[.pointer (some ⟨gr, 0, none⟩), .agg #[.int .i64 d, .int .i64 b], .int .i64 who] W (RefC gr k (splitT k (p.tr.tiles 0 0) d b who) W) :=
  splitG_eq h.pair d b who (e ▸ h1.pair) (fun s hs => (h1.fine s (e ▸ hs)).1) ▸ refSplit_any hr d b who (by have := h.most; omega) ⟨by have := h.k32; omega, h.k32.2.1⟩ h.fine
theorem two_merge (h : TilO gx p k W0) (hr : RefO gr k (p.tr.tiles 0 0) v W) (d b : Int) (h1 : TilO gx p1 k W1) (e : p1.tr.tiles 0 0 = (mergeT (p.tr.tiles 0 0) d b).2) : Calls Try.prog 55 #[.pointer (some ⟨gr, 0, none⟩), .agg #[.int .i64 d, .int .i64 b]] W (RefC gr k (mergeT (p.tr.tiles 0 0) d b) W) :=
  mergeG_eq h.pair (fun s hs => (h.fine s hs).1) d b (e ▸ h1.pair) (fun s hs => (h1.fine s (e ▸ hs)).1) ▸ refMerge_any hr d b (by have := h.most; omega)
end
end Go.Proofs.Ytgnhamhkpbadbaa
namespace Go.Proofs.Ytgnhamhkpbadbaa
open Go.RowKit
set_option linter.unusedVariables false
set_option linter.unusedSimpArgs false
/-- Behind an act on both. -/
def OneP (gx : Nat) (p : PT) (gr : Nat) (k : Int) (W : World) (e : Ending) (W' : World) : Prop :=
  e = .returned (.bool true) ∧ ∃ p' v', Two gx p' gr v' k W' ∧ Off (fun b => b ∈ gx :: p.bl ∨ b = gr) W W' ∧ ∀ x ∈ p'.bl, x ∈ p.bl ∨ W.heap.size ≤ x
/-- The program's change, as an arm wants it. -/
def PrgC (gx : Nat) (p : PT) (gr : Nat) (v : Value) (k E : Int) (L : List Tl) (W : World) (e : Ending) (W1 : World) : Prop :=
  e = .returned (.int .i64 E) ∧ ∃ p1, TilO gx p1 k W1 ∧ p1.tr.tiles 0 0 = L ∧ RefO gr k (p.tr.tiles 0 0) v W1 ∧ Off (fun b => b ∈ gx :: p.bl) W W1 ∧ ∀ x ∈ p1.bl, x ∈ p.bl ∨ W.heap.size ≤ x
theorem prg_of {gx gr : Nat} {p : PT} {v : Value} {k E : Int} {L : List Tl} {r : Int × List Tl} {W : World} {f : Nat} {a : Array Value} (h : Two gx p gr v k W) (hr : r = (E, L)) (hc : Calls Try.prog f a W (ChgO gx p k r W)) : Calls Try.prog f a W (PrgC gx p gr v k E L W) := by
  subst hr
  exact hc.mono fun e W1 z => h.prog z
def DocC (gr : Nat) (k E : Int) (L : List Tl) (w : World) (e : Ending) (W' : World) : Prop := e = .returned (.int .i64 E) ∧ (∃ v', RefO gr k L v' W') ∧ Off (fun b => b = gr) w W'
theorem doc_of {gr : Nat} {k E : Int} {L : List Tl} {r : Int × List Tl} {W : World} {f : Nat} {a : Array Value} (hr : r = (E, L)) (hc : Calls Try.prog f a W (RefC gr k r W)) : Calls Try.prog f a W (DocC gr k E L W) := by
  subst hr
  exact hc
set_option maxRecDepth 100000 in
set_option maxHeartbeats 6400000 in
theorem one_add {gx gr : Nat} {p : PT} {v : Value} {k : Int} {w : World} (h : Two gx p gr v k w) (K d b who : Int) (hK : K = 0) : Calls Try.prog 16 #[.pointer (some ⟨gx, 0, none⟩), .pointer (some ⟨gr, 0, none⟩), .agg #[.int .i64 K, .int .i64 d, .int .i64 b, .int .i64 who]] w (OneP gx p gr k w) := by
  subst hK
  obtain ⟨w0, hw0⟩ : ∃ w0, w0 = w.alloc (.cells #[.int .i64 0, .int .i64 d, .int .i64 b, .int .i64 who] 40) := ⟨_, rfl⟩
  have hs0 : Since w w0 := by rw [hw0]; exact (Since.refl w).alloc _
  have wh0 : Whole w0 w.heap.size 40 #[.int .i64 0, .int .i64 d, .int .i64 b, .int .i64 who] := by rw [hw0]; exact Whole.new w _ _
  have hT0 : Two gx p gr v k w0 := ⟨h.x.since hs0, h.r.since hs0⟩
  obtain ⟨Fa, hFa⟩ : ∃ Fa : Nat → Prop, Fa = fun b => b ∈ gx :: p.bl ∨ b = gr := ⟨_, rfl⟩
  have hnF : ¬ Fa w.heap.size := by
    rw [hFa]
    rintro (z | z)
    · have := h.x.lt _ z; omega
    · have := h.r.box.lt; omega
  have HF1 := Lib.hid (show ∀ b, b ∈ gx :: p.bl → Fa b by rw [hFa]; exact fun b z => .inl z)
  have HF2 := Lib.hid (show Fa gr by rw [hFa]; exact .inr rfl)
  have HFA := Lib.hid hFa
  have c0 := off_cell wh0 (F := Fa) hnF 0 _ rfl
  have c1 := off_cell wh0 (F := Fa) hnF 1 _ rfl
  have c2 := off_cell wh0 (F := Fa) hnF 2 _ rfl
  have c3 := off_cell wh0 (F := Fa) hnF 3 _ rfl
  have q0 := wh0.cell 0
  have HW := Lib.hid hw0
  clear hw0 wh0 hnF h hFa
  obtain ⟨⟨ER, LR⟩, hR⟩ : ∃ z, addT k (p.tr.tiles 0 0) ⟨d, b, who⟩ = z := ⟨_, rfl⟩
  have HR := Lib.hid hR
  clear hR
  go_enter Try.func16, Try.ntmps16
  go_wp2_with fail
  rw [← HW.out]
  go_upto_region 3 with fail
  have hod : Off Fa w0 w0.drew := (Off.refl _ w0).drew
  obtain ⟨wq, hwq⟩ : ∃ wq, wq = w0.drew := ⟨_, rfl⟩
  have htq : Two gx p gr v k wq := by rw [hwq]; exact ⟨hT0.x.since (Since.refl w0).drew, hT0.r.since (Since.refl w0).drew⟩
  have HTQ := Lib.hid htq
  refine wp_region_held_drew (S := fun W => Off Fa w0 W) (by kernel_rfl) hod (fun hHeld => ?_)
  rw [← hwq] at hHeld ⊢
  have hq : Off Fa w0 wq := hHeld
  clear hwq hod htq hT0
  refine wpAnyH_take (i := 0) (v := ?_) rfl (by kernel_rfl) (by kernel_rfl) (by kernel_rfl) (fun _ _ _ h => h) (Or.inl ⟨by rfl, ?_⟩) (by assumption) ?_
  rotate_left 1
  · (intro W hW; clear hW; go_simp; try with_reducible rfl)
  simp only [Act.put, List.getElem_toArray, List.getElem_cons_zero, List.setIfInBounds_toArray, List.set_cons_zero, List.set_cons_succ]
  refine wpAnyH_take (i := 1) (v := ?_) rfl (by kernel_rfl) (by kernel_rfl) (by kernel_rfl) (fun _ _ _ h => h) (Or.inl ⟨by rfl, ?_⟩) (by assumption) ?_
  rotate_left 1
  · (intro W hW; clear hW; go_simp; try with_reducible rfl)
  simp only [Act.put, List.getElem_toArray, List.getElem_cons_succ, List.getElem_cons_zero, List.setIfInBounds_toArray, List.set_cons_zero, List.set_cons_succ]
  refine wpAnyH_take (i := 2) (v := ?_) rfl (by kernel_rfl) (by kernel_rfl) (by kernel_rfl) (fun _ _ _ h => h) (Or.inl ⟨by rfl, ?_⟩) (by assumption) ?_
  rotate_left 1
  · (intro W hW; skip; go_simp; try with_reducible rfl)
  simp only [Act.put, List.getElem_toArray, List.getElem_cons_succ, List.getElem_cons_zero, List.setIfInBounds_toArray, List.set_cons_zero, List.set_cons_succ]
  refine wpAnyH_take (i := 3) (v := ?_) rfl (by kernel_rfl) (by kernel_rfl) (by kernel_rfl) (fun _ _ _ h => h) (Or.inl ⟨by rfl, ?_⟩) (by assumption) ?_
  rotate_left 1
  · (intro W hW; clear hW; go_simp; try with_reducible rfl)
  simp only [Act.put, List.getElem_toArray, List.getElem_cons_succ, List.getElem_cons_zero, List.setIfInBounds_toArray, List.set_cons_zero, List.set_cons_succ]
  refine wpAnyH_take (i := 4) (v := ?_) rfl (by kernel_rfl) (by kernel_rfl) (by kernel_rfl) (fun _ _ _ h => h) (Or.inl ⟨by rfl, ?_⟩) (by assumption) ?_
  rotate_left 1
  · (intro W hW; skip; go_simp; try with_reducible rfl)
  simp only [Act.put, List.getElem_toArray, List.getElem_cons_succ, List.getElem_cons_zero, List.setIfInBounds_toArray, List.set_cons_zero, List.set_cons_succ]
  refine wpAnyH_take (i := 5) (v := ?_) rfl (by kernel_rfl) (by kernel_rfl) (by kernel_rfl) (fun _ _ _ h => h) (Or.inl ⟨by rfl, ?_⟩) (by assumption) ?_
  rotate_left 1
  · (intro W hW; clear hW; go_simp; try with_reducible rfl)
  simp only [Act.put, List.getElem_toArray, List.getElem_cons_succ, List.getElem_cons_zero, List.setIfInBounds_toArray, List.set_cons_zero, List.set_cons_succ]
  refine wpAnyH_take (i := 8) (v := ?_) rfl (by kernel_rfl) (by kernel_rfl) (by kernel_rfl) (fun _ _ _ h => h) (Or.inl ⟨by rfl, ?_⟩) (by assumption) ?_
  rotate_left 1
  · (intro W hW; clear hW; go_simp; try with_reducible rfl)
  simp only [Act.put, List.getElem_toArray, List.getElem_cons_succ, List.getElem_cons_zero, List.setIfInBounds_toArray, List.set_cons_zero, List.set_cons_succ]
  refine wpAnyH_take (i := 9) (v := ?_) rfl (by kernel_rfl) (by kernel_rfl) (by kernel_rfl) (fun _ _ _ h => h) (Or.inl ⟨by rfl, ?_⟩) (by assumption) ?_
  rotate_left 1
  · (intro W hW; clear hW; go_simp; try with_reducible rfl)
  simp only [Act.put, List.getElem_toArray, List.getElem_cons_succ, List.getElem_cons_zero, List.setIfInBounds_toArray, List.set_cons_zero, List.set_cons_succ]
  refine wpAnyH_take (i := 10) (v := ?_) rfl (by kernel_rfl) (by kernel_rfl) (by kernel_rfl) (fun _ _ _ h => h) (Or.inl ⟨by rfl, ?_⟩) (by assumption) ?_
  rotate_left 1
  · (intro W hW; skip; go_simp; try with_reducible rfl)
  simp only [Act.put, List.getElem_toArray, List.getElem_cons_succ, List.getElem_cons_zero, List.setIfInBounds_toArray, List.set_cons_zero, List.set_cons_succ]
  refine wpAnyH_take (i := 11) (v := ?_) rfl (by kernel_rfl) (by kernel_rfl) (by kernel_rfl) (fun _ _ _ h => h) (Or.inl ⟨by rfl, ?_⟩) (by assumption) ?_
  rotate_left 1
  · (intro W hW; clear hW; go_simp; try with_reducible rfl)
  simp only [Act.put, List.getElem_toArray, List.getElem_cons_succ, List.getElem_cons_zero, List.setIfInBounds_toArray, List.set_cons_zero, List.set_cons_succ]
  refine wpAnyH_take (i := 12) (v := ?_) rfl (by kernel_rfl) (by kernel_rfl) (by kernel_rfl) (fun _ _ _ h => h) (Or.inl ⟨by rfl, ?_⟩) (by assumption) ?_
  rotate_left 1
  · (intro W hW; skip; go_simp; try with_reducible rfl)
  simp only [Act.put, List.getElem_toArray, List.getElem_cons_succ, List.getElem_cons_zero, List.setIfInBounds_toArray, List.set_cons_zero, List.set_cons_succ]
  refine wpAnyH_take (i := 13) (v := ?_) rfl (by kernel_rfl) (by kernel_rfl) (by kernel_rfl) (fun _ _ _ h => h) (Or.inl ⟨by rfl, ?_⟩) (by assumption) ?_
  rotate_left 1
  · (intro W hW; clear hW; go_simp; try with_reducible rfl)
  simp only [Act.put, List.getElem_toArray, List.getElem_cons_succ, List.getElem_cons_zero, List.setIfInBounds_toArray, List.set_cons_zero, List.set_cons_succ]
  refine wpAnyH_ready (rs := [6]) (by kernel_rfl) (by simp) ?_
  refine AllReadyH.cons rfl (fun K hK => ?_) AllReadyH.nil
  go_simp
  refine (prg_of HTQ.out HR.out (add_any HTQ.out.x d b who)).mono ?_
  rintro e w1 ⟨rfl, p1, hx1, ht1, hr1, ho1, hb1⟩
  have HX1 := Lib.hid hx1
  have HT1 := Lib.hid ht1
  have HR1 := Lib.hid hr1
  have HB1 := Lib.hid hb1
  have hk1 : Off Fa w0 w1 := hq.trans ho1 (fun b _ z => HF1.out b z)
  clear hx1 ht1 hr1 hb1 ho1
  go_wp2_with fail
  refine hK.out _ _ (hk1) (fun hHeld => ?_)
  clear hK K
  try simp only [Act.put, List.getElem_toArray, List.getElem_cons_succ, List.getElem_cons_zero, List.setIfInBounds_toArray, List.set_cons_zero, List.set_cons_succ]
  refine wpAnyH_ready (rs := [7]) (by kernel_rfl) (by simp) ?_
  refine AllReadyH.cons rfl (fun K hK => ?_) AllReadyH.nil
  go_simp
  refine (law5_num _ _).mono ?_
  rintro e wn ⟨rfl, rfl⟩
  go_wp2_with fail
  refine hK.out _ _ (hk1) (fun hHeld => ?_)
  clear hK K
  try simp only [Act.put, List.getElem_toArray, List.getElem_cons_succ, List.getElem_cons_zero, List.setIfInBounds_toArray, List.set_cons_zero, List.set_cons_succ]
  refine wpAnyH_ready (rs := [14]) (by kernel_rfl) (by simp) ?_
  refine AllReadyH.cons rfl (fun K hK => ?_) AllReadyH.nil
  go_simp
  refine (doc_of HR.out (two_add HTQ.out.x HR1.out d b who)).mono ?_
  rintro e w2 ⟨rfl, hv2, o2⟩
  have HV2 := Lib.hid hv2
  have HO2 := Lib.hid o2
  have hk2 : Off Fa w0 w2 := hk1.trans o2 (fun b _ z => by rw [z]; exact HF2.out)
  clear hv2 o2
  go_wp2_with fail
  refine hK.out _ _ (hk2) (fun hHeld => ?_)
  clear hK K
  try simp only [Act.put, List.getElem_toArray, List.getElem_cons_succ, List.getElem_cons_zero, List.setIfInBounds_toArray, List.set_cons_zero, List.set_cons_succ]
  refine wpAnyH_take (i := 15) (v := ?_) rfl (by kernel_rfl) (by kernel_rfl) (by kernel_rfl) (fun _ _ _ h => h) (Or.inl ⟨by rfl, ?_⟩) (by assumption) ?_
  rotate_left 1
  · (intro W hW; clear hW; go_simp; try with_reducible rfl)
  simp only [Act.put, List.getElem_toArray, List.getElem_cons_succ, List.getElem_cons_zero, List.setIfInBounds_toArray, List.set_cons_zero, List.set_cons_succ]
  refine wpAnyH_take (i := 16) (v := ?_) rfl (by kernel_rfl) (by kernel_rfl) (by kernel_rfl) (fun _ _ _ h => h) (Or.inl ⟨by rfl, ?_⟩) (by assumption) ?_
  rotate_left 1
  · (intro W hW; clear hW; go_simp; try with_reducible rfl)
  simp only [Act.put, List.getElem_toArray, List.getElem_cons_succ, List.getElem_cons_zero, List.setIfInBounds_toArray, List.set_cons_zero, List.set_cons_succ]
  refine wpAnyH_done (by kernel_rfl) ?_ _
  go_wp2_with fail
  go_ret
  obtain ⟨v2, hv2⟩ := HV2.out
  exact ⟨by simp, p1, v2, two_ref HX1.out HR1.out hv2 HO2.out HT1.out, by rw [← HFA.out]; exact (hs0.off _).trans hk2 (fun _ _ z => z), fun x hx => (HB1.out x hx).imp id (fun z => by have := hs0.size_; have := hq.size; omega)⟩
set_option maxRecDepth 100000 in
set_option maxHeartbeats 6400000 in
theorem one_drop {gx gr : Nat} {p : PT} {v : Value} {k : Int} {w : World} (h : Two gx p gr v k w) (K d b who : Int) (hK : K = 1) : Calls Try.prog 16 #[.pointer (some ⟨gx, 0, none⟩), .pointer (some ⟨gr, 0, none⟩), .agg #[.int .i64 K, .int .i64 d, .int .i64 b, .int .i64 who]] w (OneP gx p gr k w) := by
  subst hK
  obtain ⟨w0, hw0⟩ : ∃ w0, w0 = w.alloc (.cells #[.int .i64 1, .int .i64 d, .int .i64 b, .int .i64 who] 40) := ⟨_, rfl⟩
  have hs0 : Since w w0 := by rw [hw0]; exact (Since.refl w).alloc _
  have wh0 : Whole w0 w.heap.size 40 #[.int .i64 1, .int .i64 d, .int .i64 b, .int .i64 who] := by rw [hw0]; exact Whole.new w _ _
  have hT0 : Two gx p gr v k w0 := ⟨h.x.since hs0, h.r.since hs0⟩
  obtain ⟨Fa, hFa⟩ : ∃ Fa : Nat → Prop, Fa = fun b => b ∈ gx :: p.bl ∨ b = gr := ⟨_, rfl⟩
  have hnF : ¬ Fa w.heap.size := by
    rw [hFa]
    rintro (z | z)
    · have := h.x.lt _ z; omega
    · have := h.r.box.lt; omega
  have HF1 := Lib.hid (show ∀ b, b ∈ gx :: p.bl → Fa b by rw [hFa]; exact fun b z => .inl z)
  have HF2 := Lib.hid (show Fa gr by rw [hFa]; exact .inr rfl)
  have HFA := Lib.hid hFa
  have c0 := off_cell wh0 (F := Fa) hnF 0 _ rfl
  have c1 := off_cell wh0 (F := Fa) hnF 1 _ rfl
  have c2 := off_cell wh0 (F := Fa) hnF 2 _ rfl
  have c3 := off_cell wh0 (F := Fa) hnF 3 _ rfl
  have q0 := wh0.cell 0
  have HW := Lib.hid hw0
  clear hw0 wh0 hnF h hFa
  obtain ⟨⟨ER, LR⟩, hR⟩ : ∃ z, dropT (p.tr.tiles 0 0) d b = z := ⟨_, rfl⟩
  have HR := Lib.hid hR
  clear hR
  go_enter Try.func16, Try.ntmps16
  go_wp2_with fail
  rw [← HW.out]
  go_upto_region 5 with fail
  have hod : Off Fa w0 w0.drew := (Off.refl _ w0).drew
  obtain ⟨wq, hwq⟩ : ∃ wq, wq = w0.drew := ⟨_, rfl⟩
  have htq : Two gx p gr v k wq := by rw [hwq]; exact ⟨hT0.x.since (Since.refl w0).drew, hT0.r.since (Since.refl w0).drew⟩
  have HTQ := Lib.hid htq
  refine wp_region_held_drew (S := fun W => Off Fa w0 W) (by kernel_rfl) hod (fun hHeld => ?_)
  rw [← hwq] at hHeld ⊢
  have hq : Off Fa w0 wq := hHeld
  clear hwq hod htq hT0
  refine wpAnyH_take (i := 0) (v := ?_) rfl (by kernel_rfl) (by kernel_rfl) (by kernel_rfl) (fun _ _ _ h => h) (Or.inl ⟨by rfl, ?_⟩) (by assumption) ?_
  rotate_left 1
  · (intro W hW; clear hW; go_simp; try with_reducible rfl)
  simp only [Act.put, List.getElem_toArray, List.getElem_cons_zero, List.setIfInBounds_toArray, List.set_cons_zero, List.set_cons_succ]
  refine wpAnyH_take (i := 1) (v := ?_) rfl (by kernel_rfl) (by kernel_rfl) (by kernel_rfl) (fun _ _ _ h => h) (Or.inl ⟨by rfl, ?_⟩) (by assumption) ?_
  rotate_left 1
  · (intro W hW; clear hW; go_simp; try with_reducible rfl)
  simp only [Act.put, List.getElem_toArray, List.getElem_cons_succ, List.getElem_cons_zero, List.setIfInBounds_toArray, List.set_cons_zero, List.set_cons_succ]
  refine wpAnyH_take (i := 2) (v := ?_) rfl (by kernel_rfl) (by kernel_rfl) (by kernel_rfl) (fun _ _ _ h => h) (Or.inl ⟨by rfl, ?_⟩) (by assumption) ?_
  rotate_left 1
  · (intro W hW; skip; go_simp; try with_reducible rfl)
  simp only [Act.put, List.getElem_toArray, List.getElem_cons_succ, List.getElem_cons_zero, List.setIfInBounds_toArray, List.set_cons_zero, List.set_cons_succ]
  refine wpAnyH_take (i := 5) (v := ?_) rfl (by kernel_rfl) (by kernel_rfl) (by kernel_rfl) (fun _ _ _ h => h) (Or.inl ⟨by rfl, ?_⟩) (by assumption) ?_
  rotate_left 1
  · (intro W hW; clear hW; go_simp; try with_reducible rfl)
  simp only [Act.put, List.getElem_toArray, List.getElem_cons_succ, List.getElem_cons_zero, List.setIfInBounds_toArray, List.set_cons_zero, List.set_cons_succ]
  refine wpAnyH_take (i := 6) (v := ?_) rfl (by kernel_rfl) (by kernel_rfl) (by kernel_rfl) (fun _ _ _ h => h) (Or.inl ⟨by rfl, ?_⟩) (by assumption) ?_
  rotate_left 1
  · (intro W hW; clear hW; go_simp; try with_reducible rfl)
  simp only [Act.put, List.getElem_toArray, List.getElem_cons_succ, List.getElem_cons_zero, List.setIfInBounds_toArray, List.set_cons_zero, List.set_cons_succ]
  refine wpAnyH_take (i := 7) (v := ?_) rfl (by kernel_rfl) (by kernel_rfl) (by kernel_rfl) (fun _ _ _ h => h) (Or.inl ⟨by rfl, ?_⟩) (by assumption) ?_
  rotate_left 1
  · (intro W hW; skip; go_simp; try with_reducible rfl)
  simp only [Act.put, List.getElem_toArray, List.getElem_cons_succ, List.getElem_cons_zero, List.setIfInBounds_toArray, List.set_cons_zero, List.set_cons_succ]
  refine wpAnyH_ready (rs := [3]) (by kernel_rfl) (by simp) ?_
  refine AllReadyH.cons rfl (fun K hK => ?_) AllReadyH.nil
  go_simp
  refine (prg_of HTQ.out HR.out (drop_any HTQ.out.x d b)).mono ?_
  rintro e w1 ⟨rfl, p1, hx1, ht1, hr1, ho1, hb1⟩
  have HX1 := Lib.hid hx1
  have HT1 := Lib.hid ht1
  have HR1 := Lib.hid hr1
  have HB1 := Lib.hid hb1
  have hk1 : Off Fa w0 w1 := hq.trans ho1 (fun b _ z => HF1.out b z)
  clear hx1 ht1 hr1 hb1 ho1
  go_wp2_with fail
  refine hK.out _ _ (hk1) (fun hHeld => ?_)
  clear hK K
  try simp only [Act.put, List.getElem_toArray, List.getElem_cons_succ, List.getElem_cons_zero, List.setIfInBounds_toArray, List.set_cons_zero, List.set_cons_succ]
  refine wpAnyH_ready (rs := [4]) (by kernel_rfl) (by simp) ?_
  refine AllReadyH.cons rfl (fun K hK => ?_) AllReadyH.nil
  go_simp
  refine (law5_num _ _).mono ?_
  rintro e wn ⟨rfl, rfl⟩
  go_wp2_with fail
  refine hK.out _ _ (hk1) (fun hHeld => ?_)
  clear hK K
  try simp only [Act.put, List.getElem_toArray, List.getElem_cons_succ, List.getElem_cons_zero, List.setIfInBounds_toArray, List.set_cons_zero, List.set_cons_succ]
  refine wpAnyH_ready (rs := [8]) (by kernel_rfl) (by simp) ?_
  refine AllReadyH.cons rfl (fun K hK => ?_) AllReadyH.nil
  go_simp
  refine (doc_of HR.out (two_drop HTQ.out.x HR1.out d b)).mono ?_
  rintro e w2 ⟨rfl, hv2, o2⟩
  have HV2 := Lib.hid hv2
  have HO2 := Lib.hid o2
  have hk2 : Off Fa w0 w2 := hk1.trans o2 (fun b _ z => by rw [z]; exact HF2.out)
  clear hv2 o2
  go_wp2_with fail
  refine hK.out _ _ (hk2) (fun hHeld => ?_)
  clear hK K
  try simp only [Act.put, List.getElem_toArray, List.getElem_cons_succ, List.getElem_cons_zero, List.setIfInBounds_toArray, List.set_cons_zero, List.set_cons_succ]
  refine wpAnyH_take (i := 9) (v := ?_) rfl (by kernel_rfl) (by kernel_rfl) (by kernel_rfl) (fun _ _ _ h => h) (Or.inl ⟨by rfl, ?_⟩) (by assumption) ?_
  rotate_left 1
  · (intro W hW; clear hW; go_simp; try with_reducible rfl)
  simp only [Act.put, List.getElem_toArray, List.getElem_cons_succ, List.getElem_cons_zero, List.setIfInBounds_toArray, List.set_cons_zero, List.set_cons_succ]
  refine wpAnyH_take (i := 10) (v := ?_) rfl (by kernel_rfl) (by kernel_rfl) (by kernel_rfl) (fun _ _ _ h => h) (Or.inl ⟨by rfl, ?_⟩) (by assumption) ?_
  rotate_left 1
  · (intro W hW; clear hW; go_simp; try with_reducible rfl)
  simp only [Act.put, List.getElem_toArray, List.getElem_cons_succ, List.getElem_cons_zero, List.setIfInBounds_toArray, List.set_cons_zero, List.set_cons_succ]
  refine wpAnyH_done (by kernel_rfl) ?_ _
  go_wp2_with fail
  go_ret
  obtain ⟨v2, hv2⟩ := HV2.out
  exact ⟨by simp, p1, v2, two_ref HX1.out HR1.out hv2 HO2.out HT1.out, by rw [← HFA.out]; exact (hs0.off _).trans hk2 (fun _ _ z => z), fun x hx => (HB1.out x hx).imp id (fun z => by have := hs0.size_; have := hq.size; omega)⟩
set_option maxRecDepth 100000 in
set_option maxHeartbeats 6400000 in
theorem one_split {gx gr : Nat} {p : PT} {v : Value} {k : Int} {w : World} (h : Two gx p gr v k w) (K d b who : Int) (hK : K = 2) : Calls Try.prog 16 #[.pointer (some ⟨gx, 0, none⟩), .pointer (some ⟨gr, 0, none⟩), .agg #[.int .i64 K, .int .i64 d, .int .i64 b, .int .i64 who]] w (OneP gx p gr k w) := by
  subst hK
  obtain ⟨w0, hw0⟩ : ∃ w0, w0 = w.alloc (.cells #[.int .i64 2, .int .i64 d, .int .i64 b, .int .i64 who] 40) := ⟨_, rfl⟩
  have hs0 : Since w w0 := by rw [hw0]; exact (Since.refl w).alloc _
  have wh0 : Whole w0 w.heap.size 40 #[.int .i64 2, .int .i64 d, .int .i64 b, .int .i64 who] := by rw [hw0]; exact Whole.new w _ _
  have hT0 : Two gx p gr v k w0 := ⟨h.x.since hs0, h.r.since hs0⟩
  obtain ⟨Fa, hFa⟩ : ∃ Fa : Nat → Prop, Fa = fun b => b ∈ gx :: p.bl ∨ b = gr := ⟨_, rfl⟩
  have hnF : ¬ Fa w.heap.size := by
    rw [hFa]
    rintro (z | z)
    · have := h.x.lt _ z; omega
    · have := h.r.box.lt; omega
  have HF1 := Lib.hid (show ∀ b, b ∈ gx :: p.bl → Fa b by rw [hFa]; exact fun b z => .inl z)
  have HF2 := Lib.hid (show Fa gr by rw [hFa]; exact .inr rfl)
  have HFA := Lib.hid hFa
  have c0 := off_cell wh0 (F := Fa) hnF 0 _ rfl
  have c1 := off_cell wh0 (F := Fa) hnF 1 _ rfl
  have c2 := off_cell wh0 (F := Fa) hnF 2 _ rfl
  have c3 := off_cell wh0 (F := Fa) hnF 3 _ rfl
  have q0 := wh0.cell 0
  have HW := Lib.hid hw0
  clear hw0 wh0 hnF h hFa
  obtain ⟨⟨ER, LR⟩, hR⟩ : ∃ z, splitT k (p.tr.tiles 0 0) d b who = z := ⟨_, rfl⟩
  have HR := Lib.hid hR
  clear hR
  go_enter Try.func16, Try.ntmps16
  go_wp2_with fail
  rw [← HW.out]
  go_upto_region 7 with fail
  have hod : Off Fa w0 w0.drew := (Off.refl _ w0).drew
  obtain ⟨wq, hwq⟩ : ∃ wq, wq = w0.drew := ⟨_, rfl⟩
  have htq : Two gx p gr v k wq := by rw [hwq]; exact ⟨hT0.x.since (Since.refl w0).drew, hT0.r.since (Since.refl w0).drew⟩
  have HTQ := Lib.hid htq
  refine wp_region_held_drew (S := fun W => Off Fa w0 W) (by kernel_rfl) hod (fun hHeld => ?_)
  rw [← hwq] at hHeld ⊢
  have hq : Off Fa w0 wq := hHeld
  clear hwq hod htq hT0
  refine wpAnyH_take (i := 0) (v := ?_) rfl (by kernel_rfl) (by kernel_rfl) (by kernel_rfl) (fun _ _ _ h => h) (Or.inl ⟨by rfl, ?_⟩) (by assumption) ?_
  rotate_left 1
  · (intro W hW; clear hW; go_simp; try with_reducible rfl)
  simp only [Act.put, List.getElem_toArray, List.getElem_cons_zero, List.setIfInBounds_toArray, List.set_cons_zero, List.set_cons_succ]
  refine wpAnyH_take (i := 1) (v := ?_) rfl (by kernel_rfl) (by kernel_rfl) (by kernel_rfl) (fun _ _ _ h => h) (Or.inl ⟨by rfl, ?_⟩) (by assumption) ?_
  rotate_left 1
  · (intro W hW; clear hW; go_simp; try with_reducible rfl)
  simp only [Act.put, List.getElem_toArray, List.getElem_cons_succ, List.getElem_cons_zero, List.setIfInBounds_toArray, List.set_cons_zero, List.set_cons_succ]
  refine wpAnyH_take (i := 2) (v := ?_) rfl (by kernel_rfl) (by kernel_rfl) (by kernel_rfl) (fun _ _ _ h => h) (Or.inl ⟨by rfl, ?_⟩) (by assumption) ?_
  rotate_left 1
  · (intro W hW; skip; go_simp; try with_reducible rfl)
  simp only [Act.put, List.getElem_toArray, List.getElem_cons_succ, List.getElem_cons_zero, List.setIfInBounds_toArray, List.set_cons_zero, List.set_cons_succ]
  refine wpAnyH_take (i := 3) (v := ?_) rfl (by kernel_rfl) (by kernel_rfl) (by kernel_rfl) (fun _ _ _ h => h) (Or.inl ⟨by rfl, ?_⟩) (by assumption) ?_
  rotate_left 1
  · (intro W hW; clear hW; go_simp; try with_reducible rfl)
  simp only [Act.put, List.getElem_toArray, List.getElem_cons_succ, List.getElem_cons_zero, List.setIfInBounds_toArray, List.set_cons_zero, List.set_cons_succ]
  refine wpAnyH_take (i := 4) (v := ?_) rfl (by kernel_rfl) (by kernel_rfl) (by kernel_rfl) (fun _ _ _ h => h) (Or.inl ⟨by rfl, ?_⟩) (by assumption) ?_
  rotate_left 1
  · (intro W hW; skip; go_simp; try with_reducible rfl)
  simp only [Act.put, List.getElem_toArray, List.getElem_cons_succ, List.getElem_cons_zero, List.setIfInBounds_toArray, List.set_cons_zero, List.set_cons_succ]
  refine wpAnyH_take (i := 7) (v := ?_) rfl (by kernel_rfl) (by kernel_rfl) (by kernel_rfl) (fun _ _ _ h => h) (Or.inl ⟨by rfl, ?_⟩) (by assumption) ?_
  rotate_left 1
  · (intro W hW; clear hW; go_simp; try with_reducible rfl)
  simp only [Act.put, List.getElem_toArray, List.getElem_cons_succ, List.getElem_cons_zero, List.setIfInBounds_toArray, List.set_cons_zero, List.set_cons_succ]
  refine wpAnyH_take (i := 8) (v := ?_) rfl (by kernel_rfl) (by kernel_rfl) (by kernel_rfl) (fun _ _ _ h => h) (Or.inl ⟨by rfl, ?_⟩) (by assumption) ?_
  rotate_left 1
  · (intro W hW; clear hW; go_simp; try with_reducible rfl)
  simp only [Act.put, List.getElem_toArray, List.getElem_cons_succ, List.getElem_cons_zero, List.setIfInBounds_toArray, List.set_cons_zero, List.set_cons_succ]
  refine wpAnyH_take (i := 9) (v := ?_) rfl (by kernel_rfl) (by kernel_rfl) (by kernel_rfl) (fun _ _ _ h => h) (Or.inl ⟨by rfl, ?_⟩) (by assumption) ?_
  rotate_left 1
  · (intro W hW; skip; go_simp; try with_reducible rfl)
  simp only [Act.put, List.getElem_toArray, List.getElem_cons_succ, List.getElem_cons_zero, List.setIfInBounds_toArray, List.set_cons_zero, List.set_cons_succ]
  refine wpAnyH_take (i := 10) (v := ?_) rfl (by kernel_rfl) (by kernel_rfl) (by kernel_rfl) (fun _ _ _ h => h) (Or.inl ⟨by rfl, ?_⟩) (by assumption) ?_
  rotate_left 1
  · (intro W hW; clear hW; go_simp; try with_reducible rfl)
  simp only [Act.put, List.getElem_toArray, List.getElem_cons_succ, List.getElem_cons_zero, List.setIfInBounds_toArray, List.set_cons_zero, List.set_cons_succ]
  refine wpAnyH_take (i := 11) (v := ?_) rfl (by kernel_rfl) (by kernel_rfl) (by kernel_rfl) (fun _ _ _ h => h) (Or.inl ⟨by rfl, ?_⟩) (by assumption) ?_
  rotate_left 1
  · (intro W hW; skip; go_simp; try with_reducible rfl)
  simp only [Act.put, List.getElem_toArray, List.getElem_cons_succ, List.getElem_cons_zero, List.setIfInBounds_toArray, List.set_cons_zero, List.set_cons_succ]
  refine wpAnyH_ready (rs := [5]) (by kernel_rfl) (by simp) ?_
  refine AllReadyH.cons rfl (fun K hK => ?_) AllReadyH.nil
  go_simp
  refine (prg_of HTQ.out HR.out (split_any HTQ.out.x d b who)).mono ?_
  rintro e w1 ⟨rfl, p1, hx1, ht1, hr1, ho1, hb1⟩
  have HX1 := Lib.hid hx1
  have HT1 := Lib.hid ht1
  have HR1 := Lib.hid hr1
  have HB1 := Lib.hid hb1
  have hk1 : Off Fa w0 w1 := hq.trans ho1 (fun b _ z => HF1.out b z)
  clear hx1 ht1 hr1 hb1 ho1
  go_wp2_with fail
  refine hK.out _ _ (hk1) (fun hHeld => ?_)
  clear hK K
  try simp only [Act.put, List.getElem_toArray, List.getElem_cons_succ, List.getElem_cons_zero, List.setIfInBounds_toArray, List.set_cons_zero, List.set_cons_succ]
  refine wpAnyH_ready (rs := [6]) (by kernel_rfl) (by simp) ?_
  refine AllReadyH.cons rfl (fun K hK => ?_) AllReadyH.nil
  go_simp
  refine (law5_num _ _).mono ?_
  rintro e wn ⟨rfl, rfl⟩
  go_wp2_with fail
  refine hK.out _ _ (hk1) (fun hHeld => ?_)
  clear hK K
  try simp only [Act.put, List.getElem_toArray, List.getElem_cons_succ, List.getElem_cons_zero, List.setIfInBounds_toArray, List.set_cons_zero, List.set_cons_succ]
  refine wpAnyH_ready (rs := [12]) (by kernel_rfl) (by simp) ?_
  refine AllReadyH.cons rfl (fun K hK => ?_) AllReadyH.nil
  go_simp
  refine (doc_of HR.out (two_split HTQ.out.x HR1.out d b who HX1.out (HT1.out.trans (by rw [HR.out])))).mono ?_
  rintro e w2 ⟨rfl, hv2, o2⟩
  have HV2 := Lib.hid hv2
  have HO2 := Lib.hid o2
  have hk2 : Off Fa w0 w2 := hk1.trans o2 (fun b _ z => by rw [z]; exact HF2.out)
  clear hv2 o2
  go_wp2_with fail
  refine hK.out _ _ (hk2) (fun hHeld => ?_)
  clear hK K
  try simp only [Act.put, List.getElem_toArray, List.getElem_cons_succ, List.getElem_cons_zero, List.setIfInBounds_toArray, List.set_cons_zero, List.set_cons_succ]
  refine wpAnyH_take (i := 13) (v := ?_) rfl (by kernel_rfl) (by kernel_rfl) (by kernel_rfl) (fun _ _ _ h => h) (Or.inl ⟨by rfl, ?_⟩) (by assumption) ?_
  rotate_left 1
  · (intro W hW; clear hW; go_simp; try with_reducible rfl)
  simp only [Act.put, List.getElem_toArray, List.getElem_cons_succ, List.getElem_cons_zero, List.setIfInBounds_toArray, List.set_cons_zero, List.set_cons_succ]
  refine wpAnyH_take (i := 14) (v := ?_) rfl (by kernel_rfl) (by kernel_rfl) (by kernel_rfl) (fun _ _ _ h => h) (Or.inl ⟨by rfl, ?_⟩) (by assumption) ?_
  rotate_left 1
  · (intro W hW; clear hW; go_simp; try with_reducible rfl)
  simp only [Act.put, List.getElem_toArray, List.getElem_cons_succ, List.getElem_cons_zero, List.setIfInBounds_toArray, List.set_cons_zero, List.set_cons_succ]
  refine wpAnyH_done (by kernel_rfl) ?_ _
  go_wp2_with fail
  go_ret
  obtain ⟨v2, hv2⟩ := HV2.out
  exact ⟨by simp, p1, v2, two_ref HX1.out HR1.out hv2 HO2.out HT1.out, by rw [← HFA.out]; exact (hs0.off _).trans hk2 (fun _ _ z => z), fun x hx => (HB1.out x hx).imp id (fun z => by have := hs0.size_; have := hq.size; omega)⟩
set_option maxRecDepth 100000 in
set_option maxHeartbeats 6400000 in
theorem one_merge {gx gr : Nat} {p : PT} {v : Value} {k : Int} {w : World} (h : Two gx p gr v k w) (K d b who : Int) (hK : K = 3) : Calls Try.prog 16 #[.pointer (some ⟨gx, 0, none⟩), .pointer (some ⟨gr, 0, none⟩), .agg #[.int .i64 K, .int .i64 d, .int .i64 b, .int .i64 who]] w (OneP gx p gr k w) := by
  subst hK
  obtain ⟨w0, hw0⟩ : ∃ w0, w0 = w.alloc (.cells #[.int .i64 3, .int .i64 d, .int .i64 b, .int .i64 who] 40) := ⟨_, rfl⟩
  have hs0 : Since w w0 := by rw [hw0]; exact (Since.refl w).alloc _
  have wh0 : Whole w0 w.heap.size 40 #[.int .i64 3, .int .i64 d, .int .i64 b, .int .i64 who] := by rw [hw0]; exact Whole.new w _ _
  have hT0 : Two gx p gr v k w0 := ⟨h.x.since hs0, h.r.since hs0⟩
  obtain ⟨Fa, hFa⟩ : ∃ Fa : Nat → Prop, Fa = fun b => b ∈ gx :: p.bl ∨ b = gr := ⟨_, rfl⟩
  have hnF : ¬ Fa w.heap.size := by
    rw [hFa]
    rintro (z | z)
    · have := h.x.lt _ z; omega
    · have := h.r.box.lt; omega
  have HF1 := Lib.hid (show ∀ b, b ∈ gx :: p.bl → Fa b by rw [hFa]; exact fun b z => .inl z)
  have HF2 := Lib.hid (show Fa gr by rw [hFa]; exact .inr rfl)
  have HFA := Lib.hid hFa
  have c0 := off_cell wh0 (F := Fa) hnF 0 _ rfl
  have c1 := off_cell wh0 (F := Fa) hnF 1 _ rfl
  have c2 := off_cell wh0 (F := Fa) hnF 2 _ rfl
  have c3 := off_cell wh0 (F := Fa) hnF 3 _ rfl
  have q0 := wh0.cell 0
  have HW := Lib.hid hw0
  clear hw0 wh0 hnF h hFa
  obtain ⟨⟨ER, LR⟩, hR⟩ : ∃ z, mergeT (p.tr.tiles 0 0) d b = z := ⟨_, rfl⟩
  have HR := Lib.hid hR
  clear hR
  go_enter Try.func16, Try.ntmps16
  go_wp2_with fail
  rw [← HW.out]
  go_upto_region 9 with fail
  have hod : Off Fa w0 w0.drew := (Off.refl _ w0).drew
  obtain ⟨wq, hwq⟩ : ∃ wq, wq = w0.drew := ⟨_, rfl⟩
  have htq : Two gx p gr v k wq := by rw [hwq]; exact ⟨hT0.x.since (Since.refl w0).drew, hT0.r.since (Since.refl w0).drew⟩
  have HTQ := Lib.hid htq
  refine wp_region_held_drew (S := fun W => Off Fa w0 W) (by kernel_rfl) hod (fun hHeld => ?_)
  rw [← hwq] at hHeld ⊢
  have hq : Off Fa w0 wq := hHeld
  clear hwq hod htq hT0
  refine wpAnyH_take (i := 0) (v := ?_) rfl (by kernel_rfl) (by kernel_rfl) (by kernel_rfl) (fun _ _ _ h => h) (Or.inl ⟨by rfl, ?_⟩) (by assumption) ?_
  rotate_left 1
  · (intro W hW; clear hW; go_simp; try with_reducible rfl)
  simp only [Act.put, List.getElem_toArray, List.getElem_cons_zero, List.setIfInBounds_toArray, List.set_cons_zero, List.set_cons_succ]
  refine wpAnyH_take (i := 1) (v := ?_) rfl (by kernel_rfl) (by kernel_rfl) (by kernel_rfl) (fun _ _ _ h => h) (Or.inl ⟨by rfl, ?_⟩) (by assumption) ?_
  rotate_left 1
  · (intro W hW; clear hW; go_simp; try with_reducible rfl)
  simp only [Act.put, List.getElem_toArray, List.getElem_cons_succ, List.getElem_cons_zero, List.setIfInBounds_toArray, List.set_cons_zero, List.set_cons_succ]
  refine wpAnyH_take (i := 2) (v := ?_) rfl (by kernel_rfl) (by kernel_rfl) (by kernel_rfl) (fun _ _ _ h => h) (Or.inl ⟨by rfl, ?_⟩) (by assumption) ?_
  rotate_left 1
  · (intro W hW; skip; go_simp; try with_reducible rfl)
  simp only [Act.put, List.getElem_toArray, List.getElem_cons_succ, List.getElem_cons_zero, List.setIfInBounds_toArray, List.set_cons_zero, List.set_cons_succ]
  refine wpAnyH_take (i := 5) (v := ?_) rfl (by kernel_rfl) (by kernel_rfl) (by kernel_rfl) (fun _ _ _ h => h) (Or.inl ⟨by rfl, ?_⟩) (by assumption) ?_
  rotate_left 1
  · (intro W hW; clear hW; go_simp; try with_reducible rfl)
  simp only [Act.put, List.getElem_toArray, List.getElem_cons_succ, List.getElem_cons_zero, List.setIfInBounds_toArray, List.set_cons_zero, List.set_cons_succ]
  refine wpAnyH_take (i := 6) (v := ?_) rfl (by kernel_rfl) (by kernel_rfl) (by kernel_rfl) (fun _ _ _ h => h) (Or.inl ⟨by rfl, ?_⟩) (by assumption) ?_
  rotate_left 1
  · (intro W hW; clear hW; go_simp; try with_reducible rfl)
  simp only [Act.put, List.getElem_toArray, List.getElem_cons_succ, List.getElem_cons_zero, List.setIfInBounds_toArray, List.set_cons_zero, List.set_cons_succ]
  refine wpAnyH_take (i := 7) (v := ?_) rfl (by kernel_rfl) (by kernel_rfl) (by kernel_rfl) (fun _ _ _ h => h) (Or.inl ⟨by rfl, ?_⟩) (by assumption) ?_
  rotate_left 1
  · (intro W hW; skip; go_simp; try with_reducible rfl)
  simp only [Act.put, List.getElem_toArray, List.getElem_cons_succ, List.getElem_cons_zero, List.setIfInBounds_toArray, List.set_cons_zero, List.set_cons_succ]
  refine wpAnyH_ready (rs := [3]) (by kernel_rfl) (by simp) ?_
  refine AllReadyH.cons rfl (fun K hK => ?_) AllReadyH.nil
  go_simp
  refine (prg_of HTQ.out HR.out (merge_any HTQ.out.x d b)).mono ?_
  rintro e w1 ⟨rfl, p1, hx1, ht1, hr1, ho1, hb1⟩
  have HX1 := Lib.hid hx1
  have HT1 := Lib.hid ht1
  have HR1 := Lib.hid hr1
  have HB1 := Lib.hid hb1
  have hk1 : Off Fa w0 w1 := hq.trans ho1 (fun b _ z => HF1.out b z)
  clear hx1 ht1 hr1 hb1 ho1
  go_wp2_with fail
  refine hK.out _ _ (hk1) (fun hHeld => ?_)
  clear hK K
  try simp only [Act.put, List.getElem_toArray, List.getElem_cons_succ, List.getElem_cons_zero, List.setIfInBounds_toArray, List.set_cons_zero, List.set_cons_succ]
  refine wpAnyH_ready (rs := [4]) (by kernel_rfl) (by simp) ?_
  refine AllReadyH.cons rfl (fun K hK => ?_) AllReadyH.nil
  go_simp
  refine (law5_num _ _).mono ?_
  rintro e wn ⟨rfl, rfl⟩
  go_wp2_with fail
  refine hK.out _ _ (hk1) (fun hHeld => ?_)
  clear hK K
  try simp only [Act.put, List.getElem_toArray, List.getElem_cons_succ, List.getElem_cons_zero, List.setIfInBounds_toArray, List.set_cons_zero, List.set_cons_succ]
  refine wpAnyH_ready (rs := [8]) (by kernel_rfl) (by simp) ?_
  refine AllReadyH.cons rfl (fun K hK => ?_) AllReadyH.nil
  go_simp
  refine (doc_of HR.out (two_merge HTQ.out.x HR1.out d b HX1.out (HT1.out.trans (by rw [HR.out])))).mono ?_
  rintro e w2 ⟨rfl, hv2, o2⟩
  have HV2 := Lib.hid hv2
  have HO2 := Lib.hid o2
  have hk2 : Off Fa w0 w2 := hk1.trans o2 (fun b _ z => by rw [z]; exact HF2.out)
  clear hv2 o2
  go_wp2_with fail
  refine hK.out _ _ (hk2) (fun hHeld => ?_)
  clear hK K
  try simp only [Act.put, List.getElem_toArray, List.getElem_cons_succ, List.getElem_cons_zero, List.setIfInBounds_toArray, List.set_cons_zero, List.set_cons_succ]
  refine wpAnyH_take (i := 9) (v := ?_) rfl (by kernel_rfl) (by kernel_rfl) (by kernel_rfl) (fun _ _ _ h => h) (Or.inl ⟨by rfl, ?_⟩) (by assumption) ?_
  rotate_left 1
  · (intro W hW; clear hW; go_simp; try with_reducible rfl)
  simp only [Act.put, List.getElem_toArray, List.getElem_cons_succ, List.getElem_cons_zero, List.setIfInBounds_toArray, List.set_cons_zero, List.set_cons_succ]
  refine wpAnyH_take (i := 10) (v := ?_) rfl (by kernel_rfl) (by kernel_rfl) (by kernel_rfl) (fun _ _ _ h => h) (Or.inl ⟨by rfl, ?_⟩) (by assumption) ?_
  rotate_left 1
  · (intro W hW; clear hW; go_simp; try with_reducible rfl)
  simp only [Act.put, List.getElem_toArray, List.getElem_cons_succ, List.getElem_cons_zero, List.setIfInBounds_toArray, List.set_cons_zero, List.set_cons_succ]
  refine wpAnyH_done (by kernel_rfl) ?_ _
  go_wp2_with fail
  go_ret
  obtain ⟨v2, hv2⟩ := HV2.out
  exact ⟨by simp, p1, v2, two_ref HX1.out HR1.out hv2 HO2.out HT1.out, by rw [← HFA.out]; exact (hs0.off _).trans hk2 (fun _ _ z => z), fun x hx => (HB1.out x hx).imp id (fun z => by have := hs0.size_; have := hq.size; omega)⟩
set_option maxRecDepth 100000 in
set_option maxHeartbeats 6400000 in
theorem one_give {gx gr : Nat} {p : PT} {v : Value} {k : Int} {w : World} (h : Two gx p gr v k w) (K d b who : Int) (hK : K = 4) : Calls Try.prog 16 #[.pointer (some ⟨gx, 0, none⟩), .pointer (some ⟨gr, 0, none⟩), .agg #[.int .i64 K, .int .i64 d, .int .i64 b, .int .i64 who]] w (OneP gx p gr k w) := by
  subst hK
  obtain ⟨w0, hw0⟩ : ∃ w0, w0 = w.alloc (.cells #[.int .i64 4, .int .i64 d, .int .i64 b, .int .i64 who] 40) := ⟨_, rfl⟩
  have hs0 : Since w w0 := by rw [hw0]; exact (Since.refl w).alloc _
  have wh0 : Whole w0 w.heap.size 40 #[.int .i64 4, .int .i64 d, .int .i64 b, .int .i64 who] := by rw [hw0]; exact Whole.new w _ _
  have hT0 : Two gx p gr v k w0 := ⟨h.x.since hs0, h.r.since hs0⟩
  obtain ⟨Fa, hFa⟩ : ∃ Fa : Nat → Prop, Fa = fun b => b ∈ gx :: p.bl ∨ b = gr := ⟨_, rfl⟩
  have hnF : ¬ Fa w.heap.size := by
    rw [hFa]
    rintro (z | z)
    · have := h.x.lt _ z; omega
    · have := h.r.box.lt; omega
  have HF1 := Lib.hid (show ∀ b, b ∈ gx :: p.bl → Fa b by rw [hFa]; exact fun b z => .inl z)
  have HF2 := Lib.hid (show Fa gr by rw [hFa]; exact .inr rfl)
  have HFA := Lib.hid hFa
  have c0 := off_cell wh0 (F := Fa) hnF 0 _ rfl
  have c1 := off_cell wh0 (F := Fa) hnF 1 _ rfl
  have c2 := off_cell wh0 (F := Fa) hnF 2 _ rfl
  have c3 := off_cell wh0 (F := Fa) hnF 3 _ rfl
  have q0 := wh0.cell 0
  have HW := Lib.hid hw0
  clear hw0 wh0 hnF h hFa
  obtain ⟨⟨ER, LR⟩, hR⟩ : ∃ z, giveT (p.tr.tiles 0 0) d b who = z := ⟨_, rfl⟩
  have HR := Lib.hid hR
  clear hR
  go_enter Try.func16, Try.ntmps16
  go_wp2_with fail
  rw [← HW.out]
  go_upto_region 11 with fail
  have hod : Off Fa w0 w0.drew := (Off.refl _ w0).drew
  obtain ⟨wq, hwq⟩ : ∃ wq, wq = w0.drew := ⟨_, rfl⟩
  have htq : Two gx p gr v k wq := by rw [hwq]; exact ⟨hT0.x.since (Since.refl w0).drew, hT0.r.since (Since.refl w0).drew⟩
  have HTQ := Lib.hid htq
  refine wp_region_held_drew (S := fun W => Off Fa w0 W) (by kernel_rfl) hod (fun hHeld => ?_)
  rw [← hwq] at hHeld ⊢
  have hq : Off Fa w0 wq := hHeld
  clear hwq hod htq hT0
  refine wpAnyH_take (i := 0) (v := ?_) rfl (by kernel_rfl) (by kernel_rfl) (by kernel_rfl) (fun _ _ _ h => h) (Or.inl ⟨by rfl, ?_⟩) (by assumption) ?_
  rotate_left 1
  · (intro W hW; clear hW; go_simp; try with_reducible rfl)
  simp only [Act.put, List.getElem_toArray, List.getElem_cons_zero, List.setIfInBounds_toArray, List.set_cons_zero, List.set_cons_succ]
  refine wpAnyH_take (i := 1) (v := ?_) rfl (by kernel_rfl) (by kernel_rfl) (by kernel_rfl) (fun _ _ _ h => h) (Or.inl ⟨by rfl, ?_⟩) (by assumption) ?_
  rotate_left 1
  · (intro W hW; clear hW; go_simp; try with_reducible rfl)
  simp only [Act.put, List.getElem_toArray, List.getElem_cons_succ, List.getElem_cons_zero, List.setIfInBounds_toArray, List.set_cons_zero, List.set_cons_succ]
  refine wpAnyH_take (i := 2) (v := ?_) rfl (by kernel_rfl) (by kernel_rfl) (by kernel_rfl) (fun _ _ _ h => h) (Or.inl ⟨by rfl, ?_⟩) (by assumption) ?_
  rotate_left 1
  · (intro W hW; skip; go_simp; try with_reducible rfl)
  simp only [Act.put, List.getElem_toArray, List.getElem_cons_succ, List.getElem_cons_zero, List.setIfInBounds_toArray, List.set_cons_zero, List.set_cons_succ]
  refine wpAnyH_take (i := 3) (v := ?_) rfl (by kernel_rfl) (by kernel_rfl) (by kernel_rfl) (fun _ _ _ h => h) (Or.inl ⟨by rfl, ?_⟩) (by assumption) ?_
  rotate_left 1
  · (intro W hW; clear hW; go_simp; try with_reducible rfl)
  simp only [Act.put, List.getElem_toArray, List.getElem_cons_succ, List.getElem_cons_zero, List.setIfInBounds_toArray, List.set_cons_zero, List.set_cons_succ]
  refine wpAnyH_take (i := 4) (v := ?_) rfl (by kernel_rfl) (by kernel_rfl) (by kernel_rfl) (fun _ _ _ h => h) (Or.inl ⟨by rfl, ?_⟩) (by assumption) ?_
  rotate_left 1
  · (intro W hW; skip; go_simp; try with_reducible rfl)
  simp only [Act.put, List.getElem_toArray, List.getElem_cons_succ, List.getElem_cons_zero, List.setIfInBounds_toArray, List.set_cons_zero, List.set_cons_succ]
  refine wpAnyH_take (i := 7) (v := ?_) rfl (by kernel_rfl) (by kernel_rfl) (by kernel_rfl) (fun _ _ _ h => h) (Or.inl ⟨by rfl, ?_⟩) (by assumption) ?_
  rotate_left 1
  · (intro W hW; clear hW; go_simp; try with_reducible rfl)
  simp only [Act.put, List.getElem_toArray, List.getElem_cons_succ, List.getElem_cons_zero, List.setIfInBounds_toArray, List.set_cons_zero, List.set_cons_succ]
  refine wpAnyH_take (i := 8) (v := ?_) rfl (by kernel_rfl) (by kernel_rfl) (by kernel_rfl) (fun _ _ _ h => h) (Or.inl ⟨by rfl, ?_⟩) (by assumption) ?_
  rotate_left 1
  · (intro W hW; clear hW; go_simp; try with_reducible rfl)
  simp only [Act.put, List.getElem_toArray, List.getElem_cons_succ, List.getElem_cons_zero, List.setIfInBounds_toArray, List.set_cons_zero, List.set_cons_succ]
  refine wpAnyH_take (i := 9) (v := ?_) rfl (by kernel_rfl) (by kernel_rfl) (by kernel_rfl) (fun _ _ _ h => h) (Or.inl ⟨by rfl, ?_⟩) (by assumption) ?_
  rotate_left 1
  · (intro W hW; skip; go_simp; try with_reducible rfl)
  simp only [Act.put, List.getElem_toArray, List.getElem_cons_succ, List.getElem_cons_zero, List.setIfInBounds_toArray, List.set_cons_zero, List.set_cons_succ]
  refine wpAnyH_take (i := 10) (v := ?_) rfl (by kernel_rfl) (by kernel_rfl) (by kernel_rfl) (fun _ _ _ h => h) (Or.inl ⟨by rfl, ?_⟩) (by assumption) ?_
  rotate_left 1
  · (intro W hW; clear hW; go_simp; try with_reducible rfl)
  simp only [Act.put, List.getElem_toArray, List.getElem_cons_succ, List.getElem_cons_zero, List.setIfInBounds_toArray, List.set_cons_zero, List.set_cons_succ]
  refine wpAnyH_take (i := 11) (v := ?_) rfl (by kernel_rfl) (by kernel_rfl) (by kernel_rfl) (fun _ _ _ h => h) (Or.inl ⟨by rfl, ?_⟩) (by assumption) ?_
  rotate_left 1
  · (intro W hW; skip; go_simp; try with_reducible rfl)
  simp only [Act.put, List.getElem_toArray, List.getElem_cons_succ, List.getElem_cons_zero, List.setIfInBounds_toArray, List.set_cons_zero, List.set_cons_succ]
  refine wpAnyH_ready (rs := [5]) (by kernel_rfl) (by simp) ?_
  refine AllReadyH.cons rfl (fun K hK => ?_) AllReadyH.nil
  go_simp
  refine (prg_of HTQ.out HR.out (give_any HTQ.out.x d b who)).mono ?_
  rintro e w1 ⟨rfl, p1, hx1, ht1, hr1, ho1, hb1⟩
  have HX1 := Lib.hid hx1
  have HT1 := Lib.hid ht1
  have HR1 := Lib.hid hr1
  have HB1 := Lib.hid hb1
  have hk1 : Off Fa w0 w1 := hq.trans ho1 (fun b _ z => HF1.out b z)
  clear hx1 ht1 hr1 hb1 ho1
  go_wp2_with fail
  refine hK.out _ _ (hk1) (fun hHeld => ?_)
  clear hK K
  try simp only [Act.put, List.getElem_toArray, List.getElem_cons_succ, List.getElem_cons_zero, List.setIfInBounds_toArray, List.set_cons_zero, List.set_cons_succ]
  refine wpAnyH_ready (rs := [6]) (by kernel_rfl) (by simp) ?_
  refine AllReadyH.cons rfl (fun K hK => ?_) AllReadyH.nil
  go_simp
  refine (law5_num _ _).mono ?_
  rintro e wn ⟨rfl, rfl⟩
  go_wp2_with fail
  refine hK.out _ _ (hk1) (fun hHeld => ?_)
  clear hK K
  try simp only [Act.put, List.getElem_toArray, List.getElem_cons_succ, List.getElem_cons_zero, List.setIfInBounds_toArray, List.set_cons_zero, List.set_cons_succ]
  refine wpAnyH_ready (rs := [12]) (by kernel_rfl) (by simp) ?_
  refine AllReadyH.cons rfl (fun K hK => ?_) AllReadyH.nil
  go_simp
  refine (doc_of HR.out (two_give HTQ.out.x HR1.out d b who)).mono ?_
  rintro e w2 ⟨rfl, hv2, o2⟩
  have HV2 := Lib.hid hv2
  have HO2 := Lib.hid o2
  have hk2 : Off Fa w0 w2 := hk1.trans o2 (fun b _ z => by rw [z]; exact HF2.out)
  clear hv2 o2
  go_wp2_with fail
  refine hK.out _ _ (hk2) (fun hHeld => ?_)
  clear hK K
  try simp only [Act.put, List.getElem_toArray, List.getElem_cons_succ, List.getElem_cons_zero, List.setIfInBounds_toArray, List.set_cons_zero, List.set_cons_succ]
  refine wpAnyH_take (i := 13) (v := ?_) rfl (by kernel_rfl) (by kernel_rfl) (by kernel_rfl) (fun _ _ _ h => h) (Or.inl ⟨by rfl, ?_⟩) (by assumption) ?_
  rotate_left 1
  · (intro W hW; clear hW; go_simp; try with_reducible rfl)
  simp only [Act.put, List.getElem_toArray, List.getElem_cons_succ, List.getElem_cons_zero, List.setIfInBounds_toArray, List.set_cons_zero, List.set_cons_succ]
  refine wpAnyH_take (i := 14) (v := ?_) rfl (by kernel_rfl) (by kernel_rfl) (by kernel_rfl) (fun _ _ _ h => h) (Or.inl ⟨by rfl, ?_⟩) (by assumption) ?_
  rotate_left 1
  · (intro W hW; clear hW; go_simp; try with_reducible rfl)
  simp only [Act.put, List.getElem_toArray, List.getElem_cons_succ, List.getElem_cons_zero, List.setIfInBounds_toArray, List.set_cons_zero, List.set_cons_succ]
  refine wpAnyH_done (by kernel_rfl) ?_ _
  go_wp2_with fail
  go_ret
  obtain ⟨v2, hv2⟩ := HV2.out
  exact ⟨by simp, p1, v2, two_ref HX1.out HR1.out hv2 HO2.out HT1.out, by rw [← HFA.out]; exact (hs0.off _).trans hk2 (fun _ _ z => z), fun x hx => (HB1.out x hx).imp id (fun z => by have := hs0.size_; have := hq.size; omega)⟩
set_option maxRecDepth 100000 in
set_option maxHeartbeats 6400000 in
theorem one_else {gx gr : Nat} {p : PT} {v : Value} {k : Int} {w : World} (h : Two gx p gr v k w) (K d b who : Int) (x0 : (K == 0) = false) (x1 : (K == 1) = false) (x2 : (K == 2) = false) (x3 : (K == 3) = false) (x4 : (K == 4) = false) : Calls Try.prog 16 #[.pointer (some ⟨gx, 0, none⟩), .pointer (some ⟨gr, 0, none⟩), .agg #[.int .i64 K, .int .i64 d, .int .i64 b, .int .i64 who]] w (OneP gx p gr k w) := by
  obtain ⟨w0, hw0⟩ : ∃ w0, w0 = w.alloc (.cells #[.int .i64 K, .int .i64 d, .int .i64 b, .int .i64 who] 40) := ⟨_, rfl⟩
  have hs0 : Since w w0 := by rw [hw0]; exact (Since.refl w).alloc _
  have wh0 : Whole w0 w.heap.size 40 #[.int .i64 K, .int .i64 d, .int .i64 b, .int .i64 who] := by rw [hw0]; exact Whole.new w _ _
  have hT0 : Two gx p gr v k w0 := ⟨h.x.since hs0, h.r.since hs0⟩
  obtain ⟨Fa, hFa⟩ : ∃ Fa : Nat → Prop, Fa = fun b => b ∈ gx :: p.bl ∨ b = gr := ⟨_, rfl⟩
  have hnF : ¬ Fa w.heap.size := by
    rw [hFa]
    rintro (z | z)
    · have := h.x.lt _ z; omega
    · have := h.r.box.lt; omega
  have HF1 := Lib.hid (show ∀ b, b ∈ gx :: p.bl → Fa b by rw [hFa]; exact fun b z => .inl z)
  have HF2 := Lib.hid (show Fa gr by rw [hFa]; exact .inr rfl)
  have HFA := Lib.hid hFa
  have c0 := off_cell wh0 (F := Fa) hnF 0 _ rfl
  have c1 := off_cell wh0 (F := Fa) hnF 1 _ rfl
  have c2 := off_cell wh0 (F := Fa) hnF 2 _ rfl
  have c3 := off_cell wh0 (F := Fa) hnF 3 _ rfl
  have q0 := wh0.cell 0
  have HW := Lib.hid hw0
  clear hw0 wh0 hnF h hFa
  have HT0 := Lib.hid hT0
  clear hT0
  go_enter Try.func16, Try.ntmps16
  go_wp2_with fail
  rw [← HW.out]
  go_wp2_with fail
  go_ret
  exact ⟨rfl, p, v, HT0.out, hs0.off _, fun x hx => .inl hx⟩
theorem one_any {gx gr : Nat} {p : PT} {v : Value} {k : Int} {w : World} (h : Two gx p gr v k w) (K d b who : Int) : Calls Try.prog 16 #[.pointer (some ⟨gx, 0, none⟩), .pointer (some ⟨gr, 0, none⟩), .agg #[.int .i64 K, .int .i64 d, .int .i64 b, .int .i64 who]] w (OneP gx p gr k w) := by
  by_cases e0 : K = 0
  · exact one_add h K d b who e0
  by_cases e1 : K = 1
  · exact one_drop h K d b who e1
  by_cases e2 : K = 2
  · exact one_split h K d b who e2
  by_cases e3 : K = 3
  · exact one_merge h K d b who e3
  by_cases e4 : K = 4
  · exact one_give h K d b who e4
  exact one_else h K d b who (beq_eq_false_iff_ne.2 e0) (beq_eq_false_iff_ne.2 e1) (beq_eq_false_iff_ne.2 e2) (beq_eq_false_iff_ne.2 e3) (beq_eq_false_iff_ne.2 e4)
end Go.Proofs.Ytgnhamhkpbadbaa
namespace Go.Proofs.Ytgnhamhkpbadbaa
open Go.RowKit
set_option linter.unusedVariables false
set_option linter.unusedSimpArgs false
theorem infoT7 : (Try.prog.info? 50).map (fun i => (i.zero, i.size, i.bytes)) = some (some (.agg #[.int .i64 0, .int .i64 0, .int .i64 0]), 3, 24) := by kernel_rfl
theorem back_all {k : Int} : ∀ (post pre : List Tl), (pre ++ post).Pairwise Tl.ltB → (∀ s ∈ pre ++ post, okP k s.d s.b = true) → (pre ++ post).length ≤ 64 → addAll k pre post = (0, pre ++ post)
  | [], pre, _, _, _ => by rw [List.append_nil]; rfl
  | t :: post, pre, hp, hf, hl => by
    have e : pre ++ t :: post = pre ++ [t] ++ post := by simp
    have hp2 := List.pairwise_append.1 hp
    have hlt : ∀ s ∈ pre, Tl.ltB s t := fun s hs => hp2.2.2 s hs t List.mem_cons_self
    have ha : addT k pre t = (0, pre ++ [t]) := by
      unfold addT
      rw [if_pos (hf t (by simp)), if_neg, if_neg (by simp at hl; omega)]
      · have z := ins_mid (pre := pre) (post := []) (t := t) (fun s hs => (hlt s hs).1) (fun s hs => absurd hs (by simp))
        rw [List.append_nil, List.append_nil] at z
        rw [z]
      · intro z
        obtain ⟨s, hs, hm⟩ := List.any_eq_true.1 z
        rw [(hlt s hs).2] at hm
        exact absurd hm (by decide)
    rw [addAll_cons, ha, if_pos rfl, e]
    exact back_all post (pre ++ [t]) (e ▸ hp) (fun s hs => hf s (by rw [e]; exact hs)) (by rw [← e]; exact hl)
theorem TilO.back {g : Nat} {p : PT} {k : Int} {W : World} (h : TilO g p k W) : newT k (p.tr.tiles 0 0) = (0, p.tr.tiles 0 0) := by
  unfold newT
  rw [if_pos h.right]
  refine back_all (p.tr.tiles 0 0) [] h.pair (fun s hs => ?_) h.most
  have h1 := h.fine s hs
  have h2 := (fine_iff _ _).1 h1.1
  have h3 := h.k32
  exact (okP_iff _ _ _).2 ⟨h3.1, h3.2.1, h2.1, h1.2, h2.2.2.1, h2.2.2.2⟩
set_option maxRecDepth 100000 in
set_option maxHeartbeats 3200000 in
theorem own_any {B : Nat} {v : Value} {L : List Tl} (w : World) (hL : LentE encT 3 B w v L) (hB : B ≤ w.heap.size) (hlen : L.length ≤ 900) : Calls Try.prog 10 #[v] w fun e W' => ∃ a, e = .returned a ∧ RowE encT 3 W' w.heap.size 50 a L ∧ Since w W' := by
  obtain ⟨va, cap, rfl, hform⟩ := hL
  go_enter Try.func10, Try.ntmps10
  go_wp2_with fail
  go_loopw [3, 4] (fun out i wr => ∃ m : Nat, i = .int .i64 m ∧ m ≤ L.length ∧ RowE encT 3 wr w.heap.size 50 out (L.take m) ∧ Since w wr) (fun _ i _ => L.length - (intOf i).toNat)
  case atStart => exact ⟨0, rfl, Nat.zero_le _, RowE.nil _ _ _, Since.refl w⟩
  case round =>
    obtain ⟨m, rfl, hml, hrow, hs⟩ := hrel
    have hwrap : wrap64 ((m : Int) + 1) = ((m + 1 : Nat) : Int) := IntWalk.wrap64_in _ ⟨by omega, by omega⟩
    by_cases hlt : m < L.length
    rotate_left
    · have d1 : decide ((m : Int) < L.length) = false := decide_eq_false (by omega)
      have hr := hrow
      rw [List.take_of_length_le (by omega)] at hr
      have HRW := Lib.hid hr
      clear hr hrow
      go_wp2_with fail
      go_ret
      exact ⟨_, rfl, HRW.out, hs⟩
    · have d1 : decide ((m : Int) < L.length) = true := decide_eq_true (by omega)
      have hlt' : (m : Int) < L.length := by omega
      obtain ⟨g, go, rfl, hg, hcc⟩ : ∃ g go, va = some ⟨g, go, none⟩ ∧ g < B ∧ ∀ j u, (encT L[m])[j]? = some u → w.cell? ⟨g, go + m * 3 + j, none⟩ = some u := by
        rcases hform with z | ⟨g, go, h1, h2, h3⟩
        · omega
        · exact ⟨g, go, h1, h2, h3 m hlt⟩
      obtain ⟨⟨td, tb, tw⟩, ht⟩ : ∃ t, t = L[m] := ⟨_, rfl⟩
      have htk : L.take (m + 1) = L.take m ++ [⟨td, tb, tw⟩] := by rw [ht, List.take_succ_eq_append_getElem hlt]
      rw [← ht] at hcc
      have hcl : ∀ W, Since w W → W.cell? ⟨g, go + m * 3, none⟩ = some (.int .i64 td) ∧ W.cell? ⟨g, go + m * 3 + 1, none⟩ = some (.int .i64 tb) ∧ W.cell? ⟨g, go + m * 3 + 2, none⟩ = some (.int .i64 tw) := fun W hW => by
        have e : ∀ j, W.cell? ⟨g, j, none⟩ = w.cell? ⟨g, j, none⟩ := fun j => World.cell?_of_block (hW.block g (Nat.lt_of_lt_of_le hg hB))
        exact ⟨(e _).trans (hcc 0 _ rfl), (e _).trans (hcc 1 _ rfl), (e _).trans (hcc 2 _ rfl)⟩
      have k0 := fun W hW => (hcl W hW).1
      have k1 := fun W hW => (hcl W hW).2.1
      have k2 := fun W hW => (hcl W hW).2.2
      have HTK := Lib.hid htk
      have hll : (L.take m).length ≤ 900 := by rw [List.length_take]; omega
      obtain ⟨l, hl⟩ : ∃ l, L.take m = l := ⟨_, rfl⟩
      rw [hl] at hrow hll htk
      have HTK := Lib.hid htk
      clear hcl hcc ht htk hl hform
      go_upto_region 5 with fail
      obtain ⟨wq, hwq⟩ : ∃ wq, wq = wr.drew := ⟨_, rfl⟩
      have hq : Since wr wq := by rw [hwq]; exact (Since.refl wr).drew
      refine wp_region_held_drew (S := fun W => Since w W) (by kernel_rfl) hs.drew (fun hHeld => ?_)
      rw [← hwq] at hHeld ⊢
      clear hwq
      refine wpAnyH_take (i := 0) (v := ?_) rfl (by kernel_rfl) (by kernel_rfl) (by kernel_rfl) (fun _ _ _ h => h) (Or.inl ⟨by rfl, ?_⟩) (by assumption) ?_
      rotate_left 1
      · (intro W hW; clear hW; go_simp; try with_reducible rfl)
      simp only [Act.put, List.getElem_toArray, List.getElem_cons_zero, List.setIfInBounds_toArray, List.set_cons_zero, List.set_cons_succ]
      refine wpAnyH_take (i := 1) (v := ?_) rfl (by kernel_rfl) (by kernel_rfl) (by kernel_rfl) (fun _ _ _ h => h) (Or.inl ⟨by rfl, ?_⟩) (by assumption) ?_
      rotate_left 1
      · (intro W hW; clear hW; go_simp; try with_reducible rfl)
      simp only [Act.put, List.getElem_toArray, List.getElem_cons_succ, List.getElem_cons_zero, List.setIfInBounds_toArray, List.set_cons_zero, List.set_cons_succ]
      refine wpAnyH_take (i := 2) (v := ?_) rfl (by kernel_rfl) (by kernel_rfl) (by kernel_rfl) (fun _ _ _ h => h) (Or.inl ⟨by rfl, ?_⟩) (by assumption) ?_
      rotate_left 1
      · (intro W hW; clear hW; go_simp; try with_reducible rfl)
      simp only [Act.put, List.getElem_toArray, List.getElem_cons_succ, List.getElem_cons_zero, List.setIfInBounds_toArray, List.set_cons_zero, List.set_cons_succ]
      refine wpAnyH_take (i := 3) (v := ?_) rfl (by kernel_rfl) (by kernel_rfl) (by kernel_rfl) (fun _ _ _ h => h) (Or.inl ⟨by rfl, ?_⟩) (by assumption) ?_
      rotate_left 1
      · (intro W hW; clear hW; go_simp; try with_reducible rfl)
      simp only [Act.put, List.getElem_toArray, List.getElem_cons_succ, List.getElem_cons_zero, List.setIfInBounds_toArray, List.set_cons_zero, List.set_cons_succ]
      refine wpAnyH_take (i := 4) (v := ?_) rfl (by kernel_rfl) (by kernel_rfl) (by kernel_rfl) (fun _ _ _ h => h) (Or.inl ⟨by rfl, ?_⟩) (by assumption) ?_
      rotate_left 1
      · (intro W hW; clear hW; go_simp; try with_reducible rfl)
      simp only [Act.put, List.getElem_toArray, List.getElem_cons_succ, List.getElem_cons_zero, List.setIfInBounds_toArray, List.set_cons_zero, List.set_cons_succ]
      refine wpAnyH_take (i := 5) (v := ?_) rfl (by kernel_rfl) (by kernel_rfl) (by kernel_rfl) (fun _ _ _ h => h) (Or.inl ⟨by rfl, ?_⟩) (by assumption) ?_
      rotate_left 1
      · (intro W hW; skip; go_simp; try with_reducible rfl)
      simp only [Act.put, List.getElem_toArray, List.getElem_cons_succ, List.getElem_cons_zero, List.setIfInBounds_toArray, List.set_cons_zero, List.set_cons_succ]
      refine wpAnyH_take (i := 6) (v := ?_) rfl (by kernel_rfl) (by kernel_rfl) (by kernel_rfl) (fun _ _ _ h => h) (Or.inl ⟨by rfl, ?_⟩) (by assumption) ?_
      rotate_left 1
      · (intro W hW; clear hW; go_simp; try with_reducible rfl)
      simp only [Act.put, List.getElem_toArray, List.getElem_cons_succ, List.getElem_cons_zero, List.setIfInBounds_toArray, List.set_cons_zero, List.set_cons_succ]
      refine wpAnyH_take (i := 7) (v := ?_) rfl (by kernel_rfl) (by kernel_rfl) (by kernel_rfl) (fun _ _ _ h => h) (Or.inl ⟨by rfl, ?_⟩) (by assumption) ?_
      rotate_left 1
      · (intro W hW; clear hW; go_simp; try with_reducible rfl)
      simp only [Act.put, List.getElem_toArray, List.getElem_cons_succ, List.getElem_cons_zero, List.setIfInBounds_toArray, List.set_cons_zero, List.set_cons_succ]
      refine wpAnyH_take (i := 8) (v := ?_) rfl (by kernel_rfl) (by kernel_rfl) (by kernel_rfl) (fun _ _ _ h => h) (Or.inl ⟨by rfl, ?_⟩) (by assumption) ?_
      rotate_left 1
      · (intro W hW; clear hW; go_simp; try with_reducible rfl)
      simp only [Act.put, List.getElem_toArray, List.getElem_cons_succ, List.getElem_cons_zero, List.setIfInBounds_toArray, List.set_cons_zero, List.set_cons_succ]
      refine wpAnyH_take (i := 9) (v := ?_) rfl (by kernel_rfl) (by kernel_rfl) (by kernel_rfl) (fun _ _ _ h => h) (Or.inl ⟨by rfl, ?_⟩) (by assumption) ?_
      rotate_left 1
      · (intro W hW; clear hW; go_simp; try with_reducible rfl)
      simp only [Act.put, List.getElem_toArray, List.getElem_cons_succ, List.getElem_cons_zero, List.setIfInBounds_toArray, List.set_cons_zero, List.set_cons_succ]
      refine wpAnyH_take (i := 10) (v := ?_) rfl (by kernel_rfl) (by kernel_rfl) (by kernel_rfl) (fun _ _ _ h => h) (Or.inl ⟨by rfl, ?_⟩) (by assumption) ?_
      rotate_left 1
      · (intro W hW; skip; go_simp; try with_reducible rfl)
      simp only [Act.put, List.getElem_toArray, List.getElem_cons_succ, List.getElem_cons_zero, List.setIfInBounds_toArray, List.set_cons_zero, List.set_cons_succ]
      refine wpAnyH_take (i := 11) (v := ?_) rfl (by kernel_rfl) (by kernel_rfl) (by kernel_rfl) (fun _ _ _ h => h) (Or.inl ⟨by rfl, ?_⟩) (by assumption) ?_
      rotate_left 1
      · (intro W hW; clear hW; go_simp; try with_reducible rfl)
      simp only [Act.put, List.getElem_toArray, List.getElem_cons_succ, List.getElem_cons_zero, List.setIfInBounds_toArray, List.set_cons_zero, List.set_cons_succ]
      refine wpAnyH_ready (rs := [12]) (by kernel_rfl) (by simp) ?_
      refine AllReadyH.cons rfl (fun K hK => ?_) AllReadyH.nil
      go_simp
      skip
      refine hK.out _ _ ((hs.trans hq).alloc _) (fun hHeld => ?_)
      clear hK K
      try simp only [Act.put, List.getElem_toArray, List.getElem_cons_succ, List.getElem_cons_zero, List.setIfInBounds_toArray, List.set_cons_zero, List.set_cons_succ]
      refine wpAnyH_ready (rs := [13]) (by kernel_rfl) (by simp) ?_
      refine AllReadyH.cons rfl (fun K hK => ?_) AllReadyH.nil
      refine step_append_val rfl (.tmp 11) (.tmp 23) 33 rfl w.heap.size 50 _ 24 Try.underlying33 infoT7 rfl (by decide) (hrow.since (hq.alloc _)) (PartE.one (r := ⟨td, tb, tw⟩) (Whole.new wq _ _)) encT_len encT_one rfl rfl (by simp; omega) (by decide) (by have := hs.size_; have := hq.size_; simp; omega) ?_
      intro v3 w3 hrow3 hoff3
      have hs3 : Since w w3 := hoff3.since_of ((hs.trans hq).alloc _) (fun x hx => (hrow.own x hx).1)
      refine hK.out _ _ (hs3) (fun hHeld => ?_)
      clear hK K
      try simp only [Act.put, List.getElem_toArray, List.getElem_cons_succ, List.getElem_cons_zero, List.setIfInBounds_toArray, List.set_cons_zero, List.set_cons_succ]
      refine wpAnyH_take (i := 14) (v := ?_) rfl (by kernel_rfl) (by kernel_rfl) (by kernel_rfl) (fun _ _ _ h => h) (Or.inl ⟨by rfl, ?_⟩) (by assumption) ?_
      rotate_left 1
      · (intro W hW; clear hW; go_simp; try with_reducible rfl)
      simp only [Act.put, List.getElem_toArray, List.getElem_cons_succ, List.getElem_cons_zero, List.setIfInBounds_toArray, List.set_cons_zero, List.set_cons_succ]
      refine wpAnyH_done (by kernel_rfl) ?_ _
      go_wp2_with fail
      go_roundw
      case rel => exact ⟨m + 1, by go_num, by omega, by rw [HTK.out]; exact hrow3, hs3⟩
      case measure => simp [intOf]; omega
theorem new_again {g : Nat} {p : PT} {k : Int} {W0 : World} (h : TilO g p k W0) {v : Value} (w : World) (hL : ListE encT 3 w.heap.size w v (p.tr.tiles 0 0)) : Calls Try.prog 9 #[.int .i64 k, v] w fun e W' => ∃ g' p', e = .returned (.tuple #[.pointer (some ⟨g', 0, none⟩), .int .i64 0]) ∧ TilO g' p' k W' ∧ p'.tr.tiles 0 0 = p.tr.tiles 0 0 ∧ (∀ x ∈ g' :: p'.bl, w.heap.size ≤ x) ∧ Since w W' := by
  have hn := tnew_any (k := k) w hL (Nat.le_refl _) (by have := h.most; omega)
  rw [h.back] at hn
  refine hn.mono fun e W' z => ?_
  rcases z with ⟨_, g', p', h1, h2, h3, h4, h5⟩ | ⟨z, _⟩
  · exact ⟨g', p', h1, h2, h3, h4, h5⟩
  · exact absurd rfl z
set_option maxRecDepth 100000 in
set_option maxHeartbeats 3200000 in
theorem clone_any {g : Nat} {p : PT} {k : Int} {w : World} (h : TilO g p k w) : Calls Try.prog 13 #[.pointer (some ⟨g, 0, none⟩)] w fun e W' => ∃ g' p', e = .returned (.pointer (some ⟨g', 0, none⟩)) ∧ TilO g' p' k W' ∧ p'.tr.tiles 0 0 = p.tr.tiles 0 0 ∧ (∀ x ∈ g' :: p'.bl, w.heap.size ≤ x) ∧ Since w W' := by
  have hbx := box_cell h.box 0 (.int .i64 k) rfl
  have H := Lib.hid h
  have HM := Lib.hid (fun W (hW : Since w W) => made_yes (h.since hW))
  have HLI := Lib.hid (fun W (hW : Since w W) => tilP.list (show TilObj (fun b => b ∈ g :: p.bl) W (.pointer (some ⟨g, 0, none⟩)) k p.tr from ⟨g, p, rfl, h.since hW, rfl, fun _ => Iff.rfl⟩))
  clear h
  go_enter Try.func13, Try.ntmps13
  go_wp2_with (go_at_call 49; (with_reducible refine (HM.out _ (Since.refl w)).mono ?_); rintro e w1 ⟨rfl, hb1⟩)
  obtain ⟨wq, hwq⟩ : ∃ wq, wq = w1.drew := ⟨_, rfl⟩
  refine wp_region_held_drew (S := fun W => Since w W) (by kernel_rfl) (Since.drew hb1) (fun hHeld => ?_)
  rw [← hwq] at hHeld ⊢
  have hq : Since w wq := hHeld
  clear hwq
  refine wpAnyH_take (i := 0) (v := ?_) rfl (by kernel_rfl) (by kernel_rfl) (by kernel_rfl) (fun _ _ _ h => h) (Or.inl ⟨by rfl, ?_⟩) (by assumption) ?_
  rotate_left 1
  · (intro W hW; clear hW; go_simp; try with_reducible rfl)
  simp only [Act.put, List.getElem_toArray, List.getElem_cons_zero, List.setIfInBounds_toArray, List.set_cons_zero, List.set_cons_succ]
  refine wpAnyH_take (i := 1) (v := ?_) rfl (by kernel_rfl) (by kernel_rfl) (by kernel_rfl) (fun _ _ _ h => h) (Or.inl ⟨by rfl, ?_⟩) (by assumption) ?_
  rotate_left 1
  · (intro W hW; clear hW; go_simp; try with_reducible rfl)
  simp only [Act.put, List.getElem_toArray, List.getElem_cons_succ, List.getElem_cons_zero, List.setIfInBounds_toArray, List.set_cons_zero, List.set_cons_succ]
  refine wpAnyH_take (i := 2) (v := ?_) rfl (by kernel_rfl) (by kernel_rfl) (by kernel_rfl) (fun _ _ _ h => h) (Or.inl ⟨by rfl, ?_⟩) (by assumption) ?_
  rotate_left 1
  · (intro W hW; clear hW; go_simp; try with_reducible rfl)
  simp only [Act.put, List.getElem_toArray, List.getElem_cons_succ, List.getElem_cons_zero, List.setIfInBounds_toArray, List.set_cons_zero, List.set_cons_succ]
  refine wpAnyH_take (i := 3) (v := ?_) rfl (by kernel_rfl) (by kernel_rfl) (by kernel_rfl) (fun _ _ _ h => h) (Or.inl ⟨by rfl, ?_⟩) (by assumption) ?_
  rotate_left 1
  · (intro W hW; clear hW; go_simp; try with_reducible rfl)
  simp only [Act.put, List.getElem_toArray, List.getElem_cons_succ, List.getElem_cons_zero, List.setIfInBounds_toArray, List.set_cons_zero, List.set_cons_succ]
  refine wpAnyH_take (i := 4) (v := ?_) rfl (by kernel_rfl) (by kernel_rfl) (by kernel_rfl) (fun _ _ _ h => h) (Or.inl ⟨by rfl, ?_⟩) (by assumption) ?_
  rotate_left 1
  · (intro W hW; skip; go_simp; try with_reducible rfl)
  simp only [Act.put, List.getElem_toArray, List.getElem_cons_succ, List.getElem_cons_zero, List.setIfInBounds_toArray, List.set_cons_zero, List.set_cons_succ]
  refine wpAnyH_take (i := 5) (v := ?_) rfl (by kernel_rfl) (by kernel_rfl) (by kernel_rfl) (fun _ _ _ h => h) (Or.inl ⟨by rfl, ?_⟩) (by assumption) ?_
  rotate_left 1
  · (intro W hW; clear hW; go_simp; try with_reducible rfl)
  simp only [Act.put, List.getElem_toArray, List.getElem_cons_succ, List.getElem_cons_zero, List.setIfInBounds_toArray, List.set_cons_zero, List.set_cons_succ]
  refine wpAnyH_ready (rs := [6]) (by kernel_rfl) (by simp) ?_
  refine AllReadyH.cons rfl (fun K hK => ?_) AllReadyH.nil
  go_simp
  refine (HLI.out _ hq).mono ?_
  rintro e w2 ⟨a2, rfl, row2, hb2⟩
  have hs2 : Since w w2 := hq.trans hb2
  go_wp2_with fail
  refine hK.out _ _ (hs2) (fun hHeld => ?_)
  clear hK K
  try simp only [Act.put, List.getElem_toArray, List.getElem_cons_succ, List.getElem_cons_zero, List.setIfInBounds_toArray, List.set_cons_zero, List.set_cons_succ]
  refine wpAnyH_ready (rs := [7]) (by kernel_rfl) (by simp) ?_
  refine AllReadyH.cons rfl (fun K hK => ?_) AllReadyH.nil
  go_simp
  refine (new_again H.out w2 (row2.list encT_len)).mono ?_
  rintro e w3 ⟨g', p', rfl, hx', ht', hbl', hb3⟩
  have hs3 : Since w w3 := hs2.trans hb3
  go_wp2_with fail
  refine hK.out _ _ (hs3) (fun hHeld => ?_)
  clear hK K
  try simp only [Act.put, List.getElem_toArray, List.getElem_cons_succ, List.getElem_cons_zero, List.setIfInBounds_toArray, List.set_cons_zero, List.set_cons_succ]
  refine wpAnyH_take (i := 8) (v := ?_) rfl (by kernel_rfl) (by kernel_rfl) (by kernel_rfl) (fun _ _ _ h => h) (Or.inl ⟨by rfl, ?_⟩) (by assumption) ?_
  rotate_left 1
  · (intro W hW; clear hW; go_simp; try with_reducible rfl)
  simp only [Act.put, List.getElem_toArray, List.getElem_cons_succ, List.getElem_cons_zero, List.setIfInBounds_toArray, List.set_cons_zero, List.set_cons_succ]
  refine wpAnyH_take (i := 9) (v := ?_) rfl (by kernel_rfl) (by kernel_rfl) (by kernel_rfl) (fun _ _ _ h => h) (Or.inl ⟨by rfl, ?_⟩) (by assumption) ?_
  rotate_left 1
  · (intro W hW; clear hW; go_simp; try with_reducible rfl)
  simp only [Act.put, List.getElem_toArray, List.getElem_cons_succ, List.getElem_cons_zero, List.setIfInBounds_toArray, List.set_cons_zero, List.set_cons_succ]
  refine wpAnyH_take (i := 10) (v := ?_) rfl (by kernel_rfl) (by kernel_rfl) (by kernel_rfl) (fun _ _ _ h => h) (Or.inl ⟨by rfl, ?_⟩) (by assumption) ?_
  rotate_left 1
  · (intro W hW; clear hW; go_simp; try with_reducible rfl)
  simp only [Act.put, List.getElem_toArray, List.getElem_cons_succ, List.getElem_cons_zero, List.setIfInBounds_toArray, List.set_cons_zero, List.set_cons_succ]
  refine wpAnyH_take (i := 11) (v := ?_) rfl (by kernel_rfl) (by kernel_rfl) (by kernel_rfl) (fun _ _ _ h => h) (Or.inl ⟨by rfl, ?_⟩) (by assumption) ?_
  rotate_left 1
  · (intro W hW; clear hW; go_simp; try with_reducible rfl)
  simp only [Act.put, List.getElem_toArray, List.getElem_cons_succ, List.getElem_cons_zero, List.setIfInBounds_toArray, List.set_cons_zero, List.set_cons_succ]
  refine wpAnyH_take (i := 12) (v := ?_) rfl (by kernel_rfl) (by kernel_rfl) (by kernel_rfl) (fun _ _ _ h => h) (Or.inl ⟨by rfl, ?_⟩) (by assumption) ?_
  rotate_left 1
  · (intro W hW; clear hW; go_simp; try with_reducible rfl)
  simp only [Act.put, List.getElem_toArray, List.getElem_cons_succ, List.getElem_cons_zero, List.setIfInBounds_toArray, List.set_cons_zero, List.set_cons_succ]
  refine wpAnyH_done (by kernel_rfl) ?_ _
  go_wp2_with fail
  go_ret
  exact ⟨g', p', rfl, hx', ht', fun x hx => Nat.le_trans hs2.size_ (hbl' x hx), hs3⟩
end Go.Proofs.Ytgnhamhkpbadbaa
