/- What no tile covers, path by path, as the document tells it. Pure. gleberef03: Parent, Bit, Last, Sibling of paths that may be. gleberef03: Last, Sibling of paths that may be. The document's tilings: Deepest. The document's tilings: Merge. The document's tilings: Gaps. -/
import Derived.Test.YtgnhamhkpbadbaaGDeepR
import Derived.Test.YtgnhamhkpbadbaaMRefC
import Derived.Deep.Cut
import Derived.Deep.CutRange
import Derived.Test.YtgnhamhkpbadbaaMRefA
import Derived.Test.YtgnhamhkpbadbaaGDeep
import Derived.Test.YtgnhamhkpbadbaaMRefD
namespace Go.Proofs.Ytgnhamhkpbadbaa
set_option linter.unusedSimpArgs false
/-- The gaps below a path; n: how many halves more there may be. -/
def gapsG (L : List Tl) : Nat → Int → Int → List (Int × Int)
  | 0, d, b => if (L.any fun s => abvB s.d s.b d b) = true then [] else [(d, b)]
  | n + 1, d, b => if (L.any fun s => abvB s.d s.b d b) = true then [] else if (L.any fun s => metB s.d s.b d b) = true then gapsG L n (d + 1) (2 * b) ++ gapsG L n (d + 1) (2 * b + 1) else [(d, b)]
theorem count_half {d b : Int} (hf : fine d b = true) (hd : d < 32) : ∀ L : List Tl, L.countP (fun s => abvB (d + 1) (2 * b) s.d s.b) + L.countP (fun s => abvB (d + 1) (2 * b + 1) s.d s.b) ≤ L.countP (fun s => abvB d b s.d s.b)
  | [] => by simp
  | x :: L => by
    have ih := count_half hf hd L
    rw [List.countP_cons, List.countP_cons, List.countP_cons]
    cases h0 : abvB (d + 1) (2 * b) x.d x.b
    · cases h1 : abvB (d + 1) (2 * b + 1) x.d x.b
      · simp only [Bool.false_eq_true, if_false]; omega
      · have := abv_trans (abv_r hf hd) h1
        rw [this]; simp only [Bool.false_eq_true, if_false, if_true]; omega
    · have hh := abv_trans (abv_l hf hd) h0
      rw [hh]
      cases h1 : abvB (d + 1) (2 * b + 1) x.d x.b
      · simp only [Bool.false_eq_true, if_false, if_true]; omega
      · have e0 := ((abvB_iff _ _ _ _).1 h0).2.2.2
        have e1 := ((abvB_iff _ _ _ _).1 h1).2.2.2
        omega
theorem gapsG_len (L : List Tl) : ∀ (n : Nat) (d b : Int), fine d b = true → d + n ≤ 32 → (gapsG L n d b).length ≤ L.countP (fun s => abvB d b s.d s.b) * n + 1
  | 0, d, b, _, _ => by unfold gapsG; split <;> simp
  | n + 1, d, b, hf, hn => by
    unfold gapsG
    split
    · simp
    · next h1 =>
      split
      · next h2 =>
        have hd : d < 32 := by omega
        have i0 := gapsG_len L n (d + 1) (2 * b) (fine_l hf hd) (by omega)
        have i1 := gapsG_len L n (d + 1) (2 * b + 1) (fine_r hf hd) (by omega)
        have hc := count_half hf hd L
        obtain ⟨s, hs, hm⟩ := List.any_eq_true.1 h2
        have hb : abvB d b s.d s.b = true := by
          unfold metB at hm
          rw [Bool.or_eq_true] at hm
          rcases hm with hm | hm
          · exact absurd (List.any_eq_true.2 ⟨s, hs, hm⟩) h1
          · exact hm
        have hp : 0 < L.countP (fun s => abvB d b s.d s.b) := List.countP_pos_iff.2 ⟨s, hs, hb⟩
        rw [List.length_append]
        generalize L.countP (fun s => abvB d b s.d s.b) = c at *
        generalize L.countP (fun s => abvB (d + 1) (2 * b) s.d s.b) = c0 at *
        generalize L.countP (fun s => abvB (d + 1) (2 * b + 1) s.d s.b) = c1 at *
        have e1 : (c0 + c1) * n ≤ c * n := Nat.mul_le_mul_right n hc
        rw [Nat.add_mul] at e1
        rw [Nat.mul_add, Nat.mul_one]
        omega
      · simp
/-- Below a path that has this tree the document's gaps are the tree's. -/
theorem gaps_eq (L : List Tl) : ∀ (t : Tr) (d b : Int) (n : Nat) (pre post : List Tl), fine d b = true → d + t.high ≤ 32 → t.high ≤ n → L = pre ++ t.tiles d b ++ post → (∀ x ∈ pre ++ post, metB x.d x.b d b = false) → gapsG L n d b = t.gaps d b := by
  have hany : ∀ {f : Tl → Bool} {pre mid post : List Tl}, (∀ x ∈ pre ++ post, f x = false) → (pre ++ mid ++ post).any f = mid.any f := by
    intro f pre mid post h
    have h1 : pre.any f = false := List.any_eq_false.2 (fun x hx => by rw [h x (List.mem_append_left _ hx)]; exact Bool.false_ne_true)
    have h2 : post.any f = false := List.any_eq_false.2 (fun x hx => by rw [h x (List.mem_append_right _ hx)]; exact Bool.false_ne_true)
    rw [List.any_append, List.any_append, h1, h2, Bool.false_or, Bool.or_false]
  have habv : ∀ {d b : Int} {x : Tl}, metB x.d x.b d b = false → abvB x.d x.b d b = false := by
    intro d b x h
    unfold metB at h
    rw [Bool.or_eq_false_iff] at h
    exact h.1
  have hno : ∀ (n : Nat) (d b : Int), (L.any fun s => abvB s.d s.b d b) = false → (L.any fun s => metB s.d s.b d b) = false → gapsG L n d b = [(d, b)] := by
    intro n d b h1 h2
    cases n <;> (unfold gapsG; rw [h1]; simp [h2])
  intro t
  induction t with
  | gap =>
    intro d b n pre post hf hh hn hL hout
    refine hno n d b ?_ ?_
    · rw [hL, hany (fun x hx => habv (hout x hx))]; rfl
    · rw [hL, hany hout]; rfl
  | leaf w =>
    intro d b n pre post hf hh hn hL hout
    have h1 : (L.any fun s => abvB s.d s.b d b) = true := by
      rw [hL, hany (fun x hx => habv (hout x hx))]
      simp [Tr.tiles, abv_self hf]
    cases n <;> (unfold gapsG; rw [h1]; rfl)
  | node l r ihl ihr =>
    intro d b n pre post hf hh hn hL hout
    have hd : d < 32 := by simp only [Tr.high] at hh; omega
    have hl32 : d + 1 + l.high ≤ 32 := by simp only [Tr.high] at hh; omega
    have hr32 : d + 1 + r.high ≤ 32 := by simp only [Tr.high] at hh; omega
    have hbel : ∀ s ∈ (Tr.node l r).tiles d b, abvB d b s.d s.b = true ∧ d < s.d := by
      intro s hs
      simp only [Tr.tiles, List.mem_append] at hs
      rcases hs with hs | hs
      · have z := (Tr.tiles_abv l (d + 1) (2 * b) (fine_l hf hd) hl32 s hs).1
        exact ⟨abv_trans (abv_l hf hd) z, by have := ((abvB_iff _ _ _ _).1 z).2.2.1; omega⟩
      · have z := (Tr.tiles_abv r (d + 1) (2 * b + 1) (fine_r hf hd) hr32 s hs).1
        exact ⟨abv_trans (abv_r hf hd) z, by have := ((abvB_iff _ _ _ _).1 z).2.2.1; omega⟩
    have h1 : (L.any fun s => abvB s.d s.b d b) = false := by
      rw [hL, hany (fun x hx => habv (hout x hx))]
      refine List.any_eq_false.2 (fun s hs z => ?_)
      have := ((abvB_iff _ _ _ _).1 z).2.2.1
      have := (hbel s hs).2
      omega
    have h2 : (L.any fun s => metB s.d s.b d b) = ((Tr.node l r).tiles d b).any (fun s => metB s.d s.b d b) := by rw [hL, hany hout]
    cases hbr : (l.bare && r.bare)
    · have hne : (Tr.node l r).tiles d b ≠ [] := by
        intro z
        have := (Tr.bare_tiles (Tr.node l r) d b).2 z
        simp only [Tr.bare] at this
        rw [hbr] at this
        exact absurd this (by decide)
      obtain ⟨s, hs⟩ := List.exists_mem_of_ne_nil _ hne
      have h3 : (L.any fun s => metB s.d s.b d b) = true := by
        rw [h2]
        exact List.any_eq_true.2 ⟨s, hs, by unfold metB; rw [(hbel s hs).1, Bool.or_true]⟩
      obtain ⟨m, rfl⟩ : ∃ m, n = m + 1 := ⟨n - 1, by simp only [Tr.high] at hn; omega⟩
      have hln : l.high ≤ m := by simp only [Tr.high] at hn; omega
      have hrn : r.high ≤ m := by simp only [Tr.high] at hn; omega
      have hL' : L = pre ++ (l.tiles (d + 1) (2 * b) ++ r.tiles (d + 1) (2 * b + 1)) ++ post := hL
      have e0 := ihl (d + 1) (2 * b) m pre (r.tiles (d + 1) (2 * b + 1) ++ post) (fine_l hf hd) hl32 hln (by rw [hL']; simp) (by
        intro x hx
        simp only [List.mem_append] at hx
        rcases hx with hx | hx | hx
        · cases z : metB x.d x.b (d + 1) (2 * b) with
          | false => rfl
          | true => have := hout x (by simp [hx]); rw [met_half (.inl rfl) hf hd z] at this; exact absurd this (by decide)
        · have z := (Tr.tiles_abv r (d + 1) (2 * b + 1) (fine_r hf hd) hr32 x hx).1
          have y := (halves_apart hf hd (abv_self (fine_l hf hd)) z).2
          rw [metB_comm]; exact y
        · cases z : metB x.d x.b (d + 1) (2 * b) with
          | false => rfl
          | true => have := hout x (by simp [hx]); rw [met_half (.inl rfl) hf hd z] at this; exact absurd this (by decide))
      have e1 := ihr (d + 1) (2 * b + 1) m (pre ++ l.tiles (d + 1) (2 * b)) post (fine_r hf hd) hr32 hrn (by rw [hL']; simp) (by
        intro x hx
        simp only [List.mem_append] at hx
        rcases hx with (hx | hx) | hx
        · cases z : metB x.d x.b (d + 1) (2 * b + 1) with
          | false => rfl
          | true => have := hout x (by simp [hx]); rw [met_half (.inr rfl) hf hd z] at this; exact absurd this (by decide)
        · have z := (Tr.tiles_abv l (d + 1) (2 * b) (fine_l hf hd) hl32 x hx).1
          exact (halves_apart hf hd z (abv_self (fine_r hf hd))).2
        · cases z : metB x.d x.b (d + 1) (2 * b + 1) with
          | false => rfl
          | true => have := hout x (by simp [hx]); rw [met_half (.inr rfl) hf hd z] at this; exact absurd this (by decide))
      unfold gapsG
      rw [h1, h3, e0, e1]
      show _ = if l.bare && r.bare then _ else _
      rw [hbr]
      simp
    · have h3 : (L.any fun s => metB s.d s.b d b) = false := by
        rw [h2, (Tr.bare_tiles (Tr.node l r) d b).1 (by simp only [Tr.bare]; exact hbr)]
        rfl
      rw [hno n d b h1 h3]
      show _ = if l.bare && r.bare then _ else _
      rw [hbr]; rfl
end Go.Proofs.Ytgnhamhkpbadbaa
namespace Go.Proofs.Ytgnhamhkpbadbaa
open Go.RowKit
set_option linter.unusedVariables false
set_option linter.unusedSimpArgs false
theorem pv_up {d b : Int} (h0 : 0 < d) : pv d b (d - 1) = b / 2 := by rw [pv_half (by omega), show d - 1 + 1 = d by omega, pv_all]
theorem fine_up {d b : Int} (hf : fine d b = true) (h0 : 0 < d) : fine (d - 1) (b / 2) = true := by
  have h := pv_fine (m := d - 1) hf (by omega) (by omega)
  rw [pv_up h0] at h
  exact h
theorem bit_last {d b : Int} (hf : fine d b = true) (h0 : 0 < d) : bitI d b (d - 1) = b % 2 := by
  rw [bitI_yes hf (by omega) (by omega), show d - 1 + 1 = d by omega, pv_all]
theorem parent_of {d b D V : Int} (hf : fine d b = true) (h0 : 0 < d) (e1 : d - 1 = D) (e2 : b / 2 = V) (W : World) : Calls Try.prog 107 #[.string ((txt d b).extract 0 D.toNat)] W fun e w' => e = .returned (.agg #[.int .i64 D, .int .i64 V]) ∧ Below W.heap.size W w' := by
  have hfi := (fine_iff d b).1 hf
  have hfp := fine_up hf h0
  have hcut : (txt d b).extract 0 D.toNat = txt D V := by rw [← e1, txt_cut hf (by omega), pv_up h0, e2]
  rw [e1, e2] at hfp
  have hdg := digT_digs hfp D.toNat (by omega)
  rw [hcut]
  refine refOf_at W (by rw [txt_list]; exact hdg.1) (by rw [txt_size]; omega) (by rw [txt_size]; omega) ?_
  rw [txt_list, hdg.2, show ((D.toNat : Nat) : Int) = D by omega]
  exact pv_all D V
set_option maxRecDepth 100000 in
set_option maxHeartbeats 1600000 in
theorem refParent_yes (d b : Int) (w : World) (hf : fine d b = true) (h0 : 0 < d) : Calls Try.prog 66 #[.agg #[.int .i64 d, .int .i64 b]] w fun e w' => e = .returned (.tuple #[.agg #[.int .i64 (d - 1), .int .i64 (b / 2)], .bool true]) ∧ Below w.heap.size w w' := by
  obtain ⟨w0, hw0⟩ : ∃ w0, w0 = (w.alloc (.cells #[.int .i64 d, .int .i64 b] 27)).alloc (.cells #[.int .i64 0, .int .i64 0] 27) := ⟨_, rfl⟩
  have hs0 : Since w w0 := by rw [hw0]; exact ((Since.refl w).alloc _).alloc _
  have wh0 : Whole w0 (w.heap.size) 27 #[.int .i64 d, .int .i64 b] := by rw [hw0]; exact (Whole.new w _ _).alloc _
  have wh1 : Whole w0 (w.heap.size + 1) 27 #[.int .i64 0, .int .i64 0] := by rw [hw0]; exact (Whole.new (w.alloc _) _ _).at_ (by simp)
  have HW := Lib.hid hw0
  have c0_0 := box_cell wh0 0 (.int .i64 d) rfl
  have c0_1 := box_cell wh0 1 (.int .i64 b) rfl
  have c1_0 := box_cell wh1 0 (.int .i64 0) rfl
  have f1_0 := box_free wh1 0
  have c1_1 := box_cell wh1 1 (.int .i64 0) rfl
  have f1_1 := box_free wh1 1
  have hsr := Since.refl w0
  have hsd := hsr.drew
  clear hw0
  have hfi := (fine_iff d b).1 hf
  obtain ⟨D, hD⟩ : ∃ D, d - 1 = D := ⟨_, rfl⟩
  obtain ⟨V, hV⟩ : ∃ V, b / 2 = V := ⟨_, rfl⟩
  have HOF := Lib.hid (fun W => parent_of hf h0 hD hV W)
  have HF := Lib.hid (fun W => refFine_at hf W)
  have HH := Lib.hid (fun W => refHalves_at hf rfl W)
  have hsz := txt_size d b
  have hd0 : (d == 0) = false := by simp; omega
  have w1 : IntKind.i64.wrap (d - 1) = D := (IntWalk.i64_in _ (by omega)).trans hD
  have w2 : wrap64 (d - 1) = D := (IntWalk.wrap64_in _ ⟨by omega, by omega⟩).trans hD
  have i0 : (0 : Int) ≤ D := by omega
  have i1 : D ≤ ((txt d b).size : Int) := by rw [hsz]; omega
  rw [hD, hV]
  obtain ⟨tx, htx⟩ : ∃ tx, txt d b = tx := ⟨_, rfl⟩
  rw [htx] at HOF HH i1
  clear hf h0 hfi hD hV hsz htx
  go_enter Try.func66, Try.ntmps66
  go_wp2_with fail
  rw [← HW.out]
  go_wp2_with (go_at_call 111; (with_reducible refine (Calls.since (by assumption) (HF.out _)).mono ?_); rintro e wr ⟨rfl, hbr⟩)
  have hne : w.heap.size ≠ w.heap.size + 1 := by omega
  have b0 := but_cell (Since.whole hbr wh0) (g := w.heap.size + 1) hne 0 (.int .i64 d) rfl
  have b1 := but_cell (Since.whole hbr wh0) (g := w.heap.size + 1) hne 1 (.int .i64 b) rfl
  clear hne c0_0 c0_1 c1_0 c1_1 f1_0 f1_1 hsr hsd
  obtain ⟨wq, hwq⟩ : ∃ wq, wq = wr.drew := ⟨_, rfl⟩
  have hrd : Since wr wr.drew := (Since.refl wr).drew
  refine wp_region_held_drew (S := fun W => But (w.heap.size + 1) wr W) (by kernel_rfl) (Since.but hrd _) (fun hHeld => ?_)
  rw [← hwq] at hHeld hrd ⊢
  have hq : Since wr wq := hrd
  clear hwq hrd
  refine wpAnyH_take (i := 0) (v := ?_) rfl (by kernel_rfl) (by kernel_rfl) (by kernel_rfl) (fun _ _ _ h => h) (Or.inl ⟨by rfl, ?_⟩) (by assumption) ?_
  rotate_left 1
  · (intro W hW; skip; go_simp; try with_reducible rfl)
  simp only [Act.put, List.getElem_toArray, List.getElem_cons_zero, List.setIfInBounds_toArray, List.set_cons_zero, List.set_cons_succ]
  refine wpAnyH_take (i := 2) (v := ?_) rfl (by kernel_rfl) (by kernel_rfl) (by kernel_rfl) (fun _ _ _ h => h) (Or.inl ⟨by rfl, ?_⟩) (by assumption) ?_
  rotate_left 1
  · (intro W hW; clear hW; go_simp; try with_reducible rfl)
  simp only [Act.put, List.getElem_toArray, List.getElem_cons_succ, List.getElem_cons_zero, List.setIfInBounds_toArray, List.set_cons_zero, List.set_cons_succ]
  refine wpAnyH_take (i := 3) (v := ?_) rfl (by kernel_rfl) (by kernel_rfl) (by kernel_rfl) (fun _ _ _ h => h) (Or.inl ⟨by rfl, ?_⟩) (by assumption) ?_
  rotate_left 1
  · (intro W hW; skip; go_simp; try with_reducible rfl)
  simp only [Act.put, List.getElem_toArray, List.getElem_cons_succ, List.getElem_cons_zero, List.setIfInBounds_toArray, List.set_cons_zero, List.set_cons_succ]
  refine wpAnyH_take (i := 4) (v := ?_) rfl (by kernel_rfl) (by kernel_rfl) (by kernel_rfl) (fun _ _ _ h => h) (Or.inl ⟨by rfl, ?_⟩) (by assumption) ?_
  rotate_left 1
  · (intro W hW; clear hW; go_simp; try with_reducible rfl)
  simp only [Act.put, List.getElem_toArray, List.getElem_cons_succ, List.getElem_cons_zero, List.setIfInBounds_toArray, List.set_cons_zero, List.set_cons_succ]
  refine wpAnyH_ready (rs := [1]) (by kernel_rfl) (by simp) ?_
  refine AllReadyH.cons rfl (fun K hK => ?_) AllReadyH.nil
  go_simp
  refine (Calls.since hq (HH.out _)).mono ?_
  rintro e w2 ⟨rfl, hb2⟩
  go_wp2_with fail
  refine hK.out _ _ (Since.but hb2 _) (fun hHeld => ?_)
  clear hK K
  try simp only [Act.put, List.getElem_toArray, List.getElem_cons_succ, List.getElem_cons_zero, List.setIfInBounds_toArray, List.set_cons_zero, List.set_cons_succ]
  refine wpAnyH_take (i := 5) (v := ?_) rfl (by kernel_rfl) (by kernel_rfl) (by kernel_rfl) (fun _ _ _ h => h) (Or.inl ⟨by rfl, ?_⟩) (by assumption) ?_
  rotate_left 1
  · (intro W hW; clear hW; go_simp; try with_reducible rfl)
  simp only [Act.put, List.getElem_toArray, List.getElem_cons_succ, List.getElem_cons_zero, List.setIfInBounds_toArray, List.set_cons_zero, List.set_cons_succ]
  refine wpAnyH_ready (rs := [6]) (by kernel_rfl) (by simp) ?_
  refine AllReadyH.cons rfl (fun K hK => ?_) AllReadyH.nil
  go_simp
  refine (Calls.since hb2 (HOF.out _)).mono ?_
  rintro e w4 ⟨rfl, hb4⟩
  have hw4 := Since.whole (hbr.trans hb4) wh1
  have x0 := hw4.cell 0
  have x1 := hw4.cell 1
  have y0 := hw4.frozen 0
  have y1 := hw4.frozen 1
  go_wp2_with fail
  refine hK.out _ _ (Since.but hb4 _) (fun hHeld => ?_)
  clear hK K
  try simp only [Act.put, List.getElem_toArray, List.getElem_cons_succ, List.getElem_cons_zero, List.setIfInBounds_toArray, List.set_cons_zero, List.set_cons_succ]
  refine wpAnyH_ready (rs := [7]) (by kernel_rfl) (by simp) ?_
  refine AllReadyH.cons rfl (fun K hK => ?_) AllReadyH.nil
  go_simp
  skip
  refine hK.out _ _ (But.set2 hb4 _ _ _ _) (fun hHeld => ?_)
  clear hK K
  try simp only [Act.put, List.getElem_toArray, List.getElem_cons_succ, List.getElem_cons_zero, List.setIfInBounds_toArray, List.set_cons_zero, List.set_cons_succ]
  refine wpAnyH_take (i := 8) (v := ?_) rfl (by kernel_rfl) (by kernel_rfl) (by kernel_rfl) (fun _ _ _ h => h) (Or.inl ⟨by rfl, ?_⟩) (by assumption) ?_
  rotate_left 1
  · (intro W hW; clear hW; go_simp; try with_reducible rfl)
  simp only [Act.put, List.getElem_toArray, List.getElem_cons_succ, List.getElem_cons_zero, List.setIfInBounds_toArray, List.set_cons_zero, List.set_cons_succ]
  refine wpAnyH_done (by kernel_rfl) ?_ _
  go_wp2_with fail
  have u := (hw4.set_ 0 (.int .i64 D)).set_ 1 (.int .i64 V)
  have u0 := u.cell 0
  have u1 := u.cell 1
  exact bodyPost_ret (v := .tuple #[.agg #[.int .i64 D, .int .i64 V], .bool true]) (by simp [results, Try.results66, go_sem, u0, u1]) rfl ⟨rfl, Below.setCell (Below.setCell (hs0.trans (hbr.trans hb4)) (by simp) _) (by simp) _⟩
set_option maxRecDepth 100000 in
set_option maxHeartbeats 1600000 in
theorem refParent_top (b : Int) (w : World) (hf : fine 0 b = true) : Calls Try.prog 66 #[.agg #[.int .i64 0, .int .i64 b]] w fun e w' => e = .returned (.tuple #[.agg #[.int .i64 0, .int .i64 0], .bool false]) ∧ Below w.heap.size w w' := by
  obtain ⟨w0, hw0⟩ : ∃ w0, w0 = (w.alloc (.cells #[.int .i64 0, .int .i64 b] 27)).alloc (.cells #[.int .i64 0, .int .i64 0] 27) := ⟨_, rfl⟩
  have hs0 : Since w w0 := by rw [hw0]; exact ((Since.refl w).alloc _).alloc _
  have wh0 : Whole w0 (w.heap.size) 27 #[.int .i64 0, .int .i64 b] := by rw [hw0]; exact (Whole.new w _ _).alloc _
  have wh1 : Whole w0 (w.heap.size + 1) 27 #[.int .i64 0, .int .i64 0] := by rw [hw0]; exact (Whole.new (w.alloc _) _ _).at_ (by simp)
  have HW := Lib.hid hw0
  have c0_0 := box_cell wh0 0 (.int .i64 0) rfl
  have c0_1 := box_cell wh0 1 (.int .i64 b) rfl
  have c1_0 := box_cell wh1 0 (.int .i64 0) rfl
  have f1_0 := box_free wh1 0
  have c1_1 := box_cell wh1 1 (.int .i64 0) rfl
  have f1_1 := box_free wh1 1
  have hsr := Since.refl w0
  have hsd := hsr.drew
  clear hw0
  have HF := Lib.hid (fun W => refFine_at hf W)
  clear hf
  go_enter Try.func66, Try.ntmps66
  go_wp2_with fail
  rw [← HW.out]
  go_wp2_with (go_at_call 111; (with_reducible refine (Calls.since (by assumption) (HF.out _)).mono ?_); rintro e wr ⟨rfl, hbr⟩; have hw5 := Since.whole hbr wh1; have x0 := hw5.cell 0; have x1 := hw5.cell 1; have y0 := hw5.frozen 0; have y1 := hw5.frozen 1)
  have u := (hw5.set_ 0 (.int .i64 0)).set_ 1 (.int .i64 0)
  have u0 := u.cell 0
  have u1 := u.cell 1
  exact bodyPost_ret (v := .tuple #[.agg #[.int .i64 0, .int .i64 0], .bool false]) (by simp [results, Try.results66, go_sem, u0, u1]) rfl ⟨rfl, Below.setCell (Below.setCell (hs0.trans hbr) (by simp) _) (by simp) _⟩
set_option maxRecDepth 100000 in
set_option maxHeartbeats 1600000 in
theorem refBit_no (d b i : Int) (w : World) (hf : fine d b = true) (hi : i < 0) : Calls Try.prog 110 #[.agg #[.int .i64 d, .int .i64 b], .int .i64 i] w fun e w' => e = .returned (.int .i64 (-1)) ∧ Below w.heap.size w w' := by
  obtain ⟨w0, hw0⟩ : ∃ w0, w0 = w.alloc (.cells #[.int .i64 d, .int .i64 b] 27) := ⟨_, rfl⟩
  have hs0 : Since w w0 := by rw [hw0]; exact (Since.refl w).alloc _
  have wh0 : Whole w0 (w.heap.size) 27 #[.int .i64 d, .int .i64 b] := by rw [hw0]; exact Whole.new w _ _
  have HW := Lib.hid hw0
  have c0_0 := box_cell wh0 0 (.int .i64 d) rfl
  have c0_1 := box_cell wh0 1 (.int .i64 b) rfl
  have hsr := Since.refl w0
  have hsd := hsr.drew
  clear hw0 wh0
  have HF := Lib.hid (fun W => refFine_at hf W)
  have d1 : decide (i < 0) = true := decide_eq_true hi
  clear hf hi
  go_enter Try.func110, Try.ntmps110
  go_wp2_with fail
  rw [← HW.out]
  go_wp2_with (go_at_call 111; (with_reducible refine (Calls.since (by assumption) (HF.out _)).mono ?_); rintro e wr ⟨rfl, hbr⟩)
  go_ret
  exact ⟨rfl, hs0.trans hbr⟩
set_option maxRecDepth 100000 in
set_option maxHeartbeats 1600000 in
theorem refBit_last (d b : Int) (w : World) (hf : fine d b = true) (h0 : 0 < d) : Calls Try.prog 110 #[.agg #[.int .i64 d, .int .i64 b], .int .i64 (d - 1)] w fun e w' => e = .returned (.int .i64 (b % 2)) ∧ Below w.heap.size w w' := by
  obtain ⟨w0, hw0⟩ : ∃ w0, w0 = w.alloc (.cells #[.int .i64 d, .int .i64 b] 27) := ⟨_, rfl⟩
  have hs0 : Since w w0 := by rw [hw0]; exact (Since.refl w).alloc _
  have wh0 : Whole w0 (w.heap.size) 27 #[.int .i64 d, .int .i64 b] := by rw [hw0]; exact Whole.new w _ _
  have HW := Lib.hid hw0
  have c0_0 := box_cell wh0 0 (.int .i64 d) rfl
  have c0_1 := box_cell wh0 1 (.int .i64 b) rfl
  have hsr := Since.refl w0
  have hsd := hsr.drew
  clear hw0 wh0
  have HF := Lib.hid (fun W => refFine_at hf W)
  obtain ⟨n, hn⟩ : ∃ n : Nat, d - 1 = (n : Int) := ⟨(d - 1).toNat, by omega⟩
  obtain ⟨T, hT⟩ : ∃ T, txt d b = T := ⟨_, rfl⟩
  have HH := Lib.hid (fun W => refHalves_at hf hT W)
  have hsz : T.size = d.toNat := by rw [← hT]; exact txt_size d b
  have gs : ∀ hn : n < T.size, ((T[n]'hn).toNat : Int) = 48 + b % 2 := by
    intro h
    have z := txt_get hf n (by rw [hT]; exact h)
    rw [← hn, bit_last hf h0] at z
    subst hT
    exact z
  have d1 : decide (d - 1 < 0) = false := decide_eq_false (by omega)
  have d2 : decide (d ≤ d - 1) = false := decide_eq_false (by omega)
  rw [hn] at d1 d2 ⊢
  have i1 : n < T.size := by omega
  have i2 : (n : Int) < T.size := by omega
  have g1 := gs i1
  obtain ⟨c, hc⟩ : ∃ c, 48 + b % 2 = c := ⟨_, rfl⟩
  rw [hc] at g1
  obtain ⟨V, hV⟩ : ∃ V, b % 2 = V := ⟨_, rfl⟩
  rw [hV] at hc ⊢
  have hV2 : 0 ≤ V ∧ V ≤ 1 := by omega
  have w1 : IntKind.u8.wrap (c - 48) = V := by rcases (show V = 0 ∨ V = 1 by omega) with rfl | rfl <;> (obtain rfl := hc.symm; decide)
  have w2 : IntKind.i64.wrap V = V := IntWalk.i64_in _ (by omega)
  have w3 : wrap64 V = V := IntWalk.wrap64_in _ ⟨by omega, by omega⟩
  clear hf h0 hT hsz gs hn hc hV hV2
  go_enter Try.func110, Try.ntmps110
  go_wp2_with fail
  rw [← HW.out]
  go_wp2_with (first | (go_at_call 111; (with_reducible refine (Calls.since (by assumption) (HF.out _)).mono ?_); rintro e wr ⟨rfl, hbr⟩) | (go_at_call 112; (with_reducible refine (Calls.since (by assumption) (HH.out _)).mono ?_); rintro e wh ⟨rfl, hbh⟩))
  go_ret
  exact ⟨by first | rfl | exact ret_int (by simp [w1, w2, w3]), hs0.trans hbh⟩
end Go.Proofs.Ytgnhamhkpbadbaa
namespace Go.Proofs.Ytgnhamhkpbadbaa
open Go.RowKit
set_option linter.unusedVariables false
set_option linter.unusedSimpArgs false
/-- The other half's bits. -/
def sibB (b : Int) : Int := 2 * (b / 2) + (1 - b % 2)
set_option maxRecDepth 100000 in
set_option maxHeartbeats 1600000 in
theorem refLast_yes (d b : Int) (w : World) (hf : fine d b = true) (h0 : 0 < d) : Calls Try.prog 64 #[.agg #[.int .i64 d, .int .i64 b]] w fun e w' => e = .returned (.int .i64 (b % 2)) ∧ Below w.heap.size w w' := by
  obtain ⟨w0, hw0⟩ : ∃ w0, w0 = w.alloc (.cells #[.int .i64 d, .int .i64 b] 27) := ⟨_, rfl⟩
  have hs0 : Since w w0 := by rw [hw0]; exact (Since.refl w).alloc _
  have wh0 : Whole w0 (w.heap.size) 27 #[.int .i64 d, .int .i64 b] := by rw [hw0]; exact Whole.new w _ _
  have HW := Lib.hid hw0
  have c0_0 := box_cell wh0 0 (.int .i64 d) rfl
  have c0_1 := box_cell wh0 1 (.int .i64 b) rfl
  have hsr := Since.refl w0
  have hsd := hsr.drew
  clear hw0 wh0
  have hfi := (fine_iff d b).1 hf
  obtain ⟨D, hD⟩ : ∃ D, d - 1 = D := ⟨_, rfl⟩
  have w1 : IntKind.i64.wrap (d - 1) = D := (IntWalk.i64_in _ (by omega)).trans hD
  have w2 : wrap64 (d - 1) = D := (IntWalk.wrap64_in _ ⟨by omega, by omega⟩).trans hD
  have HB := Lib.hid (fun W => hD ▸ refBit_last d b W hf h0)
  clear hf h0 hfi hD
  go_enter Try.func64, Try.ntmps64
  go_wp2_with fail
  rw [← HW.out]
  go_wp2_with (go_at_call 110; (with_reducible refine (Calls.since (by assumption) (HB.out _)).mono ?_); rintro e wr ⟨rfl, hbr⟩)
  go_ret
  exact ⟨rfl, hs0.trans hbr⟩
set_option maxRecDepth 100000 in
set_option maxHeartbeats 1600000 in
theorem refLast_top (b : Int) (w : World) (hf : fine 0 b = true) : Calls Try.prog 64 #[.agg #[.int .i64 0, .int .i64 b]] w fun e w' => e = .returned (.int .i64 (-1)) ∧ Below w.heap.size w w' := by
  obtain ⟨w0, hw0⟩ : ∃ w0, w0 = w.alloc (.cells #[.int .i64 0, .int .i64 b] 27) := ⟨_, rfl⟩
  have hs0 : Since w w0 := by rw [hw0]; exact (Since.refl w).alloc _
  have wh0 : Whole w0 (w.heap.size) 27 #[.int .i64 0, .int .i64 b] := by rw [hw0]; exact Whole.new w _ _
  have HW := Lib.hid hw0
  have c0_0 := box_cell wh0 0 (.int .i64 0) rfl
  have c0_1 := box_cell wh0 1 (.int .i64 b) rfl
  have hsr := Since.refl w0
  have hsd := hsr.drew
  clear hw0 wh0
  have HB := Lib.hid (fun W => refBit_no 0 b (-1) W hf (by decide))
  have w1 : IntKind.i64.wrap (-1) = -1 := by decide
  clear hf
  go_enter Try.func64, Try.ntmps64
  go_wp2_with fail
  rw [← HW.out]
  go_wp2_with (go_at_call 110; (with_reducible refine (Calls.since (by assumption) (HB.out _)).mono ?_); rintro e wr ⟨rfl, hbr⟩)
  go_ret
  exact ⟨rfl, hs0.trans hbr⟩
set_option maxRecDepth 100000 in
set_option maxHeartbeats 1600000 in
theorem refSib_top (b : Int) (w : World) (hf : fine 0 b = true) : Calls Try.prog 63 #[.agg #[.int .i64 0, .int .i64 b]] w fun e w' => e = .returned (.tuple #[.agg #[.int .i64 0, .int .i64 0], .bool false]) ∧ Below w.heap.size w w' := by
  obtain ⟨w0, hw0⟩ : ∃ w0, w0 = (w.alloc (.cells #[.int .i64 0, .int .i64 b] 27)).alloc (.cells #[.int .i64 0, .int .i64 0] 27) := ⟨_, rfl⟩
  have hs0 : Since w w0 := by rw [hw0]; exact ((Since.refl w).alloc _).alloc _
  have wh0 : Whole w0 (w.heap.size) 27 #[.int .i64 0, .int .i64 b] := by rw [hw0]; exact (Whole.new w _ _).alloc _
  have wh1 : Whole w0 (w.heap.size + 1) 27 #[.int .i64 0, .int .i64 0] := by rw [hw0]; exact (Whole.new (w.alloc _) _ _).at_ (by simp)
  have HW := Lib.hid hw0
  have c0_0 := box_cell wh0 0 (.int .i64 0) rfl
  have c0_1 := box_cell wh0 1 (.int .i64 b) rfl
  have c1_0 := box_cell wh1 0 (.int .i64 0) rfl
  have f1_0 := box_free wh1 0
  have c1_1 := box_cell wh1 1 (.int .i64 0) rfl
  have f1_1 := box_free wh1 1
  have hsr := Since.refl w0
  have hsd := hsr.drew
  clear hw0
  have HP := Lib.hid (fun W => refParent_top b W hf)
  clear hf
  go_enter Try.func63, Try.ntmps63
  go_wp2_with fail
  rw [← HW.out]
  go_wp2_with (go_at_call 66; (with_reducible refine (Calls.since (by assumption) (HP.out _)).mono ?_); rintro e wr ⟨rfl, hbr⟩; have hw5 := (Since.whole hbr wh1).alloc (.cells #[.int .i64 0, .int .i64 0] 27); have x0 := hw5.cell 0; have x1 := hw5.cell 1; have y0 := hw5.frozen 0; have y1 := hw5.frozen 1)
  have u := (hw5.set_ 0 (.int .i64 0)).set_ 1 (.int .i64 0)
  have u0 := u.cell 0
  have u1 := u.cell 1
  exact bodyPost_ret (v := .tuple #[.agg #[.int .i64 0, .int .i64 0], .bool false]) (by simp [results, Try.results63, go_sem, u0, u1]) rfl ⟨rfl, Below.setCell (Below.setCell ((hs0.trans hbr).alloc _) (by simp) _) (by simp) _⟩
set_option maxRecDepth 100000 in
set_option maxHeartbeats 3200000 in
theorem refSib_yes (d b : Int) (w : World) (hf : fine d b = true) (h0 : 0 < d) : Calls Try.prog 63 #[.agg #[.int .i64 d, .int .i64 b]] w fun e w' => e = .returned (.tuple #[.agg #[.int .i64 d, .int .i64 (sibB b)], .bool true]) ∧ Below w.heap.size w w' := by
  obtain ⟨w0, hw0⟩ : ∃ w0, w0 = (w.alloc (.cells #[.int .i64 d, .int .i64 b] 27)).alloc (.cells #[.int .i64 0, .int .i64 0] 27) := ⟨_, rfl⟩
  have hs0 : Since w w0 := by rw [hw0]; exact ((Since.refl w).alloc _).alloc _
  have wh0 : Whole w0 (w.heap.size) 27 #[.int .i64 d, .int .i64 b] := by rw [hw0]; exact (Whole.new w _ _).alloc _
  have wh1 : Whole w0 (w.heap.size + 1) 27 #[.int .i64 0, .int .i64 0] := by rw [hw0]; exact (Whole.new (w.alloc _) _ _).at_ (by simp)
  have HW := Lib.hid hw0
  have c0_0 := box_cell wh0 0 (.int .i64 d) rfl
  have c0_1 := box_cell wh0 1 (.int .i64 b) rfl
  have c1_0 := box_cell wh1 0 (.int .i64 0) rfl
  have f1_0 := box_free wh1 0
  have c1_1 := box_cell wh1 1 (.int .i64 0) rfl
  have f1_1 := box_free wh1 1
  have hsr := Since.refl w0
  have hsd := hsr.drew
  clear hw0
  have hfi := (fine_iff d b).1 hf
  have hfu := fine_up hf h0
  obtain ⟨D, hD⟩ : ∃ D, d - 1 = D := ⟨_, rfl⟩
  obtain ⟨V, hV⟩ : ∃ V, b / 2 = V := ⟨_, rfl⟩
  obtain ⟨L, hL⟩ : ∃ L, b % 2 = L := ⟨_, rfl⟩
  have HP := Lib.hid (fun W => refParent_yes d b W hf h0)
  have HLA := Lib.hid (fun W => refLast_yes d b W hf h0)
  have HCH := Lib.hid (fun W => refChild_yes (d - 1) (b / 2) (1 - b % 2) W hfu (by omega) (by omega))
  have hsb : sibB b = 2 * V + (1 - L) := by unfold sibB; rw [hV, hL]
  rw [show d - 1 + 1 = d by omega] at HCH
  rw [hD, hV] at HP
  rw [hL] at HLA
  rw [hD, hV, hL, ← hsb] at HCH
  obtain ⟨M, hM⟩ : ∃ M, 1 - L = M := ⟨_, rfl⟩
  have w1 : IntKind.i64.wrap (1 - L) = M := (IntWalk.i64_in _ (by omega)).trans hM
  have w2 : wrap64 (1 - L) = M := (IntWalk.wrap64_in _ ⟨by omega, by omega⟩).trans hM
  rw [hM] at HCH
  obtain ⟨S, hS⟩ : ∃ S, sibB b = S := ⟨_, rfl⟩
  rw [hS] at HCH ⊢
  clear hf h0 hfi hfu hD hV hL hsb hM hS
  go_enter Try.func63, Try.ntmps63
  go_wp2_with fail
  rw [← HW.out]
  go_upto_region 4 with (go_at_call 66; (with_reducible refine (Calls.since (by assumption) (HP.out _)).mono ?_); rintro e wp ⟨rfl, hbp⟩)
  obtain ⟨wr, hwr⟩ : ∃ wr, wr = wp.alloc (.cells #[.int .i64 D, .int .i64 V] 27) := ⟨_, rfl⟩
  rw [← hwr]
  have hbr : Since w0 wr := Since.named (hbp.alloc _) hwr
  have wu : Whole wr wp.heap.size 27 #[.int .i64 D, .int .i64 V] := (Whole.new wp _ _).named hwr
  have b0 := box_cell (Since.whole hbr wh0) 0 (.int .i64 d) rfl
  have b1 := box_cell (Since.whole hbr wh0) 1 (.int .i64 b) rfl
  have b2 := box_cell wu 0 (.int .i64 D) rfl
  have b3 := box_cell wu 1 (.int .i64 V) rfl
  have hrd : Since wr wr.drew := (Since.refl wr).drew
  clear c0_0 c0_1 c1_0 c1_1 f1_0 f1_1 hsr hsd hwr wu
  go_cut [6, 7] from 16 to 24 (fun p z wx => (∃ NB, p = .pointer (some ⟨NB, 0, none⟩) ∧ Whole wx NB 27 #[.int .i64 d, .int .i64 S]) ∧ z = .int .i64 0 ∧ Since wr wx)
  case first =>
    obtain ⟨wq, hwq⟩ : ∃ wq, wq = wr.drew := ⟨_, rfl⟩
    refine wp_region_held_drew (S := fun W => Since wr W) (by kernel_rfl) hrd (fun hHeld => ?_)
    rw [← hwq] at hHeld ⊢
    have hq : Since wr wq := hHeld
    clear hwq hrd
    refine wpAnyH_take (i := 0) (v := ?_) rfl (by kernel_rfl) (by kernel_rfl) (by kernel_rfl) (fun _ _ _ h => h) (Or.inl ⟨by rfl, ?_⟩) (by assumption) ?_
    rotate_left 1
    · (intro W hW; skip; go_simp; try with_reducible rfl)
    simp only [Act.put, List.getElem_toArray, List.getElem_cons_zero, List.setIfInBounds_toArray, List.set_cons_zero, List.set_cons_succ]
    refine wpAnyH_take (i := 1) (v := ?_) rfl (by kernel_rfl) (by kernel_rfl) (by kernel_rfl) (fun _ _ _ h => h) (Or.inl ⟨by rfl, ?_⟩) (by assumption) ?_
    rotate_left 1
    · (intro W hW; skip; go_simp; try with_reducible rfl)
    simp only [Act.put, List.getElem_toArray, List.getElem_cons_succ, List.getElem_cons_zero, List.setIfInBounds_toArray, List.set_cons_zero, List.set_cons_succ]
    refine wpAnyH_ready (rs := [2, 8]) (by kernel_rfl) (by simp) ?_
    refine AllReadyH.cons rfl (fun K hK => ?_) (AllReadyH.cons rfl (fun K hK => ?_) AllReadyH.nil)
    · go_simp
      refine (Calls.since hq (HLA.out _)).mono ?_
      rintro e w2 ⟨rfl, hb2⟩
      go_wp2_with fail
      refine hK.out _ _ (hb2) (fun hHeld => ?_)
      clear hK K
      try simp only [Act.put, List.getElem_toArray, List.getElem_cons_succ, List.getElem_cons_zero, List.setIfInBounds_toArray, List.set_cons_zero, List.set_cons_succ]
      refine wpAnyH_take (i := 3) (v := ?_) rfl (by kernel_rfl) (by kernel_rfl) (by kernel_rfl) (fun _ _ _ h => h) (Or.inl ⟨by rfl, ?_⟩) (by assumption) ?_
      rotate_left 1
      · (intro W hW; clear hW; go_simp; try with_reducible rfl)
      simp only [Act.put, List.getElem_toArray, List.getElem_cons_succ, List.getElem_cons_zero, List.setIfInBounds_toArray, List.set_cons_zero, List.set_cons_succ]
      refine wpAnyH_ready (rs := [4, 8]) (by kernel_rfl) (by simp) ?_
      refine AllReadyH.cons rfl (fun K hK => ?_) (AllReadyH.cons rfl (fun K hK => ?_) AllReadyH.nil)
      · go_simp
        refine (HCH.out _).mono ?_
        rintro e w4 ⟨rfl, hb4'⟩
        have hb4 : Since wr w4 := Since.trans hb2 hb4'
        go_wp2_with fail
        refine hK.out _ _ (hb4) (fun hHeld => ?_)
        clear hK K
        try simp only [Act.put, List.getElem_toArray, List.getElem_cons_succ, List.getElem_cons_zero, List.setIfInBounds_toArray, List.set_cons_zero, List.set_cons_succ]
        refine wpAnyH_take (i := 5) (v := ?_) rfl (by kernel_rfl) (by kernel_rfl) (by kernel_rfl) (fun _ _ _ h => h) (Or.inl ⟨by rfl, ?_⟩) (by assumption) ?_
        rotate_left 1
        · (intro W hW; clear hW; go_simp; try with_reducible rfl)
        simp only [Act.put, List.getElem_toArray, List.getElem_cons_succ, List.getElem_cons_zero, List.setIfInBounds_toArray, List.set_cons_zero, List.set_cons_succ]
        refine wpAnyH_take (i := 6) (v := ?_) rfl (by kernel_rfl) (by kernel_rfl) (by kernel_rfl) (fun _ _ _ h => h) (Or.inl ⟨by rfl, ?_⟩) (by assumption) ?_
        rotate_left 1
        · (intro W hW; clear hW; go_simp; try with_reducible rfl)
        simp only [Act.put, List.getElem_toArray, List.getElem_cons_succ, List.getElem_cons_zero, List.setIfInBounds_toArray, List.set_cons_zero, List.set_cons_succ]
        refine wpAnyH_take (i := 7) (v := ?_) rfl (by kernel_rfl) (by kernel_rfl) (by kernel_rfl) (fun _ _ _ h => h) (Or.inl ⟨by rfl, ?_⟩) (by assumption) ?_
        rotate_left 1
        · (intro W hW; clear hW; go_simp; try with_reducible rfl)
        simp only [Act.put, List.getElem_toArray, List.getElem_cons_succ, List.getElem_cons_zero, List.setIfInBounds_toArray, List.set_cons_zero, List.set_cons_succ]
        refine wpAnyH_ready (rs := [8]) (by kernel_rfl) (by simp) ?_
        refine AllReadyH.cons rfl (fun K hK => ?_) AllReadyH.nil
        go_simp
        skip
        refine hK.out _ _ ((hb4.alloc _)) (fun hHeld => ?_)
        clear hK K
        try simp only [Act.put, List.getElem_toArray, List.getElem_cons_succ, List.getElem_cons_zero, List.setIfInBounds_toArray, List.set_cons_zero, List.set_cons_succ]
        refine wpAnyH_ready (rs := [9]) (by kernel_rfl) (by simp) ?_
        refine AllReadyH.cons rfl (fun K hK => ?_) AllReadyH.nil
        go_simp
        skip
        refine hK.out _ _ ((hb4.alloc _)) (fun hHeld => ?_)
        clear hK K
        try simp only [Act.put, List.getElem_toArray, List.getElem_cons_succ, List.getElem_cons_zero, List.setIfInBounds_toArray, List.set_cons_zero, List.set_cons_succ]
        refine wpAnyH_take (i := 10) (v := ?_) rfl (by kernel_rfl) (by kernel_rfl) (by kernel_rfl) (fun _ _ _ h => h) (Or.inl ⟨by rfl, ?_⟩) (by assumption) ?_
        rotate_left 1
        · (intro W hW; clear hW; go_simp; try with_reducible rfl)
        simp only [Act.put, List.getElem_toArray, List.getElem_cons_succ, List.getElem_cons_zero, List.setIfInBounds_toArray, List.set_cons_zero, List.set_cons_succ]
        refine wpAnyH_done (by kernel_rfl) ?_ _
        go_wp2_with fail
        go_meet
        case rel => exact ⟨⟨_, rfl, Whole.new w4 _ _⟩, rfl, hb4.alloc _⟩
      · go_simp
        skip
        refine hK.out _ _ ((hb2.alloc _)) (fun hHeld => ?_)
        clear hK K
        try simp only [Act.put, List.getElem_toArray, List.getElem_cons_succ, List.getElem_cons_zero, List.setIfInBounds_toArray, List.set_cons_zero, List.set_cons_succ]
        refine wpAnyH_ready (rs := [4]) (by kernel_rfl) (by simp) ?_
        refine AllReadyH.cons rfl (fun K hK => ?_) AllReadyH.nil
        go_simp
        refine (HCH.out _).mono ?_
        rintro e w4 ⟨rfl, hb4'⟩
        have hb4 : Since wr w4 := Since.trans (hb2.alloc (.cells #[.int .i64 0, .int .i64 0] 27)) hb4'
        have hw4 := Since.whole hb4' (Whole.new w2 27 #[.int .i64 0, .int .i64 0])
        have x0 := hw4.cell 0
        have x1 := hw4.cell 1
        have y0 := hw4.frozen 0
        have y1 := hw4.frozen 1
        go_wp2_with fail
        refine hK.out _ _ (hb4) (fun hHeld => ?_)
        clear hK K
        try simp only [Act.put, List.getElem_toArray, List.getElem_cons_succ, List.getElem_cons_zero, List.setIfInBounds_toArray, List.set_cons_zero, List.set_cons_succ]
        refine wpAnyH_take (i := 5) (v := ?_) rfl (by kernel_rfl) (by kernel_rfl) (by kernel_rfl) (fun _ _ _ h => h) (Or.inl ⟨by rfl, ?_⟩) (by assumption) ?_
        rotate_left 1
        · (intro W hW; clear hW; go_simp; try with_reducible rfl)
        simp only [Act.put, List.getElem_toArray, List.getElem_cons_succ, List.getElem_cons_zero, List.setIfInBounds_toArray, List.set_cons_zero, List.set_cons_succ]
        refine wpAnyH_take (i := 6) (v := ?_) rfl (by kernel_rfl) (by kernel_rfl) (by kernel_rfl) (fun _ _ _ h => h) (Or.inl ⟨by rfl, ?_⟩) (by assumption) ?_
        rotate_left 1
        · (intro W hW; clear hW; go_simp; try with_reducible rfl)
        simp only [Act.put, List.getElem_toArray, List.getElem_cons_succ, List.getElem_cons_zero, List.setIfInBounds_toArray, List.set_cons_zero, List.set_cons_succ]
        refine wpAnyH_take (i := 7) (v := ?_) rfl (by kernel_rfl) (by kernel_rfl) (by kernel_rfl) (fun _ _ _ h => h) (Or.inl ⟨by rfl, ?_⟩) (by assumption) ?_
        rotate_left 1
        · (intro W hW; clear hW; go_simp; try with_reducible rfl)
        simp only [Act.put, List.getElem_toArray, List.getElem_cons_succ, List.getElem_cons_zero, List.setIfInBounds_toArray, List.set_cons_zero, List.set_cons_succ]
        refine wpAnyH_ready (rs := [9]) (by kernel_rfl) (by simp) ?_
        refine AllReadyH.cons rfl (fun K hK => ?_) AllReadyH.nil
        go_simp
        skip
        refine hK.out _ _ ((Since.setCell (Since.setCell hb4 (p := ⟨w2.heap.size, 0, none⟩) hb2.size_ _) (p := ⟨w2.heap.size, 1, none⟩) hb2.size_ _)) (fun hHeld => ?_)
        clear hK K
        try simp only [Act.put, List.getElem_toArray, List.getElem_cons_succ, List.getElem_cons_zero, List.setIfInBounds_toArray, List.set_cons_zero, List.set_cons_succ]
        refine wpAnyH_take (i := 10) (v := ?_) rfl (by kernel_rfl) (by kernel_rfl) (by kernel_rfl) (fun _ _ _ h => h) (Or.inl ⟨by rfl, ?_⟩) (by assumption) ?_
        rotate_left 1
        · (intro W hW; clear hW; go_simp; try with_reducible rfl)
        simp only [Act.put, List.getElem_toArray, List.getElem_cons_succ, List.getElem_cons_zero, List.setIfInBounds_toArray, List.set_cons_zero, List.set_cons_succ]
        refine wpAnyH_done (by kernel_rfl) ?_ _
        go_wp2_with fail
        go_meet
        case rel => exact ⟨⟨_, rfl, (hw4.set_ 0 _).set_ 1 _⟩, rfl, Since.setCell (Since.setCell hb4 (p := ⟨w2.heap.size, 0, none⟩) hb2.size_ _) (p := ⟨w2.heap.size, 1, none⟩) hb2.size_ _⟩
    · go_simp
      skip
      refine hK.out _ _ ((hq.alloc _)) (fun hHeld => ?_)
      clear hK K
      try simp only [Act.put, List.getElem_toArray, List.getElem_cons_succ, List.getElem_cons_zero, List.setIfInBounds_toArray, List.set_cons_zero, List.set_cons_succ]
      refine wpAnyH_ready (rs := [2]) (by kernel_rfl) (by simp) ?_
      refine AllReadyH.cons rfl (fun K hK => ?_) AllReadyH.nil
      go_simp
      refine (HLA.out _).mono ?_
      rintro e w2 ⟨rfl, hb2'⟩
      have hb2 : Since wr w2 := Since.trans (hq.alloc (.cells #[.int .i64 0, .int .i64 0] 27)) hb2'
      have hw2 := Since.whole hb2' (Whole.new wq 27 #[.int .i64 0, .int .i64 0])
      go_wp2_with fail
      refine hK.out _ _ (hb2) (fun hHeld => ?_)
      clear hK K
      try simp only [Act.put, List.getElem_toArray, List.getElem_cons_succ, List.getElem_cons_zero, List.setIfInBounds_toArray, List.set_cons_zero, List.set_cons_succ]
      refine wpAnyH_take (i := 3) (v := ?_) rfl (by kernel_rfl) (by kernel_rfl) (by kernel_rfl) (fun _ _ _ h => h) (Or.inl ⟨by rfl, ?_⟩) (by assumption) ?_
      rotate_left 1
      · (intro W hW; clear hW; go_simp; try with_reducible rfl)
      simp only [Act.put, List.getElem_toArray, List.getElem_cons_succ, List.getElem_cons_zero, List.setIfInBounds_toArray, List.set_cons_zero, List.set_cons_succ]
      refine wpAnyH_ready (rs := [4]) (by kernel_rfl) (by simp) ?_
      refine AllReadyH.cons rfl (fun K hK => ?_) AllReadyH.nil
      go_simp
      refine (HCH.out _).mono ?_
      rintro e w4 ⟨rfl, hb4'⟩
      have hb4 : Since wr w4 := Since.trans hb2 hb4'
      have hw4 := Since.whole hb4' hw2
      have x0 := hw4.cell 0
      have x1 := hw4.cell 1
      have y0 := hw4.frozen 0
      have y1 := hw4.frozen 1
      go_wp2_with fail
      refine hK.out _ _ (hb4) (fun hHeld => ?_)
      clear hK K
      try simp only [Act.put, List.getElem_toArray, List.getElem_cons_succ, List.getElem_cons_zero, List.setIfInBounds_toArray, List.set_cons_zero, List.set_cons_succ]
      refine wpAnyH_take (i := 5) (v := ?_) rfl (by kernel_rfl) (by kernel_rfl) (by kernel_rfl) (fun _ _ _ h => h) (Or.inl ⟨by rfl, ?_⟩) (by assumption) ?_
      rotate_left 1
      · (intro W hW; clear hW; go_simp; try with_reducible rfl)
      simp only [Act.put, List.getElem_toArray, List.getElem_cons_succ, List.getElem_cons_zero, List.setIfInBounds_toArray, List.set_cons_zero, List.set_cons_succ]
      refine wpAnyH_take (i := 6) (v := ?_) rfl (by kernel_rfl) (by kernel_rfl) (by kernel_rfl) (fun _ _ _ h => h) (Or.inl ⟨by rfl, ?_⟩) (by assumption) ?_
      rotate_left 1
      · (intro W hW; clear hW; go_simp; try with_reducible rfl)
      simp only [Act.put, List.getElem_toArray, List.getElem_cons_succ, List.getElem_cons_zero, List.setIfInBounds_toArray, List.set_cons_zero, List.set_cons_succ]
      refine wpAnyH_take (i := 7) (v := ?_) rfl (by kernel_rfl) (by kernel_rfl) (by kernel_rfl) (fun _ _ _ h => h) (Or.inl ⟨by rfl, ?_⟩) (by assumption) ?_
      rotate_left 1
      · (intro W hW; clear hW; go_simp; try with_reducible rfl)
      simp only [Act.put, List.getElem_toArray, List.getElem_cons_succ, List.getElem_cons_zero, List.setIfInBounds_toArray, List.set_cons_zero, List.set_cons_succ]
      refine wpAnyH_ready (rs := [9]) (by kernel_rfl) (by simp) ?_
      refine AllReadyH.cons rfl (fun K hK => ?_) AllReadyH.nil
      go_simp
      skip
      refine hK.out _ _ ((Since.setCell (Since.setCell hb4 (p := ⟨wq.heap.size, 0, none⟩) hq.size_ _) (p := ⟨wq.heap.size, 1, none⟩) hq.size_ _)) (fun hHeld => ?_)
      clear hK K
      try simp only [Act.put, List.getElem_toArray, List.getElem_cons_succ, List.getElem_cons_zero, List.setIfInBounds_toArray, List.set_cons_zero, List.set_cons_succ]
      refine wpAnyH_take (i := 10) (v := ?_) rfl (by kernel_rfl) (by kernel_rfl) (by kernel_rfl) (fun _ _ _ h => h) (Or.inl ⟨by rfl, ?_⟩) (by assumption) ?_
      rotate_left 1
      · (intro W hW; clear hW; go_simp; try with_reducible rfl)
      simp only [Act.put, List.getElem_toArray, List.getElem_cons_succ, List.getElem_cons_zero, List.setIfInBounds_toArray, List.set_cons_zero, List.set_cons_succ]
      refine wpAnyH_done (by kernel_rfl) ?_ _
      go_wp2_with fail
      go_meet
      case rel => exact ⟨⟨_, rfl, (hw4.set_ 0 _).set_ 1 _⟩, rfl, Since.setCell (Since.setCell hb4 (p := ⟨wq.heap.size, 0, none⟩) hq.size_ _) (p := ⟨wq.heap.size, 1, none⟩) hq.size_ _⟩
  case rest =>
    obtain ⟨wa, hwa⟩ : ∃ w', w' = wc := ⟨_, rfl⟩
    rw [← hwa] at hcut ⊢
    clear hwa
    obtain ⟨⟨NB, rfl, wn⟩, rfl, hsa⟩ := hcut
    have n0 := wn.cell 0
    have n1 := wn.cell 1
    have hw5 := Since.whole (hbr.trans hsa) wh1
    have x0 := hw5.cell 0
    have x1 := hw5.cell 1
    have y0 := hw5.frozen 0
    have y1 := hw5.frozen 1
    go_wp2_with fail
    have u := (hw5.set_ 0 (.int .i64 d)).set_ 1 (.int .i64 S)
    have u0 := u.cell 0
    have u1 := u.cell 1
    exact bodyPost_ret (v := .tuple #[.agg #[.int .i64 d, .int .i64 S], .bool true]) (by simp [results, Try.results63, go_sem, u0, u1]) rfl ⟨rfl, Below.setCell (Below.setCell (hs0.trans (hbr.trans hsa)) (by simp) _) (by simp) _⟩
end Go.Proofs.Ytgnhamhkpbadbaa
namespace Go.Proofs.Ytgnhamhkpbadbaa
open Go.RowKit
set_option linter.unusedVariables false
set_option linter.unusedSimpArgs false
def accD : Option Tl → Int
  | none => 0
  | some v => v.d - 1
def accB : Option Tl → Int
  | none => 0
  | some v => v.b / 2
theorem deep_cons (L : List Tl) (s : Tl) (l : List Tl) (o : Option Tl) : deepF L (s :: l) o = deepF L l (deepStep L o s) := rfl
theorem step_no {L : List Tl} {o : Option Tl} {s : Tl} (h : candB L s = false) : deepStep L o s = o := by unfold deepStep; rw [h]; rfl
theorem sib_even {b : Int} (h : b % 2 = 0) : sibB b = b + 1 := by unfold sibB; omega
set_option maxRecDepth 100000 in
set_option maxHeartbeats 6400000 in
theorem refDeep_any {gr : Nat} {k : Int} {L : List Tl} {v : Value} {w : World} (h : RefO gr k L v w) (hm : L.length ≤ 1000) (hf : ∀ s ∈ L, fine s.d s.b = true) : Calls Try.prog 22 #[.pointer (some ⟨gr, 0, none⟩)] w fun e W' => e = .returned (deV (deepL L)) ∧ Below w.heap.size w W' := by
  obtain ⟨va, vc, rfl⟩ := h.size
  have a1 := box_cell h.box 1 (.slice va L.length vc) rfl
  obtain ⟨w0, hw0⟩ : ∃ w0, w0 = (w.alloc (.cells #[.int .i64 0, .int .i64 0] 27)).alloc (.cells #[.int .i64 0, .int .i64 0] 27) := ⟨_, rfl⟩
  have hs0 : Since w w0 := by rw [hw0]; exact ((Since.refl w).alloc _).alloc _
  have wh0 : Whole w0 (w.heap.size) 27 #[.int .i64 0, .int .i64 0] := by rw [hw0]; exact (Whole.new w _ _).alloc _
  have wh1 : Whole w0 (w.heap.size + 1) 27 #[.int .i64 0, .int .i64 0] := by rw [hw0]; exact (Whole.new (w.alloc _) _ _).at_ (by simp)
  have HW := Lib.hid hw0
  have c0_0 := box_cell wh0 0 (.int .i64 0) rfl
  have c0_1 := box_cell wh0 1 (.int .i64 0) rfl
  have c1_0 := box_cell wh1 0 (.int .i64 0) rfl
  have c1_1 := box_cell wh1 1 (.int .i64 0) rfl
  have hsr := Since.refl w0
  have hsd := hsr.drew
  clear hw0
  obtain ⟨R, hR⟩ : ∃ R, deepL L = R := ⟨_, rfl⟩
  have HR := Lib.hid (show deepF L L none = R from hR)
  rw [hR]
  have H := Lib.hid h
  clear hR h c0_0 c0_1 c1_0 c1_1 hsr hsd
  go_enter Try.func22, Try.ntmps22
  go_wp2_with fail
  rw [← HW.out]
  go_loopw [5, 6] (fun fv iv wr => ∃ (m : Nat) (o : Option Tl), iv = .int .i64 m ∧ m ≤ L.length ∧ fv = .bool o.isSome ∧ deepF L (L.drop m) o = R ∧ (∀ v, o = some v → 0 < v.d ∧ v.d ≤ 32) ∧ Since w wr ∧ Whole wr w.heap.size 27 #[.int .i64 0, .int .i64 0] ∧ Whole wr (w.heap.size + 1) 27 #[.int .i64 (accD o), .int .i64 (accB o)]) (fun _ iv _ => L.length - (intOf iv).toNat)
  case atStart => exact ⟨0, none, rfl, Nat.zero_le _, rfl, HR.out, (fun v hv => by cases hv), hs0, wh0, wh1⟩
  case round =>
    clear wh0 wh1 hs0
    obtain ⟨m, o, rfl, hml, rfl, hRo, hOr, hs, wt2, wbest⟩ := hrel
    have q1 := a1 _ hs
    have hwrap : wrap64 ((m : Int) + 1) = ((m + 1 : Nat) : Int) := IntWalk.wrap64_in _ ⟨by omega, by omega⟩
    by_cases hlt : m < L.length
    rotate_left
    · have d1 : decide ((m : Int) < L.length) = false := decide_eq_false (by omega)
      have hoR : o = R := by rw [← hRo, List.drop_of_length_le (by omega)]; rfl
      subst hoR
      obtain ⟨AD, hAD⟩ : ∃ x, accD o = x := ⟨_, rfl⟩
      obtain ⟨AB, hAB⟩ : ∃ x, accB o = x := ⟨_, rfl⟩
      have hde : deV o = .tuple #[.agg #[.int .i64 AD, .int .i64 AB], .bool o.isSome] := by rw [← hAD, ← hAB]; cases o <;> rfl
      rw [hAD, hAB] at wbest
      have HDE := Lib.hid hde
      have b0 := wbest.cell 0
      have b1 := wbest.cell 1
      have x0 := wt2.cell 0
      have x1 := wt2.cell 1
      have y0 := wt2.frozen 0
      have y1 := wt2.frozen 1
      have u := (wt2.set_ 0 (.int .i64 AD)).set_ 1 (.int .i64 AB)
      have u0 := u.cell 0
      have u1 := u.cell 1
      have HB : Below w.heap.size w ((wr.setCell ⟨w.heap.size, 0, none⟩ (.int .i64 AD)).setCell ⟨w.heap.size, 1, none⟩ (.int .i64 AB)) := Below.setCell (Below.setCell hs (by simp) _) (by simp) _
      clear hRo hOr wt2 wbest u hs hAD hAB hde
      go_wp2_with fail
      exact bodyPost_ret (v := .tuple #[.agg #[.int .i64 AD, .int .i64 AB], .bool o.isSome]) (by simp [results, Try.results22, go_sem, u0, u1]) rfl ⟨by rw [HDE.out], HB⟩
    · have d1 : decide ((m : Int) < L.length) = true := decide_eq_true (by omega)
      obtain ⟨g, cap, e0, hcap, _⟩ := H.out.form hlt
      injection e0 with e1 e3 e4
      subst e1 e4
      obtain ⟨⟨td, tb, tw⟩, ht⟩ : ∃ t, t = L[m] := ⟨_, rfl⟩
      have hfm := hf L[m] (List.getElem_mem _)
      rw [← ht] at hfm
      dsimp only at hfm
      have hfi := (fine_iff _ _).1 hfm
      have hdr : L.drop m = ⟨td, tb, tw⟩ :: L.drop (m + 1) := by rw [ht]; exact List.drop_eq_getElem_cons hlt
      rw [hdr, deep_cons] at hRo
      have hkt : ∀ W, Since wr W → W.cell? ⟨g, m * 3, none⟩ = some (.int .i64 td) ∧ W.cell? ⟨g, m * 3 + 1, none⟩ = some (.int .i64 tb) := fun W hW => by
        have z := H.out.tile (hs.trans hW) hlt rfl
        rw [← ht] at z
        exact ⟨z.1, z.2.1⟩
      have hkt0 := fun W hW => (hkt W hW).1
      have hkt1 := fun W hW => (hkt W hW).2
      have cr1 := fun W (hW : Since wr W) => a1 W (hs.trans hW)
      have hlt' : (m : Int) < L.length := by omega
      have HRO := Lib.hid hRo
      have HO := Lib.hid hOr
      have HF := Lib.hid hfm
      have HFI := Lib.hid hfi
      clear e3 hdr ht hfm hRo hOr hkt hfi
      have kt0 := hkt0 _ (Since.refl wr)
      have kt1 := hkt1 _ (Since.refl wr)
      go_wp2_with fail
      refine Calls.named (fun wm hwm => ?_)
      have hsm : Since wr wm := Since.named ((Since.refl wr).alloc _) hwm
      have wp7 : Whole wm wr.heap.size 27 #[.int .i64 td, .int .i64 tb] := (Whole.new wr _ _).named hwm
      clear hwm hkt0 hkt1 kt0 kt1 q1 cr1
      by_cases ht0 : td = 0
      · have hc : candB L ⟨td, tb, tw⟩ = false := by unfold candB; rw [decide_eq_false (by dsimp only; omega)]; rfl
        have hrn := HRO.out
        rw [step_no hc] at hrn
        have HRN := Lib.hid hrn
        have hf0 := HF.out
        rw [ht0] at hf0
        subst ht0
        have HF0 := Lib.hid hf0
        clear hc hrn hf0
        refine (refSib_top tb _ HF0.out).mono ?_
        rintro e w2 ⟨rfl, hb2⟩
        have hp2 := (Since.whole hb2 wp7).alloc (.cells #[.int .i64 0, .int .i64 0] 27)
        have x0 := hp2.cell 0
        have x1 := hp2.cell 1
        have s2 : Since wr (w2.alloc (.cells #[.int .i64 0, .int .i64 0] 27)) := (hsm.trans hb2).alloc _
        have hq8 : Whole (w2.alloc (.cells #[.int .i64 0, .int .i64 0] 27)) w2.heap.size 27 #[.int .i64 0, .int .i64 0] := Whole.new w2 _ _
        go_wp2_with (go_at_call 64; (with_reducible refine (refLast_top tb _ HF0.out).mono ?_); rintro e w3 ⟨rfl, hb3⟩; have s3 := Since.trans s2 hb3; have hq3 := Since.whole hb3 hq8; have y0 := hq3.cell 0; have y1 := hq3.cell 1; have hp3 := Since.whole hb3 hp2)
        go_roundw
        case rel => exact ⟨m + 1, o, by go_num, by omega, rfl, HRN.out, HO.out, hs.trans s3, Since.whole s3 wt2, Since.whole s3 wbest⟩
        case measure => simp [intOf]; omega
      · have HT0 := Lib.hid (show 0 < td by have := HFI.out; omega)
        have HT1 := Lib.hid (show 0 < td ∧ td ≤ 32 by have := HFI.out; omega)
        obtain ⟨Q, hQ⟩ : ∃ Q, sibB tb = Q := ⟨_, rfl⟩
        obtain ⟨LB, hLB⟩ : ∃ Q, tb % 2 = Q := ⟨_, rfl⟩
        have HSI := Lib.hid (fun W => hQ ▸ refSib_yes td tb W HF.out HT0.out)
        have HLA := Lib.hid (fun W => hLB ▸ refLast_yes td tb W HF.out HT0.out)
        have hat := fun W (hW : Since wr W) => refAtL_any (H.out.since (hs.trans hW)) td Q hm
        refine (HSI.out _).mono ?_
        rintro e w2 ⟨rfl, hb2⟩
        have hp2 := (Since.whole hb2 wp7).alloc (.cells #[.int .i64 td, .int .i64 Q] 27)
        have x0 := hp2.cell 0
        have x1 := hp2.cell 1
        have s2 : Since wr (w2.alloc (.cells #[.int .i64 td, .int .i64 Q] 27)) := (hsm.trans hb2).alloc _
        have hq8 : Whole (w2.alloc (.cells #[.int .i64 td, .int .i64 Q] 27)) w2.heap.size 27 #[.int .i64 td, .int .i64 Q] := Whole.new w2 _ _
        by_cases he : LB = 0
        rotate_left
        · have hc : candB L ⟨td, tb, tw⟩ = false := by unfold candB; rw [decide_eq_false (by dsimp only; omega)]; rfl
          have hrn := HRO.out
          rw [step_no hc] at hrn
          have HRN := Lib.hid hrn
          have d2 : (LB == 0) = false := by simpa using he
          clear hc hrn hat hQ hLB he
          go_wp2_with (go_at_call 64; (with_reducible refine (HLA.out _).mono ?_); rintro e w3 ⟨rfl, hb3⟩; have s3 := Since.trans s2 hb3; have hq3 := Since.whole hb3 hq8; have y0 := hq3.cell 0; have y1 := hq3.cell 1; have hp3 := Since.whole hb3 hp2)
          go_roundw
          case rel => exact ⟨m + 1, o, by go_num, by omega, rfl, HRN.out, HO.out, hs.trans s3, Since.whole s3 wt2, Since.whole s3 wbest⟩
          case measure => simp [intOf]; omega
        · have d2 : (LB == 0) = true := by simpa using he
          have hQ1 : Q = tb + 1 := by rw [← hQ]; exact sib_even (by omega)
          rcases atG_cases td Q L 0 with ⟨g1, g2⟩ | ⟨i, g1, g2, g3, _⟩
          · rw [g1] at hat
            have HAT := Lib.hid hat
            have hc : candB L ⟨td, tb, tw⟩ = false := by unfold candB; dsimp only; rw [← hQ1, g2, Bool.and_false]
            have hrn := HRO.out
            rw [step_no hc] at hrn
            have HRN := Lib.hid hrn
            clear hc hrn hat hQ hLB he hQ1 g1 g2
            go_wp2_with (first | (go_at_call 64; (with_reducible refine (HLA.out _).mono ?_); rintro e w3 ⟨rfl, hb3⟩; have s3 := Since.trans s2 hb3; have hq3 := Since.whole hb3 hq8; have y0 := hq3.cell 0; have y1 := hq3.cell 1; have hp3 := Since.whole hb3 hp2) | (go_at_call 65; (with_reducible refine (HAT.out _ s3).mono ?_); rintro e w4 ⟨rfl, hb4⟩; have s4 := Since.trans s3 hb4; have hp4 := Since.whole hb4 hp3; have u0 := hp4.cell 0; have u1 := hp4.cell 1; have hbest4 := Since.whole s4 wbest; have z0 := hbest4.cell 0))
            go_roundw
            case rel => exact ⟨m + 1, o, by go_num, by omega, rfl, HRN.out, HO.out, hs.trans s4, Since.whole s4 wt2, Since.whole s4 wbest⟩
            case measure => simp [intOf]; omega
          · rw [g2, Nat.zero_add] at hat
            have HAT := Lib.hid hat
            have hc : candB L ⟨td, tb, tw⟩ = true := by unfold candB; dsimp only; rw [← hQ1, g3, Bool.and_true]; exact decide_eq_true (by have := HT0.out; omega)
            have d3 : decide ((0 : Int) ≤ i) = true := decide_eq_true (by omega)
            have hst : deepStep L o ⟨td, tb, tw⟩ = if deeperB o ⟨td, tb, tw⟩ = true then some ⟨td, tb, tw⟩ else o := by unfold deepStep; rw [hc, Bool.true_and]
            have hro := HRO.out
            rw [hst] at hro
            clear hc hat hQ hLB he hQ1 g1 g2 g3 hst
            cases o with
            | none =>
              rw [if_pos (show deeperB none ⟨td, tb, tw⟩ = true from rfl)] at hro
              have HRT := Lib.hid hro
              clear hro
              go_wp2_with (first | (go_at_call 64; (with_reducible refine (HLA.out _).mono ?_); rintro e w3 ⟨rfl, hb3⟩; have s3 := Since.trans s2 hb3; have hq3 := Since.whole hb3 hq8; have y0 := hq3.cell 0; have y1 := hq3.cell 1; have hp3 := Since.whole hb3 hp2) | (go_at_call 65; (with_reducible refine (HAT.out _ s3).mono ?_); rintro e w4 ⟨rfl, hb4⟩; have s4 := Since.trans s3 hb4; have hp4 := Since.whole hb4 hp3; have u0 := hp4.cell 0; have u1 := hp4.cell 1; have hbest4 := Since.whole s4 wbest; have z0 := hbest4.cell 0) | (go_at_call 66; (with_reducible refine (refParent_yes td tb _ HF.out HT0.out).mono ?_); rintro e w5 ⟨rfl, hb5⟩; have s5 := Since.trans s4 hb5; have hbest5 := Since.whole s5 wbest; have v0 := hbest5.cell 0; have v1 := hbest5.cell 1; have r0 := hbest5.frozen 0; have r1 := hbest5.frozen 1))
              go_roundw
              case rel => exact ⟨m + 1, some ⟨td, tb, tw⟩, by go_num, by omega, rfl, HRT.out, (fun v hv => by injection hv with hv; subst hv; exact HT1.out), Since.setCell (Since.setCell (hs.trans s5) (p := ⟨w.heap.size + 1, 0, none⟩) (by simp) _) (p := ⟨w.heap.size + 1, 1, none⟩) (by simp) _, ((Since.whole s5 wt2).far (p := ⟨w.heap.size + 1, 0, none⟩) (by simp) _).far (p := ⟨w.heap.size + 1, 1, none⟩) (by simp) _, (hbest5.set_ 0 _).set_ 1 _⟩
              case measure => simp [intOf]; omega
            | some u =>
              have hub := HO.out u rfl
              have wu : wrap64 (accD (some u) + 1) = u.d := (IntWalk.wrap64_in _ ⟨by unfold accD; dsimp only; omega, by unfold accD; dsimp only; omega⟩).trans (by unfold accD; dsimp only; omega)
              cases hdp : decide (u.d < td)
              · rw [if_neg (by unfold deeperB; dsimp only; rw [hdp]; exact Bool.false_ne_true)] at hro
                have HRN := Lib.hid hro
                clear hro hub
                go_wp2_with (first | (go_at_call 64; (with_reducible refine (HLA.out _).mono ?_); rintro e w3 ⟨rfl, hb3⟩; have s3 := Since.trans s2 hb3; have hq3 := Since.whole hb3 hq8; have y0 := hq3.cell 0; have y1 := hq3.cell 1; have hp3 := Since.whole hb3 hp2) | (go_at_call 65; (with_reducible refine (HAT.out _ s3).mono ?_); rintro e w4 ⟨rfl, hb4⟩; have s4 := Since.trans s3 hb4; have hp4 := Since.whole hb4 hp3; have u0 := hp4.cell 0; have u1 := hp4.cell 1; have hbest4 := Since.whole s4 wbest; have z0 := hbest4.cell 0))
                go_roundw
                case rel => exact ⟨m + 1, some u, by go_num, by omega, rfl, HRN.out, HO.out, hs.trans s4, Since.whole s4 wt2, Since.whole s4 wbest⟩
                case measure => simp [intOf]; omega
              · rw [if_pos (by unfold deeperB; exact hdp)] at hro
                have HRT := Lib.hid hro
                clear hro hub
                go_wp2_with (first | (go_at_call 64; (with_reducible refine (HLA.out _).mono ?_); rintro e w3 ⟨rfl, hb3⟩; have s3 := Since.trans s2 hb3; have hq3 := Since.whole hb3 hq8; have y0 := hq3.cell 0; have y1 := hq3.cell 1; have hp3 := Since.whole hb3 hp2) | (go_at_call 65; (with_reducible refine (HAT.out _ s3).mono ?_); rintro e w4 ⟨rfl, hb4⟩; have s4 := Since.trans s3 hb4; have hp4 := Since.whole hb4 hp3; have u0 := hp4.cell 0; have u1 := hp4.cell 1; have hbest4 := Since.whole s4 wbest; have z0 := hbest4.cell 0) | (go_at_call 66; (with_reducible refine (refParent_yes td tb _ HF.out HT0.out).mono ?_); rintro e w5 ⟨rfl, hb5⟩; have s5 := Since.trans s4 hb5; have hbest5 := Since.whole s5 wbest; have v0 := hbest5.cell 0; have v1 := hbest5.cell 1; have r0 := hbest5.frozen 0; have r1 := hbest5.frozen 1))
                go_roundw
                case rel => exact ⟨m + 1, some ⟨td, tb, tw⟩, by go_num, by omega, rfl, HRT.out, (fun v hv => by injection hv with hv; subst hv; exact HT1.out), Since.setCell (Since.setCell (hs.trans s5) (p := ⟨w.heap.size + 1, 0, none⟩) (by simp) _) (p := ⟨w.heap.size + 1, 1, none⟩) (by simp) _, ((Since.whole s5 wt2).far (p := ⟨w.heap.size + 1, 0, none⟩) (by simp) _).far (p := ⟨w.heap.size + 1, 1, none⟩) (by simp) _, (hbest5.set_ 0 _).set_ 1 _⟩
                case measure => simp [intOf]; omega
end Go.Proofs.Ytgnhamhkpbadbaa
namespace Go.Proofs.Ytgnhamhkpbadbaa
open Go.RowKit
set_option linter.unusedVariables false
set_option linter.unusedSimpArgs false
/-- Merge of a list, by places. -/
def mergeG (L : List Tl) (d b : Int) : Int × List Tl :=
  if fine d b = false ∨ d = 32 ∨ atG (d + 1) (2 * b) L 0 < 0 ∨ atG (d + 1) (2 * b + 1) L 0 < 0 then (3, L) else
    (0, insT ((L.take (atG (d + 1) (2 * b) L 0).toNat ++ L.drop ((atG (d + 1) (2 * b) L 0).toNat + 1)).take (atG (d + 1) (2 * b + 1) (L.take (atG (d + 1) (2 * b) L 0).toNat ++ L.drop ((atG (d + 1) (2 * b) L 0).toNat + 1)) 0).toNat ++
      (L.take (atG (d + 1) (2 * b) L 0).toNat ++ L.drop ((atG (d + 1) (2 * b) L 0).toNat + 1)).drop ((atG (d + 1) (2 * b + 1) (L.take (atG (d + 1) (2 * b) L 0).toNat ++ L.drop ((atG (d + 1) (2 * b) L 0).toNat + 1)) 0).toNat + 1)) ⟨d, b, ((L[(atG (d + 1) (2 * b) L 0).toNat]?).map Tl.who).getD 0⟩)
theorem mergeG_eq {L : List Tl} (hp : L.Pairwise Tl.ltB) (hfL : ∀ s ∈ L, fine s.d s.b = true) (d b : Int) (h2 : (mergeT L d b).2.Pairwise Tl.ltB) (hf : ∀ s ∈ (mergeT L d b).2, fine s.d s.b = true) : mergeG L d b = mergeT L d b := by
  unfold mergeG
  rcases atG_cases (d + 1) (2 * b) L 0 with ⟨h1, h3⟩ | ⟨i, h1, h3, h4, t, h5, t1, t2⟩
  · rw [if_pos (.inr (.inr (.inl (by rw [h1]; decide))))]
    unfold mergeT
    rw [if_neg (by rw [h3]; simp)]
  · rcases atG_cases (d + 1) (2 * b + 1) L 0 with ⟨g1, g3⟩ | ⟨j, g1, g3, g4, u, g5, u1, u2⟩
    · rw [if_pos (.inr (.inr (.inr (by rw [g1]; decide))))]
      unfold mergeT
      rw [if_neg (by rw [g3]; simp)]
    · have f1 := (fine_iff _ _).1 (hfL t (List.mem_of_getElem? h5))
      have f2 := (fine_iff _ _).1 (hfL u (List.mem_of_getElem? g5))
      rw [t1, t2] at f1
      rw [u1, u2] at f2
      have hd0 : 0 ≤ d := by
        rcases Int.lt_or_le d 0 with c | c
        · have e : d = -1 := by omega
          subst e
          have f3 := f2.2.2.2
          simp at f3
          omega
        · exact c
      have hfd : fine d b = true := by
        obtain ⟨n, hn⟩ : ∃ n : Nat, d = (n : Int) := ⟨d.toNat, by omega⟩
        have f3 := f1.2.2.2
        rw [show (d + 1).toNat = n + 1 by omega, p2_succ] at f3
        exact (fine_iff _ _).2 ⟨by omega, by omega, by omega, by rw [show d.toNat = n by omega]; omega⟩
      rw [if_neg (by rw [hfd, h3, g3]; simp; omega)]
      unfold mergeT at h2 hf ⊢
      rw [if_pos ⟨h4, g4⟩] at h2 hf ⊢
      dsimp only at h2 hf
      have hu : (L.take i ++ L.drop (i + 1)).any (fun s => s.d == d + 1 && s.b == 2 * b + 1) = true := by
        rw [cut_filter hp h5, List.any_eq_true]
        refine ⟨u, List.mem_filter.2 ⟨List.mem_of_getElem? g5, ?_⟩, by simp [u1, u2]⟩
        simp only [u1, u2, t1, t2, Bool.not_eq_true', Bool.and_eq_false_iff]
        right; simp; omega
      rcases atG_cases (d + 1) (2 * b + 1) (L.take i ++ L.drop (i + 1)) 0 with ⟨k1, k3⟩ | ⟨m, k1, k3, k4, v, k5, v1, v2⟩
      · unfold hasT at k3; rw [hu] at k3; exact absurd k3 (by decide)
      · simp only [h3, Nat.zero_add, Int.toNat_natCast, k3, h5, Option.map_some, Option.getD_some]
        congr 1
        exact merge_ins hp h5 ⟨t1, t2⟩ k5 ⟨v1, v2⟩ h2 hf
theorem mem_cut {L : List Tl} {i j : Nat} {u : Tl} (h : L[j]? = some u) (hne : j ≠ i) : u ∈ L.take i ++ L.drop (i + 1) := by
  rcases Nat.lt_or_gt_of_ne hne with c | c
  · exact List.mem_append_left _ (List.mem_of_getElem? (i := j) (by rw [List.getElem?_take_of_lt c]; exact h))
  · exact List.mem_append_right _ (List.mem_of_getElem? (i := j - (i + 1)) (by rw [List.getElem?_drop, show i + 1 + (j - (i + 1)) = j by omega]; exact h))
set_option maxRecDepth 100000 in
set_option maxHeartbeats 6400000 in
theorem refMerge_any {gr : Nat} {k : Int} {L : List Tl} {v : Value} {w : World} (h : RefO gr k L v w) (d b : Int) (hm : L.length ≤ 900) : Calls Try.prog 55 #[.pointer (some ⟨gr, 0, none⟩), .agg #[.int .i64 d, .int .i64 b]] w (RefC gr k (mergeG L d b) w) := by
  obtain ⟨va, vc, rfl⟩ := h.size
  have hbx := h.box
  have c1 := box_cell hbx 1 (.slice va L.length vc) rfl
  obtain ⟨wl, hwl⟩ : ∃ wl, wl = w.alloc (.cells #[.int .i64 d, .int .i64 b] 27) := ⟨_, rfl⟩
  have hs0 : Since w wl := by rw [hwl]; exact (Since.refl w).alloc _
  have wh0 : Whole wl w.heap.size 27 #[.int .i64 d, .int .i64 b] := by rw [hwl]; exact Whole.new w _ _
  have p0 := box_cell wh0 0 (.int .i64 d) rfl
  have p1 := box_cell wh0 1 (.int .i64 b) rfl
  replace c1 := fun W (hW : Since wl W) => c1 W (hs0.trans hW)
  have H := Lib.hid h
  have HS0 := Lib.hid hs0
  have hsl := Since.refl wl
  clear hbx
  by_cases hff : fine d b = false
  · have hr : mergeG L d b = (3, L) := if_pos (.inl hff)
    rw [hr]
    have HC0 := Lib.hid (fun W => refChild_no d b 0 W hff (.inl rfl))
    have HC1 := Lib.hid (fun W => refChild_no d b 1 W hff (.inr rfl))
    clear hr hff h c1
    go_enter Try.func55, Try.ntmps55
    go_wp2_with fail
    rw [← hwl]
    clear hwl
    go_wp2_with (first | (go_at_call 102; (with_reducible refine (HC0.out _).mono ?_); rintro e w3 ⟨rfl, hb3⟩; have hNa : Whole (w3.alloc (.cells #[.int .i64 0, .int .i64 0] 27)) w3.heap.size 27 #[.int .i64 0, .int .i64 0] := Whole.new w3 _ _; have hs3 : Since wl (w3.alloc (.cells #[.int .i64 0, .int .i64 0] 27)) := Since.alloc (Since.ofBelow hb3 (Nat.le_refl _)) _; have f0 := p0 _ hs3; have f1 := p1 _ hs3) | (go_at_call 102; (with_reducible refine (HC1.out _).mono ?_); rintro e w4 ⟨rfl, hb4⟩; have hNa4 := (Since.whole hb4 hNa).alloc (.cells #[.int .i64 0, .int .i64 0] 27); have hNb : Whole (w4.alloc (.cells #[.int .i64 0, .int .i64 0] 27)) w4.heap.size 27 #[.int .i64 0, .int .i64 0] := Whole.new w4 _ _; have hs4 : Since wl (w4.alloc (.cells #[.int .i64 0, .int .i64 0] 27)) := Since.alloc (hs3.trans hb4) _))
    go_ret
    exact ⟨rfl, ⟨_, H.out.since (HS0.out.trans hs4)⟩, (HS0.out.trans hs4).off _⟩
  · have hfi : fine d b = true := by cases z : fine d b with
      | true => rfl
      | false => exact absurd z hff
    by_cases hd : d = 32
    · have hr : mergeG L d b = (3, L) := if_pos (.inr (.inl hd))
      rw [hr]
      have HC0 := Lib.hid (fun W => refChild_cell d b 0 W hfi hd (.inl rfl))
      have HC1 := Lib.hid (fun W => refChild_cell d b 1 W hfi hd (.inr rfl))
      clear hr hff h c1 hd hfi
      go_enter Try.func55, Try.ntmps55
      go_wp2_with fail
      rw [← hwl]
      clear hwl
      go_wp2_with (first | (go_at_call 102; (with_reducible refine (HC0.out _).mono ?_); rintro e w3 ⟨rfl, hb3⟩; have hNa : Whole (w3.alloc (.cells #[.int .i64 0, .int .i64 0] 27)) w3.heap.size 27 #[.int .i64 0, .int .i64 0] := Whole.new w3 _ _; have hs3 : Since wl (w3.alloc (.cells #[.int .i64 0, .int .i64 0] 27)) := Since.alloc (Since.ofBelow hb3 (Nat.le_refl _)) _; have f0 := p0 _ hs3; have f1 := p1 _ hs3) | (go_at_call 102; (with_reducible refine (HC1.out _).mono ?_); rintro e w4 ⟨rfl, hb4⟩; have hNa4 := (Since.whole hb4 hNa).alloc (.cells #[.int .i64 0, .int .i64 0] 27); have hNb : Whole (w4.alloc (.cells #[.int .i64 0, .int .i64 0] 27)) w4.heap.size 27 #[.int .i64 0, .int .i64 0] := Whole.new w4 _ _; have hs4 : Since wl (w4.alloc (.cells #[.int .i64 0, .int .i64 0] 27)) := Since.alloc (hs3.trans hb4) _))
      go_ret
      exact ⟨rfl, ⟨_, H.out.since (HS0.out.trans hs4)⟩, (HS0.out.trans hs4).off _⟩
    · have hfb := (fine_iff _ _).1 hfi
      have hd32 : d < 32 := by omega
      obtain ⟨D, hD⟩ : ∃ D, d + 1 = D := ⟨_, rfl⟩
      obtain ⟨X, hX⟩ : ∃ D, 2 * b = D := ⟨_, rfl⟩
      obtain ⟨Y, hY⟩ : ∃ D, 2 * b + 1 = D := ⟨_, rfl⟩
      have HC0 := Lib.hid (fun W => show Calls Try.prog 102 #[.agg #[.int .i64 d, .int .i64 b], .int .i64 0] W fun e w' => e = .returned (.tuple #[.agg #[.int .i64 D, .int .i64 X], .int .i64 0]) ∧ Below W.heap.size W w' by
        have z := refChild_yes d b 0 W hfi hd32 (.inl rfl)
        rw [Int.add_zero, hD, hX] at z
        exact z)
      have HC1 := Lib.hid (fun W => show Calls Try.prog 102 #[.agg #[.int .i64 d, .int .i64 b], .int .i64 1] W fun e w' => e = .returned (.tuple #[.agg #[.int .i64 D, .int .i64 Y], .int .i64 0]) ∧ Below W.heap.size W w' by
        have z := refChild_yes d b 1 W hfi hd32 (.inr rfl)
        rw [hD, hY] at z
        exact z)
      have hme : mergeG L d b = if atG D X L 0 < 0 ∨ atG D Y L 0 < 0 then (3, L) else (0, insT ((L.take (atG D X L 0).toNat ++ L.drop ((atG D X L 0).toNat + 1)).take (atG D Y (L.take (atG D X L 0).toNat ++ L.drop ((atG D X L 0).toNat + 1)) 0).toNat ++
          (L.take (atG D X L 0).toNat ++ L.drop ((atG D X L 0).toNat + 1)).drop ((atG D Y (L.take (atG D X L 0).toNat ++ L.drop ((atG D X L 0).toNat + 1)) 0).toNat + 1)) ⟨d, b, ((L[(atG D X L 0).toNat]?).map Tl.who).getD 0⟩) := by
        unfold mergeG
        simp only [← hD, ← hX, ← hY]
        by_cases z : atG (d + 1) (2 * b) L 0 < 0 ∨ atG (d + 1) (2 * b + 1) L 0 < 0
        · rw [if_pos z, if_pos (.inr (.inr z))]
        · rw [if_neg z, if_neg (by rw [hfi]; simp; omega)]
      rw [hme]
      have hXY : ¬ (D = D ∧ Y = X) := by omega
      have HATA := fun W (hW : Since w W) => refAtL_any (h.since hW) D X (by omega)
      have HATB := fun W (hW : Since w W) => refAtL_any (h.since hW) D Y (by omega)
      rcases atG_cases D X L 0 with ⟨e1, e2⟩ | ⟨i, e1, e2, e3, t, e4, t1, t2⟩
      · rw [e1] at HATA
        rw [if_pos (.inl (by rw [e1]; decide))]
        clear hme e1 e2 HATB hfb hfi hff hD hX hY
        go_enter Try.func55, Try.ntmps55
        go_wp2_with fail
        rw [← hwl]
        clear hwl
        go_upto_region 3 with (first | (go_at_call 102; (with_reducible refine (HC0.out _).mono ?_); rintro e w3 ⟨rfl, hb3⟩; have hNa : Whole (w3.alloc (.cells #[.int .i64 D, .int .i64 X] 27)) w3.heap.size 27 #[.int .i64 D, .int .i64 X] := Whole.new w3 _ _; have hs3 : Since wl (w3.alloc (.cells #[.int .i64 D, .int .i64 X] 27)) := Since.alloc (Since.ofBelow hb3 (Nat.le_refl _)) _; have f0 := p0 _ hs3; have f1 := p1 _ hs3) | (go_at_call 102; (with_reducible refine (HC1.out _).mono ?_); rintro e w4 ⟨rfl, hb4⟩; have hNa4 := (Since.whole hb4 hNa).alloc (.cells #[.int .i64 D, .int .i64 Y] 27); have hNb : Whole (w4.alloc (.cells #[.int .i64 D, .int .i64 Y] 27)) w4.heap.size 27 #[.int .i64 D, .int .i64 Y] := Whole.new w4 _ _; have hs4 : Since wl (w4.alloc (.cells #[.int .i64 D, .int .i64 Y] 27)) := Since.alloc (hs3.trans hb4) _))
        obtain ⟨wb, hwb⟩ : ∃ wb, wb = w4.alloc (.cells #[.int .i64 D, .int .i64 Y] 27) := ⟨_, rfl⟩
        rw [← hwb] at hs4 hNa4 hNb ⊢
        clear hwb
        have HAT := Lib.hid (fun W (hW : Since wb W) => HATA W (HS0.out.trans (hs4.trans hW)))
        have hsb := Since.refl wb
        have a0 := box_cell hNa4 0 _ rfl
        have a1 := box_cell hNa4 1 _ rfl
        clear HATA
        go_wp2_with ((go_at_call 65; (with_reducible refine (HAT.out _ (by assumption)).mono ?_); rintro e wn ⟨rfl, hbn⟩; have hsn : Since wb wn := Since.trans (by assumption) hbn))
        go_ret
        exact ⟨rfl, ⟨_, H.out.since (HS0.out.trans (hs4.trans hsn))⟩, (HS0.out.trans (hs4.trans hsn)).off _⟩
      · rw [e2, Nat.zero_add] at HATA
        have di : decide ((i : Int) < 0) = false := decide_eq_false (by omega)
        rcases atG_cases D Y L 0 with ⟨g1, g2⟩ | ⟨j, g1, g2, g3, u, g4, u1, u2⟩
        · rw [g1] at HATB
          rw [if_pos (.inr (by rw [g1]; decide))]
          clear hme e1 e2 g1 g2 hfb hfi hff hD hX hY
          go_enter Try.func55, Try.ntmps55
          go_wp2_with fail
          rw [← hwl]
          clear hwl
          go_upto_region 3 with (first | (go_at_call 102; (with_reducible refine (HC0.out _).mono ?_); rintro e w3 ⟨rfl, hb3⟩; have hNa : Whole (w3.alloc (.cells #[.int .i64 D, .int .i64 X] 27)) w3.heap.size 27 #[.int .i64 D, .int .i64 X] := Whole.new w3 _ _; have hs3 : Since wl (w3.alloc (.cells #[.int .i64 D, .int .i64 X] 27)) := Since.alloc (Since.ofBelow hb3 (Nat.le_refl _)) _; have f0 := p0 _ hs3; have f1 := p1 _ hs3) | (go_at_call 102; (with_reducible refine (HC1.out _).mono ?_); rintro e w4 ⟨rfl, hb4⟩; have hNa4 := (Since.whole hb4 hNa).alloc (.cells #[.int .i64 D, .int .i64 Y] 27); have hNb : Whole (w4.alloc (.cells #[.int .i64 D, .int .i64 Y] 27)) w4.heap.size 27 #[.int .i64 D, .int .i64 Y] := Whole.new w4 _ _; have hs4 : Since wl (w4.alloc (.cells #[.int .i64 D, .int .i64 Y] 27)) := Since.alloc (hs3.trans hb4) _))
          obtain ⟨wb, hwb⟩ : ∃ wb, wb = w4.alloc (.cells #[.int .i64 D, .int .i64 Y] 27) := ⟨_, rfl⟩
          rw [← hwb] at hs4 hNa4 hNb ⊢
          clear hwb
          have HAT := Lib.hid (fun W (hW : Since wb W) => HATA W (HS0.out.trans (hs4.trans hW)))
          have HAU := Lib.hid (fun W (hW : Since wb W) => HATB W (HS0.out.trans (hs4.trans hW)))
          have hsb := Since.refl wb
          have a0 := box_cell hNa4 0 _ rfl
          have a1 := box_cell hNa4 1 _ rfl
          have b0 := box_cell hNb 0 _ rfl
          have b1 := box_cell hNb 1 _ rfl
          clear HATA HATB
          go_wp2_with (first | (go_at_call 65; (with_reducible refine (HAT.out _ (by assumption)).mono ?_); rintro e wn ⟨rfl, hbn⟩; have hsn : Since wb wn := Since.trans (by assumption) hbn) | (go_at_call 65; (with_reducible refine (HAU.out _ (by assumption)).mono ?_); rintro e wn ⟨rfl, hbn⟩; have hsn : Since wb wn := Since.trans (by assumption) hbn))
          go_ret
          exact ⟨rfl, ⟨_, H.out.since (HS0.out.trans (hs4.trans hsn))⟩, (HS0.out.trans (hs4.trans hsn)).off _⟩
        · rw [g2, Nat.zero_add] at HATB
          have dj : decide ((j : Int) < 0) = false := decide_eq_false (by omega)
          rw [if_neg (by rw [e2, g2]; omega)]
          have hji : j ≠ i := by
            intro z
            rw [z, e4] at g4
            injection g4 with z2
            rw [← z2] at u2
            omega
          have hin := mem_cut (i := i) g4 hji
          obtain ⟨td, tb, tw⟩ := t
          dsimp only at t1 t2
          subst t1 t2
          have hln : (L.take i ++ L.drop (i + 1)).length ≤ 900 := by rw [List.length_append, List.length_take, List.length_drop]; omega
          simp only [e2, Nat.zero_add, Int.toNat_natCast, e4, Option.map_some, Option.getD_some]
          obtain ⟨L1, hL1⟩ : ∃ L1, L.take i ++ L.drop (i + 1) = L1 := ⟨_, rfl⟩
          have HCUT := fun W (hW : Since w W) => refCut_any (h.since hW) i e1 (by omega)
          rw [hL1] at hin hln ⊢
          simp only [hL1] at HCUT
          rcases atG_cases td Y L1 0 with ⟨k1, k2⟩ | ⟨m, k1, k2, _⟩
          · rw [Bool.eq_false_iff] at k2
            exact absurd (List.any_eq_true.2 ⟨u, hin, by simp [u1, u2]⟩) k2
          · rw [k2, Nat.zero_add, Int.toNat_natCast]
            rw [Nat.zero_add] at k2
            obtain ⟨g, cap, e0, hcap, _⟩ := H.out.form e1
            injection e0 with e5 e6 e7
            subst e5 e7
            have hLi : L[i] = ⟨td, tb, tw⟩ := (List.getElem?_eq_some_iff.1 e4).2
            have HTI := fun W (hW : Since w W) => (H.out.tile hW e1 rfl).2.2.trans (by rw [hLi])
            have hgr : gr < w.heap.size := H.out.box.lt
            clear hme e2 e3 e4 g1 g2 g3 g4 u1 u2 hfb hfi hff hD hX hY hji hin hLi hL1 e6
            go_enter Try.func55, Try.ntmps55
            go_wp2_with fail
            rw [← hwl]
            clear hwl
            go_upto_region 3 with (first | (go_at_call 102; (with_reducible refine (HC0.out _).mono ?_); rintro e w3 ⟨rfl, hb3⟩; have hNa : Whole (w3.alloc (.cells #[.int .i64 td, .int .i64 tb] 27)) w3.heap.size 27 #[.int .i64 td, .int .i64 tb] := Whole.new w3 _ _; have hs3 : Since wl (w3.alloc (.cells #[.int .i64 td, .int .i64 tb] 27)) := Since.alloc (Since.ofBelow hb3 (Nat.le_refl _)) _; have f0 := p0 _ hs3; have f1 := p1 _ hs3) | (go_at_call 102; (with_reducible refine (HC1.out _).mono ?_); rintro e w4 ⟨rfl, hb4⟩; have hNa4 := (Since.whole hb4 hNa).alloc (.cells #[.int .i64 td, .int .i64 Y] 27); have hNb : Whole (w4.alloc (.cells #[.int .i64 td, .int .i64 Y] 27)) w4.heap.size 27 #[.int .i64 td, .int .i64 Y] := Whole.new w4 _ _; have hs4 : Since wl (w4.alloc (.cells #[.int .i64 td, .int .i64 Y] 27)) := Since.alloc (hs3.trans hb4) _))
            have hgb : gr ≠ w4.heap.size := by
              have := Since.size_ HS0.out
              have := Since.size_ (hs3.trans hb4)
              omega
            obtain ⟨wb, hwb⟩ : ∃ wb, wb = w4.alloc (.cells #[.int .i64 td, .int .i64 Y] 27) := ⟨_, rfl⟩
            rw [← hwb] at hs4 hNa4 hNb ⊢
            clear hwb
            have hwb0 : Since w wb := HS0.out.trans hs4
            have HAT := Lib.hid (fun W (hW : Since wb W) => HATA W (hwb0.trans hW))
            have HAU := Lib.hid (fun W (hW : Since wb W) => HATB W (hwb0.trans hW))
            have HCU := Lib.hid (fun W (hW : Since wb W) => HCUT W (hwb0.trans hW))
            have hTI := fun W (hW : Since wb W) => HTI W (hwb0.trans hW)
            have cc := fun W (hW : Since wb W) => c1 W (hs4.trans hW)
            have hPb := Since.whole hs4 wh0
            have hsb := Since.refl wb
            have a0 := box_cell hNa4 0 _ rfl
            have a1 := box_cell hNa4 1 _ rfl
            have b0 := box_cell hNb 0 _ rfl
            have b1 := box_cell hNb 1 _ rfl
            clear HATA HATB HCUT HTI c1 p0 p1
            go_upto_region 5 with (first | (go_at_call 65; (with_reducible refine (HAT.out _ (by assumption)).mono ?_); rintro e wn ⟨rfl, hbn⟩; have hsn : Since wb wn := Since.trans (by assumption) hbn) | (go_at_call 65; (with_reducible refine (HAU.out _ (by assumption)).mono ?_); rintro e wn ⟨rfl, hbn⟩; have hsn : Since wb wn := Since.trans (by assumption) hbn))
            obtain ⟨wq, hwq⟩ : ∃ wq, wq = wn.drew := ⟨_, rfl⟩
            refine wp_region_held_drew (S := fun W => Since wb W) (by kernel_rfl) (Since.drew hsn) (fun hHeld => ?_)
            rw [← hwq] at hHeld ⊢
            have hq : Since wb wq := hHeld
            clear hwq
            refine wpAnyH_take (i := 0) (v := ?_) rfl (by kernel_rfl) (by kernel_rfl) (by kernel_rfl) (fun _ _ _ h => h) (Or.inl ⟨by rfl, ?_⟩) (by assumption) ?_
            rotate_left 1
            · (intro W hW; clear hW; go_simp; try with_reducible rfl)
            simp only [Act.put, List.getElem_toArray, List.getElem_cons_zero, List.setIfInBounds_toArray, List.set_cons_zero, List.set_cons_succ]
            refine wpAnyH_take (i := 1) (v := ?_) rfl (by kernel_rfl) (by kernel_rfl) (by kernel_rfl) (fun _ _ _ h => h) (Or.inl ⟨by rfl, ?_⟩) (by assumption) ?_
            rotate_left 1
            · (intro W hW; clear hW; go_simp; try with_reducible rfl)
            simp only [Act.put, List.getElem_toArray, List.getElem_cons_succ, List.getElem_cons_zero, List.setIfInBounds_toArray, List.set_cons_zero, List.set_cons_succ]
            refine wpAnyH_take (i := 2) (v := ?_) rfl (by kernel_rfl) (by kernel_rfl) (by kernel_rfl) (fun _ _ _ h => h) (Or.inl ⟨by rfl, ?_⟩) (by assumption) ?_
            rotate_left 1
            · (intro W hW; clear hW; go_simp; try with_reducible rfl)
            simp only [Act.put, List.getElem_toArray, List.getElem_cons_succ, List.getElem_cons_zero, List.setIfInBounds_toArray, List.set_cons_zero, List.set_cons_succ]
            refine wpAnyH_take (i := 3) (v := ?_) rfl (by kernel_rfl) (by kernel_rfl) (by kernel_rfl) (fun _ _ _ h => h) (Or.inl ⟨by rfl, ?_⟩) (by assumption) ?_
            rotate_left 1
            · (intro W hW; skip; go_simp; try with_reducible rfl)
            simp only [Act.put, List.getElem_toArray, List.getElem_cons_succ, List.getElem_cons_zero, List.setIfInBounds_toArray, List.set_cons_zero, List.set_cons_succ]
            refine wpAnyH_take (i := 4) (v := ?_) rfl (by kernel_rfl) (by kernel_rfl) (by kernel_rfl) (fun _ _ _ h => h) (Or.inl ⟨by rfl, ?_⟩) (by assumption) ?_
            rotate_left 1
            · (intro W hW; clear hW; go_simp; try with_reducible rfl)
            simp only [Act.put, List.getElem_toArray, List.getElem_cons_succ, List.getElem_cons_zero, List.setIfInBounds_toArray, List.set_cons_zero, List.set_cons_succ]
            refine wpAnyH_take (i := 5) (v := ?_) rfl (by kernel_rfl) (by kernel_rfl) (by kernel_rfl) (fun _ _ _ h => h) (Or.inl ⟨by rfl, ?_⟩) (by assumption) ?_
            rotate_left 1
            · (intro W hW; skip; go_simp; try with_reducible rfl)
            simp only [Act.put, List.getElem_toArray, List.getElem_cons_succ, List.getElem_cons_zero, List.setIfInBounds_toArray, List.set_cons_zero, List.set_cons_succ]
            refine wpAnyH_ready (rs := [6]) (by kernel_rfl) (by simp) ?_
            refine AllReadyH.cons rfl (fun K hK => ?_) AllReadyH.nil
            go_simp
            refine (HAT.out _ hq).mono ?_
            rintro e wr ⟨rfl, hbr⟩
            have hsr : Since wb wr := Since.trans hq hbr
            go_wp2_with fail
            refine hK.out _ _ (hsr) (fun hHeld => ?_)
            clear hK K
            try simp only [Act.put, List.getElem_toArray, List.getElem_cons_succ, List.getElem_cons_zero, List.setIfInBounds_toArray, List.set_cons_zero, List.set_cons_succ]
            refine wpAnyH_take (i := 7) (v := ?_) rfl (by kernel_rfl) (by kernel_rfl) (by kernel_rfl) (fun _ _ _ h => h) (Or.inl ⟨by rfl, ?_⟩) (by assumption) ?_
            rotate_left 1
            · (intro W hW; clear hW; go_simp; try with_reducible rfl)
            simp only [Act.put, List.getElem_toArray, List.getElem_cons_succ, List.getElem_cons_zero, List.setIfInBounds_toArray, List.set_cons_zero, List.set_cons_succ]
            refine wpAnyH_take (i := 8) (v := ?_) rfl (by kernel_rfl) (by kernel_rfl) (by kernel_rfl) (fun _ _ _ h => h) (Or.inl ⟨by rfl, ?_⟩) (by assumption) ?_
            rotate_left 1
            · (intro W hW; clear hW; go_simp; try with_reducible rfl)
            simp only [Act.put, List.getElem_toArray, List.getElem_cons_succ, List.getElem_cons_zero, List.setIfInBounds_toArray, List.set_cons_zero, List.set_cons_succ]
            refine wpAnyH_take (i := 9) (v := ?_) rfl (by kernel_rfl) (by kernel_rfl) (by kernel_rfl) (fun _ _ _ h => h) (Or.inl ⟨by rfl, ?_⟩) (by assumption) ?_
            rotate_left 1
            · (intro W hW; skip; go_simp; try with_reducible rfl)
            simp only [Act.put, List.getElem_toArray, List.getElem_cons_succ, List.getElem_cons_zero, List.setIfInBounds_toArray, List.set_cons_zero, List.set_cons_succ]
            refine wpAnyH_take (i := 10) (v := ?_) rfl (by kernel_rfl) (by kernel_rfl) (by kernel_rfl) (fun _ _ _ h => h) (Or.inl ⟨by rfl, ?_⟩) (by assumption) ?_
            rotate_left 1
            · (intro W hW; clear hW; go_simp; try with_reducible rfl)
            simp only [Act.put, List.getElem_toArray, List.getElem_cons_succ, List.getElem_cons_zero, List.setIfInBounds_toArray, List.set_cons_zero, List.set_cons_succ]
            refine wpAnyH_done (by kernel_rfl) ?_ _
            go_wp2_with (go_at_call 65; (with_reducible refine (HAT.out _ (by assumption)).mono ?_); rintro e wn ⟨rfl, hbn⟩; have hsn : Since wb wn := Since.trans (by assumption) hbn)
            refine (HCU.out _ (by assumption)).mono ?_
            rintro e w5 ⟨rfl, ⟨v5, g5⟩, o5⟩
            have hNb5 := o5.whole (Since.whole hsn hNb) (Ne.symm hgb)
            have hP5 := o5.whole (Since.whole hsn hPb) (by omega)
            have o5w := (Since.off (hwb0.trans hsn) (fun b => b = gr)).trans o5 (fun _ _ z => z)
            have zb0 := hNb5.cell 0
            have zb1 := hNb5.cell 1
            have HAV := refAtL_any g5 td Y (by omega)
            rw [k2] at HAV
            go_wp2_with fail
            refine HAV.mono ?_
            rintro e w6 ⟨rfl, hb6⟩
            have hP6 := Since.whole hb6 hP5
            go_wp2_with fail
            refine (refCut_any (g5.since hb6) m k1 (by omega)).mono ?_
            rintro e w7 ⟨rfl, ⟨v7, g7⟩, o7⟩
            have hP7 := o7.whole hP6 (by omega)
            have zp0 := hP7.cell 0
            have zp1 := hP7.cell 1
            go_wp2_with fail
            refine (refPut_any g7 d b tw (by rw [List.length_append, List.length_take, List.length_drop]; omega)).mono ?_
            rintro e w8 ⟨rfl, ⟨v8, g8⟩, o8⟩
            go_wp2_with fail
            go_ret
            exact ⟨rfl, ⟨_, g8⟩, ((o5w.since hb6).trans o7 (fun _ _ z => z)).trans o8 (fun _ _ z => z)⟩
end Go.Proofs.Ytgnhamhkpbadbaa
namespace Go.Proofs.Ytgnhamhkpbadbaa
open Go.RowKit
set_option linter.unusedVariables false
set_option linter.unusedSimpArgs false
theorem infoP5 : (Try.prog.info? 27).map (fun i => (i.zero, i.size, i.bytes)) = some (some (.agg #[.int .i64 0, .int .i64 0]), 2, 16) := by kernel_rfl
theorem encG_one (r : Int × Int) : ∀ u ∈ encG r, u.oneCell' = true := by simp [encG, Value.oneCell']
/-- A list of one path of the call's own. -/
theorem row_one (W : World) (d b : Int) : RowE encG 2 (W.alloc (.cells #[.int .i64 d, .int .i64 b] 27)) W.heap.size 27 (.slice (some ⟨W.heap.size, 0, none⟩) 1 1) [(d, b)] :=
  ⟨by simp [encG], .inr ⟨W.heap.size, 1, #[.int .i64 d, .int .i64 b], rfl, Nat.le_refl _, World.alloc_heap_new W _, Nat.le_refl _, by decide, by simp, by simp [encG]⟩⟩
def GapsC (gr : Nat) (k : Int) (L : List Tl) (n : Nat) : Prop := ∀ (d b : Int) (v : Value) (w : World), d + n = 32 → fine d b = true → RefO gr k L v w → Calls Try.prog 71 #[.pointer (some ⟨gr, 0, none⟩), .agg #[.int .i64 d, .int .i64 b]] w fun e W' => ∃ a, e = .returned a ∧ RowE encG 2 W' w.heap.size 27 a (gapsG L n d b) ∧ Since w W'
theorem gaps_abv {L : List Tl} {n : Nat} {d b : Int} (h : (L.any fun s => abvB s.d s.b d b) = true) : gapsG L n d b = [] := by cases n <;> (unfold gapsG; rw [h]; rfl)
theorem gaps_none {L : List Tl} {n : Nat} {d b : Int} (h : (L.any fun s => abvB s.d s.b d b) = false) (g : (L.any fun s => metB s.d s.b d b) = false) : gapsG L n d b = [(d, b)] := by cases n <;> (unfold gapsG; rw [h]; simp [g])
theorem gaps_more {L : List Tl} {n : Nat} {d b : Int} (h : (L.any fun s => abvB s.d s.b d b) = false) (g : (L.any fun s => metB s.d s.b d b) = true) : gapsG L (n + 1) d b = gapsG L n (d + 1) (2 * b) ++ gapsG L n (d + 1) (2 * b + 1) := by rw [gapsG, h, g]; rfl
theorem met_deep {L : List Tl} {d b : Int} (h : (L.any fun s => abvB s.d s.b d b) = false) (g : (L.any fun s => metB s.d s.b d b) = true) : d < 32 := by
  obtain ⟨s, hs, hm⟩ := List.any_eq_true.1 g
  unfold metB at hm
  rw [Bool.or_eq_true] at hm
  rcases hm with hm | hm
  · exact absurd (List.any_eq_true.2 ⟨s, hs, hm⟩) (by rw [h]; exact Bool.false_ne_true)
  · obtain ⟨h1, h2, h3, h4⟩ := (abvB_iff _ _ _ _).1 hm
    have f2 := (fine_iff _ _).1 h2
    rcases Int.lt_or_le d s.d with c | c
    · omega
    · have e : d = s.d := by omega
      have e2 := abv_eq hm e
      have z : (L.any fun s => abvB s.d s.b d b) = true := List.any_eq_true.2 ⟨s, hs, by show abvB s.d s.b d b = true; rw [← e, ← e2]; exact abv_self h1⟩
      rw [h] at z
      exact absurd z (by decide)
set_option maxRecDepth 100000 in
set_option maxHeartbeats 6400000 in
theorem gaps_step {gr : Nat} {k : Int} {L : List Tl} (hm : L.length ≤ 1000) (n : Nat) (hI : n = 0 ∨ ∃ j, n = j + 1 ∧ GapsC gr k L j) : GapsC gr k L n := by
  intro d b v w hn hfd h
  obtain ⟨va, vc, rfl⟩ := h.size
  have hbx := h.box
  have c1 := box_cell hbx 1 (.slice va L.length vc) rfl
  obtain ⟨wl, hwl⟩ : ∃ wl, wl = w.alloc (.cells #[.int .i64 d, .int .i64 b] 27) := ⟨_, rfl⟩
  have hs0 : Since w wl := by rw [hwl]; exact (Since.refl w).alloc _
  have wh0 : Whole wl w.heap.size 27 #[.int .i64 d, .int .i64 b] := by rw [hwl]; exact Whole.new w _ _
  have p0 := box_cell wh0 0 (.int .i64 d) rfl
  have p1 := box_cell wh0 1 (.int .i64 b) rfl
  replace c1 := fun W (hW : Since wl W) => c1 W (hs0.trans hW)
  have H := Lib.hid h
  have HS0 := Lib.hid hs0
  have HFD := Lib.hid hfd
  have HN := Lib.hid hn
  have HI := Lib.hid hI
  obtain ⟨R, hR⟩ : ∃ R, gapsG L n d b = R := ⟨_, rfl⟩
  rw [hR]
  have HR := Lib.hid hR
  clear hbx hR h hfd hn hI
  go_enter Try.func71, Try.ntmps71
  go_wp2_with fail
  rw [← hwl]
  clear hwl hs0
  go_loopw [5, 6] (fun mv iv wr => ∃ (m : Nat) (mt : Bool), iv = .int .i64 m ∧ m ≤ L.length ∧ mv = .bool mt ∧ Since wl wr ∧ ((L.drop m).any fun s => abvB s.d s.b d b) = (L.any fun s => abvB s.d s.b d b) ∧ (mt || (L.drop m).any fun s => metB s.d s.b d b) = L.any fun s => metB s.d s.b d b) (fun _ iv _ => L.length - (intOf iv).toNat)
  case atStart => exact ⟨0, false, rfl, Nat.zero_le _, rfl, Since.refl wl, rfl, rfl⟩
  case round =>
    obtain ⟨m, mt, rfl, hml, rfl, hs, hA, hM⟩ := hrel
    have q1 := c1 _ hs
    have hwrap : wrap64 ((m : Int) + 1) = ((m + 1 : Nat) : Int) := IntWalk.wrap64_in _ ⟨by omega, by omega⟩
    by_cases hlt : m < L.length
    · have d1 : decide ((m : Int) < L.length) = true := decide_eq_true (by omega)
      obtain ⟨g, cap, e0, hcap, _⟩ := H.out.form hlt
      injection e0 with e1 e3 e4
      subst e1 e4
      obtain ⟨⟨td, tb, tw⟩, ht⟩ : ∃ t, t = L[m] := ⟨_, rfl⟩
      have hdr : L.drop m = ⟨td, tb, tw⟩ :: L.drop (m + 1) := by rw [ht]; exact List.drop_eq_getElem_cons hlt
      rw [hdr, List.any_cons] at hA hM
      obtain ⟨ab, hab⟩ : ∃ x, abvB td tb d b = x := ⟨_, rfl⟩
      obtain ⟨me, hme⟩ : ∃ x, metB td tb d b = x := ⟨_, rfl⟩
      have hA' : (ab || (L.drop (m + 1)).any fun s => abvB s.d s.b d b) = L.any fun s => abvB s.d s.b d b := by rw [← hab]; exact hA
      have hM' : (mt || (me || (L.drop (m + 1)).any fun s => metB s.d s.b d b)) = L.any fun s => metB s.d s.b d b := by rw [← hme]; exact hM
      have HCA := Lib.hid (fun W => refAbove_at hab W)
      have HCM := Lib.hid (fun W => refMeet_at hme W)
      have HA := Lib.hid hA'
      have HM := Lib.hid hM'
      have hkt0 : ∀ W, Since wr W → W.cell? ⟨g, m * 3, none⟩ = some (.int .i64 td) := fun W hW => (H.out.tile (HS0.out.trans (hs.trans hW)) hlt rfl).1.trans (by rw [← ht])
      have hkt1 : ∀ W, Since wr W → W.cell? ⟨g, m * 3 + 1, none⟩ = some (.int .i64 tb) := fun W hW => (H.out.tile (HS0.out.trans (hs.trans hW)) hlt rfl).2.1.trans (by rw [← ht])
      have cr1 := fun W (hW : Since wr W) => c1 W (hs.trans hW)
      have pr0 := fun W (hW : Since wr W) => p0 W (hs.trans hW)
      have pr1 := fun W (hW : Since wr W) => p1 W (hs.trans hW)
      clear hA hA' hM hM' hdr ht e3 hab hme
      go_upto_region 5 with fail
      obtain ⟨wq, hwq⟩ : ∃ wq, wq = wr.drew := ⟨_, rfl⟩
      refine wp_region_held_drew (S := fun W => Since wr W) (by kernel_rfl) ((Since.refl wr).drew) (fun hHeld => ?_)
      rw [← hwq] at hHeld ⊢
      have hq : Since wr wq := hHeld
      clear hwq
      refine wpAnyH_take (i := 0) (v := ?_) rfl (by kernel_rfl) (by kernel_rfl) (by kernel_rfl) (fun _ _ _ h => h) (Or.inl ⟨by rfl, ?_⟩) (by assumption) ?_
      rotate_left 1
      · (intro W hW; clear hW; go_simp; try with_reducible rfl)
      simp only [Act.put, List.getElem_toArray, List.getElem_cons_zero, List.setIfInBounds_toArray, List.set_cons_zero, List.set_cons_succ]
      refine wpAnyH_take (i := 1) (v := ?_) rfl (by kernel_rfl) (by kernel_rfl) (by kernel_rfl) (fun _ _ _ h => h) (Or.inl ⟨by rfl, ?_⟩) (by assumption) ?_
      rotate_left 1
      · (intro W hW; clear hW; go_simp; try with_reducible rfl)
      simp only [Act.put, List.getElem_toArray, List.getElem_cons_succ, List.getElem_cons_zero, List.setIfInBounds_toArray, List.set_cons_zero, List.set_cons_succ]
      refine wpAnyH_take (i := 2) (v := ?_) rfl (by kernel_rfl) (by kernel_rfl) (by kernel_rfl) (fun _ _ _ h => h) (Or.inl ⟨by rfl, ?_⟩) (by assumption) ?_
      rotate_left 1
      · (intro W hW; clear hW; go_simp; try with_reducible rfl)
      simp only [Act.put, List.getElem_toArray, List.getElem_cons_succ, List.getElem_cons_zero, List.setIfInBounds_toArray, List.set_cons_zero, List.set_cons_succ]
      refine wpAnyH_take (i := 3) (v := ?_) rfl (by kernel_rfl) (by kernel_rfl) (by kernel_rfl) (fun _ _ _ h => h) (Or.inl ⟨by rfl, ?_⟩) (by assumption) ?_
      rotate_left 1
      · (intro W hW; skip; go_simp; try with_reducible rfl)
      simp only [Act.put, List.getElem_toArray, List.getElem_cons_succ, List.getElem_cons_zero, List.setIfInBounds_toArray, List.set_cons_zero, List.set_cons_succ]
      refine wpAnyH_take (i := 4) (v := ?_) rfl (by kernel_rfl) (by kernel_rfl) (by kernel_rfl) (fun _ _ _ h => h) (Or.inl ⟨by rfl, ?_⟩) (by assumption) ?_
      rotate_left 1
      · (intro W hW; clear hW; go_simp; try with_reducible rfl)
      simp only [Act.put, List.getElem_toArray, List.getElem_cons_succ, List.getElem_cons_zero, List.setIfInBounds_toArray, List.set_cons_zero, List.set_cons_succ]
      refine wpAnyH_take (i := 5) (v := ?_) rfl (by kernel_rfl) (by kernel_rfl) (by kernel_rfl) (fun _ _ _ h => h) (Or.inl ⟨by rfl, ?_⟩) (by assumption) ?_
      rotate_left 1
      · (intro W hW; clear hW; go_simp; try with_reducible rfl)
      simp only [Act.put, List.getElem_toArray, List.getElem_cons_succ, List.getElem_cons_zero, List.setIfInBounds_toArray, List.set_cons_zero, List.set_cons_succ]
      refine wpAnyH_take (i := 6) (v := ?_) rfl (by kernel_rfl) (by kernel_rfl) (by kernel_rfl) (fun _ _ _ h => h) (Or.inl ⟨by rfl, ?_⟩) (by assumption) ?_
      rotate_left 1
      · (intro W hW; clear hW; go_simp; try with_reducible rfl)
      simp only [Act.put, List.getElem_toArray, List.getElem_cons_succ, List.getElem_cons_zero, List.setIfInBounds_toArray, List.set_cons_zero, List.set_cons_succ]
      refine wpAnyH_take (i := 7) (v := ?_) rfl (by kernel_rfl) (by kernel_rfl) (by kernel_rfl) (fun _ _ _ h => h) (Or.inl ⟨by rfl, ?_⟩) (by assumption) ?_
      rotate_left 1
      · (intro W hW; skip; go_simp; try with_reducible rfl)
      simp only [Act.put, List.getElem_toArray, List.getElem_cons_succ, List.getElem_cons_zero, List.setIfInBounds_toArray, List.set_cons_zero, List.set_cons_succ]
      refine wpAnyH_take (i := 8) (v := ?_) rfl (by kernel_rfl) (by kernel_rfl) (by kernel_rfl) (fun _ _ _ h => h) (Or.inl ⟨by rfl, ?_⟩) (by assumption) ?_
      rotate_left 1
      · (intro W hW; skip; go_simp; try with_reducible rfl)
      simp only [Act.put, List.getElem_toArray, List.getElem_cons_succ, List.getElem_cons_zero, List.setIfInBounds_toArray, List.set_cons_zero, List.set_cons_succ]
      refine wpAnyH_ready (rs := [9]) (by kernel_rfl) (by simp) ?_
      refine AllReadyH.cons rfl (fun K hK => ?_) AllReadyH.nil
      go_simp
      refine (Calls.since hq (HCA.out _)).mono ?_
      rintro e w2 ⟨rfl, hb2⟩
      go_wp2_with fail
      refine hK.out _ _ (hb2) (fun hHeld => ?_)
      clear hK K
      try simp only [Act.put, List.getElem_toArray, List.getElem_cons_succ, List.getElem_cons_zero, List.setIfInBounds_toArray, List.set_cons_zero, List.set_cons_succ]
      refine wpAnyH_done (by kernel_rfl) ?_ _
      cases ab
      rotate_left
      · go_wp2_with fail
        go_ret
        have hany := HA.out
        rw [Bool.true_or] at hany
        rw [← HR.out, gaps_abv hany.symm]
        exact ⟨_, rfl, RowE.nil _ _ _, HS0.out.trans (hs.trans hb2)⟩
      · have hb2d : Since wr w2.drew := hb2.drew
        go_upto_region 7 with fail
        obtain ⟨wp, hwp⟩ : ∃ wp, wp = w2.drew := ⟨_, rfl⟩
        refine wp_region_held_drew (S := fun W => Since wr W) (by kernel_rfl) hb2d (fun hHeld => ?_)
        rw [← hwp] at hHeld ⊢
        have hp : Since wr wp := hHeld
        clear hwp hb2d
        cases mt
        · skip
          refine wpAnyH_take (i := 0) (v := ?_) rfl (by kernel_rfl) (by kernel_rfl) (by kernel_rfl) (fun _ _ _ h => h) (Or.inl ⟨by rfl, ?_⟩) (by assumption) ?_
          rotate_left 1
          · (intro W hW; clear hW; go_simp; try with_reducible rfl)
          simp only [Act.put, List.getElem_toArray, List.getElem_cons_zero, List.setIfInBounds_toArray, List.set_cons_zero, List.set_cons_succ]
          refine wpAnyH_take (i := 1) (v := ?_) rfl (by kernel_rfl) (by kernel_rfl) (by kernel_rfl) (fun _ _ _ h => h) (Or.inl ⟨by rfl, ?_⟩) (by assumption) ?_
          rotate_left 1
          · (intro W hW; clear hW; go_simp; try with_reducible rfl)
          simp only [Act.put, List.getElem_toArray, List.getElem_cons_succ, List.getElem_cons_zero, List.setIfInBounds_toArray, List.set_cons_zero, List.set_cons_succ]
          refine wpAnyH_take (i := 2) (v := ?_) rfl (by kernel_rfl) (by kernel_rfl) (by kernel_rfl) (fun _ _ _ h => h) (Or.inl ⟨by rfl, ?_⟩) (by assumption) ?_
          rotate_left 1
          · (intro W hW; clear hW; go_simp; try with_reducible rfl)
          simp only [Act.put, List.getElem_toArray, List.getElem_cons_succ, List.getElem_cons_zero, List.setIfInBounds_toArray, List.set_cons_zero, List.set_cons_succ]
          refine wpAnyH_take (i := 3) (v := ?_) rfl (by kernel_rfl) (by kernel_rfl) (by kernel_rfl) (fun _ _ _ h => h) (Or.inl ⟨by rfl, ?_⟩) (by assumption) ?_
          rotate_left 1
          · (intro W hW; clear hW; go_simp; try with_reducible rfl)
          simp only [Act.put, List.getElem_toArray, List.getElem_cons_succ, List.getElem_cons_zero, List.setIfInBounds_toArray, List.set_cons_zero, List.set_cons_succ]
          refine wpAnyH_take (i := 4) (v := ?_) rfl (by kernel_rfl) (by kernel_rfl) (by kernel_rfl) (fun _ _ _ h => h) (Or.inl ⟨by rfl, ?_⟩) (by assumption) ?_
          rotate_left 1
          · (intro W hW; clear hW; go_simp; try with_reducible rfl)
          simp only [Act.put, List.getElem_toArray, List.getElem_cons_succ, List.getElem_cons_zero, List.setIfInBounds_toArray, List.set_cons_zero, List.set_cons_succ]
          refine wpAnyH_take (i := 5) (v := ?_) rfl (by kernel_rfl) (by kernel_rfl) (by kernel_rfl) (fun _ _ _ h => h) (Or.inl ⟨by rfl, ?_⟩) (by assumption) ?_
          rotate_left 1
          · (intro W hW; skip; go_simp; try with_reducible rfl)
          simp only [Act.put, List.getElem_toArray, List.getElem_cons_succ, List.getElem_cons_zero, List.setIfInBounds_toArray, List.set_cons_zero, List.set_cons_succ]
          refine wpAnyH_take (i := 6) (v := ?_) rfl (by kernel_rfl) (by kernel_rfl) (by kernel_rfl) (fun _ _ _ h => h) (Or.inl ⟨by rfl, ?_⟩) (by assumption) ?_
          rotate_left 1
          · (intro W hW; clear hW; go_simp; try with_reducible rfl)
          simp only [Act.put, List.getElem_toArray, List.getElem_cons_succ, List.getElem_cons_zero, List.setIfInBounds_toArray, List.set_cons_zero, List.set_cons_succ]
          refine wpAnyH_take (i := 7) (v := ?_) rfl (by kernel_rfl) (by kernel_rfl) (by kernel_rfl) (fun _ _ _ h => h) (Or.inl ⟨by rfl, ?_⟩) (by assumption) ?_
          rotate_left 1
          · (intro W hW; clear hW; go_simp; try with_reducible rfl)
          simp only [Act.put, List.getElem_toArray, List.getElem_cons_succ, List.getElem_cons_zero, List.setIfInBounds_toArray, List.set_cons_zero, List.set_cons_succ]
          refine wpAnyH_take (i := 8) (v := ?_) rfl (by kernel_rfl) (by kernel_rfl) (by kernel_rfl) (fun _ _ _ h => h) (Or.inl ⟨by rfl, ?_⟩) (by assumption) ?_
          rotate_left 1
          · (intro W hW; clear hW; go_simp; try with_reducible rfl)
          simp only [Act.put, List.getElem_toArray, List.getElem_cons_succ, List.getElem_cons_zero, List.setIfInBounds_toArray, List.set_cons_zero, List.set_cons_succ]
          refine wpAnyH_take (i := 9) (v := ?_) rfl (by kernel_rfl) (by kernel_rfl) (by kernel_rfl) (fun _ _ _ h => h) (Or.inl ⟨by rfl, ?_⟩) (by assumption) ?_
          rotate_left 1
          · (intro W hW; skip; go_simp; try with_reducible rfl)
          simp only [Act.put, List.getElem_toArray, List.getElem_cons_succ, List.getElem_cons_zero, List.setIfInBounds_toArray, List.set_cons_zero, List.set_cons_succ]
          refine wpAnyH_take (i := 10) (v := ?_) rfl (by kernel_rfl) (by kernel_rfl) (by kernel_rfl) (fun _ _ _ h => h) (Or.inl ⟨by rfl, ?_⟩) (by assumption) ?_
          rotate_left 1
          · (intro W hW; skip; go_simp; try with_reducible rfl)
          simp only [Act.put, List.getElem_toArray, List.getElem_cons_succ, List.getElem_cons_zero, List.setIfInBounds_toArray, List.set_cons_zero, List.set_cons_succ]
          refine wpAnyH_ready (rs := [11]) (by kernel_rfl) (by simp) ?_
          refine AllReadyH.cons rfl (fun K hK => ?_) AllReadyH.nil
          go_simp
          refine (Calls.since hp (HCM.out _)).mono ?_
          rintro e w3 ⟨rfl, hb3⟩
          go_wp2_with fail
          refine hK.out _ _ (hb3) (fun hHeld => ?_)
          clear hK K
          try simp only [Act.put, List.getElem_toArray, List.getElem_cons_succ, List.getElem_cons_zero, List.setIfInBounds_toArray, List.set_cons_zero, List.set_cons_succ]
          refine wpAnyH_take (i := 12) (v := ?_) rfl (by kernel_rfl) (by kernel_rfl) (by kernel_rfl) (fun _ _ _ h => h) (Or.inl ⟨by rfl, ?_⟩) (by assumption) ?_
          rotate_left 1
          · (intro W hW; clear hW; go_simp; try with_reducible rfl)
          simp only [Act.put, List.getElem_toArray, List.getElem_cons_succ, List.getElem_cons_zero, List.setIfInBounds_toArray, List.set_cons_zero, List.set_cons_succ]
          refine wpAnyH_take (i := 13) (v := ?_) rfl (by kernel_rfl) (by kernel_rfl) (by kernel_rfl) (fun _ _ _ h => h) (Or.inl ⟨by rfl, ?_⟩) (by assumption) ?_
          rotate_left 1
          · (intro W hW; clear hW; go_simp; try with_reducible rfl)
          simp only [Act.put, List.getElem_toArray, List.getElem_cons_succ, List.getElem_cons_zero, List.setIfInBounds_toArray, List.set_cons_zero, List.set_cons_succ]
          refine wpAnyH_done (by kernel_rfl) ?_ _
          go_wp2_with fail
          go_roundw
          case rel => exact ⟨m + 1, me, by go_num, by omega, rfl, hs.trans hb3, HA.out, HM.out⟩
          case measure => simp [intOf]; omega
        · skip
          refine wpAnyH_take (i := 0) (v := ?_) rfl (by kernel_rfl) (by kernel_rfl) (by kernel_rfl) (fun _ _ _ h => h) (Or.inl ⟨by rfl, ?_⟩) (by assumption) ?_
          rotate_left 1
          · (intro W hW; clear hW; go_simp; try with_reducible rfl)
          simp only [Act.put, List.getElem_toArray, List.getElem_cons_zero, List.setIfInBounds_toArray, List.set_cons_zero, List.set_cons_succ]
          refine wpAnyH_take (i := 1) (v := ?_) rfl (by kernel_rfl) (by kernel_rfl) (by kernel_rfl) (fun _ _ _ h => h) (Or.inl ⟨by rfl, ?_⟩) (by assumption) ?_
          rotate_left 1
          · (intro W hW; clear hW; go_simp; try with_reducible rfl)
          simp only [Act.put, List.getElem_toArray, List.getElem_cons_succ, List.getElem_cons_zero, List.setIfInBounds_toArray, List.set_cons_zero, List.set_cons_succ]
          refine wpAnyH_take (i := 2) (v := undef) rfl (by kernel_rfl) (by kernel_rfl) (by kernel_rfl) (fun _ _ _ h => h) (Or.inr ⟨by rfl, rfl⟩) (by assumption) ?_
          simp only [Act.put, List.getElem_toArray, List.getElem_cons_succ, List.getElem_cons_zero, List.setIfInBounds_toArray, List.set_cons_zero, List.set_cons_succ]
          refine wpAnyH_take (i := 3) (v := undef) rfl (by kernel_rfl) (by kernel_rfl) (by kernel_rfl) (fun _ _ _ h => h) (Or.inr ⟨by rfl, rfl⟩) (by assumption) ?_
          simp only [Act.put, List.getElem_toArray, List.getElem_cons_succ, List.getElem_cons_zero, List.setIfInBounds_toArray, List.set_cons_zero, List.set_cons_succ]
          refine wpAnyH_take (i := 4) (v := undef) rfl (by kernel_rfl) (by kernel_rfl) (by kernel_rfl) (fun _ _ _ h => h) (Or.inr ⟨by rfl, rfl⟩) (by assumption) ?_
          simp only [Act.put, List.getElem_toArray, List.getElem_cons_succ, List.getElem_cons_zero, List.setIfInBounds_toArray, List.set_cons_zero, List.set_cons_succ]
          refine wpAnyH_take (i := 5) (v := undef) rfl (by kernel_rfl) (by kernel_rfl) (by kernel_rfl) (fun _ _ _ h => h) (Or.inr ⟨by rfl, rfl⟩) (by assumption) ?_
          simp only [Act.put, List.getElem_toArray, List.getElem_cons_succ, List.getElem_cons_zero, List.setIfInBounds_toArray, List.set_cons_zero, List.set_cons_succ]
          refine wpAnyH_take (i := 6) (v := undef) rfl (by kernel_rfl) (by kernel_rfl) (by kernel_rfl) (fun _ _ _ h => h) (Or.inr ⟨by rfl, rfl⟩) (by assumption) ?_
          simp only [Act.put, List.getElem_toArray, List.getElem_cons_succ, List.getElem_cons_zero, List.setIfInBounds_toArray, List.set_cons_zero, List.set_cons_succ]
          refine wpAnyH_take (i := 7) (v := undef) rfl (by kernel_rfl) (by kernel_rfl) (by kernel_rfl) (fun _ _ _ h => h) (Or.inr ⟨by rfl, rfl⟩) (by assumption) ?_
          simp only [Act.put, List.getElem_toArray, List.getElem_cons_succ, List.getElem_cons_zero, List.setIfInBounds_toArray, List.set_cons_zero, List.set_cons_succ]
          refine wpAnyH_take (i := 8) (v := undef) rfl (by kernel_rfl) (by kernel_rfl) (by kernel_rfl) (fun _ _ _ h => h) (Or.inr ⟨by rfl, rfl⟩) (by assumption) ?_
          simp only [Act.put, List.getElem_toArray, List.getElem_cons_succ, List.getElem_cons_zero, List.setIfInBounds_toArray, List.set_cons_zero, List.set_cons_succ]
          refine wpAnyH_take (i := 9) (v := undef) rfl (by kernel_rfl) (by kernel_rfl) (by kernel_rfl) (fun _ _ _ h => h) (Or.inr ⟨by rfl, rfl⟩) (by assumption) ?_
          simp only [Act.put, List.getElem_toArray, List.getElem_cons_succ, List.getElem_cons_zero, List.setIfInBounds_toArray, List.set_cons_zero, List.set_cons_succ]
          refine wpAnyH_take (i := 10) (v := undef) rfl (by kernel_rfl) (by kernel_rfl) (by kernel_rfl) (fun _ _ _ h => h) (Or.inr ⟨by rfl, rfl⟩) (by assumption) ?_
          simp only [Act.put, List.getElem_toArray, List.getElem_cons_succ, List.getElem_cons_zero, List.setIfInBounds_toArray, List.set_cons_zero, List.set_cons_succ]
          refine wpAnyH_take (i := 11) (v := undef) rfl (by kernel_rfl) (by kernel_rfl) (by kernel_rfl) (fun _ _ _ h => h) (Or.inr ⟨by rfl, rfl⟩) (by assumption) ?_
          simp only [Act.put, List.getElem_toArray, List.getElem_cons_succ, List.getElem_cons_zero, List.setIfInBounds_toArray, List.set_cons_zero, List.set_cons_succ]
          refine wpAnyH_take (i := 12) (v := ?_) rfl (by kernel_rfl) (by kernel_rfl) (by kernel_rfl) (fun _ _ _ h => h) (Or.inl ⟨by rfl, ?_⟩) (by assumption) ?_
          rotate_left 1
          · (intro W hW; clear hW; go_simp; try with_reducible rfl)
          simp only [Act.put, List.getElem_toArray, List.getElem_cons_succ, List.getElem_cons_zero, List.setIfInBounds_toArray, List.set_cons_zero, List.set_cons_succ]
          refine wpAnyH_take (i := 13) (v := ?_) rfl (by kernel_rfl) (by kernel_rfl) (by kernel_rfl) (fun _ _ _ h => h) (Or.inl ⟨by rfl, ?_⟩) (by assumption) ?_
          rotate_left 1
          · (intro W hW; clear hW; go_simp; try with_reducible rfl)
          simp only [Act.put, List.getElem_toArray, List.getElem_cons_succ, List.getElem_cons_zero, List.setIfInBounds_toArray, List.set_cons_zero, List.set_cons_succ]
          refine wpAnyH_done (by kernel_rfl) ?_ _
          go_wp2_with fail
          go_roundw
          case rel => exact ⟨m + 1, true, by go_num, by omega, rfl, hs.trans hp, HA.out, by have z := HM.out; rw [Bool.true_or] at z ⊢; exact z⟩
          case measure => simp [intOf]; omega
    · have d1 : decide ((m : Int) < L.length) = false := decide_eq_false (by omega)
      have hany : (L.any fun s => abvB s.d s.b d b) = false := by rw [← hA, List.drop_of_length_le (by omega)]; rfl
      rw [List.drop_of_length_le (by omega), show (([] : List Tl).any fun s => metB s.d s.b d b) = false from rfl, Bool.or_false] at hM
      have q2 := p0 _ hs
      have q3 := p1 _ hs
      have hsw : Since w wr := HS0.out.trans hs
      cases mt
      · have hr := HR.out
        rw [gaps_none hany hM.symm] at hr
        have HR2 := Lib.hid hr
        clear hA hM hany hr
        go_wp2_with fail
        go_ret
        rw [← HR2.out]
        exact ⟨_, rfl, (row_one wr d b).mono hsw.size_, hsw.alloc _⟩
      · have hd32 := met_deep hany hM.symm
        obtain ⟨j, rfl, hG⟩ : ∃ j, n = j + 1 ∧ GapsC gr k L j := by
          rcases HI.out with z | z
          · have := HN.out; omega
          · exact z
        have hr := HR.out
        rw [gaps_more hany hM.symm] at hr
        have l0 := gapsG_len L j (d + 1) (2 * b) (fine_l HFD.out hd32) (by have := HN.out; omega)
        have l1 := gapsG_len L j (d + 1) (2 * b + 1) (fine_r HFD.out hd32) (by have := HN.out; omega)
        have k0 : L.countP (fun s => abvB (d + 1) (2 * b) s.d s.b) * j ≤ 1000 * 32 := Nat.mul_le_mul (Nat.le_trans List.countP_le_length hm) (by have := HN.out; have := (fine_iff _ _).1 HFD.out; omega)
        have k1 : L.countP (fun s => abvB (d + 1) (2 * b + 1) s.d s.b) * j ≤ 1000 * 32 := Nat.mul_le_mul (Nat.le_trans List.countP_le_length hm) (by have := HN.out; have := (fine_iff _ _).1 HFD.out; omega)
        have hlen : (gapsG L j (d + 1) (2 * b)).length + (gapsG L j (d + 1) (2 * b + 1)).length ≤ 100000 := by omega
        have HC0 := Lib.hid (fun W => refChild_yes d b 0 W HFD.out hd32 (.inl rfl))
        have HC1 := Lib.hid (fun W => refChild_yes d b 1 W HFD.out hd32 (.inr rfl))
        simp only [Int.add_zero] at HC0
        have HG0 := Lib.hid (fun W (hW : Since w W) => hG (d + 1) (2 * b) _ W (by have := HN.out; omega) (fine_l HFD.out hd32) (H.out.since hW))
        have HG1 := Lib.hid (fun W (hW : Since w W) => hG (d + 1) (2 * b + 1) _ W (by have := HN.out; omega) (fine_r HFD.out hd32) (H.out.since hW))
        have HLEN := Lib.hid hlen
        have HR2 := Lib.hid hr
        obtain ⟨D, hD⟩ : ∃ D, d + 1 = D := ⟨_, rfl⟩
        obtain ⟨X, hX⟩ : ∃ D, 2 * b = D := ⟨_, rfl⟩
        obtain ⟨Y, hY⟩ : ∃ D, 2 * b + 1 = D := ⟨_, rfl⟩
        rw [hY, hD] at HC1 HG1
        rw [hX, hD] at HC0 HG0
        rw [hY, hX, hD] at HLEN HR2
        clear hA hM hany hr l0 l1 k0 k1 hlen hG hD hX hY HI HR
        go_upto_region 12 with (first | (go_at_call 102; (with_reducible refine (HC0.out _).mono ?_); rintro e w3 ⟨rfl, hb3⟩; have hNa : Whole (w3.alloc (.cells #[.int .i64 D, .int .i64 X] 27)) w3.heap.size 27 #[.int .i64 D, .int .i64 X] := Whole.new w3 _ _; have hs3 : Since wr (w3.alloc (.cells #[.int .i64 D, .int .i64 X] 27)) := Since.alloc (Since.ofBelow hb3 (Nat.le_refl _)) _; have f0 := p0 _ (hs.trans hs3); have f1 := p1 _ (hs.trans hs3)) | (go_at_call 102; (with_reducible refine (HC1.out _).mono ?_); rintro e w4 ⟨rfl, hb4⟩; have hNa4 := (Since.whole hb4 hNa).alloc (.cells #[.int .i64 D, .int .i64 Y] 27); have hNb : Whole (w4.alloc (.cells #[.int .i64 D, .int .i64 Y] 27)) w4.heap.size 27 #[.int .i64 D, .int .i64 Y] := Whole.new w4 _ _; have hs4 : Since wr (w4.alloc (.cells #[.int .i64 D, .int .i64 Y] 27)) := Since.alloc (hs3.trans hb4) _))
        obtain ⟨wb, hwb⟩ : ∃ wb, wb = w4.alloc (.cells #[.int .i64 D, .int .i64 Y] 27) := ⟨_, rfl⟩
        rw [← hwb] at hs4 hNa4 hNb ⊢
        have hwB : Since w wb := hsw.trans hs4
        have a0 := box_cell hNa4 0 _ rfl
        have a1 := box_cell hNa4 1 _ rfl
        have b0 := box_cell hNb 0 _ rfl
        have b1 := box_cell hNb 1 _ rfl
        have hbd : Since wb wb.drew := (Since.refl wb).drew
        obtain ⟨wq, hwq⟩ : ∃ wq, wq = wb.drew := ⟨_, rfl⟩
        refine wp_region_held_drew (S := fun W => Since wb W) (by kernel_rfl) hbd (fun hHeld => ?_)
        rw [← hwq] at hHeld ⊢
        have hq : Since wb wq := hHeld
        clear hwq hbd hwb q1 q2 q3 f0 f1
        refine wpAnyH_take (i := 0) (v := ?_) rfl (by kernel_rfl) (by kernel_rfl) (by kernel_rfl) (fun _ _ _ h => h) (Or.inl ⟨by rfl, ?_⟩) (by assumption) ?_
        rotate_left 1
        · (intro W hW; clear hW; go_simp; try with_reducible rfl)
        simp only [Act.put, List.getElem_toArray, List.getElem_cons_zero, List.setIfInBounds_toArray, List.set_cons_zero, List.set_cons_succ]
        refine wpAnyH_take (i := 1) (v := ?_) rfl (by kernel_rfl) (by kernel_rfl) (by kernel_rfl) (fun _ _ _ h => h) (Or.inl ⟨by rfl, ?_⟩) (by assumption) ?_
        rotate_left 1
        · (intro W hW; skip; go_simp; try with_reducible rfl)
        simp only [Act.put, List.getElem_toArray, List.getElem_cons_succ, List.getElem_cons_zero, List.setIfInBounds_toArray, List.set_cons_zero, List.set_cons_succ]
        refine wpAnyH_take (i := 3) (v := ?_) rfl (by kernel_rfl) (by kernel_rfl) (by kernel_rfl) (fun _ _ _ h => h) (Or.inl ⟨by rfl, ?_⟩) (by assumption) ?_
        rotate_left 1
        · (intro W hW; clear hW; go_simp; try with_reducible rfl)
        simp only [Act.put, List.getElem_toArray, List.getElem_cons_succ, List.getElem_cons_zero, List.setIfInBounds_toArray, List.set_cons_zero, List.set_cons_succ]
        refine wpAnyH_take (i := 4) (v := ?_) rfl (by kernel_rfl) (by kernel_rfl) (by kernel_rfl) (fun _ _ _ h => h) (Or.inl ⟨by rfl, ?_⟩) (by assumption) ?_
        rotate_left 1
        · (intro W hW; skip; go_simp; try with_reducible rfl)
        simp only [Act.put, List.getElem_toArray, List.getElem_cons_succ, List.getElem_cons_zero, List.setIfInBounds_toArray, List.set_cons_zero, List.set_cons_succ]
        refine wpAnyH_ready (rs := [2]) (by kernel_rfl) (by simp) ?_
        refine AllReadyH.cons rfl (fun K hK => ?_) AllReadyH.nil
        go_simp
        refine (HG0.out _ (hwB.trans hq)).mono ?_
        rintro e w5 ⟨a5, rfl, row5, hb5⟩
        have hs5 : Since wb w5 := hq.trans hb5
        go_wp2_with fail
        refine hK.out _ _ (hs5) (fun hHeld => ?_)
        clear hK K
        try simp only [Act.put, List.getElem_toArray, List.getElem_cons_succ, List.getElem_cons_zero, List.setIfInBounds_toArray, List.set_cons_zero, List.set_cons_succ]
        refine wpAnyH_ready (rs := [5]) (by kernel_rfl) (by simp) ?_
        refine AllReadyH.cons rfl (fun K hK => ?_) AllReadyH.nil
        go_simp
        refine (HG1.out _ (hwB.trans hs5)).mono ?_
        rintro e w6 ⟨a6, rfl, row6, hb6⟩
        have hs6 : Since wb w6 := hs5.trans hb6
        go_wp2_with fail
        refine hK.out _ _ (hs6) (fun hHeld => ?_)
        clear hK K
        try simp only [Act.put, List.getElem_toArray, List.getElem_cons_succ, List.getElem_cons_zero, List.setIfInBounds_toArray, List.set_cons_zero, List.set_cons_succ]
        refine wpAnyH_ready (rs := [6]) (by kernel_rfl) (by simp) ?_
        refine AllReadyH.cons rfl (fun K hK => ?_) AllReadyH.nil
        refine step_append_val rfl (.tmp 59) (.tmp 62) 61 rfl wq.heap.size 27 _ 16 Try.underlying61 infoP5 rfl (by decide) (RowE.since row5 hb6) (row6.part encG_len) encG_len encG_one rfl rfl HLEN.out (by decide) (by have := hb5.size_; have := hb6.size_; omega) ?_
        intro v7 w7 row7 o7
        have hs7 : Since wb w7 := o7.since_of hs6 (fun x hx => by have := (row5.own x hx).1; have := hq.size_; omega)
        refine hK.out _ _ (hs7) (fun hHeld => ?_)
        clear hK K
        try simp only [Act.put, List.getElem_toArray, List.getElem_cons_succ, List.getElem_cons_zero, List.setIfInBounds_toArray, List.set_cons_zero, List.set_cons_succ]
        refine wpAnyH_take (i := 7) (v := ?_) rfl (by kernel_rfl) (by kernel_rfl) (by kernel_rfl) (fun _ _ _ h => h) (Or.inl ⟨by rfl, ?_⟩) (by assumption) ?_
        rotate_left 1
        · (intro W hW; clear hW; go_simp; try with_reducible rfl)
        simp only [Act.put, List.getElem_toArray, List.getElem_cons_succ, List.getElem_cons_zero, List.setIfInBounds_toArray, List.set_cons_zero, List.set_cons_succ]
        refine wpAnyH_done (by kernel_rfl) ?_ _
        go_wp2_with fail
        go_ret
        rw [← HR2.out]
        exact ⟨_, rfl, row7.mono (by have := hwB.size_; have := hq.size_; omega), hwB.trans hs7⟩
theorem refGaps_all {gr : Nat} {k : Int} {L : List Tl} (hm : L.length ≤ 1000) : ∀ n : Nat, GapsC gr k L n
  | 0 => gaps_step hm 0 (.inl rfl)
  | n + 1 => gaps_step hm (n + 1) (.inr ⟨n, rfl, refGaps_all hm n⟩)
set_option maxHeartbeats 800000 in
theorem refGaps_any {gr : Nat} {k : Int} {L : List Tl} {v : Value} {w : World} (h : RefO gr k L v w) (hm : L.length ≤ 1000) : Calls Try.prog 27 #[.pointer (some ⟨gr, 0, none⟩)] w fun e W' => ∃ a, e = .returned a ∧ RowE encG 2 W' w.heap.size 27 a (gapsG L 32 0 0) ∧ Since w W' := by
  have HG := Lib.hid (refGaps_all hm 32 0 0 v w (by decide) (by decide) h)
  go_enter Try.func27, Try.ntmps27
  go_wp2_with fail
  refine HG.out.mono ?_
  rintro e w2 ⟨a2, rfl, row2, hb2⟩
  go_wp2_with fail
  go_ret
  exact ⟨_, rfl, row2, hb2⟩
end Go.Proofs.Ytgnhamhkpbadbaa
