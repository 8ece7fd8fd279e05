/- The law's own whole: a tiling without gaps, by splits alone. -/
import Derived.Test.YtbbnojfecmocgaaK18
import Derived.Test.YtbbnojfecmocgaaK21
import Derived.Test.YtbbnojfecmocgaaK31
import Derived.Test.YtbbnojfecmocgaaK43
namespace Go.Proofs.Ytbbnojfecmocgaa
open Go.RowKit
set_option linter.unusedVariables false
set_option linter.unusedSimpArgs false
/-- What this law asks of the tilings. -/
structure TilQ (Obj : (Nat → Prop) → World → Value → Int → Tr → Prop) : Prop where
  keep : ∀ {F : Nat → Prop} {W W' : World} {v : Value} {k : Int} {t : Tr}, Obj F W v k t → (∀ b, F b → W'.heap[b]? = W.heap[b]?) → Obj F W' v k t
  lt : ∀ {F : Nat → Prop} {W : World} {v : Value} {k : Int} {t : Tr}, Obj F W v k t → ∀ b, F b → b < W.heap.size
  form : ∀ {F : Nat → Prop} {W : World} {v : Value} {k : Int} {t : Tr}, Obj F W v k t → ∃ g, v = .pointer (some ⟨g, 0, none⟩)
  ok : ∀ {F : Nat → Prop} {W : World} {v : Value} {k : Int} {t : Tr}, Obj F W v k t → rgt k = true ∧ (t.high : Int) ≤ 2 * k ∧ (t.tiles 0 0).length ≤ 64
  new : ∀ (k who : Int) (W : World) (a : Value), rgt k = true → ListE encT 3 W.heap.size W a [⟨0, 0, who⟩] → Calls Try.prog 28 #[.int .i64 k, a] W (Makes Obj W k [⟨0, 0, who⟩])
  split : ∀ {F : Nat → Prop} {W : World} {v : Value} {k : Int} {t : Tr} (d b who : Int), Obj F W v k t → Calls Try.prog 31 #[v, .agg #[.int .i64 d, .int .i64 b], .int .i64 who] W (Changes Obj F W v k (splitT k (t.tiles 0 0) d b who))
  find : ∀ {F : Nat → Prop} {W : World} {v : Value} {k : Int} {t : Tr} (x y : Int), Obj F W v k t → Calls Try.prog 13 #[v, .agg #[.int .i64 x, .int .i64 y]] W fun e W' => e = .returned (tlV (findT k (t.tiles 0 0) x y)) ∧ Below W.heap.size W W'
  list : ∀ {F : Nat → Prop} {W : World} {v : Value} {k : Int} {t : Tr}, Obj F W v k t → Calls Try.prog 7 #[v] W fun e W' => ∃ a, e = .returned a ∧ RowE encT 3 W' W.heap.size 37 a (t.tiles 0 0) ∧ Below W.heap.size W W'
theorem TilQ.since {Obj : (Nat → Prop) → World → Value → Int → Tr → Prop} (P : TilQ Obj) {F : Nat → Prop} {W W' : World} {v : Value} {k : Int} {t : Tr} (h : Obj F W v k t) (hs : Since W W') : Obj F W' v k t :=
  P.keep h fun b hb => hs.block b (P.lt h b hb)
theorem tilQ : TilQ TilObj where
  keep := by
    rintro F W W' v k t ⟨g, p, rfl, h, rfl, hF⟩ hb
    exact ⟨g, p, rfl, h.keep (fun b hx => hb b ((hF b).2 hx)), rfl, hF⟩
  lt := by
    rintro F W v k t ⟨g, p, rfl, h, rfl, hF⟩ b hb
    exact h.lt b ((hF b).1 hb)
  form := by
    rintro F W v k t ⟨g, p, rfl, h, rfl, hF⟩
    exact ⟨g, rfl⟩
  ok := by
    rintro F W v k t ⟨g, p, rfl, h, rfl, hF⟩
    exact ⟨h.right, h.high, h.most⟩
  new := by
    intro k who W a hk hL
    refine (tnew_any (k := k) W hL (Nat.le_refl _) (by simp)).mono ?_
    rw [new_one k who hk]
    rintro e W' (⟨_, g, p, rfl, h1, h2, h3, h4⟩ | ⟨h, _⟩)
    · exact ⟨_, fun b => b ∈ g :: p.bl, p.tr, rfl, ⟨g, p, rfl, h1, rfl, fun _ => Iff.rfl⟩, h2, h3, h4, by simp⟩
    · exact absurd rfl h
  split := by
    rintro F W v k t d b who ⟨g, p, rfl, h, rfl, hF⟩
    exact (split_any h d b who).mono (fun e W' => ChgO.changes hF)
  find := by
    rintro F W v k t x y ⟨g, p, rfl, h, rfl, hF⟩
    exact find_any h x y
  list := by
    rintro F W v k t ⟨g, p, rfl, h, rfl, hF⟩
    exact list_any h
theorem spl_sum {k d b who : Int} (hd : d < 2 * k) : ∀ L : List Tl, sumG (fun s : Tl => zA k s.d) (splT L d b who) = sumG (fun s : Tl => zA k s.d) L
  | [] => rfl
  | s :: L => by
    have ih := spl_sum (b := b) (who := who) hd L
    unfold splT at ih ⊢
    rw [List.flatMap_cons, sumG_app, ih]
    split
    · next h =>
      have := zA_half hd
      show (zA k (d + 1) + (zA k (d + 1) + 0)) + _ = zA k s.d + _
      rw [h.1]; omega
    · show (zA k s.d + 0) + _ = zA k s.d + _
      omega
theorem sum_zA6 (k : Int) : ∀ l : List (Int × Int), 0 ≤ sumG (fun s => zA k s.1) l ∧ (sumG (fun s => zA k s.1) l = 0 → l = [])
  | [] => ⟨Int.le_refl _, fun _ => rfl⟩
  | s :: l => by
    have h1 := (sum_zA6 k l).1
    have h2 : 0 < zA k s.1 := p2_pos _
    show 0 ≤ zA k s.1 + sumG (fun s => zA k s.1) l ∧ (zA k s.1 + sumG (fun s => zA k s.1) l = 0 → _)
    exact ⟨by omega, fun z => by omega⟩
theorem full_of {k : Int} {t t' : Tr} (h : t.gaps 0 0 = []) (hh : (t.high : Int) ≤ 2 * k) (hh' : (t'.high : Int) ≤ 2 * k) (e : sumG (fun s : Tl => zA k s.d) (t'.tiles 0 0) = sumG (fun s : Tl => zA k s.d) (t.tiles 0 0)) : t'.gaps 0 0 = [] := by
  have a1 := Tr.area k t 0 0 (by omega)
  have a2 := Tr.area k t' 0 0 (by omega)
  rw [h] at a1
  rw [e] at a2
  have z : sumG (fun s : Int × Int => zA k s.1) [] = 0 := rfl
  rw [z] at a1
  exact (sum_zA6 k _).2 (by omega)
theorem root_full {k : Int} {t : Tr} (hh : (t.high : Int) ≤ 2 * k) {who : Int} (e : t.tiles 0 0 = [⟨0, 0, who⟩]) : t.gaps 0 0 = [] := by
  have a1 := Tr.area k t 0 0 (by omega)
  rw [e] at a1
  have z : sumG (fun s : Tl => zA k s.d) [⟨0, 0, who⟩] = zA k 0 + 0 := rfl
  rw [z] at a1
  exact (sum_zA6 k _).2 (by omega)
theorem split_full {k : Int} (hk : 1 ≤ k ∧ k ≤ 16) {t t' : Tr} {d b who : Int} (h : t.gaps 0 0 = []) (hh : (t.high : Int) ≤ 2 * k) (hh' : (t'.high : Int) ≤ 2 * k) (e : t'.tiles 0 0 = (splitT k (t.tiles 0 0) d b who).2) : t'.gaps 0 0 = [] := by
  refine full_of h hh hh' ?_
  rw [e]
  unfold splitT
  by_cases h1 : hasT (t.tiles 0 0) d b = true
  · rw [if_pos h1]
    by_cases h2 : d = 2 * k
    · rw [if_pos h2]
    · rw [if_neg h2]
      by_cases h3 : 64 ≤ (t.tiles 0 0).length
      · rw [if_pos h3]
      · rw [if_neg h3]
        obtain ⟨s, hs, e1, _⟩ := (hasT_iff _ _ _).1 h1
        have := (Tr.tiles_abv t 0 0 fine_root (by omega) s hs).2
        exact spl_sum (by omega) _
  · rw [if_neg h1]
set_option maxRecDepth 100000 in
set_option maxHeartbeats 12800000 in
theorem lawWhole_any {Obj : (Nat → Prop) → World → Value → Int → Tr → Prop} (P : TilQ Obj) {k : Int} (hk : rgt k = true) {B : Nat} {v : Value} {L : List Ac} (w : World) (hL : LentE encA 4 B w v L) (hB : B ≤ w.heap.size) :
    Calls Try.prog 5 #[.int .i64 k, v] w (fun e W' => ∃ g F t, e = .returned (.pointer (some ⟨g, 0, none⟩)) ∧ Obj F W' (.pointer (some ⟨g, 0, none⟩)) k t ∧ t.gaps 0 0 = [] ∧ (∀ b, F b → w.heap.size ≤ b) ∧ Below w.heap.size w W') := by
  have hk1 := (rgt_iff k).1 hk
  have HK := Lib.hid hk
  have HKB := Lib.hid hk1
  have HK0 := Lib.hid (show 0 ≤ k by omega)
  have HK1 := Lib.hid (show k ≤ 16 by omega)
  have HOK := Lib.hid (fun d b : Int => some_ok k d b hk1)
  obtain ⟨va, cap, rfl, hform⟩ := hL
  clear hk hk1
  go_enter Try.func5, Try.ntmps5
  go_wp2_with fail
  refine Calls.named (fun w1 hw => ?_)
  have wg : Whole w1 w.heap.size 37 (([⟨0, 0, 0⟩] : List Tl).flatMap encT).toArray := (Whole.new w 37 #[.int .i64 0, .int .i64 0, .int .i64 0]).named hw
  have hs1 : Since w w1 := ((Since.refl w).alloc _).named hw
  clear hw
  refine (P.new k 0 w1 _ HK.out (ListE.ofWhole (cap := 1) encT_len wg wg.lt)).mono ?_
  rintro e w2 ⟨x, F, t, rfl, hO, ht0, hF, hb, hv0⟩
  obtain ⟨gx, rfl⟩ := P.form hO
  have hgp := root_full (P.ok hO).2.1 ht0
  have hbw : Below w.heap.size w w2 := hs1.trans hb
  replace hF : ∀ b, F b → w.heap.size ≤ b := fun b z => Nat.le_trans hs1.size_ (hF b z)
  clear ht0 hb wg hs1 hv0
  go_wp2_with (go_at_call 29; (with_reducible refine (law6_num _ _).mono ?_); rintro e wn ⟨rfl, rfl⟩)
  obtain ⟨w3, hw3⟩ : ∃ w3, w3 = w2.alloc (.cells #[.int .i64 k] 26) := ⟨_, rfl⟩
  have hs3 : Since w2 w3 := ((Since.refl w2).alloc _).named hw3
  have hTW : Whole w3 w2.heap.size 26 #[.int .i64 k] := (Whole.new w2 _ _).named hw3
  have hTB : ¬ F w2.heap.size := fun z => absurd (P.lt hO _ z) (Nat.lt_irrefl _)
  have hO3 := P.since hO hs3
  have hbw3 : Below w.heap.size w w3 := hbw.trans (Below.mono hs3 hbw.size)
  obtain ⟨TB, hTBe⟩ : ∃ b, b = w2.heap.size := ⟨_, rfl⟩
  rw [← hTBe] at hTW hTB
  rw [← hw3, ← hTBe]
  clear hw3 hs3 hO hbw hTBe
  go_loopw [8] (fun i wr => ∃ (m : Nat) (F : Nat → Prop) (t : Tr), i = .int .i64 m ∧ m ≤ L.length ∧ Obj F wr (.pointer (some ⟨gx, 0, none⟩)) k t ∧ t.gaps 0 0 = [] ∧ (∀ b, F b → w.heap.size ≤ b) ∧ ¬ F TB ∧ Whole wr TB 26 #[.int .i64 k] ∧ Below w.heap.size w wr) (fun i _ => L.length - (intOf i).toNat)
  case atStart => exact ⟨0, F, t, rfl, Nat.zero_le _, hO3, hgp, hF, hTB, hTW, hbw3⟩
  case round =>
    clear hO3 hF hTB hTW hbw3 hgp F t
    obtain ⟨m, F, t, rfl, hm, hO, hgp, hF, hTB, hTW, hbw⟩ := hrel
    by_cases hlt : m < L.length
    rotate_left
    · obtain rfl : m = L.length := by omega
      have d1 : decide ((L.length : Int) < L.length) = false := decide_eq_false (by omega)
      have HG := Lib.hid hgp
      clear hgp
      go_wp2_with fail
      go_ret
      exact ⟨_, _, _, rfl, hO, HG.out, hF, hbw⟩
    have d1 : decide ((m : Int) < L.length) = true := decide_eq_true (by omega)
    by_cases h40 : m < 30
    rotate_left
    · have d2 : decide ((m : Int) < 30) = false := decide_eq_false (by omega)
      have HG := Lib.hid hgp
      clear hgp
      go_wp2_with fail
      go_ret
      exact ⟨_, _, _, rfl, hO, HG.out, hF, hbw⟩
    have d2 : decide ((m : Int) < 30) = true := decide_eq_true (by omega)
    have hm40 : (m : Int) < 30 := by omega
    obtain ⟨g, go, rfl, hg, hcc⟩ : ∃ g go, va = some ⟨g, go, none⟩ ∧ g < B ∧ ∀ j u, (encA L[m])[j]? = some u → w.cell? ⟨g, go + m * 4 + j, none⟩ = some u := by
      rcases hform with z | ⟨g, go, h1, h2, h3⟩
      · omega
      · exact ⟨g, go, h1, h2, h3 m hlt⟩
    obtain ⟨⟨K, pd, pb, who⟩, hr⟩ : ∃ a, L[m] = a := ⟨_, rfl⟩
    rw [hr] at hcc
    have hcell : ∀ W, Below w.heap.size w W → W.cell? ⟨g, go + m * 4, none⟩ = some (.int .i64 K) ∧ W.cell? ⟨g, go + m * 4 + 1, none⟩ = some (.int .i64 pd) ∧ W.cell? ⟨g, go + m * 4 + 1 + 1, none⟩ = some (.int .i64 pb) ∧ W.cell? ⟨g, go + m * 4 + 3, none⟩ = some (.int .i64 who) := fun W hW => by
      have e : ∀ j, W.cell? ⟨g, j, none⟩ = w.cell? ⟨g, j, none⟩ := fun j => World.cell?_of_block (hW.block g (Nat.lt_of_lt_of_le hg hB))
      exact ⟨(e _).trans (hcc 0 _ rfl), (e _).trans (hcc 1 _ rfl), (e _).trans (hcc 2 _ rfl), (e _).trans (hcc 3 _ rfl)⟩
    have k1 : ∀ W, Since wr W → W.cell? ⟨g, go + m * 4 + 1, none⟩ = some (.int .i64 pd) := fun W hW => (hcell W (hbw.trans (Below.mono hW hbw.size))).2.1
    have k2 : ∀ W, Since wr W → W.cell? ⟨g, go + m * 4 + 1 + 1, none⟩ = some (.int .i64 pb) := fun W hW => (hcell W (hbw.trans (Below.mono hW hbw.size))).2.2.1
    have k3 := box_cell hTW 0 (.int .i64 k) rfl
    obtain ⟨D, hD⟩ : ∃ D, smD k pd = D := ⟨_, rfl⟩
    obtain ⟨E, hE⟩ : ∃ E, smB k pd pb = E := ⟨_, rfl⟩
    have hok : okP k D E = true := by rw [← hD, ← hE]; exact HOK.out pd pb
    obtain ⟨⟨cx, cy, cw, ch⟩, hc⟩ : ∃ q, corF (side k) (ups D E (cnt D E)) = q := ⟨_, rfl⟩
    have HD := Lib.hid hD
    have HE := Lib.hid hE
    have HO := Lib.hid hok
    have HC := Lib.hid hc
    have hcT : True := trivial
    clear hr hD hE hok hc hform hcc
    have hsr := Since.refl wr
    have hsd : Since wr wr.drew := hsr.drew
    go_upto_region 8 with fail
    obtain ⟨wq, hwq⟩ : ∃ wq, wq = wr.drew := ⟨_, rfl⟩
    refine wp_region_held_drew (S := fun W => Since wr W) (by kernel_rfl) hsd (fun hHeld => ?_)
    rw [← hwq] at hHeld ⊢
    have hq : Since wr wq := hHeld
    clear hwq hsd
    refine wpAnyH_take (i := 0) (v := ?_) rfl (by kernel_rfl) (by kernel_rfl) (by kernel_rfl) (fun _ _ _ h => h) (Or.inl ⟨by rfl, ?_⟩) (by assumption) ?_
    rotate_left 1
    · (intro W hW; skip; go_simp; try with_reducible rfl)
    simp only [Act.put, List.getElem_toArray, List.getElem_cons_zero, List.setIfInBounds_toArray, List.set_cons_zero, List.set_cons_succ]
    refine wpAnyH_take (i := 1) (v := ?_) rfl (by kernel_rfl) (by kernel_rfl) (by kernel_rfl) (fun _ _ _ h => h) (Or.inl ⟨by rfl, ?_⟩) (by assumption) ?_
    rotate_left 1
    · (intro W hW; clear hW; go_simp; try with_reducible rfl)
    simp only [Act.put, List.getElem_toArray, List.getElem_cons_succ, List.getElem_cons_zero, List.setIfInBounds_toArray, List.set_cons_zero, List.set_cons_succ]
    refine wpAnyH_take (i := 2) (v := ?_) rfl (by kernel_rfl) (by kernel_rfl) (by kernel_rfl) (fun _ _ _ h => h) (Or.inl ⟨by rfl, ?_⟩) (by assumption) ?_
    rotate_left 1
    · (intro W hW; clear hW; go_simp; try with_reducible rfl)
    simp only [Act.put, List.getElem_toArray, List.getElem_cons_succ, List.getElem_cons_zero, List.setIfInBounds_toArray, List.set_cons_zero, List.set_cons_succ]
    refine wpAnyH_take (i := 3) (v := ?_) rfl (by kernel_rfl) (by kernel_rfl) (by kernel_rfl) (fun _ _ _ h => h) (Or.inl ⟨by rfl, ?_⟩) (by assumption) ?_
    rotate_left 1
    · (intro W hW; clear hW; go_simp; try with_reducible rfl)
    simp only [Act.put, List.getElem_toArray, List.getElem_cons_succ, List.getElem_cons_zero, List.setIfInBounds_toArray, List.set_cons_zero, List.set_cons_succ]
    refine wpAnyH_take (i := 4) (v := ?_) rfl (by kernel_rfl) (by kernel_rfl) (by kernel_rfl) (fun _ _ _ h => h) (Or.inl ⟨by rfl, ?_⟩) (by assumption) ?_
    rotate_left 1
    · (intro W hW; clear hW; go_simp; try with_reducible rfl)
    simp only [Act.put, List.getElem_toArray, List.getElem_cons_succ, List.getElem_cons_zero, List.setIfInBounds_toArray, List.set_cons_zero, List.set_cons_succ]
    refine wpAnyH_take (i := 5) (v := ?_) rfl (by kernel_rfl) (by kernel_rfl) (by kernel_rfl) (fun _ _ _ h => h) (Or.inl ⟨by rfl, ?_⟩) (by assumption) ?_
    rotate_left 1
    · (intro W hW; clear hW; go_simp; try with_reducible rfl)
    simp only [Act.put, List.getElem_toArray, List.getElem_cons_succ, List.getElem_cons_zero, List.setIfInBounds_toArray, List.set_cons_zero, List.set_cons_succ]
    refine wpAnyH_take (i := 6) (v := ?_) rfl (by kernel_rfl) (by kernel_rfl) (by kernel_rfl) (fun _ _ _ h => h) (Or.inl ⟨by rfl, ?_⟩) (by assumption) ?_
    rotate_left 1
    · (intro W hW; skip; go_simp; try with_reducible rfl)
    simp only [Act.put, List.getElem_toArray, List.getElem_cons_succ, List.getElem_cons_zero, List.setIfInBounds_toArray, List.set_cons_zero, List.set_cons_succ]
    refine wpAnyH_ready (rs := [7, 13]) (by kernel_rfl) (by simp) ?_
    refine AllReadyH.cons rfl (fun K hK => ?_) (AllReadyH.cons rfl (fun K hK => ?_) AllReadyH.nil)
    · go_simp
      refine (some_at wq HK0.out HK1.out HD.out HE.out).mono ?_
      rintro e wc0 ⟨rfl, hd0⟩
      have hc0 : Since wr wc0 := Since.trans hq hd0
      go_wp2_with fail
      refine hK.out _ _ (hc0) (fun hHeld => ?_)
      clear hK K
      try simp only [Act.put, List.getElem_toArray, List.getElem_cons_succ, List.getElem_cons_zero, List.setIfInBounds_toArray, List.set_cons_zero, List.set_cons_succ]
      refine wpAnyH_ready (rs := [8, 13]) (by kernel_rfl) (by simp) ?_
      refine AllReadyH.cons rfl (fun K hK => ?_) (AllReadyH.cons rfl (fun K hK => ?_) AllReadyH.nil)
      · go_simp
        refine (corner5 wc0 HO.out HC.out).mono ?_
        rintro e wc1 ⟨rfl, hd1⟩
        have hc1 : Since wr wc1 := Since.trans hc0 hd1
        go_wp2_with fail
        refine hK.out _ _ (hc1) (fun hHeld => ?_)
        clear hK K
        try simp only [Act.put, List.getElem_toArray, List.getElem_cons_succ, List.getElem_cons_zero, List.setIfInBounds_toArray, List.set_cons_zero, List.set_cons_succ]
        refine wpAnyH_take (i := 9) (v := ?_) rfl (by kernel_rfl) (by kernel_rfl) (by kernel_rfl) (fun _ _ _ h => h) (Or.inl ⟨by rfl, ?_⟩) (by assumption) ?_
        rotate_left 1
        · (intro W hW; clear hW; go_simp; try with_reducible rfl)
        simp only [Act.put, List.getElem_toArray, List.getElem_cons_succ, List.getElem_cons_zero, List.setIfInBounds_toArray, List.set_cons_zero, List.set_cons_succ]
        refine wpAnyH_take (i := 10) (v := ?_) rfl (by kernel_rfl) (by kernel_rfl) (by kernel_rfl) (fun _ _ _ h => h) (Or.inl ⟨by rfl, ?_⟩) (by assumption) ?_
        rotate_left 1
        · (intro W hW; clear hW; go_simp; try with_reducible rfl)
        simp only [Act.put, List.getElem_toArray, List.getElem_cons_succ, List.getElem_cons_zero, List.setIfInBounds_toArray, List.set_cons_zero, List.set_cons_succ]
        refine wpAnyH_take (i := 11) (v := ?_) rfl (by kernel_rfl) (by kernel_rfl) (by kernel_rfl) (fun _ _ _ h => h) (Or.inl ⟨by rfl, ?_⟩) (by assumption) ?_
        rotate_left 1
        · (intro W hW; clear hW; go_simp; try with_reducible rfl)
        simp only [Act.put, List.getElem_toArray, List.getElem_cons_succ, List.getElem_cons_zero, List.setIfInBounds_toArray, List.set_cons_zero, List.set_cons_succ]
        refine wpAnyH_take (i := 12) (v := ?_) rfl (by kernel_rfl) (by kernel_rfl) (by kernel_rfl) (fun _ _ _ h => h) (Or.inl ⟨by rfl, ?_⟩) (by assumption) ?_
        rotate_left 1
        · (intro W hW; clear hW; go_simp; try with_reducible rfl)
        simp only [Act.put, List.getElem_toArray, List.getElem_cons_succ, List.getElem_cons_zero, List.setIfInBounds_toArray, List.set_cons_zero, List.set_cons_succ]
        refine wpAnyH_ready (rs := [13]) (by kernel_rfl) (by simp) ?_
        refine AllReadyH.cons rfl (fun K hK => ?_) AllReadyH.nil
        go_simp
        have hgb : wr.heap.size ≤ wc1.heap.size := Since.size_ hc1
        refine hK.out _ _ ((Since.alloc hc1 _)) (fun hHeld => ?_)
        clear hK K
        try simp only [Act.put, List.getElem_toArray, List.getElem_cons_succ, List.getElem_cons_zero, List.setIfInBounds_toArray, List.set_cons_zero, List.set_cons_succ]
        refine wpAnyH_ready (rs := [14]) (by kernel_rfl) (by simp) ?_
        refine AllReadyH.cons rfl (fun K hK => ?_) AllReadyH.nil
        go_simp
        skip
        refine hK.out _ _ ((Since.alloc hc1 _)) (fun hHeld => ?_)
        clear hK K
        try simp only [Act.put, List.getElem_toArray, List.getElem_cons_succ, List.getElem_cons_zero, List.setIfInBounds_toArray, List.set_cons_zero, List.set_cons_succ]
        refine wpAnyH_take (i := 15) (v := ?_) rfl (by kernel_rfl) (by kernel_rfl) (by kernel_rfl) (fun _ _ _ h => h) (Or.inl ⟨by rfl, ?_⟩) (by assumption) ?_
        rotate_left 1
        · (intro W hW; clear hW; go_simp; try with_reducible rfl)
        simp only [Act.put, List.getElem_toArray, List.getElem_cons_succ, List.getElem_cons_zero, List.setIfInBounds_toArray, List.set_cons_zero, List.set_cons_succ]
        refine wpAnyH_take (i := 16) (v := ?_) rfl (by kernel_rfl) (by kernel_rfl) (by kernel_rfl) (fun _ _ _ h => h) (Or.inl ⟨by rfl, ?_⟩) (by assumption) ?_
        rotate_left 1
        · (intro W hW; clear hW; go_simp; try with_reducible rfl)
        simp only [Act.put, List.getElem_toArray, List.getElem_cons_succ, List.getElem_cons_zero, List.setIfInBounds_toArray, List.set_cons_zero, List.set_cons_succ]
        refine wpAnyH_done (by kernel_rfl) ?_ _
        obtain ⟨w5, hw5⟩ : ∃ w5, w5 = wc1.alloc (.cells #[.int .i64 cx, .int .i64 cy] 24) := ⟨_, rfl⟩
        have hS5 : Since wr w5 := Since.named (Since.alloc hc1 _) hw5
        have hSl : Since wc1 w5 := Since.named (Since.alloc (Since.refl _) _) hw5
        have hN5 : Whole w5 wc1.heap.size 24 #[.int .i64 cx, .int .i64 cy] := (Whole.new wc1 _ _).named hw5
        obtain ⟨NB, hNB⟩ : ∃ NB, NB = wc1.heap.size := ⟨_, rfl⟩
        rw [← hw5, ← hNB]
        rw [← hNB] at hN5
        clear hHeld hw5 hNB
        have hO5 := P.since hO hS5
        have hT5 := Since.whole hS5 hTW
        have hbw5 : Below w.heap.size w w5 := hbw.trans (Below.mono hS5 hbw.size)
        have z0 := hN5.cell 0
        have z1 := hN5.cell 1
        clear hO hTW
        go_wp2_with fail
        refine (P.find cx cy hO5).mono ?_
        rintro e w7 ⟨rfl, hb7⟩
        have hO7 := P.since hO5 hb7
        have hT7 := Since.whole hb7 hT5
        have hbw7 : Below w.heap.size w w7 := hbw5.trans (Below.mono hb7 hbw5.size)
        clear hb7 hO5 hT5 hbw5 z0 z1 k1 k2 k3 hcT
        cases hfd : findT k (t.tiles 0 0) cx cy with
        | none =>
          have hsa : Since w7 (w7.alloc (.cells #[.int .i64 0, .int .i64 0, .int .i64 0] 37)) := (Since.refl w7).alloc _
          obtain ⟨Wv, hWv⟩ : ∃ Wv, Wv = w7.alloc (.cells #[.int .i64 0, .int .i64 0, .int .i64 0] 37) := ⟨_, rfl⟩
          have hOv := P.since hO7 (hsa.named hWv)
          have hTv := Since.whole (hsa.named hWv) hT7
          have hbv : Below w.heap.size w Wv := hbw7.trans (Below.mono (hsa.named hWv) hbw7.size)
          have hNv : Whole Wv w7.heap.size 37 #[.int .i64 0, .int .i64 0, .int .i64 0] := (Whole.new w7 _ _).named hWv
          have hFn : ¬ F w7.heap.size := fun z => absurd (P.lt hO7 _ z) (Nat.lt_irrefl _)
          have HWv := Lib.hid hWv
          clear hsa hWv hfd hO7 hT7 hbw7
          unfold tlV
          go_wp2_with fail
          rw [← HWv.out]
          go_roundw
          case rel => exact ⟨m + 1, F, t, by go_num, by omega, hOv, hgp, hF, hTB, hTv, hbv⟩
          case measure => simp [intOf]; omega
        | some s =>
          obtain ⟨sd, sb, sw⟩ := s
          have hsa : Since w7 (w7.alloc (.cells #[.int .i64 sd, .int .i64 sb, .int .i64 sw] 37)) := (Since.refl w7).alloc _
          obtain ⟨Wv, hWv⟩ : ∃ Wv, Wv = w7.alloc (.cells #[.int .i64 sd, .int .i64 sb, .int .i64 sw] 37) := ⟨_, rfl⟩
          have hOv := P.since hO7 (hsa.named hWv)
          have hTv := Since.whole (hsa.named hWv) hT7
          have hbv : Below w.heap.size w Wv := hbw7.trans (Below.mono (hsa.named hWv) hbw7.size)
          have hNv : Whole Wv w7.heap.size 37 #[.int .i64 sd, .int .i64 sb, .int .i64 sw] := (Whole.new w7 _ _).named hWv
          have hFn : ¬ F w7.heap.size := fun z => absurd (P.lt hO7 _ z) (Nat.lt_irrefl _)
          have HWv := Lib.hid hWv
          clear hsa hWv hfd hO7 hT7 hbw7
          unfold tlV
          go_upto_region 11 with fail
          rw [← HWv.out]
          have y4 : ∀ W, Off F Wv W → W.cell? ⟨g, go + m * 4 + 3, none⟩ = some (.int .i64 who) := fun W hW => (hcell W (Below.trans (B := w.heap.size) hbv (hW.below hbv.size hF))).2.2.2
          have z0 := off_cell hNv hFn 0 _ rfl
          have z1 := off_cell hNv hFn 1 _ rfl
          have hsr := Off.refl F Wv
          have hsd := hsr.drew
          obtain ⟨wq, hwq⟩ : ∃ wq, wq = Wv.drew := ⟨_, rfl⟩
          have hOq := P.since hOv (Since.refl Wv).drew
          refine wp_region_held_drew (S := fun W => Off F Wv W) (by kernel_rfl) hsd (fun hHeld => ?_)
          rw [← hwq] at hHeld hOq ⊢
          have hq : Off F Wv wq := hHeld
          clear hwq hsd
          refine wpAnyH_take (i := 0) (v := ?_) rfl (by kernel_rfl) (by kernel_rfl) (by kernel_rfl) (fun _ _ _ h => h) (Or.inl ⟨by rfl, ?_⟩) (by assumption) ?_
          rotate_left 1
          · (intro W hW; clear hW; go_simp; try with_reducible rfl)
          simp only [Act.put, List.getElem_toArray, List.getElem_cons_zero, List.setIfInBounds_toArray, List.set_cons_zero, List.set_cons_succ]
          refine wpAnyH_take (i := 1) (v := ?_) rfl (by kernel_rfl) (by kernel_rfl) (by kernel_rfl) (fun _ _ _ h => h) (Or.inl ⟨by rfl, ?_⟩) (by assumption) ?_
          rotate_left 1
          · (intro W hW; clear hW; go_simp; try with_reducible rfl)
          simp only [Act.put, List.getElem_toArray, List.getElem_cons_succ, List.getElem_cons_zero, List.setIfInBounds_toArray, List.set_cons_zero, List.set_cons_succ]
          refine wpAnyH_take (i := 2) (v := ?_) rfl (by kernel_rfl) (by kernel_rfl) (by kernel_rfl) (fun _ _ _ h => h) (Or.inl ⟨by rfl, ?_⟩) (by assumption) ?_
          rotate_left 1
          · (intro W hW; skip; go_simp; try with_reducible rfl)
          simp only [Act.put, List.getElem_toArray, List.getElem_cons_succ, List.getElem_cons_zero, List.setIfInBounds_toArray, List.set_cons_zero, List.set_cons_succ]
          refine wpAnyH_take (i := 3) (v := ?_) rfl (by kernel_rfl) (by kernel_rfl) (by kernel_rfl) (fun _ _ _ h => h) (Or.inl ⟨by rfl, ?_⟩) (by assumption) ?_
          rotate_left 1
          · (intro W hW; clear hW; go_simp; try with_reducible rfl)
          simp only [Act.put, List.getElem_toArray, List.getElem_cons_succ, List.getElem_cons_zero, List.setIfInBounds_toArray, List.set_cons_zero, List.set_cons_succ]
          refine wpAnyH_take (i := 4) (v := ?_) rfl (by kernel_rfl) (by kernel_rfl) (by kernel_rfl) (fun _ _ _ h => h) (Or.inl ⟨by rfl, ?_⟩) (by assumption) ?_
          rotate_left 1
          · (intro W hW; clear hW; go_simp; try with_reducible rfl)
          simp only [Act.put, List.getElem_toArray, List.getElem_cons_succ, List.getElem_cons_zero, List.setIfInBounds_toArray, List.set_cons_zero, List.set_cons_succ]
          refine wpAnyH_take (i := 5) (v := ?_) rfl (by kernel_rfl) (by kernel_rfl) (by kernel_rfl) (fun _ _ _ h => h) (Or.inl ⟨by rfl, ?_⟩) (by assumption) ?_
          rotate_left 1
          · (intro W hW; clear hW; go_simp; try with_reducible rfl)
          simp only [Act.put, List.getElem_toArray, List.getElem_cons_succ, List.getElem_cons_zero, List.setIfInBounds_toArray, List.set_cons_zero, List.set_cons_succ]
          refine wpAnyH_take (i := 6) (v := ?_) rfl (by kernel_rfl) (by kernel_rfl) (by kernel_rfl) (fun _ _ _ h => h) (Or.inl ⟨by rfl, ?_⟩) (by assumption) ?_
          rotate_left 1
          · (intro W hW; clear hW; go_simp; try with_reducible rfl)
          simp only [Act.put, List.getElem_toArray, List.getElem_cons_succ, List.getElem_cons_zero, List.setIfInBounds_toArray, List.set_cons_zero, List.set_cons_succ]
          refine wpAnyH_take (i := 7) (v := ?_) rfl (by kernel_rfl) (by kernel_rfl) (by kernel_rfl) (fun _ _ _ h => h) (Or.inl ⟨by rfl, ?_⟩) (by assumption) ?_
          rotate_left 1
          · (intro W hW; skip; go_simp; try with_reducible rfl)
          simp only [Act.put, List.getElem_toArray, List.getElem_cons_succ, List.getElem_cons_zero, List.setIfInBounds_toArray, List.set_cons_zero, List.set_cons_succ]
          refine wpAnyH_ready (rs := [8]) (by kernel_rfl) (by simp) ?_
          refine AllReadyH.cons rfl (fun K hK => ?_) AllReadyH.nil
          go_simp
          refine (P.split _ _ _ hOq).mono ?_
          rintro e w9 ⟨rfl, F9, t9, hO9, ht9, hoff, hF9⟩
          go_wp2_with fail
          refine hK.out _ _ (Off.trans hq hoff (fun _ _ z => z)) (fun hHeld => ?_)
          clear hK K
          try simp only [Act.put, List.getElem_toArray, List.getElem_cons_succ, List.getElem_cons_zero, List.setIfInBounds_toArray, List.set_cons_zero, List.set_cons_succ]
          refine wpAnyH_done (by kernel_rfl) ?_ _
          have hgp9 := split_full (HKB.out) hgp (P.ok hOv).2.1 (P.ok hO9).2.1 ht9
          have hTB9 : ¬ F9 TB := fun z => (hF9 TB z).elim hTB (fun y => absurd hTv.lt (Nat.not_lt.2 (Nat.le_trans hq.size y)))
          have hoff9 := Off.trans hq hoff (fun _ _ z => z)
          have hT9 := hoff9.whole hTv hTB
          have HR9 := Lib.hid (And.intro hO9 (And.intro hgp9 (And.intro hTB9 hT9)))
          clear hgp9 hTB9 hT9 hO9 ht9 hgp hTB hTv hOv hNv hOq
          go_wp2_with fail
          go_roundw
          case rel => exact ⟨m + 1, F9, t9, by go_num, by omega, HR9.out.1, HR9.out.2.1, fun b z => (hF9 b z).elim (hF b) (fun y => Nat.le_trans (Nat.le_trans hbv.size hq.size) y), HR9.out.2.2.1, HR9.out.2.2.2, Below.trans (B := w.heap.size) hbv (hoff9.below hbv.size hF)⟩
          case measure => simp [intOf]; omega
      · go_simp
        have hgb : wr.heap.size ≤ wc0.heap.size := Since.size_ hc0
        refine hK.out _ _ ((Since.alloc hc0 _)) (fun hHeld => ?_)
        clear hK K
        try simp only [Act.put, List.getElem_toArray, List.getElem_cons_succ, List.getElem_cons_zero, List.setIfInBounds_toArray, List.set_cons_zero, List.set_cons_succ]
        refine wpAnyH_ready (rs := [8]) (by kernel_rfl) (by simp) ?_
        refine AllReadyH.cons rfl (fun K hK => ?_) AllReadyH.nil
        go_simp
        refine (corner5 (wc0.alloc (.cells #[.int .i64 0, .int .i64 0] 24)) HO.out HC.out).mono ?_
        rintro e wc1 ⟨rfl, hd1⟩
        have hc1 : Since wr wc1 := Since.trans (Since.alloc hc0 (.cells #[.int .i64 0, .int .i64 0] 24)) hd1
        have b1 : Whole wc1 (wc0.heap.size) 24 #[.int .i64 0, .int .i64 0] := Since.whole hd1 (Whole.new wc0 24 #[.int .i64 0, .int .i64 0])
        go_wp2_with fail
        refine hK.out _ _ (hc1) (fun hHeld => ?_)
        clear hK K
        try simp only [Act.put, List.getElem_toArray, List.getElem_cons_succ, List.getElem_cons_zero, List.setIfInBounds_toArray, List.set_cons_zero, List.set_cons_succ]
        refine wpAnyH_take (i := 9) (v := ?_) rfl (by kernel_rfl) (by kernel_rfl) (by kernel_rfl) (fun _ _ _ h => h) (Or.inl ⟨by rfl, ?_⟩) (by assumption) ?_
        rotate_left 1
        · (intro W hW; clear hW; go_simp; try with_reducible rfl)
        simp only [Act.put, List.getElem_toArray, List.getElem_cons_succ, List.getElem_cons_zero, List.setIfInBounds_toArray, List.set_cons_zero, List.set_cons_succ]
        refine wpAnyH_take (i := 10) (v := ?_) rfl (by kernel_rfl) (by kernel_rfl) (by kernel_rfl) (fun _ _ _ h => h) (Or.inl ⟨by rfl, ?_⟩) (by assumption) ?_
        rotate_left 1
        · (intro W hW; clear hW; go_simp; try with_reducible rfl)
        simp only [Act.put, List.getElem_toArray, List.getElem_cons_succ, List.getElem_cons_zero, List.setIfInBounds_toArray, List.set_cons_zero, List.set_cons_succ]
        refine wpAnyH_take (i := 11) (v := ?_) rfl (by kernel_rfl) (by kernel_rfl) (by kernel_rfl) (fun _ _ _ h => h) (Or.inl ⟨by rfl, ?_⟩) (by assumption) ?_
        rotate_left 1
        · (intro W hW; clear hW; go_simp; try with_reducible rfl)
        simp only [Act.put, List.getElem_toArray, List.getElem_cons_succ, List.getElem_cons_zero, List.setIfInBounds_toArray, List.set_cons_zero, List.set_cons_succ]
        refine wpAnyH_take (i := 12) (v := ?_) rfl (by kernel_rfl) (by kernel_rfl) (by kernel_rfl) (fun _ _ _ h => h) (Or.inl ⟨by rfl, ?_⟩) (by assumption) ?_
        rotate_left 1
        · (intro W hW; clear hW; go_simp; try with_reducible rfl)
        simp only [Act.put, List.getElem_toArray, List.getElem_cons_succ, List.getElem_cons_zero, List.setIfInBounds_toArray, List.set_cons_zero, List.set_cons_succ]
        refine wpAnyH_ready (rs := [14]) (by kernel_rfl) (by simp) ?_
        refine AllReadyH.cons rfl (fun K hK => ?_) AllReadyH.nil
        have x0 := Whole.cell b1 0
        have y0 := Whole.frozen b1 0
        have x1 := Whole.cell b1 1
        have y1 := Whole.frozen b1 1
        go_simp
        clear x0 y0 x1 y1
        refine hK.out _ _ ((Since.setCell (Since.setCell hc1 (p := ⟨wc0.heap.size, 0, none⟩) hgb (.int .i64 cx)) (p := ⟨wc0.heap.size, 1, none⟩) hgb (.int .i64 cy))) (fun hHeld => ?_)
        clear hK K
        try simp only [Act.put, List.getElem_toArray, List.getElem_cons_succ, List.getElem_cons_zero, List.setIfInBounds_toArray, List.set_cons_zero, List.set_cons_succ]
        refine wpAnyH_take (i := 15) (v := ?_) rfl (by kernel_rfl) (by kernel_rfl) (by kernel_rfl) (fun _ _ _ h => h) (Or.inl ⟨by rfl, ?_⟩) (by assumption) ?_
        rotate_left 1
        · (intro W hW; clear hW; go_simp; try with_reducible rfl)
        simp only [Act.put, List.getElem_toArray, List.getElem_cons_succ, List.getElem_cons_zero, List.setIfInBounds_toArray, List.set_cons_zero, List.set_cons_succ]
        refine wpAnyH_take (i := 16) (v := ?_) rfl (by kernel_rfl) (by kernel_rfl) (by kernel_rfl) (fun _ _ _ h => h) (Or.inl ⟨by rfl, ?_⟩) (by assumption) ?_
        rotate_left 1
        · (intro W hW; clear hW; go_simp; try with_reducible rfl)
        simp only [Act.put, List.getElem_toArray, List.getElem_cons_succ, List.getElem_cons_zero, List.setIfInBounds_toArray, List.set_cons_zero, List.set_cons_succ]
        refine wpAnyH_done (by kernel_rfl) ?_ _
        obtain ⟨w5, hw5⟩ : ∃ w5, w5 = (World.setCell (World.setCell wc1 ⟨wc0.heap.size, 0, none⟩ (.int .i64 cx)) ⟨wc0.heap.size, 1, none⟩ (.int .i64 cy)) := ⟨_, rfl⟩
        have hS5 : Since wr w5 := Since.named (Since.setCell (Since.setCell hc1 (p := ⟨wc0.heap.size, 0, none⟩) hgb (.int .i64 cx)) (p := ⟨wc0.heap.size, 1, none⟩) hgb (.int .i64 cy)) hw5
        have hN5 : Whole w5 (wc0.heap.size) 24 #[.int .i64 cx, .int .i64 cy] := Whole.named (Whole.set_ (Whole.set_ b1 0 (.int .i64 cx)) 1 (.int .i64 cy)) hw5
        obtain ⟨NB, hNB⟩ : ∃ NB, NB = wc0.heap.size := ⟨_, rfl⟩
        rw [← hw5, ← hNB]
        rw [← hNB] at hN5
        clear hHeld hw5 hNB
        have hO5 := P.since hO hS5
        have hT5 := Since.whole hS5 hTW
        have hbw5 : Below w.heap.size w w5 := hbw.trans (Below.mono hS5 hbw.size)
        have z0 := hN5.cell 0
        have z1 := hN5.cell 1
        clear hO hTW
        go_wp2_with fail
        refine (P.find cx cy hO5).mono ?_
        rintro e w7 ⟨rfl, hb7⟩
        have hO7 := P.since hO5 hb7
        have hT7 := Since.whole hb7 hT5
        have hbw7 : Below w.heap.size w w7 := hbw5.trans (Below.mono hb7 hbw5.size)
        clear hb7 hO5 hT5 hbw5 z0 z1 k1 k2 k3 hcT
        cases hfd : findT k (t.tiles 0 0) cx cy with
        | none =>
          have hsa : Since w7 (w7.alloc (.cells #[.int .i64 0, .int .i64 0, .int .i64 0] 37)) := (Since.refl w7).alloc _
          obtain ⟨Wv, hWv⟩ : ∃ Wv, Wv = w7.alloc (.cells #[.int .i64 0, .int .i64 0, .int .i64 0] 37) := ⟨_, rfl⟩
          have hOv := P.since hO7 (hsa.named hWv)
          have hTv := Since.whole (hsa.named hWv) hT7
          have hbv : Below w.heap.size w Wv := hbw7.trans (Below.mono (hsa.named hWv) hbw7.size)
          have hNv : Whole Wv w7.heap.size 37 #[.int .i64 0, .int .i64 0, .int .i64 0] := (Whole.new w7 _ _).named hWv
          have hFn : ¬ F w7.heap.size := fun z => absurd (P.lt hO7 _ z) (Nat.lt_irrefl _)
          have HWv := Lib.hid hWv
          clear hsa hWv hfd hO7 hT7 hbw7
          unfold tlV
          go_wp2_with fail
          rw [← HWv.out]
          go_roundw
          case rel => exact ⟨m + 1, F, t, by go_num, by omega, hOv, hgp, hF, hTB, hTv, hbv⟩
          case measure => simp [intOf]; omega
        | some s =>
          obtain ⟨sd, sb, sw⟩ := s
          have hsa : Since w7 (w7.alloc (.cells #[.int .i64 sd, .int .i64 sb, .int .i64 sw] 37)) := (Since.refl w7).alloc _
          obtain ⟨Wv, hWv⟩ : ∃ Wv, Wv = w7.alloc (.cells #[.int .i64 sd, .int .i64 sb, .int .i64 sw] 37) := ⟨_, rfl⟩
          have hOv := P.since hO7 (hsa.named hWv)
          have hTv := Since.whole (hsa.named hWv) hT7
          have hbv : Below w.heap.size w Wv := hbw7.trans (Below.mono (hsa.named hWv) hbw7.size)
          have hNv : Whole Wv w7.heap.size 37 #[.int .i64 sd, .int .i64 sb, .int .i64 sw] := (Whole.new w7 _ _).named hWv
          have hFn : ¬ F w7.heap.size := fun z => absurd (P.lt hO7 _ z) (Nat.lt_irrefl _)
          have HWv := Lib.hid hWv
          clear hsa hWv hfd hO7 hT7 hbw7
          unfold tlV
          go_upto_region 11 with fail
          rw [← HWv.out]
          have y4 : ∀ W, Off F Wv W → W.cell? ⟨g, go + m * 4 + 3, none⟩ = some (.int .i64 who) := fun W hW => (hcell W (Below.trans (B := w.heap.size) hbv (hW.below hbv.size hF))).2.2.2
          have z0 := off_cell hNv hFn 0 _ rfl
          have z1 := off_cell hNv hFn 1 _ rfl
          have hsr := Off.refl F Wv
          have hsd := hsr.drew
          obtain ⟨wq, hwq⟩ : ∃ wq, wq = Wv.drew := ⟨_, rfl⟩
          have hOq := P.since hOv (Since.refl Wv).drew
          refine wp_region_held_drew (S := fun W => Off F Wv W) (by kernel_rfl) hsd (fun hHeld => ?_)
          rw [← hwq] at hHeld hOq ⊢
          have hq : Off F Wv wq := hHeld
          clear hwq hsd
          refine wpAnyH_take (i := 0) (v := ?_) rfl (by kernel_rfl) (by kernel_rfl) (by kernel_rfl) (fun _ _ _ h => h) (Or.inl ⟨by rfl, ?_⟩) (by assumption) ?_
          rotate_left 1
          · (intro W hW; clear hW; go_simp; try with_reducible rfl)
          simp only [Act.put, List.getElem_toArray, List.getElem_cons_zero, List.setIfInBounds_toArray, List.set_cons_zero, List.set_cons_succ]
          refine wpAnyH_take (i := 1) (v := ?_) rfl (by kernel_rfl) (by kernel_rfl) (by kernel_rfl) (fun _ _ _ h => h) (Or.inl ⟨by rfl, ?_⟩) (by assumption) ?_
          rotate_left 1
          · (intro W hW; clear hW; go_simp; try with_reducible rfl)
          simp only [Act.put, List.getElem_toArray, List.getElem_cons_succ, List.getElem_cons_zero, List.setIfInBounds_toArray, List.set_cons_zero, List.set_cons_succ]
          refine wpAnyH_take (i := 2) (v := ?_) rfl (by kernel_rfl) (by kernel_rfl) (by kernel_rfl) (fun _ _ _ h => h) (Or.inl ⟨by rfl, ?_⟩) (by assumption) ?_
          rotate_left 1
          · (intro W hW; skip; go_simp; try with_reducible rfl)
          simp only [Act.put, List.getElem_toArray, List.getElem_cons_succ, List.getElem_cons_zero, List.setIfInBounds_toArray, List.set_cons_zero, List.set_cons_succ]
          refine wpAnyH_take (i := 3) (v := ?_) rfl (by kernel_rfl) (by kernel_rfl) (by kernel_rfl) (fun _ _ _ h => h) (Or.inl ⟨by rfl, ?_⟩) (by assumption) ?_
          rotate_left 1
          · (intro W hW; clear hW; go_simp; try with_reducible rfl)
          simp only [Act.put, List.getElem_toArray, List.getElem_cons_succ, List.getElem_cons_zero, List.setIfInBounds_toArray, List.set_cons_zero, List.set_cons_succ]
          refine wpAnyH_take (i := 4) (v := ?_) rfl (by kernel_rfl) (by kernel_rfl) (by kernel_rfl) (fun _ _ _ h => h) (Or.inl ⟨by rfl, ?_⟩) (by assumption) ?_
          rotate_left 1
          · (intro W hW; clear hW; go_simp; try with_reducible rfl)
          simp only [Act.put, List.getElem_toArray, List.getElem_cons_succ, List.getElem_cons_zero, List.setIfInBounds_toArray, List.set_cons_zero, List.set_cons_succ]
          refine wpAnyH_take (i := 5) (v := ?_) rfl (by kernel_rfl) (by kernel_rfl) (by kernel_rfl) (fun _ _ _ h => h) (Or.inl ⟨by rfl, ?_⟩) (by assumption) ?_
          rotate_left 1
          · (intro W hW; clear hW; go_simp; try with_reducible rfl)
          simp only [Act.put, List.getElem_toArray, List.getElem_cons_succ, List.getElem_cons_zero, List.setIfInBounds_toArray, List.set_cons_zero, List.set_cons_succ]
          refine wpAnyH_take (i := 6) (v := ?_) rfl (by kernel_rfl) (by kernel_rfl) (by kernel_rfl) (fun _ _ _ h => h) (Or.inl ⟨by rfl, ?_⟩) (by assumption) ?_
          rotate_left 1
          · (intro W hW; clear hW; go_simp; try with_reducible rfl)
          simp only [Act.put, List.getElem_toArray, List.getElem_cons_succ, List.getElem_cons_zero, List.setIfInBounds_toArray, List.set_cons_zero, List.set_cons_succ]
          refine wpAnyH_take (i := 7) (v := ?_) rfl (by kernel_rfl) (by kernel_rfl) (by kernel_rfl) (fun _ _ _ h => h) (Or.inl ⟨by rfl, ?_⟩) (by assumption) ?_
          rotate_left 1
          · (intro W hW; skip; go_simp; try with_reducible rfl)
          simp only [Act.put, List.getElem_toArray, List.getElem_cons_succ, List.getElem_cons_zero, List.setIfInBounds_toArray, List.set_cons_zero, List.set_cons_succ]
          refine wpAnyH_ready (rs := [8]) (by kernel_rfl) (by simp) ?_
          refine AllReadyH.cons rfl (fun K hK => ?_) AllReadyH.nil
          go_simp
          refine (P.split _ _ _ hOq).mono ?_
          rintro e w9 ⟨rfl, F9, t9, hO9, ht9, hoff, hF9⟩
          go_wp2_with fail
          refine hK.out _ _ (Off.trans hq hoff (fun _ _ z => z)) (fun hHeld => ?_)
          clear hK K
          try simp only [Act.put, List.getElem_toArray, List.getElem_cons_succ, List.getElem_cons_zero, List.setIfInBounds_toArray, List.set_cons_zero, List.set_cons_succ]
          refine wpAnyH_done (by kernel_rfl) ?_ _
          have hgp9 := split_full (HKB.out) hgp (P.ok hOv).2.1 (P.ok hO9).2.1 ht9
          have hTB9 : ¬ F9 TB := fun z => (hF9 TB z).elim hTB (fun y => absurd hTv.lt (Nat.not_lt.2 (Nat.le_trans hq.size y)))
          have hoff9 := Off.trans hq hoff (fun _ _ z => z)
          have hT9 := hoff9.whole hTv hTB
          have HR9 := Lib.hid (And.intro hO9 (And.intro hgp9 (And.intro hTB9 hT9)))
          clear hgp9 hTB9 hT9 hO9 ht9 hgp hTB hTv hOv hNv hOq
          go_wp2_with fail
          go_roundw
          case rel => exact ⟨m + 1, F9, t9, by go_num, by omega, HR9.out.1, HR9.out.2.1, fun b z => (hF9 b z).elim (hF b) (fun y => Nat.le_trans (Nat.le_trans hbv.size hq.size) y), HR9.out.2.2.1, HR9.out.2.2.2, Below.trans (B := w.heap.size) hbv (hoff9.below hbv.size hF)⟩
          case measure => simp [intOf]; omega
    · go_simp
      have hgb : wr.heap.size ≤ wq.heap.size := Since.size_ hq
      refine hK.out _ _ ((Since.alloc hq _)) (fun hHeld => ?_)
      clear hK K
      try simp only [Act.put, List.getElem_toArray, List.getElem_cons_succ, List.getElem_cons_zero, List.setIfInBounds_toArray, List.set_cons_zero, List.set_cons_succ]
      refine wpAnyH_ready (rs := [7]) (by kernel_rfl) (by simp) ?_
      refine AllReadyH.cons rfl (fun K hK => ?_) AllReadyH.nil
      go_simp
      refine (some_at (wq.alloc (.cells #[.int .i64 0, .int .i64 0] 24)) HK0.out HK1.out HD.out HE.out).mono ?_
      rintro e wc0 ⟨rfl, hd0⟩
      have hc0 : Since wr wc0 := Since.trans (Since.alloc hq (.cells #[.int .i64 0, .int .i64 0] 24)) hd0
      have b0 : Whole wc0 (wq.heap.size) 24 #[.int .i64 0, .int .i64 0] := Since.whole hd0 (Whole.new wq 24 #[.int .i64 0, .int .i64 0])
      go_wp2_with fail
      refine hK.out _ _ (hc0) (fun hHeld => ?_)
      clear hK K
      try simp only [Act.put, List.getElem_toArray, List.getElem_cons_succ, List.getElem_cons_zero, List.setIfInBounds_toArray, List.set_cons_zero, List.set_cons_succ]
      refine wpAnyH_ready (rs := [8]) (by kernel_rfl) (by simp) ?_
      refine AllReadyH.cons rfl (fun K hK => ?_) AllReadyH.nil
      go_simp
      refine (corner5 wc0 HO.out HC.out).mono ?_
      rintro e wc1 ⟨rfl, hd1⟩
      have hc1 : Since wr wc1 := Since.trans hc0 hd1
      have b1 : Whole wc1 (wq.heap.size) 24 #[.int .i64 0, .int .i64 0] := Since.whole hd1 b0
      go_wp2_with fail
      refine hK.out _ _ (hc1) (fun hHeld => ?_)
      clear hK K
      try simp only [Act.put, List.getElem_toArray, List.getElem_cons_succ, List.getElem_cons_zero, List.setIfInBounds_toArray, List.set_cons_zero, List.set_cons_succ]
      refine wpAnyH_take (i := 9) (v := ?_) rfl (by kernel_rfl) (by kernel_rfl) (by kernel_rfl) (fun _ _ _ h => h) (Or.inl ⟨by rfl, ?_⟩) (by assumption) ?_
      rotate_left 1
      · (intro W hW; clear hW; go_simp; try with_reducible rfl)
      simp only [Act.put, List.getElem_toArray, List.getElem_cons_succ, List.getElem_cons_zero, List.setIfInBounds_toArray, List.set_cons_zero, List.set_cons_succ]
      refine wpAnyH_take (i := 10) (v := ?_) rfl (by kernel_rfl) (by kernel_rfl) (by kernel_rfl) (fun _ _ _ h => h) (Or.inl ⟨by rfl, ?_⟩) (by assumption) ?_
      rotate_left 1
      · (intro W hW; clear hW; go_simp; try with_reducible rfl)
      simp only [Act.put, List.getElem_toArray, List.getElem_cons_succ, List.getElem_cons_zero, List.setIfInBounds_toArray, List.set_cons_zero, List.set_cons_succ]
      refine wpAnyH_take (i := 11) (v := ?_) rfl (by kernel_rfl) (by kernel_rfl) (by kernel_rfl) (fun _ _ _ h => h) (Or.inl ⟨by rfl, ?_⟩) (by assumption) ?_
      rotate_left 1
      · (intro W hW; clear hW; go_simp; try with_reducible rfl)
      simp only [Act.put, List.getElem_toArray, List.getElem_cons_succ, List.getElem_cons_zero, List.setIfInBounds_toArray, List.set_cons_zero, List.set_cons_succ]
      refine wpAnyH_take (i := 12) (v := ?_) rfl (by kernel_rfl) (by kernel_rfl) (by kernel_rfl) (fun _ _ _ h => h) (Or.inl ⟨by rfl, ?_⟩) (by assumption) ?_
      rotate_left 1
      · (intro W hW; clear hW; go_simp; try with_reducible rfl)
      simp only [Act.put, List.getElem_toArray, List.getElem_cons_succ, List.getElem_cons_zero, List.setIfInBounds_toArray, List.set_cons_zero, List.set_cons_succ]
      refine wpAnyH_ready (rs := [14]) (by kernel_rfl) (by simp) ?_
      refine AllReadyH.cons rfl (fun K hK => ?_) AllReadyH.nil
      have x0 := Whole.cell b1 0
      have y0 := Whole.frozen b1 0
      have x1 := Whole.cell b1 1
      have y1 := Whole.frozen b1 1
      go_simp
      clear x0 y0 x1 y1
      refine hK.out _ _ ((Since.setCell (Since.setCell hc1 (p := ⟨wq.heap.size, 0, none⟩) hgb (.int .i64 cx)) (p := ⟨wq.heap.size, 1, none⟩) hgb (.int .i64 cy))) (fun hHeld => ?_)
      clear hK K
      try simp only [Act.put, List.getElem_toArray, List.getElem_cons_succ, List.getElem_cons_zero, List.setIfInBounds_toArray, List.set_cons_zero, List.set_cons_succ]
      refine wpAnyH_take (i := 15) (v := ?_) rfl (by kernel_rfl) (by kernel_rfl) (by kernel_rfl) (fun _ _ _ h => h) (Or.inl ⟨by rfl, ?_⟩) (by assumption) ?_
      rotate_left 1
      · (intro W hW; clear hW; go_simp; try with_reducible rfl)
      simp only [Act.put, List.getElem_toArray, List.getElem_cons_succ, List.getElem_cons_zero, List.setIfInBounds_toArray, List.set_cons_zero, List.set_cons_succ]
      refine wpAnyH_take (i := 16) (v := ?_) rfl (by kernel_rfl) (by kernel_rfl) (by kernel_rfl) (fun _ _ _ h => h) (Or.inl ⟨by rfl, ?_⟩) (by assumption) ?_
      rotate_left 1
      · (intro W hW; clear hW; go_simp; try with_reducible rfl)
      simp only [Act.put, List.getElem_toArray, List.getElem_cons_succ, List.getElem_cons_zero, List.setIfInBounds_toArray, List.set_cons_zero, List.set_cons_succ]
      refine wpAnyH_done (by kernel_rfl) ?_ _
      obtain ⟨w5, hw5⟩ : ∃ w5, w5 = (World.setCell (World.setCell wc1 ⟨wq.heap.size, 0, none⟩ (.int .i64 cx)) ⟨wq.heap.size, 1, none⟩ (.int .i64 cy)) := ⟨_, rfl⟩
      have hS5 : Since wr w5 := Since.named (Since.setCell (Since.setCell hc1 (p := ⟨wq.heap.size, 0, none⟩) hgb (.int .i64 cx)) (p := ⟨wq.heap.size, 1, none⟩) hgb (.int .i64 cy)) hw5
      have hN5 : Whole w5 (wq.heap.size) 24 #[.int .i64 cx, .int .i64 cy] := Whole.named (Whole.set_ (Whole.set_ b1 0 (.int .i64 cx)) 1 (.int .i64 cy)) hw5
      obtain ⟨NB, hNB⟩ : ∃ NB, NB = wq.heap.size := ⟨_, rfl⟩
      rw [← hw5, ← hNB]
      rw [← hNB] at hN5
      clear hHeld hw5 hNB
      have hO5 := P.since hO hS5
      have hT5 := Since.whole hS5 hTW
      have hbw5 : Below w.heap.size w w5 := hbw.trans (Below.mono hS5 hbw.size)
      have z0 := hN5.cell 0
      have z1 := hN5.cell 1
      clear hO hTW
      go_wp2_with fail
      refine (P.find cx cy hO5).mono ?_
      rintro e w7 ⟨rfl, hb7⟩
      have hO7 := P.since hO5 hb7
      have hT7 := Since.whole hb7 hT5
      have hbw7 : Below w.heap.size w w7 := hbw5.trans (Below.mono hb7 hbw5.size)
      clear hb7 hO5 hT5 hbw5 z0 z1 k1 k2 k3 hcT
      cases hfd : findT k (t.tiles 0 0) cx cy with
      | none =>
        have hsa : Since w7 (w7.alloc (.cells #[.int .i64 0, .int .i64 0, .int .i64 0] 37)) := (Since.refl w7).alloc _
        obtain ⟨Wv, hWv⟩ : ∃ Wv, Wv = w7.alloc (.cells #[.int .i64 0, .int .i64 0, .int .i64 0] 37) := ⟨_, rfl⟩
        have hOv := P.since hO7 (hsa.named hWv)
        have hTv := Since.whole (hsa.named hWv) hT7
        have hbv : Below w.heap.size w Wv := hbw7.trans (Below.mono (hsa.named hWv) hbw7.size)
        have hNv : Whole Wv w7.heap.size 37 #[.int .i64 0, .int .i64 0, .int .i64 0] := (Whole.new w7 _ _).named hWv
        have hFn : ¬ F w7.heap.size := fun z => absurd (P.lt hO7 _ z) (Nat.lt_irrefl _)
        have HWv := Lib.hid hWv
        clear hsa hWv hfd hO7 hT7 hbw7
        unfold tlV
        go_wp2_with fail
        rw [← HWv.out]
        go_roundw
        case rel => exact ⟨m + 1, F, t, by go_num, by omega, hOv, hgp, hF, hTB, hTv, hbv⟩
        case measure => simp [intOf]; omega
      | some s =>
        obtain ⟨sd, sb, sw⟩ := s
        have hsa : Since w7 (w7.alloc (.cells #[.int .i64 sd, .int .i64 sb, .int .i64 sw] 37)) := (Since.refl w7).alloc _
        obtain ⟨Wv, hWv⟩ : ∃ Wv, Wv = w7.alloc (.cells #[.int .i64 sd, .int .i64 sb, .int .i64 sw] 37) := ⟨_, rfl⟩
        have hOv := P.since hO7 (hsa.named hWv)
        have hTv := Since.whole (hsa.named hWv) hT7
        have hbv : Below w.heap.size w Wv := hbw7.trans (Below.mono (hsa.named hWv) hbw7.size)
        have hNv : Whole Wv w7.heap.size 37 #[.int .i64 sd, .int .i64 sb, .int .i64 sw] := (Whole.new w7 _ _).named hWv
        have hFn : ¬ F w7.heap.size := fun z => absurd (P.lt hO7 _ z) (Nat.lt_irrefl _)
        have HWv := Lib.hid hWv
        clear hsa hWv hfd hO7 hT7 hbw7
        unfold tlV
        go_upto_region 11 with fail
        rw [← HWv.out]
        have y4 : ∀ W, Off F Wv W → W.cell? ⟨g, go + m * 4 + 3, none⟩ = some (.int .i64 who) := fun W hW => (hcell W (Below.trans (B := w.heap.size) hbv (hW.below hbv.size hF))).2.2.2
        have z0 := off_cell hNv hFn 0 _ rfl
        have z1 := off_cell hNv hFn 1 _ rfl
        have hsr := Off.refl F Wv
        have hsd := hsr.drew
        obtain ⟨wq, hwq⟩ : ∃ wq, wq = Wv.drew := ⟨_, rfl⟩
        have hOq := P.since hOv (Since.refl Wv).drew
        refine wp_region_held_drew (S := fun W => Off F Wv W) (by kernel_rfl) hsd (fun hHeld => ?_)
        rw [← hwq] at hHeld hOq ⊢
        have hq : Off F Wv wq := hHeld
        clear hwq hsd
        refine wpAnyH_take (i := 0) (v := ?_) rfl (by kernel_rfl) (by kernel_rfl) (by kernel_rfl) (fun _ _ _ h => h) (Or.inl ⟨by rfl, ?_⟩) (by assumption) ?_
        rotate_left 1
        · (intro W hW; clear hW; go_simp; try with_reducible rfl)
        simp only [Act.put, List.getElem_toArray, List.getElem_cons_zero, List.setIfInBounds_toArray, List.set_cons_zero, List.set_cons_succ]
        refine wpAnyH_take (i := 1) (v := ?_) rfl (by kernel_rfl) (by kernel_rfl) (by kernel_rfl) (fun _ _ _ h => h) (Or.inl ⟨by rfl, ?_⟩) (by assumption) ?_
        rotate_left 1
        · (intro W hW; clear hW; go_simp; try with_reducible rfl)
        simp only [Act.put, List.getElem_toArray, List.getElem_cons_succ, List.getElem_cons_zero, List.setIfInBounds_toArray, List.set_cons_zero, List.set_cons_succ]
        refine wpAnyH_take (i := 2) (v := ?_) rfl (by kernel_rfl) (by kernel_rfl) (by kernel_rfl) (fun _ _ _ h => h) (Or.inl ⟨by rfl, ?_⟩) (by assumption) ?_
        rotate_left 1
        · (intro W hW; skip; go_simp; try with_reducible rfl)
        simp only [Act.put, List.getElem_toArray, List.getElem_cons_succ, List.getElem_cons_zero, List.setIfInBounds_toArray, List.set_cons_zero, List.set_cons_succ]
        refine wpAnyH_take (i := 3) (v := ?_) rfl (by kernel_rfl) (by kernel_rfl) (by kernel_rfl) (fun _ _ _ h => h) (Or.inl ⟨by rfl, ?_⟩) (by assumption) ?_
        rotate_left 1
        · (intro W hW; clear hW; go_simp; try with_reducible rfl)
        simp only [Act.put, List.getElem_toArray, List.getElem_cons_succ, List.getElem_cons_zero, List.setIfInBounds_toArray, List.set_cons_zero, List.set_cons_succ]
        refine wpAnyH_take (i := 4) (v := ?_) rfl (by kernel_rfl) (by kernel_rfl) (by kernel_rfl) (fun _ _ _ h => h) (Or.inl ⟨by rfl, ?_⟩) (by assumption) ?_
        rotate_left 1
        · (intro W hW; clear hW; go_simp; try with_reducible rfl)
        simp only [Act.put, List.getElem_toArray, List.getElem_cons_succ, List.getElem_cons_zero, List.setIfInBounds_toArray, List.set_cons_zero, List.set_cons_succ]
        refine wpAnyH_take (i := 5) (v := ?_) rfl (by kernel_rfl) (by kernel_rfl) (by kernel_rfl) (fun _ _ _ h => h) (Or.inl ⟨by rfl, ?_⟩) (by assumption) ?_
        rotate_left 1
        · (intro W hW; clear hW; go_simp; try with_reducible rfl)
        simp only [Act.put, List.getElem_toArray, List.getElem_cons_succ, List.getElem_cons_zero, List.setIfInBounds_toArray, List.set_cons_zero, List.set_cons_succ]
        refine wpAnyH_take (i := 6) (v := ?_) rfl (by kernel_rfl) (by kernel_rfl) (by kernel_rfl) (fun _ _ _ h => h) (Or.inl ⟨by rfl, ?_⟩) (by assumption) ?_
        rotate_left 1
        · (intro W hW; clear hW; go_simp; try with_reducible rfl)
        simp only [Act.put, List.getElem_toArray, List.getElem_cons_succ, List.getElem_cons_zero, List.setIfInBounds_toArray, List.set_cons_zero, List.set_cons_succ]
        refine wpAnyH_take (i := 7) (v := ?_) rfl (by kernel_rfl) (by kernel_rfl) (by kernel_rfl) (fun _ _ _ h => h) (Or.inl ⟨by rfl, ?_⟩) (by assumption) ?_
        rotate_left 1
        · (intro W hW; skip; go_simp; try with_reducible rfl)
        simp only [Act.put, List.getElem_toArray, List.getElem_cons_succ, List.getElem_cons_zero, List.setIfInBounds_toArray, List.set_cons_zero, List.set_cons_succ]
        refine wpAnyH_ready (rs := [8]) (by kernel_rfl) (by simp) ?_
        refine AllReadyH.cons rfl (fun K hK => ?_) AllReadyH.nil
        go_simp
        refine (P.split _ _ _ hOq).mono ?_
        rintro e w9 ⟨rfl, F9, t9, hO9, ht9, hoff, hF9⟩
        go_wp2_with fail
        refine hK.out _ _ (Off.trans hq hoff (fun _ _ z => z)) (fun hHeld => ?_)
        clear hK K
        try simp only [Act.put, List.getElem_toArray, List.getElem_cons_succ, List.getElem_cons_zero, List.setIfInBounds_toArray, List.set_cons_zero, List.set_cons_succ]
        refine wpAnyH_done (by kernel_rfl) ?_ _
        have hgp9 := split_full (HKB.out) hgp (P.ok hOv).2.1 (P.ok hO9).2.1 ht9
        have hTB9 : ¬ F9 TB := fun z => (hF9 TB z).elim hTB (fun y => absurd hTv.lt (Nat.not_lt.2 (Nat.le_trans hq.size y)))
        have hoff9 := Off.trans hq hoff (fun _ _ z => z)
        have hT9 := hoff9.whole hTv hTB
        have HR9 := Lib.hid (And.intro hO9 (And.intro hgp9 (And.intro hTB9 hT9)))
        clear hgp9 hTB9 hT9 hO9 ht9 hgp hTB hTv hOv hNv hOq
        go_wp2_with fail
        go_roundw
        case rel => exact ⟨m + 1, F9, t9, by go_num, by omega, HR9.out.1, HR9.out.2.1, fun b z => (hF9 b z).elim (hF b) (fun y => Nat.le_trans (Nat.le_trans hbv.size hq.size) y), HR9.out.2.2.1, HR9.out.2.2.2, Below.trans (B := w.heap.size) hbv (hoff9.below hbv.size hF)⟩
        case measure => simp [intOf]; omega
end Go.Proofs.Ytbbnojfecmocgaa
