/- The laws' own made: a tiling that acts made of the whole torus, by premises. -/
import Derived.Test.YtdbacinaffdkaaaGKnows
import Derived.StillTailTactics
namespace Go.Proofs.Ytdbacinaffdkaaa
open Go.RowKit
/-- An act. -/
structure Ac where
  kind : Int
  d : Int
  b : Int
  who : Int
def encA (a : Ac) : List Value := [.int .i64 a.kind, .int .i64 a.d, .int .i64 a.b, .int .i64 a.who]
theorem encA_len (a : Ac) : (encA a).length = 4 := rfl
theorem corner5 {k d b p q r s : Int} (w : World) (h : okP k d b = true) (he : corF (side k) (ups d b (cnt d b)) = (p, q, r, s)) : Calls Try.prog 35 #[.agg #[.int .i64 k], .agg #[.int .i64 d, .int .i64 b]] w fun e w' => e = .returned (.tuple #[.agg #[.int .i64 p, .int .i64 q], .int .i64 r, .int .i64 s]) ∧ Below w.heap.size w w' := by
  have h1 := corner_raw k d b w h
  rw [he] at h1
  exact h1
/-- A tiling of its own. -/
def MadeP (Obj : (Nat → Prop) → World → Value → Int → Tr → Prop) (w : World) (k : Int) (e : Ending) (W' : World) : Prop :=
  ∃ g F t, e = .returned (.pointer (some ⟨g, 0, none⟩)) ∧ Obj F W' (.pointer (some ⟨g, 0, none⟩)) k t ∧ (∀ b, F b → w.heap.size ≤ b) ∧ Below w.heap.size w W'
set_option maxRecDepth 100000 in
set_option maxHeartbeats 6400000 in
theorem made_any {Obj : (Nat → Prop) → World → Value → Int → Tr → Prop} (P : TilP Obj) {k : Int} (hk : rgt k = true) {B : Nat} {v : Value} {L : List Ac} (w : World) (hL : LentE encA 4 B w v L) (hB : B ≤ w.heap.size) :
    Calls Try.prog 33 #[.int .i64 k, v] w (MadeP Obj w k) := by
  have hk1 := (rgt_iff k).1 hk
  have HK := Lib.hid hk
  have HK0 := Lib.hid (show 0 ≤ k by omega)
  have HK1 := Lib.hid (show k ≤ 16 by omega)
  have HOK := Lib.hid (fun d b : Int => some_ok k d b hk1)
  obtain ⟨va, cap, rfl, hform⟩ := hL
  clear hk hk1
  go_enter Try.func33, Try.ntmps33
  go_wp2_with fail
  refine Calls.named (fun w1 hw => ?_)
  have wg : Whole w1 w.heap.size 50 (([⟨0, 0, 0⟩] : List Tl).flatMap encT).toArray := (Whole.new w 50 #[.int .i64 0, .int .i64 0, .int .i64 0]).named hw
  have hs1 : Since w w1 := ((Since.refl w).alloc _).named hw
  clear hw
  refine (P.new k 0 w1 _ HK.out (ListE.ofWhole (cap := 1) encT_len wg wg.lt)).mono ?_
  rintro e w2 ⟨x, F, t, rfl, hO, ht0, hF, hb, hv0⟩
  clear ht0
  obtain ⟨gx, rfl⟩ := P.form hO
  have hbw : Below w.heap.size w w2 := hs1.trans hb
  replace hF : ∀ b, F b → w.heap.size ≤ b := fun b z => Nat.le_trans hs1.size_ (hF b z)
  clear hb wg hs1 hv0
  go_wp2_with (go_at_call 12; (with_reducible refine (law5_num _ _).mono ?_); rintro e wn ⟨rfl, rfl⟩)
  go_loopw [7] (fun i wr => ∃ (m : Nat) (F : Nat → Prop) (t : Tr), i = .int .i64 m ∧ m ≤ L.length ∧ Obj F wr (.pointer (some ⟨gx, 0, none⟩)) k t ∧ (∀ b, F b → w.heap.size ≤ b) ∧ Below w.heap.size w wr) (fun i _ => L.length - (intOf i).toNat)
  case atStart => exact ⟨0, F, t, rfl, Nat.zero_le _, hO, hF, hbw⟩
  case round =>
    clear hO hF hbw F t
    obtain ⟨m, F, t, rfl, hm, hO, hF, hbw⟩ := hrel
    by_cases hlt : m < L.length
    rotate_left
    · obtain rfl : m = L.length := by omega
      have d1 : decide ((L.length : Int) < L.length) = false := decide_eq_false (by omega)
      go_wp2_with fail
      go_ret
      exact ⟨_, _, _, rfl, hO, hF, hbw⟩
    have d1 : decide ((m : Int) < L.length) = true := decide_eq_true (by omega)
    by_cases h40 : m < 40
    rotate_left
    · have d2 : decide ((m : Int) < 40) = false := decide_eq_false (by omega)
      go_wp2_with fail
      go_ret
      exact ⟨_, _, _, rfl, hO, hF, hbw⟩
    have d2 : decide ((m : Int) < 40) = true := decide_eq_true (by omega)
    have hm40 : (m : Int) < 40 := by omega
    obtain ⟨g, go, rfl, hg, hcc⟩ : ∃ g go, va = some ⟨g, go, none⟩ ∧ g < B ∧ ∀ j u, (encA L[m])[j]? = some u → w.cell? ⟨g, go + m * 4 + j, none⟩ = some u := by
      rcases hform with z | ⟨g, go, h1, h2, h3⟩
      · omega
      · exact ⟨g, go, h1, h2, h3 m hlt⟩
    obtain ⟨⟨K, pd, pb, who⟩, hr⟩ : ∃ a, L[m] = a := ⟨_, rfl⟩
    rw [hr] at hcc
    have hcell : ∀ W, Below w.heap.size w W → W.cell? ⟨g, go + m * 4, none⟩ = some (.int .i64 K) ∧ W.cell? ⟨g, go + m * 4 + 1, none⟩ = some (.int .i64 pd) ∧ W.cell? ⟨g, go + m * 4 + 1 + 1, none⟩ = some (.int .i64 pb) ∧ W.cell? ⟨g, go + m * 4 + 3, none⟩ = some (.int .i64 who) := fun W hW => by
      have e : ∀ j, W.cell? ⟨g, j, none⟩ = w.cell? ⟨g, j, none⟩ := fun j => World.cell?_of_block (hW.block g (Nat.lt_of_lt_of_le hg hB))
      exact ⟨(e _).trans (hcc 0 _ rfl), (e _).trans (hcc 1 _ rfl), (e _).trans (hcc 2 _ rfl), (e _).trans (hcc 3 _ rfl)⟩
    obtain ⟨q1, q2, q3, q4⟩ := hcell wr hbw
    obtain ⟨D, hD⟩ : ∃ D, smD k pd = D := ⟨_, rfl⟩
    obtain ⟨E, hE⟩ : ∃ E, smB k pd pb = E := ⟨_, rfl⟩
    have hok : okP k D E = true := by rw [← hD, ← hE]; exact HOK.out pd pb
    obtain ⟨⟨cx, cy, cw, ch⟩, hc⟩ : ∃ q, corF (side k) (ups D E (cnt D E)) = q := ⟨_, rfl⟩
    have HD := Lib.hid hD
    have HE := Lib.hid hE
    have HO := Lib.hid hok
    have HC := Lib.hid hc
    clear hr hD hE hok hc hform hcc
    have hsr := Since.refl wr
    go_wp2_with fail
    refine (some_at wr HK0.out HK1.out HD.out HE.out).mono ?_
    rintro e w3 ⟨rfl, hb3⟩
    have hO3 := P.since hO hb3
    have hbw3 : Below w.heap.size w w3 := hbw.trans (Below.mono hb3 hbw.size)
    clear hsr q1 q2 q3 q4 hO hbw hb3
    go_wp2_with fail
    refine Calls.named (fun w4 hw => ?_)
    have wp : Whole w4 w3.heap.size 27 #[.int .i64 D, .int .i64 E] := (Whole.new w3 _ _).named hw
    have hs4 : Since w3 w4 := ((Since.refl w3).alloc _).named hw
    have hO4 := P.since hO3 hs4
    have hbw4 : Below w.heap.size w w4 := hbw3.trans (Below.mono hs4 hbw3.size)
    have hpl : w.heap.size ≤ w3.heap.size := hbw3.size
    have hFp : ∀ b, F b → b < w3.heap.size := P.lt hO3
    obtain ⟨PB, hPB⟩ : ∃ PB, PB = w3.heap.size := ⟨_, rfl⟩
    rw [← hPB] at wp hpl hFp ⊢
    clear hw hs4 hO3 hbw3 hPB
    refine (corner5 w4 HO.out HC.out).mono ?_
    rintro e w5 ⟨rfl, hb5⟩
    have hsa5 : Since w4 (w5.alloc (.cells #[.int .i64 cx, .int .i64 cy] 25)) := Since.alloc hb5 _
    go_wp2_with fail
    refine Calls.named (fun w6 hw => ?_)
    have hs6 : Since w4 w6 := hsa5.named hw
    have hO6 := P.since hO4 hs6
    have wp6 := Since.whole hs6 wp
    have hbw6 : Below w.heap.size w w6 := hbw4.trans (Below.mono hs6 hbw4.size)
    clear hw hsa5 hb5 hs6 hO4 wp hbw4
    refine (P.find cx cy hO6).mono ?_
    rintro e w7 ⟨rfl, hb7⟩
    have hO7 := P.since hO6 hb7
    have wp7 := Since.whole hb7 wp6
    have hbw7 : Below w.heap.size w w7 := hbw6.trans (Below.mono hb7 hbw6.size)
    clear hb7 hO6 wp6 hbw6
    cases hfd : findT k (t.tiles 0 0) cx cy with
    | none =>
      have hsa : Since w7 (w7.alloc (.cells #[.int .i64 0, .int .i64 0, .int .i64 0] 50)) := (Since.refl w7).alloc _
      have hOa := P.since hO7 hsa
      have wpa := Since.whole hsa wp7
      have hbwa : Below w.heap.size w (w7.alloc (.cells #[.int .i64 0, .int .i64 0, .int .i64 0] 50)) := hbw7.trans (Below.mono hsa hbw7.size)
      clear hfd hsa hO7 wp7 hbw7
      unfold tlV
      by_cases e0 : K = 1
      · subst e0
        obtain ⟨y1, y2, y3, y4⟩ := hcell (w7.alloc (.cells #[.int .i64 0, .int .i64 0, .int .i64 0] 50)) hbwa
        have z0 := wpa.cell 0
        have z1 := wpa.cell 1
        go_wp2_with fail
        refine (P.drop _ _ hOa).mono ?_
        rintro e w9 ⟨rfl, F9, t9, hO9, _, hoff, hF9⟩
        go_wp2_with fail
        go_roundw
        case rel => exact ⟨m + 1, F9, t9, by go_num, by omega, hO9, fun b z => (hF9 b z).elim (hF b) (fun y => Nat.le_trans hbwa.size y), Below.trans (B := w.heap.size) hbwa (hoff.below hbwa.size hF)⟩
        case measure => simp [intOf]; omega
      have x0 : (K == 1) = false := beq_eq_false_iff_ne.2 e0
      by_cases e1 : K = 3
      · subst e1
        obtain ⟨y1, y2, y3, y4⟩ := hcell (w7.alloc (.cells #[.int .i64 0, .int .i64 0, .int .i64 0] 50)) hbwa
        have z0 := wpa.cell 0
        have z1 := wpa.cell 1
        go_wp2_with fail
        refine (P.merge _ _ hOa).mono ?_
        rintro e w9 ⟨rfl, F9, t9, hO9, _, hoff, hF9⟩
        go_wp2_with fail
        go_roundw
        case rel => exact ⟨m + 1, F9, t9, by go_num, by omega, hO9, fun b z => (hF9 b z).elim (hF b) (fun y => Nat.le_trans hbwa.size y), Below.trans (B := w.heap.size) hbwa (hoff.below hbwa.size hF)⟩
        case measure => simp [intOf]; omega
      have x1 : (K == 3) = false := beq_eq_false_iff_ne.2 e1
      by_cases e2 : K = 4
      · subst e2
        obtain ⟨y1, y2, y3, y4⟩ := hcell (w7.alloc (.cells #[.int .i64 0, .int .i64 0, .int .i64 0] 50)) hbwa
        have z0 := wpa.cell 0
        have z1 := wpa.cell 1
        go_wp2_with fail
        obtain ⟨Wv, hWv⟩ : ∃ Wv, Wv = (w7.alloc (.cells #[.int .i64 0, .int .i64 0, .int .i64 0] 50)) := ⟨_, rfl⟩
        rw [← hWv] at hOa hbwa wpa ⊢
        clear hWv y1 y2 y3 y4 z0 z1
        have hFP : ¬ F PB := fun z => by have := hFp PB z; omega
        have y4 : ∀ W, Off F Wv W → W.cell? ⟨g, go + m * 4 + 3, none⟩ = some (.int .i64 who) := fun W hW => (hcell W (Below.trans (B := w.heap.size) hbwa (hW.below hbwa.size hF))).2.2.2
        have z0 := off_cell wpa hFP 0 _ rfl
        have z1 := off_cell wpa hFP 1 _ rfl
        have hsr := Off.refl F Wv
        have hsd := hsr.drew
        obtain ⟨wq, hwq⟩ : ∃ wq, wq = Wv.drew := ⟨_, rfl⟩
        have hOq := P.since hOa (Since.refl Wv).drew
        refine wp_region_held_drew (S := fun W => Off F Wv W) (by kernel_rfl) hsd (fun hHeld => ?_)
        rw [← hwq] at hHeld hOq ⊢
        have hq : Off F Wv wq := hHeld
        clear hwq hsd
        refine wpAnyH_take (i := 0) (v := ?_) rfl (by kernel_rfl) (by kernel_rfl) (by kernel_rfl) (fun _ _ _ h => h) (Or.inl ⟨by rfl, ?_⟩) (by assumption) ?_
        rotate_left 1
        · (intro W hW; clear hW; go_simp; try with_reducible rfl)
        simp only [Act.put, List.getElem_toArray, List.getElem_cons_zero, List.setIfInBounds_toArray, List.set_cons_zero, List.set_cons_succ]
        refine wpAnyH_take (i := 1) (v := ?_) rfl (by kernel_rfl) (by kernel_rfl) (by kernel_rfl) (fun _ _ _ h => h) (Or.inl ⟨by rfl, ?_⟩) (by assumption) ?_
        rotate_left 1
        · (intro W hW; skip; go_simp; try with_reducible rfl)
        simp only [Act.put, List.getElem_toArray, List.getElem_cons_succ, List.getElem_cons_zero, List.setIfInBounds_toArray, List.set_cons_zero, List.set_cons_succ]
        refine wpAnyH_take (i := 2) (v := ?_) rfl (by kernel_rfl) (by kernel_rfl) (by kernel_rfl) (fun _ _ _ h => h) (Or.inl ⟨by rfl, ?_⟩) (by assumption) ?_
        rotate_left 1
        · (intro W hW; clear hW; go_simp; try with_reducible rfl)
        simp only [Act.put, List.getElem_toArray, List.getElem_cons_succ, List.getElem_cons_zero, List.setIfInBounds_toArray, List.set_cons_zero, List.set_cons_succ]
        refine wpAnyH_take (i := 3) (v := ?_) rfl (by kernel_rfl) (by kernel_rfl) (by kernel_rfl) (fun _ _ _ h => h) (Or.inl ⟨by rfl, ?_⟩) (by assumption) ?_
        rotate_left 1
        · (intro W hW; clear hW; go_simp; try with_reducible rfl)
        simp only [Act.put, List.getElem_toArray, List.getElem_cons_succ, List.getElem_cons_zero, List.setIfInBounds_toArray, List.set_cons_zero, List.set_cons_succ]
        refine wpAnyH_take (i := 4) (v := ?_) rfl (by kernel_rfl) (by kernel_rfl) (by kernel_rfl) (fun _ _ _ h => h) (Or.inl ⟨by rfl, ?_⟩) (by assumption) ?_
        rotate_left 1
        · (intro W hW; clear hW; go_simp; try with_reducible rfl)
        simp only [Act.put, List.getElem_toArray, List.getElem_cons_succ, List.getElem_cons_zero, List.setIfInBounds_toArray, List.set_cons_zero, List.set_cons_succ]
        refine wpAnyH_take (i := 5) (v := ?_) rfl (by kernel_rfl) (by kernel_rfl) (by kernel_rfl) (fun _ _ _ h => h) (Or.inl ⟨by rfl, ?_⟩) (by assumption) ?_
        rotate_left 1
        · (intro W hW; clear hW; go_simp; try with_reducible rfl)
        simp only [Act.put, List.getElem_toArray, List.getElem_cons_succ, List.getElem_cons_zero, List.setIfInBounds_toArray, List.set_cons_zero, List.set_cons_succ]
        refine wpAnyH_take (i := 6) (v := ?_) rfl (by kernel_rfl) (by kernel_rfl) (by kernel_rfl) (fun _ _ _ h => h) (Or.inl ⟨by rfl, ?_⟩) (by assumption) ?_
        rotate_left 1
        · (intro W hW; skip; go_simp; try with_reducible rfl)
        simp only [Act.put, List.getElem_toArray, List.getElem_cons_succ, List.getElem_cons_zero, List.setIfInBounds_toArray, List.set_cons_zero, List.set_cons_succ]
        refine wpAnyH_ready (rs := [7]) (by kernel_rfl) (by simp) ?_
        refine AllReadyH.cons rfl (fun K hK => ?_) AllReadyH.nil
        go_simp
        refine (P.give _ _ _ hOq).mono ?_
        rintro e w9 ⟨rfl, F9, t9, hO9, ht9, hoff, hF9⟩
        go_wp2_with fail
        refine hK.out _ _ (Off.trans hq hoff (fun _ _ z => z)) (fun hHeld => ?_)
        clear hK K
        try simp only [Act.put, List.getElem_toArray, List.getElem_cons_succ, List.getElem_cons_zero, List.setIfInBounds_toArray, List.set_cons_zero, List.set_cons_succ]
        refine wpAnyH_done (by kernel_rfl) ?_ _
        go_wp2_with fail
        go_roundw
        case rel => exact ⟨m + 1, F9, t9, by go_num, by omega, hO9, fun b z => (hF9 b z).elim (hF b) (fun y => Nat.le_trans (Nat.le_trans hbwa.size hq.size) y), Below.trans (B := w.heap.size) hbwa ((Off.trans hq hoff (fun _ _ z => z)).below hbwa.size hF)⟩
        case measure => simp [intOf]; omega
      have x2 : (K == 4) = false := beq_eq_false_iff_ne.2 e2
      obtain ⟨y1, y2, y3, y4⟩ := hcell (w7.alloc (.cells #[.int .i64 0, .int .i64 0, .int .i64 0] 50)) hbwa
      have z0 := wpa.cell 0
      have z1 := wpa.cell 1
      go_wp2_with fail
      obtain ⟨Wv, hWv⟩ : ∃ Wv, Wv = (w7.alloc (.cells #[.int .i64 0, .int .i64 0, .int .i64 0] 50)) := ⟨_, rfl⟩
      rw [← hWv] at hOa hbwa wpa ⊢
      clear hWv y1 y2 y3 y4 z0 z1
      have hFP : ¬ F PB := fun z => by have := hFp PB z; omega
      have y4 : ∀ W, Off F Wv W → W.cell? ⟨g, go + m * 4 + 3, none⟩ = some (.int .i64 who) := fun W hW => (hcell W (Below.trans (B := w.heap.size) hbwa (hW.below hbwa.size hF))).2.2.2
      have z0 := off_cell wpa hFP 0 _ rfl
      have z1 := off_cell wpa hFP 1 _ rfl
      have hsr := Off.refl F Wv
      have hsd := hsr.drew
      obtain ⟨wq, hwq⟩ : ∃ wq, wq = Wv.drew := ⟨_, rfl⟩
      have hOq := P.since hOa (Since.refl Wv).drew
      refine wp_region_held_drew (S := fun W => Off F Wv W) (by kernel_rfl) hsd (fun hHeld => ?_)
      rw [← hwq] at hHeld hOq ⊢
      have hq : Off F Wv wq := hHeld
      clear hwq hsd
      refine wpAnyH_take (i := 0) (v := ?_) rfl (by kernel_rfl) (by kernel_rfl) (by kernel_rfl) (fun _ _ _ h => h) (Or.inl ⟨by rfl, ?_⟩) (by assumption) ?_
      rotate_left 1
      · (intro W hW; clear hW; go_simp; try with_reducible rfl)
      simp only [Act.put, List.getElem_toArray, List.getElem_cons_zero, List.setIfInBounds_toArray, List.set_cons_zero, List.set_cons_succ]
      refine wpAnyH_take (i := 1) (v := ?_) rfl (by kernel_rfl) (by kernel_rfl) (by kernel_rfl) (fun _ _ _ h => h) (Or.inl ⟨by rfl, ?_⟩) (by assumption) ?_
      rotate_left 1
      · (intro W hW; skip; go_simp; try with_reducible rfl)
      simp only [Act.put, List.getElem_toArray, List.getElem_cons_succ, List.getElem_cons_zero, List.setIfInBounds_toArray, List.set_cons_zero, List.set_cons_succ]
      refine wpAnyH_take (i := 2) (v := ?_) rfl (by kernel_rfl) (by kernel_rfl) (by kernel_rfl) (fun _ _ _ h => h) (Or.inl ⟨by rfl, ?_⟩) (by assumption) ?_
      rotate_left 1
      · (intro W hW; clear hW; go_simp; try with_reducible rfl)
      simp only [Act.put, List.getElem_toArray, List.getElem_cons_succ, List.getElem_cons_zero, List.setIfInBounds_toArray, List.set_cons_zero, List.set_cons_succ]
      refine wpAnyH_take (i := 3) (v := ?_) rfl (by kernel_rfl) (by kernel_rfl) (by kernel_rfl) (fun _ _ _ h => h) (Or.inl ⟨by rfl, ?_⟩) (by assumption) ?_
      rotate_left 1
      · (intro W hW; clear hW; go_simp; try with_reducible rfl)
      simp only [Act.put, List.getElem_toArray, List.getElem_cons_succ, List.getElem_cons_zero, List.setIfInBounds_toArray, List.set_cons_zero, List.set_cons_succ]
      refine wpAnyH_take (i := 4) (v := ?_) rfl (by kernel_rfl) (by kernel_rfl) (by kernel_rfl) (fun _ _ _ h => h) (Or.inl ⟨by rfl, ?_⟩) (by assumption) ?_
      rotate_left 1
      · (intro W hW; clear hW; go_simp; try with_reducible rfl)
      simp only [Act.put, List.getElem_toArray, List.getElem_cons_succ, List.getElem_cons_zero, List.setIfInBounds_toArray, List.set_cons_zero, List.set_cons_succ]
      refine wpAnyH_take (i := 5) (v := ?_) rfl (by kernel_rfl) (by kernel_rfl) (by kernel_rfl) (fun _ _ _ h => h) (Or.inl ⟨by rfl, ?_⟩) (by assumption) ?_
      rotate_left 1
      · (intro W hW; clear hW; go_simp; try with_reducible rfl)
      simp only [Act.put, List.getElem_toArray, List.getElem_cons_succ, List.getElem_cons_zero, List.setIfInBounds_toArray, List.set_cons_zero, List.set_cons_succ]
      refine wpAnyH_take (i := 6) (v := ?_) rfl (by kernel_rfl) (by kernel_rfl) (by kernel_rfl) (fun _ _ _ h => h) (Or.inl ⟨by rfl, ?_⟩) (by assumption) ?_
      rotate_left 1
      · (intro W hW; skip; go_simp; try with_reducible rfl)
      simp only [Act.put, List.getElem_toArray, List.getElem_cons_succ, List.getElem_cons_zero, List.setIfInBounds_toArray, List.set_cons_zero, List.set_cons_succ]
      refine wpAnyH_ready (rs := [7]) (by kernel_rfl) (by simp) ?_
      refine AllReadyH.cons rfl (fun K hK => ?_) AllReadyH.nil
      go_simp
      refine (P.split _ _ _ hOq).mono ?_
      rintro e w9 ⟨rfl, F9, t9, hO9, ht9, hoff, hF9⟩
      go_wp2_with fail
      refine hK.out _ _ (Off.trans hq hoff (fun _ _ z => z)) (fun hHeld => ?_)
      clear hK K
      try simp only [Act.put, List.getElem_toArray, List.getElem_cons_succ, List.getElem_cons_zero, List.setIfInBounds_toArray, List.set_cons_zero, List.set_cons_succ]
      refine wpAnyH_done (by kernel_rfl) ?_ _
      go_wp2_with fail
      go_roundw
      case rel => exact ⟨m + 1, F9, t9, by go_num, by omega, hO9, fun b z => (hF9 b z).elim (hF b) (fun y => Nat.le_trans (Nat.le_trans hbwa.size hq.size) y), Below.trans (B := w.heap.size) hbwa ((Off.trans hq hoff (fun _ _ z => z)).below hbwa.size hF)⟩
      case measure => simp [intOf]; omega
    | some s =>
      obtain ⟨sd, sb, sw⟩ := s
      have hsa : Since w7 (w7.alloc (.cells #[.int .i64 sd, .int .i64 sb, .int .i64 sw] 50)) := (Since.refl w7).alloc _
      have hOa := P.since hO7 hsa
      have wpa := Since.whole hsa wp7
      have hbwa : Below w.heap.size w (w7.alloc (.cells #[.int .i64 sd, .int .i64 sb, .int .i64 sw] 50)) := hbw7.trans (Below.mono hsa hbw7.size)
      clear hfd hsa hO7 wp7 hbw7
      unfold tlV
      by_cases e3 : K = 3
      · subst e3
        obtain ⟨y1, y2, y3, y4⟩ := hcell (w7.alloc (.cells #[.int .i64 sd, .int .i64 sb, .int .i64 sw] 50)) hbwa
        have z0 := wpa.cell 0
        have z1 := wpa.cell 1
        go_wp2_with fail
        refine (P.merge _ _ hOa).mono ?_
        rintro e w9 ⟨rfl, F9, t9, hO9, _, hoff, hF9⟩
        go_wp2_with fail
        go_roundw
        case rel => exact ⟨m + 1, F9, t9, by go_num, by omega, hO9, fun b z => (hF9 b z).elim (hF b) (fun y => Nat.le_trans hbwa.size y), Below.trans (B := w.heap.size) hbwa (hoff.below hbwa.size hF)⟩
        case measure => simp [intOf]; omega
      have x3 : (K == 3) = false := beq_eq_false_iff_ne.2 e3
      have x3' : (K != 3) = true := by rw [bne_iff_ne]; exact e3
      obtain ⟨v1, v2, v3, v4⟩ := hcell (w7.alloc (.cells #[.int .i64 sd, .int .i64 sb, .int .i64 sw] 50)) hbwa
      have p0 := wpa.cell 0
      have p1 := wpa.cell 1
      have p2 := wpa.frozen 0
      have p3 := wpa.frozen 1
      have wps : Whole (((w7.alloc (.cells #[.int .i64 sd, .int .i64 sb, .int .i64 sw] 50)).setCell ⟨PB, 0, none⟩ (.int .i64 sd)).setCell ⟨PB, 1, none⟩ (.int .i64 sb)) PB 27 #[.int .i64 sd, .int .i64 sb] := (wpa.set_ 0 _).set_ 1 _
      have hOs : Obj F (((w7.alloc (.cells #[.int .i64 sd, .int .i64 sb, .int .i64 sw] 50)).setCell ⟨PB, 0, none⟩ (.int .i64 sd)).setCell ⟨PB, 1, none⟩ (.int .i64 sb)) (.pointer (some ⟨gx, 0, none⟩)) k t := P.keep hOa (fun b hb => heap_set2 _ _ _ _ _ (by have := hFp b hb; omega))
      have hbws : Below w.heap.size w (((w7.alloc (.cells #[.int .i64 sd, .int .i64 sb, .int .i64 sw] 50)).setCell ⟨PB, 0, none⟩ (.int .i64 sd)).setCell ⟨PB, 1, none⟩ (.int .i64 sb)) := Below.setCell (Below.setCell hbwa (p := ⟨PB, 0, none⟩) hpl _) (p := ⟨PB, 1, none⟩) hpl _
      clear hOa wpa
      by_cases e1 : K = 1
      · subst e1
        obtain ⟨y1, y2, y3, y4⟩ := hcell (((w7.alloc (.cells #[.int .i64 sd, .int .i64 sb, .int .i64 sw] 50)).setCell ⟨PB, 0, none⟩ (.int .i64 sd)).setCell ⟨PB, 1, none⟩ (.int .i64 sb)) hbws
        have z0 := wps.cell 0
        have z1 := wps.cell 1
        go_wp2_with fail
        refine (P.drop _ _ hOs).mono ?_
        rintro e w9 ⟨rfl, F9, t9, hO9, _, hoff, hF9⟩
        go_wp2_with fail
        go_roundw
        case rel => exact ⟨m + 1, F9, t9, by go_num, by omega, hO9, fun b z => (hF9 b z).elim (hF b) (fun y => Nat.le_trans hbws.size y), Below.trans (B := w.heap.size) hbws (hoff.below hbws.size hF)⟩
        case measure => simp [intOf]; omega
      have x1 : (K == 1) = false := beq_eq_false_iff_ne.2 e1
      by_cases e4 : K = 4
      · subst e4
        obtain ⟨y1, y2, y3, y4⟩ := hcell (((w7.alloc (.cells #[.int .i64 sd, .int .i64 sb, .int .i64 sw] 50)).setCell ⟨PB, 0, none⟩ (.int .i64 sd)).setCell ⟨PB, 1, none⟩ (.int .i64 sb)) hbws
        have z0 := wps.cell 0
        have z1 := wps.cell 1
        go_wp2_with fail
        obtain ⟨Wv, hWv⟩ : ∃ Wv, Wv = (((w7.alloc (.cells #[.int .i64 sd, .int .i64 sb, .int .i64 sw] 50)).setCell ⟨PB, 0, none⟩ (.int .i64 sd)).setCell ⟨PB, 1, none⟩ (.int .i64 sb)) := ⟨_, rfl⟩
        rw [← hWv] at hOs hbws wps ⊢
        clear hWv y1 y2 y3 y4 z0 z1
        have hFP : ¬ F PB := fun z => by have := hFp PB z; omega
        have y4 : ∀ W, Off F Wv W → W.cell? ⟨g, go + m * 4 + 3, none⟩ = some (.int .i64 who) := fun W hW => (hcell W (Below.trans (B := w.heap.size) hbws (hW.below hbws.size hF))).2.2.2
        have z0 := off_cell wps hFP 0 _ rfl
        have z1 := off_cell wps hFP 1 _ rfl
        have hsr := Off.refl F Wv
        have hsd := hsr.drew
        obtain ⟨wq, hwq⟩ : ∃ wq, wq = Wv.drew := ⟨_, rfl⟩
        have hOq := P.since hOs (Since.refl Wv).drew
        refine wp_region_held_drew (S := fun W => Off F Wv W) (by kernel_rfl) hsd (fun hHeld => ?_)
        rw [← hwq] at hHeld hOq ⊢
        have hq : Off F Wv wq := hHeld
        clear hwq hsd
        refine wpAnyH_take (i := 0) (v := ?_) rfl (by kernel_rfl) (by kernel_rfl) (by kernel_rfl) (fun _ _ _ h => h) (Or.inl ⟨by rfl, ?_⟩) (by assumption) ?_
        rotate_left 1
        · (intro W hW; clear hW; go_simp; try with_reducible rfl)
        simp only [Act.put, List.getElem_toArray, List.getElem_cons_zero, List.setIfInBounds_toArray, List.set_cons_zero, List.set_cons_succ]
        refine wpAnyH_take (i := 1) (v := ?_) rfl (by kernel_rfl) (by kernel_rfl) (by kernel_rfl) (fun _ _ _ h => h) (Or.inl ⟨by rfl, ?_⟩) (by assumption) ?_
        rotate_left 1
        · (intro W hW; skip; go_simp; try with_reducible rfl)
        simp only [Act.put, List.getElem_toArray, List.getElem_cons_succ, List.getElem_cons_zero, List.setIfInBounds_toArray, List.set_cons_zero, List.set_cons_succ]
        refine wpAnyH_take (i := 2) (v := ?_) rfl (by kernel_rfl) (by kernel_rfl) (by kernel_rfl) (fun _ _ _ h => h) (Or.inl ⟨by rfl, ?_⟩) (by assumption) ?_
        rotate_left 1
        · (intro W hW; clear hW; go_simp; try with_reducible rfl)
        simp only [Act.put, List.getElem_toArray, List.getElem_cons_succ, List.getElem_cons_zero, List.setIfInBounds_toArray, List.set_cons_zero, List.set_cons_succ]
        refine wpAnyH_take (i := 3) (v := ?_) rfl (by kernel_rfl) (by kernel_rfl) (by kernel_rfl) (fun _ _ _ h => h) (Or.inl ⟨by rfl, ?_⟩) (by assumption) ?_
        rotate_left 1
        · (intro W hW; clear hW; go_simp; try with_reducible rfl)
        simp only [Act.put, List.getElem_toArray, List.getElem_cons_succ, List.getElem_cons_zero, List.setIfInBounds_toArray, List.set_cons_zero, List.set_cons_succ]
        refine wpAnyH_take (i := 4) (v := ?_) rfl (by kernel_rfl) (by kernel_rfl) (by kernel_rfl) (fun _ _ _ h => h) (Or.inl ⟨by rfl, ?_⟩) (by assumption) ?_
        rotate_left 1
        · (intro W hW; clear hW; go_simp; try with_reducible rfl)
        simp only [Act.put, List.getElem_toArray, List.getElem_cons_succ, List.getElem_cons_zero, List.setIfInBounds_toArray, List.set_cons_zero, List.set_cons_succ]
        refine wpAnyH_take (i := 5) (v := ?_) rfl (by kernel_rfl) (by kernel_rfl) (by kernel_rfl) (fun _ _ _ h => h) (Or.inl ⟨by rfl, ?_⟩) (by assumption) ?_
        rotate_left 1
        · (intro W hW; clear hW; go_simp; try with_reducible rfl)
        simp only [Act.put, List.getElem_toArray, List.getElem_cons_succ, List.getElem_cons_zero, List.setIfInBounds_toArray, List.set_cons_zero, List.set_cons_succ]
        refine wpAnyH_take (i := 6) (v := ?_) rfl (by kernel_rfl) (by kernel_rfl) (by kernel_rfl) (fun _ _ _ h => h) (Or.inl ⟨by rfl, ?_⟩) (by assumption) ?_
        rotate_left 1
        · (intro W hW; skip; go_simp; try with_reducible rfl)
        simp only [Act.put, List.getElem_toArray, List.getElem_cons_succ, List.getElem_cons_zero, List.setIfInBounds_toArray, List.set_cons_zero, List.set_cons_succ]
        refine wpAnyH_ready (rs := [7]) (by kernel_rfl) (by simp) ?_
        refine AllReadyH.cons rfl (fun K hK => ?_) AllReadyH.nil
        go_simp
        refine (P.give _ _ _ hOq).mono ?_
        rintro e w9 ⟨rfl, F9, t9, hO9, ht9, hoff, hF9⟩
        go_wp2_with fail
        refine hK.out _ _ (Off.trans hq hoff (fun _ _ z => z)) (fun hHeld => ?_)
        clear hK K
        try simp only [Act.put, List.getElem_toArray, List.getElem_cons_succ, List.getElem_cons_zero, List.setIfInBounds_toArray, List.set_cons_zero, List.set_cons_succ]
        refine wpAnyH_done (by kernel_rfl) ?_ _
        go_wp2_with fail
        go_roundw
        case rel => exact ⟨m + 1, F9, t9, by go_num, by omega, hO9, fun b z => (hF9 b z).elim (hF b) (fun y => Nat.le_trans (Nat.le_trans hbws.size hq.size) y), Below.trans (B := w.heap.size) hbws ((Off.trans hq hoff (fun _ _ z => z)).below hbws.size hF)⟩
        case measure => simp [intOf]; omega
      have x4 : (K == 4) = false := beq_eq_false_iff_ne.2 e4
      obtain ⟨y1, y2, y3, y4⟩ := hcell (((w7.alloc (.cells #[.int .i64 sd, .int .i64 sb, .int .i64 sw] 50)).setCell ⟨PB, 0, none⟩ (.int .i64 sd)).setCell ⟨PB, 1, none⟩ (.int .i64 sb)) hbws
      have z0 := wps.cell 0
      have z1 := wps.cell 1
      go_wp2_with fail
      obtain ⟨Wv, hWv⟩ : ∃ Wv, Wv = (((w7.alloc (.cells #[.int .i64 sd, .int .i64 sb, .int .i64 sw] 50)).setCell ⟨PB, 0, none⟩ (.int .i64 sd)).setCell ⟨PB, 1, none⟩ (.int .i64 sb)) := ⟨_, rfl⟩
      rw [← hWv] at hOs hbws wps ⊢
      clear hWv y1 y2 y3 y4 z0 z1
      have hFP : ¬ F PB := fun z => by have := hFp PB z; omega
      have y4 : ∀ W, Off F Wv W → W.cell? ⟨g, go + m * 4 + 3, none⟩ = some (.int .i64 who) := fun W hW => (hcell W (Below.trans (B := w.heap.size) hbws (hW.below hbws.size hF))).2.2.2
      have z0 := off_cell wps hFP 0 _ rfl
      have z1 := off_cell wps hFP 1 _ rfl
      have hsr := Off.refl F Wv
      have hsd := hsr.drew
      obtain ⟨wq, hwq⟩ : ∃ wq, wq = Wv.drew := ⟨_, rfl⟩
      have hOq := P.since hOs (Since.refl Wv).drew
      refine wp_region_held_drew (S := fun W => Off F Wv W) (by kernel_rfl) hsd (fun hHeld => ?_)
      rw [← hwq] at hHeld hOq ⊢
      have hq : Off F Wv wq := hHeld
      clear hwq hsd
      refine wpAnyH_take (i := 0) (v := ?_) rfl (by kernel_rfl) (by kernel_rfl) (by kernel_rfl) (fun _ _ _ h => h) (Or.inl ⟨by rfl, ?_⟩) (by assumption) ?_
      rotate_left 1
      · (intro W hW; clear hW; go_simp; try with_reducible rfl)
      simp only [Act.put, List.getElem_toArray, List.getElem_cons_zero, List.setIfInBounds_toArray, List.set_cons_zero, List.set_cons_succ]
      refine wpAnyH_take (i := 1) (v := ?_) rfl (by kernel_rfl) (by kernel_rfl) (by kernel_rfl) (fun _ _ _ h => h) (Or.inl ⟨by rfl, ?_⟩) (by assumption) ?_
      rotate_left 1
      · (intro W hW; skip; go_simp; try with_reducible rfl)
      simp only [Act.put, List.getElem_toArray, List.getElem_cons_succ, List.getElem_cons_zero, List.setIfInBounds_toArray, List.set_cons_zero, List.set_cons_succ]
      refine wpAnyH_take (i := 2) (v := ?_) rfl (by kernel_rfl) (by kernel_rfl) (by kernel_rfl) (fun _ _ _ h => h) (Or.inl ⟨by rfl, ?_⟩) (by assumption) ?_
      rotate_left 1
      · (intro W hW; clear hW; go_simp; try with_reducible rfl)
      simp only [Act.put, List.getElem_toArray, List.getElem_cons_succ, List.getElem_cons_zero, List.setIfInBounds_toArray, List.set_cons_zero, List.set_cons_succ]
      refine wpAnyH_take (i := 3) (v := ?_) rfl (by kernel_rfl) (by kernel_rfl) (by kernel_rfl) (fun _ _ _ h => h) (Or.inl ⟨by rfl, ?_⟩) (by assumption) ?_
      rotate_left 1
      · (intro W hW; clear hW; go_simp; try with_reducible rfl)
      simp only [Act.put, List.getElem_toArray, List.getElem_cons_succ, List.getElem_cons_zero, List.setIfInBounds_toArray, List.set_cons_zero, List.set_cons_succ]
      refine wpAnyH_take (i := 4) (v := ?_) rfl (by kernel_rfl) (by kernel_rfl) (by kernel_rfl) (fun _ _ _ h => h) (Or.inl ⟨by rfl, ?_⟩) (by assumption) ?_
      rotate_left 1
      · (intro W hW; clear hW; go_simp; try with_reducible rfl)
      simp only [Act.put, List.getElem_toArray, List.getElem_cons_succ, List.getElem_cons_zero, List.setIfInBounds_toArray, List.set_cons_zero, List.set_cons_succ]
      refine wpAnyH_take (i := 5) (v := ?_) rfl (by kernel_rfl) (by kernel_rfl) (by kernel_rfl) (fun _ _ _ h => h) (Or.inl ⟨by rfl, ?_⟩) (by assumption) ?_
      rotate_left 1
      · (intro W hW; clear hW; go_simp; try with_reducible rfl)
      simp only [Act.put, List.getElem_toArray, List.getElem_cons_succ, List.getElem_cons_zero, List.setIfInBounds_toArray, List.set_cons_zero, List.set_cons_succ]
      refine wpAnyH_take (i := 6) (v := ?_) rfl (by kernel_rfl) (by kernel_rfl) (by kernel_rfl) (fun _ _ _ h => h) (Or.inl ⟨by rfl, ?_⟩) (by assumption) ?_
      rotate_left 1
      · (intro W hW; skip; go_simp; try with_reducible rfl)
      simp only [Act.put, List.getElem_toArray, List.getElem_cons_succ, List.getElem_cons_zero, List.setIfInBounds_toArray, List.set_cons_zero, List.set_cons_succ]
      refine wpAnyH_ready (rs := [7]) (by kernel_rfl) (by simp) ?_
      refine AllReadyH.cons rfl (fun K hK => ?_) AllReadyH.nil
      go_simp
      refine (P.split _ _ _ hOq).mono ?_
      rintro e w9 ⟨rfl, F9, t9, hO9, ht9, hoff, hF9⟩
      go_wp2_with fail
      refine hK.out _ _ (Off.trans hq hoff (fun _ _ z => z)) (fun hHeld => ?_)
      clear hK K
      try simp only [Act.put, List.getElem_toArray, List.getElem_cons_succ, List.getElem_cons_zero, List.setIfInBounds_toArray, List.set_cons_zero, List.set_cons_succ]
      refine wpAnyH_done (by kernel_rfl) ?_ _
      go_wp2_with fail
      go_roundw
      case rel => exact ⟨m + 1, F9, t9, by go_num, by omega, hO9, fun b z => (hF9 b z).elim (hF b) (fun y => Nat.le_trans (Nat.le_trans hbws.size hq.size) y), Below.trans (B := w.heap.size) hbws ((Off.trans hq hoff (fun _ _ z => z)).below hbws.size hF)⟩
      case measure => simp [intOf]; omega
end Go.Proofs.Ytdbacinaffdkaaa
