/- In a tiling without gaps: from a zone that lacks a cell there is one beside it that is nearer; only one zone is at distance 0; all zones hang together. Pure. -/
import Derived.Test.YtbbnojfecmocgaaK11
import Derived.Test.YtbbnojfecmocgaaK18
import Derived.Test.YtbbnojfecmocgaaK19
namespace Go.Proofs.Ytbbnojfecmocgaa
set_option linter.unusedSimpArgs false
/-- Of a span and a number outside of it: a number just behind one of its ends is nearer by one. -/
theorem off_step {k n a c : Int} (hn : inB k n = true) (ha : 0 ≤ a ∧ 0 < c ∧ a + c ≤ side k) (h : 0 < offI k n a c) :
    ∃ p, (0 ≤ p ∧ p < side k) ∧ ¬ (a ≤ p ∧ p < a + c) ∧ (p = a + c ∨ (a + c = side k ∧ p = 0) ∨ p + 1 = a ∨ (a = 0 ∧ p + 1 = side k)) ∧ apart k n p + 1 = offI k n a c := by
  have hN := (inB_iff k n).1 hn
  have e1 := apart_eq hn ((inB_iff k a).2 (by omega))
  have e2 := apart_eq hn ((inB_iff k (a + c - 1)).2 (by omega))
  have ap : ∀ p, 0 ≤ p → p < side k → apart k n p = min (if n ≤ p then p - n else p - n + side k) (if p ≤ n then n - p else n - p + side k) := fun p h0 h1 => apart_eq hn ((inB_iff k p).2 ⟨h0, h1⟩)
  unfold offI at h ⊢
  by_cases hi : a ≤ n ∧ n < a + c
  · rw [if_pos hi] at h; omega
  rw [if_neg hi] at h ⊢
  clear h
  rw [e1, e2]
  clear e1 e2
  rcases Int.lt_or_le n a with c1 | c1
  · by_cases c2 : a - n ≤ n - (a + c - 1) + side k
    · refine ⟨a - 1, by omega, by omega, by omega, ?_⟩
      rw [ap _ (by omega) (by omega)]
      (repeat' split) <;> omega
    · by_cases c3 : a + c = side k
      · refine ⟨0, by omega, by omega, by omega, ?_⟩
        rw [ap _ (by omega) (by omega)]
        (repeat' split) <;> omega
      · refine ⟨a + c, by omega, by omega, by omega, ?_⟩
        rw [ap _ (by omega) (by omega)]
        (repeat' split) <;> omega
  · by_cases c2 : n - (a + c - 1) ≤ a - n + side k
    · refine ⟨a + c, by omega, by omega, by omega, ?_⟩
      rw [ap _ (by omega) (by omega)]
      (repeat' split) <;> omega
    · by_cases c3 : a = 0
      · refine ⟨side k - 1, by omega, by omega, by omega, ?_⟩
        rw [ap _ (by omega) (by omega)]
        (repeat' split) <;> omega
      · refine ⟨a - 1, by omega, by omega, by omega, ?_⟩
        rw [ap _ (by omega) (by omega)]
        (repeat' split) <;> omega
/-- A span is no farther than a number of it. -/
theorem off_le {k n p b m : Int} (hn : inB k n = true) (hb : 0 ≤ b ∧ 0 < m ∧ b + m ≤ side k) (hp : b ≤ p ∧ p < b + m) : 0 ≤ offI k n b m ∧ offI k n b m ≤ apart k n p := by
  have hN := (inB_iff k n).1 hn
  have b1 := (inB_iff k b).2 (by omega)
  have b2 := (inB_iff k (b + m - 1)).2 (by omega)
  have b3 := (inB_iff k p).2 (by omega)
  have z := apart_nn hn b3
  have z1 := apart_nn hn b1
  have z2 := apart_nn hn b2
  unfold offI
  by_cases hi : b ≤ n ∧ n < b + m
  · rw [if_pos hi]; omega
  rw [if_neg hi]
  refine ⟨by omega, ?_⟩
  rw [apart_eq hn b1, apart_eq hn b2, apart_eq hn b3]
  clear z z1 z2
  (repeat' split) <;> omega
/-- The nearest number of a span. -/
theorem off_near {k n a c : Int} (hn : inB k n = true) (ha : 0 ≤ a ∧ 0 < c ∧ a + c ≤ side k) : ∃ q, (a ≤ q ∧ q < a + c) ∧ apart k n q = offI k n a c := by
  unfold offI
  by_cases hi : a ≤ n ∧ n < a + c
  · rw [if_pos hi]; exact ⟨n, hi, (apart_zero hn hn).2 rfl⟩
  rw [if_neg hi]
  rcases Int.le_total (apart k n a) (apart k n (a + c - 1)) with z | z
  · exact ⟨a, by omega, by omega⟩
  · exact ⟨a + c - 1, by omega, by omega⟩
theorem off_zero {k n a c : Int} (hn : inB k n = true) (ha : 0 ≤ a ∧ 0 < c ∧ a + c ≤ side k) : offI k n a c = 0 ↔ a ≤ n ∧ n < a + c := by
  constructor
  · intro h
    obtain ⟨q, hq, e⟩ := off_near hn ha
    rw [h] at e
    have := (apart_zero hn ((inB_iff k q).2 (by omega))).1 e
    omega
  · intro h; exact if_pos h
theorem adj_of {s a c b m p : Int} (ha : 0 ≤ a ∧ 0 < c ∧ a + c ≤ s) (hb : 0 ≤ b ∧ 0 < m ∧ b + m ≤ s) (hp : b ≤ p ∧ p < b + m) (ho : ov a c b m = 0)
    (h : p = a + c ∨ (a + c = s ∧ p = 0) ∨ p + 1 = a ∨ (a = 0 ∧ p + 1 = s)) : adj s a c b m := by
  unfold adj
  refine ⟨ho, ?_⟩
  unfold ov at ho
  omega
theorem ov_of {a c b m q : Int} (h : a ≤ q ∧ q < a + c) (g : b ≤ q ∧ q < b + m) : 0 < ov a c b m := by unfold ov; omega
/-- A zone has a cell just if the cell's path goes through it. -/
theorem hit_in {k d b x y : Int} (h : okP k d b = true) (hc : hasB k x y = true) : hitB k x y d b = true ↔ ((zoneR k d b).x ≤ x ∧ x < (zoneR k d b).x + (zoneR k d b).w) ∧ ((zoneR k d b).y ≤ y ∧ y < (zoneR k d b).y + (zoneR k d b).h) := by
  obtain ⟨n, hk, hs, Z⟩ := zone_is h
  have hX := (hasB_iff k x y).1 hc
  have hh := Z.has x y hX.1 (by omega) hX.2.2.1 (by omega)
  rw [← hk] at hh
  unfold hitB
  rw [beq_iff_eq, hh]
  omega
theorem dist_zone {k d b x y : Int} (h : okP k d b = true) (hc : hasB k x y = true) : distR k (zoneR k d b) x y = offI k x (zoneR k d b).x (zoneR k d b).w + offI k y (zoneR k d b).y (zoneR k d b).h := by
  have z := zone_right h
  exact if_pos ⟨z.1, (neR_iff _).2 ⟨z.2.1, z.2.2.1⟩, hc⟩
theorem dist_nn {k d b x y : Int} (h : okP k d b = true) (hc : hasB k x y = true) : 0 ≤ distR k (zoneR k d b) x y ∧ (distR k (zoneR k d b) x y = 0 ↔ hitB k x y d b = true) := by
  have bd := zone_bd h
  obtain ⟨g1, g2⟩ := has_in hc
  rw [dist_zone h hc, hit_in h hc, ← off_zero g1 bd.1, ← off_zero g2 bd.2]
  have l1 := (off_le g1 bd.1 (p := (zoneR k d b).x) (by omega)).1
  have l2 := (off_le g2 bd.2 (p := (zoneR k d b).y) (by omega)).1
  omega
set_option maxHeartbeats 3200000 in
/-- From a zone that lacks the cell: a cell just outside of it, and each zone that has that cell is beside it and nearer. -/
theorem zone_near {k d b x y : Int} (h : okP k d b = true) (hc : hasB k x y = true) (hd : 0 < distR k (zoneR k d b) x y) :
    ∃ X Y, hasB k X Y = true ∧ hitB k X Y d b = false ∧ ∀ e c, okP k e c = true → hitB k X Y e c = true → metB d b e c = false →
      distR k (zoneR k e c) x y < distR k (zoneR k d b) x y ∧ 0 < lenP k d b e c := by
  have bd := zone_bd h
  obtain ⟨g1, g2⟩ := has_in hc
  have l1 := (off_le g1 bd.1 (p := (zoneR k d b).x) (by omega)).1
  have l2 := (off_le g2 bd.2 (p := (zoneR k d b).y) (by omega)).1
  rw [dist_zone h hc] at hd ⊢
  by_cases c0 : 0 < offI k x (zoneR k d b).x (zoneR k d b).w
  · obtain ⟨p, hp, ho, hs, hn⟩ := off_step g1 bd.1 c0
    obtain ⟨q, hq, hm⟩ := off_near g2 bd.2
    have hB : hasB k p q = true := (hasB_iff k p q).2 (by omega)
    refine ⟨p, q, hB, ?_, fun e c he hh hme => ?_⟩
    · rw [Bool.eq_false_iff]; exact fun z => ho ((hit_in h hB).1 z).1
    · have be := zone_bd he
      have hi := (hit_in he hB).1 hh
      have a1 := (off_le g1 be.1 hi.1).2
      have a2 := (off_le g2 be.2 hi.2).2
      have o1 := ov_of hq hi.2
      have hz := (zones_ov h he).1 hme
      rw [dist_zone he hc]
      refine ⟨by omega, (len_pos h he hme).2 (.inl ⟨adj_of bd.1 be.1 hi.1 (by omega) hs, o1⟩)⟩
  · have c1 : 0 < offI k y (zoneR k d b).y (zoneR k d b).h := by omega
    obtain ⟨p, hp, ho, hs, hn⟩ := off_step g2 bd.2 c1
    obtain ⟨q, hq, hm⟩ := off_near g1 bd.1
    have hB : hasB k q p = true := (hasB_iff k q p).2 (by omega)
    refine ⟨q, p, hB, ?_, fun e c he hh hme => ?_⟩
    · rw [Bool.eq_false_iff]; exact fun z => ho ((hit_in h hB).1 z).2
    · have be := zone_bd he
      have hi := (hit_in he hB).1 hh
      have a1 := (off_le g1 be.1 hi.1).2
      have a2 := (off_le g2 be.2 hi.2).2
      have o1 := ov_of hq hi.1
      have hz := (zones_ov h he).1 hme
      rw [dist_zone he hc]
      refine ⟨by omega, (len_pos h he hme).2 (.inr ⟨adj_of bd.2 be.2 hi.2 (by omega) hs, o1⟩)⟩
theorem ov_comm (a n b m : Int) : ov a n b m = ov b m a n := by unfold ov; omega
theorem adj_comm {s a n b m : Int} : adj s a n b m ↔ adj s b m a n := by
  unfold adj
  rw [ov_comm a n b m]
  constructor
  · rintro ⟨h, g⟩; exact ⟨h, by omega⟩
  · rintro ⟨h, g⟩; exact ⟨h, by omega⟩
theorem len_sym {k d b e c : Int} (h : okP k d b = true) (g : okP k e c = true) : 0 < lenP k d b e c ↔ 0 < lenP k e c d b := by
  cases m : metB d b e c with
  | true => rw [len_met m, len_met ((metB_comm e c d b).trans m)]
  | false =>
    have m' := (metB_comm e c d b).trans m
    rw [len_pos h g m, len_pos g h m']
    constructor
    · rintro (⟨h1, h2⟩ | ⟨h1, h2⟩)
      · exact .inl ⟨adj_comm.1 h1, by rw [ov_comm]; exact h2⟩
      · exact .inr ⟨adj_comm.1 h1, by rw [ov_comm]; exact h2⟩
    · rintro (⟨h1, h2⟩ | ⟨h1, h2⟩)
      · exact .inl ⟨adj_comm.1 h1, by rw [ov_comm]; exact h2⟩
      · exact .inr ⟨adj_comm.1 h1, by rw [ov_comm]; exact h2⟩
theorem ok_of {k d b : Int} (hk : 1 ≤ k ∧ k ≤ 16) (hf : fine d b = true) (hd : d ≤ 2 * k) : okP k d b = true := by
  have := (fine_iff d b).1 hf
  exact (okP_iff k d b).2 ⟨hk.1, hk.2, this.1, hd, this.2.2⟩
theorem fine_root : fine 0 0 = true := by decide
/-- A tiling without gaps: each tile's path is right. -/
theorem Tr.tile_ok {t : Tr} {k : Int} (hk : 1 ≤ k ∧ k ≤ 16) (hh : (t.high : Int) ≤ 2 * k) {s : Tl} (hs : s ∈ t.tiles 0 0) : okP k s.d s.b = true := by
  obtain ⟨h1, h2⟩ := Tr.tiles_abv t 0 0 fine_root (by omega) s hs
  exact ok_of hk ((abvB_iff _ _ _ _).1 h1).2.1 (by omega)
/-- .. each cell is in just one tile. -/
theorem Tr.hit_ex {t : Tr} {k x y : Int} (hg : t.gaps 0 0 = []) : (t.tiles 0 0).countP (fun s => hitB k x y s.d s.b) = 1 := by
  have h := Tr.count k x y t 0 0 (Int.le_refl _)
  rw [hg] at h
  exact h.trans (if_pos rfl)
theorem Tr.has_ex {t : Tr} {k x y : Int} (hg : t.gaps 0 0 = []) : ∃ s ∈ t.tiles 0 0, hitB k x y s.d s.b = true :=
  List.countP_pos_iff.1 (by rw [Tr.hit_ex hg]; exact Nat.one_pos)
theorem count_uniq {α : Type} {f : α → Bool} : ∀ {L : List α}, L.countP f ≤ 1 → ∀ s ∈ L, ∀ u ∈ L, f s = true → f u = true → s = u
  | [], _, s, hs, _, _, _, _ => absurd hs (List.not_mem_nil)
  | a :: L, h, s, hs, u, hu, fs, fu => by
    rw [List.countP_cons] at h
    have pos : ∀ v ∈ L, f v = true → 0 < L.countP f := fun v hv fv => List.countP_pos_iff.2 ⟨v, hv, fv⟩
    rcases List.mem_cons.1 hs with rfl | hs'
    · rcases List.mem_cons.1 hu with rfl | hu'
      · rfl
      · have := pos u hu' fu; rw [if_pos fs] at h; omega
    · rcases List.mem_cons.1 hu with rfl | hu'
      · have := pos s hs' fs; rw [if_pos fu] at h; omega
      · exact count_uniq (L := L) (by omega) s hs' u hu' fs fu
theorem Tr.hit_uniq {t : Tr} {k x y : Int} (hg : t.gaps 0 0 = []) {s u : Tl} (hs : s ∈ t.tiles 0 0) (hu : u ∈ t.tiles 0 0) (fs : hitB k x y s.d s.b = true) (fu : hitB k x y u.d u.b = true) : s = u :=
  count_uniq (Nat.le_of_eq (Tr.hit_ex hg)) s hs u hu fs fu
theorem pair_met {L : List Tl} (hp : L.Pairwise Tl.ltB) {s u : Tl} (hs : s ∈ L) (hu : u ∈ L) (hne : s ≠ u) : metB s.d s.b u.d u.b = false := by
  induction hp with
  | nil => exact absurd hs List.not_mem_nil
  | @cons a L h1 _ ih =>
    rcases List.mem_cons.1 hs with rfl | hs'
    · rcases List.mem_cons.1 hu with rfl | hu'
      · exact absurd rfl hne
      · exact (h1 u hu').2
    · rcases List.mem_cons.1 hu with rfl | hu'
      · exact (metB_comm _ _ _ _).trans (h1 s hs').2
      · exact ih hs' hu'
/-- Tiles that hang together. -/
inductive Conn (k : Int) (L : List Tl) (s : Tl) : Tl → Prop
  | refl : Conn k L s s
  | step {u v : Tl} : Conn k L s u → v ∈ L → 0 < lenP k u.d u.b v.d v.b → Conn k L s v
theorem Conn.trans {k : Int} {L : List Tl} {s u v : Tl} (h : Conn k L s u) (g : Conn k L u v) : Conn k L s v := by
  induction g with
  | refl => exact h
  | step _ hv hl ih => exact ih.step hv hl
theorem Conn.mem {k : Int} {L : List Tl} {s u : Tl} (hs : s ∈ L) (h : Conn k L s u) : u ∈ L := by
  cases h with
  | refl => exact hs
  | step _ hv _ => exact hv
theorem Tr.conn_symm {t : Tr} {k : Int} (hk : 1 ≤ k ∧ k ≤ 16) (hh : (t.high : Int) ≤ 2 * k) {s u : Tl} (hs : s ∈ t.tiles 0 0) (h : Conn k (t.tiles 0 0) s u) : Conn k (t.tiles 0 0) u s := by
  induction h with
  | refl => exact .refl
  | @step u v h1 hv hl ih =>
    have hu := h1.mem hs
    have hl' := (len_sym (Tr.tile_ok hk hh hu) (Tr.tile_ok hk hh hv)).1 hl
    exact ((Conn.refl (s := v)).step hu hl').trans ih
section
variable {t : Tr} {k : Int} (hk : 1 ≤ k ∧ k ≤ 16) (hh : (t.high : Int) ≤ 2 * k) (hg : t.gaps 0 0 = [])
include hk hh hg
/-- .. a tile that lacks the cell has one beside it that is nearer. -/
theorem Tr.nearer {x y : Int} (hc : hasB k x y = true) {s : Tl} (hs : s ∈ t.tiles 0 0) (hd : 0 < distR k (zoneR k s.d s.b) x y) :
    ∃ u ∈ t.tiles 0 0, distR k (zoneR k u.d u.b) x y < distR k (zoneR k s.d s.b) x y ∧ 0 < lenP k s.d s.b u.d u.b := by
  obtain ⟨X, Y, hB, hn, hw⟩ := zone_near (Tr.tile_ok hk hh hs) hc hd
  obtain ⟨u, hu, fu⟩ := Tr.has_ex (t := t) (k := k) (x := X) (y := Y) hg
  have hne : s ≠ u := fun e => by rw [← e, hn] at fu; exact Bool.false_ne_true fu
  exact ⟨u, hu, hw u.d u.b (Tr.tile_ok hk hh hu) fu (pair_met (Tr.tiles_pair t 0 0 fine_root (by omega)) hs hu hne)⟩
/-- .. just one tile is at distance 0: the one that has the cell. -/
theorem Tr.near_one {x y : Int} (hc : hasB k x y = true) : ∃ s ∈ t.tiles 0 0, hitB k x y s.d s.b = true ∧ distR k (zoneR k s.d s.b) x y = 0 ∧ ∀ u ∈ t.tiles 0 0, distR k (zoneR k u.d u.b) x y ≤ 0 → u = s := by
  obtain ⟨s, hs, fs⟩ := Tr.has_ex (t := t) (k := k) (x := x) (y := y) hg
  refine ⟨s, hs, fs, (dist_nn (Tr.tile_ok hk hh hs) hc).2.2 fs, fun u hu hz => ?_⟩
  have z := dist_nn (Tr.tile_ok hk hh hu) hc
  exact Tr.hit_uniq hg hu hs (z.2.1 (by omega)) fs
theorem Tr.way_to {x y : Int} (hc : hasB k x y = true) : ∀ (n : Nat) (s : Tl), s ∈ t.tiles 0 0 → distR k (zoneR k s.d s.b) x y ≤ n → ∃ u ∈ t.tiles 0 0, Conn k (t.tiles 0 0) s u ∧ hitB k x y u.d u.b = true := by
  intro n
  induction n with
  | zero =>
    intro s hs h
    have z := dist_nn (Tr.tile_ok hk hh hs) hc
    exact ⟨s, hs, .refl, z.2.1 (by omega)⟩
  | succ n ih =>
    intro s hs h
    by_cases h0 : distR k (zoneR k s.d s.b) x y ≤ n
    · exact ih s hs h0
    · obtain ⟨u, hu, h1, h2⟩ := Tr.nearer hk hh hg hc hs (by omega)
      obtain ⟨v, hv, c, f⟩ := ih u hu (by omega)
      exact ⟨v, hv, ((Conn.refl (s := s)).step hu h2).trans c, f⟩
/-- .. all tiles hang together. -/
theorem Tr.all_conn {s u : Tl} (hs : s ∈ t.tiles 0 0) (hu : u ∈ t.tiles 0 0) : Conn k (t.tiles 0 0) s u := by
  have hs2 := ok_side (Tr.tile_ok hk hh hs)
  have hc : hasB k 0 0 = true := (hasB_iff k 0 0).2 (by omega)
  have a1 := dist_nn (Tr.tile_ok hk hh hs) hc
  have a2 := dist_nn (Tr.tile_ok hk hh hu) hc
  obtain ⟨v, hv, c1, f1⟩ := Tr.way_to hk hh hg hc (distR k (zoneR k s.d s.b) 0 0).toNat s hs (by omega)
  obtain ⟨v', hv', c2, f2⟩ := Tr.way_to hk hh hg hc (distR k (zoneR k u.d u.b) 0 0).toNat u hu (by omega)
  obtain rfl := Tr.hit_uniq hg hv hv' f1 f2
  exact c1.trans (Tr.conn_symm hk hh hu c2)
end
/-- What holds of a tile, and with one of each that is beside it, holds of all that hang together with it. -/
theorem Conn.all {k : Int} {L : List Tl} {s u : Tl} {P : Tl → Prop} (h : Conn k L s u) (hs : P s) (hc : ∀ a b, a ∈ L → P a → b ∈ L → 0 < lenP k a.d a.b b.d b.b → P b) (hm : s ∈ L) : P u := by
  induction h with
  | refl => exact hs
  | step h1 hv hl ih => exact hc _ _ (h1.mem hm) ih hv hl
