/- quad.New. QuadOrder: lists of records behind Puts and Dels, in whichever order. quad: the parts of a tree's zone: which records they have; pure. -/
import Derived.Test.YthfhpejpjiaikaaGreatK15
import Derived.Test.YthfhpejpjiaikaaGreatK27
import Derived.Test.YthfhpejpjiaikaaGreatK28
import Derived.Test.YthfhpejpjiaikaaGreatK33
import Derived.Test.YthfhpejpjiaikaaGreatK39
namespace Go.Proofs.YthfhpejpjiaikaaGreat
open Go.RowKit Go.Shelf
attribute [local go_sem] Oper.semAt_some
set_option linter.unusedVariables false
set_option linter.unusedSimpArgs false
/-- The records behind a list of Puts. -/
def putsQ (L : List Rq) (l : List Rq) : List Rq := l.foldl putQ L
theorem putsQ_snoc (L l : List Rq) (r : Rq) : putsQ L (l ++ [r]) = putQ (putsQ L l) r := by unfold putsQ; rw [List.foldl_append]; rfl
theorem putsQ_most (L : List Rq) : ∀ l : List Rq, (putsQ L l).length ≤ L.length + l.length
  | [] => by simp [putsQ]
  | r :: l => by
    have h1 := putsQ_most (putQ L r) l
    have h2 := putQ_most L r
    show (putsQ (putQ L r) l).length ≤ _
    simp only [List.length_cons]
    omega
/-- What New answers. -/
def NewP (k d b : Int) (l : List Rq) (w : World) (e : Ending) (W' : World) : Prop :=
  (okP k d b = true ∧ l.all (okR (zoneR k d b)) = true ∧ ∃ g q, e = .returned (.tuple #[.pointer (some ⟨g, 0, none⟩), .int .i64 0]) ∧ TreeO g q k d b (putsQ [] l) W' ∧ (∀ c ∈ g :: q.bl, w.heap.size ≤ c) ∧ Below w.heap.size w W') ∨
  ((okP k d b && l.all (okR (zoneR k d b))) = false ∧ e = .returned (.tuple #[.pointer none, .int .i64 1]) ∧ Below w.heap.size w W')
set_option maxRecDepth 100000 in
set_option maxHeartbeats 6400000 in
theorem tnew_any {k d b : Int} {v : Value} {l : List Rq} {B : Nat} {w : World} (hl : ListE encQ 5 B w v l) (hB : B ≤ w.heap.size) (hn : l.length ≤ 999) :
    Calls Tryz.prog 7 #[.int .i64 k, .agg #[.int .i64 d, .int .i64 b], v] w (NewP k d b l w) := by
  obtain ⟨va, vc, rfl, hva⟩ := hl.form
  obtain ⟨w0, hw0⟩ : ∃ w0, w0 = w.alloc (.cells #[.int .i64 d, .int .i64 b] 23) := ⟨_, rfl⟩
  have hs0 : Since w w0 := by rw [hw0]; exact (Since.refl w).alloc _
  have wh0 : Whole w0 w.heap.size 23 #[.int .i64 d, .int .i64 b] := by rw [hw0]; exact Whole.new w _ _
  have b0 := box_cell wh0 0 (.int .i64 d) rfl
  have b1 := box_cell wh0 1 (.int .i64 b) rfl
  have hsr := Since.refl w0
  have hsd := hsr.drew
  have HW := Lib.hid hw0
  cases ho : okP k d b with
  | false =>
    have HO := Lib.hid (fun W => wOf_no k d b W ho)
    have HX := Lib.hid ho
    clear hw0 wh0 hl hva ho
    go_enter Tryz.func7, Tryz.ntmps7
    go_wp2_with fail
    rw [← HW.out]
    go_wp2_with (go_at_call 25; (with_reducible refine (HO.out _).mono ?_); rintro e w1 ⟨rfl, hb1⟩; (have hs1 : Since w0 w1 := hsr.trans hb1))
    go_ret2
    exact .inr ⟨by rw [HX.out]; rfl, rfl, Since.alloc (hs0.trans hs1) _⟩
  | true =>
    obtain ⟨⟨zx, zy, zw, zh⟩, hz⟩ : ∃ z, zoneR k d b = z := ⟨_, rfl⟩
    have HO := Lib.hid (fun W => wOf_yes k d b zx zy zw zh W ho hz)
    have hgd := zone_good ho
    have HX := Lib.hid (And.intro ho (And.intro hz hgd))
    have HL := Lib.hid hl
    clear hw0 wh0 hl ho hz hgd
    go_enter Tryz.func7, Tryz.ntmps7
    go_wp2_with fail
    rw [← HW.out]
    go_wp2_with (go_at_call 25; (with_reducible refine (HO.out _).mono ?_); rintro e w1 ⟨rfl, hb1⟩; (have hs1 : Since w0 w1 := hsr.trans hb1); (have hbA := Since.alloc hs1 (.cells #[.int .i64 zx, .int .i64 zy, .int .i64 zw, .int .i64 zh] 63)))
    obtain ⟨ho, hz, hgd⟩ := HX.out
    obtain ⟨wl, hwl⟩ : ∃ wl, wl = (((w1.alloc (.cells #[.int .i64 zx, .int .i64 zy, .int .i64 zw, .int .i64 zh] 63)).alloc (.cells #[.int .i64 zx, .int .i64 zy, .int .i64 zw, .int .i64 zh, .int .i64 0, .slice none 0 0, .pointer none, .pointer none, .pointer none, .pointer none] 71)).alloc (.cells #[.int .i64 k, .int .i64 d, .int .i64 b, .pointer (some ⟨w1.heap.size + 1, 0, none⟩)] 73)) := ⟨_, rfl⟩
    rw [← hwl]
    have hsl : Since w wl := by rw [hwl]; exact (((hs0.trans hs1).alloc _).alloc _).alloc _
    have hT0 : TreeO (w1.heap.size + 1 + 1) (.leaf (w1.heap.size + 1) (.slice none 0 0) (zoneR k d b) []) k d b [] wl := by
      refine ⟨?_, ⟨⟨?_, RowE.nil _ _ _⟩, (fun z => by cases z), ⟨rfl, rfl, hgd.ne, fun z => by simp at z⟩, hgd, List.Pairwise.nil, (fun s hs => by cases hs), Nat.zero_le _⟩, ?_, ho⟩
      · rw [hwl]; exact (Whole.new ((w1.alloc _).alloc _) _ _).at_ (by simp)
      · rw [hz, hwl]; exact ((Whole.new (w1.alloc _) _ _).at_ (by simp)).alloc _
      · intro z
        rcases List.mem_cons.1 z with z | z
        · omega
        · cases z
    have hw1 := (hs0.trans hs1).size_
    have HT0 := Lib.hid (show ∃ q, TreeO (w1.heap.size + 1 + 1) q k d b [] wl ∧ ∀ c ∈ (w1.heap.size + 1 + 1) :: q.bl, w.heap.size ≤ c from ⟨_, hT0, fun c hc => by
      rcases List.mem_cons.1 hc with rfl | hc
      · omega
      · rcases List.mem_cons.1 hc with rfl | hc
        · omega
        · cases hc⟩)
    have HSL := Lib.hid hsl
    clear hT0 hwl hbA hb1 hs1 hsl ho hz hgd hw1
    refine (wpIn_wide (n := 0)).1 ?_
    refine rounds_inv l.length (fun i A W1 => ∃ u12 u13 u14 u35 u36 u37 u38 u39 u40 u41 u42 u43 u44 u45 u46 u47 u48, A = { tmps := #[.int .i64 k, .agg #[.int .i64 d, .int .i64 b], .slice va l.length vc, undef, .pointer (some ⟨w.heap.size, 0, none⟩), undef, .pointer none, .int .i64 0, .pointer (some ⟨w1.heap.size, 0, none⟩), .int .i64 0, .pointer (some ⟨w1.heap.size + 1 + 1, 0, none⟩), undef, u12, u13, u14, .tuple #[.agg #[.int .i64 zx, .int .i64 zy, .int .i64 zw, .int .i64 zh], .int .i64 0], .int .i64 k, .agg #[.int .i64 k], .agg #[.int .i64 d, .int .i64 b], .tuple #[.agg #[.int .i64 zx, .int .i64 zy, .int .i64 zw, .int .i64 zh], .int .i64 0], .agg #[.int .i64 zx, .int .i64 zy, .int .i64 zw, .int .i64 zh], .int .i64 0, .int .i64 0, .bool false, undef, .int .i64 k, .agg #[.int .i64 d, .int .i64 b], .agg #[.int .i64 zx, .int .i64 zy, .int .i64 zw, .int .i64 zh], .agg #[.int .i64 zx, .int .i64 zy, .int .i64 zw, .int .i64 zh, .int .i64 0, .slice none 0 0, .pointer none, .pointer none, .pointer none, .pointer none], .pointer (some ⟨w1.heap.size + 1, 0, none⟩), .agg #[.int .i64 k, .int .i64 d, .int .i64 b, .pointer (some ⟨w1.heap.size + 1, 0, none⟩)], .pointer (some ⟨w1.heap.size + 1 + 1, 0, none⟩), .slice va l.length vc, .int .i64 (l.length : Nat), .int .i64 (i : Nat), u35, u36, u37, u38, u39, u40, u41, u42, u43, u44, u45, u46, u47, u48], defers := [] } ∧ ∃ q, TreeO (w1.heap.size + 1 + 1) q k d b (putsQ [] (l.take i)) W1 ∧ (∀ c ∈ (w1.heap.size + 1 + 1) :: q.bl, w.heap.size ≤ c) ∧ Since w W1 ∧ (l.take i).all (okR (zoneR k d b)) = true) ?start ?step ?done
    case start =>
      obtain ⟨q0, h1, h2⟩ := HT0.out
      exact ⟨_, _, _, _, _, _, _, _, _, _, _, _, _, _, _, _, _, rfl, q0, h1, h2, HSL.out, rfl⟩
    case done =>
      rintro A W4 ⟨u12, u13, u14, u35, u36, u37, u38, u39, u40, u41, u42, u43, u44, u45, u46, u47, u48, rfl, q, hT, hnew, hsw, hall⟩
      rw [List.take_length] at hT hall
      have HE := Lib.hid (And.intro hT (And.intro hnew (And.intro hsw hall)))
      clear hT hnew hsw hall
      refine wpIn_wide.2 ?_
      go_wp2
      go_ret2
      obtain ⟨hT, hnew, hsw, hall⟩ := HE.out
      exact .inl ⟨HX.out.1, hall, _, q, rfl, hT, hnew, hsw⟩
    case step =>
      rintro i A W4 hi ⟨u12, u13, u14, u35, u36, u37, u38, u39, u40, u41, u42, u43, u44, u45, u46, u47, u48, rfl, q, hT, hnew, hsw, hall⟩
      obtain ⟨g2, rfl, hg2l⟩ := hva i hi
      obtain ⟨s, hs⟩ : ∃ s, l[i] = s := ⟨_, rfl⟩
      have cl : ∀ W', Since w W' → ∀ j u, (encQ s)[j]? = some u → W'.cell? ⟨g2, i * 5 + j, none⟩ = some u := fun W' hW j u hu => (HL.out.since hW hB).at_ hi j (by rw [hs]; exact hu)
      have k0 := fun W' hW => cl W' hW 0 (.int .i64 s.x) rfl
      have k1 := fun W' hW => cl W' hW 1 (.int .i64 s.y) rfl
      have k2 := fun W' hW => cl W' hW 2 (.string s.key) rfl
      have k3 := fun W' hW => cl W' hW 3 (.string s.val) rfl
      have k4 := fun W' hW => cl W' hW 4 (.int .i64 s.ver) rfl
      rw [Nat.add_zero] at k0
      have hi4 : decide ((i : Int) < (l.length : Nat)) = true := decide_eq_true (by omega)
      have hi5 : (i : Int) < (l.length : Nat) := by omega
      have hiw : IntKind.i64.wrap ((i : Int) + 1) = ((i + 1 : Nat) : Int) := IntWalk.i64_in _ (by omega)
      have hln : (putsQ [] (l.take i)).length ≤ 999 := by have := putsQ_most [] (l.take i); simp at this; omega
      have hS4 := (Since.refl W4).alloc (.cells #[.int .i64 s.x, .int .i64 s.y, .string s.key, .string s.val, .int .i64 s.ver] 55)
      have hput := tput_any (hT.since hS4) hln s
      have hx := (Whole.new W4 55 #[.int .i64 s.x, .int .i64 s.y, .string s.key, .string s.val, .int .i64 s.ver])
      have x0 := hx.cell 0
      have x1 := hx.cell 1
      have x2 := hx.cell 2
      have x3 := hx.cell 3
      have x4 := hx.cell 4
      have htk : l.take (i + 1) = l.take i ++ [s] := by rw [List.take_add_one, List.getElem?_eq_getElem hi, hs]; rfl
      have HTK := Lib.hid htk
      have HSI := Lib.hid (show s ∈ l by rw [← hs]; exact List.getElem_mem hi)
      have HNW := Lib.hid (And.intro hnew (And.intro hsw hall))
      have hsW : Since w (W4.alloc (.cells #[.int .i64 s.x, .int .i64 s.y, .string s.key, .string s.val, .int .i64 s.ver] 55)) := hsw.alloc _
      refine wpIn_wide.2 ?_
      cases hok : okR (zoneR k d b) s with
      | false =>
        rw [hok] at hput
        unfold putT at hput
        simp only [hok, Bool.false_and, Bool.false_eq_true, if_false] at hput
        have HP := Lib.hid hput
        have HOK := Lib.hid hok
        clear hput hok hT hx htk hnew hall hs cl
        go_wp2_with (go_at_call 20; (with_reducible refine HP.out.mono ?_); rintro e w5 ⟨rfl, q5, p1, p2, p3, p4⟩)
        go_ret2
        obtain ⟨hnew, hsw, hall⟩ := HNW.out
        refine .inr ⟨?_, rfl, Below.trans (show Below w.heap.size w _ from hsw.alloc _) (p3.below (B := w.heap.size) (hsw.alloc _).size (fun c z => hnew c (List.mem_cons_of_mem _ z)))⟩
        rw [Bool.and_eq_false_iff]
        refine .inr (List.all_eq_false.2 ⟨s, HSI.out, ?_⟩)
        rw [HOK.out]
        exact Bool.false_ne_true
      | true =>
        obtain ⟨H, hH⟩ : ∃ H, hasQ (putsQ [] (l.take i)) s.x s.y s.key = H := ⟨_, rfl⟩
        rw [hok, hH] at hput
        unfold putT at hput
        simp only [hok, Bool.true_and, if_true] at hput
        rw [← putsQ_snoc, ← htk] at hput
        have HP := Lib.hid hput
        have HOK := Lib.hid hok
        clear hput hok hT hx htk hnew hall hs cl hH
        go_wp2_with (go_at_call 20; (with_reducible refine HP.out.mono ?_); rintro e w5 ⟨rfl, q5, p1, p2, p3, p4⟩)
        obtain ⟨hnew, hsw, hall⟩ := HNW.out
        have hsz : (W4.alloc (.cells #[.int .i64 s.x, .int .i64 s.y, .string s.key, .string s.val, .int .i64 s.ver] 55)).heap.size = W4.heap.size + 1 := by simp
        have hwz := hsw.size_
        refine ⟨_, _, _, _, _, _, _, _, _, _, _, _, _, _, _, _, _, rfl, q5, p2, fun c hc => ?_, Below.trans (show Below w.heap.size w _ from hsw.alloc _) (p3.below (B := w.heap.size) (hsw.alloc _).size (fun c z => hnew c (List.mem_cons_of_mem _ z))), ?_⟩
        · rcases List.mem_cons.1 hc with rfl | hc
          · exact hnew _ List.mem_cons_self
          · rcases p4 c hc with z | z
            · exact hnew c (List.mem_cons_of_mem _ z)
            · omega
        · rw [HTK.out, List.all_append, hall, List.all_cons, HOK.out]
          rfl
theorem new_yes {k d b : Int} {l : List Rq} {w W' : World} {e : Ending} (h : NewP k d b l w e W') (ho : okP k d b = true) (ha : l.all (okR (zoneR k d b)) = true) :
    ∃ g q, e = .returned (.tuple #[.pointer (some ⟨g, 0, none⟩), .int .i64 0]) ∧ TreeO g q k d b (putsQ [] l) W' ∧ (∀ c ∈ g :: q.bl, w.heap.size ≤ c) ∧ Below w.heap.size w W' := by
  rcases h with ⟨_, _, h⟩ | ⟨h, _⟩
  · exact h
  · rw [ho, ha] at h; cases h
theorem nil_listE (w : World) : ListE encQ 5 w.heap.size w (.slice none 0 0) [] := (RowE.nil (enc := encQ) (n := 5) w 0 55).list encQ_len
end Go.Proofs.YthfhpejpjiaikaaGreat
namespace Go.Proofs.YthfhpejpjiaikaaGreat
open Go.RowKit
set_option linter.unusedVariables false
/-- No two records of one cell and key. -/
def OneK (l : List Rq) : Prop := ∀ a ∈ l, ∀ b ∈ l, cmpQ a b = 0 → a = b
theorem sort_oneK : ∀ {L : List Rq}, SortQ L → OneK L
  | [], _ => fun a h => by cases h
  | c :: L, hs => by
    obtain ⟨h1, h2⟩ := List.pairwise_cons.1 hs
    have ih := sort_oneK h2
    intro a ha b hb e
    rcases List.mem_cons.1 ha with ha1 | ha1
    · rcases List.mem_cons.1 hb with hb1 | hb1
      · rw [ha1, hb1]
      · subst ha1; have := h1 b hb1; omega
    · rcases List.mem_cons.1 hb with hb1 | hb1
      · subst hb1; have := h1 a ha1; rw [cmpQ_anti] at e; omega
      · exact ih a ha1 b hb1 e
theorem puts_sort : ∀ (l : List Rq) {L : List Rq}, SortQ L → SortQ (putsQ L l)
  | [], _, h => h
  | r :: l, L, h => show SortQ (putsQ (putQ L r) l) from puts_sort l (putQ_sort h r)
theorem puts_mem : ∀ (l : List Rq) {L : List Rq}, SortQ L → OneK l → ∀ r, r ∈ putsQ L l ↔ r ∈ l ∨ (r ∈ L ∧ ∀ s ∈ l, cmpQ r s ≠ 0)
  | [], L, _, _, r => by simp [putsQ]
  | a :: l, L, hs, ho, r => by
    have ih := puts_mem l (putQ_sort hs a) (fun x hx y hy => ho x (List.mem_cons_of_mem _ hx) y (List.mem_cons_of_mem _ hy)) r
    show r ∈ putsQ (putQ L a) l ↔ _
    rw [ih, putQ_mem hs]
    constructor
    · rintro (h | ⟨rfl | ⟨h1, h2⟩, h3⟩)
      · exact .inl (List.mem_cons_of_mem _ h)
      · exact .inl List.mem_cons_self
      · refine .inr ⟨h1, fun s hs' => ?_⟩
        rcases List.mem_cons.1 hs' with rfl | hs'
        · exact h2
        · exact h3 s hs'
    · rintro (h | ⟨h1, h2⟩)
      · rcases List.mem_cons.1 h with rfl | h
        · by_cases hr : r ∈ l
          · exact .inl hr
          · refine .inr ⟨.inl rfl, fun s hs' e => hr ?_⟩
            rw [ho r List.mem_cons_self s (List.mem_cons_of_mem _ hs') e]
            exact hs'
        · exact .inl h
      · exact .inr ⟨.inr ⟨h1, h2 a List.mem_cons_self⟩, fun s hs' => h2 s (List.mem_cons_of_mem _ hs')⟩
theorem puts_sub : ∀ (l : List Rq) {L : List Rq}, SortQ L → ∀ r, r ∈ putsQ L l → r ∈ l ∨ r ∈ L
  | [], L, _, r, h => .inr h
  | a :: l, L, hs, r, h => by
    rcases puts_sub l (putQ_sort hs a) r h with h | h
    · exact .inl (List.mem_cons_of_mem _ h)
    · rcases (putQ_mem hs a r).1 h with rfl | ⟨h, _⟩
      · exact .inl List.mem_cons_self
      · exact .inr h
theorem sortQ_nil : SortQ [] := List.Pairwise.nil
theorem ListE.lent {α : Type} {enc : α → List Value} {n B : Nat} {W : World} {v : Value} {l : List α} (h : ListE enc n B W v l) : LentE enc n B W v l := by
  rcases h with ⟨rfl, rfl⟩ | ⟨g, cap, rfl, hlt, hc⟩
  · exact ⟨none, 0, rfl, .inl rfl⟩
  · exact ⟨_, cap, rfl, .inr ⟨g, 0, rfl, hlt, fun i hi j u hu => by rw [Nat.zero_add]; exact hc i hi j u hu⟩⟩
theorem ListE.root {α : Type} {enc : α → List Value} {n B : Nat} {W : World} {a : Option Addr} {len cap : Nat} {l : List α} (h : ListE enc n B W (.slice a len cap) l) {i : Nat} (hi : i < l.length) : ∃ g, a = some ⟨g, 0, none⟩ ∧ g < B := by
  rcases h with ⟨rfl, _⟩ | ⟨g, c, e, hlt, _⟩
  · exact absurd hi (Nat.not_lt_zero i)
  · injection e with e1
    exact ⟨g, e1, hlt⟩
/-- Two trees of one zone, apart from each other; F1, F2: where their blocks lie. -/
def TwoT (F1 F2 : Nat → Prop) (g g2 : Nat) (k d b : Int) (T U : List Rq) (W : World) : Prop :=
  ∃ q q2, TreeO g q k d b T W ∧ TreeO g2 q2 k d b U W ∧ (∀ c ∈ g :: q.bl, F1 c) ∧ (∀ c ∈ g2 :: q2.bl, F2 c) ∧ ∀ c ∈ g :: q.bl, c ∉ g2 :: q2.bl
section
variable {F1 F2 : Nat → Prop} {g g2 : Nat} {k d b : Int} {T U : List Rq} {W W' : World}
theorem TwoT.since (h : TwoT F1 F2 g g2 k d b T U W) (hs : Since W W') : TwoT F1 F2 g g2 k d b T U W' := by
  obtain ⟨q, q2, h1, h2, h3⟩ := h
  exact ⟨q, q2, h1.since hs, h2.since hs, h3⟩
theorem TwoT.mono {G1 G2 : Nat → Prop} (h : TwoT F1 F2 g g2 k d b T U W) (n1 : ∀ c, F1 c → G1 c) (n2 : ∀ c, F2 c → G2 c) : TwoT G1 G2 g g2 k d b T U W := by
  obtain ⟨q, q2, h1, h2, h3, h4, h5⟩ := h
  exact ⟨q, q2, h1, h2, fun c hc => n1 c (h3 c hc), fun c hc => n2 c (h4 c hc), h5⟩
theorem TwoT.off {F : Nat → Prop} (h : TwoT F1 F2 g g2 k d b T U W) (ho : Off F W W') (n1 : ∀ c, F c → ¬ F1 c) (n2 : ∀ c, F c → ¬ F2 c) : TwoT F1 F2 g g2 k d b T U W' := by
  obtain ⟨q, q2, h1, h2, h3, h4, h5⟩ := h
  exact ⟨q, q2, h1.keep (fun c hc => ho.block c (h1.lt c hc) (fun z => n1 c z (h3 c hc))), h2.keep (fun c hc => ho.block c (h2.lt c hc) (fun z => n2 c z (h4 c hc))), h3, h4, h5⟩
end
end Go.Proofs.YthfhpejpjiaikaaGreat
namespace Go.Proofs.YthfhpejpjiaikaaGreat
set_option linter.unusedVariables false
theorem filt_sort {L : List Rq} (h : SortQ L) (p : Rq → Bool) : SortQ (L.filter p) := List.Pairwise.sublist List.filter_sublist h
/-- Records put one by one, in whichever order they come. -/
theorem puts_perm {L xs : List Rq} (h : SortQ L) (hp : xs.Perm L) : putsQ [] xs = L := by
  have hm : ∀ r, r ∈ xs ↔ r ∈ L := fun r => hp.mem_iff
  have ho : OneK xs := fun a ha b hb e => sort_oneK h a ((hm a).1 ha) b ((hm b).1 hb) e
  refine sort_ext (puts_sort xs sortQ_nil) h (fun r => ?_)
  rw [puts_mem xs sortQ_nil ho, ← hm r]
  constructor
  · rintro (z | ⟨z, _⟩)
    · exact z
    · cases z
  · exact .inl
section
variable {k d b : Int}
/-- A cell of a zone is in just one of its halves. -/
theorem half_cell (ho : okP k d b = true) (hd : d < 2 * k) (x y : Int) :
    hasR (zoneR k d b) x y = (hasR (zoneR k (d + 1) (2 * b + 0)) x y || hasR (zoneR k (d + 1) (2 * b + 1)) x y) ∧ (hasR (zoneR k (d + 1) (2 * b + 0)) x y = true → hasR (zoneR k (d + 1) (2 * b + 1)) x y = false) := by
  obtain ⟨o0, z0⟩ := zone_child ho hd (Int.le_refl 0) (by decide : (0 : Int) ≤ 1)
  obtain ⟨o1, z1⟩ := zone_child ho hd (by decide : (0 : Int) ≤ 1) (Int.le_refl 1)
  have g := (zone_good ho).has x y
  have g0 := (zone_good o0).has x y
  have g1 := (zone_good o1).has x y
  have hw := (zone_good ho).w1
  have hh := (zone_good ho).h1
  have key : (hasR (zoneR k d b) x y = true ↔ hasR (zoneR k (d + 1) (2 * b + 0)) x y = true ∨ hasR (zoneR k (d + 1) (2 * b + 1)) x y = true) ∧ ¬ (hasR (zoneR k (d + 1) (2 * b + 0)) x y = true ∧ hasR (zoneR k (d + 1) (2 * b + 1)) x y = true) := by
    rcases z0 with ⟨r, hr, e0, hp⟩ | ⟨r, hr, e0, hp⟩
    · rcases z1 with ⟨s, hs, e1, _⟩ | ⟨s, hs, e1, hq⟩
      · have : s = r := by omega
        subst this
        rw [e0] at g0 ⊢
        rw [e1] at g1 ⊢
        rw [g, g0, g1]
        dsimp only
        omega
      · exact absurd hp hq
    · rcases z1 with ⟨s, hs, e1, hq⟩ | ⟨s, hs, e1, hq⟩
      · exact absurd hq hp
      · have : s = r := by omega
        subst this
        rw [e0] at g0 ⊢
        rw [e1] at g1 ⊢
        rw [g, g0, g1]
        dsimp only
        omega
  obtain ⟨k1, k2⟩ := key
  revert k1 k2
  cases hasR (zoneR k d b) x y <;> cases hasR (zoneR k (d + 1) (2 * b + 0)) x y <;> cases hasR (zoneR k (d + 1) (2 * b + 1)) x y <;> simp
/-- The records of both halves are the zone's. -/
theorem half_recs (ho : okP k d b = true) (hd : d < 2 * k) {T : List Rq} (hs : SortQ T) (hT : ∀ r ∈ T, inQ (zoneR k d b) r = true) :
    putsQ [] (T.filter (inQ (zoneR k (d + 1) (2 * b + 1))) ++ T.filter (inQ (zoneR k (d + 1) (2 * b + 0)))) = T ∧ (T.filter (inQ (zoneR k (d + 1) (2 * b + 0)))).length + (T.filter (inQ (zoneR k (d + 1) (2 * b + 1)))).length = T.length := by
  have hn : ∀ r ∈ T, inQ (zoneR k (d + 1) (2 * b + 1)) r = !inQ (zoneR k (d + 1) (2 * b + 0)) r := fun r hr => by
    obtain ⟨h1, h2⟩ := half_cell ho hd r.x r.y
    have h3 := hT r hr
    unfold inQ at h3 ⊢
    rw [h3] at h1
    revert h1 h2
    cases hasR (zoneR k (d + 1) (2 * b + 0)) r.x r.y <;> cases hasR (zoneR k (d + 1) (2 * b + 1)) r.x r.y <;> simp
  have e : T.filter (inQ (zoneR k (d + 1) (2 * b + 1))) = T.filter (fun r => !inQ (zoneR k (d + 1) (2 * b + 0)) r) := List.filter_congr hn
  have hp : (T.filter (inQ (zoneR k (d + 1) (2 * b + 0))) ++ T.filter (inQ (zoneR k (d + 1) (2 * b + 1)))).Perm T := by
    rw [e]; exact List.filter_append_perm _ _
  refine ⟨puts_perm hs (List.perm_append_comm.trans hp), ?_⟩
  rw [← List.length_append]
  exact hp.length_eq
end
end Go.Proofs.YthfhpejpjiaikaaGreat
