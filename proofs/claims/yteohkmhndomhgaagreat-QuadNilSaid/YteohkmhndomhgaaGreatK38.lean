/- quad.New. -/
import Derived.Test.YteohkmhndomhgaaGreatK25
import Derived.Test.YteohkmhndomhgaaGreatK35
namespace Go.Proofs.YteohkmhndomhgaaGreat
open Go.RowKit Go.Shelf
attribute [local go_sem] Oper.semAt_some
set_option linter.unusedVariables false
set_option linter.unusedSimpArgs false
/-- The records behind a list of Puts. -/
def putsQ (L : List Rq) (l : List Rq) : List Rq := l.foldl putQ L
theorem putsQ_snoc (L l : List Rq) (r : Rq) : putsQ L (l ++ [r]) = putQ (putsQ L l) r := by unfold putsQ; rw [List.foldl_append]; rfl
theorem putsQ_most (L : List Rq) : ∀ l : List Rq, (putsQ L l).length ≤ L.length + l.length
  | [] => by simp [putsQ]
  | r :: l => by
    have h1 := putsQ_most (putQ L r) l
    have h2 := putQ_most L r
    show (putsQ (putQ L r) l).length ≤ _
    simp only [List.length_cons]
    omega
/-- What New answers. -/
def NewP (k d b : Int) (l : List Rq) (w : World) (e : Ending) (W' : World) : Prop :=
  (okP k d b = true ∧ l.all (okR (zoneR k d b)) = true ∧ ∃ g q, e = .returned (.tuple #[.pointer (some ⟨g, 0, none⟩), .int .i64 0]) ∧ TreeO g q k d b (putsQ [] l) W' ∧ (∀ c ∈ g :: q.bl, w.heap.size ≤ c) ∧ Below w.heap.size w W') ∨
  ((okP k d b && l.all (okR (zoneR k d b))) = false ∧ e = .returned (.tuple #[.pointer none, .int .i64 1]) ∧ Below w.heap.size w W')
set_option maxRecDepth 100000 in
set_option maxHeartbeats 6400000 in
theorem tnew_any {k d b : Int} {v : Value} {l : List Rq} {B : Nat} {w : World} (hl : ListE encQ 5 B w v l) (hB : B ≤ w.heap.size) (hn : l.length ≤ 999) :
    Calls Tryz.prog 8 #[.int .i64 k, .agg #[.int .i64 d, .int .i64 b], v] w (NewP k d b l w) := by
  obtain ⟨va, vc, rfl, hva⟩ := hl.form
  obtain ⟨w0, hw0⟩ : ∃ w0, w0 = w.alloc (.cells #[.int .i64 d, .int .i64 b] 23) := ⟨_, rfl⟩
  have hs0 : Since w w0 := by rw [hw0]; exact (Since.refl w).alloc _
  have wh0 : Whole w0 w.heap.size 23 #[.int .i64 d, .int .i64 b] := by rw [hw0]; exact Whole.new w _ _
  have b0 := box_cell wh0 0 (.int .i64 d) rfl
  have b1 := box_cell wh0 1 (.int .i64 b) rfl
  have hsr := Since.refl w0
  have hsd := hsr.drew
  have HW := Lib.hid hw0
  cases ho : okP k d b with
  | false =>
    have HO := Lib.hid (fun W => wOf_no k d b W ho)
    have HX := Lib.hid ho
    clear hw0 wh0 hl hva ho
    go_enter Tryz.func8, Tryz.ntmps8
    go_wp2_with fail
    rw [← HW.out]
    go_wp2_with (go_at_call 31; (with_reducible refine (HO.out _).mono ?_); rintro e w1 ⟨rfl, hb1⟩; (have hs1 : Since w0 w1 := hsr.trans hb1))
    go_ret2
    exact .inr ⟨by rw [HX.out]; rfl, rfl, Since.alloc (hs0.trans hs1) _⟩
  | true =>
    obtain ⟨⟨zx, zy, zw, zh⟩, hz⟩ : ∃ z, zoneR k d b = z := ⟨_, rfl⟩
    have HO := Lib.hid (fun W => wOf_yes k d b zx zy zw zh W ho hz)
    have hgd := zone_good ho
    have HX := Lib.hid (And.intro ho (And.intro hz hgd))
    have HL := Lib.hid hl
    clear hw0 wh0 hl ho hz hgd
    go_enter Tryz.func8, Tryz.ntmps8
    go_wp2_with fail
    rw [← HW.out]
    go_wp2_with (go_at_call 31; (with_reducible refine (HO.out _).mono ?_); rintro e w1 ⟨rfl, hb1⟩; (have hs1 : Since w0 w1 := hsr.trans hb1); (have hbA := Since.alloc hs1 (.cells #[.int .i64 zx, .int .i64 zy, .int .i64 zw, .int .i64 zh] 58)))
    obtain ⟨ho, hz, hgd⟩ := HX.out
    obtain ⟨wl, hwl⟩ : ∃ wl, wl = (((w1.alloc (.cells #[.int .i64 zx, .int .i64 zy, .int .i64 zw, .int .i64 zh] 58)).alloc (.cells #[.int .i64 zx, .int .i64 zy, .int .i64 zw, .int .i64 zh, .int .i64 0, .slice none 0 0, .pointer none, .pointer none, .pointer none, .pointer none] 80)).alloc (.cells #[.int .i64 k, .int .i64 d, .int .i64 b, .pointer (some ⟨w1.heap.size + 1, 0, none⟩)] 66)) := ⟨_, rfl⟩
    rw [← hwl]
    have hsl : Since w wl := by rw [hwl]; exact (((hs0.trans hs1).alloc _).alloc _).alloc _
    have hT0 : TreeO (w1.heap.size + 1 + 1) (.leaf (w1.heap.size + 1) (.slice none 0 0) (zoneR k d b) []) k d b [] wl := by
      refine ⟨?_, ⟨⟨?_, RowE.nil _ _ _⟩, (fun z => by cases z), ⟨rfl, rfl, hgd.ne, fun z => by simp at z⟩, hgd, List.Pairwise.nil, (fun s hs => by cases hs), Nat.zero_le _⟩, ?_, ho⟩
      · rw [hwl]; exact (Whole.new ((w1.alloc _).alloc _) _ _).at_ (by simp)
      · rw [hz, hwl]; exact ((Whole.new (w1.alloc _) _ _).at_ (by simp)).alloc _
      · intro z
        rcases List.mem_cons.1 z with z | z
        · omega
        · cases z
    have hw1 := (hs0.trans hs1).size_
    have HT0 := Lib.hid (show ∃ q, TreeO (w1.heap.size + 1 + 1) q k d b [] wl ∧ ∀ c ∈ (w1.heap.size + 1 + 1) :: q.bl, w.heap.size ≤ c from ⟨_, hT0, fun c hc => by
      rcases List.mem_cons.1 hc with rfl | hc
      · omega
      · rcases List.mem_cons.1 hc with rfl | hc
        · omega
        · cases hc⟩)
    have HSL := Lib.hid hsl
    clear hT0 hwl hbA hb1 hs1 hsl ho hz hgd hw1
    refine (wpIn_wide (n := 0)).1 ?_
    refine rounds_inv l.length (fun i A W1 => ∃ u12 u13 u14 u35 u36 u37 u38 u39 u40 u41 u42 u43 u44 u45 u46 u47 u48, A = { tmps := #[.int .i64 k, .agg #[.int .i64 d, .int .i64 b], .slice va l.length vc, undef, .pointer (some ⟨w.heap.size, 0, none⟩), undef, .pointer none, .int .i64 0, .pointer (some ⟨w1.heap.size, 0, none⟩), .int .i64 0, .pointer (some ⟨w1.heap.size + 1 + 1, 0, none⟩), undef, u12, u13, u14, .tuple #[.agg #[.int .i64 zx, .int .i64 zy, .int .i64 zw, .int .i64 zh], .int .i64 0], .int .i64 k, .agg #[.int .i64 k], .agg #[.int .i64 d, .int .i64 b], .tuple #[.agg #[.int .i64 zx, .int .i64 zy, .int .i64 zw, .int .i64 zh], .int .i64 0], .agg #[.int .i64 zx, .int .i64 zy, .int .i64 zw, .int .i64 zh], .int .i64 0, .int .i64 0, .bool false, undef, .int .i64 k, .agg #[.int .i64 d, .int .i64 b], .agg #[.int .i64 zx, .int .i64 zy, .int .i64 zw, .int .i64 zh], .agg #[.int .i64 zx, .int .i64 zy, .int .i64 zw, .int .i64 zh, .int .i64 0, .slice none 0 0, .pointer none, .pointer none, .pointer none, .pointer none], .pointer (some ⟨w1.heap.size + 1, 0, none⟩), .agg #[.int .i64 k, .int .i64 d, .int .i64 b, .pointer (some ⟨w1.heap.size + 1, 0, none⟩)], .pointer (some ⟨w1.heap.size + 1 + 1, 0, none⟩), .slice va l.length vc, .int .i64 (l.length : Nat), .int .i64 (i : Nat), u35, u36, u37, u38, u39, u40, u41, u42, u43, u44, u45, u46, u47, u48], defers := [] } ∧ ∃ q, TreeO (w1.heap.size + 1 + 1) q k d b (putsQ [] (l.take i)) W1 ∧ (∀ c ∈ (w1.heap.size + 1 + 1) :: q.bl, w.heap.size ≤ c) ∧ Since w W1 ∧ (l.take i).all (okR (zoneR k d b)) = true) ?start ?step ?done
    case start =>
      obtain ⟨q0, h1, h2⟩ := HT0.out
      exact ⟨_, _, _, _, _, _, _, _, _, _, _, _, _, _, _, _, _, rfl, q0, h1, h2, HSL.out, rfl⟩
    case done =>
      rintro A W4 ⟨u12, u13, u14, u35, u36, u37, u38, u39, u40, u41, u42, u43, u44, u45, u46, u47, u48, rfl, q, hT, hnew, hsw, hall⟩
      rw [List.take_length] at hT hall
      have HE := Lib.hid (And.intro hT (And.intro hnew (And.intro hsw hall)))
      clear hT hnew hsw hall
      refine wpIn_wide.2 ?_
      go_wp2
      go_ret2
      obtain ⟨hT, hnew, hsw, hall⟩ := HE.out
      exact .inl ⟨HX.out.1, hall, _, q, rfl, hT, hnew, hsw⟩
    case step =>
      rintro i A W4 hi ⟨u12, u13, u14, u35, u36, u37, u38, u39, u40, u41, u42, u43, u44, u45, u46, u47, u48, rfl, q, hT, hnew, hsw, hall⟩
      obtain ⟨g2, rfl, hg2l⟩ := hva i hi
      obtain ⟨s, hs⟩ : ∃ s, l[i] = s := ⟨_, rfl⟩
      have cl : ∀ W', Since w W' → ∀ j u, (encQ s)[j]? = some u → W'.cell? ⟨g2, i * 5 + j, none⟩ = some u := fun W' hW j u hu => (HL.out.since hW hB).at_ hi j (by rw [hs]; exact hu)
      have k0 := fun W' hW => cl W' hW 0 (.int .i64 s.x) rfl
      have k1 := fun W' hW => cl W' hW 1 (.int .i64 s.y) rfl
      have k2 := fun W' hW => cl W' hW 2 (.string s.key) rfl
      have k3 := fun W' hW => cl W' hW 3 (.string s.val) rfl
      have k4 := fun W' hW => cl W' hW 4 (.int .i64 s.ver) rfl
      rw [Nat.add_zero] at k0
      have hi4 : decide ((i : Int) < (l.length : Nat)) = true := decide_eq_true (by omega)
      have hi5 : (i : Int) < (l.length : Nat) := by omega
      have hiw : IntKind.i64.wrap ((i : Int) + 1) = ((i + 1 : Nat) : Int) := IntWalk.i64_in _ (by omega)
      have hln : (putsQ [] (l.take i)).length ≤ 999 := by have := putsQ_most [] (l.take i); simp at this; omega
      have hS4 := (Since.refl W4).alloc (.cells #[.int .i64 s.x, .int .i64 s.y, .string s.key, .string s.val, .int .i64 s.ver] 49)
      have hput := tput_any (hT.since hS4) hln s
      have hx := (Whole.new W4 49 #[.int .i64 s.x, .int .i64 s.y, .string s.key, .string s.val, .int .i64 s.ver])
      have x0 := hx.cell 0
      have x1 := hx.cell 1
      have x2 := hx.cell 2
      have x3 := hx.cell 3
      have x4 := hx.cell 4
      have htk : l.take (i + 1) = l.take i ++ [s] := by rw [List.take_add_one, List.getElem?_eq_getElem hi, hs]; rfl
      have HTK := Lib.hid htk
      have HSI := Lib.hid (show s ∈ l by rw [← hs]; exact List.getElem_mem hi)
      have HNW := Lib.hid (And.intro hnew (And.intro hsw hall))
      have hsW : Since w (W4.alloc (.cells #[.int .i64 s.x, .int .i64 s.y, .string s.key, .string s.val, .int .i64 s.ver] 49)) := hsw.alloc _
      refine wpIn_wide.2 ?_
      cases hok : okR (zoneR k d b) s with
      | false =>
        rw [hok] at hput
        unfold putT at hput
        simp only [hok, Bool.false_and, Bool.false_eq_true, if_false] at hput
        have HP := Lib.hid hput
        have HOK := Lib.hid hok
        clear hput hok hT hx htk hnew hall hs cl
        go_wp2_with (go_at_call 15; (with_reducible refine HP.out.mono ?_); rintro e w5 ⟨rfl, q5, p1, p2, p3, p4⟩)
        go_ret2
        obtain ⟨hnew, hsw, hall⟩ := HNW.out
        refine .inr ⟨?_, rfl, Below.trans (show Below w.heap.size w _ from hsw.alloc _) (p3.below (B := w.heap.size) (hsw.alloc _).size (fun c z => hnew c (List.mem_cons_of_mem _ z)))⟩
        rw [Bool.and_eq_false_iff]
        refine .inr (List.all_eq_false.2 ⟨s, HSI.out, ?_⟩)
        rw [HOK.out]
        exact Bool.false_ne_true
      | true =>
        obtain ⟨H, hH⟩ : ∃ H, hasQ (putsQ [] (l.take i)) s.x s.y s.key = H := ⟨_, rfl⟩
        rw [hok, hH] at hput
        unfold putT at hput
        simp only [hok, Bool.true_and, if_true] at hput
        rw [← putsQ_snoc, ← htk] at hput
        have HP := Lib.hid hput
        have HOK := Lib.hid hok
        clear hput hok hT hx htk hnew hall hs cl hH
        go_wp2_with (go_at_call 15; (with_reducible refine HP.out.mono ?_); rintro e w5 ⟨rfl, q5, p1, p2, p3, p4⟩)
        obtain ⟨hnew, hsw, hall⟩ := HNW.out
        have hsz : (W4.alloc (.cells #[.int .i64 s.x, .int .i64 s.y, .string s.key, .string s.val, .int .i64 s.ver] 49)).heap.size = W4.heap.size + 1 := by simp
        have hwz := hsw.size_
        refine ⟨_, _, _, _, _, _, _, _, _, _, _, _, _, _, _, _, _, rfl, q5, p2, fun c hc => ?_, Below.trans (show Below w.heap.size w _ from hsw.alloc _) (p3.below (B := w.heap.size) (hsw.alloc _).size (fun c z => hnew c (List.mem_cons_of_mem _ z))), ?_⟩
        · rcases List.mem_cons.1 hc with rfl | hc
          · exact hnew _ List.mem_cons_self
          · rcases p4 c hc with z | z
            · exact hnew c (List.mem_cons_of_mem _ z)
            · omega
        · rw [HTK.out, List.all_append, hall, List.all_cons, HOK.out]
          rfl
theorem new_yes {k d b : Int} {l : List Rq} {w W' : World} {e : Ending} (h : NewP k d b l w e W') (ho : okP k d b = true) (ha : l.all (okR (zoneR k d b)) = true) :
    ∃ g q, e = .returned (.tuple #[.pointer (some ⟨g, 0, none⟩), .int .i64 0]) ∧ TreeO g q k d b (putsQ [] l) W' ∧ (∀ c ∈ g :: q.bl, w.heap.size ≤ c) ∧ Below w.heap.size w W' := by
  rcases h with ⟨_, _, h⟩ | ⟨h, _⟩
  · exact h
  · rw [ho, ha] at h; cases h
theorem nil_listE (w : World) : ListE encQ 5 w.heap.size w (.slice none 0 0) [] := (RowE.nil (enc := encQ) (n := 5) w 0 49).list encQ_len
end Go.Proofs.YteohkmhndomhgaaGreat
