/- quad.New. glebelaw08.knows: what must come. -/
import Derived.Test.YthfhpejpjiaikaaGreatK22
import Derived.Test.YthfhpejpjiaikaaGreatK25
import Derived.Test.YthfhpejpjiaikaaGreatK31
import Derived.Test.YthfhpejpjiaikaaGreatK32
namespace Go.Proofs.YthfhpejpjiaikaaGreat
open Go.RowKit Go.Shelf
attribute [local go_sem] Oper.semAt_some
set_option linter.unusedVariables false
set_option linter.unusedSimpArgs false
/-- The records behind a list of Puts. -/
def putsQ (L : List Rq) (l : List Rq) : List Rq := l.foldl putQ L
theorem putsQ_snoc (L l : List Rq) (r : Rq) : putsQ L (l ++ [r]) = putQ (putsQ L l) r := by unfold putsQ; rw [List.foldl_append]; rfl
theorem putsQ_most (L : List Rq) : ∀ l : List Rq, (putsQ L l).length ≤ L.length + l.length
  | [] => by simp [putsQ]
  | r :: l => by
    have h1 := putsQ_most (putQ L r) l
    have h2 := putQ_most L r
    show (putsQ (putQ L r) l).length ≤ _
    simp only [List.length_cons]
    omega
/-- What New answers. -/
def NewP (k d b : Int) (l : List Rq) (w : World) (e : Ending) (W' : World) : Prop :=
  (okP k d b = true ∧ l.all (okR (zoneR k d b)) = true ∧ ∃ g q, e = .returned (.tuple #[.pointer (some ⟨g, 0, none⟩), .int .i64 0]) ∧ TreeO g q k d b (putsQ [] l) W' ∧ (∀ c ∈ g :: q.bl, w.heap.size ≤ c) ∧ Below w.heap.size w W') ∨
  ((okP k d b && l.all (okR (zoneR k d b))) = false ∧ e = .returned (.tuple #[.pointer none, .int .i64 1]) ∧ Below w.heap.size w W')
set_option maxRecDepth 100000 in
set_option maxHeartbeats 6400000 in
theorem tnew_any {k d b : Int} {v : Value} {l : List Rq} {B : Nat} {w : World} (hl : ListE encQ 5 B w v l) (hB : B ≤ w.heap.size) (hn : l.length ≤ 999) :
    Calls Tryz.prog 7 #[.int .i64 k, .agg #[.int .i64 d, .int .i64 b], v] w (NewP k d b l w) := by
  obtain ⟨va, vc, rfl, hva⟩ := hl.form
  obtain ⟨w0, hw0⟩ : ∃ w0, w0 = w.alloc (.cells #[.int .i64 d, .int .i64 b] 23) := ⟨_, rfl⟩
  have hs0 : Since w w0 := by rw [hw0]; exact (Since.refl w).alloc _
  have wh0 : Whole w0 w.heap.size 23 #[.int .i64 d, .int .i64 b] := by rw [hw0]; exact Whole.new w _ _
  have b0 := box_cell wh0 0 (.int .i64 d) rfl
  have b1 := box_cell wh0 1 (.int .i64 b) rfl
  have hsr := Since.refl w0
  have hsd := hsr.drew
  have HW := Lib.hid hw0
  cases ho : okP k d b with
  | false =>
    have HO := Lib.hid (fun W => wOf_no k d b W ho)
    have HX := Lib.hid ho
    clear hw0 wh0 hl hva ho
    go_enter Tryz.func7, Tryz.ntmps7
    go_wp2_with fail
    rw [← HW.out]
    go_wp2_with (go_at_call 25; (with_reducible refine (HO.out _).mono ?_); rintro e w1 ⟨rfl, hb1⟩; (have hs1 : Since w0 w1 := hsr.trans hb1))
    go_ret2
    exact .inr ⟨by rw [HX.out]; rfl, rfl, Since.alloc (hs0.trans hs1) _⟩
  | true =>
    obtain ⟨⟨zx, zy, zw, zh⟩, hz⟩ : ∃ z, zoneR k d b = z := ⟨_, rfl⟩
    have HO := Lib.hid (fun W => wOf_yes k d b zx zy zw zh W ho hz)
    have hgd := zone_good ho
    have HX := Lib.hid (And.intro ho (And.intro hz hgd))
    have HL := Lib.hid hl
    clear hw0 wh0 hl ho hz hgd
    go_enter Tryz.func7, Tryz.ntmps7
    go_wp2_with fail
    rw [← HW.out]
    go_wp2_with (go_at_call 25; (with_reducible refine (HO.out _).mono ?_); rintro e w1 ⟨rfl, hb1⟩; (have hs1 : Since w0 w1 := hsr.trans hb1); (have hbA := Since.alloc hs1 (.cells #[.int .i64 zx, .int .i64 zy, .int .i64 zw, .int .i64 zh] 63)))
    obtain ⟨ho, hz, hgd⟩ := HX.out
    obtain ⟨wl, hwl⟩ : ∃ wl, wl = (((w1.alloc (.cells #[.int .i64 zx, .int .i64 zy, .int .i64 zw, .int .i64 zh] 63)).alloc (.cells #[.int .i64 zx, .int .i64 zy, .int .i64 zw, .int .i64 zh, .int .i64 0, .slice none 0 0, .pointer none, .pointer none, .pointer none, .pointer none] 71)).alloc (.cells #[.int .i64 k, .int .i64 d, .int .i64 b, .pointer (some ⟨w1.heap.size + 1, 0, none⟩)] 73)) := ⟨_, rfl⟩
    rw [← hwl]
    have hsl : Since w wl := by rw [hwl]; exact (((hs0.trans hs1).alloc _).alloc _).alloc _
    have hT0 : TreeO (w1.heap.size + 1 + 1) (.leaf (w1.heap.size + 1) (.slice none 0 0) (zoneR k d b) []) k d b [] wl := by
      refine ⟨?_, ⟨⟨?_, RowE.nil _ _ _⟩, (fun z => by cases z), ⟨rfl, rfl, hgd.ne, fun z => by simp at z⟩, hgd, List.Pairwise.nil, (fun s hs => by cases hs), Nat.zero_le _⟩, ?_, ho⟩
      · rw [hwl]; exact (Whole.new ((w1.alloc _).alloc _) _ _).at_ (by simp)
      · rw [hz, hwl]; exact ((Whole.new (w1.alloc _) _ _).at_ (by simp)).alloc _
      · intro z
        rcases List.mem_cons.1 z with z | z
        · omega
        · cases z
    have hw1 := (hs0.trans hs1).size_
    have HT0 := Lib.hid (show ∃ q, TreeO (w1.heap.size + 1 + 1) q k d b [] wl ∧ ∀ c ∈ (w1.heap.size + 1 + 1) :: q.bl, w.heap.size ≤ c from ⟨_, hT0, fun c hc => by
      rcases List.mem_cons.1 hc with rfl | hc
      · omega
      · rcases List.mem_cons.1 hc with rfl | hc
        · omega
        · cases hc⟩)
    have HSL := Lib.hid hsl
    clear hT0 hwl hbA hb1 hs1 hsl ho hz hgd hw1
    refine (wpIn_wide (n := 0)).1 ?_
    refine rounds_inv l.length (fun i A W1 => ∃ u12 u13 u14 u35 u36 u37 u38 u39 u40 u41 u42 u43 u44 u45 u46 u47 u48, A = { tmps := #[.int .i64 k, .agg #[.int .i64 d, .int .i64 b], .slice va l.length vc, undef, .pointer (some ⟨w.heap.size, 0, none⟩), undef, .pointer none, .int .i64 0, .pointer (some ⟨w1.heap.size, 0, none⟩), .int .i64 0, .pointer (some ⟨w1.heap.size + 1 + 1, 0, none⟩), undef, u12, u13, u14, .tuple #[.agg #[.int .i64 zx, .int .i64 zy, .int .i64 zw, .int .i64 zh], .int .i64 0], .int .i64 k, .agg #[.int .i64 k], .agg #[.int .i64 d, .int .i64 b], .tuple #[.agg #[.int .i64 zx, .int .i64 zy, .int .i64 zw, .int .i64 zh], .int .i64 0], .agg #[.int .i64 zx, .int .i64 zy, .int .i64 zw, .int .i64 zh], .int .i64 0, .int .i64 0, .bool false, undef, .int .i64 k, .agg #[.int .i64 d, .int .i64 b], .agg #[.int .i64 zx, .int .i64 zy, .int .i64 zw, .int .i64 zh], .agg #[.int .i64 zx, .int .i64 zy, .int .i64 zw, .int .i64 zh, .int .i64 0, .slice none 0 0, .pointer none, .pointer none, .pointer none, .pointer none], .pointer (some ⟨w1.heap.size + 1, 0, none⟩), .agg #[.int .i64 k, .int .i64 d, .int .i64 b, .pointer (some ⟨w1.heap.size + 1, 0, none⟩)], .pointer (some ⟨w1.heap.size + 1 + 1, 0, none⟩), .slice va l.length vc, .int .i64 (l.length : Nat), .int .i64 (i : Nat), u35, u36, u37, u38, u39, u40, u41, u42, u43, u44, u45, u46, u47, u48], defers := [] } ∧ ∃ q, TreeO (w1.heap.size + 1 + 1) q k d b (putsQ [] (l.take i)) W1 ∧ (∀ c ∈ (w1.heap.size + 1 + 1) :: q.bl, w.heap.size ≤ c) ∧ Since w W1 ∧ (l.take i).all (okR (zoneR k d b)) = true) ?start ?step ?done
    case start =>
      obtain ⟨q0, h1, h2⟩ := HT0.out
      exact ⟨_, _, _, _, _, _, _, _, _, _, _, _, _, _, _, _, _, rfl, q0, h1, h2, HSL.out, rfl⟩
    case done =>
      rintro A W4 ⟨u12, u13, u14, u35, u36, u37, u38, u39, u40, u41, u42, u43, u44, u45, u46, u47, u48, rfl, q, hT, hnew, hsw, hall⟩
      rw [List.take_length] at hT hall
      have HE := Lib.hid (And.intro hT (And.intro hnew (And.intro hsw hall)))
      clear hT hnew hsw hall
      refine wpIn_wide.2 ?_
      go_wp2
      go_ret2
      obtain ⟨hT, hnew, hsw, hall⟩ := HE.out
      exact .inl ⟨HX.out.1, hall, _, q, rfl, hT, hnew, hsw⟩
    case step =>
      rintro i A W4 hi ⟨u12, u13, u14, u35, u36, u37, u38, u39, u40, u41, u42, u43, u44, u45, u46, u47, u48, rfl, q, hT, hnew, hsw, hall⟩
      obtain ⟨g2, rfl, hg2l⟩ := hva i hi
      obtain ⟨s, hs⟩ : ∃ s, l[i] = s := ⟨_, rfl⟩
      have cl : ∀ W', Since w W' → ∀ j u, (encQ s)[j]? = some u → W'.cell? ⟨g2, i * 5 + j, none⟩ = some u := fun W' hW j u hu => (HL.out.since hW hB).at_ hi j (by rw [hs]; exact hu)
      have k0 := fun W' hW => cl W' hW 0 (.int .i64 s.x) rfl
      have k1 := fun W' hW => cl W' hW 1 (.int .i64 s.y) rfl
      have k2 := fun W' hW => cl W' hW 2 (.string s.key) rfl
      have k3 := fun W' hW => cl W' hW 3 (.string s.val) rfl
      have k4 := fun W' hW => cl W' hW 4 (.int .i64 s.ver) rfl
      rw [Nat.add_zero] at k0
      have hi4 : decide ((i : Int) < (l.length : Nat)) = true := decide_eq_true (by omega)
      have hi5 : (i : Int) < (l.length : Nat) := by omega
      have hiw : IntKind.i64.wrap ((i : Int) + 1) = ((i + 1 : Nat) : Int) := IntWalk.i64_in _ (by omega)
      have hln : (putsQ [] (l.take i)).length ≤ 999 := by have := putsQ_most [] (l.take i); simp at this; omega
      have hS4 := (Since.refl W4).alloc (.cells #[.int .i64 s.x, .int .i64 s.y, .string s.key, .string s.val, .int .i64 s.ver] 55)
      have hput := tput_any (hT.since hS4) hln s
      have hx := (Whole.new W4 55 #[.int .i64 s.x, .int .i64 s.y, .string s.key, .string s.val, .int .i64 s.ver])
      have x0 := hx.cell 0
      have x1 := hx.cell 1
      have x2 := hx.cell 2
      have x3 := hx.cell 3
      have x4 := hx.cell 4
      have htk : l.take (i + 1) = l.take i ++ [s] := by rw [List.take_add_one, List.getElem?_eq_getElem hi, hs]; rfl
      have HTK := Lib.hid htk
      have HSI := Lib.hid (show s ∈ l by rw [← hs]; exact List.getElem_mem hi)
      have HNW := Lib.hid (And.intro hnew (And.intro hsw hall))
      have hsW : Since w (W4.alloc (.cells #[.int .i64 s.x, .int .i64 s.y, .string s.key, .string s.val, .int .i64 s.ver] 55)) := hsw.alloc _
      refine wpIn_wide.2 ?_
      cases hok : okR (zoneR k d b) s with
      | false =>
        rw [hok] at hput
        unfold putT at hput
        simp only [hok, Bool.false_and, Bool.false_eq_true, if_false] at hput
        have HP := Lib.hid hput
        have HOK := Lib.hid hok
        clear hput hok hT hx htk hnew hall hs cl
        go_wp2_with (go_at_call 20; (with_reducible refine HP.out.mono ?_); rintro e w5 ⟨rfl, q5, p1, p2, p3, p4⟩)
        go_ret2
        obtain ⟨hnew, hsw, hall⟩ := HNW.out
        refine .inr ⟨?_, rfl, Below.trans (show Below w.heap.size w _ from hsw.alloc _) (p3.below (B := w.heap.size) (hsw.alloc _).size (fun c z => hnew c (List.mem_cons_of_mem _ z)))⟩
        rw [Bool.and_eq_false_iff]
        refine .inr (List.all_eq_false.2 ⟨s, HSI.out, ?_⟩)
        rw [HOK.out]
        exact Bool.false_ne_true
      | true =>
        obtain ⟨H, hH⟩ : ∃ H, hasQ (putsQ [] (l.take i)) s.x s.y s.key = H := ⟨_, rfl⟩
        rw [hok, hH] at hput
        unfold putT at hput
        simp only [hok, Bool.true_and, if_true] at hput
        rw [← putsQ_snoc, ← htk] at hput
        have HP := Lib.hid hput
        have HOK := Lib.hid hok
        clear hput hok hT hx htk hnew hall hs cl hH
        go_wp2_with (go_at_call 20; (with_reducible refine HP.out.mono ?_); rintro e w5 ⟨rfl, q5, p1, p2, p3, p4⟩)
        obtain ⟨hnew, hsw, hall⟩ := HNW.out
        have hsz : (W4.alloc (.cells #[.int .i64 s.x, .int .i64 s.y, .string s.key, .string s.val, .int .i64 s.ver] 55)).heap.size = W4.heap.size + 1 := by simp
        have hwz := hsw.size_
        refine ⟨_, _, _, _, _, _, _, _, _, _, _, _, _, _, _, _, _, rfl, q5, p2, fun c hc => ?_, Below.trans (show Below w.heap.size w _ from hsw.alloc _) (p3.below (B := w.heap.size) (hsw.alloc _).size (fun c z => hnew c (List.mem_cons_of_mem _ z))), ?_⟩
        · rcases List.mem_cons.1 hc with rfl | hc
          · exact hnew _ List.mem_cons_self
          · rcases p4 c hc with z | z
            · exact hnew c (List.mem_cons_of_mem _ z)
            · omega
        · rw [HTK.out, List.all_append, hall, List.all_cons, HOK.out]
          rfl
theorem new_yes {k d b : Int} {l : List Rq} {w W' : World} {e : Ending} (h : NewP k d b l w e W') (ho : okP k d b = true) (ha : l.all (okR (zoneR k d b)) = true) :
    ∃ g q, e = .returned (.tuple #[.pointer (some ⟨g, 0, none⟩), .int .i64 0]) ∧ TreeO g q k d b (putsQ [] l) W' ∧ (∀ c ∈ g :: q.bl, w.heap.size ≤ c) ∧ Below w.heap.size w W' := by
  rcases h with ⟨_, _, h⟩ | ⟨h, _⟩
  · exact h
  · rw [ho, ha] at h; cases h
theorem nil_listE (w : World) : ListE encQ 5 w.heap.size w (.slice none 0 0) [] := (RowE.nil (enc := encQ) (n := 5) w 0 55).list encQ_len
end Go.Proofs.YthfhpejpjiaikaaGreat
namespace Go.Proofs.YthfhpejpjiaikaaGreat
open Go.RowKit
attribute [local go_sem] Oper.semAt_some
set_option linter.unusedVariables false
set_option linter.unusedSimpArgs false
theorem num8_any (x : Int) (w : World) : Calls Tryz.prog 10 #[.int .i64 x] w fun e w' => e = .returned (.int .i64 x) ∧ w = w' := by
  go_enter Tryz.func10, Tryz.ntmps10
  go_wp2
  go_ret
  exact ⟨by first | rfl | simp, rfl⟩
def kr (i : Nat) : Rq := ⟨((i % 4 : Nat) : Int), ((i / 4 : Nat) : Int), ⟨#[97]⟩, ⟨#[]⟩, ((i + 1 : Nat) : Int)⟩
def kL : Nat → List Rq
  | 0 => []
  | i + 1 => putQ (kL i) (kr i)
theorem zone_4 : zoneR 2 0 0 = ⟨0, 0, 4, 4⟩ := by kernel_rfl
theorem kr_ok (i : Nat) (hi : i < 6) : okR (zoneR 2 0 0) (kr i) = true := by
  rw [zone_4]
  rcases (show i = 0 ∨ i = 1 ∨ i = 2 ∨ i = 3 ∨ i = 4 ∨ i = 5 by omega) with rfl | rfl | rfl | rfl | rfl | rfl <;> decide
theorem kL_len : ∀ i, (kL i).length ≤ i
  | 0 => Nat.le_refl _
  | i + 1 => by have := putQ_most (kL i) (kr i); have := kL_len i; show (putQ (kL i) (kr i)).length ≤ _; omega
theorem k_get : getQ (kL 6) 1 1 (⟨#[97]⟩ : ByteArray) = kr 5 := by kernel_rfl
theorem k_has : hasQ (kL 6) 1 1 (⟨#[97]⟩ : ByteArray) = true := by kernel_rfl
theorem k_len : (kL 6).length = 6 := by kernel_rfl
theorem k_shape : shQ 8 (zoneR 2 0 0) (kL 6) = (5, 4, 1) := by kernel_rfl
theorem k_del : hasQ (kL 6) 0 0 (⟨#[97]⟩ : ByteArray) = true := by kernel_rfl
theorem k_in : ((delQ (kL 6) 0 0 (⟨#[97]⟩ : ByteArray)).filter (inQ ⟨0, 0, 4, 1⟩)).length = 3 := by kernel_rfl
/-- The tree so far, its blocks new. -/
def NewT (g : Nat) (L : List Rq) (w W : World) : Prop := ∃ q, TreeO g q 2 0 0 L W ∧ (∀ c ∈ g :: q.bl, w.heap.size ≤ c) ∧ Below w.heap.size w W
theorem NewT.since {g : Nat} {L : List Rq} {w W W' : World} (h : NewT g L w W) (hs : Since W W') : NewT g L w W' := by
  obtain ⟨q, h1, h2, h3⟩ := h
  have h3' : Since w W := h3
  exact ⟨q, h1.since hs, h2, h3'.trans hs⟩
theorem NewT.after {g : Nat} {q : QN} {k d b : Int} {L L' : List Rq} {w W W' : World} (h : TreeO g q k d b L W) (hn : ∀ c ∈ g :: q.bl, w.heap.size ≤ c) (hb : Below w.heap.size w W) (hp : TreeP g q k d b L' W W') :
    ∃ q', TreeO g q' k d b L' W' ∧ (∀ c ∈ g :: q'.bl, w.heap.size ≤ c) ∧ Below w.heap.size w W' := by
  obtain ⟨q', p1, p2, p3, p4⟩ := hp
  have hz := hb.size
  refine ⟨q', p2, fun c hc => ?_, hb.trans (p3.below hz (fun c z => hn c (List.mem_cons_of_mem _ z)))⟩
  rcases List.mem_cons.1 hc with rfl | hc
  · exact hn _ List.mem_cons_self
  · rcases p4 c hc with z | z
    · exact hn c (List.mem_cons_of_mem _ z)
    · omega
set_option maxRecDepth 100000 in
set_option maxHeartbeats 6400000 in
theorem knows8_any (w : World) : Calls Tryz.prog 6 #[] w fun e w' => e = .returned (.bool true) ∧ Below w.heap.size w w' := by
  have HN := Lib.hid (tnew_any (k := 2) (d := 0) (b := 0) (v := .slice none 0 0) (l := []) (nil_listE w) (Nat.le_refl _) (by simp))
  go_enter Tryz.func6, Tryz.ntmps6
  go_wp2_with (go_at_call 7; (with_reducible refine HN.out.mono ?_); rintro e w1 hP; obtain ⟨g, q0, rfl, hT, hnew, hb1⟩ := new_yes hP (by kernel_rfl) (by kernel_rfl); clear hP)
  have HT0 := Lib.hid (show NewT g (kL 0) w w1 from ⟨q0, hT, hnew, hb1⟩)
  clear hT hnew hb1 HN
  refine (wpIn_wide (n := 0)).1 ?_
  refine rounds_inv 6 (fun i A W => ∃ u14 u15 u16 u17 u18 u19 u20 u21 u22 u23 u24 u25 u26 u27, A = { tmps := #[.bool false, .pointer (some ⟨g, 0, none⟩), .int .i64 0, .int .i64 (i : Nat), undef, undef, undef, undef, undef, .tuple #[.pointer (some ⟨g, 0, none⟩), .int .i64 0], .agg #[.int .i64 0, .int .i64 0], .tuple #[.pointer (some ⟨g, 0, none⟩), .int .i64 0], .pointer (some ⟨g, 0, none⟩), .int .i64 0, u14, u15, u16, u17, u18, u19, u20, u21, u22, u23, u24, u25, u26, u27, undef, undef, undef, undef, undef, undef, undef, undef, undef, undef, undef, undef, undef, undef, undef, undef, undef, undef, undef, undef, undef, undef, undef, undef, undef, undef, undef, undef, undef, undef, undef, undef, undef, undef, undef, undef, undef, undef, undef, undef, undef, undef, undef, undef, undef, undef, undef, undef], defers := [] } ∧ NewT g (kL i) w W) ?start ?step ?done
  case start => exact ⟨_, _, _, _, _, _, _, _, _, _, _, _, _, _, rfl, HT0.out⟩
  case step =>
    rintro i A W hi ⟨u14, u15, u16, u17, u18, u19, u20, u21, u22, u23, u24, u25, u26, u27, rfl, q, hT, hnew, hb⟩
    obtain ⟨x, hx⟩ : ∃ x : Int, ((i % 4 : Nat) : Int) = x := ⟨_, rfl⟩
    obtain ⟨y, hy⟩ : ∃ y : Int, ((i / 4 : Nat) : Int) = y := ⟨_, rfl⟩
    have h1 : (i : Int).tmod 4 = x := by rw [← hx, Int.tmod_eq_emod_of_nonneg (by omega)]; omega
    have h2 : (i : Int).tdiv 4 = y := by rw [← hy, Int.tdiv_eq_ediv_of_nonneg (by omega)]; omega
    have h3 : IntKind.i64.wrap x = x := IntWalk.i64_in _ (by omega)
    have h4 : IntKind.i64.wrap y = y := IntWalk.i64_in _ (by omega)
    obtain ⟨z, hz⟩ : ∃ z : Int, ((i + 1 : Nat) : Int) = z := ⟨_, rfl⟩
    have hiw : IntKind.i64.wrap ((i : Int) + 1) = z := by rw [← hz]; exact IntWalk.i64_in _ (by omega)
    have hi6 : decide ((i : Int) < 6) = true := decide_eq_true (by omega)
    have hkr : kr i = ⟨x, y, ⟨#[97]⟩, ⟨#[]⟩, z⟩ := by unfold kr; rw [hx, hy, hz]
    have hput := tput_any hT (by have := kL_len i; omega) (kr i)
    have hok := kr_ok i hi
    have hpt : putT (zoneR 2 0 0) (kL i) (kr i) = kL (i + 1) := by unfold putT; rw [if_pos hok]; rfl
    rw [hok, hpt] at hput
    obtain ⟨H, hH⟩ : ∃ H, (true && hasQ (kL i) (kr i).x (kr i).y (kr i).key) = H := ⟨_, rfl⟩
    rw [hH, hkr] at hput
    simp only [if_true] at hput
    have HP := Lib.hid hput
    have HX := Lib.hid (And.intro hT (And.intro hnew hb))
    have HZ := Lib.hid hz
    clear hput hT hnew hb hkr hok hpt hH hx hy hz
    refine wpIn_wide.2 ?_
    go_wp2_with (go_at_call 20; (with_reducible refine HP.out.mono ?_); rintro e w5 ⟨rfl, hp⟩)
    obtain ⟨hT, hnew, hb⟩ := HX.out
    obtain rfl := HZ.out
    exact ⟨_, _, _, _, _, _, _, _, _, _, _, _, _, _, rfl, NewT.after hT hnew hb hp⟩
  case done =>
    rintro A W ⟨u14, u15, u16, u17, u18, u19, u20, u21, u22, u23, u24, u25, u26, u27, rfl, q, hT, hnew, hb⟩
    have hg := fun W' (hW : Since W W') => tget_any (hT.since hW) 1 1 (⟨#[97]⟩ : ByteArray)
    rw [k_get, k_has] at hg
    have HG := Lib.hid hg
    have HS := Lib.hid (fun W' (hW : Since W W') => tshape_any (hT.since hW) (f := 8) (by rw [zone_4]; decide) k_shape)
    have hl := fun W' (hW : Since W W') => tlen_any (hT.since hW)
    rw [k_len] at hl
    have HLN := Lib.hid hl
    have hd := fun W' (hW : Since W W') => tdel_any (hT.since hW) 0 0 (⟨#[97]⟩ : ByteArray)
    rw [k_del] at hd
    have HD := Lib.hid hd
    have HI := Lib.hid (fun W' q' (h : TreeO g q' 2 0 0 (delQ (kL 6) 0 0 (⟨#[97]⟩ : ByteArray)) W') => tin_any h ⟨0, 0, 4, 1⟩)
    have HX := Lib.hid (And.intro hT (And.intro hnew hb))
    have hsr := Since.refl W
    simp only [kr, Rq.v] at HG
    clear hg hl hd hT hnew hb
    refine wpIn_wide.2 ?_
    go_wp2_with (first
      | (go_at_call 21; (with_reducible refine (HG.out _ hsr).mono ?_); rintro e w2 ⟨rfl, hb2⟩; (have hs2 : Since W w2 := hb2); (have hs2a : Since W (w2.alloc (.cells #[.int .i64 1, .int .i64 1, .string ⟨#[97]⟩, .string ⟨#[]⟩, .int .i64 6] 55)) := hs2.alloc _); (have hbx := Whole.new w2 55 #[.int .i64 1, .int .i64 1, .string ⟨#[97]⟩, .string ⟨#[]⟩, .int .i64 6]))
      | (go_at_call 22; (with_reducible refine (HS.out _ hs2a).mono ?_); rintro e w3 ⟨rfl, hb3⟩; (have hs3 : Since W w3 := hs2a.trans hb3); (have hv3 := (Since.whole hb3 hbx).cell 4))
      | (go_at_call 10; (with_reducible refine (num8_any _ _).mono ?_); rintro e w4 ⟨rfl, rfl⟩)
      | (go_at_call 19; (with_reducible refine (HLN.out _ hs3).mono ?_); rintro e w4 ⟨rfl, rfl⟩)
      | (go_at_call 23; (with_reducible refine (HD.out _ hs3).mono ?_); rintro e w5 ⟨rfl, q5, p1, p2, p3, p4⟩)
      | (go_at_call 24; (with_reducible refine (HI.out _ q5 p2).mono ?_); rintro e w6 ⟨v6, rfl, h6, hb6⟩; obtain ⟨va6, vc6, rfl⟩ := RowE.shp h6; rw [k_in]))
    obtain ⟨hT, hnew, hb⟩ := HX.out
    have hz := hb.size
    have hz3 := hs3.size_
    have hz5 := p3.size
    have hb3' : Below w.heap.size w w3 := hb.trans (Below.mono hs3 hz)
    have hb5 : Below w.heap.size w w5 := hb3'.trans (p3.below (by omega) (fun c z => hnew c (List.mem_cons_of_mem _ z)))
    have hb66 : Below w.heap.size w5 w6 := Below.mono hb6 (by omega)
    go_ret
    exact ⟨rfl, hb5.trans hb66⟩
end Go.Proofs.YthfhpejpjiaikaaGreat
