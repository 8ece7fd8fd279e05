/- glebelaw08.knows: what must come. -/
import Derived.Test.YteohkmhndomhgaaGreatK25
import Derived.Test.YteohkmhndomhgaaGreatK37
import Derived.Test.YteohkmhndomhgaaGreatK38
import Derived.Test.YteohkmhndomhgaaGreatK40
namespace Go.Proofs.YteohkmhndomhgaaGreat
open Go.RowKit
attribute [local go_sem] Oper.semAt_some
set_option linter.unusedVariables false
set_option linter.unusedSimpArgs false
theorem num8_any (x : Int) (w : World) : Calls Tryz.prog 11 #[.int .i64 x] w fun e w' => e = .returned (.int .i64 x) ∧ w = w' := by
  go_enter Tryz.func11, Tryz.ntmps11
  go_wp2
  go_ret
  exact ⟨by first | rfl | simp, rfl⟩
def kr (i : Nat) : Rq := ⟨((i % 4 : Nat) : Int), ((i / 4 : Nat) : Int), ⟨#[97]⟩, ⟨#[]⟩, ((i + 1 : Nat) : Int)⟩
def kL : Nat → List Rq
  | 0 => []
  | i + 1 => putQ (kL i) (kr i)
theorem zone_4 : zoneR 2 0 0 = ⟨0, 0, 4, 4⟩ := by kernel_rfl
theorem kr_ok (i : Nat) (hi : i < 6) : okR (zoneR 2 0 0) (kr i) = true := by
  rw [zone_4]
  rcases (show i = 0 ∨ i = 1 ∨ i = 2 ∨ i = 3 ∨ i = 4 ∨ i = 5 by omega) with rfl | rfl | rfl | rfl | rfl | rfl <;> decide
theorem kL_len : ∀ i, (kL i).length ≤ i
  | 0 => Nat.le_refl _
  | i + 1 => by have := putQ_most (kL i) (kr i); have := kL_len i; show (putQ (kL i) (kr i)).length ≤ _; omega
theorem k_get : getQ (kL 6) 1 1 (⟨#[97]⟩ : ByteArray) = kr 5 := by kernel_rfl
theorem k_has : hasQ (kL 6) 1 1 (⟨#[97]⟩ : ByteArray) = true := by kernel_rfl
theorem k_len : (kL 6).length = 6 := by kernel_rfl
theorem k_shape : shQ 8 (zoneR 2 0 0) (kL 6) = (5, 4, 1) := by kernel_rfl
theorem k_del : hasQ (kL 6) 0 0 (⟨#[97]⟩ : ByteArray) = true := by kernel_rfl
theorem k_in : ((delQ (kL 6) 0 0 (⟨#[97]⟩ : ByteArray)).filter (inQ ⟨0, 0, 4, 1⟩)).length = 3 := by kernel_rfl
/-- The tree so far, its blocks new. -/
def NewT (g : Nat) (L : List Rq) (w W : World) : Prop := ∃ q, TreeO g q 2 0 0 L W ∧ (∀ c ∈ g :: q.bl, w.heap.size ≤ c) ∧ Below w.heap.size w W
theorem NewT.since {g : Nat} {L : List Rq} {w W W' : World} (h : NewT g L w W) (hs : Since W W') : NewT g L w W' := by
  obtain ⟨q, h1, h2, h3⟩ := h
  have h3' : Since w W := h3
  exact ⟨q, h1.since hs, h2, h3'.trans hs⟩
theorem NewT.after {g : Nat} {q : QN} {k d b : Int} {L L' : List Rq} {w W W' : World} (h : TreeO g q k d b L W) (hn : ∀ c ∈ g :: q.bl, w.heap.size ≤ c) (hb : Below w.heap.size w W) (hp : TreeP g q k d b L' W W') :
    ∃ q', TreeO g q' k d b L' W' ∧ (∀ c ∈ g :: q'.bl, w.heap.size ≤ c) ∧ Below w.heap.size w W' := by
  obtain ⟨q', p1, p2, p3, p4⟩ := hp
  have hz := hb.size
  refine ⟨q', p2, fun c hc => ?_, hb.trans (p3.below hz (fun c z => hn c (List.mem_cons_of_mem _ z)))⟩
  rcases List.mem_cons.1 hc with rfl | hc
  · exact hn _ List.mem_cons_self
  · rcases p4 c hc with z | z
    · exact hn c (List.mem_cons_of_mem _ z)
    · omega
set_option maxRecDepth 100000 in
set_option maxHeartbeats 6400000 in
theorem knows8_any (w : World) : Calls Tryz.prog 7 #[] w fun e w' => e = .returned (.bool true) ∧ Below w.heap.size w w' := by
  have HN := Lib.hid (tnew_any (k := 2) (d := 0) (b := 0) (v := .slice none 0 0) (l := []) (nil_listE w) (Nat.le_refl _) (by simp))
  go_enter Tryz.func7, Tryz.ntmps7
  go_wp2_with (go_at_call 8; (with_reducible refine HN.out.mono ?_); rintro e w1 hP; obtain ⟨g, q0, rfl, hT, hnew, hb1⟩ := new_yes hP (by kernel_rfl) (by kernel_rfl); clear hP)
  have HT0 := Lib.hid (show NewT g (kL 0) w w1 from ⟨q0, hT, hnew, hb1⟩)
  clear hT hnew hb1 HN
  refine (wpIn_wide (n := 0)).1 ?_
  refine rounds_inv 6 (fun i A W => ∃ u14 u15 u16 u17 u18 u19 u20 u21 u22 u23 u24 u25 u26 u27, A = { tmps := #[.bool false, .pointer (some ⟨g, 0, none⟩), .int .i64 0, .int .i64 (i : Nat), undef, undef, undef, undef, undef, .tuple #[.pointer (some ⟨g, 0, none⟩), .int .i64 0], .agg #[.int .i64 0, .int .i64 0], .tuple #[.pointer (some ⟨g, 0, none⟩), .int .i64 0], .pointer (some ⟨g, 0, none⟩), .int .i64 0, u14, u15, u16, u17, u18, u19, u20, u21, u22, u23, u24, u25, u26, u27, undef, undef, undef, undef, undef, undef, undef, undef, undef, undef, undef, undef, undef, undef, undef, undef, undef, undef, undef, undef, undef, undef, undef, undef, undef, undef, undef, undef, undef, undef, undef, undef, undef, undef, undef, undef, undef, undef, undef, undef, undef, undef, undef, undef, undef, undef, undef, undef], defers := [] } ∧ NewT g (kL i) w W) ?start ?step ?done
  case start => exact ⟨_, _, _, _, _, _, _, _, _, _, _, _, _, _, rfl, HT0.out⟩
  case step =>
    rintro i A W hi ⟨u14, u15, u16, u17, u18, u19, u20, u21, u22, u23, u24, u25, u26, u27, rfl, q, hT, hnew, hb⟩
    obtain ⟨x, hx⟩ : ∃ x : Int, ((i % 4 : Nat) : Int) = x := ⟨_, rfl⟩
    obtain ⟨y, hy⟩ : ∃ y : Int, ((i / 4 : Nat) : Int) = y := ⟨_, rfl⟩
    have h1 : (i : Int).tmod 4 = x := by rw [← hx, Int.tmod_eq_emod_of_nonneg (by omega)]; omega
    have h2 : (i : Int).tdiv 4 = y := by rw [← hy, Int.tdiv_eq_ediv_of_nonneg (by omega)]; omega
    have h3 : IntKind.i64.wrap x = x := IntWalk.i64_in _ (by omega)
    have h4 : IntKind.i64.wrap y = y := IntWalk.i64_in _ (by omega)
    obtain ⟨z, hz⟩ : ∃ z : Int, ((i + 1 : Nat) : Int) = z := ⟨_, rfl⟩
    have hiw : IntKind.i64.wrap ((i : Int) + 1) = z := by rw [← hz]; exact IntWalk.i64_in _ (by omega)
    have hi6 : decide ((i : Int) < 6) = true := decide_eq_true (by omega)
    have hkr : kr i = ⟨x, y, ⟨#[97]⟩, ⟨#[]⟩, z⟩ := by unfold kr; rw [hx, hy, hz]
    have hput := tput_any hT (by have := kL_len i; omega) (kr i)
    have hok := kr_ok i hi
    have hpt : putT (zoneR 2 0 0) (kL i) (kr i) = kL (i + 1) := by unfold putT; rw [if_pos hok]; rfl
    rw [hok, hpt] at hput
    obtain ⟨H, hH⟩ : ∃ H, (true && hasQ (kL i) (kr i).x (kr i).y (kr i).key) = H := ⟨_, rfl⟩
    rw [hH, hkr] at hput
    simp only [if_true] at hput
    have HP := Lib.hid hput
    have HX := Lib.hid (And.intro hT (And.intro hnew hb))
    have HZ := Lib.hid hz
    clear hput hT hnew hb hkr hok hpt hH hx hy hz
    refine wpIn_wide.2 ?_
    go_wp2_with (go_at_call 15; (with_reducible refine HP.out.mono ?_); rintro e w5 ⟨rfl, hp⟩)
    obtain ⟨hT, hnew, hb⟩ := HX.out
    obtain rfl := HZ.out
    exact ⟨_, _, _, _, _, _, _, _, _, _, _, _, _, _, rfl, NewT.after hT hnew hb hp⟩
  case done =>
    rintro A W ⟨u14, u15, u16, u17, u18, u19, u20, u21, u22, u23, u24, u25, u26, u27, rfl, q, hT, hnew, hb⟩
    have hg := fun W' (hW : Since W W') => tget_any (hT.since hW) 1 1 (⟨#[97]⟩ : ByteArray)
    rw [k_get, k_has] at hg
    have HG := Lib.hid hg
    have HS := Lib.hid (fun W' (hW : Since W W') => tshape_any (hT.since hW) (f := 8) (by rw [zone_4]; decide) k_shape)
    have hl := fun W' (hW : Since W W') => tlen_any (hT.since hW)
    rw [k_len] at hl
    have HLN := Lib.hid hl
    have hd := fun W' (hW : Since W W') => tdel_any (hT.since hW) 0 0 (⟨#[97]⟩ : ByteArray)
    rw [k_del] at hd
    have HD := Lib.hid hd
    have HI := Lib.hid (fun W' q' (h : TreeO g q' 2 0 0 (delQ (kL 6) 0 0 (⟨#[97]⟩ : ByteArray)) W') => tin_any h ⟨0, 0, 4, 1⟩)
    have HX := Lib.hid (And.intro hT (And.intro hnew hb))
    have hsr := Since.refl W
    simp only [kr, Rq.v] at HG
    clear hg hl hd hT hnew hb
    refine wpIn_wide.2 ?_
    go_wp2_with (first
      | (go_at_call 17; (with_reducible refine (HG.out _ hsr).mono ?_); rintro e w2 ⟨rfl, hb2⟩; (have hs2 : Since W w2 := hb2); (have hs2a : Since W (w2.alloc (.cells #[.int .i64 1, .int .i64 1, .string ⟨#[97]⟩, .string ⟨#[]⟩, .int .i64 6] 49)) := hs2.alloc _); (have hbx := Whole.new w2 49 #[.int .i64 1, .int .i64 1, .string ⟨#[97]⟩, .string ⟨#[]⟩, .int .i64 6]))
      | (go_at_call 19; (with_reducible refine (HS.out _ hs2a).mono ?_); rintro e w3 ⟨rfl, hb3⟩; (have hs3 : Since W w3 := hs2a.trans hb3); (have hv3 := (Since.whole hb3 hbx).cell 4))
      | (go_at_call 11; (with_reducible refine (num8_any _ _).mono ?_); rintro e w4 ⟨rfl, rfl⟩)
      | (go_at_call 24; (with_reducible refine (HLN.out _ hs3).mono ?_); rintro e w4 ⟨rfl, rfl⟩)
      | (go_at_call 20; (with_reducible refine (HD.out _ hs3).mono ?_); rintro e w5 ⟨rfl, q5, p1, p2, p3, p4⟩)
      | (go_at_call 21; (with_reducible refine (HI.out _ q5 p2).mono ?_); rintro e w6 ⟨v6, rfl, h6, hb6⟩; obtain ⟨va6, vc6, rfl⟩ := RowE.shp h6; rw [k_in]))
    obtain ⟨hT, hnew, hb⟩ := HX.out
    have hz := hb.size
    have hz3 := hs3.size_
    have hz5 := p3.size
    have hb3' : Below w.heap.size w w3 := hb.trans (Below.mono hs3 hz)
    have hb5 : Below w.heap.size w w5 := hb3'.trans (p3.below (by omega) (fun c z => hnew c (List.mem_cons_of_mem _ z)))
    have hb66 : Below w.heap.size w5 w6 := Below.mono hb6 (by omega)
    go_ret
    exact ⟨rfl, hb5.trans hb66⟩
end Go.Proofs.YteohkmhndomhgaaGreat
