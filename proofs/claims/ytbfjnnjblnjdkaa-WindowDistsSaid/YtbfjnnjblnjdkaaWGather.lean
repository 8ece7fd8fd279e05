/- window.gather: of a list those that are not empty; window.Plain: a window's plain rectangles. -/
import Derived.Test.YtbfjnnjblnjdkaaWFns
namespace Go.Proofs.Ytbfjnnjblnjdkaa
open Go.RowKit
theorem infoWR : (Try.prog.info? 34).map (fun i => (i.zero, i.size, i.bytes)) = some (some (.agg #[.int .i64 0, .int .i64 0, .int .i64 0, .int .i64 0]), 4, 32) := by kernel_rfl
set_option maxRecDepth 100000 in
set_option maxHeartbeats 1600000 in
theorem gather_any {B : Nat} {v : Value} {L : List Rc} (w : World) (h : ListR B w v L) (hB : B ≤ w.heap.size) (hl : L.length ≤ 100) (hnn : ∀ r ∈ L, 0 ≤ r.w ∧ 0 ≤ r.h) : Calls Try.prog 32 #[v] w fun e w' => ∃ v', e = .returned v' ∧ RowR w' w.heap.size 34 v' (L.filter neR) ∧ Below w.heap.size w w' := by
  obtain ⟨va, cap, rfl, hform⟩ := h.form
  go_enter Try.func32, Try.ntmps32
  go_wp2_with fail
  go_loopw [3, 8] (fun out i wr => ∃ m : Nat, i = .int .i64 m ∧ m ≤ L.length ∧ RowR wr w.heap.size 34 out ((L.take m).filter neR) ∧ Since w wr) (fun _ i _ => L.length - (intOf i).toNat)
  case atStart => exact ⟨0, rfl, Nat.zero_le _, RowE.nil _ _ _, Since.refl w⟩
  case round =>
    obtain ⟨m, rfl, hm, hrow, hs⟩ := hrel
    have hm100 : (m : Int) ≤ 100 := by omega
    by_cases hlt : m < L.length
    · obtain ⟨g, rfl, hg⟩ := hform m hlt
      have hls := h.since hs hB
      have htk := take_filter L neR m hlt
      have hne := hnn L[m] (List.getElem_mem _)
      have hll : ((L.take m).filter neR).length ≤ 100 := by
        have := List.length_filter_le neR (L.take m)
        have := List.length_take_le m L
        omega
      obtain ⟨⟨x, y, u, z⟩, hr⟩ : ∃ ρ, L[m] = ρ := ⟨_, rfl⟩
      rw [hr] at hne
      dsimp only at hne
      have t1 := hls.at_ hlt 0 (u := .int .i64 x) (by rw [hr]; rfl)
      have t2 := hls.at_ hlt 1 (u := .int .i64 y) (by rw [hr]; rfl)
      have t3 := hls.at_ hlt 2 (u := .int .i64 u) (by rw [hr]; rfl)
      have t4 := hls.at_ hlt 3 (u := .int .i64 z) (by rw [hr]; rfl)
      rw [Nat.add_zero] at t1
      rw [hr] at htk
      obtain ⟨l, hlq⟩ : ∃ l, (L.take m).filter neR = l := ⟨_, rfl⟩
      rw [hlq] at hrow hll htk
      obtain ⟨E, hE⟩ : ∃ E, neR ⟨x, y, u, z⟩ = E := ⟨_, rfl⟩
      rw [hE] at htk
      have HT := Lib.hid htk
      have HE := Lib.hid (show emR u z = !E by rw [emR_ne (a := x) (b := y) hne.1 hne.2, hE])
      have hwa : Since wr (wr.alloc (.cells #[.int .i64 x, .int .i64 y, .int .i64 u, .int .i64 z] 34)) := (Since.refl wr).alloc _
      have d1 : decide ((m : Int) < L.length) = true := decide_eq_true (by omega)
      clear htk hlq hE hr hform hls hne hnn
      cases E
      · rw [if_neg Bool.false_ne_true, List.append_nil] at HT
        go_wp2_with (go_at_call 40; (with_reducible refine (wEmpty_at HE.out _).mono ?_); rintro e w5 ⟨rfl, hb5⟩; have hS5 : Since wr w5 := Since.trans hwa hb5; have wN := (Whole.new wr 34 #[.int .i64 x, .int .i64 y, .int .i64 u, .int .i64 z]).below hb5 (by simp); have n1 := wN.cell 0; have n2 := wN.cell 1; have n3 := wN.cell 2; have n4 := wN.cell 3; have hrow5 := hrow.since hS5; have hs5 := hs.trans hS5)
        go_roundw
        case rel => exact ⟨m + 1, by go_num, by omega, by rw [HT.out]; exact hrow5, hs5⟩
        case measure => simp [intOf]; omega
      · rw [if_pos rfl] at HT
        go_wp2_with (first | (go_at_call 40; (with_reducible refine (wEmpty_at HE.out _).mono ?_); rintro e w5 ⟨rfl, hb5⟩; have hS5 : Since wr w5 := Since.trans hwa hb5; have wN := (Whole.new wr 34 #[.int .i64 x, .int .i64 y, .int .i64 u, .int .i64 z]).below hb5 (by simp); have n1 := wN.cell 0; have n2 := wN.cell 1; have n3 := wN.cell 2; have n4 := wN.cell 3; have hrow5 := hrow.since hS5; have hs5 := hs.trans hS5) | (at_builtin; refine wpList_append_e rfl _ _ 30 rfl w.heap.size 34 _ 32 Try.underlying30 infoWR rfl (by decide) hrow5 ⟨x, y, u, z⟩ rfl rfl (by simp [encR, Value.oneCell']) rfl rfl (by omega) (by decide) hs5 (Nat.le_refl _) hs5.size_ ?_; intro v' w7 hrow2 hs2 hk))
        go_roundw
        case rel => exact ⟨m + 1, by go_num, by omega, by rw [HT.out]; exact hrow2, hs2⟩
        case measure => simp [intOf]; omega
    · obtain rfl : m = L.length := by omega
      have d1 : decide ((L.length : Int) < L.length) = false := decide_eq_false (by omega)
      rw [List.take_of_length_le (Nat.le_refl _)] at hrow
      go_wp2_with fail
      go_ret
      exact ⟨_, rfl, hrow, hs⟩
end Go.Proofs.Ytbfjnnjblnjdkaa
