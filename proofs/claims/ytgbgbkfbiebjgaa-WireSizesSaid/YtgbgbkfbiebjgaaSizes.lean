/- The walk of the law WireSizes: what is just as large as it may be, and larger. -/
import Derived.Test.YtgbgbkfbiebjgaaText
import Derived.Test.YtgbgbkfbiebjgaaKnows
namespace Go.Proofs.Ytgbgbkfbiebjgaa
open Go.RowKit
/-- make([]byte, n), in a walk. -/
theorem wpList_zeros (w : World) {ops : Array Oper} {rest : List Oper} {o : Oper} {a : Act} {Q : Exit → Act → World → Prop} (hg : o.guard = none) (l c : Operand) (hop : o.op = Op.makeSlice 22 l c)
    (base : Nat) (kl kc : IntKind) (L C : Int) (n : Nat) (hl : a.eval l = .int kl L) (hc : a.eval c = .int kc C) (hL : L = (n : Int)) (hC : C = (n : Int)) (hn : n ≤ 1000000000) (hb : base ≤ w.heap.size)
    (h : ∀ A k w', Has w' base A n k (List.replicate n 0) → Below base w w' → wpList Try.prog ops Q rest (a.put o.dst (.slice A n k)) w') : wpList Try.prog ops Q (o :: rest) a w := by
  obtain ⟨i0, hi, hz0, hz1, hz2⟩ := info_parts byte_info
  refine wpList_make_full w hg l c 22 hop base 5 i0 (.int .u8 0) 1 Try.underlying22 hi hz0 hz1 kl kc L C n hl hc hL hC (by rw [hz2]; omega) (by simp only [maxLen]; omega) hb fun w' h1 h2 => ?_
  have e : (madeCells (Value.int .u8 0).cells (n * 1)).toList = bv (List.replicate n 0) := by
    have := toList_madeCells_one (Value.int .u8 0) n
    rw [Nat.mul_one]
    simp only [bv, List.map_replicate]
    exact this
  rw [e] at h1
  have h3 : Own w' base (.slice (some ⟨w.heap.size, 0, none⟩) n n) (List.replicate n 0) := by
    unfold Own
    rw [List.length_replicate]
    exact h1
  obtain ⟨A, m, k, he, h4⟩ := h3.has
  injection he with e1 e2 e3
  subst e1; subst e2; subst e3
  exact h _ _ _ h4 ((Below.refl _ _).grown h2 hb (fun k hk => by cases hk))
set_option maxRecDepth 100000 in
set_option maxHeartbeats 800000 in
theorem sizes_walk (over : Bool) (w : World) :
    Calls Try.prog 6 #[.bool over] w fun e w' => e = .returned (.bool true) ∧ Below w.heap.size w w' := by
  cases over
  · obtain ⟨N, hN⟩ : ∃ N : Nat, (131072 : Int) = (N : Int) := ⟨131072, by omega⟩
    have hN1 : N ≤ 131072 := by omega
    have HN := Lib.hid hN
    clear hN
    go_enter Try.func6, Try.ntmps6
    go_wp2_with (at_make; refine wpList_zeros _ rfl _ _ rfl w.heap.size _ _ _ _ N rfl rfl HN.out HN.out (by omega) (Nat.le_refl _) ?_; intro A1 c1 w1 h1 hb1)
    refine (frame_any 1 A1 N c1 _ w1 h1.rd h1.len).mono ?_
    have hl := h1.len
    have e1 : frameE 1 (List.replicate N 0) = 0 := by unfold frameE; rw [if_pos (by omega), if_pos (by omega)]
    rw [e1]
    rintro e w2 ⟨A2, n2, c2, rfl, h2, hb2⟩
    have hbw2 : Below w.heap.size w w2 := hb1.trans (hb2.mono hb1.size)
    have hs2 := hbw2.size
    have hc := text_of w2 N c1 (h1.below hb2).rd h1.len
    have hsz : (((⟨(List.replicate N (0 : UInt8)).toArray⟩ : ByteArray).size : Nat) : Int) ≤ 131072 := by
      show (((List.replicate N (0 : UInt8)).toArray.size : Nat) : Int) ≤ 131072
      simp; omega
    obtain ⟨s, hs⟩ : ∃ s : ByteArray, s = ⟨(List.replicate N (0 : UInt8)).toArray⟩ := ⟨_, rfl⟩
    rw [← hs] at hc hsz
    clear h1 h2 hb1 hb2 e1 hl hs
    go_wp2_with (go_at_call 17; (with_reducible refine (text_good s w2 hsz).mono ?_); rintro e w3 ⟨A3, n3, c3, rfl, h3, hb3⟩)
    have hbw3 : Below w.heap.size w w3 := hbw2.trans (hb3.mono hs2)
    clear h3 hb3 hbw2
    go_wp2_with (first | (go_at_call 19; (with_reducible refine (law_num_any _ _).mono ?_); rintro e w' ⟨rfl, rfl⟩) | (go_at_call 11; (with_reducible refine (knows_any _).mono ?_); rintro e w4 ⟨rfl, hb4⟩))
    go_ret
    exact ⟨rfl, hbw3.trans (hb4.mono hbw3.size)⟩
  · obtain ⟨N, hN⟩ : ∃ N : Nat, (131073 : Int) = (N : Int) := ⟨131073, by omega⟩
    have hN1 : 131073 ≤ N := by omega
    have hN2 : N ≤ 131073 := by omega
    have HN := Lib.hid hN
    clear hN
    go_enter Try.func6, Try.ntmps6
    go_wp2_with (at_make; refine wpList_zeros _ rfl _ _ rfl w.heap.size _ _ _ _ N rfl rfl HN.out HN.out (by omega) (Nat.le_refl _) ?_; intro A1 c1 w1 h1 hb1)
    refine (frame_any 1 A1 N c1 _ w1 h1.rd h1.len).mono ?_
    have hl := h1.len
    have e1 : frameE 1 (List.replicate N 0) = 6 := by unfold frameE; rw [if_pos (by omega), if_neg (by omega)]
    rw [e1]
    rintro e w2 ⟨A2, n2, c2, rfl, h2, hb2⟩
    have hbw2 : Below w.heap.size w w2 := hb1.trans (hb2.mono hb1.size)
    have hs2 := hbw2.size
    have hc := text_of w2 N c1 (h1.below hb2).rd h1.len
    have hsz : (131072 : Int) < (((⟨(List.replicate N (0 : UInt8)).toArray⟩ : ByteArray).size : Nat) : Int) := by
      show (131072 : Int) < (((List.replicate N (0 : UInt8)).toArray.size : Nat) : Int)
      simp; omega
    obtain ⟨s, hs⟩ : ∃ s : ByteArray, s = ⟨(List.replicate N (0 : UInt8)).toArray⟩ := ⟨_, rfl⟩
    rw [← hs] at hc hsz
    clear h1 h2 hb1 hb2 e1 hl hs
    go_wp2_with (go_at_call 17; (with_reducible refine (text_long s w2 hsz).mono ?_); rintro e w3 ⟨A3, n3, c3, rfl, h3, hb3⟩)
    have hbw3 : Below w.heap.size w w3 := hbw2.trans (hb3.mono hs2)
    clear h3 hb3 hbw2
    go_wp2_with (first | (go_at_call 19; (with_reducible refine (law_num_any _ _).mono ?_); rintro e w' ⟨rfl, rfl⟩) | (go_at_call 11; (with_reducible refine (knows_any _).mono ?_); rintro e w4 ⟨rfl, hb4⟩))
    go_ret
    exact ⟨rfl, hbw3.trans (hb4.mono hbw3.size)⟩
end Go.Proofs.Ytgbgbkfbiebjgaa
