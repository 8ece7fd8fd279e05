/- entry.nums, PutChain. -/
import Derived.Test.YtimmnmidhjbanaaDoorK11
import Derived.Test.YtimmnmidhjbanaaDoorK21
import Derived.Test.YtimmnmidhjbanaaDoorK23
import Derived.Test.YtimmnmidhjbanaaDoorK25
namespace Go.Proofs.YtimmnmidhjbanaaDoor
open Go.RowKit
set_option linter.unusedVariables false
set_option linter.unusedSimpArgs false
/-- Numbers that lie in a block of their own. -/
theorem LZ.lit {B g n c : Nat} {W : World} {t : TypeId} {cs : Array Value} {l : List Int} (h : Whole W g t cs) (hcs : cs = (l.map (Value.int .i64)).toArray) (hn : l.length = n) (hc : n ≤ c) (hg : g < B) : LZ B W (.slice (some ⟨g, 0, none⟩) n c) l := by
  subst hn
  refine LZ.of (fun e => by cases e) hc (.inr ⟨g, 0, rfl, hg, fun i x hx => ?_⟩)
  rw [h.cell, hcs, Nat.zero_add]
  simp [hx]
theorem LZ.lit1 {W : World} {a : Int} : LZ (W.heap.size + 1) (W.alloc (.cells #[.int .i64 a] 3)) (.slice (some ⟨W.heap.size, 0, none⟩) 1 1) [a] := LZ.lit (Whole.new W _ _) rfl rfl (Nat.le_refl _) (Nat.lt_succ_self _)
theorem LZ.lit1' {W : World} {g : Nat} {a : Int} (h : W.heap.size = g) : LZ (g + 1) (W.alloc (.cells #[.int .i64 a] 3)) (.slice (some ⟨g, 0, none⟩) 1 1) [a] := h ▸ LZ.lit1
theorem LZ.lit2 {W : World} {a b : Int} : LZ (W.heap.size + 1) (W.alloc (.cells #[.int .i64 a, .int .i64 b] 3)) (.slice (some ⟨W.heap.size, 0, none⟩) 2 2) [a, b] := LZ.lit (Whole.new W _ _) rfl rfl (Nat.le_refl _) (Nat.lt_succ_self _)
theorem LZ.lit3 {W : World} {a b c : Int} : LZ (W.heap.size + 1) (W.alloc (.cells #[.int .i64 a, .int .i64 b, .int .i64 c] 3)) (.slice (some ⟨W.heap.size, 0, none⟩) 3 3) [a, b, c] := LZ.lit (Whole.new W _ _) rfl rfl (Nat.le_refl _) (Nat.lt_succ_self _)
theorem nums_len (l : List Int) : (l.flatMap numL).length ≤ 9 * l.length := by
  induction l with
  | nil => simp
  | cons x l ih => rw [List.flatMap_cons, List.length_append, List.length_cons]; have := numL_len x; omega
theorem nums_next {l : List Int} {k : Nat} {x : Int} (h : l[k]? = some x) : (l.take (k + 1)).flatMap numL = (l.take k).flatMap numL ++ numL x := by
  rw [List.take_add_one, h, List.flatMap_append]
  simp
set_option maxRecDepth 100000 in
theorem nums11_any {B : Nat} {v : Value} {l : List Int} {w : World} (h : LZ B w v l) (hB : B ≤ w.heap.size) (hl : l.length ≤ 1000) :
    Calls Tryd.prog 41 #[v] w (SlicePost w.heap.size (l.flatMap numL) w) := by
  obtain ⟨a, cap, rfl, -⟩ := h.form
  obtain ⟨N, hN⟩ : ∃ N, l.length = N := ⟨_, rfl⟩
  rw [hN] at h hl ⊢
  have HA := Lib.hid (fun W (hW : Since w W) => h.since hW hB)
  have HN := Lib.hid hN
  have hsr := Since.refl w
  clear h hN hB
  go_enter Tryd.func41, Tryd.ntmps41
  go_wp2
  go_loopw [3, 10] (fun s i wr => ∃ k : Nat, i = .int .i64 (k : Int) ∧ k ≤ N ∧ Own wr w.heap.size s ((l.take k).flatMap numL) ∧ Since w wr) (fun _ i _ => N - (intOf i).toNat)
  case atStart => exact ⟨0, rfl, Nat.zero_le _, Own.nil _ _, hsr⟩
  case round =>
    obtain ⟨k, rfl, hk, hown, hsw⟩ := hrel
    clear hsr
    by_cases hlt : k < N
    · have hlk : k < l.length := by have := HN.out; omega
      obtain ⟨z, hz⟩ : ∃ z, l[k]? = some z := ⟨_, List.getElem?_eq_getElem hlk⟩
      obtain ⟨b1, off, rfl, _⟩ := LZ.addr (HA.out w (Since.refl w)) (by omega)
      have hcc := LZ.cellsAt (HA.out wr hsw) hz
      have hX := nums_next hz
      have hlen := nums_len (l.take k)
      rw [List.length_take] at hlen
      have hln2 : ((l.take k).flatMap numL).length ≤ 9000 := by omega
      have hbs := hsw.size_
      have hn9 := numL_len z
      clear hlk hz hlen
      generalize (l.take k).flatMap numL = T at hown hX hln2
      have HX := Lib.hid hX
      clear hX
      have hrr : Since wr wr := Since.refl wr
      go_wp2_with (first
        | (go_at_call 68; (with_reducible refine (num_any _ _).mono ?_); rintro e w3 ⟨v3, rfl, hh, hb⟩; have hs3 : Since wr w3 := hb; obtain ⟨A, n, c, rfl, hx⟩ := hh.has; have hb3 : Since w w3 := hsw.trans hs3; have hbs3 := hb3.size_)
        | (at_builtin; refine wpList_app _ rfl (.tmp 19) (.tmp 20) _ rfl w.heap.size _ T rfl (hown.below hs3) _ (numL z) rfl (src_at n c hx.rd hx.len) (by omega) hbs3 ?_; intro v4 w4 hown4 hb4; have hs4 : Since w w4 := Below.trans hb3 hb4))
      go_roundw
      case rel => exact ⟨k + 1, by go_num, by omega, by rw [HX.out]; exact hown4, hs4⟩
      case measure => simp [intOf]; omega
    · obtain rfl : k = N := by omega
      rw [List.take_of_length_le (Nat.le_of_eq HN.out)] at hown
      obtain ⟨A, n, c, rfl, hh⟩ := hown.has
      have HH := Lib.hid (And.intro hh hsw)
      clear hh hown hsw
      go_wp2
      go_ret
      exact ⟨A, n, c, rfl, HH.out.1, HH.out.2⟩
/-- A chain's bytes. -/
def chainL (l : List Int) : List UInt8 := numL l.length ++ l.flatMap numL
theorem chainL_len {l : List Int} (h : ChainP l) : (chainL l).length ≤ 81 := by
  unfold chainL
  rw [List.length_append]
  have := nums_len l
  have := numL_len l.length
  have := chain_len h
  omega
set_option maxRecDepth 100000 in
theorem putChain_no {B : Nat} {v : Value} {l : List Int} {w : World} (h : LZ B w v l) (hB : B ≤ w.heap.size) (hl : l.length ≤ 1000) (hc : chainB l = false) :
    Calls Tryd.prog 11 #[v] w fun e w' => e = .returned (.tuple #[.slice none 0 0, .int .i64 1]) ∧ Below w.heap.size w w' := by
  obtain ⟨a, cap, rfl, -⟩ := h.form
  have HR := Lib.hid (rightChain_any h hB (by omega) hc)
  clear h hc
  go_enter Tryd.func11, Tryd.ntmps11
  go_wp2_with (go_at_call 24; (with_reducible refine HR.out.mono ?_); rintro e w2 ⟨rfl, hb2⟩)
  go_ret2
  exact ⟨rfl, hb2⟩
set_option maxRecDepth 100000 in
set_option maxHeartbeats 1600000 in
theorem putChain_yes {B : Nat} {v : Value} {l : List Int} {w : World} (h : LZ B w v l) (hB : B ≤ w.heap.size) (hc : chainB l = true) :
    Calls Tryd.prog 11 #[v] w (SliceNumPost w.heap.size (chainL l) 0 w) := by
  have h8 := chain_len ((chainB_iff _).1 hc)
  obtain ⟨a, cap, rfl, -⟩ := h.form
  obtain ⟨N, hN⟩ : ∃ N, l.length = N := ⟨_, rfl⟩
  have HR := Lib.hid (rightChain_any h hB (by omega) hc)
  rw [hN] at h h8 HR ⊢
  have HA := Lib.hid (fun W (hW : Since w W) => h.since hW hB)
  have HN := Lib.hid (And.intro hN hB)
  have hn1 := nums_len [(N : Int)]
  have hn2 := nums_len l
  rw [hN] at hn2
  have HL := Lib.hid (And.intro hn1 hn2)
  clear h hN hB hn1 hn2 hc
  go_enter Tryd.func11, Tryd.ntmps11
  go_wp2_with (go_at_call 24; (with_reducible refine HR.out.mono ?_); rintro e w1 ⟨rfl, hb1⟩; have hs1 : Since w w1 := hb1)
  refine (nums11_any (LZ.lit1 (W := w1) (a := (N : Int))) (by simp) (by simp)).mono ?_
  rintro e w2 ⟨A2, n2, c2, rfl, hh2, hb2⟩
  have hs2 : Since w w2 := (hs1.alloc _).trans hb2
  go_wp2_with fail
  refine (nums11_any (HA.out _ hs2) (Nat.le_trans HN.out.2 hs2.size_) (by rw [HN.out.1]; omega)).mono ?_
  rintro e w3 ⟨A3, n3, c3, rfl, hh3, hb3⟩
  have hs3 : Since w w3 := hs2.trans hb3
  have ho2 : Own w3 _ _ _ := hh2.own.below hb3
  go_wp2_with fail
  refine (concat_twoB (w := w3.alloc _) (g := w3.heap.size) (ho2.alloc _) (hh3.own.alloc _) (Whole.new w3 _ _) (by have := HL.out.1; simp at this ⊢; omega) (by have := HL.out.2; omega)).mono ?_
  rintro e w4 ⟨v4, rfl, hr4, hb4⟩
  obtain ⟨A, n, c, rfl, hh⟩ := (own_row.2 hr4).has
  go_wp2
  go_ret2
  refine ⟨A, n, c, rfl, ?_, (hs3.alloc _).trans hb4⟩
  have e : ([(N : Int)].flatMap numL ++ l.flatMap numL) = chainL l := by unfold chainL; rw [HN.out.1]; simp
  rw [e] at hh
  exact hh.lower (Nat.le_trans hs3.size_ (by simp))
end Go.Proofs.YtimmnmidhjbanaaDoor
