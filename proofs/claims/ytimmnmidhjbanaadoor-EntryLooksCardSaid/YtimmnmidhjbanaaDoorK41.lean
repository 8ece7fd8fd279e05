/- gleberef11.Same. -/
import Derived.Test.YtimmnmidhjbanaaDoorK28
namespace Go.Proofs.YtimmnmidhjbanaaDoor
open Go.RowKit
set_option linter.unusedVariables false
set_option linter.unusedSimpArgs false
section
variable {B : Nat} {kind ok x y : Int} {key val : ByteArray} {cl seq nd ep bx : Int} {kind2 ok2 x2 y2 : Int} {key2 val2 : ByteArray} {cl2 seq2 nd2 ep2 bx2 : Int} {ca : Option Addr} {cn cc : Nat} {ca2 : Option Addr} {cn2 cc2 : Nat} {l m : List Int} {w : World}
set_option maxRecDepth 100000 in
set_option maxHeartbeats 6400000 in
theorem refSame11_any (h : LZ B w (.slice ca cn cc) l) (h2 : LZ B w (.slice ca2 cn2 cc2) m) (hB : B ≤ w.heap.size) (hl : l.length ≤ 1000000) {b c : Bool} (hb : plainE (⟨kind, ok, x, y, key, val, cl, seq, nd, ep, bx⟩ : En) (⟨kind2, ok2, x2, y2, key2, val2, cl2, seq2, nd2, ep2, bx2⟩ : En) = b) (hc : sameZ l m = c) :
    Calls Tryd.prog 26 #[.agg #[.int .i64 kind, .int .i64 ok, .int .i64 x, .int .i64 y, .string key, .string val, .int .i64 cl, .int .i64 seq, .int .i64 nd, .int .i64 ep, .int .i64 bx, .slice ca cn cc], .agg #[.int .i64 kind2, .int .i64 ok2, .int .i64 x2, .int .i64 y2, .string key2, .string val2, .int .i64 cl2, .int .i64 seq2, .int .i64 nd2, .int .i64 ep2, .int .i64 bx2, .slice ca2 cn2 cc2]] w fun e w' => e = .returned (.bool (b && c)) ∧ Below w.heap.size w w' := by
  have HA := Lib.hid (fun W (hW : Since w W) => h.since hW hB)
  have HB := Lib.hid (fun W (hW : Since w W) => h2.since hW hB)
  have HC := Lib.hid hc
  have HL := Lib.hid (And.intro hl hB)
  clear h h2 hB hl hc
  by_cases h0 : kind = kind2
  rotate_left
  · obtain rfl : b = false := by rw [← hb]; unfold plainE opE; simp [h0]
    have g0 : (kind == kind2) = false := by rw [beq_eq_false_iff_ne]; exact h0
    clear hb 
    clear HA HB HL HC
    go_enter Tryd.func26, Tryd.ntmps26
    go_wp2
    go_ret
    exact ⟨rfl, ((Since.refl w).alloc _).alloc _⟩
  by_cases h1 : ok = ok2
  rotate_left
  · obtain rfl : b = false := by rw [← hb]; unfold plainE opE; simp [h1]
    have g1 : (ok == ok2) = false := by rw [beq_eq_false_iff_ne]; exact h1
    obtain rfl : kind = kind2 := h0
    clear hb 
    clear HA HB HL HC
    go_enter Tryd.func26, Tryd.ntmps26
    go_wp2
    go_ret
    exact ⟨rfl, ((Since.refl w).alloc _).alloc _⟩
  by_cases h2 : x = x2
  rotate_left
  · obtain rfl : b = false := by rw [← hb]; unfold plainE opE; simp [h2]
    have g2 : (x == x2) = false := by rw [beq_eq_false_iff_ne]; exact h2
    obtain rfl : kind = kind2 := h0
    obtain rfl : ok = ok2 := h1
    clear hb 
    clear HA HB HL HC
    go_enter Tryd.func26, Tryd.ntmps26
    go_wp2
    go_ret
    exact ⟨rfl, ((Since.refl w).alloc _).alloc _⟩
  by_cases h3 : y = y2
  rotate_left
  · obtain rfl : b = false := by rw [← hb]; unfold plainE opE; simp [h3]
    have g3 : (y == y2) = false := by rw [beq_eq_false_iff_ne]; exact h3
    obtain rfl : kind = kind2 := h0
    obtain rfl : ok = ok2 := h1
    obtain rfl : x = x2 := h2
    clear hb 
    clear HA HB HL HC
    go_enter Tryd.func26, Tryd.ntmps26
    go_wp2
    go_ret
    exact ⟨rfl, ((Since.refl w).alloc _).alloc _⟩
  by_cases h4 : key.toList = key2.toList
  rotate_left
  · obtain rfl : b = false := by rw [← hb]; unfold plainE opE; simp [h4]
    obtain rfl : kind = kind2 := h0
    obtain rfl : ok = ok2 := h1
    obtain rfl : x = x2 := h2
    obtain rfl : y = y2 := h3
    clear hb 
    clear HA HB HL HC
    go_enter Tryd.func26, Tryd.ntmps26
    go_wp2
    go_ret
    exact ⟨rfl, ((Since.refl w).alloc _).alloc _⟩
  by_cases h5 : val.toList = val2.toList
  rotate_left
  · obtain rfl : b = false := by rw [← hb]; unfold plainE opE; simp [h5]
    obtain rfl : kind = kind2 := h0
    obtain rfl : ok = ok2 := h1
    obtain rfl : x = x2 := h2
    obtain rfl : y = y2 := h3
    obtain rfl : key = key2 := (bytes_inj.1 h4)
    clear hb h4
    clear HA HB HL HC
    go_enter Tryd.func26, Tryd.ntmps26
    go_wp2
    go_ret
    exact ⟨rfl, ((Since.refl w).alloc _).alloc _⟩
  by_cases h6 : cl = cl2
  rotate_left
  · obtain rfl : b = false := by rw [← hb]; unfold plainE opE; simp [h6]
    have g6 : (cl == cl2) = false := by rw [beq_eq_false_iff_ne]; exact h6
    obtain rfl : kind = kind2 := h0
    obtain rfl : ok = ok2 := h1
    obtain rfl : x = x2 := h2
    obtain rfl : y = y2 := h3
    obtain rfl : key = key2 := (bytes_inj.1 h4)
    obtain rfl : val = val2 := (bytes_inj.1 h5)
    clear hb h4 h5
    clear HA HB HL HC
    go_enter Tryd.func26, Tryd.ntmps26
    go_wp2
    go_ret
    exact ⟨rfl, ((Since.refl w).alloc _).alloc _⟩
  by_cases h7 : seq = seq2
  rotate_left
  · obtain rfl : b = false := by rw [← hb]; unfold plainE opE; simp [h7]
    have g7 : (seq == seq2) = false := by rw [beq_eq_false_iff_ne]; exact h7
    obtain rfl : kind = kind2 := h0
    obtain rfl : ok = ok2 := h1
    obtain rfl : x = x2 := h2
    obtain rfl : y = y2 := h3
    obtain rfl : key = key2 := (bytes_inj.1 h4)
    obtain rfl : val = val2 := (bytes_inj.1 h5)
    obtain rfl : cl = cl2 := h6
    clear hb h4 h5
    clear HA HB HL HC
    go_enter Tryd.func26, Tryd.ntmps26
    go_wp2
    go_ret
    exact ⟨rfl, ((Since.refl w).alloc _).alloc _⟩
  by_cases h8 : nd = nd2
  rotate_left
  · obtain rfl : b = false := by rw [← hb]; unfold plainE opE; simp [h8]
    have g8 : (nd == nd2) = false := by rw [beq_eq_false_iff_ne]; exact h8
    obtain rfl : kind = kind2 := h0
    obtain rfl : ok = ok2 := h1
    obtain rfl : x = x2 := h2
    obtain rfl : y = y2 := h3
    obtain rfl : key = key2 := (bytes_inj.1 h4)
    obtain rfl : val = val2 := (bytes_inj.1 h5)
    obtain rfl : cl = cl2 := h6
    obtain rfl : seq = seq2 := h7
    clear hb h4 h5
    clear HA HB HL HC
    go_enter Tryd.func26, Tryd.ntmps26
    go_wp2
    go_ret
    exact ⟨rfl, ((Since.refl w).alloc _).alloc _⟩
  by_cases h9 : ep = ep2
  rotate_left
  · obtain rfl : b = false := by rw [← hb]; unfold plainE opE; simp [h9]
    have g9 : (ep == ep2) = false := by rw [beq_eq_false_iff_ne]; exact h9
    obtain rfl : kind = kind2 := h0
    obtain rfl : ok = ok2 := h1
    obtain rfl : x = x2 := h2
    obtain rfl : y = y2 := h3
    obtain rfl : key = key2 := (bytes_inj.1 h4)
    obtain rfl : val = val2 := (bytes_inj.1 h5)
    obtain rfl : cl = cl2 := h6
    obtain rfl : seq = seq2 := h7
    obtain rfl : nd = nd2 := h8
    clear hb h4 h5
    clear HA HB HL HC
    go_enter Tryd.func26, Tryd.ntmps26
    go_wp2
    go_ret
    exact ⟨rfl, ((Since.refl w).alloc _).alloc _⟩
  by_cases h10 : bx = bx2
  rotate_left
  · obtain rfl : b = false := by rw [← hb]; unfold plainE opE; simp [h10]
    have g10 : (bx == bx2) = false := by rw [beq_eq_false_iff_ne]; exact h10
    obtain rfl : kind = kind2 := h0
    obtain rfl : ok = ok2 := h1
    obtain rfl : x = x2 := h2
    obtain rfl : y = y2 := h3
    obtain rfl : key = key2 := (bytes_inj.1 h4)
    obtain rfl : val = val2 := (bytes_inj.1 h5)
    obtain rfl : cl = cl2 := h6
    obtain rfl : seq = seq2 := h7
    obtain rfl : nd = nd2 := h8
    obtain rfl : ep = ep2 := h9
    clear hb h4 h5
    clear HA HB HL HC
    go_enter Tryd.func26, Tryd.ntmps26
    go_wp2
    go_ret
    exact ⟨rfl, ((Since.refl w).alloc _).alloc _⟩
  obtain rfl : b = true := by rw [← hb, plainE_iff]; simp only [En.mk.injEq]; exact ⟨h0, h1, h2, h3, (bytes_inj.1 h4), (bytes_inj.1 h5), h6, h7, h8, h9, h10⟩
  obtain rfl : kind = kind2 := h0
  obtain rfl : ok = ok2 := h1
  obtain rfl : x = x2 := h2
  obtain rfl : y = y2 := h3
  obtain rfl : key = key2 := (bytes_inj.1 h4)
  obtain rfl : val = val2 := (bytes_inj.1 h5)
  obtain rfl : cl = cl2 := h6
  obtain rfl : seq = seq2 := h7
  obtain rfl : nd = nd2 := h8
  obtain rfl : ep = ep2 := h9
  obtain rfl : bx = bx2 := h10
  clear hb h4 h5
  obtain ⟨w0, hw0⟩ : ∃ w0, w0 = (w.alloc (.cells #[.int .i64 kind, .int .i64 ok, .int .i64 x, .int .i64 y, .string key, .string val, .int .i64 cl, .int .i64 seq, .int .i64 nd, .int .i64 ep, .int .i64 bx, .slice ca cn cc] 28)).alloc (.cells #[.int .i64 kind, .int .i64 ok, .int .i64 x, .int .i64 y, .string key, .string val, .int .i64 cl, .int .i64 seq, .int .i64 nd, .int .i64 ep, .int .i64 bx, .slice ca2 cn2 cc2] 28) := ⟨_, rfl⟩
  have hs0 : Since w w0 := by rw [hw0]; exact ((Since.refl w).alloc _).alloc _
  have wh0 : Whole w0 (w.heap.size) 28 #[.int .i64 kind, .int .i64 ok, .int .i64 x, .int .i64 y, .string key, .string val, .int .i64 cl, .int .i64 seq, .int .i64 nd, .int .i64 ep, .int .i64 bx, .slice ca cn cc] := by rw [hw0]; exact (Whole.new w _ _).alloc _
  have wh1 : Whole w0 (w.heap.size + 1) 28 #[.int .i64 kind, .int .i64 ok, .int .i64 x, .int .i64 y, .string key, .string val, .int .i64 cl, .int .i64 seq, .int .i64 nd, .int .i64 ep, .int .i64 bx, .slice ca2 cn2 cc2] := by rw [hw0]; exact (Whole.new (w.alloc _) _ _).at_ (by simp)
  have HW := Lib.hid hw0
  have c0_0 := box_cell wh0 0 (.int .i64 kind) rfl
  have c0_1 := box_cell wh0 1 (.int .i64 ok) rfl
  have c0_2 := box_cell wh0 2 (.int .i64 x) rfl
  have c0_3 := box_cell wh0 3 (.int .i64 y) rfl
  have c0_4 := box_cell wh0 4 (.string key) rfl
  have c0_5 := box_cell wh0 5 (.string val) rfl
  have c0_6 := box_cell wh0 6 (.int .i64 cl) rfl
  have c0_7 := box_cell wh0 7 (.int .i64 seq) rfl
  have c0_8 := box_cell wh0 8 (.int .i64 nd) rfl
  have c0_9 := box_cell wh0 9 (.int .i64 ep) rfl
  have c0_10 := box_cell wh0 10 (.int .i64 bx) rfl
  have c0_11 := box_cell wh0 11 (.slice ca cn cc) rfl
  have c1_0 := box_cell wh1 0 (.int .i64 kind) rfl
  have c1_1 := box_cell wh1 1 (.int .i64 ok) rfl
  have c1_2 := box_cell wh1 2 (.int .i64 x) rfl
  have c1_3 := box_cell wh1 3 (.int .i64 y) rfl
  have c1_4 := box_cell wh1 4 (.string key) rfl
  have c1_5 := box_cell wh1 5 (.string val) rfl
  have c1_6 := box_cell wh1 6 (.int .i64 cl) rfl
  have c1_7 := box_cell wh1 7 (.int .i64 seq) rfl
  have c1_8 := box_cell wh1 8 (.int .i64 nd) rfl
  have c1_9 := box_cell wh1 9 (.int .i64 ep) rfl
  have c1_10 := box_cell wh1 10 (.int .i64 bx) rfl
  have c1_11 := box_cell wh1 11 (.slice ca2 cn2 cc2) rfl
  have hsr := Since.refl w0
  have hsd := hsr.drew
  clear hw0 wh0 wh1
  go_enter Tryd.func26, Tryd.ntmps26
  go_wp2_with fail
  rw [← HW.out]
  go_wp2_with (go_at_call 14; (with_reducible refine (sameList_any (HA.out _ hs0) (HB.out _ hs0) (Nat.le_trans HL.out.2 hs0.size_) HL.out.1 HC.out).mono ?_); rintro e w3 ⟨rfl, hb3⟩)
  go_ret
  exact ⟨by simp, hs0.trans hb3⟩
end
end Go.Proofs.YtimmnmidhjbanaaDoor
