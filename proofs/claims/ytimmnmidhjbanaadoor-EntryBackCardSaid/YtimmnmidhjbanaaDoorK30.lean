/- Numbers and texts out of a reader. -/
import Derived.Test.YtimmnmidhjbanaaDoorK18
import Derived.Test.YtimmnmidhjbanaaDoorK29
namespace Go.Proofs.YtimmnmidhjbanaaDoor
open Go.RowKit
theorem Rd.drop {w : World} {B b off : Nat} {l : List UInt8} (h : Rd w B (some ⟨b, off, none⟩) l) (k : Nat) : Rd w B (some ⟨b, off + k, none⟩) (l.drop k) := by
  rcases h with rfl | ⟨b', off', he, hb, hc⟩
  · exact .inl (by simp)
  · injection he with he
    injection he with e1 e2
    subst e1; subst e2
    refine .inr ⟨b, off + k, rfl, hb, fun i hi => ?_⟩
    rw [List.length_drop] at hi
    rw [Nat.add_assoc, hc (k + i) (by omega)]
    simp
theorem Rd.take {w : World} {B : Nat} {A : Option Addr} {l : List UInt8} (h : Rd w B A l) (k : Nat) : Rd w B A (l.take k) := by
  rw [← List.take_append_drop k l] at h
  exact h.pre
section
variable {w : World} {base g : Nat} {A : Option Addr} {n c : Nat} {l : List UInt8} {e : Int}
/-- The rest is set behind k bytes. -/
theorem Rdr.rest (h : Rdr w base g A n c l e) (k : Nat) (hk : k ≤ n) {A' : Option Addr} (hr : Rd w g A' (l.drop k)) (hf : (A' = none ∧ n - k = 0 ∧ c - k = 0) ∨ ∃ b off, A' = some ⟨b, off, none⟩) :
    Rdr (w.setCell ⟨g, 1, none⟩ (.slice A' (n - k) (c - k))) base g A' (n - k) (c - k) (l.drop k) e :=
  ⟨h.whole.set_ 1 _, hr.keep fun p hp => World.cell?_setCell_other w _ _ _ (fun e => by subst e; exact absurd hp (Nat.lt_irrefl _)), by rw [List.length_drop, h.len], by have := h.cap; omega, h.lie, hf⟩
set_option maxRecDepth 100000 in
set_option maxHeartbeats 1600000 in
theorem made_upto (h : Rdr w base g A n c l 0) (most : Int) :
    Calls Tryd.prog 63 #[.pointer (some ⟨g, 0, none⟩), .int .i64 most] w fun x w' => ∃ A' n' c', x = .returned (.int .i64 ((up most l).1 : Int)) ∧ Rdr w' base g A' n' c' (l.drop (up most l).2.1) (up most l).2.2 ∧ Only g w w' := by
  have hsz : (dec 9007199254740992 0 0 l).2.1 ≤ n := by have := dec_size 9007199254740992 l; rw [h.len] at this; exact this
  have hz := dec_zero 9007199254740992 l
  have NB := Lib.hid (wnumber_any A n c l w (h.rd.more (Nat.le_of_lt h.whole.lt)) h.len)
  unfold up
  generalize dec 9007199254740992 0 0 l = d at NB hsz hz ⊢
  obtain ⟨d1, d2, d3⟩ := d
  simp only at NB hsz hz ⊢
  have c1 : w.cell? ⟨g, 1, none⟩ = some (.slice A n c) := h.whole.cell 1
  have f1 : w.frozen? ⟨g, 1, none⟩ = false := h.whole.frozen 1
  by_cases h3 : d3 = 0
  · subst h3
    clear hz
    by_cases hm : most < (d1 : Int)
    · rw [if_pos ⟨rfl, hm⟩]
      have FL := Lib.hid (made_fail h 21)
      go_enter Tryd.func63, Tryd.ntmps63
      go_wp2_with (first
        | (go_at_call 33; (with_reducible refine (made_err h).mono ?_); rintro e w' ⟨rfl, rfl⟩)
        | (go_at_call 83; (with_reducible refine NB.out.mono ?_); rintro e w' ⟨rfl, rfl⟩)
        | (go_at_call 81; (with_reducible refine FL.out.mono ?_); rintro e w' ⟨rfl, rfl⟩))
      go_ret
      exact ⟨A, n, c, rfl, h.fail 21, Only.set_ _ _ _ _⟩
    · rw [if_neg (fun hx => hm hx.2)]
      have hcap := h.cap
      have hln := h.len
      rcases h.form with ⟨rfl, rfl, rfl⟩ | ⟨b, off, rfl⟩
      · obtain rfl : d2 = 0 := by omega
        have hl0 : l = [] := List.eq_nil_of_length_eq_zero hln
        subst hl0
        go_enter Tryd.func63, Tryd.ntmps63
        go_wp2_with (first
          | (go_at_call 33; (with_reducible refine (made_err h).mono ?_); rintro e w' ⟨rfl, rfl⟩)
          | (go_at_call 83; (with_reducible refine NB.out.mono ?_); rintro e w' ⟨rfl, rfl⟩))
        go_ret
        exact ⟨_, _, _, rfl, h.rest 0 (by omega) (.inl rfl) (.inl ⟨rfl, rfl, rfl⟩), Only.set_ _ _ _ _⟩
      · by_cases hcd : c = d2
        · obtain rfl : c = n := by omega
          subst hcd
          have hd : l.drop c = [] := List.drop_of_length_le (by omega)
          go_enter Tryd.func63, Tryd.ntmps63
          go_wp2_with (first
            | (go_at_call 33; (with_reducible refine (made_err h).mono ?_); rintro e w' ⟨rfl, rfl⟩)
            | (go_at_call 83; (with_reducible refine NB.out.mono ?_); rintro e w' ⟨rfl, rfl⟩))
          go_ret
          have hx := h.rest c (Nat.le_refl _) (A' := some ⟨b, off, none⟩) (.inl hd) (.inr ⟨_, _, rfl⟩)
          simp only [Nat.sub_self] at hx
          exact ⟨_, _, _, rfl, hx, Only.set_ _ _ _ _⟩
        · have i1 : (d2 : Int) ≤ (n : Int) := by omega
          have i2 : (d2 : Int) ≤ (c : Int) := by omega
          have hrd := Lib.hid (h.rd.drop d2)
          go_enter Tryd.func63, Tryd.ntmps63
          go_wp2_with (first
            | (go_at_call 33; (with_reducible refine (made_err h).mono ?_); rintro e w' ⟨rfl, rfl⟩)
            | (go_at_call 83; (with_reducible refine NB.out.mono ?_); rintro e w' ⟨rfl, rfl⟩))
          go_ret
          exact ⟨_, _, _, rfl, h.rest d2 hsz hrd.out (.inr ⟨_, _, rfl⟩), Only.set_ _ _ _ _⟩
  · rw [if_neg (fun hx => h3 hx.1)]
    obtain ⟨rfl, rfl⟩ := hz h3
    have FL := Lib.hid (made_fail h d3)
    have e3 : (d3 == 0) = false := by rw [beq_eq_false_iff_ne]; exact h3
    have n3 : (d3 != 0) = true := by rw [bne_iff_ne]; exact h3
    clear h3 hz
    go_enter Tryd.func63, Tryd.ntmps63
    go_wp2_with (first
      | (go_at_call 33; (with_reducible refine (made_err h).mono ?_); rintro e w' ⟨rfl, rfl⟩)
      | (go_at_call 83; (with_reducible refine NB.out.mono ?_); rintro e w' ⟨rfl, rfl⟩)
      | (go_at_call 81; (with_reducible refine FL.out.mono ?_); rintro e w' ⟨rfl, rfl⟩))
    go_ret
    exact ⟨A, n, c, rfl, h.fail d3, Only.set_ _ _ _ _⟩
set_option maxRecDepth 100000 in
set_option maxHeartbeats 1600000 in
theorem made_text (h : Rdr w base g A n c l 0) (most : Int) :
    Calls Tryd.prog 98 #[.pointer (some ⟨g, 0, none⟩), .int .i64 most] w fun x w' => ∃ A' n' c', x = .returned (.string ⟨(tx most l).1.toArray⟩) ∧ Rdr w' base g A' n' c' (l.drop (tx most l).2.1) (tx most l).2.2 ∧ Only g w w' := by
  have U := made_upto h most
  have hsz := up_size most l
  have hz := up_zero most l
  rw [h.len] at hsz
  have hln := h.len
  unfold tx
  generalize up most l = d at U hsz hz ⊢
  obtain ⟨d1, d2, d3⟩ := d
  dsimp only at U hsz hz ⊢
  by_cases h3 : d3 = 0
  · subst h3
    clear hz
    rw [if_pos rfl]
    by_cases hlt : n < d2 + d1
    · rw [if_pos (by omega)]
      go_enter Tryd.func98, Tryd.ntmps98
      go_wp2_with fail
      refine U.mono ?_
      rintro e w1 ⟨A1, n1, c1, rfl, h1, hb1⟩
      clear U h
      have k1 : w1.cell? ⟨g, 1, none⟩ = some (.slice A1 n1 c1) := h1.whole.cell 1
      have f1 : w1.frozen? ⟨g, 1, none⟩ = false := h1.whole.frozen 1
      have hl1 := h1.len
      rw [List.length_drop, hln] at hl1
      have LF : Calls Tryd.prog 34 #[.pointer (some ⟨g, 0, none⟩)] w1 fun x w' => x = .returned (.int .i64 (n1 : Int)) ∧ w1 = w' := made_left h1
      have LH := Lib.hid LF
      clear LF
      have h20 := h1.fail 20
      have FL := Lib.hid (made_fail h1 20)
      have i1 : (n1 : Int) < (d1 : Int) := by omega
      obtain ⟨w2, hw2⟩ : ∃ w2, w2 = w1.setCell ⟨g, 2, none⟩ (.int .i64 20) := ⟨_, rfl⟩
      have ho2 : Only g w w2 := by rw [hw2]; exact hb1.trans (Only.set_ g 2 w1 _)
      rw [← hw2] at h20 FL
      clear hw2 hlt
      go_wp2_with (first
        | (go_at_call 34; (with_reducible refine LH.out.mono ?_); rintro e w' ⟨rfl, rfl⟩)
        | (go_at_call 81; (with_reducible refine FL.out.mono ?_); rintro e w' ⟨rfl, rfl⟩)
        | (go_at_call 33; (with_reducible refine (made_err h20).mono ?_); rintro e w' ⟨rfl, rfl⟩))
      go_ret
      exact ⟨A1, n1, c1, rfl, h20, ho2⟩
    · rw [if_neg (by omega)]
      have htk : Hid (l.drop (d2 + d1) = (l.drop d2).drop d1) := by unfold Hid; rw [List.drop_drop]
      have hlk : ((l.drop d2).take d1).length = d1 := by rw [List.length_take, List.length_drop, hln]; omega
      have hdl : (l.drop d2).length = n - d2 := by rw [List.length_drop, hln]
      rw [htk.out]
      clear htk
      generalize l.drop d2 = m at U hlk hdl ⊢
      go_enter Tryd.func98, Tryd.ntmps98
      go_wp2_with fail
      refine U.mono ?_
      rintro e w1 ⟨A1, n1, c1, rfl, h1, hb1⟩
      clear U h
      have k1 : w1.cell? ⟨g, 1, none⟩ = some (.slice A1 n1 c1) := h1.whole.cell 1
      have f1 : w1.frozen? ⟨g, 1, none⟩ = false := h1.whole.frozen 1
      have hl1 : n1 = n - d2 := by rw [← h1.len]; exact hdl
      have LF : Calls Tryd.prog 34 #[.pointer (some ⟨g, 0, none⟩)] w1 fun x w' => x = .returned (.int .i64 (n1 : Int)) ∧ w1 = w' := made_left h1
      have LH := Lib.hid LF
      clear LF
      have hcap := h1.cap
      have i1 : (d1 : Int) ≤ (n1 : Int) := by omega
      have i2 : (d1 : Int) ≤ (c1 : Int) := by omega
      have TXT := Lib.hid (text_of w1 d1 c1 (h1.rd.take d1) hlk)
      have hle : d1 ≤ n1 := by omega
      have hml := h1.len
      have HML := Lib.hid hml
      clear hml hdl
      rcases h1.form with ⟨rfl, rfl, rfl⟩ | ⟨b, off, rfl⟩
      · obtain rfl : d1 = 0 := by omega
        have tx0 := TXT.out
        clear hl1 hlt hlk
        go_wp2_with (first
          | (go_at_call 33; (with_reducible refine (made_err h1).mono ?_); rintro e w' ⟨rfl, rfl⟩)
          | (go_at_call 34; (with_reducible refine LH.out.mono ?_); rintro e w' ⟨rfl, rfl⟩))
        go_ret
        have hr := h1.rd.none_nil
        subst hr
        exact ⟨_, _, _, rfl, h1.rest 0 (by omega) (.inl rfl) (.inl ⟨rfl, rfl, rfl⟩), hb1.trans (Only.set_ _ _ _ _)⟩
      · by_cases hcd : c1 = d1
        · obtain rfl : c1 = n1 := by omega
          subst hcd
          have hd : m.drop c1 = [] := List.drop_of_length_le (by rw [HML.out]; omega)
          have HD := Lib.hid hd
          have tx0 := TXT.out
          clear hl1 hlt hlk hd
          go_wp2_with (first
            | (go_at_call 33; (with_reducible refine (made_err h1).mono ?_); rintro e w' ⟨rfl, rfl⟩)
            | (go_at_call 34; (with_reducible refine LH.out.mono ?_); rintro e w' ⟨rfl, rfl⟩))
          go_ret
          have hx := h1.rest c1 (Nat.le_refl _) (A' := some ⟨b, off, none⟩) (.inl HD.out) (.inr ⟨_, _, rfl⟩)
          simp only [Nat.sub_self] at hx
          exact ⟨_, _, _, rfl, hx, hb1.trans (Only.set_ _ _ _ _)⟩
        · have hrd := Lib.hid (h1.rd.drop d1)
          have tx0 := TXT.out
          clear hl1 hlt hlk
          go_wp2_with (first
            | (go_at_call 33; (with_reducible refine (made_err h1).mono ?_); rintro e w' ⟨rfl, rfl⟩)
            | (go_at_call 34; (with_reducible refine LH.out.mono ?_); rintro e w' ⟨rfl, rfl⟩))
          go_ret
          exact ⟨_, _, _, rfl, h1.rest d1 hle hrd.out (.inr ⟨_, _, rfl⟩), hb1.trans (Only.set_ _ _ _ _)⟩
  · rw [if_neg h3]
    obtain ⟨rfl, rfl⟩ := hz h3
    go_enter Tryd.func98, Tryd.ntmps98
    go_wp2_with fail
    refine U.mono ?_
    rintro e w1 ⟨A1, n1, c1, rfl, h1, hb1⟩
    clear U h
    have k1 : w1.cell? ⟨g, 1, none⟩ = some (.slice A1 n1 c1) := h1.whole.cell 1
    have f1 : w1.frozen? ⟨g, 1, none⟩ = false := h1.whole.frozen 1
    have hl1 := h1.len
    rw [List.length_drop, hln] at hl1
    have LF : Calls Tryd.prog 34 #[.pointer (some ⟨g, 0, none⟩)] w1 fun x w' => x = .returned (.int .i64 0) ∧ w1 = w' := by
      have := made_left h1
      rw [if_neg h3] at this
      exact this
    have LH := Lib.hid LF
    have n3 : (d3 != 0) = true := by rw [bne_iff_ne]; exact h3
    clear h3 hz LF
    go_wp2_with (first
      | (go_at_call 34; (with_reducible refine LH.out.mono ?_); rintro e w' ⟨rfl, rfl⟩)
      | (go_at_call 33; (with_reducible refine (made_err h1).mono ?_); rintro e w' ⟨rfl, rfl⟩))
    go_ret
    exact ⟨A1, n1, c1, rfl, h1, hb1⟩
end
end Go.Proofs.YtimmnmidhjbanaaDoor
