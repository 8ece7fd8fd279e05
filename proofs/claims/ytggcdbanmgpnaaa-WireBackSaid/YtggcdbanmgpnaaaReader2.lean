/- Numbers and texts out of a reader. -/
import Derived.Test.YtggcdbanmgpnaaaReader
import Derived.Test.YtggcdbanmgpnaaaText
namespace Go.Proofs.Ytggcdbanmgpnaaa
open Go.RowKit
theorem Rd.drop {w : World} {B b off : Nat} {l : List UInt8} (h : Rd w B (some ⟨b, off, none⟩) l) (k : Nat) : Rd w B (some ⟨b, off + k, none⟩) (l.drop k) := by
  rcases h with rfl | ⟨b', off', he, hb, hc⟩
  · exact .inl (by simp)
  · injection he with he
    injection he with e1 e2
    subst e1; subst e2
    refine .inr ⟨b, off + k, rfl, hb, fun i hi => ?_⟩
    rw [List.length_drop] at hi
    rw [Nat.add_assoc, hc (k + i) (by omega)]
    simp
section
variable {w : World} {base g : Nat} {A : Option Addr} {n c : Nat} {l : List UInt8} {e : Int}
/-- The rest is set behind k bytes. -/
theorem Rdr.rest (h : Rdr w base g A n c l e) (k : Nat) (hk : k ≤ n) {A' : Option Addr} (hr : Rd w g A' (l.drop k)) (hf : (A' = none ∧ n - k = 0 ∧ c - k = 0) ∨ ∃ b off, A' = some ⟨b, off, none⟩) :
    Rdr (w.setCell ⟨g, 1, none⟩ (.slice A' (n - k) (c - k))) base g A' (n - k) (c - k) (l.drop k) e :=
  ⟨h.whole.set_ 1 _, hr.keep fun p hp => World.cell?_setCell_other w _ _ _ (fun e => by subst e; exact absurd hp (Nat.lt_irrefl _)), by rw [List.length_drop, h.len], by have := h.cap; omega, h.lie, hf⟩
set_option maxRecDepth 100000 in
set_option maxHeartbeats 800000 in
theorem made_upto (h : Rdr w base g A n c l 0) (most : Nat) (hm : most ≤ 9007199254740992) :
    Calls Try.prog 31 #[.pointer (some ⟨g, 0, none⟩), .int .i64 (most : Int)] w fun x w' => ∃ A' n' c', x = .returned (.int .i64 ((dec most 0 0 l).1 : Int)) ∧ Rdr w' base g A' n' c' (l.drop (dec most 0 0 l).2.1) (dec most 0 0 l).2.2 ∧ Below base w w' := by
  have hsz : (dec most 0 0 l).2.1 ≤ n := by have := dec_size most l; rw [h.len] at this; exact this
  have NB := Lib.hid (number_any A n c most l w (h.rd.more (Nat.le_of_lt h.whole.lt)) h.len hm)
  generalize dec most 0 0 l = d at NB hsz ⊢
  obtain ⟨d1, d2, d3⟩ := d
  simp only at NB hsz ⊢
  have h2 := h.fail d3
  have hb2 : Below base w (w.setCell ⟨g, 2, none⟩ (.int .i64 d3)) := (Below.refl base w).setCell (p := ⟨g, 2, none⟩) h.lie _
  have c1 : w.cell? ⟨g, 1, none⟩ = some (.slice A n c) := h.whole.cell 1
  have FL := Lib.hid (made_fail h d3)
  obtain ⟨w2, hw2⟩ : ∃ w2, w2 = w.setCell ⟨g, 2, none⟩ (.int .i64 d3) := ⟨_, rfl⟩
  rw [← hw2] at h2 hb2 FL
  clear hw2
  have d1' : w2.cell? ⟨g, 1, none⟩ = some (.slice A n c) := h2.whole.cell 1
  have f1' : w2.frozen? ⟨g, 1, none⟩ = false := h2.whole.frozen 1
  have hmin : min (most : Int) 9007199254740992 = (most : Int) := by omega
  have hcap := h.cap
  have hlie := h2.lie
  have hln := h.len
  rcases h2.form with ⟨rfl, rfl, rfl⟩ | ⟨b, off, rfl⟩
  · obtain rfl : d2 = 0 := by omega
    have hl0 : l = [] := List.eq_nil_of_length_eq_zero hln
    subst hl0
    go_enter Try.func31, Try.ntmps31
    go_wp2_with (first
      | (go_at_call 29; (with_reducible refine (made_err h).mono ?_); rintro e w' ⟨rfl, rfl⟩)
      | (go_at_call 37; (with_reducible refine NB.out.mono ?_); rintro e w' ⟨rfl, rfl⟩)
      | (go_at_call 30; (with_reducible refine FL.out.mono ?_); rintro e w' ⟨rfl, rfl⟩))
    go_ret
    exact ⟨_, _, _, rfl, h2.rest 0 (by omega) (.inl rfl) (.inl ⟨rfl, rfl, rfl⟩), hb2.setCell (p := ⟨g, 1, none⟩) hlie _⟩
  · by_cases hcd : c = d2
    · obtain rfl : c = n := by omega
      subst hcd
      have hd : l.drop c = [] := List.drop_of_length_le (by omega)
      go_enter Try.func31, Try.ntmps31
      go_wp2_with (first
        | (go_at_call 29; (with_reducible refine (made_err h).mono ?_); rintro e w' ⟨rfl, rfl⟩)
        | (go_at_call 37; (with_reducible refine NB.out.mono ?_); rintro e w' ⟨rfl, rfl⟩)
        | (go_at_call 30; (with_reducible refine FL.out.mono ?_); rintro e w' ⟨rfl, rfl⟩))
      go_ret
      have hx := h2.rest c (Nat.le_refl _) (A' := some ⟨b, off, none⟩) (.inl hd) (.inr ⟨_, _, rfl⟩)
      simp only [Nat.sub_self] at hx
      exact ⟨_, _, _, rfl, hx, hb2.setCell (p := ⟨g, 1, none⟩) hlie _⟩
    · have i1 : (d2 : Int) ≤ (n : Int) := by omega
      have i2 : (d2 : Int) ≤ (c : Int) := by omega
      have hrd := Lib.hid (h2.rd.drop d2)
      go_enter Try.func31, Try.ntmps31
      go_wp2_with (first
        | (go_at_call 29; (with_reducible refine (made_err h).mono ?_); rintro e w' ⟨rfl, rfl⟩)
        | (go_at_call 37; (with_reducible refine NB.out.mono ?_); rintro e w' ⟨rfl, rfl⟩)
        | (go_at_call 30; (with_reducible refine FL.out.mono ?_); rintro e w' ⟨rfl, rfl⟩))
      go_ret
      exact ⟨_, _, _, rfl, h2.rest d2 hsz hrd.out (.inr ⟨_, _, rfl⟩), hb2.setCell (p := ⟨g, 1, none⟩) hlie _⟩
theorem made_num (h : Rdr w base g A n c l 0) :
    Calls Try.prog 25 #[.pointer (some ⟨g, 0, none⟩)] w fun x w' => ∃ A' n' c', x = .returned (.int .i64 ((dec 9007199254740992 0 0 l).1 : Int)) ∧ Rdr w' base g A' n' c' (l.drop (dec 9007199254740992 0 0 l).2.1) (dec 9007199254740992 0 0 l).2.2 ∧ Below base w w' := by
  have U : Calls Try.prog 31 #[.pointer (some ⟨g, 0, none⟩), .int .i64 9007199254740992] w fun x w' => ∃ A' n' c', x = .returned (.int .i64 ((dec 9007199254740992 0 0 l).1 : Int)) ∧ Rdr w' base g A' n' c' (l.drop (dec 9007199254740992 0 0 l).2.1) (dec 9007199254740992 0 0 l).2.2 ∧ Below base w w' :=
    made_upto h 9007199254740992 (Nat.le_refl _)
  generalize dec 9007199254740992 0 0 l = d at U ⊢
  have UH := Lib.hid U
  clear U
  go_enter Try.func25, Try.ntmps25
  go_wp2_with (go_at_call 31; (with_reducible refine UH.out.mono ?_); rintro e w1 ⟨A1, n1, c1, rfl, h1, hb1⟩)
  go_ret
  exact ⟨A1, n1, c1, rfl, h1, hb1⟩
set_option maxRecDepth 100000 in
set_option maxHeartbeats 800000 in
theorem made_text (m : List UInt8) (h : Rdr w base g A n c (textB m) 0) (hm : m.length ≤ 5000) :
    Calls Try.prog 26 #[.pointer (some ⟨g, 0, none⟩), .int .i64 5000] w fun x w' => ∃ A' c' l', x = .returned (.string ⟨m.toArray⟩) ∧ Rdr w' base g A' 0 c' l' 0 ∧ Below base w w' := by
  have U : Calls Try.prog 31 #[.pointer (some ⟨g, 0, none⟩), .int .i64 5000] w fun x w' => ∃ (A' : Option Addr) (n' c' : Nat), x = .returned (.int .i64 (n' : Int)) ∧ Rdr w' base g A' n' c' m 0 ∧ Below base w w' := by
    refine (made_upto h 5000 (by omega)).mono ?_
    rintro e w1 ⟨A1, n1, c1, rfl, h1, hb1⟩
    have e := dec_numB 5000 m.length (by omega) hm m
    unfold textB at h1
    unfold textB
    rw [e] at h1 ⊢
    simp only [List.drop_left] at h1 ⊢
    have hl := h1.len
    subst hl
    exact ⟨A1, _, c1, rfl, h1, hb1⟩
  go_enter Try.func26, Try.ntmps26
  go_wp2_with fail
  refine U.mono ?_
  rintro e w1 ⟨A1, n1, c1, rfl, h1, hb1⟩
  clear U h
  have d1 : w1.cell? ⟨g, 1, none⟩ = some (.slice A1 n1 c1) := h1.whole.cell 1
  have f1 : w1.frozen? ⟨g, 1, none⟩ = false := h1.whole.frozen 1
  have LF : Calls Try.prog 28 #[.pointer (some ⟨g, 0, none⟩)] w1 fun x w' => x = .returned (.int .i64 (n1 : Int)) ∧ w1 = w' := made_left h1
  have tx := text_of w1 n1 c1 h1.rd h1.len
  have hcap := h1.cap
  have hlie := h1.lie
  have hln := h1.len
  have LH := Lib.hid LF
  clear LF
  rcases h1.form with ⟨rfl, rfl, rfl⟩ | ⟨b, off, rfl⟩
  · go_wp2_with (first
      | (go_at_call 29; (with_reducible refine (made_err h1).mono ?_); rintro e w' ⟨rfl, rfl⟩)
      | (go_at_call 28; (with_reducible refine LH.out.mono ?_); rintro e w' ⟨rfl, rfl⟩))
    go_ret
    exact ⟨_, _, _, rfl, h1.rest 0 (by omega) (.inl (by rw [List.eq_nil_of_length_eq_zero hln]; rfl)) (.inl ⟨rfl, rfl, rfl⟩), hb1.setCell (p := ⟨g, 1, none⟩) hlie _⟩
  · have hd : m.drop n1 = [] := List.drop_of_length_le (by omega)
    by_cases hcd : c1 = n1
    · subst hcd
      go_wp2_with (first
        | (go_at_call 29; (with_reducible refine (made_err h1).mono ?_); rintro e w' ⟨rfl, rfl⟩)
        | (go_at_call 28; (with_reducible refine LH.out.mono ?_); rintro e w' ⟨rfl, rfl⟩))
      go_ret
      have hx := h1.rest c1 (Nat.le_refl _) (A' := some ⟨b, off, none⟩) (.inl hd) (.inr ⟨_, _, rfl⟩)
      simp only [Nat.sub_self] at hx
      exact ⟨_, _, _, rfl, hx, hb1.setCell (p := ⟨g, 1, none⟩) hlie _⟩
    · go_wp2_with (first
        | (go_at_call 29; (with_reducible refine (made_err h1).mono ?_); rintro e w' ⟨rfl, rfl⟩)
        | (go_at_call 28; (with_reducible refine LH.out.mono ?_); rintro e w' ⟨rfl, rfl⟩))
      go_ret
      have hx := h1.rest n1 (Nat.le_refl _) (A' := some ⟨b, off + n1, none⟩) (.inl hd) (.inr ⟨_, _, rfl⟩)
      simp only [Nat.sub_self] at hx
      exact ⟨_, _, _, rfl, hx, hb1.setCell (p := ⟨g, 1, none⟩) hlie _⟩
end
end Go.Proofs.Ytggcdbanmgpnaaa
