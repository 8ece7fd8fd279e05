/- What number answers, of a number's own bytes and of any: plain lists. A reader that Open handed out. -/
import Derived.Test.YtimmnmidhjbanaaDoorK18
import Derived.Test.YtimmnmidhjbanaaDoorK28
namespace Go.Proofs.YtimmnmidhjbanaaDoor
theorem dec_good (most : Nat) (hmost : most ≤ 9007199254740992) (r : List UInt8) : ∀ N i n : Nat, i ≤ 7 → n + N * 128 ^ i ≤ most → (0 < i → 0 < N) → dec most i n (numB N ++ r) = (n + N * 128 ^ i, i + (numB N).length, 0) := by
  intro N
  induction N using Nat.strongRecOn with
  | _ N ih =>
    intro i n hi hN h0
    by_cases hs : N < 128
    · rw [numB_small hs, List.singleton_append, dec, ofNat_toNat (by omega), Nat.mod_eq_of_lt hs, if_neg (by omega), if_neg (by omega), if_neg (by omega), if_pos hs]
      rfl
    · have hp : N % 128 * 128 ^ i ≤ N * 128 ^ i := Nat.mul_le_mul_right _ (Nat.mod_le _ _)
      have h7 : i ≠ 7 := by
        rintro rfl
        have : (128 : Nat) ^ 7 = 562949953421312 := rfl
        omega
      have e1 : (N % 128 + 128) % 128 = N % 128 := by omega
      have hsum : N % 128 * 128 ^ i + N / 128 * 128 ^ (i + 1) = N * 128 ^ i := by
        rw [Nat.pow_succ, ← Nat.mul_assoc, Nat.mul_right_comm, ← Nat.add_mul]
        congr 1
        omega
      rw [numB_great hs, List.cons_append, dec, ofNat_toNat (by omega), e1, if_neg (by omega), if_neg (by omega), if_neg (by omega), if_neg (by omega),
        ih (N / 128) (by omega) (i + 1) _ (by omega) (by omega) (by intro _; omega)]
      simp only [List.length_cons, Prod.mk.injEq, and_true]
      omega
theorem dec_numB (most N : Nat) (hmost : most ≤ 9007199254740992) (hN : N ≤ most) (r : List UInt8) : dec most 0 0 (numB N ++ r) = (N, (numB N).length, 0) := by
  rw [dec_good most hmost r N 0 0 (by omega) (by simpa using hN) (by omega)]
  simp
/-- What a number that was read came from. -/
def Came (most i m : Nat) (l : List UInt8) (d : Nat × Nat × Int) : Prop :=
  (d.1 = 0 ∧ d.2.1 = 0 ∧ (d.2.2 = 20 ∨ d.2.2 = 21)) ∨ ∃ t N, d.2.2 = 0 ∧ d.2.1 = i + t ∧ t ≤ l.length ∧ d.1 = m + N * 128 ^ i ∧ numB N = l.take t ∧ d.1 ≤ most ∧ (0 < i → 0 < N)
theorem dec_came (most : Nat) : ∀ (l : List UInt8) (i m : Nat), Came most i m l (dec most i m l) := by
  intro l
  induction l with
  | nil => intro i m; exact .inl ⟨rfl, rfl, .inl rfl⟩
  | cons c r ih =>
    intro i m
    have hc := c.toNat_lt
    rw [dec]
    by_cases h1 : most < m + c.toNat % 128 * 128 ^ i
    · rw [if_pos h1]; exact .inl ⟨rfl, rfl, .inr rfl⟩
    · rw [if_neg h1]
      by_cases h2 : 0 < i ∧ c.toNat = 0
      · rw [if_pos h2]; exact .inl ⟨rfl, rfl, .inr rfl⟩
      · rw [if_neg h2]
        by_cases h3 : i = 7 ∧ 128 ≤ c.toNat
        · rw [if_pos h3]; exact .inl ⟨rfl, rfl, .inr rfl⟩
        · rw [if_neg h3]
          by_cases h4 : c.toNat < 128
          · rw [if_pos h4]
            refine .inr ⟨1, c.toNat, rfl, rfl, by simp, by simp only [Nat.mod_eq_of_lt h4], ?_, by simp only; omega, fun h => by omega⟩
            rw [numB_small h4]
            simp
          · rw [if_neg h4]
            rcases ih (i + 1) (m + c.toNat % 128 * 128 ^ i) with h | ⟨t, N, q1, q2, q3, q4, q5, q6, q7⟩
            · exact .inl h
            · have hN := q7 (by omega)
              refine .inr ⟨t + 1, c.toNat % 128 + 128 * N, q1, by omega, by simp; omega, ?_, ?_, q6, fun _ => by omega⟩
              · rw [q4, Nat.pow_succ, Nat.add_mul, ← Nat.mul_assoc, Nat.mul_right_comm N, Nat.mul_comm 128 N, Nat.add_assoc, Nat.mul_right_comm N 128]
              · rw [numB_great (by omega), show (c.toNat % 128 + 128 * N) / 128 = N from by omega, q5, show (c.toNat % 128 + 128 * N) % 128 + 128 = c.toNat from by omega]
                simp
theorem dec_size (most : Nat) (l : List UInt8) : (dec most 0 0 l).2.1 ≤ l.length := by
  rcases dec_came most l 0 0 with ⟨_, h, _⟩ | ⟨t, N, _, h, h3, _⟩
  · omega
  · omega
theorem dec_zero (most : Nat) (l : List UInt8) (h : (dec most 0 0 l).2.2 ≠ 0) : (dec most 0 0 l).1 = 0 ∧ (dec most 0 0 l).2.1 = 0 := by
  rcases dec_came most l 0 0 with ⟨h1, h2, _⟩ | ⟨t, N, h1, _⟩
  · exact ⟨h1, h2⟩
  · exact absurd h1 h
theorem dec_most (most : Nat) (l : List UInt8) : (dec most 0 0 l).1 ≤ most := by
  rcases dec_came most l 0 0 with ⟨h1, _⟩ | ⟨t, N, _, _, _, _, _, h6, _⟩
  · omega
  · exact h6
/-- What Upto answers: the number, its bytes, the error. -/
def up (most : Int) (l : List UInt8) : Nat × Nat × Int :=
  if (dec 9007199254740992 0 0 l).2.2 = 0 ∧ most < ((dec 9007199254740992 0 0 l).1 : Int) then (0, 0, 21) else dec 9007199254740992 0 0 l
theorem up_most (l : List UInt8) : up 9007199254740992 l = dec 9007199254740992 0 0 l := by
  have := dec_most 9007199254740992 l
  unfold up
  rw [if_neg (by omega)]
theorem up_numB (most : Int) (N : Nat) (h1 : (N : Int) ≤ most) (h2 : N ≤ 9007199254740992) (r : List UInt8) : up most (numB N ++ r) = (N, (numB N).length, 0) := by
  unfold up
  rw [dec_numB _ N (Nat.le_refl _) h2, if_neg (by simp only; omega)]
theorem up_size (most : Int) (l : List UInt8) : (up most l).2.1 ≤ l.length := by
  unfold up
  split
  · exact Nat.zero_le _
  · exact dec_size _ l
theorem up_zero (most : Int) (l : List UInt8) (h : (up most l).2.2 ≠ 0) : (up most l).1 = 0 ∧ (up most l).2.1 = 0 := by
  unfold up at h ⊢
  split
  · exact ⟨rfl, rfl⟩
  · rename_i hn
    rw [if_neg hn] at h
    exact dec_zero _ l h
/-- What Text answers: the text, how many bytes have gone, the error. -/
def tx (most : Int) (l : List UInt8) : List UInt8 × Nat × Int :=
  if (up most l).2.2 = 0 then
    (if l.length < (up most l).2.1 + (up most l).1 then ([], (up most l).2.1, 20) else ((l.drop (up most l).2.1).take (up most l).1, (up most l).2.1 + (up most l).1, 0))
  else ([], 0, (up most l).2.2)
end Go.Proofs.YtimmnmidhjbanaaDoor
namespace Go.Proofs.YtimmnmidhjbanaaDoor
open Go.RowKit
/-- The block g holds a reader that has these bytes still to come, and this error. -/
structure Rdr (w : World) (base g : Nat) (A : Option Addr) (n c : Nat) (l : List UInt8) (e : Int) : Prop where
  whole : Whole w g 89 #[.bool true, .slice A n c, .int .i64 e]
  rd : Rd w g A l
  len : l.length = n
  cap : n ≤ c
  lie : base ≤ g
  form : (A = none ∧ n = 0 ∧ c = 0) ∨ ∃ b off, A = some ⟨b, off, none⟩
theorem Rdr.below {w w' : World} {base g : Nat} {A : Option Addr} {n c : Nat} {l : List UInt8} {e : Int} (h : Rdr w base g A n c l e) (hb : Below w.heap.size w w') : Rdr w' base g A n c l e :=
  ⟨h.whole.below hb h.whole.lt, h.rd.keep fun _ hp => hb.cell (by have := h.whole.lt; omega), h.len, h.cap, h.lie, h.form⟩
/-- Only the block g has changed. -/
structure Only (g : Nat) (w w' : World) : Prop where
  os : w'.os = w.os
  tape : w'.tape = w.tape
  output : w'.output = w.output
  size : w'.heap.size = w.heap.size
  block : ∀ k, k ≠ g → w'.heap[k]? = w.heap[k]?
theorem Only.refl (g : Nat) (w : World) : Only g w w := ⟨rfl, rfl, rfl, rfl, fun _ _ => rfl⟩
theorem Only.trans {g : Nat} {a b c : World} (h : Only g a b) (k : Only g b c) : Only g a c :=
  ⟨k.os.trans h.os, k.tape.trans h.tape, k.output.trans h.output, k.size.trans h.size, fun i hi => (k.block i hi).trans (h.block i hi)⟩
theorem Only.set_ (g i : Nat) (w : World) (u : Value) : Only g w (w.setCell ⟨g, i, none⟩ u) :=
  ⟨rfl, rfl, rfl, by simp [World.setCell], fun k hk => Below.heap_setCell w ⟨g, i, none⟩ u k hk⟩
theorem Only.drew {g : Nat} {a w : World} (h : Only g a w) : Only g a w.drew := ⟨h.os, h.tape, h.output, h.size, h.block⟩
theorem Only.below {g B : Nat} {w w' : World} (h : Only g w w') (hg : B ≤ g) : Below B w w' :=
  ⟨h.os, h.tape, h.output, Nat.le_of_eq h.size.symm, fun k hk => h.block k (by omega)⟩
theorem Only.cell {g : Nat} {w w' : World} (h : Only g w w') {p : Addr} (hp : p.block ≠ g) : w'.cell? p = w.cell? p := by
  have := h.block p.block hp
  unfold World.cell?
  rw [this]
theorem open_any (A : Option Addr) (n c : Nat) (l : List UInt8) (w : World) (h : Rd w w.heap.size A l) (hn : l.length = n) (hl : n ≤ 1000000000) :
    Calls Tryd.prog 29 #[.slice A n c] w fun e w' => ∃ g A' n' c', e = .returned (.pointer (some ⟨g, 0, none⟩)) ∧ Rdr w' w.heap.size g A' n' c' l 0 ∧ Below w.heap.size w w' := by
  go_enter Tryd.func29, Tryd.ntmps29
  go_wp2_with fail
  refine (wclone_any A n c l w h hn hl).mono ?_
  rintro e w1 ⟨A1, n1, c1, rfl, h1, hb1⟩
  have hs1 := hb1.size
  go_wp2_with fail
  go_ret
  refine ⟨_, A1, n1, c1, rfl, ⟨Whole.new _ _ _, ?_, h1.len, h1.cap, hs1, ?_⟩, hb1.alloc hs1 _⟩
  · exact h1.rd.keep fun p hp => World.cell?_alloc_lt w1 _ p hp
  · rcases h1.own.2 with ⟨h, _⟩ | ⟨g, cap, cur, h, _⟩
    · injection h with e1 e2 e3
      exact .inl ⟨e1, e2, e3⟩
    · injection h with e1 e2 e3
      exact .inr ⟨g, 0, e1⟩
section
variable {w : World} {base g : Nat} {A : Option Addr} {n c : Nat} {l : List UInt8} {e : Int}
theorem made_err (h : Rdr w base g A n c l e) : Calls Tryd.prog 33 #[.pointer (some ⟨g, 0, none⟩)] w fun x w' => x = .returned (.int .i64 e) ∧ w = w' := by
  have c0 : w.cell? ⟨g, 0, none⟩ = some (.bool true) := h.whole.cell 0
  have c2 : w.cell? ⟨g, 2, none⟩ = some (.int .i64 e) := h.whole.cell 2
  clear h
  go_enter Tryd.func33, Tryd.ntmps33
  go_wp2
  go_ret
  exact ⟨rfl, rfl⟩
theorem Rdr.fail (h : Rdr w base g A n c l e) (k : Int) : Rdr (w.setCell ⟨g, 2, none⟩ (.int .i64 k)) base g A n c l k :=
  ⟨h.whole.set_ 2 _, h.rd.keep fun p hp => World.cell?_setCell_other w _ _ _ (fun e => by subst e; exact absurd hp (Nat.lt_irrefl _)), h.len, h.cap, h.lie, h.form⟩
theorem made_fail (h : Rdr w base g A n c l 0) (k : Int) : Calls Tryd.prog 81 #[.pointer (some ⟨g, 0, none⟩), .int .i64 k] w fun x w' => x = .returned (.tuple #[]) ∧ w' = w.setCell ⟨g, 2, none⟩ (.int .i64 k) := by
  have c2 : w.cell? ⟨g, 2, none⟩ = some (.int .i64 0) := h.whole.cell 2
  have f2 : w.frozen? ⟨g, 2, none⟩ = false := h.whole.frozen 2
  go_enter Tryd.func81, Tryd.ntmps81
  go_wp2_with (go_at_call 33; (with_reducible refine (made_err h).mono ?_); rintro e w' ⟨rfl, rfl⟩)
  go_end0
  exact ⟨rfl, rfl⟩
theorem dead_fail (h : Rdr w base g A n c l e) (he : e ≠ 0) (k : Int) : Calls Tryd.prog 81 #[.pointer (some ⟨g, 0, none⟩), .int .i64 k] w fun x w' => x = .returned (.tuple #[]) ∧ w = w' := by
  have hb : (e == 0) = false := by rw [beq_eq_false_iff_ne]; exact he
  clear he
  go_enter Tryd.func81, Tryd.ntmps81
  go_wp2_with (go_at_call 33; (with_reducible refine (made_err h).mono ?_); rintro e w' ⟨rfl, rfl⟩)
  go_end0
  exact ⟨rfl, rfl⟩
theorem made_left (h : Rdr w base g A n c l e) : Calls Tryd.prog 34 #[.pointer (some ⟨g, 0, none⟩)] w fun x w' => x = .returned (.int .i64 (if e = 0 then (n : Int) else 0)) ∧ w = w' := by
  have c1 : w.cell? ⟨g, 1, none⟩ = some (.slice A n c) := h.whole.cell 1
  by_cases he : e = 0
  · rw [if_pos he]
    subst he
    go_enter Tryd.func34, Tryd.ntmps34
    go_wp2_with (go_at_call 33; (with_reducible refine (made_err h).mono ?_); rintro e w' ⟨rfl, rfl⟩)
    go_ret
    exact ⟨rfl, rfl⟩
  · rw [if_neg he]
    have hb : (e != 0) = true := by rw [bne_iff_ne]; exact he
    clear he
    go_enter Tryd.func34, Tryd.ntmps34
    go_wp2_with (go_at_call 33; (with_reducible refine (made_err h).mono ?_); rintro e w' ⟨rfl, rfl⟩)
    go_ret
    exact ⟨rfl, rfl⟩
end
end Go.Proofs.YtimmnmidhjbanaaDoor
