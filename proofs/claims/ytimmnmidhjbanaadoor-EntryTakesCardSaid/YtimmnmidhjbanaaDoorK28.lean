/- The document's own reader: Upto and Text. -/
import Derived.Test.YtimmnmidhjbanaaDoorK27
namespace Go.Proofs.YtimmnmidhjbanaaDoor
open Go.RowKit
/-- Where a slice of bytes that came in may lie. -/
def Seen (A : Option Addr) (n c : Nat) : Prop := (A = none ∧ n = 0 ∧ c = 0) ∨ ∃ ad, A = some ad ∧ (c = 0 ∨ ∃ g off, ad = ⟨g, off, none⟩)
/-- What a call of the document's reader answers, and what it leaves. -/
def RPost (w : World) (B q : Nat) (A : Option Addr) (n c : Nat) (b : List UInt8) (x : Value) (l' : List UInt8) (e' : Int) (y : Ending) (w' : World) : Prop :=
  y = .returned x ∧ ∃ k', RRd w' B q A n c b k' e' ∧ (e' = 0 → b.drop k' = l') ∧ Only q w w'
section
variable {w : World} {B q : Nat} {A : Option Addr} {n c : Nat} {b : List UInt8} {k : Nat} {e : Int}
theorem rnum_post (h : RRd w B q A n c b k 0) (hn : n ≤ 1000000) :
    Calls Tryd.prog 60 #[.pointer (some ⟨q, 0, none⟩)] w (RPost w B q A n c b (.int .i64 ((dec 9007199254740992 0 0 (b.drop k)).1 : Int)) ((b.drop k).drop (dec 9007199254740992 0 0 (b.drop k)).2.1) (dec 9007199254740992 0 0 (b.drop k)).2.2) := by
  refine (rnum_good h hn).mono ?_
  rintro x w' ⟨rfl, h1, ho⟩
  exact ⟨rfl, _, h1, fun _ => by rw [List.drop_drop], ho⟩
set_option maxRecDepth 100000 in
set_option maxHeartbeats 1600000 in
theorem rupto_good (h : RRd w B q A n c b k 0) (hn : n ≤ 1000000) (most : Int) :
    Calls Tryd.prog 66 #[.pointer (some ⟨q, 0, none⟩), .int .i64 most] w (RPost w B q A n c b (.int .i64 ((up most (b.drop k)).1 : Int)) ((b.drop k).drop (up most (b.drop k)).2.1) (up most (b.drop k)).2.2) := by
  have U := rnum_post h hn
  have hz := dec_zero 9007199254740992 (b.drop k)
  unfold up
  generalize b.drop k = l at U hz ⊢
  generalize dec 9007199254740992 0 0 l = d at U hz ⊢
  obtain ⟨d1, d2, d3⟩ := d
  dsimp only at U hz ⊢
  by_cases h3 : d3 = 0
  · subst h3
    clear hz
    by_cases hm : most < (d1 : Int)
    · rw [if_pos ⟨rfl, hm⟩]
      go_enter Tryd.func66, Tryd.ntmps66
      go_wp2_with fail
      refine U.mono ?_
      rintro y w1 ⟨rfl, k', h1, hl, ho⟩
      have HL := Lib.hid hl
      have c2 := h1.c2
      have f2 : w1.frozen? ⟨q, 2, none⟩ = false := h1.whole.frozen 2
      clear U h hl
      go_wp2
      go_ret
      exact ⟨rfl, k', h1.fail 21, (fun h => absurd h (by decide)), ho.trans (Only.set_ _ _ _ _)⟩
    · rw [if_neg (fun hx => hm hx.2)]
      go_enter Tryd.func66, Tryd.ntmps66
      go_wp2_with fail
      refine U.mono ?_
      rintro y w1 ⟨rfl, k', h1, hl, ho⟩
      have HL := Lib.hid hl
      have c2 := h1.c2
      clear U h hl
      go_wp2
      go_ret
      exact ⟨rfl, k', h1, fun _ => HL.out trivial, ho⟩
  · rw [if_neg (fun hx => h3 hx.1)]
    obtain ⟨rfl, rfl⟩ := hz h3
    have e3 : (d3 == 0) = false := by rw [beq_eq_false_iff_ne]; exact h3
    clear h3 hz
    go_enter Tryd.func66, Tryd.ntmps66
    go_wp2_with fail
    refine U.mono ?_
    rintro y w1 ⟨rfl, k', h1, hl, ho⟩
    have HL := Lib.hid hl
    have c2 := h1.c2
    clear U h hl
    go_wp2
    go_ret
    exact ⟨rfl, k', h1, HL.out, ho⟩
theorem rupto_dead (h : RRd w B q A n c b k e) (he : e ≠ 0) (most : Int) :
    Calls Tryd.prog 66 #[.pointer (some ⟨q, 0, none⟩), .int .i64 most] w fun x w' => x = .returned (.int .i64 0) ∧ w = w' := by
  have c2 := h.c2
  have hb : (e == 0) = false := by rw [beq_eq_false_iff_ne]; exact he
  have ND := Lib.hid (rnum_dead h he)
  clear h he
  go_enter Tryd.func66, Tryd.ntmps66
  go_wp2_with fail
  refine ND.out.mono ?_
  rintro y w1 ⟨rfl, rfl⟩
  go_wp2
  go_ret
  exact ⟨rfl, rfl⟩
theorem rtext_dead (h : RRd w B q A n c b k e) (he : e ≠ 0) (most : Int) :
    Calls Tryd.prog 82 #[.pointer (some ⟨q, 0, none⟩), .int .i64 most] w fun x w' => x = .returned (.string ⟨#[]⟩) ∧ w = w' := by
  have c2 := h.c2
  have hb : (e != 0) = true := by rw [bne_iff_ne]; exact he
  have ND := Lib.hid (rupto_dead h he most)
  clear h he
  go_enter Tryd.func82, Tryd.ntmps82
  go_wp2_with fail
  refine ND.out.mono ?_
  rintro y w1 ⟨rfl, rfl⟩
  go_wp2
  go_ret
  exact ⟨rfl, rfl⟩
set_option maxRecDepth 100000 in
set_option maxHeartbeats 3200000 in
theorem rtext_good (h : RRd w B q A n c b k 0) (hn : n ≤ 1000000) (hA : Seen A n c) (most : Int) :
    Calls Tryd.prog 82 #[.pointer (some ⟨q, 0, none⟩), .int .i64 most] w (RPost w B q A n c b (.string ⟨(tx most (b.drop k)).1.toArray⟩) ((b.drop k).drop (tx most (b.drop k)).2.1) (tx most (b.drop k)).2.2) := by
  have U := rupto_good h hn most
  have hz := up_zero most (b.drop k)
  have hsz := up_size most (b.drop k)
  unfold tx
  generalize b.drop k = l at U hz hsz ⊢
  generalize up most l = d at U hz hsz ⊢
  obtain ⟨d1, d2, d3⟩ := d
  dsimp only at U hz hsz ⊢
  by_cases h3 : d3 = 0
  · subst h3
    clear hz
    rw [if_pos rfl]
    by_cases hlt : l.length < d2 + d1
    · rw [if_pos hlt]
      go_enter Tryd.func82, Tryd.ntmps82
      go_wp2_with fail
      refine U.mono ?_
      rintro y w1 ⟨rfl, k', h1, hl, ho⟩
      have hl2 := congrArg List.length (hl rfl)
      rw [List.length_drop, List.length_drop, h1.len] at hl2
      have hk := h1.le
      have c0 := h1.c0
      have c1 := h1.c1
      have c2 := h1.c2
      have f2 : w1.frozen? ⟨q, 2, none⟩ = false := h1.whole.frozen 2
      have s1 : IntKind.i64.wrap ((n : Int) - (k' : Int)) = ((n - k' : Nat) : Int) := by rw [IntWalk.i64_in _ (by omega)]; omega
      obtain ⟨r, hr⟩ : ∃ r, r = n - k' := ⟨_, rfl⟩
      have i1 : (r : Int) < (d1 : Int) := by omega
      rw [← hr] at s1
      clear U h hl hlt hl2 hr hsz hk
      go_wp2
      go_quiet (fail)
      go_wp2
      go_ret
      exact ⟨rfl, k', (h1.drewN _).fail 20, (fun h => absurd h (by decide)), (ho.drewN _).trans (Only.set_ _ _ _ _)⟩
    · rw [if_neg hlt]
      have htk : (l.drop (d2 + d1)) = (l.drop d2).drop d1 := by rw [List.drop_drop]
      have hlk : ((l.drop d2).take d1).length = d1 := by rw [List.length_take, List.length_drop]; omega
      have hdl : (l.drop d2).length = l.length - d2 := by rw [List.length_drop]
      rw [htk]
      clear htk
      have hge : d1 ≤ l.length - d2 := by omega
      generalize l.length - d2 = ll at hdl hge
      generalize l.drop d2 = m at U hlk hdl ⊢
      go_enter Tryd.func82, Tryd.ntmps82
      go_wp2_with fail
      refine U.mono ?_
      rintro y w1 ⟨rfl, k', h1, hl, ho⟩
      have hl0 := hl rfl
      have hl2 := congrArg List.length hl0
      rw [List.length_drop, h1.len, hdl] at hl2
      have hk := h1.le
      have hcap := h1.cap
      have c0 := h1.c0
      have c1 := h1.c1
      have c2 := h1.c2
      have f1 : w1.frozen? ⟨q, 1, none⟩ = false := h1.whole.frozen 1
      have s1 : IntKind.i64.wrap ((n : Int) - (k' : Int)) = ((n - k' : Nat) : Int) := by rw [IntWalk.i64_in _ (by omega)]; omega
      obtain ⟨r, hr⟩ : ∃ r, r = n - k' := ⟨_, rfl⟩
      have i1 : ¬ (r : Int) < (d1 : Int) := by omega
      have s2 : IntKind.i64.wrap ((k' : Int) + (d1 : Int)) = ((k' + d1 : Nat) : Int) := by rw [IntWalk.i64_in _ (by omega)]; omega
      rw [← hr] at s1
      have HK := Lib.hid (show k' + d1 ≤ n by omega)
      have HD : Hid (b.drop (k' + d1) = m.drop d1) := by unfold Hid; rw [← hl0, List.drop_drop]
      rcases hA with ⟨rfl, rfl, rfl⟩ | ⟨ad, rfl, hA⟩
      · obtain rfl : k' = 0 := by omega
        obtain rfl : d1 = 0 := by omega
        have TX := fun j => text_of (w1.drewN j) 0 0 (show Rd (w1.drewN j) B none (m.take 0) from .inl rfl) hlk
        clear U h hl hlt hl0 hl2 hr hsz hk hlk hdl hge
        go_wp2
        go_quiet (fail)
        go_wp2
        go_quiet (fail)
        go_wp2
        go_ret
        exact ⟨rfl, 0, (h1.drewN _).go 0 (by omega), fun _ => HD.out, (ho.drewN _).trans (Only.set_ _ _ _ _)⟩
      · by_cases hck : c = k'
        · obtain rfl : d1 = 0 := by omega
          have TX := fun j => text_of (w1.drewN j) 0 0 (show Rd (w1.drewN j) B (some ad) (m.take 0) from .inl rfl) hlk
          obtain rfl : c = n := by omega
          subst hck
          clear U h hl hlt hl0 hl2 hr hsz hk hlk hdl hge
          go_wp2
          go_quiet (fail)
          go_wp2
          go_quiet (fail)
          go_wp2
          go_ret
          exact ⟨rfl, c, (h1.drewN _).go c (by omega), fun _ => HD.out, (ho.drewN _).trans (Only.set_ _ _ _ _)⟩
        · obtain ⟨gg, off, rfl⟩ : ∃ g off, ad = ⟨g, off, none⟩ := by
            rcases hA with h0 | h
            · omega
            · exact h
          have hrd : Rd w1 B (some ⟨gg, off + k', none⟩) (m.take d1) := by rw [← hl0]; exact (h1.rd.drop k').take d1
          have TX := fun j => text_of (w1.drewN j) d1 (c - k') (show Rd (w1.drewN j) B (some ⟨gg, off + k', none⟩) (m.take d1) from hrd) hlk
          have i2 : (k' : Int) ≤ (c : Int) := by omega
          have i3 : ((k' + d1 : Nat) : Int) ≤ (c : Int) := by omega
          have i4 : k' + d1 - k' = d1 := by omega
          have i5 : ¬ k' = c := fun h => hck h.symm
          clear U h hl hlt hl0 hl2 hr hsz hk hlk hdl hge hrd hck
          go_wp2
          go_quiet (fail)
          go_wp2
          go_quiet (fail)
          go_wp2
          go_ret
          exact ⟨rfl, k' + d1, (h1.drewN _).go (k' + d1) HK.out, fun _ => HD.out, (ho.drewN _).trans (Only.set_ _ _ _ _)⟩
  · rw [if_neg h3]
    obtain ⟨rfl, rfl⟩ := hz h3
    have n3 : (d3 != 0) = true := by rw [bne_iff_ne]; exact h3
    clear h3 hz
    go_enter Tryd.func82, Tryd.ntmps82
    go_wp2_with fail
    refine U.mono ?_
    rintro y w1 ⟨rfl, k', h1, hl, ho⟩
    have HL := Lib.hid hl
    have c2 := h1.c2
    clear U h hl
    go_wp2
    go_ret
    exact ⟨rfl, k', h1, HL.out, ho⟩
end
end Go.Proofs.YtimmnmidhjbanaaDoor
