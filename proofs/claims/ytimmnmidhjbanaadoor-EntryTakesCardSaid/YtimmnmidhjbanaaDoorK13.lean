/- wire.Text and gleberef01.Text. What number answers, of a number's own bytes and of any: plain lists. A reader that Open handed out. The law's own Stays: what was lent is as it was. The walk of the law WireSums: the sum of any bytes is the document's; with one bit turned it is another one. The walk of the law WireNumbers: any number's and any text's bytes are the document's. -/
import Derived.Test.YtimmnmidhjbanaaDoorK11
import Derived.Test.YtimmnmidhjbanaaDoorK12
import Derived.Lib.SlBytesConst
import Derived.Deep.RegionHeld3
namespace Go.Proofs.YtimmnmidhjbanaaDoor
open Go.RowKit
def textB (l : List UInt8) : List UInt8 := numB l.length ++ l
set_option maxRecDepth 100000 in
theorem text_good (s : ByteArray) (w : World) (h : (s.size : Int) ≤ 131072) :
    Calls Tryd.prog 95 #[.string s] w (SliceNumPost w.heap.size (textB s.data.toList) 0 w) := by
  have hsz := Lib.hid (show s.data.toList.length = s.size by simp)
  go_enter Tryd.func95, Tryd.ntmps95
  go_wp2_with fail
  refine (appendNum_at w.heap.size none 0 0 [] _ w (Has.nil _ _) (Nat.le_refl _) (by omega) (by omega) (by omega)).mono ?_
  rintro e w1 ⟨A1, n1, c1, rfl, h1, hb1⟩
  have hs1 := hb1.size
  have hl1 : (([] ++ numB ((s.size : Int)).toNat) : List UInt8).length ≤ 9 := by
    rw [List.nil_append]
    exact numB_le (by omega)
  go_wp2_with (at_builtin; refine wpList_grow _ rfl (.tmp 9) (.tmp 10) _ rfl w.heap.size _ _ rfl h1.own _ s.data.toList rfl (src_of_text _ s) (by rw [hsz.out]; omega) hs1 ?_; intro A2 n2 c2 w2 h2 hb2)
  go_ret2
  refine ⟨A2, n2, c2, rfl, ?_, hb1.trans hb2⟩
  have e : ((s.size : Int)).toNat = s.data.toList.length := by rw [hsz.out]; simp
  rw [e] at h2
  exact h2
end Go.Proofs.YtimmnmidhjbanaaDoor
namespace Go.Proofs.YtimmnmidhjbanaaDoor
/-- What a number that was read came from. -/
def Came (most i m : Nat) (l : List UInt8) (d : Nat × Nat × Int) : Prop :=
  (d.1 = 0 ∧ d.2.1 = 0 ∧ (d.2.2 = 20 ∨ d.2.2 = 21)) ∨ ∃ t N, d.2.2 = 0 ∧ d.2.1 = i + t ∧ t ≤ l.length ∧ d.1 = m + N * 128 ^ i ∧ numB N = l.take t ∧ d.1 ≤ most ∧ (0 < i → 0 < N)
theorem dec_came (most : Nat) : ∀ (l : List UInt8) (i m : Nat), Came most i m l (dec most i m l) := by
  intro l
  induction l with
  | nil => intro i m; exact .inl ⟨rfl, rfl, .inl rfl⟩
  | cons c r ih =>
    intro i m
    have hc := c.toNat_lt
    rw [dec]
    by_cases h1 : most < m + c.toNat % 128 * 128 ^ i
    · rw [if_pos h1]; exact .inl ⟨rfl, rfl, .inr rfl⟩
    · rw [if_neg h1]
      by_cases h2 : 0 < i ∧ c.toNat = 0
      · rw [if_pos h2]; exact .inl ⟨rfl, rfl, .inr rfl⟩
      · rw [if_neg h2]
        by_cases h3 : i = 7 ∧ 128 ≤ c.toNat
        · rw [if_pos h3]; exact .inl ⟨rfl, rfl, .inr rfl⟩
        · rw [if_neg h3]
          by_cases h4 : c.toNat < 128
          · rw [if_pos h4]
            refine .inr ⟨1, c.toNat, rfl, rfl, by simp, by simp only [Nat.mod_eq_of_lt h4], ?_, by simp only; omega, fun h => by omega⟩
            rw [numB_small h4]
            simp
          · rw [if_neg h4]
            rcases ih (i + 1) (m + c.toNat % 128 * 128 ^ i) with h | ⟨t, N, q1, q2, q3, q4, q5, q6, q7⟩
            · exact .inl h
            · have hN := q7 (by omega)
              refine .inr ⟨t + 1, c.toNat % 128 + 128 * N, q1, by omega, by simp; omega, ?_, ?_, q6, fun _ => by omega⟩
              · rw [q4, Nat.pow_succ, Nat.add_mul, ← Nat.mul_assoc, Nat.mul_right_comm N, Nat.mul_comm 128 N, Nat.add_assoc, Nat.mul_right_comm N 128]
              · rw [numB_great (by omega), show (c.toNat % 128 + 128 * N) / 128 = N from by omega, q5, show (c.toNat % 128 + 128 * N) % 128 + 128 = c.toNat from by omega]
                simp
theorem dec_size (most : Nat) (l : List UInt8) : (dec most 0 0 l).2.1 ≤ l.length := by
  rcases dec_came most l 0 0 with ⟨_, h, _⟩ | ⟨t, N, _, h, h3, _⟩
  · omega
  · omega
theorem dec_zero (most : Nat) (l : List UInt8) (h : (dec most 0 0 l).2.2 ≠ 0) : (dec most 0 0 l).1 = 0 ∧ (dec most 0 0 l).2.1 = 0 := by
  rcases dec_came most l 0 0 with ⟨h1, h2, _⟩ | ⟨t, N, h1, _⟩
  · exact ⟨h1, h2⟩
  · exact absurd h1 h
theorem dec_most (most : Nat) (l : List UInt8) : (dec most 0 0 l).1 ≤ most := by
  rcases dec_came most l 0 0 with ⟨h1, _⟩ | ⟨t, N, _, _, _, _, _, h6, _⟩
  · omega
  · exact h6
/-- What Upto answers: the number, its bytes, the error. -/
def up (most : Int) (l : List UInt8) : Nat × Nat × Int :=
  if (dec 9007199254740992 0 0 l).2.2 = 0 ∧ most < ((dec 9007199254740992 0 0 l).1 : Int) then (0, 0, 21) else dec 9007199254740992 0 0 l
theorem up_most (l : List UInt8) : up 9007199254740992 l = dec 9007199254740992 0 0 l := by
  have := dec_most 9007199254740992 l
  unfold up
  rw [if_neg (by omega)]
theorem up_size (most : Int) (l : List UInt8) : (up most l).2.1 ≤ l.length := by
  unfold up
  split
  · exact Nat.zero_le _
  · exact dec_size _ l
theorem up_zero (most : Int) (l : List UInt8) (h : (up most l).2.2 ≠ 0) : (up most l).1 = 0 ∧ (up most l).2.1 = 0 := by
  unfold up at h ⊢
  split
  · exact ⟨rfl, rfl⟩
  · rename_i hn
    rw [if_neg hn] at h
    exact dec_zero _ l h
/-- What Text answers: the text, how many bytes have gone, the error. -/
def tx (most : Int) (l : List UInt8) : List UInt8 × Nat × Int :=
  if (up most l).2.2 = 0 then
    (if l.length < (up most l).2.1 + (up most l).1 then ([], (up most l).2.1, 20) else ((l.drop (up most l).2.1).take (up most l).1, (up most l).2.1 + (up most l).1, 0))
  else ([], 0, (up most l).2.2)
end Go.Proofs.YtimmnmidhjbanaaDoor
namespace Go.Proofs.YtimmnmidhjbanaaDoor
open Go.RowKit
/-- The block g holds a reader that has these bytes still to come, and this error. -/
structure Rdr (w : World) (base g : Nat) (A : Option Addr) (n c : Nat) (l : List UInt8) (e : Int) : Prop where
  whole : Whole w g 89 #[.bool true, .slice A n c, .int .i64 e]
  rd : Rd w g A l
  len : l.length = n
  cap : n ≤ c
  lie : base ≤ g
  form : (A = none ∧ n = 0 ∧ c = 0) ∨ ∃ b off, A = some ⟨b, off, none⟩
theorem Rdr.below {w w' : World} {base g : Nat} {A : Option Addr} {n c : Nat} {l : List UInt8} {e : Int} (h : Rdr w base g A n c l e) (hb : Below w.heap.size w w') : Rdr w' base g A n c l e :=
  ⟨h.whole.below hb h.whole.lt, h.rd.keep fun _ hp => hb.cell (by have := h.whole.lt; omega), h.len, h.cap, h.lie, h.form⟩
/-- Only the block g has changed. -/
structure Only (g : Nat) (w w' : World) : Prop where
  os : w'.os = w.os
  tape : w'.tape = w.tape
  output : w'.output = w.output
  size : w'.heap.size = w.heap.size
  block : ∀ k, k ≠ g → w'.heap[k]? = w.heap[k]?
theorem Only.refl (g : Nat) (w : World) : Only g w w := ⟨rfl, rfl, rfl, rfl, fun _ _ => rfl⟩
theorem Only.trans {g : Nat} {a b c : World} (h : Only g a b) (k : Only g b c) : Only g a c :=
  ⟨k.os.trans h.os, k.tape.trans h.tape, k.output.trans h.output, k.size.trans h.size, fun i hi => (k.block i hi).trans (h.block i hi)⟩
theorem Only.set_ (g i : Nat) (w : World) (u : Value) : Only g w (w.setCell ⟨g, i, none⟩ u) :=
  ⟨rfl, rfl, rfl, by simp [World.setCell], fun k hk => Below.heap_setCell w ⟨g, i, none⟩ u k hk⟩
theorem Only.drew {g : Nat} {a w : World} (h : Only g a w) : Only g a w.drew := ⟨h.os, h.tape, h.output, h.size, h.block⟩
theorem Only.below {g B : Nat} {w w' : World} (h : Only g w w') (hg : B ≤ g) : Below B w w' :=
  ⟨h.os, h.tape, h.output, Nat.le_of_eq h.size.symm, fun k hk => h.block k (by omega)⟩
theorem Only.cell {g : Nat} {w w' : World} (h : Only g w w') {p : Addr} (hp : p.block ≠ g) : w'.cell? p = w.cell? p := by
  have := h.block p.block hp
  unfold World.cell?
  rw [this]
theorem open_any (A : Option Addr) (n c : Nat) (l : List UInt8) (w : World) (h : Rd w w.heap.size A l) (hn : l.length = n) (hl : n ≤ 1000000000) :
    Calls Tryd.prog 29 #[.slice A n c] w fun e w' => ∃ g A' n' c', e = .returned (.pointer (some ⟨g, 0, none⟩)) ∧ Rdr w' w.heap.size g A' n' c' l 0 ∧ Below w.heap.size w w' := by
  go_enter Tryd.func29, Tryd.ntmps29
  go_wp2_with fail
  refine (wclone_any A n c l w h hn hl).mono ?_
  rintro e w1 ⟨A1, n1, c1, rfl, h1, hb1⟩
  have hs1 := hb1.size
  go_wp2_with fail
  go_ret
  refine ⟨_, A1, n1, c1, rfl, ⟨Whole.new _ _ _, ?_, h1.len, h1.cap, hs1, ?_⟩, hb1.alloc hs1 _⟩
  · exact h1.rd.keep fun p hp => World.cell?_alloc_lt w1 _ p hp
  · rcases h1.own.2 with ⟨h, _⟩ | ⟨g, cap, cur, h, _⟩
    · injection h with e1 e2 e3
      exact .inl ⟨e1, e2, e3⟩
    · injection h with e1 e2 e3
      exact .inr ⟨g, 0, e1⟩
section
variable {w : World} {base g : Nat} {A : Option Addr} {n c : Nat} {l : List UInt8} {e : Int}
theorem made_err (h : Rdr w base g A n c l e) : Calls Tryd.prog 33 #[.pointer (some ⟨g, 0, none⟩)] w fun x w' => x = .returned (.int .i64 e) ∧ w = w' := by
  have c0 : w.cell? ⟨g, 0, none⟩ = some (.bool true) := h.whole.cell 0
  have c2 : w.cell? ⟨g, 2, none⟩ = some (.int .i64 e) := h.whole.cell 2
  clear h
  go_enter Tryd.func33, Tryd.ntmps33
  go_wp2
  go_ret
  exact ⟨rfl, rfl⟩
theorem Rdr.fail (h : Rdr w base g A n c l e) (k : Int) : Rdr (w.setCell ⟨g, 2, none⟩ (.int .i64 k)) base g A n c l k :=
  ⟨h.whole.set_ 2 _, h.rd.keep fun p hp => World.cell?_setCell_other w _ _ _ (fun e => by subst e; exact absurd hp (Nat.lt_irrefl _)), h.len, h.cap, h.lie, h.form⟩
theorem made_fail (h : Rdr w base g A n c l 0) (k : Int) : Calls Tryd.prog 81 #[.pointer (some ⟨g, 0, none⟩), .int .i64 k] w fun x w' => x = .returned (.tuple #[]) ∧ w' = w.setCell ⟨g, 2, none⟩ (.int .i64 k) := by
  have c2 : w.cell? ⟨g, 2, none⟩ = some (.int .i64 0) := h.whole.cell 2
  have f2 : w.frozen? ⟨g, 2, none⟩ = false := h.whole.frozen 2
  go_enter Tryd.func81, Tryd.ntmps81
  go_wp2_with (go_at_call 33; (with_reducible refine (made_err h).mono ?_); rintro e w' ⟨rfl, rfl⟩)
  go_end0
  exact ⟨rfl, rfl⟩
theorem dead_fail (h : Rdr w base g A n c l e) (he : e ≠ 0) (k : Int) : Calls Tryd.prog 81 #[.pointer (some ⟨g, 0, none⟩), .int .i64 k] w fun x w' => x = .returned (.tuple #[]) ∧ w = w' := by
  have hb : (e == 0) = false := by rw [beq_eq_false_iff_ne]; exact he
  clear he
  go_enter Tryd.func81, Tryd.ntmps81
  go_wp2_with (go_at_call 33; (with_reducible refine (made_err h).mono ?_); rintro e w' ⟨rfl, rfl⟩)
  go_end0
  exact ⟨rfl, rfl⟩
theorem made_left (h : Rdr w base g A n c l e) : Calls Tryd.prog 34 #[.pointer (some ⟨g, 0, none⟩)] w fun x w' => x = .returned (.int .i64 (if e = 0 then (n : Int) else 0)) ∧ w = w' := by
  have c1 : w.cell? ⟨g, 1, none⟩ = some (.slice A n c) := h.whole.cell 1
  by_cases he : e = 0
  · rw [if_pos he]
    subst he
    go_enter Tryd.func34, Tryd.ntmps34
    go_wp2_with (go_at_call 33; (with_reducible refine (made_err h).mono ?_); rintro e w' ⟨rfl, rfl⟩)
    go_ret
    exact ⟨rfl, rfl⟩
  · rw [if_neg he]
    have hb : (e != 0) = true := by rw [bne_iff_ne]; exact he
    clear he
    go_enter Tryd.func34, Tryd.ntmps34
    go_wp2_with (go_at_call 33; (with_reducible refine (made_err h).mono ?_); rintro e w' ⟨rfl, rfl⟩)
    go_ret
    exact ⟨rfl, rfl⟩
end
end Go.Proofs.YtimmnmidhjbanaaDoor
namespace Go.Proofs.YtimmnmidhjbanaaDoor
open Go.RowKit
set_option maxRecDepth 100000 in
set_option maxHeartbeats 800000 in
theorem stays_any (g n c : Nat) (A : Option Addr) (ca : Nat) (l : List UInt8) (w : World) (hx : Rd w w.heap.size (some ⟨g, 0, none⟩) (l ++ [71, 72])) (hb : Rd w w.heap.size A l) (hn : l.length = n) (hc : n + 2 ≤ c) (hl : n ≤ 1000000000) :
    Calls Tryd.prog 38 #[.slice (some ⟨g, 0, none⟩) n c, .slice A n ca] w fun e w' => e = .returned (.bool true) ∧ ∃ k, w' = w.drewN k := by
  have t1 := fun k => text_of (w.drewN k) n c (show Rd (w.drewN k) w.heap.size (some ⟨g, 0, none⟩) l from hx.pre) hn
  have t2 := fun k => text_of (w.drewN k) n ca (show Rd (w.drewN k) w.heap.size A l from hb) hn
  obtain ⟨b, off, he, hlt, hcell⟩ := hx.at_ (k := n) (by simp; omega)
  injection he with he
  injection he with he1 he2
  subst he1
  subst he2
  have c1 : w.cell? ⟨g, n, none⟩ = some (.int .u8 71) := by
    have := hcell n (by simp; omega)
    rw [List.getElem_append_right (by omega)] at this
    simpa [hn] using this
  have c2 : w.cell? ⟨g, n + 1, none⟩ = some (.int .u8 72) := by
    have := hcell (n + 1) (by simp; omega)
    rw [List.getElem_append_right (by omega)] at this
    simpa [hn, show n + 1 - l.length = 1 by omega] using this
  have hc1 : (n : Int) + 2 ≤ c := by omega
  have hc2 : (n : Int) ≤ c := by omega
  clear hx hb hn hcell hlt
  go_enter Tryd.func38, Tryd.ntmps38
  go_wp2
  go_quiet (fail)
  go_wp2
  go_ret
  exact ⟨rfl, _, rfl⟩
end Go.Proofs.YtimmnmidhjbanaaDoor
namespace Go.Proofs.YtimmnmidhjbanaaDoor
open Go.RowKit
/-- A slice of bytes that came in. -/
def RowIn (k : IntKind) (w : World) (a : Option Addr) (len cap : Nat) (zs : List Int) : Prop :=
  (a = none ∧ len = 0 ∧ cap = 0 ∧ zs = []) ∨
  ∃ x, a = some x ∧ len ≤ cap ∧ cap ≤ maxLen ∧ zs.length = cap ∧ (∀ i, i < zs.length → w.cell? (x.add i) = some (.int k (zs.getD i 0))) ∧ ∀ n ∈ zs, (Lit.int k n).wf = true
theorem wf_byte {n : Int} (h : (Lit.int .u8 n).wf = true) : 0 ≤ n ∧ n < 256 := by
  simp [Lit.wf, IntKind.min, IntKind.max, IntKind.signed, IntKind.bits] at h
  omega
theorem rd_of_row {w : World} {a : Option Addr} {len cap : Nat} {zs : List Int} (h : RowIn .u8 w a len cap zs) : ∃ l : List UInt8, l.length = len ∧ Rd w w.heap.size a l ∧ len ≤ cap := by
  rcases h with ⟨rfl, rfl, rfl, rfl⟩ | ⟨x, rfl, hl, hm, hz, hcell, hwz⟩
  · exact ⟨[], rfl, .inl rfl, Nat.le_refl _⟩
  · refine ⟨(zs.take len).map fun z => UInt8.ofNat z.toNat, by simp [hz, hl], ?_, hl⟩
    by_cases h0 : len = 0
    · subst h0
      exact .inl rfl
    · obtain ⟨b, off, spot⟩ := x
      have hc0 := hcell 0 (by omega)
      have hspot : spot = none := by simpa [Addr.add] using World.cell?_spot hc0
      subst hspot
      refine .inr ⟨b, off, rfl, World.block_lt_of_cell? w _ hc0, fun i hi => ?_⟩
      have hi2 : i < len := by
        have := hi
        simp only [List.length_map, List.length_take] at this
        omega
      have hc := hcell i (by omega)
      rw [Addr.add_lit] at hc
      rw [hc]
      have hg : zs.getD i 0 = zs[i]'(by omega) := by simp [List.getD, show i < zs.length by omega]
      have hw := wf_byte (hwz _ (List.getElem_mem (show i < zs.length by omega)))
      rw [hg]
      simp only [List.getElem_map, List.getElem_take]
      rw [ofNat_toNat (by omega)]
      congr 2
      omega
theorem Rd.set_ {w : World} {B g off i : Nat} {l : List UInt8} (h : Rd w B (some ⟨g, off, none⟩) l) (hi : i < l.length) (y : UInt8) :
    Rd (w.setCell ⟨g, off + i, none⟩ (.int .u8 (y.toNat : Int))) B (some ⟨g, off, none⟩) (l.set i y) := by
  obtain ⟨b, o, he, hb, hc⟩ := h.at_ hi
  injection he with he
  injection he with e1 e2
  subst e1; subst e2
  refine .inr ⟨g, off, rfl, hb, fun k hk => ?_⟩
  rw [List.length_set] at hk
  by_cases e : i = k
  · subst e
    have hx := hc i hi
    rw [World.cell?_setCell_same w _ _ hx]
    simp
  · rw [World.cell?_setCell_other w _ _ _ (fun h => by injection h with _ h; omega), hc k hk]
    simp [e]
end Go.Proofs.YtimmnmidhjbanaaDoor
namespace Go.Proofs.YtimmnmidhjbanaaDoor
open Go.RowKit
/-- A text that stays in memory: what it is told as, in each later world. -/
theorem text_later {w : World} {base : Nat} {A : Option Addr} {n c : Nat} {l : List UInt8} (h : Has w base A n c l) : ∀ W : World, Below w.heap.size w W → (convert 31 9 (.slice A n c)).run Tryd.prog W = .ok (.string ⟨l.toArray⟩) W :=
  fun W hW => text_of W n c (h.below hW).rd h.len
end Go.Proofs.YtimmnmidhjbanaaDoor
