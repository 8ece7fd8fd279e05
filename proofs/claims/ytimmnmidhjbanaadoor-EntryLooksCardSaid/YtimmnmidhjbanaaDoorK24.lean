/- point's writing: numbers and texts into a buffer. -/
import Derived.Test.YtimmnmidhjbanaaDoorK12
import Derived.Test.YtimmnmidhjbanaaDoorLay
import Derived.Shelf.Bytes.WriteAt
import Derived.Lib.BufferAt
namespace Go.Proofs.YtimmnmidhjbanaaDoor
open Go.RowKit
set_option linter.unusedVariables false
/-- The bytes of a text. -/
def textL (s : ByteArray) : List UInt8 := textB s.data.toList
theorem textL_len {s : ByteArray} (h : s.size ≤ 1000) : (textL s).length ≤ 1009 := by
  have h1 : s.data.toList.length = s.size := by simp
  have h2 : (numB s.size).length ≤ 9 := numB_le (by omega)
  unfold textL textB
  rw [List.length_append, h1]
  omega
theorem textL_pos (s : ByteArray) : 0 < (textL s).length := by
  unfold textL textB
  rw [List.length_append]
  have := numB_pos s.data.toList.length
  omega
theorem numL_pos {z : Int} (h : 0 ≤ z ∧ z ≤ 9007199254740992) : 0 < (numL z).length := by
  unfold numL
  rw [if_pos h]
  exact numB_pos _
theorem numL_len (z : Int) : (numL z).length ≤ 9 := by
  unfold numL
  split
  · exact numB_le (by omega)
  · simp
/-- Block b is a writing that holds these bytes. -/
def Buf (B b : Nat) (l : List UInt8) (w : World) : Prop := LibA.IsBuffer 116 (fun _ => none) 5 B b 0 (bv l) w
theorem Buf.lt {B b : Nat} {l : List UInt8} {w : World} (h : Buf B b l w) : b < w.heap.size := LibA.IsBuffer.lt h
theorem Buf.below {B b : Nat} {l : List UInt8} {w w' : World} (h : Buf B b l w) (hb : Below w.heap.size w w') : Buf B b l w' := LibA.IsBuffer.old h hb
theorem Buf.fresh (w : World) : Buf w.heap.size w.heap.size [] (w.alloc (.cells #[.slice none 0 0, .int .i64 0, .int .i8 0] 116)) :=
  LibA.zero_isBuffer (Nat.le_refl _) (LibA.three_whole (heap_alloc_new w _))
/-- What a call that writes on into the buffer leaves. -/
def BufPost (B b : Nat) (l : List UInt8) (r : Value) (w : World) (e : Ending) (w' : World) : Prop :=
  e = .returned r ∧ Buf B b l w' ∧ Below B w w' ∧ Lib.OthersKept 5 (some b) w w'
theorem write_any {B b : Nat} {l m : List UInt8} {w : World} {base n c : Nat} {A : Option Addr} (h : Buf B b l w) (hB : B ≤ w.heap.size) (hm : Has w base A n c m) (hb : b < base) (hn : 0 < n) (hl : l.length + n ≤ 1000000) :
    Calls Tryd.prog 94 #[.pointer (some ⟨b, 0, none⟩), .slice A n c] w (BufPost B b (l ++ m) (.tuple #[.int .i64 n, .nilIface]) w) := by
  obtain ⟨g, rfl, h1, h2⟩ := hm.some_ hn
  have hlen := hm.len
  refine (Tryd.Buffer_Write_at 116 (fun _ => none) B b 0 (bv l) (bv m) ⟨g, 0, none⟩ n c w h hB (bv_one l) (by rw [bv_length, hlen]) (by show g ≠ b; omega) ?_ (bv_one m) (by rw [bv_length]; omega)).mono ?_
  · intro j v hj
    rcases hm.rd with h0 | ⟨b', off', he, hlt, hc⟩
    · subst h0
      simp [bv] at hj
    · injection he with he
      injection he with e1 e2
      subst e1; subst e2
      have hj' : j < m.length := by
        have := (List.getElem?_eq_some_iff.1 hj).1
        rwa [bv_length] at this
      rw [bv_at hj'] at hj
      rw [Addr.add_lit, hc j hj']
      exact hj
  · rintro e w' ⟨rfl, hb1, hb2, hk⟩
    rw [← bv_append] at hb1
    exact ⟨rfl, hb1, hb2, hk⟩
/-- A row of the call's own that is none of bytes stands. -/
theorem kept_whole {b g : Nat} {w w' : World} {t : TypeId} {cs : Array Value} (h : Lib.OthersKept 5 (some b) w w') (hg : Whole w g t cs) (hgb : g ≠ b) (ht : t ≠ 5) : Whole w' g t cs :=
  h g _ hg (fun e => hgb (Option.some.inj e)) (fun c fz e => by injection e with _ e2 _; exact ht e2)
theorem othersKept_below {b : Nat} {w w' : World} (hb : Below w.heap.size w w') : Lib.OthersKept 5 (some b) w w' := fun k o hk _ _ => (hb.block k (Lib.lt_of_heap hk)).trans hk
theorem flat_next {α : Type} (f : α → List UInt8) (l : List α) (k : Nat) (h : k < l.length) : (l.take (k + 1)).flatMap f = (l.take k).flatMap f ++ f l[k] := by
  rw [List.take_add_one, List.getElem?_eq_getElem h, List.flatMap_append]
  simp
theorem flat_len {α : Type} (f : α → List UInt8) (m : Nat) : ∀ l : List α, (∀ x ∈ l, (f x).length ≤ m) → (l.flatMap f).length ≤ m * l.length := by
  intro l
  induction l with
  | nil => intro _; simp
  | cons x l ih =>
    intro h
    have h1 := h x List.mem_cons_self
    have h2 := ih fun y hy => h y (List.mem_cons_of_mem _ hy)
    rw [List.flatMap_cons, List.length_append, List.length_cons, Nat.mul_succ]
    omega
set_option maxRecDepth 100000 in
set_option maxHeartbeats 1600000 in
theorem nums_any {B b g : Nat} {l : List UInt8} {zs : List Int} {cs : Array Value} {w : World} (h : Buf B b l w) (hB : B ≤ w.heap.size) (hg : Whole w g 3 cs) (hcs : cs = (zs.map (Value.int .i64)).toArray) (hgb : g ≠ b) (n c : Nat)
    (hn : zs.length = n) (hz : ∀ z ∈ zs, 0 ≤ z ∧ z ≤ 9007199254740992) (hl : l.length + 9 * n ≤ 100000) :
    Calls Tryd.prog 85 #[.pointer (some ⟨b, 0, none⟩), .slice (some ⟨g, 0, none⟩) n c] w (BufPost B b (l ++ zs.flatMap numL) (.tuple #[]) w) := by
  have HN := Lib.hid hn
  have HZ := Lib.hid hz
  clear hz hn
  go_enter Tryd.func85, Tryd.ntmps85
  go_wp2
  go_loopw [10] (fun i wr => ∃ k : Nat, i = .int .i64 (k : Int) ∧ k ≤ n ∧ Buf B b (l ++ (zs.take k).flatMap numL) wr ∧ Below B w wr ∧ Lib.OthersKept 5 (some b) w wr) (fun i _ => n - (intOf i).toNat)
  case atStart => exact ⟨0, rfl, Nat.zero_le _, by simpa using h, Below.refl _ _, Lib.OthersKept.refl _ _ _⟩
  case round =>
    obtain ⟨k, rfl, hk, hbf, hbl, hok⟩ := hrel
    by_cases hlt : k < n
    · have hlk : k < zs.length := by rw [HN.out]; exact hlt
      obtain ⟨z, hzk⟩ : ∃ z, z = zs[k] := ⟨_, rfl⟩
      have hzr := HZ.out z (by rw [hzk]; exact List.getElem_mem _)
      have hw := kept_whole hok hg hgb (by decide)
      have hcell : wr.cell? ⟨g, k, none⟩ = some ((Value.int .i64) z) := by
        rw [hw.cell, hcs, hzk]
        simp [hlk]
      have HX := Lib.hid (show (zs.take (k + 1)).flatMap numL = (zs.take k).flatMap numL ++ numL z by rw [hzk]; exact flat_next _ zs k hlk)
      have HG : Hid ((l ++ (zs.take k).flatMap numL).length + 9 ≤ 1000000) := by
        unfold Hid
        have h2 := flat_len numL 9 (zs.take k) fun x hx => numL_len x
        have h3 := List.length_take_le k zs
        rw [List.length_append]
        omega
      have hwB := Nat.le_trans hB hbl.size
      clear hzk hlk hw
      generalize hL : l ++ (zs.take k).flatMap numL = L at hbf HG
      have HL := Lib.hid hL
      clear hL
      go_wp2_with fail
      refine (num_any z wr).mono ?_
      rintro e w1 ⟨v1, rfl, hown, hb1⟩
      have hE := Lib.hid (show numE z = 0 by unfold numE; rw [if_pos hzr])
      rw [hE.out]
      have hlen := numL_len z
      have hpos := numL_pos hzr
      obtain ⟨A1, n1, c1, rfl, h1⟩ := hown.has
      have hn1 := h1.len
      have hb2 := hbf.below hb1
      have hlt1 := hbf.lt
      have WR := Lib.hid (write_any hb2 (Nat.le_trans hwB hb1.size) h1 hlt1 (by omega) (by have := HG.out; omega))
      have HBF := Lib.hid hb1
      clear hb1 h1 hb2 hn1 hbf hlen
      go_wp2_with (go_at_call 94; (with_reducible refine WR.out.mono ?_); rintro e w2 ⟨rfl, hb3, hbl3, hok3⟩)
      go_roundw
      case rel =>
        refine ⟨k + 1, by go_num, by omega, ?_, (hbl.trans (HBF.out.mono hwB)).trans hbl3, (hok.trans (othersKept_below HBF.out)).trans hok3⟩
        rw [HX.out, ← List.append_assoc, HL.out]
        exact hb3
      case measure => simp [intOf]; omega
    · obtain rfl : k = n := by omega
      have HK := Lib.hid (List.take_of_length_le (Nat.le_of_eq HN.out))
      go_wp2
      go_end0
      rw [HK.out] at hbf
      exact ⟨rfl, hbf, hbl, hok⟩
set_option maxRecDepth 100000 in
set_option maxHeartbeats 1600000 in
theorem texts_any {B b g : Nat} {l : List UInt8} {zs : List ByteArray} {cs : Array Value} {w : World} (h : Buf B b l w) (hB : B ≤ w.heap.size) (hg : Whole w g 9 cs) (hcs : cs = (zs.map Value.string).toArray) (hgb : g ≠ b) (n c : Nat)
    (hn : zs.length = n) (hz : ∀ z ∈ zs, z.size ≤ 1000) (hl : l.length + 1009 * n ≤ 100000) :
    Calls Tryd.prog 86 #[.pointer (some ⟨b, 0, none⟩), .slice (some ⟨g, 0, none⟩) n c] w (BufPost B b (l ++ zs.flatMap textL) (.tuple #[]) w) := by
  have HN := Lib.hid hn
  have HZ := Lib.hid hz
  clear hz hn
  go_enter Tryd.func86, Tryd.ntmps86
  go_wp2
  go_loopw [10] (fun i wr => ∃ k : Nat, i = .int .i64 (k : Int) ∧ k ≤ n ∧ Buf B b (l ++ (zs.take k).flatMap textL) wr ∧ Below B w wr ∧ Lib.OthersKept 5 (some b) w wr) (fun i _ => n - (intOf i).toNat)
  case atStart => exact ⟨0, rfl, Nat.zero_le _, by simpa using h, Below.refl _ _, Lib.OthersKept.refl _ _ _⟩
  case round =>
    obtain ⟨k, rfl, hk, hbf, hbl, hok⟩ := hrel
    by_cases hlt : k < n
    · have hlk : k < zs.length := by rw [HN.out]; exact hlt
      obtain ⟨z, hzk⟩ : ∃ z, z = zs[k] := ⟨_, rfl⟩
      have hzr := HZ.out z (by rw [hzk]; exact List.getElem_mem _)
      have hw := kept_whole hok hg hgb (by decide)
      have hcell : wr.cell? ⟨g, k, none⟩ = some (Value.string z) := by
        rw [hw.cell, hcs, hzk]
        simp [hlk]
      have HX := Lib.hid (show (zs.take (k + 1)).flatMap textL = (zs.take k).flatMap textL ++ textL z by rw [hzk]; exact flat_next _ zs k hlk)
      have HG : Hid ((l ++ (zs.take k).flatMap textL).length + 1009 ≤ 1000000) := by
        unfold Hid
        have h2 := flat_len textL 1009 (zs.take k) fun x hx => textL_len (HZ.out x (List.mem_of_mem_take hx))
        have h3 := List.length_take_le k zs
        rw [List.length_append]
        omega
      have hwB := Nat.le_trans hB hbl.size
      clear hzk hlk hw
      generalize hL : l ++ (zs.take k).flatMap textL = L at hbf HG
      have HL := Lib.hid hL
      clear hL
      go_wp2_with fail
      refine (text_good z wr (by omega)).mono ?_
      rintro e w1 ⟨A1, n1, c1, rfl, h1, hb1⟩
      replace h1 : Has w1 wr.heap.size A1 n1 c1 (textL z) := h1
      have hlen := textL_len hzr
      have hpos := textL_pos z
      have hn1 := h1.len
      have hb2 := hbf.below hb1
      have hlt1 := hbf.lt
      have WR := Lib.hid (write_any hb2 (Nat.le_trans hwB hb1.size) h1 hlt1 (by omega) (by have := HG.out; omega))
      have HBF := Lib.hid hb1
      clear hb1 h1 hb2 hn1 hbf hlen
      go_wp2_with (go_at_call 94; (with_reducible refine WR.out.mono ?_); rintro e w2 ⟨rfl, hb3, hbl3, hok3⟩)
      go_roundw
      case rel =>
        refine ⟨k + 1, by go_num, by omega, ?_, (hbl.trans (HBF.out.mono hwB)).trans hbl3, (hok.trans (othersKept_below HBF.out)).trans hok3⟩
        rw [HX.out, ← List.append_assoc, HL.out]
        exact hb3
      case measure => simp [intOf]; omega
    · obtain rfl : k = n := by omega
      have HK := Lib.hid (List.take_of_length_le (Nat.le_of_eq HN.out))
      go_wp2
      go_end0
      rw [HK.out] at hbf
      exact ⟨rfl, hbf, hbl, hok⟩
end Go.Proofs.YtimmnmidhjbanaaDoor
