/- gleberef01.Unframe, of any bytes. -/
import Derived.Test.YtgbgbkfbiebjgaaRefUnframe3
namespace Go.Proofs.Ytgbgbkfbiebjgaa
open Go.RowKit
theorem head_again (l : List UInt8) (h9 : l.length = sz l + 9) (h0 : (l.getD 0 0).toNat = 3) : headB (l.getD 1 0).toNat ((l.drop 5).take (sz l)) = l.take (sz l + 5) := by
  have h5 : 5 ≤ l.length := by omega
  have hm : ((l.drop 5).take (sz l)).length = sz l := by rw [List.length_take, List.length_drop]; omega
  unfold headB
  rw [hm]
  match l, h5 with
  | a :: b :: c :: d :: e :: r, _ =>
    have e1 : a = 3 := UInt8.toNat_inj.1 h0
    have e2 : UInt8.ofNat (b.toNat % 256) = b := by rw [Nat.mod_eq_of_lt b.toNat_lt]; simp
    have e3 : fixB 3 (sz (a :: b :: c :: d :: e :: r)) = [c, d, e] := fixB_unfix [c, d, e]
    show [3, UInt8.ofNat (b.toNat % 256)] ++ fixB 3 (sz (a :: b :: c :: d :: e :: r)) ++ r.take _ = _
    rw [e2, e3, e1]
    rfl
theorem frame_again (l : List UInt8) (h9 : l.length = sz l + 9) (h0 : (l.getD 0 0).toNat = 3) : frameB (l.getD 1 0).toNat ((l.drop 5).take (sz l)) = l ↔ unfix (l.drop (sz l + 5)) = Crc.sum (l.take (sz l + 5)) := by
  unfold frameB
  rw [head_again l h9 h0]
  have hd : (l.drop (sz l + 5)).length = 4 := by rw [List.length_drop]; omega
  have ht : l.take (sz l + 5) ++ l.drop (sz l + 5) = l := List.take_append_drop _ _
  have hs : Crc.sum (l.take (sz l + 5)) < 256 ^ 4 := by
    have h1 : (256 : Nat) ^ 4 = 4294967296 := rfl
    have := Crc.sum_lt (l.take (sz l + 5))
    omega
  constructor
  · intro h
    have e : fixB 4 (Crc.sum (l.take (sz l + 5))) = l.drop (sz l + 5) := List.append_cancel_left (h.trans ht.symm)
    rw [← e]
    exact unfix_fixB 4 _ hs
  · intro h
    have e := fixB_unfix (l.drop (sz l + 5))
    rw [hd, h] at e
    rw [e]
    exact ht
theorem refUnframe_any (A : Option Addr) (n c : Nat) (l : List UInt8) (w : World) (hr : Rd w w.heap.size A l) (hn : l.length = n) (hc : n ≤ c) (hl : n ≤ 1000000) :
    Calls Try.prog 24 #[.slice A n c] w (UnPost (unK l) (unC l) (unE l) w) := by
  unfold unK unC
  by_cases h5 : n < 5
  · have e : unE l = 20 := by unfold unE; rw [if_pos (by omega)]
    rw [e, if_neg (by omega), if_neg (by omega)]
    exact refUnframe_short A n c w h5
  · obtain ⟨b, off, rfl, hb, hcell⟩ := hr.at_ (k := 0) (by omega)
    have h5' : 5 ≤ n := by omega
    have hu : unE l = if (l.getD 0 0).toNat = 3 ∧ sz l ≤ 131072 then (if l.length < sz l + 9 then 20 else if sz l + 9 < l.length then 21 else if unfix (l.drop (sz l + 5)) = Crc.sum (l.take (sz l + 5)) then 0 else 22) else 21 := by
      unfold unE; rw [if_neg (by omega)]
    have hh := rhead hcell (by omega)
    by_cases h0 : (l.getD 0 0).toNat = 3
    · have hh3 := hh
      rw [h0] at hh3
      by_cases hs : sz l ≤ 131072
      · rw [if_pos ⟨h0, hs⟩] at hu
        by_cases h1 : n < sz l + 9
        · rw [if_pos (by omega)] at hu
          rw [hu, if_neg (by omega), if_neg (by omega)]
          exact refUnframe_end b off n c _ _ _ _ _ w hh h5' hl h0 hs h1
        · rw [if_neg (by omega)] at hu
          by_cases h2 : sz l + 9 < n
          · rw [if_pos (by omega)] at hu
            rw [hu, if_neg (by omega), if_neg (by omega)]
            exact refUnframe_behind b off n c _ _ _ _ _ w hh h5' hl h0 hs h2
          · rw [if_neg (by omega)] at hu
            have h9 : n = sz l + 9 := by omega
            have hk : (l.getD 1 0).toNat ≤ 255 := by have := (l.getD 1 0).toNat_lt; omega
            have hck := cell_at hcell 1 (by omega)
            have hrm := Rd.cut hcell hb 5 (sz l)
            have hlm : ((l.drop 5).take (sz l)).length = sz l := by rw [List.length_take, List.length_drop]; omega
            have hi := frame_again l (by omega) h0
            by_cases h3 : unfix (l.drop (sz l + 5)) = Crc.sum (l.take (sz l + 5))
            · rw [if_pos h3] at hu
              rw [hu, if_pos rfl, if_pos rfl]
              exact refUnframe_good b off n c _ _ _ _ _ l _ w hh3 hb hc hs h9 hk hck hr hn hrm hlm (hi.2 h3)
            · rw [if_neg h3] at hu
              rw [hu, if_neg (by omega), if_neg (by omega)]
              exact refUnframe_sum b off n c _ _ _ _ _ l _ w hh3 hb hc hs h9 hk hck hr hn hrm hlm (fun e => h3 (hi.1 e))
      · rw [if_neg (by omega)] at hu
        rw [hu, if_neg (by omega), if_neg (by omega)]
        exact refUnframe_great b off n c _ _ _ _ _ w hh h5' hl h0 (by omega)
    · rw [if_neg (by omega)] at hu
      rw [hu, if_neg (by omega), if_neg (by omega)]
      exact refUnframe_version b off n c _ _ _ _ _ w hh h5' hl h0
end Go.Proofs.Ytgbgbkfbiebjgaa
