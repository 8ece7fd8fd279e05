/- gleberef07.join: bytes one behind the other. -/
import Derived.Test.YtimmnmidhjbanaaDoorK06
import Derived.Test.YtimmnmidhjbanaaDoorK25
namespace Go.Proofs.YtimmnmidhjbanaaDoor
open Go.RowKit
set_option linter.unusedVariables false
set_option maxRecDepth 100000 in
set_option maxHeartbeats 1600000 in
theorem join_any {g n c : Nat} {l : List (Value × List UInt8)} {cs : Array Value} {w : World} (hg : Whole w g 31 cs) (hcs : cs = (l.map (fun p => p.1)).toArray) (hn : l.length = n) (hl : n ≤ 100)
    (hv : ∀ p ∈ l, ∃ B, Own w B p.1 p.2 ∧ p.2.length ≤ 10000) :
    Calls Tryd.prog 71 #[.slice (some ⟨g, 0, none⟩) n c] w (SlicePost w.heap.size (l.flatMap fun p => p.2) w) := by
  have HN := Lib.hid hn
  have HV := Lib.hid hv
  clear hv
  go_enter Tryd.func71, Tryd.ntmps71
  go_wp2
  go_loopw [3, 4] (fun s i wr => ∃ k : Nat, i = .int .i64 (k : Int) ∧ k ≤ n ∧ Own wr w.heap.size s ((l.take k).flatMap fun p => p.2) ∧ Below w.heap.size w wr) (fun _ i _ => n - (intOf i).toNat)
  case atStart => exact ⟨0, rfl, Nat.zero_le _, by simpa using Own.nil _ _, Below.refl _ _⟩
  case round =>
    obtain ⟨k, rfl, hk, hown, hbl⟩ := hrel
    by_cases hlt : k < n
    · have hlk : k < l.length := by omega
      obtain ⟨⟨v, m⟩, hp⟩ : ∃ p, l[k] = p := ⟨_, rfl⟩
      obtain ⟨B, ho, hm⟩ := HV.out (v, m) (hp ▸ List.getElem_mem _)
      replace ho : Own w B v m := ho
      replace hm : m.length ≤ 10000 := hm
      obtain ⟨A, c1, rfl, hc1, _, hrd⟩ := ho.form
      have hcell : wr.cell? ⟨g, k, none⟩ = some (.slice A m.length c1) := by
        rw [(hg.below hbl hg.lt).cell, hcs]
        simp [hlk, hp]
      have hnext : (l.take (k + 1)).flatMap (fun p => p.2) = (l.take k).flatMap (fun p => p.2) ++ m := by rw [flat_next _ l k hlk, hp]
      have hlen : ((l.take k).flatMap fun p => p.2).length ≤ 1000000 := by
        have h1 := flat_len (fun p : Value × List UInt8 => p.2) 10000 (l.take k) (fun p hp => by obtain ⟨_, _, h⟩ := HV.out p (List.mem_of_mem_take hp); exact h)
        have h2 := List.length_take_le k l
        omega
      have HX := Lib.hid hnext
      have HS := Lib.hid (src_of_rd c1 (hrd.below hbl (Nat.le_refl _)))
      have HLn := Lib.hid hlen
      have HM := Lib.hid hm
      have hbs := hbl.size
      clear hn hcs hp ho hrd hnext hm hlk hc1 hlen
      generalize (l.take k).flatMap (fun p => p.2) = L at hown HLn HX
      generalize hml : m.length = ml at hcell
      have HML := Lib.hid hml
      clear hml
      go_wp2_with (at_builtin; refine wpList_app _ rfl (.tmp 11) (.tmp 15) _ rfl w.heap.size _ L rfl hown _ m rfl (by have := HS.out; rw [HML.out] at this ⊢; exact this) (by have := HLn.out; have := HM.out; omega) hbs ?_; intro v1 w1 hown1 hb1)
      go_roundw
      case rel => exact ⟨k + 1, by go_num, by omega, by rw [HX.out]; exact hown1, hbl.trans hb1⟩
      case measure => simp [intOf]; omega
    · obtain rfl : k = n := by omega
      have HK := Lib.hid (List.take_of_length_le (Nat.le_of_eq HN.out))
      clear hn hcs
      go_wp2
      obtain ⟨A, n1, c1, rfl, hh⟩ := hown.has
      rw [HK.out] at hh
      go_ret
      exact ⟨A, n1, c1, rfl, hh, hbl⟩
end Go.Proofs.YtimmnmidhjbanaaDoor
