/- The law's own Stays: what was lent is as it was. -/
import Derived.Test.YthgcmcdacejelaaDoorUMem
namespace Go.Proofs.YthgcmcdacejelaaDoor
open Go.RowKit
set_option maxRecDepth 100000 in
set_option maxHeartbeats 800000 in
theorem stays_any (g n c : Nat) (A : Option Addr) (ca : Nat) (l : List UInt8) (w : World) (hx : Rd w w.heap.size (some ⟨g, 0, none⟩) (l ++ [71, 72])) (hb : Rd w w.heap.size A l) (hn : l.length = n) (hc : n + 2 ≤ c) (hl : n ≤ 1000000000) :
    Calls Tryd.prog 42 #[.slice (some ⟨g, 0, none⟩) n c, .slice A n ca] w fun e w' => e = .returned (.bool true) ∧ ∃ k, w' = w.drewN k := by
  have t1 := fun k => text_of (w.drewN k) n c (show Rd (w.drewN k) w.heap.size (some ⟨g, 0, none⟩) l from hx.pre) hn
  have t2 := fun k => text_of (w.drewN k) n ca (show Rd (w.drewN k) w.heap.size A l from hb) hn
  obtain ⟨b, off, he, hlt, hcell⟩ := hx.at_ (k := n) (by simp; omega)
  injection he with he
  injection he with he1 he2
  subst he1
  subst he2
  have c1 : w.cell? ⟨g, n, none⟩ = some (.int .u8 71) := by
    have := hcell n (by simp; omega)
    rw [List.getElem_append_right (by omega)] at this
    simpa [hn] using this
  have c2 : w.cell? ⟨g, n + 1, none⟩ = some (.int .u8 72) := by
    have := hcell (n + 1) (by simp; omega)
    rw [List.getElem_append_right (by omega)] at this
    simpa [hn, show n + 1 - l.length = 1 by omega] using this
  have hc1 : (n : Int) + 2 ≤ c := by omega
  have hc2 : (n : Int) ≤ c := by omega
  clear hx hb hn hcell hlt
  go_enter Tryd.func42, Tryd.ntmps42
  go_wp2
  go_quiet (fail)
  go_wp2
  go_ret
  exact ⟨rfl, _, rfl⟩
end Go.Proofs.YthgcmcdacejelaaDoor
