/- The walk of the law WireBack, whole. -/
import Derived.Test.YtgbgbkfbiebjgaaBack2
namespace Go.Proofs.Ytgbgbkfbiebjgaa
open Go.RowKit
theorem ird_of_row {w : World} {a : Option Addr} {len cap : Nat} {zs : List Int} (h : RowIn .i64 w a len cap zs) : ∃ l : List Int, l.length = len ∧ IRd w w.heap.size a l := by
  rcases h with ⟨rfl, rfl, rfl, rfl⟩ | ⟨x, rfl, hl, hm, hz, hcell, hwz⟩
  · exact ⟨[], rfl, .inl rfl⟩
  · refine ⟨zs.take len, by simp [hz, hl], ?_⟩
    by_cases h0 : len = 0
    · subst h0
      exact .inl rfl
    · obtain ⟨b, off, spot⟩ := x
      have hc0 := hcell 0 (by omega)
      have hspot : spot = none := by simpa [Addr.add] using World.cell?_spot hc0
      subst hspot
      refine .inr ⟨b, off, rfl, World.block_lt_of_cell? w _ hc0, fun i hi => ?_⟩
      have hi2 : i < len := by
        have := hi
        simp only [List.length_take] at this
        omega
      have hc := hcell i (by omega)
      rw [Addr.add_lit] at hc
      rw [hc]
      have hg : zs.getD i 0 = zs[i]'(by omega) := by simp [List.getD, show i < zs.length by omega]
      rw [hg]
      simp only [List.getElem_take]
set_option maxRecDepth 100000 in
set_option maxHeartbeats 1600000 in
theorem back_long (A0 : Option Addr) (n0 c0 : Nat) (s : ByteArray) (A2 : Option Addr) (n2 c2 : Nat) (w : World) (h : 200 < n0 ∨ (5000 : Int) < s.size ∨ 100 < n2) :
    Calls Try.prog 8 #[.slice A0 n0 c0, .string s, .slice A2 n2 c2] w fun e w' => e = .returned (.bool true) ∧ Below w.heap.size w w' := by
  by_cases h1 : 200 < n0
  · clear h
    go_enter Try.func8, Try.ntmps8
    go_wp2_with (go_at_call 11; (with_reducible refine (knows_any _).mono ?_); rintro e w1 ⟨rfl, hb1⟩)
    go_ret
    exact ⟨rfl, hb1⟩
  · by_cases h2 : (5000 : Int) < s.size
    · clear h
      go_enter Try.func8, Try.ntmps8
      go_wp2_with (go_at_call 11; (with_reducible refine (knows_any _).mono ?_); rintro e w1 ⟨rfl, hb1⟩)
      go_ret
      exact ⟨rfl, hb1⟩
    · have h3 : 100 < n2 := by omega
      clear h
      go_enter Try.func8, Try.ntmps8
      go_wp2_with (go_at_call 11; (with_reducible refine (knows_any _).mono ?_); rintro e w1 ⟨rfl, hb1⟩)
      go_ret
      exact ⟨rfl, hb1⟩
theorem back_walk (a0 : Option Addr) (len0 cap0 : Nat) (z0 : List Int) (s : ByteArray) (a2 : Option Addr) (len2 cap2 : Nat) (z2 : List Int) (w : World) (w0 : RowIn .i64 w a0 len0 cap0 z0) (w2 : RowIn .u8 w a2 len2 cap2 z2) :
    Calls Try.prog 8 #[.slice a0 len0 cap0, .string s, .slice a2 len2 cap2] w fun e w' => e = .returned (.bool true) ∧ Below w.heap.size w w' := by
  obtain ⟨zl, hz1, hz2⟩ := ird_of_row w0
  obtain ⟨l2, hl2, hr2, hc2⟩ := rd_of_row w2
  by_cases h : 200 < len0 ∨ (5000 : Int) < s.size ∨ 100 < len2
  · exact back_long a0 len0 cap0 s a2 len2 cap2 w h
  · exact back_short a0 len0 cap0 zl s a2 len2 cap2 l2 w hz2 hz1 (by omega) (by omega) hr2 hl2 hc2 (by omega)
end Go.Proofs.Ytgbgbkfbiebjgaa
