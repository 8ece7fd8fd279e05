/- glebelaw07's own Rec, Op, Ans, RefRec, RefOp, RefAns, num, long. -/
import Derived.Test.YthgcmcdacejelaaDoorQTakeD
namespace Go.Proofs.YthgcmcdacejelaaDoor
open Go.RowKit
set_option linter.unusedVariables false
theorem num7_any (k : Int) (w : World) : Calls Tryd.prog 23 #[.int .i64 k] w fun e w' => e = .returned (.int .i64 k) ∧ w = w' := by
  go_enter Tryd.func23, Tryd.ntmps23
  go_wp2
  go_ret
  exact ⟨rfl, rfl⟩
theorem lawRec_any (x : Int) (y : Int) (key : ByteArray) (val : ByteArray) (ver : Int) (w : World) : Calls Tryd.prog 10 #[.agg #[.int .i64 x, .int .i64 y, .string key, .string val, .int .i64 ver]] w fun e w' => e = .returned (.agg #[.int .i64 x, .int .i64 y, .string key, .string val, .int .i64 ver]) ∧ Below w.heap.size w w' := by
  go_enter Tryd.func10, Tryd.ntmps10
  go_wp2
  exact bodyPost_ret (results_cell_row rfl _ _ (w.heap.size + 1) 36 _ (0, 0) _ rfl ((Whole.new (w.alloc _) _ _).at_ (by simp)) Tryd.underlying36 rfl (by kernel_rfl)) rfl ⟨rfl, ((Since.refl w).alloc _).alloc _⟩
theorem lawRefRec_any (x : Int) (y : Int) (key : ByteArray) (val : ByteArray) (ver : Int) (w : World) : Calls Tryd.prog 30 #[.agg #[.int .i64 x, .int .i64 y, .string key, .string val, .int .i64 ver]] w fun e w' => e = .returned (.agg #[.int .i64 x, .int .i64 y, .string key, .string val, .int .i64 ver]) ∧ Below w.heap.size w w' := by
  go_enter Tryd.func30, Tryd.ntmps30
  go_wp2
  exact bodyPost_ret (results_cell_row rfl _ _ (w.heap.size + 1) 25 _ (0, 0) _ rfl ((Whole.new (w.alloc _) _ _).at_ (by simp)) Tryd.underlying25 rfl (by kernel_rfl)) rfl ⟨rfl, ((Since.refl w).alloc _).alloc _⟩
theorem lawOp_any (kind : Int) (x : Int) (y : Int) (key : ByteArray) (val : ByteArray) (cl : Int) (seq : Int) (w : World) : Calls Tryd.prog 12 #[.agg #[.int .i64 kind, .int .i64 x, .int .i64 y, .string key, .string val, .int .i64 cl, .int .i64 seq]] w fun e w' => e = .returned (.agg #[.int .i64 kind, .int .i64 x, .int .i64 y, .string key, .string val, .int .i64 cl, .int .i64 seq]) ∧ Below w.heap.size w w' := by
  go_enter Tryd.func12, Tryd.ntmps12
  go_wp2
  exact bodyPost_ret (results_cell_row rfl _ _ (w.heap.size + 1) 39 _ (0, 0) _ rfl ((Whole.new (w.alloc _) _ _).at_ (by simp)) Tryd.underlying39 rfl (by kernel_rfl)) rfl ⟨rfl, ((Since.refl w).alloc _).alloc _⟩
theorem lawRefOp_any (kind : Int) (x : Int) (y : Int) (key : ByteArray) (val : ByteArray) (cl : Int) (seq : Int) (w : World) : Calls Tryd.prog 36 #[.agg #[.int .i64 kind, .int .i64 x, .int .i64 y, .string key, .string val, .int .i64 cl, .int .i64 seq]] w fun e w' => e = .returned (.agg #[.int .i64 kind, .int .i64 x, .int .i64 y, .string key, .string val, .int .i64 cl, .int .i64 seq]) ∧ Below w.heap.size w w' := by
  go_enter Tryd.func36, Tryd.ntmps36
  go_wp2
  exact bodyPost_ret (results_cell_row rfl _ _ (w.heap.size + 1) 27 _ (0, 0) _ rfl ((Whole.new (w.alloc _) _ _).at_ (by simp)) Tryd.underlying27 rfl (by kernel_rfl)) rfl ⟨rfl, ((Since.refl w).alloc _).alloc _⟩
theorem lawAns_any (er : Int) (fd : Bool) (val : ByteArray) (ver : Int) (w : World) : Calls Tryd.prog 14 #[.agg #[.int .i64 er, .bool fd, .string val, .int .i64 ver]] w fun e w' => e = .returned (.agg #[.int .i64 er, .bool fd, .string val, .int .i64 ver]) ∧ Below w.heap.size w w' := by
  go_enter Tryd.func14, Tryd.ntmps14
  go_wp2
  exact bodyPost_ret (results_cell_row rfl _ _ (w.heap.size + 1) 43 _ (0, 0) _ rfl ((Whole.new (w.alloc _) _ _).at_ (by simp)) Tryd.underlying43 rfl (by kernel_rfl)) rfl ⟨rfl, ((Since.refl w).alloc _).alloc _⟩
theorem lawRefAns_any (er : Int) (fd : Bool) (val : ByteArray) (ver : Int) (w : World) : Calls Tryd.prog 39 #[.agg #[.int .i64 er, .bool fd, .string val, .int .i64 ver]] w fun e w' => e = .returned (.agg #[.int .i64 er, .bool fd, .string val, .int .i64 ver]) ∧ Below w.heap.size w w' := by
  go_enter Tryd.func39, Tryd.ntmps39
  go_wp2
  exact bodyPost_ret (results_cell_row rfl _ _ (w.heap.size + 1) 29 _ (0, 0) _ rfl ((Whole.new (w.alloc _) _ _).at_ (by simp)) Tryd.underlying29 rfl (by kernel_rfl)) rfl ⟨rfl, ((Since.refl w).alloc _).alloc _⟩
def longB (l : List ByteArray) : Bool := l.any fun s => decide (500 < s.size)
theorem long_any {g n c : Nat} {l : List ByteArray} {cs : Array Value} {w : World} (hg : Whole w g 9 cs) (hcs : cs = (l.map Value.string).toArray) (hn : l.length = n) (hl : n ≤ 1000) {R : Bool} (hR : longB l = R) :
    Calls Tryd.prog 7 #[.slice (some ⟨g, 0, none⟩) n c] w fun e w' => e = .returned (.bool R) ∧ w = w' := by
  have HR := Lib.hid hR
  have HN := Lib.hid hn
  clear hR
  go_enter Tryd.func7, Tryd.ntmps7
  go_wp2
  go_loop [3] (fun i => ∃ k : Nat, k ≤ n ∧ i = .int .i64 (k : Int) ∧ longB (l.take k) = false) (fun i => n - (intOf i).toNat)
  case atStart => exact ⟨0, by omega, rfl, rfl⟩
  case round =>
    obtain ⟨k, hk, rfl, ha⟩ := hrel
    by_cases hlt : k < n
    · have hlk : k < l.length := by omega
      obtain ⟨z, hz⟩ : ∃ z, l[k] = z := ⟨_, rfl⟩
      have hcell : w.cell? ⟨g, k, none⟩ = some (.string z) := by
        rw [hg.cell, hcs, ← hz]
        simp [hlk]
      have HA := Lib.hid ha
      have HZ := Lib.hid (show l[k]? = some z by rw [List.getElem?_eq_getElem hlk, hz])
      clear hn ha hz hlk hcs
      by_cases h5 : (500 : Int) < z.size
      · obtain rfl : R = true := by
          rw [← HR.out]
          unfold longB
          rw [List.any_eq_true]
          exact ⟨z, List.mem_of_getElem? HZ.out, by simp; omega⟩
        go_wp2
        go_ret
        exact ⟨rfl, rfl⟩
      · go_wp2
        go_round
        case rel =>
          refine ⟨k + 1, by omega, by go_num, ?_⟩
          have := HA.out
          unfold longB at this ⊢
          rw [List.take_add_one, HZ.out, List.any_append, this]
          simp
          omega
        case measure => simp [intOf]; omega
    · have HA := Lib.hid ha
      clear hn ha hcs
      obtain rfl : k = n := by omega
      obtain rfl : R = false := by
        have h2 := HA.out
        rw [List.take_of_length_le (Nat.le_of_eq HN.out)] at h2
        rw [← HR.out, h2]
      clear HR HA
      go_wp2
      go_ret
      exact ⟨rfl, rfl⟩
theorem long_3 {w : World} {g : Nat} {s0 s1 s2 : ByteArray} {R : Bool} (h : Whole w g 9 #[.string s0, .string s1, .string s2]) (hR : longB [s0, s1, s2] = R) :
    Calls Tryd.prog 7 #[.slice (some ⟨g, 0, none⟩) 3 3] w fun e w' => e = .returned (.bool R) ∧ w = w' :=
  long_any (l := [s0, s1, s2]) h rfl rfl (show 3 ≤ 1000 by decide) hR
theorem long_5 {w : World} {g : Nat} {s0 s1 s2 s3 s4 : ByteArray} {R : Bool} (h : Whole w g 9 #[.string s0, .string s1, .string s2, .string s3, .string s4]) (hR : longB [s0, s1, s2, s3, s4] = R) :
    Calls Tryd.prog 7 #[.slice (some ⟨g, 0, none⟩) 5 5] w fun e w' => e = .returned (.bool R) ∧ w = w' :=
  long_any (l := [s0, s1, s2, s3, s4]) h rfl rfl (show 5 ≤ 1000 by decide) hR
theorem long_7 {w : World} {g : Nat} {s0 s1 s2 s3 s4 s5 s6 : ByteArray} {R : Bool} (h : Whole w g 9 #[.string s0, .string s1, .string s2, .string s3, .string s4, .string s5, .string s6]) (hR : longB [s0, s1, s2, s3, s4, s5, s6] = R) :
    Calls Tryd.prog 7 #[.slice (some ⟨g, 0, none⟩) 7 7] w fun e w' => e = .returned (.bool R) ∧ w = w' :=
  long_any (l := [s0, s1, s2, s3, s4, s5, s6]) h rfl rfl (show 7 ≤ 1000 by decide) hR
end Go.Proofs.YthgcmcdacejelaaDoor
