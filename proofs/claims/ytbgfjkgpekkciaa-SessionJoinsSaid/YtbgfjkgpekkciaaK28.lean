/- session.Clone. -/
import Derived.Test.YtbgfjkgpekkciaaK05
import Derived.Test.YtbgfjkgpekkciaaK27
namespace Go.Proofs.Ytbgfjkgpekkciaa
open Go.RowKit
set_option linter.unusedVariables false
set_option linter.unusedSimpArgs false
section
variable {w : World} {g : Nat} {L : STab}
theorem pcells_info : (Try.prog.info? 71).map (·.size) = some 41 := by kernel_rfl
theorem pcells_one (L : STab) : (pcells L).all (·.oneCell') = true := by
  rw [Array.all_eq_true_iff_forall_mem]
  intro v hv
  unfold pcells at hv
  simp only [List.mem_toArray, List.mem_cons] at hv
  rcases hv with rfl | hv
  · rfl
  · obtain ⟨r, _, h⟩ := List.mem_flatMap.1 hv
    exact encSP_one r v h
set_option maxRecDepth 100000 in
theorem tclone_any (h : PTab w g L) : Calls Try.prog 38 #[.pointer (some ⟨g, 0, none⟩)] w fun e w' => e = .returned (.pointer (some ⟨w.heap.size, 0, none⟩)) ∧ PTab w' w.heap.size L ∧ Since w w' := by
  have hlen := h.1
  have hl := loadAt_cells (P := Try.prog) 71 g 0 41 _ _ _ _ _ h.2 (show _ = Value.bool true :: L.flatMap encSP from List.take_of_length_le (by rw [List.length_drop, List.length_cons, flatSP_len, hlen]; decide)) (by rw [List.length_cons, flatSP_len, hlen]) Try.underlying71 rfl pcells_info
  have hst := run_storeAt_new (P := Try.prog) w 71 #[.bool false, .int .i64 0, .bool false, .string ⟨#[]⟩, .int .i64 0, .int .i64 0, .int .i64 0, .bool false, .string ⟨#[]⟩, .int .i64 0, .int .i64 0, .int .i64 0, .bool false, .string ⟨#[]⟩, .int .i64 0, .int .i64 0, .int .i64 0, .bool false, .string ⟨#[]⟩, .int .i64 0, .int .i64 0, .int .i64 0, .bool false, .string ⟨#[]⟩, .int .i64 0, .int .i64 0, .int .i64 0, .bool false, .string ⟨#[]⟩, .int .i64 0, .int .i64 0, .int .i64 0, .bool false, .string ⟨#[]⟩, .int .i64 0, .int .i64 0, .int .i64 0, .bool false, .string ⟨#[]⟩, .int .i64 0, .int .i64 0] (pcells L) (by rw [pcells_info, pcells_size hlen]) (by rw [pcells_size hlen]; rfl) (pcells_one L)
  have HL := Lib.hid hl
  have HS := Lib.hid hst
  clear hl hst
  go_enter Try.func38, Try.ntmps38
  go_wp2_with (first
    | (go_at_call 37; (with_reducible refine (none_any h).mono ?_); rintro e w' ⟨rfl, rfl⟩)
    | refine wpList_load_is rfl _ _ rfl rfl HL.out ?_
    | refine wpList_store_is rfl _ _ _ rfl rfl rfl HS.out ?_)
  go_ret
  exact ⟨rfl, ⟨hlen, Whole.new w _ _⟩, (Since.refl w).alloc _⟩
end
end Go.Proofs.Ytbgfjkgpekkciaa
