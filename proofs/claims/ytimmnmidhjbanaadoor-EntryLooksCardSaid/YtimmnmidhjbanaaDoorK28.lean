/- The puts of both, of what may be and of what may not, in one form. Structs of an entry's held against each other: Same, of both; light. -/
import Derived.Test.YtimmnmidhjbanaaDoorK20
import Derived.Test.YtimmnmidhjbanaaDoorK23
import Derived.Test.YtimmnmidhjbanaaDoorK27
namespace Go.Proofs.YtimmnmidhjbanaaDoor
open Go.RowKit
set_option linter.unusedVariables false
theorem rightOp_at {kind x y : Int} {key val : ByteArray} {cl seq : Int} {b : Bool} (hb : opB kind x y key val cl seq = b) (w : World) :
    Calls Tryd.prog 50 #[.agg #[.int .i64 kind, .int .i64 x, .int .i64 y, .string key, .string val, .int .i64 cl, .int .i64 seq]] w fun e w' => e = .returned (.bool b) ∧ Below w.heap.size w w' := hb ▸ rightOp_any kind x y key val cl seq w
end Go.Proofs.YtimmnmidhjbanaaDoor
namespace Go.Proofs.YtimmnmidhjbanaaDoor
open Go.RowKit
set_option linter.unusedVariables false
set_option linter.unusedSimpArgs false
theorem bytes_inj {a b : ByteArray} : a.toList = b.toList ↔ a = b := by
  constructor
  · intro h
    rw [ByteArray.toList_eq, ByteArray.toList_eq] at h
    obtain ⟨⟨x⟩⟩ := a
    obtain ⟨⟨y⟩⟩ := b
    have h' : x = y := h
    rw [h']
  · rintro rfl; rfl
/-- Are two calls the same? -/
def opE (a b : En) : Bool := a.ok == b.ok && (a.x == b.x && (a.y == b.y && (a.key.toList == b.key.toList && (a.val.toList == b.val.toList && (a.cl == b.cl && a.seq == b.seq)))))
def plainE (a b : En) : Bool := a.kind == b.kind && (a.nd == b.nd && (a.ep == b.ep && (a.bx == b.bx && opE a b)))
theorem opE_iff (a b : En) : opE a b = true ↔ a.ok = b.ok ∧ a.x = b.x ∧ a.y = b.y ∧ a.key = b.key ∧ a.val = b.val ∧ a.cl = b.cl ∧ a.seq = b.seq := by
  unfold opE
  simp only [Bool.and_eq_true, beq_iff_eq, bytes_inj]
theorem plainE_iff (a b : En) : plainE a b = true ↔ a = b := by
  unfold plainE
  simp only [Bool.and_eq_true, beq_iff_eq, opE_iff]
  obtain ⟨a1, a2, a3, a4, a5, a6, a7, a8, a9, a10, a11⟩ := a
  obtain ⟨b1, b2, b3, b4, b5, b6, b7, b8, b9, b10, b11⟩ := b
  simp only [En.mk.injEq]
  constructor
  · rintro ⟨rfl, rfl, rfl, rfl, rfl, rfl, rfl, rfl, rfl, rfl, rfl⟩
    exact ⟨rfl, rfl, rfl, rfl, rfl, rfl, rfl, rfl, rfl, rfl, rfl⟩
  · rintro ⟨rfl, rfl, rfl, rfl, rfl, rfl, rfl, rfl, rfl, rfl, rfl⟩
    exact ⟨rfl, rfl, rfl, rfl, rfl, rfl, rfl, rfl, rfl, rfl, rfl⟩
set_option maxHeartbeats 1600000 in
theorem plain_eql (kind ok x y : Int) (key val : ByteArray) (cl seq nd ep bx : Int) (kind2 ok2 x2 y2 : Int) (key2 val2 : ByteArray) (cl2 seq2 nd2 ep2 bx2 : Int) (W : World) :
    (binOp .eql 85 (.agg #[.int .i64 kind, .int .i64 nd, .int .i64 ep, .int .i64 bx, .int .i64 ok, .int .i64 x, .int .i64 y, .string key, .string val, .int .i64 cl, .int .i64 seq]) (.agg #[.int .i64 kind2, .int .i64 nd2, .int .i64 ep2, .int .i64 bx2, .int .i64 ok2, .int .i64 x2, .int .i64 y2, .string key2, .string val2, .int .i64 cl2, .int .i64 seq2])).run Tryd.prog W = .ok (.bool (plainE (⟨kind, ok, x, y, key, val, cl, seq, nd, ep, bx⟩ : En) (⟨kind2, ok2, x2, y2, key2, val2, cl2, seq2, nd2, ep2, bx2⟩ : En))) W := by
  unfold plainE opE
  go_simp
  repeat' split
  all_goals simp only [*, beq_self_eq_true, Bool.and_self, Bool.true_and, Bool.and_true, beq_eq_false_iff_ne.2, Bool.false_and, Bool.and_false, ne_eq, not_false_eq_true]
theorem plainOf_any (kind ok x y : Int) (key val : ByteArray) (cl seq nd ep bx : Int) (ca : Option Addr) (cn cc : Nat) (w : World) : Calls Tryd.prog 54 #[.agg #[.int .i64 kind, .int .i64 ok, .int .i64 x, .int .i64 y, .string key, .string val, .int .i64 cl, .int .i64 seq, .int .i64 nd, .int .i64 ep, .int .i64 bx, .slice ca cn cc]] w fun e w' => e = .returned (.agg #[.int .i64 kind, .int .i64 nd, .int .i64 ep, .int .i64 bx, .int .i64 ok, .int .i64 x, .int .i64 y, .string key, .string val, .int .i64 cl, .int .i64 seq]) ∧ Below w.heap.size w w' := by
  go_enter Tryd.func54, Tryd.ntmps54
  go_wp2
  exact bodyPost_ret (results_cell_row rfl _ _ (w.heap.size + 1) 85 _ (0, 0) _ rfl ((Whole.new (w.alloc _) _ _).at_ (by simp)) Tryd.underlying85 rfl (by kernel_rfl)) rfl ⟨rfl, ((Since.refl w).alloc _).alloc _⟩
def lightB11 (key val : ByteArray) (n : Nat) : Bool := decide (wrap64 ((key.size : Int) + val.size) ≤ 400) && decide (n ≤ 40)
theorem light11_len {key val : ByteArray} {n : Nat} (h : lightB11 key val n = true) : n ≤ 40 := by
  unfold lightB11 at h
  rw [Bool.and_eq_true] at h
  exact of_decide_eq_true h.2
theorem light11_any (kind ok x y : Int) (key val : ByteArray) (cl seq nd ep bx : Int) (ca : Option Addr) (cn cc : Nat) {r : Bool} (hr : lightB11 key val cn = r) (w : World) : Calls Tryd.prog 7 #[.agg #[.int .i64 kind, .int .i64 ok, .int .i64 x, .int .i64 y, .string key, .string val, .int .i64 cl, .int .i64 seq, .int .i64 nd, .int .i64 ep, .int .i64 bx, .slice ca cn cc]] w fun e w' => e = .returned (.bool r) ∧ Below w.heap.size w w' := by
  unfold lightB11 at hr
  cases h1 : decide (wrap64 ((key.size : Int) + val.size) ≤ 400) with
  | true =>
    rw [h1, Bool.true_and] at hr
    have h2 : decide ((cn : Int) ≤ 40) = r := by
      rw [← hr]
      by_cases h : cn ≤ 40
      · rw [decide_eq_true h]; exact decide_eq_true (by omega)
      · rw [decide_eq_false h]; exact decide_eq_false (by omega)
    clear hr
    go_enter Tryd.func7, Tryd.ntmps7
    go_wp2
    go_ret
    exact ⟨by simp [h2], (Since.refl w).alloc _⟩
  | false =>
    rw [h1, Bool.false_and] at hr
    subst hr
    go_enter Tryd.func7, Tryd.ntmps7
    go_wp2
    go_ret
    exact ⟨rfl, (Since.refl w).alloc _⟩
theorem num11_any (k : Int) (w : World) : Calls Tryd.prog 19 #[.int .i64 k] w fun e w' => e = .returned (.int .i64 k) ∧ w = w' := by
  go_enter Tryd.func19, Tryd.ntmps19
  go_wp2
  go_ret
  exact ⟨rfl, rfl⟩
end Go.Proofs.YtimmnmidhjbanaaDoor
