/- entry.rightHeirs, Right. -/
import Derived.Test.YtimmnmidhjbanaaDoorK30
namespace Go.Proofs.YtimmnmidhjbanaaDoor
open Go.RowKit
set_option linter.unusedVariables false
set_option linter.unusedSimpArgs false
section
variable {B : Nat} {kind ok x y : Int} {key val : ByteArray} {cl seq nd ep bx : Int} {ca : Option Addr} {cn cc : Nat} {l : List Int} {w : World}
set_option maxRecDepth 100000 in
set_option maxHeartbeats 1600000 in
theorem rightHeirs_any (h : LZ B w (.slice ca cn cc) l) (hB : B ≤ w.heap.size) (hl : l.length ≤ 1000000) {c p q : Bool} (hc : chainB l = c) (hp : memZ l nd = p) (hq : memZ l bx = q) :
    Calls Tryd.prog 53 #[.agg #[.int .i64 kind, .int .i64 ok, .int .i64 x, .int .i64 y, .string key, .string val, .int .i64 cl, .int .i64 seq, .int .i64 nd, .int .i64 ep, .int .i64 bx, .slice ca cn cc]] w fun e w' => e = .returned (.bool (c && (p && !q))) ∧ Below w.heap.size w w' := by
  have HA := Lib.hid (fun W (hW : Since w W) => h.since hW hB)
  have HC := Lib.hid hc
  have HP := Lib.hid hp
  have HQ := Lib.hid hq
  have HL := Lib.hid (And.intro hl hB)
  clear h hB hl hc hp hq
  obtain ⟨w0, hw0⟩ : ∃ w0, w0 = w.alloc (.cells #[.int .i64 kind, .int .i64 ok, .int .i64 x, .int .i64 y, .string key, .string val, .int .i64 cl, .int .i64 seq, .int .i64 nd, .int .i64 ep, .int .i64 bx, .slice ca cn cc] 37) := ⟨_, rfl⟩
  have hs0 : Since w w0 := by rw [hw0]; exact (Since.refl w).alloc _
  have wh0 : Whole w0 (w.heap.size) 37 #[.int .i64 kind, .int .i64 ok, .int .i64 x, .int .i64 y, .string key, .string val, .int .i64 cl, .int .i64 seq, .int .i64 nd, .int .i64 ep, .int .i64 bx, .slice ca cn cc] := by rw [hw0]; exact Whole.new w _ _
  have HW := Lib.hid hw0
  have c0_0 := box_cell wh0 0 (.int .i64 kind) rfl
  have c0_1 := box_cell wh0 1 (.int .i64 ok) rfl
  have c0_2 := box_cell wh0 2 (.int .i64 x) rfl
  have c0_3 := box_cell wh0 3 (.int .i64 y) rfl
  have c0_4 := box_cell wh0 4 (.string key) rfl
  have c0_5 := box_cell wh0 5 (.string val) rfl
  have c0_6 := box_cell wh0 6 (.int .i64 cl) rfl
  have c0_7 := box_cell wh0 7 (.int .i64 seq) rfl
  have c0_8 := box_cell wh0 8 (.int .i64 nd) rfl
  have c0_9 := box_cell wh0 9 (.int .i64 ep) rfl
  have c0_10 := box_cell wh0 10 (.int .i64 bx) rfl
  have c0_11 := box_cell wh0 11 (.slice ca cn cc) rfl
  have hsr := Since.refl w0
  have hsd := hsr.drew
  clear hw0 wh0
  cases c with
  | false =>
    go_enter Tryd.func53, Tryd.ntmps53
    go_wp2_with fail
    rw [← HW.out]
    go_wp2_with (go_at_call 24; (with_reducible refine (rightChain_any (HA.out _ hs0) (Nat.le_trans HL.out.2 hs0.size_) HL.out.1 HC.out).mono ?_); rintro e w2 ⟨rfl, hb2⟩; (have hs2 : Since w0 w2 := hb2))
    go_ret
    exact ⟨by simp, hs0.trans hs2⟩
  | true =>
    cases p with
    | false =>
      go_enter Tryd.func53, Tryd.ntmps53
      go_wp2_with fail
      rw [← HW.out]
      go_wp2_with (first | (go_at_call 24; (with_reducible refine (rightChain_any (HA.out _ hs0) (Nat.le_trans HL.out.2 hs0.size_) HL.out.1 HC.out).mono ?_); rintro e w2 ⟨rfl, hb2⟩; (have hs2 : Since w0 w2 := hb2)) | (go_at_call 79; (with_reducible refine (contains_any (HA.out _ (hs0.trans hs2)) HL.out.1 (by first | exact HP.out | exact HQ.out)).mono ?_); rintro e w3 ⟨rfl, rfl⟩))
      go_ret
      exact ⟨by simp, hs0.trans hs2⟩
    | true =>
      go_enter Tryd.func53, Tryd.ntmps53
      go_wp2_with fail
      rw [← HW.out]
      go_wp2_with (first | (go_at_call 24; (with_reducible refine (rightChain_any (HA.out _ hs0) (Nat.le_trans HL.out.2 hs0.size_) HL.out.1 HC.out).mono ?_); rintro e w2 ⟨rfl, hb2⟩; (have hs2 : Since w0 w2 := hb2)) | (go_at_call 79; (with_reducible refine (contains_any (HA.out _ (hs0.trans hs2)) HL.out.1 (by first | exact HP.out | exact HQ.out)).mono ?_); rintro e w3 ⟨rfl, rfl⟩))
      go_ret
      exact ⟨by simp, hs0.trans hs2⟩
end
theorem opZ_E (e : En) : opZ e = opE e ⟨0, 0, 0, 0, ⟨#[]⟩, ⟨#[]⟩, 0, 0, 0, 0, 0⟩ := by
  have h1 := opE_iff e ⟨0, 0, 0, 0, ⟨#[]⟩, ⟨#[]⟩, 0, 0, 0, 0, 0⟩
  unfold opZ
  rw [Bool.eq_iff_iff, h1]
  simp only [Bool.and_eq_true, beq_iff_eq, decide_eq_true_eq]
/-- What the program's Right asks of each kind comes to the same. -/
theorem same_call {e : En} (h : e.kind = 1) (l : List Int) : (plainE e ⟨1, e.ok, e.x, e.y, e.key, e.val, e.cl, e.seq, 0, 0, 0⟩ && sameZ l []) = (e.nd == 0 && (e.ep == 0 && (e.bx == 0 && l.isEmpty))) := by
  rw [Bool.eq_iff_iff, Bool.and_eq_true, plainE_iff, sameZ_iff]
  obtain ⟨a1, a2, a3, a4, a5, a6, a7, a8, a9, a10, a11⟩ := e
  simp only at h
  subst h
  simp [and_assoc]
theorem same_add {e : En} (l : List Int) : (plainE e ⟨e.kind, 0, 0, 0, ⟨#[]⟩, ⟨#[]⟩, 0, 0, e.nd, 0, 0⟩ && sameZ l []) = (opZ e && (e.ep == 0 && (e.bx == 0 && l.isEmpty))) := by
  rw [opZ_E, Bool.eq_iff_iff, Bool.and_eq_true, plainE_iff, sameZ_iff]
  obtain ⟨a1, a2, a3, a4, a5, a6, a7, a8, a9, a10, a11⟩ := e
  simp only [Bool.and_eq_true, opE_iff, En.mk.injEq, beq_iff_eq, List.isEmpty_iff]
  constructor
  · rintro ⟨⟨h1, h2, h3, h4, h5, h6, h7, h8, h9, h10, h11⟩, h12⟩
    exact ⟨⟨h2, h3, h4, h5, h6, h7, h8⟩, h10, h11, h12⟩
  · rintro ⟨⟨h2, h3, h4, h5, h6, h7, h8⟩, h10, h11, h12⟩
    exact ⟨⟨trivial, h2, h3, h4, h5, h6, h7, h8, trivial, h10, h11⟩, h12⟩
section
variable {B : Nat} {kind ok x y : Int} {key val : ByteArray} {cl seq nd ep bx : Int} {ca : Option Addr} {cn cc : Nat} {l : List Int} {w : World}
set_option maxRecDepth 100000 in
set_option maxHeartbeats 3200000 in
theorem right11_call (h : LZ B w (.slice ca cn cc) l) (hB : B ≤ w.heap.size) (hl : l.length ≤ 1000000) {r : Bool} (hr : rightB (⟨1, ok, x, y, key, val, cl, seq, nd, ep, bx⟩ : En) l = r) :
    Calls Tryd.prog 23 #[.agg #[.int .i64 1, .int .i64 ok, .int .i64 x, .int .i64 y, .string key, .string val, .int .i64 cl, .int .i64 seq, .int .i64 nd, .int .i64 ep, .int .i64 bx, .slice ca cn cc]] w fun e w' => e = .returned (.bool r) ∧ Below w.heap.size w w' := by
  have hr' : (opB ok x y key val cl seq && (plainE (⟨1, ok, x, y, key, val, cl, seq, nd, ep, bx⟩ : En) ⟨1, ok, x, y, key, val, cl, seq, 0, 0, 0⟩ && sameZ l [])) = r := by
    have := same_call (e := ⟨1, ok, x, y, key, val, cl, seq, nd, ep, bx⟩) rfl l
    dsimp only at this
    rw [this, ← hr]
    unfold rightB En.opR
    rw [if_pos rfl]
  clear hr
  obtain ⟨b, hb⟩ : ∃ b, opB ok x y key val cl seq = b := ⟨_, rfl⟩
  obtain ⟨p, hp⟩ : ∃ p, plainE (⟨1, ok, x, y, key, val, cl, seq, nd, ep, bx⟩ : En) ⟨1, ok, x, y, key, val, cl, seq, 0, 0, 0⟩ = p := ⟨_, rfl⟩
  obtain ⟨q, hq⟩ : ∃ q, sameZ l [] = q := ⟨_, rfl⟩
  rw [hb, hp, hq] at hr'
  have HA := Lib.hid (fun W (hW : Since w W) => h.since hW hB)
  have HL := Lib.hid (And.intro hl hB)
  have HO := Lib.hid hb
  have HE := Lib.hid (And.intro hp hq)
  clear h hB hl hb hp hq
  subst hr'
  obtain ⟨w0, hw0⟩ : ∃ w0, w0 = w.alloc (.cells #[.int .i64 1, .int .i64 ok, .int .i64 x, .int .i64 y, .string key, .string val, .int .i64 cl, .int .i64 seq, .int .i64 nd, .int .i64 ep, .int .i64 bx, .slice ca cn cc] 37) := ⟨_, rfl⟩
  have hs0 : Since w w0 := by rw [hw0]; exact (Since.refl w).alloc _
  have wh0 : Whole w0 (w.heap.size) 37 #[.int .i64 1, .int .i64 ok, .int .i64 x, .int .i64 y, .string key, .string val, .int .i64 cl, .int .i64 seq, .int .i64 nd, .int .i64 ep, .int .i64 bx, .slice ca cn cc] := by rw [hw0]; exact Whole.new w _ _
  have HW := Lib.hid hw0
  have c0_0 := box_cell wh0 0 (.int .i64 1) rfl
  have c0_1 := box_cell wh0 1 (.int .i64 ok) rfl
  have c0_2 := box_cell wh0 2 (.int .i64 x) rfl
  have c0_3 := box_cell wh0 3 (.int .i64 y) rfl
  have c0_4 := box_cell wh0 4 (.string key) rfl
  have c0_5 := box_cell wh0 5 (.string val) rfl
  have c0_6 := box_cell wh0 6 (.int .i64 cl) rfl
  have c0_7 := box_cell wh0 7 (.int .i64 seq) rfl
  have c0_8 := box_cell wh0 8 (.int .i64 nd) rfl
  have c0_9 := box_cell wh0 9 (.int .i64 ep) rfl
  have c0_10 := box_cell wh0 10 (.int .i64 bx) rfl
  have c0_11 := box_cell wh0 11 (.slice ca cn cc) rfl
  have hsr := Since.refl w0
  have hsd := hsr.drew
  clear hw0 wh0
  have hb2 : (1 : Int) = 1 := rfl
  cases b with
  | false =>
    go_enter Tryd.func23, Tryd.ntmps23
    go_wp2_with fail
    rw [← HW.out]
    go_wp2_with (go_at_call 50; (with_reducible refine (rightOp_at HO.out _).mono ?_); rintro e w2 ⟨rfl, hb2⟩; (have hs2 : Since w0 w2 := hb2))
    go_ret
    exact ⟨by simp, hs0.trans hs2⟩
  | true =>
    go_enter Tryd.func23, Tryd.ntmps23
    go_wp2_with fail
    rw [← HW.out]
    go_wp2_with (first | (go_at_call 50; (with_reducible refine (rightOp_at HO.out _).mono ?_); rintro e w2 ⟨rfl, hb2⟩; (have hs2 : Since w0 w2 := hb2)) | (go_at_call 25; (with_reducible refine (esame_any (B := B) (kind := 1) (kind2 := 1) (nd2 := 0) (ep2 := 0) (bx2 := 0) (HA.out _ (by first | exact hs0 | exact hs0.trans hs2)) (LZ.nil B _) (Nat.le_trans HL.out.2 (by first | exact hs0.size_ | exact (hs0.trans hs2).size_)) HL.out.1 HE.out.1 HE.out.2).mono ?_); rintro e w4 ⟨rfl, hb4⟩; (have hs4 : Since w0 w4 := Since.trans (by assumption) hb4)))
    go_ret
    exact ⟨by simp, hs0.trans hs4⟩
set_option maxRecDepth 100000 in
set_option maxHeartbeats 3200000 in
theorem right11_add (h : LZ B w (.slice ca cn cc) l) (hB : B ≤ w.heap.size) (hl : l.length ≤ 1000000) (k1 : (kind == 1) = false) (k23 : (kind == 2) = true ∨ ((kind == 2) = false ∧ (kind == 3) = true)) {r : Bool} (hr : rightB (⟨kind, ok, x, y, key, val, cl, seq, nd, ep, bx⟩ : En) l = r) :
    Calls Tryd.prog 23 #[.agg #[.int .i64 kind, .int .i64 ok, .int .i64 x, .int .i64 y, .string key, .string val, .int .i64 cl, .int .i64 seq, .int .i64 nd, .int .i64 ep, .int .i64 bx, .slice ca cn cc]] w fun e w' => e = .returned (.bool r) ∧ Below w.heap.size w w' := by
  have hr' : (nodeB nd && (plainE (⟨kind, ok, x, y, key, val, cl, seq, nd, ep, bx⟩ : En) (⟨kind, 0, 0, 0, ⟨#[]⟩, ⟨#[]⟩, 0, 0, nd, 0, 0⟩ : En) && sameZ l [])) = r := by
    have := same_add (e := (⟨kind, ok, x, y, key, val, cl, seq, nd, ep, bx⟩ : En)) l
    dsimp only at this
    rw [this, ← hr]
    unfold rightB
    rw [if_neg (by simpa using k1), if_pos (by rcases k23 with k | ⟨_, k⟩; exact .inl (by simpa using k); exact .inr (by simpa using k))]
    dsimp only
    cases nodeB nd <;> cases opZ (⟨kind, ok, x, y, key, val, cl, seq, nd, ep, bx⟩ : En) <;> rfl
  clear hr
  obtain ⟨b, hb⟩ : ∃ b, nodeB nd = b := ⟨_, rfl⟩
  obtain ⟨p, hp⟩ : ∃ p, plainE (⟨kind, ok, x, y, key, val, cl, seq, nd, ep, bx⟩ : En) (⟨kind, 0, 0, 0, ⟨#[]⟩, ⟨#[]⟩, 0, 0, nd, 0, 0⟩ : En) = p := ⟨_, rfl⟩
  obtain ⟨q, hq⟩ : ∃ q, sameZ l [] = q := ⟨_, rfl⟩
  rw [hb, hp, hq] at hr'
  have HA := Lib.hid (fun W (hW : Since w W) => h.since hW hB)
  have HL := Lib.hid (And.intro hl hB)
  have HO := Lib.hid hb
  have HE := Lib.hid (And.intro hp hq)
  clear h hB hl hb hp hq
  subst hr'
  obtain ⟨w0, hw0⟩ : ∃ w0, w0 = w.alloc (.cells #[.int .i64 kind, .int .i64 ok, .int .i64 x, .int .i64 y, .string key, .string val, .int .i64 cl, .int .i64 seq, .int .i64 nd, .int .i64 ep, .int .i64 bx, .slice ca cn cc] 37) := ⟨_, rfl⟩
  have hs0 : Since w w0 := by rw [hw0]; exact (Since.refl w).alloc _
  have wh0 : Whole w0 (w.heap.size) 37 #[.int .i64 kind, .int .i64 ok, .int .i64 x, .int .i64 y, .string key, .string val, .int .i64 cl, .int .i64 seq, .int .i64 nd, .int .i64 ep, .int .i64 bx, .slice ca cn cc] := by rw [hw0]; exact Whole.new w _ _
  have HW := Lib.hid hw0
  have c0_0 := box_cell wh0 0 (.int .i64 kind) rfl
  have c0_1 := box_cell wh0 1 (.int .i64 ok) rfl
  have c0_2 := box_cell wh0 2 (.int .i64 x) rfl
  have c0_3 := box_cell wh0 3 (.int .i64 y) rfl
  have c0_4 := box_cell wh0 4 (.string key) rfl
  have c0_5 := box_cell wh0 5 (.string val) rfl
  have c0_6 := box_cell wh0 6 (.int .i64 cl) rfl
  have c0_7 := box_cell wh0 7 (.int .i64 seq) rfl
  have c0_8 := box_cell wh0 8 (.int .i64 nd) rfl
  have c0_9 := box_cell wh0 9 (.int .i64 ep) rfl
  have c0_10 := box_cell wh0 10 (.int .i64 bx) rfl
  have c0_11 := box_cell wh0 11 (.slice ca cn cc) rfl
  have hsr := Since.refl w0
  have hsd := hsr.drew
  clear hw0 wh0
  rcases k23 with k2 | ⟨k2, k3⟩
  all_goals
    cases b with
    | false =>
      go_enter Tryd.func23, Tryd.ntmps23
      go_wp2_with fail
      rw [← HW.out]
      go_wp2_with (go_at_call 51; (with_reducible refine (isNode_at HO.out _).mono ?_); rintro e w2 ⟨rfl, rfl⟩)
      go_ret
      exact ⟨by simp, hs0⟩
    | true =>
      go_enter Tryd.func23, Tryd.ntmps23
      go_wp2_with fail
      rw [← HW.out]
      have hs2 := hsr
      go_wp2_with (first | (go_at_call 51; (with_reducible refine (isNode_at HO.out _).mono ?_); rintro e w2 ⟨rfl, rfl⟩) | (go_at_call 25; (with_reducible refine (esame_any (B := B)  (HA.out _ (by first | exact hs0 | exact hs0.trans hs2)) (LZ.nil B _) (Nat.le_trans HL.out.2 (by first | exact hs0.size_ | exact (hs0.trans hs2).size_)) HL.out.1 HE.out.1 HE.out.2).mono ?_); rintro e w4 ⟨rfl, hb4⟩; (have hs4 : Since w0 w4 := Since.trans (by assumption) hb4)))
      go_ret
      exact ⟨by simp, hs0.trans hs4⟩
theorem toList_nil {a : ByteArray} : a.toList = [] ↔ a = ⟨#[]⟩ := by
  have e0 : (⟨#[]⟩ : ByteArray).toList = [] := by rw [ByteArray.toList_eq]
  constructor
  · intro h; exact bytes_inj.1 (h.trans e0.symm)
  · rintro rfl; exact e0
set_option maxRecDepth 100000 in
set_option maxHeartbeats 6400000 in
theorem right11_move (h : LZ B w (.slice ca cn cc) l) (hB : B ≤ w.heap.size) (hl : l.length ≤ 1000000) (k1 : (kind == 1) = false) (k2 : (kind == 2) = false) (k3 : (kind == 3) = false) (k45 : (kind == 4) = true ∨ ((kind == 4) = false ∧ (kind == 5) = true)) {r : Bool} (hr : rightB (⟨kind, ok, x, y, key, val, cl, seq, nd, ep, bx⟩ : En) l = r) :
    Calls Tryd.prog 23 #[.agg #[.int .i64 kind, .int .i64 ok, .int .i64 x, .int .i64 y, .string key, .string val, .int .i64 cl, .int .i64 seq, .int .i64 nd, .int .i64 ep, .int .i64 bx, .slice ca cn cc]] w fun e w' => e = .returned (.bool r) ∧ Below w.heap.size w w' := by
  have hr' : (opZ (⟨kind, ok, x, y, key, val, cl, seq, nd, ep, bx⟩ : En) && (epochB ep && (nodeB bx && (chainB l && (memZ l nd && !memZ l bx))))) = r := by
    rw [← hr]
    unfold rightB
    rw [if_neg (by simpa using k1), if_neg (by rintro (k | k); exact absurd k (by simpa using k2); exact absurd k (by simpa using k3)), if_pos (by rcases k45 with k | ⟨_, k⟩; exact .inl (by simpa using k); exact .inr (by simpa using k))]
  clear hr
  have HA := Lib.hid (fun W (hW : Since w W) => h.since hW hB)
  have HL := Lib.hid (And.intro hl hB)
  obtain ⟨b2, hb2⟩ : ∃ b, epochB ep = b := ⟨_, rfl⟩
  obtain ⟨b3, hb3⟩ : ∃ b, nodeB bx = b := ⟨_, rfl⟩
  obtain ⟨c1, hc1⟩ : ∃ b, chainB l = b := ⟨_, rfl⟩
  obtain ⟨c2, hc2⟩ : ∃ b, memZ l nd = b := ⟨_, rfl⟩
  obtain ⟨c3, hc3⟩ : ∃ b, memZ l bx = b := ⟨_, rfl⟩
  rw [hb2, hb3, hc1, hc2, hc3] at hr'
  have H2 := Lib.hid hb2
  have H3 := Lib.hid hb3
  have HC := Lib.hid (And.intro hc1 (And.intro hc2 hc3))
  clear h hB hl hb2 hb3 hc1 hc2 hc3
  by_cases h0 : ok = 0
  rotate_left
  · have f0 : ¬ ok = 0 := h0
    obtain rfl : r = false := by rw [← hr']; unfold opZ; simp [f0]
    clear f0
    have g0 : (ok == 0) = false := by rw [beq_eq_false_iff_ne]; exact h0
    clear hr' 
    clear HA HL H2 H3 HC
    rcases k45 with k4 | ⟨k4, k5⟩
    all_goals
      go_enter Tryd.func23, Tryd.ntmps23
      go_wp2
      go_ret
      exact ⟨rfl, (Since.refl w).alloc _⟩
  by_cases h1 : x = 0
  rotate_left
  · have f1 : ¬ x = 0 := h1
    obtain rfl : r = false := by rw [← hr']; unfold opZ; simp [f1]
    clear f1
    have g1 : (x == 0) = false := by rw [beq_eq_false_iff_ne]; exact h1
    obtain rfl : ok = 0 := h0
    clear hr' 
    clear HA HL H2 H3 HC
    rcases k45 with k4 | ⟨k4, k5⟩
    all_goals
      go_enter Tryd.func23, Tryd.ntmps23
      go_wp2
      go_ret
      exact ⟨rfl, (Since.refl w).alloc _⟩
  by_cases h2 : y = 0
  rotate_left
  · have f2 : ¬ y = 0 := h2
    obtain rfl : r = false := by rw [← hr']; unfold opZ; simp [f2]
    clear f2
    have g2 : (y == 0) = false := by rw [beq_eq_false_iff_ne]; exact h2
    obtain rfl : ok = 0 := h0
    obtain rfl : x = 0 := h1
    clear hr' 
    clear HA HL H2 H3 HC
    rcases k45 with k4 | ⟨k4, k5⟩
    all_goals
      go_enter Tryd.func23, Tryd.ntmps23
      go_wp2
      go_ret
      exact ⟨rfl, (Since.refl w).alloc _⟩
  by_cases h3 : key.toList = []
  rotate_left
  · have f3 : ¬ key = ⟨#[]⟩ := fun e => h3 (toList_nil.2 e)
    obtain rfl : r = false := by rw [← hr']; unfold opZ; simp [f3]
    clear f3
    obtain rfl : ok = 0 := h0
    obtain rfl : x = 0 := h1
    obtain rfl : y = 0 := h2
    clear hr' 
    clear HA HL H2 H3 HC
    rcases k45 with k4 | ⟨k4, k5⟩
    all_goals
      go_enter Tryd.func23, Tryd.ntmps23
      go_wp2
      go_ret
      exact ⟨rfl, (Since.refl w).alloc _⟩
  by_cases h4 : val.toList = []
  rotate_left
  · have f4 : ¬ val = ⟨#[]⟩ := fun e => h4 (toList_nil.2 e)
    obtain rfl : r = false := by rw [← hr']; unfold opZ; simp [f4]
    clear f4
    obtain rfl : ok = 0 := h0
    obtain rfl : x = 0 := h1
    obtain rfl : y = 0 := h2
    obtain rfl : key = ⟨#[]⟩ := (toList_nil.1 h3)
    clear hr' h3
    clear HA HL H2 H3 HC
    rcases k45 with k4 | ⟨k4, k5⟩
    all_goals
      go_enter Tryd.func23, Tryd.ntmps23
      go_wp2
      go_ret
      exact ⟨rfl, (Since.refl w).alloc _⟩
  by_cases h5 : cl = 0
  rotate_left
  · have f5 : ¬ cl = 0 := h5
    obtain rfl : r = false := by rw [← hr']; unfold opZ; simp [f5]
    clear f5
    have g5 : (cl == 0) = false := by rw [beq_eq_false_iff_ne]; exact h5
    obtain rfl : ok = 0 := h0
    obtain rfl : x = 0 := h1
    obtain rfl : y = 0 := h2
    obtain rfl : key = ⟨#[]⟩ := (toList_nil.1 h3)
    obtain rfl : val = ⟨#[]⟩ := (toList_nil.1 h4)
    clear hr' h3 h4
    clear HA HL H2 H3 HC
    rcases k45 with k4 | ⟨k4, k5⟩
    all_goals
      go_enter Tryd.func23, Tryd.ntmps23
      go_wp2
      go_ret
      exact ⟨rfl, (Since.refl w).alloc _⟩
  by_cases h6 : seq = 0
  rotate_left
  · have f6 : ¬ seq = 0 := h6
    obtain rfl : r = false := by rw [← hr']; unfold opZ; simp [f6]
    clear f6
    have g6 : (seq == 0) = false := by rw [beq_eq_false_iff_ne]; exact h6
    obtain rfl : ok = 0 := h0
    obtain rfl : x = 0 := h1
    obtain rfl : y = 0 := h2
    obtain rfl : key = ⟨#[]⟩ := (toList_nil.1 h3)
    obtain rfl : val = ⟨#[]⟩ := (toList_nil.1 h4)
    obtain rfl : cl = 0 := h5
    clear hr' h3 h4
    clear HA HL H2 H3 HC
    rcases k45 with k4 | ⟨k4, k5⟩
    all_goals
      go_enter Tryd.func23, Tryd.ntmps23
      go_wp2
      go_ret
      exact ⟨rfl, (Since.refl w).alloc _⟩
  obtain rfl : ok = 0 := h0
  obtain rfl : x = 0 := h1
  obtain rfl : y = 0 := h2
  obtain rfl : key = ⟨#[]⟩ := (toList_nil.1 h3)
  obtain rfl : val = ⟨#[]⟩ := (toList_nil.1 h4)
  obtain rfl : cl = 0 := h5
  obtain rfl : seq = 0 := h6
  clear h3 h4
  rw [show opZ (⟨kind, 0, 0, 0, ⟨#[]⟩, ⟨#[]⟩, 0, 0, nd, ep, bx⟩ : En) = true from rfl, Bool.true_and] at hr'
  subst hr'
  obtain ⟨w0, hw0⟩ : ∃ w0, w0 = w.alloc (.cells #[.int .i64 kind, .int .i64 0, .int .i64 0, .int .i64 0, .string ⟨#[]⟩, .string ⟨#[]⟩, .int .i64 0, .int .i64 0, .int .i64 nd, .int .i64 ep, .int .i64 bx, .slice ca cn cc] 37) := ⟨_, rfl⟩
  have hs0 : Since w w0 := by rw [hw0]; exact (Since.refl w).alloc _
  have wh0 : Whole w0 (w.heap.size) 37 #[.int .i64 kind, .int .i64 0, .int .i64 0, .int .i64 0, .string ⟨#[]⟩, .string ⟨#[]⟩, .int .i64 0, .int .i64 0, .int .i64 nd, .int .i64 ep, .int .i64 bx, .slice ca cn cc] := by rw [hw0]; exact Whole.new w _ _
  have HW := Lib.hid hw0
  have c0_0 := box_cell wh0 0 (.int .i64 kind) rfl
  have c0_1 := box_cell wh0 1 (.int .i64 0) rfl
  have c0_2 := box_cell wh0 2 (.int .i64 0) rfl
  have c0_3 := box_cell wh0 3 (.int .i64 0) rfl
  have c0_4 := box_cell wh0 4 (.string ⟨#[]⟩) rfl
  have c0_5 := box_cell wh0 5 (.string ⟨#[]⟩) rfl
  have c0_6 := box_cell wh0 6 (.int .i64 0) rfl
  have c0_7 := box_cell wh0 7 (.int .i64 0) rfl
  have c0_8 := box_cell wh0 8 (.int .i64 nd) rfl
  have c0_9 := box_cell wh0 9 (.int .i64 ep) rfl
  have c0_10 := box_cell wh0 10 (.int .i64 bx) rfl
  have c0_11 := box_cell wh0 11 (.slice ca cn cc) rfl
  have hsr := Since.refl w0
  have hsd := hsr.drew
  clear hw0 wh0
  rcases k45 with k4 | ⟨k4, k5⟩
  all_goals
    cases b2 with
    | false =>
      go_enter Tryd.func23, Tryd.ntmps23
      go_wp2_with fail
      rw [← HW.out]
      go_wp2_with (go_at_call 52; (with_reducible refine (rightEpoch_at H2.out _).mono ?_); rintro e w2 ⟨rfl, rfl⟩)
      go_ret
      exact ⟨by simp, hs0⟩
    | true =>
      cases b3 with
      | false =>
        go_enter Tryd.func23, Tryd.ntmps23
        go_wp2_with fail
        rw [← HW.out]
        go_wp2_with (first | (go_at_call 52; (with_reducible refine (rightEpoch_at H2.out _).mono ?_); rintro e w2 ⟨rfl, rfl⟩) | (go_at_call 51; (with_reducible refine (isNode_at H3.out _).mono ?_); rintro e w3 ⟨rfl, rfl⟩))
        go_ret
        exact ⟨by simp, hs0⟩
      | true =>
        go_enter Tryd.func23, Tryd.ntmps23
        go_wp2_with fail
        rw [← HW.out]
        go_wp2_with (first | (go_at_call 52; (with_reducible refine (rightEpoch_at H2.out _).mono ?_); rintro e w2 ⟨rfl, rfl⟩) | (go_at_call 51; (with_reducible refine (isNode_at H3.out _).mono ?_); rintro e w3 ⟨rfl, rfl⟩) | (go_at_call 53; (with_reducible refine (rightHeirs_any (B := B) (HA.out _ hs0) (Nat.le_trans HL.out.2 hs0.size_) HL.out.1 HC.out.1 HC.out.2.1 HC.out.2.2).mono ?_); rintro e w4 ⟨rfl, hb4⟩))
        go_ret
        exact ⟨by simp, hs0.trans hb4⟩
set_option maxRecDepth 100000 in
theorem right11_any (h : LZ B w (.slice ca cn cc) l) (hB : B ≤ w.heap.size) (hl : l.length ≤ 1000000) {r : Bool} (hr : rightB (⟨kind, ok, x, y, key, val, cl, seq, nd, ep, bx⟩ : En) l = r) :
    Calls Tryd.prog 23 #[.agg #[.int .i64 kind, .int .i64 ok, .int .i64 x, .int .i64 y, .string key, .string val, .int .i64 cl, .int .i64 seq, .int .i64 nd, .int .i64 ep, .int .i64 bx, .slice ca cn cc]] w fun e w' => e = .returned (.bool r) ∧ Below w.heap.size w w' := by
  by_cases k1 : kind = 1
  · subst k1; exact right11_call h hB hl hr
  · have k1' : (kind == 1) = false := by simpa using k1
    by_cases k2 : kind = 2
    · exact right11_add h hB hl k1' (.inl (by simpa using k2)) hr
    · have k2' : (kind == 2) = false := by simpa using k2
      by_cases k3 : kind = 3
      · exact right11_add h hB hl k1' (.inr ⟨k2', by simpa using k3⟩) hr
      · have k3' : (kind == 3) = false := by simpa using k3
        by_cases k4 : kind = 4
        · exact right11_move h hB hl k1' k2' k3' (.inl (by simpa using k4)) hr
        · have k4' : (kind == 4) = false := by simpa using k4
          by_cases k5 : kind = 5
          · exact right11_move h hB hl k1' k2' k3' (.inr ⟨k4', by simpa using k5⟩) hr
          · have k5' : (kind == 5) = false := by simpa using k5
            obtain rfl : r = false := by rw [← hr]; unfold rightB; rw [if_neg k1, if_neg (show ¬ (kind = 2 ∨ kind = 3) by omega), if_neg (show ¬ (kind = 4 ∨ kind = 5) by omega)]
            clear hr h k1 k2 k3 k4 k5
            go_enter Tryd.func23, Tryd.ntmps23
            go_wp2
            go_ret
            exact ⟨rfl, (Since.refl w).alloc _⟩
end
end Go.Proofs.YtimmnmidhjbanaaDoor
