/- session: a row's bytes, a table's. -/
import Derived.Test.YtbgfjkgpekkciaaDoorK10
import Derived.Test.YtbgfjkgpekkciaaDoorK27
namespace Go.Proofs.YtbgfjkgpekkciaaDoor
open Go.RowKit
set_option linter.unusedVariables false
set_option linter.unusedSimpArgs false
/-- A row's bytes, a table's. -/
def rowL (r : SR) : List UInt8 := numL r.seq ++ (if r.seq = 0 then [] else ansL r.er r.fd r.val r.ver)
def tabL (L : STab) : List UInt8 := L.flatMap rowL
theorem numL_le9 (x : Int) : (numL x).length ≤ 9 := by
  unfold numL
  split
  · exact numB_le (by omega)
  · simp
theorem sansL_len {er : Int} {fd : Bool} {val : ByteArray} {ver : Int} (h : ansB er fd val ver = true) : (ansL er fd val ver).length ≤ 2000 := by
  have h1 := numL_le9 er
  have h2 := numL_le9 (if fd then 1 else 0)
  have h3 := numL_le9 ver
  have h4 := textL_len (s := val) (by have := (ansB_bd h).2.1; omega)
  unfold ansL
  simp only [List.flatMap_cons, List.flatMap_nil, List.append_nil, List.length_append]
  omega
theorem rowL_len {r : SR} (h : r.ok) : (rowL r).length ≤ 3000 := by
  unfold rowL
  have h1 := numL_le9 r.seq
  rw [List.length_append]
  split
  · simp; omega
  · next hz =>
    rcases h with rfl | h
    · exact absurd rfl hz
    · have := sansL_len h.2; omega
theorem wnum_at (z : Int) (h : 0 ≤ z ∧ z ≤ 9007199254740992) (w : World) : Calls Tryd.prog 44 #[.int .i64 z] w (SliceNumPost w.heap.size (numL z) 0 w) := by
  refine (num_any z w).mono ?_
  rintro e w' ⟨v, rfl, ho, hb⟩
  obtain ⟨A, n, c, rfl, hh⟩ := ho.has
  unfold numE
  rw [if_pos h]
  exact ⟨A, n, c, rfl, hh, hb⟩
theorem told_any {er : Int} {fd : Bool} {val : ByteArray} {ver : Int} (h : ansB er fd val ver = true) (w : World) :
    Calls Tryd.prog 45 #[.agg #[.int .i64 er, .bool fd, .string val, .int .i64 ver]] w (SlicePost w.heap.size (ansL er fd val ver) w) := by
  have H := Lib.hid h
  obtain ⟨w0, hw0⟩ : ∃ w0, w0 = w.alloc (.cells #[.int .i64 er, .bool fd, .string val, .int .i64 ver] 51) := ⟨_, rfl⟩
  have hs0 : Since w w0 := by rw [hw0]; exact (Since.refl w).alloc _
  have wh0 : Whole w0 (w.heap.size) 51 #[.int .i64 er, .bool fd, .string val, .int .i64 ver] := by rw [hw0]; exact Whole.new w _ _
  have HW := Lib.hid hw0
  have c0_0 := box_cell wh0 0 (.int .i64 er) rfl
  have c0_1 := box_cell wh0 1 (.bool fd) rfl
  have c0_2 := box_cell wh0 2 (.string val) rfl
  have c0_3 := box_cell wh0 3 (.int .i64 ver) rfl
  have hsr := Since.refl w0
  have hsd := hsr.drew
  clear hw0 wh0
  clear h
  go_enter Tryd.func45, Tryd.ntmps45
  go_wp2_with fail
  rw [← HW.out]
  go_wp2_with ((go_at_call 51; (with_reducible refine (putAns_yes _ _ _ _ _ H.out).mono ?_); rintro e w1 ⟨A, n, c, rfl, hh, hb⟩))
  go_ret
  exact ⟨A, n, c, rfl, hh.lower hs0.size, hs0.trans hb |>.mono (Nat.le_refl _)⟩
set_option maxRecDepth 100000 in
theorem rowBytes_any {r : SR} (h : r.ok) (w : World) :
    Calls Tryd.prog 32 #[.agg #[.int .i64 r.er, .bool r.fd, .string r.val, .int .i64 r.ver, .int .i64 r.seq]] w (SlicePost w.heap.size (rowL r) w) := by
  have hlen := rowL_len h
  unfold rowL at hlen ⊢
  have hz : r.seq = 0 ∨ r.seq ≠ 0 ∧ ansB r.er r.fd r.val r.ver = true := by
    rcases h with rfl | h
    · exact .inl rfl
    · exact .inr ⟨by omega, h.2⟩
  have hs : 0 ≤ r.seq ∧ r.seq ≤ 9007199254740992 := by
    rcases h with rfl | h
    · exact ⟨by decide, by decide⟩
    · omega
  obtain ⟨er, fd, val, ver, seq⟩ := r
  dsimp only at hlen hz hs ⊢
  have HS := Lib.hid hs
  obtain ⟨w0, hw0⟩ : ∃ w0, w0 = w.alloc (.cells #[.int .i64 er, .bool fd, .string val, .int .i64 ver, .int .i64 seq] 53) := ⟨_, rfl⟩
  have hs0 : Since w w0 := by rw [hw0]; exact (Since.refl w).alloc _
  have wh0 : Whole w0 (w.heap.size) 53 #[.int .i64 er, .bool fd, .string val, .int .i64 ver, .int .i64 seq] := by rw [hw0]; exact Whole.new w _ _
  have HW := Lib.hid hw0
  have c0_0 := box_cell wh0 0 (.int .i64 er) rfl
  have c0_1 := box_cell wh0 1 (.bool fd) rfl
  have c0_2 := box_cell wh0 2 (.string val) rfl
  have c0_3 := box_cell wh0 3 (.int .i64 ver) rfl
  have c0_4 := box_cell wh0 4 (.int .i64 seq) rfl
  have hsr := Since.refl w0
  have hsd := hsr.drew
  clear hw0 wh0
  have hsz := hs0.size
  clear h hs
  rcases hz with rfl | ⟨hz, ha⟩
  · rw [if_pos rfl, List.append_nil]
    clear hlen
    go_enter Tryd.func32, Tryd.ntmps32
    go_wp2_with fail
    rw [← HW.out]
    go_wp2_with ((go_at_call 44; (with_reducible refine (wnum_at _ HS.out _).mono ?_); rintro e w1 ⟨A, n, c, rfl, hh, hb⟩; have hb1 : Since w0 w1 := hb))
    go_wp2
    go_ret
    exact ⟨A, n, c, rfl, hh.lower hsz, hs0.trans hb1⟩
  · rw [if_neg hz] at hlen ⊢
    have hzb : (seq == 0) = false := by simpa using hz
    have HA := Lib.hid ha
    have hn := numL_le9 seq
    have hal := sansL_len ha
    clear hz ha hlen
    go_enter Tryd.func32, Tryd.ntmps32
    go_wp2_with fail
    rw [← HW.out]
    go_wp2_with (first
      | (go_at_call 44; (with_reducible refine (wnum_at _ HS.out _).mono ?_); rintro e w1 ⟨A, n, c, rfl, hh, hb⟩; have hb1 : Since w0 w1 := hb; have hsz1 := hb1.size)
      | (go_at_call 45; (with_reducible refine (told_any HA.out _).mono ?_); rintro e w2 ⟨A2, n2, c2, rfl, hh2, hb2⟩)
      | (at_builtin; refine wpList_grow _ rfl (.tmp 15) (.tmp 18) _ rfl w0.heap.size _ (numL seq) rfl (hh.below hb2).own _ (ansL er fd val ver) rfl (src_at n2 c2 hh2.rd hh2.len) (by omega) (Nat.le_trans hsz1 hb2.size) ?_; intro A3 n3 c3 w3 hh3 hb3))
    go_ret
    exact ⟨A3, n3, c3, rfl, hh3.lower hsz, hs0.trans (Below.trans hb1 ((hb2.mono hsz1).trans hb3))⟩
theorem tput_un {w : World} {v : Value} (h : Un w v) : Calls Tryd.prog 15 #[v] w fun e w' => e = .returned (.slice none 0 0) ∧ w = w' := by
  go_enter Tryd.func15, Tryd.ntmps15
  go_wp2_with (go_at_call 28; (with_reducible refine (none_un h).mono ?_); rintro e w' ⟨rfl, rfl⟩)
  go_ret
  exact ⟨rfl, rfl⟩
theorem tabL_len : ∀ {L : STab}, (∀ r ∈ L, r.ok) → (tabL L).length ≤ L.length * 3000
  | [], _ => Nat.le_refl _
  | r :: L, h => by
    have h1 := rowL_len (h r (.head _))
    have h2 := tabL_len (L := L) fun r hr => h r (.tail _ hr)
    unfold tabL at h2 ⊢
    rw [List.flatMap_cons, List.length_append, List.length_cons, Nat.add_mul]
    omega
theorem tabL_next {L : STab} {k : Nat} {r : SR} (h : L[k]? = some r) : tabL (L.take (k + 1)) = tabL (L.take k) ++ rowL r := by
  unfold tabL
  rw [List.take_add_one, h, List.flatMap_append]
  simp
set_option maxRecDepth 100000 in
theorem tput_any {w : World} {g : Nat} {L : STab} (h : PTab w g L) (hok : ∀ r ∈ L, r.ok) : Calls Tryd.prog 15 #[.pointer (some ⟨g, 0, none⟩)] w (SlicePost w.heap.size (tabL L) w) := by
  have HLd := Lib.hid (load_rows h)
  have HO := Lib.hid hok
  have h8 := h.1
  have hsr := Since.refl w
  clear hok
  go_enter Tryd.func15, Tryd.ntmps15
  go_wp2_with (first
    | (go_at_call 28; (with_reducible refine (none_any h).mono ?_); rintro e w' ⟨rfl, rfl⟩)
    | refine wpList_load_is rfl _ _ rfl rfl (HLd.out _ (by assumption)) ?_)
  go_loopw [3, 12] (fun s i wr => ∃ k : Nat, i = .int .i64 (k : Int) ∧ k ≤ 8 ∧ Own wr w.heap.size s (tabL (L.take k)) ∧ Below w.heap.size w wr) (fun _ i _ => 8 - (intOf i).toNat)
  case atStart => exact ⟨0, rfl, Nat.zero_le _, Own.nil _ _, Below.refl _ _⟩
  case round =>
    obtain ⟨k, rfl, hk, hown, hbl⟩ := hrel
    by_cases hlt : k < 8
    · obtain ⟨a, ha⟩ : ∃ a, L[k]? = some a := ⟨_, List.getElem?_eq_getElem (by rw [h8]; exact hlt)⟩
      have HI := Lib.hid (fun W => index_rows (L := L) hlt ha W)
      have HA := Lib.hid (HO.out a (List.mem_of_getElem? ha))
      have HX := Lib.hid (tabL_next ha)
      have hlen := tabL_len (L := L.take k) fun r hr => HO.out r (List.mem_of_mem_take hr)
      have hlr := rowL_len HA.out
      have hlt' : (L.take k).length ≤ 8 := by rw [List.length_take]; omega
      have hlx : (tabL (L.take k)).length ≤ 24000 := by omega
      have hbs := hbl.size
      have hklt : (k : Int) < 8 := by omega
      clear h HLd h8 HO ha hlen hlt' hsr
      generalize tabL (L.take k) = T at hown HX hlx
      go_wp2_with (refine wpList_index_is rfl _ _ _ rfl rfl rfl (HI.out _) ?_)
      obtain ⟨w2, hw2⟩ : ∃ w2, w2 = wr.alloc (.cells #[.int .i64 a.er, .bool a.fd, .string a.val, .int .i64 a.ver, .int .i64 a.seq] 53) := ⟨_, rfl⟩
      have hs2 : Since wr w2 := by rw [hw2]; exact (Since.refl wr).alloc _
      rw [← hw2]
      clear hw2
      refine (rowBytes_any HA.out w2).mono ?_
      rintro e w3 ⟨A, n, c, rfl, hh, hb⟩
      have hs3 : Since w2 w3 := hb
      have hown3 := (hown.below hs2).below hs3
      have hb3 : Below w.heap.size w w3 := (hbl.trans (hs2.mono hbs)).trans (hs3.mono (Nat.le_trans hbs hs2.size_))
      have hbs3 := hb3.size
      go_wp2_with (at_builtin; refine wpList_app _ rfl (.tmp 15) (.tmp 17) _ rfl w.heap.size _ T rfl hown3 _ (rowL a) rfl (src_at n c hh.rd hh.len) (by omega) hbs3 ?_; intro v4 w4 hown4 hb4)
      go_roundw
      case rel => exact ⟨k + 1, by go_num, by omega, by rw [HX.out]; exact hown4, hb3.trans hb4⟩
      case measure => simp [intOf]; omega
    · obtain rfl : k = 8 := by omega
      rw [List.take_of_length_le (by omega)] at hown
      obtain ⟨A, n, c, rfl, hh⟩ := hown.has
      clear HLd HO
      go_wp2
      go_ret
      exact ⟨A, n, c, rfl, hh, hbl⟩
end Go.Proofs.YtbgfjkgpekkciaaDoor
