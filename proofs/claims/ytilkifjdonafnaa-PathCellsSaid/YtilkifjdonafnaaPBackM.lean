/- A path's text, there and back. -/
import Derived.Test.YtilkifjdonafnaaPPrint
import Derived.Test.YtilkifjdonafnaaPParse
import Derived.Test.YtilkifjdonafnaaPFamM
namespace Go.Proofs.Ytilkifjdonafnaa
open Go.RowKit
theorem dig_bit {h : Int} (h0 : 0 ≤ h) (h1 : h ≤ 1) : ((dig h).toNat : Int) = 48 + h := by
  rw [dig_nat, IntWalk.wrap64_in _ ⟨by omega, by omega⟩]; omega
/-- The digits of the first k halves. -/
def digT (d b : Int) (k : Nat) : List UInt8 := (ups d b k).map fun x => dig x.2
theorem digT_succ (d b : Int) (k : Nat) : digT d b (k + 1) = digT d b k ++ [dig (bitI d b k)] := by unfold digT; rw [ups_succ, List.map_append]; rfl
theorem digT_length (d b : Int) (k : Nat) : (digT d b k).length = k := by unfold digT; rw [List.length_map, ups_length]
theorem bit_01 {d b i : Int} (hf : fine d b = true) (h0 : 0 ≤ i) (h1 : i < d) : 0 ≤ bitI d b i ∧ bitI d b i ≤ 1 := by
  rw [bitI_yes hf h0 h1]; omega
theorem digT_digs {d b : Int} (hf : fine d b = true) : ∀ k : Nat, (k : Int) ≤ d → digs (digT d b k) ∧ valT (digT d b k) = pv d b k
  | 0, _ => ⟨fun _ h => absurd h (by unfold digT ups; simp), by rw [show ((0 : Nat) : Int) = 0 from rfl, pv_zero hf]; rfl⟩
  | k + 1, hk => by
    obtain ⟨h1, h2⟩ := digT_digs hf k (by omega)
    have hb := bit_01 (i := k) hf (by omega) (by omega)
    have hd := dig_bit hb.1 hb.2
    rw [digT_succ, digs_snoc, valT_snoc, h2, show ((k + 1 : Nat) : Int) = (k : Int) + 1 by omega, pv_succ hf (by omega) (by omega)]
    exact ⟨⟨h1, by omega⟩, by omega⟩
theorem digT_same {d b e c : Int} (k : Nat) (h : ∀ j : Nat, j < k → bitI d b j = bitI e c j) : digT d b k = digT e c k := by
  unfold digT ups
  rw [List.map_map, List.map_map]
  refine List.map_congr_left fun j hj => ?_
  show dig (bitI d b j) = dig (bitI e c j)
  rw [h j (List.mem_range.1 hj)]
/-- Digits are those of their number. -/
theorem digT_back (n : Nat) : ∀ l : List UInt8, l.length = n → digs l → n ≤ 32 → digT n (valT l) n = l := by
  induction n with
  | zero => intro l hl _ _; rw [List.length_eq_zero_iff.1 hl]; rfl
  | succ n ih =>
    intro l hl hd hn
    obtain ⟨l', c, rfl⟩ : ∃ l' c, l = l' ++ [c] := ⟨l.dropLast, l.getLast (by intro e; rw [e] at hl; cases hl), (List.dropLast_concat_getLast _).symm⟩
    rw [List.length_append] at hl
    have hl' : l'.length = n := by simpa using hl
    obtain ⟨h1, h2, h3⟩ := digs_snoc.1 hd
    have hf := valT_fine h1 (by omega)
    rw [hl'] at hf
    have e1 := ih l' hl' h1 (by omega)
    rw [valT_snoc, digT_succ]
    have e2 : digT ((n + 1 : Nat) : Int) (2 * valT l' + ((c.toNat : Int) - 48)) n = l' := by
      refine (digT_same (e := (n : Int)) (c := valT l') n (fun j hj => ?_)).trans e1
      have hfs := half_fine (h := (c.toNat : Int) - 48) hf (by omega) (by omega) (by omega)
      exact bit_same hfs hf (m := n) (by omega) (by omega) (by rw [half_pv (by omega) (by omega), pv_all]) j (by omega) (by omega)
    have e3 : bitI ((n + 1 : Nat) : Int) (2 * valT l' + ((c.toNat : Int) - 48)) n = (c.toNat : Int) - 48 := half_bit hf (by omega) (by omega) (by omega)
    rw [e2, e3]
    congr 2
    have := dig_bit (h := (c.toNat : Int) - 48) (by omega) (by omega)
    exact UInt8.toNat_inj.1 (by omega)
/-- What Print answers. -/
def printS (d b : Int) : ByteArray := if d = 0 ∧ b = 0 then ⟨#[45]⟩ else ⟨(digT d b (cnt d b)).toArray⟩
theorem print_any (d b : Int) (w : World) : Calls Try.prog 31 #[.agg #[.int .i64 d, .int .i64 b]] w fun e w' => e = .returned (.string (printS d b)) ∧ Below w.heap.size w w' := by
  by_cases h : d = 0 ∧ b = 0
  · obtain ⟨rfl, rfl⟩ := h
    exact print_whole w
  · rw [show printS d b = ⟨(digT d b (cnt d b)).toArray⟩ from if_neg h]
    exact print_raw d b w h
theorem print_at {d b : Int} {s : ByteArray} (h : printS d b = s) (w : World) : Calls Try.prog 31 #[.agg #[.int .i64 d, .int .i64 b]] w fun e w' => e = .returned (.string s) ∧ Below w.heap.size w w' := h ▸ print_any d b w
theorem list_arr (l : List UInt8) : (ByteArray.mk l.toArray).toList = l := by rw [ByteArray.toList_eq]
theorem not_dash {l : List UInt8} (h : digs l) : (l == [45]) = false := by
  apply beq_eq_false_iff_ne.2
  rintro rfl
  have := (h 45 (List.mem_singleton.2 rfl)).1
  revert this
  decide
theorem parse_print (d b : Int) (hf : fine d b = true) (w : World) : Calls Try.prog 30 #[.string (printS d b)] w fun e w' => e = .returned (.tuple #[.agg #[.int .i64 d, .int .i64 b], .bool true]) ∧ Below w.heap.size w w' := by
  have hd := (fine_iff d b).1 hf
  by_cases h : d = 0 ∧ b = 0
  · obtain ⟨rfl, rfl⟩ := h
    exact parse_whole w
  · have hd1 : 0 < d := by
      rcases Int.lt_or_le 0 d with h1 | h1
      · exact h1
      · have h2 : d = 0 := by omega
        subst h2
        have h3 : b < 2 ^ (0 : Nat) := hd.2.2.2
        rw [Int.pow_zero] at h3
        exact absurd ⟨rfl, by omega⟩ h
    obtain ⟨h1, h2⟩ := digT_digs hf d.toNat (by omega)
    have h3 := digT_length d b d.toNat
    rw [show ((d.toNat : Nat) : Int) = d by omega, pv_all] at h2
    rw [show printS d b = ⟨(digT d b d.toNat).toArray⟩ by unfold printS; rw [if_neg h, cnt_yes hf]]
    have hs : (ByteArray.mk (digT d b d.toNat).toArray).size = d.toNat := by
      rw [← bytes_size, list_arr, h3]
    refine (parse_raw _ w (by rw [list_arr]; exact not_dash h1) (by rw [hs]; omega)).mono ?_
    rintro e w' ⟨hv, hb⟩
    refine ⟨?_, hb⟩
    rw [list_arr, hs, h2] at hv
    rcases hv with ⟨_, _, rfl⟩ | ⟨hn, _⟩
    · rw [show ((d.toNat : Nat) : Int) = d by omega]
      congr 3
      have : (digT d b d.toNat).isEmpty = false := by
        rw [List.isEmpty_eq_false_iff, ← List.length_pos_iff, h3]; omega
      rw [this]; rfl
    · exact absurd ⟨h1, by omega⟩ hn
/-- What Parse answers: what is read may be, and is printed as it was. -/
theorem parse_any (s : ByteArray) (w : World) (hmx : (s.size : Int) ≤ 200) : Calls Try.prog 30 #[.string s] w fun e w' => (∃ (x y : Int) (r : Bool), e = .returned (.tuple #[.agg #[.int .i64 x, .int .i64 y], .bool r]) ∧ (r = true → fine x y = true ∧ printS x y = s)) ∧ Below w.heap.size w w' := by
  cases hne : s.toList == [45] with
  | true =>
    have h1 : s = ⟨#[45]⟩ := by
      have := beq_iff_eq.1 hne
      rw [ByteArray.toList_eq] at this
      cases s with
      | mk a => cases a with
        | mk l => simp only at this; rw [this]
    subst h1
    refine (parse_whole w).mono ?_
    rintro e w' ⟨rfl, hb⟩
    exact ⟨⟨0, 0, true, rfl, fun _ => ⟨by decide, rfl⟩⟩, hb⟩
  | false =>
    refine (parse_raw s w hne (by omega)).mono ?_
    rintro e w' ⟨hv, hb⟩
    refine ⟨?_, hb⟩
    rcases hv with ⟨h1, h2, rfl⟩ | ⟨_, rfl⟩
    · refine ⟨_, _, _, rfl, fun hr => ?_⟩
      have hl := bytes_size s
      have hf := valT_fine h1 (by omega)
      rw [hl] at hf
      refine ⟨hf, ?_⟩
      have hpos : ¬ (((s.size : Nat) : Int) = 0 ∧ valT s.toList = 0) := by
        rintro ⟨h3, _⟩
        have : s.toList = [] := List.length_eq_zero_iff.1 (by omega)
        rw [this] at hr
        cases hr
      unfold printS
      rw [if_neg hpos, cnt_yes hf, Int.toNat_natCast, digT_back s.size s.toList hl h1 h2]
      rw [ByteArray.toList_eq]
    · exact ⟨0, 0, false, rfl, fun h => by cases h⟩
end Go.Proofs.Ytilkifjdonafnaa
