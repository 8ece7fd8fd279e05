/- glebelaw08's Own, equal. -/
import Derived.Test.YthfhpejpjiaikaaGreatK15
import Derived.Test.YthfhpejpjiaikaaGreatK34
import Derived.Test.YthfhpejpjiaikaaGreatK36
namespace Go.Proofs.YthfhpejpjiaikaaGreat
open Go.RowKit
set_option linter.unusedVariables false
set_option linter.unusedSimpArgs false
theorem rec8_eq (r : Rq) (w : World) : Calls Tryz.prog 26 #[.agg #[.int .i64 r.x, .int .i64 r.y, .string r.key, .string r.val, .int .i64 r.ver]] w fun e w' => e = .returned (.agg #[.int .i64 r.x, .int .i64 r.y, .string r.key, .string r.val, .int .i64 r.ver]) ∧ Below w.heap.size w w' := rec8_any r w
set_option maxRecDepth 100000 in
set_option maxHeartbeats 1600000 in
theorem own8l_any {B : Nat} {v : Value} {l : List Rq} {w : World} (hA : LentE encQ 5 B w v l) (hB : B ≤ w.heap.size) (hl : l.length ≤ 1000) : Calls Tryz.prog 8 #[v] w fun e w' => ∃ u, e = .returned u ∧ RowE encQ 5 w' w.heap.size 55 u l ∧ Below w.heap.size w w' := by
  obtain ⟨a, cap, rfl, hc⟩ := hA
  obtain ⟨n, hn⟩ : ∃ n, l.length = n := ⟨_, rfl⟩
  have HN := Lib.hid hn
  have hc' : Hid (∀ k (hk : k < n), ∃ g off, a = some ⟨g, off, none⟩ ∧ ∀ W, Since w W → ∀ j u, (encQ (l[k]'(by rw [HN.out]; exact hk)))[j]? = some u → W.cell? ⟨g, off + k * 5 + j, none⟩ = some u) := by
    intro k hk
    rcases hc with hc | ⟨g, off, ha, hgB, hc⟩
    · omega
    · refine ⟨g, off, ha, fun W hW j u hu => ?_⟩
      have e : ∀ j, W.cell? ⟨g, j, none⟩ = w.cell? ⟨g, j, none⟩ := fun j => World.cell?_of_block (hW.block g (Nat.lt_of_lt_of_le hgB hB))
      exact (e _).trans (hc k (by rw [HN.out]; exact hk) j u hu)
  rw [hn] at hl ⊢
  clear hc hn
  have hsr := Since.refl w
  go_enter Tryz.func8, Tryz.ntmps8
  go_wp2
  go_loopw [3, 4] (fun out i wr => ∃ k : Nat, i = .int .i64 (k : Int) ∧ k ≤ n ∧ RowE encQ 5 wr w.heap.size 55 out (l.take k) ∧ Since w wr) (fun _ i _ => n - (intOf i).toNat)
  case atStart => exact ⟨0, rfl, Nat.zero_le _, RowE.nil _ _ _, hsr⟩
  case round =>
    obtain ⟨k, rfl, hk, hrow, hwr⟩ := hrel
    by_cases hlt : k < n
    · obtain ⟨g, off, rfl, hcell⟩ := hc'.out k hlt
      have hll : k < l.length := by rw [HN.out]; exact hlt
      obtain ⟨r, hz⟩ : ∃ z, l[k] = z := ⟨_, rfl⟩
      have hz2 : l.take (k + 1) = l.take k ++ [r] := by rw [List.take_add_one, List.getElem?_eq_getElem hll, hz]; rfl
      rw [hz] at hcell
      have HZ := Lib.hid hz2
      have b0 := hcell wr hwr 0 (.int .i64 r.x) rfl
      have b1 := hcell wr hwr 1 (.int .i64 r.y) rfl
      have b2 := hcell wr hwr 2 (.string r.key) rfl
      have b3 := hcell wr hwr 3 (.string r.val) rfl
      have b4 := hcell wr hwr 4 (.int .i64 r.ver) rfl
      rw [Nat.add_zero] at b0
      have h1' : (k : Int) < n := by omega
      have hmax : (l.take k).length ≤ 100000 := by rw [List.length_take]; omega
      have hln : (l.take k).length = k := by rw [List.length_take]; omega
      obtain ⟨va, vc, rfl⟩ := RowE.shp hrow
      rw [hln] at hrow ⊢
      have HR := Lib.hid (fun W (hW : Since wr W) => hrow.since hW)
      have HWR := Lib.hid hwr
      clear hz hz2 hcell hrow hln
      go_wp2_with (first
        | (go_at_call 26; (with_reducible refine (rec8_eq r _).mono ?_); rintro e w2 ⟨rfl, hb2⟩; (have hr2 := HR.out w2 hb2); (have hbW : w.heap.size ≤ w2.heap.size := Nat.le_trans hwr.size_ (show wr.heap.size ≤ w2.heap.size from hb2.size)))
        | (at_builtin; refine wpList_append_off rfl _ _ 31 rfl w.heap.size 55 _ 56 Tryz.underlying31 infoRec rfl (by decide) hr2 r rfl rfl (by simp [encQ, Value.oneCell']) rfl rfl hmax (by decide) hbW ?_; intro v' w3 hrow3 hoff3 hob3))
      go_roundw
      case rel =>
        refine ⟨k + 1, by go_num, by omega, by rw [HZ.out]; exact hrow3, ?_⟩
        exact Below.trans (show Below w.heap.size w w2 from HWR.out.trans hb2) (hoff3.below (B := w.heap.size) hbW (fun c z => (hr2.own c z).1))
      case measure => simp [intOf]; omega
    · obtain rfl : k = n := by omega
      rw [List.take_of_length_le (Nat.le_of_eq HN.out)] at hrow
      have HX := Lib.hid (And.intro hrow hwr)
      clear hrow hwr
      go_wp2
      go_ret
      exact ⟨_, rfl, HX.out.1, HX.out.2⟩
set_option maxRecDepth 100000 in
set_option maxHeartbeats 3200000 in
theorem equal8_any {g g2 : Nat} {q q2 : QN} {k d b : Int} {L : List Rq} {w : World} (h : TreeO g q k d b L w) (h2 : TreeO g2 q2 k d b L w) : Calls Tryz.prog 18 #[.pointer (some ⟨g, 0, none⟩), .pointer (some ⟨g2, 0, none⟩)] w fun e w' => e = .returned (.bool true) ∧ Below w.heap.size w w' := by
  obtain ⟨⟨sx, sy, sz⟩, hS⟩ : ∃ s, shQ 131072 (zoneR k d b) L = s := ⟨_, rfl⟩
  have hsr := Since.refl w
  have HSA := Lib.hid (fun W (hW : Since w W) => tshape_any (h.since hW) (zone_high h.ok) hS)
  have HSB := Lib.hid (fun W (hW : Since w W) => tshape_any (h2.since hW) (zone_high h.ok) hS)
  have HAA := Lib.hid (fun W (hW : Since w W) => tall_any (h.since hW))
  have HAB := Lib.hid (fun W (hW : Since w W) => tall_any (h2.since hW))
  have HZA := Lib.hid (fun W (hW : Since w W) => tzone_any (h.since hW))
  have HZB := Lib.hid (fun W (hW : Since w W) => tzone_any (h2.since hW))
  have HLA := Lib.hid (fun W (hW : Since w W) => tlen_any (h.since hW))
  have HLB := Lib.hid (fun W (hW : Since w W) => tlen_any (h2.since hW))
  have hln := h.tr.len
  obtain ⟨n, hn⟩ : ∃ n, L.length = n := ⟨_, rfl⟩
  have HN := Lib.hid hn
  rw [hn] at HLA HLB hln
  clear h h2 hS hn
  go_enter Tryz.func18, Tryz.ntmps18
  go_wp2_with (first
    | (go_at_call 22; (with_reducible refine (Calls.since (by assumption) (HSA.out _ (by assumption))).mono ?_); rintro e w1 ⟨rfl, hb⟩)
    | (go_at_call 22; (with_reducible refine (Calls.since (by assumption) (HSB.out _ (by assumption))).mono ?_); rintro e w1 ⟨rfl, hb⟩)
    | (go_at_call 31; (with_reducible refine (HAA.out _ (by assumption)).mono ?_); rintro e w3 ⟨vA, rfl, hA, hb3⟩; obtain ⟨xa, ca, rfl⟩ := RowE.shp hA; rw [HN.out]; (have hs3 := Since.trans (show Since w _ by assumption) hb3); (have HA := Lib.hid hA); clear hA)
    | (go_at_call 31; (with_reducible refine (HAB.out _ (by assumption)).mono ?_); rintro e w4 ⟨vB, rfl, hB, hb4⟩; obtain ⟨xb, cb, rfl⟩ := RowE.shp hB; rw [HN.out]; (have hs34 : Since w3 w4 := hb4); (have hs4 := Since.trans (show Since w _ by assumption) hb4); (have HB := Lib.hid hB); clear hB)
    | (go_at_call 38; (with_reducible refine (HZA.out _ hs4).mono ?_); rintro e w5 ⟨rfl, hb5⟩; (have hs45 : Since w4 w5 := hb5); (have hs5 := hs4.trans hb5))
    | (go_at_call 38; (with_reducible refine (HZB.out _ hs5).mono ?_); rintro e w6 ⟨rfl, hb6⟩; (have hs46 : Since w4 w6 := hs45.trans hb6); (have hs6 := hs5.trans hb6))
    | (go_at_call 19; (with_reducible refine (HLA.out _ (by assumption)).mono ?_); rintro e w7 ⟨rfl, rfl⟩)
    | (go_at_call 19; (with_reducible refine (HLB.out _ (by assumption)).mono ?_); rintro e w7 ⟨rfl, rfl⟩))
  have hs33 : Since w3 w4 := hs34
  have HS4 := Lib.hid hs4
  have hra := HA.out
  have hrb := HB.out
  have hrw := hs46
  clear hs4 hs3 hs34 hb3 hb4 hsr hs5 hs6 hb5 hb6 hs45 hs46
  go_loopw [13] (fun i wr => Since w4 wr ∧ ∃ k : Nat, i = .int .i64 (k : Int) ∧ k ≤ n) (fun i _ => n - (intOf i).toNat)
  case atStart => exact ⟨hrw, 0, rfl, Nat.zero_le _⟩
  case round =>
    obtain ⟨hwr, k, rfl, hk⟩ := hrel
    by_cases hlt : k < n
    · have hll : k < L.length := by rw [HN.out]; exact hlt
      obtain ⟨s, hs⟩ : ∃ s, L[k] = s := ⟨_, rfl⟩
      have la := (hra.since (hs33.trans hwr)).list encQ_len
      have lb := (hrb.since hwr).list encQ_len
      obtain ⟨ga, rfl, -⟩ : ∃ g, xa = some ⟨g, 0, none⟩ ∧ True := by
        obtain ⟨a2, c2, e2, h2⟩ := la.form
        obtain ⟨g2, e3, _⟩ := h2 k hll
        injection e2 with e4
        exact ⟨g2, e4.trans e3, trivial⟩
      obtain ⟨gb, rfl, -⟩ : ∃ g, xb = some ⟨g, 0, none⟩ ∧ True := by
        obtain ⟨a2, c2, e2, h2⟩ := lb.form
        obtain ⟨g2, e3, _⟩ := h2 k hll
        injection e2 with e4
        exact ⟨g2, e4.trans e3, trivial⟩
      have ka := fun j u (hu : (encQ s)[j]? = some u) => la.at_ hll j (by rw [hs]; exact hu)
      have kb := fun j u (hu : (encQ s)[j]? = some u) => lb.at_ hll j (by rw [hs]; exact hu)
      have a0 := ka 0 (.int .i64 s.x) rfl
      have a1 := ka 1 (.int .i64 s.y) rfl
      have a2 := ka 2 (.string s.key) rfl
      have a3 := ka 3 (.string s.val) rfl
      have a4 := ka 4 (.int .i64 s.ver) rfl
      have b0 := kb 0 (.int .i64 s.x) rfl
      have b1 := kb 1 (.int .i64 s.y) rfl
      have b2 := kb 2 (.string s.key) rfl
      have b3 := kb 3 (.string s.val) rfl
      have b4 := kb 4 (.int .i64 s.ver) rfl
      rw [Nat.add_zero] at a0 b0
      have h1' : (k : Int) < n := by omega
      have HWR := Lib.hid hwr
      clear la lb ka kb hs hra hrb hwr
      go_wp2_with fail
      go_quiet (fail)
      go_wp2
      go_roundw
      case rel => exact ⟨Below.drewN HWR.out _, k + 1, by go_num, by omega⟩
      case measure => simp [intOf]; omega
    · have h1' : ¬ ((k : Int) < n) := by omega
      have HWR := Lib.hid hwr
      clear hra hrb hwr
      go_wp2
      go_ret
      exact ⟨rfl, HS4.out.trans HWR.out⟩
end Go.Proofs.YthfhpejpjiaikaaGreat
