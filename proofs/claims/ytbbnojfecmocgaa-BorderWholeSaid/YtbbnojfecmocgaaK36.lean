/- tiling: Split, Merge. -/
import Derived.Test.YtbbnojfecmocgaaK29
namespace Go.Proofs.Ytbbnojfecmocgaa
open Go.RowKit
set_option linter.unusedVariables false
set_option maxRecDepth 100000 in
set_option maxHeartbeats 1600000 in
theorem split_any {g : Nat} {p : PT} {k : Int} {w : World} (h : TilO g p k w) (pd pb who : Int) : Calls Try.prog 31 #[.pointer (some ⟨g, 0, none⟩), .agg #[.int .i64 pd, .int .i64 pb], .int .i64 who] w (ChgO g p k (splitT k (p.tr.tiles 0 0) pd pb who) w) := by
  obtain ⟨w0, hw0⟩ : ∃ w0, w0 = w.alloc (.cells #[.int .i64 pd, .int .i64 pb] 35) := ⟨_, rfl⟩
  have hs0 : Since w w0 := by rw [hw0]; exact (Since.refl w).alloc _
  have wh0 : Whole w0 (w.heap.size) 35 #[.int .i64 pd, .int .i64 pb] := by rw [hw0]; exact Whole.new w _ _
  have HW := Lib.hid hw0
  have c0_0 := box_cell wh0 0 (.int .i64 pd) rfl
  have c0_1 := box_cell wh0 1 (.int .i64 pb) rfl
  have hsr := Since.refl w0
  have hsd := hsr.drew
  clear hw0
  have hkb := h.kb
  rcases h.atLeaf pd pb with ⟨g2, wh, pre, post, hok, hat, hw, hhas⟩ | ⟨hat, hhas⟩
  · have hL : (p.tr.tiles 0 0) = pre ++ [⟨pd, pb, wh⟩] ++ post := hw.tiles
    have hlen : (p.tr.tiles 0 0).length = (pre ++ post).length + 1 := by rw [hL]; simp; omega
    have hm := h.most
    have hnd := List.nodup_cons.1 h.nodup
    have hpd := (okP_iff _ _ _).1 hok
    have hw2k : wrap64 (2 * k) = 2 * k := IntWalk.wrap64_in _ ⟨by omega, by omega⟩
    have hw2k' : IntKind.i64.wrap (2 * k) = 2 * k := IntWalk.i64_in _ ⟨by omega, by omega⟩
    have HT := Lib.hid (fun W (hW : Since w0 W) => tile_yes (h.since (hs0.trans hW)) hat)
    have hbox := h.box
    by_cases h1 : pd = 2 * k
    · have hr : splitT k (p.tr.tiles 0 0) pd pb who = (30, p.tr.tiles 0 0) := by unfold splitT; rw [if_pos hhas, if_pos h1]
      rw [hr]
      have h1' : (pd == 2 * k) = true := by simpa using h1
      have HH := Lib.hid h
      clear hr hL hlen hat hhas h1 hw hpd hok hnd hm h
      obtain ⟨LN, hLN⟩ : ∃ n, n = (p.tr.tiles 0 0).length := ⟨_, rfl⟩
      rw [← hLN] at hbox
      clear hLN
      have ck0 := box_cell (Since.whole hs0 hbox) 0 _ rfl
      go_enter Try.func31, Try.ntmps31
      go_wp2_with fail
      rw [← HW.out]
      go_wp2_with ((go_at_call 62; (with_reducible refine (Calls.since (by assumption) (HT.out _ (by assumption))).mono ?_); rintro e w1 ⟨rfl, hb1⟩; have hs1 := hs0.trans hb1))
      go_region_held3 (fun W => Since w0 W) (first | assumption | exact Since.drew (by assumption)) ((first | fail))
      go_wp2_with fail
      go_ret
      exact ChgO.no HH.out (hs0.trans (by assumption))
    · have h1' : (pd == 2 * k) = false := by simpa using h1
      by_cases h2 : 64 ≤ (p.tr.tiles 0 0).length
      · have hr : splitT k (p.tr.tiles 0 0) pd pb who = (7, p.tr.tiles 0 0) := by unfold splitT; rw [if_pos hhas, if_neg h1, if_pos h2]
        rw [hr]
        have h2' : (((p.tr.tiles 0 0).length : Int) == 64) = true := by simp; omega
        have HH := Lib.hid h
        clear hr hL hlen hat hhas h1 hw hpd hok hnd hm h
        obtain ⟨LN, hLN⟩ : ∃ n, n = (p.tr.tiles 0 0).length := ⟨_, rfl⟩
        rw [← hLN] at hbox h2'
        clear hLN h2
        have ck0 := box_cell (Since.whole hs0 hbox) 0 _ rfl
        have ck2 := box_cell (Since.whole hs0 hbox) 2 _ rfl
        go_enter Try.func31, Try.ntmps31
        go_wp2_with fail
        rw [← HW.out]
        go_wp2_with ((go_at_call 62; (with_reducible refine (Calls.since (by assumption) (HT.out _ (by assumption))).mono ?_); rintro e w1 ⟨rfl, hb1⟩; have hs1 := hs0.trans hb1))
        go_region_held3 (fun W => Since w0 W) (first | assumption | exact Since.drew (by assumption)) ((first | fail))
        go_wp2_with fail
        go_ret
        exact ChgO.no HH.out (hs0.trans (by assumption))
      · have hr : splitT k (p.tr.tiles 0 0) pd pb who = (0, pre ++ [⟨pd + 1, 2 * pb, wh⟩, ⟨pd + 1, 2 * pb + 1, who⟩] ++ post) := by unfold splitT; rw [if_pos hhas, if_neg h1, if_neg h2, hL, split_mid hw.fine hw.out]
        rw [hr]
        have h2' : (((p.tr.tiles 0 0).length : Int) == 64) = false := by simp; omega
        have hg2 : Whole w g2 96 #[.int .i64 wh, .pointer none, .pointer none] := by
          have := atP_at (k := k) h.at_ pd pb
          rw [hat] at this
          exact this
        have hg2p : g2 ∈ p.bl := hw.bl g2 (by simp [PT.bl])
        have hplt := h.at_.lt
        have hgl := h.box.lt
        obtain ⟨nn, hnn⟩ : ∃ nn : Nat → PT, ∀ z, nn z = .node (z + 1) 0 (.leaf g2 wh) (.leaf z who) := ⟨_, fun _ => rfl⟩
        have hnb : ∀ z, (nn z).bl = [z + 1, g2, z] := fun z => by rw [hnn]; rfl
        have HP := Lib.hid (fun W (hW0 : Since w0 W) => have hW := hs0.trans hW0; put_any (n := nn W.heap.size) (w := (W.alloc (.cells #[.int .i64 who, .pointer none, .pointer none] 96)).alloc (.cells #[.int .i64 0, .pointer (some ⟨g2, 0, none⟩), .pointer (some ⟨W.heap.size, 0, none⟩)] 96)) (Since.whole ((hW.alloc _).alloc _) h.box) (h.at_.since ((hW.alloc _).alloc _)) h.nodup hw.fine (hw.clear (.inr rfl))
          (by
            rw [hnn]
            refine ⟨?_, ?_, ?_⟩
            · exact (Whole.new (W.alloc _) _ _).at_ (by simp)
            · exact Since.whole ((hW.alloc _).alloc _) hg2
            · exact (Whole.new W _ _).alloc _)
          (by
            rw [hnb]
            have := hplt g2 hg2p
            have := hW.size_
            have e1 : ¬ (g2 = W.heap.size) := by omega
            have e2 : ¬ (W.heap.size + 1 = g2) := by omega
            simp [e1, e2])
          (fun x hx z => by
            rw [hnb] at hx
            have := hplt x (PT.rest_sub _ _ _ _ _ _ z)
            have := hW.size_
            have hx' : x = W.heap.size + 1 ∨ x = g2 ∨ x = W.heap.size := by simpa using hx
            rcases hx' with hx | hx | hx
            · omega
            · exact hw.rest rfl hnd.2 x (by simp [PT.bl, hx]) z
            · omega)
          (fun hx => by
            rw [hnb] at hx
            have := hW.size_
            have hx' : g = W.heap.size + 1 ∨ g = g2 ∨ g = W.heap.size := by simpa using hx
            rcases hx' with hx | hx | hx
            · omega
            · exact hnd.1 (hx ▸ hg2p)
            · omega))
        have hlen2 : (pre ++ [(⟨pd + 1, 2 * pb, wh⟩ : Tl), ⟨pd + 1, 2 * pb + 1, who⟩] ++ post).length = (p.tr.tiles 0 0).length + 1 := by rw [hlen]; simp; omega
        have fin := fun (z : Nat) (hz : w.heap.size ≤ z) w1 W1 q' (hs1 : Since w w1) a b c d e f => TilO.after (n := nn z) (L := pre ++ [⟨pd + 1, 2 * pb, wh⟩, ⟨pd + 1, 2 * pb + 1, who⟩] ++ post) (sz' := ((p.tr.tiles 0 0).length : Int) + 1) (w1 := w1) (W1 := W1) (q' := q') (sz := ((p.tr.tiles 0 0).length : Int)) h hw (.inr rfl) hs1 a b c d e f
          (by rw [hnn]; exact ⟨by simp [PT.tr], trivial, trivial⟩) (by rw [hnn]; simp [PT.tr, Tr.high]; omega)
          (fun x hx => by
            rw [hnb] at hx
            have hx' : x = z + 1 ∨ x = g2 ∨ x = z := by simpa using hx
            rcases hx' with hx | hx | hx
            · exact .inr (by omega)
            · exact .inl (hx ▸ hg2p)
            · exact .inr (by omega)) (by rw [hnn]; rfl) (by rw [hlen2]; omega) (by omega)
        have hwr : wrap64 (((p.tr.tiles 0 0).length : Int) + 1) = ((p.tr.tiles 0 0).length : Int) + 1 := IntWalk.wrap64_in _ ⟨by omega, by omega⟩
        have FIN := Lib.hid fin
        have hnv : ∀ z, (nn z).v = .pointer (some ⟨z + 1, 0, none⟩) := fun z => by rw [hnn]; rfl
        simp only [hnv] at HP
        clear hr hL hlen hat hhas h1 hw hpd hok hnd hm h fin hlen2 hg2 hplt hgl hnb hnn hnv hg2p
        obtain ⟨LN, hLN⟩ : ∃ n, n = (p.tr.tiles 0 0).length := ⟨_, rfl⟩
        rw [← hLN] at hbox h2' HP FIN hwr
        clear hLN h2
        have ck0 := box_cell (Since.whole hs0 hbox) 0 _ rfl
        have ck2 := box_cell (Since.whole hs0 hbox) 2 _ rfl
        go_enter Try.func31, Try.ntmps31
        go_wp2_with fail
        rw [← HW.out]
        go_wp2_with ((go_at_call 62; (with_reducible refine (Calls.since (by assumption) (HT.out _ (by assumption))).mono ?_); rintro e w1 ⟨rfl, hb1⟩; have hs1 := hs0.trans hb1))
        go_region_held3 (fun W => Since w0 W) (first | assumption | exact Since.drew (by assumption)) ((first | fail))
        obtain ⟨wd, hwd⟩ : ∃ wd, wd = w1.drew := ⟨_, rfl⟩
        have hd0 : Since w0 wd := by rw [hwd]; assumption
        rw [← hwd]
        clear hwd hb1 hs1
        go_wp2_with ((go_at_call 63; (with_reducible refine (HP.out _ (by assumption)).mono ?_); rintro e w2 ⟨rfl, q', f1, f2, f3, f4, f5, f6⟩; have y0 := f1.cell 2; have y1 := f1.frozen 2))
        go_ret
        have hsz : Since w wd := hs0.trans hd0
        exact FIN.out _ hsz.size_ _ _ _ ((hsz.alloc _).alloc _) f1 f2 f3 f4 f5 f6
  · have hr : splitT k (p.tr.tiles 0 0) pd pb who = (3, p.tr.tiles 0 0) := by unfold splitT; rw [if_neg (by rw [hhas]; exact Bool.false_ne_true)]
    rw [hr]
    have HT := Lib.hid (fun W (hW : Since w0 W) => tile_no (h.since (hs0.trans hW)) hat)
    have hbox := h.box
    go_enter Try.func31, Try.ntmps31
    go_wp2_with fail
    rw [← HW.out]
    go_wp2_with ((go_at_call 62; (with_reducible refine (Calls.since (by assumption) (HT.out _ (by assumption))).mono ?_); rintro e w1 ⟨rfl, hb1⟩; have hs1 := hs0.trans hb1))
    go_ret
    exact ChgO.no h hs1
end Go.Proofs.Ytbbnojfecmocgaa
