/- The laws' knows of the tilings, by premises. -/
import Derived.Test.YtgnhamhkpbadbaaGObj
namespace Go.Proofs.Ytgnhamhkpbadbaa
open Go.RowKit
theorem split5 : splitT 1 [⟨0, 0, 5⟩] 0 0 2 = (0, [⟨1, 0, 5⟩, ⟨1, 1, 2⟩]) := by rfl
theorem find5 : findT 1 [⟨1, 0, 5⟩, ⟨1, 1, 2⟩] 1 0 = some ⟨1, 1, 2⟩ := by rfl
theorem deep5 : deepL [⟨1, 0, 5⟩, ⟨1, 1, 2⟩] = some ⟨1, 0, 5⟩ := by rfl
theorem sum_zA (k : Int) : ∀ l : List (Int × Int), 0 ≤ sumG (fun s => zA k s.1) l ∧ (sumG (fun s => zA k s.1) l = 0 → l = [])
  | [] => ⟨Int.le_refl _, fun _ => rfl⟩
  | s :: l => by
    have h1 := (sum_zA k l).1
    have h2 : 0 < zA k s.1 := p2_pos _
    show 0 ≤ zA k s.1 + sumG (fun s => zA k s.1) l ∧ (zA k s.1 + sumG (fun s => zA k s.1) l = 0 → _)
    exact ⟨by omega, fun z => by omega⟩
theorem full5 {t : Tr} (h : t.tiles 0 0 = [⟨1, 0, 5⟩, ⟨1, 1, 2⟩]) (hh : (t.high : Int) ≤ 2 * 1) : t.gaps 0 0 = [] := by
  have h1 := Tr.area 1 t 0 0 (by omega)
  rw [h] at h1
  refine (sum_zA 1 _).2 ?_
  have h2 : sumG (fun s : Tl => zA 1 s.d) [⟨1, 0, 5⟩, ⟨1, 1, 2⟩] = 4 := by decide
  have h3 : zA 1 0 = 4 := by decide
  rw [h2, h3] at h1
  omega
set_option maxRecDepth 100000 in
set_option maxHeartbeats 1600000 in
theorem knows5 {Obj : (Nat → Prop) → World → Value → Int → Tr → Prop} (P : TilP Obj) (w : World) : Calls Try.prog 8 #[] w fun e w' => e = .returned (.bool true) ∧ Below w.heap.size w w' := by
  go_enter Try.func8, Try.ntmps8
  go_wp2_with fail
  refine Calls.named (fun w1 hw => ?_)
  have wg : Whole w1 w.heap.size 50 (([⟨0, 0, 5⟩] : List Tl).flatMap encT).toArray := (Whole.new w 50 #[.int .i64 0, .int .i64 0, .int .i64 5]).named hw
  have hs1 : Since w w1 := ((Since.refl w).alloc _).named hw
  clear hw
  refine (P.new 1 5 w1 _ (by decide) (ListE.ofWhole (cap := 1) encT_len wg wg.lt)).mono ?_
  rintro e w2 ⟨v, F, t, rfl, hO, ht, hF, hb, hv⟩
  obtain ⟨g, rfl⟩ := P.form hO
  have hbw := hs1.trans hb
  have hsz := hs1.size_
  clear hb hv wg hs1
  go_wp2_with fail
  have hsp := P.split 0 0 2 hO
  rw [ht, split5] at hsp
  refine hsp.mono ?_
  rintro e w3 ⟨rfl, F3, t3, hO3, ht3, hoff, hF3⟩
  have hbw3 : Below w.heap.size w w3 := Below.trans (B := w.heap.size) hbw (hoff.below hbw.size (fun b hb => Nat.le_trans hsz (hF b hb)))
  have hfull := full5 ht3 (P.ok hO3).2.1
  have hfi := P.find 1 0 hO3
  rw [ht3, find5] at hfi
  clear hsp hoff hF hO ht hbw hsz
  go_wp2_with fail
  refine hfi.mono ?_
  rintro e w4 ⟨rfl, hb4⟩
  have hO4 := P.since hO3 hb4
  replace hbw3 : Below w.heap.size w w4 := hbw3.trans (Below.mono hb4 hbw3.size)
  have hsa : Since w4 (w4.alloc (.cells #[.int .i64 1, .int .i64 1, .int .i64 2] 50)) := (Since.refl w4).alloc _
  clear hfi hb4 hO3
  unfold tlV
  go_wp2_with fail
  refine Calls.named (fun w5 hw => ?_)
  have wh0 : Whole w5 w4.heap.size 50 #[.int .i64 1, .int .i64 1, .int .i64 2] := (Whole.new w4 _ _).named hw
  have hs5 : Since w4 w5 := hsa.named hw
  have hO5 := P.since hO4 hs5
  clear hw hsa hO4
  have hde := P.deep hO5
  rw [ht3, deep5] at hde
  refine hde.mono ?_
  rintro e w6 ⟨rfl, hb6⟩
  unfold deV
  obtain ⟨w7, hw⟩ : ∃ w7, w7 = w6.alloc (.cells #[.int .i64 0, .int .i64 0] 27) := ⟨_, rfl⟩
  have wp : Whole w7 w6.heap.size 27 #[.int .i64 0, .int .i64 0] := (Whole.new w6 _ _).named hw
  have hs7 : Since w5 w7 := (Since.alloc hb6 _).named hw
  have wt := Since.whole hs7 wh0
  have hO7 := P.since hO5 hs7
  have HW := Lib.hid hw
  have c0 := box_cell wt 0 _ rfl
  have c1 := box_cell wt 1 _ rfl
  have c2 := box_cell wt 2 _ rfl
  have d0 := box_cell wp 0 _ rfl
  have d1 := box_cell wp 1 _ rfl
  have hli := P.list hO7
  have HFU := Lib.hid hfull
  rw [ht3] at hli
  have hsr := Since.refl w7
  have hbw7 : Below w.heap.size w w7 := hbw3.trans (Below.mono (hs5.trans hs7) hbw3.size)
  clear hw wp wt wh0 hs7 hs5 hb6 hbw3 hde hO5 hfull
  go_wp2_with fail
  rw [← HW.out]
  go_wp2_with (first | (go_at_call 12; (with_reducible refine (law5_num _ _).mono ?_); rintro e wn ⟨rfl, rfl⟩) | (go_at_call 18; (with_reducible refine hli.mono ?_); rintro e w8 ⟨a, rfl, hrow, hb8⟩; obtain ⟨va, cap, rfl, hform⟩ := (hrow.list encT_len).form; have hO8 := P.since hO7 hb8; have hwh8 := P.whole hO8; rw [HFU.out] at hwh8; (have hS8 : Since w7 w8 := hb8)) | (go_at_call 28; (with_reducible refine hwh8.mono ?_); rintro e w9 ⟨rfl, hb9⟩))
  go_ret
  exact ⟨rfl, hbw7.trans (Below.mono (Since.trans hb8 hb9) hbw7.size)⟩
end Go.Proofs.Ytgnhamhkpbadbaa
