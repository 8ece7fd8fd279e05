/- quad: inside: the records whose cells a rectangle has, leaf by leaf: the iterator. -/
import Derived.Test.YthfhpejpjiaikaaGreatK18
import Derived.Test.YthfhpejpjiaikaaGreatK23
import Derived.Test.YthfhpejpjiaikaaGreatK24
namespace Go.Proofs.YthfhpejpjiaikaaGreat
open Go.RowKit Go.Shelf
attribute [local go_sem] Oper.semAt_some
set_option linter.unusedVariables false
set_option linter.unusedSimpArgs false
theorem inside_any (v : Value) (o : Option Addr) (hv : v = .pointer o) (r : Rc) (w : World) : Calls Tryz.prog 44 #[v, .agg #[.int .i64 r.x, .int .i64 r.y, .int .i64 r.w, .int .i64 r.h]] w fun e w' => e = .returned (.func (.func 72) #[] #[.pointer (some ⟨w.heap.size, 0, none⟩), .pointer (some ⟨w.heap.size + 1, 0, none⟩)]) ∧
    w' = (w.alloc (.cells #[v] 68)).alloc (.cells #[.int .i64 r.x, .int .i64 r.y, .int .i64 r.w, .int .i64 r.h] 63) := by
  have hmf : ∀ (fn : Fn) (first cap : Array Value) (w : World), (Instr.makeFunc fn first cap).run Tryz.prog w = .ok (.func fn first cap) w := fun _ _ _ _ => rfl
  subst hv
  go_enter Tryz.func44, Tryz.ntmps44
  go_wp2
  go_ret
  exact ⟨rfl, rfl⟩
/-- What yield is handed. -/
abbrev encI (s : Rq) : Array Value := #[s.v]
def ownT (r : Rc) (pre : List (Int × QN)) : List Rq := (pre.flatMap fun x => x.2.own).filter (inQ r)
theorem ownT_snoc (r : Rc) (pre : List (Int × QN)) (x : Int × QN) : ownT r (pre ++ [x]) = ownT r pre ++ x.2.own.filter (inQ r) := by
  unfold ownT
  rw [List.flatMap_append, List.filter_append]
  simp
theorem ownT_mono (r : Rc) {pre tot : List (Int × QN)} (h : pre <+: tot) : ownT r pre <+: ownT r tot := by
  obtain ⟨t, rfl⟩ := h
  unfold ownT
  rw [List.flatMap_append, List.filter_append]
  exact List.prefix_append _ _
theorem take_filt {L : List Rq} {i : Nat} (hi : i < L.length) (r : Rc) : (L.take (i + 1)).filter (inQ r) = (L.take i).filter (inQ r) ++ (if inQ r L[i] = true then [L[i]] else []) := by
  rw [List.take_add_one, List.filter_append, List.getElem?_eq_getElem hi]
  simp [List.filter_cons]
theorem ownT_pre {r : Rc} {pre tot : List (Int × QN)} {x : Int × QN} (h : pre ++ [x] <+: tot) {i : Nat} (hi : i < x.2.own.length) (hs : inQ r x.2.own[i] = true) : (ownT r pre ++ (x.2.own.take i).filter (inQ r)) ++ [x.2.own[i]] <+: ownT r tot := by
  refine List.IsPrefix.trans ?_ (ownT_mono r h)
  rw [ownT_snoc, List.append_assoc]
  refine (List.prefix_append_right_inj _).2 ?_
  have e : (x.2.own.take i).filter (inQ r) ++ [x.2.own[i]] = (x.2.own.take (i + 1)).filter (inQ r) := by rw [take_filt hi, if_pos hs]
  rw [e]
  exact (List.take_prefix _ _).filter _
theorem visit_in (r : Rc) : ∀ (q : QN) (x : Int × QN), x ∈ q.visit r → x.2.isNil = false ∧ (∀ b ∈ x.2.bl, b ∈ q.bl) ∧ ∀ W : World, q.At W → x.2.At W
  | .nil, x, h => by cases h
  | .leaf g v a L, x, h => by
    simp only [QN.visit] at h
    split at h
    · simp only [List.mem_singleton] at h
      subst h
      exact ⟨rfl, fun _ h => h, fun _ h => h⟩
    · cases h
  | .quad g n a q, x, h => by
    simp only [QN.visit] at h
    split at h
    · rcases List.mem_cons.1 h with rfl | h
      · exact ⟨rfl, fun _ h => h, fun _ h => h⟩
      · obtain ⟨y, hy, rfl⟩ := List.mem_map.1 h
        simp only [List.mem_append] at hy
        have key : ∀ i, i < 4 → y ∈ (q i).visit r → y.2.isNil = false ∧ (∀ b ∈ y.2.bl, b ∈ (QN.quad g n a q).bl) ∧ ∀ W : World, (QN.quad g n a q).At W → y.2.At W := fun i hi hm => by
          obtain ⟨k1, k2, k3⟩ := visit_in r (q i) y hm
          exact ⟨k1, fun b hb => bl_quad.2 (.inr ⟨i, hi, k2 b hb⟩), fun W hW => k3 W (hW.2 i hi)⟩
        rcases hy with ((hy | hy) | hy) | hy
        · exact key 0 (by decide) hy
        · exact key 1 (by decide) hy
        · exact key 2 (by decide) hy
        · exact key 3 (by decide) hy
    · cases h
/-- A node's own records in memory. -/
theorem node_own {m : QN} (hn : m.isNil = false) {w : World} (h : m.At w) : ∃ g vm, m.v = .pointer (some ⟨g, 0, none⟩) ∧ g ∈ m.bl ∧ ∀ W : World, m.At W → W.cell? ⟨g, 5, none⟩ = some vm ∧ RowE encQ 5 W 0 55 vm m.own := by
  cases m with
  | nil => cases hn
  | leaf g v a L => exact ⟨g, v, rfl, List.mem_cons_self, fun W h => ⟨(Whole.cell (show Whole W g 71 _ from h.1) 5).trans rfl, h.2⟩⟩
  | quad g n a q => exact ⟨g, .slice none 0 0, rfl, bl_quad.2 (.inl rfl), fun W h => ⟨(Whole.cell (show Whole W g 71 _ from h.1) 5).trans rfl, RowE.nil _ _ _⟩⟩
set_option maxRecDepth 100000 in
set_option maxHeartbeats 6400000 in
theorem inside_seq {q : QN} {r : Rc} {w : World} (hh : q.high ≤ 190000) (hni : q.isNil = false) (hA : q.At w) (hown : ∀ x ∈ q.visit r, x.2.own.length ≤ 1000) {NB RB : Nat} (hn : Whole w NB 68 #[q.v]) (hr : Whole w RB 63 #[.int .i64 r.x, .int .i64 r.y, .int .i64 r.w, .int .i64 r.h]) :
    SeqO 72 #[.pointer (some ⟨NB, 0, none⟩), .pointer (some ⟨RB, 0, none⟩)] encI (q.inner r) (nodG q NB RB) w := by
  intro l J Jx F0 W hsz hGW hFG kJ lJ kX lX hY hJ
  have hlt := hA.lt
  have hnW : Whole W NB 68 #[q.v] := (hGW NB (.inr (.inl rfl))).trans hn
  have hrW : Whole W RB 63 #[.int .i64 r.x, .int .i64 r.y, .int .i64 r.w, .int .i64 r.h] := (hGW RB (.inr (.inr rfl))).trans hr
  have hFlt := lJ _ _ _ hJ
  have hnlt := hn.lt
  have hrlt := hr.lt
  obtain ⟨w0, hw0⟩ : ∃ w0, w0 = W.alloc (.cells #[.func (.yield l) #[] #[]] 96) := ⟨_, rfl⟩
  have hs0 : Since W w0 := by rw [hw0]; exact (Since.refl W).alloc _
  have whY : Whole w0 W.heap.size 96 #[.func (.yield l) #[] #[]] := by rw [hw0]; exact Whole.new W _ _
  have hz0 : w0.heap.size = W.heap.size + 1 := by rw [hw0]; simp
  have HW := Lib.hid hw0
  clear hw0
  have hAt : ∀ W1, Off F0 w0 W1 → q.At W1 := fun W1 h => hA.keep (fun b hb => (h.block b (by have := hlt b hb; omega) (fun z => hFG b z (.inl hb))).trans ((hs0.block b (by have := hlt b hb; omega)).trans (hGW b (.inl hb))))
  obtain ⟨qo, hqo, -⟩ := q.v_ptr
  obtain ⟨rx, ry, rw', rh⟩ := r
  have n0 := off_cell (F := F0) (hs0.whole hnW) (fun z => hFG _ z (.inr (.inl rfl))) 0 q.v rfl
  rw [hqo] at n0
  have r0 := off_cell (F := F0) (hs0.whole hrW) (fun z => hFG _ z (.inr (.inr rfl))) 0 (.int .i64 rx) rfl
  have r1 := off_cell (F := F0) (hs0.whole hrW) (fun z => hFG _ z (.inr (.inr rfl))) 1 (.int .i64 ry) rfl
  have r2 := off_cell (F := F0) (hs0.whole hrW) (fun z => hFG _ z (.inr (.inr rfl))) 2 (.int .i64 rw') rfl
  have r3 := off_cell (F := F0) (hs0.whole hrW) (fun z => hFG _ z (.inr (.inr rfl))) 3 (.int .i64 rh) rfl
  have y0 := off_cell (F := F0) whY (fun z => Nat.lt_irrefl _ (hFlt _ z)) 0 (.func (.yield l) #[] #[]) rfl
  have HAT := Lib.hid hAt
  have hsr := Off.refl F0 w0
  have HZ0 := Lib.hid hz0
  clear hz0
  clear hnW hrW whY hAt hA
  show Calls Tryz.prog 72 #[.func (.yield l) #[] #[], .pointer (some ⟨NB, 0, none⟩), .pointer (some ⟨RB, 0, none⟩)] W _
  refine (callsIn_wide (n := 0)).1 ?_
  refine callsIn_of_wp_marks Tryz.func72 rfl trivial ?_ rfl
  refine wpIn_wide.2 ?_
  simp only [Tryz.ntmps72, List.size_toArray, List.length_cons, List.length_nil, Nat.reduceAdd, Nat.reduceSub, Array.replicate_succ, Array.replicate_zero, List.push_toArray, List.append_toArray, List.nil_append, List.cons_append]
  go_upto_region 1 with fail
  rw [← HW.out]
  go_wp2_with (go_at_call 50; (with_reducible refine (nodes_any _ _ rfl ⟨rx, ry, rw', rh⟩ _).mono ?_); rintro e w2 ⟨rfl, hw2⟩)
  subst hw2
  obtain ⟨wl, hwl⟩ : ∃ wl, wl = ((w0.alloc (.cells #[.pointer qo] 68)).alloc (.cells #[.int .i64 rx, .int .i64 ry, .int .i64 rw', .int .i64 rh] 63)) := ⟨_, rfl⟩
  rw [← hwl]
  have hsl : Since w0 wl := by rw [hwl]; exact ((Since.refl w0).alloc _).alloc _
  have whN : Whole wl w0.heap.size 68 #[q.v] := by rw [hwl, hqo]; exact (Whole.new w0 _ _).alloc _
  have whR : Whole wl (w0.heap.size + 1) 63 #[.int .i64 rx, .int .i64 ry, .int .i64 rw', .int .i64 rh] := by rw [hwl]; exact (Whole.new (w0.alloc _) _ _).at_ (by simp)
  have hzl : wl.heap.size = w0.heap.size + 2 := by rw [hwl]; simp
  have hseq := nodes_seq ⟨rx, ry, rw', rh⟩ q hh hni wl (HAT.out wl (hsl.off _)) whN whR
  clear hwl whN whR
  have hz0 := HZ0.out
  refine (wpIn_wide (n := 0)).1 ?_
  refine range_wp (gf := 85) (lb := #[.pointer (some ⟨w0.heap.size, 0, none⟩), .pointer (some ⟨w0.heap.size + 1, 0, none⟩)]) rfl (enters_of Tryz.func85 (by kernel_rfl) rfl) hseq ?hG (fun _ => rfl)
    (fun pre F W => J (ownT ⟨rx, ry, rw', rh⟩ pre) F W ∧ ∀ b, F b → F0 b ∨ wl.heap.size ≤ b) (fun c pre F W => c = .ret ∧ ∃ t, t <+: q.inner ⟨rx, ry, rw', rh⟩ ∧ Jx t F W)
    (fun s F W W' h hs hb => ⟨kJ _ F W W' h.1 hs hb, h.2⟩) (fun s F W h => lJ _ F W h.1) (fun c s F W W' h hs hb => ⟨h.1, h.2.imp fun t ht => ⟨ht.1, kX _ F W W' ht.2 hs hb⟩⟩) (fun c s F W h => h.2.elim fun t ht => lX _ F W ht.2)
    F0 ?hF0 ?h0 ?rnd ?dn ?stp
  case hG =>
    rintro b (z | z | z)
    · have := hlt b z; omega
    · omega
    · omega
  case hF0 =>
    rintro b hb (z | z | z)
    · exact hFG b hb (.inl z)
    · have := hFlt b hb; omega
    · have := hFlt b hb; omega
  case h0 => exact ⟨kJ.since lJ hJ (hs0.trans hsl), fun _ z => .inl z⟩
  case stp =>
    rintro D c pre W3 hD hpre ⟨F', ⟨rfl, t, ht, h⟩, ho, hf, hDF⟩ hdd
    have hs1 := hs0.trans hsl
    have HE := Lib.hid (show EndP Jx t F0 W (shutD [D] W3) from ⟨F', kX _ _ _ _ h (by rw [shutD_size]; exact Nat.le_refl _) (fun b hb => World.putObj_heap_other (fun z => hDF (z ▸ hb))), ((hs1.off F0).trans ho (fun _ _ z => z)).trans (shutD_off [D] W3) (fun b hb z => by rw [List.mem_singleton.1 z] at hb; omega), fun b hb => (hf b hb).imp id (fun z => by omega)⟩)
    have HD := Lib.hid hdd
    clear h ho hf hdd
    refine wpIn_wide.2 ?_
    go_wp2
    exact leaves_marks [D] W3 (by simp) (fun E hE => by rw [List.mem_singleton.1 hE]; exact HD.out) ⟨.tuple #[], by simp [results, Tryz.results72, go_sem], ⟨_, rfl⟩, .inr ⟨_, ht, HE.out⟩⟩
  case dn =>
    rintro D W3 hD ⟨F', ⟨h, -⟩, ho, hf, hDF⟩ hdd
    have hs1 := hs0.trans hsl
    have HE := Lib.hid (show EndP J (q.inner ⟨rx, ry, rw', rh⟩) F0 W (shutD [D] W3) from ⟨F', kJ _ _ _ _ h (by rw [shutD_size]; exact Nat.le_refl _) (fun b hb => World.putObj_heap_other (fun z => hDF (z ▸ hb))), ((hs1.off F0).trans ho (fun _ _ z => z)).trans (shutD_off [D] W3) (fun b hb z => by rw [List.mem_singleton.1 z] at hb; omega), fun b hb => (hf b hb).imp id (fun z => by omega)⟩)
    have HD := Lib.hid hdd
    clear h ho hf hdd
    go_wp2
    exact leaves_marks [D] W3 (by simp) (fun E hE => by rw [List.mem_singleton.1 hE]; exact HD.out) ⟨.tuple #[], by simp [results, Tryz.results72, go_sem], ⟨_, rfl⟩, .inl HE.out⟩
  case rnd =>
    rintro l2 pre ⟨bw, m⟩ F W2 hpre ⟨hI2, hFF⟩ hoff hwl2 hl2 hFl
    have hmem : (bw, m) ∈ q.visit ⟨rx, ry, rw', rh⟩ := hpre.subset (by simp)
    obtain ⟨m1, m2, m3⟩ := visit_in _ q _ hmem
    have hml := hown _ hmem
    dsimp only at m1 m2 m3 hml
    have hsz2 := hoff.size
    have HX := Lib.hid (fun W3 (ho3 : Off (fun b => b = l2) W2 W3) => show Off F0 w0 W3 from ((hsl.off F0).trans hoff (fun b hb z => z)).trans ho3 (fun b hb z => by have z' : b = l2 := z; omega))
    obtain ⟨gm, vm, hmv, hgm, hmc⟩ := node_own m1 (m3 w0 (HAT.out w0 hsr))
    have HMC := Lib.hid (fun W3 (h : Off F0 w0 W3) => hmc W3 (m3 W3 (HAT.out W3 h)))
    have HPR := Lib.hid hpre
    obtain ⟨M, hM⟩ : ∃ M, m.own = M := ⟨_, rfl⟩
    rw [hM] at HMC hml
    simp only [encN, hmv]
    obtain ⟨va, vc, rfl⟩ := RowE.shp (HMC.out w0 hsr).2
    clear hseq hpre hmem m1 m2 m3 hmc
    gi_wp2
    refine ⟨Since.refl W2, fun W3 hz3 ho3 => ?_⟩
    have hO3 := HX.out W3 ho3
    have hc5 := (HMC.out W3 hO3).1
    have hI3 := kJ _ _ _ W3 hI2 (by omega) (fun b hb => ho3.block b (lJ _ _ _ hI2 b hb) (fun z => hFl (by have z' : b = l2 := z; rw [← z']; exact hb)))
    have HI3 := Lib.hid hI3
    clear hI3 ho3
    gi_wp2
    refine rounds_inv M.length (fun i A W4 => ∃ u7 u19 u20 u21 u22 u23 u24 u25 u26 u27 u28 u29 u30 u31 u32, A = { tmps := #[.func (.yield l) #[] #[], .pointer (some ⟨NB, 0, none⟩), .pointer (some ⟨RB, 0, none⟩), .pointer (some ⟨W.heap.size, 0, none⟩), undef, .pointer (some ⟨gm, 0, none⟩), undef, u7, .pointer qo, .agg #[.int .i64 rx, .int .i64 ry, .int .i64 rw', .int .i64 rh], .func (.func 85) #[] #[.pointer (some ⟨W.heap.size + 1, 0, none⟩), .pointer (some ⟨W.heap.size + 1 + 1, 0, none⟩)], .int .i64 bw, .pointer (some ⟨gm, 0, none⟩), .pointer (some ⟨gm, 0, none⟩), .pointer (some ⟨gm, 0, none⟩), .pointer (some ⟨gm, 5, none⟩), .slice va M.length vc, .int .i64 (M.length : Nat), .int .i64 (i : Nat), u19, u20, u21, u22, u23, u24, u25, u26, u27, u28, u29, u30, u31, u32], defers := [] } ∧ ∃ F4, J (ownT ⟨rx, ry, rw', rh⟩ pre ++ (M.take i).filter (inQ ⟨rx, ry, rw', rh⟩)) F4 W4 ∧ (∀ b, F4 b → F0 b ∨ wl.heap.size ≤ b) ∧ (∀ b, F4 b → F b ∨ W2.heap.size ≤ b) ∧ Off F W3 W4) ?start ?step ?done
    case start => exact ⟨_, _, _, _, _, _, _, _, _, _, _, _, _, _, _, rfl, F, by rw [List.take_zero, List.filter_nil, List.append_nil]; exact HI3.out, hFF, fun _ z => .inl z, Off.refl _ _⟩
    case done =>
      rintro A W4 ⟨u7, u19, u20, u21, u22, u23, u24, u25, u26, u27, u28, u29, u30, u31, u32, rfl, F4, j1, j2, j3, j4⟩
      rw [List.take_length] at j1
      have HJ := Lib.hid j1
      clear j1
      gi_wp2
      refine ⟨F4, ⟨?_, j2⟩, j4, j3⟩
      rw [ownT_snoc, hM]
      exact HJ.out
    case step =>
      rintro i A W4 hi ⟨u7, u19, u20, u21, u22, u23, u24, u25, u26, u27, u28, u29, u30, u31, u32, rfl, F4, j1, j2, j3, j4⟩
      have hO4 : Off F0 w0 W4 := hO3.trans j4 (fun b hb z => (hFF b z).resolve_right (by omega))
      have hrow := (HMC.out W4 hO4).2
      obtain ⟨a2, c2, hv2, hg2⟩ := (hrow.list encQ_len).form
      obtain ⟨g2, rfl, hg2l⟩ := hg2 i hi
      obtain ⟨rfl, -, rfl⟩ : va = some ⟨g2, 0, none⟩ ∧ True ∧ vc = c2 := by injection hv2 with e1 e2 e3; exact ⟨e1, trivial, e3⟩
      obtain ⟨s, hs⟩ : ∃ s, M[i] = s := ⟨_, rfl⟩
      have cl : ∀ W', Off F0 w0 W' → ∀ j u, (encQ s)[j]? = some u → W'.cell? ⟨g2, i * 5 + j, none⟩ = some u := fun W' hW j u hu => ((HMC.out W' hW).2.list encQ_len).at_ hi j (by rw [hs]; exact hu)
      have k0 := fun W' hW => cl W' hW 0 (.int .i64 s.x) rfl
      have k1 := fun W' hW => cl W' hW 1 (.int .i64 s.y) rfl
      have k2 := fun W' hW => cl W' hW 2 (.string s.key) rfl
      have k3 := fun W' hW => cl W' hW 3 (.string s.val) rfl
      have k4 := fun W' hW => cl W' hW 4 (.int .i64 s.ver) rfl
      rw [Nat.add_zero] at k0
      have hi4 : decide ((i : Int) < (M.length : Nat)) = true := decide_eq_true (by omega)
      have hi5 : (i : Int) < (M.length : Nat) := by omega
      have hiw : IntKind.i64.wrap ((i : Int) + 1) = ((i + 1 : Nat) : Int) := IntWalk.i64_in _ (by omega)
      have HJ := Lib.hid j1
      have HS := Lib.hid hs
      clear j1 hrow cl hs hv2 hg2
      have hO5 : Off F0 w0 (W4.alloc (.cells #[.int .i64 s.x, .int .i64 s.y, .string s.key, .string s.val, .int .i64 s.ver] 55)) := hO4.alloc _
      have hz4 := hO4.size
      have HBX := Lib.hid (Whole.new W4 55 #[.int .i64 s.x, .int .i64 s.y, .string s.key, .string s.val, .int .i64 s.ver])
      have HS4 := Lib.hid ((Since.refl W4).alloc (.cells #[.int .i64 s.x, .int .i64 s.y, .string s.key, .string s.val, .int .i64 s.ver] 55))
      have x0 := HBX.out.cell 0
      have x1 := HBX.out.cell 1
      have HJK := Lib.hid (fun w6 (hb6 : Since W4 w6) => kJ.since lJ HJ.out hb6)
      cases hq : inQ ⟨rx, ry, rw', rh⟩ s with
      | false =>
        have HQ := Lib.hid hq
        have HH := Lib.hid (fun w => (show hasR ⟨rx, ry, rw', rh⟩ s.x s.y = false from hq) ▸ wHas_any rx ry rw' rh s.x s.y w)
        clear hq
        gi_wp2_with (refine ⟨trivial, rfl, ?_⟩; gi_at_call 73; refine (CallsIn.inRound l2 (callsIn_wide.2 (HH.out _))).mono ?_; rintro e w6 ⟨rfl, hb6⟩; (have hO6 : Off F0 w0 w6 := hO5.since hb6))
        have hs6 : Since W4 w6 := HS4.out.trans hb6
        refine ⟨(fun _ h => by cases h), ?_⟩
        gi_wp2
        refine ⟨_, _, _, _, _, _, _, _, _, _, _, _, _, _, _, rfl, F4, ?_, j2, j3, j4.since hs6⟩
        rw [take_filt hi, HS.out, HQ.out, if_neg Bool.false_ne_true, List.append_nil]
        exact HJK.out _ hs6
      | true =>
        have HQ := Lib.hid hq
        have HH := Lib.hid (fun w => (show hasR ⟨rx, ry, rw', rh⟩ s.x s.y = true from hq) ▸ wHas_any rx ry rw' rh s.x s.y w)
        have hpp := ownT_pre HPR.out (i := i) (by rw [hM]; exact hi) (by simp only [hM, HS.out]; exact hq)
        simp only [hM, HS.out] at hpp
        have HYY := Lib.hid (fun w6 (hs6 : Since W4 w6) => hY _ s F4 w6 hpp (HJK.out w6 hs6) ((hs0.off F0).trans (hO4.since hs6) (fun _ _ z => z)))
        have HPP := Lib.hid hpp
        clear hq hpp
        gi_wp2_with (refine ⟨trivial, rfl, ?_⟩; gi_at_call 73; refine (CallsIn.inRound l2 (callsIn_wide.2 (HH.out _))).mono ?_; rintro e w6 ⟨rfl, hb6⟩; (have hO6 : Off F0 w0 w6 := hO5.since hb6); (have hs6 : Since W4 w6 := HS4.out.trans hb6); (have hbx6 := Since.whole hb6 HBX.out); (have x0 := hbx6.cell 0); (have x1 := hbx6.cell 1); (have x2 := hbx6.cell 2); (have x3 := hbx6.cell 3); (have x4 := hbx6.cell 4); (have hyc := y0 w6 hO6); obtain ⟨fn, tmps, assign, body, hyy, hR⟩ := HYY.out w6 hs6 0; dsimp only [encI, Rq.v] at hyy)
        refine ⟨rfl, ?_⟩
        refine (RoundIn.inRound l2 hR).mono ?_
        rintro e W7 hpost
        obtain ⟨bb, rfl, ho7, hend7⟩ := rnd_bb hpost
        rcases hend7 with ⟨rfl, F', e1, e2, e3⟩ | ⟨rfl, F', e1, e2, e3⟩
        · gi_wp2
          refine ⟨_, _, _, _, _, _, _, _, _, _, _, _, _, _, _, rfl, F', ?_, fun b hb => (e3 b hb).elim (j2 b) (fun z => .inr (by have := hs6.size_; have := j4.size; omega)), fun b hb => (e3 b hb).elim (j3 b) (fun z => .inr (by have := hs6.size_; have := j4.size; omega)), (j4.since hs6).trans e2 (fun b hb z => (j3 b z).resolve_right (by omega))⟩
          rw [take_filt hi, HS.out, HQ.out, if_pos rfl, ← List.append_assoc]
          exact e1
        · gi_wp2
          exact ⟨F', ⟨rfl, _, HPP.out, e1⟩, (j4.since hs6).trans e2 (fun b hb z => (j3 b z).resolve_right (by omega)), fun b hb => (e3 b hb).elim (j3 b) (fun z => .inr (by have := hs6.size_; have := j4.size; omega))⟩
end Go.Proofs.YthfhpejpjiaikaaGreat
