/- The walk of the law WireSums: the sum of any bytes is the document's; with one bit turned it is another one. The walk of the law WireNumbers: any number's and any text's bytes are the document's. glebelaw11.knows: it is true. -/
import Derived.Test.YtimmnmidhjbanaaDoorK09
import Derived.Test.YtimmnmidhjbanaaDoorK11
import Derived.Test.YtimmnmidhjbanaaDoorK12
import Derived.Test.YtimmnmidhjbanaaDoorK34
import Derived.Test.YtimmnmidhjbanaaDoorK35
import Derived.Lib.SlBytesConst
import Derived.Deep.RegionHeld3
namespace Go.Proofs.YtimmnmidhjbanaaDoor
open Go.RowKit
/-- A slice of bytes that came in. -/
def RowIn (k : IntKind) (w : World) (a : Option Addr) (len cap : Nat) (zs : List Int) : Prop :=
  (a = none ∧ len = 0 ∧ cap = 0 ∧ zs = []) ∨
  ∃ x, a = some x ∧ len ≤ cap ∧ cap ≤ maxLen ∧ zs.length = cap ∧ (∀ i, i < zs.length → w.cell? (x.add i) = some (.int k (zs.getD i 0))) ∧ ∀ n ∈ zs, (Lit.int k n).wf = true
theorem Rd.set_ {w : World} {B g off i : Nat} {l : List UInt8} (h : Rd w B (some ⟨g, off, none⟩) l) (hi : i < l.length) (y : UInt8) :
    Rd (w.setCell ⟨g, off + i, none⟩ (.int .u8 (y.toNat : Int))) B (some ⟨g, off, none⟩) (l.set i y) := by
  obtain ⟨b, o, he, hb, hc⟩ := h.at_ hi
  injection he with he
  injection he with e1 e2
  subst e1; subst e2
  refine .inr ⟨g, off, rfl, hb, fun k hk => ?_⟩
  rw [List.length_set] at hk
  by_cases e : i = k
  · subst e
    have hx := hc i hi
    rw [World.cell?_setCell_same w _ _ hx]
    simp
  · rw [World.cell?_setCell_other w _ _ _ (fun h => by injection h with _ h; omega), hc k hk]
    simp [e]
end Go.Proofs.YtimmnmidhjbanaaDoor
namespace Go.Proofs.YtimmnmidhjbanaaDoor
open Go.RowKit
/-- A text that stays in memory: what it is told as, in each later world. -/
theorem text_later {w : World} {base : Nat} {A : Option Addr} {n c : Nat} {l : List UInt8} (h : Has w base A n c l) : ∀ W : World, Below w.heap.size w W → (convert 31 9 (.slice A n c)).run Tryd.prog W = .ok (.string ⟨l.toArray⟩) W :=
  fun W hW => text_of W n c (h.below hW).rd h.len
end Go.Proofs.YtimmnmidhjbanaaDoor
namespace Go.Proofs.YtimmnmidhjbanaaDoor
open Go.RowKit
set_option linter.unusedVariables false
set_option linter.unusedSimpArgs false
theorem kn_right : rightB ⟨2, 0, 0, 0, ⟨#[]⟩, ⟨#[]⟩, 0, 0, 3, 0, 0⟩ [] = true := by decide +kernel
theorem kn_bytes : entL ⟨2, 0, 0, 0, ⟨#[]⟩, ⟨#[]⟩, 0, 0, 3, 0, 0⟩ [] = [2, 3] := by decide +kernel
theorem kn_first : heirs1 ⟨4, 0, 0, 0, ⟨#[]⟩, ⟨#[]⟩, 0, 0, 2, 5, 1⟩ [4, 2] = [4, 2] := by decide +kernel
theorem kn_second : heirs2 ⟨4, 0, 0, 0, ⟨#[]⟩, ⟨#[]⟩, 0, 0, 2, 5, 1⟩ [4, 2] = [1, 4] := by decide +kernel
set_option maxRecDepth 100000 in
set_option maxHeartbeats 1600000 in
theorem knows11_any (w : World) : Calls Tryd.prog 8 #[] w fun e w' => e = .returned (.bool true) ∧ Below w.heap.size w w' := by
  go_enter Tryd.func8, Tryd.ntmps8
  go_wp2_with fail
  refine (put11_yes (LZ.nil w.heap.size w) (Nat.le_refl _) (by simp) kn_right).mono ?_
  rintro e w1 ⟨A1, n1, c1, rfl, h1, hb1⟩
  rw [kn_bytes] at h1
  have hs1 : Since w w1 := hb1
  go_wp2_with fail
  refine (heirs_any (LZ.lit2 (W := w1) (a := 4) (b := 2)) (by simp) (by simp)).mono ?_
  rintro e w2 ⟨v1, v2, rfl, hr1, hr2, hb2⟩
  rw [kn_first] at hr1
  rw [kn_second] at hr2
  obtain ⟨x1, m1, d1, rfl⟩ := RowE.shape3 hr1
  obtain ⟨x2, m2, d2, rfl⟩ := RowE.shape3 hr2
  have hs12 : Since w1 w2 := Since.trans ((Since.refl w1).alloc (.cells #[.int .i64 4, .int .i64 2] 3)) hb2
  have tx := fun W (hW : Since w1 W) => text_later h1 W hW
  have tx2 := tx w2 hs12
  have HR := Lib.hid (And.intro hr1 (And.intro hr2 (And.intro hs1 hs12)))
  clear h1 hr1 hr2 hb1 hb2 hs1 hs12
  have hs2 : Since w2 w2 := Since.refl w2
  have HS1 := Lib.hid (sameList_any (B := w2.heap.size + 1) (w := w2.alloc (.cells #[.int .i64 4, .int .i64 2] 3)) ((LZ.since (RZ.lz HR.out.1) ((Since.refl w2).alloc _) (Nat.le_refl _)).mono (Nat.le_succ _)) (LZ.lit2 (W := w2) (a := 4) (b := 2)) (by simp) (by simp) (show sameZ [4, 2] [4, 2] = true by decide +kernel))
  go_wp2_with (first
    | (go_at_call 19; (with_reducible refine (num11_any _ _).mono ?_); rintro e w' ⟨rfl, rfl⟩)
    | (go_at_call 14; (with_reducible refine HS1.out.mono ?_); rintro e w3 ⟨rfl, hb3⟩; have hs3 : Since w2 w3 := Since.trans ((Since.refl w2).alloc _) hb3))
  refine (sameList_any (B := w3.heap.size + 1) ((LZ.since ((RZ.since HR.out.2.1 hs3).lz) ((Since.refl w3).alloc _) (Nat.le_refl _)).mono (Nat.le_succ _)) (LZ.lit2 (W := w3) (a := 1) (b := 4)) (by simp) (by simp) (show sameZ [1, 4] [1, 4] = true by decide +kernel)).mono ?_
  rintro e w4 ⟨rfl, hb4⟩
  have hs4 : Since w2 w4 := Since.trans (Since.trans hs3 ((Since.refl w3).alloc _)) hb4
  go_wp2
  go_ret
  exact ⟨rfl, (HR.out.2.2.1.trans HR.out.2.2.2).trans hs4⟩
end Go.Proofs.YtimmnmidhjbanaaDoor
