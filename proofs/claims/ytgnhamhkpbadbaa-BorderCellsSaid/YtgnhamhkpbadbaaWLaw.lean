/- What the laws of the windows share: num, Own, Ref, Same, sum, in, Some. What they ask of the program stands as premises. -/
import Derived.Test.YtgnhamhkpbadbaaWDistR
namespace Go.Proofs.Ytgnhamhkpbadbaa
open Go.RowKit
theorem cnt_take (l : List Rc) (p : Rc → Bool) (m : Nat) (h : m < l.length) : (l.take (m + 1)).countP p = (l.take m).countP p + if p l[m] = true then 1 else 0 := by
  rw [List.take_succ_eq_append_getElem h, List.countP_append]
  congr 1
  cases e : p l[m] <;> simp [e]
/-- A window of any numbers that may be. -/
def smW (k : Int) (r : Rc) : Rc := ⟨r.x % side k, r.y % side k, r.w % (side k + 1), r.h % (side k + 1)⟩
theorem smW_win {k : Int} (hr : rgt k = true) (r : Rc) : winR k (smW k r) = true := by
  have h1 := sd_pos k
  rw [sd_yes hr] at h1
  rw [winR_iff]
  unfold smW
  dsimp only
  have a1 := Int.emod_nonneg r.x (show side k ≠ 0 by omega)
  have a2 := Int.emod_lt_of_pos r.x h1
  have a3 := Int.emod_nonneg r.y (show side k ≠ 0 by omega)
  have a4 := Int.emod_lt_of_pos r.y h1
  have a5 := Int.emod_nonneg r.w (show side k + 1 ≠ 0 by omega)
  have a6 := Int.emod_lt_of_pos r.w (show 0 < side k + 1 by omega)
  have a7 := Int.emod_nonneg r.h (show side k + 1 ≠ 0 by omega)
  have a8 := Int.emod_lt_of_pos r.h (show 0 < side k + 1 by omega)
  omega
theorem tmod_one (x n : Int) (hn : 0 < n) : (x.tmod (n + 1) + n + 1).tmod (n + 1) = x % (n + 1) := by
  have e := tmod_pos x (n + 1) (by omega)
  rwa [show x.tmod (n + 1) + (n + 1) = x.tmod (n + 1) + n + 1 by omega] at e
end Go.Proofs.Ytgnhamhkpbadbaa
