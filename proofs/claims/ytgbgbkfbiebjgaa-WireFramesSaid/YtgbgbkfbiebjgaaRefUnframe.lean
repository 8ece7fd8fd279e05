/- gleberef01.Unframe. -/
import Derived.Test.YtgbgbkfbiebjgaaUnframe
import Derived.Test.YtgbgbkfbiebjgaaRefFrame
import Derived.Test.YtgbgbkfbiebjgaaBack
namespace Go.Proofs.Ytgbgbkfbiebjgaa
open Go.RowKit
theorem refUnframe_short (A : Option Addr) (n c : Nat) (w : World) (h : n < 5) : Calls Try.prog 24 #[.slice A n c] w (UnPost 0 [] 20 w) := by
  go_enter Try.func24, Try.ntmps24
  go_wp2
  go_ret3
  exact UnPost.nothing _ _
/-- The head's three bytes, and the first one. -/
theorem sz_bytes (l : List UInt8) (h : 5 ≤ l.length) : sz l = (l.getD 2 0).toNat + (l.getD 3 0).toNat * 256 + (l.getD 4 0).toNat * 65536 := by
  match l, h with
  | a :: b :: c :: d :: e :: r, _ =>
    show unfix [c, d, e] = c.toNat + d.toNat * 256 + e.toNat * 65536
    simp only [unfix]
    omega
theorem cell_at {w : World} {b off : Nat} {l : List UInt8} (hcell : ∀ i, (h : i < l.length) → w.cell? ⟨b, off + i, none⟩ = some (.int .u8 (l[i].toNat : Int))) (i : Nat) (h : i < l.length) :
    w.cell? ⟨b, off + i, none⟩ = some (.int .u8 ((l.getD i 0).toNat : Int)) := by
  rw [hcell i h]
  simp [List.getD, h]
/-- What all the walks behind the first test share: the cells, and the size that they tell. -/
structure RHead (w : World) (b off : Nat) (x0 x2 x3 x4 s : Nat) : Prop where
  c0 : w.cell? ⟨b, off, none⟩ = some (.int .u8 (x0 : Int))
  c2 : w.cell? ⟨b, off + 2, none⟩ = some (.int .u8 (x2 : Int))
  c3 : w.cell? ⟨b, off + 3, none⟩ = some (.int .u8 (x3 : Int))
  c4 : w.cell? ⟨b, off + 4, none⟩ = some (.int .u8 (x4 : Int))
  l2 : x2 < 256
  l3 : x3 < 256
  l4 : x4 < 256
  all : s = x2 + x3 * 256 + x4 * 65536
theorem rhead {w : World} {b off : Nat} {l : List UInt8} (hcell : ∀ i, (h : i < l.length) → w.cell? ⟨b, off + i, none⟩ = some (.int .u8 (l[i].toNat : Int))) (h5 : 5 ≤ l.length) :
    RHead w b off (l.getD 0 0).toNat (l.getD 2 0).toNat (l.getD 3 0).toNat (l.getD 4 0).toNat (sz l) :=
  ⟨by simpa using cell_at hcell 0 (by omega), cell_at hcell 2 (by omega), cell_at hcell 3 (by omega), cell_at hcell 4 (by omega), (l.getD 2 0).toNat_lt, (l.getD 3 0).toNat_lt, (l.getD 4 0).toNat_lt, sz_bytes l h5⟩
theorem UnPost.drawn (er : Int) (w : World) (k : Nat) : UnPost 0 [] er w (.returned (.tuple #[.int .i64 0, .slice none 0 0, .int .i64 er])) (w.drewN k) := ⟨none, 0, 0, rfl, Has.nil _ _, ⟨rfl, rfl, rfl, Nat.le_refl _, fun _ _ => rfl⟩⟩
/-- The sum that tells the size, as the region that draws its order spells it. -/
structure RWraps (x2 x3 x4 s : Nat) : Prop where
  m2 : IntKind.i64.wrap (x2 : Int) = (x2 : Int)
  m3 : IntKind.i64.wrap (x3 : Int) = (x3 : Int)
  m4 : IntKind.i64.wrap (x4 : Int) = (x4 : Int)
  m5 : IntKind.i64.wrap ((x3 : Int) * 256) = (x3 : Int) * 256
  m6 : IntKind.i64.wrap ((x2 : Int) + (x3 : Int) * 256) = (x2 : Int) + (x3 : Int) * 256
  m7 : IntKind.i64.wrap ((x4 : Int) * 65536) = (x4 : Int) * 65536
  m8 : IntKind.i64.wrap ((x2 : Int) + (x3 : Int) * 256 + (x4 : Int) * 65536) = (s : Int)
theorem rwraps {x2 x3 x4 s : Nat} (l2 : x2 < 256) (l3 : x3 < 256) (l4 : x4 < 256) (hs : s = x2 + x3 * 256 + x4 * 65536) : RWraps x2 x3 x4 s :=
  ⟨IntWalk.i64_in _ (by omega), IntWalk.i64_in _ (by omega), IntWalk.i64_in _ (by omega), IntWalk.i64_in _ (by omega), IntWalk.i64_in _ (by omega), IntWalk.i64_in _ (by omega), by rw [IntWalk.i64_in _ (by omega)]; omega⟩
set_option maxRecDepth 100000 in
set_option maxHeartbeats 800000 in
theorem refUnframe_version (b off n c x0 x2 x3 x4 s : Nat) (w : World) (hh : RHead w b off x0 x2 x3 x4 s) (h5 : 5 ≤ n) (hl : n ≤ 1000000) (hbad : x0 ≠ 3) :
    Calls Try.prog 24 #[.slice (some ⟨b, off, none⟩) n c] w (UnPost 0 [] 21 w) := by
  obtain ⟨c0, c2, c3, c4, l2, l3, l4, hs⟩ := hh
  obtain ⟨m2, m3, m4, m5, m6, m7, m8⟩ := rwraps l2 l3 l4 hs
  have i2 : (2 : Int) < (n : Int) := by omega
  have i3 : (3 : Int) < (n : Int) := by omega
  have i4 : (4 : Int) < (n : Int) := by omega
  have hx : ((x0 : Int) != 3) = true := by rw [bne_iff_ne]; omega
  clear hbad
  clear hs
  go_enter Try.func24, Try.ntmps24
  go_wp2
  go_quiet (fail)
  go_wp2
  go_ret3
  exact UnPost.drawn _ _ _
set_option maxRecDepth 100000 in
set_option maxHeartbeats 800000 in
theorem refUnframe_great (b off n c x0 x2 x3 x4 s : Nat) (w : World) (hh : RHead w b off x0 x2 x3 x4 s) (h5 : 5 ≤ n) (hl : n ≤ 1000000) (h3 : x0 = 3) (hbad : 131072 < s) :
    Calls Try.prog 24 #[.slice (some ⟨b, off, none⟩) n c] w (UnPost 0 [] 21 w) := by
  obtain ⟨c0, c2, c3, c4, l2, l3, l4, hs⟩ := hh
  obtain ⟨m2, m3, m4, m5, m6, m7, m8⟩ := rwraps l2 l3 l4 hs
  have i2 : (2 : Int) < (n : Int) := by omega
  have i3 : (3 : Int) < (n : Int) := by omega
  have i4 : (4 : Int) < (n : Int) := by omega
  subst h3
  clear hs
  go_enter Try.func24, Try.ntmps24
  go_wp2
  go_quiet (fail)
  go_wp2
  go_ret3
  exact UnPost.drawn _ _ _
set_option maxRecDepth 100000 in
set_option maxHeartbeats 800000 in
theorem refUnframe_end (b off n c x0 x2 x3 x4 s : Nat) (w : World) (hh : RHead w b off x0 x2 x3 x4 s) (h5 : 5 ≤ n) (hl : n ≤ 1000000) (h3 : x0 = 3) (hs1 : s ≤ 131072) (hbad : n < s + 9) :
    Calls Try.prog 24 #[.slice (some ⟨b, off, none⟩) n c] w (UnPost 0 [] 20 w) := by
  obtain ⟨c0, c2, c3, c4, l2, l3, l4, hs⟩ := hh
  obtain ⟨m2, m3, m4, m5, m6, m7, m8⟩ := rwraps l2 l3 l4 hs
  have i2 : (2 : Int) < (n : Int) := by omega
  have i3 : (3 : Int) < (n : Int) := by omega
  have i4 : (4 : Int) < (n : Int) := by omega
  subst h3
  clear hs
  go_enter Try.func24, Try.ntmps24
  go_wp2
  go_quiet (fail)
  go_wp2
  go_ret3
  exact UnPost.drawn _ _ _
set_option maxRecDepth 100000 in
set_option maxHeartbeats 800000 in
theorem refUnframe_behind (b off n c x0 x2 x3 x4 s : Nat) (w : World) (hh : RHead w b off x0 x2 x3 x4 s) (h5 : 5 ≤ n) (hl : n ≤ 1000000) (h3 : x0 = 3) (hs1 : s ≤ 131072) (hbad : s + 9 < n) :
    Calls Try.prog 24 #[.slice (some ⟨b, off, none⟩) n c] w (UnPost 0 [] 21 w) := by
  obtain ⟨c0, c2, c3, c4, l2, l3, l4, hs⟩ := hh
  obtain ⟨m2, m3, m4, m5, m6, m7, m8⟩ := rwraps l2 l3 l4 hs
  have i2 : (2 : Int) < (n : Int) := by omega
  have i3 : (3 : Int) < (n : Int) := by omega
  have i4 : (4 : Int) < (n : Int) := by omega
  subst h3
  have h1 : ¬ n < s + 9 := by omega
  clear hs
  go_enter Try.func24, Try.ntmps24
  go_wp2
  go_quiet (fail)
  go_wp2
  go_ret3
  exact UnPost.drawn _ _ _
end Go.Proofs.Ytgbgbkfbiebjgaa
