/- A tiling in memory: what its calls are to do, as premises; the laws' own num. -/
import Derived.Test.YtgnhamhkpbadbaaGDeep
import Derived.Test.YtgnhamhkpbadbaaHOff
namespace Go.Proofs.Ytgnhamhkpbadbaa
open Go.RowKit
/-- A tile's cells; a path's. -/
def encT (s : Tl) : List Value := [.int .i64 s.d, .int .i64 s.b, .int .i64 s.who]
theorem encT_len (s : Tl) : (encT s).length = 3 := rfl
def encG (s : Int × Int) : List Value := [.int .i64 s.1, .int .i64 s.2]
theorem encG_len (s : Int × Int) : (encG s).length = 2 := rfl
/-- The changes, of tiles in order: the error, the tiles behind it. -/
def dropT (L : List Tl) (d b : Int) : Int × List Tl := if hasT L d b = true then (0, L.filter fun s => !(s.d == d && s.b == b)) else (3, L)
def splitT (k : Int) (L : List Tl) (d b who : Int) : Int × List Tl := if hasT L d b = true then if d = 2 * k then (30, L) else if 64 ≤ L.length then (7, L) else (0, splT L d b who) else (3, L)
def mergeT (L : List Tl) (d b : Int) : Int × List Tl := if hasT L (d + 1) (2 * b) = true ∧ hasT L (d + 1) (2 * b + 1) = true then (0, mrgT L d b) else (3, L)
def giveT (L : List Tl) (d b who : Int) : Int × List Tl := if hasT L d b = true then (0, L.map fun s => if s.d = d ∧ s.b = b then ⟨d, b, who⟩ else s) else (3, L)
/-- The tile that has a cell. -/
def findT (k : Int) (L : List Tl) (x y : Int) : Option Tl := if hasB k x y = true then L.find? (fun s => hitB k x y s.d s.b) else none
def tlV : Option Tl → Value
  | none => .tuple #[.agg #[.int .i64 0, .int .i64 0, .int .i64 0], .bool false]
  | some s => .tuple #[.agg #[.int .i64 s.d, .int .i64 s.b, .int .i64 s.who], .bool true]
def deV : Option Tl → Value
  | none => .tuple #[.agg #[.int .i64 0, .int .i64 0], .bool false]
  | some s => .tuple #[.agg #[.int .i64 (s.d - 1), .int .i64 (s.b / 2)], .bool true]
section
variable (Obj : (Nat → Prop) → World → Value → Int → Tr → Prop)
/-- A call that changes a tiling: its error, its tiles. -/
def Changes (F : Nat → Prop) (W : World) (v : Value) (k : Int) (r : Int × List Tl) (e : Ending) (W' : World) : Prop :=
  e = .returned (.int .i64 r.1) ∧ ∃ F' t', Obj F' W' v k t' ∧ t'.tiles 0 0 = r.2 ∧ Off F W W' ∧ ∀ b, F' b → F b ∨ W.heap.size ≤ b
/-- New: a tiling of its own. -/
def Makes (W : World) (k : Int) (L : List Tl) (e : Ending) (W' : World) : Prop :=
  ∃ v F t, e = .returned (.tuple #[v, .int .i64 0]) ∧ Obj F W' v k t ∧ t.tiles 0 0 = L ∧ (∀ b, F b → W.heap.size ≤ b) ∧ Below W.heap.size W W' ∧ v ≠ .pointer none
structure TilP : Prop where
  keep : ∀ {F : Nat → Prop} {W W' : World} {v : Value} {k : Int} {t : Tr}, Obj F W v k t → (∀ b, F b → W'.heap[b]? = W.heap[b]?) → Obj F W' v k t
  lt : ∀ {F : Nat → Prop} {W : World} {v : Value} {k : Int} {t : Tr}, Obj F W v k t → ∀ b, F b → b < W.heap.size
  form : ∀ {F : Nat → Prop} {W : World} {v : Value} {k : Int} {t : Tr}, Obj F W v k t → ∃ g, v = .pointer (some ⟨g, 0, none⟩)
  ok : ∀ {F : Nat → Prop} {W : World} {v : Value} {k : Int} {t : Tr}, Obj F W v k t → rgt k = true ∧ (t.high : Int) ≤ 2 * k ∧ (t.tiles 0 0).length ≤ 64
  new : ∀ (k who : Int) (W : World) (a : Value), rgt k = true → ListE encT 3 W.heap.size W a [⟨0, 0, who⟩] → Calls Try.prog 9 #[.int .i64 k, a] W (Makes Obj W k [⟨0, 0, who⟩])
  drop : ∀ {F : Nat → Prop} {W : World} {v : Value} {k : Int} {t : Tr} (d b : Int), Obj F W v k t → Calls Try.prog 15 #[v, .agg #[.int .i64 d, .int .i64 b]] W (Changes Obj F W v k (dropT (t.tiles 0 0) d b))
  split : ∀ {F : Nat → Prop} {W : World} {v : Value} {k : Int} {t : Tr} (d b who : Int), Obj F W v k t → Calls Try.prog 14 #[v, .agg #[.int .i64 d, .int .i64 b], .int .i64 who] W (Changes Obj F W v k (splitT k (t.tiles 0 0) d b who))
  merge : ∀ {F : Nat → Prop} {W : World} {v : Value} {k : Int} {t : Tr} (d b : Int), Obj F W v k t → Calls Try.prog 54 #[v, .agg #[.int .i64 d, .int .i64 b]] W (Changes Obj F W v k (mergeT (t.tiles 0 0) d b))
  give : ∀ {F : Nat → Prop} {W : World} {v : Value} {k : Int} {t : Tr} (d b who : Int), Obj F W v k t → Calls Try.prog 56 #[v, .agg #[.int .i64 d, .int .i64 b], .int .i64 who] W (Changes Obj F W v k (giveT (t.tiles 0 0) d b who))
  find : ∀ {F : Nat → Prop} {W : World} {v : Value} {k : Int} {t : Tr} (x y : Int), Obj F W v k t → Calls Try.prog 19 #[v, .agg #[.int .i64 x, .int .i64 y]] W fun e W' => e = .returned (tlV (findT k (t.tiles 0 0) x y)) ∧ Below W.heap.size W W'
  list : ∀ {F : Nat → Prop} {W : World} {v : Value} {k : Int} {t : Tr}, Obj F W v k t → Calls Try.prog 18 #[v] W fun e W' => ∃ a, e = .returned a ∧ RowE encT 3 W' W.heap.size 50 a (t.tiles 0 0) ∧ Below W.heap.size W W'
  under : ∀ {F : Nat → Prop} {W : World} {v : Value} {k : Int} {t : Tr} (d b : Int), Obj F W v k t → Calls Try.prog 23 #[v, .agg #[.int .i64 d, .int .i64 b]] W fun e W' => ∃ a, e = .returned a ∧ RowE encT 3 W' W.heap.size 50 a ((t.tiles 0 0).filter fun s => abvB d b s.d s.b) ∧ Below W.heap.size W W'
  gaps : ∀ {F : Nat → Prop} {W : World} {v : Value} {k : Int} {t : Tr}, Obj F W v k t → Calls Try.prog 26 #[v] W fun e W' => ∃ a, e = .returned a ∧ RowE encG 2 W' W.heap.size 27 a (t.gaps 0 0) ∧ Below W.heap.size W W'
  whole : ∀ {F : Nat → Prop} {W : World} {v : Value} {k : Int} {t : Tr}, Obj F W v k t → Calls Try.prog 28 #[v] W fun e W' => e = .returned (.bool (t.gaps 0 0).isEmpty) ∧ Below W.heap.size W W'
  deep : ∀ {F : Nat → Prop} {W : World} {v : Value} {k : Int} {t : Tr}, Obj F W v k t → Calls Try.prog 21 #[v] W fun e W' => e = .returned (deV (deepL (t.tiles 0 0))) ∧ Below W.heap.size W W'
end
theorem TilP.since {Obj : (Nat → Prop) → World → Value → Int → Tr → Prop} (P : TilP Obj) {F : Nat → Prop} {W W' : World} {v : Value} {k : Int} {t : Tr} (h : Obj F W v k t) (hs : Since W W') : Obj F W' v k t :=
  P.keep h fun b hb => hs.block b (P.lt h b hb)
theorem law5_num (n : Int) (w : World) : Calls Try.prog 12 #[.int .i64 n] w fun e w' => e = .returned (.int .i64 n) ∧ w = w' := by
  go_enter Try.func12, Try.ntmps12
  go_wp2
  go_ret
  exact ⟨rfl, rfl⟩
end Go.Proofs.Ytgnhamhkpbadbaa
