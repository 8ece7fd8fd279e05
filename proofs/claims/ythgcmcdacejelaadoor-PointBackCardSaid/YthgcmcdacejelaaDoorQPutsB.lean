/- The puts of both, of what may be and of what may not, in one form. -/
import Derived.Test.YthgcmcdacejelaaDoorQRefPut
namespace Go.Proofs.YthgcmcdacejelaaDoor
open Go.RowKit
set_option linter.unusedVariables false
theorem putRec_at {x y : Int} {key val : ByteArray} {ver : Int} {b : Bool} {L : List UInt8} {E : Int} (hb : recB x y key val ver = b) (hL : (if b then recL x y key val ver else []) = L) (hE : (if b then 0 else 1) = E) (w : World) :
    Calls Tryd.prog 9 #[.agg #[.int .i64 x, .int .i64 y, .string key, .string val, .int .i64 ver]] w (SliceNumPost w.heap.size L E w) := by
  subst hL; subst hE
  cases b with
  | true => exact putRec_yes x y key val ver w hb
  | false =>
    refine (putRec_no x y key val ver w hb).mono ?_
    rintro e w' ⟨rfl, h⟩
    exact ⟨none, 0, 0, rfl, Has.nil _ _, h⟩
theorem refPutRec_at {x y : Int} {key val : ByteArray} {ver : Int} {b : Bool} {L : List UInt8} (hb : recB x y key val ver = b) (hL : (if b then recL x y key val ver else []) = L) (w : World) :
    Calls Tryd.prog 24 #[.agg #[.int .i64 x, .int .i64 y, .string key, .string val, .int .i64 ver]] w (SlicePost w.heap.size L w) := by
  subst hL
  cases b with
  | true => exact refPutRec_yes x y key val ver w hb
  | false =>
    refine (refPutRec_no x y key val ver w hb).mono ?_
    rintro e w' ⟨rfl, h⟩
    exact ⟨none, 0, 0, rfl, Has.nil _ _, h⟩
theorem rightRec_at {x y : Int} {key val : ByteArray} {ver : Int} {b : Bool} (hb : recB x y key val ver = b) (w : World) :
    Calls Tryd.prog 15 #[.agg #[.int .i64 x, .int .i64 y, .string key, .string val, .int .i64 ver]] w fun e w' => e = .returned (.bool b) ∧ Below w.heap.size w w' := hb ▸ rightRec_any x y key val ver w
theorem putOp_at {kind x y : Int} {key val : ByteArray} {cl seq : Int} {b : Bool} {L : List UInt8} {E : Int} (hb : opB kind x y key val cl seq = b) (hL : (if b then opL kind x y key val cl seq else []) = L) (hE : (if b then 0 else 1) = E) (w : World) :
    Calls Tryd.prog 11 #[.agg #[.int .i64 kind, .int .i64 x, .int .i64 y, .string key, .string val, .int .i64 cl, .int .i64 seq]] w (SliceNumPost w.heap.size L E w) := by
  subst hL; subst hE
  cases b with
  | true => exact putOp_yes kind x y key val cl seq w hb
  | false =>
    refine (putOp_no kind x y key val cl seq w hb).mono ?_
    rintro e w' ⟨rfl, h⟩
    exact ⟨none, 0, 0, rfl, Has.nil _ _, h⟩
theorem refPutOp_at {kind x y : Int} {key val : ByteArray} {cl seq : Int} {b : Bool} {L : List UInt8} (hb : opB kind x y key val cl seq = b) (hL : (if b then opL kind x y key val cl seq else []) = L) (w : World) :
    Calls Tryd.prog 25 #[.agg #[.int .i64 kind, .int .i64 x, .int .i64 y, .string key, .string val, .int .i64 cl, .int .i64 seq]] w (SlicePost w.heap.size L w) := by
  subst hL
  cases b with
  | true => exact refPutOp_yes kind x y key val cl seq w hb
  | false =>
    refine (refPutOp_no kind x y key val cl seq w hb).mono ?_
    rintro e w' ⟨rfl, h⟩
    exact ⟨none, 0, 0, rfl, Has.nil _ _, h⟩
theorem rightOp_at {kind x y : Int} {key val : ByteArray} {cl seq : Int} {b : Bool} (hb : opB kind x y key val cl seq = b) (w : World) :
    Calls Tryd.prog 17 #[.agg #[.int .i64 kind, .int .i64 x, .int .i64 y, .string key, .string val, .int .i64 cl, .int .i64 seq]] w fun e w' => e = .returned (.bool b) ∧ Below w.heap.size w w' := hb ▸ rightOp_any kind x y key val cl seq w
theorem putAns_at {er : Int} {found : Bool} {val : ByteArray} {ver : Int} {b : Bool} {L : List UInt8} {E : Int} (hb : ansB er found val ver = b) (hL : (if b then ansL er found val ver else []) = L) (hE : (if b then 0 else 1) = E) (w : World) :
    Calls Tryd.prog 13 #[.agg #[.int .i64 er, .bool found, .string val, .int .i64 ver]] w (SliceNumPost w.heap.size L E w) := by
  subst hL; subst hE
  cases b with
  | true => exact putAns_yes er found val ver w hb
  | false =>
    refine (putAns_no er found val ver w hb).mono ?_
    rintro e w' ⟨rfl, h⟩
    exact ⟨none, 0, 0, rfl, Has.nil _ _, h⟩
theorem refPutAns_at {er : Int} {found : Bool} {val : ByteArray} {ver : Int} {b : Bool} {L : List UInt8} (hb : ansB er found val ver = b) (hL : (if b then ansL er found val ver else []) = L) (w : World) :
    Calls Tryd.prog 26 #[.agg #[.int .i64 er, .bool found, .string val, .int .i64 ver]] w (SlicePost w.heap.size L w) := by
  subst hL
  cases b with
  | true => exact refPutAns_yes er found val ver w hb
  | false =>
    refine (refPutAns_no er found val ver w hb).mono ?_
    rintro e w' ⟨rfl, h⟩
    exact ⟨none, 0, 0, rfl, Has.nil _ _, h⟩
theorem rightAns_at {er : Int} {found : Bool} {val : ByteArray} {ver : Int} {b : Bool} (hb : ansB er found val ver = b) (w : World) :
    Calls Tryd.prog 19 #[.agg #[.int .i64 er, .bool found, .string val, .int .i64 ver]] w fun e w' => e = .returned (.bool b) ∧ Below w.heap.size w w' := hb ▸ rightAns_any er found val ver w
end Go.Proofs.YthgcmcdacejelaaDoor
