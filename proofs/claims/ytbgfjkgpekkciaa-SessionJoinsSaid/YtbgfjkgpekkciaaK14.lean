/- What number answers, of a number's own bytes and of any: plain lists. -/
import Derived.Test.YtbgfjkgpekkciaaK12
import Derived.Test.YtbgfjkgpekkciaaK13
namespace Go.Proofs.Ytbgfjkgpekkciaa
/-- What Upto answers: the number, its bytes, the error. -/
def up (most : Int) (l : List UInt8) : Nat × Nat × Int :=
  if (dec 9007199254740992 0 0 l).2.2 = 0 ∧ most < ((dec 9007199254740992 0 0 l).1 : Int) then (0, 0, 21) else dec 9007199254740992 0 0 l
/-- What Text answers: the text, how many bytes have gone, the error. -/
def tx (most : Int) (l : List UInt8) : List UInt8 × Nat × Int :=
  if (up most l).2.2 = 0 then
    (if l.length < (up most l).2.1 + (up most l).1 then ([], (up most l).2.1, 20) else ((l.drop (up most l).2.1).take (up most l).1, (up most l).2.1 + (up most l).1, 0))
  else ([], 0, (up most l).2.2)
end Go.Proofs.Ytbgfjkgpekkciaa
