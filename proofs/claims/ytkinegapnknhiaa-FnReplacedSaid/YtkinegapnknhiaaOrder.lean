/-
  Contracts on the order of values: ValOk, cmp.Compare, cmp.Or, Order, in the program and in the model.
-/
import Derived.Test.YtkinegapnknhiaaHeld
import Derived.Deep.LoopGhost
namespace Go.Proofs.Ytkinegapnknhiaa
open Go.RowKit

def cmpI (x y : Int) : Int := if x < y then -1 else if y < x then 1 else 0
def cmpS (x y : ByteArray) : Int := if Op.bytesLess x.toList y.toList = true then -1 else if x.toList = y.toList then 0 else 1
def firstNZ (x y z : Int) : Int := if x ≠ 0 then x else if y ≠ 0 then y else z

end Go.Proofs.Ytkinegapnknhiaa
