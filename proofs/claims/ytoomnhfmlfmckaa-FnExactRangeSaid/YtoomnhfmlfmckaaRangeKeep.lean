/-
  A block below all that marks may reach stays.
-/
import Derived.Test.YtoomnhfmlfmckaaMarks
namespace Go.Proofs.Ytoomnhfmlfmckaa
open Go.RowKit
set_option linter.unusedVariables false

theorem Row.keptE {B E : Nat} {w w' : World} {g : Nat} {T : TypeId} {cs : Array Value} (h : Row w g T cs) (k : Kept B E w w') (hg : g < B) : Row w' g T cs := (k.block g (lt_of_block h) (Or.inl hg)).trans h
end Go.Proofs.Ytoomnhfmlfmckaa
