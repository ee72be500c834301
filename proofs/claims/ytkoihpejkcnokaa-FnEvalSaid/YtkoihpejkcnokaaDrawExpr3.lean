/-
  Lists of parts that are put together: where they come from.
-/
import Derived.Test.YtkoihpejkcnokaaDrawExpr2
import Derived.Test.YtkoihpejkcnokaaTruMath
import Derived.Test.YtkoihpejkcnokaaSpecEval
namespace Go.Proofs.Ytkoihpejkcnokaa
open Go.RowKit
set_option linter.unusedVariables false

/-- The cells of the parts ts, from the block g on. -/
def SrcT (w : World) (g : Nat) (ts : List Tk) : Prop := ∀ j u, ((ts.map Tk.cells).flatten)[j]? = some u → w.cell? ((⟨g, 0, none⟩ : Addr).add j) = some u
theorem SrcT.below {w w' : World} {g : Nat} {ts : List Tk} (h : SrcT w g ts) (hb : Below w.heap.size w w') : SrcT w' g ts := fun j u hj => below_keep hb _ _ (h j u hj)
end Go.Proofs.Ytkoihpejkcnokaa
