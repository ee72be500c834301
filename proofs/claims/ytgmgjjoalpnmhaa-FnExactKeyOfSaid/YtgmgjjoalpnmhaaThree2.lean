/-
  Contracts on Equal3 and Less3 of the model.
-/
import Derived.Test.YtgmgjjoalpnmhaaThree
namespace Go.Proofs.Ytgmgjjoalpnmhaa
open Go.RowKit

end Go.Proofs.Ytgmgjjoalpnmhaa
