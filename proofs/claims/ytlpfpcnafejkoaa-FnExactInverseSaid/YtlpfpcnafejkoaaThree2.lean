/-
  Contracts on Equal3 and Less3 of the model.
-/
import Derived.Test.YtlpfpcnafejkoaaThree
namespace Go.Proofs.Ytlpfpcnafejkoaa
open Go.RowKit

end Go.Proofs.Ytlpfpcnafejkoaa
