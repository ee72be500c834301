/-
  Contracts on Equal3 and Less3 of the model.
-/
import Derived.Test.YtakhcgkhjmfndaaGreatThree
namespace Go.Proofs.YtakhcgkhjmfndaaGreat
open Go.RowKit

end Go.Proofs.YtakhcgkhjmfndaaGreat
