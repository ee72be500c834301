/-
  Contracts of what the exact laws do with a Val: its size, its copy.
-/
import Derived.Test.YtakhcgkhjmfndaaGreatOrder
namespace Go.Proofs.YtakhcgkhjmfndaaGreat
open Go.RowKit

def szN (left : Int) (s : ByteArray) : Int := if left - s.size < 0 then -1 else left - s.size

end Go.Proofs.YtakhcgkhjmfndaaGreat
