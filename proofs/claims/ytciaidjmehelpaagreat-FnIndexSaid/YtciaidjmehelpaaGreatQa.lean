/-
  Several texts in one: what the proof leans on, part 1.
-/
import Derived.Test.YtciaidjmehelpaaGreatMa
import Derived.Test.YtciaidjmehelpaaGreatMb
import Derived.Test.YtciaidjmehelpaaGreatMc
import Derived.Test.YtciaidjmehelpaaGreatMd
import Derived.Test.YtciaidjmehelpaaGreatMe
import Derived.Test.YtciaidjmehelpaaGreatRa
import Derived.Test.YtciaidjmehelpaaGreatRb
import Derived.Test.YtciaidjmehelpaaGreatRc
import Derived.Test.YtciaidjmehelpaaGreatRd
set_option linter.unusedVariables false
set_option linter.unusedSimpArgs false
namespace Go.Proofs.YtciaidjmehelpaaGreat
open Go.RowKit Go.Maps
theorem implKeyOf (AC AV : Option Addr) (nC cC nV cV : Nat) (cols : List Int) (vals : List Vl) (ok ok' : Nat → Prop) (w : World) (hc : Sl IntR 1 ok w AC nC cols) (hv : Sl VlR 3 ok' w AV nV vals) (hcn : nC ≤ 1048576) (hvn : nV ≤ 1048576) :
  Calls Tryz.prog 32 #[.slice AC nC cC, .slice AV nV cV] w (MadeF VlR 3 (keyOf cols vals) (keyFl cols vals) w) :=
 (implKeyOfO AC AV nC cC nV cV cols vals ok ok' w hc hv hcn hvn).mono fun _ _ h => h.made
end Go.Proofs.YtciaidjmehelpaaGreat
