/-
  What the exact laws over disks want: sizes of the answers, rows behind marks.
-/
import Derived.Test.YtkinegapnknhiaaDiskSync
import Derived.Test.YtkinegapnknhiaaDiskMarks
import Derived.Test.YtkinegapnknhiaaOwnLaw
namespace Go.Proofs.Ytkinegapnknhiaa
open Go.RowKit
set_option linter.unusedVariables false
set_option linter.unusedSimpArgs false

theorem Row.keptB {B E : Nat} {w w' : World} {g : Nat} {T : TypeId} {cs : Array Value} (h : Row w g T cs) (k : Kept B E w w') (hg : g < B ∨ E ≤ g) : Row w' g T cs := (k.block g (lt_of_block h) hg).trans h
theorem syncD_fits {x : Dz} (h : x.sz ≤ 1048576) : (syncD x).fits := by
  have h1 := Dz.fits_of h
  unfold syncD
  split
  · exact ⟨h1.1, h1.1, by simp⟩
  · exact ⟨by simp, by simp, by simp⟩
end Go.Proofs.Ytkinegapnknhiaa
