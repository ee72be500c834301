/-
  Contracts on Equal3 and Less3, in the program and in the model.
-/
import Derived.Test.YtlpfpcnafejkoaaOrder2
namespace Go.Proofs.Ytlpfpcnafejkoaa
open Go.RowKit

theorem bytesLess_irrefl (l : List UInt8) : Op.bytesLess l l = false := by
  induction l with
  | nil => rfl
  | cons a l ih => simp [Op.bytesLess, ih]

def knownB (k n : Int) (s : ByteArray) : Bool := k != 0 && valOkB k n s
def yes (b : Bool) : Int := if b = true then 1 else 0
def eq3 (k n : Int) (s : ByteArray) (k' n' : Int) (s' : ByteArray) : Int := if (knownB k n s && knownB k' n' s') = true then yes (sameV k n s k' n' s') else 2
def less3 (k n : Int) (s : ByteArray) (k' n' : Int) (s' : ByteArray) : Int := if (knownB k n s && knownB k' n' s') = true then yes (decide (ordV k n s k' n' s' < 0)) else 2

theorem ordV_zero (k n : Int) (s : ByteArray) (k' n' : Int) (s' : ByteArray) : (ordV k n s k' n' s' == 0) = sameV k n s k' n' s' := by
  unfold ordV
  cases hs : sameV k n s k' n' s'
  · cases hl : lessV k n s k' n' s' <;> simp
  · have : lessV k n s k' n' s' = false := by
      simp [sameV] at hs
      obtain ⟨rfl, rfl, h⟩ := hs
      simp [lessV, h, bytesLess_irrefl]
    simp [this]

end Go.Proofs.Ytlpfpcnafejkoaa
