/-
  Contracts on the ops of expressions, of the program: as they take their values out of a slice.
-/
import Derived.Test.YtlpfpcnafejkoaaOps3
namespace Go.Proofs.Ytlpfpcnafejkoaa
open Go.RowKit

/-- A cell behind three stores into another block. -/
theorem stayThree {w : World} {g b i : Nat} {x y z v : Value} (h : g ≠ b) (hc : w.cell? ⟨b, i, none⟩ = some v) :
    (((w.setCell ⟨g, 0, none⟩ x).setCell ⟨g, 1, none⟩ y).setCell ⟨g, 2, none⟩ z).cell? ⟨b, i, none⟩ = some v := by
  have e : ∀ o, (⟨g, o, none⟩ : Addr) ≠ ⟨b, i, none⟩ := fun o he => h (congrArg Addr.block he)
  rw [World.cell?_setCell_other _ _ _ _ (e 2), World.cell?_setCell_other _ _ _ _ (e 1), World.cell?_setCell_other _ _ _ _ (e 0)]; exact hc
theorem keep6s {w : World} {g b i0 i1 i2 i3 i4 i5 : Nat} {x y z v0 v1 v2 v3 v4 v5 : Value} (hne : g ≠ b)
    (h : w.cell? ⟨b, i0, none⟩ = some v0 ∧ w.cell? ⟨b, i1, none⟩ = some v1 ∧ w.cell? ⟨b, i2, none⟩ = some v2 ∧ w.cell? ⟨b, i3, none⟩ = some v3 ∧ w.cell? ⟨b, i4, none⟩ = some v4 ∧ w.cell? ⟨b, i5, none⟩ = some v5) :
    (((w.setCell ⟨g, 0, none⟩ x).setCell ⟨g, 1, none⟩ y).setCell ⟨g, 2, none⟩ z).cell? ⟨b, i0, none⟩ = some v0 ∧ (((w.setCell ⟨g, 0, none⟩ x).setCell ⟨g, 1, none⟩ y).setCell ⟨g, 2, none⟩ z).cell? ⟨b, i1, none⟩ = some v1 ∧
    (((w.setCell ⟨g, 0, none⟩ x).setCell ⟨g, 1, none⟩ y).setCell ⟨g, 2, none⟩ z).cell? ⟨b, i2, none⟩ = some v2 ∧ (((w.setCell ⟨g, 0, none⟩ x).setCell ⟨g, 1, none⟩ y).setCell ⟨g, 2, none⟩ z).cell? ⟨b, i3, none⟩ = some v3 ∧
    (((w.setCell ⟨g, 0, none⟩ x).setCell ⟨g, 1, none⟩ y).setCell ⟨g, 2, none⟩ z).cell? ⟨b, i4, none⟩ = some v4 ∧ (((w.setCell ⟨g, 0, none⟩ x).setCell ⟨g, 1, none⟩ y).setCell ⟨g, 2, none⟩ z).cell? ⟨b, i5, none⟩ = some v5 :=
  ⟨stayThree hne h.1, stayThree hne h.2.1, stayThree hne h.2.2.1, stayThree hne h.2.2.2.1, stayThree hne h.2.2.2.2.1, stayThree hne h.2.2.2.2.2⟩

/-- Six cells of two values. -/
def Six (w : World) (b off : Nat) (x y : Vl) : Prop :=
  w.cell? ⟨b, off, none⟩ = some (.int .i64 x.k) ∧ w.cell? ⟨b, off + 1, none⟩ = some (.int .i64 x.n) ∧ w.cell? ⟨b, off + 2, none⟩ = some (.string x.s) ∧
  w.cell? ⟨b, off + 3, none⟩ = some (.int .i64 y.k) ∧ w.cell? ⟨b, off + 3 + 1, none⟩ = some (.int .i64 y.n) ∧ w.cell? ⟨b, off + 3 + 2, none⟩ = some (.string y.s)
/-- Three cells of a value. -/
def Tri (w : World) (b off : Nat) (x : Vl) : Prop :=
  w.cell? ⟨b, off, none⟩ = some (.int .i64 x.k) ∧ w.cell? ⟨b, off + 1, none⟩ = some (.int .i64 x.n) ∧ w.cell? ⟨b, off + 2, none⟩ = some (.string x.s)


end Go.Proofs.Ytlpfpcnafejkoaa
