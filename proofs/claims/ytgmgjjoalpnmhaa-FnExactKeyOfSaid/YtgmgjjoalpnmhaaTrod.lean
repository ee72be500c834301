/-
  Tables and rows among the arguments.
-/
import Derived.Test.YtgmgjjoalpnmhaaTypes
import Derived.Lib.SmallJoins
namespace Go.Proofs.Ytgmgjjoalpnmhaa
open Go.ChangeShapes Go.WideShapes Go.ChangeAt Go.RowKit Go.Joins Go.Deep
set_option linter.unusedVariables false

theorem Int_of_trod {H : Type} {enc : TypeId × Value → H} {W : World} {fuel : Nat} {cs : List Value} {x : DataW H × List MemPlace} (h : DataW.trod enc Try.prog W 0 (fun _ => true) true fuel 2 cs = some x) : ∃ d, IntR (fun _ => True) W cs d ∧ (Lit.int .i64 d).wf = true := by
  obtain ⟨k, q0, -, wk⟩ := DataW.trod_int Try.underlying2 h
  exact ⟨k, q0, wk⟩
theorem Val_of_trod {H : Type} {enc : TypeId × Value → H} {W : World} {fuel : Nat} {cs : List Value} {x : DataW H × List MemPlace} (h : DataW.trod enc Try.prog W 0 (fun _ => true) true fuel 37 cs = some x) : ∃ d, VlR (fun _ => True) W cs d ∧ d.s.size ≤ maxLen := by
  obtain ⟨k, n, s, rfl, -, -, hs⟩ := val_of_trod Try.underlying37 (by kernel_rfl) ⟨rfl, rfl, rfl⟩ (by kernel_rfl) (by kernel_rfl) (by kernel_rfl) Try.underlying2 Try.underlying2 Try.underlying9 h
  exact ⟨⟨k, n, s⟩, rfl, hs⟩
theorem IntL_of_trod {H : Type} {enc : TypeId × Value → H} {W : World} {fuel : Nat} {x : DataW H × List MemPlace} {a : Option Addr} {len cap : Nat} (h : DataW.trod enc Try.prog W 0 (fun _ => true) true fuel 22 [.slice a len cap] = some x) : ∃ ds, Sl IntR 1 (fun _ => True) W a len ds ∧ ds.length ≤ maxLen := by
  obtain ⟨ds, h1, h2, -⟩ := sl_of_trod (R := IntR) (q := fun _ => True) (sz := 1) Try.underlying22 (by kernel_rfl) (by omega) (fun n c y hy => by obtain ⟨d, hd, _⟩ := Int_of_trod hy; exact ⟨d, hd, trivial⟩) h
  exact ⟨ds, h1, h2⟩
theorem ValL_of_trod {H : Type} {enc : TypeId × Value → H} {W : World} {fuel : Nat} {x : DataW H × List MemPlace} {a : Option Addr} {len cap : Nat} (h : DataW.trod enc Try.prog W 0 (fun _ => true) true fuel 23 [.slice a len cap] = some x) : ∃ ds : List Vl, Sl VlR 3 (fun _ => True) W a len ds ∧ (ds.length ≤ maxLen ∧ ∀ v ∈ ds, v.s.size ≤ maxLen) :=
  sl_of_trod (R := VlR) (q := fun v : Vl => v.s.size ≤ maxLen) (sz := 3) Try.underlying23 (by kernel_rfl) (by omega) (fun n c y hy => Val_of_trod hy) h


end Go.Proofs.Ytgmgjjoalpnmhaa
