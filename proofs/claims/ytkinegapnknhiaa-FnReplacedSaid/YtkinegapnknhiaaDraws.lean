/-
  Contracts of the functions that draw truths and values out of a code.
-/
import Derived.Test.YtkinegapnknhiaaReader2
import Derived.Deep.RegionWith
import Derived.Deep.RegionHeld3
namespace Go.Proofs.Ytkinegapnknhiaa
open Go.RowKit

/-- The reader that l1Open lays. -/
theorem Rdr.new {w : World} {a : Option Addr} {len cap : Nat} {zs : List Int} (h : IsRow .u8 w a len cap zs) (T : TypeId) : Rdr (w.alloc (.cells #[.slice a len cap, .int .i64 0] T)) w.heap.size a len cap zs := by
  refine ⟨by simp, ⟨0, by omega, by simp⟩, World.frozen?_alloc_at _ _ _ _ rfl, ?_, ?_⟩
  · rcases h with e | ⟨x, rfl, hl, hm, hz, hcell, hwz⟩
    · exact .inl e
    · exact .inr ⟨x, rfl, hl, hm, hz, fun i hi => (((But.refl w.heap.size w).alloc _).cell (cell_lt (hcell i hi)) (Nat.ne_of_lt (cell_lt (hcell i hi)))).trans (hcell i hi), hwz⟩
  · intro x e hc
    rcases h with ⟨_, _, e0, _⟩ | ⟨y, rfl, hl, hm, hz, hcell, hwz⟩
    · omega
    · cases e
      have := cell_lt (hcell 0 (by omega))
      rw [add_block] at this
      omega

theorem specOpen (a : Option Addr) (len cap : Nat) (w : World) :
    Calls Try.prog 39 #[.slice a len cap] w fun e w' => e = .returned (.pointer (some ⟨w.heap.size, 0, none⟩)) ∧ w.alloc (.cells #[.slice a len cap, .int .i64 0] 102) = w' := by
  go_enter Try.func39, Try.ntmps39
  go_wp2
  go_ret
  exact ⟨rfl, rfl⟩

theorem lawsBig (a : Option Addr) (len cap : Nat) (w : World) :
    Calls Try.prog 12 #[.slice a len cap] w fun e w' => e = .returned (.bool (decide ((1048576 : Int) < len))) ∧ w = w' := by
  go_enter Try.func12, Try.ntmps12
  go_wp2
  go_ret
  exact ⟨rfl, rfl⟩

/-- Behind a function that draws out of a code: nothing that was there has turned; the answer is as P says. -/
def Drawn (P : Value → World → Prop) (w : World) (e : Ending) (w' : World) : Prop := ∃ v, e = .returned v ∧ P v w' ∧ Below w.heap.size w w'

theorem IsRow.below {w w' : World} {a : Option Addr} {len cap : Nat} {zs : List Int} (h : IsRow .u8 w a len cap zs) (hb : Below w.heap.size w w') : IsRow .u8 w' a len cap zs := by
  rcases h with e | ⟨x, rfl, hl, hm, hz, hcell, hwz⟩
  · exact .inl e
  · exact .inr ⟨x, rfl, hl, hm, hz, fun i hi => (hb.cell (cell_lt (hcell i hi))).trans (hcell i hi), hwz⟩

def isPair (P Q : Value → World → Prop) (v : Value) (w : World) : Prop := ∃ x y, v = .tuple #[x, y] ∧ P x w ∧ Q y w
def isI64 (v : Value) (_ : World) : Prop := ∃ n : Int, v = .int .i64 n ∧ -9223372036854775808 ≤ n ∧ n ≤ 9223372036854775807

end Go.Proofs.Ytkinegapnknhiaa
