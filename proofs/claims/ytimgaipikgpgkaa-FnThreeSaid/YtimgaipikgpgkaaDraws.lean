/-
  Contracts of the functions that draw truths and values out of a code.
-/
import Derived.Test.YtimgaipikgpgkaaReader2
import Derived.Deep.RegionWith
import Derived.Deep.RegionHeld3
namespace Go.Proofs.Ytimgaipikgpgkaa
open Go.RowKit

/-- The reader that l1Open lays. -/
theorem Rd.new {w : World} {a : Option Addr} {len cap : Nat} {zs : List Int} (h : IsRow .u8 w a len cap zs) (T : TypeId) : Rd (w.alloc (.cells #[.slice a len cap, .int .i64 0] T)) w.heap.size a len cap zs := by
  refine ⟨by simp, ⟨0, by omega, by simp⟩, World.frozen?_alloc_at _ _ _ _ rfl, ?_, ?_⟩
  · rcases h with e | ⟨x, rfl, hl, hm, hz, hcell, hwz⟩
    · exact .inl e
    · exact .inr ⟨x, rfl, hl, hm, hz, fun i hi => (((But.refl w.heap.size w).alloc _).cell (cell_lt (hcell i hi)) (Nat.ne_of_lt (cell_lt (hcell i hi)))).trans (hcell i hi), hwz⟩
  · intro x e hc
    rcases h with ⟨_, _, e0, _⟩ | ⟨y, rfl, hl, hm, hz, hcell, hwz⟩
    · omega
    · cases e
      have := cell_lt (hcell 0 (by omega))
      rw [add_block] at this
      omega

theorem specOpen (a : Option Addr) (len cap : Nat) (w : World) :
    Calls Try.prog 37 #[.slice a len cap] w fun e w' => e = .returned (.pointer (some ⟨w.heap.size, 0, none⟩)) ∧ w.alloc (.cells #[.slice a len cap, .int .i64 0] 59) = w' := by
  go_enter Try.func37, Try.ntmps37
  go_wp2
  go_ret
  exact ⟨rfl, rfl⟩

theorem lawsBig (a : Option Addr) (len cap : Nat) (w : World) :
    Calls Try.prog 14 #[.slice a len cap] w fun e w' => e = .returned (.bool (decide ((1048576 : Int) < len))) ∧ w = w' := by
  go_enter Try.func14, Try.ntmps14
  go_wp2
  go_ret
  exact ⟨rfl, rfl⟩

/-- Behind a function that draws out of a code: nothing that was there has turned; the answer is as P says. -/
def Drawn (P : Value → World → Prop) (w : World) (e : Ending) (w' : World) : Prop := ∃ v, e = .returned v ∧ P v w' ∧ Below w.heap.size w w'

theorem IsRow.below {w w' : World} {a : Option Addr} {len cap : Nat} {zs : List Int} (h : IsRow .u8 w a len cap zs) (hb : Below w.heap.size w w') : IsRow .u8 w' a len cap zs := by
  rcases h with e | ⟨x, rfl, hl, hm, hz, hcell, hwz⟩
  · exact .inl e
  · exact .inr ⟨x, rfl, hl, hm, hz, fun i hi => (hb.cell (cell_lt (hcell i hi))).trans (hcell i hi), hwz⟩

def isPair (P Q : Value → World → Prop) (v : Value) (w : World) : Prop := ∃ x y, v = .tuple #[x, y] ∧ P x w ∧ Q y w
def isI64 (v : Value) (_ : World) : Prop := ∃ n : Int, v = .int .i64 n ∧ -9223372036854775808 ≤ n ∧ n ≤ 9223372036854775807

set_option maxHeartbeats 400000 in
theorem drawAnd3 (a : Option Addr) (len cap : Nat) (zs : List Int) (w : World) (h : IsRow .u8 w a len cap zs) :
    Calls Try.prog 26 #[.slice a len cap] w (Drawn (isPair isI64 isI64) w) := by
  have h0 := Rd.new h 59
  have b0 := (Below.refl w.heap.size w).alloc (Nat.le_refl _) (.cells #[.slice a len cap, .int .i64 0] 59)
  go_enter Try.func26, Try.ntmps26
  go_wp2_with fail
  refine (specOpen _ _ _ _).mono ?_
  rintro e w1 ⟨rfl, rfl⟩
  go_wp2_with fail
  refine (rdOff _ _ (by omega) (by omega) (by omega) _ _ a len cap zs h0).mono ?_
  rintro e w2 ⟨v, rfl, ⟨x, rfl, x0, x1⟩, hb, hr⟩
  go_wp2_with fail
  refine (rdOff _ _ (by omega) (by omega) (by omega) _ _ a len cap zs hr).mono ?_
  rintro e w3 ⟨v, rfl, ⟨y, rfl, y0, y1⟩, hb2, hr2⟩
  go_wp2_with fail
  go_ret2
  exact ⟨_, rfl, ⟨_, _, rfl, ⟨x, rfl, x0, x1⟩, ⟨y, rfl, y0, y1⟩⟩, b0.trans ((hb.trans hb2).below (Nat.le_refl _) (by simp))⟩

theorem drawOr3 (a : Option Addr) (len cap : Nat) (zs : List Int) (w : World) (h : IsRow .u8 w a len cap zs) :
    Calls Try.prog 27 #[.slice a len cap] w (Drawn (isPair isI64 isI64) w) := by
  go_enter Try.func27, Try.ntmps27
  go_wp2_with fail
  refine (drawAnd3 _ _ _ zs _ h).mono ?_
  rintro e w1 ⟨v, rfl, ⟨_, _, rfl, ⟨x, rfl, x0, x1⟩, ⟨y, rfl, y0, y1⟩⟩, hb⟩
  go_wp2_with fail
  go_ret2
  exact ⟨_, rfl, ⟨_, _, rfl, ⟨x, rfl, x0, x1⟩, ⟨y, rfl, y0, y1⟩⟩, hb⟩

theorem drawNot3 (a : Option Addr) (len cap : Nat) (zs : List Int) (w : World) (h : IsRow .u8 w a len cap zs) :
    Calls Try.prog 28 #[.slice a len cap] w (Drawn isI64 w) := by
  have h0 := Rd.new h 59
  have b0 := (Below.refl w.heap.size w).alloc (Nat.le_refl _) (.cells #[.slice a len cap, .int .i64 0] 59)
  go_enter Try.func28, Try.ntmps28
  go_wp2_with fail
  refine (specOpen _ _ _ _).mono ?_
  rintro e w1 ⟨rfl, rfl⟩
  go_wp2_with fail
  refine (rdOff _ _ (by omega) (by omega) (by omega) _ _ a len cap zs h0).mono ?_
  rintro e w2 ⟨v, rfl, ⟨x, rfl, x0, x1⟩, hb, hr⟩
  go_wp2_with fail
  go_ret
  exact ⟨_, rfl, ⟨x, rfl, x0, x1⟩, b0.trans (hb.below (Nat.le_refl _) (by simp))⟩
end Go.Proofs.Ytimgaipikgpgkaa
