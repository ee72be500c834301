/-
  What an exact law's walk wants of an answer whose lists lie in blocks of their own, while marks are made.
-/
import Derived.Test.YtkinegapnknhiaaOwnMarks
namespace Go.Proofs.Ytkinegapnknhiaa
open Go.RowKit
set_option linter.unusedVariables false
set_option linter.unusedSimpArgs false

theorem KeptL.range {B E : Nat} {w w' : World} (h : Kept B E w w') : KeptL (List.range' B (E - B)) w w' :=
  ⟨h.os, h.tape, h.output, h.size, fun k hk ho => h.block k hk (by
    rw [List.mem_range'_1] at ho
    omega), h.frozen⟩
theorem not_range {B E : Nat} {bs : List Nat} (h : ∀ b ∈ bs, E ≤ b) : ∀ x ∈ bs, x ∉ List.range' B (E - B) := fun x hx hh => by
  have h1 := h x hx
  rw [List.mem_range'_1] at hh
  omega
theorem Sl.keptL {α : Type} {R : Rd α} {sz : Nat} {ok : Nat → Prop} {w w' : World} {A : Option Addr} {n : Nat} {xs : List α} {bs : List Nat} (h : Sl R sz ok w A n xs) (hR : Stays R) (hk : KeptL bs w w') (hd : ∀ b, ok b → b ∉ bs) : Sl R sz ok w' A n xs :=
  h.stays hR (fun _ h => h) fun p v hb hp => hk.far (hd _ hb) hp
theorem Row.keptL {w w' : World} {g : Nat} {T : TypeId} {cs : Array Value} {bs : List Nat} (h : Row w g T cs) (hk : KeptL bs w w') (hg : g ∉ bs) : Row w' g T cs := (hk.block g (lt_of_block h) hg).trans h
end Go.Proofs.Ytkinegapnknhiaa
