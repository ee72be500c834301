/-
  Lists of texts that a call makes of its own by append; how two are compared.
-/
import Derived.Test.YtkinegapnknhiaaOwnInts
import Derived.Deep.RegionHeld3
namespace Go.Proofs.Ytkinegapnknhiaa
open Go.RowKit
set_option linter.unusedVariables false
set_option linter.unusedSimpArgs false

def StrR : Rd ByteArray := FlatR fun s => [.string s]
theorem StrR.stays : Stays StrR := FlatR.stays _
theorem infoStr : (Try.prog.info? 9).map (fun i => (i.zero, i.size, i.bytes)) = some (some (.string ⟨#[]⟩), 1, 16) := by kernel_rfl

/-- v is a slice of the call's own that holds the texts xs. -/
def OwnS (w : World) (base : Nat) (v : Value) (xs : List ByteArray) : Prop := w.ownsRow base 9 1 v xs.length (xs.map Value.string)
theorem OwnS.nil (w : World) (base : Nat) : OwnS w base (.slice none 0 0) [] := World.ownsRow_nil _ _ _ _
theorem OwnS.below {w w' : World} {base : Nat} {v : Value} {xs : List ByteArray} (h : OwnS w base v xs) (hb : Below w.heap.size w w') : OwnS w' base v xs := by
  refine ⟨h.1, ?_⟩
  rcases h.2 with h | ⟨g, cap, cur, rfl, h1, h2, h3⟩
  · exact .inl h
  · exact .inr ⟨g, cap, cur, rfl, h1, (hb.block g (lt_of_block h2)).trans h2, h3⟩
/-- An empty list that was laid as such. -/
theorem OwnS.lit (w : World) {base : Nat} (hb : base ≤ w.heap.size) : OwnS (w.alloc (.cells #[] 9)) base (.slice (some ⟨w.heap.size, 0, none⟩) 0 0) [] :=
  ⟨rfl, .inr ⟨w.heap.size, 0, #[], rfl, hb, Go.heap_alloc_last w _, Nat.le_refl _, by simp [maxLen], rfl, rfl⟩⟩
theorem OwnS.sl {w : World} {base : Nat} {v : Value} {xs : List ByteArray} (h : OwnS w base v xs) : ∃ A c, v = .slice A xs.length c ∧ xs.length ≤ c ∧ c ≤ maxLen ∧ Sl StrR 1 (okF base w) w A xs.length xs := by
  rcases h.2 with ⟨rfl, hn⟩ | ⟨g, cap, cur, rfl, h1, h2, h3, h4, h5, h6⟩
  · exact ⟨none, 0, by rw [hn], by omega, by simp [maxLen], rfl, fun h => by omega⟩
  · refine ⟨_, cap, rfl, h3, h4, rfl, fun hn => ⟨g, 0, rfl, ⟨h1, lt_of_block h2, fun off => by simp [World.frozen?, h2]⟩, fun i hi => ⟨[.string xs[i]], rfl, rfl, fun j x hx => ?_⟩⟩⟩
    have hj : j = 0 := by have := (List.getElem?_eq_some_iff.1 hx).1; simpa using this
    subst hj
    obtain rfl := Option.some.inj hx
    rw [cell_of_row _ _ _ _ _ _ h2, Nat.zero_add, Nat.mul_one, Nat.add_zero]
    have h7 : (cur.toList.take (xs.length * 1))[i]? = some (.string xs[i]) := by rw [h6, List.getElem?_map, List.getElem?_eq_getElem hi]; rfl
    rw [List.getElem?_take, if_pos (by omega)] at h7
    rw [← Array.getElem?_toList]
    exact h7
theorem OwnS.block_lt {w : World} {base : Nat} {v : Value} {xs : List ByteArray} (h : OwnS w base v xs) : ∀ k, v.ownBlock = some k → base ≤ k ∧ k < w.heap.size := World.ownsRow.lt h
/-- What append of one text leaves. -/
theorem OwnS.app {w w' : World} {base : Nat} {v v' : Value} {xs : List ByteArray} {x : ByteArray} {o : Obj} (h : OwnS w base v xs) (hb : base ≤ w.heap.size)
    (h' : w'.ownsRow base 9 1 v' (xs.length + 1) (xs.map Value.string ++ [.string x])) (hg : (w.alloc o).grownBy w' v.ownBlock) : OwnS w' base v' (xs ++ [x]) ∧ Below base w w' :=
  ⟨by unfold OwnS; rw [List.length_append, List.map_append]; exact h', ((Below.refl base w).alloc hb o).grown hg (by simp; omega) fun k hk => (h.block_lt k hk).1⟩
theorem StrR.at_ {ok : Nat → Prop} {w : World} {A : Option Addr} {n : Nat} {l : List ByteArray} (h : Sl StrR 1 ok w A n l) {k : Nat} (hk : k < l.length) : ∃ b off, ok b ∧ A = some ⟨b, off, none⟩ ∧ w.cell? ⟨b, off + k, none⟩ = some (.string l[k]) := by
  obtain ⟨b, off, rfl, hob, hcs⟩ := h.2 (by have := h.1; omega)
  obtain ⟨cs, hcl, hR, hg⟩ := hcs k hk
  obtain rfl : cs = [.string l[k]] := hR
  have := hg 0 _ rfl
  rw [Nat.mul_one, Nat.add_zero] at this
  exact ⟨b, off, hob, rfl, this⟩

end Go.Proofs.Ytkinegapnknhiaa
