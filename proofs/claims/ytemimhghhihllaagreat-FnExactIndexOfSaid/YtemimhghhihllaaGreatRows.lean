/-
  No cell of these rows narrows 'for every input' (looked for: loops, veiled, ifaces, maps, wideKeys, modest, calm, conditions, laid).
  DERIVED. THE GIVEN ROWS OF THIS SEAT. 3 by the template 'for every input the law returns true; each argument reads behind the call as it read before'; 0 by the template 'total and deterministic' (their statements: YtemimhghhihllaaGreatTotals.lean).
  GIVEN WITH THE SEED: the statements are not yours to turn. If you find one false, say at which input.
  Laid BY PROGRAM, IN A SANDBOX (cutbox-rows.mjs): the forced cells as the released guide's own fill.sh prints them over the translation bc5257a6e76f3c63… (all of the seat's roots in one cut). By AI agents, Wed Nov 11 2026. No macro, syntax, notation, axiom, sorry.
-/
import Derived.Test.YtemimhghhihllaaGreatChecked
import GoSem.Claim
import GoSem.ClaimJoined
import GoSem.ClaimMapViews
import Derived.JoinedTies
import Derived.KernelRfl
namespace Go.Proofs.YtemimhghhihllaaGreat
/- THE CELL 'sum', in the pinned program and in every row, IS THE sha256 OF THE DUMP (.gsa) THAT YtemimhghhihllaaGreatProg.lean LOADS. Nothing in Lean hashes anything: it is a label: what it is worth is what the hold of that sum in a sandbox is worth. -/
noncomputable def Tryz.pinned : Pinned := { name := "ytemimhghhihllaagreat", sum := "bc5257a6e76f3c63e9615c9ede422a48d6a18fef3be50cde95707a30286e4ad0", checked := Tryz.checked }
namespace Rows
def none {H : Type} : Left H := { results := [], args := [] }

/-- 'laws.FnExactFires': WHATEVER THE INPUT: true; the input reads as it did. -/
def fnExactFiresSpec : ChangeSpec := { name := "fnExactFires", fn := fun _ => fun
  | [d1, d2, d3, d4, d5, d6] => { results := [.lit (.bool true)], args := [d1, d2, d3, d4, d5, d6] }
  | _ => none }
def fnExactFiresRow : OpenClaim := { program := "ytemimhghhihllaagreat", sum := "bc5257a6e76f3c63e9615c9ede422a48d6a18fef3be50cde95707a30286e4ad0", func := "loop.example/g00570/laws.FnExactFires", spec := "fnExactFires", unfollowed := true, recurses := true, apart := false }
def FnExactFiresSaid : Prop := fnExactFiresRow.holds Tryz.pinned (OpenSpec.ofChange fnExactFiresSpec)

/-- ITS FALSE NEIGHBOUR: 'it returns false'. Refute it at one input. -/
def fnExactFiresWrong : ChangeSpec := { name := "fnExactFires", fn := fun _ => fun
  | [d1, d2, d3, d4, d5, d6] => { results := [.lit (.bool false)], args := [d1, d2, d3, d4, d5, d6] }
  | _ => none }
def FnExactFiresWrongFalsely : Prop := fnExactFiresRow.holds Tryz.pinned (OpenSpec.ofChange fnExactFiresWrong)

/-- 'laws.FnExactIndexOf': WHATEVER THE INPUT: true; the input reads as it did. -/
def fnExactIndexOfSpec : ChangeSpec := { name := "fnExactIndexOf", fn := fun _ => fun
  | [d1, d2, d3, d4] => { results := [.lit (.bool true)], args := [d1, d2, d3, d4] }
  | _ => none }
def fnExactIndexOfRow : OpenClaim := { program := "ytemimhghhihllaagreat", sum := "bc5257a6e76f3c63e9615c9ede422a48d6a18fef3be50cde95707a30286e4ad0", func := "loop.example/g00570/laws.FnExactIndexOf", spec := "fnExactIndexOf", inPlace := ["slices.overlaps[loop.example/g00570/impl.Entry]"], unfollowed := true, recurses := true, apart := false }
def FnExactIndexOfSaid : Prop := fnExactIndexOfRow.holds Tryz.pinned (OpenSpec.ofChange fnExactIndexOfSpec)

/-- ITS FALSE NEIGHBOUR: 'it returns false'. Refute it at one input. -/
def fnExactIndexOfWrong : ChangeSpec := { name := "fnExactIndexOf", fn := fun _ => fun
  | [d1, d2, d3, d4] => { results := [.lit (.bool false)], args := [d1, d2, d3, d4] }
  | _ => none }
def FnExactIndexOfWrongFalsely : Prop := fnExactIndexOfRow.holds Tryz.pinned (OpenSpec.ofChange fnExactIndexOfWrong)

/-- 'laws.FnExactIndexOk': WHATEVER THE INPUT: true; the input reads as it did. -/
def fnExactIndexOkSpec : ChangeSpec := { name := "fnExactIndexOk", fn := fun _ => fun
  | [d1, d2, d3, d4, d5] => { results := [.lit (.bool true)], args := [d1, d2, d3, d4, d5] }
  | _ => none }
def fnExactIndexOkRow : OpenClaim := { program := "ytemimhghhihllaagreat", sum := "bc5257a6e76f3c63e9615c9ede422a48d6a18fef3be50cde95707a30286e4ad0", func := "loop.example/g00570/laws.FnExactIndexOk", spec := "fnExactIndexOk", inPlace := ["slices.overlaps[loop.example/g00570/impl.Entry]"], unfollowed := true, recurses := true, apart := false }
def FnExactIndexOkSaid : Prop := fnExactIndexOkRow.holds Tryz.pinned (OpenSpec.ofChange fnExactIndexOkSpec)

/-- ITS FALSE NEIGHBOUR: 'it returns false'. Refute it at one input. -/
def fnExactIndexOkWrong : ChangeSpec := { name := "fnExactIndexOk", fn := fun _ => fun
  | [d1, d2, d3, d4, d5] => { results := [.lit (.bool false)], args := [d1, d2, d3, d4, d5] }
  | _ => none }
def FnExactIndexOkWrongFalsely : Prop := fnExactIndexOkRow.holds Tryz.pinned (OpenSpec.ofChange fnExactIndexOkWrong)

/- THE SECOND FORM. 'bulk': how many values and letters a reading holds, each counted each time it is reached (what is shared counts as often as it is met; a slice's spare places count too). A statement '..UptoSaid' is the law's where the arguments, and the package variables that the reading takes, are together of bulk at most 1048576: NARROWER than '..Said'. Prove '..Said' where nothing that the law and all that it calls make is longer than what came in: it says more and counts as full. Else prove '..UptoSaid'. A law counts once. -/
mutual
def uptoBulk {H : Type} : DataW H → Nat
  | .lit (.string bytes) => bytes.length + 1
  | .lit _ => 1
  | .nil => 1
  | .ptr d => uptoBulk d + 1
  | .slice elems spare => uptoBulkAll elems + uptoBulkAll spare + 1
  | .agg parts => uptoBulkAll parts + 1
  | .iface _ d => uptoBulk d + 1
  | .map entries => uptoBulkEntries entries + 1
  | .held _ => 1
def uptoBulkAll {H : Type} : List (DataW H) → Nat
  | [] => 0
  | d :: r => uptoBulk d + uptoBulkAll r
def uptoBulkEntries {H : Type} : List (Lit × DataW H) → Nat
  | [] => 0
  | x :: r => uptoBulkEntry x + uptoBulkEntries r
def uptoBulkEntry {H : Type} : Lit × DataW H → Nat
  | (.string bytes, d) => bytes.length + uptoBulk d + 1
  | (_, d) => uptoBulk d + 1
 end
def uptoSmall : (H : Type) → List (DataW H) → Bool := fun _ ds => decide (uptoBulkAll ds ≤ 1048576)
def OpenSpec.upto (s : _root_.Go.ChangeSpec) : _root_.Go.OpenSpec := { _root_.Go.OpenSpec.ofChange s with cond := some uptoSmall }

/-- 'laws.FnExactFires', WHERE WHAT IT READS IS OF BULK AT MOST 1048576: true; the input reads as it did. -/
def fnExactFiresUptoRow : OpenClaim := { program := "ytemimhghhihllaagreat", sum := "bc5257a6e76f3c63e9615c9ede422a48d6a18fef3be50cde95707a30286e4ad0", func := "loop.example/g00570/laws.FnExactFires", spec := "fnExactFires", unfollowed := true, recurses := true, apart := false, narrowed := true }
def FnExactFiresUptoSaid : Prop := fnExactFiresUptoRow.holds Tryz.pinned (OpenSpec.upto fnExactFiresSpec)

/-- 'laws.FnExactIndexOf', WHERE WHAT IT READS IS OF BULK AT MOST 1048576: true; the input reads as it did. -/
def fnExactIndexOfUptoRow : OpenClaim := { program := "ytemimhghhihllaagreat", sum := "bc5257a6e76f3c63e9615c9ede422a48d6a18fef3be50cde95707a30286e4ad0", func := "loop.example/g00570/laws.FnExactIndexOf", spec := "fnExactIndexOf", inPlace := ["slices.overlaps[loop.example/g00570/impl.Entry]"], unfollowed := true, recurses := true, apart := false, narrowed := true }
def FnExactIndexOfUptoSaid : Prop := fnExactIndexOfUptoRow.holds Tryz.pinned (OpenSpec.upto fnExactIndexOfSpec)

/-- 'laws.FnExactIndexOk', WHERE WHAT IT READS IS OF BULK AT MOST 1048576: true; the input reads as it did. -/
def fnExactIndexOkUptoRow : OpenClaim := { program := "ytemimhghhihllaagreat", sum := "bc5257a6e76f3c63e9615c9ede422a48d6a18fef3be50cde95707a30286e4ad0", func := "loop.example/g00570/laws.FnExactIndexOk", spec := "fnExactIndexOk", inPlace := ["slices.overlaps[loop.example/g00570/impl.Entry]"], unfollowed := true, recurses := true, apart := false, narrowed := true }
def FnExactIndexOkUptoSaid : Prop := fnExactIndexOkUptoRow.holds Tryz.pinned (OpenSpec.upto fnExactIndexOkSpec)

end Rows
end Go.Proofs.YtemimhghhihllaaGreat
