/-
  No cell of these rows narrows 'for every input' (looked for: loops, veiled, ifaces, maps, wideKeys, modest, calm, conditions, laid).
  DERIVED. THE GIVEN ROWS OF THIS SEAT. 6 by the template 'for every input the law returns true; each argument reads behind the call as it read before'; 0 by the template 'total and deterministic' (their statements: YtciaidjmehelpaaGreatTotals.lean).
  GIVEN WITH THE SEED: the statements are not yours to turn. If you find one false, say at which input.
  Laid BY PROGRAM, IN A SANDBOX (cutbox-rows.mjs): the forced cells as the released guide's own fill.sh prints them over the translation 24d988dc3fc2e8e4… (all of the seat's roots in one cut). By AI agents, Wed Nov 11 2026. No macro, syntax, notation, axiom, sorry.
-/
import Derived.Test.YtciaidjmehelpaaGreatChecked
import GoSem.Claim
import GoSem.ClaimJoined
import GoSem.ClaimMapViews
import Derived.JoinedTies
import Derived.KernelRfl
namespace Go.Proofs.YtciaidjmehelpaaGreat
/- THE CELL 'sum', in the pinned program and in every row, IS THE sha256 OF THE DUMP (.gsa) THAT YtciaidjmehelpaaGreatProg.lean LOADS. Nothing in Lean hashes anything: it is a label: what it is worth is what the hold of that sum in a sandbox is worth. -/
noncomputable def Tryz.pinned : Pinned := { name := "ytciaidjmehelpaagreat", sum := "24d988dc3fc2e8e4bce5f8e5d184c553f67480b04684af005b6379b85282a3f7", checked := Tryz.checked }
namespace Rows
def none {H : Type} : Left H := { results := [], args := [] }

/-- 'laws.FnMatchingNot': WHATEVER THE INPUT: true; the input reads as it did. -/
def fnMatchingNotSpec : ChangeSpec := { name := "fnMatchingNot", fn := fun _ => fun
  | [d] => { results := [.lit (.bool true)], args := [d] }
  | _ => none }
def fnMatchingNotRow : OpenClaim := { program := "ytciaidjmehelpaagreat", sum := "24d988dc3fc2e8e4bce5f8e5d184c553f67480b04684af005b6379b85282a3f7", func := "loop.example/g00570/laws.FnMatchingNot", spec := "fnMatchingNot", unfollowed := true, recurses := true, apart := false }
def FnMatchingNotSaid : Prop := fnMatchingNotRow.holds Tryz.pinned (OpenSpec.ofChange fnMatchingNotSpec)

/-- ITS FALSE NEIGHBOUR: 'it returns false'. Refute it at one input. -/
def fnMatchingNotWrong : ChangeSpec := { name := "fnMatchingNot", fn := fun _ => fun
  | [d] => { results := [.lit (.bool false)], args := [d] }
  | _ => none }
def FnMatchingNotWrongFalsely : Prop := fnMatchingNotRow.holds Tryz.pinned (OpenSpec.ofChange fnMatchingNotWrong)

/-- 'laws.FnMatchingEither': WHATEVER THE INPUT: true; the input reads as it did. -/
def fnMatchingEitherSpec : ChangeSpec := { name := "fnMatchingEither", fn := fun _ => fun
  | [d] => { results := [.lit (.bool true)], args := [d] }
  | _ => none }
def fnMatchingEitherRow : OpenClaim := { program := "ytciaidjmehelpaagreat", sum := "24d988dc3fc2e8e4bce5f8e5d184c553f67480b04684af005b6379b85282a3f7", func := "loop.example/g00570/laws.FnMatchingEither", spec := "fnMatchingEither", unfollowed := true, recurses := true, apart := false }
def FnMatchingEitherSaid : Prop := fnMatchingEitherRow.holds Tryz.pinned (OpenSpec.ofChange fnMatchingEitherSpec)

/-- ITS FALSE NEIGHBOUR: 'it returns false'. Refute it at one input. -/
def fnMatchingEitherWrong : ChangeSpec := { name := "fnMatchingEither", fn := fun _ => fun
  | [d] => { results := [.lit (.bool false)], args := [d] }
  | _ => none }
def FnMatchingEitherWrongFalsely : Prop := fnMatchingEitherRow.holds Tryz.pinned (OpenSpec.ofChange fnMatchingEitherWrong)

/-- 'laws.FnRange': WHATEVER THE INPUT: true; the input reads as it did. -/
def fnRangeSpec : ChangeSpec := { name := "fnRange", fn := fun _ => fun
  | [d] => { results := [.lit (.bool true)], args := [d] }
  | _ => none }
def fnRangeRow : OpenClaim := { program := "ytciaidjmehelpaagreat", sum := "24d988dc3fc2e8e4bce5f8e5d184c553f67480b04684af005b6379b85282a3f7", func := "loop.example/g00570/laws.FnRange", spec := "fnRange", unfollowed := true, recurses := true, apart := false }
def FnRangeSaid : Prop := fnRangeRow.holds Tryz.pinned (OpenSpec.ofChange fnRangeSpec)

/-- ITS FALSE NEIGHBOUR: 'it returns false'. Refute it at one input. -/
def fnRangeWrong : ChangeSpec := { name := "fnRange", fn := fun _ => fun
  | [d] => { results := [.lit (.bool false)], args := [d] }
  | _ => none }
def FnRangeWrongFalsely : Prop := fnRangeRow.holds Tryz.pinned (OpenSpec.ofChange fnRangeWrong)

/-- 'laws.FnIndexPut': WHATEVER THE INPUT: true; the input reads as it did. -/
def fnIndexPutSpec : ChangeSpec := { name := "fnIndexPut", fn := fun _ => fun
  | [d] => { results := [.lit (.bool true)], args := [d] }
  | _ => none }
def fnIndexPutRow : OpenClaim := { program := "ytciaidjmehelpaagreat", sum := "24d988dc3fc2e8e4bce5f8e5d184c553f67480b04684af005b6379b85282a3f7", func := "loop.example/g00570/laws.FnIndexPut", spec := "fnIndexPut", inPlace := ["slices.overlaps[loop.example/g00570/impl.Entry]"], unfollowed := true, recurses := true, apart := false }
def FnIndexPutSaid : Prop := fnIndexPutRow.holds Tryz.pinned (OpenSpec.ofChange fnIndexPutSpec)

/-- ITS FALSE NEIGHBOUR: 'it returns false'. Refute it at one input. -/
def fnIndexPutWrong : ChangeSpec := { name := "fnIndexPut", fn := fun _ => fun
  | [d] => { results := [.lit (.bool false)], args := [d] }
  | _ => none }
def FnIndexPutWrongFalsely : Prop := fnIndexPutRow.holds Tryz.pinned (OpenSpec.ofChange fnIndexPutWrong)

/-- 'laws.FnIndexed': WHATEVER THE INPUT: true; the input reads as it did. -/
def fnIndexedSpec : ChangeSpec := { name := "fnIndexed", fn := fun _ => fun
  | [d] => { results := [.lit (.bool true)], args := [d] }
  | _ => none }
def fnIndexedRow : OpenClaim := { program := "ytciaidjmehelpaagreat", sum := "24d988dc3fc2e8e4bce5f8e5d184c553f67480b04684af005b6379b85282a3f7", func := "loop.example/g00570/laws.FnIndexed", spec := "fnIndexed", inPlace := ["slices.overlaps[loop.example/g00570/impl.Entry]"], unfollowed := true, recurses := true, apart := false }
def FnIndexedSaid : Prop := fnIndexedRow.holds Tryz.pinned (OpenSpec.ofChange fnIndexedSpec)

/-- ITS FALSE NEIGHBOUR: 'it returns false'. Refute it at one input. -/
def fnIndexedWrong : ChangeSpec := { name := "fnIndexed", fn := fun _ => fun
  | [d] => { results := [.lit (.bool false)], args := [d] }
  | _ => none }
def FnIndexedWrongFalsely : Prop := fnIndexedRow.holds Tryz.pinned (OpenSpec.ofChange fnIndexedWrong)

/-- 'laws.FnIndex': WHATEVER THE INPUT: true; the input reads as it did. -/
def fnIndexSpec : ChangeSpec := { name := "fnIndex", fn := fun _ => fun
  | [d] => { results := [.lit (.bool true)], args := [d] }
  | _ => none }
def fnIndexRow : OpenClaim := { program := "ytciaidjmehelpaagreat", sum := "24d988dc3fc2e8e4bce5f8e5d184c553f67480b04684af005b6379b85282a3f7", func := "loop.example/g00570/laws.FnIndex", spec := "fnIndex", inPlace := ["slices.overlaps[loop.example/g00570/impl.Entry]"], unfollowed := true, recurses := true, apart := false }
def FnIndexSaid : Prop := fnIndexRow.holds Tryz.pinned (OpenSpec.ofChange fnIndexSpec)

/-- ITS FALSE NEIGHBOUR: 'it returns false'. Refute it at one input. -/
def fnIndexWrong : ChangeSpec := { name := "fnIndex", fn := fun _ => fun
  | [d] => { results := [.lit (.bool false)], args := [d] }
  | _ => none }
def FnIndexWrongFalsely : Prop := fnIndexRow.holds Tryz.pinned (OpenSpec.ofChange fnIndexWrong)

/- THE SECOND FORM. 'bulk': how many values and letters a reading holds, each counted each time it is reached (what is shared counts as often as it is met; a slice's spare places count too). A statement '..UptoSaid' is the law's where the arguments, and the package variables that the reading takes, are together of bulk at most 1048576: NARROWER than '..Said'. Prove '..Said' where nothing that the law and all that it calls make is longer than what came in: it says more and counts as full. Else prove '..UptoSaid'. A law counts once. -/
mutual
def uptoBulk {H : Type} : DataW H → Nat
  | .lit (.string bytes) => bytes.length + 1
  | .lit _ => 1
  | .nil => 1
  | .ptr d => uptoBulk d + 1
  | .slice elems spare => uptoBulkAll elems + uptoBulkAll spare + 1
  | .agg parts => uptoBulkAll parts + 1
  | .iface _ d => uptoBulk d + 1
  | .map entries => uptoBulkEntries entries + 1
  | .held _ => 1
def uptoBulkAll {H : Type} : List (DataW H) → Nat
  | [] => 0
  | d :: r => uptoBulk d + uptoBulkAll r
def uptoBulkEntries {H : Type} : List (Lit × DataW H) → Nat
  | [] => 0
  | x :: r => uptoBulkEntry x + uptoBulkEntries r
def uptoBulkEntry {H : Type} : Lit × DataW H → Nat
  | (.string bytes, d) => bytes.length + uptoBulk d + 1
  | (_, d) => uptoBulk d + 1
 end
def uptoSmall : (H : Type) → List (DataW H) → Bool := fun _ ds => decide (uptoBulkAll ds ≤ 1048576)
def OpenSpec.upto (s : _root_.Go.ChangeSpec) : _root_.Go.OpenSpec := { _root_.Go.OpenSpec.ofChange s with cond := some uptoSmall }

/-- 'laws.FnMatchingNot', WHERE WHAT IT READS IS OF BULK AT MOST 1048576: true; the input reads as it did. -/
def fnMatchingNotUptoRow : OpenClaim := { program := "ytciaidjmehelpaagreat", sum := "24d988dc3fc2e8e4bce5f8e5d184c553f67480b04684af005b6379b85282a3f7", func := "loop.example/g00570/laws.FnMatchingNot", spec := "fnMatchingNot", unfollowed := true, recurses := true, apart := false, narrowed := true }
def FnMatchingNotUptoSaid : Prop := fnMatchingNotUptoRow.holds Tryz.pinned (OpenSpec.upto fnMatchingNotSpec)

/-- 'laws.FnMatchingEither', WHERE WHAT IT READS IS OF BULK AT MOST 1048576: true; the input reads as it did. -/
def fnMatchingEitherUptoRow : OpenClaim := { program := "ytciaidjmehelpaagreat", sum := "24d988dc3fc2e8e4bce5f8e5d184c553f67480b04684af005b6379b85282a3f7", func := "loop.example/g00570/laws.FnMatchingEither", spec := "fnMatchingEither", unfollowed := true, recurses := true, apart := false, narrowed := true }
def FnMatchingEitherUptoSaid : Prop := fnMatchingEitherUptoRow.holds Tryz.pinned (OpenSpec.upto fnMatchingEitherSpec)

/-- 'laws.FnRange', WHERE WHAT IT READS IS OF BULK AT MOST 1048576: true; the input reads as it did. -/
def fnRangeUptoRow : OpenClaim := { program := "ytciaidjmehelpaagreat", sum := "24d988dc3fc2e8e4bce5f8e5d184c553f67480b04684af005b6379b85282a3f7", func := "loop.example/g00570/laws.FnRange", spec := "fnRange", unfollowed := true, recurses := true, apart := false, narrowed := true }
def FnRangeUptoSaid : Prop := fnRangeUptoRow.holds Tryz.pinned (OpenSpec.upto fnRangeSpec)

/-- 'laws.FnIndexPut', WHERE WHAT IT READS IS OF BULK AT MOST 1048576: true; the input reads as it did. -/
def fnIndexPutUptoRow : OpenClaim := { program := "ytciaidjmehelpaagreat", sum := "24d988dc3fc2e8e4bce5f8e5d184c553f67480b04684af005b6379b85282a3f7", func := "loop.example/g00570/laws.FnIndexPut", spec := "fnIndexPut", inPlace := ["slices.overlaps[loop.example/g00570/impl.Entry]"], unfollowed := true, recurses := true, apart := false, narrowed := true }
def FnIndexPutUptoSaid : Prop := fnIndexPutUptoRow.holds Tryz.pinned (OpenSpec.upto fnIndexPutSpec)

/-- 'laws.FnIndexed', WHERE WHAT IT READS IS OF BULK AT MOST 1048576: true; the input reads as it did. -/
def fnIndexedUptoRow : OpenClaim := { program := "ytciaidjmehelpaagreat", sum := "24d988dc3fc2e8e4bce5f8e5d184c553f67480b04684af005b6379b85282a3f7", func := "loop.example/g00570/laws.FnIndexed", spec := "fnIndexed", inPlace := ["slices.overlaps[loop.example/g00570/impl.Entry]"], unfollowed := true, recurses := true, apart := false, narrowed := true }
def FnIndexedUptoSaid : Prop := fnIndexedUptoRow.holds Tryz.pinned (OpenSpec.upto fnIndexedSpec)

/-- 'laws.FnIndex', WHERE WHAT IT READS IS OF BULK AT MOST 1048576: true; the input reads as it did. -/
def fnIndexUptoRow : OpenClaim := { program := "ytciaidjmehelpaagreat", sum := "24d988dc3fc2e8e4bce5f8e5d184c553f67480b04684af005b6379b85282a3f7", func := "loop.example/g00570/laws.FnIndex", spec := "fnIndex", inPlace := ["slices.overlaps[loop.example/g00570/impl.Entry]"], unfollowed := true, recurses := true, apart := false, narrowed := true }
def FnIndexUptoSaid : Prop := fnIndexUptoRow.holds Tryz.pinned (OpenSpec.upto fnIndexSpec)

end Rows
end Go.Proofs.YtciaidjmehelpaaGreat
