/-
  No cell of these rows narrows 'for every input' (looked for: loops, veiled, ifaces, maps, wideKeys, modest, calm, conditions, laid).
  DERIVED. THE GIVEN ROWS OF THIS SEAT. 11 by the template 'for every input the law returns true; each argument reads behind the call as it read before'; 0 by the template 'total and deterministic' (their statements: YtimgaipikgpgkaaTotals.lean).
  GIVEN WITH THE SEED: the statements are not yours to turn. If you find one false, say at which input.
  Laid BY PROGRAM, IN A SANDBOX (cutbox-rows.mjs): the forced cells as the released guide's own fill.sh prints them over the translation e3f7d9a539d0ff1a… (all of the seat's roots in one cut). By AI agents, Wed Nov 11 2026. No macro, syntax, notation, axiom, sorry.
-/
import Derived.Test.YtimgaipikgpgkaaChecked
import GoSem.Claim
import GoSem.ClaimJoined
import GoSem.ClaimMapViews
import Derived.JoinedTies
import Derived.KernelRfl
namespace Go.Proofs.Ytimgaipikgpgkaa
/- THE CELL 'sum', in the pinned program and in every row, IS THE sha256 OF THE DUMP (.gsa) THAT YtimgaipikgpgkaaProg.lean LOADS. Nothing in Lean hashes anything: it is a label: what it is worth is what the hold of that sum in a sandbox is worth. -/
noncomputable def Try.pinned : Pinned := { name := "ytimgaipikgpgkaa", sum := "e3f7d9a539d0ff1a94ffb39156ebb7319de98c76c5bc0a73dc9d472cec2934f6", checked := Try.checked }
namespace Rows
def none {H : Type} : Left H := { results := [], args := [] }

/-- 'laws.FnOrder': WHATEVER THE INPUT: true; the input reads as it did. -/
def fnOrderSpec : ChangeSpec := { name := "fnOrder", fn := fun _ => fun
  | [d] => { results := [.lit (.bool true)], args := [d] }
  | _ => none }
def fnOrderRow : OpenClaim := { program := "ytimgaipikgpgkaa", sum := "e3f7d9a539d0ff1a94ffb39156ebb7319de98c76c5bc0a73dc9d472cec2934f6", func := "loop.example/g00570/laws.FnOrder", spec := "fnOrder", unfollowed := true, recurses := true, apart := false }
def FnOrderSaid : Prop := fnOrderRow.holds Try.pinned (OpenSpec.ofChange fnOrderSpec)

/-- ITS FALSE NEIGHBOUR: 'it returns false'. Refute it at one input. -/
def fnOrderWrong : ChangeSpec := { name := "fnOrder", fn := fun _ => fun
  | [d] => { results := [.lit (.bool false)], args := [d] }
  | _ => none }
def FnOrderWrongFalsely : Prop := fnOrderRow.holds Try.pinned (OpenSpec.ofChange fnOrderWrong)

/-- 'laws.FnThree': WHATEVER THE INPUT: true; the input reads as it did. -/
def fnThreeSpec : ChangeSpec := { name := "fnThree", fn := fun _ => fun
  | [d] => { results := [.lit (.bool true)], args := [d] }
  | _ => none }
def fnThreeRow : OpenClaim := { program := "ytimgaipikgpgkaa", sum := "e3f7d9a539d0ff1a94ffb39156ebb7319de98c76c5bc0a73dc9d472cec2934f6", func := "loop.example/g00570/laws.FnThree", spec := "fnThree", unfollowed := true, recurses := true, apart := false }
def FnThreeSaid : Prop := fnThreeRow.holds Try.pinned (OpenSpec.ofChange fnThreeSpec)

/-- ITS FALSE NEIGHBOUR: 'it returns false'. Refute it at one input. -/
def fnThreeWrong : ChangeSpec := { name := "fnThree", fn := fun _ => fun
  | [d] => { results := [.lit (.bool false)], args := [d] }
  | _ => none }
def FnThreeWrongFalsely : Prop := fnThreeRow.holds Try.pinned (OpenSpec.ofChange fnThreeWrong)

/-- 'laws.FnLogic': WHATEVER THE INPUT: true; the input reads as it did. -/
def fnLogicSpec : ChangeSpec := { name := "fnLogic", fn := fun _ => fun
  | [d] => { results := [.lit (.bool true)], args := [d] }
  | _ => none }
def fnLogicRow : OpenClaim := { program := "ytimgaipikgpgkaa", sum := "e3f7d9a539d0ff1a94ffb39156ebb7319de98c76c5bc0a73dc9d472cec2934f6", func := "loop.example/g00570/laws.FnLogic", spec := "fnLogic", apart := false }
def FnLogicSaid : Prop := fnLogicRow.holds Try.pinned (OpenSpec.ofChange fnLogicSpec)

/-- ITS FALSE NEIGHBOUR: 'it returns false'. Refute it at one input. -/
def fnLogicWrong : ChangeSpec := { name := "fnLogic", fn := fun _ => fun
  | [d] => { results := [.lit (.bool false)], args := [d] }
  | _ => none }
def FnLogicWrongFalsely : Prop := fnLogicRow.holds Try.pinned (OpenSpec.ofChange fnLogicWrong)

/-- 'laws.FnDistributed': WHATEVER THE INPUT: true; the input reads as it did. -/
def fnDistributedSpec : ChangeSpec := { name := "fnDistributed", fn := fun _ => fun
  | [d] => { results := [.lit (.bool true)], args := [d] }
  | _ => none }
def fnDistributedRow : OpenClaim := { program := "ytimgaipikgpgkaa", sum := "e3f7d9a539d0ff1a94ffb39156ebb7319de98c76c5bc0a73dc9d472cec2934f6", func := "loop.example/g00570/laws.FnDistributed", spec := "fnDistributed", apart := false }
def FnDistributedSaid : Prop := fnDistributedRow.holds Try.pinned (OpenSpec.ofChange fnDistributedSpec)

/-- ITS FALSE NEIGHBOUR: 'it returns false'. Refute it at one input. -/
def fnDistributedWrong : ChangeSpec := { name := "fnDistributed", fn := fun _ => fun
  | [d] => { results := [.lit (.bool false)], args := [d] }
  | _ => none }
def FnDistributedWrongFalsely : Prop := fnDistributedRow.holds Try.pinned (OpenSpec.ofChange fnDistributedWrong)

/-- 'laws.FnExactValOk': WHATEVER THE INPUT: true; the input reads as it did. -/
def fnExactValOkSpec : ChangeSpec := { name := "fnExactValOk", fn := fun _ => fun
  | [d] => { results := [.lit (.bool true)], args := [d] }
  | _ => none }
def fnExactValOkRow : OpenClaim := { program := "ytimgaipikgpgkaa", sum := "e3f7d9a539d0ff1a94ffb39156ebb7319de98c76c5bc0a73dc9d472cec2934f6", func := "loop.example/g00570/laws.FnExactValOk", spec := "fnExactValOk", unfollowed := true, recurses := true, apart := false }
def FnExactValOkSaid : Prop := fnExactValOkRow.holds Try.pinned (OpenSpec.ofChange fnExactValOkSpec)

/-- ITS FALSE NEIGHBOUR: 'it returns false'. Refute it at one input. -/
def fnExactValOkWrong : ChangeSpec := { name := "fnExactValOk", fn := fun _ => fun
  | [d] => { results := [.lit (.bool false)], args := [d] }
  | _ => none }
def FnExactValOkWrongFalsely : Prop := fnExactValOkRow.holds Try.pinned (OpenSpec.ofChange fnExactValOkWrong)

/-- 'laws.FnExactOrder': WHATEVER THE INPUT: true; the input reads as it did. -/
def fnExactOrderSpec : ChangeSpec := { name := "fnExactOrder", fn := fun _ => fun
  | [d1, d2] => { results := [.lit (.bool true)], args := [d1, d2] }
  | _ => none }
def fnExactOrderRow : OpenClaim := { program := "ytimgaipikgpgkaa", sum := "e3f7d9a539d0ff1a94ffb39156ebb7319de98c76c5bc0a73dc9d472cec2934f6", func := "loop.example/g00570/laws.FnExactOrder", spec := "fnExactOrder", unfollowed := true, recurses := true, apart := false }
def FnExactOrderSaid : Prop := fnExactOrderRow.holds Try.pinned (OpenSpec.ofChange fnExactOrderSpec)

/-- ITS FALSE NEIGHBOUR: 'it returns false'. Refute it at one input. -/
def fnExactOrderWrong : ChangeSpec := { name := "fnExactOrder", fn := fun _ => fun
  | [d1, d2] => { results := [.lit (.bool false)], args := [d1, d2] }
  | _ => none }
def FnExactOrderWrongFalsely : Prop := fnExactOrderRow.holds Try.pinned (OpenSpec.ofChange fnExactOrderWrong)

/-- 'laws.FnExactEqual3': WHATEVER THE INPUT: true; the input reads as it did. -/
def fnExactEqual3Spec : ChangeSpec := { name := "fnExactEqual3", fn := fun _ => fun
  | [d1, d2] => { results := [.lit (.bool true)], args := [d1, d2] }
  | _ => none }
def fnExactEqual3Row : OpenClaim := { program := "ytimgaipikgpgkaa", sum := "e3f7d9a539d0ff1a94ffb39156ebb7319de98c76c5bc0a73dc9d472cec2934f6", func := "loop.example/g00570/laws.FnExactEqual3", spec := "fnExactEqual3", unfollowed := true, recurses := true, apart := false }
def FnExactEqual3Said : Prop := fnExactEqual3Row.holds Try.pinned (OpenSpec.ofChange fnExactEqual3Spec)

/-- ITS FALSE NEIGHBOUR: 'it returns false'. Refute it at one input. -/
def fnExactEqual3Wrong : ChangeSpec := { name := "fnExactEqual3", fn := fun _ => fun
  | [d1, d2] => { results := [.lit (.bool false)], args := [d1, d2] }
  | _ => none }
def FnExactEqual3WrongFalsely : Prop := fnExactEqual3Row.holds Try.pinned (OpenSpec.ofChange fnExactEqual3Wrong)

/-- 'laws.FnExactLess3': WHATEVER THE INPUT: true; the input reads as it did. -/
def fnExactLess3Spec : ChangeSpec := { name := "fnExactLess3", fn := fun _ => fun
  | [d1, d2] => { results := [.lit (.bool true)], args := [d1, d2] }
  | _ => none }
def fnExactLess3Row : OpenClaim := { program := "ytimgaipikgpgkaa", sum := "e3f7d9a539d0ff1a94ffb39156ebb7319de98c76c5bc0a73dc9d472cec2934f6", func := "loop.example/g00570/laws.FnExactLess3", spec := "fnExactLess3", unfollowed := true, recurses := true, apart := false }
def FnExactLess3Said : Prop := fnExactLess3Row.holds Try.pinned (OpenSpec.ofChange fnExactLess3Spec)

/-- ITS FALSE NEIGHBOUR: 'it returns false'. Refute it at one input. -/
def fnExactLess3Wrong : ChangeSpec := { name := "fnExactLess3", fn := fun _ => fun
  | [d1, d2] => { results := [.lit (.bool false)], args := [d1, d2] }
  | _ => none }
def FnExactLess3WrongFalsely : Prop := fnExactLess3Row.holds Try.pinned (OpenSpec.ofChange fnExactLess3Wrong)

/-- 'laws.FnExactAnd3': WHATEVER THE INPUT: true; the input reads as it did. -/
def fnExactAnd3Spec : ChangeSpec := { name := "fnExactAnd3", fn := fun _ => fun
  | [d1, d2] => { results := [.lit (.bool true)], args := [d1, d2] }
  | _ => none }
def fnExactAnd3Row : OpenClaim := { program := "ytimgaipikgpgkaa", sum := "e3f7d9a539d0ff1a94ffb39156ebb7319de98c76c5bc0a73dc9d472cec2934f6", func := "loop.example/g00570/laws.FnExactAnd3", spec := "fnExactAnd3", apart := false }
def FnExactAnd3Said : Prop := fnExactAnd3Row.holds Try.pinned (OpenSpec.ofChange fnExactAnd3Spec)

/-- ITS FALSE NEIGHBOUR: 'it returns false'. Refute it at one input. -/
def fnExactAnd3Wrong : ChangeSpec := { name := "fnExactAnd3", fn := fun _ => fun
  | [d1, d2] => { results := [.lit (.bool false)], args := [d1, d2] }
  | _ => none }
def FnExactAnd3WrongFalsely : Prop := fnExactAnd3Row.holds Try.pinned (OpenSpec.ofChange fnExactAnd3Wrong)

/-- 'laws.FnExactOr3': WHATEVER THE INPUT: true; the input reads as it did. -/
def fnExactOr3Spec : ChangeSpec := { name := "fnExactOr3", fn := fun _ => fun
  | [d1, d2] => { results := [.lit (.bool true)], args := [d1, d2] }
  | _ => none }
def fnExactOr3Row : OpenClaim := { program := "ytimgaipikgpgkaa", sum := "e3f7d9a539d0ff1a94ffb39156ebb7319de98c76c5bc0a73dc9d472cec2934f6", func := "loop.example/g00570/laws.FnExactOr3", spec := "fnExactOr3", apart := false }
def FnExactOr3Said : Prop := fnExactOr3Row.holds Try.pinned (OpenSpec.ofChange fnExactOr3Spec)

/-- ITS FALSE NEIGHBOUR: 'it returns false'. Refute it at one input. -/
def fnExactOr3Wrong : ChangeSpec := { name := "fnExactOr3", fn := fun _ => fun
  | [d1, d2] => { results := [.lit (.bool false)], args := [d1, d2] }
  | _ => none }
def FnExactOr3WrongFalsely : Prop := fnExactOr3Row.holds Try.pinned (OpenSpec.ofChange fnExactOr3Wrong)

/-- 'laws.FnExactNot3': WHATEVER THE INPUT: true; the input reads as it did. -/
def fnExactNot3Spec : ChangeSpec := { name := "fnExactNot3", fn := fun _ => fun
  | [d] => { results := [.lit (.bool true)], args := [d] }
  | _ => none }
def fnExactNot3Row : OpenClaim := { program := "ytimgaipikgpgkaa", sum := "e3f7d9a539d0ff1a94ffb39156ebb7319de98c76c5bc0a73dc9d472cec2934f6", func := "loop.example/g00570/laws.FnExactNot3", spec := "fnExactNot3", apart := false }
def FnExactNot3Said : Prop := fnExactNot3Row.holds Try.pinned (OpenSpec.ofChange fnExactNot3Spec)

/-- ITS FALSE NEIGHBOUR: 'it returns false'. Refute it at one input. -/
def fnExactNot3Wrong : ChangeSpec := { name := "fnExactNot3", fn := fun _ => fun
  | [d] => { results := [.lit (.bool false)], args := [d] }
  | _ => none }
def FnExactNot3WrongFalsely : Prop := fnExactNot3Row.holds Try.pinned (OpenSpec.ofChange fnExactNot3Wrong)

/- THE SECOND FORM. 'bulk': how many values and letters a reading holds, each counted each time it is reached (what is shared counts as often as it is met; a slice's spare places count too). A statement '..UptoSaid' is the law's where the arguments, and the package variables that the reading takes, are together of bulk at most 1048576: NARROWER than '..Said'. Prove '..Said' where nothing that the law and all that it calls make is longer than what came in: it says more and counts as full. Else prove '..UptoSaid'. A law counts once. -/
mutual
def uptoBulk {H : Type} : DataW H → Nat
  | .lit (.string bytes) => bytes.length + 1
  | .lit _ => 1
  | .nil => 1
  | .ptr d => uptoBulk d + 1
  | .slice elems spare => uptoBulkAll elems + uptoBulkAll spare + 1
  | .agg parts => uptoBulkAll parts + 1
  | .iface _ d => uptoBulk d + 1
  | .map entries => uptoBulkEntries entries + 1
  | .held _ => 1
def uptoBulkAll {H : Type} : List (DataW H) → Nat
  | [] => 0
  | d :: r => uptoBulk d + uptoBulkAll r
def uptoBulkEntries {H : Type} : List (Lit × DataW H) → Nat
  | [] => 0
  | x :: r => uptoBulkEntry x + uptoBulkEntries r
def uptoBulkEntry {H : Type} : Lit × DataW H → Nat
  | (.string bytes, d) => bytes.length + uptoBulk d + 1
  | (_, d) => uptoBulk d + 1
 end
def uptoSmall : (H : Type) → List (DataW H) → Bool := fun _ ds => decide (uptoBulkAll ds ≤ 1048576)
def OpenSpec.upto (s : _root_.Go.ChangeSpec) : _root_.Go.OpenSpec := { _root_.Go.OpenSpec.ofChange s with cond := some uptoSmall }

/-- 'laws.FnOrder', WHERE WHAT IT READS IS OF BULK AT MOST 1048576: true; the input reads as it did. -/
def fnOrderUptoRow : OpenClaim := { program := "ytimgaipikgpgkaa", sum := "e3f7d9a539d0ff1a94ffb39156ebb7319de98c76c5bc0a73dc9d472cec2934f6", func := "loop.example/g00570/laws.FnOrder", spec := "fnOrder", unfollowed := true, recurses := true, apart := false, narrowed := true }
def FnOrderUptoSaid : Prop := fnOrderUptoRow.holds Try.pinned (OpenSpec.upto fnOrderSpec)

/-- 'laws.FnThree', WHERE WHAT IT READS IS OF BULK AT MOST 1048576: true; the input reads as it did. -/
def fnThreeUptoRow : OpenClaim := { program := "ytimgaipikgpgkaa", sum := "e3f7d9a539d0ff1a94ffb39156ebb7319de98c76c5bc0a73dc9d472cec2934f6", func := "loop.example/g00570/laws.FnThree", spec := "fnThree", unfollowed := true, recurses := true, apart := false, narrowed := true }
def FnThreeUptoSaid : Prop := fnThreeUptoRow.holds Try.pinned (OpenSpec.upto fnThreeSpec)

/-- 'laws.FnLogic', WHERE WHAT IT READS IS OF BULK AT MOST 1048576: true; the input reads as it did. -/
def fnLogicUptoRow : OpenClaim := { program := "ytimgaipikgpgkaa", sum := "e3f7d9a539d0ff1a94ffb39156ebb7319de98c76c5bc0a73dc9d472cec2934f6", func := "loop.example/g00570/laws.FnLogic", spec := "fnLogic", apart := false, narrowed := true }
def FnLogicUptoSaid : Prop := fnLogicUptoRow.holds Try.pinned (OpenSpec.upto fnLogicSpec)

/-- 'laws.FnDistributed', WHERE WHAT IT READS IS OF BULK AT MOST 1048576: true; the input reads as it did. -/
def fnDistributedUptoRow : OpenClaim := { program := "ytimgaipikgpgkaa", sum := "e3f7d9a539d0ff1a94ffb39156ebb7319de98c76c5bc0a73dc9d472cec2934f6", func := "loop.example/g00570/laws.FnDistributed", spec := "fnDistributed", apart := false, narrowed := true }
def FnDistributedUptoSaid : Prop := fnDistributedUptoRow.holds Try.pinned (OpenSpec.upto fnDistributedSpec)

/-- 'laws.FnExactValOk', WHERE WHAT IT READS IS OF BULK AT MOST 1048576: true; the input reads as it did. -/
def fnExactValOkUptoRow : OpenClaim := { program := "ytimgaipikgpgkaa", sum := "e3f7d9a539d0ff1a94ffb39156ebb7319de98c76c5bc0a73dc9d472cec2934f6", func := "loop.example/g00570/laws.FnExactValOk", spec := "fnExactValOk", unfollowed := true, recurses := true, apart := false, narrowed := true }
def FnExactValOkUptoSaid : Prop := fnExactValOkUptoRow.holds Try.pinned (OpenSpec.upto fnExactValOkSpec)

/-- 'laws.FnExactOrder', WHERE WHAT IT READS IS OF BULK AT MOST 1048576: true; the input reads as it did. -/
def fnExactOrderUptoRow : OpenClaim := { program := "ytimgaipikgpgkaa", sum := "e3f7d9a539d0ff1a94ffb39156ebb7319de98c76c5bc0a73dc9d472cec2934f6", func := "loop.example/g00570/laws.FnExactOrder", spec := "fnExactOrder", unfollowed := true, recurses := true, apart := false, narrowed := true }
def FnExactOrderUptoSaid : Prop := fnExactOrderUptoRow.holds Try.pinned (OpenSpec.upto fnExactOrderSpec)

/-- 'laws.FnExactEqual3', WHERE WHAT IT READS IS OF BULK AT MOST 1048576: true; the input reads as it did. -/
def fnExactEqual3UptoRow : OpenClaim := { program := "ytimgaipikgpgkaa", sum := "e3f7d9a539d0ff1a94ffb39156ebb7319de98c76c5bc0a73dc9d472cec2934f6", func := "loop.example/g00570/laws.FnExactEqual3", spec := "fnExactEqual3", unfollowed := true, recurses := true, apart := false, narrowed := true }
def FnExactEqual3UptoSaid : Prop := fnExactEqual3UptoRow.holds Try.pinned (OpenSpec.upto fnExactEqual3Spec)

/-- 'laws.FnExactLess3', WHERE WHAT IT READS IS OF BULK AT MOST 1048576: true; the input reads as it did. -/
def fnExactLess3UptoRow : OpenClaim := { program := "ytimgaipikgpgkaa", sum := "e3f7d9a539d0ff1a94ffb39156ebb7319de98c76c5bc0a73dc9d472cec2934f6", func := "loop.example/g00570/laws.FnExactLess3", spec := "fnExactLess3", unfollowed := true, recurses := true, apart := false, narrowed := true }
def FnExactLess3UptoSaid : Prop := fnExactLess3UptoRow.holds Try.pinned (OpenSpec.upto fnExactLess3Spec)

/-- 'laws.FnExactAnd3', WHERE WHAT IT READS IS OF BULK AT MOST 1048576: true; the input reads as it did. -/
def fnExactAnd3UptoRow : OpenClaim := { program := "ytimgaipikgpgkaa", sum := "e3f7d9a539d0ff1a94ffb39156ebb7319de98c76c5bc0a73dc9d472cec2934f6", func := "loop.example/g00570/laws.FnExactAnd3", spec := "fnExactAnd3", apart := false, narrowed := true }
def FnExactAnd3UptoSaid : Prop := fnExactAnd3UptoRow.holds Try.pinned (OpenSpec.upto fnExactAnd3Spec)

/-- 'laws.FnExactOr3', WHERE WHAT IT READS IS OF BULK AT MOST 1048576: true; the input reads as it did. -/
def fnExactOr3UptoRow : OpenClaim := { program := "ytimgaipikgpgkaa", sum := "e3f7d9a539d0ff1a94ffb39156ebb7319de98c76c5bc0a73dc9d472cec2934f6", func := "loop.example/g00570/laws.FnExactOr3", spec := "fnExactOr3", apart := false, narrowed := true }
def FnExactOr3UptoSaid : Prop := fnExactOr3UptoRow.holds Try.pinned (OpenSpec.upto fnExactOr3Spec)

/-- 'laws.FnExactNot3', WHERE WHAT IT READS IS OF BULK AT MOST 1048576: true; the input reads as it did. -/
def fnExactNot3UptoRow : OpenClaim := { program := "ytimgaipikgpgkaa", sum := "e3f7d9a539d0ff1a94ffb39156ebb7319de98c76c5bc0a73dc9d472cec2934f6", func := "loop.example/g00570/laws.FnExactNot3", spec := "fnExactNot3", apart := false, narrowed := true }
def FnExactNot3UptoSaid : Prop := fnExactNot3UptoRow.holds Try.pinned (OpenSpec.upto fnExactNot3Spec)

end Rows
end Go.Proofs.Ytimgaipikgpgkaa
