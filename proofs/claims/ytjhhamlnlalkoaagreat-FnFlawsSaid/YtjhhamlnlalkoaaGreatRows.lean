/-
  No cell of these rows narrows 'for every input' (looked for: loops, veiled, ifaces, maps, wideKeys, modest, calm, conditions, laid).
  DERIVED. THE GIVEN ROWS OF THIS SEAT. 4 by the template 'for every input the law returns true; each argument reads behind the call as it read before'; 0 by the template 'total and deterministic' (their statements: YtjhhamlnlalkoaaGreatTotals.lean).
  GIVEN WITH THE SEED: the statements are not yours to turn. If you find one false, say at which input.
  Laid BY PROGRAM, IN A SANDBOX (cutbox-rows.mjs): the forced cells as the released guide's own fill.sh prints them over the translation a3ffdf2e7a01fee0… (all of the seat's roots in one cut). By AI agents, Wed Nov 11 2026. No macro, syntax, notation, axiom, sorry.
-/
import Derived.Test.YtjhhamlnlalkoaaGreatChecked
import GoSem.Claim
import GoSem.ClaimJoined
import GoSem.ClaimMapViews
import Derived.JoinedTies
import Derived.KernelRfl
namespace Go.Proofs.YtjhhamlnlalkoaaGreat
/- THE CELL 'sum', in the pinned program and in every row, IS THE sha256 OF THE DUMP (.gsa) THAT YtjhhamlnlalkoaaGreatProg.lean LOADS. Nothing in Lean hashes anything: it is a label: what it is worth is what the hold of that sum in a sandbox is worth. -/
noncomputable def Tryz.pinned : Pinned := { name := "ytjhhamlnlalkoaagreat", sum := "a3ffdf2e7a01fee0fce1fb1590c1f3d2b806af6889a76a86999d9a82f9bcb5f5", checked := Tryz.checked }
namespace Rows
def none {H : Type} : Left H := { results := [], args := [] }

/-- 'laws.FnNoFlawMissed': WHATEVER THE INPUT: true; the input reads as it did. -/
def fnNoFlawMissedSpec : ChangeSpec := { name := "fnNoFlawMissed", fn := fun _ => fun
  | [d] => { results := [.lit (.bool true)], args := [d] }
  | _ => none }
def fnNoFlawMissedRow : OpenClaim := { program := "ytjhhamlnlalkoaagreat", sum := "a3ffdf2e7a01fee0fce1fb1590c1f3d2b806af6889a76a86999d9a82f9bcb5f5", func := "loop.example/g00570/laws.FnNoFlawMissed", spec := "fnNoFlawMissed", unfollowed := true, recurses := true, apart := false }
def FnNoFlawMissedSaid : Prop := fnNoFlawMissedRow.holds Tryz.pinned (OpenSpec.ofChange fnNoFlawMissedSpec)

/-- ITS FALSE NEIGHBOUR: 'it returns false'. Refute it at one input. -/
def fnNoFlawMissedWrong : ChangeSpec := { name := "fnNoFlawMissed", fn := fun _ => fun
  | [d] => { results := [.lit (.bool false)], args := [d] }
  | _ => none }
def FnNoFlawMissedWrongFalsely : Prop := fnNoFlawMissedRow.holds Tryz.pinned (OpenSpec.ofChange fnNoFlawMissedWrong)

/-- 'laws.FnSound': WHATEVER THE INPUT: true; the input reads as it did. -/
def fnSoundSpec : ChangeSpec := { name := "fnSound", fn := fun _ => fun
  | [d] => { results := [.lit (.bool true)], args := [d] }
  | _ => none }
def fnSoundRow : OpenClaim := { program := "ytjhhamlnlalkoaagreat", sum := "a3ffdf2e7a01fee0fce1fb1590c1f3d2b806af6889a76a86999d9a82f9bcb5f5", func := "loop.example/g00570/laws.FnSound", spec := "fnSound", unfollowed := true, recurses := true, apart := false }
def FnSoundSaid : Prop := fnSoundRow.holds Tryz.pinned (OpenSpec.ofChange fnSoundSpec)

/-- ITS FALSE NEIGHBOUR: 'it returns false'. Refute it at one input. -/
def fnSoundWrong : ChangeSpec := { name := "fnSound", fn := fun _ => fun
  | [d] => { results := [.lit (.bool false)], args := [d] }
  | _ => none }
def FnSoundWrongFalsely : Prop := fnSoundRow.holds Tryz.pinned (OpenSpec.ofChange fnSoundWrong)

/-- 'laws.FnFlaws': WHATEVER THE INPUT: true; the input reads as it did. -/
def fnFlawsSpec : ChangeSpec := { name := "fnFlaws", fn := fun _ => fun
  | [d] => { results := [.lit (.bool true)], args := [d] }
  | _ => none }
def fnFlawsRow : OpenClaim := { program := "ytjhhamlnlalkoaagreat", sum := "a3ffdf2e7a01fee0fce1fb1590c1f3d2b806af6889a76a86999d9a82f9bcb5f5", func := "loop.example/g00570/laws.FnFlaws", spec := "fnFlaws", unfollowed := true, recurses := true, apart := false }
def FnFlawsSaid : Prop := fnFlawsRow.holds Tryz.pinned (OpenSpec.ofChange fnFlawsSpec)

/-- ITS FALSE NEIGHBOUR: 'it returns false'. Refute it at one input. -/
def fnFlawsWrong : ChangeSpec := { name := "fnFlaws", fn := fun _ => fun
  | [d] => { results := [.lit (.bool false)], args := [d] }
  | _ => none }
def FnFlawsWrongFalsely : Prop := fnFlawsRow.holds Tryz.pinned (OpenSpec.ofChange fnFlawsWrong)

/-- 'laws.FnRowOk': WHATEVER THE INPUT: true; the input reads as it did. -/
def fnRowOkSpec : ChangeSpec := { name := "fnRowOk", fn := fun _ => fun
  | [d] => { results := [.lit (.bool true)], args := [d] }
  | _ => none }
def fnRowOkRow : OpenClaim := { program := "ytjhhamlnlalkoaagreat", sum := "a3ffdf2e7a01fee0fce1fb1590c1f3d2b806af6889a76a86999d9a82f9bcb5f5", func := "loop.example/g00570/laws.FnRowOk", spec := "fnRowOk", unfollowed := true, recurses := true, apart := false }
def FnRowOkSaid : Prop := fnRowOkRow.holds Tryz.pinned (OpenSpec.ofChange fnRowOkSpec)

/-- ITS FALSE NEIGHBOUR: 'it returns false'. Refute it at one input. -/
def fnRowOkWrong : ChangeSpec := { name := "fnRowOk", fn := fun _ => fun
  | [d] => { results := [.lit (.bool false)], args := [d] }
  | _ => none }
def FnRowOkWrongFalsely : Prop := fnRowOkRow.holds Tryz.pinned (OpenSpec.ofChange fnRowOkWrong)

/- THE SECOND FORM. 'bulk': how many values and letters a reading holds, each counted each time it is reached (what is shared counts as often as it is met; a slice's spare places count too). A statement '..UptoSaid' is the law's where the arguments, and the package variables that the reading takes, are together of bulk at most 1048576: NARROWER than '..Said'. Prove '..Said' where nothing that the law and all that it calls make is longer than what came in: it says more and counts as full. Else prove '..UptoSaid'. A law counts once. -/
mutual
def uptoBulk {H : Type} : DataW H → Nat
  | .lit (.string bytes) => bytes.length + 1
  | .lit _ => 1
  | .nil => 1
  | .ptr d => uptoBulk d + 1
  | .slice elems spare => uptoBulkAll elems + uptoBulkAll spare + 1
  | .agg parts => uptoBulkAll parts + 1
  | .iface _ d => uptoBulk d + 1
  | .map entries => uptoBulkEntries entries + 1
  | .held _ => 1
def uptoBulkAll {H : Type} : List (DataW H) → Nat
  | [] => 0
  | d :: r => uptoBulk d + uptoBulkAll r
def uptoBulkEntries {H : Type} : List (Lit × DataW H) → Nat
  | [] => 0
  | x :: r => uptoBulkEntry x + uptoBulkEntries r
def uptoBulkEntry {H : Type} : Lit × DataW H → Nat
  | (.string bytes, d) => bytes.length + uptoBulk d + 1
  | (_, d) => uptoBulk d + 1
 end
def uptoSmall : (H : Type) → List (DataW H) → Bool := fun _ ds => decide (uptoBulkAll ds ≤ 1048576)
def OpenSpec.upto (s : _root_.Go.ChangeSpec) : _root_.Go.OpenSpec := { _root_.Go.OpenSpec.ofChange s with cond := some uptoSmall }

/-- 'laws.FnNoFlawMissed', WHERE WHAT IT READS IS OF BULK AT MOST 1048576: true; the input reads as it did. -/
def fnNoFlawMissedUptoRow : OpenClaim := { program := "ytjhhamlnlalkoaagreat", sum := "a3ffdf2e7a01fee0fce1fb1590c1f3d2b806af6889a76a86999d9a82f9bcb5f5", func := "loop.example/g00570/laws.FnNoFlawMissed", spec := "fnNoFlawMissed", unfollowed := true, recurses := true, apart := false, narrowed := true }
def FnNoFlawMissedUptoSaid : Prop := fnNoFlawMissedUptoRow.holds Tryz.pinned (OpenSpec.upto fnNoFlawMissedSpec)

/-- 'laws.FnSound', WHERE WHAT IT READS IS OF BULK AT MOST 1048576: true; the input reads as it did. -/
def fnSoundUptoRow : OpenClaim := { program := "ytjhhamlnlalkoaagreat", sum := "a3ffdf2e7a01fee0fce1fb1590c1f3d2b806af6889a76a86999d9a82f9bcb5f5", func := "loop.example/g00570/laws.FnSound", spec := "fnSound", unfollowed := true, recurses := true, apart := false, narrowed := true }
def FnSoundUptoSaid : Prop := fnSoundUptoRow.holds Tryz.pinned (OpenSpec.upto fnSoundSpec)

/-- 'laws.FnFlaws', WHERE WHAT IT READS IS OF BULK AT MOST 1048576: true; the input reads as it did. -/
def fnFlawsUptoRow : OpenClaim := { program := "ytjhhamlnlalkoaagreat", sum := "a3ffdf2e7a01fee0fce1fb1590c1f3d2b806af6889a76a86999d9a82f9bcb5f5", func := "loop.example/g00570/laws.FnFlaws", spec := "fnFlaws", unfollowed := true, recurses := true, apart := false, narrowed := true }
def FnFlawsUptoSaid : Prop := fnFlawsUptoRow.holds Tryz.pinned (OpenSpec.upto fnFlawsSpec)

/-- 'laws.FnRowOk', WHERE WHAT IT READS IS OF BULK AT MOST 1048576: true; the input reads as it did. -/
def fnRowOkUptoRow : OpenClaim := { program := "ytjhhamlnlalkoaagreat", sum := "a3ffdf2e7a01fee0fce1fb1590c1f3d2b806af6889a76a86999d9a82f9bcb5f5", func := "loop.example/g00570/laws.FnRowOk", spec := "fnRowOk", unfollowed := true, recurses := true, apart := false, narrowed := true }
def FnRowOkUptoSaid : Prop := fnRowOkUptoRow.holds Tryz.pinned (OpenSpec.upto fnRowOkSpec)

end Rows
end Go.Proofs.YtjhhamlnlalkoaaGreat
