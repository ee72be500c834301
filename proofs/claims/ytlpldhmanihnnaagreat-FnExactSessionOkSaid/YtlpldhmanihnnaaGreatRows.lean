/-
  No cell of these rows narrows 'for every input' (looked for: loops, veiled, ifaces, maps, wideKeys, modest, calm, conditions, laid).
  DERIVED. THE GIVEN ROWS OF THIS SEAT. 12 by the template 'for every input the law returns true; each argument reads behind the call as it read before'; 0 by the template 'total and deterministic' (their statements: YtlpldhmanihnnaaGreatTotals.lean).
  GIVEN WITH THE SEED: the statements are not yours to turn. If you find one false, say at which input.
  Laid BY PROGRAM, IN A SANDBOX (cutbox-rows.mjs): the forced cells as the released guide's own fill.sh prints them over the translation cab39ab42b94ece2… (all of the seat's roots in one cut). By AI agents, Wed Nov 11 2026. No macro, syntax, notation, axiom, sorry.
-/
import Derived.Test.YtlpldhmanihnnaaGreatChecked
import GoSem.Claim
import GoSem.ClaimJoined
import GoSem.ClaimMapViews
import Derived.JoinedTies
import Derived.KernelRfl
namespace Go.Proofs.YtlpldhmanihnnaaGreat
/- THE CELL 'sum', in the pinned program and in every row, IS THE sha256 OF THE DUMP (.gsa) THAT YtlpldhmanihnnaaGreatProg.lean LOADS. Nothing in Lean hashes anything: it is a label: what it is worth is what the hold of that sum in a sandbox is worth. -/
noncomputable def Tryz.pinned : Pinned := { name := "ytlpldhmanihnnaagreat", sum := "cab39ab42b94ece2d209244671b67a53781913b9680bfa53eee05db2b2712296", checked := Tryz.checked }
namespace Rows
def none {H : Type} : Left H := { results := [], args := [] }

/-- 'laws.FnExactFlaws': WHATEVER THE INPUT: true; the input reads as it did. -/
def fnExactFlawsSpec : ChangeSpec := { name := "fnExactFlaws", fn := fun _ => fun
  | [d1, d2] => { results := [.lit (.bool true)], args := [d1, d2] }
  | _ => none }
def fnExactFlawsRow : OpenClaim := { program := "ytlpldhmanihnnaagreat", sum := "cab39ab42b94ece2d209244671b67a53781913b9680bfa53eee05db2b2712296", func := "loop.example/g00570/laws.FnExactFlaws", spec := "fnExactFlaws", unfollowed := true, recurses := true, apart := false }
def FnExactFlawsSaid : Prop := fnExactFlawsRow.holds Tryz.pinned (OpenSpec.ofChange fnExactFlawsSpec)

/-- ITS FALSE NEIGHBOUR: 'it returns false'. Refute it at one input. -/
def fnExactFlawsWrong : ChangeSpec := { name := "fnExactFlaws", fn := fun _ => fun
  | [d1, d2] => { results := [.lit (.bool false)], args := [d1, d2] }
  | _ => none }
def FnExactFlawsWrongFalsely : Prop := fnExactFlawsRow.holds Tryz.pinned (OpenSpec.ofChange fnExactFlawsWrong)

/-- 'laws.FnExactSound': WHATEVER THE INPUT: true; the input reads as it did. -/
def fnExactSoundSpec : ChangeSpec := { name := "fnExactSound", fn := fun _ => fun
  | [d1, d2] => { results := [.lit (.bool true)], args := [d1, d2] }
  | _ => none }
def fnExactSoundRow : OpenClaim := { program := "ytlpldhmanihnnaagreat", sum := "cab39ab42b94ece2d209244671b67a53781913b9680bfa53eee05db2b2712296", func := "loop.example/g00570/laws.FnExactSound", spec := "fnExactSound", unfollowed := true, recurses := true, apart := false }
def FnExactSoundSaid : Prop := fnExactSoundRow.holds Tryz.pinned (OpenSpec.ofChange fnExactSoundSpec)

/-- ITS FALSE NEIGHBOUR: 'it returns false'. Refute it at one input. -/
def fnExactSoundWrong : ChangeSpec := { name := "fnExactSound", fn := fun _ => fun
  | [d1, d2] => { results := [.lit (.bool false)], args := [d1, d2] }
  | _ => none }
def FnExactSoundWrongFalsely : Prop := fnExactSoundRow.holds Tryz.pinned (OpenSpec.ofChange fnExactSoundWrong)

/-- 'laws.FnExactSoundNow': WHATEVER THE INPUT: true; the input reads as it did. -/
def fnExactSoundNowSpec : ChangeSpec := { name := "fnExactSoundNow", fn := fun _ => fun
  | [d1, d2] => { results := [.lit (.bool true)], args := [d1, d2] }
  | _ => none }
def fnExactSoundNowRow : OpenClaim := { program := "ytlpldhmanihnnaagreat", sum := "cab39ab42b94ece2d209244671b67a53781913b9680bfa53eee05db2b2712296", func := "loop.example/g00570/laws.FnExactSoundNow", spec := "fnExactSoundNow", unfollowed := true, recurses := true, apart := false }
def FnExactSoundNowSaid : Prop := fnExactSoundNowRow.holds Tryz.pinned (OpenSpec.ofChange fnExactSoundNowSpec)

/-- ITS FALSE NEIGHBOUR: 'it returns false'. Refute it at one input. -/
def fnExactSoundNowWrong : ChangeSpec := { name := "fnExactSoundNow", fn := fun _ => fun
  | [d1, d2] => { results := [.lit (.bool false)], args := [d1, d2] }
  | _ => none }
def FnExactSoundNowWrongFalsely : Prop := fnExactSoundNowRow.holds Tryz.pinned (OpenSpec.ofChange fnExactSoundNowWrong)

/-- 'laws.FnExactSessionOk': WHATEVER THE INPUT: true; the input reads as it did. -/
def fnExactSessionOkSpec : ChangeSpec := { name := "fnExactSessionOk", fn := fun _ => fun
  | [d] => { results := [.lit (.bool true)], args := [d] }
  | _ => none }
def fnExactSessionOkRow : OpenClaim := { program := "ytlpldhmanihnnaagreat", sum := "cab39ab42b94ece2d209244671b67a53781913b9680bfa53eee05db2b2712296", func := "loop.example/g00570/laws.FnExactSessionOk", spec := "fnExactSessionOk", unfollowed := true, recurses := true, apart := false }
def FnExactSessionOkSaid : Prop := fnExactSessionOkRow.holds Tryz.pinned (OpenSpec.ofChange fnExactSessionOkSpec)

/-- ITS FALSE NEIGHBOUR: 'it returns false'. Refute it at one input. -/
def fnExactSessionOkWrong : ChangeSpec := { name := "fnExactSessionOk", fn := fun _ => fun
  | [d] => { results := [.lit (.bool false)], args := [d] }
  | _ => none }
def FnExactSessionOkWrongFalsely : Prop := fnExactSessionOkRow.holds Tryz.pinned (OpenSpec.ofChange fnExactSessionOkWrong)

/-- 'laws.FnExactSessionNew': WHATEVER THE INPUT: true; the input reads as it did. -/
def fnExactSessionNewSpec : ChangeSpec := { name := "fnExactSessionNew", fn := fun _ => fun
  | [d] => { results := [.lit (.bool true)], args := [d] }
  | _ => none }
def fnExactSessionNewRow : OpenClaim := { program := "ytlpldhmanihnnaagreat", sum := "cab39ab42b94ece2d209244671b67a53781913b9680bfa53eee05db2b2712296", func := "loop.example/g00570/laws.FnExactSessionNew", spec := "fnExactSessionNew", unfollowed := true, recurses := true, apart := false }
def FnExactSessionNewSaid : Prop := fnExactSessionNewRow.holds Tryz.pinned (OpenSpec.ofChange fnExactSessionNewSpec)

/-- ITS FALSE NEIGHBOUR: 'it returns false'. Refute it at one input. -/
def fnExactSessionNewWrong : ChangeSpec := { name := "fnExactSessionNew", fn := fun _ => fun
  | [d] => { results := [.lit (.bool false)], args := [d] }
  | _ => none }
def FnExactSessionNewWrongFalsely : Prop := fnExactSessionNewRow.holds Tryz.pinned (OpenSpec.ofChange fnExactSessionNewWrong)

/-- 'laws.FnExactBegin': WHATEVER THE INPUT: true; the input reads as it did. -/
def fnExactBeginSpec : ChangeSpec := { name := "fnExactBegin", fn := fun _ => fun
  | [d] => { results := [.lit (.bool true)], args := [d] }
  | _ => none }
def fnExactBeginRow : OpenClaim := { program := "ytlpldhmanihnnaagreat", sum := "cab39ab42b94ece2d209244671b67a53781913b9680bfa53eee05db2b2712296", func := "loop.example/g00570/laws.FnExactBegin", spec := "fnExactBegin", unfollowed := true, recurses := true, apart := false }
def FnExactBeginSaid : Prop := fnExactBeginRow.holds Tryz.pinned (OpenSpec.ofChange fnExactBeginSpec)

/-- ITS FALSE NEIGHBOUR: 'it returns false'. Refute it at one input. -/
def fnExactBeginWrong : ChangeSpec := { name := "fnExactBegin", fn := fun _ => fun
  | [d] => { results := [.lit (.bool false)], args := [d] }
  | _ => none }
def FnExactBeginWrongFalsely : Prop := fnExactBeginRow.holds Tryz.pinned (OpenSpec.ofChange fnExactBeginWrong)

/-- 'laws.FnExactMark': WHATEVER THE INPUT: true; the input reads as it did. -/
def fnExactMarkSpec : ChangeSpec := { name := "fnExactMark", fn := fun _ => fun
  | [d1, d2] => { results := [.lit (.bool true)], args := [d1, d2] }
  | _ => none }
def fnExactMarkRow : OpenClaim := { program := "ytlpldhmanihnnaagreat", sum := "cab39ab42b94ece2d209244671b67a53781913b9680bfa53eee05db2b2712296", func := "loop.example/g00570/laws.FnExactMark", spec := "fnExactMark", unfollowed := true, recurses := true, apart := false }
def FnExactMarkSaid : Prop := fnExactMarkRow.holds Tryz.pinned (OpenSpec.ofChange fnExactMarkSpec)

/-- ITS FALSE NEIGHBOUR: 'it returns false'. Refute it at one input. -/
def fnExactMarkWrong : ChangeSpec := { name := "fnExactMark", fn := fun _ => fun
  | [d1, d2] => { results := [.lit (.bool false)], args := [d1, d2] }
  | _ => none }
def FnExactMarkWrongFalsely : Prop := fnExactMarkRow.holds Tryz.pinned (OpenSpec.ofChange fnExactMarkWrong)

/-- 'laws.FnExactBack': WHATEVER THE INPUT: true; the input reads as it did. -/
def fnExactBackSpec : ChangeSpec := { name := "fnExactBack", fn := fun _ => fun
  | [d1, d2] => { results := [.lit (.bool true)], args := [d1, d2] }
  | _ => none }
def fnExactBackRow : OpenClaim := { program := "ytlpldhmanihnnaagreat", sum := "cab39ab42b94ece2d209244671b67a53781913b9680bfa53eee05db2b2712296", func := "loop.example/g00570/laws.FnExactBack", spec := "fnExactBack", unfollowed := true, recurses := true, apart := false }
def FnExactBackSaid : Prop := fnExactBackRow.holds Tryz.pinned (OpenSpec.ofChange fnExactBackSpec)

/-- ITS FALSE NEIGHBOUR: 'it returns false'. Refute it at one input. -/
def fnExactBackWrong : ChangeSpec := { name := "fnExactBack", fn := fun _ => fun
  | [d1, d2] => { results := [.lit (.bool false)], args := [d1, d2] }
  | _ => none }
def FnExactBackWrongFalsely : Prop := fnExactBackRow.holds Tryz.pinned (OpenSpec.ofChange fnExactBackWrong)

/-- 'laws.FnExactKeep': WHATEVER THE INPUT: true; the input reads as it did. -/
def fnExactKeepSpec : ChangeSpec := { name := "fnExactKeep", fn := fun _ => fun
  | [d1, d2] => { results := [.lit (.bool true)], args := [d1, d2] }
  | _ => none }
def fnExactKeepRow : OpenClaim := { program := "ytlpldhmanihnnaagreat", sum := "cab39ab42b94ece2d209244671b67a53781913b9680bfa53eee05db2b2712296", func := "loop.example/g00570/laws.FnExactKeep", spec := "fnExactKeep", unfollowed := true, recurses := true, apart := false }
def FnExactKeepSaid : Prop := fnExactKeepRow.holds Tryz.pinned (OpenSpec.ofChange fnExactKeepSpec)

/-- ITS FALSE NEIGHBOUR: 'it returns false'. Refute it at one input. -/
def fnExactKeepWrong : ChangeSpec := { name := "fnExactKeep", fn := fun _ => fun
  | [d1, d2] => { results := [.lit (.bool false)], args := [d1, d2] }
  | _ => none }
def FnExactKeepWrongFalsely : Prop := fnExactKeepRow.holds Tryz.pinned (OpenSpec.ofChange fnExactKeepWrong)

/-- 'laws.FnExactCommit': WHATEVER THE INPUT: true; the input reads as it did. -/
def fnExactCommitSpec : ChangeSpec := { name := "fnExactCommit", fn := fun _ => fun
  | [d] => { results := [.lit (.bool true)], args := [d] }
  | _ => none }
def fnExactCommitRow : OpenClaim := { program := "ytlpldhmanihnnaagreat", sum := "cab39ab42b94ece2d209244671b67a53781913b9680bfa53eee05db2b2712296", func := "loop.example/g00570/laws.FnExactCommit", spec := "fnExactCommit", unfollowed := true, recurses := true, apart := false }
def FnExactCommitSaid : Prop := fnExactCommitRow.holds Tryz.pinned (OpenSpec.ofChange fnExactCommitSpec)

/-- ITS FALSE NEIGHBOUR: 'it returns false'. Refute it at one input. -/
def fnExactCommitWrong : ChangeSpec := { name := "fnExactCommit", fn := fun _ => fun
  | [d] => { results := [.lit (.bool false)], args := [d] }
  | _ => none }
def FnExactCommitWrongFalsely : Prop := fnExactCommitRow.holds Tryz.pinned (OpenSpec.ofChange fnExactCommitWrong)

/-- 'laws.FnExactRollback': WHATEVER THE INPUT: true; the input reads as it did. -/
def fnExactRollbackSpec : ChangeSpec := { name := "fnExactRollback", fn := fun _ => fun
  | [d] => { results := [.lit (.bool true)], args := [d] }
  | _ => none }
def fnExactRollbackRow : OpenClaim := { program := "ytlpldhmanihnnaagreat", sum := "cab39ab42b94ece2d209244671b67a53781913b9680bfa53eee05db2b2712296", func := "loop.example/g00570/laws.FnExactRollback", spec := "fnExactRollback", unfollowed := true, recurses := true, apart := false }
def FnExactRollbackSaid : Prop := fnExactRollbackRow.holds Tryz.pinned (OpenSpec.ofChange fnExactRollbackSpec)

/-- ITS FALSE NEIGHBOUR: 'it returns false'. Refute it at one input. -/
def fnExactRollbackWrong : ChangeSpec := { name := "fnExactRollback", fn := fun _ => fun
  | [d] => { results := [.lit (.bool false)], args := [d] }
  | _ => none }
def FnExactRollbackWrongFalsely : Prop := fnExactRollbackRow.holds Tryz.pinned (OpenSpec.ofChange fnExactRollbackWrong)

/-- 'laws.FnExactTriggersOk': WHATEVER THE INPUT: true; the input reads as it did. -/
def fnExactTriggersOkSpec : ChangeSpec := { name := "fnExactTriggersOk", fn := fun _ => fun
  | [d1, d2] => { results := [.lit (.bool true)], args := [d1, d2] }
  | _ => none }
def fnExactTriggersOkRow : OpenClaim := { program := "ytlpldhmanihnnaagreat", sum := "cab39ab42b94ece2d209244671b67a53781913b9680bfa53eee05db2b2712296", func := "loop.example/g00570/laws.FnExactTriggersOk", spec := "fnExactTriggersOk", unfollowed := true, recurses := true, apart := false }
def FnExactTriggersOkSaid : Prop := fnExactTriggersOkRow.holds Tryz.pinned (OpenSpec.ofChange fnExactTriggersOkSpec)

/-- ITS FALSE NEIGHBOUR: 'it returns false'. Refute it at one input. -/
def fnExactTriggersOkWrong : ChangeSpec := { name := "fnExactTriggersOk", fn := fun _ => fun
  | [d1, d2] => { results := [.lit (.bool false)], args := [d1, d2] }
  | _ => none }
def FnExactTriggersOkWrongFalsely : Prop := fnExactTriggersOkRow.holds Tryz.pinned (OpenSpec.ofChange fnExactTriggersOkWrong)

/- THE SECOND FORM. 'bulk': how many values and letters a reading holds, each counted each time it is reached (what is shared counts as often as it is met; a slice's spare places count too). A statement '..UptoSaid' is the law's where the arguments, and the package variables that the reading takes, are together of bulk at most 1048576: NARROWER than '..Said'. Prove '..Said' where nothing that the law and all that it calls make is longer than what came in: it says more and counts as full. Else prove '..UptoSaid'. A law counts once. -/
mutual
def uptoBulk {H : Type} : DataW H → Nat
  | .lit (.string bytes) => bytes.length + 1
  | .lit _ => 1
  | .nil => 1
  | .ptr d => uptoBulk d + 1
  | .slice elems spare => uptoBulkAll elems + uptoBulkAll spare + 1
  | .agg parts => uptoBulkAll parts + 1
  | .iface _ d => uptoBulk d + 1
  | .map entries => uptoBulkEntries entries + 1
  | .held _ => 1
def uptoBulkAll {H : Type} : List (DataW H) → Nat
  | [] => 0
  | d :: r => uptoBulk d + uptoBulkAll r
def uptoBulkEntries {H : Type} : List (Lit × DataW H) → Nat
  | [] => 0
  | x :: r => uptoBulkEntry x + uptoBulkEntries r
def uptoBulkEntry {H : Type} : Lit × DataW H → Nat
  | (.string bytes, d) => bytes.length + uptoBulk d + 1
  | (_, d) => uptoBulk d + 1
 end
def uptoSmall : (H : Type) → List (DataW H) → Bool := fun _ ds => decide (uptoBulkAll ds ≤ 1048576)
def OpenSpec.upto (s : _root_.Go.ChangeSpec) : _root_.Go.OpenSpec := { _root_.Go.OpenSpec.ofChange s with cond := some uptoSmall }

/-- 'laws.FnExactFlaws', WHERE WHAT IT READS IS OF BULK AT MOST 1048576: true; the input reads as it did. -/
def fnExactFlawsUptoRow : OpenClaim := { program := "ytlpldhmanihnnaagreat", sum := "cab39ab42b94ece2d209244671b67a53781913b9680bfa53eee05db2b2712296", func := "loop.example/g00570/laws.FnExactFlaws", spec := "fnExactFlaws", unfollowed := true, recurses := true, apart := false, narrowed := true }
def FnExactFlawsUptoSaid : Prop := fnExactFlawsUptoRow.holds Tryz.pinned (OpenSpec.upto fnExactFlawsSpec)

/-- 'laws.FnExactSound', WHERE WHAT IT READS IS OF BULK AT MOST 1048576: true; the input reads as it did. -/
def fnExactSoundUptoRow : OpenClaim := { program := "ytlpldhmanihnnaagreat", sum := "cab39ab42b94ece2d209244671b67a53781913b9680bfa53eee05db2b2712296", func := "loop.example/g00570/laws.FnExactSound", spec := "fnExactSound", unfollowed := true, recurses := true, apart := false, narrowed := true }
def FnExactSoundUptoSaid : Prop := fnExactSoundUptoRow.holds Tryz.pinned (OpenSpec.upto fnExactSoundSpec)

/-- 'laws.FnExactSoundNow', WHERE WHAT IT READS IS OF BULK AT MOST 1048576: true; the input reads as it did. -/
def fnExactSoundNowUptoRow : OpenClaim := { program := "ytlpldhmanihnnaagreat", sum := "cab39ab42b94ece2d209244671b67a53781913b9680bfa53eee05db2b2712296", func := "loop.example/g00570/laws.FnExactSoundNow", spec := "fnExactSoundNow", unfollowed := true, recurses := true, apart := false, narrowed := true }
def FnExactSoundNowUptoSaid : Prop := fnExactSoundNowUptoRow.holds Tryz.pinned (OpenSpec.upto fnExactSoundNowSpec)

/-- 'laws.FnExactSessionOk', WHERE WHAT IT READS IS OF BULK AT MOST 1048576: true; the input reads as it did. -/
def fnExactSessionOkUptoRow : OpenClaim := { program := "ytlpldhmanihnnaagreat", sum := "cab39ab42b94ece2d209244671b67a53781913b9680bfa53eee05db2b2712296", func := "loop.example/g00570/laws.FnExactSessionOk", spec := "fnExactSessionOk", unfollowed := true, recurses := true, apart := false, narrowed := true }
def FnExactSessionOkUptoSaid : Prop := fnExactSessionOkUptoRow.holds Tryz.pinned (OpenSpec.upto fnExactSessionOkSpec)

/-- 'laws.FnExactSessionNew', WHERE WHAT IT READS IS OF BULK AT MOST 1048576: true; the input reads as it did. -/
def fnExactSessionNewUptoRow : OpenClaim := { program := "ytlpldhmanihnnaagreat", sum := "cab39ab42b94ece2d209244671b67a53781913b9680bfa53eee05db2b2712296", func := "loop.example/g00570/laws.FnExactSessionNew", spec := "fnExactSessionNew", unfollowed := true, recurses := true, apart := false, narrowed := true }
def FnExactSessionNewUptoSaid : Prop := fnExactSessionNewUptoRow.holds Tryz.pinned (OpenSpec.upto fnExactSessionNewSpec)

/-- 'laws.FnExactBegin', WHERE WHAT IT READS IS OF BULK AT MOST 1048576: true; the input reads as it did. -/
def fnExactBeginUptoRow : OpenClaim := { program := "ytlpldhmanihnnaagreat", sum := "cab39ab42b94ece2d209244671b67a53781913b9680bfa53eee05db2b2712296", func := "loop.example/g00570/laws.FnExactBegin", spec := "fnExactBegin", unfollowed := true, recurses := true, apart := false, narrowed := true }
def FnExactBeginUptoSaid : Prop := fnExactBeginUptoRow.holds Tryz.pinned (OpenSpec.upto fnExactBeginSpec)

/-- 'laws.FnExactMark', WHERE WHAT IT READS IS OF BULK AT MOST 1048576: true; the input reads as it did. -/
def fnExactMarkUptoRow : OpenClaim := { program := "ytlpldhmanihnnaagreat", sum := "cab39ab42b94ece2d209244671b67a53781913b9680bfa53eee05db2b2712296", func := "loop.example/g00570/laws.FnExactMark", spec := "fnExactMark", unfollowed := true, recurses := true, apart := false, narrowed := true }
def FnExactMarkUptoSaid : Prop := fnExactMarkUptoRow.holds Tryz.pinned (OpenSpec.upto fnExactMarkSpec)

/-- 'laws.FnExactBack', WHERE WHAT IT READS IS OF BULK AT MOST 1048576: true; the input reads as it did. -/
def fnExactBackUptoRow : OpenClaim := { program := "ytlpldhmanihnnaagreat", sum := "cab39ab42b94ece2d209244671b67a53781913b9680bfa53eee05db2b2712296", func := "loop.example/g00570/laws.FnExactBack", spec := "fnExactBack", unfollowed := true, recurses := true, apart := false, narrowed := true }
def FnExactBackUptoSaid : Prop := fnExactBackUptoRow.holds Tryz.pinned (OpenSpec.upto fnExactBackSpec)

/-- 'laws.FnExactKeep', WHERE WHAT IT READS IS OF BULK AT MOST 1048576: true; the input reads as it did. -/
def fnExactKeepUptoRow : OpenClaim := { program := "ytlpldhmanihnnaagreat", sum := "cab39ab42b94ece2d209244671b67a53781913b9680bfa53eee05db2b2712296", func := "loop.example/g00570/laws.FnExactKeep", spec := "fnExactKeep", unfollowed := true, recurses := true, apart := false, narrowed := true }
def FnExactKeepUptoSaid : Prop := fnExactKeepUptoRow.holds Tryz.pinned (OpenSpec.upto fnExactKeepSpec)

/-- 'laws.FnExactCommit', WHERE WHAT IT READS IS OF BULK AT MOST 1048576: true; the input reads as it did. -/
def fnExactCommitUptoRow : OpenClaim := { program := "ytlpldhmanihnnaagreat", sum := "cab39ab42b94ece2d209244671b67a53781913b9680bfa53eee05db2b2712296", func := "loop.example/g00570/laws.FnExactCommit", spec := "fnExactCommit", unfollowed := true, recurses := true, apart := false, narrowed := true }
def FnExactCommitUptoSaid : Prop := fnExactCommitUptoRow.holds Tryz.pinned (OpenSpec.upto fnExactCommitSpec)

/-- 'laws.FnExactRollback', WHERE WHAT IT READS IS OF BULK AT MOST 1048576: true; the input reads as it did. -/
def fnExactRollbackUptoRow : OpenClaim := { program := "ytlpldhmanihnnaagreat", sum := "cab39ab42b94ece2d209244671b67a53781913b9680bfa53eee05db2b2712296", func := "loop.example/g00570/laws.FnExactRollback", spec := "fnExactRollback", unfollowed := true, recurses := true, apart := false, narrowed := true }
def FnExactRollbackUptoSaid : Prop := fnExactRollbackUptoRow.holds Tryz.pinned (OpenSpec.upto fnExactRollbackSpec)

/-- 'laws.FnExactTriggersOk', WHERE WHAT IT READS IS OF BULK AT MOST 1048576: true; the input reads as it did. -/
def fnExactTriggersOkUptoRow : OpenClaim := { program := "ytlpldhmanihnnaagreat", sum := "cab39ab42b94ece2d209244671b67a53781913b9680bfa53eee05db2b2712296", func := "loop.example/g00570/laws.FnExactTriggersOk", spec := "fnExactTriggersOk", unfollowed := true, recurses := true, apart := false, narrowed := true }
def FnExactTriggersOkUptoSaid : Prop := fnExactTriggersOkUptoRow.holds Tryz.pinned (OpenSpec.upto fnExactTriggersOkSpec)

end Rows
end Go.Proofs.YtlpldhmanihnnaaGreat
