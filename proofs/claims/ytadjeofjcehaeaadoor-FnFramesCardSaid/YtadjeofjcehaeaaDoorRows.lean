/-
  NARROWER THAN 'FOR EVERY INPUT', by the rows' own cells (each row's printed sentence says how): FnExactFrameOf: laid · FnExactTakeFrames: laid · FnFrames: laid.
  DERIVED. THE GIVEN ROWS OF THIS SEAT. 3 by the template 'for every input the law returns true; each argument reads behind the call as it read before'; 0 by the template 'total and deterministic' (their statements: YtadjeofjcehaeaaDoorTotals.lean).
  GIVEN WITH THE SEED: the statements are not yours to turn. If you find one false, say at which input.
  Laid BY PROGRAM, IN A SANDBOX (cutbox-rows.mjs): the forced cells as the released guide's own fill.sh prints them over the translation 2e71d0ec9166cf4f… (all of the seat's roots in one cut). By AI agents, Wed Nov 11 2026. No macro, syntax, notation, axiom, sorry.
-/
import Derived.Test.YtadjeofjcehaeaaDoorChecked
import GoSem.Claim
import GoSem.ClaimJoined
import GoSem.ClaimMapViews
import Derived.JoinedTies
import Derived.KernelRfl
namespace Go.Proofs.YtadjeofjcehaeaaDoor
/- THE CELL 'sum', in the pinned program and in every row, IS THE sha256 OF THE DUMP (.gsa) THAT YtadjeofjcehaeaaDoorProg.lean LOADS. Nothing in Lean hashes anything: it is a label: what it is worth is what the hold of that sum in a sandbox is worth. -/
noncomputable def Tryd.pinned : Pinned := { name := "ytadjeofjcehaeaadoor", sum := "2e71d0ec9166cf4ffa4864c3767bc80aa8185f2dd3a582d399b7b82be95678a0", checked := Tryd.checked }
namespace Rows
def none {H : Type} : Left H := { results := [], args := [] }

/- WHAT THE LISTED PACKAGE-LEVEL VARIABLES READ AS WHEN THE CALL BEGINS. Each datum BY PROGRAM (the guide's laid-datum.mjs) off the statement by which the dump's own 'gosem.cut.vars' lays the variable. In a bare row this is a premise. The card (YtadjeofjcehaeaaDoorCards.lean) ties it to the program's text. -/
def laid_loop_example_g00570_impl_crcOfFour {H : Type} : DataW H := .agg [.lit (.int .u32 0), .lit (.int .u32 498536548), .lit (.int .u32 997073096), .lit (.int .u32 651767980), .lit (.int .u32 1994146192), .lit (.int .u32 1802195444), .lit (.int .u32 1303535960), .lit (.int .u32 1342533948), .lit (.int .u32 3988292384), .lit (.int .u32 4027552580), .lit (.int .u32 3604390888), .lit (.int .u32 3412177804), .lit (.int .u32 2607071920), .lit (.int .u32 2262029012), .lit (.int .u32 2685067896), .lit (.int .u32 3183342108)]

/-- 'laws.FnExactFrameOf': WHATEVER THE INPUT: true; the input reads as it did. -/
def fnExactFrameOfSpec : ChangeSpec := { name := "fnExactFrameOf", vars := ["loop.example/g00570/impl.crcOfFour"], fn := fun _ => fun
  | [d, g1] => { results := [.lit (.bool true)], args := [d], vars := [g1] }
  | _ => none }
def fnExactFrameOfRow : OpenClaim := { program := "ytadjeofjcehaeaadoor", sum := "2e71d0ec9166cf4ffa4864c3767bc80aa8185f2dd3a582d399b7b82be95678a0", func := "loop.example/g00570/laws.FnExactFrameOf", spec := "fnExactFrameOf", named := ["loop.example/g00570/impl.crcOfFour"], apart := false, laid := [("loop.example/g00570/impl.crcOfFour", laid_loop_example_g00570_impl_crcOfFour)] }
def FnExactFrameOfSaid : Prop := fnExactFrameOfRow.holds Tryd.pinned (OpenSpec.ofChange fnExactFrameOfSpec)

/-- ITS FALSE NEIGHBOUR: 'it returns false'. Refute it at one input. -/
def fnExactFrameOfWrong : ChangeSpec := { name := "fnExactFrameOf", vars := ["loop.example/g00570/impl.crcOfFour"], fn := fun _ => fun
  | [d, g1] => { results := [.lit (.bool false)], args := [d], vars := [g1] }
  | _ => none }
def FnExactFrameOfWrongFalsely : Prop := fnExactFrameOfRow.holds Tryd.pinned (OpenSpec.ofChange fnExactFrameOfWrong)

/-- 'laws.FnExactTakeFrames': WHATEVER THE INPUT: true; the input reads as it did. -/
def fnExactTakeFramesSpec : ChangeSpec := { name := "fnExactTakeFrames", vars := ["loop.example/g00570/impl.crcOfFour"], fn := fun _ => fun
  | [d, g1] => { results := [.lit (.bool true)], args := [d], vars := [g1] }
  | _ => none }
def fnExactTakeFramesRow : OpenClaim := { program := "ytadjeofjcehaeaadoor", sum := "2e71d0ec9166cf4ffa4864c3767bc80aa8185f2dd3a582d399b7b82be95678a0", func := "loop.example/g00570/laws.FnExactTakeFrames", spec := "fnExactTakeFrames", named := ["loop.example/g00570/impl.crcOfFour"], apart := false, laid := [("loop.example/g00570/impl.crcOfFour", laid_loop_example_g00570_impl_crcOfFour)] }
def FnExactTakeFramesSaid : Prop := fnExactTakeFramesRow.holds Tryd.pinned (OpenSpec.ofChange fnExactTakeFramesSpec)

/-- ITS FALSE NEIGHBOUR: 'it returns false'. Refute it at one input. -/
def fnExactTakeFramesWrong : ChangeSpec := { name := "fnExactTakeFrames", vars := ["loop.example/g00570/impl.crcOfFour"], fn := fun _ => fun
  | [d, g1] => { results := [.lit (.bool false)], args := [d], vars := [g1] }
  | _ => none }
def FnExactTakeFramesWrongFalsely : Prop := fnExactTakeFramesRow.holds Tryd.pinned (OpenSpec.ofChange fnExactTakeFramesWrong)

/-- 'laws.FnFrames': WHATEVER THE INPUT: true; the input reads as it did. -/
def fnFramesSpec : ChangeSpec := { name := "fnFrames", vars := ["loop.example/g00570/impl.crcOfFour"], fn := fun _ => fun
  | [d, g1] => { results := [.lit (.bool true)], args := [d], vars := [g1] }
  | _ => none }
def fnFramesRow : OpenClaim := { program := "ytadjeofjcehaeaadoor", sum := "2e71d0ec9166cf4ffa4864c3767bc80aa8185f2dd3a582d399b7b82be95678a0", func := "loop.example/g00570/laws.FnFrames", spec := "fnFrames", named := ["loop.example/g00570/impl.crcOfFour"], apart := false, laid := [("loop.example/g00570/impl.crcOfFour", laid_loop_example_g00570_impl_crcOfFour)] }
def FnFramesSaid : Prop := fnFramesRow.holds Tryd.pinned (OpenSpec.ofChange fnFramesSpec)

/-- ITS FALSE NEIGHBOUR: 'it returns false'. Refute it at one input. -/
def fnFramesWrong : ChangeSpec := { name := "fnFrames", vars := ["loop.example/g00570/impl.crcOfFour"], fn := fun _ => fun
  | [d, g1] => { results := [.lit (.bool false)], args := [d], vars := [g1] }
  | _ => none }
def FnFramesWrongFalsely : Prop := fnFramesRow.holds Tryd.pinned (OpenSpec.ofChange fnFramesWrong)

/- THE SECOND FORM. 'bulk': how many values and letters a reading holds, each counted each time it is reached (what is shared counts as often as it is met; a slice's spare places count too). A statement '..UptoSaid' is the law's where the arguments, and the package variables that the reading takes, are together of bulk at most 1048576: NARROWER than '..Said'. Prove '..Said' where nothing that the law and all that it calls make is longer than what came in: it says more and counts as full. Else prove '..UptoSaid'. A law counts once. -/
mutual
def uptoBulk {H : Type} : DataW H → Nat
  | .lit (.string bytes) => bytes.length + 1
  | .lit _ => 1
  | .nil => 1
  | .ptr d => uptoBulk d + 1
  | .slice elems spare => uptoBulkAll elems + uptoBulkAll spare + 1
  | .agg parts => uptoBulkAll parts + 1
  | .iface _ d => uptoBulk d + 1
  | .map entries => uptoBulkEntries entries + 1
  | .held _ => 1
def uptoBulkAll {H : Type} : List (DataW H) → Nat
  | [] => 0
  | d :: r => uptoBulk d + uptoBulkAll r
def uptoBulkEntries {H : Type} : List (Lit × DataW H) → Nat
  | [] => 0
  | x :: r => uptoBulkEntry x + uptoBulkEntries r
def uptoBulkEntry {H : Type} : Lit × DataW H → Nat
  | (.string bytes, d) => bytes.length + uptoBulk d + 1
  | (_, d) => uptoBulk d + 1
 end
def uptoSmall : (H : Type) → List (DataW H) → Bool := fun _ ds => decide (uptoBulkAll ds ≤ 1048576)
def OpenSpec.upto (s : _root_.Go.ChangeSpec) : _root_.Go.OpenSpec := { _root_.Go.OpenSpec.ofChange s with cond := some uptoSmall }

/-- 'laws.FnExactFrameOf', WHERE WHAT IT READS IS OF BULK AT MOST 1048576: true; the input reads as it did. -/
def fnExactFrameOfUptoRow : OpenClaim := { program := "ytadjeofjcehaeaadoor", sum := "2e71d0ec9166cf4ffa4864c3767bc80aa8185f2dd3a582d399b7b82be95678a0", func := "loop.example/g00570/laws.FnExactFrameOf", spec := "fnExactFrameOf", named := ["loop.example/g00570/impl.crcOfFour"], apart := false, laid := [("loop.example/g00570/impl.crcOfFour", laid_loop_example_g00570_impl_crcOfFour)], narrowed := true }
def FnExactFrameOfUptoSaid : Prop := fnExactFrameOfUptoRow.holds Tryd.pinned (OpenSpec.upto fnExactFrameOfSpec)

/-- 'laws.FnExactTakeFrames', WHERE WHAT IT READS IS OF BULK AT MOST 1048576: true; the input reads as it did. -/
def fnExactTakeFramesUptoRow : OpenClaim := { program := "ytadjeofjcehaeaadoor", sum := "2e71d0ec9166cf4ffa4864c3767bc80aa8185f2dd3a582d399b7b82be95678a0", func := "loop.example/g00570/laws.FnExactTakeFrames", spec := "fnExactTakeFrames", named := ["loop.example/g00570/impl.crcOfFour"], apart := false, laid := [("loop.example/g00570/impl.crcOfFour", laid_loop_example_g00570_impl_crcOfFour)], narrowed := true }
def FnExactTakeFramesUptoSaid : Prop := fnExactTakeFramesUptoRow.holds Tryd.pinned (OpenSpec.upto fnExactTakeFramesSpec)

/-- 'laws.FnFrames', WHERE WHAT IT READS IS OF BULK AT MOST 1048576: true; the input reads as it did. -/
def fnFramesUptoRow : OpenClaim := { program := "ytadjeofjcehaeaadoor", sum := "2e71d0ec9166cf4ffa4864c3767bc80aa8185f2dd3a582d399b7b82be95678a0", func := "loop.example/g00570/laws.FnFrames", spec := "fnFrames", named := ["loop.example/g00570/impl.crcOfFour"], apart := false, laid := [("loop.example/g00570/impl.crcOfFour", laid_loop_example_g00570_impl_crcOfFour)], narrowed := true }
def FnFramesUptoSaid : Prop := fnFramesUptoRow.holds Tryd.pinned (OpenSpec.upto fnFramesSpec)

end Rows
end Go.Proofs.YtadjeofjcehaeaaDoor
