/-
  No cell of these rows narrows 'for every input' (looked for: loops, veiled, ifaces, maps, wideKeys, modest, calm, conditions, laid).
  DERIVED. THE GIVEN ROWS OF THIS SEAT. 7 by the template 'for every input the law returns true; each argument reads behind the call as it read before'; 0 by the template 'total and deterministic' (their statements: YtgmgjjoalpnmhaaGreatTotals.lean).
  GIVEN WITH THE SEED: the statements are not yours to turn. If you find one false, say at which input.
  Laid BY PROGRAM, IN A SANDBOX (cutbox-rows.mjs): the forced cells as the released guide's own fill.sh prints them over the translation 2f6ad3ce102c1f31… (all of the seat's roots in one cut). By AI agents, Wed Nov 11 2026. No macro, syntax, notation, axiom, sorry.
-/
import Derived.Test.YtgmgjjoalpnmhaaGreatChecked
import GoSem.Claim
import GoSem.ClaimJoined
import GoSem.ClaimMapViews
import Derived.JoinedTies
import Derived.KernelRfl
namespace Go.Proofs.YtgmgjjoalpnmhaaGreat
/- THE CELL 'sum', in the pinned program and in every row, IS THE sha256 OF THE DUMP (.gsa) THAT YtgmgjjoalpnmhaaGreatProg.lean LOADS. Nothing in Lean hashes anything: it is a label: what it is worth is what the hold of that sum in a sandbox is worth. -/
noncomputable def Tryz.pinned : Pinned := { name := "ytgmgjjoalpnmhaagreat", sum := "2f6ad3ce102c1f318e72b8afd493b62e4fb61d71a81872712bdcd47598ef2ed5", checked := Tryz.checked }
namespace Rows
def none {H : Type} : Left H := { results := [], args := [] }

/-- 'laws.FnExactRefers': WHATEVER THE INPUT: true; the input reads as it did. -/
def fnExactRefersSpec : ChangeSpec := { name := "fnExactRefers", fn := fun _ => fun
  | [d1, d2] => { results := [.lit (.bool true)], args := [d1, d2] }
  | _ => none }
def fnExactRefersRow : OpenClaim := { program := "ytgmgjjoalpnmhaagreat", sum := "2f6ad3ce102c1f318e72b8afd493b62e4fb61d71a81872712bdcd47598ef2ed5", func := "loop.example/g00570/laws.FnExactRefers", spec := "fnExactRefers", unfollowed := true, recurses := true, apart := false }
def FnExactRefersSaid : Prop := fnExactRefersRow.holds Tryz.pinned (OpenSpec.ofChange fnExactRefersSpec)

/-- ITS FALSE NEIGHBOUR: 'it returns false'. Refute it at one input. -/
def fnExactRefersWrong : ChangeSpec := { name := "fnExactRefers", fn := fun _ => fun
  | [d1, d2] => { results := [.lit (.bool false)], args := [d1, d2] }
  | _ => none }
def FnExactRefersWrongFalsely : Prop := fnExactRefersRow.holds Tryz.pinned (OpenSpec.ofChange fnExactRefersWrong)

/-- 'laws.FnExactDbOk': WHATEVER THE INPUT: true; the input reads as it did. -/
def fnExactDbOkSpec : ChangeSpec := { name := "fnExactDbOk", fn := fun _ => fun
  | [d1, d2] => { results := [.lit (.bool true)], args := [d1, d2] }
  | _ => none }
def fnExactDbOkRow : OpenClaim := { program := "ytgmgjjoalpnmhaagreat", sum := "2f6ad3ce102c1f318e72b8afd493b62e4fb61d71a81872712bdcd47598ef2ed5", func := "loop.example/g00570/laws.FnExactDbOk", spec := "fnExactDbOk", unfollowed := true, recurses := true, apart := false }
def FnExactDbOkSaid : Prop := fnExactDbOkRow.holds Tryz.pinned (OpenSpec.ofChange fnExactDbOkSpec)

/-- ITS FALSE NEIGHBOUR: 'it returns false'. Refute it at one input. -/
def fnExactDbOkWrong : ChangeSpec := { name := "fnExactDbOk", fn := fun _ => fun
  | [d1, d2] => { results := [.lit (.bool false)], args := [d1, d2] }
  | _ => none }
def FnExactDbOkWrongFalsely : Prop := fnExactDbOkRow.holds Tryz.pinned (OpenSpec.ofChange fnExactDbOkWrong)

/-- 'laws.FnExactDbNew': WHATEVER THE INPUT: true; the input reads as it did. -/
def fnExactDbNewSpec : ChangeSpec := { name := "fnExactDbNew", fn := fun _ => fun
  | [d] => { results := [.lit (.bool true)], args := [d] }
  | _ => none }
def fnExactDbNewRow : OpenClaim := { program := "ytgmgjjoalpnmhaagreat", sum := "2f6ad3ce102c1f318e72b8afd493b62e4fb61d71a81872712bdcd47598ef2ed5", func := "loop.example/g00570/laws.FnExactDbNew", spec := "fnExactDbNew", unfollowed := true, recurses := true, apart := false }
def FnExactDbNewSaid : Prop := fnExactDbNewRow.holds Tryz.pinned (OpenSpec.ofChange fnExactDbNewSpec)

/-- ITS FALSE NEIGHBOUR: 'it returns false'. Refute it at one input. -/
def fnExactDbNewWrong : ChangeSpec := { name := "fnExactDbNew", fn := fun _ => fun
  | [d] => { results := [.lit (.bool false)], args := [d] }
  | _ => none }
def FnExactDbNewWrongFalsely : Prop := fnExactDbNewRow.holds Tryz.pinned (OpenSpec.ofChange fnExactDbNewWrong)

/-- 'laws.FnExactFindRows': WHATEVER THE INPUT: true; the input reads as it did. -/
def fnExactFindRowsSpec : ChangeSpec := { name := "fnExactFindRows", fn := fun _ => fun
  | [d1, d2, d3, d4, d5] => { results := [.lit (.bool true)], args := [d1, d2, d3, d4, d5] }
  | _ => none }
def fnExactFindRowsRow : OpenClaim := { program := "ytgmgjjoalpnmhaagreat", sum := "2f6ad3ce102c1f318e72b8afd493b62e4fb61d71a81872712bdcd47598ef2ed5", func := "loop.example/g00570/laws.FnExactFindRows", spec := "fnExactFindRows", unfollowed := true, recurses := true, apart := false }
def FnExactFindRowsSaid : Prop := fnExactFindRowsRow.holds Tryz.pinned (OpenSpec.ofChange fnExactFindRowsSpec)

/-- ITS FALSE NEIGHBOUR: 'it returns false'. Refute it at one input. -/
def fnExactFindRowsWrong : ChangeSpec := { name := "fnExactFindRows", fn := fun _ => fun
  | [d1, d2, d3, d4, d5] => { results := [.lit (.bool false)], args := [d1, d2, d3, d4, d5] }
  | _ => none }
def FnExactFindRowsWrongFalsely : Prop := fnExactFindRowsRow.holds Tryz.pinned (OpenSpec.ofChange fnExactFindRowsWrong)

/-- 'laws.FnExactFlaws': WHATEVER THE INPUT: true; the input reads as it did. -/
def fnExactFlawsSpec : ChangeSpec := { name := "fnExactFlaws", fn := fun _ => fun
  | [d1, d2] => { results := [.lit (.bool true)], args := [d1, d2] }
  | _ => none }
def fnExactFlawsRow : OpenClaim := { program := "ytgmgjjoalpnmhaagreat", sum := "2f6ad3ce102c1f318e72b8afd493b62e4fb61d71a81872712bdcd47598ef2ed5", func := "loop.example/g00570/laws.FnExactFlaws", spec := "fnExactFlaws", unfollowed := true, recurses := true, apart := false }
def FnExactFlawsSaid : Prop := fnExactFlawsRow.holds Tryz.pinned (OpenSpec.ofChange fnExactFlawsSpec)

/-- ITS FALSE NEIGHBOUR: 'it returns false'. Refute it at one input. -/
def fnExactFlawsWrong : ChangeSpec := { name := "fnExactFlaws", fn := fun _ => fun
  | [d1, d2] => { results := [.lit (.bool false)], args := [d1, d2] }
  | _ => none }
def FnExactFlawsWrongFalsely : Prop := fnExactFlawsRow.holds Tryz.pinned (OpenSpec.ofChange fnExactFlawsWrong)

/-- 'laws.FnExactSound': WHATEVER THE INPUT: true; the input reads as it did. -/
def fnExactSoundSpec : ChangeSpec := { name := "fnExactSound", fn := fun _ => fun
  | [d1, d2] => { results := [.lit (.bool true)], args := [d1, d2] }
  | _ => none }
def fnExactSoundRow : OpenClaim := { program := "ytgmgjjoalpnmhaagreat", sum := "2f6ad3ce102c1f318e72b8afd493b62e4fb61d71a81872712bdcd47598ef2ed5", func := "loop.example/g00570/laws.FnExactSound", spec := "fnExactSound", unfollowed := true, recurses := true, apart := false }
def FnExactSoundSaid : Prop := fnExactSoundRow.holds Tryz.pinned (OpenSpec.ofChange fnExactSoundSpec)

/-- ITS FALSE NEIGHBOUR: 'it returns false'. Refute it at one input. -/
def fnExactSoundWrong : ChangeSpec := { name := "fnExactSound", fn := fun _ => fun
  | [d1, d2] => { results := [.lit (.bool false)], args := [d1, d2] }
  | _ => none }
def FnExactSoundWrongFalsely : Prop := fnExactSoundRow.holds Tryz.pinned (OpenSpec.ofChange fnExactSoundWrong)

/-- 'laws.FnExactSoundNow': WHATEVER THE INPUT: true; the input reads as it did. -/
def fnExactSoundNowSpec : ChangeSpec := { name := "fnExactSoundNow", fn := fun _ => fun
  | [d1, d2] => { results := [.lit (.bool true)], args := [d1, d2] }
  | _ => none }
def fnExactSoundNowRow : OpenClaim := { program := "ytgmgjjoalpnmhaagreat", sum := "2f6ad3ce102c1f318e72b8afd493b62e4fb61d71a81872712bdcd47598ef2ed5", func := "loop.example/g00570/laws.FnExactSoundNow", spec := "fnExactSoundNow", unfollowed := true, recurses := true, apart := false }
def FnExactSoundNowSaid : Prop := fnExactSoundNowRow.holds Tryz.pinned (OpenSpec.ofChange fnExactSoundNowSpec)

/-- ITS FALSE NEIGHBOUR: 'it returns false'. Refute it at one input. -/
def fnExactSoundNowWrong : ChangeSpec := { name := "fnExactSoundNow", fn := fun _ => fun
  | [d1, d2] => { results := [.lit (.bool false)], args := [d1, d2] }
  | _ => none }
def FnExactSoundNowWrongFalsely : Prop := fnExactSoundNowRow.holds Tryz.pinned (OpenSpec.ofChange fnExactSoundNowWrong)

/- THE SECOND FORM. 'bulk': how many values and letters a reading holds, each counted each time it is reached (what is shared counts as often as it is met; a slice's spare places count too). A statement '..UptoSaid' is the law's where the arguments, and the package variables that the reading takes, are together of bulk at most 1048576: NARROWER than '..Said'. Prove '..Said' where nothing that the law and all that it calls make is longer than what came in: it says more and counts as full. Else prove '..UptoSaid'. A law counts once. -/
mutual
def uptoBulk {H : Type} : DataW H → Nat
  | .lit (.string bytes) => bytes.length + 1
  | .lit _ => 1
  | .nil => 1
  | .ptr d => uptoBulk d + 1
  | .slice elems spare => uptoBulkAll elems + uptoBulkAll spare + 1
  | .agg parts => uptoBulkAll parts + 1
  | .iface _ d => uptoBulk d + 1
  | .map entries => uptoBulkEntries entries + 1
  | .held _ => 1
def uptoBulkAll {H : Type} : List (DataW H) → Nat
  | [] => 0
  | d :: r => uptoBulk d + uptoBulkAll r
def uptoBulkEntries {H : Type} : List (Lit × DataW H) → Nat
  | [] => 0
  | x :: r => uptoBulkEntry x + uptoBulkEntries r
def uptoBulkEntry {H : Type} : Lit × DataW H → Nat
  | (.string bytes, d) => bytes.length + uptoBulk d + 1
  | (_, d) => uptoBulk d + 1
 end
def uptoSmall : (H : Type) → List (DataW H) → Bool := fun _ ds => decide (uptoBulkAll ds ≤ 1048576)
def OpenSpec.upto (s : _root_.Go.ChangeSpec) : _root_.Go.OpenSpec := { _root_.Go.OpenSpec.ofChange s with cond := some uptoSmall }

/-- 'laws.FnExactRefers', WHERE WHAT IT READS IS OF BULK AT MOST 1048576: true; the input reads as it did. -/
def fnExactRefersUptoRow : OpenClaim := { program := "ytgmgjjoalpnmhaagreat", sum := "2f6ad3ce102c1f318e72b8afd493b62e4fb61d71a81872712bdcd47598ef2ed5", func := "loop.example/g00570/laws.FnExactRefers", spec := "fnExactRefers", unfollowed := true, recurses := true, apart := false, narrowed := true }
def FnExactRefersUptoSaid : Prop := fnExactRefersUptoRow.holds Tryz.pinned (OpenSpec.upto fnExactRefersSpec)

/-- 'laws.FnExactDbOk', WHERE WHAT IT READS IS OF BULK AT MOST 1048576: true; the input reads as it did. -/
def fnExactDbOkUptoRow : OpenClaim := { program := "ytgmgjjoalpnmhaagreat", sum := "2f6ad3ce102c1f318e72b8afd493b62e4fb61d71a81872712bdcd47598ef2ed5", func := "loop.example/g00570/laws.FnExactDbOk", spec := "fnExactDbOk", unfollowed := true, recurses := true, apart := false, narrowed := true }
def FnExactDbOkUptoSaid : Prop := fnExactDbOkUptoRow.holds Tryz.pinned (OpenSpec.upto fnExactDbOkSpec)

/-- 'laws.FnExactDbNew', WHERE WHAT IT READS IS OF BULK AT MOST 1048576: true; the input reads as it did. -/
def fnExactDbNewUptoRow : OpenClaim := { program := "ytgmgjjoalpnmhaagreat", sum := "2f6ad3ce102c1f318e72b8afd493b62e4fb61d71a81872712bdcd47598ef2ed5", func := "loop.example/g00570/laws.FnExactDbNew", spec := "fnExactDbNew", unfollowed := true, recurses := true, apart := false, narrowed := true }
def FnExactDbNewUptoSaid : Prop := fnExactDbNewUptoRow.holds Tryz.pinned (OpenSpec.upto fnExactDbNewSpec)

/-- 'laws.FnExactFindRows', WHERE WHAT IT READS IS OF BULK AT MOST 1048576: true; the input reads as it did. -/
def fnExactFindRowsUptoRow : OpenClaim := { program := "ytgmgjjoalpnmhaagreat", sum := "2f6ad3ce102c1f318e72b8afd493b62e4fb61d71a81872712bdcd47598ef2ed5", func := "loop.example/g00570/laws.FnExactFindRows", spec := "fnExactFindRows", unfollowed := true, recurses := true, apart := false, narrowed := true }
def FnExactFindRowsUptoSaid : Prop := fnExactFindRowsUptoRow.holds Tryz.pinned (OpenSpec.upto fnExactFindRowsSpec)

/-- 'laws.FnExactFlaws', WHERE WHAT IT READS IS OF BULK AT MOST 1048576: true; the input reads as it did. -/
def fnExactFlawsUptoRow : OpenClaim := { program := "ytgmgjjoalpnmhaagreat", sum := "2f6ad3ce102c1f318e72b8afd493b62e4fb61d71a81872712bdcd47598ef2ed5", func := "loop.example/g00570/laws.FnExactFlaws", spec := "fnExactFlaws", unfollowed := true, recurses := true, apart := false, narrowed := true }
def FnExactFlawsUptoSaid : Prop := fnExactFlawsUptoRow.holds Tryz.pinned (OpenSpec.upto fnExactFlawsSpec)

/-- 'laws.FnExactSound', WHERE WHAT IT READS IS OF BULK AT MOST 1048576: true; the input reads as it did. -/
def fnExactSoundUptoRow : OpenClaim := { program := "ytgmgjjoalpnmhaagreat", sum := "2f6ad3ce102c1f318e72b8afd493b62e4fb61d71a81872712bdcd47598ef2ed5", func := "loop.example/g00570/laws.FnExactSound", spec := "fnExactSound", unfollowed := true, recurses := true, apart := false, narrowed := true }
def FnExactSoundUptoSaid : Prop := fnExactSoundUptoRow.holds Tryz.pinned (OpenSpec.upto fnExactSoundSpec)

/-- 'laws.FnExactSoundNow', WHERE WHAT IT READS IS OF BULK AT MOST 1048576: true; the input reads as it did. -/
def fnExactSoundNowUptoRow : OpenClaim := { program := "ytgmgjjoalpnmhaagreat", sum := "2f6ad3ce102c1f318e72b8afd493b62e4fb61d71a81872712bdcd47598ef2ed5", func := "loop.example/g00570/laws.FnExactSoundNow", spec := "fnExactSoundNow", unfollowed := true, recurses := true, apart := false, narrowed := true }
def FnExactSoundNowUptoSaid : Prop := fnExactSoundNowUptoRow.holds Tryz.pinned (OpenSpec.upto fnExactSoundNowSpec)

end Rows
end Go.Proofs.YtgmgjjoalpnmhaaGreat
