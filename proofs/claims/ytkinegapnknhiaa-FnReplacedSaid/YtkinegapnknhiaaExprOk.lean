/-
  Contracts on whether an expression is right, in the program and in the model.
-/
import Derived.Test.YtkinegapnknhiaaToks
import Derived.Deep.WholeRow
namespace Go.Proofs.Ytkinegapnknhiaa
open Go.RowKit

def opsZero : Array Value := #[.string ⟨#[]⟩, .int .i64 0, .nilFunc, .string ⟨#[]⟩, .int .i64 0, .nilFunc, .string ⟨#[]⟩, .int .i64 0, .nilFunc, .string ⟨#[]⟩, .int .i64 0, .nilFunc, .string ⟨#[]⟩, .int .i64 0, .nilFunc, .string ⟨#[]⟩, .int .i64 0, .nilFunc, .string ⟨#[]⟩, .int .i64 0, .nilFunc, .string ⟨#[]⟩, .int .i64 0, .nilFunc, .string ⟨#[]⟩, .int .i64 0, .nilFunc, .string ⟨#[]⟩, .int .i64 0, .nilFunc, .string ⟨#[]⟩, .int .i64 0, .nilFunc]

/-- How many values a part takes; -1: it is not right. -/
def takesOr (t : Tk) (cols : Int) : Int := if tokB t cols = true then takes t.k else -1

end Go.Proofs.Ytkinegapnknhiaa
