/-
  Ops on files in the program: each kind by itself, and which are of their form.
-/
import Derived.Test.YtkinegapnknhiaaDiskForm
import Derived.Test.YtkinegapnknhiaaDiskDo
import Derived.Laws.StructEq
import Derived.Stop.Asserts
namespace Go.Proofs.Ytkinegapnknhiaa
open Go.RowKit
set_option linter.unusedVariables false
set_option linter.unusedSimpArgs false

theorem toldApp (n d : ByteArray) (w : World) : Calls Try.prog 140 #[.agg #[.string n, .string d]] w fun e w' => e = .returned (.agg #[.int .i64 1, .string n, .string ⟨#[]⟩, .string d]) ∧ Below w.heap.size w w' := by
  go_enter Try.func140, Try.ntmps140
  go_wp2
  exact bodyPost_ret (v := .agg #[.int .i64 1, .string n, .string ⟨#[]⟩, .string d]) (by simp [results, Try.results140, go_sem]) rfl ⟨rfl, ((Below.refl _ _).alloc (Nat.le_refl _) _).alloc (by simp) _⟩
theorem toldRen (n d : ByteArray) (w : World) : Calls Try.prog 143 #[.agg #[.string n, .string d]] w fun e w' => e = .returned (.agg #[.int .i64 2, .string n, .string d, .string ⟨#[]⟩]) ∧ Below w.heap.size w w' := by
  go_enter Try.func143, Try.ntmps143
  go_wp2
  exact bodyPost_ret (v := .agg #[.int .i64 2, .string n, .string d, .string ⟨#[]⟩]) (by simp [results, Try.results143, go_sem]) rfl ⟨rfl, ((Below.refl _ _).alloc (Nat.le_refl _) _).alloc (by simp) _⟩
theorem toldRem (n : ByteArray) (w : World) : Calls Try.prog 146 #[.agg #[.string n]] w fun e w' => e = .returned (.agg #[.int .i64 3, .string n, .string ⟨#[]⟩, .string ⟨#[]⟩]) ∧ Below w.heap.size w w' := by
  go_enter Try.func146, Try.ntmps146
  go_wp2
  exact bodyPost_ret (v := .agg #[.int .i64 3, .string n, .string ⟨#[]⟩, .string ⟨#[]⟩]) (by simp [results, Try.results146, go_sem]) rfl ⟨rfl, ((Below.refl _ _).alloc (Nat.le_refl _) _).alloc (by simp) _⟩
theorem formedApp (n d : ByteArray) (w : World) : Calls Try.prog 139 #[.agg #[.string n, .string d]] w fun e w' => e = .returned (.bool (nameB n)) ∧ Below w.heap.size w w' := by
  have HB := Lib.hid ((Below.refl w.heap.size w).alloc (Nat.le_refl _) (.cells #[.string n, .string d] 130))
  go_enter Try.func139, Try.ntmps139
  go_wp2_with fail
  refine (implIsFileName _ _).mono ?_
  rintro e w1 ⟨rfl, rfl⟩
  go_wp2
  go_ret
  exact ⟨rfl, HB.out⟩
theorem formedRem (n : ByteArray) (w : World) : Calls Try.prog 145 #[.agg #[.string n]] w fun e w' => e = .returned (.bool (nameB n)) ∧ Below w.heap.size w w' := by
  have HB := Lib.hid ((Below.refl w.heap.size w).alloc (Nat.le_refl _) (.cells #[.string n] 134))
  go_enter Try.func145, Try.ntmps145
  go_wp2_with fail
  refine (implIsFileName _ _).mono ?_
  rintro e w1 ⟨rfl, rfl⟩
  go_wp2
  go_ret
  exact ⟨rfl, HB.out⟩
theorem formedRen (n d : ByteArray) (w : World) : Calls Try.prog 142 #[.agg #[.string n, .string d]] w fun e w' => e = .returned (.bool (nameB n && nameB d)) ∧ Below w.heap.size w w' := by
  have HB := Lib.hid ((Below.refl w.heap.size w).alloc (Nat.le_refl _) (.cells #[.string n, .string d] 132))
  go_enter Try.func142, Try.ntmps142
  go_wp2_with fail
  refine (implIsFileName _ _).mono ?_
  rintro e w1 ⟨rfl, rfl⟩
  cases h : nameB n
  · have HF := Lib.hid (show (nameB n && nameB d) = false by rw [h]; rfl)
    go_wp2
    go_ret
    exact ⟨retB HF.out.symm, HB.out⟩
  · have HF := Lib.hid (show (nameB n && nameB d) = nameB d by rw [h]; rfl)
    go_wp2_with fail
    refine (implIsFileName _ _).mono ?_
    rintro e w1 ⟨rfl, rfl⟩
    go_wp2
    go_ret
    exact ⟨retB HF.out.symm, HB.out⟩

theorem mToldApp (v : Value) (w : World) : (method 277 130 v "loop.example/g00570/impl.told").run Try.prog w = .ok (140, v) w := by kernel_rfl
theorem mToldRen (v : Value) (w : World) : (method 277 132 v "loop.example/g00570/impl.told").run Try.prog w = .ok (143, v) w := by kernel_rfl
theorem mToldRem (v : Value) (w : World) : (method 277 134 v "loop.example/g00570/impl.told").run Try.prog w = .ok (146, v) w := by kernel_rfl
theorem mFormedApp (v : Value) (w : World) : (method 277 130 v "loop.example/g00570/impl.formed").run Try.prog w = .ok (139, v) w := by kernel_rfl
theorem mFormedRen (v : Value) (w : World) : (method 277 132 v "loop.example/g00570/impl.formed").run Try.prog w = .ok (142, v) w := by kernel_rfl
theorem mFormedRem (v : Value) (w : World) : (method 277 134 v "loop.example/g00570/impl.formed").run Try.prog w = .ok (145, v) w := by kernel_rfl
theorem mDoApp (v : Value) (w : World) : (method 277 130 v "loop.example/g00570/impl.do").run Try.prog w = .ok (138, v) w := by kernel_rfl
theorem mDoRen (v : Value) (w : World) : (method 277 132 v "loop.example/g00570/impl.do").run Try.prog w = .ok (141, v) w := by kernel_rfl
theorem mDoRem (v : Value) (w : World) : (method 277 134 v "loop.example/g00570/impl.do").run Try.prog w = .ok (144, v) w := by kernel_rfl

theorem neqOz (k k' : Int) (a a' b b' c c' : ByteArray) (w : World) :
    (binOp .neq 36 (.agg #[.int .i64 k, .string a, .string b, .string c]) (.agg #[.int .i64 k', .string a', .string b', .string c'])).run Try.prog w = .ok (.bool (!(k == k' && (a.toList == a'.toList && (b.toList == b'.toList && c.toList == c'.toList))))) w := by
  have u1 := Try.underlying2
  have u2 := Try.underlying9
  have a1 := Try.isAgg2
  have z1 := Try.sizeOf2
  have a2 := Try.isAgg9
  have z2 := Try.sizeOf9
  have hS : Try.prog.underlying 36 = some (.struct (Try.prog.fieldsOf 36)) := by kernel_rfl
  have hp : Try.prog.stoodInHeld 36 = false := by kernel_rfl
  rw [run_neq_struct, show (10000 : Nat) = 9999 + 1 from rfl, run_equalIn_agg w 9999 36 _ _ hS hp]
  simp only [Program.fieldsOf, Try.underlying36]
  go_simp
  by_cases h1 : k = k' <;> by_cases h2 : a.toList = a'.toList <;> by_cases h3 : b.toList = b'.toList <;> by_cases h4 : c.toList = c'.toList <;> simp [h1, h2, h3, h4]
/-- The op of its kind. -/
def opV (o : Oz) : Value :=
  if o.kind = 1 then .iface 130 (.agg #[.string o.name, .string o.data]) else if o.kind = 2 then .iface 132 (.agg #[.string o.name, .string o.to]) else .iface 134 (.agg #[.string o.name])
theorem empty_eq (s : ByteArray) : ((⟨#[]⟩ : ByteArray).toList == s.toList) = s.toList.isEmpty := by
  rw [show (⟨#[]⟩ : ByteArray).toList = [] by simp [ByteArray.toList_eq]]
  cases s.toList <;> rfl
theorem beq_same (s : ByteArray) : (s.toList == s.toList) = true := by simp
end Go.Proofs.Ytkinegapnknhiaa
