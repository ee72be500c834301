/-
  Contracts on the ops of expressions, of the program.
-/
import Derived.Test.YtakhcgkhjmfndaaGreatOps2
import Derived.Test.YtakhcgkhjmfndaaGreatOrder
namespace Go.Proofs.YtakhcgkhjmfndaaGreat
open Go.RowKit

theorem as_not_not (v : Value) (w : World) : (Instr.typeAssert (.iface 133 v) 124 133 true).run Tryz.prog w = .ok (.tuple #[v, .bool true]) w := by kernel_rfl
theorem as_num_not (v : Value) (w : World) : (Instr.typeAssert (.iface 134 v) 124 133 true).run Tryz.prog w = .ok (.tuple #[.agg #[], .bool false]) w := by kernel_rfl
theorem as_str_not (v : Value) (w : World) : (Instr.typeAssert (.iface 135 v) 124 133 true).run Tryz.prog w = .ok (.tuple #[.agg #[], .bool false]) w := by kernel_rfl

theorem held0V (n : Int) (s : ByteArray) : heldV 0 n s = .iface 133 (.agg #[]) := by simp [heldV]
theorem held1V (n : Int) (s : ByteArray) : heldV 1 n s = .iface 134 (.int .i64 n) := by simp [heldV]
theorem held2V (n : Int) (s : ByteArray) : heldV 2 n s = .iface 135 (.string s) := by simp [heldV]

set_option maxRecDepth 100000 in
theorem implTruthOf (v : Vl) (w : World) (h : v.ok = true) :
    Calls Tryz.prog 86 #[.agg #[.int .i64 v.k, .int .i64 v.n, .string v.s]] w fun e w' => e = .returned (.int .i64 (truOf v)) ∧ Below w.heap.size w w' := by
  obtain ⟨k, n, s⟩ := v
  rcases Vl.kinds h with h0 | ⟨h0, -, -⟩ | h0
  · simp only at h0
    subst h0
    have HV := Lib.hid (show truOf ⟨0, n, s⟩ = 2 by simp [truOf])
    have a1 := as_not_not (.agg #[])
    go_enter Tryz.func86, Tryz.ntmps86
    go_wp2_with fail
    refine (heldYes _ _ _ _ h).mono ?_
    rintro e w1 ⟨rfl, hb1⟩
    rw [held0V]
    go_wp2
    go_ret
    have hz := ((Below.refl w.heap.size w).alloc (Nat.le_refl _) _).trans (hb1.mono (by simp))
    exact ⟨retI (by rw [HV.out]), hz.alloc hz.size _⟩
  · simp only at h0
    subst h0
    have HV := Lib.hid (show truOf ⟨1, n, s⟩ = yes (n != 0) by simp [truOf])
    have a1 := as_num_not (.int .i64 n)
    have a2 := as_num_num (.int .i64 n)
    go_enter Tryz.func86, Tryz.ntmps86
    go_wp2_with fail
    refine (heldYes _ _ _ _ h).mono ?_
    rintro e w1 ⟨rfl, hb1⟩
    rw [held1V]
    go_wp2_with fail
    refine (implTruthIf _ _).mono ?_
    rintro e w2 ⟨rfl, rfl⟩
    go_wp2
    go_ret
    exact ⟨retI (by rw [HV.out]), ((Below.refl _ _).alloc (Nat.le_refl _) _).trans (hb1.mono (by simp))⟩
  · simp only at h0
    subst h0
    have HV := Lib.hid (show truOf ⟨2, n, s⟩ = -1 by simp [truOf])
    have a1 := as_str_not (.string s)
    have a2 := as_str_num (.string s)
    go_enter Tryz.func86, Tryz.ntmps86
    go_wp2_with fail
    refine (heldYes _ _ _ _ h).mono ?_
    rintro e w1 ⟨rfl, hb1⟩
    rw [held2V]
    go_wp2
    go_ret
    exact ⟨retI (by rw [HV.out]), ((Below.refl _ _).alloc (Nat.le_refl _) _).trans (hb1.mono (by simp))⟩

set_option maxHeartbeats 400000 in
theorem implTruthVal (a : Int) (w : World) (h : a = -1 ∨ a = 0 ∨ a = 1 ∨ a = 2) :
    Calls Tryz.prog 92 #[.int .i64 a] w (OptPost (asOpt a) w) := by
  rcases h with rfl | rfl | rfl | rfl
  · have HV := Lib.hid (show asOpt (-1) = none by rfl)
    go_enter Tryz.func92, Tryz.ntmps92
    go_wp2
    exact bodyPost_ret (v := .tuple #[.agg #[.int .i64 0, .int .i64 0, .string ⟨#[]⟩], .bool false]) (by simp [results, Tryz.results92, go_sem]) rfl ⟨Vl.zero, by rw [HV.out]; rfl, by rw [HV.out]; simp, (Below.refl _ _).alloc (Nat.le_refl _) _⟩
  · have HV := Lib.hid (show asOpt 0 = some ⟨1, 0, ⟨#[]⟩⟩ by rfl)
    go_enter Tryz.func92, Tryz.ntmps92
    go_wp2
    exact bodyPost_ret (v := .tuple #[.agg #[.int .i64 1, .int .i64 0, .string ⟨#[]⟩], .bool true]) (by simp [results, Tryz.results92, go_sem]) rfl ⟨⟨1, 0, ⟨#[]⟩⟩, by rw [HV.out]; rfl, by rw [HV.out]; simp, (Below.refl _ _).alloc (Nat.le_refl _) _⟩
  · have HV := Lib.hid (show asOpt 1 = some ⟨1, 1, ⟨#[]⟩⟩ by rfl)
    go_enter Tryz.func92, Tryz.ntmps92
    go_wp2
    exact bodyPost_ret (v := .tuple #[.agg #[.int .i64 1, .int .i64 1, .string ⟨#[]⟩], .bool true]) (by simp [results, Tryz.results92, go_sem]) rfl ⟨⟨1, 1, ⟨#[]⟩⟩, by rw [HV.out]; rfl, by rw [HV.out]; simp, (Below.refl _ _).alloc (Nat.le_refl _) _⟩
  · have HV := Lib.hid (show asOpt 2 = some Vl.zero by rfl)
    go_enter Tryz.func92, Tryz.ntmps92
    go_wp2
    exact bodyPost_ret (v := .tuple #[.agg #[.int .i64 0, .int .i64 0, .string ⟨#[]⟩], .bool true]) (by simp [results, Tryz.results92, go_sem]) rfl ⟨Vl.zero, by rw [HV.out]; rfl, by rw [HV.out]; simp, (Below.refl _ _).alloc (Nat.le_refl _) _⟩

end Go.Proofs.YtakhcgkhjmfndaaGreat
