/-
  append of a whole list of structs without slices onto an empty one: a copy of its own.
-/
import Derived.Test.YtkinegapnknhiaaOwnG
namespace Go.Proofs.Ytkinegapnknhiaa
open Go.RowKit
set_option linter.unusedVariables false
set_option linter.unusedSimpArgs false

section
variable {α : Type} {T LT : TypeId} {sz bytes : Nat} {f : α → List Value}
theorem flat_cells (hf : ∀ x, (f x).length = sz) (hsz : 0 < sz) {ok : Nat → Prop} {w : World} {b off n : Nat} {l : List α} (h : Sl (FlatR f) sz ok w (some ⟨b, off, none⟩) n l) :
    ∀ (j : Nat) (u : Value), ((l.map f).flatten)[j]? = some u → w.cell? ((⟨b, off, none⟩ : Addr).add j) = some u := by
  intro j u hu
  have hlen := flat_len (sz := sz) (l.map f) (fun c hc => by obtain ⟨d, _, rfl⟩ := List.mem_map.1 hc; exact hf d)
  rw [List.length_map] at hlen
  have hj : j < l.length * sz := by rw [← hlen]; exact (List.getElem?_eq_some_iff.1 hu).1
  have hi : j / sz < l.length := (Nat.div_lt_iff_lt_mul hsz).2 hj
  have hr : j % sz < sz := Nat.mod_lt _ hsz
  have e : j / sz * sz + j % sz = j := by rw [Nat.mul_comm]; exact Nat.div_add_mod j sz
  have h7 := flat_get (sz := sz) (l.map f) (j / sz) (j % sz) (by simpa using hi) hr (fun c hc => by obtain ⟨d, _, rfl⟩ := List.mem_map.1 hc; exact hf d)
  rw [e, hu, List.getElem_map] at h7
  have hn : 0 < n := h.1 ▸ Nat.lt_of_le_of_lt (Nat.zero_le _) hi
  obtain ⟨b', off', e', -, hc⟩ := h.2 hn
  injection e' with e'
  injection e' with e1 e2
  subst e1 e2
  obtain ⟨cs, -, hR, g⟩ := hc _ hi
  have e3 : cs = f l[j / sz] := hR
  subst e3
  have := g (j % sz) u h7.symm
  rw [addr_add, ← e, ← Nat.add_assoc]
  exact this
theorem run_app_all (hf : ∀ x, (f x).length = sz) (hone : ∀ x, ∀ u ∈ f x, u.oneCell' = true) (hsz : 0 < sz) {i : TypeInfo} {z : Value} (ht : Try.prog.underlying LT = some (.slice T)) (hi : Try.prog.info? T = some i) (hz : i.zero = some z) (hsize : i.size = sz) (hby : i.bytes = bytes) (hzs : z.cells.size = sz)
    (w : World) (ty : TypeId) {base : Nat} {v : Value} (hv : OwnG T sz f w base v ([] : List α)) (hbase : base ≤ w.heap.size) {A : Option Addr} {n c : Nat} {l : List α} {ok : Nat → Prop} (h : Sl (FlatR f) sz ok w A n l) (hn : n ≤ 1048576) (hbb : bytes ≤ 1048576) :
    ∃ v' w', (Builtin.append_ #[LT, LT] ty #[v, .slice A n c]).run Try.prog w = .ok v' w' ∧ OwnG T sz f w' base v' l ∧ w.grownBy w' v.ownBlock ∧ (v'.ownBlock = v.ownBlock ∨ ∃ g, v'.ownBlock = some g ∧ w.heap.size ≤ g) := by
  obtain rfl : l.length = n := h.1
  by_cases hn0 : l.length = 0
  · have hl : l = [] := List.eq_nil_of_length_eq_zero hn0
    subst hl
    have hf0 : (Builtin.firstCells i.size 0 (.slice A 0 c)).run Try.prog w = .ok #[] w := by
      cases A <;> simp [Builtin.firstCells, loadCells] <;> rfl
    rcases hv.2 with ⟨rfl, -⟩ | ⟨g, cap, cur, rfl, -⟩
    · refine ⟨.slice none 0 0, w, ?_, hv, ⟨rfl, rfl, rfl, Nat.le_refl _, fun _ _ _ => rfl⟩, .inl rfl⟩
      simp [Builtin.append_, run_underlying ht, sizeOf, typeInfo, hi, Builtin.lenOf, hf0]
    · refine ⟨.slice (some ⟨g, 0, none⟩) 0 cap, w, ?_, hv, ⟨rfl, rfl, rfl, Nat.le_refl _, fun _ _ _ => rfl⟩, .inl rfl⟩
      simp [Builtin.append_, run_underlying ht, sizeOf, typeInfo, hi, Builtin.lenOf, hf0, storeCells]
  · obtain ⟨b, off, rfl, -, -⟩ := h.2 (by omega)
    have hlen := flat_len (sz := sz) (l.map f) (fun c hc => by obtain ⟨d, _, rfl⟩ := List.mem_map.1 hc; exact hf d)
    rw [List.length_map] at hlen
    obtain ⟨v', w', hr, h1, h2, -, h4⟩ := run_append_own_at (P := Try.prog) w base LT ty T i z sz bytes ht hi hz hsize hby hzs hsz v 0 [] hv ⟨b, off, none⟩ l.length c ((l.map f).flatten) hlen (flat_cells hf hsz h) (fun u hu => by
      obtain ⟨cs, hcs, hu⟩ := List.mem_flatten.1 hu
      obtain ⟨d, _, rfl⟩ := List.mem_map.1 hcs
      exact hone d u hu) (by unfold maxLen; omega) (by
      rw [Nat.zero_add]
      have := Nat.mul_le_mul hn hbb
      omega) hbase
    refine ⟨v', w', hr, ?_, h2, ?_⟩
    · unfold OwnG
      rw [Nat.zero_add, List.nil_append] at h1
      exact h1
    · rcases h4 with h4 | h4
      · exact .inl h4
      · exact .inr ⟨_, h4, Nat.le_refl _⟩
/-- At the operation, for the walk. -/
theorem wpList_app_all {ops : Array Oper} {rest : List Oper} {o : Oper} {a : Act} {Q : Exit → Act → World → Prop} (hgd : o.guard = none) (s x : Operand) (LT : TypeId) (ho : o.op = .call { callee := .builtin .append, args := #[s, x], argTypes := #[LT, LT] })
    (hf : ∀ x, (f x).length = sz) (hone : ∀ x, ∀ u ∈ f x, u.oneCell' = true) (hsz : 0 < sz) {i : TypeInfo} {z : Value} (ht : Try.prog.underlying LT = some (.slice T)) (hi : Try.prog.info? T = some i) (hz : i.zero = some z) (hsize : i.size = sz) (hby : i.bytes = bytes) (hzs : z.cells.size = sz)
    (w : World) {base : Nat} {v : Value} (hs : a.eval s = v) (hv : OwnG T sz f w base v ([] : List α)) (hbase : base ≤ w.heap.size) {A : Option Addr} {n c : Nat} {l : List α} {ok : Nat → Prop} (hx : a.eval x = .slice A n c) (h : Sl (FlatR f) sz ok w A n l) (hn : n ≤ 1048576) (hbb : bytes ≤ 1048576)
    (hK : ∀ v' w', OwnG T sz f w' base v' l → w.grownBy w' v.ownBlock → (v'.ownBlock = v.ownBlock ∨ ∃ g, v'.ownBlock = some g ∧ w.heap.size ≤ g) → wpList Try.prog ops Q rest (a.put o.dst v') w') : wpList Try.prog ops Q (o :: rest) a w := by
  refine wpList_plain hgd fun K hK' => ?_
  obtain ⟨v', w', hr, h2, h3, h4⟩ := run_app_all hf hone hsz ht hi hz hsize hby hzs w o.type hv hbase (c := c) h hn hbb
  unfold Oper.wp execOp
  simp only [ho, resolve, invoke, builtin, Sem.run_bind, Sem.run_pure, Result.andThen_ok, List.map_toArray, List.map_cons, List.map_nil, hs, hx, hr]
  exact hK' _ _ (hK v' w' h2 h3 h4)
end
end Go.Proofs.Ytkinegapnknhiaa
