/-
  Copies of values that the model makes.
-/
import Derived.Test.YtlpfpcnafejkoaaOwnEnts
namespace Go.Proofs.Ytlpfpcnafejkoaa
open Go.RowKit
set_option linter.unusedVariables false
set_option linter.unusedSimpArgs false

theorem infoValC : (Try.prog.info? 57).map (fun i => (i.zero, i.size, i.bytes)) = some (some (.agg #[.int .i64 0, .int .i64 0, .string ⟨#[]⟩]), 3, 32) := by kernel_rfl
section
variable {P : Program} {w : World}
theorem run_append_own_0 (base : Nat) (t ty e : TypeId) (i : TypeInfo) (size : Nat) (ht : P.underlying t = some (.slice e)) (hi : P.info? e = some i)
    (v : Value) (n : Nat) (xs : List Value) (hown : w.ownsRow base e size v n xs) (c : Nat) :
    (Builtin.append_ #[t, t] ty #[v, .slice none 0 c]).run P w = .ok v w := by
  rcases hown.2 with ⟨rfl, rfl⟩ | ⟨g, cap, cur, rfl, _, _, hnc, _⟩
  · simp [Builtin.append_, run_underlying ht, sizeOf, typeInfo, hi, Builtin.lenOf, Builtin.firstCells]
  · simp [Builtin.append_, run_underlying ht, sizeOf, typeInfo, hi, Builtin.lenOf, Builtin.firstCells, hnc, storeCells]
theorem wpList_append_own_0 {ops : Array Oper} {rest : List Oper} {o : Oper} {a : Act} {Q : Exit → Act → World → Prop} (hgd : o.guard = none) (s x : Operand) (t : TypeId)
    (ho : o.op = .call { callee := .builtin .append, args := #[s, x], argTypes := #[t, t] })
    (base : Nat) (e : TypeId) (i : TypeInfo) (size : Nat) (ht : P.underlying t = some (.slice e)) (hi : P.info? e = some i)
    (v : Value) (n : Nat) (xs : List Value) (hs : a.eval s = v) (hown : w.ownsRow base e size v n xs) (c : Nat) (hx : a.eval x = .slice none 0 c)
    (h : wpList P ops Q rest (a.put o.dst v) w) : wpList P ops Q (o :: rest) a w := by
  refine wpList_plain hgd fun K hK => ?_
  have hrun := run_append_own_0 (P := P) (w := w) base t o.type e i size ht hi v n xs hown c
  unfold Oper.wp
  simp [execOp, ho, resolve, invoke, builtin, hs, hx, hrun, Result.andThen]
  exact hK _ _ h
end

theorem Sl.flat_cells {α : Type} {f : α → List Value} {sz : Nat} (hz : 0 < sz) (hf : ∀ d, (f d).length = sz) {ok : Nat → Prop} {w : World} {ad : Addr} {n : Nat} {xs : List α} (h : Sl (FlatR f) sz ok w (some ad) n xs) :
    ∀ j u, ((xs.map f).flatten)[j]? = some u → w.cell? (ad.add j) = some u := fun j u hj => by
  have hl := flat_len (sz := sz) (xs.map f) (fun c hc => by obtain ⟨d, _, rfl⟩ := List.mem_map.1 hc; exact hf d)
  have hjl := (List.getElem?_eq_some_iff.1 hj).1
  rw [hl, List.length_map] at hjl
  have hlen := h.1
  obtain ⟨b, off, e, hb, hi⟩ := h.2 (by rcases Nat.eq_zero_or_pos n with h0 | h0; · rw [hlen, h0] at hjl; omega
                                        · exact h0)
  cases e
  have hdiv : j / sz < xs.length := Nat.div_lt_of_lt_mul (by rw [Nat.mul_comm]; exact hjl)
  have hmod : j % sz < sz := Nat.mod_lt _ hz
  have hj' : j / sz * sz + j % sz = j := by rw [Nat.mul_comm]; exact Nat.div_add_mod j sz
  obtain ⟨cs, h1, h2, h3⟩ := hi (j / sz) hdiv
  cases h2
  have := flat_get (sz := sz) (xs.map f) (j / sz) (j % sz) (by simpa using hdiv) hmod (fun c hc => by obtain ⟨d, _, rfl⟩ := List.mem_map.1 hc; exact hf d)
  rw [hj', hj, List.getElem_map] at this
  have := h3 (j % sz) u this.symm
  rw [addr_add, ← hj', ← Nat.add_assoc]
  exact this
theorem vl_one (xs : List Vl) : ∀ u ∈ (xs.map Vl.cells).flatten, u.oneCell' = true := fun u hu => by
  obtain ⟨l, hl, hu⟩ := List.mem_flatten.1 hu
  obtain ⟨t, -, rfl⟩ := List.mem_map.1 hl
  simp [Vl.cells] at hu
  rcases hu with rfl | rfl | rfl <;> rfl
theorem vl_flat (xs : List Vl) : ((xs.map Vl.cells).flatten).length = xs.length * 3 := by
  rw [flat_len (sz := 3) _ (fun c hc => by obtain ⟨t, -, rfl⟩ := List.mem_map.1 hc; rfl), List.length_map]

set_option maxRecDepth 100000 in
set_option maxHeartbeats 1000000 in
theorem specCopyVals (A : Option Addr) (n c : Nat) (xs : List Vl) (ok : Nat → Prop) (w : World) (h : Sl VlR 3 ok w A n xs) (hl : n ≤ 1073741824) :
    Calls Try.prog 27 #[.slice A n c] w fun e w' => ∃ v', e = .returned v' ∧ OwnK w' w.heap.size v' xs ∧ Below w.heap.size w w' := by
  obtain ⟨i0, hi, hz0, hz1, hz2⟩ := info_parts infoValC
  have H1 := Lib.hid hi
  have H2 := Lib.hid hz0
  have H3 := Lib.hid hz1
  have H4 := Lib.hid hz2
  clear hi hz0 hz1 hz2
  have HO0 := Lib.hid (OwnG.lit (T := 57) (sz := 3) (f := Vl.cells) w (Nat.le_refl w.heap.size))
  have hb0 := (Below.refl w.heap.size w).alloc (Nat.le_refl _) (.cells #[] 57)
  have h0 := h.below VlR.stays hb0
  obtain rfl : xs.length = n := h.1
  go_enter Try.func27, Try.ntmps27
  cases A with
  | none =>
    have hn : xs.length = 0 := by
      rcases Nat.eq_zero_or_pos xs.length with h | h
      · exact h
      · obtain ⟨b, off, e, -⟩ := h0.2 h
        cases e
    obtain rfl : xs = [] := List.length_eq_zero_iff.1 hn
    simp only [List.length_nil] at *
    go_wp2_with (at_builtin; refine wpList_append_own_0 rfl _ _ 40 rfl w.heap.size 57 i0 3 Try.underlying40 H1.out _ _ _ rfl HO0.out _ rfl ?_)
    go_ret
    exact ⟨_, rfl, HO0.out, hb0⟩
  | some ad =>
    have HX := Lib.hid (Sl.flat_cells (f := Vl.cells) (sz := 3) (by decide) (fun _ => rfl) h0)
    clear h0
    go_wp2_with (at_builtin; refine wpList_append_own _ rfl _ _ 40 rfl w.heap.size 57 i0 (.agg #[.int .i64 0, .int .i64 0, .string ⟨#[]⟩]) 3 32 Try.underlying40 H1.out H2.out H3.out H4.out rfl (by decide) _ _ _ rfl HO0.out ad xs.length c ((xs.map Vl.cells).flatten) rfl ?c0 ?c1 ?c2 ?c3 ?c4 ?c5 ?_)
    case c0 => exact vl_flat xs
    case c1 => exact HX.out
    case c2 => exact vl_one xs
    case c3 => unfold maxLen; simp; omega
    case c4 => simp; omega
    case c5 => simp
    intro v9 w9 hown9 hgrow9 _
    go_wp2_with fail
    go_ret
    refine ⟨_, rfl, ?_, ?_⟩
    · unfold OwnK OwnG; simpa using hown9
    · exact ((Below.refl w.heap.size w).alloc (Nat.le_refl _) _).grown hgrow9 (by simp) (by intro k hk; simp [Value.ownBlock] at hk; omega)

theorem OwnK.below {w w' : World} {base : Nat} {v : Value} {xs : List Vl} (h : OwnK w base v xs) (hb : Below w.heap.size w w') : OwnK w' base v xs := OwnG.below h hb
theorem OwnK.mono {w : World} {base base' : Nat} {v : Value} {xs : List Vl} (h : OwnK w base v xs) (hb : base' ≤ base) : OwnK w base' v xs := by
  refine ⟨h.1, ?_⟩
  rcases h.2 with h | ⟨g, cap, cur, rfl, h1, h2⟩
  · exact .inl h
  · exact .inr ⟨g, cap, cur, rfl, Nat.le_trans hb h1, h2⟩
theorem OwnK.shape {w : World} {base : Nat} {v : Value} {xs : List Vl} (h : OwnK w base v xs) : ∃ A c, v = .slice A xs.length c := by
  rcases h.2 with ⟨rfl, hn⟩ | ⟨g, cap, cur, rfl, -⟩
  · exact ⟨none, 0, by rw [hn]⟩
  · exact ⟨_, _, rfl⟩
theorem OwnK.one {w : World} {base : Nat} {v : Value} {xs : List Vl} (h : OwnK w base v xs) : v.oneCell' = true := by
  rcases h.2 with ⟨rfl, -⟩ | ⟨g, cap, cur, rfl, -⟩ <;> rfl
end Go.Proofs.Ytlpfpcnafejkoaa
