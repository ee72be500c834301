/-
  Ops on files in the program: what each kind does to a map of files.
-/
import Derived.Test.YtkinegapnknhiaaDiskOpOf
import Derived.Test.YtkinegapnknhiaaDiskRoom
namespace Go.Proofs.Ytkinegapnknhiaa
open Go.RowKit Go.Maps
set_option linter.unusedVariables false
set_option linter.unusedSimpArgs false

theorem KpB.cells2 {f : Nat} {w w' : World} (h : KpB f w w') {g : Nat} {T : TypeId} {a b : Value} (hr : Row w g T #[a, b]) (hT : T ≠ 5) : w'.cell? ⟨g, 0, none⟩ = some a ∧ w'.cell? ⟨g, 1, none⟩ = some b := (h.row hr hT).all2.1
theorem KpB.new {f : Nat} {w : World} (hf : f ≤ w.heap.size) (o : Obj) : KpB f w (w.alloc o) := KpB.below hf ((Below.refl w.heap.size w).alloc (Nat.le_refl _) o)
theorem cutF_none {l : List Fz} {s : List UInt8} (h : findF l s = none) : cutF l s = l := by
  unfold cutF
  refine List.filter_eq_self.2 fun x hx => ?_
  unfold findF at h
  have := (List.find?_eq_none.1 (Option.map_eq_none_iff.1 h)) x hx
  simpa using this

theorem step_append_run {P : Program} {ops : Array Oper} {o : Oper} {a : Act} {w w' : World} {K : Act → World → Prop} {Q : Exit → Act → World → Prop} {E : Prop} (hg : o.guard = none) (s x : Operand) (t u : TypeId) (ho : o.op = .call { callee := .builtin .append, args := #[s, x], argTypes := #[t, u] })
    {v y v' : Value} (hs : a.eval s = v) (hx : a.eval x = y) (hr : (Builtin.append_ #[t, u] o.type #[v, y]).run P w = .ok v' w') (hK : K (a.put o.dst v') w') : if Region.wanted o (yielded ops a.tmps) = true then Oper.wp P o a w K Q else E := by
  have hw : Region.wanted o (yielded ops a.tmps) = true := by simp [Region.wanted, hg]
  rw [if_pos hw]
  unfold Oper.wp execOp
  simp only [ho, resolve, invoke, builtin, Sem.run_bind, Sem.run_pure, Result.andThen_ok, List.map_toArray, List.map_cons, List.map_nil, hs, hx, hr]
  exact hK

set_option maxRecDepth 100000 in
set_option maxHeartbeats 1000000 in
theorem doApp (base f : Nat) (l : List Fz) (n d : ByteArray) (w : World) (h : FilesAt w base f l) (hn : n.size ≤ maxLen) (hs : bytesF l + d.size ≤ 1073741824) (hl : l.length ≤ 1000000) :
    Calls Try.prog 138 #[.agg #[.string n, .string d], .map (some f)] w fun e w' => e = .returned (.bool true) ∧ FilesAt w' base f (putF l n ((findF l n.toList).elim d (· ++ d))) ∧ KpB f w w' := by
  have hk0 := KpB.new (Nat.le_of_lt h.lt) (.cells #[.string n, .string d] 130)
  have hz := h.below ((Below.refl w.heap.size w).alloc (Nat.le_refl _) (.cells #[.string n, .string d] 130))
  have rb := Row.new w 130 #[.string n, .string d]
  obtain ⟨⟨p0, p1⟩, -⟩ := rb.all2
  go_enter Try.func138, Try.ntmps138
  go_wp2_with fail
  generalize w.alloc (.cells #[.string n, .string d] 130) = z at *
  have hkd : KpB f z z.drew := KpB.below (Nat.le_of_lt hz.lt) ⟨rfl, rfl, rfl, Nat.le_refl _, fun _ _ => rfl⟩
  obtain ⟨v, v', w1, w2, e1, e2, e3, hfa, hk1, hk2⟩ := hz.drew.app n d 22 hn hs hl
  have r1 := KpB.cells2 (hkd.trans hk1) rb (by decide)
  have r2 := KpB.cells2 (hkd.trans hk2) rb (by decide)
  have HF := Lib.hid (And.intro hfa (hk0.trans (hkd.trans hk2)))
  clear hfa hk1 hk2 hk0 hkd hz
  refine wp_region_noPanic ?_
  refine wp_region_held_drew (S := (fun w' => w'.cell? ⟨w.heap.size, 0, none⟩ = some (.string n) ∧ w'.cell? ⟨w.heap.size, 1, none⟩ = some (.string d))) (by kernel_rfl) ⟨p0, p1⟩ (fun hHeld => ?_)
  refine wpAnyH_take (i := 0) (v := ?v1) rfl (by kernel_rfl) (by kernel_rfl) (by kernel_rfl) (fun _ _ _ h => h) (Or.inl ⟨by rfl, ?hy1⟩) hHeld ?rest1
  case hy1 => (intro w' hSw; (try dsimp only at hSw); first | (go_simp; done) | (go_simp; with_reducible rfl))
  simp only [Act.put, List.getElem_toArray, List.getElem_cons_zero, List.getElem_cons_succ, List.setIfInBounds_toArray, List.set_cons_zero, List.set_cons_succ]
  refine wpAnyH_take (i := 1) (v := ?v2) rfl (by kernel_rfl) (by kernel_rfl) (by kernel_rfl) (fun _ _ _ h => h) (Or.inl ⟨by rfl, ?hy2⟩) hHeld ?rest2
  case hy2 => (intro w' hSw; (try dsimp only at hSw); first | (go_simp; done) | (go_simp; with_reducible rfl))
  simp only [Act.put, List.getElem_toArray, List.getElem_cons_zero, List.getElem_cons_succ, List.setIfInBounds_toArray, List.set_cons_zero, List.set_cons_succ]
  refine wpAnyH_take (i := 2) (v := ?v3) rfl (by kernel_rfl) (by kernel_rfl) (by kernel_rfl) (fun _ _ _ h => h) (Or.inl ⟨by rfl, ?hy3⟩) hHeld ?rest3
  case hy3 => (intro w' hSw; (try dsimp only at hSw); first | (go_simp; done) | (go_simp; with_reducible rfl))
  simp only [Act.put, List.getElem_toArray, List.getElem_cons_zero, List.getElem_cons_succ, List.setIfInBounds_toArray, List.set_cons_zero, List.set_cons_succ]
  refine wpAnyH_take (i := 3) (v := ?v4) rfl (by kernel_rfl) (by kernel_rfl) (by kernel_rfl) (fun _ _ _ h => h) (Or.inl ⟨by rfl, ?hy4⟩) hHeld ?rest4
  case hy4 => (intro w' hSw; (try dsimp only at hSw); first | (go_simp; done) | (go_simp; with_reducible rfl))
  simp only [Act.put, List.getElem_toArray, List.getElem_cons_zero, List.getElem_cons_succ, List.setIfInBounds_toArray, List.set_cons_zero, List.set_cons_succ]
  refine wpAnyH_take (i := 4) (v := ?v5) rfl (by kernel_rfl) (by kernel_rfl) (by kernel_rfl) (fun _ _ _ h => h) (Or.inl ⟨by rfl, ?hy5⟩) hHeld ?rest5
  case hy5 => (intro w' hSw; (try dsimp only at hSw); first | (go_simp; done) | (go_simp; with_reducible rfl))
  simp only [Act.put, List.getElem_toArray, List.getElem_cons_zero, List.getElem_cons_succ, List.setIfInBounds_toArray, List.set_cons_zero, List.set_cons_succ]
  refine wpAnyH_take (i := 5) (v := ?v6) rfl (by kernel_rfl) (by kernel_rfl) (by kernel_rfl) (fun _ _ _ h => h) (Or.inl ⟨by rfl, ?hy6⟩) hHeld ?rest6
  case hy6 => (intro w' hSw; (try dsimp only at hSw); first | (go_simp; done) | (go_simp; with_reducible rfl))
  simp only [Act.put, List.getElem_toArray, List.getElem_cons_zero, List.getElem_cons_succ, List.setIfInBounds_toArray, List.set_cons_zero, List.set_cons_succ]
  refine wpAnyH_take (i := 7) (v := ?v7) rfl (by kernel_rfl) (by kernel_rfl) (by kernel_rfl) (fun _ _ _ h => h) (Or.inl ⟨by rfl, ?hy7⟩) hHeld ?rest7
  case hy7 => (intro w' hSw; (try dsimp only at hSw); first | (go_simp; done) | (go_simp; with_reducible rfl))
  simp only [Act.put, List.getElem_toArray, List.getElem_cons_zero, List.getElem_cons_succ, List.setIfInBounds_toArray, List.set_cons_zero, List.set_cons_succ]
  refine wpAnyH_take (i := 8) (v := ?v8) rfl (by kernel_rfl) (by kernel_rfl) (by kernel_rfl) (fun _ _ _ h => h) (Or.inl ⟨by rfl, ?hy8⟩) hHeld ?rest8
  case hy8 => (intro w' hSw; (try dsimp only at hSw); first | (go_simp; done) | (go_simp; with_reducible rfl))
  simp only [Act.put, List.getElem_toArray, List.getElem_cons_zero, List.getElem_cons_succ, List.setIfInBounds_toArray, List.set_cons_zero, List.set_cons_succ]
  refine wpAnyH_ready (rs := [6]) (by kernel_rfl) (by simp) ?_
  refine AllReadyH.cons rfl (fun K hK => ?_) AllReadyH.nil
  go_simp
  refine hK.out _ _ hHeld (fun hHeld => ?_)
  clear hK K
  (try simp only [Act.put, List.getElem_toArray, List.getElem_cons_zero, List.getElem_cons_succ, List.setIfInBounds_toArray, List.set_cons_zero, List.set_cons_succ])
  refine wpAnyH_ready (rs := [9]) (by kernel_rfl) (by simp) ?_
  refine AllReadyH.cons rfl (fun K hK => ?_) AllReadyH.nil
  refine step_append_run rfl (.tmp 11) (.tmp 13) 22 9 rfl rfl rfl e2 ?_
  refine hK.out _ _ ⟨r1.1, r1.2⟩ (fun hHeld => ?_)
  clear hK K
  (try simp only [Act.put, List.getElem_toArray, List.getElem_cons_zero, List.getElem_cons_succ, List.setIfInBounds_toArray, List.set_cons_zero, List.set_cons_succ])
  refine wpAnyH_ready (rs := [10]) (by kernel_rfl) (by simp) ?_
  refine AllReadyH.cons rfl (fun K hK => ?_) AllReadyH.nil
  go_simp
  refine hK.out _ _ ⟨r2.1, r2.2⟩ (fun hHeld => ?_)
  clear hK K
  (try simp only [Act.put, List.getElem_toArray, List.getElem_cons_zero, List.getElem_cons_succ, List.setIfInBounds_toArray, List.set_cons_zero, List.set_cons_succ])
  refine wpAnyH_done (by kernel_rfl) ?_ _
  refine NoPanic.normal ?_
  clear hHeld
  go_wp2
  go_ret
  exact ⟨rfl, HF.out⟩

theorem wpList_delete_run {P : Program} {ops : Array Oper} {rest : List Oper} {o : Oper} {a : Act} {w w' : World} {Q : Exit → Act → World → Prop} (hgd : o.guard = none) (m x : Operand) (t k : TypeId) (ho : o.op = Op.call { callee := Callee.builtin Builtin.delete, args := #[m, x], argTypes := #[t, k] })
    {v y u : Value} (hm : a.eval m = v) (hx : a.eval x = y) (hr : (Builtin.delete_ #[t, k] o.type #[v, y]).run P w = .ok u w') (hK : wpList P ops Q rest (a.put o.dst u) w') : wpList P ops Q (o :: rest) a w := by
  refine wpList_plain hgd fun K hK' => ?_
  unfold Oper.wp execOp
  simp only [ho, resolve, invoke, builtin, Sem.run_bind, Sem.run_pure, Result.andThen_ok, List.map_toArray, List.map_cons, List.map_nil, hm, hx, hr]
  exact hK' _ _ hK
theorem wpList_lookup_run {P : Program} {ops : Array Oper} {rest : List Oper} {o : Oper} {a : Act} {w : World} {Q : Exit → Act → World → Prop} (hgd : o.guard = none) (m x : Operand) (t : TypeId) (c : Bool) (ho : o.op = Op.lookup t m x c)
    {v y u : Value} (hm : a.eval m = v) (hx : a.eval x = y) (hr : (Instr.lookup t v y c).run P w = .ok u w) (hK : wpList P ops Q rest (a.put o.dst u) w) : wpList P ops Q (o :: rest) a w := by
  refine wpList_plain hgd fun K hK' => ?_
  unfold Oper.wp execOp
  simp only [ho, Sem.run_bind, Sem.run_pure, Result.andThen_ok, hm, hx, hr]
  exact hK' _ _ hK

set_option maxRecDepth 100000 in
set_option maxHeartbeats 1000000 in
theorem doRem (base f : Nat) (l : List Fz) (n : ByteArray) (w : World) (h : FilesAt w base f l) (hn : n.size ≤ maxLen) :
    Calls Try.prog 144 #[.agg #[.string n], .map (some f)] w fun e w' => e = .returned (.bool (findF l n.toList).isSome) ∧ FilesAt w' base f (cutF l n.toList) ∧ KpB f w w' := by
  have hk0 := KpB.new (Nat.le_of_lt h.lt) (.cells #[.string n] 134)
  have hz := h.below ((Below.refl w.heap.size w).alloc (Nat.le_refl _) (.cells #[.string n] 134))
  have rb := Row.new w 134 #[.string n]
  have p0 := rb.cell 0
  obtain ⟨D, hD⟩ := hz
  obtain ⟨v, e1, -, -⟩ := hD.lookOk n hn
  obtain ⟨w1, e2, hfa, hk1, -⟩ := hD.del n hn 0
  have HF := Lib.hid (And.intro (show FilesAt w1 base f (cutF l n.toList) from ⟨_, hfa⟩) (hk0.trans hk1))
  clear hfa hk1 hk0 hD
  go_enter Try.func144, Try.ntmps144
  go_wp2_with (at_delete; refine wpList_delete_run rfl _ _ _ _ rfl rfl rfl e2 ?_)
  go_ret
  exact ⟨rfl, HF.out⟩

set_option maxRecDepth 100000 in
set_option maxHeartbeats 1000000 in
theorem doRen (base f : Nat) (l : List Fz) (n t : ByteArray) (w : World) (h : FilesAt w base f l) (hn : n.size ≤ maxLen) (ht : t.size ≤ maxLen) (hl : l.length ≤ 1000000) :
    Calls Try.prog 141 #[.agg #[.string n, .string t], .map (some f)] w fun e w' => e = .returned (.bool (findF l n.toList).isSome) ∧ FilesAt w' base f ((findF l n.toList).elim l fun d => putF (cutF l n.toList) t d) ∧ KpB f w w' := by
  have hk0 := KpB.new (Nat.le_of_lt h.lt) (.cells #[.string n, .string t] 132)
  have hz := h.below ((Below.refl w.heap.size w).alloc (Nat.le_refl _) (.cells #[.string n, .string t] 132))
  have rb := Row.new w 132 #[.string n, .string t]
  obtain ⟨⟨p0, p1⟩, -⟩ := rb.all2
  cases hf : findF l n.toList with
  | none =>
    have HF := Lib.hid (And.intro hz hk0)
    obtain ⟨D, hD⟩ := hz
    obtain ⟨v, e1, -, -⟩ := hD.lookOk n hn
    rw [hf] at e1
    clear hk0 hD
    go_enter Try.func141, Try.ntmps141
    go_wp2
    go_ret
    exact ⟨rfl, HF.out⟩
  | some d =>
    obtain ⟨v, w1, w2, e1, e2, e3, hfa, hk1, hk2⟩ := hz.ren n t d 0 hf hn ht hl
    have r1 := KpB.cells2 hk1 rb (by decide)
    have HF := Lib.hid (And.intro hfa (hk0.trans hk2))
    have q0 := r1.1
    have q1 := r1.2
    clear hfa hk1 hk2 hk0 hz r1
    go_enter Try.func141, Try.ntmps141
    go_wp2_with (at_delete; refine wpList_delete_run rfl _ _ _ _ rfl rfl rfl e2 ?_)
    go_ret
    exact ⟨rfl, HF.out⟩
end Go.Proofs.Ytkinegapnknhiaa
