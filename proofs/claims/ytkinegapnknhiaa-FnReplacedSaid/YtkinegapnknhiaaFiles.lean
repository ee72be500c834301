/-
  A map of files that a call has made: the list that it stands for, what is found there, what puts and deletes leave.
-/
import Derived.Test.YtkinegapnknhiaaByt
import Derived.Test.YtkinegapnknhiaaDiskMath
import Derived.Maps.RangeWalk
import Derived.Maps.AppendAt
import Derived.StringKeys
namespace Go.Proofs.Ytkinegapnknhiaa
open Go.RowKit Go.Maps
set_option linter.unusedVariables false
set_option linter.unusedSimpArgs false

/-- A slice of bytes as an element of a map: where it lies. -/
def rawE : Value → Option (DataW Unit × List MemPlace)
  | .slice none 0 0 => some (.nil, [])
  | .slice (some ⟨b, 0, none⟩) n c => some (.agg [.lit (.int .i64 b), .lit (.int .i64 n), .lit (.int .i64 c)], [])
  | _ => none
theorem rawE_inv {v : Value} {y : DataW Unit × List MemPlace} (h : rawE v = some y) : y.2 = [] ∧ (v = .slice none 0 0 ∧ y.1 = .nil ∨ ∃ b n c, v = .slice (some ⟨b, 0, none⟩) n c ∧ y.1 = .agg [.lit (.int .i64 (b : Nat)), .lit (.int .i64 (n : Nat)), .lit (.int .i64 (c : Nat))]) := by
  unfold rawE at h
  split at h
  · obtain rfl := Option.some.inj h; exact ⟨rfl, .inl ⟨rfl, rfl⟩⟩
  · obtain rfl := Option.some.inj h; exact ⟨rfl, .inr ⟨_, _, _, rfl, rfl⟩⟩
  · cases h
theorem rawE_inj {v u : Value} {x : DataW Unit} (h : rawE v = some (x, [])) (k : rawE u = some (x, [])) : v = u := by
  obtain ⟨-, h1⟩ := rawE_inv h
  obtain ⟨-, k1⟩ := rawE_inv k
  rcases h1 with ⟨rfl, e⟩ | ⟨b, n, c, rfl, e⟩ <;> rcases k1 with ⟨rfl, f⟩ | ⟨b', n', c', rfl, f⟩
  · rfl
  · dsimp only at e f; rw [e] at f; cases f
  · dsimp only at e f; rw [e] at f; cases f
  · dsimp only at e f
    rw [e] at f
    simp only [DataW.agg.injEq, List.cons.injEq, DataW.lit.injEq, Lit.int.injEq, Int.natCast_inj, true_and, and_true] at f
    obtain ⟨rfl, rfl, rfl⟩ := f
    rfl
theorem rawE_byt {w : World} {base : Nat} {v : Value} {d : ByteArray} (h : Byt w base v d) : ∃ x, rawE v = some (x, []) := by
  rcases h with ⟨rfl, -⟩ | ⟨g, cap, cur, fz, rfl, -⟩
  · exact ⟨_, rfl⟩
  · exact ⟨_, rfl⟩

/-- At this name of the map's datum lies this value. -/
def AtN (D : DataW Unit) (s : List UInt8) (v : Value) : Prop := rawE v = some (D.atKey (.string s) .nil, [])
theorem AtN.inj {D : DataW Unit} {s : List UInt8} {v u : Value} (h : AtN D s v) (k : AtN D s u) : v = u := rawE_inj h k
/-- Block f of w is a map of the files l, whose data lie in blocks of their own from 'base' on. -/
structure FilesD (w : World) (base f : Nat) (l : List Fz) (D : DataW Unit) : Prop where
  own : w.ownsMap Try.prog 9 rawE f (Maps.size D) D
  lo : f < base
  up : base ≤ w.heap.size
  srt : SortedF l
  num : Maps.size D = l.length
  has : ∀ s, Maps.has D (.string s) = (findF l s).isSome
  row : ∀ s d, findF l s = some d → ∃ v, AtN D s v ∧ Byt w base v d
  apart : ∀ s t v u, s ≠ t → AtN D s v → AtN D t u → v.ownBlock = none ∨ v.ownBlock ≠ u.ownBlock
def FilesAt (w : World) (base f : Nat) (l : List Fz) : Prop := ∃ D, FilesD w base f l D
theorem lawS : Keyed Try.prog 9 := string_keyed Try.underlying9
theorem keyS (s : ByteArray) (h : s.size ≤ maxLen) : keyOf Try.prog 9 (.string s) = some (.string s.toList) := by rw [ByteArray.toList_eq]; exact WideMaps.keyOf_string_mk Try.underlying9 h
theorem isKeyS (s : List UInt8) : WideAt.IsKeyLit (.string s) := trivial
theorem zeroSl (w : World) : (zeroValue 22).run Try.prog w = .ok (.slice none 0 0) w := by kernel_rfl
theorem owns_fit {w : World} {f n : Nat} {D : DataW Unit} (h : w.ownsMap Try.prog 9 rawE f n D) : w.ownsMap Try.prog 9 rawE f (Maps.size D) D := by
  obtain ⟨es, clock, hb, F, hs, rfl⟩ := h
  exact ⟨es, clock, hb, F, by rw [size_eq, length_sorted]; simp, rfl⟩

/-- What a step on a map of files keeps: all below the map, and every row that is no row of bytes. -/
structure KpB (f : Nat) (w w' : World) : Prop where
  low : Below f w w'
  rows : ∀ (k : Nat) (cs : Array Value) (T : TypeId) (fz : Nat × Nat), w.heap[k]? = some (Obj.cells cs T fz) → T ≠ 5 → w'.heap[k]? = some (Obj.cells cs T fz)
theorem KpB.refl (f : Nat) (w : World) : KpB f w w := ⟨Below.refl _ _, fun _ _ _ _ h _ => h⟩
theorem KpB.trans {f : Nat} {a b c : World} (h : KpB f a b) (k : KpB f b c) : KpB f a c := ⟨h.low.trans k.low, fun i cs T fz hi hT => k.rows i cs T fz (h.rows i cs T fz hi hT) hT⟩
theorem KpB.below {f : Nat} {w w' : World} (hf : f ≤ w.heap.size) (h : Below w.heap.size w w') : KpB f w w' := ⟨h.mono hf, fun k cs T fz hk _ => (h.block k (Array.getElem?_eq_some_iff.1 hk).1).trans hk⟩
theorem KpB.row {f : Nat} {w w' : World} (h : KpB f w w') {g : Nat} {T : TypeId} {cs : Array Value} (hr : Row w g T cs) (hT : T ≠ 5) : Row w' g T cs := h.rows _ _ _ _ hr hT
theorem KpB.grow {f base : Nat} {w w' : World} {v : Value} {d : ByteArray} (hg : w.grownBy w' v.ownBlock) (h : Byt w base v d) (hf : f < base) (hu : base ≤ w.heap.size) : KpB f w w' := by
  refine ⟨(Below.refl f w).grown hg (by omega) fun k hk => ?_, fun k cs T fz hk hT => ?_⟩
  · have := (h.lt k hk).1; omega
  · refine (hg.block k (Array.getElem?_eq_some_iff.1 hk).1 fun e => ?_).trans hk
    rcases h with ⟨rfl, -⟩ | ⟨g, cap, cur, fz', rfl, -, hgg, -⟩
    · cases e
    · have e' : k = g := by simpa [Value.ownBlock] using e
      subst e'
      rw [hgg] at hk
      injection hk with hk
      injection hk with _ hk _
      exact hT hk.symm
theorem KpB.map {f n : Nat} {w w' : World} {D : DataW Unit} (hg : w.grownBy w' (some f)) (h : w.ownsMap Try.prog 9 rawE f n D) : KpB f w w' := by
  refine ⟨(Below.refl f w).grown hg (Nat.le_of_lt h.lt) fun k hk => by injection hk with hk; omega, fun k cs T fz hk hT => ?_⟩
  refine (hg.block k (Array.getElem?_eq_some_iff.1 hk).1 fun e => ?_).trans hk
  injection e with e
  subst e
  obtain ⟨es, clock, hb, -⟩ := h
  rw [hb] at hk; cases hk

section
variable {w w' : World} {base f : Nat} {l : List Fz} {D : DataW Unit}
theorem FilesD.kept {row : Option Nat} (h : FilesD w base f l D) (hg : w.grownBy w' row) (hf : row ≠ some f) (hr : ∀ s d u, findF l s = some d → AtN D s u → u.ownBlock = none ∨ u.ownBlock ≠ row) : FilesD w' base f l D :=
  ⟨h.own.kept hg (fun e => hf e.symm), h.lo, Nat.le_trans h.up hg.size, h.srt, h.num, h.has, fun s d hs => by
    obtain ⟨v, h1, h2⟩ := h.row s d hs
    exact ⟨v, h1, h2.kept hg (hr s d v hs h1)⟩, h.apart⟩
theorem FilesD.new (h : FilesD w base f l D) (hg : w.grownBy w' none) : FilesD w' base f l D := h.kept hg (by simp) fun _ _ u _ _ => by cases u.ownBlock <;> simp
theorem grown_of_below (hb : Below w.heap.size w w') : w.grownBy w' none := ⟨hb.os, hb.tape, hb.output, hb.size, fun k hk _ => hb.block k hk⟩
theorem FilesAt.below (h : FilesAt w base f l) (hb : Below w.heap.size w w') : FilesAt w' base f l := by
  obtain ⟨D, h⟩ := h
  exact ⟨D, h.new (grown_of_below hb)⟩
theorem FilesAt.drew (h : FilesAt w base f l) : FilesAt w.drew base f l := h.below ⟨rfl, rfl, rfl, Nat.le_refl _, fun _ _ => rfl⟩
theorem FilesAt.lt (h : FilesAt w base f l) : f < w.heap.size := by obtain ⟨D, h⟩ := h; exact h.own.lt
theorem FilesAt.srt (h : FilesAt w base f l) : SortedF l := by obtain ⟨D, h⟩ := h; exact h.srt
theorem FilesAt.made (w : World) : FilesAt (w.alloc (.map #[] 0)) (w.heap.size + 1) w.heap.size [] :=
  ⟨.map [], World.ownsMap_made _ _ _ _, Nat.lt_succ_self _, by simp, List.Pairwise.nil, rfl, fun s => rfl, fun s d h => by simp [findF] at h, fun s t v u _ h1 _ => by
    have e : v = .slice none 0 0 := rawE_inj h1 rfl
    subst e; exact .inl rfl⟩

theorem AtN.put_same (hm : IsMap D) {s : List UInt8} {v : Value} {x : DataW Unit} (hx : rawE v = some (x, [])) : AtN (D.put (.string s) x) s v := by
  unfold AtN
  rw [atKey_put_same hm (isKeyS s)]; exact hx
theorem ne_str {s t : List UInt8} (h : s ≠ t) : Lit.string s ≠ Lit.string t := fun e => h (by injection e)
theorem AtN.put_other {s t : List UInt8} (h : t ≠ s) {v : Value} {x : DataW Unit} : AtN (D.put (.string s) x) t v ↔ AtN D t v := by
  unfold AtN
  rw [atKey_put_other (ne_str h)]
theorem AtN.del_other {s t : List UInt8} (h : t ≠ s) {v : Value} : AtN (D.del (.string s)) t v ↔ AtN D t v := by
  unfold AtN
  rw [atKey_del_other (ne_str h)]
/-- At a name that isn't there lies nothing. -/
theorem FilesD.none_at (h : FilesD w base f l D) {s : List UInt8} (hs : findF l s = none) {u : Value} (hu : AtN D s u) : u = .slice none 0 0 := by
  have := h.has s
  rw [hs] at this
  unfold AtN at hu
  rw [atKey_of_not_has this] at hu
  exact rawE_inj hu rfl
/-- The store at a name, behind what was done to a row that no other name has. -/
theorem FilesD.store {row : Option Nat} (h : FilesD w base f l D) {w1 : World} (hg : w.grownBy w1 row) (hf : row ≠ some f) (s : ByteArray) (hs : s.size ≤ maxLen) (hl : l.length ≤ 1000000) {v : Value} {d : ByteArray} (hv : Byt w1 base v d)
    (ho : ∀ t e u, t ≠ s.toList → findF l t = some e → AtN D t u → (u.ownBlock = none ∨ u.ownBlock ≠ row) ∧ (u.ownBlock = none ∨ u.ownBlock ≠ v.ownBlock)) :
    ∃ w2, (Instr.mapUpdate 71 (.map (some f)) (.string s) v).run Try.prog w1 = .ok () w2 ∧ FilesAt w2 base f (putF l s d) ∧ KpB f w1 w2 := by
  obtain ⟨x, hx⟩ := rawE_byt hv
  have hown1 := h.own.kept hg (fun e => hf e.symm)
  obtain ⟨w2, hrun, hown2, hg2⟩ := hown1.update lawS Try.underlying71 (by rw [h.num]; unfold maxLen; omega) (keyS s hs) hx
  have hm : IsMap D := h.own.isMap
  have ht : Tidy D := h.own.tidy lawS
  refine ⟨w2, hrun, ⟨D.put (.string s.toList) x, owns_fit hown2, h.lo, Nat.le_trans (Nat.le_trans h.up hg.size) hg2.size, putF_sorted h.srt _ _, ?_, fun t => ?_, fun t e ht' => ?_, fun t t' u u' hne hu hu' => ?_⟩, KpB.map hg2 hown1⟩
  · rw [size_put ht, h.num, h.has, putF_len h.srt]
  · rw [findF_put]
    by_cases e : s.toList = t
    · subst e; rw [has_put_same hm (isKeyS _)]; simp
    · rw [if_neg e, has_put_other (ne_str (Ne.symm e)), h.has]
  · rw [findF_put] at ht'
    by_cases e' : s.toList = t
    · rw [if_pos e'] at ht'
      obtain rfl := Option.some.inj ht'
      subst e'
      exact ⟨v, AtN.put_same hm hx, hv.kept hg2 (by
        cases hvo : v.ownBlock with
        | none => exact .inl rfl
        | some k => refine .inr fun e => ?_; injection e with e; have := (hv.lt k hvo).1; have := h.lo; omega)⟩
    · rw [if_neg e'] at ht'
      obtain ⟨u, hu, hb⟩ := h.row t e ht'
      have hb1 := hb.kept hg (ho t e u (Ne.symm e') ht' hu).1
      exact ⟨u, (AtN.put_other (Ne.symm e')).2 hu, hb1.kept hg2 (by
        cases hvo : u.ownBlock with
        | none => exact .inl rfl
        | some k => refine .inr fun e => ?_; injection e with e; have := (hb1.lt k hvo).1; have := h.lo; omega)⟩
  · by_cases e : t = s.toList <;> by_cases e' : t' = s.toList
    · exact absurd (e.trans e'.symm) hne
    · subst e
      obtain rfl := AtN.inj hu (AtN.put_same hm hx)
      have hu' := (AtN.put_other e').1 hu'
      cases hfi : findF l t' with
      | none => rw [h.none_at hfi hu']; cases u.ownBlock <;> simp [Value.ownBlock]
      | some y =>
        rcases (ho t' y u' e' hfi hu').2 with k | k
        · rw [k]; cases u.ownBlock <;> simp
        · exact .inr (Ne.symm k)
    · subst e'
      obtain rfl := AtN.inj hu' (AtN.put_same hm hx)
      have hu := (AtN.put_other e).1 hu
      cases hfi : findF l t with
      | none => rw [h.none_at hfi hu]; exact .inl rfl
      | some y => exact (ho t y u e hfi hu).2
    · exact h.apart t t' u u' hne ((AtN.put_other e).1 hu) ((AtN.put_other e').1 hu')
theorem FilesD.look (h : FilesD w base f l D) (s : ByteArray) (hs : s.size ≤ maxLen) : ∃ v, (Instr.lookup 71 (.map (some f)) (.string s) false).run Try.prog w = .ok v w ∧ AtN D s.toList v ∧ Byt w base v ((findF l s.toList).getD ⟨#[]⟩) := by
  obtain ⟨v, ps, hrun, hv⟩ := h.own.lookup lawS Try.underlying71 (zeroSl w) (z := .slice none 0 0) (zd := .nil) (zp := []) rfl (keyS s hs)
  have hps := (rawE_inv hv).1
  dsimp only at hps
  subst hps
  refine ⟨v, hrun, hv, ?_⟩
  cases hfi : findF l s.toList with
  | none => rw [h.none_at hfi hv]; exact .inl ⟨rfl, rfl⟩
  | some d =>
    obtain ⟨u, hu, hb⟩ := h.row _ d hfi
    obtain rfl := AtN.inj hv hu
    exact hb
theorem FilesD.lookOk (h : FilesD w base f l D) (s : ByteArray) (hs : s.size ≤ maxLen) : ∃ v, (Instr.lookup 71 (.map (some f)) (.string s) true).run Try.prog w = .ok (.tuple #[v, .bool (findF l s.toList).isSome]) w ∧ AtN D s.toList v ∧ Byt w base v ((findF l s.toList).getD ⟨#[]⟩) := by
  obtain ⟨v, ps, hrun, hv⟩ := h.own.look_ok lawS Try.underlying71 (zeroSl w) (z := .slice none 0 0) (zd := .nil) (zp := []) rfl (keyS s hs)
  have hps := (rawE_inv hv).1
  dsimp only at hps
  subst hps
  rw [h.has] at hrun
  refine ⟨v, hrun, hv, ?_⟩
  cases hfi : findF l s.toList with
  | none => rw [h.none_at hfi hv]; exact .inl ⟨rfl, rfl⟩
  | some d =>
    obtain ⟨u, hu, hb⟩ := h.row _ d hfi
    obtain rfl := AtN.inj hv hu
    exact hb
/-- 'f[s] = append(f[s], d...)'. -/
theorem FilesAt.app (h : FilesAt w base f l) (s d : ByteArray) (ty : TypeId) (hs : s.size ≤ maxLen) (hd : bytesF l + d.size ≤ 1073741824) (hl : l.length ≤ 1000000) :
    ∃ v v' w1 w2, (Instr.lookup 71 (.map (some f)) (.string s) false).run Try.prog w = .ok v w ∧ (Builtin.append_ #[22, 9] ty #[v, .string d]).run Try.prog w = .ok v' w1 ∧
      (Instr.mapUpdate 71 (.map (some f)) (.string s) v').run Try.prog w1 = .ok () w2 ∧ FilesAt w2 base f (putF l s ((findF l s.toList).elim d (· ++ d))) ∧ KpB f w w1 ∧ KpB f w w2 := by
  obtain ⟨D, h⟩ := h
  obtain ⟨v, hrun, hat, hb⟩ := h.look s hs
  have hsz : ((findF l s.toList).getD ⟨#[]⟩).size + d.size ≤ 1073741824 := by
    cases hfi : findF l s.toList with
    | none => show 0 + d.size ≤ 1073741824; omega
    | some y => have := findF_size hfi; show y.size + d.size ≤ 1073741824; omega
  obtain ⟨v', w1, happ, hb', hg, hloc⟩ := hb.append d ty hsz h.up
  have hf : v.ownBlock ≠ some f := fun e => by have := (hb.lt f e).1; have := h.lo; omega
  have hk1 := KpB.grow hg hb h.lo h.up
  have ho : ∀ t e u, t ≠ s.toList → findF l t = some e → AtN D t u → (u.ownBlock = none ∨ u.ownBlock ≠ v.ownBlock) ∧ (u.ownBlock = none ∨ u.ownBlock ≠ v'.ownBlock) := by
    intro t e u hne hfi hu
    have h1 := h.apart t s.toList u v hne hu hat
    refine ⟨h1, ?_⟩
    rcases hloc with k | k | k
    · cases u.ownBlock <;> simp [k]
    · rw [k]; exact h1
    · obtain ⟨u', hu', hbu⟩ := h.row t e hfi
      obtain rfl := AtN.inj hu hu'
      cases hvo : u.ownBlock with
      | none => exact .inl rfl
      | some j => refine .inr fun e => ?_; rw [k] at e; injection e with e; have := (hbu.lt j hvo).2; omega
  obtain ⟨w2, hput, hfa, hk2⟩ := h.store hg hf s hs hl hb' ho
  refine ⟨v, v', w1, w2, hrun, happ, hput, ?_, hk1, hk1.trans hk2⟩
  have e : (findF l s.toList).elim d (· ++ d) = (findF l s.toList).getD ⟨#[]⟩ ++ d := by
    cases findF l s.toList with
    | none => simp only [Option.elim_none, Option.getD_none]; apply bytes_ext; simp [ByteArray.toList_eq]
    | some y => rfl
  rw [e]; exact hfa
/-- 'f[s] = []byte(d)'. -/
theorem FilesAt.set (h : FilesAt w base f l) (s d : ByteArray) (hs : s.size ≤ maxLen) (hd : d.size ≤ maxLen) (hl : l.length ≤ 1000000) :
    ∃ v w1 w2, (convert 9 22 (.string d)).run Try.prog w = .ok v w1 ∧ (Instr.mapUpdate 71 (.map (some f)) (.string s) v).run Try.prog w1 = .ok () w2 ∧ FilesAt w2 base f (putF l s d) ∧ Below w.heap.size w w1 ∧ KpB f w w2 := by
  obtain ⟨D, h⟩ := h
  obtain ⟨v, w1, hrun, hb, hg, hloc⟩ := Byt.ofString w d hd h.up
  have hbl : Below w.heap.size w w1 := (Below.refl _ w).grown hg (Nat.le_refl _) fun k hk => by cases hk
  obtain ⟨w2, hput, hfa, hk⟩ := h.store hg (by simp) s hs hl hb (fun t e u hne hfi hu => by
    obtain ⟨u', hu', hbu⟩ := h.row t e hfi
    obtain rfl := AtN.inj hu hu'
    cases hvo : u.ownBlock with
    | none => exact ⟨.inl rfl, .inl rfl⟩
    | some j => exact ⟨.inr (by simp), .inr fun e => by rw [hloc] at e; injection e with e; have := (hbu.lt j hvo).2; omega⟩)
  exact ⟨v, w1, w2, hrun, hput, hfa, hbl, (KpB.below (Nat.le_of_lt h.own.lt) hbl).trans hk⟩
theorem FilesD.del (h : FilesD w base f l D) (s : ByteArray) (hs : s.size ≤ maxLen) (ty : TypeId) :
    ∃ w2, (Builtin.delete_ #[71, 9] ty #[.map (some f), .string s]).run Try.prog w = .ok (.tuple #[]) w2 ∧ FilesD w2 base f (cutF l s.toList) (D.del (.string s.toList)) ∧ KpB f w w2 ∧ w.grownBy w2 (some f) := by
  obtain ⟨w2, hrun, hown2, ht2⟩ := h.own.drop lawS Try.underlying71 (keyS s hs) ty
  have hg2 := ht2.grown
  have ht : Tidy D := h.own.tidy lawS
  refine ⟨w2, hrun, ⟨owns_fit hown2, h.lo, Nat.le_trans h.up hg2.size, cutF_sorted h.srt _, ?_, fun t => ?_, fun t e ht' => ?_, fun t t' u u' hne hu hu' => ?_⟩, KpB.map hg2 h.own, hg2⟩
  · have h1 := size_del (k := .string s.toList) ht
    have h2 := cutF_len h.srt s.toList
    rw [h.has, h.num] at h1
    omega
  · rw [findF_cut]
    by_cases e : s.toList = t
    · subst e; rw [has_del_same]; simp
    · rw [if_neg e, has_del_other (ne_str (Ne.symm e)), h.has]
  · rw [findF_cut] at ht'
    by_cases e' : s.toList = t
    · rw [if_pos e'] at ht'; cases ht'
    · rw [if_neg e'] at ht'
      obtain ⟨u, hu, hb⟩ := h.row t e ht'
      exact ⟨u, (AtN.del_other (Ne.symm e')).2 hu, hb.kept hg2 (by
        cases hvo : u.ownBlock with
        | none => exact .inl rfl
        | some k => refine .inr fun e => ?_; injection e with e; have := (hb.lt k hvo).1; have := h.lo; omega)⟩
  · have gone : ∀ v, AtN (D.del (.string s.toList)) s.toList v → v = .slice none 0 0 := fun v hv => by
      unfold AtN at hv
      rw [atKey_del_same] at hv
      exact rawE_inj hv rfl
    by_cases e : t = s.toList <;> by_cases e' : t' = s.toList
    · exact absurd (e.trans e'.symm) hne
    · subst e; rw [gone u hu]; exact .inl rfl
    · subst e'; rw [gone u' hu']; cases u.ownBlock <;> simp [Value.ownBlock]
    · exact h.apart t t' u u' hne ((AtN.del_other e).1 hu) ((AtN.del_other e').1 hu')
/-- A renaming: the file goes ahead of its being put in. -/
theorem FilesAt.ren (h : FilesAt w base f l) (s t : ByteArray) (d : ByteArray) (ty : TypeId) (hd : findF l s.toList = some d) (hs : s.size ≤ maxLen) (ht : t.size ≤ maxLen) (hl : l.length ≤ 1000000) :
    ∃ v w1 w2, (Instr.lookup 71 (.map (some f)) (.string s) true).run Try.prog w = .ok (.tuple #[v, .bool true]) w ∧ (Builtin.delete_ #[71, 9] ty #[.map (some f), .string s]).run Try.prog w = .ok (.tuple #[]) w1 ∧
      (Instr.mapUpdate 71 (.map (some f)) (.string t) v).run Try.prog w1 = .ok () w2 ∧ FilesAt w2 base f (putF (cutF l s.toList) t d) ∧ KpB f w w1 ∧ KpB f w w2 := by
  obtain ⟨D, h⟩ := h
  obtain ⟨v, hrun, hat, hb⟩ := h.lookOk s hs
  rw [hd] at hrun hb
  obtain ⟨w1, hdel, h1, hk1, hg1⟩ := h.del s hs ty
  have hb1 : Byt w1 base v d := hb.kept hg1 (by
    cases hvo : v.ownBlock with
    | none => exact .inl rfl
    | some k => refine .inr fun e => ?_; injection e with e; have := (hb.lt k hvo).1; have := h.lo; omega)
  obtain ⟨w2, hput, hfa, hk⟩ := h1.store (row := none) (w1 := w1) ⟨rfl, rfl, rfl, Nat.le_refl _, fun _ _ _ => rfl⟩ (by simp) t ht (Nat.le_trans (cutF_bytes l s.toList).2 hl) hb1 (fun t' e u hne hfi hu => by
    refine ⟨by cases u.ownBlock <;> simp, ?_⟩
    rw [findF_cut] at hfi
    by_cases e' : s.toList = t'
    · rw [if_pos e'] at hfi; cases hfi
    · exact h.apart t' s.toList u v (Ne.symm e') ((AtN.del_other (Ne.symm e')).1 hu) hat)
  exact ⟨v, w1, w2, hrun, hdel, hput, hfa, hk1, hk1.trans hk⟩
end
end Go.Proofs.Ytkinegapnknhiaa
