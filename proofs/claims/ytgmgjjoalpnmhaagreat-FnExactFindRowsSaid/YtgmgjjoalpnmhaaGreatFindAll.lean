/-
  Several texts in one: Marks, OwnInts, OwnVals, KeyOf, KeySpec, FindMath, Find, Refers, Find2, FindSpec, FindSpec2, MarkText, Mark, MarkX, Trod, Sz.
-/
import Derived.Test.YtgmgjjoalpnmhaaGreatTo
import Derived.Maps.AppendAt
import Derived.Test.YtgmgjjoalpnmhaaGreatEval2
import Derived.Deep.QuietTactic
import Derived.BigQuiet
import Derived.Test.YtgmgjjoalpnmhaaGreatDbImpl2
import Derived.Test.YtgmgjjoalpnmhaaGreatSchemaImpl2
import Derived.Test.YtgmgjjoalpnmhaaGreatSpecDbOk
import Derived.Laws.IdiomStrings
import Derived.Test.YtgmgjjoalpnmhaaGreatTypes
import Derived.Lib.SmallJoins
namespace Go.Proofs.YtgmgjjoalpnmhaaGreat
open Go.RowKit
set_option linter.unusedVariables false

def isSl : Value → Bool
  | .slice .. => true
  | _ => false

/-- Only cells of blocks B .. E - 1 have turned, and of these none that holds a slice. -/
structure Kept (B E : Nat) (w w' : World) : Prop where
  os : w'.os = w.os
  tape : w'.tape = w.tape
  output : w'.output = w.output
  size : w.heap.size ≤ w'.heap.size
  block : ∀ k, k < w.heap.size → (k < B ∨ E ≤ k) → w'.heap[k]? = w.heap[k]?
  cell : ∀ p v, w.cell? p = some v → ∃ v', w'.cell? p = some v' ∧ (isSl v = true → v' = v) ∧ isSl v' = isSl v
  frozen : ∀ p : Addr, p.block < w.heap.size → w'.frozen? p = w.frozen? p

theorem Kept.refl (B E : Nat) (w : World) : Kept B E w w := ⟨rfl, rfl, rfl, Nat.le_refl _, fun _ _ _ => rfl, fun _ v h => ⟨v, h, fun _ => rfl, rfl⟩, fun _ _ => rfl⟩
theorem Kept.trans {B E : Nat} {a b c : World} (h : Kept B E a b) (k : Kept B E b c) : Kept B E a c :=
  ⟨k.os.trans h.os, k.tape.trans h.tape, k.output.trans h.output, Nat.le_trans h.size k.size, fun i hi ho => (k.block i (Nat.lt_of_lt_of_le hi h.size) ho).trans (h.block i hi ho),
   fun p v hp => by
    obtain ⟨v1, h1, h2, h3⟩ := h.cell p v hp
    obtain ⟨v2, k1, k2, k3⟩ := k.cell p v1 h1
    exact ⟨v2, k1, fun hv => by rw [k2 (by rw [h3]; exact hv), h2 hv], k3.trans h3⟩,
   fun p hp => (k.frozen p (Nat.lt_of_lt_of_le hp h.size)).trans (h.frozen p hp)⟩
theorem Kept.below {B E : Nat} {w w' : World} (h : Below w.heap.size w w') : Kept B E w w' :=
  ⟨h.os, h.tape, h.output, h.size, fun k hk _ => h.block k hk, fun p v hp => ⟨v, below_keep h p v hp, fun _ => rfl, rfl⟩, fun p hp => World.frozen?_of_block (w := w) (h.block p.block hp)⟩
theorem Kept.drew {B E : Nat} {a w : World} (h : Kept B E a w) : Kept B E a w.drew := ⟨h.os, h.tape, h.output, h.size, h.block, h.cell, h.frozen⟩
theorem Kept.set {B E : Nat} {a w : World} (h : Kept B E a w) {p : Addr} {v : Value} (hc : a.cell? p = some v) (hn : isSl v = false) (hB : B ≤ p.block) (hE : p.block < E) {u : Value} (hu : isSl u = false) : Kept B E a (w.setCell p u) := by
  refine ⟨h.os, h.tape, h.output, by simpa [World.setCell] using h.size, fun k hk ho => ?_, fun q x hq => ?_, fun q hq => (frozen_setCell w p u q).trans (h.frozen q hq)⟩
  · rw [Below.heap_setCell _ _ _ _ (by omega)]
    exact h.block k hk ho
  · by_cases e : q = p
    · subst e
      rw [hc] at hq
      cases hq
      obtain ⟨v', h1, h2, h3⟩ := h.cell _ _ hc
      exact ⟨u, World.cell?_setCell_same _ _ _ h1, fun hv => absurd (hn.symm.trans hv) (by simp), by rw [hu, hn]⟩
    · obtain ⟨v', h1, h2, h3⟩ := h.cell q x hq
      exact ⟨v', (World.cell?_setCell_other _ _ _ _ (fun hh => e hh.symm)).trans h1, h2, h3⟩
theorem Kept.toBelow {B E G : Nat} {a w w' : World} (h : Below G a w) (k : Kept B E w w') (hG : G ≤ B) (ha : G ≤ w.heap.size) : Below G a w' :=
  ⟨k.os.trans h.os, k.tape.trans h.tape, k.output.trans h.output, Nat.le_trans h.size k.size, fun i hi => (k.block i (by omega) (Or.inl (by omega))).trans (h.block i hi)⟩
theorem Kept.after {B E : Nat} {a b c : World} (k : Kept B E b c) (h : Kept B E a b) : Kept B E a c := h.trans k
theorem Kept.slice {B E : Nat} {w w' : World} (k : Kept B E w w') {p : Addr} {v : Value} (h : w.cell? p = some v) (hs : isSl v = true) : w'.cell? p = some v := by
  obtain ⟨v', h1, h2, -⟩ := k.cell p v h
  rw [h1, h2 hs]
/-- What does not lie in B .. E - 1 reads as it did. -/
theorem Kept.far {B E : Nat} {w w' : World} (k : Kept B E w w') {p : Addr} {v : Value} (hp : p.block < B ∨ E ≤ p.block) (h : w.cell? p = some v) : w'.cell? p = some v :=
  (World.cell?_of_block (w := w) (k.block p.block (cell_lt h) hp)).trans h
theorem Sl.kept {α : Type} {R : Rd α} (hR : Stays R) {sz : Nat} {ok : Nat → Prop} {B E : Nat} {w w' : World} {A : Option Addr} {n : Nat} {ds : List α} (h : Sl R sz ok w A n ds) (hk : Kept B E w w') (ho : ∀ b, ok b → b < B ∨ E ≤ b) : Sl R sz ok w' A n ds :=
  h.stays hR (fun _ h => h) fun p v hb hp => hk.far (ho _ hb) hp

/-- How the shape of an element stays behind marks. -/
def KStays {α : Type} (R : Rd α) : Prop := ∀ (ok : Nat → Prop) (B E : Nat) (w w' : World) (cs cs' : List Value) (d : α), R ok w cs d → Kept B E w w' → cs'.length = cs.length → (∀ (j : Nat) (v : Value), cs[j]? = some v → ∃ v', cs'[j]? = some v' ∧ (isSl v = true → v' = v) ∧ isSl v' = isSl v) → R ok w' cs' d

theorem Sl.shape {α : Type} {R : Rd α} (hR : KStays R) {sz : Nat} {ok : Nat → Prop} {B E : Nat} {w w' : World} {A : Option Addr} {n : Nat} {ds : List α} (h : Sl R sz ok w A n ds) (hk : Kept B E w w') : Sl R sz ok w' A n ds :=
  ⟨h.1, fun hn => by
    obtain ⟨b, off, e, hb, hi⟩ := h.2 hn
    refine ⟨b, off, e, hb, fun i hlt => ?_⟩
    obtain ⟨cs, h1, h2, h3⟩ := hi i hlt
    have hc : ∀ (j : Nat) (v : Value), cs[j]? = some v → ((List.range sz).map fun j => (w'.cell? ⟨b, off + i * sz + j, none⟩).getD undef)[j]? = some ((w'.cell? ⟨b, off + i * sz + j, none⟩).getD undef) := fun j v hv => by
      have hj : j < sz := by obtain ⟨hj, _⟩ := List.getElem?_eq_some_iff.1 hv; omega
      simp [hj]
    refine ⟨(List.range sz).map fun j => (w'.cell? ⟨b, off + i * sz + j, none⟩).getD undef, by simp, hR _ B E _ _ _ _ _ h2 hk (by simp [h1]) fun j v hv => ?_, fun j v hv => ?_⟩
    · obtain ⟨v', k1, k2, k3⟩ := hk.cell _ _ (h3 j v hv)
      exact ⟨v', by rw [hc j v hv, k1]; rfl, k2, k3⟩
    · have hj : j < sz := by obtain ⟨hj, _⟩ := List.getElem?_eq_some_iff.1 hv; simpa using hj
      obtain ⟨v0, hv0⟩ : ∃ v0, cs[j]? = some v0 := ⟨cs[j]'(by omega), List.getElem?_eq_getElem (by omega)⟩
      obtain ⟨v', k1, -⟩ := hk.cell _ _ (h3 j v0 hv0)
      rw [hc j v0 hv0, k1] at hv
      cases hv
      exact k1⟩

/-- Elements of m cells, none of which holds a slice: m marks. -/
def ShF (m : Nat) : Rd Nat := fun _ _ cs d => cs.length = m ∧ (∀ (j : Nat) (v : Value), cs[j]? = some v → isSl v = false) ∧ d = m
theorem ShF.keeps (m : Nat) : KStays (ShF m) := fun _ _ _ _ _ _ cs' _ ⟨h1, h2, h3⟩ _ hl hc => ⟨hl.trans h1, fun j v hv => by
  have hj : j < cs'.length := (List.getElem?_eq_some_iff.1 hv).1
  obtain ⟨v', k1, _, k3⟩ := hc j _ (List.getElem?_eq_getElem (by omega))
  rw [hv] at k1
  cases k1
  rw [k3]
  exact h2 j _ (List.getElem?_eq_getElem (by omega)), h3⟩
theorem Sl.toSh {α β : Type} {R : Rd α} {R' : Rd β} {f : α → β} {sz : Nat} {ok : Nat → Prop} {w : World} {A : Option Addr} {n : Nat} {ds : List α} (h : Sl R sz ok w A n ds) {p : α → Prop} (hR : ∀ ok w cs d, p d → R ok w cs d → R' ok w cs (f d)) (hp : ∀ d ∈ ds, p d) : Sl R' sz ok w A n (ds.map f) :=
  ⟨by simpa using h.1, fun hn => by
    obtain ⟨b, off, e, hb, hi⟩ := h.2 hn
    refine ⟨b, off, e, hb, fun i hlt => ?_⟩
    obtain ⟨cs, h1, h2, h3⟩ := hi i (by simpa using hlt)
    exact ⟨cs, h1, by simpa using hR _ _ _ _ (hp _ (List.getElem_mem (by simpa using hlt))) h2, h3⟩⟩
theorem szL_mem {α : Type} (f : α → Nat) (l : List α) (y : α) (h : y ∈ l) : f y ≤ szL f l := by
  obtain ⟨i, hi, rfl⟩ := List.mem_iff_getElem.1 h
  have := sum_mem_le f l i hi
  unfold szL
  omega
theorem sum_le_of {α : Type} {f g : α → Nat} (c : Nat) (h : ∀ x, f x ≤ c * (g x + 1)) : ∀ l : List α, (l.map f).sum ≤ c * szL g l
  | [] => by simp [szL]
  | x :: l => by
    have h1 := sum_le_of c h l
    have h2 := h x
    simp only [szL, List.map_cons, List.sum_cons, List.length_cons] at *
    have e : c * (l.length + 1 + (g x + (l.map g).sum)) = c * (l.length + (l.map g).sum) + c * (g x + 1) := by rw [← Nat.mul_add]; congr 1; omega
    omega
theorem sum_ones {α : Type} (l : List α) : (l.map fun _ => 1).sum = l.length := by
  induction l with
  | nil => rfl
  | cons x l ih => rw [List.map_cons, List.sum_cons, ih, List.length_cons]; omega
theorem sum_take_n (l : List Nat) (k : Nat) (h : k < l.length) : (l.take (k + 1)).sum = (l.take k).sum + l[k] := by
  rw [List.take_succ_eq_append_getElem h, List.sum_append]; simp
theorem sum_take_n_le (l : List Nat) (k : Nat) : (l.take k).sum ≤ l.sum := by
  have e : l.sum = (l.take k).sum + (l.drop k).sum := by rw [← List.sum_append, List.take_append_drop]
  omega
/-- What lies in blocks that may be marked. -/
def mayMark (B E : Nat) (w : World) (ok : Nat → Prop) : Prop := ∀ b, ok b → B ≤ b ∧ b < E ∧ b < w.heap.size ∧ ∀ off, w.frozen? ⟨b, off, none⟩ = false
theorem mayMark.kept {B E B' E' : Nat} {w w' : World} {ok : Nat → Prop} (h : mayMark B E w ok) (hk : Kept B' E' w w') : mayMark B E w' ok := fun b hb => by
  obtain ⟨h1, h2, h3, h4⟩ := h b hb
  exact ⟨h1, h2, Nat.lt_of_lt_of_le h3 hk.size, fun off => (hk.frozen ⟨b, off, none⟩ h3).trans (h4 off)⟩
theorem mayMark.below {B E : Nat} {w w' : World} {ok : Nat → Prop} (h : mayMark B E w ok) (hk : Below w.heap.size w w') : mayMark B E w' ok := h.kept (Kept.below (B := 0) (E := 0) hk)
theorem mayMark_okF {G E : Nat} {w : World} (hE : w.heap.size ≤ E) : mayMark G E w (okF G w) := fun b hb => ⟨hb.1, by have := hb.2.1; omega, hb.2.1, hb.2.2⟩
end Go.Proofs.YtgmgjjoalpnmhaaGreat
namespace Go.Proofs.YtgmgjjoalpnmhaaGreat
open Go.RowKit
set_option linter.unusedVariables false

theorem infoIntI : (Tryz.prog.info? 2).map (fun i => (i.zero, i.size, i.bytes)) = some (some (.int .i64 0), 1, 8) := by kernel_rfl

/-- v is a slice of the call's own that holds the numbers xs. -/
def OwnI (w : World) (base : Nat) (v : Value) (xs : List Int) : Prop := w.ownsRow base 2 1 v xs.length (xs.map (Value.int .i64))
theorem OwnI.nil (w : World) (base : Nat) : OwnI w base (.slice none 0 0) [] := World.ownsRow_nil _ _ _ _
theorem OwnI.below {w w' : World} {base : Nat} {v : Value} {xs : List Int} (h : OwnI w base v xs) (hb : Below w.heap.size w w') : OwnI w' base v xs := by
  refine ⟨h.1, ?_⟩
  rcases h.2 with h | ⟨g, cap, cur, rfl, h1, h2, h3⟩
  · exact .inl h
  · exact .inr ⟨g, cap, cur, rfl, h1, (hb.block g (lt_of_block h2)).trans h2, h3⟩
/-- An empty list that was laid as such. -/
theorem OwnI.lit (w : World) {base : Nat} (hb : base ≤ w.heap.size) : OwnI (w.alloc (.cells #[] 2)) base (.slice (some ⟨w.heap.size, 0, none⟩) 0 0) [] :=
  ⟨rfl, .inr ⟨w.heap.size, 0, #[], rfl, hb, Go.heap_alloc_last w _, Nat.le_refl _, by simp [maxLen], rfl, rfl⟩⟩
theorem OwnI.sl {w : World} {base : Nat} {v : Value} {xs : List Int} (h : OwnI w base v xs) : ∃ A c, v = .slice A xs.length c ∧ xs.length ≤ c ∧ c ≤ maxLen ∧ Sl IntR 1 (okF base w) w A xs.length xs := by
  rcases h.2 with ⟨rfl, hn⟩ | ⟨g, cap, cur, rfl, h1, h2, h3, h4, h5, h6⟩
  · exact ⟨none, 0, by rw [hn], by omega, by simp [maxLen], rfl, fun h => by omega⟩
  · refine ⟨_, cap, rfl, h3, h4, rfl, fun hn => ⟨g, 0, rfl, ⟨h1, lt_of_block h2, fun off => by simp [World.frozen?, h2]⟩, fun i hi => ⟨[.int .i64 xs[i]], rfl, rfl, fun j x hx => ?_⟩⟩⟩
    have hj : j = 0 := by have := (List.getElem?_eq_some_iff.1 hx).1; simpa using this
    subst hj
    obtain rfl := Option.some.inj hx
    rw [cell_of_row _ _ _ _ _ _ h2, Nat.zero_add, Nat.mul_one, Nat.add_zero]
    have h7 : (cur.toList.take (xs.length * 1))[i]? = some (.int .i64 xs[i]) := by rw [h6, List.getElem?_map, List.getElem?_eq_getElem hi]; rfl
    rw [List.getElem?_take, if_pos (by omega)] at h7
    rw [← Array.getElem?_toList]
    exact h7
theorem OwnI.block_lt {w : World} {base : Nat} {v : Value} {xs : List Int} (h : OwnI w base v xs) : ∀ k, v.ownBlock = some k → base ≤ k ∧ k < w.heap.size := World.ownsRow.lt h
/-- What append of one number leaves. -/
theorem OwnI.app {w w' : World} {base : Nat} {v v' : Value} {xs : List Int} {x : Int} {o : Obj} (h : OwnI w base v xs) (hb : base ≤ w.heap.size)
    (h' : w'.ownsRow base 2 1 v' (xs.length + 1) (xs.map (Value.int .i64) ++ [.int .i64 x])) (hg : (w.alloc o).grownBy w' v.ownBlock) : OwnI w' base v' (xs ++ [x]) ∧ Below base w w' :=
  ⟨by unfold OwnI; rw [List.length_append, List.map_append]; exact h', ((Below.refl base w).alloc hb o).grown hg (by simp; omega) fun k hk => (h.block_lt k hk).1⟩
end Go.Proofs.YtgmgjjoalpnmhaaGreat
namespace Go.Proofs.YtgmgjjoalpnmhaaGreat
open Go.RowKit
set_option linter.unusedVariables false
set_option linter.unusedSimpArgs false

theorem flat_get {sz : Nat} : ∀ (l : List (List Value)) (i j : Nat) (hi : i < l.length) (hj : j < sz), (∀ c ∈ l, c.length = sz) → l.flatten[i * sz + j]? = (l[i])[j]?
  | [], i, j, hi, _, _ => by simp at hi
  | c :: cs, i, j, hi, hj, hz => by
    have hc := hz c (by simp)
    cases i with
    | zero => simp only [List.getElem_cons_zero, List.flatten_cons, Nat.zero_mul, Nat.zero_add]; rw [List.getElem?_append_left (by omega)]
    | succ i =>
      simp only [List.getElem_cons_succ]
      rw [List.flatten_cons, List.getElem?_append_right (by rw [hc, Nat.add_mul]; omega), hc, show (i + 1) * sz + j - sz = i * sz + j by rw [Nat.add_mul]; omega]
      exact flat_get cs i j (by simpa using hi) hj fun d hd => hz d (by simp [hd])
theorem flat_len {sz : Nat} : ∀ (l : List (List Value)), (∀ c ∈ l, c.length = sz) → l.flatten.length = l.length * sz
  | [], _ => by simp
  | c :: cs, h => by
    rw [List.flatten_cons, List.length_append, h c (by simp), flat_len cs fun d hd => h d (by simp [hd]), List.length_cons, Nat.add_mul]; omega

/-- v is a slice of the call's own that holds the structs xs, without slices within, sz cells each. -/
def OwnG {α : Type} (T : TypeId) (sz : Nat) (f : α → List Value) (w : World) (base : Nat) (v : Value) (xs : List α) : Prop := w.ownsRow base T sz v xs.length ((xs.map f).flatten)
section
variable {α : Type} {T : TypeId} {sz : Nat} {f : α → List Value}
theorem OwnG.nil (w : World) (base : Nat) : OwnG T sz f w base (.slice none 0 0) [] := World.ownsRow_nil _ _ _ _
theorem OwnG.below {w w' : World} {base : Nat} {v : Value} {xs : List α} (h : OwnG T sz f w base v xs) (hb : Below w.heap.size w w') : OwnG T sz f w' base v xs := by
  refine ⟨h.1, ?_⟩
  rcases h.2 with h | ⟨g, cap, cur, rfl, h1, h2, h3⟩
  · exact .inl h
  · exact .inr ⟨g, cap, cur, rfl, h1, (hb.block g (lt_of_block h2)).trans h2, h3⟩
theorem OwnG.lit (w : World) {base : Nat} (hb : base ≤ w.heap.size) : OwnG T sz f (w.alloc (.cells #[] T)) base (.slice (some ⟨w.heap.size, 0, none⟩) 0 0) ([] : List α) :=
  ⟨by simp, .inr ⟨w.heap.size, 0, #[], rfl, hb, Go.heap_alloc_last w _, Nat.le_refl _, by simp [maxLen], by simp, by simp⟩⟩
theorem OwnG.sl (hf : ∀ d, (f d).length = sz) {w : World} {base : Nat} {v : Value} {xs : List α} (h : OwnG T sz f w base v xs) : ∃ A c, v = .slice A xs.length c ∧ xs.length ≤ c ∧ c ≤ maxLen ∧ Sl (FlatR f) sz (okF base w) w A xs.length xs := by
  rcases h.2 with ⟨rfl, hn⟩ | ⟨g, cap, cur, rfl, h1, h2, h3, h4, h5, h6⟩
  · exact ⟨none, 0, by rw [hn], by omega, by simp [maxLen], rfl, fun h => by omega⟩
  · refine ⟨_, cap, rfl, h3, h4, rfl, fun hn => ⟨g, 0, rfl, ⟨h1, lt_of_block h2, fun off => by simp [World.frozen?, h2]⟩, fun i hi => ⟨f xs[i], hf _, rfl, fun j x hx => ?_⟩⟩⟩
    have hj : j < sz := by have := (List.getElem?_eq_some_iff.1 hx).1; rw [hf] at this; exact this
    rw [cell_of_row _ _ _ _ _ _ h2, Nat.zero_add]
    have hlt : i * sz + j < xs.length * sz := by have : (i + 1) * sz ≤ xs.length * sz := Nat.mul_le_mul_right _ hi; rw [Nat.add_mul] at this; omega
    have h7 := flat_get (sz := sz) (xs.map f) i j (by simpa using hi) hj (fun c hc => by obtain ⟨d, _, rfl⟩ := List.mem_map.1 hc; exact hf d)
    rw [List.getElem_map, hx, ← h6, List.getElem?_take, if_pos hlt] at h7
    rw [← Array.getElem?_toList]
    exact h7
theorem OwnG.block_lt {w : World} {base : Nat} {v : Value} {xs : List α} (h : OwnG T sz f w base v xs) : ∀ k, v.ownBlock = some k → base ≤ k ∧ k < w.heap.size := World.ownsRow.lt h
/-- What append of one struct leaves. -/
theorem OwnG.app {w w' : World} {base : Nat} {v v' : Value} {xs : List α} {x : α} {o : Obj} (h : OwnG T sz f w base v xs) (hb : base ≤ w.heap.size)
    (h' : w'.ownsRow base T sz v' (xs.length + 1) ((xs.map f).flatten ++ f x)) (hg : (w.alloc o).grownBy w' v.ownBlock) : OwnG T sz f w' base v' (xs ++ [x]) ∧ Below base w w' :=
  ⟨by unfold OwnG; rw [List.length_append, List.map_append, List.flatten_append]; simpa using h', ((Below.refl base w).alloc hb o).grown hg (by simp; omega) fun k hk => (h.block_lt k hk).1⟩
end
theorem cells_new (w : World) (l : List Value) (t : TypeId) : ∀ j u, l[j]? = some u → (w.alloc (.cells l.toArray t)).cell? ((⟨w.heap.size, 0, none⟩ : Addr).add j) = some u := by
  intro j u hj
  rw [addr_add, Nat.zero_add, cell_of_row _ _ _ _ _ _ (Go.heap_alloc_last w _)]
  simpa using hj

theorem cells_newAt (w : World) (l : List Value) (t : TypeId) {g : Nat} (hg : g = w.heap.size) : ∀ j u, l[j]? = some u → (w.alloc (.cells l.toArray t)).cell? ((⟨g, 0, none⟩ : Addr).add j) = some u := by
  subst hg
  exact cells_new w l t

/-- A list of the call's own, and a flag. -/
def MadeF {α : Type} (R : Rd α) (sz : Nat) (xs : List α) (b : Bool) (w : World) (e : Ending) (w' : World) : Prop := ∃ A c, e = .returned (.tuple #[.slice A xs.length c, .bool b]) ∧ xs.length ≤ c ∧ Sl R sz (okF w.heap.size w') w' A xs.length xs ∧ Below w.heap.size w w'

def zeroVl : Vl := ⟨0, 0, ⟨#[]⟩⟩
/-- The values of a row in some columns. -/
def keyL (cols : List Int) (vals : List Vl) : List Vl := cols.map fun c => (vals[c.toNat]?).getD zeroVl
def inV (vals : List Vl) (c : Int) : Bool := decide (0 ≤ c) && decide (c < vals.length)
def knownL (l : List Vl) : Bool := l.all fun v => !(v.k == 0)
def keyOk (cols : List Int) (vals : List Vl) : Bool := rowB vals && cols.all (inV vals)
def keyOf (cols : List Int) (vals : List Vl) : List Vl := if keyOk cols vals then keyL cols vals else []
def keyFl (cols : List Int) (vals : List Vl) : Bool := keyOk cols vals && knownL (keyL cols vals)
theorem keyOf_len (cols : List Int) (vals : List Vl) : (keyOf cols vals).length ≤ cols.length := by unfold keyOf; split <;> simp [keyL]
theorem inV_nat {vals : List Vl} {c : Int} (h : inV vals c = true) : ∃ m : Nat, c = m ∧ m < vals.length := by
  simp only [inV, Bool.and_eq_true, decide_eq_true_eq] at h
  exact ⟨c.toNat, by omega, by omega⟩
theorem keyL_take {cols : List Int} {vals : List Vl} {k m : Nat} (h : k < cols.length) (hm : cols[k] = m) (hv : m < vals.length) : (keyL cols vals).take (k + 1) = (keyL cols vals).take k ++ [vals[m]] := by
  rw [List.take_succ_eq_append_getElem (by simpa [keyL] using h)]
  congr 2
  simp [keyL, hm, hv]
theorem known_take {l m : List Vl} {v : Vl} (h : m = l ++ [v]) : knownL m = (knownL l && !(v.k == 0)) := by subst h; simp [knownL]
end Go.Proofs.YtgmgjjoalpnmhaaGreat
namespace Go.Proofs.YtgmgjjoalpnmhaaGreat
open Go.RowKit Go.Maps
set_option linter.unusedVariables false
set_option linter.unusedSimpArgs false

theorem infoValK : (Tryz.prog.info? 101).map (fun i => (i.zero, i.size, i.bytes)) = some (some (.agg #[.int .i64 0, .int .i64 0, .string ⟨#[]⟩]), 3, 32) := by kernel_rfl
def OwnV (w : World) (base : Nat) (v : Value) (xs : List Vl) : Prop := OwnG 101 3 Vl.cells w base v xs

theorem implPlaceK {p nc : Int} {b : Bool} (h : (decide (0 ≤ p) && decide (p < nc)) = b) (w : World) : Calls Tryz.prog 68 #[.int .i64 p, .int .i64 nc] w fun e w' => e = .returned (.bool b) ∧ w = w' := by
  subst h
  by_cases h0 : 0 ≤ p
  · have h0' : decide (0 ≤ p) = true := decide_eq_true h0
    go_enter Tryz.func68, Tryz.ntmps68
    go_wp2
    go_ret
    exact ⟨by simp [h0'], rfl⟩
  · have h0' : decide (0 ≤ p) = false := decide_eq_false h0
    go_enter Tryz.func68, Tryz.ntmps68
    go_wp2
    go_ret
    exact ⟨by simp [h0'], rfl⟩
theorem not_all_of {cols : List Int} {vals : List Vl} {k : Nat} (h : k < cols.length) (hf : inV vals cols[k] = false) : keyOk cols vals = false := by
  unfold keyOk
  rw [Bool.and_eq_false_iff]
  refine Or.inr ?_
  rw [List.all_eq_false]
  exact ⟨cols[k], List.getElem_mem h, by simp [hf]⟩

set_option maxRecDepth 100000 in
set_option maxHeartbeats 2000000 in
theorem implKeyOf (AC AV : Option Addr) (nC cC nV cV : Nat) (cols : List Int) (vals : List Vl) (ok ok' : Nat → Prop) (w : World) (hc : Sl IntR 1 ok w AC nC cols) (hv : Sl VlR 3 ok' w AV nV vals) (hcn : nC ≤ 1048576) (hvn : nV ≤ 1048576) :
    Calls Tryz.prog 177 #[.slice AC nC cC, .slice AV nV cV] w (MadeF VlR 3 (keyOf cols vals) (keyFl cols vals) w) := by
  obtain rfl : cols.length = nC := hc.1
  obtain rfl : vals.length = nV := hv.1
  cases hB : rowB vals
  · have HB := Lib.hid hB
    have HK := Lib.hid (show keyOf cols vals = [] ∧ keyFl cols vals = false by unfold keyOf keyFl keyOk; rw [hB]; exact ⟨rfl, rfl⟩)
    clear hB
    go_enter Tryz.func177, Tryz.ntmps177
    go_wp2_with fail
    refine (implSeenOk AV vals.length cV vals _ (Sl.cellz (fun _ => rfl) hv) (by unfold maxLen; omega)).mono ?_
    rintro e w1 ⟨rfl, hb1⟩
    rw [HB.out]
    go_wp2_with fail
    go_ret2
    exact ⟨none, 0, by rw [HK.out.1, HK.out.2]; rfl, by rw [HK.out.1]; exact Nat.le_refl _, by rw [HK.out.1]; exact ⟨rfl, fun h => by simp at h⟩, hb1⟩
  have HB := Lib.hid hB
  clear hB
  have hmk := fun w => mk_rows (P := Tryz.prog) Tryz.underlying48 infoValK (by omega) cols.length hcn w
  go_enter Tryz.func177, Tryz.ntmps177
  go_wp2_with fail
  refine (implSeenOk AV vals.length cV vals _ (Sl.cellz (fun _ => rfl) hv) (by unfold maxLen; omega)).mono ?_
  rintro e w1 ⟨rfl, hb1⟩
  rw [HB.out]
  go_wp2_with fail
  have row := Row.new w1 101 (madeCells #[.int .i64 0, .int .i64 0, .string ⟨#[]⟩] (cols.length * 3))
  have hb0 := hb1.alloc hb1.size (.cells (madeCells #[.int .i64 0, .int .i64 0, .string ⟨#[]⟩] (cols.length * 3)) 101)
  have hsz := size_madeCells #[.int .i64 0, .int .i64 0, .string ⟨#[]⟩] (cols.length * 3)
  have hg : w.heap.size ≤ w1.heap.size := hb1.size
  have HG := Lib.hid hg
  generalize hgw : w1.heap.size = g at *
  generalize w1.alloc (.cells (madeCells #[.int .i64 0, .int .i64 0, .string ⟨#[]⟩] (cols.length * 3)) 101) = x at *
  generalize madeCells #[.int .i64 0, .int .i64 0, .string ⟨#[]⟩] (cols.length * 3) = cs0 at *
  have HZ := Lib.hid hsz
  have HL := Lib.hid (show (keyL cols vals).length = cols.length by simp [keyL])
  clear hmk hsz hg hgw hb1
  go_loopw [7, 18] (fun kn i wr => ∃ (k : Nat) (b : Bool) (cs : Array Value), k ≤ cols.length ∧ i = .int .i64 k ∧ kn = .bool b ∧ Hid (b = knownL ((keyL cols vals).take k)) ∧ Row wr g 101 cs ∧ Hid (cs.size = cols.length * 3) ∧ Hid (LaidR VlR 3 (okF (g + 1) wr) wr cs k (keyL cols vals)) ∧ Hid ((cols.take k).all (inV vals) = true) ∧ Hid (g + 1 ≤ wr.heap.size) ∧ Below w.heap.size w wr) (fun _ i _ => cols.length - (intOf i).toNat)
  case atStart => exact ⟨0, true, cs0, by omega, rfl, rfl, Lib.hid rfl, row, HZ, Lib.hid (LaidR.zero _ _ _ _ _ _), Lib.hid rfl, Lib.hid (lt_of_block row), hb0⟩
  case round =>
    clear hb0 row
    obtain ⟨k, kb, cs, hk, rfl, rfl, hkb, hrow, hcs, hlaid, hall, hgw, hb⟩ := hrel
    by_cases hlt : k < cols.length
    · obtain ⟨b, off, -, rfl, q0⟩ := IntR.at_ (hc.below IntR.stays hb) hlt
      have i0 : (0 : Int) ≤ k := by omega
      have i1 : (k : Int) < cols.length := by omega
      cases hin : inV vals cols[k]
      · have HK := Lib.hid (show keyOf cols vals = [] ∧ keyFl cols vals = false by unfold keyOf keyFl; rw [not_all_of hlt hin]; exact ⟨rfl, rfl⟩)
        have HI := Lib.hid (show (decide (0 ≤ cols[k]) && decide (cols[k] < (vals.length : Int))) = false from hin)
        clear hin
        go_wp2_with fail
        refine (implPlaceK HI.out _).mono ?_
        rintro e w2 ⟨rfl, rfl⟩
        go_wp2_with fail
        go_ret2
        exact ⟨none, 0, by rw [HK.out.1, HK.out.2]; rfl, by rw [HK.out.1]; exact Nat.le_refl _, by rw [HK.out.1]; exact ⟨rfl, fun h => by simp at h⟩, hb⟩
      · obtain ⟨m, hm, hmv⟩ := inV_nat hin
        have HT := Lib.hid (keyL_take hlt hm hmv)
        have HA := Lib.hid (show (cols.take (k + 1)).all (inV vals) = true by rw [List.take_succ_eq_append_getElem hlt, List.all_append, hall.out]; simp [hin])
        have HI := Lib.hid (show (decide (0 ≤ (m : Int)) && decide ((m : Int) < (vals.length : Int))) = true by rw [← hm]; exact hin)
        rw [hm] at q0
        obtain ⟨bv, offv, -, rfl, y0, y1, y2⟩ := VlR.at_ (hv.below VlR.stays hb) hmv
        have hsz1 : k * 3 + 3 ≤ cs.size := by rw [hcs.out]; omega
        have q : ∀ j, j < 3 → wr.cell? ⟨g, k * 3 + j, none⟩ = some (cs[k * 3 + j]?.getD undef) := fun j hj => by
          rw [hrow.cell, Array.getElem?_eq_getElem (by omega)]; rfl
        have z0 : wr.cell? ⟨g, k * 3, none⟩ = some (cs[k * 3]?.getD undef) := q 0 (by omega)
        have z1 := q 1 (by omega)
        have z2 := q 2 (by omega)
        have f0 := hrow.free (k * 3)
        have f1 := hrow.free (k * 3 + 1)
        have f2 := hrow.free (k * 3 + 2)
        have j0 : (0 : Int) ≤ m := by omega
        have j1 : (m : Int) < vals.length := by omega
        have HR := Lib.hid hrow
        have HM := Lib.hid hm
        have hLk : k < (keyL cols vals).length := by rw [HL.out]; exact hlt
        have HKM := Lib.hid (show (keyL cols vals)[k] = vals[m] by simp [keyL, hm, hmv])
        have HS := Lib.hid hsz1
        clear q hrow hm hin hall hsz1
        generalize hvm : vals[m] = v at *
        have HVM := Lib.hid hvm
        clear hvm
        cases kb
        · have HB2 := Lib.hid (show false = knownL ((keyL cols vals).take (k + 1)) by rw [known_take HT.out, ← hkb.out]; rfl)
          clear hkb
          go_wp2_with fail
          refine (implPlaceK HI.out _).mono ?_
          rintro e w2 ⟨rfl, rfl⟩
          go_wp2_with fail
          go_roundw
          case rel => exact ⟨k + 1, _, _, by omega, by go_num, rfl, HB2, ((HR.out.set _ _).set _ _).set _ _, Lib.hid (by simp [hcs.out]), Lib.hid ((((hlaid.out.setF VlR.stays (by simp) _).setF VlR.stays (by simp) _).setF VlR.stays (by simp) _).more hLk (c := [.int .i64 v.k, .int .i64 v.n, .string v.s]) rfl (by rw [HKM.out]; rfl) (hold3 cs k _ _ _) (fresh3 cs k _ _ _ HS.out)), HA, Lib.hid (by simpa using hgw.out), ((hb.setCell (by simpa using HG.out) _).setCell (by simpa using HG.out) _).setCell (by simpa using HG.out) _⟩
          case measure => simp [intOf]; omega
        · have HB2 := Lib.hid (show (v.k != 0) = knownL ((keyL cols vals).take (k + 1)) by rw [known_take HT.out, ← hkb.out]; rfl)
          clear hkb
          go_wp2_with fail
          refine (implPlaceK HI.out _).mono ?_
          rintro e w2 ⟨rfl, rfl⟩
          go_wp2_with fail
          go_roundw
          case rel => exact ⟨k + 1, _, _, by omega, by go_num, rfl, HB2, ((HR.out.set _ _).set _ _).set _ _, Lib.hid (by simp [hcs.out]), Lib.hid ((((hlaid.out.setF VlR.stays (by simp) _).setF VlR.stays (by simp) _).setF VlR.stays (by simp) _).more hLk (c := [.int .i64 v.k, .int .i64 v.n, .string v.s]) rfl (by rw [HKM.out]; rfl) (hold3 cs k _ _ _) (fresh3 cs k _ _ _ HS.out)), HA, Lib.hid (by simpa using hgw.out), ((hb.setCell (by simpa using HG.out) _).setCell (by simpa using HG.out) _).setCell (by simpa using HG.out) _⟩
          case measure => simp [intOf]; omega
    · obtain rfl : k = cols.length := by omega
      have hok : keyOk cols vals = true := by
        have h1 := hall.out
        rw [List.take_of_length_le (Nat.le_refl _)] at h1
        unfold keyOk
        rw [HB.out, h1]; rfl
      have hsl := (sl_of_laid (ok := okF w.heap.size _) hrow ⟨HG.out, hgw.out, fun off => hrow.free off⟩ (fun i hi hlt' => by
        obtain ⟨c', h1, h2, h3⟩ := hlaid.out i hi hlt'
        exact ⟨c', h1, VlR.stays _ _ _ _ _ _ h2 (fun b hb' => hb'.mono (Nat.le_succ_of_le HG.out)) (fun p v _ hp => hp), h3⟩) (Nat.le_of_eq HL.out))
      have HK := Lib.hid (show keyOf cols vals = keyL cols vals by unfold keyOf; rw [hok]; rfl)
      have HF := Lib.hid (show keyFl cols vals = kb by
        have h1 := hkb.out
        rw [List.take_of_length_le (Nat.le_of_eq HL.out)] at h1
        unfold keyFl; rw [hok, h1]; rfl)
      have HSL := Lib.hid hsl
      clear hok hsl
      go_wp2_with fail
      go_ret2
      exact ⟨some ⟨g, 0, none⟩, cols.length, by rw [HK.out, HF.out, HL.out]; rfl, by rw [HK.out, HL.out]; exact Nat.le_refl _, by rw [HK.out]; exact HSL.out, hb⟩
end Go.Proofs.YtgmgjjoalpnmhaaGreat
namespace Go.Proofs.YtgmgjjoalpnmhaaGreat
open Go.RowKit Go.Maps
set_option linter.unusedVariables false
set_option linter.unusedSimpArgs false

theorem specInK {n lo hi : Int} {b : Bool} (h : (decide (lo ≤ n) && decide (n ≤ hi)) = b) (w : World) :
    Calls Tryz.prog 64 #[.int .i64 n, .int .i64 lo, .int .i64 hi] w fun e w' => e = .returned (.bool b) ∧ w = w' := by
  subst h
  by_cases h0 : lo ≤ n
  · have h0' : decide (lo ≤ n) = true := decide_eq_true h0
    go_enter Tryz.func64, Tryz.ntmps64
    go_wp2
    go_ret
    exact ⟨by simp [h0'], rfl⟩
  · have h0' : decide (lo ≤ n) = false := decide_eq_false h0
    go_enter Tryz.func64, Tryz.ntmps64
    go_wp2
    go_ret
    exact ⟨by simp [h0'], rfl⟩

theorem grown_row {w w' : World} {row : Option Nat} (hg : w.grownBy w' row) {g : Nat} {T : TypeId} {cs : Array Value} (h : Row w g T cs) (hne : ∀ k, row = some k → k ≠ g) : Row w' g T cs :=
  (hg.block g (lt_of_block h) (fun e => hne g e.symm rfl)).trans h

set_option maxRecDepth 100000 in
set_option maxHeartbeats 2000000 in
theorem specL4Key (AC AV : Option Addr) (nC cC nV cV : Nat) (cols : List Int) (vals : List Vl) (ok ok' : Nat → Prop) (w : World) (hc : Sl IntR 1 ok w AC nC cols) (hv : Sl VlR 3 ok' w AV nV vals) (hcn : nC ≤ 1048576) (hvn : nV ≤ 1048576) (hall : cols.all (inV vals) = true) :
    Calls Tryz.prog 103 #[.slice AC nC cC, .slice AV nV cV] w (MadeF VlR 3 (keyL cols vals) (knownL (keyL cols vals)) w) := by
  obtain rfl : cols.length = nC := hc.1
  obtain rfl : vals.length = nV := hv.1
  obtain ⟨i0, hi, hz0, hz1, hz2⟩ := info_parts infoValK
  have H1 := Lib.hid hi
  have H2 := Lib.hid hz0
  have H3 := Lib.hid hz1
  have H4 := Lib.hid hz2
  have HALL := Lib.hid hall
  have HL := Lib.hid (show (keyL cols vals).length = cols.length by simp [keyL])
  clear hi hz0 hz1 hz2 hall
  have hb0 := (Below.refl w.heap.size w).alloc (Nat.le_refl _) (.cells #[] 101)
  have ho0 : Hid (OwnV _ w.heap.size _ []) := Lib.hid (OwnG.lit (T := 101) (sz := 3) (f := Vl.cells) w (Nat.le_refl w.heap.size))
  go_enter Tryz.func103, Tryz.ntmps103
  go_wp2_with fail
  generalize w.alloc (.cells #[] 101) = z0 at *
  go_loopw [6, 7, 8] (fun v kn i wr => ∃ (k : Nat) (b : Bool), k ≤ cols.length ∧ i = .int .i64 k ∧ kn = .bool b ∧ Hid (b = knownL ((keyL cols vals).take k)) ∧ Hid (OwnV wr w.heap.size v ((keyL cols vals).take k)) ∧ Below w.heap.size w wr) (fun _ _ i _ => cols.length - (intOf i).toNat)
  case atStart => exact ⟨0, true, by omega, rfl, rfl, Lib.hid rfl, ho0, hb0⟩
  case round =>
    clear hb0 ho0
    obtain ⟨k, kb, hk, rfl, rfl, hkb, hown, hb⟩ := hrel
    by_cases hlt : k < cols.length
    · obtain ⟨b, off, -, rfl, q0⟩ := IntR.at_ (hc.below IntR.stays hb) hlt
      have i0' : (0 : Int) ≤ k := by omega
      have i1 : (k : Int) < cols.length := by omega
      obtain ⟨m, hm, hmv⟩ := inV_nat (List.all_eq_true.1 HALL.out _ (List.getElem_mem hlt))
      have HT := Lib.hid (keyL_take hlt hm hmv)
      rw [hm] at q0
      obtain ⟨bv, offv, -, rfl, y0, y1, y2⟩ := VlR.at_ (hv.below VlR.stays hb) hmv
      have j0 : (0 : Int) ≤ m := by omega
      have j1 : (m : Int) < vals.length := by omega
      have HLK := Lib.hid (show ((keyL cols vals).take k).length = k by rw [List.length_take, HL.out]; omega)
      clear hm
      generalize hvm : vals[m] = v at *
      generalize hxs : (keyL cols vals).take k = xs at *
      have HVM := Lib.hid hvm
      have HXS := Lib.hid hxs
      clear hvm hxs
      have hbx := hb.alloc hb.size (.cells #[.int .i64 v.k, .int .i64 v.n, .string v.s] 101)
      have hlb := (Below.refl wr.heap.size wr).alloc (Nat.le_refl _) (.cells #[.int .i64 v.k, .int .i64 v.n, .string v.s] 101)
      have hoz := Lib.hid (OwnG.below hown.out hlb)
      have rb := Row.new wr 101 #[.int .i64 v.k, .int .i64 v.n, .string v.s]
      have hne := Lib.hid (fun j hj => Nat.ne_of_lt (OwnG.block_lt hown.out j hj).2)
      clear hlb hown
      have hRB := Lib.hid rb
      clear rb
      cases kb
      · have HB2 := Lib.hid (show false = knownL ((keyL cols vals).take (k + 1)) by rw [known_take HT.out, ← hkb.out]; rfl)
        clear hkb
        go_wp2_with (at_builtin; refine wpList_append_own _ rfl _ _ 48 rfl w.heap.size 101 i0 (.agg #[.int .i64 0, .int .i64 0, .string ⟨#[]⟩]) 3 32 Tryz.underlying48 H1.out H2.out H3.out H4.out rfl (by decide) _ _ _ rfl (World.ownsRow.alloc hoz.out _) ⟨_, 0, none⟩ 1 1 (Vl.cells v) rfl rfl ?c1 ?c2 ?c3 ?c4 ?c5 ?_)
        case c1 => exact cells_newAt _ (Vl.cells v) _ (by simp)
        case c2 => intro u hu; simp [Vl.cells] at hu; rcases hu with rfl | rfl | rfl <;> rfl
        case c3 => have := HLK.out; unfold maxLen; omega
        case c4 => have := HLK.out; omega
        case c5 => have := hbx.size; simp at this ⊢; omega
        intro v' w3 hown3 hgrow _
        have R := Lib.hid (OwnG.app hoz.out hbx.size hown3 hgrow)
        have rb3 := grown_row hgrow (hRB.out.alloc _) hne.out
        clear hown3 hgrow hoz hRB
        obtain ⟨⟨x0, x1, x2⟩, -⟩ := rb3.three
        go_wp2_with fail
        go_roundw
        case rel => exact ⟨k + 1, false, by omega, by go_num, rfl, HB2, Lib.hid (by rw [HT.out]; exact R.out.1), hbx.trans R.out.2⟩
        case measure => simp [intOf]; omega
      · have HB2 := Lib.hid (show (v.k != 0) = knownL ((keyL cols vals).take (k + 1)) by rw [known_take HT.out, ← hkb.out]; rfl)
        clear hkb
        go_wp2_with (at_builtin; refine wpList_append_own _ rfl _ _ 48 rfl w.heap.size 101 i0 (.agg #[.int .i64 0, .int .i64 0, .string ⟨#[]⟩]) 3 32 Tryz.underlying48 H1.out H2.out H3.out H4.out rfl (by decide) _ _ _ rfl (World.ownsRow.alloc hoz.out _) ⟨_, 0, none⟩ 1 1 (Vl.cells v) rfl rfl ?d1 ?d2 ?d3 ?d4 ?d5 ?_)
        case d1 => exact cells_newAt _ (Vl.cells v) _ (by simp)
        case d2 => intro u hu; simp [Vl.cells] at hu; rcases hu with rfl | rfl | rfl <;> rfl
        case d3 => have := HLK.out; unfold maxLen; omega
        case d4 => have := HLK.out; omega
        case d5 => have := hbx.size; simp at this ⊢; omega
        intro v' w3 hown3 hgrow _
        have R := Lib.hid (OwnG.app hoz.out hbx.size hown3 hgrow)
        have rb3 := grown_row hgrow (hRB.out.alloc _) hne.out
        clear hown3 hgrow hoz hRB
        obtain ⟨⟨x0, x1, x2⟩, -⟩ := rb3.three
        go_wp2_with fail
        go_roundw
        case rel => exact ⟨k + 1, (v.k != 0), by omega, by go_num, rfl, HB2, Lib.hid (by rw [HT.out]; exact R.out.1), hbx.trans R.out.2⟩
        case measure => simp [intOf]; omega
    · obtain rfl : k = cols.length := by omega
      have e1 := hown.out
      have e2 := hkb.out
      rw [List.take_of_length_le (Nat.le_of_eq HL.out)] at e1 e2
      obtain ⟨AO, cO, rfl, hcO, hcm, hsl⟩ := OwnG.sl (f := Vl.cells) (sz := 3) (fun _ => rfl) e1
      have HKB := Lib.hid e2
      have HSL := Lib.hid hsl
      clear hown hkb e1 e2 hsl
      go_wp2_with fail
      go_ret2
      exact ⟨AO, cO, by rw [← HKB.out]; rfl, hcO, HSL.out, hb⟩

end Go.Proofs.YtgmgjjoalpnmhaaGreat
namespace Go.Proofs.YtgmgjjoalpnmhaaGreat
open Go.RowKit
set_option linter.unusedVariables false
set_option linter.unusedSimpArgs false

theorem below_dN {B : Nat} {w w' : World} (h : Below B w w') (m : Nat) : Below B w (w'.drewN m) := ⟨h.os, h.tape, h.output, h.size, h.block⟩
def eqlV (a b : Vl) : Bool := (a.k == b.k) && ((a.n == b.n) && (a.s.toList == b.s.toList))
def eqlP (p : Vl × Vl) : Bool := eqlV p.1 p.2
def eqlL (a b : List Vl) : Bool := decide (a.length = b.length) && (a.zip b).all eqlP
def hitP (p : Vl × Vl) : Bool := !(p.1.k == 0) && eqlP p
/-- Has a row this key in these columns, none a null? -/
def hitB (cols : List Int) (key : List Vl) (vals : List Vl) : Bool := decide (key.length = cols.length) && ((keyL cols vals).zip key).all hitP
theorem hit_zip : ∀ (l m : List Vl), l.length = m.length → (l.zip m).all hitP = (knownL l && (l.zip m).all eqlP)
  | [], [], _ => rfl
  | [], b :: m, h => by simp at h
  | a :: l, [], h => by simp at h
  | a :: l, b :: m, h => by
    have := hit_zip l m (by simpa using h)
    simp only [List.zip_cons_cons, List.all_cons, this, hitP, knownL]
    cases (!(a.k == 0)) <;> cases eqlP (a, b) <;> simp
theorem hitB_eq (cols : List Int) (key : List Vl) (vals : List Vl) : hitB cols key vals = (knownL (keyL cols vals) && eqlL (keyL cols vals) key) := by
  have hl : (keyL cols vals).length = cols.length := by simp [keyL]
  unfold hitB eqlL
  by_cases h : key.length = cols.length
  · rw [decide_eq_true h, decide_eq_true (by omega), hit_zip _ _ (by omega)]; simp
  · rw [decide_eq_false h, decide_eq_false (by omega)]; simp
/-- The places below k of the rows that have it. -/
def idxK (cols : List Int) (key : List Vl) (rows : List Rw) : Nat → List Nat
  | 0 => []
  | k + 1 => idxK cols key rows k ++ (match rows[k]? with | some r => if hitB cols key r.vals then [k] else [] | none => [])
theorem idxK_yes {cols : List Int} {key : List Vl} {rows : List Rw} {k : Nat} (h : k < rows.length) (hr : hitB cols key rows[k].vals = true) : idxK cols key rows (k + 1) = idxK cols key rows k ++ [k] := by
  rw [idxK, List.getElem?_eq_getElem h]; simp [hr]
theorem idxK_no {cols : List Int} {key : List Vl} {rows : List Rw} {k : Nat} (h : k < rows.length) (hr : hitB cols key rows[k].vals = false) : idxK cols key rows (k + 1) = idxK cols key rows k := by
  rw [idxK, List.getElem?_eq_getElem h]; simp [hr]
theorem idxK_len (cols : List Int) (key : List Vl) (rows : List Rw) : ∀ k, (idxK cols key rows k).length ≤ k
  | 0 => Nat.le_refl _
  | k + 1 => by
    have := idxK_len cols key rows k
    rw [idxK]
    split
    · split <;> simp <;> omega
    · simp; omega
theorem idxK_lt (cols : List Int) (key : List Vl) (rows : List Rw) : ∀ k, ∀ x ∈ idxK cols key rows k, x < k ∧ x < rows.length
  | 0, x, h => by cases h
  | k + 1, x, h => by
    rw [idxK, List.mem_append] at h
    rcases h with h | h
    · have := idxK_lt cols key rows k x h; omega
    · split at h
      · next r hr =>
        split at h
        · have := (List.getElem?_eq_some_iff.1 hr).1; simp at h; omega
        · cases h
      · cases h
def idL (rows : List Rw) (l : List Nat) : List Int := l.map fun i => (rows[i]?.map Rw.id).getD 0
/-- The Ids of the rows that have this key. -/
def findL (cols : List Int) (key : List Vl) (rows : List Rw) : List Int := idL rows (idxK cols key rows rows.length)
theorem findL_len (cols : List Int) (key : List Vl) (rows : List Rw) : (findL cols key rows).length ≤ rows.length := by
  unfold findL idL; rw [List.length_map]; exact idxK_len _ _ _ _
theorem idL_app (rows : List Rw) (l : List Nat) (k : Nat) (h : k < rows.length) : idL rows (l ++ [k]) = idL rows l ++ [rows[k].id] := by
  simp [idL, List.getElem?_eq_getElem h]
theorem zip_take {α β : Type} (a : List α) (b : List β) (k : Nat) (h : k < a.length) (h' : k < b.length) (f : α × β → Bool) : ((a.zip b).take (k + 1)).all f = (((a.zip b).take k).all f && f (a[k], b[k])) := by
  rw [List.take_succ_eq_append_getElem (by rw [List.length_zip]; omega), List.all_append]
  simp
theorem zip_no {α β : Type} {a : List α} {b : List β} {k : Nat} (h : k < a.length) (h' : k < b.length) {f : α × β → Bool} (hf : f (a[k], b[k]) = false) : (a.zip b).all f = false := by
  rw [List.all_eq_false]
  exact ⟨(a[k], b[k]), by rw [List.mem_iff_getElem]; exact ⟨k, by rw [List.length_zip]; omega, by simp⟩, by simp [hf]⟩

set_option maxRecDepth 100000 in
set_option maxHeartbeats 1000000 in
theorem specSameVals (A A' : Option Addr) (n c n' c' : Nat) (a b : List Vl) (ok ok' : Nat → Prop) (w : World) (h : Sl VlR 3 ok w A n a) (h' : Sl VlR 3 ok' w A' n' b) (hn : n ≤ 1048576) (hn' : n' ≤ 1048576) :
    Calls Tryz.prog 104 #[.slice A n c, .slice A' n' c'] w fun e w' => e = .returned (.bool (eqlL a b)) ∧ Below w.heap.size w w' := by
  obtain rfl : a.length = n := h.1
  obtain rfl : b.length = n' := h'.1
  by_cases hl : (a.length : Int) = b.length
  case neg =>
    have hl' : ((a.length : Int) == b.length) = false := by simpa using hl
    have HF := Lib.hid (show eqlL a b = false by unfold eqlL; rw [decide_eq_false (by omega)]; rfl)
    clear hl
    go_enter Tryz.func104, Tryz.ntmps104
    go_wp2_with fail
    go_ret
    exact ⟨retB HF.out.symm, Below.refl _ _⟩
  have hl' : ((a.length : Int) == b.length) = true := by simpa using hl
  have HL := Lib.hid (show a.length = b.length by omega)
  clear hl
  go_enter Tryz.func104, Tryz.ntmps104
  go_wp2_with fail
  clear hl'
  go_loopw [5] (fun i wr => ∃ k : Nat, k ≤ a.length ∧ i = .int .i64 k ∧ Hid (((a.zip b).take k).all eqlP = true) ∧ Below w.heap.size w wr) (fun i _ => a.length - (intOf i).toNat)
  case atStart => exact ⟨0, by omega, rfl, Lib.hid (by simp), Below.refl _ _⟩
  case round =>
    obtain ⟨k, hk, rfl, hall, hb⟩ := hrel
    by_cases hlt : k < a.length
    · have hlt' : k < b.length := by have := HL.out; omega
      obtain ⟨b1, o1, -, rfl, q0, q1, q2⟩ := VlR.at_ (h.below VlR.stays hb) hlt
      obtain ⟨b2, o2, -, rfl, y0, y1, y2⟩ := VlR.at_ (h'.below VlR.stays hb) hlt'
      have i0 : (0 : Int) ≤ k := by omega
      have i1 : (k : Int) < a.length := by omega
      have i2 : (k : Int) < b.length := by omega
      have hst := zip_take a b k hlt hlt' eqlP
      rw [hall.out, Bool.true_and] at hst
      have hno := fun hf => zip_no (f := eqlP) hlt hlt' hf
      generalize a[k] = x at *
      generalize b[k] = y at *
      cases hs : eqlP (x, y)
      · have HF := Lib.hid (show eqlL a b = false by unfold eqlL; rw [hno hs]; simp)
        have HS := Lib.hid hs
        clear hno hst hall hs
        cases e1 : (x.k == y.k)
        · clear HS
          go_wp2_with fail
          go_quiet (fail)
          go_wp2_with fail
          go_ret
          exact ⟨retB HF.out.symm, below_dN hb _⟩
        · cases e2 : (x.n == y.n)
          · clear HS
            go_wp2_with fail
            go_quiet (fail)
            go_wp2_with fail
            go_ret
            exact ⟨retB HF.out.symm, below_dN hb _⟩
          · have e3 : (x.s.toList == y.s.toList) = false := by have := HS.out; simp only [eqlP, eqlV, e1, e2, Bool.true_and] at this; exact this
            clear HS
            go_wp2_with fail
            go_quiet (fail)
            go_wp2_with fail
            go_ret
            exact ⟨retB HF.out.symm, below_dN hb _⟩
      · rw [hs] at hst
        have HA := Lib.hid hst
        simp only [eqlP, eqlV, Bool.and_eq_true] at hs
        obtain ⟨e1, e2, e3⟩ := hs
        clear hno hst hall
        go_wp2_with fail
        go_quiet (fail)
        go_wp2_with fail
        go_roundw
        case rel => exact ⟨k + 1, by omega, by go_num, HA, below_dN hb _⟩
        case measure => simp [intOf]; omega
    · have e : (a.zip b).take k = a.zip b := List.take_of_length_le (by rw [List.length_zip]; have := HL.out; omega)
      have h1 := hall.out
      rw [e] at h1
      have HA := Lib.hid (show eqlL a b = true by unfold eqlL; rw [decide_eq_true HL.out, h1]; rfl)
      clear e h1 hall
      go_wp2_with fail
      go_ret
      exact ⟨retB HA.out.symm, hb⟩
end Go.Proofs.YtgmgjjoalpnmhaaGreat
namespace Go.Proofs.YtgmgjjoalpnmhaaGreat
open Go.RowKit Go.Maps
set_option linter.unusedVariables false
set_option linter.unusedSimpArgs false

theorem keyL_get {cols : List Int} {vals : List Vl} {k m : Nat} (h : k < cols.length) (hm : cols[k] = m) (hv : m < vals.length) (h2 : k < (keyL cols vals).length) : (keyL cols vals)[k] = vals[m] := by
  simp [keyL, hm, hv]

set_option maxRecDepth 100000 in
set_option maxHeartbeats 2000000 in
theorem implHasKey (b off : Nat) (AC AK A1 : Option Addr) (nC cC nK cK n1 c1 : Nat) (id : Value) (cols : List Int) (key vals : List Vl) (ok ok' ok'' : Nat → Prop) (w : World)
    (p1 : w.cell? ⟨b, off + 1, none⟩ = some (.slice A1 n1 c1)) (hc : Sl IntR 1 ok w AC nC cols) (hk : Sl VlR 3 ok' w AK nK key) (hv : Sl VlR 3 ok'' w A1 n1 vals) (hcn : nC ≤ 1048576) (hkn : nK ≤ 1048576) (hvn : n1 ≤ 1048576) (hall : cols.all (inV vals) = true) :
    Calls Tryz.prog 105 #[.pointer (some ⟨b, off, none⟩), .slice AC nC cC, .slice AK nK cK] w fun e w' => e = .returned (.bool (hitB cols key vals)) ∧ Below w.heap.size w w' := by
  obtain rfl : cols.length = nC := hc.1
  obtain rfl : key.length = nK := hk.1
  obtain rfl : vals.length = n1 := hv.1
  have HALL := Lib.hid hall
  clear hall
  by_cases hl : (key.length : Int) = cols.length
  case neg =>
    have hl' : ((key.length : Int) == cols.length) = false := by simpa using hl
    have HF := Lib.hid (show hitB cols key vals = false by unfold hitB; rw [decide_eq_false (by omega)]; rfl)
    clear hl
    go_enter Tryz.func105, Tryz.ntmps105
    go_wp2_with fail
    go_ret
    exact ⟨retB HF.out.symm, Below.refl _ _⟩
  have hl' : ((key.length : Int) == cols.length) = true := by simpa using hl
  have HL := Lib.hid (show key.length = cols.length by omega)
  have HKL := Lib.hid (show (keyL cols vals).length = cols.length by simp [keyL])
  have P1 := Lib.hid p1
  clear hl p1
  go_enter Tryz.func105, Tryz.ntmps105
  go_wp2_with fail
  clear hl'
  go_loopw [17] (fun i wr => ∃ k : Nat, k ≤ cols.length ∧ i = .int .i64 k ∧ Hid ((((keyL cols vals).zip key).take k).all hitP = true) ∧ Below w.heap.size w wr) (fun i _ => cols.length - (intOf i).toNat)
  case atStart => exact ⟨0, by omega, rfl, Lib.hid (by simp), Below.refl _ _⟩
  case round =>
    obtain ⟨k, hk', rfl, hall, hb⟩ := hrel
    by_cases hlt : k < cols.length
    · have hlk : k < key.length := by have := HL.out; omega
      have hlL : k < (keyL cols vals).length := by have := HKL.out; omega
      obtain ⟨bc, oc, -, rfl, q0⟩ := IntR.at_ (hc.below IntR.stays hb) hlt
      obtain ⟨m, hm, hmv⟩ := inV_nat (List.all_eq_true.1 HALL.out _ (List.getElem_mem hlt))
      have hst := zip_take (keyL cols vals) key k hlL hlk hitP
      rw [hall.out, Bool.true_and, keyL_get hlt hm hmv hlL] at hst
      have hno : hitP (vals[m], key[k]) = false → hitB cols key vals = false := fun hf => by
        unfold hitB
        rw [zip_no (f := hitP) hlL hlk (by rw [keyL_get hlt hm hmv hlL]; exact hf)]; simp
      rw [hm] at q0
      obtain ⟨b1, o1, -, rfl, x0, x1, x2⟩ := VlR.at_ (hv.below VlR.stays hb) hmv
      obtain ⟨b2, o2, -, rfl, y0, y1, y2⟩ := VlR.at_ (hk.below VlR.stays hb) hlk
      have p1 := below_keep hb _ _ P1.out
      have i0 : (0 : Int) ≤ k := by omega
      have i1 : (k : Int) < cols.length := by omega
      have i2 : (k : Int) < key.length := by omega
      have j0 : (0 : Int) ≤ m := by omega
      have j1 : (m : Int) < vals.length := by omega
      clear hm
      generalize vals[m] = x at *
      generalize key[k] = y at *
      have hbx := hb.alloc hb.size (.cells #[.int .i64 x.k, .int .i64 x.n, .string x.s] 101)
      have hlb := (Below.refl wr.heap.size wr).alloc (Nat.le_refl _) (.cells #[.int .i64 x.k, .int .i64 x.n, .string x.s] 101)
      have y0' := below_keep hlb _ _ y0
      have y1' := below_keep hlb _ _ y1
      have y2' := below_keep hlb _ _ y2
      clear hlb
      cases hs : hitP (x, y)
      · have HF := Lib.hid (hno hs)
        have HS := Lib.hid hs
        clear hno hst hall hs
        cases e0 : (x.k == 0)
        · cases e1 : (x.k == y.k)
          · clear HS
            go_wp2_with fail
            go_quiet (fail)
            go_wp2_with fail
            go_ret
            exact ⟨retB HF.out.symm, below_dN hbx _⟩
          · cases e2 : (x.n == y.n)
            · clear HS
              go_wp2_with fail
              go_quiet (fail)
              go_wp2_with fail
              go_ret
              exact ⟨retB HF.out.symm, below_dN hbx _⟩
            · have e3 : (x.s.toList == y.s.toList) = false := by have := HS.out; simp only [hitP, eqlP, eqlV, e0, e1, e2, Bool.true_and, Bool.not_false] at this; exact this
              clear HS
              go_wp2_with fail
              go_quiet (fail)
              go_wp2_with fail
              go_ret
              exact ⟨retB HF.out.symm, below_dN hbx _⟩
        · clear HS
          go_wp2_with fail
          go_quiet (fail)
          go_wp2_with fail
          go_ret
          exact ⟨retB HF.out.symm, below_dN hbx _⟩
      · rw [hs] at hst
        have HA := Lib.hid hst
        simp only [hitP, eqlP, eqlV, Bool.and_eq_true, Bool.not_eq_true'] at hs
        obtain ⟨e0, e1, e2, e3⟩ := hs
        clear hno hst hall
        go_wp2_with fail
        go_quiet (fail)
        go_wp2_with fail
        go_roundw
        case rel => exact ⟨k + 1, by omega, by go_num, HA, below_dN hbx _⟩
        case measure => simp [intOf]; omega
    · have e : ((keyL cols vals).zip key).take k = (keyL cols vals).zip key := List.take_of_length_le (by rw [List.length_zip]; have := HKL.out; omega)
      have h1 := hall.out
      rw [e] at h1
      have HA := Lib.hid (show hitB cols key vals = true by unfold hitB; rw [decide_eq_true HL.out, h1]; rfl)
      clear e h1 hall
      go_wp2_with fail
      go_ret
      exact ⟨retB HA.out.symm, hb⟩
end Go.Proofs.YtgmgjjoalpnmhaaGreat
namespace Go.Proofs.YtgmgjjoalpnmhaaGreat
open Go.RowKit Go.Maps
set_option linter.unusedVariables false
set_option linter.unusedSimpArgs false

def refB (nm : ByteArray) (t : Tb) : Bool := t.fks.any fun f => f.table.toList == nm.toList
/-- The places below k of the tables that refer to nm. -/
def refsK (nm : ByteArray) (s : List Tb) : Nat → List Int
  | 0 => []
  | k + 1 => refsK nm s k ++ (match s[k]? with | some t => if refB nm t then [(k : Int)] else [] | none => [])
theorem refsK_yes {nm : ByteArray} {s : List Tb} {k : Nat} (h : k < s.length) (hr : refB nm s[k] = true) : refsK nm s (k + 1) = refsK nm s k ++ [(k : Int)] := by
  rw [refsK, List.getElem?_eq_getElem h]; simp [hr]
theorem refsK_no {nm : ByteArray} {s : List Tb} {k : Nat} (h : k < s.length) (hr : refB nm s[k] = false) : refsK nm s (k + 1) = refsK nm s k := by
  rw [refsK, List.getElem?_eq_getElem h]; simp [hr]
theorem refsK_len (nm : ByteArray) (s : List Tb) : ∀ k, (refsK nm s k).length ≤ k
  | 0 => Nat.le_refl _
  | k + 1 => by
    have := refsK_len nm s k
    rw [refsK]
    split
    · split <;> simp <;> omega
    · simp; omega
theorem refsK_lt (nm : ByteArray) (s : List Tb) : ∀ k, ∀ x ∈ refsK nm s k, x < k
  | 0, x, h => by cases h
  | k + 1, x, h => by
    rw [refsK, List.mem_append] at h
    rcases h with h | h
    · have := refsK_lt nm s k x h; omega
    · split at h
      · split at h
        · simp at h; omega
        · cases h
      · cases h
def refsB (nm : ByteArray) (s : List Tb) : List Int := if schemaB s then refsK nm s s.length else []

theorem refsB_len (nm : ByteArray) (s : List Tb) : (refsB nm s).length ≤ s.length := by
  unfold refsB
  split
  · exact refsK_len nm s s.length
  · simp
theorem any_take_fk (l : List Fk) (nm : ByteArray) (k : Nat) (h : k < l.length) : ((l.take (k + 1)).any fun f => f.table.toList == nm.toList) = ((l.take k).any (fun f => f.table.toList == nm.toList) || (l[k].table.toList == nm.toList)) := by
  rw [List.take_succ_eq_append_getElem h, List.any_append]; simp

set_option maxRecDepth 100000 in
set_option maxHeartbeats 1000000 in
theorem implRefersTo (x : Tb) (A1 : Option Addr) (n1 c1 : Nat) (A2 : Option Addr) (n2 c2 : Nat) (A3 : Option Addr) (n3 c3 : Nat) (A4 : Option Addr) (n4 c4 : Nat) (A5 : Option Addr) (n5 c5 : Nat) (nm : ByteArray) (ok : Nat → Prop) (w : World) (h5 : Sl FkR 5 ok w A5 n5 x.fks) (hn : n5 ≤ 1048576) :
    Calls Tryz.prog 49 #[.agg #[.string x.name, .slice A1 n1 c1, .slice A2 n2 c2, .slice A3 n3 c3, .slice A4 n4 c4, .slice A5 n5 c5], .string nm] w fun e w' => e = .returned (.bool (refB nm x)) ∧ Below w.heap.size w w' := by
  obtain rfl : x.fks.length = n5 := h5.1
  have rb := Row.new w 71 #[.string x.name, .slice A1 n1 c1, .slice A2 n2 c2, .slice A3 n3 c3, .slice A4 n4 c4, .slice A5 x.fks.length c5]
  have hb0 := (Below.refl w.heap.size w).alloc (Nat.le_refl _) (.cells #[.string x.name, .slice A1 n1 c1, .slice A2 n2 c2, .slice A3 n3 c3, .slice A4 n4 c4, .slice A5 x.fks.length c5] 71)
  go_enter Tryz.func49, Tryz.ntmps49
  obtain ⟨⟨k0, k1, k2, k3, k4, k5⟩, -⟩ := rb.all6
  go_wp2_with fail
  generalize w.alloc (.cells #[.string x.name, .slice A1 n1 c1, .slice A2 n2 c2, .slice A3 n3 c3, .slice A4 n4 c4, .slice A5 x.fks.length c5] 71) = z0 at *
  go_loopw [10] (fun i wr => ∃ k : Nat, k ≤ x.fks.length ∧ i = .int .i64 k ∧ Hid (((x.fks.take k).any fun f => f.table.toList == nm.toList) = false) ∧ Below w.heap.size w wr) (fun i _ => x.fks.length - (intOf i).toNat)
  case atStart => exact ⟨0, by omega, rfl, Lib.hid (by simp), hb0⟩
  case round =>
    obtain ⟨k, hk, rfl, hno, hb⟩ := hrel
    by_cases hlt : k < x.fks.length
    · obtain ⟨b, off, A0, m0, d0, -, rfl, q0, q1, q2, q3, q4, -⟩ := FkR.at_ (h5.below FkR.stays hb) hlt
      have hs := any_take_fk x.fks nm k hlt
      rw [hno.out, Bool.false_or] at hs
      have hbx := hb.alloc hb.size (.cells #[.slice A0 m0 d0, .string x.fks[k].table, .int .i64 x.fks[k].del, .int .i64 x.fks[k].upd, .bool x.fks[k].dfr] 73)
      have i0 : (0 : Int) ≤ k := by omega
      have i1 : (k : Int) < x.fks.length := by omega
      have hany : x.fks.any (fun f => f.table.toList == nm.toList) = ((x.fks.take (k + 1)).any (fun f => f.table.toList == nm.toList) || (x.fks.drop (k + 1)).any (fun f => f.table.toList == nm.toList)) := by rw [← List.any_append, List.take_append_drop]
      cases he : (x.fks[k].table.toList == nm.toList)
      · have HA := Lib.hid (hs.trans he)
        clear hs hno hany
        go_wp2_with fail
        go_roundw
        case rel => exact ⟨k + 1, by omega, by go_num, HA, hbx⟩
        case measure => simp [intOf]; omega
      · have HA := Lib.hid (show refB nm x = true by unfold refB; rw [hany, hs, he]; rfl)
        clear hs hno hany
        go_wp2_with fail
        go_ret
        exact ⟨retB HA.out.symm, hbx⟩
    · have e : x.fks.take k = x.fks := List.take_of_length_le (by omega)
      have h1 := hno.out
      rw [e] at h1
      have HA := Lib.hid (show refB nm x = false by unfold refB; exact h1)
      clear e h1 hno
      go_wp2_with fail
      go_ret
      exact ⟨retB HA.out.symm, hb⟩

/-- A list of numbers of the call's own. -/
def MadeI (xs : List Int) (w : World) (e : Ending) (w' : World) : Prop := ∃ A c, e = .returned (.slice A xs.length c) ∧ xs.length ≤ c ∧ Sl IntR 1 (okF w.heap.size w') w' A xs.length xs ∧ Below w.heap.size w w'

set_option maxRecDepth 100000 in
set_option maxHeartbeats 1000000 in
theorem implRefers (A : Option Addr) (n c : Nat) (s : List Tb) (nm : ByteArray) (ok : Nat → Prop) (w : World) (h : Sl TbR 6 ok w A n s) (hs : szL Tb.sz s ≤ 1048576) :
    Calls Tryz.prog 13 #[.slice A n c, .string nm] w (MadeI (refsB nm s) w) := by
  obtain rfl : s.length = n := h.1
  have hn : s.length ≤ 1048576 := by unfold szL at hs; omega
  have HS := Lib.hid hs
  clear hs
  obtain ⟨i0, hi, hz0, hz1, hz2⟩ := info_parts infoIntI
  cases hB : schemaB s
  · have HB := Lib.hid hB
    have HR := Lib.hid (show refsB nm s = [] by unfold refsB; rw [hB]; rfl)
    clear hB hi hz0 hz1 hz2
    go_enter Tryz.func13, Tryz.ntmps13
    go_wp2_with fail
    refine (implSchemaOk A s.length c s ok _ h HS.out).mono ?_
    rintro e w1 ⟨rfl, hb1⟩
    rw [HB.out]
    go_wp2_with fail
    go_ret
    exact ⟨none, 0, by rw [HR.out]; rfl, by rw [HR.out]; exact Nat.le_refl _, by rw [HR.out]; exact ⟨rfl, fun h => by simp at h⟩, hb1⟩
  have HB := Lib.hid hB
  have HR := Lib.hid (show refsB nm s = refsK nm s s.length by unfold refsB; rw [hB]; rfl)
  clear hB
  have H1 := Lib.hid hi
  have H2 := Lib.hid hz0
  have H3 := Lib.hid hz1
  have H4 := Lib.hid hz2
  clear hi hz0 hz1 hz2
  go_enter Tryz.func13, Tryz.ntmps13
  go_wp2_with fail
  refine (implSchemaOk A s.length c s ok _ h HS.out).mono ?_
  rintro e w1 ⟨rfl, hb1⟩
  rw [HB.out]
  go_wp2_with fail
  go_loopw [5, 13] (fun v i wr => ∃ k : Nat, k ≤ s.length ∧ i = .int .i64 k ∧ Hid (OwnI wr w.heap.size v (refsK nm s k)) ∧ Below w.heap.size w wr) (fun _ i _ => s.length - (intOf i).toNat)
  case atStart => exact ⟨0, by omega, rfl, Lib.hid (OwnI.nil _ _), hb1⟩
  case round =>
    clear hb1
    obtain ⟨k, hk, rfl, hown, hb⟩ := hrel
    by_cases hlt : k < s.length
    · obtain ⟨b, off, A1, n1, c1, A2, n2, c2, A3, n3, c3, A4, n4, c4, A5, n5, c5, -, rfl, q0, q1, q2, q3, q4, q5, -, -, -, -, s5, -⟩ := TbR.at_ (h.below TbR.stays hb) hlt
      have hfn : n5 ≤ 1048576 := by have h1 := HS.out; have := sum_mem_le Tb.sz s k hlt; have h2 := s5.1; simp only [szL, Tb.sz] at *; omega
      have i0' : (0 : Int) ≤ k := by omega
      have i1' : (k : Int) < s.length := by omega
      have hbx := hb.alloc hb.size (.cells #[.string s[k].name, .slice A1 n1 c1, .slice A2 n2 c2, .slice A3 n3 c3, .slice A4 n4 c4, .slice A5 n5 c5] 71)
      have hlb := (Below.refl wr.heap.size wr).alloc (Nat.le_refl _) (.cells #[.string s[k].name, .slice A1 n1 c1, .slice A2 n2 c2, .slice A3 n3 c3, .slice A4 n4 c4, .slice A5 n5 c5] 71)
      have s5' := s5.below FkR.stays hlb
      have hown' := Lib.hid (hown.out.below hlb)
      have HLEN := Lib.hid (refsK_len nm s k)
      clear hown hlb s5
      cases hr : refB nm s[k]
      · have HRF := Lib.hid hr
        have HRK := Lib.hid (refsK_no hlt hr)
        clear hr
        go_wp2_with fail
        refine (implRefersTo s[k] A1 n1 c1 A2 n2 c2 A3 n3 c3 A4 n4 c4 A5 n5 c5 nm _ _ s5' hfn).mono ?_
        rintro e w2 ⟨rfl, hb2⟩
        rw [HRF.out]
        go_wp2_with fail
        go_roundw
        case rel => exact ⟨k + 1, by omega, by go_num, Lib.hid (by rw [HRK.out]; exact hown'.out.below hb2), hbx.trans (hb2.mono hbx.size)⟩
        case measure => simp [intOf]; omega
      · have HRF := Lib.hid hr
        have HRK := Lib.hid (refsK_yes hlt hr)
        clear hr
        go_wp2_with fail
        refine (implRefersTo s[k] A1 n1 c1 A2 n2 c2 A3 n3 c3 A4 n4 c4 A5 n5 c5 nm _ _ s5' hfn).mono ?_
        rintro e w2 ⟨rfl, hb2⟩
        rw [HRF.out]
        have hbz := hbx.trans (hb2.mono hbx.size)
        have hoz := Lib.hid (hown'.out.below hb2)
        clear hown' hbx
        generalize hgv : refsK nm s k = xs at *
        have HGV := Lib.hid hgv
        clear hgv
        go_wp2_with (at_builtin; refine wpList_append_own _ rfl _ _ 24 rfl w.heap.size 2 i0 (.int .i64 0) 1 8 Tryz.underlying24 H1.out H2.out H3.out H4.out rfl (by decide) _ _ _ rfl (World.ownsRow.alloc hoz.out _) ⟨w2.heap.size, 0, none⟩ 1 1 [.int .i64 k] rfl rfl ?c1 ?c2 ?c3 ?c4 ?c5 ?_)
        case c1 => exact cell_one_new _ _ _
        case c2 => intro u hu; simp at hu; subst hu; rfl
        case c3 => have := HLEN.out; unfold maxLen; omega
        case c4 => have := HLEN.out; omega
        case c5 => have := hbz.size; simp; omega
        intro v' w3 hown3 hgrow _
        have R := Lib.hid (OwnI.app hoz.out hbz.size hown3 hgrow)
        clear hown3 hgrow hoz
        go_wp2_with fail
        go_roundw
        case rel => exact ⟨k + 1, by omega, by go_num, Lib.hid (by rw [HRK.out]; exact R.out.1), hbz.trans R.out.2⟩
        case measure => simp [intOf]; omega
    · obtain rfl : k = s.length := by omega
      obtain ⟨AO, cO, rfl, hcO, hcm, hsl⟩ := hown.out.sl
      clear hown
      go_wp2_with fail
      go_ret
      exact ⟨AO, cO, by rw [HR.out]; rfl, by rw [HR.out]; exact hcO, by rw [HR.out]; exact hsl, hb⟩
end Go.Proofs.YtgmgjjoalpnmhaaGreat
namespace Go.Proofs.YtgmgjjoalpnmhaaGreat
open Go.RowKit Go.Maps
set_option linter.unusedVariables false
set_option linter.unusedSimpArgs false

theorem infoPtrRow : (Tryz.prog.info? 107).map (fun i => (i.zero, i.size, i.bytes)) = some (some (.pointer none), 1, 8) := by kernel_rfl
/-- A pointer to the i-th row of a list. -/
def ptrC (A : Option Addr) (i : Nat) : List Value := [.pointer (A.map fun a => ⟨a.block, a.off + i * 2, none⟩)]
/-- A list of the call's own. -/
def MadeG {α : Type} (R : Rd α) (sz : Nat) (xs : List α) (w : World) (e : Ending) (w' : World) : Prop := ∃ A c, e = .returned (.slice A xs.length c) ∧ xs.length ≤ c ∧ Sl R sz (okF w.heap.size w') w' A xs.length xs ∧ Below w.heap.size w w'
def OwnP (A : Option Addr) (w : World) (base : Nat) (v : Value) (xs : List Nat) : Prop := OwnG 107 1 (ptrC A) w base v xs

set_option maxRecDepth 100000 in
set_option maxHeartbeats 2000000 in
theorem implRowsWith (bd od : Nat) (AL AC AK : Option Addr) (nL cL nC cC nK cK : Nat) (rows : List Rw) (cols : List Int) (key : List Vl) (ok ok' ok'' : Nat → Prop) (w : World)
    (p0 : w.cell? ⟨bd, od, none⟩ = some (.slice AL nL cL)) (hr : Sl RwR 2 ok w AL nL rows) (hc : Sl IntR 1 ok' w AC nC cols) (hk : Sl VlR 3 ok'' w AK nK key) (hrn : nL ≤ 1048576) (hcn : nC ≤ 1048576) (hkn : nK ≤ 1048576) (hvn : ∀ r ∈ rows, r.vals.length ≤ 1048576) (hall : ∀ r ∈ rows, cols.all (inV r.vals) = true) :
    Calls Tryz.prog 70 #[.pointer (some ⟨bd, od, none⟩), .slice AC nC cC, .slice AK nK cK] w (MadeG (FlatR (ptrC AL)) 1 (idxK cols key rows rows.length) w) := by
  obtain rfl : rows.length = nL := hr.1
  have HALL := Lib.hid hall
  have HVN := Lib.hid hvn
  have P0 := Lib.hid p0
  obtain ⟨i0, hi, hz0, hz1, hz2⟩ := info_parts infoPtrRow
  have H1 := Lib.hid hi
  have H2 := Lib.hid hz0
  have H3 := Lib.hid hz1
  have H4 := Lib.hid hz2
  clear hall hvn hi hz0 hz1 hz2
  go_enter Tryz.func70, Tryz.ntmps70
  go_wp2_with fail
  clear p0
  go_loopw [7, 15] (fun v i wr => ∃ k : Nat, k ≤ rows.length ∧ i = .int .i64 k ∧ Hid (OwnP AL wr w.heap.size v (idxK cols key rows k)) ∧ Below w.heap.size w wr) (fun _ i _ => rows.length - (intOf i).toNat)
  case atStart => exact ⟨0, by omega, rfl, Lib.hid (OwnG.nil _ _), Below.refl _ _⟩
  case round =>
    obtain ⟨k, hk', rfl, hown, hb⟩ := hrel
    by_cases hlt : k < rows.length
    · obtain ⟨bl, ol, A1, n1, c1, -, ea, q0, q1, hv, -⟩ := RwR.at_ (hr.below RwR.stays hb) hlt
      obtain rfl : rows[k].vals.length = n1 := hv.1
      have p0 := below_keep hb _ _ P0.out
      have i0' : (0 : Int) ≤ k := by omega
      have i1 : (k : Int) < rows.length := by omega
      have HEA := Lib.hid ea
      have HLEN := Lib.hid (idxK_len cols key rows k)
      have HC := Lib.hid (implHasKey bl (ol + k * 2) AC AK A1 nC cC nK cK _ c1 (.int .i64 rows[k].id) cols key rows[k].vals _ _ _ wr q1 (hc.below IntR.stays hb) (hk.below VlR.stays hb) hv hcn hkn (HVN.out _ (List.getElem_mem hlt)) (HALL.out _ (List.getElem_mem hlt)))
      rw [ea] at p0
      clear ea hv q0 q1
      cases hr' : hitB cols key rows[k].vals
      · have HRF := Lib.hid hr'
        have HRK := Lib.hid (idxK_no hlt hr')
        clear hr'
        go_wp2_with fail
        refine HC.out.mono ?_
        rintro e w2 ⟨rfl, hb2⟩
        rw [HRF.out]
        have hown' := Lib.hid (OwnG.below hown.out hb2)
        clear hown p0
        go_wp2_with fail
        go_roundw
        case rel => exact ⟨k + 1, by omega, by go_num, Lib.hid (by rw [HRK.out]; exact hown'.out), hb.trans (hb2.mono hb.size)⟩
        case measure => simp [intOf]; omega
      · have HRF := Lib.hid hr'
        have HRK := Lib.hid (idxK_yes hlt hr')
        clear hr'
        go_wp2_with fail
        refine HC.out.mono ?_
        rintro e w2 ⟨rfl, hb2⟩
        rw [HRF.out]
        have hbz := hb.trans (hb2.mono hb.size)
        have hoz := Lib.hid (OwnG.below hown.out hb2)
        clear hown p0 hb hb2 HC
        generalize hgv : idxK cols key rows k = xs at *
        have HGV := Lib.hid hgv
        clear hgv
        go_wp2_with (at_builtin; refine wpList_append_own _ rfl _ _ 105 rfl w.heap.size 107 i0 (.pointer none) 1 8 Tryz.underlying105 H1.out H2.out H3.out H4.out rfl (by decide) _ _ _ rfl (World.ownsRow.alloc hoz.out _) ⟨_, 0, none⟩ 1 1 [.pointer (some ⟨bl, ol + k * 2, none⟩)] rfl rfl ?c1 ?c2 ?c3 ?c4 ?c5 ?_)
        case c1 => exact cell_one_new _ _ _
        case c2 => intro u hu; simp at hu; subst hu; rfl
        case c3 => have := HLEN.out; unfold maxLen; omega
        case c4 => have := HLEN.out; omega
        case c5 => have := hbz.size; simp; omega
        intro v' w3 hown3 hgrow _
        have R := Lib.hid (OwnG.app (f := ptrC AL) (x := k) hoz.out hbz.size (by rw [show ptrC AL k = [.pointer (some ⟨bl, ol + k * 2, none⟩)] by rw [HEA.out]; rfl]; exact hown3) hgrow)
        clear hown3 hgrow hoz
        go_wp2_with fail
        go_roundw
        case rel => exact ⟨k + 1, by omega, by go_num, Lib.hid (by rw [HRK.out]; exact R.out.1), hbz.trans R.out.2⟩
        case measure => simp [intOf]; omega
    · obtain rfl : k = rows.length := by omega
      obtain ⟨AO, cO, rfl, hcO, hcm, hsl⟩ := OwnG.sl (f := ptrC AL) (sz := 1) (fun _ => rfl) hown.out
      have HSL := Lib.hid hsl
      clear hown hsl
      go_wp2_with fail
      go_ret
      exact ⟨AO, cO, rfl, hcO, HSL.out, hb⟩

/-- The Ids that FindRows answers. -/
def findB (s : List Tb) (db : List Dt) (t : Int) (cols : List Int) (key : List Vl) : List Int :=
  match s[t.toNat]?, db[t.toNat]? with
  | some x, some d => if dbB s db && (decide (0 ≤ t) && colsInB cols x.cols.length) then findL cols key d.rows else []
  | _, _ => []
theorem findB_len (s : List Tb) (db : List Dt) (t : Int) (cols : List Int) (key : List Vl) (h : szL Dt.sz db ≤ 1048576) : (findB s db t cols key).length ≤ 1048576 := by
  unfold findB
  split
  · next x d hx hd =>
    split
    · have h1 := findL_len cols key d.rows
      obtain ⟨hi, rfl⟩ := List.getElem?_eq_some_iff.1 hd
      have h2 := sum_mem_le Dt.sz db _ hi
      unfold szL at h
      have h3 : (db[t.toNat]).rows.length ≤ (db[t.toNat]).sz := by unfold Dt.sz szL; omega
      omega
    · simp
  · simp
theorem idsGo_mem {cols : List Cl} : ∀ {l : List Rw} {last : Int}, idsGo cols last l = true → ∀ r ∈ l, kindsB cols r.vals = true
  | [], _, _, r, h => by cases h
  | x :: xs, last, h, r, hr => by
    simp only [idsGo, Bool.and_eq_true] at h
    rcases List.mem_cons.1 hr with rfl | hr
    · exact h.2.2.1
    · exact idsGo_mem h.2.2.2 r hr
theorem dbB_row {s : List Tb} {db : List Dt} (h : dbB s db = true) {m : Nat} (h1 : m < s.length) (h2 : m < db.length) : ∀ r ∈ db[m].rows, r.vals.length = s[m].cols.length := fun r hr => by
  simp only [dbB, Bool.and_eq_true, decide_eq_true_eq] at h
  have h3 := List.all_eq_true.1 h.2.2 (s[m], db[m]) (by rw [List.mem_iff_getElem]; exact ⟨m, by rw [List.length_zip]; omega, by simp⟩)
  simp only [dbV, dataB, Bool.and_eq_true] at h3
  have h4 := idsGo_mem h3.2 r hr
  simp only [kindsB, Bool.and_eq_true, decide_eq_true_eq] at h4
  exact h4.1
theorem dbB_len {s : List Tb} {db : List Dt} (h : dbB s db = true) : db.length = s.length := by
  simp only [dbB, Bool.and_eq_true, decide_eq_true_eq] at h
  exact h.2.1
theorem all_inV {cols : List Int} {vals : List Vl} {n : Nat} (h : colsInB cols n = true) (hv : vals.length = n) : cols.all (inV vals) = true := by
  rw [List.all_eq_true]
  intro c hc
  have := (colsInB_len h).2 c hc
  simp only [inV, Bool.and_eq_true, decide_eq_true_eq]
  omega
theorem findB_bad {s : List Tb} {db : List Dt} {t : Int} {cols : List Int} {key : List Vl} (h : dbB s db = false) : findB s db t cols key = [] := by
  unfold findB
  split
  · rw [h]; rfl
  · rfl
theorem findB_out {s : List Tb} {db : List Dt} {t : Int} {cols : List Int} {key : List Vl} (h : (decide (0 ≤ t) && decide (t < (s.length : Int))) = false) : findB s db t cols key = [] := by
  unfold findB
  split
  · next x d hx hd =>
    have h1 := (List.getElem?_eq_some_iff.1 hx).1
    by_cases h0 : 0 ≤ t
    · rw [decide_eq_true h0, decide_eq_true (by omega)] at h; cases h
    · rw [decide_eq_false h0]; simp
  · rfl
theorem findB_cols {s : List Tb} {db : List Dt} {m : Nat} {cols : List Int} {key : List Vl} (h1 : m < s.length) (h : colsInB cols s[m].cols.length = false) : findB s db (m : Int) cols key = [] := by
  unfold findB
  rw [Int.toNat_natCast, List.getElem?_eq_getElem h1]
  split
  · next x d hx hd =>
    cases hx
    rw [h]; simp
  · rfl
theorem findB_yes {s : List Tb} {db : List Dt} {m : Nat} {cols : List Int} {key : List Vl} (h1 : m < s.length) (h2 : m < db.length) (hB : dbB s db = true) (h : colsInB cols s[m].cols.length = true) : findB s db (m : Int) cols key = findL cols key db[m].rows := by
  unfold findB
  rw [Int.toNat_natCast, List.getElem?_eq_getElem h1, List.getElem?_eq_getElem h2]
  simp only [hB, h]
  simp
theorem ptr_at {A P : Option Addr} {bl ol n : Nat} {xs : List Nat} {ok : Nat → Prop} {w : World} (h : Sl (FlatR (ptrC A)) 1 ok w P n xs) (hA : A = some ⟨bl, ol, none⟩) {j : Nat} (hj : j < xs.length) :
    ∃ b off, P = some ⟨b, off, none⟩ ∧ w.cell? ⟨b, off + j, none⟩ = some (.pointer (some ⟨bl, ol + xs[j] * 2, none⟩)) := by
  have hl := h.1
  obtain ⟨b, off, rfl, hb, hc⟩ := h.2 (by omega)
  obtain ⟨cs, -, hR, g⟩ := hc j hj
  have e : cs = _ := hR
  subst e hA
  exact ⟨b, off, rfl, by have := g 0 _ rfl; rwa [Nat.mul_one] at this⟩

set_option maxRecDepth 100000 in
set_option maxHeartbeats 4000000 in
theorem implFindRows (AS AD AC AK : Option Addr) (nS cS nD cD nC cC nK cK : Nat) (s : List Tb) (db : List Dt) (t : Int) (cols : List Int) (key : List Vl) (ok ok' okc okk : Nat → Prop) (w : World)
    (hs : Sl TbR 6 ok w AS nS s) (hd : Sl DtR 1 ok' w AD nD db) (hc : Sl IntR 1 okc w AC nC cols) (hk : Sl VlR 3 okk w AK nK key) (hsz : szL Tb.sz s ≤ 1048576) (hdz : szL Dt.sz db ≤ 1048576) (hcn : nC ≤ 1048576) (hkn : nK ≤ 1048576) :
    Calls Tryz.prog 32 #[.slice AS nS cS, .slice AD nD cD, .int .i64 t, .slice AC nC cC, .slice AK nK cK] w (MadeI (findB s db t cols key) w) := by
  obtain rfl : s.length = nS := hs.1
  obtain rfl : db.length = nD := hd.1
  have hn1 : s.length ≤ 1048576 := by unfold szL at hsz; omega
  have hn2 : db.length ≤ 1048576 := by unfold szL at hdz; omega
  have HSZ := Lib.hid hsz
  have HDZ := Lib.hid hdz
  have HVS := Lib.hid (rows_le hdz)
  have HDB := Lib.hid (implDbOk' AS AD s.length cS db.length cD s db ok ok' w hs hd hsz hdz)
  clear hsz hdz
  cases hB : dbB s db
  · have HB := Lib.hid hB
    have HR := Lib.hid (findB_bad (t := t) (cols := cols) (key := key) hB)
    clear hB
    go_enter Tryz.func32, Tryz.ntmps32
    go_wp2_with fail
    refine HDB.out.mono ?_
    rintro e w1 ⟨rfl, hb1⟩
    rw [HB.out]
    go_wp2_with fail
    go_ret
    exact ⟨none, 0, by rw [HR.out]; rfl, by rw [HR.out]; exact Nat.le_refl _, by rw [HR.out]; exact ⟨rfl, fun h => by simp at h⟩, hb1⟩
  have HB := Lib.hid hB
  have hlen := dbB_len hB
  have HLEN := Lib.hid hlen
  clear hB hlen
  cases hin : (decide (0 ≤ t) && decide (t < (s.length : Int)))
  · have HI := Lib.hid hin
    have HR := Lib.hid (findB_out (db := db) (cols := cols) (key := key) hin)
    clear hin
    go_enter Tryz.func32, Tryz.ntmps32
    go_wp2_with fail
    refine HDB.out.mono ?_
    rintro e w1 ⟨rfl, hb1⟩
    rw [HB.out]
    go_wp2_with fail
    refine (implPlaceK HI.out _).mono ?_
    rintro e w2 ⟨rfl, rfl⟩
    go_wp2_with fail
    go_ret
    exact ⟨none, 0, by rw [HR.out]; rfl, by rw [HR.out]; exact Nat.le_refl _, by rw [HR.out]; exact ⟨rfl, fun h => by simp at h⟩, hb1⟩
  have HI := Lib.hid hin
  obtain ⟨m, rfl, hm⟩ : ∃ m : Nat, t = m ∧ m < s.length := by
    simp only [Bool.and_eq_true, decide_eq_true_eq] at hin
    exact ⟨t.toNat, by omega, by omega⟩
  have hmd : m < db.length := by have := HLEN.out; omega
  have m0 : (0 : Int) ≤ m := by omega
  have m1 : (m : Int) < s.length := by omega
  have m2 : (m : Int) < db.length := by omega
  clear hin
  cases hcol : colsInB cols s[m].cols.length
  · have HC := Lib.hid hcol
    have HR := Lib.hid (findB_cols (db := db) (key := key) hm hcol)
    clear hcol
    go_enter Tryz.func32, Tryz.ntmps32
    go_wp2_with fail
    refine HDB.out.mono ?_
    rintro e w1 ⟨rfl, hb1⟩
    rw [HB.out]
    go_wp2_with fail
    refine (implPlaceK HI.out _).mono ?_
    rintro e w2 ⟨rfl, rfl⟩
    obtain ⟨b, off, A1, n1, c1, A2, n2, c2, A3, n3, c3, A4, n4, c4, A5, n5, c5, -, rfl, q0, q1, q2, q3, q4, q5, s1, -⟩ := TbR.at_ (hs.below TbR.stays hb1) hm
    obtain rfl : s[m].cols.length = n1 := s1.1
    have hcl : s[m].cols.length ≤ 1048576 := by have h1 := HSZ.out; have := sum_mem_le Tb.sz s m hm; simp only [szL, Tb.sz] at *; omega
    go_wp2_with fail
    refine (implAreColumns AC nC cC cols s[m].cols.length _ _ (hc.below IntR.stays hb1) hcn hcl).mono ?_
    rintro e w3 ⟨rfl, hb3⟩
    rw [HC.out]
    go_wp2_with fail
    go_ret
    exact ⟨none, 0, by rw [HR.out]; rfl, by rw [HR.out]; exact Nat.le_refl _, by rw [HR.out]; exact ⟨rfl, fun h => by simp at h⟩, hb1.trans (hb3.mono hb1.size)⟩
  have HC := Lib.hid hcol
  have HR := Lib.hid (findB_yes (key := key) hm hmd HB.out hcol)
  have HROW := Lib.hid (fun r hr => all_inV hcol (dbB_row HB.out hm hmd r hr))
  have HVR := Lib.hid (HVS.out _ (List.getElem_mem hmd))
  have HFL := Lib.hid (findL_len cols key db[m].rows)
  have HRN := Lib.hid (show db[m].rows.length ≤ 1048576 by have h1 := HDZ.out; have := sum_mem_le Dt.sz db m hmd; simp only [szL, Dt.sz] at *; omega)
  obtain ⟨i0, hi, hz0, hz1, hz2⟩ := info_parts infoIntI
  have H1 := Lib.hid hi
  have H2 := Lib.hid hz0
  have H3 := Lib.hid hz1
  have H4 := Lib.hid hz2
  clear hcol hi hz0 hz1 hz2
  go_enter Tryz.func32, Tryz.ntmps32
  go_wp2_with fail
  refine HDB.out.mono ?_
  rintro e w1 ⟨rfl, hb1⟩
  rw [HB.out]
  go_wp2_with fail
  refine (implPlaceK HI.out _).mono ?_
  rintro e w2 ⟨rfl, rfl⟩
  obtain ⟨b, off, A1, n1, c1, A2, n2, c2, A3, n3, c3, A4, n4, c4, A5, n5, c5, -, rfl, q0, q1, q2, q3, q4, q5, s1, -⟩ := TbR.at_ (hs.below TbR.stays hb1) hm
  obtain rfl : s[m].cols.length = n1 := s1.1
  have hcl : s[m].cols.length ≤ 1048576 := by have h1 := HSZ.out; have := sum_mem_le Tb.sz s m hm; simp only [szL, Tb.sz] at *; omega
  go_wp2_with fail
  refine (implAreColumns AC nC cC cols s[m].cols.length _ _ (hc.below IntR.stays hb1) hcn hcl).mono ?_
  rintro e w3 ⟨rfl, hb3⟩
  rw [HC.out]
  have hbz := hb1.trans (hb3.mono hb1.size)
  clear q0 q1 q2 q3 q4 q5 hb1 hb3 hcl
  obtain ⟨bd, offd, AL, nL, cL, -, rfl, y0, hrs, -⟩ := DtR.at_ (hd.below DtR.stays hbz) hmd
  obtain rfl : db[m].rows.length = nL := hrs.1
  have HP := Lib.hid (implRowsWith bd (offd + m) AL AC AK db[m].rows.length cL nC cC nK cK db[m].rows cols key _ _ _ w3 y0 hrs (hc.below IntR.stays hbz) (hk.below VlR.stays hbz) HRN.out hcn hkn HVR.out HROW.out)
  clear y0
  go_wp2_with fail
  refine HP.out.mono ?_
  rintro e w4 ⟨AP, cP, rfl, hcP, hsp, hb4⟩
  have hrs := hrs.below RwR.stays hb4
  have hbz2 := hbz.trans (hb4.mono hbz.size)
  have HIL := Lib.hid (idxK_lt cols key db[m].rows db[m].rows.length)
  have HXL := Lib.hid (idxK_len cols key db[m].rows db[m].rows.length)
  have HRX := Lib.hid (show findB s db (m : Int) cols key = idL db[m].rows (idxK cols key db[m].rows db[m].rows.length) from HR.out)
  clear hb4 HP hbz
  generalize hxg : idxK cols key db[m].rows db[m].rows.length = xs at *
  generalize hrg : db[m].rows = rows at *
  have HXG := Lib.hid hxg
  have HRG := Lib.hid hrg
  clear hxg hrg
  go_wp2_with fail
  go_loopw [11, 43] (fun v i wr => ∃ j : Nat, j ≤ xs.length ∧ i = .int .i64 j ∧ Hid (OwnI wr w4.heap.size v (idL rows (xs.take j))) ∧ Below w4.heap.size w4 wr) (fun _ i _ => xs.length - (intOf i).toNat)
  case atStart => exact ⟨0, by omega, rfl, Lib.hid (OwnI.nil _ _), Below.refl _ _⟩
  case round =>
    obtain ⟨j, hj, rfl, hown, hb⟩ := hrel
    by_cases hlt : j < xs.length
    · have hix := (HIL.out _ (List.getElem_mem hlt)).2
      obtain ⟨bl, ol, B1, k1, d1, -, rfl, z0, -⟩ := RwR.at_ (hrs.below RwR.stays hb) hix
      obtain ⟨bp, op, rfl, z1⟩ := ptr_at (hsp.stays (FlatR.stays _) (fun _ h => h) (fun p v _ hp => below_keep hb p v hp)) rfl hlt
      have j0 : (0 : Int) ≤ j := by omega
      have j1 : (j : Int) < xs.length := by omega
      have HT := Lib.hid (show idL rows (xs.take (j + 1)) = idL rows (xs.take j) ++ [rows[xs[j]].id] by rw [List.take_succ_eq_append_getElem hlt, idL_app _ _ _ hix])
      have HLI := Lib.hid (show (idL rows (xs.take j)).length ≤ j by unfold idL; rw [List.length_map, List.length_take]; omega)
      have hxj : xs.length ≤ 1048576 := by have h1 := HXL.out; have h2 := HRN.out; omega
      have hoz := hown
      clear hown
      generalize hgv : idL rows (xs.take j) = ys at *
      have HGV := Lib.hid hgv
      clear hgv
      go_wp2_with (at_builtin; refine wpList_append_own _ rfl _ _ 24 rfl w4.heap.size 2 i0 (.int .i64 0) 1 8 Tryz.underlying24 H1.out H2.out H3.out H4.out rfl (by decide) _ _ _ rfl (World.ownsRow.alloc hoz.out _) ⟨_, 0, none⟩ 1 1 [.int .i64 rows[xs[j]].id] rfl rfl ?c1 ?c2 ?c3 ?c4 ?c5 ?_)
      case c1 => exact cell_one_new _ _ _
      case c2 => intro u hu; simp at hu; subst hu; rfl
      case c3 => have := HLI.out; unfold maxLen; omega
      case c4 => have := HLI.out; omega
      case c5 => have := hb.size; simp; omega
      intro v' w5 hown3 hgrow _
      have R := Lib.hid (OwnI.app hoz.out hb.size hown3 hgrow)
      clear hown3 hgrow hoz
      go_wp2_with fail
      go_roundw
      case rel => exact ⟨j + 1, by omega, by go_num, Lib.hid (by rw [HT.out]; exact R.out.1), hb.trans R.out.2⟩
      case measure => simp [intOf]; omega
    · obtain rfl : j = xs.length := by omega
      have ho := hown.out
      rw [List.take_of_length_le (Nat.le_refl _)] at ho
      obtain ⟨AO, cO, rfl, hcO, hcm, hsl⟩ := OwnI.sl ho
      have HSL := Lib.hid hsl
      clear hown ho hsl
      have hbw := hbz2.trans (hb.mono hbz2.size)
      go_wp2_with fail
      go_ret
      exact ⟨AO, cO, by rw [HRX.out]; rfl, by rw [HRX.out]; exact hcO, by rw [HRX.out]; exact HSL.out.stays IntR.stays (fun b hb => hb.mono hbz2.size) (fun _ _ _ h => h), hbw⟩
end Go.Proofs.YtgmgjjoalpnmhaaGreat
namespace Go.Proofs.YtgmgjjoalpnmhaaGreat
open Go.RowKit Go.Maps
set_option linter.unusedVariables false
set_option linter.unusedSimpArgs false

theorem idxK_take {cols : List Int} {key : List Vl} {rows : List Rw} {k : Nat} (h : k < rows.length) : idL rows (idxK cols key rows (k + 1)) = if hitB cols key rows[k].vals then idL rows (idxK cols key rows k) ++ [rows[k].id] else idL rows (idxK cols key rows k) := by
  cases hr : hitB cols key rows[k].vals
  · rw [idxK_no h hr]; rfl
  · rw [idxK_yes h hr, idL_app _ _ _ h]; rfl

set_option maxRecDepth 100000 in
set_option maxHeartbeats 2000000 in
theorem specL4Find (AL AC AK : Option Addr) (nL cL nC cC nK cK : Nat) (rows : List Rw) (cols : List Int) (key : List Vl) (ok ok' ok'' : Nat → Prop) (w : World)
    (hr : Sl RwR 2 ok w AL nL rows) (hc : Sl IntR 1 ok' w AC nC cols) (hk : Sl VlR 3 ok'' w AK nK key) (hrn : nL ≤ 1048576) (hcn : nC ≤ 1048576) (hkn : nK ≤ 1048576) (hvn : ∀ r ∈ rows, r.vals.length ≤ 1048576) (hall : ∀ r ∈ rows, cols.all (inV r.vals) = true) :
    Calls Tryz.prog 66 #[.agg #[.slice AL nL cL], .slice AC nC cC, .slice AK nK cK] w (MadeI (findL cols key rows) w) := by
  obtain rfl : rows.length = nL := hr.1
  have HALL := Lib.hid hall
  have HVN := Lib.hid hvn
  obtain ⟨i0, hi, hz0, hz1, hz2⟩ := info_parts infoIntI
  have H1 := Lib.hid hi
  have H2 := Lib.hid hz0
  have H3 := Lib.hid hz1
  have H4 := Lib.hid hz2
  clear hall hvn hi hz0 hz1 hz2
  have rb := (Row.new w 89 #[.slice AL rows.length cL]).alloc (.cells #[] 2)
  have hb0 := (((Below.refl w.heap.size w).alloc (Nat.le_refl _) (.cells #[.slice AL rows.length cL] 89)).alloc (by simp) (.cells #[] 2))
  have ho0 : Hid (OwnI ((w.alloc (.cells #[.slice AL rows.length cL] 89)).alloc (.cells #[] 2)) (w.heap.size + 1) (.slice (some ⟨w.heap.size + 1, 0, none⟩) 0 0) []) := by
    have h := OwnI.lit (w.alloc (.cells #[.slice AL rows.length cL] 89)) (base := w.heap.size + 1) (by simp)
    have e : (w.alloc (.cells #[.slice AL rows.length cL] 89)).heap.size = w.heap.size + 1 := by simp
    rw [e] at h
    exact Lib.hid h
  go_enter Tryz.func66, Tryz.ntmps66
  go_wp2_with fail
  have hsz0 : w.heap.size + 1 ≤ ((w.alloc (.cells #[.slice AL rows.length cL] 89)).alloc (.cells #[] 2)).heap.size := by simp
  have HSZ0 := Lib.hid hsz0
  clear hsz0
  generalize (w.alloc (.cells #[.slice AL rows.length cL] 89)).alloc (.cells #[] 2) = z0 at *
  go_loopw [7, 8] (fun v i wr => ∃ k : Nat, k ≤ rows.length ∧ i = .int .i64 k ∧ Hid (OwnI wr (w.heap.size + 1) v (idL rows (idxK cols key rows k))) ∧ Row wr w.heap.size 89 #[.slice AL rows.length cL] ∧ Hid (w.heap.size + 1 ≤ wr.heap.size) ∧ Below w.heap.size w wr) (fun _ i _ => rows.length - (intOf i).toNat)
  case atStart => exact ⟨0, by omega, rfl, by exact ho0, rb, HSZ0, hb0⟩
  case round =>
    clear hb0 ho0 rb
    obtain ⟨k, hk', rfl, hown, rb, hsz, hb⟩ := hrel
    obtain ⟨c0, -⟩ := rb.all1
    by_cases hlt : k < rows.length
    · obtain ⟨bl, ol, A1, n1, c1, -, rfl, q0, q1, hv, -⟩ := RwR.at_ (hr.below RwR.stays hb) hlt
      obtain rfl : rows[k].vals.length = n1 := hv.1
      have i0' : (0 : Int) ≤ k := by omega
      have i1 : (k : Int) < rows.length := by omega
      have HLEN := Lib.hid (show (idL rows (idxK cols key rows k)).length ≤ k by unfold idL; rw [List.length_map]; exact idxK_len cols key rows k)
      have HC := Lib.hid (specL4Key AC A1 nC cC rows[k].vals.length c1 cols rows[k].vals _ _ wr (hc.below IntR.stays hb) hv hcn (HVN.out _ (List.getElem_mem hlt)) (HALL.out _ (List.getElem_mem hlt)))
      have HKL := Lib.hid (show (keyL cols rows[k].vals).length ≤ 1048576 by rw [show (keyL cols rows[k].vals).length = cols.length by simp [keyL], hc.1]; exact hcn)
      have HT := Lib.hid (idxK_take (cols := cols) (key := key) hlt)
      have HE := Lib.hid (hitB_eq cols key rows[k].vals)
      have Q0 := Lib.hid q0
      clear hv
      go_wp2_with fail
      refine HC.out.mono ?_
      rintro e w2 ⟨AO, cO, rfl, hcO, hsl, hb2⟩
      have hown' := Lib.hid (hown.out.below hb2)
      have rb := rb.below hb2
      have hbz := hb.trans (hb2.mono hb.size)
      have hsz2 := Lib.hid (Nat.le_trans hsz.out hb2.size)
      clear q0 q1
      have q0 := below_keep hb2 _ _ Q0.out
      have hkey := (hk.below VlR.stays hb).below VlR.stays hb2
      have HS := Lib.hid (specSameVals AO AK _ cO nK cK (keyL cols rows[k].vals) key _ _ w2 hsl hkey HKL.out hkn)
      clear hown hb hb2 HC hsl hkey Q0 c0 hsz
      cases ha : knownL (keyL cols rows[k].vals)
      · have HN := Lib.hid (show idL rows (idxK cols key rows (k + 1)) = idL rows (idxK cols key rows k) by rw [HT.out, HE.out, ha]; rfl)
        clear ha q0
        go_wp2_with fail
        go_roundw
        case rel => exact ⟨k + 1, by omega, by go_num, Lib.hid (by rw [HN.out]; exact hown'.out), rb, hsz2, hbz⟩
        case measure => simp [intOf]; omega
      · cases hsm : eqlL (keyL cols rows[k].vals) key
        · have HN := Lib.hid (show idL rows (idxK cols key rows (k + 1)) = idL rows (idxK cols key rows k) by rw [HT.out, HE.out, ha, hsm]; rfl)
          have HSM := Lib.hid hsm
          clear ha hsm q0
          go_wp2_with fail
          refine HS.out.mono ?_
          rintro e w3 ⟨rfl, hb3⟩
          rw [HSM.out]
          have hown'' := Lib.hid (hown'.out.below hb3)
          go_wp2_with fail
          go_roundw
          case rel => exact ⟨k + 1, by omega, by go_num, Lib.hid (by rw [HN.out]; exact hown''.out), rb.below hb3, Lib.hid (Nat.le_trans hsz2.out hb3.size), hbz.trans (hb3.mono hbz.size)⟩
          case measure => simp [intOf]; omega
        · have HN := Lib.hid (show idL rows (idxK cols key rows (k + 1)) = idL rows (idxK cols key rows k) ++ [rows[k].id] by rw [HT.out, HE.out, ha, hsm]; rfl)
          have HSM := Lib.hid hsm
          clear ha hsm
          go_wp2_with fail
          refine HS.out.mono ?_
          rintro e w3 ⟨rfl, hb3⟩
          rw [HSM.out]
          have hoz := Lib.hid (hown'.out.below hb3)
          have rb := rb.below hb3
          have hbw := hbz.trans (hb3.mono hbz.size)
          have q0 := below_keep hb3 _ _ q0
          have hsz3 : w.heap.size + 1 ≤ w3.heap.size := Nat.le_trans hsz2.out hb3.size
          obtain ⟨c0, -⟩ := rb.all1
          have hRB := Lib.hid rb
          have hne := Lib.hid (fun j hj => Nat.ne_of_gt (show w.heap.size < j from (OwnI.block_lt hoz.out j hj).1))
          clear hown' hbz hb3 rb hsz2 HS
          generalize hgv : idL rows (idxK cols key rows k) = ys at *
          have HGV := Lib.hid hgv
          clear hgv
          go_wp2_with (at_builtin; refine wpList_append_own _ rfl _ _ 24 rfl (w.heap.size + 1) 2 i0 (.int .i64 0) 1 8 Tryz.underlying24 H1.out H2.out H3.out H4.out rfl (by decide) _ _ _ rfl (World.ownsRow.alloc hoz.out _) ⟨_, 0, none⟩ 1 1 [.int .i64 rows[k].id] rfl rfl ?c1 ?c2 ?c3 ?c4 ?c5 ?_)
          case c1 => exact cell_one_new _ _ _
          case c2 => intro u hu; simp at hu; subst hu; rfl
          case c3 => have := HLEN.out; unfold maxLen; omega
          case c4 => have := HLEN.out; omega
          case c5 => simp; omega
          intro v' w4 hown4 hgrow _
          have R := Lib.hid (OwnI.app hoz.out hsz3 hown4 hgrow)
          have rb4 := grown_row hgrow (hRB.out.alloc _) hne.out
          have HSZ4 := Lib.hid (Nat.le_trans hsz3 R.out.2.size)
          clear hown4 hgrow hoz hRB c0 q0
          go_wp2_with fail
          go_roundw
          case rel => exact ⟨k + 1, by omega, by go_num, Lib.hid (by rw [HN.out]; exact R.out.1), rb4, HSZ4, hbw.trans (R.out.2.mono (Nat.le_succ _))⟩
          case measure => simp [intOf]; omega
    · obtain rfl : k = rows.length := by omega
      obtain ⟨AO, cO, rfl, hcO, hcm, hsl⟩ := hown.out.sl
      have HSL := Lib.hid hsl
      clear hown hsl
      go_wp2_with fail
      go_ret
      exact ⟨AO, cO, rfl, hcO, HSL.out.stays IntR.stays (fun b hb => hb.mono (Nat.le_succ _)) (fun _ _ _ h => h), hb⟩
end Go.Proofs.YtgmgjjoalpnmhaaGreat
namespace Go.Proofs.YtgmgjjoalpnmhaaGreat
open Go.RowKit Go.Maps
set_option linter.unusedVariables false
set_option linter.unusedSimpArgs false

set_option maxRecDepth 100000 in
set_option maxHeartbeats 4000000 in
theorem specFindRows (AS AD AC AK : Option Addr) (nS cS nD cD nC cC nK cK : Nat) (s : List Tb) (db : List Dt) (t : Int) (cols : List Int) (key : List Vl) (ok ok' okc okk : Nat → Prop) (w : World)
    (hs : Sl TbR 6 ok w AS nS s) (hd : Sl DtR 1 ok' w AD nD db) (hc : Sl IntR 1 okc w AC nC cols) (hk : Sl VlR 3 okk w AK nK key) (hcp : nS ≤ cS) (hcc : nC ≤ cC) (hsz : szL Tb.sz s ≤ 1048576) (hdz : szL Dt.sz db ≤ 1048576) (hcn : nC ≤ 1048576) (hkn : nK ≤ 1048576) :
    Calls Tryz.prog 29 #[.slice AS nS cS, .slice AD nD cD, .int .i64 t, .slice AC nC cC, .slice AK nK cK] w (MadeI (findB s db t cols key) w) := by
  obtain rfl : s.length = nS := hs.1
  obtain rfl : db.length = nD := hd.1
  have hn1 : s.length ≤ 1048576 := by unfold szL at hsz; omega
  have hn2 : db.length ≤ 1048576 := by unfold szL at hdz; omega
  have HSZ := Lib.hid hsz
  have HDZ := Lib.hid hdz
  have HCC := Lib.hid hcc
  have HVS := Lib.hid (rows_le hdz)
  have HDB := Lib.hid (specDbOk AS AD s.length cS db.length cD s db ok ok' w hs hd hcp hsz hdz)
  have hb0' := fun w1 => (fun (h : Below w.heap.size w w1) => h.alloc h.size (.cells #[] 2))
  clear hsz hdz hcc
  have i2 : IntKind.i64.wrap ((s.length : Int) - 1) = (s.length : Int) - 1 := IntWalk.i64_in _ (by omega)
  have HEM := Lib.hid (fun w1 (h : Below w.heap.size w w1) => OwnI.lit w1 (base := w.heap.size) h.size)
  cases hB : dbB s db
  · have HB := Lib.hid hB
    have HR := Lib.hid (findB_bad (t := t) (cols := cols) (key := key) hB)
    clear hB hb0'
    go_enter Tryz.func29, Tryz.ntmps29
    go_wp2_with fail
    refine HDB.out.mono ?_
    rintro e w1 ⟨rfl, hb1⟩
    rw [HB.out]
    have HZ := Lib.hid (HEM.out w1 hb1).sl
    have hbz := hb1.alloc hb1.size (.cells #[] 2)
    go_wp2_with fail
    obtain ⟨AO, cO, ev, hcO, -, hsl⟩ := HZ.out
    cases ev
    go_ret
    exact ⟨_, 0, by rw [HR.out]; rfl, by rw [HR.out]; exact Nat.le_refl _, by rw [HR.out]; exact hsl, hbz⟩
  have HB := Lib.hid hB
  have hlen := dbB_len hB
  have HLEN := Lib.hid hlen
  clear hB hlen hb0'
  cases hin : (decide (0 ≤ t) && decide (t < (s.length : Int)))
  · have HI := Lib.hid (show (decide (0 ≤ t) && decide (t ≤ (s.length : Int) - 1)) = false by rw [← hin]; congr 1; rw [decide_eq_decide]; omega)
    have HR := Lib.hid (findB_out (db := db) (cols := cols) (key := key) hin)
    clear hin
    go_enter Tryz.func29, Tryz.ntmps29
    go_wp2_with fail
    refine HDB.out.mono ?_
    rintro e w1 ⟨rfl, hb1⟩
    rw [HB.out]
    go_wp2_with fail
    refine (specInK HI.out _).mono ?_
    rintro e w2 ⟨rfl, rfl⟩
    have HZ := Lib.hid (HEM.out w1 hb1).sl
    have hbz := hb1.alloc hb1.size (.cells #[] 2)
    go_wp2_with fail
    obtain ⟨AO, cO, ev, hcO, -, hsl⟩ := HZ.out
    cases ev
    go_ret
    exact ⟨_, 0, by rw [HR.out]; rfl, by rw [HR.out]; exact Nat.le_refl _, by rw [HR.out]; exact hsl, hbz⟩
  have HI := Lib.hid (show (decide (0 ≤ t) && decide (t ≤ (s.length : Int) - 1)) = true by rw [← hin]; congr 1; rw [decide_eq_decide]; omega)
  obtain ⟨m, rfl, hm⟩ : ∃ m : Nat, t = m ∧ m < s.length := by
    simp only [Bool.and_eq_true, decide_eq_true_eq] at hin
    exact ⟨t.toNat, by omega, by omega⟩
  have hmd : m < db.length := by have := HLEN.out; omega
  have m0 : (0 : Int) ≤ m := by omega
  have m1 : (m : Int) < s.length := by omega
  have m2 : (m : Int) < db.length := by omega
  clear hin
  cases hcol : colsInB cols s[m].cols.length
  · have HC := Lib.hid hcol
    have HR := Lib.hid (findB_cols (db := db) (key := key) hm hcol)
    clear hcol
    go_enter Tryz.func29, Tryz.ntmps29
    go_wp2_with fail
    refine HDB.out.mono ?_
    rintro e w1 ⟨rfl, hb1⟩
    rw [HB.out]
    go_wp2_with fail
    refine (specInK HI.out _).mono ?_
    rintro e w2 ⟨rfl, rfl⟩
    obtain ⟨b, off, A1, n1, c1, A2, n2, c2, A3, n3, c3, A4, n4, c4, A5, n5, c5, -, rfl, q0, q1, q2, q3, q4, q5, s1, -⟩ := TbR.at_ (hs.below TbR.stays hb1) hm
    obtain rfl : s[m].cols.length = n1 := s1.1
    have hcl : s[m].cols.length ≤ 1048576 := by have h1 := HSZ.out; have := sum_mem_le Tb.sz s m hm; simp only [szL, Tb.sz] at *; omega
    go_wp2_with fail
    refine (specCols AC nC cC cols (s[m].cols.length : Int) _ _ (hc.below IntR.stays hb1) HCC.out hcn (by omega) (by omega)).mono ?_
    rintro e w3 ⟨rfl, hb3⟩
    rw [HC.out]
    have hby := hb1.trans (hb3.mono hb1.size)
    have HZ := Lib.hid (HEM.out w3 hby).sl
    have hbz := hby.alloc hby.size (.cells #[] 2)
    go_wp2_with fail
    obtain ⟨AO, cO, ev, hcO, -, hsl⟩ := HZ.out
    cases ev
    go_ret
    exact ⟨_, 0, by rw [HR.out]; rfl, by rw [HR.out]; exact Nat.le_refl _, by rw [HR.out]; exact hsl, hbz⟩
  have HC := Lib.hid hcol
  have HR := Lib.hid (findB_yes (key := key) hm hmd HB.out hcol)
  have HROW := Lib.hid (fun r hr => all_inV hcol (dbB_row HB.out hm hmd r hr))
  have HVR := Lib.hid (HVS.out _ (List.getElem_mem hmd))
  have HRN := Lib.hid (show db[m].rows.length ≤ 1048576 by have h1 := HDZ.out; have := sum_mem_le Dt.sz db m hmd; simp only [szL, Dt.sz] at *; omega)
  clear hcol
  go_enter Tryz.func29, Tryz.ntmps29
  go_wp2_with fail
  refine HDB.out.mono ?_
  rintro e w1 ⟨rfl, hb1⟩
  rw [HB.out]
  go_wp2_with fail
  refine (specInK HI.out _).mono ?_
  rintro e w2 ⟨rfl, rfl⟩
  obtain ⟨b, off, A1, n1, c1, A2, n2, c2, A3, n3, c3, A4, n4, c4, A5, n5, c5, -, rfl, q0, q1, q2, q3, q4, q5, s1, -⟩ := TbR.at_ (hs.below TbR.stays hb1) hm
  obtain rfl : s[m].cols.length = n1 := s1.1
  have hcl : s[m].cols.length ≤ 1048576 := by have h1 := HSZ.out; have := sum_mem_le Tb.sz s m hm; simp only [szL, Tb.sz] at *; omega
  go_wp2_with fail
  refine (specCols AC nC cC cols (s[m].cols.length : Int) _ _ (hc.below IntR.stays hb1) HCC.out hcn (by omega) (by omega)).mono ?_
  rintro e w3 ⟨rfl, hb3⟩
  rw [HC.out]
  have hbz := hb1.trans (hb3.mono hb1.size)
  clear q0 q1 q2 q3 q4 q5 hb1 hb3 hcl
  obtain ⟨bd, offd, AL, nL, cL, -, rfl, y0, hrs, -⟩ := DtR.at_ (hd.below DtR.stays hbz) hmd
  obtain rfl : db[m].rows.length = nL := hrs.1
  have HP := Lib.hid (specL4Find AL AC AK db[m].rows.length cL nC cC nK cK db[m].rows cols key _ _ _ w3 hrs (hc.below IntR.stays hbz) (hk.below VlR.stays hbz) HRN.out hcn hkn HVR.out HROW.out)
  clear hrs
  go_wp2_with fail
  refine HP.out.mono ?_
  rintro e w4 ⟨AO, cO, rfl, hcO, hsl, hb4⟩
  have HSL := Lib.hid hsl
  clear hsl HP y0
  go_wp2_with fail
  go_ret
  exact ⟨AO, cO, by rw [HR.out]; rfl, by rw [HR.out]; exact hcO, by rw [HR.out]; exact HSL.out.stays IntR.stays (fun b hb => hb.mono hbz.size) (fun _ _ _ h => h), hbz.trans (hb4.mono hbz.size)⟩
end Go.Proofs.YtgmgjjoalpnmhaaGreat
namespace Go.Proofs.YtgmgjjoalpnmhaaGreat
open Go.RowKit
set_option linter.unusedVariables false
set_option linter.unusedSimpArgs false

def digB (k : Nat) : ByteArray := ⟨#[UInt8.ofNat (48 + k % 10)]⟩
def mtFin : Nat → Nat → ByteArray → ByteArray
  | 0, _, out => ⟨#[109]⟩ ++ out
  | f + 1, k, out => if k = 0 then ⟨#[109]⟩ ++ out else mtFin f (k / 10) (digB k ++ out)
def mtx (k : Nat) : ByteArray := if k = 0 then ⟨#[109, 48]⟩ else mtFin k k ⟨#[]⟩
theorem mtFin_zero (f : Nat) (out : ByteArray) : mtFin f 0 out = ⟨#[109]⟩ ++ out := by cases f <;> simp [mtFin]
theorem mtFin_step (f k : Nat) (out : ByteArray) (h : 0 < k) : mtFin (f + 1) k out = mtFin f (k / 10) (digB k ++ out) := by
  rw [mtFin, if_neg (by omega)]

theorem digB_run (j : Nat) (w : World) :
    (convert 139 9 (.slice (some ⟨w.heap.size, 0, none⟩) 1 1)).run Tryz.prog (w.alloc (.cells #[.int .u8 (48 + (j : Int) % 10)] 5)) = .ok (.string (digB j)) (w.alloc (.cells #[.int .u8 (48 + (j : Int) % 10)] 5)) := by
  refine run_convert_bytes_back _ _ _ 5 ⟨w.heap.size, 0, none⟩ 1 [UInt8.ofNat (48 + j % 10)] Tryz.underlying139 Tryz.underlying5 Tryz.underlying9 fun i hi => ?_
  have e : i = 0 := by simpa using hi
  subst e
  have e2 : (UInt8.ofNat (48 + j % 10)).toNat = 48 + j % 10 := by rw [UInt8.toNat_ofNat']; omega
  simp [Addr.add, World.cell?_alloc_mark]
  omega

def MtRel (k : Nat) (w : World) (m o : Value) (wr : World) : Prop := ∃ (f j : Nat) (out : ByteArray), m = .int .i64 j ∧ o = .string out ∧ j ≤ f ∧ out.size + f ≤ k ∧ Hid (mtFin k k ⟨#[]⟩ = mtFin f j out) ∧ Below w.heap.size w wr
theorem digB_size (j : Nat) : (digB j).size = 1 := rfl

set_option maxRecDepth 100000 in
set_option maxHeartbeats 1000000 in
theorem lawsMarkText (k : Nat) (w : World) (hk : k ≤ 1073741824) {x : Int} (hx : x = k) :
    Calls Tryz.prog 51 #[.int .i64 x] w fun e w' => e = .returned (.string (mtx k)) ∧ Below w.heap.size w w' := by
  subst hx
  by_cases h0 : k = 0
  · subst h0
    go_enter Tryz.func51, Tryz.ntmps51
    go_wp2_with fail
    go_ret
    exact ⟨rfl, Below.refl _ _⟩
  have hpos : ¬ ((k : Int) ≤ 0) := by omega
  go_enter Tryz.func51, Tryz.ntmps51
  go_wp2_with fail
  go_loopw [0, 3] (MtRel k w) (fun m _ _ => (intOf m).toNat)
  case atStart => exact ⟨k, k, ⟨#[]⟩, rfl, rfl, Nat.le_refl _, by simp [ByteArray.size], Lib.hid rfl, Below.refl _ _⟩
  case round =>
    obtain ⟨f, j, out, rfl, rfl, hj, ho, hm, hb⟩ := hrel
    by_cases hlt : 0 < j
    · obtain ⟨f, rfl⟩ : ∃ g, f = g + 1 := ⟨f - 1, by omega⟩
      have hm2 := hm.out
      rw [mtFin_step _ _ _ hlt] at hm2
      have HM := Lib.hid hm2
      clear hm hm2
      have d0 : (0 : Int) < j := by omega
      have hcv := digB_run j wr
      have hc1 : (digB j).size + out.size ≤ 9223372036854775807 := by rw [digB_size]; omega
      have hc2 : ¬ 9223372036854775807 < (digB j).size + out.size := by omega
      have hba := hb.alloc hb.size (.cells #[.int .u8 (48 + (j : Int) % 10)] 5)
      go_wp2_with fail
      go_roundw
      case rel => exact ⟨f, j / 10, digB j ++ out, by go_num, rfl, by omega, by rw [ByteArray.size_append, digB_size]; omega, HM, hba⟩
      case measure => simp [intOf]; omega
    · have e : j = 0 := by omega
      have hm2 := hm.out
      rw [e, mtFin_zero] at hm2
      have HM := Lib.hid (show mtx k = ⟨#[109]⟩ ++ out by rw [mtx, if_neg h0]; exact hm2)
      have d0 : ¬ ((0 : Int) < j) := by omega
      have hc1 : (⟨#[109]⟩ : ByteArray).size + out.size ≤ 9223372036854775807 := by show 1 + out.size ≤ _; omega
      have hc2 : 1 + out.size ≤ 9223372036854775807 := by omega
      clear hm hm2 e
      go_wp2_with fail
      go_ret
      exact ⟨by rw [HM.out]; rfl, hb⟩
end Go.Proofs.YtgmgjjoalpnmhaaGreat
namespace Go.Proofs.YtgmgjjoalpnmhaaGreat
open Go.RowKit
set_option linter.unusedVariables false

theorem Int.toSh : ∀ (ok : Nat → Prop) (w : World) (cs : List Value) (x : Int), True → IntR ok w cs x → ShF 1 ok w cs ((fun _ : Int => 1) x) := fun _ _ cs x _ h => by
  have e : cs = _ := h
  subst e
  refine ⟨rfl, fun j v hv => ?_, rfl⟩
  have hj : j < 1 := (List.getElem?_eq_some_iff.1 hv).1
  have : j = 0 := by omega
  rcases this with rfl <;> (obtain rfl := Option.some.inj hv; rfl)
theorem Tk.toSh : ∀ (ok : Nat → Prop) (w : World) (cs : List Value) (x : Tk), True → TkR ok w cs x → ShF 5 ok w cs ((fun _ : Tk => 5) x) := fun _ _ cs x _ h => by
  have e : cs = _ := h
  subst e
  refine ⟨rfl, fun j v hv => ?_, rfl⟩
  have hj : j < 5 := (List.getElem?_eq_some_iff.1 hv).1
  have : j = 0 ∨ j = 1 ∨ j = 2 ∨ j = 3 ∨ j = 4 := by omega
  rcases this with rfl | rfl | rfl | rfl | rfl <;> (obtain rfl := Option.some.inj hv; rfl)
theorem Vl.toSh : ∀ (ok : Nat → Prop) (w : World) (cs : List Value) (x : Vl), True → VlR ok w cs x → ShF 3 ok w cs ((fun _ : Vl => 3) x) := fun _ _ cs x _ h => by
  have e : cs = _ := h
  subst e
  refine ⟨rfl, fun j v hv => ?_, rfl⟩
  have hj : j < 3 := (List.getElem?_eq_some_iff.1 hv).1
  have : j = 0 ∨ j = 1 ∨ j = 2 := by omega
  rcases this with rfl | rfl | rfl <;> (obtain rfl := Option.some.inj hv; rfl)
theorem Cl.toSh : ∀ (ok : Nat → Prop) (w : World) (cs : List Value) (x : Cl), True → ClR ok w cs x → ShF 6 ok w cs ((fun _ : Cl => 6) x) := fun _ _ cs x _ h => by
  have e : cs = _ := h
  subst e
  refine ⟨rfl, fun j v hv => ?_, rfl⟩
  have hj : j < 6 := (List.getElem?_eq_some_iff.1 hv).1
  have : j = 0 ∨ j = 1 ∨ j = 2 ∨ j = 3 ∨ j = 4 ∨ j = 5 := by omega
  rcases this with rfl | rfl | rfl | rfl | rfl | rfl <;> (obtain rfl := Option.some.inj hv; rfl)
def UqSh : Rd Nat := fun ok w cs d => ∃ (A0 : Option Addr) (n0 c0 : Nat) (m0 : List Nat), cs = [.slice A0 n0 c0] ∧ (True) ∧ Sl (ShF 1) 1 ok w A0 n0 m0 ∧ (n0 ≤ 1048576) ∧ d = m0.sum
theorem UqSh.keeps : KStays UqSh := by
  intro ok B E w w' cs cs' d hR hk hl hc
  obtain ⟨A0, n0, c0, m0, rfl, -, h0, hcp, hd⟩ := hR
  match cs', hl with
  | [x0], _ =>
    obtain ⟨y0, e0, s0, t0⟩ := hc 0 _ rfl
    obtain rfl : x0 = y0 := Option.some.inj e0
    obtain rfl := s0 rfl
    exact ⟨A0, n0, c0, m0, rfl, trivial, h0.shape (ShF.keeps 1) hk, hcp, hd⟩
def Uq.cnt (x : Uq) : Nat := (x.cols.map (fun _ : Int => 1)).sum
theorem Uq.toSh : ∀ (ok : Nat → Prop) (w : World) (cs : List Value) (x : Uq), x.sz ≤ 1048576 → UqR ok w cs x → UqSh ok w cs x.cnt := fun _ _ _ x hs ⟨A0, n0, c0, e, h0, _⟩ =>
  ⟨A0, n0, c0, _, e, trivial, h0.toSh Int.toSh (fun _ _ => trivial), (by have h1 := h0.1; unfold Uq.sz at hs; (try simp only [szL] at hs); omega), rfl⟩
theorem Uq.cnt_le (x : Uq) : x.cnt ≤ 6 * (x.sz + 1) := by
  unfold Uq.cnt Uq.sz
  have z0 : (x.cols.map (fun _ : Int => 1)).sum = x.cols.length := sum_ones _
  omega

def CkSh : Rd Nat := fun ok w cs d => ∃ (A0 : Option Addr) (n0 c0 : Nat) (m0 : List Nat), cs = [.slice A0 n0 c0] ∧ (True) ∧ Sl (ShF 5) 5 ok w A0 n0 m0 ∧ (n0 ≤ 1048576) ∧ d = m0.sum
theorem CkSh.keeps : KStays CkSh := by
  intro ok B E w w' cs cs' d hR hk hl hc
  obtain ⟨A0, n0, c0, m0, rfl, -, h0, hcp, hd⟩ := hR
  match cs', hl with
  | [x0], _ =>
    obtain ⟨y0, e0, s0, t0⟩ := hc 0 _ rfl
    obtain rfl : x0 = y0 := Option.some.inj e0
    obtain rfl := s0 rfl
    exact ⟨A0, n0, c0, m0, rfl, trivial, h0.shape (ShF.keeps 5) hk, hcp, hd⟩
def Ck.cnt (x : Ck) : Nat := (x.expr.map (fun _ : Tk => 5)).sum
theorem Ck.toSh : ∀ (ok : Nat → Prop) (w : World) (cs : List Value) (x : Ck), x.sz ≤ 1048576 → CkR ok w cs x → CkSh ok w cs x.cnt := fun _ _ _ x hs ⟨A0, n0, c0, e, h0, _⟩ =>
  ⟨A0, n0, c0, _, e, trivial, h0.toSh Tk.toSh (fun _ _ => trivial), (by have h1 := h0.1; unfold Ck.sz at hs; (try simp only [szL] at hs); omega), rfl⟩
theorem Ck.cnt_le (x : Ck) : x.cnt ≤ 6 * (x.sz + 1) := by
  unfold Ck.cnt Ck.sz
  have z0 := sum_le_of (f := (fun _ : Tk => 5)) (g := fun t : Tk => t.vs.size) 6 (fun _ => by omega) x.expr
  omega

def FkSh : Rd Nat := fun ok w cs d => ∃ (A0 : Option Addr) (n0 c0 : Nat) (m0 : List Nat) (u1 u2 u3 u4 : Value), cs = [.slice A0 n0 c0, u1, u2, u3, u4] ∧ (isSl u1 = false ∧ isSl u2 = false ∧ isSl u3 = false ∧ isSl u4 = false) ∧ Sl (ShF 1) 1 ok w A0 n0 m0 ∧ (n0 ≤ 1048576) ∧ d = 4 + m0.sum
theorem FkSh.keeps : KStays FkSh := by
  intro ok B E w w' cs cs' d hR hk hl hc
  obtain ⟨A0, n0, c0, m0, u1, u2, u3, u4, rfl, ⟨g1, g2, g3, g4⟩, h0, hcp, hd⟩ := hR
  match cs', hl with
  | [x0, x1, x2, x3, x4], _ =>
    obtain ⟨y0, e0, s0, t0⟩ := hc 0 _ rfl
    obtain rfl : x0 = y0 := Option.some.inj e0
    obtain ⟨y1, e1, s1, t1⟩ := hc 1 _ rfl
    obtain rfl : x1 = y1 := Option.some.inj e1
    obtain ⟨y2, e2, s2, t2⟩ := hc 2 _ rfl
    obtain rfl : x2 = y2 := Option.some.inj e2
    obtain ⟨y3, e3, s3, t3⟩ := hc 3 _ rfl
    obtain rfl : x3 = y3 := Option.some.inj e3
    obtain ⟨y4, e4, s4, t4⟩ := hc 4 _ rfl
    obtain rfl : x4 = y4 := Option.some.inj e4
    obtain rfl := s0 rfl
    exact ⟨A0, n0, c0, m0, x1, x2, x3, x4, rfl, ⟨t1.trans g1, t2.trans g2, t3.trans g3, t4.trans g4⟩, h0.shape (ShF.keeps 1) hk, hcp, hd⟩
def Fk.cnt (x : Fk) : Nat := 4 + (x.cols.map (fun _ : Int => 1)).sum
theorem Fk.toSh : ∀ (ok : Nat → Prop) (w : World) (cs : List Value) (x : Fk), x.sz ≤ 1048576 → FkR ok w cs x → FkSh ok w cs x.cnt := fun _ _ _ x hs ⟨A0, n0, c0, e, h0, _⟩ =>
  ⟨A0, n0, c0, _, _, _, _, _, e, ⟨rfl, rfl, rfl, rfl⟩, h0.toSh Int.toSh (fun _ _ => trivial), (by have h1 := h0.1; unfold Fk.sz at hs; (try simp only [szL] at hs); omega), rfl⟩
theorem Fk.cnt_le (x : Fk) : x.cnt ≤ 6 * (x.sz + 1) := by
  unfold Fk.cnt Fk.sz
  have z0 : (x.cols.map (fun _ : Int => 1)).sum = x.cols.length := sum_ones _
  omega

def TbSh : Rd Nat := fun ok w cs d => ∃ (A1 : Option Addr) (n1 c1 : Nat) (m1 : List Nat) (A2 : Option Addr) (n2 c2 : Nat) (m2 : List Nat) (A3 : Option Addr) (n3 c3 : Nat) (m3 : List Nat) (A4 : Option Addr) (n4 c4 : Nat) (m4 : List Nat) (A5 : Option Addr) (n5 c5 : Nat) (m5 : List Nat) (u0 : Value), cs = [u0, .slice A1 n1 c1, .slice A2 n2 c2, .slice A3 n3 c3, .slice A4 n4 c4, .slice A5 n5 c5] ∧ (isSl u0 = false) ∧ Sl (ShF 6) 6 ok w A1 n1 m1 ∧ Sl (ShF 1) 1 ok w A2 n2 m2 ∧ Sl UqSh 1 ok w A3 n3 m3 ∧ Sl CkSh 1 ok w A4 n4 m4 ∧ Sl FkSh 5 ok w A5 n5 m5 ∧ (n1 ≤ 1048576 ∧ n2 ≤ 1048576 ∧ n3 ≤ 1048576 ∧ n4 ≤ 1048576 ∧ n5 ≤ 1048576) ∧ d = 1 + m1.sum + m2.sum + m3.sum + m4.sum + m5.sum
theorem TbSh.keeps : KStays TbSh := by
  intro ok B E w w' cs cs' d hR hk hl hc
  obtain ⟨A1, n1, c1, m1, A2, n2, c2, m2, A3, n3, c3, m3, A4, n4, c4, m4, A5, n5, c5, m5, u0, rfl, g0, h1, h2, h3, h4, h5, hcp, hd⟩ := hR
  match cs', hl with
  | [x0, x1, x2, x3, x4, x5], _ =>
    obtain ⟨y0, e0, s0, t0⟩ := hc 0 _ rfl
    obtain rfl : x0 = y0 := Option.some.inj e0
    obtain ⟨y1, e1, s1, t1⟩ := hc 1 _ rfl
    obtain rfl : x1 = y1 := Option.some.inj e1
    obtain ⟨y2, e2, s2, t2⟩ := hc 2 _ rfl
    obtain rfl : x2 = y2 := Option.some.inj e2
    obtain ⟨y3, e3, s3, t3⟩ := hc 3 _ rfl
    obtain rfl : x3 = y3 := Option.some.inj e3
    obtain ⟨y4, e4, s4, t4⟩ := hc 4 _ rfl
    obtain rfl : x4 = y4 := Option.some.inj e4
    obtain ⟨y5, e5, s5, t5⟩ := hc 5 _ rfl
    obtain rfl : x5 = y5 := Option.some.inj e5
    obtain rfl := s1 rfl
    obtain rfl := s2 rfl
    obtain rfl := s3 rfl
    obtain rfl := s4 rfl
    obtain rfl := s5 rfl
    exact ⟨A1, n1, c1, m1, A2, n2, c2, m2, A3, n3, c3, m3, A4, n4, c4, m4, A5, n5, c5, m5, x0, rfl, t0.trans g0, h1.shape (ShF.keeps 6) hk, h2.shape (ShF.keeps 1) hk, h3.shape UqSh.keeps hk, h4.shape CkSh.keeps hk, h5.shape FkSh.keeps hk, hcp, hd⟩
def Tb.cnt (x : Tb) : Nat := 1 + (x.cols.map (fun _ : Cl => 6)).sum + (x.key.map (fun _ : Int => 1)).sum + (x.uniqs.map Uq.cnt).sum + (x.checks.map Ck.cnt).sum + (x.fks.map Fk.cnt).sum
theorem Tb.toSh : ∀ (ok : Nat → Prop) (w : World) (cs : List Value) (x : Tb), x.sz ≤ 1048576 → TbR ok w cs x → TbSh ok w cs x.cnt := fun _ _ _ x hs ⟨A1, n1, c1, A2, n2, c2, A3, n3, c3, A4, n4, c4, A5, n5, c5, e, h1, h2, h3, h4, h5, _⟩ =>
  ⟨A1, n1, c1, _, A2, n2, c2, _, A3, n3, c3, _, A4, n4, c4, _, A5, n5, c5, _, _, e, rfl, h1.toSh Cl.toSh (fun _ _ => trivial), h2.toSh Int.toSh (fun _ _ => trivial), h3.toSh Uq.toSh (fun y hy => by have h1 := szL_mem Uq.sz x.uniqs y hy; unfold Tb.sz at hs; omega), h4.toSh Ck.toSh (fun y hy => by have h1 := szL_mem Ck.sz x.checks y hy; unfold Tb.sz at hs; omega), h5.toSh Fk.toSh (fun y hy => by have h1 := szL_mem Fk.sz x.fks y hy; unfold Tb.sz at hs; omega), ⟨(by have h1 := h1.1; unfold Tb.sz at hs; (try simp only [szL] at hs); omega), (by have h1 := h2.1; unfold Tb.sz at hs; (try simp only [szL] at hs); omega), (by have h1 := h3.1; unfold Tb.sz at hs; (try simp only [szL] at hs); omega), (by have h1 := h4.1; unfold Tb.sz at hs; (try simp only [szL] at hs); omega), (by have h1 := h5.1; unfold Tb.sz at hs; (try simp only [szL] at hs); omega)⟩, rfl⟩
theorem Tb.cnt_le (x : Tb) : x.cnt ≤ 6 * (x.sz + 1) := by
  unfold Tb.cnt Tb.sz
  have z1 := sum_le_of (f := (fun _ : Cl => 6)) (g := Cl.sz) 6 (fun _ => by omega) x.cols
  have z2 : (x.key.map (fun _ : Int => 1)).sum = x.key.length := sum_ones _
  have z3 := sum_le_of (f := Uq.cnt) (g := Uq.sz) 6 Uq.cnt_le x.uniqs
  have z4 := sum_le_of (f := Ck.cnt) (g := Ck.sz) 6 Ck.cnt_le x.checks
  have z5 := sum_le_of (f := Fk.cnt) (g := Fk.sz) 6 Fk.cnt_le x.fks
  omega

def RwSh : Rd Nat := fun ok w cs d => ∃ (A1 : Option Addr) (n1 c1 : Nat) (m1 : List Nat) (u0 : Value), cs = [u0, .slice A1 n1 c1] ∧ (isSl u0 = false) ∧ Sl (ShF 3) 3 ok w A1 n1 m1 ∧ (n1 ≤ 1048576) ∧ d = 1 + m1.sum
theorem RwSh.keeps : KStays RwSh := by
  intro ok B E w w' cs cs' d hR hk hl hc
  obtain ⟨A1, n1, c1, m1, u0, rfl, g0, h1, hcp, hd⟩ := hR
  match cs', hl with
  | [x0, x1], _ =>
    obtain ⟨y0, e0, s0, t0⟩ := hc 0 _ rfl
    obtain rfl : x0 = y0 := Option.some.inj e0
    obtain ⟨y1, e1, s1, t1⟩ := hc 1 _ rfl
    obtain rfl : x1 = y1 := Option.some.inj e1
    obtain rfl := s1 rfl
    exact ⟨A1, n1, c1, m1, x0, rfl, t0.trans g0, h1.shape (ShF.keeps 3) hk, hcp, hd⟩
def Rw.cnt (x : Rw) : Nat := 1 + (x.vals.map (fun _ : Vl => 3)).sum
theorem Rw.toSh : ∀ (ok : Nat → Prop) (w : World) (cs : List Value) (x : Rw), x.sz ≤ 1048576 → RwR ok w cs x → RwSh ok w cs x.cnt := fun _ _ _ x hs ⟨A1, n1, c1, e, h1, _⟩ =>
  ⟨A1, n1, c1, _, _, e, rfl, h1.toSh Vl.toSh (fun _ _ => trivial), (by have h1 := h1.1; unfold Rw.sz at hs; (try simp only [szL] at hs); omega), rfl⟩
theorem Rw.cnt_le (x : Rw) : x.cnt ≤ 6 * (x.sz + 1) := by
  unfold Rw.cnt Rw.sz
  have z1 := sum_le_of (f := (fun _ : Vl => 3)) (g := fun v : Vl => v.s.size) 6 (fun _ => by omega) x.vals
  omega

def DtSh : Rd Nat := fun ok w cs d => ∃ (A0 : Option Addr) (n0 c0 : Nat) (m0 : List Nat), cs = [.slice A0 n0 c0] ∧ (True) ∧ Sl RwSh 2 ok w A0 n0 m0 ∧ (n0 ≤ 1048576) ∧ d = m0.sum
theorem DtSh.keeps : KStays DtSh := by
  intro ok B E w w' cs cs' d hR hk hl hc
  obtain ⟨A0, n0, c0, m0, rfl, -, h0, hcp, hd⟩ := hR
  match cs', hl with
  | [x0], _ =>
    obtain ⟨y0, e0, s0, t0⟩ := hc 0 _ rfl
    obtain rfl : x0 = y0 := Option.some.inj e0
    obtain rfl := s0 rfl
    exact ⟨A0, n0, c0, m0, rfl, trivial, h0.shape RwSh.keeps hk, hcp, hd⟩
def Dt.cnt (x : Dt) : Nat := (x.rows.map Rw.cnt).sum
theorem Dt.toSh : ∀ (ok : Nat → Prop) (w : World) (cs : List Value) (x : Dt), x.sz ≤ 1048576 → DtR ok w cs x → DtSh ok w cs x.cnt := fun _ _ _ x hs ⟨A0, n0, c0, e, h0, _⟩ =>
  ⟨A0, n0, c0, _, e, trivial, h0.toSh Rw.toSh (fun y hy => by have h1 := szL_mem Rw.sz x.rows y hy; unfold Dt.sz at hs; omega), (by have h1 := h0.1; unfold Dt.sz at hs; (try simp only [szL] at hs); omega), rfl⟩
theorem Dt.cnt_le (x : Dt) : x.cnt ≤ 6 * (x.sz + 1) := by
  unfold Dt.cnt Dt.sz
  have z0 := sum_le_of (f := Rw.cnt) (g := Rw.sz) 6 Rw.cnt_le x.rows
  omega

set_option maxRecDepth 100000 in
set_option maxHeartbeats 1000000 in
theorem marksIntL (A : Option Addr) (n c : Nat) (ms : List Nat) (ok : Nat → Prop) (B E k : Nat) (w : World) (h : Sl (ShF 1) 1 ok w A n ms) (hm : mayMark B E w ok) (hk : k + ms.sum ≤ 1073741824) (hn : n ≤ 1048576) {x : Int} (hx : x = k) :
    Calls Tryz.prog 17 #[.slice A n c, .int .i64 x] w fun e w' => e = .returned (.int .i64 ((k + ms.sum : Nat) : Int)) ∧ Kept B E w w' := by
  obtain rfl : ms.length = n := h.1
  subst hx
  go_enter Tryz.func17, Tryz.ntmps17
  go_wp2_with fail
  go_loopw [1, 5] (fun m i wr => ∃ (j t : Nat), j ≤ ms.length ∧ i = .int .i64 j ∧ m = .int .i64 ((k + t : Nat) : Int) ∧ Hid ((ms.take j).sum = t) ∧ Kept B E w wr) (fun _ i _ => ms.length - (intOf i).toNat)
  case atStart => exact ⟨0, 0, by omega, rfl, by simp, Lib.hid (by simp), Kept.refl _ _ _⟩
  case round =>
    obtain ⟨i, t, hi, rfl, rfl, ht, hK⟩ := hrel
    by_cases hlt : i < ms.length
    · have hsh := h.shape (ShF.keeps 1) hK
      have hmm := hm.kept hK
      obtain ⟨b, off, rfl, hob, hcs⟩ := hsh.2 (by omega)
      obtain ⟨cs, hcl, hR, hg⟩ := hcs i hlt
      have hst := sum_take_n ms i hlt
      have hsl := sum_take_n_le ms (i + 1)
      rw [ht.out] at hst
      obtain ⟨hB, hE, -, hfr⟩ := hmm b hob
      obtain ⟨u0, rfl⟩ : ∃ u0, cs = [u0] := by
        have h0 := hR.1
        match cs, h0 with
        | [x0], _ => exact ⟨x0, rfl⟩
      have g0 : isSl u0 = false := hR.2.1 0 _ rfl
      have hd : ms[i] = 1 := hR.2.2
      have q0 : wr.cell? ⟨b, off + i, none⟩ = some (u0) := by have := hg 0 _ rfl; rwa [Nat.mul_one] at this
      have hle : k + t + (1) ≤ 1073741824 := by omega
      have HD := Lib.hid hd
      have HST := Lib.hid hst
      clear hd hst hsl
      have f0 := hfr (off + i)
      have Q0 := Lib.hid q0
      have G0 := Lib.hid g0
      have HB := Lib.hid hB
      have HE := Lib.hid hE
      have HR := Lib.hid hfr
      have HO := Lib.hid hob
      clear hsh hcs hg hR hB hE hfr g0
      have HMM := Lib.hid hmm
      clear hmm
      go_wp2_with fail
      go_roundw
      case rel => exact ⟨i + 1, t + ms[i], by omega, by go_num, by rw [HD.out]; go_num, Lib.hid HST.out, hK.trans (by refine Kept.set ?_ Q0.out G0.out HB.out HE.out rfl; exact Kept.refl B E wr)⟩
      case measure => simp [intOf]; omega
    · obtain rfl : i = ms.length := by omega
      have e := ht.out
      rw [List.take_of_length_le (Nat.le_refl _)] at e
      have HT := Lib.hid e
      clear e ht
      go_wp2_with fail
      go_ret
      exact ⟨retI (by rw [HT.out]), hK⟩

set_option maxRecDepth 100000 in
set_option maxHeartbeats 1000000 in
theorem marksTokL (A : Option Addr) (n c : Nat) (ms : List Nat) (ok : Nat → Prop) (B E k : Nat) (w : World) (h : Sl (ShF 5) 5 ok w A n ms) (hm : mayMark B E w ok) (hk : k + ms.sum ≤ 1073741824) (hn : n ≤ 1048576) {x : Int} (hx : x = k) :
    Calls Tryz.prog 96 #[.slice A n c, .int .i64 x] w fun e w' => e = .returned (.int .i64 ((k + ms.sum : Nat) : Int)) ∧ Kept B E w w' := by
  obtain rfl : ms.length = n := h.1
  subst hx
  go_enter Tryz.func96, Tryz.ntmps96
  go_wp2_with fail
  go_loopw [1, 5] (fun m i wr => ∃ (j t : Nat), j ≤ ms.length ∧ i = .int .i64 j ∧ m = .int .i64 ((k + t : Nat) : Int) ∧ Hid ((ms.take j).sum = t) ∧ Kept B E w wr) (fun _ i _ => ms.length - (intOf i).toNat)
  case atStart => exact ⟨0, 0, by omega, rfl, by simp, Lib.hid (by simp), Kept.refl _ _ _⟩
  case round =>
    obtain ⟨i, t, hi, rfl, rfl, ht, hK⟩ := hrel
    by_cases hlt : i < ms.length
    · have hsh := h.shape (ShF.keeps 5) hK
      have hmm := hm.kept hK
      obtain ⟨b, off, rfl, hob, hcs⟩ := hsh.2 (by omega)
      obtain ⟨cs, hcl, hR, hg⟩ := hcs i hlt
      have hst := sum_take_n ms i hlt
      have hsl := sum_take_n_le ms (i + 1)
      rw [ht.out] at hst
      obtain ⟨hB, hE, -, hfr⟩ := hmm b hob
      obtain ⟨u0, u1, u2, u3, u4, rfl⟩ : ∃ u0 u1 u2 u3 u4, cs = [u0, u1, u2, u3, u4] := by
        have h0 := hR.1
        match cs, h0 with
        | [x0, x1, x2, x3, x4], _ => exact ⟨x0, x1, x2, x3, x4, rfl⟩
      have g0 : isSl u0 = false := hR.2.1 0 _ rfl
      have g1 : isSl u1 = false := hR.2.1 1 _ rfl
      have g2 : isSl u2 = false := hR.2.1 2 _ rfl
      have g3 : isSl u3 = false := hR.2.1 3 _ rfl
      have g4 : isSl u4 = false := hR.2.1 4 _ rfl
      have hd : ms[i] = 5 := hR.2.2
      have q0 : wr.cell? ⟨b, off + i * 5, none⟩ = some (u0) := hg 0 _ rfl
      have q1 : wr.cell? ⟨b, off + i * 5 + 1, none⟩ = some (u1) := hg 1 _ rfl
      have q2 : wr.cell? ⟨b, off + i * 5 + 2, none⟩ = some (u2) := hg 2 _ rfl
      have q3 : wr.cell? ⟨b, off + i * 5 + 3, none⟩ = some (u3) := hg 3 _ rfl
      have q4 : wr.cell? ⟨b, off + i * 5 + 4, none⟩ = some (u4) := hg 4 _ rfl
      have hle : k + t + (5) ≤ 1073741824 := by omega
      have HD := Lib.hid hd
      have HST := Lib.hid hst
      clear hd hst hsl
      have f0 := hfr (off + i * 5)
      have f1 := hfr (off + i * 5 + 1)
      have f2 := hfr (off + i * 5 + 2)
      have f3 := hfr (off + i * 5 + 3)
      have f4 := hfr (off + i * 5 + 4)
      have Q0 := Lib.hid q0
      have Q1 := Lib.hid q1
      have Q2 := Lib.hid q2
      have Q3 := Lib.hid q3
      have Q4 := Lib.hid q4
      have G0 := Lib.hid g0
      have G1 := Lib.hid g1
      have G2 := Lib.hid g2
      have G3 := Lib.hid g3
      have G4 := Lib.hid g4
      have HB := Lib.hid hB
      have HE := Lib.hid hE
      have HR := Lib.hid hfr
      have HO := Lib.hid hob
      clear hsh hcs hg hR hB hE hfr g0 g1 g2 g3 g4
      have HMM := Lib.hid hmm
      clear hmm
      go_wp2_with fail
      refine (lawsMarkText (k + t + 4) _ (by omega) (by omega)).mono ?_
      rintro e w1 ⟨rfl, hb1⟩
      have hk1 : Kept B E wr w1 := by refine (Kept.below hb1).after ?_; refine Kept.set ?_ Q3.out G3.out HB.out HE.out rfl; refine Kept.set ?_ Q2.out G2.out HB.out HE.out rfl; refine Kept.set ?_ Q1.out G1.out HB.out HE.out rfl; refine Kept.set ?_ Q0.out G0.out HB.out HE.out rfl; exact Kept.refl B E wr
      obtain ⟨v1_0, z1_0, -, -⟩ := hk1.cell _ _ Q0.out
      have k1_0 := (HMM.out.kept hk1 b HO.out).2.2.2 (off + i * 5)
      obtain ⟨v1_1, z1_1, -, -⟩ := hk1.cell _ _ Q1.out
      have k1_1 := (HMM.out.kept hk1 b HO.out).2.2.2 (off + i * 5 + 1)
      obtain ⟨v1_2, z1_2, -, -⟩ := hk1.cell _ _ Q2.out
      have k1_2 := (HMM.out.kept hk1 b HO.out).2.2.2 (off + i * 5 + 2)
      obtain ⟨v1_3, z1_3, -, -⟩ := hk1.cell _ _ Q3.out
      have k1_3 := (HMM.out.kept hk1 b HO.out).2.2.2 (off + i * 5 + 3)
      obtain ⟨v1_4, z1_4, -, -⟩ := hk1.cell _ _ Q4.out
      have k1_4 := (HMM.out.kept hk1 b HO.out).2.2.2 (off + i * 5 + 4)
      clear q0 q1 q2 q3 q4 f0 f1 f2 f3 f4
      go_wp2_with fail
      go_roundw
      case rel => exact ⟨i + 1, t + ms[i], by omega, by go_num, by rw [HD.out]; go_num, Lib.hid HST.out, hK.trans (by refine Kept.set ?_ Q4.out G4.out HB.out HE.out rfl; exact hk1)⟩
      case measure => simp [intOf]; omega
    · obtain rfl : i = ms.length := by omega
      have e := ht.out
      rw [List.take_of_length_le (Nat.le_refl _)] at e
      have HT := Lib.hid e
      clear e ht
      go_wp2_with fail
      go_ret
      exact ⟨retI (by rw [HT.out]), hK⟩

set_option maxRecDepth 100000 in
set_option maxHeartbeats 1000000 in
theorem marksValL (A : Option Addr) (n c : Nat) (ms : List Nat) (ok : Nat → Prop) (B E k : Nat) (w : World) (h : Sl (ShF 3) 3 ok w A n ms) (hm : mayMark B E w ok) (hk : k + ms.sum ≤ 1073741824) (hn : n ≤ 1048576) {x : Int} (hx : x = k) :
    Calls Tryz.prog 34 #[.slice A n c, .int .i64 x] w fun e w' => e = .returned (.int .i64 ((k + ms.sum : Nat) : Int)) ∧ Kept B E w w' := by
  obtain rfl : ms.length = n := h.1
  subst hx
  go_enter Tryz.func34, Tryz.ntmps34
  go_wp2_with fail
  go_loopw [1, 5] (fun m i wr => ∃ (j t : Nat), j ≤ ms.length ∧ i = .int .i64 j ∧ m = .int .i64 ((k + t : Nat) : Int) ∧ Hid ((ms.take j).sum = t) ∧ Kept B E w wr) (fun _ i _ => ms.length - (intOf i).toNat)
  case atStart => exact ⟨0, 0, by omega, rfl, by simp, Lib.hid (by simp), Kept.refl _ _ _⟩
  case round =>
    obtain ⟨i, t, hi, rfl, rfl, ht, hK⟩ := hrel
    by_cases hlt : i < ms.length
    · have hsh := h.shape (ShF.keeps 3) hK
      have hmm := hm.kept hK
      obtain ⟨b, off, rfl, hob, hcs⟩ := hsh.2 (by omega)
      obtain ⟨cs, hcl, hR, hg⟩ := hcs i hlt
      have hst := sum_take_n ms i hlt
      have hsl := sum_take_n_le ms (i + 1)
      rw [ht.out] at hst
      obtain ⟨hB, hE, -, hfr⟩ := hmm b hob
      obtain ⟨u0, u1, u2, rfl⟩ : ∃ u0 u1 u2, cs = [u0, u1, u2] := by
        have h0 := hR.1
        match cs, h0 with
        | [x0, x1, x2], _ => exact ⟨x0, x1, x2, rfl⟩
      have g0 : isSl u0 = false := hR.2.1 0 _ rfl
      have g1 : isSl u1 = false := hR.2.1 1 _ rfl
      have g2 : isSl u2 = false := hR.2.1 2 _ rfl
      have hd : ms[i] = 3 := hR.2.2
      have q0 : wr.cell? ⟨b, off + i * 3, none⟩ = some (u0) := hg 0 _ rfl
      have q1 : wr.cell? ⟨b, off + i * 3 + 1, none⟩ = some (u1) := hg 1 _ rfl
      have q2 : wr.cell? ⟨b, off + i * 3 + 2, none⟩ = some (u2) := hg 2 _ rfl
      have hle : k + t + (3) ≤ 1073741824 := by omega
      have HD := Lib.hid hd
      have HST := Lib.hid hst
      clear hd hst hsl
      have f0 := hfr (off + i * 3)
      have f1 := hfr (off + i * 3 + 1)
      have f2 := hfr (off + i * 3 + 2)
      have Q0 := Lib.hid q0
      have Q1 := Lib.hid q1
      have Q2 := Lib.hid q2
      have G0 := Lib.hid g0
      have G1 := Lib.hid g1
      have G2 := Lib.hid g2
      have HB := Lib.hid hB
      have HE := Lib.hid hE
      have HR := Lib.hid hfr
      have HO := Lib.hid hob
      clear hsh hcs hg hR hB hE hfr g0 g1 g2
      have HMM := Lib.hid hmm
      clear hmm
      go_wp2_with fail
      refine (lawsMarkText (k + t + 2) _ (by omega) (by omega)).mono ?_
      rintro e w1 ⟨rfl, hb1⟩
      have hk1 : Kept B E wr w1 := by refine (Kept.below hb1).after ?_; refine Kept.set ?_ Q1.out G1.out HB.out HE.out rfl; refine Kept.set ?_ Q0.out G0.out HB.out HE.out rfl; exact Kept.refl B E wr
      obtain ⟨v1_0, z1_0, -, -⟩ := hk1.cell _ _ Q0.out
      have k1_0 := (HMM.out.kept hk1 b HO.out).2.2.2 (off + i * 3)
      obtain ⟨v1_1, z1_1, -, -⟩ := hk1.cell _ _ Q1.out
      have k1_1 := (HMM.out.kept hk1 b HO.out).2.2.2 (off + i * 3 + 1)
      obtain ⟨v1_2, z1_2, -, -⟩ := hk1.cell _ _ Q2.out
      have k1_2 := (HMM.out.kept hk1 b HO.out).2.2.2 (off + i * 3 + 2)
      clear q0 q1 q2 f0 f1 f2
      go_wp2_with fail
      go_roundw
      case rel => exact ⟨i + 1, t + ms[i], by omega, by go_num, by rw [HD.out]; go_num, Lib.hid HST.out, hK.trans (by refine Kept.set ?_ Q2.out G2.out HB.out HE.out rfl; exact hk1)⟩
      case measure => simp [intOf]; omega
    · obtain rfl : i = ms.length := by omega
      have e := ht.out
      rw [List.take_of_length_le (Nat.le_refl _)] at e
      have HT := Lib.hid e
      clear e ht
      go_wp2_with fail
      go_ret
      exact ⟨retI (by rw [HT.out]), hK⟩

set_option maxRecDepth 100000 in
set_option maxHeartbeats 1000000 in
theorem marksColL (A : Option Addr) (n c : Nat) (ms : List Nat) (ok : Nat → Prop) (B E k : Nat) (w : World) (h : Sl (ShF 6) 6 ok w A n ms) (hm : mayMark B E w ok) (hk : k + ms.sum ≤ 1073741824) (hn : n ≤ 1048576) {x : Int} (hx : x = k) :
    Calls Tryz.prog 52 #[.slice A n c, .int .i64 x] w fun e w' => e = .returned (.int .i64 ((k + ms.sum : Nat) : Int)) ∧ Kept B E w w' := by
  obtain rfl : ms.length = n := h.1
  subst hx
  go_enter Tryz.func52, Tryz.ntmps52
  go_wp2_with fail
  go_loopw [1, 5] (fun m i wr => ∃ (j t : Nat), j ≤ ms.length ∧ i = .int .i64 j ∧ m = .int .i64 ((k + t : Nat) : Int) ∧ Hid ((ms.take j).sum = t) ∧ Kept B E w wr) (fun _ i _ => ms.length - (intOf i).toNat)
  case atStart => exact ⟨0, 0, by omega, rfl, by simp, Lib.hid (by simp), Kept.refl _ _ _⟩
  case round =>
    obtain ⟨i, t, hi, rfl, rfl, ht, hK⟩ := hrel
    by_cases hlt : i < ms.length
    · have hsh := h.shape (ShF.keeps 6) hK
      have hmm := hm.kept hK
      obtain ⟨b, off, rfl, hob, hcs⟩ := hsh.2 (by omega)
      obtain ⟨cs, hcl, hR, hg⟩ := hcs i hlt
      have hst := sum_take_n ms i hlt
      have hsl := sum_take_n_le ms (i + 1)
      rw [ht.out] at hst
      obtain ⟨hB, hE, -, hfr⟩ := hmm b hob
      obtain ⟨u0, u1, u2, u3, u4, u5, rfl⟩ : ∃ u0 u1 u2 u3 u4 u5, cs = [u0, u1, u2, u3, u4, u5] := by
        have h0 := hR.1
        match cs, h0 with
        | [x0, x1, x2, x3, x4, x5], _ => exact ⟨x0, x1, x2, x3, x4, x5, rfl⟩
      have g0 : isSl u0 = false := hR.2.1 0 _ rfl
      have g1 : isSl u1 = false := hR.2.1 1 _ rfl
      have g2 : isSl u2 = false := hR.2.1 2 _ rfl
      have g3 : isSl u3 = false := hR.2.1 3 _ rfl
      have g4 : isSl u4 = false := hR.2.1 4 _ rfl
      have g5 : isSl u5 = false := hR.2.1 5 _ rfl
      have hd : ms[i] = 6 := hR.2.2
      have q0 : wr.cell? ⟨b, off + i * 6, none⟩ = some (u0) := hg 0 _ rfl
      have q1 : wr.cell? ⟨b, off + i * 6 + 1, none⟩ = some (u1) := hg 1 _ rfl
      have q2 : wr.cell? ⟨b, off + i * 6 + 2, none⟩ = some (u2) := hg 2 _ rfl
      have q3 : wr.cell? ⟨b, off + i * 6 + 3, none⟩ = some (u3) := hg 3 _ rfl
      have q4 : wr.cell? ⟨b, off + i * 6 + 4, none⟩ = some (u4) := hg 4 _ rfl
      have q5 : wr.cell? ⟨b, off + i * 6 + 5, none⟩ = some (u5) := hg 5 _ rfl
      have hle : k + t + (6) ≤ 1073741824 := by omega
      have HD := Lib.hid hd
      have HST := Lib.hid hst
      clear hd hst hsl
      have f0 := hfr (off + i * 6)
      have f1 := hfr (off + i * 6 + 1)
      have f2 := hfr (off + i * 6 + 2)
      have f3 := hfr (off + i * 6 + 3)
      have f4 := hfr (off + i * 6 + 4)
      have f5 := hfr (off + i * 6 + 5)
      have Q0 := Lib.hid q0
      have Q1 := Lib.hid q1
      have Q2 := Lib.hid q2
      have Q3 := Lib.hid q3
      have Q4 := Lib.hid q4
      have Q5 := Lib.hid q5
      have G0 := Lib.hid g0
      have G1 := Lib.hid g1
      have G2 := Lib.hid g2
      have G3 := Lib.hid g3
      have G4 := Lib.hid g4
      have G5 := Lib.hid g5
      have HB := Lib.hid hB
      have HE := Lib.hid hE
      have HR := Lib.hid hfr
      have HO := Lib.hid hob
      clear hsh hcs hg hR hB hE hfr g0 g1 g2 g3 g4 g5
      have HMM := Lib.hid hmm
      clear hmm
      go_wp2_with fail
      refine (lawsMarkText (k + t) _ (by omega) (by omega)).mono ?_
      rintro e w1 ⟨rfl, hb1⟩
      have hk1 : Kept B E wr w1 := by refine (Kept.below hb1).after ?_; exact Kept.refl B E wr
      obtain ⟨v1_0, z1_0, -, -⟩ := hk1.cell _ _ Q0.out
      have k1_0 := (HMM.out.kept hk1 b HO.out).2.2.2 (off + i * 6)
      obtain ⟨v1_1, z1_1, -, -⟩ := hk1.cell _ _ Q1.out
      have k1_1 := (HMM.out.kept hk1 b HO.out).2.2.2 (off + i * 6 + 1)
      obtain ⟨v1_2, z1_2, -, -⟩ := hk1.cell _ _ Q2.out
      have k1_2 := (HMM.out.kept hk1 b HO.out).2.2.2 (off + i * 6 + 2)
      obtain ⟨v1_3, z1_3, -, -⟩ := hk1.cell _ _ Q3.out
      have k1_3 := (HMM.out.kept hk1 b HO.out).2.2.2 (off + i * 6 + 3)
      obtain ⟨v1_4, z1_4, -, -⟩ := hk1.cell _ _ Q4.out
      have k1_4 := (HMM.out.kept hk1 b HO.out).2.2.2 (off + i * 6 + 4)
      obtain ⟨v1_5, z1_5, -, -⟩ := hk1.cell _ _ Q5.out
      have k1_5 := (HMM.out.kept hk1 b HO.out).2.2.2 (off + i * 6 + 5)
      clear q0 q1 q2 q3 q4 q5 f0 f1 f2 f3 f4 f5
      go_wp2_with fail
      refine (lawsMarkText (k + t + 5) _ (by omega) (by omega)).mono ?_
      rintro e w2 ⟨rfl, hb2⟩
      have hk2 : Kept B E wr w2 := by refine (Kept.below hb2).after ?_; refine Kept.set ?_ Q4.out G4.out HB.out HE.out rfl; refine Kept.set ?_ Q3.out G3.out HB.out HE.out rfl; refine Kept.set ?_ Q2.out G2.out HB.out HE.out rfl; refine Kept.set ?_ Q1.out G1.out HB.out HE.out rfl; refine Kept.set ?_ Q0.out G0.out HB.out HE.out rfl; exact hk1
      obtain ⟨v2_0, z2_0, -, -⟩ := hk2.cell _ _ Q0.out
      have k2_0 := (HMM.out.kept hk2 b HO.out).2.2.2 (off + i * 6)
      obtain ⟨v2_1, z2_1, -, -⟩ := hk2.cell _ _ Q1.out
      have k2_1 := (HMM.out.kept hk2 b HO.out).2.2.2 (off + i * 6 + 1)
      obtain ⟨v2_2, z2_2, -, -⟩ := hk2.cell _ _ Q2.out
      have k2_2 := (HMM.out.kept hk2 b HO.out).2.2.2 (off + i * 6 + 2)
      obtain ⟨v2_3, z2_3, -, -⟩ := hk2.cell _ _ Q3.out
      have k2_3 := (HMM.out.kept hk2 b HO.out).2.2.2 (off + i * 6 + 3)
      obtain ⟨v2_4, z2_4, -, -⟩ := hk2.cell _ _ Q4.out
      have k2_4 := (HMM.out.kept hk2 b HO.out).2.2.2 (off + i * 6 + 4)
      obtain ⟨v2_5, z2_5, -, -⟩ := hk2.cell _ _ Q5.out
      have k2_5 := (HMM.out.kept hk2 b HO.out).2.2.2 (off + i * 6 + 5)
      clear z1_0 z1_1 z1_2 z1_3 z1_4 z1_5 k1_0 k1_1 k1_2 k1_3 k1_4 k1_5
      go_wp2_with fail
      go_roundw
      case rel => exact ⟨i + 1, t + ms[i], by omega, by go_num, by rw [HD.out]; go_num, Lib.hid HST.out, hK.trans (by refine Kept.set ?_ Q5.out G5.out HB.out HE.out rfl; exact hk2)⟩
      case measure => simp [intOf]; omega
    · obtain rfl : i = ms.length := by omega
      have e := ht.out
      rw [List.take_of_length_le (Nat.le_refl _)] at e
      have HT := Lib.hid e
      clear e ht
      go_wp2_with fail
      go_ret
      exact ⟨retI (by rw [HT.out]), hK⟩

set_option maxRecDepth 100000 in
set_option maxHeartbeats 1000000 in
theorem marksUniqueL (A : Option Addr) (n c : Nat) (ms : List Nat) (ok : Nat → Prop) (B E k : Nat) (w : World) (h : Sl UqSh 1 ok w A n ms) (hm : mayMark B E w ok) (hk : k + ms.sum ≤ 1073741824) (hn : n ≤ 1048576) {x : Int} (hx : x = k) :
    Calls Tryz.prog 53 #[.slice A n c, .int .i64 x] w fun e w' => e = .returned (.int .i64 ((k + ms.sum : Nat) : Int)) ∧ Kept B E w w' := by
  obtain rfl : ms.length = n := h.1
  subst hx
  go_enter Tryz.func53, Tryz.ntmps53
  go_wp2_with fail
  go_loopw [1, 5] (fun m i wr => ∃ (j t : Nat), j ≤ ms.length ∧ i = .int .i64 j ∧ m = .int .i64 ((k + t : Nat) : Int) ∧ Hid ((ms.take j).sum = t) ∧ Kept B E w wr) (fun _ i _ => ms.length - (intOf i).toNat)
  case atStart => exact ⟨0, 0, by omega, rfl, by simp, Lib.hid (by simp), Kept.refl _ _ _⟩
  case round =>
    obtain ⟨i, t, hi, rfl, rfl, ht, hK⟩ := hrel
    by_cases hlt : i < ms.length
    · have hsh := h.shape UqSh.keeps hK
      have hmm := hm.kept hK
      obtain ⟨b, off, rfl, hob, hcs⟩ := hsh.2 (by omega)
      obtain ⟨cs, hcl, hR, hg⟩ := hcs i hlt
      have hst := sum_take_n ms i hlt
      have hsl := sum_take_n_le ms (i + 1)
      rw [ht.out] at hst
      obtain ⟨hB, hE, -, hfr⟩ := hmm b hob
      obtain ⟨A0, n0, c0, m0, rfl, -, h0, hcp, hd⟩ := hR
      have q0 : wr.cell? ⟨b, off + i, none⟩ = some (.slice A0 n0 c0) := by have := hg 0 _ rfl; rwa [Nat.mul_one] at this
      have hle : k + t + (m0.sum) ≤ 1073741824 := by omega
      have HD := Lib.hid hd
      have HST := Lib.hid hst
      clear hd hst hsl
      have Q0 := Lib.hid q0
      have HB := Lib.hid hB
      have HE := Lib.hid hE
      have HR := Lib.hid hfr
      have HO := Lib.hid hob
      have HN0 := Lib.hid (hcp)
      clear hcp
      clear hsh hcs hg hB hE hfr
      have HMM := Lib.hid hmm
      clear hmm
      go_wp2_with fail
      refine (marksIntL A0 n0 c0 m0 ok B E (k + t) _ (h0.shape (ShF.keeps 1) (by exact Kept.refl B E wr)) (HMM.out.kept (by exact Kept.refl B E wr)) (by omega) HN0.out (by omega)).mono ?_
      rintro e w1 ⟨rfl, hb1⟩
      have hk1 : Kept B E wr w1 := by refine hb1.after ?_; exact Kept.refl B E wr
      have z1_0 := hk1.slice Q0.out rfl
      clear q0
      go_wp2_with fail
      go_roundw
      case rel => exact ⟨i + 1, t + ms[i], by omega, by go_num, by rw [HD.out]; go_num, Lib.hid HST.out, hK.trans (by exact hk1)⟩
      case measure => simp [intOf]; omega
    · obtain rfl : i = ms.length := by omega
      have e := ht.out
      rw [List.take_of_length_le (Nat.le_refl _)] at e
      have HT := Lib.hid e
      clear e ht
      go_wp2_with fail
      go_ret
      exact ⟨retI (by rw [HT.out]), hK⟩

set_option maxRecDepth 100000 in
set_option maxHeartbeats 1000000 in
theorem marksCheckL (A : Option Addr) (n c : Nat) (ms : List Nat) (ok : Nat → Prop) (B E k : Nat) (w : World) (h : Sl CkSh 1 ok w A n ms) (hm : mayMark B E w ok) (hk : k + ms.sum ≤ 1073741824) (hn : n ≤ 1048576) {x : Int} (hx : x = k) :
    Calls Tryz.prog 54 #[.slice A n c, .int .i64 x] w fun e w' => e = .returned (.int .i64 ((k + ms.sum : Nat) : Int)) ∧ Kept B E w w' := by
  obtain rfl : ms.length = n := h.1
  subst hx
  go_enter Tryz.func54, Tryz.ntmps54
  go_wp2_with fail
  go_loopw [1, 5] (fun m i wr => ∃ (j t : Nat), j ≤ ms.length ∧ i = .int .i64 j ∧ m = .int .i64 ((k + t : Nat) : Int) ∧ Hid ((ms.take j).sum = t) ∧ Kept B E w wr) (fun _ i _ => ms.length - (intOf i).toNat)
  case atStart => exact ⟨0, 0, by omega, rfl, by simp, Lib.hid (by simp), Kept.refl _ _ _⟩
  case round =>
    obtain ⟨i, t, hi, rfl, rfl, ht, hK⟩ := hrel
    by_cases hlt : i < ms.length
    · have hsh := h.shape CkSh.keeps hK
      have hmm := hm.kept hK
      obtain ⟨b, off, rfl, hob, hcs⟩ := hsh.2 (by omega)
      obtain ⟨cs, hcl, hR, hg⟩ := hcs i hlt
      have hst := sum_take_n ms i hlt
      have hsl := sum_take_n_le ms (i + 1)
      rw [ht.out] at hst
      obtain ⟨hB, hE, -, hfr⟩ := hmm b hob
      obtain ⟨A0, n0, c0, m0, rfl, -, h0, hcp, hd⟩ := hR
      have q0 : wr.cell? ⟨b, off + i, none⟩ = some (.slice A0 n0 c0) := by have := hg 0 _ rfl; rwa [Nat.mul_one] at this
      have hle : k + t + (m0.sum) ≤ 1073741824 := by omega
      have HD := Lib.hid hd
      have HST := Lib.hid hst
      clear hd hst hsl
      have Q0 := Lib.hid q0
      have HB := Lib.hid hB
      have HE := Lib.hid hE
      have HR := Lib.hid hfr
      have HO := Lib.hid hob
      have HN0 := Lib.hid (hcp)
      clear hcp
      clear hsh hcs hg hB hE hfr
      have HMM := Lib.hid hmm
      clear hmm
      go_wp2_with fail
      refine (marksTokL A0 n0 c0 m0 ok B E (k + t) _ (h0.shape (ShF.keeps 5) (by exact Kept.refl B E wr)) (HMM.out.kept (by exact Kept.refl B E wr)) (by omega) HN0.out (by omega)).mono ?_
      rintro e w1 ⟨rfl, hb1⟩
      have hk1 : Kept B E wr w1 := by refine hb1.after ?_; exact Kept.refl B E wr
      have z1_0 := hk1.slice Q0.out rfl
      clear q0
      go_wp2_with fail
      go_roundw
      case rel => exact ⟨i + 1, t + ms[i], by omega, by go_num, by rw [HD.out]; go_num, Lib.hid HST.out, hK.trans (by exact hk1)⟩
      case measure => simp [intOf]; omega
    · obtain rfl : i = ms.length := by omega
      have e := ht.out
      rw [List.take_of_length_le (Nat.le_refl _)] at e
      have HT := Lib.hid e
      clear e ht
      go_wp2_with fail
      go_ret
      exact ⟨retI (by rw [HT.out]), hK⟩

set_option maxRecDepth 100000 in
set_option maxHeartbeats 1000000 in
theorem marksFkL (A : Option Addr) (n c : Nat) (ms : List Nat) (ok : Nat → Prop) (B E k : Nat) (w : World) (h : Sl FkSh 5 ok w A n ms) (hm : mayMark B E w ok) (hk : k + ms.sum ≤ 1073741824) (hn : n ≤ 1048576) {x : Int} (hx : x = k) :
    Calls Tryz.prog 55 #[.slice A n c, .int .i64 x] w fun e w' => e = .returned (.int .i64 ((k + ms.sum : Nat) : Int)) ∧ Kept B E w w' := by
  obtain rfl : ms.length = n := h.1
  subst hx
  go_enter Tryz.func55, Tryz.ntmps55
  go_wp2_with fail
  go_loopw [1, 5] (fun m i wr => ∃ (j t : Nat), j ≤ ms.length ∧ i = .int .i64 j ∧ m = .int .i64 ((k + t : Nat) : Int) ∧ Hid ((ms.take j).sum = t) ∧ Kept B E w wr) (fun _ i _ => ms.length - (intOf i).toNat)
  case atStart => exact ⟨0, 0, by omega, rfl, by simp, Lib.hid (by simp), Kept.refl _ _ _⟩
  case round =>
    obtain ⟨i, t, hi, rfl, rfl, ht, hK⟩ := hrel
    by_cases hlt : i < ms.length
    · have hsh := h.shape FkSh.keeps hK
      have hmm := hm.kept hK
      obtain ⟨b, off, rfl, hob, hcs⟩ := hsh.2 (by omega)
      obtain ⟨cs, hcl, hR, hg⟩ := hcs i hlt
      have hst := sum_take_n ms i hlt
      have hsl := sum_take_n_le ms (i + 1)
      rw [ht.out] at hst
      obtain ⟨hB, hE, -, hfr⟩ := hmm b hob
      obtain ⟨A0, n0, c0, m0, u1, u2, u3, u4, rfl, ⟨g1, g2, g3, g4⟩, h0, hcp, hd⟩ := hR
      have q0 : wr.cell? ⟨b, off + i * 5, none⟩ = some (.slice A0 n0 c0) := hg 0 _ rfl
      have q1 : wr.cell? ⟨b, off + i * 5 + 1, none⟩ = some (u1) := hg 1 _ rfl
      have q2 : wr.cell? ⟨b, off + i * 5 + 2, none⟩ = some (u2) := hg 2 _ rfl
      have q3 : wr.cell? ⟨b, off + i * 5 + 3, none⟩ = some (u3) := hg 3 _ rfl
      have q4 : wr.cell? ⟨b, off + i * 5 + 4, none⟩ = some (u4) := hg 4 _ rfl
      have hle : k + t + (4 + m0.sum) ≤ 1073741824 := by omega
      have HD := Lib.hid hd
      have HST := Lib.hid hst
      clear hd hst hsl
      have f1 := hfr (off + i * 5 + 1)
      have f2 := hfr (off + i * 5 + 2)
      have f3 := hfr (off + i * 5 + 3)
      have f4 := hfr (off + i * 5 + 4)
      have Q0 := Lib.hid q0
      have Q1 := Lib.hid q1
      have Q2 := Lib.hid q2
      have Q3 := Lib.hid q3
      have Q4 := Lib.hid q4
      have G1 := Lib.hid g1
      have G2 := Lib.hid g2
      have G3 := Lib.hid g3
      have G4 := Lib.hid g4
      have HB := Lib.hid hB
      have HE := Lib.hid hE
      have HR := Lib.hid hfr
      have HO := Lib.hid hob
      have HN0 := Lib.hid (hcp)
      clear hcp
      clear hsh hcs hg hB hE hfr g1 g2 g3 g4
      have HMM := Lib.hid hmm
      clear hmm
      go_wp2_with fail
      refine (marksIntL A0 n0 c0 m0 ok B E (k + t) _ (h0.shape (ShF.keeps 1) (by exact Kept.refl B E wr)) (HMM.out.kept (by exact Kept.refl B E wr)) (by omega) HN0.out (by omega)).mono ?_
      rintro e w1 ⟨rfl, hb1⟩
      have hk1 : Kept B E wr w1 := by refine hb1.after ?_; exact Kept.refl B E wr
      have z1_0 := hk1.slice Q0.out rfl
      obtain ⟨v1_1, z1_1, -, -⟩ := hk1.cell _ _ Q1.out
      have k1_1 := (HMM.out.kept hk1 b HO.out).2.2.2 (off + i * 5 + 1)
      obtain ⟨v1_2, z1_2, -, -⟩ := hk1.cell _ _ Q2.out
      have k1_2 := (HMM.out.kept hk1 b HO.out).2.2.2 (off + i * 5 + 2)
      obtain ⟨v1_3, z1_3, -, -⟩ := hk1.cell _ _ Q3.out
      have k1_3 := (HMM.out.kept hk1 b HO.out).2.2.2 (off + i * 5 + 3)
      obtain ⟨v1_4, z1_4, -, -⟩ := hk1.cell _ _ Q4.out
      have k1_4 := (HMM.out.kept hk1 b HO.out).2.2.2 (off + i * 5 + 4)
      clear q0 q1 q2 q3 q4 f1 f2 f3 f4
      go_wp2_with fail
      refine (lawsMarkText (k + t + m0.sum) _ (by omega) (by omega)).mono ?_
      rintro e w2 ⟨rfl, hb2⟩
      have hk2 : Kept B E wr w2 := by refine (Kept.below hb2).after ?_; exact hk1
      have z2_0 := hk2.slice Q0.out rfl
      obtain ⟨v2_1, z2_1, -, -⟩ := hk2.cell _ _ Q1.out
      have k2_1 := (HMM.out.kept hk2 b HO.out).2.2.2 (off + i * 5 + 1)
      obtain ⟨v2_2, z2_2, -, -⟩ := hk2.cell _ _ Q2.out
      have k2_2 := (HMM.out.kept hk2 b HO.out).2.2.2 (off + i * 5 + 2)
      obtain ⟨v2_3, z2_3, -, -⟩ := hk2.cell _ _ Q3.out
      have k2_3 := (HMM.out.kept hk2 b HO.out).2.2.2 (off + i * 5 + 3)
      obtain ⟨v2_4, z2_4, -, -⟩ := hk2.cell _ _ Q4.out
      have k2_4 := (HMM.out.kept hk2 b HO.out).2.2.2 (off + i * 5 + 4)
      clear z1_0 z1_1 z1_2 z1_3 z1_4 k1_1 k1_2 k1_3 k1_4
      go_wp2_with fail
      go_roundw
      case rel => exact ⟨i + 1, t + ms[i], by omega, by go_num, by rw [HD.out]; go_num, Lib.hid HST.out, hK.trans (by refine Kept.set ?_ Q4.out G4.out HB.out HE.out rfl; refine Kept.set ?_ Q3.out G3.out HB.out HE.out rfl; refine Kept.set ?_ Q2.out G2.out HB.out HE.out rfl; refine Kept.set ?_ Q1.out G1.out HB.out HE.out rfl; exact hk2)⟩
      case measure => simp [intOf]; omega
    · obtain rfl : i = ms.length := by omega
      have e := ht.out
      rw [List.take_of_length_le (Nat.le_refl _)] at e
      have HT := Lib.hid e
      clear e ht
      go_wp2_with fail
      go_ret
      exact ⟨retI (by rw [HT.out]), hK⟩

set_option maxRecDepth 100000 in
set_option maxHeartbeats 1000000 in
theorem marksTableL (A : Option Addr) (n c : Nat) (ms : List Nat) (ok : Nat → Prop) (B E k : Nat) (w : World) (h : Sl TbSh 6 ok w A n ms) (hm : mayMark B E w ok) (hk : k + ms.sum ≤ 1073741824) (hn : n ≤ 1048576) {x : Int} (hx : x = k) :
    Calls Tryz.prog 16 #[.slice A n c, .int .i64 x] w fun e w' => e = .returned (.int .i64 ((k + ms.sum : Nat) : Int)) ∧ Kept B E w w' := by
  obtain rfl : ms.length = n := h.1
  subst hx
  go_enter Tryz.func16, Tryz.ntmps16
  go_wp2_with fail
  go_loopw [1, 5] (fun m i wr => ∃ (j t : Nat), j ≤ ms.length ∧ i = .int .i64 j ∧ m = .int .i64 ((k + t : Nat) : Int) ∧ Hid ((ms.take j).sum = t) ∧ Kept B E w wr) (fun _ i _ => ms.length - (intOf i).toNat)
  case atStart => exact ⟨0, 0, by omega, rfl, by simp, Lib.hid (by simp), Kept.refl _ _ _⟩
  case round =>
    obtain ⟨i, t, hi, rfl, rfl, ht, hK⟩ := hrel
    by_cases hlt : i < ms.length
    · have hsh := h.shape TbSh.keeps hK
      have hmm := hm.kept hK
      obtain ⟨b, off, rfl, hob, hcs⟩ := hsh.2 (by omega)
      obtain ⟨cs, hcl, hR, hg⟩ := hcs i hlt
      have hst := sum_take_n ms i hlt
      have hsl := sum_take_n_le ms (i + 1)
      rw [ht.out] at hst
      obtain ⟨hB, hE, -, hfr⟩ := hmm b hob
      obtain ⟨A1, n1, c1, m1, A2, n2, c2, m2, A3, n3, c3, m3, A4, n4, c4, m4, A5, n5, c5, m5, u0, rfl, g0, h1, h2, h3, h4, h5, hcp, hd⟩ := hR
      have q0 : wr.cell? ⟨b, off + i * 6, none⟩ = some (u0) := hg 0 _ rfl
      have q1 : wr.cell? ⟨b, off + i * 6 + 1, none⟩ = some (.slice A1 n1 c1) := hg 1 _ rfl
      have q2 : wr.cell? ⟨b, off + i * 6 + 2, none⟩ = some (.slice A2 n2 c2) := hg 2 _ rfl
      have q3 : wr.cell? ⟨b, off + i * 6 + 3, none⟩ = some (.slice A3 n3 c3) := hg 3 _ rfl
      have q4 : wr.cell? ⟨b, off + i * 6 + 4, none⟩ = some (.slice A4 n4 c4) := hg 4 _ rfl
      have q5 : wr.cell? ⟨b, off + i * 6 + 5, none⟩ = some (.slice A5 n5 c5) := hg 5 _ rfl
      have hle : k + t + (1 + m1.sum + m2.sum + m3.sum + m4.sum + m5.sum) ≤ 1073741824 := by omega
      have HD := Lib.hid hd
      have HST := Lib.hid hst
      clear hd hst hsl
      have f0 := hfr (off + i * 6)
      have Q0 := Lib.hid q0
      have Q1 := Lib.hid q1
      have Q2 := Lib.hid q2
      have Q3 := Lib.hid q3
      have Q4 := Lib.hid q4
      have Q5 := Lib.hid q5
      have G0 := Lib.hid g0
      have HB := Lib.hid hB
      have HE := Lib.hid hE
      have HR := Lib.hid hfr
      have HO := Lib.hid hob
      have HN1 := Lib.hid (hcp.1)
      have HN2 := Lib.hid (hcp.2.1)
      have HN3 := Lib.hid (hcp.2.2.1)
      have HN4 := Lib.hid (hcp.2.2.2.1)
      have HN5 := Lib.hid (hcp.2.2.2.2)
      clear hcp
      clear hsh hcs hg hB hE hfr g0
      have HMM := Lib.hid hmm
      clear hmm
      go_wp2_with fail
      refine (lawsMarkText (k + t) _ (by omega) (by omega)).mono ?_
      rintro e w1 ⟨rfl, hb1⟩
      have hk1 : Kept B E wr w1 := by refine (Kept.below hb1).after ?_; exact Kept.refl B E wr
      obtain ⟨v1_0, z1_0, -, -⟩ := hk1.cell _ _ Q0.out
      have k1_0 := (HMM.out.kept hk1 b HO.out).2.2.2 (off + i * 6)
      have z1_1 := hk1.slice Q1.out rfl
      have z1_2 := hk1.slice Q2.out rfl
      have z1_3 := hk1.slice Q3.out rfl
      have z1_4 := hk1.slice Q4.out rfl
      have z1_5 := hk1.slice Q5.out rfl
      clear q0 q1 q2 q3 q4 q5 f0
      go_wp2_with fail
      refine (marksColL A1 n1 c1 m1 ok B E (k + t + 1) _ (h1.shape (ShF.keeps 6) (by refine Kept.set ?_ Q0.out G0.out HB.out HE.out rfl; exact hk1)) (HMM.out.kept (by refine Kept.set ?_ Q0.out G0.out HB.out HE.out rfl; exact hk1)) (by omega) HN1.out (by omega)).mono ?_
      rintro e w2 ⟨rfl, hb2⟩
      have hk2 : Kept B E wr w2 := by refine hb2.after ?_; refine Kept.set ?_ Q0.out G0.out HB.out HE.out rfl; exact hk1
      obtain ⟨v2_0, z2_0, -, -⟩ := hk2.cell _ _ Q0.out
      have k2_0 := (HMM.out.kept hk2 b HO.out).2.2.2 (off + i * 6)
      have z2_1 := hk2.slice Q1.out rfl
      have z2_2 := hk2.slice Q2.out rfl
      have z2_3 := hk2.slice Q3.out rfl
      have z2_4 := hk2.slice Q4.out rfl
      have z2_5 := hk2.slice Q5.out rfl
      clear z1_0 z1_1 z1_2 z1_3 z1_4 z1_5 k1_0
      go_wp2_with fail
      refine (marksIntL A2 n2 c2 m2 ok B E (k + t + m1.sum + 1) _ (h2.shape (ShF.keeps 1) (by exact hk2)) (HMM.out.kept (by exact hk2)) (by omega) HN2.out (by omega)).mono ?_
      rintro e w3 ⟨rfl, hb3⟩
      have hk3 : Kept B E wr w3 := by refine hb3.after ?_; exact hk2
      obtain ⟨v3_0, z3_0, -, -⟩ := hk3.cell _ _ Q0.out
      have k3_0 := (HMM.out.kept hk3 b HO.out).2.2.2 (off + i * 6)
      have z3_1 := hk3.slice Q1.out rfl
      have z3_2 := hk3.slice Q2.out rfl
      have z3_3 := hk3.slice Q3.out rfl
      have z3_4 := hk3.slice Q4.out rfl
      have z3_5 := hk3.slice Q5.out rfl
      clear z2_0 z2_1 z2_2 z2_3 z2_4 z2_5 k2_0
      go_wp2_with fail
      refine (marksUniqueL A3 n3 c3 m3 ok B E (k + t + m1.sum + m2.sum + 1) _ (h3.shape UqSh.keeps (by exact hk3)) (HMM.out.kept (by exact hk3)) (by omega) HN3.out (by omega)).mono ?_
      rintro e w4 ⟨rfl, hb4⟩
      have hk4 : Kept B E wr w4 := by refine hb4.after ?_; exact hk3
      obtain ⟨v4_0, z4_0, -, -⟩ := hk4.cell _ _ Q0.out
      have k4_0 := (HMM.out.kept hk4 b HO.out).2.2.2 (off + i * 6)
      have z4_1 := hk4.slice Q1.out rfl
      have z4_2 := hk4.slice Q2.out rfl
      have z4_3 := hk4.slice Q3.out rfl
      have z4_4 := hk4.slice Q4.out rfl
      have z4_5 := hk4.slice Q5.out rfl
      clear z3_0 z3_1 z3_2 z3_3 z3_4 z3_5 k3_0
      go_wp2_with fail
      refine (marksCheckL A4 n4 c4 m4 ok B E (k + t + m1.sum + m2.sum + m3.sum + 1) _ (h4.shape CkSh.keeps (by exact hk4)) (HMM.out.kept (by exact hk4)) (by omega) HN4.out (by omega)).mono ?_
      rintro e w5 ⟨rfl, hb5⟩
      have hk5 : Kept B E wr w5 := by refine hb5.after ?_; exact hk4
      obtain ⟨v5_0, z5_0, -, -⟩ := hk5.cell _ _ Q0.out
      have k5_0 := (HMM.out.kept hk5 b HO.out).2.2.2 (off + i * 6)
      have z5_1 := hk5.slice Q1.out rfl
      have z5_2 := hk5.slice Q2.out rfl
      have z5_3 := hk5.slice Q3.out rfl
      have z5_4 := hk5.slice Q4.out rfl
      have z5_5 := hk5.slice Q5.out rfl
      clear z4_0 z4_1 z4_2 z4_3 z4_4 z4_5 k4_0
      go_wp2_with fail
      refine (marksFkL A5 n5 c5 m5 ok B E (k + t + m1.sum + m2.sum + m3.sum + m4.sum + 1) _ (h5.shape FkSh.keeps (by exact hk5)) (HMM.out.kept (by exact hk5)) (by omega) HN5.out (by omega)).mono ?_
      rintro e w6 ⟨rfl, hb6⟩
      have hk6 : Kept B E wr w6 := by refine hb6.after ?_; exact hk5
      obtain ⟨v6_0, z6_0, -, -⟩ := hk6.cell _ _ Q0.out
      have k6_0 := (HMM.out.kept hk6 b HO.out).2.2.2 (off + i * 6)
      have z6_1 := hk6.slice Q1.out rfl
      have z6_2 := hk6.slice Q2.out rfl
      have z6_3 := hk6.slice Q3.out rfl
      have z6_4 := hk6.slice Q4.out rfl
      have z6_5 := hk6.slice Q5.out rfl
      clear z5_0 z5_1 z5_2 z5_3 z5_4 z5_5 k5_0
      go_wp2_with fail
      go_roundw
      case rel => exact ⟨i + 1, t + ms[i], by omega, by go_num, by rw [HD.out]; go_num, Lib.hid HST.out, hK.trans (by exact hk6)⟩
      case measure => simp [intOf]; omega
    · obtain rfl : i = ms.length := by omega
      have e := ht.out
      rw [List.take_of_length_le (Nat.le_refl _)] at e
      have HT := Lib.hid e
      clear e ht
      go_wp2_with fail
      go_ret
      exact ⟨retI (by rw [HT.out]), hK⟩

set_option maxRecDepth 100000 in
set_option maxHeartbeats 1000000 in
theorem marksRowL (A : Option Addr) (n c : Nat) (ms : List Nat) (ok : Nat → Prop) (B E k : Nat) (w : World) (h : Sl RwSh 2 ok w A n ms) (hm : mayMark B E w ok) (hk : k + ms.sum ≤ 1073741824) (hn : n ≤ 1048576) {x : Int} (hx : x = k) :
    Calls Tryz.prog 61 #[.slice A n c, .int .i64 x] w fun e w' => e = .returned (.int .i64 ((k + ms.sum : Nat) : Int)) ∧ Kept B E w w' := by
  obtain rfl : ms.length = n := h.1
  subst hx
  go_enter Tryz.func61, Tryz.ntmps61
  go_wp2_with fail
  go_loopw [1, 5] (fun m i wr => ∃ (j t : Nat), j ≤ ms.length ∧ i = .int .i64 j ∧ m = .int .i64 ((k + t : Nat) : Int) ∧ Hid ((ms.take j).sum = t) ∧ Kept B E w wr) (fun _ i _ => ms.length - (intOf i).toNat)
  case atStart => exact ⟨0, 0, by omega, rfl, by simp, Lib.hid (by simp), Kept.refl _ _ _⟩
  case round =>
    obtain ⟨i, t, hi, rfl, rfl, ht, hK⟩ := hrel
    by_cases hlt : i < ms.length
    · have hsh := h.shape RwSh.keeps hK
      have hmm := hm.kept hK
      obtain ⟨b, off, rfl, hob, hcs⟩ := hsh.2 (by omega)
      obtain ⟨cs, hcl, hR, hg⟩ := hcs i hlt
      have hst := sum_take_n ms i hlt
      have hsl := sum_take_n_le ms (i + 1)
      rw [ht.out] at hst
      obtain ⟨hB, hE, -, hfr⟩ := hmm b hob
      obtain ⟨A1, n1, c1, m1, u0, rfl, g0, h1, hcp, hd⟩ := hR
      have q0 : wr.cell? ⟨b, off + i * 2, none⟩ = some (u0) := hg 0 _ rfl
      have q1 : wr.cell? ⟨b, off + i * 2 + 1, none⟩ = some (.slice A1 n1 c1) := hg 1 _ rfl
      have hle : k + t + (1 + m1.sum) ≤ 1073741824 := by omega
      have HD := Lib.hid hd
      have HST := Lib.hid hst
      clear hd hst hsl
      have f0 := hfr (off + i * 2)
      have Q0 := Lib.hid q0
      have Q1 := Lib.hid q1
      have G0 := Lib.hid g0
      have HB := Lib.hid hB
      have HE := Lib.hid hE
      have HR := Lib.hid hfr
      have HO := Lib.hid hob
      have HN1 := Lib.hid (hcp)
      clear hcp
      clear hsh hcs hg hB hE hfr g0
      have HMM := Lib.hid hmm
      clear hmm
      go_wp2_with fail
      refine (marksValL A1 n1 c1 m1 ok B E (k + t + 1) _ (h1.shape (ShF.keeps 3) (by refine Kept.set ?_ Q0.out G0.out HB.out HE.out rfl; exact Kept.refl B E wr)) (HMM.out.kept (by refine Kept.set ?_ Q0.out G0.out HB.out HE.out rfl; exact Kept.refl B E wr)) (by omega) HN1.out (by omega)).mono ?_
      rintro e w1 ⟨rfl, hb1⟩
      have hk1 : Kept B E wr w1 := by refine hb1.after ?_; refine Kept.set ?_ Q0.out G0.out HB.out HE.out rfl; exact Kept.refl B E wr
      obtain ⟨v1_0, z1_0, -, -⟩ := hk1.cell _ _ Q0.out
      have k1_0 := (HMM.out.kept hk1 b HO.out).2.2.2 (off + i * 2)
      have z1_1 := hk1.slice Q1.out rfl
      clear q0 q1 f0
      go_wp2_with fail
      go_roundw
      case rel => exact ⟨i + 1, t + ms[i], by omega, by go_num, by rw [HD.out]; go_num, Lib.hid HST.out, hK.trans (by exact hk1)⟩
      case measure => simp [intOf]; omega
    · obtain rfl : i = ms.length := by omega
      have e := ht.out
      rw [List.take_of_length_le (Nat.le_refl _)] at e
      have HT := Lib.hid e
      clear e ht
      go_wp2_with fail
      go_ret
      exact ⟨retI (by rw [HT.out]), hK⟩

set_option maxRecDepth 100000 in
set_option maxHeartbeats 1000000 in
theorem marksDataL (A : Option Addr) (n c : Nat) (ms : List Nat) (ok : Nat → Prop) (B E k : Nat) (w : World) (h : Sl DtSh 1 ok w A n ms) (hm : mayMark B E w ok) (hk : k + ms.sum ≤ 1073741824) (hn : n ≤ 1048576) {x : Int} (hx : x = k) :
    Calls Tryz.prog 26 #[.slice A n c, .int .i64 x] w fun e w' => e = .returned (.int .i64 ((k + ms.sum : Nat) : Int)) ∧ Kept B E w w' := by
  obtain rfl : ms.length = n := h.1
  subst hx
  go_enter Tryz.func26, Tryz.ntmps26
  go_wp2_with fail
  go_loopw [1, 5] (fun m i wr => ∃ (j t : Nat), j ≤ ms.length ∧ i = .int .i64 j ∧ m = .int .i64 ((k + t : Nat) : Int) ∧ Hid ((ms.take j).sum = t) ∧ Kept B E w wr) (fun _ i _ => ms.length - (intOf i).toNat)
  case atStart => exact ⟨0, 0, by omega, rfl, by simp, Lib.hid (by simp), Kept.refl _ _ _⟩
  case round =>
    obtain ⟨i, t, hi, rfl, rfl, ht, hK⟩ := hrel
    by_cases hlt : i < ms.length
    · have hsh := h.shape DtSh.keeps hK
      have hmm := hm.kept hK
      obtain ⟨b, off, rfl, hob, hcs⟩ := hsh.2 (by omega)
      obtain ⟨cs, hcl, hR, hg⟩ := hcs i hlt
      have hst := sum_take_n ms i hlt
      have hsl := sum_take_n_le ms (i + 1)
      rw [ht.out] at hst
      obtain ⟨hB, hE, -, hfr⟩ := hmm b hob
      obtain ⟨A0, n0, c0, m0, rfl, -, h0, hcp, hd⟩ := hR
      have q0 : wr.cell? ⟨b, off + i, none⟩ = some (.slice A0 n0 c0) := by have := hg 0 _ rfl; rwa [Nat.mul_one] at this
      have hle : k + t + (m0.sum) ≤ 1073741824 := by omega
      have HD := Lib.hid hd
      have HST := Lib.hid hst
      clear hd hst hsl
      have Q0 := Lib.hid q0
      have HB := Lib.hid hB
      have HE := Lib.hid hE
      have HR := Lib.hid hfr
      have HO := Lib.hid hob
      have HN0 := Lib.hid (hcp)
      clear hcp
      clear hsh hcs hg hB hE hfr
      have HMM := Lib.hid hmm
      clear hmm
      go_wp2_with fail
      refine (marksRowL A0 n0 c0 m0 ok B E (k + t) _ (h0.shape RwSh.keeps (by exact Kept.refl B E wr)) (HMM.out.kept (by exact Kept.refl B E wr)) (by omega) HN0.out (by omega)).mono ?_
      rintro e w1 ⟨rfl, hb1⟩
      have hk1 : Kept B E wr w1 := by refine hb1.after ?_; exact Kept.refl B E wr
      have z1_0 := hk1.slice Q0.out rfl
      clear q0
      go_wp2_with fail
      go_roundw
      case rel => exact ⟨i + 1, t + ms[i], by omega, by go_num, by rw [HD.out]; go_num, Lib.hid HST.out, hK.trans (by exact hk1)⟩
      case measure => simp [intOf]; omega
    · obtain rfl : i = ms.length := by omega
      have e := ht.out
      rw [List.take_of_length_le (Nat.le_refl _)] at e
      have HT := Lib.hid e
      clear e ht
      go_wp2_with fail
      go_ret
      exact ⟨retI (by rw [HT.out]), hK⟩

end Go.Proofs.YtgmgjjoalpnmhaaGreat
namespace Go.Proofs.YtgmgjjoalpnmhaaGreat
open Go.RowKit
set_option linter.unusedVariables false

set_option linter.unusedSimpArgs false

/-- m cells of a list hold what f says. -/
def Mk (f : Nat → Value) (w : World) (A : Option Addr) (m : Nat) : Prop := 0 < m → ∃ b off, A = some ⟨b, off, none⟩ ∧ ∀ j, j < m → w.cell? ⟨b, off + j, none⟩ = some (f j)
/-- The world W behind marks: m cells of a block from off on hold what f says; nothing else has turned since wr. -/
def KM (f : Nat → Value) (b off B E : Nat) (wr W : World) (m : Nat) : Prop := Kept B E wr W ∧ ∀ j, j < m → W.cell? ⟨b, off + j, none⟩ = some (f j)
theorem KM.set {f : Nat → Value} {b off B E : Nat} {wr W : World} {m : Nat} (h : KM f b off B E wr W m) {p : Addr} {u v : Value} (hp : p = ⟨b, off + m, none⟩) (hc : wr.cell? p = some u) (hn : isSl u = false) (hB : B ≤ p.block) (hE : p.block < E) (hv : isSl v = false) (hf : v = f m) : KM f b off B E wr (W.setCell p v) (m + 1) := by
  refine ⟨Kept.set h.1 hc hn hB hE hv, fun j hj => ?_⟩
  obtain ⟨u', h1, -⟩ := h.1.cell p u hc
  subst hp
  by_cases e : j = m
  · subst e
    rw [World.cell?_setCell_same _ _ _ h1, hf]
  · rw [World.cell?_setCell_other _ _ _ _ (by intro hh; simp only [Addr.mk.injEq] at hh; omega)]
    exact h.2 j (by omega)
theorem KM.below {f : Nat → Value} {b off B E : Nat} {wr W W' : World} {m : Nat} (hb : Below W.heap.size W W') (h : KM f b off B E wr W m) : KM f b off B E wr W' m := ⟨h.1.trans (Kept.below hb), fun j hj => below_keep hb _ _ (h.2 j hj)⟩
theorem KM.close {f : Nat → Value} {b off B E : Nat} {w wr W : World} {m m' : Nat} (h : KM f b off B E wr W m') (hK : Kept B E w wr) (e : m = m') : Hid (Mk f W (some ⟨b, off, none⟩) m) ∧ Kept B E w W := ⟨fun _ => ⟨b, off, rfl, fun j hj => h.2 j (by omega)⟩, hK.trans h.1⟩
theorem KM.start {f : Nat → Value} {b off B E : Nat} {w wr : World} {m : Nat} (h : ∀ j, j < m → wr.cell? ⟨b, off + j, none⟩ = some (f j)) : KM f b off B E wr wr m := ⟨Kept.refl _ _ _, h⟩
theorem Mk.below {f : Nat → Value} {w w' : World} {A : Option Addr} {m : Nat} (h : Mk f w A m) (hb : Below w.heap.size w w') : Mk f w' A m := fun hm => by
  obtain ⟨b, off, e, hc⟩ := h hm
  exact ⟨b, off, e, fun j hj => below_keep hb _ _ (hc j hj)⟩

def mkXInt (k j : Nat) : Value := .int .i64 ((k + j : Nat) : Int)
theorem mkXInt_0 (k i : Nat) : mkXInt k (i * 1 + 0) = .int .i64 ((k + (i * 1 + 0) : Nat) : Int) := rfl
set_option maxRecDepth 100000 in
set_option maxHeartbeats 1000000 in
theorem marksXIntL (A : Option Addr) (n c : Nat) (ms : List Nat) (ok : Nat → Prop) (B E k : Nat) (w : World) (h : Sl (ShF 1) 1 ok w A n ms) (hm : mayMark B E w ok) (hk : k + n * 1 ≤ 1073741824) (hn : n ≤ 1048576) {x : Int} (hx : x = k) :
    Calls Tryz.prog 17 #[.slice A n c, .int .i64 x] w fun e w' => e = .returned (.int .i64 ((k + n * 1 : Nat) : Int)) ∧ Kept B E w w' ∧ Mk (mkXInt k) w' A (n * 1) := by
  obtain rfl : ms.length = n := h.1
  subst hx
  go_enter Tryz.func17, Tryz.ntmps17
  go_wp2_with fail
  go_loopw [1, 5] (fun m i wr => ∃ (j : Nat), j ≤ ms.length ∧ i = .int .i64 j ∧ m = .int .i64 ((k + j * 1 : Nat) : Int) ∧ Hid (Mk (mkXInt k) wr A (j * 1)) ∧ Kept B E w wr) (fun _ i _ => ms.length - (intOf i).toNat)
  case atStart => exact ⟨0, by omega, rfl, by simp, Lib.hid (fun h => by omega), Kept.refl _ _ _⟩
  case round =>
    obtain ⟨i, hi, rfl, rfl, hM, hK⟩ := hrel
    by_cases hlt : i < ms.length
    · have hsh := h.shape (ShF.keeps 1) hK
      have hmm := hm.kept hK
      obtain ⟨b, off, rfl, hob, hcs⟩ := hsh.2 (by omega)
      obtain ⟨cs, hcl, hR, hg⟩ := hcs i hlt
      have hM0 : ∀ j, j < i * 1 → wr.cell? ⟨b, off + j, none⟩ = some (mkXInt k j) := fun j hj => by
        obtain ⟨b', off', e, hc⟩ := hM.out (by omega)
        cases e
        exact hc j hj
      obtain ⟨hB, hE, -, hfr⟩ := hmm b hob
      obtain ⟨u0, rfl⟩ : ∃ u0, cs = [u0] := by
        have h0 := hR.1
        match cs, h0 with
        | [x0], _ => exact ⟨x0, rfl⟩
      have g0 : isSl u0 = false := hR.2.1 0 _ rfl
      have q0 : wr.cell? ⟨b, off + i, none⟩ = some (u0) := by have := hg 0 _ rfl; rwa [Nat.mul_one] at this
      have f0 := hfr (off + i)
      have Q0 := Lib.hid q0
      have G0 := Lib.hid g0
      have HB := Lib.hid hB
      have HE := Lib.hid hE
      have HR := Lib.hid hfr
      have HO := Lib.hid hob
      have HM0 := Lib.hid hM0
      have HMM := Lib.hid hmm
      have hle : k + i * 1 + 1 ≤ 1073741824 := by omega
      clear hsh hcs hg hR hB hE hfr hmm hM0 hM g0
      go_wp2_with fail
      go_roundw
      case rel =>
        refine ⟨i + 1, by omega, by go_num, by exact congrArg (Value.int .i64) (by omega), ?_⟩
        refine KM.close (m' := i * 1 + 0 + 1) ?_ hK (by omega)
        refine KM.set (m := i * 1 + 0) ?_ (by simp [Nat.add_assoc]) Q0.out G0.out HB.out HE.out rfl (by exact congrArg (Value.int .i64) (by omega)); exact KM.start (w := wr) HM0.out
      case measure => simp [intOf]; omega
    · obtain rfl : i = ms.length := by omega
      go_wp2_with fail
      go_ret
      exact ⟨rfl, hK, hM.out⟩

set_option maxRecDepth 100000 in
set_option maxHeartbeats 1000000 in
theorem heldXIntL (A : Option Addr) (n c k : Nat) (w : World) (h : Mk (mkXInt k) w A (n * 1)) (hk : k + n * 1 ≤ 1073741824) (hn : n ≤ 1048576) {x : Int} (hx : x = k) :
    Calls Tryz.prog 18 #[.slice A n c, .int .i64 x] w fun e w' => e = .returned (.int .i64 ((k + n * 1 : Nat) : Int)) ∧ Below w.heap.size w w' := by
  subst hx
  have HH := Lib.hid h
  clear h
  go_enter Tryz.func18, Tryz.ntmps18
  go_wp2_with fail
  go_loopw [1, 5] (fun m i wr => ∃ (j : Nat), j ≤ n ∧ i = .int .i64 j ∧ m = .int .i64 ((k + j * 1 : Nat) : Int) ∧ Below w.heap.size w wr) (fun _ i _ => n - (intOf i).toNat)
  case atStart => exact ⟨0, by omega, rfl, by simp, Below.refl _ _⟩
  case round =>
    obtain ⟨i, hi, rfl, rfl, hb⟩ := hrel
    by_cases hlt : i < n
    · obtain ⟨b, off, rfl, hc⟩ := (HH.out.below hb) (by omega)
      have hle : k + i * 1 + 1 ≤ 1073741824 := by omega
      have q0 : wr.cell? ⟨b, off + i, none⟩ = some (.int .i64 ((k + i : Nat) : Int)) := hc i (by omega)
      have i0 : (0 : Int) ≤ i := by omega
      have i1 : (i : Int) < n := by omega
      have Q0 := Lib.hid q0
      clear hc
      go_wp2_with fail
      go_roundw
      case rel => exact ⟨i + 1, by omega, by go_num, by exact congrArg (Value.int .i64) (by omega), hb⟩
      case measure => simp [intOf]; omega
    · obtain rfl : i = n := by omega
      go_wp2_with fail
      go_ret
      exact ⟨rfl, hb⟩

def mkXVal (k j : Nat) : Value := if j % 3 = 2 then .string (mtx (k + j)) else .int .i64 ((k + j : Nat) : Int)
theorem mkXVal_0 (k i : Nat) : mkXVal k (i * 3 + 0) = .int .i64 ((k + (i * 3 + 0) : Nat) : Int) := by unfold mkXVal; rw [if_neg (by omega)]
theorem mkXVal_1 (k i : Nat) : mkXVal k (i * 3 + 1) = .int .i64 ((k + (i * 3 + 1) : Nat) : Int) := by unfold mkXVal; rw [if_neg (by omega)]
theorem mkXVal_2 (k i : Nat) : mkXVal k (i * 3 + 2) = .string (mtx (k + (i * 3 + 2))) := by unfold mkXVal; rw [if_pos (by omega)]
set_option maxRecDepth 100000 in
set_option maxHeartbeats 1000000 in
theorem marksXValL (A : Option Addr) (n c : Nat) (ms : List Nat) (ok : Nat → Prop) (B E k : Nat) (w : World) (h : Sl (ShF 3) 3 ok w A n ms) (hm : mayMark B E w ok) (hk : k + n * 3 ≤ 1073741824) (hn : n ≤ 1048576) {x : Int} (hx : x = k) :
    Calls Tryz.prog 34 #[.slice A n c, .int .i64 x] w fun e w' => e = .returned (.int .i64 ((k + n * 3 : Nat) : Int)) ∧ Kept B E w w' ∧ Mk (mkXVal k) w' A (n * 3) := by
  obtain rfl : ms.length = n := h.1
  subst hx
  go_enter Tryz.func34, Tryz.ntmps34
  go_wp2_with fail
  go_loopw [1, 5] (fun m i wr => ∃ (j : Nat), j ≤ ms.length ∧ i = .int .i64 j ∧ m = .int .i64 ((k + j * 3 : Nat) : Int) ∧ Hid (Mk (mkXVal k) wr A (j * 3)) ∧ Kept B E w wr) (fun _ i _ => ms.length - (intOf i).toNat)
  case atStart => exact ⟨0, by omega, rfl, by simp, Lib.hid (fun h => by omega), Kept.refl _ _ _⟩
  case round =>
    obtain ⟨i, hi, rfl, rfl, hM, hK⟩ := hrel
    by_cases hlt : i < ms.length
    · have hsh := h.shape (ShF.keeps 3) hK
      have hmm := hm.kept hK
      obtain ⟨b, off, rfl, hob, hcs⟩ := hsh.2 (by omega)
      obtain ⟨cs, hcl, hR, hg⟩ := hcs i hlt
      have hM0 : ∀ j, j < i * 3 → wr.cell? ⟨b, off + j, none⟩ = some (mkXVal k j) := fun j hj => by
        obtain ⟨b', off', e, hc⟩ := hM.out (by omega)
        cases e
        exact hc j hj
      obtain ⟨hB, hE, -, hfr⟩ := hmm b hob
      obtain ⟨u0, u1, u2, rfl⟩ : ∃ u0 u1 u2, cs = [u0, u1, u2] := by
        have h0 := hR.1
        match cs, h0 with
        | [x0, x1, x2], _ => exact ⟨x0, x1, x2, rfl⟩
      have g0 : isSl u0 = false := hR.2.1 0 _ rfl
      have g1 : isSl u1 = false := hR.2.1 1 _ rfl
      have g2 : isSl u2 = false := hR.2.1 2 _ rfl
      have q0 : wr.cell? ⟨b, off + i * 3, none⟩ = some (u0) := hg 0 _ rfl
      have q1 : wr.cell? ⟨b, off + i * 3 + 1, none⟩ = some (u1) := hg 1 _ rfl
      have q2 : wr.cell? ⟨b, off + i * 3 + 2, none⟩ = some (u2) := hg 2 _ rfl
      have f0 := hfr (off + i * 3)
      have f1 := hfr (off + i * 3 + 1)
      have f2 := hfr (off + i * 3 + 2)
      have Q0 := Lib.hid q0
      have Q1 := Lib.hid q1
      have Q2 := Lib.hid q2
      have G0 := Lib.hid g0
      have G1 := Lib.hid g1
      have G2 := Lib.hid g2
      have HB := Lib.hid hB
      have HE := Lib.hid hE
      have HR := Lib.hid hfr
      have HO := Lib.hid hob
      have HM0 := Lib.hid hM0
      have HMM := Lib.hid hmm
      have hle : k + i * 3 + 3 ≤ 1073741824 := by omega
      clear hsh hcs hg hR hB hE hfr hmm hM0 hM g0 g1 g2
      go_wp2_with fail
      refine (lawsMarkText (k + (i * 3 + 2)) _ (by omega) (by omega)).mono ?_
      rintro e w1 ⟨rfl, hb1⟩
      have hk1 : KM (mkXVal k) b off B E wr w1 (i * 3 + 2) := by refine KM.below hb1 ?_; refine KM.set (m := i * 3 + 1) ?_ (by simp [Nat.add_assoc]) Q1.out G1.out HB.out HE.out rfl (by rw [mkXVal_1]; exact congrArg (Value.int .i64) (by omega)); refine KM.set (m := i * 3 + 0) ?_ (by simp [Nat.add_assoc]) Q0.out G0.out HB.out HE.out rfl (by rw [mkXVal_0]; exact congrArg (Value.int .i64) (by omega)); exact KM.start (w := wr) HM0.out
      obtain ⟨v1_0, z1_0, -, -⟩ := hk1.1.cell _ _ Q0.out
      have k1_0 := (HMM.out.kept hk1.1 b HO.out).2.2.2 (off + i * 3)
      obtain ⟨v1_1, z1_1, -, -⟩ := hk1.1.cell _ _ Q1.out
      have k1_1 := (HMM.out.kept hk1.1 b HO.out).2.2.2 (off + i * 3 + 1)
      obtain ⟨v1_2, z1_2, -, -⟩ := hk1.1.cell _ _ Q2.out
      have k1_2 := (HMM.out.kept hk1.1 b HO.out).2.2.2 (off + i * 3 + 2)
      have HK1 := Lib.hid hk1
      clear hk1 q0 f0 q1 f1 q2 f2
      go_wp2_with fail
      go_roundw
      case rel =>
        refine ⟨i + 1, by omega, by go_num, by exact congrArg (Value.int .i64) (by omega), ?_⟩
        refine KM.close (m' := i * 3 + 2 + 1) ?_ hK (by omega)
        refine KM.set (m := i * 3 + 2) ?_ (by simp [Nat.add_assoc]) Q2.out G2.out HB.out HE.out rfl (by first | (rw [mkXVal_2]; done) | (rw [mkXVal_2]; congr 2; omega)); exact HK1.out
      case measure => simp [intOf]; omega
    · obtain rfl : i = ms.length := by omega
      go_wp2_with fail
      go_ret
      exact ⟨rfl, hK, hM.out⟩

set_option maxRecDepth 100000 in
set_option maxHeartbeats 1000000 in
theorem heldXValL (A : Option Addr) (n c k : Nat) (w : World) (h : Mk (mkXVal k) w A (n * 3)) (hk : k + n * 3 ≤ 1073741824) (hn : n ≤ 1048576) {x : Int} (hx : x = k) :
    Calls Tryz.prog 102 #[.slice A n c, .int .i64 x] w fun e w' => e = .returned (.int .i64 ((k + n * 3 : Nat) : Int)) ∧ Below w.heap.size w w' := by
  subst hx
  have HH := Lib.hid h
  clear h
  go_enter Tryz.func102, Tryz.ntmps102
  go_wp2_with fail
  go_loopw [1, 5] (fun m i wr => ∃ (j : Nat), j ≤ n ∧ i = .int .i64 j ∧ m = .int .i64 ((k + j * 3 : Nat) : Int) ∧ Below w.heap.size w wr) (fun _ i _ => n - (intOf i).toNat)
  case atStart => exact ⟨0, by omega, rfl, by simp, Below.refl _ _⟩
  case round =>
    obtain ⟨i, hi, rfl, rfl, hb⟩ := hrel
    by_cases hlt : i < n
    · obtain ⟨b, off, rfl, hc⟩ := (HH.out.below hb) (by omega)
      have hle : k + i * 3 + 3 ≤ 1073741824 := by omega
      have q0 : wr.cell? ⟨b, off + i * 3, none⟩ = some (.int .i64 ((k + (i * 3 + 0) : Nat) : Int)) := by have := hc (i * 3 + 0) (by omega); rwa [mkXVal_0] at this
      have q1 : wr.cell? ⟨b, off + i * 3 + 1, none⟩ = some (.int .i64 ((k + (i * 3 + 1) : Nat) : Int)) := by have := hc (i * 3 + 1) (by omega); rwa [mkXVal_1, ← Nat.add_assoc] at this
      have q2 : wr.cell? ⟨b, off + i * 3 + 2, none⟩ = some (.string (mtx (k + (i * 3 + 2)))) := by have := hc (i * 3 + 2) (by omega); rwa [mkXVal_2, ← Nat.add_assoc] at this
      have i0 : (0 : Int) ≤ i := by omega
      have i1 : (i : Int) < n := by omega
      have Q0 := Lib.hid q0
      have Q1 := Lib.hid q1
      have Q2 := Lib.hid q2
      clear hc
      go_wp2_with fail
      go_region_held3 (fun w' => w'.cell? ⟨b, off + i * 3 + 2, none⟩ = some (.string (mtx (k + (i * 3 + 2)))))
        (first | go_keep | exact below_keep hb1 _ _ (by assumption))
        (first | (go_at_call 51; refine (lawsMarkText (k + (i * 3 + 2)) _ (by omega) (by omega)).mono ?_; rintro e w1 ⟨rfl, hb1⟩))
      go_wp2_with fail
      go_roundw
      case rel => exact ⟨i + 1, by omega, by go_num, by exact congrArg (Value.int .i64) (by omega), hb.drew.trans (hb1.mono hb.size)⟩
      case measure => simp [intOf]; omega
    · obtain rfl : i = n := by omega
      go_wp2_with fail
      go_ret
      exact ⟨rfl, hb⟩

def mkXFlaw (k j : Nat) : Value := .int .i64 ((k + j : Nat) : Int)
theorem mkXFlaw_0 (k i : Nat) : mkXFlaw k (i * 3 + 0) = .int .i64 ((k + (i * 3 + 0) : Nat) : Int) := rfl
theorem mkXFlaw_1 (k i : Nat) : mkXFlaw k (i * 3 + 1) = .int .i64 ((k + (i * 3 + 1) : Nat) : Int) := rfl
theorem mkXFlaw_2 (k i : Nat) : mkXFlaw k (i * 3 + 2) = .int .i64 ((k + (i * 3 + 2) : Nat) : Int) := rfl
set_option maxRecDepth 100000 in
set_option maxHeartbeats 1000000 in
theorem marksXFlawL (A : Option Addr) (n c : Nat) (ms : List Nat) (ok : Nat → Prop) (B E k : Nat) (w : World) (h : Sl (ShF 3) 3 ok w A n ms) (hm : mayMark B E w ok) (hk : k + n * 3 ≤ 1073741824) (hn : n ≤ 1048576) {x : Int} (hx : x = k) :
    Calls Tryz.prog 38 #[.slice A n c, .int .i64 x] w fun e w' => e = .returned (.int .i64 ((k + n * 3 : Nat) : Int)) ∧ Kept B E w w' ∧ Mk (mkXFlaw k) w' A (n * 3) := by
  obtain rfl : ms.length = n := h.1
  subst hx
  go_enter Tryz.func38, Tryz.ntmps38
  go_wp2_with fail
  go_loopw [1, 5] (fun m i wr => ∃ (j : Nat), j ≤ ms.length ∧ i = .int .i64 j ∧ m = .int .i64 ((k + j * 3 : Nat) : Int) ∧ Hid (Mk (mkXFlaw k) wr A (j * 3)) ∧ Kept B E w wr) (fun _ i _ => ms.length - (intOf i).toNat)
  case atStart => exact ⟨0, by omega, rfl, by simp, Lib.hid (fun h => by omega), Kept.refl _ _ _⟩
  case round =>
    obtain ⟨i, hi, rfl, rfl, hM, hK⟩ := hrel
    by_cases hlt : i < ms.length
    · have hsh := h.shape (ShF.keeps 3) hK
      have hmm := hm.kept hK
      obtain ⟨b, off, rfl, hob, hcs⟩ := hsh.2 (by omega)
      obtain ⟨cs, hcl, hR, hg⟩ := hcs i hlt
      have hM0 : ∀ j, j < i * 3 → wr.cell? ⟨b, off + j, none⟩ = some (mkXFlaw k j) := fun j hj => by
        obtain ⟨b', off', e, hc⟩ := hM.out (by omega)
        cases e
        exact hc j hj
      obtain ⟨hB, hE, -, hfr⟩ := hmm b hob
      obtain ⟨u0, u1, u2, rfl⟩ : ∃ u0 u1 u2, cs = [u0, u1, u2] := by
        have h0 := hR.1
        match cs, h0 with
        | [x0, x1, x2], _ => exact ⟨x0, x1, x2, rfl⟩
      have g0 : isSl u0 = false := hR.2.1 0 _ rfl
      have g1 : isSl u1 = false := hR.2.1 1 _ rfl
      have g2 : isSl u2 = false := hR.2.1 2 _ rfl
      have q0 : wr.cell? ⟨b, off + i * 3, none⟩ = some (u0) := hg 0 _ rfl
      have q1 : wr.cell? ⟨b, off + i * 3 + 1, none⟩ = some (u1) := hg 1 _ rfl
      have q2 : wr.cell? ⟨b, off + i * 3 + 2, none⟩ = some (u2) := hg 2 _ rfl
      have f0 := hfr (off + i * 3)
      have f1 := hfr (off + i * 3 + 1)
      have f2 := hfr (off + i * 3 + 2)
      have Q0 := Lib.hid q0
      have Q1 := Lib.hid q1
      have Q2 := Lib.hid q2
      have G0 := Lib.hid g0
      have G1 := Lib.hid g1
      have G2 := Lib.hid g2
      have HB := Lib.hid hB
      have HE := Lib.hid hE
      have HR := Lib.hid hfr
      have HO := Lib.hid hob
      have HM0 := Lib.hid hM0
      have HMM := Lib.hid hmm
      have hle : k + i * 3 + 3 ≤ 1073741824 := by omega
      clear hsh hcs hg hR hB hE hfr hmm hM0 hM g0 g1 g2
      go_wp2_with fail
      go_roundw
      case rel =>
        refine ⟨i + 1, by omega, by go_num, by exact congrArg (Value.int .i64) (by omega), ?_⟩
        refine KM.close (m' := i * 3 + 2 + 1) ?_ hK (by omega)
        refine KM.set (m := i * 3 + 2) ?_ (by simp [Nat.add_assoc]) Q2.out G2.out HB.out HE.out rfl (by rw [mkXFlaw_2]; exact congrArg (Value.int .i64) (by omega)); refine KM.set (m := i * 3 + 1) ?_ (by simp [Nat.add_assoc]) Q1.out G1.out HB.out HE.out rfl (by rw [mkXFlaw_1]; exact congrArg (Value.int .i64) (by omega)); refine KM.set (m := i * 3 + 0) ?_ (by simp [Nat.add_assoc]) Q0.out G0.out HB.out HE.out rfl (by rw [mkXFlaw_0]; exact congrArg (Value.int .i64) (by omega)); exact KM.start (w := wr) HM0.out
      case measure => simp [intOf]; omega
    · obtain rfl : i = ms.length := by omega
      go_wp2_with fail
      go_ret
      exact ⟨rfl, hK, hM.out⟩

set_option maxRecDepth 100000 in
set_option maxHeartbeats 1000000 in
theorem heldXFlawL (A : Option Addr) (n c k : Nat) (w : World) (h : Mk (mkXFlaw k) w A (n * 3)) (hk : k + n * 3 ≤ 1073741824) (hn : n ≤ 1048576) {x : Int} (hx : x = k) :
    Calls Tryz.prog 39 #[.slice A n c, .int .i64 x] w fun e w' => e = .returned (.int .i64 ((k + n * 3 : Nat) : Int)) ∧ Below w.heap.size w w' := by
  subst hx
  have HH := Lib.hid h
  clear h
  go_enter Tryz.func39, Tryz.ntmps39
  go_wp2_with fail
  go_loopw [1, 5] (fun m i wr => ∃ (j : Nat), j ≤ n ∧ i = .int .i64 j ∧ m = .int .i64 ((k + j * 3 : Nat) : Int) ∧ Below w.heap.size w wr) (fun _ i _ => n - (intOf i).toNat)
  case atStart => exact ⟨0, by omega, rfl, by simp, Below.refl _ _⟩
  case round =>
    obtain ⟨i, hi, rfl, rfl, hb⟩ := hrel
    by_cases hlt : i < n
    · obtain ⟨b, off, rfl, hc⟩ := (HH.out.below hb) (by omega)
      have hle : k + i * 3 + 3 ≤ 1073741824 := by omega
      have q0 : wr.cell? ⟨b, off + i * 3, none⟩ = some (.int .i64 ((k + (i * 3 + 0) : Nat) : Int)) := by have := hc (i * 3 + 0) (by omega); rwa [mkXFlaw_0] at this
      have q1 : wr.cell? ⟨b, off + i * 3 + 1, none⟩ = some (.int .i64 ((k + (i * 3 + 1) : Nat) : Int)) := by have := hc (i * 3 + 1) (by omega); rwa [mkXFlaw_1, ← Nat.add_assoc] at this
      have q2 : wr.cell? ⟨b, off + i * 3 + 2, none⟩ = some (.int .i64 ((k + (i * 3 + 2) : Nat) : Int)) := by have := hc (i * 3 + 2) (by omega); rwa [mkXFlaw_2, ← Nat.add_assoc] at this
      have i0 : (0 : Int) ≤ i := by omega
      have i1 : (i : Int) < n := by omega
      have Q0 := Lib.hid q0
      have Q1 := Lib.hid q1
      have Q2 := Lib.hid q2
      clear hc
      go_wp2_with fail
      go_roundw
      case rel => exact ⟨i + 1, by omega, by go_num, by exact congrArg (Value.int .i64) (by omega), hb⟩
      case measure => simp [intOf]; omega
    · obtain rfl : i = n := by omega
      go_wp2_with fail
      go_ret
      exact ⟨rfl, hb⟩

end Go.Proofs.YtgmgjjoalpnmhaaGreat
namespace Go.Proofs.YtgmgjjoalpnmhaaGreat
open Go.ChangeShapes Go.WideShapes Go.ChangeAt Go.RowKit Go.Joins Go.Deep
set_option linter.unusedVariables false

theorem Int_of_trod {H : Type} {enc : TypeId × Value → H} {W : World} {fuel : Nat} {cs : List Value} {x : DataW H × List MemPlace} (h : DataW.trod enc Tryz.prog W 0 (fun _ => true) true fuel 2 cs = some x) : ∃ d, IntR (fun _ => True) W cs d ∧ (Lit.int .i64 d).wf = true := by
  obtain ⟨k, q0, -, wk⟩ := DataW.trod_int Tryz.underlying2 h
  exact ⟨k, q0, wk⟩
theorem Val_of_trod {H : Type} {enc : TypeId × Value → H} {W : World} {fuel : Nat} {cs : List Value} {x : DataW H × List MemPlace} (h : DataW.trod enc Tryz.prog W 0 (fun _ => true) true fuel 98 cs = some x) : ∃ d, VlR (fun _ => True) W cs d ∧ d.s.size ≤ maxLen := by
  obtain ⟨k, n, s, rfl, -, -, hs⟩ := val_of_trod Tryz.underlying98 (by kernel_rfl) ⟨rfl, rfl, rfl⟩ (by kernel_rfl) (by kernel_rfl) (by kernel_rfl) Tryz.underlying2 Tryz.underlying2 Tryz.underlying9 h
  exact ⟨⟨k, n, s⟩, rfl, hs⟩
theorem Tok_of_trod {H : Type} {enc : TypeId × Value → H} {W : World} {fuel : Nat} {cs : List Value} {x : DataW H × List MemPlace} (h : DataW.trod enc Tryz.prog W 0 (fun _ => true) true fuel 217 cs = some x) : ∃ d, TkR (fun _ => True) W cs d ∧ d.vs.size ≤ maxLen := by
  obtain ⟨k, cc, vk, vn, vs, rfl, -, -, -, -, h5⟩ := tok_of_trod Tryz.underlying217 (by kernel_rfl) ⟨rfl, rfl, rfl⟩ (by kernel_rfl) (by kernel_rfl) (by kernel_rfl) Tryz.underlying2 Tryz.underlying2 Tryz.underlying98 ⟨rfl, rfl, rfl⟩ (by kernel_rfl) (by kernel_rfl) (by kernel_rfl) Tryz.underlying2 Tryz.underlying2 Tryz.underlying9 h
  exact ⟨⟨k, cc, vk, vn, vs⟩, rfl, h5⟩
theorem IntL_of_trod {H : Type} {enc : TypeId × Value → H} {W : World} {fuel : Nat} {x : DataW H × List MemPlace} {a : Option Addr} {len cap : Nat} (h : DataW.trod enc Tryz.prog W 0 (fun _ => true) true fuel 24 [.slice a len cap] = some x) : ∃ ds, Sl IntR 1 (fun _ => True) W a len ds ∧ ds.length ≤ maxLen := by
  obtain ⟨ds, h1, h2, -⟩ := sl_of_trod (R := IntR) (q := fun _ => True) (sz := 1) Tryz.underlying24 (by kernel_rfl) (by omega) (fun n c y hy => by obtain ⟨d, hd, _⟩ := Int_of_trod hy; exact ⟨d, hd, trivial⟩) h
  exact ⟨ds, h1, h2⟩
theorem TokL_of_trod {H : Type} {enc : TypeId × Value → H} {W : World} {fuel : Nat} {x : DataW H × List MemPlace} {a : Option Addr} {len cap : Nat} (h : DataW.trod enc Tryz.prog W 0 (fun _ => true) true fuel 168 [.slice a len cap] = some x) : ∃ ds : List Tk, Sl TkR 5 (fun _ => True) W a len ds ∧ (ds.length ≤ maxLen ∧ ∀ t ∈ ds, t.vs.size ≤ maxLen) :=
  sl_of_trod (R := TkR) (q := fun t : Tk => t.vs.size ≤ maxLen) (sz := 5) Tryz.underlying168 (by kernel_rfl) (by omega) (fun n c y hy => Tok_of_trod hy) h

theorem ValL_of_trod {H : Type} {enc : TypeId × Value → H} {W : World} {fuel : Nat} {x : DataW H × List MemPlace} {a : Option Addr} {len cap : Nat} (h : DataW.trod enc Tryz.prog W 0 (fun _ => true) true fuel 44 [.slice a len cap] = some x) : ∃ ds : List Vl, Sl VlR 3 (fun _ => True) W a len ds ∧ (ds.length ≤ maxLen ∧ ∀ v ∈ ds, v.s.size ≤ maxLen) :=
  sl_of_trod (R := VlR) (q := fun v : Vl => v.s.size ≤ maxLen) (sz := 3) Tryz.underlying44 (by kernel_rfl) (by omega) (fun n c y hy => Val_of_trod hy) h

set_option maxRecDepth 100000 in
theorem Col_of_trod {H : Type} {enc : TypeId × Value → H} {W : World} {fuel : Nat} {cs : List Value} {x : DataW H × List MemPlace} (h : DataW.trod enc Tryz.prog W 0 (fun _ => true) true fuel 164 cs = some x) : ∃ d, ClR (fun _ => True) W cs d ∧ d.wf := by
  obtain ⟨xs, n, _, _, hl, hlen, hf⟩ := DataW.trod_struct Tryz.underlying164 h
  rw [show Tryz.prog.cellsOf 164 = 6 by kernel_rfl] at hl
  match cs, hl, xs, hlen with
  | [c0, c1, c2, c3, c4, c5], _, [y0, y1, y2, y3], _ =>
    have e0 : DataW.trod enc Tryz.prog W 0 (fun _ => true) true n 9 [c0] = some y0 := by
      have := hf 0 _ rfl
      simpa [show Tryz.prog.cellsOf 9 = 1 by kernel_rfl] using this
    have e1 : DataW.trod enc Tryz.prog W 0 (fun _ => true) true n 2 [c1] = some y1 := by
      have := hf 1 _ rfl
      simpa [show Tryz.prog.cellsOf 2 = 1 by kernel_rfl] using this
    have e2 : DataW.trod enc Tryz.prog W 0 (fun _ => true) true n 4 [c2] = some y2 := by
      have := hf 2 _ rfl
      simpa [show Tryz.prog.cellsOf 4 = 1 by kernel_rfl] using this
    have e3 : DataW.trod enc Tryz.prog W 0 (fun _ => true) true n 98 [c3, c4, c5] = some y3 := by
      have := hf 3 _ rfl
      simpa [show Tryz.prog.cellsOf 98 = 3 by kernel_rfl] using this
    obtain ⟨z0, q0, -, u0⟩ := DataW.trod_string Tryz.underlying9 e0
    simp at q0
    subst q0
    obtain ⟨z1, q1, -, -⟩ := DataW.trod_int Tryz.underlying2 e1
    simp at q1
    subst q1
    obtain ⟨z2, q2, -⟩ := DataW.trod_bool Tryz.underlying4 e2
    simp at q2
    subst q2
    obtain ⟨z3, q3, u3⟩ := Val_of_trod e3
    have q3' : _ = Vl.cells z3 := q3
    simp only [Vl.cells, List.cons.injEq, and_true] at q3'
    obtain ⟨rfl, rfl, rfl⟩ := q3'
    exact ⟨⟨z0, z1, z2, z3⟩, rfl, ⟨u0, u3⟩⟩

theorem ColL_of_trod {H : Type} {enc : TypeId × Value → H} {W : World} {fuel : Nat} {x : DataW H × List MemPlace} {a : Option Addr} {len cap : Nat} (h : DataW.trod enc Tryz.prog W 0 (fun _ => true) true fuel 59 [.slice a len cap] = some x) : ∃ ds : List Cl, Sl ClR 6 (fun _ => True) W a len ds ∧ (ds.length ≤ maxLen ∧ ∀ y ∈ ds, y.wf) :=
  sl_of_trod (R := ClR) (q := Cl.wf) (sz := 6) Tryz.underlying59 (by kernel_rfl) (by omega) (fun n c y hy => Col_of_trod hy) h

set_option maxRecDepth 100000 in
theorem Unique_of_trod {H : Type} {enc : TypeId × Value → H} {W : World} {fuel : Nat} {cs : List Value} {x : DataW H × List MemPlace} (h : DataW.trod enc Tryz.prog W 0 (fun _ => true) true fuel 166 cs = some x) : ∃ d, UqR (fun _ => True) W cs d ∧ d.wf := by
  obtain ⟨xs, n, _, _, hl, hlen, hf⟩ := DataW.trod_struct Tryz.underlying166 h
  rw [show Tryz.prog.cellsOf 166 = 1 by kernel_rfl] at hl
  match cs, hl, xs, hlen with
  | [c0], _, [y0], _ =>
    have e0 : DataW.trod enc Tryz.prog W 0 (fun _ => true) true n 24 [c0] = some y0 := by
      have := hf 0 _ rfl
      simpa [show Tryz.prog.cellsOf 24 = 1 by kernel_rfl] using this
    obtain ⟨a0, l0, p0, rfl, hcp0⟩ : ∃ a l p, c0 = .slice a l p ∧ l ≤ p := by
      rcases open_slice Tryz.underlying24 e0 with ⟨hcs, _⟩ | ⟨ad, l, c, _, _, _, _, hcs, _, hlc, _⟩
      · exact ⟨_, _, _, by simpa using hcs, Nat.le_refl _⟩
      · exact ⟨_, _, _, by simpa using hcs, hlc⟩
    obtain ⟨z0, s0, u0⟩ := IntL_of_trod e0
    exact ⟨⟨z0⟩, ⟨_, _, _, rfl, s0, hcp0⟩, u0⟩

theorem UniqueL_of_trod {H : Type} {enc : TypeId × Value → H} {W : World} {fuel : Nat} {x : DataW H × List MemPlace} {a : Option Addr} {len cap : Nat} (h : DataW.trod enc Tryz.prog W 0 (fun _ => true) true fuel 60 [.slice a len cap] = some x) : ∃ ds : List Uq, Sl UqR 1 (fun _ => True) W a len ds ∧ (ds.length ≤ maxLen ∧ ∀ y ∈ ds, y.wf) :=
  sl_of_trod (R := UqR) (q := Uq.wf) (sz := 1) Tryz.underlying60 (by kernel_rfl) (by omega) (fun n c y hy => Unique_of_trod hy) h

set_option maxRecDepth 100000 in
theorem Check_of_trod {H : Type} {enc : TypeId × Value → H} {W : World} {fuel : Nat} {cs : List Value} {x : DataW H × List MemPlace} (h : DataW.trod enc Tryz.prog W 0 (fun _ => true) true fuel 170 cs = some x) : ∃ d, CkR (fun _ => True) W cs d ∧ d.wf := by
  obtain ⟨xs, n, _, _, hl, hlen, hf⟩ := DataW.trod_struct Tryz.underlying170 h
  rw [show Tryz.prog.cellsOf 170 = 1 by kernel_rfl] at hl
  match cs, hl, xs, hlen with
  | [c0], _, [y0], _ =>
    have e0 : DataW.trod enc Tryz.prog W 0 (fun _ => true) true n 168 [c0] = some y0 := by
      have := hf 0 _ rfl
      simpa [show Tryz.prog.cellsOf 168 = 1 by kernel_rfl] using this
    obtain ⟨a0, l0, p0, rfl, hcp0⟩ : ∃ a l p, c0 = .slice a l p ∧ l ≤ p := by
      rcases open_slice Tryz.underlying168 e0 with ⟨hcs, _⟩ | ⟨ad, l, c, _, _, _, _, hcs, _, hlc, _⟩
      · exact ⟨_, _, _, by simpa using hcs, Nat.le_refl _⟩
      · exact ⟨_, _, _, by simpa using hcs, hlc⟩
    obtain ⟨z0, s0, u0⟩ := TokL_of_trod e0
    exact ⟨⟨z0⟩, ⟨_, _, _, rfl, s0, hcp0⟩, u0⟩

theorem CheckL_of_trod {H : Type} {enc : TypeId × Value → H} {W : World} {fuel : Nat} {x : DataW H × List MemPlace} {a : Option Addr} {len cap : Nat} (h : DataW.trod enc Tryz.prog W 0 (fun _ => true) true fuel 61 [.slice a len cap] = some x) : ∃ ds : List Ck, Sl CkR 1 (fun _ => True) W a len ds ∧ (ds.length ≤ maxLen ∧ ∀ y ∈ ds, y.wf) :=
  sl_of_trod (R := CkR) (q := Ck.wf) (sz := 1) Tryz.underlying61 (by kernel_rfl) (by omega) (fun n c y hy => Check_of_trod hy) h

set_option maxRecDepth 100000 in
theorem Fk_of_trod {H : Type} {enc : TypeId × Value → H} {W : World} {fuel : Nat} {cs : List Value} {x : DataW H × List MemPlace} (h : DataW.trod enc Tryz.prog W 0 (fun _ => true) true fuel 172 cs = some x) : ∃ d, FkR (fun _ => True) W cs d ∧ d.wf := by
  obtain ⟨xs, n, _, _, hl, hlen, hf⟩ := DataW.trod_struct Tryz.underlying172 h
  rw [show Tryz.prog.cellsOf 172 = 5 by kernel_rfl] at hl
  match cs, hl, xs, hlen with
  | [c0, c1, c2, c3, c4], _, [y0, y1, y2, y3, y4], _ =>
    have e0 : DataW.trod enc Tryz.prog W 0 (fun _ => true) true n 24 [c0] = some y0 := by
      have := hf 0 _ rfl
      simpa [show Tryz.prog.cellsOf 24 = 1 by kernel_rfl] using this
    have e1 : DataW.trod enc Tryz.prog W 0 (fun _ => true) true n 9 [c1] = some y1 := by
      have := hf 1 _ rfl
      simpa [show Tryz.prog.cellsOf 9 = 1 by kernel_rfl] using this
    have e2 : DataW.trod enc Tryz.prog W 0 (fun _ => true) true n 2 [c2] = some y2 := by
      have := hf 2 _ rfl
      simpa [show Tryz.prog.cellsOf 2 = 1 by kernel_rfl] using this
    have e3 : DataW.trod enc Tryz.prog W 0 (fun _ => true) true n 2 [c3] = some y3 := by
      have := hf 3 _ rfl
      simpa [show Tryz.prog.cellsOf 2 = 1 by kernel_rfl] using this
    have e4 : DataW.trod enc Tryz.prog W 0 (fun _ => true) true n 4 [c4] = some y4 := by
      have := hf 4 _ rfl
      simpa [show Tryz.prog.cellsOf 4 = 1 by kernel_rfl] using this
    obtain ⟨a0, l0, p0, rfl, hcp0⟩ : ∃ a l p, c0 = .slice a l p ∧ l ≤ p := by
      rcases open_slice Tryz.underlying24 e0 with ⟨hcs, _⟩ | ⟨ad, l, c, _, _, _, _, hcs, _, hlc, _⟩
      · exact ⟨_, _, _, by simpa using hcs, Nat.le_refl _⟩
      · exact ⟨_, _, _, by simpa using hcs, hlc⟩
    obtain ⟨z0, s0, u0⟩ := IntL_of_trod e0
    obtain ⟨z1, q1, -, u1⟩ := DataW.trod_string Tryz.underlying9 e1
    simp at q1
    subst q1
    obtain ⟨z2, q2, -, -⟩ := DataW.trod_int Tryz.underlying2 e2
    simp at q2
    subst q2
    obtain ⟨z3, q3, -, -⟩ := DataW.trod_int Tryz.underlying2 e3
    simp at q3
    subst q3
    obtain ⟨z4, q4, -⟩ := DataW.trod_bool Tryz.underlying4 e4
    simp at q4
    subst q4
    exact ⟨⟨z0, z1, z2, z3, z4⟩, ⟨_, _, _, rfl, s0, hcp0⟩, ⟨u0, u1⟩⟩

theorem FkL_of_trod {H : Type} {enc : TypeId × Value → H} {W : World} {fuel : Nat} {x : DataW H × List MemPlace} {a : Option Addr} {len cap : Nat} (h : DataW.trod enc Tryz.prog W 0 (fun _ => true) true fuel 62 [.slice a len cap] = some x) : ∃ ds : List Fk, Sl FkR 5 (fun _ => True) W a len ds ∧ (ds.length ≤ maxLen ∧ ∀ y ∈ ds, y.wf) :=
  sl_of_trod (R := FkR) (q := Fk.wf) (sz := 5) Tryz.underlying62 (by kernel_rfl) (by omega) (fun n c y hy => Fk_of_trod hy) h

set_option maxRecDepth 100000 in
theorem Table_of_trod {H : Type} {enc : TypeId × Value → H} {W : World} {fuel : Nat} {cs : List Value} {x : DataW H × List MemPlace} (h : DataW.trod enc Tryz.prog W 0 (fun _ => true) true fuel 64 cs = some x) : ∃ d, TbR (fun _ => True) W cs d ∧ d.wf := by
  obtain ⟨xs, n, _, _, hl, hlen, hf⟩ := DataW.trod_struct Tryz.underlying64 h
  rw [show Tryz.prog.cellsOf 64 = 6 by kernel_rfl] at hl
  match cs, hl, xs, hlen with
  | [c0, c1, c2, c3, c4, c5], _, [y0, y1, y2, y3, y4, y5], _ =>
    have e0 : DataW.trod enc Tryz.prog W 0 (fun _ => true) true n 9 [c0] = some y0 := by
      have := hf 0 _ rfl
      simpa [show Tryz.prog.cellsOf 9 = 1 by kernel_rfl] using this
    have e1 : DataW.trod enc Tryz.prog W 0 (fun _ => true) true n 59 [c1] = some y1 := by
      have := hf 1 _ rfl
      simpa [show Tryz.prog.cellsOf 59 = 1 by kernel_rfl] using this
    have e2 : DataW.trod enc Tryz.prog W 0 (fun _ => true) true n 24 [c2] = some y2 := by
      have := hf 2 _ rfl
      simpa [show Tryz.prog.cellsOf 24 = 1 by kernel_rfl] using this
    have e3 : DataW.trod enc Tryz.prog W 0 (fun _ => true) true n 60 [c3] = some y3 := by
      have := hf 3 _ rfl
      simpa [show Tryz.prog.cellsOf 60 = 1 by kernel_rfl] using this
    have e4 : DataW.trod enc Tryz.prog W 0 (fun _ => true) true n 61 [c4] = some y4 := by
      have := hf 4 _ rfl
      simpa [show Tryz.prog.cellsOf 61 = 1 by kernel_rfl] using this
    have e5 : DataW.trod enc Tryz.prog W 0 (fun _ => true) true n 62 [c5] = some y5 := by
      have := hf 5 _ rfl
      simpa [show Tryz.prog.cellsOf 62 = 1 by kernel_rfl] using this
    obtain ⟨z0, q0, -, u0⟩ := DataW.trod_string Tryz.underlying9 e0
    simp at q0
    subst q0
    obtain ⟨a1, l1, p1, rfl, hcp1⟩ : ∃ a l p, c1 = .slice a l p ∧ l ≤ p := by
      rcases open_slice Tryz.underlying59 e1 with ⟨hcs, _⟩ | ⟨ad, l, c, _, _, _, _, hcs, _, hlc, _⟩
      · exact ⟨_, _, _, by simpa using hcs, Nat.le_refl _⟩
      · exact ⟨_, _, _, by simpa using hcs, hlc⟩
    obtain ⟨z1, s1, u1⟩ := ColL_of_trod e1
    obtain ⟨a2, l2, p2, rfl, hcp2⟩ : ∃ a l p, c2 = .slice a l p ∧ l ≤ p := by
      rcases open_slice Tryz.underlying24 e2 with ⟨hcs, _⟩ | ⟨ad, l, c, _, _, _, _, hcs, _, hlc, _⟩
      · exact ⟨_, _, _, by simpa using hcs, Nat.le_refl _⟩
      · exact ⟨_, _, _, by simpa using hcs, hlc⟩
    obtain ⟨z2, s2, u2⟩ := IntL_of_trod e2
    obtain ⟨a3, l3, p3, rfl, hcp3⟩ : ∃ a l p, c3 = .slice a l p ∧ l ≤ p := by
      rcases open_slice Tryz.underlying60 e3 with ⟨hcs, _⟩ | ⟨ad, l, c, _, _, _, _, hcs, _, hlc, _⟩
      · exact ⟨_, _, _, by simpa using hcs, Nat.le_refl _⟩
      · exact ⟨_, _, _, by simpa using hcs, hlc⟩
    obtain ⟨z3, s3, u3⟩ := UniqueL_of_trod e3
    obtain ⟨a4, l4, p4, rfl, hcp4⟩ : ∃ a l p, c4 = .slice a l p ∧ l ≤ p := by
      rcases open_slice Tryz.underlying61 e4 with ⟨hcs, _⟩ | ⟨ad, l, c, _, _, _, _, hcs, _, hlc, _⟩
      · exact ⟨_, _, _, by simpa using hcs, Nat.le_refl _⟩
      · exact ⟨_, _, _, by simpa using hcs, hlc⟩
    obtain ⟨z4, s4, u4⟩ := CheckL_of_trod e4
    obtain ⟨a5, l5, p5, rfl, hcp5⟩ : ∃ a l p, c5 = .slice a l p ∧ l ≤ p := by
      rcases open_slice Tryz.underlying62 e5 with ⟨hcs, _⟩ | ⟨ad, l, c, _, _, _, _, hcs, _, hlc, _⟩
      · exact ⟨_, _, _, by simpa using hcs, Nat.le_refl _⟩
      · exact ⟨_, _, _, by simpa using hcs, hlc⟩
    obtain ⟨z5, s5, u5⟩ := FkL_of_trod e5
    exact ⟨⟨z0, z1, z2, z3, z4, z5⟩, ⟨_, _, _, _, _, _, _, _, _, _, _, _, _, _, _, rfl, s1, s2, s3, s4, s5, ⟨hcp1, hcp2, hcp3, hcp4, hcp5⟩⟩, ⟨u0, u1, u2, u3, u4, u5⟩⟩

theorem TableL_of_trod {H : Type} {enc : TypeId × Value → H} {W : World} {fuel : Nat} {x : DataW H × List MemPlace} {a : Option Addr} {len cap : Nat} (h : DataW.trod enc Tryz.prog W 0 (fun _ => true) true fuel 22 [.slice a len cap] = some x) : ∃ ds : List Tb, Sl TbR 6 (fun _ => True) W a len ds ∧ (ds.length ≤ maxLen ∧ ∀ y ∈ ds, y.wf) :=
  sl_of_trod (R := TbR) (q := Tb.wf) (sz := 6) Tryz.underlying22 (by kernel_rfl) (by omega) (fun n c y hy => Table_of_trod hy) h

set_option maxRecDepth 100000 in
theorem Row_of_trod {H : Type} {enc : TypeId × Value → H} {W : World} {fuel : Nat} {cs : List Value} {x : DataW H × List MemPlace} (h : DataW.trod enc Tryz.prog W 0 (fun _ => true) true fuel 193 cs = some x) : ∃ d, RwR (fun _ => True) W cs d ∧ d.wf := by
  obtain ⟨xs, n, _, _, hl, hlen, hf⟩ := DataW.trod_struct Tryz.underlying193 h
  rw [show Tryz.prog.cellsOf 193 = 2 by kernel_rfl] at hl
  match cs, hl, xs, hlen with
  | [c0, c1], _, [y0, y1], _ =>
    have e0 : DataW.trod enc Tryz.prog W 0 (fun _ => true) true n 2 [c0] = some y0 := by
      have := hf 0 _ rfl
      simpa [show Tryz.prog.cellsOf 2 = 1 by kernel_rfl] using this
    have e1 : DataW.trod enc Tryz.prog W 0 (fun _ => true) true n 44 [c1] = some y1 := by
      have := hf 1 _ rfl
      simpa [show Tryz.prog.cellsOf 44 = 1 by kernel_rfl] using this
    obtain ⟨z0, q0, -, -⟩ := DataW.trod_int Tryz.underlying2 e0
    simp at q0
    subst q0
    obtain ⟨a1, l1, p1, rfl, hcp1⟩ : ∃ a l p, c1 = .slice a l p ∧ l ≤ p := by
      rcases open_slice Tryz.underlying44 e1 with ⟨hcs, _⟩ | ⟨ad, l, c, _, _, _, _, hcs, _, hlc, _⟩
      · exact ⟨_, _, _, by simpa using hcs, Nat.le_refl _⟩
      · exact ⟨_, _, _, by simpa using hcs, hlc⟩
    obtain ⟨z1, s1, u1⟩ := ValL_of_trod e1
    exact ⟨⟨z0, z1⟩, ⟨_, _, _, rfl, s1, hcp1⟩, u1⟩

theorem RowL_of_trod {H : Type} {enc : TypeId × Value → H} {W : World} {fuel : Nat} {x : DataW H × List MemPlace} {a : Option Addr} {len cap : Nat} (h : DataW.trod enc Tryz.prog W 0 (fun _ => true) true fuel 84 [.slice a len cap] = some x) : ∃ ds : List Rw, Sl RwR 2 (fun _ => True) W a len ds ∧ (ds.length ≤ maxLen ∧ ∀ y ∈ ds, y.wf) :=
  sl_of_trod (R := RwR) (q := Rw.wf) (sz := 2) Tryz.underlying84 (by kernel_rfl) (by omega) (fun n c y hy => Row_of_trod hy) h

set_option maxRecDepth 100000 in
theorem Data_of_trod {H : Type} {enc : TypeId × Value → H} {W : World} {fuel : Nat} {cs : List Value} {x : DataW H × List MemPlace} (h : DataW.trod enc Tryz.prog W 0 (fun _ => true) true fuel 86 cs = some x) : ∃ d, DtR (fun _ => True) W cs d ∧ d.wf := by
  obtain ⟨xs, n, _, _, hl, hlen, hf⟩ := DataW.trod_struct Tryz.underlying86 h
  rw [show Tryz.prog.cellsOf 86 = 1 by kernel_rfl] at hl
  match cs, hl, xs, hlen with
  | [c0], _, [y0], _ =>
    have e0 : DataW.trod enc Tryz.prog W 0 (fun _ => true) true n 84 [c0] = some y0 := by
      have := hf 0 _ rfl
      simpa [show Tryz.prog.cellsOf 84 = 1 by kernel_rfl] using this
    obtain ⟨a0, l0, p0, rfl, hcp0⟩ : ∃ a l p, c0 = .slice a l p ∧ l ≤ p := by
      rcases open_slice Tryz.underlying84 e0 with ⟨hcs, _⟩ | ⟨ad, l, c, _, _, _, _, hcs, _, hlc, _⟩
      · exact ⟨_, _, _, by simpa using hcs, Nat.le_refl _⟩
      · exact ⟨_, _, _, by simpa using hcs, hlc⟩
    obtain ⟨z0, s0, u0⟩ := RowL_of_trod e0
    exact ⟨⟨z0⟩, ⟨_, _, _, rfl, s0, hcp0⟩, u0⟩

theorem DataL_of_trod {H : Type} {enc : TypeId × Value → H} {W : World} {fuel : Nat} {x : DataW H × List MemPlace} {a : Option Addr} {len cap : Nat} (h : DataW.trod enc Tryz.prog W 0 (fun _ => true) true fuel 33 [.slice a len cap] = some x) : ∃ ds : List Dt, Sl DtR 1 (fun _ => True) W a len ds ∧ (ds.length ≤ maxLen ∧ ∀ y ∈ ds, y.wf) :=
  sl_of_trod (R := DtR) (q := Dt.wf) (sz := 1) Tryz.underlying33 (by kernel_rfl) (by omega) (fun n c y hy => Data_of_trod hy) h

end Go.Proofs.YtgmgjjoalpnmhaaGreat
namespace Go.Proofs.YtgmgjjoalpnmhaaGreat
open Go.RowKit
set_option linter.unusedVariables false

theorem lawsSzInts (A : Option Addr) (n c : Nat) (l : List Int) (left : Int) (ok : Nat → Prop) (w : World) (h : Sl IntR 1 ok w A n l) (hwf : l.length ≤ maxLen) (hp0 : 0 ≤ left) (hle : left ≤ 1048576) :
    Calls Tryz.prog 79 #[.slice A n c, .int .i64 left] w fun e w' => e = .returned (.int .i64 (szR left l.length)) ∧ Below w.heap.size w w' := by
  obtain rfl : l.length = n := h.1
  unfold maxLen at hwf
  by_cases hs : left - (l.length : Int) < 0
  · go_enter Tryz.func79, Tryz.ntmps79
    go_wp2
    go_ret
    exact ⟨retI (szR_no (by omega)), Below.refl _ _⟩
  · have hs' : decide (left - (l.length : Int) < 0) = false := by simpa using hs
    go_enter Tryz.func79, Tryz.ntmps79
    go_wp2
    go_ret
    exact ⟨retI (szR_yes (by omega) rfl), Below.refl _ _⟩

theorem lawsSzValR (v : Vl) (left : Int) (w : World) (hs : v.s.size ≤ maxLen) (h0 : 0 ≤ left) (h1 : left ≤ 1048576) :
    Calls Tryz.prog 63 #[.agg #[.int .i64 v.k, .int .i64 v.n, .string v.s], .int .i64 left] w fun e w' => e = .returned (.int .i64 (szR left v.s.size)) ∧ Below w.heap.size w w' :=
  (lawsSzVal v.k v.n v.s left w h0 h1 hs).mono fun e w' ⟨he, hb⟩ => ⟨by rw [he, show szN left v.s = szR left v.s.size by unfold szN szR; split <;> split <;> omega], hb⟩
theorem lawsSzTokR (x : Tk) (left : Int) (w : World) (hs : x.vs.size ≤ maxLen) (h0 : 0 ≤ left) (h1 : left ≤ 1048576) :
    Calls Tryz.prog 164 #[.agg #[.int .i64 x.k, .int .i64 x.c, .int .i64 x.vk, .int .i64 x.vn, .string x.vs], .int .i64 left] w fun e w' => e = .returned (.int .i64 (szR left x.vs.size)) ∧ Below w.heap.size w w' :=
  (lawsSzTok x left w h0 h1 hs).mono fun e w' ⟨he, hb⟩ => ⟨by rw [he, show szN left x.vs = szR left x.vs.size by unfold szN szR; split <;> split <;> omega], hb⟩

set_option maxHeartbeats 1000000 in
theorem lawsSzTokL (A : Option Addr) (n c : Nat) (l : List Tk) (left : Int) (ok : Nat → Prop) (w : World) (h : Sl TkR 5 ok w A n l) (hwf : (l.length ≤ maxLen ∧ ∀ t ∈ l, t.vs.size ≤ maxLen)) (hp0 : 0 ≤ left) (hle : left ≤ 1048576) :
    Calls Tryz.prog 148 #[.slice A n c, .int .i64 left] w fun e w' => e = .returned (.int .i64 (szR left (szL (fun t : Tk => t.vs.size) l))) ∧ Below w.heap.size w w' := by
  obtain rfl : l.length = n := h.1
  obtain ⟨hlen, hall⟩ := hwf
  unfold maxLen at hlen
  have HW := Lib.hid hall
  clear hall
  by_cases hs : left - (l.length : Int) < 0
  · go_enter Tryz.func148, Tryz.ntmps148
    go_wp2
    go_ret
    exact ⟨retI (szR_no (by unfold szL; omega)), Below.refl _ _⟩
  have hs' : decide (left - (l.length : Int) < 0) = false := by simpa using hs
  go_enter Tryz.func148, Tryz.ntmps148
  go_wp2
  go_loopw [1, 5] (fun m i wr => ∃ (k : Nat) (u : Int), k ≤ l.length ∧ i = .int .i64 k ∧ m = .int .i64 u ∧ 0 ≤ u ∧ u ≤ left ∧ Hid (u = left - l.length - ((l.take k).map (fun t : Tk => t.vs.size)).sum) ∧ Below w.heap.size w wr) (fun _ i _ => l.length - (intOf i).toNat)
  case atStart => exact ⟨0, _, by omega, rfl, rfl, by omega, by omega, Lib.hid (by simp), Below.refl _ _⟩
  case round =>
    obtain ⟨k, u, hk, rfl, rfl, hu0, hu1, hu, hb⟩ := hrel
    by_cases hlt : k < l.length
    · obtain ⟨b, off, -, rfl, q0, q1, q2, q3, q4⟩ := TkR.at_ (h.below TkR.stays hb) hlt
      have hx := HW.out _ (List.getElem_mem hlt)
      have hst := sum_take (fun t : Tk => t.vs.size) l k hlt
      have hsl := sum_take_le (fun t : Tk => t.vs.size) l (k + 1)
      have HST := Lib.hid hst
      have HSL := Lib.hid hsl
      have HX := Lib.hid hx
      clear hst hsl hx
      rcases szR_cases u (l[k].vs.size) hu0 with ⟨hno, hv⟩ | ⟨u', hv, hu', hu0', hu1', -⟩
      · go_wp2_with fail
        refine (lawsSzTokR l[k] u _ HX.out hu0 (by omega)).mono ?_
        rintro e w1 ⟨rfl, hb1⟩
        rw [hv.out]
        go_wp2_with fail
        go_ret
        exact ⟨retI (szR_no (by have e1 := hu.out; have e2 := HST.out; have e3 := HSL.out; unfold szL; (try simp only at e1 e2 e3 ⊢); omega)), hb.trans (hb1.mono hb.size)⟩
      · go_wp2_with fail
        refine (lawsSzTokR l[k] u _ HX.out hu0 (by omega)).mono ?_
        rintro e w1 ⟨rfl, hb1⟩
        rw [hv.out]
        go_wp2_with fail
        go_roundw
        case rel => exact ⟨k + 1, _, by omega, by go_num, rfl, by omega, by omega, Lib.hid (by have e1 := hu.out; have e2 := HST.out; have e3 := hu'.out; (try simp only at e1 e2 e3 ⊢); omega), hb.trans (hb1.mono hb.size)⟩
        case measure => simp [intOf]; omega
    · have e : l.take k = l := List.take_of_length_le (by omega)
      have e1 := hu.out
      rw [e] at e1
      have HU := Lib.hid e1
      clear e1 hu e
      go_wp2
      go_ret
      exact ⟨retI (szR_yes (by omega) (by have e1 := HU.out; unfold szL; omega)), hb⟩

set_option maxHeartbeats 1000000 in
theorem lawsSzValL (A : Option Addr) (n c : Nat) (l : List Vl) (left : Int) (ok : Nat → Prop) (w : World) (h : Sl VlR 3 ok w A n l) (hwf : (l.length ≤ maxLen ∧ ∀ v ∈ l, v.s.size ≤ maxLen)) (hp0 : 0 ≤ left) (hle : left ≤ 1048576) :
    Calls Tryz.prog 28 #[.slice A n c, .int .i64 left] w fun e w' => e = .returned (.int .i64 (szR left (szL (fun v : Vl => v.s.size) l))) ∧ Below w.heap.size w w' := by
  obtain rfl : l.length = n := h.1
  obtain ⟨hlen, hall⟩ := hwf
  unfold maxLen at hlen
  have HW := Lib.hid hall
  clear hall
  by_cases hs : left - (l.length : Int) < 0
  · go_enter Tryz.func28, Tryz.ntmps28
    go_wp2
    go_ret
    exact ⟨retI (szR_no (by unfold szL; omega)), Below.refl _ _⟩
  have hs' : decide (left - (l.length : Int) < 0) = false := by simpa using hs
  go_enter Tryz.func28, Tryz.ntmps28
  go_wp2
  go_loopw [1, 5] (fun m i wr => ∃ (k : Nat) (u : Int), k ≤ l.length ∧ i = .int .i64 k ∧ m = .int .i64 u ∧ 0 ≤ u ∧ u ≤ left ∧ Hid (u = left - l.length - ((l.take k).map (fun v : Vl => v.s.size)).sum) ∧ Below w.heap.size w wr) (fun _ i _ => l.length - (intOf i).toNat)
  case atStart => exact ⟨0, _, by omega, rfl, rfl, by omega, by omega, Lib.hid (by simp), Below.refl _ _⟩
  case round =>
    obtain ⟨k, u, hk, rfl, rfl, hu0, hu1, hu, hb⟩ := hrel
    by_cases hlt : k < l.length
    · obtain ⟨b, off, -, rfl, q0, q1, q2⟩ := VlR.at_ (h.below VlR.stays hb) hlt
      have hx := HW.out _ (List.getElem_mem hlt)
      have hst := sum_take (fun v : Vl => v.s.size) l k hlt
      have hsl := sum_take_le (fun v : Vl => v.s.size) l (k + 1)
      have HST := Lib.hid hst
      have HSL := Lib.hid hsl
      have HX := Lib.hid hx
      clear hst hsl hx
      rcases szR_cases u (l[k].s.size) hu0 with ⟨hno, hv⟩ | ⟨u', hv, hu', hu0', hu1', -⟩
      · go_wp2_with fail
        refine (lawsSzValR l[k] u _ HX.out hu0 (by omega)).mono ?_
        rintro e w1 ⟨rfl, hb1⟩
        rw [hv.out]
        go_wp2_with fail
        go_ret
        exact ⟨retI (szR_no (by have e1 := hu.out; have e2 := HST.out; have e3 := HSL.out; unfold szL; (try simp only at e1 e2 e3 ⊢); omega)), hb.trans (hb1.mono hb.size)⟩
      · go_wp2_with fail
        refine (lawsSzValR l[k] u _ HX.out hu0 (by omega)).mono ?_
        rintro e w1 ⟨rfl, hb1⟩
        rw [hv.out]
        go_wp2_with fail
        go_roundw
        case rel => exact ⟨k + 1, _, by omega, by go_num, rfl, by omega, by omega, Lib.hid (by have e1 := hu.out; have e2 := HST.out; have e3 := hu'.out; (try simp only at e1 e2 e3 ⊢); omega), hb.trans (hb1.mono hb.size)⟩
        case measure => simp [intOf]; omega
    · have e : l.take k = l := List.take_of_length_le (by omega)
      have e1 := hu.out
      rw [e] at e1
      have HU := Lib.hid e1
      clear e1 hu e
      go_wp2
      go_ret
      exact ⟨retI (szR_yes (by omega) (by have e1 := HU.out; unfold szL; omega)), hb⟩

set_option maxRecDepth 100000 in
set_option maxHeartbeats 1000000 in
theorem lawsSzCol (x : Cl)  (left : Int) (ok : Nat → Prop) (w : World)  (hwf : x.wf) (hp0 : 0 ≤ left) (hle : left ≤ 1048576) :
    Calls Tryz.prog 112 #[.agg #[.string x.name, .int .i64 x.kind, .bool x.nn, .int .i64 x.d.k, .int .i64 x.d.n, .string x.d.s], .int .i64 left] w fun e w' => e = .returned (.int .i64 (szR left x.sz)) ∧ Below w.heap.size w w' := by
  obtain ⟨wf0, wf3⟩ := hwf
  unfold maxLen at wf0
  have WF3 := Lib.hid wf3
  clear wf3
  have HB := Lib.hid ((Below.refl w.heap.size w).alloc (Nat.le_refl _) (.cells #[.string x.name, .int .i64 x.kind, .bool x.nn, .int .i64 x.d.k, .int .i64 x.d.n, .string x.d.s] 164))
  have RB := Lib.hid (Row.new w 164 #[.string x.name, .int .i64 x.kind, .bool x.nn, .int .i64 x.d.k, .int .i64 x.d.n, .string x.d.s])
  by_cases hs0 : left - (x.name.size : Int) < 0
  · go_enter Tryz.func112, Tryz.ntmps112
    go_wp2_with fail
    go_ret
    exact ⟨retI (szR_no (by simp only [Cl.sz]; omega)), HB.out⟩
  have hs0' : decide (left - (x.name.size : Int) < 0) = false := by simpa using hs0
  go_enter Tryz.func112, Tryz.ntmps112
  go_wp2_with fail
  refine (lawsSzValR x.d (left - (x.name.size : Int)) _ WF3.out (by omega) (by omega)).mono ?_
  rintro e w1 ⟨rfl, hb1⟩
  have hbb1 := (HB.out).trans (hb1.mono (HB.out).size)
  have RB1 := Lib.hid ((RB.out).below hb1)
  obtain ⟨⟨p1_0, p1_1, p1_2, p1_3, p1_4, p1_5⟩, -⟩ := RB1.out.all6
  rcases szR_cases (left - (x.name.size : Int)) (x.d.s.size) (by omega) with ⟨hno1, hv1⟩ | ⟨l1, hv1, hl1, h01, h11, -⟩
  · rw [hv1.out]
    go_wp2_with fail
    go_ret
    exact ⟨retI (szR_no (by simp only [Cl.sz]; omega)), hbb1⟩
  rw [hv1.out]
  go_wp2_with fail
  go_ret
  exact ⟨retI (szR_yes (by omega) (by have := hl1.out; simp only [Cl.sz]; omega)), hbb1⟩

set_option maxHeartbeats 1000000 in
theorem lawsSzColL (A : Option Addr) (n c : Nat) (l : List Cl) (left : Int) (ok : Nat → Prop) (w : World) (h : Sl ClR 6 ok w A n l) (hwf : (l.length ≤ maxLen ∧ ∀ y ∈ l, y.wf)) (hp0 : 0 ≤ left) (hle : left ≤ 1048576) :
    Calls Tryz.prog 78 #[.slice A n c, .int .i64 left] w fun e w' => e = .returned (.int .i64 (szR left (szL Cl.sz l))) ∧ Below w.heap.size w w' := by
  obtain rfl : l.length = n := h.1
  obtain ⟨hlen, hall⟩ := hwf
  unfold maxLen at hlen
  have HW := Lib.hid hall
  clear hall
  by_cases hs : left - (l.length : Int) < 0
  · go_enter Tryz.func78, Tryz.ntmps78
    go_wp2
    go_ret
    exact ⟨retI (szR_no (by unfold szL; omega)), Below.refl _ _⟩
  have hs' : decide (left - (l.length : Int) < 0) = false := by simpa using hs
  go_enter Tryz.func78, Tryz.ntmps78
  go_wp2
  go_loopw [1, 5] (fun m i wr => ∃ (k : Nat) (u : Int), k ≤ l.length ∧ i = .int .i64 k ∧ m = .int .i64 u ∧ 0 ≤ u ∧ u ≤ left ∧ Hid (u = left - l.length - ((l.take k).map (Cl.sz)).sum) ∧ Below w.heap.size w wr) (fun _ i _ => l.length - (intOf i).toNat)
  case atStart => exact ⟨0, _, by omega, rfl, rfl, by omega, by omega, Lib.hid (by simp), Below.refl _ _⟩
  case round =>
    obtain ⟨k, u, hk, rfl, rfl, hu0, hu1, hu, hb⟩ := hrel
    by_cases hlt : k < l.length
    · obtain ⟨b, off, -, rfl, q0, q1, q2, q3, q4, q5⟩ := ClR.at_ (h.below ClR.stays hb) hlt
      have hx := HW.out _ (List.getElem_mem hlt)
      have hst := sum_take (Cl.sz) l k hlt
      have hsl := sum_take_le (Cl.sz) l (k + 1)
      have HST := Lib.hid hst
      have HSL := Lib.hid hsl
      have HX := Lib.hid hx
      clear hst hsl hx
      rcases szR_cases u (l[k].sz) hu0 with ⟨hno, hv⟩ | ⟨u', hv, hu', hu0', hu1', -⟩
      · go_wp2_with fail
        refine (lawsSzCol l[k]  u ok _  HX.out hu0 (by omega)).mono ?_
        rintro e w1 ⟨rfl, hb1⟩
        rw [hv.out]
        go_wp2_with fail
        go_ret
        exact ⟨retI (szR_no (by have e1 := hu.out; have e2 := HST.out; have e3 := HSL.out; unfold szL; (try simp only at e1 e2 e3 ⊢); omega)), hb.trans (hb1.mono hb.size)⟩
      · go_wp2_with fail
        refine (lawsSzCol l[k]  u ok _  HX.out hu0 (by omega)).mono ?_
        rintro e w1 ⟨rfl, hb1⟩
        rw [hv.out]
        go_wp2_with fail
        go_roundw
        case rel => exact ⟨k + 1, _, by omega, by go_num, rfl, by omega, by omega, Lib.hid (by have e1 := hu.out; have e2 := HST.out; have e3 := hu'.out; (try simp only at e1 e2 e3 ⊢); omega), hb.trans (hb1.mono hb.size)⟩
        case measure => simp [intOf]; omega
    · have e : l.take k = l := List.take_of_length_le (by omega)
      have e1 := hu.out
      rw [e] at e1
      have HU := Lib.hid e1
      clear e1 hu e
      go_wp2
      go_ret
      exact ⟨retI (szR_yes (by omega) (by have e1 := HU.out; unfold szL; omega)), hb⟩

set_option maxRecDepth 100000 in
set_option maxHeartbeats 1000000 in
theorem lawsSzUnique (x : Uq) (A0 : Option Addr) (n0 c0 : Nat) (left : Int) (ok : Nat → Prop) (w : World) (h0 : Sl IntR 1 ok w A0 n0 x.cols) (hwf : x.wf) (hp0 : 0 ≤ left) (hle : left ≤ 1048576) :
    Calls Tryz.prog 113 #[.agg #[.slice A0 n0 c0], .int .i64 left] w fun e w' => e = .returned (.int .i64 (szR left x.sz)) ∧ Below w.heap.size w w' := by
  have wf0 := hwf
  have WF0 := Lib.hid wf0
  clear wf0
  have HB := Lib.hid ((Below.refl w.heap.size w).alloc (Nat.le_refl _) (.cells #[.slice A0 n0 c0] 166))
  have RB := Lib.hid (Row.new w 166 #[.slice A0 n0 c0])
  go_enter Tryz.func113, Tryz.ntmps113
  go_wp2_with fail
  refine (lawsSzInts A0 n0 c0 x.cols left ok _ (h0.below IntR.stays HB.out) WF0.out (by omega) (by omega)).mono ?_
  rintro e w1 ⟨rfl, hb1⟩
  have hbb1 := (HB.out).trans (hb1.mono (HB.out).size)
  have RB1 := Lib.hid ((RB.out).below hb1)
  obtain ⟨p1_0, -⟩ := RB1.out.all1
  rcases szR_cases left (x.cols.length) (by omega) with ⟨hno1, hv1⟩ | ⟨l1, hv1, hl1, h01, h11, -⟩
  · rw [hv1.out]
    go_wp2_with fail
    go_ret
    exact ⟨retI (szR_no (by simp only [Uq.sz]; omega)), hbb1⟩
  rw [hv1.out]
  go_wp2_with fail
  go_ret
  exact ⟨retI (szR_yes (by omega) (by have := hl1.out; simp only [Uq.sz]; omega)), hbb1⟩

set_option maxHeartbeats 1000000 in
theorem lawsSzUniqueL (A : Option Addr) (n c : Nat) (l : List Uq) (left : Int) (ok : Nat → Prop) (w : World) (h : Sl UqR 1 ok w A n l) (hwf : (l.length ≤ maxLen ∧ ∀ y ∈ l, y.wf)) (hp0 : 0 ≤ left) (hle : left ≤ 1048576) :
    Calls Tryz.prog 80 #[.slice A n c, .int .i64 left] w fun e w' => e = .returned (.int .i64 (szR left (szL Uq.sz l))) ∧ Below w.heap.size w w' := by
  obtain rfl : l.length = n := h.1
  obtain ⟨hlen, hall⟩ := hwf
  unfold maxLen at hlen
  have HW := Lib.hid hall
  clear hall
  by_cases hs : left - (l.length : Int) < 0
  · go_enter Tryz.func80, Tryz.ntmps80
    go_wp2
    go_ret
    exact ⟨retI (szR_no (by unfold szL; omega)), Below.refl _ _⟩
  have hs' : decide (left - (l.length : Int) < 0) = false := by simpa using hs
  go_enter Tryz.func80, Tryz.ntmps80
  go_wp2
  go_loopw [1, 5] (fun m i wr => ∃ (k : Nat) (u : Int), k ≤ l.length ∧ i = .int .i64 k ∧ m = .int .i64 u ∧ 0 ≤ u ∧ u ≤ left ∧ Hid (u = left - l.length - ((l.take k).map (Uq.sz)).sum) ∧ Below w.heap.size w wr) (fun _ i _ => l.length - (intOf i).toNat)
  case atStart => exact ⟨0, _, by omega, rfl, rfl, by omega, by omega, Lib.hid (by simp), Below.refl _ _⟩
  case round =>
    obtain ⟨k, u, hk, rfl, rfl, hu0, hu1, hu, hb⟩ := hrel
    by_cases hlt : k < l.length
    · obtain ⟨b, off, A0, n0, c0, -, rfl, q0, s0, -⟩ := UqR.at_ (h.below UqR.stays hb) hlt
      have hx := HW.out _ (List.getElem_mem hlt)
      have hst := sum_take (Uq.sz) l k hlt
      have hsl := sum_take_le (Uq.sz) l (k + 1)
      have HST := Lib.hid hst
      have HSL := Lib.hid hsl
      have HX := Lib.hid hx
      clear hst hsl hx
      rcases szR_cases u (l[k].sz) hu0 with ⟨hno, hv⟩ | ⟨u', hv, hu', hu0', hu1', -⟩
      · go_wp2_with fail
        refine (lawsSzUnique l[k] A0 n0 c0 u ok _ s0 HX.out hu0 (by omega)).mono ?_
        rintro e w1 ⟨rfl, hb1⟩
        rw [hv.out]
        go_wp2_with fail
        go_ret
        exact ⟨retI (szR_no (by have e1 := hu.out; have e2 := HST.out; have e3 := HSL.out; unfold szL; (try simp only at e1 e2 e3 ⊢); omega)), hb.trans (hb1.mono hb.size)⟩
      · go_wp2_with fail
        refine (lawsSzUnique l[k] A0 n0 c0 u ok _ s0 HX.out hu0 (by omega)).mono ?_
        rintro e w1 ⟨rfl, hb1⟩
        rw [hv.out]
        go_wp2_with fail
        go_roundw
        case rel => exact ⟨k + 1, _, by omega, by go_num, rfl, by omega, by omega, Lib.hid (by have e1 := hu.out; have e2 := HST.out; have e3 := hu'.out; (try simp only at e1 e2 e3 ⊢); omega), hb.trans (hb1.mono hb.size)⟩
        case measure => simp [intOf]; omega
    · have e : l.take k = l := List.take_of_length_le (by omega)
      have e1 := hu.out
      rw [e] at e1
      have HU := Lib.hid e1
      clear e1 hu e
      go_wp2
      go_ret
      exact ⟨retI (szR_yes (by omega) (by have e1 := HU.out; unfold szL; omega)), hb⟩

set_option maxRecDepth 100000 in
set_option maxHeartbeats 1000000 in
theorem lawsSzCheck (x : Ck) (A0 : Option Addr) (n0 c0 : Nat) (left : Int) (ok : Nat → Prop) (w : World) (h0 : Sl TkR 5 ok w A0 n0 x.expr) (hwf : x.wf) (hp0 : 0 ≤ left) (hle : left ≤ 1048576) :
    Calls Tryz.prog 114 #[.agg #[.slice A0 n0 c0], .int .i64 left] w fun e w' => e = .returned (.int .i64 (szR left x.sz)) ∧ Below w.heap.size w w' := by
  have wf0 := hwf
  have WF0 := Lib.hid wf0
  clear wf0
  have HB := Lib.hid ((Below.refl w.heap.size w).alloc (Nat.le_refl _) (.cells #[.slice A0 n0 c0] 170))
  have RB := Lib.hid (Row.new w 170 #[.slice A0 n0 c0])
  go_enter Tryz.func114, Tryz.ntmps114
  go_wp2_with fail
  refine (lawsSzTokL A0 n0 c0 x.expr left ok _ (h0.below TkR.stays HB.out) WF0.out (by omega) (by omega)).mono ?_
  rintro e w1 ⟨rfl, hb1⟩
  have hbb1 := (HB.out).trans (hb1.mono (HB.out).size)
  have RB1 := Lib.hid ((RB.out).below hb1)
  obtain ⟨p1_0, -⟩ := RB1.out.all1
  rcases szR_cases left (szL (fun t : Tk => t.vs.size) x.expr) (by omega) with ⟨hno1, hv1⟩ | ⟨l1, hv1, hl1, h01, h11, -⟩
  · rw [hv1.out]
    go_wp2_with fail
    go_ret
    exact ⟨retI (szR_no (by simp only [Ck.sz]; omega)), hbb1⟩
  rw [hv1.out]
  go_wp2_with fail
  go_ret
  exact ⟨retI (szR_yes (by omega) (by have := hl1.out; simp only [Ck.sz]; omega)), hbb1⟩

set_option maxHeartbeats 1000000 in
theorem lawsSzCheckL (A : Option Addr) (n c : Nat) (l : List Ck) (left : Int) (ok : Nat → Prop) (w : World) (h : Sl CkR 1 ok w A n l) (hwf : (l.length ≤ maxLen ∧ ∀ y ∈ l, y.wf)) (hp0 : 0 ≤ left) (hle : left ≤ 1048576) :
    Calls Tryz.prog 81 #[.slice A n c, .int .i64 left] w fun e w' => e = .returned (.int .i64 (szR left (szL Ck.sz l))) ∧ Below w.heap.size w w' := by
  obtain rfl : l.length = n := h.1
  obtain ⟨hlen, hall⟩ := hwf
  unfold maxLen at hlen
  have HW := Lib.hid hall
  clear hall
  by_cases hs : left - (l.length : Int) < 0
  · go_enter Tryz.func81, Tryz.ntmps81
    go_wp2
    go_ret
    exact ⟨retI (szR_no (by unfold szL; omega)), Below.refl _ _⟩
  have hs' : decide (left - (l.length : Int) < 0) = false := by simpa using hs
  go_enter Tryz.func81, Tryz.ntmps81
  go_wp2
  go_loopw [1, 5] (fun m i wr => ∃ (k : Nat) (u : Int), k ≤ l.length ∧ i = .int .i64 k ∧ m = .int .i64 u ∧ 0 ≤ u ∧ u ≤ left ∧ Hid (u = left - l.length - ((l.take k).map (Ck.sz)).sum) ∧ Below w.heap.size w wr) (fun _ i _ => l.length - (intOf i).toNat)
  case atStart => exact ⟨0, _, by omega, rfl, rfl, by omega, by omega, Lib.hid (by simp), Below.refl _ _⟩
  case round =>
    obtain ⟨k, u, hk, rfl, rfl, hu0, hu1, hu, hb⟩ := hrel
    by_cases hlt : k < l.length
    · obtain ⟨b, off, A0, n0, c0, -, rfl, q0, s0, -⟩ := CkR.at_ (h.below CkR.stays hb) hlt
      have hx := HW.out _ (List.getElem_mem hlt)
      have hst := sum_take (Ck.sz) l k hlt
      have hsl := sum_take_le (Ck.sz) l (k + 1)
      have HST := Lib.hid hst
      have HSL := Lib.hid hsl
      have HX := Lib.hid hx
      clear hst hsl hx
      rcases szR_cases u (l[k].sz) hu0 with ⟨hno, hv⟩ | ⟨u', hv, hu', hu0', hu1', -⟩
      · go_wp2_with fail
        refine (lawsSzCheck l[k] A0 n0 c0 u ok _ s0 HX.out hu0 (by omega)).mono ?_
        rintro e w1 ⟨rfl, hb1⟩
        rw [hv.out]
        go_wp2_with fail
        go_ret
        exact ⟨retI (szR_no (by have e1 := hu.out; have e2 := HST.out; have e3 := HSL.out; unfold szL; (try simp only at e1 e2 e3 ⊢); omega)), hb.trans (hb1.mono hb.size)⟩
      · go_wp2_with fail
        refine (lawsSzCheck l[k] A0 n0 c0 u ok _ s0 HX.out hu0 (by omega)).mono ?_
        rintro e w1 ⟨rfl, hb1⟩
        rw [hv.out]
        go_wp2_with fail
        go_roundw
        case rel => exact ⟨k + 1, _, by omega, by go_num, rfl, by omega, by omega, Lib.hid (by have e1 := hu.out; have e2 := HST.out; have e3 := hu'.out; (try simp only at e1 e2 e3 ⊢); omega), hb.trans (hb1.mono hb.size)⟩
        case measure => simp [intOf]; omega
    · have e : l.take k = l := List.take_of_length_le (by omega)
      have e1 := hu.out
      rw [e] at e1
      have HU := Lib.hid e1
      clear e1 hu e
      go_wp2
      go_ret
      exact ⟨retI (szR_yes (by omega) (by have e1 := HU.out; unfold szL; omega)), hb⟩

set_option maxRecDepth 100000 in
set_option maxHeartbeats 1000000 in
theorem lawsSzFk (x : Fk) (A0 : Option Addr) (n0 c0 : Nat) (left : Int) (ok : Nat → Prop) (w : World) (h0 : Sl IntR 1 ok w A0 n0 x.cols) (hwf : x.wf) (hp0 : 0 ≤ left) (hle : left ≤ 1048576) :
    Calls Tryz.prog 115 #[.agg #[.slice A0 n0 c0, .string x.table, .int .i64 x.del, .int .i64 x.upd, .bool x.dfr], .int .i64 left] w fun e w' => e = .returned (.int .i64 (szR left x.sz)) ∧ Below w.heap.size w w' := by
  obtain ⟨wf0, wf1⟩ := hwf
  have WF0 := Lib.hid wf0
  clear wf0
  unfold maxLen at wf1
  have HB := Lib.hid ((Below.refl w.heap.size w).alloc (Nat.le_refl _) (.cells #[.slice A0 n0 c0, .string x.table, .int .i64 x.del, .int .i64 x.upd, .bool x.dfr] 172))
  have RB := Lib.hid (Row.new w 172 #[.slice A0 n0 c0, .string x.table, .int .i64 x.del, .int .i64 x.upd, .bool x.dfr])
  go_enter Tryz.func115, Tryz.ntmps115
  go_wp2_with fail
  refine (lawsSzInts A0 n0 c0 x.cols left ok _ (h0.below IntR.stays HB.out) WF0.out (by omega) (by omega)).mono ?_
  rintro e w1 ⟨rfl, hb1⟩
  have hbb1 := (HB.out).trans (hb1.mono (HB.out).size)
  have RB1 := Lib.hid ((RB.out).below hb1)
  obtain ⟨⟨p1_0, p1_1, p1_2, p1_3, p1_4⟩, -⟩ := RB1.out.five
  rcases szR_cases left (x.cols.length) (by omega) with ⟨hno1, hv1⟩ | ⟨l1, hv1, hl1, h01, h11, -⟩
  · rw [hv1.out]
    go_wp2_with fail
    go_ret
    exact ⟨retI (szR_no (by simp only [Fk.sz]; omega)), hbb1⟩
  rw [hv1.out]
  by_cases hs1 : l1 - (x.table.size : Int) < 0
  · go_wp2_with fail
    go_ret
    exact ⟨retI (szR_no (by have := hl1.out; simp only [Fk.sz]; omega)), hbb1⟩
  have hs1' : decide (l1 - (x.table.size : Int) < 0) = false := by simpa using hs1
  go_wp2_with fail
  go_ret
  exact ⟨retI (szR_yes (by omega) (by have := hl1.out; simp only [Fk.sz]; omega)), hbb1⟩

set_option maxHeartbeats 1000000 in
theorem lawsSzFkL (A : Option Addr) (n c : Nat) (l : List Fk) (left : Int) (ok : Nat → Prop) (w : World) (h : Sl FkR 5 ok w A n l) (hwf : (l.length ≤ maxLen ∧ ∀ y ∈ l, y.wf)) (hp0 : 0 ≤ left) (hle : left ≤ 1048576) :
    Calls Tryz.prog 82 #[.slice A n c, .int .i64 left] w fun e w' => e = .returned (.int .i64 (szR left (szL Fk.sz l))) ∧ Below w.heap.size w w' := by
  obtain rfl : l.length = n := h.1
  obtain ⟨hlen, hall⟩ := hwf
  unfold maxLen at hlen
  have HW := Lib.hid hall
  clear hall
  by_cases hs : left - (l.length : Int) < 0
  · go_enter Tryz.func82, Tryz.ntmps82
    go_wp2
    go_ret
    exact ⟨retI (szR_no (by unfold szL; omega)), Below.refl _ _⟩
  have hs' : decide (left - (l.length : Int) < 0) = false := by simpa using hs
  go_enter Tryz.func82, Tryz.ntmps82
  go_wp2
  go_loopw [1, 5] (fun m i wr => ∃ (k : Nat) (u : Int), k ≤ l.length ∧ i = .int .i64 k ∧ m = .int .i64 u ∧ 0 ≤ u ∧ u ≤ left ∧ Hid (u = left - l.length - ((l.take k).map (Fk.sz)).sum) ∧ Below w.heap.size w wr) (fun _ i _ => l.length - (intOf i).toNat)
  case atStart => exact ⟨0, _, by omega, rfl, rfl, by omega, by omega, Lib.hid (by simp), Below.refl _ _⟩
  case round =>
    obtain ⟨k, u, hk, rfl, rfl, hu0, hu1, hu, hb⟩ := hrel
    by_cases hlt : k < l.length
    · obtain ⟨b, off, A0, n0, c0, -, rfl, q0, q1, q2, q3, q4, s0, -⟩ := FkR.at_ (h.below FkR.stays hb) hlt
      have hx := HW.out _ (List.getElem_mem hlt)
      have hst := sum_take (Fk.sz) l k hlt
      have hsl := sum_take_le (Fk.sz) l (k + 1)
      have HST := Lib.hid hst
      have HSL := Lib.hid hsl
      have HX := Lib.hid hx
      clear hst hsl hx
      rcases szR_cases u (l[k].sz) hu0 with ⟨hno, hv⟩ | ⟨u', hv, hu', hu0', hu1', -⟩
      · go_wp2_with fail
        refine (lawsSzFk l[k] A0 n0 c0 u ok _ s0 HX.out hu0 (by omega)).mono ?_
        rintro e w1 ⟨rfl, hb1⟩
        rw [hv.out]
        go_wp2_with fail
        go_ret
        exact ⟨retI (szR_no (by have e1 := hu.out; have e2 := HST.out; have e3 := HSL.out; unfold szL; (try simp only at e1 e2 e3 ⊢); omega)), hb.trans (hb1.mono hb.size)⟩
      · go_wp2_with fail
        refine (lawsSzFk l[k] A0 n0 c0 u ok _ s0 HX.out hu0 (by omega)).mono ?_
        rintro e w1 ⟨rfl, hb1⟩
        rw [hv.out]
        go_wp2_with fail
        go_roundw
        case rel => exact ⟨k + 1, _, by omega, by go_num, rfl, by omega, by omega, Lib.hid (by have e1 := hu.out; have e2 := HST.out; have e3 := hu'.out; (try simp only at e1 e2 e3 ⊢); omega), hb.trans (hb1.mono hb.size)⟩
        case measure => simp [intOf]; omega
    · have e : l.take k = l := List.take_of_length_le (by omega)
      have e1 := hu.out
      rw [e] at e1
      have HU := Lib.hid e1
      clear e1 hu e
      go_wp2
      go_ret
      exact ⟨retI (szR_yes (by omega) (by have e1 := HU.out; unfold szL; omega)), hb⟩

set_option maxRecDepth 100000 in
set_option maxHeartbeats 1000000 in
theorem lawsSzTable (x : Tb) (A1 : Option Addr) (n1 c1 : Nat) (A2 : Option Addr) (n2 c2 : Nat) (A3 : Option Addr) (n3 c3 : Nat) (A4 : Option Addr) (n4 c4 : Nat) (A5 : Option Addr) (n5 c5 : Nat) (left : Int) (ok : Nat → Prop) (w : World) (h1 : Sl ClR 6 ok w A1 n1 x.cols) (h2 : Sl IntR 1 ok w A2 n2 x.key) (h3 : Sl UqR 1 ok w A3 n3 x.uniqs) (h4 : Sl CkR 1 ok w A4 n4 x.checks) (h5 : Sl FkR 5 ok w A5 n5 x.fks) (hwf : x.wf) (hp0 : 0 ≤ left) (hle : left ≤ 1048576) :
    Calls Tryz.prog 44 #[.agg #[.string x.name, .slice A1 n1 c1, .slice A2 n2 c2, .slice A3 n3 c3, .slice A4 n4 c4, .slice A5 n5 c5], .int .i64 left] w fun e w' => e = .returned (.int .i64 (szR left x.sz)) ∧ Below w.heap.size w w' := by
  obtain ⟨wf0, wf1, wf2, wf3, wf4, wf5⟩ := hwf
  unfold maxLen at wf0
  have WF1 := Lib.hid wf1
  clear wf1
  have WF2 := Lib.hid wf2
  clear wf2
  have WF3 := Lib.hid wf3
  clear wf3
  have WF4 := Lib.hid wf4
  clear wf4
  have WF5 := Lib.hid wf5
  clear wf5
  have HB := Lib.hid ((Below.refl w.heap.size w).alloc (Nat.le_refl _) (.cells #[.string x.name, .slice A1 n1 c1, .slice A2 n2 c2, .slice A3 n3 c3, .slice A4 n4 c4, .slice A5 n5 c5] 64))
  have RB := Lib.hid (Row.new w 64 #[.string x.name, .slice A1 n1 c1, .slice A2 n2 c2, .slice A3 n3 c3, .slice A4 n4 c4, .slice A5 n5 c5])
  by_cases hs0 : left - (x.name.size : Int) < 0
  · go_enter Tryz.func44, Tryz.ntmps44
    go_wp2_with fail
    go_ret
    exact ⟨retI (szR_no (by simp only [Tb.sz]; omega)), HB.out⟩
  have hs0' : decide (left - (x.name.size : Int) < 0) = false := by simpa using hs0
  go_enter Tryz.func44, Tryz.ntmps44
  go_wp2_with fail
  refine (lawsSzColL A1 n1 c1 x.cols (left - (x.name.size : Int)) ok _ (h1.below ClR.stays HB.out) WF1.out (by omega) (by omega)).mono ?_
  rintro e w1 ⟨rfl, hb1⟩
  have hbb1 := (HB.out).trans (hb1.mono (HB.out).size)
  have RB1 := Lib.hid ((RB.out).below hb1)
  obtain ⟨⟨p1_0, p1_1, p1_2, p1_3, p1_4, p1_5⟩, -⟩ := RB1.out.all6
  rcases szR_cases (left - (x.name.size : Int)) (szL Cl.sz x.cols) (by omega) with ⟨hno1, hv1⟩ | ⟨l1, hv1, hl1, h01, h11, -⟩
  · rw [hv1.out]
    go_wp2_with fail
    go_ret
    exact ⟨retI (szR_no (by simp only [Tb.sz]; omega)), hbb1⟩
  rw [hv1.out]
  go_wp2_with fail
  refine (lawsSzInts A2 n2 c2 x.key l1 ok _ (h2.below IntR.stays hbb1) WF2.out (by omega) (by omega)).mono ?_
  rintro e w2 ⟨rfl, hb2⟩
  have hbb2 := (hbb1).trans (hb2.mono (hbb1).size)
  have RB2 := Lib.hid ((RB1.out).below hb2)
  obtain ⟨⟨p2_0, p2_1, p2_2, p2_3, p2_4, p2_5⟩, -⟩ := RB2.out.all6
  rcases szR_cases l1 (x.key.length) (by omega) with ⟨hno2, hv2⟩ | ⟨l2, hv2, hl2, h02, h12, -⟩
  · rw [hv2.out]
    go_wp2_with fail
    go_ret
    exact ⟨retI (szR_no (by have := hl1.out; simp only [Tb.sz]; omega)), hbb2⟩
  rw [hv2.out]
  go_wp2_with fail
  refine (lawsSzUniqueL A3 n3 c3 x.uniqs l2 ok _ (h3.below UqR.stays hbb2) WF3.out (by omega) (by omega)).mono ?_
  rintro e w3 ⟨rfl, hb3⟩
  have hbb3 := (hbb2).trans (hb3.mono (hbb2).size)
  have RB3 := Lib.hid ((RB2.out).below hb3)
  obtain ⟨⟨p3_0, p3_1, p3_2, p3_3, p3_4, p3_5⟩, -⟩ := RB3.out.all6
  rcases szR_cases l2 (szL Uq.sz x.uniqs) (by omega) with ⟨hno3, hv3⟩ | ⟨l3, hv3, hl3, h03, h13, -⟩
  · rw [hv3.out]
    go_wp2_with fail
    go_ret
    exact ⟨retI (szR_no (by have := hl1.out; have := hl2.out; simp only [Tb.sz]; omega)), hbb3⟩
  rw [hv3.out]
  go_wp2_with fail
  refine (lawsSzCheckL A4 n4 c4 x.checks l3 ok _ (h4.below CkR.stays hbb3) WF4.out (by omega) (by omega)).mono ?_
  rintro e w4 ⟨rfl, hb4⟩
  have hbb4 := (hbb3).trans (hb4.mono (hbb3).size)
  have RB4 := Lib.hid ((RB3.out).below hb4)
  obtain ⟨⟨p4_0, p4_1, p4_2, p4_3, p4_4, p4_5⟩, -⟩ := RB4.out.all6
  rcases szR_cases l3 (szL Ck.sz x.checks) (by omega) with ⟨hno4, hv4⟩ | ⟨l4, hv4, hl4, h04, h14, -⟩
  · rw [hv4.out]
    go_wp2_with fail
    go_ret
    exact ⟨retI (szR_no (by have := hl1.out; have := hl2.out; have := hl3.out; simp only [Tb.sz]; omega)), hbb4⟩
  rw [hv4.out]
  go_wp2_with fail
  refine (lawsSzFkL A5 n5 c5 x.fks l4 ok _ (h5.below FkR.stays hbb4) WF5.out (by omega) (by omega)).mono ?_
  rintro e w5 ⟨rfl, hb5⟩
  have hbb5 := (hbb4).trans (hb5.mono (hbb4).size)
  have RB5 := Lib.hid ((RB4.out).below hb5)
  obtain ⟨⟨p5_0, p5_1, p5_2, p5_3, p5_4, p5_5⟩, -⟩ := RB5.out.all6
  rcases szR_cases l4 (szL Fk.sz x.fks) (by omega) with ⟨hno5, hv5⟩ | ⟨l5, hv5, hl5, h05, h15, -⟩
  · rw [hv5.out]
    go_wp2_with fail
    go_ret
    exact ⟨retI (szR_no (by have := hl1.out; have := hl2.out; have := hl3.out; have := hl4.out; simp only [Tb.sz]; omega)), hbb5⟩
  rw [hv5.out]
  go_wp2_with fail
  go_ret
  exact ⟨retI (szR_yes (by omega) (by have := hl1.out; have := hl2.out; have := hl3.out; have := hl4.out; have := hl5.out; simp only [Tb.sz]; omega)), hbb5⟩

set_option maxHeartbeats 1000000 in
theorem lawsSzTableL (A : Option Addr) (n c : Nat) (l : List Tb) (left : Int) (ok : Nat → Prop) (w : World) (h : Sl TbR 6 ok w A n l) (hwf : (l.length ≤ maxLen ∧ ∀ y ∈ l, y.wf)) (hp0 : 0 ≤ left) (hle : left ≤ 1048576) :
    Calls Tryz.prog 10 #[.slice A n c, .int .i64 left] w fun e w' => e = .returned (.int .i64 (szR left (szL Tb.sz l))) ∧ Below w.heap.size w w' := by
  obtain rfl : l.length = n := h.1
  obtain ⟨hlen, hall⟩ := hwf
  unfold maxLen at hlen
  have HW := Lib.hid hall
  clear hall
  by_cases hs : left - (l.length : Int) < 0
  · go_enter Tryz.func10, Tryz.ntmps10
    go_wp2
    go_ret
    exact ⟨retI (szR_no (by unfold szL; omega)), Below.refl _ _⟩
  have hs' : decide (left - (l.length : Int) < 0) = false := by simpa using hs
  go_enter Tryz.func10, Tryz.ntmps10
  go_wp2
  go_loopw [1, 5] (fun m i wr => ∃ (k : Nat) (u : Int), k ≤ l.length ∧ i = .int .i64 k ∧ m = .int .i64 u ∧ 0 ≤ u ∧ u ≤ left ∧ Hid (u = left - l.length - ((l.take k).map (Tb.sz)).sum) ∧ Below w.heap.size w wr) (fun _ i _ => l.length - (intOf i).toNat)
  case atStart => exact ⟨0, _, by omega, rfl, rfl, by omega, by omega, Lib.hid (by simp), Below.refl _ _⟩
  case round =>
    obtain ⟨k, u, hk, rfl, rfl, hu0, hu1, hu, hb⟩ := hrel
    by_cases hlt : k < l.length
    · obtain ⟨b, off, A1, n1, c1, A2, n2, c2, A3, n3, c3, A4, n4, c4, A5, n5, c5, -, rfl, q0, q1, q2, q3, q4, q5, s1, s2, s3, s4, s5, -⟩ := TbR.at_ (h.below TbR.stays hb) hlt
      have hx := HW.out _ (List.getElem_mem hlt)
      have hst := sum_take (Tb.sz) l k hlt
      have hsl := sum_take_le (Tb.sz) l (k + 1)
      have HST := Lib.hid hst
      have HSL := Lib.hid hsl
      have HX := Lib.hid hx
      clear hst hsl hx
      rcases szR_cases u (l[k].sz) hu0 with ⟨hno, hv⟩ | ⟨u', hv, hu', hu0', hu1', -⟩
      · go_wp2_with fail
        refine (lawsSzTable l[k] A1 n1 c1 A2 n2 c2 A3 n3 c3 A4 n4 c4 A5 n5 c5 u ok _ s1 s2 s3 s4 s5 HX.out hu0 (by omega)).mono ?_
        rintro e w1 ⟨rfl, hb1⟩
        rw [hv.out]
        go_wp2_with fail
        go_ret
        exact ⟨retI (szR_no (by have e1 := hu.out; have e2 := HST.out; have e3 := HSL.out; unfold szL; (try simp only at e1 e2 e3 ⊢); omega)), hb.trans (hb1.mono hb.size)⟩
      · go_wp2_with fail
        refine (lawsSzTable l[k] A1 n1 c1 A2 n2 c2 A3 n3 c3 A4 n4 c4 A5 n5 c5 u ok _ s1 s2 s3 s4 s5 HX.out hu0 (by omega)).mono ?_
        rintro e w1 ⟨rfl, hb1⟩
        rw [hv.out]
        go_wp2_with fail
        go_roundw
        case rel => exact ⟨k + 1, _, by omega, by go_num, rfl, by omega, by omega, Lib.hid (by have e1 := hu.out; have e2 := HST.out; have e3 := hu'.out; (try simp only at e1 e2 e3 ⊢); omega), hb.trans (hb1.mono hb.size)⟩
        case measure => simp [intOf]; omega
    · have e : l.take k = l := List.take_of_length_le (by omega)
      have e1 := hu.out
      rw [e] at e1
      have HU := Lib.hid e1
      clear e1 hu e
      go_wp2
      go_ret
      exact ⟨retI (szR_yes (by omega) (by have e1 := HU.out; unfold szL; omega)), hb⟩

set_option maxRecDepth 100000 in
set_option maxHeartbeats 1000000 in
theorem lawsSzRow (x : Rw) (A1 : Option Addr) (n1 c1 : Nat) (left : Int) (ok : Nat → Prop) (w : World) (h1 : Sl VlR 3 ok w A1 n1 x.vals) (hwf : x.wf) (hp0 : 0 ≤ left) (hle : left ≤ 1048576) :
    Calls Tryz.prog 136 #[.agg #[.int .i64 x.id, .slice A1 n1 c1], .int .i64 left] w fun e w' => e = .returned (.int .i64 (szR left x.sz)) ∧ Below w.heap.size w w' := by
  have wf1 := hwf
  have WF1 := Lib.hid wf1
  clear wf1
  have HB := Lib.hid ((Below.refl w.heap.size w).alloc (Nat.le_refl _) (.cells #[.int .i64 x.id, .slice A1 n1 c1] 193))
  have RB := Lib.hid (Row.new w 193 #[.int .i64 x.id, .slice A1 n1 c1])
  go_enter Tryz.func136, Tryz.ntmps136
  go_wp2_with fail
  refine (lawsSzValL A1 n1 c1 x.vals left ok _ (h1.below VlR.stays HB.out) WF1.out (by omega) (by omega)).mono ?_
  rintro e w1 ⟨rfl, hb1⟩
  have hbb1 := (HB.out).trans (hb1.mono (HB.out).size)
  have RB1 := Lib.hid ((RB.out).below hb1)
  obtain ⟨⟨p1_0, p1_1⟩, -⟩ := RB1.out.all2
  rcases szR_cases left (szL (fun v : Vl => v.s.size) x.vals) (by omega) with ⟨hno1, hv1⟩ | ⟨l1, hv1, hl1, h01, h11, -⟩
  · rw [hv1.out]
    go_wp2_with fail
    go_ret
    exact ⟨retI (szR_no (by simp only [Rw.sz]; omega)), hbb1⟩
  rw [hv1.out]
  go_wp2_with fail
  go_ret
  exact ⟨retI (szR_yes (by omega) (by have := hl1.out; simp only [Rw.sz]; omega)), hbb1⟩

set_option maxHeartbeats 1000000 in
theorem lawsSzRowL (A : Option Addr) (n c : Nat) (l : List Rw) (left : Int) (ok : Nat → Prop) (w : World) (h : Sl RwR 2 ok w A n l) (hwf : (l.length ≤ maxLen ∧ ∀ y ∈ l, y.wf)) (hp0 : 0 ≤ left) (hle : left ≤ 1048576) :
    Calls Tryz.prog 97 #[.slice A n c, .int .i64 left] w fun e w' => e = .returned (.int .i64 (szR left (szL Rw.sz l))) ∧ Below w.heap.size w w' := by
  obtain rfl : l.length = n := h.1
  obtain ⟨hlen, hall⟩ := hwf
  unfold maxLen at hlen
  have HW := Lib.hid hall
  clear hall
  by_cases hs : left - (l.length : Int) < 0
  · go_enter Tryz.func97, Tryz.ntmps97
    go_wp2
    go_ret
    exact ⟨retI (szR_no (by unfold szL; omega)), Below.refl _ _⟩
  have hs' : decide (left - (l.length : Int) < 0) = false := by simpa using hs
  go_enter Tryz.func97, Tryz.ntmps97
  go_wp2
  go_loopw [1, 5] (fun m i wr => ∃ (k : Nat) (u : Int), k ≤ l.length ∧ i = .int .i64 k ∧ m = .int .i64 u ∧ 0 ≤ u ∧ u ≤ left ∧ Hid (u = left - l.length - ((l.take k).map (Rw.sz)).sum) ∧ Below w.heap.size w wr) (fun _ i _ => l.length - (intOf i).toNat)
  case atStart => exact ⟨0, _, by omega, rfl, rfl, by omega, by omega, Lib.hid (by simp), Below.refl _ _⟩
  case round =>
    obtain ⟨k, u, hk, rfl, rfl, hu0, hu1, hu, hb⟩ := hrel
    by_cases hlt : k < l.length
    · obtain ⟨b, off, A1, n1, c1, -, rfl, q0, q1, s1, -⟩ := RwR.at_ (h.below RwR.stays hb) hlt
      have hx := HW.out _ (List.getElem_mem hlt)
      have hst := sum_take (Rw.sz) l k hlt
      have hsl := sum_take_le (Rw.sz) l (k + 1)
      have HST := Lib.hid hst
      have HSL := Lib.hid hsl
      have HX := Lib.hid hx
      clear hst hsl hx
      rcases szR_cases u (l[k].sz) hu0 with ⟨hno, hv⟩ | ⟨u', hv, hu', hu0', hu1', -⟩
      · go_wp2_with fail
        refine (lawsSzRow l[k] A1 n1 c1 u ok _ s1 HX.out hu0 (by omega)).mono ?_
        rintro e w1 ⟨rfl, hb1⟩
        rw [hv.out]
        go_wp2_with fail
        go_ret
        exact ⟨retI (szR_no (by have e1 := hu.out; have e2 := HST.out; have e3 := HSL.out; unfold szL; (try simp only at e1 e2 e3 ⊢); omega)), hb.trans (hb1.mono hb.size)⟩
      · go_wp2_with fail
        refine (lawsSzRow l[k] A1 n1 c1 u ok _ s1 HX.out hu0 (by omega)).mono ?_
        rintro e w1 ⟨rfl, hb1⟩
        rw [hv.out]
        go_wp2_with fail
        go_roundw
        case rel => exact ⟨k + 1, _, by omega, by go_num, rfl, by omega, by omega, Lib.hid (by have e1 := hu.out; have e2 := HST.out; have e3 := hu'.out; (try simp only at e1 e2 e3 ⊢); omega), hb.trans (hb1.mono hb.size)⟩
        case measure => simp [intOf]; omega
    · have e : l.take k = l := List.take_of_length_le (by omega)
      have e1 := hu.out
      rw [e] at e1
      have HU := Lib.hid e1
      clear e1 hu e
      go_wp2
      go_ret
      exact ⟨retI (szR_yes (by omega) (by have e1 := HU.out; unfold szL; omega)), hb⟩

set_option maxRecDepth 100000 in
set_option maxHeartbeats 1000000 in
theorem lawsSzData (x : Dt) (A0 : Option Addr) (n0 c0 : Nat) (left : Int) (ok : Nat → Prop) (w : World) (h0 : Sl RwR 2 ok w A0 n0 x.rows) (hwf : x.wf) (hp0 : 0 ≤ left) (hle : left ≤ 1048576) :
    Calls Tryz.prog 56 #[.agg #[.slice A0 n0 c0], .int .i64 left] w fun e w' => e = .returned (.int .i64 (szR left x.sz)) ∧ Below w.heap.size w w' := by
  have wf0 := hwf
  have WF0 := Lib.hid wf0
  clear wf0
  have HB := Lib.hid ((Below.refl w.heap.size w).alloc (Nat.le_refl _) (.cells #[.slice A0 n0 c0] 86))
  have RB := Lib.hid (Row.new w 86 #[.slice A0 n0 c0])
  go_enter Tryz.func56, Tryz.ntmps56
  go_wp2_with fail
  refine (lawsSzRowL A0 n0 c0 x.rows left ok _ (h0.below RwR.stays HB.out) WF0.out (by omega) (by omega)).mono ?_
  rintro e w1 ⟨rfl, hb1⟩
  have hbb1 := (HB.out).trans (hb1.mono (HB.out).size)
  have RB1 := Lib.hid ((RB.out).below hb1)
  obtain ⟨p1_0, -⟩ := RB1.out.all1
  rcases szR_cases left (szL Rw.sz x.rows) (by omega) with ⟨hno1, hv1⟩ | ⟨l1, hv1, hl1, h01, h11, -⟩
  · rw [hv1.out]
    go_wp2_with fail
    go_ret
    exact ⟨retI (szR_no (by simp only [Dt.sz]; omega)), hbb1⟩
  rw [hv1.out]
  go_wp2_with fail
  go_ret
  exact ⟨retI (szR_yes (by omega) (by have := hl1.out; simp only [Dt.sz]; omega)), hbb1⟩

set_option maxHeartbeats 1000000 in
theorem lawsSzDataL (A : Option Addr) (n c : Nat) (l : List Dt) (left : Int) (ok : Nat → Prop) (w : World) (h : Sl DtR 1 ok w A n l) (hwf : (l.length ≤ maxLen ∧ ∀ y ∈ l, y.wf)) (hp0 : 0 ≤ left) (hle : left ≤ 1048576) :
    Calls Tryz.prog 19 #[.slice A n c, .int .i64 left] w fun e w' => e = .returned (.int .i64 (szR left (szL Dt.sz l))) ∧ Below w.heap.size w w' := by
  obtain rfl : l.length = n := h.1
  obtain ⟨hlen, hall⟩ := hwf
  unfold maxLen at hlen
  have HW := Lib.hid hall
  clear hall
  by_cases hs : left - (l.length : Int) < 0
  · go_enter Tryz.func19, Tryz.ntmps19
    go_wp2
    go_ret
    exact ⟨retI (szR_no (by unfold szL; omega)), Below.refl _ _⟩
  have hs' : decide (left - (l.length : Int) < 0) = false := by simpa using hs
  go_enter Tryz.func19, Tryz.ntmps19
  go_wp2
  go_loopw [1, 5] (fun m i wr => ∃ (k : Nat) (u : Int), k ≤ l.length ∧ i = .int .i64 k ∧ m = .int .i64 u ∧ 0 ≤ u ∧ u ≤ left ∧ Hid (u = left - l.length - ((l.take k).map (Dt.sz)).sum) ∧ Below w.heap.size w wr) (fun _ i _ => l.length - (intOf i).toNat)
  case atStart => exact ⟨0, _, by omega, rfl, rfl, by omega, by omega, Lib.hid (by simp), Below.refl _ _⟩
  case round =>
    obtain ⟨k, u, hk, rfl, rfl, hu0, hu1, hu, hb⟩ := hrel
    by_cases hlt : k < l.length
    · obtain ⟨b, off, A0, n0, c0, -, rfl, q0, s0, -⟩ := DtR.at_ (h.below DtR.stays hb) hlt
      have hx := HW.out _ (List.getElem_mem hlt)
      have hst := sum_take (Dt.sz) l k hlt
      have hsl := sum_take_le (Dt.sz) l (k + 1)
      have HST := Lib.hid hst
      have HSL := Lib.hid hsl
      have HX := Lib.hid hx
      clear hst hsl hx
      rcases szR_cases u (l[k].sz) hu0 with ⟨hno, hv⟩ | ⟨u', hv, hu', hu0', hu1', -⟩
      · go_wp2_with fail
        refine (lawsSzData l[k] A0 n0 c0 u ok _ s0 HX.out hu0 (by omega)).mono ?_
        rintro e w1 ⟨rfl, hb1⟩
        rw [hv.out]
        go_wp2_with fail
        go_ret
        exact ⟨retI (szR_no (by have e1 := hu.out; have e2 := HST.out; have e3 := HSL.out; unfold szL; (try simp only at e1 e2 e3 ⊢); omega)), hb.trans (hb1.mono hb.size)⟩
      · go_wp2_with fail
        refine (lawsSzData l[k] A0 n0 c0 u ok _ s0 HX.out hu0 (by omega)).mono ?_
        rintro e w1 ⟨rfl, hb1⟩
        rw [hv.out]
        go_wp2_with fail
        go_roundw
        case rel => exact ⟨k + 1, _, by omega, by go_num, rfl, by omega, by omega, Lib.hid (by have e1 := hu.out; have e2 := HST.out; have e3 := hu'.out; (try simp only at e1 e2 e3 ⊢); omega), hb.trans (hb1.mono hb.size)⟩
        case measure => simp [intOf]; omega
    · have e : l.take k = l := List.take_of_length_le (by omega)
      have e1 := hu.out
      rw [e] at e1
      have HU := Lib.hid e1
      clear e1 hu e
      go_wp2
      go_ret
      exact ⟨retI (szR_yes (by omega) (by have e1 := HU.out; unfold szL; omega)), hb⟩

end Go.Proofs.YtgmgjjoalpnmhaaGreat
