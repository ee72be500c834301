/-
  Several texts in one: Marks, OwnInts, OwnVals, KeyOf, KeySpec, FindMath, DbMath, RowSpec, MatchMath, Match, SpecDbOk, MatchSpec, MarkText, Mark, MarkX, Trod, Sz.
-/
import Derived.Test.YtfhiknndflahgaaGreatTo
import Derived.Maps.AppendAt
import Derived.Test.YtfhiknndflahgaaGreatEval2
import Derived.Deep.QuietTactic
import Derived.BigQuiet
import Derived.Test.YtfhiknndflahgaaGreatDbImpl2
import Derived.Test.YtfhiknndflahgaaGreatRowKinds
import Derived.Test.YtfhiknndflahgaaGreatSpecTable
import Derived.Test.YtfhiknndflahgaaGreatBa
import Derived.Test.YtfhiknndflahgaaGreatSpecDb
import Derived.Laws.IdiomStrings
import Derived.Test.YtfhiknndflahgaaGreatTypes
import Derived.Lib.SmallJoins
namespace Go.Proofs.YtfhiknndflahgaaGreat
open Go.RowKit
set_option linter.unusedVariables false

def isSl : Value → Bool
  | .slice .. => true
  | _ => false

/-- Only cells of blocks B .. E - 1 have turned, and of these none that holds a slice. -/
structure Kept (B E : Nat) (w w' : World) : Prop where
  os : w'.os = w.os
  tape : w'.tape = w.tape
  output : w'.output = w.output
  size : w.heap.size ≤ w'.heap.size
  block : ∀ k, k < w.heap.size → (k < B ∨ E ≤ k) → w'.heap[k]? = w.heap[k]?
  cell : ∀ p v, w.cell? p = some v → ∃ v', w'.cell? p = some v' ∧ (isSl v = true → v' = v) ∧ isSl v' = isSl v
  frozen : ∀ p : Addr, p.block < w.heap.size → w'.frozen? p = w.frozen? p

theorem Kept.refl (B E : Nat) (w : World) : Kept B E w w := ⟨rfl, rfl, rfl, Nat.le_refl _, fun _ _ _ => rfl, fun _ v h => ⟨v, h, fun _ => rfl, rfl⟩, fun _ _ => rfl⟩
theorem Kept.trans {B E : Nat} {a b c : World} (h : Kept B E a b) (k : Kept B E b c) : Kept B E a c :=
  ⟨k.os.trans h.os, k.tape.trans h.tape, k.output.trans h.output, Nat.le_trans h.size k.size, fun i hi ho => (k.block i (Nat.lt_of_lt_of_le hi h.size) ho).trans (h.block i hi ho),
   fun p v hp => by
    obtain ⟨v1, h1, h2, h3⟩ := h.cell p v hp
    obtain ⟨v2, k1, k2, k3⟩ := k.cell p v1 h1
    exact ⟨v2, k1, fun hv => by rw [k2 (by rw [h3]; exact hv), h2 hv], k3.trans h3⟩,
   fun p hp => (k.frozen p (Nat.lt_of_lt_of_le hp h.size)).trans (h.frozen p hp)⟩
theorem Kept.below {B E : Nat} {w w' : World} (h : Below w.heap.size w w') : Kept B E w w' :=
  ⟨h.os, h.tape, h.output, h.size, fun k hk _ => h.block k hk, fun p v hp => ⟨v, below_keep h p v hp, fun _ => rfl, rfl⟩, fun p hp => World.frozen?_of_block (w := w) (h.block p.block hp)⟩
theorem Kept.drew {B E : Nat} {a w : World} (h : Kept B E a w) : Kept B E a w.drew := ⟨h.os, h.tape, h.output, h.size, h.block, h.cell, h.frozen⟩
theorem Kept.set {B E : Nat} {a w : World} (h : Kept B E a w) {p : Addr} {v : Value} (hc : a.cell? p = some v) (hn : isSl v = false) (hB : B ≤ p.block) (hE : p.block < E) {u : Value} (hu : isSl u = false) : Kept B E a (w.setCell p u) := by
  refine ⟨h.os, h.tape, h.output, by simpa [World.setCell] using h.size, fun k hk ho => ?_, fun q x hq => ?_, fun q hq => (frozen_setCell w p u q).trans (h.frozen q hq)⟩
  · rw [Below.heap_setCell _ _ _ _ (by omega)]
    exact h.block k hk ho
  · by_cases e : q = p
    · subst e
      rw [hc] at hq
      cases hq
      obtain ⟨v', h1, h2, h3⟩ := h.cell _ _ hc
      exact ⟨u, World.cell?_setCell_same _ _ _ h1, fun hv => absurd (hn.symm.trans hv) (by simp), by rw [hu, hn]⟩
    · obtain ⟨v', h1, h2, h3⟩ := h.cell q x hq
      exact ⟨v', (World.cell?_setCell_other _ _ _ _ (fun hh => e hh.symm)).trans h1, h2, h3⟩
theorem Kept.toBelow {B E G : Nat} {a w w' : World} (h : Below G a w) (k : Kept B E w w') (hG : G ≤ B) (ha : G ≤ w.heap.size) : Below G a w' :=
  ⟨k.os.trans h.os, k.tape.trans h.tape, k.output.trans h.output, Nat.le_trans h.size k.size, fun i hi => (k.block i (by omega) (Or.inl (by omega))).trans (h.block i hi)⟩
theorem Kept.after {B E : Nat} {a b c : World} (k : Kept B E b c) (h : Kept B E a b) : Kept B E a c := h.trans k
theorem Kept.slice {B E : Nat} {w w' : World} (k : Kept B E w w') {p : Addr} {v : Value} (h : w.cell? p = some v) (hs : isSl v = true) : w'.cell? p = some v := by
  obtain ⟨v', h1, h2, -⟩ := k.cell p v h
  rw [h1, h2 hs]
/-- What does not lie in B .. E - 1 reads as it did. -/
theorem Kept.far {B E : Nat} {w w' : World} (k : Kept B E w w') {p : Addr} {v : Value} (hp : p.block < B ∨ E ≤ p.block) (h : w.cell? p = some v) : w'.cell? p = some v :=
  (World.cell?_of_block (w := w) (k.block p.block (cell_lt h) hp)).trans h
theorem Sl.kept {α : Type} {R : Rd α} (hR : Stays R) {sz : Nat} {ok : Nat → Prop} {B E : Nat} {w w' : World} {A : Option Addr} {n : Nat} {ds : List α} (h : Sl R sz ok w A n ds) (hk : Kept B E w w') (ho : ∀ b, ok b → b < B ∨ E ≤ b) : Sl R sz ok w' A n ds :=
  h.stays hR (fun _ h => h) fun p v hb hp => hk.far (ho _ hb) hp

/-- How the shape of an element stays behind marks. -/
def KStays {α : Type} (R : Rd α) : Prop := ∀ (ok : Nat → Prop) (B E : Nat) (w w' : World) (cs cs' : List Value) (d : α), R ok w cs d → Kept B E w w' → cs'.length = cs.length → (∀ (j : Nat) (v : Value), cs[j]? = some v → ∃ v', cs'[j]? = some v' ∧ (isSl v = true → v' = v) ∧ isSl v' = isSl v) → R ok w' cs' d

theorem Sl.shape {α : Type} {R : Rd α} (hR : KStays R) {sz : Nat} {ok : Nat → Prop} {B E : Nat} {w w' : World} {A : Option Addr} {n : Nat} {ds : List α} (h : Sl R sz ok w A n ds) (hk : Kept B E w w') : Sl R sz ok w' A n ds :=
  ⟨h.1, fun hn => by
    obtain ⟨b, off, e, hb, hi⟩ := h.2 hn
    refine ⟨b, off, e, hb, fun i hlt => ?_⟩
    obtain ⟨cs, h1, h2, h3⟩ := hi i hlt
    have hc : ∀ (j : Nat) (v : Value), cs[j]? = some v → ((List.range sz).map fun j => (w'.cell? ⟨b, off + i * sz + j, none⟩).getD undef)[j]? = some ((w'.cell? ⟨b, off + i * sz + j, none⟩).getD undef) := fun j v hv => by
      have hj : j < sz := by obtain ⟨hj, _⟩ := List.getElem?_eq_some_iff.1 hv; omega
      simp [hj]
    refine ⟨(List.range sz).map fun j => (w'.cell? ⟨b, off + i * sz + j, none⟩).getD undef, by simp, hR _ B E _ _ _ _ _ h2 hk (by simp [h1]) fun j v hv => ?_, fun j v hv => ?_⟩
    · obtain ⟨v', k1, k2, k3⟩ := hk.cell _ _ (h3 j v hv)
      exact ⟨v', by rw [hc j v hv, k1]; rfl, k2, k3⟩
    · have hj : j < sz := by obtain ⟨hj, _⟩ := List.getElem?_eq_some_iff.1 hv; simpa using hj
      obtain ⟨v0, hv0⟩ : ∃ v0, cs[j]? = some v0 := ⟨cs[j]'(by omega), List.getElem?_eq_getElem (by omega)⟩
      obtain ⟨v', k1, -⟩ := hk.cell _ _ (h3 j v0 hv0)
      rw [hc j v0 hv0, k1] at hv
      cases hv
      exact k1⟩

/-- Elements of m cells, none of which holds a slice: m marks. -/
def ShF (m : Nat) : Rd Nat := fun _ _ cs d => cs.length = m ∧ (∀ (j : Nat) (v : Value), cs[j]? = some v → isSl v = false) ∧ d = m
theorem ShF.keeps (m : Nat) : KStays (ShF m) := fun _ _ _ _ _ _ cs' _ ⟨h1, h2, h3⟩ _ hl hc => ⟨hl.trans h1, fun j v hv => by
  have hj : j < cs'.length := (List.getElem?_eq_some_iff.1 hv).1
  obtain ⟨v', k1, _, k3⟩ := hc j _ (List.getElem?_eq_getElem (by omega))
  rw [hv] at k1
  cases k1
  rw [k3]
  exact h2 j _ (List.getElem?_eq_getElem (by omega)), h3⟩
theorem Sl.toSh {α β : Type} {R : Rd α} {R' : Rd β} {f : α → β} {sz : Nat} {ok : Nat → Prop} {w : World} {A : Option Addr} {n : Nat} {ds : List α} (h : Sl R sz ok w A n ds) {p : α → Prop} (hR : ∀ ok w cs d, p d → R ok w cs d → R' ok w cs (f d)) (hp : ∀ d ∈ ds, p d) : Sl R' sz ok w A n (ds.map f) :=
  ⟨by simpa using h.1, fun hn => by
    obtain ⟨b, off, e, hb, hi⟩ := h.2 hn
    refine ⟨b, off, e, hb, fun i hlt => ?_⟩
    obtain ⟨cs, h1, h2, h3⟩ := hi i (by simpa using hlt)
    exact ⟨cs, h1, by simpa using hR _ _ _ _ (hp _ (List.getElem_mem (by simpa using hlt))) h2, h3⟩⟩
theorem szL_mem {α : Type} (f : α → Nat) (l : List α) (y : α) (h : y ∈ l) : f y ≤ szL f l := by
  obtain ⟨i, hi, rfl⟩ := List.mem_iff_getElem.1 h
  have := sum_mem_le f l i hi
  unfold szL
  omega
theorem sum_le_of {α : Type} {f g : α → Nat} (c : Nat) (h : ∀ x, f x ≤ c * (g x + 1)) : ∀ l : List α, (l.map f).sum ≤ c * szL g l
  | [] => by simp [szL]
  | x :: l => by
    have h1 := sum_le_of c h l
    have h2 := h x
    simp only [szL, List.map_cons, List.sum_cons, List.length_cons] at *
    have e : c * (l.length + 1 + (g x + (l.map g).sum)) = c * (l.length + (l.map g).sum) + c * (g x + 1) := by rw [← Nat.mul_add]; congr 1; omega
    omega
theorem sum_ones {α : Type} (l : List α) : (l.map fun _ => 1).sum = l.length := by
  induction l with
  | nil => rfl
  | cons x l ih => rw [List.map_cons, List.sum_cons, ih, List.length_cons]; omega
theorem sum_take_n (l : List Nat) (k : Nat) (h : k < l.length) : (l.take (k + 1)).sum = (l.take k).sum + l[k] := by
  rw [List.take_succ_eq_append_getElem h, List.sum_append]; simp
theorem sum_take_n_le (l : List Nat) (k : Nat) : (l.take k).sum ≤ l.sum := by
  have e : l.sum = (l.take k).sum + (l.drop k).sum := by rw [← List.sum_append, List.take_append_drop]
  omega
/-- What lies in blocks that may be marked. -/
def mayMark (B E : Nat) (w : World) (ok : Nat → Prop) : Prop := ∀ b, ok b → B ≤ b ∧ b < E ∧ b < w.heap.size ∧ ∀ off, w.frozen? ⟨b, off, none⟩ = false
theorem mayMark.kept {B E B' E' : Nat} {w w' : World} {ok : Nat → Prop} (h : mayMark B E w ok) (hk : Kept B' E' w w') : mayMark B E w' ok := fun b hb => by
  obtain ⟨h1, h2, h3, h4⟩ := h b hb
  exact ⟨h1, h2, Nat.lt_of_lt_of_le h3 hk.size, fun off => (hk.frozen ⟨b, off, none⟩ h3).trans (h4 off)⟩
theorem mayMark.below {B E : Nat} {w w' : World} {ok : Nat → Prop} (h : mayMark B E w ok) (hk : Below w.heap.size w w') : mayMark B E w' ok := h.kept (Kept.below (B := 0) (E := 0) hk)
theorem mayMark_okF {G E : Nat} {w : World} (hE : w.heap.size ≤ E) : mayMark G E w (okF G w) := fun b hb => ⟨hb.1, by have := hb.2.1; omega, hb.2.1, hb.2.2⟩
end Go.Proofs.YtfhiknndflahgaaGreat
namespace Go.Proofs.YtfhiknndflahgaaGreat
open Go.RowKit
set_option linter.unusedVariables false

theorem infoIntI : (Tryz.prog.info? 2).map (fun i => (i.zero, i.size, i.bytes)) = some (some (.int .i64 0), 1, 8) := by kernel_rfl

/-- v is a slice of the call's own that holds the numbers xs. -/
def OwnI (w : World) (base : Nat) (v : Value) (xs : List Int) : Prop := w.ownsRow base 2 1 v xs.length (xs.map (Value.int .i64))
theorem OwnI.nil (w : World) (base : Nat) : OwnI w base (.slice none 0 0) [] := World.ownsRow_nil _ _ _ _
theorem OwnI.below {w w' : World} {base : Nat} {v : Value} {xs : List Int} (h : OwnI w base v xs) (hb : Below w.heap.size w w') : OwnI w' base v xs := by
  refine ⟨h.1, ?_⟩
  rcases h.2 with h | ⟨g, cap, cur, rfl, h1, h2, h3⟩
  · exact .inl h
  · exact .inr ⟨g, cap, cur, rfl, h1, (hb.block g (lt_of_block h2)).trans h2, h3⟩
/-- An empty list that was laid as such. -/
theorem OwnI.lit (w : World) {base : Nat} (hb : base ≤ w.heap.size) : OwnI (w.alloc (.cells #[] 2)) base (.slice (some ⟨w.heap.size, 0, none⟩) 0 0) [] :=
  ⟨rfl, .inr ⟨w.heap.size, 0, #[], rfl, hb, Go.heap_alloc_last w _, Nat.le_refl _, by simp [maxLen], rfl, rfl⟩⟩
theorem OwnI.sl {w : World} {base : Nat} {v : Value} {xs : List Int} (h : OwnI w base v xs) : ∃ A c, v = .slice A xs.length c ∧ xs.length ≤ c ∧ c ≤ maxLen ∧ Sl IntR 1 (okF base w) w A xs.length xs := by
  rcases h.2 with ⟨rfl, hn⟩ | ⟨g, cap, cur, rfl, h1, h2, h3, h4, h5, h6⟩
  · exact ⟨none, 0, by rw [hn], by omega, by simp [maxLen], rfl, fun h => by omega⟩
  · refine ⟨_, cap, rfl, h3, h4, rfl, fun hn => ⟨g, 0, rfl, ⟨h1, lt_of_block h2, fun off => by simp [World.frozen?, h2]⟩, fun i hi => ⟨[.int .i64 xs[i]], rfl, rfl, fun j x hx => ?_⟩⟩⟩
    have hj : j = 0 := by have := (List.getElem?_eq_some_iff.1 hx).1; simpa using this
    subst hj
    obtain rfl := Option.some.inj hx
    rw [cell_of_row _ _ _ _ _ _ h2, Nat.zero_add, Nat.mul_one, Nat.add_zero]
    have h7 : (cur.toList.take (xs.length * 1))[i]? = some (.int .i64 xs[i]) := by rw [h6, List.getElem?_map, List.getElem?_eq_getElem hi]; rfl
    rw [List.getElem?_take, if_pos (by omega)] at h7
    rw [← Array.getElem?_toList]
    exact h7
theorem OwnI.block_lt {w : World} {base : Nat} {v : Value} {xs : List Int} (h : OwnI w base v xs) : ∀ k, v.ownBlock = some k → base ≤ k ∧ k < w.heap.size := World.ownsRow.lt h
/-- What append of one number leaves. -/
theorem OwnI.app {w w' : World} {base : Nat} {v v' : Value} {xs : List Int} {x : Int} {o : Obj} (h : OwnI w base v xs) (hb : base ≤ w.heap.size)
    (h' : w'.ownsRow base 2 1 v' (xs.length + 1) (xs.map (Value.int .i64) ++ [.int .i64 x])) (hg : (w.alloc o).grownBy w' v.ownBlock) : OwnI w' base v' (xs ++ [x]) ∧ Below base w w' :=
  ⟨by unfold OwnI; rw [List.length_append, List.map_append]; exact h', ((Below.refl base w).alloc hb o).grown hg (by simp; omega) fun k hk => (h.block_lt k hk).1⟩
end Go.Proofs.YtfhiknndflahgaaGreat
namespace Go.Proofs.YtfhiknndflahgaaGreat
open Go.RowKit
set_option linter.unusedVariables false
set_option linter.unusedSimpArgs false

theorem flat_get {sz : Nat} : ∀ (l : List (List Value)) (i j : Nat) (hi : i < l.length) (hj : j < sz), (∀ c ∈ l, c.length = sz) → l.flatten[i * sz + j]? = (l[i])[j]?
  | [], i, j, hi, _, _ => by simp at hi
  | c :: cs, i, j, hi, hj, hz => by
    have hc := hz c (by simp)
    cases i with
    | zero => simp only [List.getElem_cons_zero, List.flatten_cons, Nat.zero_mul, Nat.zero_add]; rw [List.getElem?_append_left (by omega)]
    | succ i =>
      simp only [List.getElem_cons_succ]
      rw [List.flatten_cons, List.getElem?_append_right (by rw [hc, Nat.add_mul]; omega), hc, show (i + 1) * sz + j - sz = i * sz + j by rw [Nat.add_mul]; omega]
      exact flat_get cs i j (by simpa using hi) hj fun d hd => hz d (by simp [hd])
theorem flat_len {sz : Nat} : ∀ (l : List (List Value)), (∀ c ∈ l, c.length = sz) → l.flatten.length = l.length * sz
  | [], _ => by simp
  | c :: cs, h => by
    rw [List.flatten_cons, List.length_append, h c (by simp), flat_len cs fun d hd => h d (by simp [hd]), List.length_cons, Nat.add_mul]; omega

/-- v is a slice of the call's own that holds the structs xs, without slices within, sz cells each. -/
def OwnG {α : Type} (T : TypeId) (sz : Nat) (f : α → List Value) (w : World) (base : Nat) (v : Value) (xs : List α) : Prop := w.ownsRow base T sz v xs.length ((xs.map f).flatten)
section
variable {α : Type} {T : TypeId} {sz : Nat} {f : α → List Value}
theorem OwnG.nil (w : World) (base : Nat) : OwnG T sz f w base (.slice none 0 0) [] := World.ownsRow_nil _ _ _ _
theorem OwnG.below {w w' : World} {base : Nat} {v : Value} {xs : List α} (h : OwnG T sz f w base v xs) (hb : Below w.heap.size w w') : OwnG T sz f w' base v xs := by
  refine ⟨h.1, ?_⟩
  rcases h.2 with h | ⟨g, cap, cur, rfl, h1, h2, h3⟩
  · exact .inl h
  · exact .inr ⟨g, cap, cur, rfl, h1, (hb.block g (lt_of_block h2)).trans h2, h3⟩
theorem OwnG.lit (w : World) {base : Nat} (hb : base ≤ w.heap.size) : OwnG T sz f (w.alloc (.cells #[] T)) base (.slice (some ⟨w.heap.size, 0, none⟩) 0 0) ([] : List α) :=
  ⟨by simp, .inr ⟨w.heap.size, 0, #[], rfl, hb, Go.heap_alloc_last w _, Nat.le_refl _, by simp [maxLen], by simp, by simp⟩⟩
theorem OwnG.sl (hf : ∀ d, (f d).length = sz) {w : World} {base : Nat} {v : Value} {xs : List α} (h : OwnG T sz f w base v xs) : ∃ A c, v = .slice A xs.length c ∧ xs.length ≤ c ∧ c ≤ maxLen ∧ Sl (FlatR f) sz (okF base w) w A xs.length xs := by
  rcases h.2 with ⟨rfl, hn⟩ | ⟨g, cap, cur, rfl, h1, h2, h3, h4, h5, h6⟩
  · exact ⟨none, 0, by rw [hn], by omega, by simp [maxLen], rfl, fun h => by omega⟩
  · refine ⟨_, cap, rfl, h3, h4, rfl, fun hn => ⟨g, 0, rfl, ⟨h1, lt_of_block h2, fun off => by simp [World.frozen?, h2]⟩, fun i hi => ⟨f xs[i], hf _, rfl, fun j x hx => ?_⟩⟩⟩
    have hj : j < sz := by have := (List.getElem?_eq_some_iff.1 hx).1; rw [hf] at this; exact this
    rw [cell_of_row _ _ _ _ _ _ h2, Nat.zero_add]
    have hlt : i * sz + j < xs.length * sz := by have : (i + 1) * sz ≤ xs.length * sz := Nat.mul_le_mul_right _ hi; rw [Nat.add_mul] at this; omega
    have h7 := flat_get (sz := sz) (xs.map f) i j (by simpa using hi) hj (fun c hc => by obtain ⟨d, _, rfl⟩ := List.mem_map.1 hc; exact hf d)
    rw [List.getElem_map, hx, ← h6, List.getElem?_take, if_pos hlt] at h7
    rw [← Array.getElem?_toList]
    exact h7
theorem OwnG.block_lt {w : World} {base : Nat} {v : Value} {xs : List α} (h : OwnG T sz f w base v xs) : ∀ k, v.ownBlock = some k → base ≤ k ∧ k < w.heap.size := World.ownsRow.lt h
/-- What append of one struct leaves. -/
theorem OwnG.app {w w' : World} {base : Nat} {v v' : Value} {xs : List α} {x : α} {o : Obj} (h : OwnG T sz f w base v xs) (hb : base ≤ w.heap.size)
    (h' : w'.ownsRow base T sz v' (xs.length + 1) ((xs.map f).flatten ++ f x)) (hg : (w.alloc o).grownBy w' v.ownBlock) : OwnG T sz f w' base v' (xs ++ [x]) ∧ Below base w w' :=
  ⟨by unfold OwnG; rw [List.length_append, List.map_append, List.flatten_append]; simpa using h', ((Below.refl base w).alloc hb o).grown hg (by simp; omega) fun k hk => (h.block_lt k hk).1⟩
end
theorem cells_new (w : World) (l : List Value) (t : TypeId) : ∀ j u, l[j]? = some u → (w.alloc (.cells l.toArray t)).cell? ((⟨w.heap.size, 0, none⟩ : Addr).add j) = some u := by
  intro j u hj
  rw [addr_add, Nat.zero_add, cell_of_row _ _ _ _ _ _ (Go.heap_alloc_last w _)]
  simpa using hj

theorem cells_newAt (w : World) (l : List Value) (t : TypeId) {g : Nat} (hg : g = w.heap.size) : ∀ j u, l[j]? = some u → (w.alloc (.cells l.toArray t)).cell? ((⟨g, 0, none⟩ : Addr).add j) = some u := by
  subst hg
  exact cells_new w l t

/-- A list of the call's own, and a flag. -/
def MadeF {α : Type} (R : Rd α) (sz : Nat) (xs : List α) (b : Bool) (w : World) (e : Ending) (w' : World) : Prop := ∃ A c, e = .returned (.tuple #[.slice A xs.length c, .bool b]) ∧ xs.length ≤ c ∧ Sl R sz (okF w.heap.size w') w' A xs.length xs ∧ Below w.heap.size w w'

def zeroVl : Vl := ⟨0, 0, ⟨#[]⟩⟩
/-- The values of a row in some columns. -/
def keyL (cols : List Int) (vals : List Vl) : List Vl := cols.map fun c => (vals[c.toNat]?).getD zeroVl
def inV (vals : List Vl) (c : Int) : Bool := decide (0 ≤ c) && decide (c < vals.length)
def knownL (l : List Vl) : Bool := l.all fun v => !(v.k == 0)
def keyOk (cols : List Int) (vals : List Vl) : Bool := rowB vals && cols.all (inV vals)
def keyOf (cols : List Int) (vals : List Vl) : List Vl := if keyOk cols vals then keyL cols vals else []
def keyFl (cols : List Int) (vals : List Vl) : Bool := keyOk cols vals && knownL (keyL cols vals)
theorem keyOf_len (cols : List Int) (vals : List Vl) : (keyOf cols vals).length ≤ cols.length := by unfold keyOf; split <;> simp [keyL]
theorem inV_nat {vals : List Vl} {c : Int} (h : inV vals c = true) : ∃ m : Nat, c = m ∧ m < vals.length := by
  simp only [inV, Bool.and_eq_true, decide_eq_true_eq] at h
  exact ⟨c.toNat, by omega, by omega⟩
theorem keyL_take {cols : List Int} {vals : List Vl} {k m : Nat} (h : k < cols.length) (hm : cols[k] = m) (hv : m < vals.length) : (keyL cols vals).take (k + 1) = (keyL cols vals).take k ++ [vals[m]] := by
  rw [List.take_succ_eq_append_getElem (by simpa [keyL] using h)]
  congr 2
  simp [keyL, hm, hv]
theorem known_take {l m : List Vl} {v : Vl} (h : m = l ++ [v]) : knownL m = (knownL l && !(v.k == 0)) := by subst h; simp [knownL]
end Go.Proofs.YtfhiknndflahgaaGreat
namespace Go.Proofs.YtfhiknndflahgaaGreat
open Go.RowKit Go.Maps
set_option linter.unusedVariables false
set_option linter.unusedSimpArgs false

theorem infoValK : (Tryz.prog.info? 101).map (fun i => (i.zero, i.size, i.bytes)) = some (some (.agg #[.int .i64 0, .int .i64 0, .string ⟨#[]⟩]), 3, 32) := by kernel_rfl
def OwnV (w : World) (base : Nat) (v : Value) (xs : List Vl) : Prop := OwnG 101 3 Vl.cells w base v xs

theorem implPlaceK {p nc : Int} {b : Bool} (h : (decide (0 ≤ p) && decide (p < nc)) = b) (w : World) : Calls Tryz.prog 52 #[.int .i64 p, .int .i64 nc] w fun e w' => e = .returned (.bool b) ∧ w = w' := by
  subst h
  by_cases h0 : 0 ≤ p
  · have h0' : decide (0 ≤ p) = true := decide_eq_true h0
    go_enter Tryz.func52, Tryz.ntmps52
    go_wp2
    go_ret
    exact ⟨by simp [h0'], rfl⟩
  · have h0' : decide (0 ≤ p) = false := decide_eq_false h0
    go_enter Tryz.func52, Tryz.ntmps52
    go_wp2
    go_ret
    exact ⟨by simp [h0'], rfl⟩
theorem not_all_of {cols : List Int} {vals : List Vl} {k : Nat} (h : k < cols.length) (hf : inV vals cols[k] = false) : keyOk cols vals = false := by
  unfold keyOk
  rw [Bool.and_eq_false_iff]
  refine Or.inr ?_
  rw [List.all_eq_false]
  exact ⟨cols[k], List.getElem_mem h, by simp [hf]⟩

end Go.Proofs.YtfhiknndflahgaaGreat
namespace Go.Proofs.YtfhiknndflahgaaGreat
open Go.RowKit Go.Maps
set_option linter.unusedVariables false
set_option linter.unusedSimpArgs false

theorem specInK {n lo hi : Int} {b : Bool} (h : (decide (lo ≤ n) && decide (n ≤ hi)) = b) (w : World) :
    Calls Tryz.prog 71 #[.int .i64 n, .int .i64 lo, .int .i64 hi] w fun e w' => e = .returned (.bool b) ∧ w = w' := by
  subst h
  by_cases h0 : lo ≤ n
  · have h0' : decide (lo ≤ n) = true := decide_eq_true h0
    go_enter Tryz.func71, Tryz.ntmps71
    go_wp2
    go_ret
    exact ⟨by simp [h0'], rfl⟩
  · have h0' : decide (lo ≤ n) = false := decide_eq_false h0
    go_enter Tryz.func71, Tryz.ntmps71
    go_wp2
    go_ret
    exact ⟨by simp [h0'], rfl⟩

theorem grown_rowK {w w' : World} {row : Option Nat} (hg : w.grownBy w' row) {g : Nat} {T : TypeId} {cs : Array Value} (h : Row w g T cs) (hne : ∀ k, row = some k → k ≠ g) : Row w' g T cs :=
  (hg.block g (lt_of_block h) (fun e => hne g e.symm rfl)).trans h

end Go.Proofs.YtfhiknndflahgaaGreat
namespace Go.Proofs.YtfhiknndflahgaaGreat
open Go.RowKit
set_option linter.unusedVariables false
set_option linter.unusedSimpArgs false

theorem below_dN {B : Nat} {w w' : World} (h : Below B w w') (m : Nat) : Below B w (w'.drewN m) := ⟨h.os, h.tape, h.output, h.size, h.block⟩
def eqlV (a b : Vl) : Bool := (a.k == b.k) && ((a.n == b.n) && (a.s.toList == b.s.toList))
def eqlP (p : Vl × Vl) : Bool := eqlV p.1 p.2
def eqlL (a b : List Vl) : Bool := decide (a.length = b.length) && (a.zip b).all eqlP
def hitP (p : Vl × Vl) : Bool := !(p.1.k == 0) && eqlP p
/-- Has a row this key in these columns, none a null? -/
def hitB (cols : List Int) (key : List Vl) (vals : List Vl) : Bool := decide (key.length = cols.length) && ((keyL cols vals).zip key).all hitP
theorem hit_zip : ∀ (l m : List Vl), l.length = m.length → (l.zip m).all hitP = (knownL l && (l.zip m).all eqlP)
  | [], [], _ => rfl
  | [], b :: m, h => by simp at h
  | a :: l, [], h => by simp at h
  | a :: l, b :: m, h => by
    have := hit_zip l m (by simpa using h)
    simp only [List.zip_cons_cons, List.all_cons, this, hitP, knownL]
    cases (!(a.k == 0)) <;> cases eqlP (a, b) <;> simp
theorem hitB_eq (cols : List Int) (key : List Vl) (vals : List Vl) : hitB cols key vals = (knownL (keyL cols vals) && eqlL (keyL cols vals) key) := by
  have hl : (keyL cols vals).length = cols.length := by simp [keyL]
  unfold hitB eqlL
  by_cases h : key.length = cols.length
  · rw [decide_eq_true h, decide_eq_true (by omega), hit_zip _ _ (by omega)]; simp
  · rw [decide_eq_false h, decide_eq_false (by omega)]; simp
/-- The places below k of the rows that have it. -/
def idxK (cols : List Int) (key : List Vl) (rows : List Rw) : Nat → List Nat
  | 0 => []
  | k + 1 => idxK cols key rows k ++ (match rows[k]? with | some r => if hitB cols key r.vals then [k] else [] | none => [])
theorem idxK_yes {cols : List Int} {key : List Vl} {rows : List Rw} {k : Nat} (h : k < rows.length) (hr : hitB cols key rows[k].vals = true) : idxK cols key rows (k + 1) = idxK cols key rows k ++ [k] := by
  rw [idxK, List.getElem?_eq_getElem h]; simp [hr]
theorem idxK_no {cols : List Int} {key : List Vl} {rows : List Rw} {k : Nat} (h : k < rows.length) (hr : hitB cols key rows[k].vals = false) : idxK cols key rows (k + 1) = idxK cols key rows k := by
  rw [idxK, List.getElem?_eq_getElem h]; simp [hr]
theorem idxK_len (cols : List Int) (key : List Vl) (rows : List Rw) : ∀ k, (idxK cols key rows k).length ≤ k
  | 0 => Nat.le_refl _
  | k + 1 => by
    have := idxK_len cols key rows k
    rw [idxK]
    split
    · split <;> simp <;> omega
    · simp; omega
theorem idxK_lt (cols : List Int) (key : List Vl) (rows : List Rw) : ∀ k, ∀ x ∈ idxK cols key rows k, x < k ∧ x < rows.length
  | 0, x, h => by cases h
  | k + 1, x, h => by
    rw [idxK, List.mem_append] at h
    rcases h with h | h
    · have := idxK_lt cols key rows k x h; omega
    · split at h
      · next r hr =>
        split at h
        · have := (List.getElem?_eq_some_iff.1 hr).1; simp at h; omega
        · cases h
      · cases h
def idL (rows : List Rw) (l : List Nat) : List Int := l.map fun i => (rows[i]?.map Rw.id).getD 0
/-- The Ids of the rows that have this key. -/
def findL (cols : List Int) (key : List Vl) (rows : List Rw) : List Int := idL rows (idxK cols key rows rows.length)
theorem findL_len (cols : List Int) (key : List Vl) (rows : List Rw) : (findL cols key rows).length ≤ rows.length := by
  unfold findL idL; rw [List.length_map]; exact idxK_len _ _ _ _
theorem idL_app (rows : List Rw) (l : List Nat) (k : Nat) (h : k < rows.length) : idL rows (l ++ [k]) = idL rows l ++ [rows[k].id] := by
  simp [idL, List.getElem?_eq_getElem h]
theorem zip_take {α β : Type} (a : List α) (b : List β) (k : Nat) (h : k < a.length) (h' : k < b.length) (f : α × β → Bool) : ((a.zip b).take (k + 1)).all f = (((a.zip b).take k).all f && f (a[k], b[k])) := by
  rw [List.take_succ_eq_append_getElem (by rw [List.length_zip]; omega), List.all_append]
  simp
theorem zip_no {α β : Type} {a : List α} {b : List β} {k : Nat} (h : k < a.length) (h' : k < b.length) {f : α × β → Bool} (hf : f (a[k], b[k]) = false) : (a.zip b).all f = false := by
  rw [List.all_eq_false]
  exact ⟨(a[k], b[k]), by rw [List.mem_iff_getElem]; exact ⟨k, by rw [List.length_zip]; omega, by simp⟩, by simp [hf]⟩

end Go.Proofs.YtfhiknndflahgaaGreat
namespace Go.Proofs.YtfhiknndflahgaaGreat
open Go.RowKit
set_option linter.unusedVariables false
set_option linter.unusedSimpArgs false

theorem idsGo_mem {cols : List Cl} : ∀ {l : List Rw} {last : Int}, idsGo cols last l = true → ∀ r ∈ l, kindsB cols r.vals = true
  | [], _, _, r, h => by cases h
  | x :: xs, last, h, r, hr => by
    simp only [idsGo, Bool.and_eq_true] at h
    rcases List.mem_cons.1 hr with rfl | hr
    · exact h.2.2.1
    · exact idsGo_mem h.2.2.2 r hr
theorem dbB_row {s : List Tb} {db : List Dt} (h : dbB s db = true) {m : Nat} (h1 : m < s.length) (h2 : m < db.length) : ∀ r ∈ db[m].rows, r.vals.length = s[m].cols.length := fun r hr => by
  simp only [dbB, Bool.and_eq_true, decide_eq_true_eq] at h
  have h3 := List.all_eq_true.1 h.2.2 (s[m], db[m]) (by rw [List.mem_iff_getElem]; exact ⟨m, by rw [List.length_zip]; omega, by simp⟩)
  simp only [dbV, dataB, Bool.and_eq_true] at h3
  have h4 := idsGo_mem h3.2 r hr
  simp only [kindsB, Bool.and_eq_true, decide_eq_true_eq] at h4
  exact h4.1
theorem dbB_len {s : List Tb} {db : List Dt} (h : dbB s db = true) : db.length = s.length := by
  simp only [dbB, Bool.and_eq_true, decide_eq_true_eq] at h
  exact h.2.1
theorem all_inV {cols : List Int} {vals : List Vl} {n : Nat} (h : colsInB cols n = true) (hv : vals.length = n) : cols.all (inV vals) = true := by
  rw [List.all_eq_true]
  intro c hc
  have := (colsInB_len h).2 c hc
  simp only [inV, Bool.and_eq_true, decide_eq_true_eq]
  omega
/-- No row has more values than the size of the whole. -/
theorem rows_le {db : List Dt} {m : Nat} (h : szL Dt.sz db ≤ m) : ∀ d ∈ db, ∀ r ∈ d.rows, r.vals.length ≤ m := fun d hd r hr => by
  have h1 : d.sz ≤ m := by
    obtain ⟨i, hi, rfl⟩ := List.mem_iff_getElem.1 hd
    have := sum_mem_le Dt.sz db i hi
    unfold szL at h
    omega
  have h2 : r.sz ≤ m := by
    obtain ⟨i, hi, rfl⟩ := List.mem_iff_getElem.1 hr
    have := sum_mem_le Rw.sz d.rows i hi
    unfold Dt.sz szL at h1
    omega
  unfold Rw.sz szL at h2
  omega

theorem implDbOk' (AS AD : Option Addr) (nS cS nD cD : Nat) (s : List Tb) (db : List Dt) (ok ok' : Nat → Prop) (w : World) (hs : Sl TbR 6 ok w AS nS s) (hd : Sl DtR 1 ok' w AD nD db) (hsz : szL Tb.sz s ≤ 1048576) (hdz : szL Dt.sz db ≤ 1048576) :
    Calls Tryz.prog 51 #[.slice AS nS cS, .slice AD nD cD] w fun e w' => e = .returned (.bool (dbB s db)) ∧ Below w.heap.size w w' :=
  implDbOk AS AD nS cS nD cD s db (fun _ => True) w (hs.stays TbR.stays (fun _ _ => trivial) (fun _ _ _ h => h)) (hd.stays DtR.stays (fun _ _ => trivial) (fun _ _ _ h => h)) hsz hdz (rows_le hdz)
end Go.Proofs.YtfhiknndflahgaaGreat
namespace Go.Proofs.YtfhiknndflahgaaGreat
open Go.RowKit Go.Maps
set_option linter.unusedVariables false
set_option linter.unusedSimpArgs false

theorem truthB_rng (ts : List Tk) (row : List Vl) : truthB ts row = -1 ∨ truthB ts row = 0 ∨ truthB ts row = 1 ∨ truthB ts row = 2 := by
  unfold truthB
  split
  · unfold truOf
    split
    · simp
    · split
      · unfold yes; split <;> simp
      · simp
  · simp

theorem fit_all {cols : List Cl} {row : List Vl} (hl : row.length = cols.length) (h : fitAll cols row = true) : row.all Vl.ok = true := by
  induction row generalizing cols with
  | nil => rfl
  | cons v vs ih =>
    cases cols with
    | nil => simp at hl
    | cons c cs =>
      unfold fitAll at h
      rw [List.zip_cons_cons, List.all_cons, Bool.and_eq_true] at h
      have h1 : valOkB v.k v.n v.s = true := by
        have := h.1; unfold fitV fitsB at this; simp only [Bool.and_eq_true] at this; exact this.1
      rw [List.all_cons, ih (by simpa using hl) h.2, Bool.and_true]
      exact h1
theorem rowB_of {x : Tb} {row : List Vl} (hT : tableB x = true) (hK : kindsB x.cols row = true) : rowB row = true := by
  unfold kindsB at hK
  rw [Bool.and_eq_true, decide_eq_true_eq] at hK
  unfold tableB colsB at hT
  simp only [Bool.and_eq_true, decide_eq_true_eq] at hT
  have h8 : x.cols.length ≤ 8 := hT.2.1.2.1
  unfold rowB
  rw [fit_all hK.1 hK.2, decide_eq_true (by omega)]; rfl
theorem exprs_of {x : Tb} {row : List Vl} (hT : tableB x = true) (hl : row.length = x.cols.length) : ∀ u ∈ x.checks, exprB u.expr row.length = true := by
  unfold tableB cksB at hT
  simp only [Bool.and_eq_true, decide_eq_true_eq] at hT
  intro u hu
  rw [hl]
  exact List.all_eq_true.1 hT.2.2.2.2.1.2 u hu

end Go.Proofs.YtfhiknndflahgaaGreat
namespace Go.Proofs.YtfhiknndflahgaaGreat
open Go.RowKit
set_option linter.unusedVariables false
set_option linter.unusedSimpArgs false

/-- The truth of a condition for a row; without one it is true. -/
def truW (wh : List Tk) (vals : List Vl) : Int := if wh.length = 0 then 1 else truthB wh vals
def truD (wh : List Tk) (r : Rw) : Bool := decide (0 ≤ truW wh r.vals)
def truY (wh : List Tk) (r : Rw) : Bool := truW wh r.vals == 1
def matL (wh : List Tk) (rows : List Rw) : List Int := (rows.filter (truY wh)).map Rw.id
theorem truW_rng (wh : List Tk) (vals : List Vl) : truW wh vals = -1 ∨ truW wh vals = 0 ∨ truW wh vals = 1 ∨ truW wh vals = 2 := by
  unfold truW
  split
  · omega
  · exact truthB_rng wh vals
theorem matL_yes {wh : List Tk} {rows : List Rw} {k : Nat} (h : k < rows.length) (hr : truW wh rows[k].vals = 1) : matL wh (rows.take (k + 1)) = matL wh (rows.take k) ++ [rows[k].id] := by
  have e : truY wh rows[k] = true := by simp [truY, hr]
  rw [List.take_succ_eq_append_getElem h]
  unfold matL
  rw [List.filter_append, List.map_append, List.filter_cons, if_pos e]
  rfl
theorem matL_no {wh : List Tk} {rows : List Rw} {k : Nat} (h : k < rows.length) (hr : truW wh rows[k].vals ≠ 1) : matL wh (rows.take (k + 1)) = matL wh (rows.take k) := by
  have e : ¬ (truY wh rows[k] = true) := by simp [truY, hr]
  rw [List.take_succ_eq_append_getElem h]
  unfold matL
  rw [List.filter_append, List.map_append, List.filter_cons, if_neg e]
  simp
theorem matL_len (wh : List Tk) (rows : List Rw) : (matL wh rows).length ≤ rows.length := by
  unfold matL; rw [List.length_map]; exact List.length_filter_le _ _
theorem truD_take {wh : List Tk} {rows : List Rw} {k : Nat} (h : k < rows.length) : (rows.take (k + 1)).all (truD wh) = ((rows.take k).all (truD wh) && truD wh rows[k]) := by
  rw [List.take_succ_eq_append_getElem h, List.all_append]; simp
theorem truD_no {wh : List Tk} {rows : List Rw} {k : Nat} (h : k < rows.length) (hr : truW wh rows[k].vals = -1) : rows.all (truD wh) = false := by
  rw [List.all_eq_false]
  exact ⟨rows[k], List.getElem_mem h, by simp [truD, hr]⟩
def whereB (cols : List Cl) (wh : List Tk) : Bool := decide (wh.length = 0) || exprB wh cols.length
/-- What Matching answers: the Ids, and whether it is so. -/
def matchO (s : List Tb) (db : List Dt) (t : Int) (wh : List Tk) : Option (List Int) :=
  match s[t.toNat]?, db[t.toNat]? with
  | some x, some d => if dbB s db && (decide (0 ≤ t) && (whereB x.cols wh && d.rows.all (truD wh))) then some (matL wh d.rows) else none
  | _, _ => none
def matchB (s : List Tb) (db : List Dt) (t : Int) (wh : List Tk) : List Int := (matchO s db t wh).getD []
def matchF (s : List Tb) (db : List Dt) (t : Int) (wh : List Tk) : Bool := (matchO s db t wh).isSome
theorem matchB_len (s : List Tb) (db : List Dt) (t : Int) (wh : List Tk) (h : szL Dt.sz db ≤ 1048576) : (matchB s db t wh).length ≤ 1048576 := by
  unfold matchB matchO
  split
  · next x d hx hd =>
    split
    · have h1 := matL_len wh d.rows
      obtain ⟨hi, rfl⟩ := List.getElem?_eq_some_iff.1 hd
      have h2 := sum_mem_le Dt.sz db _ hi
      unfold szL at h
      have h3 : (db[t.toNat]).rows.length ≤ (db[t.toNat]).sz := by unfold Dt.sz szL; omega
      simp only [Option.getD_some]
      omega
    · simp
  · simp
theorem matchO_bad {s : List Tb} {db : List Dt} {t : Int} {wh : List Tk} (h : dbB s db = false) : matchO s db t wh = none := by
  unfold matchO
  split
  · rw [h]; rfl
  · rfl
theorem matchO_out {s : List Tb} {db : List Dt} {t : Int} {wh : List Tk} (h : (decide (0 ≤ t) && decide (t < (s.length : Int))) = false) : matchO s db t wh = none := by
  unfold matchO
  split
  · next x d hx hd =>
    have h1 := (List.getElem?_eq_some_iff.1 hx).1
    by_cases h0 : 0 ≤ t
    · rw [decide_eq_true h0, decide_eq_true (by omega)] at h; cases h
    · rw [decide_eq_false h0]; simp
  · rfl
theorem matchO_in {s : List Tb} {db : List Dt} {m : Nat} {wh : List Tk} (h1 : m < s.length) (h2 : m < db.length) (hB : dbB s db = true) : matchO s db (m : Int) wh = if whereB s[m].cols wh && db[m].rows.all (truD wh) then some (matL wh db[m].rows) else none := by
  unfold matchO
  rw [Int.toNat_natCast, List.getElem?_eq_getElem h1, List.getElem?_eq_getElem h2]
  simp only [hB]
  simp
theorem match_none {s : List Tb} {db : List Dt} {t : Int} {wh : List Tk} (h : matchO s db t wh = none) : matchB s db t wh = [] ∧ matchF s db t wh = false := by
  unfold matchB matchF; rw [h]; exact ⟨rfl, rfl⟩
theorem match_some {s : List Tb} {db : List Dt} {t : Int} {wh : List Tk} {l : List Int} (h : matchO s db t wh = some l) : matchB s db t wh = l ∧ matchF s db t wh = true := by
  unfold matchB matchF; rw [h]; exact ⟨rfl, rfl⟩
/-- The rows of a right database are right rows. -/
theorem dbB_rowB {s : List Tb} {db : List Dt} (h : dbB s db = true) {m : Nat} (h1 : m < s.length) (h2 : m < db.length) : ∀ r ∈ db[m].rows, rowB r.vals = true := fun r hr => by
  have hB := h
  simp only [dbB, Bool.and_eq_true, decide_eq_true_eq] at h
  have h3 := List.all_eq_true.1 h.2.2 (s[m], db[m]) (by rw [List.mem_iff_getElem]; exact ⟨m, by rw [List.length_zip]; omega, by simp⟩)
  simp only [dbV, dataB, Bool.and_eq_true] at h3
  have h4 := idsGo_mem h3.2 r hr
  have hT : tableB s[m] = true := by
    have h5 := h.1
    simp only [schemaB, Bool.and_eq_true] at h5
    exact List.all_eq_true.1 h5.2.1 _ (List.getElem_mem h1)
  exact rowB_of hT h4
theorem dbB_cols {s : List Tb} {db : List Dt} (h : dbB s db = true) {m : Nat} (h1 : m < s.length) : s[m].cols.length ≤ 8 := by
  simp only [dbB, Bool.and_eq_true, decide_eq_true_eq, schemaB] at h
  have h5 := List.all_eq_true.1 h.1.2.1 _ (List.getElem_mem h1)
  simp only [tableB, Bool.and_eq_true, colsB, decide_eq_true_eq] at h5
  exact h5.2.1.2.1
end Go.Proofs.YtfhiknndflahgaaGreat
namespace Go.Proofs.YtfhiknndflahgaaGreat
open Go.RowKit Go.Maps
set_option linter.unusedVariables false
set_option linter.unusedSimpArgs false

set_option maxRecDepth 100000 in
set_option maxHeartbeats 1000000 in
theorem implWhereOk (g o : Nat) (A1 AW : Option Addr) (c1 nW cW : Nat) (cols : List Cl) (wh : List Tk) (ok : Nat → Prop) (w : World)
    (x1 : w.cell? ⟨g, o + 1, none⟩ = some (.slice A1 cols.length c1)) (hw : Sl TkR 5 ok w AW nW wh) (hn : nW ≤ 1048576) :
    Calls Tryz.prog 39 #[.pointer (some ⟨g, o, none⟩), .slice AW nW cW] w fun e w' => e = .returned (.bool (whereB cols wh)) ∧ Below w.heap.size w w' := by
  obtain rfl : wh.length = nW := hw.1
  by_cases h0 : wh.length = 0
  · have HF := Lib.hid (show whereB cols wh = true by unfold whereB; rw [decide_eq_true h0]; rfl)
    have h0' : ((wh.length : Int) == 0) = true := by simpa using h0
    clear h0
    go_enter Tryz.func39, Tryz.ntmps39
    go_wp2_with fail
    go_ret
    exact ⟨retB HF.out.symm, Below.refl _ _⟩
  · have HF := Lib.hid (show whereB cols wh = exprB wh cols.length by unfold whereB; rw [decide_eq_false h0]; rfl)
    have h0' : ((wh.length : Int) == 0) = false := by simpa using h0
    clear h0
    go_enter Tryz.func39, Tryz.ntmps39
    go_wp2_with fail
    refine (implExprOk AW wh.length cW wh cols.length _ (Sl.cellz (fun _ => rfl) hw) (by unfold maxLen; omega)).mono ?_
    rintro e w1 ⟨rfl, hb1⟩
    go_wp2_with fail
    go_ret
    exact ⟨retB HF.out.symm, hb1⟩
/-- (the loop) -/
def MadeM (s : List Tb) (db : List Dt) (t : Int) (wh : List Tk) (w : World) : Ending → World → Prop := MadeF IntR 1 (matchB s db t wh) (matchF s db t wh) w

theorem made_none {s : List Tb} {db : List Dt} {t : Int} {wh : List Tk} {w w' : World} (h : matchO s db t wh = none) (hb : Below w.heap.size w w') : MadeM s db t wh w (.returned (.tuple #[.slice none 0 0, .bool false])) w' := by
  obtain ⟨h1, h2⟩ := match_none h
  exact ⟨none, 0, by rw [h1, h2]; rfl, by rw [h1]; exact Nat.le_refl _, by rw [h1]; exact ⟨rfl, fun h => by simp at h⟩, hb⟩

set_option maxRecDepth 100000 in
set_option maxHeartbeats 4000000 in
theorem implMatching (AS AD AW : Option Addr) (nS cS nD cD nW cW : Nat) (s : List Tb) (db : List Dt) (t : Int) (wh : List Tk) (ok ok' okw : Nat → Prop) (w : World)
    (hs : Sl TbR 6 ok w AS nS s) (hd : Sl DtR 1 ok' w AD nD db) (hw : Sl TkR 5 okw w AW nW wh) (hsz : szL Tb.sz s ≤ 1048576) (hdz : szL Dt.sz db ≤ 1048576) (hwn : nW ≤ 1048576) :
    Calls Tryz.prog 18 #[.slice AS nS cS, .slice AD nD cD, .int .i64 t, .slice AW nW cW] w (MadeM s db t wh w) := by
  obtain rfl : s.length = nS := hs.1
  obtain rfl : db.length = nD := hd.1
  obtain rfl : wh.length = nW := hw.1
  have hn1 : s.length ≤ 1048576 := by unfold szL at hsz; omega
  have hn2 : db.length ≤ 1048576 := by unfold szL at hdz; omega
  have HDZ := Lib.hid hdz
  have HVS := Lib.hid (rows_le hdz)
  have HDB := Lib.hid (implDbOk' AS AD s.length cS db.length cD s db ok ok' w hs hd hsz hdz)
  clear hsz hdz
  cases hB : dbB s db
  · have HB := Lib.hid hB
    have HR := Lib.hid (matchO_bad (t := t) (wh := wh) hB)
    clear hB
    go_enter Tryz.func18, Tryz.ntmps18
    go_wp2_with fail
    refine HDB.out.mono ?_
    rintro e w1 ⟨rfl, hb1⟩
    rw [HB.out]
    go_wp2_with fail
    go_ret2
    exact made_none HR.out hb1
  have HB := Lib.hid hB
  have HLEN := Lib.hid (dbB_len hB)
  clear hB
  cases hin : (decide (0 ≤ t) && decide (t < (s.length : Int)))
  · have HI := Lib.hid hin
    have HR := Lib.hid (matchO_out (db := db) (wh := wh) hin)
    clear hin
    go_enter Tryz.func18, Tryz.ntmps18
    go_wp2_with fail
    refine HDB.out.mono ?_
    rintro e w1 ⟨rfl, hb1⟩
    rw [HB.out]
    go_wp2_with fail
    refine (implPlaceK HI.out _).mono ?_
    rintro e w2 ⟨rfl, rfl⟩
    go_wp2_with fail
    go_ret2
    exact made_none HR.out hb1
  have HI := Lib.hid hin
  obtain ⟨m, rfl, hm⟩ : ∃ m : Nat, t = m ∧ m < s.length := by
    simp only [Bool.and_eq_true, decide_eq_true_eq] at hin
    exact ⟨t.toNat, by omega, by omega⟩
  have hmd : m < db.length := by have := HLEN.out; omega
  have m0 : (0 : Int) ≤ m := by omega
  have m1 : (m : Int) < s.length := by omega
  have m2 : (m : Int) < db.length := by omega
  have HO := Lib.hid (matchO_in (wh := wh) hm hmd HB.out)
  clear hin
  cases hwo : whereB s[m].cols wh
  · have HW := Lib.hid hwo
    have HR := Lib.hid (show matchO s db (m : Int) wh = none by rw [HO.out, hwo]; rfl)
    clear hwo
    go_enter Tryz.func18, Tryz.ntmps18
    go_wp2_with fail
    refine HDB.out.mono ?_
    rintro e w1 ⟨rfl, hb1⟩
    rw [HB.out]
    go_wp2_with fail
    refine (implPlaceK HI.out _).mono ?_
    rintro e w2 ⟨rfl, rfl⟩
    obtain ⟨b, off, A1, n1, c1, A2, n2, c2, A3, n3, c3, A4, n4, c4, A5, n5, c5, -, rfl, q0, q1, q2, q3, q4, q5, s1, -⟩ := TbR.at_ (hs.below TbR.stays hb1) hm
    obtain rfl : s[m].cols.length = n1 := s1.1
    have HWC := Lib.hid (implWhereOk b (off + m * 6) A1 AW c1 wh.length cW s[m].cols wh _ w1 q1 (hw.below TkR.stays hb1) hwn)
    go_wp2_with fail
    refine HWC.out.mono ?_
    rintro e w3 ⟨rfl, hb3⟩
    rw [HW.out]
    go_wp2_with fail
    go_ret2
    exact made_none HR.out (hb1.trans (hb3.mono hb1.size))
  have HW := Lib.hid hwo
  have HRB := Lib.hid (fun (r : Rw) (hr : r ∈ db[m].rows) => (by have h1 := dbB_row HB.out hm hmd r hr; have h2 := dbB_cols HB.out hm; omega : r.vals.length ≤ 1048576))
  have HRN := Lib.hid (show db[m].rows.length ≤ 1048576 by have h1 := HDZ.out; have := sum_mem_le Dt.sz db m hmd; simp only [szL, Dt.sz] at *; omega)
  obtain ⟨i0, hi, hz0, hz1, hz2⟩ := info_parts infoIntI
  have H1 := Lib.hid hi
  have H2 := Lib.hid hz0
  have H3 := Lib.hid hz1
  have H4 := Lib.hid hz2
  clear hwo hi hz0 hz1 hz2
  go_enter Tryz.func18, Tryz.ntmps18
  go_wp2_with fail
  refine HDB.out.mono ?_
  rintro e w1 ⟨rfl, hb1⟩
  rw [HB.out]
  go_wp2_with fail
  refine (implPlaceK HI.out _).mono ?_
  rintro e w2 ⟨rfl, rfl⟩
  obtain ⟨b, off, A1, n1, c1, A2, n2, c2, A3, n3, c3, A4, n4, c4, A5, n5, c5, -, rfl, q0, q1, q2, q3, q4, q5, s1, -⟩ := TbR.at_ (hs.below TbR.stays hb1) hm
  obtain rfl : s[m].cols.length = n1 := s1.1
  have HWC := Lib.hid (implWhereOk b (off + m * 6) A1 AW c1 wh.length cW s[m].cols wh _ w1 q1 (hw.below TkR.stays hb1) hwn)
  go_wp2_with fail
  refine HWC.out.mono ?_
  rintro e w3 ⟨rfl, hb3⟩
  rw [HW.out]
  have hbz := hb1.trans (hb3.mono hb1.size)
  clear q0 q1 q2 q3 q4 q5 hb1 hb3 HWC
  obtain ⟨bd, offd, AL, nL, cL, -, rfl, y0, hrs, -⟩ := DtR.at_ (hd.below DtR.stays hbz) hmd
  obtain rfl : db[m].rows.length = nL := hrs.1
  have hwz := hw.below TkR.stays hbz
  have HO2 := Lib.hid (show matchO s db (m : Int) wh = if db[m].rows.all (truD wh) then some (matL wh db[m].rows) else none by rw [HO.out, HW.out]; rfl)
  clear HO
  generalize hrg : db[m].rows = rows at *
  have HRG := Lib.hid hrg
  clear hrg
  have hrnn : rows.length ≤ 1048576 := HRN.out
  go_wp2_with fail
  clear y0
  go_loopw [10, 39] (fun v i wr => ∃ k : Nat, k ≤ rows.length ∧ i = .int .i64 k ∧ Hid (OwnI wr w3.heap.size v (matL wh (rows.take k))) ∧ Hid ((rows.take k).all (truD wh) = true) ∧ Below w3.heap.size w3 wr) (fun _ i _ => rows.length - (intOf i).toNat)
  case atStart => exact ⟨0, by omega, rfl, Lib.hid (OwnI.nil _ _), Lib.hid (by simp), Below.refl _ _⟩
  case round =>
    obtain ⟨k, hk', rfl, hown, hall, hb⟩ := hrel
    by_cases hlt : k < rows.length
    · obtain ⟨bl, ol, B1, k1, d1, -, rfl, z0, z1, hv, -⟩ := RwR.at_ (hrs.below RwR.stays hb) hlt
      obtain rfl : rows[k].vals.length = k1 := hv.1
      have i0' : (0 : Int) ≤ k := by omega
      have i1 : (k : Int) < rows.length := by omega
      have hbx := hb.alloc hb.size (.cells #[.int .i64 rows[k].id, .slice B1 rows[k].vals.length d1] 109)
      have hlb := (Below.refl wr.heap.size wr).alloc (Nat.le_refl _) (.cells #[.int .i64 rows[k].id, .slice B1 rows[k].vals.length d1] 109)
      have rb := Row.new wr 109 #[.int .i64 rows[k].id, .slice B1 rows[k].vals.length d1]
      have hown' := Lib.hid (hown.out.below hlb)
      have HLEN2 := Lib.hid (show (matL wh (rows.take k)).length ≤ k by have := matL_len wh (rows.take k); rw [List.length_take] at this; omega)
      have HRB2 := Lib.hid rb
      have hvb := hv.below VlR.stays hlb
      have hwb := (hwz.below TkR.stays hb).below TkR.stays hlb
      have HTD := Lib.hid (truD_take (wh := wh) hlt)
      clear hown hv hlb rb
      by_cases h0 : wh.length = 0
      · have HN := Lib.hid (matL_yes (wh := wh) hlt (by unfold truW; rw [if_pos h0]))
        have HA := Lib.hid (show (rows.take (k + 1)).all (truD wh) = true by rw [HTD.out, hall.out]; simp [truD, truW, h0])
        have e0 : decide ((0 : Int) < (wh.length : Int)) = false := decide_eq_false (by omega)
        have e0n : decide (0 < wh.length) = false := decide_eq_false (by omega)
        clear h0 hvb hwb
        generalize hgv : matL wh (rows.take k) = ys at *
        have HGV := Lib.hid hgv
        clear hgv
        go_wp2_with (at_builtin; refine wpList_append_own _ rfl _ _ 45 rfl w3.heap.size 2 i0 (.int .i64 0) 1 8 Tryz.underlying45 H1.out H2.out H3.out H4.out rfl (by decide) _ _ _ rfl (World.ownsRow.alloc hown'.out _) ⟨_, 0, none⟩ 1 1 [.int .i64 rows[k].id] rfl rfl ?c1 ?c2 ?c3 ?c4 ?c5 ?_)
        case c1 => exact cells_newAt _ [.int .i64 rows[k].id] _ (by simp)
        case c2 => intro u hu; simp at hu; subst hu; rfl
        case c3 => have := HLEN2.out; have := HRN.out; unfold maxLen; omega
        case c4 => have := HLEN2.out; have := HRN.out; omega
        case c5 => have := hbx.size; simp at this ⊢; omega
        intro v' w5 hown5 hgrow _
        have R := Lib.hid (OwnI.app hown'.out hbx.size hown5 hgrow)
        clear hown5 hgrow hown'
        go_wp2_with fail
        go_roundw
        case rel => exact ⟨k + 1, by omega, by go_num, Lib.hid (by rw [HN.out]; exact R.out.1), HA, hbx.trans R.out.2⟩
        case measure => simp [intOf]; omega
      · have HT0 := Lib.hid (show truW wh rows[k].vals = truthB wh rows[k].vals by unfold truW; rw [if_neg h0])
        have HC := Lib.hid (implTruth AW B1 wh.length rows[k].vals.length cW d1 wh rows[k].vals _ (Sl.cellz (fun _ => rfl) hwb) (Sl.cellz (fun _ => rfl) hvb) (by unfold maxLen; omega) (by have := HRB.out _ (List.getElem_mem hlt); unfold maxLen; omega))
        have e0 : decide ((0 : Int) < (wh.length : Int)) = true := decide_eq_true (by omega)
        have e0n : decide (0 < wh.length) = true := decide_eq_true (by omega)
        have hr4 := truthB_rng wh rows[k].vals
        clear h0 hvb hwb
        by_cases hm1 : truthB wh rows[k].vals = -1
        · have HF := Lib.hid (show matchO s db (m : Int) wh = none by rw [HO2.out, truD_no hlt (HT0.out.trans hm1)]; rfl)
          have HV := Lib.hid hm1
          clear hm1 hr4
          go_wp2_with fail
          refine HC.out.mono ?_
          rintro e w4 ⟨rfl, hb4⟩
          rw [HV.out]
          go_wp2_with fail
          go_ret2
          exact made_none HF.out (hbz.trans ((hbx.trans (hb4.mono hbx.size)).mono hbz.size))
        · by_cases hy : truthB wh rows[k].vals = 1
          · have HN := Lib.hid (matL_yes (wh := wh) hlt (HT0.out.trans hy))
            have HA := Lib.hid (show (rows.take (k + 1)).all (truD wh) = true by rw [HTD.out, hall.out]; simp [truD, HT0.out, hy])
            have HV := Lib.hid hy
            clear hm1 hy hr4
            go_wp2_with fail
            refine HC.out.mono ?_
            rintro e w4 ⟨rfl, hb4⟩
            rw [HV.out]
            have hoz := Lib.hid (hown'.out.below hb4)
            have rb4 := HRB2.out.below hb4
            have hbw := hbx.trans (hb4.mono hbx.size)
            obtain ⟨⟨x0, x1⟩, -⟩ := rb4.all2
            clear hown' HC HRB2 hb4 rb4
            generalize hgv : matL wh (rows.take k) = ys at *
            have HGV := Lib.hid hgv
            clear hgv
            go_wp2_with (at_builtin; refine wpList_append_own _ rfl _ _ 45 rfl w3.heap.size 2 i0 (.int .i64 0) 1 8 Tryz.underlying45 H1.out H2.out H3.out H4.out rfl (by decide) _ _ _ rfl (World.ownsRow.alloc hoz.out _) ⟨_, 0, none⟩ 1 1 [.int .i64 rows[k].id] rfl rfl ?d1 ?d2 ?d3 ?d4 ?d5 ?_)
            case d1 => exact cell_one_new _ _ _
            case d2 => intro u hu; simp at hu; subst hu; rfl
            case d3 => have := HLEN2.out; have := HRN.out; unfold maxLen; omega
            case d4 => have := HLEN2.out; have := HRN.out; omega
            case d5 => have := hbw.size; simp; omega
            intro v' w5 hown5 hgrow _
            have R := Lib.hid (OwnI.app hoz.out hbw.size hown5 hgrow)
            clear hown5 hgrow hoz
            go_wp2_with fail
            go_roundw
            case rel => exact ⟨k + 1, by omega, by go_num, Lib.hid (by rw [HN.out]; exact R.out.1), HA, hbw.trans R.out.2⟩
            case measure => simp [intOf]; omega
          · have HN := Lib.hid (matL_no (wh := wh) hlt (by rw [HT0.out]; exact hy))
            have HA := Lib.hid (show (rows.take (k + 1)).all (truD wh) = true by rw [HTD.out, hall.out]; simp [truD, HT0.out]; omega)
            rcases (by omega : truthB wh rows[k].vals = 0 ∨ truthB wh rows[k].vals = 2) with hv2 | hv2
            · have HV := Lib.hid hv2
              clear hm1 hy hr4 hv2
              go_wp2_with fail
              refine HC.out.mono ?_
              rintro e w4 ⟨rfl, hb4⟩
              rw [HV.out]
              have hoz := Lib.hid (hown'.out.below hb4)
              go_wp2_with fail
              go_roundw
              case rel => exact ⟨k + 1, by omega, by go_num, Lib.hid (by rw [HN.out]; exact hoz.out), HA, hbx.trans (hb4.mono hbx.size)⟩
              case measure => simp [intOf]; omega
            · have HV := Lib.hid hv2
              clear hm1 hy hr4 hv2
              go_wp2_with fail
              refine HC.out.mono ?_
              rintro e w4 ⟨rfl, hb4⟩
              rw [HV.out]
              have hoz := Lib.hid (hown'.out.below hb4)
              go_wp2_with fail
              go_roundw
              case rel => exact ⟨k + 1, by omega, by go_num, Lib.hid (by rw [HN.out]; exact hoz.out), HA, hbx.trans (hb4.mono hbx.size)⟩
              case measure => simp [intOf]; omega
    · obtain rfl : k = rows.length := by omega
      have ho := hown.out
      have ha := hall.out
      rw [List.take_of_length_le (Nat.le_refl _)] at ho ha
      obtain ⟨AO, cO, rfl, hcO, hcm, hsl⟩ := OwnI.sl ho
      have HSL := Lib.hid hsl
      have HF := Lib.hid (match_some (show matchO s db (m : Int) wh = some (matL wh rows) by rw [HO2.out, ha]; rfl))
      clear hown hall ho ha hsl
      have hbw := hbz.trans (hb.mono hbz.size)
      go_wp2_with fail
      go_ret2
      exact ⟨AO, cO, by rw [HF.out.1, HF.out.2]; rfl, by rw [HF.out.1]; exact hcO, by rw [HF.out.1]; exact HSL.out.stays IntR.stays (fun b hb => hb.mono hbz.size) (fun _ _ _ h => h), hbw⟩
end Go.Proofs.YtfhiknndflahgaaGreat
namespace Go.Proofs.YtfhiknndflahgaaGreat
open Go.RowKit Go.Maps
set_option linter.unusedVariables false
set_option linter.unusedSimpArgs false

set_option maxRecDepth 100000 in
set_option maxHeartbeats 1000000 in
theorem specDbOk (AS AD : Option Addr) (nS cS nD cD : Nat) (s : List Tb) (db : List Dt) (ok ok' : Nat → Prop) (w : World) (hs : Sl TbR 6 ok w AS nS s) (hd : Sl DtR 1 ok' w AD nD db) (hcp : nS ≤ cS) (hsz : szL Tb.sz s ≤ 1048576) (hdz : szL Dt.sz db ≤ 1048576) :
    Calls Tryz.prog 94 #[.slice AS nS cS, .slice AD nD cD] w fun e w' => e = .returned (.bool (dbB s db)) ∧ Below w.heap.size w w' := by
  have hs1 := hs.stays TbR.stays (ok' := fun _ => True) (fun _ _ => trivial) (fun _ _ _ h => h)
  have hd1 := hd.stays DtR.stays (ok' := fun _ => True) (fun _ _ => trivial) (fun _ _ _ h => h)
  have HVS := Lib.hid (rows_le hdz)
  have HSZ := Lib.hid hsz
  have HDZ := Lib.hid hdz
  have HCP := Lib.hid hcp
  clear hsz hdz hcp hs hd
  cases hB : schemaB s
  · have HB := Lib.hid hB
    have HF := Lib.hid (show dbB s db = false by unfold dbB; rw [hB]; rfl)
    clear hB
    go_enter Tryz.func94, Tryz.ntmps94
    go_wp2_with fail
    refine (specSchemaOk AS nS cS s _ _ hs1 HCP.out HSZ.out).mono ?_
    rintro e w1 ⟨rfl, hb1⟩
    rw [HB.out]
    go_wp2_with fail
    go_ret
    exact ⟨retB HF.out.symm, hb1⟩
  · have HB := Lib.hid hB
    clear hB
    go_enter Tryz.func94, Tryz.ntmps94
    go_wp2_with fail
    refine (specSchemaOk AS nS cS s _ _ hs1 HCP.out HSZ.out).mono ?_
    rintro e w1 ⟨rfl, hb1⟩
    rw [HB.out]
    go_wp2_with fail
    refine (specL4Db AS AD nS cS nD cD s db _ _ (hs1.below TbR.stays hb1) (hd1.below DtR.stays hb1) HSZ.out HDZ.out HVS.out HB.out).mono ?_
    rintro e w2 ⟨rfl, hb2⟩
    go_wp2_with fail
    go_ret
    exact ⟨rfl, hb1.trans (hb2.mono hb1.size)⟩
end Go.Proofs.YtfhiknndflahgaaGreat
namespace Go.Proofs.YtfhiknndflahgaaGreat
open Go.RowKit Go.Maps
set_option linter.unusedVariables false
set_option linter.unusedSimpArgs false

set_option maxRecDepth 100000 in
set_option maxHeartbeats 1000000 in
theorem specL6Ok (AS AD : Option Addr) (nS cS nD cD : Nat) (s : List Tb) (db : List Dt) (t : Int) (ok ok' : Nat → Prop) (w : World) (hs : Sl TbR 6 ok w AS nS s) (hd : Sl DtR 1 ok' w AD nD db) (hcp : nS ≤ cS) (hsz : szL Tb.sz s ≤ 1048576) (hdz : szL Dt.sz db ≤ 1048576) :
    Calls Tryz.prog 46 #[.slice AS nS cS, .slice AD nD cD, .int .i64 t] w fun e w' => e = .returned (.bool (dbB s db && (decide (0 ≤ t) && decide (t < (s.length : Int))))) ∧ Below w.heap.size w w' := by
  obtain rfl : s.length = nS := hs.1
  have hn1 : s.length ≤ 1048576 := by unfold szL at hsz; omega
  have HDB := Lib.hid (specDbOk AS AD s.length cS nD cD s db ok ok' w hs hd hcp hsz hdz)
  have i2 : IntKind.i64.wrap ((s.length : Int) - 1) = (s.length : Int) - 1 := IntWalk.i64_in _ (by omega)
  have HI := Lib.hid (show (decide (0 ≤ t) && decide (t ≤ (s.length : Int) - 1)) = (decide (0 ≤ t) && decide (t < (s.length : Int))) by congr 1; rw [decide_eq_decide]; omega)
  clear hsz hdz hs hd
  cases hB : dbB s db
  · have HB := Lib.hid hB
    clear hB
    go_enter Tryz.func46, Tryz.ntmps46
    go_wp2_with fail
    refine HDB.out.mono ?_
    rintro e w1 ⟨rfl, hb1⟩
    rw [HB.out]
    go_wp2_with fail
    go_ret
    exact ⟨rfl, hb1⟩
  · have HB := Lib.hid hB
    clear hB
    go_enter Tryz.func46, Tryz.ntmps46
    go_wp2_with fail
    refine HDB.out.mono ?_
    rintro e w1 ⟨rfl, hb1⟩
    rw [HB.out]
    go_wp2_with fail
    refine (specInK HI.out _).mono ?_
    rintro e w2 ⟨rfl, rfl⟩
    go_wp2_with fail
    go_ret
    exact ⟨retB (by simp), hb1⟩

/-- The Ids and whether each row has a truth. -/
def MadeL7 (wh : List Tk) (rows : List Rw) (w : World) : Ending → World → Prop := MadeF IntR 1 (if rows.all (truD wh) then matL wh rows else []) (rows.all (truD wh)) w

set_option maxRecDepth 100000 in
set_option maxHeartbeats 4000000 in
theorem specL7Matching (AL AW : Option Addr) (nL cL nW cW : Nat) (rows : List Rw) (wh : List Tk) (n : Nat) (ok okw : Nat → Prop) (w : World)
    (hr : Sl RwR 2 ok w AL nL rows) (hw : Sl TkR 5 okw w AW nW wh) (hrn : nL ≤ 1048576) (hwn : nW ≤ 1048576) (hrb : ∀ r ∈ rows, rowB r.vals = true ∧ r.vals.length = n) (hwo : wh.length ≠ 0 → exprB wh n = true) :
    Calls Tryz.prog 48 #[.agg #[.slice AL nL cL], .slice AW nW cW] w (MadeL7 wh rows w) := by
  obtain rfl : rows.length = nL := hr.1
  obtain rfl : wh.length = nW := hw.1
  have HRB := Lib.hid hrb
  have HWO := Lib.hid hwo
  obtain ⟨i0, hi, hz0, hz1, hz2⟩ := info_parts infoIntI
  have H1 := Lib.hid hi
  have H2 := Lib.hid hz0
  have H3 := Lib.hid hz1
  have H4 := Lib.hid hz2
  clear hrb hwo hi hz0 hz1 hz2
  have rb := (Row.new w 99 #[.slice AL rows.length cL]).alloc (.cells #[] 2)
  have hb0 := (((Below.refl w.heap.size w).alloc (Nat.le_refl _) (.cells #[.slice AL rows.length cL] 99)).alloc (by simp) (.cells #[] 2))
  have ho0 : Hid (OwnI ((w.alloc (.cells #[.slice AL rows.length cL] 99)).alloc (.cells #[] 2)) (w.heap.size + 1) (.slice (some ⟨w.heap.size + 1, 0, none⟩) 0 0) []) := by
    have h := OwnI.lit (w.alloc (.cells #[.slice AL rows.length cL] 99)) (base := w.heap.size + 1) (by simp)
    have e : (w.alloc (.cells #[.slice AL rows.length cL] 99)).heap.size = w.heap.size + 1 := by simp
    rw [e] at h
    exact Lib.hid h
  go_enter Tryz.func48, Tryz.ntmps48
  go_wp2_with fail
  have hsz0 : w.heap.size + 1 ≤ ((w.alloc (.cells #[.slice AL rows.length cL] 99)).alloc (.cells #[] 2)).heap.size := by simp
  have HSZ0 := Lib.hid hsz0
  clear hsz0
  generalize (w.alloc (.cells #[.slice AL rows.length cL] 99)).alloc (.cells #[] 2) = z0 at *
  go_loopw [6, 7] (fun v i wr => ∃ k : Nat, k ≤ rows.length ∧ i = .int .i64 k ∧ Hid (OwnI wr (w.heap.size + 1) v (matL wh (rows.take k))) ∧ Hid ((rows.take k).all (truD wh) = true) ∧ Row wr w.heap.size 99 #[.slice AL rows.length cL] ∧ Hid (w.heap.size + 1 ≤ wr.heap.size) ∧ Below w.heap.size w wr) (fun _ i _ => rows.length - (intOf i).toNat)
  case atStart => exact ⟨0, by omega, rfl, by exact ho0, Lib.hid (by simp), rb, HSZ0, hb0⟩
  case round =>
    clear hb0 ho0 rb
    obtain ⟨k, hk', rfl, hown, hall, rb, hsz, hb⟩ := hrel
    obtain ⟨c0, -⟩ := rb.all1
    by_cases hlt : k < rows.length
    · obtain ⟨bl, ol, B1, k1, d1, -, rfl, z0, z1, hv, -⟩ := RwR.at_ (hr.below RwR.stays hb) hlt
      obtain rfl : rows[k].vals.length = k1 := hv.1
      have i0' : (0 : Int) ≤ k := by omega
      have i1 : (k : Int) < rows.length := by omega
      have HLEN2 := Lib.hid (show (matL wh (rows.take k)).length ≤ k by have := matL_len wh (rows.take k); rw [List.length_take] at this; omega)
      have HTD := Lib.hid (truD_take (wh := wh) hlt)
      have HRR := Lib.hid (HRB.out _ (List.getElem_mem hlt))
      have HRB2 := Lib.hid rb
      have hne := Lib.hid (fun j hj => Nat.ne_of_gt (show w.heap.size < j from (OwnI.block_lt hown.out j hj).1))
      have hszN : w.heap.size + 1 ≤ wr.heap.size := hsz.out
      by_cases h0 : wh.length = 0
      · have HN := Lib.hid (matL_yes (wh := wh) hlt (by unfold truW; rw [if_pos h0]))
        have HA := Lib.hid (show (rows.take (k + 1)).all (truD wh) = true by rw [HTD.out, hall.out]; simp [truD, truW, h0])
        have e0 : decide ((0 : Int) < (wh.length : Int)) = false := decide_eq_false (by omega)
        have e0n : decide (0 < wh.length) = false := decide_eq_false (by omega)
        have hoz := hown
        clear h0 hv hown rb hsz
        generalize hgv : matL wh (rows.take k) = ys at *
        have HGV := Lib.hid hgv
        clear hgv
        go_wp2_with (at_builtin; refine wpList_append_own _ rfl _ _ 45 rfl (w.heap.size + 1) 2 i0 (.int .i64 0) 1 8 Tryz.underlying45 H1.out H2.out H3.out H4.out rfl (by decide) _ _ _ rfl (World.ownsRow.alloc hoz.out _) ⟨_, 0, none⟩ 1 1 [.int .i64 rows[k].id] rfl rfl ?c1 ?c2 ?c3 ?c4 ?c5 ?_)
        case c1 => exact cell_one_new _ _ _
        case c2 => intro u hu; simp at hu; subst hu; rfl
        case c3 => have := HLEN2.out; unfold maxLen; omega
        case c4 => have := HLEN2.out; omega
        case c5 => simp; omega
        intro v' w5 hown5 hgrow _
        have R := Lib.hid (OwnI.app hoz.out hszN hown5 hgrow)
        have rb5 := grown_rowK hgrow (HRB2.out.alloc _) hne.out
        have HS5 := Lib.hid (Nat.le_trans hszN R.out.2.size)
        clear hown5 hgrow hoz HRB2 c0
        go_wp2_with fail
        go_roundw
        case rel => exact ⟨k + 1, by omega, by go_num, Lib.hid (by rw [HN.out]; exact R.out.1), HA, rb5, HS5, hb.trans (R.out.2.mono (Nat.le_succ _))⟩
        case measure => simp [intOf]; omega
      · have HT0 := Lib.hid (show truW wh rows[k].vals = truthB wh rows[k].vals by unfold truW; rw [if_neg h0])
        have HC := Lib.hid (specL2Truth AW B1 wh.length rows[k].vals.length cW d1 wh rows[k].vals wr (Sl.cellz (fun _ => rfl) (hw.below TkR.stays hb)) (Sl.cellz (fun _ => rfl) hv) (by unfold maxLen; omega) (by have := rowB_le HRR.out.1; unfold maxLen; omega) HRR.out.1 (by rw [HRR.out.2]; exact HWO.out h0))
        have e0 : decide ((0 : Int) < (wh.length : Int)) = true := decide_eq_true (by omega)
        have e0n : decide (0 < wh.length) = true := decide_eq_true (by omega)
        have hr4 := truthB_rng wh rows[k].vals
        have Z0 := Lib.hid z0
        clear h0 hv
        by_cases hm1 : truthB wh rows[k].vals = -1
        · have HF := Lib.hid (truD_no hlt (HT0.out.trans hm1))
          have HV := Lib.hid hm1
          clear hm1 hr4
          go_wp2_with fail
          refine HC.out.mono ?_
          rintro e w4 ⟨rfl, hb4⟩
          rw [HV.out]
          have hbz := hb.trans (hb4.mono hb.size)
          go_wp2_with fail
          go_ret2
          exact ⟨none, 0, by rw [HF.out]; rfl, by rw [HF.out]; exact Nat.le_refl _, by rw [HF.out]; exact ⟨rfl, fun h => by simp at h⟩, hbz⟩
        · by_cases hy : truthB wh rows[k].vals = 1
          · have HN := Lib.hid (matL_yes (wh := wh) hlt (HT0.out.trans hy))
            have HA := Lib.hid (show (rows.take (k + 1)).all (truD wh) = true by rw [HTD.out, hall.out]; simp [truD, HT0.out, hy])
            have HV := Lib.hid hy
            clear hm1 hy hr4
            go_wp2_with fail
            refine HC.out.mono ?_
            rintro e w4 ⟨rfl, hb4⟩
            rw [HV.out]
            have hoz := Lib.hid (hown.out.below hb4)
            have rb4 := HRB2.out.below hb4
            have hbw := hb.trans (hb4.mono hb.size)
            have hszM : w.heap.size + 1 ≤ w4.heap.size := Nat.le_trans hszN hb4.size
            have z0 := below_keep hb4 _ _ Z0.out
            obtain ⟨c0, -⟩ := rb4.all1
            have HRB4 := Lib.hid rb4
            clear hown HC HRB2 hb4 rb4 rb hsz hszN z1
            generalize hgv : matL wh (rows.take k) = ys at *
            have HGV := Lib.hid hgv
            clear hgv
            go_wp2_with (at_builtin; refine wpList_append_own _ rfl _ _ 45 rfl (w.heap.size + 1) 2 i0 (.int .i64 0) 1 8 Tryz.underlying45 H1.out H2.out H3.out H4.out rfl (by decide) _ _ _ rfl (World.ownsRow.alloc hoz.out _) ⟨_, 0, none⟩ 1 1 [.int .i64 rows[k].id] rfl rfl ?d1 ?d2 ?d3 ?d4 ?d5 ?_)
            case d1 => exact cell_one_new _ _ _
            case d2 => intro u hu; simp at hu; subst hu; rfl
            case d3 => have := HLEN2.out; unfold maxLen; omega
            case d4 => have := HLEN2.out; omega
            case d5 => simp; omega
            intro v' w5 hown5 hgrow _
            have R := Lib.hid (OwnI.app hoz.out hszM hown5 hgrow)
            have rb5 := grown_rowK hgrow (HRB4.out.alloc _) (fun j hj => Nat.ne_of_gt (show w.heap.size < j from (OwnI.block_lt hoz.out j hj).1))
            have HS5 := Lib.hid (Nat.le_trans hszM R.out.2.size)
            clear hown5 hgrow hoz HRB4 c0 z0 hne
            go_wp2_with fail
            go_roundw
            case rel => exact ⟨k + 1, by omega, by go_num, Lib.hid (by rw [HN.out]; exact R.out.1), HA, rb5, HS5, hbw.trans (R.out.2.mono (Nat.le_succ _))⟩
            case measure => simp [intOf]; omega
          · have HN := Lib.hid (matL_no (wh := wh) hlt (by rw [HT0.out]; exact hy))
            have HA := Lib.hid (show (rows.take (k + 1)).all (truD wh) = true by rw [HTD.out, hall.out]; simp [truD, HT0.out]; omega)
            rcases (by omega : truthB wh rows[k].vals = 0 ∨ truthB wh rows[k].vals = 2) with hv2 | hv2
            · have HV := Lib.hid hv2
              clear hm1 hy hr4 hv2
              go_wp2_with fail
              refine HC.out.mono ?_
              rintro e w4 ⟨rfl, hb4⟩
              rw [HV.out]
              have hoz := Lib.hid (hown.out.below hb4)
              go_wp2_with fail
              go_roundw
              case rel => exact ⟨k + 1, by omega, by go_num, Lib.hid (by rw [HN.out]; exact hoz.out), HA, HRB2.out.below hb4, Lib.hid (Nat.le_trans hszN hb4.size), hb.trans (hb4.mono hb.size)⟩
              case measure => simp [intOf]; omega
            · have HV := Lib.hid hv2
              clear hm1 hy hr4 hv2
              go_wp2_with fail
              refine HC.out.mono ?_
              rintro e w4 ⟨rfl, hb4⟩
              rw [HV.out]
              have hoz := Lib.hid (hown.out.below hb4)
              go_wp2_with fail
              go_roundw
              case rel => exact ⟨k + 1, by omega, by go_num, Lib.hid (by rw [HN.out]; exact hoz.out), HA, HRB2.out.below hb4, Lib.hid (Nat.le_trans hszN hb4.size), hb.trans (hb4.mono hb.size)⟩
              case measure => simp [intOf]; omega
    · obtain rfl : k = rows.length := by omega
      have ho := hown.out
      have ha := hall.out
      rw [List.take_of_length_le (Nat.le_refl _)] at ho ha
      obtain ⟨AO, cO, rfl, hcO, hcm, hsl⟩ := OwnI.sl ho
      have HSL := Lib.hid hsl
      have HA := Lib.hid ha
      clear hown hall ho ha hsl
      go_wp2_with fail
      go_ret2
      exact ⟨AO, cO, by rw [HA.out]; rfl, by rw [HA.out]; exact hcO, by rw [HA.out]; exact HSL.out.stays IntR.stays (fun b hb => hb.mono (Nat.le_succ _)) (fun _ _ _ h => h), hb⟩

theorem match_l7 {s : List Tb} {db : List Dt} {m : Nat} {wh : List Tk} {rows : List Rw} (h : matchO s db (m : Int) wh = if rows.all (truD wh) then some (matL wh rows) else none) : (if rows.all (truD wh) then matL wh rows else []) = matchB s db (m : Int) wh ∧ rows.all (truD wh) = matchF s db (m : Int) wh := by
  unfold matchB matchF
  rw [h]
  cases rows.all (truD wh) <;> exact ⟨rfl, rfl⟩

set_option maxRecDepth 100000 in
set_option maxHeartbeats 4000000 in
theorem specMatching (AS AD AW : Option Addr) (nS cS nD cD nW cW : Nat) (s : List Tb) (db : List Dt) (t : Int) (wh : List Tk) (ok ok' okw : Nat → Prop) (w : World)
    (hs : Sl TbR 6 ok w AS nS s) (hd : Sl DtR 1 ok' w AD nD db) (hw : Sl TkR 5 okw w AW nW wh) (hcp : nS ≤ cS) (hsz : szL Tb.sz s ≤ 1048576) (hdz : szL Dt.sz db ≤ 1048576) (hwn : nW ≤ 1048576) :
    Calls Tryz.prog 15 #[.slice AS nS cS, .slice AD nD cD, .int .i64 t, .slice AW nW cW] w (MadeM s db t wh w) := by
  obtain rfl : s.length = nS := hs.1
  obtain rfl : db.length = nD := hd.1
  obtain rfl : wh.length = nW := hw.1
  have HDZ := Lib.hid hdz
  have HDB := Lib.hid (specL6Ok AS AD s.length cS db.length cD s db t ok ok' w hs hd hcp hsz hdz)
  clear hsz hdz
  cases hB : (dbB s db && (decide (0 ≤ t) && decide (t < (s.length : Int))))
  · have HB := Lib.hid hB
    have HR := Lib.hid (show matchO s db t wh = none by
      rcases Bool.and_eq_false_iff.1 hB with h | h
      · exact matchO_bad h
      · exact matchO_out h)
    clear hB
    go_enter Tryz.func15, Tryz.ntmps15
    go_wp2_with fail
    refine HDB.out.mono ?_
    rintro e w1 ⟨rfl, hb1⟩
    rw [HB.out]
    go_wp2_with fail
    go_ret2
    exact made_none HR.out hb1
  have HB := Lib.hid hB
  rw [Bool.and_eq_true] at hB
  obtain ⟨hB1, hin⟩ := hB
  have HB1 := Lib.hid hB1
  have HLEN := Lib.hid (dbB_len hB1)
  obtain ⟨m, rfl, hm⟩ : ∃ m : Nat, t = m ∧ m < s.length := by
    simp only [Bool.and_eq_true, decide_eq_true_eq] at hin
    exact ⟨t.toNat, by omega, by omega⟩
  have hmd : m < db.length := by have := HLEN.out; omega
  have m0 : (0 : Int) ≤ m := by omega
  have m1 : (m : Int) < s.length := by omega
  have m2 : (m : Int) < db.length := by omega
  have HO := Lib.hid (matchO_in (wh := wh) hm hmd hB1)
  have HC8 := Lib.hid (dbB_cols hB1 hm)
  have HRR := Lib.hid (fun r hr => And.intro (dbB_rowB hB1 hm hmd r hr) (dbB_row hB1 hm hmd r hr))
  have HRN := Lib.hid (show db[m].rows.length ≤ 1048576 by have h1 := HDZ.out; have := sum_mem_le Dt.sz db m hmd; simp only [szL, Dt.sz] at *; omega)
  clear hin hB1
  by_cases h0 : wh.length = 0
  · have e0 : decide ((0 : Int) < (wh.length : Int)) = false := decide_eq_false (by omega)
    have e0n : decide (0 < wh.length) = false := decide_eq_false (by omega)
    have HW := Lib.hid (show whereB s[m].cols wh = true by unfold whereB; rw [decide_eq_true h0]; rfl)
    have HWX := Lib.hid (show wh.length ≠ 0 → exprB wh s[m].cols.length = true from fun h => absurd h0 h)
    clear h0
    go_enter Tryz.func15, Tryz.ntmps15
    go_wp2_with fail
    refine HDB.out.mono ?_
    rintro e w1 ⟨rfl, hb1⟩
    rw [HB.out]
    obtain ⟨bd, offd, AL, nL, cL, -, rfl, y0, hrs, -⟩ := DtR.at_ (hd.below DtR.stays hb1) hmd
    obtain rfl : db[m].rows.length = nL := hrs.1
    have hp := specL7Matching AL AW db[m].rows.length cL wh.length cW db[m].rows wh s[m].cols.length _ _ w1 hrs (hw.below TkR.stays hb1) HRN.out hwn HRR.out HWX.out
    have hml := match_l7 (show matchO s db (m : Int) wh = if db[m].rows.all (truD wh) then some (matL wh db[m].rows) else none by rw [HO.out, HW.out]; rfl)
    unfold MadeL7 at hp
    rw [hml.1, hml.2] at hp
    have HP := Lib.hid hp
    clear hrs hp hml
    go_wp2_with fail
    refine HP.out.mono ?_
    rintro e w4 ⟨AO, cO, rfl, hcO, hsl, hb4⟩
    have HSL := Lib.hid hsl
    have hbz := hb1.trans (hb4.mono hb1.size)
    have HSZ := Lib.hid hb1.size
    clear hsl HP y0
    go_wp2_with fail
    go_ret2
    exact ⟨AO, cO, rfl, hcO, HSL.out.stays IntR.stays (fun b hb => hb.mono HSZ.out) (fun _ _ _ h => h), hbz⟩
  · have e0 : decide ((0 : Int) < (wh.length : Int)) = true := decide_eq_true (by omega)
    have e0n : decide (0 < wh.length) = true := decide_eq_true (by omega)
    have hwe : whereB s[m].cols wh = l2B wh s[m].cols.length := by unfold whereB; rw [decide_eq_false h0, exprB_l2n (by have := HC8.out; omega)]; rfl
    have HLX := Lib.hid (show exprB wh s[m].cols.length = l2B wh s[m].cols.length from exprB_l2n (by have := HC8.out; omega))
    have hcl : s[m].cols.length ≤ 8 := HC8.out
    clear h0
    cases hl : l2B wh s[m].cols.length
    · have HL := Lib.hid hl
      have HR := Lib.hid (show matchO s db (m : Int) wh = none by rw [HO.out, hwe, hl]; rfl)
      clear hl hwe
      go_enter Tryz.func15, Tryz.ntmps15
      go_wp2_with fail
      refine HDB.out.mono ?_
      rintro e w1 ⟨rfl, hb1⟩
      rw [HB.out]
      obtain ⟨b, off, A1, n1, c1, A2, n2, c2, A3, n3, c3, A4, n4, c4, A5, n5, c5, -, rfl, q0, q1, q2, q3, q4, q5, s1, -⟩ := TbR.at_ (hs.below TbR.stays hb1) hm
      obtain rfl : s[m].cols.length = n1 := s1.1
      go_wp2_with fail
      refine (specL2Expr AW wh.length cW wh (s[m].cols.length : Int) _ (Sl.cellz (fun _ => rfl) (hw.below TkR.stays hb1)) (by unfold maxLen; omega) (by omega) (by omega)).mono ?_
      rintro e w3 ⟨rfl, hb3⟩
      rw [HL.out]
      go_wp2_with fail
      go_ret2
      exact made_none HR.out (hb1.trans (hb3.mono hb1.size))
    · have HL := Lib.hid hl
      have HW := Lib.hid (hwe.trans hl)
      have HWX := Lib.hid (show wh.length ≠ 0 → exprB wh s[m].cols.length = true from fun _ => HLX.out.trans hl)
      clear hl hwe
      go_enter Tryz.func15, Tryz.ntmps15
      go_wp2_with fail
      refine HDB.out.mono ?_
      rintro e w1 ⟨rfl, hb1⟩
      rw [HB.out]
      obtain ⟨b, off, A1, n1, c1, A2, n2, c2, A3, n3, c3, A4, n4, c4, A5, n5, c5, -, rfl, q0, q1, q2, q3, q4, q5, s1, -⟩ := TbR.at_ (hs.below TbR.stays hb1) hm
      obtain rfl : s[m].cols.length = n1 := s1.1
      go_wp2_with fail
      refine (specL2Expr AW wh.length cW wh (s[m].cols.length : Int) _ (Sl.cellz (fun _ => rfl) (hw.below TkR.stays hb1)) (by unfold maxLen; omega) (by omega) (by omega)).mono ?_
      rintro e w3 ⟨rfl, hb3⟩
      rw [HL.out]
      have hby := hb1.trans (hb3.mono hb1.size)
      clear q0 q1 q2 q3 q4 q5 hb1 hb3
      obtain ⟨bd, offd, AL, nL, cL, -, rfl, y0, hrs, -⟩ := DtR.at_ (hd.below DtR.stays hby) hmd
      obtain rfl : db[m].rows.length = nL := hrs.1
      have hp := specL7Matching AL AW db[m].rows.length cL wh.length cW db[m].rows wh s[m].cols.length _ _ w3 hrs (hw.below TkR.stays hby) HRN.out hwn HRR.out HWX.out
      have hml := match_l7 (show matchO s db (m : Int) wh = if db[m].rows.all (truD wh) then some (matL wh db[m].rows) else none by rw [HO.out, HW.out]; rfl)
      unfold MadeL7 at hp
      rw [hml.1, hml.2] at hp
      have HP := Lib.hid hp
      clear hrs hp hml
      go_wp2_with fail
      refine HP.out.mono ?_
      rintro e w4 ⟨AO, cO, rfl, hcO, hsl, hb4⟩
      have HSL := Lib.hid hsl
      have hbz := hby.trans (hb4.mono hby.size)
      have HSZ := Lib.hid hby.size
      clear hsl HP y0
      go_wp2_with fail
      go_ret2
      exact ⟨AO, cO, rfl, hcO, HSL.out.stays IntR.stays (fun b hb => hb.mono HSZ.out) (fun _ _ _ h => h), hbz⟩
end Go.Proofs.YtfhiknndflahgaaGreat
namespace Go.Proofs.YtfhiknndflahgaaGreat
open Go.RowKit
set_option linter.unusedVariables false
set_option linter.unusedSimpArgs false

def digB (k : Nat) : ByteArray := ⟨#[UInt8.ofNat (48 + k % 10)]⟩
def mtFin : Nat → Nat → ByteArray → ByteArray
  | 0, _, out => ⟨#[109]⟩ ++ out
  | f + 1, k, out => if k = 0 then ⟨#[109]⟩ ++ out else mtFin f (k / 10) (digB k ++ out)
def mtx (k : Nat) : ByteArray := if k = 0 then ⟨#[109, 48]⟩ else mtFin k k ⟨#[]⟩
theorem mtFin_zero (f : Nat) (out : ByteArray) : mtFin f 0 out = ⟨#[109]⟩ ++ out := by cases f <;> simp [mtFin]
theorem mtFin_step (f k : Nat) (out : ByteArray) (h : 0 < k) : mtFin (f + 1) k out = mtFin f (k / 10) (digB k ++ out) := by
  rw [mtFin, if_neg (by omega)]

theorem digB_run (j : Nat) (w : World) :
    (convert 167 9 (.slice (some ⟨w.heap.size, 0, none⟩) 1 1)).run Tryz.prog (w.alloc (.cells #[.int .u8 (48 + (j : Int) % 10)] 5)) = .ok (.string (digB j)) (w.alloc (.cells #[.int .u8 (48 + (j : Int) % 10)] 5)) := by
  refine run_convert_bytes_back _ _ _ 5 ⟨w.heap.size, 0, none⟩ 1 [UInt8.ofNat (48 + j % 10)] Tryz.underlying167 Tryz.underlying5 Tryz.underlying9 fun i hi => ?_
  have e : i = 0 := by simpa using hi
  subst e
  have e2 : (UInt8.ofNat (48 + j % 10)).toNat = 48 + j % 10 := by rw [UInt8.toNat_ofNat']; omega
  simp [Addr.add, World.cell?_alloc_mark]
  omega

def MtRel (k : Nat) (w : World) (m o : Value) (wr : World) : Prop := ∃ (f j : Nat) (out : ByteArray), m = .int .i64 j ∧ o = .string out ∧ j ≤ f ∧ out.size + f ≤ k ∧ Hid (mtFin k k ⟨#[]⟩ = mtFin f j out) ∧ Below w.heap.size w wr
theorem digB_size (j : Nat) : (digB j).size = 1 := rfl

set_option maxRecDepth 100000 in
set_option maxHeartbeats 1000000 in
theorem lawsMarkText (k : Nat) (w : World) (hk : k ≤ 1073741824) {x : Int} (hx : x = k) :
    Calls Tryz.prog 56 #[.int .i64 x] w fun e w' => e = .returned (.string (mtx k)) ∧ Below w.heap.size w w' := by
  subst hx
  by_cases h0 : k = 0
  · subst h0
    go_enter Tryz.func56, Tryz.ntmps56
    go_wp2_with fail
    go_ret
    exact ⟨rfl, Below.refl _ _⟩
  have hpos : ¬ ((k : Int) ≤ 0) := by omega
  go_enter Tryz.func56, Tryz.ntmps56
  go_wp2_with fail
  go_loopw [0, 3] (MtRel k w) (fun m _ _ => (intOf m).toNat)
  case atStart => exact ⟨k, k, ⟨#[]⟩, rfl, rfl, Nat.le_refl _, by simp [ByteArray.size], Lib.hid rfl, Below.refl _ _⟩
  case round =>
    obtain ⟨f, j, out, rfl, rfl, hj, ho, hm, hb⟩ := hrel
    by_cases hlt : 0 < j
    · obtain ⟨f, rfl⟩ : ∃ g, f = g + 1 := ⟨f - 1, by omega⟩
      have hm2 := hm.out
      rw [mtFin_step _ _ _ hlt] at hm2
      have HM := Lib.hid hm2
      clear hm hm2
      have d0 : (0 : Int) < j := by omega
      have hcv := digB_run j wr
      have hc1 : (digB j).size + out.size ≤ 9223372036854775807 := by rw [digB_size]; omega
      have hc2 : ¬ 9223372036854775807 < (digB j).size + out.size := by omega
      have hba := hb.alloc hb.size (.cells #[.int .u8 (48 + (j : Int) % 10)] 5)
      go_wp2_with fail
      go_roundw
      case rel => exact ⟨f, j / 10, digB j ++ out, by go_num, rfl, by omega, by rw [ByteArray.size_append, digB_size]; omega, HM, hba⟩
      case measure => simp [intOf]; omega
    · have e : j = 0 := by omega
      have hm2 := hm.out
      rw [e, mtFin_zero] at hm2
      have HM := Lib.hid (show mtx k = ⟨#[109]⟩ ++ out by rw [mtx, if_neg h0]; exact hm2)
      have d0 : ¬ ((0 : Int) < j) := by omega
      have hc1 : (⟨#[109]⟩ : ByteArray).size + out.size ≤ 9223372036854775807 := by show 1 + out.size ≤ _; omega
      have hc2 : 1 + out.size ≤ 9223372036854775807 := by omega
      clear hm hm2 e
      go_wp2_with fail
      go_ret
      exact ⟨by rw [HM.out]; rfl, hb⟩
end Go.Proofs.YtfhiknndflahgaaGreat
namespace Go.Proofs.YtfhiknndflahgaaGreat
open Go.RowKit
set_option linter.unusedVariables false

theorem Int.toSh : ∀ (ok : Nat → Prop) (w : World) (cs : List Value) (x : Int), True → IntR ok w cs x → ShF 1 ok w cs ((fun _ : Int => 1) x) := fun _ _ cs x _ h => by
  have e : cs = _ := h
  subst e
  refine ⟨rfl, fun j v hv => ?_, rfl⟩
  have hj : j < 1 := (List.getElem?_eq_some_iff.1 hv).1
  have : j = 0 := by omega
  rcases this with rfl <;> (obtain rfl := Option.some.inj hv; rfl)
theorem Tk.toSh : ∀ (ok : Nat → Prop) (w : World) (cs : List Value) (x : Tk), True → TkR ok w cs x → ShF 5 ok w cs ((fun _ : Tk => 5) x) := fun _ _ cs x _ h => by
  have e : cs = _ := h
  subst e
  refine ⟨rfl, fun j v hv => ?_, rfl⟩
  have hj : j < 5 := (List.getElem?_eq_some_iff.1 hv).1
  have : j = 0 ∨ j = 1 ∨ j = 2 ∨ j = 3 ∨ j = 4 := by omega
  rcases this with rfl | rfl | rfl | rfl | rfl <;> (obtain rfl := Option.some.inj hv; rfl)
theorem Vl.toSh : ∀ (ok : Nat → Prop) (w : World) (cs : List Value) (x : Vl), True → VlR ok w cs x → ShF 3 ok w cs ((fun _ : Vl => 3) x) := fun _ _ cs x _ h => by
  have e : cs = _ := h
  subst e
  refine ⟨rfl, fun j v hv => ?_, rfl⟩
  have hj : j < 3 := (List.getElem?_eq_some_iff.1 hv).1
  have : j = 0 ∨ j = 1 ∨ j = 2 := by omega
  rcases this with rfl | rfl | rfl <;> (obtain rfl := Option.some.inj hv; rfl)
theorem Cl.toSh : ∀ (ok : Nat → Prop) (w : World) (cs : List Value) (x : Cl), True → ClR ok w cs x → ShF 6 ok w cs ((fun _ : Cl => 6) x) := fun _ _ cs x _ h => by
  have e : cs = _ := h
  subst e
  refine ⟨rfl, fun j v hv => ?_, rfl⟩
  have hj : j < 6 := (List.getElem?_eq_some_iff.1 hv).1
  have : j = 0 ∨ j = 1 ∨ j = 2 ∨ j = 3 ∨ j = 4 ∨ j = 5 := by omega
  rcases this with rfl | rfl | rfl | rfl | rfl | rfl <;> (obtain rfl := Option.some.inj hv; rfl)
def UqSh : Rd Nat := fun ok w cs d => ∃ (A0 : Option Addr) (n0 c0 : Nat) (m0 : List Nat), cs = [.slice A0 n0 c0] ∧ (True) ∧ Sl (ShF 1) 1 ok w A0 n0 m0 ∧ (n0 ≤ 1048576) ∧ d = m0.sum
theorem UqSh.keeps : KStays UqSh := by
  intro ok B E w w' cs cs' d hR hk hl hc
  obtain ⟨A0, n0, c0, m0, rfl, -, h0, hcp, hd⟩ := hR
  match cs', hl with
  | [x0], _ =>
    obtain ⟨y0, e0, s0, t0⟩ := hc 0 _ rfl
    obtain rfl : x0 = y0 := Option.some.inj e0
    obtain rfl := s0 rfl
    exact ⟨A0, n0, c0, m0, rfl, trivial, h0.shape (ShF.keeps 1) hk, hcp, hd⟩
def Uq.cnt (x : Uq) : Nat := (x.cols.map (fun _ : Int => 1)).sum
theorem Uq.toSh : ∀ (ok : Nat → Prop) (w : World) (cs : List Value) (x : Uq), x.sz ≤ 1048576 → UqR ok w cs x → UqSh ok w cs x.cnt := fun _ _ _ x hs ⟨A0, n0, c0, e, h0, _⟩ =>
  ⟨A0, n0, c0, _, e, trivial, h0.toSh Int.toSh (fun _ _ => trivial), (by have h1 := h0.1; unfold Uq.sz at hs; (try simp only [szL] at hs); omega), rfl⟩
theorem Uq.cnt_le (x : Uq) : x.cnt ≤ 6 * (x.sz + 1) := by
  unfold Uq.cnt Uq.sz
  have z0 : (x.cols.map (fun _ : Int => 1)).sum = x.cols.length := sum_ones _
  omega

def CkSh : Rd Nat := fun ok w cs d => ∃ (A0 : Option Addr) (n0 c0 : Nat) (m0 : List Nat), cs = [.slice A0 n0 c0] ∧ (True) ∧ Sl (ShF 5) 5 ok w A0 n0 m0 ∧ (n0 ≤ 1048576) ∧ d = m0.sum
theorem CkSh.keeps : KStays CkSh := by
  intro ok B E w w' cs cs' d hR hk hl hc
  obtain ⟨A0, n0, c0, m0, rfl, -, h0, hcp, hd⟩ := hR
  match cs', hl with
  | [x0], _ =>
    obtain ⟨y0, e0, s0, t0⟩ := hc 0 _ rfl
    obtain rfl : x0 = y0 := Option.some.inj e0
    obtain rfl := s0 rfl
    exact ⟨A0, n0, c0, m0, rfl, trivial, h0.shape (ShF.keeps 5) hk, hcp, hd⟩
def Ck.cnt (x : Ck) : Nat := (x.expr.map (fun _ : Tk => 5)).sum
theorem Ck.toSh : ∀ (ok : Nat → Prop) (w : World) (cs : List Value) (x : Ck), x.sz ≤ 1048576 → CkR ok w cs x → CkSh ok w cs x.cnt := fun _ _ _ x hs ⟨A0, n0, c0, e, h0, _⟩ =>
  ⟨A0, n0, c0, _, e, trivial, h0.toSh Tk.toSh (fun _ _ => trivial), (by have h1 := h0.1; unfold Ck.sz at hs; (try simp only [szL] at hs); omega), rfl⟩
theorem Ck.cnt_le (x : Ck) : x.cnt ≤ 6 * (x.sz + 1) := by
  unfold Ck.cnt Ck.sz
  have z0 := sum_le_of (f := (fun _ : Tk => 5)) (g := fun t : Tk => t.vs.size) 6 (fun _ => by omega) x.expr
  omega

def FkSh : Rd Nat := fun ok w cs d => ∃ (A0 : Option Addr) (n0 c0 : Nat) (m0 : List Nat) (u1 u2 u3 u4 : Value), cs = [.slice A0 n0 c0, u1, u2, u3, u4] ∧ (isSl u1 = false ∧ isSl u2 = false ∧ isSl u3 = false ∧ isSl u4 = false) ∧ Sl (ShF 1) 1 ok w A0 n0 m0 ∧ (n0 ≤ 1048576) ∧ d = 4 + m0.sum
theorem FkSh.keeps : KStays FkSh := by
  intro ok B E w w' cs cs' d hR hk hl hc
  obtain ⟨A0, n0, c0, m0, u1, u2, u3, u4, rfl, ⟨g1, g2, g3, g4⟩, h0, hcp, hd⟩ := hR
  match cs', hl with
  | [x0, x1, x2, x3, x4], _ =>
    obtain ⟨y0, e0, s0, t0⟩ := hc 0 _ rfl
    obtain rfl : x0 = y0 := Option.some.inj e0
    obtain ⟨y1, e1, s1, t1⟩ := hc 1 _ rfl
    obtain rfl : x1 = y1 := Option.some.inj e1
    obtain ⟨y2, e2, s2, t2⟩ := hc 2 _ rfl
    obtain rfl : x2 = y2 := Option.some.inj e2
    obtain ⟨y3, e3, s3, t3⟩ := hc 3 _ rfl
    obtain rfl : x3 = y3 := Option.some.inj e3
    obtain ⟨y4, e4, s4, t4⟩ := hc 4 _ rfl
    obtain rfl : x4 = y4 := Option.some.inj e4
    obtain rfl := s0 rfl
    exact ⟨A0, n0, c0, m0, x1, x2, x3, x4, rfl, ⟨t1.trans g1, t2.trans g2, t3.trans g3, t4.trans g4⟩, h0.shape (ShF.keeps 1) hk, hcp, hd⟩
def Fk.cnt (x : Fk) : Nat := 4 + (x.cols.map (fun _ : Int => 1)).sum
theorem Fk.toSh : ∀ (ok : Nat → Prop) (w : World) (cs : List Value) (x : Fk), x.sz ≤ 1048576 → FkR ok w cs x → FkSh ok w cs x.cnt := fun _ _ _ x hs ⟨A0, n0, c0, e, h0, _⟩ =>
  ⟨A0, n0, c0, _, _, _, _, _, e, ⟨rfl, rfl, rfl, rfl⟩, h0.toSh Int.toSh (fun _ _ => trivial), (by have h1 := h0.1; unfold Fk.sz at hs; (try simp only [szL] at hs); omega), rfl⟩
theorem Fk.cnt_le (x : Fk) : x.cnt ≤ 6 * (x.sz + 1) := by
  unfold Fk.cnt Fk.sz
  have z0 : (x.cols.map (fun _ : Int => 1)).sum = x.cols.length := sum_ones _
  omega

def TbSh : Rd Nat := fun ok w cs d => ∃ (A1 : Option Addr) (n1 c1 : Nat) (m1 : List Nat) (A2 : Option Addr) (n2 c2 : Nat) (m2 : List Nat) (A3 : Option Addr) (n3 c3 : Nat) (m3 : List Nat) (A4 : Option Addr) (n4 c4 : Nat) (m4 : List Nat) (A5 : Option Addr) (n5 c5 : Nat) (m5 : List Nat) (u0 : Value), cs = [u0, .slice A1 n1 c1, .slice A2 n2 c2, .slice A3 n3 c3, .slice A4 n4 c4, .slice A5 n5 c5] ∧ (isSl u0 = false) ∧ Sl (ShF 6) 6 ok w A1 n1 m1 ∧ Sl (ShF 1) 1 ok w A2 n2 m2 ∧ Sl UqSh 1 ok w A3 n3 m3 ∧ Sl CkSh 1 ok w A4 n4 m4 ∧ Sl FkSh 5 ok w A5 n5 m5 ∧ (n1 ≤ 1048576 ∧ n2 ≤ 1048576 ∧ n3 ≤ 1048576 ∧ n4 ≤ 1048576 ∧ n5 ≤ 1048576) ∧ d = 1 + m1.sum + m2.sum + m3.sum + m4.sum + m5.sum
theorem TbSh.keeps : KStays TbSh := by
  intro ok B E w w' cs cs' d hR hk hl hc
  obtain ⟨A1, n1, c1, m1, A2, n2, c2, m2, A3, n3, c3, m3, A4, n4, c4, m4, A5, n5, c5, m5, u0, rfl, g0, h1, h2, h3, h4, h5, hcp, hd⟩ := hR
  match cs', hl with
  | [x0, x1, x2, x3, x4, x5], _ =>
    obtain ⟨y0, e0, s0, t0⟩ := hc 0 _ rfl
    obtain rfl : x0 = y0 := Option.some.inj e0
    obtain ⟨y1, e1, s1, t1⟩ := hc 1 _ rfl
    obtain rfl : x1 = y1 := Option.some.inj e1
    obtain ⟨y2, e2, s2, t2⟩ := hc 2 _ rfl
    obtain rfl : x2 = y2 := Option.some.inj e2
    obtain ⟨y3, e3, s3, t3⟩ := hc 3 _ rfl
    obtain rfl : x3 = y3 := Option.some.inj e3
    obtain ⟨y4, e4, s4, t4⟩ := hc 4 _ rfl
    obtain rfl : x4 = y4 := Option.some.inj e4
    obtain ⟨y5, e5, s5, t5⟩ := hc 5 _ rfl
    obtain rfl : x5 = y5 := Option.some.inj e5
    obtain rfl := s1 rfl
    obtain rfl := s2 rfl
    obtain rfl := s3 rfl
    obtain rfl := s4 rfl
    obtain rfl := s5 rfl
    exact ⟨A1, n1, c1, m1, A2, n2, c2, m2, A3, n3, c3, m3, A4, n4, c4, m4, A5, n5, c5, m5, x0, rfl, t0.trans g0, h1.shape (ShF.keeps 6) hk, h2.shape (ShF.keeps 1) hk, h3.shape UqSh.keeps hk, h4.shape CkSh.keeps hk, h5.shape FkSh.keeps hk, hcp, hd⟩
def Tb.cnt (x : Tb) : Nat := 1 + (x.cols.map (fun _ : Cl => 6)).sum + (x.key.map (fun _ : Int => 1)).sum + (x.uniqs.map Uq.cnt).sum + (x.checks.map Ck.cnt).sum + (x.fks.map Fk.cnt).sum
theorem Tb.toSh : ∀ (ok : Nat → Prop) (w : World) (cs : List Value) (x : Tb), x.sz ≤ 1048576 → TbR ok w cs x → TbSh ok w cs x.cnt := fun _ _ _ x hs ⟨A1, n1, c1, A2, n2, c2, A3, n3, c3, A4, n4, c4, A5, n5, c5, e, h1, h2, h3, h4, h5, _⟩ =>
  ⟨A1, n1, c1, _, A2, n2, c2, _, A3, n3, c3, _, A4, n4, c4, _, A5, n5, c5, _, _, e, rfl, h1.toSh Cl.toSh (fun _ _ => trivial), h2.toSh Int.toSh (fun _ _ => trivial), h3.toSh Uq.toSh (fun y hy => by have h1 := szL_mem Uq.sz x.uniqs y hy; unfold Tb.sz at hs; omega), h4.toSh Ck.toSh (fun y hy => by have h1 := szL_mem Ck.sz x.checks y hy; unfold Tb.sz at hs; omega), h5.toSh Fk.toSh (fun y hy => by have h1 := szL_mem Fk.sz x.fks y hy; unfold Tb.sz at hs; omega), ⟨(by have h1 := h1.1; unfold Tb.sz at hs; (try simp only [szL] at hs); omega), (by have h1 := h2.1; unfold Tb.sz at hs; (try simp only [szL] at hs); omega), (by have h1 := h3.1; unfold Tb.sz at hs; (try simp only [szL] at hs); omega), (by have h1 := h4.1; unfold Tb.sz at hs; (try simp only [szL] at hs); omega), (by have h1 := h5.1; unfold Tb.sz at hs; (try simp only [szL] at hs); omega)⟩, rfl⟩
theorem Tb.cnt_le (x : Tb) : x.cnt ≤ 6 * (x.sz + 1) := by
  unfold Tb.cnt Tb.sz
  have z1 := sum_le_of (f := (fun _ : Cl => 6)) (g := Cl.sz) 6 (fun _ => by omega) x.cols
  have z2 : (x.key.map (fun _ : Int => 1)).sum = x.key.length := sum_ones _
  have z3 := sum_le_of (f := Uq.cnt) (g := Uq.sz) 6 Uq.cnt_le x.uniqs
  have z4 := sum_le_of (f := Ck.cnt) (g := Ck.sz) 6 Ck.cnt_le x.checks
  have z5 := sum_le_of (f := Fk.cnt) (g := Fk.sz) 6 Fk.cnt_le x.fks
  omega

def RwSh : Rd Nat := fun ok w cs d => ∃ (A1 : Option Addr) (n1 c1 : Nat) (m1 : List Nat) (u0 : Value), cs = [u0, .slice A1 n1 c1] ∧ (isSl u0 = false) ∧ Sl (ShF 3) 3 ok w A1 n1 m1 ∧ (n1 ≤ 1048576) ∧ d = 1 + m1.sum
theorem RwSh.keeps : KStays RwSh := by
  intro ok B E w w' cs cs' d hR hk hl hc
  obtain ⟨A1, n1, c1, m1, u0, rfl, g0, h1, hcp, hd⟩ := hR
  match cs', hl with
  | [x0, x1], _ =>
    obtain ⟨y0, e0, s0, t0⟩ := hc 0 _ rfl
    obtain rfl : x0 = y0 := Option.some.inj e0
    obtain ⟨y1, e1, s1, t1⟩ := hc 1 _ rfl
    obtain rfl : x1 = y1 := Option.some.inj e1
    obtain rfl := s1 rfl
    exact ⟨A1, n1, c1, m1, x0, rfl, t0.trans g0, h1.shape (ShF.keeps 3) hk, hcp, hd⟩
def Rw.cnt (x : Rw) : Nat := 1 + (x.vals.map (fun _ : Vl => 3)).sum
theorem Rw.toSh : ∀ (ok : Nat → Prop) (w : World) (cs : List Value) (x : Rw), x.sz ≤ 1048576 → RwR ok w cs x → RwSh ok w cs x.cnt := fun _ _ _ x hs ⟨A1, n1, c1, e, h1, _⟩ =>
  ⟨A1, n1, c1, _, _, e, rfl, h1.toSh Vl.toSh (fun _ _ => trivial), (by have h1 := h1.1; unfold Rw.sz at hs; (try simp only [szL] at hs); omega), rfl⟩
theorem Rw.cnt_le (x : Rw) : x.cnt ≤ 6 * (x.sz + 1) := by
  unfold Rw.cnt Rw.sz
  have z1 := sum_le_of (f := (fun _ : Vl => 3)) (g := fun v : Vl => v.s.size) 6 (fun _ => by omega) x.vals
  omega

def DtSh : Rd Nat := fun ok w cs d => ∃ (A0 : Option Addr) (n0 c0 : Nat) (m0 : List Nat), cs = [.slice A0 n0 c0] ∧ (True) ∧ Sl RwSh 2 ok w A0 n0 m0 ∧ (n0 ≤ 1048576) ∧ d = m0.sum
theorem DtSh.keeps : KStays DtSh := by
  intro ok B E w w' cs cs' d hR hk hl hc
  obtain ⟨A0, n0, c0, m0, rfl, -, h0, hcp, hd⟩ := hR
  match cs', hl with
  | [x0], _ =>
    obtain ⟨y0, e0, s0, t0⟩ := hc 0 _ rfl
    obtain rfl : x0 = y0 := Option.some.inj e0
    obtain rfl := s0 rfl
    exact ⟨A0, n0, c0, m0, rfl, trivial, h0.shape RwSh.keeps hk, hcp, hd⟩
def Dt.cnt (x : Dt) : Nat := (x.rows.map Rw.cnt).sum
theorem Dt.toSh : ∀ (ok : Nat → Prop) (w : World) (cs : List Value) (x : Dt), x.sz ≤ 1048576 → DtR ok w cs x → DtSh ok w cs x.cnt := fun _ _ _ x hs ⟨A0, n0, c0, e, h0, _⟩ =>
  ⟨A0, n0, c0, _, e, trivial, h0.toSh Rw.toSh (fun y hy => by have h1 := szL_mem Rw.sz x.rows y hy; unfold Dt.sz at hs; omega), (by have h1 := h0.1; unfold Dt.sz at hs; (try simp only [szL] at hs); omega), rfl⟩
theorem Dt.cnt_le (x : Dt) : x.cnt ≤ 6 * (x.sz + 1) := by
  unfold Dt.cnt Dt.sz
  have z0 := sum_le_of (f := Rw.cnt) (g := Rw.sz) 6 Rw.cnt_le x.rows
  omega

def SeSh : Rd Nat := fun ok w cs d => ∃ (A1 : Option Addr) (n1 c1 : Nat) (m1 : List Nat) (u0 : Value), cs = [u0, .slice A1 n1 c1] ∧ (isSl u0 = false) ∧ Sl (ShF 5) 5 ok w A1 n1 m1 ∧ (n1 ≤ 1048576) ∧ d = 1 + m1.sum
theorem SeSh.keeps : KStays SeSh := by
  intro ok B E w w' cs cs' d hR hk hl hc
  obtain ⟨A1, n1, c1, m1, u0, rfl, g0, h1, hcp, hd⟩ := hR
  match cs', hl with
  | [x0, x1], _ =>
    obtain ⟨y0, e0, s0, t0⟩ := hc 0 _ rfl
    obtain rfl : x0 = y0 := Option.some.inj e0
    obtain ⟨y1, e1, s1, t1⟩ := hc 1 _ rfl
    obtain rfl : x1 = y1 := Option.some.inj e1
    obtain rfl := s1 rfl
    exact ⟨A1, n1, c1, m1, x0, rfl, t0.trans g0, h1.shape (ShF.keeps 5) hk, hcp, hd⟩
def Se.cnt (x : Se) : Nat := 1 + (x.expr.map (fun _ : Tk => 5)).sum
theorem Se.toSh : ∀ (ok : Nat → Prop) (w : World) (cs : List Value) (x : Se), x.sz ≤ 1048576 → SeR ok w cs x → SeSh ok w cs x.cnt := fun _ _ _ x hs ⟨A1, n1, c1, e, h1, _⟩ =>
  ⟨A1, n1, c1, _, _, e, rfl, h1.toSh Tk.toSh (fun _ _ => trivial), (by have h1 := h1.1; unfold Se.sz at hs; (try simp only [szL] at hs); omega), rfl⟩
theorem Se.cnt_le (x : Se) : x.cnt ≤ 6 * (x.sz + 1) := by
  unfold Se.cnt Se.sz
  have z1 := sum_le_of (f := (fun _ : Tk => 5)) (g := fun t : Tk => t.vs.size) 6 (fun _ => by omega) x.expr
  omega

def SqSh : Rd Nat := fun ok w cs d => ∃ (A2 : Option Addr) (n2 c2 : Nat) (m2 : List Nat) (A3 : Option Addr) (n3 c3 : Nat) (m3 : List Nat) (A4 : Option Addr) (n4 c4 : Nat) (m4 : List Nat) (u0 u1 u5 : Value), cs = [u0, u1, .slice A2 n2 c2, .slice A3 n3 c3, .slice A4 n4 c4, u5] ∧ (isSl u0 = false ∧ isSl u1 = false ∧ isSl u5 = false) ∧ Sl RwSh 2 ok w A2 n2 m2 ∧ Sl (ShF 5) 5 ok w A3 n3 m3 ∧ Sl SeSh 2 ok w A4 n4 m4 ∧ (n2 ≤ 1048576 ∧ n3 ≤ 1048576 ∧ n4 ≤ 1048576) ∧ d = 3 + m2.sum + m3.sum + m4.sum
theorem SqSh.keeps : KStays SqSh := by
  intro ok B E w w' cs cs' d hR hk hl hc
  obtain ⟨A2, n2, c2, m2, A3, n3, c3, m3, A4, n4, c4, m4, u0, u1, u5, rfl, ⟨g0, g1, g5⟩, h2, h3, h4, hcp, hd⟩ := hR
  match cs', hl with
  | [x0, x1, x2, x3, x4, x5], _ =>
    obtain ⟨y0, e0, s0, t0⟩ := hc 0 _ rfl
    obtain rfl : x0 = y0 := Option.some.inj e0
    obtain ⟨y1, e1, s1, t1⟩ := hc 1 _ rfl
    obtain rfl : x1 = y1 := Option.some.inj e1
    obtain ⟨y2, e2, s2, t2⟩ := hc 2 _ rfl
    obtain rfl : x2 = y2 := Option.some.inj e2
    obtain ⟨y3, e3, s3, t3⟩ := hc 3 _ rfl
    obtain rfl : x3 = y3 := Option.some.inj e3
    obtain ⟨y4, e4, s4, t4⟩ := hc 4 _ rfl
    obtain rfl : x4 = y4 := Option.some.inj e4
    obtain ⟨y5, e5, s5, t5⟩ := hc 5 _ rfl
    obtain rfl : x5 = y5 := Option.some.inj e5
    obtain rfl := s2 rfl
    obtain rfl := s3 rfl
    obtain rfl := s4 rfl
    exact ⟨A2, n2, c2, m2, A3, n3, c3, m3, A4, n4, c4, m4, x0, x1, x5, rfl, ⟨t0.trans g0, t1.trans g1, t5.trans g5⟩, h2.shape RwSh.keeps hk, h3.shape (ShF.keeps 5) hk, h4.shape SeSh.keeps hk, hcp, hd⟩
def Sq.cnt (x : Sq) : Nat := 3 + (x.rows.map Rw.cnt).sum + (x.wher.map (fun _ : Tk => 5)).sum + (x.sets.map Se.cnt).sum
theorem Sq.toSh : ∀ (ok : Nat → Prop) (w : World) (cs : List Value) (x : Sq), x.sz ≤ 1048576 → SqR ok w cs x → SqSh ok w cs x.cnt := fun _ _ _ x hs ⟨A2, n2, c2, A3, n3, c3, A4, n4, c4, e, h2, h3, h4, _⟩ =>
  ⟨A2, n2, c2, _, A3, n3, c3, _, A4, n4, c4, _, _, _, _, e, ⟨rfl, rfl, rfl⟩, h2.toSh Rw.toSh (fun y hy => by have h1 := szL_mem Rw.sz x.rows y hy; unfold Sq.sz at hs; omega), h3.toSh Tk.toSh (fun _ _ => trivial), h4.toSh Se.toSh (fun y hy => by have h1 := szL_mem Se.sz x.sets y hy; unfold Sq.sz at hs; omega), ⟨(by have h1 := h2.1; unfold Sq.sz at hs; (try simp only [szL] at hs); omega), (by have h1 := h3.1; unfold Sq.sz at hs; (try simp only [szL] at hs); omega), (by have h1 := h4.1; unfold Sq.sz at hs; (try simp only [szL] at hs); omega)⟩, rfl⟩
theorem Sq.cnt_le (x : Sq) : x.cnt ≤ 6 * (x.sz + 1) := by
  unfold Sq.cnt Sq.sz
  have z2 := sum_le_of (f := Rw.cnt) (g := Rw.sz) 6 Rw.cnt_le x.rows
  have z3 := sum_le_of (f := (fun _ : Tk => 5)) (g := fun t : Tk => t.vs.size) 6 (fun _ => by omega) x.wher
  have z4 := sum_le_of (f := Se.cnt) (g := Se.sz) 6 Se.cnt_le x.sets
  omega

set_option maxRecDepth 100000 in
set_option maxHeartbeats 1000000 in
theorem marksIntL (A : Option Addr) (n c : Nat) (ms : List Nat) (ok : Nat → Prop) (B E k : Nat) (w : World) (h : Sl (ShF 1) 1 ok w A n ms) (hm : mayMark B E w ok) (hk : k + ms.sum ≤ 1073741824) (hn : n ≤ 1048576) {x : Int} (hx : x = k) :
    Calls Tryz.prog 25 #[.slice A n c, .int .i64 x] w fun e w' => e = .returned (.int .i64 ((k + ms.sum : Nat) : Int)) ∧ Kept B E w w' := by
  obtain rfl : ms.length = n := h.1
  subst hx
  go_enter Tryz.func25, Tryz.ntmps25
  go_wp2_with fail
  go_loopw [1, 5] (fun m i wr => ∃ (j t : Nat), j ≤ ms.length ∧ i = .int .i64 j ∧ m = .int .i64 ((k + t : Nat) : Int) ∧ Hid ((ms.take j).sum = t) ∧ Kept B E w wr) (fun _ i _ => ms.length - (intOf i).toNat)
  case atStart => exact ⟨0, 0, by omega, rfl, by simp, Lib.hid (by simp), Kept.refl _ _ _⟩
  case round =>
    obtain ⟨i, t, hi, rfl, rfl, ht, hK⟩ := hrel
    by_cases hlt : i < ms.length
    · have hsh := h.shape (ShF.keeps 1) hK
      have hmm := hm.kept hK
      obtain ⟨b, off, rfl, hob, hcs⟩ := hsh.2 (by omega)
      obtain ⟨cs, hcl, hR, hg⟩ := hcs i hlt
      have hst := sum_take_n ms i hlt
      have hsl := sum_take_n_le ms (i + 1)
      rw [ht.out] at hst
      obtain ⟨hB, hE, -, hfr⟩ := hmm b hob
      obtain ⟨u0, rfl⟩ : ∃ u0, cs = [u0] := by
        have h0 := hR.1
        match cs, h0 with
        | [x0], _ => exact ⟨x0, rfl⟩
      have g0 : isSl u0 = false := hR.2.1 0 _ rfl
      have hd : ms[i] = 1 := hR.2.2
      have q0 : wr.cell? ⟨b, off + i, none⟩ = some (u0) := by have := hg 0 _ rfl; rwa [Nat.mul_one] at this
      have hle : k + t + (1) ≤ 1073741824 := by omega
      have HD := Lib.hid hd
      have HST := Lib.hid hst
      clear hd hst hsl
      have f0 := hfr (off + i)
      have Q0 := Lib.hid q0
      have G0 := Lib.hid g0
      have HB := Lib.hid hB
      have HE := Lib.hid hE
      have HR := Lib.hid hfr
      have HO := Lib.hid hob
      clear hsh hcs hg hR hB hE hfr g0
      have HMM := Lib.hid hmm
      clear hmm
      go_wp2_with fail
      go_roundw
      case rel => exact ⟨i + 1, t + ms[i], by omega, by go_num, by rw [HD.out]; go_num, Lib.hid HST.out, hK.trans (by refine Kept.set ?_ Q0.out G0.out HB.out HE.out rfl; exact Kept.refl B E wr)⟩
      case measure => simp [intOf]; omega
    · obtain rfl : i = ms.length := by omega
      have e := ht.out
      rw [List.take_of_length_le (Nat.le_refl _)] at e
      have HT := Lib.hid e
      clear e ht
      go_wp2_with fail
      go_ret
      exact ⟨retI (by rw [HT.out]), hK⟩

set_option maxRecDepth 100000 in
set_option maxHeartbeats 1000000 in
theorem marksTokL (A : Option Addr) (n c : Nat) (ms : List Nat) (ok : Nat → Prop) (B E k : Nat) (w : World) (h : Sl (ShF 5) 5 ok w A n ms) (hm : mayMark B E w ok) (hk : k + ms.sum ≤ 1073741824) (hn : n ≤ 1048576) {x : Int} (hx : x = k) :
    Calls Tryz.prog 24 #[.slice A n c, .int .i64 x] w fun e w' => e = .returned (.int .i64 ((k + ms.sum : Nat) : Int)) ∧ Kept B E w w' := by
  obtain rfl : ms.length = n := h.1
  subst hx
  go_enter Tryz.func24, Tryz.ntmps24
  go_wp2_with fail
  go_loopw [1, 5] (fun m i wr => ∃ (j t : Nat), j ≤ ms.length ∧ i = .int .i64 j ∧ m = .int .i64 ((k + t : Nat) : Int) ∧ Hid ((ms.take j).sum = t) ∧ Kept B E w wr) (fun _ i _ => ms.length - (intOf i).toNat)
  case atStart => exact ⟨0, 0, by omega, rfl, by simp, Lib.hid (by simp), Kept.refl _ _ _⟩
  case round =>
    obtain ⟨i, t, hi, rfl, rfl, ht, hK⟩ := hrel
    by_cases hlt : i < ms.length
    · have hsh := h.shape (ShF.keeps 5) hK
      have hmm := hm.kept hK
      obtain ⟨b, off, rfl, hob, hcs⟩ := hsh.2 (by omega)
      obtain ⟨cs, hcl, hR, hg⟩ := hcs i hlt
      have hst := sum_take_n ms i hlt
      have hsl := sum_take_n_le ms (i + 1)
      rw [ht.out] at hst
      obtain ⟨hB, hE, -, hfr⟩ := hmm b hob
      obtain ⟨u0, u1, u2, u3, u4, rfl⟩ : ∃ u0 u1 u2 u3 u4, cs = [u0, u1, u2, u3, u4] := by
        have h0 := hR.1
        match cs, h0 with
        | [x0, x1, x2, x3, x4], _ => exact ⟨x0, x1, x2, x3, x4, rfl⟩
      have g0 : isSl u0 = false := hR.2.1 0 _ rfl
      have g1 : isSl u1 = false := hR.2.1 1 _ rfl
      have g2 : isSl u2 = false := hR.2.1 2 _ rfl
      have g3 : isSl u3 = false := hR.2.1 3 _ rfl
      have g4 : isSl u4 = false := hR.2.1 4 _ rfl
      have hd : ms[i] = 5 := hR.2.2
      have q0 : wr.cell? ⟨b, off + i * 5, none⟩ = some (u0) := hg 0 _ rfl
      have q1 : wr.cell? ⟨b, off + i * 5 + 1, none⟩ = some (u1) := hg 1 _ rfl
      have q2 : wr.cell? ⟨b, off + i * 5 + 2, none⟩ = some (u2) := hg 2 _ rfl
      have q3 : wr.cell? ⟨b, off + i * 5 + 3, none⟩ = some (u3) := hg 3 _ rfl
      have q4 : wr.cell? ⟨b, off + i * 5 + 4, none⟩ = some (u4) := hg 4 _ rfl
      have hle : k + t + (5) ≤ 1073741824 := by omega
      have HD := Lib.hid hd
      have HST := Lib.hid hst
      clear hd hst hsl
      have f0 := hfr (off + i * 5)
      have f1 := hfr (off + i * 5 + 1)
      have f2 := hfr (off + i * 5 + 2)
      have f3 := hfr (off + i * 5 + 3)
      have f4 := hfr (off + i * 5 + 4)
      have Q0 := Lib.hid q0
      have Q1 := Lib.hid q1
      have Q2 := Lib.hid q2
      have Q3 := Lib.hid q3
      have Q4 := Lib.hid q4
      have G0 := Lib.hid g0
      have G1 := Lib.hid g1
      have G2 := Lib.hid g2
      have G3 := Lib.hid g3
      have G4 := Lib.hid g4
      have HB := Lib.hid hB
      have HE := Lib.hid hE
      have HR := Lib.hid hfr
      have HO := Lib.hid hob
      clear hsh hcs hg hR hB hE hfr g0 g1 g2 g3 g4
      have HMM := Lib.hid hmm
      clear hmm
      go_wp2_with fail
      refine (lawsMarkText (k + t + 4) _ (by omega) (by omega)).mono ?_
      rintro e w1 ⟨rfl, hb1⟩
      have hk1 : Kept B E wr w1 := by refine (Kept.below hb1).after ?_; refine Kept.set ?_ Q3.out G3.out HB.out HE.out rfl; refine Kept.set ?_ Q2.out G2.out HB.out HE.out rfl; refine Kept.set ?_ Q1.out G1.out HB.out HE.out rfl; refine Kept.set ?_ Q0.out G0.out HB.out HE.out rfl; exact Kept.refl B E wr
      obtain ⟨v1_0, z1_0, -, -⟩ := hk1.cell _ _ Q0.out
      have k1_0 := (HMM.out.kept hk1 b HO.out).2.2.2 (off + i * 5)
      obtain ⟨v1_1, z1_1, -, -⟩ := hk1.cell _ _ Q1.out
      have k1_1 := (HMM.out.kept hk1 b HO.out).2.2.2 (off + i * 5 + 1)
      obtain ⟨v1_2, z1_2, -, -⟩ := hk1.cell _ _ Q2.out
      have k1_2 := (HMM.out.kept hk1 b HO.out).2.2.2 (off + i * 5 + 2)
      obtain ⟨v1_3, z1_3, -, -⟩ := hk1.cell _ _ Q3.out
      have k1_3 := (HMM.out.kept hk1 b HO.out).2.2.2 (off + i * 5 + 3)
      obtain ⟨v1_4, z1_4, -, -⟩ := hk1.cell _ _ Q4.out
      have k1_4 := (HMM.out.kept hk1 b HO.out).2.2.2 (off + i * 5 + 4)
      clear q0 q1 q2 q3 q4 f0 f1 f2 f3 f4
      go_wp2_with fail
      go_roundw
      case rel => exact ⟨i + 1, t + ms[i], by omega, by go_num, by rw [HD.out]; go_num, Lib.hid HST.out, hK.trans (by refine Kept.set ?_ Q4.out G4.out HB.out HE.out rfl; exact hk1)⟩
      case measure => simp [intOf]; omega
    · obtain rfl : i = ms.length := by omega
      have e := ht.out
      rw [List.take_of_length_le (Nat.le_refl _)] at e
      have HT := Lib.hid e
      clear e ht
      go_wp2_with fail
      go_ret
      exact ⟨retI (by rw [HT.out]), hK⟩

set_option maxRecDepth 100000 in
set_option maxHeartbeats 1000000 in
theorem marksValL (A : Option Addr) (n c : Nat) (ms : List Nat) (ok : Nat → Prop) (B E k : Nat) (w : World) (h : Sl (ShF 3) 3 ok w A n ms) (hm : mayMark B E w ok) (hk : k + ms.sum ≤ 1073741824) (hn : n ≤ 1048576) {x : Int} (hx : x = k) :
    Calls Tryz.prog 102 #[.slice A n c, .int .i64 x] w fun e w' => e = .returned (.int .i64 ((k + ms.sum : Nat) : Int)) ∧ Kept B E w w' := by
  obtain rfl : ms.length = n := h.1
  subst hx
  go_enter Tryz.func102, Tryz.ntmps102
  go_wp2_with fail
  go_loopw [1, 5] (fun m i wr => ∃ (j t : Nat), j ≤ ms.length ∧ i = .int .i64 j ∧ m = .int .i64 ((k + t : Nat) : Int) ∧ Hid ((ms.take j).sum = t) ∧ Kept B E w wr) (fun _ i _ => ms.length - (intOf i).toNat)
  case atStart => exact ⟨0, 0, by omega, rfl, by simp, Lib.hid (by simp), Kept.refl _ _ _⟩
  case round =>
    obtain ⟨i, t, hi, rfl, rfl, ht, hK⟩ := hrel
    by_cases hlt : i < ms.length
    · have hsh := h.shape (ShF.keeps 3) hK
      have hmm := hm.kept hK
      obtain ⟨b, off, rfl, hob, hcs⟩ := hsh.2 (by omega)
      obtain ⟨cs, hcl, hR, hg⟩ := hcs i hlt
      have hst := sum_take_n ms i hlt
      have hsl := sum_take_n_le ms (i + 1)
      rw [ht.out] at hst
      obtain ⟨hB, hE, -, hfr⟩ := hmm b hob
      obtain ⟨u0, u1, u2, rfl⟩ : ∃ u0 u1 u2, cs = [u0, u1, u2] := by
        have h0 := hR.1
        match cs, h0 with
        | [x0, x1, x2], _ => exact ⟨x0, x1, x2, rfl⟩
      have g0 : isSl u0 = false := hR.2.1 0 _ rfl
      have g1 : isSl u1 = false := hR.2.1 1 _ rfl
      have g2 : isSl u2 = false := hR.2.1 2 _ rfl
      have hd : ms[i] = 3 := hR.2.2
      have q0 : wr.cell? ⟨b, off + i * 3, none⟩ = some (u0) := hg 0 _ rfl
      have q1 : wr.cell? ⟨b, off + i * 3 + 1, none⟩ = some (u1) := hg 1 _ rfl
      have q2 : wr.cell? ⟨b, off + i * 3 + 2, none⟩ = some (u2) := hg 2 _ rfl
      have hle : k + t + (3) ≤ 1073741824 := by omega
      have HD := Lib.hid hd
      have HST := Lib.hid hst
      clear hd hst hsl
      have f0 := hfr (off + i * 3)
      have f1 := hfr (off + i * 3 + 1)
      have f2 := hfr (off + i * 3 + 2)
      have Q0 := Lib.hid q0
      have Q1 := Lib.hid q1
      have Q2 := Lib.hid q2
      have G0 := Lib.hid g0
      have G1 := Lib.hid g1
      have G2 := Lib.hid g2
      have HB := Lib.hid hB
      have HE := Lib.hid hE
      have HR := Lib.hid hfr
      have HO := Lib.hid hob
      clear hsh hcs hg hR hB hE hfr g0 g1 g2
      have HMM := Lib.hid hmm
      clear hmm
      go_wp2_with fail
      refine (lawsMarkText (k + t + 2) _ (by omega) (by omega)).mono ?_
      rintro e w1 ⟨rfl, hb1⟩
      have hk1 : Kept B E wr w1 := by refine (Kept.below hb1).after ?_; refine Kept.set ?_ Q1.out G1.out HB.out HE.out rfl; refine Kept.set ?_ Q0.out G0.out HB.out HE.out rfl; exact Kept.refl B E wr
      obtain ⟨v1_0, z1_0, -, -⟩ := hk1.cell _ _ Q0.out
      have k1_0 := (HMM.out.kept hk1 b HO.out).2.2.2 (off + i * 3)
      obtain ⟨v1_1, z1_1, -, -⟩ := hk1.cell _ _ Q1.out
      have k1_1 := (HMM.out.kept hk1 b HO.out).2.2.2 (off + i * 3 + 1)
      obtain ⟨v1_2, z1_2, -, -⟩ := hk1.cell _ _ Q2.out
      have k1_2 := (HMM.out.kept hk1 b HO.out).2.2.2 (off + i * 3 + 2)
      clear q0 q1 q2 f0 f1 f2
      go_wp2_with fail
      go_roundw
      case rel => exact ⟨i + 1, t + ms[i], by omega, by go_num, by rw [HD.out]; go_num, Lib.hid HST.out, hK.trans (by refine Kept.set ?_ Q2.out G2.out HB.out HE.out rfl; exact hk1)⟩
      case measure => simp [intOf]; omega
    · obtain rfl : i = ms.length := by omega
      have e := ht.out
      rw [List.take_of_length_le (Nat.le_refl _)] at e
      have HT := Lib.hid e
      clear e ht
      go_wp2_with fail
      go_ret
      exact ⟨retI (by rw [HT.out]), hK⟩

set_option maxRecDepth 100000 in
set_option maxHeartbeats 1000000 in
theorem marksColL (A : Option Addr) (n c : Nat) (ms : List Nat) (ok : Nat → Prop) (B E k : Nat) (w : World) (h : Sl (ShF 6) 6 ok w A n ms) (hm : mayMark B E w ok) (hk : k + ms.sum ≤ 1073741824) (hn : n ≤ 1048576) {x : Int} (hx : x = k) :
    Calls Tryz.prog 57 #[.slice A n c, .int .i64 x] w fun e w' => e = .returned (.int .i64 ((k + ms.sum : Nat) : Int)) ∧ Kept B E w w' := by
  obtain rfl : ms.length = n := h.1
  subst hx
  go_enter Tryz.func57, Tryz.ntmps57
  go_wp2_with fail
  go_loopw [1, 5] (fun m i wr => ∃ (j t : Nat), j ≤ ms.length ∧ i = .int .i64 j ∧ m = .int .i64 ((k + t : Nat) : Int) ∧ Hid ((ms.take j).sum = t) ∧ Kept B E w wr) (fun _ i _ => ms.length - (intOf i).toNat)
  case atStart => exact ⟨0, 0, by omega, rfl, by simp, Lib.hid (by simp), Kept.refl _ _ _⟩
  case round =>
    obtain ⟨i, t, hi, rfl, rfl, ht, hK⟩ := hrel
    by_cases hlt : i < ms.length
    · have hsh := h.shape (ShF.keeps 6) hK
      have hmm := hm.kept hK
      obtain ⟨b, off, rfl, hob, hcs⟩ := hsh.2 (by omega)
      obtain ⟨cs, hcl, hR, hg⟩ := hcs i hlt
      have hst := sum_take_n ms i hlt
      have hsl := sum_take_n_le ms (i + 1)
      rw [ht.out] at hst
      obtain ⟨hB, hE, -, hfr⟩ := hmm b hob
      obtain ⟨u0, u1, u2, u3, u4, u5, rfl⟩ : ∃ u0 u1 u2 u3 u4 u5, cs = [u0, u1, u2, u3, u4, u5] := by
        have h0 := hR.1
        match cs, h0 with
        | [x0, x1, x2, x3, x4, x5], _ => exact ⟨x0, x1, x2, x3, x4, x5, rfl⟩
      have g0 : isSl u0 = false := hR.2.1 0 _ rfl
      have g1 : isSl u1 = false := hR.2.1 1 _ rfl
      have g2 : isSl u2 = false := hR.2.1 2 _ rfl
      have g3 : isSl u3 = false := hR.2.1 3 _ rfl
      have g4 : isSl u4 = false := hR.2.1 4 _ rfl
      have g5 : isSl u5 = false := hR.2.1 5 _ rfl
      have hd : ms[i] = 6 := hR.2.2
      have q0 : wr.cell? ⟨b, off + i * 6, none⟩ = some (u0) := hg 0 _ rfl
      have q1 : wr.cell? ⟨b, off + i * 6 + 1, none⟩ = some (u1) := hg 1 _ rfl
      have q2 : wr.cell? ⟨b, off + i * 6 + 2, none⟩ = some (u2) := hg 2 _ rfl
      have q3 : wr.cell? ⟨b, off + i * 6 + 3, none⟩ = some (u3) := hg 3 _ rfl
      have q4 : wr.cell? ⟨b, off + i * 6 + 4, none⟩ = some (u4) := hg 4 _ rfl
      have q5 : wr.cell? ⟨b, off + i * 6 + 5, none⟩ = some (u5) := hg 5 _ rfl
      have hle : k + t + (6) ≤ 1073741824 := by omega
      have HD := Lib.hid hd
      have HST := Lib.hid hst
      clear hd hst hsl
      have f0 := hfr (off + i * 6)
      have f1 := hfr (off + i * 6 + 1)
      have f2 := hfr (off + i * 6 + 2)
      have f3 := hfr (off + i * 6 + 3)
      have f4 := hfr (off + i * 6 + 4)
      have f5 := hfr (off + i * 6 + 5)
      have Q0 := Lib.hid q0
      have Q1 := Lib.hid q1
      have Q2 := Lib.hid q2
      have Q3 := Lib.hid q3
      have Q4 := Lib.hid q4
      have Q5 := Lib.hid q5
      have G0 := Lib.hid g0
      have G1 := Lib.hid g1
      have G2 := Lib.hid g2
      have G3 := Lib.hid g3
      have G4 := Lib.hid g4
      have G5 := Lib.hid g5
      have HB := Lib.hid hB
      have HE := Lib.hid hE
      have HR := Lib.hid hfr
      have HO := Lib.hid hob
      clear hsh hcs hg hR hB hE hfr g0 g1 g2 g3 g4 g5
      have HMM := Lib.hid hmm
      clear hmm
      go_wp2_with fail
      refine (lawsMarkText (k + t) _ (by omega) (by omega)).mono ?_
      rintro e w1 ⟨rfl, hb1⟩
      have hk1 : Kept B E wr w1 := by refine (Kept.below hb1).after ?_; exact Kept.refl B E wr
      obtain ⟨v1_0, z1_0, -, -⟩ := hk1.cell _ _ Q0.out
      have k1_0 := (HMM.out.kept hk1 b HO.out).2.2.2 (off + i * 6)
      obtain ⟨v1_1, z1_1, -, -⟩ := hk1.cell _ _ Q1.out
      have k1_1 := (HMM.out.kept hk1 b HO.out).2.2.2 (off + i * 6 + 1)
      obtain ⟨v1_2, z1_2, -, -⟩ := hk1.cell _ _ Q2.out
      have k1_2 := (HMM.out.kept hk1 b HO.out).2.2.2 (off + i * 6 + 2)
      obtain ⟨v1_3, z1_3, -, -⟩ := hk1.cell _ _ Q3.out
      have k1_3 := (HMM.out.kept hk1 b HO.out).2.2.2 (off + i * 6 + 3)
      obtain ⟨v1_4, z1_4, -, -⟩ := hk1.cell _ _ Q4.out
      have k1_4 := (HMM.out.kept hk1 b HO.out).2.2.2 (off + i * 6 + 4)
      obtain ⟨v1_5, z1_5, -, -⟩ := hk1.cell _ _ Q5.out
      have k1_5 := (HMM.out.kept hk1 b HO.out).2.2.2 (off + i * 6 + 5)
      clear q0 q1 q2 q3 q4 q5 f0 f1 f2 f3 f4 f5
      go_wp2_with fail
      refine (lawsMarkText (k + t + 5) _ (by omega) (by omega)).mono ?_
      rintro e w2 ⟨rfl, hb2⟩
      have hk2 : Kept B E wr w2 := by refine (Kept.below hb2).after ?_; refine Kept.set ?_ Q4.out G4.out HB.out HE.out rfl; refine Kept.set ?_ Q3.out G3.out HB.out HE.out rfl; refine Kept.set ?_ Q2.out G2.out HB.out HE.out rfl; refine Kept.set ?_ Q1.out G1.out HB.out HE.out rfl; refine Kept.set ?_ Q0.out G0.out HB.out HE.out rfl; exact hk1
      obtain ⟨v2_0, z2_0, -, -⟩ := hk2.cell _ _ Q0.out
      have k2_0 := (HMM.out.kept hk2 b HO.out).2.2.2 (off + i * 6)
      obtain ⟨v2_1, z2_1, -, -⟩ := hk2.cell _ _ Q1.out
      have k2_1 := (HMM.out.kept hk2 b HO.out).2.2.2 (off + i * 6 + 1)
      obtain ⟨v2_2, z2_2, -, -⟩ := hk2.cell _ _ Q2.out
      have k2_2 := (HMM.out.kept hk2 b HO.out).2.2.2 (off + i * 6 + 2)
      obtain ⟨v2_3, z2_3, -, -⟩ := hk2.cell _ _ Q3.out
      have k2_3 := (HMM.out.kept hk2 b HO.out).2.2.2 (off + i * 6 + 3)
      obtain ⟨v2_4, z2_4, -, -⟩ := hk2.cell _ _ Q4.out
      have k2_4 := (HMM.out.kept hk2 b HO.out).2.2.2 (off + i * 6 + 4)
      obtain ⟨v2_5, z2_5, -, -⟩ := hk2.cell _ _ Q5.out
      have k2_5 := (HMM.out.kept hk2 b HO.out).2.2.2 (off + i * 6 + 5)
      clear z1_0 z1_1 z1_2 z1_3 z1_4 z1_5 k1_0 k1_1 k1_2 k1_3 k1_4 k1_5
      go_wp2_with fail
      go_roundw
      case rel => exact ⟨i + 1, t + ms[i], by omega, by go_num, by rw [HD.out]; go_num, Lib.hid HST.out, hK.trans (by refine Kept.set ?_ Q5.out G5.out HB.out HE.out rfl; exact hk2)⟩
      case measure => simp [intOf]; omega
    · obtain rfl : i = ms.length := by omega
      have e := ht.out
      rw [List.take_of_length_le (Nat.le_refl _)] at e
      have HT := Lib.hid e
      clear e ht
      go_wp2_with fail
      go_ret
      exact ⟨retI (by rw [HT.out]), hK⟩

set_option maxRecDepth 100000 in
set_option maxHeartbeats 1000000 in
theorem marksUniqueL (A : Option Addr) (n c : Nat) (ms : List Nat) (ok : Nat → Prop) (B E k : Nat) (w : World) (h : Sl UqSh 1 ok w A n ms) (hm : mayMark B E w ok) (hk : k + ms.sum ≤ 1073741824) (hn : n ≤ 1048576) {x : Int} (hx : x = k) :
    Calls Tryz.prog 58 #[.slice A n c, .int .i64 x] w fun e w' => e = .returned (.int .i64 ((k + ms.sum : Nat) : Int)) ∧ Kept B E w w' := by
  obtain rfl : ms.length = n := h.1
  subst hx
  go_enter Tryz.func58, Tryz.ntmps58
  go_wp2_with fail
  go_loopw [1, 5] (fun m i wr => ∃ (j t : Nat), j ≤ ms.length ∧ i = .int .i64 j ∧ m = .int .i64 ((k + t : Nat) : Int) ∧ Hid ((ms.take j).sum = t) ∧ Kept B E w wr) (fun _ i _ => ms.length - (intOf i).toNat)
  case atStart => exact ⟨0, 0, by omega, rfl, by simp, Lib.hid (by simp), Kept.refl _ _ _⟩
  case round =>
    obtain ⟨i, t, hi, rfl, rfl, ht, hK⟩ := hrel
    by_cases hlt : i < ms.length
    · have hsh := h.shape UqSh.keeps hK
      have hmm := hm.kept hK
      obtain ⟨b, off, rfl, hob, hcs⟩ := hsh.2 (by omega)
      obtain ⟨cs, hcl, hR, hg⟩ := hcs i hlt
      have hst := sum_take_n ms i hlt
      have hsl := sum_take_n_le ms (i + 1)
      rw [ht.out] at hst
      obtain ⟨hB, hE, -, hfr⟩ := hmm b hob
      obtain ⟨A0, n0, c0, m0, rfl, -, h0, hcp, hd⟩ := hR
      have q0 : wr.cell? ⟨b, off + i, none⟩ = some (.slice A0 n0 c0) := by have := hg 0 _ rfl; rwa [Nat.mul_one] at this
      have hle : k + t + (m0.sum) ≤ 1073741824 := by omega
      have HD := Lib.hid hd
      have HST := Lib.hid hst
      clear hd hst hsl
      have Q0 := Lib.hid q0
      have HB := Lib.hid hB
      have HE := Lib.hid hE
      have HR := Lib.hid hfr
      have HO := Lib.hid hob
      have HN0 := Lib.hid (hcp)
      clear hcp
      clear hsh hcs hg hB hE hfr
      have HMM := Lib.hid hmm
      clear hmm
      go_wp2_with fail
      refine (marksIntL A0 n0 c0 m0 ok B E (k + t) _ (h0.shape (ShF.keeps 1) (by exact Kept.refl B E wr)) (HMM.out.kept (by exact Kept.refl B E wr)) (by omega) HN0.out (by omega)).mono ?_
      rintro e w1 ⟨rfl, hb1⟩
      have hk1 : Kept B E wr w1 := by refine hb1.after ?_; exact Kept.refl B E wr
      have z1_0 := hk1.slice Q0.out rfl
      clear q0
      go_wp2_with fail
      go_roundw
      case rel => exact ⟨i + 1, t + ms[i], by omega, by go_num, by rw [HD.out]; go_num, Lib.hid HST.out, hK.trans (by exact hk1)⟩
      case measure => simp [intOf]; omega
    · obtain rfl : i = ms.length := by omega
      have e := ht.out
      rw [List.take_of_length_le (Nat.le_refl _)] at e
      have HT := Lib.hid e
      clear e ht
      go_wp2_with fail
      go_ret
      exact ⟨retI (by rw [HT.out]), hK⟩

set_option maxRecDepth 100000 in
set_option maxHeartbeats 1000000 in
theorem marksCheckL (A : Option Addr) (n c : Nat) (ms : List Nat) (ok : Nat → Prop) (B E k : Nat) (w : World) (h : Sl CkSh 1 ok w A n ms) (hm : mayMark B E w ok) (hk : k + ms.sum ≤ 1073741824) (hn : n ≤ 1048576) {x : Int} (hx : x = k) :
    Calls Tryz.prog 59 #[.slice A n c, .int .i64 x] w fun e w' => e = .returned (.int .i64 ((k + ms.sum : Nat) : Int)) ∧ Kept B E w w' := by
  obtain rfl : ms.length = n := h.1
  subst hx
  go_enter Tryz.func59, Tryz.ntmps59
  go_wp2_with fail
  go_loopw [1, 5] (fun m i wr => ∃ (j t : Nat), j ≤ ms.length ∧ i = .int .i64 j ∧ m = .int .i64 ((k + t : Nat) : Int) ∧ Hid ((ms.take j).sum = t) ∧ Kept B E w wr) (fun _ i _ => ms.length - (intOf i).toNat)
  case atStart => exact ⟨0, 0, by omega, rfl, by simp, Lib.hid (by simp), Kept.refl _ _ _⟩
  case round =>
    obtain ⟨i, t, hi, rfl, rfl, ht, hK⟩ := hrel
    by_cases hlt : i < ms.length
    · have hsh := h.shape CkSh.keeps hK
      have hmm := hm.kept hK
      obtain ⟨b, off, rfl, hob, hcs⟩ := hsh.2 (by omega)
      obtain ⟨cs, hcl, hR, hg⟩ := hcs i hlt
      have hst := sum_take_n ms i hlt
      have hsl := sum_take_n_le ms (i + 1)
      rw [ht.out] at hst
      obtain ⟨hB, hE, -, hfr⟩ := hmm b hob
      obtain ⟨A0, n0, c0, m0, rfl, -, h0, hcp, hd⟩ := hR
      have q0 : wr.cell? ⟨b, off + i, none⟩ = some (.slice A0 n0 c0) := by have := hg 0 _ rfl; rwa [Nat.mul_one] at this
      have hle : k + t + (m0.sum) ≤ 1073741824 := by omega
      have HD := Lib.hid hd
      have HST := Lib.hid hst
      clear hd hst hsl
      have Q0 := Lib.hid q0
      have HB := Lib.hid hB
      have HE := Lib.hid hE
      have HR := Lib.hid hfr
      have HO := Lib.hid hob
      have HN0 := Lib.hid (hcp)
      clear hcp
      clear hsh hcs hg hB hE hfr
      have HMM := Lib.hid hmm
      clear hmm
      go_wp2_with fail
      refine (marksTokL A0 n0 c0 m0 ok B E (k + t) _ (h0.shape (ShF.keeps 5) (by exact Kept.refl B E wr)) (HMM.out.kept (by exact Kept.refl B E wr)) (by omega) HN0.out (by omega)).mono ?_
      rintro e w1 ⟨rfl, hb1⟩
      have hk1 : Kept B E wr w1 := by refine hb1.after ?_; exact Kept.refl B E wr
      have z1_0 := hk1.slice Q0.out rfl
      clear q0
      go_wp2_with fail
      go_roundw
      case rel => exact ⟨i + 1, t + ms[i], by omega, by go_num, by rw [HD.out]; go_num, Lib.hid HST.out, hK.trans (by exact hk1)⟩
      case measure => simp [intOf]; omega
    · obtain rfl : i = ms.length := by omega
      have e := ht.out
      rw [List.take_of_length_le (Nat.le_refl _)] at e
      have HT := Lib.hid e
      clear e ht
      go_wp2_with fail
      go_ret
      exact ⟨retI (by rw [HT.out]), hK⟩

set_option maxRecDepth 100000 in
set_option maxHeartbeats 1000000 in
theorem marksFkL (A : Option Addr) (n c : Nat) (ms : List Nat) (ok : Nat → Prop) (B E k : Nat) (w : World) (h : Sl FkSh 5 ok w A n ms) (hm : mayMark B E w ok) (hk : k + ms.sum ≤ 1073741824) (hn : n ≤ 1048576) {x : Int} (hx : x = k) :
    Calls Tryz.prog 60 #[.slice A n c, .int .i64 x] w fun e w' => e = .returned (.int .i64 ((k + ms.sum : Nat) : Int)) ∧ Kept B E w w' := by
  obtain rfl : ms.length = n := h.1
  subst hx
  go_enter Tryz.func60, Tryz.ntmps60
  go_wp2_with fail
  go_loopw [1, 5] (fun m i wr => ∃ (j t : Nat), j ≤ ms.length ∧ i = .int .i64 j ∧ m = .int .i64 ((k + t : Nat) : Int) ∧ Hid ((ms.take j).sum = t) ∧ Kept B E w wr) (fun _ i _ => ms.length - (intOf i).toNat)
  case atStart => exact ⟨0, 0, by omega, rfl, by simp, Lib.hid (by simp), Kept.refl _ _ _⟩
  case round =>
    obtain ⟨i, t, hi, rfl, rfl, ht, hK⟩ := hrel
    by_cases hlt : i < ms.length
    · have hsh := h.shape FkSh.keeps hK
      have hmm := hm.kept hK
      obtain ⟨b, off, rfl, hob, hcs⟩ := hsh.2 (by omega)
      obtain ⟨cs, hcl, hR, hg⟩ := hcs i hlt
      have hst := sum_take_n ms i hlt
      have hsl := sum_take_n_le ms (i + 1)
      rw [ht.out] at hst
      obtain ⟨hB, hE, -, hfr⟩ := hmm b hob
      obtain ⟨A0, n0, c0, m0, u1, u2, u3, u4, rfl, ⟨g1, g2, g3, g4⟩, h0, hcp, hd⟩ := hR
      have q0 : wr.cell? ⟨b, off + i * 5, none⟩ = some (.slice A0 n0 c0) := hg 0 _ rfl
      have q1 : wr.cell? ⟨b, off + i * 5 + 1, none⟩ = some (u1) := hg 1 _ rfl
      have q2 : wr.cell? ⟨b, off + i * 5 + 2, none⟩ = some (u2) := hg 2 _ rfl
      have q3 : wr.cell? ⟨b, off + i * 5 + 3, none⟩ = some (u3) := hg 3 _ rfl
      have q4 : wr.cell? ⟨b, off + i * 5 + 4, none⟩ = some (u4) := hg 4 _ rfl
      have hle : k + t + (4 + m0.sum) ≤ 1073741824 := by omega
      have HD := Lib.hid hd
      have HST := Lib.hid hst
      clear hd hst hsl
      have f1 := hfr (off + i * 5 + 1)
      have f2 := hfr (off + i * 5 + 2)
      have f3 := hfr (off + i * 5 + 3)
      have f4 := hfr (off + i * 5 + 4)
      have Q0 := Lib.hid q0
      have Q1 := Lib.hid q1
      have Q2 := Lib.hid q2
      have Q3 := Lib.hid q3
      have Q4 := Lib.hid q4
      have G1 := Lib.hid g1
      have G2 := Lib.hid g2
      have G3 := Lib.hid g3
      have G4 := Lib.hid g4
      have HB := Lib.hid hB
      have HE := Lib.hid hE
      have HR := Lib.hid hfr
      have HO := Lib.hid hob
      have HN0 := Lib.hid (hcp)
      clear hcp
      clear hsh hcs hg hB hE hfr g1 g2 g3 g4
      have HMM := Lib.hid hmm
      clear hmm
      go_wp2_with fail
      refine (marksIntL A0 n0 c0 m0 ok B E (k + t) _ (h0.shape (ShF.keeps 1) (by exact Kept.refl B E wr)) (HMM.out.kept (by exact Kept.refl B E wr)) (by omega) HN0.out (by omega)).mono ?_
      rintro e w1 ⟨rfl, hb1⟩
      have hk1 : Kept B E wr w1 := by refine hb1.after ?_; exact Kept.refl B E wr
      have z1_0 := hk1.slice Q0.out rfl
      obtain ⟨v1_1, z1_1, -, -⟩ := hk1.cell _ _ Q1.out
      have k1_1 := (HMM.out.kept hk1 b HO.out).2.2.2 (off + i * 5 + 1)
      obtain ⟨v1_2, z1_2, -, -⟩ := hk1.cell _ _ Q2.out
      have k1_2 := (HMM.out.kept hk1 b HO.out).2.2.2 (off + i * 5 + 2)
      obtain ⟨v1_3, z1_3, -, -⟩ := hk1.cell _ _ Q3.out
      have k1_3 := (HMM.out.kept hk1 b HO.out).2.2.2 (off + i * 5 + 3)
      obtain ⟨v1_4, z1_4, -, -⟩ := hk1.cell _ _ Q4.out
      have k1_4 := (HMM.out.kept hk1 b HO.out).2.2.2 (off + i * 5 + 4)
      clear q0 q1 q2 q3 q4 f1 f2 f3 f4
      go_wp2_with fail
      refine (lawsMarkText (k + t + m0.sum) _ (by omega) (by omega)).mono ?_
      rintro e w2 ⟨rfl, hb2⟩
      have hk2 : Kept B E wr w2 := by refine (Kept.below hb2).after ?_; exact hk1
      have z2_0 := hk2.slice Q0.out rfl
      obtain ⟨v2_1, z2_1, -, -⟩ := hk2.cell _ _ Q1.out
      have k2_1 := (HMM.out.kept hk2 b HO.out).2.2.2 (off + i * 5 + 1)
      obtain ⟨v2_2, z2_2, -, -⟩ := hk2.cell _ _ Q2.out
      have k2_2 := (HMM.out.kept hk2 b HO.out).2.2.2 (off + i * 5 + 2)
      obtain ⟨v2_3, z2_3, -, -⟩ := hk2.cell _ _ Q3.out
      have k2_3 := (HMM.out.kept hk2 b HO.out).2.2.2 (off + i * 5 + 3)
      obtain ⟨v2_4, z2_4, -, -⟩ := hk2.cell _ _ Q4.out
      have k2_4 := (HMM.out.kept hk2 b HO.out).2.2.2 (off + i * 5 + 4)
      clear z1_0 z1_1 z1_2 z1_3 z1_4 k1_1 k1_2 k1_3 k1_4
      go_wp2_with fail
      go_roundw
      case rel => exact ⟨i + 1, t + ms[i], by omega, by go_num, by rw [HD.out]; go_num, Lib.hid HST.out, hK.trans (by refine Kept.set ?_ Q4.out G4.out HB.out HE.out rfl; refine Kept.set ?_ Q3.out G3.out HB.out HE.out rfl; refine Kept.set ?_ Q2.out G2.out HB.out HE.out rfl; refine Kept.set ?_ Q1.out G1.out HB.out HE.out rfl; exact hk2)⟩
      case measure => simp [intOf]; omega
    · obtain rfl : i = ms.length := by omega
      have e := ht.out
      rw [List.take_of_length_le (Nat.le_refl _)] at e
      have HT := Lib.hid e
      clear e ht
      go_wp2_with fail
      go_ret
      exact ⟨retI (by rw [HT.out]), hK⟩

set_option maxRecDepth 100000 in
set_option maxHeartbeats 1000000 in
theorem marksTableL (A : Option Addr) (n c : Nat) (ms : List Nat) (ok : Nat → Prop) (B E k : Nat) (w : World) (h : Sl TbSh 6 ok w A n ms) (hm : mayMark B E w ok) (hk : k + ms.sum ≤ 1073741824) (hn : n ≤ 1048576) {x : Int} (hx : x = k) :
    Calls Tryz.prog 22 #[.slice A n c, .int .i64 x] w fun e w' => e = .returned (.int .i64 ((k + ms.sum : Nat) : Int)) ∧ Kept B E w w' := by
  obtain rfl : ms.length = n := h.1
  subst hx
  go_enter Tryz.func22, Tryz.ntmps22
  go_wp2_with fail
  go_loopw [1, 5] (fun m i wr => ∃ (j t : Nat), j ≤ ms.length ∧ i = .int .i64 j ∧ m = .int .i64 ((k + t : Nat) : Int) ∧ Hid ((ms.take j).sum = t) ∧ Kept B E w wr) (fun _ i _ => ms.length - (intOf i).toNat)
  case atStart => exact ⟨0, 0, by omega, rfl, by simp, Lib.hid (by simp), Kept.refl _ _ _⟩
  case round =>
    obtain ⟨i, t, hi, rfl, rfl, ht, hK⟩ := hrel
    by_cases hlt : i < ms.length
    · have hsh := h.shape TbSh.keeps hK
      have hmm := hm.kept hK
      obtain ⟨b, off, rfl, hob, hcs⟩ := hsh.2 (by omega)
      obtain ⟨cs, hcl, hR, hg⟩ := hcs i hlt
      have hst := sum_take_n ms i hlt
      have hsl := sum_take_n_le ms (i + 1)
      rw [ht.out] at hst
      obtain ⟨hB, hE, -, hfr⟩ := hmm b hob
      obtain ⟨A1, n1, c1, m1, A2, n2, c2, m2, A3, n3, c3, m3, A4, n4, c4, m4, A5, n5, c5, m5, u0, rfl, g0, h1, h2, h3, h4, h5, hcp, hd⟩ := hR
      have q0 : wr.cell? ⟨b, off + i * 6, none⟩ = some (u0) := hg 0 _ rfl
      have q1 : wr.cell? ⟨b, off + i * 6 + 1, none⟩ = some (.slice A1 n1 c1) := hg 1 _ rfl
      have q2 : wr.cell? ⟨b, off + i * 6 + 2, none⟩ = some (.slice A2 n2 c2) := hg 2 _ rfl
      have q3 : wr.cell? ⟨b, off + i * 6 + 3, none⟩ = some (.slice A3 n3 c3) := hg 3 _ rfl
      have q4 : wr.cell? ⟨b, off + i * 6 + 4, none⟩ = some (.slice A4 n4 c4) := hg 4 _ rfl
      have q5 : wr.cell? ⟨b, off + i * 6 + 5, none⟩ = some (.slice A5 n5 c5) := hg 5 _ rfl
      have hle : k + t + (1 + m1.sum + m2.sum + m3.sum + m4.sum + m5.sum) ≤ 1073741824 := by omega
      have HD := Lib.hid hd
      have HST := Lib.hid hst
      clear hd hst hsl
      have f0 := hfr (off + i * 6)
      have Q0 := Lib.hid q0
      have Q1 := Lib.hid q1
      have Q2 := Lib.hid q2
      have Q3 := Lib.hid q3
      have Q4 := Lib.hid q4
      have Q5 := Lib.hid q5
      have G0 := Lib.hid g0
      have HB := Lib.hid hB
      have HE := Lib.hid hE
      have HR := Lib.hid hfr
      have HO := Lib.hid hob
      have HN1 := Lib.hid (hcp.1)
      have HN2 := Lib.hid (hcp.2.1)
      have HN3 := Lib.hid (hcp.2.2.1)
      have HN4 := Lib.hid (hcp.2.2.2.1)
      have HN5 := Lib.hid (hcp.2.2.2.2)
      clear hcp
      clear hsh hcs hg hB hE hfr g0
      have HMM := Lib.hid hmm
      clear hmm
      go_wp2_with fail
      refine (lawsMarkText (k + t) _ (by omega) (by omega)).mono ?_
      rintro e w1 ⟨rfl, hb1⟩
      have hk1 : Kept B E wr w1 := by refine (Kept.below hb1).after ?_; exact Kept.refl B E wr
      obtain ⟨v1_0, z1_0, -, -⟩ := hk1.cell _ _ Q0.out
      have k1_0 := (HMM.out.kept hk1 b HO.out).2.2.2 (off + i * 6)
      have z1_1 := hk1.slice Q1.out rfl
      have z1_2 := hk1.slice Q2.out rfl
      have z1_3 := hk1.slice Q3.out rfl
      have z1_4 := hk1.slice Q4.out rfl
      have z1_5 := hk1.slice Q5.out rfl
      clear q0 q1 q2 q3 q4 q5 f0
      go_wp2_with fail
      refine (marksColL A1 n1 c1 m1 ok B E (k + t + 1) _ (h1.shape (ShF.keeps 6) (by refine Kept.set ?_ Q0.out G0.out HB.out HE.out rfl; exact hk1)) (HMM.out.kept (by refine Kept.set ?_ Q0.out G0.out HB.out HE.out rfl; exact hk1)) (by omega) HN1.out (by omega)).mono ?_
      rintro e w2 ⟨rfl, hb2⟩
      have hk2 : Kept B E wr w2 := by refine hb2.after ?_; refine Kept.set ?_ Q0.out G0.out HB.out HE.out rfl; exact hk1
      obtain ⟨v2_0, z2_0, -, -⟩ := hk2.cell _ _ Q0.out
      have k2_0 := (HMM.out.kept hk2 b HO.out).2.2.2 (off + i * 6)
      have z2_1 := hk2.slice Q1.out rfl
      have z2_2 := hk2.slice Q2.out rfl
      have z2_3 := hk2.slice Q3.out rfl
      have z2_4 := hk2.slice Q4.out rfl
      have z2_5 := hk2.slice Q5.out rfl
      clear z1_0 z1_1 z1_2 z1_3 z1_4 z1_5 k1_0
      go_wp2_with fail
      refine (marksIntL A2 n2 c2 m2 ok B E (k + t + m1.sum + 1) _ (h2.shape (ShF.keeps 1) (by exact hk2)) (HMM.out.kept (by exact hk2)) (by omega) HN2.out (by omega)).mono ?_
      rintro e w3 ⟨rfl, hb3⟩
      have hk3 : Kept B E wr w3 := by refine hb3.after ?_; exact hk2
      obtain ⟨v3_0, z3_0, -, -⟩ := hk3.cell _ _ Q0.out
      have k3_0 := (HMM.out.kept hk3 b HO.out).2.2.2 (off + i * 6)
      have z3_1 := hk3.slice Q1.out rfl
      have z3_2 := hk3.slice Q2.out rfl
      have z3_3 := hk3.slice Q3.out rfl
      have z3_4 := hk3.slice Q4.out rfl
      have z3_5 := hk3.slice Q5.out rfl
      clear z2_0 z2_1 z2_2 z2_3 z2_4 z2_5 k2_0
      go_wp2_with fail
      refine (marksUniqueL A3 n3 c3 m3 ok B E (k + t + m1.sum + m2.sum + 1) _ (h3.shape UqSh.keeps (by exact hk3)) (HMM.out.kept (by exact hk3)) (by omega) HN3.out (by omega)).mono ?_
      rintro e w4 ⟨rfl, hb4⟩
      have hk4 : Kept B E wr w4 := by refine hb4.after ?_; exact hk3
      obtain ⟨v4_0, z4_0, -, -⟩ := hk4.cell _ _ Q0.out
      have k4_0 := (HMM.out.kept hk4 b HO.out).2.2.2 (off + i * 6)
      have z4_1 := hk4.slice Q1.out rfl
      have z4_2 := hk4.slice Q2.out rfl
      have z4_3 := hk4.slice Q3.out rfl
      have z4_4 := hk4.slice Q4.out rfl
      have z4_5 := hk4.slice Q5.out rfl
      clear z3_0 z3_1 z3_2 z3_3 z3_4 z3_5 k3_0
      go_wp2_with fail
      refine (marksCheckL A4 n4 c4 m4 ok B E (k + t + m1.sum + m2.sum + m3.sum + 1) _ (h4.shape CkSh.keeps (by exact hk4)) (HMM.out.kept (by exact hk4)) (by omega) HN4.out (by omega)).mono ?_
      rintro e w5 ⟨rfl, hb5⟩
      have hk5 : Kept B E wr w5 := by refine hb5.after ?_; exact hk4
      obtain ⟨v5_0, z5_0, -, -⟩ := hk5.cell _ _ Q0.out
      have k5_0 := (HMM.out.kept hk5 b HO.out).2.2.2 (off + i * 6)
      have z5_1 := hk5.slice Q1.out rfl
      have z5_2 := hk5.slice Q2.out rfl
      have z5_3 := hk5.slice Q3.out rfl
      have z5_4 := hk5.slice Q4.out rfl
      have z5_5 := hk5.slice Q5.out rfl
      clear z4_0 z4_1 z4_2 z4_3 z4_4 z4_5 k4_0
      go_wp2_with fail
      refine (marksFkL A5 n5 c5 m5 ok B E (k + t + m1.sum + m2.sum + m3.sum + m4.sum + 1) _ (h5.shape FkSh.keeps (by exact hk5)) (HMM.out.kept (by exact hk5)) (by omega) HN5.out (by omega)).mono ?_
      rintro e w6 ⟨rfl, hb6⟩
      have hk6 : Kept B E wr w6 := by refine hb6.after ?_; exact hk5
      obtain ⟨v6_0, z6_0, -, -⟩ := hk6.cell _ _ Q0.out
      have k6_0 := (HMM.out.kept hk6 b HO.out).2.2.2 (off + i * 6)
      have z6_1 := hk6.slice Q1.out rfl
      have z6_2 := hk6.slice Q2.out rfl
      have z6_3 := hk6.slice Q3.out rfl
      have z6_4 := hk6.slice Q4.out rfl
      have z6_5 := hk6.slice Q5.out rfl
      clear z5_0 z5_1 z5_2 z5_3 z5_4 z5_5 k5_0
      go_wp2_with fail
      go_roundw
      case rel => exact ⟨i + 1, t + ms[i], by omega, by go_num, by rw [HD.out]; go_num, Lib.hid HST.out, hK.trans (by exact hk6)⟩
      case measure => simp [intOf]; omega
    · obtain rfl : i = ms.length := by omega
      have e := ht.out
      rw [List.take_of_length_le (Nat.le_refl _)] at e
      have HT := Lib.hid e
      clear e ht
      go_wp2_with fail
      go_ret
      exact ⟨retI (by rw [HT.out]), hK⟩

set_option maxRecDepth 100000 in
set_option maxHeartbeats 1000000 in
theorem marksRowL (A : Option Addr) (n c : Nat) (ms : List Nat) (ok : Nat → Prop) (B E k : Nat) (w : World) (h : Sl RwSh 2 ok w A n ms) (hm : mayMark B E w ok) (hk : k + ms.sum ≤ 1073741824) (hn : n ≤ 1048576) {x : Int} (hx : x = k) :
    Calls Tryz.prog 61 #[.slice A n c, .int .i64 x] w fun e w' => e = .returned (.int .i64 ((k + ms.sum : Nat) : Int)) ∧ Kept B E w w' := by
  obtain rfl : ms.length = n := h.1
  subst hx
  go_enter Tryz.func61, Tryz.ntmps61
  go_wp2_with fail
  go_loopw [1, 5] (fun m i wr => ∃ (j t : Nat), j ≤ ms.length ∧ i = .int .i64 j ∧ m = .int .i64 ((k + t : Nat) : Int) ∧ Hid ((ms.take j).sum = t) ∧ Kept B E w wr) (fun _ i _ => ms.length - (intOf i).toNat)
  case atStart => exact ⟨0, 0, by omega, rfl, by simp, Lib.hid (by simp), Kept.refl _ _ _⟩
  case round =>
    obtain ⟨i, t, hi, rfl, rfl, ht, hK⟩ := hrel
    by_cases hlt : i < ms.length
    · have hsh := h.shape RwSh.keeps hK
      have hmm := hm.kept hK
      obtain ⟨b, off, rfl, hob, hcs⟩ := hsh.2 (by omega)
      obtain ⟨cs, hcl, hR, hg⟩ := hcs i hlt
      have hst := sum_take_n ms i hlt
      have hsl := sum_take_n_le ms (i + 1)
      rw [ht.out] at hst
      obtain ⟨hB, hE, -, hfr⟩ := hmm b hob
      obtain ⟨A1, n1, c1, m1, u0, rfl, g0, h1, hcp, hd⟩ := hR
      have q0 : wr.cell? ⟨b, off + i * 2, none⟩ = some (u0) := hg 0 _ rfl
      have q1 : wr.cell? ⟨b, off + i * 2 + 1, none⟩ = some (.slice A1 n1 c1) := hg 1 _ rfl
      have hle : k + t + (1 + m1.sum) ≤ 1073741824 := by omega
      have HD := Lib.hid hd
      have HST := Lib.hid hst
      clear hd hst hsl
      have f0 := hfr (off + i * 2)
      have Q0 := Lib.hid q0
      have Q1 := Lib.hid q1
      have G0 := Lib.hid g0
      have HB := Lib.hid hB
      have HE := Lib.hid hE
      have HR := Lib.hid hfr
      have HO := Lib.hid hob
      have HN1 := Lib.hid (hcp)
      clear hcp
      clear hsh hcs hg hB hE hfr g0
      have HMM := Lib.hid hmm
      clear hmm
      go_wp2_with fail
      refine (marksValL A1 n1 c1 m1 ok B E (k + t + 1) _ (h1.shape (ShF.keeps 3) (by refine Kept.set ?_ Q0.out G0.out HB.out HE.out rfl; exact Kept.refl B E wr)) (HMM.out.kept (by refine Kept.set ?_ Q0.out G0.out HB.out HE.out rfl; exact Kept.refl B E wr)) (by omega) HN1.out (by omega)).mono ?_
      rintro e w1 ⟨rfl, hb1⟩
      have hk1 : Kept B E wr w1 := by refine hb1.after ?_; refine Kept.set ?_ Q0.out G0.out HB.out HE.out rfl; exact Kept.refl B E wr
      obtain ⟨v1_0, z1_0, -, -⟩ := hk1.cell _ _ Q0.out
      have k1_0 := (HMM.out.kept hk1 b HO.out).2.2.2 (off + i * 2)
      have z1_1 := hk1.slice Q1.out rfl
      clear q0 q1 f0
      go_wp2_with fail
      go_roundw
      case rel => exact ⟨i + 1, t + ms[i], by omega, by go_num, by rw [HD.out]; go_num, Lib.hid HST.out, hK.trans (by exact hk1)⟩
      case measure => simp [intOf]; omega
    · obtain rfl : i = ms.length := by omega
      have e := ht.out
      rw [List.take_of_length_le (Nat.le_refl _)] at e
      have HT := Lib.hid e
      clear e ht
      go_wp2_with fail
      go_ret
      exact ⟨retI (by rw [HT.out]), hK⟩

set_option maxRecDepth 100000 in
set_option maxHeartbeats 1000000 in
theorem marksDataL (A : Option Addr) (n c : Nat) (ms : List Nat) (ok : Nat → Prop) (B E k : Nat) (w : World) (h : Sl DtSh 1 ok w A n ms) (hm : mayMark B E w ok) (hk : k + ms.sum ≤ 1073741824) (hn : n ≤ 1048576) {x : Int} (hx : x = k) :
    Calls Tryz.prog 23 #[.slice A n c, .int .i64 x] w fun e w' => e = .returned (.int .i64 ((k + ms.sum : Nat) : Int)) ∧ Kept B E w w' := by
  obtain rfl : ms.length = n := h.1
  subst hx
  go_enter Tryz.func23, Tryz.ntmps23
  go_wp2_with fail
  go_loopw [1, 5] (fun m i wr => ∃ (j t : Nat), j ≤ ms.length ∧ i = .int .i64 j ∧ m = .int .i64 ((k + t : Nat) : Int) ∧ Hid ((ms.take j).sum = t) ∧ Kept B E w wr) (fun _ i _ => ms.length - (intOf i).toNat)
  case atStart => exact ⟨0, 0, by omega, rfl, by simp, Lib.hid (by simp), Kept.refl _ _ _⟩
  case round =>
    obtain ⟨i, t, hi, rfl, rfl, ht, hK⟩ := hrel
    by_cases hlt : i < ms.length
    · have hsh := h.shape DtSh.keeps hK
      have hmm := hm.kept hK
      obtain ⟨b, off, rfl, hob, hcs⟩ := hsh.2 (by omega)
      obtain ⟨cs, hcl, hR, hg⟩ := hcs i hlt
      have hst := sum_take_n ms i hlt
      have hsl := sum_take_n_le ms (i + 1)
      rw [ht.out] at hst
      obtain ⟨hB, hE, -, hfr⟩ := hmm b hob
      obtain ⟨A0, n0, c0, m0, rfl, -, h0, hcp, hd⟩ := hR
      have q0 : wr.cell? ⟨b, off + i, none⟩ = some (.slice A0 n0 c0) := by have := hg 0 _ rfl; rwa [Nat.mul_one] at this
      have hle : k + t + (m0.sum) ≤ 1073741824 := by omega
      have HD := Lib.hid hd
      have HST := Lib.hid hst
      clear hd hst hsl
      have Q0 := Lib.hid q0
      have HB := Lib.hid hB
      have HE := Lib.hid hE
      have HR := Lib.hid hfr
      have HO := Lib.hid hob
      have HN0 := Lib.hid (hcp)
      clear hcp
      clear hsh hcs hg hB hE hfr
      have HMM := Lib.hid hmm
      clear hmm
      go_wp2_with fail
      refine (marksRowL A0 n0 c0 m0 ok B E (k + t) _ (h0.shape RwSh.keeps (by exact Kept.refl B E wr)) (HMM.out.kept (by exact Kept.refl B E wr)) (by omega) HN0.out (by omega)).mono ?_
      rintro e w1 ⟨rfl, hb1⟩
      have hk1 : Kept B E wr w1 := by refine hb1.after ?_; exact Kept.refl B E wr
      have z1_0 := hk1.slice Q0.out rfl
      clear q0
      go_wp2_with fail
      go_roundw
      case rel => exact ⟨i + 1, t + ms[i], by omega, by go_num, by rw [HD.out]; go_num, Lib.hid HST.out, hK.trans (by exact hk1)⟩
      case measure => simp [intOf]; omega
    · obtain rfl : i = ms.length := by omega
      have e := ht.out
      rw [List.take_of_length_le (Nat.le_refl _)] at e
      have HT := Lib.hid e
      clear e ht
      go_wp2_with fail
      go_ret
      exact ⟨retI (by rw [HT.out]), hK⟩


end Go.Proofs.YtfhiknndflahgaaGreat
namespace Go.Proofs.YtfhiknndflahgaaGreat
open Go.RowKit
set_option linter.unusedVariables false

set_option linter.unusedSimpArgs false

/-- m cells of a list hold what f says. -/
def Mk (f : Nat → Value) (w : World) (A : Option Addr) (m : Nat) : Prop := 0 < m → ∃ b off, A = some ⟨b, off, none⟩ ∧ ∀ j, j < m → w.cell? ⟨b, off + j, none⟩ = some (f j)
/-- The world W behind marks: m cells of a block from off on hold what f says; nothing else has turned since wr. -/
def KM (f : Nat → Value) (b off B E : Nat) (wr W : World) (m : Nat) : Prop := Kept B E wr W ∧ ∀ j, j < m → W.cell? ⟨b, off + j, none⟩ = some (f j)
theorem KM.set {f : Nat → Value} {b off B E : Nat} {wr W : World} {m : Nat} (h : KM f b off B E wr W m) {p : Addr} {u v : Value} (hp : p = ⟨b, off + m, none⟩) (hc : wr.cell? p = some u) (hn : isSl u = false) (hB : B ≤ p.block) (hE : p.block < E) (hv : isSl v = false) (hf : v = f m) : KM f b off B E wr (W.setCell p v) (m + 1) := by
  refine ⟨Kept.set h.1 hc hn hB hE hv, fun j hj => ?_⟩
  obtain ⟨u', h1, -⟩ := h.1.cell p u hc
  subst hp
  by_cases e : j = m
  · subst e
    rw [World.cell?_setCell_same _ _ _ h1, hf]
  · rw [World.cell?_setCell_other _ _ _ _ (by intro hh; simp only [Addr.mk.injEq] at hh; omega)]
    exact h.2 j (by omega)
theorem KM.below {f : Nat → Value} {b off B E : Nat} {wr W W' : World} {m : Nat} (hb : Below W.heap.size W W') (h : KM f b off B E wr W m) : KM f b off B E wr W' m := ⟨h.1.trans (Kept.below hb), fun j hj => below_keep hb _ _ (h.2 j hj)⟩
theorem KM.close {f : Nat → Value} {b off B E : Nat} {w wr W : World} {m m' : Nat} (h : KM f b off B E wr W m') (hK : Kept B E w wr) (e : m = m') : Hid (Mk f W (some ⟨b, off, none⟩) m) ∧ Kept B E w W := ⟨fun _ => ⟨b, off, rfl, fun j hj => h.2 j (by omega)⟩, hK.trans h.1⟩
theorem KM.start {f : Nat → Value} {b off B E : Nat} {w wr : World} {m : Nat} (h : ∀ j, j < m → wr.cell? ⟨b, off + j, none⟩ = some (f j)) : KM f b off B E wr wr m := ⟨Kept.refl _ _ _, h⟩
theorem Mk.below {f : Nat → Value} {w w' : World} {A : Option Addr} {m : Nat} (h : Mk f w A m) (hb : Below w.heap.size w w') : Mk f w' A m := fun hm => by
  obtain ⟨b, off, e, hc⟩ := h hm
  exact ⟨b, off, e, fun j hj => below_keep hb _ _ (hc j hj)⟩

def mkXInt (k j : Nat) : Value := .int .i64 ((k + j : Nat) : Int)
theorem mkXInt_0 (k i : Nat) : mkXInt k (i * 1 + 0) = .int .i64 ((k + (i * 1 + 0) : Nat) : Int) := rfl
set_option maxRecDepth 100000 in
set_option maxHeartbeats 1000000 in
theorem marksXIntL (A : Option Addr) (n c : Nat) (ms : List Nat) (ok : Nat → Prop) (B E k : Nat) (w : World) (h : Sl (ShF 1) 1 ok w A n ms) (hm : mayMark B E w ok) (hk : k + n * 1 ≤ 1073741824) (hn : n ≤ 1048576) {x : Int} (hx : x = k) :
    Calls Tryz.prog 25 #[.slice A n c, .int .i64 x] w fun e w' => e = .returned (.int .i64 ((k + n * 1 : Nat) : Int)) ∧ Kept B E w w' ∧ Mk (mkXInt k) w' A (n * 1) := by
  obtain rfl : ms.length = n := h.1
  subst hx
  go_enter Tryz.func25, Tryz.ntmps25
  go_wp2_with fail
  go_loopw [1, 5] (fun m i wr => ∃ (j : Nat), j ≤ ms.length ∧ i = .int .i64 j ∧ m = .int .i64 ((k + j * 1 : Nat) : Int) ∧ Hid (Mk (mkXInt k) wr A (j * 1)) ∧ Kept B E w wr) (fun _ i _ => ms.length - (intOf i).toNat)
  case atStart => exact ⟨0, by omega, rfl, by simp, Lib.hid (fun h => by omega), Kept.refl _ _ _⟩
  case round =>
    obtain ⟨i, hi, rfl, rfl, hM, hK⟩ := hrel
    by_cases hlt : i < ms.length
    · have hsh := h.shape (ShF.keeps 1) hK
      have hmm := hm.kept hK
      obtain ⟨b, off, rfl, hob, hcs⟩ := hsh.2 (by omega)
      obtain ⟨cs, hcl, hR, hg⟩ := hcs i hlt
      have hM0 : ∀ j, j < i * 1 → wr.cell? ⟨b, off + j, none⟩ = some (mkXInt k j) := fun j hj => by
        obtain ⟨b', off', e, hc⟩ := hM.out (by omega)
        cases e
        exact hc j hj
      obtain ⟨hB, hE, -, hfr⟩ := hmm b hob
      obtain ⟨u0, rfl⟩ : ∃ u0, cs = [u0] := by
        have h0 := hR.1
        match cs, h0 with
        | [x0], _ => exact ⟨x0, rfl⟩
      have g0 : isSl u0 = false := hR.2.1 0 _ rfl
      have q0 : wr.cell? ⟨b, off + i, none⟩ = some (u0) := by have := hg 0 _ rfl; rwa [Nat.mul_one] at this
      have f0 := hfr (off + i)
      have Q0 := Lib.hid q0
      have G0 := Lib.hid g0
      have HB := Lib.hid hB
      have HE := Lib.hid hE
      have HR := Lib.hid hfr
      have HO := Lib.hid hob
      have HM0 := Lib.hid hM0
      have HMM := Lib.hid hmm
      have hle : k + i * 1 + 1 ≤ 1073741824 := by omega
      clear hsh hcs hg hR hB hE hfr hmm hM0 hM g0
      go_wp2_with fail
      go_roundw
      case rel =>
        refine ⟨i + 1, by omega, by go_num, by exact congrArg (Value.int .i64) (by omega), ?_⟩
        refine KM.close (m' := i * 1 + 0 + 1) ?_ hK (by omega)
        refine KM.set (m := i * 1 + 0) ?_ (by simp [Nat.add_assoc]) Q0.out G0.out HB.out HE.out rfl (by exact congrArg (Value.int .i64) (by omega)); exact KM.start (w := wr) HM0.out
      case measure => simp [intOf]; omega
    · obtain rfl : i = ms.length := by omega
      go_wp2_with fail
      go_ret
      exact ⟨rfl, hK, hM.out⟩

set_option maxRecDepth 100000 in
set_option maxHeartbeats 1000000 in
theorem heldXIntL (A : Option Addr) (n c k : Nat) (w : World) (h : Mk (mkXInt k) w A (n * 1)) (hk : k + n * 1 ≤ 1073741824) (hn : n ≤ 1048576) {x : Int} (hx : x = k) :
    Calls Tryz.prog 26 #[.slice A n c, .int .i64 x] w fun e w' => e = .returned (.int .i64 ((k + n * 1 : Nat) : Int)) ∧ Below w.heap.size w w' := by
  subst hx
  have HH := Lib.hid h
  clear h
  go_enter Tryz.func26, Tryz.ntmps26
  go_wp2_with fail
  go_loopw [1, 5] (fun m i wr => ∃ (j : Nat), j ≤ n ∧ i = .int .i64 j ∧ m = .int .i64 ((k + j * 1 : Nat) : Int) ∧ Below w.heap.size w wr) (fun _ i _ => n - (intOf i).toNat)
  case atStart => exact ⟨0, by omega, rfl, by simp, Below.refl _ _⟩
  case round =>
    obtain ⟨i, hi, rfl, rfl, hb⟩ := hrel
    by_cases hlt : i < n
    · obtain ⟨b, off, rfl, hc⟩ := (HH.out.below hb) (by omega)
      have hle : k + i * 1 + 1 ≤ 1073741824 := by omega
      have q0 : wr.cell? ⟨b, off + i, none⟩ = some (.int .i64 ((k + i : Nat) : Int)) := hc i (by omega)
      have i0 : (0 : Int) ≤ i := by omega
      have i1 : (i : Int) < n := by omega
      have Q0 := Lib.hid q0
      clear hc
      go_wp2_with fail
      go_roundw
      case rel => exact ⟨i + 1, by omega, by go_num, by exact congrArg (Value.int .i64) (by omega), hb⟩
      case measure => simp [intOf]; omega
    · obtain rfl : i = n := by omega
      go_wp2_with fail
      go_ret
      exact ⟨rfl, hb⟩

def mkXVal (k j : Nat) : Value := if j % 3 = 2 then .string (mtx (k + j)) else .int .i64 ((k + j : Nat) : Int)
theorem mkXVal_0 (k i : Nat) : mkXVal k (i * 3 + 0) = .int .i64 ((k + (i * 3 + 0) : Nat) : Int) := by unfold mkXVal; rw [if_neg (by omega)]
theorem mkXVal_1 (k i : Nat) : mkXVal k (i * 3 + 1) = .int .i64 ((k + (i * 3 + 1) : Nat) : Int) := by unfold mkXVal; rw [if_neg (by omega)]
theorem mkXVal_2 (k i : Nat) : mkXVal k (i * 3 + 2) = .string (mtx (k + (i * 3 + 2))) := by unfold mkXVal; rw [if_pos (by omega)]
set_option maxRecDepth 100000 in
set_option maxHeartbeats 1000000 in
theorem marksXValL (A : Option Addr) (n c : Nat) (ms : List Nat) (ok : Nat → Prop) (B E k : Nat) (w : World) (h : Sl (ShF 3) 3 ok w A n ms) (hm : mayMark B E w ok) (hk : k + n * 3 ≤ 1073741824) (hn : n ≤ 1048576) {x : Int} (hx : x = k) :
    Calls Tryz.prog 102 #[.slice A n c, .int .i64 x] w fun e w' => e = .returned (.int .i64 ((k + n * 3 : Nat) : Int)) ∧ Kept B E w w' ∧ Mk (mkXVal k) w' A (n * 3) := by
  obtain rfl : ms.length = n := h.1
  subst hx
  go_enter Tryz.func102, Tryz.ntmps102
  go_wp2_with fail
  go_loopw [1, 5] (fun m i wr => ∃ (j : Nat), j ≤ ms.length ∧ i = .int .i64 j ∧ m = .int .i64 ((k + j * 3 : Nat) : Int) ∧ Hid (Mk (mkXVal k) wr A (j * 3)) ∧ Kept B E w wr) (fun _ i _ => ms.length - (intOf i).toNat)
  case atStart => exact ⟨0, by omega, rfl, by simp, Lib.hid (fun h => by omega), Kept.refl _ _ _⟩
  case round =>
    obtain ⟨i, hi, rfl, rfl, hM, hK⟩ := hrel
    by_cases hlt : i < ms.length
    · have hsh := h.shape (ShF.keeps 3) hK
      have hmm := hm.kept hK
      obtain ⟨b, off, rfl, hob, hcs⟩ := hsh.2 (by omega)
      obtain ⟨cs, hcl, hR, hg⟩ := hcs i hlt
      have hM0 : ∀ j, j < i * 3 → wr.cell? ⟨b, off + j, none⟩ = some (mkXVal k j) := fun j hj => by
        obtain ⟨b', off', e, hc⟩ := hM.out (by omega)
        cases e
        exact hc j hj
      obtain ⟨hB, hE, -, hfr⟩ := hmm b hob
      obtain ⟨u0, u1, u2, rfl⟩ : ∃ u0 u1 u2, cs = [u0, u1, u2] := by
        have h0 := hR.1
        match cs, h0 with
        | [x0, x1, x2], _ => exact ⟨x0, x1, x2, rfl⟩
      have g0 : isSl u0 = false := hR.2.1 0 _ rfl
      have g1 : isSl u1 = false := hR.2.1 1 _ rfl
      have g2 : isSl u2 = false := hR.2.1 2 _ rfl
      have q0 : wr.cell? ⟨b, off + i * 3, none⟩ = some (u0) := hg 0 _ rfl
      have q1 : wr.cell? ⟨b, off + i * 3 + 1, none⟩ = some (u1) := hg 1 _ rfl
      have q2 : wr.cell? ⟨b, off + i * 3 + 2, none⟩ = some (u2) := hg 2 _ rfl
      have f0 := hfr (off + i * 3)
      have f1 := hfr (off + i * 3 + 1)
      have f2 := hfr (off + i * 3 + 2)
      have Q0 := Lib.hid q0
      have Q1 := Lib.hid q1
      have Q2 := Lib.hid q2
      have G0 := Lib.hid g0
      have G1 := Lib.hid g1
      have G2 := Lib.hid g2
      have HB := Lib.hid hB
      have HE := Lib.hid hE
      have HR := Lib.hid hfr
      have HO := Lib.hid hob
      have HM0 := Lib.hid hM0
      have HMM := Lib.hid hmm
      have hle : k + i * 3 + 3 ≤ 1073741824 := by omega
      clear hsh hcs hg hR hB hE hfr hmm hM0 hM g0 g1 g2
      go_wp2_with fail
      refine (lawsMarkText (k + (i * 3 + 2)) _ (by omega) (by omega)).mono ?_
      rintro e w1 ⟨rfl, hb1⟩
      have hk1 : KM (mkXVal k) b off B E wr w1 (i * 3 + 2) := by refine KM.below hb1 ?_; refine KM.set (m := i * 3 + 1) ?_ (by simp [Nat.add_assoc]) Q1.out G1.out HB.out HE.out rfl (by rw [mkXVal_1]; exact congrArg (Value.int .i64) (by omega)); refine KM.set (m := i * 3 + 0) ?_ (by simp [Nat.add_assoc]) Q0.out G0.out HB.out HE.out rfl (by rw [mkXVal_0]; exact congrArg (Value.int .i64) (by omega)); exact KM.start (w := wr) HM0.out
      obtain ⟨v1_0, z1_0, -, -⟩ := hk1.1.cell _ _ Q0.out
      have k1_0 := (HMM.out.kept hk1.1 b HO.out).2.2.2 (off + i * 3)
      obtain ⟨v1_1, z1_1, -, -⟩ := hk1.1.cell _ _ Q1.out
      have k1_1 := (HMM.out.kept hk1.1 b HO.out).2.2.2 (off + i * 3 + 1)
      obtain ⟨v1_2, z1_2, -, -⟩ := hk1.1.cell _ _ Q2.out
      have k1_2 := (HMM.out.kept hk1.1 b HO.out).2.2.2 (off + i * 3 + 2)
      have HK1 := Lib.hid hk1
      clear hk1 q0 f0 q1 f1 q2 f2
      go_wp2_with fail
      go_roundw
      case rel =>
        refine ⟨i + 1, by omega, by go_num, by exact congrArg (Value.int .i64) (by omega), ?_⟩
        refine KM.close (m' := i * 3 + 2 + 1) ?_ hK (by omega)
        refine KM.set (m := i * 3 + 2) ?_ (by simp [Nat.add_assoc]) Q2.out G2.out HB.out HE.out rfl (by first | (rw [mkXVal_2]; done) | (rw [mkXVal_2]; congr 2; omega)); exact HK1.out
      case measure => simp [intOf]; omega
    · obtain rfl : i = ms.length := by omega
      go_wp2_with fail
      go_ret
      exact ⟨rfl, hK, hM.out⟩

def mkXFlaw (k j : Nat) : Value := .int .i64 ((k + j : Nat) : Int)
theorem mkXFlaw_0 (k i : Nat) : mkXFlaw k (i * 3 + 0) = .int .i64 ((k + (i * 3 + 0) : Nat) : Int) := rfl
theorem mkXFlaw_1 (k i : Nat) : mkXFlaw k (i * 3 + 1) = .int .i64 ((k + (i * 3 + 1) : Nat) : Int) := rfl
theorem mkXFlaw_2 (k i : Nat) : mkXFlaw k (i * 3 + 2) = .int .i64 ((k + (i * 3 + 2) : Nat) : Int) := rfl

end Go.Proofs.YtfhiknndflahgaaGreat
namespace Go.Proofs.YtfhiknndflahgaaGreat
open Go.ChangeShapes Go.WideShapes Go.ChangeAt Go.RowKit Go.Joins Go.Deep
set_option linter.unusedVariables false

theorem Int_of_trod {H : Type} {enc : TypeId × Value → H} {W : World} {fuel : Nat} {cs : List Value} {x : DataW H × List MemPlace} (h : DataW.trod enc Tryz.prog W 0 (fun _ => true) true fuel 2 cs = some x) : ∃ d, IntR (fun _ => True) W cs d ∧ (Lit.int .i64 d).wf = true := by
  obtain ⟨k, q0, -, wk⟩ := DataW.trod_int Tryz.underlying2 h
  exact ⟨k, q0, wk⟩
theorem Val_of_trod {H : Type} {enc : TypeId × Value → H} {W : World} {fuel : Nat} {cs : List Value} {x : DataW H × List MemPlace} (h : DataW.trod enc Tryz.prog W 0 (fun _ => true) true fuel 92 cs = some x) : ∃ d, VlR (fun _ => True) W cs d ∧ d.s.size ≤ maxLen := by
  obtain ⟨k, n, s, rfl, -, -, hs⟩ := val_of_trod Tryz.underlying92 (by kernel_rfl) ⟨rfl, rfl, rfl⟩ (by kernel_rfl) (by kernel_rfl) (by kernel_rfl) Tryz.underlying2 Tryz.underlying2 Tryz.underlying9 h
  exact ⟨⟨k, n, s⟩, rfl, hs⟩
theorem Tok_of_trod {H : Type} {enc : TypeId × Value → H} {W : World} {fuel : Nat} {cs : List Value} {x : DataW H × List MemPlace} (h : DataW.trod enc Tryz.prog W 0 (fun _ => true) true fuel 94 cs = some x) : ∃ d, TkR (fun _ => True) W cs d ∧ d.vs.size ≤ maxLen := by
  obtain ⟨k, cc, vk, vn, vs, rfl, -, -, -, -, h5⟩ := tok_of_trod Tryz.underlying94 (by kernel_rfl) ⟨rfl, rfl, rfl⟩ (by kernel_rfl) (by kernel_rfl) (by kernel_rfl) Tryz.underlying2 Tryz.underlying2 Tryz.underlying92 ⟨rfl, rfl, rfl⟩ (by kernel_rfl) (by kernel_rfl) (by kernel_rfl) Tryz.underlying2 Tryz.underlying2 Tryz.underlying9 h
  exact ⟨⟨k, cc, vk, vn, vs⟩, rfl, h5⟩
theorem IntL_of_trod {H : Type} {enc : TypeId × Value → H} {W : World} {fuel : Nat} {x : DataW H × List MemPlace} {a : Option Addr} {len cap : Nat} (h : DataW.trod enc Tryz.prog W 0 (fun _ => true) true fuel 45 [.slice a len cap] = some x) : ∃ ds, Sl IntR 1 (fun _ => True) W a len ds ∧ ds.length ≤ maxLen := by
  obtain ⟨ds, h1, h2, -⟩ := sl_of_trod (R := IntR) (q := fun _ => True) (sz := 1) Tryz.underlying45 (by kernel_rfl) (by omega) (fun n c y hy => by obtain ⟨d, hd, _⟩ := Int_of_trod hy; exact ⟨d, hd, trivial⟩) h
  exact ⟨ds, h1, h2⟩
theorem TokL_of_trod {H : Type} {enc : TypeId × Value → H} {W : World} {fuel : Nat} {x : DataW H × List MemPlace} {a : Option Addr} {len cap : Nat} (h : DataW.trod enc Tryz.prog W 0 (fun _ => true) true fuel 24 [.slice a len cap] = some x) : ∃ ds : List Tk, Sl TkR 5 (fun _ => True) W a len ds ∧ (ds.length ≤ maxLen ∧ ∀ t ∈ ds, t.vs.size ≤ maxLen) :=
  sl_of_trod (R := TkR) (q := fun t : Tk => t.vs.size ≤ maxLen) (sz := 5) Tryz.underlying24 (by kernel_rfl) (by omega) (fun n c y hy => Tok_of_trod hy) h

theorem ValL_of_trod {H : Type} {enc : TypeId × Value → H} {W : World} {fuel : Nat} {x : DataW H × List MemPlace} {a : Option Addr} {len cap : Nat} (h : DataW.trod enc Tryz.prog W 0 (fun _ => true) true fuel 124 [.slice a len cap] = some x) : ∃ ds : List Vl, Sl VlR 3 (fun _ => True) W a len ds ∧ (ds.length ≤ maxLen ∧ ∀ v ∈ ds, v.s.size ≤ maxLen) :=
  sl_of_trod (R := VlR) (q := fun v : Vl => v.s.size ≤ maxLen) (sz := 3) Tryz.underlying124 (by kernel_rfl) (by omega) (fun n c y hy => Val_of_trod hy) h

set_option maxRecDepth 100000 in
theorem Col_of_trod {H : Type} {enc : TypeId × Value → H} {W : World} {fuel : Nat} {cs : List Value} {x : DataW H × List MemPlace} (h : DataW.trod enc Tryz.prog W 0 (fun _ => true) true fuel 175 cs = some x) : ∃ d, ClR (fun _ => True) W cs d ∧ d.wf := by
  obtain ⟨xs, n, _, _, hl, hlen, hf⟩ := DataW.trod_struct Tryz.underlying175 h
  rw [show Tryz.prog.cellsOf 175 = 6 by kernel_rfl] at hl
  match cs, hl, xs, hlen with
  | [c0, c1, c2, c3, c4, c5], _, [y0, y1, y2, y3], _ =>
    have e0 : DataW.trod enc Tryz.prog W 0 (fun _ => true) true n 9 [c0] = some y0 := by
      have := hf 0 _ rfl
      simpa [show Tryz.prog.cellsOf 9 = 1 by kernel_rfl] using this
    have e1 : DataW.trod enc Tryz.prog W 0 (fun _ => true) true n 2 [c1] = some y1 := by
      have := hf 1 _ rfl
      simpa [show Tryz.prog.cellsOf 2 = 1 by kernel_rfl] using this
    have e2 : DataW.trod enc Tryz.prog W 0 (fun _ => true) true n 4 [c2] = some y2 := by
      have := hf 2 _ rfl
      simpa [show Tryz.prog.cellsOf 4 = 1 by kernel_rfl] using this
    have e3 : DataW.trod enc Tryz.prog W 0 (fun _ => true) true n 92 [c3, c4, c5] = some y3 := by
      have := hf 3 _ rfl
      simpa [show Tryz.prog.cellsOf 92 = 3 by kernel_rfl] using this
    obtain ⟨z0, q0, -, u0⟩ := DataW.trod_string Tryz.underlying9 e0
    simp at q0
    subst q0
    obtain ⟨z1, q1, -, -⟩ := DataW.trod_int Tryz.underlying2 e1
    simp at q1
    subst q1
    obtain ⟨z2, q2, -⟩ := DataW.trod_bool Tryz.underlying4 e2
    simp at q2
    subst q2
    obtain ⟨z3, q3, u3⟩ := Val_of_trod e3
    have q3' : _ = Vl.cells z3 := q3
    simp only [Vl.cells, List.cons.injEq, and_true] at q3'
    obtain ⟨rfl, rfl, rfl⟩ := q3'
    exact ⟨⟨z0, z1, z2, z3⟩, rfl, ⟨u0, u3⟩⟩

theorem ColL_of_trod {H : Type} {enc : TypeId × Value → H} {W : World} {fuel : Nat} {x : DataW H × List MemPlace} {a : Option Addr} {len cap : Nat} (h : DataW.trod enc Tryz.prog W 0 (fun _ => true) true fuel 60 [.slice a len cap] = some x) : ∃ ds : List Cl, Sl ClR 6 (fun _ => True) W a len ds ∧ (ds.length ≤ maxLen ∧ ∀ y ∈ ds, y.wf) :=
  sl_of_trod (R := ClR) (q := Cl.wf) (sz := 6) Tryz.underlying60 (by kernel_rfl) (by omega) (fun n c y hy => Col_of_trod hy) h

set_option maxRecDepth 100000 in
theorem Unique_of_trod {H : Type} {enc : TypeId × Value → H} {W : World} {fuel : Nat} {cs : List Value} {x : DataW H × List MemPlace} (h : DataW.trod enc Tryz.prog W 0 (fun _ => true) true fuel 177 cs = some x) : ∃ d, UqR (fun _ => True) W cs d ∧ d.wf := by
  obtain ⟨xs, n, _, _, hl, hlen, hf⟩ := DataW.trod_struct Tryz.underlying177 h
  rw [show Tryz.prog.cellsOf 177 = 1 by kernel_rfl] at hl
  match cs, hl, xs, hlen with
  | [c0], _, [y0], _ =>
    have e0 : DataW.trod enc Tryz.prog W 0 (fun _ => true) true n 45 [c0] = some y0 := by
      have := hf 0 _ rfl
      simpa [show Tryz.prog.cellsOf 45 = 1 by kernel_rfl] using this
    obtain ⟨a0, l0, p0, rfl, hcp0⟩ : ∃ a l p, c0 = .slice a l p ∧ l ≤ p := by
      rcases open_slice Tryz.underlying45 e0 with ⟨hcs, _⟩ | ⟨ad, l, c, _, _, _, _, hcs, _, hlc, _⟩
      · exact ⟨_, _, _, by simpa using hcs, Nat.le_refl _⟩
      · exact ⟨_, _, _, by simpa using hcs, hlc⟩
    obtain ⟨z0, s0, u0⟩ := IntL_of_trod e0
    exact ⟨⟨z0⟩, ⟨_, _, _, rfl, s0, hcp0⟩, u0⟩

theorem UniqueL_of_trod {H : Type} {enc : TypeId × Value → H} {W : World} {fuel : Nat} {x : DataW H × List MemPlace} {a : Option Addr} {len cap : Nat} (h : DataW.trod enc Tryz.prog W 0 (fun _ => true) true fuel 61 [.slice a len cap] = some x) : ∃ ds : List Uq, Sl UqR 1 (fun _ => True) W a len ds ∧ (ds.length ≤ maxLen ∧ ∀ y ∈ ds, y.wf) :=
  sl_of_trod (R := UqR) (q := Uq.wf) (sz := 1) Tryz.underlying61 (by kernel_rfl) (by omega) (fun n c y hy => Unique_of_trod hy) h

set_option maxRecDepth 100000 in
theorem Check_of_trod {H : Type} {enc : TypeId × Value → H} {W : World} {fuel : Nat} {cs : List Value} {x : DataW H × List MemPlace} (h : DataW.trod enc Tryz.prog W 0 (fun _ => true) true fuel 180 cs = some x) : ∃ d, CkR (fun _ => True) W cs d ∧ d.wf := by
  obtain ⟨xs, n, _, _, hl, hlen, hf⟩ := DataW.trod_struct Tryz.underlying180 h
  rw [show Tryz.prog.cellsOf 180 = 1 by kernel_rfl] at hl
  match cs, hl, xs, hlen with
  | [c0], _, [y0], _ =>
    have e0 : DataW.trod enc Tryz.prog W 0 (fun _ => true) true n 24 [c0] = some y0 := by
      have := hf 0 _ rfl
      simpa [show Tryz.prog.cellsOf 24 = 1 by kernel_rfl] using this
    obtain ⟨a0, l0, p0, rfl, hcp0⟩ : ∃ a l p, c0 = .slice a l p ∧ l ≤ p := by
      rcases open_slice Tryz.underlying24 e0 with ⟨hcs, _⟩ | ⟨ad, l, c, _, _, _, _, hcs, _, hlc, _⟩
      · exact ⟨_, _, _, by simpa using hcs, Nat.le_refl _⟩
      · exact ⟨_, _, _, by simpa using hcs, hlc⟩
    obtain ⟨z0, s0, u0⟩ := TokL_of_trod e0
    exact ⟨⟨z0⟩, ⟨_, _, _, rfl, s0, hcp0⟩, u0⟩

theorem CheckL_of_trod {H : Type} {enc : TypeId × Value → H} {W : World} {fuel : Nat} {x : DataW H × List MemPlace} {a : Option Addr} {len cap : Nat} (h : DataW.trod enc Tryz.prog W 0 (fun _ => true) true fuel 62 [.slice a len cap] = some x) : ∃ ds : List Ck, Sl CkR 1 (fun _ => True) W a len ds ∧ (ds.length ≤ maxLen ∧ ∀ y ∈ ds, y.wf) :=
  sl_of_trod (R := CkR) (q := Ck.wf) (sz := 1) Tryz.underlying62 (by kernel_rfl) (by omega) (fun n c y hy => Check_of_trod hy) h

set_option maxRecDepth 100000 in
theorem Fk_of_trod {H : Type} {enc : TypeId × Value → H} {W : World} {fuel : Nat} {cs : List Value} {x : DataW H × List MemPlace} (h : DataW.trod enc Tryz.prog W 0 (fun _ => true) true fuel 182 cs = some x) : ∃ d, FkR (fun _ => True) W cs d ∧ d.wf := by
  obtain ⟨xs, n, _, _, hl, hlen, hf⟩ := DataW.trod_struct Tryz.underlying182 h
  rw [show Tryz.prog.cellsOf 182 = 5 by kernel_rfl] at hl
  match cs, hl, xs, hlen with
  | [c0, c1, c2, c3, c4], _, [y0, y1, y2, y3, y4], _ =>
    have e0 : DataW.trod enc Tryz.prog W 0 (fun _ => true) true n 45 [c0] = some y0 := by
      have := hf 0 _ rfl
      simpa [show Tryz.prog.cellsOf 45 = 1 by kernel_rfl] using this
    have e1 : DataW.trod enc Tryz.prog W 0 (fun _ => true) true n 9 [c1] = some y1 := by
      have := hf 1 _ rfl
      simpa [show Tryz.prog.cellsOf 9 = 1 by kernel_rfl] using this
    have e2 : DataW.trod enc Tryz.prog W 0 (fun _ => true) true n 2 [c2] = some y2 := by
      have := hf 2 _ rfl
      simpa [show Tryz.prog.cellsOf 2 = 1 by kernel_rfl] using this
    have e3 : DataW.trod enc Tryz.prog W 0 (fun _ => true) true n 2 [c3] = some y3 := by
      have := hf 3 _ rfl
      simpa [show Tryz.prog.cellsOf 2 = 1 by kernel_rfl] using this
    have e4 : DataW.trod enc Tryz.prog W 0 (fun _ => true) true n 4 [c4] = some y4 := by
      have := hf 4 _ rfl
      simpa [show Tryz.prog.cellsOf 4 = 1 by kernel_rfl] using this
    obtain ⟨a0, l0, p0, rfl, hcp0⟩ : ∃ a l p, c0 = .slice a l p ∧ l ≤ p := by
      rcases open_slice Tryz.underlying45 e0 with ⟨hcs, _⟩ | ⟨ad, l, c, _, _, _, _, hcs, _, hlc, _⟩
      · exact ⟨_, _, _, by simpa using hcs, Nat.le_refl _⟩
      · exact ⟨_, _, _, by simpa using hcs, hlc⟩
    obtain ⟨z0, s0, u0⟩ := IntL_of_trod e0
    obtain ⟨z1, q1, -, u1⟩ := DataW.trod_string Tryz.underlying9 e1
    simp at q1
    subst q1
    obtain ⟨z2, q2, -, -⟩ := DataW.trod_int Tryz.underlying2 e2
    simp at q2
    subst q2
    obtain ⟨z3, q3, -, -⟩ := DataW.trod_int Tryz.underlying2 e3
    simp at q3
    subst q3
    obtain ⟨z4, q4, -⟩ := DataW.trod_bool Tryz.underlying4 e4
    simp at q4
    subst q4
    exact ⟨⟨z0, z1, z2, z3, z4⟩, ⟨_, _, _, rfl, s0, hcp0⟩, ⟨u0, u1⟩⟩

theorem FkL_of_trod {H : Type} {enc : TypeId × Value → H} {W : World} {fuel : Nat} {x : DataW H × List MemPlace} {a : Option Addr} {len cap : Nat} (h : DataW.trod enc Tryz.prog W 0 (fun _ => true) true fuel 63 [.slice a len cap] = some x) : ∃ ds : List Fk, Sl FkR 5 (fun _ => True) W a len ds ∧ (ds.length ≤ maxLen ∧ ∀ y ∈ ds, y.wf) :=
  sl_of_trod (R := FkR) (q := Fk.wf) (sz := 5) Tryz.underlying63 (by kernel_rfl) (by omega) (fun n c y hy => Fk_of_trod hy) h

set_option maxRecDepth 100000 in
theorem Table_of_trod {H : Type} {enc : TypeId × Value → H} {W : World} {fuel : Nat} {cs : List Value} {x : DataW H × List MemPlace} (h : DataW.trod enc Tryz.prog W 0 (fun _ => true) true fuel 65 cs = some x) : ∃ d, TbR (fun _ => True) W cs d ∧ d.wf := by
  obtain ⟨xs, n, _, _, hl, hlen, hf⟩ := DataW.trod_struct Tryz.underlying65 h
  rw [show Tryz.prog.cellsOf 65 = 6 by kernel_rfl] at hl
  match cs, hl, xs, hlen with
  | [c0, c1, c2, c3, c4, c5], _, [y0, y1, y2, y3, y4, y5], _ =>
    have e0 : DataW.trod enc Tryz.prog W 0 (fun _ => true) true n 9 [c0] = some y0 := by
      have := hf 0 _ rfl
      simpa [show Tryz.prog.cellsOf 9 = 1 by kernel_rfl] using this
    have e1 : DataW.trod enc Tryz.prog W 0 (fun _ => true) true n 60 [c1] = some y1 := by
      have := hf 1 _ rfl
      simpa [show Tryz.prog.cellsOf 60 = 1 by kernel_rfl] using this
    have e2 : DataW.trod enc Tryz.prog W 0 (fun _ => true) true n 45 [c2] = some y2 := by
      have := hf 2 _ rfl
      simpa [show Tryz.prog.cellsOf 45 = 1 by kernel_rfl] using this
    have e3 : DataW.trod enc Tryz.prog W 0 (fun _ => true) true n 61 [c3] = some y3 := by
      have := hf 3 _ rfl
      simpa [show Tryz.prog.cellsOf 61 = 1 by kernel_rfl] using this
    have e4 : DataW.trod enc Tryz.prog W 0 (fun _ => true) true n 62 [c4] = some y4 := by
      have := hf 4 _ rfl
      simpa [show Tryz.prog.cellsOf 62 = 1 by kernel_rfl] using this
    have e5 : DataW.trod enc Tryz.prog W 0 (fun _ => true) true n 63 [c5] = some y5 := by
      have := hf 5 _ rfl
      simpa [show Tryz.prog.cellsOf 63 = 1 by kernel_rfl] using this
    obtain ⟨z0, q0, -, u0⟩ := DataW.trod_string Tryz.underlying9 e0
    simp at q0
    subst q0
    obtain ⟨a1, l1, p1, rfl, hcp1⟩ : ∃ a l p, c1 = .slice a l p ∧ l ≤ p := by
      rcases open_slice Tryz.underlying60 e1 with ⟨hcs, _⟩ | ⟨ad, l, c, _, _, _, _, hcs, _, hlc, _⟩
      · exact ⟨_, _, _, by simpa using hcs, Nat.le_refl _⟩
      · exact ⟨_, _, _, by simpa using hcs, hlc⟩
    obtain ⟨z1, s1, u1⟩ := ColL_of_trod e1
    obtain ⟨a2, l2, p2, rfl, hcp2⟩ : ∃ a l p, c2 = .slice a l p ∧ l ≤ p := by
      rcases open_slice Tryz.underlying45 e2 with ⟨hcs, _⟩ | ⟨ad, l, c, _, _, _, _, hcs, _, hlc, _⟩
      · exact ⟨_, _, _, by simpa using hcs, Nat.le_refl _⟩
      · exact ⟨_, _, _, by simpa using hcs, hlc⟩
    obtain ⟨z2, s2, u2⟩ := IntL_of_trod e2
    obtain ⟨a3, l3, p3, rfl, hcp3⟩ : ∃ a l p, c3 = .slice a l p ∧ l ≤ p := by
      rcases open_slice Tryz.underlying61 e3 with ⟨hcs, _⟩ | ⟨ad, l, c, _, _, _, _, hcs, _, hlc, _⟩
      · exact ⟨_, _, _, by simpa using hcs, Nat.le_refl _⟩
      · exact ⟨_, _, _, by simpa using hcs, hlc⟩
    obtain ⟨z3, s3, u3⟩ := UniqueL_of_trod e3
    obtain ⟨a4, l4, p4, rfl, hcp4⟩ : ∃ a l p, c4 = .slice a l p ∧ l ≤ p := by
      rcases open_slice Tryz.underlying62 e4 with ⟨hcs, _⟩ | ⟨ad, l, c, _, _, _, _, hcs, _, hlc, _⟩
      · exact ⟨_, _, _, by simpa using hcs, Nat.le_refl _⟩
      · exact ⟨_, _, _, by simpa using hcs, hlc⟩
    obtain ⟨z4, s4, u4⟩ := CheckL_of_trod e4
    obtain ⟨a5, l5, p5, rfl, hcp5⟩ : ∃ a l p, c5 = .slice a l p ∧ l ≤ p := by
      rcases open_slice Tryz.underlying63 e5 with ⟨hcs, _⟩ | ⟨ad, l, c, _, _, _, _, hcs, _, hlc, _⟩
      · exact ⟨_, _, _, by simpa using hcs, Nat.le_refl _⟩
      · exact ⟨_, _, _, by simpa using hcs, hlc⟩
    obtain ⟨z5, s5, u5⟩ := FkL_of_trod e5
    exact ⟨⟨z0, z1, z2, z3, z4, z5⟩, ⟨_, _, _, _, _, _, _, _, _, _, _, _, _, _, _, rfl, s1, s2, s3, s4, s5, ⟨hcp1, hcp2, hcp3, hcp4, hcp5⟩⟩, ⟨u0, u1, u2, u3, u4, u5⟩⟩

theorem TableL_of_trod {H : Type} {enc : TypeId × Value → H} {W : World} {fuel : Nat} {x : DataW H × List MemPlace} {a : Option Addr} {len cap : Nat} (h : DataW.trod enc Tryz.prog W 0 (fun _ => true) true fuel 22 [.slice a len cap] = some x) : ∃ ds : List Tb, Sl TbR 6 (fun _ => True) W a len ds ∧ (ds.length ≤ maxLen ∧ ∀ y ∈ ds, y.wf) :=
  sl_of_trod (R := TbR) (q := Tb.wf) (sz := 6) Tryz.underlying22 (by kernel_rfl) (by omega) (fun n c y hy => Table_of_trod hy) h

set_option maxRecDepth 100000 in
theorem Row_of_trod {H : Type} {enc : TypeId × Value → H} {W : World} {fuel : Nat} {cs : List Value} {x : DataW H × List MemPlace} (h : DataW.trod enc Tryz.prog W 0 (fun _ => true) true fuel 126 cs = some x) : ∃ d, RwR (fun _ => True) W cs d ∧ d.wf := by
  obtain ⟨xs, n, _, _, hl, hlen, hf⟩ := DataW.trod_struct Tryz.underlying126 h
  rw [show Tryz.prog.cellsOf 126 = 2 by kernel_rfl] at hl
  match cs, hl, xs, hlen with
  | [c0, c1], _, [y0, y1], _ =>
    have e0 : DataW.trod enc Tryz.prog W 0 (fun _ => true) true n 2 [c0] = some y0 := by
      have := hf 0 _ rfl
      simpa [show Tryz.prog.cellsOf 2 = 1 by kernel_rfl] using this
    have e1 : DataW.trod enc Tryz.prog W 0 (fun _ => true) true n 124 [c1] = some y1 := by
      have := hf 1 _ rfl
      simpa [show Tryz.prog.cellsOf 124 = 1 by kernel_rfl] using this
    obtain ⟨z0, q0, -, -⟩ := DataW.trod_int Tryz.underlying2 e0
    simp at q0
    subst q0
    obtain ⟨a1, l1, p1, rfl, hcp1⟩ : ∃ a l p, c1 = .slice a l p ∧ l ≤ p := by
      rcases open_slice Tryz.underlying124 e1 with ⟨hcs, _⟩ | ⟨ad, l, c, _, _, _, _, hcs, _, hlc, _⟩
      · exact ⟨_, _, _, by simpa using hcs, Nat.le_refl _⟩
      · exact ⟨_, _, _, by simpa using hcs, hlc⟩
    obtain ⟨z1, s1, u1⟩ := ValL_of_trod e1
    exact ⟨⟨z0, z1⟩, ⟨_, _, _, rfl, s1, hcp1⟩, u1⟩

theorem RowL_of_trod {H : Type} {enc : TypeId × Value → H} {W : World} {fuel : Nat} {x : DataW H × List MemPlace} {a : Option Addr} {len cap : Nat} (h : DataW.trod enc Tryz.prog W 0 (fun _ => true) true fuel 23 [.slice a len cap] = some x) : ∃ ds : List Rw, Sl RwR 2 (fun _ => True) W a len ds ∧ (ds.length ≤ maxLen ∧ ∀ y ∈ ds, y.wf) :=
  sl_of_trod (R := RwR) (q := Rw.wf) (sz := 2) Tryz.underlying23 (by kernel_rfl) (by omega) (fun n c y hy => Row_of_trod hy) h

set_option maxRecDepth 100000 in
theorem Data_of_trod {H : Type} {enc : TypeId × Value → H} {W : World} {fuel : Nat} {cs : List Value} {x : DataW H × List MemPlace} (h : DataW.trod enc Tryz.prog W 0 (fun _ => true) true fuel 89 cs = some x) : ∃ d, DtR (fun _ => True) W cs d ∧ d.wf := by
  obtain ⟨xs, n, _, _, hl, hlen, hf⟩ := DataW.trod_struct Tryz.underlying89 h
  rw [show Tryz.prog.cellsOf 89 = 1 by kernel_rfl] at hl
  match cs, hl, xs, hlen with
  | [c0], _, [y0], _ =>
    have e0 : DataW.trod enc Tryz.prog W 0 (fun _ => true) true n 23 [c0] = some y0 := by
      have := hf 0 _ rfl
      simpa [show Tryz.prog.cellsOf 23 = 1 by kernel_rfl] using this
    obtain ⟨a0, l0, p0, rfl, hcp0⟩ : ∃ a l p, c0 = .slice a l p ∧ l ≤ p := by
      rcases open_slice Tryz.underlying23 e0 with ⟨hcs, _⟩ | ⟨ad, l, c, _, _, _, _, hcs, _, hlc, _⟩
      · exact ⟨_, _, _, by simpa using hcs, Nat.le_refl _⟩
      · exact ⟨_, _, _, by simpa using hcs, hlc⟩
    obtain ⟨z0, s0, u0⟩ := RowL_of_trod e0
    exact ⟨⟨z0⟩, ⟨_, _, _, rfl, s0, hcp0⟩, u0⟩

theorem DataL_of_trod {H : Type} {enc : TypeId × Value → H} {W : World} {fuel : Nat} {x : DataW H × List MemPlace} {a : Option Addr} {len cap : Nat} (h : DataW.trod enc Tryz.prog W 0 (fun _ => true) true fuel 42 [.slice a len cap] = some x) : ∃ ds : List Dt, Sl DtR 1 (fun _ => True) W a len ds ∧ (ds.length ≤ maxLen ∧ ∀ y ∈ ds, y.wf) :=
  sl_of_trod (R := DtR) (q := Dt.wf) (sz := 1) Tryz.underlying42 (by kernel_rfl) (by omega) (fun n c y hy => Data_of_trod hy) h

set_option maxRecDepth 100000 in
theorem Set_of_trod {H : Type} {enc : TypeId × Value → H} {W : World} {fuel : Nat} {cs : List Value} {x : DataW H × List MemPlace} (h : DataW.trod enc Tryz.prog W 0 (fun _ => true) true fuel 129 cs = some x) : ∃ d, SeR (fun _ => True) W cs d ∧ d.wf := by
  obtain ⟨xs, n, _, _, hl, hlen, hf⟩ := DataW.trod_struct Tryz.underlying129 h
  rw [show Tryz.prog.cellsOf 129 = 2 by kernel_rfl] at hl
  match cs, hl, xs, hlen with
  | [c0, c1], _, [y0, y1], _ =>
    have e0 : DataW.trod enc Tryz.prog W 0 (fun _ => true) true n 2 [c0] = some y0 := by
      have := hf 0 _ rfl
      simpa [show Tryz.prog.cellsOf 2 = 1 by kernel_rfl] using this
    have e1 : DataW.trod enc Tryz.prog W 0 (fun _ => true) true n 24 [c1] = some y1 := by
      have := hf 1 _ rfl
      simpa [show Tryz.prog.cellsOf 24 = 1 by kernel_rfl] using this
    obtain ⟨z0, q0, -, -⟩ := DataW.trod_int Tryz.underlying2 e0
    simp at q0
    subst q0
    obtain ⟨a1, l1, p1, rfl, hcp1⟩ : ∃ a l p, c1 = .slice a l p ∧ l ≤ p := by
      rcases open_slice Tryz.underlying24 e1 with ⟨hcs, _⟩ | ⟨ad, l, c, _, _, _, _, hcs, _, hlc, _⟩
      · exact ⟨_, _, _, by simpa using hcs, Nat.le_refl _⟩
      · exact ⟨_, _, _, by simpa using hcs, hlc⟩
    obtain ⟨z1, s1, u1⟩ := TokL_of_trod e1
    exact ⟨⟨z0, z1⟩, ⟨_, _, _, rfl, s1, hcp1⟩, u1⟩

theorem SetL_of_trod {H : Type} {enc : TypeId × Value → H} {W : World} {fuel : Nat} {x : DataW H × List MemPlace} {a : Option Addr} {len cap : Nat} (h : DataW.trod enc Tryz.prog W 0 (fun _ => true) true fuel 25 [.slice a len cap] = some x) : ∃ ds : List Se, Sl SeR 2 (fun _ => True) W a len ds ∧ (ds.length ≤ maxLen ∧ ∀ y ∈ ds, y.wf) :=
  sl_of_trod (R := SeR) (q := Se.wf) (sz := 2) Tryz.underlying25 (by kernel_rfl) (by omega) (fun n c y hy => Set_of_trod hy) h

set_option maxRecDepth 100000 in
theorem Stmt_of_trod {H : Type} {enc : TypeId × Value → H} {W : World} {fuel : Nat} {cs : List Value} {x : DataW H × List MemPlace} (h : DataW.trod enc Tryz.prog W 0 (fun _ => true) true fuel 27 cs = some x) : ∃ d, SqR (fun _ => True) W cs d ∧ d.wf := by
  obtain ⟨xs, n, _, _, hl, hlen, hf⟩ := DataW.trod_struct Tryz.underlying27 h
  rw [show Tryz.prog.cellsOf 27 = 6 by kernel_rfl] at hl
  match cs, hl, xs, hlen with
  | [c0, c1, c2, c3, c4, c5], _, [y0, y1, y2, y3, y4, y5], _ =>
    have e0 : DataW.trod enc Tryz.prog W 0 (fun _ => true) true n 2 [c0] = some y0 := by
      have := hf 0 _ rfl
      simpa [show Tryz.prog.cellsOf 2 = 1 by kernel_rfl] using this
    have e1 : DataW.trod enc Tryz.prog W 0 (fun _ => true) true n 9 [c1] = some y1 := by
      have := hf 1 _ rfl
      simpa [show Tryz.prog.cellsOf 9 = 1 by kernel_rfl] using this
    have e2 : DataW.trod enc Tryz.prog W 0 (fun _ => true) true n 23 [c2] = some y2 := by
      have := hf 2 _ rfl
      simpa [show Tryz.prog.cellsOf 23 = 1 by kernel_rfl] using this
    have e3 : DataW.trod enc Tryz.prog W 0 (fun _ => true) true n 24 [c3] = some y3 := by
      have := hf 3 _ rfl
      simpa [show Tryz.prog.cellsOf 24 = 1 by kernel_rfl] using this
    have e4 : DataW.trod enc Tryz.prog W 0 (fun _ => true) true n 25 [c4] = some y4 := by
      have := hf 4 _ rfl
      simpa [show Tryz.prog.cellsOf 25 = 1 by kernel_rfl] using this
    have e5 : DataW.trod enc Tryz.prog W 0 (fun _ => true) true n 2 [c5] = some y5 := by
      have := hf 5 _ rfl
      simpa [show Tryz.prog.cellsOf 2 = 1 by kernel_rfl] using this
    obtain ⟨z0, q0, -, -⟩ := DataW.trod_int Tryz.underlying2 e0
    simp at q0
    subst q0
    obtain ⟨z1, q1, -, u1⟩ := DataW.trod_string Tryz.underlying9 e1
    simp at q1
    subst q1
    obtain ⟨a2, l2, p2, rfl, hcp2⟩ : ∃ a l p, c2 = .slice a l p ∧ l ≤ p := by
      rcases open_slice Tryz.underlying23 e2 with ⟨hcs, _⟩ | ⟨ad, l, c, _, _, _, _, hcs, _, hlc, _⟩
      · exact ⟨_, _, _, by simpa using hcs, Nat.le_refl _⟩
      · exact ⟨_, _, _, by simpa using hcs, hlc⟩
    obtain ⟨z2, s2, u2⟩ := RowL_of_trod e2
    obtain ⟨a3, l3, p3, rfl, hcp3⟩ : ∃ a l p, c3 = .slice a l p ∧ l ≤ p := by
      rcases open_slice Tryz.underlying24 e3 with ⟨hcs, _⟩ | ⟨ad, l, c, _, _, _, _, hcs, _, hlc, _⟩
      · exact ⟨_, _, _, by simpa using hcs, Nat.le_refl _⟩
      · exact ⟨_, _, _, by simpa using hcs, hlc⟩
    obtain ⟨z3, s3, u3⟩ := TokL_of_trod e3
    obtain ⟨a4, l4, p4, rfl, hcp4⟩ : ∃ a l p, c4 = .slice a l p ∧ l ≤ p := by
      rcases open_slice Tryz.underlying25 e4 with ⟨hcs, _⟩ | ⟨ad, l, c, _, _, _, _, hcs, _, hlc, _⟩
      · exact ⟨_, _, _, by simpa using hcs, Nat.le_refl _⟩
      · exact ⟨_, _, _, by simpa using hcs, hlc⟩
    obtain ⟨z4, s4, u4⟩ := SetL_of_trod e4
    obtain ⟨z5, q5, -, -⟩ := DataW.trod_int Tryz.underlying2 e5
    simp at q5
    subst q5
    exact ⟨⟨z0, z1, z2, z3, z4, z5⟩, ⟨_, _, _, _, _, _, _, _, _, rfl, s2, s3, s4, ⟨hcp2, hcp3, hcp4⟩⟩, ⟨u1, u2, u3, u4⟩⟩


end Go.Proofs.YtfhiknndflahgaaGreat
namespace Go.Proofs.YtfhiknndflahgaaGreat
open Go.RowKit
set_option linter.unusedVariables false

theorem lawsSzInts (A : Option Addr) (n c : Nat) (l : List Int) (left : Int) (ok : Nat → Prop) (w : World) (h : Sl IntR 1 ok w A n l) (hwf : l.length ≤ maxLen) (hp0 : 0 ≤ left) (hle : left ≤ 1048576) :
    Calls Tryz.prog 63 #[.slice A n c, .int .i64 left] w fun e w' => e = .returned (.int .i64 (szR left l.length)) ∧ Below w.heap.size w w' := by
  obtain rfl : l.length = n := h.1
  unfold maxLen at hwf
  by_cases hs : left - (l.length : Int) < 0
  · go_enter Tryz.func63, Tryz.ntmps63
    go_wp2
    go_ret
    exact ⟨retI (szR_no (by omega)), Below.refl _ _⟩
  · have hs' : decide (left - (l.length : Int) < 0) = false := by simpa using hs
    go_enter Tryz.func63, Tryz.ntmps63
    go_wp2
    go_ret
    exact ⟨retI (szR_yes (by omega) rfl), Below.refl _ _⟩

theorem lawsSzValR (v : Vl) (left : Int) (w : World) (hs : v.s.size ≤ maxLen) (h0 : 0 ≤ left) (h1 : left ≤ 1048576) :
    Calls Tryz.prog 93 #[.agg #[.int .i64 v.k, .int .i64 v.n, .string v.s], .int .i64 left] w fun e w' => e = .returned (.int .i64 (szR left v.s.size)) ∧ Below w.heap.size w w' :=
  (lawsSzVal v.k v.n v.s left w h0 h1 hs).mono fun e w' ⟨he, hb⟩ => ⟨by rw [he, show szN left v.s = szR left v.s.size by unfold szN szR; split <;> split <;> omega], hb⟩
theorem lawsSzTokR (x : Tk) (left : Int) (w : World) (hs : x.vs.size ≤ maxLen) (h0 : 0 ≤ left) (h1 : left ≤ 1048576) :
    Calls Tryz.prog 45 #[.agg #[.int .i64 x.k, .int .i64 x.c, .int .i64 x.vk, .int .i64 x.vn, .string x.vs], .int .i64 left] w fun e w' => e = .returned (.int .i64 (szR left x.vs.size)) ∧ Below w.heap.size w w' :=
  (lawsSzTok x left w h0 h1 hs).mono fun e w' ⟨he, hb⟩ => ⟨by rw [he, show szN left x.vs = szR left x.vs.size by unfold szN szR; split <;> split <;> omega], hb⟩

set_option maxHeartbeats 1000000 in
theorem lawsSzTokL (A : Option Addr) (n c : Nat) (l : List Tk) (left : Int) (ok : Nat → Prop) (w : World) (h : Sl TkR 5 ok w A n l) (hwf : (l.length ≤ maxLen ∧ ∀ t ∈ l, t.vs.size ≤ maxLen)) (hp0 : 0 ≤ left) (hle : left ≤ 1048576) :
    Calls Tryz.prog 14 #[.slice A n c, .int .i64 left] w fun e w' => e = .returned (.int .i64 (szR left (szL (fun t : Tk => t.vs.size) l))) ∧ Below w.heap.size w w' := by
  obtain rfl : l.length = n := h.1
  obtain ⟨hlen, hall⟩ := hwf
  unfold maxLen at hlen
  have HW := Lib.hid hall
  clear hall
  by_cases hs : left - (l.length : Int) < 0
  · go_enter Tryz.func14, Tryz.ntmps14
    go_wp2
    go_ret
    exact ⟨retI (szR_no (by unfold szL; omega)), Below.refl _ _⟩
  have hs' : decide (left - (l.length : Int) < 0) = false := by simpa using hs
  go_enter Tryz.func14, Tryz.ntmps14
  go_wp2
  go_loopw [1, 5] (fun m i wr => ∃ (k : Nat) (u : Int), k ≤ l.length ∧ i = .int .i64 k ∧ m = .int .i64 u ∧ 0 ≤ u ∧ u ≤ left ∧ Hid (u = left - l.length - ((l.take k).map (fun t : Tk => t.vs.size)).sum) ∧ Below w.heap.size w wr) (fun _ i _ => l.length - (intOf i).toNat)
  case atStart => exact ⟨0, _, by omega, rfl, rfl, by omega, by omega, Lib.hid (by simp), Below.refl _ _⟩
  case round =>
    obtain ⟨k, u, hk, rfl, rfl, hu0, hu1, hu, hb⟩ := hrel
    by_cases hlt : k < l.length
    · obtain ⟨b, off, -, rfl, q0, q1, q2, q3, q4⟩ := TkR.at_ (h.below TkR.stays hb) hlt
      have hx := HW.out _ (List.getElem_mem hlt)
      have hst := sum_take (fun t : Tk => t.vs.size) l k hlt
      have hsl := sum_take_le (fun t : Tk => t.vs.size) l (k + 1)
      have HST := Lib.hid hst
      have HSL := Lib.hid hsl
      have HX := Lib.hid hx
      clear hst hsl hx
      rcases szR_cases u (l[k].vs.size) hu0 with ⟨hno, hv⟩ | ⟨u', hv, hu', hu0', hu1', -⟩
      · go_wp2_with fail
        refine (lawsSzTokR l[k] u _ HX.out hu0 (by omega)).mono ?_
        rintro e w1 ⟨rfl, hb1⟩
        rw [hv.out]
        go_wp2_with fail
        go_ret
        exact ⟨retI (szR_no (by have e1 := hu.out; have e2 := HST.out; have e3 := HSL.out; unfold szL; (try simp only at e1 e2 e3 ⊢); omega)), hb.trans (hb1.mono hb.size)⟩
      · go_wp2_with fail
        refine (lawsSzTokR l[k] u _ HX.out hu0 (by omega)).mono ?_
        rintro e w1 ⟨rfl, hb1⟩
        rw [hv.out]
        go_wp2_with fail
        go_roundw
        case rel => exact ⟨k + 1, _, by omega, by go_num, rfl, by omega, by omega, Lib.hid (by have e1 := hu.out; have e2 := HST.out; have e3 := hu'.out; (try simp only at e1 e2 e3 ⊢); omega), hb.trans (hb1.mono hb.size)⟩
        case measure => simp [intOf]; omega
    · have e : l.take k = l := List.take_of_length_le (by omega)
      have e1 := hu.out
      rw [e] at e1
      have HU := Lib.hid e1
      clear e1 hu e
      go_wp2
      go_ret
      exact ⟨retI (szR_yes (by omega) (by have e1 := HU.out; unfold szL; omega)), hb⟩

set_option maxHeartbeats 1000000 in
theorem lawsSzValL (A : Option Addr) (n c : Nat) (l : List Vl) (left : Int) (ok : Nat → Prop) (w : World) (h : Sl VlR 3 ok w A n l) (hwf : (l.length ≤ maxLen ∧ ∀ v ∈ l, v.s.size ≤ maxLen)) (hp0 : 0 ≤ left) (hle : left ≤ 1048576) :
    Calls Tryz.prog 107 #[.slice A n c, .int .i64 left] w fun e w' => e = .returned (.int .i64 (szR left (szL (fun v : Vl => v.s.size) l))) ∧ Below w.heap.size w w' := by
  obtain rfl : l.length = n := h.1
  obtain ⟨hlen, hall⟩ := hwf
  unfold maxLen at hlen
  have HW := Lib.hid hall
  clear hall
  by_cases hs : left - (l.length : Int) < 0
  · go_enter Tryz.func107, Tryz.ntmps107
    go_wp2
    go_ret
    exact ⟨retI (szR_no (by unfold szL; omega)), Below.refl _ _⟩
  have hs' : decide (left - (l.length : Int) < 0) = false := by simpa using hs
  go_enter Tryz.func107, Tryz.ntmps107
  go_wp2
  go_loopw [1, 5] (fun m i wr => ∃ (k : Nat) (u : Int), k ≤ l.length ∧ i = .int .i64 k ∧ m = .int .i64 u ∧ 0 ≤ u ∧ u ≤ left ∧ Hid (u = left - l.length - ((l.take k).map (fun v : Vl => v.s.size)).sum) ∧ Below w.heap.size w wr) (fun _ i _ => l.length - (intOf i).toNat)
  case atStart => exact ⟨0, _, by omega, rfl, rfl, by omega, by omega, Lib.hid (by simp), Below.refl _ _⟩
  case round =>
    obtain ⟨k, u, hk, rfl, rfl, hu0, hu1, hu, hb⟩ := hrel
    by_cases hlt : k < l.length
    · obtain ⟨b, off, -, rfl, q0, q1, q2⟩ := VlR.at_ (h.below VlR.stays hb) hlt
      have hx := HW.out _ (List.getElem_mem hlt)
      have hst := sum_take (fun v : Vl => v.s.size) l k hlt
      have hsl := sum_take_le (fun v : Vl => v.s.size) l (k + 1)
      have HST := Lib.hid hst
      have HSL := Lib.hid hsl
      have HX := Lib.hid hx
      clear hst hsl hx
      rcases szR_cases u (l[k].s.size) hu0 with ⟨hno, hv⟩ | ⟨u', hv, hu', hu0', hu1', -⟩
      · go_wp2_with fail
        refine (lawsSzValR l[k] u _ HX.out hu0 (by omega)).mono ?_
        rintro e w1 ⟨rfl, hb1⟩
        rw [hv.out]
        go_wp2_with fail
        go_ret
        exact ⟨retI (szR_no (by have e1 := hu.out; have e2 := HST.out; have e3 := HSL.out; unfold szL; (try simp only at e1 e2 e3 ⊢); omega)), hb.trans (hb1.mono hb.size)⟩
      · go_wp2_with fail
        refine (lawsSzValR l[k] u _ HX.out hu0 (by omega)).mono ?_
        rintro e w1 ⟨rfl, hb1⟩
        rw [hv.out]
        go_wp2_with fail
        go_roundw
        case rel => exact ⟨k + 1, _, by omega, by go_num, rfl, by omega, by omega, Lib.hid (by have e1 := hu.out; have e2 := HST.out; have e3 := hu'.out; (try simp only at e1 e2 e3 ⊢); omega), hb.trans (hb1.mono hb.size)⟩
        case measure => simp [intOf]; omega
    · have e : l.take k = l := List.take_of_length_le (by omega)
      have e1 := hu.out
      rw [e] at e1
      have HU := Lib.hid e1
      clear e1 hu e
      go_wp2
      go_ret
      exact ⟨retI (szR_yes (by omega) (by have e1 := HU.out; unfold szL; omega)), hb⟩

set_option maxRecDepth 100000 in
set_option maxHeartbeats 1000000 in
theorem lawsSzCol (x : Cl)  (left : Int) (ok : Nat → Prop) (w : World)  (hwf : x.wf) (hp0 : 0 ≤ left) (hle : left ≤ 1048576) :
    Calls Tryz.prog 103 #[.agg #[.string x.name, .int .i64 x.kind, .bool x.nn, .int .i64 x.d.k, .int .i64 x.d.n, .string x.d.s], .int .i64 left] w fun e w' => e = .returned (.int .i64 (szR left x.sz)) ∧ Below w.heap.size w w' := by
  obtain ⟨wf0, wf3⟩ := hwf
  unfold maxLen at wf0
  have WF3 := Lib.hid wf3
  clear wf3
  have HB := Lib.hid ((Below.refl w.heap.size w).alloc (Nat.le_refl _) (.cells #[.string x.name, .int .i64 x.kind, .bool x.nn, .int .i64 x.d.k, .int .i64 x.d.n, .string x.d.s] 175))
  have RB := Lib.hid (Row.new w 175 #[.string x.name, .int .i64 x.kind, .bool x.nn, .int .i64 x.d.k, .int .i64 x.d.n, .string x.d.s])
  by_cases hs0 : left - (x.name.size : Int) < 0
  · go_enter Tryz.func103, Tryz.ntmps103
    go_wp2_with fail
    go_ret
    exact ⟨retI (szR_no (by simp only [Cl.sz]; omega)), HB.out⟩
  have hs0' : decide (left - (x.name.size : Int) < 0) = false := by simpa using hs0
  go_enter Tryz.func103, Tryz.ntmps103
  go_wp2_with fail
  refine (lawsSzValR x.d (left - (x.name.size : Int)) _ WF3.out (by omega) (by omega)).mono ?_
  rintro e w1 ⟨rfl, hb1⟩
  have hbb1 := (HB.out).trans (hb1.mono (HB.out).size)
  have RB1 := Lib.hid ((RB.out).below hb1)
  obtain ⟨⟨p1_0, p1_1, p1_2, p1_3, p1_4, p1_5⟩, -⟩ := RB1.out.all6
  rcases szR_cases (left - (x.name.size : Int)) (x.d.s.size) (by omega) with ⟨hno1, hv1⟩ | ⟨l1, hv1, hl1, h01, h11, -⟩
  · rw [hv1.out]
    go_wp2_with fail
    go_ret
    exact ⟨retI (szR_no (by simp only [Cl.sz]; omega)), hbb1⟩
  rw [hv1.out]
  go_wp2_with fail
  go_ret
  exact ⟨retI (szR_yes (by omega) (by have := hl1.out; simp only [Cl.sz]; omega)), hbb1⟩

set_option maxHeartbeats 1000000 in
theorem lawsSzColL (A : Option Addr) (n c : Nat) (l : List Cl) (left : Int) (ok : Nat → Prop) (w : World) (h : Sl ClR 6 ok w A n l) (hwf : (l.length ≤ maxLen ∧ ∀ y ∈ l, y.wf)) (hp0 : 0 ≤ left) (hle : left ≤ 1048576) :
    Calls Tryz.prog 62 #[.slice A n c, .int .i64 left] w fun e w' => e = .returned (.int .i64 (szR left (szL Cl.sz l))) ∧ Below w.heap.size w w' := by
  obtain rfl : l.length = n := h.1
  obtain ⟨hlen, hall⟩ := hwf
  unfold maxLen at hlen
  have HW := Lib.hid hall
  clear hall
  by_cases hs : left - (l.length : Int) < 0
  · go_enter Tryz.func62, Tryz.ntmps62
    go_wp2
    go_ret
    exact ⟨retI (szR_no (by unfold szL; omega)), Below.refl _ _⟩
  have hs' : decide (left - (l.length : Int) < 0) = false := by simpa using hs
  go_enter Tryz.func62, Tryz.ntmps62
  go_wp2
  go_loopw [1, 5] (fun m i wr => ∃ (k : Nat) (u : Int), k ≤ l.length ∧ i = .int .i64 k ∧ m = .int .i64 u ∧ 0 ≤ u ∧ u ≤ left ∧ Hid (u = left - l.length - ((l.take k).map (Cl.sz)).sum) ∧ Below w.heap.size w wr) (fun _ i _ => l.length - (intOf i).toNat)
  case atStart => exact ⟨0, _, by omega, rfl, rfl, by omega, by omega, Lib.hid (by simp), Below.refl _ _⟩
  case round =>
    obtain ⟨k, u, hk, rfl, rfl, hu0, hu1, hu, hb⟩ := hrel
    by_cases hlt : k < l.length
    · obtain ⟨b, off, -, rfl, q0, q1, q2, q3, q4, q5⟩ := ClR.at_ (h.below ClR.stays hb) hlt
      have hx := HW.out _ (List.getElem_mem hlt)
      have hst := sum_take (Cl.sz) l k hlt
      have hsl := sum_take_le (Cl.sz) l (k + 1)
      have HST := Lib.hid hst
      have HSL := Lib.hid hsl
      have HX := Lib.hid hx
      clear hst hsl hx
      rcases szR_cases u (l[k].sz) hu0 with ⟨hno, hv⟩ | ⟨u', hv, hu', hu0', hu1', -⟩
      · go_wp2_with fail
        refine (lawsSzCol l[k]  u ok _  HX.out hu0 (by omega)).mono ?_
        rintro e w1 ⟨rfl, hb1⟩
        rw [hv.out]
        go_wp2_with fail
        go_ret
        exact ⟨retI (szR_no (by have e1 := hu.out; have e2 := HST.out; have e3 := HSL.out; unfold szL; (try simp only at e1 e2 e3 ⊢); omega)), hb.trans (hb1.mono hb.size)⟩
      · go_wp2_with fail
        refine (lawsSzCol l[k]  u ok _  HX.out hu0 (by omega)).mono ?_
        rintro e w1 ⟨rfl, hb1⟩
        rw [hv.out]
        go_wp2_with fail
        go_roundw
        case rel => exact ⟨k + 1, _, by omega, by go_num, rfl, by omega, by omega, Lib.hid (by have e1 := hu.out; have e2 := HST.out; have e3 := hu'.out; (try simp only at e1 e2 e3 ⊢); omega), hb.trans (hb1.mono hb.size)⟩
        case measure => simp [intOf]; omega
    · have e : l.take k = l := List.take_of_length_le (by omega)
      have e1 := hu.out
      rw [e] at e1
      have HU := Lib.hid e1
      clear e1 hu e
      go_wp2
      go_ret
      exact ⟨retI (szR_yes (by omega) (by have e1 := HU.out; unfold szL; omega)), hb⟩

set_option maxRecDepth 100000 in
set_option maxHeartbeats 1000000 in
theorem lawsSzUnique (x : Uq) (A0 : Option Addr) (n0 c0 : Nat) (left : Int) (ok : Nat → Prop) (w : World) (h0 : Sl IntR 1 ok w A0 n0 x.cols) (hwf : x.wf) (hp0 : 0 ≤ left) (hle : left ≤ 1048576) :
    Calls Tryz.prog 104 #[.agg #[.slice A0 n0 c0], .int .i64 left] w fun e w' => e = .returned (.int .i64 (szR left x.sz)) ∧ Below w.heap.size w w' := by
  have wf0 := hwf
  have WF0 := Lib.hid wf0
  clear wf0
  have HB := Lib.hid ((Below.refl w.heap.size w).alloc (Nat.le_refl _) (.cells #[.slice A0 n0 c0] 177))
  have RB := Lib.hid (Row.new w 177 #[.slice A0 n0 c0])
  go_enter Tryz.func104, Tryz.ntmps104
  go_wp2_with fail
  refine (lawsSzInts A0 n0 c0 x.cols left ok _ (h0.below IntR.stays HB.out) WF0.out (by omega) (by omega)).mono ?_
  rintro e w1 ⟨rfl, hb1⟩
  have hbb1 := (HB.out).trans (hb1.mono (HB.out).size)
  have RB1 := Lib.hid ((RB.out).below hb1)
  obtain ⟨p1_0, -⟩ := RB1.out.all1
  rcases szR_cases left (x.cols.length) (by omega) with ⟨hno1, hv1⟩ | ⟨l1, hv1, hl1, h01, h11, -⟩
  · rw [hv1.out]
    go_wp2_with fail
    go_ret
    exact ⟨retI (szR_no (by simp only [Uq.sz]; omega)), hbb1⟩
  rw [hv1.out]
  go_wp2_with fail
  go_ret
  exact ⟨retI (szR_yes (by omega) (by have := hl1.out; simp only [Uq.sz]; omega)), hbb1⟩

set_option maxHeartbeats 1000000 in
theorem lawsSzUniqueL (A : Option Addr) (n c : Nat) (l : List Uq) (left : Int) (ok : Nat → Prop) (w : World) (h : Sl UqR 1 ok w A n l) (hwf : (l.length ≤ maxLen ∧ ∀ y ∈ l, y.wf)) (hp0 : 0 ≤ left) (hle : left ≤ 1048576) :
    Calls Tryz.prog 64 #[.slice A n c, .int .i64 left] w fun e w' => e = .returned (.int .i64 (szR left (szL Uq.sz l))) ∧ Below w.heap.size w w' := by
  obtain rfl : l.length = n := h.1
  obtain ⟨hlen, hall⟩ := hwf
  unfold maxLen at hlen
  have HW := Lib.hid hall
  clear hall
  by_cases hs : left - (l.length : Int) < 0
  · go_enter Tryz.func64, Tryz.ntmps64
    go_wp2
    go_ret
    exact ⟨retI (szR_no (by unfold szL; omega)), Below.refl _ _⟩
  have hs' : decide (left - (l.length : Int) < 0) = false := by simpa using hs
  go_enter Tryz.func64, Tryz.ntmps64
  go_wp2
  go_loopw [1, 5] (fun m i wr => ∃ (k : Nat) (u : Int), k ≤ l.length ∧ i = .int .i64 k ∧ m = .int .i64 u ∧ 0 ≤ u ∧ u ≤ left ∧ Hid (u = left - l.length - ((l.take k).map (Uq.sz)).sum) ∧ Below w.heap.size w wr) (fun _ i _ => l.length - (intOf i).toNat)
  case atStart => exact ⟨0, _, by omega, rfl, rfl, by omega, by omega, Lib.hid (by simp), Below.refl _ _⟩
  case round =>
    obtain ⟨k, u, hk, rfl, rfl, hu0, hu1, hu, hb⟩ := hrel
    by_cases hlt : k < l.length
    · obtain ⟨b, off, A0, n0, c0, -, rfl, q0, s0, -⟩ := UqR.at_ (h.below UqR.stays hb) hlt
      have hx := HW.out _ (List.getElem_mem hlt)
      have hst := sum_take (Uq.sz) l k hlt
      have hsl := sum_take_le (Uq.sz) l (k + 1)
      have HST := Lib.hid hst
      have HSL := Lib.hid hsl
      have HX := Lib.hid hx
      clear hst hsl hx
      rcases szR_cases u (l[k].sz) hu0 with ⟨hno, hv⟩ | ⟨u', hv, hu', hu0', hu1', -⟩
      · go_wp2_with fail
        refine (lawsSzUnique l[k] A0 n0 c0 u ok _ s0 HX.out hu0 (by omega)).mono ?_
        rintro e w1 ⟨rfl, hb1⟩
        rw [hv.out]
        go_wp2_with fail
        go_ret
        exact ⟨retI (szR_no (by have e1 := hu.out; have e2 := HST.out; have e3 := HSL.out; unfold szL; (try simp only at e1 e2 e3 ⊢); omega)), hb.trans (hb1.mono hb.size)⟩
      · go_wp2_with fail
        refine (lawsSzUnique l[k] A0 n0 c0 u ok _ s0 HX.out hu0 (by omega)).mono ?_
        rintro e w1 ⟨rfl, hb1⟩
        rw [hv.out]
        go_wp2_with fail
        go_roundw
        case rel => exact ⟨k + 1, _, by omega, by go_num, rfl, by omega, by omega, Lib.hid (by have e1 := hu.out; have e2 := HST.out; have e3 := hu'.out; (try simp only at e1 e2 e3 ⊢); omega), hb.trans (hb1.mono hb.size)⟩
        case measure => simp [intOf]; omega
    · have e : l.take k = l := List.take_of_length_le (by omega)
      have e1 := hu.out
      rw [e] at e1
      have HU := Lib.hid e1
      clear e1 hu e
      go_wp2
      go_ret
      exact ⟨retI (szR_yes (by omega) (by have e1 := HU.out; unfold szL; omega)), hb⟩

set_option maxRecDepth 100000 in
set_option maxHeartbeats 1000000 in
theorem lawsSzCheck (x : Ck) (A0 : Option Addr) (n0 c0 : Nat) (left : Int) (ok : Nat → Prop) (w : World) (h0 : Sl TkR 5 ok w A0 n0 x.expr) (hwf : x.wf) (hp0 : 0 ≤ left) (hle : left ≤ 1048576) :
    Calls Tryz.prog 105 #[.agg #[.slice A0 n0 c0], .int .i64 left] w fun e w' => e = .returned (.int .i64 (szR left x.sz)) ∧ Below w.heap.size w w' := by
  have wf0 := hwf
  have WF0 := Lib.hid wf0
  clear wf0
  have HB := Lib.hid ((Below.refl w.heap.size w).alloc (Nat.le_refl _) (.cells #[.slice A0 n0 c0] 180))
  have RB := Lib.hid (Row.new w 180 #[.slice A0 n0 c0])
  go_enter Tryz.func105, Tryz.ntmps105
  go_wp2_with fail
  refine (lawsSzTokL A0 n0 c0 x.expr left ok _ (h0.below TkR.stays HB.out) WF0.out (by omega) (by omega)).mono ?_
  rintro e w1 ⟨rfl, hb1⟩
  have hbb1 := (HB.out).trans (hb1.mono (HB.out).size)
  have RB1 := Lib.hid ((RB.out).below hb1)
  obtain ⟨p1_0, -⟩ := RB1.out.all1
  rcases szR_cases left (szL (fun t : Tk => t.vs.size) x.expr) (by omega) with ⟨hno1, hv1⟩ | ⟨l1, hv1, hl1, h01, h11, -⟩
  · rw [hv1.out]
    go_wp2_with fail
    go_ret
    exact ⟨retI (szR_no (by simp only [Ck.sz]; omega)), hbb1⟩
  rw [hv1.out]
  go_wp2_with fail
  go_ret
  exact ⟨retI (szR_yes (by omega) (by have := hl1.out; simp only [Ck.sz]; omega)), hbb1⟩

set_option maxHeartbeats 1000000 in
theorem lawsSzCheckL (A : Option Addr) (n c : Nat) (l : List Ck) (left : Int) (ok : Nat → Prop) (w : World) (h : Sl CkR 1 ok w A n l) (hwf : (l.length ≤ maxLen ∧ ∀ y ∈ l, y.wf)) (hp0 : 0 ≤ left) (hle : left ≤ 1048576) :
    Calls Tryz.prog 65 #[.slice A n c, .int .i64 left] w fun e w' => e = .returned (.int .i64 (szR left (szL Ck.sz l))) ∧ Below w.heap.size w w' := by
  obtain rfl : l.length = n := h.1
  obtain ⟨hlen, hall⟩ := hwf
  unfold maxLen at hlen
  have HW := Lib.hid hall
  clear hall
  by_cases hs : left - (l.length : Int) < 0
  · go_enter Tryz.func65, Tryz.ntmps65
    go_wp2
    go_ret
    exact ⟨retI (szR_no (by unfold szL; omega)), Below.refl _ _⟩
  have hs' : decide (left - (l.length : Int) < 0) = false := by simpa using hs
  go_enter Tryz.func65, Tryz.ntmps65
  go_wp2
  go_loopw [1, 5] (fun m i wr => ∃ (k : Nat) (u : Int), k ≤ l.length ∧ i = .int .i64 k ∧ m = .int .i64 u ∧ 0 ≤ u ∧ u ≤ left ∧ Hid (u = left - l.length - ((l.take k).map (Ck.sz)).sum) ∧ Below w.heap.size w wr) (fun _ i _ => l.length - (intOf i).toNat)
  case atStart => exact ⟨0, _, by omega, rfl, rfl, by omega, by omega, Lib.hid (by simp), Below.refl _ _⟩
  case round =>
    obtain ⟨k, u, hk, rfl, rfl, hu0, hu1, hu, hb⟩ := hrel
    by_cases hlt : k < l.length
    · obtain ⟨b, off, A0, n0, c0, -, rfl, q0, s0, -⟩ := CkR.at_ (h.below CkR.stays hb) hlt
      have hx := HW.out _ (List.getElem_mem hlt)
      have hst := sum_take (Ck.sz) l k hlt
      have hsl := sum_take_le (Ck.sz) l (k + 1)
      have HST := Lib.hid hst
      have HSL := Lib.hid hsl
      have HX := Lib.hid hx
      clear hst hsl hx
      rcases szR_cases u (l[k].sz) hu0 with ⟨hno, hv⟩ | ⟨u', hv, hu', hu0', hu1', -⟩
      · go_wp2_with fail
        refine (lawsSzCheck l[k] A0 n0 c0 u ok _ s0 HX.out hu0 (by omega)).mono ?_
        rintro e w1 ⟨rfl, hb1⟩
        rw [hv.out]
        go_wp2_with fail
        go_ret
        exact ⟨retI (szR_no (by have e1 := hu.out; have e2 := HST.out; have e3 := HSL.out; unfold szL; (try simp only at e1 e2 e3 ⊢); omega)), hb.trans (hb1.mono hb.size)⟩
      · go_wp2_with fail
        refine (lawsSzCheck l[k] A0 n0 c0 u ok _ s0 HX.out hu0 (by omega)).mono ?_
        rintro e w1 ⟨rfl, hb1⟩
        rw [hv.out]
        go_wp2_with fail
        go_roundw
        case rel => exact ⟨k + 1, _, by omega, by go_num, rfl, by omega, by omega, Lib.hid (by have e1 := hu.out; have e2 := HST.out; have e3 := hu'.out; (try simp only at e1 e2 e3 ⊢); omega), hb.trans (hb1.mono hb.size)⟩
        case measure => simp [intOf]; omega
    · have e : l.take k = l := List.take_of_length_le (by omega)
      have e1 := hu.out
      rw [e] at e1
      have HU := Lib.hid e1
      clear e1 hu e
      go_wp2
      go_ret
      exact ⟨retI (szR_yes (by omega) (by have e1 := HU.out; unfold szL; omega)), hb⟩

set_option maxRecDepth 100000 in
set_option maxHeartbeats 1000000 in
theorem lawsSzFk (x : Fk) (A0 : Option Addr) (n0 c0 : Nat) (left : Int) (ok : Nat → Prop) (w : World) (h0 : Sl IntR 1 ok w A0 n0 x.cols) (hwf : x.wf) (hp0 : 0 ≤ left) (hle : left ≤ 1048576) :
    Calls Tryz.prog 106 #[.agg #[.slice A0 n0 c0, .string x.table, .int .i64 x.del, .int .i64 x.upd, .bool x.dfr], .int .i64 left] w fun e w' => e = .returned (.int .i64 (szR left x.sz)) ∧ Below w.heap.size w w' := by
  obtain ⟨wf0, wf1⟩ := hwf
  have WF0 := Lib.hid wf0
  clear wf0
  unfold maxLen at wf1
  have HB := Lib.hid ((Below.refl w.heap.size w).alloc (Nat.le_refl _) (.cells #[.slice A0 n0 c0, .string x.table, .int .i64 x.del, .int .i64 x.upd, .bool x.dfr] 182))
  have RB := Lib.hid (Row.new w 182 #[.slice A0 n0 c0, .string x.table, .int .i64 x.del, .int .i64 x.upd, .bool x.dfr])
  go_enter Tryz.func106, Tryz.ntmps106
  go_wp2_with fail
  refine (lawsSzInts A0 n0 c0 x.cols left ok _ (h0.below IntR.stays HB.out) WF0.out (by omega) (by omega)).mono ?_
  rintro e w1 ⟨rfl, hb1⟩
  have hbb1 := (HB.out).trans (hb1.mono (HB.out).size)
  have RB1 := Lib.hid ((RB.out).below hb1)
  obtain ⟨⟨p1_0, p1_1, p1_2, p1_3, p1_4⟩, -⟩ := RB1.out.five
  rcases szR_cases left (x.cols.length) (by omega) with ⟨hno1, hv1⟩ | ⟨l1, hv1, hl1, h01, h11, -⟩
  · rw [hv1.out]
    go_wp2_with fail
    go_ret
    exact ⟨retI (szR_no (by simp only [Fk.sz]; omega)), hbb1⟩
  rw [hv1.out]
  by_cases hs1 : l1 - (x.table.size : Int) < 0
  · go_wp2_with fail
    go_ret
    exact ⟨retI (szR_no (by have := hl1.out; simp only [Fk.sz]; omega)), hbb1⟩
  have hs1' : decide (l1 - (x.table.size : Int) < 0) = false := by simpa using hs1
  go_wp2_with fail
  go_ret
  exact ⟨retI (szR_yes (by omega) (by have := hl1.out; simp only [Fk.sz]; omega)), hbb1⟩

set_option maxHeartbeats 1000000 in
theorem lawsSzFkL (A : Option Addr) (n c : Nat) (l : List Fk) (left : Int) (ok : Nat → Prop) (w : World) (h : Sl FkR 5 ok w A n l) (hwf : (l.length ≤ maxLen ∧ ∀ y ∈ l, y.wf)) (hp0 : 0 ≤ left) (hle : left ≤ 1048576) :
    Calls Tryz.prog 66 #[.slice A n c, .int .i64 left] w fun e w' => e = .returned (.int .i64 (szR left (szL Fk.sz l))) ∧ Below w.heap.size w w' := by
  obtain rfl : l.length = n := h.1
  obtain ⟨hlen, hall⟩ := hwf
  unfold maxLen at hlen
  have HW := Lib.hid hall
  clear hall
  by_cases hs : left - (l.length : Int) < 0
  · go_enter Tryz.func66, Tryz.ntmps66
    go_wp2
    go_ret
    exact ⟨retI (szR_no (by unfold szL; omega)), Below.refl _ _⟩
  have hs' : decide (left - (l.length : Int) < 0) = false := by simpa using hs
  go_enter Tryz.func66, Tryz.ntmps66
  go_wp2
  go_loopw [1, 5] (fun m i wr => ∃ (k : Nat) (u : Int), k ≤ l.length ∧ i = .int .i64 k ∧ m = .int .i64 u ∧ 0 ≤ u ∧ u ≤ left ∧ Hid (u = left - l.length - ((l.take k).map (Fk.sz)).sum) ∧ Below w.heap.size w wr) (fun _ i _ => l.length - (intOf i).toNat)
  case atStart => exact ⟨0, _, by omega, rfl, rfl, by omega, by omega, Lib.hid (by simp), Below.refl _ _⟩
  case round =>
    obtain ⟨k, u, hk, rfl, rfl, hu0, hu1, hu, hb⟩ := hrel
    by_cases hlt : k < l.length
    · obtain ⟨b, off, A0, n0, c0, -, rfl, q0, q1, q2, q3, q4, s0, -⟩ := FkR.at_ (h.below FkR.stays hb) hlt
      have hx := HW.out _ (List.getElem_mem hlt)
      have hst := sum_take (Fk.sz) l k hlt
      have hsl := sum_take_le (Fk.sz) l (k + 1)
      have HST := Lib.hid hst
      have HSL := Lib.hid hsl
      have HX := Lib.hid hx
      clear hst hsl hx
      rcases szR_cases u (l[k].sz) hu0 with ⟨hno, hv⟩ | ⟨u', hv, hu', hu0', hu1', -⟩
      · go_wp2_with fail
        refine (lawsSzFk l[k] A0 n0 c0 u ok _ s0 HX.out hu0 (by omega)).mono ?_
        rintro e w1 ⟨rfl, hb1⟩
        rw [hv.out]
        go_wp2_with fail
        go_ret
        exact ⟨retI (szR_no (by have e1 := hu.out; have e2 := HST.out; have e3 := HSL.out; unfold szL; (try simp only at e1 e2 e3 ⊢); omega)), hb.trans (hb1.mono hb.size)⟩
      · go_wp2_with fail
        refine (lawsSzFk l[k] A0 n0 c0 u ok _ s0 HX.out hu0 (by omega)).mono ?_
        rintro e w1 ⟨rfl, hb1⟩
        rw [hv.out]
        go_wp2_with fail
        go_roundw
        case rel => exact ⟨k + 1, _, by omega, by go_num, rfl, by omega, by omega, Lib.hid (by have e1 := hu.out; have e2 := HST.out; have e3 := hu'.out; (try simp only at e1 e2 e3 ⊢); omega), hb.trans (hb1.mono hb.size)⟩
        case measure => simp [intOf]; omega
    · have e : l.take k = l := List.take_of_length_le (by omega)
      have e1 := hu.out
      rw [e] at e1
      have HU := Lib.hid e1
      clear e1 hu e
      go_wp2
      go_ret
      exact ⟨retI (szR_yes (by omega) (by have e1 := HU.out; unfold szL; omega)), hb⟩

set_option maxRecDepth 100000 in
set_option maxHeartbeats 1000000 in
theorem lawsSzTable (x : Tb) (A1 : Option Addr) (n1 c1 : Nat) (A2 : Option Addr) (n2 c2 : Nat) (A3 : Option Addr) (n3 c3 : Nat) (A4 : Option Addr) (n4 c4 : Nat) (A5 : Option Addr) (n5 c5 : Nat) (left : Int) (ok : Nat → Prop) (w : World) (h1 : Sl ClR 6 ok w A1 n1 x.cols) (h2 : Sl IntR 1 ok w A2 n2 x.key) (h3 : Sl UqR 1 ok w A3 n3 x.uniqs) (h4 : Sl CkR 1 ok w A4 n4 x.checks) (h5 : Sl FkR 5 ok w A5 n5 x.fks) (hwf : x.wf) (hp0 : 0 ≤ left) (hle : left ≤ 1048576) :
    Calls Tryz.prog 27 #[.agg #[.string x.name, .slice A1 n1 c1, .slice A2 n2 c2, .slice A3 n3 c3, .slice A4 n4 c4, .slice A5 n5 c5], .int .i64 left] w fun e w' => e = .returned (.int .i64 (szR left x.sz)) ∧ Below w.heap.size w w' := by
  obtain ⟨wf0, wf1, wf2, wf3, wf4, wf5⟩ := hwf
  unfold maxLen at wf0
  have WF1 := Lib.hid wf1
  clear wf1
  have WF2 := Lib.hid wf2
  clear wf2
  have WF3 := Lib.hid wf3
  clear wf3
  have WF4 := Lib.hid wf4
  clear wf4
  have WF5 := Lib.hid wf5
  clear wf5
  have HB := Lib.hid ((Below.refl w.heap.size w).alloc (Nat.le_refl _) (.cells #[.string x.name, .slice A1 n1 c1, .slice A2 n2 c2, .slice A3 n3 c3, .slice A4 n4 c4, .slice A5 n5 c5] 65))
  have RB := Lib.hid (Row.new w 65 #[.string x.name, .slice A1 n1 c1, .slice A2 n2 c2, .slice A3 n3 c3, .slice A4 n4 c4, .slice A5 n5 c5])
  by_cases hs0 : left - (x.name.size : Int) < 0
  · go_enter Tryz.func27, Tryz.ntmps27
    go_wp2_with fail
    go_ret
    exact ⟨retI (szR_no (by simp only [Tb.sz]; omega)), HB.out⟩
  have hs0' : decide (left - (x.name.size : Int) < 0) = false := by simpa using hs0
  go_enter Tryz.func27, Tryz.ntmps27
  go_wp2_with fail
  refine (lawsSzColL A1 n1 c1 x.cols (left - (x.name.size : Int)) ok _ (h1.below ClR.stays HB.out) WF1.out (by omega) (by omega)).mono ?_
  rintro e w1 ⟨rfl, hb1⟩
  have hbb1 := (HB.out).trans (hb1.mono (HB.out).size)
  have RB1 := Lib.hid ((RB.out).below hb1)
  obtain ⟨⟨p1_0, p1_1, p1_2, p1_3, p1_4, p1_5⟩, -⟩ := RB1.out.all6
  rcases szR_cases (left - (x.name.size : Int)) (szL Cl.sz x.cols) (by omega) with ⟨hno1, hv1⟩ | ⟨l1, hv1, hl1, h01, h11, -⟩
  · rw [hv1.out]
    go_wp2_with fail
    go_ret
    exact ⟨retI (szR_no (by simp only [Tb.sz]; omega)), hbb1⟩
  rw [hv1.out]
  go_wp2_with fail
  refine (lawsSzInts A2 n2 c2 x.key l1 ok _ (h2.below IntR.stays hbb1) WF2.out (by omega) (by omega)).mono ?_
  rintro e w2 ⟨rfl, hb2⟩
  have hbb2 := (hbb1).trans (hb2.mono (hbb1).size)
  have RB2 := Lib.hid ((RB1.out).below hb2)
  obtain ⟨⟨p2_0, p2_1, p2_2, p2_3, p2_4, p2_5⟩, -⟩ := RB2.out.all6
  rcases szR_cases l1 (x.key.length) (by omega) with ⟨hno2, hv2⟩ | ⟨l2, hv2, hl2, h02, h12, -⟩
  · rw [hv2.out]
    go_wp2_with fail
    go_ret
    exact ⟨retI (szR_no (by have := hl1.out; simp only [Tb.sz]; omega)), hbb2⟩
  rw [hv2.out]
  go_wp2_with fail
  refine (lawsSzUniqueL A3 n3 c3 x.uniqs l2 ok _ (h3.below UqR.stays hbb2) WF3.out (by omega) (by omega)).mono ?_
  rintro e w3 ⟨rfl, hb3⟩
  have hbb3 := (hbb2).trans (hb3.mono (hbb2).size)
  have RB3 := Lib.hid ((RB2.out).below hb3)
  obtain ⟨⟨p3_0, p3_1, p3_2, p3_3, p3_4, p3_5⟩, -⟩ := RB3.out.all6
  rcases szR_cases l2 (szL Uq.sz x.uniqs) (by omega) with ⟨hno3, hv3⟩ | ⟨l3, hv3, hl3, h03, h13, -⟩
  · rw [hv3.out]
    go_wp2_with fail
    go_ret
    exact ⟨retI (szR_no (by have := hl1.out; have := hl2.out; simp only [Tb.sz]; omega)), hbb3⟩
  rw [hv3.out]
  go_wp2_with fail
  refine (lawsSzCheckL A4 n4 c4 x.checks l3 ok _ (h4.below CkR.stays hbb3) WF4.out (by omega) (by omega)).mono ?_
  rintro e w4 ⟨rfl, hb4⟩
  have hbb4 := (hbb3).trans (hb4.mono (hbb3).size)
  have RB4 := Lib.hid ((RB3.out).below hb4)
  obtain ⟨⟨p4_0, p4_1, p4_2, p4_3, p4_4, p4_5⟩, -⟩ := RB4.out.all6
  rcases szR_cases l3 (szL Ck.sz x.checks) (by omega) with ⟨hno4, hv4⟩ | ⟨l4, hv4, hl4, h04, h14, -⟩
  · rw [hv4.out]
    go_wp2_with fail
    go_ret
    exact ⟨retI (szR_no (by have := hl1.out; have := hl2.out; have := hl3.out; simp only [Tb.sz]; omega)), hbb4⟩
  rw [hv4.out]
  go_wp2_with fail
  refine (lawsSzFkL A5 n5 c5 x.fks l4 ok _ (h5.below FkR.stays hbb4) WF5.out (by omega) (by omega)).mono ?_
  rintro e w5 ⟨rfl, hb5⟩
  have hbb5 := (hbb4).trans (hb5.mono (hbb4).size)
  have RB5 := Lib.hid ((RB4.out).below hb5)
  obtain ⟨⟨p5_0, p5_1, p5_2, p5_3, p5_4, p5_5⟩, -⟩ := RB5.out.all6
  rcases szR_cases l4 (szL Fk.sz x.fks) (by omega) with ⟨hno5, hv5⟩ | ⟨l5, hv5, hl5, h05, h15, -⟩
  · rw [hv5.out]
    go_wp2_with fail
    go_ret
    exact ⟨retI (szR_no (by have := hl1.out; have := hl2.out; have := hl3.out; have := hl4.out; simp only [Tb.sz]; omega)), hbb5⟩
  rw [hv5.out]
  go_wp2_with fail
  go_ret
  exact ⟨retI (szR_yes (by omega) (by have := hl1.out; have := hl2.out; have := hl3.out; have := hl4.out; have := hl5.out; simp only [Tb.sz]; omega)), hbb5⟩

set_option maxHeartbeats 1000000 in
theorem lawsSzTableL (A : Option Addr) (n c : Nat) (l : List Tb) (left : Int) (ok : Nat → Prop) (w : World) (h : Sl TbR 6 ok w A n l) (hwf : (l.length ≤ maxLen ∧ ∀ y ∈ l, y.wf)) (hp0 : 0 ≤ left) (hle : left ≤ 1048576) :
    Calls Tryz.prog 5 #[.slice A n c, .int .i64 left] w fun e w' => e = .returned (.int .i64 (szR left (szL Tb.sz l))) ∧ Below w.heap.size w w' := by
  obtain rfl : l.length = n := h.1
  obtain ⟨hlen, hall⟩ := hwf
  unfold maxLen at hlen
  have HW := Lib.hid hall
  clear hall
  by_cases hs : left - (l.length : Int) < 0
  · go_enter Tryz.func5, Tryz.ntmps5
    go_wp2
    go_ret
    exact ⟨retI (szR_no (by unfold szL; omega)), Below.refl _ _⟩
  have hs' : decide (left - (l.length : Int) < 0) = false := by simpa using hs
  go_enter Tryz.func5, Tryz.ntmps5
  go_wp2
  go_loopw [1, 5] (fun m i wr => ∃ (k : Nat) (u : Int), k ≤ l.length ∧ i = .int .i64 k ∧ m = .int .i64 u ∧ 0 ≤ u ∧ u ≤ left ∧ Hid (u = left - l.length - ((l.take k).map (Tb.sz)).sum) ∧ Below w.heap.size w wr) (fun _ i _ => l.length - (intOf i).toNat)
  case atStart => exact ⟨0, _, by omega, rfl, rfl, by omega, by omega, Lib.hid (by simp), Below.refl _ _⟩
  case round =>
    obtain ⟨k, u, hk, rfl, rfl, hu0, hu1, hu, hb⟩ := hrel
    by_cases hlt : k < l.length
    · obtain ⟨b, off, A1, n1, c1, A2, n2, c2, A3, n3, c3, A4, n4, c4, A5, n5, c5, -, rfl, q0, q1, q2, q3, q4, q5, s1, s2, s3, s4, s5, -⟩ := TbR.at_ (h.below TbR.stays hb) hlt
      have hx := HW.out _ (List.getElem_mem hlt)
      have hst := sum_take (Tb.sz) l k hlt
      have hsl := sum_take_le (Tb.sz) l (k + 1)
      have HST := Lib.hid hst
      have HSL := Lib.hid hsl
      have HX := Lib.hid hx
      clear hst hsl hx
      rcases szR_cases u (l[k].sz) hu0 with ⟨hno, hv⟩ | ⟨u', hv, hu', hu0', hu1', -⟩
      · go_wp2_with fail
        refine (lawsSzTable l[k] A1 n1 c1 A2 n2 c2 A3 n3 c3 A4 n4 c4 A5 n5 c5 u ok _ s1 s2 s3 s4 s5 HX.out hu0 (by omega)).mono ?_
        rintro e w1 ⟨rfl, hb1⟩
        rw [hv.out]
        go_wp2_with fail
        go_ret
        exact ⟨retI (szR_no (by have e1 := hu.out; have e2 := HST.out; have e3 := HSL.out; unfold szL; (try simp only at e1 e2 e3 ⊢); omega)), hb.trans (hb1.mono hb.size)⟩
      · go_wp2_with fail
        refine (lawsSzTable l[k] A1 n1 c1 A2 n2 c2 A3 n3 c3 A4 n4 c4 A5 n5 c5 u ok _ s1 s2 s3 s4 s5 HX.out hu0 (by omega)).mono ?_
        rintro e w1 ⟨rfl, hb1⟩
        rw [hv.out]
        go_wp2_with fail
        go_roundw
        case rel => exact ⟨k + 1, _, by omega, by go_num, rfl, by omega, by omega, Lib.hid (by have e1 := hu.out; have e2 := HST.out; have e3 := hu'.out; (try simp only at e1 e2 e3 ⊢); omega), hb.trans (hb1.mono hb.size)⟩
        case measure => simp [intOf]; omega
    · have e : l.take k = l := List.take_of_length_le (by omega)
      have e1 := hu.out
      rw [e] at e1
      have HU := Lib.hid e1
      clear e1 hu e
      go_wp2
      go_ret
      exact ⟨retI (szR_yes (by omega) (by have e1 := HU.out; unfold szL; omega)), hb⟩

set_option maxRecDepth 100000 in
set_option maxHeartbeats 1000000 in
theorem lawsSzRow (x : Rw) (A1 : Option Addr) (n1 c1 : Nat) (left : Int) (ok : Nat → Prop) (w : World) (h1 : Sl VlR 3 ok w A1 n1 x.vals) (hwf : x.wf) (hp0 : 0 ≤ left) (hle : left ≤ 1048576) :
    Calls Tryz.prog 67 #[.agg #[.int .i64 x.id, .slice A1 n1 c1], .int .i64 left] w fun e w' => e = .returned (.int .i64 (szR left x.sz)) ∧ Below w.heap.size w w' := by
  have wf1 := hwf
  have WF1 := Lib.hid wf1
  clear wf1
  have HB := Lib.hid ((Below.refl w.heap.size w).alloc (Nat.le_refl _) (.cells #[.int .i64 x.id, .slice A1 n1 c1] 126))
  have RB := Lib.hid (Row.new w 126 #[.int .i64 x.id, .slice A1 n1 c1])
  go_enter Tryz.func67, Tryz.ntmps67
  go_wp2_with fail
  refine (lawsSzValL A1 n1 c1 x.vals left ok _ (h1.below VlR.stays HB.out) WF1.out (by omega) (by omega)).mono ?_
  rintro e w1 ⟨rfl, hb1⟩
  have hbb1 := (HB.out).trans (hb1.mono (HB.out).size)
  have RB1 := Lib.hid ((RB.out).below hb1)
  obtain ⟨⟨p1_0, p1_1⟩, -⟩ := RB1.out.all2
  rcases szR_cases left (szL (fun v : Vl => v.s.size) x.vals) (by omega) with ⟨hno1, hv1⟩ | ⟨l1, hv1, hl1, h01, h11, -⟩
  · rw [hv1.out]
    go_wp2_with fail
    go_ret
    exact ⟨retI (szR_no (by simp only [Rw.sz]; omega)), hbb1⟩
  rw [hv1.out]
  go_wp2_with fail
  go_ret
  exact ⟨retI (szR_yes (by omega) (by have := hl1.out; simp only [Rw.sz]; omega)), hbb1⟩

set_option maxHeartbeats 1000000 in
theorem lawsSzRowL (A : Option Addr) (n c : Nat) (l : List Rw) (left : Int) (ok : Nat → Prop) (w : World) (h : Sl RwR 2 ok w A n l) (hwf : (l.length ≤ maxLen ∧ ∀ y ∈ l, y.wf)) (hp0 : 0 ≤ left) (hle : left ≤ 1048576) :
    Calls Tryz.prog 28 #[.slice A n c, .int .i64 left] w fun e w' => e = .returned (.int .i64 (szR left (szL Rw.sz l))) ∧ Below w.heap.size w w' := by
  obtain rfl : l.length = n := h.1
  obtain ⟨hlen, hall⟩ := hwf
  unfold maxLen at hlen
  have HW := Lib.hid hall
  clear hall
  by_cases hs : left - (l.length : Int) < 0
  · go_enter Tryz.func28, Tryz.ntmps28
    go_wp2
    go_ret
    exact ⟨retI (szR_no (by unfold szL; omega)), Below.refl _ _⟩
  have hs' : decide (left - (l.length : Int) < 0) = false := by simpa using hs
  go_enter Tryz.func28, Tryz.ntmps28
  go_wp2
  go_loopw [1, 5] (fun m i wr => ∃ (k : Nat) (u : Int), k ≤ l.length ∧ i = .int .i64 k ∧ m = .int .i64 u ∧ 0 ≤ u ∧ u ≤ left ∧ Hid (u = left - l.length - ((l.take k).map (Rw.sz)).sum) ∧ Below w.heap.size w wr) (fun _ i _ => l.length - (intOf i).toNat)
  case atStart => exact ⟨0, _, by omega, rfl, rfl, by omega, by omega, Lib.hid (by simp), Below.refl _ _⟩
  case round =>
    obtain ⟨k, u, hk, rfl, rfl, hu0, hu1, hu, hb⟩ := hrel
    by_cases hlt : k < l.length
    · obtain ⟨b, off, A1, n1, c1, -, rfl, q0, q1, s1, -⟩ := RwR.at_ (h.below RwR.stays hb) hlt
      have hx := HW.out _ (List.getElem_mem hlt)
      have hst := sum_take (Rw.sz) l k hlt
      have hsl := sum_take_le (Rw.sz) l (k + 1)
      have HST := Lib.hid hst
      have HSL := Lib.hid hsl
      have HX := Lib.hid hx
      clear hst hsl hx
      rcases szR_cases u (l[k].sz) hu0 with ⟨hno, hv⟩ | ⟨u', hv, hu', hu0', hu1', -⟩
      · go_wp2_with fail
        refine (lawsSzRow l[k] A1 n1 c1 u ok _ s1 HX.out hu0 (by omega)).mono ?_
        rintro e w1 ⟨rfl, hb1⟩
        rw [hv.out]
        go_wp2_with fail
        go_ret
        exact ⟨retI (szR_no (by have e1 := hu.out; have e2 := HST.out; have e3 := HSL.out; unfold szL; (try simp only at e1 e2 e3 ⊢); omega)), hb.trans (hb1.mono hb.size)⟩
      · go_wp2_with fail
        refine (lawsSzRow l[k] A1 n1 c1 u ok _ s1 HX.out hu0 (by omega)).mono ?_
        rintro e w1 ⟨rfl, hb1⟩
        rw [hv.out]
        go_wp2_with fail
        go_roundw
        case rel => exact ⟨k + 1, _, by omega, by go_num, rfl, by omega, by omega, Lib.hid (by have e1 := hu.out; have e2 := HST.out; have e3 := hu'.out; (try simp only at e1 e2 e3 ⊢); omega), hb.trans (hb1.mono hb.size)⟩
        case measure => simp [intOf]; omega
    · have e : l.take k = l := List.take_of_length_le (by omega)
      have e1 := hu.out
      rw [e] at e1
      have HU := Lib.hid e1
      clear e1 hu e
      go_wp2
      go_ret
      exact ⟨retI (szR_yes (by omega) (by have e1 := HU.out; unfold szL; omega)), hb⟩

set_option maxRecDepth 100000 in
set_option maxHeartbeats 1000000 in
theorem lawsSzData (x : Dt) (A0 : Option Addr) (n0 c0 : Nat) (left : Int) (ok : Nat → Prop) (w : World) (h0 : Sl RwR 2 ok w A0 n0 x.rows) (hwf : x.wf) (hp0 : 0 ≤ left) (hle : left ≤ 1048576) :
    Calls Tryz.prog 44 #[.agg #[.slice A0 n0 c0], .int .i64 left] w fun e w' => e = .returned (.int .i64 (szR left x.sz)) ∧ Below w.heap.size w w' := by
  have wf0 := hwf
  have WF0 := Lib.hid wf0
  clear wf0
  have HB := Lib.hid ((Below.refl w.heap.size w).alloc (Nat.le_refl _) (.cells #[.slice A0 n0 c0] 89))
  have RB := Lib.hid (Row.new w 89 #[.slice A0 n0 c0])
  go_enter Tryz.func44, Tryz.ntmps44
  go_wp2_with fail
  refine (lawsSzRowL A0 n0 c0 x.rows left ok _ (h0.below RwR.stays HB.out) WF0.out (by omega) (by omega)).mono ?_
  rintro e w1 ⟨rfl, hb1⟩
  have hbb1 := (HB.out).trans (hb1.mono (HB.out).size)
  have RB1 := Lib.hid ((RB.out).below hb1)
  obtain ⟨p1_0, -⟩ := RB1.out.all1
  rcases szR_cases left (szL Rw.sz x.rows) (by omega) with ⟨hno1, hv1⟩ | ⟨l1, hv1, hl1, h01, h11, -⟩
  · rw [hv1.out]
    go_wp2_with fail
    go_ret
    exact ⟨retI (szR_no (by simp only [Dt.sz]; omega)), hbb1⟩
  rw [hv1.out]
  go_wp2_with fail
  go_ret
  exact ⟨retI (szR_yes (by omega) (by have := hl1.out; simp only [Dt.sz]; omega)), hbb1⟩

set_option maxHeartbeats 1000000 in
theorem lawsSzDataL (A : Option Addr) (n c : Nat) (l : List Dt) (left : Int) (ok : Nat → Prop) (w : World) (h : Sl DtR 1 ok w A n l) (hwf : (l.length ≤ maxLen ∧ ∀ y ∈ l, y.wf)) (hp0 : 0 ≤ left) (hle : left ≤ 1048576) :
    Calls Tryz.prog 13 #[.slice A n c, .int .i64 left] w fun e w' => e = .returned (.int .i64 (szR left (szL Dt.sz l))) ∧ Below w.heap.size w w' := by
  obtain rfl : l.length = n := h.1
  obtain ⟨hlen, hall⟩ := hwf
  unfold maxLen at hlen
  have HW := Lib.hid hall
  clear hall
  by_cases hs : left - (l.length : Int) < 0
  · go_enter Tryz.func13, Tryz.ntmps13
    go_wp2
    go_ret
    exact ⟨retI (szR_no (by unfold szL; omega)), Below.refl _ _⟩
  have hs' : decide (left - (l.length : Int) < 0) = false := by simpa using hs
  go_enter Tryz.func13, Tryz.ntmps13
  go_wp2
  go_loopw [1, 5] (fun m i wr => ∃ (k : Nat) (u : Int), k ≤ l.length ∧ i = .int .i64 k ∧ m = .int .i64 u ∧ 0 ≤ u ∧ u ≤ left ∧ Hid (u = left - l.length - ((l.take k).map (Dt.sz)).sum) ∧ Below w.heap.size w wr) (fun _ i _ => l.length - (intOf i).toNat)
  case atStart => exact ⟨0, _, by omega, rfl, rfl, by omega, by omega, Lib.hid (by simp), Below.refl _ _⟩
  case round =>
    obtain ⟨k, u, hk, rfl, rfl, hu0, hu1, hu, hb⟩ := hrel
    by_cases hlt : k < l.length
    · obtain ⟨b, off, A0, n0, c0, -, rfl, q0, s0, -⟩ := DtR.at_ (h.below DtR.stays hb) hlt
      have hx := HW.out _ (List.getElem_mem hlt)
      have hst := sum_take (Dt.sz) l k hlt
      have hsl := sum_take_le (Dt.sz) l (k + 1)
      have HST := Lib.hid hst
      have HSL := Lib.hid hsl
      have HX := Lib.hid hx
      clear hst hsl hx
      rcases szR_cases u (l[k].sz) hu0 with ⟨hno, hv⟩ | ⟨u', hv, hu', hu0', hu1', -⟩
      · go_wp2_with fail
        refine (lawsSzData l[k] A0 n0 c0 u ok _ s0 HX.out hu0 (by omega)).mono ?_
        rintro e w1 ⟨rfl, hb1⟩
        rw [hv.out]
        go_wp2_with fail
        go_ret
        exact ⟨retI (szR_no (by have e1 := hu.out; have e2 := HST.out; have e3 := HSL.out; unfold szL; (try simp only at e1 e2 e3 ⊢); omega)), hb.trans (hb1.mono hb.size)⟩
      · go_wp2_with fail
        refine (lawsSzData l[k] A0 n0 c0 u ok _ s0 HX.out hu0 (by omega)).mono ?_
        rintro e w1 ⟨rfl, hb1⟩
        rw [hv.out]
        go_wp2_with fail
        go_roundw
        case rel => exact ⟨k + 1, _, by omega, by go_num, rfl, by omega, by omega, Lib.hid (by have e1 := hu.out; have e2 := HST.out; have e3 := hu'.out; (try simp only at e1 e2 e3 ⊢); omega), hb.trans (hb1.mono hb.size)⟩
        case measure => simp [intOf]; omega
    · have e : l.take k = l := List.take_of_length_le (by omega)
      have e1 := hu.out
      rw [e] at e1
      have HU := Lib.hid e1
      clear e1 hu e
      go_wp2
      go_ret
      exact ⟨retI (szR_yes (by omega) (by have e1 := HU.out; unfold szL; omega)), hb⟩

set_option maxRecDepth 100000 in
set_option maxHeartbeats 1000000 in
theorem lawsSzSet (x : Se) (A1 : Option Addr) (n1 c1 : Nat) (left : Int) (ok : Nat → Prop) (w : World) (h1 : Sl TkR 5 ok w A1 n1 x.expr) (hwf : x.wf) (hp0 : 0 ≤ left) (hle : left ≤ 1048576) :
    Calls Tryz.prog 68 #[.agg #[.int .i64 x.col, .slice A1 n1 c1], .int .i64 left] w fun e w' => e = .returned (.int .i64 (szR left x.sz)) ∧ Below w.heap.size w w' := by
  have wf1 := hwf
  have WF1 := Lib.hid wf1
  clear wf1
  have HB := Lib.hid ((Below.refl w.heap.size w).alloc (Nat.le_refl _) (.cells #[.int .i64 x.col, .slice A1 n1 c1] 129))
  have RB := Lib.hid (Row.new w 129 #[.int .i64 x.col, .slice A1 n1 c1])
  go_enter Tryz.func68, Tryz.ntmps68
  go_wp2_with fail
  refine (lawsSzTokL A1 n1 c1 x.expr left ok _ (h1.below TkR.stays HB.out) WF1.out (by omega) (by omega)).mono ?_
  rintro e w1 ⟨rfl, hb1⟩
  have hbb1 := (HB.out).trans (hb1.mono (HB.out).size)
  have RB1 := Lib.hid ((RB.out).below hb1)
  obtain ⟨⟨p1_0, p1_1⟩, -⟩ := RB1.out.all2
  rcases szR_cases left (szL (fun t : Tk => t.vs.size) x.expr) (by omega) with ⟨hno1, hv1⟩ | ⟨l1, hv1, hl1, h01, h11, -⟩
  · rw [hv1.out]
    go_wp2_with fail
    go_ret
    exact ⟨retI (szR_no (by simp only [Se.sz]; omega)), hbb1⟩
  rw [hv1.out]
  go_wp2_with fail
  go_ret
  exact ⟨retI (szR_yes (by omega) (by have := hl1.out; simp only [Se.sz]; omega)), hbb1⟩

set_option maxHeartbeats 1000000 in
theorem lawsSzSetL (A : Option Addr) (n c : Nat) (l : List Se) (left : Int) (ok : Nat → Prop) (w : World) (h : Sl SeR 2 ok w A n l) (hwf : (l.length ≤ maxLen ∧ ∀ y ∈ l, y.wf)) (hp0 : 0 ≤ left) (hle : left ≤ 1048576) :
    Calls Tryz.prog 29 #[.slice A n c, .int .i64 left] w fun e w' => e = .returned (.int .i64 (szR left (szL Se.sz l))) ∧ Below w.heap.size w w' := by
  obtain rfl : l.length = n := h.1
  obtain ⟨hlen, hall⟩ := hwf
  unfold maxLen at hlen
  have HW := Lib.hid hall
  clear hall
  by_cases hs : left - (l.length : Int) < 0
  · go_enter Tryz.func29, Tryz.ntmps29
    go_wp2
    go_ret
    exact ⟨retI (szR_no (by unfold szL; omega)), Below.refl _ _⟩
  have hs' : decide (left - (l.length : Int) < 0) = false := by simpa using hs
  go_enter Tryz.func29, Tryz.ntmps29
  go_wp2
  go_loopw [1, 5] (fun m i wr => ∃ (k : Nat) (u : Int), k ≤ l.length ∧ i = .int .i64 k ∧ m = .int .i64 u ∧ 0 ≤ u ∧ u ≤ left ∧ Hid (u = left - l.length - ((l.take k).map (Se.sz)).sum) ∧ Below w.heap.size w wr) (fun _ i _ => l.length - (intOf i).toNat)
  case atStart => exact ⟨0, _, by omega, rfl, rfl, by omega, by omega, Lib.hid (by simp), Below.refl _ _⟩
  case round =>
    obtain ⟨k, u, hk, rfl, rfl, hu0, hu1, hu, hb⟩ := hrel
    by_cases hlt : k < l.length
    · obtain ⟨b, off, A1, n1, c1, -, rfl, q0, q1, s1, -⟩ := SeR.at_ (h.below SeR.stays hb) hlt
      have hx := HW.out _ (List.getElem_mem hlt)
      have hst := sum_take (Se.sz) l k hlt
      have hsl := sum_take_le (Se.sz) l (k + 1)
      have HST := Lib.hid hst
      have HSL := Lib.hid hsl
      have HX := Lib.hid hx
      clear hst hsl hx
      rcases szR_cases u (l[k].sz) hu0 with ⟨hno, hv⟩ | ⟨u', hv, hu', hu0', hu1', -⟩
      · go_wp2_with fail
        refine (lawsSzSet l[k] A1 n1 c1 u ok _ s1 HX.out hu0 (by omega)).mono ?_
        rintro e w1 ⟨rfl, hb1⟩
        rw [hv.out]
        go_wp2_with fail
        go_ret
        exact ⟨retI (szR_no (by have e1 := hu.out; have e2 := HST.out; have e3 := HSL.out; unfold szL; (try simp only at e1 e2 e3 ⊢); omega)), hb.trans (hb1.mono hb.size)⟩
      · go_wp2_with fail
        refine (lawsSzSet l[k] A1 n1 c1 u ok _ s1 HX.out hu0 (by omega)).mono ?_
        rintro e w1 ⟨rfl, hb1⟩
        rw [hv.out]
        go_wp2_with fail
        go_roundw
        case rel => exact ⟨k + 1, _, by omega, by go_num, rfl, by omega, by omega, Lib.hid (by have e1 := hu.out; have e2 := HST.out; have e3 := hu'.out; (try simp only at e1 e2 e3 ⊢); omega), hb.trans (hb1.mono hb.size)⟩
        case measure => simp [intOf]; omega
    · have e : l.take k = l := List.take_of_length_le (by omega)
      have e1 := hu.out
      rw [e] at e1
      have HU := Lib.hid e1
      clear e1 hu e
      go_wp2
      go_ret
      exact ⟨retI (szR_yes (by omega) (by have e1 := HU.out; unfold szL; omega)), hb⟩

set_option maxRecDepth 100000 in
set_option maxHeartbeats 1000000 in
theorem lawsSzStmt (x : Sq) (A2 : Option Addr) (n2 c2 : Nat) (A3 : Option Addr) (n3 c3 : Nat) (A4 : Option Addr) (n4 c4 : Nat) (left : Int) (ok : Nat → Prop) (w : World) (h2 : Sl RwR 2 ok w A2 n2 x.rows) (h3 : Sl TkR 5 ok w A3 n3 x.wher) (h4 : Sl SeR 2 ok w A4 n4 x.sets) (hwf : x.wf) (hp0 : 0 ≤ left) (hle : left ≤ 1048576) :
    Calls Tryz.prog 6 #[.agg #[.int .i64 x.kind, .string x.table, .slice A2 n2 c2, .slice A3 n3 c3, .slice A4 n4 c4, .int .i64 x.policy], .int .i64 left] w fun e w' => e = .returned (.int .i64 (szR left x.sz)) ∧ Below w.heap.size w w' := by
  obtain ⟨wf1, wf2, wf3, wf4⟩ := hwf
  unfold maxLen at wf1
  have WF2 := Lib.hid wf2
  clear wf2
  have WF3 := Lib.hid wf3
  clear wf3
  have WF4 := Lib.hid wf4
  clear wf4
  have HB := Lib.hid ((Below.refl w.heap.size w).alloc (Nat.le_refl _) (.cells #[.int .i64 x.kind, .string x.table, .slice A2 n2 c2, .slice A3 n3 c3, .slice A4 n4 c4, .int .i64 x.policy] 27))
  have RB := Lib.hid (Row.new w 27 #[.int .i64 x.kind, .string x.table, .slice A2 n2 c2, .slice A3 n3 c3, .slice A4 n4 c4, .int .i64 x.policy])
  by_cases hs1 : left - (x.table.size : Int) < 0
  · go_enter Tryz.func6, Tryz.ntmps6
    go_wp2_with fail
    go_ret
    exact ⟨retI (szR_no (by simp only [Sq.sz]; omega)), HB.out⟩
  have hs1' : decide (left - (x.table.size : Int) < 0) = false := by simpa using hs1
  go_enter Tryz.func6, Tryz.ntmps6
  go_wp2_with fail
  refine (lawsSzRowL A2 n2 c2 x.rows (left - (x.table.size : Int)) ok _ (h2.below RwR.stays HB.out) WF2.out (by omega) (by omega)).mono ?_
  rintro e w1 ⟨rfl, hb1⟩
  have hbb1 := (HB.out).trans (hb1.mono (HB.out).size)
  have RB1 := Lib.hid ((RB.out).below hb1)
  obtain ⟨⟨p1_0, p1_1, p1_2, p1_3, p1_4, p1_5⟩, -⟩ := RB1.out.all6
  rcases szR_cases (left - (x.table.size : Int)) (szL Rw.sz x.rows) (by omega) with ⟨hno1, hv1⟩ | ⟨l1, hv1, hl1, h01, h11, -⟩
  · rw [hv1.out]
    go_wp2_with fail
    go_ret
    exact ⟨retI (szR_no (by simp only [Sq.sz]; omega)), hbb1⟩
  rw [hv1.out]
  go_wp2_with fail
  refine (lawsSzTokL A3 n3 c3 x.wher l1 ok _ (h3.below TkR.stays hbb1) WF3.out (by omega) (by omega)).mono ?_
  rintro e w2 ⟨rfl, hb2⟩
  have hbb2 := (hbb1).trans (hb2.mono (hbb1).size)
  have RB2 := Lib.hid ((RB1.out).below hb2)
  obtain ⟨⟨p2_0, p2_1, p2_2, p2_3, p2_4, p2_5⟩, -⟩ := RB2.out.all6
  rcases szR_cases l1 (szL (fun t : Tk => t.vs.size) x.wher) (by omega) with ⟨hno2, hv2⟩ | ⟨l2, hv2, hl2, h02, h12, -⟩
  · rw [hv2.out]
    go_wp2_with fail
    go_ret
    exact ⟨retI (szR_no (by have := hl1.out; simp only [Sq.sz]; omega)), hbb2⟩
  rw [hv2.out]
  go_wp2_with fail
  refine (lawsSzSetL A4 n4 c4 x.sets l2 ok _ (h4.below SeR.stays hbb2) WF4.out (by omega) (by omega)).mono ?_
  rintro e w3 ⟨rfl, hb3⟩
  have hbb3 := (hbb2).trans (hb3.mono (hbb2).size)
  have RB3 := Lib.hid ((RB2.out).below hb3)
  obtain ⟨⟨p3_0, p3_1, p3_2, p3_3, p3_4, p3_5⟩, -⟩ := RB3.out.all6
  rcases szR_cases l2 (szL Se.sz x.sets) (by omega) with ⟨hno3, hv3⟩ | ⟨l3, hv3, hl3, h03, h13, -⟩
  · rw [hv3.out]
    go_wp2_with fail
    go_ret
    exact ⟨retI (szR_no (by have := hl1.out; have := hl2.out; simp only [Sq.sz]; omega)), hbb3⟩
  rw [hv3.out]
  go_wp2_with fail
  go_ret
  exact ⟨retI (szR_yes (by omega) (by have := hl1.out; have := hl2.out; have := hl3.out; simp only [Sq.sz]; omega)), hbb3⟩


end Go.Proofs.YtfhiknndflahgaaGreat
