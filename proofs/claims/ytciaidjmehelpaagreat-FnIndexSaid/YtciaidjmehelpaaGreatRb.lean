/-
  Several texts in one: what the proof leans on, part 2.
-/
import Derived.Test.YtciaidjmehelpaaGreatRa
import Derived.Test.YtciaidjmehelpaaGreatMa
import Derived.Test.YtciaidjmehelpaaGreatMb
import Derived.Test.YtciaidjmehelpaaGreatMc
import Derived.Test.YtciaidjmehelpaaGreatMd
import Derived.Test.YtciaidjmehelpaaGreatMe
import Derived.BigRegion
import Derived.Deep.RegionHeld3
import Derived.Lib.SliceRun
import Derived.Laws.OwnMore
import Derived.Deep.RegionLaw
import Derived.Lib.Overlaps
import Derived.Lib.AppendZeros
import Derived.Lib.AppendZerosOnto
import Derived.Shelf.Spec.SlicesInsert
import Derived.Deep.Cut
import Derived.Shelf.RegionOpenPlain
import Derived.Lib.SmallJoins
import Derived.Deep.RegionWith
import Derived.Laws.AppendOwnNone
set_option linter.unusedVariables false
set_option linter.unusedSimpArgs false
namespace Go.Proofs.YtciaidjmehelpaaGreat
open Go.RowKit
theorem Blk.alloc {w : World} {b : Nat} {k n : Int} {s : ByteArray} (h : Blk w b k n s) (o : Obj) : Blk (w.alloc o) b k n s := (Below.heap_alloc w o b h.lt).trans h
def Wr (w : World) (b : Nat) : Prop := (∃ v, w.cell? ⟨b, 0, none⟩ = some v) ∧ (∃ v, w.cell? ⟨b, 1, none⟩ = some v) ∧ (∃ v, w.cell? ⟨b, 2, none⟩ = some v) ∧ w.frozen? ⟨b, 0, none⟩ = false ∧ w.frozen? ⟨b, 1, none⟩ = false ∧ w.frozen? ⟨b, 2, none⟩ = false
theorem Blk.wr {w : World} {b : Nat} {k n : Int} {s : ByteArray} (h : Blk w b k n s) : Wr w b := ⟨⟨_, h.cells.1⟩, ⟨_, h.cells.2.1⟩, ⟨_, h.cells.2.2⟩, h.free.1, h.free.2.1, h.free.2.2⟩
theorem Wr.lt {w : World} {b : Nat} (h : Wr w b) : b < w.heap.size := by obtain ⟨⟨v, hv⟩, _⟩ := h; exact cell_lt hv
theorem Wr.but {w w' : World} {R b : Nat} (h : Wr w b) (hb : But R w w') (hr : b ≠ R) : Wr w' b := by
 have hl := h.lt
 obtain ⟨⟨v0, h0⟩, ⟨v1, h1⟩, ⟨v2, h2⟩, f0, f1, f2⟩ := h
 exact ⟨⟨v0, (hb.cell hl hr).trans h0⟩, ⟨v1, (hb.cell hl hr).trans h1⟩, ⟨v2, (hb.cell hl hr).trans h2⟩, (hb.frozen hl hr).trans f0, (hb.frozen hl hr).trans f1, (hb.frozen hl hr).trans f2⟩
theorem But.undrew {R : Nat} {w w' : World} (h : But R w.drew w') : But R w w' := ⟨h.os, h.tape, h.output, h.size, h.block⟩
theorem Rdr.drew {w : World} {R : Nat} {a : Option Addr} {len cap : Nat} {zs : List Int} (h : Rdr w R a len cap zs) : Rdr w.drew R a len cap zs := ⟨h.code, h.place, h.free, h.row, h.apart⟩
theorem ownsRow_but {R base : Nat} {w w' : World} {T : TypeId} {sz : Nat} {v : Value} {n : Nat} {xs : List Value} (h : w.ownsRow base T sz v n xs) (hb : But R w w') (hR : R < base) : w'.ownsRow base T sz v n xs := by
 refine ⟨h.1, ?_⟩
 rcases h.2 with h | ⟨g, cap, cur, rfl, h1, h2, h3⟩
 ·exact .inl h
 ·exact .inr ⟨g, cap, cur, rfl, h1, (hb.block g (lt_of_block h2) (by omega)).trans h2, h3⟩
theorem Blo.but {w w' : World} {R g : Nat} {xs : List Value} {T : TypeId} (h : Blo w g xs T) (hb : But R w w') (hg : g ≠ R) : Blo w' g xs T := (hb.block g h.lt hg).trans h
theorem Blo.alloc {w : World} {g : Nat} {xs : List Value} {T : TypeId} (h : Blo w g xs T) (o : Obj) : Blo (w.alloc o) g xs T := (Below.heap_alloc _ _ _ h.lt).trans h
theorem colY {base : Nat} {w : World} {g : Nat} {x : Int} (hB : Blo w g [.int .i64 x] 2) (hb : base ≤ g) : Sl IntR 1 (okF base w) w (some ⟨g, 0, none⟩) 1 [x] :=
 Sl.laid (R := IntR) (sz := 1) (css := [[.int .i64 x]]) (ds := [x]) hB rfl (okF_blo hb hB) fun i hi hd => by
  obtain rfl : i = 0 := by simpa using hi
  exact ⟨rfl, rfl⟩
def cellsAt (w : World) (b o : Nat) (cs : List Value) : Prop := ∀ (t : Nat) (v : Value), cs[t]? = some v → w.cell? ⟨b, o + t, none⟩ = some v
def entC (vs : List Value) (es : List En) : List Value := (List.zipWith (fun v (e : En) => [v, .int .i64 e.id]) vs es).flatten
def blk (v : Value) : List Nat := v.ownBlock.toList
structure OwnE0 (w : World) (base : Nat) (v : Value) (es : List En) (vs : List Value) : Prop where
 len : vs.length = es.length
 row : w.ownsRow base 44 2 v es.length (entC vs es)
 key : ∀ i (h : i < es.length) (h' : i < vs.length), OwnK w base vs[i] es[i].key
 apart : (vs.flatMap blk).Nodup
def OwnE (w : World) (base : Nat) (v : Value) (es : List En) : Prop := ∃ vs, OwnE0 w base v es vs
theorem OwnE.nil (w : World) (base : Nat) : OwnE w base (.slice none 0 0) [] := ⟨[], rfl, World.ownsRow_nil _ _ _ _, fun i h => by simp at h, by simp⟩
theorem OwnE.lit (w : World) {base : Nat} (hb : base ≤ w.heap.size) : OwnE (w.alloc (.cells #[] 44)) base (.slice (some ⟨w.heap.size, 0, none⟩) 0 0) [] :=
 ⟨[], rfl, ⟨by simp [entC], .inr ⟨w.heap.size, 0, #[], rfl, hb, Go.heap_alloc_last w _, Nat.le_refl _, by simp [maxLen], by simp, by simp [entC]⟩⟩, fun i h => by simp at h, by simp⟩
theorem ownsRow_below {w w' : World} {base : Nat} {T : TypeId} {sz : Nat} {v : Value} {n : Nat} {xs : List Value} (h : w.ownsRow base T sz v n xs) (hb : Below w.heap.size w w') : w'.ownsRow base T sz v n xs := by
 refine ⟨h.1, ?_⟩
 rcases h.2 with h | ⟨g, cap, cur, rfl, h1, h2, h3⟩
 ·exact .inl h
 ·exact .inr ⟨g, cap, cur, rfl, h1, (hb.block g (lt_of_block h2)).trans h2, h3⟩
theorem OwnE.below {w w' : World} {base : Nat} {v : Value} {es : List En} (h : OwnE w base v es) (hb : Below w.heap.size w w') : OwnE w' base v es := by
 obtain ⟨vs, h⟩ := h
 exact ⟨vs, h.len, ownsRow_below h.row hb, fun i hi hi' => OwnG.below (h.key i hi hi') hb, h.apart⟩
theorem OwnK.ne {w : World} {base base' : Nat} {v k : Value} {n : Nat} {cs : List Value} {xs : List Vl} (h : w.ownsRow base 44 2 v n cs) (hk : OwnK w base' k xs) : k.ownBlock = none ∨ k.ownBlock ≠ v.ownBlock := by
 rcases hk.2 with ⟨rfl, -⟩ | ⟨g, cap, cur, rfl, h1, h2, -⟩
 ·exact Or.inl rfl
 ·refine Or.inr fun e => ?_
  rcases h.2 with ⟨rfl, -⟩ | ⟨g', cap', cur', rfl, k1, k2, -⟩
  ·simp [Value.ownBlock] at e
  ·simp [Value.ownBlock] at e
   subst e
   rw [h2] at k2
   injection k2 with k2
   injection k2 with _ k3
   exact absurd k3 (by decide)
theorem OwnE0.app {w w' : World} {base : Nat} {v v' k : Value} {es : List En} {vs : List Value} {x : En} {o : Obj} (h : OwnE0 w base v es vs) (hb : base ≤ w.heap.size) (hk : OwnK w base k x.key) (hn : ∀ b ∈ blk k, b ∉ vs.flatMap blk)
  (h' : w'.ownsRow base 44 2 v' (es.length + 1) (entC vs es ++ [k, .int .i64 x.id])) (hg : (w.alloc o).grownBy w' v.ownBlock) : OwnE0 w' base v' (es ++ [x]) (vs ++ [k]) := by
 have hz : entC (vs ++ [k]) (es ++ [x]) = entC vs es ++ [k, .int .i64 x.id] := by
  unfold entC
  rw [List.zipWith_append h.len]
  simp
 have hkk : ∀ (u : Value) (xs : List Vl), OwnK w base u xs → OwnK w' base u xs := fun u xs hu => World.ownsRow.kept (World.ownsRow.alloc hu o) hg (OwnK.ne h.row hu)
 refine ⟨by simp [h.len], by rw [List.length_append, hz]; exact h', fun i hi hi' => ?_, ?_⟩
 ·by_cases e : i < es.length
  ·have e' : i < vs.length := by rw [h.len]; exact e
   rw [List.getElem_append_left e, List.getElem_append_left e']
   exact hkk _ _ (h.key i e e')
  ·simp only [List.length_append, List.length_cons, List.length_nil] at hi
   obtain rfl : i = es.length := by omega
   rw [List.getElem_append_right (Nat.le_refl _), List.getElem_append_right (Nat.le_of_eq h.len)]
   simpa using hkk _ _ hk
 ·rw [List.flatMap_append]
  refine List.nodup_append.2 ⟨h.apart, ?_, fun a ha b hb => ?_⟩
  ·have hs : ∀ a : Option Nat, a.toList.Nodup := fun a => by cases a <;> simp
   simpa [blk] using hs k.ownBlock
  ·rintro rfl
   exact hn a (by simpa using hb) ha
end Go.Proofs.YtciaidjmehelpaaGreat
namespace Go.Proofs.YtciaidjmehelpaaGreat
open Go.RowKit
section
variable {P : Program} {w : World}
end
theorem OwnK.mono {w : World} {base base' : Nat} {v : Value} {xs : List Vl} (h : OwnK w base v xs) (hb : base' ≤ base) : OwnK w base' v xs := by
 refine ⟨h.1, ?_⟩
 rcases h.2 with h | ⟨g, cap, cur, rfl, h1, h2⟩
 ·exact .inl h
 ·exact .inr ⟨g, cap, cur, rfl, Nat.le_trans hb h1, h2⟩
theorem OwnK.shape {w : World} {base : Nat} {v : Value} {xs : List Vl} (h : OwnK w base v xs) : ∃ A c, v = .slice A xs.length c := by
 rcases h.2 with ⟨rfl, hn⟩ | ⟨g, cap, cur, rfl, -⟩
 ·exact ⟨none, 0, by rw [hn]⟩
 ·exact ⟨_, _, rfl⟩
theorem OwnK.one {w : World} {base : Nat} {v : Value} {xs : List Vl} (h : OwnK w base v xs) : v.oneCell' = true := by
 rcases h.2 with ⟨rfl, -⟩ | ⟨g, cap, cur, rfl, -⟩ <;> rfl
end Go.Proofs.YtciaidjmehelpaaGreat
namespace Go.Proofs.YtciaidjmehelpaaGreat
open Go.RowKit
theorem bl_irrefl : ∀ x : List UInt8, Op.bytesLess x x = false
 | [] => rfl
 | a :: x => by simp [Op.bytesLess, bl_irrefl x]
theorem bl_total : ∀ x y : List UInt8, Op.bytesLess x y = true ∨ x = y ∨ Op.bytesLess y x = true
 | [], [] => .inr (.inl rfl)
 | [], _ :: _ => .inl rfl
 | _ :: _, [] => .inr (.inr rfl)
 | a :: x, b :: y => by
  by_cases h : a < b
  ·exact .inl (by simp [Op.bytesLess, h])
  by_cases h' : b < a
  ·exact .inr (.inr (by simp [Op.bytesLess, h']))
  have e : a = b := by
   apply UInt8.toNat_inj.1
   rw [UInt8.lt_iff_toNat_lt] at h h'
   omega
  subst e
  rcases bl_total x y with k | k | k
  ·exact .inl (by simp [Op.bytesLess, k])
  ·exact .inr (.inl (by rw [k]))
  ·exact .inr (.inr (by simp [Op.bytesLess, k]))
theorem bl_trans : ∀ x y z : List UInt8, Op.bytesLess x y = true → Op.bytesLess y z = true → Op.bytesLess x z = true
 | _, [], _, h, _ => by simp [Op.bytesLess] at h
 | _, _ :: _, [], _, h => by simp [Op.bytesLess] at h
 | [], _ :: _, _ :: _, _, _ => rfl
 | a :: x, b :: y, c :: z, h, k => by
  simp only [Op.bytesLess, Bool.or_eq_true, decide_eq_true_eq, Bool.and_eq_true, beq_iff_eq] at h k ⊢
  rcases h with h | ⟨rfl, h⟩ <;> rcases k with k | ⟨rfl, k⟩
  ·left; rw [UInt8.lt_iff_toNat_lt] at *; omega
  ·left; exact h
  ·left; exact k
  ·right; exact ⟨rfl, bl_trans x y z h k⟩
theorem bl_asymm {x y : List UInt8} (h : Op.bytesLess x y = true) : Op.bytesLess y x = false := by
 cases k : Op.bytesLess y x
 ·rfl
 ·have := bl_trans _ _ _ h k
  rw [bl_irrefl] at this
  exact this.symm
theorem cmpS_cases (x y : ByteArray) : (cmpS x y = -1 ∧ Op.bytesLess x.toList y.toList = true) ∨ (cmpS x y = 0 ∧ x.toList = y.toList) ∨ (cmpS x y = 1 ∧ Op.bytesLess y.toList x.toList = true) := by
 unfold cmpS
 rcases bl_total x.toList y.toList with h | h | h
 ·left; simp [h]
 ·right; left; rw [h, bl_irrefl]; simp
 ·right; right
  have k := bl_asymm h
  have e : ¬ x.toList = y.toList := fun e => by rw [e, bl_irrefl] at h; cases h
  simp [h, k, e]
theorem cmpS_neg (x y : ByteArray) : cmpS y x = -cmpS x y := by
 rcases cmpS_cases x y with ⟨h, h'⟩ | ⟨h, h'⟩ | ⟨h, h'⟩ <;> rcases cmpS_cases y x with ⟨k, k'⟩ | ⟨k, k'⟩ | ⟨k, k'⟩
 ·have := bl_asymm h'; rw [k'] at this; cases this
 ·rw [k', bl_irrefl] at h'; cases h'
 ·omega
 ·rw [h', bl_irrefl] at k'; cases k'
 ·omega
 ·rw [h', bl_irrefl] at k'; cases k'
 ·omega
 ·rw [k', bl_irrefl] at h'; cases h'
 ·have := bl_asymm h'; rw [k'] at this; cases this
theorem cmpS_le {x y z : ByteArray} (h : cmpS x y ≤ 0) (k : cmpS y z ≤ 0) : cmpS x z ≤ 0 ∧ (cmpS x z = 0 → cmpS x y = 0 ∧ cmpS y z = 0) := by
 rcases cmpS_cases x y with ⟨h1, h'⟩ | ⟨h1, h'⟩ | ⟨h1, h'⟩
 ·have g : Op.bytesLess x.toList z.toList = true := by
   rcases cmpS_cases y z with ⟨k1, k'⟩ | ⟨k1, k'⟩ | ⟨k1, k'⟩
   ·exact bl_trans _ _ _ h' k'
   ·rw [← k']; exact h'
   ·omega
  have e : cmpS x z = -1 := by simp [cmpS, g]
  omega
 ·have e : cmpS x z = cmpS y z := by simp [cmpS, h']
  omega
 ·omega
theorem cmpI_neg (x y : Int) : cmpI y x = -cmpI x y := by unfold cmpI; repeat' split <;> omega
theorem cmpI_cases (x y : Int) : (cmpI x y = -1 ∧ x < y) ∨ (cmpI x y = 0 ∧ x = y) ∨ (cmpI x y = 1 ∧ y < x) := by unfold cmpI; repeat' split <;> omega
theorem ordOk_neg (k n : Int) (s : ByteArray) (k' n' : Int) (s' : ByteArray) : ordOk k' n' s' k n s = -ordOk k n s k' n' s' := by
 unfold ordOk
 cases h : valOkB k n s
 ·simp
 cases h' : valOkB k' n' s'
 ·simp
 simp only [Bool.and_self, if_true]
 rw [← ord_eq h h', ← ord_eq h' h, cmpI_neg k k', cmpI_neg n n', cmpS_neg s s']
 unfold firstNZ; repeat' split <;> omega
theorem ordOk_bd (k n : Int) (s : ByteArray) (k' n' : Int) (s' : ByteArray) : -1 ≤ ordOk k n s k' n' s' ∧ ordOk k n s k' n' s' ≤ 1 := by
 unfold ordOk ordV; split <;> (try split) <;> (try split) <;> omega
theorem ordOk_zero {k n : Int} {s : ByteArray} {k' n' : Int} {s' : ByteArray} (h : valOkB k n s = true) (h' : valOkB k' n' s' = true) :
  ((k == k') = true ∧ (n == n') = true ∧ (s.toList == s'.toList) = true ∧ (ordOk k n s k' n' s' == 0) = true) ∨
  ((k == k') = false ∧ (ordOk k n s k' n' s' == 0) = false) ∨
  ((k == k') = true ∧ (n == n') = false ∧ (ordOk k n s k' n' s' == 0) = false) ∨
  ((k == k') = true ∧ (n == n') = true ∧ (s.toList == s'.toList) = false ∧ (ordOk k n s k' n' s' == 0) = false) := by
 unfold ordOk
 simp only [h, h', Bool.and_self, if_true]
 rw [← ord_eq h h']
 unfold firstNZ
 rcases cmpI_cases k k' with ⟨a, a'⟩ | ⟨a, a'⟩ | ⟨a, a'⟩
 ·exact .inr (.inl ⟨beq_eq_false_iff_ne.2 (by omega), by simp [a]⟩)
 ·have a2 : (k == k') = true := beq_iff_eq.2 a'
  rcases cmpI_cases n n' with ⟨b, b'⟩ | ⟨b, b'⟩ | ⟨b, b'⟩
  ·exact .inr (.inr (.inl ⟨a2, beq_eq_false_iff_ne.2 (by omega), by simp [a, b]⟩))
  ·have b2 : (n == n') = true := beq_iff_eq.2 b'
   rcases cmpS_cases s s' with ⟨c, c'⟩ | ⟨c, c'⟩ | ⟨c, c'⟩
   ·exact .inr (.inr (.inr ⟨a2, b2, beq_eq_false_iff_ne.2 (fun e => by rw [e, bl_irrefl] at c'; cases c'), by simp [a, b, c]⟩))
   ·exact .inl ⟨a2, b2, beq_iff_eq.2 c', by simp [a, b, c]⟩
   ·exact .inr (.inr (.inr ⟨a2, b2, beq_eq_false_iff_ne.2 (fun e => by rw [e, bl_irrefl] at c'; cases c'), by simp [a, b, c]⟩))
  ·exact .inr (.inr (.inl ⟨a2, beq_eq_false_iff_ne.2 (by omega), by simp [a, b]⟩))
 ·exact .inr (.inl ⟨beq_eq_false_iff_ne.2 (by omega), by simp [a]⟩)
theorem ordOk_le {k n : Int} {s : ByteArray} {k' n' : Int} {s' : ByteArray} {k2 n2 : Int} {s2 : ByteArray} (h : valOkB k n s = true) (h' : valOkB k' n' s' = true) (h2 : valOkB k2 n2 s2 = true)
  (a : ordOk k n s k' n' s' ≤ 0) (b : ordOk k' n' s' k2 n2 s2 ≤ 0) : ordOk k n s k2 n2 s2 ≤ 0 := by
 unfold ordOk at *
 simp only [h, h', h2, Bool.and_self, if_true] at a b ⊢
 rw [← ord_eq h h'] at a
 rw [← ord_eq h' h2] at b
 rw [← ord_eq h h2]
 unfold firstNZ at *
 rcases cmpI_cases k k' with ⟨x, x'⟩ | ⟨x, x'⟩ | ⟨x, x'⟩ <;> rcases cmpI_cases k' k2 with ⟨y, y'⟩ | ⟨y, y'⟩ | ⟨y, y'⟩ <;> rcases cmpI_cases k k2 with ⟨z, z'⟩ | ⟨z, z'⟩ | ⟨z, z'⟩ <;> simp [x, y, z] at a b ⊢ <;> try omega
 rcases cmpI_cases n n' with ⟨x, x'⟩ | ⟨x, x'⟩ | ⟨x, x'⟩ <;> rcases cmpI_cases n' n2 with ⟨y, y'⟩ | ⟨y, y'⟩ | ⟨y, y'⟩ <;> rcases cmpI_cases n n2 with ⟨z, z'⟩ | ⟨z, z'⟩ | ⟨z, z'⟩ <;> simp [x, y, z] at a b ⊢ <;> try omega
 exact (cmpS_le a b).1
def ordX (x y : Vl) : Int := ordOk x.k x.n x.s y.k y.n y.s
def ordL : List Vl → List Vl → Int
 | [], [] => 0
 | [], _ :: _ => -1
 | _ :: _, [] => 1
 | x :: a, y :: b => if ordX x y = 0 then ordL a b else ordX x y
def ordE (a b : En) : Int := if ordL a.key b.key = 0 then cmpI a.id b.id else ordL a.key b.key
def entryB (e : En) : Bool := decide (1 ≤ e.key.length) && (rowB e.key && (decide (1 ≤ e.id) && decide (e.id ≤ 1000000000)))
def wideOf (l : List En) : Nat := ((l[0]?).map fun e => e.key.length).getD 0
def entW (n : Nat) (e : En) : Bool := entryB e && decide (e.key.length = n)
def upB (l : List En) (i : Nat) : Bool := match l[i]?, l[i + 1]? with
 | some a, some b => decide (ordE a b < 0)
 | _, _ => true
def risesB (l : List En) : Bool := (List.range l.length).all (upB l)
def entriesB (l : List En) : Bool := decide (l.length ≤ 120) && (l.all (entW (wideOf l)) && risesB l)
theorem ordX_bd (x y : Vl) : -1 ≤ ordX x y ∧ ordX x y ≤ 1 := ordOk_bd _ _ _ _ _ _
theorem ordX_neg (x y : Vl) : ordX y x = -ordX x y := ordOk_neg _ _ _ _ _ _
theorem ordL_bd : ∀ a b : List Vl, -1 ≤ ordL a b ∧ ordL a b ≤ 1
 | [], [] => by simp [ordL]
 | [], _ :: _ => by simp [ordL]
 | _ :: _, [] => by simp [ordL]
 | x :: a, y :: b => by
  unfold ordL
  split
  ·exact ordL_bd a b
  ·exact ordX_bd x y
theorem ordL_at {a b : List Vl} {k : Nat} (h : k < a.length) (h' : k < b.length) : ordL (a.drop k) (b.drop k) = if ordX a[k] b[k] = 0 then ordL (a.drop (k + 1)) (b.drop (k + 1)) else ordX a[k] b[k] := by
 rw [List.drop_eq_getElem_cons h, List.drop_eq_getElem_cons h']; rfl
theorem ordL_end {a b : List Vl} {k : Nat} (h : k < a.length) (h' : b.length ≤ k) : ordL (a.drop k) (b.drop k) = 1 := by
 rw [List.drop_eq_getElem_cons h, List.drop_of_length_le h']; rfl
theorem ordL_off {a b : List Vl} {k : Nat} (h : a.length ≤ k) (h' : k < b.length) : ordL (a.drop k) (b.drop k) = -1 := by
 rw [List.drop_of_length_le h, List.drop_eq_getElem_cons h']; rfl
theorem ordL_both {a b : List Vl} {k : Nat} (h : a.length ≤ k) (h' : b.length ≤ k) : ordL (a.drop k) (b.drop k) = 0 := by
 rw [List.drop_of_length_le h, List.drop_of_length_le h']; rfl
theorem upB_at {l : List En} {i : Nat} (h : i + 1 < l.length) : upB l i = decide (ordE l[i] l[i + 1] < 0) := by
 unfold upB
 rw [List.getElem?_eq_getElem (by omega), List.getElem?_eq_getElem h]
theorem upB_last {l : List En} {i : Nat} (h : l.length ≤ i + 1) : upB l i = true := by
 unfold upB
 rw [List.getElem?_eq_none h]
 split
 ·next h1 h2 => cases h2
 ·rfl
theorem all_take_succE {α : Type} (f : α → Bool) (l : List α) (k : Nat) (h : k < l.length) : (l.take (k + 1)).all f = ((l.take k).all f && f l[k]) := by
 rw [List.take_succ_eq_append_getElem h, List.all_append]; simp
theorem range_all_succ (f : Nat → Bool) (k : Nat) : (List.range (k + 1)).all f = ((List.range k).all f && f k) := by
 rw [List.range_succ, List.all_append]; simp
theorem rises_no {l : List En} {i : Nat} (h : i + 1 < l.length) (hn : ¬ ordE l[i] l[i + 1] < 0) : risesB l = false := by
 unfold risesB
 rw [List.all_eq_false]
 exact ⟨i, List.mem_range.2 (by omega), by rw [upB_at h, decide_eq_false hn]; simp⟩
theorem rises_yes {l : List En} {k : Nat} (h : (List.range k).all (upB l) = true) (hk : l.length ≤ k + 1) : risesB l = true := by
 unfold risesB
 rw [List.all_eq_true] at h ⊢
 intro i hi
 rw [List.mem_range] at hi
 by_cases e : i < k
 ·exact h i (List.mem_range.2 e)
 ·exact upB_last (by omega)
theorem entriesB_no {l : List En} {k : Nat} (h : k < l.length) (hf : entW (wideOf l) l[k] = false) : entriesB l = false := by
 unfold entriesB
 rw [List.all_eq_false.2 ⟨l[k], List.getElem_mem h, by simp [hf]⟩]
 simp
theorem entriesB_in {l : List En} (h : entriesB l = true) : l.length ≤ 120 ∧ (∀ e ∈ l, entryB e = true ∧ e.key.length = wideOf l) ∧ risesB l = true := by
 unfold entriesB at h
 simp only [Bool.and_eq_true, decide_eq_true_eq, List.all_eq_true, entW] at h
 exact ⟨h.1, h.2.1, h.2.2⟩
theorem wideOf_at {l : List En} (h : 0 < l.length) : wideOf l = l[0].key.length := by
 unfold wideOf
 rw [List.getElem?_eq_getElem h]; rfl
end Go.Proofs.YtciaidjmehelpaaGreat
namespace Go.Proofs.YtciaidjmehelpaaGreat
open Go.RowKit Go.Maps
set_option maxHeartbeats 1000000 in
theorem implOrderOf (x y : Vl) (w : World) :
  Calls Tryz.prog 111 #[.agg #[.int .i64 x.k, .int .i64 x.n, .string x.s], .agg #[.int .i64 y.k, .int .i64 y.n, .string y.s]] w fun e w' => e = .returned (.int .i64 (ordX x y)) ∧ Below w.heap.size w w' := by
 have hb0 := chain2 w (.cells #[.int .i64 x.k, .int .i64 x.n, .string x.s] 34) (.cells #[.int .i64 y.k, .int .i64 y.n, .string y.s] 34)
 have HB := Lib.hid hb0
 clear hb0
 go_enter Tryz.func111, Tryz.ntmps111
 go_wp2_with fail
 refine (implOrder x.k x.n x.s y.k y.n y.s _).mono ?_
 rintro e w1 ⟨rfl, hb1⟩
 go_wp2_with fail
 go_ret
 exact ⟨rfl, HB.out.trans (hb1.mono HB.out.size)⟩
set_option maxRecDepth 100000 in
set_option maxHeartbeats 2000000 in
theorem implCmpVals (A B : Option Addr) (n m c d : Nat) (a b : List Vl) (ok ok' : Nat → Prop) (w : World) (ha : Sl VlR 3 ok w A n a) (hb : Sl VlR 3 ok' w B m b) (hn : n ≤ 1048576) (hm : m ≤ 1048576) :
  Calls Tryz.prog 110 #[.slice A n c, .slice B m d, .func (.func 111) #[] #[]] w fun e w' => e = .returned (.int .i64 (ordL a b)) ∧ Below w.heap.size w w' := by
 obtain rfl : a.length = n := ha.1
 obtain rfl : b.length = m := hb.1
 go_enter Tryz.func110, Tryz.ntmps110
 go_wp2_with fail
 go_loopw [13] (fun i wr => ∃ k : Nat, k ≤ a.length ∧ i = .int .i64 k ∧ Hid (k ≤ b.length) ∧ Hid (ordL (a.drop k) (b.drop k) = ordL a b) ∧ Below w.heap.size w wr) (fun i _ => a.length - (intOf i).toNat)
 case atStart => exact ⟨0, by omega, rfl, Lib.hid (by omega), Lib.hid (by simp), Below.refl _ _⟩
 case round =>
  obtain ⟨k, hk, rfl, hkb, hord, hbw⟩ := hrel
  by_cases hlt : k < a.length
  ·obtain ⟨b1, o1, -, rfl, q0, q1, q2⟩ := VlR.at_ (ha.below VlR.stays hbw) hlt
   have i0 : (0 : Int) ≤ k := by omega
   have i1 : (k : Int) < a.length := by omega
   have hx1 := hbw.alloc hbw.size (.cells #[.int .i64 a[k].k, .int .i64 a[k].n, .string a[k].s] 34)
   by_cases hl2 : k < b.length
   case neg =>
    have z : decide ((b.length : Int) ≤ k) = true := decide_eq_true (by omega)
    have z' : decide (b.length ≤ k) = true := decide_eq_true (by omega)
    have HR := Lib.hid (show ordL a b = 1 by rw [← hord.out]; exact ordL_end hlt (by omega))
    clear hord
    go_wp2_with fail
    go_ret
    exact ⟨retI HR.out.symm, hx1⟩
   have z : decide ((b.length : Int) ≤ k) = false := decide_eq_false (by omega)
   have z' : decide (b.length ≤ k) = false := decide_eq_false (by omega)
   obtain ⟨b2, o2, -, rfl, r0, r1, r2⟩ := VlR.at_ (hb.below VlR.stays hx1) hl2
   have i2 : (k : Int) < b.length := by omega
   have HB2 := Lib.hid (hx1.alloc hx1.size (.cells #[.int .i64 b[k].k, .int .i64 b[k].n, .string b[k].s] 34))
   have HO := Lib.hid (hord.out.symm.trans (ordL_at hlt hl2))
   clear hord hx1
   go_wp2_with fail
   refine (implOrderOf a[k] b[k] _).mono ?_
   rintro e w3 ⟨rfl, hb3⟩
   have hz := HB2.out.trans (hb3.mono HB2.out.size)
   by_cases h0 : ordX a[k] b[k] = 0
   ·have z0 : (ordX a[k] b[k] != 0) = false := by simpa using h0
    have HA := Lib.hid (show ordL (a.drop (k + 1)) (b.drop (k + 1)) = ordL a b by rw [HO.out, if_pos h0])
    clear h0
    go_wp2_with fail
    go_roundw
    case rel => exact ⟨k + 1, by omega, by go_num, Lib.hid (by omega), HA, hz⟩
    case measure => simp [intOf]; omega
   ·have z0 : (ordX a[k] b[k] != 0) = true := by simpa using h0
    have HA := Lib.hid (show ordL a b = ordX a[k] b[k] by rw [HO.out, if_neg h0])
    clear h0
    go_wp2_with fail
    go_ret
    exact ⟨retI HA.out.symm, hz⟩
  ·obtain rfl : k = a.length := by omega
   by_cases hl2 : a.length < b.length
   ·have z : decide (a.length < b.length) = true := decide_eq_true hl2
    have HR := Lib.hid (show ordL a b = -1 by rw [← hord.out]; exact ordL_off (Nat.le_refl _) hl2)
    clear hord
    go_wp2_with fail
    go_ret
    exact ⟨retI HR.out.symm, hbw⟩
   ·have z : decide (a.length < b.length) = false := decide_eq_false hl2
    have HR := Lib.hid (show ordL a b = 0 by rw [← hord.out]; exact ordL_both (Nat.le_refl _) (by omega))
    clear hord
    go_wp2_with fail
    go_ret
    exact ⟨retI HR.out.symm, hbw⟩
def first2 (x y : Int) : Int := if x = 0 then y else x
set_option maxHeartbeats 1000000 in
theorem cmpOr2 (b : Nat) (x y : Int) (w : World) (h0 : w.cell? ⟨b, 0, none⟩ = some (.int .i64 x)) (h1 : w.cell? ⟨b, 1, none⟩ = some (.int .i64 y)) :
  Calls Tryz.prog 56 #[.slice (some ⟨b, 0, none⟩) 2 2] w fun e w' => e = .returned (.int .i64 (first2 x y)) ∧ w = w' := by
 by_cases hx : x = 0
 ·subst hx
  by_cases hy : y = 0
  ·subst hy
   rw [show first2 0 0 = 0 by decide]
   go_enter Tryz.func56, Tryz.ntmps56
   go_wp2
   refine wp_loop_rounds 4 ?_
   rw [rounds_succ]
   go_wp2
   rw [rounds_succ]
   go_wp2
   rw [rounds_succ]
   go_wp2
   go_ret
   exact ⟨rfl, rfl⟩
  ·rw [show first2 0 y = y by simp [first2]]
   have hy' : (y != 0) = true := by simpa using hy
   go_enter Tryz.func56, Tryz.ntmps56
   go_wp2
   refine wp_loop_rounds 4 ?_
   rw [rounds_succ]
   go_wp2
   rw [rounds_succ]
   go_wp2
   go_ret
   exact ⟨rfl, rfl⟩
 ·rw [show first2 x y = x by simp [first2, hx]]
  have hx' : (x != 0) = true := by simpa using hx
  go_enter Tryz.func56, Tryz.ntmps56
  go_wp2
  refine wp_loop_rounds 4 ?_
  rw [rounds_succ]
  go_wp2
  go_ret
  exact ⟨rfl, rfl⟩
end Go.Proofs.YtciaidjmehelpaaGreat
namespace Go.Proofs.YtciaidjmehelpaaGreat
open Go.RowKit Go.Maps
theorem run_store_fnE (P : Program) (w : World) (a : Addr) (m : Mode) (f : Fn) (x y : Array Value) : (store a (.func f x y) m).run P w = stored P w a (.func f x y) m := run_store P w a _ m rfl
attribute [local go_sem] run_store_fnE
theorem two_rows (w : World) (T : TypeId) (cs cs' : Array Value) : Row ((w.alloc (.cells cs T)).alloc (.cells cs' T)) w.heap.size T cs ∧ Row ((w.alloc (.cells cs T)).alloc (.cells cs' T)) (w.heap.size + 1) T cs' :=
 ⟨(Row.new w T cs).alloc _, Row.newAt (w.alloc (.cells cs T)) T cs' (w.heap.size + 1) (by simp)⟩
theorem keepC4 {w w' : World} {p q r s : Addr} {a b c d : Value} (h : w.cell? p = some a ∧ w.cell? q = some b ∧ w.cell? r = some c ∧ w.cell? s = some d) (hb : Below w.heap.size w w') : w'.cell? p = some a ∧ w'.cell? q = some b ∧ w'.cell? r = some c ∧ w'.cell? s = some d :=
 ⟨below_keep hb _ _ h.1, below_keep hb _ _ h.2.1, below_keep hb _ _ h.2.2.1, below_keep hb _ _ h.2.2.2⟩
theorem keepC3 {w w' : World} {p q r : Addr} {a b c : Value} (h : w.cell? p = some a ∧ w.cell? q = some b ∧ w.cell? r = some c) (hb : Below w.heap.size w w') : w'.cell? p = some a ∧ w'.cell? q = some b ∧ w'.cell? r = some c :=
 ⟨below_keep hb _ _ h.1, below_keep hb _ _ h.2.1, below_keep hb _ _ h.2.2⟩
theorem keepC5 {w w' : World} {p q r s t : Addr} {a b c d e : Value} (h : w.cell? p = some a ∧ w.cell? q = some b ∧ w.cell? r = some c ∧ w.cell? s = some d ∧ w.cell? t = some e) (hb : Below w.heap.size w w') : w'.cell? p = some a ∧ w'.cell? q = some b ∧ w'.cell? r = some c ∧ w'.cell? s = some d ∧ w'.cell? t = some e :=
 ⟨below_keep hb _ _ h.1, below_keep hb _ _ h.2.1, below_keep hb _ _ h.2.2.1, below_keep hb _ _ h.2.2.2.1, below_keep hb _ _ h.2.2.2.2⟩
theorem keepC8 {w w' : World} {p q r s t u v x : Addr} {a b c d e f g h' : Value} (h : w.cell? p = some a ∧ w.cell? q = some b ∧ w.cell? r = some c ∧ w.cell? s = some d ∧ w.cell? t = some e ∧ w.cell? u = some f ∧ w.cell? v = some g ∧ w.cell? x = some h') (hb : Below w.heap.size w w') : w'.cell? p = some a ∧ w'.cell? q = some b ∧ w'.cell? r = some c ∧ w'.cell? s = some d ∧ w'.cell? t = some e ∧ w'.cell? u = some f ∧ w'.cell? v = some g ∧ w'.cell? x = some h' :=
 ⟨below_keep hb _ _ h.1, below_keep hb _ _ h.2.1, below_keep hb _ _ h.2.2.1, below_keep hb _ _ h.2.2.2.1, below_keep hb _ _ h.2.2.2.2.1, below_keep hb _ _ h.2.2.2.2.2.1, below_keep hb _ _ h.2.2.2.2.2.2.1, below_keep hb _ _ h.2.2.2.2.2.2.2⟩
set_option maxRecDepth 100000 in
set_option maxHeartbeats 2000000 in
theorem implOrderEntries (x y : En) (A B : Option Addr) (n c m d : Nat) (ok ok' : Nat → Prop) (w : World) (ha : Sl VlR 3 ok w A n x.key) (hb : Sl VlR 3 ok' w B m y.key) (hn : n ≤ 1048576) (hm : m ≤ 1048576) :
  Calls Tryz.prog 71 #[.agg #[.slice A n c, .int .i64 x.id], .agg #[.slice B m d, .int .i64 y.id]] w fun e w' => e = .returned (.int .i64 (ordE x y)) ∧ Below w.heap.size w w' := by
 have hb0 := chain2 w (.cells #[.slice A n c, .int .i64 x.id] 44) (.cells #[.slice B m d, .int .i64 y.id] 44)
 have hr := two_rows w 44 #[.slice A n c, .int .i64 x.id] #[.slice B m d, .int .i64 y.id]
 obtain ⟨⟨k0, k1⟩, -⟩ := hr.1.all2
 obtain ⟨⟨g0, g1⟩, -⟩ := hr.2.all2
 have HA := Lib.hid (Sl.below VlR.stays (ha.below VlR.stays hb0) (Below.refl _ _).drew)
 have HC := Lib.hid (Sl.below VlR.stays (hb.below VlR.stays hb0) (Below.refl _ _).drew)
 have HB := Lib.hid hb0
 clear hb0 hr ha hb
 go_enter Tryz.func71, Tryz.ntmps71
 go_wp2_with fail
 generalize (w.alloc (.cells #[.slice A n c, .int .i64 x.id] 44)).alloc (.cells #[.slice B m d, .int .i64 y.id] 44) = z0 at *
 go_region_held3 (fun w' => w'.cell? ⟨w.heap.size, 0, none⟩ = some (.slice A n c) ∧ w'.cell? ⟨w.heap.size, 1, none⟩ = some (.int .i64 x.id) ∧ w'.cell? ⟨w.heap.size + 1, 0, none⟩ = some (.slice B m d) ∧ w'.cell? ⟨w.heap.size + 1, 1, none⟩ = some (.int .i64 y.id))
  (first | go_keep | exact keepC4 (by assumption) hq3)
  (first | (go_at_call 57; refine (cmpInt _ _ _).mono ?_; rintro e w3 ⟨rfl, rfl⟩) | (go_at_call 110; refine (implCmpVals A B n m c d x.key y.key _ _ _ HA.out HC.out hn hm).mono ?_; rintro e w3 ⟨rfl, hq3⟩) | (go_at_call 56; refine Calls.mono (cmpOr2 _ (ordL x.key y.key) (cmpI x.id y.id) _ ?_ ?_) ?_; simp; simp; rintro e w4 ⟨rfl, rfl⟩))
 have hz := HB.out.drew.trans (hq3.mono HB.out.drew.size)
 go_wp2
 go_ret
 exact ⟨rfl, by first | exact hz.alloc hz.size _ | exact (hz.alloc hz.size _).drew⟩
set_option maxRecDepth 100000 in
set_option maxHeartbeats 2000000 in
theorem implRises (b : Nat) (A : Option Addr) (n c : Nat) (l : List En) (ok : Nat → Prop) (w : World) (h0 : w.cell? ⟨b, 0, none⟩ = some (.slice A n c)) (h1 : w.cell? ⟨b, 1, none⟩ = some (.func (.func 71) #[] #[]))
  (h : Sl EnR 2 ok w A n l) (hn : n ≤ 1048576) (hk : ∀ e ∈ l, e.key.length ≤ 1048576) :
  Calls Tryz.prog 96 #[.pointer (some ⟨b, 0, none⟩)] w fun e w' => e = .returned (.bool (risesB l)) ∧ Below w.heap.size w w' := by
 obtain rfl : l.length = n := h.1
 have HK := Lib.hid hk
 have H0 := Lib.hid h0
 have H1 := Lib.hid h1
 clear hk h0 h1
 go_enter Tryz.func96, Tryz.ntmps96
 go_wp2_with fail
 go_loopw [3] (fun i wr => ∃ j : Nat, i = .int .i64 ((j : Int) + 1) ∧ Hid (j ≤ l.length) ∧ Hid ((List.range j).all (upB l) = true) ∧ Below w.heap.size w wr) (fun i _ => l.length + 1 - (intOf i).toNat)
 case atStart => exact ⟨0, rfl, Lib.hid (by omega), Lib.hid (by simp), Below.refl _ _⟩
 case round =>
  obtain ⟨j, rfl, hjl, hall, hbw⟩ := hrel
  have k0 := below_keep hbw _ _ H0.out
  have k1 := below_keep hbw _ _ H1.out
  by_cases hlt : j + 1 < l.length
  ·have hsl := h.below EnR.stays hbw
   obtain ⟨b1, o1, A1, n1, c1, -, rfl, q0, q1, s1, -⟩ := EnR.at_ hsl (i := j) (by omega)
   obtain ⟨b2, o2, A2, n2, c2, -, e2, r0, r1, s2, -⟩ := EnR.at_ hsl (i := j + 1) hlt
   obtain ⟨rfl, rfl⟩ : b1 = b2 ∧ o1 = o2 := by simpa using e2
   obtain rfl : l[j].key.length = n1 := s1.1
   obtain rfl : l[j + 1].key.length = n2 := s2.1
   have z : decide ((j : Int) + 1 < l.length) = true := decide_eq_true (by omega)
   have a0 : (0 : Int) ≤ j := by omega
   have a1 : (j : Int) < l.length := by omega
   have b0 : (0 : Int) ≤ (j : Int) + 1 := by omega
   have b1' : (j : Int) + 1 < l.length := by omega
   have t0 : IntKind.i64.wrap ((j : Int) + 1 - 1) = j := by rw [IntWalk.i64_in _ (by omega)]; omega
   have t1 : ((j : Int) + 1).toNat = j + 1 := by omega
   have t2 : IntKind.i64.wrap (j : Int) = j := IntWalk.i64_in _ (by omega)
   have HX := Lib.hid (implOrderEntries l[j] l[j + 1] A1 A2 l[j].key.length c1 l[j + 1].key.length c2 _ _ wr.drew (Sl.below VlR.stays s1 (Below.refl _ _).drew) (Sl.below VlR.stays s2 (Below.refl _ _).drew) (HK.out _ (List.getElem_mem _)) (HK.out _ (List.getElem_mem _)))
   have HNO := Lib.hid (fun hh => rises_no (l := l) hlt hh)
   have HYES := Lib.hid (show ordE l[j] l[j + 1] < 0 → (List.range (j + 1)).all (upB l) = true from fun hh => by rw [range_all_succ, hall.out, upB_at hlt, decide_eq_true hh]; rfl)
   have hme : l.length + 1 - (j + 1 + 1) < l.length + 1 - (j + 1) := by omega
   have HJ := Lib.hid (show j + 1 ≤ l.length by omega)
   clear e2 s1 s2 hsl hall hjl
   go_wp2_with fail
   have d0 : wr.drew.cell? ⟨b1, o1 + j * 2, none⟩ = some (.slice A1 l[j].key.length c1) := q0
   have d1 : wr.drew.cell? ⟨b1, o1 + j * 2 + 1, none⟩ = some (.int .i64 l[j].id) := q1
   go_region_held3 (fun w' => w'.cell? ⟨b, 0, none⟩ = some (.slice (some ⟨b1, o1, none⟩) l.length c) ∧ w'.cell? ⟨b, 1, none⟩ = some (.func (.func 71) #[] #[]) ∧ w'.cell? ⟨b1, o1 + j * 2, none⟩ = some (.slice A1 l[j].key.length c1) ∧ w'.cell? ⟨b1, o1 + j * 2 + 1, none⟩ = some (.int .i64 l[j].id) ∧ w'.cell? ⟨b1, o1 + (j + 1) * 2, none⟩ = some (.slice A2 l[j + 1].key.length c2) ∧ w'.cell? ⟨b1, o1 + (j + 1) * 2 + 1, none⟩ = some (.int .i64 l[j + 1].id))
    (first | go_keep | exact ⟨k0, k1, q0, q1, r0, r1⟩ | exact keep6 (by assumption) hq3)
    (first | (go_at_call 71; refine HX.out.mono ?_; rintro e w3 ⟨rfl, hq3⟩))
   have hz := hbw.drew.trans (hq3.mono hbw.drew.size)
   by_cases hc : ordE l[j] l[j + 1] < 0
   ·have zc : decide (0 ≤ ordE l[j] l[j + 1]) = false := decide_eq_false (by omega)
    have HA := Lib.hid (HYES.out hc)
    go_wp2_with fail
    go_roundw
    case rel => exact ⟨j + 1, by first | rfl | go_num, HJ, HA, hz⟩
    case measure => simp [intOf]; omega
   ·have zc : decide (0 ≤ ordE l[j] l[j + 1]) = true := decide_eq_true (by omega)
    have HF := Lib.hid (HNO.out (by omega))
    go_wp2_with fail
    go_ret
    exact ⟨retB HF.out.symm, hz⟩
  ·have z : decide ((j : Int) + 1 < l.length) = false := decide_eq_false (by omega)
   have HF := Lib.hid (rises_yes hall.out (by omega))
   clear hall
   go_wp2_with fail
   go_ret
   exact ⟨retB HF.out.symm, hbw⟩
set_option maxRecDepth 100000 in
set_option maxHeartbeats 2000000 in
theorem implEntryOk (x : En) (A : Option Addr) (n c : Nat) (ok : Nat → Prop) (w : World) (h : Sl VlR 3 ok w A n x.key) (hn : n ≤ 1048576) :
  Calls Tryz.prog 67 #[.agg #[.slice A n c, .int .i64 x.id]] w fun e w' => e = .returned (.bool (entryB x)) ∧ Below w.heap.size w w' := by
 obtain rfl : x.key.length = n := h.1
 have hb0 := (Below.refl w.heap.size w).alloc (Nat.le_refl _) (.cells #[.slice A x.key.length c, .int .i64 x.id] 44)
 have r0 := Row.new w 44 #[.slice A x.key.length c, .int .i64 x.id]
 have h1 := h.below VlR.stays hb0
 obtain ⟨⟨k0, k1⟩, -⟩ := r0.all2
 have RB := Lib.hid r0
 clear r0
 by_cases hl : 1 ≤ x.key.length
 case neg =>
  have HF := Lib.hid (show entryB x = false by unfold entryB; rw [decide_eq_false hl]; rfl)
  have z : decide ((1 : Int) ≤ x.key.length) = false := decide_eq_false (by omega)
  have z' : decide (1 ≤ x.key.length) = false := decide_eq_false (by omega)
  clear hl
  go_enter Tryz.func67, Tryz.ntmps67
  go_wp2_with fail
  go_ret
  exact ⟨retB HF.out.symm, hb0⟩
 have z : decide ((1 : Int) ≤ x.key.length) = true := decide_eq_true (by omega)
 have z' : decide (1 ≤ x.key.length) = true := decide_eq_true (by omega)
 have HE := Lib.hid (show entryB x = (rowB x.key && (decide (1 ≤ x.id) && decide (x.id ≤ 1000000000))) by unfold entryB; rw [z']; rfl)
 have HX := Lib.hid (implSeenOk A x.key.length c x.key _ (Sl.cellz (fun _ => rfl) h1) (by unfold maxLen; omega))
 clear hl h h1
 go_enter Tryz.func67, Tryz.ntmps67
 go_wp2_with fail
 generalize w.alloc (.cells #[.slice A x.key.length c, .int .i64 x.id] 44) = z0 at *
 refine HX.out.mono ?_
 rintro e w1 ⟨rfl, hb1⟩
 have hz := hb0.trans (hb1.mono hb0.size)
 obtain ⟨⟨g0, g1⟩, -⟩ := (RB.out.below hb1).all2
 clear k0 k1
 cases hr : rowB x.key
 ·have HF := Lib.hid (show entryB x = false by rw [HE.out, hr]; rfl)
  clear hr
  go_wp2_with fail
  go_ret
  exact ⟨retB HF.out.symm, hz⟩
 have HE2 := Lib.hid (show entryB x = (decide (1 ≤ x.id) && decide (x.id ≤ 1000000000)) by rw [HE.out, hr]; rfl)
 clear hr
 by_cases hi : 1 ≤ x.id
 ·have zi : decide (1 ≤ x.id) = true := decide_eq_true hi
  have HF := Lib.hid (show entryB x = decide (x.id ≤ 1000000000) by rw [HE2.out, zi]; rfl)
  clear hi
  go_wp2_with fail
  go_ret
  exact ⟨retB HF.out.symm, hz⟩
 ·have zi : decide (1 ≤ x.id) = false := decide_eq_false hi
  have HF := Lib.hid (show entryB x = false by rw [HE2.out, zi]; rfl)
  clear hi
  go_wp2_with fail
  go_ret
  exact ⟨retB HF.out.symm, hz⟩
set_option maxRecDepth 100000 in
set_option maxHeartbeats 4000000 in
theorem implEntriesOk (A : Option Addr) (n c : Nat) (l : List En) (ok : Nat → Prop) (w : World) (h : Sl EnR 2 ok w A n l) (hn : n ≤ 1048576) (hk : ∀ e ∈ l, e.key.length ≤ 1048576) :
  Calls Tryz.prog 51 #[.slice A n c] w fun e w' => e = .returned (.bool (entriesB l)) ∧ Below w.heap.size w w' := by
 obtain rfl : l.length = n := h.1
 by_cases h120 : l.length ≤ 120
 case neg =>
  have HF := Lib.hid (show entriesB l = false by unfold entriesB; rw [decide_eq_false h120]; rfl)
  have z : decide ((120 : Int) < l.length) = true := decide_eq_true (by omega)
  have z' : decide (120 < l.length) = true := decide_eq_true (by omega)
  clear h120
  go_enter Tryz.func51, Tryz.ntmps51
  go_wp2_with fail
  go_ret
  exact ⟨retB HF.out.symm, Below.refl _ _⟩
 have z : decide ((120 : Int) < l.length) = false := decide_eq_false (by omega)
 have z' : decide (120 < l.length) = false := decide_eq_false (by omega)
 have H120 := Lib.hid h120
 have HK := Lib.hid hk
 clear h120 hk
 go_enter Tryz.func51, Tryz.ntmps51
 go_wp2_with fail
 clear z z'
 go_loopw [11] (fun i wr => ∃ k : Nat, k ≤ l.length ∧ i = .int .i64 k ∧ Hid ((l.take k).all (entW (wideOf l)) = true) ∧ Below w.heap.size w wr) (fun i _ => l.length - (intOf i).toNat)
 case atStart => exact ⟨0, by omega, rfl, Lib.hid (by simp), Below.refl _ _⟩
 case round =>
  obtain ⟨k, hk, rfl, hall, hb⟩ := hrel
  by_cases hlt : k < l.length
  ·have hsl := h.below EnR.stays hb
   obtain ⟨b1, o1, A1, n1, c1, -, rfl, q0, q1, s1, -⟩ := EnR.at_ hsl (i := k) hlt
   obtain ⟨b2, o2, A2, n2, c2, -, e2, r0, r1, s2, -⟩ := EnR.at_ hsl (i := 0) (by omega)
   obtain ⟨rfl, rfl⟩ : b1 = b2 ∧ o1 = o2 := by simpa using e2
   obtain rfl : l[k].key.length = n1 := s1.1
   obtain rfl : l[0].key.length = n2 := s2.1
   rw [Nat.zero_mul, Nat.add_zero] at r0
   have i0 : (0 : Int) ≤ k := by omega
   have i1 : (k : Int) < l.length := by omega
   have i2 : (0 : Int) < l.length := by omega
   have i3 : 0 < l.length := by omega
   have hbx := (Below.refl wr.heap.size wr).alloc (Nat.le_refl _) (.cells #[.slice A1 l[k].key.length c1, .int .i64 l[k].id] 44)
   have hba := hb.trans (hbx.mono hb.size)
   obtain ⟨⟨v0, v1⟩, -⟩ := (Row.new wr 44 #[.slice A1 l[k].key.length c1, .int .i64 l[k].id]).all2
   have x0 := below_keep hbx _ _ r0
   have HX := Lib.hid (implEntryOk l[k] A1 l[k].key.length c1 _ (wr.alloc (.cells #[.slice A1 l[k].key.length c1, .int .i64 l[k].id] 44)).drew (Sl.below VlR.stays (s1.below VlR.stays hbx) (Below.refl _ _).drew) (HK.out _ (List.getElem_mem _)))
   have HNO := Lib.hid (fun hf => entriesB_no (l := l) hlt hf)
   have HW := Lib.hid (wideOf_at i3)
   have HST := Lib.hid (all_take_succE (entW (wideOf l)) l k hlt)
   clear e2 s1 s2 hsl r0 r1
   go_wp2_with fail
   generalize wr.alloc (.cells #[.slice A1 l[k].key.length c1, .int .i64 l[k].id] 44) = z0 at *
   cases he : entryB l[k]
   ·have HE := Lib.hid he
    have HF := Lib.hid (HNO.out (by unfold entW; rw [he]; rfl))
    clear he
    first | (go_region_with ((go_at_call 67; refine HX.out.mono ?_; rintro e w3 ⟨rfl, hq3⟩; rw [HE.out]))) | fail
    go_wp2_with fail
    all_goals (go_ret; exact ⟨retB HF.out.symm, hba.drew.trans (hq3.mono hba.drew.size)⟩)
   have HE := Lib.hid he
   by_cases hl : l[k].key.length = l[0].key.length
   ·have zl : ((l[k].key.length : Int) != l[0].key.length) = false := by rw [hl]; simp
    have HA := Lib.hid (show (l.take (k + 1)).all (entW (wideOf l)) = true by rw [HST.out, hall.out]; unfold entW; rw [he, HW.out, decide_eq_true hl]; rfl)
    clear he hl
    first | (go_region_held3 (fun w' => w'.cell? ⟨wr.heap.size, 0, none⟩ = some (.slice A1 l[k].key.length c1) ∧ w'.cell? ⟨wr.heap.size, 1, none⟩ = some (.int .i64 l[k].id) ∧ w'.cell? ⟨b1, o1, none⟩ = some (.slice A2 l[0].key.length c2))
     (first | go_keep | exact keepC3 (by assumption) hq3)
     (first | (go_at_call 67; refine HX.out.mono ?_; rintro e w3 ⟨rfl, hq3⟩; rw [HE.out]))) | fail
    (try rw [zl])
    go_wp2_with fail
    go_roundw
    case rel => exact ⟨k + 1, by omega, by go_num, HA, hba.drew.trans (hq3.mono hba.drew.size)⟩
    case measure => simp [intOf]; omega
   ·have zl : ((l[k].key.length : Int) != l[0].key.length) = true := by simp; omega
    have HF := Lib.hid (HNO.out (by unfold entW; rw [HW.out, decide_eq_false hl, Bool.and_false]))
    clear he hl
    first | (go_region_held3 (fun w' => w'.cell? ⟨wr.heap.size, 0, none⟩ = some (.slice A1 l[k].key.length c1) ∧ w'.cell? ⟨wr.heap.size, 1, none⟩ = some (.int .i64 l[k].id) ∧ w'.cell? ⟨b1, o1, none⟩ = some (.slice A2 l[0].key.length c2))
     (first | go_keep | exact keepC3 (by assumption) hq3)
     (first | (go_at_call 67; refine HX.out.mono ?_; rintro e w3 ⟨rfl, hq3⟩; rw [HE.out]))) | fail
    (try rw [zl])
    go_wp2_with fail
    go_ret
    exact ⟨retB HF.out.symm, hba.drew.trans (hq3.mono hba.drew.size)⟩
  ·obtain rfl : k = l.length := by omega
   have ha := hall.out
   rw [List.take_of_length_le (Nat.le_refl _)] at ha
   have HF := Lib.hid (show entriesB l = risesB l by unfold entriesB; rw [decide_eq_true H120.out, ha]; rfl)
   have hbx := (Below.refl wr.heap.size wr).alloc (Nat.le_refl _) (.cells #[.slice A l.length c, .func (.func 71) #[] #[]] 99)
   have hba := hb.trans (hbx.mono hb.size)
   obtain ⟨⟨v0, v1⟩, -⟩ := (Row.new wr 99 #[.slice A l.length c, .func (.func 71) #[] #[]]).all2
   have HX := Lib.hid (implRises wr.heap.size A l.length c l _ _ v0 v1 ((h.below EnR.stays hb).below EnR.stays hbx) hn HK.out)
   clear hall ha
   go_wp2_with fail
   refine HX.out.mono ?_
   rintro e w3 ⟨rfl, hq3⟩
   go_wp2_with fail
   go_ret
   exact ⟨retB HF.out.symm, hba.trans (hq3.mono hba.size)⟩
end Go.Proofs.YtciaidjmehelpaaGreat
namespace Go.Proofs.YtciaidjmehelpaaGreat
open Go.RowKit Go.Maps
def ordY (x y : Vl) : Int := ordV x.k x.n x.s y.k y.n y.s
def ltL : List Vl → List Vl → Option Bool
 | x :: a, y :: b => if ordY x y = 0 then ltL a b else some (decide (ordY x y < 0))
 | _, _ => none
def lessE (a b : En) : Bool := (ltL a.key b.key).getD (decide (a.id < b.id))
theorem ltL_at {a b : List Vl} {k : Nat} (h : k < a.length) (h' : k < b.length) : ltL (a.drop k) (b.drop k) = if ordY a[k] b[k] = 0 then ltL (a.drop (k + 1)) (b.drop (k + 1)) else some (decide (ordY a[k] b[k] < 0)) := by
 rw [List.drop_eq_getElem_cons h, List.drop_eq_getElem_cons h']; rfl
theorem ltL_endA {a b : List Vl} {k : Nat} (h : a.length ≤ k) : ltL (a.drop k) (b.drop k) = none := by
 rw [List.drop_of_length_le h]; rfl
theorem ltL_endB {a b : List Vl} {k : Nat} (h : b.length ≤ k) : ltL (a.drop k) (b.drop k) = none := by
 rw [List.drop_of_length_le h]; cases a.drop k <;> rfl
theorem ordX_right {x y : Vl} (h : x.ok = true) (h' : y.ok = true) : ordX x y = ordY x y := by
 unfold ordX ordY ordOk
 have e1 : valOkB x.k x.n x.s = true := h
 have e2 : valOkB y.k y.n y.s = true := h'
 rw [e1, e2]; rfl
theorem ltL_right : ∀ {a b : List Vl}, (∀ x ∈ a, x.ok = true) → (∀ x ∈ b, x.ok = true) → a.length = b.length → ltL a b = if ordL a b = 0 then none else some (decide (ordL a b < 0))
 | [], [], _, _, _ => rfl
 | [], _ :: _, _, _, h => by simp at h
 | _ :: _, [], _, _, h => by simp at h
 | x :: a, y :: b, h1, h2, h3 => by
  have e := ordX_right (h1 x (by simp)) (h2 y (by simp))
  unfold ltL ordL
  rw [e]
  by_cases h0 : ordY x y = 0
  ·rw [if_pos h0, if_pos h0]
   exact ltL_right (fun z hz => h1 z (by simp [hz])) (fun z hz => h2 z (by simp [hz])) (by simpa using h3)
  ·rw [if_neg h0, if_neg h0, if_neg h0]
theorem rowB_all {l : List Vl} (h : rowB l = true) : ∀ x ∈ l, x.ok = true := by
 unfold rowB at h
 simp only [Bool.and_eq_true, List.all_eq_true] at h
 exact h.2
theorem entryB_row {e : En} (h : entryB e = true) : rowB e.key = true := by
 unfold entryB at h
 simp only [Bool.and_eq_true] at h
 exact h.2.1
theorem lessE_right {a b : En} (h : entryB a = true) (h' : entryB b = true) (hl : a.key.length = b.key.length) : lessE a b = decide (ordE a b < 0) := by
 unfold lessE ordE
 rw [ltL_right (rowB_all (entryB_row h)) (rowB_all (entryB_row h')) hl]
 by_cases h0 : ordL a.key b.key = 0
 ·rw [if_pos h0, if_pos h0]
  rcases cmpI_cases a.id b.id with ⟨e, e'⟩ | ⟨e, e'⟩ | ⟨e, e'⟩ <;> simp [e] <;> omega
 ·rw [if_neg h0, if_neg h0]; rfl
set_option maxRecDepth 100000 in
set_option maxHeartbeats 4000000 in
theorem specL11Less (x y : En) (A B : Option Addr) (n c m d : Nat) (ok ok' : Nat → Prop) (w : World) (ha : Sl VlR 3 ok w A n x.key) (hb : Sl VlR 3 ok' w B m y.key) (hn : n ≤ 1048576) (hm : m ≤ 1048576) :
  Calls Tryz.prog 99 #[.agg #[.slice A n c, .int .i64 x.id], .agg #[.slice B m d, .int .i64 y.id]] w fun e w' => e = .returned (.bool (lessE x y)) ∧ Below w.heap.size w w' := by
 obtain rfl : x.key.length = n := ha.1
 obtain rfl : y.key.length = m := hb.1
 have hb0 := chain2 w (.cells #[.slice A x.key.length c, .int .i64 x.id] 44) (.cells #[.slice B y.key.length d, .int .i64 y.id] 44)
 have hr := two_rows w 44 #[.slice A x.key.length c, .int .i64 x.id] #[.slice B y.key.length d, .int .i64 y.id]
 obtain ⟨r1, r2⟩ := hr
 go_enter Tryz.func99, Tryz.ntmps99
 go_wp2_with fail
 generalize (w.alloc (.cells #[.slice A x.key.length c, .int .i64 x.id] 44)).alloc (.cells #[.slice B y.key.length d, .int .i64 y.id] 44) = z0 at *
 go_loopw [5] (fun i wr => ∃ k : Nat, i = .int .i64 k ∧ Hid (k ≤ x.key.length ∧ k ≤ y.key.length) ∧ Hid (ltL (x.key.drop k) (y.key.drop k) = ltL x.key y.key) ∧ Row wr w.heap.size 44 #[.slice A x.key.length c, .int .i64 x.id] ∧ Row wr (w.heap.size + 1) 44 #[.slice B y.key.length d, .int .i64 y.id] ∧ Below w.heap.size w wr) (fun i _ => x.key.length - (intOf i).toNat)
 case atStart => exact ⟨0, rfl, Lib.hid (by omega), Lib.hid (by simp), r1, r2, hb0⟩
 case round =>
  clear hb0 r1 r2
  obtain ⟨k, rfl, hkk, hord, r1, r2, hbw⟩ := hrel
  obtain ⟨⟨k0, k1⟩, -⟩ := r1.all2
  obtain ⟨⟨g0, g1⟩, -⟩ := r2.all2
  have R1 := Lib.hid r1
  have R2 := Lib.hid r2
  clear r1 r2
  by_cases hlt : k < x.key.length
  case neg =>
   have z : decide (k < x.key.length) = false := decide_eq_false hlt
   have HF := Lib.hid (show lessE x y = decide (x.id < y.id) by unfold lessE; rw [← hord.out, ltL_endA (by omega)]; rfl)
   clear hord hkk
   go_wp2_with fail
   go_ret
   exact ⟨retB HF.out.symm, hbw⟩
  have z : decide (k < x.key.length) = true := decide_eq_true hlt
  by_cases hl2 : k < y.key.length
  case neg =>
   have z' : decide (k < y.key.length) = false := decide_eq_false hl2
   have HF := Lib.hid (show lessE x y = decide (x.id < y.id) by unfold lessE; rw [← hord.out, ltL_endB (by omega)]; rfl)
   clear hord hkk
   go_wp2_with fail
   go_ret
   exact ⟨retB HF.out.symm, hbw⟩
  have z' : decide (k < y.key.length) = true := decide_eq_true hl2
  obtain ⟨b1, o1, -, rfl, q0, q1, q2⟩ := VlR.at_ (ha.below VlR.stays hbw) hlt
  obtain ⟨b2, o2, -, rfl, p0, p1, p2⟩ := VlR.at_ (hb.below VlR.stays hbw) hl2
  have i0 : (0 : Int) ≤ k := by omega
  have i1 : (k : Int) < x.key.length := by omega
  have i2 : (k : Int) < y.key.length := by omega
  have HO := Lib.hid (hord.out.symm.trans (ltL_at hlt hl2))
  have HK := Lib.hid (show k + 1 ≤ x.key.length ∧ k + 1 ≤ y.key.length by omega)
  have hx : x.key.length - (k + 1) < x.key.length - k := by omega
  clear hord hkk
  go_wp2_with fail
  go_region_held3 (fun w' => w'.cell? ⟨w.heap.size, 0, none⟩ = some (.slice (some ⟨b1, o1, none⟩) x.key.length c) ∧ w'.cell? ⟨w.heap.size + 1, 0, none⟩ = some (.slice (some ⟨b2, o2, none⟩) y.key.length d) ∧ w'.cell? ⟨b1, o1 + k * 3, none⟩ = some (.int .i64 x.key[k].k) ∧ w'.cell? ⟨b1, o1 + k * 3 + 1, none⟩ = some (.int .i64 x.key[k].n) ∧ w'.cell? ⟨b1, o1 + k * 3 + 2, none⟩ = some (.string x.key[k].s) ∧ w'.cell? ⟨b2, o2 + k * 3, none⟩ = some (.int .i64 y.key[k].k) ∧ w'.cell? ⟨b2, o2 + k * 3 + 1, none⟩ = some (.int .i64 y.key[k].n) ∧ w'.cell? ⟨b2, o2 + k * 3 + 2, none⟩ = some (.string y.key[k].s))
   (first | go_keep | exact ⟨k0, g0, q0, q1, q2, p0, p1, p2⟩ | exact keepC8 (by assumption) hq3)
   (first | (go_at_call 55; refine (specL1Order x.key[k].k x.key[k].n x.key[k].s y.key[k].k y.key[k].n y.key[k].s _).mono ?_; rintro e w3 ⟨rfl, hq3⟩))
  have hz := hbw.drew.trans (hq3.mono hbw.drew.size)
  have R13 := Lib.hid (R1.out.drew.below hq3)
  have R23 := Lib.hid (R2.out.drew.below hq3)
  by_cases h0 : ordY x.key[k] y.key[k] = 0
  ·have HA := Lib.hid (show ltL (x.key.drop (k + 1)) (y.key.drop (k + 1)) = ltL x.key y.key by rw [HO.out, if_pos h0])
   have z0 : (ordV x.key[k].k x.key[k].n x.key[k].s y.key[k].k y.key[k].n y.key[k].s != 0) = false := by have h1 : ordV x.key[k].k x.key[k].n x.key[k].s y.key[k].k y.key[k].n y.key[k].s = 0 := h0; simpa using h1
   clear h0
   go_wp2_with fail
   go_roundw
   case rel => exact ⟨k + 1, by go_num, HK, HA, R13.out, R23.out, hz⟩
   case measure => simp [intOf]; omega
  ·have HA := Lib.hid (show lessE x y = decide (ordV x.key[k].k x.key[k].n x.key[k].s y.key[k].k y.key[k].n y.key[k].s < 0) by unfold lessE; rw [HO.out, if_neg h0]; rfl)
   have z0 : (ordV x.key[k].k x.key[k].n x.key[k].s y.key[k].k y.key[k].n y.key[k].s != 0) = true := by have h1 : ¬ ordV x.key[k].k x.key[k].n x.key[k].s y.key[k].k y.key[k].n y.key[k].s = 0 := h0; simpa using h1
   clear h0
   go_wp2_with fail
   go_ret
   exact ⟨retB HA.out.symm, hz⟩
set_option maxRecDepth 100000 in
set_option maxHeartbeats 8000000 in
theorem specL11Right (A : Option Addr) (n c : Nat) (l : List En) (ok : Nat → Prop) (w : World) (h : Sl EnR 2 ok w A n l) (hn : n ≤ 1048576) (hk : ∀ e ∈ l, e.key.length ≤ 1048576) :
  Calls Tryz.prog 53 #[.slice A n c] w fun e w' => e = .returned (.bool (entriesB l)) ∧ Below w.heap.size w w' := by
 obtain rfl : l.length = n := h.1
 have HK := Lib.hid hk
 clear hk
 go_enter Tryz.func53, Tryz.ntmps53
 go_wp2_with fail
 go_loopw [3] (fun i wr => ∃ k : Nat, k ≤ l.length ∧ i = .int .i64 k ∧ Hid ((l.take k).all (entW (wideOf l)) = true) ∧ Hid ((List.range (k - 1)).all (upB l) = true) ∧ Below w.heap.size w wr) (fun i _ => l.length - (intOf i).toNat)
 case atStart => exact ⟨0, by omega, rfl, Lib.hid (by simp), Lib.hid (by simp), Below.refl _ _⟩
 case round =>
  obtain ⟨k, hk, rfl, hall, hup, hb⟩ := hrel
  by_cases hlt : k < l.length
  case neg =>
   obtain rfl : k = l.length := by omega
   have ha := hall.out
   rw [List.take_of_length_le (Nat.le_refl _)] at ha
   have HF := Lib.hid (show entriesB l = decide (l.length ≤ 120) by unfold entriesB; rw [ha, rises_yes hup.out (by omega)]; simp)
   clear hall ha hup
   go_wp2_with fail
   go_ret
   exact ⟨retB (by rw [HF.out, decide_eq_decide]; omega), hb⟩
  have hsl := h.below EnR.stays hb
  obtain ⟨b1, o1, A1, n1, c1, -, rfl, q0, q1, s1, -⟩ := EnR.at_ hsl (i := k) hlt
  obtain ⟨b2, o2, A2, n2, c2, -, e2, r0, r1, s2, -⟩ := EnR.at_ hsl (i := 0) (by omega)
  obtain ⟨rfl, rfl⟩ : b1 = b2 ∧ o1 = o2 := by simpa using e2
  obtain rfl : l[k].key.length = n1 := s1.1
  obtain rfl : l[0].key.length = n2 := s2.1
  rw [Nat.zero_mul, Nat.add_zero] at r0 r1
  have i0 : (0 : Int) ≤ k := by omega
  have i1 : (k : Int) < l.length := by omega
  have i2 : (0 : Int) < l.length := by omega
  have i3 : 0 < l.length := by omega
  have z : decide (k < l.length) = true := decide_eq_true hlt
  have HX := Lib.hid (specVals A1 l[k].key.length c1 l[k].key wr.drew (Sl.cellz (fun _ => rfl) (Sl.below VlR.stays s1 (Below.refl _ _).drew)) (by have := HK.out _ (List.getElem_mem hlt); unfold maxLen; omega))
  have HNO := Lib.hid (show entW (wideOf l) l[k] = false → entriesB l = false from fun hf => entriesB_no hlt hf)
  have HW := Lib.hid (wideOf_at i3)
  have HST := Lib.hid (all_take_succE (entW (wideOf l)) l k hlt)
  have D0 : wr.drew.cell? ⟨b1, o1 + k * 2, none⟩ = some (.slice A1 l[k].key.length c1) := q0
  have D1 : wr.drew.cell? ⟨b1, o1 + k * 2 + 1, none⟩ = some (.int .i64 l[k].id) := q1
  have D2 : wr.drew.cell? ⟨b1, o1, none⟩ = some (.slice A2 l[0].key.length c2) := r0
  have D := Lib.hid (And.intro D0 (And.intro D1 D2))
  have hbd := hb.drew
  clear e2 s2 r0 r1 q0 q1 D0 D1 D2
  have HS1 := Lib.hid s1
  have HSL := Lib.hid hsl
  clear s1 hsl
  cases hr : rowB l[k].key
  ·have HR := Lib.hid hr
   have HF := Lib.hid (HNO.out (by unfold entW entryB; rw [hr]; simp))
   clear hr
   go_wp2_with fail
   refine wp_region_noPanic ?_
   refine wp_region_held_drew (S := fun w' => w'.cell? ⟨b1, o1 + k * 2, none⟩ = some (.slice A1 l[k].key.length c1) ∧ w'.cell? ⟨b1, o1 + k * 2 + 1, none⟩ = some (.int .i64 l[k].id) ∧ w'.cell? ⟨b1, o1, none⟩ = some (.slice A2 l[0].key.length c2)) (by kernel_rfl) D.out (fun hHeld => ?_)
   refine tk 0 ?_
   refine tk 1 ?_
   refine tk 2 ?_
   refine tk 3 ?_
   refine tk 4 ?_
   refine wpAnyH_ready (rs := [5]) (by kernel_rfl) (by simp) ?_
   refine AllReadyH.cons rfl (fun K hK => ?_) AllReadyH.nil
   go_simp
   refine HX.out.mono ?_
   rintro e w9 ⟨rfl, hb9⟩
   rw [HR.out]
   go_wp2_with fail
   refine hK.out _ _ (keepC3 hHeld hb9) (fun hHeld => ?_)
   clear hK K
   (try simp only [Act.put, pz0, pz1, pz2, pz3, pz4, pz5])
   refine tk 6 ?_
   refine tk 7 ?_
   refine tu 8 ?_
   refine tu 9 ?_
   refine tu 10 ?_
   refine tu 11 ?_
   refine tu 12 ?_
   refine tu 13 ?_
   refine tu 14 ?_
   refine tk 15 ?_
   refine tk 16 ?_
   refine tu 17 ?_
   refine tu 18 ?_
   refine tu 19 ?_
   refine tu 20 ?_
   refine tu 21 ?_
   refine tu 22 ?_
   refine tu 23 ?_
   refine tu 24 ?_
   refine tu 25 ?_
   refine tu 26 ?_
   refine tu 27 ?_
   refine tu 28 ?_
   refine tk 29 ?_
   refine tk 30 ?_
   refine tu 31 ?_
   refine tu 32 ?_
   refine tu 33 ?_
   refine tu 34 ?_
   refine tu 35 ?_
   refine tu 36 ?_
   refine tu 37 ?_
   refine tk 38 ?_
   refine tk 39 ?_
   refine tu 40 ?_
   refine tu 41 ?_
   refine tu 42 ?_
   refine tu 43 ?_
   refine tu 44 ?_
   refine tu 45 ?_
   refine tu 46 ?_
   refine tu 47 ?_
   refine tu 48 ?_
   refine tu 49 ?_
   refine tu 50 ?_
   refine tu 51 ?_
   refine tu 52 ?_
   refine tu 53 ?_
   refine tu 54 ?_
   refine tk 55 ?_
   refine wpAnyH_done (by kernel_rfl) ?_ _
   refine NoPanic.normal ?_
   clear hHeld
   go_wp2_with fail
   go_ret
   exact ⟨retB HF.out.symm, hbd.trans (hb9.mono hbd.size)⟩
  have HR := Lib.hid hr
  by_cases hl0 : l[k].key.length = 0
  ·have z0 : ((l[k].key.length : Int) == 0) = true := by rw [hl0]; rfl
   have HF := Lib.hid (HNO.out (by unfold entW entryB; rw [decide_eq_false (show ¬ 1 ≤ l[k].key.length by omega)]; rfl))
   clear hr hl0
   go_wp2_with fail
   refine wp_region_noPanic ?_
   refine wp_region_held_drew (S := fun w' => w'.cell? ⟨b1, o1 + k * 2, none⟩ = some (.slice A1 l[k].key.length c1) ∧ w'.cell? ⟨b1, o1 + k * 2 + 1, none⟩ = some (.int .i64 l[k].id) ∧ w'.cell? ⟨b1, o1, none⟩ = some (.slice A2 l[0].key.length c2)) (by kernel_rfl) D.out (fun hHeld => ?_)
   refine tk 0 ?_
   refine tk 1 ?_
   refine tk 2 ?_
   refine tk 3 ?_
   refine tk 4 ?_
   refine wpAnyH_ready (rs := [5]) (by kernel_rfl) (by simp) ?_
   refine AllReadyH.cons rfl (fun K hK => ?_) AllReadyH.nil
   go_simp
   refine HX.out.mono ?_
   rintro e w9 ⟨rfl, hb9⟩
   rw [HR.out]
   go_wp2_with fail
   refine hK.out _ _ (keepC3 hHeld hb9) (fun hHeld => ?_)
   clear hK K
   (try simp only [Act.put, pz0, pz1, pz2, pz3, pz4, pz5])
   refine tk 6 ?_
   refine tk 7 ?_
   refine tk 8 ?_
   refine tk 9 ?_
   refine tk 10 ?_
   refine tk 11 ?_
   refine tk 12 ?_
   refine tk 13 ?_
   refine tk 14 ?_
   refine tk 15 ?_
   refine tk 16 ?_
   refine tu 17 ?_
   refine tu 18 ?_
   refine tu 19 ?_
   refine tu 20 ?_
   refine tu 21 ?_
   refine tu 22 ?_
   refine tu 23 ?_
   refine tu 24 ?_
   refine tu 25 ?_
   refine tu 26 ?_
   refine tu 27 ?_
   refine tu 28 ?_
   refine tk 29 ?_
   refine tk 30 ?_
   refine tu 31 ?_
   refine tu 32 ?_
   refine tu 33 ?_
   refine tu 34 ?_
   refine tu 35 ?_
   refine tu 36 ?_
   refine tu 37 ?_
   refine tk 38 ?_
   refine tk 39 ?_
   refine tu 40 ?_
   refine tu 41 ?_
   refine tu 42 ?_
   refine tu 43 ?_
   refine tu 44 ?_
   refine tu 45 ?_
   refine tu 46 ?_
   refine tu 47 ?_
   refine tu 48 ?_
   refine tu 49 ?_
   refine tu 50 ?_
   refine tu 51 ?_
   refine tu 52 ?_
   refine tu 53 ?_
   refine tu 54 ?_
   refine tk 55 ?_
   refine wpAnyH_done (by kernel_rfl) ?_ _
   refine NoPanic.normal ?_
   clear hHeld
   go_wp2_with fail
   go_ret
   exact ⟨retB HF.out.symm, hbd.trans (hb9.mono hbd.size)⟩
  have z0 : ((l[k].key.length : Int) == 0) = false := by rw [beq_eq_false_iff_ne]; omega
  by_cases hl : l[k].key.length = l[0].key.length
  case neg =>
   have zl : ((l[k].key.length : Int) != l[0].key.length) = true := by simp; omega
   have zl' : ((l[k].key.length : Int) == l[0].key.length) = false := by rw [beq_eq_false_iff_ne]; omega
   have HF := Lib.hid (HNO.out (by unfold entW; rw [HW.out, decide_eq_false hl, Bool.and_false]))
   clear hr hl hl0
   go_wp2_with fail
   refine wp_region_noPanic ?_
   refine wp_region_held_drew (S := fun w' => w'.cell? ⟨b1, o1 + k * 2, none⟩ = some (.slice A1 l[k].key.length c1) ∧ w'.cell? ⟨b1, o1 + k * 2 + 1, none⟩ = some (.int .i64 l[k].id) ∧ w'.cell? ⟨b1, o1, none⟩ = some (.slice A2 l[0].key.length c2)) (by kernel_rfl) D.out (fun hHeld => ?_)
   refine tk 0 ?_
   refine tk 1 ?_
   refine tk 2 ?_
   refine tk 3 ?_
   refine tk 4 ?_
   refine wpAnyH_ready (rs := [5]) (by kernel_rfl) (by simp) ?_
   refine AllReadyH.cons rfl (fun K hK => ?_) AllReadyH.nil
   go_simp
   refine HX.out.mono ?_
   rintro e w9 ⟨rfl, hb9⟩
   rw [HR.out]
   go_wp2_with fail
   refine hK.out _ _ (keepC3 hHeld hb9) (fun hHeld => ?_)
   clear hK K
   (try simp only [Act.put, pz0, pz1, pz2, pz3, pz4, pz5])
   refine tk 6 ?_
   refine tk 7 ?_
   refine tk 8 ?_
   refine tk 9 ?_
   refine tk 10 ?_
   refine tk 11 ?_
   refine tk 12 ?_
   refine tk 13 ?_
   refine tk 14 ?_
   refine tk 15 ?_
   refine tk 16 ?_
   refine tk 17 ?_
   refine tk 18 ?_
   refine tk 19 ?_
   refine tk 20 ?_
   refine tk 21 ?_
   refine tk 22 ?_
   refine tk 23 ?_
   refine tk 24 ?_
   refine tk 25 ?_
   refine tk 26 ?_
   refine tk 27 ?_
   refine tk 28 ?_
   refine tk 29 ?_
   refine tk 30 ?_
   refine tu 31 ?_
   refine tu 32 ?_
   refine tu 33 ?_
   refine tu 34 ?_
   refine tu 35 ?_
   refine tu 36 ?_
   refine tu 37 ?_
   refine tk 38 ?_
   refine tk 39 ?_
   refine tu 40 ?_
   refine tu 41 ?_
   refine tu 42 ?_
   refine tu 43 ?_
   refine tu 44 ?_
   refine tu 45 ?_
   refine tu 46 ?_
   refine tu 47 ?_
   refine tu 48 ?_
   refine tu 49 ?_
   refine tu 50 ?_
   refine tu 51 ?_
   refine tu 52 ?_
   refine tu 53 ?_
   refine tu 54 ?_
   refine tk 55 ?_
   refine wpAnyH_done (by kernel_rfl) ?_ _
   refine NoPanic.normal ?_
   clear hHeld
   go_wp2_with fail
   go_ret
   exact ⟨retB HF.out.symm, hbd.trans (hb9.mono hbd.size)⟩
  have zl : ((l[k].key.length : Int) != l[0].key.length) = false := by rw [hl]; simp
  have zl' : ((l[k].key.length : Int) == l[0].key.length) = true := by rw [hl]; simp
  have HEQ := Lib.hid (show entW (wideOf l) l[k] = (decide (1 ≤ l[k].id) && decide (l[k].id ≤ 1000000000)) by unfold entW entryB; rw [hr, decide_eq_true (show 1 ≤ l[k].key.length by omega), HW.out, decide_eq_true hl]; simp)
  have HL := Lib.hid hl
  clear hr hl hl0
  cases hi : (decide (1 ≤ l[k].id) && decide (l[k].id ≤ 1000000000))
  ·have HI := Lib.hid hi
   have HF := Lib.hid (HNO.out (by rw [HEQ.out, hi]))
   clear hi
   go_wp2_with fail
   refine wp_region_noPanic ?_
   refine wp_region_held_drew (S := fun w' => w'.cell? ⟨b1, o1 + k * 2, none⟩ = some (.slice A1 l[k].key.length c1) ∧ w'.cell? ⟨b1, o1 + k * 2 + 1, none⟩ = some (.int .i64 l[k].id) ∧ w'.cell? ⟨b1, o1, none⟩ = some (.slice A2 l[0].key.length c2)) (by kernel_rfl) D.out (fun hHeld => ?_)
   refine tk 0 ?_
   refine tk 1 ?_
   refine tk 2 ?_
   refine tk 3 ?_
   refine tk 4 ?_
   refine wpAnyH_ready (rs := [5]) (by kernel_rfl) (by simp) ?_
   refine AllReadyH.cons rfl (fun K hK => ?_) AllReadyH.nil
   go_simp
   refine HX.out.mono ?_
   rintro e w9 ⟨rfl, hb9⟩
   rw [HR.out]
   go_wp2_with fail
   refine hK.out _ _ (keepC3 hHeld hb9) (fun hHeld => ?_)
   clear hK K
   (try simp only [Act.put, pz0, pz1, pz2, pz3, pz4, pz5])
   refine tk 6 ?_
   refine tk 7 ?_
   refine tk 8 ?_
   refine tk 9 ?_
   refine tk 10 ?_
   refine tk 11 ?_
   refine tk 12 ?_
   refine tk 13 ?_
   refine tk 14 ?_
   refine tk 15 ?_
   refine tk 16 ?_
   refine tk 17 ?_
   refine tk 18 ?_
   refine tk 19 ?_
   refine tk 20 ?_
   refine tk 21 ?_
   refine tk 22 ?_
   refine tk 23 ?_
   refine tk 24 ?_
   refine tk 25 ?_
   refine tk 26 ?_
   refine tk 27 ?_
   refine tk 28 ?_
   refine tk 29 ?_
   refine tk 30 ?_
   refine tk 31 ?_
   refine tk 32 ?_
   refine tk 33 ?_
   refine tk 34 ?_
   refine tk 35 ?_
   refine wpAnyH_ready (rs := [36]) (by kernel_rfl) (by simp) ?_
   refine AllReadyH.cons rfl (fun K hK => ?_) AllReadyH.nil
   go_simp
   refine (specInV HI.out _).mono ?_
   rintro e w8 ⟨rfl, rfl⟩
   go_wp2_with fail
   refine hK.out _ _ hHeld (fun hHeld => ?_)
   clear hK K
   (try simp only [Act.put, pz0, pz1, pz2, pz3, pz4, pz5])
   refine tk 37 ?_
   refine tk 38 ?_
   refine tk 39 ?_
   refine tu 40 ?_
   refine tu 41 ?_
   refine tu 42 ?_
   refine tu 43 ?_
   refine tu 44 ?_
   refine tu 45 ?_
   refine tu 46 ?_
   refine tu 47 ?_
   refine tu 48 ?_
   refine tu 49 ?_
   refine tu 50 ?_
   refine tu 51 ?_
   refine tu 52 ?_
   refine tu 53 ?_
   refine tu 54 ?_
   refine tk 55 ?_
   refine wpAnyH_done (by kernel_rfl) ?_ _
   refine NoPanic.normal ?_
   clear hHeld
   go_wp2_with fail
   go_ret
   exact ⟨retB HF.out.symm, hbd.trans (hb9.mono hbd.size)⟩
  have HI := Lib.hid hi
  have HA := Lib.hid (show (l.take (k + 1)).all (entW (wideOf l)) = true by rw [HST.out, hall.out, HEQ.out, hi]; rfl)
  clear hi
  by_cases hk0 : k = 0
  ·have zk : decide ((0 : Int) < k) = false := decide_eq_false (by omega)
   have zk' : decide (0 < k) = false := decide_eq_false (by omega)
   have HU := Lib.hid (show (List.range (k + 1 - 1)).all (upB l) = true by rw [hk0]; simp)
   clear hk0
   go_wp2_with fail
   refine wp_region_noPanic ?_
   refine wp_region_held_drew (S := fun w' => w'.cell? ⟨b1, o1 + k * 2, none⟩ = some (.slice A1 l[k].key.length c1) ∧ w'.cell? ⟨b1, o1 + k * 2 + 1, none⟩ = some (.int .i64 l[k].id) ∧ w'.cell? ⟨b1, o1, none⟩ = some (.slice A2 l[0].key.length c2)) (by kernel_rfl) D.out (fun hHeld => ?_)
   refine tk 0 ?_
   refine tk 1 ?_
   refine tk 2 ?_
   refine tk 3 ?_
   refine tk 4 ?_
   refine wpAnyH_ready (rs := [5]) (by kernel_rfl) (by simp) ?_
   refine AllReadyH.cons rfl (fun K hK => ?_) AllReadyH.nil
   go_simp
   refine HX.out.mono ?_
   rintro e w9 ⟨rfl, hb9⟩
   rw [HR.out]
   go_wp2_with fail
   refine hK.out _ _ (keepC3 hHeld hb9) (fun hHeld => ?_)
   clear hK K
   (try simp only [Act.put, pz0, pz1, pz2, pz3, pz4, pz5])
   refine tk 6 ?_
   refine tk 7 ?_
   refine tk 8 ?_
   refine tk 9 ?_
   refine tk 10 ?_
   refine tk 11 ?_
   refine tk 12 ?_
   refine tk 13 ?_
   refine tk 14 ?_
   refine tk 15 ?_
   refine tk 16 ?_
   refine tk 17 ?_
   refine tk 18 ?_
   refine tk 19 ?_
   refine tk 20 ?_
   refine tk 21 ?_
   refine tk 22 ?_
   refine tk 23 ?_
   refine tk 24 ?_
   refine tk 25 ?_
   refine tk 26 ?_
   refine tk 27 ?_
   refine tk 28 ?_
   refine tk 29 ?_
   refine tk 30 ?_
   refine tk 31 ?_
   refine tk 32 ?_
   refine tk 33 ?_
   refine tk 34 ?_
   refine tk 35 ?_
   refine wpAnyH_ready (rs := [36]) (by kernel_rfl) (by simp) ?_
   refine AllReadyH.cons rfl (fun K hK => ?_) AllReadyH.nil
   go_simp
   refine (specInV HI.out _).mono ?_
   rintro e w8 ⟨rfl, rfl⟩
   go_wp2_with fail
   refine hK.out _ _ hHeld (fun hHeld => ?_)
   clear hK K
   (try simp only [Act.put, pz0, pz1, pz2, pz3, pz4, pz5])
   refine tk 37 ?_
   refine tk 38 ?_
   refine tk 39 ?_
   refine tk 40 ?_
   refine tk 41 ?_
   refine tk 42 ?_
   refine tu 43 ?_
   refine tu 44 ?_
   refine tu 45 ?_
   refine tu 46 ?_
   refine tu 47 ?_
   refine tu 48 ?_
   refine tu 49 ?_
   refine tu 50 ?_
   refine tu 51 ?_
   refine tu 52 ?_
   refine tu 53 ?_
   refine tk 54 ?_
   refine tk 55 ?_
   refine wpAnyH_done (by kernel_rfl) ?_ _
   refine NoPanic.normal ?_
   clear hHeld
   go_wp2_with fail
   go_roundw
   case rel => exact ⟨k + 1, by omega, by go_num, HA, HU, hbd.trans (hb9.mono hbd.size)⟩
   case measure => simp [intOf]; omega
  obtain ⟨b3, o3, A3, n3, c3, -, e3, p0, p1, s3, -⟩ := EnR.at_ HSL.out (i := k - 1) (by omega)
  obtain ⟨rfl, rfl⟩ : b1 = b3 ∧ o1 = o3 := by simpa using e3
  obtain rfl : l[k - 1].key.length = n3 := s3.1
  have zk : decide ((0 : Int) < k) = true := decide_eq_true (by omega)
  have zk' : decide (0 < k) = true := decide_eq_true (by omega)
  have t0 : IntKind.i64.wrap ((k : Int) - 1) = (k : Int) - 1 := IntWalk.i64_in _ (by omega)
  have t1 : (0 : Int) ≤ (k : Int) - 1 := by omega
  have t1' : (1 : Int) ≤ k := by omega
  have t2 : (k : Int) - 1 < l.length := by omega
  have t3 : ((k : Int) - 1).toNat = k - 1 := by omega
  have E0 : wr.drew.cell? ⟨b1, o1 + (k - 1) * 2, none⟩ = some (.slice A3 l[k - 1].key.length c3) := p0
  have E1 : wr.drew.cell? ⟨b1, o1 + (k - 1) * 2 + 1, none⟩ = some (.int .i64 l[k - 1].id) := p1
  have DE := Lib.hid (show _ ∧ _ ∧ _ ∧ _ ∧ _ from ⟨D.out.1, D.out.2.1, D.out.2.2, E0, E1⟩)
  have HPREV := Lib.hid (show entryB l[k - 1] = true ∧ l[k - 1].key.length = wideOf l by
   have h1 := List.all_eq_true.1 hall.out l[k - 1] (by rw [List.mem_take_iff_getElem]; exact ⟨k - 1, by omega, rfl⟩)
   unfold entW at h1
   simpa using h1)
  have HCUR := Lib.hid (show entryB l[k] = true ∧ l[k].key.length = wideOf l by
   have h1 := List.all_eq_true.1 HA.out l[k] (by rw [List.mem_take_iff_getElem]; exact ⟨k, by omega, rfl⟩)
   unfold entW at h1
   simpa using h1)
  have HLE := Lib.hid (lessE_right HPREV.out.1 HCUR.out.1 (HPREV.out.2.trans HCUR.out.2.symm))
  have HSP := Lib.hid (Sl.below VlR.stays s3 (Below.refl _ _).drew)
  have HSC := Lib.hid (Sl.below VlR.stays HS1.out (Below.refl _ _).drew)
  have HN1 := Lib.hid (HK.out _ (List.getElem_mem (show k - 1 < l.length by omega)))
  have HN2 := Lib.hid (HK.out _ (List.getElem_mem hlt))
  have hun : ¬ ordE l[k - 1] l[k] < 0 → risesB l = false := by
   intro hn
   have e : k - 1 + 1 = k := by omega
   refine rises_no (i := k - 1) (by omega) ?_
   simpa only [e] using hn
  have HUN := Lib.hid hun
  clear hun
  have huy : ordE l[k - 1] l[k] < 0 → (List.range (k + 1 - 1)).all (upB l) = true := by
   intro hy
   have e : k + 1 - 1 = (k - 1) + 1 := by omega
   rw [e, range_all_succ, hup.out, upB_at (by omega)]
   have e2 : k - 1 + 1 = k := by omega
   simpa only [e2, Bool.true_and, decide_eq_true_eq] using hy
  have HUY := Lib.hid huy
  clear huy
  clear e3 p0 p1 s3 E0 E1 hk0
  cases hc : lessE l[k - 1] l[k]
  ·have HC := Lib.hid hc
   have HF := Lib.hid (show entriesB l = false by unfold entriesB; rw [HUN.out (by rw [HLE.out] at hc; simpa using hc)]; simp)
   clear hc
   go_wp2_with fail
   refine wp_region_noPanic ?_
   refine wp_region_held_drew (S := fun w' => w'.cell? ⟨b1, o1 + k * 2, none⟩ = some (.slice A1 l[k].key.length c1) ∧ w'.cell? ⟨b1, o1 + k * 2 + 1, none⟩ = some (.int .i64 l[k].id) ∧ w'.cell? ⟨b1, o1, none⟩ = some (.slice A2 l[0].key.length c2) ∧ w'.cell? ⟨b1, o1 + (k - 1) * 2, none⟩ = some (.slice A3 l[k - 1].key.length c3) ∧ w'.cell? ⟨b1, o1 + (k - 1) * 2 + 1, none⟩ = some (.int .i64 l[k - 1].id)) (by kernel_rfl) DE.out (fun hHeld => ?_)
   refine tk 0 ?_
   refine tk 1 ?_
   refine tk 2 ?_
   refine tk 3 ?_
   refine tk 4 ?_
   refine wpAnyH_ready (rs := [5]) (by kernel_rfl) (by simp) ?_
   refine AllReadyH.cons rfl (fun K hK => ?_) AllReadyH.nil
   go_simp
   refine HX.out.mono ?_
   rintro e w9 ⟨rfl, hb9⟩
   rw [HR.out]
   go_wp2_with fail
   refine hK.out _ _ (keepC5 hHeld hb9) (fun hHeld => ?_)
   clear hK K
   (try simp only [Act.put, pz0, pz1, pz2, pz3, pz4, pz5])
   refine tk 6 ?_
   refine tk 7 ?_
   refine tk 8 ?_
   refine tk 9 ?_
   refine tk 10 ?_
   refine tk 11 ?_
   refine tk 12 ?_
   refine tk 13 ?_
   refine tk 14 ?_
   refine tk 15 ?_
   refine tk 16 ?_
   refine tk 17 ?_
   refine tk 18 ?_
   refine tk 19 ?_
   refine tk 20 ?_
   refine tk 21 ?_
   refine tk 22 ?_
   refine tk 23 ?_
   refine tk 24 ?_
   refine tk 25 ?_
   refine tk 26 ?_
   refine tk 27 ?_
   refine tk 28 ?_
   refine tk 29 ?_
   refine tk 30 ?_
   refine tk 31 ?_
   refine tk 32 ?_
   refine tk 33 ?_
   refine tk 34 ?_
   refine tk 35 ?_
   refine wpAnyH_ready (rs := [36]) (by kernel_rfl) (by simp) ?_
   refine AllReadyH.cons rfl (fun K hK => ?_) AllReadyH.nil
   go_simp
   refine (specInV HI.out _).mono ?_
   rintro e w8 ⟨rfl, rfl⟩
   go_wp2_with fail
   refine hK.out _ _ hHeld (fun hHeld => ?_)
   clear hK K
   (try simp only [Act.put, pz0, pz1, pz2, pz3, pz4, pz5])
   refine tk 37 ?_
   refine tk 38 ?_
   refine tk 39 ?_
   refine tk 40 ?_
   refine tk 41 ?_
   refine tk 42 ?_
   refine tk 43 ?_
   refine tk 44 ?_
   refine tk 45 ?_
   refine tk 46 ?_
   refine tk 47 ?_
   refine tk 48 ?_
   refine tk 49 ?_
   refine tk 50 ?_
   refine tk 51 ?_
   refine wpAnyH_ready (rs := [52]) (by kernel_rfl) (by simp) ?_
   refine AllReadyH.cons rfl (fun K hK => ?_) AllReadyH.nil
   go_simp
   refine (specL11Less l[k - 1] l[k] A3 A1 l[k - 1].key.length c3 l[k].key.length c1 _ _ _ (HSP.out.below VlR.stays hb9) (HSC.out.below VlR.stays hb9) HN1.out HN2.out).mono ?_
   rintro e w7 ⟨rfl, hb7⟩
   rw [HC.out]
   go_wp2_with fail
   refine hK.out _ _ (keepC5 hHeld hb7) (fun hHeld => ?_)
   clear hK K
   (try simp only [Act.put, pz0, pz1, pz2, pz3, pz4, pz5])
   refine tk 53 ?_
   refine tk 54 ?_
   refine tk 55 ?_
   refine wpAnyH_done (by kernel_rfl) ?_ _
   refine NoPanic.normal ?_
   clear hHeld
   go_wp2_with fail
   go_ret
   exact ⟨retB HF.out.symm, (hbd.trans (hb9.mono hbd.size)).trans (hb7.mono (hbd.trans (hb9.mono hbd.size)).size)⟩
  ·have HC := Lib.hid hc
   have HU := Lib.hid (HUY.out (by rw [HLE.out] at hc; simpa using hc))
   clear hc
   go_wp2_with fail
   refine wp_region_noPanic ?_
   refine wp_region_held_drew (S := fun w' => w'.cell? ⟨b1, o1 + k * 2, none⟩ = some (.slice A1 l[k].key.length c1) ∧ w'.cell? ⟨b1, o1 + k * 2 + 1, none⟩ = some (.int .i64 l[k].id) ∧ w'.cell? ⟨b1, o1, none⟩ = some (.slice A2 l[0].key.length c2) ∧ w'.cell? ⟨b1, o1 + (k - 1) * 2, none⟩ = some (.slice A3 l[k - 1].key.length c3) ∧ w'.cell? ⟨b1, o1 + (k - 1) * 2 + 1, none⟩ = some (.int .i64 l[k - 1].id)) (by kernel_rfl) DE.out (fun hHeld => ?_)
   refine tk 0 ?_
   refine tk 1 ?_
   refine tk 2 ?_
   refine tk 3 ?_
   refine tk 4 ?_
   refine wpAnyH_ready (rs := [5]) (by kernel_rfl) (by simp) ?_
   refine AllReadyH.cons rfl (fun K hK => ?_) AllReadyH.nil
   go_simp
   refine HX.out.mono ?_
   rintro e w9 ⟨rfl, hb9⟩
   rw [HR.out]
   go_wp2_with fail
   refine hK.out _ _ (keepC5 hHeld hb9) (fun hHeld => ?_)
   clear hK K
   (try simp only [Act.put, pz0, pz1, pz2, pz3, pz4, pz5])
   refine tk 6 ?_
   refine tk 7 ?_
   refine tk 8 ?_
   refine tk 9 ?_
   refine tk 10 ?_
   refine tk 11 ?_
   refine tk 12 ?_
   refine tk 13 ?_
   refine tk 14 ?_
   refine tk 15 ?_
   refine tk 16 ?_
   refine tk 17 ?_
   refine tk 18 ?_
   refine tk 19 ?_
   refine tk 20 ?_
   refine tk 21 ?_
   refine tk 22 ?_
   refine tk 23 ?_
   refine tk 24 ?_
   refine tk 25 ?_
   refine tk 26 ?_
   refine tk 27 ?_
   refine tk 28 ?_
   refine tk 29 ?_
   refine tk 30 ?_
   refine tk 31 ?_
   refine tk 32 ?_
   refine tk 33 ?_
   refine tk 34 ?_
   refine tk 35 ?_
   refine wpAnyH_ready (rs := [36]) (by kernel_rfl) (by simp) ?_
   refine AllReadyH.cons rfl (fun K hK => ?_) AllReadyH.nil
   go_simp
   refine (specInV HI.out _).mono ?_
   rintro e w8 ⟨rfl, rfl⟩
   go_wp2_with fail
   refine hK.out _ _ hHeld (fun hHeld => ?_)
   clear hK K
   (try simp only [Act.put, pz0, pz1, pz2, pz3, pz4, pz5])
   refine tk 37 ?_
   refine tk 38 ?_
   refine tk 39 ?_
   refine tk 40 ?_
   refine tk 41 ?_
   refine tk 42 ?_
   refine tk 43 ?_
   refine tk 44 ?_
   refine tk 45 ?_
   refine tk 46 ?_
   refine tk 47 ?_
   refine tk 48 ?_
   refine tk 49 ?_
   refine tk 50 ?_
   refine tk 51 ?_
   refine wpAnyH_ready (rs := [52]) (by kernel_rfl) (by simp) ?_
   refine AllReadyH.cons rfl (fun K hK => ?_) AllReadyH.nil
   go_simp
   refine (specL11Less l[k - 1] l[k] A3 A1 l[k - 1].key.length c3 l[k].key.length c1 _ _ _ (HSP.out.below VlR.stays hb9) (HSC.out.below VlR.stays hb9) HN1.out HN2.out).mono ?_
   rintro e w7 ⟨rfl, hb7⟩
   rw [HC.out]
   go_wp2_with fail
   refine hK.out _ _ (keepC5 hHeld hb7) (fun hHeld => ?_)
   clear hK K
   (try simp only [Act.put, pz0, pz1, pz2, pz3, pz4, pz5])
   refine tk 53 ?_
   refine tk 54 ?_
   refine tk 55 ?_
   refine wpAnyH_done (by kernel_rfl) ?_ _
   refine NoPanic.normal ?_
   clear hHeld
   go_wp2_with fail
   go_roundw
   case rel => exact ⟨k + 1, by omega, by go_num, HA, HU, (hbd.trans (hb9.mono hbd.size)).trans (hb7.mono (hbd.trans (hb9.mono hbd.size)).size)⟩
   case measure => simp [intOf]; omega
end Go.Proofs.YtciaidjmehelpaaGreat
namespace Go.Proofs.YtciaidjmehelpaaGreat
open Go.RowKit
theorem infoEntC : (Tryz.prog.info? 44).map (fun i => (i.zero, i.size, i.bytes)) = some (some (.agg #[.slice none 0 0, .int .i64 0]), 2, 32) := by kernel_rfl
theorem OwnE0.drew {w : World} {base : Nat} {v : Value} {es : List En} {vs : List Value} (h : OwnE0 w base v es vs) : OwnE0 w.drew base v es vs := ⟨h.len, h.row, h.key, h.apart⟩
theorem OwnE0.below {w w' : World} {base : Nat} {v : Value} {es : List En} {vs : List Value} (h : OwnE0 w base v es vs) (hb : Below w.heap.size w w') : OwnE0 w' base v es vs :=
 ⟨h.len, ownsRow_below h.row hb, fun i hi hi' => OwnG.below (h.key i hi hi') hb, h.apart⟩
theorem OwnE0.fresh {w w1 : World} {base base1 : Nat} {v k : Value} {es : List En} {vs : List Value} {xs : List Vl} (h : OwnE0 w base v es vs) (hk : OwnK w1 base1 k xs) (hb : w.heap.size ≤ base1) : ∀ b ∈ blk k, b ∉ vs.flatMap blk := fun b hb' hh => by
 obtain ⟨u, hu, hbu⟩ := List.mem_flatMap.1 hh
 obtain ⟨i, hi, rfl⟩ := List.mem_iff_getElem.1 hu
 have h1 := (OwnG.block_lt hk b (by simpa [blk] using hb')).1
 have h2 := (OwnG.block_lt (h.key i (by rw [← h.len]; exact hi) hi) b (by simpa [blk] using hbu)).2
 omega
set_option maxRecDepth 100000 in
set_option maxHeartbeats 2000000 in
theorem specL11Copy (A : Option Addr) (n c : Nat) (es : List En) (ok : Nat → Prop) (w : World) (h : Sl EnR 2 ok w A n es) (hk : ∀ e ∈ es, e.key.length ≤ 1073741824) (hl : n ≤ 1073741824) :
  Calls Tryz.prog 65 #[.slice A n c] w fun e w' => ∃ v', e = .returned v' ∧ OwnE w' w.heap.size v' es ∧ Below w.heap.size w w' := by
 obtain ⟨i0, hi, hz0, hz1, hz2⟩ := info_parts infoEntC
 have H1 := Lib.hid hi
 have H2 := Lib.hid hz0
 have H3 := Lib.hid hz1
 have H4 := Lib.hid hz2
 clear hi hz0 hz1 hz2
 obtain rfl : es.length = n := h.1
 have HK := Lib.hid hk
 clear hk
 have hb0 := (Below.refl w.heap.size w).alloc (Nat.le_refl _) (.cells #[] 44)
 have ho0 := Lib.hid (OwnE.lit w (Nat.le_refl w.heap.size))
 go_enter Tryz.func65, Tryz.ntmps65
 go_wp2_with fail
 generalize w.alloc (.cells #[] 44) = z0 at *
 go_loopw [3, 4] (fun v i wr => ∃ (k : Nat), k ≤ es.length ∧ i = .int .i64 k ∧ Hid (OwnE wr w.heap.size v (es.take k)) ∧ Below w.heap.size w wr) (fun _ i _ => es.length - (intOf i).toNat)
 case atStart => exact ⟨0, by omega, rfl, ho0, hb0⟩
 case round =>
  clear hb0 ho0
  obtain ⟨k, hk, rfl, hown, hb⟩ := hrel
  by_cases hlt : k < es.length
  ·obtain ⟨b, off, A1, n1, c1, -, rfl, q0', q1', hky', -⟩ := EnR.at_ h hlt
   have q0 := below_keep hb _ _ q0'
   have q1 := below_keep hb _ _ q1'
   have hky := hky'.below VlR.stays hb
   clear hky'
   have i0' : (0 : Int) ≤ k := by omega
   have i1 : (k : Int) < es.length := by omega
   have HKL := Lib.hid (HK.out es[k] (List.getElem_mem hlt))
   have HT := Lib.hid (show es.take (k + 1) = es.take k ++ [es[k]] from List.take_succ_eq_append_getElem hlt)
   have HLK := Lib.hid (show (es.take k).length = k by rw [List.length_take]; omega)
   generalize hxs : es.take k = xs at *
   generalize hek : es[k] = e at *
   have Q0 := Lib.hid q0'
   have Q1 := Lib.hid q1'
   clear q0' q1'
   obtain ⟨vs, hO⟩ := hown.out
   have HO := Lib.hid hO.drew
   have hkd : Sl VlR 3 ok wr.drew A1 n1 e.key := hky.stays VlR.stays (fun _ h => h) (fun p v _ h => h)
   clear hO hown hxs hek
   go_wp2_with fail
   go_region_held3 (fun w' => w'.cell? ⟨b, off + k * 2, none⟩ = some (.slice A1 n1 c1) ∧ w'.cell? ⟨b, off + k * 2 + 1, none⟩ = some (.int .i64 e.id))
    (first | go_keep | exact ⟨below_keep hB9 _ _ Q0.out, below_keep hB9 _ _ Q1.out⟩ | exact ⟨below_keep hb1 _ _ (by assumption), below_keep hb1 _ _ (by assumption)⟩)
    (first
     | (go_at_call 66; refine (specCopyVals A1 n1 c1 e.key _ _ hkd (by have := hky.1; have := HKL.out; omega)).mono ?_; rintro e1 w1 ⟨v1, rfl, hk1, hb1⟩; obtain ⟨A2, c2, rfl⟩ := hk1.shape; have HO1 := HO.out.below hb1)
     | (refine wp_append_own _ _ _ 37 rfl w.heap.size 44 i0 (.agg #[.slice none 0 0, .int .i64 0]) 2 32 Tryz.underlying37 H1.out H2.out H3.out H4.out rfl (by decide) _ _ _ rfl (World.ownsRow.alloc HO1.row _) ⟨_, 0, none⟩ 1 1 [.slice A2 e.key.length c2, .int .i64 e.id] rfl rfl (cells_newAt _ [.slice A2 e.key.length c2, .int .i64 e.id] _ (by simp)) (by intro u hu; simp at hu; rcases hu with rfl | rfl; exact hk1.one; rfl) (by have := HLK.out; unfold maxLen; omega) (by have := HLK.out; omega) (by have h1 := hb.size; have h2 := hb1.size; simp at h1 h2 ⊢; omega) ?_; intro v9 w9 hown9 hgrow9 _; have hB9 : Below w.heap.size w w9 := ((hb.drew.trans (hb1.mono hb.size)).alloc (by have h1 := hb.size; have h2 := hb1.size; simp at h1 h2 ⊢; omega) _).grown hgrow9 (by have h1 := hb.size; have h2 := hb1.size; simp at h1 h2 ⊢; omega) (fun k hk => (World.ownsRow.lt HO1.row k hk).1); have HO9 := OwnE0.app (x := e) HO1 (by have h1 := hb.size; have h2 := hb1.size; simp at h1 h2 ⊢; omega) (hk1.mono (by have h1 := hb.size; simp at h1 ⊢; omega)) (HO.out.fresh hk1 (Nat.le_refl _)) hown9 hgrow9))
   have HE9 := Lib.hid (show OwnE w9 w.heap.size v9 (es.take (k + 1)) by rw [HT.out]; exact ⟨_, HO9⟩)
   clear hown9 hgrow9 HO9 HO1
   go_wp2_with fail
   go_roundw
   case rel => exact ⟨k + 1, by omega, by go_num, HE9, hB9⟩
   case measure => simp [intOf]; omega
  ·have z : decide ((k : Int) < es.length) = false := decide_eq_false (by omega)
   obtain rfl : k = es.length := by omega
   go_wp2_with fail
   go_ret
   exact ⟨_, rfl, by simpa using hown.out, hb⟩
theorem entC_at (vs : List Value) (es : List En) (hl : vs.length = es.length) (i : Nat) (hi : i < es.length) (hi' : i < vs.length) (t : Nat) (ht : t < 2) : (entC vs es)[i * 2 + t]? = [vs[i], .int .i64 es[i].id][t]? := by
 unfold entC
 rw [flat_get (sz := 2) _ i t (by rw [List.length_zipWith]; omega) ht (fun c hc => by
  obtain ⟨j, hj, rfl⟩ := List.mem_iff_getElem.1 hc
  rw [List.getElem_zipWith]; rfl), List.getElem_zipWith]
theorem OwnE0.cells {w : World} {base : Nat} {v : Value} {es : List En} {vs : List Value} (h : OwnE0 w base v es vs) :
  (v = .slice none 0 0 ∧ es = []) ∨ ∃ g c, v = .slice (some ⟨g, 0, none⟩) es.length c ∧ es.length ≤ c ∧ c ≤ maxLen ∧ base ≤ g ∧ g < w.heap.size ∧ (∀ off, w.frozen? ⟨g, off, none⟩ = false) ∧ ∀ i (hi : i < es.length) (hi' : i < vs.length), cellsAt w g (0 + i * 2) [vs[i], .int .i64 es[i].id] := by
 rcases h.row.2 with ⟨rfl, hn⟩ | ⟨g, cap, cur, rfl, h1, h2, h3, h4, h5, h6⟩
 ·exact Or.inl ⟨rfl, List.length_eq_zero_iff.1 hn⟩
 ·refine Or.inr ⟨g, cap, rfl, h3, h4, h1, lt_of_block h2, fun off => by simp [World.frozen?, h2], fun i hi hi' t u hu => ?_⟩
  have ht : t < 2 := by have := (List.getElem?_eq_some_iff.1 hu).1; simpa using this
  have h7 := entC_at vs es h.len i hi hi' t ht
  rw [hu, ← h6, List.getElem?_take, if_pos (by omega)] at h7
  rw [cell_of_row _ _ _ _ _ _ h2, Nat.zero_add, ← Array.getElem?_toList]
  exact h7
theorem OwnE.sl {w : World} {base : Nat} {v : Value} {es : List En} (h : OwnE w base v es) : ∃ A c, v = .slice A es.length c ∧ es.length ≤ c ∧ c ≤ maxLen ∧ Sl EnR 2 (okF base w) w A es.length es := by
 obtain ⟨vs, h⟩ := h
 rcases h.cells with ⟨rfl, rfl⟩ | ⟨g, c, rfl, h1, h2, h3, h4, h5, h6⟩
 ·exact ⟨none, 0, rfl, Nat.le_refl _, by simp [maxLen], rfl, fun hn => by simp at hn⟩
 ·refine ⟨_, c, rfl, h1, h2, rfl, fun hn => ⟨g, 0, rfl, ⟨h3, h4, h5⟩, fun i hi => ?_⟩⟩
  have hi' : i < vs.length := by rw [h.len]; exact hi
  obtain ⟨A', c', e, k1, k2, k3⟩ := OwnG.sl (f := Vl.cells) (sz := 3) (fun _ => rfl) (h.key i hi hi')
  have h7 := h6 i hi hi'
  rw [e] at h7
  exact ⟨_, rfl, ⟨A', _, c', rfl, k3, k1⟩, h7⟩
set_option maxRecDepth 100000 in
set_option maxHeartbeats 1000000 in
theorem implCloneVals (A : Option Addr) (n c : Nat) (xs : List Vl) (ok : Nat → Prop) (w : World) (h : Sl VlR 3 ok w A n xs) (hl : n ≤ 1073741824) :
  Calls Tryz.prog 107 #[.slice A n c] w fun e w' => ∃ v', e = .returned v' ∧ OwnK w' w.heap.size v' xs ∧ Below w.heap.size w w' := by
 obtain ⟨i0, hi, hz0, hz1, hz2⟩ := info_parts infoValC
 have H1 := Lib.hid hi
 have H2 := Lib.hid hz0
 have H3 := Lib.hid hz1
 have H4 := Lib.hid hz2
 clear hi hz0 hz1 hz2
 have HO0 := Lib.hid (OwnG.lit (T := 34) (sz := 3) (f := Vl.cells) w (Nat.le_refl w.heap.size))
 have hb0 := (Below.refl w.heap.size w).alloc (Nat.le_refl _) (.cells #[] 34)
 have h0 := h.below VlR.stays hb0
 have q22 : ∀ (w : World) (a : Option Addr) (n c n' c' : Nat), (binOp .eql 42 (.slice a n c) (.slice none n' c')).run Tryz.prog w = .ok (.bool a.isNone) w := fun w a n c n' c' => Lib.run_eql_slice_nil w _ _ a n c n' c' Tryz.underlying42
 obtain rfl : xs.length = n := h.1
 cases A with
 | none =>
  have hn : xs.length = 0 := by
   rcases Nat.eq_zero_or_pos xs.length with h | h
   ·exact h
   ·obtain ⟨b, off, e, -⟩ := h0.2 h
    cases e
  obtain rfl : xs = [] := List.length_eq_zero_iff.1 hn
  simp only [List.length_nil] at *
  go_enter Tryz.func107, Tryz.ntmps107
  go_wp2_with fail
  go_ret
  exact ⟨_, rfl, OwnG.nil _ _, Below.refl _ _⟩
 | some ad =>
  have HX := Lib.hid (Sl.flat_cells (f := Vl.cells) (sz := 3) (by decide) (fun _ => rfl) h0)
  clear h0
  go_enter Tryz.func107, Tryz.ntmps107
  go_wp2_with (at_builtin; refine wpList_append_own _ rfl _ _ 42 rfl w.heap.size 34 i0 (.agg #[.int .i64 0, .int .i64 0, .string ⟨#[]⟩]) 3 32 Tryz.underlying42 H1.out H2.out H3.out H4.out rfl (by decide) _ _ _ rfl HO0.out ad xs.length c ((xs.map Vl.cells).flatten) rfl ?c0 ?c1 ?c2 ?c3 ?c4 ?c5 ?_)
  case c0 => exact vl_flat xs
  case c1 => exact HX.out
  case c2 => exact vl_one xs
  case c3 => unfold maxLen; simp; omega
  case c4 => simp; omega
  case c5 => simp
  intro v9 w9 hown9 hgrow9 _
  go_wp2_with fail
  go_ret
  refine ⟨_, rfl, ?_, ?_⟩
  ·unfold OwnK OwnG; simpa using hown9
  ·exact ((Below.refl w.heap.size w).alloc (Nat.le_refl _) _).grown hgrow9 (by simp) (by intro k hk; simp [Value.ownBlock] at hk; omega)
set_option maxRecDepth 100000 in
set_option maxHeartbeats 2000000 in
theorem implCopyEntry (x : En) (A : Option Addr) (n c : Nat) (ok : Nat → Prop) (w : World) (h : Sl VlR 3 ok w A n x.key) (hl : n ≤ 1073741824) :
  Calls Tryz.prog 63 #[.agg #[.slice A n c, .int .i64 x.id]] w fun e w' => ∃ v, e = .returned (.agg #[v, .int .i64 x.id]) ∧ OwnK w' w.heap.size v x.key ∧ Below w.heap.size w w' := by
 have hb0 := chain2 w (.cells #[.slice A n c, .int .i64 x.id] 44) (.cells #[.slice none 0 0, .int .i64 0] 44)
 obtain ⟨r1, r2⟩ := two_rows w 44 #[.slice A n c, .int .i64 x.id] #[.slice none 0 0, .int .i64 0]
 obtain ⟨⟨k0, k1⟩, -⟩ := r1.all2
 obtain ⟨⟨g0, g1⟩, fr0⟩ := r2.all2
 obtain ⟨i0, hi, hz0, hz1, hz2⟩ := info_parts infoEntC
 have HG := Lib.hid (show (Tryz.prog.info? 44).map (·.size) = some 2 by rw [hi]; simp [hz1])
 clear hi hz0 hz1 hz2
 have HZ := Lib.hid (show w.heap.size + 2 ≤ ((w.alloc (.cells #[.slice A n c, .int .i64 x.id] 44)).alloc (.cells #[.slice none 0 0, .int .i64 0] 44)).heap.size by simp)
 have hd : Sl VlR 3 ok ((w.alloc (.cells #[.slice A n c, .int .i64 x.id] 44)).alloc (.cells #[.slice none 0 0, .int .i64 0] 44)).drew A n x.key := (h.below VlR.stays hb0).stays VlR.stays (fun _ h => h) (fun p v _ h => h)
 go_enter Tryz.func63, Tryz.ntmps63
 go_wp2_with fail
 generalize hzz : (w.alloc (.cells #[.slice A n c, .int .i64 x.id] 44)).alloc (.cells #[.slice none 0 0, .int .i64 0] 44) = z0 at *
 have R2 := Lib.hid r2
 clear g0 g1 fr0 r1 r2
 go_region_held3 (fun w' => w'.cell? ⟨w.heap.size, 0, none⟩ = some (.slice A n c) ∧ w'.cell? ⟨w.heap.size, 1, none⟩ = some (.int .i64 x.id))
  (first | go_keep | exact ⟨below_keep hb1 _ _ (by assumption), below_keep hb1 _ _ (by assumption)⟩)
  (first | (go_at_call 107; refine (implCloneVals A n c x.key ok _ hd hl).mono ?_; rintro e1 w1 ⟨v1, rfl, hk1, hb1⟩; obtain ⟨A2, c2, rfl⟩ := hk1.shape; have rr := Row.below (w := z0.drew) R2.out hb1; obtain ⟨⟨y0, y1⟩, ⟨f0, f1⟩⟩ := rr.all2; have RR := Lib.hid rr; clear rr))
 go_wp2_with fail
 have hr2 := (RR.out.set 0 (.slice A2 x.key.length c2)).set 1 (.int .i64 x.id)
 have hz : w.heap.size + 2 ≤ z0.heap.size := HZ.out
 refine bodyPost_ret (results_cell_row (p := 2) (ty := 44) rfl _ _ (w.heap.size + 1) 44 #[.slice A2 x.key.length c2, .int .i64 x.id] (0, 0) _ rfl hr2 Tryz.underlying44 rfl HG.out) rfl ⟨_, rfl, ?_, ?_⟩
 ·exact OwnK.mono (ownsRow_setCell_below (ownsRow_setCell_below hk1 (by show w.heap.size + 1 < z0.heap.size; omega) _) (by show w.heap.size + 1 < z0.heap.size; omega) _) (by show w.heap.size ≤ z0.heap.size; omega)
 ·exact ((hb0.drew.trans (hb1.mono hb0.size)).setCell (by simp) _).setCell (by simp) _
def sameE (x y : En) : Bool := decide (x.id = y.id) && eqlL x.key y.key
def dropE (l : List En) (e : En) : List En := l.filter fun x => !sameE x e
def dropped (l : List En) (e : En) : List En := if entriesB l = true ∧ (dropE l e).length ≠ l.length then dropE l e else []
def droppedB (l : List En) (e : En) : Bool := entriesB l && !decide ((dropE l e).length = l.length)
set_option maxRecDepth 100000 in
set_option maxHeartbeats 1000000 in
theorem specL11Same (x y : En) (A B : Option Addr) (n c m d : Nat) (ok ok' : Nat → Prop) (w : World) (ha : Sl VlR 3 ok w A n x.key) (hb : Sl VlR 3 ok' w B m y.key) (hn : n ≤ 1048576) (hm : m ≤ 1048576) :
  Calls Tryz.prog 69 #[.agg #[.slice A n c, .int .i64 x.id], .agg #[.slice B m d, .int .i64 y.id]] w fun e w' => e = .returned (.bool (sameE x y)) ∧ Below w.heap.size w w' := by
 obtain rfl : x.key.length = n := ha.1
 obtain rfl : y.key.length = m := hb.1
 have hb0 := chain2 w (.cells #[.slice A x.key.length c, .int .i64 x.id] 44) (.cells #[.slice B y.key.length d, .int .i64 y.id] 44)
 obtain ⟨r1, r2⟩ := two_rows w 44 #[.slice A x.key.length c, .int .i64 x.id] #[.slice B y.key.length d, .int .i64 y.id]
 obtain ⟨⟨k0, k1⟩, -⟩ := r1.all2
 obtain ⟨⟨g0, g1⟩, -⟩ := r2.all2
 have ha' := ha.below VlR.stays hb0
 have hb' := hb.below VlR.stays hb0
 by_cases hid : x.id = y.id
 ·have z : (x.id == y.id) = true := by simpa using hid
  have z' : decide (x.id = y.id) = true := by simpa using hid
  have HF := Lib.hid (show sameE x y = eqlL x.key y.key by unfold sameE; rw [z']; rfl)
  clear hid
  go_enter Tryz.func69, Tryz.ntmps69
  go_wp2_with fail
  refine (specSameVals A B _ c _ d x.key y.key _ _ _ ha' hb' hn hm).mono ?_
  rintro e w1 ⟨rfl, hb1⟩
  go_wp2_with fail
  go_ret
  exact ⟨retB HF.out.symm, hb0.trans (hb1.mono hb0.size)⟩
 ·have z : (x.id == y.id) = false := by simpa using hid
  have z' : decide (x.id = y.id) = false := by simpa using hid
  have HF := Lib.hid (show sameE x y = false by unfold sameE; rw [z']; rfl)
  clear hid
  go_enter Tryz.func69, Tryz.ntmps69
  go_wp2_with fail
  go_ret
  exact ⟨retB HF.out.symm, hb0⟩
def ShareE (ok : Nat → Prop) (w0 w : World) (base : Nat) (v : Value) (xs : List En) : Prop :=
 ∃ vs : List Value, vs.length = xs.length ∧ w.ownsRow base 44 2 v xs.length (entC vs xs) ∧ ∀ i (h : i < xs.length) (h' : i < vs.length), ∃ A n c, vs[i] = .slice A n c ∧ n ≤ c ∧ Sl VlR 3 ok w0 A n xs[i].key
theorem ShareE.lit (ok : Nat → Prop) (w0 w : World) {base : Nat} (hb : base ≤ w.heap.size) : ShareE ok w0 (w.alloc (.cells #[] 44)) base (.slice (some ⟨w.heap.size, 0, none⟩) 0 0) [] :=
 ⟨[], rfl, ⟨by simp [entC], .inr ⟨w.heap.size, 0, #[], rfl, hb, Go.heap_alloc_last w _, Nat.le_refl _, by simp [maxLen], by simp, by simp [entC]⟩⟩, fun i h => by simp at h⟩
theorem ShareE.below {ok : Nat → Prop} {w0 w w' : World} {base : Nat} {v : Value} {xs : List En} (h : ShareE ok w0 w base v xs) (hb : Below w.heap.size w w') : ShareE ok w0 w' base v xs := by
 obtain ⟨vs, h1, h2, h3⟩ := h
 exact ⟨vs, h1, ownsRow_below h2 hb, h3⟩
theorem ShareE.drew {ok : Nat → Prop} {w0 w : World} {base : Nat} {v : Value} {xs : List En} (h : ShareE ok w0 w base v xs) : ShareE ok w0 w.drew base v xs := by
 obtain ⟨vs, h1, h2, h3⟩ := h
 exact ⟨vs, h1, h2, h3⟩
theorem ShareE.app {ok : Nat → Prop} {w0 w' : World} {base : Nat} {v' : Value} {xs : List En} {vs : List Value} {x : En} {A : Option Addr} {n c : Nat} (h1 : vs.length = xs.length) (h3 : ∀ i (h : i < xs.length) (h' : i < vs.length), ∃ A n c, vs[i] = .slice A n c ∧ n ≤ c ∧ Sl VlR 3 ok w0 A n xs[i].key) (hc : n ≤ c) (hk : Sl VlR 3 ok w0 A n x.key)
  (h' : w'.ownsRow base 44 2 v' (xs.length + 1) (entC vs xs ++ [.slice A n c, .int .i64 x.id])) : ShareE ok w0 w' base v' (xs ++ [x]) := by
 have hz : entC (vs ++ [.slice A n c]) (xs ++ [x]) = entC vs xs ++ [.slice A n c, .int .i64 x.id] := by
  unfold entC
  rw [List.zipWith_append h1]
  simp
 refine ⟨vs ++ [.slice A n c], by simp [h1], by rw [List.length_append, hz]; exact h', fun i hi hi' => ?_⟩
 by_cases e : i < xs.length
 ·have e' : i < vs.length := by rw [h1]; exact e
  rw [List.getElem_append_left e, List.getElem_append_left e']
  exact h3 i e e'
 ·simp only [List.length_append, List.length_cons, List.length_nil] at hi
  obtain rfl : i = xs.length := by omega
  rw [List.getElem_append_right (Nat.le_refl _), List.getElem_append_right (Nat.le_of_eq h1)]
  exact ⟨A, n, c, by simp [h1], hc, by simpa using hk⟩
theorem ShareE.sl {ok : Nat → Prop} {w0 w : World} {base : Nat} {v : Value} {xs : List En} (h : ShareE ok w0 w base v xs) (hb : Below w0.heap.size w0 w) : ∃ A c, v = .slice A xs.length c ∧ Sl EnR 2 (fun _ => True) w A xs.length xs := by
 obtain ⟨vs, h1, h2, h3⟩ := h
 rcases h2.2 with ⟨rfl, hn⟩ | ⟨g, cap, cur, rfl, k1, k2, k3, k4, k5, k6⟩
 ·exact ⟨none, 0, by rw [hn], rfl, fun h => by omega⟩
 ·refine ⟨_, cap, rfl, rfl, fun hn => ⟨g, 0, rfl, trivial, fun i hi => ?_⟩⟩
  have hi' : i < vs.length := by rw [h1]; exact hi
  obtain ⟨A, n, c, e, hc, hs⟩ := h3 i hi hi'
  refine ⟨[vs[i], .int .i64 xs[i].id], rfl, ⟨A, n, c, by rw [e], (hs.below VlR.stays hb).stays VlR.stays (fun _ _ => trivial) (fun p v _ h => h), hc⟩, fun t u hu => ?_⟩
  have ht : t < 2 := by have := (List.getElem?_eq_some_iff.1 hu).1; simpa using this
  have h7 := entC_at vs xs h1 i hi hi' t ht
  rw [hu, ← k6, List.getElem?_take, if_pos (by omega)] at h7
  rw [cell_of_row _ _ _ _ _ _ k2, Nat.zero_add, ← Array.getElem?_toList]
  exact h7
theorem OwnE.mono {w : World} {base base' : Nat} {v : Value} {es : List En} (h : OwnE w base v es) (hb : base' ≤ base) : OwnE w base' v es := by
 obtain ⟨vs, h⟩ := h
 refine ⟨vs, h.len, ⟨h.row.1, ?_⟩, fun i hi hi' => OwnK.mono (h.key i hi hi') hb, h.apart⟩
 rcases h.row.2 with h | ⟨g, cap, cur, rfl, h1, h2⟩
 ·exact .inl h
 ·exact .inr ⟨g, cap, cur, rfl, Nat.le_trans hb h1, h2⟩
theorem dropE_yes {l : List En} {e : En} {k : Nat} (h : k < l.length) (hs : sameE l[k] e = true) : dropE (l.take (k + 1)) e = dropE (l.take k) e := by
 unfold dropE; rw [List.take_succ_eq_append_getElem h, List.filter_append]; simp [hs]
theorem dropE_no {l : List En} {e : En} {k : Nat} (h : k < l.length) (hs : sameE l[k] e = false) : dropE (l.take (k + 1)) e = dropE (l.take k) e ++ [l[k]] := by
 unfold dropE; rw [List.take_succ_eq_append_getElem h, List.filter_append]; simp [hs]
theorem dropE_len (l : List En) (e : En) : (dropE l e).length ≤ l.length := List.length_filter_le _ _
theorem exists_list {α : Type} {P : Nat → α → Prop} : ∀ (n : Nat), (∀ i, i < n → ∃ v, P i v) → ∃ vs : List α, vs.length = n ∧ ∀ i (h : i < vs.length), P i vs[i]
 | 0, _ => ⟨[], rfl, fun i h => by simp at h⟩
 | n + 1, h => by
  obtain ⟨vs, h1, h2⟩ := exists_list n fun i hi => h i (by omega)
  obtain ⟨v, hv⟩ := h n (by omega)
  refine ⟨vs ++ [v], by simp [h1], fun i hi => ?_⟩
  by_cases e : i < vs.length
  ·rw [List.getElem_append_left e]; exact h2 i e
  ·simp only [List.length_append, List.length_cons, List.length_nil] at hi
   obtain rfl : i = vs.length := by omega
   rw [List.getElem_append_right (Nat.le_refl _)]
   simpa [h1] using hv
theorem entC_len (vs : List Value) (es : List En) (h : vs.length = es.length) : (entC vs es).length = es.length * 2 := by
 unfold entC
 rw [flat_len (sz := 2) _ (fun c hc => by
  obtain ⟨j, hj, rfl⟩ := List.mem_iff_getElem.1 hc
  rw [List.getElem_zipWith]; rfl), List.length_zipWith]
 omega
theorem entC_one (vs : List Value) (es : List En) (h : vs.length = es.length) (hv : ∀ v ∈ vs, v.oneCell' = true) : ∀ u ∈ entC vs es, u.oneCell' = true := fun u hu => by
 unfold entC at hu
 obtain ⟨c, hc, hu⟩ := List.mem_flatten.1 hu
 obtain ⟨j, hj, rfl⟩ := List.mem_iff_getElem.1 hc
 rw [List.getElem_zipWith] at hu
 simp at hu
 rcases hu with rfl | rfl
 ·exact hv _ (List.getElem_mem _)
 ·rfl
theorem Sl.keys {ok : Nat → Prop} {w : World} {ad : Addr} {n : Nat} {es : List En} (h : Sl EnR 2 ok w (some ad) n es) :
  ∃ vs : List Value, vs.length = es.length ∧ (∀ i (h : i < es.length) (h' : i < vs.length), ∃ A n c, vs[i] = .slice A n c ∧ n ≤ c ∧ Sl VlR 3 ok w A n es[i].key) ∧ ∀ j u, (entC vs es)[j]? = some u → w.cell? (ad.add j) = some u := by
 obtain ⟨vs, h1, h2⟩ := exists_list (P := fun i (v : Value) => ∀ hi : i < es.length, (∃ A n c, v = .slice A n c ∧ n ≤ c ∧ Sl VlR 3 ok w A n es[i].key) ∧ ∃ b off, ad = ⟨b, off, none⟩ ∧ cellsAt w b (off + i * 2) [v, .int .i64 es[i].id]) es.length (fun i hi => by
  obtain ⟨b, off, e, hb, hc⟩ := h.2 (by have := h.1; omega)
  cases e
  obtain ⟨cs, k1, ⟨A0, n0, c0, rfl, k3, k4⟩, k5⟩ := hc i hi
  exact ⟨.slice A0 n0 c0, fun _ => ⟨⟨A0, n0, c0, rfl, k4, k3⟩, b, off, rfl, k5⟩⟩)
 refine ⟨vs, h1, fun i hi hi' => (h2 i hi' hi).1, fun j u hj => ?_⟩
 have hjl := (List.getElem?_eq_some_iff.1 hj).1
 rw [entC_len vs es h1] at hjl
 have hdiv : j / 2 < es.length := by omega
 have hdiv' : j / 2 < vs.length := by omega
 obtain ⟨-, b, off, rfl, hc⟩ := h2 (j / 2) hdiv' hdiv
 have h7 := entC_at vs es h1 (j / 2) hdiv hdiv' (j % 2) (by omega)
 rw [show j / 2 * 2 + j % 2 = j by omega, hj] at h7
 have := hc (j % 2) u h7.symm
 rw [addr_add]
 rwa [show off + j / 2 * 2 + j % 2 = off + j by omega] at this
set_option maxRecDepth 100000 in
set_option maxHeartbeats 1000000 in
theorem implCloneEnts (A : Option Addr) (n c : Nat) (es : List En) (ok : Nat → Prop) (w : World) (h : Sl EnR 2 ok w A n es) (hl : n ≤ 1073741824) :
  Calls Tryz.prog 104 #[.slice A n c] w fun e w' => ∃ v', e = .returned v' ∧ ShareE ok w w' w.heap.size v' es ∧ Below w.heap.size w w' := by
 obtain ⟨i0, hi, hz0, hz1, hz2⟩ := info_parts infoEntC
 have H1 := Lib.hid hi
 have H2 := Lib.hid hz0
 have H3 := Lib.hid hz1
 have H4 := Lib.hid hz2
 clear hi hz0 hz1 hz2
 obtain rfl : es.length = n := h.1
 have q22 : ∀ (w : World) (a : Option Addr) (n c n' c' : Nat), (binOp .eql 37 (.slice a n c) (.slice none n' c')).run Tryz.prog w = .ok (.bool a.isNone) w := fun w a n c n' c' => Lib.run_eql_slice_nil w _ _ a n c n' c' Tryz.underlying37
 cases A with
 | none =>
  have hn : es.length = 0 := by
   rcases Nat.eq_zero_or_pos es.length with h' | h'
   ·exact h'
   ·obtain ⟨b, off, e, -⟩ := h.2 h'
    cases e
  obtain rfl : es = [] := List.length_eq_zero_iff.1 hn
  simp only [List.length_nil] at *
  go_enter Tryz.func104, Tryz.ntmps104
  go_wp2_with fail
  go_ret
  exact ⟨_, rfl, ⟨[], rfl, World.ownsRow_nil _ _ _ _, fun i h => by simp at h⟩, Below.refl _ _⟩
 | some ad =>
  obtain ⟨vs, h1, h2, h3⟩ := h.keys
  have hb0 := (Below.refl w.heap.size w).alloc (Nat.le_refl _) (.cells #[] 44)
  have HO0 := Lib.hid (show World.ownsRow (w.alloc (.cells #[] 44)) w.heap.size 44 2 (.slice (some ⟨w.heap.size, 0, none⟩) 0 0) 0 [] from ⟨by simp, .inr ⟨w.heap.size, 0, #[], rfl, Nat.le_refl _, Go.heap_alloc_last w _, Nat.le_refl _, by simp [maxLen], by simp, by simp⟩⟩)
  have HX := Lib.hid (fun j u hj => below_keep hb0 _ _ (h3 j u hj))
  have HL := Lib.hid (entC_len vs es h1)
  have H6 := Lib.hid (entC_one vs es h1 (fun v hv => by
   obtain ⟨i, hi, rfl⟩ := List.mem_iff_getElem.1 hv
   obtain ⟨A', n', c', e, -⟩ := h2 i (by omega) hi
   rw [e]; rfl))
  have HK := Lib.hid h2
  clear h h2 h3 hb0
  go_enter Tryz.func104, Tryz.ntmps104
  go_wp2_with (at_builtin; refine wpList_append_own _ rfl _ _ 37 rfl w.heap.size 44 i0 (.agg #[.slice none 0 0, .int .i64 0]) 2 32 Tryz.underlying37 H1.out H2.out H3.out H4.out rfl (by decide) _ _ _ rfl HO0.out ad es.length c (entC vs es) rfl ?c0 ?c1 ?c2 ?c3 ?c4 ?c5 ?_)
  case c0 => exact HL.out
  case c1 => exact HX.out
  case c2 => exact H6.out
  case c3 => unfold maxLen; omega
  case c4 => omega
  case c5 => simp
  intro v9 w9 hown9 hgrow9 _
  go_wp2_with fail
  go_ret
  refine ⟨_, rfl, ⟨vs, h1, ?_, HK.out⟩, ?_⟩
  ·simpa using hown9
  ·exact ((Below.refl w.heap.size w).alloc (Nat.le_refl _) _).grown hgrow9 (by simp) (by intro k hk; simp [Value.ownBlock] at hk; omega)
structure MixE (ok : Nat → Prop) (w0 w : World) (base : Nat) (v : Value) (es : List En) (k : Nat) (vs : List Value) : Prop where
 len : vs.length = es.length
 row : w.ownsRow base 44 2 v es.length (entC vs es)
 old : ∀ i (h : i < es.length) (h' : i < vs.length), k ≤ i → ∃ A n c, vs[i] = .slice A n c ∧ n ≤ c ∧ Sl VlR 3 ok w0 A n es[i].key
 new : ∀ i (h : i < es.length) (h' : i < vs.length), i < k → OwnK w base vs[i] es[i].key
 apart : ((vs.take k).flatMap blk).Nodup
theorem MixE.start {ok : Nat → Prop} {w0 w : World} {base : Nat} {v : Value} {es : List En} (h : ShareE ok w0 w base v es) : ∃ vs, MixE ok w0 w base v es 0 vs := by
 obtain ⟨vs, h1, h2, h3⟩ := h
 exact ⟨vs, h1, h2, fun i h h' _ => h3 i h h', fun i _ _ hi => by omega, by simp⟩
theorem MixE.finish {ok : Nat → Prop} {w0 w : World} {base : Nat} {v : Value} {es : List En} {vs : List Value} (h : MixE ok w0 w base v es es.length vs) : OwnE w base v es :=
 ⟨vs, h.len, h.row, fun i hi hi' => h.new i hi hi' hi, by have := h.apart; rwa [List.take_of_length_le (by rw [h.len]; exact Nat.le_refl _)] at this⟩
theorem MixE.below {ok : Nat → Prop} {w0 w w' : World} {base : Nat} {v : Value} {es : List En} {k : Nat} {vs : List Value} (h : MixE ok w0 w base v es k vs) (hb : Below w.heap.size w w') : MixE ok w0 w' base v es k vs :=
 ⟨h.len, ownsRow_below h.row hb, h.old, fun i hi hi' hk => OwnG.below (h.new i hi hi' hk) hb, h.apart⟩
theorem entC_set (vs : List Value) (es : List En) (hl : vs.length = es.length) (k : Nat) (hk : k < es.length) (u : Value) : ((entC vs es).set (k * 2) u).set (k * 2 + 1) (.int .i64 es[k].id) = entC (vs.set k u) es := by
 have hl' : (vs.set k u).length = es.length := by simpa using hl
 refine List.ext_getElem? fun j => ?_
 by_cases hj : j < es.length * 2
 ·have hd : j / 2 < es.length := by omega
  have a1 := entC_at vs es hl (j / 2) hd (by omega) (j % 2) (by omega)
  have a2 := entC_at (vs.set k u) es hl' (j / 2) hd (by omega) (j % 2) (by omega)
  rw [show j / 2 * 2 + j % 2 = j by omega] at a1 a2
  rw [a2, List.getElem?_set, List.getElem?_set, List.length_set, entC_len vs es hl, a1, List.getElem_set]
  rcases (show j % 2 = 0 ∨ j % 2 = 1 by omega) with e | e
  ·rw [e]
   by_cases h1 : k = j / 2
   ·subst h1
    rw [if_neg (by omega), if_pos (by omega), if_pos (by omega), if_pos rfl]; rfl
   ·rw [if_neg (by omega), if_neg (by omega), if_neg h1]
  ·rw [e]
   by_cases h1 : k = j / 2
   ·subst h1
    rw [if_pos (by omega), if_pos (by omega)]; rfl
   ·rw [if_neg (by omega), if_neg (by omega)]; rfl
 ·rw [List.getElem?_eq_none (by simp [entC_len vs es hl]; omega), List.getElem?_eq_none (by rw [entC_len _ _ hl']; omega)]
theorem OwnK.kept {w w' : World} {base base' g n cap : Nat} {cs : List Value} {v : Value} {xs : List Vl} (hr : w.ownsRow base' 44 2 (.slice (some ⟨g, 0, none⟩) n cap) n cs) (h : OwnK w base v xs) (hg : w.grownBy w' (some g)) : OwnK w' base v xs := by
 refine World.ownsRow.kept h hg ?_
 have := OwnK.ne hr h
 simpa [Value.ownBlock] using this
theorem MixE.step {ok : Nat → Prop} {w0 w : World} {base g cap : Nat} {es : List En} {k : Nat} {vs : List Value} (h : MixE ok w0 w base (.slice (some ⟨g, 0, none⟩) es.length cap) es k vs) (hk : k < es.length) {v1 : Value} (hk1 : OwnK w base v1 es[k].key) (hf : ∀ b ∈ blk v1, b ∉ (vs.take k).flatMap blk) :
  MixE ok w0 ((w.setCell ⟨g, k * 2, none⟩ v1).setCell ⟨g, k * 2 + 1, none⟩ (.int .i64 es[k].id)) base (.slice (some ⟨g, 0, none⟩) es.length cap) es (k + 1) (vs.set k v1) := by
 obtain ⟨s1, g1⟩ := h.row.stored (k * 2) v1
 obtain ⟨s2, g2⟩ := s1.stored (k * 2 + 1) (.int .i64 es[k].id)
 rw [entC_set vs es h.len k hk v1] at s2
 have hvk : k < vs.length := by rw [h.len]; exact hk
 have hkk : ∀ (u : Value) (xs : List Vl), OwnK w base u xs → OwnK ((w.setCell ⟨g, k * 2, none⟩ v1).setCell ⟨g, k * 2 + 1, none⟩ (.int .i64 es[k].id)) base u xs := fun u xs hu => OwnK.kept s1 (OwnK.kept h.row hu g1) g2
 refine ⟨by simpa using h.len, s2, fun i hi hi' hik => ?_, fun i hi hi' hik => ?_, ?_⟩
 ·rw [List.getElem_set_ne (by omega)]
  exact h.old i hi (by simpa using hi') (by omega)
 ·by_cases e : k = i
  ·subst e
   rw [List.getElem_set_self]
   exact hkk _ _ hk1
  ·rw [List.getElem_set_ne e]
   exact hkk _ _ (h.new i hi (by simpa using hi') (by omega))
 ·have e : (vs.set k v1).take (k + 1) = vs.take k ++ [v1] := by
   rw [List.take_succ_eq_append_getElem (by simpa using hvk), List.getElem_set_self, List.take_set, List.set_eq_of_length_le (by simp; omega)]
  rw [e, List.flatMap_append]
  refine List.nodup_append.2 ⟨h.apart, ?_, fun a ha b hb => ?_⟩
  ·have hs : ∀ a : Option Nat, a.toList.Nodup := fun a => by cases a <;> simp
   simpa [blk] using hs v1.ownBlock
  ·rintro rfl
   exact hf a (by simpa using hb) ha
theorem MixE.fresh {ok : Nat → Prop} {w0 w w1 : World} {base base1 : Nat} {v k : Value} {es : List En} {m : Nat} {vs : List Value} {xs : List Vl} (h : MixE ok w0 w base v es m vs) (hk : OwnK w1 base1 k xs) (hb : w.heap.size ≤ base1) : ∀ b ∈ blk k, b ∉ (vs.take m).flatMap blk := fun b hb' hh => by
 obtain ⟨u, hu, hbu⟩ := List.mem_flatMap.1 hh
 obtain ⟨i, hi, rfl⟩ := List.mem_iff_getElem.1 hu
 have hi2 : i < m ∧ i < vs.length := by rw [List.length_take] at hi; omega
 rw [List.getElem_take] at hbu
 have h1 := (OwnG.block_lt hk b (by simpa [blk] using hb')).1
 have h2 := (OwnG.block_lt (h.new i (by rw [← h.len]; exact hi2.2) hi2.2 hi2.1) b (by simpa [blk] using hbu)).2
 omega
end Go.Proofs.YtciaidjmehelpaaGreat
namespace Go.Proofs.YtciaidjmehelpaaGreat
open Go.RowKit
attribute [local go_sem] run_store_fnE
theorem OwnE.far {w : World} {base : Nat} {v : Value} {es : List En} (h : OwnE w base v es) {p : Addr} (hp : p.block < base) (u : Value) : OwnE (w.setCell p u) base v es := by
 obtain ⟨vs, h⟩ := h
 exact ⟨vs, h.len, ownsRow_setCell_below h.row hp u, fun i hi hi' => ownsRow_setCell_below (h.key i hi hi') hp u, h.apart⟩
theorem infoSortC : (Tryz.prog.info? 99).map (·.size) = some 2 := by kernel_rfl
set_option maxRecDepth 100000 in
set_option maxHeartbeats 2000000 in
theorem implSortedCopy (A : Option Addr) (n c : Nat) (es : List En) (ok : Nat → Prop) (w : World) (h : Sl EnR 2 ok w A n es) (hl : n ≤ 1073741824) (hk : ∀ x ∈ es, x.key.length ≤ 1073741824) :
  Calls Tryz.prog 61 #[.slice A n c] w fun e w' => ∃ v, e = .returned (.agg #[v, .func (.func 71) #[] #[]]) ∧ OwnE w' w.heap.size v es ∧ Below w.heap.size w w' := by
 obtain rfl : es.length = n := h.1
 have HK := Lib.hid hk
 clear hk
 have hb0 := (Below.refl w.heap.size w).alloc (Nat.le_refl _) (.cells #[.slice none 0 0, Value.nilFunc] 99)
 have r0 := Row.new w 99 #[.slice none 0 0, Value.nilFunc]
 have hx0 : (w.alloc (.cells #[.slice none 0 0, Value.nilFunc] 99)).heap.size = w.heap.size + 1 := by simp
 go_enter Tryz.func61, Tryz.ntmps61
 go_wp2_with fail
 generalize w.alloc (.cells #[.slice none 0 0, Value.nilFunc] 99) = z0 at *
 refine (implCloneEnts A _ c es _ _ (h.below EnR.stays hb0) hl).mono ?_
 rintro e w1 ⟨v1, rfl, hS, hb1⟩
 obtain ⟨vs0, hM0⟩ := MixE.start hS
 obtain ⟨A', c', rfl⟩ : ∃ A' c', v1 = .slice A' es.length c' := by
  rcases hM0.row.2 with ⟨rfl, hn⟩ | ⟨g, cap, cur, rfl, -⟩
  ·exact ⟨none, 0, by rw [hn]⟩
  ·exact ⟨_, _, rfl⟩
 have HM0 := Lib.hid (Exists.intro vs0 hM0)
 have HR0 := Lib.hid (r0.below hb1)
 have HB0 := Lib.hid hb1
 have HX := Lib.hid hx0
 have HBW := Lib.hid hb0
 clear hS hM0 r0 hb1 hx0 hb0 h
 go_wp2_with fail
 go_loopw [9] (fun i wr => ∃ (k : Nat), k ≤ es.length ∧ i = .int .i64 k ∧ Hid (∃ vs, MixE ok z0 wr z0.heap.size (.slice A' es.length c') es k vs) ∧ Hid (Row wr w.heap.size 99 #[.slice none 0 0, Value.nilFunc]) ∧ Hid (Below z0.heap.size z0 wr)) (fun i _ => es.length - (intOf i).toNat)
 case atStart => exact ⟨0, by omega, rfl, HM0, HR0, HB0⟩
 case round =>
  clear HM0 HR0 HB0
  obtain ⟨k, hk, rfl, hm, hr, hbz⟩ := hrel
  by_cases hlt : k < es.length
  ·obtain ⟨vs, hM⟩ := hm.out
   obtain ⟨g, rfl, hg⟩ : ∃ g, A' = some ⟨g, 0, none⟩ ∧ z0.heap.size ≤ g := by
    rcases hM.row.2 with ⟨e, hn⟩ | ⟨g, cap, cur, e, hg, -⟩
    ·omega
    ·cases e; exact ⟨g, rfl, hg⟩
   have hvk : k < vs.length := by rw [hM.len]; exact hlt
   obtain ⟨A1, n1, c1, hv, hc1, hky⟩ := hM.old k hlt hvk (Nat.le_refl _)
   have q0 : wr.cell? ⟨g, k * 2, none⟩ = some (.slice A1 n1 c1) := by
    rw [World.ownsRow.cellAt hM.row (k * 2) (by omega)]
    have := entC_at vs es hM.len k hlt hvk 0 (by omega)
    rw [hv] at this
    exact this
   have q1 : wr.cell? ⟨g, k * 2 + 1, none⟩ = some (.int .i64 es[k].id) := by
    rw [World.ownsRow.cellAt hM.row (k * 2 + 1) (by omega)]
    exact entC_at vs es hM.len k hlt hvk 1 (by omega)
   have hky' := hky.below VlR.stays hbz.out
   have hkl : n1 ≤ 1073741824 := by have := hky.1; have := HK.out es[k] (List.getElem_mem hlt); omega
   have i0' : (0 : Int) ≤ k := by omega
   have i1 : (k : Int) < es.length := by omega
   have HM := Lib.hid hM
   have HG := Lib.hid hg
   clear hm hM hv hky hg
   go_wp2_with fail
   refine (implCopyEntry es[k] A1 n1 c1 _ _ hky' hkl).mono ?_
   rintro e w2 ⟨v2, rfl, hk2, hb2⟩
   obtain ⟨A2, c2, rfl⟩ := hk2.shape
   have q0' := below_keep hb2 _ _ q0
   have q1' := below_keep hb2 _ _ q1
   have f0 := World.ownsRow.frozenAt (HM.out.below hb2).row (k * 2)
   have f1 := World.ownsRow.frozenAt (HM.out.below hb2).row (k * 2 + 1)
   have HM2 := Lib.hid ((HM.out.below hb2).step hlt (hk2.mono hbz.out.size) (HM.out.fresh hk2 (Nat.le_refl _)))
   have HB2 := Lib.hid (((hbz.out.trans (hb2.mono hbz.out.size)).setCell (p := ⟨g, k * 2, none⟩) HG.out (.slice A2 es[k].key.length c2)).setCell (p := ⟨g, k * 2 + 1, none⟩) HG.out (.int .i64 es[k].id))
   have HR2 := Lib.hid (((hr.out.below hb2).far (p := ⟨g, k * 2, none⟩) (by have := HG.out; have := HX.out; show w.heap.size ≠ g; omega) (.slice A2 es[k].key.length c2)).far (p := ⟨g, k * 2 + 1, none⟩) (by have := HG.out; have := HX.out; show w.heap.size ≠ g; omega) (.int .i64 es[k].id))
   clear q0 q1 hk2 hb2 hr hbz
   go_wp2_with fail
   go_roundw
   case rel => exact ⟨k + 1, by omega, by go_num, Lib.hid ⟨_, HM2.out⟩, HR2, HB2⟩
   case measure => simp [intOf]; omega
  ·obtain rfl : k = es.length := by omega
   obtain ⟨vs, hM⟩ := hm.out
   have HE := Lib.hid hM.finish
   have hrr := hr.out
   obtain ⟨⟨y0, y1⟩, ⟨f0, f1⟩⟩ := hrr.all2
   have HRR := Lib.hid hrr
   clear hM hm hr hrr
   go_wp2_with fail
   have hr2 := (HRR.out.set 0 (.slice A' es.length c')).set 1 (.func (.func 71) #[] #[])
   have hx := HX.out
   refine bodyPost_ret (results_cell_row (p := 2) (ty := 99) rfl _ _ w.heap.size 99 #[.slice A' es.length c', .func (.func 71) #[] #[]] (0, 0) _ rfl hr2 Tryz.underlying99 rfl infoSortC) rfl ⟨_, rfl, ?_, ?_⟩
   ·exact ((HE.out.far (p := ⟨w.heap.size, 0, none⟩) (by show w.heap.size < z0.heap.size; omega) _).far (p := ⟨w.heap.size, 1, none⟩) (by show w.heap.size < z0.heap.size; omega) _).mono (by omega)
   ·exact ((HBW.out.trans (hbz.out.mono (by omega))).setCell (by simp) _).setCell (by simp) _
end Go.Proofs.YtciaidjmehelpaaGreat
namespace Go.Proofs.YtciaidjmehelpaaGreat
open Go.RowKit
def ahead (l : List En) (e : En) (h : Nat) : Bool := match l[h]? with
 | some x => decide (ordE x e < 0)
 | none => false
def bsGo (l : List En) (e : En) (i j : Nat) : Nat := if i < j then (if ahead l e ((i + j) / 2) then bsGo l e ((i + j) / 2 + 1) j else bsGo l e i ((i + j) / 2)) else i
termination_by j - i
def bs (l : List En) (e : En) : Nat := bsGo l e 0 l.length
def bsHit (l : List En) (e : En) : Bool := match l[bs l e]? with
 | some x => ordE x e == 0
 | none => false
theorem bsGo_lt {l : List En} {e : En} {i j : Nat} (h : i < j) : bsGo l e i j = if ahead l e ((i + j) / 2) then bsGo l e ((i + j) / 2 + 1) j else bsGo l e i ((i + j) / 2) := by rw [bsGo, if_pos h]
theorem bsGo_end {l : List En} {e : En} {i j : Nat} (h : ¬ i < j) : bsGo l e i j = i := by rw [bsGo, if_neg h]
set_option maxRecDepth 100000 in
set_option maxHeartbeats 1000000 in
theorem libSearch (A : Option Addr) (n c : Nat) (l : List En) (ok : Nat → Prop) (e : En) (B : Option Addr) (m d : Nat) (ok' : Nat → Prop) (w : World) (h : Sl EnR 2 ok w A n l) (hn : n ≤ 1048576) (hk : ∀ x ∈ l, x.key.length ≤ 1048576) (hE : Sl VlR 3 ok' w B m e.key) (hm : m ≤ 1048576) :
  Calls Tryz.prog 133 #[.slice A n c, .agg #[.slice B m d, .int .i64 e.id], .func (.func 71) #[] #[]] w fun r w' => r = .returned (.tuple #[.int .i64 (bs l e : Nat), .bool (bsHit l e)]) ∧ Below w.heap.size w w' := by
 obtain rfl : l.length = n := h.1
 obtain rfl : e.key.length = m := hE.1
 have HK := Lib.hid hk
 clear hk
 have hb0 := (Below.refl w.heap.size w).alloc (Nat.le_refl _) (.cells #[.slice B e.key.length d, .int .i64 e.id] 44)
 have r0 := Row.new w 44 #[.slice B e.key.length d, .int .i64 e.id]
 go_enter Tryz.func133, Tryz.ntmps133
 go_wp2_with fail
 generalize w.alloc (.cells #[.slice B e.key.length d, .int .i64 e.id] 44) = z0 at *
 go_loopw [9, 10] (fun i j wr => ∃ (a b : Nat), i = .int .i64 a ∧ j = .int .i64 b ∧ Hid (a ≤ b ∧ b ≤ l.length) ∧ Hid (bsGo l e a b = bs l e) ∧ Hid (Row wr w.heap.size 44 #[.slice B e.key.length d, .int .i64 e.id]) ∧ Hid (Below w.heap.size w wr)) (fun i j _ => (intOf j).toNat - (intOf i).toNat)
 case atStart => exact ⟨0, l.length, rfl, rfl, Lib.hid ⟨by omega, by omega⟩, Lib.hid rfl, Lib.hid r0, Lib.hid hb0⟩
 case round =>
  clear hb0 r0
  obtain ⟨a, b, rfl, rfl, hab, hgo, hr, hb⟩ := hrel
  have hab' := hab.out
  by_cases hlt : a < b
  ·have z : decide ((a : Int) < b) = true := by simp; omega
   go_wp2_with fail
   have hc : ((a : Int) + b) / 2 = (((a + b) / 2 : Nat) : Int) := by omega
   rw [hc]
   clear hc
   have hha : a ≤ (a + b) / 2 := by omega
   have hhb : (a + b) / 2 < b := by omega
   have HS := Lib.hid (bsGo_lt (l := l) (e := e) hlt)
   generalize (a + b) / 2 = k at *
   have hkl : k < l.length := by omega
   have i0' : (0 : Int) ≤ k := by omega
   have i1 : (k : Int) < l.length := by omega
   obtain ⟨b1, o1, A1, n1, c1, -, rfl, q0, q1, hky, -⟩ := EnR.at_ (h.below EnR.stays hb.out) hkl
   obtain ⟨⟨p0, p1⟩, -⟩ := hr.out.all2
   have hkd : Sl VlR 3 ok wr.drew A1 n1 l[k].key := hky.stays VlR.stays (fun _ h => h) (fun p v _ h => h)
   have hed : Sl VlR 3 ok' wr.drew B e.key.length e.key := (hE.below VlR.stays hb.out).stays VlR.stays (fun _ h => h) (fun p v _ h => h)
   have hn1 : n1 ≤ 1048576 := by have := hky.1; have := HK.out l[k] (List.getElem_mem hkl); omega
   have HA := Lib.hid (show ahead l e k = decide (ordE l[k] e < 0) by unfold ahead; rw [List.getElem?_eq_getElem hkl])
   have HX := Lib.hid (implOrderEntries l[k] e A1 B n1 c1 e.key.length d _ _ _ hkd hed hn1 hm)
   have d0 : wr.drew.cell? ⟨b1, o1 + k * 2, none⟩ = some (.slice A1 n1 c1) := q0
   have d1 : wr.drew.cell? ⟨b1, o1 + k * 2 + 1, none⟩ = some (.int .i64 l[k].id) := q1
   have d2 : wr.drew.cell? ⟨w.heap.size, 0, none⟩ = some (.slice B e.key.length d) := p0
   have d3 : wr.drew.cell? ⟨w.heap.size, 1, none⟩ = some (.int .i64 e.id) := p1
   clear hky hab hkd hed
   go_region_held3 (fun w' => w'.cell? ⟨b1, o1 + k * 2, none⟩ = some (.slice A1 n1 c1) ∧ w'.cell? ⟨b1, o1 + k * 2 + 1, none⟩ = some (.int .i64 l[k].id) ∧ w'.cell? ⟨w.heap.size, 0, none⟩ = some (.slice B e.key.length d) ∧ w'.cell? ⟨w.heap.size, 1, none⟩ = some (.int .i64 e.id))
    (first | go_keep | exact keepC4 (by assumption) hb1)
    (first | (go_at_call 71; refine HX.out.mono ?_; rintro r1 w1 ⟨rfl, hb1⟩))
   have HB := Lib.hid (show Below w.heap.size w w1 from hb.out.drew.trans (hb1.mono hb.out.size))
   have HR := Lib.hid (show Row w1 w.heap.size 44 #[.slice B e.key.length d, .int .i64 e.id] from Row.below (w := wr.drew) hr.out hb1)
   clear HX d0 d1 d2 d3 q0 q1 p0 p1 hb hr hb1
   by_cases hc : ordE l[k] e < 0
   ·have zc : decide (ordE l[k] e < 0) = true := decide_eq_true hc
    have HN := Lib.hid (show bsGo l e (k + 1) b = bs l e by rw [← hgo.out, HS.out, HA.out, zc]; rfl)
    go_wp2_with fail
    go_roundw
    case rel => exact ⟨k + 1, b, by first | rfl | go_num, rfl, Lib.hid ⟨by omega, by omega⟩, HN, HR, HB⟩
    case measure => simp [intOf]; omega
   ·have zc : decide (ordE l[k] e < 0) = false := decide_eq_false hc
    have HN := Lib.hid (show bsGo l e a k = bs l e by rw [← hgo.out, HS.out, HA.out, zc]; rfl)
    go_wp2_with fail
    go_roundw
    case rel => exact ⟨a, k, rfl, rfl, Lib.hid ⟨by omega, by omega⟩, HN, HR, HB⟩
    case measure => simp [intOf]; omega
  ·obtain rfl : a = b := by omega
   have HBS := Lib.hid (show bs l e = a by rw [← hgo.out, bsGo_end (by omega)])
   clear hgo
   have z : decide ((a : Int) < a) = false := by simp
   by_cases hal : a < l.length
   ·have z2 : decide ((a : Int) < (l.length : Int)) = true := decide_eq_true (by omega)
    have HH := Lib.hid (show bsHit l e = (ordE l[a] e == 0) by unfold bsHit; rw [HBS.out, List.getElem?_eq_getElem hal])
    have i0' : (0 : Int) ≤ a := by omega
    have i1 : (a : Int) < l.length := by omega
    obtain ⟨b1, o1, A1, n1, c1, -, rfl, q0, q1, hky, -⟩ := EnR.at_ (h.below EnR.stays hb.out) hal
    obtain ⟨⟨p0, p1⟩, -⟩ := hr.out.all2
    have hkd : Sl VlR 3 ok wr.drew A1 n1 l[a].key := hky.stays VlR.stays (fun _ h => h) (fun p v _ h => h)
    have hed : Sl VlR 3 ok' wr.drew B e.key.length e.key := (hE.below VlR.stays hb.out).stays VlR.stays (fun _ h => h) (fun p v _ h => h)
    have hn1 : n1 ≤ 1048576 := by have := hky.1; have := HK.out l[a] (List.getElem_mem hal); omega
    have HX := Lib.hid (implOrderEntries l[a] e A1 B n1 c1 e.key.length d _ _ _ hkd hed hn1 hm)
    have d0 : wr.drew.cell? ⟨b1, o1 + a * 2, none⟩ = some (.slice A1 n1 c1) := q0
    have d1 : wr.drew.cell? ⟨b1, o1 + a * 2 + 1, none⟩ = some (.int .i64 l[a].id) := q1
    have d2 : wr.drew.cell? ⟨w.heap.size, 0, none⟩ = some (.slice B e.key.length d) := p0
    have d3 : wr.drew.cell? ⟨w.heap.size, 1, none⟩ = some (.int .i64 e.id) := p1
    clear hky hab hkd hed
    go_wp2_with fail
    go_region_held3? (fun w' => w'.cell? ⟨b1, o1 + a * 2, none⟩ = some (.slice A1 n1 c1) ∧ w'.cell? ⟨b1, o1 + a * 2 + 1, none⟩ = some (.int .i64 l[a].id) ∧ w'.cell? ⟨w.heap.size, 0, none⟩ = some (.slice B e.key.length d) ∧ w'.cell? ⟨w.heap.size, 1, none⟩ = some (.int .i64 e.id))
     (first | go_keep | exact keepC4 (by assumption) hb1)
     (first | (go_at_call 71; refine HX.out.mono ?_; rintro r1 w1 ⟨rfl, hb1⟩))
    have HB := Lib.hid (show Below w.heap.size w w1 from hb.out.drew.trans (hb1.mono hb.out.size))
    go_wp2_with fail
    go_ret2
    exact ⟨by rw [HBS.out, HH.out]; rfl, HB.out⟩
   ·obtain rfl : a = l.length := by omega
    have z2 : decide ((l.length : Int) < (l.length : Int)) = false := decide_eq_false (by omega)
    have HH := Lib.hid (show bsHit l e = false by unfold bsHit; rw [HBS.out, List.getElem?_eq_none (Nat.le_refl _)])
    have z3 : decide (l.length < l.length) = false := by simp
    go_wp2_with fail
    go_quiet (fail)
    go_wp2_with fail
    go_ret2
    exact ⟨by rw [HBS.out, HH.out]; rfl, below_dN hb.out _⟩
def rgV (v : Vl) : Prop := valOkB v.k v.n v.s = true
def rgE (e : En) : Prop := ∀ v ∈ e.key, rgV v
theorem entryB_ok {e : En} (h : entryB e = true) : rgE e := fun v hv => by
 unfold entryB rowB at h
 simp only [Bool.and_eq_true, decide_eq_true_eq, List.all_eq_true] at h
 exact h.2.1.2 v hv
theorem ordX_le {x y z : Vl} (h : rgV x) (h' : rgV y) (h2 : rgV z) (a : ordX x y ≤ 0) (b : ordX y z ≤ 0) : ordX x z ≤ 0 := ordOk_le h h' h2 a b
theorem ordL_neg : ∀ a b : List Vl, ordL b a = -ordL a b
 | [], [] => rfl
 | [], _ :: _ => rfl
 | _ :: _, [] => rfl
 | x :: a, y :: b => by
  unfold ordL
  rw [ordX_neg x y]
  by_cases h : ordX x y = 0
  ·rw [if_pos h, if_pos (by omega), ordL_neg a b]
  ·rw [if_neg h, if_neg (by omega)]
theorem ordL_le : ∀ {a b c : List Vl}, (∀ v ∈ a, rgV v) → (∀ v ∈ b, rgV v) → (∀ v ∈ c, rgV v) → ordL a b ≤ 0 → ordL b c ≤ 0 → ordL a c ≤ 0
 | [], _, [], _, _, _, _, _ => by simp [ordL]
 | [], _, _ :: _, _, _, _, _, _ => by simp [ordL]
 | _ :: _, [], _, _, _, _, h, _ => by simp [ordL] at h
 | _ :: _, _ :: _, [], _, _, _, _, h => by simp [ordL] at h
 | x :: a, y :: b, z :: c, ha, hb, hc, h, k => by
  have h1 := ha x (by simp)
  have h2 := hb y (by simp)
  have h3 := hc z (by simp)
  have b1 := ordX_bd x y
  have b2 := ordX_bd y z
  have b3 := ordX_bd x z
  have n1 := ordX_neg x y
  have n2 := ordX_neg y z
  have n3 := ordX_neg x z
  have IH := ordL_le (a := a) (b := b) (c := c) (fun v hv => ha v (by simp [hv])) (fun v hv => hb v (by simp [hv])) (fun v hv => hc v (by simp [hv]))
  have bb1 := ordL_bd a b
  unfold ordL at h k ⊢
  by_cases e1 : ordX x y = 0
  ·rw [if_pos e1] at h
   by_cases e2 : ordX y z = 0
   ·rw [if_pos e2] at k
    have t1 := ordX_le h1 h2 h3 (by omega) (by omega)
    have t2 := ordX_le h3 h2 h1 (by omega) (by omega)
    rw [if_pos (by omega)]
    exact IH h k
   ·rw [if_neg e2] at k
    have t1 := ordX_le h1 h2 h3 (by omega) (by omega)
    by_cases e3 : ordX x z = 0
    ·have t2 := ordX_le h3 h1 h2 (by omega) (by omega)
     omega
    ·rw [if_neg e3]; exact t1
  ·rw [if_neg e1] at h
   have k' : ordX y z ≤ 0 := by
    by_cases e2 : ordX y z = 0
    ·omega
    ·rw [if_neg e2] at k; exact k
   have t1 := ordX_le h1 h2 h3 (by omega) k'
   by_cases e3 : ordX x z = 0
   ·have t2 := ordX_le h2 h3 h1 (by omega) (by omega)
    omega
   ·rw [if_neg e3]; exact t1
theorem ordE_neg (a b : En) : ordE b a = -ordE a b := by
 unfold ordE
 rw [ordL_neg a.key b.key, cmpI_neg a.id b.id]
 by_cases h : ordL a.key b.key = 0
 ·rw [if_pos h, if_pos (by omega)]
 ·rw [if_neg h, if_neg (by omega)]
theorem ordE_le {a b c : En} (ha : rgE a) (hb : rgE b) (hc : rgE c) (h : ordE a b ≤ 0) (k : ordE b c ≤ 0) : ordE a c ≤ 0 := by
 have n1 := ordL_neg a.key b.key
 have n2 := ordL_neg b.key c.key
 have n3 := ordL_neg a.key c.key
 have i1 := cmpI_cases a.id b.id
 have i2 := cmpI_cases b.id c.id
 have i3 := cmpI_cases a.id c.id
 unfold ordE at h k ⊢
 by_cases e1 : ordL a.key b.key = 0
 ·rw [if_pos e1] at h
  by_cases e2 : ordL b.key c.key = 0
  ·rw [if_pos e2] at k
   have t1 := ordL_le ha hb hc (by omega) (by omega)
   have t2 := ordL_le hc hb ha (by omega) (by omega)
   rw [if_pos (by omega)]
   omega
  ·rw [if_neg e2] at k
   have t1 := ordL_le ha hb hc (by omega) (by omega)
   by_cases e3 : ordL a.key c.key = 0
   ·have t2 := ordL_le hc ha hb (by omega) (by omega)
    omega
   ·rw [if_neg e3]; exact t1
 ·rw [if_neg e1] at h
  have k' : ordL b.key c.key ≤ 0 := by
   by_cases e2 : ordL b.key c.key = 0
   ·omega
   ·rw [if_neg e2] at k; exact k
  have t1 := ordL_le ha hb hc (by omega) k'
  by_cases e3 : ordL a.key c.key = 0
  ·have t2 := ordL_le hb hc ha (by omega) (by omega)
   omega
  ·rw [if_neg e3]; exact t1
theorem ordE_lt {a b c : En} (ha : rgE a) (hb : rgE b) (hc : rgE c) (h : ordE a b < 0) (k : ordE b c ≤ 0) : ordE a c < 0 := by
 have h1 := ordE_le ha hb hc (by omega) k
 by_cases e : ordE a c = 0
 ·have n1 := ordE_neg a c
  have n2 := ordE_neg a b
  have h2 := ordE_le hb hc ha k (by omega)
  omega
 ·omega
theorem rises_step {l : List En} (h : risesB l = true) {i : Nat} (hi : i + 1 < l.length) : ordE l[i] l[i + 1] < 0 := by
 unfold risesB at h
 rw [List.all_eq_true] at h
 have := h i (List.mem_range.2 (by omega))
 rw [upB_at hi] at this
 simpa using this
theorem rises_lt {l : List En} (h : risesB l = true) (ho : ∀ e ∈ l, rgE e) : ∀ (d i : Nat) (hi : i + d + 1 < l.length), ordE (l[i]'(by omega)) l[i + d + 1] < 0
 | 0, i, hi => rises_step h hi
 | d + 1, i, hi => by
  have h1 := rises_lt h ho d i (by omega)
  have h2 := rises_step h (i := i + d + 1) (by omega)
  exact ordE_lt (ho _ (List.getElem_mem _)) (ho _ (List.getElem_mem _)) (ho _ (List.getElem_mem _)) h1 (Int.le_of_lt h2)
theorem rises_lt' {l : List En} (h : risesB l = true) (ho : ∀ e ∈ l, rgE e) {i j : Nat} (hij : i < j) (hj : j < l.length) : ordE (l[i]'(by omega)) l[j] < 0 := by
 obtain ⟨d, rfl⟩ : ∃ d, j = i + d + 1 := ⟨j - i - 1, by omega⟩
 exact rises_lt h ho d i hj
theorem ahead_at {l : List En} {e : En} {h : Nat} (hh : h < l.length) : ahead l e h = decide (ordE l[h] e < 0) := by
 unfold ahead
 rw [List.getElem?_eq_getElem hh]
theorem bsGo_ok {l : List En} {e : En} (hr : risesB l = true) (ho : ∀ x ∈ l, rgE x) (he : rgE e) : ∀ (d i j : Nat), j - i ≤ d → i ≤ j → j ≤ l.length → (∀ k (h : k < l.length), k < i → ordE l[k] e < 0) → (∀ k (h : k < l.length), j ≤ k → ¬ ordE l[k] e < 0) →
  bsGo l e i j ≤ l.length ∧ (∀ k (h : k < l.length), k < bsGo l e i j → ordE l[k] e < 0) ∧ (∀ k (h : k < l.length), bsGo l e i j ≤ k → ¬ ordE l[k] e < 0)
 | d, i, j, hd, hij, hj, h1, h2 => by
  by_cases hlt : i < j
  ·rw [bsGo_lt hlt]
   have hk : (i + j) / 2 < l.length := by omega
   rw [ahead_at hk]
   obtain ⟨d', rfl⟩ : ∃ d', d = d' + 1 := ⟨d - 1, by omega⟩
   by_cases hc : ordE l[(i + j) / 2] e < 0
   ·rw [decide_eq_true hc, if_pos rfl]
    refine bsGo_ok hr ho he d' _ _ (by omega) (by omega) hj (fun k h hki => ?_) h2
    by_cases e1 : k = (i + j) / 2
    ·subst e1; exact hc
    ·exact ordE_lt (ho _ (List.getElem_mem _)) (ho _ (List.getElem_mem _)) he (rises_lt' hr ho (by omega) hk) (by omega)
   ·rw [decide_eq_false hc, if_neg (by simp)]
    refine bsGo_ok hr ho he d' _ _ (by omega) (by omega) (by omega) h1 (fun k h hki hlt2 => ?_)
    by_cases e1 : k = (i + j) / 2
    ·subst e1; exact hc hlt2
    ·exact hc (ordE_lt (ho _ (List.getElem_mem _)) (ho _ (List.getElem_mem _)) he (rises_lt' hr ho (show (i + j) / 2 < k by omega) h) (by omega))
  ·rw [bsGo_end hlt]
   exact ⟨by omega, fun k h hk => h1 k h hk, fun k h hk => h2 k h (by omega)⟩
theorem bs_ok {l : List En} {e : En} (hr : risesB l = true) (ho : ∀ x ∈ l, rgE x) (he : rgE e) : bs l e ≤ l.length ∧ (∀ k (h : k < l.length), k < bs l e → ordE l[k] e < 0) ∧ (∀ k (h : k < l.length), bs l e ≤ k → ¬ ordE l[k] e < 0) :=
 bsGo_ok hr ho he _ 0 l.length (Nat.le_refl _) (Nat.zero_le _) (Nat.le_refl _) (fun k h hk => by omega) (fun k h hk => by omega)
theorem ordL_zero : ∀ {a b : List Vl}, (∀ v ∈ a, rgV v) → (∀ v ∈ b, rgV v) → (ordL a b = 0 ↔ eqlL a b = true)
 | [], [], _, _ => by simp [ordL, eqlL]
 | [], _ :: _, _, _ => by simp [ordL, eqlL]
 | _ :: _, [], _, _ => by simp [ordL, eqlL]
 | x :: a, y :: b, ha, hb => by
  have IH := ordL_zero (a := a) (b := b) (fun v hv => ha v (by simp [hv])) (fun v hv => hb v (by simp [hv]))
  have hz := ordOk_zero (ha x (by simp)) (hb y (by simp))
  have h1 : eqlL (x :: a) (y :: b) = (eqlV x y && eqlL a b) := by
   unfold eqlL
   simp only [List.length_cons, List.zip_cons_cons, List.all_cons, eqlP]
   by_cases e : a.length = b.length
   ·simp [e]
   ·rw [decide_eq_false e, decide_eq_false (by omega)]; simp
  rw [h1]
  unfold ordL
  have h2 : (ordX x y = 0) ↔ eqlV x y = true := by
   unfold ordX eqlV
   rcases hz with ⟨z1, z2, z3, z4⟩ | ⟨z1, z4⟩ | ⟨z1, z2, z4⟩ | ⟨z1, z2, z3, z4⟩
   ·rw [z1, z2, z3]; simpa using z4
   ·rw [z1]; simpa using z4
   ·rw [z1, z2]; simpa using z4
   ·rw [z1, z2, z3]; simpa using z4
  by_cases e : ordX x y = 0
  ·rw [if_pos e, h2.1 e, Bool.true_and]; exact IH
  ·rw [if_neg e]
   have : eqlV x y = false := by
    cases h : eqlV x y
    ·rfl
    ·exact absurd (h2.2 h) e
   rw [this, Bool.false_and]
   exact ⟨fun h => absurd h e, fun h => by cases h⟩
theorem ordE_zero {a b : En} (ha : rgE a) (hb : rgE b) : ordE a b = 0 ↔ sameE a b = true := by
 have hz := ordL_zero ha hb
 unfold ordE sameE
 rw [Bool.and_eq_true, decide_eq_true_eq, ← hz]
 have hc := cmpI_cases a.id b.id
 by_cases e : ordL a.key b.key = 0
 ·rw [if_pos e]
  exact ⟨fun h => ⟨by omega, e⟩, fun h => by omega⟩
 ·rw [if_neg e]
  exact ⟨fun h => absurd h e, fun h => absurd h.2 e⟩
theorem bs_drop {l : List En} {e : En} (hr : risesB l = true) (ho : ∀ x ∈ l, rgE x) (he : rgE e) : (bsHit l e = true → bs l e < l.length ∧ dropE l e = l.eraseIdx (bs l e)) ∧ (bsHit l e = false → dropE l e = l) := by
 obtain ⟨h1, h2, h3⟩ := bs_ok hr ho he
 have hlow : ∀ k (h : k < l.length), k ≠ bs l e → sameE l[k] e = false := fun k h hk => by
  cases hs : sameE l[k] e
  ·rfl
  ·have hz := (ordE_zero (ho _ (List.getElem_mem h)) he).2 hs
   rcases Nat.lt_or_ge k (bs l e) with hlt | hge
   ·have := h2 k h hlt; omega
   ·have hb : bs l e < l.length := by omega
    have h4 := h3 (bs l e) hb (Nat.le_refl _)
    have h5 := rises_lt' hr ho (show bs l e < k by omega) h
    have h6 := ordE_lt (ho _ (List.getElem_mem hb)) (ho _ (List.getElem_mem h)) he h5 (by omega)
    exact absurd h6 h4
 have hf : ∀ (m : List En), (∀ x ∈ m, sameE x e = false) → m.filter (fun x => !sameE x e) = m := fun m hm => List.filter_eq_self.2 fun x hx => by rw [hm x hx]; rfl
 unfold bsHit
 constructor
 ·intro h
  rcases Nat.lt_or_ge (bs l e) l.length with hb | hb
  ·rw [List.getElem?_eq_getElem hb] at h
   have hz : ordE l[bs l e] e = 0 := by simpa using h
   have hs := (ordE_zero (ho _ (List.getElem_mem hb)) he).1 hz
   refine ⟨hb, ?_⟩
   have e1 : l = l.take (bs l e) ++ l[bs l e] :: l.drop (bs l e + 1) := by rw [← List.drop_eq_getElem_cons hb, List.take_append_drop]
   rw [List.eraseIdx_eq_take_drop_succ]
   unfold dropE
   have e2 : l.filter (fun x => !sameE x e) = (l.take (bs l e)).filter (fun x => !sameE x e) ++ ([l[bs l e]].filter (fun x => !sameE x e) ++ (l.drop (bs l e + 1)).filter (fun x => !sameE x e)) := by
    rw [← List.filter_append, ← List.filter_append]
    congr 1
   rw [e2, hf (l.take (bs l e)) (fun x hx => by
    obtain ⟨k, hk, rfl⟩ := List.mem_iff_getElem.1 hx
    rw [List.length_take] at hk
    rw [List.getElem_take]
    exact hlow k (by omega) (by omega)), hf (l.drop (bs l e + 1)) (fun x hx => by
    obtain ⟨k, hk, rfl⟩ := List.mem_iff_getElem.1 hx
    rw [List.length_drop] at hk
    rw [List.getElem_drop]
    exact hlow _ (by omega) (by omega))]
   simp [hs]
  ·rw [List.getElem?_eq_none hb] at h
   cases h
 ·intro h
  refine hf l fun x hx => ?_
  obtain ⟨k, hk, rfl⟩ := List.mem_iff_getElem.1 hx
  by_cases e1 : k = bs l e
  ·subst e1
   rw [List.getElem?_eq_getElem hk] at h
   cases hs : sameE l[bs l e] e
   ·rfl
   ·have hz := (ordE_zero (ho _ (List.getElem_mem hk)) he).2 hs
    have h' : (ordE l[bs l e] e == 0) = false := h
    rw [show (ordE l[bs l e] e == 0) = true by simpa using hz] at h'
    cases h'
  ·exact hlow k hk e1
theorem dropE_none {l : List En} {e : En} (h : entriesB l = true) (he : entryB e = false) : dropE l e = l := by
 obtain ⟨h1, h2, h3⟩ := entriesB_in h
 unfold dropE
 refine List.filter_eq_self.2 fun x hx => ?_
 have hx1 := (h2 x hx).1
 cases hs : sameE x e
 ·rfl
 ·exfalso
  unfold sameE at hs
  rw [Bool.and_eq_true, decide_eq_true_eq] at hs
  obtain ⟨hi, hk⟩ := hs
  have hkk : ∀ (a b : List Vl), eqlL a b = true → rowB a = rowB b ∧ a.length = b.length := fun a b hab => by
   unfold eqlL at hab
   rw [Bool.and_eq_true, decide_eq_true_eq] at hab
   refine ⟨?_, hab.1⟩
   unfold rowB
   rw [hab.1]
   congr 1
   have : ∀ (a b : List Vl), a.length = b.length → (a.zip b).all eqlP = true → a.all Vl.ok = b.all Vl.ok := fun a => by
    induction a with
    | nil => intro b hb _; cases b with
     | nil => rfl
     | cons y b => simp at hb
    | cons x a ih =>
     intro b hb hz
     cases b with
     | nil => simp at hb
     | cons y b =>
      simp only [List.zip_cons_cons, List.all_cons, Bool.and_eq_true] at hz ⊢
      have := ih b (by simpa using hb) hz.2
      simp only [List.all_cons, this]
      congr 1
      have hp := hz.1
      simp only [eqlP, eqlV, Bool.and_eq_true, beq_iff_eq] at hp
      unfold Vl.ok
      have hsz : x.s.size = y.s.size := by
       have := congrArg List.length hp.2.2
       rw [ByteArray.toList_eq, ByteArray.toList_eq, Array.length_toList, Array.length_toList] at this
       exact this
      unfold valOkB
      rw [hp.1, hp.2.1, hp.2.2, hsz]
   exact this a b hab.1 hab.2
  obtain ⟨k1, k2⟩ := hkk _ _ hk
  unfold entryB at hx1 he
  rw [k1, k2, hi, he] at hx1
  cases hx1
def insAt (l : List En) (e : En) (i : Nat) : List En := l.take i ++ e :: l.drop i
def insL (l : List En) (e : En) : List En := insAt l e (bs l e)
def atP : List En → En → Nat
 | [], _ => 0
 | x :: l, e => if lessE x e then atP l e + 1 else 0
def putL (l : List En) (e : En) : List En := insAt l e (atP l e)
def puttedB (l : List En) (e : En) : Bool := entriesB l && entriesB (putL l e)
def putted (l : List En) (e : En) : List En := if puttedB l e = true then putL l e else []
theorem atP_le : ∀ (l : List En) (e : En), atP l e ≤ l.length
 | [], _ => Nat.le_refl _
 | x :: l, e => by
  unfold atP
  split
  ·have := atP_le l e; simp; omega
  ·exact Nat.zero_le _
theorem atP_low : ∀ (l : List En) (e : En) (k : Nat) (h : k < l.length), k < atP l e → lessE l[k] e = true
 | x :: l, e, k, h, hk => by
  unfold atP at hk
  split at hk
  ·next hx =>
   cases k with
   | zero => exact hx
   | succ k => exact atP_low l e k (by simpa using h) (by omega)
  ·omega
theorem atP_here : ∀ (l : List En) (e : En) (h : atP l e < l.length), lessE l[atP l e] e = false
 | x :: l, e, h => by
  cases hx : lessE x e with
  | false =>
   have h0 : atP (x :: l) e = 0 := by rw [atP, if_neg (by rw [hx]; simp)]
   simp only [h0, List.getElem_cons_zero]; exact hx
  | true =>
   have h0 : atP (x :: l) e = atP l e + 1 := by rw [atP, if_pos hx]
   simp only [h0, List.getElem_cons_succ]
   rw [h0] at h
   exact atP_here l e (by simpa using h)
theorem bsGo_le {l : List En} {e : En} : ∀ (d i j : Nat), j - i ≤ d → i ≤ j → bsGo l e i j ≤ j
 | d, i, j, hd, hij => by
  by_cases hlt : i < j
  ·rw [bsGo_lt hlt]
   obtain ⟨d', rfl⟩ : ∃ d', d = d' + 1 := ⟨d - 1, by omega⟩
   split
   ·exact bsGo_le d' _ _ (by omega) (by omega)
   ·have := bsGo_le (l := l) (e := e) d' i ((i + j) / 2) (by omega) (by omega); omega
  ·rw [bsGo_end hlt]; exact hij
theorem bs_le (l : List En) (e : En) : bs l e ≤ l.length := bsGo_le _ 0 l.length (Nat.le_refl _) (Nat.zero_le _)
theorem insAt_len {l : List En} {e : En} {i : Nat} (hi : i ≤ l.length) : (insAt l e i).length = l.length + 1 := by unfold insAt; simp; omega
theorem insAt_mem {l : List En} {e x : En} {i : Nat} : x ∈ insAt l e i ↔ x = e ∨ x ∈ l := by
 unfold insAt
 rw [List.mem_append, List.mem_cons]
 constructor
 ·rintro (h | h | h)
  ·exact .inr (List.mem_of_mem_take h)
  ·exact .inl h
  ·exact .inr (List.mem_of_mem_drop h)
 ·rintro (h | h)
  ·exact .inr (.inl h)
  ·rw [← List.take_append_drop i l, List.mem_append] at h
   rcases h with h | h
   ·exact .inl h
   ·exact .inr (.inr h)
theorem insAt_right {l : List En} {e : En} {i : Nat} (h : entriesB (insAt l e i) = true) : entryB e = true ∧ ∀ x ∈ l, x.key.length = e.key.length := by
 obtain ⟨-, h2, -⟩ := entriesB_in h
 have he := h2 e (insAt_mem.2 (.inl rfl))
 exact ⟨he.1, fun x hx => ((h2 x (insAt_mem.2 (.inr hx))).2).trans he.2.symm⟩
theorem insAt_at {l : List En} {e : En} {i : Nat} (hi : i ≤ l.length) : (insAt l e i)[i]? = some e := by
 unfold insAt
 rw [List.getElem?_append_right (by rw [List.length_take]; omega), List.length_take, Nat.min_eq_left hi, Nat.sub_self]; rfl
theorem insAt_next {l : List En} {e : En} {i : Nat} (hi : i < l.length) : (insAt l e i)[i + 1]? = some l[i] := by
 unfold insAt
 rw [List.getElem?_append_right (by rw [List.length_take]; omega), List.length_take, Nat.min_eq_left (by omega), show i + 1 - i = 0 + 1 by omega, List.getElem?_cons_succ, List.getElem?_drop, List.getElem?_eq_getElem (by omega)]
 simp
theorem put_at {l : List En} {e : En} (h : entriesB l = true) (he : entryB e = true) (hw : ∀ x ∈ l, x.key.length = e.key.length) : atP l e = bs l e := by
 obtain ⟨h1, h2, h3⟩ := entriesB_in h
 have ho : ∀ x ∈ l, rgE x := fun x hx => entryB_ok (h2 x hx).1
 obtain ⟨b1, b2, b3⟩ := bs_ok h3 ho (entryB_ok he)
 have hl : ∀ x ∈ l, lessE x e = decide (ordE x e < 0) := fun x hx => lessE_right (h2 x hx).1 he (hw x hx)
 have a1 := atP_le l e
 rcases Nat.lt_trichotomy (atP l e) (bs l e) with hlt | heq | hgt
 ·have h9 := atP_here l e (by omega)
  rw [hl _ (List.getElem_mem _), decide_eq_false_iff_not] at h9
  exact absurd (b2 _ _ hlt) h9
 ·exact heq
 ·have h9 := atP_low l e (bs l e) (by omega) hgt
  rw [hl _ (List.getElem_mem _), decide_eq_true_eq] at h9
  exact absurd h9 (b3 _ _ (Nat.le_refl _))
theorem put_hit {l : List En} {e : En} (h : entriesB l = true) (hr : entriesB (insL l e) = true) : bsHit l e = false := by
 cases hh : bsHit l e
 ·rfl
 ·exfalso
  unfold bsHit at hh
  rcases Nat.lt_or_ge (bs l e) l.length with hb | hb
  ·rw [List.getElem?_eq_getElem hb] at hh
   have hz : ordE l[bs l e] e = 0 := by simpa using hh
   have hri := (entriesB_in hr).2.2
   have hle := bs_le l e
   unfold risesB at hri
   rw [List.all_eq_true] at hri
   have h5 := hri (bs l e) (List.mem_range.2 (by unfold insL; rw [insAt_len hle]; omega))
   unfold upB insL at h5
   rw [insAt_at hle, insAt_next hb] at h5
   have h6 : ordE e l[bs l e] < 0 := by simpa using h5
   have h7 := ordE_neg e l[bs l e]
   omega
  ·rw [List.getElem?_eq_none hb] at hh
   cases hh
theorem put_eq {l : List En} {e : En} (h : entriesB l = true) : puttedB l e = (!bsHit l e && entriesB (insL l e)) ∧ (puttedB l e = true → putted l e = insL l e) := by
 unfold putted puttedB
 rw [h, Bool.true_and]
 by_cases hc : entryB e = true ∧ ∀ x ∈ l, x.key.length = e.key.length
 ·have he := put_at h hc.1 hc.2
  have hp : putL l e = insL l e := by unfold putL insL; rw [he]
  rw [hp]
  cases hr : entriesB (insL l e)
  ·simp
  ·rw [put_hit h hr]; simp
 ·have h1 : entriesB (putL l e) = false := by
   cases hr : entriesB (putL l e)
   ·rfl
   ·exact absurd (insAt_right hr) hc
  have h2 : entriesB (insL l e) = false := by
   cases hr : entriesB (insL l e)
   ·rfl
   ·exact absurd (insAt_right hr) hc
  rw [h1, h2]; simp
theorem valOk_size {v : Vl} (h1 : v.ok = true) : v.s.size ≤ 12 := by
 unfold Vl.ok at h1
 unfold valOkB at h1
 have h0 : ∀ b : ByteArray, b.toList.isEmpty = true → b.size = 0 := fun b hb => by
  rw [ByteArray.toList_eq] at hb
  rw [List.isEmpty_iff] at hb
  have := congrArg List.length hb
  rw [Array.length_toList] at this
  exact this
 split at h1
 ·simp only [Bool.and_eq_true] at h1
  rw [h0 _ h1.2]; omega
 ·split at h1
  ·simp only [Bool.and_eq_true] at h1
   rw [h0 _ h1.2]; omega
  ·split at h1
   ·simp only [Bool.and_eq_true, decide_eq_true_eq] at h1
    omega
   ·cases h1
theorem right_sz {l : List En} (h : entriesB l = true) : szL En.sz l ≤ 1048576 := by
 obtain ⟨h1, h2, -⟩ := entriesB_in h
 have hs : ∀ x ∈ l, x.sz ≤ 208 := fun x hx => by
  have h4 := entryB_row (h2 x hx).1
  unfold rowB at h4
  simp only [Bool.and_eq_true, decide_eq_true_eq] at h4
  have h5 : ∀ v ∈ x.key, v.s.size ≤ 12 := fun v hv => valOk_size (List.all_eq_true.1 h4.2 v hv)
  have h7 : ∀ l : List Vl, (∀ v ∈ l, v.s.size ≤ 12) → (l.map fun v : Vl => v.s.size).sum ≤ 12 * l.length := fun l => by
   induction l with
   | nil => intro _; simp
   | cons x l ih =>
    intro h
    have := ih fun v hv => h v (by simp [hv])
    have := h x (by simp)
    simp; omega
  have h8 := h7 x.key h5
  have h9 : x.sz = szL (fun v : Vl => v.s.size) x.key := rfl
  unfold szL at h9
  omega
 have hm : ∀ l : List En, (∀ x ∈ l, x.sz ≤ 208) → (l.map En.sz).sum ≤ 208 * l.length := fun l => by
  induction l with
  | nil => intro _; simp
  | cons x l ih =>
   intro h
   have := ih fun v hv => h v (by simp [hv])
   have := h x (by simp)
   simp; omega
 have := hm l hs
 unfold szL
 omega
theorem putted_sz (l : List En) (e : En) : szL En.sz (putted l e) ≤ 1048576 := by
 unfold putted
 split
 ·next h =>
  unfold puttedB at h
  rw [Bool.and_eq_true] at h
  exact right_sz h.2
 ·simp [szL]
end Go.Proofs.YtciaidjmehelpaaGreat
namespace Go.Proofs.YtciaidjmehelpaaGreat
open Go.RowKit
theorem ownsRow_typed {w : World} {base : Nat} {T : TypeId} {sz : Nat} {v : Value} {n : Nat} {xs : List Value} (h : w.ownsRow base T sz v n xs) {k : Nat} (hk : v.ownBlock = some k) : base ≤ k ∧ ∃ cur, w.heap[k]? = some (.cells cur T (0, 0)) := by
 rcases h.2 with ⟨rfl, -⟩ | ⟨g, cap, cur, rfl, h1, h2, -⟩
 ·simp [Value.ownBlock] at hk
 ·simp [Value.ownBlock] at hk
  subst hk
  exact ⟨h1, cur, h2⟩
section
def setAll (l : List Value) (off : Nat) : List Value → List Value
 | [] => l
 | u :: us => setAll (l.set off u) (off + 1) us
theorem setAll_len : ∀ (us l : List Value) (off : Nat), (setAll l off us).length = l.length
 | [], _, _ => rfl
 | u :: us, l, off => by rw [setAll, setAll_len us]; simp
theorem setAll_get : ∀ (us l : List Value) (off j : Nat), off + us.length ≤ l.length → (setAll l off us)[j]? = if off ≤ j ∧ j < off + us.length then us[j - off]? else l[j]?
 | [], l, off, j, _ => by
  rw [setAll, if_neg]
  intro h
  simp only [List.length_nil] at h
  omega
 | u :: us, l, off, j, hl => by
  simp only [List.length_cons] at hl
  rw [setAll, setAll_get us _ _ _ (by simp; omega)]
  simp only [List.length_cons]
  by_cases e : j = off
  ·subst e
   rw [if_neg (by omega), if_pos (by omega), List.getElem?_set_self (by omega)]
   simp
  ·by_cases h1 : off + 1 ≤ j ∧ j < off + 1 + us.length
   ·rw [if_pos h1, if_pos (by omega), show j - off = (j - (off + 1)) + 1 by omega]
    simp
   ·rw [if_neg h1, if_neg (by omega), List.getElem?_set_ne (by omega)]
end
end Go.Proofs.YtciaidjmehelpaaGreat
namespace Go.Proofs.YtciaidjmehelpaaGreat
open Go.RowKit
theorem grown_refl (w : World) (r : Option Nat) : w.grownBy w r := ⟨rfl, rfl, rfl, Nat.le_refl _, fun _ _ _ => rfl⟩
theorem setCells_owns {T : TypeId} {sz base g n cap : Nat} : ∀ (us : List Value) (off : Nat) (w : World) (xs : List Value), w.ownsRow base T sz (.slice (some ⟨g, 0, none⟩) n cap) n xs →
  (w.setCells g off us).ownsRow base T sz (.slice (some ⟨g, 0, none⟩) n cap) n (setAll xs off us) ∧ w.grownBy (w.setCells g off us) (some g)
 | [], off, w, xs, h => ⟨h, grown_refl _ _⟩
 | u :: us, off, w, xs, h => by
  obtain ⟨s1, g1⟩ := h.stored off u
  obtain ⟨s2, g2⟩ := setCells_owns us (off + 1) _ _ s1
  exact ⟨s2, g1.trans g2⟩
theorem schema_tab {s : List Tb} (h : schemaB s = true) {m : Nat} (hm : m < s.length) : 0 < s[m].cols.length ∧ s[m].cols.length ≤ 8 := by
 unfold schemaB at h
 simp only [Bool.and_eq_true] at h
 have h1 := List.all_eq_true.1 h.2.1 _ (List.getElem_mem hm)
 unfold tableB colsB at h1
 simp only [Bool.and_eq_true, decide_eq_true_eq] at h1
 omega
theorem kinds_ok {cols : List Cl} {l : List Vl} (h : kindsB cols l = true) : ∀ v ∈ l, v.ok = true := fun v hv => by
 unfold kindsB fitAll at h
 simp only [Bool.and_eq_true, decide_eq_true_eq] at h
 obtain ⟨i, hi, rfl⟩ := List.mem_iff_getElem.1 hv
 have h3 := List.all_eq_true.1 h.2 (cols[i]'(by omega), l[i]) (by rw [List.mem_iff_getElem]; exact ⟨i, by rw [List.length_zip]; omega, by simp⟩)
 have h4 : fitsB _ l[i] = true := h3
 unfold fitsB at h4
 rw [Bool.and_eq_true] at h4
 exact h4.1
def tabAt (s : List Tb) (tb : Int) : Option Tb := if 0 ≤ tb then s[tb.toNat]? else none
theorem tabAt_some {s : List Tb} {m : Nat} (hm : m < s.length) : tabAt s (m : Int) = some s[m] := by
 unfold tabAt
 rw [if_pos (by omega), Int.toNat_natCast, List.getElem?_eq_getElem hm]
theorem insAt_lo {l : List En} {e : En} {i j : Nat} (hi : i ≤ l.length) (hj : j < i) : (insAt l e i)[j]? = l[j]? := by
 unfold insAt
 rw [List.getElem?_append_left (by rw [List.length_take]; omega), List.getElem?_take, if_pos hj]
theorem insAt_hi {l : List En} {e : En} {i j : Nat} (hi : i ≤ l.length) (hj : i ≤ j) : (insAt l e i)[j + 1]? = l[j]? := by
 unfold insAt
 rw [List.getElem?_append_right (by rw [List.length_take]; omega), List.length_take, Nat.min_eq_left hi, show j + 1 - i = (j - i) + 1 by omega, List.getElem?_cons_succ, List.getElem?_drop]
 congr 1; omega
theorem ins_right {l : List En} {e : En} (h : entriesB l = true) (he : entryB e = true) (hw : ∀ x ∈ l, x.key.length = e.key.length) (hn : l.length < 120) (hd : ∀ x ∈ l, ordE x e ≠ 0) :
  entriesB (insL l e) = true ∧ bsHit l e = false ∧ putL l e = insL l e := by
 obtain ⟨h1, h2, h3⟩ := entriesB_in h
 have ho : ∀ x ∈ l, rgE x := fun x hx => entryB_ok (h2 x hx).1
 obtain ⟨b1, b2, b3⟩ := bs_ok h3 ho (entryB_ok he)
 have hr : entriesB (insL l e) = true := by
  have hlen : (insL l e).length = l.length + 1 := insAt_len b1
  have hall : ∀ x ∈ insL l e, entryB x = true ∧ x.key.length = e.key.length := fun x hx => by
   rcases insAt_mem.1 hx with rfl | hx
   ·exact ⟨he, rfl⟩
   ·exact ⟨(h2 x hx).1, hw x hx⟩
  have hwd : wideOf (insL l e) = e.key.length := by
   rw [wideOf_at (by omega)]
   exact (hall _ (List.getElem_mem _)).2
  unfold entriesB
  rw [Bool.and_eq_true, Bool.and_eq_true, decide_eq_true_eq, List.all_eq_true]
  refine ⟨by omega, fun x hx => ?_, ?_⟩
  ·unfold entW
   rw [(hall x hx).1, hwd, (hall x hx).2]; simp
  ·unfold risesB
   rw [List.all_eq_true]
   intro j hj
   rw [List.mem_range, hlen] at hj
   unfold upB insL
   rcases Nat.lt_trichotomy (j + 1) (bs l e) with hlt | heq | hgt
   ·rw [insAt_lo b1 (by omega), insAt_lo b1 hlt, List.getElem?_eq_getElem (by omega), List.getElem?_eq_getElem (by omega)]
    simpa using rises_step h3 (i := j) (by omega)
   ·rw [insAt_lo b1 (by omega), heq, insAt_at b1, List.getElem?_eq_getElem (by omega)]
    simpa using b2 j (by omega) (by omega)
   ·by_cases hje : j = bs l e
    ·subst hje
     rw [insAt_at b1, insAt_hi b1 (Nat.le_refl _)]
     by_cases hb : bs l e < l.length
     ·rw [List.getElem?_eq_getElem hb]
      have h5 := b3 (bs l e) hb (Nat.le_refl _)
      have h6 := hd _ (List.getElem_mem hb)
      have h7 := ordE_neg e l[bs l e]
      have : ordE e l[bs l e] < 0 := by omega
      simpa using this
     ·rw [List.getElem?_eq_none (by omega)]
    ·obtain ⟨j', rfl⟩ : ∃ j', j = j' + 1 := ⟨j - 1, by omega⟩
     rw [insAt_hi b1 (by omega), insAt_hi b1 (by omega)]
     by_cases hb : j' + 1 < l.length
     ·rw [List.getElem?_eq_getElem (by omega), List.getElem?_eq_getElem hb]
      simpa using rises_step h3 (i := j') hb
     ·rw [List.getElem?_eq_none (show l.length ≤ j' + 1 by omega)]
      cases l[j']? <;> rfl
 refine ⟨hr, put_hit h hr, ?_⟩
 unfold putL insL
 rw [put_at h he hw]
def entOf (cols : List Int) (r : Rw) : En := ⟨keyL cols r.vals, r.id⟩
def ixK (cols : List Int) (rows : List Rw) (k : Nat) : List En := (rows.take k).foldl (fun l r => putL l (entOf cols r)) []
theorem ixK_succ (cols : List Int) {rows : List Rw} {k : Nat} (h : k < rows.length) : ixK cols rows (k + 1) = putL (ixK cols rows k) (entOf cols rows[k]) := by
 unfold ixK
 rw [List.take_succ_eq_append_getElem h, List.foldl_append]; rfl
theorem ids_up {cols : List Cl} : ∀ {last : Int} {l : List Rw}, idsGo cols last l = true → (∀ r ∈ l, last < r.id ∧ r.id ≤ 1000000000 ∧ kindsB cols r.vals = true) ∧ l.Pairwise (fun a b => a.id < b.id)
 | _, [], _ => ⟨fun r hr => (by cases hr), List.Pairwise.nil⟩
 | last, r :: rs, h => by
  rw [idsGo] at h
  simp only [Bool.and_eq_true, decide_eq_true_eq] at h
  obtain ⟨h1, h2, h3, h4⟩ := h
  obtain ⟨i1, i2⟩ := ids_up h4
  refine ⟨fun x hx => ?_, List.Pairwise.cons (fun x hx => (i1 x hx).1) i2⟩
  rcases List.mem_cons.1 hx with rfl | hx
  ·exact ⟨h1, h2, h3⟩
  ·have := i1 x hx
   exact ⟨by omega, this.2.1, this.2.2⟩
structure IxIn (cols : List Int) (rows : List Rw) (m : Nat) : Prop where
 c0 : 0 < cols.length
 c1 : cols.length ≤ 8
 cin : ∀ x ∈ cols, 0 ≤ x ∧ x < (m : Int)
 few : rows.length ≤ 60
 row : ∀ r ∈ rows, 1 ≤ r.id ∧ r.id ≤ 1000000000 ∧ r.vals.length = m ∧ ∀ v ∈ r.vals, v.ok = true
 up : rows.Pairwise (fun a b => a.id < b.id)
theorem IxIn.all {cols : List Int} {rows : List Rw} {m : Nat} (h : IxIn cols rows m) {r : Rw} (hr : r ∈ rows) : cols.all (inV r.vals) = true := by
 rw [List.all_eq_true]
 intro x hx
 have h1 := h.cin x hx
 have h2 := (h.row r hr).2.2.1
 unfold inV
 rw [Bool.and_eq_true, decide_eq_true_eq, decide_eq_true_eq]
 exact ⟨h1.1, by omega⟩
theorem keyL_len (cols : List Int) (vals : List Vl) : (keyL cols vals).length = cols.length := by simp [keyL]
theorem IxIn.ent {cols : List Int} {rows : List Rw} {m : Nat} (h : IxIn cols rows m) {r : Rw} (hr : r ∈ rows) : entryB (entOf cols r) = true := by
 have h1 := h.c0
 have h2 := h.c1
 obtain ⟨r1, r2, r3, r4⟩ := h.row r hr
 unfold entryB rowB entOf
 simp only [keyL_len, Bool.and_eq_true, decide_eq_true_eq, List.all_eq_true]
 refine ⟨by omega, ⟨by omega, fun v hv => ?_⟩, r1, r2⟩
 unfold keyL at hv
 rw [List.mem_map] at hv
 obtain ⟨x, hx, rfl⟩ := hv
 have h3 := h.cin x hx
 rw [List.getElem?_eq_getElem (show x.toNat < r.vals.length by omega)]
 exact r4 _ (List.getElem_mem _)
theorem ordE_id {a b : En} (h : ordE a b = 0) : a.id = b.id := by
 unfold ordE at h
 split at h
 ·unfold cmpI at h
  split at h
  ·omega
  ·split at h
   ·omega
   ·omega
 ·rename_i hh; exact absurd h hh
theorem ix_step {cols : List Int} {rows : List Rw} {m : Nat} (h : IxIn cols rows m) : ∀ k, k ≤ rows.length → entriesB (ixK cols rows k) = true ∧ (ixK cols rows k).length = k ∧ (∀ x ∈ ixK cols rows k, x.key.length = cols.length ∧ ∃ j, ∃ hj : j < rows.length, j < k ∧ x.id = rows[j].id)
 | 0, _ => ⟨by rfl, rfl, fun x hx => by simp [ixK] at hx⟩
 | k + 1, hk => by
  obtain ⟨i1, i2, i3⟩ := ix_step h k (by omega)
  have hk' : k < rows.length := by omega
  have hd : ∀ x ∈ ixK cols rows k, ordE x (entOf cols rows[k]) ≠ 0 := fun x hx e => by
   obtain ⟨-, j, hj, hjk, ej⟩ := i3 x hx
   have := ordE_id e
   rw [ej] at this
   have h2 := List.pairwise_iff_getElem.1 h.up j k hj hk' hjk
   have h3 : rows[j].id = rows[k].id := this
   omega
  have hfew := h.few
  obtain ⟨r1, r2, r3⟩ := ins_right i1 (h.ent (List.getElem_mem hk')) (fun x hx => by rw [(i3 x hx).1]; exact (keyL_len _ _).symm) (by omega) hd
  rw [ixK_succ cols hk', r3]
  refine ⟨r1, by unfold insL; rw [insAt_len (bs_le _ _), i2], fun x hx => ?_⟩
  rcases insAt_mem.1 hx with rfl | hx
  ·exact ⟨keyL_len _ _, k, hk', by omega, rfl⟩
  ·obtain ⟨e1, j, hj, hjk, ej⟩ := i3 x hx
   exact ⟨e1, j, hj, by omega, ej⟩
theorem ix_put {cols : List Int} {rows : List Rw} {m : Nat} (h : IxIn cols rows m) {k : Nat} (hk : k < rows.length) : bsHit (ixK cols rows k) (entOf cols rows[k]) = false ∧ ixK cols rows (k + 1) = insL (ixK cols rows k) (entOf cols rows[k]) := by
 obtain ⟨i1, i2, i3⟩ := ix_step h k (by omega)
 have hd : ∀ x ∈ ixK cols rows k, ordE x (entOf cols rows[k]) ≠ 0 := fun x hx e => by
  obtain ⟨-, j, hj, hjk, ej⟩ := i3 x hx
  have := ordE_id e
  rw [ej] at this
  have h2 := List.pairwise_iff_getElem.1 h.up j k hj hk hjk
  have h3 : rows[j].id = rows[k].id := this
  omega
 have hfew := h.few
 obtain ⟨r1, r2, r3⟩ := ins_right i1 (h.ent (List.getElem_mem hk)) (fun x hx => by rw [(i3 x hx).1]; exact (keyL_len _ _).symm) (by omega) hd
 exact ⟨r2, by rw [ixK_succ cols hk, r3]⟩
theorem colsGo_in {n : Int} : ∀ {seen l : List Int}, colsGo n seen l = true → ∀ x ∈ l, 0 ≤ x ∧ x < n
 | _, [], _, x, hx => by cases hx
 | seen, y :: l, h, x, hx => by
  rw [colsGo] at h
  simp only [Bool.and_eq_true, decide_eq_true_eq] at h
  rcases List.mem_cons.1 hx with rfl | hx
  ·exact h.1.1
  ·exact colsGo_in h.2 x hx
theorem ixIn_of {s : List Tb} {db : List Dt} {cols : List Int} (h : dbB s db = true) {m : Nat} (h1 : m < s.length) (h2 : m < db.length) (hc : colsInB cols s[m].cols.length = true) (hl : cols.length ≤ 8) : IxIn cols db[m].rows s[m].cols.length := by
 have hs : schemaB s = true := by unfold dbB at h; simp only [Bool.and_eq_true] at h; exact h.1
 have h3 : dataB s[m].cols db[m].rows = true := by
  unfold dbB at h
  simp only [Bool.and_eq_true, decide_eq_true_eq] at h
  exact List.all_eq_true.1 h.2.2 (s[m], db[m]) (by rw [List.mem_iff_getElem]; exact ⟨m, by rw [List.length_zip]; omega, by simp⟩)
 unfold dataB at h3
 rw [Bool.and_eq_true, decide_eq_true_eq] at h3
 obtain ⟨i1, i2⟩ := ids_up h3.2
 unfold colsInB at hc
 rw [Bool.and_eq_true, decide_eq_true_eq] at hc
 refine ⟨hc.2, hl, colsGo_in hc.1, h3.1, fun r hr => ?_, i2⟩
 obtain ⟨j1, j2, j3⟩ := i1 r hr
 have hkl : r.vals.length = s[m].cols.length := by unfold kindsB at j3; rw [Bool.and_eq_true, decide_eq_true_eq] at j3; exact j3.1
 exact ⟨by omega, j2, hkl, kinds_ok j3⟩
theorem ownsRow_cut {w : World} {T : TypeId} {sz base n m cap : Nat} {A : Option Addr} {xs : List Value} (h : w.ownsRow base T sz (.slice A n cap) n xs) (hm : m ≤ n) (h0 : A ≠ none) : w.ownsRow base T sz (.slice A m cap) m (xs.take (m * sz)) := by
 refine ⟨by rw [List.length_take, h.1]; have := Nat.mul_le_mul_right sz hm; omega, ?_⟩
 rcases h.2 with ⟨e, hn⟩ | ⟨g, cap', cur, e, h1, h2, h3, h4, h5, h6⟩
 ·injection e with e1 e2 e3
  exact absurd e1 h0
 ·injection e with e1 e2 e3
  subst e1 e3
  refine .inr ⟨g, cap, cur, rfl, h1, h2, by omega, h4, h5, ?_⟩
  rw [← h6, List.take_take]
  congr 1
  have := Nat.mul_le_mul_right sz hm
  omega
theorem cut_list (xs : List Value) (i n : Nat) (hi : i < n) (hx : xs.length = n * 2) (z : List Value) (hz : z.length = 2) :
  (setAll (setAll xs (i * 2) (xs.drop ((i + 1) * 2))) ((n - 1) * 2) z).take ((n - 1) * 2) = xs.take (i * 2) ++ xs.drop ((i + 1) * 2) := by
 have l1 : (xs.drop ((i + 1) * 2)).length = (n - 1 - i) * 2 := by rw [List.length_drop, hx]; omega
 have l2 : (setAll xs (i * 2) (xs.drop ((i + 1) * 2))).length = n * 2 := by rw [setAll_len, hx]
 refine List.ext_getElem? fun j => ?_
 rw [List.getElem?_take]
 by_cases hj : j < (n - 1) * 2
 ·rw [if_pos hj, setAll_get _ _ _ _ (by rw [hz, l2]; omega), if_neg (by omega), setAll_get _ _ _ _ (by rw [l1, hx]; omega), l1]
  by_cases h : j < i * 2
  ·rw [if_neg (by omega), List.getElem?_append_left (by rw [List.length_take, hx]; omega), List.getElem?_take, if_pos h]
  ·rw [if_pos (by omega), List.getElem?_append_right (by rw [List.length_take, hx]; omega), List.length_take, hx, Nat.min_eq_left (by omega)]
 ·rw [if_neg hj, List.getElem?_eq_none (by rw [List.length_append, List.length_take, l1, hx]; omega)]
theorem entC_cons (v : Value) (e : En) (vs : List Value) (es : List En) : entC (v :: vs) (e :: es) = [v, .int .i64 e.id] ++ entC vs es := rfl
theorem entC_erase : ∀ (vs : List Value) (es : List En) (i : Nat), vs.length = es.length → i < es.length → (entC vs es).take (i * 2) ++ (entC vs es).drop ((i + 1) * 2) = entC (vs.eraseIdx i) (es.eraseIdx i)
 | [], [], i, _, h => by simp at h
 | [], _ :: _, _, h, _ => by simp at h
 | _ :: _, [], _, h, _ => by simp at h
 | v :: vs, e :: es, 0, h, _ => by rw [entC_cons]; simp
 | v :: vs, e :: es, i + 1, h, hi => by
  have := entC_erase vs es i (by simpa using h) (by simpa using hi)
  have e1 : ∀ L : List Value, ([v, .int .i64 e.id] ++ L).take ((i + 1) * 2) = [v, .int .i64 e.id] ++ L.take (i * 2) := fun L => by rw [show (i + 1) * 2 = i * 2 + 1 + 1 by omega]; rfl
  have e2 : ∀ L : List Value, ([v, .int .i64 e.id] ++ L).drop ((i + 1 + 1) * 2) = L.drop ((i + 1) * 2) := fun L => by rw [show (i + 1 + 1) * 2 = (i + 1) * 2 + 1 + 1 by omega]; rfl
  rw [entC_cons, e1, e2, List.eraseIdx_cons_succ, List.eraseIdx_cons_succ, entC_cons, ← this, List.append_assoc]
theorem erase_nodup {vs : List Value} {i : Nat} (h : (vs.flatMap blk).Nodup) : ((vs.eraseIdx i).flatMap blk).Nodup := by
 rw [List.eraseIdx_eq_take_drop_succ, List.flatMap_append]
 by_cases hi : i < vs.length
 ·have e : vs = vs.take i ++ (vs[i] :: vs.drop (i + 1)) := by rw [← List.drop_eq_getElem_cons hi, List.take_append_drop]
  rw [e, List.flatMap_append, List.flatMap_cons] at h
  obtain ⟨h1, h2, h3⟩ := List.nodup_append.1 h
  obtain ⟨h4, h5, h6⟩ := List.nodup_append.1 h2
  have e1 : (vs.take i ++ vs[i] :: vs.drop (i + 1)).take i = vs.take i := by rw [← e]
  have e2 : (vs.take i ++ vs[i] :: vs.drop (i + 1)).drop (i + 1) = vs.drop (i + 1) := by rw [← e]
  rw [List.nodup_append]
  exact ⟨h1, h5, fun a ha b hb => h3 a ha b (List.mem_append_right _ hb)⟩
 ·rw [List.drop_of_length_le (by omega), List.take_of_length_le (by omega)]
  simpa using h
theorem OwnE.erased {w : World} {base g cap i : Nat} {es : List En} (h : OwnE w base (.slice (some ⟨g, 0, none⟩) es.length cap) es) (hi : i < es.length) :
  ∃ vs, vs.length = es.length ∧ (∀ j u, (entC vs es)[j]? = some u → w.cell? ⟨g, j, none⟩ = some u) ∧ (∀ u ∈ entC vs es, u.oneCell' = true) ∧ (∀ o, w.frozen? ⟨g, o, none⟩ = false) ∧ (∀ j, j < es.length * 2 → (w.cell? ⟨g, j, none⟩).isSome = true) ∧ base ≤ g ∧ g < w.heap.size ∧ es.length ≤ cap ∧ cap ≤ maxLen ∧
   (∀ j, j < es.length * 2 → ((w.setCells g (i * 2) ((entC vs es).drop ((i + 1) * 2))).cell? ⟨g, j, none⟩).isSome = true) ∧ (∀ o, (w.setCells g (i * 2) ((entC vs es).drop ((i + 1) * 2))).frozen? ⟨g, o, none⟩ = false) ∧
   ∀ z : List Value, z.length = 2 → OwnE ((w.setCells g (i * 2) ((entC vs es).drop ((i + 1) * 2))).setCells g ((es.length - 1) * 2) z) base (.slice (some ⟨g, 0, none⟩) (es.length - 1) cap) (es.eraseIdx i) ∧ w.grownBy ((w.setCells g (i * 2) ((entC vs es).drop ((i + 1) * 2))).setCells g ((es.length - 1) * 2) z) (some g) := by
 obtain ⟨vs, h⟩ := h
 have hl := entC_len vs es h.len
 have hcell : ∀ j u, (entC vs es)[j]? = some u → w.cell? ⟨g, j, none⟩ = some u := fun j u hj => by
  have hlt := (List.getElem?_eq_some_iff.1 hj).1
  rw [World.ownsRow.cellAt h.row j (by omega)]
  exact hj
 have h0 := h.row
 obtain ⟨g0, cap0, cur, e, k1, k2, k3, k4, k5, k6⟩ : ∃ g' cap' cur, Value.slice (some ⟨g, 0, none⟩) es.length cap = .slice (some ⟨g', 0, none⟩) es.length cap' ∧ base ≤ g' ∧ w.heap[g']? = some (.cells cur 44 (0, 0)) ∧ es.length ≤ cap' ∧ cap' ≤ maxLen ∧ cur.size = cap' * 2 ∧ cur.toList.take (es.length * 2) = entC vs es := by
  rcases h0.2 with ⟨e, -⟩ | h'
  ·cases e
  ·exact h'
 injection e with e1 e2 e3
 injection e1 with e1
 injection e1 with e1
 subst e1 e3
 refine ⟨vs, h.len, hcell, entC_one vs es h.len (fun v hv => ?_), fun o => World.ownsRow.frozenAt h.row o, fun j hj => ?_, k1, lt_of_block k2, k3, k4, fun j hj => ?_, fun o => ?_, fun z hz => ?_⟩
 ·obtain ⟨k, hk, rfl⟩ := List.mem_iff_getElem.1 hv
  exact OwnK.one (h.key k (by rw [← h.len]; exact hk) hk)
 ·rw [World.ownsRow.cellAt h.row j hj, List.getElem?_eq_getElem (by omega)]; rfl
 ·obtain ⟨s1, g1⟩ := setCells_owns ((entC vs es).drop ((i + 1) * 2)) (i * 2) w _ h.row
  rw [World.ownsRow.cellAt s1 j hj, List.getElem?_eq_getElem (by rw [setAll_len]; omega)]; rfl
 ·obtain ⟨s1, g1⟩ := setCells_owns ((entC vs es).drop ((i + 1) * 2)) (i * 2) w _ h.row
  exact World.ownsRow.frozenAt s1 o
 ·obtain ⟨s1, g1⟩ := setCells_owns ((entC vs es).drop ((i + 1) * 2)) (i * 2) w _ h.row
  obtain ⟨s2, g2⟩ := setCells_owns z ((es.length - 1) * 2) _ _ s1
  have hg := g1.trans g2
  have s3 := ownsRow_cut s2 (m := es.length - 1) (by omega) (by simp)
  rw [cut_list _ i es.length hi hl z hz, entC_erase vs es i h.len hi] at s3
  have hle : (es.eraseIdx i).length = es.length - 1 := List.length_eraseIdx_of_lt hi
  refine ⟨⟨vs.eraseIdx i, by rw [List.length_eraseIdx_of_lt hi, List.length_eraseIdx_of_lt (by rw [h.len]; exact hi), h.len], by rw [hle]; exact s3, fun k hk hk' => ?_, erase_nodup h.apart⟩, ?_⟩
  ·rw [List.getElem_eraseIdx, List.getElem_eraseIdx]
   split
   ·exact OwnK.kept h.row (h.key _ _ _) hg
   ·exact OwnK.kept h.row (h.key _ _ _) hg
  ·exact hg
theorem run_copy2 {P : Program} (w : World) (dT sT ty elem : TypeId) (b o dLen dCap : Nat) (a : Addr) (sLen sCap k : Nat) (cs : List Value)
  (hu : P.underlying dT = some (.slice elem)) (hs : (P.info? elem).map (·.size) = some 2) (hk : k = Nat.min sLen dLen) (hn : cs.length = k * 2)
  (hsrc : ∀ j v, cs[j]? = some v → w.cell? (a.add j) = some v) (hc : ∀ j, j < cs.length → (w.cell? ⟨b, o + j, none⟩).isSome = true) (hf : ∀ j, j < cs.length → w.frozen? ⟨b, o + j, none⟩ = false) (h1 : ∀ v ∈ cs, v.oneCell' = true) :
  (Builtin.copy_ #[dT, sT] ty #[.slice (some ⟨b, o, none⟩) dLen dCap, .slice (some a) sLen sCap]).run P w = .ok (goInt k) (w.setCells b o cs) := by
 have hst := run_storeCells_cells (P := P) b o cs 0 w (by simpa using hc) (by simpa using hf) h1
 simp only [Nat.add_zero] at hst
 cases hq : P.info? elem with
 | none => simp [hq] at hs
 | some i =>
  have hi : i.size = 2 := by simpa [hq] using hs
  have hfc := run_firstCells_some (P := P) w i.size k a sLen sCap cs (by rw [hi]; exact hn) hsrc
  simp [Builtin.copy_, run_underlying hu, Builtin.lenOf, sizeOf, typeInfo, hq, ← hk, hfc, hst]
theorem ins_list (cs ys kv : List Value) (i n : Nat) (hi : i ≤ n) (hc : cs.length = n * 2) (hy : ys.length = 2) (hk : kv.length = 2) :
  setAll (setAll (cs ++ ys) ((i + 1) * 2) (cs.drop (i * 2))) (i * 2) kv = cs.take (i * 2) ++ kv ++ cs.drop (i * 2) := by
 have l1 : (cs.drop (i * 2)).length = (n - i) * 2 := by rw [List.length_drop, hc]; omega
 have l0 : (cs ++ ys).length = (n + 1) * 2 := by rw [List.length_append, hc, hy]; omega
 have l2 : (setAll (cs ++ ys) ((i + 1) * 2) (cs.drop (i * 2))).length = (n + 1) * 2 := by rw [setAll_len, l0]
 have l3 : (cs.take (i * 2)).length = i * 2 := by rw [List.length_take, hc]; omega
 refine List.ext_getElem? fun j => ?_
 rw [setAll_get _ _ _ _ (by rw [hk, l2]; omega), hk]
 by_cases h1 : i * 2 ≤ j ∧ j < i * 2 + 2
 ·rw [if_pos h1, List.getElem?_append_left (by rw [List.length_append, l3, hk]; omega), List.getElem?_append_right (by rw [l3]; omega), l3]
 ·rw [if_neg h1, setAll_get _ _ _ _ (by rw [l1, l0]; omega), l1]
  by_cases h2 : j < i * 2
  ·have eL : (cs ++ ys)[j]? = cs[j]? := List.getElem?_append_left (by omega)
   have eR : (cs.take (i * 2) ++ kv ++ cs.drop (i * 2))[j]? = cs[j]? := by
    rw [List.append_assoc, List.getElem?_append_left (by rw [l3]; exact h2), List.getElem?_take, if_pos h2]
   rw [if_neg (by omega), eL, eR]
  ·have eR : (cs.take (i * 2) ++ kv ++ cs.drop (i * 2))[j]? = (cs.drop (i * 2))[j - (i + 1) * 2]? := by
    rw [List.getElem?_append_right (by rw [List.length_append, l3, hk]; omega), List.length_append, l3, hk]
    congr 1
    omega
   rw [eR]
   by_cases h3 : j < (n + 1) * 2
   ·rw [if_pos (by omega)]
   ·rw [if_neg (by omega), List.getElem?_eq_none (by rw [l0]; omega), List.getElem?_eq_none (by rw [l1]; omega)]
theorem ins_list2 (cs kv zs : List Value) (i n : Nat) (hi : i ≤ n) (hc : cs.length = n * 2) (hk : kv.length = 2) (hz : zs.length = (n + 1 - i) * 2) :
  setAll (setAll (cs.take (i * 2) ++ zs) (i * 2) kv) ((i + 1) * 2) (cs.drop (i * 2)) = cs.take (i * 2) ++ kv ++ cs.drop (i * 2) := by
 have l1 : (cs.drop (i * 2)).length = (n - i) * 2 := by rw [List.length_drop, hc]; omega
 have l3 : (cs.take (i * 2)).length = i * 2 := by rw [List.length_take, hc]; omega
 have l0 : (cs.take (i * 2) ++ zs).length = (n + 1) * 2 := by rw [List.length_append, l3, hz]; omega
 refine List.ext_getElem? fun j => ?_
 rw [setAll_get _ _ _ _ (by rw [setAll_len, l1, l0]; omega), l1]
 by_cases h1 : (i + 1) * 2 ≤ j ∧ j < (i + 1) * 2 + (n - i) * 2
 ·rw [if_pos h1, List.getElem?_append_right (by rw [List.length_append, l3, hk]; omega), List.length_append, l3, hk]
  congr 1
  omega
 ·rw [if_neg h1, setAll_get _ _ _ _ (by rw [hk, l0]; omega), hk]
  by_cases h2 : j < i * 2
  ·rw [if_neg (by omega), List.append_assoc, List.getElem?_append_left (by rw [l3]; exact h2), List.getElem?_append_left (by rw [l3]; exact h2)]
  ·by_cases h3 : j < i * 2 + 2
   ·rw [if_pos (by omega), List.getElem?_append_left (by rw [List.length_append, l3, hk]; omega), List.getElem?_append_right (by rw [l3]; omega), l3]
   ·rw [if_neg (by omega), List.getElem?_eq_none (by rw [l0]; omega), List.getElem?_eq_none (by rw [List.length_append, List.length_append, l3, hk, l1]; omega)]
theorem entC_ins (k : Value) (e : En) : ∀ (vs : List Value) (es : List En) (i : Nat), vs.length = es.length → i ≤ es.length → (entC vs es).take (i * 2) ++ [k, .int .i64 e.id] ++ (entC vs es).drop (i * 2) = entC (vs.take i ++ k :: vs.drop i) (es.take i ++ e :: es.drop i)
 | vs, es, 0, _, _ => by simp [entC_cons]
 | [], [], i + 1, _, h => by simp at h
 | [], _ :: _, _ + 1, h, _ => by simp at h
 | _ :: _, [], _ + 1, h, _ => by simp at h
 | v :: vs, x :: es, i + 1, h, hi => by
  have := entC_ins k e vs es i (by simpa using h) (by simpa using hi)
  have e1 : ∀ L : List Value, ([v, .int .i64 x.id] ++ L).take ((i + 1) * 2) = [v, .int .i64 x.id] ++ L.take (i * 2) := fun L => by rw [show (i + 1) * 2 = i * 2 + 1 + 1 by omega]; rfl
  have e2 : ∀ L : List Value, ([v, .int .i64 x.id] ++ L).drop ((i + 1) * 2) = L.drop (i * 2) := fun L => by rw [show (i + 1) * 2 = i * 2 + 1 + 1 by omega]; rfl
  rw [entC_cons, e1, e2, List.take_succ_cons, List.take_succ_cons, List.drop_succ_cons, List.drop_succ_cons]
  have e3 : [v, .int .i64 x.id] ++ (entC vs es).take (i * 2) ++ [k, .int .i64 e.id] ++ (entC vs es).drop (i * 2) = [v, .int .i64 x.id] ++ ((entC vs es).take (i * 2) ++ [k, .int .i64 e.id] ++ (entC vs es).drop (i * 2)) := by simp
  rw [e3, this]
  rfl
theorem ins_nodup {vs : List Value} {k : Value} {i : Nat} (h : (vs.flatMap blk).Nodup) (hn : ∀ b ∈ blk k, b ∉ vs.flatMap blk) : ((vs.take i ++ k :: vs.drop i).flatMap blk).Nodup := by
 have e : vs.flatMap blk = (vs.take i).flatMap blk ++ (vs.drop i).flatMap blk := by rw [← List.flatMap_append, List.take_append_drop]
 rw [e] at h hn
 obtain ⟨h1, h2, h3⟩ := List.nodup_append.1 h
 rw [List.flatMap_append, List.flatMap_cons]
 have hs : ∀ a : Option Nat, a.toList.Nodup := fun a => by cases a <;> simp
 refine List.nodup_append.2 ⟨h1, List.nodup_append.2 ⟨by simpa [blk] using hs k.ownBlock, h2, fun a ha b hb => ?_⟩, fun a ha b hb => ?_⟩
 ·rintro rfl
  exact hn a ha (List.mem_append_right _ hb)
 ·rintro rfl
  rcases List.mem_append.1 hb with hb | hb
  ·exact hn a hb (List.mem_append_left _ ha)
  ·exact h3 a ha a hb rfl
theorem OwnE0.ins {w w' : World} {base : Nat} {v v' k : Value} {es : List En} {vs : List Value} {x : En} {i : Nat} (h : OwnE0 w base v es vs) (hi : i ≤ es.length) (hk : OwnK w base k x.key) (hn : ∀ b ∈ blk k, b ∉ vs.flatMap blk)
  (h' : w'.ownsRow base 44 2 v' (es.length + 1) ((entC vs es).take (i * 2) ++ [k, .int .i64 x.id] ++ (entC vs es).drop (i * 2))) (hg : w.grownBy w' v.ownBlock) : OwnE0 w' base v' (es.take i ++ x :: es.drop i) (vs.take i ++ k :: vs.drop i) := by
 have hl : (es.take i ++ x :: es.drop i).length = es.length + 1 := by simp; omega
 have hvl : (vs.take i ++ k :: vs.drop i).length = es.length + 1 := by simp [h.len]; omega
 have hkk : ∀ (u : Value) (xs : List Vl), OwnK w base u xs → OwnK w' base u xs := fun u xs hu => World.ownsRow.kept hu hg (OwnK.ne h.row hu)
 refine ⟨by rw [hl, hvl], by rw [hl, ← entC_ins k x vs es i h.len hi]; exact h', fun j hj hj' => ?_, ins_nodup h.apart hn⟩
 have hti : (vs.take i).length = i := by rw [List.length_take, h.len]; omega
 have hte : (es.take i).length = i := by rw [List.length_take]; omega
 rcases Nat.lt_or_ge j i with h1 | h1
 ·rw [List.getElem_append_left (by omega), List.getElem_append_left (by omega), List.getElem_take, List.getElem_take]
  exact hkk _ _ (h.key j (by omega) (by rw [h.len]; omega))
 ·rcases Nat.eq_or_lt_of_le h1 with rfl | h2
  ·rw [List.getElem_append_right (by omega), List.getElem_append_right (by omega)]
   simp only [hti, hte, Nat.sub_self, List.getElem_cons_zero]
   exact hkk _ _ hk
  ·obtain ⟨t, rfl⟩ : ∃ t, j = i + 1 + t := ⟨j - i - 1, by omega⟩
   rw [List.getElem_append_right (by omega), List.getElem_append_right (by omega)]
   simp only [hti, hte, show i + 1 + t - i = t + 1 by omega, List.getElem_cons_succ, List.getElem_drop]
   exact hkk _ _ (h.key (i + t) (by rw [hl] at hj; omega) (by rw [h.len]; rw [hl] at hj; omega))
theorem ownsRow_ext {w : World} {T : TypeId} {base g n cap : Nat} {xs : List Value} (h : w.ownsRow base T 2 (.slice (some ⟨g, 0, none⟩) n cap) n xs) (hc : n + 1 ≤ cap) : ∃ ys : List Value, ys.length = 2 ∧ w.ownsRow base T 2 (.slice (some ⟨g, 0, none⟩) (n + 1) cap) (n + 1) (xs ++ ys) := by
 rcases h.2 with ⟨e, -⟩ | ⟨g', cap', cur, e, h1, h2, h3, h4, h5, h6⟩
 ·cases e
 ·injection e with e1 e2 e3
  injection e1 with e1
  injection e1 with e1
  subst e1 e3
  have hl := h.1
  have hs : cur.toList.length = cap * 2 := by rw [Array.length_toList]; exact h5
  refine ⟨(cur.toList.drop (n * 2)).take 2, by rw [List.length_take, List.length_drop, hs]; omega, by rw [List.length_append, hl, List.length_take, List.length_drop, hs]; omega, .inr ⟨g, cap, cur, rfl, h1, h2, hc, h4, h5, ?_⟩⟩
  rw [← h6, show (n + 1) * 2 = n * 2 + 2 by omega, List.take_add]
theorem row_cells {w : World} {g : Nat} {T : TypeId} {a b : Value} (h : Row w g T #[a, b]) : (∀ j u, ([a, b] : List Value)[j]? = some u → w.cell? ⟨g, j, none⟩ = some u) := fun j u hj => by
 match j, hj with
 | 0, hj => cases hj; exact h.cell 0
 | 1, hj => cases hj; exact h.cell 1
set_option maxRecDepth 100000 in
set_option maxHeartbeats 2000000 in
theorem libInsertEnd (base : Nat) (A : Option Addr) (c : Nat) (l : List En) (vb : Nat) (k : Value) (e : En) (vs : List Value) (w : World) (h : OwnE0 w base (.slice A l.length c) l vs) (hb : base ≤ w.heap.size) (hl : l.length ≤ 1048576) (hv : Row w vb 44 #[k, .int .i64 e.id]) (hk : OwnK w base k e.key) (hn : ∀ b ∈ blk k, b ∉ vs.flatMap blk) :
  Calls Tryz.prog 106 #[.slice A l.length c, .int .i64 l.length, .slice (some ⟨vb, 0, none⟩) 1 1] w fun r w' => ∃ v', r = .returned v' ∧ OwnE0 w' base v' (l.take l.length ++ e :: l.drop l.length) (vs.take l.length ++ k :: vs.drop l.length) ∧ w.grownBy w' (Value.slice A l.length c).ownBlock := by
 obtain ⟨i0, hi, hz0, hz1, hz2⟩ := info_parts infoEntC
 have H1 := Lib.hid hi
 have H2 := Lib.hid hz0
 have H3 := Lib.hid hz1
 have H4 := Lib.hid hz2
 clear hi hz0 hz1 hz2
 have HV := Lib.hid (row_cells hv)
 have HO := Lib.hid h
 have HK := Lib.hid (OwnK.one hk)
 have hcl := entC_len vs l h.len
 clear h
 have hcase : c = l.length ∨ ¬ c = l.length := Decidable.em _
 rcases hcase with rfl | hcc
 ·go_enter Tryz.func106, Tryz.ntmps106
  go_wp2_with (at_builtin; refine wpList_append_own _ rfl _ _ 37 rfl base 44 i0 (.agg #[.slice none 0 0, .int .i64 0]) 2 32 Tryz.underlying37 H1.out H2.out H3.out H4.out rfl (by decide) _ _ _ rfl HO.out.row ⟨vb, 0, none⟩ 1 1 [k, .int .i64 e.id] rfl rfl ?c1 ?c2 ?c3 ?c4 ?c5 ?_)
  case c1 => intro j u hj; rw [addr_add, Nat.zero_add]; exact HV.out j u hj
  case c2 => intro u hu; simp at hu; rcases hu with rfl | rfl; exact HK.out; rfl
  case c3 => unfold maxLen; omega
  case c4 => omega
  case c5 => exact hb
  intro v9 w9 hown9 hgrow9 _
  go_wp2_with fail
  go_ret
  refine ⟨_, rfl, OwnE0.ins HO.out (Nat.le_refl _) hk hn ?_ hgrow9, hgrow9⟩
  rw [List.take_of_length_le (by rw [hcl]; exact Nat.le_refl _), List.drop_of_length_le (by rw [hcl]; exact Nat.le_refl _), List.append_nil]
  exact hown9
 ·go_enter Tryz.func106, Tryz.ntmps106
  go_wp2_with (at_builtin; refine wpList_append_own _ rfl _ _ 37 rfl base 44 i0 (.agg #[.slice none 0 0, .int .i64 0]) 2 32 Tryz.underlying37 H1.out H2.out H3.out H4.out rfl (by decide) _ _ _ rfl HO.out.row ⟨vb, 0, none⟩ 1 1 [k, .int .i64 e.id] rfl rfl ?c1 ?c2 ?c3 ?c4 ?c5 ?_)
  case c1 => intro j u hj; rw [addr_add, Nat.zero_add]; exact HV.out j u hj
  case c2 => intro u hu; simp at hu; rcases hu with rfl | rfl; exact HK.out; rfl
  case c3 => unfold maxLen; omega
  case c4 => omega
  case c5 => exact hb
  intro v9 w9 hown9 hgrow9 _
  go_wp2_with fail
  go_ret
  refine ⟨_, rfl, OwnE0.ins HO.out (Nat.le_refl _) hk hn ?_ hgrow9, hgrow9⟩
  rw [List.take_of_length_le (by rw [hcl]; exact Nat.le_refl _), List.drop_of_length_le (by rw [hcl]; exact Nat.le_refl _), List.append_nil]
  exact hown9
theorem shifted {w : World} {base g c i : Nat} {l : List En} {vs : List Value} {k : Value} {e : En} (h : OwnE0 w base (.slice (some ⟨g, 0, none⟩) l.length c) l vs) (hi : i < l.length) (hc : l.length + 1 ≤ c) (hk : OwnK w base k e.key) (hn : ∀ b ∈ blk k, b ∉ vs.flatMap blk) :
  OwnE0 ((w.setCells g ((i + 1) * 2) ((entC vs l).drop (i * 2))).setCells g (i * 2) [k, .int .i64 e.id]) base (.slice (some ⟨g, 0, none⟩) (l.length + 1) c) (l.take i ++ e :: l.drop i) (vs.take i ++ k :: vs.drop i) ∧
   w.grownBy ((w.setCells g ((i + 1) * 2) ((entC vs l).drop (i * 2))).setCells g (i * 2) [k, .int .i64 e.id]) (some g) ∧
   (∀ j, j < (l.length + 1) * 2 → (w.cell? ⟨g, j, none⟩).isSome = true) ∧ (∀ j, j < (l.length + 1) * 2 → ((w.setCells g ((i + 1) * 2) ((entC vs l).drop (i * 2))).cell? ⟨g, j, none⟩).isSome = true) ∧ (∀ o, w.frozen? ⟨g, o, none⟩ = false) ∧ (∀ o, (w.setCells g ((i + 1) * 2) ((entC vs l).drop (i * 2))).frozen? ⟨g, o, none⟩ = false) := by
 obtain ⟨ys, hy, h1⟩ := ownsRow_ext h.row hc
 have hl := entC_len vs l h.len
 obtain ⟨s1, g1⟩ := setCells_owns ((entC vs l).drop (i * 2)) ((i + 1) * 2) w _ h1
 obtain ⟨s2, g2⟩ := setCells_owns [k, .int .i64 e.id] (i * 2) _ _ s1
 have hg := g1.trans g2
 rw [ins_list (entC vs l) ys [k, .int .i64 e.id] i l.length (by omega) hl hy rfl] at s2
 refine ⟨OwnE0.ins h (by omega) hk hn s2 hg, hg, fun j hj => ?_, fun j hj => ?_, World.ownsRow.frozenAt h1, World.ownsRow.frozenAt s1⟩
 ·rw [World.ownsRow.cellAt h1 j hj, List.getElem?_eq_getElem (by rw [List.length_append, hl, hy]; omega)]; rfl
 ·rw [World.ownsRow.cellAt s1 j hj, List.getElem?_eq_getElem (by rw [setAll_len, List.length_append, hl, hy]; omega)]; rfl
set_option maxRecDepth 100000 in
set_option maxHeartbeats 2000000 in
theorem libInsertShift (base g : Nat) (c i : Nat) (l : List En) (vb : Nat) (k : Value) (e : En) (vs : List Value) (w : World) (h : OwnE0 w base (.slice (some ⟨g, 0, none⟩) l.length c) l vs) (hb : base ≤ w.heap.size) (hl : l.length ≤ 1048576) (hi : i < l.length) (hc : l.length + 1 ≤ c) (hcm : c ≤ maxLen) (hv : Row w vb 44 #[k, .int .i64 e.id]) (hvb : vb ≠ g) (hk : OwnK w base k e.key) (hn : ∀ b ∈ blk k, b ∉ vs.flatMap blk) :
  Calls Tryz.prog 106 #[.slice (some ⟨g, 0, none⟩) l.length c, .int .i64 i, .slice (some ⟨vb, 0, none⟩) 1 1] w fun r w' => ∃ v', r = .returned v' ∧ OwnE0 w' base v' (l.take i ++ e :: l.drop i) (vs.take i ++ k :: vs.drop i) ∧ w.grownBy w' (some g) := by
 obtain ⟨i0, hi0, hz0, hzs, hzb⟩ := info_parts infoEntC
 have hsz : (Tryz.prog.info? 44).map (·.size) = some 2 := by rw [hi0]; simp [hzs]
 have hcl := entC_len vs l h.len
 have hvc := row_cells hv
 have hd : OwnE0 w.drew base (.slice (some ⟨g, 0, none⟩) l.length c) l vs := ⟨h.len, h.row, h.key, h.apart⟩
 have hkd : OwnK w.drew base k e.key := hk
 obtain ⟨hO, hG, hS0, hS1, hF0, hF1⟩ := shifted hd hi hc hkd hn
 have hcell : ∀ j u, (entC vs l)[j]? = some u → w.cell? ⟨g, j, none⟩ = some u := fun j u hj => by
  have hlt := (List.getElem?_eq_some_iff.1 hj).1
  rw [World.ownsRow.cellAt h.row j (by omega)]
  exact hj
 have hone : ∀ u ∈ entC vs l, u.oneCell' = true := entC_one vs l h.len (fun v hv9 => by
  obtain ⟨t, ht, rfl⟩ := List.mem_iff_getElem.1 hv9
  exact OwnK.one (h.key t (by rw [← h.len]; exact ht) ht))
 have hgw : g < w.heap.size := by
  obtain ⟨-, cur, k2⟩ := ownsRow_typed h.row (k := g) rfl
  exact lt_of_block k2
 obtain ⟨TB, kB, hsb, hkB⟩ : ∃ TB kB, w.shape? g = some (TB, kB) ∧ kB ≠ 0 := by
  rcases h.row.2 with ⟨e9, -⟩ | ⟨g', cap', cur, e9, h1, h2, h3, h4, h5, h6⟩
  ·cases e9
  ·injection e9 with e1 e2 e3
   injection e1 with e1
   injection e1 with e1
   subst e1 e3
   refine ⟨44, cur.size, by unfold World.shape?; rw [h2], by omega⟩
 have hov : ∀ lb cb, (callFunc 134 #[.slice (some ⟨vb, 0, none⟩) 1 1, .slice (some ⟨g, (i + 1) * 2, none⟩) lb cb]).run Tryz.prog w = .ok (.value (.bool false)) w := fun lb cb => by
  rw [run_callFunc_extern Tryz.func134 (by kernel_rfl) (by kernel_rfl) (by kernel_rfl) (e := Extern.SlicesOverlaps.overlaps #[37, 37] #[4]) (by kernel_rfl),
   Lib.run_overlaps_apart w 37 4 44 Tryz.underlying37 2 (fun w => by simp [sizeOf, typeInfo, hi0, hzs]) ⟨vb, 0, none⟩ ⟨g, (i + 1) * 2, none⟩ 1 1 lb cb hvb _ TB 2 kB (by unfold World.shape?; rw [show w.heap[vb]? = _ from hv]; rfl) hsb hkB (by simp [World.frozen?, show w.heap[vb]? = _ from hv]) (by simp [World.frozen?, show w.heap[vb]? = _ from hv])]
  rfl
 have hdl : ((entC vs l).drop (i * 2)).length = (l.length - i) * 2 := by rw [List.length_drop, hcl]; omega
 have hcp1 : ∀ ty dc sc, (Builtin.copy_ #[37, 37] ty #[.slice (some ⟨g, (i + 1) * 2, none⟩) (l.length - i) dc, .slice (some ⟨g, i * 2, none⟩) (l.length + 1 - i) sc]).run Tryz.prog w.drew = .ok (goInt ((l.length - i : Nat) : Int)) (w.drew.setCells g ((i + 1) * 2) ((entC vs l).drop (i * 2))) := fun ty dc sc =>
  run_copy2 w.drew _ _ ty 44 g ((i + 1) * 2) (l.length - i) dc ⟨g, i * 2, none⟩ (l.length + 1 - i) sc (l.length - i) _ Tryz.underlying37 hsz (by simp only [Nat.min_def]; split <;> omega) hdl
   (fun j u hj => by rw [addr_add]; rw [List.getElem?_drop] at hj; exact hcell _ _ hj) (fun j hj => hS0 _ (by rw [hdl] at hj; omega)) (fun j hj => hF0 _) (fun u hu => hone u (List.mem_of_mem_drop hu))
 obtain ⟨W1, hW1⟩ : ∃ W1, W1 = w.drew.setCells g ((i + 1) * 2) ((entC vs l).drop (i * 2)) := ⟨_, rfl⟩
 rw [← hW1] at hcp1 hO hG hS1 hF1
 have hv1 : ∀ j u, ([k, .int .i64 e.id] : List Value)[j]? = some u → W1.cell? ⟨vb, j, none⟩ = some u := fun j u hj => by
  rw [hW1, World.cell?_setCells_out g _ _ _ _ (fun h9 _ => absurd h9 hvb)]
  exact hvc j u hj
 have hcp2 : ∀ ty dc, (Builtin.copy_ #[37, 37] ty #[.slice (some ⟨g, i * 2, none⟩) (l.length + 1 - i) dc, .slice (some ⟨vb, 0, none⟩) 1 1]).run Tryz.prog W1 = .ok (goInt ((1 : Nat) : Int)) (W1.setCells g (i * 2) [k, .int .i64 e.id]) := fun ty dc =>
  run_copy2 W1 _ _ ty 44 g (i * 2) (l.length + 1 - i) dc ⟨vb, 0, none⟩ 1 1 1 _ Tryz.underlying37 hsz (by simp only [Nat.min_def]; split <;> omega) rfl
   (fun j u hj => by rw [addr_add, Nat.zero_add]; exact hv1 j u hj) (fun j hj => hS1 _ (by simp at hj; omega)) (fun j hj => hF1 _) (fun u hu => by simp at hu; rcases hu with rfl | rfl; exact OwnK.one hk; rfl)
 have HO := Lib.hid hO
 have HG := Lib.hid hG
 have HCP1 := Lib.hid hcp1
 clear hO hG hS0 hS1 hF0 hF1 hcell hone hcp1 hv1 hvc hd hkd hdl hsb hkB hW1
 have hz2 : ¬ ((i : Int) = (l.length : Int)) := by omega
 have hw1 : IntKind.i64.wrap ((i : Int) + 1) = (i : Int) + 1 := IntWalk.i64_in _ (by omega)
 have hw2 : IntKind.i64.wrap ((l.length : Int) + 1) = (l.length : Int) + 1 := IntWalk.i64_in _ (by omega)
 have hb1 : (0 : Int) ≤ (i : Int) + 1 := by omega
 have hb2 : ¬ (c = i + 1) := by omega
 have hb3 : (i : Int) ≤ (l.length : Int) + 1 := by omega
 have hb4 : ¬ (c = i) := by omega
 have hb5 : ((i : Int) + 1) ≤ (l.length : Int) + 1 := by omega
 have hb6 : ((l.length : Int) + 1) ≤ c := by omega
 have hb7 : i ≤ l.length := by omega
 have hb8 : (i : Int) ≤ l.length := by omega
 have hb9 : (0 : Int) ≤ i := by omega
 have ht1 : ((i : Int) + 1).toNat = i + 1 := by omega
 have ht2 : ((l.length : Int) + 1).toNat = l.length + 1 := by omega
 have hgt : decide ((c : Int) < (l.length : Int) + 1) = false := decide_eq_false (by omega)
 go_enter Tryz.func106, Tryz.ntmps106
 go_upto_region 15 with (simp only [hov])
 go_region_law (refine Go.Proofs.step_copy_runI rfl _ _ 37 37 rfl (.slice (some ⟨g, (i + 1) * 2, none⟩) (l.length - i) (c - (i + 1))) (.slice (some ⟨g, i * 2, none⟩) (l.length + 1 - i) (c - i)) (by simp [Act.eval, Act.put]) (by simp [Act.eval, Act.put]) (HCP1.out _ _ _) ?_)
 go_wp2_with fail
 go_ret
 exact ⟨_, rfl, HO.out, ⟨HG.out.os, HG.out.tape, HG.out.output, HG.out.size, HG.out.block⟩⟩
theorem regrown {w W1 : World} {base g c G i : Nat} {l : List En} {vs : List Value} {k : Value} {e : En} {z : Array Value} (h : OwnE0 w base (.slice (some ⟨g, 0, none⟩) l.length c) l vs) (hb : base ≤ w.heap.size) (hi : i < l.length) (hG : l.length + 1 ≤ G) (hGm : G ≤ maxLen) (hz : z.size = 2) (hk : OwnK w base k e.key) (hn : ∀ b ∈ blk k, b ∉ vs.flatMap blk)
  (hW : W1 = w.drew.alloc (.cells (((entC vs l).take (i * 2)).toArray ++ Builtin.zeroCells z (l.length + 1 - i) ++ Builtin.zeroCells z (G - (l.length + 1))) 44)) :
  OwnE0 (((W1.setCells w.heap.size (i * 2) [k, .int .i64 e.id]).drew).setCells w.heap.size ((i + 1) * 2) ((entC vs l).drop (i * 2))) base (.slice (some ⟨w.heap.size, 0, none⟩) (l.length + 1) G) (l.take i ++ e :: l.drop i) (vs.take i ++ k :: vs.drop i) ∧
   w.grownBy (((W1.setCells w.heap.size (i * 2) [k, .int .i64 e.id]).drew).setCells w.heap.size ((i + 1) * 2) ((entC vs l).drop (i * 2))) (some g) ∧
   (∀ j, j < (l.length + 1) * 2 → (W1.cell? ⟨w.heap.size, j, none⟩).isSome = true) ∧ (∀ j, j < (l.length + 1) * 2 → ((W1.setCells w.heap.size (i * 2) [k, .int .i64 e.id]).drew.cell? ⟨w.heap.size, j, none⟩).isSome = true) ∧ (∀ o, W1.frozen? ⟨w.heap.size, o, none⟩ = false) ∧ (∀ o, (W1.setCells w.heap.size (i * 2) [k, .int .i64 e.id]).drew.frozen? ⟨w.heap.size, o, none⟩ = false) := by
 have hl := entC_len vs l h.len
 have hl3 : ((entC vs l).take (i * 2)).length = i * 2 := by rw [List.length_take, hl]; omega
 have hzs : (Builtin.zeroCells z (l.length + 1 - i)).toList.length = (l.length + 1 - i) * 2 := by rw [Array.length_toList, size_zeroCells, hz]
 have hz2 : (Builtin.zeroCells z (G - (l.length + 1))).toList.length = (G - (l.length + 1)) * 2 := by rw [Array.length_toList, size_zeroCells, hz]
 have h1 : W1.ownsRow base 44 2 (.slice (some ⟨w.heap.size, 0, none⟩) (l.length + 1) G) (l.length + 1) ((entC vs l).take (i * 2) ++ (Builtin.zeroCells z (l.length + 1 - i)).toList) := by
  refine ⟨by rw [List.length_append, hl3, hzs]; omega, .inr ⟨w.heap.size, G, ((entC vs l).take (i * 2)).toArray ++ Builtin.zeroCells z (l.length + 1 - i) ++ Builtin.zeroCells z (G - (l.length + 1)), rfl, hb, ?_, hG, hGm, ?_, ?_⟩⟩
  ·rw [hW]; exact heap_alloc_new w.drew _
  ·simp only [Array.size_append, List.size_toArray, hl3, size_zeroCells, hz]; omega
  ·simp only [Array.toList_append]
   rw [List.take_append_of_le_length (by rw [List.length_append, hl3, hzs]; omega), List.take_of_length_le (by rw [List.length_append, hl3, hzs]; omega)]
 have g0 : ∀ row, w.grownBy W1 row := fun row => by
  rw [hW]
  have := World.grownBy_alloc w.drew (.cells (((entC vs l).take (i * 2)).toArray ++ Builtin.zeroCells z (l.length + 1 - i) ++ Builtin.zeroCells z (G - (l.length + 1))) 44) row
  exact ⟨this.os, this.tape, this.output, this.size, this.block⟩
 obtain ⟨s1, g1⟩ := setCells_owns [k, .int .i64 e.id] (i * 2) _ _ h1
 have s1d : (W1.setCells w.heap.size (i * 2) [k, .int .i64 e.id]).drew.ownsRow base 44 2 (.slice (some ⟨w.heap.size, 0, none⟩) (l.length + 1) G) (l.length + 1) _ := s1
 obtain ⟨s2, g2⟩ := setCells_owns ((entC vs l).drop (i * 2)) ((i + 1) * 2) _ _ s1d
 have hg : w.grownBy (((W1.setCells w.heap.size (i * 2) [k, .int .i64 e.id]).drew).setCells w.heap.size ((i + 1) * 2) ((entC vs l).drop (i * 2))) (some g) := by
  have ga := g0 (some g)
  refine ⟨g2.os.trans (g1.os.trans ga.os), g2.tape.trans (g1.tape.trans ga.tape), g2.output.trans (g1.output.trans ga.output), Nat.le_trans ga.size (Nat.le_trans g1.size g2.size), fun q hq hq' => ?_⟩
  have hne : some q ≠ some w.heap.size := fun h9 => by injection h9 with h9; omega
  have q1 : q < W1.heap.size := Nat.lt_of_lt_of_le hq ga.size
  exact (g2.block q (Nat.lt_of_lt_of_le q1 g1.size) hne).trans ((g1.block q q1 hne).trans (ga.block q hq hq'))
 rw [ins_list2 (entC vs l) [k, .int .i64 e.id] _ i l.length (by omega) hl rfl hzs] at s2
 refine ⟨OwnE0.ins h (by omega) hk hn s2 hg, hg, fun j hj => ?_, fun j hj => ?_, World.ownsRow.frozenAt h1, World.ownsRow.frozenAt s1d⟩
 ·rw [World.ownsRow.cellAt h1 j hj, List.getElem?_eq_getElem (by rw [List.length_append, hl3, hzs]; omega)]; rfl
 ·rw [World.ownsRow.cellAt s1d j hj, List.getElem?_eq_getElem (by rw [setAll_len, List.length_append, hl3, hzs]; omega)]; rfl
set_option maxRecDepth 100000 in
set_option maxHeartbeats 2000000 in
theorem libInsertGrow (base g : Nat) (c i : Nat) (l : List En) (vb : Nat) (k : Value) (e : En) (vs : List Value) (w : World) (h : OwnE0 w base (.slice (some ⟨g, 0, none⟩) l.length c) l vs) (hb : base ≤ w.heap.size) (hl : l.length ≤ 1048576) (hi : i < l.length) (hc : c < l.length + 1) (hcn : l.length ≤ c) (hv : Row w vb 44 #[k, .int .i64 e.id]) (hk : OwnK w base k e.key) (hn : ∀ b ∈ blk k, b ∉ vs.flatMap blk) :
  Calls Tryz.prog 106 #[.slice (some ⟨g, 0, none⟩) l.length c, .int .i64 i, .slice (some ⟨vb, 0, none⟩) 1 1] w fun r w' => ∃ v', r = .returned v' ∧ OwnE0 w' base v' (l.take i ++ e :: l.drop i) (vs.take i ++ k :: vs.drop i) ∧ w.grownBy w' (some g) := by
 obtain ⟨i0, hi0, hz0, hzs, hzb⟩ := info_parts infoEntC
 have hsz : (Tryz.prog.info? 44).map (·.size) = some 2 := by rw [hi0]; simp [hzs]
 have hcl := entC_len vs l h.len
 have hcell : ∀ j u, (entC vs l)[j]? = some u → w.cell? ⟨g, j, none⟩ = some u := fun j u hj => by
  have hlt := (List.getElem?_eq_some_iff.1 hj).1
  rw [World.ownsRow.cellAt h.row j (by omega)]
  exact hj
 have hone : ∀ u ∈ entC vs l, u.oneCell' = true := entC_one vs l h.len (fun v hv9 => by
  obtain ⟨t, ht, rfl⟩ := List.mem_iff_getElem.1 hv9
  exact OwnK.one (h.key t (by rw [← h.len]; exact ht) ht))
 have hgw : g < w.heap.size := by
  obtain ⟨-, cur, k2⟩ := ownsRow_typed h.row (k := g) rfl
  exact lt_of_block k2
 have hvw : vb < w.heap.size := lt_of_block hv
 have hold : (Builtin.firstCells i0.size i (.slice (some ⟨g, 0, none⟩) i c)).run Tryz.prog w.drew = .ok ((entC vs l).take (i * 2)).toArray w.drew := by
  rw [hzs]
  exact run_firstCells_some w.drew 2 i ⟨g, 0, none⟩ i c ((entC vs l).take (i * 2)) (by rw [List.length_take]; omega) (fun j v hj => by
   rw [addr_add, Nat.zero_add]
   rw [List.getElem?_take] at hj
   split at hj
   ·exact hcell j v hj
   ·cases hj)
 obtain ⟨G, hG⟩ : ∃ G, G = grownCap w (l.length + 1) c 44 := ⟨_, rfl⟩
 have hik : i + (l.length + 1 - i) = l.length + 1 := by omega
 have hrz : ∀ ty, (Builtin.append_ #[37, 3] ty #[.slice (some ⟨g, 0, none⟩) i c, .int .i64 ((l.length : Int) + 1 - (i : Int))]).run Tryz.prog w =
   .ok (.slice (some ⟨w.heap.size, 0, none⟩) (l.length + 1) G) (w.drew.alloc (.cells (((entC vs l).take (i * 2)).toArray ++ Builtin.zeroCells (Value.agg #[.slice none 0 0, .int .i64 0]).cells (l.length + 1 - i) ++ Builtin.zeroCells (Value.agg #[.slice none 0 0, .int .i64 0]).cells (G - (l.length + 1))) 44)) := fun ty => by
  have h9 := Lib.run_append_grow_zeros w 37 3 ty 44 i0 _ .i64 .i64 Tryz.underlying37 Tryz.underlying3 hi0 hz0 (some ⟨g, 0, none⟩) i c ((entC vs l).take (i * 2)) hold (l.length + 1 - i) (by omega) (by omega) (by omega) (by omega) (by rw [hzb]; omega) (by rw [hzb, hik]; exact growslice_fits hc (by omega))
  rw [hik] at h9
  rw [hG, show (l.length : Int) + 1 - (i : Int) = ((l.length + 1 - i : Nat) : Int) by omega]
  exact h9
 have hGn : l.length + 1 ≤ G := by rw [hG]; exact grownCap_ge w _ _ _
 have hGm : G ≤ maxLen := by rw [hG]; exact grownCap_le_maxLen w _ _ _ (by unfold maxLen; omega)
 clear hG hold
 obtain ⟨W1, hW1⟩ : ∃ W1, W1 = w.drew.alloc (.cells (((entC vs l).take (i * 2)).toArray ++ Builtin.zeroCells (Value.agg #[.slice none 0 0, .int .i64 0]).cells (l.length + 1 - i) ++ Builtin.zeroCells (Value.agg #[.slice none 0 0, .int .i64 0]).cells (G - (l.length + 1))) 44) := ⟨_, rfl⟩
 rw [← hW1] at hrz
 obtain ⟨hO, hGr, hS0, hS1, hF0, hF1⟩ := regrown h hb hi hGn hGm (by rfl) hk hn hW1
 have hOb : ∀ b, b < w.heap.size → ∀ j v, w.cell? ⟨b, j, none⟩ = some v → W1.cell? ⟨b, j, none⟩ = some v := fun b hb9 j v h9 => by rw [hW1, World.cell?_alloc_past (w := w.drew) _ b j hb9]; exact h9
 have hdl : ((entC vs l).drop (i * 2)).length = (l.length - i) * 2 := by rw [List.length_drop, hcl]; omega
 obtain ⟨N, hN⟩ : ∃ N, N = w.heap.size := ⟨_, rfl⟩
 rw [← hN] at hrz hO hGr hS0 hS1 hF0 hF1 hgw hvw hOb
 have hcp1 : ∀ ty dc, (Builtin.copy_ #[37, 37] ty #[.slice (some ⟨N, i * 2, none⟩) (l.length + 1 - i) dc, .slice (some ⟨vb, 0, none⟩) 1 1]).run Tryz.prog W1 = .ok (goInt ((1 : Nat) : Int)) (W1.setCells N (i * 2) [k, .int .i64 e.id]) := fun ty dc =>
  run_copy2 W1 _ _ ty 44 N (i * 2) (l.length + 1 - i) dc ⟨vb, 0, none⟩ 1 1 1 _ Tryz.underlying37 hsz (by simp only [Nat.min_def]; split <;> omega) rfl
   (fun j u hj => by rw [addr_add, Nat.zero_add]; exact hOb vb hvw j u (row_cells hv j u hj)) (fun j hj => hS0 _ (by simp at hj; omega)) (fun j hj => hF0 _) (fun u hu => by simp at hu; rcases hu with rfl | rfl; exact OwnK.one hk; rfl)
 obtain ⟨W2, hW2⟩ : ∃ W2, W2 = W1.setCells N (i * 2) [k, .int .i64 e.id] := ⟨_, rfl⟩
 rw [← hW2] at hcp1 hO hGr hS1 hF1
 have hcp2 : ∀ ty dc sc, (Builtin.copy_ #[37, 37] ty #[.slice (some ⟨N, (i + 1) * 2, none⟩) (l.length - i) dc, .slice (some ⟨g, i * 2, none⟩) (l.length - i) sc]).run Tryz.prog W2.drew = .ok (goInt ((l.length - i : Nat) : Int)) (W2.drew.setCells N ((i + 1) * 2) ((entC vs l).drop (i * 2))) := fun ty dc sc =>
  run_copy2 W2.drew _ _ ty 44 N ((i + 1) * 2) (l.length - i) dc ⟨g, i * 2, none⟩ (l.length - i) sc (l.length - i) _ Tryz.underlying37 hsz (by simp only [Nat.min_def]; split <;> omega) hdl
   (fun j u hj => by
    rw [addr_add]
    show W2.cell? _ = _
    rw [hW2, World.cell?_setCells_out N _ _ _ _ (fun h9 _ => absurd h9 (by show g ≠ N; omega))]
    rw [List.getElem?_drop] at hj
    exact hOb g hgw _ u (hcell _ _ hj)) (fun j hj => hS1 _ (by rw [hdl] at hj; omega)) (fun j hj => hF1 _) (fun u hu => hone u (List.mem_of_mem_drop hu))
 have HO := Lib.hid hO
 have HG := Lib.hid hGr
 have HRZ := Lib.hid hrz
 have HCP2 := Lib.hid hcp2
 clear hO hGr hS0 hS1 hF0 hF1 hcell hone hdl hW1 hW2 hrz hcp2 hOb hN hgw hvw hik
 have hz2 : ¬ ((i : Int) = (l.length : Int)) := by omega
 have hw1 : IntKind.i64.wrap ((i : Int) + 1) = (i : Int) + 1 := IntWalk.i64_in _ (by omega)
 have hw2 : IntKind.i64.wrap ((l.length : Int) + 1) = (l.length : Int) + 1 := IntWalk.i64_in _ (by omega)
 have hw3 : IntKind.i64.wrap ((l.length : Int) + 1 - (i : Int)) = (l.length : Int) + 1 - (i : Int) := IntWalk.i64_in _ (by omega)
 have hb1 : (0 : Int) ≤ (i : Int) + 1 := by omega
 have hb3 : (i : Int) ≤ (l.length : Int) + 1 := by omega
 have hb4 : ¬ (c = i) := by omega
 have hb5 : ((i : Int) + 1) ≤ (l.length : Int) + 1 := by omega
 have hb7 : i ≤ l.length := by omega
 have hb8 : (i : Int) ≤ l.length := by omega
 have hb9 : (0 : Int) ≤ i := by omega
 have hb10 : i ≤ c := by omega
 have hb11 : (i : Int) ≤ c := by omega
 have hGi : ¬ (G = i) := by omega
 have hGi1 : ¬ (G = i + 1) := by omega
 have ht1 : ((i : Int) + 1).toNat = i + 1 := by omega
 have ht2 : ((l.length : Int) + 1).toNat = l.length + 1 := by omega
 have hgt : decide ((c : Int) < (l.length : Int) + 1) = true := decide_eq_true (by omega)
 have hlt : (c : Int) < (l.length : Int) + 1 := by omega
 go_enter Tryz.func106, Tryz.ntmps106
 go_wp2_with (at_builtin; refine Lib.wpList_append_run _ rfl _ _ _ _ rfl _ _ rfl rfl _ _ (HRZ.out _) ?_)
 go_region_law (refine Go.Proofs.step_copy_runI rfl _ _ 37 37 rfl (.slice (some ⟨N, (i + 1) * 2, none⟩) (l.length - i) (G - (i + 1))) (.slice (some ⟨g, i * 2, none⟩) (l.length - i) (c - i)) (by simp [Act.eval, Act.put]) (by simp [Act.eval, Act.put]) (HCP2.out _ _ _) ?_)
 go_wp2_with fail
 go_ret
 exact ⟨_, rfl, HO.out, HG.out⟩
end Go.Proofs.YtciaidjmehelpaaGreat
namespace Go.Proofs.YtciaidjmehelpaaGreat
open Go.RowKit
attribute [local go_sem] run_store_fnE
theorem run_clear2 {P : Program} (w : World) (t e ty : TypeId) (z z1 z2 : Value) (ht : P.underlying t = some (.slice e)) (hv : ∀ w, (zeroValue e).run P w = .ok z w) (hz : z.cells = #[z1, z2]) (h1 : z1.oneCell' = true) (h2 : z2.oneCell' = true) (b o c n : Nat) (hn : n = 1)
  (hc : ∀ j, j < 2 → (w.cell? ⟨b, o + j, none⟩).isSome = true) (hf : ∀ j, j < 2 → w.frozen? ⟨b, o + j, none⟩ = false) :
  (Builtin.clear_ #[t] ty #[.slice (some ⟨b, o, none⟩) n c]).run P w = .ok (.tuple #[]) (w.setCells b o [z1, z2]) := by
 subst hn
 have hzc : (Builtin.zeroCells z.cells 1).toList = [z1, z2] := by
  rw [hz]
  simp [Builtin.zeroCells, List.range_succ]
 have hst := run_storeCells_cells (P := P) b o [z1, z2] 0 w (by simpa using hc) (by simpa using hf) (by intro v hv'; simp at hv'; rcases hv' with rfl | rfl <;> assumption)
 simp only [Nat.add_zero] at hst
 simp [Builtin.clear_, run_underlying ht, hv, hzc, hst]
set_option maxRecDepth 100000 in
set_option maxHeartbeats 2000000 in
theorem libDelete (g cap i j : Nat) (es : List En) (base : Nat) (w : World) (h : OwnE w base (.slice (some ⟨g, 0, none⟩) es.length cap) es) (hi : i < es.length) (hj : j = i + 1) (hl : es.length ≤ 1048576) {jz : Int} (hz : jz = j) :
  Calls Tryz.prog 108 #[.slice (some ⟨g, 0, none⟩) es.length cap, .int .i64 i, .int .i64 jz] w fun e w' => e = .returned (.slice (some ⟨g, 0, none⟩) (es.length - 1) cap) ∧ OwnE w' base (.slice (some ⟨g, 0, none⟩) (es.length - 1) cap) (es.eraseIdx i) ∧ w.grownBy w' (some g) := by
 subst hz
 obtain ⟨i0, hi0, hz0, hz1, hz2⟩ := info_parts infoEntC
 obtain ⟨vs, hvl, hcell, hone, hfr, hsm, hg1, hg2, hc1, hc2, hsm1, hfr1, hout⟩ := OwnE.erased (w := w.drew) (OwnE.below h (Below.refl _ w).drew) hi
 have hlen := entC_len vs es hvl
 obtain ⟨news, hnews⟩ : ∃ news, news = (entC vs es).drop ((i + 1) * 2) := ⟨_, rfl⟩
 have hnl : news.length = (es.length - j) * 2 := by rw [hnews, List.length_drop, hlen]; omega
 obtain ⟨A, hA, hsrc⟩ : ∃ A : Addr, (if cap = j then (some ⟨g, 0, none⟩ : Option Addr) else some ⟨g, j * 2, none⟩) = some A ∧ Hid (∀ t u, news[t]? = some u → w.drew.cell? (A.add t) = some u) := by
  have hx : ∀ t u, news[t]? = some u → t < (es.length - j) * 2 ∧ w.drew.cell? ⟨g, j * 2 + t, none⟩ = some u := fun t u ht => by
   have h1 := (List.getElem?_eq_some_iff.1 ht).1
   rw [hnews, List.getElem?_drop] at ht
   exact ⟨by omega, by rw [hj]; exact hcell _ _ ht⟩
  by_cases e : cap = j
  ·exact ⟨⟨g, 0, none⟩, by rw [if_pos e], Lib.hid fun t u ht => by have := (hx t u ht).1; omega⟩
  ·exact ⟨⟨g, j * 2, none⟩, by rw [if_neg e], Lib.hid fun t u ht => by rw [addr_add]; exact (hx t u ht).2⟩
 have s2 : Hid (∀ u ∈ news, u.oneCell' = true) := Lib.hid fun u hu => hone u (by rw [hnews] at hu; exact List.mem_of_mem_drop hu)
 have s3 : Hid (∀ t, t < news.length → (w.drew.cell? ⟨g, 0 + i * 2 + t, none⟩).isSome = true ∧ w.drew.frozen? ⟨g, 0 + i * 2 + t, none⟩ = false) := Lib.hid fun t ht => ⟨by rw [Nat.zero_add]; exact hsm _ (by omega), hfr _⟩
 have hic : i ≤ cap := by omega
 have hjc : j ≤ cap := by omega
 have hij : i ≤ j := by omega
 have hjn : j ≤ es.length := by omega
 have hne : ¬ ((i : Int) = (j : Int)) := by omega
 have HL := Lib.hid hnl
 have HOUT := Lib.hid hout
 have HC1 := Lib.hid hc1
 have HJ := Lib.hid hj
 have HNW := Lib.hid hnews
 clear hcell hone hfr hsm hout hnl hlen hvl hj hnews
 have hji1 : (i : Int) ≤ j := by omega
 have hji2 : (j : Int) ≤ es.length := by omega
 have hji3 : (0 : Int) ≤ i := by omega
 have hji4 : (0 : Int) ≤ j := by omega
 have hji5 : (i : Int) ≤ es.length := by omega
 have hji6 : (i : Int) ≤ cap := by omega
 rw [← HNW.out] at hsm1 hfr1
 generalize hW : w.drew.setCells g (i * 2) news = W1 at hsm1 hfr1
 have hcl : ∀ ty, (Builtin.clear_ #[37] ty #[.slice (some ⟨g, (i + (es.length - j)) * 2, none⟩) (es.length - (i + (es.length - j))) (cap - (i + (es.length - j)))]).run Tryz.prog W1 = .ok (.tuple #[]) (W1.setCells g ((i + (es.length - j)) * 2) [.slice none 0 0, .int .i64 0]) := fun ty =>
  run_clear2 W1 _ _ ty (.agg #[.slice none 0 0, .int .i64 0]) _ _ Tryz.underlying37 (fun w => by kernel_rfl) rfl rfl rfl g _ _ _ (by have := HJ.out; omega) (fun t ht => hsm1 _ (by have := HJ.out; omega)) (fun t ht => hfr1 _)
 have hlow1 : ¬ cap = i + (es.length - j) := by have := HJ.out; omega
 have hlow2 : ((i : Int) + ((es.length : Int) - j)) ≤ es.length := by omega
 have hlow3 : i + (es.length - j) ≤ es.length := by omega
 have hlow4 : i + (es.length - j) ≤ cap := by omega
 have hlow5 : es.length ≤ cap := hc1
 go_enter Tryz.func108, Tryz.ntmps108
 go_wp2_with fail
 go_region_law (refine step_append_room rfl (.tmp 22) (.tmp 25) 37 rfl 44 i0 2 Tryz.underlying37 hi0 hz1 g 0 i cap (by simp [Act.eval, Act.put]) A (es.length - j) (cap - j) news (by simp [Act.eval, Act.put, hA]) HL.out hsrc.out s2.out (by omega) s3.out ?_; rw [Nat.zero_add, hW])
 go_wp2_with fail
 go_ret
 have e9 : i + (es.length - j) = es.length - 1 := by have := HJ.out; omega
 obtain ⟨hO, hB⟩ := HOUT.out [.slice none 0 0, .int .i64 0] rfl
 rw [← HNW.out, hW] at hO hB
 rw [e9]
 exact ⟨rfl, hO, ⟨hB.os, hB.tape, hB.output, hB.size, hB.block⟩⟩
def boxS (A : Option Addr) (n c : Nat) : Array Value := #[.slice A n c, .func (.func 71) #[] #[]]
set_option maxRecDepth 100000 in
set_option maxHeartbeats 2000000 in
theorem implFind (b : Nat) (A : Option Addr) (n c : Nat) (l : List En) (ok : Nat → Prop) (e : En) (B : Option Addr) (m d : Nat) (ok' : Nat → Prop) (w : World) (hbx : Row w b 99 (boxS A n c)) (h : Sl EnR 2 ok w A n l) (hn : n ≤ 1048576) (hk : ∀ x ∈ l, x.key.length ≤ 1048576) (hE : Sl VlR 3 ok' w B m e.key) (hm : m ≤ 1048576) :
  Calls Tryz.prog 105 #[.pointer (some ⟨b, 0, none⟩), .agg #[.slice B m d, .int .i64 e.id]] w fun r w' => r = .returned (.tuple #[.int .i64 (bs l e : Nat), .bool (bsHit l e)]) ∧ Below w.heap.size w w' := by
 have hb0 := (Below.refl w.heap.size w).alloc (Nat.le_refl _) (.cells #[.slice B m d, .int .i64 e.id] 44)
 have r0 := Row.new w 44 #[.slice B m d, .int .i64 e.id]
 have hb1 := hbx.below hb0
 have p0 : (w.alloc (.cells #[.slice B m d, .int .i64 e.id] 44)).cell? ⟨b, 0, none⟩ = some (.slice A n c) := hb1.cell 0
 have p1 : (w.alloc (.cells #[.slice B m d, .int .i64 e.id] 44)).cell? ⟨b, 1, none⟩ = some (.func (.func 71) #[] #[]) := hb1.cell 1
 go_enter Tryz.func105, Tryz.ntmps105
 go_wp2_with fail
 have hE' : Sl VlR 3 ok' (w.alloc (.cells #[.slice B m d, .int .i64 e.id] 44)) B m e.key := hE.below VlR.stays hb0
 have h' : Sl EnR 2 ok (w.alloc (.cells #[.slice B m d, .int .i64 e.id] 44)) A n l := h.below EnR.stays hb0
 generalize w.alloc (.cells #[.slice B m d, .int .i64 e.id] 44) = z1 at *
 have HX := Lib.hid (libSearch A n c l ok e B m d ok' z1.drew (h'.stays EnR.stays (fun _ h => h) (fun p v _ h => h)) hn hk (hE'.stays VlR.stays (fun _ h => h) (fun p v _ h => h)) hm)
 obtain ⟨⟨q0, q1⟩, -⟩ := r0.all2
 have HB := Lib.hid hb0
 clear hb0 hb1 hE' h' r0 hbx
 go_region_held3 (fun w' => w'.cell? ⟨b, 0, none⟩ = some (.slice A n c) ∧ w'.cell? ⟨b, 1, none⟩ = some (.func (.func 71) #[] #[]) ∧ w'.cell? ⟨w.heap.size, 0, none⟩ = some (.slice B m d) ∧ w'.cell? ⟨w.heap.size, 1, none⟩ = some (.int .i64 e.id))
  (first | go_keep | exact keepC4 (by assumption) hb1)
  (first | (go_at_call 133; refine HX.out.mono ?_; rintro r1 w1 ⟨rfl, hb1⟩))
 go_wp2_with fail
 go_ret2
 exact ⟨rfl, HB.out.drew.trans (hb1.mono HB.out.size)⟩
theorem OwnE.other {w : World} {base b o : Nat} {T : TypeId} {cs : Array Value} {fr : Nat × Nat} {v : Value} {es : List En} (h : OwnE w base v es) (hb : w.heap[b]? = some (.cells cs T fr)) (h1 : T ≠ 44) (h2 : T ≠ 34) (u : Value) : OwnE (w.setCell ⟨b, o, none⟩ u) base v es := by
 obtain ⟨vs, h⟩ := h
 have hg : w.grownBy (w.setCell ⟨b, o, none⟩ u) (some b) := ⟨rfl, rfl, rfl, by simp [World.setCell], fun k hk hne => Below.heap_setCell w _ u k (fun e => hne (by rw [e]))⟩
 have hne : ∀ {T' : TypeId} {sz : Nat} {v : Value} {n : Nat} {xs : List Value}, T ≠ T' → w.ownsRow base T' sz v n xs → v.ownBlock = none ∨ v.ownBlock ≠ some b := fun {T' sz v n xs} hT hr => by
  rcases hr.2 with ⟨rfl, -⟩ | ⟨g, cap, cur, rfl, k1, k2, -⟩
  ·exact .inl rfl
  ·refine .inr fun e => hT ?_
   simp [Value.ownBlock] at e
   subst e
   rw [hb] at k2
   injection k2 with k2
   injection k2
 exact ⟨vs, h.len, World.ownsRow.kept h.row hg (hne h1 h.row), fun i hi hi' => World.ownsRow.kept (h.key i hi hi') hg (hne h2 (h.key i hi hi')), h.apart⟩
set_option maxRecDepth 100000 in
set_option maxHeartbeats 2000000 in
theorem implDropM (b base : Nat) (A : Option Addr) (c : Nat) (l : List En) (e : En) (B : Option Addr) (m d : Nat) (ok' : Nat → Prop) (w : World) (hbx : Row w b 99 (boxS A l.length c)) (hbb : base ≤ b) (h : OwnE w base (.slice A l.length c) l) (hn : l.length ≤ 1048576) (hk : ∀ x ∈ l, x.key.length ≤ 1048576) (hE : Sl VlR 3 ok' w B m e.key) (hm : m ≤ 1048576) (hbs : bsHit l e = true → bs l e < l.length) :
  Calls Tryz.prog 68 #[.pointer (some ⟨b, 0, none⟩), .agg #[.slice B m d, .int .i64 e.id]] w fun r w' => r = .returned (.bool (bsHit l e)) ∧ (bsHit l e = true → Row w' b 99 (boxS A (l.length - 1) c) ∧ OwnE w' base (.slice A (l.length - 1) c) (l.eraseIdx (bs l e))) ∧ Below base w w' := by
 have hwb := lt_of_block hbx
 have hb0 := (Below.refl w.heap.size w).alloc (Nat.le_refl _) (.cells #[.slice B m d, .int .i64 e.id] 44)
 have r0 := Row.new w 44 #[.slice B m d, .int .i64 e.id]
 have hx0 := hbx.below hb0
 have hO0 := OwnE.below h hb0
 have hE0 := hE.below VlR.stays hb0
 go_enter Tryz.func68, Tryz.ntmps68
 go_wp2_with fail
 generalize w.alloc (.cells #[.slice B m d, .int .i64 e.id] 44) = z1 at *
 obtain ⟨⟨q0, q1⟩, -⟩ := r0.all2
 obtain ⟨A', c', e', -, -, hsl⟩ := hO0.sl
 cases e'
 have HF := Lib.hid (implFind b A l.length c l _ e B m d ok' z1 hx0 hsl hn hk hE0 hm)
 have HB0 := Lib.hid hb0
 have HO0 := Lib.hid hO0
 have HX0 := Lib.hid hx0
 clear hsl hE0 hb0 hO0 hx0 hbx h
 go_wp2_with fail
 refine HF.out.mono ?_
 rintro r w2 ⟨rfl, hb2⟩
 have HB2 := Lib.hid (show Below base w w2 from (HB0.out.mono (by omega)).trans (hb2.mono (by have := HB0.out.size; omega)))
 have HX2 := Lib.hid (HX0.out.below hb2)
 have HO2 := Lib.hid (OwnE.below HO0.out hb2)
 clear HF hb2 q0 q1 r0
 cases hh : bsHit l e
 ·have HQ := Lib.hid hh
  go_wp2_with fail
  go_ret
  refine ⟨?_, ?_, HB2.out⟩
  ·rw [HQ.out]; rfl
  ·intro h
   rw [HQ.out] at h
   cases h
 ·have hlt := hbs hh
  obtain ⟨g, rfl⟩ : ∃ g, A = some ⟨g, 0, none⟩ := by
   obtain ⟨vs, h⟩ := HO2.out
   rcases h.row.2 with ⟨e9, hn9⟩ | ⟨g, cap, cur, e9, -⟩
   ·omega
   ·cases e9; exact ⟨g, rfl⟩
  have p0 : w2.cell? ⟨b, 0, none⟩ = some (.slice (some ⟨g, 0, none⟩) l.length c) := HX2.out.cell 0
  have hw1 : IntKind.i64.wrap ((bs l e : Int) + 1) = (bs l e : Int) + 1 := IntWalk.i64_in _ (by omega)
  have HD := Lib.hid (libDelete g c (bs l e) (bs l e + 1) l base w2 HO2.out hlt rfl hn (jz := (bs l e : Int) + 1) (by omega))
  have HQ := Lib.hid hh
  clear hbs hh
  go_wp2_with fail
  refine HD.out.mono ?_
  rintro r w3 ⟨rfl, hO3, hg3⟩
  have hgg : base ≤ g ∧ b ≠ g := by
   obtain ⟨vs, h⟩ := HO2.out
   obtain ⟨k1, cur, k2⟩ := ownsRow_typed h.row (k := g) rfl
   refine ⟨k1, fun e9 => ?_⟩
   subst e9
   have h9 := HX2.out
   unfold Row at h9
   rw [k2] at h9
   injection h9 with h9
   injection h9 with _ h10
   exact absurd h10 (by decide)
  have hx3 : Row w3 b 99 (boxS (some ⟨g, 0, none⟩) l.length c) := (hg3.block b (lt_of_block HX2.out) (fun e9 => hgg.2 (Option.some.inj e9))).trans HX2.out
  have HX4 := Lib.hid (show Row (w3.setCell ⟨b, 0, none⟩ (.slice (some ⟨g, 0, none⟩) (l.length - 1) c)) b 99 (boxS (some ⟨g, 0, none⟩) (l.length - 1) c) by simpa [boxS] using hx3.set 0 (.slice (some ⟨g, 0, none⟩) (l.length - 1) c))
  have HO4 := Lib.hid (OwnE.other (o := 0) hO3 hx3 (by decide) (by decide) (.slice (some ⟨g, 0, none⟩) (l.length - 1) c))
  have HB4 := Lib.hid (show Below base w (w3.setCell ⟨b, 0, none⟩ (.slice (some ⟨g, 0, none⟩) (l.length - 1) c)) from (HB2.out.grown hg3 (by have := HB2.out.size; omega) (fun k hk => by cases hk; exact hgg.1)).setCell (p := ⟨b, 0, none⟩) hbb _)
  have p3 : w3.cell? ⟨b, 0, none⟩ = some (.slice (some ⟨g, 0, none⟩) l.length c) := hx3.cell 0
  have f3 := hx3.free 0
  clear hO3 hg3 HD hx3 p0
  go_wp2_with fail
  go_ret
  refine ⟨?_, ?_, HB4.out⟩
  ·rw [HQ.out]; rfl
  ·intro _
   exact ⟨HX4.out, HO4.out⟩
theorem entries_rg {l : List En} (h : entriesB l = true) : ∀ x ∈ l, rgE x := fun x hx => entryB_ok ((entriesB_in h).2.1 x hx).1
set_option maxRecDepth 100000 in
set_option maxHeartbeats 2000000 in
theorem implIndexDrop (A : Option Addr) (n c : Nat) (l : List En) (ok : Nat → Prop) (e : En) (B : Option Addr) (m d : Nat) (ok' : Nat → Prop) (w : World) (h : Sl EnR 2 ok w A n l) (hn : n ≤ 1048576) (hk : ∀ x ∈ l, x.key.length ≤ 1048576) (hE : Sl VlR 3 ok' w B m e.key) (hm : m ≤ 1048576) :
  Calls Tryz.prog 22 #[.slice A n c, .agg #[.slice B m d, .int .i64 e.id]] w fun r w' => ∃ v, r = .returned (.tuple #[v, .bool (droppedB l e)]) ∧ OwnE w' w.heap.size v (dropped l e) ∧ Below w.heap.size w w' := by
 obtain rfl : l.length = n := h.1
 have hb0 := (Below.refl w.heap.size w).alloc (Nat.le_refl _) (.cells #[.slice B m d, .int .i64 e.id] 44)
 have r0 := Row.new w 44 #[.slice B m d, .int .i64 e.id]
 have hs0 : (w.alloc (.cells #[.slice B m d, .int .i64 e.id] 44)).heap.size = w.heap.size + 1 := by simp
 go_enter Tryz.func22, Tryz.ntmps22
 go_wp2_with fail
 generalize w.alloc (.cells #[.slice B m d, .int .i64 e.id] 44) = z1 at *
 have HE1 := Lib.hid (implEntriesOk A l.length c l ok z1 (h.below EnR.stays hb0) hn hk)
 have HB0 := Lib.hid hb0
 have HK := Lib.hid hk
 refine HE1.out.mono ?_
 rintro r w1 ⟨rfl, hb1⟩
 have HB1 := Lib.hid (HB0.out.trans (hb1.mono HB0.out.size))
 have HR1 := Lib.hid (r0.below hb1)
 have h1 := h.below EnR.stays HB1.out
 have hE1 := hE.below VlR.stays HB1.out
 have HS1 := Lib.hid (show w.heap.size + 1 ≤ w1.heap.size by have := hb1.size; omega)
 clear HE1 hb0 hb1 r0 hs0 hk
 cases hb : entriesB l
 ·have HF := Lib.hid (show droppedB l e = false by unfold droppedB; rw [hb]; rfl)
  have HD := Lib.hid (show dropped l e = [] by unfold dropped; rw [hb]; simp)
  clear hb
  go_wp2_with fail
  go_ret2
  exact ⟨_, by rw [HF.out]; rfl, by rw [HD.out]; exact OwnE.nil _ _, HB1.out⟩
 ·have HEB := Lib.hid hb
  have hrr := HR1.out
  obtain ⟨⟨q0, q1⟩, -⟩ := hrr.all2
  have HEO := Lib.hid (implEntryOk e B m d ok' w1 hE1 hm)
  clear hb hrr
  go_wp2_with fail
  refine HEO.out.mono ?_
  rintro r w2 ⟨rfl, hb2⟩
  have HB2 := Lib.hid (HB1.out.trans (hb2.mono HB1.out.size))
  have HR2 := Lib.hid (HR1.out.below hb2)
  have h2 := h1.below EnR.stays hb2
  have hE2 := hE1.below VlR.stays hb2
  clear HEO q0 q1 h1 hE1 HR1
  cases hb : entryB e
  ·have HN := Lib.hid (dropE_none HEB.out hb)
   have HF := Lib.hid (show droppedB l e = false by unfold droppedB; rw [HN.out, HEB.out]; simp)
   have HD := Lib.hid (show dropped l e = [] by unfold dropped; rw [HN.out]; simp)
   clear hb
   go_wp2_with fail
   go_ret2
   exact ⟨_, by rw [HF.out]; rfl, by rw [HD.out]; exact OwnE.nil _ _, HB2.out⟩
  ·have HBD := Lib.hid (bs_drop (entriesB_in HEB.out).2.2 (entries_rg HEB.out) (entryB_ok hb))
   have HSC := Lib.hid (implSortedCopy A l.length c l ok w2 h2 (by omega) (fun x hx => by have := HK.out x hx; omega))
   clear hb
   go_wp2_with fail
   refine HSC.out.mono ?_
   rintro r w3 ⟨v3, rfl, hO3, hb3⟩
   obtain ⟨A3, c3, e3, -, -, -⟩ := hO3.sl
   subst e3
   have HB3 := Lib.hid hb3
   have hal := (Below.refl w3.heap.size w3).alloc (Nat.le_refl _) (.cells (boxS A3 l.length c3) 99)
   have rbx := Row.new w3 99 (boxS A3 l.length c3)
   have HO3 := Lib.hid (OwnE.below hO3 hal)
   have HAL := Lib.hid hal
   have HRB := Lib.hid rbx
   have HR3 := Lib.hid ((HR2.out.below hb3).below hal)
   have HE3 := Lib.hid ((hE2.below VlR.stays hb3).below VlR.stays hal)
   have hb3s := hb3.size
   clear hO3 hb3 hal rbx HSC h2 hE2
   have hrr := HR3.out
   obtain ⟨⟨q0, q1⟩, -⟩ := hrr.all2
   have HDM := Lib.hid (implDropM w3.heap.size w2.heap.size A3 c3 l e B m d ok' _ HRB.out hb3s HO3.out hn HK.out HE3.out hm (fun h => (HBD.out.1 h).1))
   clear hrr
   unfold boxS at HO3 HAL HRB HR3 HE3 q0 q1 HDM
   go_wp2_with fail
   generalize w3.alloc (.cells #[.slice A3 l.length c3, .func (.func 71) #[] #[]] 99) = z3 at *
   refine HDM.out.mono ?_
   rintro r w4 ⟨rfl, hres, hb4⟩
   have HB4 := Lib.hid (show Below w.heap.size w w4 from HB2.out.trans (((HB3.out.trans (HAL.out.mono hb3s)).trans hb4).mono HB2.out.size))
   have HRS := Lib.hid hres
   clear HDM hres hb4 q0 q1
   cases hh : bsHit l e
   ·have HN := Lib.hid (HBD.out.2 hh)
    have HF := Lib.hid (show droppedB l e = false by unfold droppedB; rw [HN.out, HEB.out]; simp)
    have HD := Lib.hid (show dropped l e = [] by unfold dropped; rw [HN.out]; simp)
    clear hh
    go_wp2_with fail
    go_ret2
    exact ⟨_, by rw [HF.out]; rfl, by rw [HD.out]; exact OwnE.nil _ _, HB4.out⟩
   ·obtain ⟨hr4, ho4⟩ := HRS.out hh
    obtain ⟨hlt, hde⟩ := HBD.out.1 hh
    have hlen : (dropE l e).length ≠ l.length := by rw [hde, List.length_eraseIdx_of_lt hlt]; omega
    have HF := Lib.hid (show droppedB l e = true by unfold droppedB; rw [HEB.out, decide_eq_false hlen]; rfl)
    have HD := Lib.hid (show dropped l e = l.eraseIdx (bs l e) by unfold dropped; rw [if_pos ⟨HEB.out, hlen⟩, hde])
    have HO4 := Lib.hid (ho4.mono HB2.out.size)
    have p0 : w4.cell? ⟨w3.heap.size, 0, none⟩ = some (.slice A3 (l.length - 1) c3) := hr4.cell 0
    clear hr4 ho4 hh hlen hde hlt
    go_wp2_with fail
    go_ret2
    exact ⟨_, by rw [HF.out]; rfl, by rw [HD.out]; exact HO4.out, HB4.out⟩
end Go.Proofs.YtciaidjmehelpaaGreat
namespace Go.Proofs.YtciaidjmehelpaaGreat
open Go.RowKit
theorem libInsert (base : Nat) (v : Value) (i : Nat) (l : List En) (vb : Nat) (k : Value) (e : En) (vs : List Value) (w : World) (h : OwnE0 w base v l vs) (hb : base ≤ w.heap.size) (hl : l.length ≤ 1048576) (hi : i ≤ l.length) (hv : Row w vb 44 #[k, .int .i64 e.id]) (hvb : v.ownBlock ≠ some vb) (hk : OwnK w base k e.key) (hn : ∀ b ∈ blk k, b ∉ vs.flatMap blk) :
  Calls Tryz.prog 106 #[v, .int .i64 i, .slice (some ⟨vb, 0, none⟩) 1 1] w fun r w' => ∃ v', r = .returned v' ∧ OwnE0 w' base v' (l.take i ++ e :: l.drop i) (vs.take i ++ k :: vs.drop i) ∧ w.grownBy w' v.ownBlock := by
 have hform : ∃ A c, v = .slice A l.length c := by
  rcases Joins.ownsRow_forms h.row with ⟨rfl, h0⟩ | ⟨g, cap, rfl⟩
  ·exact ⟨none, 0, by rw [h0]⟩
  ·exact ⟨_, _, rfl⟩
 rcases Nat.eq_or_lt_of_le hi with rfl | hlt
 ·obtain ⟨A, c, rfl⟩ := hform
  exact libInsertEnd base A c l vb k e vs w h hb hl hv hk hn
 ·rcases h.row.2 with ⟨rfl, h0⟩ | ⟨g, c, cur, rfl, h1, h2, h3, h4, h5, h6⟩
  ·omega
  ·rcases Nat.lt_or_ge c (l.length + 1) with hc | hc
   ·exact libInsertGrow base g c i l vb k e vs w h hb hl hlt hc h3 hv hk hn
   ·exact libInsertShift base g c i l vb k e vs w h hb hl hlt hc h4 hv (fun e9 => hvb (by rw [e9]; rfl)) hk hn
set_option maxRecDepth 100000 in
set_option maxHeartbeats 2000000 in
theorem implPutM (b base : Nat) (A : Option Addr) (c : Nat) (l : List En) (e : En) (B : Option Addr) (m d : Nat) (vs : List Value) (w : World) (hbx : Row w b 99 (boxS A l.length c)) (hbb : base ≤ b) (h : OwnE0 w base (.slice A l.length c) l vs) (hn : l.length ≤ 1048576) (hk : ∀ x ∈ l, x.key.length ≤ 1048576) (hK : OwnK w base (.slice B m d) e.key) (hm : m ≤ 1048576) (hE : Sl VlR 3 (okF base w) w B m e.key) (hnd : ∀ q ∈ blk (.slice B m d), q ∉ vs.flatMap blk) (hbs : bs l e ≤ l.length) :
  Calls Tryz.prog 62 #[.pointer (some ⟨b, 0, none⟩), .agg #[.slice B m d, .int .i64 e.id]] w fun r w' => r = .returned (.bool (!bsHit l e)) ∧ (bsHit l e = false → ∃ A' c', Row w' b 99 (boxS A' (l.length + 1) c') ∧ OwnE w' base (.slice A' (l.length + 1) c') (insL l e)) ∧ Below base w w' := by
 have hwb := lt_of_block hbx
 have hb0 := (Below.refl w.heap.size w).alloc (Nat.le_refl _) (.cells #[.slice B m d, .int .i64 e.id] 44)
 have r0 := Row.new w 44 #[.slice B m d, .int .i64 e.id]
 have hx0 := hbx.below hb0
 have hO0 := OwnE0.below h hb0
 have hK0 := ownsRow_below hK hb0
 have hE0 := hE.below VlR.stays hb0
 go_enter Tryz.func62, Tryz.ntmps62
 go_wp2_with fail
 generalize w.alloc (.cells #[.slice B m d, .int .i64 e.id] 44) = z1 at *
 obtain ⟨⟨q0, q1⟩, -⟩ := r0.all2
 obtain ⟨A', c', e', -, -, hsl⟩ := OwnE.sl ⟨vs, hO0⟩
 cases e'
 have HF := Lib.hid (implFind b A l.length c l _ e B m d _ z1 hx0 hsl hn hk hE0 hm)
 have HB0 := Lib.hid hb0
 have HO0 := Lib.hid hO0
 have HK0 := Lib.hid hK0
 have HX0 := Lib.hid hx0
 clear hsl hE0 hb0 hO0 hx0 hbx h hK hK0
 go_wp2_with fail
 refine HF.out.mono ?_
 rintro r w2 ⟨rfl, hb2⟩
 have HB2 := Lib.hid (show Below base w w2 from (HB0.out.mono (by omega)).trans (hb2.mono (by have := HB0.out.size; omega)))
 have HX2 := Lib.hid (HX0.out.below hb2)
 have HO2 := Lib.hid (OwnE0.below HO0.out hb2)
 have HK2 := Lib.hid (ownsRow_below HK0.out hb2)
 have HR2 := Lib.hid (r0.below hb2)
 clear HF hb2 q0 q1 r0
 cases hh : bsHit l e
 ·have hx2 := HX2.out
  obtain ⟨⟨x0, x1⟩, -⟩ := hx2.all2
  obtain ⟨⟨p0, p1⟩, -⟩ := (HR2.out).all2
  have hbz : b < w2.heap.size := lt_of_block hx2
  have HI := Lib.hid (show Calls Tryz.prog 106 #[.slice A l.length c, .int .i64 (bs l e), .slice (some ⟨w2.heap.size, 0, none⟩) 1 1] ((w2.alloc (.cells #[.slice B m d, .int .i64 e.id] 44)).drew) fun r w' => ∃ A' c', r = .returned (.slice A' (l.length + 1) c') ∧ OwnE w' base (.slice A' (l.length + 1) c') (insL l e) ∧ Row w' b 99 (boxS A l.length c) ∧ Below base w w' by
   have hz := (Below.refl w2.heap.size w2).alloc (Nat.le_refl _) (.cells #[.slice B m d, .int .i64 e.id] 44)
   have hO3 := OwnE0.below HO2.out hz
   have hK3 := ownsRow_below HK2.out hz
   have hr3 := Row.new w2 44 #[.slice B m d, .int .i64 e.id]
   have hX3 := HX2.out.below hz
   have hbw : base ≤ w2.heap.size := by omega
   have hlt : ∀ q, (Value.slice A l.length c).ownBlock = some q → base ≤ q ∧ q < w2.heap.size := World.ownsRow.lt HO2.out.row
   have hne : (Value.slice A l.length c).ownBlock ≠ some b := fun e9 => by
    obtain ⟨-, cur, k2⟩ := ownsRow_typed HO2.out.row e9
    have h9 := HX2.out
    unfold Row at h9
    rw [k2] at h9
    injection h9 with h9
    injection h9 with _ h10
    exact absurd h10 (by decide)
   have hB3 := HB2.out.trans (hz.mono hbw)
   generalize hzz : w2.alloc (.cells #[.slice B m d, .int .i64 e.id] 44) = z at *
   have hzs : z.heap.size = w2.heap.size + 1 := by rw [← hzz]; simp
   refine (libInsert base (.slice A l.length c) (bs l e) l w2.heap.size (.slice B m d) e vs z.drew ⟨hO3.len, hO3.row, hO3.key, hO3.apart⟩ (show base ≤ z.heap.size by omega) hn hbs hr3 (fun e9 => by have := hlt _ e9; omega) hK3 hnd).mono ?_
   rintro r w3 ⟨v', rfl, ho, hg⟩
   have hll : (insL l e).length = l.length + 1 := by unfold insL; exact insAt_len hbs
   obtain ⟨A', c', rfl, -⟩ := OwnE.sl (es := insL l e) ⟨_, ho⟩
   rw [hll]
   refine ⟨A', c', rfl, by rw [← hll]; exact ⟨_, ho⟩, (hg.block b (show b < z.heap.size by omega) (fun e9 => hne e9.symm)).trans hX3, (hB3.grown (w' := w3) ⟨hg.os, hg.tape, hg.output, hg.size, hg.block⟩ (by have := hB3.size; omega) (fun q hq => (hlt q hq).1))⟩)
  clear HO2 HK2 HX2
  have HQ := Lib.hid hh
  clear hh
  go_wp2_with fail
  go_region_with (go_at_call 106; refine HI.out.mono ?_; rintro r w3 ⟨A9, c9, rfl, ho9, hx9, hb9⟩; have p9 : w3.cell? ⟨b, 0, none⟩ = some (.slice A l.length c) := hx9.cell 0; have f9 := hx9.free 0; have HO9 := Lib.hid ho9; have HX9 := Lib.hid hx9; have HB9 := Lib.hid hb9; clear ho9 hx9 hb9)
  all_goals
   go_wp2_with fail
   go_ret
   refine ⟨by rw [HQ.out]; rfl, fun _ => ⟨A9, c9, ?_, OwnE.other (o := 0) HO9.out HX9.out (by decide) (by decide) _⟩, HB9.out.setCell (p := ⟨b, 0, none⟩) hbb _⟩
   simpa [boxS] using HX9.out.set 0 (.slice A9 (l.length + 1) c9)
 ·have HQ := Lib.hid hh
  go_wp2_with fail
  go_ret
  refine ⟨?_, ?_, HB2.out⟩
  ·rw [HQ.out]; rfl
  ·intro h
   rw [HQ.out] at h
   cases h
end Go.Proofs.YtciaidjmehelpaaGreat
namespace Go.Proofs.YtciaidjmehelpaaGreat
open Go.RowKit
attribute [local go_sem] run_store_fnE
def ixOk (s : List Tb) (db : List Dt) (tb : Int) (cols : List Int) : Bool := dbB s db && ((decide (0 ≤ tb) && decide (tb < (s.length : Int))) && (match tabAt s tb with
 | some t => colsInB cols t.cols.length
 | none => false))
def rowsAt (db : List Dt) (tb : Int) : List Rw := ((db[tb.toNat]?).map Dt.rows).getD []
def ixL (s : List Tb) (db : List Dt) (tb : Int) (cols : List Int) : List En := if ixOk s db tb cols = true then ixK cols (rowsAt db tb) (rowsAt db tb).length else []
theorem rowsAt_some {db : List Dt} {m : Nat} (h : m < db.length) : rowsAt db (m : Int) = db[m].rows := by
 unfold rowsAt; rw [Int.toNat_natCast, List.getElem?_eq_getElem h]; rfl
theorem boxK (A : Option Addr) (n c : Nat) : boxS A n c = #[.slice A n c, .func (.func 71) #[] #[]] := rfl
set_option maxRecDepth 100000 in
set_option maxHeartbeats 4000000 in
theorem implIndexOfRows (AS AD AC : Option Addr) (nS cS nD cD nC cC m : Nat) (s : List Tb) (db : List Dt) (cols : List Int) (ok okd okc : Nat → Prop) (w : World)
  (hS : Sl TbR 6 ok w AS nS s) (hD : Sl DtR 1 okd w AD nD db) (hC : Sl IntR 1 okc w AC nC cols) (hsz : szL Tb.sz s ≤ 1048576) (hdz : szL Dt.sz db ≤ 1048576) (hcn : nC ≤ 1048576)
  (hB : dbB s db = true) (hm : m < s.length) (hmd : m < db.length) (hc : colsInB cols s[m].cols.length = true) (hI : IxIn cols db[m].rows s[m].cols.length) :
  Calls Tryz.prog 26 #[.slice AS nS cS, .slice AD nD cD, .int .i64 m, .slice AC nC cC] w fun r w' => ∃ v, r = .returned (.tuple #[v, .bool true]) ∧ OwnE w' w.heap.size v (ixK cols db[m].rows db[m].rows.length) ∧ Below w.heap.size w w' := by
 obtain rfl : s.length = nS := hS.1
 obtain rfl : db.length = nD := hD.1
 obtain rfl : cols.length = nC := hC.1
 have HDB := Lib.hid (implDbOk' AS AD s.length cS db.length cD s db ok okd w hS hD hsz hdz)
 have HB := Lib.hid hB
 have HIN := Lib.hid (show (decide ((0 : Int) ≤ (m : Nat)) && decide (((m : Nat) : Int) < (s.length : Int))) = true by rw [decide_eq_true (by omega : (0 : Int) ≤ (m : Nat)), decide_eq_true (by omega : ((m : Nat) : Int) < (s.length : Int))]; rfl)
 have m0 : (0 : Int) ≤ (m : Nat) := by omega
 have m1 : ((m : Nat) : Int) < s.length := by omega
 have m2 : ((m : Nat) : Int) < db.length := by omega
 have HI := Lib.hid hI
 have hrl : db[m].rows.length ≤ 60 := hI.few
 have HC := Lib.hid hc
 obtain ⟨g, o, A1, n1, c1, A2, n2, c2, A3, n3, c3, A4, n4, c4, A5, n5, c5, -, rfl, -, x1', -, -, -, -, hcols', -⟩ := TbR.at_ hS hm
 obtain ⟨gd, od, AR, nR, cR, -, rfl, d0', hrows', -⟩ := DtR.at_ hD hmd
 obtain rfl : s[m].cols.length = n1 := hcols'.1
 obtain rfl : db[m].rows.length = nR := hrows'.1
 have hcl : s[m].cols.length ≤ 1048576 := by
  have h1 := szL_mem Tb.sz s s[m] (List.getElem_mem hm)
  have h2 : s[m].cols.length ≤ szL Cl.sz s[m].cols := by unfold szL; omega
  have h4 : szL Cl.sz s[m].cols ≤ Tb.sz s[m] := by unfold Tb.sz; omega
  omega
 have HAC := Lib.hid (fun (W : World) (hb : Below w.heap.size w W) => implAreColumns AC cols.length cC cols s[m].cols.length okc W (hC.below IntR.stays hb) hcn hcl)
 have HX := Lib.hid (And.intro x1' (And.intro d0' (And.intro hrows' hC)))
 clear hB hc hI x1' d0' hcols' hrows' hS hD hC
 go_enter Tryz.func26, Tryz.ntmps26
 go_wp2_with fail
 refine HDB.out.mono ?_
 rintro e w1 ⟨rfl, hb1⟩
 rw [HB.out]
 clear HDB
 go_wp2_with fail
 refine (implIsPlace (m : Nat) s.length w1).mono ?_
 rintro e w1' ⟨rfl, rfl⟩
 rw [HIN.out]
 have x1 := below_keep hb1 _ _ HX.out.1
 go_wp2_with fail
 refine (HAC.out w1 hb1).mono ?_
 rintro e w2 ⟨rfl, hb2⟩
 rw [HC.out]
 have hb12 := hb1.trans (hb2.mono hb1.size)
 have d0 := below_keep hb12 _ _ HX.out.2.1
 have hal := (Below.refl w2.heap.size w2).alloc (Nat.le_refl _) (.cells (boxS none 0 0) 99)
 have rbx := Row.new w2 99 (boxS none 0 0)
 have HRB := Lib.hid rbx
 have HBX := Lib.hid (hb12.trans (hal.mono hb12.size))
 have d1 := below_keep hal _ _ d0
 have hs2 : w.heap.size ≤ w2.heap.size := hb12.size
 clear x1 hb1 hb2 hal rbx HAC
 rw [boxK] at HRB HBX d1
 go_wp2_with fail
 generalize w2.alloc (.cells #[.slice none 0 0, .func (.func 71) #[] #[]] 99) = z0 at *
 have HS2 := Lib.hid hs2
 clear hb12 d0 d1 hs2
 go_loopw [44] (fun i wr => ∃ (k : Nat) (A : Option Addr) (c : Nat) (vs : List Value), k ≤ db[m].rows.length ∧ i = .int .i64 k ∧ Hid (Row wr w2.heap.size 99 (boxS A k c)) ∧ Hid (OwnE0 wr w.heap.size (.slice A k c) (ixK cols db[m].rows k) vs) ∧ Below w.heap.size w wr) (fun i _ => db[m].rows.length - (intOf i).toNat)
 case atStart => exact ⟨0, none, 0, [], by omega, rfl, Lib.hid HRB.out, Lib.hid ⟨rfl, World.ownsRow_nil _ _ _ _, fun i h => by simp [ixK] at h, by simp⟩, HBX.out⟩
 case round =>
  obtain ⟨k, A, c, vs, hk, rfl, hbx, hown, hb⟩ := hrel
  by_cases hlt : k < db[m].rows.length
  ·have i0' : (0 : Int) ≤ k := by omega
   have i1' : (k : Int) < db[m].rows.length := by omega
   obtain ⟨gr, oo, AV, nV, cV, -, rfl, r0', r1', hv', -⟩ := RwR.at_ (HX.out.2.2.1.below RwR.stays hb) hlt
   obtain ⟨hP1, hP2⟩ := ix_put HI.out hlt
   obtain ⟨hQ1, hQ2, hQ3⟩ := ix_step HI.out k (by omega)
   have HP := Lib.hid (And.intro hP1 hP2)
   have HQ := Lib.hid (And.intro hQ1 (And.intro hQ2 hQ3))
   have HKO := Lib.hid (show keyOf cols db[m].rows[k].vals = keyL cols db[m].rows[k].vals by
    unfold keyOf keyOk rowB
    have h1 := HI.out.all (List.getElem_mem hlt)
    have h2 := HI.out.row _ (List.getElem_mem hlt)
    have h3 : s[m].cols.length ≤ 8 := (schema_tab (by have := HB.out; unfold dbB at this; simp only [Bool.and_eq_true] at this; exact this.1) hm).2
    rw [h1, decide_eq_true (by omega), List.all_eq_true.2 h2.2.2.2]; rfl)
   have hla := (Below.refl wr.heap.size wr).alloc (Nat.le_refl _) (.cells #[.int .i64 db[m].rows[k].id, .slice AV nV cV] 57)
   have HLA := Lib.hid hla
   have rr := Row.new wr 57 #[.int .i64 db[m].rows[k].id, .slice AV nV cV]
   have HRR := Lib.hid rr
   have hnv : nV ≤ 1048576 := by have h1 := hv'.1; have h2 := (HI.out.row _ (List.getElem_mem hlt)).2.2.1; omega
   have HVV := Lib.hid hv'
   clear hP1 hP2 hQ1 hQ2 hQ3 hla rr hv'
   go_wp2_with fail
   generalize wr.alloc (.cells #[.int .i64 db[m].rows[k].id, .slice AV nV cV] 57) = z1 at *
   have HKY := Lib.hid (implKeyOfO AC AV cols.length cC nV cV cols db[m].rows[k].vals okc _ z1 (HX.out.2.2.2.below IntR.stays (hb.trans (HLA.out.mono hb.size))) (HVV.out.below VlR.stays HLA.out) hcn hnv)
   refine HKY.out.mono ?_
   rintro e w3 ⟨v3, rfl, ho3, hb3⟩
   rw [HKO.out] at ho3
   have ho3' : OwnK w3 z1.heap.size v3 (keyL cols db[m].rows[k].vals) := ho3
   obtain ⟨B3, d3, rfl⟩ := ho3'.shape
   have hz1 : wr.heap.size ≤ z1.heap.size := HLA.out.size
   have hbw : w.heap.size ≤ wr.heap.size := hb.size
   have hz1w : w.heap.size ≤ z1.heap.size := by omega
   have HB3 := Lib.hid (show Below w.heap.size w w3 from (hb.trans (HLA.out.mono hb.size)).trans (hb3.mono hz1w))
   have hE3 : Sl VlR 3 (okF w.heap.size w3) w3 B3 (keyL cols db[m].rows[k].vals).length (keyL cols db[m].rows[k].vals) := by
    obtain ⟨A9, c9, e9, -, -, k9⟩ := OwnG.sl (f := Vl.cells) (sz := 3) (fun _ => rfl) (ho3'.mono hz1w)
    cases e9
    exact k9
   have hrz : Below wr.heap.size wr w3 := HLA.out.trans (hb3.mono hz1)
   have hO3 := OwnE0.below hown.out hrz
   have hX3 := hbx.out.below hrz
   have hkl : (keyL cols db[m].rows[k].vals).length ≤ 1048576 := by rw [keyL_len]; exact hcn
   have hql := HQ.out.2.1
   have HPM := Lib.hid (implPutM w2.heap.size w.heap.size A c (ixK cols db[m].rows k) (entOf cols db[m].rows[k]) B3 (keyL cols db[m].rows[k].vals).length d3 vs w3 (by rw [hql]; exact hX3) HS2.out (by rw [hql]; exact hO3) (by have := HI.out.few; omega) (fun x hx => by rw [(HQ.out.2.2 x hx).1]; exact hcn) (ho3'.mono hz1w) hkl hE3 (hown.out.fresh ho3' hz1) (bs_le _ _))
   have hR3 := HRR.out.below hb3
   obtain ⟨⟨q0, q1⟩, -⟩ := hR3.all2
   clear HKY ho3 ho3' hb3 hE3 hrz hO3 hX3 hR3
   go_wp2_with fail
   refine HPM.out.mono ?_
   rintro e w4 ⟨rfl, hres, hb4⟩
   obtain ⟨A4, c4, hr4, ho4⟩ := hres HP.out.1
   rw [hql] at hr4 ho4
   rw [← HP.out.2] at ho4
   obtain ⟨vs4, ho4⟩ := ho4
   have HO4 := Lib.hid ho4
   have HR4 := Lib.hid hr4
   have HB4 := Lib.hid (HB3.out.trans (hb4.mono (Nat.le_refl _)))
   clear HPM hres hb4 hr4 ho4 q0 q1
   go_wp2_with fail
   go_roundw
   case rel => exact ⟨k + 1, A4, c4, vs4, by omega, by go_num, HR4, HO4, HB4.out⟩
   case measure => simp [intOf]; omega
  ·obtain rfl : k = db[m].rows.length := by omega
   have c0 := hbx.out.cell 0
   rw [boxK] at c0
   simp only [List.getElem?_toArray, List.getElem?_cons_zero] at c0
   go_wp2_with fail
   go_ret2
   exact ⟨_, rfl, ⟨vs, hown.out⟩, hb⟩
end Go.Proofs.YtciaidjmehelpaaGreat
namespace Go.Proofs.YtciaidjmehelpaaGreat
open Go.RowKit
theorem entC_take (vs : List Value) (l : List En) (h : vs.length = l.length) (i : Nat) (hi : i ≤ l.length) : ((entC vs l).take (i * 2)).length = i * 2 ∧ ((entC vs l).drop (i * 2)).length = (l.length - i) * 2 := by
 have := entC_len vs l h
 rw [List.length_take, List.length_drop]; omega
theorem lit_row (w : World) : (w.alloc (.cells #[] 44)).ownsRow w.heap.size 44 2 (.slice (some ⟨w.heap.size, 0, none⟩) 0 0) 0 [] :=
 ⟨by simp, .inr ⟨w.heap.size, 0, #[], rfl, Nat.le_refl _, Go.heap_alloc_last w _, Nat.le_refl _, by simp [maxLen], by simp, by simp⟩⟩
theorem cellsE {w : World} {base g c : Nat} {l : List En} {vs : List Value} (h : OwnE0 w base (.slice (some ⟨g, 0, none⟩) l.length c) l vs) : ∀ j u, (entC vs l)[j]? = some u → w.cell? ⟨g, j, none⟩ = some u := fun j u hj => by
 have hlt := (List.getElem?_eq_some_iff.1 hj).1
 have hcl := entC_len vs l h.len
 rw [World.ownsRow.cellAt h.row j (by omega)]
 exact hj
theorem OwnE0.ones {w : World} {base : Nat} {v : Value} {l : List En} {vs : List Value} (h : OwnE0 w base v l vs) : ∀ u ∈ entC vs l, u.oneCell' = true := entC_one vs l h.len (fun v hv9 => by
 obtain ⟨t, ht, rfl⟩ := List.mem_iff_getElem.1 hv9
 exact OwnK.one (h.key t (by rw [← h.len]; exact ht) ht))
theorem capE {w : World} {base c : Nat} {A : Option Addr} {l : List En} {vs : List Value} (h : OwnE0 w base (.slice A l.length c) l vs) : l.length ≤ c := by
 rcases h.row.2 with ⟨e9, h0⟩ | ⟨g, cap, cur, e9, h1, h2, h3, -⟩
 ·omega
 ·injection e9 with e1 e2 e3
  omega
set_option maxRecDepth 100000 in
set_option maxHeartbeats 2000000 in
theorem specL11Put (base : Nat) (v : Value) (l : List En) (e : En) (B : Option Addr) (m d : Nat) (vs : List Value) (w : World) (h : OwnE0 w base v l vs) (hb : base ≤ w.heap.size) (hn : l.length ≤ 1048576) (hk : ∀ x ∈ l, x.key.length ≤ 1048576) (hK : OwnK w base (.slice B m d) e.key) (hm : m ≤ 1048576) (hnd : ∀ q ∈ blk (.slice B m d), q ∉ vs.flatMap blk) :
  Calls Tryz.prog 64 #[v, .agg #[.slice B m d, .int .i64 e.id]] w fun r w' => ∃ v', r = .returned v' ∧ OwnE w' base v' (putL l e) ∧ Below w.heap.size w w' := by
 obtain ⟨i0, hi, hz0, hz1, hz2⟩ := info_parts infoEntC
 have H1 := Lib.hid hi
 have H2 := Lib.hid hz0
 have H3 := Lib.hid hz1
 have H4 := Lib.hid hz2
 clear hi hz0 hz1 hz2
 have hb0 := (Below.refl w.heap.size w).alloc (Nat.le_refl _) (.cells #[.slice B m d, .int .i64 e.id] 44)
 have r0 := Row.new w 44 #[.slice B m d, .int .i64 e.id]
 have hO0 := OwnE0.below h hb0
 have hK0 : OwnK _ base (.slice B m d) e.key := OwnG.below hK hb0
 obtain ⟨A, c, rfl, -, -, hsl⟩ := OwnE.sl ⟨vs, hO0⟩
 obtain ⟨B', d', e9, -, -, hE0⟩ := OwnG.sl (f := Vl.cells) (sz := 3) (fun _ => rfl) hK0
 cases e9
 have HK := Lib.hid hk
 have HAP := Lib.hid (atP_le l e)
 clear hk h hK
 go_enter Tryz.func64, Tryz.ntmps64
 go_wp2_with fail
 generalize w.alloc (.cells #[.slice B e.key.length d, .int .i64 e.id] 44) = z at *
 have HB0 := Lib.hid hb0
 have HO0 := Lib.hid hO0
 have HK0 := Lib.hid hK0
 have HR0 := Lib.hid r0
 have HZ := Lib.hid (show w.heap.size < z.heap.size from lt_of_block r0)
 clear hb0 hO0 hK0 r0
 go_loopw [5] (fun i wr => ∃ k : Nat, k ≤ atP l e ∧ i = .int .i64 k ∧ Hid (Below z.heap.size z wr)) (fun i _ => l.length - (intOf i).toNat)
 case atStart => exact ⟨0, by omega, rfl, Lib.hid (Below.refl _ _)⟩
 case round =>
  obtain ⟨k, hk, rfl, hB⟩ := hrel
  have hap := HAP.out
  by_cases hlt : k < l.length
  ·obtain ⟨b, off, A1, n1, c1, -, rfl, q0', q1', hky', hc1⟩ := EnR.at_ hsl hlt
   have q0 := below_keep hB.out _ _ q0'
   have q1 := below_keep hB.out _ _ q1'
   have hky := hky'.below VlR.stays hB.out
   obtain ⟨⟨p0, p1⟩, -⟩ := (HR0.out.below hB.out).all2
   have i0' : (0 : Int) ≤ k := by omega
   have i1 : (k : Int) < l.length := by omega
   have HKL := Lib.hid (HK.out l[k] (List.getElem_mem hlt))
   have HLT := Lib.hid (fun hs : lessE l[k] e = true => show k < atP l e from by
    rcases Nat.lt_or_ge k (atP l e) with h9 | h9
    ·exact h9
    ·obtain rfl : k = atP l e := by omega
     rw [atP_here l e hlt] at hs
     cases hs)
   have HGE := Lib.hid (fun hs : lessE l[k] e = false => show k = atP l e from by
    rcases Nat.lt_or_ge k (atP l e) with h9 | h9
    ·rw [atP_low l e k hlt h9] at hs
     cases hs
    ·omega)
   generalize hek : l[k] = x at q0' q1' q1 hky' hky HKL HLT HGE
   have hkd : Sl VlR 3 _ wr.drew A1 n1 x.key := hky.stays VlR.stays (fun _ h => h) (fun p v _ h => h)
   have hed : Sl VlR 3 _ wr.drew B e.key.length e.key := (hE0.below VlR.stays hB.out).stays VlR.stays (fun _ h => h) (fun p v _ h => h)
   have hn1 : n1 ≤ 1048576 := by have := hky.1; have := HKL.out; omega
   clear q0' q1' hky' hky hek
   cases hsm : lessE x e
   ·have HT := Lib.hid (HGE.out hsm)
    clear HLT HGE
    go_wp2_with fail
    go_region_held3 (fun w' => w'.cell? ⟨b, off + k * 2, none⟩ = some (.slice A1 n1 c1) ∧ w'.cell? ⟨b, off + k * 2 + 1, none⟩ = some (.int .i64 x.id) ∧ w'.cell? ⟨w.heap.size, 0, none⟩ = some (.slice B e.key.length d) ∧ w'.cell? ⟨w.heap.size, 1, none⟩ = some (.int .i64 e.id))
     (first | go_keep | exact keepC4 (by assumption) hb1)
     (first | (go_at_call 99; refine (specL11Less x e A1 B n1 c1 e.key.length d _ _ _ hkd hed hn1 hm).mono ?_; rintro r1 w1 ⟨rfl, hb1⟩; rw [hsm]))
    have hB9 := hB.out.drew.trans (hb1.mono hB.out.size)
    obtain ⟨g, e9⟩ : ∃ g, some (⟨b, off, none⟩ : Addr) = some ⟨g, 0, none⟩ := by
     rcases Joins.ownsRow_forms HO0.out.row with ⟨e9, -⟩ | ⟨g, cap, e9⟩
     ·cases e9
     ·injection e9 with e9; exact ⟨g, e9⟩
    cases e9
    generalize w1 = W at *
    clear hB hb1
    have HBW := Lib.hid (hB9)
    have HOW := Lib.hid (OwnE0.below HO0.out HBW.out)
    have HKW := Lib.hid (show OwnK W base (.slice B e.key.length d) e.key from OwnG.below HK0.out HBW.out)
    have HRW := Lib.hid (HR0.out.below HBW.out)
    have hle : k ≤ l.length := by omega
    have HLIT := Lib.hid (lit_row W)
    have HAL := Lib.hid ((Below.refl W.heap.size W).alloc (Nat.le_refl _) (.cells #[] 44))
    obtain ⟨hl1, hl2⟩ := entC_take vs l HOW.out.len k hle
    have HCL := Lib.hid (fun (W' : World) (hb' : Below W.heap.size W W') => cellsE (OwnE0.below HOW.out hb'))
    have HONE := Lib.hid (OwnE0.ones HOW.out)
    have HWB := Lib.hid (show base ≤ W.heap.size by have h1 := HBW.out.size; have h2 := HZ.out; omega)
    have hcap : l.length ≤ c := capE HOW.out
    have hck : ¬ (c = k) := by omega
    have hk0 : (0 : Int) ≤ (k : Nat) := by omega
    have hk1 : ((k : Nat) : Int) ≤ c := by omega
    have hk2 : ((k : Nat) : Int) ≤ l.length := by omega
    go_wp2_with (at_builtin; refine wpList_append_own _ rfl _ _ 37 rfl W.heap.size 44 i0 (.agg #[.slice none 0 0, .int .i64 0]) 2 32 Tryz.underlying37 H1.out H2.out H3.out H4.out rfl (by decide) _ _ _ rfl HLIT.out ⟨b, 0, none⟩ k c ((entC vs l).take (k * 2)) rfl hl1 ?c1 ?c2 ?c3 ?c4 ?c5 ?_)
    (try case c1 => (intro j u hj; (try rw [addr_add, Nat.zero_add]); rw [List.getElem?_take] at hj; split at hj; exact HCL.out _ HAL.out _ _ hj; cases hj))
    (try case c2 => (intro u hu; exact HONE.out u (List.mem_of_mem_take hu)))
    (try case c3 => (unfold maxLen; omega))
    (try case c4 => (omega))
    (try case c5 => (simp))
    intro v9 w9 hown9 hgrow9 _
    have HB9 := Lib.hid (show Below W.heap.size W w9 from HAL.out.grown hgrow9 (by simp) (fun q hq => by cases hq; exact Nat.le_refl _))
    obtain ⟨X1, hX1⟩ : ∃ X1, X1 = (entC vs l).take (k * 2) := ⟨_, rfl⟩
    rw [← hX1] at hown9
    have HX1 := Lib.hid hX1
    have HW9 := Lib.hid hown9
    have hr9 := HRW.out.below HB9.out
    obtain ⟨⟨p0, p1⟩, -⟩ := hr9.all2
    clear hX1 hown9 hgrow9 hr9 hl1
    go_wp2_with (at_builtin; refine wpList_append_own _ rfl _ _ 37 rfl W.heap.size 44 i0 (.agg #[.slice none 0 0, .int .i64 0]) 2 32 Tryz.underlying37 H1.out H2.out H3.out H4.out rfl (by decide) _ _ _ rfl (World.ownsRow.alloc HW9.out _) ⟨_, 0, none⟩ 1 1 [.slice B e.key.length d, .int .i64 e.id] rfl rfl ?d1 ?d2 ?d3 ?d4 ?d5 ?_)
    (try case d1 => (exact cells_newAt _ [.slice B e.key.length d, .int .i64 e.id] _ (by simp)))
    (try case d2 => (intro u hu; simp at hu; rcases hu with rfl | rfl <;> rfl))
    (try case d3 => (unfold maxLen; omega))
    (try case d4 => (omega))
    (try case d5 => (have := HB9.out.size; simp; omega))
    intro v10 w10 hown10 hgrow10 _
    have HB10 := Lib.hid (show Below W.heap.size W w10 from (HB9.out.alloc HB9.out.size _).grown hgrow10 (by have := HB9.out.size; simp; omega) (fun q hq => (World.ownsRow.lt HW9.out q hq).1))
    obtain ⟨X2, hX2⟩ : ∃ X2, X2 = X1 ++ [.slice B e.key.length d, .int .i64 e.id] := ⟨_, rfl⟩
    rw [← hX2] at hown10
    have HX2 := Lib.hid hX2
    have HW10 := Lib.hid hown10
    clear hX2 hown10 hgrow10 p0 p1
    go_wp2_with (at_builtin; refine wpList_append_own _ rfl _ _ 37 rfl W.heap.size 44 i0 (.agg #[.slice none 0 0, .int .i64 0]) 2 32 Tryz.underlying37 H1.out H2.out H3.out H4.out rfl (by decide) _ _ _ rfl HW10.out ⟨b, k * 2, none⟩ (l.length - k) (c - k) ((entC vs l).drop (k * 2)) rfl hl2 ?f1 ?f2 ?f3 ?f4 ?f5 ?_)
    (try case f1 => (intro j u hj; (try rw [addr_add]); rw [List.getElem?_drop] at hj; exact HCL.out _ HB10.out _ _ hj))
    (try case f2 => (intro u hu; exact HONE.out u (List.mem_of_mem_drop hu)))
    (try case f3 => (unfold maxLen; omega))
    (try case f4 => (omega))
    (try case f5 => (exact HB10.out.size))
    intro v11 w11 hown11 hgrow11 _
    have HB11 := Lib.hid (show Below W.heap.size W w11 from HB10.out.grown hgrow11 HB10.out.size (fun q hq => (World.ownsRow.lt HW10.out q hq).1))
    rw [show k + 1 + (l.length - k) = l.length + 1 by omega, HX2.out, HX1.out] at hown11
    have HE := Lib.hid (show OwnE w11 base v11 (putL l e) by
     unfold putL insAt
     rw [← HT.out]
     exact ⟨_, OwnE0.ins HOW.out hle HKW.out hnd (Joins.ownsRow_le hown11 HWB.out) ⟨HB11.out.os, HB11.out.tape, HB11.out.output, HB11.out.size, fun q hq _ => HB11.out.block q hq⟩⟩)
    have HBF := Lib.hid (show Below w.heap.size w w11 from (HB0.out.trans (HBW.out.mono (Nat.le_of_lt HZ.out))).trans (HB11.out.mono (by have h1 := HBW.out.size; have h2 := HZ.out; omega)))
    clear hown11 hgrow11
    go_wp2_with fail
    go_ret
    exact ⟨v11, rfl, HE.out, HBF.out⟩
   ·have HT := Lib.hid (HLT.out hsm)
    clear HLT HGE
    go_wp2_with fail
    go_region_held3 (fun w' => w'.cell? ⟨b, off + k * 2, none⟩ = some (.slice A1 n1 c1) ∧ w'.cell? ⟨b, off + k * 2 + 1, none⟩ = some (.int .i64 x.id) ∧ w'.cell? ⟨w.heap.size, 0, none⟩ = some (.slice B e.key.length d) ∧ w'.cell? ⟨w.heap.size, 1, none⟩ = some (.int .i64 e.id))
     (first | go_keep | exact keepC4 (by assumption) hb1)
     (first | (go_at_call 99; refine (specL11Less x e A1 B n1 c1 e.key.length d _ _ _ hkd hed hn1 hm).mono ?_; rintro r1 w1 ⟨rfl, hb1⟩; rw [hsm]))
    have HB := Lib.hid (show Below z.heap.size z w1 from hB.out.drew.trans (hb1.mono hB.out.size))
    clear hB hb1
    go_wp2_with fail
    go_roundw
    case rel => exact ⟨k + 1, by have := HT.out; omega, by go_num, HB⟩
    case measure => simp [intOf]; omega
  ·have HT := Lib.hid (show k = atP l e by omega)
   have HKL := Lib.hid (show k = l.length by omega)
   have i1 : ¬ ((k : Int) < l.length) := by omega
   go_wp2_with fail
   go_quiet (fail)
   have hB9 := below_drewN hB.out nq
   generalize wr.drewN nq = W at *
   clear hB
   rcases Joins.ownsRow_forms HO0.out.row with ⟨e9, h0⟩ | ⟨g, cap, e9⟩
   ·injection e9 with e1 e2 e3
    subst e1 e3
    obtain rfl : l = [] := List.eq_nil_of_length_eq_zero h0
    obtain rfl : k = 0 := HKL.out
    have HBW := Lib.hid (hB9)
    have HOW := Lib.hid (OwnE0.below HO0.out HBW.out)
    have HKW := Lib.hid (show OwnK W base (.slice B e.key.length d) e.key from OwnG.below HK0.out HBW.out)
    have HRW := Lib.hid (HR0.out.below HBW.out)
    have HLIT := Lib.hid (lit_row W)
    have hal := (Below.refl W.heap.size W).alloc (Nat.le_refl _) (.cells #[] 44)
    have HAL := Lib.hid hal
    have HWB := Lib.hid (show base ≤ W.heap.size by have h1 := HBW.out.size; have h2 := HZ.out; omega)
    have hr9 := HRW.out.below hal
    obtain ⟨⟨p0, p1⟩, -⟩ := hr9.all2
    clear hal hr9
    go_wp2_with (first | (at_builtin; refine wpList_append_own_none rfl _ _ 37 rfl W.heap.size 44 i0 2 Tryz.underlying37 H1.out _ _ _ rfl HLIT.out rfl ?_) | (at_builtin; refine wpList_append_own _ rfl _ _ 37 rfl W.heap.size 44 i0 (.agg #[.slice none 0 0, .int .i64 0]) 2 32 Tryz.underlying37 H1.out H2.out H3.out H4.out rfl (by decide) _ _ _ rfl (World.ownsRow.alloc HLIT.out _) ⟨_, 0, none⟩ 1 1 [.slice B e.key.length d, .int .i64 e.id] rfl rfl ?d1 ?d2 ?d3 ?d4 ?d5 ?_))
    (try case d1 => (exact cells_newAt _ [.slice B e.key.length d, .int .i64 e.id] _ (by simp)))
    (try case d2 => (intro u hu; simp at hu; rcases hu with rfl | rfl <;> rfl))
    (try case d3 => (unfold maxLen; omega))
    (try case d4 => (omega))
    (try case d5 => (simp; omega))
    intro v10 w10 hown10 hgrow10 _
    have HB10 := Lib.hid (show Below W.heap.size W w10 from (HAL.out.alloc HAL.out.size _).grown hgrow10 (by simp; omega) (fun q hq => (World.ownsRow.lt HLIT.out q hq).1))
    have HW10 := Lib.hid hown10
    clear hown10 hgrow10 p0 p1
    go_wp2_with (at_builtin; refine wpList_append_own_none rfl _ _ 37 rfl W.heap.size 44 i0 2 Tryz.underlying37 H1.out _ _ _ rfl HW10.out rfl ?_)
    go_ret
    refine ⟨v10, rfl, ?_, (HB0.out.trans (HBW.out.mono (Nat.le_of_lt HZ.out))).trans (HB10.out.mono (by have h1 := HBW.out.size; have h2 := HZ.out; omega))⟩
    exact ⟨_, OwnE0.ins (i := 0) HOW.out (Nat.le_refl _) HKW.out hnd (by simpa [entC] using Joins.ownsRow_le HW10.out HWB.out) ⟨HB10.out.os, HB10.out.tape, HB10.out.output, HB10.out.size, fun q hq _ => HB10.out.block q hq⟩⟩
   ·injection e9 with e1 e2 e3
    subst e1 e3
    by_cases hck : c = k
    ·subst hck
     have HBW := Lib.hid (hB9)
     have HOW := Lib.hid (OwnE0.below HO0.out HBW.out)
     have HKW := Lib.hid (show OwnK W base (.slice B e.key.length d) e.key from OwnG.below HK0.out HBW.out)
     have HRW := Lib.hid (HR0.out.below HBW.out)
     have hle : c ≤ l.length := by omega
     have HLIT := Lib.hid (lit_row W)
     have HAL := Lib.hid ((Below.refl W.heap.size W).alloc (Nat.le_refl _) (.cells #[] 44))
     obtain ⟨hl1, hl2⟩ := entC_take vs l HOW.out.len c hle
     have HCL := Lib.hid (fun (W' : World) (hb' : Below W.heap.size W W') => cellsE (OwnE0.below HOW.out hb'))
     have HONE := Lib.hid (OwnE0.ones HOW.out)
     have HWB := Lib.hid (show base ≤ W.heap.size by have h1 := HBW.out.size; have h2 := HZ.out; omega)
     have hcap : l.length ≤ c := capE HOW.out
     have hk0 : (0 : Int) ≤ (c : Nat) := by omega
     have hk1 : ((c : Nat) : Int) ≤ c := by omega
     have hk2 : ((c : Nat) : Int) ≤ l.length := by omega
     go_wp2_with (at_builtin; refine wpList_append_own _ rfl _ _ 37 rfl W.heap.size 44 i0 (.agg #[.slice none 0 0, .int .i64 0]) 2 32 Tryz.underlying37 H1.out H2.out H3.out H4.out rfl (by decide) _ _ _ rfl HLIT.out ⟨g, 0, none⟩ c c ((entC vs l).take (c * 2)) rfl hl1 ?c1 ?c2 ?c3 ?c4 ?c5 ?_)
     (try case c1 => (intro j u hj; (try rw [addr_add, Nat.zero_add]); rw [List.getElem?_take] at hj; split at hj; exact HCL.out _ HAL.out _ _ hj; cases hj))
     (try case c2 => (intro u hu; exact HONE.out u (List.mem_of_mem_take hu)))
     (try case c3 => (unfold maxLen; omega))
     (try case c4 => (omega))
     (try case c5 => (simp))
     intro v9 w9 hown9 hgrow9 _
     have HB9 := Lib.hid (show Below W.heap.size W w9 from HAL.out.grown hgrow9 (by simp) (fun q hq => by cases hq; exact Nat.le_refl _))
     obtain ⟨X1, hX1⟩ : ∃ X1, X1 = (entC vs l).take (c * 2) := ⟨_, rfl⟩
     rw [← hX1] at hown9
     have HX1 := Lib.hid hX1
     have HW9 := Lib.hid hown9
     have hr9 := HRW.out.below HB9.out
     obtain ⟨⟨p0, p1⟩, -⟩ := hr9.all2
     clear hX1 hown9 hgrow9 hr9 hl1
     go_wp2_with (at_builtin; refine wpList_append_own _ rfl _ _ 37 rfl W.heap.size 44 i0 (.agg #[.slice none 0 0, .int .i64 0]) 2 32 Tryz.underlying37 H1.out H2.out H3.out H4.out rfl (by decide) _ _ _ rfl (World.ownsRow.alloc HW9.out _) ⟨_, 0, none⟩ 1 1 [.slice B e.key.length d, .int .i64 e.id] rfl rfl ?d1 ?d2 ?d3 ?d4 ?d5 ?_)
     (try case d1 => (exact cells_newAt _ [.slice B e.key.length d, .int .i64 e.id] _ (by simp)))
     (try case d2 => (intro u hu; simp at hu; rcases hu with rfl | rfl <;> rfl))
     (try case d3 => (unfold maxLen; omega))
     (try case d4 => (omega))
     (try case d5 => (have := HB9.out.size; simp; omega))
     intro v10 w10 hown10 hgrow10 _
     have HB10 := Lib.hid (show Below W.heap.size W w10 from (HB9.out.alloc HB9.out.size _).grown hgrow10 (by have := HB9.out.size; simp; omega) (fun q hq => (World.ownsRow.lt HW9.out q hq).1))
     obtain ⟨X2, hX2⟩ : ∃ X2, X2 = X1 ++ [.slice B e.key.length d, .int .i64 e.id] := ⟨_, rfl⟩
     rw [← hX2] at hown10
     have HX2 := Lib.hid hX2
     have HW10 := Lib.hid hown10
     clear hX2 hown10 hgrow10 p0 p1
     go_wp2_with (at_builtin; refine wpList_append_own _ rfl _ _ 37 rfl W.heap.size 44 i0 (.agg #[.slice none 0 0, .int .i64 0]) 2 32 Tryz.underlying37 H1.out H2.out H3.out H4.out rfl (by decide) _ _ _ rfl HW10.out ⟨g, 0, none⟩ 0 0 [] rfl rfl ?f1 ?f2 ?f3 ?f4 ?f5 ?_)
     (try case f1 => (intro j u hj; simp at hj))
     (try case f2 => (intro u hu; simp at hu))
     (try case f3 => (unfold maxLen; omega))
     (try case f4 => (omega))
     (try case f5 => (exact HB10.out.size))
     intro v11 w11 hown11 hgrow11 _
     have HB11 := Lib.hid (show Below W.heap.size W w11 from HB10.out.grown hgrow11 HB10.out.size (fun q hq => (World.ownsRow.lt HW10.out q hq).1))
     have hdz : (entC vs l).drop (c * 2) = [] := List.drop_of_length_le (by have h9 := entC_len vs l HOW.out.len; have h8 := HKL.out; omega)
     replace hown11 : w11.ownsRow W.heap.size 44 2 v11 (l.length + 1) ((entC vs l).take (c * 2) ++ [.slice B e.key.length d, .int .i64 e.id] ++ (entC vs l).drop (c * 2)) := by
      rw [hdz, List.append_nil, ← HX1.out, ← HX2.out, ← HKL.out]
      simpa using hown11
     have HE := Lib.hid (show OwnE w11 base v11 (putL l e) by
      unfold putL insAt
      rw [← HT.out]
      exact ⟨_, OwnE0.ins HOW.out hle HKW.out hnd (Joins.ownsRow_le hown11 HWB.out) ⟨HB11.out.os, HB11.out.tape, HB11.out.output, HB11.out.size, fun q hq _ => HB11.out.block q hq⟩⟩)
     have HBF := Lib.hid (show Below w.heap.size w w11 from (HB0.out.trans (HBW.out.mono (Nat.le_of_lt HZ.out))).trans (HB11.out.mono (by have h1 := HBW.out.size; have h2 := HZ.out; omega)))
     clear hown11 hgrow11
     go_wp2_with fail
     go_ret
     exact ⟨v11, rfl, HE.out, HBF.out⟩
    ·have hcx : c = c := rfl
     have HBW := Lib.hid (hB9)
     have HOW := Lib.hid (OwnE0.below HO0.out HBW.out)
     have HKW := Lib.hid (show OwnK W base (.slice B e.key.length d) e.key from OwnG.below HK0.out HBW.out)
     have HRW := Lib.hid (HR0.out.below HBW.out)
     have hle : k ≤ l.length := by omega
     have HLIT := Lib.hid (lit_row W)
     have HAL := Lib.hid ((Below.refl W.heap.size W).alloc (Nat.le_refl _) (.cells #[] 44))
     obtain ⟨hl1, hl2⟩ := entC_take vs l HOW.out.len k hle
     have HCL := Lib.hid (fun (W' : World) (hb' : Below W.heap.size W W') => cellsE (OwnE0.below HOW.out hb'))
     have HONE := Lib.hid (OwnE0.ones HOW.out)
     have HWB := Lib.hid (show base ≤ W.heap.size by have h1 := HBW.out.size; have h2 := HZ.out; omega)
     have hcap : l.length ≤ c := capE HOW.out
     have hk0 : (0 : Int) ≤ (k : Nat) := by omega
     have hk1 : ((k : Nat) : Int) ≤ c := by omega
     have hk2 : ((k : Nat) : Int) ≤ l.length := by omega
     go_wp2_with (at_builtin; refine wpList_append_own _ rfl _ _ 37 rfl W.heap.size 44 i0 (.agg #[.slice none 0 0, .int .i64 0]) 2 32 Tryz.underlying37 H1.out H2.out H3.out H4.out rfl (by decide) _ _ _ rfl HLIT.out ⟨g, 0, none⟩ k c ((entC vs l).take (k * 2)) rfl hl1 ?c1 ?c2 ?c3 ?c4 ?c5 ?_)
     (try case c1 => (intro j u hj; (try rw [addr_add, Nat.zero_add]); rw [List.getElem?_take] at hj; split at hj; exact HCL.out _ HAL.out _ _ hj; cases hj))
     (try case c2 => (intro u hu; exact HONE.out u (List.mem_of_mem_take hu)))
     (try case c3 => (unfold maxLen; omega))
     (try case c4 => (omega))
     (try case c5 => (simp))
     intro v9 w9 hown9 hgrow9 _
     have HB9 := Lib.hid (show Below W.heap.size W w9 from HAL.out.grown hgrow9 (by simp) (fun q hq => by cases hq; exact Nat.le_refl _))
     obtain ⟨X1, hX1⟩ : ∃ X1, X1 = (entC vs l).take (k * 2) := ⟨_, rfl⟩
     rw [← hX1] at hown9
     have HX1 := Lib.hid hX1
     have HW9 := Lib.hid hown9
     have hr9 := HRW.out.below HB9.out
     obtain ⟨⟨p0, p1⟩, -⟩ := hr9.all2
     clear hX1 hown9 hgrow9 hr9 hl1
     go_wp2_with (at_builtin; refine wpList_append_own _ rfl _ _ 37 rfl W.heap.size 44 i0 (.agg #[.slice none 0 0, .int .i64 0]) 2 32 Tryz.underlying37 H1.out H2.out H3.out H4.out rfl (by decide) _ _ _ rfl (World.ownsRow.alloc HW9.out _) ⟨_, 0, none⟩ 1 1 [.slice B e.key.length d, .int .i64 e.id] rfl rfl ?d1 ?d2 ?d3 ?d4 ?d5 ?_)
     (try case d1 => (exact cells_newAt _ [.slice B e.key.length d, .int .i64 e.id] _ (by simp)))
     (try case d2 => (intro u hu; simp at hu; rcases hu with rfl | rfl <;> rfl))
     (try case d3 => (unfold maxLen; omega))
     (try case d4 => (omega))
     (try case d5 => (have := HB9.out.size; simp; omega))
     intro v10 w10 hown10 hgrow10 _
     have HB10 := Lib.hid (show Below W.heap.size W w10 from (HB9.out.alloc HB9.out.size _).grown hgrow10 (by have := HB9.out.size; simp; omega) (fun q hq => (World.ownsRow.lt HW9.out q hq).1))
     obtain ⟨X2, hX2⟩ : ∃ X2, X2 = X1 ++ [.slice B e.key.length d, .int .i64 e.id] := ⟨_, rfl⟩
     rw [← hX2] at hown10
     have HX2 := Lib.hid hX2
     have HW10 := Lib.hid hown10
     clear hX2 hown10 hgrow10 p0 p1
     go_wp2_with (at_builtin; refine wpList_append_own _ rfl _ _ 37 rfl W.heap.size 44 i0 (.agg #[.slice none 0 0, .int .i64 0]) 2 32 Tryz.underlying37 H1.out H2.out H3.out H4.out rfl (by decide) _ _ _ rfl HW10.out ⟨g, k * 2, none⟩ (l.length - k) (c - k) ((entC vs l).drop (k * 2)) rfl hl2 ?f1 ?f2 ?f3 ?f4 ?f5 ?_)
     (try case f1 => (intro j u hj; (try rw [addr_add]); rw [List.getElem?_drop] at hj; exact HCL.out _ HB10.out _ _ hj))
     (try case f2 => (intro u hu; exact HONE.out u (List.mem_of_mem_drop hu)))
     (try case f3 => (unfold maxLen; omega))
     (try case f4 => (omega))
     (try case f5 => (exact HB10.out.size))
     intro v11 w11 hown11 hgrow11 _
     have HB11 := Lib.hid (show Below W.heap.size W w11 from HB10.out.grown hgrow11 HB10.out.size (fun q hq => (World.ownsRow.lt HW10.out q hq).1))
     rw [show k + 1 + (l.length - k) = l.length + 1 by omega, HX2.out, HX1.out] at hown11
     have HE := Lib.hid (show OwnE w11 base v11 (putL l e) by
      unfold putL insAt
      rw [← HT.out]
      exact ⟨_, OwnE0.ins HOW.out hle HKW.out hnd (Joins.ownsRow_le hown11 HWB.out) ⟨HB11.out.os, HB11.out.tape, HB11.out.output, HB11.out.size, fun q hq _ => HB11.out.block q hq⟩⟩)
     have HBF := Lib.hid (show Below w.heap.size w w11 from (HB0.out.trans (HBW.out.mono (Nat.le_of_lt HZ.out))).trans (HB11.out.mono (by have h1 := HBW.out.size; have h2 := HZ.out; omega)))
     clear hown11 hgrow11
     go_wp2_with fail
     go_ret
     exact ⟨v11, rfl, HE.out, HBF.out⟩
set_option maxRecDepth 100000 in
set_option maxHeartbeats 4000000 in
theorem specL11Of (AR AC : Option Addr) (nR cR nC cC m : Nat) (rows : List Rw) (cols : List Int) (okr okc : Nat → Prop) (w : World)
  (hR : Sl RwR 2 okr w AR nR rows) (hC : Sl IntR 1 okc w AC nC cols) (hcn : nC ≤ 1048576) (hm : m ≤ 8) (hI : IxIn cols rows m) :
  Calls Tryz.prog 73 #[.agg #[.slice AR nR cR], .slice AC nC cC] w fun r w' => ∃ v, r = .returned v ∧ OwnE w' w.heap.size v (ixK cols rows rows.length) ∧ Below w.heap.size w w' := by
 obtain rfl : rows.length = nR := hR.1
 obtain rfl : cols.length = nC := hC.1
 have HI := Lib.hid hI
 have hrl : rows.length ≤ 60 := hI.few
 have HX := Lib.hid (And.intro hR hC)
 have hb0 := (Below.refl w.heap.size w).alloc (Nat.le_refl _) (.cells #[.slice AR rows.length cR] 55)
 have hb1 := hb0.alloc hb0.size (.cells #[] 44)
 have r0 := (Row.new w 55 #[.slice AR rows.length cR]).alloc (.cells #[] 44)
 have ho0 := OwnE.lit (w.alloc (.cells #[.slice AR rows.length cR] 55)) (base := w.heap.size) hb0.size
 have HB1 := Lib.hid hb1
 have HR0 := Lib.hid r0
 have HO0 := Lib.hid ho0
 clear hI hR hC hb0 hb1 r0 ho0
 go_enter Tryz.func73, Tryz.ntmps73
 go_wp2_with fail
 generalize (w.alloc (.cells #[.slice AR rows.length cR] 55)).alloc (.cells #[] 44) = z0 at *
 go_loopw [5, 6] (fun v i wr => ∃ (k : Nat), k ≤ rows.length ∧ i = .int .i64 k ∧ Hid (OwnE wr w.heap.size v (ixK cols rows k)) ∧ Hid (Row wr w.heap.size 55 #[.slice AR rows.length cR]) ∧ Below w.heap.size w wr) (fun _ i _ => rows.length - (intOf i).toNat)
 case atStart => exact ⟨0, by omega, rfl, Lib.hid (by simpa [ixK] using HO0.out), HR0, HB1.out⟩
 case round =>
  obtain ⟨k, hk, rfl, hown, hbx, hb⟩ := hrel
  have d0 := hbx.out.cell 0
  simp only [List.getElem?_toArray, List.getElem?_cons_zero] at d0
  by_cases hlt : k < rows.length
  ·have i0' : (0 : Int) ≤ k := by omega
   have i1' : (k : Int) < rows.length := by omega
   obtain ⟨gr, oo, AV, nV, cV, -, rfl, r0', r1', hv', -⟩ := RwR.at_ (HX.out.1.below RwR.stays hb) hlt
   have hnv : nV ≤ 1048576 := by have h1 := hv'.1; have h2 := (HI.out.row _ (List.getElem_mem hlt)).2.2.1; omega
   have HQ := Lib.hid (ix_step HI.out k (by omega))
   have HS := Lib.hid (ixK_succ cols hlt)
   have HKY := Lib.hid (specL4KeyO AC AV cols.length cC nV cV cols rows[k].vals okc _ wr (HX.out.2.below IntR.stays hb) hv' hcn hnv (HI.out.all (List.getElem_mem hlt)))
   have hR0 := Lib.hid r0'
   clear hv'
   go_wp2_with fail
   refine HKY.out.mono ?_
   rintro e w3 ⟨v3, rfl, ho3, hb3⟩
   have ho3' : OwnK w3 wr.heap.size v3 (keyL cols rows[k].vals) := ho3
   obtain ⟨B3, d3, rfl⟩ := ho3'.shape
   have hbw : w.heap.size ≤ wr.heap.size := hb.size
   have HB3 := Lib.hid (hb.trans (hb3.mono hbw))
   obtain ⟨vs, hO⟩ := hown.out
   have hO3 := OwnE0.below hO hb3
   have hkl : (keyL cols rows[k].vals).length ≤ 1048576 := by rw [keyL_len]; exact hcn
   have HPM := Lib.hid (specL11Put w.heap.size _ (ixK cols rows k) (entOf cols rows[k]) B3 (keyL cols rows[k].vals).length d3 vs w3 hO3 (by have := hb3.size; omega) (by rw [HQ.out.2.1]; omega) (fun x hx => by rw [(HQ.out.2.2 x hx).1]; exact hcn) (ho3'.mono hbw) hkl (hO.fresh ho3' (Nat.le_refl _)))
   have hbx3 := Lib.hid (hbx.out.below hb3)
   have e0 := hbx3.out.cell 0
   simp only [List.getElem?_toArray, List.getElem?_cons_zero] at e0
   have s0 := below_keep hb3 _ _ r0'
   clear HKY ho3 ho3' hb3 hO hO3 r0' r1' d0
   go_wp2_with fail
   refine HPM.out.mono ?_
   rintro e w4 ⟨v4, rfl, ho4, hb4⟩
   rw [← HS.out] at ho4
   have HO4 := Lib.hid ho4
   have HB4 := Lib.hid (HB3.out.trans (hb4.mono HB3.out.size))
   have HR4 := Lib.hid (hbx3.out.below hb4)
   clear HPM ho4 hb4 e0 s0
   go_wp2_with fail
   go_roundw
   case rel => exact ⟨k + 1, by omega, by go_num, HO4, HR4, HB4.out⟩
   case measure => simp [intOf]; omega
  ·obtain rfl : k = rows.length := by omega
   go_wp2_with fail
   go_ret
   exact ⟨_, rfl, hown.out, hb⟩
end Go.Proofs.YtciaidjmehelpaaGreat
