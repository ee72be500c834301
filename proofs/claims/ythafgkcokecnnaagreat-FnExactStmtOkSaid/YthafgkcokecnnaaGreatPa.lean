/-
  Several texts in one: Base, Mem, Slices, Reads, Vals, Held, Order, LawVals, ExprMath, Toks, ExprOk, ExprOk2, LawToks, Sizes, Vls, LawVals2, Types, To, Marks, OwnInts.
-/
import Derived.Test.YthafgkcokecnnaaGreatRows
import Derived.WalkKit
import Derived.ProofKit
import Derived.OpenShut
import Derived.ShutString
import Derived.ChangeOld
import Derived.Below
import Derived.Lib.SmallJoins
import Derived.Lib.Hide
import Derived.Deep.QuietTactic
import Derived.BigQuiet
import Derived.WalkSpells
import Derived.WalkLawsBesides
import Derived.Deep.Slices
import Derived.Deep.WholeRow
import Derived.Laws.StructEq
import Derived.Deep.RegionHeld3
import Derived.Stop.Asserts
import Derived.Deep.RegionWith
import Derived.Deep.LoopGhost
import Derived.Maps.AppendAt
namespace Go.Proofs.YthafgkcokecnnaaGreat
open Go.ChangeShapes Go.WideShapes Go.ChangeAt Go.RowKit Go.Joins

theorem own : ownKnob Tryz.prog.godebug = none := by kernel_rfl
theorem laidOut : laidOutB Tryz.prog = true := by kernel_rfl

/-- A slice of integers that came in: nil, or a row of 'cap' cells with the numbers 'zs', each fitting its kind. -/
def IsRow (k : IntKind) (w : World) (a : Option Addr) (len cap : Nat) (zs : List Int) : Prop :=
  (a = none ∧ len = 0 ∧ cap = 0 ∧ zs = []) ∨
  ∃ x, a = some x ∧ len ≤ cap ∧ cap ≤ maxLen ∧ zs.length = cap ∧ (∀ i, i < zs.length → w.cell? (x.add i) = some (.int k (zs.getD i 0))) ∧ ∀ n ∈ zs, (Lit.int k n).wf = true

theorem isRow_of_trod {H : Type} {enc : TypeId × Value → H} {P : Program} {W : World} {t t1 : TypeId} {k : IntKind} {a : Option Addr} {len cap : Nat} {d : DataW H} {p : List MemPlace}
    (ht : P.underlying t = some (.slice t1)) (ht1 : P.underlying t1 = some (.int k)) (hc : P.cellsOf t1 = 1)
    (h : DataW.Trod enc P W 0 (fun _ => true) true t (.slice a len cap) d p) : ∃ zs, IsRow k W a len cap zs := by
  obtain ⟨fuel, hf⟩ := h
  rcases open_ints ht ht1 hc hf with ⟨hcs, _⟩ | ⟨x, l, c, zs, hcs, _, hl, hm, hz, _, hcell, hwz⟩
  · simp [Value.cells] at hcs
    obtain ⟨rfl, rfl, rfl⟩ := hcs
    exact ⟨[], .inl ⟨rfl, rfl, rfl, rfl⟩⟩
  · simp [Value.cells] at hcs
    obtain ⟨rfl, rfl, rfl⟩ := hcs
    exact ⟨zs, .inr ⟨_, rfl, hl, hm, by simpa using hz, hcell, hwz⟩⟩

/-- The fields of a Val that came in: two int64, a text of at most maxLen bytes. -/
def IsVal (k n : Int) (s : ByteArray) : Prop := (Lit.int .i64 k).wf = true ∧ (Lit.int .i64 n).wf = true ∧ s.size ≤ maxLen

theorem isVal_of_trod {H : Type} {enc : TypeId × Value → H} {P : Program} {W : World} {b0 : Nat} {t : TypeId} {f0 f1 f2 : Field} {v : Value} {d : DataW H} {p : List MemPlace}
    (hs : P.underlying t = some (.struct #[f0, f1, f2])) (hone : Deep.oneCellFields P #[f0, f1, f2] = true) (hC : P.cellsOf t = 3)
    (h0 : P.underlying f0.type = some (.int .i64)) (h1 : P.underlying f1.type = some (.int .i64)) (h2 : P.underlying f2.type = some .string)
    (hv : Value.okWide P W .any b0 t v) (h : DataW.Trod enc P W 0 (fun _ => true) true t v d p) :
    ∃ k n s, v = .agg #[.int .i64 k, .int .i64 n, .string s] ∧ IsVal k n s := by
  obtain ⟨c0, c1, c2, y0, y1, y2, m, rfl, rfl, rfl, e0, e1, e2⟩ := open_agg3 hs hone hC hv h
  obtain ⟨k, q0, -, wk⟩ := DataW.trod_int h0 e0
  obtain ⟨n, q1, -, wn⟩ := DataW.trod_int h1 e1
  obtain ⟨s, q2, -, ws⟩ := DataW.trod_string h2 e2
  simp only [List.cons.injEq, and_true] at q0 q1 q2
  subst q0 q1 q2
  exact ⟨k, n, s, rfl, wk, wn, ws⟩
end Go.Proofs.YthafgkcokecnnaaGreat
namespace Go.Proofs.YthafgkcokecnnaaGreat
open Go.RowKit

/-- All blocks of w but R are in w' as they were. -/
structure But (R : Nat) (w w' : World) : Prop where
  os : w'.os = w.os
  tape : w'.tape = w.tape
  output : w'.output = w.output
  size : w.heap.size ≤ w'.heap.size
  block : ∀ k, k < w.heap.size → k ≠ R → w'.heap[k]? = w.heap[k]?

theorem But.refl (R : Nat) (w : World) : But R w w := ⟨rfl, rfl, rfl, Nat.le_refl _, fun _ _ _ => rfl⟩
theorem But.trans {R : Nat} {a b c : World} (h : But R a b) (k : But R b c) : But R a c :=
  ⟨k.os.trans h.os, k.tape.trans h.tape, k.output.trans h.output, Nat.le_trans h.size k.size, fun i hi hr => (k.block i (Nat.lt_of_lt_of_le hi h.size) hr).trans (h.block i hi hr)⟩
theorem But.drew {R : Nat} {a w : World} (h : But R a w) : But R a w.drew := ⟨h.os, h.tape, h.output, h.size, h.block⟩
theorem But.drewN {R : Nat} {a w : World} (h : But R a w) (n : Nat) : But R a (w.drewN n) := ⟨h.os, h.tape, h.output, h.size, h.block⟩
theorem But.alloc {R : Nat} {a w : World} (h : But R a w) (o : Obj) : But R a (w.alloc o) :=
  h.trans ⟨rfl, rfl, rfl, by simp, fun k hk _ => Below.heap_alloc _ _ _ hk⟩
theorem But.setCell {R : Nat} {a w : World} (h : But R a w) {p : Addr} (hp : p.block = R) (u : Value) : But R a (w.setCell p u) :=
  h.trans ⟨rfl, rfl, rfl, by simp [World.setCell], fun k _ hr => Below.heap_setCell _ _ _ _ (by omega)⟩
/-- A store into a block that is newer than all of a. -/
theorem But.setNew {R : Nat} {a w : World} (h : But R a w) {p : Addr} (hp : a.heap.size ≤ p.block) (u : Value) : But R a (w.setCell p u) :=
  ⟨h.os, h.tape, h.output, by simpa [World.setCell] using h.size, fun k hk hr => (Below.heap_setCell _ _ _ _ (by omega)).trans (h.block k hk hr)⟩
theorem But.cell {R : Nat} {w w' : World} (h : But R w w') {p : Addr} (hp : p.block < w.heap.size) (hr : p.block ≠ R) : w'.cell? p = w.cell? p := World.cell?_of_block (w := w) (h.block p.block hp hr)
theorem But.frozen {R : Nat} {w w' : World} (h : But R w w') {p : Addr} (hp : p.block < w.heap.size) (hr : p.block ≠ R) : w'.frozen? p = w.frozen? p := World.frozen?_of_block (w := w) (h.block p.block hp hr)
theorem But.below {R B : Nat} {w w' : World} (h : But R w w') (hB : B ≤ R) (hw : B ≤ w.heap.size) : Below B w w' :=
  ⟨h.os, h.tape, h.output, h.size, fun k hk => h.block k (by omega) (by omega)⟩

theorem cell_lt {w : World} {p : Addr} {v : Value} (h : w.cell? p = some v) : p.block < w.heap.size := by
  by_cases hb : p.block < w.heap.size
  · exact hb
  · simp [World.cell?, Array.getElem?_eq_none (Nat.le_of_not_lt hb)] at h

theorem add_block (x : Addr) (i : Nat) : (x.add i).block = x.block := by
  unfold Addr.add; split <;> rfl

theorem IsRow.but {R : Nat} {w w' : World} {a : Option Addr} {len cap : Nat} {zs : List Int} (h : IsRow .u8 w a len cap zs) (hb : But R w w') (hr : ∀ x, a = some x → 0 < cap → x.block ≠ R) : IsRow .u8 w' a len cap zs := by
  rcases h with h | ⟨x, rfl, hl, hm, hz, hcell, hwz⟩
  · exact .inl h
  · refine .inr ⟨x, rfl, hl, hm, hz, fun i hi => ?_, hwz⟩
    have h1 := hcell i hi
    rw [hb.cell (cell_lt h1) (by rw [add_block]; exact hr x rfl (by omega))]
    exact h1

/-- A byte of the row. -/
theorem IsRow.byte {w : World} {a : Option Addr} {len cap : Nat} {zs : List Int} (h : IsRow .u8 w a len cap zs) {i : Nat} (hi : i < len) :
    ∃ b off : Nat, ∃ z : Int, a = some ⟨b, off, none⟩ ∧ w.cell? ⟨b, off + i, none⟩ = some (.int .u8 z) ∧ 0 ≤ z ∧ z ≤ 255 := by
  rcases h with ⟨_, h, _⟩ | ⟨x, rfl, hl, hm, hz, hcell, hwz⟩
  · omega
  · obtain ⟨b, off, spot⟩ := x
    have hc := hcell i (by omega)
    have e : zs.getD i 0 = zs[i]'(by omega) := by simp [List.getD, List.getElem?_eq_getElem (show i < zs.length by omega)]
    have hw := hwz (zs.getD i 0) (e ▸ List.getElem_mem _)
    have h0 := hcell 0 (by omega)
    have hspot : spot = none := by simpa [Addr.add] using World.cell?_spot h0
    subst hspot
    refine ⟨b, off, zs.getD i 0, rfl, ?_, ?_⟩
    · have e : (⟨b, off, none⟩ : Addr).add i = ⟨b, off + i, none⟩ := by
        unfold Addr.add; split
        · subst_vars; rfl
        · rfl
      rw [← e]; exact hc
    · exact bounds_u8 hw

theorem IsRow.len_le {w : World} {a : Option Addr} {len cap : Nat} {zs : List Int} (h : IsRow .u8 w a len cap zs) : len ≤ 9223372036854775807 := by
  rcases h with ⟨_, h, _⟩ | ⟨x, rfl, hl, hm, hz, hcell, hwz⟩
  · omega
  · unfold maxLen at hm; omega

theorem retB {a b : Bool} (h : a = b) : Ending.returned (.bool a) = .returned (.bool b) := by rw [h]
theorem retI {k : IntKind} {a b : Int} (h : a = b) : Ending.returned (.int k a) = .returned (.int k b) := by rw [h]
end Go.Proofs.YthafgkcokecnnaaGreat
namespace Go.Proofs.YthafgkcokecnnaaGreat
open Go.ChangeShapes Go.WideShapes Go.ChangeAt Go.RowKit Go.Joins Go.Deep

/-- A slice of n elements of sz cells each: the cells of the i-th are xss[i]. -/
def Cellz (w : World) (sz : Nat) (A : Option Addr) (n : Nat) (xss : List (List Value)) : Prop :=
  xss.length = n ∧ (∀ c ∈ xss, c.length = sz) ∧
  (0 < n → ∃ b off, A = some ⟨b, off, none⟩ ∧ ∀ (i : Nat) (h : i < xss.length) (j : Nat) (h' : j < (xss[i]).length), w.cell? ⟨b, off + (i * sz + j), none⟩ = some (xss[i])[j])

theorem Cellz.keep {w w' : World} {sz : Nat} {A : Option Addr} {n : Nat} {xss : List (List Value)} (h : Cellz w sz A n xss) (hk : ∀ p v, w.cell? p = some v → w'.cell? p = some v) : Cellz w' sz A n xss :=
  ⟨h.1, h.2.1, fun hn => by
    obtain ⟨b, off, e, hc⟩ := h.2.2 hn
    exact ⟨b, off, e, fun i hi j hj => hk _ _ (hc i hi j hj)⟩⟩
theorem Cellz.below {w w' : World} {sz : Nat} {A : Option Addr} {n : Nat} {xss : List (List Value)} (h : Cellz w sz A n xss) (hb : Below w.heap.size w w') : Cellz w' sz A n xss :=
  h.keep fun _ _ hp => (hb.cell (cell_lt hp)).trans hp
theorem Cellz.drew {w : World} {sz : Nat} {A : Option Addr} {n : Nat} {xss : List (List Value)} (h : Cellz w sz A n xss) : Cellz w.drew sz A n xss := h
theorem Cellz.drewN {w : World} {sz : Nat} {A : Option Addr} {n : Nat} {xss : List (List Value)} (h : Cellz w sz A n xss) (k : Nat) : Cellz (w.drewN k) sz A n xss := h
theorem Cellz.alloc {w : World} {sz : Nat} {A : Option Addr} {n : Nat} {xss : List (List Value)} (h : Cellz w sz A n xss) (o : Obj) : Cellz (w.alloc o) sz A n xss :=
  h.below ((Below.refl _ w).alloc (Nat.le_refl _) o)

theorem addr_add (b off i : Nat) : (⟨b, off, none⟩ : Addr).add i = ⟨b, off + i, none⟩ := by
  unfold Addr.add; split
  · subst_vars; rfl
  · rfl

/-- A slice of structs among the arguments. -/
theorem cellz_of_trod {H : Type} {enc : TypeId × Value → H} {P : Program} {W : World} {fuel : Nat} {t e : TypeId} {sz : Nat} {a : Option Addr} {len cap : Nat} {x : DataW H × List MemPlace}
    (ht : P.underlying t = some (.slice e)) (hC : P.cellsOf e = sz) (h0 : 0 < sz)
    (h : DataW.trod enc P W 0 (fun _ => true) true fuel t [.slice a len cap] = some x) :
    ∃ xss, Cellz W sz a len xss ∧ len ≤ maxLen ∧ ∀ c ∈ xss, ∃ n y, DataW.trod enc P W 0 (fun _ => true) true n e c = some y := by
  rcases open_slice ht h with ⟨hcs, _⟩ | ⟨ad, l, c, m, n, D, Pl, hcs, _, hl, hm, hmm, _, hi⟩
  · simp at hcs
    obtain ⟨rfl, rfl, rfl⟩ := hcs
    exact ⟨[], ⟨rfl, by simp, fun h => absurd h (by omega)⟩, by omega, by simp⟩
  · simp at hcs
    obtain ⟨rfl, rfl, rfl⟩ := hcs
    rw [hC] at hi
    simp at hmm
    have hch : ∀ i, ∃ cs', i < len → W.cells? 0 (ad.add (i * sz)) sz = some cs' ∧ ∃ n y, DataW.trod enc P W 0 (fun _ => true) true n e cs' = some y := by
      intro i
      by_cases hlt : i < len
      · obtain ⟨cs', h1, h2⟩ := hi i (by omega)
        exact ⟨cs', fun _ => ⟨h1, _, _, h2⟩⟩
      · exact ⟨[], fun h => absurd h hlt⟩
    obtain ⟨f, hf⟩ := Classical.axiomOfChoice hch
    refine ⟨(List.range len).map f, ⟨by simp, ?_, ?_⟩, by omega, ?_⟩
    · intro c hc
      simp only [List.mem_map, List.mem_range] at hc
      obtain ⟨i, hi, rfl⟩ := hc
      exact (World.cells?_some (hf i hi).1).2.1
    · intro hn
      obtain ⟨b, off, spot⟩ := ad
      have hspot : spot = none := by
        obtain ⟨_, hcl, hat⟩ := World.cells?_some (hf 0 hn).1
        have h1 := hat 0 h0
        rw [List.getElem?_eq_getElem (by omega)] at h1
        have := World.cell?_spot h1
        simpa [Addr.add] using this
      subst hspot
      refine ⟨b, off, rfl, fun i hi j hj => ?_⟩
      simp only [List.length_map, List.length_range] at hi
      simp only [List.getElem_map, List.getElem_range] at hj ⊢
      obtain ⟨_, hcl, hat⟩ := World.cells?_some (hf i hi).1
      have h1 := hat j (by omega)
      rw [List.getElem?_eq_getElem hj, addr_add, addr_add] at h1
      rw [← h1, Nat.add_assoc]
    · intro c hc
      simp only [List.mem_map, List.mem_range] at hc
      obtain ⟨i, hi, rfl⟩ := hc
      exact (hf i hi).2

/-- The cells of a Val. -/
theorem val_of_trod {H : Type} {enc : TypeId × Value → H} {P : Program} {W : World} {fuel : Nat} {t : TypeId} {f0 f1 f2 : Field} {cs : List Value} {x : DataW H × List MemPlace}
    (hs : P.underlying t = some (.struct #[f0, f1, f2])) (hC : P.cellsOf t = 3) (o : f0.offset = 0 ∧ f1.offset = 1 ∧ f2.offset = 2) (hc0 : P.cellsOf f0.type = 1) (hc1 : P.cellsOf f1.type = 1) (hc2 : P.cellsOf f2.type = 1)
    (h0 : P.underlying f0.type = some (.int .i64)) (h1 : P.underlying f1.type = some (.int .i64)) (h2 : P.underlying f2.type = some .string)
    (h : DataW.trod enc P W 0 (fun _ => true) true fuel t cs = some x) :
    ∃ k n s, cs = [.int .i64 k, .int .i64 n, .string s] ∧ IsVal k n s := by
  obtain ⟨xs, n, _, _, hl, hlen, hf⟩ := DataW.trod_struct hs h
  rw [hC] at hl
  match cs, hl, xs, hlen with
  | [c0, c1, c2], _, [y0, y1, y2], _ =>
    have g0 := hf 0 f0 rfl
    have g1 := hf 1 f1 rfl
    have g2 := hf 2 f2 rfl
    rw [o.1, hc0] at g0
    rw [o.2.1, hc1] at g1
    rw [o.2.2, hc2] at g2
    simp at g0 g1 g2
    obtain ⟨k, q0, -, wk⟩ := DataW.trod_int h0 g0
    obtain ⟨n, q1, -, wn⟩ := DataW.trod_int h1 g1
    obtain ⟨s, q2, -, ws⟩ := DataW.trod_string h2 g2
    simp at q0 q1 q2
    subst q0 q1 q2
    exact ⟨k, n, s, rfl, wk, wn, ws⟩

/-- The cells of a Tok. -/
theorem tok_of_trod {H : Type} {enc : TypeId × Value → H} {P : Program} {W : World} {fuel : Nat} {t : TypeId} {g0 g1 g2 f0 f1 f2 : Field} {cs : List Value} {x : DataW H × List MemPlace}
    (ht : P.underlying t = some (.struct #[g0, g1, g2])) (hCt : P.cellsOf t = 5) (ot : g0.offset = 0 ∧ g1.offset = 1 ∧ g2.offset = 2) (hd0 : P.cellsOf g0.type = 1) (hd1 : P.cellsOf g1.type = 1) (hd2 : P.cellsOf g2.type = 3)
    (k0 : P.underlying g0.type = some (.int .i64)) (k1 : P.underlying g1.type = some (.int .i64))
    (hs : P.underlying g2.type = some (.struct #[f0, f1, f2])) (o : f0.offset = 0 ∧ f1.offset = 1 ∧ f2.offset = 2) (hc0 : P.cellsOf f0.type = 1) (hc1 : P.cellsOf f1.type = 1) (hc2 : P.cellsOf f2.type = 1)
    (h0 : P.underlying f0.type = some (.int .i64)) (h1 : P.underlying f1.type = some (.int .i64)) (h2 : P.underlying f2.type = some .string)
    (h : DataW.trod enc P W 0 (fun _ => true) true fuel t cs = some x) :
    ∃ k c vk vn vs, cs = [.int .i64 k, .int .i64 c, .int .i64 vk, .int .i64 vn, .string vs] ∧ (Lit.int .i64 k).wf = true ∧ (Lit.int .i64 c).wf = true ∧ IsVal vk vn vs := by
  obtain ⟨xs, n, _, _, hl, hlen, hf⟩ := DataW.trod_struct ht h
  rw [hCt] at hl
  match cs, hl, xs, hlen with
  | [c0, c1, c2, c3, c4], _, [y0, y1, y2], _ =>
    have e0 := hf 0 g0 rfl
    have e1 := hf 1 g1 rfl
    have e2 := hf 2 g2 rfl
    rw [ot.1, hd0] at e0
    rw [ot.2.1, hd1] at e1
    rw [ot.2.2, hd2] at e2
    simp at e0 e1 e2
    obtain ⟨k, q0, -, wk⟩ := DataW.trod_int k0 e0
    obtain ⟨c, q1, -, wc⟩ := DataW.trod_int k1 e1
    obtain ⟨vk, vn, vs, q2, w2⟩ := val_of_trod hs hd2 o hc0 hc1 hc2 h0 h1 h2 e2
    simp at q0 q1 q2
    obtain ⟨rfl, rfl, rfl⟩ := q2
    subst q0 q1
    exact ⟨k, c, vk, vn, vs, rfl, wk, wc, w2⟩

/-- A block, known whole. -/
def Row (w : World) (g : Nat) (T : TypeId) (cs : Array Value) : Prop := w.heap[g]? = some (.cells cs T (0, 0))
theorem Row.set {w : World} {g : Nat} {T : TypeId} {cs : Array Value} (h : Row w g T cs) (i : Nat) (v : Value) : Row (w.setCell ⟨g, i, none⟩ v) g T (cs.setIfInBounds i v) := by
  unfold Row at h ⊢
  simp [World.setCell, Array.getElem?_modify, h]
theorem Row.cell {w : World} {g : Nat} {T : TypeId} {cs : Array Value} (h : Row w g T cs) (i : Nat) : w.cell? ⟨g, i, none⟩ = cs[i]? := cell_of_row w g i cs T (0, 0) h
theorem Row.free {w : World} {g : Nat} {T : TypeId} {cs : Array Value} (h : Row w g T cs) (i : Nat) : w.frozen? ⟨g, i, none⟩ = false := by
  unfold Row at h
  simp [World.frozen?, h]
theorem Row.below {w w' : World} {g : Nat} {T : TypeId} {cs : Array Value} (h : Row w g T cs) (hb : Below w.heap.size w w') : Row w' g T cs := (hb.block g (lt_of_block h)).trans h
theorem Row.new (w : World) (T : TypeId) (cs : Array Value) : Row (w.alloc (.cells cs T)) w.heap.size T cs := Go.heap_alloc_last w _

theorem Row.five {w : World} {g : Nat} {T : TypeId} {a0 a1 a2 a3 a4 : Value} (h : Row w g T #[a0, a1, a2, a3, a4]) :
    (w.cell? ⟨g, 0, none⟩ = some a0 ∧ w.cell? ⟨g, 1, none⟩ = some a1 ∧ w.cell? ⟨g, 2, none⟩ = some a2 ∧ w.cell? ⟨g, 3, none⟩ = some a3 ∧ w.cell? ⟨g, 4, none⟩ = some a4) ∧
    (w.frozen? ⟨g, 0, none⟩ = false ∧ w.frozen? ⟨g, 1, none⟩ = false ∧ w.frozen? ⟨g, 2, none⟩ = false ∧ w.frozen? ⟨g, 3, none⟩ = false ∧ w.frozen? ⟨g, 4, none⟩ = false) :=
  ⟨⟨h.cell 0, h.cell 1, h.cell 2, h.cell 3, h.cell 4⟩, ⟨h.free 0, h.free 1, h.free 2, h.free 3, h.free 4⟩⟩
theorem Row.alloc {w : World} {g : Nat} {T : TypeId} {cs : Array Value} (h : Row w g T cs) (o : Obj) : Row (w.alloc o) g T cs := (Below.heap_alloc w o g (lt_of_block h)).trans h
theorem Row.three {w : World} {g : Nat} {T : TypeId} {a0 a1 a2 : Value} (h : Row w g T #[a0, a1, a2]) :
    (w.cell? ⟨g, 0, none⟩ = some a0 ∧ w.cell? ⟨g, 1, none⟩ = some a1 ∧ w.cell? ⟨g, 2, none⟩ = some a2) ∧ (w.frozen? ⟨g, 0, none⟩ = false ∧ w.frozen? ⟨g, 1, none⟩ = false ∧ w.frozen? ⟨g, 2, none⟩ = false) :=
  ⟨⟨h.cell 0, h.cell 1, h.cell 2⟩, ⟨h.free 0, h.free 1, h.free 2⟩⟩
theorem Row.drew {w : World} {g : Nat} {T : TypeId} {cs : Array Value} (h : Row w g T cs) : Row w.drew g T cs := h
theorem Row.drewN {w : World} {g : Nat} {T : TypeId} {cs : Array Value} (h : Row w g T cs) (n : Nat) : Row (w.drewN n) g T cs := h
theorem Row.far {w : World} {g : Nat} {T : TypeId} {cs : Array Value} (h : Row w g T cs) {p : Addr} (hp : g ≠ p.block) (v : Value) : Row (w.setCell p v) g T cs := (Below.heap_setCell w p v g hp).trans h
theorem size1 (w : World) (o : Obj) : (w.alloc o).heap.size = w.heap.size + 1 := by simp
theorem Row.newAt (w : World) (T : TypeId) (cs : Array Value) (g : Nat) (hg : w.heap.size = g) : Row (w.alloc (.cells cs T)) g T cs := hg ▸ Row.new w T cs
theorem keep3 {w w' : World} {a0 a1 a2 : Addr} {v0 v1 v2 : Value} (h : w.cell? a0 = some v0 ∧ w.cell? a1 = some v1 ∧ w.cell? a2 = some v2) (hb : Below w.heap.size w w') : w'.cell? a0 = some v0 ∧ w'.cell? a1 = some v1 ∧ w'.cell? a2 = some v2 := by
  obtain ⟨h0, h1, h2⟩ := h
  exact ⟨(hb.cell (cell_lt h0)).trans h0, (hb.cell (cell_lt h1)).trans h1, (hb.cell (cell_lt h2)).trans h2⟩
/-- The first k elements of sz cells each are laid. -/
def Laid (cs : Array Value) (sz k : Nat) (xss : List (List Value)) : Prop := ∀ (i j : Nat) (v : Value) (c : List Value), i < k → xss[i]? = some c → c[j]? = some v → cs[i * sz + j]? = some v

theorem Laid.zero (cs : Array Value) (sz : Nat) (xss : List (List Value)) : Laid cs sz 0 xss := fun i _ _ _ h => by omega

theorem Laid.snoc5 {cs : Array Value} {k : Nat} {xss : List (List Value)} (h : Laid cs 5 k xss) (hz : ∀ c ∈ xss, c.length = 5) {v0 v1 v2 v3 v4 : Value} (hk : xss[k]? = some [v0, v1, v2, v3, v4]) (hs : k * 5 + 5 ≤ cs.size) :
    Laid (((((cs.setIfInBounds (k * 5) v0).setIfInBounds (k * 5 + 1) v1).setIfInBounds (k * 5 + 2) v2).setIfInBounds (k * 5 + 3) v3).setIfInBounds (k * 5 + 4) v4) 5 (k + 1) xss := by
  intro i j v c hi hc hj
  have hl := hz c (List.mem_of_getElem? hc)
  have hj5 : j < 5 := by obtain ⟨hj', _⟩ := List.getElem?_eq_some_iff.1 hj; omega
  by_cases e : i = k
  · subst e
    rw [hk] at hc
    cases hc
    have : j = 0 ∨ j = 1 ∨ j = 2 ∨ j = 3 ∨ j = 4 := by omega
    rcases this with rfl | rfl | rfl | rfl | rfl <;> simp at hj <;> subst hj <;> simp [Array.getElem?_setIfInBounds] <;> omega
  · have := h i j v c (by omega) hc hj
    simp only [Array.getElem?_setIfInBounds, Array.size_setIfInBounds]
    rw [if_neg (by omega), if_neg (by omega), if_neg (by omega), if_neg (by omega), if_neg (by omega)]
    exact this

/-- What is laid in a block reads as a slice. -/
theorem cellz_of_laid {w : World} {g : Nat} {T : TypeId} {cs : Array Value} {sz n : Nat} {xss : List (List Value)} (hr : Row w g T cs) (hl : Laid cs sz n xss) (hn : xss.length = n) (hz : ∀ c ∈ xss, c.length = sz) : Cellz w sz (some ⟨g, 0, none⟩) n xss :=
  ⟨hn, hz, fun _ => ⟨g, 0, rfl, fun i hi j hj => by
    rw [Nat.zero_add, hr.cell]
    exact hl i j _ _ (by omega) (List.getElem?_eq_getElem hi) (List.getElem?_eq_getElem hj)⟩⟩

/-- A part of what is laid in a block reads as a slice. -/
theorem cellz_of_mid {w : World} {g : Nat} {T : TypeId} {cs : Array Value} {sz n m : Nat} {xss : List (List Value)} (hr : Row w g T cs) (hl : Laid cs sz n xss) (hn : xss.length = n) (hz : ∀ c ∈ xss, c.length = sz) (hm : m ≤ n) : Cellz w sz (some ⟨g, m * sz, none⟩) (n - m) (xss.drop m) := by
  refine ⟨by simp [hn], fun c hc => hz c (List.mem_of_mem_drop hc), fun _ => ⟨g, m * sz, rfl, fun i hi j hj => ?_⟩⟩
  simp only [List.length_drop] at hi
  simp only [List.getElem_drop] at hj ⊢
  rw [hr.cell, ← Nat.add_assoc, ← Nat.add_mul]
  exact hl (m + i) j _ _ (by omega) (List.getElem?_eq_getElem (by omega)) (List.getElem?_eq_getElem hj)

theorem Laid.snoc3 {cs : Array Value} {n m : Nat} {xss : List (List Value)} (h : Laid cs 3 n xss) (hn : xss.length = n) (hz : ∀ c ∈ xss, c.length = 3) (hm : m ≤ n) (v0 v1 v2 : Value) (hs : m * 3 + 3 ≤ cs.size) :
    Laid (((cs.setIfInBounds (m * 3) v0).setIfInBounds (m * 3 + 1) v1).setIfInBounds (m * 3 + 2) v2) 3 (m + 1) (xss.take m ++ [[v0, v1, v2]]) := by
  intro i j v c hi hc hj
  have hlt : (xss.take m).length = m := by simp; omega
  by_cases e : i = m
  · subst e
    rw [List.getElem?_append_right (by omega), hlt] at hc
    simp at hc
    subst hc
    have hj3 : j < 3 := by obtain ⟨hj', _⟩ := List.getElem?_eq_some_iff.1 hj; simpa using hj'
    have : j = 0 ∨ j = 1 ∨ j = 2 := by omega
    rcases this with rfl | rfl | rfl <;> simp at hj <;> subst hj <;> simp [Array.getElem?_setIfInBounds] <;> omega
  · rw [List.getElem?_append_left (by omega), List.getElem?_take_of_lt (by omega)] at hc
    have hl := hz c (List.mem_of_getElem? hc)
    have hj3 : j < 3 := by obtain ⟨hj', _⟩ := List.getElem?_eq_some_iff.1 hj; omega
    have := h i j v c (by omega) hc hj
    simp only [Array.getElem?_setIfInBounds, Array.size_setIfInBounds]
    rw [if_neg (by omega), if_neg (by omega), if_neg (by omega)]
    exact this

end Go.Proofs.YthafgkcokecnnaaGreat
namespace Go.Proofs.YthafgkcokecnnaaGreat
open Go.ChangeShapes Go.WideShapes Go.ChangeAt Go.RowKit Go.Joins Go.Deep

/-- How an element reads: the blocks that are let in, the world, its cells, what it is. -/
abbrev Rd (α : Type) := (Nat → Prop) → World → List Value → α → Prop

/-- A slice of n elements of sz cells each, in blocks that are let in: the i-th reads as ds[i]. -/
def Sl {α : Type} (R : Rd α) (sz : Nat) (ok : Nat → Prop) (w : World) (A : Option Addr) (n : Nat) (ds : List α) : Prop :=
  ds.length = n ∧ (0 < n → ∃ b off, A = some ⟨b, off, none⟩ ∧ ok b ∧ ∀ (i : Nat) (h : i < ds.length), ∃ cs : List Value, cs.length = sz ∧ R ok w cs ds[i] ∧ ∀ (j : Nat) (v : Value), cs[j]? = some v → w.cell? ⟨b, off + i * sz + j, none⟩ = some v)

/-- What is read stays where the blocks that are let in stay. -/
def Stays {α : Type} (R : Rd α) : Prop := ∀ (ok ok' : Nat → Prop) (w w' : World) (cs : List Value) (d : α), R ok w cs d → (∀ b, ok b → ok' b) → (∀ p v, ok p.block → w.cell? p = some v → w'.cell? p = some v) → R ok' w' cs d

theorem Sl.stays {α : Type} {R : Rd α} (hR : Stays R) {sz : Nat} {ok ok' : Nat → Prop} {w w' : World} {A : Option Addr} {n : Nat} {ds : List α} (h : Sl R sz ok w A n ds) (ho : ∀ b, ok b → ok' b) (hk : ∀ p v, ok p.block → w.cell? p = some v → w'.cell? p = some v) : Sl R sz ok' w' A n ds :=
  ⟨h.1, fun hn => by
    obtain ⟨b, off, e, hb, hi⟩ := h.2 hn
    refine ⟨b, off, e, ho b hb, fun i hlt => ?_⟩
    obtain ⟨cs, h1, h2, h3⟩ := hi i hlt
    exact ⟨cs, h1, hR _ _ _ _ _ _ h2 ho hk, fun j v hv => hk _ _ hb (h3 j v hv)⟩⟩

theorem Stays.sl {α : Type} {R : Rd α} (hR : Stays R) (sz : Nat) {A : Option Addr} {n : Nat} : Stays (fun ok w (_ : List Value) (ds : List α) => Sl R sz ok w A n ds) := fun _ _ _ _ _ _ h ho hk => Sl.stays hR h ho hk

theorem below_keep {w w' : World} (hb : Below w.heap.size w w') : ∀ p v, w.cell? p = some v → w'.cell? p = some v := fun _ _ hp => (hb.cell (cell_lt hp)).trans hp

theorem Sl.below {α : Type} {R : Rd α} (hR : Stays R) {sz : Nat} {ok : Nat → Prop} {w w' : World} {A : Option Addr} {n : Nat} {ds : List α} (h : Sl R sz ok w A n ds) (hb : Below w.heap.size w w') : Sl R sz ok w' A n ds :=
  h.stays hR (fun _ h => h) fun p v _ hp => below_keep hb p v hp
theorem Stays.below {α : Type} {R : Rd α} (hR : Stays R) {ok : Nat → Prop} {w w' : World} {cs : List Value} {d : α} (h : R ok w cs d) (hb : Below w.heap.size w w') : R ok w' cs d := hR _ _ _ _ _ _ h (fun _ h => h) fun p v _ hp => below_keep hb p v hp

/-- Elements without slices of their own. -/
def FlatR {α : Type} (f : α → List Value) : Rd α := fun _ _ cs d => cs = f d
theorem FlatR.stays {α : Type} (f : α → List Value) : Stays (FlatR f) := fun _ _ _ _ _ _ h _ _ => h

/-- A slice of plain elements, the elder way. -/
theorem Sl.cellz {α : Type} {f : α → List Value} {sz : Nat} {ok : Nat → Prop} {w : World} {A : Option Addr} {n : Nat} {ds : List α} (hf : ∀ d, (f d).length = sz) (h : Sl (FlatR f) sz ok w A n ds) : Cellz w sz A n (ds.map f) := by
  refine ⟨by simpa using h.1, fun c hc => by obtain ⟨d, _, rfl⟩ := List.mem_map.1 hc; exact hf d, fun hn => ?_⟩
  obtain ⟨b, off, e, hb, hi⟩ := h.2 hn
  refine ⟨b, off, e, fun i hlt j hj => ?_⟩
  obtain ⟨cs, h1, h2, h3⟩ := hi i (by simpa using hlt)
  have e2 : (ds.map f)[i] = cs := by rw [List.getElem_map]; exact h2.symm
  rw [← Nat.add_assoc]
  exact h3 j _ (by rw [List.getElem?_eq_some_iff]; exact ⟨by rw [e2] at hj; exact hj, by simp only [e2]⟩)

theorem Sl.of_cellz {α : Type} {f : α → List Value} {sz : Nat} {w : World} {A : Option Addr} {n : Nat} {ds : List α} (h : Cellz w sz A n (ds.map f)) : Sl (FlatR f) sz (fun _ => True) w A n ds := by
  refine ⟨by simpa using h.1, fun hn => ?_⟩
  obtain ⟨b, off, e, hc⟩ := h.2.2 hn
  refine ⟨b, off, e, trivial, fun i hlt => ⟨f ds[i], h.2.1 _ (List.mem_map.2 ⟨_, List.getElem_mem hlt, rfl⟩), rfl, fun j v hv => ?_⟩⟩
  obtain ⟨hj, hv'⟩ := List.getElem?_eq_some_iff.1 hv
  have := hc i (by simpa using hlt) j (by simpa using hj)
  rw [Nat.add_assoc, this]
  simp [← hv']

/-- What has been laid in a block of the call's own so far. -/
def LaidR {α : Type} (R : Rd α) (sz : Nat) (ok : Nat → Prop) (w : World) (cs : Array Value) (k : Nat) (ds : List α) : Prop :=
  ∀ (i : Nat) (h : i < ds.length), i < k → ∃ c : List Value, c.length = sz ∧ R ok w c ds[i] ∧ ∀ (j : Nat) (v : Value), c[j]? = some v → cs[i * sz + j]? = some v

theorem LaidR.zero {α : Type} (R : Rd α) (sz : Nat) (ok : Nat → Prop) (w : World) (cs : Array Value) (ds : List α) : LaidR R sz ok w cs 0 ds := fun _ _ h => by omega
theorem LaidR.stays {α : Type} {R : Rd α} (hR : Stays R) {sz : Nat} {ok : Nat → Prop} {w w' : World} {cs : Array Value} {k : Nat} {ds : List α} (h : LaidR R sz ok w cs k ds) (hk : ∀ p v, ok p.block → w.cell? p = some v → w'.cell? p = some v) : LaidR R sz ok w' cs k ds := fun i hi hlt => by
  obtain ⟨c, h1, h2, h3⟩ := h i hi hlt
  exact ⟨c, h1, hR _ _ _ _ _ _ h2 (fun _ h => h) hk, h3⟩
theorem LaidR.more {α : Type} {R : Rd α} {sz : Nat} {ok : Nat → Prop} {w : World} {cs cs' : Array Value} {k : Nat} {ds : List α} (h : LaidR R sz ok w cs k ds) (hk : k < ds.length) {c : List Value} (hc : c.length = sz) (hr : R ok w c ds[k])
    (hold : ∀ m, m < k * sz → cs'[m]? = cs[m]?) (hnew : ∀ (j : Nat) (v : Value), c[j]? = some v → cs'[k * sz + j]? = some v) : LaidR R sz ok w cs' (k + 1) ds := fun i hi hlt => by
  by_cases e : i = k
  · subst e
    exact ⟨c, hc, hr, hnew⟩
  · obtain ⟨c', h1, h2, h3⟩ := h i hi (by omega)
    refine ⟨c', h1, h2, fun j v hv => ?_⟩
    have hj : j < sz := by obtain ⟨hj, _⟩ := List.getElem?_eq_some_iff.1 hv; omega
    rw [hold _ ?_]
    · exact h3 j v hv
    · have : (i + 1) * sz ≤ k * sz := Nat.mul_le_mul_right _ (by omega)
      rw [Nat.add_mul] at this
      omega
theorem sl_of_laid {α : Type} {R : Rd α} {sz : Nat} {ok : Nat → Prop} {w : World} {g : Nat} {T : TypeId} {cs : Array Value} {k : Nat} {ds : List α} (hr : Row w g T cs) (hg : ok g) (h : LaidR R sz ok w cs k ds) (hk : ds.length ≤ k) : Sl R sz ok w (some ⟨g, 0, none⟩) ds.length ds :=
  ⟨rfl, fun _ => ⟨g, 0, rfl, hg, fun i hi => by
    obtain ⟨c, h1, h2, h3⟩ := h i hi (by omega)
    refine ⟨c, h1, h2, fun j v hv => ?_⟩
    rw [Nat.zero_add, hr.cell]
    exact h3 j v hv⟩⟩

theorem list_of_rel {α β : Type} {r : β → α → Prop} {q : α → Prop} : ∀ xss : List β, (∀ c ∈ xss, ∃ d, r c d ∧ q d) → ∃ ds : List α, ds.length = xss.length ∧ (∀ (i : Nat) (h : i < xss.length) (h' : i < ds.length), r xss[i] ds[i]) ∧ ∀ d ∈ ds, q d
  | [], _ => ⟨[], rfl, fun i h => absurd h (by simp), by simp⟩
  | c :: cs, h => by
    obtain ⟨d, hr, hq⟩ := h c (by simp)
    obtain ⟨ds, h1, h2, h3⟩ := list_of_rel cs fun c' hc => h c' (by simp [hc])
    refine ⟨d :: ds, by simp [h1], fun i hi hi' => ?_, by simpa using ⟨hq, h3⟩⟩
    cases i with
    | zero => exact hr
    | succ i => exact h2 i (by simpa using hi) (by simpa using hi')

/-- A slice among the arguments. -/
theorem sl_of_trod {α : Type} {R : Rd α} {q : α → Prop} {H : Type} {enc : TypeId × Value → H} {P : Program} {W : World} {fuel : Nat} {t e : TypeId} {sz : Nat} {a : Option Addr} {len cap : Nat} {x : DataW H × List MemPlace}
    (ht : P.underlying t = some (.slice e)) (hC : P.cellsOf e = sz) (h0 : 0 < sz) (hR : ∀ n c y, DataW.trod enc P W 0 (fun _ => true) true n e c = some y → ∃ d, R (fun _ => True) W c d ∧ q d)
    (h : DataW.trod enc P W 0 (fun _ => true) true fuel t [.slice a len cap] = some x) :
    ∃ ds, Sl R sz (fun _ => True) W a len ds ∧ ds.length ≤ maxLen ∧ ∀ d ∈ ds, q d := by
  obtain ⟨xss, ⟨hl, hz, hc⟩, hm, hr⟩ := cellz_of_trod (sz := sz) ht hC h0 h
  obtain ⟨ds, h1, h2, h3⟩ := list_of_rel (r := fun c d => R (fun _ => True) W c d) (q := q) xss fun c hc => by
    obtain ⟨n, y, hy⟩ := hr c hc
    exact hR _ _ _ hy
  refine ⟨ds, ⟨by omega, fun hn => ?_⟩, by omega, h3⟩
  obtain ⟨b, off, e, hi⟩ := hc hn
  refine ⟨b, off, e, trivial, fun i hlt => ⟨xss[i], hz _ (List.getElem_mem (by omega)), h2 i (by omega) hlt, fun j v hv => ?_⟩⟩
  obtain ⟨hj, hv'⟩ := List.getElem?_eq_some_iff.1 hv
  rw [Nat.add_assoc, hi i (by omega) j hj, hv']
end Go.Proofs.YthafgkcokecnnaaGreat
namespace Go.Proofs.YthafgkcokecnnaaGreat
open Go.RowKit

theorem eqlVal (k n k' n' : Int) (s s' : ByteArray) (w : World) :
    (binOp .eql 95 (.agg #[.int .i64 k, .int .i64 n, .string s]) (.agg #[.int .i64 k', .int .i64 n', .string s'])).run Tryz.prog w = .ok (.bool (k == k' && (n == n' && s.toList == s'.toList))) w := by
  have u1 := Tryz.underlying2
  have u2 := Tryz.underlying9
  have a1 := Tryz.isAgg2
  have z1 := Tryz.sizeOf2
  have a2 := Tryz.isAgg9
  have z2 := Tryz.sizeOf9
  have hS : Tryz.prog.underlying 95 = some (.struct (Tryz.prog.fieldsOf 95)) := by kernel_rfl
  have hp : Tryz.prog.stoodInHeld 95 = false := by kernel_rfl
  rw [run_eql_struct, show (10000 : Nat) = 9999 + 1 from rfl, run_equalIn_agg w 9999 95 _ _ hS hp]
  simp only [Program.fieldsOf, Tryz.underlying95]
  go_simp
  by_cases h1 : k = k' <;> by_cases h2 : n = n' <;> by_cases h3 : s.toList = s'.toList <;> simp [h1, h2, h3]

theorem neqVal (k n k' n' : Int) (s s' : ByteArray) (w : World) :
    (binOp .neq 95 (.agg #[.int .i64 k, .int .i64 n, .string s]) (.agg #[.int .i64 k', .int .i64 n', .string s'])).run Tryz.prog w = .ok (.bool (!(k == k' && (n == n' && s.toList == s'.toList)))) w := by
  have u1 := Tryz.underlying2
  have u2 := Tryz.underlying9
  have a1 := Tryz.isAgg2
  have z1 := Tryz.sizeOf2
  have a2 := Tryz.isAgg9
  have z2 := Tryz.sizeOf9
  have hS : Tryz.prog.underlying 95 = some (.struct (Tryz.prog.fieldsOf 95)) := by kernel_rfl
  have hp : Tryz.prog.stoodInHeld 95 = false := by kernel_rfl
  rw [run_neq_struct, show (10000 : Nat) = 9999 + 1 from rfl, run_equalIn_agg w 9999 95 _ _ hS hp]
  simp only [Program.fieldsOf, Tryz.underlying95]
  go_simp
  by_cases h1 : k = k' <;> by_cases h2 : n = n' <;> by_cases h3 : s.toList = s'.toList <;> simp [h1, h2, h3]

/-- Whether a value is right, as a Bool on its fields. -/
def valOkB (k n : Int) (s : ByteArray) : Bool :=
  if k = 0 then n == 0 && s.toList.isEmpty else if k = 1 then decide (-1000000000 ≤ n) && decide (n ≤ 1000000000) && s.toList.isEmpty else if k = 2 then n == 0 && decide ((s.size : Int) ≤ 12) else false


theorem specIn (n lo hi : Int) (w : World) :
    Calls Tryz.prog 43 #[.int .i64 n, .int .i64 lo, .int .i64 hi] w fun e w' => e = .returned (.bool (decide (lo ≤ n) && decide (n ≤ hi))) ∧ w = w' := by
  by_cases h : lo ≤ n
  · go_enter Tryz.func43, Tryz.ntmps43
    go_wp2
    go_ret
    exact ⟨retB (by simp [h]), rfl⟩
  · have h' : decide (lo ≤ n) = false := by simpa using h
    go_enter Tryz.func43, Tryz.ntmps43
    go_wp2
    go_ret
    exact ⟨retB (by simp), rfl⟩

theorem specValOk (k n : Int) (s : ByteArray) (w : World) :
    Calls Tryz.prog 78 #[.agg #[.int .i64 k, .int .i64 n, .string s]] w fun e w' => e = .returned (.bool (valOkB k n s)) ∧ Below w.heap.size w w' := by
  have hb := fun o => (Below.refl w.heap.size w).alloc (Nat.le_refl _) o
  have HB := Lib.hid hb
  clear hb
  by_cases k0 : k = 0
  · subst k0
    go_enter Tryz.func78, Tryz.ntmps78
    go_wp2
    all_goals
      go_ret
      exact ⟨retB (by simp [valOkB, *]), HB.out _⟩
  have d0 : (k == 0) = false := by simpa using k0
  by_cases k1 : k = 1
  · subst k1
    by_cases h : (decide (-1000000000 ≤ n) && decide (n ≤ 1000000000)) = true
    · go_enter Tryz.func78, Tryz.ntmps78
      go_wp2_with (go_at_call 43; refine (specIn _ _ _ _).mono ?_; rintro e w' ⟨rfl, rfl⟩)
      go_ret
      exact ⟨retB (by simp [valOkB] at h ⊢; simp [h]), HB.out _⟩
    · have h' : (decide (-1000000000 ≤ n) && decide (n ≤ 1000000000)) = false := by simpa using h
      go_enter Tryz.func78, Tryz.ntmps78
      go_wp2_with (go_at_call 43; refine (specIn _ _ _ _).mono ?_; rintro e w' ⟨rfl, rfl⟩)
      go_ret
      exact ⟨retB (by simp [valOkB, h']), HB.out _⟩
  have d1 : (k == 1) = false := by simpa using k1
  by_cases k2 : k = 2
  · subst k2
    by_cases h : n = 0
    · subst h
      go_enter Tryz.func78, Tryz.ntmps78
      go_wp2
      go_ret
      exact ⟨retB (by simp [valOkB]), HB.out _⟩
    · have h' : (n == 0) = false := by simpa using h
      go_enter Tryz.func78, Tryz.ntmps78
      go_wp2
      go_ret
      exact ⟨retB (by simp [valOkB, h']), HB.out _⟩
  · have d2 : (k == 2) = false := by simpa using k2
    go_enter Tryz.func78, Tryz.ntmps78
    go_wp2
    go_ret
    exact ⟨retB (by simp [valOkB, k0, k1, k2]), HB.out _⟩
theorem as_num_num (v : Value) (w : World) : (Instr.typeAssert (.iface 192 v) 179 192 true).run Tryz.prog w = .ok (.tuple #[v, .bool true]) w := by kernel_rfl
theorem as_num_str (v : Value) (w : World) : (Instr.typeAssert (.iface 192 v) 179 193 true).run Tryz.prog w = .ok (.tuple #[.string ByteArray.empty, .bool false]) w := by kernel_rfl
theorem as_str_num (v : Value) (w : World) : (Instr.typeAssert (.iface 193 v) 179 192 true).run Tryz.prog w = .ok (.tuple #[.int .i64 0, .bool false]) w := by kernel_rfl
theorem as_str_str (v : Value) (w : World) : (Instr.typeAssert (.iface 193 v) 179 193 true).run Tryz.prog w = .ok (.tuple #[v, .bool true]) w := by kernel_rfl
theorem as_not_num (v : Value) (w : World) : (Instr.typeAssert (.iface 191 v) 179 192 true).run Tryz.prog w = .ok (.tuple #[.int .i64 0, .bool false]) w := by kernel_rfl
theorem as_not_str (v : Value) (w : World) : (Instr.typeAssert (.iface 191 v) 179 193 true).run Tryz.prog w = .ok (.tuple #[.string ByteArray.empty, .bool false]) w := by kernel_rfl

theorem implValOfNum (n : Int) (w : World) :
    Calls Tryz.prog 128 #[.iface 192 (.int .i64 n)] w fun e w' => e = .returned (.agg #[.int .i64 1, .int .i64 n, .string ⟨#[]⟩]) ∧ Below w.heap.size w w' := by
  have as1 := as_num_num
  go_enter Tryz.func128, Tryz.ntmps128
  go_wp2
  exact bodyPost_ret (v := .agg #[.int .i64 1, .int .i64 n, .string ⟨#[]⟩]) (by simp [results, Tryz.results128, go_sem]) rfl ⟨rfl, (Below.refl _ _).alloc (Nat.le_refl _) _⟩

theorem implValOfStr (s : ByteArray) (w : World) :
    Calls Tryz.prog 128 #[.iface 193 (.string s)] w fun e w' => e = .returned (.agg #[.int .i64 2, .int .i64 0, .string s]) ∧ Below w.heap.size w w' := by
  have as1 := as_str_num
  have as2 := as_str_str
  go_enter Tryz.func128, Tryz.ntmps128
  go_wp2
  exact bodyPost_ret (v := .agg #[.int .i64 2, .int .i64 0, .string s]) (by simp [results, Tryz.results128, go_sem]) rfl ⟨rfl, (Below.refl _ _).alloc (Nat.le_refl _) _⟩

theorem implValOfNot (w : World) :
    Calls Tryz.prog 128 #[.iface 191 (.agg #[])] w fun e w' => e = .returned (.agg #[.int .i64 0, .int .i64 0, .string ⟨#[]⟩]) ∧ Below w.heap.size w w' := by
  have as1 := as_not_num
  have as2 := as_not_str
  go_enter Tryz.func128, Tryz.ntmps128
  go_wp2
  exact bodyPost_ret (v := .agg #[.int .i64 0, .int .i64 0, .string ⟨#[]⟩]) (by simp [results, Tryz.results128, go_sem]) rfl ⟨rfl, (Below.refl _ _).alloc (Nat.le_refl _) _⟩

theorem rightOfNot (w : World) : (method 317 191 (.agg #[]) "loop.example/g00570/impl.right").run Tryz.prog w = .ok (153, .agg #[]) w := by kernel_rfl
theorem rightOfNum (n : Int) (w : World) : (method 317 192 (.int .i64 n) "loop.example/g00570/impl.right").run Tryz.prog w = .ok (132, .int .i64 n) w := by kernel_rfl
theorem rightOfStr (s : ByteArray) (w : World) : (method 317 193 (.string s) "loop.example/g00570/impl.right").run Tryz.prog w = .ok (156, .string s) w := by kernel_rfl

theorem rightNot (w : World) : Calls Tryz.prog 153 #[.agg #[]] w fun e w' => e = .returned (.bool true) ∧ Below w.heap.size w w' := by
  go_enter Tryz.func153, Tryz.ntmps153
  go_wp2
  go_ret
  first | exact ⟨rfl, Below.refl _ _⟩ | exact ⟨rfl, (Below.refl _ _).alloc (Nat.le_refl _) _⟩
theorem rightNum (n : Int) (w : World) : Calls Tryz.prog 132 #[.int .i64 n] w fun e w' => e = .returned (.bool (decide (-1000000000 ≤ n) && decide (n ≤ 1000000000))) ∧ w = w' := by
  by_cases h : -1000000000 ≤ n
  · go_enter Tryz.func132, Tryz.ntmps132
    go_wp2
    go_ret
    exact ⟨retB (by simp [h]), rfl⟩
  · have h' : decide (-1000000000 ≤ n) = false := by simpa using h
    go_enter Tryz.func132, Tryz.ntmps132
    go_wp2
    go_ret
    exact ⟨retB (by simp), rfl⟩
theorem rightStr (s : ByteArray) (w : World) : Calls Tryz.prog 156 #[.string s] w fun e w' => e = .returned (.bool (decide ((s.size : Int) ≤ 12))) ∧ w = w' := by
  go_enter Tryz.func156, Tryz.ntmps156
  go_wp2
  go_ret
  exact ⟨rfl, rfl⟩

/-- The three cells of a Val at block b. -/
def Cells3 (w : World) (b : Nat) (k n : Int) (s : ByteArray) : Prop := w.cell? ⟨b, 0, none⟩ = some (.int .i64 k) ∧ w.cell? ⟨b, 1, none⟩ = some (.int .i64 n) ∧ w.cell? ⟨b, 2, none⟩ = some (.string s)
theorem Cells3.below {w w' : World} {b : Nat} {k n : Int} {s : ByteArray} (h : Cells3 w b k n s) (hb : Below w.heap.size w w') : Cells3 w' b k n s :=
  ⟨(hb.cell (cell_lt h.1)).trans h.1, (hb.cell (cell_lt h.2.1)).trans h.2.1, (hb.cell (cell_lt h.2.2)).trans h.2.2⟩
theorem Cells3.new (w : World) (k n : Int) (s : ByteArray) (T : TypeId) : Cells3 (w.alloc (.cells #[.int .i64 k, .int .i64 n, .string s] T)) w.heap.size k n s := by simp [Cells3]

/-- What a right value is held as. -/
def heldV (k n : Int) (s : ByteArray) : Value := if k = 0 then .iface 191 (.agg #[]) else if k = 1 then .iface 192 (.int .i64 n) else .iface 193 (.string s)

end Go.Proofs.YthafgkcokecnnaaGreat
namespace Go.Proofs.YthafgkcokecnnaaGreat
open Go.RowKit

theorem chain1 (w : World) (o : Obj) {w1 : World} (hb : Below (w.alloc o).drew.heap.size (w.alloc o).drew w1) : Below w.heap.size w w1 :=
  (((Below.refl _ w).alloc (Nat.le_refl _) o).drew).trans (hb.mono (by simp))

/-- The cells of a boxed Val behind a call that makes memory. -/
theorem boxed {w w1 : World} {k n : Int} {s : ByteArray} {T : TypeId} (hb : Below (w.alloc (.cells #[.int .i64 k, .int .i64 n, .string s] T)).drew.heap.size (w.alloc (.cells #[.int .i64 k, .int .i64 n, .string s] T)).drew w1) :
    w1.cell? ⟨w.heap.size, 0, none⟩ = some (.int .i64 k) ∧ w1.cell? ⟨w.heap.size, 1, none⟩ = some (.int .i64 n) ∧ w1.cell? ⟨w.heap.size, 2, none⟩ = some (.string s) := by
  refine ⟨?_, ?_, ?_⟩ <;> (rw [hb.cell (by simp)]; simp)

/-- heldBy of what is right. -/
def HeldOk (k n : Int) (s : ByteArray) (w : World) (e : Ending) (w' : World) : Prop := e = .returned (.tuple #[heldV k n s, .bool true]) ∧ Below w.heap.size w w'
def HeldNo (w : World) (e : Ending) (w' : World) : Prop := e = .returned (.tuple #[.nilIface, .bool false]) ∧ Below w.heap.size w w'

set_option maxRecDepth 100000 in
set_option maxHeartbeats 1000000 in
theorem held0yes (s : ByteArray) (w : World) (hs : s.toList = []) :
    Calls Tryz.prog 118 #[.agg #[.int .i64 0, .int .i64 0, .string s]] w (HeldOk 0 0 s w) := by
  have hm := rightOfNot
  go_enter Tryz.func118, Tryz.ntmps118
  go_wp2_with fail
  go_region_held3 (fun w' => w'.cell? ⟨w.heap.size, 0, none⟩ = some (.int .i64 0) ∧ w'.cell? ⟨w.heap.size, 1, none⟩ = some (.int .i64 0) ∧ w'.cell? ⟨w.heap.size, 2, none⟩ = some (.string s)) (first | go_keep | (refine ⟨?_, ?_, ?_⟩ <;> (rw [hb.cell (by simp)]; simp)) | (refine ⟨?_, ?_, ?_⟩ <;> (rw [hb2.cell (by have := hb.size; simp at this; simp; omega), hb.cell (by simp)]; simp)))
    (first | (go_at_call 128; refine (implValOfNot _).mono ?_; rintro e w1 ⟨rfl, hb⟩) | (go_at_call 153; refine (rightNot _).mono ?_; rintro e w2 ⟨rfl, hb2⟩))
  go_wp2
  go_ret2
  exact ⟨rfl, (chain1 w _ hb).trans (hb2.mono (by have := hb.size; simp at this; omega))⟩

set_option maxRecDepth 100000 in
set_option maxHeartbeats 1000000 in
theorem held0n (n : Int) (s : ByteArray) (w : World) (hn : ¬ n = 0) :
    Calls Tryz.prog 118 #[.agg #[.int .i64 0, .int .i64 n, .string s]] w (HeldNo w) := by
  have e1 : (0 == n) = false := by simp; omega
  go_enter Tryz.func118, Tryz.ntmps118
  go_wp2_with fail
  first | (go_region_with ((go_at_call 128; refine (implValOfNot _).mono ?_; rintro e w1 ⟨rfl, hb⟩; obtain ⟨r0, r1, r2⟩ := boxed hb))) | fail
  all_goals
    go_wp2
    go_ret2
    exact ⟨rfl, chain1 w _ hb⟩

set_option maxRecDepth 100000 in
set_option maxHeartbeats 1000000 in
theorem held0s (n : Int) (s : ByteArray) (w : World) (hs : ¬ s.toList = []) :
    Calls Tryz.prog 118 #[.agg #[.int .i64 0, .int .i64 n, .string s]] w (HeldNo w) := by
  by_cases hn : n = 0
  · subst hn
    have e1 : (([] : List UInt8) == s.toList) = false := by simpa using hs
    go_enter Tryz.func118, Tryz.ntmps118
    go_wp2_with fail
    first | (go_region_with ((go_at_call 128; refine (implValOfNot _).mono ?_; rintro e w1 ⟨rfl, hb⟩; obtain ⟨r0, r1, r2⟩ := boxed hb))) | fail
    all_goals
      go_wp2
      go_ret2
      exact ⟨rfl, chain1 w _ hb⟩
  · exact held0n n s w hn

set_option maxRecDepth 100000 in
set_option maxHeartbeats 1000000 in
theorem held1yes (n : Int) (s : ByteArray) (w : World) (hs : s.toList = []) (h : (decide (-1000000000 ≤ n) && decide (n ≤ 1000000000)) = true) :
    Calls Tryz.prog 118 #[.agg #[.int .i64 1, .int .i64 n, .string s]] w (HeldOk 1 n s w) := by
  have hm := rightOfNum n
  go_enter Tryz.func118, Tryz.ntmps118
  go_wp2_with fail
  go_region_held3 (fun w' => w'.cell? ⟨w.heap.size, 0, none⟩ = some (.int .i64 1) ∧ w'.cell? ⟨w.heap.size, 1, none⟩ = some (.int .i64 n) ∧ w'.cell? ⟨w.heap.size, 2, none⟩ = some (.string s)) (first | go_keep | (refine ⟨?_, ?_, ?_⟩ <;> (rw [hb.cell (by simp)]; simp)) | (refine ⟨?_, ?_, ?_⟩ <;> (rw [hb2.cell (by have := hb.size; simp at this; simp; omega), hb.cell (by simp)]; simp)))
    (first | (go_at_call 128; refine (implValOfNum _ _).mono ?_; rintro e w1 ⟨rfl, hb⟩) | (go_at_call 132; refine (rightNum _ _).mono ?_; rintro e w2 ⟨rfl, rfl⟩))
  go_wp2
  go_ret2
  exact ⟨rfl, chain1 w _ hb⟩

set_option maxRecDepth 100000 in
set_option maxHeartbeats 1000000 in
theorem held1no (n : Int) (s : ByteArray) (w : World) (hs : s.toList = []) (h : (decide (-1000000000 ≤ n) && decide (n ≤ 1000000000)) = false) :
    Calls Tryz.prog 118 #[.agg #[.int .i64 1, .int .i64 n, .string s]] w (HeldNo w) := by
  have hm := rightOfNum n
  go_enter Tryz.func118, Tryz.ntmps118
  go_wp2_with fail
  go_region_held3 (fun w' => w'.cell? ⟨w.heap.size, 0, none⟩ = some (.int .i64 1) ∧ w'.cell? ⟨w.heap.size, 1, none⟩ = some (.int .i64 n) ∧ w'.cell? ⟨w.heap.size, 2, none⟩ = some (.string s)) (first | go_keep | (refine ⟨?_, ?_, ?_⟩ <;> (rw [hb.cell (by simp)]; simp)) | (refine ⟨?_, ?_, ?_⟩ <;> (rw [hb2.cell (by have := hb.size; simp at this; simp; omega), hb.cell (by simp)]; simp)))
    (first | (go_at_call 128; refine (implValOfNum _ _).mono ?_; rintro e w1 ⟨rfl, hb⟩) | (go_at_call 132; refine (rightNum _ _).mono ?_; rintro e w2 ⟨rfl, rfl⟩))
  go_wp2
  go_ret2
  exact ⟨rfl, chain1 w _ hb⟩

set_option maxRecDepth 100000 in
set_option maxHeartbeats 1000000 in
theorem held1s (n : Int) (s : ByteArray) (w : World) (hs : ¬ s.toList = []) :
    Calls Tryz.prog 118 #[.agg #[.int .i64 1, .int .i64 n, .string s]] w (HeldNo w) := by
  have e1 : (([] : List UInt8) == s.toList) = false := by simpa using hs
  go_enter Tryz.func118, Tryz.ntmps118
  go_wp2_with fail
  first | (go_region_with ((go_at_call 128; refine (implValOfNum _ _).mono ?_; rintro e w1 ⟨rfl, hb⟩; obtain ⟨r0, r1, r2⟩ := boxed hb))) | fail
  all_goals
    go_wp2
    go_ret2
    exact ⟨rfl, chain1 w _ hb⟩

set_option maxRecDepth 100000 in
set_option maxHeartbeats 1000000 in
theorem held2yes (s : ByteArray) (w : World) (h : decide ((s.size : Int) ≤ 12) = true) :
    Calls Tryz.prog 118 #[.agg #[.int .i64 2, .int .i64 0, .string s]] w (HeldOk 2 0 s w) := by
  have hm := rightOfStr s
  go_enter Tryz.func118, Tryz.ntmps118
  go_wp2_with fail
  go_region_held3 (fun w' => w'.cell? ⟨w.heap.size, 0, none⟩ = some (.int .i64 2) ∧ w'.cell? ⟨w.heap.size, 1, none⟩ = some (.int .i64 0) ∧ w'.cell? ⟨w.heap.size, 2, none⟩ = some (.string s)) (first | go_keep | (refine ⟨?_, ?_, ?_⟩ <;> (rw [hb.cell (by simp)]; simp)) | (refine ⟨?_, ?_, ?_⟩ <;> (rw [hb2.cell (by have := hb.size; simp at this; simp; omega), hb.cell (by simp)]; simp)))
    (first | (go_at_call 128; refine (implValOfStr _ _).mono ?_; rintro e w1 ⟨rfl, hb⟩) | (go_at_call 156; refine (rightStr _ _).mono ?_; rintro e w2 ⟨rfl, rfl⟩))
  go_wp2
  go_ret2
  exact ⟨rfl, chain1 w _ hb⟩

set_option maxRecDepth 100000 in
set_option maxHeartbeats 1000000 in
theorem held2no (s : ByteArray) (w : World) (h : decide ((s.size : Int) ≤ 12) = false) :
    Calls Tryz.prog 118 #[.agg #[.int .i64 2, .int .i64 0, .string s]] w (HeldNo w) := by
  have hm := rightOfStr s
  go_enter Tryz.func118, Tryz.ntmps118
  go_wp2_with fail
  go_region_held3 (fun w' => w'.cell? ⟨w.heap.size, 0, none⟩ = some (.int .i64 2) ∧ w'.cell? ⟨w.heap.size, 1, none⟩ = some (.int .i64 0) ∧ w'.cell? ⟨w.heap.size, 2, none⟩ = some (.string s)) (first | go_keep | (refine ⟨?_, ?_, ?_⟩ <;> (rw [hb.cell (by simp)]; simp)) | (refine ⟨?_, ?_, ?_⟩ <;> (rw [hb2.cell (by have := hb.size; simp at this; simp; omega), hb.cell (by simp)]; simp)))
    (first | (go_at_call 128; refine (implValOfStr _ _).mono ?_; rintro e w1 ⟨rfl, hb⟩) | (go_at_call 156; refine (rightStr _ _).mono ?_; rintro e w2 ⟨rfl, rfl⟩))
  go_wp2
  go_ret2
  exact ⟨rfl, chain1 w _ hb⟩

set_option maxRecDepth 100000 in
set_option maxHeartbeats 1000000 in
theorem held2n (n : Int) (s : ByteArray) (w : World) (hn : ¬ n = 0) :
    Calls Tryz.prog 118 #[.agg #[.int .i64 2, .int .i64 n, .string s]] w (HeldNo w) := by
  have e1 : (0 == n) = false := by simp; omega
  go_enter Tryz.func118, Tryz.ntmps118
  go_wp2_with fail
  first | (go_region_with ((go_at_call 128; refine (implValOfStr _ _).mono ?_; rintro e w1 ⟨rfl, hb⟩; obtain ⟨r0, r1, r2⟩ := boxed hb))) | fail
  all_goals
    go_wp2
    go_ret2
    exact ⟨rfl, chain1 w _ hb⟩

theorem heldElse (k n : Int) (s : ByteArray) (w : World) (k0 : (k == 0) = false) (k1 : (k == 1) = false) (k2 : (k == 2) = false) :
    Calls Tryz.prog 118 #[.agg #[.int .i64 k, .int .i64 n, .string s]] w (HeldNo w) := by
  go_enter Tryz.func118, Tryz.ntmps118
  go_wp2
  go_ret2
  exact ⟨rfl, (Below.refl _ _).alloc (Nat.le_refl _) _⟩

end Go.Proofs.YthafgkcokecnnaaGreat
namespace Go.Proofs.YthafgkcokecnnaaGreat
open Go.RowKit

theorem heldYes (k n : Int) (s : ByteArray) (w : World) (h : valOkB k n s = true) :
    Calls Tryz.prog 118 #[.agg #[.int .i64 k, .int .i64 n, .string s]] w (HeldOk k n s w) := by
  unfold valOkB at h
  by_cases k0 : k = 0
  · subst k0
    simp at h
    obtain ⟨rfl, hs⟩ := h
    exact held0yes s w hs
  by_cases k1 : k = 1
  · subst k1
    simp at h
    exact held1yes n s w h.2 (by simpa using h.1)
  by_cases k2 : k = 2
  · subst k2
    simp at h
    obtain ⟨rfl, hs⟩ := h
    exact held2yes s w (by simpa using hs)
  · simp [k0, k1, k2] at h

theorem heldNo (k n : Int) (s : ByteArray) (w : World) (h : valOkB k n s = false) :
    Calls Tryz.prog 118 #[.agg #[.int .i64 k, .int .i64 n, .string s]] w (HeldNo w) := by
  unfold valOkB at h
  by_cases k0 : k = 0
  · subst k0
    by_cases hs : s.toList = []
    · by_cases hn : n = 0
      · simp [hs, hn] at h
      · exact held0n n s w hn
    · exact held0s n s w hs
  by_cases k1 : k = 1
  · subst k1
    by_cases hs : s.toList = []
    · refine held1no n s w hs ?_
      simpa [hs] using h
    · exact held1s n s w hs
  by_cases k2 : k = 2
  · subst k2
    by_cases hn : n = 0
    · subst hn
      refine held2no s w ?_
      simpa using h
    · exact held2n n s w hn
  · exact heldElse k n s w (by simpa using k0) (by simpa using k1) (by simpa using k2)

theorem implValOk (k n : Int) (s : ByteArray) (w : World) :
    Calls Tryz.prog 108 #[.agg #[.int .i64 k, .int .i64 n, .string s]] w fun e w' => e = .returned (.bool (valOkB k n s)) ∧ Below w.heap.size w w' := by
  have hb0 := (Below.refl w.heap.size w).alloc (Nat.le_refl _) (.cells #[.int .i64 k, .int .i64 n, .string s] 95)
  cases h : valOkB k n s
  · have H := Lib.hid h; clear h
    go_enter Tryz.func108, Tryz.ntmps108
    go_wp2_with fail
    refine (heldNo k n s _ H.out).mono ?_
    rintro e w1 ⟨rfl, hb⟩
    go_wp2
    go_ret
    exact ⟨rfl, hb0.trans (hb.mono (by simp))⟩
  · have H := Lib.hid h; clear h
    go_enter Tryz.func108, Tryz.ntmps108
    go_wp2_with fail
    refine (heldYes k n s _ H.out).mono ?_
    rintro e w1 ⟨rfl, hb⟩
    go_wp2
    go_ret
    exact ⟨rfl, hb0.trans (hb.mono (by simp))⟩

def cmpI (x y : Int) : Int := if x < y then -1 else if y < x then 1 else 0
def cmpS (x y : ByteArray) : Int := if Op.bytesLess x.toList y.toList = true then -1 else if x.toList = y.toList then 0 else 1
def firstNZ (x y z : Int) : Int := if x ≠ 0 then x else if y ≠ 0 then y else z

theorem cmpInt (x y : Int) (w : World) :
    Calls Tryz.prog 134 #[.int .i64 x, .int .i64 y] w fun e w' => e = .returned (.int .i64 (cmpI x y)) ∧ w = w' := by
  unfold cmpI
  by_cases h : x < y
  · rw [if_pos h]
    go_enter Tryz.func134, Tryz.ntmps134
    go_wp2
    go_ret
    exact ⟨rfl, rfl⟩
  by_cases h2 : y < x
  · rw [if_neg h, if_pos h2]
    have hd : decide (x < y) = false := by simpa using h
    go_enter Tryz.func134, Tryz.ntmps134
    go_wp2
    go_ret
    exact ⟨rfl, rfl⟩
  · rw [if_neg h, if_neg h2]
    have hd : decide (x < y) = false := by simpa using h
    have hd2 : decide (y < x) = false := by simpa using h2
    go_enter Tryz.func134, Tryz.ntmps134
    go_wp2
    go_ret
    exact ⟨rfl, rfl⟩

theorem cmpStr (x y : ByteArray) (w : World) :
    Calls Tryz.prog 135 #[.string x, .string y] w fun e w' => e = .returned (.int .i64 (cmpS x y)) ∧ w = w' := by
  unfold cmpS
  by_cases h : Op.bytesLess x.toList y.toList = true
  · rw [if_pos h]
    go_enter Tryz.func135, Tryz.ntmps135
    go_wp2
    go_ret
    exact ⟨rfl, rfl⟩
  have h' : Op.bytesLess x.toList y.toList = false := by simpa using h
  by_cases h2 : x.toList = y.toList
  · rw [if_neg h, if_pos h2]
    have h3 : (x.toList == y.toList) = true := by simpa using h2
    clear h h2
    go_enter Tryz.func135, Tryz.ntmps135
    go_wp2
    go_ret
    exact ⟨rfl, rfl⟩
  · rw [if_neg h, if_neg h2]
    have h3 : (x.toList == y.toList) = false := by simpa using h2
    clear h
    go_enter Tryz.func135, Tryz.ntmps135
    go_wp2
    go_ret
    exact ⟨rfl, rfl⟩

set_option maxHeartbeats 1000000 in
theorem cmpOr (b : Nat) (x y z : Int) (w : World) (h0 : w.cell? ⟨b, 0, none⟩ = some (.int .i64 x)) (h1 : w.cell? ⟨b, 1, none⟩ = some (.int .i64 y)) (h2 : w.cell? ⟨b, 2, none⟩ = some (.int .i64 z)) :
    Calls Tryz.prog 133 #[.slice (some ⟨b, 0, none⟩) 3 3] w fun e w' => e = .returned (.int .i64 (firstNZ x y z)) ∧ w = w' := by
  by_cases hx : x = 0
  · subst hx
    by_cases hy : y = 0
    · subst hy
      by_cases hz : z = 0
      · subst hz
        rw [show firstNZ 0 0 0 = 0 by decide]
        go_enter Tryz.func133, Tryz.ntmps133
        go_wp2
        refine wp_loop_rounds 4 ?_
        rw [rounds_succ]
        go_wp2
        rw [rounds_succ]
        go_wp2
        rw [rounds_succ]
        go_wp2
        rw [rounds_succ]
        go_wp2
        go_ret
        exact ⟨rfl, rfl⟩
      · rw [show firstNZ 0 0 z = z by simp [firstNZ]]
        have hz' : (z != 0) = true := by simpa using hz
        go_enter Tryz.func133, Tryz.ntmps133
        go_wp2
        refine wp_loop_rounds 4 ?_
        rw [rounds_succ]
        go_wp2
        rw [rounds_succ]
        go_wp2
        rw [rounds_succ]
        go_wp2
        go_ret
        exact ⟨rfl, rfl⟩
    · rw [show firstNZ 0 y z = y by simp [firstNZ, hy]]
      have hy' : (y != 0) = true := by simpa using hy
      go_enter Tryz.func133, Tryz.ntmps133
      go_wp2
      refine wp_loop_rounds 4 ?_
      rw [rounds_succ]
      go_wp2
      rw [rounds_succ]
      go_wp2
      go_ret
      exact ⟨rfl, rfl⟩
  · rw [show firstNZ x y z = x by simp [firstNZ, hx]]
    have hx' : (x != 0) = true := by simpa using hx
    go_enter Tryz.func133, Tryz.ntmps133
    go_wp2
    refine wp_loop_rounds 4 ?_
    rw [rounds_succ]
    go_wp2
    go_ret
    exact ⟨rfl, rfl⟩
end Go.Proofs.YthafgkcokecnnaaGreat
namespace Go.Proofs.YthafgkcokecnnaaGreat
open Go.RowKit

def szN (left : Int) (s : ByteArray) : Int := if left - s.size < 0 then -1 else left - s.size

theorem lawsSzVal (k n : Int) (s : ByteArray) (left : Int) (w : World) (h0 : 0 ≤ left) (h1 : left ≤ 1048576) (hs : s.size ≤ maxLen) :
    Calls Tryz.prog 74 #[.agg #[.int .i64 k, .int .i64 n, .string s], .int .i64 left] w fun e w' => e = .returned (.int .i64 (szN left s)) ∧ Below w.heap.size w w' := by
  unfold maxLen at hs
  unfold szN
  by_cases h : left - s.size < 0
  · rw [if_pos h]
    go_enter Tryz.func74, Tryz.ntmps74
    go_wp2
    go_ret
    exact ⟨rfl, (Below.refl _ _).alloc (Nat.le_refl _) _⟩
  · rw [if_neg h]
    have h' : decide (left - (s.size : Int) < 0) = false := by simpa using h
    go_enter Tryz.func74, Tryz.ntmps74
    go_wp2
    go_ret
    exact ⟨rfl, (Below.refl _ _).alloc (Nat.le_refl _) _⟩

set_option maxHeartbeats 400000 in
theorem lawsToVal (k n : Int) (s : ByteArray) (w : World) :
    Calls Tryz.prog 85 #[.agg #[.int .i64 k, .int .i64 n, .string s]] w fun e w' => e = .returned (.agg #[.int .i64 k, .int .i64 n, .string s]) ∧ Below w.heap.size w w' := by
  go_enter Tryz.func85, Tryz.ntmps85
  go_wp2
  exact bodyPost_ret (v := .agg #[.int .i64 k, .int .i64 n, .string s]) (by simp [results, Tryz.results85, go_sem]) rfl
    ⟨rfl, (((Below.refl _ _).alloc (Nat.le_refl _) _).alloc (by simp) _).alloc (by simp; omega) _⟩
end Go.Proofs.YthafgkcokecnnaaGreat
namespace Go.Proofs.YthafgkcokecnnaaGreat
open Go.RowKit

/-- A value, by its fields. -/
structure Vl where
  k : Int
  n : Int
  s : ByteArray

/-- A part of an expression, by its fields. -/
structure Tk where
  k : Int
  c : Int
  vk : Int
  vn : Int
  vs : ByteArray

/-- Whether a value is the zero value. -/
def zeroB (k n : Int) (s : ByteArray) : Bool := k == 0 && (n == 0 && s.toList.isEmpty)

def isOpB (k : Int) : Bool := decide (3 ≤ k) && decide (k ≤ 10)

def tokB (t : Tk) (cols : Int) : Bool :=
  if t.k = 1 then decide (0 ≤ t.c) && (decide (t.c < cols) && zeroB t.vk t.vn t.vs)
  else if t.k = 2 then t.c == 0 && valOkB t.vk t.vn t.vs
  else if isOpB t.k then t.c == 0 && zeroB t.vk t.vn t.vs else false

/-- How many values a part takes. -/
def takes (k : Int) : Nat := if k = 7 ∨ k = 8 then 1 else if k = 3 ∨ k = 4 ∨ k = 5 ∨ k = 6 ∨ k = 9 ∨ k = 10 then 2 else 0

/-- How many values are left behind the parts; none: they are not right. -/
def exprGo (cols : Int) : List Tk → Nat → Option Nat
  | [], left => some left
  | t :: ts, left => if tokB t cols = true ∧ takes t.k ≤ left then exprGo cols ts (left - takes t.k + 1) else none

def exprB (ts : List Tk) (cols : Int) : Bool := decide (0 ≤ cols) && (decide (cols ≤ 16) && (decide (ts.length ≤ 24) && exprGo cols ts 0 == some 1))

theorem exprGo_append (cols : Int) : ∀ (a b : List Tk) (n : Nat), exprGo cols (a ++ b) n = (exprGo cols a n).bind (exprGo cols b)
  | [], b, n => rfl
  | t :: ts, b, n => by
    simp only [List.cons_append, exprGo]
    split
    · exact exprGo_append cols ts b _
    · rfl

theorem takes_le (k : Int) : takes k ≤ 2 := by unfold takes; split <;> (try split) <;> omega

theorem exprGo_le (cols : Int) : ∀ (a : List Tk) (n m : Nat), exprGo cols a n = some m → m ≤ n + a.length
  | [], n, m, h => by simp [exprGo] at h; omega
  | t :: ts, n, m, h => by
    simp only [exprGo] at h
    split at h
    · have := exprGo_le cols ts _ _ h
      simp; omega
    · cases h

/-- The first i parts and one more. -/
theorem exprGo_snoc (cols : Int) (ts : List Tk) (i : Nat) (hi : i < ts.length) (n m : Nat) (h : exprGo cols (ts.take i) n = some m) :
    exprGo cols (ts.take (i + 1)) n = if tokB ts[i] cols = true ∧ takes ts[i].k ≤ m then some (m - takes ts[i].k + 1) else none := by
  rw [List.take_succ_eq_append_getElem hi, exprGo_append, h]
  simp [exprGo]

/-- Once it is not right it stays so. -/
theorem exprGo_dead (cols : Int) (ts : List Tk) (i : Nat) (n : Nat) (h : exprGo cols (ts.take i) n = none) : exprGo cols ts n = none := by
  have e : ts = ts.take i ++ ts.drop i := (List.take_append_drop i ts).symm
  rw [e, exprGo_append, h]
  rfl
end Go.Proofs.YthafgkcokecnnaaGreat
namespace Go.Proofs.YthafgkcokecnnaaGreat
open Go.RowKit

def Tk.cells (t : Tk) : List Value := [.int .i64 t.k, .int .i64 t.c, .int .i64 t.vk, .int .i64 t.vn, .string t.vs]
/-- A slice of parts. -/
def Toks (w : World) (A : Option Addr) (n : Nat) (ts : List Tk) : Prop := Cellz w 5 A n (ts.map Tk.cells)

theorem Toks.len {w : World} {A : Option Addr} {n : Nat} {ts : List Tk} (h : Toks w A n ts) : ts.length = n := by simpa using h.1
theorem Toks.below {w w' : World} {A : Option Addr} {n : Nat} {ts : List Tk} (h : Toks w A n ts) (hb : Below w.heap.size w w') : Toks w' A n ts := Cellz.below h hb
theorem Toks.at_ {w : World} {A : Option Addr} {n : Nat} {ts : List Tk} (h : Toks w A n ts) {i : Nat} (hi : i < ts.length) :
    ∃ b off, A = some ⟨b, off, none⟩ ∧ w.cell? ⟨b, off + i * 5, none⟩ = some (.int .i64 ts[i].k) ∧ w.cell? ⟨b, off + i * 5 + 1, none⟩ = some (.int .i64 ts[i].c) ∧
      w.cell? ⟨b, off + i * 5 + 2, none⟩ = some (.int .i64 ts[i].vk) ∧ w.cell? ⟨b, off + i * 5 + 3, none⟩ = some (.int .i64 ts[i].vn) ∧ w.cell? ⟨b, off + i * 5 + 4, none⟩ = some (.string ts[i].vs) := by
  have hl := h.len
  obtain ⟨b, off, rfl, hc⟩ := h.2.2 (by omega)
  have hi' : i < (ts.map Tk.cells).length := by simpa using hi
  have g : ∀ j v, ts[i].cells[j]? = some v → w.cell? ⟨b, off + i * 5 + j, none⟩ = some v := by
    intro j v hv
    have e : (ts.map Tk.cells)[i] = ts[i].cells := by simp
    obtain ⟨hj, hv'⟩ := List.getElem?_eq_some_iff.1 hv
    have := hc i hi' j (by rw [e]; exact hj)
    rw [Nat.add_assoc, this]
    simp only [e, hv']
  exact ⟨b, off, rfl, g 0 _ rfl, g 1 _ rfl, g 2 _ rfl, g 3 _ rfl, g 4 _ rfl⟩

theorem implIsOp (k : Int) (w : World) : Calls Tryz.prog 117 #[.int .i64 k] w fun e w' => e = .returned (.bool (isOpB k)) ∧ w = w' := by
  unfold isOpB
  by_cases h : 3 ≤ k
  · go_enter Tryz.func117, Tryz.ntmps117
    go_wp2
    go_ret
    exact ⟨retB (by simp [h]), rfl⟩
  · have h' : decide (3 ≤ k) = false := by simpa using h
    go_enter Tryz.func117, Tryz.ntmps117
    go_wp2
    go_ret
    exact ⟨retB (by simp), rfl⟩

set_option maxRecDepth 100000 in
set_option maxHeartbeats 1000000 in
theorem implTokOk (t : Tk) (cols : Int) (w : World) :
    Calls Tryz.prog 96 #[.agg #[.int .i64 t.k, .int .i64 t.c, .int .i64 t.vk, .int .i64 t.vn, .string t.vs], .int .i64 cols] w fun e w' => e = .returned (.bool (tokB t cols)) ∧ Below w.heap.size w w' := by
  obtain ⟨k, c, vk, vn, vs⟩ := t
  have hb := (Below.refl w.heap.size w).alloc (Nat.le_refl _) (.cells #[.int .i64 k, .int .i64 c, .int .i64 vk, .int .i64 vn, .string vs] 113)
  have HB := Lib.hid hb
  clear hb
  by_cases h1 : k = 1
  · subst h1
    go_enter Tryz.func96, Tryz.ntmps96
    go_wp2
    all_goals
      go_ret
      exact ⟨retB (by first | (simp [tokB, zeroB, *]; done) | (simp [tokB, zeroB]; omega)), (Below.refl _ _).alloc (Nat.le_refl _) _⟩
  have e1 : (k == 1) = false := by simpa using h1
  by_cases h2 : k = 2
  · subst h2
    by_cases hc : c = 0
    · subst hc
      go_enter Tryz.func96, Tryz.ntmps96
      go_wp2_with fail
      refine (implValOk _ _ _ _).mono ?_
      rintro e w1 ⟨rfl, hb1⟩
      go_wp2
      go_ret
      exact ⟨retB (by simp [tokB]), HB.out.trans (hb1.mono (by simp))⟩
    · have ec : (c == 0) = false := by simpa using hc
      go_enter Tryz.func96, Tryz.ntmps96
      go_wp2
      go_ret
      exact ⟨retB (by simp [tokB, hc]), (Below.refl _ _).alloc (Nat.le_refl _) _⟩
  have e2 : (k == 2) = false := by simpa using h2
  cases ho : isOpB k
  · have HO := Lib.hid ho
    go_enter Tryz.func96, Tryz.ntmps96
    go_wp2_with fail
    refine (implIsOp _ _).mono ?_
    rintro e w1 ⟨rfl, rfl⟩
    go_wp2
    go_ret
    exact ⟨retB (by simp [tokB, h1, h2, HO.out]), (Below.refl _ _).alloc (Nat.le_refl _) _⟩
  · have HO := Lib.hid ho
    go_enter Tryz.func96, Tryz.ntmps96
    go_wp2_with fail
    refine (implIsOp _ _).mono ?_
    rintro e w1 ⟨rfl, rfl⟩
    go_wp2
    all_goals
      go_ret
      exact ⟨retB (by simp [tokB, zeroB, HO.out, *]), (Below.refl _ _).alloc (Nat.le_refl _) _⟩
end Go.Proofs.YthafgkcokecnnaaGreat
namespace Go.Proofs.YthafgkcokecnnaaGreat
open Go.RowKit

/-- The table of ops, as the program lays it. -/
def opsCells : Array Value := #[.string ⟨#[]⟩, .int .i64 0, .nilFunc, .string ⟨#[]⟩, .int .i64 0, .nilFunc, .string ⟨#[]⟩, .int .i64 0, .nilFunc, .string ⟨#[61]⟩, .int .i64 2, .func (.func 109) #[] #[], .string ⟨#[60]⟩, .int .i64 2, .func (.func 110) #[] #[], .string ⟨#[97, 110, 100]⟩, .int .i64 2, .func (.func 111) #[] #[], .string ⟨#[111, 114]⟩, .int .i64 2, .func (.func 112) #[] #[], .string ⟨#[110, 111, 116]⟩, .int .i64 1, .func (.func 113) #[] #[], .string ⟨#[105, 115, 110, 117, 108, 108]⟩, .int .i64 1, .func (.func 114) #[] #[], .string ⟨#[43]⟩, .int .i64 2, .func (.func 115) #[] #[], .string ⟨#[45]⟩, .int .i64 2, .func (.func 116) #[] #[]]
def opsZero : Array Value := #[.string ⟨#[]⟩, .int .i64 0, .nilFunc, .string ⟨#[]⟩, .int .i64 0, .nilFunc, .string ⟨#[]⟩, .int .i64 0, .nilFunc, .string ⟨#[]⟩, .int .i64 0, .nilFunc, .string ⟨#[]⟩, .int .i64 0, .nilFunc, .string ⟨#[]⟩, .int .i64 0, .nilFunc, .string ⟨#[]⟩, .int .i64 0, .nilFunc, .string ⟨#[]⟩, .int .i64 0, .nilFunc, .string ⟨#[]⟩, .int .i64 0, .nilFunc, .string ⟨#[]⟩, .int .i64 0, .nilFunc, .string ⟨#[]⟩, .int .i64 0, .nilFunc]

set_option maxRecDepth 100000 in
set_option maxHeartbeats 1000000 in
theorem implOpTable (w : World) :
    Calls Tryz.prog 95 #[] w fun e w' => e = .returned (.agg opsCells) ∧ Below w.heap.size w w' := by
  have hsz : (Tryz.prog.info? 165).map (·.size) = some opsCells.size := by kernel_rfl
  have hg := Go.heap_alloc_last w (.cells opsCells 165)
  have h1 : opsCells.all (·.oneCell') = true := by simp [opsCells, Value.oneCell']
  have HS := Lib.hid hsz
  have H1 := Lib.hid h1
  have HG := Lib.hid hg
  clear hsz hg h1
  go_enter Tryz.func95, Tryz.ntmps95
  go_wp2_with (refine wpList_store_row rfl 165 (.tmp 0) (.tmp 9) rfl w.heap.size opsCells rfl rfl 165 opsZero (Go.heap_alloc_last w (.cells opsZero 165)) HS.out rfl H1.out ?_)
  rw [World.setRow_alloc_new]
  exact bodyPost_ret (results_cell_row (p := 0) (ty := 165) rfl _ _ w.heap.size 165 opsCells (0, 0) _ rfl HG.out Tryz.underlying165 rfl HS.out) rfl ⟨rfl, (Below.refl _ _).alloc (Nat.le_refl _) _⟩

/-- How many values a part takes; -1: it is not right. -/
def takesOr (t : Tk) (cols : Int) : Int := if tokB t cols = true then takes t.k else -1

set_option maxRecDepth 100000 in
set_option maxHeartbeats 4000000 in
theorem specTakes (t : Tk) (cols : Int) (w : World) (h0 : 0 ≤ cols) (h16 : cols ≤ 16) :
    Calls Tryz.prog 79 #[.agg #[.int .i64 t.k, .int .i64 t.c, .int .i64 t.vk, .int .i64 t.vn, .string t.vs], .int .i64 cols] w fun e w' => e = .returned (.int .i64 (takesOr t cols)) ∧ Below w.heap.size w w' := by
  obtain ⟨k, c, vk, vn, vs⟩ := t
  by_cases h1 : k = 1
  · subst h1
    go_enter Tryz.func79, Tryz.ntmps79
    go_wp2_with (go_at_call 43; refine (specIn _ _ _ _).mono ?_; rintro e w1 ⟨rfl, rfl⟩)
    all_goals
      go_ret
      exact ⟨retI (by first | (simp [takesOr, tokB, zeroB, takes, *]; done) | (simp [takesOr, tokB, zeroB, takes, *]; omega)), (Below.refl _ _).alloc (Nat.le_refl _) _⟩
  have e1 : (k == 1) = false := by simpa using h1
  have d1 : (k != 1) = true := by simpa using h1
  by_cases h2 : k = 2
  · subst h2
    by_cases hc : c = 0
    · subst hc
      go_enter Tryz.func79, Tryz.ntmps79
      go_wp2_with fail
      refine (specValOk _ _ _ _).mono ?_
      rintro e w1 ⟨rfl, hb1⟩
      have HB := Lib.hid (((Below.refl w.heap.size w).alloc (Nat.le_refl _) _).trans (hb1.mono (by simp)))
      clear hb1
      go_wp2
      all_goals
        go_ret
        exact ⟨retI (by simp [takesOr, tokB, takes, *]), HB.out⟩
    · have ec : (c != 0) = true := by simpa using hc
      go_enter Tryz.func79, Tryz.ntmps79
      go_wp2
      go_ret
      exact ⟨retI (by simp [takesOr, tokB, hc]), (Below.refl _ _).alloc (Nat.le_refl _) _⟩
  have e2 : (k == 2) = false := by simpa using h2
  have d2 : (k != 2) = true := by simpa using h2
  by_cases h7 : k = 7
  · subst h7
    by_cases hc : c = 0
    · subst hc
      go_enter Tryz.func79, Tryz.ntmps79
      go_wp2
      all_goals
        go_ret
        exact ⟨retI (by simp [takesOr, tokB, zeroB, isOpB, takes, *]), (Below.refl _ _).alloc (Nat.le_refl _) _⟩
    · have ec : (c != 0) = true := by simpa using hc
      go_enter Tryz.func79, Tryz.ntmps79
      go_wp2
      go_ret
      exact ⟨retI (by simp [takesOr, tokB, isOpB, hc]), (Below.refl _ _).alloc (Nat.le_refl _) _⟩
  have e7 : (k == 7) = false := by simpa using h7
  by_cases h8 : k = 8
  · subst h8
    by_cases hc : c = 0
    · subst hc
      go_enter Tryz.func79, Tryz.ntmps79
      go_wp2
      all_goals
        go_ret
        exact ⟨retI (by simp [takesOr, tokB, zeroB, isOpB, takes, *]), (Below.refl _ _).alloc (Nat.le_refl _) _⟩
    · have ec : (c != 0) = true := by simpa using hc
      go_enter Tryz.func79, Tryz.ntmps79
      go_wp2
      go_ret
      exact ⟨retI (by simp [takesOr, tokB, isOpB, hc]), (Below.refl _ _).alloc (Nat.le_refl _) _⟩
  have e8 : (k == 8) = false := by simpa using h8
  by_cases h3 : k = 3
  · subst h3
    by_cases hc : c = 0
    · subst hc
      go_enter Tryz.func79, Tryz.ntmps79
      go_wp2
      all_goals
        go_ret
        exact ⟨retI (by simp [takesOr, tokB, zeroB, isOpB, takes, *]), (Below.refl _ _).alloc (Nat.le_refl _) _⟩
    · have ec : (c != 0) = true := by simpa using hc
      go_enter Tryz.func79, Tryz.ntmps79
      go_wp2
      go_ret
      exact ⟨retI (by simp [takesOr, tokB, isOpB, hc]), (Below.refl _ _).alloc (Nat.le_refl _) _⟩
  have e3 : (k == 3) = false := by simpa using h3
  by_cases h4 : k = 4
  · subst h4
    by_cases hc : c = 0
    · subst hc
      go_enter Tryz.func79, Tryz.ntmps79
      go_wp2
      all_goals
        go_ret
        exact ⟨retI (by simp [takesOr, tokB, zeroB, isOpB, takes, *]), (Below.refl _ _).alloc (Nat.le_refl _) _⟩
    · have ec : (c != 0) = true := by simpa using hc
      go_enter Tryz.func79, Tryz.ntmps79
      go_wp2
      go_ret
      exact ⟨retI (by simp [takesOr, tokB, isOpB, hc]), (Below.refl _ _).alloc (Nat.le_refl _) _⟩
  have e4 : (k == 4) = false := by simpa using h4
  by_cases h5 : k = 5
  · subst h5
    by_cases hc : c = 0
    · subst hc
      go_enter Tryz.func79, Tryz.ntmps79
      go_wp2
      all_goals
        go_ret
        exact ⟨retI (by simp [takesOr, tokB, zeroB, isOpB, takes, *]), (Below.refl _ _).alloc (Nat.le_refl _) _⟩
    · have ec : (c != 0) = true := by simpa using hc
      go_enter Tryz.func79, Tryz.ntmps79
      go_wp2
      go_ret
      exact ⟨retI (by simp [takesOr, tokB, isOpB, hc]), (Below.refl _ _).alloc (Nat.le_refl _) _⟩
  have e5 : (k == 5) = false := by simpa using h5
  by_cases h6 : k = 6
  · subst h6
    by_cases hc : c = 0
    · subst hc
      go_enter Tryz.func79, Tryz.ntmps79
      go_wp2
      all_goals
        go_ret
        exact ⟨retI (by simp [takesOr, tokB, zeroB, isOpB, takes, *]), (Below.refl _ _).alloc (Nat.le_refl _) _⟩
    · have ec : (c != 0) = true := by simpa using hc
      go_enter Tryz.func79, Tryz.ntmps79
      go_wp2
      go_ret
      exact ⟨retI (by simp [takesOr, tokB, isOpB, hc]), (Below.refl _ _).alloc (Nat.le_refl _) _⟩
  have e6 : (k == 6) = false := by simpa using h6
  by_cases h9 : k = 9
  · subst h9
    by_cases hc : c = 0
    · subst hc
      go_enter Tryz.func79, Tryz.ntmps79
      go_wp2
      all_goals
        go_ret
        exact ⟨retI (by simp [takesOr, tokB, zeroB, isOpB, takes, *]), (Below.refl _ _).alloc (Nat.le_refl _) _⟩
    · have ec : (c != 0) = true := by simpa using hc
      go_enter Tryz.func79, Tryz.ntmps79
      go_wp2
      go_ret
      exact ⟨retI (by simp [takesOr, tokB, isOpB, hc]), (Below.refl _ _).alloc (Nat.le_refl _) _⟩
  have e9 : (k == 9) = false := by simpa using h9
  by_cases h10 : k = 10
  · subst h10
    by_cases hc : c = 0
    · subst hc
      go_enter Tryz.func79, Tryz.ntmps79
      go_wp2
      all_goals
        go_ret
        exact ⟨retI (by simp [takesOr, tokB, zeroB, isOpB, takes, *]), (Below.refl _ _).alloc (Nat.le_refl _) _⟩
    · have ec : (c != 0) = true := by simpa using hc
      go_enter Tryz.func79, Tryz.ntmps79
      go_wp2
      go_ret
      exact ⟨retI (by simp [takesOr, tokB, isOpB, hc]), (Below.refl _ _).alloc (Nat.le_refl _) _⟩
  have e10 : (k == 10) = false := by simpa using h10
  have ho : isOpB k = false := by unfold isOpB; simp; omega
  have HO := Lib.hid ho
  clear ho
  by_cases hc : c = 0
  · subst hc
    go_enter Tryz.func79, Tryz.ntmps79
    go_wp2
    all_goals
      go_ret
      exact ⟨retI (by simp [takesOr, tokB, h1, h2, HO.out]), (Below.refl _ _).alloc (Nat.le_refl _) _⟩
  · have ec : (c != 0) = true := by simpa using hc
    go_enter Tryz.func79, Tryz.ntmps79
    go_wp2
    all_goals
      go_ret
      exact ⟨retI (by simp [takesOr, tokB, h1, h2, HO.out]), (Below.refl _ _).alloc (Nat.le_refl _) _⟩
end Go.Proofs.YthafgkcokecnnaaGreat
namespace Go.Proofs.YthafgkcokecnnaaGreat
open Go.RowKit

def l2B (ts : List Tk) (cols : Int) : Bool := exprGo cols ts 0 == some 1 && decide (ts.length ≤ 24)

set_option maxRecDepth 100000 in
set_option maxHeartbeats 1000000 in
theorem specL2Expr (A : Option Addr) (n cap : Nat) (ts : List Tk) (cols : Int) (w : World) (h : Toks w A n ts) (hn : n ≤ maxLen) (h0 : 0 ≤ cols) (h16 : cols ≤ 16) :
    Calls Tryz.prog 45 #[.slice A n cap, .int .i64 cols] w fun e w' => e = .returned (.bool (l2B ts cols)) ∧ Below w.heap.size w w' := by
  unfold maxLen at hn
  obtain rfl : n = ts.length := h.len.symm
  go_enter Tryz.func45, Tryz.ntmps45
  go_wp2
  go_loopw [5, 6] (fun m i wr => ∃ k l : Nat, k ≤ ts.length ∧ i = .int .i64 k ∧ m = .int .i64 l ∧ l ≤ k ∧ Hid (exprGo cols (ts.take k) 0 = some l) ∧ Below w.heap.size w wr) (fun _ i _ => ts.length - (intOf i).toNat)
  case atStart => exact ⟨0, 0, by omega, rfl, rfl, by omega, Lib.hid (by simp [exprGo]), Below.refl _ _⟩
  case round =>
    obtain ⟨k, l, hk, rfl, rfl, hlk, hgo, hb⟩ := hrel
    by_cases hlt : k < ts.length
    · obtain ⟨b, off, rfl, c0, c1, c2, c3, c4⟩ := (h.below hb).at_ hlt
      have hsn := Lib.hid (exprGo_snoc cols ts k hlt 0 l hgo.out)
      by_cases ht : tokB ts[k] cols = true ∧ takes ts[k].k ≤ l
      · have HT := Lib.hid ht
        have hq : takesOr ts[k] cols = takes ts[k].k := by simp [takesOr, ht.1]
        have HQ := Lib.hid hq
        have hq2 := takes_le ts[k].k
        have hq3 := ht.2
        clear hq ht
        go_wp2_with fail
        refine (specTakes ts[k] cols _ h0 h16).mono ?_
        rintro e w1 ⟨rfl, hb1⟩
        rw [HQ.out]
        generalize takes ts[k].k = q at *
        go_wp2_with fail
        go_roundw
        case rel => exact ⟨k + 1, l - q + 1, by omega, by go_num, by go_num, by omega, Lib.hid (by rw [hsn.out, if_pos HT.out]), hb.trans (hb1.mono hb.size)⟩
        case measure => simp [intOf]; omega
      · have HT := Lib.hid ht
        have hd : exprGo cols ts 0 = none := exprGo_dead cols ts (k + 1) 0 (by rw [hsn.out, if_neg ht])
        have HD := Lib.hid (show l2B ts cols = false by simp [l2B, hd])
        by_cases ht1 : tokB ts[k] cols = true
        · have hq : takesOr ts[k] cols = takes ts[k].k := by simp [takesOr, ht1]
          have HQ := Lib.hid hq
          have hq2 := takes_le ts[k].k
          have hq3 : l < takes ts[k].k := Nat.lt_of_not_le fun x => ht ⟨ht1, x⟩
          clear hq ht hd ht1
          go_wp2_with fail
          refine (specTakes ts[k] cols _ h0 h16).mono ?_
          rintro e w1 ⟨rfl, hb1⟩
          rw [HQ.out]
          generalize takes ts[k].k = q at *
          go_wp2_with fail
          go_ret
          exact ⟨retB (by rw [HD.out]), hb.trans (hb1.mono hb.size)⟩
        · have hq : takesOr ts[k] cols = -1 := by simp [takesOr, ht1]
          have HQ := Lib.hid hq
          clear hq ht hd ht1
          go_wp2_with fail
          refine (specTakes ts[k] cols _ h0 h16).mono ?_
          rintro e w1 ⟨rfl, hb1⟩
          rw [HQ.out]
          go_wp2_with fail
          go_ret
          exact ⟨retB (by rw [HD.out]), hb.trans (hb1.mono hb.size)⟩
    · have e : ts.take k = ts := List.take_of_length_le (by omega)
      have hg2 := hgo.out
      rw [e] at hg2
      have HF := Lib.hid (show l2B ts cols = (l == 1 && decide (ts.length ≤ 24)) by simp [l2B, hg2])
      clear hgo e hg2
      by_cases hl1 : l = 1
      · subst hl1
        go_wp2
        go_ret
        exact ⟨retB (by rw [HF.out]; simp; omega), hb⟩
      · have el : ((l : Int) == 1) = false := by simp; omega
        go_wp2
        go_ret
        exact ⟨retB (by rw [HF.out]; simp [hl1]), hb⟩

theorem ops_takes (k : Nat) (h : k < 11) : opsCells[k * 3 + 1]? = some (.int .i64 (takes k)) := by
  have : k = 0 ∨ k = 1 ∨ k = 2 ∨ k = 3 ∨ k = 4 ∨ k = 5 ∨ k = 6 ∨ k = 7 ∨ k = 8 ∨ k = 9 ∨ k = 10 := by omega
  rcases this with rfl | rfl | rfl | rfl | rfl | rfl | rfl | rfl | rfl | rfl | rfl <;> rfl

theorem tokB_kind {t : Tk} {cols : Int} (h : tokB t cols = true) : 1 ≤ t.k ∧ t.k ≤ 10 := by
  unfold tokB isOpB at h
  split at h
  · omega
  · split at h
    · omega
    · split at h
      · rename_i h'; simp at h'; omega
      · cases h

theorem new_at {w w' : World} {xs : Array Value} {T : TypeId} (hb : Below (w.alloc (.cells xs T)).heap.size (w.alloc (.cells xs T)) w') (j : Nat) (v : Value) (hv : xs[j]? = some v) : w'.cell? ⟨w.heap.size, j, none⟩ = some v := by
  rw [hb.cell (by simp), World.cell?_alloc_new]
  exact hv

set_option maxRecDepth 100000 in
set_option maxHeartbeats 1000000 in
theorem implExprOk (A : Option Addr) (n cap : Nat) (ts : List Tk) (cols : Int) (w : World) (h : Toks w A n ts) (hn : n ≤ maxLen) :
    Calls Tryz.prog 59 #[.slice A n cap, .int .i64 cols] w fun e w' => e = .returned (.bool (exprB ts cols)) ∧ Below w.heap.size w w' := by
  unfold maxLen at hn
  obtain rfl : n = ts.length := h.len.symm
  by_cases h0 : cols < 0
  · go_enter Tryz.func59, Tryz.ntmps59
    go_wp2
    go_ret
    exact ⟨retB (by simp [exprB]; omega), Below.refl _ _⟩
  have e0 : decide (cols < 0) = false := by simpa using h0
  by_cases h16 : 16 < cols
  · go_enter Tryz.func59, Tryz.ntmps59
    go_wp2
    go_ret
    exact ⟨retB (by simp [exprB]; omega), Below.refl _ _⟩
  have e16 : decide (16 < cols) = false := by simpa using h16
  by_cases h24 : (24 : Int) < ts.length
  · go_enter Tryz.func59, Tryz.ntmps59
    go_wp2
    go_ret
    exact ⟨retB (by simp [exprB]; omega), Below.refl _ _⟩
  have e24 : decide ((24 : Int) < ts.length) = false := by simpa using h24
  go_enter Tryz.func59, Tryz.ntmps59
  go_wp2_with fail
  refine (implOpTable _).mono ?_
  rintro e w1 ⟨rfl, hb1⟩
  have hs1 : (Tryz.prog.info? 165).map (·.size) = some opsCells.size := by kernel_rfl
  have hs2 : opsCells.all (·.oneCell') = true := by simp [opsCells, Value.oneCell']
  have S1 := Lib.hid hs1
  have S2 := Lib.hid hs2
  clear hs1 hs2
  go_wp2_with (refine wpList_store_row rfl 165 (.tmp 5) (.tmp 20) rfl w1.heap.size opsCells rfl rfl 165 opsZero (Go.heap_alloc_last w1 (.cells opsZero 165)) S1.out rfl S2.out ?_)
  rw [World.setRow_alloc_new]
  have hg := Go.heap_alloc_last w1 (.cells opsCells 165)
  have hb2 := hb1.trans (((Below.refl w1.heap.size w1).alloc (Nat.le_refl _) (.cells opsCells 165)).mono hb1.size)
  have hg0 : w.heap.size ≤ w1.heap.size := hb1.size
  generalize w1.alloc (.cells opsCells 165) = w2 at *
  generalize w1.heap.size = g at *
  have HG := Lib.hid hg
  clear hg hb1 S1 S2
  go_loopw [6, 23] (fun m i wr => ∃ k l : Nat, k ≤ ts.length ∧ i = .int .i64 k ∧ m = .int .i64 l ∧ l ≤ k ∧ Hid (exprGo cols (ts.take k) 0 = some l) ∧ Below w2.heap.size w2 wr) (fun _ i _ => ts.length - (intOf i).toNat)
  case atStart => exact ⟨0, 0, by omega, rfl, rfl, by omega, Lib.hid (by simp [exprGo]), Below.refl _ _⟩
  case round =>
    obtain ⟨k, l, hk, rfl, rfl, hlk, hgo, hb⟩ := hrel
    by_cases hlt : k < ts.length
    · obtain ⟨b, off, rfl, c0, c1, c2, c3, c4⟩ := (h.below (hb2.trans (hb.mono hb2.size))).at_ hlt
      have hsn := Lib.hid (exprGo_snoc cols ts k hlt 0 l hgo.out)
      cases ht : tokB ts[k] cols
      · have HD := Lib.hid (show exprB ts cols = false by
          have hd := exprGo_dead cols ts (k + 1) 0 (by rw [hsn.out, if_neg (by simp [ht])])
          simp [exprB, hd])
        have HT := Lib.hid ht
        clear ht hsn
        go_wp2_with fail
        refine (implTokOk ts[k] cols _).mono ?_
        rintro e w3 ⟨rfl, hb3⟩
        rw [HT.out]
        go_wp2_with fail
        go_ret
        exact ⟨retB (by rw [HD.out]), hb2.trans ((hb.trans ((((Below.refl wr.heap.size wr).alloc (Nat.le_refl _) _).trans (hb3.mono (by simp))).mono hb.size)).mono hb2.size)⟩
      · have HT := Lib.hid ht
        obtain ⟨k1, k10⟩ := tokB_kind ht
        obtain ⟨kk, hkk⟩ := Int.eq_ofNat_of_zero_le (show 0 ≤ ts[k].k by omega)
        have hk11 : kk < 11 := by omega
        have hops := ops_takes kk hk11
        have htk : takes ts[k].k = takes kk := by rw [hkk]
        have HOPS := Lib.hid hops
        have HTK := Lib.hid htk
        have HKK := Lib.hid hkk
        have hq2 := takes_le kk
        clear ht hops htk hkk k1 k10
        go_wp2_with fail
        refine (implTokOk ts[k] cols _).mono ?_
        rintro e w3 ⟨rfl, hb3⟩
        rw [HT.out]
        have hbt := hb.trans ((((Below.refl wr.heap.size wr).alloc (Nat.le_refl _) _).trans (hb3.mono (by simp))).mono hb.size)
        have t0 : w3.cell? ⟨wr.heap.size, 0, none⟩ = some (.int .i64 kk) := new_at hb3 0 _ (by rw [← HKK.out]; rfl)
        have g0 : w3.cell? ⟨g, kk * 3 + 1, none⟩ = some (.int .i64 (takes kk)) := by
          rw [hbt.cell (lt_of_block HG.out), cell_of_row _ _ _ _ _ _ HG.out]
          exact HOPS.out
        by_cases hle : takes kk ≤ l
        · have hle' : decide ((l : Int) < takes kk) = false := by simp; omega
          go_wp2_with fail
          go_roundw
          case rel => exact ⟨k + 1, l - takes kk + 1, by omega, by go_num, by go_num, by omega, Lib.hid (by rw [hsn.out, if_pos ⟨HT.out, by rw [HTK.out]; exact hle⟩, HTK.out]), hbt⟩
          case measure => simp [intOf]; omega
        · have hle' : decide ((l : Int) < takes kk) = true := by simp; omega
          have HD := Lib.hid (show exprB ts cols = false by
            have hd := exprGo_dead cols ts (k + 1) 0 (by rw [hsn.out, if_neg (by rw [HTK.out]; exact fun x => hle x.2)])
            simp [exprB, hd])
          go_wp2_with fail
          go_ret
          exact ⟨retB (by rw [HD.out]), hb2.trans (hbt.mono hb2.size)⟩
    · have e : ts.take k = ts := List.take_of_length_le (by omega)
      have hg2 := hgo.out
      rw [e] at hg2
      have HF := Lib.hid (show exprB ts cols = (l == 1) by
        have h24' : ts.length ≤ 24 := by omega
        simp [exprB, hg2, h0, h16, h24'])
      clear hgo e hg2
      go_wp2
      go_ret
      exact ⟨retB (by rw [HF.out, Bool.eq_iff_iff]; simp; omega), hb2.trans (hb.mono hb2.size)⟩

end Go.Proofs.YthafgkcokecnnaaGreat
namespace Go.Proofs.YthafgkcokecnnaaGreat
open Go.RowKit

theorem lawsSzTok (t : Tk) (left : Int) (w : World) (h0 : 0 ≤ left) (h1 : left ≤ 1048576) (hs : t.vs.size ≤ maxLen) :
    Calls Tryz.prog 39 #[.agg #[.int .i64 t.k, .int .i64 t.c, .int .i64 t.vk, .int .i64 t.vn, .string t.vs], .int .i64 left] w fun e w' => e = .returned (.int .i64 (szN left t.vs)) ∧ Below w.heap.size w w' := by
  have HB := Lib.hid ((Below.refl w.heap.size w).alloc (Nat.le_refl _) (.cells #[.int .i64 t.k, .int .i64 t.c, .int .i64 t.vk, .int .i64 t.vn, .string t.vs] 88))
  by_cases hn : szN left t.vs < 0
  · have HN := Lib.hid (show szN left t.vs = -1 by unfold szN at hn ⊢; split at hn <;> simp_all)
    clear hn
    go_enter Tryz.func39, Tryz.ntmps39
    go_wp2_with fail
    refine (lawsSzVal _ _ _ _ _ h0 h1 hs).mono ?_
    rintro e w1 ⟨rfl, hb1⟩
    rw [HN.out]
    go_wp2
    go_ret
    exact ⟨retI (by rw [HN.out]), HB.out.trans (hb1.mono HB.out.size)⟩
  · have hn' : decide (szN left t.vs < 0) = false := by simpa using hn
    go_enter Tryz.func39, Tryz.ntmps39
    go_wp2_with fail
    refine (lawsSzVal _ _ _ _ _ h0 h1 hs).mono ?_
    rintro e w1 ⟨rfl, hb1⟩
    go_wp2
    go_ret
    exact ⟨rfl, HB.out.trans (hb1.mono HB.out.size)⟩

/-- An answer of a size: less than 0, or no more than what was left, and then no part is larger. -/
def SzToks (left : Int) (ts : List Tk) (w : World) (e : Ending) (w' : World) : Prop :=
  ∃ m : Int, e = .returned (.int .i64 m) ∧ m ≤ left ∧ (0 ≤ m → ts.length ≤ left ∧ ∀ t ∈ ts, (t.vs.size : Int) ≤ left) ∧ Below w.heap.size w w'

set_option maxHeartbeats 400000 in
theorem lawsSzToks (A : Option Addr) (n cap : Nat) (ts : List Tk) (left : Int) (w : World) (h : Toks w A n ts) (hn : n ≤ maxLen) (h0 : 0 ≤ left) (h1 : left ≤ 1048576) (hs : ∀ t ∈ ts, t.vs.size ≤ maxLen) :
    Calls Tryz.prog 14 #[.slice A n cap, .int .i64 left] w (SzToks left ts w) := by
  unfold maxLen at hn
  obtain rfl : n = ts.length := h.len.symm
  by_cases hlt : left - ts.length < 0
  · go_enter Tryz.func14, Tryz.ntmps14
    go_wp2
    go_ret
    exact ⟨-1, rfl, by omega, fun h => by omega, Below.refl _ _⟩
  have hlt' : decide (left - (ts.length : Int) < 0) = false := by simpa using hlt
  go_enter Tryz.func14, Tryz.ntmps14
  go_wp2
  go_loopw [1, 5] (fun m i wr => ∃ (k : Nat) (l : Int), k ≤ ts.length ∧ i = .int .i64 k ∧ m = .int .i64 l ∧ 0 ≤ l ∧ l ≤ left - ts.length ∧ Hid (∀ t ∈ ts.take k, (t.vs.size : Int) ≤ left) ∧ Below w.heap.size w wr) (fun _ i _ => ts.length - (intOf i).toNat)
  case atStart => exact ⟨0, _, by omega, rfl, rfl, by omega, by omega, Lib.hid (by simp), Below.refl _ _⟩
  case round =>
    obtain ⟨k, l, hk, rfl, rfl, hl0, hl1, hall, hb⟩ := hrel
    by_cases hlt2 : k < ts.length
    · obtain ⟨b, off, rfl, c0, c1, c2, c3, c4⟩ := (h.below hb).at_ hlt2
      have hsz := hs _ (List.getElem_mem hlt2)
      have HS := Lib.hid hsz
      clear hsz
      by_cases hneg : szN l ts[k].vs < 0
      · go_wp2_with fail
        refine (lawsSzTok ts[k] l _ hl0 (by omega) HS.out).mono ?_
        rintro e w1 ⟨rfl, hb1⟩
        go_wp2_with fail
        go_ret
        exact ⟨-1, rfl, by omega, fun h => by omega, hb.trans (hb1.mono hb.size)⟩
      · have hneg' : decide (szN l ts[k].vs < 0) = false := by simpa using hneg
        have hle : szN l ts[k].vs ≤ l := by unfold szN; split <;> omega
        have hv : (ts[k].vs.size : Int) ≤ left := by unfold szN at hneg; split at hneg <;> omega
        have hall2 := Lib.hid (show ∀ t ∈ ts.take (k + 1), (t.vs.size : Int) ≤ left by
          rw [List.take_succ_eq_append_getElem hlt2]
          intro t ht
          rw [List.mem_append, List.mem_singleton] at ht
          rcases ht with ht | rfl
          · exact hall.out t ht
          · exact hv)
        clear hall hv
        go_wp2_with fail
        refine (lawsSzTok ts[k] l _ hl0 (by omega) HS.out).mono ?_
        rintro e w1 ⟨rfl, hb1⟩
        go_wp2_with fail
        go_roundw
        case rel => exact ⟨k + 1, _, by omega, by go_num, rfl, by omega, by omega, hall2, hb.trans (hb1.mono hb.size)⟩
        case measure => simp [intOf]; omega
    · have e : ts.take k = ts := List.take_of_length_le (by omega)
      have hall2 := hall.out
      rw [e] at hall2
      have HA := Lib.hid hall2
      clear hall2 hall e
      go_wp2
      go_ret
      exact ⟨l, rfl, by omega, fun _ => ⟨by omega, HA.out⟩, hb⟩

set_option maxHeartbeats 400000 in
theorem lawsToTok (t : Tk) (w : World) :
    Calls Tryz.prog 52 #[.agg #[.int .i64 t.k, .int .i64 t.c, .int .i64 t.vk, .int .i64 t.vn, .string t.vs]] w fun e w' => e = .returned (.agg #[.int .i64 t.k, .int .i64 t.c, .int .i64 t.vk, .int .i64 t.vn, .string t.vs]) ∧ Below w.heap.size w w' := by
  go_enter Tryz.func52, Tryz.ntmps52
  go_wp2_with fail
  have r2 := Row.new ((w.alloc (.cells #[.int .i64 t.k, .int .i64 t.c, .int .i64 t.vk, .int .i64 t.vn, .string t.vs] 88)).alloc (.cells #[.int .i64 0, .int .i64 0, .int .i64 0, .int .i64 0, .string ⟨#[]⟩] 113)) 113 #[.int .i64 t.k, .int .i64 t.c, .int .i64 0, .int .i64 0, .string ⟨#[]⟩]
  have r1 := (Row.new (w.alloc (.cells #[.int .i64 t.k, .int .i64 t.c, .int .i64 t.vk, .int .i64 t.vn, .string t.vs] 88)) 113 #[.int .i64 0, .int .i64 0, .int .i64 0, .int .i64 0, .string ⟨#[]⟩]).alloc (.cells #[.int .i64 t.k, .int .i64 t.c, .int .i64 0, .int .i64 0, .string ⟨#[]⟩] 113)
  have hb0 := (((Below.refl w.heap.size w).alloc (Nat.le_refl _) (.cells #[.int .i64 t.k, .int .i64 t.c, .int .i64 t.vk, .int .i64 t.vn, .string t.vs] 88)).alloc (by simp) (.cells #[.int .i64 0, .int .i64 0, .int .i64 0, .int .i64 0, .string ⟨#[]⟩] 113)).alloc (by simp; omega) (.cells #[.int .i64 t.k, .int .i64 t.c, .int .i64 0, .int .i64 0, .string ⟨#[]⟩] 113)
  rw [show ((w.alloc (.cells #[.int .i64 t.k, .int .i64 t.c, .int .i64 t.vk, .int .i64 t.vn, .string t.vs] 88)).alloc (.cells #[.int .i64 0, .int .i64 0, .int .i64 0, .int .i64 0, .string ⟨#[]⟩] 113)).heap.size = w.heap.size + 1 + 1 by simp] at r2
  rw [show (w.alloc (.cells #[.int .i64 t.k, .int .i64 t.c, .int .i64 t.vk, .int .i64 t.vn, .string t.vs] 88)).heap.size = w.heap.size + 1 by simp] at r1
  generalize ((w.alloc (.cells #[.int .i64 t.k, .int .i64 t.c, .int .i64 t.vk, .int .i64 t.vn, .string t.vs] 88)).alloc (.cells #[.int .i64 0, .int .i64 0, .int .i64 0, .int .i64 0, .string ⟨#[]⟩] 113)).alloc (.cells #[.int .i64 t.k, .int .i64 t.c, .int .i64 0, .int .i64 0, .string ⟨#[]⟩] 113) = x at *
  refine (lawsToVal _ _ _ _).mono ?_
  rintro e w1 ⟨rfl, hb1⟩
  obtain ⟨⟨c0, c1, c2, c3, c4⟩, ⟨f0, f1, f2, f3, f4⟩⟩ := (r1.below hb1).five
  obtain ⟨⟨d0, d1, d2, d3, d4⟩, ⟨g0, g1, g2, g3, g4⟩⟩ := (r2.below hb1).five
  have hz := hb0.trans (hb1.mono hb0.size)
  clear r1 r2 hb1 hb0
  go_wp2_with fail
  refine bodyPost_ret (v := .agg #[.int .i64 t.k, .int .i64 t.c, .int .i64 t.vk, .int .i64 t.vn, .string t.vs]) (by simp [results, Tryz.results52, go_sem, c0, c1, c2, c3, c4]) rfl ⟨rfl, ?_⟩
  repeat (first | with_reducible exact hz | with_reducible refine Below.drew ?_ | with_reducible refine Below.setCell ?_ (by simp; omega) _ | with_reducible refine Below.setCell ?_ (by simp) _)

theorem mk_rows {P : Program} {t e : TypeId} {sz bs : Nat} {z : Value} (ht : P.underlying t = some (.slice e)) (hi : (P.info? e).map (fun i => (i.zero, i.size, i.bytes)) = some (some z, sz, bs)) (hbs : bs ≤ 100000) (n : Nat) (hn : n ≤ 1048576) (w : World) :
    (Instr.makeSlice t (.int .i64 (n : Int)) (.int .i64 (n : Int))).run P w = .ok (.slice (some ⟨w.heap.size, 0, none⟩) n n) (w.alloc (.cells (madeCells z.cells (n * sz)) e)) := by
  obtain ⟨i, h1, h2, h3, h4⟩ := info_parts hi
  have hb : (i.bytes : Int) * n ≤ 281474976710656 := by
    rw [h4]
    have h5 : bs * n ≤ 100000 * 1048576 := Nat.mul_le_mul hbs hn
    have h6 : ((bs * n : Nat) : Int) ≤ 104857600000 := by omega
    rw [Int.natCast_mul] at h6
    omega
  have hr := run_make (P := P) w t e i z ht h1 h2 .i64 .i64 n n (by omega) (by omega) hb (by omega)
  simp only [Int.toNat_natCast, h3] at hr
  exact hr

/-- A slice that a call has made. -/
def MadeToks (n : Nat) (ts : List Tk) (w : World) (e : Ending) (w' : World) : Prop := ∃ A c, e = .returned (.slice A n c) ∧ Toks w' A n ts ∧ Below w.heap.size w w'

theorem infoTok : (Tryz.prog.info? 113).map (fun i => (i.zero, i.size, i.bytes)) = some (some (.agg #[.int .i64 0, .int .i64 0, .int .i64 0, .int .i64 0, .string ⟨#[]⟩]), 5, 48) := by kernel_rfl

set_option maxRecDepth 100000 in
theorem lawsToToks (A : Option Addr) (n cap : Nat) (ts : List Tk) (w : World) (h : Toks w A n ts) (hn : n ≤ 1048576) :
    Calls Tryz.prog 20 #[.slice A n cap] w (MadeToks n ts w) := by
  obtain rfl : n = ts.length := h.len.symm
  have hmk := fun w => mk_rows (P := Tryz.prog) Tryz.underlying34 infoTok (by omega) ts.length hn w
  go_enter Tryz.func20, Tryz.ntmps20
  go_wp2
  have row := Row.new w 113 (madeCells #[.int .i64 0, .int .i64 0, .int .i64 0, .int .i64 0, .string ⟨#[]⟩] (ts.length * 5))
  have hb0 := (Below.refl w.heap.size w).alloc (Nat.le_refl _) (.cells (madeCells #[.int .i64 0, .int .i64 0, .int .i64 0, .int .i64 0, .string ⟨#[]⟩] (ts.length * 5)) 113)
  have hsz := size_madeCells #[.int .i64 0, .int .i64 0, .int .i64 0, .int .i64 0, .string ⟨#[]⟩] (ts.length * 5)
  generalize w.alloc (.cells (madeCells #[.int .i64 0, .int .i64 0, .int .i64 0, .int .i64 0, .string ⟨#[]⟩] (ts.length * 5)) 113) = x at *
  generalize madeCells #[.int .i64 0, .int .i64 0, .int .i64 0, .int .i64 0, .string ⟨#[]⟩] (ts.length * 5) = cs0 at *
  have HZ := Lib.hid hsz
  clear hmk hsz
  go_loopw [4] (fun i wr => ∃ (k : Nat) (cs : Array Value), k ≤ ts.length ∧ i = .int .i64 k ∧ Row wr w.heap.size 113 cs ∧ Hid (cs.size = ts.length * 5) ∧ Hid (Laid cs 5 k (ts.map Tk.cells)) ∧ Below w.heap.size w wr) (fun i _ => ts.length - (intOf i).toNat)
  case atStart => exact ⟨0, cs0, by omega, rfl, row, HZ, Lib.hid (Laid.zero _ _ _), hb0⟩
  case round =>
    obtain ⟨k, cs, hk, rfl, hrow, hcs, hlaid, hb⟩ := hrel
    by_cases hlt : k < ts.length
    · obtain ⟨b, off, rfl, c0, c1, c2, c3, c4⟩ := (h.below hb).at_ hlt
      go_wp2_with fail
      refine (lawsToTok ts[k] _).mono ?_
      rintro e w1 ⟨rfl, hb1⟩
      have hrow1 := hrow.below hb1
      have hsz1 : k * 5 + 5 ≤ cs.size := by rw [hcs.out]; omega
      have q : ∀ j, j < 5 → w1.cell? ⟨w.heap.size, k * 5 + j, none⟩ = some (cs[k * 5 + j]?.getD undef) := fun j hj => by
        rw [hrow1.cell, Array.getElem?_eq_getElem (by omega)]; rfl
      have q0 := q 0 (by omega)
      have q1 := q 1 (by omega)
      have q2 := q 2 (by omega)
      have q3 := q 3 (by omega)
      have q4 := q 4 (by omega)
      rw [Nat.add_zero] at q0
      have f0 := hrow1.free (k * 5)
      have f1 := hrow1.free (k * 5 + 1)
      have f2 := hrow1.free (k * 5 + 2)
      have f3 := hrow1.free (k * 5 + 3)
      have f4 := hrow1.free (k * 5 + 4)
      clear q
      have HR := Lib.hid hrow1
      clear hrow1 hrow c0 c1 c2 c3 c4
      go_wp2_with fail
      go_roundw
      case rel => exact ⟨k + 1, _, by omega, by go_num, ((((HR.out.set _ _).set _ _).set _ _).set _ _).set _ _, Lib.hid (by simp [hcs.out]), Lib.hid (hlaid.out.snoc5 (by simp [Tk.cells]) (by simp [hlt, Tk.cells]) hsz1),
        (((((hb.trans (hb1.mono hb.size)).setCell (by simp) _).setCell (by simp) _).setCell (by simp) _).setCell (by simp) _).setCell (by simp) _⟩
      case measure => simp [intOf]; omega
    · obtain rfl : k = ts.length := by omega
      go_wp2
      go_ret
      exact ⟨_, _, rfl, cellz_of_laid hrow hlaid.out (by simp) (by simp [Tk.cells]), hb⟩

theorem lawsEqVal (k n : Int) (s : ByteArray) (w : World) :
    Calls Tryz.prog 103 #[.agg #[.int .i64 k, .int .i64 n, .string s], .agg #[.int .i64 k, .int .i64 n, .string s]] w fun e w' => e = .returned (.bool true) ∧ Below w.heap.size w w' := by
  go_enter Tryz.func103, Tryz.ntmps103
  go_wp2
  go_ret
  exact ⟨rfl, ((Below.refl _ _).alloc (Nat.le_refl _) _).alloc (by simp) _⟩

theorem lawsEqTok (t : Tk) (w : World) :
    Calls Tryz.prog 67 #[.agg #[.int .i64 t.k, .int .i64 t.c, .int .i64 t.vk, .int .i64 t.vn, .string t.vs], .agg #[.int .i64 t.k, .int .i64 t.c, .int .i64 t.vk, .int .i64 t.vn, .string t.vs]] w fun e w' => e = .returned (.bool true) ∧ Below w.heap.size w w' := by
  have hb0 := ((Below.refl w.heap.size w).alloc (Nat.le_refl _) (.cells #[.int .i64 t.k, .int .i64 t.c, .int .i64 t.vk, .int .i64 t.vn, .string t.vs] 113)).alloc (by simp) (.cells #[.int .i64 t.k, .int .i64 t.c, .int .i64 t.vk, .int .i64 t.vn, .string t.vs] 113)
  have HB := Lib.hid hb0
  clear hb0
  go_enter Tryz.func67, Tryz.ntmps67
  go_wp2_with fail
  first | (refine (lawsEqVal _ _ _ _).mono ?_; rintro e w1 ⟨rfl, hb1⟩) | skip
  go_wp2
  go_ret
  exact ⟨rfl, HB.out.trans (hb1.mono HB.out.size)⟩

theorem keep10 {w w' : World} {a0 a1 a2 a3 a4 a5 a6 a7 a8 a9 : Addr} {v0 v1 v2 v3 v4 v5 v6 v7 v8 v9 : Value} (h : w.cell? a0 = some v0 ∧ w.cell? a1 = some v1 ∧ w.cell? a2 = some v2 ∧ w.cell? a3 = some v3 ∧ w.cell? a4 = some v4 ∧ w.cell? a5 = some v5 ∧ w.cell? a6 = some v6 ∧ w.cell? a7 = some v7 ∧ w.cell? a8 = some v8 ∧ w.cell? a9 = some v9) (hb : Below w.heap.size w w') : w'.cell? a0 = some v0 ∧ w'.cell? a1 = some v1 ∧ w'.cell? a2 = some v2 ∧ w'.cell? a3 = some v3 ∧ w'.cell? a4 = some v4 ∧ w'.cell? a5 = some v5 ∧ w'.cell? a6 = some v6 ∧ w'.cell? a7 = some v7 ∧ w'.cell? a8 = some v8 ∧ w'.cell? a9 = some v9 := by
  obtain ⟨h0, h1, h2, h3, h4, h5, h6, h7, h8, h9⟩ := h
  exact ⟨(hb.cell (cell_lt h0)).trans h0, (hb.cell (cell_lt h1)).trans h1, (hb.cell (cell_lt h2)).trans h2, (hb.cell (cell_lt h3)).trans h3, (hb.cell (cell_lt h4)).trans h4, (hb.cell (cell_lt h5)).trans h5, (hb.cell (cell_lt h6)).trans h6, (hb.cell (cell_lt h7)).trans h7, (hb.cell (cell_lt h8)).trans h8, (hb.cell (cell_lt h9)).trans h9⟩

set_option maxRecDepth 100000 in
theorem lawsEqToks (A A' : Option Addr) (n cap cap' : Nat) (ts : List Tk) (w : World) (h : Toks w A n ts) (h' : Toks w A' n ts) (hn : n ≤ 1048576) :
    Calls Tryz.prog 31 #[.slice A n cap, .slice A' n cap'] w fun e w' => e = .returned (.bool true) ∧ Below w.heap.size w w' := by
  obtain rfl : n = ts.length := h.len.symm
  go_enter Tryz.func31, Tryz.ntmps31
  go_wp2
  go_loopw [5] (fun i wr => ∃ k : Nat, k ≤ ts.length ∧ i = .int .i64 k ∧ Below w.heap.size w wr) (fun i _ => ts.length - (intOf i).toNat)
  case atStart => exact ⟨0, by omega, rfl, Below.refl _ _⟩
  case round =>
    obtain ⟨k, hk, rfl, hb⟩ := hrel
    by_cases hlt : k < ts.length
    · obtain ⟨b, off, rfl, c0, c1, c2, c3, c4⟩ := (h.below hb).at_ hlt
      obtain ⟨b', off', rfl, d0, d1, d2, d3, d4⟩ := (h'.below hb).at_ hlt
      have i0 : (0 : Int) ≤ k := by omega
      have i1 : (k : Int) < ts.length := by omega
      go_wp2_with fail
      go_region_held3 (fun w' => w'.cell? ⟨b, off + k * 5, none⟩ = some (.int .i64 ts[k].k) ∧ w'.cell? ⟨b, off + k * 5 + 1, none⟩ = some (.int .i64 ts[k].c) ∧ w'.cell? ⟨b, off + k * 5 + 2, none⟩ = some (.int .i64 ts[k].vk) ∧ w'.cell? ⟨b, off + k * 5 + 3, none⟩ = some (.int .i64 ts[k].vn) ∧ w'.cell? ⟨b, off + k * 5 + 4, none⟩ = some (.string ts[k].vs) ∧ w'.cell? ⟨b', off' + k * 5, none⟩ = some (.int .i64 ts[k].k) ∧ w'.cell? ⟨b', off' + k * 5 + 1, none⟩ = some (.int .i64 ts[k].c) ∧ w'.cell? ⟨b', off' + k * 5 + 2, none⟩ = some (.int .i64 ts[k].vk) ∧ w'.cell? ⟨b', off' + k * 5 + 3, none⟩ = some (.int .i64 ts[k].vn) ∧ w'.cell? ⟨b', off' + k * 5 + 4, none⟩ = some (.string ts[k].vs))
        (first | go_keep | exact keep10 (by assumption) hb1)
        (first | (go_at_call 67; refine (lawsEqTok ts[k] _).mono ?_; rintro e w1 ⟨rfl, hb1⟩))
      go_wp2
      go_roundw
      case rel => exact ⟨k + 1, by omega, by go_num, hb.drew.trans (hb1.mono hb.size)⟩
      case measure => simp [intOf]; omega
    · go_wp2
      go_ret
      exact ⟨rfl, hb⟩

theorem list_of_cells {α : Type} {f : α → List Value} {p : α → Prop} : ∀ xss : List (List Value), (∀ c ∈ xss, ∃ x, c = f x ∧ p x) → ∃ xs : List α, xs.map f = xss ∧ ∀ x ∈ xs, p x
  | [], _ => ⟨[], rfl, by simp⟩
  | c :: cs, h => by
    obtain ⟨x, rfl, hp⟩ := h c (by simp)
    obtain ⟨xs, rfl, hq⟩ := list_of_cells cs fun d hd => h d (by simp [hd])
    exact ⟨x :: xs, rfl, by simpa using ⟨hp, hq⟩⟩

/-- A slice of parts among the arguments. -/
def IsToks (w : World) (a : Option Addr) (n : Nat) (ts : List Tk) : Prop := Toks w a n ts ∧ n ≤ maxLen ∧ ∀ t ∈ ts, t.vs.size ≤ maxLen

theorem toks_of_trod {H : Type} {enc : TypeId × Value → H} {W : World} {a : Option Addr} {len cap : Nat} {d : DataW H} {p : List MemPlace}
    (h : DataW.Trod enc Tryz.prog W 0 (fun _ => true) true 24 (.slice a len cap) d p) : ∃ ts, IsToks W a len ts := by
  obtain ⟨fuel, hf⟩ := h
  obtain ⟨xss, hc, hl, ht⟩ := cellz_of_trod (sz := 5) Tryz.underlying24 (by kernel_rfl) (by omega) hf
  obtain ⟨ts, rfl, hp⟩ := list_of_cells (f := Tk.cells) (p := fun t => t.vs.size ≤ maxLen) xss fun c hc => by
    obtain ⟨n, y, hy⟩ := ht c hc
    obtain ⟨k, cc, vk, vn, vs, rfl, -, -, -, -, h5⟩ := tok_of_trod Tryz.underlying88 (by kernel_rfl) ⟨rfl, rfl, rfl⟩ (by kernel_rfl) (by kernel_rfl) (by kernel_rfl) Tryz.underlying2 Tryz.underlying2
      Tryz.underlying86 ⟨rfl, rfl, rfl⟩ (by kernel_rfl) (by kernel_rfl) (by kernel_rfl) Tryz.underlying2 Tryz.underlying2 Tryz.underlying9 hy
    exact ⟨⟨k, cc, vk, vn, vs⟩, rfl, h5⟩
  exact ⟨ts, hc, hl, hp⟩
end Go.Proofs.YthafgkcokecnnaaGreat
namespace Go.Proofs.YthafgkcokecnnaaGreat
open Go.RowKit
set_option linter.unusedVariables false

/-- What is left of 'left' behind n; -1: it was not enough. -/
def szR (left : Int) (n : Nat) : Int := if left < n then -1 else left - n
theorem szR_cases (l : Int) (k : Nat) (_h0 : 0 ≤ l) : (l < k ∧ Hid (szR l k = -1)) ∨ (∃ l' : Int, Hid (szR l k = l') ∧ Hid (l' = l - k) ∧ 0 ≤ l' ∧ l' ≤ l ∧ (k : Int) ≤ l) := by
  by_cases h : l < k
  · exact .inl ⟨h, Lib.hid (if_pos h)⟩
  · exact .inr ⟨l - k, Lib.hid (if_neg h), Lib.hid rfl, by omega, by omega, by omega⟩
theorem szR_no {l : Int} {k : Nat} (h : l < k) : (-1 : Int) = szR l k := by unfold szR; rw [if_pos h]
theorem szR_yes {l m : Int} {k : Nat} (h0 : 0 ≤ m) (h : m = l - k) : m = szR l k := by unfold szR; rw [if_neg (by omega)]; exact h
theorem szR_some {l : Int} {k : Nat} (h : ¬ szR l k < 0) : (k : Int) ≤ l := by unfold szR at h; split at h <;> omega

/-- The size of a list whose elements have sizes. -/
def szL {α : Type} (f : α → Nat) (l : List α) : Nat := l.length + (l.map f).sum
theorem sum_take {α : Type} (f : α → Nat) (l : List α) (k : Nat) (h : k < l.length) : ((l.take (k + 1)).map f).sum = ((l.take k).map f).sum + f l[k] := by
  rw [List.take_succ_eq_append_getElem h, List.map_append, List.sum_append]; simp
theorem sum_take_le {α : Type} (f : α → Nat) (l : List α) (k : Nat) : ((l.take k).map f).sum ≤ (l.map f).sum := by
  have e : (l.map f).sum = ((l.take k).map f).sum + ((l.drop k).map f).sum := by rw [← List.sum_append, ← List.map_append, List.take_append_drop]
  omega
theorem sum_mem_le {α : Type} (f : α → Nat) (l : List α) (k : Nat) (h : k < l.length) : f l[k] ≤ (l.map f).sum := by
  have := sum_take f l k h
  have := sum_take_le f l (k + 1)
  omega
end Go.Proofs.YthafgkcokecnnaaGreat
namespace Go.Proofs.YthafgkcokecnnaaGreat
open Go.RowKit

def Vl.cells (v : Vl) : List Value := [.int .i64 v.k, .int .i64 v.n, .string v.s]
/-- A slice of values. -/
def Vals (w : World) (A : Option Addr) (n : Nat) (vs : List Vl) : Prop := Cellz w 3 A n (vs.map Vl.cells)
theorem Vals.len {w : World} {A : Option Addr} {n : Nat} {vs : List Vl} (h : Vals w A n vs) : vs.length = n := by simpa using h.1
theorem Vals.below {w w' : World} {A : Option Addr} {n : Nat} {vs : List Vl} (h : Vals w A n vs) (hb : Below w.heap.size w w') : Vals w' A n vs := Cellz.below h hb
theorem Vals.at_ {w : World} {A : Option Addr} {n : Nat} {vs : List Vl} (h : Vals w A n vs) {i : Nat} (hi : i < vs.length) :
    ∃ b off, A = some ⟨b, off, none⟩ ∧ w.cell? ⟨b, off + i * 3, none⟩ = some (.int .i64 vs[i].k) ∧ w.cell? ⟨b, off + i * 3 + 1, none⟩ = some (.int .i64 vs[i].n) ∧ w.cell? ⟨b, off + i * 3 + 2, none⟩ = some (.string vs[i].s) := by
  have hl := h.len
  obtain ⟨b, off, rfl, hc⟩ := h.2.2 (by omega)
  have hi' : i < (vs.map Vl.cells).length := by simpa using hi
  have g : ∀ j v, vs[i].cells[j]? = some v → w.cell? ⟨b, off + i * 3 + j, none⟩ = some v := by
    intro j v hv
    have e : (vs.map Vl.cells)[i] = vs[i].cells := by simp
    obtain ⟨hj, hv'⟩ := List.getElem?_eq_some_iff.1 hv
    have := hc i hi' j (by rw [e]; exact hj)
    rw [Nat.add_assoc, this]
    simp only [e, hv']
  exact ⟨b, off, rfl, g 0 _ rfl, g 1 _ rfl, g 2 _ rfl⟩

theorem keep6v {w w' : World} {a0 a1 a2 a3 a4 a5 : Addr} {v0 v1 v2 v3 v4 v5 : Value} (h : w.cell? a0 = some v0 ∧ w.cell? a1 = some v1 ∧ w.cell? a2 = some v2 ∧ w.cell? a3 = some v3 ∧ w.cell? a4 = some v4 ∧ w.cell? a5 = some v5) (hb : Below w.heap.size w w') : w'.cell? a0 = some v0 ∧ w'.cell? a1 = some v1 ∧ w'.cell? a2 = some v2 ∧ w'.cell? a3 = some v3 ∧ w'.cell? a4 = some v4 ∧ w'.cell? a5 = some v5 := by
  obtain ⟨h0, h1, h2, h3, h4, h5⟩ := h
  exact ⟨(hb.cell (cell_lt h0)).trans h0, (hb.cell (cell_lt h1)).trans h1, (hb.cell (cell_lt h2)).trans h2, (hb.cell (cell_lt h3)).trans h3, (hb.cell (cell_lt h4)).trans h4, (hb.cell (cell_lt h5)).trans h5⟩
end Go.Proofs.YthafgkcokecnnaaGreat
namespace Go.Proofs.YthafgkcokecnnaaGreat
open Go.RowKit

/-- An answer of a size: less than 0, or no more than what was left, and then no value is larger. -/
def SzVals (left : Int) (vs : List Vl) (w : World) (e : Ending) (w' : World) : Prop :=
  ∃ m : Int, e = .returned (.int .i64 m) ∧ m ≤ left ∧ (0 ≤ m → vs.length ≤ left ∧ ∀ v ∈ vs, (v.s.size : Int) ≤ left) ∧ Below w.heap.size w w'

set_option maxHeartbeats 400000 in
theorem lawsSzVals (A : Option Addr) (n cap : Nat) (vs : List Vl) (left : Int) (w : World) (h : Vals w A n vs) (hn : n ≤ maxLen) (h0 : 0 ≤ left) (h1 : left ≤ 1048576) (hs : ∀ v ∈ vs, v.s.size ≤ maxLen) :
    Calls Tryz.prog 73 #[.slice A n cap, .int .i64 left] w (SzVals left vs w) := by
  unfold maxLen at hn
  obtain rfl : n = vs.length := h.len.symm
  by_cases hlt : left - vs.length < 0
  · go_enter Tryz.func73, Tryz.ntmps73
    go_wp2
    go_ret
    exact ⟨-1, rfl, by omega, fun h => by omega, Below.refl _ _⟩
  have hlt' : decide (left - (vs.length : Int) < 0) = false := by simpa using hlt
  go_enter Tryz.func73, Tryz.ntmps73
  go_wp2
  go_loopw [1, 5] (fun m i wr => ∃ (k : Nat) (l : Int), k ≤ vs.length ∧ i = .int .i64 k ∧ m = .int .i64 l ∧ 0 ≤ l ∧ l ≤ left - vs.length ∧ Hid (∀ v ∈ vs.take k, (v.s.size : Int) ≤ left) ∧ Below w.heap.size w wr) (fun _ i _ => vs.length - (intOf i).toNat)
  case atStart => exact ⟨0, _, by omega, rfl, rfl, by omega, by omega, Lib.hid (by simp), Below.refl _ _⟩
  case round =>
    obtain ⟨k, l, hk, rfl, rfl, hl0, hl1, hall, hb⟩ := hrel
    by_cases hlt2 : k < vs.length
    · obtain ⟨b, off, rfl, c0, c1, c2⟩ := (h.below hb).at_ hlt2
      have HS := Lib.hid (hs _ (List.getElem_mem hlt2))
      by_cases hneg : szN l vs[k].s < 0
      · go_wp2_with fail
        refine (lawsSzVal vs[k].k vs[k].n vs[k].s l _ hl0 (by omega) HS.out).mono ?_
        rintro e w1 ⟨rfl, hb1⟩
        go_wp2_with fail
        go_ret
        exact ⟨-1, rfl, by omega, fun h => by omega, hb.trans (hb1.mono hb.size)⟩
      · have hneg' : decide (szN l vs[k].s < 0) = false := by simpa using hneg
        have hle : szN l vs[k].s ≤ l := by unfold szN; split <;> omega
        have hv : (vs[k].s.size : Int) ≤ left := by unfold szN at hneg; split at hneg <;> omega
        have hall2 := Lib.hid (show ∀ v ∈ vs.take (k + 1), (v.s.size : Int) ≤ left by
          rw [List.take_succ_eq_append_getElem hlt2]
          intro v ht
          rw [List.mem_append, List.mem_singleton] at ht
          rcases ht with ht | rfl
          · exact hall.out v ht
          · exact hv)
        clear hall hv
        go_wp2_with fail
        refine (lawsSzVal vs[k].k vs[k].n vs[k].s l _ hl0 (by omega) HS.out).mono ?_
        rintro e w1 ⟨rfl, hb1⟩
        go_wp2_with fail
        go_roundw
        case rel => exact ⟨k + 1, _, by omega, by go_num, rfl, by omega, by omega, hall2, hb.trans (hb1.mono hb.size)⟩
        case measure => simp [intOf]; omega
    · have e : vs.take k = vs := List.take_of_length_le (by omega)
      have hall2 := hall.out
      rw [e] at hall2
      have HA := Lib.hid hall2
      clear hall2 hall e
      go_wp2
      go_ret
      exact ⟨l, rfl, by omega, fun _ => ⟨by omega, HA.out⟩, hb⟩

/-- A slice of values that a call has made. -/
def MadeVals (n : Nat) (vs : List Vl) (w : World) (e : Ending) (w' : World) : Prop := ∃ A c, e = .returned (.slice A n c) ∧ Vals w' A n vs ∧ Below w.heap.size w w'

theorem infoVal : (Tryz.prog.info? 95).map (fun i => (i.zero, i.size, i.bytes)) = some (some (.agg #[.int .i64 0, .int .i64 0, .string ⟨#[]⟩]), 3, 32) := by kernel_rfl

theorem Laid.more3 {cs : Array Value} {k : Nat} {vs : List Vl} (h : Laid cs 3 k (vs.map Vl.cells)) (hk : k < vs.length) (hs : k * 3 + 3 ≤ cs.size) :
    Laid (((cs.setIfInBounds (k * 3) (.int .i64 vs[k].k)).setIfInBounds (k * 3 + 1) (.int .i64 vs[k].n)).setIfInBounds (k * 3 + 2) (.string vs[k].s)) 3 (k + 1) (vs.map Vl.cells) := by
  have h' : Laid cs 3 k ((vs.take k).map Vl.cells) := fun i j v c hi hc hj => h i j v c hi (by
    rw [List.getElem?_map, List.getElem?_take_of_lt hi] at hc
    rw [List.getElem?_map]; exact hc) hj
  have := h'.snoc3 (by simp; omega) (fun c hc => by obtain ⟨v, _, rfl⟩ := List.mem_map.1 hc; rfl) (Nat.le_refl k) (.int .i64 vs[k].k) (.int .i64 vs[k].n) (.string vs[k].s) hs
  intro i j v c hi hc hj
  refine this i j v c hi ?_ hj
  rw [← List.map_take, List.take_take, Nat.min_self]
  by_cases e : i < k
  · rw [List.getElem?_append_left (by simp; omega), List.getElem?_map, List.getElem?_take_of_lt e, ← List.getElem?_map]; exact hc
  · obtain rfl : i = k := by omega
    rw [List.getElem?_append_right (by simp; omega)]
    rw [List.getElem?_map, List.getElem?_eq_getElem hk] at hc
    simp at hc
    subst hc
    have : (List.map Vl.cells (List.take i vs)).length = i := by simp; omega
    rw [this]
    simp [Vl.cells]

set_option maxRecDepth 100000 in
theorem lawsToVals (A : Option Addr) (n cap : Nat) (vs : List Vl) (w : World) (h : Vals w A n vs) (hn : n ≤ 1048576) :
    Calls Tryz.prog 84 #[.slice A n cap] w (MadeVals n vs w) := by
  obtain rfl : n = vs.length := h.len.symm
  have hmk := fun w => mk_rows (P := Tryz.prog) Tryz.underlying100 infoVal (by omega) vs.length hn w
  go_enter Tryz.func84, Tryz.ntmps84
  go_wp2
  have row := Row.new w 95 (madeCells #[.int .i64 0, .int .i64 0, .string ⟨#[]⟩] (vs.length * 3))
  have hb0 := (Below.refl w.heap.size w).alloc (Nat.le_refl _) (.cells (madeCells #[.int .i64 0, .int .i64 0, .string ⟨#[]⟩] (vs.length * 3)) 95)
  have hsz := size_madeCells #[.int .i64 0, .int .i64 0, .string ⟨#[]⟩] (vs.length * 3)
  generalize w.alloc (.cells (madeCells #[.int .i64 0, .int .i64 0, .string ⟨#[]⟩] (vs.length * 3)) 95) = x at *
  generalize madeCells #[.int .i64 0, .int .i64 0, .string ⟨#[]⟩] (vs.length * 3) = cs0 at *
  have HZ := Lib.hid hsz
  clear hmk hsz
  go_loopw [4] (fun i wr => ∃ (k : Nat) (cs : Array Value), k ≤ vs.length ∧ i = .int .i64 k ∧ Row wr w.heap.size 95 cs ∧ Hid (cs.size = vs.length * 3) ∧ Hid (Laid cs 3 k (vs.map Vl.cells)) ∧ Below w.heap.size w wr) (fun i _ => vs.length - (intOf i).toNat)
  case atStart => exact ⟨0, cs0, by omega, rfl, row, HZ, Lib.hid (Laid.zero _ _ _), hb0⟩
  case round =>
    obtain ⟨k, cs, hk, rfl, hrow, hcs, hlaid, hb⟩ := hrel
    by_cases hlt : k < vs.length
    · obtain ⟨b, off, rfl, c0, c1, c2⟩ := (h.below hb).at_ hlt
      go_wp2_with fail
      refine (lawsToVal vs[k].k vs[k].n vs[k].s _).mono ?_
      rintro e w1 ⟨rfl, hb1⟩
      have hrow1 := hrow.below hb1
      have hsz1 : k * 3 + 3 ≤ cs.size := by rw [hcs.out]; omega
      have q : ∀ j, j < 3 → w1.cell? ⟨w.heap.size, k * 3 + j, none⟩ = some (cs[k * 3 + j]?.getD undef) := fun j hj => by
        rw [hrow1.cell, Array.getElem?_eq_getElem (by omega)]; rfl
      have q0 : w1.cell? ⟨w.heap.size, k * 3, none⟩ = some (cs[k * 3]?.getD undef) := q 0 (by omega)
      have q1 := q 1 (by omega)
      have q2 := q 2 (by omega)
      have f0 := hrow1.free (k * 3)
      have f1 := hrow1.free (k * 3 + 1)
      have f2 := hrow1.free (k * 3 + 2)
      clear q
      have HR := Lib.hid hrow1
      clear hrow1 hrow c0 c1 c2
      go_wp2_with fail
      go_roundw
      case rel => exact ⟨k + 1, _, by omega, by go_num, ((HR.out.set _ _).set _ _).set _ _, Lib.hid (by simp [hcs.out]), Lib.hid (hlaid.out.more3 hlt hsz1),
        (((hb.trans (hb1.mono hb.size)).setCell (by simp) _).setCell (by simp) _).setCell (by simp) _⟩
      case measure => simp [intOf]; omega
    · obtain rfl : k = vs.length := by omega
      go_wp2
      go_ret
      exact ⟨_, _, rfl, cellz_of_laid hrow hlaid.out (by simp) (by simp [Vl.cells]), hb⟩

set_option maxRecDepth 100000 in
theorem lawsEqVals (A A' : Option Addr) (n cap cap' : Nat) (vs : List Vl) (w : World) (h : Vals w A n vs) (h' : Vals w A' n vs) (hn : n ≤ 1048576) :
    Calls Tryz.prog 102 #[.slice A n cap, .slice A' n cap'] w fun e w' => e = .returned (.bool true) ∧ Below w.heap.size w w' := by
  obtain rfl : n = vs.length := h.len.symm
  go_enter Tryz.func102, Tryz.ntmps102
  go_wp2
  go_loopw [5] (fun i wr => ∃ k : Nat, k ≤ vs.length ∧ i = .int .i64 k ∧ Below w.heap.size w wr) (fun i _ => vs.length - (intOf i).toNat)
  case atStart => exact ⟨0, by omega, rfl, Below.refl _ _⟩
  case round =>
    obtain ⟨k, hk, rfl, hb⟩ := hrel
    by_cases hlt : k < vs.length
    · obtain ⟨b, off, rfl, c0, c1, c2⟩ := (h.below hb).at_ hlt
      obtain ⟨b', off', rfl, d0, d1, d2⟩ := (h'.below hb).at_ hlt
      have i0 : (0 : Int) ≤ k := by omega
      have i1 : (k : Int) < vs.length := by omega
      go_wp2_with fail
      go_region_held3 (fun w' => w'.cell? ⟨b, off + k * 3, none⟩ = some (.int .i64 vs[k].k) ∧ w'.cell? ⟨b, off + k * 3 + 1, none⟩ = some (.int .i64 vs[k].n) ∧ w'.cell? ⟨b, off + k * 3 + 2, none⟩ = some (.string vs[k].s) ∧ w'.cell? ⟨b', off' + k * 3, none⟩ = some (.int .i64 vs[k].k) ∧ w'.cell? ⟨b', off' + k * 3 + 1, none⟩ = some (.int .i64 vs[k].n) ∧ w'.cell? ⟨b', off' + k * 3 + 2, none⟩ = some (.string vs[k].s))
        (first | go_keep | exact keep6v (by assumption) hb1)
        (first | (go_at_call 103; refine (lawsEqVal vs[k].k vs[k].n vs[k].s _).mono ?_; rintro e w1 ⟨rfl, hb1⟩))
      go_wp2
      go_roundw
      case rel => exact ⟨k + 1, by omega, by go_num, hb.drew.trans (hb1.mono hb.size)⟩
      case measure => simp [intOf]; omega
    · go_wp2
      go_ret
      exact ⟨rfl, hb⟩

/-- A slice of values among the arguments. -/
def IsVals (w : World) (a : Option Addr) (n : Nat) (vs : List Vl) : Prop := Vals w a n vs ∧ n ≤ maxLen ∧ ∀ v ∈ vs, v.s.size ≤ maxLen

theorem vals_of_trod {H : Type} {enc : TypeId × Value → H} {W : World} {a : Option Addr} {len cap : Nat} {d : DataW H} {p : List MemPlace}
    (h : DataW.Trod enc Tryz.prog W 0 (fun _ => true) true 81 (.slice a len cap) d p) : ∃ vs, IsVals W a len vs := by
  obtain ⟨fuel, hf⟩ := h
  obtain ⟨xss, hc, hl, ht⟩ := cellz_of_trod (sz := 3) Tryz.underlying81 (by kernel_rfl) (by omega) hf
  obtain ⟨vs, rfl, hp⟩ := list_of_cells (f := Vl.cells) (p := fun v => v.s.size ≤ maxLen) xss fun c hc => by
    obtain ⟨n, y, hy⟩ := ht c hc
    obtain ⟨k, n', s, rfl, -, -, h5⟩ := val_of_trod Tryz.underlying86 (by kernel_rfl) ⟨rfl, rfl, rfl⟩ (by kernel_rfl) (by kernel_rfl) (by kernel_rfl) Tryz.underlying2 Tryz.underlying2 Tryz.underlying9 hy
    exact ⟨⟨k, n', s⟩, rfl, h5⟩
  exact ⟨vs, hc, hl, hp⟩
end Go.Proofs.YthafgkcokecnnaaGreat
namespace Go.Proofs.YthafgkcokecnnaaGreat
open Go.RowKit
set_option linter.unusedVariables false

def IntR : Rd Int := FlatR fun n => [.int .i64 n]
def TkR : Rd Tk := FlatR Tk.cells
def VlR : Rd Vl := FlatR Vl.cells
theorem IntR.stays : Stays IntR := FlatR.stays _
theorem TkR.stays : Stays TkR := FlatR.stays _
theorem VlR.stays : Stays VlR := FlatR.stays _

structure Cl where
  name : ByteArray
  kind : Int
  nn : Bool
  d : Vl
def Cl.cells (x : Cl) : List Value := [.string x.name, .int .i64 x.kind, .bool x.nn, .int .i64 x.d.k, .int .i64 x.d.n, .string x.d.s]
def ClR : Rd Cl := FlatR Cl.cells
theorem ClR.stays : Stays ClR := FlatR.stays _
def Cl.sz (x : Cl) : Nat := x.name.size + x.d.s.size
def Cl.wf (x : Cl) : Prop := x.name.size ≤ maxLen ∧ x.d.s.size ≤ maxLen

structure Uq where
  cols : List Int
def UqR : Rd Uq := fun ok w cs x => ∃ (A0 : Option Addr) (n0 c0 : Nat), cs = [.slice A0 n0 c0] ∧ Sl IntR 1 ok w A0 n0 x.cols ∧ (n0 ≤ c0)
theorem UqR.stays : Stays UqR := fun _ _ _ _ _ _ ⟨A0, n0, c0, e, h0, hcp⟩ ho hk => ⟨A0, n0, c0, e, h0.stays IntR.stays ho hk, hcp⟩
def Uq.sz (x : Uq) : Nat := x.cols.length
def Uq.wf (x : Uq) : Prop := x.cols.length ≤ maxLen

structure Ck where
  expr : List Tk
def CkR : Rd Ck := fun ok w cs x => ∃ (A0 : Option Addr) (n0 c0 : Nat), cs = [.slice A0 n0 c0] ∧ Sl TkR 5 ok w A0 n0 x.expr ∧ (n0 ≤ c0)
theorem CkR.stays : Stays CkR := fun _ _ _ _ _ _ ⟨A0, n0, c0, e, h0, hcp⟩ ho hk => ⟨A0, n0, c0, e, h0.stays TkR.stays ho hk, hcp⟩
def Ck.sz (x : Ck) : Nat := szL (fun t : Tk => t.vs.size) x.expr
def Ck.wf (x : Ck) : Prop := (x.expr.length ≤ maxLen ∧ ∀ t ∈ x.expr, t.vs.size ≤ maxLen)

structure Fk where
  cols : List Int
  table : ByteArray
  del : Int
  upd : Int
  dfr : Bool
def FkR : Rd Fk := fun ok w cs x => ∃ (A0 : Option Addr) (n0 c0 : Nat), cs = [.slice A0 n0 c0, .string x.table, .int .i64 x.del, .int .i64 x.upd, .bool x.dfr] ∧ Sl IntR 1 ok w A0 n0 x.cols ∧ (n0 ≤ c0)
theorem FkR.stays : Stays FkR := fun _ _ _ _ _ _ ⟨A0, n0, c0, e, h0, hcp⟩ ho hk => ⟨A0, n0, c0, e, h0.stays IntR.stays ho hk, hcp⟩
def Fk.sz (x : Fk) : Nat := x.cols.length + x.table.size
def Fk.wf (x : Fk) : Prop := x.cols.length ≤ maxLen ∧ x.table.size ≤ maxLen

structure Tb where
  name : ByteArray
  cols : List Cl
  key : List Int
  uniqs : List Uq
  checks : List Ck
  fks : List Fk
def TbR : Rd Tb := fun ok w cs x => ∃ (A1 : Option Addr) (n1 c1 : Nat) (A2 : Option Addr) (n2 c2 : Nat) (A3 : Option Addr) (n3 c3 : Nat) (A4 : Option Addr) (n4 c4 : Nat) (A5 : Option Addr) (n5 c5 : Nat), cs = [.string x.name, .slice A1 n1 c1, .slice A2 n2 c2, .slice A3 n3 c3, .slice A4 n4 c4, .slice A5 n5 c5] ∧ Sl ClR 6 ok w A1 n1 x.cols ∧ Sl IntR 1 ok w A2 n2 x.key ∧ Sl UqR 1 ok w A3 n3 x.uniqs ∧ Sl CkR 1 ok w A4 n4 x.checks ∧ Sl FkR 5 ok w A5 n5 x.fks ∧ (n1 ≤ c1 ∧ n2 ≤ c2 ∧ n3 ≤ c3 ∧ n4 ≤ c4 ∧ n5 ≤ c5)
theorem TbR.stays : Stays TbR := fun _ _ _ _ _ _ ⟨A1, n1, c1, A2, n2, c2, A3, n3, c3, A4, n4, c4, A5, n5, c5, e, h1, h2, h3, h4, h5, hcp⟩ ho hk => ⟨A1, n1, c1, A2, n2, c2, A3, n3, c3, A4, n4, c4, A5, n5, c5, e, h1.stays ClR.stays ho hk, h2.stays IntR.stays ho hk, h3.stays UqR.stays ho hk, h4.stays CkR.stays ho hk, h5.stays FkR.stays ho hk, hcp⟩
def Tb.sz (x : Tb) : Nat := x.name.size + szL Cl.sz x.cols + x.key.length + szL Uq.sz x.uniqs + szL Ck.sz x.checks + szL Fk.sz x.fks
def Tb.wf (x : Tb) : Prop := x.name.size ≤ maxLen ∧ (x.cols.length ≤ maxLen ∧ ∀ y ∈ x.cols, y.wf) ∧ x.key.length ≤ maxLen ∧ (x.uniqs.length ≤ maxLen ∧ ∀ y ∈ x.uniqs, y.wf) ∧ (x.checks.length ≤ maxLen ∧ ∀ y ∈ x.checks, y.wf) ∧ (x.fks.length ≤ maxLen ∧ ∀ y ∈ x.fks, y.wf)

structure Rw where
  id : Int
  vals : List Vl
def RwR : Rd Rw := fun ok w cs x => ∃ (A1 : Option Addr) (n1 c1 : Nat), cs = [.int .i64 x.id, .slice A1 n1 c1] ∧ Sl VlR 3 ok w A1 n1 x.vals ∧ (n1 ≤ c1)
theorem RwR.stays : Stays RwR := fun _ _ _ _ _ _ ⟨A1, n1, c1, e, h1, hcp⟩ ho hk => ⟨A1, n1, c1, e, h1.stays VlR.stays ho hk, hcp⟩
def Rw.sz (x : Rw) : Nat := szL (fun v : Vl => v.s.size) x.vals
def Rw.wf (x : Rw) : Prop := (x.vals.length ≤ maxLen ∧ ∀ v ∈ x.vals, v.s.size ≤ maxLen)

structure Dt where
  rows : List Rw
def DtR : Rd Dt := fun ok w cs x => ∃ (A0 : Option Addr) (n0 c0 : Nat), cs = [.slice A0 n0 c0] ∧ Sl RwR 2 ok w A0 n0 x.rows ∧ (n0 ≤ c0)
theorem DtR.stays : Stays DtR := fun _ _ _ _ _ _ ⟨A0, n0, c0, e, h0, hcp⟩ ho hk => ⟨A0, n0, c0, e, h0.stays RwR.stays ho hk, hcp⟩
def Dt.sz (x : Dt) : Nat := szL Rw.sz x.rows
def Dt.wf (x : Dt) : Prop := (x.rows.length ≤ maxLen ∧ ∀ y ∈ x.rows, y.wf)

structure Se where
  col : Int
  expr : List Tk
def SeR : Rd Se := fun ok w cs x => ∃ (A1 : Option Addr) (n1 c1 : Nat), cs = [.int .i64 x.col, .slice A1 n1 c1] ∧ Sl TkR 5 ok w A1 n1 x.expr ∧ (n1 ≤ c1)
theorem SeR.stays : Stays SeR := fun _ _ _ _ _ _ ⟨A1, n1, c1, e, h1, hcp⟩ ho hk => ⟨A1, n1, c1, e, h1.stays TkR.stays ho hk, hcp⟩
def Se.sz (x : Se) : Nat := szL (fun t : Tk => t.vs.size) x.expr
def Se.wf (x : Se) : Prop := (x.expr.length ≤ maxLen ∧ ∀ t ∈ x.expr, t.vs.size ≤ maxLen)

structure Sq where
  kind : Int
  table : ByteArray
  rows : List Rw
  wher : List Tk
  sets : List Se
  policy : Int
def SqR : Rd Sq := fun ok w cs x => ∃ (A2 : Option Addr) (n2 c2 : Nat) (A3 : Option Addr) (n3 c3 : Nat) (A4 : Option Addr) (n4 c4 : Nat), cs = [.int .i64 x.kind, .string x.table, .slice A2 n2 c2, .slice A3 n3 c3, .slice A4 n4 c4, .int .i64 x.policy] ∧ Sl RwR 2 ok w A2 n2 x.rows ∧ Sl TkR 5 ok w A3 n3 x.wher ∧ Sl SeR 2 ok w A4 n4 x.sets ∧ (n2 ≤ c2 ∧ n3 ≤ c3 ∧ n4 ≤ c4)
theorem SqR.stays : Stays SqR := fun _ _ _ _ _ _ ⟨A2, n2, c2, A3, n3, c3, A4, n4, c4, e, h2, h3, h4, hcp⟩ ho hk => ⟨A2, n2, c2, A3, n3, c3, A4, n4, c4, e, h2.stays RwR.stays ho hk, h3.stays TkR.stays ho hk, h4.stays SeR.stays ho hk, hcp⟩
def Sq.sz (x : Sq) : Nat := x.table.size + szL Rw.sz x.rows + szL (fun t : Tk => t.vs.size) x.wher + szL Se.sz x.sets
def Sq.wf (x : Sq) : Prop := x.table.size ≤ maxLen ∧ (x.rows.length ≤ maxLen ∧ ∀ y ∈ x.rows, y.wf) ∧ (x.wher.length ≤ maxLen ∧ ∀ t ∈ x.wher, t.vs.size ≤ maxLen) ∧ (x.sets.length ≤ maxLen ∧ ∀ y ∈ x.sets, y.wf)

structure Te where
  expr : List Tk
def TeR : Rd Te := fun ok w cs x => ∃ (A0 : Option Addr) (n0 c0 : Nat), cs = [.slice A0 n0 c0] ∧ Sl TkR 5 ok w A0 n0 x.expr ∧ (n0 ≤ c0)
theorem TeR.stays : Stays TeR := fun _ _ _ _ _ _ ⟨A0, n0, c0, e, h0, hcp⟩ ho hk => ⟨A0, n0, c0, e, h0.stays TkR.stays ho hk, hcp⟩
def Te.sz (x : Te) : Nat := szL (fun t : Tk => t.vs.size) x.expr
def Te.wf (x : Te) : Prop := (x.expr.length ≤ maxLen ∧ ∀ t ∈ x.expr, t.vs.size ≤ maxLen)

structure Tg where
  table : ByteArray
  event : Int
  wher : List Tk
  into : ByteArray
  terms : List Te
def TgR : Rd Tg := fun ok w cs x => ∃ (A2 : Option Addr) (n2 c2 : Nat) (A4 : Option Addr) (n4 c4 : Nat), cs = [.string x.table, .int .i64 x.event, .slice A2 n2 c2, .string x.into, .slice A4 n4 c4] ∧ Sl TkR 5 ok w A2 n2 x.wher ∧ Sl TeR 1 ok w A4 n4 x.terms ∧ (n2 ≤ c2 ∧ n4 ≤ c4)
theorem TgR.stays : Stays TgR := fun _ _ _ _ _ _ ⟨A2, n2, c2, A4, n4, c4, e, h2, h4, hcp⟩ ho hk => ⟨A2, n2, c2, A4, n4, c4, e, h2.stays TkR.stays ho hk, h4.stays TeR.stays ho hk, hcp⟩
def Tg.sz (x : Tg) : Nat := x.table.size + szL (fun t : Tk => t.vs.size) x.wher + x.into.size + szL Te.sz x.terms
def Tg.wf (x : Tg) : Prop := x.table.size ≤ maxLen ∧ (x.wher.length ≤ maxLen ∧ ∀ t ∈ x.wher, t.vs.size ≤ maxLen) ∧ x.into.size ≤ maxLen ∧ (x.terms.length ≤ maxLen ∧ ∀ y ∈ x.terms, y.wf)

structure Sv where
  name : ByteArray
  db : List Dt
def SvR : Rd Sv := fun ok w cs x => ∃ (A1 : Option Addr) (n1 c1 : Nat), cs = [.string x.name, .slice A1 n1 c1] ∧ Sl DtR 1 ok w A1 n1 x.db ∧ (n1 ≤ c1)
theorem SvR.stays : Stays SvR := fun _ _ _ _ _ _ ⟨A1, n1, c1, e, h1, hcp⟩ ho hk => ⟨A1, n1, c1, e, h1.stays DtR.stays ho hk, hcp⟩
def Sv.sz (x : Sv) : Nat := x.name.size + szL Dt.sz x.db
def Sv.wf (x : Sv) : Prop := x.name.size ≤ maxLen ∧ (x.db.length ≤ maxLen ∧ ∀ y ∈ x.db, y.wf)

structure Ss where
  schema : List Tb
  db : List Dt
  isOpen : Bool
  start : List Dt
  saves : List Sv
def SsR : Rd Ss := fun ok w cs x => ∃ (A0 : Option Addr) (n0 c0 : Nat) (A1 : Option Addr) (n1 c1 : Nat) (A3 : Option Addr) (n3 c3 : Nat) (A4 : Option Addr) (n4 c4 : Nat), cs = [.slice A0 n0 c0, .slice A1 n1 c1, .bool x.isOpen, .slice A3 n3 c3, .slice A4 n4 c4] ∧ Sl TbR 6 ok w A0 n0 x.schema ∧ Sl DtR 1 ok w A1 n1 x.db ∧ Sl DtR 1 ok w A3 n3 x.start ∧ Sl SvR 2 ok w A4 n4 x.saves ∧ (n0 ≤ c0 ∧ n1 ≤ c1 ∧ n3 ≤ c3 ∧ n4 ≤ c4)
theorem SsR.stays : Stays SsR := fun _ _ _ _ _ _ ⟨A0, n0, c0, A1, n1, c1, A3, n3, c3, A4, n4, c4, e, h0, h1, h3, h4, hcp⟩ ho hk => ⟨A0, n0, c0, A1, n1, c1, A3, n3, c3, A4, n4, c4, e, h0.stays TbR.stays ho hk, h1.stays DtR.stays ho hk, h3.stays DtR.stays ho hk, h4.stays SvR.stays ho hk, hcp⟩
def Ss.sz (x : Ss) : Nat := szL Tb.sz x.schema + szL Dt.sz x.db + szL Dt.sz x.start + szL Sv.sz x.saves
def Ss.wf (x : Ss) : Prop := (x.schema.length ≤ maxLen ∧ ∀ y ∈ x.schema, y.wf) ∧ (x.db.length ≤ maxLen ∧ ∀ y ∈ x.db, y.wf) ∧ (x.start.length ≤ maxLen ∧ ∀ y ∈ x.start, y.wf) ∧ (x.saves.length ≤ maxLen ∧ ∀ y ∈ x.saves, y.wf)

structure Qy where
  table : ByteArray
  terms : List Te
  wher : List Tk
  ord : List Int
  most : Int
def QyR : Rd Qy := fun ok w cs x => ∃ (A1 : Option Addr) (n1 c1 : Nat) (A2 : Option Addr) (n2 c2 : Nat) (A3 : Option Addr) (n3 c3 : Nat), cs = [.string x.table, .slice A1 n1 c1, .slice A2 n2 c2, .slice A3 n3 c3, .int .i64 x.most] ∧ Sl TeR 1 ok w A1 n1 x.terms ∧ Sl TkR 5 ok w A2 n2 x.wher ∧ Sl IntR 1 ok w A3 n3 x.ord ∧ (n1 ≤ c1 ∧ n2 ≤ c2 ∧ n3 ≤ c3)
theorem QyR.stays : Stays QyR := fun _ _ _ _ _ _ ⟨A1, n1, c1, A2, n2, c2, A3, n3, c3, e, h1, h2, h3, hcp⟩ ho hk => ⟨A1, n1, c1, A2, n2, c2, A3, n3, c3, e, h1.stays TeR.stays ho hk, h2.stays TkR.stays ho hk, h3.stays IntR.stays ho hk, hcp⟩
def Qy.sz (x : Qy) : Nat := x.table.size + szL Te.sz x.terms + szL (fun t : Tk => t.vs.size) x.wher + x.ord.length
def Qy.wf (x : Qy) : Prop := x.table.size ≤ maxLen ∧ (x.terms.length ≤ maxLen ∧ ∀ y ∈ x.terms, y.wf) ∧ (x.wher.length ≤ maxLen ∧ ∀ t ∈ x.wher, t.vs.size ≤ maxLen) ∧ x.ord.length ≤ maxLen

structure Ln where
  vals : List Vl
def LnR : Rd Ln := fun ok w cs x => ∃ (A0 : Option Addr) (n0 c0 : Nat), cs = [.slice A0 n0 c0] ∧ Sl VlR 3 ok w A0 n0 x.vals ∧ (n0 ≤ c0)
theorem LnR.stays : Stays LnR := fun _ _ _ _ _ _ ⟨A0, n0, c0, e, h0, hcp⟩ ho hk => ⟨A0, n0, c0, e, h0.stays VlR.stays ho hk, hcp⟩
def Ln.sz (x : Ln) : Nat := szL (fun v : Vl => v.s.size) x.vals
def Ln.wf (x : Ln) : Prop := (x.vals.length ≤ maxLen ∧ ∀ v ∈ x.vals, v.s.size ≤ maxLen)

structure En where
  key : List Vl
  id : Int
def EnR : Rd En := fun ok w cs x => ∃ (A0 : Option Addr) (n0 c0 : Nat), cs = [.slice A0 n0 c0, .int .i64 x.id] ∧ Sl VlR 3 ok w A0 n0 x.key ∧ (n0 ≤ c0)
theorem EnR.stays : Stays EnR := fun _ _ _ _ _ _ ⟨A0, n0, c0, e, h0, hcp⟩ ho hk => ⟨A0, n0, c0, e, h0.stays VlR.stays ho hk, hcp⟩
def En.sz (x : En) : Nat := szL (fun v : Vl => v.s.size) x.key
def En.wf (x : En) : Prop := (x.key.length ≤ maxLen ∧ ∀ v ∈ x.key, v.s.size ≤ maxLen)

structure Ch where
  table : Int
  id : Int
  old : List Vl
  now : List Vl
def ChR : Rd Ch := fun ok w cs x => ∃ (A2 : Option Addr) (n2 c2 : Nat) (A3 : Option Addr) (n3 c3 : Nat), cs = [.int .i64 x.table, .int .i64 x.id, .slice A2 n2 c2, .slice A3 n3 c3] ∧ Sl VlR 3 ok w A2 n2 x.old ∧ Sl VlR 3 ok w A3 n3 x.now ∧ (n2 ≤ c2 ∧ n3 ≤ c3)
theorem ChR.stays : Stays ChR := fun _ _ _ _ _ _ ⟨A2, n2, c2, A3, n3, c3, e, h2, h3, hcp⟩ ho hk => ⟨A2, n2, c2, A3, n3, c3, e, h2.stays VlR.stays ho hk, h3.stays VlR.stays ho hk, hcp⟩
def Ch.sz (x : Ch) : Nat := szL (fun v : Vl => v.s.size) x.old + szL (fun v : Vl => v.s.size) x.now
def Ch.wf (x : Ch) : Prop := (x.old.length ≤ maxLen ∧ ∀ v ∈ x.old, v.s.size ≤ maxLen) ∧ (x.now.length ≤ maxLen ∧ ∀ v ∈ x.now, v.s.size ≤ maxLen)

theorem Row.all1 {w : World} {g : Nat} {T : TypeId} {a0 : Value} (h : Row w g T #[a0]) :
    (w.cell? ⟨g, 0, none⟩ = some a0) ∧ (w.frozen? ⟨g, 0, none⟩ = false) :=
  ⟨h.cell 0, h.free 0⟩
theorem Row.all2 {w : World} {g : Nat} {T : TypeId} {a0 a1 : Value} (h : Row w g T #[a0, a1]) :
    (w.cell? ⟨g, 0, none⟩ = some a0 ∧ w.cell? ⟨g, 1, none⟩ = some a1) ∧ (w.frozen? ⟨g, 0, none⟩ = false ∧ w.frozen? ⟨g, 1, none⟩ = false) :=
  ⟨⟨h.cell 0, h.cell 1⟩, ⟨h.free 0, h.free 1⟩⟩
theorem Row.all4 {w : World} {g : Nat} {T : TypeId} {a0 a1 a2 a3 : Value} (h : Row w g T #[a0, a1, a2, a3]) :
    (w.cell? ⟨g, 0, none⟩ = some a0 ∧ w.cell? ⟨g, 1, none⟩ = some a1 ∧ w.cell? ⟨g, 2, none⟩ = some a2 ∧ w.cell? ⟨g, 3, none⟩ = some a3) ∧ (w.frozen? ⟨g, 0, none⟩ = false ∧ w.frozen? ⟨g, 1, none⟩ = false ∧ w.frozen? ⟨g, 2, none⟩ = false ∧ w.frozen? ⟨g, 3, none⟩ = false) :=
  ⟨⟨h.cell 0, h.cell 1, h.cell 2, h.cell 3⟩, ⟨h.free 0, h.free 1, h.free 2, h.free 3⟩⟩
theorem Row.all6 {w : World} {g : Nat} {T : TypeId} {a0 a1 a2 a3 a4 a5 : Value} (h : Row w g T #[a0, a1, a2, a3, a4, a5]) :
    (w.cell? ⟨g, 0, none⟩ = some a0 ∧ w.cell? ⟨g, 1, none⟩ = some a1 ∧ w.cell? ⟨g, 2, none⟩ = some a2 ∧ w.cell? ⟨g, 3, none⟩ = some a3 ∧ w.cell? ⟨g, 4, none⟩ = some a4 ∧ w.cell? ⟨g, 5, none⟩ = some a5) ∧ (w.frozen? ⟨g, 0, none⟩ = false ∧ w.frozen? ⟨g, 1, none⟩ = false ∧ w.frozen? ⟨g, 2, none⟩ = false ∧ w.frozen? ⟨g, 3, none⟩ = false ∧ w.frozen? ⟨g, 4, none⟩ = false ∧ w.frozen? ⟨g, 5, none⟩ = false) :=
  ⟨⟨h.cell 0, h.cell 1, h.cell 2, h.cell 3, h.cell 4, h.cell 5⟩, ⟨h.free 0, h.free 1, h.free 2, h.free 3, h.free 4, h.free 5⟩⟩
theorem TkR.at_ {ok : Nat → Prop} {w : World} {A : Option Addr} {n : Nat} {ds : List Tk} (h : Sl TkR 5 ok w A n ds) {i : Nat} (hi : i < ds.length) :
    ∃ (b off : Nat), ok b ∧ A = some ⟨b, off, none⟩ ∧ w.cell? ⟨b, off + i * 5, none⟩ = some (.int .i64 ds[i].k) ∧ w.cell? ⟨b, off + i * 5 + 1, none⟩ = some (.int .i64 ds[i].c) ∧ w.cell? ⟨b, off + i * 5 + 2, none⟩ = some (.int .i64 ds[i].vk) ∧ w.cell? ⟨b, off + i * 5 + 3, none⟩ = some (.int .i64 ds[i].vn) ∧ w.cell? ⟨b, off + i * 5 + 4, none⟩ = some (.string ds[i].vs) := by
  have hl := h.1
  obtain ⟨b, off, rfl, hb, hc⟩ := h.2 (by omega)
  obtain ⟨cs, -, hR, g⟩ := hc i hi
  have e : cs = _ := hR
  subst e
  exact ⟨b, off, hb, rfl, g 0 _ rfl, g 1 _ rfl, g 2 _ rfl, g 3 _ rfl, g 4 _ rfl⟩

theorem VlR.at_ {ok : Nat → Prop} {w : World} {A : Option Addr} {n : Nat} {ds : List Vl} (h : Sl VlR 3 ok w A n ds) {i : Nat} (hi : i < ds.length) :
    ∃ (b off : Nat), ok b ∧ A = some ⟨b, off, none⟩ ∧ w.cell? ⟨b, off + i * 3, none⟩ = some (.int .i64 ds[i].k) ∧ w.cell? ⟨b, off + i * 3 + 1, none⟩ = some (.int .i64 ds[i].n) ∧ w.cell? ⟨b, off + i * 3 + 2, none⟩ = some (.string ds[i].s) := by
  have hl := h.1
  obtain ⟨b, off, rfl, hb, hc⟩ := h.2 (by omega)
  obtain ⟨cs, -, hR, g⟩ := hc i hi
  have e : cs = _ := hR
  subst e
  exact ⟨b, off, hb, rfl, g 0 _ rfl, g 1 _ rfl, g 2 _ rfl⟩

theorem IntR.at_ {ok : Nat → Prop} {w : World} {A : Option Addr} {n : Nat} {ds : List Int} (h : Sl IntR 1 ok w A n ds) {i : Nat} (hi : i < ds.length) :
    ∃ (b off : Nat) , ok b ∧ A = some ⟨b, off, none⟩ ∧ w.cell? ⟨b, off + i, none⟩ = some (.int .i64 ds[i]) := by
  have hl := h.1
  obtain ⟨b, off, rfl, hb, hc⟩ := h.2 (by omega)
  obtain ⟨cs, -, hR, g⟩ := hc i hi
  have e : cs = _ := hR
  subst e
  exact ⟨b, off, hb, rfl, by have := g 0 _ rfl; rwa [Nat.mul_one] at this⟩

theorem ClR.at_ {ok : Nat → Prop} {w : World} {A : Option Addr} {n : Nat} {ds : List Cl} (h : Sl ClR 6 ok w A n ds) {i : Nat} (hi : i < ds.length) :
    ∃ (b off : Nat) , ok b ∧ A = some ⟨b, off, none⟩ ∧ w.cell? ⟨b, off + i * 6, none⟩ = some (.string ds[i].name) ∧ w.cell? ⟨b, off + i * 6 + 1, none⟩ = some (.int .i64 ds[i].kind) ∧ w.cell? ⟨b, off + i * 6 + 2, none⟩ = some (.bool ds[i].nn) ∧ w.cell? ⟨b, off + i * 6 + 3, none⟩ = some (.int .i64 ds[i].d.k) ∧ w.cell? ⟨b, off + i * 6 + 4, none⟩ = some (.int .i64 ds[i].d.n) ∧ w.cell? ⟨b, off + i * 6 + 5, none⟩ = some (.string ds[i].d.s) := by
  have hl := h.1
  obtain ⟨b, off, rfl, hb, hc⟩ := h.2 (by omega)
  obtain ⟨cs, -, hR, g⟩ := hc i hi
  have e : cs = _ := hR
  subst e
  exact ⟨b, off, hb, rfl, g 0 _ rfl, g 1 _ rfl, g 2 _ rfl, g 3 _ rfl, g 4 _ rfl, g 5 _ rfl⟩

theorem UqR.at_ {ok : Nat → Prop} {w : World} {A : Option Addr} {n : Nat} {ds : List Uq} (h : Sl UqR 1 ok w A n ds) {i : Nat} (hi : i < ds.length) :
    ∃ (b off : Nat) (A0 : Option Addr) (n0 c0 : Nat), ok b ∧ A = some ⟨b, off, none⟩ ∧ w.cell? ⟨b, off + i, none⟩ = some (.slice A0 n0 c0) ∧ Sl IntR 1 ok w A0 n0 ds[i].cols ∧ (n0 ≤ c0) := by
  have hl := h.1
  obtain ⟨b, off, rfl, hb, hc⟩ := h.2 (by omega)
  obtain ⟨cs, -, hR, g⟩ := hc i hi
  obtain ⟨A0, n0, c0, rfl, h0, hcp⟩ := hR
  exact ⟨b, off, A0, n0, c0, hb, rfl, by have := g 0 _ rfl; rwa [Nat.mul_one] at this, h0, hcp⟩

theorem CkR.at_ {ok : Nat → Prop} {w : World} {A : Option Addr} {n : Nat} {ds : List Ck} (h : Sl CkR 1 ok w A n ds) {i : Nat} (hi : i < ds.length) :
    ∃ (b off : Nat) (A0 : Option Addr) (n0 c0 : Nat), ok b ∧ A = some ⟨b, off, none⟩ ∧ w.cell? ⟨b, off + i, none⟩ = some (.slice A0 n0 c0) ∧ Sl TkR 5 ok w A0 n0 ds[i].expr ∧ (n0 ≤ c0) := by
  have hl := h.1
  obtain ⟨b, off, rfl, hb, hc⟩ := h.2 (by omega)
  obtain ⟨cs, -, hR, g⟩ := hc i hi
  obtain ⟨A0, n0, c0, rfl, h0, hcp⟩ := hR
  exact ⟨b, off, A0, n0, c0, hb, rfl, by have := g 0 _ rfl; rwa [Nat.mul_one] at this, h0, hcp⟩

theorem FkR.at_ {ok : Nat → Prop} {w : World} {A : Option Addr} {n : Nat} {ds : List Fk} (h : Sl FkR 5 ok w A n ds) {i : Nat} (hi : i < ds.length) :
    ∃ (b off : Nat) (A0 : Option Addr) (n0 c0 : Nat), ok b ∧ A = some ⟨b, off, none⟩ ∧ w.cell? ⟨b, off + i * 5, none⟩ = some (.slice A0 n0 c0) ∧ w.cell? ⟨b, off + i * 5 + 1, none⟩ = some (.string ds[i].table) ∧ w.cell? ⟨b, off + i * 5 + 2, none⟩ = some (.int .i64 ds[i].del) ∧ w.cell? ⟨b, off + i * 5 + 3, none⟩ = some (.int .i64 ds[i].upd) ∧ w.cell? ⟨b, off + i * 5 + 4, none⟩ = some (.bool ds[i].dfr) ∧ Sl IntR 1 ok w A0 n0 ds[i].cols ∧ (n0 ≤ c0) := by
  have hl := h.1
  obtain ⟨b, off, rfl, hb, hc⟩ := h.2 (by omega)
  obtain ⟨cs, -, hR, g⟩ := hc i hi
  obtain ⟨A0, n0, c0, rfl, h0, hcp⟩ := hR
  exact ⟨b, off, A0, n0, c0, hb, rfl, g 0 _ rfl, g 1 _ rfl, g 2 _ rfl, g 3 _ rfl, g 4 _ rfl, h0, hcp⟩

theorem TbR.at_ {ok : Nat → Prop} {w : World} {A : Option Addr} {n : Nat} {ds : List Tb} (h : Sl TbR 6 ok w A n ds) {i : Nat} (hi : i < ds.length) :
    ∃ (b off : Nat) (A1 : Option Addr) (n1 c1 : Nat) (A2 : Option Addr) (n2 c2 : Nat) (A3 : Option Addr) (n3 c3 : Nat) (A4 : Option Addr) (n4 c4 : Nat) (A5 : Option Addr) (n5 c5 : Nat), ok b ∧ A = some ⟨b, off, none⟩ ∧ w.cell? ⟨b, off + i * 6, none⟩ = some (.string ds[i].name) ∧ w.cell? ⟨b, off + i * 6 + 1, none⟩ = some (.slice A1 n1 c1) ∧ w.cell? ⟨b, off + i * 6 + 2, none⟩ = some (.slice A2 n2 c2) ∧ w.cell? ⟨b, off + i * 6 + 3, none⟩ = some (.slice A3 n3 c3) ∧ w.cell? ⟨b, off + i * 6 + 4, none⟩ = some (.slice A4 n4 c4) ∧ w.cell? ⟨b, off + i * 6 + 5, none⟩ = some (.slice A5 n5 c5) ∧ Sl ClR 6 ok w A1 n1 ds[i].cols ∧ Sl IntR 1 ok w A2 n2 ds[i].key ∧ Sl UqR 1 ok w A3 n3 ds[i].uniqs ∧ Sl CkR 1 ok w A4 n4 ds[i].checks ∧ Sl FkR 5 ok w A5 n5 ds[i].fks ∧ (n1 ≤ c1 ∧ n2 ≤ c2 ∧ n3 ≤ c3 ∧ n4 ≤ c4 ∧ n5 ≤ c5) := by
  have hl := h.1
  obtain ⟨b, off, rfl, hb, hc⟩ := h.2 (by omega)
  obtain ⟨cs, -, hR, g⟩ := hc i hi
  obtain ⟨A1, n1, c1, A2, n2, c2, A3, n3, c3, A4, n4, c4, A5, n5, c5, rfl, h1, h2, h3, h4, h5, hcp⟩ := hR
  exact ⟨b, off, A1, n1, c1, A2, n2, c2, A3, n3, c3, A4, n4, c4, A5, n5, c5, hb, rfl, g 0 _ rfl, g 1 _ rfl, g 2 _ rfl, g 3 _ rfl, g 4 _ rfl, g 5 _ rfl, h1, h2, h3, h4, h5, hcp⟩

theorem RwR.at_ {ok : Nat → Prop} {w : World} {A : Option Addr} {n : Nat} {ds : List Rw} (h : Sl RwR 2 ok w A n ds) {i : Nat} (hi : i < ds.length) :
    ∃ (b off : Nat) (A1 : Option Addr) (n1 c1 : Nat), ok b ∧ A = some ⟨b, off, none⟩ ∧ w.cell? ⟨b, off + i * 2, none⟩ = some (.int .i64 ds[i].id) ∧ w.cell? ⟨b, off + i * 2 + 1, none⟩ = some (.slice A1 n1 c1) ∧ Sl VlR 3 ok w A1 n1 ds[i].vals ∧ (n1 ≤ c1) := by
  have hl := h.1
  obtain ⟨b, off, rfl, hb, hc⟩ := h.2 (by omega)
  obtain ⟨cs, -, hR, g⟩ := hc i hi
  obtain ⟨A1, n1, c1, rfl, h1, hcp⟩ := hR
  exact ⟨b, off, A1, n1, c1, hb, rfl, g 0 _ rfl, g 1 _ rfl, h1, hcp⟩

theorem DtR.at_ {ok : Nat → Prop} {w : World} {A : Option Addr} {n : Nat} {ds : List Dt} (h : Sl DtR 1 ok w A n ds) {i : Nat} (hi : i < ds.length) :
    ∃ (b off : Nat) (A0 : Option Addr) (n0 c0 : Nat), ok b ∧ A = some ⟨b, off, none⟩ ∧ w.cell? ⟨b, off + i, none⟩ = some (.slice A0 n0 c0) ∧ Sl RwR 2 ok w A0 n0 ds[i].rows ∧ (n0 ≤ c0) := by
  have hl := h.1
  obtain ⟨b, off, rfl, hb, hc⟩ := h.2 (by omega)
  obtain ⟨cs, -, hR, g⟩ := hc i hi
  obtain ⟨A0, n0, c0, rfl, h0, hcp⟩ := hR
  exact ⟨b, off, A0, n0, c0, hb, rfl, by have := g 0 _ rfl; rwa [Nat.mul_one] at this, h0, hcp⟩

theorem SeR.at_ {ok : Nat → Prop} {w : World} {A : Option Addr} {n : Nat} {ds : List Se} (h : Sl SeR 2 ok w A n ds) {i : Nat} (hi : i < ds.length) :
    ∃ (b off : Nat) (A1 : Option Addr) (n1 c1 : Nat), ok b ∧ A = some ⟨b, off, none⟩ ∧ w.cell? ⟨b, off + i * 2, none⟩ = some (.int .i64 ds[i].col) ∧ w.cell? ⟨b, off + i * 2 + 1, none⟩ = some (.slice A1 n1 c1) ∧ Sl TkR 5 ok w A1 n1 ds[i].expr ∧ (n1 ≤ c1) := by
  have hl := h.1
  obtain ⟨b, off, rfl, hb, hc⟩ := h.2 (by omega)
  obtain ⟨cs, -, hR, g⟩ := hc i hi
  obtain ⟨A1, n1, c1, rfl, h1, hcp⟩ := hR
  exact ⟨b, off, A1, n1, c1, hb, rfl, g 0 _ rfl, g 1 _ rfl, h1, hcp⟩

theorem SqR.at_ {ok : Nat → Prop} {w : World} {A : Option Addr} {n : Nat} {ds : List Sq} (h : Sl SqR 6 ok w A n ds) {i : Nat} (hi : i < ds.length) :
    ∃ (b off : Nat) (A2 : Option Addr) (n2 c2 : Nat) (A3 : Option Addr) (n3 c3 : Nat) (A4 : Option Addr) (n4 c4 : Nat), ok b ∧ A = some ⟨b, off, none⟩ ∧ w.cell? ⟨b, off + i * 6, none⟩ = some (.int .i64 ds[i].kind) ∧ w.cell? ⟨b, off + i * 6 + 1, none⟩ = some (.string ds[i].table) ∧ w.cell? ⟨b, off + i * 6 + 2, none⟩ = some (.slice A2 n2 c2) ∧ w.cell? ⟨b, off + i * 6 + 3, none⟩ = some (.slice A3 n3 c3) ∧ w.cell? ⟨b, off + i * 6 + 4, none⟩ = some (.slice A4 n4 c4) ∧ w.cell? ⟨b, off + i * 6 + 5, none⟩ = some (.int .i64 ds[i].policy) ∧ Sl RwR 2 ok w A2 n2 ds[i].rows ∧ Sl TkR 5 ok w A3 n3 ds[i].wher ∧ Sl SeR 2 ok w A4 n4 ds[i].sets ∧ (n2 ≤ c2 ∧ n3 ≤ c3 ∧ n4 ≤ c4) := by
  have hl := h.1
  obtain ⟨b, off, rfl, hb, hc⟩ := h.2 (by omega)
  obtain ⟨cs, -, hR, g⟩ := hc i hi
  obtain ⟨A2, n2, c2, A3, n3, c3, A4, n4, c4, rfl, h2, h3, h4, hcp⟩ := hR
  exact ⟨b, off, A2, n2, c2, A3, n3, c3, A4, n4, c4, hb, rfl, g 0 _ rfl, g 1 _ rfl, g 2 _ rfl, g 3 _ rfl, g 4 _ rfl, g 5 _ rfl, h2, h3, h4, hcp⟩

theorem TeR.at_ {ok : Nat → Prop} {w : World} {A : Option Addr} {n : Nat} {ds : List Te} (h : Sl TeR 1 ok w A n ds) {i : Nat} (hi : i < ds.length) :
    ∃ (b off : Nat) (A0 : Option Addr) (n0 c0 : Nat), ok b ∧ A = some ⟨b, off, none⟩ ∧ w.cell? ⟨b, off + i, none⟩ = some (.slice A0 n0 c0) ∧ Sl TkR 5 ok w A0 n0 ds[i].expr ∧ (n0 ≤ c0) := by
  have hl := h.1
  obtain ⟨b, off, rfl, hb, hc⟩ := h.2 (by omega)
  obtain ⟨cs, -, hR, g⟩ := hc i hi
  obtain ⟨A0, n0, c0, rfl, h0, hcp⟩ := hR
  exact ⟨b, off, A0, n0, c0, hb, rfl, by have := g 0 _ rfl; rwa [Nat.mul_one] at this, h0, hcp⟩

theorem TgR.at_ {ok : Nat → Prop} {w : World} {A : Option Addr} {n : Nat} {ds : List Tg} (h : Sl TgR 5 ok w A n ds) {i : Nat} (hi : i < ds.length) :
    ∃ (b off : Nat) (A2 : Option Addr) (n2 c2 : Nat) (A4 : Option Addr) (n4 c4 : Nat), ok b ∧ A = some ⟨b, off, none⟩ ∧ w.cell? ⟨b, off + i * 5, none⟩ = some (.string ds[i].table) ∧ w.cell? ⟨b, off + i * 5 + 1, none⟩ = some (.int .i64 ds[i].event) ∧ w.cell? ⟨b, off + i * 5 + 2, none⟩ = some (.slice A2 n2 c2) ∧ w.cell? ⟨b, off + i * 5 + 3, none⟩ = some (.string ds[i].into) ∧ w.cell? ⟨b, off + i * 5 + 4, none⟩ = some (.slice A4 n4 c4) ∧ Sl TkR 5 ok w A2 n2 ds[i].wher ∧ Sl TeR 1 ok w A4 n4 ds[i].terms ∧ (n2 ≤ c2 ∧ n4 ≤ c4) := by
  have hl := h.1
  obtain ⟨b, off, rfl, hb, hc⟩ := h.2 (by omega)
  obtain ⟨cs, -, hR, g⟩ := hc i hi
  obtain ⟨A2, n2, c2, A4, n4, c4, rfl, h2, h4, hcp⟩ := hR
  exact ⟨b, off, A2, n2, c2, A4, n4, c4, hb, rfl, g 0 _ rfl, g 1 _ rfl, g 2 _ rfl, g 3 _ rfl, g 4 _ rfl, h2, h4, hcp⟩

theorem SvR.at_ {ok : Nat → Prop} {w : World} {A : Option Addr} {n : Nat} {ds : List Sv} (h : Sl SvR 2 ok w A n ds) {i : Nat} (hi : i < ds.length) :
    ∃ (b off : Nat) (A1 : Option Addr) (n1 c1 : Nat), ok b ∧ A = some ⟨b, off, none⟩ ∧ w.cell? ⟨b, off + i * 2, none⟩ = some (.string ds[i].name) ∧ w.cell? ⟨b, off + i * 2 + 1, none⟩ = some (.slice A1 n1 c1) ∧ Sl DtR 1 ok w A1 n1 ds[i].db ∧ (n1 ≤ c1) := by
  have hl := h.1
  obtain ⟨b, off, rfl, hb, hc⟩ := h.2 (by omega)
  obtain ⟨cs, -, hR, g⟩ := hc i hi
  obtain ⟨A1, n1, c1, rfl, h1, hcp⟩ := hR
  exact ⟨b, off, A1, n1, c1, hb, rfl, g 0 _ rfl, g 1 _ rfl, h1, hcp⟩

theorem SsR.at_ {ok : Nat → Prop} {w : World} {A : Option Addr} {n : Nat} {ds : List Ss} (h : Sl SsR 5 ok w A n ds) {i : Nat} (hi : i < ds.length) :
    ∃ (b off : Nat) (A0 : Option Addr) (n0 c0 : Nat) (A1 : Option Addr) (n1 c1 : Nat) (A3 : Option Addr) (n3 c3 : Nat) (A4 : Option Addr) (n4 c4 : Nat), ok b ∧ A = some ⟨b, off, none⟩ ∧ w.cell? ⟨b, off + i * 5, none⟩ = some (.slice A0 n0 c0) ∧ w.cell? ⟨b, off + i * 5 + 1, none⟩ = some (.slice A1 n1 c1) ∧ w.cell? ⟨b, off + i * 5 + 2, none⟩ = some (.bool ds[i].isOpen) ∧ w.cell? ⟨b, off + i * 5 + 3, none⟩ = some (.slice A3 n3 c3) ∧ w.cell? ⟨b, off + i * 5 + 4, none⟩ = some (.slice A4 n4 c4) ∧ Sl TbR 6 ok w A0 n0 ds[i].schema ∧ Sl DtR 1 ok w A1 n1 ds[i].db ∧ Sl DtR 1 ok w A3 n3 ds[i].start ∧ Sl SvR 2 ok w A4 n4 ds[i].saves ∧ (n0 ≤ c0 ∧ n1 ≤ c1 ∧ n3 ≤ c3 ∧ n4 ≤ c4) := by
  have hl := h.1
  obtain ⟨b, off, rfl, hb, hc⟩ := h.2 (by omega)
  obtain ⟨cs, -, hR, g⟩ := hc i hi
  obtain ⟨A0, n0, c0, A1, n1, c1, A3, n3, c3, A4, n4, c4, rfl, h0, h1, h3, h4, hcp⟩ := hR
  exact ⟨b, off, A0, n0, c0, A1, n1, c1, A3, n3, c3, A4, n4, c4, hb, rfl, g 0 _ rfl, g 1 _ rfl, g 2 _ rfl, g 3 _ rfl, g 4 _ rfl, h0, h1, h3, h4, hcp⟩

theorem QyR.at_ {ok : Nat → Prop} {w : World} {A : Option Addr} {n : Nat} {ds : List Qy} (h : Sl QyR 5 ok w A n ds) {i : Nat} (hi : i < ds.length) :
    ∃ (b off : Nat) (A1 : Option Addr) (n1 c1 : Nat) (A2 : Option Addr) (n2 c2 : Nat) (A3 : Option Addr) (n3 c3 : Nat), ok b ∧ A = some ⟨b, off, none⟩ ∧ w.cell? ⟨b, off + i * 5, none⟩ = some (.string ds[i].table) ∧ w.cell? ⟨b, off + i * 5 + 1, none⟩ = some (.slice A1 n1 c1) ∧ w.cell? ⟨b, off + i * 5 + 2, none⟩ = some (.slice A2 n2 c2) ∧ w.cell? ⟨b, off + i * 5 + 3, none⟩ = some (.slice A3 n3 c3) ∧ w.cell? ⟨b, off + i * 5 + 4, none⟩ = some (.int .i64 ds[i].most) ∧ Sl TeR 1 ok w A1 n1 ds[i].terms ∧ Sl TkR 5 ok w A2 n2 ds[i].wher ∧ Sl IntR 1 ok w A3 n3 ds[i].ord ∧ (n1 ≤ c1 ∧ n2 ≤ c2 ∧ n3 ≤ c3) := by
  have hl := h.1
  obtain ⟨b, off, rfl, hb, hc⟩ := h.2 (by omega)
  obtain ⟨cs, -, hR, g⟩ := hc i hi
  obtain ⟨A1, n1, c1, A2, n2, c2, A3, n3, c3, rfl, h1, h2, h3, hcp⟩ := hR
  exact ⟨b, off, A1, n1, c1, A2, n2, c2, A3, n3, c3, hb, rfl, g 0 _ rfl, g 1 _ rfl, g 2 _ rfl, g 3 _ rfl, g 4 _ rfl, h1, h2, h3, hcp⟩

theorem LnR.at_ {ok : Nat → Prop} {w : World} {A : Option Addr} {n : Nat} {ds : List Ln} (h : Sl LnR 1 ok w A n ds) {i : Nat} (hi : i < ds.length) :
    ∃ (b off : Nat) (A0 : Option Addr) (n0 c0 : Nat), ok b ∧ A = some ⟨b, off, none⟩ ∧ w.cell? ⟨b, off + i, none⟩ = some (.slice A0 n0 c0) ∧ Sl VlR 3 ok w A0 n0 ds[i].vals ∧ (n0 ≤ c0) := by
  have hl := h.1
  obtain ⟨b, off, rfl, hb, hc⟩ := h.2 (by omega)
  obtain ⟨cs, -, hR, g⟩ := hc i hi
  obtain ⟨A0, n0, c0, rfl, h0, hcp⟩ := hR
  exact ⟨b, off, A0, n0, c0, hb, rfl, by have := g 0 _ rfl; rwa [Nat.mul_one] at this, h0, hcp⟩

theorem EnR.at_ {ok : Nat → Prop} {w : World} {A : Option Addr} {n : Nat} {ds : List En} (h : Sl EnR 2 ok w A n ds) {i : Nat} (hi : i < ds.length) :
    ∃ (b off : Nat) (A0 : Option Addr) (n0 c0 : Nat), ok b ∧ A = some ⟨b, off, none⟩ ∧ w.cell? ⟨b, off + i * 2, none⟩ = some (.slice A0 n0 c0) ∧ w.cell? ⟨b, off + i * 2 + 1, none⟩ = some (.int .i64 ds[i].id) ∧ Sl VlR 3 ok w A0 n0 ds[i].key ∧ (n0 ≤ c0) := by
  have hl := h.1
  obtain ⟨b, off, rfl, hb, hc⟩ := h.2 (by omega)
  obtain ⟨cs, -, hR, g⟩ := hc i hi
  obtain ⟨A0, n0, c0, rfl, h0, hcp⟩ := hR
  exact ⟨b, off, A0, n0, c0, hb, rfl, g 0 _ rfl, g 1 _ rfl, h0, hcp⟩

theorem ChR.at_ {ok : Nat → Prop} {w : World} {A : Option Addr} {n : Nat} {ds : List Ch} (h : Sl ChR 4 ok w A n ds) {i : Nat} (hi : i < ds.length) :
    ∃ (b off : Nat) (A2 : Option Addr) (n2 c2 : Nat) (A3 : Option Addr) (n3 c3 : Nat), ok b ∧ A = some ⟨b, off, none⟩ ∧ w.cell? ⟨b, off + i * 4, none⟩ = some (.int .i64 ds[i].table) ∧ w.cell? ⟨b, off + i * 4 + 1, none⟩ = some (.int .i64 ds[i].id) ∧ w.cell? ⟨b, off + i * 4 + 2, none⟩ = some (.slice A2 n2 c2) ∧ w.cell? ⟨b, off + i * 4 + 3, none⟩ = some (.slice A3 n3 c3) ∧ Sl VlR 3 ok w A2 n2 ds[i].old ∧ Sl VlR 3 ok w A3 n3 ds[i].now ∧ (n2 ≤ c2 ∧ n3 ≤ c3) := by
  have hl := h.1
  obtain ⟨b, off, rfl, hb, hc⟩ := h.2 (by omega)
  obtain ⟨cs, -, hR, g⟩ := hc i hi
  obtain ⟨A2, n2, c2, A3, n3, c3, rfl, h2, h3, hcp⟩ := hR
  exact ⟨b, off, A2, n2, c2, A3, n3, c3, hb, rfl, g 0 _ rfl, g 1 _ rfl, g 2 _ rfl, g 3 _ rfl, h2, h3, hcp⟩

end Go.Proofs.YthafgkcokecnnaaGreat
namespace Go.Proofs.YthafgkcokecnnaaGreat
open Go.RowKit
set_option linter.unusedVariables false

theorem ne1 {g b : Nat} (h : g + 1 ≤ b) : b ≠ g := by omega
theorem ne3a {g b : Nat} (h : g + 3 ≤ b) : b ≠ g + 1 + 1 := by omega
theorem ne3b {g b : Nat} (h : g + 3 ≤ b) : b ≠ g + 1 := by omega
theorem Sl.set {α : Type} {R : Rd α} (hR : Stays R) {sz : Nat} {ok : Nat → Prop} {w : World} {A : Option Addr} {n : Nat} {ds : List α} (h : Sl R sz ok w A n ds) {p : Addr} (hp : ∀ b, ok b → b ≠ p.block) (v : Value) : Sl R sz ok (w.setCell p v) A n ds :=
  h.stays hR (fun _ h => h) fun q u hq hu => (World.cell?_of_block (w := w) (a := q) (Below.heap_setCell w p v q.block (hp _ hq))).trans hu
theorem LaidR.set {α : Type} {R : Rd α} (hR : Stays R) {sz : Nat} {ok : Nat → Prop} {w : World} {cs : Array Value} {k : Nat} {ds : List α} (h : LaidR R sz ok w cs k ds) {p : Addr} (hp : ∀ b, ok b → b ≠ p.block) (v : Value) : LaidR R sz ok (w.setCell p v) cs k ds :=
  h.stays hR fun q u hq hu => (World.cell?_of_block (w := w) (a := q) (Below.heap_setCell w p v q.block (hp _ hq))).trans hu
theorem Stays.set {α : Type} {R : Rd α} (hR : Stays R) {ok : Nat → Prop} {w : World} {cs : List Value} {d : α} (h : R ok w cs d) {p : Addr} (hp : ∀ b, ok b → b ≠ p.block) (v : Value) : R ok (w.setCell p v) cs d :=
  hR _ _ _ _ _ _ h (fun _ h => h) fun q u hq hu => (World.cell?_of_block (w := w) (a := q) (Below.heap_setCell w p v q.block (hp _ hq))).trans hu
/-- Blocks from G on that are there and may be written to. -/
def okF (G : Nat) (w : World) : Nat → Prop := fun b => G ≤ b ∧ b < w.heap.size ∧ ∀ off, w.frozen? ⟨b, off, none⟩ = false
theorem frozen_setCell (w : World) (p : Addr) (v : Value) (a : Addr) : (w.setCell p v).frozen? a = w.frozen? a := by
  unfold World.frozen? World.setCell
  by_cases e : p.block = a.block
  · simp only [Array.getElem?_modify, if_pos e]
    cases h : w.heap[a.block]? with
    | none => rfl
    | some o => cases o <;> rfl
  · simp only [Array.getElem?_modify, if_neg e]
theorem okF.mono {G G' : Nat} {w : World} {b : Nat} (h : okF G w b) (hG : G' ≤ G) : okF G' w b := ⟨Nat.le_trans hG h.1, h.2⟩
theorem okF.below {G : Nat} {w w' : World} (hb : Below w.heap.size w w') {b : Nat} (h : okF G w b) : okF G w' b :=
  ⟨h.1, Nat.lt_of_lt_of_le h.2.1 hb.size, fun off => (World.frozen?_of_block (w := w) (hb.block b h.2.1)).trans (h.2.2 off)⟩
theorem okF.set {G : Nat} {w : World} {b : Nat} (h : okF G w b) (p : Addr) (v : Value) : okF G (w.setCell p v) b :=
  ⟨h.1, by simpa [World.setCell] using h.2.1, fun off => (frozen_setCell w p v _).trans (h.2.2 off)⟩
theorem Sl.belowF {α : Type} {R : Rd α} (hR : Stays R) {sz G : Nat} {w w' : World} {A : Option Addr} {n : Nat} {ds : List α} (h : Sl R sz (okF G w) w A n ds) (hb : Below w.heap.size w w') : Sl R sz (okF G w') w' A n ds :=
  h.stays hR (fun _ h => h.below hb) fun p v _ hp => below_keep hb p v hp
theorem Sl.setF {α : Type} {R : Rd α} (hR : Stays R) {sz G : Nat} {w : World} {A : Option Addr} {n : Nat} {ds : List α} (h : Sl R sz (okF G w) w A n ds) {p : Addr} (hp : p.block < G) (v : Value) : Sl R sz (okF G (w.setCell p v)) (w.setCell p v) A n ds :=
  h.stays hR (fun _ h => h.set p v) fun q u hq hu => (World.cell?_of_block (w := w) (a := q) (Below.heap_setCell w p v q.block (by have := hq.1; omega))).trans hu
theorem LaidR.belowF {α : Type} {R : Rd α} (hR : Stays R) {sz G : Nat} {w w' : World} {cs : Array Value} {k : Nat} {ds : List α} (h : LaidR R sz (okF G w) w cs k ds) (hb : Below w.heap.size w w') : LaidR R sz (okF G w') w' cs k ds := fun i hi hlt => by
  obtain ⟨c, h1, h2, h3⟩ := h i hi hlt
  exact ⟨c, h1, hR _ _ _ _ _ _ h2 (fun _ h => h.below hb) (fun p v _ hp => below_keep hb p v hp), h3⟩
theorem LaidR.setF {α : Type} {R : Rd α} (hR : Stays R) {sz G : Nat} {w : World} {cs : Array Value} {k : Nat} {ds : List α} (h : LaidR R sz (okF G w) w cs k ds) {p : Addr} (hp : p.block < G) (v : Value) : LaidR R sz (okF G (w.setCell p v)) (w.setCell p v) cs k ds := fun i hi hlt => by
  obtain ⟨c, h1, h2, h3⟩ := h i hi hlt
  exact ⟨c, h1, hR _ _ _ _ _ _ h2 (fun _ h => h.set p v) (fun q u hq hu => (World.cell?_of_block (w := w) (a := q) (Below.heap_setCell w p v q.block (by have := hq.1; omega))).trans hu), h3⟩
/-- A slice that a call has made, in blocks of its own. -/
def MadeSl {α : Type} (R : Rd α) (sz n : Nat) (ds : List α) (w : World) (e : Ending) (w' : World) : Prop := ∃ A c, e = .returned (.slice A n c) ∧ n ≤ c ∧ Sl R sz (okF w.heap.size w') w' A n ds ∧ Below w.heap.size w w'
/-- A struct that a call has made, with what it leads to in blocks of its own. -/
def MadeR {α : Type} (R : Rd α) (d : α) (w : World) (e : Ending) (w' : World) : Prop := ∃ cs : List Value, e = .returned (.agg cs.toArray) ∧ R (okF w.heap.size w') w' cs d ∧ Below w.heap.size w w'

theorem hold1 (cs : Array Value) (k : Nat) (v0 : Value) : ∀ m, m < k * 1 → (cs.setIfInBounds (k) v0)[m]? = cs[m]? := by
  intro m hm
  simp only [Array.getElem?_setIfInBounds]
  rw [if_neg (by omega)]
theorem fresh1 (cs : Array Value) (k : Nat) (v0 : Value) (hs : k * 1 + 1 ≤ cs.size) : ∀ (j : Nat) (v : Value), [v0][j]? = some v → (cs.setIfInBounds (k) v0)[k * 1 + j]? = some v := by
  intro j v hj
  have hlt : j < 1 := by obtain ⟨h, _⟩ := List.getElem?_eq_some_iff.1 hj; simpa using h
  have : j = 0 := by omega
  rcases this with rfl <;> simp at hj <;> subst hj <;> simp [Array.getElem?_setIfInBounds] <;> omega

theorem hold2 (cs : Array Value) (k : Nat) (v0 v1 : Value) : ∀ m, m < k * 2 → ((cs.setIfInBounds (k * 2) v0).setIfInBounds (k * 2 + 1) v1)[m]? = cs[m]? := by
  intro m hm
  simp only [Array.getElem?_setIfInBounds, Array.size_setIfInBounds]
  rw [if_neg (by omega)]; rw [if_neg (by omega)]
theorem fresh2 (cs : Array Value) (k : Nat) (v0 v1 : Value) (hs : k * 2 + 2 ≤ cs.size) : ∀ (j : Nat) (v : Value), [v0, v1][j]? = some v → ((cs.setIfInBounds (k * 2) v0).setIfInBounds (k * 2 + 1) v1)[k * 2 + j]? = some v := by
  intro j v hj
  have hlt : j < 2 := by obtain ⟨h, _⟩ := List.getElem?_eq_some_iff.1 hj; simpa using h
  have : j = 0 ∨ j = 1 := by omega
  rcases this with rfl | rfl <;> simp at hj <;> subst hj <;> simp [Array.getElem?_setIfInBounds] <;> omega

theorem hold3 (cs : Array Value) (k : Nat) (v0 v1 v2 : Value) : ∀ m, m < k * 3 → (((cs.setIfInBounds (k * 3) v0).setIfInBounds (k * 3 + 1) v1).setIfInBounds (k * 3 + 2) v2)[m]? = cs[m]? := by
  intro m hm
  simp only [Array.getElem?_setIfInBounds, Array.size_setIfInBounds]
  rw [if_neg (by omega)]; rw [if_neg (by omega)]; rw [if_neg (by omega)]
theorem fresh3 (cs : Array Value) (k : Nat) (v0 v1 v2 : Value) (hs : k * 3 + 3 ≤ cs.size) : ∀ (j : Nat) (v : Value), [v0, v1, v2][j]? = some v → (((cs.setIfInBounds (k * 3) v0).setIfInBounds (k * 3 + 1) v1).setIfInBounds (k * 3 + 2) v2)[k * 3 + j]? = some v := by
  intro j v hj
  have hlt : j < 3 := by obtain ⟨h, _⟩ := List.getElem?_eq_some_iff.1 hj; simpa using h
  have : j = 0 ∨ j = 1 ∨ j = 2 := by omega
  rcases this with rfl | rfl | rfl <;> simp at hj <;> subst hj <;> simp [Array.getElem?_setIfInBounds] <;> omega

theorem hold4 (cs : Array Value) (k : Nat) (v0 v1 v2 v3 : Value) : ∀ m, m < k * 4 → ((((cs.setIfInBounds (k * 4) v0).setIfInBounds (k * 4 + 1) v1).setIfInBounds (k * 4 + 2) v2).setIfInBounds (k * 4 + 3) v3)[m]? = cs[m]? := by
  intro m hm
  simp only [Array.getElem?_setIfInBounds, Array.size_setIfInBounds]
  rw [if_neg (by omega)]; rw [if_neg (by omega)]; rw [if_neg (by omega)]; rw [if_neg (by omega)]
theorem fresh4 (cs : Array Value) (k : Nat) (v0 v1 v2 v3 : Value) (hs : k * 4 + 4 ≤ cs.size) : ∀ (j : Nat) (v : Value), [v0, v1, v2, v3][j]? = some v → ((((cs.setIfInBounds (k * 4) v0).setIfInBounds (k * 4 + 1) v1).setIfInBounds (k * 4 + 2) v2).setIfInBounds (k * 4 + 3) v3)[k * 4 + j]? = some v := by
  intro j v hj
  have hlt : j < 4 := by obtain ⟨h, _⟩ := List.getElem?_eq_some_iff.1 hj; simpa using h
  have : j = 0 ∨ j = 1 ∨ j = 2 ∨ j = 3 := by omega
  rcases this with rfl | rfl | rfl | rfl <;> simp at hj <;> subst hj <;> simp [Array.getElem?_setIfInBounds] <;> omega

theorem hold5 (cs : Array Value) (k : Nat) (v0 v1 v2 v3 v4 : Value) : ∀ m, m < k * 5 → (((((cs.setIfInBounds (k * 5) v0).setIfInBounds (k * 5 + 1) v1).setIfInBounds (k * 5 + 2) v2).setIfInBounds (k * 5 + 3) v3).setIfInBounds (k * 5 + 4) v4)[m]? = cs[m]? := by
  intro m hm
  simp only [Array.getElem?_setIfInBounds, Array.size_setIfInBounds]
  rw [if_neg (by omega)]; rw [if_neg (by omega)]; rw [if_neg (by omega)]; rw [if_neg (by omega)]; rw [if_neg (by omega)]
theorem fresh5 (cs : Array Value) (k : Nat) (v0 v1 v2 v3 v4 : Value) (hs : k * 5 + 5 ≤ cs.size) : ∀ (j : Nat) (v : Value), [v0, v1, v2, v3, v4][j]? = some v → (((((cs.setIfInBounds (k * 5) v0).setIfInBounds (k * 5 + 1) v1).setIfInBounds (k * 5 + 2) v2).setIfInBounds (k * 5 + 3) v3).setIfInBounds (k * 5 + 4) v4)[k * 5 + j]? = some v := by
  intro j v hj
  have hlt : j < 5 := by obtain ⟨h, _⟩ := List.getElem?_eq_some_iff.1 hj; simpa using h
  have : j = 0 ∨ j = 1 ∨ j = 2 ∨ j = 3 ∨ j = 4 := by omega
  rcases this with rfl | rfl | rfl | rfl | rfl <;> simp at hj <;> subst hj <;> simp [Array.getElem?_setIfInBounds] <;> omega

theorem hold6 (cs : Array Value) (k : Nat) (v0 v1 v2 v3 v4 v5 : Value) : ∀ m, m < k * 6 → ((((((cs.setIfInBounds (k * 6) v0).setIfInBounds (k * 6 + 1) v1).setIfInBounds (k * 6 + 2) v2).setIfInBounds (k * 6 + 3) v3).setIfInBounds (k * 6 + 4) v4).setIfInBounds (k * 6 + 5) v5)[m]? = cs[m]? := by
  intro m hm
  simp only [Array.getElem?_setIfInBounds, Array.size_setIfInBounds]
  rw [if_neg (by omega)]; rw [if_neg (by omega)]; rw [if_neg (by omega)]; rw [if_neg (by omega)]; rw [if_neg (by omega)]; rw [if_neg (by omega)]
theorem fresh6 (cs : Array Value) (k : Nat) (v0 v1 v2 v3 v4 v5 : Value) (hs : k * 6 + 6 ≤ cs.size) : ∀ (j : Nat) (v : Value), [v0, v1, v2, v3, v4, v5][j]? = some v → ((((((cs.setIfInBounds (k * 6) v0).setIfInBounds (k * 6 + 1) v1).setIfInBounds (k * 6 + 2) v2).setIfInBounds (k * 6 + 3) v3).setIfInBounds (k * 6 + 4) v4).setIfInBounds (k * 6 + 5) v5)[k * 6 + j]? = some v := by
  intro j v hj
  have hlt : j < 6 := by obtain ⟨h, _⟩ := List.getElem?_eq_some_iff.1 hj; simpa using h
  have : j = 0 ∨ j = 1 ∨ j = 2 ∨ j = 3 ∨ j = 4 ∨ j = 5 := by omega
  rcases this with rfl | rfl | rfl | rfl | rfl | rfl <;> simp at hj <;> subst hj <;> simp [Array.getElem?_setIfInBounds] <;> omega

theorem infoIntT : (Tryz.prog.info? 2).map (fun i => (i.zero, i.size, i.bytes)) = some (some (.int .i64 0), 1, 8) := by kernel_rfl
set_option maxRecDepth 100000 in
set_option maxHeartbeats 1000000 in
theorem lawsToIntL (A : Option Addr) (n c : Nat) (l : List Int) (ok : Nat → Prop) (w : World) (h : Sl IntR 1 ok w A n l) (hs : l.length ≤ 1048576) :
    Calls Tryz.prog 47 #[.slice A n c] w (MadeSl IntR 1 n l w) := by
  obtain rfl : l.length = n := h.1
  have hn : l.length ≤ 1048576 := by exact hs
  have HS := Lib.hid hs
  clear hs
  have hmk := fun w => mk_rows (P := Tryz.prog) Tryz.underlying44 infoIntT (by omega) l.length hn w
  simp only [Nat.mul_one] at hmk
  simp only [Value.cells] at hmk
  go_enter Tryz.func47, Tryz.ntmps47
  go_wp2
  have row := Row.new w 2 (madeCells #[.int .i64 0] (l.length))
  have hb0 := (Below.refl w.heap.size w).alloc (Nat.le_refl _) (.cells (madeCells #[.int .i64 0] (l.length)) 2)
  have hsz := size_madeCells #[.int .i64 0] (l.length)
  have hx0 : (w.alloc (.cells (madeCells #[.int .i64 0] (l.length)) 2)).heap.size = w.heap.size + 1 := by simp
  generalize w.alloc (.cells (madeCells #[.int .i64 0] (l.length)) 2) = x at *
  generalize madeCells #[.int .i64 0] (l.length) = cs0 at *
  have HZ := Lib.hid hsz
  have HX0 := Lib.hid hx0
  clear hmk hsz hx0
  go_loopw [4] (fun i wr => ∃ (k : Nat) (cs : Array Value), k ≤ l.length ∧ i = .int .i64 k ∧ Row wr w.heap.size 2 cs ∧ Hid (cs.size = l.length * 1) ∧ Hid (LaidR IntR 1 (okF (w.heap.size + 1) wr) wr cs k l) ∧ Hid (w.heap.size + 1 ≤ wr.heap.size) ∧ Below w.heap.size w wr) (fun i _ => l.length - (intOf i).toNat)
  case atStart => exact ⟨0, cs0, by omega, rfl, row, Lib.hid (by rw [HZ.out]; exact (Nat.mul_one _).symm), Lib.hid (LaidR.zero _ _ _ _ _ _), Lib.hid (by rw [HX0.out]; exact Nat.le_refl _), hb0⟩
  case round =>
    obtain ⟨k, cs, hk, rfl, hrow, hcs, hlaid, hgw, hb⟩ := hrel
    by_cases hlt : k < l.length
    · obtain ⟨b, off, -, rfl, q0⟩ := IntR.at_ (h.below IntR.stays hb) hlt
      have hsz1 : k * 1 + 1 ≤ cs.size := by rw [hcs.out]; omega
      have q1 : wr.cell? ⟨w.heap.size, k, none⟩ = some (cs[k]?.getD undef) := by rw [hrow.cell, Array.getElem?_eq_getElem (by omega)]; rfl
      have f0 := hrow.free k
      have HR := Lib.hid hrow
      clear hrow
      go_wp2_with fail
      go_roundw
      case rel => exact ⟨k + 1, _, by omega, by go_num, HR.out.set _ _, Lib.hid (by simp [hcs.out]), Lib.hid (((hlaid.out.setF IntR.stays (by simp) _).more hlt rfl rfl (hold1 cs k _) (fresh1 cs k _ hsz1))), Lib.hid (by simpa using hgw.out), hb.setCell (by simp) _⟩
      case measure => simp [intOf]; omega
    · obtain rfl : k = l.length := by omega
      go_wp2
      go_ret
      exact ⟨_, _, rfl, Nat.le_refl _, (sl_of_laid (ok := okF w.heap.size _) hrow ⟨Nat.le_refl _, hgw.out, fun off => hrow.free off⟩ (fun i hi hlt' => by
        obtain ⟨c', h1, h2, h3⟩ := hlaid.out i hi hlt'
        exact ⟨c', h1, IntR.stays _ _ _ _ _ _ h2 (fun b hb' => hb'.mono (Nat.le_succ _)) (fun p v _ hp => hp), h3⟩) (Nat.le_refl _)), hb⟩

theorem infoTokT : (Tryz.prog.info? 113).map (fun i => (i.zero, i.size, i.bytes)) = some (some (.agg #[.int .i64 0, .int .i64 0, .int .i64 0, .int .i64 0, .string ⟨#[]⟩]), 5, 48) := by kernel_rfl
set_option maxRecDepth 100000 in
set_option maxHeartbeats 1000000 in
theorem lawsToTokL (A : Option Addr) (n c : Nat) (l : List Tk) (ok : Nat → Prop) (w : World) (h : Sl TkR 5 ok w A n l) (hs : szL (fun t : Tk => t.vs.size) l ≤ 1048576) :
    Calls Tryz.prog 20 #[.slice A n c] w (MadeSl TkR 5 n l w) := by
  obtain rfl : l.length = n := h.1
  have hn : l.length ≤ 1048576 := by unfold szL at hs; omega
  have HS := Lib.hid hs
  clear hs
  have hmk := fun w => mk_rows (P := Tryz.prog) Tryz.underlying34 infoTokT (by omega) l.length hn w
  go_enter Tryz.func20, Tryz.ntmps20
  go_wp2
  have row := Row.new w 113 (madeCells #[.int .i64 0, .int .i64 0, .int .i64 0, .int .i64 0, .string ⟨#[]⟩] (l.length * 5))
  have hb0 := (Below.refl w.heap.size w).alloc (Nat.le_refl _) (.cells (madeCells #[.int .i64 0, .int .i64 0, .int .i64 0, .int .i64 0, .string ⟨#[]⟩] (l.length * 5)) 113)
  have hsz := size_madeCells #[.int .i64 0, .int .i64 0, .int .i64 0, .int .i64 0, .string ⟨#[]⟩] (l.length * 5)
  have hx0 : (w.alloc (.cells (madeCells #[.int .i64 0, .int .i64 0, .int .i64 0, .int .i64 0, .string ⟨#[]⟩] (l.length * 5)) 113)).heap.size = w.heap.size + 1 := by simp
  generalize w.alloc (.cells (madeCells #[.int .i64 0, .int .i64 0, .int .i64 0, .int .i64 0, .string ⟨#[]⟩] (l.length * 5)) 113) = x at *
  generalize madeCells #[.int .i64 0, .int .i64 0, .int .i64 0, .int .i64 0, .string ⟨#[]⟩] (l.length * 5) = cs0 at *
  have HZ := Lib.hid hsz
  have HX0 := Lib.hid hx0
  clear hmk hsz hx0
  go_loopw [4] (fun i wr => ∃ (k : Nat) (cs : Array Value), k ≤ l.length ∧ i = .int .i64 k ∧ Row wr w.heap.size 113 cs ∧ Hid (cs.size = l.length * 5) ∧ Hid (LaidR TkR 5 (okF (w.heap.size + 1) wr) wr cs k l) ∧ Hid (w.heap.size + 1 ≤ wr.heap.size) ∧ Below w.heap.size w wr) (fun i _ => l.length - (intOf i).toNat)
  case atStart => exact ⟨0, cs0, by omega, rfl, row, Lib.hid (by rw [HZ.out]), Lib.hid (LaidR.zero _ _ _ _ _ _), Lib.hid (by rw [HX0.out]; exact Nat.le_refl _), hb0⟩
  case round =>
    obtain ⟨k, cs, hk, rfl, hrow, hcs, hlaid, hgw, hb⟩ := hrel
    by_cases hlt : k < l.length
    · obtain ⟨b, off, -, rfl, q0, q1, q2, q3, q4⟩ := TkR.at_ (h.below TkR.stays hb) hlt
      have hsz1 : k * 5 + 5 ≤ cs.size := by rw [hcs.out]; omega
      have hszk : l[k].vs.size ≤ 1048576 := by have := HS.out; have := sum_mem_le (fun t : Tk => t.vs.size) l k hlt; unfold szL at *; (try simp only at *); omega
      have HSK := Lib.hid hszk
      clear hszk
      go_wp2_with fail
      refine (lawsToTok l[k] _).mono ?_
      rintro e w1 ⟨rfl, hb1⟩
      have hrow1 := hrow.below hb1
      have hgw1 : w.heap.size + 1 ≤ w1.heap.size := Nat.le_trans hgw.out hb1.size
      have HGW := Lib.hid hgw1
      clear hgw1
      have hl1 := Lib.hid (hlaid.out.belowF TkR.stays hb1)
      have q : ∀ j, j < 5 → w1.cell? ⟨w.heap.size, k * 5 + j, none⟩ = some (cs[k * 5 + j]?.getD undef) := fun j hj => by
        rw [hrow1.cell, Array.getElem?_eq_getElem (by omega)]; rfl
      have z0 : w1.cell? ⟨w.heap.size, k * 5, none⟩ = some (cs[k * 5]?.getD undef) := q 0 (by omega)
      have z1 := q 1 (by omega)
      have z2 := q 2 (by omega)
      have z3 := q 3 (by omega)
      have z4 := q 4 (by omega)
      have f0 := hrow1.free (k * 5)
      have f1 := hrow1.free (k * 5 + 1)
      have f2 := hrow1.free (k * 5 + 2)
      have f3 := hrow1.free (k * 5 + 3)
      have f4 := hrow1.free (k * 5 + 4)
      clear q
      have HR := Lib.hid hrow1
      clear hrow1 hrow q0 q1 q2 q3 q4
      go_wp2_with fail
      go_roundw
      case rel =>
        exact ⟨k + 1, _, by omega, by go_num, (((((HR.out).set _ _).set _ _).set _ _).set _ _).set _ _, Lib.hid (by simp [hcs.out]), Lib.hid (((((((hl1.out).setF TkR.stays (by simp) _).setF TkR.stays (by simp) _).setF TkR.stays (by simp) _).setF TkR.stays (by simp) _).setF TkR.stays (by simp) _).more hlt (c := [.int .i64 l[k].k, .int .i64 l[k].c, .int .i64 l[k].vk, .int .i64 l[k].vn, .string l[k].vs]) rfl rfl (hold5 cs k _ _ _ _ _) (fresh5 cs k _ _ _ _ _ hsz1)), Lib.hid (by simpa using HGW.out), (((((hb.trans (hb1.mono hb.size)).setCell (by simp) _).setCell (by simp) _).setCell (by simp) _).setCell (by simp) _).setCell (by simp) _⟩
      case measure => simp [intOf]; omega
    · obtain rfl : k = l.length := by omega
      go_wp2
      go_ret
      exact ⟨_, _, rfl, Nat.le_refl _, (sl_of_laid (ok := okF w.heap.size _) hrow ⟨Nat.le_refl _, hgw.out, fun off => hrow.free off⟩ (fun i hi hlt' => by
        obtain ⟨c', h1, h2, h3⟩ := hlaid.out i hi hlt'
        exact ⟨c', h1, TkR.stays _ _ _ _ _ _ h2 (fun b hb' => hb'.mono (Nat.le_succ _)) (fun p v _ hp => hp), h3⟩) (Nat.le_refl _)), hb⟩

theorem infoValT : (Tryz.prog.info? 95).map (fun i => (i.zero, i.size, i.bytes)) = some (some (.agg #[.int .i64 0, .int .i64 0, .string ⟨#[]⟩]), 3, 32) := by kernel_rfl
set_option maxRecDepth 100000 in
set_option maxHeartbeats 1000000 in
theorem lawsToValL (A : Option Addr) (n c : Nat) (l : List Vl) (ok : Nat → Prop) (w : World) (h : Sl VlR 3 ok w A n l) (hs : szL (fun v : Vl => v.s.size) l ≤ 1048576) :
    Calls Tryz.prog 84 #[.slice A n c] w (MadeSl VlR 3 n l w) := by
  obtain rfl : l.length = n := h.1
  have hn : l.length ≤ 1048576 := by unfold szL at hs; omega
  have HS := Lib.hid hs
  clear hs
  have hmk := fun w => mk_rows (P := Tryz.prog) Tryz.underlying100 infoValT (by omega) l.length hn w
  go_enter Tryz.func84, Tryz.ntmps84
  go_wp2
  have row := Row.new w 95 (madeCells #[.int .i64 0, .int .i64 0, .string ⟨#[]⟩] (l.length * 3))
  have hb0 := (Below.refl w.heap.size w).alloc (Nat.le_refl _) (.cells (madeCells #[.int .i64 0, .int .i64 0, .string ⟨#[]⟩] (l.length * 3)) 95)
  have hsz := size_madeCells #[.int .i64 0, .int .i64 0, .string ⟨#[]⟩] (l.length * 3)
  have hx0 : (w.alloc (.cells (madeCells #[.int .i64 0, .int .i64 0, .string ⟨#[]⟩] (l.length * 3)) 95)).heap.size = w.heap.size + 1 := by simp
  generalize w.alloc (.cells (madeCells #[.int .i64 0, .int .i64 0, .string ⟨#[]⟩] (l.length * 3)) 95) = x at *
  generalize madeCells #[.int .i64 0, .int .i64 0, .string ⟨#[]⟩] (l.length * 3) = cs0 at *
  have HZ := Lib.hid hsz
  have HX0 := Lib.hid hx0
  clear hmk hsz hx0
  go_loopw [4] (fun i wr => ∃ (k : Nat) (cs : Array Value), k ≤ l.length ∧ i = .int .i64 k ∧ Row wr w.heap.size 95 cs ∧ Hid (cs.size = l.length * 3) ∧ Hid (LaidR VlR 3 (okF (w.heap.size + 1) wr) wr cs k l) ∧ Hid (w.heap.size + 1 ≤ wr.heap.size) ∧ Below w.heap.size w wr) (fun i _ => l.length - (intOf i).toNat)
  case atStart => exact ⟨0, cs0, by omega, rfl, row, Lib.hid (by rw [HZ.out]), Lib.hid (LaidR.zero _ _ _ _ _ _), Lib.hid (by rw [HX0.out]; exact Nat.le_refl _), hb0⟩
  case round =>
    obtain ⟨k, cs, hk, rfl, hrow, hcs, hlaid, hgw, hb⟩ := hrel
    by_cases hlt : k < l.length
    · obtain ⟨b, off, -, rfl, q0, q1, q2⟩ := VlR.at_ (h.below VlR.stays hb) hlt
      have hsz1 : k * 3 + 3 ≤ cs.size := by rw [hcs.out]; omega
      have hszk : l[k].s.size ≤ 1048576 := by have := HS.out; have := sum_mem_le (fun v : Vl => v.s.size) l k hlt; unfold szL at *; (try simp only at *); omega
      have HSK := Lib.hid hszk
      clear hszk
      go_wp2_with fail
      refine (lawsToVal l[k].k l[k].n l[k].s _).mono ?_
      rintro e w1 ⟨rfl, hb1⟩
      have hrow1 := hrow.below hb1
      have hgw1 : w.heap.size + 1 ≤ w1.heap.size := Nat.le_trans hgw.out hb1.size
      have HGW := Lib.hid hgw1
      clear hgw1
      have hl1 := Lib.hid (hlaid.out.belowF VlR.stays hb1)
      have q : ∀ j, j < 3 → w1.cell? ⟨w.heap.size, k * 3 + j, none⟩ = some (cs[k * 3 + j]?.getD undef) := fun j hj => by
        rw [hrow1.cell, Array.getElem?_eq_getElem (by omega)]; rfl
      have z0 : w1.cell? ⟨w.heap.size, k * 3, none⟩ = some (cs[k * 3]?.getD undef) := q 0 (by omega)
      have z1 := q 1 (by omega)
      have z2 := q 2 (by omega)
      have f0 := hrow1.free (k * 3)
      have f1 := hrow1.free (k * 3 + 1)
      have f2 := hrow1.free (k * 3 + 2)
      clear q
      have HR := Lib.hid hrow1
      clear hrow1 hrow q0 q1 q2
      go_wp2_with fail
      go_roundw
      case rel =>
        exact ⟨k + 1, _, by omega, by go_num, (((HR.out).set _ _).set _ _).set _ _, Lib.hid (by simp [hcs.out]), Lib.hid (((((hl1.out).setF VlR.stays (by simp) _).setF VlR.stays (by simp) _).setF VlR.stays (by simp) _).more hlt (c := [.int .i64 l[k].k, .int .i64 l[k].n, .string l[k].s]) rfl rfl (hold3 cs k _ _ _) (fresh3 cs k _ _ _ hsz1)), Lib.hid (by simpa using HGW.out), (((hb.trans (hb1.mono hb.size)).setCell (by simp) _).setCell (by simp) _).setCell (by simp) _⟩
      case measure => simp [intOf]; omega
    · obtain rfl : k = l.length := by omega
      go_wp2
      go_ret
      exact ⟨_, _, rfl, Nat.le_refl _, (sl_of_laid (ok := okF w.heap.size _) hrow ⟨Nat.le_refl _, hgw.out, fun off => hrow.free off⟩ (fun i hi hlt' => by
        obtain ⟨c', h1, h2, h3⟩ := hlaid.out i hi hlt'
        exact ⟨c', h1, VlR.stays _ _ _ _ _ _ h2 (fun b hb' => hb'.mono (Nat.le_succ _)) (fun p v _ hp => hp), h3⟩) (Nat.le_refl _)), hb⟩

set_option maxRecDepth 100000 in
set_option maxHeartbeats 1000000 in
theorem lawsToCol (x : Cl)  (ok : Nat → Prop) (w : World)  (hs : x.sz ≤ 1048576) :
    Calls Tryz.prog 80 #[.agg #[.string x.name, .int .i64 x.kind, .bool x.nn, .int .i64 x.d.k, .int .i64 x.d.n, .string x.d.s]] w fun e w' => e = .returned (.agg #[.string x.name, .int .i64 x.kind, .bool x.nn, .int .i64 x.d.k, .int .i64 x.d.n, .string x.d.s]) ∧ Below w.heap.size w w' := by
  clear hs
  have ra := ((Row.new w 132 #[.string x.name, .int .i64 x.kind, .bool x.nn, .int .i64 x.d.k, .int .i64 x.d.n, .string x.d.s]).alloc (.cells #[.string ⟨#[]⟩, .int .i64 0, .bool false, .int .i64 0, .int .i64 0, .string ⟨#[]⟩] 97)).alloc (.cells #[.string x.name, .int .i64 x.kind, .bool x.nn, .int .i64 0, .int .i64 0, .string ⟨#[]⟩] 97)
  have r1 := (Row.newAt (w.alloc (.cells #[.string x.name, .int .i64 x.kind, .bool x.nn, .int .i64 x.d.k, .int .i64 x.d.n, .string x.d.s] 132)) 97 #[.string ⟨#[]⟩, .int .i64 0, .bool false, .int .i64 0, .int .i64 0, .string ⟨#[]⟩] (w.heap.size + 1) (by simp)).alloc (.cells #[.string x.name, .int .i64 x.kind, .bool x.nn, .int .i64 0, .int .i64 0, .string ⟨#[]⟩] 97)
  have r2 := Row.newAt ((w.alloc (.cells #[.string x.name, .int .i64 x.kind, .bool x.nn, .int .i64 x.d.k, .int .i64 x.d.n, .string x.d.s] 132)).alloc (.cells #[.string ⟨#[]⟩, .int .i64 0, .bool false, .int .i64 0, .int .i64 0, .string ⟨#[]⟩] 97)) 97 #[.string x.name, .int .i64 x.kind, .bool x.nn, .int .i64 0, .int .i64 0, .string ⟨#[]⟩] (w.heap.size + 1 + 1) (by simp)
  have hb0 := ((((Below.refl w.heap.size w).alloc (Nat.le_refl _) (.cells #[.string x.name, .int .i64 x.kind, .bool x.nn, .int .i64 x.d.k, .int .i64 x.d.n, .string x.d.s] 132)).alloc (by simp) (.cells #[.string ⟨#[]⟩, .int .i64 0, .bool false, .int .i64 0, .int .i64 0, .string ⟨#[]⟩] 97)).alloc (by simp; omega) (.cells #[.string x.name, .int .i64 x.kind, .bool x.nn, .int .i64 0, .int .i64 0, .string ⟨#[]⟩] 97))
  have hz0 : w.heap.size + 3 ≤ (((w.alloc (.cells #[.string x.name, .int .i64 x.kind, .bool x.nn, .int .i64 x.d.k, .int .i64 x.d.n, .string x.d.s] 132)).alloc (.cells #[.string ⟨#[]⟩, .int .i64 0, .bool false, .int .i64 0, .int .i64 0, .string ⟨#[]⟩] 97)).alloc (.cells #[.string x.name, .int .i64 x.kind, .bool x.nn, .int .i64 0, .int .i64 0, .string ⟨#[]⟩] 97)).heap.size := by simp
  go_enter Tryz.func80, Tryz.ntmps80
  go_wp2_with fail
  generalize ((w.alloc (.cells #[.string x.name, .int .i64 x.kind, .bool x.nn, .int .i64 x.d.k, .int .i64 x.d.n, .string x.d.s] 132)).alloc (.cells #[.string ⟨#[]⟩, .int .i64 0, .bool false, .int .i64 0, .int .i64 0, .string ⟨#[]⟩] 97)).alloc (.cells #[.string x.name, .int .i64 x.kind, .bool x.nn, .int .i64 0, .int .i64 0, .string ⟨#[]⟩] 97) = x0 at *
  refine (lawsToVal _ _ _ _).mono ?_
  rintro e w1 ⟨rfl, hc0⟩
  have ra := ra.below hc0
  have r1 := r1.below hc0
  have r2 := r2.below hc0
  have hbx0 := hb0.trans (hc0.mono hb0.size)
  have hz1 : w.heap.size + 3 ≤ w1.heap.size := Nat.le_trans hz0 hc0.size
  obtain ⟨⟨a_0_0, a_0_1, a_0_2, a_0_3, a_0_4, a_0_5⟩, -⟩ := ra.all6
  obtain ⟨⟨b_0_0, b_0_1, b_0_2, b_0_3, b_0_4, b_0_5⟩, ⟨f_0_0, f_0_1, f_0_2, f_0_3, f_0_4, f_0_5⟩⟩ := r2.all6
  obtain ⟨⟨g_0_0, g_0_1, g_0_2, g_0_3, g_0_4, g_0_5⟩, ⟨k_0_0, k_0_1, k_0_2, k_0_3, k_0_4, k_0_5⟩⟩ := r1.all6
  have rz : Row ((((((((((w1).setCell ⟨w.heap.size + 1 + 1, 3, none⟩ (.int .i64 x.d.k)).setCell ⟨w.heap.size + 1 + 1, 4, none⟩ (.int .i64 x.d.n)).setCell ⟨w.heap.size + 1 + 1, 5, none⟩ (.string x.d.s)).setCell ⟨w.heap.size + 1, 0, none⟩ (.string x.name)).setCell ⟨w.heap.size + 1, 1, none⟩ (.int .i64 x.kind)).setCell ⟨w.heap.size + 1, 2, none⟩ (.bool x.nn)).setCell ⟨w.heap.size + 1, 3, none⟩ (.int .i64 x.d.k)).setCell ⟨w.heap.size + 1, 4, none⟩ (.int .i64 x.d.n)).setCell ⟨w.heap.size + 1, 5, none⟩ (.string x.d.s)) (w.heap.size + 1) 97 #[.string x.name, .int .i64 x.kind, .bool x.nn, .int .i64 x.d.k, .int .i64 x.d.n, .string x.d.s] := (((((((((r1).far (by simp) _).far (by simp) _).far (by simp) _).set 0 _).set 1 _).set 2 _).set 3 _).set 4 _).set 5 _
  obtain ⟨⟨z0, z1, z2, z3, z4, z5⟩, -⟩ := rz.all6
  have hbz : Below w.heap.size w ((((((((((w1).setCell ⟨w.heap.size + 1 + 1, 3, none⟩ (.int .i64 x.d.k)).setCell ⟨w.heap.size + 1 + 1, 4, none⟩ (.int .i64 x.d.n)).setCell ⟨w.heap.size + 1 + 1, 5, none⟩ (.string x.d.s)).setCell ⟨w.heap.size + 1, 0, none⟩ (.string x.name)).setCell ⟨w.heap.size + 1, 1, none⟩ (.int .i64 x.kind)).setCell ⟨w.heap.size + 1, 2, none⟩ (.bool x.nn)).setCell ⟨w.heap.size + 1, 3, none⟩ (.int .i64 x.d.k)).setCell ⟨w.heap.size + 1, 4, none⟩ (.int .i64 x.d.n)).setCell ⟨w.heap.size + 1, 5, none⟩ (.string x.d.s)) := (((((((((hbx0).setCell (by simp; try omega) _).setCell (by simp; try omega) _).setCell (by simp; try omega) _).setCell (by simp; try omega) _).setCell (by simp; try omega) _).setCell (by simp; try omega) _).setCell (by simp; try omega) _).setCell (by simp; try omega) _).setCell (by simp; try omega) _
  clear ra r1 r2 rz
  go_wp2_with fail
  exact bodyPost_ret (v := .agg #[.string x.name, .int .i64 x.kind, .bool x.nn, .int .i64 x.d.k, .int .i64 x.d.n, .string x.d.s]) (by simp [results, Tryz.results80, go_sem, z0, z1, z2, z3, z4, z5]) rfl ⟨rfl, hbz⟩

theorem infoColT : (Tryz.prog.info? 97).map (fun i => (i.zero, i.size, i.bytes)) = some (some (.agg #[.string ⟨#[]⟩, .int .i64 0, .bool false, .int .i64 0, .int .i64 0, .string ⟨#[]⟩]), 6, 64) := by kernel_rfl
set_option maxRecDepth 100000 in
set_option maxHeartbeats 1000000 in
theorem lawsToColL (A : Option Addr) (n c : Nat) (l : List Cl) (ok : Nat → Prop) (w : World) (h : Sl ClR 6 ok w A n l) (hs : szL Cl.sz l ≤ 1048576) :
    Calls Tryz.prog 46 #[.slice A n c] w (MadeSl ClR 6 n l w) := by
  obtain rfl : l.length = n := h.1
  have hn : l.length ≤ 1048576 := by unfold szL at hs; omega
  have HS := Lib.hid hs
  clear hs
  have hmk := fun w => mk_rows (P := Tryz.prog) Tryz.underlying54 infoColT (by omega) l.length hn w
  go_enter Tryz.func46, Tryz.ntmps46
  go_wp2
  have row := Row.new w 97 (madeCells #[.string ⟨#[]⟩, .int .i64 0, .bool false, .int .i64 0, .int .i64 0, .string ⟨#[]⟩] (l.length * 6))
  have hb0 := (Below.refl w.heap.size w).alloc (Nat.le_refl _) (.cells (madeCells #[.string ⟨#[]⟩, .int .i64 0, .bool false, .int .i64 0, .int .i64 0, .string ⟨#[]⟩] (l.length * 6)) 97)
  have hsz := size_madeCells #[.string ⟨#[]⟩, .int .i64 0, .bool false, .int .i64 0, .int .i64 0, .string ⟨#[]⟩] (l.length * 6)
  have hx0 : (w.alloc (.cells (madeCells #[.string ⟨#[]⟩, .int .i64 0, .bool false, .int .i64 0, .int .i64 0, .string ⟨#[]⟩] (l.length * 6)) 97)).heap.size = w.heap.size + 1 := by simp
  generalize w.alloc (.cells (madeCells #[.string ⟨#[]⟩, .int .i64 0, .bool false, .int .i64 0, .int .i64 0, .string ⟨#[]⟩] (l.length * 6)) 97) = x at *
  generalize madeCells #[.string ⟨#[]⟩, .int .i64 0, .bool false, .int .i64 0, .int .i64 0, .string ⟨#[]⟩] (l.length * 6) = cs0 at *
  have HZ := Lib.hid hsz
  have HX0 := Lib.hid hx0
  clear hmk hsz hx0
  go_loopw [4] (fun i wr => ∃ (k : Nat) (cs : Array Value), k ≤ l.length ∧ i = .int .i64 k ∧ Row wr w.heap.size 97 cs ∧ Hid (cs.size = l.length * 6) ∧ Hid (LaidR ClR 6 (okF (w.heap.size + 1) wr) wr cs k l) ∧ Hid (w.heap.size + 1 ≤ wr.heap.size) ∧ Below w.heap.size w wr) (fun i _ => l.length - (intOf i).toNat)
  case atStart => exact ⟨0, cs0, by omega, rfl, row, Lib.hid (by rw [HZ.out]), Lib.hid (LaidR.zero _ _ _ _ _ _), Lib.hid (by rw [HX0.out]; exact Nat.le_refl _), hb0⟩
  case round =>
    obtain ⟨k, cs, hk, rfl, hrow, hcs, hlaid, hgw, hb⟩ := hrel
    by_cases hlt : k < l.length
    · obtain ⟨b, off, -, rfl, q0, q1, q2, q3, q4, q5⟩ := ClR.at_ (h.below ClR.stays hb) hlt
      have hsz1 : k * 6 + 6 ≤ cs.size := by rw [hcs.out]; omega
      have hszk : l[k].sz ≤ 1048576 := by have := HS.out; have := sum_mem_le (Cl.sz) l k hlt; unfold szL at *; (try simp only at *); omega
      have HSK := Lib.hid hszk
      clear hszk
      go_wp2_with fail
      refine (lawsToCol l[k]  ok _  HSK.out).mono ?_
      rintro e w1 ⟨rfl, hb1⟩
      have hrow1 := hrow.below hb1
      have hgw1 : w.heap.size + 1 ≤ w1.heap.size := Nat.le_trans hgw.out hb1.size
      have HGW := Lib.hid hgw1
      clear hgw1
      have hl1 := Lib.hid (hlaid.out.belowF ClR.stays hb1)
      have q : ∀ j, j < 6 → w1.cell? ⟨w.heap.size, k * 6 + j, none⟩ = some (cs[k * 6 + j]?.getD undef) := fun j hj => by
        rw [hrow1.cell, Array.getElem?_eq_getElem (by omega)]; rfl
      have z0 : w1.cell? ⟨w.heap.size, k * 6, none⟩ = some (cs[k * 6]?.getD undef) := q 0 (by omega)
      have z1 := q 1 (by omega)
      have z2 := q 2 (by omega)
      have z3 := q 3 (by omega)
      have z4 := q 4 (by omega)
      have z5 := q 5 (by omega)
      have f0 := hrow1.free (k * 6)
      have f1 := hrow1.free (k * 6 + 1)
      have f2 := hrow1.free (k * 6 + 2)
      have f3 := hrow1.free (k * 6 + 3)
      have f4 := hrow1.free (k * 6 + 4)
      have f5 := hrow1.free (k * 6 + 5)
      clear q
      have HR := Lib.hid hrow1
      clear hrow1 hrow q0 q1 q2 q3 q4 q5
      go_wp2_with fail
      go_roundw
      case rel =>
        exact ⟨k + 1, _, by omega, by go_num, ((((((HR.out).set _ _).set _ _).set _ _).set _ _).set _ _).set _ _, Lib.hid (by simp [hcs.out]), Lib.hid ((((((((hl1.out).setF ClR.stays (by simp) _).setF ClR.stays (by simp) _).setF ClR.stays (by simp) _).setF ClR.stays (by simp) _).setF ClR.stays (by simp) _).setF ClR.stays (by simp) _).more hlt (c := [.string l[k].name, .int .i64 l[k].kind, .bool l[k].nn, .int .i64 l[k].d.k, .int .i64 l[k].d.n, .string l[k].d.s]) rfl rfl (hold6 cs k _ _ _ _ _ _) (fresh6 cs k _ _ _ _ _ _ hsz1)), Lib.hid (by simpa using HGW.out), ((((((hb.trans (hb1.mono hb.size)).setCell (by simp) _).setCell (by simp) _).setCell (by simp) _).setCell (by simp) _).setCell (by simp) _).setCell (by simp) _⟩
      case measure => simp [intOf]; omega
    · obtain rfl : k = l.length := by omega
      go_wp2
      go_ret
      exact ⟨_, _, rfl, Nat.le_refl _, (sl_of_laid (ok := okF w.heap.size _) hrow ⟨Nat.le_refl _, hgw.out, fun off => hrow.free off⟩ (fun i hi hlt' => by
        obtain ⟨c', h1, h2, h3⟩ := hlaid.out i hi hlt'
        exact ⟨c', h1, ClR.stays _ _ _ _ _ _ h2 (fun b hb' => hb'.mono (Nat.le_succ _)) (fun p v _ hp => hp), h3⟩) (Nat.le_refl _)), hb⟩

set_option maxRecDepth 100000 in
set_option maxHeartbeats 1000000 in
theorem lawsToUnique (x : Uq) (A0 : Option Addr) (n0 c0 : Nat) (ok : Nat → Prop) (w : World) (h0 : Sl IntR 1 ok w A0 n0 x.cols) (hs : x.sz ≤ 1048576) :
    Calls Tryz.prog 81 #[.agg #[.slice A0 n0 c0]] w (MadeR UqR x w) := by
  have hs0 : x.cols.length ≤ 1048576 := by have := hs; unfold Uq.sz at this; omega
  have HS0 := Lib.hid hs0
  clear hs0
  clear hs
  have ra := ((Row.new w 135 #[.slice A0 n0 c0]).alloc (.cells #[.slice none 0 0] 147)).alloc (.cells #[.slice none 0 0] 147)
  have r1 := (Row.newAt (w.alloc (.cells #[.slice A0 n0 c0] 135)) 147 #[.slice none 0 0] (w.heap.size + 1) (by simp)).alloc (.cells #[.slice none 0 0] 147)
  have r2 := Row.newAt ((w.alloc (.cells #[.slice A0 n0 c0] 135)).alloc (.cells #[.slice none 0 0] 147)) 147 #[.slice none 0 0] (w.heap.size + 1 + 1) (by simp)
  have hb0 := ((((Below.refl w.heap.size w).alloc (Nat.le_refl _) (.cells #[.slice A0 n0 c0] 135)).alloc (by simp) (.cells #[.slice none 0 0] 147)).alloc (by simp; omega) (.cells #[.slice none 0 0] 147))
  have hz0 : w.heap.size + 3 ≤ (((w.alloc (.cells #[.slice A0 n0 c0] 135)).alloc (.cells #[.slice none 0 0] 147)).alloc (.cells #[.slice none 0 0] 147)).heap.size := by simp
  go_enter Tryz.func81, Tryz.ntmps81
  go_wp2_with fail
  generalize ((w.alloc (.cells #[.slice A0 n0 c0] 135)).alloc (.cells #[.slice none 0 0] 147)).alloc (.cells #[.slice none 0 0] 147) = x0 at *
  refine (lawsToIntL A0 n0 c0 x.cols ok _ (h0.below IntR.stays hb0) HS0.out).mono ?_
  rintro e w1 ⟨B0, d0, rfl, hcp0, t0, hc0⟩
  have u0 := t0.stays IntR.stays (ok' := okF (w.heap.size + 3) w1) (fun b hb' => hb'.mono (by omega)) (fun p v _ hp => hp)
  clear t0
  have ra := ra.below hc0
  have r1 := r1.below hc0
  have r2 := r2.below hc0
  have hbx0 := hb0.trans (hc0.mono hb0.size)
  have hz1 : w.heap.size + 3 ≤ w1.heap.size := Nat.le_trans hz0 hc0.size
  obtain ⟨a_0_0, -⟩ := ra.all1
  obtain ⟨b_0_0, f_0_0⟩ := r2.all1
  obtain ⟨g_0_0, k_0_0⟩ := r1.all1
  have rz : Row (((w1).setCell ⟨w.heap.size + 1 + 1, 0, none⟩ (.slice B0 n0 d0)).setCell ⟨w.heap.size + 1, 0, none⟩ (.slice B0 n0 d0)) (w.heap.size + 1) 147 #[.slice B0 n0 d0] := ((r1).far (by simp) _).set 0 _
  obtain ⟨z0, -⟩ := rz.all1
  have y0 : Sl IntR 1 (okF (w.heap.size + 3) (((w1).setCell ⟨w.heap.size + 1 + 1, 0, none⟩ (.slice B0 n0 d0)).setCell ⟨w.heap.size + 1, 0, none⟩ (.slice B0 n0 d0))) (((w1).setCell ⟨w.heap.size + 1 + 1, 0, none⟩ (.slice B0 n0 d0)).setCell ⟨w.heap.size + 1, 0, none⟩ (.slice B0 n0 d0)) B0 n0 x.cols := ((u0).setF IntR.stays (by simp) _).setF IntR.stays (by simp) _
  have hbz : Below w.heap.size w (((w1).setCell ⟨w.heap.size + 1 + 1, 0, none⟩ (.slice B0 n0 d0)).setCell ⟨w.heap.size + 1, 0, none⟩ (.slice B0 n0 d0)) := ((hbx0).setCell (by simp; try omega) _).setCell (by simp; try omega) _
  clear ra r1 r2 rz
  go_wp2_with fail
  exact bodyPost_ret (v := .agg #[.slice B0 n0 d0]) (by simp [results, Tryz.results81, go_sem, z0]) rfl ⟨[.slice B0 n0 d0], rfl, ⟨_, _, _, rfl, y0.stays IntR.stays (fun b hb' => hb'.mono (by omega)) (fun p v _ hp => hp), hcp0⟩, hbz⟩

theorem infoUniqueT : (Tryz.prog.info? 147).map (fun i => (i.zero, i.size, i.bytes)) = some (some (.agg #[.slice none 0 0]), 1, 24) := by kernel_rfl
set_option maxRecDepth 100000 in
set_option maxHeartbeats 1000000 in
theorem lawsToUniqueL (A : Option Addr) (n c : Nat) (l : List Uq) (ok : Nat → Prop) (w : World) (h : Sl UqR 1 ok w A n l) (hs : szL Uq.sz l ≤ 1048576) :
    Calls Tryz.prog 48 #[.slice A n c] w (MadeSl UqR 1 n l w) := by
  obtain rfl : l.length = n := h.1
  have hn : l.length ≤ 1048576 := by unfold szL at hs; omega
  have HS := Lib.hid hs
  clear hs
  have hmk := fun w => mk_rows (P := Tryz.prog) Tryz.underlying55 infoUniqueT (by omega) l.length hn w
  simp only [Nat.mul_one] at hmk
  go_enter Tryz.func48, Tryz.ntmps48
  go_wp2
  have row := Row.new w 147 (madeCells #[.slice none 0 0] (l.length))
  have hb0 := (Below.refl w.heap.size w).alloc (Nat.le_refl _) (.cells (madeCells #[.slice none 0 0] (l.length)) 147)
  have hsz := size_madeCells #[.slice none 0 0] (l.length)
  have hx0 : (w.alloc (.cells (madeCells #[.slice none 0 0] (l.length)) 147)).heap.size = w.heap.size + 1 := by simp
  generalize w.alloc (.cells (madeCells #[.slice none 0 0] (l.length)) 147) = x at *
  generalize madeCells #[.slice none 0 0] (l.length) = cs0 at *
  have HZ := Lib.hid hsz
  have HX0 := Lib.hid hx0
  clear hmk hsz hx0
  go_loopw [4] (fun i wr => ∃ (k : Nat) (cs : Array Value), k ≤ l.length ∧ i = .int .i64 k ∧ Row wr w.heap.size 147 cs ∧ Hid (cs.size = l.length * 1) ∧ Hid (LaidR UqR 1 (okF (w.heap.size + 1) wr) wr cs k l) ∧ Hid (w.heap.size + 1 ≤ wr.heap.size) ∧ Below w.heap.size w wr) (fun i _ => l.length - (intOf i).toNat)
  case atStart => exact ⟨0, cs0, by omega, rfl, row, Lib.hid (by rw [HZ.out]; exact (Nat.mul_one _).symm), Lib.hid (LaidR.zero _ _ _ _ _ _), Lib.hid (by rw [HX0.out]; exact Nat.le_refl _), hb0⟩
  case round =>
    obtain ⟨k, cs, hk, rfl, hrow, hcs, hlaid, hgw, hb⟩ := hrel
    by_cases hlt : k < l.length
    · obtain ⟨b, off, A0, n0, c0, -, rfl, q0, s0, -⟩ := UqR.at_ (h.below UqR.stays hb) hlt
      have hsz1 : k * 1 + 1 ≤ cs.size := by rw [hcs.out]; omega
      have hszk : l[k].sz ≤ 1048576 := by have := HS.out; have := sum_mem_le (Uq.sz) l k hlt; unfold szL at *; (try simp only at *); omega
      have HSK := Lib.hid hszk
      clear hszk
      go_wp2_with fail
      refine (lawsToUnique l[k] A0 n0 c0 ok _ s0 HSK.out).mono ?_
      rintro e w1 ⟨cs', rfl, hR1, hb1⟩
      obtain ⟨B0, m0, d0, rfl, t0, hcp⟩ := hR1
      have hrow1 := hrow.below hb1
      have hgw1 : w.heap.size + 1 ≤ w1.heap.size := Nat.le_trans hgw.out hb1.size
      have HGW := Lib.hid hgw1
      clear hgw1
      have hl1 := Lib.hid (hlaid.out.belowF UqR.stays hb1)
      have q : ∀ j, j < 1 → w1.cell? ⟨w.heap.size, k + j, none⟩ = some (cs[k + j]?.getD undef) := fun j hj => by
        rw [hrow1.cell, Array.getElem?_eq_getElem (by omega)]; rfl
      have z0 : w1.cell? ⟨w.heap.size, k, none⟩ = some (cs[k]?.getD undef) := q 0 (by omega)
      have f0 := hrow1.free (k)
      clear q
      have HR := Lib.hid hrow1
      clear hrow1 hrow q0
      go_wp2_with fail
      go_roundw
      case rel =>
        have y0 := ((t0.stays IntR.stays (ok' := okF (w.heap.size + 1) w1) (fun b hb' => hb'.mono hgw.out) (fun p v _ hp => hp))).setF IntR.stays (p := ⟨w.heap.size, k, none⟩) (by simp) (.slice B0 m0 d0)
        exact ⟨k + 1, _, by omega, by go_num, (HR.out).set _ _, Lib.hid (by simp [hcs.out]), Lib.hid (((hl1.out).setF UqR.stays (by simp) _).more hlt (c := [.slice B0 m0 d0]) rfl ⟨_, _, _, rfl, y0, hcp⟩ (hold1 cs k _) (fresh1 cs k _ hsz1)), Lib.hid (by simpa using HGW.out), (hb.trans (hb1.mono hb.size)).setCell (by simp) _⟩
      case measure => simp [intOf]; omega
    · obtain rfl : k = l.length := by omega
      go_wp2
      go_ret
      exact ⟨_, _, rfl, Nat.le_refl _, (sl_of_laid (ok := okF w.heap.size _) hrow ⟨Nat.le_refl _, hgw.out, fun off => hrow.free off⟩ (fun i hi hlt' => by
        obtain ⟨c', h1, h2, h3⟩ := hlaid.out i hi hlt'
        exact ⟨c', h1, UqR.stays _ _ _ _ _ _ h2 (fun b hb' => hb'.mono (Nat.le_succ _)) (fun p v _ hp => hp), h3⟩) (Nat.le_refl _)), hb⟩

set_option maxRecDepth 100000 in
set_option maxHeartbeats 1000000 in
theorem lawsToCheck (x : Ck) (A0 : Option Addr) (n0 c0 : Nat) (ok : Nat → Prop) (w : World) (h0 : Sl TkR 5 ok w A0 n0 x.expr) (hs : x.sz ≤ 1048576) :
    Calls Tryz.prog 82 #[.agg #[.slice A0 n0 c0]] w (MadeR CkR x w) := by
  have hs0 : szL (fun t : Tk => t.vs.size) x.expr ≤ 1048576 := by have := hs; unfold Ck.sz at this; omega
  have HS0 := Lib.hid hs0
  clear hs0
  clear hs
  have ra := ((Row.new w 138 #[.slice A0 n0 c0]).alloc (.cells #[.slice none 0 0] 149)).alloc (.cells #[.slice none 0 0] 149)
  have r1 := (Row.newAt (w.alloc (.cells #[.slice A0 n0 c0] 138)) 149 #[.slice none 0 0] (w.heap.size + 1) (by simp)).alloc (.cells #[.slice none 0 0] 149)
  have r2 := Row.newAt ((w.alloc (.cells #[.slice A0 n0 c0] 138)).alloc (.cells #[.slice none 0 0] 149)) 149 #[.slice none 0 0] (w.heap.size + 1 + 1) (by simp)
  have hb0 := ((((Below.refl w.heap.size w).alloc (Nat.le_refl _) (.cells #[.slice A0 n0 c0] 138)).alloc (by simp) (.cells #[.slice none 0 0] 149)).alloc (by simp; omega) (.cells #[.slice none 0 0] 149))
  have hz0 : w.heap.size + 3 ≤ (((w.alloc (.cells #[.slice A0 n0 c0] 138)).alloc (.cells #[.slice none 0 0] 149)).alloc (.cells #[.slice none 0 0] 149)).heap.size := by simp
  go_enter Tryz.func82, Tryz.ntmps82
  go_wp2_with fail
  generalize ((w.alloc (.cells #[.slice A0 n0 c0] 138)).alloc (.cells #[.slice none 0 0] 149)).alloc (.cells #[.slice none 0 0] 149) = x0 at *
  refine (lawsToTokL A0 n0 c0 x.expr ok _ (h0.below TkR.stays hb0) HS0.out).mono ?_
  rintro e w1 ⟨B0, d0, rfl, hcp0, t0, hc0⟩
  have u0 := t0.stays TkR.stays (ok' := okF (w.heap.size + 3) w1) (fun b hb' => hb'.mono (by omega)) (fun p v _ hp => hp)
  clear t0
  have ra := ra.below hc0
  have r1 := r1.below hc0
  have r2 := r2.below hc0
  have hbx0 := hb0.trans (hc0.mono hb0.size)
  have hz1 : w.heap.size + 3 ≤ w1.heap.size := Nat.le_trans hz0 hc0.size
  obtain ⟨a_0_0, -⟩ := ra.all1
  obtain ⟨b_0_0, f_0_0⟩ := r2.all1
  obtain ⟨g_0_0, k_0_0⟩ := r1.all1
  have rz : Row (((w1).setCell ⟨w.heap.size + 1 + 1, 0, none⟩ (.slice B0 n0 d0)).setCell ⟨w.heap.size + 1, 0, none⟩ (.slice B0 n0 d0)) (w.heap.size + 1) 149 #[.slice B0 n0 d0] := ((r1).far (by simp) _).set 0 _
  obtain ⟨z0, -⟩ := rz.all1
  have y0 : Sl TkR 5 (okF (w.heap.size + 3) (((w1).setCell ⟨w.heap.size + 1 + 1, 0, none⟩ (.slice B0 n0 d0)).setCell ⟨w.heap.size + 1, 0, none⟩ (.slice B0 n0 d0))) (((w1).setCell ⟨w.heap.size + 1 + 1, 0, none⟩ (.slice B0 n0 d0)).setCell ⟨w.heap.size + 1, 0, none⟩ (.slice B0 n0 d0)) B0 n0 x.expr := ((u0).setF TkR.stays (by simp) _).setF TkR.stays (by simp) _
  have hbz : Below w.heap.size w (((w1).setCell ⟨w.heap.size + 1 + 1, 0, none⟩ (.slice B0 n0 d0)).setCell ⟨w.heap.size + 1, 0, none⟩ (.slice B0 n0 d0)) := ((hbx0).setCell (by simp; try omega) _).setCell (by simp; try omega) _
  clear ra r1 r2 rz
  go_wp2_with fail
  exact bodyPost_ret (v := .agg #[.slice B0 n0 d0]) (by simp [results, Tryz.results82, go_sem, z0]) rfl ⟨[.slice B0 n0 d0], rfl, ⟨_, _, _, rfl, y0.stays TkR.stays (fun b hb' => hb'.mono (by omega)) (fun p v _ hp => hp), hcp0⟩, hbz⟩

theorem infoCheckT : (Tryz.prog.info? 149).map (fun i => (i.zero, i.size, i.bytes)) = some (some (.agg #[.slice none 0 0]), 1, 24) := by kernel_rfl
set_option maxRecDepth 100000 in
set_option maxHeartbeats 1000000 in
theorem lawsToCheckL (A : Option Addr) (n c : Nat) (l : List Ck) (ok : Nat → Prop) (w : World) (h : Sl CkR 1 ok w A n l) (hs : szL Ck.sz l ≤ 1048576) :
    Calls Tryz.prog 49 #[.slice A n c] w (MadeSl CkR 1 n l w) := by
  obtain rfl : l.length = n := h.1
  have hn : l.length ≤ 1048576 := by unfold szL at hs; omega
  have HS := Lib.hid hs
  clear hs
  have hmk := fun w => mk_rows (P := Tryz.prog) Tryz.underlying56 infoCheckT (by omega) l.length hn w
  simp only [Nat.mul_one] at hmk
  go_enter Tryz.func49, Tryz.ntmps49
  go_wp2
  have row := Row.new w 149 (madeCells #[.slice none 0 0] (l.length))
  have hb0 := (Below.refl w.heap.size w).alloc (Nat.le_refl _) (.cells (madeCells #[.slice none 0 0] (l.length)) 149)
  have hsz := size_madeCells #[.slice none 0 0] (l.length)
  have hx0 : (w.alloc (.cells (madeCells #[.slice none 0 0] (l.length)) 149)).heap.size = w.heap.size + 1 := by simp
  generalize w.alloc (.cells (madeCells #[.slice none 0 0] (l.length)) 149) = x at *
  generalize madeCells #[.slice none 0 0] (l.length) = cs0 at *
  have HZ := Lib.hid hsz
  have HX0 := Lib.hid hx0
  clear hmk hsz hx0
  go_loopw [4] (fun i wr => ∃ (k : Nat) (cs : Array Value), k ≤ l.length ∧ i = .int .i64 k ∧ Row wr w.heap.size 149 cs ∧ Hid (cs.size = l.length * 1) ∧ Hid (LaidR CkR 1 (okF (w.heap.size + 1) wr) wr cs k l) ∧ Hid (w.heap.size + 1 ≤ wr.heap.size) ∧ Below w.heap.size w wr) (fun i _ => l.length - (intOf i).toNat)
  case atStart => exact ⟨0, cs0, by omega, rfl, row, Lib.hid (by rw [HZ.out]; exact (Nat.mul_one _).symm), Lib.hid (LaidR.zero _ _ _ _ _ _), Lib.hid (by rw [HX0.out]; exact Nat.le_refl _), hb0⟩
  case round =>
    obtain ⟨k, cs, hk, rfl, hrow, hcs, hlaid, hgw, hb⟩ := hrel
    by_cases hlt : k < l.length
    · obtain ⟨b, off, A0, n0, c0, -, rfl, q0, s0, -⟩ := CkR.at_ (h.below CkR.stays hb) hlt
      have hsz1 : k * 1 + 1 ≤ cs.size := by rw [hcs.out]; omega
      have hszk : l[k].sz ≤ 1048576 := by have := HS.out; have := sum_mem_le (Ck.sz) l k hlt; unfold szL at *; (try simp only at *); omega
      have HSK := Lib.hid hszk
      clear hszk
      go_wp2_with fail
      refine (lawsToCheck l[k] A0 n0 c0 ok _ s0 HSK.out).mono ?_
      rintro e w1 ⟨cs', rfl, hR1, hb1⟩
      obtain ⟨B0, m0, d0, rfl, t0, hcp⟩ := hR1
      have hrow1 := hrow.below hb1
      have hgw1 : w.heap.size + 1 ≤ w1.heap.size := Nat.le_trans hgw.out hb1.size
      have HGW := Lib.hid hgw1
      clear hgw1
      have hl1 := Lib.hid (hlaid.out.belowF CkR.stays hb1)
      have q : ∀ j, j < 1 → w1.cell? ⟨w.heap.size, k + j, none⟩ = some (cs[k + j]?.getD undef) := fun j hj => by
        rw [hrow1.cell, Array.getElem?_eq_getElem (by omega)]; rfl
      have z0 : w1.cell? ⟨w.heap.size, k, none⟩ = some (cs[k]?.getD undef) := q 0 (by omega)
      have f0 := hrow1.free (k)
      clear q
      have HR := Lib.hid hrow1
      clear hrow1 hrow q0
      go_wp2_with fail
      go_roundw
      case rel =>
        have y0 := ((t0.stays TkR.stays (ok' := okF (w.heap.size + 1) w1) (fun b hb' => hb'.mono hgw.out) (fun p v _ hp => hp))).setF TkR.stays (p := ⟨w.heap.size, k, none⟩) (by simp) (.slice B0 m0 d0)
        exact ⟨k + 1, _, by omega, by go_num, (HR.out).set _ _, Lib.hid (by simp [hcs.out]), Lib.hid (((hl1.out).setF CkR.stays (by simp) _).more hlt (c := [.slice B0 m0 d0]) rfl ⟨_, _, _, rfl, y0, hcp⟩ (hold1 cs k _) (fresh1 cs k _ hsz1)), Lib.hid (by simpa using HGW.out), (hb.trans (hb1.mono hb.size)).setCell (by simp) _⟩
      case measure => simp [intOf]; omega
    · obtain rfl : k = l.length := by omega
      go_wp2
      go_ret
      exact ⟨_, _, rfl, Nat.le_refl _, (sl_of_laid (ok := okF w.heap.size _) hrow ⟨Nat.le_refl _, hgw.out, fun off => hrow.free off⟩ (fun i hi hlt' => by
        obtain ⟨c', h1, h2, h3⟩ := hlaid.out i hi hlt'
        exact ⟨c', h1, CkR.stays _ _ _ _ _ _ h2 (fun b hb' => hb'.mono (Nat.le_succ _)) (fun p v _ hp => hp), h3⟩) (Nat.le_refl _)), hb⟩

set_option maxRecDepth 100000 in
set_option maxHeartbeats 1000000 in
theorem lawsToFk (x : Fk) (A0 : Option Addr) (n0 c0 : Nat) (ok : Nat → Prop) (w : World) (h0 : Sl IntR 1 ok w A0 n0 x.cols) (hs : x.sz ≤ 1048576) :
    Calls Tryz.prog 83 #[.agg #[.slice A0 n0 c0, .string x.table, .int .i64 x.del, .int .i64 x.upd, .bool x.dfr]] w (MadeR FkR x w) := by
  have hs0 : x.cols.length ≤ 1048576 := by have := hs; unfold Fk.sz at this; omega
  have HS0 := Lib.hid hs0
  clear hs0
  clear hs
  have ra := ((Row.new w 140 #[.slice A0 n0 c0, .string x.table, .int .i64 x.del, .int .i64 x.upd, .bool x.dfr]).alloc (.cells #[.slice none 0 0, .string ⟨#[]⟩, .int .i64 0, .int .i64 0, .bool false] 94)).alloc (.cells #[.slice none 0 0, .string ⟨#[]⟩, .int .i64 0, .int .i64 0, .bool false] 94)
  have r1 := (Row.newAt (w.alloc (.cells #[.slice A0 n0 c0, .string x.table, .int .i64 x.del, .int .i64 x.upd, .bool x.dfr] 140)) 94 #[.slice none 0 0, .string ⟨#[]⟩, .int .i64 0, .int .i64 0, .bool false] (w.heap.size + 1) (by simp)).alloc (.cells #[.slice none 0 0, .string ⟨#[]⟩, .int .i64 0, .int .i64 0, .bool false] 94)
  have r2 := Row.newAt ((w.alloc (.cells #[.slice A0 n0 c0, .string x.table, .int .i64 x.del, .int .i64 x.upd, .bool x.dfr] 140)).alloc (.cells #[.slice none 0 0, .string ⟨#[]⟩, .int .i64 0, .int .i64 0, .bool false] 94)) 94 #[.slice none 0 0, .string ⟨#[]⟩, .int .i64 0, .int .i64 0, .bool false] (w.heap.size + 1 + 1) (by simp)
  have hb0 := ((((Below.refl w.heap.size w).alloc (Nat.le_refl _) (.cells #[.slice A0 n0 c0, .string x.table, .int .i64 x.del, .int .i64 x.upd, .bool x.dfr] 140)).alloc (by simp) (.cells #[.slice none 0 0, .string ⟨#[]⟩, .int .i64 0, .int .i64 0, .bool false] 94)).alloc (by simp; omega) (.cells #[.slice none 0 0, .string ⟨#[]⟩, .int .i64 0, .int .i64 0, .bool false] 94))
  have hz0 : w.heap.size + 3 ≤ (((w.alloc (.cells #[.slice A0 n0 c0, .string x.table, .int .i64 x.del, .int .i64 x.upd, .bool x.dfr] 140)).alloc (.cells #[.slice none 0 0, .string ⟨#[]⟩, .int .i64 0, .int .i64 0, .bool false] 94)).alloc (.cells #[.slice none 0 0, .string ⟨#[]⟩, .int .i64 0, .int .i64 0, .bool false] 94)).heap.size := by simp
  go_enter Tryz.func83, Tryz.ntmps83
  go_wp2_with fail
  generalize ((w.alloc (.cells #[.slice A0 n0 c0, .string x.table, .int .i64 x.del, .int .i64 x.upd, .bool x.dfr] 140)).alloc (.cells #[.slice none 0 0, .string ⟨#[]⟩, .int .i64 0, .int .i64 0, .bool false] 94)).alloc (.cells #[.slice none 0 0, .string ⟨#[]⟩, .int .i64 0, .int .i64 0, .bool false] 94) = x0 at *
  refine (lawsToIntL A0 n0 c0 x.cols ok _ (h0.below IntR.stays hb0) HS0.out).mono ?_
  rintro e w1 ⟨B0, d0, rfl, hcp0, t0, hc0⟩
  have u0 := t0.stays IntR.stays (ok' := okF (w.heap.size + 3) w1) (fun b hb' => hb'.mono (by omega)) (fun p v _ hp => hp)
  clear t0
  have ra := ra.below hc0
  have r1 := r1.below hc0
  have r2 := r2.below hc0
  have hbx0 := hb0.trans (hc0.mono hb0.size)
  have hz1 : w.heap.size + 3 ≤ w1.heap.size := Nat.le_trans hz0 hc0.size
  obtain ⟨⟨a_0_0, a_0_1, a_0_2, a_0_3, a_0_4⟩, -⟩ := ra.five
  obtain ⟨⟨b_0_0, b_0_1, b_0_2, b_0_3, b_0_4⟩, ⟨f_0_0, f_0_1, f_0_2, f_0_3, f_0_4⟩⟩ := r2.five
  obtain ⟨⟨g_0_0, g_0_1, g_0_2, g_0_3, g_0_4⟩, ⟨k_0_0, k_0_1, k_0_2, k_0_3, k_0_4⟩⟩ := r1.five
  have rz : Row (((((((((((w1).setCell ⟨w.heap.size + 1 + 1, 0, none⟩ (.slice B0 n0 d0)).setCell ⟨w.heap.size + 1 + 1, 1, none⟩ (.string x.table)).setCell ⟨w.heap.size + 1 + 1, 2, none⟩ (.int .i64 x.del)).setCell ⟨w.heap.size + 1 + 1, 3, none⟩ (.int .i64 x.upd)).setCell ⟨w.heap.size + 1 + 1, 4, none⟩ (.bool x.dfr)).setCell ⟨w.heap.size + 1, 0, none⟩ (.slice B0 n0 d0)).setCell ⟨w.heap.size + 1, 1, none⟩ (.string x.table)).setCell ⟨w.heap.size + 1, 2, none⟩ (.int .i64 x.del)).setCell ⟨w.heap.size + 1, 3, none⟩ (.int .i64 x.upd)).setCell ⟨w.heap.size + 1, 4, none⟩ (.bool x.dfr)) (w.heap.size + 1) 94 #[.slice B0 n0 d0, .string x.table, .int .i64 x.del, .int .i64 x.upd, .bool x.dfr] := ((((((((((r1).far (by simp) _).far (by simp) _).far (by simp) _).far (by simp) _).far (by simp) _).set 0 _).set 1 _).set 2 _).set 3 _).set 4 _
  obtain ⟨⟨z0, z1, z2, z3, z4⟩, -⟩ := rz.five
  have y0 : Sl IntR 1 (okF (w.heap.size + 3) (((((((((((w1).setCell ⟨w.heap.size + 1 + 1, 0, none⟩ (.slice B0 n0 d0)).setCell ⟨w.heap.size + 1 + 1, 1, none⟩ (.string x.table)).setCell ⟨w.heap.size + 1 + 1, 2, none⟩ (.int .i64 x.del)).setCell ⟨w.heap.size + 1 + 1, 3, none⟩ (.int .i64 x.upd)).setCell ⟨w.heap.size + 1 + 1, 4, none⟩ (.bool x.dfr)).setCell ⟨w.heap.size + 1, 0, none⟩ (.slice B0 n0 d0)).setCell ⟨w.heap.size + 1, 1, none⟩ (.string x.table)).setCell ⟨w.heap.size + 1, 2, none⟩ (.int .i64 x.del)).setCell ⟨w.heap.size + 1, 3, none⟩ (.int .i64 x.upd)).setCell ⟨w.heap.size + 1, 4, none⟩ (.bool x.dfr))) (((((((((((w1).setCell ⟨w.heap.size + 1 + 1, 0, none⟩ (.slice B0 n0 d0)).setCell ⟨w.heap.size + 1 + 1, 1, none⟩ (.string x.table)).setCell ⟨w.heap.size + 1 + 1, 2, none⟩ (.int .i64 x.del)).setCell ⟨w.heap.size + 1 + 1, 3, none⟩ (.int .i64 x.upd)).setCell ⟨w.heap.size + 1 + 1, 4, none⟩ (.bool x.dfr)).setCell ⟨w.heap.size + 1, 0, none⟩ (.slice B0 n0 d0)).setCell ⟨w.heap.size + 1, 1, none⟩ (.string x.table)).setCell ⟨w.heap.size + 1, 2, none⟩ (.int .i64 x.del)).setCell ⟨w.heap.size + 1, 3, none⟩ (.int .i64 x.upd)).setCell ⟨w.heap.size + 1, 4, none⟩ (.bool x.dfr)) B0 n0 x.cols := ((((((((((u0).setF IntR.stays (by simp) _).setF IntR.stays (by simp) _).setF IntR.stays (by simp) _).setF IntR.stays (by simp) _).setF IntR.stays (by simp) _).setF IntR.stays (by simp) _).setF IntR.stays (by simp) _).setF IntR.stays (by simp) _).setF IntR.stays (by simp) _).setF IntR.stays (by simp) _
  have hbz : Below w.heap.size w (((((((((((w1).setCell ⟨w.heap.size + 1 + 1, 0, none⟩ (.slice B0 n0 d0)).setCell ⟨w.heap.size + 1 + 1, 1, none⟩ (.string x.table)).setCell ⟨w.heap.size + 1 + 1, 2, none⟩ (.int .i64 x.del)).setCell ⟨w.heap.size + 1 + 1, 3, none⟩ (.int .i64 x.upd)).setCell ⟨w.heap.size + 1 + 1, 4, none⟩ (.bool x.dfr)).setCell ⟨w.heap.size + 1, 0, none⟩ (.slice B0 n0 d0)).setCell ⟨w.heap.size + 1, 1, none⟩ (.string x.table)).setCell ⟨w.heap.size + 1, 2, none⟩ (.int .i64 x.del)).setCell ⟨w.heap.size + 1, 3, none⟩ (.int .i64 x.upd)).setCell ⟨w.heap.size + 1, 4, none⟩ (.bool x.dfr)) := ((((((((((hbx0).setCell (by simp; try omega) _).setCell (by simp; try omega) _).setCell (by simp; try omega) _).setCell (by simp; try omega) _).setCell (by simp; try omega) _).setCell (by simp; try omega) _).setCell (by simp; try omega) _).setCell (by simp; try omega) _).setCell (by simp; try omega) _).setCell (by simp; try omega) _
  clear ra r1 r2 rz
  go_wp2_with fail
  exact bodyPost_ret (v := .agg #[.slice B0 n0 d0, .string x.table, .int .i64 x.del, .int .i64 x.upd, .bool x.dfr]) (by simp [results, Tryz.results83, go_sem, z0, z1, z2, z3, z4]) rfl ⟨[.slice B0 n0 d0, .string x.table, .int .i64 x.del, .int .i64 x.upd, .bool x.dfr], rfl, ⟨_, _, _, rfl, y0.stays IntR.stays (fun b hb' => hb'.mono (by omega)) (fun p v _ hp => hp), hcp0⟩, hbz⟩

theorem infoFkT : (Tryz.prog.info? 94).map (fun i => (i.zero, i.size, i.bytes)) = some (some (.agg #[.slice none 0 0, .string ⟨#[]⟩, .int .i64 0, .int .i64 0, .bool false]), 5, 64) := by kernel_rfl
set_option maxRecDepth 100000 in
set_option maxHeartbeats 1000000 in
theorem lawsToFkL (A : Option Addr) (n c : Nat) (l : List Fk) (ok : Nat → Prop) (w : World) (h : Sl FkR 5 ok w A n l) (hs : szL Fk.sz l ≤ 1048576) :
    Calls Tryz.prog 50 #[.slice A n c] w (MadeSl FkR 5 n l w) := by
  obtain rfl : l.length = n := h.1
  have hn : l.length ≤ 1048576 := by unfold szL at hs; omega
  have HS := Lib.hid hs
  clear hs
  have hmk := fun w => mk_rows (P := Tryz.prog) Tryz.underlying57 infoFkT (by omega) l.length hn w
  go_enter Tryz.func50, Tryz.ntmps50
  go_wp2
  have row := Row.new w 94 (madeCells #[.slice none 0 0, .string ⟨#[]⟩, .int .i64 0, .int .i64 0, .bool false] (l.length * 5))
  have hb0 := (Below.refl w.heap.size w).alloc (Nat.le_refl _) (.cells (madeCells #[.slice none 0 0, .string ⟨#[]⟩, .int .i64 0, .int .i64 0, .bool false] (l.length * 5)) 94)
  have hsz := size_madeCells #[.slice none 0 0, .string ⟨#[]⟩, .int .i64 0, .int .i64 0, .bool false] (l.length * 5)
  have hx0 : (w.alloc (.cells (madeCells #[.slice none 0 0, .string ⟨#[]⟩, .int .i64 0, .int .i64 0, .bool false] (l.length * 5)) 94)).heap.size = w.heap.size + 1 := by simp
  generalize w.alloc (.cells (madeCells #[.slice none 0 0, .string ⟨#[]⟩, .int .i64 0, .int .i64 0, .bool false] (l.length * 5)) 94) = x at *
  generalize madeCells #[.slice none 0 0, .string ⟨#[]⟩, .int .i64 0, .int .i64 0, .bool false] (l.length * 5) = cs0 at *
  have HZ := Lib.hid hsz
  have HX0 := Lib.hid hx0
  clear hmk hsz hx0
  go_loopw [4] (fun i wr => ∃ (k : Nat) (cs : Array Value), k ≤ l.length ∧ i = .int .i64 k ∧ Row wr w.heap.size 94 cs ∧ Hid (cs.size = l.length * 5) ∧ Hid (LaidR FkR 5 (okF (w.heap.size + 1) wr) wr cs k l) ∧ Hid (w.heap.size + 1 ≤ wr.heap.size) ∧ Below w.heap.size w wr) (fun i _ => l.length - (intOf i).toNat)
  case atStart => exact ⟨0, cs0, by omega, rfl, row, Lib.hid (by rw [HZ.out]), Lib.hid (LaidR.zero _ _ _ _ _ _), Lib.hid (by rw [HX0.out]; exact Nat.le_refl _), hb0⟩
  case round =>
    obtain ⟨k, cs, hk, rfl, hrow, hcs, hlaid, hgw, hb⟩ := hrel
    by_cases hlt : k < l.length
    · obtain ⟨b, off, A0, n0, c0, -, rfl, q0, q1, q2, q3, q4, s0, -⟩ := FkR.at_ (h.below FkR.stays hb) hlt
      have hsz1 : k * 5 + 5 ≤ cs.size := by rw [hcs.out]; omega
      have hszk : l[k].sz ≤ 1048576 := by have := HS.out; have := sum_mem_le (Fk.sz) l k hlt; unfold szL at *; (try simp only at *); omega
      have HSK := Lib.hid hszk
      clear hszk
      go_wp2_with fail
      refine (lawsToFk l[k] A0 n0 c0 ok _ s0 HSK.out).mono ?_
      rintro e w1 ⟨cs', rfl, hR1, hb1⟩
      obtain ⟨B0, m0, d0, rfl, t0, hcp⟩ := hR1
      have hrow1 := hrow.below hb1
      have hgw1 : w.heap.size + 1 ≤ w1.heap.size := Nat.le_trans hgw.out hb1.size
      have HGW := Lib.hid hgw1
      clear hgw1
      have hl1 := Lib.hid (hlaid.out.belowF FkR.stays hb1)
      have q : ∀ j, j < 5 → w1.cell? ⟨w.heap.size, k * 5 + j, none⟩ = some (cs[k * 5 + j]?.getD undef) := fun j hj => by
        rw [hrow1.cell, Array.getElem?_eq_getElem (by omega)]; rfl
      have z0 : w1.cell? ⟨w.heap.size, k * 5, none⟩ = some (cs[k * 5]?.getD undef) := q 0 (by omega)
      have z1 := q 1 (by omega)
      have z2 := q 2 (by omega)
      have z3 := q 3 (by omega)
      have z4 := q 4 (by omega)
      have f0 := hrow1.free (k * 5)
      have f1 := hrow1.free (k * 5 + 1)
      have f2 := hrow1.free (k * 5 + 2)
      have f3 := hrow1.free (k * 5 + 3)
      have f4 := hrow1.free (k * 5 + 4)
      clear q
      have HR := Lib.hid hrow1
      clear hrow1 hrow q0 q1 q2 q3 q4
      go_wp2_with fail
      go_roundw
      case rel =>
        have y0 := ((((((t0.stays IntR.stays (ok' := okF (w.heap.size + 1) w1) (fun b hb' => hb'.mono hgw.out) (fun p v _ hp => hp))).setF IntR.stays (p := ⟨w.heap.size, k * 5, none⟩) (by simp) (.slice B0 m0 d0)).setF IntR.stays (p := ⟨w.heap.size, k * 5 + 1, none⟩) (by simp) (.string l[k].table)).setF IntR.stays (p := ⟨w.heap.size, k * 5 + 2, none⟩) (by simp) (.int .i64 l[k].del)).setF IntR.stays (p := ⟨w.heap.size, k * 5 + 3, none⟩) (by simp) (.int .i64 l[k].upd)).setF IntR.stays (p := ⟨w.heap.size, k * 5 + 4, none⟩) (by simp) (.bool l[k].dfr)
        exact ⟨k + 1, _, by omega, by go_num, (((((HR.out).set _ _).set _ _).set _ _).set _ _).set _ _, Lib.hid (by simp [hcs.out]), Lib.hid (((((((hl1.out).setF FkR.stays (by simp) _).setF FkR.stays (by simp) _).setF FkR.stays (by simp) _).setF FkR.stays (by simp) _).setF FkR.stays (by simp) _).more hlt (c := [.slice B0 m0 d0, .string l[k].table, .int .i64 l[k].del, .int .i64 l[k].upd, .bool l[k].dfr]) rfl ⟨_, _, _, rfl, y0, hcp⟩ (hold5 cs k _ _ _ _ _) (fresh5 cs k _ _ _ _ _ hsz1)), Lib.hid (by simpa using HGW.out), (((((hb.trans (hb1.mono hb.size)).setCell (by simp) _).setCell (by simp) _).setCell (by simp) _).setCell (by simp) _).setCell (by simp) _⟩
      case measure => simp [intOf]; omega
    · obtain rfl : k = l.length := by omega
      go_wp2
      go_ret
      exact ⟨_, _, rfl, Nat.le_refl _, (sl_of_laid (ok := okF w.heap.size _) hrow ⟨Nat.le_refl _, hgw.out, fun off => hrow.free off⟩ (fun i hi hlt' => by
        obtain ⟨c', h1, h2, h3⟩ := hlaid.out i hi hlt'
        exact ⟨c', h1, FkR.stays _ _ _ _ _ _ h2 (fun b hb' => hb'.mono (Nat.le_succ _)) (fun p v _ hp => hp), h3⟩) (Nat.le_refl _)), hb⟩

set_option maxRecDepth 100000 in
set_option maxHeartbeats 1000000 in
theorem lawsToTable (x : Tb) (A1 : Option Addr) (n1 c1 : Nat) (A2 : Option Addr) (n2 c2 : Nat) (A3 : Option Addr) (n3 c3 : Nat) (A4 : Option Addr) (n4 c4 : Nat) (A5 : Option Addr) (n5 c5 : Nat) (ok : Nat → Prop) (w : World) (h1 : Sl ClR 6 ok w A1 n1 x.cols) (h2 : Sl IntR 1 ok w A2 n2 x.key) (h3 : Sl UqR 1 ok w A3 n3 x.uniqs) (h4 : Sl CkR 1 ok w A4 n4 x.checks) (h5 : Sl FkR 5 ok w A5 n5 x.fks) (hs : x.sz ≤ 1048576) :
    Calls Tryz.prog 18 #[.agg #[.string x.name, .slice A1 n1 c1, .slice A2 n2 c2, .slice A3 n3 c3, .slice A4 n4 c4, .slice A5 n5 c5]] w (MadeR TbR x w) := by
  have hs1 : szL Cl.sz x.cols ≤ 1048576 := by have := hs; unfold Tb.sz at this; omega
  have HS1 := Lib.hid hs1
  clear hs1
  have hs2 : x.key.length ≤ 1048576 := by have := hs; unfold Tb.sz at this; omega
  have HS2 := Lib.hid hs2
  clear hs2
  have hs3 : szL Uq.sz x.uniqs ≤ 1048576 := by have := hs; unfold Tb.sz at this; omega
  have HS3 := Lib.hid hs3
  clear hs3
  have hs4 : szL Ck.sz x.checks ≤ 1048576 := by have := hs; unfold Tb.sz at this; omega
  have HS4 := Lib.hid hs4
  clear hs4
  have hs5 : szL Fk.sz x.fks ≤ 1048576 := by have := hs; unfold Tb.sz at this; omega
  have HS5 := Lib.hid hs5
  clear hs5
  clear hs
  have ra := ((Row.new w 49 #[.string x.name, .slice A1 n1 c1, .slice A2 n2 c2, .slice A3 n3 c3, .slice A4 n4 c4, .slice A5 n5 c5]).alloc (.cells #[.string ⟨#[]⟩, .slice none 0 0, .slice none 0 0, .slice none 0 0, .slice none 0 0, .slice none 0 0] 59)).alloc (.cells #[.string x.name, .slice none 0 0, .slice none 0 0, .slice none 0 0, .slice none 0 0, .slice none 0 0] 59)
  have r1 := (Row.newAt (w.alloc (.cells #[.string x.name, .slice A1 n1 c1, .slice A2 n2 c2, .slice A3 n3 c3, .slice A4 n4 c4, .slice A5 n5 c5] 49)) 59 #[.string ⟨#[]⟩, .slice none 0 0, .slice none 0 0, .slice none 0 0, .slice none 0 0, .slice none 0 0] (w.heap.size + 1) (by simp)).alloc (.cells #[.string x.name, .slice none 0 0, .slice none 0 0, .slice none 0 0, .slice none 0 0, .slice none 0 0] 59)
  have r2 := Row.newAt ((w.alloc (.cells #[.string x.name, .slice A1 n1 c1, .slice A2 n2 c2, .slice A3 n3 c3, .slice A4 n4 c4, .slice A5 n5 c5] 49)).alloc (.cells #[.string ⟨#[]⟩, .slice none 0 0, .slice none 0 0, .slice none 0 0, .slice none 0 0, .slice none 0 0] 59)) 59 #[.string x.name, .slice none 0 0, .slice none 0 0, .slice none 0 0, .slice none 0 0, .slice none 0 0] (w.heap.size + 1 + 1) (by simp)
  have hb0 := ((((Below.refl w.heap.size w).alloc (Nat.le_refl _) (.cells #[.string x.name, .slice A1 n1 c1, .slice A2 n2 c2, .slice A3 n3 c3, .slice A4 n4 c4, .slice A5 n5 c5] 49)).alloc (by simp) (.cells #[.string ⟨#[]⟩, .slice none 0 0, .slice none 0 0, .slice none 0 0, .slice none 0 0, .slice none 0 0] 59)).alloc (by simp; omega) (.cells #[.string x.name, .slice none 0 0, .slice none 0 0, .slice none 0 0, .slice none 0 0, .slice none 0 0] 59))
  have hz0 : w.heap.size + 3 ≤ (((w.alloc (.cells #[.string x.name, .slice A1 n1 c1, .slice A2 n2 c2, .slice A3 n3 c3, .slice A4 n4 c4, .slice A5 n5 c5] 49)).alloc (.cells #[.string ⟨#[]⟩, .slice none 0 0, .slice none 0 0, .slice none 0 0, .slice none 0 0, .slice none 0 0] 59)).alloc (.cells #[.string x.name, .slice none 0 0, .slice none 0 0, .slice none 0 0, .slice none 0 0, .slice none 0 0] 59)).heap.size := by simp
  go_enter Tryz.func18, Tryz.ntmps18
  go_wp2_with fail
  generalize ((w.alloc (.cells #[.string x.name, .slice A1 n1 c1, .slice A2 n2 c2, .slice A3 n3 c3, .slice A4 n4 c4, .slice A5 n5 c5] 49)).alloc (.cells #[.string ⟨#[]⟩, .slice none 0 0, .slice none 0 0, .slice none 0 0, .slice none 0 0, .slice none 0 0] 59)).alloc (.cells #[.string x.name, .slice none 0 0, .slice none 0 0, .slice none 0 0, .slice none 0 0, .slice none 0 0] 59) = x0 at *
  refine (lawsToColL A1 n1 c1 x.cols ok _ (h1.below ClR.stays hb0) HS1.out).mono ?_
  rintro e w1 ⟨B1, d1, rfl, hcp1, t1, hc0⟩
  have u1 := t1.stays ClR.stays (ok' := okF (w.heap.size + 3) w1) (fun b hb' => hb'.mono (by omega)) (fun p v _ hp => hp)
  clear t1
  have ra := ra.below hc0
  have r1 := r1.below hc0
  have r2 := r2.below hc0
  have hbx0 := hb0.trans (hc0.mono hb0.size)
  have hz1 : w.heap.size + 3 ≤ w1.heap.size := Nat.le_trans hz0 hc0.size
  obtain ⟨⟨a_0_0, a_0_1, a_0_2, a_0_3, a_0_4, a_0_5⟩, -⟩ := ra.all6
  obtain ⟨⟨b_0_0, b_0_1, b_0_2, b_0_3, b_0_4, b_0_5⟩, ⟨f_0_0, f_0_1, f_0_2, f_0_3, f_0_4, f_0_5⟩⟩ := r2.all6
  go_wp2_with fail
  have ra' : Row ((w1).setCell ⟨w.heap.size + 1 + 1, 1, none⟩ (.slice B1 n1 d1)) w.heap.size 49 #[.string x.name, .slice A1 n1 c1, .slice A2 n2 c2, .slice A3 n3 c3, .slice A4 n4 c4, .slice A5 n5 c5] := (ra).far (by simp; try omega) _
  have r1' : Row ((w1).setCell ⟨w.heap.size + 1 + 1, 1, none⟩ (.slice B1 n1 d1)) (w.heap.size + 1) 59 #[.string ⟨#[]⟩, .slice none 0 0, .slice none 0 0, .slice none 0 0, .slice none 0 0, .slice none 0 0] := (r1).far (by simp) _
  have r2' : Row ((w1).setCell ⟨w.heap.size + 1 + 1, 1, none⟩ (.slice B1 n1 d1)) (w.heap.size + 1 + 1) 59 #[.string x.name, .slice B1 n1 d1, .slice none 0 0, .slice none 0 0, .slice none 0 0, .slice none 0 0] := (r2).set 1 _
  have hb1 : Below w.heap.size w ((w1).setCell ⟨w.heap.size + 1 + 1, 1, none⟩ (.slice B1 n1 d1)) := (hbx0).setCell (by simp; try omega) _
  have hz1' : w.heap.size + 3 ≤ ((w1).setCell ⟨w.heap.size + 1 + 1, 1, none⟩ (.slice B1 n1 d1)).heap.size := by simpa using hz1
  have u1' : Sl ClR 6 (okF (w.heap.size + 3) ((w1).setCell ⟨w.heap.size + 1 + 1, 1, none⟩ (.slice B1 n1 d1))) ((w1).setCell ⟨w.heap.size + 1 + 1, 1, none⟩ (.slice B1 n1 d1)) B1 n1 x.cols := (u1).setF ClR.stays (by simp) _
  clear ra r1 r2 hz1 u1 a_0_0 a_0_1 a_0_2 a_0_3 a_0_4 a_0_5 b_0_0 b_0_1 b_0_2 b_0_3 b_0_4 b_0_5 f_0_0 f_0_1 f_0_2 f_0_3 f_0_4 f_0_5
  generalize (w1).setCell ⟨w.heap.size + 1 + 1, 1, none⟩ (.slice B1 n1 d1) = x1 at *
  have ra := ra'
  have r1 := r1'
  have r2 := r2'
  have hz1 := hz1'
  have u1 := u1'
  clear ra' r1' r2' hz1' u1'
  refine (lawsToIntL A2 n2 c2 x.key ok _ (h2.below IntR.stays hb1) HS2.out).mono ?_
  rintro e w2 ⟨B2, d2, rfl, hcp2, t2, hc1⟩
  have u2 := t2.stays IntR.stays (ok' := okF (w.heap.size + 3) w2) (fun b hb' => hb'.mono (by omega)) (fun p v _ hp => hp)
  clear t2
  have ra := ra.below hc1
  have r1 := r1.below hc1
  have r2 := r2.below hc1
  have hbx1 := hb1.trans (hc1.mono hb1.size)
  have hz2 : w.heap.size + 3 ≤ w2.heap.size := Nat.le_trans hz1 hc1.size
  have u1 := u1.belowF ClR.stays hc1
  obtain ⟨⟨a_1_0, a_1_1, a_1_2, a_1_3, a_1_4, a_1_5⟩, -⟩ := ra.all6
  obtain ⟨⟨b_1_0, b_1_1, b_1_2, b_1_3, b_1_4, b_1_5⟩, ⟨f_1_0, f_1_1, f_1_2, f_1_3, f_1_4, f_1_5⟩⟩ := r2.all6
  go_wp2_with fail
  have ra' : Row ((w2).setCell ⟨w.heap.size + 1 + 1, 2, none⟩ (.slice B2 n2 d2)) w.heap.size 49 #[.string x.name, .slice A1 n1 c1, .slice A2 n2 c2, .slice A3 n3 c3, .slice A4 n4 c4, .slice A5 n5 c5] := (ra).far (by simp; try omega) _
  have r1' : Row ((w2).setCell ⟨w.heap.size + 1 + 1, 2, none⟩ (.slice B2 n2 d2)) (w.heap.size + 1) 59 #[.string ⟨#[]⟩, .slice none 0 0, .slice none 0 0, .slice none 0 0, .slice none 0 0, .slice none 0 0] := (r1).far (by simp) _
  have r2' : Row ((w2).setCell ⟨w.heap.size + 1 + 1, 2, none⟩ (.slice B2 n2 d2)) (w.heap.size + 1 + 1) 59 #[.string x.name, .slice B1 n1 d1, .slice B2 n2 d2, .slice none 0 0, .slice none 0 0, .slice none 0 0] := (r2).set 2 _
  have hb2 : Below w.heap.size w ((w2).setCell ⟨w.heap.size + 1 + 1, 2, none⟩ (.slice B2 n2 d2)) := (hbx1).setCell (by simp; try omega) _
  have hz2' : w.heap.size + 3 ≤ ((w2).setCell ⟨w.heap.size + 1 + 1, 2, none⟩ (.slice B2 n2 d2)).heap.size := by simpa using hz2
  have u1' : Sl ClR 6 (okF (w.heap.size + 3) ((w2).setCell ⟨w.heap.size + 1 + 1, 2, none⟩ (.slice B2 n2 d2))) ((w2).setCell ⟨w.heap.size + 1 + 1, 2, none⟩ (.slice B2 n2 d2)) B1 n1 x.cols := (u1).setF ClR.stays (by simp) _
  have u2' : Sl IntR 1 (okF (w.heap.size + 3) ((w2).setCell ⟨w.heap.size + 1 + 1, 2, none⟩ (.slice B2 n2 d2))) ((w2).setCell ⟨w.heap.size + 1 + 1, 2, none⟩ (.slice B2 n2 d2)) B2 n2 x.key := (u2).setF IntR.stays (by simp) _
  clear ra r1 r2 hz2 u1 u2 a_1_0 a_1_1 a_1_2 a_1_3 a_1_4 a_1_5 b_1_0 b_1_1 b_1_2 b_1_3 b_1_4 b_1_5 f_1_0 f_1_1 f_1_2 f_1_3 f_1_4 f_1_5
  generalize (w2).setCell ⟨w.heap.size + 1 + 1, 2, none⟩ (.slice B2 n2 d2) = x2 at *
  have ra := ra'
  have r1 := r1'
  have r2 := r2'
  have hz2 := hz2'
  have u1 := u1'
  have u2 := u2'
  clear ra' r1' r2' hz2' u1' u2'
  refine (lawsToUniqueL A3 n3 c3 x.uniqs ok _ (h3.below UqR.stays hb2) HS3.out).mono ?_
  rintro e w3 ⟨B3, d3, rfl, hcp3, t3, hc2⟩
  have u3 := t3.stays UqR.stays (ok' := okF (w.heap.size + 3) w3) (fun b hb' => hb'.mono (by omega)) (fun p v _ hp => hp)
  clear t3
  have ra := ra.below hc2
  have r1 := r1.below hc2
  have r2 := r2.below hc2
  have hbx2 := hb2.trans (hc2.mono hb2.size)
  have hz3 : w.heap.size + 3 ≤ w3.heap.size := Nat.le_trans hz2 hc2.size
  have u1 := u1.belowF ClR.stays hc2
  have u2 := u2.belowF IntR.stays hc2
  obtain ⟨⟨a_2_0, a_2_1, a_2_2, a_2_3, a_2_4, a_2_5⟩, -⟩ := ra.all6
  obtain ⟨⟨b_2_0, b_2_1, b_2_2, b_2_3, b_2_4, b_2_5⟩, ⟨f_2_0, f_2_1, f_2_2, f_2_3, f_2_4, f_2_5⟩⟩ := r2.all6
  go_wp2_with fail
  have ra' : Row ((w3).setCell ⟨w.heap.size + 1 + 1, 3, none⟩ (.slice B3 n3 d3)) w.heap.size 49 #[.string x.name, .slice A1 n1 c1, .slice A2 n2 c2, .slice A3 n3 c3, .slice A4 n4 c4, .slice A5 n5 c5] := (ra).far (by simp; try omega) _
  have r1' : Row ((w3).setCell ⟨w.heap.size + 1 + 1, 3, none⟩ (.slice B3 n3 d3)) (w.heap.size + 1) 59 #[.string ⟨#[]⟩, .slice none 0 0, .slice none 0 0, .slice none 0 0, .slice none 0 0, .slice none 0 0] := (r1).far (by simp) _
  have r2' : Row ((w3).setCell ⟨w.heap.size + 1 + 1, 3, none⟩ (.slice B3 n3 d3)) (w.heap.size + 1 + 1) 59 #[.string x.name, .slice B1 n1 d1, .slice B2 n2 d2, .slice B3 n3 d3, .slice none 0 0, .slice none 0 0] := (r2).set 3 _
  have hb3 : Below w.heap.size w ((w3).setCell ⟨w.heap.size + 1 + 1, 3, none⟩ (.slice B3 n3 d3)) := (hbx2).setCell (by simp; try omega) _
  have hz3' : w.heap.size + 3 ≤ ((w3).setCell ⟨w.heap.size + 1 + 1, 3, none⟩ (.slice B3 n3 d3)).heap.size := by simpa using hz3
  have u1' : Sl ClR 6 (okF (w.heap.size + 3) ((w3).setCell ⟨w.heap.size + 1 + 1, 3, none⟩ (.slice B3 n3 d3))) ((w3).setCell ⟨w.heap.size + 1 + 1, 3, none⟩ (.slice B3 n3 d3)) B1 n1 x.cols := (u1).setF ClR.stays (by simp) _
  have u2' : Sl IntR 1 (okF (w.heap.size + 3) ((w3).setCell ⟨w.heap.size + 1 + 1, 3, none⟩ (.slice B3 n3 d3))) ((w3).setCell ⟨w.heap.size + 1 + 1, 3, none⟩ (.slice B3 n3 d3)) B2 n2 x.key := (u2).setF IntR.stays (by simp) _
  have u3' : Sl UqR 1 (okF (w.heap.size + 3) ((w3).setCell ⟨w.heap.size + 1 + 1, 3, none⟩ (.slice B3 n3 d3))) ((w3).setCell ⟨w.heap.size + 1 + 1, 3, none⟩ (.slice B3 n3 d3)) B3 n3 x.uniqs := (u3).setF UqR.stays (by simp) _
  clear ra r1 r2 hz3 u1 u2 u3 a_2_0 a_2_1 a_2_2 a_2_3 a_2_4 a_2_5 b_2_0 b_2_1 b_2_2 b_2_3 b_2_4 b_2_5 f_2_0 f_2_1 f_2_2 f_2_3 f_2_4 f_2_5
  generalize (w3).setCell ⟨w.heap.size + 1 + 1, 3, none⟩ (.slice B3 n3 d3) = x3 at *
  have ra := ra'
  have r1 := r1'
  have r2 := r2'
  have hz3 := hz3'
  have u1 := u1'
  have u2 := u2'
  have u3 := u3'
  clear ra' r1' r2' hz3' u1' u2' u3'
  refine (lawsToCheckL A4 n4 c4 x.checks ok _ (h4.below CkR.stays hb3) HS4.out).mono ?_
  rintro e w4 ⟨B4, d4, rfl, hcp4, t4, hc3⟩
  have u4 := t4.stays CkR.stays (ok' := okF (w.heap.size + 3) w4) (fun b hb' => hb'.mono (by omega)) (fun p v _ hp => hp)
  clear t4
  have ra := ra.below hc3
  have r1 := r1.below hc3
  have r2 := r2.below hc3
  have hbx3 := hb3.trans (hc3.mono hb3.size)
  have hz4 : w.heap.size + 3 ≤ w4.heap.size := Nat.le_trans hz3 hc3.size
  have u1 := u1.belowF ClR.stays hc3
  have u2 := u2.belowF IntR.stays hc3
  have u3 := u3.belowF UqR.stays hc3
  obtain ⟨⟨a_3_0, a_3_1, a_3_2, a_3_3, a_3_4, a_3_5⟩, -⟩ := ra.all6
  obtain ⟨⟨b_3_0, b_3_1, b_3_2, b_3_3, b_3_4, b_3_5⟩, ⟨f_3_0, f_3_1, f_3_2, f_3_3, f_3_4, f_3_5⟩⟩ := r2.all6
  go_wp2_with fail
  have ra' : Row ((w4).setCell ⟨w.heap.size + 1 + 1, 4, none⟩ (.slice B4 n4 d4)) w.heap.size 49 #[.string x.name, .slice A1 n1 c1, .slice A2 n2 c2, .slice A3 n3 c3, .slice A4 n4 c4, .slice A5 n5 c5] := (ra).far (by simp; try omega) _
  have r1' : Row ((w4).setCell ⟨w.heap.size + 1 + 1, 4, none⟩ (.slice B4 n4 d4)) (w.heap.size + 1) 59 #[.string ⟨#[]⟩, .slice none 0 0, .slice none 0 0, .slice none 0 0, .slice none 0 0, .slice none 0 0] := (r1).far (by simp) _
  have r2' : Row ((w4).setCell ⟨w.heap.size + 1 + 1, 4, none⟩ (.slice B4 n4 d4)) (w.heap.size + 1 + 1) 59 #[.string x.name, .slice B1 n1 d1, .slice B2 n2 d2, .slice B3 n3 d3, .slice B4 n4 d4, .slice none 0 0] := (r2).set 4 _
  have hb4 : Below w.heap.size w ((w4).setCell ⟨w.heap.size + 1 + 1, 4, none⟩ (.slice B4 n4 d4)) := (hbx3).setCell (by simp; try omega) _
  have hz4' : w.heap.size + 3 ≤ ((w4).setCell ⟨w.heap.size + 1 + 1, 4, none⟩ (.slice B4 n4 d4)).heap.size := by simpa using hz4
  have u1' : Sl ClR 6 (okF (w.heap.size + 3) ((w4).setCell ⟨w.heap.size + 1 + 1, 4, none⟩ (.slice B4 n4 d4))) ((w4).setCell ⟨w.heap.size + 1 + 1, 4, none⟩ (.slice B4 n4 d4)) B1 n1 x.cols := (u1).setF ClR.stays (by simp) _
  have u2' : Sl IntR 1 (okF (w.heap.size + 3) ((w4).setCell ⟨w.heap.size + 1 + 1, 4, none⟩ (.slice B4 n4 d4))) ((w4).setCell ⟨w.heap.size + 1 + 1, 4, none⟩ (.slice B4 n4 d4)) B2 n2 x.key := (u2).setF IntR.stays (by simp) _
  have u3' : Sl UqR 1 (okF (w.heap.size + 3) ((w4).setCell ⟨w.heap.size + 1 + 1, 4, none⟩ (.slice B4 n4 d4))) ((w4).setCell ⟨w.heap.size + 1 + 1, 4, none⟩ (.slice B4 n4 d4)) B3 n3 x.uniqs := (u3).setF UqR.stays (by simp) _
  have u4' : Sl CkR 1 (okF (w.heap.size + 3) ((w4).setCell ⟨w.heap.size + 1 + 1, 4, none⟩ (.slice B4 n4 d4))) ((w4).setCell ⟨w.heap.size + 1 + 1, 4, none⟩ (.slice B4 n4 d4)) B4 n4 x.checks := (u4).setF CkR.stays (by simp) _
  clear ra r1 r2 hz4 u1 u2 u3 u4 a_3_0 a_3_1 a_3_2 a_3_3 a_3_4 a_3_5 b_3_0 b_3_1 b_3_2 b_3_3 b_3_4 b_3_5 f_3_0 f_3_1 f_3_2 f_3_3 f_3_4 f_3_5
  generalize (w4).setCell ⟨w.heap.size + 1 + 1, 4, none⟩ (.slice B4 n4 d4) = x4 at *
  have ra := ra'
  have r1 := r1'
  have r2 := r2'
  have hz4 := hz4'
  have u1 := u1'
  have u2 := u2'
  have u3 := u3'
  have u4 := u4'
  clear ra' r1' r2' hz4' u1' u2' u3' u4'
  refine (lawsToFkL A5 n5 c5 x.fks ok _ (h5.below FkR.stays hb4) HS5.out).mono ?_
  rintro e w5 ⟨B5, d5, rfl, hcp5, t5, hc4⟩
  have u5 := t5.stays FkR.stays (ok' := okF (w.heap.size + 3) w5) (fun b hb' => hb'.mono (by omega)) (fun p v _ hp => hp)
  clear t5
  have ra := ra.below hc4
  have r1 := r1.below hc4
  have r2 := r2.below hc4
  have hbx4 := hb4.trans (hc4.mono hb4.size)
  have hz5 : w.heap.size + 3 ≤ w5.heap.size := Nat.le_trans hz4 hc4.size
  have u1 := u1.belowF ClR.stays hc4
  have u2 := u2.belowF IntR.stays hc4
  have u3 := u3.belowF UqR.stays hc4
  have u4 := u4.belowF CkR.stays hc4
  obtain ⟨⟨a_4_0, a_4_1, a_4_2, a_4_3, a_4_4, a_4_5⟩, -⟩ := ra.all6
  obtain ⟨⟨b_4_0, b_4_1, b_4_2, b_4_3, b_4_4, b_4_5⟩, ⟨f_4_0, f_4_1, f_4_2, f_4_3, f_4_4, f_4_5⟩⟩ := r2.all6
  obtain ⟨⟨g_4_0, g_4_1, g_4_2, g_4_3, g_4_4, g_4_5⟩, ⟨k_4_0, k_4_1, k_4_2, k_4_3, k_4_4, k_4_5⟩⟩ := r1.all6
  have rz : Row ((((((((w5).setCell ⟨w.heap.size + 1 + 1, 5, none⟩ (.slice B5 n5 d5)).setCell ⟨w.heap.size + 1, 0, none⟩ (.string x.name)).setCell ⟨w.heap.size + 1, 1, none⟩ (.slice B1 n1 d1)).setCell ⟨w.heap.size + 1, 2, none⟩ (.slice B2 n2 d2)).setCell ⟨w.heap.size + 1, 3, none⟩ (.slice B3 n3 d3)).setCell ⟨w.heap.size + 1, 4, none⟩ (.slice B4 n4 d4)).setCell ⟨w.heap.size + 1, 5, none⟩ (.slice B5 n5 d5)) (w.heap.size + 1) 59 #[.string x.name, .slice B1 n1 d1, .slice B2 n2 d2, .slice B3 n3 d3, .slice B4 n4 d4, .slice B5 n5 d5] := (((((((r1).far (by simp) _).set 0 _).set 1 _).set 2 _).set 3 _).set 4 _).set 5 _
  obtain ⟨⟨z0, z1, z2, z3, z4, z5⟩, -⟩ := rz.all6
  have y1 : Sl ClR 6 (okF (w.heap.size + 3) ((((((((w5).setCell ⟨w.heap.size + 1 + 1, 5, none⟩ (.slice B5 n5 d5)).setCell ⟨w.heap.size + 1, 0, none⟩ (.string x.name)).setCell ⟨w.heap.size + 1, 1, none⟩ (.slice B1 n1 d1)).setCell ⟨w.heap.size + 1, 2, none⟩ (.slice B2 n2 d2)).setCell ⟨w.heap.size + 1, 3, none⟩ (.slice B3 n3 d3)).setCell ⟨w.heap.size + 1, 4, none⟩ (.slice B4 n4 d4)).setCell ⟨w.heap.size + 1, 5, none⟩ (.slice B5 n5 d5))) ((((((((w5).setCell ⟨w.heap.size + 1 + 1, 5, none⟩ (.slice B5 n5 d5)).setCell ⟨w.heap.size + 1, 0, none⟩ (.string x.name)).setCell ⟨w.heap.size + 1, 1, none⟩ (.slice B1 n1 d1)).setCell ⟨w.heap.size + 1, 2, none⟩ (.slice B2 n2 d2)).setCell ⟨w.heap.size + 1, 3, none⟩ (.slice B3 n3 d3)).setCell ⟨w.heap.size + 1, 4, none⟩ (.slice B4 n4 d4)).setCell ⟨w.heap.size + 1, 5, none⟩ (.slice B5 n5 d5)) B1 n1 x.cols := (((((((u1).setF ClR.stays (by simp) _).setF ClR.stays (by simp) _).setF ClR.stays (by simp) _).setF ClR.stays (by simp) _).setF ClR.stays (by simp) _).setF ClR.stays (by simp) _).setF ClR.stays (by simp) _
  have y2 : Sl IntR 1 (okF (w.heap.size + 3) ((((((((w5).setCell ⟨w.heap.size + 1 + 1, 5, none⟩ (.slice B5 n5 d5)).setCell ⟨w.heap.size + 1, 0, none⟩ (.string x.name)).setCell ⟨w.heap.size + 1, 1, none⟩ (.slice B1 n1 d1)).setCell ⟨w.heap.size + 1, 2, none⟩ (.slice B2 n2 d2)).setCell ⟨w.heap.size + 1, 3, none⟩ (.slice B3 n3 d3)).setCell ⟨w.heap.size + 1, 4, none⟩ (.slice B4 n4 d4)).setCell ⟨w.heap.size + 1, 5, none⟩ (.slice B5 n5 d5))) ((((((((w5).setCell ⟨w.heap.size + 1 + 1, 5, none⟩ (.slice B5 n5 d5)).setCell ⟨w.heap.size + 1, 0, none⟩ (.string x.name)).setCell ⟨w.heap.size + 1, 1, none⟩ (.slice B1 n1 d1)).setCell ⟨w.heap.size + 1, 2, none⟩ (.slice B2 n2 d2)).setCell ⟨w.heap.size + 1, 3, none⟩ (.slice B3 n3 d3)).setCell ⟨w.heap.size + 1, 4, none⟩ (.slice B4 n4 d4)).setCell ⟨w.heap.size + 1, 5, none⟩ (.slice B5 n5 d5)) B2 n2 x.key := (((((((u2).setF IntR.stays (by simp) _).setF IntR.stays (by simp) _).setF IntR.stays (by simp) _).setF IntR.stays (by simp) _).setF IntR.stays (by simp) _).setF IntR.stays (by simp) _).setF IntR.stays (by simp) _
  have y3 : Sl UqR 1 (okF (w.heap.size + 3) ((((((((w5).setCell ⟨w.heap.size + 1 + 1, 5, none⟩ (.slice B5 n5 d5)).setCell ⟨w.heap.size + 1, 0, none⟩ (.string x.name)).setCell ⟨w.heap.size + 1, 1, none⟩ (.slice B1 n1 d1)).setCell ⟨w.heap.size + 1, 2, none⟩ (.slice B2 n2 d2)).setCell ⟨w.heap.size + 1, 3, none⟩ (.slice B3 n3 d3)).setCell ⟨w.heap.size + 1, 4, none⟩ (.slice B4 n4 d4)).setCell ⟨w.heap.size + 1, 5, none⟩ (.slice B5 n5 d5))) ((((((((w5).setCell ⟨w.heap.size + 1 + 1, 5, none⟩ (.slice B5 n5 d5)).setCell ⟨w.heap.size + 1, 0, none⟩ (.string x.name)).setCell ⟨w.heap.size + 1, 1, none⟩ (.slice B1 n1 d1)).setCell ⟨w.heap.size + 1, 2, none⟩ (.slice B2 n2 d2)).setCell ⟨w.heap.size + 1, 3, none⟩ (.slice B3 n3 d3)).setCell ⟨w.heap.size + 1, 4, none⟩ (.slice B4 n4 d4)).setCell ⟨w.heap.size + 1, 5, none⟩ (.slice B5 n5 d5)) B3 n3 x.uniqs := (((((((u3).setF UqR.stays (by simp) _).setF UqR.stays (by simp) _).setF UqR.stays (by simp) _).setF UqR.stays (by simp) _).setF UqR.stays (by simp) _).setF UqR.stays (by simp) _).setF UqR.stays (by simp) _
  have y4 : Sl CkR 1 (okF (w.heap.size + 3) ((((((((w5).setCell ⟨w.heap.size + 1 + 1, 5, none⟩ (.slice B5 n5 d5)).setCell ⟨w.heap.size + 1, 0, none⟩ (.string x.name)).setCell ⟨w.heap.size + 1, 1, none⟩ (.slice B1 n1 d1)).setCell ⟨w.heap.size + 1, 2, none⟩ (.slice B2 n2 d2)).setCell ⟨w.heap.size + 1, 3, none⟩ (.slice B3 n3 d3)).setCell ⟨w.heap.size + 1, 4, none⟩ (.slice B4 n4 d4)).setCell ⟨w.heap.size + 1, 5, none⟩ (.slice B5 n5 d5))) ((((((((w5).setCell ⟨w.heap.size + 1 + 1, 5, none⟩ (.slice B5 n5 d5)).setCell ⟨w.heap.size + 1, 0, none⟩ (.string x.name)).setCell ⟨w.heap.size + 1, 1, none⟩ (.slice B1 n1 d1)).setCell ⟨w.heap.size + 1, 2, none⟩ (.slice B2 n2 d2)).setCell ⟨w.heap.size + 1, 3, none⟩ (.slice B3 n3 d3)).setCell ⟨w.heap.size + 1, 4, none⟩ (.slice B4 n4 d4)).setCell ⟨w.heap.size + 1, 5, none⟩ (.slice B5 n5 d5)) B4 n4 x.checks := (((((((u4).setF CkR.stays (by simp) _).setF CkR.stays (by simp) _).setF CkR.stays (by simp) _).setF CkR.stays (by simp) _).setF CkR.stays (by simp) _).setF CkR.stays (by simp) _).setF CkR.stays (by simp) _
  have y5 : Sl FkR 5 (okF (w.heap.size + 3) ((((((((w5).setCell ⟨w.heap.size + 1 + 1, 5, none⟩ (.slice B5 n5 d5)).setCell ⟨w.heap.size + 1, 0, none⟩ (.string x.name)).setCell ⟨w.heap.size + 1, 1, none⟩ (.slice B1 n1 d1)).setCell ⟨w.heap.size + 1, 2, none⟩ (.slice B2 n2 d2)).setCell ⟨w.heap.size + 1, 3, none⟩ (.slice B3 n3 d3)).setCell ⟨w.heap.size + 1, 4, none⟩ (.slice B4 n4 d4)).setCell ⟨w.heap.size + 1, 5, none⟩ (.slice B5 n5 d5))) ((((((((w5).setCell ⟨w.heap.size + 1 + 1, 5, none⟩ (.slice B5 n5 d5)).setCell ⟨w.heap.size + 1, 0, none⟩ (.string x.name)).setCell ⟨w.heap.size + 1, 1, none⟩ (.slice B1 n1 d1)).setCell ⟨w.heap.size + 1, 2, none⟩ (.slice B2 n2 d2)).setCell ⟨w.heap.size + 1, 3, none⟩ (.slice B3 n3 d3)).setCell ⟨w.heap.size + 1, 4, none⟩ (.slice B4 n4 d4)).setCell ⟨w.heap.size + 1, 5, none⟩ (.slice B5 n5 d5)) B5 n5 x.fks := (((((((u5).setF FkR.stays (by simp) _).setF FkR.stays (by simp) _).setF FkR.stays (by simp) _).setF FkR.stays (by simp) _).setF FkR.stays (by simp) _).setF FkR.stays (by simp) _).setF FkR.stays (by simp) _
  have hbz : Below w.heap.size w ((((((((w5).setCell ⟨w.heap.size + 1 + 1, 5, none⟩ (.slice B5 n5 d5)).setCell ⟨w.heap.size + 1, 0, none⟩ (.string x.name)).setCell ⟨w.heap.size + 1, 1, none⟩ (.slice B1 n1 d1)).setCell ⟨w.heap.size + 1, 2, none⟩ (.slice B2 n2 d2)).setCell ⟨w.heap.size + 1, 3, none⟩ (.slice B3 n3 d3)).setCell ⟨w.heap.size + 1, 4, none⟩ (.slice B4 n4 d4)).setCell ⟨w.heap.size + 1, 5, none⟩ (.slice B5 n5 d5)) := (((((((hbx4).setCell (by simp; try omega) _).setCell (by simp; try omega) _).setCell (by simp; try omega) _).setCell (by simp; try omega) _).setCell (by simp; try omega) _).setCell (by simp; try omega) _).setCell (by simp; try omega) _
  clear ra r1 r2 rz
  go_wp2_with fail
  exact bodyPost_ret (v := .agg #[.string x.name, .slice B1 n1 d1, .slice B2 n2 d2, .slice B3 n3 d3, .slice B4 n4 d4, .slice B5 n5 d5]) (by simp [results, Tryz.results18, go_sem, z0, z1, z2, z3, z4, z5]) rfl ⟨[.string x.name, .slice B1 n1 d1, .slice B2 n2 d2, .slice B3 n3 d3, .slice B4 n4 d4, .slice B5 n5 d5], rfl, ⟨_, _, _, _, _, _, _, _, _, _, _, _, _, _, _, rfl, y1.stays ClR.stays (fun b hb' => hb'.mono (by omega)) (fun p v _ hp => hp), y2.stays IntR.stays (fun b hb' => hb'.mono (by omega)) (fun p v _ hp => hp), y3.stays UqR.stays (fun b hb' => hb'.mono (by omega)) (fun p v _ hp => hp), y4.stays CkR.stays (fun b hb' => hb'.mono (by omega)) (fun p v _ hp => hp), y5.stays FkR.stays (fun b hb' => hb'.mono (by omega)) (fun p v _ hp => hp), ⟨hcp1, hcp2, hcp3, hcp4, hcp5⟩⟩, hbz⟩

theorem infoTableT : (Tryz.prog.info? 59).map (fun i => (i.zero, i.size, i.bytes)) = some (some (.agg #[.string ⟨#[]⟩, .slice none 0 0, .slice none 0 0, .slice none 0 0, .slice none 0 0, .slice none 0 0]), 6, 136) := by kernel_rfl
set_option maxRecDepth 100000 in
set_option maxHeartbeats 1000000 in
theorem lawsToTableL (A : Option Addr) (n c : Nat) (l : List Tb) (ok : Nat → Prop) (w : World) (h : Sl TbR 6 ok w A n l) (hs : szL Tb.sz l ≤ 1048576) :
    Calls Tryz.prog 7 #[.slice A n c] w (MadeSl TbR 6 n l w) := by
  obtain rfl : l.length = n := h.1
  have hn : l.length ≤ 1048576 := by unfold szL at hs; omega
  have HS := Lib.hid hs
  clear hs
  have hmk := fun w => mk_rows (P := Tryz.prog) Tryz.underlying31 infoTableT (by omega) l.length hn w
  go_enter Tryz.func7, Tryz.ntmps7
  go_wp2
  have row := Row.new w 59 (madeCells #[.string ⟨#[]⟩, .slice none 0 0, .slice none 0 0, .slice none 0 0, .slice none 0 0, .slice none 0 0] (l.length * 6))
  have hb0 := (Below.refl w.heap.size w).alloc (Nat.le_refl _) (.cells (madeCells #[.string ⟨#[]⟩, .slice none 0 0, .slice none 0 0, .slice none 0 0, .slice none 0 0, .slice none 0 0] (l.length * 6)) 59)
  have hsz := size_madeCells #[.string ⟨#[]⟩, .slice none 0 0, .slice none 0 0, .slice none 0 0, .slice none 0 0, .slice none 0 0] (l.length * 6)
  have hx0 : (w.alloc (.cells (madeCells #[.string ⟨#[]⟩, .slice none 0 0, .slice none 0 0, .slice none 0 0, .slice none 0 0, .slice none 0 0] (l.length * 6)) 59)).heap.size = w.heap.size + 1 := by simp
  generalize w.alloc (.cells (madeCells #[.string ⟨#[]⟩, .slice none 0 0, .slice none 0 0, .slice none 0 0, .slice none 0 0, .slice none 0 0] (l.length * 6)) 59) = x at *
  generalize madeCells #[.string ⟨#[]⟩, .slice none 0 0, .slice none 0 0, .slice none 0 0, .slice none 0 0, .slice none 0 0] (l.length * 6) = cs0 at *
  have HZ := Lib.hid hsz
  have HX0 := Lib.hid hx0
  clear hmk hsz hx0
  go_loopw [4] (fun i wr => ∃ (k : Nat) (cs : Array Value), k ≤ l.length ∧ i = .int .i64 k ∧ Row wr w.heap.size 59 cs ∧ Hid (cs.size = l.length * 6) ∧ Hid (LaidR TbR 6 (okF (w.heap.size + 1) wr) wr cs k l) ∧ Hid (w.heap.size + 1 ≤ wr.heap.size) ∧ Below w.heap.size w wr) (fun i _ => l.length - (intOf i).toNat)
  case atStart => exact ⟨0, cs0, by omega, rfl, row, Lib.hid (by rw [HZ.out]), Lib.hid (LaidR.zero _ _ _ _ _ _), Lib.hid (by rw [HX0.out]; exact Nat.le_refl _), hb0⟩
  case round =>
    obtain ⟨k, cs, hk, rfl, hrow, hcs, hlaid, hgw, hb⟩ := hrel
    by_cases hlt : k < l.length
    · obtain ⟨b, off, A1, n1, c1, A2, n2, c2, A3, n3, c3, A4, n4, c4, A5, n5, c5, -, rfl, q0, q1, q2, q3, q4, q5, s1, s2, s3, s4, s5, -⟩ := TbR.at_ (h.below TbR.stays hb) hlt
      have hsz1 : k * 6 + 6 ≤ cs.size := by rw [hcs.out]; omega
      have hszk : l[k].sz ≤ 1048576 := by have := HS.out; have := sum_mem_le (Tb.sz) l k hlt; unfold szL at *; (try simp only at *); omega
      have HSK := Lib.hid hszk
      clear hszk
      go_wp2_with fail
      refine (lawsToTable l[k] A1 n1 c1 A2 n2 c2 A3 n3 c3 A4 n4 c4 A5 n5 c5 ok _ s1 s2 s3 s4 s5 HSK.out).mono ?_
      rintro e w1 ⟨cs', rfl, hR1, hb1⟩
      obtain ⟨B1, m1, d1, B2, m2, d2, B3, m3, d3, B4, m4, d4, B5, m5, d5, rfl, t1, t2, t3, t4, t5, hcp⟩ := hR1
      have hrow1 := hrow.below hb1
      have hgw1 : w.heap.size + 1 ≤ w1.heap.size := Nat.le_trans hgw.out hb1.size
      have HGW := Lib.hid hgw1
      clear hgw1
      have hl1 := Lib.hid (hlaid.out.belowF TbR.stays hb1)
      have q : ∀ j, j < 6 → w1.cell? ⟨w.heap.size, k * 6 + j, none⟩ = some (cs[k * 6 + j]?.getD undef) := fun j hj => by
        rw [hrow1.cell, Array.getElem?_eq_getElem (by omega)]; rfl
      have z0 : w1.cell? ⟨w.heap.size, k * 6, none⟩ = some (cs[k * 6]?.getD undef) := q 0 (by omega)
      have z1 := q 1 (by omega)
      have z2 := q 2 (by omega)
      have z3 := q 3 (by omega)
      have z4 := q 4 (by omega)
      have z5 := q 5 (by omega)
      have f0 := hrow1.free (k * 6)
      have f1 := hrow1.free (k * 6 + 1)
      have f2 := hrow1.free (k * 6 + 2)
      have f3 := hrow1.free (k * 6 + 3)
      have f4 := hrow1.free (k * 6 + 4)
      have f5 := hrow1.free (k * 6 + 5)
      clear q
      have HR := Lib.hid hrow1
      clear hrow1 hrow q0 q1 q2 q3 q4 q5
      go_wp2_with fail
      go_roundw
      case rel =>
        have y1 := (((((((t1.stays ClR.stays (ok' := okF (w.heap.size + 1) w1) (fun b hb' => hb'.mono hgw.out) (fun p v _ hp => hp))).setF ClR.stays (p := ⟨w.heap.size, k * 6, none⟩) (by simp) (.string l[k].name)).setF ClR.stays (p := ⟨w.heap.size, k * 6 + 1, none⟩) (by simp) (.slice B1 m1 d1)).setF ClR.stays (p := ⟨w.heap.size, k * 6 + 2, none⟩) (by simp) (.slice B2 m2 d2)).setF ClR.stays (p := ⟨w.heap.size, k * 6 + 3, none⟩) (by simp) (.slice B3 m3 d3)).setF ClR.stays (p := ⟨w.heap.size, k * 6 + 4, none⟩) (by simp) (.slice B4 m4 d4)).setF ClR.stays (p := ⟨w.heap.size, k * 6 + 5, none⟩) (by simp) (.slice B5 m5 d5)
        have y2 := (((((((t2.stays IntR.stays (ok' := okF (w.heap.size + 1) w1) (fun b hb' => hb'.mono hgw.out) (fun p v _ hp => hp))).setF IntR.stays (p := ⟨w.heap.size, k * 6, none⟩) (by simp) (.string l[k].name)).setF IntR.stays (p := ⟨w.heap.size, k * 6 + 1, none⟩) (by simp) (.slice B1 m1 d1)).setF IntR.stays (p := ⟨w.heap.size, k * 6 + 2, none⟩) (by simp) (.slice B2 m2 d2)).setF IntR.stays (p := ⟨w.heap.size, k * 6 + 3, none⟩) (by simp) (.slice B3 m3 d3)).setF IntR.stays (p := ⟨w.heap.size, k * 6 + 4, none⟩) (by simp) (.slice B4 m4 d4)).setF IntR.stays (p := ⟨w.heap.size, k * 6 + 5, none⟩) (by simp) (.slice B5 m5 d5)
        have y3 := (((((((t3.stays UqR.stays (ok' := okF (w.heap.size + 1) w1) (fun b hb' => hb'.mono hgw.out) (fun p v _ hp => hp))).setF UqR.stays (p := ⟨w.heap.size, k * 6, none⟩) (by simp) (.string l[k].name)).setF UqR.stays (p := ⟨w.heap.size, k * 6 + 1, none⟩) (by simp) (.slice B1 m1 d1)).setF UqR.stays (p := ⟨w.heap.size, k * 6 + 2, none⟩) (by simp) (.slice B2 m2 d2)).setF UqR.stays (p := ⟨w.heap.size, k * 6 + 3, none⟩) (by simp) (.slice B3 m3 d3)).setF UqR.stays (p := ⟨w.heap.size, k * 6 + 4, none⟩) (by simp) (.slice B4 m4 d4)).setF UqR.stays (p := ⟨w.heap.size, k * 6 + 5, none⟩) (by simp) (.slice B5 m5 d5)
        have y4 := (((((((t4.stays CkR.stays (ok' := okF (w.heap.size + 1) w1) (fun b hb' => hb'.mono hgw.out) (fun p v _ hp => hp))).setF CkR.stays (p := ⟨w.heap.size, k * 6, none⟩) (by simp) (.string l[k].name)).setF CkR.stays (p := ⟨w.heap.size, k * 6 + 1, none⟩) (by simp) (.slice B1 m1 d1)).setF CkR.stays (p := ⟨w.heap.size, k * 6 + 2, none⟩) (by simp) (.slice B2 m2 d2)).setF CkR.stays (p := ⟨w.heap.size, k * 6 + 3, none⟩) (by simp) (.slice B3 m3 d3)).setF CkR.stays (p := ⟨w.heap.size, k * 6 + 4, none⟩) (by simp) (.slice B4 m4 d4)).setF CkR.stays (p := ⟨w.heap.size, k * 6 + 5, none⟩) (by simp) (.slice B5 m5 d5)
        have y5 := (((((((t5.stays FkR.stays (ok' := okF (w.heap.size + 1) w1) (fun b hb' => hb'.mono hgw.out) (fun p v _ hp => hp))).setF FkR.stays (p := ⟨w.heap.size, k * 6, none⟩) (by simp) (.string l[k].name)).setF FkR.stays (p := ⟨w.heap.size, k * 6 + 1, none⟩) (by simp) (.slice B1 m1 d1)).setF FkR.stays (p := ⟨w.heap.size, k * 6 + 2, none⟩) (by simp) (.slice B2 m2 d2)).setF FkR.stays (p := ⟨w.heap.size, k * 6 + 3, none⟩) (by simp) (.slice B3 m3 d3)).setF FkR.stays (p := ⟨w.heap.size, k * 6 + 4, none⟩) (by simp) (.slice B4 m4 d4)).setF FkR.stays (p := ⟨w.heap.size, k * 6 + 5, none⟩) (by simp) (.slice B5 m5 d5)
        exact ⟨k + 1, _, by omega, by go_num, ((((((HR.out).set _ _).set _ _).set _ _).set _ _).set _ _).set _ _, Lib.hid (by simp [hcs.out]), Lib.hid ((((((((hl1.out).setF TbR.stays (by simp) _).setF TbR.stays (by simp) _).setF TbR.stays (by simp) _).setF TbR.stays (by simp) _).setF TbR.stays (by simp) _).setF TbR.stays (by simp) _).more hlt (c := [.string l[k].name, .slice B1 m1 d1, .slice B2 m2 d2, .slice B3 m3 d3, .slice B4 m4 d4, .slice B5 m5 d5]) rfl ⟨_, _, _, _, _, _, _, _, _, _, _, _, _, _, _, rfl, y1, y2, y3, y4, y5, hcp⟩ (hold6 cs k _ _ _ _ _ _) (fresh6 cs k _ _ _ _ _ _ hsz1)), Lib.hid (by simpa using HGW.out), ((((((hb.trans (hb1.mono hb.size)).setCell (by simp) _).setCell (by simp) _).setCell (by simp) _).setCell (by simp) _).setCell (by simp) _).setCell (by simp) _⟩
      case measure => simp [intOf]; omega
    · obtain rfl : k = l.length := by omega
      go_wp2
      go_ret
      exact ⟨_, _, rfl, Nat.le_refl _, (sl_of_laid (ok := okF w.heap.size _) hrow ⟨Nat.le_refl _, hgw.out, fun off => hrow.free off⟩ (fun i hi hlt' => by
        obtain ⟨c', h1, h2, h3⟩ := hlaid.out i hi hlt'
        exact ⟨c', h1, TbR.stays _ _ _ _ _ _ h2 (fun b hb' => hb'.mono (Nat.le_succ _)) (fun p v _ hp => hp), h3⟩) (Nat.le_refl _)), hb⟩

set_option maxRecDepth 100000 in
set_option maxHeartbeats 1000000 in
theorem lawsToRow (x : Rw) (A1 : Option Addr) (n1 c1 : Nat) (ok : Nat → Prop) (w : World) (h1 : Sl VlR 3 ok w A1 n1 x.vals) (hs : x.sz ≤ 1048576) :
    Calls Tryz.prog 51 #[.agg #[.int .i64 x.id, .slice A1 n1 c1]] w (MadeR RwR x w) := by
  have hs1 : szL (fun v : Vl => v.s.size) x.vals ≤ 1048576 := by have := hs; unfold Rw.sz at this; omega
  have HS1 := Lib.hid hs1
  clear hs1
  clear hs
  have ra := ((Row.new w 83 #[.int .i64 x.id, .slice A1 n1 c1]).alloc (.cells #[.int .i64 0, .slice none 0 0] 102)).alloc (.cells #[.int .i64 x.id, .slice none 0 0] 102)
  have r1 := (Row.newAt (w.alloc (.cells #[.int .i64 x.id, .slice A1 n1 c1] 83)) 102 #[.int .i64 0, .slice none 0 0] (w.heap.size + 1) (by simp)).alloc (.cells #[.int .i64 x.id, .slice none 0 0] 102)
  have r2 := Row.newAt ((w.alloc (.cells #[.int .i64 x.id, .slice A1 n1 c1] 83)).alloc (.cells #[.int .i64 0, .slice none 0 0] 102)) 102 #[.int .i64 x.id, .slice none 0 0] (w.heap.size + 1 + 1) (by simp)
  have hb0 := ((((Below.refl w.heap.size w).alloc (Nat.le_refl _) (.cells #[.int .i64 x.id, .slice A1 n1 c1] 83)).alloc (by simp) (.cells #[.int .i64 0, .slice none 0 0] 102)).alloc (by simp; omega) (.cells #[.int .i64 x.id, .slice none 0 0] 102))
  have hz0 : w.heap.size + 3 ≤ (((w.alloc (.cells #[.int .i64 x.id, .slice A1 n1 c1] 83)).alloc (.cells #[.int .i64 0, .slice none 0 0] 102)).alloc (.cells #[.int .i64 x.id, .slice none 0 0] 102)).heap.size := by simp
  go_enter Tryz.func51, Tryz.ntmps51
  go_wp2_with fail
  generalize ((w.alloc (.cells #[.int .i64 x.id, .slice A1 n1 c1] 83)).alloc (.cells #[.int .i64 0, .slice none 0 0] 102)).alloc (.cells #[.int .i64 x.id, .slice none 0 0] 102) = x0 at *
  refine (lawsToValL A1 n1 c1 x.vals ok _ (h1.below VlR.stays hb0) HS1.out).mono ?_
  rintro e w1 ⟨B1, d1, rfl, hcp1, t1, hc0⟩
  have u1 := t1.stays VlR.stays (ok' := okF (w.heap.size + 3) w1) (fun b hb' => hb'.mono (by omega)) (fun p v _ hp => hp)
  clear t1
  have ra := ra.below hc0
  have r1 := r1.below hc0
  have r2 := r2.below hc0
  have hbx0 := hb0.trans (hc0.mono hb0.size)
  have hz1 : w.heap.size + 3 ≤ w1.heap.size := Nat.le_trans hz0 hc0.size
  obtain ⟨⟨a_0_0, a_0_1⟩, -⟩ := ra.all2
  obtain ⟨⟨b_0_0, b_0_1⟩, ⟨f_0_0, f_0_1⟩⟩ := r2.all2
  obtain ⟨⟨g_0_0, g_0_1⟩, ⟨k_0_0, k_0_1⟩⟩ := r1.all2
  have rz : Row ((((w1).setCell ⟨w.heap.size + 1 + 1, 1, none⟩ (.slice B1 n1 d1)).setCell ⟨w.heap.size + 1, 0, none⟩ (.int .i64 x.id)).setCell ⟨w.heap.size + 1, 1, none⟩ (.slice B1 n1 d1)) (w.heap.size + 1) 102 #[.int .i64 x.id, .slice B1 n1 d1] := (((r1).far (by simp) _).set 0 _).set 1 _
  obtain ⟨⟨z0, z1⟩, -⟩ := rz.all2
  have y1 : Sl VlR 3 (okF (w.heap.size + 3) ((((w1).setCell ⟨w.heap.size + 1 + 1, 1, none⟩ (.slice B1 n1 d1)).setCell ⟨w.heap.size + 1, 0, none⟩ (.int .i64 x.id)).setCell ⟨w.heap.size + 1, 1, none⟩ (.slice B1 n1 d1))) ((((w1).setCell ⟨w.heap.size + 1 + 1, 1, none⟩ (.slice B1 n1 d1)).setCell ⟨w.heap.size + 1, 0, none⟩ (.int .i64 x.id)).setCell ⟨w.heap.size + 1, 1, none⟩ (.slice B1 n1 d1)) B1 n1 x.vals := (((u1).setF VlR.stays (by simp) _).setF VlR.stays (by simp) _).setF VlR.stays (by simp) _
  have hbz : Below w.heap.size w ((((w1).setCell ⟨w.heap.size + 1 + 1, 1, none⟩ (.slice B1 n1 d1)).setCell ⟨w.heap.size + 1, 0, none⟩ (.int .i64 x.id)).setCell ⟨w.heap.size + 1, 1, none⟩ (.slice B1 n1 d1)) := (((hbx0).setCell (by simp; try omega) _).setCell (by simp; try omega) _).setCell (by simp; try omega) _
  clear ra r1 r2 rz
  go_wp2_with fail
  exact bodyPost_ret (v := .agg #[.int .i64 x.id, .slice B1 n1 d1]) (by simp [results, Tryz.results51, go_sem, z0, z1]) rfl ⟨[.int .i64 x.id, .slice B1 n1 d1], rfl, ⟨_, _, _, rfl, y1.stays VlR.stays (fun b hb' => hb'.mono (by omega)) (fun p v _ hp => hp), hcp1⟩, hbz⟩

theorem infoRowT : (Tryz.prog.info? 102).map (fun i => (i.zero, i.size, i.bytes)) = some (some (.agg #[.int .i64 0, .slice none 0 0]), 2, 32) := by kernel_rfl
set_option maxRecDepth 100000 in
set_option maxHeartbeats 1000000 in
theorem lawsToRowL (A : Option Addr) (n c : Nat) (l : List Rw) (ok : Nat → Prop) (w : World) (h : Sl RwR 2 ok w A n l) (hs : szL Rw.sz l ≤ 1048576) :
    Calls Tryz.prog 19 #[.slice A n c] w (MadeSl RwR 2 n l w) := by
  obtain rfl : l.length = n := h.1
  have hn : l.length ≤ 1048576 := by unfold szL at hs; omega
  have HS := Lib.hid hs
  clear hs
  have hmk := fun w => mk_rows (P := Tryz.prog) Tryz.underlying33 infoRowT (by omega) l.length hn w
  go_enter Tryz.func19, Tryz.ntmps19
  go_wp2
  have row := Row.new w 102 (madeCells #[.int .i64 0, .slice none 0 0] (l.length * 2))
  have hb0 := (Below.refl w.heap.size w).alloc (Nat.le_refl _) (.cells (madeCells #[.int .i64 0, .slice none 0 0] (l.length * 2)) 102)
  have hsz := size_madeCells #[.int .i64 0, .slice none 0 0] (l.length * 2)
  have hx0 : (w.alloc (.cells (madeCells #[.int .i64 0, .slice none 0 0] (l.length * 2)) 102)).heap.size = w.heap.size + 1 := by simp
  generalize w.alloc (.cells (madeCells #[.int .i64 0, .slice none 0 0] (l.length * 2)) 102) = x at *
  generalize madeCells #[.int .i64 0, .slice none 0 0] (l.length * 2) = cs0 at *
  have HZ := Lib.hid hsz
  have HX0 := Lib.hid hx0
  clear hmk hsz hx0
  go_loopw [4] (fun i wr => ∃ (k : Nat) (cs : Array Value), k ≤ l.length ∧ i = .int .i64 k ∧ Row wr w.heap.size 102 cs ∧ Hid (cs.size = l.length * 2) ∧ Hid (LaidR RwR 2 (okF (w.heap.size + 1) wr) wr cs k l) ∧ Hid (w.heap.size + 1 ≤ wr.heap.size) ∧ Below w.heap.size w wr) (fun i _ => l.length - (intOf i).toNat)
  case atStart => exact ⟨0, cs0, by omega, rfl, row, Lib.hid (by rw [HZ.out]), Lib.hid (LaidR.zero _ _ _ _ _ _), Lib.hid (by rw [HX0.out]; exact Nat.le_refl _), hb0⟩
  case round =>
    obtain ⟨k, cs, hk, rfl, hrow, hcs, hlaid, hgw, hb⟩ := hrel
    by_cases hlt : k < l.length
    · obtain ⟨b, off, A1, n1, c1, -, rfl, q0, q1, s1, -⟩ := RwR.at_ (h.below RwR.stays hb) hlt
      have hsz1 : k * 2 + 2 ≤ cs.size := by rw [hcs.out]; omega
      have hszk : l[k].sz ≤ 1048576 := by have := HS.out; have := sum_mem_le (Rw.sz) l k hlt; unfold szL at *; (try simp only at *); omega
      have HSK := Lib.hid hszk
      clear hszk
      go_wp2_with fail
      refine (lawsToRow l[k] A1 n1 c1 ok _ s1 HSK.out).mono ?_
      rintro e w1 ⟨cs', rfl, hR1, hb1⟩
      obtain ⟨B1, m1, d1, rfl, t1, hcp⟩ := hR1
      have hrow1 := hrow.below hb1
      have hgw1 : w.heap.size + 1 ≤ w1.heap.size := Nat.le_trans hgw.out hb1.size
      have HGW := Lib.hid hgw1
      clear hgw1
      have hl1 := Lib.hid (hlaid.out.belowF RwR.stays hb1)
      have q : ∀ j, j < 2 → w1.cell? ⟨w.heap.size, k * 2 + j, none⟩ = some (cs[k * 2 + j]?.getD undef) := fun j hj => by
        rw [hrow1.cell, Array.getElem?_eq_getElem (by omega)]; rfl
      have z0 : w1.cell? ⟨w.heap.size, k * 2, none⟩ = some (cs[k * 2]?.getD undef) := q 0 (by omega)
      have z1 := q 1 (by omega)
      have f0 := hrow1.free (k * 2)
      have f1 := hrow1.free (k * 2 + 1)
      clear q
      have HR := Lib.hid hrow1
      clear hrow1 hrow q0 q1
      go_wp2_with fail
      go_roundw
      case rel =>
        have y1 := (((t1.stays VlR.stays (ok' := okF (w.heap.size + 1) w1) (fun b hb' => hb'.mono hgw.out) (fun p v _ hp => hp))).setF VlR.stays (p := ⟨w.heap.size, k * 2, none⟩) (by simp) (.int .i64 l[k].id)).setF VlR.stays (p := ⟨w.heap.size, k * 2 + 1, none⟩) (by simp) (.slice B1 m1 d1)
        exact ⟨k + 1, _, by omega, by go_num, ((HR.out).set _ _).set _ _, Lib.hid (by simp [hcs.out]), Lib.hid ((((hl1.out).setF RwR.stays (by simp) _).setF RwR.stays (by simp) _).more hlt (c := [.int .i64 l[k].id, .slice B1 m1 d1]) rfl ⟨_, _, _, rfl, y1, hcp⟩ (hold2 cs k _ _) (fresh2 cs k _ _ hsz1)), Lib.hid (by simpa using HGW.out), ((hb.trans (hb1.mono hb.size)).setCell (by simp) _).setCell (by simp) _⟩
      case measure => simp [intOf]; omega
    · obtain rfl : k = l.length := by omega
      go_wp2
      go_ret
      exact ⟨_, _, rfl, Nat.le_refl _, (sl_of_laid (ok := okF w.heap.size _) hrow ⟨Nat.le_refl _, hgw.out, fun off => hrow.free off⟩ (fun i hi hlt' => by
        obtain ⟨c', h1, h2, h3⟩ := hlaid.out i hi hlt'
        exact ⟨c', h1, RwR.stays _ _ _ _ _ _ h2 (fun b hb' => hb'.mono (Nat.le_succ _)) (fun p v _ hp => hp), h3⟩) (Nat.le_refl _)), hb⟩

set_option maxRecDepth 100000 in
set_option maxHeartbeats 1000000 in
theorem lawsToSet (x : Se) (A1 : Option Addr) (n1 c1 : Nat) (ok : Nat → Prop) (w : World) (h1 : Sl TkR 5 ok w A1 n1 x.expr) (hs : x.sz ≤ 1048576) :
    Calls Tryz.prog 53 #[.agg #[.int .i64 x.col, .slice A1 n1 c1]] w (MadeR SeR x w) := by
  have hs1 : szL (fun t : Tk => t.vs.size) x.expr ≤ 1048576 := by have := hs; unfold Se.sz at this; omega
  have HS1 := Lib.hid hs1
  clear hs1
  clear hs
  have ra := ((Row.new w 91 #[.int .i64 x.col, .slice A1 n1 c1]).alloc (.cells #[.int .i64 0, .slice none 0 0] 104)).alloc (.cells #[.int .i64 x.col, .slice none 0 0] 104)
  have r1 := (Row.newAt (w.alloc (.cells #[.int .i64 x.col, .slice A1 n1 c1] 91)) 104 #[.int .i64 0, .slice none 0 0] (w.heap.size + 1) (by simp)).alloc (.cells #[.int .i64 x.col, .slice none 0 0] 104)
  have r2 := Row.newAt ((w.alloc (.cells #[.int .i64 x.col, .slice A1 n1 c1] 91)).alloc (.cells #[.int .i64 0, .slice none 0 0] 104)) 104 #[.int .i64 x.col, .slice none 0 0] (w.heap.size + 1 + 1) (by simp)
  have hb0 := ((((Below.refl w.heap.size w).alloc (Nat.le_refl _) (.cells #[.int .i64 x.col, .slice A1 n1 c1] 91)).alloc (by simp) (.cells #[.int .i64 0, .slice none 0 0] 104)).alloc (by simp; omega) (.cells #[.int .i64 x.col, .slice none 0 0] 104))
  have hz0 : w.heap.size + 3 ≤ (((w.alloc (.cells #[.int .i64 x.col, .slice A1 n1 c1] 91)).alloc (.cells #[.int .i64 0, .slice none 0 0] 104)).alloc (.cells #[.int .i64 x.col, .slice none 0 0] 104)).heap.size := by simp
  go_enter Tryz.func53, Tryz.ntmps53
  go_wp2_with fail
  generalize ((w.alloc (.cells #[.int .i64 x.col, .slice A1 n1 c1] 91)).alloc (.cells #[.int .i64 0, .slice none 0 0] 104)).alloc (.cells #[.int .i64 x.col, .slice none 0 0] 104) = x0 at *
  refine (lawsToTokL A1 n1 c1 x.expr ok _ (h1.below TkR.stays hb0) HS1.out).mono ?_
  rintro e w1 ⟨B1, d1, rfl, hcp1, t1, hc0⟩
  have u1 := t1.stays TkR.stays (ok' := okF (w.heap.size + 3) w1) (fun b hb' => hb'.mono (by omega)) (fun p v _ hp => hp)
  clear t1
  have ra := ra.below hc0
  have r1 := r1.below hc0
  have r2 := r2.below hc0
  have hbx0 := hb0.trans (hc0.mono hb0.size)
  have hz1 : w.heap.size + 3 ≤ w1.heap.size := Nat.le_trans hz0 hc0.size
  obtain ⟨⟨a_0_0, a_0_1⟩, -⟩ := ra.all2
  obtain ⟨⟨b_0_0, b_0_1⟩, ⟨f_0_0, f_0_1⟩⟩ := r2.all2
  obtain ⟨⟨g_0_0, g_0_1⟩, ⟨k_0_0, k_0_1⟩⟩ := r1.all2
  have rz : Row ((((w1).setCell ⟨w.heap.size + 1 + 1, 1, none⟩ (.slice B1 n1 d1)).setCell ⟨w.heap.size + 1, 0, none⟩ (.int .i64 x.col)).setCell ⟨w.heap.size + 1, 1, none⟩ (.slice B1 n1 d1)) (w.heap.size + 1) 104 #[.int .i64 x.col, .slice B1 n1 d1] := (((r1).far (by simp) _).set 0 _).set 1 _
  obtain ⟨⟨z0, z1⟩, -⟩ := rz.all2
  have y1 : Sl TkR 5 (okF (w.heap.size + 3) ((((w1).setCell ⟨w.heap.size + 1 + 1, 1, none⟩ (.slice B1 n1 d1)).setCell ⟨w.heap.size + 1, 0, none⟩ (.int .i64 x.col)).setCell ⟨w.heap.size + 1, 1, none⟩ (.slice B1 n1 d1))) ((((w1).setCell ⟨w.heap.size + 1 + 1, 1, none⟩ (.slice B1 n1 d1)).setCell ⟨w.heap.size + 1, 0, none⟩ (.int .i64 x.col)).setCell ⟨w.heap.size + 1, 1, none⟩ (.slice B1 n1 d1)) B1 n1 x.expr := (((u1).setF TkR.stays (by simp) _).setF TkR.stays (by simp) _).setF TkR.stays (by simp) _
  have hbz : Below w.heap.size w ((((w1).setCell ⟨w.heap.size + 1 + 1, 1, none⟩ (.slice B1 n1 d1)).setCell ⟨w.heap.size + 1, 0, none⟩ (.int .i64 x.col)).setCell ⟨w.heap.size + 1, 1, none⟩ (.slice B1 n1 d1)) := (((hbx0).setCell (by simp; try omega) _).setCell (by simp; try omega) _).setCell (by simp; try omega) _
  clear ra r1 r2 rz
  go_wp2_with fail
  exact bodyPost_ret (v := .agg #[.int .i64 x.col, .slice B1 n1 d1]) (by simp [results, Tryz.results53, go_sem, z0, z1]) rfl ⟨[.int .i64 x.col, .slice B1 n1 d1], rfl, ⟨_, _, _, rfl, y1.stays TkR.stays (fun b hb' => hb'.mono (by omega)) (fun p v _ hp => hp), hcp1⟩, hbz⟩

theorem infoSetT : (Tryz.prog.info? 104).map (fun i => (i.zero, i.size, i.bytes)) = some (some (.agg #[.int .i64 0, .slice none 0 0]), 2, 32) := by kernel_rfl
set_option maxRecDepth 100000 in
set_option maxHeartbeats 1000000 in
theorem lawsToSetL (A : Option Addr) (n c : Nat) (l : List Se) (ok : Nat → Prop) (w : World) (h : Sl SeR 2 ok w A n l) (hs : szL Se.sz l ≤ 1048576) :
    Calls Tryz.prog 21 #[.slice A n c] w (MadeSl SeR 2 n l w) := by
  obtain rfl : l.length = n := h.1
  have hn : l.length ≤ 1048576 := by unfold szL at hs; omega
  have HS := Lib.hid hs
  clear hs
  have hmk := fun w => mk_rows (P := Tryz.prog) Tryz.underlying35 infoSetT (by omega) l.length hn w
  go_enter Tryz.func21, Tryz.ntmps21
  go_wp2
  have row := Row.new w 104 (madeCells #[.int .i64 0, .slice none 0 0] (l.length * 2))
  have hb0 := (Below.refl w.heap.size w).alloc (Nat.le_refl _) (.cells (madeCells #[.int .i64 0, .slice none 0 0] (l.length * 2)) 104)
  have hsz := size_madeCells #[.int .i64 0, .slice none 0 0] (l.length * 2)
  have hx0 : (w.alloc (.cells (madeCells #[.int .i64 0, .slice none 0 0] (l.length * 2)) 104)).heap.size = w.heap.size + 1 := by simp
  generalize w.alloc (.cells (madeCells #[.int .i64 0, .slice none 0 0] (l.length * 2)) 104) = x at *
  generalize madeCells #[.int .i64 0, .slice none 0 0] (l.length * 2) = cs0 at *
  have HZ := Lib.hid hsz
  have HX0 := Lib.hid hx0
  clear hmk hsz hx0
  go_loopw [4] (fun i wr => ∃ (k : Nat) (cs : Array Value), k ≤ l.length ∧ i = .int .i64 k ∧ Row wr w.heap.size 104 cs ∧ Hid (cs.size = l.length * 2) ∧ Hid (LaidR SeR 2 (okF (w.heap.size + 1) wr) wr cs k l) ∧ Hid (w.heap.size + 1 ≤ wr.heap.size) ∧ Below w.heap.size w wr) (fun i _ => l.length - (intOf i).toNat)
  case atStart => exact ⟨0, cs0, by omega, rfl, row, Lib.hid (by rw [HZ.out]), Lib.hid (LaidR.zero _ _ _ _ _ _), Lib.hid (by rw [HX0.out]; exact Nat.le_refl _), hb0⟩
  case round =>
    obtain ⟨k, cs, hk, rfl, hrow, hcs, hlaid, hgw, hb⟩ := hrel
    by_cases hlt : k < l.length
    · obtain ⟨b, off, A1, n1, c1, -, rfl, q0, q1, s1, -⟩ := SeR.at_ (h.below SeR.stays hb) hlt
      have hsz1 : k * 2 + 2 ≤ cs.size := by rw [hcs.out]; omega
      have hszk : l[k].sz ≤ 1048576 := by have := HS.out; have := sum_mem_le (Se.sz) l k hlt; unfold szL at *; (try simp only at *); omega
      have HSK := Lib.hid hszk
      clear hszk
      go_wp2_with fail
      refine (lawsToSet l[k] A1 n1 c1 ok _ s1 HSK.out).mono ?_
      rintro e w1 ⟨cs', rfl, hR1, hb1⟩
      obtain ⟨B1, m1, d1, rfl, t1, hcp⟩ := hR1
      have hrow1 := hrow.below hb1
      have hgw1 : w.heap.size + 1 ≤ w1.heap.size := Nat.le_trans hgw.out hb1.size
      have HGW := Lib.hid hgw1
      clear hgw1
      have hl1 := Lib.hid (hlaid.out.belowF SeR.stays hb1)
      have q : ∀ j, j < 2 → w1.cell? ⟨w.heap.size, k * 2 + j, none⟩ = some (cs[k * 2 + j]?.getD undef) := fun j hj => by
        rw [hrow1.cell, Array.getElem?_eq_getElem (by omega)]; rfl
      have z0 : w1.cell? ⟨w.heap.size, k * 2, none⟩ = some (cs[k * 2]?.getD undef) := q 0 (by omega)
      have z1 := q 1 (by omega)
      have f0 := hrow1.free (k * 2)
      have f1 := hrow1.free (k * 2 + 1)
      clear q
      have HR := Lib.hid hrow1
      clear hrow1 hrow q0 q1
      go_wp2_with fail
      go_roundw
      case rel =>
        have y1 := (((t1.stays TkR.stays (ok' := okF (w.heap.size + 1) w1) (fun b hb' => hb'.mono hgw.out) (fun p v _ hp => hp))).setF TkR.stays (p := ⟨w.heap.size, k * 2, none⟩) (by simp) (.int .i64 l[k].col)).setF TkR.stays (p := ⟨w.heap.size, k * 2 + 1, none⟩) (by simp) (.slice B1 m1 d1)
        exact ⟨k + 1, _, by omega, by go_num, ((HR.out).set _ _).set _ _, Lib.hid (by simp [hcs.out]), Lib.hid ((((hl1.out).setF SeR.stays (by simp) _).setF SeR.stays (by simp) _).more hlt (c := [.int .i64 l[k].col, .slice B1 m1 d1]) rfl ⟨_, _, _, rfl, y1, hcp⟩ (hold2 cs k _ _) (fresh2 cs k _ _ hsz1)), Lib.hid (by simpa using HGW.out), ((hb.trans (hb1.mono hb.size)).setCell (by simp) _).setCell (by simp) _⟩
      case measure => simp [intOf]; omega
    · obtain rfl : k = l.length := by omega
      go_wp2
      go_ret
      exact ⟨_, _, rfl, Nat.le_refl _, (sl_of_laid (ok := okF w.heap.size _) hrow ⟨Nat.le_refl _, hgw.out, fun off => hrow.free off⟩ (fun i hi hlt' => by
        obtain ⟨c', h1, h2, h3⟩ := hlaid.out i hi hlt'
        exact ⟨c', h1, SeR.stays _ _ _ _ _ _ h2 (fun b hb' => hb'.mono (Nat.le_succ _)) (fun p v _ hp => hp), h3⟩) (Nat.le_refl _)), hb⟩

set_option maxRecDepth 100000 in
set_option maxHeartbeats 1000000 in
theorem lawsToStmt (x : Sq) (A2 : Option Addr) (n2 c2 : Nat) (A3 : Option Addr) (n3 c3 : Nat) (A4 : Option Addr) (n4 c4 : Nat) (ok : Nat → Prop) (w : World) (h2 : Sl RwR 2 ok w A2 n2 x.rows) (h3 : Sl TkR 5 ok w A3 n3 x.wher) (h4 : Sl SeR 2 ok w A4 n4 x.sets) (hs : x.sz ≤ 1048576) :
    Calls Tryz.prog 8 #[.agg #[.int .i64 x.kind, .string x.table, .slice A2 n2 c2, .slice A3 n3 c3, .slice A4 n4 c4, .int .i64 x.policy]] w (MadeR SqR x w) := by
  have hs2 : szL Rw.sz x.rows ≤ 1048576 := by have := hs; unfold Sq.sz at this; omega
  have HS2 := Lib.hid hs2
  clear hs2
  have hs3 : szL (fun t : Tk => t.vs.size) x.wher ≤ 1048576 := by have := hs; unfold Sq.sz at this; omega
  have HS3 := Lib.hid hs3
  clear hs3
  have hs4 : szL Se.sz x.sets ≤ 1048576 := by have := hs; unfold Sq.sz at this; omega
  have HS4 := Lib.hid hs4
  clear hs4
  clear hs
  have ra := ((Row.new w 27 #[.int .i64 x.kind, .string x.table, .slice A2 n2 c2, .slice A3 n3 c3, .slice A4 n4 c4, .int .i64 x.policy]).alloc (.cells #[.int .i64 0, .string ⟨#[]⟩, .slice none 0 0, .slice none 0 0, .slice none 0 0, .int .i64 0] 37)).alloc (.cells #[.int .i64 x.kind, .string x.table, .slice none 0 0, .slice none 0 0, .slice none 0 0, .int .i64 0] 37)
  have r1 := (Row.newAt (w.alloc (.cells #[.int .i64 x.kind, .string x.table, .slice A2 n2 c2, .slice A3 n3 c3, .slice A4 n4 c4, .int .i64 x.policy] 27)) 37 #[.int .i64 0, .string ⟨#[]⟩, .slice none 0 0, .slice none 0 0, .slice none 0 0, .int .i64 0] (w.heap.size + 1) (by simp)).alloc (.cells #[.int .i64 x.kind, .string x.table, .slice none 0 0, .slice none 0 0, .slice none 0 0, .int .i64 0] 37)
  have r2 := Row.newAt ((w.alloc (.cells #[.int .i64 x.kind, .string x.table, .slice A2 n2 c2, .slice A3 n3 c3, .slice A4 n4 c4, .int .i64 x.policy] 27)).alloc (.cells #[.int .i64 0, .string ⟨#[]⟩, .slice none 0 0, .slice none 0 0, .slice none 0 0, .int .i64 0] 37)) 37 #[.int .i64 x.kind, .string x.table, .slice none 0 0, .slice none 0 0, .slice none 0 0, .int .i64 0] (w.heap.size + 1 + 1) (by simp)
  have hb0 := ((((Below.refl w.heap.size w).alloc (Nat.le_refl _) (.cells #[.int .i64 x.kind, .string x.table, .slice A2 n2 c2, .slice A3 n3 c3, .slice A4 n4 c4, .int .i64 x.policy] 27)).alloc (by simp) (.cells #[.int .i64 0, .string ⟨#[]⟩, .slice none 0 0, .slice none 0 0, .slice none 0 0, .int .i64 0] 37)).alloc (by simp; omega) (.cells #[.int .i64 x.kind, .string x.table, .slice none 0 0, .slice none 0 0, .slice none 0 0, .int .i64 0] 37))
  have hz0 : w.heap.size + 3 ≤ (((w.alloc (.cells #[.int .i64 x.kind, .string x.table, .slice A2 n2 c2, .slice A3 n3 c3, .slice A4 n4 c4, .int .i64 x.policy] 27)).alloc (.cells #[.int .i64 0, .string ⟨#[]⟩, .slice none 0 0, .slice none 0 0, .slice none 0 0, .int .i64 0] 37)).alloc (.cells #[.int .i64 x.kind, .string x.table, .slice none 0 0, .slice none 0 0, .slice none 0 0, .int .i64 0] 37)).heap.size := by simp
  go_enter Tryz.func8, Tryz.ntmps8
  go_wp2_with fail
  generalize ((w.alloc (.cells #[.int .i64 x.kind, .string x.table, .slice A2 n2 c2, .slice A3 n3 c3, .slice A4 n4 c4, .int .i64 x.policy] 27)).alloc (.cells #[.int .i64 0, .string ⟨#[]⟩, .slice none 0 0, .slice none 0 0, .slice none 0 0, .int .i64 0] 37)).alloc (.cells #[.int .i64 x.kind, .string x.table, .slice none 0 0, .slice none 0 0, .slice none 0 0, .int .i64 0] 37) = x0 at *
  refine (lawsToRowL A2 n2 c2 x.rows ok _ (h2.below RwR.stays hb0) HS2.out).mono ?_
  rintro e w1 ⟨B2, d2, rfl, hcp2, t2, hc0⟩
  have u2 := t2.stays RwR.stays (ok' := okF (w.heap.size + 3) w1) (fun b hb' => hb'.mono (by omega)) (fun p v _ hp => hp)
  clear t2
  have ra := ra.below hc0
  have r1 := r1.below hc0
  have r2 := r2.below hc0
  have hbx0 := hb0.trans (hc0.mono hb0.size)
  have hz1 : w.heap.size + 3 ≤ w1.heap.size := Nat.le_trans hz0 hc0.size
  obtain ⟨⟨a_0_0, a_0_1, a_0_2, a_0_3, a_0_4, a_0_5⟩, -⟩ := ra.all6
  obtain ⟨⟨b_0_0, b_0_1, b_0_2, b_0_3, b_0_4, b_0_5⟩, ⟨f_0_0, f_0_1, f_0_2, f_0_3, f_0_4, f_0_5⟩⟩ := r2.all6
  go_wp2_with fail
  have ra' : Row ((w1).setCell ⟨w.heap.size + 1 + 1, 2, none⟩ (.slice B2 n2 d2)) w.heap.size 27 #[.int .i64 x.kind, .string x.table, .slice A2 n2 c2, .slice A3 n3 c3, .slice A4 n4 c4, .int .i64 x.policy] := (ra).far (by simp; try omega) _
  have r1' : Row ((w1).setCell ⟨w.heap.size + 1 + 1, 2, none⟩ (.slice B2 n2 d2)) (w.heap.size + 1) 37 #[.int .i64 0, .string ⟨#[]⟩, .slice none 0 0, .slice none 0 0, .slice none 0 0, .int .i64 0] := (r1).far (by simp) _
  have r2' : Row ((w1).setCell ⟨w.heap.size + 1 + 1, 2, none⟩ (.slice B2 n2 d2)) (w.heap.size + 1 + 1) 37 #[.int .i64 x.kind, .string x.table, .slice B2 n2 d2, .slice none 0 0, .slice none 0 0, .int .i64 0] := (r2).set 2 _
  have hb1 : Below w.heap.size w ((w1).setCell ⟨w.heap.size + 1 + 1, 2, none⟩ (.slice B2 n2 d2)) := (hbx0).setCell (by simp; try omega) _
  have hz1' : w.heap.size + 3 ≤ ((w1).setCell ⟨w.heap.size + 1 + 1, 2, none⟩ (.slice B2 n2 d2)).heap.size := by simpa using hz1
  have u2' : Sl RwR 2 (okF (w.heap.size + 3) ((w1).setCell ⟨w.heap.size + 1 + 1, 2, none⟩ (.slice B2 n2 d2))) ((w1).setCell ⟨w.heap.size + 1 + 1, 2, none⟩ (.slice B2 n2 d2)) B2 n2 x.rows := (u2).setF RwR.stays (by simp) _
  clear ra r1 r2 hz1 u2 a_0_0 a_0_1 a_0_2 a_0_3 a_0_4 a_0_5 b_0_0 b_0_1 b_0_2 b_0_3 b_0_4 b_0_5 f_0_0 f_0_1 f_0_2 f_0_3 f_0_4 f_0_5
  generalize (w1).setCell ⟨w.heap.size + 1 + 1, 2, none⟩ (.slice B2 n2 d2) = x1 at *
  have ra := ra'
  have r1 := r1'
  have r2 := r2'
  have hz1 := hz1'
  have u2 := u2'
  clear ra' r1' r2' hz1' u2'
  refine (lawsToTokL A3 n3 c3 x.wher ok _ (h3.below TkR.stays hb1) HS3.out).mono ?_
  rintro e w2 ⟨B3, d3, rfl, hcp3, t3, hc1⟩
  have u3 := t3.stays TkR.stays (ok' := okF (w.heap.size + 3) w2) (fun b hb' => hb'.mono (by omega)) (fun p v _ hp => hp)
  clear t3
  have ra := ra.below hc1
  have r1 := r1.below hc1
  have r2 := r2.below hc1
  have hbx1 := hb1.trans (hc1.mono hb1.size)
  have hz2 : w.heap.size + 3 ≤ w2.heap.size := Nat.le_trans hz1 hc1.size
  have u2 := u2.belowF RwR.stays hc1
  obtain ⟨⟨a_1_0, a_1_1, a_1_2, a_1_3, a_1_4, a_1_5⟩, -⟩ := ra.all6
  obtain ⟨⟨b_1_0, b_1_1, b_1_2, b_1_3, b_1_4, b_1_5⟩, ⟨f_1_0, f_1_1, f_1_2, f_1_3, f_1_4, f_1_5⟩⟩ := r2.all6
  go_wp2_with fail
  have ra' : Row ((w2).setCell ⟨w.heap.size + 1 + 1, 3, none⟩ (.slice B3 n3 d3)) w.heap.size 27 #[.int .i64 x.kind, .string x.table, .slice A2 n2 c2, .slice A3 n3 c3, .slice A4 n4 c4, .int .i64 x.policy] := (ra).far (by simp; try omega) _
  have r1' : Row ((w2).setCell ⟨w.heap.size + 1 + 1, 3, none⟩ (.slice B3 n3 d3)) (w.heap.size + 1) 37 #[.int .i64 0, .string ⟨#[]⟩, .slice none 0 0, .slice none 0 0, .slice none 0 0, .int .i64 0] := (r1).far (by simp) _
  have r2' : Row ((w2).setCell ⟨w.heap.size + 1 + 1, 3, none⟩ (.slice B3 n3 d3)) (w.heap.size + 1 + 1) 37 #[.int .i64 x.kind, .string x.table, .slice B2 n2 d2, .slice B3 n3 d3, .slice none 0 0, .int .i64 0] := (r2).set 3 _
  have hb2 : Below w.heap.size w ((w2).setCell ⟨w.heap.size + 1 + 1, 3, none⟩ (.slice B3 n3 d3)) := (hbx1).setCell (by simp; try omega) _
  have hz2' : w.heap.size + 3 ≤ ((w2).setCell ⟨w.heap.size + 1 + 1, 3, none⟩ (.slice B3 n3 d3)).heap.size := by simpa using hz2
  have u2' : Sl RwR 2 (okF (w.heap.size + 3) ((w2).setCell ⟨w.heap.size + 1 + 1, 3, none⟩ (.slice B3 n3 d3))) ((w2).setCell ⟨w.heap.size + 1 + 1, 3, none⟩ (.slice B3 n3 d3)) B2 n2 x.rows := (u2).setF RwR.stays (by simp) _
  have u3' : Sl TkR 5 (okF (w.heap.size + 3) ((w2).setCell ⟨w.heap.size + 1 + 1, 3, none⟩ (.slice B3 n3 d3))) ((w2).setCell ⟨w.heap.size + 1 + 1, 3, none⟩ (.slice B3 n3 d3)) B3 n3 x.wher := (u3).setF TkR.stays (by simp) _
  clear ra r1 r2 hz2 u2 u3 a_1_0 a_1_1 a_1_2 a_1_3 a_1_4 a_1_5 b_1_0 b_1_1 b_1_2 b_1_3 b_1_4 b_1_5 f_1_0 f_1_1 f_1_2 f_1_3 f_1_4 f_1_5
  generalize (w2).setCell ⟨w.heap.size + 1 + 1, 3, none⟩ (.slice B3 n3 d3) = x2 at *
  have ra := ra'
  have r1 := r1'
  have r2 := r2'
  have hz2 := hz2'
  have u2 := u2'
  have u3 := u3'
  clear ra' r1' r2' hz2' u2' u3'
  refine (lawsToSetL A4 n4 c4 x.sets ok _ (h4.below SeR.stays hb2) HS4.out).mono ?_
  rintro e w3 ⟨B4, d4, rfl, hcp4, t4, hc2⟩
  have u4 := t4.stays SeR.stays (ok' := okF (w.heap.size + 3) w3) (fun b hb' => hb'.mono (by omega)) (fun p v _ hp => hp)
  clear t4
  have ra := ra.below hc2
  have r1 := r1.below hc2
  have r2 := r2.below hc2
  have hbx2 := hb2.trans (hc2.mono hb2.size)
  have hz3 : w.heap.size + 3 ≤ w3.heap.size := Nat.le_trans hz2 hc2.size
  have u2 := u2.belowF RwR.stays hc2
  have u3 := u3.belowF TkR.stays hc2
  obtain ⟨⟨a_2_0, a_2_1, a_2_2, a_2_3, a_2_4, a_2_5⟩, -⟩ := ra.all6
  obtain ⟨⟨b_2_0, b_2_1, b_2_2, b_2_3, b_2_4, b_2_5⟩, ⟨f_2_0, f_2_1, f_2_2, f_2_3, f_2_4, f_2_5⟩⟩ := r2.all6
  obtain ⟨⟨g_2_0, g_2_1, g_2_2, g_2_3, g_2_4, g_2_5⟩, ⟨k_2_0, k_2_1, k_2_2, k_2_3, k_2_4, k_2_5⟩⟩ := r1.all6
  have rz : Row (((((((((w3).setCell ⟨w.heap.size + 1 + 1, 4, none⟩ (.slice B4 n4 d4)).setCell ⟨w.heap.size + 1 + 1, 5, none⟩ (.int .i64 x.policy)).setCell ⟨w.heap.size + 1, 0, none⟩ (.int .i64 x.kind)).setCell ⟨w.heap.size + 1, 1, none⟩ (.string x.table)).setCell ⟨w.heap.size + 1, 2, none⟩ (.slice B2 n2 d2)).setCell ⟨w.heap.size + 1, 3, none⟩ (.slice B3 n3 d3)).setCell ⟨w.heap.size + 1, 4, none⟩ (.slice B4 n4 d4)).setCell ⟨w.heap.size + 1, 5, none⟩ (.int .i64 x.policy)) (w.heap.size + 1) 37 #[.int .i64 x.kind, .string x.table, .slice B2 n2 d2, .slice B3 n3 d3, .slice B4 n4 d4, .int .i64 x.policy] := ((((((((r1).far (by simp) _).far (by simp) _).set 0 _).set 1 _).set 2 _).set 3 _).set 4 _).set 5 _
  obtain ⟨⟨z0, z1, z2, z3, z4, z5⟩, -⟩ := rz.all6
  have y2 : Sl RwR 2 (okF (w.heap.size + 3) (((((((((w3).setCell ⟨w.heap.size + 1 + 1, 4, none⟩ (.slice B4 n4 d4)).setCell ⟨w.heap.size + 1 + 1, 5, none⟩ (.int .i64 x.policy)).setCell ⟨w.heap.size + 1, 0, none⟩ (.int .i64 x.kind)).setCell ⟨w.heap.size + 1, 1, none⟩ (.string x.table)).setCell ⟨w.heap.size + 1, 2, none⟩ (.slice B2 n2 d2)).setCell ⟨w.heap.size + 1, 3, none⟩ (.slice B3 n3 d3)).setCell ⟨w.heap.size + 1, 4, none⟩ (.slice B4 n4 d4)).setCell ⟨w.heap.size + 1, 5, none⟩ (.int .i64 x.policy))) (((((((((w3).setCell ⟨w.heap.size + 1 + 1, 4, none⟩ (.slice B4 n4 d4)).setCell ⟨w.heap.size + 1 + 1, 5, none⟩ (.int .i64 x.policy)).setCell ⟨w.heap.size + 1, 0, none⟩ (.int .i64 x.kind)).setCell ⟨w.heap.size + 1, 1, none⟩ (.string x.table)).setCell ⟨w.heap.size + 1, 2, none⟩ (.slice B2 n2 d2)).setCell ⟨w.heap.size + 1, 3, none⟩ (.slice B3 n3 d3)).setCell ⟨w.heap.size + 1, 4, none⟩ (.slice B4 n4 d4)).setCell ⟨w.heap.size + 1, 5, none⟩ (.int .i64 x.policy)) B2 n2 x.rows := ((((((((u2).setF RwR.stays (by simp) _).setF RwR.stays (by simp) _).setF RwR.stays (by simp) _).setF RwR.stays (by simp) _).setF RwR.stays (by simp) _).setF RwR.stays (by simp) _).setF RwR.stays (by simp) _).setF RwR.stays (by simp) _
  have y3 : Sl TkR 5 (okF (w.heap.size + 3) (((((((((w3).setCell ⟨w.heap.size + 1 + 1, 4, none⟩ (.slice B4 n4 d4)).setCell ⟨w.heap.size + 1 + 1, 5, none⟩ (.int .i64 x.policy)).setCell ⟨w.heap.size + 1, 0, none⟩ (.int .i64 x.kind)).setCell ⟨w.heap.size + 1, 1, none⟩ (.string x.table)).setCell ⟨w.heap.size + 1, 2, none⟩ (.slice B2 n2 d2)).setCell ⟨w.heap.size + 1, 3, none⟩ (.slice B3 n3 d3)).setCell ⟨w.heap.size + 1, 4, none⟩ (.slice B4 n4 d4)).setCell ⟨w.heap.size + 1, 5, none⟩ (.int .i64 x.policy))) (((((((((w3).setCell ⟨w.heap.size + 1 + 1, 4, none⟩ (.slice B4 n4 d4)).setCell ⟨w.heap.size + 1 + 1, 5, none⟩ (.int .i64 x.policy)).setCell ⟨w.heap.size + 1, 0, none⟩ (.int .i64 x.kind)).setCell ⟨w.heap.size + 1, 1, none⟩ (.string x.table)).setCell ⟨w.heap.size + 1, 2, none⟩ (.slice B2 n2 d2)).setCell ⟨w.heap.size + 1, 3, none⟩ (.slice B3 n3 d3)).setCell ⟨w.heap.size + 1, 4, none⟩ (.slice B4 n4 d4)).setCell ⟨w.heap.size + 1, 5, none⟩ (.int .i64 x.policy)) B3 n3 x.wher := ((((((((u3).setF TkR.stays (by simp) _).setF TkR.stays (by simp) _).setF TkR.stays (by simp) _).setF TkR.stays (by simp) _).setF TkR.stays (by simp) _).setF TkR.stays (by simp) _).setF TkR.stays (by simp) _).setF TkR.stays (by simp) _
  have y4 : Sl SeR 2 (okF (w.heap.size + 3) (((((((((w3).setCell ⟨w.heap.size + 1 + 1, 4, none⟩ (.slice B4 n4 d4)).setCell ⟨w.heap.size + 1 + 1, 5, none⟩ (.int .i64 x.policy)).setCell ⟨w.heap.size + 1, 0, none⟩ (.int .i64 x.kind)).setCell ⟨w.heap.size + 1, 1, none⟩ (.string x.table)).setCell ⟨w.heap.size + 1, 2, none⟩ (.slice B2 n2 d2)).setCell ⟨w.heap.size + 1, 3, none⟩ (.slice B3 n3 d3)).setCell ⟨w.heap.size + 1, 4, none⟩ (.slice B4 n4 d4)).setCell ⟨w.heap.size + 1, 5, none⟩ (.int .i64 x.policy))) (((((((((w3).setCell ⟨w.heap.size + 1 + 1, 4, none⟩ (.slice B4 n4 d4)).setCell ⟨w.heap.size + 1 + 1, 5, none⟩ (.int .i64 x.policy)).setCell ⟨w.heap.size + 1, 0, none⟩ (.int .i64 x.kind)).setCell ⟨w.heap.size + 1, 1, none⟩ (.string x.table)).setCell ⟨w.heap.size + 1, 2, none⟩ (.slice B2 n2 d2)).setCell ⟨w.heap.size + 1, 3, none⟩ (.slice B3 n3 d3)).setCell ⟨w.heap.size + 1, 4, none⟩ (.slice B4 n4 d4)).setCell ⟨w.heap.size + 1, 5, none⟩ (.int .i64 x.policy)) B4 n4 x.sets := ((((((((u4).setF SeR.stays (by simp) _).setF SeR.stays (by simp) _).setF SeR.stays (by simp) _).setF SeR.stays (by simp) _).setF SeR.stays (by simp) _).setF SeR.stays (by simp) _).setF SeR.stays (by simp) _).setF SeR.stays (by simp) _
  have hbz : Below w.heap.size w (((((((((w3).setCell ⟨w.heap.size + 1 + 1, 4, none⟩ (.slice B4 n4 d4)).setCell ⟨w.heap.size + 1 + 1, 5, none⟩ (.int .i64 x.policy)).setCell ⟨w.heap.size + 1, 0, none⟩ (.int .i64 x.kind)).setCell ⟨w.heap.size + 1, 1, none⟩ (.string x.table)).setCell ⟨w.heap.size + 1, 2, none⟩ (.slice B2 n2 d2)).setCell ⟨w.heap.size + 1, 3, none⟩ (.slice B3 n3 d3)).setCell ⟨w.heap.size + 1, 4, none⟩ (.slice B4 n4 d4)).setCell ⟨w.heap.size + 1, 5, none⟩ (.int .i64 x.policy)) := ((((((((hbx2).setCell (by simp; try omega) _).setCell (by simp; try omega) _).setCell (by simp; try omega) _).setCell (by simp; try omega) _).setCell (by simp; try omega) _).setCell (by simp; try omega) _).setCell (by simp; try omega) _).setCell (by simp; try omega) _
  clear ra r1 r2 rz
  go_wp2_with fail
  exact bodyPost_ret (v := .agg #[.int .i64 x.kind, .string x.table, .slice B2 n2 d2, .slice B3 n3 d3, .slice B4 n4 d4, .int .i64 x.policy]) (by simp [results, Tryz.results8, go_sem, z0, z1, z2, z3, z4, z5]) rfl ⟨[.int .i64 x.kind, .string x.table, .slice B2 n2 d2, .slice B3 n3 d3, .slice B4 n4 d4, .int .i64 x.policy], rfl, ⟨_, _, _, _, _, _, _, _, _, rfl, y2.stays RwR.stays (fun b hb' => hb'.mono (by omega)) (fun p v _ hp => hp), y3.stays TkR.stays (fun b hb' => hb'.mono (by omega)) (fun p v _ hp => hp), y4.stays SeR.stays (fun b hb' => hb'.mono (by omega)) (fun p v _ hp => hp), ⟨hcp2, hcp3, hcp4⟩⟩, hbz⟩

theorem infoStmtT : (Tryz.prog.info? 37).map (fun i => (i.zero, i.size, i.bytes)) = some (some (.agg #[.int .i64 0, .string ⟨#[]⟩, .slice none 0 0, .slice none 0 0, .slice none 0 0, .int .i64 0]), 6, 104) := by kernel_rfl

end Go.Proofs.YthafgkcokecnnaaGreat
namespace Go.Proofs.YthafgkcokecnnaaGreat
open Go.RowKit
set_option linter.unusedVariables false

def isSl : Value → Bool
  | .slice .. => true
  | _ => false

/-- Only cells of blocks B .. E - 1 have turned, and of these none that holds a slice. -/
structure Kept (B E : Nat) (w w' : World) : Prop where
  os : w'.os = w.os
  tape : w'.tape = w.tape
  output : w'.output = w.output
  size : w.heap.size ≤ w'.heap.size
  block : ∀ k, k < w.heap.size → (k < B ∨ E ≤ k) → w'.heap[k]? = w.heap[k]?
  cell : ∀ p v, w.cell? p = some v → ∃ v', w'.cell? p = some v' ∧ (isSl v = true → v' = v) ∧ isSl v' = isSl v
  frozen : ∀ p : Addr, p.block < w.heap.size → w'.frozen? p = w.frozen? p

theorem Kept.refl (B E : Nat) (w : World) : Kept B E w w := ⟨rfl, rfl, rfl, Nat.le_refl _, fun _ _ _ => rfl, fun _ v h => ⟨v, h, fun _ => rfl, rfl⟩, fun _ _ => rfl⟩
theorem Kept.trans {B E : Nat} {a b c : World} (h : Kept B E a b) (k : Kept B E b c) : Kept B E a c :=
  ⟨k.os.trans h.os, k.tape.trans h.tape, k.output.trans h.output, Nat.le_trans h.size k.size, fun i hi ho => (k.block i (Nat.lt_of_lt_of_le hi h.size) ho).trans (h.block i hi ho),
   fun p v hp => by
    obtain ⟨v1, h1, h2, h3⟩ := h.cell p v hp
    obtain ⟨v2, k1, k2, k3⟩ := k.cell p v1 h1
    exact ⟨v2, k1, fun hv => by rw [k2 (by rw [h3]; exact hv), h2 hv], k3.trans h3⟩,
   fun p hp => (k.frozen p (Nat.lt_of_lt_of_le hp h.size)).trans (h.frozen p hp)⟩
theorem Kept.below {B E : Nat} {w w' : World} (h : Below w.heap.size w w') : Kept B E w w' :=
  ⟨h.os, h.tape, h.output, h.size, fun k hk _ => h.block k hk, fun p v hp => ⟨v, below_keep h p v hp, fun _ => rfl, rfl⟩, fun p hp => World.frozen?_of_block (w := w) (h.block p.block hp)⟩
theorem Kept.drew {B E : Nat} {a w : World} (h : Kept B E a w) : Kept B E a w.drew := ⟨h.os, h.tape, h.output, h.size, h.block, h.cell, h.frozen⟩
theorem Kept.set {B E : Nat} {a w : World} (h : Kept B E a w) {p : Addr} {v : Value} (hc : a.cell? p = some v) (hn : isSl v = false) (hB : B ≤ p.block) (hE : p.block < E) {u : Value} (hu : isSl u = false) : Kept B E a (w.setCell p u) := by
  refine ⟨h.os, h.tape, h.output, by simpa [World.setCell] using h.size, fun k hk ho => ?_, fun q x hq => ?_, fun q hq => (frozen_setCell w p u q).trans (h.frozen q hq)⟩
  · rw [Below.heap_setCell _ _ _ _ (by omega)]
    exact h.block k hk ho
  · by_cases e : q = p
    · subst e
      rw [hc] at hq
      cases hq
      obtain ⟨v', h1, h2, h3⟩ := h.cell _ _ hc
      exact ⟨u, World.cell?_setCell_same _ _ _ h1, fun hv => absurd (hn.symm.trans hv) (by simp), by rw [hu, hn]⟩
    · obtain ⟨v', h1, h2, h3⟩ := h.cell q x hq
      exact ⟨v', (World.cell?_setCell_other _ _ _ _ (fun hh => e hh.symm)).trans h1, h2, h3⟩
theorem Kept.toBelow {B E G : Nat} {a w w' : World} (h : Below G a w) (k : Kept B E w w') (hG : G ≤ B) (ha : G ≤ w.heap.size) : Below G a w' :=
  ⟨k.os.trans h.os, k.tape.trans h.tape, k.output.trans h.output, Nat.le_trans h.size k.size, fun i hi => (k.block i (by omega) (Or.inl (by omega))).trans (h.block i hi)⟩
theorem Kept.after {B E : Nat} {a b c : World} (k : Kept B E b c) (h : Kept B E a b) : Kept B E a c := h.trans k
theorem Kept.slice {B E : Nat} {w w' : World} (k : Kept B E w w') {p : Addr} {v : Value} (h : w.cell? p = some v) (hs : isSl v = true) : w'.cell? p = some v := by
  obtain ⟨v', h1, h2, -⟩ := k.cell p v h
  rw [h1, h2 hs]
/-- What does not lie in B .. E - 1 reads as it did. -/
theorem Kept.far {B E : Nat} {w w' : World} (k : Kept B E w w') {p : Addr} {v : Value} (hp : p.block < B ∨ E ≤ p.block) (h : w.cell? p = some v) : w'.cell? p = some v :=
  (World.cell?_of_block (w := w) (k.block p.block (cell_lt h) hp)).trans h
theorem Sl.kept {α : Type} {R : Rd α} (hR : Stays R) {sz : Nat} {ok : Nat → Prop} {B E : Nat} {w w' : World} {A : Option Addr} {n : Nat} {ds : List α} (h : Sl R sz ok w A n ds) (hk : Kept B E w w') (ho : ∀ b, ok b → b < B ∨ E ≤ b) : Sl R sz ok w' A n ds :=
  h.stays hR (fun _ h => h) fun p v hb hp => hk.far (ho _ hb) hp

/-- How the shape of an element stays behind marks. -/
def KStays {α : Type} (R : Rd α) : Prop := ∀ (ok : Nat → Prop) (B E : Nat) (w w' : World) (cs cs' : List Value) (d : α), R ok w cs d → Kept B E w w' → cs'.length = cs.length → (∀ (j : Nat) (v : Value), cs[j]? = some v → ∃ v', cs'[j]? = some v' ∧ (isSl v = true → v' = v) ∧ isSl v' = isSl v) → R ok w' cs' d

theorem Sl.shape {α : Type} {R : Rd α} (hR : KStays R) {sz : Nat} {ok : Nat → Prop} {B E : Nat} {w w' : World} {A : Option Addr} {n : Nat} {ds : List α} (h : Sl R sz ok w A n ds) (hk : Kept B E w w') : Sl R sz ok w' A n ds :=
  ⟨h.1, fun hn => by
    obtain ⟨b, off, e, hb, hi⟩ := h.2 hn
    refine ⟨b, off, e, hb, fun i hlt => ?_⟩
    obtain ⟨cs, h1, h2, h3⟩ := hi i hlt
    have hc : ∀ (j : Nat) (v : Value), cs[j]? = some v → ((List.range sz).map fun j => (w'.cell? ⟨b, off + i * sz + j, none⟩).getD undef)[j]? = some ((w'.cell? ⟨b, off + i * sz + j, none⟩).getD undef) := fun j v hv => by
      have hj : j < sz := by obtain ⟨hj, _⟩ := List.getElem?_eq_some_iff.1 hv; omega
      simp [hj]
    refine ⟨(List.range sz).map fun j => (w'.cell? ⟨b, off + i * sz + j, none⟩).getD undef, by simp, hR _ B E _ _ _ _ _ h2 hk (by simp [h1]) fun j v hv => ?_, fun j v hv => ?_⟩
    · obtain ⟨v', k1, k2, k3⟩ := hk.cell _ _ (h3 j v hv)
      exact ⟨v', by rw [hc j v hv, k1]; rfl, k2, k3⟩
    · have hj : j < sz := by obtain ⟨hj, _⟩ := List.getElem?_eq_some_iff.1 hv; simpa using hj
      obtain ⟨v0, hv0⟩ : ∃ v0, cs[j]? = some v0 := ⟨cs[j]'(by omega), List.getElem?_eq_getElem (by omega)⟩
      obtain ⟨v', k1, -⟩ := hk.cell _ _ (h3 j v0 hv0)
      rw [hc j v0 hv0, k1] at hv
      cases hv
      exact k1⟩

/-- Elements of m cells, none of which holds a slice: m marks. -/
def ShF (m : Nat) : Rd Nat := fun _ _ cs d => cs.length = m ∧ (∀ (j : Nat) (v : Value), cs[j]? = some v → isSl v = false) ∧ d = m
theorem ShF.keeps (m : Nat) : KStays (ShF m) := fun _ _ _ _ _ _ cs' _ ⟨h1, h2, h3⟩ _ hl hc => ⟨hl.trans h1, fun j v hv => by
  have hj : j < cs'.length := (List.getElem?_eq_some_iff.1 hv).1
  obtain ⟨v', k1, _, k3⟩ := hc j _ (List.getElem?_eq_getElem (by omega))
  rw [hv] at k1
  cases k1
  rw [k3]
  exact h2 j _ (List.getElem?_eq_getElem (by omega)), h3⟩
theorem Sl.toSh {α β : Type} {R : Rd α} {R' : Rd β} {f : α → β} {sz : Nat} {ok : Nat → Prop} {w : World} {A : Option Addr} {n : Nat} {ds : List α} (h : Sl R sz ok w A n ds) {p : α → Prop} (hR : ∀ ok w cs d, p d → R ok w cs d → R' ok w cs (f d)) (hp : ∀ d ∈ ds, p d) : Sl R' sz ok w A n (ds.map f) :=
  ⟨by simpa using h.1, fun hn => by
    obtain ⟨b, off, e, hb, hi⟩ := h.2 hn
    refine ⟨b, off, e, hb, fun i hlt => ?_⟩
    obtain ⟨cs, h1, h2, h3⟩ := hi i (by simpa using hlt)
    exact ⟨cs, h1, by simpa using hR _ _ _ _ (hp _ (List.getElem_mem (by simpa using hlt))) h2, h3⟩⟩
theorem szL_mem {α : Type} (f : α → Nat) (l : List α) (y : α) (h : y ∈ l) : f y ≤ szL f l := by
  obtain ⟨i, hi, rfl⟩ := List.mem_iff_getElem.1 h
  have := sum_mem_le f l i hi
  unfold szL
  omega
theorem sum_le_of {α : Type} {f g : α → Nat} (c : Nat) (h : ∀ x, f x ≤ c * (g x + 1)) : ∀ l : List α, (l.map f).sum ≤ c * szL g l
  | [] => by simp [szL]
  | x :: l => by
    have h1 := sum_le_of c h l
    have h2 := h x
    simp only [szL, List.map_cons, List.sum_cons, List.length_cons] at *
    have e : c * (l.length + 1 + (g x + (l.map g).sum)) = c * (l.length + (l.map g).sum) + c * (g x + 1) := by rw [← Nat.mul_add]; congr 1; omega
    omega
theorem sum_ones {α : Type} (l : List α) : (l.map fun _ => 1).sum = l.length := by
  induction l with
  | nil => rfl
  | cons x l ih => rw [List.map_cons, List.sum_cons, ih, List.length_cons]; omega
theorem sum_take_n (l : List Nat) (k : Nat) (h : k < l.length) : (l.take (k + 1)).sum = (l.take k).sum + l[k] := by
  rw [List.take_succ_eq_append_getElem h, List.sum_append]; simp
theorem sum_take_n_le (l : List Nat) (k : Nat) : (l.take k).sum ≤ l.sum := by
  have e : l.sum = (l.take k).sum + (l.drop k).sum := by rw [← List.sum_append, List.take_append_drop]
  omega
/-- What lies in blocks that may be marked. -/
def mayMark (B E : Nat) (w : World) (ok : Nat → Prop) : Prop := ∀ b, ok b → B ≤ b ∧ b < E ∧ b < w.heap.size ∧ ∀ off, w.frozen? ⟨b, off, none⟩ = false
theorem mayMark.kept {B E B' E' : Nat} {w w' : World} {ok : Nat → Prop} (h : mayMark B E w ok) (hk : Kept B' E' w w') : mayMark B E w' ok := fun b hb => by
  obtain ⟨h1, h2, h3, h4⟩ := h b hb
  exact ⟨h1, h2, Nat.lt_of_lt_of_le h3 hk.size, fun off => (hk.frozen ⟨b, off, none⟩ h3).trans (h4 off)⟩
theorem mayMark.below {B E : Nat} {w w' : World} {ok : Nat → Prop} (h : mayMark B E w ok) (hk : Below w.heap.size w w') : mayMark B E w' ok := h.kept (Kept.below (B := 0) (E := 0) hk)
theorem mayMark_okF {G E : Nat} {w : World} (hE : w.heap.size ≤ E) : mayMark G E w (okF G w) := fun b hb => ⟨hb.1, by have := hb.2.1; omega, hb.2.1, hb.2.2⟩
end Go.Proofs.YthafgkcokecnnaaGreat
namespace Go.Proofs.YthafgkcokecnnaaGreat
open Go.RowKit
set_option linter.unusedVariables false

theorem infoIntI : (Tryz.prog.info? 2).map (fun i => (i.zero, i.size, i.bytes)) = some (some (.int .i64 0), 1, 8) := by kernel_rfl

/-- v is a slice of the call's own that holds the numbers xs. -/
def OwnI (w : World) (base : Nat) (v : Value) (xs : List Int) : Prop := w.ownsRow base 2 1 v xs.length (xs.map (Value.int .i64))
theorem OwnI.nil (w : World) (base : Nat) : OwnI w base (.slice none 0 0) [] := World.ownsRow_nil _ _ _ _
theorem OwnI.below {w w' : World} {base : Nat} {v : Value} {xs : List Int} (h : OwnI w base v xs) (hb : Below w.heap.size w w') : OwnI w' base v xs := by
  refine ⟨h.1, ?_⟩
  rcases h.2 with h | ⟨g, cap, cur, rfl, h1, h2, h3⟩
  · exact .inl h
  · exact .inr ⟨g, cap, cur, rfl, h1, (hb.block g (lt_of_block h2)).trans h2, h3⟩
/-- An empty list that was laid as such. -/
theorem OwnI.lit (w : World) {base : Nat} (hb : base ≤ w.heap.size) : OwnI (w.alloc (.cells #[] 2)) base (.slice (some ⟨w.heap.size, 0, none⟩) 0 0) [] :=
  ⟨rfl, .inr ⟨w.heap.size, 0, #[], rfl, hb, Go.heap_alloc_last w _, Nat.le_refl _, by simp [maxLen], rfl, rfl⟩⟩
theorem OwnI.sl {w : World} {base : Nat} {v : Value} {xs : List Int} (h : OwnI w base v xs) : ∃ A c, v = .slice A xs.length c ∧ xs.length ≤ c ∧ c ≤ maxLen ∧ Sl IntR 1 (okF base w) w A xs.length xs := by
  rcases h.2 with ⟨rfl, hn⟩ | ⟨g, cap, cur, rfl, h1, h2, h3, h4, h5, h6⟩
  · exact ⟨none, 0, by rw [hn], by omega, by simp [maxLen], rfl, fun h => by omega⟩
  · refine ⟨_, cap, rfl, h3, h4, rfl, fun hn => ⟨g, 0, rfl, ⟨h1, lt_of_block h2, fun off => by simp [World.frozen?, h2]⟩, fun i hi => ⟨[.int .i64 xs[i]], rfl, rfl, fun j x hx => ?_⟩⟩⟩
    have hj : j = 0 := by have := (List.getElem?_eq_some_iff.1 hx).1; simpa using this
    subst hj
    obtain rfl := Option.some.inj hx
    rw [cell_of_row _ _ _ _ _ _ h2, Nat.zero_add, Nat.mul_one, Nat.add_zero]
    have h7 : (cur.toList.take (xs.length * 1))[i]? = some (.int .i64 xs[i]) := by rw [h6, List.getElem?_map, List.getElem?_eq_getElem hi]; rfl
    rw [List.getElem?_take, if_pos (by omega)] at h7
    rw [← Array.getElem?_toList]
    exact h7
theorem OwnI.block_lt {w : World} {base : Nat} {v : Value} {xs : List Int} (h : OwnI w base v xs) : ∀ k, v.ownBlock = some k → base ≤ k ∧ k < w.heap.size := World.ownsRow.lt h
/-- What append of one number leaves. -/
theorem OwnI.app {w w' : World} {base : Nat} {v v' : Value} {xs : List Int} {x : Int} {o : Obj} (h : OwnI w base v xs) (hb : base ≤ w.heap.size)
    (h' : w'.ownsRow base 2 1 v' (xs.length + 1) (xs.map (Value.int .i64) ++ [.int .i64 x])) (hg : (w.alloc o).grownBy w' v.ownBlock) : OwnI w' base v' (xs ++ [x]) ∧ Below base w w' :=
  ⟨by unfold OwnI; rw [List.length_append, List.map_append]; exact h', ((Below.refl base w).alloc hb o).grown hg (by simp; omega) fun k hk => (h.block_lt k hk).1⟩
end Go.Proofs.YthafgkcokecnnaaGreat
