/-
  Contracts of the functions that draw expressions and rows out of a code.
-/
import Derived.Test.YtkoihpejkcnokaaDraws
import Derived.Test.YtkoihpejkcnokaaDraws2
import Derived.Test.YtkoihpejkcnokaaOwnVals
import Derived.Test.YtkoihpejkcnokaaKeySpec
import Derived.IntWalk
namespace Go.Proofs.Ytkoihpejkcnokaa
open Go.RowKit Go.Maps
set_option linter.unusedVariables false
set_option linter.unusedSimpArgs false

theorem But.grown {R : Nat} {w w1 w2 : World} {row : Option Nat} (h : But R w w1) (hg : w1.grownBy w2 row) (hr : ∀ k, row = some k → w.heap.size ≤ k) : But R w w2 :=
  ⟨hg.os.trans h.os, hg.tape.trans h.tape, hg.output.trans h.output, Nat.le_trans h.size hg.size, fun k hk hne => (hg.block k (Nat.lt_of_lt_of_le hk h.size) (fun e => by have := hr k e.symm; omega)).trans (h.block k hk hne)⟩
theorem But.ofBelow {R : Nat} {w w' : World} (h : Below w.heap.size w w') : But R w w' := ⟨h.os, h.tape, h.output, h.size, fun k hk _ => h.block k hk⟩
theorem Rdr.move {w w1 w2 : World} {R : Nat} {a : Option Addr} {len cap : Nat} {zs : List Int} (h0 : Rdr w R a len cap zs) (h : Rdr w1 R a len cap zs) (hb : But R w w2) (hR : w2.heap[R]? = w1.heap[R]?) : Rdr w2 R a len cap zs := by
  obtain ⟨p, hp, hc⟩ := h.place
  have hq : ∀ i, w2.cell? ⟨R, i, none⟩ = w1.cell? ⟨R, i, none⟩ := fun i => World.cell?_of_block (w := w1) hR
  exact ⟨(hq 0).trans h.code, ⟨p, hp, (hq 1).trans hc⟩, (World.frozen?_of_block (w := w1) hR).trans h.free, h0.row.but hb h0.apart, h0.apart⟩
theorem Rdr.grown {w w1 w2 : World} {R : Nat} {a : Option Addr} {len cap : Nat} {zs : List Int} {row : Option Nat} (h0 : Rdr w R a len cap zs) (h : Rdr w1 R a len cap zs) (hb : But R w w1) (hg : w1.grownBy w2 row) (hr : ∀ k, row = some k → w.heap.size ≤ k) : Rdr w2 R a len cap zs := by
  have hlt : R < w.heap.size := cell_lt h0.code
  exact h0.move h (hb.grown hg hr) (hg.block R (Nat.lt_of_lt_of_le hlt hb.size) (fun e => by have := hr R e.symm; omega))
theorem Rdr.below {w w' : World} {R : Nat} {a : Option Addr} {len cap : Nat} {zs : List Int} (h : Rdr w R a len cap zs) (hb : Below w.heap.size w w') : Rdr w' R a len cap zs :=
  h.move h (But.ofBelow hb) (hb.block R (cell_lt h.code))
section
variable {α : Type} {T : TypeId} {sz : Nat} {f : α → List Value}
theorem OwnG.but {R base : Nat} {w w' : World} {v : Value} {xs : List α} (h : OwnG T sz f w base v xs) (hb : But R w w') (hR : R < base) : OwnG T sz f w' base v xs := by
  refine ⟨h.1, ?_⟩
  rcases h.2 with h | ⟨g, cap, cur, rfl, h1, h2, h3⟩
  · exact .inl h
  · exact .inr ⟨g, cap, cur, rfl, h1, (hb.block g (lt_of_block h2) (by omega)).trans h2, h3⟩
theorem OwnG.one (w : World) {base : Nat} (hb : base ≤ w.heap.size) (x : α) (hl : (f x).length = sz) : OwnG T sz f (w.alloc (.cells (f x).toArray T)) base (.slice (some ⟨w.heap.size, 0, none⟩) 1 1) [x] :=
  ⟨by simp [hl], .inr ⟨w.heap.size, 1, (f x).toArray, rfl, hb, Go.heap_alloc_last w _, Nat.le_refl _, by simp [maxLen], by simp [hl], by simp [hl, List.take_of_length_le]⟩⟩
theorem OwnG.src {w : World} {base : Nat} {v : Value} {xs : List α} (h : OwnG T sz f w base v xs) (hn : 0 < xs.length) :
    ∃ g cap, v = .slice (some ⟨g, 0, none⟩) xs.length cap ∧ base ≤ g ∧ g < w.heap.size ∧ ∀ j u, ((xs.map f).flatten)[j]? = some u → w.cell? ((⟨g, 0, none⟩ : Addr).add j) = some u := by
  rcases h.2 with ⟨-, h0⟩ | ⟨g, cap, cur, rfl, h1, h2, h3, h4, h5, h6⟩
  · omega
  · refine ⟨g, cap, rfl, h1, lt_of_block h2, fun j u hj => ?_⟩
    rw [addr_add, cell_of_row _ _ _ _ _ _ h2, Nat.zero_add]
    rw [← h6, List.getElem?_take] at hj
    split at hj
    · rw [← Array.getElem?_toList]; exact hj
    · cases hj
/-- What append of a list leaves. -/
theorem OwnG.appL {w w' : World} {base : Nat} {v v' : Value} {xs ys : List α} (h : OwnG T sz f w base v xs) (h' : w'.ownsRow base T sz v' (xs.length + ys.length) ((xs.map f).flatten ++ (ys.map f).flatten)) : OwnG T sz f w' base v' (xs ++ ys) := by
  unfold OwnG; rw [List.length_append, List.map_append, List.flatten_append]; exact h'
theorem OwnG.mono {w : World} {base base' : Nat} {v : Value} {xs : List α} (h : OwnG T sz f w base v xs) (hb : base' ≤ base) : OwnG T sz f w base' v xs := by
  refine ⟨h.1, ?_⟩
  rcases h.2 with h | ⟨g, cap, cur, rfl, h1, h2⟩
  · exact .inl h
  · exact .inr ⟨g, cap, cur, rfl, Nat.le_trans hb h1, h2⟩
end
theorem tk_one : ∀ (ts : List Tk), ∀ u ∈ (ts.map Tk.cells).flatten, u.oneCell' = true := fun ts u hu => by
  obtain ⟨l, hl, hu⟩ := List.mem_flatten.1 hu
  obtain ⟨t, -, rfl⟩ := List.mem_map.1 hl
  simp [Tk.cells] at hu
  rcases hu with rfl | rfl | rfl | rfl | rfl <;> rfl
theorem flat_tk (ts : List Tk) : ((ts.map Tk.cells).flatten).length = ts.length * 5 := by
  rw [flat_len (sz := 5) _ (fun c hc => by obtain ⟨t, -, rfl⟩ := List.mem_map.1 hc; rfl), List.length_map]

def OwnT (w : World) (base : Nat) (v : Value) (ts : List Tk) : Prop := OwnG 32 5 Tk.cells w base v ts
def OwnW (w : World) (base : Nat) (v : Value) (xs : List Vl) : Prop := OwnG 30 3 Vl.cells w base v xs
/-- Parts in a list of the call's own: at least one, at most B. -/
def isToks (base B : Nat) (v : Value) (w : World) : Prop := ∃ ts : List Tk, OwnT w base v ts ∧ ts.length ≤ B ∧ 1 ≤ ts.length
def isRowV (base B : Nat) (v : Value) (w : World) : Prop := ∃ xs : List Vl, OwnW w base v xs ∧ xs.length ≤ B
def eb : Nat → Nat
  | 0 => 1
  | d + 1 => eb d + eb d + 1
theorem eb_le {d : Nat} (h : d ≤ 3) : eb d ≤ 15 := by
  match d, h with
  | 0, _ => decide
  | 1, _ => decide
  | 2, _ => decide
  | 3, _ => decide
theorem eb_pos (d : Nat) : 1 ≤ eb d := by cases d <;> simp [eb]

set_option maxHeartbeats 1000000 in
theorem specL2Col (n : Int) (w : World) :
    Calls Try.prog 45 #[.int .i64 n] w fun e w' => e = .returned (.agg #[.int .i64 1, .int .i64 n, .int .i64 0, .int .i64 0, .string ⟨#[]⟩]) ∧ Below w.heap.size w w' := by
  go_enter Try.func45, Try.ntmps45
  go_wp2
  exact bodyPost_ret (v := .agg #[.int .i64 1, .int .i64 n, .int .i64 0, .int .i64 0, .string ⟨#[]⟩]) (by simp [results, Try.results45, go_sem]) rfl
    ⟨rfl, (Below.refl _ _).alloc (Nat.le_refl _) _⟩
set_option maxHeartbeats 1000000 in
theorem specL2Const (k n : Int) (s : ByteArray) (w : World) :
    Calls Try.prog 46 #[.agg #[.int .i64 k, .int .i64 n, .string s]] w fun e w' => e = .returned (.agg #[.int .i64 2, .int .i64 0, .int .i64 k, .int .i64 n, .string s]) ∧ Below w.heap.size w w' := by
  go_enter Try.func46, Try.ntmps46
  go_wp2
  exact bodyPost_ret (v := .agg #[.int .i64 2, .int .i64 0, .int .i64 k, .int .i64 n, .string s]) (by simp [results, Try.results46, go_sem]) rfl
    ⟨rfl, ((Below.refl _ _).alloc (Nat.le_refl _) _).alloc (by simp) _⟩
end Go.Proofs.Ytkoihpejkcnokaa
