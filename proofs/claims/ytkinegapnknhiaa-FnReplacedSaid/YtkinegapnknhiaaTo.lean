/-
  Contracts of what the exact laws do with tables and rows: their copies.
-/
import Derived.Test.YtkinegapnknhiaaTypes
import Derived.Deep.RegionHeld3
namespace Go.Proofs.Ytkinegapnknhiaa
open Go.RowKit
set_option linter.unusedVariables false

theorem ne1 {g b : Nat} (h : g + 1 ≤ b) : b ≠ g := by omega
theorem ne3a {g b : Nat} (h : g + 3 ≤ b) : b ≠ g + 1 + 1 := by omega
theorem ne3b {g b : Nat} (h : g + 3 ≤ b) : b ≠ g + 1 := by omega
theorem Sl.set {α : Type} {R : Rd α} (hR : Stays R) {sz : Nat} {ok : Nat → Prop} {w : World} {A : Option Addr} {n : Nat} {ds : List α} (h : Sl R sz ok w A n ds) {p : Addr} (hp : ∀ b, ok b → b ≠ p.block) (v : Value) : Sl R sz ok (w.setCell p v) A n ds :=
  h.stays hR (fun _ h => h) fun q u hq hu => (World.cell?_of_block (w := w) (a := q) (Below.heap_setCell w p v q.block (hp _ hq))).trans hu
theorem LaidR.set {α : Type} {R : Rd α} (hR : Stays R) {sz : Nat} {ok : Nat → Prop} {w : World} {cs : Array Value} {k : Nat} {ds : List α} (h : LaidR R sz ok w cs k ds) {p : Addr} (hp : ∀ b, ok b → b ≠ p.block) (v : Value) : LaidR R sz ok (w.setCell p v) cs k ds :=
  h.stays hR fun q u hq hu => (World.cell?_of_block (w := w) (a := q) (Below.heap_setCell w p v q.block (hp _ hq))).trans hu
theorem Stays.set {α : Type} {R : Rd α} (hR : Stays R) {ok : Nat → Prop} {w : World} {cs : List Value} {d : α} (h : R ok w cs d) {p : Addr} (hp : ∀ b, ok b → b ≠ p.block) (v : Value) : R ok (w.setCell p v) cs d :=
  hR _ _ _ _ _ _ h (fun _ h => h) fun q u hq hu => (World.cell?_of_block (w := w) (a := q) (Below.heap_setCell w p v q.block (hp _ hq))).trans hu
/-- Blocks from G on that are there and may be written to. -/
def okF (G : Nat) (w : World) : Nat → Prop := fun b => G ≤ b ∧ b < w.heap.size ∧ ∀ off, w.frozen? ⟨b, off, none⟩ = false
theorem frozen_setCell (w : World) (p : Addr) (v : Value) (a : Addr) : (w.setCell p v).frozen? a = w.frozen? a := by
  unfold World.frozen? World.setCell
  by_cases e : p.block = a.block
  · simp only [Array.getElem?_modify, if_pos e]
    cases h : w.heap[a.block]? with
    | none => rfl
    | some o => cases o <;> rfl
  · simp only [Array.getElem?_modify, if_neg e]
theorem okF.mono {G G' : Nat} {w : World} {b : Nat} (h : okF G w b) (hG : G' ≤ G) : okF G' w b := ⟨Nat.le_trans hG h.1, h.2⟩
theorem okF.below {G : Nat} {w w' : World} (hb : Below w.heap.size w w') {b : Nat} (h : okF G w b) : okF G w' b :=
  ⟨h.1, Nat.lt_of_lt_of_le h.2.1 hb.size, fun off => (World.frozen?_of_block (w := w) (hb.block b h.2.1)).trans (h.2.2 off)⟩
theorem okF.set {G : Nat} {w : World} {b : Nat} (h : okF G w b) (p : Addr) (v : Value) : okF G (w.setCell p v) b :=
  ⟨h.1, by simpa [World.setCell] using h.2.1, fun off => (frozen_setCell w p v _).trans (h.2.2 off)⟩
theorem Sl.belowF {α : Type} {R : Rd α} (hR : Stays R) {sz G : Nat} {w w' : World} {A : Option Addr} {n : Nat} {ds : List α} (h : Sl R sz (okF G w) w A n ds) (hb : Below w.heap.size w w') : Sl R sz (okF G w') w' A n ds :=
  h.stays hR (fun _ h => h.below hb) fun p v _ hp => below_keep hb p v hp
theorem Sl.setF {α : Type} {R : Rd α} (hR : Stays R) {sz G : Nat} {w : World} {A : Option Addr} {n : Nat} {ds : List α} (h : Sl R sz (okF G w) w A n ds) {p : Addr} (hp : p.block < G) (v : Value) : Sl R sz (okF G (w.setCell p v)) (w.setCell p v) A n ds :=
  h.stays hR (fun _ h => h.set p v) fun q u hq hu => (World.cell?_of_block (w := w) (a := q) (Below.heap_setCell w p v q.block (by have := hq.1; omega))).trans hu
theorem LaidR.belowF {α : Type} {R : Rd α} (hR : Stays R) {sz G : Nat} {w w' : World} {cs : Array Value} {k : Nat} {ds : List α} (h : LaidR R sz (okF G w) w cs k ds) (hb : Below w.heap.size w w') : LaidR R sz (okF G w') w' cs k ds := fun i hi hlt => by
  obtain ⟨c, h1, h2, h3⟩ := h i hi hlt
  exact ⟨c, h1, hR _ _ _ _ _ _ h2 (fun _ h => h.below hb) (fun p v _ hp => below_keep hb p v hp), h3⟩
theorem LaidR.setF {α : Type} {R : Rd α} (hR : Stays R) {sz G : Nat} {w : World} {cs : Array Value} {k : Nat} {ds : List α} (h : LaidR R sz (okF G w) w cs k ds) {p : Addr} (hp : p.block < G) (v : Value) : LaidR R sz (okF G (w.setCell p v)) (w.setCell p v) cs k ds := fun i hi hlt => by
  obtain ⟨c, h1, h2, h3⟩ := h i hi hlt
  exact ⟨c, h1, hR _ _ _ _ _ _ h2 (fun _ h => h.set p v) (fun q u hq hu => (World.cell?_of_block (w := w) (a := q) (Below.heap_setCell w p v q.block (by have := hq.1; omega))).trans hu), h3⟩
/-- A slice that a call has made, in blocks of its own. -/
def MadeSl {α : Type} (R : Rd α) (sz n : Nat) (ds : List α) (w : World) (e : Ending) (w' : World) : Prop := ∃ A c, e = .returned (.slice A n c) ∧ n ≤ c ∧ Sl R sz (okF w.heap.size w') w' A n ds ∧ Below w.heap.size w w'
/-- A struct that a call has made, with what it leads to in blocks of its own. -/
def MadeR {α : Type} (R : Rd α) (d : α) (w : World) (e : Ending) (w' : World) : Prop := ∃ cs : List Value, e = .returned (.agg cs.toArray) ∧ R (okF w.heap.size w') w' cs d ∧ Below w.heap.size w w'

theorem hold1 (cs : Array Value) (k : Nat) (v0 : Value) : ∀ m, m < k * 1 → (cs.setIfInBounds (k) v0)[m]? = cs[m]? := by
  intro m hm
  simp only [Array.getElem?_setIfInBounds]
  rw [if_neg (by omega)]
theorem fresh1 (cs : Array Value) (k : Nat) (v0 : Value) (hs : k * 1 + 1 ≤ cs.size) : ∀ (j : Nat) (v : Value), [v0][j]? = some v → (cs.setIfInBounds (k) v0)[k * 1 + j]? = some v := by
  intro j v hj
  have hlt : j < 1 := by obtain ⟨h, _⟩ := List.getElem?_eq_some_iff.1 hj; simpa using h
  have : j = 0 := by omega
  rcases this with rfl <;> simp at hj <;> subst hj <;> simp [Array.getElem?_setIfInBounds] <;> omega

theorem hold2 (cs : Array Value) (k : Nat) (v0 v1 : Value) : ∀ m, m < k * 2 → ((cs.setIfInBounds (k * 2) v0).setIfInBounds (k * 2 + 1) v1)[m]? = cs[m]? := by
  intro m hm
  simp only [Array.getElem?_setIfInBounds, Array.size_setIfInBounds]
  rw [if_neg (by omega)]; rw [if_neg (by omega)]
theorem fresh2 (cs : Array Value) (k : Nat) (v0 v1 : Value) (hs : k * 2 + 2 ≤ cs.size) : ∀ (j : Nat) (v : Value), [v0, v1][j]? = some v → ((cs.setIfInBounds (k * 2) v0).setIfInBounds (k * 2 + 1) v1)[k * 2 + j]? = some v := by
  intro j v hj
  have hlt : j < 2 := by obtain ⟨h, _⟩ := List.getElem?_eq_some_iff.1 hj; simpa using h
  have : j = 0 ∨ j = 1 := by omega
  rcases this with rfl | rfl <;> simp at hj <;> subst hj <;> simp [Array.getElem?_setIfInBounds] <;> omega

theorem hold3 (cs : Array Value) (k : Nat) (v0 v1 v2 : Value) : ∀ m, m < k * 3 → (((cs.setIfInBounds (k * 3) v0).setIfInBounds (k * 3 + 1) v1).setIfInBounds (k * 3 + 2) v2)[m]? = cs[m]? := by
  intro m hm
  simp only [Array.getElem?_setIfInBounds, Array.size_setIfInBounds]
  rw [if_neg (by omega)]; rw [if_neg (by omega)]; rw [if_neg (by omega)]
theorem fresh3 (cs : Array Value) (k : Nat) (v0 v1 v2 : Value) (hs : k * 3 + 3 ≤ cs.size) : ∀ (j : Nat) (v : Value), [v0, v1, v2][j]? = some v → (((cs.setIfInBounds (k * 3) v0).setIfInBounds (k * 3 + 1) v1).setIfInBounds (k * 3 + 2) v2)[k * 3 + j]? = some v := by
  intro j v hj
  have hlt : j < 3 := by obtain ⟨h, _⟩ := List.getElem?_eq_some_iff.1 hj; simpa using h
  have : j = 0 ∨ j = 1 ∨ j = 2 := by omega
  rcases this with rfl | rfl | rfl <;> simp at hj <;> subst hj <;> simp [Array.getElem?_setIfInBounds] <;> omega

theorem hold4 (cs : Array Value) (k : Nat) (v0 v1 v2 v3 : Value) : ∀ m, m < k * 4 → ((((cs.setIfInBounds (k * 4) v0).setIfInBounds (k * 4 + 1) v1).setIfInBounds (k * 4 + 2) v2).setIfInBounds (k * 4 + 3) v3)[m]? = cs[m]? := by
  intro m hm
  simp only [Array.getElem?_setIfInBounds, Array.size_setIfInBounds]
  rw [if_neg (by omega)]; rw [if_neg (by omega)]; rw [if_neg (by omega)]; rw [if_neg (by omega)]
theorem fresh4 (cs : Array Value) (k : Nat) (v0 v1 v2 v3 : Value) (hs : k * 4 + 4 ≤ cs.size) : ∀ (j : Nat) (v : Value), [v0, v1, v2, v3][j]? = some v → ((((cs.setIfInBounds (k * 4) v0).setIfInBounds (k * 4 + 1) v1).setIfInBounds (k * 4 + 2) v2).setIfInBounds (k * 4 + 3) v3)[k * 4 + j]? = some v := by
  intro j v hj
  have hlt : j < 4 := by obtain ⟨h, _⟩ := List.getElem?_eq_some_iff.1 hj; simpa using h
  have : j = 0 ∨ j = 1 ∨ j = 2 ∨ j = 3 := by omega
  rcases this with rfl | rfl | rfl | rfl <;> simp at hj <;> subst hj <;> simp [Array.getElem?_setIfInBounds] <;> omega

theorem hold5 (cs : Array Value) (k : Nat) (v0 v1 v2 v3 v4 : Value) : ∀ m, m < k * 5 → (((((cs.setIfInBounds (k * 5) v0).setIfInBounds (k * 5 + 1) v1).setIfInBounds (k * 5 + 2) v2).setIfInBounds (k * 5 + 3) v3).setIfInBounds (k * 5 + 4) v4)[m]? = cs[m]? := by
  intro m hm
  simp only [Array.getElem?_setIfInBounds, Array.size_setIfInBounds]
  rw [if_neg (by omega)]; rw [if_neg (by omega)]; rw [if_neg (by omega)]; rw [if_neg (by omega)]; rw [if_neg (by omega)]
theorem fresh5 (cs : Array Value) (k : Nat) (v0 v1 v2 v3 v4 : Value) (hs : k * 5 + 5 ≤ cs.size) : ∀ (j : Nat) (v : Value), [v0, v1, v2, v3, v4][j]? = some v → (((((cs.setIfInBounds (k * 5) v0).setIfInBounds (k * 5 + 1) v1).setIfInBounds (k * 5 + 2) v2).setIfInBounds (k * 5 + 3) v3).setIfInBounds (k * 5 + 4) v4)[k * 5 + j]? = some v := by
  intro j v hj
  have hlt : j < 5 := by obtain ⟨h, _⟩ := List.getElem?_eq_some_iff.1 hj; simpa using h
  have : j = 0 ∨ j = 1 ∨ j = 2 ∨ j = 3 ∨ j = 4 := by omega
  rcases this with rfl | rfl | rfl | rfl | rfl <;> simp at hj <;> subst hj <;> simp [Array.getElem?_setIfInBounds] <;> omega

theorem hold6 (cs : Array Value) (k : Nat) (v0 v1 v2 v3 v4 v5 : Value) : ∀ m, m < k * 6 → ((((((cs.setIfInBounds (k * 6) v0).setIfInBounds (k * 6 + 1) v1).setIfInBounds (k * 6 + 2) v2).setIfInBounds (k * 6 + 3) v3).setIfInBounds (k * 6 + 4) v4).setIfInBounds (k * 6 + 5) v5)[m]? = cs[m]? := by
  intro m hm
  simp only [Array.getElem?_setIfInBounds, Array.size_setIfInBounds]
  rw [if_neg (by omega)]; rw [if_neg (by omega)]; rw [if_neg (by omega)]; rw [if_neg (by omega)]; rw [if_neg (by omega)]; rw [if_neg (by omega)]
theorem fresh6 (cs : Array Value) (k : Nat) (v0 v1 v2 v3 v4 v5 : Value) (hs : k * 6 + 6 ≤ cs.size) : ∀ (j : Nat) (v : Value), [v0, v1, v2, v3, v4, v5][j]? = some v → ((((((cs.setIfInBounds (k * 6) v0).setIfInBounds (k * 6 + 1) v1).setIfInBounds (k * 6 + 2) v2).setIfInBounds (k * 6 + 3) v3).setIfInBounds (k * 6 + 4) v4).setIfInBounds (k * 6 + 5) v5)[k * 6 + j]? = some v := by
  intro j v hj
  have hlt : j < 6 := by obtain ⟨h, _⟩ := List.getElem?_eq_some_iff.1 hj; simpa using h
  have : j = 0 ∨ j = 1 ∨ j = 2 ∨ j = 3 ∨ j = 4 ∨ j = 5 := by omega
  rcases this with rfl | rfl | rfl | rfl | rfl | rfl <;> simp at hj <;> subst hj <;> simp [Array.getElem?_setIfInBounds] <;> omega

theorem infoIntT : (Try.prog.info? 2).map (fun i => (i.zero, i.size, i.bytes)) = some (some (.int .i64 0), 1, 8) := by kernel_rfl
set_option maxRecDepth 100000 in
set_option maxHeartbeats 1000000 in
theorem lawsToIntL (A : Option Addr) (n c : Nat) (l : List Int) (ok : Nat → Prop) (w : World) (h : Sl IntR 1 ok w A n l) (hs : l.length ≤ 1048576) :
    Calls Try.prog 35 #[.slice A n c] w (MadeSl IntR 1 n l w) := by
  obtain rfl : l.length = n := h.1
  have hn : l.length ≤ 1048576 := by exact hs
  have HS := Lib.hid hs
  clear hs
  have hmk := fun w => mk_rows (P := Try.prog) Try.underlying30 infoIntT (by omega) l.length hn w
  simp only [Nat.mul_one] at hmk
  simp only [Value.cells] at hmk
  go_enter Try.func35, Try.ntmps35
  go_wp2
  have row := Row.new w 2 (madeCells #[.int .i64 0] (l.length))
  have hb0 := (Below.refl w.heap.size w).alloc (Nat.le_refl _) (.cells (madeCells #[.int .i64 0] (l.length)) 2)
  have hsz := size_madeCells #[.int .i64 0] (l.length)
  have hx0 : (w.alloc (.cells (madeCells #[.int .i64 0] (l.length)) 2)).heap.size = w.heap.size + 1 := by simp
  generalize w.alloc (.cells (madeCells #[.int .i64 0] (l.length)) 2) = x at *
  generalize madeCells #[.int .i64 0] (l.length) = cs0 at *
  have HZ := Lib.hid hsz
  have HX0 := Lib.hid hx0
  clear hmk hsz hx0
  go_loopw [4] (fun i wr => ∃ (k : Nat) (cs : Array Value), k ≤ l.length ∧ i = .int .i64 k ∧ Row wr w.heap.size 2 cs ∧ Hid (cs.size = l.length * 1) ∧ Hid (LaidR IntR 1 (okF (w.heap.size + 1) wr) wr cs k l) ∧ Hid (w.heap.size + 1 ≤ wr.heap.size) ∧ Below w.heap.size w wr) (fun i _ => l.length - (intOf i).toNat)
  case atStart => exact ⟨0, cs0, by omega, rfl, row, Lib.hid (by rw [HZ.out]; exact (Nat.mul_one _).symm), Lib.hid (LaidR.zero _ _ _ _ _ _), Lib.hid (by rw [HX0.out]; exact Nat.le_refl _), hb0⟩
  case round =>
    obtain ⟨k, cs, hk, rfl, hrow, hcs, hlaid, hgw, hb⟩ := hrel
    by_cases hlt : k < l.length
    · obtain ⟨b, off, -, rfl, q0⟩ := IntR.at_ (h.below IntR.stays hb) hlt
      have hsz1 : k * 1 + 1 ≤ cs.size := by rw [hcs.out]; omega
      have q1 : wr.cell? ⟨w.heap.size, k, none⟩ = some (cs[k]?.getD undef) := by rw [hrow.cell, Array.getElem?_eq_getElem (by omega)]; rfl
      have f0 := hrow.free k
      have HR := Lib.hid hrow
      clear hrow
      go_wp2_with fail
      go_roundw
      case rel => exact ⟨k + 1, _, by omega, by go_num, HR.out.set _ _, Lib.hid (by simp [hcs.out]), Lib.hid (((hlaid.out.setF IntR.stays (by simp) _).more hlt rfl rfl (hold1 cs k _) (fresh1 cs k _ hsz1))), Lib.hid (by simpa using hgw.out), hb.setCell (by simp) _⟩
      case measure => simp [intOf]; omega
    · obtain rfl : k = l.length := by omega
      go_wp2
      go_ret
      exact ⟨_, _, rfl, Nat.le_refl _, (sl_of_laid (ok := okF w.heap.size _) hrow ⟨Nat.le_refl _, hgw.out, fun off => hrow.free off⟩ (fun i hi hlt' => by
        obtain ⟨c', h1, h2, h3⟩ := hlaid.out i hi hlt'
        exact ⟨c', h1, IntR.stays _ _ _ _ _ _ h2 (fun b hb' => hb'.mono (Nat.le_succ _)) (fun p v _ hp => hp), h3⟩) (Nat.le_refl _)), hb⟩

set_option maxRecDepth 100000 in
set_option maxHeartbeats 1000000 in
theorem lawsToFile (x : Fz)  (ok : Nat → Prop) (w : World)  (hs : x.sz ≤ 1048576) :
    Calls Try.prog 93 #[.agg #[.string x.name, .string x.data]] w fun e w' => e = .returned (.agg #[.string x.name, .string x.data]) ∧ Below w.heap.size w w' := by
  go_enter Try.func93, Try.ntmps93
  go_wp2
  exact bodyPost_ret (v := .agg #[.string x.name, .string x.data]) (by simp [results, Try.results93, go_sem]) rfl
    ⟨rfl, (((Below.refl _ _).alloc (Nat.le_refl _) _).alloc (by simp) _).alloc (by simp; omega) _⟩

theorem infoFileT : (Try.prog.info? 75).map (fun i => (i.zero, i.size, i.bytes)) = some (some (.agg #[.string ⟨#[]⟩, .string ⟨#[]⟩]), 2, 32) := by kernel_rfl
set_option maxRecDepth 100000 in
set_option maxHeartbeats 1000000 in
theorem lawsToFileL (A : Option Addr) (n c : Nat) (l : List Fz) (ok : Nat → Prop) (w : World) (h : Sl FzR 2 ok w A n l) (hs : szL Fz.sz l ≤ 1048576) :
    Calls Try.prog 68 #[.slice A n c] w (MadeSl FzR 2 n l w) := by
  obtain rfl : l.length = n := h.1
  have hn : l.length ≤ 1048576 := by unfold szL at hs; omega
  have HS := Lib.hid hs
  clear hs
  have hmk := fun w => mk_rows (P := Try.prog) Try.underlying24 infoFileT (by omega) l.length hn w
  go_enter Try.func68, Try.ntmps68
  go_wp2
  have row := Row.new w 75 (madeCells #[.string ⟨#[]⟩, .string ⟨#[]⟩] (l.length * 2))
  have hb0 := (Below.refl w.heap.size w).alloc (Nat.le_refl _) (.cells (madeCells #[.string ⟨#[]⟩, .string ⟨#[]⟩] (l.length * 2)) 75)
  have hsz := size_madeCells #[.string ⟨#[]⟩, .string ⟨#[]⟩] (l.length * 2)
  have hx0 : (w.alloc (.cells (madeCells #[.string ⟨#[]⟩, .string ⟨#[]⟩] (l.length * 2)) 75)).heap.size = w.heap.size + 1 := by simp
  generalize w.alloc (.cells (madeCells #[.string ⟨#[]⟩, .string ⟨#[]⟩] (l.length * 2)) 75) = x at *
  generalize madeCells #[.string ⟨#[]⟩, .string ⟨#[]⟩] (l.length * 2) = cs0 at *
  have HZ := Lib.hid hsz
  have HX0 := Lib.hid hx0
  clear hmk hsz hx0
  go_loopw [4] (fun i wr => ∃ (k : Nat) (cs : Array Value), k ≤ l.length ∧ i = .int .i64 k ∧ Row wr w.heap.size 75 cs ∧ Hid (cs.size = l.length * 2) ∧ Hid (LaidR FzR 2 (okF (w.heap.size + 1) wr) wr cs k l) ∧ Hid (w.heap.size + 1 ≤ wr.heap.size) ∧ Below w.heap.size w wr) (fun i _ => l.length - (intOf i).toNat)
  case atStart => exact ⟨0, cs0, by omega, rfl, row, Lib.hid (by rw [HZ.out]), Lib.hid (LaidR.zero _ _ _ _ _ _), Lib.hid (by rw [HX0.out]; exact Nat.le_refl _), hb0⟩
  case round =>
    obtain ⟨k, cs, hk, rfl, hrow, hcs, hlaid, hgw, hb⟩ := hrel
    by_cases hlt : k < l.length
    · obtain ⟨b, off, -, rfl, q0, q1⟩ := FzR.at_ (h.below FzR.stays hb) hlt
      have hsz1 : k * 2 + 2 ≤ cs.size := by rw [hcs.out]; omega
      have hszk : l[k].sz ≤ 1048576 := by have := HS.out; have := sum_mem_le (Fz.sz) l k hlt; unfold szL at *; (try simp only at *); omega
      have HSK := Lib.hid hszk
      clear hszk
      go_wp2_with fail
      refine (lawsToFile l[k]  ok _  HSK.out).mono ?_
      rintro e w1 ⟨rfl, hb1⟩
      have hrow1 := hrow.below hb1
      have hgw1 : w.heap.size + 1 ≤ w1.heap.size := Nat.le_trans hgw.out hb1.size
      have HGW := Lib.hid hgw1
      clear hgw1
      have hl1 := Lib.hid (hlaid.out.belowF FzR.stays hb1)
      have q : ∀ j, j < 2 → w1.cell? ⟨w.heap.size, k * 2 + j, none⟩ = some (cs[k * 2 + j]?.getD undef) := fun j hj => by
        rw [hrow1.cell, Array.getElem?_eq_getElem (by omega)]; rfl
      have z0 : w1.cell? ⟨w.heap.size, k * 2, none⟩ = some (cs[k * 2]?.getD undef) := q 0 (by omega)
      have z1 := q 1 (by omega)
      have f0 := hrow1.free (k * 2)
      have f1 := hrow1.free (k * 2 + 1)
      clear q
      have HR := Lib.hid hrow1
      clear hrow1 hrow q0 q1
      go_wp2_with fail
      go_roundw
      case rel =>
        exact ⟨k + 1, _, by omega, by go_num, ((HR.out).set _ _).set _ _, Lib.hid (by simp [hcs.out]), Lib.hid ((((hl1.out).setF FzR.stays (by simp) _).setF FzR.stays (by simp) _).more hlt (c := [.string l[k].name, .string l[k].data]) rfl rfl (hold2 cs k _ _) (fresh2 cs k _ _ hsz1)), Lib.hid (by simpa using HGW.out), ((hb.trans (hb1.mono hb.size)).setCell (by simp) _).setCell (by simp) _⟩
      case measure => simp [intOf]; omega
    · obtain rfl : k = l.length := by omega
      go_wp2
      go_ret
      exact ⟨_, _, rfl, Nat.le_refl _, (sl_of_laid (ok := okF w.heap.size _) hrow ⟨Nat.le_refl _, hgw.out, fun off => hrow.free off⟩ (fun i hi hlt' => by
        obtain ⟨c', h1, h2, h3⟩ := hlaid.out i hi hlt'
        exact ⟨c', h1, FzR.stays _ _ _ _ _ _ h2 (fun b hb' => hb'.mono (Nat.le_succ _)) (fun p v _ hp => hp), h3⟩) (Nat.le_refl _)), hb⟩

set_option maxRecDepth 100000 in
set_option maxHeartbeats 1000000 in
theorem lawsToDOp (x : Oz)  (ok : Nat → Prop) (w : World)  (hs : x.sz ≤ 1048576) :
    Calls Try.prog 30 #[.agg #[.int .i64 x.kind, .string x.name, .string x.to, .string x.data]] w fun e w' => e = .returned (.agg #[.int .i64 x.kind, .string x.name, .string x.to, .string x.data]) ∧ Below w.heap.size w w' := by
  go_enter Try.func30, Try.ntmps30
  go_wp2
  exact bodyPost_ret (v := .agg #[.int .i64 x.kind, .string x.name, .string x.to, .string x.data]) (by simp [results, Try.results30, go_sem]) rfl
    ⟨rfl, (((Below.refl _ _).alloc (Nat.le_refl _) _).alloc (by simp) _).alloc (by simp; omega) _⟩

theorem infoDOpT : (Try.prog.info? 36).map (fun i => (i.zero, i.size, i.bytes)) = some (some (.agg #[.int .i64 0, .string ⟨#[]⟩, .string ⟨#[]⟩, .string ⟨#[]⟩]), 4, 56) := by kernel_rfl
set_option maxRecDepth 100000 in
set_option maxHeartbeats 1000000 in
theorem lawsToDOpL (A : Option Addr) (n c : Nat) (l : List Oz) (ok : Nat → Prop) (w : World) (h : Sl OzR 4 ok w A n l) (hs : szL Oz.sz l ≤ 1048576) :
    Calls Try.prog 69 #[.slice A n c] w (MadeSl OzR 4 n l w) := by
  obtain rfl : l.length = n := h.1
  have hn : l.length ≤ 1048576 := by unfold szL at hs; omega
  have HS := Lib.hid hs
  clear hs
  have hmk := fun w => mk_rows (P := Try.prog) Try.underlying25 infoDOpT (by omega) l.length hn w
  go_enter Try.func69, Try.ntmps69
  go_wp2
  have row := Row.new w 36 (madeCells #[.int .i64 0, .string ⟨#[]⟩, .string ⟨#[]⟩, .string ⟨#[]⟩] (l.length * 4))
  have hb0 := (Below.refl w.heap.size w).alloc (Nat.le_refl _) (.cells (madeCells #[.int .i64 0, .string ⟨#[]⟩, .string ⟨#[]⟩, .string ⟨#[]⟩] (l.length * 4)) 36)
  have hsz := size_madeCells #[.int .i64 0, .string ⟨#[]⟩, .string ⟨#[]⟩, .string ⟨#[]⟩] (l.length * 4)
  have hx0 : (w.alloc (.cells (madeCells #[.int .i64 0, .string ⟨#[]⟩, .string ⟨#[]⟩, .string ⟨#[]⟩] (l.length * 4)) 36)).heap.size = w.heap.size + 1 := by simp
  generalize w.alloc (.cells (madeCells #[.int .i64 0, .string ⟨#[]⟩, .string ⟨#[]⟩, .string ⟨#[]⟩] (l.length * 4)) 36) = x at *
  generalize madeCells #[.int .i64 0, .string ⟨#[]⟩, .string ⟨#[]⟩, .string ⟨#[]⟩] (l.length * 4) = cs0 at *
  have HZ := Lib.hid hsz
  have HX0 := Lib.hid hx0
  clear hmk hsz hx0
  go_loopw [4] (fun i wr => ∃ (k : Nat) (cs : Array Value), k ≤ l.length ∧ i = .int .i64 k ∧ Row wr w.heap.size 36 cs ∧ Hid (cs.size = l.length * 4) ∧ Hid (LaidR OzR 4 (okF (w.heap.size + 1) wr) wr cs k l) ∧ Hid (w.heap.size + 1 ≤ wr.heap.size) ∧ Below w.heap.size w wr) (fun i _ => l.length - (intOf i).toNat)
  case atStart => exact ⟨0, cs0, by omega, rfl, row, Lib.hid (by rw [HZ.out]), Lib.hid (LaidR.zero _ _ _ _ _ _), Lib.hid (by rw [HX0.out]; exact Nat.le_refl _), hb0⟩
  case round =>
    obtain ⟨k, cs, hk, rfl, hrow, hcs, hlaid, hgw, hb⟩ := hrel
    by_cases hlt : k < l.length
    · obtain ⟨b, off, -, rfl, q0, q1, q2, q3⟩ := OzR.at_ (h.below OzR.stays hb) hlt
      have hsz1 : k * 4 + 4 ≤ cs.size := by rw [hcs.out]; omega
      have hszk : l[k].sz ≤ 1048576 := by have := HS.out; have := sum_mem_le (Oz.sz) l k hlt; unfold szL at *; (try simp only at *); omega
      have HSK := Lib.hid hszk
      clear hszk
      go_wp2_with fail
      refine (lawsToDOp l[k]  ok _  HSK.out).mono ?_
      rintro e w1 ⟨rfl, hb1⟩
      have hrow1 := hrow.below hb1
      have hgw1 : w.heap.size + 1 ≤ w1.heap.size := Nat.le_trans hgw.out hb1.size
      have HGW := Lib.hid hgw1
      clear hgw1
      have hl1 := Lib.hid (hlaid.out.belowF OzR.stays hb1)
      have q : ∀ j, j < 4 → w1.cell? ⟨w.heap.size, k * 4 + j, none⟩ = some (cs[k * 4 + j]?.getD undef) := fun j hj => by
        rw [hrow1.cell, Array.getElem?_eq_getElem (by omega)]; rfl
      have z0 : w1.cell? ⟨w.heap.size, k * 4, none⟩ = some (cs[k * 4]?.getD undef) := q 0 (by omega)
      have z1 := q 1 (by omega)
      have z2 := q 2 (by omega)
      have z3 := q 3 (by omega)
      have f0 := hrow1.free (k * 4)
      have f1 := hrow1.free (k * 4 + 1)
      have f2 := hrow1.free (k * 4 + 2)
      have f3 := hrow1.free (k * 4 + 3)
      clear q
      have HR := Lib.hid hrow1
      clear hrow1 hrow q0 q1 q2 q3
      go_wp2_with fail
      go_roundw
      case rel =>
        exact ⟨k + 1, _, by omega, by go_num, ((((HR.out).set _ _).set _ _).set _ _).set _ _, Lib.hid (by simp [hcs.out]), Lib.hid ((((((hl1.out).setF OzR.stays (by simp) _).setF OzR.stays (by simp) _).setF OzR.stays (by simp) _).setF OzR.stays (by simp) _).more hlt (c := [.int .i64 l[k].kind, .string l[k].name, .string l[k].to, .string l[k].data]) rfl rfl (hold4 cs k _ _ _ _) (fresh4 cs k _ _ _ _ hsz1)), Lib.hid (by simpa using HGW.out), ((((hb.trans (hb1.mono hb.size)).setCell (by simp) _).setCell (by simp) _).setCell (by simp) _).setCell (by simp) _⟩
      case measure => simp [intOf]; omega
    · obtain rfl : k = l.length := by omega
      go_wp2
      go_ret
      exact ⟨_, _, rfl, Nat.le_refl _, (sl_of_laid (ok := okF w.heap.size _) hrow ⟨Nat.le_refl _, hgw.out, fun off => hrow.free off⟩ (fun i hi hlt' => by
        obtain ⟨c', h1, h2, h3⟩ := hlaid.out i hi hlt'
        exact ⟨c', h1, OzR.stays _ _ _ _ _ _ h2 (fun b hb' => hb'.mono (Nat.le_succ _)) (fun p v _ hp => hp), h3⟩) (Nat.le_refl _)), hb⟩

set_option maxRecDepth 100000 in
set_option maxHeartbeats 1000000 in
theorem lawsToDisk (x : Dz) (A0 : Option Addr) (n0 c0 : Nat) (A1 : Option Addr) (n1 c1 : Nat) (A2 : Option Addr) (n2 c2 : Nat) (ok : Nat → Prop) (w : World) (h0 : Sl FzR 2 ok w A0 n0 x.live) (h1 : Sl FzR 2 ok w A1 n1 x.safe) (h2 : Sl OzR 4 ok w A2 n2 x.ops) (hs : x.sz ≤ 1048576) :
    Calls Try.prog 27 #[.agg #[.slice A0 n0 c0, .slice A1 n1 c1, .slice A2 n2 c2]] w (MadeR DzR x w) := by
  have hs0 : szL Fz.sz x.live ≤ 1048576 := by have := hs; unfold Dz.sz at this; omega
  have HS0 := Lib.hid hs0
  clear hs0
  have hs1 : szL Fz.sz x.safe ≤ 1048576 := by have := hs; unfold Dz.sz at this; omega
  have HS1 := Lib.hid hs1
  clear hs1
  have hs2 : szL Oz.sz x.ops ≤ 1048576 := by have := hs; unfold Dz.sz at this; omega
  have HS2 := Lib.hid hs2
  clear hs2
  clear hs
  have ra := ((Row.new w 50 #[.slice A0 n0 c0, .slice A1 n1 c1, .slice A2 n2 c2]).alloc (.cells #[.slice none 0 0, .slice none 0 0, .slice none 0 0] 27)).alloc (.cells #[.slice none 0 0, .slice none 0 0, .slice none 0 0] 27)
  have r1 := (Row.newAt (w.alloc (.cells #[.slice A0 n0 c0, .slice A1 n1 c1, .slice A2 n2 c2] 50)) 27 #[.slice none 0 0, .slice none 0 0, .slice none 0 0] (w.heap.size + 1) (by simp)).alloc (.cells #[.slice none 0 0, .slice none 0 0, .slice none 0 0] 27)
  have r2 := Row.newAt ((w.alloc (.cells #[.slice A0 n0 c0, .slice A1 n1 c1, .slice A2 n2 c2] 50)).alloc (.cells #[.slice none 0 0, .slice none 0 0, .slice none 0 0] 27)) 27 #[.slice none 0 0, .slice none 0 0, .slice none 0 0] (w.heap.size + 1 + 1) (by simp)
  have hb0 := ((((Below.refl w.heap.size w).alloc (Nat.le_refl _) (.cells #[.slice A0 n0 c0, .slice A1 n1 c1, .slice A2 n2 c2] 50)).alloc (by simp) (.cells #[.slice none 0 0, .slice none 0 0, .slice none 0 0] 27)).alloc (by simp; omega) (.cells #[.slice none 0 0, .slice none 0 0, .slice none 0 0] 27))
  have hz0 : w.heap.size + 3 ≤ (((w.alloc (.cells #[.slice A0 n0 c0, .slice A1 n1 c1, .slice A2 n2 c2] 50)).alloc (.cells #[.slice none 0 0, .slice none 0 0, .slice none 0 0] 27)).alloc (.cells #[.slice none 0 0, .slice none 0 0, .slice none 0 0] 27)).heap.size := by simp
  go_enter Try.func27, Try.ntmps27
  go_wp2_with fail
  generalize ((w.alloc (.cells #[.slice A0 n0 c0, .slice A1 n1 c1, .slice A2 n2 c2] 50)).alloc (.cells #[.slice none 0 0, .slice none 0 0, .slice none 0 0] 27)).alloc (.cells #[.slice none 0 0, .slice none 0 0, .slice none 0 0] 27) = x0 at *
  refine (lawsToFileL A0 n0 c0 x.live ok _ (h0.below FzR.stays hb0) HS0.out).mono ?_
  rintro e w1 ⟨B0, d0, rfl, hcp0, t0, hc0⟩
  have u0 := t0.stays FzR.stays (ok' := okF (w.heap.size + 3) w1) (fun b hb' => hb'.mono (by omega)) (fun p v _ hp => hp)
  clear t0
  have ra := ra.below hc0
  have r1 := r1.below hc0
  have r2 := r2.below hc0
  have hbx0 := hb0.trans (hc0.mono hb0.size)
  have hz1 : w.heap.size + 3 ≤ w1.heap.size := Nat.le_trans hz0 hc0.size
  obtain ⟨⟨a_0_0, a_0_1, a_0_2⟩, -⟩ := ra.three
  obtain ⟨⟨b_0_0, b_0_1, b_0_2⟩, ⟨f_0_0, f_0_1, f_0_2⟩⟩ := r2.three
  go_wp2_with fail
  have ra' : Row ((w1).setCell ⟨w.heap.size + 1 + 1, 0, none⟩ (.slice B0 n0 d0)) w.heap.size 50 #[.slice A0 n0 c0, .slice A1 n1 c1, .slice A2 n2 c2] := (ra).far (by simp; try omega) _
  have r1' : Row ((w1).setCell ⟨w.heap.size + 1 + 1, 0, none⟩ (.slice B0 n0 d0)) (w.heap.size + 1) 27 #[.slice none 0 0, .slice none 0 0, .slice none 0 0] := (r1).far (by simp) _
  have r2' : Row ((w1).setCell ⟨w.heap.size + 1 + 1, 0, none⟩ (.slice B0 n0 d0)) (w.heap.size + 1 + 1) 27 #[.slice B0 n0 d0, .slice none 0 0, .slice none 0 0] := (r2).set 0 _
  have hb1 : Below w.heap.size w ((w1).setCell ⟨w.heap.size + 1 + 1, 0, none⟩ (.slice B0 n0 d0)) := (hbx0).setCell (by simp; try omega) _
  have hz1' : w.heap.size + 3 ≤ ((w1).setCell ⟨w.heap.size + 1 + 1, 0, none⟩ (.slice B0 n0 d0)).heap.size := by simpa using hz1
  have u0' : Sl FzR 2 (okF (w.heap.size + 3) ((w1).setCell ⟨w.heap.size + 1 + 1, 0, none⟩ (.slice B0 n0 d0))) ((w1).setCell ⟨w.heap.size + 1 + 1, 0, none⟩ (.slice B0 n0 d0)) B0 n0 x.live := (u0).setF FzR.stays (by simp) _
  clear ra r1 r2 hz1 u0 a_0_0 a_0_1 a_0_2 b_0_0 b_0_1 b_0_2 f_0_0 f_0_1 f_0_2
  generalize (w1).setCell ⟨w.heap.size + 1 + 1, 0, none⟩ (.slice B0 n0 d0) = x1 at *
  have ra := ra'
  have r1 := r1'
  have r2 := r2'
  have hz1 := hz1'
  have u0 := u0'
  clear ra' r1' r2' hz1' u0'
  refine (lawsToFileL A1 n1 c1 x.safe ok _ (h1.below FzR.stays hb1) HS1.out).mono ?_
  rintro e w2 ⟨B1, d1, rfl, hcp1, t1, hc1⟩
  have u1 := t1.stays FzR.stays (ok' := okF (w.heap.size + 3) w2) (fun b hb' => hb'.mono (by omega)) (fun p v _ hp => hp)
  clear t1
  have ra := ra.below hc1
  have r1 := r1.below hc1
  have r2 := r2.below hc1
  have hbx1 := hb1.trans (hc1.mono hb1.size)
  have hz2 : w.heap.size + 3 ≤ w2.heap.size := Nat.le_trans hz1 hc1.size
  have u0 := u0.belowF FzR.stays hc1
  obtain ⟨⟨a_1_0, a_1_1, a_1_2⟩, -⟩ := ra.three
  obtain ⟨⟨b_1_0, b_1_1, b_1_2⟩, ⟨f_1_0, f_1_1, f_1_2⟩⟩ := r2.three
  go_wp2_with fail
  have ra' : Row ((w2).setCell ⟨w.heap.size + 1 + 1, 1, none⟩ (.slice B1 n1 d1)) w.heap.size 50 #[.slice A0 n0 c0, .slice A1 n1 c1, .slice A2 n2 c2] := (ra).far (by simp; try omega) _
  have r1' : Row ((w2).setCell ⟨w.heap.size + 1 + 1, 1, none⟩ (.slice B1 n1 d1)) (w.heap.size + 1) 27 #[.slice none 0 0, .slice none 0 0, .slice none 0 0] := (r1).far (by simp) _
  have r2' : Row ((w2).setCell ⟨w.heap.size + 1 + 1, 1, none⟩ (.slice B1 n1 d1)) (w.heap.size + 1 + 1) 27 #[.slice B0 n0 d0, .slice B1 n1 d1, .slice none 0 0] := (r2).set 1 _
  have hb2 : Below w.heap.size w ((w2).setCell ⟨w.heap.size + 1 + 1, 1, none⟩ (.slice B1 n1 d1)) := (hbx1).setCell (by simp; try omega) _
  have hz2' : w.heap.size + 3 ≤ ((w2).setCell ⟨w.heap.size + 1 + 1, 1, none⟩ (.slice B1 n1 d1)).heap.size := by simpa using hz2
  have u0' : Sl FzR 2 (okF (w.heap.size + 3) ((w2).setCell ⟨w.heap.size + 1 + 1, 1, none⟩ (.slice B1 n1 d1))) ((w2).setCell ⟨w.heap.size + 1 + 1, 1, none⟩ (.slice B1 n1 d1)) B0 n0 x.live := (u0).setF FzR.stays (by simp) _
  have u1' : Sl FzR 2 (okF (w.heap.size + 3) ((w2).setCell ⟨w.heap.size + 1 + 1, 1, none⟩ (.slice B1 n1 d1))) ((w2).setCell ⟨w.heap.size + 1 + 1, 1, none⟩ (.slice B1 n1 d1)) B1 n1 x.safe := (u1).setF FzR.stays (by simp) _
  clear ra r1 r2 hz2 u0 u1 a_1_0 a_1_1 a_1_2 b_1_0 b_1_1 b_1_2 f_1_0 f_1_1 f_1_2
  generalize (w2).setCell ⟨w.heap.size + 1 + 1, 1, none⟩ (.slice B1 n1 d1) = x2 at *
  have ra := ra'
  have r1 := r1'
  have r2 := r2'
  have hz2 := hz2'
  have u0 := u0'
  have u1 := u1'
  clear ra' r1' r2' hz2' u0' u1'
  refine (lawsToDOpL A2 n2 c2 x.ops ok _ (h2.below OzR.stays hb2) HS2.out).mono ?_
  rintro e w3 ⟨B2, d2, rfl, hcp2, t2, hc2⟩
  have u2 := t2.stays OzR.stays (ok' := okF (w.heap.size + 3) w3) (fun b hb' => hb'.mono (by omega)) (fun p v _ hp => hp)
  clear t2
  have ra := ra.below hc2
  have r1 := r1.below hc2
  have r2 := r2.below hc2
  have hbx2 := hb2.trans (hc2.mono hb2.size)
  have hz3 : w.heap.size + 3 ≤ w3.heap.size := Nat.le_trans hz2 hc2.size
  have u0 := u0.belowF FzR.stays hc2
  have u1 := u1.belowF FzR.stays hc2
  obtain ⟨⟨a_2_0, a_2_1, a_2_2⟩, -⟩ := ra.three
  obtain ⟨⟨b_2_0, b_2_1, b_2_2⟩, ⟨f_2_0, f_2_1, f_2_2⟩⟩ := r2.three
  obtain ⟨⟨g_2_0, g_2_1, g_2_2⟩, ⟨k_2_0, k_2_1, k_2_2⟩⟩ := r1.three
  have rz : Row (((((w3).setCell ⟨w.heap.size + 1 + 1, 2, none⟩ (.slice B2 n2 d2)).setCell ⟨w.heap.size + 1, 0, none⟩ (.slice B0 n0 d0)).setCell ⟨w.heap.size + 1, 1, none⟩ (.slice B1 n1 d1)).setCell ⟨w.heap.size + 1, 2, none⟩ (.slice B2 n2 d2)) (w.heap.size + 1) 27 #[.slice B0 n0 d0, .slice B1 n1 d1, .slice B2 n2 d2] := ((((r1).far (by simp) _).set 0 _).set 1 _).set 2 _
  obtain ⟨⟨z0, z1, z2⟩, -⟩ := rz.three
  have y0 : Sl FzR 2 (okF (w.heap.size + 3) (((((w3).setCell ⟨w.heap.size + 1 + 1, 2, none⟩ (.slice B2 n2 d2)).setCell ⟨w.heap.size + 1, 0, none⟩ (.slice B0 n0 d0)).setCell ⟨w.heap.size + 1, 1, none⟩ (.slice B1 n1 d1)).setCell ⟨w.heap.size + 1, 2, none⟩ (.slice B2 n2 d2))) (((((w3).setCell ⟨w.heap.size + 1 + 1, 2, none⟩ (.slice B2 n2 d2)).setCell ⟨w.heap.size + 1, 0, none⟩ (.slice B0 n0 d0)).setCell ⟨w.heap.size + 1, 1, none⟩ (.slice B1 n1 d1)).setCell ⟨w.heap.size + 1, 2, none⟩ (.slice B2 n2 d2)) B0 n0 x.live := ((((u0).setF FzR.stays (by simp) _).setF FzR.stays (by simp) _).setF FzR.stays (by simp) _).setF FzR.stays (by simp) _
  have y1 : Sl FzR 2 (okF (w.heap.size + 3) (((((w3).setCell ⟨w.heap.size + 1 + 1, 2, none⟩ (.slice B2 n2 d2)).setCell ⟨w.heap.size + 1, 0, none⟩ (.slice B0 n0 d0)).setCell ⟨w.heap.size + 1, 1, none⟩ (.slice B1 n1 d1)).setCell ⟨w.heap.size + 1, 2, none⟩ (.slice B2 n2 d2))) (((((w3).setCell ⟨w.heap.size + 1 + 1, 2, none⟩ (.slice B2 n2 d2)).setCell ⟨w.heap.size + 1, 0, none⟩ (.slice B0 n0 d0)).setCell ⟨w.heap.size + 1, 1, none⟩ (.slice B1 n1 d1)).setCell ⟨w.heap.size + 1, 2, none⟩ (.slice B2 n2 d2)) B1 n1 x.safe := ((((u1).setF FzR.stays (by simp) _).setF FzR.stays (by simp) _).setF FzR.stays (by simp) _).setF FzR.stays (by simp) _
  have y2 : Sl OzR 4 (okF (w.heap.size + 3) (((((w3).setCell ⟨w.heap.size + 1 + 1, 2, none⟩ (.slice B2 n2 d2)).setCell ⟨w.heap.size + 1, 0, none⟩ (.slice B0 n0 d0)).setCell ⟨w.heap.size + 1, 1, none⟩ (.slice B1 n1 d1)).setCell ⟨w.heap.size + 1, 2, none⟩ (.slice B2 n2 d2))) (((((w3).setCell ⟨w.heap.size + 1 + 1, 2, none⟩ (.slice B2 n2 d2)).setCell ⟨w.heap.size + 1, 0, none⟩ (.slice B0 n0 d0)).setCell ⟨w.heap.size + 1, 1, none⟩ (.slice B1 n1 d1)).setCell ⟨w.heap.size + 1, 2, none⟩ (.slice B2 n2 d2)) B2 n2 x.ops := ((((u2).setF OzR.stays (by simp) _).setF OzR.stays (by simp) _).setF OzR.stays (by simp) _).setF OzR.stays (by simp) _
  have hbz : Below w.heap.size w (((((w3).setCell ⟨w.heap.size + 1 + 1, 2, none⟩ (.slice B2 n2 d2)).setCell ⟨w.heap.size + 1, 0, none⟩ (.slice B0 n0 d0)).setCell ⟨w.heap.size + 1, 1, none⟩ (.slice B1 n1 d1)).setCell ⟨w.heap.size + 1, 2, none⟩ (.slice B2 n2 d2)) := ((((hbx2).setCell (by simp; try omega) _).setCell (by simp; try omega) _).setCell (by simp; try omega) _).setCell (by simp; try omega) _
  clear ra r1 r2 rz
  go_wp2_with fail
  exact bodyPost_ret (v := .agg #[.slice B0 n0 d0, .slice B1 n1 d1, .slice B2 n2 d2]) (by simp [results, Try.results27, go_sem, z0, z1, z2]) rfl ⟨[.slice B0 n0 d0, .slice B1 n1 d1, .slice B2 n2 d2], rfl, ⟨_, _, _, _, _, _, _, _, _, rfl, y0.stays FzR.stays (fun b hb' => hb'.mono (by omega)) (fun p v _ hp => hp), y1.stays FzR.stays (fun b hb' => hb'.mono (by omega)) (fun p v _ hp => hp), y2.stays OzR.stays (fun b hb' => hb'.mono (by omega)) (fun p v _ hp => hp), ⟨hcp0, hcp1, hcp2⟩⟩, hbz⟩

theorem infoDiskT : (Try.prog.info? 27).map (fun i => (i.zero, i.size, i.bytes)) = some (some (.agg #[.slice none 0 0, .slice none 0 0, .slice none 0 0]), 3, 72) := by kernel_rfl

end Go.Proofs.Ytkinegapnknhiaa
