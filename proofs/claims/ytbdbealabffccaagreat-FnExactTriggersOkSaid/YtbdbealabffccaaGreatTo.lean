/-
  Contracts of what the exact laws do with tables and rows: their copies.
-/
import Derived.Test.YtbdbealabffccaaGreatTypes
import Derived.Deep.RegionHeld3
namespace Go.Proofs.YtbdbealabffccaaGreat
open Go.RowKit
set_option linter.unusedVariables false

theorem ne1 {g b : Nat} (h : g + 1 ≤ b) : b ≠ g := by omega
theorem ne3a {g b : Nat} (h : g + 3 ≤ b) : b ≠ g + 1 + 1 := by omega
theorem ne3b {g b : Nat} (h : g + 3 ≤ b) : b ≠ g + 1 := by omega
theorem Sl.set {α : Type} {R : Rd α} (hR : Stays R) {sz : Nat} {ok : Nat → Prop} {w : World} {A : Option Addr} {n : Nat} {ds : List α} (h : Sl R sz ok w A n ds) {p : Addr} (hp : ∀ b, ok b → b ≠ p.block) (v : Value) : Sl R sz ok (w.setCell p v) A n ds :=
  h.stays hR (fun _ h => h) fun q u hq hu => (World.cell?_of_block (w := w) (a := q) (Below.heap_setCell w p v q.block (hp _ hq))).trans hu
theorem LaidR.set {α : Type} {R : Rd α} (hR : Stays R) {sz : Nat} {ok : Nat → Prop} {w : World} {cs : Array Value} {k : Nat} {ds : List α} (h : LaidR R sz ok w cs k ds) {p : Addr} (hp : ∀ b, ok b → b ≠ p.block) (v : Value) : LaidR R sz ok (w.setCell p v) cs k ds :=
  h.stays hR fun q u hq hu => (World.cell?_of_block (w := w) (a := q) (Below.heap_setCell w p v q.block (hp _ hq))).trans hu
theorem Stays.set {α : Type} {R : Rd α} (hR : Stays R) {ok : Nat → Prop} {w : World} {cs : List Value} {d : α} (h : R ok w cs d) {p : Addr} (hp : ∀ b, ok b → b ≠ p.block) (v : Value) : R ok (w.setCell p v) cs d :=
  hR _ _ _ _ _ _ h (fun _ h => h) fun q u hq hu => (World.cell?_of_block (w := w) (a := q) (Below.heap_setCell w p v q.block (hp _ hq))).trans hu
/-- Blocks from G on that are there and may be written to. -/
def okF (G : Nat) (w : World) : Nat → Prop := fun b => G ≤ b ∧ b < w.heap.size ∧ ∀ off, w.frozen? ⟨b, off, none⟩ = false
theorem frozen_setCell (w : World) (p : Addr) (v : Value) (a : Addr) : (w.setCell p v).frozen? a = w.frozen? a := by
  unfold World.frozen? World.setCell
  by_cases e : p.block = a.block
  · simp only [Array.getElem?_modify, if_pos e]
    cases h : w.heap[a.block]? with
    | none => rfl
    | some o => cases o <;> rfl
  · simp only [Array.getElem?_modify, if_neg e]
theorem okF.mono {G G' : Nat} {w : World} {b : Nat} (h : okF G w b) (hG : G' ≤ G) : okF G' w b := ⟨Nat.le_trans hG h.1, h.2⟩
theorem okF.below {G : Nat} {w w' : World} (hb : Below w.heap.size w w') {b : Nat} (h : okF G w b) : okF G w' b :=
  ⟨h.1, Nat.lt_of_lt_of_le h.2.1 hb.size, fun off => (World.frozen?_of_block (w := w) (hb.block b h.2.1)).trans (h.2.2 off)⟩
theorem okF.set {G : Nat} {w : World} {b : Nat} (h : okF G w b) (p : Addr) (v : Value) : okF G (w.setCell p v) b :=
  ⟨h.1, by simpa [World.setCell] using h.2.1, fun off => (frozen_setCell w p v _).trans (h.2.2 off)⟩
theorem Sl.belowF {α : Type} {R : Rd α} (hR : Stays R) {sz G : Nat} {w w' : World} {A : Option Addr} {n : Nat} {ds : List α} (h : Sl R sz (okF G w) w A n ds) (hb : Below w.heap.size w w') : Sl R sz (okF G w') w' A n ds :=
  h.stays hR (fun _ h => h.below hb) fun p v _ hp => below_keep hb p v hp
theorem Sl.setF {α : Type} {R : Rd α} (hR : Stays R) {sz G : Nat} {w : World} {A : Option Addr} {n : Nat} {ds : List α} (h : Sl R sz (okF G w) w A n ds) {p : Addr} (hp : p.block < G) (v : Value) : Sl R sz (okF G (w.setCell p v)) (w.setCell p v) A n ds :=
  h.stays hR (fun _ h => h.set p v) fun q u hq hu => (World.cell?_of_block (w := w) (a := q) (Below.heap_setCell w p v q.block (by have := hq.1; omega))).trans hu
theorem LaidR.belowF {α : Type} {R : Rd α} (hR : Stays R) {sz G : Nat} {w w' : World} {cs : Array Value} {k : Nat} {ds : List α} (h : LaidR R sz (okF G w) w cs k ds) (hb : Below w.heap.size w w') : LaidR R sz (okF G w') w' cs k ds := fun i hi hlt => by
  obtain ⟨c, h1, h2, h3⟩ := h i hi hlt
  exact ⟨c, h1, hR _ _ _ _ _ _ h2 (fun _ h => h.below hb) (fun p v _ hp => below_keep hb p v hp), h3⟩
theorem LaidR.setF {α : Type} {R : Rd α} (hR : Stays R) {sz G : Nat} {w : World} {cs : Array Value} {k : Nat} {ds : List α} (h : LaidR R sz (okF G w) w cs k ds) {p : Addr} (hp : p.block < G) (v : Value) : LaidR R sz (okF G (w.setCell p v)) (w.setCell p v) cs k ds := fun i hi hlt => by
  obtain ⟨c, h1, h2, h3⟩ := h i hi hlt
  exact ⟨c, h1, hR _ _ _ _ _ _ h2 (fun _ h => h.set p v) (fun q u hq hu => (World.cell?_of_block (w := w) (a := q) (Below.heap_setCell w p v q.block (by have := hq.1; omega))).trans hu), h3⟩
/-- A slice that a call has made, in blocks of its own. -/
def MadeSl {α : Type} (R : Rd α) (sz n : Nat) (ds : List α) (w : World) (e : Ending) (w' : World) : Prop := ∃ A c, e = .returned (.slice A n c) ∧ n ≤ c ∧ Sl R sz (okF w.heap.size w') w' A n ds ∧ Below w.heap.size w w'
/-- A struct that a call has made, with what it leads to in blocks of its own. -/
def MadeR {α : Type} (R : Rd α) (d : α) (w : World) (e : Ending) (w' : World) : Prop := ∃ cs : List Value, e = .returned (.agg cs.toArray) ∧ R (okF w.heap.size w') w' cs d ∧ Below w.heap.size w w'

theorem hold1 (cs : Array Value) (k : Nat) (v0 : Value) : ∀ m, m < k * 1 → (cs.setIfInBounds (k) v0)[m]? = cs[m]? := by
  intro m hm
  simp only [Array.getElem?_setIfInBounds]
  rw [if_neg (by omega)]
theorem fresh1 (cs : Array Value) (k : Nat) (v0 : Value) (hs : k * 1 + 1 ≤ cs.size) : ∀ (j : Nat) (v : Value), [v0][j]? = some v → (cs.setIfInBounds (k) v0)[k * 1 + j]? = some v := by
  intro j v hj
  have hlt : j < 1 := by obtain ⟨h, _⟩ := List.getElem?_eq_some_iff.1 hj; simpa using h
  have : j = 0 := by omega
  rcases this with rfl <;> simp at hj <;> subst hj <;> simp [Array.getElem?_setIfInBounds] <;> omega

theorem hold2 (cs : Array Value) (k : Nat) (v0 v1 : Value) : ∀ m, m < k * 2 → ((cs.setIfInBounds (k * 2) v0).setIfInBounds (k * 2 + 1) v1)[m]? = cs[m]? := by
  intro m hm
  simp only [Array.getElem?_setIfInBounds, Array.size_setIfInBounds]
  rw [if_neg (by omega)]; rw [if_neg (by omega)]
theorem fresh2 (cs : Array Value) (k : Nat) (v0 v1 : Value) (hs : k * 2 + 2 ≤ cs.size) : ∀ (j : Nat) (v : Value), [v0, v1][j]? = some v → ((cs.setIfInBounds (k * 2) v0).setIfInBounds (k * 2 + 1) v1)[k * 2 + j]? = some v := by
  intro j v hj
  have hlt : j < 2 := by obtain ⟨h, _⟩ := List.getElem?_eq_some_iff.1 hj; simpa using h
  have : j = 0 ∨ j = 1 := by omega
  rcases this with rfl | rfl <;> simp at hj <;> subst hj <;> simp [Array.getElem?_setIfInBounds] <;> omega

theorem hold3 (cs : Array Value) (k : Nat) (v0 v1 v2 : Value) : ∀ m, m < k * 3 → (((cs.setIfInBounds (k * 3) v0).setIfInBounds (k * 3 + 1) v1).setIfInBounds (k * 3 + 2) v2)[m]? = cs[m]? := by
  intro m hm
  simp only [Array.getElem?_setIfInBounds, Array.size_setIfInBounds]
  rw [if_neg (by omega)]; rw [if_neg (by omega)]; rw [if_neg (by omega)]
theorem fresh3 (cs : Array Value) (k : Nat) (v0 v1 v2 : Value) (hs : k * 3 + 3 ≤ cs.size) : ∀ (j : Nat) (v : Value), [v0, v1, v2][j]? = some v → (((cs.setIfInBounds (k * 3) v0).setIfInBounds (k * 3 + 1) v1).setIfInBounds (k * 3 + 2) v2)[k * 3 + j]? = some v := by
  intro j v hj
  have hlt : j < 3 := by obtain ⟨h, _⟩ := List.getElem?_eq_some_iff.1 hj; simpa using h
  have : j = 0 ∨ j = 1 ∨ j = 2 := by omega
  rcases this with rfl | rfl | rfl <;> simp at hj <;> subst hj <;> simp [Array.getElem?_setIfInBounds] <;> omega

theorem hold5 (cs : Array Value) (k : Nat) (v0 v1 v2 v3 v4 : Value) : ∀ m, m < k * 5 → (((((cs.setIfInBounds (k * 5) v0).setIfInBounds (k * 5 + 1) v1).setIfInBounds (k * 5 + 2) v2).setIfInBounds (k * 5 + 3) v3).setIfInBounds (k * 5 + 4) v4)[m]? = cs[m]? := by
  intro m hm
  simp only [Array.getElem?_setIfInBounds, Array.size_setIfInBounds]
  rw [if_neg (by omega)]; rw [if_neg (by omega)]; rw [if_neg (by omega)]; rw [if_neg (by omega)]; rw [if_neg (by omega)]
theorem fresh5 (cs : Array Value) (k : Nat) (v0 v1 v2 v3 v4 : Value) (hs : k * 5 + 5 ≤ cs.size) : ∀ (j : Nat) (v : Value), [v0, v1, v2, v3, v4][j]? = some v → (((((cs.setIfInBounds (k * 5) v0).setIfInBounds (k * 5 + 1) v1).setIfInBounds (k * 5 + 2) v2).setIfInBounds (k * 5 + 3) v3).setIfInBounds (k * 5 + 4) v4)[k * 5 + j]? = some v := by
  intro j v hj
  have hlt : j < 5 := by obtain ⟨h, _⟩ := List.getElem?_eq_some_iff.1 hj; simpa using h
  have : j = 0 ∨ j = 1 ∨ j = 2 ∨ j = 3 ∨ j = 4 := by omega
  rcases this with rfl | rfl | rfl | rfl | rfl <;> simp at hj <;> subst hj <;> simp [Array.getElem?_setIfInBounds] <;> omega

theorem hold6 (cs : Array Value) (k : Nat) (v0 v1 v2 v3 v4 v5 : Value) : ∀ m, m < k * 6 → ((((((cs.setIfInBounds (k * 6) v0).setIfInBounds (k * 6 + 1) v1).setIfInBounds (k * 6 + 2) v2).setIfInBounds (k * 6 + 3) v3).setIfInBounds (k * 6 + 4) v4).setIfInBounds (k * 6 + 5) v5)[m]? = cs[m]? := by
  intro m hm
  simp only [Array.getElem?_setIfInBounds, Array.size_setIfInBounds]
  rw [if_neg (by omega)]; rw [if_neg (by omega)]; rw [if_neg (by omega)]; rw [if_neg (by omega)]; rw [if_neg (by omega)]; rw [if_neg (by omega)]
theorem fresh6 (cs : Array Value) (k : Nat) (v0 v1 v2 v3 v4 v5 : Value) (hs : k * 6 + 6 ≤ cs.size) : ∀ (j : Nat) (v : Value), [v0, v1, v2, v3, v4, v5][j]? = some v → ((((((cs.setIfInBounds (k * 6) v0).setIfInBounds (k * 6 + 1) v1).setIfInBounds (k * 6 + 2) v2).setIfInBounds (k * 6 + 3) v3).setIfInBounds (k * 6 + 4) v4).setIfInBounds (k * 6 + 5) v5)[k * 6 + j]? = some v := by
  intro j v hj
  have hlt : j < 6 := by obtain ⟨h, _⟩ := List.getElem?_eq_some_iff.1 hj; simpa using h
  have : j = 0 ∨ j = 1 ∨ j = 2 ∨ j = 3 ∨ j = 4 ∨ j = 5 := by omega
  rcases this with rfl | rfl | rfl | rfl | rfl | rfl <;> simp at hj <;> subst hj <;> simp [Array.getElem?_setIfInBounds] <;> omega

theorem infoIntT : (Tryz.prog.info? 2).map (fun i => (i.zero, i.size, i.bytes)) = some (some (.int .i64 0), 1, 8) := by kernel_rfl
set_option maxRecDepth 100000 in
set_option maxHeartbeats 1000000 in
theorem lawsToIntL (A : Option Addr) (n c : Nat) (l : List Int) (ok : Nat → Prop) (w : World) (h : Sl IntR 1 ok w A n l) (hs : l.length ≤ 1048576) :
    Calls Tryz.prog 27 #[.slice A n c] w (MadeSl IntR 1 n l w) := by
  obtain rfl : l.length = n := h.1
  have hn : l.length ≤ 1048576 := by exact hs
  have HS := Lib.hid hs
  clear hs
  have hmk := fun w => mk_rows (P := Tryz.prog) Tryz.underlying25 infoIntT (by omega) l.length hn w
  simp only [Nat.mul_one] at hmk
  simp only [Value.cells] at hmk
  go_enter Tryz.func27, Tryz.ntmps27
  go_wp2
  have row := Row.new w 2 (madeCells #[.int .i64 0] (l.length))
  have hb0 := (Below.refl w.heap.size w).alloc (Nat.le_refl _) (.cells (madeCells #[.int .i64 0] (l.length)) 2)
  have hsz := size_madeCells #[.int .i64 0] (l.length)
  have hx0 : (w.alloc (.cells (madeCells #[.int .i64 0] (l.length)) 2)).heap.size = w.heap.size + 1 := by simp
  generalize w.alloc (.cells (madeCells #[.int .i64 0] (l.length)) 2) = x at *
  generalize madeCells #[.int .i64 0] (l.length) = cs0 at *
  have HZ := Lib.hid hsz
  have HX0 := Lib.hid hx0
  clear hmk hsz hx0
  go_loopw [4] (fun i wr => ∃ (k : Nat) (cs : Array Value), k ≤ l.length ∧ i = .int .i64 k ∧ Row wr w.heap.size 2 cs ∧ Hid (cs.size = l.length * 1) ∧ Hid (LaidR IntR 1 (okF (w.heap.size + 1) wr) wr cs k l) ∧ Hid (w.heap.size + 1 ≤ wr.heap.size) ∧ Below w.heap.size w wr) (fun i _ => l.length - (intOf i).toNat)
  case atStart => exact ⟨0, cs0, by omega, rfl, row, Lib.hid (by rw [HZ.out]; exact (Nat.mul_one _).symm), Lib.hid (LaidR.zero _ _ _ _ _ _), Lib.hid (by rw [HX0.out]; exact Nat.le_refl _), hb0⟩
  case round =>
    obtain ⟨k, cs, hk, rfl, hrow, hcs, hlaid, hgw, hb⟩ := hrel
    by_cases hlt : k < l.length
    · obtain ⟨b, off, -, rfl, q0⟩ := IntR.at_ (h.below IntR.stays hb) hlt
      have hsz1 : k * 1 + 1 ≤ cs.size := by rw [hcs.out]; omega
      have q1 : wr.cell? ⟨w.heap.size, k, none⟩ = some (cs[k]?.getD undef) := by rw [hrow.cell, Array.getElem?_eq_getElem (by omega)]; rfl
      have f0 := hrow.free k
      have HR := Lib.hid hrow
      clear hrow
      go_wp2_with fail
      go_roundw
      case rel => exact ⟨k + 1, _, by omega, by go_num, HR.out.set _ _, Lib.hid (by simp [hcs.out]), Lib.hid (((hlaid.out.setF IntR.stays (by simp) _).more hlt rfl rfl (hold1 cs k _) (fresh1 cs k _ hsz1))), Lib.hid (by simpa using hgw.out), hb.setCell (by simp) _⟩
      case measure => simp [intOf]; omega
    · obtain rfl : k = l.length := by omega
      go_wp2
      go_ret
      exact ⟨_, _, rfl, Nat.le_refl _, (sl_of_laid (ok := okF w.heap.size _) hrow ⟨Nat.le_refl _, hgw.out, fun off => hrow.free off⟩ (fun i hi hlt' => by
        obtain ⟨c', h1, h2, h3⟩ := hlaid.out i hi hlt'
        exact ⟨c', h1, IntR.stays _ _ _ _ _ _ h2 (fun b hb' => hb'.mono (Nat.le_succ _)) (fun p v _ hp => hp), h3⟩) (Nat.le_refl _)), hb⟩

theorem infoTokT : (Tryz.prog.info? 117).map (fun i => (i.zero, i.size, i.bytes)) = some (some (.agg #[.int .i64 0, .int .i64 0, .int .i64 0, .int .i64 0, .string ⟨#[]⟩]), 5, 48) := by kernel_rfl
set_option maxRecDepth 100000 in
set_option maxHeartbeats 1000000 in
theorem lawsToTokL (A : Option Addr) (n c : Nat) (l : List Tk) (ok : Nat → Prop) (w : World) (h : Sl TkR 5 ok w A n l) (hs : szL (fun t : Tk => t.vs.size) l ≤ 1048576) :
    Calls Tryz.prog 26 #[.slice A n c] w (MadeSl TkR 5 n l w) := by
  obtain rfl : l.length = n := h.1
  have hn : l.length ≤ 1048576 := by unfold szL at hs; omega
  have HS := Lib.hid hs
  clear hs
  have hmk := fun w => mk_rows (P := Tryz.prog) Tryz.underlying34 infoTokT (by omega) l.length hn w
  go_enter Tryz.func26, Tryz.ntmps26
  go_wp2
  have row := Row.new w 117 (madeCells #[.int .i64 0, .int .i64 0, .int .i64 0, .int .i64 0, .string ⟨#[]⟩] (l.length * 5))
  have hb0 := (Below.refl w.heap.size w).alloc (Nat.le_refl _) (.cells (madeCells #[.int .i64 0, .int .i64 0, .int .i64 0, .int .i64 0, .string ⟨#[]⟩] (l.length * 5)) 117)
  have hsz := size_madeCells #[.int .i64 0, .int .i64 0, .int .i64 0, .int .i64 0, .string ⟨#[]⟩] (l.length * 5)
  have hx0 : (w.alloc (.cells (madeCells #[.int .i64 0, .int .i64 0, .int .i64 0, .int .i64 0, .string ⟨#[]⟩] (l.length * 5)) 117)).heap.size = w.heap.size + 1 := by simp
  generalize w.alloc (.cells (madeCells #[.int .i64 0, .int .i64 0, .int .i64 0, .int .i64 0, .string ⟨#[]⟩] (l.length * 5)) 117) = x at *
  generalize madeCells #[.int .i64 0, .int .i64 0, .int .i64 0, .int .i64 0, .string ⟨#[]⟩] (l.length * 5) = cs0 at *
  have HZ := Lib.hid hsz
  have HX0 := Lib.hid hx0
  clear hmk hsz hx0
  go_loopw [4] (fun i wr => ∃ (k : Nat) (cs : Array Value), k ≤ l.length ∧ i = .int .i64 k ∧ Row wr w.heap.size 117 cs ∧ Hid (cs.size = l.length * 5) ∧ Hid (LaidR TkR 5 (okF (w.heap.size + 1) wr) wr cs k l) ∧ Hid (w.heap.size + 1 ≤ wr.heap.size) ∧ Below w.heap.size w wr) (fun i _ => l.length - (intOf i).toNat)
  case atStart => exact ⟨0, cs0, by omega, rfl, row, Lib.hid (by rw [HZ.out]), Lib.hid (LaidR.zero _ _ _ _ _ _), Lib.hid (by rw [HX0.out]; exact Nat.le_refl _), hb0⟩
  case round =>
    obtain ⟨k, cs, hk, rfl, hrow, hcs, hlaid, hgw, hb⟩ := hrel
    by_cases hlt : k < l.length
    · obtain ⟨b, off, -, rfl, q0, q1, q2, q3, q4⟩ := TkR.at_ (h.below TkR.stays hb) hlt
      have hsz1 : k * 5 + 5 ≤ cs.size := by rw [hcs.out]; omega
      have hszk : l[k].vs.size ≤ 1048576 := by have := HS.out; have := sum_mem_le (fun t : Tk => t.vs.size) l k hlt; unfold szL at *; (try simp only at *); omega
      have HSK := Lib.hid hszk
      clear hszk
      go_wp2_with fail
      refine (lawsToTok l[k] _).mono ?_
      rintro e w1 ⟨rfl, hb1⟩
      have hrow1 := hrow.below hb1
      have hgw1 : w.heap.size + 1 ≤ w1.heap.size := Nat.le_trans hgw.out hb1.size
      have HGW := Lib.hid hgw1
      clear hgw1
      have hl1 := Lib.hid (hlaid.out.belowF TkR.stays hb1)
      have q : ∀ j, j < 5 → w1.cell? ⟨w.heap.size, k * 5 + j, none⟩ = some (cs[k * 5 + j]?.getD undef) := fun j hj => by
        rw [hrow1.cell, Array.getElem?_eq_getElem (by omega)]; rfl
      have z0 : w1.cell? ⟨w.heap.size, k * 5, none⟩ = some (cs[k * 5]?.getD undef) := q 0 (by omega)
      have z1 := q 1 (by omega)
      have z2 := q 2 (by omega)
      have z3 := q 3 (by omega)
      have z4 := q 4 (by omega)
      have f0 := hrow1.free (k * 5)
      have f1 := hrow1.free (k * 5 + 1)
      have f2 := hrow1.free (k * 5 + 2)
      have f3 := hrow1.free (k * 5 + 3)
      have f4 := hrow1.free (k * 5 + 4)
      clear q
      have HR := Lib.hid hrow1
      clear hrow1 hrow q0 q1 q2 q3 q4
      go_wp2_with fail
      go_roundw
      case rel =>
        exact ⟨k + 1, _, by omega, by go_num, (((((HR.out).set _ _).set _ _).set _ _).set _ _).set _ _, Lib.hid (by simp [hcs.out]), Lib.hid (((((((hl1.out).setF TkR.stays (by simp) _).setF TkR.stays (by simp) _).setF TkR.stays (by simp) _).setF TkR.stays (by simp) _).setF TkR.stays (by simp) _).more hlt (c := [.int .i64 l[k].k, .int .i64 l[k].c, .int .i64 l[k].vk, .int .i64 l[k].vn, .string l[k].vs]) rfl rfl (hold5 cs k _ _ _ _ _) (fresh5 cs k _ _ _ _ _ hsz1)), Lib.hid (by simpa using HGW.out), (((((hb.trans (hb1.mono hb.size)).setCell (by simp) _).setCell (by simp) _).setCell (by simp) _).setCell (by simp) _).setCell (by simp) _⟩
      case measure => simp [intOf]; omega
    · obtain rfl : k = l.length := by omega
      go_wp2
      go_ret
      exact ⟨_, _, rfl, Nat.le_refl _, (sl_of_laid (ok := okF w.heap.size _) hrow ⟨Nat.le_refl _, hgw.out, fun off => hrow.free off⟩ (fun i hi hlt' => by
        obtain ⟨c', h1, h2, h3⟩ := hlaid.out i hi hlt'
        exact ⟨c', h1, TkR.stays _ _ _ _ _ _ h2 (fun b hb' => hb'.mono (Nat.le_succ _)) (fun p v _ hp => hp), h3⟩) (Nat.le_refl _)), hb⟩

theorem infoValT : (Tryz.prog.info? 103).map (fun i => (i.zero, i.size, i.bytes)) = some (some (.agg #[.int .i64 0, .int .i64 0, .string ⟨#[]⟩]), 3, 32) := by kernel_rfl
set_option maxRecDepth 100000 in
set_option maxHeartbeats 1000000 in
theorem lawsToCol (x : Cl)  (ok : Nat → Prop) (w : World)  (hs : x.sz ≤ 1048576) :
    Calls Tryz.prog 83 #[.agg #[.string x.name, .int .i64 x.kind, .bool x.nn, .int .i64 x.d.k, .int .i64 x.d.n, .string x.d.s]] w fun e w' => e = .returned (.agg #[.string x.name, .int .i64 x.kind, .bool x.nn, .int .i64 x.d.k, .int .i64 x.d.n, .string x.d.s]) ∧ Below w.heap.size w w' := by
  clear hs
  have ra := ((Row.new w 134 #[.string x.name, .int .i64 x.kind, .bool x.nn, .int .i64 x.d.k, .int .i64 x.d.n, .string x.d.s]).alloc (.cells #[.string ⟨#[]⟩, .int .i64 0, .bool false, .int .i64 0, .int .i64 0, .string ⟨#[]⟩] 105)).alloc (.cells #[.string x.name, .int .i64 x.kind, .bool x.nn, .int .i64 0, .int .i64 0, .string ⟨#[]⟩] 105)
  have r1 := (Row.newAt (w.alloc (.cells #[.string x.name, .int .i64 x.kind, .bool x.nn, .int .i64 x.d.k, .int .i64 x.d.n, .string x.d.s] 134)) 105 #[.string ⟨#[]⟩, .int .i64 0, .bool false, .int .i64 0, .int .i64 0, .string ⟨#[]⟩] (w.heap.size + 1) (by simp)).alloc (.cells #[.string x.name, .int .i64 x.kind, .bool x.nn, .int .i64 0, .int .i64 0, .string ⟨#[]⟩] 105)
  have r2 := Row.newAt ((w.alloc (.cells #[.string x.name, .int .i64 x.kind, .bool x.nn, .int .i64 x.d.k, .int .i64 x.d.n, .string x.d.s] 134)).alloc (.cells #[.string ⟨#[]⟩, .int .i64 0, .bool false, .int .i64 0, .int .i64 0, .string ⟨#[]⟩] 105)) 105 #[.string x.name, .int .i64 x.kind, .bool x.nn, .int .i64 0, .int .i64 0, .string ⟨#[]⟩] (w.heap.size + 1 + 1) (by simp)
  have hb0 := ((((Below.refl w.heap.size w).alloc (Nat.le_refl _) (.cells #[.string x.name, .int .i64 x.kind, .bool x.nn, .int .i64 x.d.k, .int .i64 x.d.n, .string x.d.s] 134)).alloc (by simp) (.cells #[.string ⟨#[]⟩, .int .i64 0, .bool false, .int .i64 0, .int .i64 0, .string ⟨#[]⟩] 105)).alloc (by simp; omega) (.cells #[.string x.name, .int .i64 x.kind, .bool x.nn, .int .i64 0, .int .i64 0, .string ⟨#[]⟩] 105))
  have hz0 : w.heap.size + 3 ≤ (((w.alloc (.cells #[.string x.name, .int .i64 x.kind, .bool x.nn, .int .i64 x.d.k, .int .i64 x.d.n, .string x.d.s] 134)).alloc (.cells #[.string ⟨#[]⟩, .int .i64 0, .bool false, .int .i64 0, .int .i64 0, .string ⟨#[]⟩] 105)).alloc (.cells #[.string x.name, .int .i64 x.kind, .bool x.nn, .int .i64 0, .int .i64 0, .string ⟨#[]⟩] 105)).heap.size := by simp
  go_enter Tryz.func83, Tryz.ntmps83
  go_wp2_with fail
  generalize ((w.alloc (.cells #[.string x.name, .int .i64 x.kind, .bool x.nn, .int .i64 x.d.k, .int .i64 x.d.n, .string x.d.s] 134)).alloc (.cells #[.string ⟨#[]⟩, .int .i64 0, .bool false, .int .i64 0, .int .i64 0, .string ⟨#[]⟩] 105)).alloc (.cells #[.string x.name, .int .i64 x.kind, .bool x.nn, .int .i64 0, .int .i64 0, .string ⟨#[]⟩] 105) = x0 at *
  refine (lawsToVal _ _ _ _).mono ?_
  rintro e w1 ⟨rfl, hc0⟩
  have ra := ra.below hc0
  have r1 := r1.below hc0
  have r2 := r2.below hc0
  have hbx0 := hb0.trans (hc0.mono hb0.size)
  have hz1 : w.heap.size + 3 ≤ w1.heap.size := Nat.le_trans hz0 hc0.size
  obtain ⟨⟨a_0_0, a_0_1, a_0_2, a_0_3, a_0_4, a_0_5⟩, -⟩ := ra.all6
  obtain ⟨⟨b_0_0, b_0_1, b_0_2, b_0_3, b_0_4, b_0_5⟩, ⟨f_0_0, f_0_1, f_0_2, f_0_3, f_0_4, f_0_5⟩⟩ := r2.all6
  obtain ⟨⟨g_0_0, g_0_1, g_0_2, g_0_3, g_0_4, g_0_5⟩, ⟨k_0_0, k_0_1, k_0_2, k_0_3, k_0_4, k_0_5⟩⟩ := r1.all6
  have rz : Row ((((((((((w1).setCell ⟨w.heap.size + 1 + 1, 3, none⟩ (.int .i64 x.d.k)).setCell ⟨w.heap.size + 1 + 1, 4, none⟩ (.int .i64 x.d.n)).setCell ⟨w.heap.size + 1 + 1, 5, none⟩ (.string x.d.s)).setCell ⟨w.heap.size + 1, 0, none⟩ (.string x.name)).setCell ⟨w.heap.size + 1, 1, none⟩ (.int .i64 x.kind)).setCell ⟨w.heap.size + 1, 2, none⟩ (.bool x.nn)).setCell ⟨w.heap.size + 1, 3, none⟩ (.int .i64 x.d.k)).setCell ⟨w.heap.size + 1, 4, none⟩ (.int .i64 x.d.n)).setCell ⟨w.heap.size + 1, 5, none⟩ (.string x.d.s)) (w.heap.size + 1) 105 #[.string x.name, .int .i64 x.kind, .bool x.nn, .int .i64 x.d.k, .int .i64 x.d.n, .string x.d.s] := (((((((((r1).far (by simp) _).far (by simp) _).far (by simp) _).set 0 _).set 1 _).set 2 _).set 3 _).set 4 _).set 5 _
  obtain ⟨⟨z0, z1, z2, z3, z4, z5⟩, -⟩ := rz.all6
  have hbz : Below w.heap.size w ((((((((((w1).setCell ⟨w.heap.size + 1 + 1, 3, none⟩ (.int .i64 x.d.k)).setCell ⟨w.heap.size + 1 + 1, 4, none⟩ (.int .i64 x.d.n)).setCell ⟨w.heap.size + 1 + 1, 5, none⟩ (.string x.d.s)).setCell ⟨w.heap.size + 1, 0, none⟩ (.string x.name)).setCell ⟨w.heap.size + 1, 1, none⟩ (.int .i64 x.kind)).setCell ⟨w.heap.size + 1, 2, none⟩ (.bool x.nn)).setCell ⟨w.heap.size + 1, 3, none⟩ (.int .i64 x.d.k)).setCell ⟨w.heap.size + 1, 4, none⟩ (.int .i64 x.d.n)).setCell ⟨w.heap.size + 1, 5, none⟩ (.string x.d.s)) := (((((((((hbx0).setCell (by simp; try omega) _).setCell (by simp; try omega) _).setCell (by simp; try omega) _).setCell (by simp; try omega) _).setCell (by simp; try omega) _).setCell (by simp; try omega) _).setCell (by simp; try omega) _).setCell (by simp; try omega) _).setCell (by simp; try omega) _
  clear ra r1 r2 rz
  go_wp2_with fail
  exact bodyPost_ret (v := .agg #[.string x.name, .int .i64 x.kind, .bool x.nn, .int .i64 x.d.k, .int .i64 x.d.n, .string x.d.s]) (by simp [results, Tryz.results83, go_sem, z0, z1, z2, z3, z4, z5]) rfl ⟨rfl, hbz⟩

theorem infoColT : (Tryz.prog.info? 105).map (fun i => (i.zero, i.size, i.bytes)) = some (some (.agg #[.string ⟨#[]⟩, .int .i64 0, .bool false, .int .i64 0, .int .i64 0, .string ⟨#[]⟩]), 6, 64) := by kernel_rfl
set_option maxRecDepth 100000 in
set_option maxHeartbeats 1000000 in
theorem lawsToColL (A : Option Addr) (n c : Nat) (l : List Cl) (ok : Nat → Prop) (w : World) (h : Sl ClR 6 ok w A n l) (hs : szL Cl.sz l ≤ 1048576) :
    Calls Tryz.prog 53 #[.slice A n c] w (MadeSl ClR 6 n l w) := by
  obtain rfl : l.length = n := h.1
  have hn : l.length ≤ 1048576 := by unfold szL at hs; omega
  have HS := Lib.hid hs
  clear hs
  have hmk := fun w => mk_rows (P := Tryz.prog) Tryz.underlying59 infoColT (by omega) l.length hn w
  go_enter Tryz.func53, Tryz.ntmps53
  go_wp2
  have row := Row.new w 105 (madeCells #[.string ⟨#[]⟩, .int .i64 0, .bool false, .int .i64 0, .int .i64 0, .string ⟨#[]⟩] (l.length * 6))
  have hb0 := (Below.refl w.heap.size w).alloc (Nat.le_refl _) (.cells (madeCells #[.string ⟨#[]⟩, .int .i64 0, .bool false, .int .i64 0, .int .i64 0, .string ⟨#[]⟩] (l.length * 6)) 105)
  have hsz := size_madeCells #[.string ⟨#[]⟩, .int .i64 0, .bool false, .int .i64 0, .int .i64 0, .string ⟨#[]⟩] (l.length * 6)
  have hx0 : (w.alloc (.cells (madeCells #[.string ⟨#[]⟩, .int .i64 0, .bool false, .int .i64 0, .int .i64 0, .string ⟨#[]⟩] (l.length * 6)) 105)).heap.size = w.heap.size + 1 := by simp
  generalize w.alloc (.cells (madeCells #[.string ⟨#[]⟩, .int .i64 0, .bool false, .int .i64 0, .int .i64 0, .string ⟨#[]⟩] (l.length * 6)) 105) = x at *
  generalize madeCells #[.string ⟨#[]⟩, .int .i64 0, .bool false, .int .i64 0, .int .i64 0, .string ⟨#[]⟩] (l.length * 6) = cs0 at *
  have HZ := Lib.hid hsz
  have HX0 := Lib.hid hx0
  clear hmk hsz hx0
  go_loopw [4] (fun i wr => ∃ (k : Nat) (cs : Array Value), k ≤ l.length ∧ i = .int .i64 k ∧ Row wr w.heap.size 105 cs ∧ Hid (cs.size = l.length * 6) ∧ Hid (LaidR ClR 6 (okF (w.heap.size + 1) wr) wr cs k l) ∧ Hid (w.heap.size + 1 ≤ wr.heap.size) ∧ Below w.heap.size w wr) (fun i _ => l.length - (intOf i).toNat)
  case atStart => exact ⟨0, cs0, by omega, rfl, row, Lib.hid (by rw [HZ.out]), Lib.hid (LaidR.zero _ _ _ _ _ _), Lib.hid (by rw [HX0.out]; exact Nat.le_refl _), hb0⟩
  case round =>
    obtain ⟨k, cs, hk, rfl, hrow, hcs, hlaid, hgw, hb⟩ := hrel
    by_cases hlt : k < l.length
    · obtain ⟨b, off, -, rfl, q0, q1, q2, q3, q4, q5⟩ := ClR.at_ (h.below ClR.stays hb) hlt
      have hsz1 : k * 6 + 6 ≤ cs.size := by rw [hcs.out]; omega
      have hszk : l[k].sz ≤ 1048576 := by have := HS.out; have := sum_mem_le (Cl.sz) l k hlt; unfold szL at *; (try simp only at *); omega
      have HSK := Lib.hid hszk
      clear hszk
      go_wp2_with fail
      refine (lawsToCol l[k]  ok _  HSK.out).mono ?_
      rintro e w1 ⟨rfl, hb1⟩
      have hrow1 := hrow.below hb1
      have hgw1 : w.heap.size + 1 ≤ w1.heap.size := Nat.le_trans hgw.out hb1.size
      have HGW := Lib.hid hgw1
      clear hgw1
      have hl1 := Lib.hid (hlaid.out.belowF ClR.stays hb1)
      have q : ∀ j, j < 6 → w1.cell? ⟨w.heap.size, k * 6 + j, none⟩ = some (cs[k * 6 + j]?.getD undef) := fun j hj => by
        rw [hrow1.cell, Array.getElem?_eq_getElem (by omega)]; rfl
      have z0 : w1.cell? ⟨w.heap.size, k * 6, none⟩ = some (cs[k * 6]?.getD undef) := q 0 (by omega)
      have z1 := q 1 (by omega)
      have z2 := q 2 (by omega)
      have z3 := q 3 (by omega)
      have z4 := q 4 (by omega)
      have z5 := q 5 (by omega)
      have f0 := hrow1.free (k * 6)
      have f1 := hrow1.free (k * 6 + 1)
      have f2 := hrow1.free (k * 6 + 2)
      have f3 := hrow1.free (k * 6 + 3)
      have f4 := hrow1.free (k * 6 + 4)
      have f5 := hrow1.free (k * 6 + 5)
      clear q
      have HR := Lib.hid hrow1
      clear hrow1 hrow q0 q1 q2 q3 q4 q5
      go_wp2_with fail
      go_roundw
      case rel =>
        exact ⟨k + 1, _, by omega, by go_num, ((((((HR.out).set _ _).set _ _).set _ _).set _ _).set _ _).set _ _, Lib.hid (by simp [hcs.out]), Lib.hid ((((((((hl1.out).setF ClR.stays (by simp) _).setF ClR.stays (by simp) _).setF ClR.stays (by simp) _).setF ClR.stays (by simp) _).setF ClR.stays (by simp) _).setF ClR.stays (by simp) _).more hlt (c := [.string l[k].name, .int .i64 l[k].kind, .bool l[k].nn, .int .i64 l[k].d.k, .int .i64 l[k].d.n, .string l[k].d.s]) rfl rfl (hold6 cs k _ _ _ _ _ _) (fresh6 cs k _ _ _ _ _ _ hsz1)), Lib.hid (by simpa using HGW.out), ((((((hb.trans (hb1.mono hb.size)).setCell (by simp) _).setCell (by simp) _).setCell (by simp) _).setCell (by simp) _).setCell (by simp) _).setCell (by simp) _⟩
      case measure => simp [intOf]; omega
    · obtain rfl : k = l.length := by omega
      go_wp2
      go_ret
      exact ⟨_, _, rfl, Nat.le_refl _, (sl_of_laid (ok := okF w.heap.size _) hrow ⟨Nat.le_refl _, hgw.out, fun off => hrow.free off⟩ (fun i hi hlt' => by
        obtain ⟨c', h1, h2, h3⟩ := hlaid.out i hi hlt'
        exact ⟨c', h1, ClR.stays _ _ _ _ _ _ h2 (fun b hb' => hb'.mono (Nat.le_succ _)) (fun p v _ hp => hp), h3⟩) (Nat.le_refl _)), hb⟩

set_option maxRecDepth 100000 in
set_option maxHeartbeats 1000000 in
theorem lawsToUnique (x : Uq) (A0 : Option Addr) (n0 c0 : Nat) (ok : Nat → Prop) (w : World) (h0 : Sl IntR 1 ok w A0 n0 x.cols) (hs : x.sz ≤ 1048576) :
    Calls Tryz.prog 84 #[.agg #[.slice A0 n0 c0]] w (MadeR UqR x w) := by
  have hs0 : x.cols.length ≤ 1048576 := by have := hs; unfold Uq.sz at this; omega
  have HS0 := Lib.hid hs0
  clear hs0
  clear hs
  have ra := ((Row.new w 137 #[.slice A0 n0 c0]).alloc (.cells #[.slice none 0 0] 146)).alloc (.cells #[.slice none 0 0] 146)
  have r1 := (Row.newAt (w.alloc (.cells #[.slice A0 n0 c0] 137)) 146 #[.slice none 0 0] (w.heap.size + 1) (by simp)).alloc (.cells #[.slice none 0 0] 146)
  have r2 := Row.newAt ((w.alloc (.cells #[.slice A0 n0 c0] 137)).alloc (.cells #[.slice none 0 0] 146)) 146 #[.slice none 0 0] (w.heap.size + 1 + 1) (by simp)
  have hb0 := ((((Below.refl w.heap.size w).alloc (Nat.le_refl _) (.cells #[.slice A0 n0 c0] 137)).alloc (by simp) (.cells #[.slice none 0 0] 146)).alloc (by simp; omega) (.cells #[.slice none 0 0] 146))
  have hz0 : w.heap.size + 3 ≤ (((w.alloc (.cells #[.slice A0 n0 c0] 137)).alloc (.cells #[.slice none 0 0] 146)).alloc (.cells #[.slice none 0 0] 146)).heap.size := by simp
  go_enter Tryz.func84, Tryz.ntmps84
  go_wp2_with fail
  generalize ((w.alloc (.cells #[.slice A0 n0 c0] 137)).alloc (.cells #[.slice none 0 0] 146)).alloc (.cells #[.slice none 0 0] 146) = x0 at *
  refine (lawsToIntL A0 n0 c0 x.cols ok _ (h0.below IntR.stays hb0) HS0.out).mono ?_
  rintro e w1 ⟨B0, d0, rfl, hcp0, t0, hc0⟩
  have u0 := t0.stays IntR.stays (ok' := okF (w.heap.size + 3) w1) (fun b hb' => hb'.mono (by omega)) (fun p v _ hp => hp)
  clear t0
  have ra := ra.below hc0
  have r1 := r1.below hc0
  have r2 := r2.below hc0
  have hbx0 := hb0.trans (hc0.mono hb0.size)
  have hz1 : w.heap.size + 3 ≤ w1.heap.size := Nat.le_trans hz0 hc0.size
  obtain ⟨a_0_0, -⟩ := ra.all1
  obtain ⟨b_0_0, f_0_0⟩ := r2.all1
  obtain ⟨g_0_0, k_0_0⟩ := r1.all1
  have rz : Row (((w1).setCell ⟨w.heap.size + 1 + 1, 0, none⟩ (.slice B0 n0 d0)).setCell ⟨w.heap.size + 1, 0, none⟩ (.slice B0 n0 d0)) (w.heap.size + 1) 146 #[.slice B0 n0 d0] := ((r1).far (by simp) _).set 0 _
  obtain ⟨z0, -⟩ := rz.all1
  have y0 : Sl IntR 1 (okF (w.heap.size + 3) (((w1).setCell ⟨w.heap.size + 1 + 1, 0, none⟩ (.slice B0 n0 d0)).setCell ⟨w.heap.size + 1, 0, none⟩ (.slice B0 n0 d0))) (((w1).setCell ⟨w.heap.size + 1 + 1, 0, none⟩ (.slice B0 n0 d0)).setCell ⟨w.heap.size + 1, 0, none⟩ (.slice B0 n0 d0)) B0 n0 x.cols := ((u0).setF IntR.stays (by simp) _).setF IntR.stays (by simp) _
  have hbz : Below w.heap.size w (((w1).setCell ⟨w.heap.size + 1 + 1, 0, none⟩ (.slice B0 n0 d0)).setCell ⟨w.heap.size + 1, 0, none⟩ (.slice B0 n0 d0)) := ((hbx0).setCell (by simp; try omega) _).setCell (by simp; try omega) _
  clear ra r1 r2 rz
  go_wp2_with fail
  exact bodyPost_ret (v := .agg #[.slice B0 n0 d0]) (by simp [results, Tryz.results84, go_sem, z0]) rfl ⟨[.slice B0 n0 d0], rfl, ⟨_, _, _, rfl, y0.stays IntR.stays (fun b hb' => hb'.mono (by omega)) (fun p v _ hp => hp), hcp0⟩, hbz⟩

theorem infoUniqueT : (Tryz.prog.info? 146).map (fun i => (i.zero, i.size, i.bytes)) = some (some (.agg #[.slice none 0 0]), 1, 24) := by kernel_rfl
set_option maxRecDepth 100000 in
set_option maxHeartbeats 1000000 in
theorem lawsToUniqueL (A : Option Addr) (n c : Nat) (l : List Uq) (ok : Nat → Prop) (w : World) (h : Sl UqR 1 ok w A n l) (hs : szL Uq.sz l ≤ 1048576) :
    Calls Tryz.prog 54 #[.slice A n c] w (MadeSl UqR 1 n l w) := by
  obtain rfl : l.length = n := h.1
  have hn : l.length ≤ 1048576 := by unfold szL at hs; omega
  have HS := Lib.hid hs
  clear hs
  have hmk := fun w => mk_rows (P := Tryz.prog) Tryz.underlying60 infoUniqueT (by omega) l.length hn w
  simp only [Nat.mul_one] at hmk
  go_enter Tryz.func54, Tryz.ntmps54
  go_wp2
  have row := Row.new w 146 (madeCells #[.slice none 0 0] (l.length))
  have hb0 := (Below.refl w.heap.size w).alloc (Nat.le_refl _) (.cells (madeCells #[.slice none 0 0] (l.length)) 146)
  have hsz := size_madeCells #[.slice none 0 0] (l.length)
  have hx0 : (w.alloc (.cells (madeCells #[.slice none 0 0] (l.length)) 146)).heap.size = w.heap.size + 1 := by simp
  generalize w.alloc (.cells (madeCells #[.slice none 0 0] (l.length)) 146) = x at *
  generalize madeCells #[.slice none 0 0] (l.length) = cs0 at *
  have HZ := Lib.hid hsz
  have HX0 := Lib.hid hx0
  clear hmk hsz hx0
  go_loopw [4] (fun i wr => ∃ (k : Nat) (cs : Array Value), k ≤ l.length ∧ i = .int .i64 k ∧ Row wr w.heap.size 146 cs ∧ Hid (cs.size = l.length * 1) ∧ Hid (LaidR UqR 1 (okF (w.heap.size + 1) wr) wr cs k l) ∧ Hid (w.heap.size + 1 ≤ wr.heap.size) ∧ Below w.heap.size w wr) (fun i _ => l.length - (intOf i).toNat)
  case atStart => exact ⟨0, cs0, by omega, rfl, row, Lib.hid (by rw [HZ.out]; exact (Nat.mul_one _).symm), Lib.hid (LaidR.zero _ _ _ _ _ _), Lib.hid (by rw [HX0.out]; exact Nat.le_refl _), hb0⟩
  case round =>
    obtain ⟨k, cs, hk, rfl, hrow, hcs, hlaid, hgw, hb⟩ := hrel
    by_cases hlt : k < l.length
    · obtain ⟨b, off, A0, n0, c0, -, rfl, q0, s0, -⟩ := UqR.at_ (h.below UqR.stays hb) hlt
      have hsz1 : k * 1 + 1 ≤ cs.size := by rw [hcs.out]; omega
      have hszk : l[k].sz ≤ 1048576 := by have := HS.out; have := sum_mem_le (Uq.sz) l k hlt; unfold szL at *; (try simp only at *); omega
      have HSK := Lib.hid hszk
      clear hszk
      go_wp2_with fail
      refine (lawsToUnique l[k] A0 n0 c0 ok _ s0 HSK.out).mono ?_
      rintro e w1 ⟨cs', rfl, hR1, hb1⟩
      obtain ⟨B0, m0, d0, rfl, t0, hcp⟩ := hR1
      have hrow1 := hrow.below hb1
      have hgw1 : w.heap.size + 1 ≤ w1.heap.size := Nat.le_trans hgw.out hb1.size
      have HGW := Lib.hid hgw1
      clear hgw1
      have hl1 := Lib.hid (hlaid.out.belowF UqR.stays hb1)
      have q : ∀ j, j < 1 → w1.cell? ⟨w.heap.size, k + j, none⟩ = some (cs[k + j]?.getD undef) := fun j hj => by
        rw [hrow1.cell, Array.getElem?_eq_getElem (by omega)]; rfl
      have z0 : w1.cell? ⟨w.heap.size, k, none⟩ = some (cs[k]?.getD undef) := q 0 (by omega)
      have f0 := hrow1.free (k)
      clear q
      have HR := Lib.hid hrow1
      clear hrow1 hrow q0
      go_wp2_with fail
      go_roundw
      case rel =>
        have y0 := ((t0.stays IntR.stays (ok' := okF (w.heap.size + 1) w1) (fun b hb' => hb'.mono hgw.out) (fun p v _ hp => hp))).setF IntR.stays (p := ⟨w.heap.size, k, none⟩) (by simp) (.slice B0 m0 d0)
        exact ⟨k + 1, _, by omega, by go_num, (HR.out).set _ _, Lib.hid (by simp [hcs.out]), Lib.hid (((hl1.out).setF UqR.stays (by simp) _).more hlt (c := [.slice B0 m0 d0]) rfl ⟨_, _, _, rfl, y0, hcp⟩ (hold1 cs k _) (fresh1 cs k _ hsz1)), Lib.hid (by simpa using HGW.out), (hb.trans (hb1.mono hb.size)).setCell (by simp) _⟩
      case measure => simp [intOf]; omega
    · obtain rfl : k = l.length := by omega
      go_wp2
      go_ret
      exact ⟨_, _, rfl, Nat.le_refl _, (sl_of_laid (ok := okF w.heap.size _) hrow ⟨Nat.le_refl _, hgw.out, fun off => hrow.free off⟩ (fun i hi hlt' => by
        obtain ⟨c', h1, h2, h3⟩ := hlaid.out i hi hlt'
        exact ⟨c', h1, UqR.stays _ _ _ _ _ _ h2 (fun b hb' => hb'.mono (Nat.le_succ _)) (fun p v _ hp => hp), h3⟩) (Nat.le_refl _)), hb⟩

set_option maxRecDepth 100000 in
set_option maxHeartbeats 1000000 in
theorem lawsToCheck (x : Ck) (A0 : Option Addr) (n0 c0 : Nat) (ok : Nat → Prop) (w : World) (h0 : Sl TkR 5 ok w A0 n0 x.expr) (hs : x.sz ≤ 1048576) :
    Calls Tryz.prog 85 #[.agg #[.slice A0 n0 c0]] w (MadeR CkR x w) := by
  have hs0 : szL (fun t : Tk => t.vs.size) x.expr ≤ 1048576 := by have := hs; unfold Ck.sz at this; omega
  have HS0 := Lib.hid hs0
  clear hs0
  clear hs
  have ra := ((Row.new w 139 #[.slice A0 n0 c0]).alloc (.cells #[.slice none 0 0] 147)).alloc (.cells #[.slice none 0 0] 147)
  have r1 := (Row.newAt (w.alloc (.cells #[.slice A0 n0 c0] 139)) 147 #[.slice none 0 0] (w.heap.size + 1) (by simp)).alloc (.cells #[.slice none 0 0] 147)
  have r2 := Row.newAt ((w.alloc (.cells #[.slice A0 n0 c0] 139)).alloc (.cells #[.slice none 0 0] 147)) 147 #[.slice none 0 0] (w.heap.size + 1 + 1) (by simp)
  have hb0 := ((((Below.refl w.heap.size w).alloc (Nat.le_refl _) (.cells #[.slice A0 n0 c0] 139)).alloc (by simp) (.cells #[.slice none 0 0] 147)).alloc (by simp; omega) (.cells #[.slice none 0 0] 147))
  have hz0 : w.heap.size + 3 ≤ (((w.alloc (.cells #[.slice A0 n0 c0] 139)).alloc (.cells #[.slice none 0 0] 147)).alloc (.cells #[.slice none 0 0] 147)).heap.size := by simp
  go_enter Tryz.func85, Tryz.ntmps85
  go_wp2_with fail
  generalize ((w.alloc (.cells #[.slice A0 n0 c0] 139)).alloc (.cells #[.slice none 0 0] 147)).alloc (.cells #[.slice none 0 0] 147) = x0 at *
  refine (lawsToTokL A0 n0 c0 x.expr ok _ (h0.below TkR.stays hb0) HS0.out).mono ?_
  rintro e w1 ⟨B0, d0, rfl, hcp0, t0, hc0⟩
  have u0 := t0.stays TkR.stays (ok' := okF (w.heap.size + 3) w1) (fun b hb' => hb'.mono (by omega)) (fun p v _ hp => hp)
  clear t0
  have ra := ra.below hc0
  have r1 := r1.below hc0
  have r2 := r2.below hc0
  have hbx0 := hb0.trans (hc0.mono hb0.size)
  have hz1 : w.heap.size + 3 ≤ w1.heap.size := Nat.le_trans hz0 hc0.size
  obtain ⟨a_0_0, -⟩ := ra.all1
  obtain ⟨b_0_0, f_0_0⟩ := r2.all1
  obtain ⟨g_0_0, k_0_0⟩ := r1.all1
  have rz : Row (((w1).setCell ⟨w.heap.size + 1 + 1, 0, none⟩ (.slice B0 n0 d0)).setCell ⟨w.heap.size + 1, 0, none⟩ (.slice B0 n0 d0)) (w.heap.size + 1) 147 #[.slice B0 n0 d0] := ((r1).far (by simp) _).set 0 _
  obtain ⟨z0, -⟩ := rz.all1
  have y0 : Sl TkR 5 (okF (w.heap.size + 3) (((w1).setCell ⟨w.heap.size + 1 + 1, 0, none⟩ (.slice B0 n0 d0)).setCell ⟨w.heap.size + 1, 0, none⟩ (.slice B0 n0 d0))) (((w1).setCell ⟨w.heap.size + 1 + 1, 0, none⟩ (.slice B0 n0 d0)).setCell ⟨w.heap.size + 1, 0, none⟩ (.slice B0 n0 d0)) B0 n0 x.expr := ((u0).setF TkR.stays (by simp) _).setF TkR.stays (by simp) _
  have hbz : Below w.heap.size w (((w1).setCell ⟨w.heap.size + 1 + 1, 0, none⟩ (.slice B0 n0 d0)).setCell ⟨w.heap.size + 1, 0, none⟩ (.slice B0 n0 d0)) := ((hbx0).setCell (by simp; try omega) _).setCell (by simp; try omega) _
  clear ra r1 r2 rz
  go_wp2_with fail
  exact bodyPost_ret (v := .agg #[.slice B0 n0 d0]) (by simp [results, Tryz.results85, go_sem, z0]) rfl ⟨[.slice B0 n0 d0], rfl, ⟨_, _, _, rfl, y0.stays TkR.stays (fun b hb' => hb'.mono (by omega)) (fun p v _ hp => hp), hcp0⟩, hbz⟩

theorem infoCheckT : (Tryz.prog.info? 147).map (fun i => (i.zero, i.size, i.bytes)) = some (some (.agg #[.slice none 0 0]), 1, 24) := by kernel_rfl
set_option maxRecDepth 100000 in
set_option maxHeartbeats 1000000 in
theorem lawsToCheckL (A : Option Addr) (n c : Nat) (l : List Ck) (ok : Nat → Prop) (w : World) (h : Sl CkR 1 ok w A n l) (hs : szL Ck.sz l ≤ 1048576) :
    Calls Tryz.prog 55 #[.slice A n c] w (MadeSl CkR 1 n l w) := by
  obtain rfl : l.length = n := h.1
  have hn : l.length ≤ 1048576 := by unfold szL at hs; omega
  have HS := Lib.hid hs
  clear hs
  have hmk := fun w => mk_rows (P := Tryz.prog) Tryz.underlying61 infoCheckT (by omega) l.length hn w
  simp only [Nat.mul_one] at hmk
  go_enter Tryz.func55, Tryz.ntmps55
  go_wp2
  have row := Row.new w 147 (madeCells #[.slice none 0 0] (l.length))
  have hb0 := (Below.refl w.heap.size w).alloc (Nat.le_refl _) (.cells (madeCells #[.slice none 0 0] (l.length)) 147)
  have hsz := size_madeCells #[.slice none 0 0] (l.length)
  have hx0 : (w.alloc (.cells (madeCells #[.slice none 0 0] (l.length)) 147)).heap.size = w.heap.size + 1 := by simp
  generalize w.alloc (.cells (madeCells #[.slice none 0 0] (l.length)) 147) = x at *
  generalize madeCells #[.slice none 0 0] (l.length) = cs0 at *
  have HZ := Lib.hid hsz
  have HX0 := Lib.hid hx0
  clear hmk hsz hx0
  go_loopw [4] (fun i wr => ∃ (k : Nat) (cs : Array Value), k ≤ l.length ∧ i = .int .i64 k ∧ Row wr w.heap.size 147 cs ∧ Hid (cs.size = l.length * 1) ∧ Hid (LaidR CkR 1 (okF (w.heap.size + 1) wr) wr cs k l) ∧ Hid (w.heap.size + 1 ≤ wr.heap.size) ∧ Below w.heap.size w wr) (fun i _ => l.length - (intOf i).toNat)
  case atStart => exact ⟨0, cs0, by omega, rfl, row, Lib.hid (by rw [HZ.out]; exact (Nat.mul_one _).symm), Lib.hid (LaidR.zero _ _ _ _ _ _), Lib.hid (by rw [HX0.out]; exact Nat.le_refl _), hb0⟩
  case round =>
    obtain ⟨k, cs, hk, rfl, hrow, hcs, hlaid, hgw, hb⟩ := hrel
    by_cases hlt : k < l.length
    · obtain ⟨b, off, A0, n0, c0, -, rfl, q0, s0, -⟩ := CkR.at_ (h.below CkR.stays hb) hlt
      have hsz1 : k * 1 + 1 ≤ cs.size := by rw [hcs.out]; omega
      have hszk : l[k].sz ≤ 1048576 := by have := HS.out; have := sum_mem_le (Ck.sz) l k hlt; unfold szL at *; (try simp only at *); omega
      have HSK := Lib.hid hszk
      clear hszk
      go_wp2_with fail
      refine (lawsToCheck l[k] A0 n0 c0 ok _ s0 HSK.out).mono ?_
      rintro e w1 ⟨cs', rfl, hR1, hb1⟩
      obtain ⟨B0, m0, d0, rfl, t0, hcp⟩ := hR1
      have hrow1 := hrow.below hb1
      have hgw1 : w.heap.size + 1 ≤ w1.heap.size := Nat.le_trans hgw.out hb1.size
      have HGW := Lib.hid hgw1
      clear hgw1
      have hl1 := Lib.hid (hlaid.out.belowF CkR.stays hb1)
      have q : ∀ j, j < 1 → w1.cell? ⟨w.heap.size, k + j, none⟩ = some (cs[k + j]?.getD undef) := fun j hj => by
        rw [hrow1.cell, Array.getElem?_eq_getElem (by omega)]; rfl
      have z0 : w1.cell? ⟨w.heap.size, k, none⟩ = some (cs[k]?.getD undef) := q 0 (by omega)
      have f0 := hrow1.free (k)
      clear q
      have HR := Lib.hid hrow1
      clear hrow1 hrow q0
      go_wp2_with fail
      go_roundw
      case rel =>
        have y0 := ((t0.stays TkR.stays (ok' := okF (w.heap.size + 1) w1) (fun b hb' => hb'.mono hgw.out) (fun p v _ hp => hp))).setF TkR.stays (p := ⟨w.heap.size, k, none⟩) (by simp) (.slice B0 m0 d0)
        exact ⟨k + 1, _, by omega, by go_num, (HR.out).set _ _, Lib.hid (by simp [hcs.out]), Lib.hid (((hl1.out).setF CkR.stays (by simp) _).more hlt (c := [.slice B0 m0 d0]) rfl ⟨_, _, _, rfl, y0, hcp⟩ (hold1 cs k _) (fresh1 cs k _ hsz1)), Lib.hid (by simpa using HGW.out), (hb.trans (hb1.mono hb.size)).setCell (by simp) _⟩
      case measure => simp [intOf]; omega
    · obtain rfl : k = l.length := by omega
      go_wp2
      go_ret
      exact ⟨_, _, rfl, Nat.le_refl _, (sl_of_laid (ok := okF w.heap.size _) hrow ⟨Nat.le_refl _, hgw.out, fun off => hrow.free off⟩ (fun i hi hlt' => by
        obtain ⟨c', h1, h2, h3⟩ := hlaid.out i hi hlt'
        exact ⟨c', h1, CkR.stays _ _ _ _ _ _ h2 (fun b hb' => hb'.mono (Nat.le_succ _)) (fun p v _ hp => hp), h3⟩) (Nat.le_refl _)), hb⟩

set_option maxRecDepth 100000 in
set_option maxHeartbeats 1000000 in
theorem lawsToFk (x : Fk) (A0 : Option Addr) (n0 c0 : Nat) (ok : Nat → Prop) (w : World) (h0 : Sl IntR 1 ok w A0 n0 x.cols) (hs : x.sz ≤ 1048576) :
    Calls Tryz.prog 86 #[.agg #[.slice A0 n0 c0, .string x.table, .int .i64 x.del, .int .i64 x.upd, .bool x.dfr]] w (MadeR FkR x w) := by
  have hs0 : x.cols.length ≤ 1048576 := by have := hs; unfold Fk.sz at this; omega
  have HS0 := Lib.hid hs0
  clear hs0
  clear hs
  have ra := ((Row.new w 141 #[.slice A0 n0 c0, .string x.table, .int .i64 x.del, .int .i64 x.upd, .bool x.dfr]).alloc (.cells #[.slice none 0 0, .string ⟨#[]⟩, .int .i64 0, .int .i64 0, .bool false] 102)).alloc (.cells #[.slice none 0 0, .string ⟨#[]⟩, .int .i64 0, .int .i64 0, .bool false] 102)
  have r1 := (Row.newAt (w.alloc (.cells #[.slice A0 n0 c0, .string x.table, .int .i64 x.del, .int .i64 x.upd, .bool x.dfr] 141)) 102 #[.slice none 0 0, .string ⟨#[]⟩, .int .i64 0, .int .i64 0, .bool false] (w.heap.size + 1) (by simp)).alloc (.cells #[.slice none 0 0, .string ⟨#[]⟩, .int .i64 0, .int .i64 0, .bool false] 102)
  have r2 := Row.newAt ((w.alloc (.cells #[.slice A0 n0 c0, .string x.table, .int .i64 x.del, .int .i64 x.upd, .bool x.dfr] 141)).alloc (.cells #[.slice none 0 0, .string ⟨#[]⟩, .int .i64 0, .int .i64 0, .bool false] 102)) 102 #[.slice none 0 0, .string ⟨#[]⟩, .int .i64 0, .int .i64 0, .bool false] (w.heap.size + 1 + 1) (by simp)
  have hb0 := ((((Below.refl w.heap.size w).alloc (Nat.le_refl _) (.cells #[.slice A0 n0 c0, .string x.table, .int .i64 x.del, .int .i64 x.upd, .bool x.dfr] 141)).alloc (by simp) (.cells #[.slice none 0 0, .string ⟨#[]⟩, .int .i64 0, .int .i64 0, .bool false] 102)).alloc (by simp; omega) (.cells #[.slice none 0 0, .string ⟨#[]⟩, .int .i64 0, .int .i64 0, .bool false] 102))
  have hz0 : w.heap.size + 3 ≤ (((w.alloc (.cells #[.slice A0 n0 c0, .string x.table, .int .i64 x.del, .int .i64 x.upd, .bool x.dfr] 141)).alloc (.cells #[.slice none 0 0, .string ⟨#[]⟩, .int .i64 0, .int .i64 0, .bool false] 102)).alloc (.cells #[.slice none 0 0, .string ⟨#[]⟩, .int .i64 0, .int .i64 0, .bool false] 102)).heap.size := by simp
  go_enter Tryz.func86, Tryz.ntmps86
  go_wp2_with fail
  generalize ((w.alloc (.cells #[.slice A0 n0 c0, .string x.table, .int .i64 x.del, .int .i64 x.upd, .bool x.dfr] 141)).alloc (.cells #[.slice none 0 0, .string ⟨#[]⟩, .int .i64 0, .int .i64 0, .bool false] 102)).alloc (.cells #[.slice none 0 0, .string ⟨#[]⟩, .int .i64 0, .int .i64 0, .bool false] 102) = x0 at *
  refine (lawsToIntL A0 n0 c0 x.cols ok _ (h0.below IntR.stays hb0) HS0.out).mono ?_
  rintro e w1 ⟨B0, d0, rfl, hcp0, t0, hc0⟩
  have u0 := t0.stays IntR.stays (ok' := okF (w.heap.size + 3) w1) (fun b hb' => hb'.mono (by omega)) (fun p v _ hp => hp)
  clear t0
  have ra := ra.below hc0
  have r1 := r1.below hc0
  have r2 := r2.below hc0
  have hbx0 := hb0.trans (hc0.mono hb0.size)
  have hz1 : w.heap.size + 3 ≤ w1.heap.size := Nat.le_trans hz0 hc0.size
  obtain ⟨⟨a_0_0, a_0_1, a_0_2, a_0_3, a_0_4⟩, -⟩ := ra.five
  obtain ⟨⟨b_0_0, b_0_1, b_0_2, b_0_3, b_0_4⟩, ⟨f_0_0, f_0_1, f_0_2, f_0_3, f_0_4⟩⟩ := r2.five
  obtain ⟨⟨g_0_0, g_0_1, g_0_2, g_0_3, g_0_4⟩, ⟨k_0_0, k_0_1, k_0_2, k_0_3, k_0_4⟩⟩ := r1.five
  have rz : Row (((((((((((w1).setCell ⟨w.heap.size + 1 + 1, 0, none⟩ (.slice B0 n0 d0)).setCell ⟨w.heap.size + 1 + 1, 1, none⟩ (.string x.table)).setCell ⟨w.heap.size + 1 + 1, 2, none⟩ (.int .i64 x.del)).setCell ⟨w.heap.size + 1 + 1, 3, none⟩ (.int .i64 x.upd)).setCell ⟨w.heap.size + 1 + 1, 4, none⟩ (.bool x.dfr)).setCell ⟨w.heap.size + 1, 0, none⟩ (.slice B0 n0 d0)).setCell ⟨w.heap.size + 1, 1, none⟩ (.string x.table)).setCell ⟨w.heap.size + 1, 2, none⟩ (.int .i64 x.del)).setCell ⟨w.heap.size + 1, 3, none⟩ (.int .i64 x.upd)).setCell ⟨w.heap.size + 1, 4, none⟩ (.bool x.dfr)) (w.heap.size + 1) 102 #[.slice B0 n0 d0, .string x.table, .int .i64 x.del, .int .i64 x.upd, .bool x.dfr] := ((((((((((r1).far (by simp) _).far (by simp) _).far (by simp) _).far (by simp) _).far (by simp) _).set 0 _).set 1 _).set 2 _).set 3 _).set 4 _
  obtain ⟨⟨z0, z1, z2, z3, z4⟩, -⟩ := rz.five
  have y0 : Sl IntR 1 (okF (w.heap.size + 3) (((((((((((w1).setCell ⟨w.heap.size + 1 + 1, 0, none⟩ (.slice B0 n0 d0)).setCell ⟨w.heap.size + 1 + 1, 1, none⟩ (.string x.table)).setCell ⟨w.heap.size + 1 + 1, 2, none⟩ (.int .i64 x.del)).setCell ⟨w.heap.size + 1 + 1, 3, none⟩ (.int .i64 x.upd)).setCell ⟨w.heap.size + 1 + 1, 4, none⟩ (.bool x.dfr)).setCell ⟨w.heap.size + 1, 0, none⟩ (.slice B0 n0 d0)).setCell ⟨w.heap.size + 1, 1, none⟩ (.string x.table)).setCell ⟨w.heap.size + 1, 2, none⟩ (.int .i64 x.del)).setCell ⟨w.heap.size + 1, 3, none⟩ (.int .i64 x.upd)).setCell ⟨w.heap.size + 1, 4, none⟩ (.bool x.dfr))) (((((((((((w1).setCell ⟨w.heap.size + 1 + 1, 0, none⟩ (.slice B0 n0 d0)).setCell ⟨w.heap.size + 1 + 1, 1, none⟩ (.string x.table)).setCell ⟨w.heap.size + 1 + 1, 2, none⟩ (.int .i64 x.del)).setCell ⟨w.heap.size + 1 + 1, 3, none⟩ (.int .i64 x.upd)).setCell ⟨w.heap.size + 1 + 1, 4, none⟩ (.bool x.dfr)).setCell ⟨w.heap.size + 1, 0, none⟩ (.slice B0 n0 d0)).setCell ⟨w.heap.size + 1, 1, none⟩ (.string x.table)).setCell ⟨w.heap.size + 1, 2, none⟩ (.int .i64 x.del)).setCell ⟨w.heap.size + 1, 3, none⟩ (.int .i64 x.upd)).setCell ⟨w.heap.size + 1, 4, none⟩ (.bool x.dfr)) B0 n0 x.cols := ((((((((((u0).setF IntR.stays (by simp) _).setF IntR.stays (by simp) _).setF IntR.stays (by simp) _).setF IntR.stays (by simp) _).setF IntR.stays (by simp) _).setF IntR.stays (by simp) _).setF IntR.stays (by simp) _).setF IntR.stays (by simp) _).setF IntR.stays (by simp) _).setF IntR.stays (by simp) _
  have hbz : Below w.heap.size w (((((((((((w1).setCell ⟨w.heap.size + 1 + 1, 0, none⟩ (.slice B0 n0 d0)).setCell ⟨w.heap.size + 1 + 1, 1, none⟩ (.string x.table)).setCell ⟨w.heap.size + 1 + 1, 2, none⟩ (.int .i64 x.del)).setCell ⟨w.heap.size + 1 + 1, 3, none⟩ (.int .i64 x.upd)).setCell ⟨w.heap.size + 1 + 1, 4, none⟩ (.bool x.dfr)).setCell ⟨w.heap.size + 1, 0, none⟩ (.slice B0 n0 d0)).setCell ⟨w.heap.size + 1, 1, none⟩ (.string x.table)).setCell ⟨w.heap.size + 1, 2, none⟩ (.int .i64 x.del)).setCell ⟨w.heap.size + 1, 3, none⟩ (.int .i64 x.upd)).setCell ⟨w.heap.size + 1, 4, none⟩ (.bool x.dfr)) := ((((((((((hbx0).setCell (by simp; try omega) _).setCell (by simp; try omega) _).setCell (by simp; try omega) _).setCell (by simp; try omega) _).setCell (by simp; try omega) _).setCell (by simp; try omega) _).setCell (by simp; try omega) _).setCell (by simp; try omega) _).setCell (by simp; try omega) _).setCell (by simp; try omega) _
  clear ra r1 r2 rz
  go_wp2_with fail
  exact bodyPost_ret (v := .agg #[.slice B0 n0 d0, .string x.table, .int .i64 x.del, .int .i64 x.upd, .bool x.dfr]) (by simp [results, Tryz.results86, go_sem, z0, z1, z2, z3, z4]) rfl ⟨[.slice B0 n0 d0, .string x.table, .int .i64 x.del, .int .i64 x.upd, .bool x.dfr], rfl, ⟨_, _, _, rfl, y0.stays IntR.stays (fun b hb' => hb'.mono (by omega)) (fun p v _ hp => hp), hcp0⟩, hbz⟩

theorem infoFkT : (Tryz.prog.info? 102).map (fun i => (i.zero, i.size, i.bytes)) = some (some (.agg #[.slice none 0 0, .string ⟨#[]⟩, .int .i64 0, .int .i64 0, .bool false]), 5, 64) := by kernel_rfl
set_option maxRecDepth 100000 in
set_option maxHeartbeats 1000000 in
theorem lawsToFkL (A : Option Addr) (n c : Nat) (l : List Fk) (ok : Nat → Prop) (w : World) (h : Sl FkR 5 ok w A n l) (hs : szL Fk.sz l ≤ 1048576) :
    Calls Tryz.prog 56 #[.slice A n c] w (MadeSl FkR 5 n l w) := by
  obtain rfl : l.length = n := h.1
  have hn : l.length ≤ 1048576 := by unfold szL at hs; omega
  have HS := Lib.hid hs
  clear hs
  have hmk := fun w => mk_rows (P := Tryz.prog) Tryz.underlying62 infoFkT (by omega) l.length hn w
  go_enter Tryz.func56, Tryz.ntmps56
  go_wp2
  have row := Row.new w 102 (madeCells #[.slice none 0 0, .string ⟨#[]⟩, .int .i64 0, .int .i64 0, .bool false] (l.length * 5))
  have hb0 := (Below.refl w.heap.size w).alloc (Nat.le_refl _) (.cells (madeCells #[.slice none 0 0, .string ⟨#[]⟩, .int .i64 0, .int .i64 0, .bool false] (l.length * 5)) 102)
  have hsz := size_madeCells #[.slice none 0 0, .string ⟨#[]⟩, .int .i64 0, .int .i64 0, .bool false] (l.length * 5)
  have hx0 : (w.alloc (.cells (madeCells #[.slice none 0 0, .string ⟨#[]⟩, .int .i64 0, .int .i64 0, .bool false] (l.length * 5)) 102)).heap.size = w.heap.size + 1 := by simp
  generalize w.alloc (.cells (madeCells #[.slice none 0 0, .string ⟨#[]⟩, .int .i64 0, .int .i64 0, .bool false] (l.length * 5)) 102) = x at *
  generalize madeCells #[.slice none 0 0, .string ⟨#[]⟩, .int .i64 0, .int .i64 0, .bool false] (l.length * 5) = cs0 at *
  have HZ := Lib.hid hsz
  have HX0 := Lib.hid hx0
  clear hmk hsz hx0
  go_loopw [4] (fun i wr => ∃ (k : Nat) (cs : Array Value), k ≤ l.length ∧ i = .int .i64 k ∧ Row wr w.heap.size 102 cs ∧ Hid (cs.size = l.length * 5) ∧ Hid (LaidR FkR 5 (okF (w.heap.size + 1) wr) wr cs k l) ∧ Hid (w.heap.size + 1 ≤ wr.heap.size) ∧ Below w.heap.size w wr) (fun i _ => l.length - (intOf i).toNat)
  case atStart => exact ⟨0, cs0, by omega, rfl, row, Lib.hid (by rw [HZ.out]), Lib.hid (LaidR.zero _ _ _ _ _ _), Lib.hid (by rw [HX0.out]; exact Nat.le_refl _), hb0⟩
  case round =>
    obtain ⟨k, cs, hk, rfl, hrow, hcs, hlaid, hgw, hb⟩ := hrel
    by_cases hlt : k < l.length
    · obtain ⟨b, off, A0, n0, c0, -, rfl, q0, q1, q2, q3, q4, s0, -⟩ := FkR.at_ (h.below FkR.stays hb) hlt
      have hsz1 : k * 5 + 5 ≤ cs.size := by rw [hcs.out]; omega
      have hszk : l[k].sz ≤ 1048576 := by have := HS.out; have := sum_mem_le (Fk.sz) l k hlt; unfold szL at *; (try simp only at *); omega
      have HSK := Lib.hid hszk
      clear hszk
      go_wp2_with fail
      refine (lawsToFk l[k] A0 n0 c0 ok _ s0 HSK.out).mono ?_
      rintro e w1 ⟨cs', rfl, hR1, hb1⟩
      obtain ⟨B0, m0, d0, rfl, t0, hcp⟩ := hR1
      have hrow1 := hrow.below hb1
      have hgw1 : w.heap.size + 1 ≤ w1.heap.size := Nat.le_trans hgw.out hb1.size
      have HGW := Lib.hid hgw1
      clear hgw1
      have hl1 := Lib.hid (hlaid.out.belowF FkR.stays hb1)
      have q : ∀ j, j < 5 → w1.cell? ⟨w.heap.size, k * 5 + j, none⟩ = some (cs[k * 5 + j]?.getD undef) := fun j hj => by
        rw [hrow1.cell, Array.getElem?_eq_getElem (by omega)]; rfl
      have z0 : w1.cell? ⟨w.heap.size, k * 5, none⟩ = some (cs[k * 5]?.getD undef) := q 0 (by omega)
      have z1 := q 1 (by omega)
      have z2 := q 2 (by omega)
      have z3 := q 3 (by omega)
      have z4 := q 4 (by omega)
      have f0 := hrow1.free (k * 5)
      have f1 := hrow1.free (k * 5 + 1)
      have f2 := hrow1.free (k * 5 + 2)
      have f3 := hrow1.free (k * 5 + 3)
      have f4 := hrow1.free (k * 5 + 4)
      clear q
      have HR := Lib.hid hrow1
      clear hrow1 hrow q0 q1 q2 q3 q4
      go_wp2_with fail
      go_roundw
      case rel =>
        have y0 := ((((((t0.stays IntR.stays (ok' := okF (w.heap.size + 1) w1) (fun b hb' => hb'.mono hgw.out) (fun p v _ hp => hp))).setF IntR.stays (p := ⟨w.heap.size, k * 5, none⟩) (by simp) (.slice B0 m0 d0)).setF IntR.stays (p := ⟨w.heap.size, k * 5 + 1, none⟩) (by simp) (.string l[k].table)).setF IntR.stays (p := ⟨w.heap.size, k * 5 + 2, none⟩) (by simp) (.int .i64 l[k].del)).setF IntR.stays (p := ⟨w.heap.size, k * 5 + 3, none⟩) (by simp) (.int .i64 l[k].upd)).setF IntR.stays (p := ⟨w.heap.size, k * 5 + 4, none⟩) (by simp) (.bool l[k].dfr)
        exact ⟨k + 1, _, by omega, by go_num, (((((HR.out).set _ _).set _ _).set _ _).set _ _).set _ _, Lib.hid (by simp [hcs.out]), Lib.hid (((((((hl1.out).setF FkR.stays (by simp) _).setF FkR.stays (by simp) _).setF FkR.stays (by simp) _).setF FkR.stays (by simp) _).setF FkR.stays (by simp) _).more hlt (c := [.slice B0 m0 d0, .string l[k].table, .int .i64 l[k].del, .int .i64 l[k].upd, .bool l[k].dfr]) rfl ⟨_, _, _, rfl, y0, hcp⟩ (hold5 cs k _ _ _ _ _) (fresh5 cs k _ _ _ _ _ hsz1)), Lib.hid (by simpa using HGW.out), (((((hb.trans (hb1.mono hb.size)).setCell (by simp) _).setCell (by simp) _).setCell (by simp) _).setCell (by simp) _).setCell (by simp) _⟩
      case measure => simp [intOf]; omega
    · obtain rfl : k = l.length := by omega
      go_wp2
      go_ret
      exact ⟨_, _, rfl, Nat.le_refl _, (sl_of_laid (ok := okF w.heap.size _) hrow ⟨Nat.le_refl _, hgw.out, fun off => hrow.free off⟩ (fun i hi hlt' => by
        obtain ⟨c', h1, h2, h3⟩ := hlaid.out i hi hlt'
        exact ⟨c', h1, FkR.stays _ _ _ _ _ _ h2 (fun b hb' => hb'.mono (Nat.le_succ _)) (fun p v _ hp => hp), h3⟩) (Nat.le_refl _)), hb⟩

set_option maxRecDepth 100000 in
set_option maxHeartbeats 1000000 in
theorem lawsToTable (x : Tb) (A1 : Option Addr) (n1 c1 : Nat) (A2 : Option Addr) (n2 c2 : Nat) (A3 : Option Addr) (n3 c3 : Nat) (A4 : Option Addr) (n4 c4 : Nat) (A5 : Option Addr) (n5 c5 : Nat) (ok : Nat → Prop) (w : World) (h1 : Sl ClR 6 ok w A1 n1 x.cols) (h2 : Sl IntR 1 ok w A2 n2 x.key) (h3 : Sl UqR 1 ok w A3 n3 x.uniqs) (h4 : Sl CkR 1 ok w A4 n4 x.checks) (h5 : Sl FkR 5 ok w A5 n5 x.fks) (hs : x.sz ≤ 1048576) :
    Calls Tryz.prog 24 #[.agg #[.string x.name, .slice A1 n1 c1, .slice A2 n2 c2, .slice A3 n3 c3, .slice A4 n4 c4, .slice A5 n5 c5]] w (MadeR TbR x w) := by
  have hs1 : szL Cl.sz x.cols ≤ 1048576 := by have := hs; unfold Tb.sz at this; omega
  have HS1 := Lib.hid hs1
  clear hs1
  have hs2 : x.key.length ≤ 1048576 := by have := hs; unfold Tb.sz at this; omega
  have HS2 := Lib.hid hs2
  clear hs2
  have hs3 : szL Uq.sz x.uniqs ≤ 1048576 := by have := hs; unfold Tb.sz at this; omega
  have HS3 := Lib.hid hs3
  clear hs3
  have hs4 : szL Ck.sz x.checks ≤ 1048576 := by have := hs; unfold Tb.sz at this; omega
  have HS4 := Lib.hid hs4
  clear hs4
  have hs5 : szL Fk.sz x.fks ≤ 1048576 := by have := hs; unfold Tb.sz at this; omega
  have HS5 := Lib.hid hs5
  clear hs5
  clear hs
  have ra := ((Row.new w 54 #[.string x.name, .slice A1 n1 c1, .slice A2 n2 c2, .slice A3 n3 c3, .slice A4 n4 c4, .slice A5 n5 c5]).alloc (.cells #[.string ⟨#[]⟩, .slice none 0 0, .slice none 0 0, .slice none 0 0, .slice none 0 0, .slice none 0 0] 64)).alloc (.cells #[.string x.name, .slice none 0 0, .slice none 0 0, .slice none 0 0, .slice none 0 0, .slice none 0 0] 64)
  have r1 := (Row.newAt (w.alloc (.cells #[.string x.name, .slice A1 n1 c1, .slice A2 n2 c2, .slice A3 n3 c3, .slice A4 n4 c4, .slice A5 n5 c5] 54)) 64 #[.string ⟨#[]⟩, .slice none 0 0, .slice none 0 0, .slice none 0 0, .slice none 0 0, .slice none 0 0] (w.heap.size + 1) (by simp)).alloc (.cells #[.string x.name, .slice none 0 0, .slice none 0 0, .slice none 0 0, .slice none 0 0, .slice none 0 0] 64)
  have r2 := Row.newAt ((w.alloc (.cells #[.string x.name, .slice A1 n1 c1, .slice A2 n2 c2, .slice A3 n3 c3, .slice A4 n4 c4, .slice A5 n5 c5] 54)).alloc (.cells #[.string ⟨#[]⟩, .slice none 0 0, .slice none 0 0, .slice none 0 0, .slice none 0 0, .slice none 0 0] 64)) 64 #[.string x.name, .slice none 0 0, .slice none 0 0, .slice none 0 0, .slice none 0 0, .slice none 0 0] (w.heap.size + 1 + 1) (by simp)
  have hb0 := ((((Below.refl w.heap.size w).alloc (Nat.le_refl _) (.cells #[.string x.name, .slice A1 n1 c1, .slice A2 n2 c2, .slice A3 n3 c3, .slice A4 n4 c4, .slice A5 n5 c5] 54)).alloc (by simp) (.cells #[.string ⟨#[]⟩, .slice none 0 0, .slice none 0 0, .slice none 0 0, .slice none 0 0, .slice none 0 0] 64)).alloc (by simp; omega) (.cells #[.string x.name, .slice none 0 0, .slice none 0 0, .slice none 0 0, .slice none 0 0, .slice none 0 0] 64))
  have hz0 : w.heap.size + 3 ≤ (((w.alloc (.cells #[.string x.name, .slice A1 n1 c1, .slice A2 n2 c2, .slice A3 n3 c3, .slice A4 n4 c4, .slice A5 n5 c5] 54)).alloc (.cells #[.string ⟨#[]⟩, .slice none 0 0, .slice none 0 0, .slice none 0 0, .slice none 0 0, .slice none 0 0] 64)).alloc (.cells #[.string x.name, .slice none 0 0, .slice none 0 0, .slice none 0 0, .slice none 0 0, .slice none 0 0] 64)).heap.size := by simp
  go_enter Tryz.func24, Tryz.ntmps24
  go_wp2_with fail
  generalize ((w.alloc (.cells #[.string x.name, .slice A1 n1 c1, .slice A2 n2 c2, .slice A3 n3 c3, .slice A4 n4 c4, .slice A5 n5 c5] 54)).alloc (.cells #[.string ⟨#[]⟩, .slice none 0 0, .slice none 0 0, .slice none 0 0, .slice none 0 0, .slice none 0 0] 64)).alloc (.cells #[.string x.name, .slice none 0 0, .slice none 0 0, .slice none 0 0, .slice none 0 0, .slice none 0 0] 64) = x0 at *
  refine (lawsToColL A1 n1 c1 x.cols ok _ (h1.below ClR.stays hb0) HS1.out).mono ?_
  rintro e w1 ⟨B1, d1, rfl, hcp1, t1, hc0⟩
  have u1 := t1.stays ClR.stays (ok' := okF (w.heap.size + 3) w1) (fun b hb' => hb'.mono (by omega)) (fun p v _ hp => hp)
  clear t1
  have ra := ra.below hc0
  have r1 := r1.below hc0
  have r2 := r2.below hc0
  have hbx0 := hb0.trans (hc0.mono hb0.size)
  have hz1 : w.heap.size + 3 ≤ w1.heap.size := Nat.le_trans hz0 hc0.size
  obtain ⟨⟨a_0_0, a_0_1, a_0_2, a_0_3, a_0_4, a_0_5⟩, -⟩ := ra.all6
  obtain ⟨⟨b_0_0, b_0_1, b_0_2, b_0_3, b_0_4, b_0_5⟩, ⟨f_0_0, f_0_1, f_0_2, f_0_3, f_0_4, f_0_5⟩⟩ := r2.all6
  go_wp2_with fail
  have ra' : Row ((w1).setCell ⟨w.heap.size + 1 + 1, 1, none⟩ (.slice B1 n1 d1)) w.heap.size 54 #[.string x.name, .slice A1 n1 c1, .slice A2 n2 c2, .slice A3 n3 c3, .slice A4 n4 c4, .slice A5 n5 c5] := (ra).far (by simp; try omega) _
  have r1' : Row ((w1).setCell ⟨w.heap.size + 1 + 1, 1, none⟩ (.slice B1 n1 d1)) (w.heap.size + 1) 64 #[.string ⟨#[]⟩, .slice none 0 0, .slice none 0 0, .slice none 0 0, .slice none 0 0, .slice none 0 0] := (r1).far (by simp) _
  have r2' : Row ((w1).setCell ⟨w.heap.size + 1 + 1, 1, none⟩ (.slice B1 n1 d1)) (w.heap.size + 1 + 1) 64 #[.string x.name, .slice B1 n1 d1, .slice none 0 0, .slice none 0 0, .slice none 0 0, .slice none 0 0] := (r2).set 1 _
  have hb1 : Below w.heap.size w ((w1).setCell ⟨w.heap.size + 1 + 1, 1, none⟩ (.slice B1 n1 d1)) := (hbx0).setCell (by simp; try omega) _
  have hz1' : w.heap.size + 3 ≤ ((w1).setCell ⟨w.heap.size + 1 + 1, 1, none⟩ (.slice B1 n1 d1)).heap.size := by simpa using hz1
  have u1' : Sl ClR 6 (okF (w.heap.size + 3) ((w1).setCell ⟨w.heap.size + 1 + 1, 1, none⟩ (.slice B1 n1 d1))) ((w1).setCell ⟨w.heap.size + 1 + 1, 1, none⟩ (.slice B1 n1 d1)) B1 n1 x.cols := (u1).setF ClR.stays (by simp) _
  clear ra r1 r2 hz1 u1 a_0_0 a_0_1 a_0_2 a_0_3 a_0_4 a_0_5 b_0_0 b_0_1 b_0_2 b_0_3 b_0_4 b_0_5 f_0_0 f_0_1 f_0_2 f_0_3 f_0_4 f_0_5
  generalize (w1).setCell ⟨w.heap.size + 1 + 1, 1, none⟩ (.slice B1 n1 d1) = x1 at *
  have ra := ra'
  have r1 := r1'
  have r2 := r2'
  have hz1 := hz1'
  have u1 := u1'
  clear ra' r1' r2' hz1' u1'
  refine (lawsToIntL A2 n2 c2 x.key ok _ (h2.below IntR.stays hb1) HS2.out).mono ?_
  rintro e w2 ⟨B2, d2, rfl, hcp2, t2, hc1⟩
  have u2 := t2.stays IntR.stays (ok' := okF (w.heap.size + 3) w2) (fun b hb' => hb'.mono (by omega)) (fun p v _ hp => hp)
  clear t2
  have ra := ra.below hc1
  have r1 := r1.below hc1
  have r2 := r2.below hc1
  have hbx1 := hb1.trans (hc1.mono hb1.size)
  have hz2 : w.heap.size + 3 ≤ w2.heap.size := Nat.le_trans hz1 hc1.size
  have u1 := u1.belowF ClR.stays hc1
  obtain ⟨⟨a_1_0, a_1_1, a_1_2, a_1_3, a_1_4, a_1_5⟩, -⟩ := ra.all6
  obtain ⟨⟨b_1_0, b_1_1, b_1_2, b_1_3, b_1_4, b_1_5⟩, ⟨f_1_0, f_1_1, f_1_2, f_1_3, f_1_4, f_1_5⟩⟩ := r2.all6
  go_wp2_with fail
  have ra' : Row ((w2).setCell ⟨w.heap.size + 1 + 1, 2, none⟩ (.slice B2 n2 d2)) w.heap.size 54 #[.string x.name, .slice A1 n1 c1, .slice A2 n2 c2, .slice A3 n3 c3, .slice A4 n4 c4, .slice A5 n5 c5] := (ra).far (by simp; try omega) _
  have r1' : Row ((w2).setCell ⟨w.heap.size + 1 + 1, 2, none⟩ (.slice B2 n2 d2)) (w.heap.size + 1) 64 #[.string ⟨#[]⟩, .slice none 0 0, .slice none 0 0, .slice none 0 0, .slice none 0 0, .slice none 0 0] := (r1).far (by simp) _
  have r2' : Row ((w2).setCell ⟨w.heap.size + 1 + 1, 2, none⟩ (.slice B2 n2 d2)) (w.heap.size + 1 + 1) 64 #[.string x.name, .slice B1 n1 d1, .slice B2 n2 d2, .slice none 0 0, .slice none 0 0, .slice none 0 0] := (r2).set 2 _
  have hb2 : Below w.heap.size w ((w2).setCell ⟨w.heap.size + 1 + 1, 2, none⟩ (.slice B2 n2 d2)) := (hbx1).setCell (by simp; try omega) _
  have hz2' : w.heap.size + 3 ≤ ((w2).setCell ⟨w.heap.size + 1 + 1, 2, none⟩ (.slice B2 n2 d2)).heap.size := by simpa using hz2
  have u1' : Sl ClR 6 (okF (w.heap.size + 3) ((w2).setCell ⟨w.heap.size + 1 + 1, 2, none⟩ (.slice B2 n2 d2))) ((w2).setCell ⟨w.heap.size + 1 + 1, 2, none⟩ (.slice B2 n2 d2)) B1 n1 x.cols := (u1).setF ClR.stays (by simp) _
  have u2' : Sl IntR 1 (okF (w.heap.size + 3) ((w2).setCell ⟨w.heap.size + 1 + 1, 2, none⟩ (.slice B2 n2 d2))) ((w2).setCell ⟨w.heap.size + 1 + 1, 2, none⟩ (.slice B2 n2 d2)) B2 n2 x.key := (u2).setF IntR.stays (by simp) _
  clear ra r1 r2 hz2 u1 u2 a_1_0 a_1_1 a_1_2 a_1_3 a_1_4 a_1_5 b_1_0 b_1_1 b_1_2 b_1_3 b_1_4 b_1_5 f_1_0 f_1_1 f_1_2 f_1_3 f_1_4 f_1_5
  generalize (w2).setCell ⟨w.heap.size + 1 + 1, 2, none⟩ (.slice B2 n2 d2) = x2 at *
  have ra := ra'
  have r1 := r1'
  have r2 := r2'
  have hz2 := hz2'
  have u1 := u1'
  have u2 := u2'
  clear ra' r1' r2' hz2' u1' u2'
  refine (lawsToUniqueL A3 n3 c3 x.uniqs ok _ (h3.below UqR.stays hb2) HS3.out).mono ?_
  rintro e w3 ⟨B3, d3, rfl, hcp3, t3, hc2⟩
  have u3 := t3.stays UqR.stays (ok' := okF (w.heap.size + 3) w3) (fun b hb' => hb'.mono (by omega)) (fun p v _ hp => hp)
  clear t3
  have ra := ra.below hc2
  have r1 := r1.below hc2
  have r2 := r2.below hc2
  have hbx2 := hb2.trans (hc2.mono hb2.size)
  have hz3 : w.heap.size + 3 ≤ w3.heap.size := Nat.le_trans hz2 hc2.size
  have u1 := u1.belowF ClR.stays hc2
  have u2 := u2.belowF IntR.stays hc2
  obtain ⟨⟨a_2_0, a_2_1, a_2_2, a_2_3, a_2_4, a_2_5⟩, -⟩ := ra.all6
  obtain ⟨⟨b_2_0, b_2_1, b_2_2, b_2_3, b_2_4, b_2_5⟩, ⟨f_2_0, f_2_1, f_2_2, f_2_3, f_2_4, f_2_5⟩⟩ := r2.all6
  go_wp2_with fail
  have ra' : Row ((w3).setCell ⟨w.heap.size + 1 + 1, 3, none⟩ (.slice B3 n3 d3)) w.heap.size 54 #[.string x.name, .slice A1 n1 c1, .slice A2 n2 c2, .slice A3 n3 c3, .slice A4 n4 c4, .slice A5 n5 c5] := (ra).far (by simp; try omega) _
  have r1' : Row ((w3).setCell ⟨w.heap.size + 1 + 1, 3, none⟩ (.slice B3 n3 d3)) (w.heap.size + 1) 64 #[.string ⟨#[]⟩, .slice none 0 0, .slice none 0 0, .slice none 0 0, .slice none 0 0, .slice none 0 0] := (r1).far (by simp) _
  have r2' : Row ((w3).setCell ⟨w.heap.size + 1 + 1, 3, none⟩ (.slice B3 n3 d3)) (w.heap.size + 1 + 1) 64 #[.string x.name, .slice B1 n1 d1, .slice B2 n2 d2, .slice B3 n3 d3, .slice none 0 0, .slice none 0 0] := (r2).set 3 _
  have hb3 : Below w.heap.size w ((w3).setCell ⟨w.heap.size + 1 + 1, 3, none⟩ (.slice B3 n3 d3)) := (hbx2).setCell (by simp; try omega) _
  have hz3' : w.heap.size + 3 ≤ ((w3).setCell ⟨w.heap.size + 1 + 1, 3, none⟩ (.slice B3 n3 d3)).heap.size := by simpa using hz3
  have u1' : Sl ClR 6 (okF (w.heap.size + 3) ((w3).setCell ⟨w.heap.size + 1 + 1, 3, none⟩ (.slice B3 n3 d3))) ((w3).setCell ⟨w.heap.size + 1 + 1, 3, none⟩ (.slice B3 n3 d3)) B1 n1 x.cols := (u1).setF ClR.stays (by simp) _
  have u2' : Sl IntR 1 (okF (w.heap.size + 3) ((w3).setCell ⟨w.heap.size + 1 + 1, 3, none⟩ (.slice B3 n3 d3))) ((w3).setCell ⟨w.heap.size + 1 + 1, 3, none⟩ (.slice B3 n3 d3)) B2 n2 x.key := (u2).setF IntR.stays (by simp) _
  have u3' : Sl UqR 1 (okF (w.heap.size + 3) ((w3).setCell ⟨w.heap.size + 1 + 1, 3, none⟩ (.slice B3 n3 d3))) ((w3).setCell ⟨w.heap.size + 1 + 1, 3, none⟩ (.slice B3 n3 d3)) B3 n3 x.uniqs := (u3).setF UqR.stays (by simp) _
  clear ra r1 r2 hz3 u1 u2 u3 a_2_0 a_2_1 a_2_2 a_2_3 a_2_4 a_2_5 b_2_0 b_2_1 b_2_2 b_2_3 b_2_4 b_2_5 f_2_0 f_2_1 f_2_2 f_2_3 f_2_4 f_2_5
  generalize (w3).setCell ⟨w.heap.size + 1 + 1, 3, none⟩ (.slice B3 n3 d3) = x3 at *
  have ra := ra'
  have r1 := r1'
  have r2 := r2'
  have hz3 := hz3'
  have u1 := u1'
  have u2 := u2'
  have u3 := u3'
  clear ra' r1' r2' hz3' u1' u2' u3'
  refine (lawsToCheckL A4 n4 c4 x.checks ok _ (h4.below CkR.stays hb3) HS4.out).mono ?_
  rintro e w4 ⟨B4, d4, rfl, hcp4, t4, hc3⟩
  have u4 := t4.stays CkR.stays (ok' := okF (w.heap.size + 3) w4) (fun b hb' => hb'.mono (by omega)) (fun p v _ hp => hp)
  clear t4
  have ra := ra.below hc3
  have r1 := r1.below hc3
  have r2 := r2.below hc3
  have hbx3 := hb3.trans (hc3.mono hb3.size)
  have hz4 : w.heap.size + 3 ≤ w4.heap.size := Nat.le_trans hz3 hc3.size
  have u1 := u1.belowF ClR.stays hc3
  have u2 := u2.belowF IntR.stays hc3
  have u3 := u3.belowF UqR.stays hc3
  obtain ⟨⟨a_3_0, a_3_1, a_3_2, a_3_3, a_3_4, a_3_5⟩, -⟩ := ra.all6
  obtain ⟨⟨b_3_0, b_3_1, b_3_2, b_3_3, b_3_4, b_3_5⟩, ⟨f_3_0, f_3_1, f_3_2, f_3_3, f_3_4, f_3_5⟩⟩ := r2.all6
  go_wp2_with fail
  have ra' : Row ((w4).setCell ⟨w.heap.size + 1 + 1, 4, none⟩ (.slice B4 n4 d4)) w.heap.size 54 #[.string x.name, .slice A1 n1 c1, .slice A2 n2 c2, .slice A3 n3 c3, .slice A4 n4 c4, .slice A5 n5 c5] := (ra).far (by simp; try omega) _
  have r1' : Row ((w4).setCell ⟨w.heap.size + 1 + 1, 4, none⟩ (.slice B4 n4 d4)) (w.heap.size + 1) 64 #[.string ⟨#[]⟩, .slice none 0 0, .slice none 0 0, .slice none 0 0, .slice none 0 0, .slice none 0 0] := (r1).far (by simp) _
  have r2' : Row ((w4).setCell ⟨w.heap.size + 1 + 1, 4, none⟩ (.slice B4 n4 d4)) (w.heap.size + 1 + 1) 64 #[.string x.name, .slice B1 n1 d1, .slice B2 n2 d2, .slice B3 n3 d3, .slice B4 n4 d4, .slice none 0 0] := (r2).set 4 _
  have hb4 : Below w.heap.size w ((w4).setCell ⟨w.heap.size + 1 + 1, 4, none⟩ (.slice B4 n4 d4)) := (hbx3).setCell (by simp; try omega) _
  have hz4' : w.heap.size + 3 ≤ ((w4).setCell ⟨w.heap.size + 1 + 1, 4, none⟩ (.slice B4 n4 d4)).heap.size := by simpa using hz4
  have u1' : Sl ClR 6 (okF (w.heap.size + 3) ((w4).setCell ⟨w.heap.size + 1 + 1, 4, none⟩ (.slice B4 n4 d4))) ((w4).setCell ⟨w.heap.size + 1 + 1, 4, none⟩ (.slice B4 n4 d4)) B1 n1 x.cols := (u1).setF ClR.stays (by simp) _
  have u2' : Sl IntR 1 (okF (w.heap.size + 3) ((w4).setCell ⟨w.heap.size + 1 + 1, 4, none⟩ (.slice B4 n4 d4))) ((w4).setCell ⟨w.heap.size + 1 + 1, 4, none⟩ (.slice B4 n4 d4)) B2 n2 x.key := (u2).setF IntR.stays (by simp) _
  have u3' : Sl UqR 1 (okF (w.heap.size + 3) ((w4).setCell ⟨w.heap.size + 1 + 1, 4, none⟩ (.slice B4 n4 d4))) ((w4).setCell ⟨w.heap.size + 1 + 1, 4, none⟩ (.slice B4 n4 d4)) B3 n3 x.uniqs := (u3).setF UqR.stays (by simp) _
  have u4' : Sl CkR 1 (okF (w.heap.size + 3) ((w4).setCell ⟨w.heap.size + 1 + 1, 4, none⟩ (.slice B4 n4 d4))) ((w4).setCell ⟨w.heap.size + 1 + 1, 4, none⟩ (.slice B4 n4 d4)) B4 n4 x.checks := (u4).setF CkR.stays (by simp) _
  clear ra r1 r2 hz4 u1 u2 u3 u4 a_3_0 a_3_1 a_3_2 a_3_3 a_3_4 a_3_5 b_3_0 b_3_1 b_3_2 b_3_3 b_3_4 b_3_5 f_3_0 f_3_1 f_3_2 f_3_3 f_3_4 f_3_5
  generalize (w4).setCell ⟨w.heap.size + 1 + 1, 4, none⟩ (.slice B4 n4 d4) = x4 at *
  have ra := ra'
  have r1 := r1'
  have r2 := r2'
  have hz4 := hz4'
  have u1 := u1'
  have u2 := u2'
  have u3 := u3'
  have u4 := u4'
  clear ra' r1' r2' hz4' u1' u2' u3' u4'
  refine (lawsToFkL A5 n5 c5 x.fks ok _ (h5.below FkR.stays hb4) HS5.out).mono ?_
  rintro e w5 ⟨B5, d5, rfl, hcp5, t5, hc4⟩
  have u5 := t5.stays FkR.stays (ok' := okF (w.heap.size + 3) w5) (fun b hb' => hb'.mono (by omega)) (fun p v _ hp => hp)
  clear t5
  have ra := ra.below hc4
  have r1 := r1.below hc4
  have r2 := r2.below hc4
  have hbx4 := hb4.trans (hc4.mono hb4.size)
  have hz5 : w.heap.size + 3 ≤ w5.heap.size := Nat.le_trans hz4 hc4.size
  have u1 := u1.belowF ClR.stays hc4
  have u2 := u2.belowF IntR.stays hc4
  have u3 := u3.belowF UqR.stays hc4
  have u4 := u4.belowF CkR.stays hc4
  obtain ⟨⟨a_4_0, a_4_1, a_4_2, a_4_3, a_4_4, a_4_5⟩, -⟩ := ra.all6
  obtain ⟨⟨b_4_0, b_4_1, b_4_2, b_4_3, b_4_4, b_4_5⟩, ⟨f_4_0, f_4_1, f_4_2, f_4_3, f_4_4, f_4_5⟩⟩ := r2.all6
  obtain ⟨⟨g_4_0, g_4_1, g_4_2, g_4_3, g_4_4, g_4_5⟩, ⟨k_4_0, k_4_1, k_4_2, k_4_3, k_4_4, k_4_5⟩⟩ := r1.all6
  have rz : Row ((((((((w5).setCell ⟨w.heap.size + 1 + 1, 5, none⟩ (.slice B5 n5 d5)).setCell ⟨w.heap.size + 1, 0, none⟩ (.string x.name)).setCell ⟨w.heap.size + 1, 1, none⟩ (.slice B1 n1 d1)).setCell ⟨w.heap.size + 1, 2, none⟩ (.slice B2 n2 d2)).setCell ⟨w.heap.size + 1, 3, none⟩ (.slice B3 n3 d3)).setCell ⟨w.heap.size + 1, 4, none⟩ (.slice B4 n4 d4)).setCell ⟨w.heap.size + 1, 5, none⟩ (.slice B5 n5 d5)) (w.heap.size + 1) 64 #[.string x.name, .slice B1 n1 d1, .slice B2 n2 d2, .slice B3 n3 d3, .slice B4 n4 d4, .slice B5 n5 d5] := (((((((r1).far (by simp) _).set 0 _).set 1 _).set 2 _).set 3 _).set 4 _).set 5 _
  obtain ⟨⟨z0, z1, z2, z3, z4, z5⟩, -⟩ := rz.all6
  have y1 : Sl ClR 6 (okF (w.heap.size + 3) ((((((((w5).setCell ⟨w.heap.size + 1 + 1, 5, none⟩ (.slice B5 n5 d5)).setCell ⟨w.heap.size + 1, 0, none⟩ (.string x.name)).setCell ⟨w.heap.size + 1, 1, none⟩ (.slice B1 n1 d1)).setCell ⟨w.heap.size + 1, 2, none⟩ (.slice B2 n2 d2)).setCell ⟨w.heap.size + 1, 3, none⟩ (.slice B3 n3 d3)).setCell ⟨w.heap.size + 1, 4, none⟩ (.slice B4 n4 d4)).setCell ⟨w.heap.size + 1, 5, none⟩ (.slice B5 n5 d5))) ((((((((w5).setCell ⟨w.heap.size + 1 + 1, 5, none⟩ (.slice B5 n5 d5)).setCell ⟨w.heap.size + 1, 0, none⟩ (.string x.name)).setCell ⟨w.heap.size + 1, 1, none⟩ (.slice B1 n1 d1)).setCell ⟨w.heap.size + 1, 2, none⟩ (.slice B2 n2 d2)).setCell ⟨w.heap.size + 1, 3, none⟩ (.slice B3 n3 d3)).setCell ⟨w.heap.size + 1, 4, none⟩ (.slice B4 n4 d4)).setCell ⟨w.heap.size + 1, 5, none⟩ (.slice B5 n5 d5)) B1 n1 x.cols := (((((((u1).setF ClR.stays (by simp) _).setF ClR.stays (by simp) _).setF ClR.stays (by simp) _).setF ClR.stays (by simp) _).setF ClR.stays (by simp) _).setF ClR.stays (by simp) _).setF ClR.stays (by simp) _
  have y2 : Sl IntR 1 (okF (w.heap.size + 3) ((((((((w5).setCell ⟨w.heap.size + 1 + 1, 5, none⟩ (.slice B5 n5 d5)).setCell ⟨w.heap.size + 1, 0, none⟩ (.string x.name)).setCell ⟨w.heap.size + 1, 1, none⟩ (.slice B1 n1 d1)).setCell ⟨w.heap.size + 1, 2, none⟩ (.slice B2 n2 d2)).setCell ⟨w.heap.size + 1, 3, none⟩ (.slice B3 n3 d3)).setCell ⟨w.heap.size + 1, 4, none⟩ (.slice B4 n4 d4)).setCell ⟨w.heap.size + 1, 5, none⟩ (.slice B5 n5 d5))) ((((((((w5).setCell ⟨w.heap.size + 1 + 1, 5, none⟩ (.slice B5 n5 d5)).setCell ⟨w.heap.size + 1, 0, none⟩ (.string x.name)).setCell ⟨w.heap.size + 1, 1, none⟩ (.slice B1 n1 d1)).setCell ⟨w.heap.size + 1, 2, none⟩ (.slice B2 n2 d2)).setCell ⟨w.heap.size + 1, 3, none⟩ (.slice B3 n3 d3)).setCell ⟨w.heap.size + 1, 4, none⟩ (.slice B4 n4 d4)).setCell ⟨w.heap.size + 1, 5, none⟩ (.slice B5 n5 d5)) B2 n2 x.key := (((((((u2).setF IntR.stays (by simp) _).setF IntR.stays (by simp) _).setF IntR.stays (by simp) _).setF IntR.stays (by simp) _).setF IntR.stays (by simp) _).setF IntR.stays (by simp) _).setF IntR.stays (by simp) _
  have y3 : Sl UqR 1 (okF (w.heap.size + 3) ((((((((w5).setCell ⟨w.heap.size + 1 + 1, 5, none⟩ (.slice B5 n5 d5)).setCell ⟨w.heap.size + 1, 0, none⟩ (.string x.name)).setCell ⟨w.heap.size + 1, 1, none⟩ (.slice B1 n1 d1)).setCell ⟨w.heap.size + 1, 2, none⟩ (.slice B2 n2 d2)).setCell ⟨w.heap.size + 1, 3, none⟩ (.slice B3 n3 d3)).setCell ⟨w.heap.size + 1, 4, none⟩ (.slice B4 n4 d4)).setCell ⟨w.heap.size + 1, 5, none⟩ (.slice B5 n5 d5))) ((((((((w5).setCell ⟨w.heap.size + 1 + 1, 5, none⟩ (.slice B5 n5 d5)).setCell ⟨w.heap.size + 1, 0, none⟩ (.string x.name)).setCell ⟨w.heap.size + 1, 1, none⟩ (.slice B1 n1 d1)).setCell ⟨w.heap.size + 1, 2, none⟩ (.slice B2 n2 d2)).setCell ⟨w.heap.size + 1, 3, none⟩ (.slice B3 n3 d3)).setCell ⟨w.heap.size + 1, 4, none⟩ (.slice B4 n4 d4)).setCell ⟨w.heap.size + 1, 5, none⟩ (.slice B5 n5 d5)) B3 n3 x.uniqs := (((((((u3).setF UqR.stays (by simp) _).setF UqR.stays (by simp) _).setF UqR.stays (by simp) _).setF UqR.stays (by simp) _).setF UqR.stays (by simp) _).setF UqR.stays (by simp) _).setF UqR.stays (by simp) _
  have y4 : Sl CkR 1 (okF (w.heap.size + 3) ((((((((w5).setCell ⟨w.heap.size + 1 + 1, 5, none⟩ (.slice B5 n5 d5)).setCell ⟨w.heap.size + 1, 0, none⟩ (.string x.name)).setCell ⟨w.heap.size + 1, 1, none⟩ (.slice B1 n1 d1)).setCell ⟨w.heap.size + 1, 2, none⟩ (.slice B2 n2 d2)).setCell ⟨w.heap.size + 1, 3, none⟩ (.slice B3 n3 d3)).setCell ⟨w.heap.size + 1, 4, none⟩ (.slice B4 n4 d4)).setCell ⟨w.heap.size + 1, 5, none⟩ (.slice B5 n5 d5))) ((((((((w5).setCell ⟨w.heap.size + 1 + 1, 5, none⟩ (.slice B5 n5 d5)).setCell ⟨w.heap.size + 1, 0, none⟩ (.string x.name)).setCell ⟨w.heap.size + 1, 1, none⟩ (.slice B1 n1 d1)).setCell ⟨w.heap.size + 1, 2, none⟩ (.slice B2 n2 d2)).setCell ⟨w.heap.size + 1, 3, none⟩ (.slice B3 n3 d3)).setCell ⟨w.heap.size + 1, 4, none⟩ (.slice B4 n4 d4)).setCell ⟨w.heap.size + 1, 5, none⟩ (.slice B5 n5 d5)) B4 n4 x.checks := (((((((u4).setF CkR.stays (by simp) _).setF CkR.stays (by simp) _).setF CkR.stays (by simp) _).setF CkR.stays (by simp) _).setF CkR.stays (by simp) _).setF CkR.stays (by simp) _).setF CkR.stays (by simp) _
  have y5 : Sl FkR 5 (okF (w.heap.size + 3) ((((((((w5).setCell ⟨w.heap.size + 1 + 1, 5, none⟩ (.slice B5 n5 d5)).setCell ⟨w.heap.size + 1, 0, none⟩ (.string x.name)).setCell ⟨w.heap.size + 1, 1, none⟩ (.slice B1 n1 d1)).setCell ⟨w.heap.size + 1, 2, none⟩ (.slice B2 n2 d2)).setCell ⟨w.heap.size + 1, 3, none⟩ (.slice B3 n3 d3)).setCell ⟨w.heap.size + 1, 4, none⟩ (.slice B4 n4 d4)).setCell ⟨w.heap.size + 1, 5, none⟩ (.slice B5 n5 d5))) ((((((((w5).setCell ⟨w.heap.size + 1 + 1, 5, none⟩ (.slice B5 n5 d5)).setCell ⟨w.heap.size + 1, 0, none⟩ (.string x.name)).setCell ⟨w.heap.size + 1, 1, none⟩ (.slice B1 n1 d1)).setCell ⟨w.heap.size + 1, 2, none⟩ (.slice B2 n2 d2)).setCell ⟨w.heap.size + 1, 3, none⟩ (.slice B3 n3 d3)).setCell ⟨w.heap.size + 1, 4, none⟩ (.slice B4 n4 d4)).setCell ⟨w.heap.size + 1, 5, none⟩ (.slice B5 n5 d5)) B5 n5 x.fks := (((((((u5).setF FkR.stays (by simp) _).setF FkR.stays (by simp) _).setF FkR.stays (by simp) _).setF FkR.stays (by simp) _).setF FkR.stays (by simp) _).setF FkR.stays (by simp) _).setF FkR.stays (by simp) _
  have hbz : Below w.heap.size w ((((((((w5).setCell ⟨w.heap.size + 1 + 1, 5, none⟩ (.slice B5 n5 d5)).setCell ⟨w.heap.size + 1, 0, none⟩ (.string x.name)).setCell ⟨w.heap.size + 1, 1, none⟩ (.slice B1 n1 d1)).setCell ⟨w.heap.size + 1, 2, none⟩ (.slice B2 n2 d2)).setCell ⟨w.heap.size + 1, 3, none⟩ (.slice B3 n3 d3)).setCell ⟨w.heap.size + 1, 4, none⟩ (.slice B4 n4 d4)).setCell ⟨w.heap.size + 1, 5, none⟩ (.slice B5 n5 d5)) := (((((((hbx4).setCell (by simp; try omega) _).setCell (by simp; try omega) _).setCell (by simp; try omega) _).setCell (by simp; try omega) _).setCell (by simp; try omega) _).setCell (by simp; try omega) _).setCell (by simp; try omega) _
  clear ra r1 r2 rz
  go_wp2_with fail
  exact bodyPost_ret (v := .agg #[.string x.name, .slice B1 n1 d1, .slice B2 n2 d2, .slice B3 n3 d3, .slice B4 n4 d4, .slice B5 n5 d5]) (by simp [results, Tryz.results24, go_sem, z0, z1, z2, z3, z4, z5]) rfl ⟨[.string x.name, .slice B1 n1 d1, .slice B2 n2 d2, .slice B3 n3 d3, .slice B4 n4 d4, .slice B5 n5 d5], rfl, ⟨_, _, _, _, _, _, _, _, _, _, _, _, _, _, _, rfl, y1.stays ClR.stays (fun b hb' => hb'.mono (by omega)) (fun p v _ hp => hp), y2.stays IntR.stays (fun b hb' => hb'.mono (by omega)) (fun p v _ hp => hp), y3.stays UqR.stays (fun b hb' => hb'.mono (by omega)) (fun p v _ hp => hp), y4.stays CkR.stays (fun b hb' => hb'.mono (by omega)) (fun p v _ hp => hp), y5.stays FkR.stays (fun b hb' => hb'.mono (by omega)) (fun p v _ hp => hp), ⟨hcp1, hcp2, hcp3, hcp4, hcp5⟩⟩, hbz⟩

theorem infoTableT : (Tryz.prog.info? 64).map (fun i => (i.zero, i.size, i.bytes)) = some (some (.agg #[.string ⟨#[]⟩, .slice none 0 0, .slice none 0 0, .slice none 0 0, .slice none 0 0, .slice none 0 0]), 6, 136) := by kernel_rfl
set_option maxRecDepth 100000 in
set_option maxHeartbeats 1000000 in
theorem lawsToTableL (A : Option Addr) (n c : Nat) (l : List Tb) (ok : Nat → Prop) (w : World) (h : Sl TbR 6 ok w A n l) (hs : szL Tb.sz l ≤ 1048576) :
    Calls Tryz.prog 8 #[.slice A n c] w (MadeSl TbR 6 n l w) := by
  obtain rfl : l.length = n := h.1
  have hn : l.length ≤ 1048576 := by unfold szL at hs; omega
  have HS := Lib.hid hs
  clear hs
  have hmk := fun w => mk_rows (P := Tryz.prog) Tryz.underlying31 infoTableT (by omega) l.length hn w
  go_enter Tryz.func8, Tryz.ntmps8
  go_wp2
  have row := Row.new w 64 (madeCells #[.string ⟨#[]⟩, .slice none 0 0, .slice none 0 0, .slice none 0 0, .slice none 0 0, .slice none 0 0] (l.length * 6))
  have hb0 := (Below.refl w.heap.size w).alloc (Nat.le_refl _) (.cells (madeCells #[.string ⟨#[]⟩, .slice none 0 0, .slice none 0 0, .slice none 0 0, .slice none 0 0, .slice none 0 0] (l.length * 6)) 64)
  have hsz := size_madeCells #[.string ⟨#[]⟩, .slice none 0 0, .slice none 0 0, .slice none 0 0, .slice none 0 0, .slice none 0 0] (l.length * 6)
  have hx0 : (w.alloc (.cells (madeCells #[.string ⟨#[]⟩, .slice none 0 0, .slice none 0 0, .slice none 0 0, .slice none 0 0, .slice none 0 0] (l.length * 6)) 64)).heap.size = w.heap.size + 1 := by simp
  generalize w.alloc (.cells (madeCells #[.string ⟨#[]⟩, .slice none 0 0, .slice none 0 0, .slice none 0 0, .slice none 0 0, .slice none 0 0] (l.length * 6)) 64) = x at *
  generalize madeCells #[.string ⟨#[]⟩, .slice none 0 0, .slice none 0 0, .slice none 0 0, .slice none 0 0, .slice none 0 0] (l.length * 6) = cs0 at *
  have HZ := Lib.hid hsz
  have HX0 := Lib.hid hx0
  clear hmk hsz hx0
  go_loopw [4] (fun i wr => ∃ (k : Nat) (cs : Array Value), k ≤ l.length ∧ i = .int .i64 k ∧ Row wr w.heap.size 64 cs ∧ Hid (cs.size = l.length * 6) ∧ Hid (LaidR TbR 6 (okF (w.heap.size + 1) wr) wr cs k l) ∧ Hid (w.heap.size + 1 ≤ wr.heap.size) ∧ Below w.heap.size w wr) (fun i _ => l.length - (intOf i).toNat)
  case atStart => exact ⟨0, cs0, by omega, rfl, row, Lib.hid (by rw [HZ.out]), Lib.hid (LaidR.zero _ _ _ _ _ _), Lib.hid (by rw [HX0.out]; exact Nat.le_refl _), hb0⟩
  case round =>
    obtain ⟨k, cs, hk, rfl, hrow, hcs, hlaid, hgw, hb⟩ := hrel
    by_cases hlt : k < l.length
    · obtain ⟨b, off, A1, n1, c1, A2, n2, c2, A3, n3, c3, A4, n4, c4, A5, n5, c5, -, rfl, q0, q1, q2, q3, q4, q5, s1, s2, s3, s4, s5, -⟩ := TbR.at_ (h.below TbR.stays hb) hlt
      have hsz1 : k * 6 + 6 ≤ cs.size := by rw [hcs.out]; omega
      have hszk : l[k].sz ≤ 1048576 := by have := HS.out; have := sum_mem_le (Tb.sz) l k hlt; unfold szL at *; (try simp only at *); omega
      have HSK := Lib.hid hszk
      clear hszk
      go_wp2_with fail
      refine (lawsToTable l[k] A1 n1 c1 A2 n2 c2 A3 n3 c3 A4 n4 c4 A5 n5 c5 ok _ s1 s2 s3 s4 s5 HSK.out).mono ?_
      rintro e w1 ⟨cs', rfl, hR1, hb1⟩
      obtain ⟨B1, m1, d1, B2, m2, d2, B3, m3, d3, B4, m4, d4, B5, m5, d5, rfl, t1, t2, t3, t4, t5, hcp⟩ := hR1
      have hrow1 := hrow.below hb1
      have hgw1 : w.heap.size + 1 ≤ w1.heap.size := Nat.le_trans hgw.out hb1.size
      have HGW := Lib.hid hgw1
      clear hgw1
      have hl1 := Lib.hid (hlaid.out.belowF TbR.stays hb1)
      have q : ∀ j, j < 6 → w1.cell? ⟨w.heap.size, k * 6 + j, none⟩ = some (cs[k * 6 + j]?.getD undef) := fun j hj => by
        rw [hrow1.cell, Array.getElem?_eq_getElem (by omega)]; rfl
      have z0 : w1.cell? ⟨w.heap.size, k * 6, none⟩ = some (cs[k * 6]?.getD undef) := q 0 (by omega)
      have z1 := q 1 (by omega)
      have z2 := q 2 (by omega)
      have z3 := q 3 (by omega)
      have z4 := q 4 (by omega)
      have z5 := q 5 (by omega)
      have f0 := hrow1.free (k * 6)
      have f1 := hrow1.free (k * 6 + 1)
      have f2 := hrow1.free (k * 6 + 2)
      have f3 := hrow1.free (k * 6 + 3)
      have f4 := hrow1.free (k * 6 + 4)
      have f5 := hrow1.free (k * 6 + 5)
      clear q
      have HR := Lib.hid hrow1
      clear hrow1 hrow q0 q1 q2 q3 q4 q5
      go_wp2_with fail
      go_roundw
      case rel =>
        have y1 := (((((((t1.stays ClR.stays (ok' := okF (w.heap.size + 1) w1) (fun b hb' => hb'.mono hgw.out) (fun p v _ hp => hp))).setF ClR.stays (p := ⟨w.heap.size, k * 6, none⟩) (by simp) (.string l[k].name)).setF ClR.stays (p := ⟨w.heap.size, k * 6 + 1, none⟩) (by simp) (.slice B1 m1 d1)).setF ClR.stays (p := ⟨w.heap.size, k * 6 + 2, none⟩) (by simp) (.slice B2 m2 d2)).setF ClR.stays (p := ⟨w.heap.size, k * 6 + 3, none⟩) (by simp) (.slice B3 m3 d3)).setF ClR.stays (p := ⟨w.heap.size, k * 6 + 4, none⟩) (by simp) (.slice B4 m4 d4)).setF ClR.stays (p := ⟨w.heap.size, k * 6 + 5, none⟩) (by simp) (.slice B5 m5 d5)
        have y2 := (((((((t2.stays IntR.stays (ok' := okF (w.heap.size + 1) w1) (fun b hb' => hb'.mono hgw.out) (fun p v _ hp => hp))).setF IntR.stays (p := ⟨w.heap.size, k * 6, none⟩) (by simp) (.string l[k].name)).setF IntR.stays (p := ⟨w.heap.size, k * 6 + 1, none⟩) (by simp) (.slice B1 m1 d1)).setF IntR.stays (p := ⟨w.heap.size, k * 6 + 2, none⟩) (by simp) (.slice B2 m2 d2)).setF IntR.stays (p := ⟨w.heap.size, k * 6 + 3, none⟩) (by simp) (.slice B3 m3 d3)).setF IntR.stays (p := ⟨w.heap.size, k * 6 + 4, none⟩) (by simp) (.slice B4 m4 d4)).setF IntR.stays (p := ⟨w.heap.size, k * 6 + 5, none⟩) (by simp) (.slice B5 m5 d5)
        have y3 := (((((((t3.stays UqR.stays (ok' := okF (w.heap.size + 1) w1) (fun b hb' => hb'.mono hgw.out) (fun p v _ hp => hp))).setF UqR.stays (p := ⟨w.heap.size, k * 6, none⟩) (by simp) (.string l[k].name)).setF UqR.stays (p := ⟨w.heap.size, k * 6 + 1, none⟩) (by simp) (.slice B1 m1 d1)).setF UqR.stays (p := ⟨w.heap.size, k * 6 + 2, none⟩) (by simp) (.slice B2 m2 d2)).setF UqR.stays (p := ⟨w.heap.size, k * 6 + 3, none⟩) (by simp) (.slice B3 m3 d3)).setF UqR.stays (p := ⟨w.heap.size, k * 6 + 4, none⟩) (by simp) (.slice B4 m4 d4)).setF UqR.stays (p := ⟨w.heap.size, k * 6 + 5, none⟩) (by simp) (.slice B5 m5 d5)
        have y4 := (((((((t4.stays CkR.stays (ok' := okF (w.heap.size + 1) w1) (fun b hb' => hb'.mono hgw.out) (fun p v _ hp => hp))).setF CkR.stays (p := ⟨w.heap.size, k * 6, none⟩) (by simp) (.string l[k].name)).setF CkR.stays (p := ⟨w.heap.size, k * 6 + 1, none⟩) (by simp) (.slice B1 m1 d1)).setF CkR.stays (p := ⟨w.heap.size, k * 6 + 2, none⟩) (by simp) (.slice B2 m2 d2)).setF CkR.stays (p := ⟨w.heap.size, k * 6 + 3, none⟩) (by simp) (.slice B3 m3 d3)).setF CkR.stays (p := ⟨w.heap.size, k * 6 + 4, none⟩) (by simp) (.slice B4 m4 d4)).setF CkR.stays (p := ⟨w.heap.size, k * 6 + 5, none⟩) (by simp) (.slice B5 m5 d5)
        have y5 := (((((((t5.stays FkR.stays (ok' := okF (w.heap.size + 1) w1) (fun b hb' => hb'.mono hgw.out) (fun p v _ hp => hp))).setF FkR.stays (p := ⟨w.heap.size, k * 6, none⟩) (by simp) (.string l[k].name)).setF FkR.stays (p := ⟨w.heap.size, k * 6 + 1, none⟩) (by simp) (.slice B1 m1 d1)).setF FkR.stays (p := ⟨w.heap.size, k * 6 + 2, none⟩) (by simp) (.slice B2 m2 d2)).setF FkR.stays (p := ⟨w.heap.size, k * 6 + 3, none⟩) (by simp) (.slice B3 m3 d3)).setF FkR.stays (p := ⟨w.heap.size, k * 6 + 4, none⟩) (by simp) (.slice B4 m4 d4)).setF FkR.stays (p := ⟨w.heap.size, k * 6 + 5, none⟩) (by simp) (.slice B5 m5 d5)
        exact ⟨k + 1, _, by omega, by go_num, ((((((HR.out).set _ _).set _ _).set _ _).set _ _).set _ _).set _ _, Lib.hid (by simp [hcs.out]), Lib.hid ((((((((hl1.out).setF TbR.stays (by simp) _).setF TbR.stays (by simp) _).setF TbR.stays (by simp) _).setF TbR.stays (by simp) _).setF TbR.stays (by simp) _).setF TbR.stays (by simp) _).more hlt (c := [.string l[k].name, .slice B1 m1 d1, .slice B2 m2 d2, .slice B3 m3 d3, .slice B4 m4 d4, .slice B5 m5 d5]) rfl ⟨_, _, _, _, _, _, _, _, _, _, _, _, _, _, _, rfl, y1, y2, y3, y4, y5, hcp⟩ (hold6 cs k _ _ _ _ _ _) (fresh6 cs k _ _ _ _ _ _ hsz1)), Lib.hid (by simpa using HGW.out), ((((((hb.trans (hb1.mono hb.size)).setCell (by simp) _).setCell (by simp) _).setCell (by simp) _).setCell (by simp) _).setCell (by simp) _).setCell (by simp) _⟩
      case measure => simp [intOf]; omega
    · obtain rfl : k = l.length := by omega
      go_wp2
      go_ret
      exact ⟨_, _, rfl, Nat.le_refl _, (sl_of_laid (ok := okF w.heap.size _) hrow ⟨Nat.le_refl _, hgw.out, fun off => hrow.free off⟩ (fun i hi hlt' => by
        obtain ⟨c', h1, h2, h3⟩ := hlaid.out i hi hlt'
        exact ⟨c', h1, TbR.stays _ _ _ _ _ _ h2 (fun b hb' => hb'.mono (Nat.le_succ _)) (fun p v _ hp => hp), h3⟩) (Nat.le_refl _)), hb⟩

set_option maxRecDepth 100000 in
set_option maxHeartbeats 1000000 in
theorem lawsToTerm (x : Te) (A0 : Option Addr) (n0 c0 : Nat) (ok : Nat → Prop) (w : World) (h0 : Sl TkR 5 ok w A0 n0 x.expr) (hs : x.sz ≤ 1048576) :
    Calls Tryz.prog 57 #[.agg #[.slice A0 n0 c0]] w (MadeR TeR x w) := by
  have hs0 : szL (fun t : Tk => t.vs.size) x.expr ≤ 1048576 := by have := hs; unfold Te.sz at this; omega
  have HS0 := Lib.hid hs0
  clear hs0
  clear hs
  have ra := ((Row.new w 94 #[.slice A0 n0 c0]).alloc (.cells #[.slice none 0 0] 109)).alloc (.cells #[.slice none 0 0] 109)
  have r1 := (Row.newAt (w.alloc (.cells #[.slice A0 n0 c0] 94)) 109 #[.slice none 0 0] (w.heap.size + 1) (by simp)).alloc (.cells #[.slice none 0 0] 109)
  have r2 := Row.newAt ((w.alloc (.cells #[.slice A0 n0 c0] 94)).alloc (.cells #[.slice none 0 0] 109)) 109 #[.slice none 0 0] (w.heap.size + 1 + 1) (by simp)
  have hb0 := ((((Below.refl w.heap.size w).alloc (Nat.le_refl _) (.cells #[.slice A0 n0 c0] 94)).alloc (by simp) (.cells #[.slice none 0 0] 109)).alloc (by simp; omega) (.cells #[.slice none 0 0] 109))
  have hz0 : w.heap.size + 3 ≤ (((w.alloc (.cells #[.slice A0 n0 c0] 94)).alloc (.cells #[.slice none 0 0] 109)).alloc (.cells #[.slice none 0 0] 109)).heap.size := by simp
  go_enter Tryz.func57, Tryz.ntmps57
  go_wp2_with fail
  generalize ((w.alloc (.cells #[.slice A0 n0 c0] 94)).alloc (.cells #[.slice none 0 0] 109)).alloc (.cells #[.slice none 0 0] 109) = x0 at *
  refine (lawsToTokL A0 n0 c0 x.expr ok _ (h0.below TkR.stays hb0) HS0.out).mono ?_
  rintro e w1 ⟨B0, d0, rfl, hcp0, t0, hc0⟩
  have u0 := t0.stays TkR.stays (ok' := okF (w.heap.size + 3) w1) (fun b hb' => hb'.mono (by omega)) (fun p v _ hp => hp)
  clear t0
  have ra := ra.below hc0
  have r1 := r1.below hc0
  have r2 := r2.below hc0
  have hbx0 := hb0.trans (hc0.mono hb0.size)
  have hz1 : w.heap.size + 3 ≤ w1.heap.size := Nat.le_trans hz0 hc0.size
  obtain ⟨a_0_0, -⟩ := ra.all1
  obtain ⟨b_0_0, f_0_0⟩ := r2.all1
  obtain ⟨g_0_0, k_0_0⟩ := r1.all1
  have rz : Row (((w1).setCell ⟨w.heap.size + 1 + 1, 0, none⟩ (.slice B0 n0 d0)).setCell ⟨w.heap.size + 1, 0, none⟩ (.slice B0 n0 d0)) (w.heap.size + 1) 109 #[.slice B0 n0 d0] := ((r1).far (by simp) _).set 0 _
  obtain ⟨z0, -⟩ := rz.all1
  have y0 : Sl TkR 5 (okF (w.heap.size + 3) (((w1).setCell ⟨w.heap.size + 1 + 1, 0, none⟩ (.slice B0 n0 d0)).setCell ⟨w.heap.size + 1, 0, none⟩ (.slice B0 n0 d0))) (((w1).setCell ⟨w.heap.size + 1 + 1, 0, none⟩ (.slice B0 n0 d0)).setCell ⟨w.heap.size + 1, 0, none⟩ (.slice B0 n0 d0)) B0 n0 x.expr := ((u0).setF TkR.stays (by simp) _).setF TkR.stays (by simp) _
  have hbz : Below w.heap.size w (((w1).setCell ⟨w.heap.size + 1 + 1, 0, none⟩ (.slice B0 n0 d0)).setCell ⟨w.heap.size + 1, 0, none⟩ (.slice B0 n0 d0)) := ((hbx0).setCell (by simp; try omega) _).setCell (by simp; try omega) _
  clear ra r1 r2 rz
  go_wp2_with fail
  exact bodyPost_ret (v := .agg #[.slice B0 n0 d0]) (by simp [results, Tryz.results57, go_sem, z0]) rfl ⟨[.slice B0 n0 d0], rfl, ⟨_, _, _, rfl, y0.stays TkR.stays (fun b hb' => hb'.mono (by omega)) (fun p v _ hp => hp), hcp0⟩, hbz⟩

theorem infoTermT : (Tryz.prog.info? 109).map (fun i => (i.zero, i.size, i.bytes)) = some (some (.agg #[.slice none 0 0]), 1, 24) := by kernel_rfl
set_option maxRecDepth 100000 in
set_option maxHeartbeats 1000000 in
theorem lawsToTermL (A : Option Addr) (n c : Nat) (l : List Te) (ok : Nat → Prop) (w : World) (h : Sl TeR 1 ok w A n l) (hs : szL Te.sz l ≤ 1048576) :
    Calls Tryz.prog 25 #[.slice A n c] w (MadeSl TeR 1 n l w) := by
  obtain rfl : l.length = n := h.1
  have hn : l.length ≤ 1048576 := by unfold szL at hs; omega
  have HS := Lib.hid hs
  clear hs
  have hmk := fun w => mk_rows (P := Tryz.prog) Tryz.underlying33 infoTermT (by omega) l.length hn w
  simp only [Nat.mul_one] at hmk
  go_enter Tryz.func25, Tryz.ntmps25
  go_wp2
  have row := Row.new w 109 (madeCells #[.slice none 0 0] (l.length))
  have hb0 := (Below.refl w.heap.size w).alloc (Nat.le_refl _) (.cells (madeCells #[.slice none 0 0] (l.length)) 109)
  have hsz := size_madeCells #[.slice none 0 0] (l.length)
  have hx0 : (w.alloc (.cells (madeCells #[.slice none 0 0] (l.length)) 109)).heap.size = w.heap.size + 1 := by simp
  generalize w.alloc (.cells (madeCells #[.slice none 0 0] (l.length)) 109) = x at *
  generalize madeCells #[.slice none 0 0] (l.length) = cs0 at *
  have HZ := Lib.hid hsz
  have HX0 := Lib.hid hx0
  clear hmk hsz hx0
  go_loopw [4] (fun i wr => ∃ (k : Nat) (cs : Array Value), k ≤ l.length ∧ i = .int .i64 k ∧ Row wr w.heap.size 109 cs ∧ Hid (cs.size = l.length * 1) ∧ Hid (LaidR TeR 1 (okF (w.heap.size + 1) wr) wr cs k l) ∧ Hid (w.heap.size + 1 ≤ wr.heap.size) ∧ Below w.heap.size w wr) (fun i _ => l.length - (intOf i).toNat)
  case atStart => exact ⟨0, cs0, by omega, rfl, row, Lib.hid (by rw [HZ.out]; exact (Nat.mul_one _).symm), Lib.hid (LaidR.zero _ _ _ _ _ _), Lib.hid (by rw [HX0.out]; exact Nat.le_refl _), hb0⟩
  case round =>
    obtain ⟨k, cs, hk, rfl, hrow, hcs, hlaid, hgw, hb⟩ := hrel
    by_cases hlt : k < l.length
    · obtain ⟨b, off, A0, n0, c0, -, rfl, q0, s0, -⟩ := TeR.at_ (h.below TeR.stays hb) hlt
      have hsz1 : k * 1 + 1 ≤ cs.size := by rw [hcs.out]; omega
      have hszk : l[k].sz ≤ 1048576 := by have := HS.out; have := sum_mem_le (Te.sz) l k hlt; unfold szL at *; (try simp only at *); omega
      have HSK := Lib.hid hszk
      clear hszk
      go_wp2_with fail
      refine (lawsToTerm l[k] A0 n0 c0 ok _ s0 HSK.out).mono ?_
      rintro e w1 ⟨cs', rfl, hR1, hb1⟩
      obtain ⟨B0, m0, d0, rfl, t0, hcp⟩ := hR1
      have hrow1 := hrow.below hb1
      have hgw1 : w.heap.size + 1 ≤ w1.heap.size := Nat.le_trans hgw.out hb1.size
      have HGW := Lib.hid hgw1
      clear hgw1
      have hl1 := Lib.hid (hlaid.out.belowF TeR.stays hb1)
      have q : ∀ j, j < 1 → w1.cell? ⟨w.heap.size, k + j, none⟩ = some (cs[k + j]?.getD undef) := fun j hj => by
        rw [hrow1.cell, Array.getElem?_eq_getElem (by omega)]; rfl
      have z0 : w1.cell? ⟨w.heap.size, k, none⟩ = some (cs[k]?.getD undef) := q 0 (by omega)
      have f0 := hrow1.free (k)
      clear q
      have HR := Lib.hid hrow1
      clear hrow1 hrow q0
      go_wp2_with fail
      go_roundw
      case rel =>
        have y0 := ((t0.stays TkR.stays (ok' := okF (w.heap.size + 1) w1) (fun b hb' => hb'.mono hgw.out) (fun p v _ hp => hp))).setF TkR.stays (p := ⟨w.heap.size, k, none⟩) (by simp) (.slice B0 m0 d0)
        exact ⟨k + 1, _, by omega, by go_num, (HR.out).set _ _, Lib.hid (by simp [hcs.out]), Lib.hid (((hl1.out).setF TeR.stays (by simp) _).more hlt (c := [.slice B0 m0 d0]) rfl ⟨_, _, _, rfl, y0, hcp⟩ (hold1 cs k _) (fresh1 cs k _ hsz1)), Lib.hid (by simpa using HGW.out), (hb.trans (hb1.mono hb.size)).setCell (by simp) _⟩
      case measure => simp [intOf]; omega
    · obtain rfl : k = l.length := by omega
      go_wp2
      go_ret
      exact ⟨_, _, rfl, Nat.le_refl _, (sl_of_laid (ok := okF w.heap.size _) hrow ⟨Nat.le_refl _, hgw.out, fun off => hrow.free off⟩ (fun i hi hlt' => by
        obtain ⟨c', h1, h2, h3⟩ := hlaid.out i hi hlt'
        exact ⟨c', h1, TeR.stays _ _ _ _ _ _ h2 (fun b hb' => hb'.mono (Nat.le_succ _)) (fun p v _ hp => hp), h3⟩) (Nat.le_refl _)), hb⟩

set_option maxRecDepth 100000 in
set_option maxHeartbeats 1000000 in
theorem lawsToTrigger (x : Tg) (A2 : Option Addr) (n2 c2 : Nat) (A4 : Option Addr) (n4 c4 : Nat) (ok : Nat → Prop) (w : World) (h2 : Sl TkR 5 ok w A2 n2 x.wher) (h4 : Sl TeR 1 ok w A4 n4 x.terms) (hs : x.sz ≤ 1048576) :
    Calls Tryz.prog 39 #[.agg #[.string x.table, .int .i64 x.event, .slice A2 n2 c2, .string x.into, .slice A4 n4 c4]] w (MadeR TgR x w) := by
  have hs2 : szL (fun t : Tk => t.vs.size) x.wher ≤ 1048576 := by have := hs; unfold Tg.sz at this; omega
  have HS2 := Lib.hid hs2
  clear hs2
  have hs4 : szL Te.sz x.terms ≤ 1048576 := by have := hs; unfold Tg.sz at this; omega
  have HS4 := Lib.hid hs4
  clear hs4
  clear hs
  have ra := ((Row.new w 80 #[.string x.table, .int .i64 x.event, .slice A2 n2 c2, .string x.into, .slice A4 n4 c4]).alloc (.cells #[.string ⟨#[]⟩, .int .i64 0, .slice none 0 0, .string ⟨#[]⟩, .slice none 0 0] 83)).alloc (.cells #[.string x.table, .int .i64 x.event, .slice none 0 0, .string ⟨#[]⟩, .slice none 0 0] 83)
  have r1 := (Row.newAt (w.alloc (.cells #[.string x.table, .int .i64 x.event, .slice A2 n2 c2, .string x.into, .slice A4 n4 c4] 80)) 83 #[.string ⟨#[]⟩, .int .i64 0, .slice none 0 0, .string ⟨#[]⟩, .slice none 0 0] (w.heap.size + 1) (by simp)).alloc (.cells #[.string x.table, .int .i64 x.event, .slice none 0 0, .string ⟨#[]⟩, .slice none 0 0] 83)
  have r2 := Row.newAt ((w.alloc (.cells #[.string x.table, .int .i64 x.event, .slice A2 n2 c2, .string x.into, .slice A4 n4 c4] 80)).alloc (.cells #[.string ⟨#[]⟩, .int .i64 0, .slice none 0 0, .string ⟨#[]⟩, .slice none 0 0] 83)) 83 #[.string x.table, .int .i64 x.event, .slice none 0 0, .string ⟨#[]⟩, .slice none 0 0] (w.heap.size + 1 + 1) (by simp)
  have hb0 := ((((Below.refl w.heap.size w).alloc (Nat.le_refl _) (.cells #[.string x.table, .int .i64 x.event, .slice A2 n2 c2, .string x.into, .slice A4 n4 c4] 80)).alloc (by simp) (.cells #[.string ⟨#[]⟩, .int .i64 0, .slice none 0 0, .string ⟨#[]⟩, .slice none 0 0] 83)).alloc (by simp; omega) (.cells #[.string x.table, .int .i64 x.event, .slice none 0 0, .string ⟨#[]⟩, .slice none 0 0] 83))
  have hz0 : w.heap.size + 3 ≤ (((w.alloc (.cells #[.string x.table, .int .i64 x.event, .slice A2 n2 c2, .string x.into, .slice A4 n4 c4] 80)).alloc (.cells #[.string ⟨#[]⟩, .int .i64 0, .slice none 0 0, .string ⟨#[]⟩, .slice none 0 0] 83)).alloc (.cells #[.string x.table, .int .i64 x.event, .slice none 0 0, .string ⟨#[]⟩, .slice none 0 0] 83)).heap.size := by simp
  go_enter Tryz.func39, Tryz.ntmps39
  go_wp2_with fail
  generalize ((w.alloc (.cells #[.string x.table, .int .i64 x.event, .slice A2 n2 c2, .string x.into, .slice A4 n4 c4] 80)).alloc (.cells #[.string ⟨#[]⟩, .int .i64 0, .slice none 0 0, .string ⟨#[]⟩, .slice none 0 0] 83)).alloc (.cells #[.string x.table, .int .i64 x.event, .slice none 0 0, .string ⟨#[]⟩, .slice none 0 0] 83) = x0 at *
  refine (lawsToTokL A2 n2 c2 x.wher ok _ (h2.below TkR.stays hb0) HS2.out).mono ?_
  rintro e w1 ⟨B2, d2, rfl, hcp2, t2, hc0⟩
  have u2 := t2.stays TkR.stays (ok' := okF (w.heap.size + 3) w1) (fun b hb' => hb'.mono (by omega)) (fun p v _ hp => hp)
  clear t2
  have ra := ra.below hc0
  have r1 := r1.below hc0
  have r2 := r2.below hc0
  have hbx0 := hb0.trans (hc0.mono hb0.size)
  have hz1 : w.heap.size + 3 ≤ w1.heap.size := Nat.le_trans hz0 hc0.size
  obtain ⟨⟨a_0_0, a_0_1, a_0_2, a_0_3, a_0_4⟩, -⟩ := ra.five
  obtain ⟨⟨b_0_0, b_0_1, b_0_2, b_0_3, b_0_4⟩, ⟨f_0_0, f_0_1, f_0_2, f_0_3, f_0_4⟩⟩ := r2.five
  go_wp2_with fail
  have ra' : Row (((w1).setCell ⟨w.heap.size + 1 + 1, 2, none⟩ (.slice B2 n2 d2)).setCell ⟨w.heap.size + 1 + 1, 3, none⟩ (.string x.into)) w.heap.size 80 #[.string x.table, .int .i64 x.event, .slice A2 n2 c2, .string x.into, .slice A4 n4 c4] := ((ra).far (by simp; try omega) _).far (by simp; try omega) _
  have r1' : Row (((w1).setCell ⟨w.heap.size + 1 + 1, 2, none⟩ (.slice B2 n2 d2)).setCell ⟨w.heap.size + 1 + 1, 3, none⟩ (.string x.into)) (w.heap.size + 1) 83 #[.string ⟨#[]⟩, .int .i64 0, .slice none 0 0, .string ⟨#[]⟩, .slice none 0 0] := ((r1).far (by simp) _).far (by simp) _
  have r2' : Row (((w1).setCell ⟨w.heap.size + 1 + 1, 2, none⟩ (.slice B2 n2 d2)).setCell ⟨w.heap.size + 1 + 1, 3, none⟩ (.string x.into)) (w.heap.size + 1 + 1) 83 #[.string x.table, .int .i64 x.event, .slice B2 n2 d2, .string x.into, .slice none 0 0] := ((r2).set 2 _).set 3 _
  have hb1 : Below w.heap.size w (((w1).setCell ⟨w.heap.size + 1 + 1, 2, none⟩ (.slice B2 n2 d2)).setCell ⟨w.heap.size + 1 + 1, 3, none⟩ (.string x.into)) := ((hbx0).setCell (by simp; try omega) _).setCell (by simp; try omega) _
  have hz1' : w.heap.size + 3 ≤ (((w1).setCell ⟨w.heap.size + 1 + 1, 2, none⟩ (.slice B2 n2 d2)).setCell ⟨w.heap.size + 1 + 1, 3, none⟩ (.string x.into)).heap.size := by simpa using hz1
  have u2' : Sl TkR 5 (okF (w.heap.size + 3) (((w1).setCell ⟨w.heap.size + 1 + 1, 2, none⟩ (.slice B2 n2 d2)).setCell ⟨w.heap.size + 1 + 1, 3, none⟩ (.string x.into))) (((w1).setCell ⟨w.heap.size + 1 + 1, 2, none⟩ (.slice B2 n2 d2)).setCell ⟨w.heap.size + 1 + 1, 3, none⟩ (.string x.into)) B2 n2 x.wher := ((u2).setF TkR.stays (by simp) _).setF TkR.stays (by simp) _
  clear ra r1 r2 hz1 u2 a_0_0 a_0_1 a_0_2 a_0_3 a_0_4 b_0_0 b_0_1 b_0_2 b_0_3 b_0_4 f_0_0 f_0_1 f_0_2 f_0_3 f_0_4
  generalize ((w1).setCell ⟨w.heap.size + 1 + 1, 2, none⟩ (.slice B2 n2 d2)).setCell ⟨w.heap.size + 1 + 1, 3, none⟩ (.string x.into) = x1 at *
  have ra := ra'
  have r1 := r1'
  have r2 := r2'
  have hz1 := hz1'
  have u2 := u2'
  clear ra' r1' r2' hz1' u2'
  refine (lawsToTermL A4 n4 c4 x.terms ok _ (h4.below TeR.stays hb1) HS4.out).mono ?_
  rintro e w2 ⟨B4, d4, rfl, hcp4, t4, hc1⟩
  have u4 := t4.stays TeR.stays (ok' := okF (w.heap.size + 3) w2) (fun b hb' => hb'.mono (by omega)) (fun p v _ hp => hp)
  clear t4
  have ra := ra.below hc1
  have r1 := r1.below hc1
  have r2 := r2.below hc1
  have hbx1 := hb1.trans (hc1.mono hb1.size)
  have hz2 : w.heap.size + 3 ≤ w2.heap.size := Nat.le_trans hz1 hc1.size
  have u2 := u2.belowF TkR.stays hc1
  obtain ⟨⟨a_1_0, a_1_1, a_1_2, a_1_3, a_1_4⟩, -⟩ := ra.five
  obtain ⟨⟨b_1_0, b_1_1, b_1_2, b_1_3, b_1_4⟩, ⟨f_1_0, f_1_1, f_1_2, f_1_3, f_1_4⟩⟩ := r2.five
  obtain ⟨⟨g_1_0, g_1_1, g_1_2, g_1_3, g_1_4⟩, ⟨k_1_0, k_1_1, k_1_2, k_1_3, k_1_4⟩⟩ := r1.five
  have rz : Row (((((((w2).setCell ⟨w.heap.size + 1 + 1, 4, none⟩ (.slice B4 n4 d4)).setCell ⟨w.heap.size + 1, 0, none⟩ (.string x.table)).setCell ⟨w.heap.size + 1, 1, none⟩ (.int .i64 x.event)).setCell ⟨w.heap.size + 1, 2, none⟩ (.slice B2 n2 d2)).setCell ⟨w.heap.size + 1, 3, none⟩ (.string x.into)).setCell ⟨w.heap.size + 1, 4, none⟩ (.slice B4 n4 d4)) (w.heap.size + 1) 83 #[.string x.table, .int .i64 x.event, .slice B2 n2 d2, .string x.into, .slice B4 n4 d4] := ((((((r1).far (by simp) _).set 0 _).set 1 _).set 2 _).set 3 _).set 4 _
  obtain ⟨⟨z0, z1, z2, z3, z4⟩, -⟩ := rz.five
  have y2 : Sl TkR 5 (okF (w.heap.size + 3) (((((((w2).setCell ⟨w.heap.size + 1 + 1, 4, none⟩ (.slice B4 n4 d4)).setCell ⟨w.heap.size + 1, 0, none⟩ (.string x.table)).setCell ⟨w.heap.size + 1, 1, none⟩ (.int .i64 x.event)).setCell ⟨w.heap.size + 1, 2, none⟩ (.slice B2 n2 d2)).setCell ⟨w.heap.size + 1, 3, none⟩ (.string x.into)).setCell ⟨w.heap.size + 1, 4, none⟩ (.slice B4 n4 d4))) (((((((w2).setCell ⟨w.heap.size + 1 + 1, 4, none⟩ (.slice B4 n4 d4)).setCell ⟨w.heap.size + 1, 0, none⟩ (.string x.table)).setCell ⟨w.heap.size + 1, 1, none⟩ (.int .i64 x.event)).setCell ⟨w.heap.size + 1, 2, none⟩ (.slice B2 n2 d2)).setCell ⟨w.heap.size + 1, 3, none⟩ (.string x.into)).setCell ⟨w.heap.size + 1, 4, none⟩ (.slice B4 n4 d4)) B2 n2 x.wher := ((((((u2).setF TkR.stays (by simp) _).setF TkR.stays (by simp) _).setF TkR.stays (by simp) _).setF TkR.stays (by simp) _).setF TkR.stays (by simp) _).setF TkR.stays (by simp) _
  have y4 : Sl TeR 1 (okF (w.heap.size + 3) (((((((w2).setCell ⟨w.heap.size + 1 + 1, 4, none⟩ (.slice B4 n4 d4)).setCell ⟨w.heap.size + 1, 0, none⟩ (.string x.table)).setCell ⟨w.heap.size + 1, 1, none⟩ (.int .i64 x.event)).setCell ⟨w.heap.size + 1, 2, none⟩ (.slice B2 n2 d2)).setCell ⟨w.heap.size + 1, 3, none⟩ (.string x.into)).setCell ⟨w.heap.size + 1, 4, none⟩ (.slice B4 n4 d4))) (((((((w2).setCell ⟨w.heap.size + 1 + 1, 4, none⟩ (.slice B4 n4 d4)).setCell ⟨w.heap.size + 1, 0, none⟩ (.string x.table)).setCell ⟨w.heap.size + 1, 1, none⟩ (.int .i64 x.event)).setCell ⟨w.heap.size + 1, 2, none⟩ (.slice B2 n2 d2)).setCell ⟨w.heap.size + 1, 3, none⟩ (.string x.into)).setCell ⟨w.heap.size + 1, 4, none⟩ (.slice B4 n4 d4)) B4 n4 x.terms := ((((((u4).setF TeR.stays (by simp) _).setF TeR.stays (by simp) _).setF TeR.stays (by simp) _).setF TeR.stays (by simp) _).setF TeR.stays (by simp) _).setF TeR.stays (by simp) _
  have hbz : Below w.heap.size w (((((((w2).setCell ⟨w.heap.size + 1 + 1, 4, none⟩ (.slice B4 n4 d4)).setCell ⟨w.heap.size + 1, 0, none⟩ (.string x.table)).setCell ⟨w.heap.size + 1, 1, none⟩ (.int .i64 x.event)).setCell ⟨w.heap.size + 1, 2, none⟩ (.slice B2 n2 d2)).setCell ⟨w.heap.size + 1, 3, none⟩ (.string x.into)).setCell ⟨w.heap.size + 1, 4, none⟩ (.slice B4 n4 d4)) := ((((((hbx1).setCell (by simp; try omega) _).setCell (by simp; try omega) _).setCell (by simp; try omega) _).setCell (by simp; try omega) _).setCell (by simp; try omega) _).setCell (by simp; try omega) _
  clear ra r1 r2 rz
  go_wp2_with fail
  exact bodyPost_ret (v := .agg #[.string x.table, .int .i64 x.event, .slice B2 n2 d2, .string x.into, .slice B4 n4 d4]) (by simp [results, Tryz.results39, go_sem, z0, z1, z2, z3, z4]) rfl ⟨[.string x.table, .int .i64 x.event, .slice B2 n2 d2, .string x.into, .slice B4 n4 d4], rfl, ⟨_, _, _, _, _, _, rfl, y2.stays TkR.stays (fun b hb' => hb'.mono (by omega)) (fun p v _ hp => hp), y4.stays TeR.stays (fun b hb' => hb'.mono (by omega)) (fun p v _ hp => hp), ⟨hcp2, hcp4⟩⟩, hbz⟩

theorem infoTriggerT : (Tryz.prog.info? 83).map (fun i => (i.zero, i.size, i.bytes)) = some (some (.agg #[.string ⟨#[]⟩, .int .i64 0, .slice none 0 0, .string ⟨#[]⟩, .slice none 0 0]), 5, 88) := by kernel_rfl
set_option maxRecDepth 100000 in
set_option maxHeartbeats 1000000 in
theorem lawsToTriggerL (A : Option Addr) (n c : Nat) (l : List Tg) (ok : Nat → Prop) (w : World) (h : Sl TgR 5 ok w A n l) (hs : szL Tg.sz l ≤ 1048576) :
    Calls Tryz.prog 15 #[.slice A n c] w (MadeSl TgR 5 n l w) := by
  obtain rfl : l.length = n := h.1
  have hn : l.length ≤ 1048576 := by unfold szL at hs; omega
  have HS := Lib.hid hs
  clear hs
  have hmk := fun w => mk_rows (P := Tryz.prog) Tryz.underlying44 infoTriggerT (by omega) l.length hn w
  go_enter Tryz.func15, Tryz.ntmps15
  go_wp2
  have row := Row.new w 83 (madeCells #[.string ⟨#[]⟩, .int .i64 0, .slice none 0 0, .string ⟨#[]⟩, .slice none 0 0] (l.length * 5))
  have hb0 := (Below.refl w.heap.size w).alloc (Nat.le_refl _) (.cells (madeCells #[.string ⟨#[]⟩, .int .i64 0, .slice none 0 0, .string ⟨#[]⟩, .slice none 0 0] (l.length * 5)) 83)
  have hsz := size_madeCells #[.string ⟨#[]⟩, .int .i64 0, .slice none 0 0, .string ⟨#[]⟩, .slice none 0 0] (l.length * 5)
  have hx0 : (w.alloc (.cells (madeCells #[.string ⟨#[]⟩, .int .i64 0, .slice none 0 0, .string ⟨#[]⟩, .slice none 0 0] (l.length * 5)) 83)).heap.size = w.heap.size + 1 := by simp
  generalize w.alloc (.cells (madeCells #[.string ⟨#[]⟩, .int .i64 0, .slice none 0 0, .string ⟨#[]⟩, .slice none 0 0] (l.length * 5)) 83) = x at *
  generalize madeCells #[.string ⟨#[]⟩, .int .i64 0, .slice none 0 0, .string ⟨#[]⟩, .slice none 0 0] (l.length * 5) = cs0 at *
  have HZ := Lib.hid hsz
  have HX0 := Lib.hid hx0
  clear hmk hsz hx0
  go_loopw [4] (fun i wr => ∃ (k : Nat) (cs : Array Value), k ≤ l.length ∧ i = .int .i64 k ∧ Row wr w.heap.size 83 cs ∧ Hid (cs.size = l.length * 5) ∧ Hid (LaidR TgR 5 (okF (w.heap.size + 1) wr) wr cs k l) ∧ Hid (w.heap.size + 1 ≤ wr.heap.size) ∧ Below w.heap.size w wr) (fun i _ => l.length - (intOf i).toNat)
  case atStart => exact ⟨0, cs0, by omega, rfl, row, Lib.hid (by rw [HZ.out]), Lib.hid (LaidR.zero _ _ _ _ _ _), Lib.hid (by rw [HX0.out]; exact Nat.le_refl _), hb0⟩
  case round =>
    obtain ⟨k, cs, hk, rfl, hrow, hcs, hlaid, hgw, hb⟩ := hrel
    by_cases hlt : k < l.length
    · obtain ⟨b, off, A2, n2, c2, A4, n4, c4, -, rfl, q0, q1, q2, q3, q4, s2, s4, -⟩ := TgR.at_ (h.below TgR.stays hb) hlt
      have hsz1 : k * 5 + 5 ≤ cs.size := by rw [hcs.out]; omega
      have hszk : l[k].sz ≤ 1048576 := by have := HS.out; have := sum_mem_le (Tg.sz) l k hlt; unfold szL at *; (try simp only at *); omega
      have HSK := Lib.hid hszk
      clear hszk
      go_wp2_with fail
      refine (lawsToTrigger l[k] A2 n2 c2 A4 n4 c4 ok _ s2 s4 HSK.out).mono ?_
      rintro e w1 ⟨cs', rfl, hR1, hb1⟩
      obtain ⟨B2, m2, d2, B4, m4, d4, rfl, t2, t4, hcp⟩ := hR1
      have hrow1 := hrow.below hb1
      have hgw1 : w.heap.size + 1 ≤ w1.heap.size := Nat.le_trans hgw.out hb1.size
      have HGW := Lib.hid hgw1
      clear hgw1
      have hl1 := Lib.hid (hlaid.out.belowF TgR.stays hb1)
      have q : ∀ j, j < 5 → w1.cell? ⟨w.heap.size, k * 5 + j, none⟩ = some (cs[k * 5 + j]?.getD undef) := fun j hj => by
        rw [hrow1.cell, Array.getElem?_eq_getElem (by omega)]; rfl
      have z0 : w1.cell? ⟨w.heap.size, k * 5, none⟩ = some (cs[k * 5]?.getD undef) := q 0 (by omega)
      have z1 := q 1 (by omega)
      have z2 := q 2 (by omega)
      have z3 := q 3 (by omega)
      have z4 := q 4 (by omega)
      have f0 := hrow1.free (k * 5)
      have f1 := hrow1.free (k * 5 + 1)
      have f2 := hrow1.free (k * 5 + 2)
      have f3 := hrow1.free (k * 5 + 3)
      have f4 := hrow1.free (k * 5 + 4)
      clear q
      have HR := Lib.hid hrow1
      clear hrow1 hrow q0 q1 q2 q3 q4
      go_wp2_with fail
      go_roundw
      case rel =>
        have y2 := ((((((t2.stays TkR.stays (ok' := okF (w.heap.size + 1) w1) (fun b hb' => hb'.mono hgw.out) (fun p v _ hp => hp))).setF TkR.stays (p := ⟨w.heap.size, k * 5, none⟩) (by simp) (.string l[k].table)).setF TkR.stays (p := ⟨w.heap.size, k * 5 + 1, none⟩) (by simp) (.int .i64 l[k].event)).setF TkR.stays (p := ⟨w.heap.size, k * 5 + 2, none⟩) (by simp) (.slice B2 m2 d2)).setF TkR.stays (p := ⟨w.heap.size, k * 5 + 3, none⟩) (by simp) (.string l[k].into)).setF TkR.stays (p := ⟨w.heap.size, k * 5 + 4, none⟩) (by simp) (.slice B4 m4 d4)
        have y4 := ((((((t4.stays TeR.stays (ok' := okF (w.heap.size + 1) w1) (fun b hb' => hb'.mono hgw.out) (fun p v _ hp => hp))).setF TeR.stays (p := ⟨w.heap.size, k * 5, none⟩) (by simp) (.string l[k].table)).setF TeR.stays (p := ⟨w.heap.size, k * 5 + 1, none⟩) (by simp) (.int .i64 l[k].event)).setF TeR.stays (p := ⟨w.heap.size, k * 5 + 2, none⟩) (by simp) (.slice B2 m2 d2)).setF TeR.stays (p := ⟨w.heap.size, k * 5 + 3, none⟩) (by simp) (.string l[k].into)).setF TeR.stays (p := ⟨w.heap.size, k * 5 + 4, none⟩) (by simp) (.slice B4 m4 d4)
        exact ⟨k + 1, _, by omega, by go_num, (((((HR.out).set _ _).set _ _).set _ _).set _ _).set _ _, Lib.hid (by simp [hcs.out]), Lib.hid (((((((hl1.out).setF TgR.stays (by simp) _).setF TgR.stays (by simp) _).setF TgR.stays (by simp) _).setF TgR.stays (by simp) _).setF TgR.stays (by simp) _).more hlt (c := [.string l[k].table, .int .i64 l[k].event, .slice B2 m2 d2, .string l[k].into, .slice B4 m4 d4]) rfl ⟨_, _, _, _, _, _, rfl, y2, y4, hcp⟩ (hold5 cs k _ _ _ _ _) (fresh5 cs k _ _ _ _ _ hsz1)), Lib.hid (by simpa using HGW.out), (((((hb.trans (hb1.mono hb.size)).setCell (by simp) _).setCell (by simp) _).setCell (by simp) _).setCell (by simp) _).setCell (by simp) _⟩
      case measure => simp [intOf]; omega
    · obtain rfl : k = l.length := by omega
      go_wp2
      go_ret
      exact ⟨_, _, rfl, Nat.le_refl _, (sl_of_laid (ok := okF w.heap.size _) hrow ⟨Nat.le_refl _, hgw.out, fun off => hrow.free off⟩ (fun i hi hlt' => by
        obtain ⟨c', h1, h2, h3⟩ := hlaid.out i hi hlt'
        exact ⟨c', h1, TgR.stays _ _ _ _ _ _ h2 (fun b hb' => hb'.mono (Nat.le_succ _)) (fun p v _ hp => hp), h3⟩) (Nat.le_refl _)), hb⟩

set_option maxRecDepth 100000 in
set_option maxHeartbeats 1000000 in
theorem lawsToSelect (x : Qy) (A1 : Option Addr) (n1 c1 : Nat) (A2 : Option Addr) (n2 c2 : Nat) (A3 : Option Addr) (n3 c3 : Nat) (ok : Nat → Prop) (w : World) (h1 : Sl TeR 1 ok w A1 n1 x.terms) (h2 : Sl TkR 5 ok w A2 n2 x.wher) (h3 : Sl IntR 1 ok w A3 n3 x.ord) (hs : x.sz ≤ 1048576) :
    Calls Tryz.prog 9 #[.agg #[.string x.table, .slice A1 n1 c1, .slice A2 n2 c2, .slice A3 n3 c3, .int .i64 x.most]] w (MadeR QyR x w) := by
  have hs1 : szL Te.sz x.terms ≤ 1048576 := by have := hs; unfold Qy.sz at this; omega
  have HS1 := Lib.hid hs1
  clear hs1
  have hs2 : szL (fun t : Tk => t.vs.size) x.wher ≤ 1048576 := by have := hs; unfold Qy.sz at this; omega
  have HS2 := Lib.hid hs2
  clear hs2
  have hs3 : x.ord.length ≤ 1048576 := by have := hs; unfold Qy.sz at this; omega
  have HS3 := Lib.hid hs3
  clear hs3
  clear hs
  have ra := ((Row.new w 27 #[.string x.table, .slice A1 n1 c1, .slice A2 n2 c2, .slice A3 n3 c3, .int .i64 x.most]).alloc (.cells #[.string ⟨#[]⟩, .slice none 0 0, .slice none 0 0, .slice none 0 0, .int .i64 0] 36)).alloc (.cells #[.string x.table, .slice none 0 0, .slice none 0 0, .slice none 0 0, .int .i64 0] 36)
  have r1 := (Row.newAt (w.alloc (.cells #[.string x.table, .slice A1 n1 c1, .slice A2 n2 c2, .slice A3 n3 c3, .int .i64 x.most] 27)) 36 #[.string ⟨#[]⟩, .slice none 0 0, .slice none 0 0, .slice none 0 0, .int .i64 0] (w.heap.size + 1) (by simp)).alloc (.cells #[.string x.table, .slice none 0 0, .slice none 0 0, .slice none 0 0, .int .i64 0] 36)
  have r2 := Row.newAt ((w.alloc (.cells #[.string x.table, .slice A1 n1 c1, .slice A2 n2 c2, .slice A3 n3 c3, .int .i64 x.most] 27)).alloc (.cells #[.string ⟨#[]⟩, .slice none 0 0, .slice none 0 0, .slice none 0 0, .int .i64 0] 36)) 36 #[.string x.table, .slice none 0 0, .slice none 0 0, .slice none 0 0, .int .i64 0] (w.heap.size + 1 + 1) (by simp)
  have hb0 := ((((Below.refl w.heap.size w).alloc (Nat.le_refl _) (.cells #[.string x.table, .slice A1 n1 c1, .slice A2 n2 c2, .slice A3 n3 c3, .int .i64 x.most] 27)).alloc (by simp) (.cells #[.string ⟨#[]⟩, .slice none 0 0, .slice none 0 0, .slice none 0 0, .int .i64 0] 36)).alloc (by simp; omega) (.cells #[.string x.table, .slice none 0 0, .slice none 0 0, .slice none 0 0, .int .i64 0] 36))
  have hz0 : w.heap.size + 3 ≤ (((w.alloc (.cells #[.string x.table, .slice A1 n1 c1, .slice A2 n2 c2, .slice A3 n3 c3, .int .i64 x.most] 27)).alloc (.cells #[.string ⟨#[]⟩, .slice none 0 0, .slice none 0 0, .slice none 0 0, .int .i64 0] 36)).alloc (.cells #[.string x.table, .slice none 0 0, .slice none 0 0, .slice none 0 0, .int .i64 0] 36)).heap.size := by simp
  go_enter Tryz.func9, Tryz.ntmps9
  go_wp2_with fail
  generalize ((w.alloc (.cells #[.string x.table, .slice A1 n1 c1, .slice A2 n2 c2, .slice A3 n3 c3, .int .i64 x.most] 27)).alloc (.cells #[.string ⟨#[]⟩, .slice none 0 0, .slice none 0 0, .slice none 0 0, .int .i64 0] 36)).alloc (.cells #[.string x.table, .slice none 0 0, .slice none 0 0, .slice none 0 0, .int .i64 0] 36) = x0 at *
  refine (lawsToTermL A1 n1 c1 x.terms ok _ (h1.below TeR.stays hb0) HS1.out).mono ?_
  rintro e w1 ⟨B1, d1, rfl, hcp1, t1, hc0⟩
  have u1 := t1.stays TeR.stays (ok' := okF (w.heap.size + 3) w1) (fun b hb' => hb'.mono (by omega)) (fun p v _ hp => hp)
  clear t1
  have ra := ra.below hc0
  have r1 := r1.below hc0
  have r2 := r2.below hc0
  have hbx0 := hb0.trans (hc0.mono hb0.size)
  have hz1 : w.heap.size + 3 ≤ w1.heap.size := Nat.le_trans hz0 hc0.size
  obtain ⟨⟨a_0_0, a_0_1, a_0_2, a_0_3, a_0_4⟩, -⟩ := ra.five
  obtain ⟨⟨b_0_0, b_0_1, b_0_2, b_0_3, b_0_4⟩, ⟨f_0_0, f_0_1, f_0_2, f_0_3, f_0_4⟩⟩ := r2.five
  go_wp2_with fail
  have ra' : Row ((w1).setCell ⟨w.heap.size + 1 + 1, 1, none⟩ (.slice B1 n1 d1)) w.heap.size 27 #[.string x.table, .slice A1 n1 c1, .slice A2 n2 c2, .slice A3 n3 c3, .int .i64 x.most] := (ra).far (by simp; try omega) _
  have r1' : Row ((w1).setCell ⟨w.heap.size + 1 + 1, 1, none⟩ (.slice B1 n1 d1)) (w.heap.size + 1) 36 #[.string ⟨#[]⟩, .slice none 0 0, .slice none 0 0, .slice none 0 0, .int .i64 0] := (r1).far (by simp) _
  have r2' : Row ((w1).setCell ⟨w.heap.size + 1 + 1, 1, none⟩ (.slice B1 n1 d1)) (w.heap.size + 1 + 1) 36 #[.string x.table, .slice B1 n1 d1, .slice none 0 0, .slice none 0 0, .int .i64 0] := (r2).set 1 _
  have hb1 : Below w.heap.size w ((w1).setCell ⟨w.heap.size + 1 + 1, 1, none⟩ (.slice B1 n1 d1)) := (hbx0).setCell (by simp; try omega) _
  have hz1' : w.heap.size + 3 ≤ ((w1).setCell ⟨w.heap.size + 1 + 1, 1, none⟩ (.slice B1 n1 d1)).heap.size := by simpa using hz1
  have u1' : Sl TeR 1 (okF (w.heap.size + 3) ((w1).setCell ⟨w.heap.size + 1 + 1, 1, none⟩ (.slice B1 n1 d1))) ((w1).setCell ⟨w.heap.size + 1 + 1, 1, none⟩ (.slice B1 n1 d1)) B1 n1 x.terms := (u1).setF TeR.stays (by simp) _
  clear ra r1 r2 hz1 u1 a_0_0 a_0_1 a_0_2 a_0_3 a_0_4 b_0_0 b_0_1 b_0_2 b_0_3 b_0_4 f_0_0 f_0_1 f_0_2 f_0_3 f_0_4
  generalize (w1).setCell ⟨w.heap.size + 1 + 1, 1, none⟩ (.slice B1 n1 d1) = x1 at *
  have ra := ra'
  have r1 := r1'
  have r2 := r2'
  have hz1 := hz1'
  have u1 := u1'
  clear ra' r1' r2' hz1' u1'
  refine (lawsToTokL A2 n2 c2 x.wher ok _ (h2.below TkR.stays hb1) HS2.out).mono ?_
  rintro e w2 ⟨B2, d2, rfl, hcp2, t2, hc1⟩
  have u2 := t2.stays TkR.stays (ok' := okF (w.heap.size + 3) w2) (fun b hb' => hb'.mono (by omega)) (fun p v _ hp => hp)
  clear t2
  have ra := ra.below hc1
  have r1 := r1.below hc1
  have r2 := r2.below hc1
  have hbx1 := hb1.trans (hc1.mono hb1.size)
  have hz2 : w.heap.size + 3 ≤ w2.heap.size := Nat.le_trans hz1 hc1.size
  have u1 := u1.belowF TeR.stays hc1
  obtain ⟨⟨a_1_0, a_1_1, a_1_2, a_1_3, a_1_4⟩, -⟩ := ra.five
  obtain ⟨⟨b_1_0, b_1_1, b_1_2, b_1_3, b_1_4⟩, ⟨f_1_0, f_1_1, f_1_2, f_1_3, f_1_4⟩⟩ := r2.five
  go_wp2_with fail
  have ra' : Row ((w2).setCell ⟨w.heap.size + 1 + 1, 2, none⟩ (.slice B2 n2 d2)) w.heap.size 27 #[.string x.table, .slice A1 n1 c1, .slice A2 n2 c2, .slice A3 n3 c3, .int .i64 x.most] := (ra).far (by simp; try omega) _
  have r1' : Row ((w2).setCell ⟨w.heap.size + 1 + 1, 2, none⟩ (.slice B2 n2 d2)) (w.heap.size + 1) 36 #[.string ⟨#[]⟩, .slice none 0 0, .slice none 0 0, .slice none 0 0, .int .i64 0] := (r1).far (by simp) _
  have r2' : Row ((w2).setCell ⟨w.heap.size + 1 + 1, 2, none⟩ (.slice B2 n2 d2)) (w.heap.size + 1 + 1) 36 #[.string x.table, .slice B1 n1 d1, .slice B2 n2 d2, .slice none 0 0, .int .i64 0] := (r2).set 2 _
  have hb2 : Below w.heap.size w ((w2).setCell ⟨w.heap.size + 1 + 1, 2, none⟩ (.slice B2 n2 d2)) := (hbx1).setCell (by simp; try omega) _
  have hz2' : w.heap.size + 3 ≤ ((w2).setCell ⟨w.heap.size + 1 + 1, 2, none⟩ (.slice B2 n2 d2)).heap.size := by simpa using hz2
  have u1' : Sl TeR 1 (okF (w.heap.size + 3) ((w2).setCell ⟨w.heap.size + 1 + 1, 2, none⟩ (.slice B2 n2 d2))) ((w2).setCell ⟨w.heap.size + 1 + 1, 2, none⟩ (.slice B2 n2 d2)) B1 n1 x.terms := (u1).setF TeR.stays (by simp) _
  have u2' : Sl TkR 5 (okF (w.heap.size + 3) ((w2).setCell ⟨w.heap.size + 1 + 1, 2, none⟩ (.slice B2 n2 d2))) ((w2).setCell ⟨w.heap.size + 1 + 1, 2, none⟩ (.slice B2 n2 d2)) B2 n2 x.wher := (u2).setF TkR.stays (by simp) _
  clear ra r1 r2 hz2 u1 u2 a_1_0 a_1_1 a_1_2 a_1_3 a_1_4 b_1_0 b_1_1 b_1_2 b_1_3 b_1_4 f_1_0 f_1_1 f_1_2 f_1_3 f_1_4
  generalize (w2).setCell ⟨w.heap.size + 1 + 1, 2, none⟩ (.slice B2 n2 d2) = x2 at *
  have ra := ra'
  have r1 := r1'
  have r2 := r2'
  have hz2 := hz2'
  have u1 := u1'
  have u2 := u2'
  clear ra' r1' r2' hz2' u1' u2'
  refine (lawsToIntL A3 n3 c3 x.ord ok _ (h3.below IntR.stays hb2) HS3.out).mono ?_
  rintro e w3 ⟨B3, d3, rfl, hcp3, t3, hc2⟩
  have u3 := t3.stays IntR.stays (ok' := okF (w.heap.size + 3) w3) (fun b hb' => hb'.mono (by omega)) (fun p v _ hp => hp)
  clear t3
  have ra := ra.below hc2
  have r1 := r1.below hc2
  have r2 := r2.below hc2
  have hbx2 := hb2.trans (hc2.mono hb2.size)
  have hz3 : w.heap.size + 3 ≤ w3.heap.size := Nat.le_trans hz2 hc2.size
  have u1 := u1.belowF TeR.stays hc2
  have u2 := u2.belowF TkR.stays hc2
  obtain ⟨⟨a_2_0, a_2_1, a_2_2, a_2_3, a_2_4⟩, -⟩ := ra.five
  obtain ⟨⟨b_2_0, b_2_1, b_2_2, b_2_3, b_2_4⟩, ⟨f_2_0, f_2_1, f_2_2, f_2_3, f_2_4⟩⟩ := r2.five
  obtain ⟨⟨g_2_0, g_2_1, g_2_2, g_2_3, g_2_4⟩, ⟨k_2_0, k_2_1, k_2_2, k_2_3, k_2_4⟩⟩ := r1.five
  have rz : Row ((((((((w3).setCell ⟨w.heap.size + 1 + 1, 3, none⟩ (.slice B3 n3 d3)).setCell ⟨w.heap.size + 1 + 1, 4, none⟩ (.int .i64 x.most)).setCell ⟨w.heap.size + 1, 0, none⟩ (.string x.table)).setCell ⟨w.heap.size + 1, 1, none⟩ (.slice B1 n1 d1)).setCell ⟨w.heap.size + 1, 2, none⟩ (.slice B2 n2 d2)).setCell ⟨w.heap.size + 1, 3, none⟩ (.slice B3 n3 d3)).setCell ⟨w.heap.size + 1, 4, none⟩ (.int .i64 x.most)) (w.heap.size + 1) 36 #[.string x.table, .slice B1 n1 d1, .slice B2 n2 d2, .slice B3 n3 d3, .int .i64 x.most] := (((((((r1).far (by simp) _).far (by simp) _).set 0 _).set 1 _).set 2 _).set 3 _).set 4 _
  obtain ⟨⟨z0, z1, z2, z3, z4⟩, -⟩ := rz.five
  have y1 : Sl TeR 1 (okF (w.heap.size + 3) ((((((((w3).setCell ⟨w.heap.size + 1 + 1, 3, none⟩ (.slice B3 n3 d3)).setCell ⟨w.heap.size + 1 + 1, 4, none⟩ (.int .i64 x.most)).setCell ⟨w.heap.size + 1, 0, none⟩ (.string x.table)).setCell ⟨w.heap.size + 1, 1, none⟩ (.slice B1 n1 d1)).setCell ⟨w.heap.size + 1, 2, none⟩ (.slice B2 n2 d2)).setCell ⟨w.heap.size + 1, 3, none⟩ (.slice B3 n3 d3)).setCell ⟨w.heap.size + 1, 4, none⟩ (.int .i64 x.most))) ((((((((w3).setCell ⟨w.heap.size + 1 + 1, 3, none⟩ (.slice B3 n3 d3)).setCell ⟨w.heap.size + 1 + 1, 4, none⟩ (.int .i64 x.most)).setCell ⟨w.heap.size + 1, 0, none⟩ (.string x.table)).setCell ⟨w.heap.size + 1, 1, none⟩ (.slice B1 n1 d1)).setCell ⟨w.heap.size + 1, 2, none⟩ (.slice B2 n2 d2)).setCell ⟨w.heap.size + 1, 3, none⟩ (.slice B3 n3 d3)).setCell ⟨w.heap.size + 1, 4, none⟩ (.int .i64 x.most)) B1 n1 x.terms := (((((((u1).setF TeR.stays (by simp) _).setF TeR.stays (by simp) _).setF TeR.stays (by simp) _).setF TeR.stays (by simp) _).setF TeR.stays (by simp) _).setF TeR.stays (by simp) _).setF TeR.stays (by simp) _
  have y2 : Sl TkR 5 (okF (w.heap.size + 3) ((((((((w3).setCell ⟨w.heap.size + 1 + 1, 3, none⟩ (.slice B3 n3 d3)).setCell ⟨w.heap.size + 1 + 1, 4, none⟩ (.int .i64 x.most)).setCell ⟨w.heap.size + 1, 0, none⟩ (.string x.table)).setCell ⟨w.heap.size + 1, 1, none⟩ (.slice B1 n1 d1)).setCell ⟨w.heap.size + 1, 2, none⟩ (.slice B2 n2 d2)).setCell ⟨w.heap.size + 1, 3, none⟩ (.slice B3 n3 d3)).setCell ⟨w.heap.size + 1, 4, none⟩ (.int .i64 x.most))) ((((((((w3).setCell ⟨w.heap.size + 1 + 1, 3, none⟩ (.slice B3 n3 d3)).setCell ⟨w.heap.size + 1 + 1, 4, none⟩ (.int .i64 x.most)).setCell ⟨w.heap.size + 1, 0, none⟩ (.string x.table)).setCell ⟨w.heap.size + 1, 1, none⟩ (.slice B1 n1 d1)).setCell ⟨w.heap.size + 1, 2, none⟩ (.slice B2 n2 d2)).setCell ⟨w.heap.size + 1, 3, none⟩ (.slice B3 n3 d3)).setCell ⟨w.heap.size + 1, 4, none⟩ (.int .i64 x.most)) B2 n2 x.wher := (((((((u2).setF TkR.stays (by simp) _).setF TkR.stays (by simp) _).setF TkR.stays (by simp) _).setF TkR.stays (by simp) _).setF TkR.stays (by simp) _).setF TkR.stays (by simp) _).setF TkR.stays (by simp) _
  have y3 : Sl IntR 1 (okF (w.heap.size + 3) ((((((((w3).setCell ⟨w.heap.size + 1 + 1, 3, none⟩ (.slice B3 n3 d3)).setCell ⟨w.heap.size + 1 + 1, 4, none⟩ (.int .i64 x.most)).setCell ⟨w.heap.size + 1, 0, none⟩ (.string x.table)).setCell ⟨w.heap.size + 1, 1, none⟩ (.slice B1 n1 d1)).setCell ⟨w.heap.size + 1, 2, none⟩ (.slice B2 n2 d2)).setCell ⟨w.heap.size + 1, 3, none⟩ (.slice B3 n3 d3)).setCell ⟨w.heap.size + 1, 4, none⟩ (.int .i64 x.most))) ((((((((w3).setCell ⟨w.heap.size + 1 + 1, 3, none⟩ (.slice B3 n3 d3)).setCell ⟨w.heap.size + 1 + 1, 4, none⟩ (.int .i64 x.most)).setCell ⟨w.heap.size + 1, 0, none⟩ (.string x.table)).setCell ⟨w.heap.size + 1, 1, none⟩ (.slice B1 n1 d1)).setCell ⟨w.heap.size + 1, 2, none⟩ (.slice B2 n2 d2)).setCell ⟨w.heap.size + 1, 3, none⟩ (.slice B3 n3 d3)).setCell ⟨w.heap.size + 1, 4, none⟩ (.int .i64 x.most)) B3 n3 x.ord := (((((((u3).setF IntR.stays (by simp) _).setF IntR.stays (by simp) _).setF IntR.stays (by simp) _).setF IntR.stays (by simp) _).setF IntR.stays (by simp) _).setF IntR.stays (by simp) _).setF IntR.stays (by simp) _
  have hbz : Below w.heap.size w ((((((((w3).setCell ⟨w.heap.size + 1 + 1, 3, none⟩ (.slice B3 n3 d3)).setCell ⟨w.heap.size + 1 + 1, 4, none⟩ (.int .i64 x.most)).setCell ⟨w.heap.size + 1, 0, none⟩ (.string x.table)).setCell ⟨w.heap.size + 1, 1, none⟩ (.slice B1 n1 d1)).setCell ⟨w.heap.size + 1, 2, none⟩ (.slice B2 n2 d2)).setCell ⟨w.heap.size + 1, 3, none⟩ (.slice B3 n3 d3)).setCell ⟨w.heap.size + 1, 4, none⟩ (.int .i64 x.most)) := (((((((hbx2).setCell (by simp; try omega) _).setCell (by simp; try omega) _).setCell (by simp; try omega) _).setCell (by simp; try omega) _).setCell (by simp; try omega) _).setCell (by simp; try omega) _).setCell (by simp; try omega) _
  clear ra r1 r2 rz
  go_wp2_with fail
  exact bodyPost_ret (v := .agg #[.string x.table, .slice B1 n1 d1, .slice B2 n2 d2, .slice B3 n3 d3, .int .i64 x.most]) (by simp [results, Tryz.results9, go_sem, z0, z1, z2, z3, z4]) rfl ⟨[.string x.table, .slice B1 n1 d1, .slice B2 n2 d2, .slice B3 n3 d3, .int .i64 x.most], rfl, ⟨_, _, _, _, _, _, _, _, _, rfl, y1.stays TeR.stays (fun b hb' => hb'.mono (by omega)) (fun p v _ hp => hp), y2.stays TkR.stays (fun b hb' => hb'.mono (by omega)) (fun p v _ hp => hp), y3.stays IntR.stays (fun b hb' => hb'.mono (by omega)) (fun p v _ hp => hp), ⟨hcp1, hcp2, hcp3⟩⟩, hbz⟩

theorem infoSelectT : (Tryz.prog.info? 36).map (fun i => (i.zero, i.size, i.bytes)) = some (some (.agg #[.string ⟨#[]⟩, .slice none 0 0, .slice none 0 0, .slice none 0 0, .int .i64 0]), 5, 96) := by kernel_rfl

end Go.Proofs.YtbdbealabffccaaGreat
