/-
  Contracts of what the exact laws do with tables and rows: their copies.
-/
import Derived.Test.YtlpfpcnafejkoaaTypes
import Derived.Deep.RegionHeld3
namespace Go.Proofs.Ytlpfpcnafejkoaa
open Go.RowKit
set_option linter.unusedVariables false

theorem ne1 {g b : Nat} (h : g + 1 ≤ b) : b ≠ g := by omega
theorem ne3a {g b : Nat} (h : g + 3 ≤ b) : b ≠ g + 1 + 1 := by omega
theorem ne3b {g b : Nat} (h : g + 3 ≤ b) : b ≠ g + 1 := by omega
theorem Sl.set {α : Type} {R : Rd α} (hR : Stays R) {sz : Nat} {ok : Nat → Prop} {w : World} {A : Option Addr} {n : Nat} {ds : List α} (h : Sl R sz ok w A n ds) {p : Addr} (hp : ∀ b, ok b → b ≠ p.block) (v : Value) : Sl R sz ok (w.setCell p v) A n ds :=
  h.stays hR (fun _ h => h) fun q u hq hu => (World.cell?_of_block (w := w) (a := q) (Below.heap_setCell w p v q.block (hp _ hq))).trans hu
theorem LaidR.set {α : Type} {R : Rd α} (hR : Stays R) {sz : Nat} {ok : Nat → Prop} {w : World} {cs : Array Value} {k : Nat} {ds : List α} (h : LaidR R sz ok w cs k ds) {p : Addr} (hp : ∀ b, ok b → b ≠ p.block) (v : Value) : LaidR R sz ok (w.setCell p v) cs k ds :=
  h.stays hR fun q u hq hu => (World.cell?_of_block (w := w) (a := q) (Below.heap_setCell w p v q.block (hp _ hq))).trans hu
theorem Stays.set {α : Type} {R : Rd α} (hR : Stays R) {ok : Nat → Prop} {w : World} {cs : List Value} {d : α} (h : R ok w cs d) {p : Addr} (hp : ∀ b, ok b → b ≠ p.block) (v : Value) : R ok (w.setCell p v) cs d :=
  hR _ _ _ _ _ _ h (fun _ h => h) fun q u hq hu => (World.cell?_of_block (w := w) (a := q) (Below.heap_setCell w p v q.block (hp _ hq))).trans hu
/-- Blocks from G on that are there and may be written to. -/
def okF (G : Nat) (w : World) : Nat → Prop := fun b => G ≤ b ∧ b < w.heap.size ∧ ∀ off, w.frozen? ⟨b, off, none⟩ = false
theorem frozen_setCell (w : World) (p : Addr) (v : Value) (a : Addr) : (w.setCell p v).frozen? a = w.frozen? a := by
  unfold World.frozen? World.setCell
  by_cases e : p.block = a.block
  · simp only [Array.getElem?_modify, if_pos e]
    cases h : w.heap[a.block]? with
    | none => rfl
    | some o => cases o <;> rfl
  · simp only [Array.getElem?_modify, if_neg e]
theorem okF.mono {G G' : Nat} {w : World} {b : Nat} (h : okF G w b) (hG : G' ≤ G) : okF G' w b := ⟨Nat.le_trans hG h.1, h.2⟩
theorem okF.below {G : Nat} {w w' : World} (hb : Below w.heap.size w w') {b : Nat} (h : okF G w b) : okF G w' b :=
  ⟨h.1, Nat.lt_of_lt_of_le h.2.1 hb.size, fun off => (World.frozen?_of_block (w := w) (hb.block b h.2.1)).trans (h.2.2 off)⟩
theorem okF.set {G : Nat} {w : World} {b : Nat} (h : okF G w b) (p : Addr) (v : Value) : okF G (w.setCell p v) b :=
  ⟨h.1, by simpa [World.setCell] using h.2.1, fun off => (frozen_setCell w p v _).trans (h.2.2 off)⟩
theorem Sl.belowF {α : Type} {R : Rd α} (hR : Stays R) {sz G : Nat} {w w' : World} {A : Option Addr} {n : Nat} {ds : List α} (h : Sl R sz (okF G w) w A n ds) (hb : Below w.heap.size w w') : Sl R sz (okF G w') w' A n ds :=
  h.stays hR (fun _ h => h.below hb) fun p v _ hp => below_keep hb p v hp
theorem Sl.setF {α : Type} {R : Rd α} (hR : Stays R) {sz G : Nat} {w : World} {A : Option Addr} {n : Nat} {ds : List α} (h : Sl R sz (okF G w) w A n ds) {p : Addr} (hp : p.block < G) (v : Value) : Sl R sz (okF G (w.setCell p v)) (w.setCell p v) A n ds :=
  h.stays hR (fun _ h => h.set p v) fun q u hq hu => (World.cell?_of_block (w := w) (a := q) (Below.heap_setCell w p v q.block (by have := hq.1; omega))).trans hu
theorem LaidR.belowF {α : Type} {R : Rd α} (hR : Stays R) {sz G : Nat} {w w' : World} {cs : Array Value} {k : Nat} {ds : List α} (h : LaidR R sz (okF G w) w cs k ds) (hb : Below w.heap.size w w') : LaidR R sz (okF G w') w' cs k ds := fun i hi hlt => by
  obtain ⟨c, h1, h2, h3⟩ := h i hi hlt
  exact ⟨c, h1, hR _ _ _ _ _ _ h2 (fun _ h => h.below hb) (fun p v _ hp => below_keep hb p v hp), h3⟩
theorem LaidR.setF {α : Type} {R : Rd α} (hR : Stays R) {sz G : Nat} {w : World} {cs : Array Value} {k : Nat} {ds : List α} (h : LaidR R sz (okF G w) w cs k ds) {p : Addr} (hp : p.block < G) (v : Value) : LaidR R sz (okF G (w.setCell p v)) (w.setCell p v) cs k ds := fun i hi hlt => by
  obtain ⟨c, h1, h2, h3⟩ := h i hi hlt
  exact ⟨c, h1, hR _ _ _ _ _ _ h2 (fun _ h => h.set p v) (fun q u hq hu => (World.cell?_of_block (w := w) (a := q) (Below.heap_setCell w p v q.block (by have := hq.1; omega))).trans hu), h3⟩
/-- A slice that a call has made, in blocks of its own. -/
def MadeSl {α : Type} (R : Rd α) (sz n : Nat) (ds : List α) (w : World) (e : Ending) (w' : World) : Prop := ∃ A c, e = .returned (.slice A n c) ∧ n ≤ c ∧ Sl R sz (okF w.heap.size w') w' A n ds ∧ Below w.heap.size w w'
/-- A struct that a call has made, with what it leads to in blocks of its own. -/
def MadeR {α : Type} (R : Rd α) (d : α) (w : World) (e : Ending) (w' : World) : Prop := ∃ cs : List Value, e = .returned (.agg cs.toArray) ∧ R (okF w.heap.size w') w' cs d ∧ Below w.heap.size w w'

theorem hold1 (cs : Array Value) (k : Nat) (v0 : Value) : ∀ m, m < k * 1 → (cs.setIfInBounds (k) v0)[m]? = cs[m]? := by
  intro m hm
  simp only [Array.getElem?_setIfInBounds]
  rw [if_neg (by omega)]
theorem fresh1 (cs : Array Value) (k : Nat) (v0 : Value) (hs : k * 1 + 1 ≤ cs.size) : ∀ (j : Nat) (v : Value), [v0][j]? = some v → (cs.setIfInBounds (k) v0)[k * 1 + j]? = some v := by
  intro j v hj
  have hlt : j < 1 := by obtain ⟨h, _⟩ := List.getElem?_eq_some_iff.1 hj; simpa using h
  have : j = 0 := by omega
  rcases this with rfl <;> simp at hj <;> subst hj <;> simp [Array.getElem?_setIfInBounds] <;> omega

theorem hold2 (cs : Array Value) (k : Nat) (v0 v1 : Value) : ∀ m, m < k * 2 → ((cs.setIfInBounds (k * 2) v0).setIfInBounds (k * 2 + 1) v1)[m]? = cs[m]? := by
  intro m hm
  simp only [Array.getElem?_setIfInBounds, Array.size_setIfInBounds]
  rw [if_neg (by omega)]; rw [if_neg (by omega)]
theorem fresh2 (cs : Array Value) (k : Nat) (v0 v1 : Value) (hs : k * 2 + 2 ≤ cs.size) : ∀ (j : Nat) (v : Value), [v0, v1][j]? = some v → ((cs.setIfInBounds (k * 2) v0).setIfInBounds (k * 2 + 1) v1)[k * 2 + j]? = some v := by
  intro j v hj
  have hlt : j < 2 := by obtain ⟨h, _⟩ := List.getElem?_eq_some_iff.1 hj; simpa using h
  have : j = 0 ∨ j = 1 := by omega
  rcases this with rfl | rfl <;> simp at hj <;> subst hj <;> simp [Array.getElem?_setIfInBounds] <;> omega

theorem hold3 (cs : Array Value) (k : Nat) (v0 v1 v2 : Value) : ∀ m, m < k * 3 → (((cs.setIfInBounds (k * 3) v0).setIfInBounds (k * 3 + 1) v1).setIfInBounds (k * 3 + 2) v2)[m]? = cs[m]? := by
  intro m hm
  simp only [Array.getElem?_setIfInBounds, Array.size_setIfInBounds]
  rw [if_neg (by omega)]; rw [if_neg (by omega)]; rw [if_neg (by omega)]
theorem fresh3 (cs : Array Value) (k : Nat) (v0 v1 v2 : Value) (hs : k * 3 + 3 ≤ cs.size) : ∀ (j : Nat) (v : Value), [v0, v1, v2][j]? = some v → (((cs.setIfInBounds (k * 3) v0).setIfInBounds (k * 3 + 1) v1).setIfInBounds (k * 3 + 2) v2)[k * 3 + j]? = some v := by
  intro j v hj
  have hlt : j < 3 := by obtain ⟨h, _⟩ := List.getElem?_eq_some_iff.1 hj; simpa using h
  have : j = 0 ∨ j = 1 ∨ j = 2 := by omega
  rcases this with rfl | rfl | rfl <;> simp at hj <;> subst hj <;> simp [Array.getElem?_setIfInBounds] <;> omega

theorem hold4 (cs : Array Value) (k : Nat) (v0 v1 v2 v3 : Value) : ∀ m, m < k * 4 → ((((cs.setIfInBounds (k * 4) v0).setIfInBounds (k * 4 + 1) v1).setIfInBounds (k * 4 + 2) v2).setIfInBounds (k * 4 + 3) v3)[m]? = cs[m]? := by
  intro m hm
  simp only [Array.getElem?_setIfInBounds, Array.size_setIfInBounds]
  rw [if_neg (by omega)]; rw [if_neg (by omega)]; rw [if_neg (by omega)]; rw [if_neg (by omega)]
theorem fresh4 (cs : Array Value) (k : Nat) (v0 v1 v2 v3 : Value) (hs : k * 4 + 4 ≤ cs.size) : ∀ (j : Nat) (v : Value), [v0, v1, v2, v3][j]? = some v → ((((cs.setIfInBounds (k * 4) v0).setIfInBounds (k * 4 + 1) v1).setIfInBounds (k * 4 + 2) v2).setIfInBounds (k * 4 + 3) v3)[k * 4 + j]? = some v := by
  intro j v hj
  have hlt : j < 4 := by obtain ⟨h, _⟩ := List.getElem?_eq_some_iff.1 hj; simpa using h
  have : j = 0 ∨ j = 1 ∨ j = 2 ∨ j = 3 := by omega
  rcases this with rfl | rfl | rfl | rfl <;> simp at hj <;> subst hj <;> simp [Array.getElem?_setIfInBounds] <;> omega

theorem hold5 (cs : Array Value) (k : Nat) (v0 v1 v2 v3 v4 : Value) : ∀ m, m < k * 5 → (((((cs.setIfInBounds (k * 5) v0).setIfInBounds (k * 5 + 1) v1).setIfInBounds (k * 5 + 2) v2).setIfInBounds (k * 5 + 3) v3).setIfInBounds (k * 5 + 4) v4)[m]? = cs[m]? := by
  intro m hm
  simp only [Array.getElem?_setIfInBounds, Array.size_setIfInBounds]
  rw [if_neg (by omega)]; rw [if_neg (by omega)]; rw [if_neg (by omega)]; rw [if_neg (by omega)]; rw [if_neg (by omega)]
theorem fresh5 (cs : Array Value) (k : Nat) (v0 v1 v2 v3 v4 : Value) (hs : k * 5 + 5 ≤ cs.size) : ∀ (j : Nat) (v : Value), [v0, v1, v2, v3, v4][j]? = some v → (((((cs.setIfInBounds (k * 5) v0).setIfInBounds (k * 5 + 1) v1).setIfInBounds (k * 5 + 2) v2).setIfInBounds (k * 5 + 3) v3).setIfInBounds (k * 5 + 4) v4)[k * 5 + j]? = some v := by
  intro j v hj
  have hlt : j < 5 := by obtain ⟨h, _⟩ := List.getElem?_eq_some_iff.1 hj; simpa using h
  have : j = 0 ∨ j = 1 ∨ j = 2 ∨ j = 3 ∨ j = 4 := by omega
  rcases this with rfl | rfl | rfl | rfl | rfl <;> simp at hj <;> subst hj <;> simp [Array.getElem?_setIfInBounds] <;> omega

theorem hold6 (cs : Array Value) (k : Nat) (v0 v1 v2 v3 v4 v5 : Value) : ∀ m, m < k * 6 → ((((((cs.setIfInBounds (k * 6) v0).setIfInBounds (k * 6 + 1) v1).setIfInBounds (k * 6 + 2) v2).setIfInBounds (k * 6 + 3) v3).setIfInBounds (k * 6 + 4) v4).setIfInBounds (k * 6 + 5) v5)[m]? = cs[m]? := by
  intro m hm
  simp only [Array.getElem?_setIfInBounds, Array.size_setIfInBounds]
  rw [if_neg (by omega)]; rw [if_neg (by omega)]; rw [if_neg (by omega)]; rw [if_neg (by omega)]; rw [if_neg (by omega)]; rw [if_neg (by omega)]
theorem fresh6 (cs : Array Value) (k : Nat) (v0 v1 v2 v3 v4 v5 : Value) (hs : k * 6 + 6 ≤ cs.size) : ∀ (j : Nat) (v : Value), [v0, v1, v2, v3, v4, v5][j]? = some v → ((((((cs.setIfInBounds (k * 6) v0).setIfInBounds (k * 6 + 1) v1).setIfInBounds (k * 6 + 2) v2).setIfInBounds (k * 6 + 3) v3).setIfInBounds (k * 6 + 4) v4).setIfInBounds (k * 6 + 5) v5)[k * 6 + j]? = some v := by
  intro j v hj
  have hlt : j < 6 := by obtain ⟨h, _⟩ := List.getElem?_eq_some_iff.1 hj; simpa using h
  have : j = 0 ∨ j = 1 ∨ j = 2 ∨ j = 3 ∨ j = 4 ∨ j = 5 := by omega
  rcases this with rfl | rfl | rfl | rfl | rfl | rfl <;> simp at hj <;> subst hj <;> simp [Array.getElem?_setIfInBounds] <;> omega

theorem infoIntT : (Try.prog.info? 2).map (fun i => (i.zero, i.size, i.bytes)) = some (some (.int .i64 0), 1, 8) := by kernel_rfl
theorem infoValT : (Try.prog.info? 57).map (fun i => (i.zero, i.size, i.bytes)) = some (some (.agg #[.int .i64 0, .int .i64 0, .string ⟨#[]⟩]), 3, 32) := by kernel_rfl
set_option maxRecDepth 100000 in
set_option maxHeartbeats 1000000 in
theorem lawsToValL (A : Option Addr) (n c : Nat) (l : List Vl) (ok : Nat → Prop) (w : World) (h : Sl VlR 3 ok w A n l) (hs : szL (fun v : Vl => v.s.size) l ≤ 1048576) :
    Calls Try.prog 37 #[.slice A n c] w (MadeSl VlR 3 n l w) := by
  obtain rfl : l.length = n := h.1
  have hn : l.length ≤ 1048576 := by unfold szL at hs; omega
  have HS := Lib.hid hs
  clear hs
  have hmk := fun w => mk_rows (P := Try.prog) Try.underlying40 infoValT (by omega) l.length hn w
  go_enter Try.func37, Try.ntmps37
  go_wp2
  have row := Row.new w 57 (madeCells #[.int .i64 0, .int .i64 0, .string ⟨#[]⟩] (l.length * 3))
  have hb0 := (Below.refl w.heap.size w).alloc (Nat.le_refl _) (.cells (madeCells #[.int .i64 0, .int .i64 0, .string ⟨#[]⟩] (l.length * 3)) 57)
  have hsz := size_madeCells #[.int .i64 0, .int .i64 0, .string ⟨#[]⟩] (l.length * 3)
  have hx0 : (w.alloc (.cells (madeCells #[.int .i64 0, .int .i64 0, .string ⟨#[]⟩] (l.length * 3)) 57)).heap.size = w.heap.size + 1 := by simp
  generalize w.alloc (.cells (madeCells #[.int .i64 0, .int .i64 0, .string ⟨#[]⟩] (l.length * 3)) 57) = x at *
  generalize madeCells #[.int .i64 0, .int .i64 0, .string ⟨#[]⟩] (l.length * 3) = cs0 at *
  have HZ := Lib.hid hsz
  have HX0 := Lib.hid hx0
  clear hmk hsz hx0
  go_loopw [4] (fun i wr => ∃ (k : Nat) (cs : Array Value), k ≤ l.length ∧ i = .int .i64 k ∧ Row wr w.heap.size 57 cs ∧ Hid (cs.size = l.length * 3) ∧ Hid (LaidR VlR 3 (okF (w.heap.size + 1) wr) wr cs k l) ∧ Hid (w.heap.size + 1 ≤ wr.heap.size) ∧ Below w.heap.size w wr) (fun i _ => l.length - (intOf i).toNat)
  case atStart => exact ⟨0, cs0, by omega, rfl, row, Lib.hid (by rw [HZ.out]), Lib.hid (LaidR.zero _ _ _ _ _ _), Lib.hid (by rw [HX0.out]; exact Nat.le_refl _), hb0⟩
  case round =>
    obtain ⟨k, cs, hk, rfl, hrow, hcs, hlaid, hgw, hb⟩ := hrel
    by_cases hlt : k < l.length
    · obtain ⟨b, off, -, rfl, q0, q1, q2⟩ := VlR.at_ (h.below VlR.stays hb) hlt
      have hsz1 : k * 3 + 3 ≤ cs.size := by rw [hcs.out]; omega
      have hszk : l[k].s.size ≤ 1048576 := by have := HS.out; have := sum_mem_le (fun v : Vl => v.s.size) l k hlt; unfold szL at *; (try simp only at *); omega
      have HSK := Lib.hid hszk
      clear hszk
      go_wp2_with fail
      refine (lawsToVal l[k].k l[k].n l[k].s _).mono ?_
      rintro e w1 ⟨rfl, hb1⟩
      have hrow1 := hrow.below hb1
      have hgw1 : w.heap.size + 1 ≤ w1.heap.size := Nat.le_trans hgw.out hb1.size
      have HGW := Lib.hid hgw1
      clear hgw1
      have hl1 := Lib.hid (hlaid.out.belowF VlR.stays hb1)
      have q : ∀ j, j < 3 → w1.cell? ⟨w.heap.size, k * 3 + j, none⟩ = some (cs[k * 3 + j]?.getD undef) := fun j hj => by
        rw [hrow1.cell, Array.getElem?_eq_getElem (by omega)]; rfl
      have z0 : w1.cell? ⟨w.heap.size, k * 3, none⟩ = some (cs[k * 3]?.getD undef) := q 0 (by omega)
      have z1 := q 1 (by omega)
      have z2 := q 2 (by omega)
      have f0 := hrow1.free (k * 3)
      have f1 := hrow1.free (k * 3 + 1)
      have f2 := hrow1.free (k * 3 + 2)
      clear q
      have HR := Lib.hid hrow1
      clear hrow1 hrow q0 q1 q2
      go_wp2_with fail
      go_roundw
      case rel =>
        exact ⟨k + 1, _, by omega, by go_num, (((HR.out).set _ _).set _ _).set _ _, Lib.hid (by simp [hcs.out]), Lib.hid (((((hl1.out).setF VlR.stays (by simp) _).setF VlR.stays (by simp) _).setF VlR.stays (by simp) _).more hlt (c := [.int .i64 l[k].k, .int .i64 l[k].n, .string l[k].s]) rfl rfl (hold3 cs k _ _ _) (fresh3 cs k _ _ _ hsz1)), Lib.hid (by simpa using HGW.out), (((hb.trans (hb1.mono hb.size)).setCell (by simp) _).setCell (by simp) _).setCell (by simp) _⟩
      case measure => simp [intOf]; omega
    · obtain rfl : k = l.length := by omega
      go_wp2
      go_ret
      exact ⟨_, _, rfl, Nat.le_refl _, (sl_of_laid (ok := okF w.heap.size _) hrow ⟨Nat.le_refl _, hgw.out, fun off => hrow.free off⟩ (fun i hi hlt' => by
        obtain ⟨c', h1, h2, h3⟩ := hlaid.out i hi hlt'
        exact ⟨c', h1, VlR.stays _ _ _ _ _ _ h2 (fun b hb' => hb'.mono (Nat.le_succ _)) (fun p v _ hp => hp), h3⟩) (Nat.le_refl _)), hb⟩

set_option maxRecDepth 100000 in
set_option maxHeartbeats 1000000 in
theorem lawsToEntry (x : En) (A0 : Option Addr) (n0 c0 : Nat) (ok : Nat → Prop) (w : World) (h0 : Sl VlR 3 ok w A0 n0 x.key) (hs : x.sz ≤ 1048576) :
    Calls Try.prog 17 #[.agg #[.slice A0 n0 c0, .int .i64 x.id]] w (MadeR EnR x w) := by
  have hs0 : szL (fun v : Vl => v.s.size) x.key ≤ 1048576 := by have := hs; unfold En.sz at this; omega
  have HS0 := Lib.hid hs0
  clear hs0
  clear hs
  have ra := ((Row.new w 33 #[.slice A0 n0 c0, .int .i64 x.id]).alloc (.cells #[.slice none 0 0, .int .i64 0] 42)).alloc (.cells #[.slice none 0 0, .int .i64 0] 42)
  have r1 := (Row.newAt (w.alloc (.cells #[.slice A0 n0 c0, .int .i64 x.id] 33)) 42 #[.slice none 0 0, .int .i64 0] (w.heap.size + 1) (by simp)).alloc (.cells #[.slice none 0 0, .int .i64 0] 42)
  have r2 := Row.newAt ((w.alloc (.cells #[.slice A0 n0 c0, .int .i64 x.id] 33)).alloc (.cells #[.slice none 0 0, .int .i64 0] 42)) 42 #[.slice none 0 0, .int .i64 0] (w.heap.size + 1 + 1) (by simp)
  have hb0 := ((((Below.refl w.heap.size w).alloc (Nat.le_refl _) (.cells #[.slice A0 n0 c0, .int .i64 x.id] 33)).alloc (by simp) (.cells #[.slice none 0 0, .int .i64 0] 42)).alloc (by simp; omega) (.cells #[.slice none 0 0, .int .i64 0] 42))
  have hz0 : w.heap.size + 3 ≤ (((w.alloc (.cells #[.slice A0 n0 c0, .int .i64 x.id] 33)).alloc (.cells #[.slice none 0 0, .int .i64 0] 42)).alloc (.cells #[.slice none 0 0, .int .i64 0] 42)).heap.size := by simp
  go_enter Try.func17, Try.ntmps17
  go_wp2_with fail
  generalize ((w.alloc (.cells #[.slice A0 n0 c0, .int .i64 x.id] 33)).alloc (.cells #[.slice none 0 0, .int .i64 0] 42)).alloc (.cells #[.slice none 0 0, .int .i64 0] 42) = x0 at *
  refine (lawsToValL A0 n0 c0 x.key ok _ (h0.below VlR.stays hb0) HS0.out).mono ?_
  rintro e w1 ⟨B0, d0, rfl, hcp0, t0, hc0⟩
  have u0 := t0.stays VlR.stays (ok' := okF (w.heap.size + 3) w1) (fun b hb' => hb'.mono (by omega)) (fun p v _ hp => hp)
  clear t0
  have ra := ra.below hc0
  have r1 := r1.below hc0
  have r2 := r2.below hc0
  have hbx0 := hb0.trans (hc0.mono hb0.size)
  have hz1 : w.heap.size + 3 ≤ w1.heap.size := Nat.le_trans hz0 hc0.size
  obtain ⟨⟨a_0_0, a_0_1⟩, -⟩ := ra.all2
  obtain ⟨⟨b_0_0, b_0_1⟩, ⟨f_0_0, f_0_1⟩⟩ := r2.all2
  obtain ⟨⟨g_0_0, g_0_1⟩, ⟨k_0_0, k_0_1⟩⟩ := r1.all2
  have rz : Row (((((w1).setCell ⟨w.heap.size + 1 + 1, 0, none⟩ (.slice B0 n0 d0)).setCell ⟨w.heap.size + 1 + 1, 1, none⟩ (.int .i64 x.id)).setCell ⟨w.heap.size + 1, 0, none⟩ (.slice B0 n0 d0)).setCell ⟨w.heap.size + 1, 1, none⟩ (.int .i64 x.id)) (w.heap.size + 1) 42 #[.slice B0 n0 d0, .int .i64 x.id] := ((((r1).far (by simp) _).far (by simp) _).set 0 _).set 1 _
  obtain ⟨⟨z0, z1⟩, -⟩ := rz.all2
  have y0 : Sl VlR 3 (okF (w.heap.size + 3) (((((w1).setCell ⟨w.heap.size + 1 + 1, 0, none⟩ (.slice B0 n0 d0)).setCell ⟨w.heap.size + 1 + 1, 1, none⟩ (.int .i64 x.id)).setCell ⟨w.heap.size + 1, 0, none⟩ (.slice B0 n0 d0)).setCell ⟨w.heap.size + 1, 1, none⟩ (.int .i64 x.id))) (((((w1).setCell ⟨w.heap.size + 1 + 1, 0, none⟩ (.slice B0 n0 d0)).setCell ⟨w.heap.size + 1 + 1, 1, none⟩ (.int .i64 x.id)).setCell ⟨w.heap.size + 1, 0, none⟩ (.slice B0 n0 d0)).setCell ⟨w.heap.size + 1, 1, none⟩ (.int .i64 x.id)) B0 n0 x.key := ((((u0).setF VlR.stays (by simp) _).setF VlR.stays (by simp) _).setF VlR.stays (by simp) _).setF VlR.stays (by simp) _
  have hbz : Below w.heap.size w (((((w1).setCell ⟨w.heap.size + 1 + 1, 0, none⟩ (.slice B0 n0 d0)).setCell ⟨w.heap.size + 1 + 1, 1, none⟩ (.int .i64 x.id)).setCell ⟨w.heap.size + 1, 0, none⟩ (.slice B0 n0 d0)).setCell ⟨w.heap.size + 1, 1, none⟩ (.int .i64 x.id)) := ((((hbx0).setCell (by simp; try omega) _).setCell (by simp; try omega) _).setCell (by simp; try omega) _).setCell (by simp; try omega) _
  clear ra r1 r2 rz
  go_wp2_with fail
  exact bodyPost_ret (v := .agg #[.slice B0 n0 d0, .int .i64 x.id]) (by simp [results, Try.results17, go_sem, z0, z1]) rfl ⟨[.slice B0 n0 d0, .int .i64 x.id], rfl, ⟨_, _, _, rfl, y0.stays VlR.stays (fun b hb' => hb'.mono (by omega)) (fun p v _ hp => hp), hcp0⟩, hbz⟩

theorem infoEntryT : (Try.prog.info? 42).map (fun i => (i.zero, i.size, i.bytes)) = some (some (.agg #[.slice none 0 0, .int .i64 0]), 2, 32) := by kernel_rfl
set_option maxRecDepth 100000 in
set_option maxHeartbeats 1000000 in
theorem lawsToEntryL (A : Option Addr) (n c : Nat) (l : List En) (ok : Nat → Prop) (w : World) (h : Sl EnR 2 ok w A n l) (hs : szL En.sz l ≤ 1048576) :
    Calls Try.prog 16 #[.slice A n c] w (MadeSl EnR 2 n l w) := by
  obtain rfl : l.length = n := h.1
  have hn : l.length ≤ 1048576 := by unfold szL at hs; omega
  have HS := Lib.hid hs
  clear hs
  have hmk := fun w => mk_rows (P := Try.prog) Try.underlying36 infoEntryT (by omega) l.length hn w
  go_enter Try.func16, Try.ntmps16
  go_wp2
  have row := Row.new w 42 (madeCells #[.slice none 0 0, .int .i64 0] (l.length * 2))
  have hb0 := (Below.refl w.heap.size w).alloc (Nat.le_refl _) (.cells (madeCells #[.slice none 0 0, .int .i64 0] (l.length * 2)) 42)
  have hsz := size_madeCells #[.slice none 0 0, .int .i64 0] (l.length * 2)
  have hx0 : (w.alloc (.cells (madeCells #[.slice none 0 0, .int .i64 0] (l.length * 2)) 42)).heap.size = w.heap.size + 1 := by simp
  generalize w.alloc (.cells (madeCells #[.slice none 0 0, .int .i64 0] (l.length * 2)) 42) = x at *
  generalize madeCells #[.slice none 0 0, .int .i64 0] (l.length * 2) = cs0 at *
  have HZ := Lib.hid hsz
  have HX0 := Lib.hid hx0
  clear hmk hsz hx0
  go_loopw [4] (fun i wr => ∃ (k : Nat) (cs : Array Value), k ≤ l.length ∧ i = .int .i64 k ∧ Row wr w.heap.size 42 cs ∧ Hid (cs.size = l.length * 2) ∧ Hid (LaidR EnR 2 (okF (w.heap.size + 1) wr) wr cs k l) ∧ Hid (w.heap.size + 1 ≤ wr.heap.size) ∧ Below w.heap.size w wr) (fun i _ => l.length - (intOf i).toNat)
  case atStart => exact ⟨0, cs0, by omega, rfl, row, Lib.hid (by rw [HZ.out]), Lib.hid (LaidR.zero _ _ _ _ _ _), Lib.hid (by rw [HX0.out]; exact Nat.le_refl _), hb0⟩
  case round =>
    obtain ⟨k, cs, hk, rfl, hrow, hcs, hlaid, hgw, hb⟩ := hrel
    by_cases hlt : k < l.length
    · obtain ⟨b, off, A0, n0, c0, -, rfl, q0, q1, s0, -⟩ := EnR.at_ (h.below EnR.stays hb) hlt
      have hsz1 : k * 2 + 2 ≤ cs.size := by rw [hcs.out]; omega
      have hszk : l[k].sz ≤ 1048576 := by have := HS.out; have := sum_mem_le (En.sz) l k hlt; unfold szL at *; (try simp only at *); omega
      have HSK := Lib.hid hszk
      clear hszk
      go_wp2_with fail
      refine (lawsToEntry l[k] A0 n0 c0 ok _ s0 HSK.out).mono ?_
      rintro e w1 ⟨cs', rfl, hR1, hb1⟩
      obtain ⟨B0, m0, d0, rfl, t0, hcp⟩ := hR1
      have hrow1 := hrow.below hb1
      have hgw1 : w.heap.size + 1 ≤ w1.heap.size := Nat.le_trans hgw.out hb1.size
      have HGW := Lib.hid hgw1
      clear hgw1
      have hl1 := Lib.hid (hlaid.out.belowF EnR.stays hb1)
      have q : ∀ j, j < 2 → w1.cell? ⟨w.heap.size, k * 2 + j, none⟩ = some (cs[k * 2 + j]?.getD undef) := fun j hj => by
        rw [hrow1.cell, Array.getElem?_eq_getElem (by omega)]; rfl
      have z0 : w1.cell? ⟨w.heap.size, k * 2, none⟩ = some (cs[k * 2]?.getD undef) := q 0 (by omega)
      have z1 := q 1 (by omega)
      have f0 := hrow1.free (k * 2)
      have f1 := hrow1.free (k * 2 + 1)
      clear q
      have HR := Lib.hid hrow1
      clear hrow1 hrow q0 q1
      go_wp2_with fail
      go_roundw
      case rel =>
        have y0 := (((t0.stays VlR.stays (ok' := okF (w.heap.size + 1) w1) (fun b hb' => hb'.mono hgw.out) (fun p v _ hp => hp))).setF VlR.stays (p := ⟨w.heap.size, k * 2, none⟩) (by simp) (.slice B0 m0 d0)).setF VlR.stays (p := ⟨w.heap.size, k * 2 + 1, none⟩) (by simp) (.int .i64 l[k].id)
        exact ⟨k + 1, _, by omega, by go_num, ((HR.out).set _ _).set _ _, Lib.hid (by simp [hcs.out]), Lib.hid ((((hl1.out).setF EnR.stays (by simp) _).setF EnR.stays (by simp) _).more hlt (c := [.slice B0 m0 d0, .int .i64 l[k].id]) rfl ⟨_, _, _, rfl, y0, hcp⟩ (hold2 cs k _ _) (fresh2 cs k _ _ hsz1)), Lib.hid (by simpa using HGW.out), ((hb.trans (hb1.mono hb.size)).setCell (by simp) _).setCell (by simp) _⟩
      case measure => simp [intOf]; omega
    · obtain rfl : k = l.length := by omega
      go_wp2
      go_ret
      exact ⟨_, _, rfl, Nat.le_refl _, (sl_of_laid (ok := okF w.heap.size _) hrow ⟨Nat.le_refl _, hgw.out, fun off => hrow.free off⟩ (fun i hi hlt' => by
        obtain ⟨c', h1, h2, h3⟩ := hlaid.out i hi hlt'
        exact ⟨c', h1, EnR.stays _ _ _ _ _ _ h2 (fun b hb' => hb'.mono (Nat.le_succ _)) (fun p v _ hp => hp), h3⟩) (Nat.le_refl _)), hb⟩

set_option maxRecDepth 100000 in
set_option maxHeartbeats 1000000 in
theorem lawsToChange (x : Ch) (A2 : Option Addr) (n2 c2 : Nat) (A3 : Option Addr) (n3 c3 : Nat) (ok : Nat → Prop) (w : World) (h2 : Sl VlR 3 ok w A2 n2 x.old) (h3 : Sl VlR 3 ok w A3 n3 x.now) (hs : x.sz ≤ 1048576) :
    Calls Try.prog 28 #[.agg #[.int .i64 x.table, .int .i64 x.id, .slice A2 n2 c2, .slice A3 n3 c3]] w (MadeR ChR x w) := by
  have hs2 : szL (fun v : Vl => v.s.size) x.old ≤ 1048576 := by have := hs; unfold Ch.sz at this; omega
  have HS2 := Lib.hid hs2
  clear hs2
  have hs3 : szL (fun v : Vl => v.s.size) x.now ≤ 1048576 := by have := hs; unfold Ch.sz at this; omega
  have HS3 := Lib.hid hs3
  clear hs3
  clear hs
  have ra := ((Row.new w 51 #[.int .i64 x.table, .int .i64 x.id, .slice A2 n2 c2, .slice A3 n3 c3]).alloc (.cells #[.int .i64 0, .int .i64 0, .slice none 0 0, .slice none 0 0] 53)).alloc (.cells #[.int .i64 x.table, .int .i64 x.id, .slice none 0 0, .slice none 0 0] 53)
  have r1 := (Row.newAt (w.alloc (.cells #[.int .i64 x.table, .int .i64 x.id, .slice A2 n2 c2, .slice A3 n3 c3] 51)) 53 #[.int .i64 0, .int .i64 0, .slice none 0 0, .slice none 0 0] (w.heap.size + 1) (by simp)).alloc (.cells #[.int .i64 x.table, .int .i64 x.id, .slice none 0 0, .slice none 0 0] 53)
  have r2 := Row.newAt ((w.alloc (.cells #[.int .i64 x.table, .int .i64 x.id, .slice A2 n2 c2, .slice A3 n3 c3] 51)).alloc (.cells #[.int .i64 0, .int .i64 0, .slice none 0 0, .slice none 0 0] 53)) 53 #[.int .i64 x.table, .int .i64 x.id, .slice none 0 0, .slice none 0 0] (w.heap.size + 1 + 1) (by simp)
  have hb0 := ((((Below.refl w.heap.size w).alloc (Nat.le_refl _) (.cells #[.int .i64 x.table, .int .i64 x.id, .slice A2 n2 c2, .slice A3 n3 c3] 51)).alloc (by simp) (.cells #[.int .i64 0, .int .i64 0, .slice none 0 0, .slice none 0 0] 53)).alloc (by simp; omega) (.cells #[.int .i64 x.table, .int .i64 x.id, .slice none 0 0, .slice none 0 0] 53))
  have hz0 : w.heap.size + 3 ≤ (((w.alloc (.cells #[.int .i64 x.table, .int .i64 x.id, .slice A2 n2 c2, .slice A3 n3 c3] 51)).alloc (.cells #[.int .i64 0, .int .i64 0, .slice none 0 0, .slice none 0 0] 53)).alloc (.cells #[.int .i64 x.table, .int .i64 x.id, .slice none 0 0, .slice none 0 0] 53)).heap.size := by simp
  go_enter Try.func28, Try.ntmps28
  go_wp2_with fail
  generalize ((w.alloc (.cells #[.int .i64 x.table, .int .i64 x.id, .slice A2 n2 c2, .slice A3 n3 c3] 51)).alloc (.cells #[.int .i64 0, .int .i64 0, .slice none 0 0, .slice none 0 0] 53)).alloc (.cells #[.int .i64 x.table, .int .i64 x.id, .slice none 0 0, .slice none 0 0] 53) = x0 at *
  refine (lawsToValL A2 n2 c2 x.old ok _ (h2.below VlR.stays hb0) HS2.out).mono ?_
  rintro e w1 ⟨B2, d2, rfl, hcp2, t2, hc0⟩
  have u2 := t2.stays VlR.stays (ok' := okF (w.heap.size + 3) w1) (fun b hb' => hb'.mono (by omega)) (fun p v _ hp => hp)
  clear t2
  have ra := ra.below hc0
  have r1 := r1.below hc0
  have r2 := r2.below hc0
  have hbx0 := hb0.trans (hc0.mono hb0.size)
  have hz1 : w.heap.size + 3 ≤ w1.heap.size := Nat.le_trans hz0 hc0.size
  obtain ⟨⟨a_0_0, a_0_1, a_0_2, a_0_3⟩, -⟩ := ra.all4
  obtain ⟨⟨b_0_0, b_0_1, b_0_2, b_0_3⟩, ⟨f_0_0, f_0_1, f_0_2, f_0_3⟩⟩ := r2.all4
  go_wp2_with fail
  have ra' : Row ((w1).setCell ⟨w.heap.size + 1 + 1, 2, none⟩ (.slice B2 n2 d2)) w.heap.size 51 #[.int .i64 x.table, .int .i64 x.id, .slice A2 n2 c2, .slice A3 n3 c3] := (ra).far (by simp; try omega) _
  have r1' : Row ((w1).setCell ⟨w.heap.size + 1 + 1, 2, none⟩ (.slice B2 n2 d2)) (w.heap.size + 1) 53 #[.int .i64 0, .int .i64 0, .slice none 0 0, .slice none 0 0] := (r1).far (by simp) _
  have r2' : Row ((w1).setCell ⟨w.heap.size + 1 + 1, 2, none⟩ (.slice B2 n2 d2)) (w.heap.size + 1 + 1) 53 #[.int .i64 x.table, .int .i64 x.id, .slice B2 n2 d2, .slice none 0 0] := (r2).set 2 _
  have hb1 : Below w.heap.size w ((w1).setCell ⟨w.heap.size + 1 + 1, 2, none⟩ (.slice B2 n2 d2)) := (hbx0).setCell (by simp; try omega) _
  have hz1' : w.heap.size + 3 ≤ ((w1).setCell ⟨w.heap.size + 1 + 1, 2, none⟩ (.slice B2 n2 d2)).heap.size := by simpa using hz1
  have u2' : Sl VlR 3 (okF (w.heap.size + 3) ((w1).setCell ⟨w.heap.size + 1 + 1, 2, none⟩ (.slice B2 n2 d2))) ((w1).setCell ⟨w.heap.size + 1 + 1, 2, none⟩ (.slice B2 n2 d2)) B2 n2 x.old := (u2).setF VlR.stays (by simp) _
  clear ra r1 r2 hz1 u2 a_0_0 a_0_1 a_0_2 a_0_3 b_0_0 b_0_1 b_0_2 b_0_3 f_0_0 f_0_1 f_0_2 f_0_3
  generalize (w1).setCell ⟨w.heap.size + 1 + 1, 2, none⟩ (.slice B2 n2 d2) = x1 at *
  have ra := ra'
  have r1 := r1'
  have r2 := r2'
  have hz1 := hz1'
  have u2 := u2'
  clear ra' r1' r2' hz1' u2'
  refine (lawsToValL A3 n3 c3 x.now ok _ (h3.below VlR.stays hb1) HS3.out).mono ?_
  rintro e w2 ⟨B3, d3, rfl, hcp3, t3, hc1⟩
  have u3 := t3.stays VlR.stays (ok' := okF (w.heap.size + 3) w2) (fun b hb' => hb'.mono (by omega)) (fun p v _ hp => hp)
  clear t3
  have ra := ra.below hc1
  have r1 := r1.below hc1
  have r2 := r2.below hc1
  have hbx1 := hb1.trans (hc1.mono hb1.size)
  have hz2 : w.heap.size + 3 ≤ w2.heap.size := Nat.le_trans hz1 hc1.size
  have u2 := u2.belowF VlR.stays hc1
  obtain ⟨⟨a_1_0, a_1_1, a_1_2, a_1_3⟩, -⟩ := ra.all4
  obtain ⟨⟨b_1_0, b_1_1, b_1_2, b_1_3⟩, ⟨f_1_0, f_1_1, f_1_2, f_1_3⟩⟩ := r2.all4
  obtain ⟨⟨g_1_0, g_1_1, g_1_2, g_1_3⟩, ⟨k_1_0, k_1_1, k_1_2, k_1_3⟩⟩ := r1.all4
  have rz : Row ((((((w2).setCell ⟨w.heap.size + 1 + 1, 3, none⟩ (.slice B3 n3 d3)).setCell ⟨w.heap.size + 1, 0, none⟩ (.int .i64 x.table)).setCell ⟨w.heap.size + 1, 1, none⟩ (.int .i64 x.id)).setCell ⟨w.heap.size + 1, 2, none⟩ (.slice B2 n2 d2)).setCell ⟨w.heap.size + 1, 3, none⟩ (.slice B3 n3 d3)) (w.heap.size + 1) 53 #[.int .i64 x.table, .int .i64 x.id, .slice B2 n2 d2, .slice B3 n3 d3] := (((((r1).far (by simp) _).set 0 _).set 1 _).set 2 _).set 3 _
  obtain ⟨⟨z0, z1, z2, z3⟩, -⟩ := rz.all4
  have y2 : Sl VlR 3 (okF (w.heap.size + 3) ((((((w2).setCell ⟨w.heap.size + 1 + 1, 3, none⟩ (.slice B3 n3 d3)).setCell ⟨w.heap.size + 1, 0, none⟩ (.int .i64 x.table)).setCell ⟨w.heap.size + 1, 1, none⟩ (.int .i64 x.id)).setCell ⟨w.heap.size + 1, 2, none⟩ (.slice B2 n2 d2)).setCell ⟨w.heap.size + 1, 3, none⟩ (.slice B3 n3 d3))) ((((((w2).setCell ⟨w.heap.size + 1 + 1, 3, none⟩ (.slice B3 n3 d3)).setCell ⟨w.heap.size + 1, 0, none⟩ (.int .i64 x.table)).setCell ⟨w.heap.size + 1, 1, none⟩ (.int .i64 x.id)).setCell ⟨w.heap.size + 1, 2, none⟩ (.slice B2 n2 d2)).setCell ⟨w.heap.size + 1, 3, none⟩ (.slice B3 n3 d3)) B2 n2 x.old := (((((u2).setF VlR.stays (by simp) _).setF VlR.stays (by simp) _).setF VlR.stays (by simp) _).setF VlR.stays (by simp) _).setF VlR.stays (by simp) _
  have y3 : Sl VlR 3 (okF (w.heap.size + 3) ((((((w2).setCell ⟨w.heap.size + 1 + 1, 3, none⟩ (.slice B3 n3 d3)).setCell ⟨w.heap.size + 1, 0, none⟩ (.int .i64 x.table)).setCell ⟨w.heap.size + 1, 1, none⟩ (.int .i64 x.id)).setCell ⟨w.heap.size + 1, 2, none⟩ (.slice B2 n2 d2)).setCell ⟨w.heap.size + 1, 3, none⟩ (.slice B3 n3 d3))) ((((((w2).setCell ⟨w.heap.size + 1 + 1, 3, none⟩ (.slice B3 n3 d3)).setCell ⟨w.heap.size + 1, 0, none⟩ (.int .i64 x.table)).setCell ⟨w.heap.size + 1, 1, none⟩ (.int .i64 x.id)).setCell ⟨w.heap.size + 1, 2, none⟩ (.slice B2 n2 d2)).setCell ⟨w.heap.size + 1, 3, none⟩ (.slice B3 n3 d3)) B3 n3 x.now := (((((u3).setF VlR.stays (by simp) _).setF VlR.stays (by simp) _).setF VlR.stays (by simp) _).setF VlR.stays (by simp) _).setF VlR.stays (by simp) _
  have hbz : Below w.heap.size w ((((((w2).setCell ⟨w.heap.size + 1 + 1, 3, none⟩ (.slice B3 n3 d3)).setCell ⟨w.heap.size + 1, 0, none⟩ (.int .i64 x.table)).setCell ⟨w.heap.size + 1, 1, none⟩ (.int .i64 x.id)).setCell ⟨w.heap.size + 1, 2, none⟩ (.slice B2 n2 d2)).setCell ⟨w.heap.size + 1, 3, none⟩ (.slice B3 n3 d3)) := (((((hbx1).setCell (by simp; try omega) _).setCell (by simp; try omega) _).setCell (by simp; try omega) _).setCell (by simp; try omega) _).setCell (by simp; try omega) _
  clear ra r1 r2 rz
  go_wp2_with fail
  exact bodyPost_ret (v := .agg #[.int .i64 x.table, .int .i64 x.id, .slice B2 n2 d2, .slice B3 n3 d3]) (by simp [results, Try.results28, go_sem, z0, z1, z2, z3]) rfl ⟨[.int .i64 x.table, .int .i64 x.id, .slice B2 n2 d2, .slice B3 n3 d3], rfl, ⟨_, _, _, _, _, _, rfl, y2.stays VlR.stays (fun b hb' => hb'.mono (by omega)) (fun p v _ hp => hp), y3.stays VlR.stays (fun b hb' => hb'.mono (by omega)) (fun p v _ hp => hp), ⟨hcp2, hcp3⟩⟩, hbz⟩

theorem infoChangeT : (Try.prog.info? 53).map (fun i => (i.zero, i.size, i.bytes)) = some (some (.agg #[.int .i64 0, .int .i64 0, .slice none 0 0, .slice none 0 0]), 4, 64) := by kernel_rfl
set_option maxRecDepth 100000 in
set_option maxHeartbeats 1000000 in
theorem lawsToChangeL (A : Option Addr) (n c : Nat) (l : List Ch) (ok : Nat → Prop) (w : World) (h : Sl ChR 4 ok w A n l) (hs : szL Ch.sz l ≤ 1048576) :
    Calls Try.prog 8 #[.slice A n c] w (MadeSl ChR 4 n l w) := by
  obtain rfl : l.length = n := h.1
  have hn : l.length ≤ 1048576 := by unfold szL at hs; omega
  have HS := Lib.hid hs
  clear hs
  have hmk := fun w => mk_rows (P := Try.prog) Try.underlying24 infoChangeT (by omega) l.length hn w
  go_enter Try.func8, Try.ntmps8
  go_wp2
  have row := Row.new w 53 (madeCells #[.int .i64 0, .int .i64 0, .slice none 0 0, .slice none 0 0] (l.length * 4))
  have hb0 := (Below.refl w.heap.size w).alloc (Nat.le_refl _) (.cells (madeCells #[.int .i64 0, .int .i64 0, .slice none 0 0, .slice none 0 0] (l.length * 4)) 53)
  have hsz := size_madeCells #[.int .i64 0, .int .i64 0, .slice none 0 0, .slice none 0 0] (l.length * 4)
  have hx0 : (w.alloc (.cells (madeCells #[.int .i64 0, .int .i64 0, .slice none 0 0, .slice none 0 0] (l.length * 4)) 53)).heap.size = w.heap.size + 1 := by simp
  generalize w.alloc (.cells (madeCells #[.int .i64 0, .int .i64 0, .slice none 0 0, .slice none 0 0] (l.length * 4)) 53) = x at *
  generalize madeCells #[.int .i64 0, .int .i64 0, .slice none 0 0, .slice none 0 0] (l.length * 4) = cs0 at *
  have HZ := Lib.hid hsz
  have HX0 := Lib.hid hx0
  clear hmk hsz hx0
  go_loopw [4] (fun i wr => ∃ (k : Nat) (cs : Array Value), k ≤ l.length ∧ i = .int .i64 k ∧ Row wr w.heap.size 53 cs ∧ Hid (cs.size = l.length * 4) ∧ Hid (LaidR ChR 4 (okF (w.heap.size + 1) wr) wr cs k l) ∧ Hid (w.heap.size + 1 ≤ wr.heap.size) ∧ Below w.heap.size w wr) (fun i _ => l.length - (intOf i).toNat)
  case atStart => exact ⟨0, cs0, by omega, rfl, row, Lib.hid (by rw [HZ.out]), Lib.hid (LaidR.zero _ _ _ _ _ _), Lib.hid (by rw [HX0.out]; exact Nat.le_refl _), hb0⟩
  case round =>
    obtain ⟨k, cs, hk, rfl, hrow, hcs, hlaid, hgw, hb⟩ := hrel
    by_cases hlt : k < l.length
    · obtain ⟨b, off, A2, n2, c2, A3, n3, c3, -, rfl, q0, q1, q2, q3, s2, s3, -⟩ := ChR.at_ (h.below ChR.stays hb) hlt
      have hsz1 : k * 4 + 4 ≤ cs.size := by rw [hcs.out]; omega
      have hszk : l[k].sz ≤ 1048576 := by have := HS.out; have := sum_mem_le (Ch.sz) l k hlt; unfold szL at *; (try simp only at *); omega
      have HSK := Lib.hid hszk
      clear hszk
      go_wp2_with fail
      refine (lawsToChange l[k] A2 n2 c2 A3 n3 c3 ok _ s2 s3 HSK.out).mono ?_
      rintro e w1 ⟨cs', rfl, hR1, hb1⟩
      obtain ⟨B2, m2, d2, B3, m3, d3, rfl, t2, t3, hcp⟩ := hR1
      have hrow1 := hrow.below hb1
      have hgw1 : w.heap.size + 1 ≤ w1.heap.size := Nat.le_trans hgw.out hb1.size
      have HGW := Lib.hid hgw1
      clear hgw1
      have hl1 := Lib.hid (hlaid.out.belowF ChR.stays hb1)
      have q : ∀ j, j < 4 → w1.cell? ⟨w.heap.size, k * 4 + j, none⟩ = some (cs[k * 4 + j]?.getD undef) := fun j hj => by
        rw [hrow1.cell, Array.getElem?_eq_getElem (by omega)]; rfl
      have z0 : w1.cell? ⟨w.heap.size, k * 4, none⟩ = some (cs[k * 4]?.getD undef) := q 0 (by omega)
      have z1 := q 1 (by omega)
      have z2 := q 2 (by omega)
      have z3 := q 3 (by omega)
      have f0 := hrow1.free (k * 4)
      have f1 := hrow1.free (k * 4 + 1)
      have f2 := hrow1.free (k * 4 + 2)
      have f3 := hrow1.free (k * 4 + 3)
      clear q
      have HR := Lib.hid hrow1
      clear hrow1 hrow q0 q1 q2 q3
      go_wp2_with fail
      go_roundw
      case rel =>
        have y2 := (((((t2.stays VlR.stays (ok' := okF (w.heap.size + 1) w1) (fun b hb' => hb'.mono hgw.out) (fun p v _ hp => hp))).setF VlR.stays (p := ⟨w.heap.size, k * 4, none⟩) (by simp) (.int .i64 l[k].table)).setF VlR.stays (p := ⟨w.heap.size, k * 4 + 1, none⟩) (by simp) (.int .i64 l[k].id)).setF VlR.stays (p := ⟨w.heap.size, k * 4 + 2, none⟩) (by simp) (.slice B2 m2 d2)).setF VlR.stays (p := ⟨w.heap.size, k * 4 + 3, none⟩) (by simp) (.slice B3 m3 d3)
        have y3 := (((((t3.stays VlR.stays (ok' := okF (w.heap.size + 1) w1) (fun b hb' => hb'.mono hgw.out) (fun p v _ hp => hp))).setF VlR.stays (p := ⟨w.heap.size, k * 4, none⟩) (by simp) (.int .i64 l[k].table)).setF VlR.stays (p := ⟨w.heap.size, k * 4 + 1, none⟩) (by simp) (.int .i64 l[k].id)).setF VlR.stays (p := ⟨w.heap.size, k * 4 + 2, none⟩) (by simp) (.slice B2 m2 d2)).setF VlR.stays (p := ⟨w.heap.size, k * 4 + 3, none⟩) (by simp) (.slice B3 m3 d3)
        exact ⟨k + 1, _, by omega, by go_num, ((((HR.out).set _ _).set _ _).set _ _).set _ _, Lib.hid (by simp [hcs.out]), Lib.hid ((((((hl1.out).setF ChR.stays (by simp) _).setF ChR.stays (by simp) _).setF ChR.stays (by simp) _).setF ChR.stays (by simp) _).more hlt (c := [.int .i64 l[k].table, .int .i64 l[k].id, .slice B2 m2 d2, .slice B3 m3 d3]) rfl ⟨_, _, _, _, _, _, rfl, y2, y3, hcp⟩ (hold4 cs k _ _ _ _) (fresh4 cs k _ _ _ _ hsz1)), Lib.hid (by simpa using HGW.out), ((((hb.trans (hb1.mono hb.size)).setCell (by simp) _).setCell (by simp) _).setCell (by simp) _).setCell (by simp) _⟩
      case measure => simp [intOf]; omega
    · obtain rfl : k = l.length := by omega
      go_wp2
      go_ret
      exact ⟨_, _, rfl, Nat.le_refl _, (sl_of_laid (ok := okF w.heap.size _) hrow ⟨Nat.le_refl _, hgw.out, fun off => hrow.free off⟩ (fun i hi hlt' => by
        obtain ⟨c', h1, h2, h3⟩ := hlaid.out i hi hlt'
        exact ⟨c', h1, ChR.stays _ _ _ _ _ _ h2 (fun b hb' => hb'.mono (Nat.le_succ _)) (fun p v _ hp => hp), h3⟩) (Nat.le_refl _)), hb⟩

end Go.Proofs.Ytlpfpcnafejkoaa
