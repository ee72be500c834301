/-
  Several texts in one: what the proof leans on, part 2.
-/
import Derived.Test.YtlpldhmanihnnaaGreatZa
import Derived.Deep.RegionHeld3
set_option linter.unusedVariables false
set_option linter.unusedSimpArgs false
namespace Go.Proofs.YtlpldhmanihnnaaGreat
open Go.RowKit
def okF (G : Nat) (w : World) : Nat → Prop := fun b => G ≤ b ∧ b < w.heap.size ∧ ∀ off, w.frozen? ⟨b, off, none⟩ = false
theorem frozen_setCell (w : World) (p : Addr) (v : Value) (a : Addr) : (w.setCell p v).frozen? a = w.frozen? a := by
  unfold World.frozen? World.setCell
  by_cases e : p.block = a.block
  · simp only [Array.getElem?_modify, if_pos e]
    cases h : w.heap[a.block]? with
    | none => rfl
    | some o => cases o <;> rfl
  · simp only [Array.getElem?_modify, if_neg e]
theorem okF.mono {G G' : Nat} {w : World} {b : Nat} (h : okF G w b) (hG : G' ≤ G) : okF G' w b := ⟨Nat.le_trans hG h.1, h.2⟩
theorem okF.below {G : Nat} {w w' : World} (hb : Below w.heap.size w w') {b : Nat} (h : okF G w b) : okF G w' b :=
  ⟨h.1, Nat.lt_of_lt_of_le h.2.1 hb.size, fun off => (World.frozen?_of_block (w := w) (hb.block b h.2.1)).trans (h.2.2 off)⟩
theorem okF.set {G : Nat} {w : World} {b : Nat} (h : okF G w b) (p : Addr) (v : Value) : okF G (w.setCell p v) b :=
  ⟨h.1, by simpa [World.setCell] using h.2.1, fun off => (frozen_setCell w p v _).trans (h.2.2 off)⟩
theorem Sl.belowF {α : Type} {R : Rd α} (hR : Stays R) {sz G : Nat} {w w' : World} {A : Option Addr} {n : Nat} {ds : List α} (h : Sl R sz (okF G w) w A n ds) (hb : Below w.heap.size w w') : Sl R sz (okF G w') w' A n ds :=
  h.stays hR (fun _ h => h.below hb) fun p v _ hp => below_keep hb p v hp
theorem Sl.setF {α : Type} {R : Rd α} (hR : Stays R) {sz G : Nat} {w : World} {A : Option Addr} {n : Nat} {ds : List α} (h : Sl R sz (okF G w) w A n ds) {p : Addr} (hp : p.block < G) (v : Value) : Sl R sz (okF G (w.setCell p v)) (w.setCell p v) A n ds :=
  h.stays hR (fun _ h => h.set p v) fun q u hq hu => (World.cell?_of_block (w := w) (a := q) (Below.heap_setCell w p v q.block (by have := hq.1; omega))).trans hu
theorem LaidR.belowF {α : Type} {R : Rd α} (hR : Stays R) {sz G : Nat} {w w' : World} {cs : Array Value} {k : Nat} {ds : List α} (h : LaidR R sz (okF G w) w cs k ds) (hb : Below w.heap.size w w') : LaidR R sz (okF G w') w' cs k ds := fun i hi hlt => by
  obtain ⟨c, h1, h2, h3⟩ := h i hi hlt
  exact ⟨c, h1, hR _ _ _ _ _ _ h2 (fun _ h => h.below hb) (fun p v _ hp => below_keep hb p v hp), h3⟩
theorem LaidR.setF {α : Type} {R : Rd α} (hR : Stays R) {sz G : Nat} {w : World} {cs : Array Value} {k : Nat} {ds : List α} (h : LaidR R sz (okF G w) w cs k ds) {p : Addr} (hp : p.block < G) (v : Value) : LaidR R sz (okF G (w.setCell p v)) (w.setCell p v) cs k ds := fun i hi hlt => by
  obtain ⟨c, h1, h2, h3⟩ := h i hi hlt
  exact ⟨c, h1, hR _ _ _ _ _ _ h2 (fun _ h => h.set p v) (fun q u hq hu => (World.cell?_of_block (w := w) (a := q) (Below.heap_setCell w p v q.block (by have := hq.1; omega))).trans hu), h3⟩
def MadeSl {α : Type} (R : Rd α) (sz n : Nat) (ds : List α) (w : World) (e : Ending) (w' : World) : Prop := ∃ A c, e = .returned (.slice A n c) ∧ n ≤ c ∧ Sl R sz (okF w.heap.size w') w' A n ds ∧ Below w.heap.size w w'
def MadeR {α : Type} (R : Rd α) (d : α) (w : World) (e : Ending) (w' : World) : Prop := ∃ cs : List Value, e = .returned (.agg cs.toArray) ∧ R (okF w.heap.size w') w' cs d ∧ Below w.heap.size w w'
theorem hold1 (cs : Array Value) (k : Nat) (v0 : Value) : ∀ m, m < k * 1 → (cs.setIfInBounds (k) v0)[m]? = cs[m]? := by
  intro m hm
  simp only [Array.getElem?_setIfInBounds]
  rw [if_neg (by omega)]
theorem fresh1 (cs : Array Value) (k : Nat) (v0 : Value) (hs : k * 1 + 1 ≤ cs.size) : ∀ (j : Nat) (v : Value), [v0][j]? = some v → (cs.setIfInBounds (k) v0)[k * 1 + j]? = some v := by
  intro j v hj
  have hlt : j < 1 := by obtain ⟨h, _⟩ := List.getElem?_eq_some_iff.1 hj; simpa using h
  have : j = 0 := by omega
  rcases this with rfl <;> simp at hj <;> subst hj <;> simp [Array.getElem?_setIfInBounds] <;> omega
theorem hold5 (cs : Array Value) (k : Nat) (v0 v1 v2 v3 v4 : Value) : ∀ m, m < k * 5 → (((((cs.setIfInBounds (k * 5) v0).setIfInBounds (k * 5 + 1) v1).setIfInBounds (k * 5 + 2) v2).setIfInBounds (k * 5 + 3) v3).setIfInBounds (k * 5 + 4) v4)[m]? = cs[m]? := by
  intro m hm
  simp only [Array.getElem?_setIfInBounds, Array.size_setIfInBounds]
  rw [if_neg (by omega)]; rw [if_neg (by omega)]; rw [if_neg (by omega)]; rw [if_neg (by omega)]; rw [if_neg (by omega)]
theorem fresh5 (cs : Array Value) (k : Nat) (v0 v1 v2 v3 v4 : Value) (hs : k * 5 + 5 ≤ cs.size) : ∀ (j : Nat) (v : Value), [v0, v1, v2, v3, v4][j]? = some v → (((((cs.setIfInBounds (k * 5) v0).setIfInBounds (k * 5 + 1) v1).setIfInBounds (k * 5 + 2) v2).setIfInBounds (k * 5 + 3) v3).setIfInBounds (k * 5 + 4) v4)[k * 5 + j]? = some v := by
  intro j v hj
  have hlt : j < 5 := by obtain ⟨h, _⟩ := List.getElem?_eq_some_iff.1 hj; simpa using h
  have : j = 0 ∨ j = 1 ∨ j = 2 ∨ j = 3 ∨ j = 4 := by omega
  rcases this with rfl | rfl | rfl | rfl | rfl <;> simp at hj <;> subst hj <;> simp [Array.getElem?_setIfInBounds] <;> omega
theorem hold6 (cs : Array Value) (k : Nat) (v0 v1 v2 v3 v4 v5 : Value) : ∀ m, m < k * 6 → ((((((cs.setIfInBounds (k * 6) v0).setIfInBounds (k * 6 + 1) v1).setIfInBounds (k * 6 + 2) v2).setIfInBounds (k * 6 + 3) v3).setIfInBounds (k * 6 + 4) v4).setIfInBounds (k * 6 + 5) v5)[m]? = cs[m]? := by
  intro m hm
  simp only [Array.getElem?_setIfInBounds, Array.size_setIfInBounds]
  rw [if_neg (by omega)]; rw [if_neg (by omega)]; rw [if_neg (by omega)]; rw [if_neg (by omega)]; rw [if_neg (by omega)]; rw [if_neg (by omega)]
theorem fresh6 (cs : Array Value) (k : Nat) (v0 v1 v2 v3 v4 v5 : Value) (hs : k * 6 + 6 ≤ cs.size) : ∀ (j : Nat) (v : Value), [v0, v1, v2, v3, v4, v5][j]? = some v → ((((((cs.setIfInBounds (k * 6) v0).setIfInBounds (k * 6 + 1) v1).setIfInBounds (k * 6 + 2) v2).setIfInBounds (k * 6 + 3) v3).setIfInBounds (k * 6 + 4) v4).setIfInBounds (k * 6 + 5) v5)[k * 6 + j]? = some v := by
  intro j v hj
  have hlt : j < 6 := by obtain ⟨h, _⟩ := List.getElem?_eq_some_iff.1 hj; simpa using h
  have : j = 0 ∨ j = 1 ∨ j = 2 ∨ j = 3 ∨ j = 4 ∨ j = 5 := by omega
  rcases this with rfl | rfl | rfl | rfl | rfl | rfl <;> simp at hj <;> subst hj <;> simp [Array.getElem?_setIfInBounds] <;> omega
theorem infoIntT : (Tryz.prog.info? 2).map (fun i => (i.zero, i.size, i.bytes)) = some (some (.int .i64 0), 1, 8) := by kernel_rfl
set_option maxRecDepth 100000 in
set_option maxHeartbeats 1000000 in
theorem lawsToIntL (A : Option Addr) (n c : Nat) (l : List Int) (ok : Nat → Prop) (w : World) (h : Sl IntR 1 ok w A n l) (hs : l.length ≤ 1048576) :
    Calls Tryz.prog 122 #[.slice A n c] w (MadeSl IntR 1 n l w) := by
  obtain rfl : l.length = n := h.1
  have hn : l.length ≤ 1048576 := by exact hs
  have HS := Lib.hid hs
  clear hs
  have hmk := fun w => mk_rows (P := Tryz.prog) Tryz.underlying70 infoIntT (by omega) l.length hn w
  simp only [Nat.mul_one] at hmk
  simp only [Value.cells] at hmk
  go_enter Tryz.func122, Tryz.ntmps122
  go_wp2
  have row := Row.new w 2 (madeCells #[.int .i64 0] (l.length))
  have hb0 := (Below.refl w.heap.size w).alloc (Nat.le_refl _) (.cells (madeCells #[.int .i64 0] (l.length)) 2)
  have hsz := size_madeCells #[.int .i64 0] (l.length)
  have hx0 : (w.alloc (.cells (madeCells #[.int .i64 0] (l.length)) 2)).heap.size = w.heap.size + 1 := by simp
  generalize w.alloc (.cells (madeCells #[.int .i64 0] (l.length)) 2) = x at *
  generalize madeCells #[.int .i64 0] (l.length) = cs0 at *
  have HZ := Lib.hid hsz
  have HX0 := Lib.hid hx0
  clear hmk hsz hx0
  go_loopw [4] (fun i wr => ∃ (k : Nat) (cs : Array Value), k ≤ l.length ∧ i = .int .i64 k ∧ Row wr w.heap.size 2 cs ∧ Hid (cs.size = l.length * 1) ∧ Hid (LaidR IntR 1 (okF (w.heap.size + 1) wr) wr cs k l) ∧ Hid (w.heap.size + 1 ≤ wr.heap.size) ∧ Below w.heap.size w wr) (fun i _ => l.length - (intOf i).toNat)
  case atStart => exact ⟨0, cs0, by omega, rfl, row, Lib.hid (by rw [HZ.out]; exact (Nat.mul_one _).symm), Lib.hid (LaidR.zero _ _ _ _ _ _), Lib.hid (by rw [HX0.out]; exact Nat.le_refl _), hb0⟩
  case round =>
    obtain ⟨k, cs, hk, rfl, hrow, hcs, hlaid, hgw, hb⟩ := hrel
    by_cases hlt : k < l.length
    · obtain ⟨b, off, -, rfl, q0⟩ := IntR.at_ (h.below IntR.stays hb) hlt
      have hsz1 : k * 1 + 1 ≤ cs.size := by rw [hcs.out]; omega
      have q1 : wr.cell? ⟨w.heap.size, k, none⟩ = some (cs[k]?.getD undef) := by rw [hrow.cell, Array.getElem?_eq_getElem (by omega)]; rfl
      have f0 := hrow.free k
      have HR := Lib.hid hrow
      clear hrow
      go_wp2_with fail
      go_roundw
      case rel => exact ⟨k + 1, _, by omega, by go_num, HR.out.set _ _, Lib.hid (by simp [hcs.out]), Lib.hid (((hlaid.out.setF IntR.stays (by simp) _).more hlt rfl rfl (hold1 cs k _) (fresh1 cs k _ hsz1))), Lib.hid (by simpa using hgw.out), hb.setCell (by simp) _⟩
      case measure => simp [intOf]; omega
    · obtain rfl : k = l.length := by omega
      go_wp2
      go_ret
      exact ⟨_, _, rfl, Nat.le_refl _, (sl_of_laid (ok := okF w.heap.size _) hrow ⟨Nat.le_refl _, hgw.out, fun off => hrow.free off⟩ (fun i hi hlt' => by
        obtain ⟨c', h1, h2, h3⟩ := hlaid.out i hi hlt'
        exact ⟨c', h1, IntR.stays _ _ _ _ _ _ h2 (fun b hb' => hb'.mono (Nat.le_succ _)) (fun p v _ hp => hp), h3⟩) (Nat.le_refl _)), hb⟩
theorem infoTokT : (Tryz.prog.info? 248).map (fun i => (i.zero, i.size, i.bytes)) = some (some (.agg #[.int .i64 0, .int .i64 0, .int .i64 0, .int .i64 0, .string ⟨#[]⟩]), 5, 48) := by kernel_rfl
set_option maxRecDepth 100000 in
set_option maxHeartbeats 1000000 in
theorem lawsToTokL (A : Option Addr) (n c : Nat) (l : List Tk) (ok : Nat → Prop) (w : World) (h : Sl TkR 5 ok w A n l) (hs : szL (fun t : Tk => t.vs.size) l ≤ 1048576) :
    Calls Tryz.prog 162 #[.slice A n c] w (MadeSl TkR 5 n l w) := by
  obtain rfl : l.length = n := h.1
  have hn : l.length ≤ 1048576 := by unfold szL at hs; omega
  have HS := Lib.hid hs
  clear hs
  have hmk := fun w => mk_rows (P := Tryz.prog) Tryz.underlying137 infoTokT (by omega) l.length hn w
  go_enter Tryz.func162, Tryz.ntmps162
  go_wp2
  have row := Row.new w 248 (madeCells #[.int .i64 0, .int .i64 0, .int .i64 0, .int .i64 0, .string ⟨#[]⟩] (l.length * 5))
  have hb0 := (Below.refl w.heap.size w).alloc (Nat.le_refl _) (.cells (madeCells #[.int .i64 0, .int .i64 0, .int .i64 0, .int .i64 0, .string ⟨#[]⟩] (l.length * 5)) 248)
  have hsz := size_madeCells #[.int .i64 0, .int .i64 0, .int .i64 0, .int .i64 0, .string ⟨#[]⟩] (l.length * 5)
  have hx0 : (w.alloc (.cells (madeCells #[.int .i64 0, .int .i64 0, .int .i64 0, .int .i64 0, .string ⟨#[]⟩] (l.length * 5)) 248)).heap.size = w.heap.size + 1 := by simp
  generalize w.alloc (.cells (madeCells #[.int .i64 0, .int .i64 0, .int .i64 0, .int .i64 0, .string ⟨#[]⟩] (l.length * 5)) 248) = x at *
  generalize madeCells #[.int .i64 0, .int .i64 0, .int .i64 0, .int .i64 0, .string ⟨#[]⟩] (l.length * 5) = cs0 at *
  have HZ := Lib.hid hsz
  have HX0 := Lib.hid hx0
  clear hmk hsz hx0
  go_loopw [4] (fun i wr => ∃ (k : Nat) (cs : Array Value), k ≤ l.length ∧ i = .int .i64 k ∧ Row wr w.heap.size 248 cs ∧ Hid (cs.size = l.length * 5) ∧ Hid (LaidR TkR 5 (okF (w.heap.size + 1) wr) wr cs k l) ∧ Hid (w.heap.size + 1 ≤ wr.heap.size) ∧ Below w.heap.size w wr) (fun i _ => l.length - (intOf i).toNat)
  case atStart => exact ⟨0, cs0, by omega, rfl, row, Lib.hid (by rw [HZ.out]), Lib.hid (LaidR.zero _ _ _ _ _ _), Lib.hid (by rw [HX0.out]; exact Nat.le_refl _), hb0⟩
  case round =>
    obtain ⟨k, cs, hk, rfl, hrow, hcs, hlaid, hgw, hb⟩ := hrel
    by_cases hlt : k < l.length
    · obtain ⟨b, off, -, rfl, q0, q1, q2, q3, q4⟩ := TkR.at_ (h.below TkR.stays hb) hlt
      have hsz1 : k * 5 + 5 ≤ cs.size := by rw [hcs.out]; omega
      have hszk : l[k].vs.size ≤ 1048576 := by have := HS.out; have := sum_mem_le (fun t : Tk => t.vs.size) l k hlt; unfold szL at *; (try simp only at *); omega
      have HSK := Lib.hid hszk
      clear hszk
      go_wp2_with fail
      refine (lawsToTok l[k] _).mono ?_
      rintro e w1 ⟨rfl, hb1⟩
      have hrow1 := hrow.below hb1
      have hgw1 : w.heap.size + 1 ≤ w1.heap.size := Nat.le_trans hgw.out hb1.size
      have HGW := Lib.hid hgw1
      clear hgw1
      have hl1 := Lib.hid (hlaid.out.belowF TkR.stays hb1)
      have q : ∀ j, j < 5 → w1.cell? ⟨w.heap.size, k * 5 + j, none⟩ = some (cs[k * 5 + j]?.getD undef) := fun j hj => by
        rw [hrow1.cell, Array.getElem?_eq_getElem (by omega)]; rfl
      have z0 : w1.cell? ⟨w.heap.size, k * 5, none⟩ = some (cs[k * 5]?.getD undef) := q 0 (by omega)
      have z1 := q 1 (by omega)
      have z2 := q 2 (by omega)
      have z3 := q 3 (by omega)
      have z4 := q 4 (by omega)
      have f0 := hrow1.free (k * 5)
      have f1 := hrow1.free (k * 5 + 1)
      have f2 := hrow1.free (k * 5 + 2)
      have f3 := hrow1.free (k * 5 + 3)
      have f4 := hrow1.free (k * 5 + 4)
      clear q
      have HR := Lib.hid hrow1
      clear hrow1 hrow q0 q1 q2 q3 q4
      go_wp2_with fail
      go_roundw
      case rel =>
        exact ⟨k + 1, _, by omega, by go_num, (((((HR.out).set _ _).set _ _).set _ _).set _ _).set _ _, Lib.hid (by simp [hcs.out]), Lib.hid (((((((hl1.out).setF TkR.stays (by simp) _).setF TkR.stays (by simp) _).setF TkR.stays (by simp) _).setF TkR.stays (by simp) _).setF TkR.stays (by simp) _).more hlt (c := [.int .i64 l[k].k, .int .i64 l[k].c, .int .i64 l[k].vk, .int .i64 l[k].vn, .string l[k].vs]) rfl rfl (hold5 cs k _ _ _ _ _) (fresh5 cs k _ _ _ _ _ hsz1)), Lib.hid (by simpa using HGW.out), (((((hb.trans (hb1.mono hb.size)).setCell (by simp) _).setCell (by simp) _).setCell (by simp) _).setCell (by simp) _).setCell (by simp) _⟩
      case measure => simp [intOf]; omega
    · obtain rfl : k = l.length := by omega
      go_wp2
      go_ret
      exact ⟨_, _, rfl, Nat.le_refl _, (sl_of_laid (ok := okF w.heap.size _) hrow ⟨Nat.le_refl _, hgw.out, fun off => hrow.free off⟩ (fun i hi hlt' => by
        obtain ⟨c', h1, h2, h3⟩ := hlaid.out i hi hlt'
        exact ⟨c', h1, TkR.stays _ _ _ _ _ _ h2 (fun b hb' => hb'.mono (Nat.le_succ _)) (fun p v _ hp => hp), h3⟩) (Nat.le_refl _)), hb⟩
set_option maxRecDepth 100000 in
set_option maxHeartbeats 1000000 in
theorem lawsToCol (x : Cl)  (ok : Nat → Prop) (w : World)  (hs : x.sz ≤ 1048576) :
    Calls Tryz.prog 181 #[.agg #[.string x.name, .int .i64 x.kind, .bool x.nn, .int .i64 x.d.k, .int .i64 x.d.n, .string x.d.s]] w fun e w' => e = .returned (.agg #[.string x.name, .int .i64 x.kind, .bool x.nn, .int .i64 x.d.k, .int .i64 x.d.n, .string x.d.s]) ∧ Below w.heap.size w w' := by
  clear hs
  have ra := ((Row.new w 219 #[.string x.name, .int .i64 x.kind, .bool x.nn, .int .i64 x.d.k, .int .i64 x.d.n, .string x.d.s]).alloc (.cells #[.string ⟨#[]⟩, .int .i64 0, .bool false, .int .i64 0, .int .i64 0, .string ⟨#[]⟩] 181)).alloc (.cells #[.string x.name, .int .i64 x.kind, .bool x.nn, .int .i64 0, .int .i64 0, .string ⟨#[]⟩] 181)
  have r1 := (Row.newAt (w.alloc (.cells #[.string x.name, .int .i64 x.kind, .bool x.nn, .int .i64 x.d.k, .int .i64 x.d.n, .string x.d.s] 219)) 181 #[.string ⟨#[]⟩, .int .i64 0, .bool false, .int .i64 0, .int .i64 0, .string ⟨#[]⟩] (w.heap.size + 1) (by simp)).alloc (.cells #[.string x.name, .int .i64 x.kind, .bool x.nn, .int .i64 0, .int .i64 0, .string ⟨#[]⟩] 181)
  have r2 := Row.newAt ((w.alloc (.cells #[.string x.name, .int .i64 x.kind, .bool x.nn, .int .i64 x.d.k, .int .i64 x.d.n, .string x.d.s] 219)).alloc (.cells #[.string ⟨#[]⟩, .int .i64 0, .bool false, .int .i64 0, .int .i64 0, .string ⟨#[]⟩] 181)) 181 #[.string x.name, .int .i64 x.kind, .bool x.nn, .int .i64 0, .int .i64 0, .string ⟨#[]⟩] (w.heap.size + 1 + 1) (by simp)
  have hb0 := ((((Below.refl w.heap.size w).alloc (Nat.le_refl _) (.cells #[.string x.name, .int .i64 x.kind, .bool x.nn, .int .i64 x.d.k, .int .i64 x.d.n, .string x.d.s] 219)).alloc (by simp) (.cells #[.string ⟨#[]⟩, .int .i64 0, .bool false, .int .i64 0, .int .i64 0, .string ⟨#[]⟩] 181)).alloc (by simp; omega) (.cells #[.string x.name, .int .i64 x.kind, .bool x.nn, .int .i64 0, .int .i64 0, .string ⟨#[]⟩] 181))
  have hz0 : w.heap.size + 3 ≤ (((w.alloc (.cells #[.string x.name, .int .i64 x.kind, .bool x.nn, .int .i64 x.d.k, .int .i64 x.d.n, .string x.d.s] 219)).alloc (.cells #[.string ⟨#[]⟩, .int .i64 0, .bool false, .int .i64 0, .int .i64 0, .string ⟨#[]⟩] 181)).alloc (.cells #[.string x.name, .int .i64 x.kind, .bool x.nn, .int .i64 0, .int .i64 0, .string ⟨#[]⟩] 181)).heap.size := by simp
  go_enter Tryz.func181, Tryz.ntmps181
  go_wp2_with fail
  generalize ((w.alloc (.cells #[.string x.name, .int .i64 x.kind, .bool x.nn, .int .i64 x.d.k, .int .i64 x.d.n, .string x.d.s] 219)).alloc (.cells #[.string ⟨#[]⟩, .int .i64 0, .bool false, .int .i64 0, .int .i64 0, .string ⟨#[]⟩] 181)).alloc (.cells #[.string x.name, .int .i64 x.kind, .bool x.nn, .int .i64 0, .int .i64 0, .string ⟨#[]⟩] 181) = x0 at *
  refine (lawsToVal _ _ _ _).mono ?_
  rintro e w1 ⟨rfl, hc0⟩
  have ra := ra.below hc0
  have r1 := r1.below hc0
  have r2 := r2.below hc0
  have hbx0 := hb0.trans (hc0.mono hb0.size)
  have hz1 : w.heap.size + 3 ≤ w1.heap.size := Nat.le_trans hz0 hc0.size
  obtain ⟨⟨a_0_0, a_0_1, a_0_2, a_0_3, a_0_4, a_0_5⟩, -⟩ := ra.all6
  obtain ⟨⟨b_0_0, b_0_1, b_0_2, b_0_3, b_0_4, b_0_5⟩, ⟨f_0_0, f_0_1, f_0_2, f_0_3, f_0_4, f_0_5⟩⟩ := r2.all6
  obtain ⟨⟨g_0_0, g_0_1, g_0_2, g_0_3, g_0_4, g_0_5⟩, ⟨k_0_0, k_0_1, k_0_2, k_0_3, k_0_4, k_0_5⟩⟩ := r1.all6
  have rz : Row ((((((((((w1).setCell ⟨w.heap.size + 1 + 1, 3, none⟩ (.int .i64 x.d.k)).setCell ⟨w.heap.size + 1 + 1, 4, none⟩ (.int .i64 x.d.n)).setCell ⟨w.heap.size + 1 + 1, 5, none⟩ (.string x.d.s)).setCell ⟨w.heap.size + 1, 0, none⟩ (.string x.name)).setCell ⟨w.heap.size + 1, 1, none⟩ (.int .i64 x.kind)).setCell ⟨w.heap.size + 1, 2, none⟩ (.bool x.nn)).setCell ⟨w.heap.size + 1, 3, none⟩ (.int .i64 x.d.k)).setCell ⟨w.heap.size + 1, 4, none⟩ (.int .i64 x.d.n)).setCell ⟨w.heap.size + 1, 5, none⟩ (.string x.d.s)) (w.heap.size + 1) 181 #[.string x.name, .int .i64 x.kind, .bool x.nn, .int .i64 x.d.k, .int .i64 x.d.n, .string x.d.s] := (((((((((r1).far (by simp) _).far (by simp) _).far (by simp) _).set 0 _).set 1 _).set 2 _).set 3 _).set 4 _).set 5 _
  obtain ⟨⟨z0, z1, z2, z3, z4, z5⟩, -⟩ := rz.all6
  have hbz : Below w.heap.size w ((((((((((w1).setCell ⟨w.heap.size + 1 + 1, 3, none⟩ (.int .i64 x.d.k)).setCell ⟨w.heap.size + 1 + 1, 4, none⟩ (.int .i64 x.d.n)).setCell ⟨w.heap.size + 1 + 1, 5, none⟩ (.string x.d.s)).setCell ⟨w.heap.size + 1, 0, none⟩ (.string x.name)).setCell ⟨w.heap.size + 1, 1, none⟩ (.int .i64 x.kind)).setCell ⟨w.heap.size + 1, 2, none⟩ (.bool x.nn)).setCell ⟨w.heap.size + 1, 3, none⟩ (.int .i64 x.d.k)).setCell ⟨w.heap.size + 1, 4, none⟩ (.int .i64 x.d.n)).setCell ⟨w.heap.size + 1, 5, none⟩ (.string x.d.s)) := (((((((((hbx0).setCell (by simp; try omega) _).setCell (by simp; try omega) _).setCell (by simp; try omega) _).setCell (by simp; try omega) _).setCell (by simp; try omega) _).setCell (by simp; try omega) _).setCell (by simp; try omega) _).setCell (by simp; try omega) _).setCell (by simp; try omega) _
  clear ra r1 r2 rz
  go_wp2_with fail
  exact bodyPost_ret (v := .agg #[.string x.name, .int .i64 x.kind, .bool x.nn, .int .i64 x.d.k, .int .i64 x.d.n, .string x.d.s]) (by simp [results, Tryz.results181, go_sem, z0, z1, z2, z3, z4, z5]) rfl ⟨rfl, hbz⟩
theorem infoColT : (Tryz.prog.info? 181).map (fun i => (i.zero, i.size, i.bytes)) = some (some (.agg #[.string ⟨#[]⟩, .int .i64 0, .bool false, .int .i64 0, .int .i64 0, .string ⟨#[]⟩]), 6, 64) := by kernel_rfl
set_option maxRecDepth 100000 in
set_option maxHeartbeats 1000000 in
theorem lawsToColL (A : Option Addr) (n c : Nat) (l : List Cl) (ok : Nat → Prop) (w : World) (h : Sl ClR 6 ok w A n l) (hs : szL Cl.sz l ≤ 1048576) :
    Calls Tryz.prog 121 #[.slice A n c] w (MadeSl ClR 6 n l w) := by
  obtain rfl : l.length = n := h.1
  have hn : l.length ≤ 1048576 := by unfold szL at hs; omega
  have HS := Lib.hid hs
  clear hs
  have hmk := fun w => mk_rows (P := Tryz.prog) Tryz.underlying81 infoColT (by omega) l.length hn w
  go_enter Tryz.func121, Tryz.ntmps121
  go_wp2
  have row := Row.new w 181 (madeCells #[.string ⟨#[]⟩, .int .i64 0, .bool false, .int .i64 0, .int .i64 0, .string ⟨#[]⟩] (l.length * 6))
  have hb0 := (Below.refl w.heap.size w).alloc (Nat.le_refl _) (.cells (madeCells #[.string ⟨#[]⟩, .int .i64 0, .bool false, .int .i64 0, .int .i64 0, .string ⟨#[]⟩] (l.length * 6)) 181)
  have hsz := size_madeCells #[.string ⟨#[]⟩, .int .i64 0, .bool false, .int .i64 0, .int .i64 0, .string ⟨#[]⟩] (l.length * 6)
  have hx0 : (w.alloc (.cells (madeCells #[.string ⟨#[]⟩, .int .i64 0, .bool false, .int .i64 0, .int .i64 0, .string ⟨#[]⟩] (l.length * 6)) 181)).heap.size = w.heap.size + 1 := by simp
  generalize w.alloc (.cells (madeCells #[.string ⟨#[]⟩, .int .i64 0, .bool false, .int .i64 0, .int .i64 0, .string ⟨#[]⟩] (l.length * 6)) 181) = x at *
  generalize madeCells #[.string ⟨#[]⟩, .int .i64 0, .bool false, .int .i64 0, .int .i64 0, .string ⟨#[]⟩] (l.length * 6) = cs0 at *
  have HZ := Lib.hid hsz
  have HX0 := Lib.hid hx0
  clear hmk hsz hx0
  go_loopw [4] (fun i wr => ∃ (k : Nat) (cs : Array Value), k ≤ l.length ∧ i = .int .i64 k ∧ Row wr w.heap.size 181 cs ∧ Hid (cs.size = l.length * 6) ∧ Hid (LaidR ClR 6 (okF (w.heap.size + 1) wr) wr cs k l) ∧ Hid (w.heap.size + 1 ≤ wr.heap.size) ∧ Below w.heap.size w wr) (fun i _ => l.length - (intOf i).toNat)
  case atStart => exact ⟨0, cs0, by omega, rfl, row, Lib.hid (by rw [HZ.out]), Lib.hid (LaidR.zero _ _ _ _ _ _), Lib.hid (by rw [HX0.out]; exact Nat.le_refl _), hb0⟩
  case round =>
    obtain ⟨k, cs, hk, rfl, hrow, hcs, hlaid, hgw, hb⟩ := hrel
    by_cases hlt : k < l.length
    · obtain ⟨b, off, -, rfl, q0, q1, q2, q3, q4, q5⟩ := ClR.at_ (h.below ClR.stays hb) hlt
      have hsz1 : k * 6 + 6 ≤ cs.size := by rw [hcs.out]; omega
      have hszk : l[k].sz ≤ 1048576 := by have := HS.out; have := sum_mem_le (Cl.sz) l k hlt; unfold szL at *; (try simp only at *); omega
      have HSK := Lib.hid hszk
      clear hszk
      go_wp2_with fail
      refine (lawsToCol l[k]  ok _  HSK.out).mono ?_
      rintro e w1 ⟨rfl, hb1⟩
      have hrow1 := hrow.below hb1
      have hgw1 : w.heap.size + 1 ≤ w1.heap.size := Nat.le_trans hgw.out hb1.size
      have HGW := Lib.hid hgw1
      clear hgw1
      have hl1 := Lib.hid (hlaid.out.belowF ClR.stays hb1)
      have q : ∀ j, j < 6 → w1.cell? ⟨w.heap.size, k * 6 + j, none⟩ = some (cs[k * 6 + j]?.getD undef) := fun j hj => by
        rw [hrow1.cell, Array.getElem?_eq_getElem (by omega)]; rfl
      have z0 : w1.cell? ⟨w.heap.size, k * 6, none⟩ = some (cs[k * 6]?.getD undef) := q 0 (by omega)
      have z1 := q 1 (by omega)
      have z2 := q 2 (by omega)
      have z3 := q 3 (by omega)
      have z4 := q 4 (by omega)
      have z5 := q 5 (by omega)
      have f0 := hrow1.free (k * 6)
      have f1 := hrow1.free (k * 6 + 1)
      have f2 := hrow1.free (k * 6 + 2)
      have f3 := hrow1.free (k * 6 + 3)
      have f4 := hrow1.free (k * 6 + 4)
      have f5 := hrow1.free (k * 6 + 5)
      clear q
      have HR := Lib.hid hrow1
      clear hrow1 hrow q0 q1 q2 q3 q4 q5
      go_wp2_with fail
      go_roundw
      case rel =>
        exact ⟨k + 1, _, by omega, by go_num, ((((((HR.out).set _ _).set _ _).set _ _).set _ _).set _ _).set _ _, Lib.hid (by simp [hcs.out]), Lib.hid ((((((((hl1.out).setF ClR.stays (by simp) _).setF ClR.stays (by simp) _).setF ClR.stays (by simp) _).setF ClR.stays (by simp) _).setF ClR.stays (by simp) _).setF ClR.stays (by simp) _).more hlt (c := [.string l[k].name, .int .i64 l[k].kind, .bool l[k].nn, .int .i64 l[k].d.k, .int .i64 l[k].d.n, .string l[k].d.s]) rfl rfl (hold6 cs k _ _ _ _ _ _) (fresh6 cs k _ _ _ _ _ _ hsz1)), Lib.hid (by simpa using HGW.out), ((((((hb.trans (hb1.mono hb.size)).setCell (by simp) _).setCell (by simp) _).setCell (by simp) _).setCell (by simp) _).setCell (by simp) _).setCell (by simp) _⟩
      case measure => simp [intOf]; omega
    · obtain rfl : k = l.length := by omega
      go_wp2
      go_ret
      exact ⟨_, _, rfl, Nat.le_refl _, (sl_of_laid (ok := okF w.heap.size _) hrow ⟨Nat.le_refl _, hgw.out, fun off => hrow.free off⟩ (fun i hi hlt' => by
        obtain ⟨c', h1, h2, h3⟩ := hlaid.out i hi hlt'
        exact ⟨c', h1, ClR.stays _ _ _ _ _ _ h2 (fun b hb' => hb'.mono (Nat.le_succ _)) (fun p v _ hp => hp), h3⟩) (Nat.le_refl _)), hb⟩
set_option maxRecDepth 100000 in
set_option maxHeartbeats 1000000 in
theorem lawsToUnique (x : Uq) (A0 : Option Addr) (n0 c0 : Nat) (ok : Nat → Prop) (w : World) (h0 : Sl IntR 1 ok w A0 n0 x.cols) (hs : x.sz ≤ 1048576) :
    Calls Tryz.prog 182 #[.agg #[.slice A0 n0 c0]] w (MadeR UqR x w) := by
  have hs0 : x.cols.length ≤ 1048576 := by have := hs; unfold Uq.sz at this; omega
  have HS0 := Lib.hid hs0
  clear hs0
  clear hs
  have ra := ((Row.new w 221 #[.slice A0 n0 c0]).alloc (.cells #[.slice none 0 0] 183)).alloc (.cells #[.slice none 0 0] 183)
  have r1 := (Row.newAt (w.alloc (.cells #[.slice A0 n0 c0] 221)) 183 #[.slice none 0 0] (w.heap.size + 1) (by simp)).alloc (.cells #[.slice none 0 0] 183)
  have r2 := Row.newAt ((w.alloc (.cells #[.slice A0 n0 c0] 221)).alloc (.cells #[.slice none 0 0] 183)) 183 #[.slice none 0 0] (w.heap.size + 1 + 1) (by simp)
  have hb0 := ((((Below.refl w.heap.size w).alloc (Nat.le_refl _) (.cells #[.slice A0 n0 c0] 221)).alloc (by simp) (.cells #[.slice none 0 0] 183)).alloc (by simp; omega) (.cells #[.slice none 0 0] 183))
  have hz0 : w.heap.size + 3 ≤ (((w.alloc (.cells #[.slice A0 n0 c0] 221)).alloc (.cells #[.slice none 0 0] 183)).alloc (.cells #[.slice none 0 0] 183)).heap.size := by simp
  go_enter Tryz.func182, Tryz.ntmps182
  go_wp2_with fail
  generalize ((w.alloc (.cells #[.slice A0 n0 c0] 221)).alloc (.cells #[.slice none 0 0] 183)).alloc (.cells #[.slice none 0 0] 183) = x0 at *
  refine (lawsToIntL A0 n0 c0 x.cols ok _ (h0.below IntR.stays hb0) HS0.out).mono ?_
  rintro e w1 ⟨B0, d0, rfl, hcp0, t0, hc0⟩
  have u0 := t0.stays IntR.stays (ok' := okF (w.heap.size + 3) w1) (fun b hb' => hb'.mono (by omega)) (fun p v _ hp => hp)
  clear t0
  have ra := ra.below hc0
  have r1 := r1.below hc0
  have r2 := r2.below hc0
  have hbx0 := hb0.trans (hc0.mono hb0.size)
  have hz1 : w.heap.size + 3 ≤ w1.heap.size := Nat.le_trans hz0 hc0.size
  obtain ⟨a_0_0, -⟩ := ra.all1
  obtain ⟨b_0_0, f_0_0⟩ := r2.all1
  obtain ⟨g_0_0, k_0_0⟩ := r1.all1
  have rz : Row (((w1).setCell ⟨w.heap.size + 1 + 1, 0, none⟩ (.slice B0 n0 d0)).setCell ⟨w.heap.size + 1, 0, none⟩ (.slice B0 n0 d0)) (w.heap.size + 1) 183 #[.slice B0 n0 d0] := ((r1).far (by simp) _).set 0 _
  obtain ⟨z0, -⟩ := rz.all1
  have y0 : Sl IntR 1 (okF (w.heap.size + 3) (((w1).setCell ⟨w.heap.size + 1 + 1, 0, none⟩ (.slice B0 n0 d0)).setCell ⟨w.heap.size + 1, 0, none⟩ (.slice B0 n0 d0))) (((w1).setCell ⟨w.heap.size + 1 + 1, 0, none⟩ (.slice B0 n0 d0)).setCell ⟨w.heap.size + 1, 0, none⟩ (.slice B0 n0 d0)) B0 n0 x.cols := ((u0).setF IntR.stays (by simp) _).setF IntR.stays (by simp) _
  have hbz : Below w.heap.size w (((w1).setCell ⟨w.heap.size + 1 + 1, 0, none⟩ (.slice B0 n0 d0)).setCell ⟨w.heap.size + 1, 0, none⟩ (.slice B0 n0 d0)) := ((hbx0).setCell (by simp; try omega) _).setCell (by simp; try omega) _
  clear ra r1 r2 rz
  go_wp2_with fail
  exact bodyPost_ret (v := .agg #[.slice B0 n0 d0]) (by simp [results, Tryz.results182, go_sem, z0]) rfl ⟨[.slice B0 n0 d0], rfl, ⟨_, _, _, rfl, y0.stays IntR.stays (fun b hb' => hb'.mono (by omega)) (fun p v _ hp => hp), hcp0⟩, hbz⟩
theorem infoUniqueT : (Tryz.prog.info? 183).map (fun i => (i.zero, i.size, i.bytes)) = some (some (.agg #[.slice none 0 0]), 1, 24) := by kernel_rfl
set_option maxRecDepth 100000 in
set_option maxHeartbeats 1000000 in
theorem lawsToUniqueL (A : Option Addr) (n c : Nat) (l : List Uq) (ok : Nat → Prop) (w : World) (h : Sl UqR 1 ok w A n l) (hs : szL Uq.sz l ≤ 1048576) :
    Calls Tryz.prog 123 #[.slice A n c] w (MadeSl UqR 1 n l w) := by
  obtain rfl : l.length = n := h.1
  have hn : l.length ≤ 1048576 := by unfold szL at hs; omega
  have HS := Lib.hid hs
  clear hs
  have hmk := fun w => mk_rows (P := Tryz.prog) Tryz.underlying82 infoUniqueT (by omega) l.length hn w
  simp only [Nat.mul_one] at hmk
  go_enter Tryz.func123, Tryz.ntmps123
  go_wp2
  have row := Row.new w 183 (madeCells #[.slice none 0 0] (l.length))
  have hb0 := (Below.refl w.heap.size w).alloc (Nat.le_refl _) (.cells (madeCells #[.slice none 0 0] (l.length)) 183)
  have hsz := size_madeCells #[.slice none 0 0] (l.length)
  have hx0 : (w.alloc (.cells (madeCells #[.slice none 0 0] (l.length)) 183)).heap.size = w.heap.size + 1 := by simp
  generalize w.alloc (.cells (madeCells #[.slice none 0 0] (l.length)) 183) = x at *
  generalize madeCells #[.slice none 0 0] (l.length) = cs0 at *
  have HZ := Lib.hid hsz
  have HX0 := Lib.hid hx0
  clear hmk hsz hx0
  go_loopw [4] (fun i wr => ∃ (k : Nat) (cs : Array Value), k ≤ l.length ∧ i = .int .i64 k ∧ Row wr w.heap.size 183 cs ∧ Hid (cs.size = l.length * 1) ∧ Hid (LaidR UqR 1 (okF (w.heap.size + 1) wr) wr cs k l) ∧ Hid (w.heap.size + 1 ≤ wr.heap.size) ∧ Below w.heap.size w wr) (fun i _ => l.length - (intOf i).toNat)
  case atStart => exact ⟨0, cs0, by omega, rfl, row, Lib.hid (by rw [HZ.out]; exact (Nat.mul_one _).symm), Lib.hid (LaidR.zero _ _ _ _ _ _), Lib.hid (by rw [HX0.out]; exact Nat.le_refl _), hb0⟩
  case round =>
    obtain ⟨k, cs, hk, rfl, hrow, hcs, hlaid, hgw, hb⟩ := hrel
    by_cases hlt : k < l.length
    · obtain ⟨b, off, A0, n0, c0, -, rfl, q0, s0, -⟩ := UqR.at_ (h.below UqR.stays hb) hlt
      have hsz1 : k * 1 + 1 ≤ cs.size := by rw [hcs.out]; omega
      have hszk : l[k].sz ≤ 1048576 := by have := HS.out; have := sum_mem_le (Uq.sz) l k hlt; unfold szL at *; (try simp only at *); omega
      have HSK := Lib.hid hszk
      clear hszk
      go_wp2_with fail
      refine (lawsToUnique l[k] A0 n0 c0 ok _ s0 HSK.out).mono ?_
      rintro e w1 ⟨cs', rfl, hR1, hb1⟩
      obtain ⟨B0, m0, d0, rfl, t0, hcp⟩ := hR1
      have hrow1 := hrow.below hb1
      have hgw1 : w.heap.size + 1 ≤ w1.heap.size := Nat.le_trans hgw.out hb1.size
      have HGW := Lib.hid hgw1
      clear hgw1
      have hl1 := Lib.hid (hlaid.out.belowF UqR.stays hb1)
      have q : ∀ j, j < 1 → w1.cell? ⟨w.heap.size, k + j, none⟩ = some (cs[k + j]?.getD undef) := fun j hj => by
        rw [hrow1.cell, Array.getElem?_eq_getElem (by omega)]; rfl
      have z0 : w1.cell? ⟨w.heap.size, k, none⟩ = some (cs[k]?.getD undef) := q 0 (by omega)
      have f0 := hrow1.free (k)
      clear q
      have HR := Lib.hid hrow1
      clear hrow1 hrow q0
      go_wp2_with fail
      go_roundw
      case rel =>
        have y0 := ((t0.stays IntR.stays (ok' := okF (w.heap.size + 1) w1) (fun b hb' => hb'.mono hgw.out) (fun p v _ hp => hp))).setF IntR.stays (p := ⟨w.heap.size, k, none⟩) (by simp) (.slice B0 m0 d0)
        exact ⟨k + 1, _, by omega, by go_num, (HR.out).set _ _, Lib.hid (by simp [hcs.out]), Lib.hid (((hl1.out).setF UqR.stays (by simp) _).more hlt (c := [.slice B0 m0 d0]) rfl ⟨_, _, _, rfl, y0, hcp⟩ (hold1 cs k _) (fresh1 cs k _ hsz1)), Lib.hid (by simpa using HGW.out), (hb.trans (hb1.mono hb.size)).setCell (by simp) _⟩
      case measure => simp [intOf]; omega
    · obtain rfl : k = l.length := by omega
      go_wp2
      go_ret
      exact ⟨_, _, rfl, Nat.le_refl _, (sl_of_laid (ok := okF w.heap.size _) hrow ⟨Nat.le_refl _, hgw.out, fun off => hrow.free off⟩ (fun i hi hlt' => by
        obtain ⟨c', h1, h2, h3⟩ := hlaid.out i hi hlt'
        exact ⟨c', h1, UqR.stays _ _ _ _ _ _ h2 (fun b hb' => hb'.mono (Nat.le_succ _)) (fun p v _ hp => hp), h3⟩) (Nat.le_refl _)), hb⟩
set_option maxRecDepth 100000 in
set_option maxHeartbeats 1000000 in
theorem lawsToCheck (x : Ck) (A0 : Option Addr) (n0 c0 : Nat) (ok : Nat → Prop) (w : World) (h0 : Sl TkR 5 ok w A0 n0 x.expr) (hs : x.sz ≤ 1048576) :
    Calls Tryz.prog 183 #[.agg #[.slice A0 n0 c0]] w (MadeR CkR x w) := by
  have hs0 : szL (fun t : Tk => t.vs.size) x.expr ≤ 1048576 := by have := hs; unfold Ck.sz at this; omega
  have HS0 := Lib.hid hs0
  clear hs0
  clear hs
  have ra := ((Row.new w 224 #[.slice A0 n0 c0]).alloc (.cells #[.slice none 0 0] 186)).alloc (.cells #[.slice none 0 0] 186)
  have r1 := (Row.newAt (w.alloc (.cells #[.slice A0 n0 c0] 224)) 186 #[.slice none 0 0] (w.heap.size + 1) (by simp)).alloc (.cells #[.slice none 0 0] 186)
  have r2 := Row.newAt ((w.alloc (.cells #[.slice A0 n0 c0] 224)).alloc (.cells #[.slice none 0 0] 186)) 186 #[.slice none 0 0] (w.heap.size + 1 + 1) (by simp)
  have hb0 := ((((Below.refl w.heap.size w).alloc (Nat.le_refl _) (.cells #[.slice A0 n0 c0] 224)).alloc (by simp) (.cells #[.slice none 0 0] 186)).alloc (by simp; omega) (.cells #[.slice none 0 0] 186))
  have hz0 : w.heap.size + 3 ≤ (((w.alloc (.cells #[.slice A0 n0 c0] 224)).alloc (.cells #[.slice none 0 0] 186)).alloc (.cells #[.slice none 0 0] 186)).heap.size := by simp
  go_enter Tryz.func183, Tryz.ntmps183
  go_wp2_with fail
  generalize ((w.alloc (.cells #[.slice A0 n0 c0] 224)).alloc (.cells #[.slice none 0 0] 186)).alloc (.cells #[.slice none 0 0] 186) = x0 at *
  refine (lawsToTokL A0 n0 c0 x.expr ok _ (h0.below TkR.stays hb0) HS0.out).mono ?_
  rintro e w1 ⟨B0, d0, rfl, hcp0, t0, hc0⟩
  have u0 := t0.stays TkR.stays (ok' := okF (w.heap.size + 3) w1) (fun b hb' => hb'.mono (by omega)) (fun p v _ hp => hp)
  clear t0
  have ra := ra.below hc0
  have r1 := r1.below hc0
  have r2 := r2.below hc0
  have hbx0 := hb0.trans (hc0.mono hb0.size)
  have hz1 : w.heap.size + 3 ≤ w1.heap.size := Nat.le_trans hz0 hc0.size
  obtain ⟨a_0_0, -⟩ := ra.all1
  obtain ⟨b_0_0, f_0_0⟩ := r2.all1
  obtain ⟨g_0_0, k_0_0⟩ := r1.all1
  have rz : Row (((w1).setCell ⟨w.heap.size + 1 + 1, 0, none⟩ (.slice B0 n0 d0)).setCell ⟨w.heap.size + 1, 0, none⟩ (.slice B0 n0 d0)) (w.heap.size + 1) 186 #[.slice B0 n0 d0] := ((r1).far (by simp) _).set 0 _
  obtain ⟨z0, -⟩ := rz.all1
  have y0 : Sl TkR 5 (okF (w.heap.size + 3) (((w1).setCell ⟨w.heap.size + 1 + 1, 0, none⟩ (.slice B0 n0 d0)).setCell ⟨w.heap.size + 1, 0, none⟩ (.slice B0 n0 d0))) (((w1).setCell ⟨w.heap.size + 1 + 1, 0, none⟩ (.slice B0 n0 d0)).setCell ⟨w.heap.size + 1, 0, none⟩ (.slice B0 n0 d0)) B0 n0 x.expr := ((u0).setF TkR.stays (by simp) _).setF TkR.stays (by simp) _
  have hbz : Below w.heap.size w (((w1).setCell ⟨w.heap.size + 1 + 1, 0, none⟩ (.slice B0 n0 d0)).setCell ⟨w.heap.size + 1, 0, none⟩ (.slice B0 n0 d0)) := ((hbx0).setCell (by simp; try omega) _).setCell (by simp; try omega) _
  clear ra r1 r2 rz
  go_wp2_with fail
  exact bodyPost_ret (v := .agg #[.slice B0 n0 d0]) (by simp [results, Tryz.results183, go_sem, z0]) rfl ⟨[.slice B0 n0 d0], rfl, ⟨_, _, _, rfl, y0.stays TkR.stays (fun b hb' => hb'.mono (by omega)) (fun p v _ hp => hp), hcp0⟩, hbz⟩
theorem infoCheckT : (Tryz.prog.info? 186).map (fun i => (i.zero, i.size, i.bytes)) = some (some (.agg #[.slice none 0 0]), 1, 24) := by kernel_rfl
set_option maxRecDepth 100000 in
set_option maxHeartbeats 1000000 in
theorem lawsToCheckL (A : Option Addr) (n c : Nat) (l : List Ck) (ok : Nat → Prop) (w : World) (h : Sl CkR 1 ok w A n l) (hs : szL Ck.sz l ≤ 1048576) :
    Calls Tryz.prog 124 #[.slice A n c] w (MadeSl CkR 1 n l w) := by
  obtain rfl : l.length = n := h.1
  have hn : l.length ≤ 1048576 := by unfold szL at hs; omega
  have HS := Lib.hid hs
  clear hs
  have hmk := fun w => mk_rows (P := Tryz.prog) Tryz.underlying83 infoCheckT (by omega) l.length hn w
  simp only [Nat.mul_one] at hmk
  go_enter Tryz.func124, Tryz.ntmps124
  go_wp2
  have row := Row.new w 186 (madeCells #[.slice none 0 0] (l.length))
  have hb0 := (Below.refl w.heap.size w).alloc (Nat.le_refl _) (.cells (madeCells #[.slice none 0 0] (l.length)) 186)
  have hsz := size_madeCells #[.slice none 0 0] (l.length)
  have hx0 : (w.alloc (.cells (madeCells #[.slice none 0 0] (l.length)) 186)).heap.size = w.heap.size + 1 := by simp
  generalize w.alloc (.cells (madeCells #[.slice none 0 0] (l.length)) 186) = x at *
  generalize madeCells #[.slice none 0 0] (l.length) = cs0 at *
  have HZ := Lib.hid hsz
  have HX0 := Lib.hid hx0
  clear hmk hsz hx0
  go_loopw [4] (fun i wr => ∃ (k : Nat) (cs : Array Value), k ≤ l.length ∧ i = .int .i64 k ∧ Row wr w.heap.size 186 cs ∧ Hid (cs.size = l.length * 1) ∧ Hid (LaidR CkR 1 (okF (w.heap.size + 1) wr) wr cs k l) ∧ Hid (w.heap.size + 1 ≤ wr.heap.size) ∧ Below w.heap.size w wr) (fun i _ => l.length - (intOf i).toNat)
  case atStart => exact ⟨0, cs0, by omega, rfl, row, Lib.hid (by rw [HZ.out]; exact (Nat.mul_one _).symm), Lib.hid (LaidR.zero _ _ _ _ _ _), Lib.hid (by rw [HX0.out]; exact Nat.le_refl _), hb0⟩
  case round =>
    obtain ⟨k, cs, hk, rfl, hrow, hcs, hlaid, hgw, hb⟩ := hrel
    by_cases hlt : k < l.length
    · obtain ⟨b, off, A0, n0, c0, -, rfl, q0, s0, -⟩ := CkR.at_ (h.below CkR.stays hb) hlt
      have hsz1 : k * 1 + 1 ≤ cs.size := by rw [hcs.out]; omega
      have hszk : l[k].sz ≤ 1048576 := by have := HS.out; have := sum_mem_le (Ck.sz) l k hlt; unfold szL at *; (try simp only at *); omega
      have HSK := Lib.hid hszk
      clear hszk
      go_wp2_with fail
      refine (lawsToCheck l[k] A0 n0 c0 ok _ s0 HSK.out).mono ?_
      rintro e w1 ⟨cs', rfl, hR1, hb1⟩
      obtain ⟨B0, m0, d0, rfl, t0, hcp⟩ := hR1
      have hrow1 := hrow.below hb1
      have hgw1 : w.heap.size + 1 ≤ w1.heap.size := Nat.le_trans hgw.out hb1.size
      have HGW := Lib.hid hgw1
      clear hgw1
      have hl1 := Lib.hid (hlaid.out.belowF CkR.stays hb1)
      have q : ∀ j, j < 1 → w1.cell? ⟨w.heap.size, k + j, none⟩ = some (cs[k + j]?.getD undef) := fun j hj => by
        rw [hrow1.cell, Array.getElem?_eq_getElem (by omega)]; rfl
      have z0 : w1.cell? ⟨w.heap.size, k, none⟩ = some (cs[k]?.getD undef) := q 0 (by omega)
      have f0 := hrow1.free (k)
      clear q
      have HR := Lib.hid hrow1
      clear hrow1 hrow q0
      go_wp2_with fail
      go_roundw
      case rel =>
        have y0 := ((t0.stays TkR.stays (ok' := okF (w.heap.size + 1) w1) (fun b hb' => hb'.mono hgw.out) (fun p v _ hp => hp))).setF TkR.stays (p := ⟨w.heap.size, k, none⟩) (by simp) (.slice B0 m0 d0)
        exact ⟨k + 1, _, by omega, by go_num, (HR.out).set _ _, Lib.hid (by simp [hcs.out]), Lib.hid (((hl1.out).setF CkR.stays (by simp) _).more hlt (c := [.slice B0 m0 d0]) rfl ⟨_, _, _, rfl, y0, hcp⟩ (hold1 cs k _) (fresh1 cs k _ hsz1)), Lib.hid (by simpa using HGW.out), (hb.trans (hb1.mono hb.size)).setCell (by simp) _⟩
      case measure => simp [intOf]; omega
    · obtain rfl : k = l.length := by omega
      go_wp2
      go_ret
      exact ⟨_, _, rfl, Nat.le_refl _, (sl_of_laid (ok := okF w.heap.size _) hrow ⟨Nat.le_refl _, hgw.out, fun off => hrow.free off⟩ (fun i hi hlt' => by
        obtain ⟨c', h1, h2, h3⟩ := hlaid.out i hi hlt'
        exact ⟨c', h1, CkR.stays _ _ _ _ _ _ h2 (fun b hb' => hb'.mono (Nat.le_succ _)) (fun p v _ hp => hp), h3⟩) (Nat.le_refl _)), hb⟩
set_option maxRecDepth 100000 in
set_option maxHeartbeats 1000000 in
theorem lawsToFk (x : Fk) (A0 : Option Addr) (n0 c0 : Nat) (ok : Nat → Prop) (w : World) (h0 : Sl IntR 1 ok w A0 n0 x.cols) (hs : x.sz ≤ 1048576) :
    Calls Tryz.prog 184 #[.agg #[.slice A0 n0 c0, .string x.table, .int .i64 x.del, .int .i64 x.upd, .bool x.dfr]] w (MadeR FkR x w) := by
  have hs0 : x.cols.length ≤ 1048576 := by have := hs; unfold Fk.sz at this; omega
  have HS0 := Lib.hid hs0
  clear hs0
  clear hs
  have ra := ((Row.new w 226 #[.slice A0 n0 c0, .string x.table, .int .i64 x.del, .int .i64 x.upd, .bool x.dfr]).alloc (.cells #[.slice none 0 0, .string ⟨#[]⟩, .int .i64 0, .int .i64 0, .bool false] 188)).alloc (.cells #[.slice none 0 0, .string ⟨#[]⟩, .int .i64 0, .int .i64 0, .bool false] 188)
  have r1 := (Row.newAt (w.alloc (.cells #[.slice A0 n0 c0, .string x.table, .int .i64 x.del, .int .i64 x.upd, .bool x.dfr] 226)) 188 #[.slice none 0 0, .string ⟨#[]⟩, .int .i64 0, .int .i64 0, .bool false] (w.heap.size + 1) (by simp)).alloc (.cells #[.slice none 0 0, .string ⟨#[]⟩, .int .i64 0, .int .i64 0, .bool false] 188)
  have r2 := Row.newAt ((w.alloc (.cells #[.slice A0 n0 c0, .string x.table, .int .i64 x.del, .int .i64 x.upd, .bool x.dfr] 226)).alloc (.cells #[.slice none 0 0, .string ⟨#[]⟩, .int .i64 0, .int .i64 0, .bool false] 188)) 188 #[.slice none 0 0, .string ⟨#[]⟩, .int .i64 0, .int .i64 0, .bool false] (w.heap.size + 1 + 1) (by simp)
  have hb0 := ((((Below.refl w.heap.size w).alloc (Nat.le_refl _) (.cells #[.slice A0 n0 c0, .string x.table, .int .i64 x.del, .int .i64 x.upd, .bool x.dfr] 226)).alloc (by simp) (.cells #[.slice none 0 0, .string ⟨#[]⟩, .int .i64 0, .int .i64 0, .bool false] 188)).alloc (by simp; omega) (.cells #[.slice none 0 0, .string ⟨#[]⟩, .int .i64 0, .int .i64 0, .bool false] 188))
  have hz0 : w.heap.size + 3 ≤ (((w.alloc (.cells #[.slice A0 n0 c0, .string x.table, .int .i64 x.del, .int .i64 x.upd, .bool x.dfr] 226)).alloc (.cells #[.slice none 0 0, .string ⟨#[]⟩, .int .i64 0, .int .i64 0, .bool false] 188)).alloc (.cells #[.slice none 0 0, .string ⟨#[]⟩, .int .i64 0, .int .i64 0, .bool false] 188)).heap.size := by simp
  go_enter Tryz.func184, Tryz.ntmps184
  go_wp2_with fail
  generalize ((w.alloc (.cells #[.slice A0 n0 c0, .string x.table, .int .i64 x.del, .int .i64 x.upd, .bool x.dfr] 226)).alloc (.cells #[.slice none 0 0, .string ⟨#[]⟩, .int .i64 0, .int .i64 0, .bool false] 188)).alloc (.cells #[.slice none 0 0, .string ⟨#[]⟩, .int .i64 0, .int .i64 0, .bool false] 188) = x0 at *
  refine (lawsToIntL A0 n0 c0 x.cols ok _ (h0.below IntR.stays hb0) HS0.out).mono ?_
  rintro e w1 ⟨B0, d0, rfl, hcp0, t0, hc0⟩
  have u0 := t0.stays IntR.stays (ok' := okF (w.heap.size + 3) w1) (fun b hb' => hb'.mono (by omega)) (fun p v _ hp => hp)
  clear t0
  have ra := ra.below hc0
  have r1 := r1.below hc0
  have r2 := r2.below hc0
  have hbx0 := hb0.trans (hc0.mono hb0.size)
  have hz1 : w.heap.size + 3 ≤ w1.heap.size := Nat.le_trans hz0 hc0.size
  obtain ⟨⟨a_0_0, a_0_1, a_0_2, a_0_3, a_0_4⟩, -⟩ := ra.five
  obtain ⟨⟨b_0_0, b_0_1, b_0_2, b_0_3, b_0_4⟩, ⟨f_0_0, f_0_1, f_0_2, f_0_3, f_0_4⟩⟩ := r2.five
  obtain ⟨⟨g_0_0, g_0_1, g_0_2, g_0_3, g_0_4⟩, ⟨k_0_0, k_0_1, k_0_2, k_0_3, k_0_4⟩⟩ := r1.five
  have rz : Row (((((((((((w1).setCell ⟨w.heap.size + 1 + 1, 0, none⟩ (.slice B0 n0 d0)).setCell ⟨w.heap.size + 1 + 1, 1, none⟩ (.string x.table)).setCell ⟨w.heap.size + 1 + 1, 2, none⟩ (.int .i64 x.del)).setCell ⟨w.heap.size + 1 + 1, 3, none⟩ (.int .i64 x.upd)).setCell ⟨w.heap.size + 1 + 1, 4, none⟩ (.bool x.dfr)).setCell ⟨w.heap.size + 1, 0, none⟩ (.slice B0 n0 d0)).setCell ⟨w.heap.size + 1, 1, none⟩ (.string x.table)).setCell ⟨w.heap.size + 1, 2, none⟩ (.int .i64 x.del)).setCell ⟨w.heap.size + 1, 3, none⟩ (.int .i64 x.upd)).setCell ⟨w.heap.size + 1, 4, none⟩ (.bool x.dfr)) (w.heap.size + 1) 188 #[.slice B0 n0 d0, .string x.table, .int .i64 x.del, .int .i64 x.upd, .bool x.dfr] := ((((((((((r1).far (by simp) _).far (by simp) _).far (by simp) _).far (by simp) _).far (by simp) _).set 0 _).set 1 _).set 2 _).set 3 _).set 4 _
  obtain ⟨⟨z0, z1, z2, z3, z4⟩, -⟩ := rz.five
  have y0 : Sl IntR 1 (okF (w.heap.size + 3) (((((((((((w1).setCell ⟨w.heap.size + 1 + 1, 0, none⟩ (.slice B0 n0 d0)).setCell ⟨w.heap.size + 1 + 1, 1, none⟩ (.string x.table)).setCell ⟨w.heap.size + 1 + 1, 2, none⟩ (.int .i64 x.del)).setCell ⟨w.heap.size + 1 + 1, 3, none⟩ (.int .i64 x.upd)).setCell ⟨w.heap.size + 1 + 1, 4, none⟩ (.bool x.dfr)).setCell ⟨w.heap.size + 1, 0, none⟩ (.slice B0 n0 d0)).setCell ⟨w.heap.size + 1, 1, none⟩ (.string x.table)).setCell ⟨w.heap.size + 1, 2, none⟩ (.int .i64 x.del)).setCell ⟨w.heap.size + 1, 3, none⟩ (.int .i64 x.upd)).setCell ⟨w.heap.size + 1, 4, none⟩ (.bool x.dfr))) (((((((((((w1).setCell ⟨w.heap.size + 1 + 1, 0, none⟩ (.slice B0 n0 d0)).setCell ⟨w.heap.size + 1 + 1, 1, none⟩ (.string x.table)).setCell ⟨w.heap.size + 1 + 1, 2, none⟩ (.int .i64 x.del)).setCell ⟨w.heap.size + 1 + 1, 3, none⟩ (.int .i64 x.upd)).setCell ⟨w.heap.size + 1 + 1, 4, none⟩ (.bool x.dfr)).setCell ⟨w.heap.size + 1, 0, none⟩ (.slice B0 n0 d0)).setCell ⟨w.heap.size + 1, 1, none⟩ (.string x.table)).setCell ⟨w.heap.size + 1, 2, none⟩ (.int .i64 x.del)).setCell ⟨w.heap.size + 1, 3, none⟩ (.int .i64 x.upd)).setCell ⟨w.heap.size + 1, 4, none⟩ (.bool x.dfr)) B0 n0 x.cols := ((((((((((u0).setF IntR.stays (by simp) _).setF IntR.stays (by simp) _).setF IntR.stays (by simp) _).setF IntR.stays (by simp) _).setF IntR.stays (by simp) _).setF IntR.stays (by simp) _).setF IntR.stays (by simp) _).setF IntR.stays (by simp) _).setF IntR.stays (by simp) _).setF IntR.stays (by simp) _
  have hbz : Below w.heap.size w (((((((((((w1).setCell ⟨w.heap.size + 1 + 1, 0, none⟩ (.slice B0 n0 d0)).setCell ⟨w.heap.size + 1 + 1, 1, none⟩ (.string x.table)).setCell ⟨w.heap.size + 1 + 1, 2, none⟩ (.int .i64 x.del)).setCell ⟨w.heap.size + 1 + 1, 3, none⟩ (.int .i64 x.upd)).setCell ⟨w.heap.size + 1 + 1, 4, none⟩ (.bool x.dfr)).setCell ⟨w.heap.size + 1, 0, none⟩ (.slice B0 n0 d0)).setCell ⟨w.heap.size + 1, 1, none⟩ (.string x.table)).setCell ⟨w.heap.size + 1, 2, none⟩ (.int .i64 x.del)).setCell ⟨w.heap.size + 1, 3, none⟩ (.int .i64 x.upd)).setCell ⟨w.heap.size + 1, 4, none⟩ (.bool x.dfr)) := ((((((((((hbx0).setCell (by simp; try omega) _).setCell (by simp; try omega) _).setCell (by simp; try omega) _).setCell (by simp; try omega) _).setCell (by simp; try omega) _).setCell (by simp; try omega) _).setCell (by simp; try omega) _).setCell (by simp; try omega) _).setCell (by simp; try omega) _).setCell (by simp; try omega) _
  clear ra r1 r2 rz
  go_wp2_with fail
  exact bodyPost_ret (v := .agg #[.slice B0 n0 d0, .string x.table, .int .i64 x.del, .int .i64 x.upd, .bool x.dfr]) (by simp [results, Tryz.results184, go_sem, z0, z1, z2, z3, z4]) rfl ⟨[.slice B0 n0 d0, .string x.table, .int .i64 x.del, .int .i64 x.upd, .bool x.dfr], rfl, ⟨_, _, _, rfl, y0.stays IntR.stays (fun b hb' => hb'.mono (by omega)) (fun p v _ hp => hp), hcp0⟩, hbz⟩
theorem infoFkT : (Tryz.prog.info? 188).map (fun i => (i.zero, i.size, i.bytes)) = some (some (.agg #[.slice none 0 0, .string ⟨#[]⟩, .int .i64 0, .int .i64 0, .bool false]), 5, 64) := by kernel_rfl
set_option maxRecDepth 100000 in
set_option maxHeartbeats 1000000 in
theorem lawsToFkL (A : Option Addr) (n c : Nat) (l : List Fk) (ok : Nat → Prop) (w : World) (h : Sl FkR 5 ok w A n l) (hs : szL Fk.sz l ≤ 1048576) :
    Calls Tryz.prog 125 #[.slice A n c] w (MadeSl FkR 5 n l w) := by
  obtain rfl : l.length = n := h.1
  have hn : l.length ≤ 1048576 := by unfold szL at hs; omega
  have HS := Lib.hid hs
  clear hs
  have hmk := fun w => mk_rows (P := Tryz.prog) Tryz.underlying84 infoFkT (by omega) l.length hn w
  go_enter Tryz.func125, Tryz.ntmps125
  go_wp2
  have row := Row.new w 188 (madeCells #[.slice none 0 0, .string ⟨#[]⟩, .int .i64 0, .int .i64 0, .bool false] (l.length * 5))
  have hb0 := (Below.refl w.heap.size w).alloc (Nat.le_refl _) (.cells (madeCells #[.slice none 0 0, .string ⟨#[]⟩, .int .i64 0, .int .i64 0, .bool false] (l.length * 5)) 188)
  have hsz := size_madeCells #[.slice none 0 0, .string ⟨#[]⟩, .int .i64 0, .int .i64 0, .bool false] (l.length * 5)
  have hx0 : (w.alloc (.cells (madeCells #[.slice none 0 0, .string ⟨#[]⟩, .int .i64 0, .int .i64 0, .bool false] (l.length * 5)) 188)).heap.size = w.heap.size + 1 := by simp
  generalize w.alloc (.cells (madeCells #[.slice none 0 0, .string ⟨#[]⟩, .int .i64 0, .int .i64 0, .bool false] (l.length * 5)) 188) = x at *
  generalize madeCells #[.slice none 0 0, .string ⟨#[]⟩, .int .i64 0, .int .i64 0, .bool false] (l.length * 5) = cs0 at *
  have HZ := Lib.hid hsz
  have HX0 := Lib.hid hx0
  clear hmk hsz hx0
  go_loopw [4] (fun i wr => ∃ (k : Nat) (cs : Array Value), k ≤ l.length ∧ i = .int .i64 k ∧ Row wr w.heap.size 188 cs ∧ Hid (cs.size = l.length * 5) ∧ Hid (LaidR FkR 5 (okF (w.heap.size + 1) wr) wr cs k l) ∧ Hid (w.heap.size + 1 ≤ wr.heap.size) ∧ Below w.heap.size w wr) (fun i _ => l.length - (intOf i).toNat)
  case atStart => exact ⟨0, cs0, by omega, rfl, row, Lib.hid (by rw [HZ.out]), Lib.hid (LaidR.zero _ _ _ _ _ _), Lib.hid (by rw [HX0.out]; exact Nat.le_refl _), hb0⟩
  case round =>
    obtain ⟨k, cs, hk, rfl, hrow, hcs, hlaid, hgw, hb⟩ := hrel
    by_cases hlt : k < l.length
    · obtain ⟨b, off, A0, n0, c0, -, rfl, q0, q1, q2, q3, q4, s0, -⟩ := FkR.at_ (h.below FkR.stays hb) hlt
      have hsz1 : k * 5 + 5 ≤ cs.size := by rw [hcs.out]; omega
      have hszk : l[k].sz ≤ 1048576 := by have := HS.out; have := sum_mem_le (Fk.sz) l k hlt; unfold szL at *; (try simp only at *); omega
      have HSK := Lib.hid hszk
      clear hszk
      go_wp2_with fail
      refine (lawsToFk l[k] A0 n0 c0 ok _ s0 HSK.out).mono ?_
      rintro e w1 ⟨cs', rfl, hR1, hb1⟩
      obtain ⟨B0, m0, d0, rfl, t0, hcp⟩ := hR1
      have hrow1 := hrow.below hb1
      have hgw1 : w.heap.size + 1 ≤ w1.heap.size := Nat.le_trans hgw.out hb1.size
      have HGW := Lib.hid hgw1
      clear hgw1
      have hl1 := Lib.hid (hlaid.out.belowF FkR.stays hb1)
      have q : ∀ j, j < 5 → w1.cell? ⟨w.heap.size, k * 5 + j, none⟩ = some (cs[k * 5 + j]?.getD undef) := fun j hj => by
        rw [hrow1.cell, Array.getElem?_eq_getElem (by omega)]; rfl
      have z0 : w1.cell? ⟨w.heap.size, k * 5, none⟩ = some (cs[k * 5]?.getD undef) := q 0 (by omega)
      have z1 := q 1 (by omega)
      have z2 := q 2 (by omega)
      have z3 := q 3 (by omega)
      have z4 := q 4 (by omega)
      have f0 := hrow1.free (k * 5)
      have f1 := hrow1.free (k * 5 + 1)
      have f2 := hrow1.free (k * 5 + 2)
      have f3 := hrow1.free (k * 5 + 3)
      have f4 := hrow1.free (k * 5 + 4)
      clear q
      have HR := Lib.hid hrow1
      clear hrow1 hrow q0 q1 q2 q3 q4
      go_wp2_with fail
      go_roundw
      case rel =>
        have y0 := ((((((t0.stays IntR.stays (ok' := okF (w.heap.size + 1) w1) (fun b hb' => hb'.mono hgw.out) (fun p v _ hp => hp))).setF IntR.stays (p := ⟨w.heap.size, k * 5, none⟩) (by simp) (.slice B0 m0 d0)).setF IntR.stays (p := ⟨w.heap.size, k * 5 + 1, none⟩) (by simp) (.string l[k].table)).setF IntR.stays (p := ⟨w.heap.size, k * 5 + 2, none⟩) (by simp) (.int .i64 l[k].del)).setF IntR.stays (p := ⟨w.heap.size, k * 5 + 3, none⟩) (by simp) (.int .i64 l[k].upd)).setF IntR.stays (p := ⟨w.heap.size, k * 5 + 4, none⟩) (by simp) (.bool l[k].dfr)
        exact ⟨k + 1, _, by omega, by go_num, (((((HR.out).set _ _).set _ _).set _ _).set _ _).set _ _, Lib.hid (by simp [hcs.out]), Lib.hid (((((((hl1.out).setF FkR.stays (by simp) _).setF FkR.stays (by simp) _).setF FkR.stays (by simp) _).setF FkR.stays (by simp) _).setF FkR.stays (by simp) _).more hlt (c := [.slice B0 m0 d0, .string l[k].table, .int .i64 l[k].del, .int .i64 l[k].upd, .bool l[k].dfr]) rfl ⟨_, _, _, rfl, y0, hcp⟩ (hold5 cs k _ _ _ _ _) (fresh5 cs k _ _ _ _ _ hsz1)), Lib.hid (by simpa using HGW.out), (((((hb.trans (hb1.mono hb.size)).setCell (by simp) _).setCell (by simp) _).setCell (by simp) _).setCell (by simp) _).setCell (by simp) _⟩
      case measure => simp [intOf]; omega
    · obtain rfl : k = l.length := by omega
      go_wp2
      go_ret
      exact ⟨_, _, rfl, Nat.le_refl _, (sl_of_laid (ok := okF w.heap.size _) hrow ⟨Nat.le_refl _, hgw.out, fun off => hrow.free off⟩ (fun i hi hlt' => by
        obtain ⟨c', h1, h2, h3⟩ := hlaid.out i hi hlt'
        exact ⟨c', h1, FkR.stays _ _ _ _ _ _ h2 (fun b hb' => hb'.mono (Nat.le_succ _)) (fun p v _ hp => hp), h3⟩) (Nat.le_refl _)), hb⟩
set_option maxRecDepth 100000 in
set_option maxHeartbeats 1000000 in
theorem lawsToTable (x : Tb) (A1 : Option Addr) (n1 c1 : Nat) (A2 : Option Addr) (n2 c2 : Nat) (A3 : Option Addr) (n3 c3 : Nat) (A4 : Option Addr) (n4 c4 : Nat) (A5 : Option Addr) (n5 c5 : Nat) (ok : Nat → Prop) (w : World) (h1 : Sl ClR 6 ok w A1 n1 x.cols) (h2 : Sl IntR 1 ok w A2 n2 x.key) (h3 : Sl UqR 1 ok w A3 n3 x.uniqs) (h4 : Sl CkR 1 ok w A4 n4 x.checks) (h5 : Sl FkR 5 ok w A5 n5 x.fks) (hs : x.sz ≤ 1048576) :
    Calls Tryz.prog 62 #[.agg #[.string x.name, .slice A1 n1 c1, .slice A2 n2 c2, .slice A3 n3 c3, .slice A4 n4 c4, .slice A5 n5 c5]] w (MadeR TbR x w) := by
  have hs1 : szL Cl.sz x.cols ≤ 1048576 := by have := hs; unfold Tb.sz at this; omega
  have HS1 := Lib.hid hs1
  clear hs1
  have hs2 : x.key.length ≤ 1048576 := by have := hs; unfold Tb.sz at this; omega
  have HS2 := Lib.hid hs2
  clear hs2
  have hs3 : szL Uq.sz x.uniqs ≤ 1048576 := by have := hs; unfold Tb.sz at this; omega
  have HS3 := Lib.hid hs3
  clear hs3
  have hs4 : szL Ck.sz x.checks ≤ 1048576 := by have := hs; unfold Tb.sz at this; omega
  have HS4 := Lib.hid hs4
  clear hs4
  have hs5 : szL Fk.sz x.fks ≤ 1048576 := by have := hs; unfold Tb.sz at this; omega
  have HS5 := Lib.hid hs5
  clear hs5
  clear hs
  have ra := ((Row.new w 75 #[.string x.name, .slice A1 n1 c1, .slice A2 n2 c2, .slice A3 n3 c3, .slice A4 n4 c4, .slice A5 n5 c5]).alloc (.cells #[.string ⟨#[]⟩, .slice none 0 0, .slice none 0 0, .slice none 0 0, .slice none 0 0, .slice none 0 0] 86)).alloc (.cells #[.string x.name, .slice none 0 0, .slice none 0 0, .slice none 0 0, .slice none 0 0, .slice none 0 0] 86)
  have r1 := (Row.newAt (w.alloc (.cells #[.string x.name, .slice A1 n1 c1, .slice A2 n2 c2, .slice A3 n3 c3, .slice A4 n4 c4, .slice A5 n5 c5] 75)) 86 #[.string ⟨#[]⟩, .slice none 0 0, .slice none 0 0, .slice none 0 0, .slice none 0 0, .slice none 0 0] (w.heap.size + 1) (by simp)).alloc (.cells #[.string x.name, .slice none 0 0, .slice none 0 0, .slice none 0 0, .slice none 0 0, .slice none 0 0] 86)
  have r2 := Row.newAt ((w.alloc (.cells #[.string x.name, .slice A1 n1 c1, .slice A2 n2 c2, .slice A3 n3 c3, .slice A4 n4 c4, .slice A5 n5 c5] 75)).alloc (.cells #[.string ⟨#[]⟩, .slice none 0 0, .slice none 0 0, .slice none 0 0, .slice none 0 0, .slice none 0 0] 86)) 86 #[.string x.name, .slice none 0 0, .slice none 0 0, .slice none 0 0, .slice none 0 0, .slice none 0 0] (w.heap.size + 1 + 1) (by simp)
  have hb0 := ((((Below.refl w.heap.size w).alloc (Nat.le_refl _) (.cells #[.string x.name, .slice A1 n1 c1, .slice A2 n2 c2, .slice A3 n3 c3, .slice A4 n4 c4, .slice A5 n5 c5] 75)).alloc (by simp) (.cells #[.string ⟨#[]⟩, .slice none 0 0, .slice none 0 0, .slice none 0 0, .slice none 0 0, .slice none 0 0] 86)).alloc (by simp; omega) (.cells #[.string x.name, .slice none 0 0, .slice none 0 0, .slice none 0 0, .slice none 0 0, .slice none 0 0] 86))
  have hz0 : w.heap.size + 3 ≤ (((w.alloc (.cells #[.string x.name, .slice A1 n1 c1, .slice A2 n2 c2, .slice A3 n3 c3, .slice A4 n4 c4, .slice A5 n5 c5] 75)).alloc (.cells #[.string ⟨#[]⟩, .slice none 0 0, .slice none 0 0, .slice none 0 0, .slice none 0 0, .slice none 0 0] 86)).alloc (.cells #[.string x.name, .slice none 0 0, .slice none 0 0, .slice none 0 0, .slice none 0 0, .slice none 0 0] 86)).heap.size := by simp
  go_enter Tryz.func62, Tryz.ntmps62
  go_wp2_with fail
  generalize ((w.alloc (.cells #[.string x.name, .slice A1 n1 c1, .slice A2 n2 c2, .slice A3 n3 c3, .slice A4 n4 c4, .slice A5 n5 c5] 75)).alloc (.cells #[.string ⟨#[]⟩, .slice none 0 0, .slice none 0 0, .slice none 0 0, .slice none 0 0, .slice none 0 0] 86)).alloc (.cells #[.string x.name, .slice none 0 0, .slice none 0 0, .slice none 0 0, .slice none 0 0, .slice none 0 0] 86) = x0 at *
  refine (lawsToColL A1 n1 c1 x.cols ok _ (h1.below ClR.stays hb0) HS1.out).mono ?_
  rintro e w1 ⟨B1, d1, rfl, hcp1, t1, hc0⟩
  have u1 := t1.stays ClR.stays (ok' := okF (w.heap.size + 3) w1) (fun b hb' => hb'.mono (by omega)) (fun p v _ hp => hp)
  clear t1
  have ra := ra.below hc0
  have r1 := r1.below hc0
  have r2 := r2.below hc0
  have hbx0 := hb0.trans (hc0.mono hb0.size)
  have hz1 : w.heap.size + 3 ≤ w1.heap.size := Nat.le_trans hz0 hc0.size
  obtain ⟨⟨a_0_0, a_0_1, a_0_2, a_0_3, a_0_4, a_0_5⟩, -⟩ := ra.all6
  obtain ⟨⟨b_0_0, b_0_1, b_0_2, b_0_3, b_0_4, b_0_5⟩, ⟨f_0_0, f_0_1, f_0_2, f_0_3, f_0_4, f_0_5⟩⟩ := r2.all6
  go_wp2_with fail
  have ra' : Row ((w1).setCell ⟨w.heap.size + 1 + 1, 1, none⟩ (.slice B1 n1 d1)) w.heap.size 75 #[.string x.name, .slice A1 n1 c1, .slice A2 n2 c2, .slice A3 n3 c3, .slice A4 n4 c4, .slice A5 n5 c5] := (ra).far (by simp; try omega) _
  have r1' : Row ((w1).setCell ⟨w.heap.size + 1 + 1, 1, none⟩ (.slice B1 n1 d1)) (w.heap.size + 1) 86 #[.string ⟨#[]⟩, .slice none 0 0, .slice none 0 0, .slice none 0 0, .slice none 0 0, .slice none 0 0] := (r1).far (by simp) _
  have r2' : Row ((w1).setCell ⟨w.heap.size + 1 + 1, 1, none⟩ (.slice B1 n1 d1)) (w.heap.size + 1 + 1) 86 #[.string x.name, .slice B1 n1 d1, .slice none 0 0, .slice none 0 0, .slice none 0 0, .slice none 0 0] := (r2).set 1 _
  have hb1 : Below w.heap.size w ((w1).setCell ⟨w.heap.size + 1 + 1, 1, none⟩ (.slice B1 n1 d1)) := (hbx0).setCell (by simp; try omega) _
  have hz1' : w.heap.size + 3 ≤ ((w1).setCell ⟨w.heap.size + 1 + 1, 1, none⟩ (.slice B1 n1 d1)).heap.size := by simpa using hz1
  have u1' : Sl ClR 6 (okF (w.heap.size + 3) ((w1).setCell ⟨w.heap.size + 1 + 1, 1, none⟩ (.slice B1 n1 d1))) ((w1).setCell ⟨w.heap.size + 1 + 1, 1, none⟩ (.slice B1 n1 d1)) B1 n1 x.cols := (u1).setF ClR.stays (by simp) _
  clear ra r1 r2 hz1 u1 a_0_0 a_0_1 a_0_2 a_0_3 a_0_4 a_0_5 b_0_0 b_0_1 b_0_2 b_0_3 b_0_4 b_0_5 f_0_0 f_0_1 f_0_2 f_0_3 f_0_4 f_0_5
  generalize (w1).setCell ⟨w.heap.size + 1 + 1, 1, none⟩ (.slice B1 n1 d1) = x1 at *
  have ra := ra'
  have r1 := r1'
  have r2 := r2'
  have hz1 := hz1'
  have u1 := u1'
  clear ra' r1' r2' hz1' u1'
  refine (lawsToIntL A2 n2 c2 x.key ok _ (h2.below IntR.stays hb1) HS2.out).mono ?_
  rintro e w2 ⟨B2, d2, rfl, hcp2, t2, hc1⟩
  have u2 := t2.stays IntR.stays (ok' := okF (w.heap.size + 3) w2) (fun b hb' => hb'.mono (by omega)) (fun p v _ hp => hp)
  clear t2
  have ra := ra.below hc1
  have r1 := r1.below hc1
  have r2 := r2.below hc1
  have hbx1 := hb1.trans (hc1.mono hb1.size)
  have hz2 : w.heap.size + 3 ≤ w2.heap.size := Nat.le_trans hz1 hc1.size
  have u1 := u1.belowF ClR.stays hc1
  obtain ⟨⟨a_1_0, a_1_1, a_1_2, a_1_3, a_1_4, a_1_5⟩, -⟩ := ra.all6
  obtain ⟨⟨b_1_0, b_1_1, b_1_2, b_1_3, b_1_4, b_1_5⟩, ⟨f_1_0, f_1_1, f_1_2, f_1_3, f_1_4, f_1_5⟩⟩ := r2.all6
  go_wp2_with fail
  have ra' : Row ((w2).setCell ⟨w.heap.size + 1 + 1, 2, none⟩ (.slice B2 n2 d2)) w.heap.size 75 #[.string x.name, .slice A1 n1 c1, .slice A2 n2 c2, .slice A3 n3 c3, .slice A4 n4 c4, .slice A5 n5 c5] := (ra).far (by simp; try omega) _
  have r1' : Row ((w2).setCell ⟨w.heap.size + 1 + 1, 2, none⟩ (.slice B2 n2 d2)) (w.heap.size + 1) 86 #[.string ⟨#[]⟩, .slice none 0 0, .slice none 0 0, .slice none 0 0, .slice none 0 0, .slice none 0 0] := (r1).far (by simp) _
  have r2' : Row ((w2).setCell ⟨w.heap.size + 1 + 1, 2, none⟩ (.slice B2 n2 d2)) (w.heap.size + 1 + 1) 86 #[.string x.name, .slice B1 n1 d1, .slice B2 n2 d2, .slice none 0 0, .slice none 0 0, .slice none 0 0] := (r2).set 2 _
  have hb2 : Below w.heap.size w ((w2).setCell ⟨w.heap.size + 1 + 1, 2, none⟩ (.slice B2 n2 d2)) := (hbx1).setCell (by simp; try omega) _
  have hz2' : w.heap.size + 3 ≤ ((w2).setCell ⟨w.heap.size + 1 + 1, 2, none⟩ (.slice B2 n2 d2)).heap.size := by simpa using hz2
  have u1' : Sl ClR 6 (okF (w.heap.size + 3) ((w2).setCell ⟨w.heap.size + 1 + 1, 2, none⟩ (.slice B2 n2 d2))) ((w2).setCell ⟨w.heap.size + 1 + 1, 2, none⟩ (.slice B2 n2 d2)) B1 n1 x.cols := (u1).setF ClR.stays (by simp) _
  have u2' : Sl IntR 1 (okF (w.heap.size + 3) ((w2).setCell ⟨w.heap.size + 1 + 1, 2, none⟩ (.slice B2 n2 d2))) ((w2).setCell ⟨w.heap.size + 1 + 1, 2, none⟩ (.slice B2 n2 d2)) B2 n2 x.key := (u2).setF IntR.stays (by simp) _
  clear ra r1 r2 hz2 u1 u2 a_1_0 a_1_1 a_1_2 a_1_3 a_1_4 a_1_5 b_1_0 b_1_1 b_1_2 b_1_3 b_1_4 b_1_5 f_1_0 f_1_1 f_1_2 f_1_3 f_1_4 f_1_5
  generalize (w2).setCell ⟨w.heap.size + 1 + 1, 2, none⟩ (.slice B2 n2 d2) = x2 at *
  have ra := ra'
  have r1 := r1'
  have r2 := r2'
  have hz2 := hz2'
  have u1 := u1'
  have u2 := u2'
  clear ra' r1' r2' hz2' u1' u2'
  refine (lawsToUniqueL A3 n3 c3 x.uniqs ok _ (h3.below UqR.stays hb2) HS3.out).mono ?_
  rintro e w3 ⟨B3, d3, rfl, hcp3, t3, hc2⟩
  have u3 := t3.stays UqR.stays (ok' := okF (w.heap.size + 3) w3) (fun b hb' => hb'.mono (by omega)) (fun p v _ hp => hp)
  clear t3
  have ra := ra.below hc2
  have r1 := r1.below hc2
  have r2 := r2.below hc2
  have hbx2 := hb2.trans (hc2.mono hb2.size)
  have hz3 : w.heap.size + 3 ≤ w3.heap.size := Nat.le_trans hz2 hc2.size
  have u1 := u1.belowF ClR.stays hc2
  have u2 := u2.belowF IntR.stays hc2
  obtain ⟨⟨a_2_0, a_2_1, a_2_2, a_2_3, a_2_4, a_2_5⟩, -⟩ := ra.all6
  obtain ⟨⟨b_2_0, b_2_1, b_2_2, b_2_3, b_2_4, b_2_5⟩, ⟨f_2_0, f_2_1, f_2_2, f_2_3, f_2_4, f_2_5⟩⟩ := r2.all6
  go_wp2_with fail
  have ra' : Row ((w3).setCell ⟨w.heap.size + 1 + 1, 3, none⟩ (.slice B3 n3 d3)) w.heap.size 75 #[.string x.name, .slice A1 n1 c1, .slice A2 n2 c2, .slice A3 n3 c3, .slice A4 n4 c4, .slice A5 n5 c5] := (ra).far (by simp; try omega) _
  have r1' : Row ((w3).setCell ⟨w.heap.size + 1 + 1, 3, none⟩ (.slice B3 n3 d3)) (w.heap.size + 1) 86 #[.string ⟨#[]⟩, .slice none 0 0, .slice none 0 0, .slice none 0 0, .slice none 0 0, .slice none 0 0] := (r1).far (by simp) _
  have r2' : Row ((w3).setCell ⟨w.heap.size + 1 + 1, 3, none⟩ (.slice B3 n3 d3)) (w.heap.size + 1 + 1) 86 #[.string x.name, .slice B1 n1 d1, .slice B2 n2 d2, .slice B3 n3 d3, .slice none 0 0, .slice none 0 0] := (r2).set 3 _
  have hb3 : Below w.heap.size w ((w3).setCell ⟨w.heap.size + 1 + 1, 3, none⟩ (.slice B3 n3 d3)) := (hbx2).setCell (by simp; try omega) _
  have hz3' : w.heap.size + 3 ≤ ((w3).setCell ⟨w.heap.size + 1 + 1, 3, none⟩ (.slice B3 n3 d3)).heap.size := by simpa using hz3
  have u1' : Sl ClR 6 (okF (w.heap.size + 3) ((w3).setCell ⟨w.heap.size + 1 + 1, 3, none⟩ (.slice B3 n3 d3))) ((w3).setCell ⟨w.heap.size + 1 + 1, 3, none⟩ (.slice B3 n3 d3)) B1 n1 x.cols := (u1).setF ClR.stays (by simp) _
  have u2' : Sl IntR 1 (okF (w.heap.size + 3) ((w3).setCell ⟨w.heap.size + 1 + 1, 3, none⟩ (.slice B3 n3 d3))) ((w3).setCell ⟨w.heap.size + 1 + 1, 3, none⟩ (.slice B3 n3 d3)) B2 n2 x.key := (u2).setF IntR.stays (by simp) _
  have u3' : Sl UqR 1 (okF (w.heap.size + 3) ((w3).setCell ⟨w.heap.size + 1 + 1, 3, none⟩ (.slice B3 n3 d3))) ((w3).setCell ⟨w.heap.size + 1 + 1, 3, none⟩ (.slice B3 n3 d3)) B3 n3 x.uniqs := (u3).setF UqR.stays (by simp) _
  clear ra r1 r2 hz3 u1 u2 u3 a_2_0 a_2_1 a_2_2 a_2_3 a_2_4 a_2_5 b_2_0 b_2_1 b_2_2 b_2_3 b_2_4 b_2_5 f_2_0 f_2_1 f_2_2 f_2_3 f_2_4 f_2_5
  generalize (w3).setCell ⟨w.heap.size + 1 + 1, 3, none⟩ (.slice B3 n3 d3) = x3 at *
  have ra := ra'
  have r1 := r1'
  have r2 := r2'
  have hz3 := hz3'
  have u1 := u1'
  have u2 := u2'
  have u3 := u3'
  clear ra' r1' r2' hz3' u1' u2' u3'
  refine (lawsToCheckL A4 n4 c4 x.checks ok _ (h4.below CkR.stays hb3) HS4.out).mono ?_
  rintro e w4 ⟨B4, d4, rfl, hcp4, t4, hc3⟩
  have u4 := t4.stays CkR.stays (ok' := okF (w.heap.size + 3) w4) (fun b hb' => hb'.mono (by omega)) (fun p v _ hp => hp)
  clear t4
  have ra := ra.below hc3
  have r1 := r1.below hc3
  have r2 := r2.below hc3
  have hbx3 := hb3.trans (hc3.mono hb3.size)
  have hz4 : w.heap.size + 3 ≤ w4.heap.size := Nat.le_trans hz3 hc3.size
  have u1 := u1.belowF ClR.stays hc3
  have u2 := u2.belowF IntR.stays hc3
  have u3 := u3.belowF UqR.stays hc3
  obtain ⟨⟨a_3_0, a_3_1, a_3_2, a_3_3, a_3_4, a_3_5⟩, -⟩ := ra.all6
  obtain ⟨⟨b_3_0, b_3_1, b_3_2, b_3_3, b_3_4, b_3_5⟩, ⟨f_3_0, f_3_1, f_3_2, f_3_3, f_3_4, f_3_5⟩⟩ := r2.all6
  go_wp2_with fail
  have ra' : Row ((w4).setCell ⟨w.heap.size + 1 + 1, 4, none⟩ (.slice B4 n4 d4)) w.heap.size 75 #[.string x.name, .slice A1 n1 c1, .slice A2 n2 c2, .slice A3 n3 c3, .slice A4 n4 c4, .slice A5 n5 c5] := (ra).far (by simp; try omega) _
  have r1' : Row ((w4).setCell ⟨w.heap.size + 1 + 1, 4, none⟩ (.slice B4 n4 d4)) (w.heap.size + 1) 86 #[.string ⟨#[]⟩, .slice none 0 0, .slice none 0 0, .slice none 0 0, .slice none 0 0, .slice none 0 0] := (r1).far (by simp) _
  have r2' : Row ((w4).setCell ⟨w.heap.size + 1 + 1, 4, none⟩ (.slice B4 n4 d4)) (w.heap.size + 1 + 1) 86 #[.string x.name, .slice B1 n1 d1, .slice B2 n2 d2, .slice B3 n3 d3, .slice B4 n4 d4, .slice none 0 0] := (r2).set 4 _
  have hb4 : Below w.heap.size w ((w4).setCell ⟨w.heap.size + 1 + 1, 4, none⟩ (.slice B4 n4 d4)) := (hbx3).setCell (by simp; try omega) _
  have hz4' : w.heap.size + 3 ≤ ((w4).setCell ⟨w.heap.size + 1 + 1, 4, none⟩ (.slice B4 n4 d4)).heap.size := by simpa using hz4
  have u1' : Sl ClR 6 (okF (w.heap.size + 3) ((w4).setCell ⟨w.heap.size + 1 + 1, 4, none⟩ (.slice B4 n4 d4))) ((w4).setCell ⟨w.heap.size + 1 + 1, 4, none⟩ (.slice B4 n4 d4)) B1 n1 x.cols := (u1).setF ClR.stays (by simp) _
  have u2' : Sl IntR 1 (okF (w.heap.size + 3) ((w4).setCell ⟨w.heap.size + 1 + 1, 4, none⟩ (.slice B4 n4 d4))) ((w4).setCell ⟨w.heap.size + 1 + 1, 4, none⟩ (.slice B4 n4 d4)) B2 n2 x.key := (u2).setF IntR.stays (by simp) _
  have u3' : Sl UqR 1 (okF (w.heap.size + 3) ((w4).setCell ⟨w.heap.size + 1 + 1, 4, none⟩ (.slice B4 n4 d4))) ((w4).setCell ⟨w.heap.size + 1 + 1, 4, none⟩ (.slice B4 n4 d4)) B3 n3 x.uniqs := (u3).setF UqR.stays (by simp) _
  have u4' : Sl CkR 1 (okF (w.heap.size + 3) ((w4).setCell ⟨w.heap.size + 1 + 1, 4, none⟩ (.slice B4 n4 d4))) ((w4).setCell ⟨w.heap.size + 1 + 1, 4, none⟩ (.slice B4 n4 d4)) B4 n4 x.checks := (u4).setF CkR.stays (by simp) _
  clear ra r1 r2 hz4 u1 u2 u3 u4 a_3_0 a_3_1 a_3_2 a_3_3 a_3_4 a_3_5 b_3_0 b_3_1 b_3_2 b_3_3 b_3_4 b_3_5 f_3_0 f_3_1 f_3_2 f_3_3 f_3_4 f_3_5
  generalize (w4).setCell ⟨w.heap.size + 1 + 1, 4, none⟩ (.slice B4 n4 d4) = x4 at *
  have ra := ra'
  have r1 := r1'
  have r2 := r2'
  have hz4 := hz4'
  have u1 := u1'
  have u2 := u2'
  have u3 := u3'
  have u4 := u4'
  clear ra' r1' r2' hz4' u1' u2' u3' u4'
  refine (lawsToFkL A5 n5 c5 x.fks ok _ (h5.below FkR.stays hb4) HS5.out).mono ?_
  rintro e w5 ⟨B5, d5, rfl, hcp5, t5, hc4⟩
  have u5 := t5.stays FkR.stays (ok' := okF (w.heap.size + 3) w5) (fun b hb' => hb'.mono (by omega)) (fun p v _ hp => hp)
  clear t5
  have ra := ra.below hc4
  have r1 := r1.below hc4
  have r2 := r2.below hc4
  have hbx4 := hb4.trans (hc4.mono hb4.size)
  have hz5 : w.heap.size + 3 ≤ w5.heap.size := Nat.le_trans hz4 hc4.size
  have u1 := u1.belowF ClR.stays hc4
  have u2 := u2.belowF IntR.stays hc4
  have u3 := u3.belowF UqR.stays hc4
  have u4 := u4.belowF CkR.stays hc4
  obtain ⟨⟨a_4_0, a_4_1, a_4_2, a_4_3, a_4_4, a_4_5⟩, -⟩ := ra.all6
  obtain ⟨⟨b_4_0, b_4_1, b_4_2, b_4_3, b_4_4, b_4_5⟩, ⟨f_4_0, f_4_1, f_4_2, f_4_3, f_4_4, f_4_5⟩⟩ := r2.all6
  obtain ⟨⟨g_4_0, g_4_1, g_4_2, g_4_3, g_4_4, g_4_5⟩, ⟨k_4_0, k_4_1, k_4_2, k_4_3, k_4_4, k_4_5⟩⟩ := r1.all6
  have rz : Row ((((((((w5).setCell ⟨w.heap.size + 1 + 1, 5, none⟩ (.slice B5 n5 d5)).setCell ⟨w.heap.size + 1, 0, none⟩ (.string x.name)).setCell ⟨w.heap.size + 1, 1, none⟩ (.slice B1 n1 d1)).setCell ⟨w.heap.size + 1, 2, none⟩ (.slice B2 n2 d2)).setCell ⟨w.heap.size + 1, 3, none⟩ (.slice B3 n3 d3)).setCell ⟨w.heap.size + 1, 4, none⟩ (.slice B4 n4 d4)).setCell ⟨w.heap.size + 1, 5, none⟩ (.slice B5 n5 d5)) (w.heap.size + 1) 86 #[.string x.name, .slice B1 n1 d1, .slice B2 n2 d2, .slice B3 n3 d3, .slice B4 n4 d4, .slice B5 n5 d5] := (((((((r1).far (by simp) _).set 0 _).set 1 _).set 2 _).set 3 _).set 4 _).set 5 _
  obtain ⟨⟨z0, z1, z2, z3, z4, z5⟩, -⟩ := rz.all6
  have y1 : Sl ClR 6 (okF (w.heap.size + 3) ((((((((w5).setCell ⟨w.heap.size + 1 + 1, 5, none⟩ (.slice B5 n5 d5)).setCell ⟨w.heap.size + 1, 0, none⟩ (.string x.name)).setCell ⟨w.heap.size + 1, 1, none⟩ (.slice B1 n1 d1)).setCell ⟨w.heap.size + 1, 2, none⟩ (.slice B2 n2 d2)).setCell ⟨w.heap.size + 1, 3, none⟩ (.slice B3 n3 d3)).setCell ⟨w.heap.size + 1, 4, none⟩ (.slice B4 n4 d4)).setCell ⟨w.heap.size + 1, 5, none⟩ (.slice B5 n5 d5))) ((((((((w5).setCell ⟨w.heap.size + 1 + 1, 5, none⟩ (.slice B5 n5 d5)).setCell ⟨w.heap.size + 1, 0, none⟩ (.string x.name)).setCell ⟨w.heap.size + 1, 1, none⟩ (.slice B1 n1 d1)).setCell ⟨w.heap.size + 1, 2, none⟩ (.slice B2 n2 d2)).setCell ⟨w.heap.size + 1, 3, none⟩ (.slice B3 n3 d3)).setCell ⟨w.heap.size + 1, 4, none⟩ (.slice B4 n4 d4)).setCell ⟨w.heap.size + 1, 5, none⟩ (.slice B5 n5 d5)) B1 n1 x.cols := (((((((u1).setF ClR.stays (by simp) _).setF ClR.stays (by simp) _).setF ClR.stays (by simp) _).setF ClR.stays (by simp) _).setF ClR.stays (by simp) _).setF ClR.stays (by simp) _).setF ClR.stays (by simp) _
  have y2 : Sl IntR 1 (okF (w.heap.size + 3) ((((((((w5).setCell ⟨w.heap.size + 1 + 1, 5, none⟩ (.slice B5 n5 d5)).setCell ⟨w.heap.size + 1, 0, none⟩ (.string x.name)).setCell ⟨w.heap.size + 1, 1, none⟩ (.slice B1 n1 d1)).setCell ⟨w.heap.size + 1, 2, none⟩ (.slice B2 n2 d2)).setCell ⟨w.heap.size + 1, 3, none⟩ (.slice B3 n3 d3)).setCell ⟨w.heap.size + 1, 4, none⟩ (.slice B4 n4 d4)).setCell ⟨w.heap.size + 1, 5, none⟩ (.slice B5 n5 d5))) ((((((((w5).setCell ⟨w.heap.size + 1 + 1, 5, none⟩ (.slice B5 n5 d5)).setCell ⟨w.heap.size + 1, 0, none⟩ (.string x.name)).setCell ⟨w.heap.size + 1, 1, none⟩ (.slice B1 n1 d1)).setCell ⟨w.heap.size + 1, 2, none⟩ (.slice B2 n2 d2)).setCell ⟨w.heap.size + 1, 3, none⟩ (.slice B3 n3 d3)).setCell ⟨w.heap.size + 1, 4, none⟩ (.slice B4 n4 d4)).setCell ⟨w.heap.size + 1, 5, none⟩ (.slice B5 n5 d5)) B2 n2 x.key := (((((((u2).setF IntR.stays (by simp) _).setF IntR.stays (by simp) _).setF IntR.stays (by simp) _).setF IntR.stays (by simp) _).setF IntR.stays (by simp) _).setF IntR.stays (by simp) _).setF IntR.stays (by simp) _
  have y3 : Sl UqR 1 (okF (w.heap.size + 3) ((((((((w5).setCell ⟨w.heap.size + 1 + 1, 5, none⟩ (.slice B5 n5 d5)).setCell ⟨w.heap.size + 1, 0, none⟩ (.string x.name)).setCell ⟨w.heap.size + 1, 1, none⟩ (.slice B1 n1 d1)).setCell ⟨w.heap.size + 1, 2, none⟩ (.slice B2 n2 d2)).setCell ⟨w.heap.size + 1, 3, none⟩ (.slice B3 n3 d3)).setCell ⟨w.heap.size + 1, 4, none⟩ (.slice B4 n4 d4)).setCell ⟨w.heap.size + 1, 5, none⟩ (.slice B5 n5 d5))) ((((((((w5).setCell ⟨w.heap.size + 1 + 1, 5, none⟩ (.slice B5 n5 d5)).setCell ⟨w.heap.size + 1, 0, none⟩ (.string x.name)).setCell ⟨w.heap.size + 1, 1, none⟩ (.slice B1 n1 d1)).setCell ⟨w.heap.size + 1, 2, none⟩ (.slice B2 n2 d2)).setCell ⟨w.heap.size + 1, 3, none⟩ (.slice B3 n3 d3)).setCell ⟨w.heap.size + 1, 4, none⟩ (.slice B4 n4 d4)).setCell ⟨w.heap.size + 1, 5, none⟩ (.slice B5 n5 d5)) B3 n3 x.uniqs := (((((((u3).setF UqR.stays (by simp) _).setF UqR.stays (by simp) _).setF UqR.stays (by simp) _).setF UqR.stays (by simp) _).setF UqR.stays (by simp) _).setF UqR.stays (by simp) _).setF UqR.stays (by simp) _
  have y4 : Sl CkR 1 (okF (w.heap.size + 3) ((((((((w5).setCell ⟨w.heap.size + 1 + 1, 5, none⟩ (.slice B5 n5 d5)).setCell ⟨w.heap.size + 1, 0, none⟩ (.string x.name)).setCell ⟨w.heap.size + 1, 1, none⟩ (.slice B1 n1 d1)).setCell ⟨w.heap.size + 1, 2, none⟩ (.slice B2 n2 d2)).setCell ⟨w.heap.size + 1, 3, none⟩ (.slice B3 n3 d3)).setCell ⟨w.heap.size + 1, 4, none⟩ (.slice B4 n4 d4)).setCell ⟨w.heap.size + 1, 5, none⟩ (.slice B5 n5 d5))) ((((((((w5).setCell ⟨w.heap.size + 1 + 1, 5, none⟩ (.slice B5 n5 d5)).setCell ⟨w.heap.size + 1, 0, none⟩ (.string x.name)).setCell ⟨w.heap.size + 1, 1, none⟩ (.slice B1 n1 d1)).setCell ⟨w.heap.size + 1, 2, none⟩ (.slice B2 n2 d2)).setCell ⟨w.heap.size + 1, 3, none⟩ (.slice B3 n3 d3)).setCell ⟨w.heap.size + 1, 4, none⟩ (.slice B4 n4 d4)).setCell ⟨w.heap.size + 1, 5, none⟩ (.slice B5 n5 d5)) B4 n4 x.checks := (((((((u4).setF CkR.stays (by simp) _).setF CkR.stays (by simp) _).setF CkR.stays (by simp) _).setF CkR.stays (by simp) _).setF CkR.stays (by simp) _).setF CkR.stays (by simp) _).setF CkR.stays (by simp) _
  have y5 : Sl FkR 5 (okF (w.heap.size + 3) ((((((((w5).setCell ⟨w.heap.size + 1 + 1, 5, none⟩ (.slice B5 n5 d5)).setCell ⟨w.heap.size + 1, 0, none⟩ (.string x.name)).setCell ⟨w.heap.size + 1, 1, none⟩ (.slice B1 n1 d1)).setCell ⟨w.heap.size + 1, 2, none⟩ (.slice B2 n2 d2)).setCell ⟨w.heap.size + 1, 3, none⟩ (.slice B3 n3 d3)).setCell ⟨w.heap.size + 1, 4, none⟩ (.slice B4 n4 d4)).setCell ⟨w.heap.size + 1, 5, none⟩ (.slice B5 n5 d5))) ((((((((w5).setCell ⟨w.heap.size + 1 + 1, 5, none⟩ (.slice B5 n5 d5)).setCell ⟨w.heap.size + 1, 0, none⟩ (.string x.name)).setCell ⟨w.heap.size + 1, 1, none⟩ (.slice B1 n1 d1)).setCell ⟨w.heap.size + 1, 2, none⟩ (.slice B2 n2 d2)).setCell ⟨w.heap.size + 1, 3, none⟩ (.slice B3 n3 d3)).setCell ⟨w.heap.size + 1, 4, none⟩ (.slice B4 n4 d4)).setCell ⟨w.heap.size + 1, 5, none⟩ (.slice B5 n5 d5)) B5 n5 x.fks := (((((((u5).setF FkR.stays (by simp) _).setF FkR.stays (by simp) _).setF FkR.stays (by simp) _).setF FkR.stays (by simp) _).setF FkR.stays (by simp) _).setF FkR.stays (by simp) _).setF FkR.stays (by simp) _
  have hbz : Below w.heap.size w ((((((((w5).setCell ⟨w.heap.size + 1 + 1, 5, none⟩ (.slice B5 n5 d5)).setCell ⟨w.heap.size + 1, 0, none⟩ (.string x.name)).setCell ⟨w.heap.size + 1, 1, none⟩ (.slice B1 n1 d1)).setCell ⟨w.heap.size + 1, 2, none⟩ (.slice B2 n2 d2)).setCell ⟨w.heap.size + 1, 3, none⟩ (.slice B3 n3 d3)).setCell ⟨w.heap.size + 1, 4, none⟩ (.slice B4 n4 d4)).setCell ⟨w.heap.size + 1, 5, none⟩ (.slice B5 n5 d5)) := (((((((hbx4).setCell (by simp; try omega) _).setCell (by simp; try omega) _).setCell (by simp; try omega) _).setCell (by simp; try omega) _).setCell (by simp; try omega) _).setCell (by simp; try omega) _).setCell (by simp; try omega) _
  clear ra r1 r2 rz
  go_wp2_with fail
  exact bodyPost_ret (v := .agg #[.string x.name, .slice B1 n1 d1, .slice B2 n2 d2, .slice B3 n3 d3, .slice B4 n4 d4, .slice B5 n5 d5]) (by simp [results, Tryz.results62, go_sem, z0, z1, z2, z3, z4, z5]) rfl ⟨[.string x.name, .slice B1 n1 d1, .slice B2 n2 d2, .slice B3 n3 d3, .slice B4 n4 d4, .slice B5 n5 d5], rfl, ⟨_, _, _, _, _, _, _, _, _, _, _, _, _, _, _, rfl, y1.stays ClR.stays (fun b hb' => hb'.mono (by omega)) (fun p v _ hp => hp), y2.stays IntR.stays (fun b hb' => hb'.mono (by omega)) (fun p v _ hp => hp), y3.stays UqR.stays (fun b hb' => hb'.mono (by omega)) (fun p v _ hp => hp), y4.stays CkR.stays (fun b hb' => hb'.mono (by omega)) (fun p v _ hp => hp), y5.stays FkR.stays (fun b hb' => hb'.mono (by omega)) (fun p v _ hp => hp), ⟨hcp1, hcp2, hcp3, hcp4, hcp5⟩⟩, hbz⟩
theorem infoTableT : (Tryz.prog.info? 86).map (fun i => (i.zero, i.size, i.bytes)) = some (some (.agg #[.string ⟨#[]⟩, .slice none 0 0, .slice none 0 0, .slice none 0 0, .slice none 0 0, .slice none 0 0]), 6, 136) := by kernel_rfl
set_option maxRecDepth 100000 in
set_option maxHeartbeats 1000000 in
theorem lawsToTableL (A : Option Addr) (n c : Nat) (l : List Tb) (ok : Nat → Prop) (w : World) (h : Sl TbR 6 ok w A n l) (hs : szL Tb.sz l ≤ 1048576) :
    Calls Tryz.prog 18 #[.slice A n c] w (MadeSl TbR 6 n l w) := by
  obtain rfl : l.length = n := h.1
  have hn : l.length ≤ 1048576 := by unfold szL at hs; omega
  have HS := Lib.hid hs
  clear hs
  have hmk := fun w => mk_rows (P := Tryz.prog) Tryz.underlying29 infoTableT (by omega) l.length hn w
  go_enter Tryz.func18, Tryz.ntmps18
  go_wp2
  have row := Row.new w 86 (madeCells #[.string ⟨#[]⟩, .slice none 0 0, .slice none 0 0, .slice none 0 0, .slice none 0 0, .slice none 0 0] (l.length * 6))
  have hb0 := (Below.refl w.heap.size w).alloc (Nat.le_refl _) (.cells (madeCells #[.string ⟨#[]⟩, .slice none 0 0, .slice none 0 0, .slice none 0 0, .slice none 0 0, .slice none 0 0] (l.length * 6)) 86)
  have hsz := size_madeCells #[.string ⟨#[]⟩, .slice none 0 0, .slice none 0 0, .slice none 0 0, .slice none 0 0, .slice none 0 0] (l.length * 6)
  have hx0 : (w.alloc (.cells (madeCells #[.string ⟨#[]⟩, .slice none 0 0, .slice none 0 0, .slice none 0 0, .slice none 0 0, .slice none 0 0] (l.length * 6)) 86)).heap.size = w.heap.size + 1 := by simp
  generalize w.alloc (.cells (madeCells #[.string ⟨#[]⟩, .slice none 0 0, .slice none 0 0, .slice none 0 0, .slice none 0 0, .slice none 0 0] (l.length * 6)) 86) = x at *
  generalize madeCells #[.string ⟨#[]⟩, .slice none 0 0, .slice none 0 0, .slice none 0 0, .slice none 0 0, .slice none 0 0] (l.length * 6) = cs0 at *
  have HZ := Lib.hid hsz
  have HX0 := Lib.hid hx0
  clear hmk hsz hx0
  go_loopw [4] (fun i wr => ∃ (k : Nat) (cs : Array Value), k ≤ l.length ∧ i = .int .i64 k ∧ Row wr w.heap.size 86 cs ∧ Hid (cs.size = l.length * 6) ∧ Hid (LaidR TbR 6 (okF (w.heap.size + 1) wr) wr cs k l) ∧ Hid (w.heap.size + 1 ≤ wr.heap.size) ∧ Below w.heap.size w wr) (fun i _ => l.length - (intOf i).toNat)
  case atStart => exact ⟨0, cs0, by omega, rfl, row, Lib.hid (by rw [HZ.out]), Lib.hid (LaidR.zero _ _ _ _ _ _), Lib.hid (by rw [HX0.out]; exact Nat.le_refl _), hb0⟩
  case round =>
    obtain ⟨k, cs, hk, rfl, hrow, hcs, hlaid, hgw, hb⟩ := hrel
    by_cases hlt : k < l.length
    · obtain ⟨b, off, A1, n1, c1, A2, n2, c2, A3, n3, c3, A4, n4, c4, A5, n5, c5, -, rfl, q0, q1, q2, q3, q4, q5, s1, s2, s3, s4, s5, -⟩ := TbR.at_ (h.below TbR.stays hb) hlt
      have hsz1 : k * 6 + 6 ≤ cs.size := by rw [hcs.out]; omega
      have hszk : l[k].sz ≤ 1048576 := by have := HS.out; have := sum_mem_le (Tb.sz) l k hlt; unfold szL at *; (try simp only at *); omega
      have HSK := Lib.hid hszk
      clear hszk
      go_wp2_with fail
      refine (lawsToTable l[k] A1 n1 c1 A2 n2 c2 A3 n3 c3 A4 n4 c4 A5 n5 c5 ok _ s1 s2 s3 s4 s5 HSK.out).mono ?_
      rintro e w1 ⟨cs', rfl, hR1, hb1⟩
      obtain ⟨B1, m1, d1, B2, m2, d2, B3, m3, d3, B4, m4, d4, B5, m5, d5, rfl, t1, t2, t3, t4, t5, hcp⟩ := hR1
      have hrow1 := hrow.below hb1
      have hgw1 : w.heap.size + 1 ≤ w1.heap.size := Nat.le_trans hgw.out hb1.size
      have HGW := Lib.hid hgw1
      clear hgw1
      have hl1 := Lib.hid (hlaid.out.belowF TbR.stays hb1)
      have q : ∀ j, j < 6 → w1.cell? ⟨w.heap.size, k * 6 + j, none⟩ = some (cs[k * 6 + j]?.getD undef) := fun j hj => by
        rw [hrow1.cell, Array.getElem?_eq_getElem (by omega)]; rfl
      have z0 : w1.cell? ⟨w.heap.size, k * 6, none⟩ = some (cs[k * 6]?.getD undef) := q 0 (by omega)
      have z1 := q 1 (by omega)
      have z2 := q 2 (by omega)
      have z3 := q 3 (by omega)
      have z4 := q 4 (by omega)
      have z5 := q 5 (by omega)
      have f0 := hrow1.free (k * 6)
      have f1 := hrow1.free (k * 6 + 1)
      have f2 := hrow1.free (k * 6 + 2)
      have f3 := hrow1.free (k * 6 + 3)
      have f4 := hrow1.free (k * 6 + 4)
      have f5 := hrow1.free (k * 6 + 5)
      clear q
      have HR := Lib.hid hrow1
      clear hrow1 hrow q0 q1 q2 q3 q4 q5
      go_wp2_with fail
      go_roundw
      case rel =>
        have y1 := (((((((t1.stays ClR.stays (ok' := okF (w.heap.size + 1) w1) (fun b hb' => hb'.mono hgw.out) (fun p v _ hp => hp))).setF ClR.stays (p := ⟨w.heap.size, k * 6, none⟩) (by simp) (.string l[k].name)).setF ClR.stays (p := ⟨w.heap.size, k * 6 + 1, none⟩) (by simp) (.slice B1 m1 d1)).setF ClR.stays (p := ⟨w.heap.size, k * 6 + 2, none⟩) (by simp) (.slice B2 m2 d2)).setF ClR.stays (p := ⟨w.heap.size, k * 6 + 3, none⟩) (by simp) (.slice B3 m3 d3)).setF ClR.stays (p := ⟨w.heap.size, k * 6 + 4, none⟩) (by simp) (.slice B4 m4 d4)).setF ClR.stays (p := ⟨w.heap.size, k * 6 + 5, none⟩) (by simp) (.slice B5 m5 d5)
        have y2 := (((((((t2.stays IntR.stays (ok' := okF (w.heap.size + 1) w1) (fun b hb' => hb'.mono hgw.out) (fun p v _ hp => hp))).setF IntR.stays (p := ⟨w.heap.size, k * 6, none⟩) (by simp) (.string l[k].name)).setF IntR.stays (p := ⟨w.heap.size, k * 6 + 1, none⟩) (by simp) (.slice B1 m1 d1)).setF IntR.stays (p := ⟨w.heap.size, k * 6 + 2, none⟩) (by simp) (.slice B2 m2 d2)).setF IntR.stays (p := ⟨w.heap.size, k * 6 + 3, none⟩) (by simp) (.slice B3 m3 d3)).setF IntR.stays (p := ⟨w.heap.size, k * 6 + 4, none⟩) (by simp) (.slice B4 m4 d4)).setF IntR.stays (p := ⟨w.heap.size, k * 6 + 5, none⟩) (by simp) (.slice B5 m5 d5)
        have y3 := (((((((t3.stays UqR.stays (ok' := okF (w.heap.size + 1) w1) (fun b hb' => hb'.mono hgw.out) (fun p v _ hp => hp))).setF UqR.stays (p := ⟨w.heap.size, k * 6, none⟩) (by simp) (.string l[k].name)).setF UqR.stays (p := ⟨w.heap.size, k * 6 + 1, none⟩) (by simp) (.slice B1 m1 d1)).setF UqR.stays (p := ⟨w.heap.size, k * 6 + 2, none⟩) (by simp) (.slice B2 m2 d2)).setF UqR.stays (p := ⟨w.heap.size, k * 6 + 3, none⟩) (by simp) (.slice B3 m3 d3)).setF UqR.stays (p := ⟨w.heap.size, k * 6 + 4, none⟩) (by simp) (.slice B4 m4 d4)).setF UqR.stays (p := ⟨w.heap.size, k * 6 + 5, none⟩) (by simp) (.slice B5 m5 d5)
        have y4 := (((((((t4.stays CkR.stays (ok' := okF (w.heap.size + 1) w1) (fun b hb' => hb'.mono hgw.out) (fun p v _ hp => hp))).setF CkR.stays (p := ⟨w.heap.size, k * 6, none⟩) (by simp) (.string l[k].name)).setF CkR.stays (p := ⟨w.heap.size, k * 6 + 1, none⟩) (by simp) (.slice B1 m1 d1)).setF CkR.stays (p := ⟨w.heap.size, k * 6 + 2, none⟩) (by simp) (.slice B2 m2 d2)).setF CkR.stays (p := ⟨w.heap.size, k * 6 + 3, none⟩) (by simp) (.slice B3 m3 d3)).setF CkR.stays (p := ⟨w.heap.size, k * 6 + 4, none⟩) (by simp) (.slice B4 m4 d4)).setF CkR.stays (p := ⟨w.heap.size, k * 6 + 5, none⟩) (by simp) (.slice B5 m5 d5)
        have y5 := (((((((t5.stays FkR.stays (ok' := okF (w.heap.size + 1) w1) (fun b hb' => hb'.mono hgw.out) (fun p v _ hp => hp))).setF FkR.stays (p := ⟨w.heap.size, k * 6, none⟩) (by simp) (.string l[k].name)).setF FkR.stays (p := ⟨w.heap.size, k * 6 + 1, none⟩) (by simp) (.slice B1 m1 d1)).setF FkR.stays (p := ⟨w.heap.size, k * 6 + 2, none⟩) (by simp) (.slice B2 m2 d2)).setF FkR.stays (p := ⟨w.heap.size, k * 6 + 3, none⟩) (by simp) (.slice B3 m3 d3)).setF FkR.stays (p := ⟨w.heap.size, k * 6 + 4, none⟩) (by simp) (.slice B4 m4 d4)).setF FkR.stays (p := ⟨w.heap.size, k * 6 + 5, none⟩) (by simp) (.slice B5 m5 d5)
        exact ⟨k + 1, _, by omega, by go_num, ((((((HR.out).set _ _).set _ _).set _ _).set _ _).set _ _).set _ _, Lib.hid (by simp [hcs.out]), Lib.hid ((((((((hl1.out).setF TbR.stays (by simp) _).setF TbR.stays (by simp) _).setF TbR.stays (by simp) _).setF TbR.stays (by simp) _).setF TbR.stays (by simp) _).setF TbR.stays (by simp) _).more hlt (c := [.string l[k].name, .slice B1 m1 d1, .slice B2 m2 d2, .slice B3 m3 d3, .slice B4 m4 d4, .slice B5 m5 d5]) rfl ⟨_, _, _, _, _, _, _, _, _, _, _, _, _, _, _, rfl, y1, y2, y3, y4, y5, hcp⟩ (hold6 cs k _ _ _ _ _ _) (fresh6 cs k _ _ _ _ _ _ hsz1)), Lib.hid (by simpa using HGW.out), ((((((hb.trans (hb1.mono hb.size)).setCell (by simp) _).setCell (by simp) _).setCell (by simp) _).setCell (by simp) _).setCell (by simp) _).setCell (by simp) _⟩
      case measure => simp [intOf]; omega
    · obtain rfl : k = l.length := by omega
      go_wp2
      go_ret
      exact ⟨_, _, rfl, Nat.le_refl _, (sl_of_laid (ok := okF w.heap.size _) hrow ⟨Nat.le_refl _, hgw.out, fun off => hrow.free off⟩ (fun i hi hlt' => by
        obtain ⟨c', h1, h2, h3⟩ := hlaid.out i hi hlt'
        exact ⟨c', h1, TbR.stays _ _ _ _ _ _ h2 (fun b hb' => hb'.mono (Nat.le_succ _)) (fun p v _ hp => hp), h3⟩) (Nat.le_refl _)), hb⟩
set_option maxRecDepth 100000 in
set_option maxHeartbeats 1000000 in
theorem lawsToTerm (x : Te) (A0 : Option Addr) (n0 c0 : Nat) (ok : Nat → Prop) (w : World) (h0 : Sl TkR 5 ok w A0 n0 x.expr) (hs : x.sz ≤ 1048576) :
    Calls Tryz.prog 209 #[.agg #[.slice A0 n0 c0]] w (MadeR TeR x w) := by
  have hs0 : szL (fun t : Tk => t.vs.size) x.expr ≤ 1048576 := by have := hs; unfold Te.sz at this; omega
  have HS0 := Lib.hid hs0
  clear hs0
  clear hs
  have ra := ((Row.new w 255 #[.slice A0 n0 c0]).alloc (.cells #[.slice none 0 0] 207)).alloc (.cells #[.slice none 0 0] 207)
  have r1 := (Row.newAt (w.alloc (.cells #[.slice A0 n0 c0] 255)) 207 #[.slice none 0 0] (w.heap.size + 1) (by simp)).alloc (.cells #[.slice none 0 0] 207)
  have r2 := Row.newAt ((w.alloc (.cells #[.slice A0 n0 c0] 255)).alloc (.cells #[.slice none 0 0] 207)) 207 #[.slice none 0 0] (w.heap.size + 1 + 1) (by simp)
  have hb0 := ((((Below.refl w.heap.size w).alloc (Nat.le_refl _) (.cells #[.slice A0 n0 c0] 255)).alloc (by simp) (.cells #[.slice none 0 0] 207)).alloc (by simp; omega) (.cells #[.slice none 0 0] 207))
  have hz0 : w.heap.size + 3 ≤ (((w.alloc (.cells #[.slice A0 n0 c0] 255)).alloc (.cells #[.slice none 0 0] 207)).alloc (.cells #[.slice none 0 0] 207)).heap.size := by simp
  go_enter Tryz.func209, Tryz.ntmps209
  go_wp2_with fail
  generalize ((w.alloc (.cells #[.slice A0 n0 c0] 255)).alloc (.cells #[.slice none 0 0] 207)).alloc (.cells #[.slice none 0 0] 207) = x0 at *
  refine (lawsToTokL A0 n0 c0 x.expr ok _ (h0.below TkR.stays hb0) HS0.out).mono ?_
  rintro e w1 ⟨B0, d0, rfl, hcp0, t0, hc0⟩
  have u0 := t0.stays TkR.stays (ok' := okF (w.heap.size + 3) w1) (fun b hb' => hb'.mono (by omega)) (fun p v _ hp => hp)
  clear t0
  have ra := ra.below hc0
  have r1 := r1.below hc0
  have r2 := r2.below hc0
  have hbx0 := hb0.trans (hc0.mono hb0.size)
  have hz1 : w.heap.size + 3 ≤ w1.heap.size := Nat.le_trans hz0 hc0.size
  obtain ⟨a_0_0, -⟩ := ra.all1
  obtain ⟨b_0_0, f_0_0⟩ := r2.all1
  obtain ⟨g_0_0, k_0_0⟩ := r1.all1
  have rz : Row (((w1).setCell ⟨w.heap.size + 1 + 1, 0, none⟩ (.slice B0 n0 d0)).setCell ⟨w.heap.size + 1, 0, none⟩ (.slice B0 n0 d0)) (w.heap.size + 1) 207 #[.slice B0 n0 d0] := ((r1).far (by simp) _).set 0 _
  obtain ⟨z0, -⟩ := rz.all1
  have y0 : Sl TkR 5 (okF (w.heap.size + 3) (((w1).setCell ⟨w.heap.size + 1 + 1, 0, none⟩ (.slice B0 n0 d0)).setCell ⟨w.heap.size + 1, 0, none⟩ (.slice B0 n0 d0))) (((w1).setCell ⟨w.heap.size + 1 + 1, 0, none⟩ (.slice B0 n0 d0)).setCell ⟨w.heap.size + 1, 0, none⟩ (.slice B0 n0 d0)) B0 n0 x.expr := ((u0).setF TkR.stays (by simp) _).setF TkR.stays (by simp) _
  have hbz : Below w.heap.size w (((w1).setCell ⟨w.heap.size + 1 + 1, 0, none⟩ (.slice B0 n0 d0)).setCell ⟨w.heap.size + 1, 0, none⟩ (.slice B0 n0 d0)) := ((hbx0).setCell (by simp; try omega) _).setCell (by simp; try omega) _
  clear ra r1 r2 rz
  go_wp2_with fail
  exact bodyPost_ret (v := .agg #[.slice B0 n0 d0]) (by simp [results, Tryz.results209, go_sem, z0]) rfl ⟨[.slice B0 n0 d0], rfl, ⟨_, _, _, rfl, y0.stays TkR.stays (fun b hb' => hb'.mono (by omega)) (fun p v _ hp => hp), hcp0⟩, hbz⟩
theorem infoTermT : (Tryz.prog.info? 207).map (fun i => (i.zero, i.size, i.bytes)) = some (some (.agg #[.slice none 0 0]), 1, 24) := by kernel_rfl
set_option maxRecDepth 100000 in
set_option maxHeartbeats 1000000 in
theorem lawsToTermL (A : Option Addr) (n c : Nat) (l : List Te) (ok : Nat → Prop) (w : World) (h : Sl TeR 1 ok w A n l) (hs : szL Te.sz l ≤ 1048576) :
    Calls Tryz.prog 163 #[.slice A n c] w (MadeSl TeR 1 n l w) := by
  obtain rfl : l.length = n := h.1
  have hn : l.length ≤ 1048576 := by unfold szL at hs; omega
  have HS := Lib.hid hs
  clear hs
  have hmk := fun w => mk_rows (P := Tryz.prog) Tryz.underlying138 infoTermT (by omega) l.length hn w
  simp only [Nat.mul_one] at hmk
  go_enter Tryz.func163, Tryz.ntmps163
  go_wp2
  have row := Row.new w 207 (madeCells #[.slice none 0 0] (l.length))
  have hb0 := (Below.refl w.heap.size w).alloc (Nat.le_refl _) (.cells (madeCells #[.slice none 0 0] (l.length)) 207)
  have hsz := size_madeCells #[.slice none 0 0] (l.length)
  have hx0 : (w.alloc (.cells (madeCells #[.slice none 0 0] (l.length)) 207)).heap.size = w.heap.size + 1 := by simp
  generalize w.alloc (.cells (madeCells #[.slice none 0 0] (l.length)) 207) = x at *
  generalize madeCells #[.slice none 0 0] (l.length) = cs0 at *
  have HZ := Lib.hid hsz
  have HX0 := Lib.hid hx0
  clear hmk hsz hx0
  go_loopw [4] (fun i wr => ∃ (k : Nat) (cs : Array Value), k ≤ l.length ∧ i = .int .i64 k ∧ Row wr w.heap.size 207 cs ∧ Hid (cs.size = l.length * 1) ∧ Hid (LaidR TeR 1 (okF (w.heap.size + 1) wr) wr cs k l) ∧ Hid (w.heap.size + 1 ≤ wr.heap.size) ∧ Below w.heap.size w wr) (fun i _ => l.length - (intOf i).toNat)
  case atStart => exact ⟨0, cs0, by omega, rfl, row, Lib.hid (by rw [HZ.out]; exact (Nat.mul_one _).symm), Lib.hid (LaidR.zero _ _ _ _ _ _), Lib.hid (by rw [HX0.out]; exact Nat.le_refl _), hb0⟩
  case round =>
    obtain ⟨k, cs, hk, rfl, hrow, hcs, hlaid, hgw, hb⟩ := hrel
    by_cases hlt : k < l.length
    · obtain ⟨b, off, A0, n0, c0, -, rfl, q0, s0, -⟩ := TeR.at_ (h.below TeR.stays hb) hlt
      have hsz1 : k * 1 + 1 ≤ cs.size := by rw [hcs.out]; omega
      have hszk : l[k].sz ≤ 1048576 := by have := HS.out; have := sum_mem_le (Te.sz) l k hlt; unfold szL at *; (try simp only at *); omega
      have HSK := Lib.hid hszk
      clear hszk
      go_wp2_with fail
      refine (lawsToTerm l[k] A0 n0 c0 ok _ s0 HSK.out).mono ?_
      rintro e w1 ⟨cs', rfl, hR1, hb1⟩
      obtain ⟨B0, m0, d0, rfl, t0, hcp⟩ := hR1
      have hrow1 := hrow.below hb1
      have hgw1 : w.heap.size + 1 ≤ w1.heap.size := Nat.le_trans hgw.out hb1.size
      have HGW := Lib.hid hgw1
      clear hgw1
      have hl1 := Lib.hid (hlaid.out.belowF TeR.stays hb1)
      have q : ∀ j, j < 1 → w1.cell? ⟨w.heap.size, k + j, none⟩ = some (cs[k + j]?.getD undef) := fun j hj => by
        rw [hrow1.cell, Array.getElem?_eq_getElem (by omega)]; rfl
      have z0 : w1.cell? ⟨w.heap.size, k, none⟩ = some (cs[k]?.getD undef) := q 0 (by omega)
      have f0 := hrow1.free (k)
      clear q
      have HR := Lib.hid hrow1
      clear hrow1 hrow q0
      go_wp2_with fail
      go_roundw
      case rel =>
        have y0 := ((t0.stays TkR.stays (ok' := okF (w.heap.size + 1) w1) (fun b hb' => hb'.mono hgw.out) (fun p v _ hp => hp))).setF TkR.stays (p := ⟨w.heap.size, k, none⟩) (by simp) (.slice B0 m0 d0)
        exact ⟨k + 1, _, by omega, by go_num, (HR.out).set _ _, Lib.hid (by simp [hcs.out]), Lib.hid (((hl1.out).setF TeR.stays (by simp) _).more hlt (c := [.slice B0 m0 d0]) rfl ⟨_, _, _, rfl, y0, hcp⟩ (hold1 cs k _) (fresh1 cs k _ hsz1)), Lib.hid (by simpa using HGW.out), (hb.trans (hb1.mono hb.size)).setCell (by simp) _⟩
      case measure => simp [intOf]; omega
    · obtain rfl : k = l.length := by omega
      go_wp2
      go_ret
      exact ⟨_, _, rfl, Nat.le_refl _, (sl_of_laid (ok := okF w.heap.size _) hrow ⟨Nat.le_refl _, hgw.out, fun off => hrow.free off⟩ (fun i hi hlt' => by
        obtain ⟨c', h1, h2, h3⟩ := hlaid.out i hi hlt'
        exact ⟨c', h1, TeR.stays _ _ _ _ _ _ h2 (fun b hb' => hb'.mono (Nat.le_succ _)) (fun p v _ hp => hp), h3⟩) (Nat.le_refl _)), hb⟩
set_option maxRecDepth 100000 in
set_option maxHeartbeats 1000000 in
theorem lawsToTrigger (x : Tg) (A2 : Option Addr) (n2 c2 : Nat) (A4 : Option Addr) (n4 c4 : Nat) (ok : Nat → Prop) (w : World) (h2 : Sl TkR 5 ok w A2 n2 x.wher) (h4 : Sl TeR 1 ok w A4 n4 x.terms) (hs : x.sz ≤ 1048576) :
    Calls Tryz.prog 106 #[.agg #[.string x.table, .int .i64 x.event, .slice A2 n2 c2, .string x.into, .slice A4 n4 c4]] w (MadeR TgR x w) := by
  have hs2 : szL (fun t : Tk => t.vs.size) x.wher ≤ 1048576 := by have := hs; unfold Tg.sz at this; omega
  have HS2 := Lib.hid hs2
  clear hs2
  have hs4 : szL Te.sz x.terms ≤ 1048576 := by have := hs; unfold Tg.sz at this; omega
  have HS4 := Lib.hid hs4
  clear hs4
  clear hs
  have ra := ((Row.new w 134 #[.string x.table, .int .i64 x.event, .slice A2 n2 c2, .string x.into, .slice A4 n4 c4]).alloc (.cells #[.string ⟨#[]⟩, .int .i64 0, .slice none 0 0, .string ⟨#[]⟩, .slice none 0 0] 140)).alloc (.cells #[.string x.table, .int .i64 x.event, .slice none 0 0, .string ⟨#[]⟩, .slice none 0 0] 140)
  have r1 := (Row.newAt (w.alloc (.cells #[.string x.table, .int .i64 x.event, .slice A2 n2 c2, .string x.into, .slice A4 n4 c4] 134)) 140 #[.string ⟨#[]⟩, .int .i64 0, .slice none 0 0, .string ⟨#[]⟩, .slice none 0 0] (w.heap.size + 1) (by simp)).alloc (.cells #[.string x.table, .int .i64 x.event, .slice none 0 0, .string ⟨#[]⟩, .slice none 0 0] 140)
  have r2 := Row.newAt ((w.alloc (.cells #[.string x.table, .int .i64 x.event, .slice A2 n2 c2, .string x.into, .slice A4 n4 c4] 134)).alloc (.cells #[.string ⟨#[]⟩, .int .i64 0, .slice none 0 0, .string ⟨#[]⟩, .slice none 0 0] 140)) 140 #[.string x.table, .int .i64 x.event, .slice none 0 0, .string ⟨#[]⟩, .slice none 0 0] (w.heap.size + 1 + 1) (by simp)
  have hb0 := ((((Below.refl w.heap.size w).alloc (Nat.le_refl _) (.cells #[.string x.table, .int .i64 x.event, .slice A2 n2 c2, .string x.into, .slice A4 n4 c4] 134)).alloc (by simp) (.cells #[.string ⟨#[]⟩, .int .i64 0, .slice none 0 0, .string ⟨#[]⟩, .slice none 0 0] 140)).alloc (by simp; omega) (.cells #[.string x.table, .int .i64 x.event, .slice none 0 0, .string ⟨#[]⟩, .slice none 0 0] 140))
  have hz0 : w.heap.size + 3 ≤ (((w.alloc (.cells #[.string x.table, .int .i64 x.event, .slice A2 n2 c2, .string x.into, .slice A4 n4 c4] 134)).alloc (.cells #[.string ⟨#[]⟩, .int .i64 0, .slice none 0 0, .string ⟨#[]⟩, .slice none 0 0] 140)).alloc (.cells #[.string x.table, .int .i64 x.event, .slice none 0 0, .string ⟨#[]⟩, .slice none 0 0] 140)).heap.size := by simp
  go_enter Tryz.func106, Tryz.ntmps106
  go_wp2_with fail
  generalize ((w.alloc (.cells #[.string x.table, .int .i64 x.event, .slice A2 n2 c2, .string x.into, .slice A4 n4 c4] 134)).alloc (.cells #[.string ⟨#[]⟩, .int .i64 0, .slice none 0 0, .string ⟨#[]⟩, .slice none 0 0] 140)).alloc (.cells #[.string x.table, .int .i64 x.event, .slice none 0 0, .string ⟨#[]⟩, .slice none 0 0] 140) = x0 at *
  refine (lawsToTokL A2 n2 c2 x.wher ok _ (h2.below TkR.stays hb0) HS2.out).mono ?_
  rintro e w1 ⟨B2, d2, rfl, hcp2, t2, hc0⟩
  have u2 := t2.stays TkR.stays (ok' := okF (w.heap.size + 3) w1) (fun b hb' => hb'.mono (by omega)) (fun p v _ hp => hp)
  clear t2
  have ra := ra.below hc0
  have r1 := r1.below hc0
  have r2 := r2.below hc0
  have hbx0 := hb0.trans (hc0.mono hb0.size)
  have hz1 : w.heap.size + 3 ≤ w1.heap.size := Nat.le_trans hz0 hc0.size
  obtain ⟨⟨a_0_0, a_0_1, a_0_2, a_0_3, a_0_4⟩, -⟩ := ra.five
  obtain ⟨⟨b_0_0, b_0_1, b_0_2, b_0_3, b_0_4⟩, ⟨f_0_0, f_0_1, f_0_2, f_0_3, f_0_4⟩⟩ := r2.five
  go_wp2_with fail
  have ra' : Row (((w1).setCell ⟨w.heap.size + 1 + 1, 2, none⟩ (.slice B2 n2 d2)).setCell ⟨w.heap.size + 1 + 1, 3, none⟩ (.string x.into)) w.heap.size 134 #[.string x.table, .int .i64 x.event, .slice A2 n2 c2, .string x.into, .slice A4 n4 c4] := ((ra).far (by simp; try omega) _).far (by simp; try omega) _
  have r1' : Row (((w1).setCell ⟨w.heap.size + 1 + 1, 2, none⟩ (.slice B2 n2 d2)).setCell ⟨w.heap.size + 1 + 1, 3, none⟩ (.string x.into)) (w.heap.size + 1) 140 #[.string ⟨#[]⟩, .int .i64 0, .slice none 0 0, .string ⟨#[]⟩, .slice none 0 0] := ((r1).far (by simp) _).far (by simp) _
  have r2' : Row (((w1).setCell ⟨w.heap.size + 1 + 1, 2, none⟩ (.slice B2 n2 d2)).setCell ⟨w.heap.size + 1 + 1, 3, none⟩ (.string x.into)) (w.heap.size + 1 + 1) 140 #[.string x.table, .int .i64 x.event, .slice B2 n2 d2, .string x.into, .slice none 0 0] := ((r2).set 2 _).set 3 _
  have hb1 : Below w.heap.size w (((w1).setCell ⟨w.heap.size + 1 + 1, 2, none⟩ (.slice B2 n2 d2)).setCell ⟨w.heap.size + 1 + 1, 3, none⟩ (.string x.into)) := ((hbx0).setCell (by simp; try omega) _).setCell (by simp; try omega) _
  have hz1' : w.heap.size + 3 ≤ (((w1).setCell ⟨w.heap.size + 1 + 1, 2, none⟩ (.slice B2 n2 d2)).setCell ⟨w.heap.size + 1 + 1, 3, none⟩ (.string x.into)).heap.size := by simpa using hz1
  have u2' : Sl TkR 5 (okF (w.heap.size + 3) (((w1).setCell ⟨w.heap.size + 1 + 1, 2, none⟩ (.slice B2 n2 d2)).setCell ⟨w.heap.size + 1 + 1, 3, none⟩ (.string x.into))) (((w1).setCell ⟨w.heap.size + 1 + 1, 2, none⟩ (.slice B2 n2 d2)).setCell ⟨w.heap.size + 1 + 1, 3, none⟩ (.string x.into)) B2 n2 x.wher := ((u2).setF TkR.stays (by simp) _).setF TkR.stays (by simp) _
  clear ra r1 r2 hz1 u2 a_0_0 a_0_1 a_0_2 a_0_3 a_0_4 b_0_0 b_0_1 b_0_2 b_0_3 b_0_4 f_0_0 f_0_1 f_0_2 f_0_3 f_0_4
  generalize ((w1).setCell ⟨w.heap.size + 1 + 1, 2, none⟩ (.slice B2 n2 d2)).setCell ⟨w.heap.size + 1 + 1, 3, none⟩ (.string x.into) = x1 at *
  have ra := ra'
  have r1 := r1'
  have r2 := r2'
  have hz1 := hz1'
  have u2 := u2'
  clear ra' r1' r2' hz1' u2'
  refine (lawsToTermL A4 n4 c4 x.terms ok _ (h4.below TeR.stays hb1) HS4.out).mono ?_
  rintro e w2 ⟨B4, d4, rfl, hcp4, t4, hc1⟩
  have u4 := t4.stays TeR.stays (ok' := okF (w.heap.size + 3) w2) (fun b hb' => hb'.mono (by omega)) (fun p v _ hp => hp)
  clear t4
  have ra := ra.below hc1
  have r1 := r1.below hc1
  have r2 := r2.below hc1
  have hbx1 := hb1.trans (hc1.mono hb1.size)
  have hz2 : w.heap.size + 3 ≤ w2.heap.size := Nat.le_trans hz1 hc1.size
  have u2 := u2.belowF TkR.stays hc1
  obtain ⟨⟨a_1_0, a_1_1, a_1_2, a_1_3, a_1_4⟩, -⟩ := ra.five
  obtain ⟨⟨b_1_0, b_1_1, b_1_2, b_1_3, b_1_4⟩, ⟨f_1_0, f_1_1, f_1_2, f_1_3, f_1_4⟩⟩ := r2.five
  obtain ⟨⟨g_1_0, g_1_1, g_1_2, g_1_3, g_1_4⟩, ⟨k_1_0, k_1_1, k_1_2, k_1_3, k_1_4⟩⟩ := r1.five
  have rz : Row (((((((w2).setCell ⟨w.heap.size + 1 + 1, 4, none⟩ (.slice B4 n4 d4)).setCell ⟨w.heap.size + 1, 0, none⟩ (.string x.table)).setCell ⟨w.heap.size + 1, 1, none⟩ (.int .i64 x.event)).setCell ⟨w.heap.size + 1, 2, none⟩ (.slice B2 n2 d2)).setCell ⟨w.heap.size + 1, 3, none⟩ (.string x.into)).setCell ⟨w.heap.size + 1, 4, none⟩ (.slice B4 n4 d4)) (w.heap.size + 1) 140 #[.string x.table, .int .i64 x.event, .slice B2 n2 d2, .string x.into, .slice B4 n4 d4] := ((((((r1).far (by simp) _).set 0 _).set 1 _).set 2 _).set 3 _).set 4 _
  obtain ⟨⟨z0, z1, z2, z3, z4⟩, -⟩ := rz.five
  have y2 : Sl TkR 5 (okF (w.heap.size + 3) (((((((w2).setCell ⟨w.heap.size + 1 + 1, 4, none⟩ (.slice B4 n4 d4)).setCell ⟨w.heap.size + 1, 0, none⟩ (.string x.table)).setCell ⟨w.heap.size + 1, 1, none⟩ (.int .i64 x.event)).setCell ⟨w.heap.size + 1, 2, none⟩ (.slice B2 n2 d2)).setCell ⟨w.heap.size + 1, 3, none⟩ (.string x.into)).setCell ⟨w.heap.size + 1, 4, none⟩ (.slice B4 n4 d4))) (((((((w2).setCell ⟨w.heap.size + 1 + 1, 4, none⟩ (.slice B4 n4 d4)).setCell ⟨w.heap.size + 1, 0, none⟩ (.string x.table)).setCell ⟨w.heap.size + 1, 1, none⟩ (.int .i64 x.event)).setCell ⟨w.heap.size + 1, 2, none⟩ (.slice B2 n2 d2)).setCell ⟨w.heap.size + 1, 3, none⟩ (.string x.into)).setCell ⟨w.heap.size + 1, 4, none⟩ (.slice B4 n4 d4)) B2 n2 x.wher := ((((((u2).setF TkR.stays (by simp) _).setF TkR.stays (by simp) _).setF TkR.stays (by simp) _).setF TkR.stays (by simp) _).setF TkR.stays (by simp) _).setF TkR.stays (by simp) _
  have y4 : Sl TeR 1 (okF (w.heap.size + 3) (((((((w2).setCell ⟨w.heap.size + 1 + 1, 4, none⟩ (.slice B4 n4 d4)).setCell ⟨w.heap.size + 1, 0, none⟩ (.string x.table)).setCell ⟨w.heap.size + 1, 1, none⟩ (.int .i64 x.event)).setCell ⟨w.heap.size + 1, 2, none⟩ (.slice B2 n2 d2)).setCell ⟨w.heap.size + 1, 3, none⟩ (.string x.into)).setCell ⟨w.heap.size + 1, 4, none⟩ (.slice B4 n4 d4))) (((((((w2).setCell ⟨w.heap.size + 1 + 1, 4, none⟩ (.slice B4 n4 d4)).setCell ⟨w.heap.size + 1, 0, none⟩ (.string x.table)).setCell ⟨w.heap.size + 1, 1, none⟩ (.int .i64 x.event)).setCell ⟨w.heap.size + 1, 2, none⟩ (.slice B2 n2 d2)).setCell ⟨w.heap.size + 1, 3, none⟩ (.string x.into)).setCell ⟨w.heap.size + 1, 4, none⟩ (.slice B4 n4 d4)) B4 n4 x.terms := ((((((u4).setF TeR.stays (by simp) _).setF TeR.stays (by simp) _).setF TeR.stays (by simp) _).setF TeR.stays (by simp) _).setF TeR.stays (by simp) _).setF TeR.stays (by simp) _
  have hbz : Below w.heap.size w (((((((w2).setCell ⟨w.heap.size + 1 + 1, 4, none⟩ (.slice B4 n4 d4)).setCell ⟨w.heap.size + 1, 0, none⟩ (.string x.table)).setCell ⟨w.heap.size + 1, 1, none⟩ (.int .i64 x.event)).setCell ⟨w.heap.size + 1, 2, none⟩ (.slice B2 n2 d2)).setCell ⟨w.heap.size + 1, 3, none⟩ (.string x.into)).setCell ⟨w.heap.size + 1, 4, none⟩ (.slice B4 n4 d4)) := ((((((hbx1).setCell (by simp; try omega) _).setCell (by simp; try omega) _).setCell (by simp; try omega) _).setCell (by simp; try omega) _).setCell (by simp; try omega) _).setCell (by simp; try omega) _
  clear ra r1 r2 rz
  go_wp2_with fail
  exact bodyPost_ret (v := .agg #[.string x.table, .int .i64 x.event, .slice B2 n2 d2, .string x.into, .slice B4 n4 d4]) (by simp [results, Tryz.results106, go_sem, z0, z1, z2, z3, z4]) rfl ⟨[.string x.table, .int .i64 x.event, .slice B2 n2 d2, .string x.into, .slice B4 n4 d4], rfl, ⟨_, _, _, _, _, _, rfl, y2.stays TkR.stays (fun b hb' => hb'.mono (by omega)) (fun p v _ hp => hp), y4.stays TeR.stays (fun b hb' => hb'.mono (by omega)) (fun p v _ hp => hp), ⟨hcp2, hcp4⟩⟩, hbz⟩
theorem infoTriggerT : (Tryz.prog.info? 140).map (fun i => (i.zero, i.size, i.bytes)) = some (some (.agg #[.string ⟨#[]⟩, .int .i64 0, .slice none 0 0, .string ⟨#[]⟩, .slice none 0 0]), 5, 88) := by kernel_rfl
set_option maxRecDepth 100000 in
set_option maxHeartbeats 1000000 in
theorem lawsToTriggerL (A : Option Addr) (n c : Nat) (l : List Tg) (ok : Nat → Prop) (w : World) (h : Sl TgR 5 ok w A n l) (hs : szL Tg.sz l ≤ 1048576) :
    Calls Tryz.prog 55 #[.slice A n c] w (MadeSl TgR 5 n l w) := by
  obtain rfl : l.length = n := h.1
  have hn : l.length ≤ 1048576 := by unfold szL at hs; omega
  have HS := Lib.hid hs
  clear hs
  have hmk := fun w => mk_rows (P := Tryz.prog) Tryz.underlying64 infoTriggerT (by omega) l.length hn w
  go_enter Tryz.func55, Tryz.ntmps55
  go_wp2
  have row := Row.new w 140 (madeCells #[.string ⟨#[]⟩, .int .i64 0, .slice none 0 0, .string ⟨#[]⟩, .slice none 0 0] (l.length * 5))
  have hb0 := (Below.refl w.heap.size w).alloc (Nat.le_refl _) (.cells (madeCells #[.string ⟨#[]⟩, .int .i64 0, .slice none 0 0, .string ⟨#[]⟩, .slice none 0 0] (l.length * 5)) 140)
  have hsz := size_madeCells #[.string ⟨#[]⟩, .int .i64 0, .slice none 0 0, .string ⟨#[]⟩, .slice none 0 0] (l.length * 5)
  have hx0 : (w.alloc (.cells (madeCells #[.string ⟨#[]⟩, .int .i64 0, .slice none 0 0, .string ⟨#[]⟩, .slice none 0 0] (l.length * 5)) 140)).heap.size = w.heap.size + 1 := by simp
  generalize w.alloc (.cells (madeCells #[.string ⟨#[]⟩, .int .i64 0, .slice none 0 0, .string ⟨#[]⟩, .slice none 0 0] (l.length * 5)) 140) = x at *
  generalize madeCells #[.string ⟨#[]⟩, .int .i64 0, .slice none 0 0, .string ⟨#[]⟩, .slice none 0 0] (l.length * 5) = cs0 at *
  have HZ := Lib.hid hsz
  have HX0 := Lib.hid hx0
  clear hmk hsz hx0
  go_loopw [4] (fun i wr => ∃ (k : Nat) (cs : Array Value), k ≤ l.length ∧ i = .int .i64 k ∧ Row wr w.heap.size 140 cs ∧ Hid (cs.size = l.length * 5) ∧ Hid (LaidR TgR 5 (okF (w.heap.size + 1) wr) wr cs k l) ∧ Hid (w.heap.size + 1 ≤ wr.heap.size) ∧ Below w.heap.size w wr) (fun i _ => l.length - (intOf i).toNat)
  case atStart => exact ⟨0, cs0, by omega, rfl, row, Lib.hid (by rw [HZ.out]), Lib.hid (LaidR.zero _ _ _ _ _ _), Lib.hid (by rw [HX0.out]; exact Nat.le_refl _), hb0⟩
  case round =>
    obtain ⟨k, cs, hk, rfl, hrow, hcs, hlaid, hgw, hb⟩ := hrel
    by_cases hlt : k < l.length
    · obtain ⟨b, off, A2, n2, c2, A4, n4, c4, -, rfl, q0, q1, q2, q3, q4, s2, s4, -⟩ := TgR.at_ (h.below TgR.stays hb) hlt
      have hsz1 : k * 5 + 5 ≤ cs.size := by rw [hcs.out]; omega
      have hszk : l[k].sz ≤ 1048576 := by have := HS.out; have := sum_mem_le (Tg.sz) l k hlt; unfold szL at *; (try simp only at *); omega
      have HSK := Lib.hid hszk
      clear hszk
      go_wp2_with fail
      refine (lawsToTrigger l[k] A2 n2 c2 A4 n4 c4 ok _ s2 s4 HSK.out).mono ?_
      rintro e w1 ⟨cs', rfl, hR1, hb1⟩
      obtain ⟨B2, m2, d2, B4, m4, d4, rfl, t2, t4, hcp⟩ := hR1
      have hrow1 := hrow.below hb1
      have hgw1 : w.heap.size + 1 ≤ w1.heap.size := Nat.le_trans hgw.out hb1.size
      have HGW := Lib.hid hgw1
      clear hgw1
      have hl1 := Lib.hid (hlaid.out.belowF TgR.stays hb1)
      have q : ∀ j, j < 5 → w1.cell? ⟨w.heap.size, k * 5 + j, none⟩ = some (cs[k * 5 + j]?.getD undef) := fun j hj => by
        rw [hrow1.cell, Array.getElem?_eq_getElem (by omega)]; rfl
      have z0 : w1.cell? ⟨w.heap.size, k * 5, none⟩ = some (cs[k * 5]?.getD undef) := q 0 (by omega)
      have z1 := q 1 (by omega)
      have z2 := q 2 (by omega)
      have z3 := q 3 (by omega)
      have z4 := q 4 (by omega)
      have f0 := hrow1.free (k * 5)
      have f1 := hrow1.free (k * 5 + 1)
      have f2 := hrow1.free (k * 5 + 2)
      have f3 := hrow1.free (k * 5 + 3)
      have f4 := hrow1.free (k * 5 + 4)
      clear q
      have HR := Lib.hid hrow1
      clear hrow1 hrow q0 q1 q2 q3 q4
      go_wp2_with fail
      go_roundw
      case rel =>
        have y2 := ((((((t2.stays TkR.stays (ok' := okF (w.heap.size + 1) w1) (fun b hb' => hb'.mono hgw.out) (fun p v _ hp => hp))).setF TkR.stays (p := ⟨w.heap.size, k * 5, none⟩) (by simp) (.string l[k].table)).setF TkR.stays (p := ⟨w.heap.size, k * 5 + 1, none⟩) (by simp) (.int .i64 l[k].event)).setF TkR.stays (p := ⟨w.heap.size, k * 5 + 2, none⟩) (by simp) (.slice B2 m2 d2)).setF TkR.stays (p := ⟨w.heap.size, k * 5 + 3, none⟩) (by simp) (.string l[k].into)).setF TkR.stays (p := ⟨w.heap.size, k * 5 + 4, none⟩) (by simp) (.slice B4 m4 d4)
        have y4 := ((((((t4.stays TeR.stays (ok' := okF (w.heap.size + 1) w1) (fun b hb' => hb'.mono hgw.out) (fun p v _ hp => hp))).setF TeR.stays (p := ⟨w.heap.size, k * 5, none⟩) (by simp) (.string l[k].table)).setF TeR.stays (p := ⟨w.heap.size, k * 5 + 1, none⟩) (by simp) (.int .i64 l[k].event)).setF TeR.stays (p := ⟨w.heap.size, k * 5 + 2, none⟩) (by simp) (.slice B2 m2 d2)).setF TeR.stays (p := ⟨w.heap.size, k * 5 + 3, none⟩) (by simp) (.string l[k].into)).setF TeR.stays (p := ⟨w.heap.size, k * 5 + 4, none⟩) (by simp) (.slice B4 m4 d4)
        exact ⟨k + 1, _, by omega, by go_num, (((((HR.out).set _ _).set _ _).set _ _).set _ _).set _ _, Lib.hid (by simp [hcs.out]), Lib.hid (((((((hl1.out).setF TgR.stays (by simp) _).setF TgR.stays (by simp) _).setF TgR.stays (by simp) _).setF TgR.stays (by simp) _).setF TgR.stays (by simp) _).more hlt (c := [.string l[k].table, .int .i64 l[k].event, .slice B2 m2 d2, .string l[k].into, .slice B4 m4 d4]) rfl ⟨_, _, _, _, _, _, rfl, y2, y4, hcp⟩ (hold5 cs k _ _ _ _ _) (fresh5 cs k _ _ _ _ _ hsz1)), Lib.hid (by simpa using HGW.out), (((((hb.trans (hb1.mono hb.size)).setCell (by simp) _).setCell (by simp) _).setCell (by simp) _).setCell (by simp) _).setCell (by simp) _⟩
      case measure => simp [intOf]; omega
    · obtain rfl : k = l.length := by omega
      go_wp2
      go_ret
      exact ⟨_, _, rfl, Nat.le_refl _, (sl_of_laid (ok := okF w.heap.size _) hrow ⟨Nat.le_refl _, hgw.out, fun off => hrow.free off⟩ (fun i hi hlt' => by
        obtain ⟨c', h1, h2, h3⟩ := hlaid.out i hi hlt'
        exact ⟨c', h1, TgR.stays _ _ _ _ _ _ h2 (fun b hb' => hb'.mono (Nat.le_succ _)) (fun p v _ hp => hp), h3⟩) (Nat.le_refl _)), hb⟩
theorem Sl.drew {α : Type} {R : Rd α} (hR : Stays R) {sz : Nat} {ok : Nat → Prop} {w : World} {A : Option Addr} {n : Nat} {ds : List α} (h : Sl R sz ok w A n ds) : Sl R sz ok w.drew A n ds := h.stays hR (fun _ h => h) fun _ _ _ h => h
theorem keepE2 {w w' : World} {a0 a1 : Addr} {v0 v1 : Value} (h : w.cell? a0 = some v0 ∧ w.cell? a1 = some v1) (hb : Below w.heap.size w w') : w'.cell? a0 = some v0 ∧ w'.cell? a1 = some v1 := by
  obtain ⟨h0, h1⟩ := h
  exact ⟨(hb.cell (cell_lt h0)).trans h0, (hb.cell (cell_lt h1)).trans h1⟩
theorem keepE10 {w w' : World} {a0 a1 a2 a3 a4 a5 a6 a7 a8 a9 : Addr} {v0 v1 v2 v3 v4 v5 v6 v7 v8 v9 : Value} (h : w.cell? a0 = some v0 ∧ w.cell? a1 = some v1 ∧ w.cell? a2 = some v2 ∧ w.cell? a3 = some v3 ∧ w.cell? a4 = some v4 ∧ w.cell? a5 = some v5 ∧ w.cell? a6 = some v6 ∧ w.cell? a7 = some v7 ∧ w.cell? a8 = some v8 ∧ w.cell? a9 = some v9) (hb : Below w.heap.size w w') : w'.cell? a0 = some v0 ∧ w'.cell? a1 = some v1 ∧ w'.cell? a2 = some v2 ∧ w'.cell? a3 = some v3 ∧ w'.cell? a4 = some v4 ∧ w'.cell? a5 = some v5 ∧ w'.cell? a6 = some v6 ∧ w'.cell? a7 = some v7 ∧ w'.cell? a8 = some v8 ∧ w'.cell? a9 = some v9 := by
  obtain ⟨h0, h1, h2, h3, h4, h5, h6, h7, h8, h9⟩ := h
  exact ⟨(hb.cell (cell_lt h0)).trans h0, (hb.cell (cell_lt h1)).trans h1, (hb.cell (cell_lt h2)).trans h2, (hb.cell (cell_lt h3)).trans h3, (hb.cell (cell_lt h4)).trans h4, (hb.cell (cell_lt h5)).trans h5, (hb.cell (cell_lt h6)).trans h6, (hb.cell (cell_lt h7)).trans h7, (hb.cell (cell_lt h8)).trans h8, (hb.cell (cell_lt h9)).trans h9⟩
theorem keepE12 {w w' : World} {a0 a1 a2 a3 a4 a5 a6 a7 a8 a9 a10 a11 : Addr} {v0 v1 v2 v3 v4 v5 v6 v7 v8 v9 v10 v11 : Value} (h : w.cell? a0 = some v0 ∧ w.cell? a1 = some v1 ∧ w.cell? a2 = some v2 ∧ w.cell? a3 = some v3 ∧ w.cell? a4 = some v4 ∧ w.cell? a5 = some v5 ∧ w.cell? a6 = some v6 ∧ w.cell? a7 = some v7 ∧ w.cell? a8 = some v8 ∧ w.cell? a9 = some v9 ∧ w.cell? a10 = some v10 ∧ w.cell? a11 = some v11) (hb : Below w.heap.size w w') : w'.cell? a0 = some v0 ∧ w'.cell? a1 = some v1 ∧ w'.cell? a2 = some v2 ∧ w'.cell? a3 = some v3 ∧ w'.cell? a4 = some v4 ∧ w'.cell? a5 = some v5 ∧ w'.cell? a6 = some v6 ∧ w'.cell? a7 = some v7 ∧ w'.cell? a8 = some v8 ∧ w'.cell? a9 = some v9 ∧ w'.cell? a10 = some v10 ∧ w'.cell? a11 = some v11 := by
  obtain ⟨h0, h1, h2, h3, h4, h5, h6, h7, h8, h9, h10, h11⟩ := h
  exact ⟨(hb.cell (cell_lt h0)).trans h0, (hb.cell (cell_lt h1)).trans h1, (hb.cell (cell_lt h2)).trans h2, (hb.cell (cell_lt h3)).trans h3, (hb.cell (cell_lt h4)).trans h4, (hb.cell (cell_lt h5)).trans h5, (hb.cell (cell_lt h6)).trans h6, (hb.cell (cell_lt h7)).trans h7, (hb.cell (cell_lt h8)).trans h8, (hb.cell (cell_lt h9)).trans h9, (hb.cell (cell_lt h10)).trans h10, (hb.cell (cell_lt h11)).trans h11⟩
set_option maxRecDepth 100000 in
set_option maxHeartbeats 1000000 in
theorem lawsEqIntL (A A' : Option Addr) (n c c' : Nat) (l : List Int) (ok ok' : Nat → Prop) (w : World) (h : Sl IntR 1 ok w A n l) (h' : Sl IntR 1 ok' w A' n l) (hs : l.length ≤ 1048576) :
    Calls Tryz.prog 131 #[.slice A n c, .slice A' n c'] w fun e w' => e = .returned (.bool true) ∧ Below w.heap.size w w' := by
  obtain rfl : l.length = n := h.1
  have hn : l.length ≤ 1048576 := by exact hs
  have HS := Lib.hid hs
  clear hs
  go_enter Tryz.func131, Tryz.ntmps131
  go_wp2
  go_loopw [5] (fun i wr => ∃ k : Nat, k ≤ l.length ∧ i = .int .i64 k ∧ Below w.heap.size w wr) (fun i _ => l.length - (intOf i).toNat)
  case atStart => exact ⟨0, by omega, rfl, Below.refl _ _⟩
  case round =>
    obtain ⟨k, hk, rfl, hb⟩ := hrel
    by_cases hlt : k < l.length
    · obtain ⟨b, off, -, rfl, q0⟩ := IntR.at_ (h.below IntR.stays hb) hlt
      obtain ⟨b', off', -, rfl, r0⟩ := IntR.at_ (h'.below IntR.stays hb) hlt
      have i0 : (0 : Int) ≤ k := by omega
      have i1 : (k : Int) < l.length := by omega
      go_wp2_with fail
      go_region_held3 (fun w' => w'.cell? ⟨b, off + k, none⟩ = some (.int .i64 l[k]) ∧ w'.cell? ⟨b', off' + k, none⟩ = some (.int .i64 l[k]))
        (go_keep) (fail)
      go_wp2
      go_roundw
      case rel => exact ⟨k + 1, by omega, by go_num, hb.drew⟩
      case measure => simp [intOf]; omega
    · go_wp2
      go_ret
      exact ⟨rfl, hb⟩
set_option maxRecDepth 100000 in
set_option maxHeartbeats 1000000 in
theorem lawsEqTokL (A A' : Option Addr) (n c c' : Nat) (l : List Tk) (ok ok' : Nat → Prop) (w : World) (h : Sl TkR 5 ok w A n l) (h' : Sl TkR 5 ok' w A' n l) (hs : szL (fun t : Tk => t.vs.size) l ≤ 1048576) :
    Calls Tryz.prog 170 #[.slice A n c, .slice A' n c'] w fun e w' => e = .returned (.bool true) ∧ Below w.heap.size w w' := by
  obtain rfl : l.length = n := h.1
  have hn : l.length ≤ 1048576 := by unfold szL at hs; omega
  have HS := Lib.hid hs
  clear hs
  go_enter Tryz.func170, Tryz.ntmps170
  go_wp2
  go_loopw [5] (fun i wr => ∃ k : Nat, k ≤ l.length ∧ i = .int .i64 k ∧ Below w.heap.size w wr) (fun i _ => l.length - (intOf i).toNat)
  case atStart => exact ⟨0, by omega, rfl, Below.refl _ _⟩
  case round =>
    obtain ⟨k, hk, rfl, hb⟩ := hrel
    by_cases hlt : k < l.length
    · obtain ⟨b, off, -, rfl, q0, q1, q2, q3, q4⟩ := TkR.at_ (h.below TkR.stays hb) hlt
      obtain ⟨b', off', -, rfl, r0, r1, r2, r3, r4⟩ := TkR.at_ (h'.below TkR.stays hb) hlt
      have i0 : (0 : Int) ≤ k := by omega
      have i1 : (k : Int) < l.length := by omega
      go_wp2_with fail
      go_region_held3 (fun w' => w'.cell? ⟨b, off + k * 5, none⟩ = some (.int .i64 l[k].k) ∧ w'.cell? ⟨b, off + k * 5 + 1, none⟩ = some (.int .i64 l[k].c) ∧ w'.cell? ⟨b, off + k * 5 + 2, none⟩ = some (.int .i64 l[k].vk) ∧ w'.cell? ⟨b, off + k * 5 + 3, none⟩ = some (.int .i64 l[k].vn) ∧ w'.cell? ⟨b, off + k * 5 + 4, none⟩ = some (.string l[k].vs) ∧ w'.cell? ⟨b', off' + k * 5, none⟩ = some (.int .i64 l[k].k) ∧ w'.cell? ⟨b', off' + k * 5 + 1, none⟩ = some (.int .i64 l[k].c) ∧ w'.cell? ⟨b', off' + k * 5 + 2, none⟩ = some (.int .i64 l[k].vk) ∧ w'.cell? ⟨b', off' + k * 5 + 3, none⟩ = some (.int .i64 l[k].vn) ∧ w'.cell? ⟨b', off' + k * 5 + 4, none⟩ = some (.string l[k].vs))
        (first | go_keep | exact keepE10 (by assumption) hb1)
        (first | (go_at_call 220; refine (lawsEqTok l[k] _).mono ?_; rintro e w1 ⟨rfl, hb1⟩))
      go_wp2
      go_roundw
      case rel => exact ⟨k + 1, by omega, by go_num, hb.drew.trans (hb1.mono hb.size)⟩
      case measure => simp [intOf]; omega
    · go_wp2
      go_ret
      exact ⟨rfl, hb⟩
set_option maxRecDepth 100000 in
set_option maxHeartbeats 1000000 in
theorem lawsEqCol (x : Cl)  (ok ok' : Nat → Prop) (w : World)   (hs : x.sz ≤ 1048576) :
    Calls Tryz.prog 192 #[.agg #[.string x.name, .int .i64 x.kind, .bool x.nn, .int .i64 x.d.k, .int .i64 x.d.n, .string x.d.s], .agg #[.string x.name, .int .i64 x.kind, .bool x.nn, .int .i64 x.d.k, .int .i64 x.d.n, .string x.d.s]] w fun e w' => e = .returned (.bool true) ∧ Below w.heap.size w w' := by
  clear hs
  have ra := (Row.new w 181 #[.string x.name, .int .i64 x.kind, .bool x.nn, .int .i64 x.d.k, .int .i64 x.d.n, .string x.d.s]).alloc (.cells #[.string x.name, .int .i64 x.kind, .bool x.nn, .int .i64 x.d.k, .int .i64 x.d.n, .string x.d.s] 181)
  have rb := Row.newAt (w.alloc (.cells #[.string x.name, .int .i64 x.kind, .bool x.nn, .int .i64 x.d.k, .int .i64 x.d.n, .string x.d.s] 181)) 181 #[.string x.name, .int .i64 x.kind, .bool x.nn, .int .i64 x.d.k, .int .i64 x.d.n, .string x.d.s] (w.heap.size + 1) (by simp)
  have hb0 := ((Below.refl w.heap.size w).alloc (Nat.le_refl _) (.cells #[.string x.name, .int .i64 x.kind, .bool x.nn, .int .i64 x.d.k, .int .i64 x.d.n, .string x.d.s] 181)).alloc (by simp) (.cells #[.string x.name, .int .i64 x.kind, .bool x.nn, .int .i64 x.d.k, .int .i64 x.d.n, .string x.d.s] 181)
  go_enter Tryz.func192, Tryz.ntmps192
  go_wp2_with fail
  generalize (w.alloc (.cells #[.string x.name, .int .i64 x.kind, .bool x.nn, .int .i64 x.d.k, .int .i64 x.d.n, .string x.d.s] 181)).alloc (.cells #[.string x.name, .int .i64 x.kind, .bool x.nn, .int .i64 x.d.k, .int .i64 x.d.n, .string x.d.s] 181) = x0 at *
  refine (lawsEqVal _ _ _ _).mono ?_
  rintro e w1 ⟨rfl, hc0⟩
  have ra := ra.below hc0
  have rb := rb.below hc0
  have hb1 := hb0.trans (hc0.mono hb0.size)
  obtain ⟨⟨a_0_0, a_0_1, a_0_2, a_0_3, a_0_4, a_0_5⟩, -⟩ := ra.all6
  obtain ⟨⟨b_0_0, b_0_1, b_0_2, b_0_3, b_0_4, b_0_5⟩, -⟩ := rb.all6
  go_wp2_with fail
  go_ret
  exact ⟨rfl, hb1⟩
set_option maxRecDepth 100000 in
set_option maxHeartbeats 1000000 in
theorem lawsEqColL (A A' : Option Addr) (n c c' : Nat) (l : List Cl) (ok ok' : Nat → Prop) (w : World) (h : Sl ClR 6 ok w A n l) (h' : Sl ClR 6 ok' w A' n l) (hs : szL Cl.sz l ≤ 1048576) :
    Calls Tryz.prog 130 #[.slice A n c, .slice A' n c'] w fun e w' => e = .returned (.bool true) ∧ Below w.heap.size w w' := by
  obtain rfl : l.length = n := h.1
  have hn : l.length ≤ 1048576 := by unfold szL at hs; omega
  have HS := Lib.hid hs
  clear hs
  go_enter Tryz.func130, Tryz.ntmps130
  go_wp2
  go_loopw [5] (fun i wr => ∃ k : Nat, k ≤ l.length ∧ i = .int .i64 k ∧ Below w.heap.size w wr) (fun i _ => l.length - (intOf i).toNat)
  case atStart => exact ⟨0, by omega, rfl, Below.refl _ _⟩
  case round =>
    obtain ⟨k, hk, rfl, hb⟩ := hrel
    by_cases hlt : k < l.length
    · obtain ⟨b, off, -, rfl, q0, q1, q2, q3, q4, q5⟩ := ClR.at_ (h.below ClR.stays hb) hlt
      obtain ⟨b', off', -, rfl, r0, r1, r2, r3, r4, r5⟩ := ClR.at_ (h'.below ClR.stays hb) hlt
      have i0 : (0 : Int) ≤ k := by omega
      have i1 : (k : Int) < l.length := by omega
      have hszk : l[k].sz ≤ 1048576 := by have := HS.out; have := sum_mem_le (Cl.sz) l k hlt; unfold szL at *; (try simp only at *); omega
      have HSK := Lib.hid hszk
      clear hszk
      go_wp2_with fail
      go_region_held3 (fun w' => w'.cell? ⟨b, off + k * 6, none⟩ = some (.string l[k].name) ∧ w'.cell? ⟨b, off + k * 6 + 1, none⟩ = some (.int .i64 l[k].kind) ∧ w'.cell? ⟨b, off + k * 6 + 2, none⟩ = some (.bool l[k].nn) ∧ w'.cell? ⟨b, off + k * 6 + 3, none⟩ = some (.int .i64 l[k].d.k) ∧ w'.cell? ⟨b, off + k * 6 + 4, none⟩ = some (.int .i64 l[k].d.n) ∧ w'.cell? ⟨b, off + k * 6 + 5, none⟩ = some (.string l[k].d.s) ∧ w'.cell? ⟨b', off' + k * 6, none⟩ = some (.string l[k].name) ∧ w'.cell? ⟨b', off' + k * 6 + 1, none⟩ = some (.int .i64 l[k].kind) ∧ w'.cell? ⟨b', off' + k * 6 + 2, none⟩ = some (.bool l[k].nn) ∧ w'.cell? ⟨b', off' + k * 6 + 3, none⟩ = some (.int .i64 l[k].d.k) ∧ w'.cell? ⟨b', off' + k * 6 + 4, none⟩ = some (.int .i64 l[k].d.n) ∧ w'.cell? ⟨b', off' + k * 6 + 5, none⟩ = some (.string l[k].d.s))
        (first | go_keep | exact keepE12 (by assumption) hb1)
        (first | (go_at_call 192; refine (lawsEqCol l[k]  ok ok' _   HSK.out).mono ?_; rintro e w1 ⟨rfl, hb1⟩))
      go_wp2
      go_roundw
      case rel => exact ⟨k + 1, by omega, by go_num, hb.drew.trans (hb1.mono hb.size)⟩
      case measure => simp [intOf]; omega
    · go_wp2
      go_ret
      exact ⟨rfl, hb⟩
set_option maxRecDepth 100000 in
set_option maxHeartbeats 1000000 in
theorem lawsEqUnique (x : Uq) (A0 B0 : Option Addr) (n0 c0 d0 : Nat) (ok ok' : Nat → Prop) (w : World) (h0 : Sl IntR 1 ok w A0 n0 x.cols) (k0 : Sl IntR 1 ok' w B0 n0 x.cols) (hs : x.sz ≤ 1048576) :
    Calls Tryz.prog 193 #[.agg #[.slice A0 n0 c0], .agg #[.slice B0 n0 d0]] w fun e w' => e = .returned (.bool true) ∧ Below w.heap.size w w' := by
  have HS0 := Lib.hid (show x.cols.length ≤ 1048576 by have := hs; unfold Uq.sz at this; omega)
  clear hs
  have ra := (Row.new w 183 #[.slice A0 n0 c0]).alloc (.cells #[.slice B0 n0 d0] 183)
  have rb := Row.newAt (w.alloc (.cells #[.slice A0 n0 c0] 183)) 183 #[.slice B0 n0 d0] (w.heap.size + 1) (by simp)
  have hb0 := ((Below.refl w.heap.size w).alloc (Nat.le_refl _) (.cells #[.slice A0 n0 c0] 183)).alloc (by simp) (.cells #[.slice B0 n0 d0] 183)
  go_enter Tryz.func193, Tryz.ntmps193
  go_wp2_with fail
  generalize (w.alloc (.cells #[.slice A0 n0 c0] 183)).alloc (.cells #[.slice B0 n0 d0] 183) = x0 at *
  refine (lawsEqIntL A0 B0 n0 c0 d0 x.cols ok ok' _ (h0.below IntR.stays hb0) (k0.below IntR.stays hb0) HS0.out).mono ?_
  rintro e w1 ⟨rfl, hc0⟩
  have ra := ra.below hc0
  have rb := rb.below hc0
  have hb1 := hb0.trans (hc0.mono hb0.size)
  obtain ⟨a_0_0, -⟩ := ra.all1
  obtain ⟨b_0_0, -⟩ := rb.all1
  go_wp2_with fail
  go_ret
  exact ⟨rfl, hb1⟩
set_option maxRecDepth 100000 in
set_option maxHeartbeats 1000000 in
theorem lawsEqUniqueL (A A' : Option Addr) (n c c' : Nat) (l : List Uq) (ok ok' : Nat → Prop) (w : World) (h : Sl UqR 1 ok w A n l) (h' : Sl UqR 1 ok' w A' n l) (hs : szL Uq.sz l ≤ 1048576) :
    Calls Tryz.prog 132 #[.slice A n c, .slice A' n c'] w fun e w' => e = .returned (.bool true) ∧ Below w.heap.size w w' := by
  obtain rfl : l.length = n := h.1
  have hn : l.length ≤ 1048576 := by unfold szL at hs; omega
  have HS := Lib.hid hs
  clear hs
  go_enter Tryz.func132, Tryz.ntmps132
  go_wp2
  go_loopw [5] (fun i wr => ∃ k : Nat, k ≤ l.length ∧ i = .int .i64 k ∧ Below w.heap.size w wr) (fun i _ => l.length - (intOf i).toNat)
  case atStart => exact ⟨0, by omega, rfl, Below.refl _ _⟩
  case round =>
    obtain ⟨k, hk, rfl, hb⟩ := hrel
    by_cases hlt : k < l.length
    · obtain ⟨b, off, A0, n0, c0, -, rfl, q0, s0, -⟩ := UqR.at_ (h.below UqR.stays hb) hlt
      obtain ⟨b', off', B0, m0, d0, -, rfl, r0, t0, -⟩ := UqR.at_ (h'.below UqR.stays hb) hlt
      obtain rfl : n0 = m0 := s0.1.symm.trans t0.1
      have i0 : (0 : Int) ≤ k := by omega
      have i1 : (k : Int) < l.length := by omega
      have hszk : l[k].sz ≤ 1048576 := by have := HS.out; have := sum_mem_le (Uq.sz) l k hlt; unfold szL at *; (try simp only at *); omega
      have HSK := Lib.hid hszk
      clear hszk
      go_wp2_with fail
      go_region_held3 (fun w' => w'.cell? ⟨b, off + k, none⟩ = some (.slice A0 n0 c0) ∧ w'.cell? ⟨b', off' + k, none⟩ = some (.slice B0 n0 d0))
        (first | go_keep | exact keepE2 (by assumption) hb1)
        (first | (go_at_call 193; refine (lawsEqUnique l[k] A0 B0 n0 c0 d0 ok ok' _ (s0.drew IntR.stays) (t0.drew IntR.stays) HSK.out).mono ?_; rintro e w1 ⟨rfl, hb1⟩))
      go_wp2
      go_roundw
      case rel => exact ⟨k + 1, by omega, by go_num, hb.drew.trans (hb1.mono hb.size)⟩
      case measure => simp [intOf]; omega
    · go_wp2
      go_ret
      exact ⟨rfl, hb⟩
set_option maxRecDepth 100000 in
set_option maxHeartbeats 1000000 in
theorem lawsEqCheck (x : Ck) (A0 B0 : Option Addr) (n0 c0 d0 : Nat) (ok ok' : Nat → Prop) (w : World) (h0 : Sl TkR 5 ok w A0 n0 x.expr) (k0 : Sl TkR 5 ok' w B0 n0 x.expr) (hs : x.sz ≤ 1048576) :
    Calls Tryz.prog 194 #[.agg #[.slice A0 n0 c0], .agg #[.slice B0 n0 d0]] w fun e w' => e = .returned (.bool true) ∧ Below w.heap.size w w' := by
  have HS0 := Lib.hid (show szL (fun t : Tk => t.vs.size) x.expr ≤ 1048576 by have := hs; unfold Ck.sz at this; omega)
  clear hs
  have ra := (Row.new w 186 #[.slice A0 n0 c0]).alloc (.cells #[.slice B0 n0 d0] 186)
  have rb := Row.newAt (w.alloc (.cells #[.slice A0 n0 c0] 186)) 186 #[.slice B0 n0 d0] (w.heap.size + 1) (by simp)
  have hb0 := ((Below.refl w.heap.size w).alloc (Nat.le_refl _) (.cells #[.slice A0 n0 c0] 186)).alloc (by simp) (.cells #[.slice B0 n0 d0] 186)
  go_enter Tryz.func194, Tryz.ntmps194
  go_wp2_with fail
  generalize (w.alloc (.cells #[.slice A0 n0 c0] 186)).alloc (.cells #[.slice B0 n0 d0] 186) = x0 at *
  refine (lawsEqTokL A0 B0 n0 c0 d0 x.expr ok ok' _ (h0.below TkR.stays hb0) (k0.below TkR.stays hb0) HS0.out).mono ?_
  rintro e w1 ⟨rfl, hc0⟩
  have ra := ra.below hc0
  have rb := rb.below hc0
  have hb1 := hb0.trans (hc0.mono hb0.size)
  obtain ⟨a_0_0, -⟩ := ra.all1
  obtain ⟨b_0_0, -⟩ := rb.all1
  go_wp2_with fail
  go_ret
  exact ⟨rfl, hb1⟩
set_option maxRecDepth 100000 in
set_option maxHeartbeats 1000000 in
theorem lawsEqCheckL (A A' : Option Addr) (n c c' : Nat) (l : List Ck) (ok ok' : Nat → Prop) (w : World) (h : Sl CkR 1 ok w A n l) (h' : Sl CkR 1 ok' w A' n l) (hs : szL Ck.sz l ≤ 1048576) :
    Calls Tryz.prog 133 #[.slice A n c, .slice A' n c'] w fun e w' => e = .returned (.bool true) ∧ Below w.heap.size w w' := by
  obtain rfl : l.length = n := h.1
  have hn : l.length ≤ 1048576 := by unfold szL at hs; omega
  have HS := Lib.hid hs
  clear hs
  go_enter Tryz.func133, Tryz.ntmps133
  go_wp2
  go_loopw [5] (fun i wr => ∃ k : Nat, k ≤ l.length ∧ i = .int .i64 k ∧ Below w.heap.size w wr) (fun i _ => l.length - (intOf i).toNat)
  case atStart => exact ⟨0, by omega, rfl, Below.refl _ _⟩
  case round =>
    obtain ⟨k, hk, rfl, hb⟩ := hrel
    by_cases hlt : k < l.length
    · obtain ⟨b, off, A0, n0, c0, -, rfl, q0, s0, -⟩ := CkR.at_ (h.below CkR.stays hb) hlt
      obtain ⟨b', off', B0, m0, d0, -, rfl, r0, t0, -⟩ := CkR.at_ (h'.below CkR.stays hb) hlt
      obtain rfl : n0 = m0 := s0.1.symm.trans t0.1
      have i0 : (0 : Int) ≤ k := by omega
      have i1 : (k : Int) < l.length := by omega
      have hszk : l[k].sz ≤ 1048576 := by have := HS.out; have := sum_mem_le (Ck.sz) l k hlt; unfold szL at *; (try simp only at *); omega
      have HSK := Lib.hid hszk
      clear hszk
      go_wp2_with fail
      go_region_held3 (fun w' => w'.cell? ⟨b, off + k, none⟩ = some (.slice A0 n0 c0) ∧ w'.cell? ⟨b', off' + k, none⟩ = some (.slice B0 n0 d0))
        (first | go_keep | exact keepE2 (by assumption) hb1)
        (first | (go_at_call 194; refine (lawsEqCheck l[k] A0 B0 n0 c0 d0 ok ok' _ (s0.drew TkR.stays) (t0.drew TkR.stays) HSK.out).mono ?_; rintro e w1 ⟨rfl, hb1⟩))
      go_wp2
      go_roundw
      case rel => exact ⟨k + 1, by omega, by go_num, hb.drew.trans (hb1.mono hb.size)⟩
      case measure => simp [intOf]; omega
    · go_wp2
      go_ret
      exact ⟨rfl, hb⟩
set_option maxRecDepth 100000 in
set_option maxHeartbeats 1000000 in
theorem lawsEqFk (x : Fk) (A0 B0 : Option Addr) (n0 c0 d0 : Nat) (ok ok' : Nat → Prop) (w : World) (h0 : Sl IntR 1 ok w A0 n0 x.cols) (k0 : Sl IntR 1 ok' w B0 n0 x.cols) (hs : x.sz ≤ 1048576) :
    Calls Tryz.prog 195 #[.agg #[.slice A0 n0 c0, .string x.table, .int .i64 x.del, .int .i64 x.upd, .bool x.dfr], .agg #[.slice B0 n0 d0, .string x.table, .int .i64 x.del, .int .i64 x.upd, .bool x.dfr]] w fun e w' => e = .returned (.bool true) ∧ Below w.heap.size w w' := by
  have HS0 := Lib.hid (show x.cols.length ≤ 1048576 by have := hs; unfold Fk.sz at this; omega)
  clear hs
  have ra := (Row.new w 188 #[.slice A0 n0 c0, .string x.table, .int .i64 x.del, .int .i64 x.upd, .bool x.dfr]).alloc (.cells #[.slice B0 n0 d0, .string x.table, .int .i64 x.del, .int .i64 x.upd, .bool x.dfr] 188)
  have rb := Row.newAt (w.alloc (.cells #[.slice A0 n0 c0, .string x.table, .int .i64 x.del, .int .i64 x.upd, .bool x.dfr] 188)) 188 #[.slice B0 n0 d0, .string x.table, .int .i64 x.del, .int .i64 x.upd, .bool x.dfr] (w.heap.size + 1) (by simp)
  have hb0 := ((Below.refl w.heap.size w).alloc (Nat.le_refl _) (.cells #[.slice A0 n0 c0, .string x.table, .int .i64 x.del, .int .i64 x.upd, .bool x.dfr] 188)).alloc (by simp) (.cells #[.slice B0 n0 d0, .string x.table, .int .i64 x.del, .int .i64 x.upd, .bool x.dfr] 188)
  go_enter Tryz.func195, Tryz.ntmps195
  go_wp2_with fail
  generalize (w.alloc (.cells #[.slice A0 n0 c0, .string x.table, .int .i64 x.del, .int .i64 x.upd, .bool x.dfr] 188)).alloc (.cells #[.slice B0 n0 d0, .string x.table, .int .i64 x.del, .int .i64 x.upd, .bool x.dfr] 188) = x0 at *
  refine (lawsEqIntL A0 B0 n0 c0 d0 x.cols ok ok' _ (h0.below IntR.stays hb0) (k0.below IntR.stays hb0) HS0.out).mono ?_
  rintro e w1 ⟨rfl, hc0⟩
  have ra := ra.below hc0
  have rb := rb.below hc0
  have hb1 := hb0.trans (hc0.mono hb0.size)
  obtain ⟨⟨a_0_0, a_0_1, a_0_2, a_0_3, a_0_4⟩, -⟩ := ra.five
  obtain ⟨⟨b_0_0, b_0_1, b_0_2, b_0_3, b_0_4⟩, -⟩ := rb.five
  go_wp2_with fail
  go_ret
  exact ⟨rfl, hb1⟩
set_option maxRecDepth 100000 in
set_option maxHeartbeats 1000000 in
theorem lawsEqFkL (A A' : Option Addr) (n c c' : Nat) (l : List Fk) (ok ok' : Nat → Prop) (w : World) (h : Sl FkR 5 ok w A n l) (h' : Sl FkR 5 ok' w A' n l) (hs : szL Fk.sz l ≤ 1048576) :
    Calls Tryz.prog 134 #[.slice A n c, .slice A' n c'] w fun e w' => e = .returned (.bool true) ∧ Below w.heap.size w w' := by
  obtain rfl : l.length = n := h.1
  have hn : l.length ≤ 1048576 := by unfold szL at hs; omega
  have HS := Lib.hid hs
  clear hs
  go_enter Tryz.func134, Tryz.ntmps134
  go_wp2
  go_loopw [5] (fun i wr => ∃ k : Nat, k ≤ l.length ∧ i = .int .i64 k ∧ Below w.heap.size w wr) (fun i _ => l.length - (intOf i).toNat)
  case atStart => exact ⟨0, by omega, rfl, Below.refl _ _⟩
  case round =>
    obtain ⟨k, hk, rfl, hb⟩ := hrel
    by_cases hlt : k < l.length
    · obtain ⟨b, off, A0, n0, c0, -, rfl, q0, q1, q2, q3, q4, s0, -⟩ := FkR.at_ (h.below FkR.stays hb) hlt
      obtain ⟨b', off', B0, m0, d0, -, rfl, r0, r1, r2, r3, r4, t0, -⟩ := FkR.at_ (h'.below FkR.stays hb) hlt
      obtain rfl : n0 = m0 := s0.1.symm.trans t0.1
      have i0 : (0 : Int) ≤ k := by omega
      have i1 : (k : Int) < l.length := by omega
      have hszk : l[k].sz ≤ 1048576 := by have := HS.out; have := sum_mem_le (Fk.sz) l k hlt; unfold szL at *; (try simp only at *); omega
      have HSK := Lib.hid hszk
      clear hszk
      go_wp2_with fail
      go_region_held3 (fun w' => w'.cell? ⟨b, off + k * 5, none⟩ = some (.slice A0 n0 c0) ∧ w'.cell? ⟨b, off + k * 5 + 1, none⟩ = some (.string l[k].table) ∧ w'.cell? ⟨b, off + k * 5 + 2, none⟩ = some (.int .i64 l[k].del) ∧ w'.cell? ⟨b, off + k * 5 + 3, none⟩ = some (.int .i64 l[k].upd) ∧ w'.cell? ⟨b, off + k * 5 + 4, none⟩ = some (.bool l[k].dfr) ∧ w'.cell? ⟨b', off' + k * 5, none⟩ = some (.slice B0 n0 d0) ∧ w'.cell? ⟨b', off' + k * 5 + 1, none⟩ = some (.string l[k].table) ∧ w'.cell? ⟨b', off' + k * 5 + 2, none⟩ = some (.int .i64 l[k].del) ∧ w'.cell? ⟨b', off' + k * 5 + 3, none⟩ = some (.int .i64 l[k].upd) ∧ w'.cell? ⟨b', off' + k * 5 + 4, none⟩ = some (.bool l[k].dfr))
        (first | go_keep | exact keepE10 (by assumption) hb1)
        (first | (go_at_call 195; refine (lawsEqFk l[k] A0 B0 n0 c0 d0 ok ok' _ (s0.drew IntR.stays) (t0.drew IntR.stays) HSK.out).mono ?_; rintro e w1 ⟨rfl, hb1⟩))
      go_wp2
      go_roundw
      case rel => exact ⟨k + 1, by omega, by go_num, hb.drew.trans (hb1.mono hb.size)⟩
      case measure => simp [intOf]; omega
    · go_wp2
      go_ret
      exact ⟨rfl, hb⟩
set_option maxRecDepth 100000 in
set_option maxHeartbeats 1000000 in
theorem lawsEqTable (x : Tb) (A1 B1 : Option Addr) (n1 c1 d1 : Nat) (A2 B2 : Option Addr) (n2 c2 d2 : Nat) (A3 B3 : Option Addr) (n3 c3 d3 : Nat) (A4 B4 : Option Addr) (n4 c4 d4 : Nat) (A5 B5 : Option Addr) (n5 c5 d5 : Nat) (ok ok' : Nat → Prop) (w : World) (h1 : Sl ClR 6 ok w A1 n1 x.cols) (h2 : Sl IntR 1 ok w A2 n2 x.key) (h3 : Sl UqR 1 ok w A3 n3 x.uniqs) (h4 : Sl CkR 1 ok w A4 n4 x.checks) (h5 : Sl FkR 5 ok w A5 n5 x.fks) (k1 : Sl ClR 6 ok' w B1 n1 x.cols) (k2 : Sl IntR 1 ok' w B2 n2 x.key) (k3 : Sl UqR 1 ok' w B3 n3 x.uniqs) (k4 : Sl CkR 1 ok' w B4 n4 x.checks) (k5 : Sl FkR 5 ok' w B5 n5 x.fks) (hs : x.sz ≤ 1048576) :
    Calls Tryz.prog 68 #[.agg #[.string x.name, .slice A1 n1 c1, .slice A2 n2 c2, .slice A3 n3 c3, .slice A4 n4 c4, .slice A5 n5 c5], .agg #[.string x.name, .slice B1 n1 d1, .slice B2 n2 d2, .slice B3 n3 d3, .slice B4 n4 d4, .slice B5 n5 d5]] w fun e w' => e = .returned (.bool true) ∧ Below w.heap.size w w' := by
  have HS1 := Lib.hid (show szL Cl.sz x.cols ≤ 1048576 by have := hs; unfold Tb.sz at this; omega)
  have HS2 := Lib.hid (show x.key.length ≤ 1048576 by have := hs; unfold Tb.sz at this; omega)
  have HS3 := Lib.hid (show szL Uq.sz x.uniqs ≤ 1048576 by have := hs; unfold Tb.sz at this; omega)
  have HS4 := Lib.hid (show szL Ck.sz x.checks ≤ 1048576 by have := hs; unfold Tb.sz at this; omega)
  have HS5 := Lib.hid (show szL Fk.sz x.fks ≤ 1048576 by have := hs; unfold Tb.sz at this; omega)
  clear hs
  have ra := (Row.new w 86 #[.string x.name, .slice A1 n1 c1, .slice A2 n2 c2, .slice A3 n3 c3, .slice A4 n4 c4, .slice A5 n5 c5]).alloc (.cells #[.string x.name, .slice B1 n1 d1, .slice B2 n2 d2, .slice B3 n3 d3, .slice B4 n4 d4, .slice B5 n5 d5] 86)
  have rb := Row.newAt (w.alloc (.cells #[.string x.name, .slice A1 n1 c1, .slice A2 n2 c2, .slice A3 n3 c3, .slice A4 n4 c4, .slice A5 n5 c5] 86)) 86 #[.string x.name, .slice B1 n1 d1, .slice B2 n2 d2, .slice B3 n3 d3, .slice B4 n4 d4, .slice B5 n5 d5] (w.heap.size + 1) (by simp)
  have hb0 := ((Below.refl w.heap.size w).alloc (Nat.le_refl _) (.cells #[.string x.name, .slice A1 n1 c1, .slice A2 n2 c2, .slice A3 n3 c3, .slice A4 n4 c4, .slice A5 n5 c5] 86)).alloc (by simp) (.cells #[.string x.name, .slice B1 n1 d1, .slice B2 n2 d2, .slice B3 n3 d3, .slice B4 n4 d4, .slice B5 n5 d5] 86)
  go_enter Tryz.func68, Tryz.ntmps68
  go_wp2_with fail
  generalize (w.alloc (.cells #[.string x.name, .slice A1 n1 c1, .slice A2 n2 c2, .slice A3 n3 c3, .slice A4 n4 c4, .slice A5 n5 c5] 86)).alloc (.cells #[.string x.name, .slice B1 n1 d1, .slice B2 n2 d2, .slice B3 n3 d3, .slice B4 n4 d4, .slice B5 n5 d5] 86) = x0 at *
  refine (lawsEqColL A1 B1 n1 c1 d1 x.cols ok ok' _ (h1.below ClR.stays hb0) (k1.below ClR.stays hb0) HS1.out).mono ?_
  rintro e w1 ⟨rfl, hc0⟩
  have ra := ra.below hc0
  have rb := rb.below hc0
  have hb1 := hb0.trans (hc0.mono hb0.size)
  obtain ⟨⟨a_0_0, a_0_1, a_0_2, a_0_3, a_0_4, a_0_5⟩, -⟩ := ra.all6
  obtain ⟨⟨b_0_0, b_0_1, b_0_2, b_0_3, b_0_4, b_0_5⟩, -⟩ := rb.all6
  go_wp2_with fail
  refine (lawsEqIntL A2 B2 n2 c2 d2 x.key ok ok' _ (h2.below IntR.stays hb1) (k2.below IntR.stays hb1) HS2.out).mono ?_
  rintro e w2 ⟨rfl, hc1⟩
  have ra := ra.below hc1
  have rb := rb.below hc1
  have hb2 := hb1.trans (hc1.mono hb1.size)
  obtain ⟨⟨a_1_0, a_1_1, a_1_2, a_1_3, a_1_4, a_1_5⟩, -⟩ := ra.all6
  obtain ⟨⟨b_1_0, b_1_1, b_1_2, b_1_3, b_1_4, b_1_5⟩, -⟩ := rb.all6
  go_wp2_with fail
  refine (lawsEqUniqueL A3 B3 n3 c3 d3 x.uniqs ok ok' _ (h3.below UqR.stays hb2) (k3.below UqR.stays hb2) HS3.out).mono ?_
  rintro e w3 ⟨rfl, hc2⟩
  have ra := ra.below hc2
  have rb := rb.below hc2
  have hb3 := hb2.trans (hc2.mono hb2.size)
  obtain ⟨⟨a_2_0, a_2_1, a_2_2, a_2_3, a_2_4, a_2_5⟩, -⟩ := ra.all6
  obtain ⟨⟨b_2_0, b_2_1, b_2_2, b_2_3, b_2_4, b_2_5⟩, -⟩ := rb.all6
  go_wp2_with fail
  refine (lawsEqCheckL A4 B4 n4 c4 d4 x.checks ok ok' _ (h4.below CkR.stays hb3) (k4.below CkR.stays hb3) HS4.out).mono ?_
  rintro e w4 ⟨rfl, hc3⟩
  have ra := ra.below hc3
  have rb := rb.below hc3
  have hb4 := hb3.trans (hc3.mono hb3.size)
  obtain ⟨⟨a_3_0, a_3_1, a_3_2, a_3_3, a_3_4, a_3_5⟩, -⟩ := ra.all6
  obtain ⟨⟨b_3_0, b_3_1, b_3_2, b_3_3, b_3_4, b_3_5⟩, -⟩ := rb.all6
  go_wp2_with fail
  refine (lawsEqFkL A5 B5 n5 c5 d5 x.fks ok ok' _ (h5.below FkR.stays hb4) (k5.below FkR.stays hb4) HS5.out).mono ?_
  rintro e w5 ⟨rfl, hc4⟩
  have ra := ra.below hc4
  have rb := rb.below hc4
  have hb5 := hb4.trans (hc4.mono hb4.size)
  obtain ⟨⟨a_4_0, a_4_1, a_4_2, a_4_3, a_4_4, a_4_5⟩, -⟩ := ra.all6
  obtain ⟨⟨b_4_0, b_4_1, b_4_2, b_4_3, b_4_4, b_4_5⟩, -⟩ := rb.all6
  go_wp2_with fail
  go_ret
  exact ⟨rfl, hb5⟩
set_option maxRecDepth 100000 in
set_option maxHeartbeats 1000000 in
theorem lawsEqTableL (A A' : Option Addr) (n c c' : Nat) (l : List Tb) (ok ok' : Nat → Prop) (w : World) (h : Sl TbR 6 ok w A n l) (h' : Sl TbR 6 ok' w A' n l) (hs : szL Tb.sz l ≤ 1048576) :
    Calls Tryz.prog 22 #[.slice A n c, .slice A' n c'] w fun e w' => e = .returned (.bool true) ∧ Below w.heap.size w w' := by
  obtain rfl : l.length = n := h.1
  have hn : l.length ≤ 1048576 := by unfold szL at hs; omega
  have HS := Lib.hid hs
  clear hs
  go_enter Tryz.func22, Tryz.ntmps22
  go_wp2
  go_loopw [5] (fun i wr => ∃ k : Nat, k ≤ l.length ∧ i = .int .i64 k ∧ Below w.heap.size w wr) (fun i _ => l.length - (intOf i).toNat)
  case atStart => exact ⟨0, by omega, rfl, Below.refl _ _⟩
  case round =>
    obtain ⟨k, hk, rfl, hb⟩ := hrel
    by_cases hlt : k < l.length
    · obtain ⟨b, off, A1, n1, c1, A2, n2, c2, A3, n3, c3, A4, n4, c4, A5, n5, c5, -, rfl, q0, q1, q2, q3, q4, q5, s1, s2, s3, s4, s5, -⟩ := TbR.at_ (h.below TbR.stays hb) hlt
      obtain ⟨b', off', B1, m1, d1, B2, m2, d2, B3, m3, d3, B4, m4, d4, B5, m5, d5, -, rfl, r0, r1, r2, r3, r4, r5, t1, t2, t3, t4, t5, -⟩ := TbR.at_ (h'.below TbR.stays hb) hlt
      obtain ⟨rfl, rfl, rfl, rfl, rfl⟩ : n1 = m1 ∧ n2 = m2 ∧ n3 = m3 ∧ n4 = m4 ∧ n5 = m5 := ⟨s1.1.symm.trans t1.1, s2.1.symm.trans t2.1, s3.1.symm.trans t3.1, s4.1.symm.trans t4.1, s5.1.symm.trans t5.1⟩
      have i0 : (0 : Int) ≤ k := by omega
      have i1 : (k : Int) < l.length := by omega
      have hszk : l[k].sz ≤ 1048576 := by have := HS.out; have := sum_mem_le (Tb.sz) l k hlt; unfold szL at *; (try simp only at *); omega
      have HSK := Lib.hid hszk
      clear hszk
      go_wp2_with fail
      go_region_held3 (fun w' => w'.cell? ⟨b, off + k * 6, none⟩ = some (.string l[k].name) ∧ w'.cell? ⟨b, off + k * 6 + 1, none⟩ = some (.slice A1 n1 c1) ∧ w'.cell? ⟨b, off + k * 6 + 2, none⟩ = some (.slice A2 n2 c2) ∧ w'.cell? ⟨b, off + k * 6 + 3, none⟩ = some (.slice A3 n3 c3) ∧ w'.cell? ⟨b, off + k * 6 + 4, none⟩ = some (.slice A4 n4 c4) ∧ w'.cell? ⟨b, off + k * 6 + 5, none⟩ = some (.slice A5 n5 c5) ∧ w'.cell? ⟨b', off' + k * 6, none⟩ = some (.string l[k].name) ∧ w'.cell? ⟨b', off' + k * 6 + 1, none⟩ = some (.slice B1 n1 d1) ∧ w'.cell? ⟨b', off' + k * 6 + 2, none⟩ = some (.slice B2 n2 d2) ∧ w'.cell? ⟨b', off' + k * 6 + 3, none⟩ = some (.slice B3 n3 d3) ∧ w'.cell? ⟨b', off' + k * 6 + 4, none⟩ = some (.slice B4 n4 d4) ∧ w'.cell? ⟨b', off' + k * 6 + 5, none⟩ = some (.slice B5 n5 d5))
        (first | go_keep | exact keepE12 (by assumption) hb1)
        (first | (go_at_call 68; refine (lawsEqTable l[k] A1 B1 n1 c1 d1 A2 B2 n2 c2 d2 A3 B3 n3 c3 d3 A4 B4 n4 c4 d4 A5 B5 n5 c5 d5 ok ok' _ (s1.drew ClR.stays) (s2.drew IntR.stays) (s3.drew UqR.stays) (s4.drew CkR.stays) (s5.drew FkR.stays) (t1.drew ClR.stays) (t2.drew IntR.stays) (t3.drew UqR.stays) (t4.drew CkR.stays) (t5.drew FkR.stays) HSK.out).mono ?_; rintro e w1 ⟨rfl, hb1⟩))
      go_wp2
      go_roundw
      case rel => exact ⟨k + 1, by omega, by go_num, hb.drew.trans (hb1.mono hb.size)⟩
      case measure => simp [intOf]; omega
    · go_wp2
      go_ret
      exact ⟨rfl, hb⟩
set_option maxRecDepth 100000 in
set_option maxHeartbeats 1000000 in
theorem lawsEqTerm (x : Te) (A0 B0 : Option Addr) (n0 c0 d0 : Nat) (ok ok' : Nat → Prop) (w : World) (h0 : Sl TkR 5 ok w A0 n0 x.expr) (k0 : Sl TkR 5 ok' w B0 n0 x.expr) (hs : x.sz ≤ 1048576) :
    Calls Tryz.prog 221 #[.agg #[.slice A0 n0 c0], .agg #[.slice B0 n0 d0]] w fun e w' => e = .returned (.bool true) ∧ Below w.heap.size w w' := by
  have HS0 := Lib.hid (show szL (fun t : Tk => t.vs.size) x.expr ≤ 1048576 by have := hs; unfold Te.sz at this; omega)
  clear hs
  have ra := (Row.new w 207 #[.slice A0 n0 c0]).alloc (.cells #[.slice B0 n0 d0] 207)
  have rb := Row.newAt (w.alloc (.cells #[.slice A0 n0 c0] 207)) 207 #[.slice B0 n0 d0] (w.heap.size + 1) (by simp)
  have hb0 := ((Below.refl w.heap.size w).alloc (Nat.le_refl _) (.cells #[.slice A0 n0 c0] 207)).alloc (by simp) (.cells #[.slice B0 n0 d0] 207)
  go_enter Tryz.func221, Tryz.ntmps221
  go_wp2_with fail
  generalize (w.alloc (.cells #[.slice A0 n0 c0] 207)).alloc (.cells #[.slice B0 n0 d0] 207) = x0 at *
  refine (lawsEqTokL A0 B0 n0 c0 d0 x.expr ok ok' _ (h0.below TkR.stays hb0) (k0.below TkR.stays hb0) HS0.out).mono ?_
  rintro e w1 ⟨rfl, hc0⟩
  have ra := ra.below hc0
  have rb := rb.below hc0
  have hb1 := hb0.trans (hc0.mono hb0.size)
  obtain ⟨a_0_0, -⟩ := ra.all1
  obtain ⟨b_0_0, -⟩ := rb.all1
  go_wp2_with fail
  go_ret
  exact ⟨rfl, hb1⟩
set_option maxRecDepth 100000 in
set_option maxHeartbeats 1000000 in
theorem lawsEqTermL (A A' : Option Addr) (n c c' : Nat) (l : List Te) (ok ok' : Nat → Prop) (w : World) (h : Sl TeR 1 ok w A n l) (h' : Sl TeR 1 ok' w A' n l) (hs : szL Te.sz l ≤ 1048576) :
    Calls Tryz.prog 171 #[.slice A n c, .slice A' n c'] w fun e w' => e = .returned (.bool true) ∧ Below w.heap.size w w' := by
  obtain rfl : l.length = n := h.1
  have hn : l.length ≤ 1048576 := by unfold szL at hs; omega
  have HS := Lib.hid hs
  clear hs
  go_enter Tryz.func171, Tryz.ntmps171
  go_wp2
  go_loopw [5] (fun i wr => ∃ k : Nat, k ≤ l.length ∧ i = .int .i64 k ∧ Below w.heap.size w wr) (fun i _ => l.length - (intOf i).toNat)
  case atStart => exact ⟨0, by omega, rfl, Below.refl _ _⟩
  case round =>
    obtain ⟨k, hk, rfl, hb⟩ := hrel
    by_cases hlt : k < l.length
    · obtain ⟨b, off, A0, n0, c0, -, rfl, q0, s0, -⟩ := TeR.at_ (h.below TeR.stays hb) hlt
      obtain ⟨b', off', B0, m0, d0, -, rfl, r0, t0, -⟩ := TeR.at_ (h'.below TeR.stays hb) hlt
      obtain rfl : n0 = m0 := s0.1.symm.trans t0.1
      have i0 : (0 : Int) ≤ k := by omega
      have i1 : (k : Int) < l.length := by omega
      have hszk : l[k].sz ≤ 1048576 := by have := HS.out; have := sum_mem_le (Te.sz) l k hlt; unfold szL at *; (try simp only at *); omega
      have HSK := Lib.hid hszk
      clear hszk
      go_wp2_with fail
      go_region_held3 (fun w' => w'.cell? ⟨b, off + k, none⟩ = some (.slice A0 n0 c0) ∧ w'.cell? ⟨b', off' + k, none⟩ = some (.slice B0 n0 d0))
        (first | go_keep | exact keepE2 (by assumption) hb1)
        (first | (go_at_call 221; refine (lawsEqTerm l[k] A0 B0 n0 c0 d0 ok ok' _ (s0.drew TkR.stays) (t0.drew TkR.stays) HSK.out).mono ?_; rintro e w1 ⟨rfl, hb1⟩))
      go_wp2
      go_roundw
      case rel => exact ⟨k + 1, by omega, by go_num, hb.drew.trans (hb1.mono hb.size)⟩
      case measure => simp [intOf]; omega
    · go_wp2
      go_ret
      exact ⟨rfl, hb⟩
set_option maxRecDepth 100000 in
set_option maxHeartbeats 1000000 in
theorem lawsEqTrigger (x : Tg) (A2 B2 : Option Addr) (n2 c2 d2 : Nat) (A4 B4 : Option Addr) (n4 c4 d4 : Nat) (ok ok' : Nat → Prop) (w : World) (h2 : Sl TkR 5 ok w A2 n2 x.wher) (h4 : Sl TeR 1 ok w A4 n4 x.terms) (k2 : Sl TkR 5 ok' w B2 n2 x.wher) (k4 : Sl TeR 1 ok' w B4 n4 x.terms) (hs : x.sz ≤ 1048576) :
    Calls Tryz.prog 109 #[.agg #[.string x.table, .int .i64 x.event, .slice A2 n2 c2, .string x.into, .slice A4 n4 c4], .agg #[.string x.table, .int .i64 x.event, .slice B2 n2 d2, .string x.into, .slice B4 n4 d4]] w fun e w' => e = .returned (.bool true) ∧ Below w.heap.size w w' := by
  have HS2 := Lib.hid (show szL (fun t : Tk => t.vs.size) x.wher ≤ 1048576 by have := hs; unfold Tg.sz at this; omega)
  have HS4 := Lib.hid (show szL Te.sz x.terms ≤ 1048576 by have := hs; unfold Tg.sz at this; omega)
  clear hs
  have ra := (Row.new w 140 #[.string x.table, .int .i64 x.event, .slice A2 n2 c2, .string x.into, .slice A4 n4 c4]).alloc (.cells #[.string x.table, .int .i64 x.event, .slice B2 n2 d2, .string x.into, .slice B4 n4 d4] 140)
  have rb := Row.newAt (w.alloc (.cells #[.string x.table, .int .i64 x.event, .slice A2 n2 c2, .string x.into, .slice A4 n4 c4] 140)) 140 #[.string x.table, .int .i64 x.event, .slice B2 n2 d2, .string x.into, .slice B4 n4 d4] (w.heap.size + 1) (by simp)
  have hb0 := ((Below.refl w.heap.size w).alloc (Nat.le_refl _) (.cells #[.string x.table, .int .i64 x.event, .slice A2 n2 c2, .string x.into, .slice A4 n4 c4] 140)).alloc (by simp) (.cells #[.string x.table, .int .i64 x.event, .slice B2 n2 d2, .string x.into, .slice B4 n4 d4] 140)
  go_enter Tryz.func109, Tryz.ntmps109
  go_wp2_with fail
  generalize (w.alloc (.cells #[.string x.table, .int .i64 x.event, .slice A2 n2 c2, .string x.into, .slice A4 n4 c4] 140)).alloc (.cells #[.string x.table, .int .i64 x.event, .slice B2 n2 d2, .string x.into, .slice B4 n4 d4] 140) = x0 at *
  refine (lawsEqTokL A2 B2 n2 c2 d2 x.wher ok ok' _ (h2.below TkR.stays hb0) (k2.below TkR.stays hb0) HS2.out).mono ?_
  rintro e w1 ⟨rfl, hc0⟩
  have ra := ra.below hc0
  have rb := rb.below hc0
  have hb1 := hb0.trans (hc0.mono hb0.size)
  obtain ⟨⟨a_0_0, a_0_1, a_0_2, a_0_3, a_0_4⟩, -⟩ := ra.five
  obtain ⟨⟨b_0_0, b_0_1, b_0_2, b_0_3, b_0_4⟩, -⟩ := rb.five
  go_wp2_with fail
  refine (lawsEqTermL A4 B4 n4 c4 d4 x.terms ok ok' _ (h4.below TeR.stays hb1) (k4.below TeR.stays hb1) HS4.out).mono ?_
  rintro e w2 ⟨rfl, hc1⟩
  have ra := ra.below hc1
  have rb := rb.below hc1
  have hb2 := hb1.trans (hc1.mono hb1.size)
  obtain ⟨⟨a_1_0, a_1_1, a_1_2, a_1_3, a_1_4⟩, -⟩ := ra.five
  obtain ⟨⟨b_1_0, b_1_1, b_1_2, b_1_3, b_1_4⟩, -⟩ := rb.five
  go_wp2_with fail
  go_ret
  exact ⟨rfl, hb2⟩
set_option maxRecDepth 100000 in
set_option maxHeartbeats 1000000 in
theorem lawsEqTriggerL (A A' : Option Addr) (n c c' : Nat) (l : List Tg) (ok ok' : Nat → Prop) (w : World) (h : Sl TgR 5 ok w A n l) (h' : Sl TgR 5 ok' w A' n l) (hs : szL Tg.sz l ≤ 1048576) :
    Calls Tryz.prog 57 #[.slice A n c, .slice A' n c'] w fun e w' => e = .returned (.bool true) ∧ Below w.heap.size w w' := by
  obtain rfl : l.length = n := h.1
  have hn : l.length ≤ 1048576 := by unfold szL at hs; omega
  have HS := Lib.hid hs
  clear hs
  go_enter Tryz.func57, Tryz.ntmps57
  go_wp2
  go_loopw [5] (fun i wr => ∃ k : Nat, k ≤ l.length ∧ i = .int .i64 k ∧ Below w.heap.size w wr) (fun i _ => l.length - (intOf i).toNat)
  case atStart => exact ⟨0, by omega, rfl, Below.refl _ _⟩
  case round =>
    obtain ⟨k, hk, rfl, hb⟩ := hrel
    by_cases hlt : k < l.length
    · obtain ⟨b, off, A2, n2, c2, A4, n4, c4, -, rfl, q0, q1, q2, q3, q4, s2, s4, -⟩ := TgR.at_ (h.below TgR.stays hb) hlt
      obtain ⟨b', off', B2, m2, d2, B4, m4, d4, -, rfl, r0, r1, r2, r3, r4, t2, t4, -⟩ := TgR.at_ (h'.below TgR.stays hb) hlt
      obtain ⟨rfl, rfl⟩ : n2 = m2 ∧ n4 = m4 := ⟨s2.1.symm.trans t2.1, s4.1.symm.trans t4.1⟩
      have i0 : (0 : Int) ≤ k := by omega
      have i1 : (k : Int) < l.length := by omega
      have hszk : l[k].sz ≤ 1048576 := by have := HS.out; have := sum_mem_le (Tg.sz) l k hlt; unfold szL at *; (try simp only at *); omega
      have HSK := Lib.hid hszk
      clear hszk
      go_wp2_with fail
      go_region_held3 (fun w' => w'.cell? ⟨b, off + k * 5, none⟩ = some (.string l[k].table) ∧ w'.cell? ⟨b, off + k * 5 + 1, none⟩ = some (.int .i64 l[k].event) ∧ w'.cell? ⟨b, off + k * 5 + 2, none⟩ = some (.slice A2 n2 c2) ∧ w'.cell? ⟨b, off + k * 5 + 3, none⟩ = some (.string l[k].into) ∧ w'.cell? ⟨b, off + k * 5 + 4, none⟩ = some (.slice A4 n4 c4) ∧ w'.cell? ⟨b', off' + k * 5, none⟩ = some (.string l[k].table) ∧ w'.cell? ⟨b', off' + k * 5 + 1, none⟩ = some (.int .i64 l[k].event) ∧ w'.cell? ⟨b', off' + k * 5 + 2, none⟩ = some (.slice B2 n2 d2) ∧ w'.cell? ⟨b', off' + k * 5 + 3, none⟩ = some (.string l[k].into) ∧ w'.cell? ⟨b', off' + k * 5 + 4, none⟩ = some (.slice B4 n4 d4))
        (first | go_keep | exact keepE10 (by assumption) hb1)
        (first | (go_at_call 109; refine (lawsEqTrigger l[k] A2 B2 n2 c2 d2 A4 B4 n4 c4 d4 ok ok' _ (s2.drew TkR.stays) (s4.drew TeR.stays) (t2.drew TkR.stays) (t4.drew TeR.stays) HSK.out).mono ?_; rintro e w1 ⟨rfl, hb1⟩))
      go_wp2
      go_roundw
      case rel => exact ⟨k + 1, by omega, by go_num, hb.drew.trans (hb1.mono hb.size)⟩
      case measure => simp [intOf]; omega
    · go_wp2
      go_ret
      exact ⟨rfl, hb⟩
end Go.Proofs.YtlpldhmanihnnaaGreat
