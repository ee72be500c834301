/-
  Tables that a drawing lays in memory of its own: where their lists lie, how they stay, how they read.
-/
import Derived.Test.YtjlolfikaahobaaTypes
import Derived.Test.YtjlolfikaahobaaTo
import Derived.Test.YtjlolfikaahobaaOwnInts
import Derived.Test.YtjlolfikaahobaaDraws
namespace Go.Proofs.Ytjlolfikaahobaa
open Go.RowKit
set_option linter.unusedVariables false
set_option linter.unusedSimpArgs false

/-- All blocks of w from base on are in w' as they were. -/
def Hold (base : Nat) (w w' : World) : Prop := w.heap.size ≤ w'.heap.size ∧ ∀ g, base ≤ g → g < w.heap.size → w'.heap[g]? = w.heap[g]?
theorem Hold.refl (base : Nat) (w : World) : Hold base w w := ⟨Nat.le_refl _, fun _ _ _ => rfl⟩
theorem Hold.trans {base : Nat} {a b c : World} (h : Hold base a b) (k : Hold base b c) : Hold base a c := ⟨Nat.le_trans h.1 k.1, fun g hg hl => (k.2 g hg (Nat.lt_of_lt_of_le hl h.1)).trans (h.2 g hg hl)⟩
theorem Hold.below {base : Nat} {w w' : World} (h : Below w.heap.size w w') : Hold base w w' := ⟨h.size, fun g _ hl => h.block g hl⟩
theorem Hold.but {base R : Nat} {w w' : World} (h : But R w w') (hR : R < base) : Hold base w w' := ⟨h.size, fun g hg hl => h.block g hl (by omega)⟩
theorem Hold.alloc (base : Nat) (w : World) (o : Obj) : Hold base w (w.alloc o) := ⟨by simp, fun g _ hl => Below.heap_alloc _ _ _ hl⟩

/-- Block g of w holds these cells of that type. -/
def Blo (w : World) (g : Nat) (xs : List Value) (T : TypeId) : Prop := w.heap[g]? = some (.cells xs.toArray T)
theorem Blo.lt {w : World} {g : Nat} {xs : List Value} {T : TypeId} (h : Blo w g xs T) : g < w.heap.size := lt_of_block h
theorem Blo.hold {base : Nat} {w w' : World} {g : Nat} {xs : List Value} {T : TypeId} (h : Blo w g xs T) (hb : base ≤ g) (hh : Hold base w w') : Blo w' g xs T := (hh.2 g hb h.lt).trans h
theorem Blo.new (w : World) (xs : List Value) (T : TypeId) : Blo (w.alloc (.cells xs.toArray T)) w.heap.size xs T := Go.heap_alloc_last w _
theorem Blo.put {w : World} {g : Nat} {xs : List Value} {T : TypeId} (h : Blo w g xs T) (k : Nat) (v : Value) : Blo (w.setCell ⟨g, k, none⟩ v) g (xs.set k v) T := by
  have h' : w.heap[g]? = some (.cells xs.toArray T) := h
  have hl := lt_of_block h'
  unfold Blo World.setCell
  simp [Array.getElem?_modify, h']
theorem Blo.cell {w : World} {g : Nat} {xs : List Value} {T : TypeId} (h : Blo w g xs T) (k : Nat) (v : Value) (hv : xs[k]? = some v) : w.cell? ⟨g, k, none⟩ = some v := by
  have h' : w.heap[g]? = some (.cells xs.toArray T) := h
  simp only [World.cell?, h']
  simpa using hv
theorem Blo.free {w : World} {g : Nat} {xs : List Value} {T : TypeId} (h : Blo w g xs T) (k : Nat) : w.frozen? ⟨g, k, none⟩ = false := by
  have h' : w.heap[g]? = some (.cells xs.toArray T) := h
  simp [World.frozen?, h']
theorem Blo.set {w : World} {g : Nat} {xs : List Value} {T : TypeId} (h : Blo w g xs T) (p : Addr) (hp : p.block ≠ g) (v : Value) : Blo (w.setCell p v) g xs T := (Below.heap_setCell _ _ _ _ (by omega)).trans h

/-- The blocks in which a table's lists lie, but its columns. -/
def okY (base : Nat) (w : World) (b : Nat) : Prop := base ≤ b ∧ ∃ xs T, w.heap[b]? = some (.cells xs T) ∧ T ≠ 34 ∧ T ≠ 47
theorem okY.okF {base : Nat} {w : World} {b : Nat} (h : okY base w b) : okF base w b := by
  obtain ⟨h1, xs, T, h2, -⟩ := h
  exact ⟨h1, lt_of_block h2, fun off => by simp [World.frozen?, h2]⟩
theorem okY.new {base : Nat} {w : World} (hb : base ≤ w.heap.size) (xs : List Value) {T : TypeId} (h1 : T ≠ 34) (h2 : T ≠ 47) : okY base (w.alloc (.cells xs.toArray T)) w.heap.size :=
  ⟨hb, _, T, Go.heap_alloc_last w _, h1, h2⟩
theorem okY.hold {base : Nat} {w w' : World} (hh : Hold base w w') {b : Nat} (h : okY base w b) : okY base w' b := by
  obtain ⟨h1, xs, T, h2, h3⟩ := h
  exact ⟨h1, xs, T, (hh.2 b h1 (lt_of_block h2)).trans h2, h3⟩
theorem okY.cell {base : Nat} {w w' : World} (hh : Hold base w w') {p : Addr} {v : Value} (h : okY base w p.block) (hc : w.cell? p = some v) : w'.cell? p = some v := by
  obtain ⟨h1, xs, T, h2, h3⟩ := h
  exact (World.cell?_of_block (w := w) (hh.2 p.block h1 (lt_of_block h2))).trans hc
/-- A store into a block of tables or of columns. -/
def TC (w : World) (g : Nat) : Prop := ∃ xs T, w.heap[g]? = some (.cells xs T) ∧ (T = 34 ∨ T = 47)
theorem okY.ne {base : Nat} {w : World} {b g : Nat} (h : okY base w b) (hg : TC w g) : b ≠ g := by
  rintro rfl
  obtain ⟨h1, xs, T, h2, h3, h4⟩ := h
  obtain ⟨ys, T', h5, h6⟩ := hg
  rw [h2] at h5
  simp only [Option.some.injEq, Obj.cells.injEq] at h5
  obtain ⟨-, rfl, -⟩ := h5
  rcases h6 with h6 | h6
  · exact h3 h6
  · exact h4 h6
theorem okY.set {base : Nat} {w : World} {p : Addr} (hp : TC w p.block) (v : Value) {b : Nat} (h : okY base w b) : okY base (w.setCell p v) b := by
  have hn := h.ne hp
  obtain ⟨h1, xs, T, h2, h3⟩ := h
  exact ⟨h1, xs, T, (Below.heap_setCell _ _ _ _ (fun e => hn e)).trans h2, h3⟩

/-- How a list of own elements was laid. -/
theorem Sl.laid {α : Type} {R : Rd α} {sz : Nat} {ok : Nat → Prop} {w : World} {g : Nat} {T : TypeId} {css : List (List Value)} {ds : List α} (hB : Blo w g css.flatten T) (hl : css.length = ds.length) (hok : ok g)
    (h : ∀ (i : Nat) (hi : i < css.length) (hd : i < ds.length), css[i].length = sz ∧ R ok w css[i] ds[i]) : Sl R sz ok w (some ⟨g, 0, none⟩) ds.length ds := by
  refine ⟨rfl, fun _ => ⟨g, 0, rfl, hok, fun i hi => ⟨css[i]'(by omega), (h i (by omega) hi).1, (h i (by omega) hi).2, fun j v hv => ?_⟩⟩⟩
  have hj : j < sz := by
    rw [← (h i (by omega) hi).1]
    exact (List.getElem?_eq_some_iff.1 hv).1
  have hc : css.flatten[i * sz + j]? = some v := by
    have hall : ∀ c ∈ css, c.length = sz := by
      intro c hc
      obtain ⟨k, hk, rfl⟩ := List.getElem_of_mem hc
      exact (h k hk (by omega)).1
    have key : ∀ (l : List (List Value)) (i : Nat) (hi : i < l.length), (∀ c ∈ l, c.length = sz) → l.flatten[i * sz + j]? = l[i][j]? := by
      intro l
      induction l with
      | nil => intro i hi; simp at hi
      | cons x l ih =>
        intro i hi ha
        have hx := ha x (List.mem_cons_self ..)
        cases i with
        | zero => rw [List.flatten_cons, Nat.zero_mul, Nat.zero_add, List.getElem?_append_left (by omega)]; rfl
        | succ i =>
          rw [List.flatten_cons, List.getElem?_append_right (by rw [hx, Nat.succ_mul]; omega), hx, show (i + 1) * sz + j - sz = i * sz + j by rw [Nat.succ_mul]; omega]
          exact ih i (by simpa using hi) fun c hc => ha c (List.mem_cons_of_mem _ hc)
    rw [key css i (by omega) hall]; exact hv
  rw [Nat.zero_add]
  show w.cell? ⟨g, i * sz + j, none⟩ = some v
  have hb : w.heap[g]? = some (.cells css.flatten.toArray T) := hB
  simp only [World.cell?, hb]
  simpa using hc

/-- A table's cells, its columns in block gc, its other lists elsewhere. -/
def TabY (base : Nat) (w : World) (gc : Nat) (cs : List Value) (t : Tb) : Prop := ∃ (n1 : Nat) (A2 : Option Addr) (n2 c2 : Nat) (A3 : Option Addr) (n3 c3 : Nat) (A4 : Option Addr) (n4 c4 : Nat) (A5 : Option Addr) (n5 c5 : Nat),
  cs = [.string t.name, .slice (some ⟨gc, 0, none⟩) n1 n1, .slice A2 n2 c2, .slice A3 n3 c3, .slice A4 n4 c4, .slice A5 n5 c5] ∧ base ≤ gc ∧ Blo w gc (t.cols.map Cl.cells).flatten 47 ∧ t.cols.length = n1 ∧ 2 ≤ n1 ∧
  Sl IntR 1 (okY base w) w A2 n2 t.key ∧ Sl UqR 1 (okY base w) w A3 n3 t.uniqs ∧ Sl CkR 1 (okY base w) w A4 n4 t.checks ∧ Sl FkR 5 (okY base w) w A5 n5 t.fks ∧ (n2 ≤ c2 ∧ n3 = c3 ∧ n4 ≤ c4 ∧ n5 ≤ c5) ∧ t.sz ≤ 1000
theorem TabY.hold {base : Nat} {w w' : World} {gc : Nat} {cs : List Value} {t : Tb} (h : TabY base w gc cs t) (hh : Hold base w w') : TabY base w' gc cs t := by
  obtain ⟨n1, A2, n2, c2, A3, n3, c3, A4, n4, c4, A5, n5, c5, e, hb, hB, hn, hp, h2, h3, h4, h5, hc, hz⟩ := h
  have ho : ∀ b, okY base w b → okY base w' b := fun b h => h.hold hh
  have hk : ∀ p v, okY base w p.block → w.cell? p = some v → w'.cell? p = some v := fun p v h hc => h.cell hh hc
  exact ⟨n1, A2, n2, c2, A3, n3, c3, A4, n4, c4, A5, n5, c5, e, hb, hB.hold hb hh, hn, hp, h2.stays IntR.stays ho hk, h3.stays UqR.stays ho hk, h4.stays CkR.stays ho hk, h5.stays FkR.stays ho hk, hc, hz⟩
/-- A store into tables or other columns. -/
theorem TabY.set {base : Nat} {w : World} {gc : Nat} {cs : List Value} {t : Tb} (h : TabY base w gc cs t) {p : Addr} (hp : TC w p.block) (hne : p.block ≠ gc) (v : Value) : TabY base (w.setCell p v) gc cs t := by
  obtain ⟨n1, A2, n2, c2, A3, n3, c3, A4, n4, c4, A5, n5, c5, e, hb, hB, hn, hq, h2, h3, h4, h5, hc, hz⟩ := h
  have ho : ∀ b, okY base w b → okY base (w.setCell p v) b := fun b h => h.set hp v
  have hk : ∀ q u, okY base w q.block → w.cell? q = some u → (w.setCell p v).cell? q = some u := fun q u h hc => (World.cell?_setCell_other _ _ _ _ (fun e => h.ne hp (by rw [e]))).trans hc
  exact ⟨n1, A2, n2, c2, A3, n3, c3, A4, n4, c4, A5, n5, c5, e, hb, hB.set p hne v, hn, hq, h2.stays IntR.stays ho hk, h3.stays UqR.stays ho hk, h4.stays CkR.stays ho hk, h5.stays FkR.stays ho hk, hc, hz⟩
theorem cols_flat (l : List Cl) (i : Nat) (hi : i < (l.map Cl.cells).length) (hd : i < l.length) {ok : Nat → Prop} {w : World} : (l.map Cl.cells)[i].length = 6 ∧ ClR ok w (l.map Cl.cells)[i] l[i] := by
  rw [List.getElem_map]; exact ⟨rfl, rfl⟩
theorem okF_blo {base : Nat} {w : World} {g : Nat} {xs : List Value} {T : TypeId} (hb : base ≤ g) (h : Blo w g xs T) : okF base w g := ⟨hb, h.lt, fun off => by have h' : w.heap[g]? = some (.cells xs.toArray T) := h; simp [World.frozen?, h']⟩
theorem TabY.reads {base : Nat} {w : World} {gc : Nat} {cs : List Value} {t : Tb} (h : TabY base w gc cs t) : TbR (okF base w) w cs t := by
  obtain ⟨n1, A2, n2, c2, A3, n3, c3, A4, n4, c4, A5, n5, c5, e, hb, hB, rfl, hp, h2, h3, h4, h5, hc, hz⟩ := h
  have ho : ∀ b, okY base w b → okF base w b := fun b h => h.okF
  have hk : ∀ p v, okY base w p.block → w.cell? p = some v → w.cell? p = some v := fun p v _ hc => hc
  exact ⟨_, _, _, A2, n2, c2, A3, n3, c3, A4, n4, c4, A5, n5, c5, e, Sl.laid hB (by simp) (okF_blo hb hB) (fun i hi hd => cols_flat _ i hi hd), h2.stays IntR.stays ho hk, h3.stays UqR.stays ho hk, h4.stays CkR.stays ho hk, h5.stays FkR.stays ho hk, ⟨Nat.le_refl _, hc.1, Nat.le_of_eq hc.2.1, hc.2.2⟩⟩

theorem TabY.uniq {base : Nat} {w : World} {gc : Nat} {cs : List Value} {t : Tb} (h : TabY base w gc cs t) {A : Option Addr} {n c : Nat} {us : List Uq} (hu : Sl UqR 1 (okY base w) w A n us) (hc : n = c) (hz : ({ t with uniqs := us } : Tb).sz ≤ 1000) : TabY base w gc (cs.set 3 (.slice A n c)) { t with uniqs := us } := by
  obtain ⟨n1, A2, n2, c2, A3, n3, c3, A4, n4, c4, A5, n5, c5, rfl, hb, hB, hn, hp, h2, h3, h4, h5, ⟨k2, k3, k4, k5⟩, _⟩ := h
  exact ⟨n1, A2, n2, c2, A, n, c, A4, n4, c4, A5, n5, c5, rfl, hb, hB, hn, hp, h2, hu, h4, h5, ⟨k2, hc, k4, k5⟩, hz⟩
theorem TabY.chk {base : Nat} {w : World} {gc : Nat} {cs : List Value} {t : Tb} (h : TabY base w gc cs t) {A : Option Addr} {n c : Nat} {us : List Ck} (hu : Sl CkR 1 (okY base w) w A n us) (hc : n ≤ c) (hz : ({ t with checks := us } : Tb).sz ≤ 1000) : TabY base w gc (cs.set 4 (.slice A n c)) { t with checks := us } := by
  obtain ⟨n1, A2, n2, c2, A3, n3, c3, A4, n4, c4, A5, n5, c5, rfl, hb, hB, hn, hp, h2, h3, h4, h5, ⟨k2, k3, k4, k5⟩, _⟩ := h
  exact ⟨n1, A2, n2, c2, A3, n3, c3, A, n, c, A5, n5, c5, rfl, hb, hB, hn, hp, h2, h3, hu, h5, ⟨k2, k3, hc, k5⟩, hz⟩
theorem TabY.len {base : Nat} {w : World} {gc : Nat} {cs : List Value} {t : Tb} (h : TabY base w gc cs t) : ∃ x0 x1 x2 x3 x4 x5, cs = [x0, x1, x2, x3, x4, x5] := by
  obtain ⟨n1, A2, n2, c2, A3, n3, c3, A4, n4, c4, A5, n5, c5, rfl, -⟩ := h
  exact ⟨_, _, _, _, _, _, rfl⟩
theorem Sl.nilY {α : Type} {R : Rd α} {sz : Nat} {ok : Nat → Prop} {w : World} : Sl R sz ok w none 0 ([] : List α) := ⟨rfl, fun h => by omega⟩
/-- Numbers that were laid. -/
theorem intsY {base : Nat} {w : World} {g : Nat} (ns : List Int) (hB : Blo w g (ns.map (Value.int .i64)) 2) (hb : base ≤ g) : Sl IntR 1 (okY base w) w (some ⟨g, 0, none⟩) ns.length ns := by
  have hB2 : Blo w g (ns.map fun n => [Value.int .i64 n]).flatten 2 := by
    have e : (ns.map fun n => [Value.int .i64 n]).flatten = ns.map (Value.int .i64) := by
      clear hB
      induction ns with
      | nil => rfl
      | cons n ns ih => rw [List.map_cons, List.flatten_cons, ih]; rfl
    rw [e]; exact hB
  refine Sl.laid hB2 (by simp) ⟨hb, _, _, hB2, by decide, by decide⟩ fun i hi hd => ?_
  rw [List.getElem_map]; exact ⟨rfl, rfl⟩
/-- One group of columns of which values come once. -/
theorem uniqY {base : Nat} {w : World} {g g1 : Nat} (ns : List Int) (hB : Blo w g1 (ns.map (Value.int .i64)) 2) (hb : base ≤ g1) (hB2 : Blo w g [.slice (some ⟨g1, 0, none⟩) ns.length ns.length] 68) (hb2 : base ≤ g) : Sl UqR 1 (okY base w) w (some ⟨g, 0, none⟩) 1 [⟨ns⟩] := by
  have h := Sl.laid (R := UqR) (sz := 1) (ok := okY base w) (css := [[.slice (some ⟨g1, 0, none⟩) ns.length ns.length]]) (ds := [⟨ns⟩]) (g := g) (T := 68) hB2 rfl ⟨hb2, _, _, hB2, by decide, by decide⟩ fun i hi hd => by
    obtain rfl : i = 0 := by simpa using hi
    exact ⟨rfl, _, _, _, rfl, intsY ns hB hb, Nat.le_refl _⟩
  exact h

/-- v is a slice of the drawing's own that holds tables: by each one's columns' block, cells and what it is. -/
def SchY (base : Nat) (w : World) (v : Value) (xs : List (Nat × List Value × Tb)) : Prop :=
  w.ownsRow base 34 6 v xs.length (xs.map (·.2.1)).flatten ∧ (xs.map (·.1)).Nodup ∧ ∀ x ∈ xs, TabY base w x.1 x.2.1 x.2.2
/-- The parent's table in its box gp, its columns in gc. -/
def PB (w w' : World) (R : Nat) (a : Option Addr) (len cap : Nat) (zs : List Int) (gp gc : Nat) (m : Nat) : Prop := ∃ cs t, Blo w' gp cs 34 ∧ w.heap.size ≤ gp ∧ TabY w.heap.size w' gc cs t ∧ t.cols.length = 3 ∧ But R w w' ∧ Rdr w' R a len cap zs ∧ t.sz ≤ m
theorem PB.but {w w' w'' : World} {R : Nat} {a : Option Addr} {len cap : Nat} {zs : List Int} {gp gc m : Nat} (h : PB w w' R a len cap zs gp gc m) (hb : But R w' w'') (hr : Rdr w'' R a len cap zs) (hR : R < w.heap.size) : PB w w'' R a len cap zs gp gc m := by
  obtain ⟨cs, t, h1, h2, h3, h4, h5, h6, h7⟩ := h
  exact ⟨cs, t, h1.hold h2 (Hold.but hb hR), h2, h3.hold (Hold.but hb hR), h4, h5.trans hb, hr, h7⟩
theorem PB.mono {w w' : World} {R : Nat} {a : Option Addr} {len cap : Nat} {zs : List Int} {gp gc m m' : Nat} (h : PB w w' R a len cap zs gp gc m) (hm : m ≤ m') : PB w w' R a len cap zs gp gc m' := by
  obtain ⟨cs, t, h1, h2, h3, h4, h5, h6, h7⟩ := h
  exact ⟨cs, t, h1, h2, h3, h4, h5, h6, by omega⟩
theorem Blo.tc {w : World} {g : Nat} {xs : List Value} (h : Blo w g xs 34) : TC w g := ⟨_, _, h, .inl rfl⟩
theorem TabY.ne {base : Nat} {w : World} {gc g : Nat} {cs xs : List Value} {t : Tb} (h : TabY base w gc cs t) (hg : Blo w g xs 34) : g ≠ gc := by
  rintro rfl
  obtain ⟨n1, A2, n2, c2, A3, n3, c3, A4, n4, c4, A5, n5, c5, e, hb, hB, -⟩ := h
  unfold Blo at hB hg
  rw [hB] at hg
  simp only [Option.some.injEq, Obj.cells.injEq] at hg
  exact absurd hg.2.1 (by decide)
theorem PB.cell {w w' : World} {R : Nat} {a : Option Addr} {len cap : Nat} {zs : List Int} {gp gc m : Nat} (h : PB w w' R a len cap zs gp gc m) {w2 : World} (hh : Hold w.heap.size w' w2) (k : Nat) (hk : k < 6) : (∃ u, w2.cell? ⟨gp, k, none⟩ = some u) ∧ w2.frozen? ⟨gp, k, none⟩ = false := by
  obtain ⟨cs, t, h1, h2, h3, -⟩ := h
  obtain ⟨x0, x1, x2, x3, x4, x5, rfl⟩ := h3.len
  have hB := h1.hold h2 hh
  refine ⟨⟨[x0, x1, x2, x3, x4, x5][k]'(by simpa using hk), hB.cell k _ (by rw [List.getElem?_eq_getElem])⟩, hB.free k⟩
theorem TabY.small {base : Nat} {w : World} {gc : Nat} {cs : List Value} {t : Tb} (h : TabY base w gc cs t) : t.sz ≤ 1000 := by
  obtain ⟨_, _, _, _, _, _, _, _, _, _, _, _, _, _, _, _, _, _, _, _, _, _, _, hz⟩ := h
  exact hz
theorem PB.uniq {w y : World} {R : Nat} {a : Option Addr} {len cap : Nat} {zs : List Int} {gp gc m : Nat} (h : PB w y R a len cap zs gp gc m) (h0 : Rdr w R a len cap zs) (hm : m ≤ 900) :
    PB w (((y.alloc (.cells #[.int .i64 2] 2)).alloc (.cells #[.slice (some ⟨y.heap.size, 0, none⟩) 1 1] 68)).setCell ⟨gp, 3, none⟩ (.slice (some ⟨y.heap.size + 1, 0, none⟩) 1 1)) R a len cap zs gp gc (m + 2) := by
  obtain ⟨cs, t, h1, h2, h3, h4, h5, h6, h7⟩ := h
  have b1 := Blo.new y ([2].map (Value.int .i64)) 2
  have b2 := Blo.new (y.alloc (.cells ([2].map (Value.int .i64)).toArray 2)) [.slice (some ⟨y.heap.size, 0, none⟩) 1 1] 68
  rw [show (y.alloc (.cells ([2].map (Value.int .i64)).toArray 2)).heap.size = y.heap.size + 1 by simp] at b2
  have hw : w.heap.size ≤ y.heap.size := h5.size
  have k1 := Hold.alloc w.heap.size y (.cells ([2].map (Value.int .i64)).toArray 2)
  have k2 := Hold.alloc w.heap.size (y.alloc (.cells ([2].map (Value.int .i64)).toArray 2)) (.cells [.slice (some ⟨y.heap.size, 0, none⟩) 1 1].toArray 68)
  have hu := uniqY (base := w.heap.size) [2] (b1.hold hw k2) hw b2 (by omega)
  have hz : ({ t with uniqs := [⟨[2]⟩] } : Tb).sz ≤ t.sz + 2 := by
    have e : szL Uq.sz [⟨[2]⟩] = 2 := rfl
    unfold Tb.sz
    simp only [e]
    omega
  have t1 := (h3.hold (k1.trans k2)).uniq hu rfl (by omega)
  have B1 := h1.hold h2 (k1.trans k2)
  exact ⟨cs.set 3 (.slice (some ⟨y.heap.size + 1, 0, none⟩) 1 1), { t with uniqs := [⟨[2]⟩] }, B1.put 3 _, h2, t1.set B1.tc (t1.ne B1) _, h4, ((h5.alloc _).alloc _).setNew h2 _, h0.setNew ((h6.alloc _).alloc _) h2 _, by omega⟩
/-- One check. -/
theorem chkY {base : Nat} {w : World} {g g1 : Nat} (ts : List Tk) (hB : Blo w g1 (ts.map Tk.cells).flatten 98) (hb : base ≤ g1) (hB2 : Blo w g [.slice (some ⟨g1, 0, none⟩) ts.length ts.length] 76) (hb2 : base ≤ g) : Sl CkR 1 (okY base w) w (some ⟨g, 0, none⟩) 1 [⟨ts⟩] := by
  have h := Sl.laid (R := CkR) (sz := 1) (ok := okY base w) (css := [[.slice (some ⟨g1, 0, none⟩) ts.length ts.length]]) (ds := [⟨ts⟩]) (g := g) (T := 76) hB2 rfl ⟨hb2, _, _, hB2, by decide, by decide⟩ fun i hi hd => by
    obtain rfl : i = 0 := by simpa using hi
    refine ⟨rfl, _, _, _, rfl, Sl.laid hB (by simp) ⟨hb, _, _, hB, by decide, by decide⟩ fun i hi hd => ?_, Nat.le_refl _⟩
    rw [List.getElem_map]; exact ⟨rfl, rfl⟩
  exact h
def toksP : List Tk := [⟨1, 0, 0, 0, ⟨#[]⟩⟩, ⟨2, 0, 1, 4, ⟨#[]⟩⟩, ⟨4, 0, 0, 0, ⟨#[]⟩⟩]
theorem PB.chk {w y : World} {R : Nat} {a : Option Addr} {len cap : Nat} {zs : List Int} {gp gc m : Nat} (h : PB w y R a len cap zs gp gc m) (h0 : Rdr w R a len cap zs) (hm : m ≤ 900) :
    PB w (((y.alloc (.cells #[.int .i64 1, .int .i64 0, .int .i64 0, .int .i64 0, .string ⟨#[]⟩, .int .i64 2, .int .i64 0, .int .i64 1, .int .i64 4, .string ⟨#[]⟩, .int .i64 4, .int .i64 0, .int .i64 0, .int .i64 0, .string ⟨#[]⟩] 98)).alloc (.cells #[.slice (some ⟨y.heap.size, 0, none⟩) 3 3] 76)).setCell ⟨gp, 4, none⟩ (.slice (some ⟨y.heap.size + 1, 0, none⟩) 1 1)) R a len cap zs gp gc (m + 4) := by
  obtain ⟨cs, t, h1, h2, h3, h4, h5, h6, h7⟩ := h
  have b1 := Blo.new y (toksP.map Tk.cells).flatten 98
  have b2 := Blo.new (y.alloc (.cells (toksP.map Tk.cells).flatten.toArray 98)) [.slice (some ⟨y.heap.size, 0, none⟩) 3 3] 76
  rw [show (y.alloc (.cells (toksP.map Tk.cells).flatten.toArray 98)).heap.size = y.heap.size + 1 by simp] at b2
  have hw : w.heap.size ≤ y.heap.size := h5.size
  have k1 := Hold.alloc w.heap.size y (.cells (toksP.map Tk.cells).flatten.toArray 98)
  have k2 := Hold.alloc w.heap.size (y.alloc (.cells (toksP.map Tk.cells).flatten.toArray 98)) (.cells [.slice (some ⟨y.heap.size, 0, none⟩) 3 3].toArray 76)
  have hu := chkY (base := w.heap.size) toksP (b1.hold hw k2) hw b2 (by omega)
  have hz : ({ t with checks := [⟨toksP⟩] } : Tb).sz ≤ t.sz + 4 := by
    have e : szL Ck.sz [⟨toksP⟩] = 4 := by decide
    unfold Tb.sz
    simp only [e]
    omega
  have t1 := (h3.hold (k1.trans k2)).chk hu (Nat.le_refl _) (by omega)
  have B1 := h1.hold h2 (k1.trans k2)
  exact ⟨cs.set 4 (.slice (some ⟨y.heap.size + 1, 0, none⟩) 1 1), { t with checks := [⟨toksP⟩] }, B1.put 4 _, h2, t1.set B1.tc (t1.ne B1) _, h4, ((h5.alloc _).alloc _).setNew h2 _, h0.setNew ((h6.alloc _).alloc _) h2 _, by omega⟩
theorem SchY.hold {base : Nat} {w w' : World} {v : Value} {xs : List (Nat × List Value × Tb)} (h : SchY base w v xs) (hh : Hold base w w') : SchY base w' v xs := by
  obtain ⟨⟨h1, h2⟩, h3, h4⟩ := h
  refine ⟨⟨h1, ?_⟩, h3, fun x hx => (h4 x hx).hold hh⟩
  rcases h2 with h2 | ⟨g, cap, cur, rfl, k1, k2, k3⟩
  · exact .inl h2
  · exact .inr ⟨g, cap, cur, rfl, k1, (hh.2 g k1 (lt_of_block k2)).trans k2, k3⟩
theorem TabY.grown {base : Nat} {w w' : World} {row : Option Nat} {gc : Nat} {cs : List Value} {t : Tb} (h : TabY base w gc cs t) (hg : w.grownBy w' row) (hr : ∀ k, row = some k → ∃ cur, w.heap[k]? = some (.cells cur 34)) : TabY base w' gc cs t := by
  obtain ⟨n1, A2, n2, c2, A3, n3, c3, A4, n4, c4, A5, n5, c5, e, hb, hB, hn, hp, h2, h3, h4, h5, hc, hz⟩ := h
  have hne : ∀ b, okY base w b → some b ≠ row := fun b hb he => by
    obtain ⟨cur, hcur⟩ := hr b he.symm
    exact hb.ne ⟨_, _, hcur, .inl rfl⟩ rfl
  have ho : ∀ b, okY base w b → okY base w' b := fun b h => by
    have hn := hne b h
    obtain ⟨k1, xs, T, k2, k3⟩ := h
    exact ⟨k1, xs, T, (hg.block b (lt_of_block k2) hn).trans k2, k3⟩
  have hk : ∀ p v, okY base w p.block → w.cell? p = some v → w'.cell? p = some v := fun p v h hc => hg.cell hc (hne _ h)
  have hgc : some gc ≠ row := fun he => by
    obtain ⟨cur, hcur⟩ := hr gc he.symm
    unfold Blo at hB
    rw [hB] at hcur
    simp only [Option.some.injEq, Obj.cells.injEq] at hcur
    exact absurd hcur.2.1 (by decide)
  exact ⟨n1, A2, n2, c2, A3, n3, c3, A4, n4, c4, A5, n5, c5, e, hb, (hg.block gc hB.lt hgc).trans hB, hn, hp, h2.stays IntR.stays ho hk, h3.stays UqR.stays ho hk, h4.stays CkR.stays ho hk, h5.stays FkR.stays ho hk, hc, hz⟩
theorem SchY.row {base : Nat} {w : World} {v : Value} {xs : List (Nat × List Value × Tb)} (h : SchY base w v xs) : ∀ k, v.ownBlock = some k → ∃ cur, w.heap[k]? = some (.cells cur 34) := fun k hk => by
  rcases h.1.2 with ⟨rfl, -⟩ | ⟨g, cap, cur, rfl, k1, k2, -⟩
  · cases hk
  · obtain rfl := Option.some.inj hk
    exact ⟨cur, k2⟩
/-- What append of one table leaves. -/
theorem SchY.app {base : Nat} {w w' : World} {v v' : Value} {xs : List (Nat × List Value × Tb)} {gc : Nat} {cs : List Value} {t : Tb} (h : SchY base w v xs) (ht : TabY base w gc cs t) (hn : gc ∉ xs.map (·.1))
    (h' : w'.ownsRow base 34 6 v' (xs.length + 1) ((xs.map (·.2.1)).flatten ++ cs)) (hg : w.grownBy w' v.ownBlock) : SchY base w' v' (xs ++ [(gc, cs, t)]) := by
  have hnd : ((xs ++ [(gc, cs, t)]).map (·.1)).Nodup := by
    rw [List.map_append, List.nodup_append]
    refine ⟨h.2.1, by simp, ?_⟩
    intro b hb c hc he
    have e2 : c = gc := by simpa using hc
    exact hn (by rw [← e2, ← he]; exact hb)
  refine ⟨by rw [List.length_append, List.map_append, List.flatten_append]; simpa using h', hnd, fun x hx => ?_⟩
  rcases List.mem_append.1 hx with hx | hx
  · exact (h.2.2 x hx).grown hg h.row
  · rw [List.mem_singleton.1 hx]
    exact ht.grown hg h.row
/-- One table, laid. -/
theorem SchY.one {base : Nat} {w : World} {gc : Nat} {cs : List Value} {t : Tb} (h : TabY base w gc cs t) (hb : base ≤ w.heap.size) : SchY base (w.alloc (.cells cs.toArray 34)) (.slice (some ⟨w.heap.size, 0, none⟩) 1 1) [(gc, cs, t)] := by
  obtain ⟨x0, x1, x2, x3, x4, x5, rfl⟩ := h.len
  refine ⟨⟨rfl, .inr ⟨w.heap.size, 1, _, rfl, hb, Go.heap_alloc_last w _, Nat.le_refl _, by simp [maxLen], rfl, by simp⟩⟩, by simp, fun x hx => ?_⟩
  rw [List.mem_singleton.1 hx]
  exact h.hold (Hold.alloc base w _)
/-- A table with a key and one reference, laid. -/
theorem mkTab {base : Nat} {w : World} {gc gk gf gx : Nat} (nm tn : ByteArray) (cols : List Cl) (d u : Int) (df : Bool) (n : Nat) (hn : cols.length = n) (h0 : 2 ≤ n)
    (h1 : Blo w gc (cols.map Cl.cells).flatten 47) (h2 : Blo w gk [.int .i64 0] 2) (h3 : Blo w gf [.int .i64 1] 2) (h4 : Blo w gx [.slice (some ⟨gf, 0, none⟩) 1 1, .string tn, .int .i64 d, .int .i64 u, .bool df] 49)
    (b1 : base ≤ gc) (b2 : base ≤ gk) (b3 : base ≤ gf) (b4 : base ≤ gx) (hz : (⟨nm, cols, [0], [], [], [⟨[1], tn, d, u, df⟩]⟩ : Tb).sz ≤ 1000) :
    TabY base w gc [.string nm, .slice (some ⟨gc, 0, none⟩) n n, .slice (some ⟨gk, 0, none⟩) 1 1, .slice none 0 0, .slice none 0 0, .slice (some ⟨gx, 0, none⟩) 1 1] ⟨nm, cols, [0], [], [], [⟨[1], tn, d, u, df⟩]⟩ := by
  have hf := Sl.laid (R := FkR) (sz := 5) (ok := okY base w) (css := [[.slice (some ⟨gf, 0, none⟩) 1 1, .string tn, .int .i64 d, .int .i64 u, .bool df]]) (ds := [⟨[1], tn, d, u, df⟩]) (g := gx) (T := 49) h4 rfl ⟨b4, _, _, h4, by decide, by decide⟩ fun i hi hd => by
    obtain rfl : i = 0 := by simpa using hi
    exact ⟨rfl, _, _, _, rfl, intsY [1] h3 b3, Nat.le_refl _⟩
  exact ⟨n, _, 1, 1, none, 0, 0, none, 0, 0, _, 1, 1, rfl, b1, h1, hn, h0, intsY [0] h2 b2, Sl.nilY, Sl.nilY, hf, by omega, hz⟩
theorem TabY.lt {base : Nat} {w : World} {gc : Nat} {cs : List Value} {t : Tb} (h : TabY base w gc cs t) : gc < w.heap.size := by
  obtain ⟨_, _, _, _, _, _, _, _, _, _, _, _, _, _, _, hB, _⟩ := h
  exact hB.lt
theorem cellsY (w : World) (l : List Value) (t : TypeId) {g : Nat} (hg : g = w.heap.size) : ∀ j u, l[j]? = some u → (w.alloc (.cells l.toArray t)).cell? ((⟨g, 0, none⟩ : Addr).add j) = some u := by
  subst hg
  intro j u hj
  rw [addr_add, Nat.zero_add, cell_of_row _ _ _ _ _ _ (Go.heap_alloc_last w _)]
  simpa using hj
theorem but_above {w w' w'' : World} {R : Nat} (h : But R w w') (hb : Below w.heap.size w' w'') : But R w w'' :=
  ⟨hb.os.trans h.os, hb.tape.trans h.tape, hb.output.trans h.output, Nat.le_trans h.size hb.size, fun k hk hr => (hb.block k hk).trans (h.block k hk hr)⟩
theorem rdr_above {w w' w'' : World} {R : Nat} {a : Option Addr} {len cap : Nat} {zs : List Int} (h0 : Rdr w R a len cap zs) (h : Rdr w' R a len cap zs) (hb : Below w.heap.size w' w'') : Rdr w'' R a len cap zs := by
  have hR : R < w.heap.size := cell_lt h0.code
  obtain ⟨i, hi, hi1⟩ := h.place
  refine ⟨(hb.cell (p := ⟨R, 0, none⟩) hR).trans h.code, ⟨i, hi, (hb.cell (p := ⟨R, 1, none⟩) hR).trans hi1⟩, (hb.frozen (p := ⟨R, 1, none⟩) hR).trans h.free, ?_, h.apart⟩
  rcases h0.row with e | ⟨x, rfl, hl, hm, hz, hcell, hwz⟩
  · exact .inl e
  · rcases h.row with ⟨e, _⟩ | ⟨x', e, _, _, _, hcell', _⟩
    · cases e
    · cases e
      exact .inr ⟨x, rfl, hl, hm, hz, fun i hi => (hb.cell (cell_lt (hcell i hi))).trans (hcell' i hi), hwz⟩
/-- The list of tables so far. -/
def SB (w w' : World) (R : Nat) (a : Option Addr) (len cap : Nat) (zs : List Int) (v : Value) (n m : Nat) : Prop := ∃ xs, SchY w.heap.size w' v xs ∧ 0 < xs.length ∧ xs.length ≤ n ∧ (∀ x ∈ xs, x.2.2.sz ≤ m) ∧ But R w w' ∧ Rdr w' R a len cap zs
theorem SB.but {w w' w'' : World} {R : Nat} {a : Option Addr} {len cap : Nat} {zs : List Int} {v : Value} {n m : Nat} (h : SB w w' R a len cap zs v n m) (hb : But R w' w'') (hr : Rdr w'' R a len cap zs) (hR : R < w.heap.size) : SB w w'' R a len cap zs v n m := by
  obtain ⟨xs, h1, h2, h3, h4, h5, h6⟩ := h
  exact ⟨xs, h1.hold (Hold.but hb hR), h2, h3, h4, h5.trans hb, hr⟩
theorem SB.mono {w w' : World} {R : Nat} {a : Option Addr} {len cap : Nat} {zs : List Int} {v : Value} {n m n' m' : Nat} (h : SB w w' R a len cap zs v n m) (hn : n ≤ n') (hm : m ≤ m') : SB w w' R a len cap zs v n' m' := by
  obtain ⟨xs, h1, h2, h3, h4, h5, h6⟩ := h
  exact ⟨xs, h1, h2, by omega, fun x hx => Nat.le_trans (h4 x hx) hm, h5, h6⟩
theorem SB.rdr {w w' : World} {R : Nat} {a : Option Addr} {len cap : Nat} {zs : List Int} {v : Value} {n m : Nat} (h : SB w w' R a len cap zs v n m) : Rdr w' R a len cap zs := by
  obtain ⟨_, _, _, _, _, _, hr⟩ := h; exact hr
/-- What append of one table leaves. -/
theorem SB.add {w q w' : World} {R : Nat} {a : Option Addr} {len cap : Nat} {zs : List Int} {v v' : Value} {xs : List (Nat × List Value × Tb)} {gc n m : Nat} {cs : List Value} {t : Tb} (h0 : Rdr w R a len cap zs) (hs : SchY w.heap.size q v xs) (ht : TabY w.heap.size q gc cs t) (hn : gc ∉ xs.map (·.1))
    (hl : xs.length ≤ n) (hm : ∀ x ∈ xs, x.2.2.sz ≤ m) (hm2 : t.sz ≤ m) (hb : But R w q) (hr : Rdr q R a len cap zs)
    (h' : w'.ownsRow w.heap.size 34 6 v' (xs.length + 1) ((xs.map (·.2.1)).flatten ++ cs)) (hg : q.grownBy w' v.ownBlock) : SB w w' R a len cap zs v' (n + 1) m := by
  have hB : Below w.heap.size q w' := (Below.refl w.heap.size q).grown hg hb.size fun k hk => (hs.1.lt k hk).1
  refine ⟨_, hs.app ht hn h' hg, by simp, by simpa using hl, fun x hx => ?_, but_above hb hB, rdr_above h0 hr hB⟩
  rcases List.mem_append.1 hx with hx | hx
  · exact hm x hx
  · rw [List.mem_singleton.1 hx]; exact hm2
/-- A table that refers to one, laid in two pieces between which is drawn. -/
theorem SB.table {w z1 z4 : World} {R : Nat} {a : Option Addr} {len cap : Nat} {zs : List Int} {v : Value} {n m : Nat} (h : SB w z1 R a len cap zs v n m) (hR : R < w.heap.size) (nm tn : ByteArray) (cols : List Cl) (d u : Int) (df : Bool) (hc : cols.length = 2)
    (hb : But R (((z1.alloc (.cells (cols.map Cl.cells).flatten.toArray 47)).alloc (.cells #[.int .i64 0] 2)).alloc (.cells #[.int .i64 1] 2)) z4) (hr : Rdr z4 R a len cap zs) (hz : (⟨nm, cols, [0], [], [], [⟨[1], tn, d, u, df⟩]⟩ : Tb).sz ≤ 1000) (box : List Value) (S : List Value) :
    ∃ xs, SchY w.heap.size (((z4.alloc (.cells #[.slice (some ⟨z1.heap.size + 1 + 1, 0, none⟩) 1 1, .string tn, .int .i64 d, .int .i64 u, .bool df] 49)).alloc (.cells box.toArray 34)).alloc (.cells S.toArray 34)) v xs ∧ 0 < xs.length ∧ xs.length ≤ n ∧ (∀ x ∈ xs, x.2.2.sz ≤ m) ∧ z1.heap.size ∉ xs.map (·.1) ∧
      TabY w.heap.size (((z4.alloc (.cells #[.slice (some ⟨z1.heap.size + 1 + 1, 0, none⟩) 1 1, .string tn, .int .i64 d, .int .i64 u, .bool df] 49)).alloc (.cells box.toArray 34)).alloc (.cells S.toArray 34)) z1.heap.size
        [.string nm, .slice (some ⟨z1.heap.size, 0, none⟩) 2 2, .slice (some ⟨z1.heap.size + 1, 0, none⟩) 1 1, .slice none 0 0, .slice none 0 0, .slice (some ⟨z4.heap.size, 0, none⟩) 1 1] ⟨nm, cols, [0], [], [], [⟨[1], tn, d, u, df⟩]⟩ ∧
      But R w (((z4.alloc (.cells #[.slice (some ⟨z1.heap.size + 1 + 1, 0, none⟩) 1 1, .string tn, .int .i64 d, .int .i64 u, .bool df] 49)).alloc (.cells box.toArray 34)).alloc (.cells S.toArray 34)) ∧
      Rdr (((z4.alloc (.cells #[.slice (some ⟨z1.heap.size + 1 + 1, 0, none⟩) 1 1, .string tn, .int .i64 d, .int .i64 u, .bool df] 49)).alloc (.cells box.toArray 34)).alloc (.cells S.toArray 34)) R a len cap zs := by
  obtain ⟨xs, h1, h2, h3, h4, h5, h6⟩ := h
  have hw : w.heap.size ≤ z1.heap.size := h5.size
  obtain ⟨C, eC⟩ : ∃ C, (cols.map Cl.cells).flatten = C := ⟨_, rfl⟩
  rw [eC] at hb
  have b1 := Blo.new z1 C 47
  have b2 := Blo.new (z1.alloc (.cells C.toArray 47)) [.int .i64 0] 2
  have b3 := Blo.new ((z1.alloc (.cells C.toArray 47)).alloc (.cells [.int .i64 0].toArray 2)) [.int .i64 1] 2
  rw [show (z1.alloc (.cells C.toArray 47)).heap.size = z1.heap.size + 1 by simp] at b2
  rw [show ((z1.alloc (.cells C.toArray 47)).alloc (.cells [.int .i64 0].toArray 2)).heap.size = z1.heap.size + 1 + 1 by simp] at b3
  have k1 := Hold.alloc w.heap.size z1 (.cells C.toArray 47)
  have k2 := Hold.alloc w.heap.size (z1.alloc (.cells C.toArray 47)) (.cells [.int .i64 0].toArray 2)
  have k3 := Hold.alloc w.heap.size ((z1.alloc (.cells C.toArray 47)).alloc (.cells [.int .i64 0].toArray 2)) (.cells [.int .i64 1].toArray 2)
  have kb : Hold w.heap.size (((z1.alloc (.cells C.toArray 47)).alloc (.cells [.int .i64 0].toArray 2)).alloc (.cells [.int .i64 1].toArray 2)) z4 := Hold.but hb hR
  have b4 := Blo.new z4 [.slice (some ⟨z1.heap.size + 1 + 1, 0, none⟩) 1 1, .string tn, .int .i64 d, .int .i64 u, .bool df] 49
  have hz4 : z1.heap.size + 1 + 1 + 1 ≤ z4.heap.size := by have := hb.size; simpa using this
  obtain ⟨X, eX⟩ : ∃ X, (Obj.cells #[.slice (some ⟨z1.heap.size + 1 + 1, 0, none⟩) 1 1, .string tn, .int .i64 d, .int .i64 u, .bool df] 49) = X := ⟨_, rfl⟩
  rw [eX] at b4 ⊢
  have q1 := Hold.alloc w.heap.size z4 X
  have q2 := Hold.alloc w.heap.size (z4.alloc X) (.cells box.toArray 34)
  have q3 := Hold.alloc w.heap.size ((z4.alloc X).alloc (.cells box.toArray 34)) (.cells S.toArray 34)
  have qq := q1.trans (q2.trans q3)
  refine ⟨xs, h1.hold (((k1.trans k2).trans k3).trans (kb.trans qq)), h2, h3, h4, fun hx => ?_, mkTab nm tn cols d u df 2 hc (by omega) (by rw [eC]; exact b1.hold hw ((k2.trans k3).trans (kb.trans qq))) (b2.hold (by omega) (k3.trans (kb.trans qq))) (b3.hold (by omega) (kb.trans qq)) (b4.hold (by omega) (q2.trans q3)) hw (by omega) (by omega) (by omega) hz,
    (((((h5.alloc _).alloc _).alloc _).trans hb).alloc _).alloc _ |>.alloc _, ((hr.alloc _).alloc _).alloc _⟩
  obtain ⟨x, hx, e⟩ := List.mem_map.1 hx
  have := (h1.2.2 x hx).lt
  omega
theorem TabY.len6 {base : Nat} {w : World} {gc : Nat} {cs : List Value} {t : Tb} (h : TabY base w gc cs t) : cs.length = 6 := by
  obtain ⟨_, _, _, _, _, _, rfl⟩ := h.len; rfl
theorem TabY.noKey {base : Nat} {w : World} {gc : Nat} {cs : List Value} {t : Tb} (h : TabY base w gc cs t) : TabY base w gc (cs.set 2 (.slice none 0 0)) { t with key := [] } := by
  obtain ⟨n1, A2, n2, c2, A3, n3, c3, A4, n4, c4, A5, n5, c5, rfl, hb, hB, hn, hp, h2, h3, h4, h5, ⟨k2, k3, k4, k5⟩, hz⟩ := h
  refine ⟨n1, none, 0, 0, A3, n3, c3, A4, n4, c4, A5, n5, c5, rfl, hb, hB, hn, hp, Sl.nilY, h3, h4, h5, ⟨Nat.le_refl _, k3, k4, k5⟩, ?_⟩
  unfold Tb.sz at hz ⊢
  simp only [List.length_nil]
  omega
theorem TabY.named {base : Nat} {w : World} {gc : Nat} {cs : List Value} {t : Tb} (h : TabY base w gc cs t) (nm : ByteArray) (hz : ({ t with name := nm } : Tb).sz ≤ 1000) : TabY base w gc (cs.set 0 (.string nm)) { t with name := nm } := by
  obtain ⟨n1, A2, n2, c2, A3, n3, c3, A4, n4, c4, A5, n5, c5, rfl, hb, hB, hn, hp, h2, h3, h4, h5, hc, _⟩ := h
  exact ⟨n1, A2, n2, c2, A3, n3, c3, A4, n4, c4, A5, n5, c5, rfl, hb, hB, hn, hp, h2, h3, h4, h5, hc, hz⟩
theorem SchY.head {base : Nat} {w : World} {v : Value} {x : Nat × List Value × Tb} {xs : List (Nat × List Value × Tb)} (h : SchY base w v (x :: xs)) : ∃ g cap, v = .slice (some ⟨g, 0, none⟩) (xs.length + 1) cap ∧ base ≤ g ∧ (∀ k u, x.2.1[k]? = some u → w.cell? ⟨g, k, none⟩ = some u) ∧ (∀ k, w.frozen? ⟨g, k, none⟩ = false) ∧ TC w g ∧ g ≠ x.1 ∧
    (∀ k u cs' t', k < 6 → cs' = x.2.1.set k u → TabY base (w.setCell ⟨g, k, none⟩ u) x.1 cs' t' → SchY base (w.setCell ⟨g, k, none⟩ u) v ((x.1, cs', t') :: xs)) := by
  obtain ⟨⟨h1, h2⟩, h3, h4⟩ := h
  have hx := h4 x (List.mem_cons_self ..)
  have hx6 := hx.len6
  rcases h2 with ⟨-, h2⟩ | ⟨g, cap, cur, rfl, k1, k2, k3, k4, k5, k6⟩
  · simp at h2
  have hne : ∀ y ∈ x :: xs, g ≠ y.1 := fun y hy => by
    rintro rfl
    obtain ⟨_, _, _, _, _, _, _, _, _, _, _, _, _, _, _, hB, _⟩ := h4 y hy
    unfold Blo at hB
    rw [hB] at k2
    simp only [Option.some.injEq, Obj.cells.injEq] at k2
    exact absurd k2.2.1 (by decide)
  have htc : TC w g := ⟨_, _, k2, .inl rfl⟩
  have hlen : (x :: xs).length = xs.length + 1 := rfl
  rw [hlen] at k3 k6 h1
  refine ⟨g, cap, rfl, k1, fun k u hk => ?_, fun k => by simp [World.frozen?, k2], htc, hne x (List.mem_cons_self ..), fun k u cs' t' hk e ht => ?_⟩
  · have hk6 : k < 6 := by rw [← hx6]; exact (List.getElem?_eq_some_iff.1 hk).1
    have e : (cur.toList.take ((xs.length + 1) * 6))[k]? = some u := by rw [k6, List.map_cons, List.flatten_cons, List.getElem?_append_left (by omega)]; exact hk
    rw [List.getElem?_take, if_pos (by omega)] at e
    simp only [World.cell?, k2]
    rw [← Array.getElem?_toList]
    simpa using e
  · subst e
    have hcur : (xs.length + 1) * 6 ≤ cur.size := by rw [k5]; exact Nat.mul_le_mul_right _ k3
    refine ⟨⟨?_, .inr ⟨g, cap, cur.set! k u, rfl, k1, ?_, k3, k4, by simpa using k5, ?_⟩⟩, h3, fun y hy => ?_⟩
    · rw [List.map_cons, List.flatten_cons, List.length_append] at h1 ⊢
      rw [List.length_set]
      exact h1
    · unfold World.setCell
      simp [Array.getElem?_modify, k2]
    · rw [List.map_cons, List.flatten_cons] at k6 ⊢
      show List.take ((xs.length + 1) * 6) (cur.set! k u).toList = _
      rw [show (cur.set! k u).toList = cur.toList.set k u by simp, List.take_set, k6, List.set_append, if_pos (by omega)]
    · rcases List.mem_cons.1 hy with rfl | hy
      · exact ht
      · exact (h4 y (List.mem_cons_of_mem _ hy)).set htc (hne y (List.mem_cons_of_mem _ hy)) u
theorem SchY.kind {base : Nat} {w : World} {v : Value} {x : Nat × List Value × Tb} {xs : List (Nat × List Value × Tb)} (h : SchY base w v (x :: xs)) : ∃ c0 cs0, x.2.2.cols = c0 :: cs0 ∧ base ≤ x.1 ∧ (∃ n1, x.2.1[1]? = some (.slice (some ⟨x.1, 0, none⟩) n1 n1) ∧ 0 < n1) ∧ (∃ u, w.cell? ⟨x.1, 1, none⟩ = some u) ∧ w.frozen? ⟨x.1, 1, none⟩ = false ∧
    ∀ z, SchY base (w.setCell ⟨x.1, 1, none⟩ (.int .i64 z)) v ((x.1, x.2.1, { x.2.2 with cols := { c0 with kind := z } :: cs0 }) :: xs) := by
  obtain ⟨⟨h1, h2⟩, h3, h4⟩ := h
  obtain ⟨gx, cx, tx⟩ := x
  obtain ⟨n1, A2, n2, c2, A3, n3, c3, A4, n4, c4, A5, n5, c5, e, hb, hB, hn, hp, g2, g3, g4, g5, hc, hz⟩ := h4 _ (List.mem_cons_self ..)
  dsimp only at e hb hB hn g2 g3 g4 g5 hz ⊢
  subst e
  obtain ⟨c0, cs0, ec⟩ : ∃ c0 cs0, tx.cols = c0 :: cs0 := by
    cases hcl : tx.cols with
    | nil => rw [hcl] at hn; simp at hn; omega
    | cons a b => exact ⟨a, b, rfl⟩
  have hB' := hB
  rw [ec] at hB'
  have htc : TC w gx := ⟨_, _, hB, .inr rfl⟩
  refine ⟨c0, cs0, ec, hb, ⟨n1, rfl, by omega⟩, ⟨.int .i64 c0.kind, hB'.cell 1 _ (by simp [Cl.cells])⟩, hB'.free 1, fun z => ⟨⟨h1, ?_⟩, h3, fun y hy => ?_⟩⟩
  · rcases h2 with h2 | ⟨g, cap, cur, k0, k1, k2, k3⟩
    · exact .inl h2
    · refine .inr ⟨g, cap, cur, k0, k1, (Below.heap_setCell _ _ _ _ fun he => ?_).trans k2, k3⟩
      have he : g = gx := he
      subst he
      unfold Blo at hB
      rw [hB] at k2
      simp only [Option.some.injEq, Obj.cells.injEq] at k2
      exact absurd k2.2.1 (by decide)
  · rcases List.mem_cons.1 hy with rfl | hy
    · have ho : ∀ b, okY base w b → okY base (w.setCell ⟨gx, 1, none⟩ (.int .i64 z)) b := fun b h => h.set htc _
      have hk : ∀ q u, okY base w q.block → w.cell? q = some u → (w.setCell ⟨gx, 1, none⟩ (.int .i64 z)).cell? q = some u := fun q u h hc => (World.cell?_setCell_other _ _ _ _ (fun e => h.ne htc (by rw [← e]))).trans hc
      refine ⟨n1, A2, n2, c2, A3, n3, c3, A4, n4, c4, A5, n5, c5, rfl, hb, ?_, ?_, hp, g2.stays IntR.stays ho hk, g3.stays UqR.stays ho hk, g4.stays CkR.stays ho hk, g5.stays FkR.stays ho hk, hc, ?_⟩
      · exact hB'.put 1 (.int .i64 z)
      · rw [ec] at hn; exact hn
      · unfold Tb.sz at hz ⊢
        rw [ec] at hz
        exact hz
    · have hne : gx ≠ y.1 := fun e => by
        have h3' : gx ∉ xs.map (·.1) := (List.nodup_cons.1 h3).1
        exact h3' (by rw [e]; exact List.mem_map.2 ⟨y, hy, rfl⟩)
      exact (h4 y (List.mem_cons_of_mem _ hy)).set (p := ⟨gx, 1, none⟩) htc hne _
end Go.Proofs.Ytjlolfikaahobaa
