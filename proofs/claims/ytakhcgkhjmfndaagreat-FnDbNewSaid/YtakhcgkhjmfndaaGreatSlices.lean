/-
  Slices whose elements are structs of several cells: how they read, how they stay, and how one among the arguments is opened.
-/
import Derived.Test.YtakhcgkhjmfndaaGreatMem
import Derived.Deep.Slices
import Derived.Deep.WholeRow
namespace Go.Proofs.YtakhcgkhjmfndaaGreat
open Go.ChangeShapes Go.WideShapes Go.ChangeAt Go.RowKit Go.Joins Go.Deep

/-- A slice of n elements of sz cells each: the cells of the i-th are xss[i]. -/
def Cellz (w : World) (sz : Nat) (A : Option Addr) (n : Nat) (xss : List (List Value)) : Prop :=
  xss.length = n ∧ (∀ c ∈ xss, c.length = sz) ∧
  (0 < n → ∃ b off, A = some ⟨b, off, none⟩ ∧ ∀ (i : Nat) (h : i < xss.length) (j : Nat) (h' : j < (xss[i]).length), w.cell? ⟨b, off + (i * sz + j), none⟩ = some (xss[i])[j])

theorem Cellz.keep {w w' : World} {sz : Nat} {A : Option Addr} {n : Nat} {xss : List (List Value)} (h : Cellz w sz A n xss) (hk : ∀ p v, w.cell? p = some v → w'.cell? p = some v) : Cellz w' sz A n xss :=
  ⟨h.1, h.2.1, fun hn => by
    obtain ⟨b, off, e, hc⟩ := h.2.2 hn
    exact ⟨b, off, e, fun i hi j hj => hk _ _ (hc i hi j hj)⟩⟩
theorem Cellz.below {w w' : World} {sz : Nat} {A : Option Addr} {n : Nat} {xss : List (List Value)} (h : Cellz w sz A n xss) (hb : Below w.heap.size w w') : Cellz w' sz A n xss :=
  h.keep fun _ _ hp => (hb.cell (cell_lt hp)).trans hp
theorem Cellz.drew {w : World} {sz : Nat} {A : Option Addr} {n : Nat} {xss : List (List Value)} (h : Cellz w sz A n xss) : Cellz w.drew sz A n xss := h
theorem Cellz.drewN {w : World} {sz : Nat} {A : Option Addr} {n : Nat} {xss : List (List Value)} (h : Cellz w sz A n xss) (k : Nat) : Cellz (w.drewN k) sz A n xss := h
theorem Cellz.alloc {w : World} {sz : Nat} {A : Option Addr} {n : Nat} {xss : List (List Value)} (h : Cellz w sz A n xss) (o : Obj) : Cellz (w.alloc o) sz A n xss :=
  h.below ((Below.refl _ w).alloc (Nat.le_refl _) o)

theorem addr_add (b off i : Nat) : (⟨b, off, none⟩ : Addr).add i = ⟨b, off + i, none⟩ := by
  unfold Addr.add; split
  · subst_vars; rfl
  · rfl

/-- A slice of structs among the arguments. -/
theorem cellz_of_trod {H : Type} {enc : TypeId × Value → H} {P : Program} {W : World} {fuel : Nat} {t e : TypeId} {sz : Nat} {a : Option Addr} {len cap : Nat} {x : DataW H × List MemPlace}
    (ht : P.underlying t = some (.slice e)) (hC : P.cellsOf e = sz) (h0 : 0 < sz)
    (h : DataW.trod enc P W 0 (fun _ => true) true fuel t [.slice a len cap] = some x) :
    ∃ xss, Cellz W sz a len xss ∧ len ≤ maxLen ∧ ∀ c ∈ xss, ∃ n y, DataW.trod enc P W 0 (fun _ => true) true n e c = some y := by
  rcases open_slice ht h with ⟨hcs, _⟩ | ⟨ad, l, c, m, n, D, Pl, hcs, _, hl, hm, hmm, _, hi⟩
  · simp at hcs
    obtain ⟨rfl, rfl, rfl⟩ := hcs
    exact ⟨[], ⟨rfl, by simp, fun h => absurd h (by omega)⟩, by omega, by simp⟩
  · simp at hcs
    obtain ⟨rfl, rfl, rfl⟩ := hcs
    rw [hC] at hi
    simp at hmm
    have hch : ∀ i, ∃ cs', i < len → W.cells? 0 (ad.add (i * sz)) sz = some cs' ∧ ∃ n y, DataW.trod enc P W 0 (fun _ => true) true n e cs' = some y := by
      intro i
      by_cases hlt : i < len
      · obtain ⟨cs', h1, h2⟩ := hi i (by omega)
        exact ⟨cs', fun _ => ⟨h1, _, _, h2⟩⟩
      · exact ⟨[], fun h => absurd h hlt⟩
    obtain ⟨f, hf⟩ := Classical.axiomOfChoice hch
    refine ⟨(List.range len).map f, ⟨by simp, ?_, ?_⟩, by omega, ?_⟩
    · intro c hc
      simp only [List.mem_map, List.mem_range] at hc
      obtain ⟨i, hi, rfl⟩ := hc
      exact (World.cells?_some (hf i hi).1).2.1
    · intro hn
      obtain ⟨b, off, spot⟩ := ad
      have hspot : spot = none := by
        obtain ⟨_, hcl, hat⟩ := World.cells?_some (hf 0 hn).1
        have h1 := hat 0 h0
        rw [List.getElem?_eq_getElem (by omega)] at h1
        have := World.cell?_spot h1
        simpa [Addr.add] using this
      subst hspot
      refine ⟨b, off, rfl, fun i hi j hj => ?_⟩
      simp only [List.length_map, List.length_range] at hi
      simp only [List.getElem_map, List.getElem_range] at hj ⊢
      obtain ⟨_, hcl, hat⟩ := World.cells?_some (hf i hi).1
      have h1 := hat j (by omega)
      rw [List.getElem?_eq_getElem hj, addr_add, addr_add] at h1
      rw [← h1, Nat.add_assoc]
    · intro c hc
      simp only [List.mem_map, List.mem_range] at hc
      obtain ⟨i, hi, rfl⟩ := hc
      exact (hf i hi).2

/-- The cells of a Val. -/
theorem val_of_trod {H : Type} {enc : TypeId × Value → H} {P : Program} {W : World} {fuel : Nat} {t : TypeId} {f0 f1 f2 : Field} {cs : List Value} {x : DataW H × List MemPlace}
    (hs : P.underlying t = some (.struct #[f0, f1, f2])) (hC : P.cellsOf t = 3) (o : f0.offset = 0 ∧ f1.offset = 1 ∧ f2.offset = 2) (hc0 : P.cellsOf f0.type = 1) (hc1 : P.cellsOf f1.type = 1) (hc2 : P.cellsOf f2.type = 1)
    (h0 : P.underlying f0.type = some (.int .i64)) (h1 : P.underlying f1.type = some (.int .i64)) (h2 : P.underlying f2.type = some .string)
    (h : DataW.trod enc P W 0 (fun _ => true) true fuel t cs = some x) :
    ∃ k n s, cs = [.int .i64 k, .int .i64 n, .string s] ∧ IsVal k n s := by
  obtain ⟨xs, n, _, _, hl, hlen, hf⟩ := DataW.trod_struct hs h
  rw [hC] at hl
  match cs, hl, xs, hlen with
  | [c0, c1, c2], _, [y0, y1, y2], _ =>
    have g0 := hf 0 f0 rfl
    have g1 := hf 1 f1 rfl
    have g2 := hf 2 f2 rfl
    rw [o.1, hc0] at g0
    rw [o.2.1, hc1] at g1
    rw [o.2.2, hc2] at g2
    simp at g0 g1 g2
    obtain ⟨k, q0, -, wk⟩ := DataW.trod_int h0 g0
    obtain ⟨n, q1, -, wn⟩ := DataW.trod_int h1 g1
    obtain ⟨s, q2, -, ws⟩ := DataW.trod_string h2 g2
    simp at q0 q1 q2
    subst q0 q1 q2
    exact ⟨k, n, s, rfl, wk, wn, ws⟩

/-- The cells of a Tok. -/
theorem tok_of_trod {H : Type} {enc : TypeId × Value → H} {P : Program} {W : World} {fuel : Nat} {t : TypeId} {g0 g1 g2 f0 f1 f2 : Field} {cs : List Value} {x : DataW H × List MemPlace}
    (ht : P.underlying t = some (.struct #[g0, g1, g2])) (hCt : P.cellsOf t = 5) (ot : g0.offset = 0 ∧ g1.offset = 1 ∧ g2.offset = 2) (hd0 : P.cellsOf g0.type = 1) (hd1 : P.cellsOf g1.type = 1) (hd2 : P.cellsOf g2.type = 3)
    (k0 : P.underlying g0.type = some (.int .i64)) (k1 : P.underlying g1.type = some (.int .i64))
    (hs : P.underlying g2.type = some (.struct #[f0, f1, f2])) (o : f0.offset = 0 ∧ f1.offset = 1 ∧ f2.offset = 2) (hc0 : P.cellsOf f0.type = 1) (hc1 : P.cellsOf f1.type = 1) (hc2 : P.cellsOf f2.type = 1)
    (h0 : P.underlying f0.type = some (.int .i64)) (h1 : P.underlying f1.type = some (.int .i64)) (h2 : P.underlying f2.type = some .string)
    (h : DataW.trod enc P W 0 (fun _ => true) true fuel t cs = some x) :
    ∃ k c vk vn vs, cs = [.int .i64 k, .int .i64 c, .int .i64 vk, .int .i64 vn, .string vs] ∧ (Lit.int .i64 k).wf = true ∧ (Lit.int .i64 c).wf = true ∧ IsVal vk vn vs := by
  obtain ⟨xs, n, _, _, hl, hlen, hf⟩ := DataW.trod_struct ht h
  rw [hCt] at hl
  match cs, hl, xs, hlen with
  | [c0, c1, c2, c3, c4], _, [y0, y1, y2], _ =>
    have e0 := hf 0 g0 rfl
    have e1 := hf 1 g1 rfl
    have e2 := hf 2 g2 rfl
    rw [ot.1, hd0] at e0
    rw [ot.2.1, hd1] at e1
    rw [ot.2.2, hd2] at e2
    simp at e0 e1 e2
    obtain ⟨k, q0, -, wk⟩ := DataW.trod_int k0 e0
    obtain ⟨c, q1, -, wc⟩ := DataW.trod_int k1 e1
    obtain ⟨vk, vn, vs, q2, w2⟩ := val_of_trod hs hd2 o hc0 hc1 hc2 h0 h1 h2 e2
    simp at q0 q1 q2
    obtain ⟨rfl, rfl, rfl⟩ := q2
    subst q0 q1
    exact ⟨k, c, vk, vn, vs, rfl, wk, wc, w2⟩

/-- A block, known whole. -/
def Row (w : World) (g : Nat) (T : TypeId) (cs : Array Value) : Prop := w.heap[g]? = some (.cells cs T (0, 0))
theorem Row.set {w : World} {g : Nat} {T : TypeId} {cs : Array Value} (h : Row w g T cs) (i : Nat) (v : Value) : Row (w.setCell ⟨g, i, none⟩ v) g T (cs.setIfInBounds i v) := by
  unfold Row at h ⊢
  simp [World.setCell, Array.getElem?_modify, h]
theorem Row.cell {w : World} {g : Nat} {T : TypeId} {cs : Array Value} (h : Row w g T cs) (i : Nat) : w.cell? ⟨g, i, none⟩ = cs[i]? := cell_of_row w g i cs T (0, 0) h
theorem Row.free {w : World} {g : Nat} {T : TypeId} {cs : Array Value} (h : Row w g T cs) (i : Nat) : w.frozen? ⟨g, i, none⟩ = false := by
  unfold Row at h
  simp [World.frozen?, h]
theorem Row.below {w w' : World} {g : Nat} {T : TypeId} {cs : Array Value} (h : Row w g T cs) (hb : Below w.heap.size w w') : Row w' g T cs := (hb.block g (lt_of_block h)).trans h
theorem Row.new (w : World) (T : TypeId) (cs : Array Value) : Row (w.alloc (.cells cs T)) w.heap.size T cs := Go.heap_alloc_last w _

theorem Row.five {w : World} {g : Nat} {T : TypeId} {a0 a1 a2 a3 a4 : Value} (h : Row w g T #[a0, a1, a2, a3, a4]) :
    (w.cell? ⟨g, 0, none⟩ = some a0 ∧ w.cell? ⟨g, 1, none⟩ = some a1 ∧ w.cell? ⟨g, 2, none⟩ = some a2 ∧ w.cell? ⟨g, 3, none⟩ = some a3 ∧ w.cell? ⟨g, 4, none⟩ = some a4) ∧
    (w.frozen? ⟨g, 0, none⟩ = false ∧ w.frozen? ⟨g, 1, none⟩ = false ∧ w.frozen? ⟨g, 2, none⟩ = false ∧ w.frozen? ⟨g, 3, none⟩ = false ∧ w.frozen? ⟨g, 4, none⟩ = false) :=
  ⟨⟨h.cell 0, h.cell 1, h.cell 2, h.cell 3, h.cell 4⟩, ⟨h.free 0, h.free 1, h.free 2, h.free 3, h.free 4⟩⟩
theorem Row.alloc {w : World} {g : Nat} {T : TypeId} {cs : Array Value} (h : Row w g T cs) (o : Obj) : Row (w.alloc o) g T cs := (Below.heap_alloc w o g (lt_of_block h)).trans h
theorem Row.three {w : World} {g : Nat} {T : TypeId} {a0 a1 a2 : Value} (h : Row w g T #[a0, a1, a2]) :
    (w.cell? ⟨g, 0, none⟩ = some a0 ∧ w.cell? ⟨g, 1, none⟩ = some a1 ∧ w.cell? ⟨g, 2, none⟩ = some a2) ∧ (w.frozen? ⟨g, 0, none⟩ = false ∧ w.frozen? ⟨g, 1, none⟩ = false ∧ w.frozen? ⟨g, 2, none⟩ = false) :=
  ⟨⟨h.cell 0, h.cell 1, h.cell 2⟩, ⟨h.free 0, h.free 1, h.free 2⟩⟩
theorem Row.drew {w : World} {g : Nat} {T : TypeId} {cs : Array Value} (h : Row w g T cs) : Row w.drew g T cs := h
theorem Row.drewN {w : World} {g : Nat} {T : TypeId} {cs : Array Value} (h : Row w g T cs) (n : Nat) : Row (w.drewN n) g T cs := h
theorem Row.far {w : World} {g : Nat} {T : TypeId} {cs : Array Value} (h : Row w g T cs) {p : Addr} (hp : g ≠ p.block) (v : Value) : Row (w.setCell p v) g T cs := (Below.heap_setCell w p v g hp).trans h
theorem size1 (w : World) (o : Obj) : (w.alloc o).heap.size = w.heap.size + 1 := by simp
theorem Row.newAt (w : World) (T : TypeId) (cs : Array Value) (g : Nat) (hg : w.heap.size = g) : Row (w.alloc (.cells cs T)) g T cs := hg ▸ Row.new w T cs
theorem keep3 {w w' : World} {a0 a1 a2 : Addr} {v0 v1 v2 : Value} (h : w.cell? a0 = some v0 ∧ w.cell? a1 = some v1 ∧ w.cell? a2 = some v2) (hb : Below w.heap.size w w') : w'.cell? a0 = some v0 ∧ w'.cell? a1 = some v1 ∧ w'.cell? a2 = some v2 := by
  obtain ⟨h0, h1, h2⟩ := h
  exact ⟨(hb.cell (cell_lt h0)).trans h0, (hb.cell (cell_lt h1)).trans h1, (hb.cell (cell_lt h2)).trans h2⟩
/-- The first k elements of sz cells each are laid. -/
def Laid (cs : Array Value) (sz k : Nat) (xss : List (List Value)) : Prop := ∀ (i j : Nat) (v : Value) (c : List Value), i < k → xss[i]? = some c → c[j]? = some v → cs[i * sz + j]? = some v

theorem Laid.zero (cs : Array Value) (sz : Nat) (xss : List (List Value)) : Laid cs sz 0 xss := fun i _ _ _ h => by omega

theorem Laid.snoc5 {cs : Array Value} {k : Nat} {xss : List (List Value)} (h : Laid cs 5 k xss) (hz : ∀ c ∈ xss, c.length = 5) {v0 v1 v2 v3 v4 : Value} (hk : xss[k]? = some [v0, v1, v2, v3, v4]) (hs : k * 5 + 5 ≤ cs.size) :
    Laid (((((cs.setIfInBounds (k * 5) v0).setIfInBounds (k * 5 + 1) v1).setIfInBounds (k * 5 + 2) v2).setIfInBounds (k * 5 + 3) v3).setIfInBounds (k * 5 + 4) v4) 5 (k + 1) xss := by
  intro i j v c hi hc hj
  have hl := hz c (List.mem_of_getElem? hc)
  have hj5 : j < 5 := by obtain ⟨hj', _⟩ := List.getElem?_eq_some_iff.1 hj; omega
  by_cases e : i = k
  · subst e
    rw [hk] at hc
    cases hc
    have : j = 0 ∨ j = 1 ∨ j = 2 ∨ j = 3 ∨ j = 4 := by omega
    rcases this with rfl | rfl | rfl | rfl | rfl <;> simp at hj <;> subst hj <;> simp [Array.getElem?_setIfInBounds] <;> omega
  · have := h i j v c (by omega) hc hj
    simp only [Array.getElem?_setIfInBounds, Array.size_setIfInBounds]
    rw [if_neg (by omega), if_neg (by omega), if_neg (by omega), if_neg (by omega), if_neg (by omega)]
    exact this

/-- What is laid in a block reads as a slice. -/
theorem cellz_of_laid {w : World} {g : Nat} {T : TypeId} {cs : Array Value} {sz n : Nat} {xss : List (List Value)} (hr : Row w g T cs) (hl : Laid cs sz n xss) (hn : xss.length = n) (hz : ∀ c ∈ xss, c.length = sz) : Cellz w sz (some ⟨g, 0, none⟩) n xss :=
  ⟨hn, hz, fun _ => ⟨g, 0, rfl, fun i hi j hj => by
    rw [Nat.zero_add, hr.cell]
    exact hl i j _ _ (by omega) (List.getElem?_eq_getElem hi) (List.getElem?_eq_getElem hj)⟩⟩

/-- A part of what is laid in a block reads as a slice. -/
theorem cellz_of_mid {w : World} {g : Nat} {T : TypeId} {cs : Array Value} {sz n m : Nat} {xss : List (List Value)} (hr : Row w g T cs) (hl : Laid cs sz n xss) (hn : xss.length = n) (hz : ∀ c ∈ xss, c.length = sz) (hm : m ≤ n) : Cellz w sz (some ⟨g, m * sz, none⟩) (n - m) (xss.drop m) := by
  refine ⟨by simp [hn], fun c hc => hz c (List.mem_of_mem_drop hc), fun _ => ⟨g, m * sz, rfl, fun i hi j hj => ?_⟩⟩
  simp only [List.length_drop] at hi
  simp only [List.getElem_drop] at hj ⊢
  rw [hr.cell, ← Nat.add_assoc, ← Nat.add_mul]
  exact hl (m + i) j _ _ (by omega) (List.getElem?_eq_getElem (by omega)) (List.getElem?_eq_getElem hj)

theorem Laid.snoc3 {cs : Array Value} {n m : Nat} {xss : List (List Value)} (h : Laid cs 3 n xss) (hn : xss.length = n) (hz : ∀ c ∈ xss, c.length = 3) (hm : m ≤ n) (v0 v1 v2 : Value) (hs : m * 3 + 3 ≤ cs.size) :
    Laid (((cs.setIfInBounds (m * 3) v0).setIfInBounds (m * 3 + 1) v1).setIfInBounds (m * 3 + 2) v2) 3 (m + 1) (xss.take m ++ [[v0, v1, v2]]) := by
  intro i j v c hi hc hj
  have hlt : (xss.take m).length = m := by simp; omega
  by_cases e : i = m
  · subst e
    rw [List.getElem?_append_right (by omega), hlt] at hc
    simp at hc
    subst hc
    have hj3 : j < 3 := by obtain ⟨hj', _⟩ := List.getElem?_eq_some_iff.1 hj; simpa using hj'
    have : j = 0 ∨ j = 1 ∨ j = 2 := by omega
    rcases this with rfl | rfl | rfl <;> simp at hj <;> subst hj <;> simp [Array.getElem?_setIfInBounds] <;> omega
  · rw [List.getElem?_append_left (by omega), List.getElem?_take_of_lt (by omega)] at hc
    have hl := hz c (List.mem_of_getElem? hc)
    have hj3 : j < 3 := by obtain ⟨hj', _⟩ := List.getElem?_eq_some_iff.1 hj; omega
    have := h i j v c (by omega) hc hj
    simp only [Array.getElem?_setIfInBounds, Array.size_setIfInBounds]
    rw [if_neg (by omega), if_neg (by omega), if_neg (by omega)]
    exact this

end Go.Proofs.YtakhcgkhjmfndaaGreat
