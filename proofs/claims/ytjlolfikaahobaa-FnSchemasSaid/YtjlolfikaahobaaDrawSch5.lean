/-
  Contracts of the drawing of schemas, more: DrawTableOk.
-/
import Derived.Test.YtjlolfikaahobaaDrawSch4
import Derived.Deep.RegionLawGrows
import Derived.Lib.SmallJoins
namespace Go.Proofs.Ytjlolfikaahobaa
open Go.RowKit
set_option linter.unusedVariables false
set_option linter.unusedSimpArgs false

theorem flat_at6 : ∀ (l : List (List Value)) (i j : Nat) (hi : i < l.length), j < 6 → (∀ c ∈ l, c.length = 6) → l.flatten[i * 6 + j]? = l[i][j]? := by
  intro l
  induction l with
  | nil => intro i j hi; simp at hi
  | cons x l ih =>
    intro i j hi hj ha
    have hx := ha x (List.mem_cons_self ..)
    cases i with
    | zero => rw [List.flatten_cons, Nat.zero_mul, Nat.zero_add, List.getElem?_append_left (by omega)]; rfl
    | succ i =>
      rw [List.flatten_cons, List.getElem?_append_right (by rw [hx, Nat.succ_mul]; omega), hx, show (i + 1) * 6 + j - 6 = i * 6 + j by rw [Nat.succ_mul]; omega]
      exact ih i j (by simpa using hi) hj fun c hc => ha c (List.mem_cons_of_mem _ hc)
/-- The i-th table's cells. -/
theorem SchY.elem {base : Nat} {w : World} {v : Value} {xs : List (Nat × List Value × Tb)} (h : SchY base w v xs) {i : Nat} (hi : i < xs.length) : ∃ g cap, v = .slice (some ⟨g, 0, none⟩) xs.length cap ∧ base ≤ g ∧ xs.length ≤ cap ∧ ∀ j u, j < 6 → xs[i].2.1[j]? = some u → w.cell? ⟨g, i * 6 + j, none⟩ = some u := by
  rcases h.1.2 with ⟨rfl, h0⟩ | ⟨g, cap, cur, rfl, k1, k2, k3, k4, k5, k6⟩
  · omega
  refine ⟨g, cap, rfl, k1, k3, fun j u hj hu => ?_⟩
  have e := flat_at6 (xs.map (·.2.1)) i j (by simpa using hi) hj fun c hc => by
    obtain ⟨y, hy, rfl⟩ := List.mem_map.1 hc
    exact (h.2.2 y hy).len6
  rw [List.getElem_map, hu, ← k6, List.getElem?_take, if_pos (by have := Nat.mul_le_mul_right 6 (show i + 1 ≤ xs.length from hi); rw [Nat.succ_mul] at this; omega)] at e
  simp only [World.cell?, k2]
  rw [← Array.getElem?_toList]
  simpa using e
/-- What is there behind the stores into the answer's box. -/
theorem tabEnd {w W u : World} {b : Nat} {y0 y1 y2 y3 y4 y5 x0 x1 x2 x3 x4 x5 : Value} {T : TypeId} {cs : List Value} {t : Tb} {ok : Nat → Prop} (hB : Blo W b [y0, y1, y2, y3, y4, y5] T) (hT : TbR ok W cs t) (hne : ∀ c, ok c → c ≠ b) (h3 : Below b u W) (h0 : Below b w u) :
    Six ((((((W.setCell ⟨b, 0, none⟩ x0).setCell ⟨b, 1, none⟩ x1).setCell ⟨b, 2, none⟩ x2).setCell ⟨b, 3, none⟩ x3).setCell ⟨b, 4, none⟩ x4).setCell ⟨b, 5, none⟩ x5) b x0 x1 x2 x3 x4 x5 ∧ TbR ok ((((((W.setCell ⟨b, 0, none⟩ x0).setCell ⟨b, 1, none⟩ x1).setCell ⟨b, 2, none⟩ x2).setCell ⟨b, 3, none⟩ x3).setCell ⟨b, 4, none⟩ x4).setCell ⟨b, 5, none⟩ x5) cs t ∧ Below b w ((((((W.setCell ⟨b, 0, none⟩ x0).setCell ⟨b, 1, none⟩ x1).setCell ⟨b, 2, none⟩ x2).setCell ⟨b, 3, none⟩ x3).setCell ⟨b, 4, none⟩ x4).setCell ⟨b, 5, none⟩ x5) := by
  have hS := ((((((hB.put 0 x0).put 1 x1).put 2 x2).put 3 x3).put 4 x4).put 5 x5)
  have k : ∀ (W : World) (i : Nat) (x : Value), TbR ok W cs t → TbR ok (W.setCell ⟨b, i, none⟩ x) cs t := fun W i x h => TbR.stays _ _ _ _ _ _ h (fun _ h => h) fun p v hp hc => (World.cell?_setCell_other _ _ _ _ (fun e => hne _ hp (by rw [← e]))).trans hc
  refine ⟨(show Blo _ b [x0, x1, x2, x3, x4, x5] T from hS).six.1, k _ _ _ (k _ _ _ (k _ _ _ (k _ _ _ (k _ _ _ (k _ _ _ hT))))), ?_⟩
  exact (((((((h0.trans h3).setCell (Nat.le_refl _) _).setCell (Nat.le_refl _) _).setCell (Nat.le_refl _) _).setCell (Nat.le_refl _) _).setCell (Nat.le_refl _) _).setCell (Nat.le_refl _) _)
theorem cell_far {w : World} {p q : Addr} {v u : Value} (h : w.cell? q = some u) (hne : q.block ≠ p.block) : (w.setCell p v).cell? q = some u := (World.cell?_setCell_other _ _ _ _ (fun e => hne (by rw [e]))).trans h
theorem okV_small {k n : Int} {s : ByteArray} (h : okV k n s) : s.size ≤ 12 := by
  rcases h with ⟨-, -, rfl⟩ | ⟨-, -, -, rfl⟩ | ⟨-, -, h⟩
  · decide
  · decide
  · exact h
theorem sz_dflt (t : Tb) {c0 : Cl} {cs0 : List Cl} (h : t.cols = c0 :: cs0) (v : Vl) : ({ t with cols := { c0 with d := v } :: cs0 } : Tb).sz ≤ t.sz + v.s.size := by
  have e : szL Cl.sz ({ c0 with d := v } :: cs0) ≤ szL Cl.sz t.cols + v.s.size := by
    rw [h]; unfold szL; simp only [List.map_cons, List.sum_cons, List.length_cons, Cl.sz]; omega
  unfold Tb.sz
  dsimp only
  omega
theorem TabY.two {base : Nat} {w : World} {gc : Nat} {cs : List Value} {t : Tb} (h : TabY base w gc cs t) : ∀ x0 n1 x2 x3 x4 x5 g, cs = [x0, .slice g n1 n1, x2, x3, x4, x5] → (0 : Int) < (n1 : Nat) := by
  obtain ⟨n1, A2, n2, c2, A3, n3, c3, A4, n4, c4, A5, n5, c5, rfl, hb, hB, hn, hp, -⟩ := h
  intro x0 m x2 x3 x4 x5 g e
  simp at e
  omega
theorem TabY.capU {base : Nat} {w : World} {gc : Nat} {cs : List Value} {t : Tb} (h : TabY base w gc cs t) : ∀ x0 x1 x2 A n c x4 x5, cs = [x0, x1, x2, .slice A n c, x4, x5] → n = c := by
  obtain ⟨n1, A2, n2, c2, A3, n3, c3, A4, n4, c4, A5, n5, c5, rfl, hb, hB, hn, hp, h2, h3, h4, h5, hc, hz⟩ := h
  intro x0 x1 x2 A n c x4 x5 e
  simp at e
  omega
theorem sz_moreU (t : Tb) (v : Int) : ({ t with uniqs := t.uniqs ++ [⟨[v]⟩] } : Tb).sz ≤ t.sz + 2 := by
  have e : szL Uq.sz (t.uniqs ++ [⟨[v]⟩]) ≤ szL Uq.sz t.uniqs + 2 := by
    unfold szL; simp only [List.map_append, List.sum_append, List.length_append, List.map_cons, List.map_nil, List.sum_cons, List.sum_nil, Uq.sz, List.length_cons, List.length_nil]; omega
  unfold Tb.sz
  dsimp only
  omega
/-- A table read with other groups of columns of which values come once. -/
theorem TabY.tbU {base : Nat} {w : World} {gc : Nat} {x0 x1 x2 x3 x4 x5 : Value} {t : Tb} (h : TabY base w gc [x0, x1, x2, x3, x4, x5] t) {A : Option Addr} {n c : Nat} {us : List Uq} (hu : Sl UqR 1 (okY base w) w A n us) (hc : n ≤ c) : TbR (okF base w) w [x0, x1, x2, .slice A n c, x4, x5] { t with uniqs := us } := by
  obtain ⟨n1, A2, n2, c2, A3, n3, c3, A4, n4, c4, A5, n5, c5, e, hb, hB, rfl, hp, h2, h3, h4, h5, hcc, hz⟩ := h
  simp only [List.cons.injEq, and_true] at e
  obtain ⟨rfl, rfl, rfl, -, rfl, rfl⟩ := e
  have ho : ∀ b, okY base w b → okF base w b := fun b h => h.okF
  have hk : ∀ p v, okY base w p.block → w.cell? p = some v → w.cell? p = some v := fun p v _ hc => hc
  exact ⟨_, _, _, A2, n2, c2, A, n, c, A4, n4, c4, A5, n5, c5, rfl, Sl.laid hB (by simp) (okF_blo hb hB) (fun i hi hd => cols_flat _ i hi hd), h2.stays IntR.stays ho hk, hu.stays UqR.stays ho hk, h4.stays CkR.stays ho hk, h5.stays FkR.stays ho hk, ⟨Nat.le_refl _, hcc.1, hc, hcc.2.2⟩⟩
theorem TabY.uCells {base : Nat} {w : World} {gc : Nat} {x0 x1 x2 x4 x5 : Value} {A : Option Addr} {n c : Nat} {t : Tb} (h : TabY base w gc [x0, x1, x2, .slice A n c, x4, x5] t) :
    ∃ olds : List Value, olds.length = n ∧ (A = none → n = 0) ∧ (∀ b, A = some b → ∀ j u, olds[j]? = some u → w.cell? (b.add j) = some u) ∧ (∀ u ∈ olds, u.oneCell' = true) ∧ n ≤ 1000 ∧
      ∀ (w' : World) (g c' gi : Nat) (v : Int), Below w.heap.size w w' → w'.ownsRow w.heap.size 68 1 (.slice (some ⟨g, 0, none⟩) (n + 1) c') (n + 1) (olds ++ [.slice (some ⟨gi, 0, none⟩) 1 1]) → base ≤ w.heap.size → base ≤ gi → Blo w gi [.int .i64 v] 2 →
        Sl UqR 1 (okY base w') w' (some ⟨g, 0, none⟩) (n + 1) (t.uniqs ++ [⟨[v]⟩]) ∧ n + 1 ≤ c' := by
  obtain ⟨n1, A2, n2, c2, A3, n3, c3, A4, n4, c4, A5, n5, c5, e, hb, hB, hn, hp, h2, h3, h4, h5, hc, hz⟩ := h
  simp only [List.cons.injEq, and_true, Value.slice.injEq] at e
  obtain ⟨rfl, rfl, rfl, ⟨rfl, rfl, rfl⟩, rfl, rfl⟩ := e
  have hl := h3.1
  have hn1000 : n ≤ 1000 := by
    have : t.uniqs.length ≤ szL Uq.sz t.uniqs := by unfold szL; omega
    unfold Tb.sz at hz; omega
  have key : ∀ i : Nat, ∃ v : Value, i < n → (∀ b off, A = some ⟨b, off, none⟩ → w.cell? ⟨b, off + i, none⟩ = some v) ∧ ∃ hi : i < t.uniqs.length, UqR (okY base w) w [v] t.uniqs[i] := fun i => by
    by_cases hi : i < n
    · obtain ⟨b, off, e, hob, hcs⟩ := h3.2 (by omega)
      obtain ⟨cs, k1, k2, k3⟩ := hcs i (by omega)
      obtain ⟨v, rfl⟩ := List.length_eq_one_iff.1 k1
      refine ⟨v, fun _ => ⟨fun b' off' e' => ?_, by omega, k2⟩⟩
      rw [e] at e'
      simp only [Option.some.injEq, Addr.mk.injEq] at e'
      obtain ⟨rfl, rfl, -⟩ := e'
      have := k3 0 v rfl
      rwa [Nat.mul_one] at this
    · exact ⟨undef, fun h => absurd h hi⟩
  obtain ⟨f, hf⟩ := Classical.axiomOfChoice key
  have hcell : ∀ j, ((List.range n).map f)[j]? = if j < n then some (f j) else none := fun j => by
    by_cases hj : j < n
    · simp [hj]
    · simp [hj]
  refine ⟨(List.range n).map f, by simp, fun hA => ?_, fun b hA j u hj => ?_, fun u hu => ?_, hn1000, fun w' g c' gi v hB' hown hbw hbg hgi => ?_⟩
  · subst hA
    by_cases h0 : n = 0
    · exact h0
    · obtain ⟨b, off, e, -⟩ := h3.2 (by omega)
      cases e
  · rw [hcell] at hj
    split at hj
    · rename_i hjn
      obtain ⟨b', off, e, hob, hcs⟩ := h3.2 (by omega)
      rw [e] at hA
      cases hA
      cases hj
      rw [addr_add]
      exact (hf j hjn).1 b' off e
    · cases hj
  · obtain ⟨j, hj, rfl⟩ := List.mem_map.1 hu
    have hjn : j < n := List.mem_range.1 hj
    obtain ⟨-, hi, A', n', c', e, -⟩ := hf j hjn
    simp only [List.cons.injEq, and_true] at e
    rw [e]; rfl
  · rcases hown.2 with ⟨h0, -⟩ | ⟨g', cap, cur, e, k1, k2, k3, k4, k5, k6⟩
    · cases h0
    · simp only [Value.slice.injEq, Option.some.injEq, Addr.mk.injEq, and_true, true_and] at e
      obtain ⟨rfl, rfl⟩ := e
      have ho : ∀ b, okY base w b → okY base w' b := fun b h => h.hold (Hold.below hB')
      have hk : ∀ p v, okY base w p.block → w.cell? p = some v → w'.cell? p = some v := fun p v h hc => h.cell (Hold.below hB') hc
      refine ⟨⟨by rw [List.length_append, hl]; rfl, fun _ => ⟨g, 0, rfl, ⟨by omega, _, _, k2, by decide, by decide⟩, fun i hi => ?_⟩⟩, k3⟩
      have hi' : i < n + 1 := by rw [List.length_append, hl] at hi; simpa using hi
      have hck : ∀ u, ((List.range n).map f ++ [Value.slice (some ⟨gi, 0, none⟩) 1 1])[i]? = some u → w'.cell? ⟨g, i, none⟩ = some u := fun u hu => by
        rw [← k6, Nat.mul_one, List.getElem?_take, if_pos hi'] at hu
        simp only [World.cell?, k2]
        rw [← Array.getElem?_toList]
        simpa using hu
      by_cases hin : i < n
      · obtain ⟨-, hiu, hR⟩ := hf i hin
        refine ⟨[f i], rfl, ?_, fun j u hj => ?_⟩
        · rw [List.getElem_append_left hiu]
          exact UqR.stays _ _ _ _ _ _ hR ho hk
        · cases j with
          | zero =>
            cases hj
            rw [Nat.mul_one, Nat.zero_add, Nat.add_zero]
            refine hck _ ?_
            rw [List.getElem?_append_left (by simpa using hin), hcell, if_pos hin]
          | succ j => simp at hj
      · obtain rfl : i = n := by omega
        refine ⟨[.slice (some ⟨gi, 0, none⟩) 1 1], rfl, ?_, fun j u hj => ?_⟩
        · rw [List.getElem_append_right (by omega)]
          simp only [hl, Nat.sub_self, List.getElem_cons_zero]
          have hgi' : Blo w' gi ([v].map (Value.int .i64)) 2 := hgi.hold hbg (Hold.below hB')
          exact ⟨_, _, _, rfl, intsY [v] hgi' hbg, Nat.le_refl _⟩
        · cases j with
          | zero =>
            cases hj
            rw [Nat.mul_one, Nat.zero_add, Nat.add_zero]
            refine hck _ ?_
            rw [List.getElem?_append_right (by simp)]
            simp
          | succ j => simp at hj
/-- Another default of a table's first column. -/
theorem TabY.dflt {base : Nat} {w : World} {gc : Nat} {cs : List Value} {t : Tb} (h : TabY base w gc cs t) : ∃ c0 cs0, t.cols = c0 :: cs0 ∧ base ≤ gc ∧ ((∃ u, w.cell? ⟨gc, 3, none⟩ = some u) ∧ (∃ u, w.cell? ⟨gc, 4, none⟩ = some u) ∧ (∃ u, w.cell? ⟨gc, 5, none⟩ = some u)) ∧ (w.frozen? ⟨gc, 3, none⟩ = false ∧ w.frozen? ⟨gc, 4, none⟩ = false ∧ w.frozen? ⟨gc, 5, none⟩ = false) ∧
    ∀ v : Vl, ({ t with cols := { c0 with d := v } :: cs0 } : Tb).sz ≤ 1000 → TabY base (((w.setCell ⟨gc, 3, none⟩ (.int .i64 v.k)).setCell ⟨gc, 4, none⟩ (.int .i64 v.n)).setCell ⟨gc, 5, none⟩ (.string v.s)) gc cs { t with cols := { c0 with d := v } :: cs0 } := by
  obtain ⟨n1, A2, n2, c2, A3, n3, c3, A4, n4, c4, A5, n5, c5, rfl, hb, hB, hn, hp, h2, h3, h4, h5, hc, hz⟩ := h
  obtain ⟨c0, cs0, ec⟩ : ∃ c0 cs0, t.cols = c0 :: cs0 := by
    cases hcl : t.cols with
    | nil => rw [hcl] at hn; simp at hn; omega
    | cons a b => exact ⟨a, b, rfl⟩
  have hB' := hB
  rw [ec] at hB'
  refine ⟨c0, cs0, ec, hb, ⟨⟨_, hB'.cell 3 (.int .i64 c0.d.k) (by simp [Cl.cells])⟩, ⟨_, hB'.cell 4 (.int .i64 c0.d.n) (by simp [Cl.cells])⟩, ⟨_, hB'.cell 5 (.string c0.d.s) (by simp [Cl.cells])⟩⟩, ⟨hB'.free 3, hB'.free 4, hB'.free 5⟩, fun v hz' => ?_⟩
  have tc : ∀ (w : World) (xs : List Value), Blo w gc xs 47 → TC w gc := fun w xs h => ⟨_, _, h, .inr rfl⟩
  have b1 := hB'.put 3 (.int .i64 v.k)
  have b2 := b1.put 4 (.int .i64 v.n)
  have b3 := b2.put 5 (.string v.s)
  have st : ∀ (w : World) (xs : List Value) (i : Nat) (u : Value), Blo w gc xs 47 → (∀ b, okY base w b → okY base (w.setCell ⟨gc, i, none⟩ u) b) ∧ (∀ q y, okY base w q.block → w.cell? q = some y → (w.setCell ⟨gc, i, none⟩ u).cell? q = some y) := fun w xs i u hB =>
    ⟨fun b h => h.set (tc w xs hB) _, fun q y h hc => (World.cell?_setCell_other _ _ _ _ (fun e => h.ne (tc w xs hB) (by rw [← e]))).trans hc⟩
  obtain ⟨o1, k1⟩ := st w _ 3 (.int .i64 v.k) hB'
  obtain ⟨o2, k2⟩ := st _ _ 4 (.int .i64 v.n) b1
  obtain ⟨o3, k3⟩ := st _ _ 5 (.string v.s) b2
  have ho := fun b h => o3 b (o2 b (o1 b h))
  have hk := fun p u h hc => k3 p u (o2 _ (o1 _ h)) (k2 p u (o1 _ h) (k1 p u h hc))
  refine ⟨n1, A2, n2, c2, A3, n3, c3, A4, n4, c4, A5, n5, c5, rfl, hb, ?_, ?_, hp, h2.stays IntR.stays ho hk, h3.stays UqR.stays ho hk, h4.stays CkR.stays ho hk, h5.stays FkR.stays ho hk, hc, hz'⟩
  · exact b3
  · rw [ec] at hn; exact hn
set_option maxRecDepth 100000 in
set_option maxHeartbeats 4000000 in
theorem drawTableOk (a : Option Addr) (len cap : Nat) (zs : List Int) (w : World) (h : IsRow .u8 w a len cap zs) :
    Calls Try.prog 10 #[.slice a len cap] w (Drawn isTbl w) := by
  have bx := Blo.new w [.string ⟨#[]⟩, .slice none 0 0, .slice none 0 0, .slice none 0 0, .slice none 0 0, .slice none 0 0] 34
  have hx := (Below.refl w.heap.size w).alloc (Nat.le_refl _) (.cells #[.string ⟨#[]⟩, .slice none 0 0, .slice none 0 0, .slice none 0 0, .slice none 0 0, .slice none 0 0] 34)
  have hrow := h.below hx
  have h0 := Rdr.new hrow 95
  have b0 := hx.alloc hx.size (.cells #[.slice a len cap, .int .i64 0] 95)
  have bu := bx.alloc (.cells #[.slice a len cap, .int .i64 0] 95)
  obtain ⟨i0, hi0, hz0, hz1, hz2⟩ := info_parts infoUniqueT
  have H1 := Lib.hid hi0
  have H2 := Lib.hid hz0
  have H3 := Lib.hid hz1
  have H4 := Lib.hid hz2
  clear hi0 hz0 hz1 hz2
  go_enter Try.func10, Try.ntmps10
  go_wp2_with fail
  refine (specOpen _ _ _ _).mono ?_
  rintro e w1 ⟨rfl, rfl⟩
  have hsz : (w.alloc (.cells #[.string ⟨#[]⟩, .slice none 0 0, .slice none 0 0, .slice none 0 0, .slice none 0 0, .slice none 0 0] 34)).heap.size = w.heap.size + 1 := by simp
  have hRlt : w.heap.size + 1 < ((w.alloc (.cells #[.string ⟨#[]⟩, .slice none 0 0, .slice none 0 0, .slice none 0 0, .slice none 0 0, .slice none 0 0] 34)).alloc (.cells #[.slice a len cap, .int .i64 0] 95)).heap.size := by simp
  rw [hsz] at h0
  go_wp2_with fail
  generalize (w.alloc (.cells #[.string ⟨#[]⟩, .slice none 0 0, .slice none 0 0, .slice none 0 0, .slice none 0 0, .slice none 0 0] 34)).alloc (.cells #[.slice a len cap, .int .i64 0] 95) = u at *
  refine (rdSchema _ _ a len cap zs h0).mono ?_
  rintro e w2 ⟨v, rfl, hsch, hb, hr⟩
  have hbu : w.heap.size < u.heap.size := by omega
  have hlt2 : w.heap.size + 1 < w2.heap.size := Nat.lt_of_lt_of_le hRlt hb.size
  have hnx : w.heap.size ≠ w.heap.size + 1 := by omega
  obtain ⟨xs, hs, hl0, hl, hm⟩ := hsch
  obtain ⟨g, ca, rfl, hg, hxc, -⟩ := hs.elem hl0
  have HB := Lib.hid hb
  have HS := Lib.hid hs
  have HM := Lib.hid hm
  have BU := Lib.hid bu
  have hcl : (0 : Int) ≤ (xs.length : Nat) := by omega
  clear hb hs hm bu bx hx hrow hsz
  go_wp2_with fail
  refine (rdBelow _ _ _ a len cap zs hr).mono ?_
  rintro e w3 ⟨z, rfl, ⟨y, rfl, y0, y1⟩, hb3, hr3⟩
  obtain ⟨i, rfl⟩ : ∃ i : Nat, y = (i : Int) := ⟨y.toNat, by omega⟩
  have hi : i < xs.length := by omega
  have hs3 := HS.out.hold (Hold.but hb3 hRlt)
  obtain ⟨g', ca', e, -, -, hel⟩ := hs3.elem hi
  injection e with e1 e2 e3
  obtain rfl : g = g' := by simpa using e1
  have hT := hs3.2.2 _ (List.getElem_mem hi)
  have hsz := HM.out _ (List.getElem_mem hi)
  obtain ⟨n1, A2, n2, c2, A3, n3, c3, A4, n4, c4, A5, n5, c5, e6, -⟩ := id hT
  rw [e6] at hel
  have d0 := hel 0 (.string xs[i].2.2.name) (by omega) rfl
  have d1 := hel 1 (.slice (some ⟨xs[i].1, 0, none⟩) n1 n1) (by omega) rfl
  have d2 := hel 2 (.slice A2 n2 c2) (by omega) rfl
  have d3 := hel 3 (.slice A3 n3 c3) (by omega) rfl
  have d4 := hel 4 (.slice A4 n4 c4) (by omega) rfl
  have d5 := hel 5 (.slice A5 n5 c5) (by omega) rfl
  rw [Nat.add_zero] at d0
  have g1 : (i : Int) < (xs.length : Nat) := by omega
  clear e1 e2 e3 hel
  obtain ⟨x, ex⟩ : ∃ x, xs[i] = x := ⟨_, rfl⟩
  rw [ex] at hT hsz e6 d0 d1
  have HT := Lib.hid (hT.hold (Hold.alloc u.heap.size w3 (.cells #[.string x.2.2.name, .slice (some ⟨x.1, 0, none⟩) n1 n1, .slice A2 n2 c2, .slice A3 n3 c3, .slice A4 n4 c4, .slice A5 n5 c5] 34)))
  have BT := Lib.hid (Blo.new w3 [.string x.2.2.name, .slice (some ⟨x.1, 0, none⟩) n1 n1, .slice A2 n2 c2, .slice A3 n3 c3, .slice A4 n4 c4, .slice A5 n5 c5] 34)
  have BB := Lib.hid ((BU.out.but (HB.out.trans hb3) hnx).alloc (.cells #[.string x.2.2.name, .slice (some ⟨x.1, 0, none⟩) n1 n1, .slice A2 n2 c2, .slice A3 n3 c3, .slice A4 n4 c4, .slice A5 n5 c5] 34))
  have HB4 := Lib.hid ((HB.out.trans hb3).alloc (.cells #[.string x.2.2.name, .slice (some ⟨x.1, 0, none⟩) n1 n1, .slice A2 n2 c2, .slice A3 n3 c3, .slice A4 n4 c4, .slice A5 n5 c5] 34))
  have HR4 := Lib.hid (hr3.alloc (.cells #[.string x.2.2.name, .slice (some ⟨x.1, 0, none⟩) n1 n1, .slice A2 n2 c2, .slice A3 n3 c3, .slice A4 n4 c4, .slice A5 n5 c5] 34))
  have hgt : u.heap.size ≤ w3.heap.size := (HB.out.trans hb3).size
  have E6 := Lib.hid e6
  have HX := Lib.hid ex
  clear ex hT e6 hs3 hr3 hb3 BU HB HM HS hr
  go_wp2_with fail
  have hgR : w3.heap.size ≠ w.heap.size + 1 := by omega
  have hgb : w3.heap.size ≠ w.heap.size := by omega
  generalize w3.alloc (.cells #[.string x.2.2.name, .slice (some ⟨x.1, 0, none⟩) n1 n1, .slice A2 n2 c2, .slice A3 n3 c3, .slice A4 n4 c4, .slice A5 n5 c5] 34) = w4 at *
  generalize w3.heap.size = gt at *
  refine (rdBelow 8 _ _ a len cap zs HR4.out).mono ?_
  rintro e w5 ⟨z, rfl, ⟨y, rfl, y0, y1⟩, hb5, hr5⟩
  replace HT := Lib.hid (HT.out.hold (Hold.but hb5 hRlt))
  replace BT := Lib.hid (BT.out.but hb5 hgR)
  replace BB := Lib.hid (BB.out.but hb5 hnx)
  replace HB4 := Lib.hid (HB4.out.trans hb5)
  replace HR4 := Lib.hid hr5
  clear hb5 hr5 d0 d1 d2 d3 d4 d5 g1 hi hcl hl0 hl HX
  have hlt5 : w.heap.size + 1 < w5.heap.size := Nat.lt_of_lt_of_le hRlt HB4.out.size
  have hlg5 : gt < w5.heap.size := BT.out.lt
  have hq : y = 5 ∨ y = 6 ∨ y = 7 ∨ (y ≠ 5 ∧ y ≠ 6 ∧ y ≠ 7) := by omega
  rcases hq with rfl | rfl | rfl | ⟨n5', n6', n7'⟩
  · obtain ⟨⟨r0, r1, r2, r3, r4, r5⟩, ⟨f0, f1, f2, f3, f4, f5⟩⟩ := BT.out.six
    have HA := Lib.hid (HR4.out.alloc (.cells #[.string ⟨#[]⟩, .string ⟨#[65]⟩, .string ⟨#[116, 111, 111, 108, 111, 110, 103, 101, 114]⟩] 9))
    go_wp2_with fail
    refine (rdBelow 3 _ _ a len cap zs HA.out).mono ?_
    rintro e w6 ⟨z, rfl, ⟨y, rfl, q0, q1⟩, hb6, hr6⟩
    obtain ⟨k, rfl, k6, t, k0, k1, ht, hc⟩ : ∃ k : Nat, y = k ∧ k < 3 ∧ ∃ t : ByteArray, (0 : Int) ≤ k ∧ (k : Int) < 3 ∧ t.size ≤ 9 ∧ (#[.string ⟨#[]⟩, .string ⟨#[65]⟩, .string ⟨#[116, 111, 111, 108, 111, 110, 103, 101, 114]⟩] : Array Value)[k]? = some (.string t) := by
      have : y = 0 ∨ y = 1 ∨ y = 2 := by omega
      rcases this with rfl | rfl | rfl
      · exact ⟨0, rfl, by omega, _, by omega, by omega, by decide, rfl⟩
      · exact ⟨1, rfl, by omega, _, by omega, by omega, by decide, rfl⟩
      · exact ⟨2, rfl, by omega, _, by omega, by omega, by decide, rfl⟩
    have c0 := (new_cell hb6 hlt5 k (by simpa using k6)).trans (row_at hc)
    replace HT := Lib.hid (HT.out.hold ((Hold.alloc _ _ _).trans (Hold.but hb6 hRlt)))
    replace BT := Lib.hid ((BT.out.alloc _).but hb6 hgR)
    replace BB := Lib.hid ((BB.out.alloc _).but hb6 hnx)
    replace HB4 := Lib.hid ((HB4.out.alloc _).trans hb6)
    clear hb6 hr6 HA r0 r1 r2 r3 r4 r5 f0 f1 f2 f3 f4 f5 hc
    obtain ⟨⟨r0, r1, r2, r3, r4, r5⟩, ⟨f0, -, -, -, -, -⟩⟩ := BT.out.six
    obtain ⟨⟨s0, s1, s2, s3, s4, s5⟩, ⟨p0, p1, p2, p3, p4, p5⟩⟩ := BB.out.six
    have BF := Lib.hid (BB.out.set ⟨gt, 0, none⟩ hgb (.string t))
    have hts := (HT.out.set (p := ⟨gt, 0, none⟩) BT.out.tc (HT.out.ne BT.out) (.string t)).named t (by have := sz_named x.2.2 t; omega)
    rw [E6.out] at hts
    obtain ⟨⟨z0, z1, z2, z3, z4, z5⟩, hTb, hBw⟩ := tabEnd (x0 := .string t) (x1 := .slice (some ⟨x.1, 0, none⟩) n1 n1) (x2 := .slice A2 n2 c2) (x3 := .slice A3 n3 c3) (x4 := .slice A4 n4 c4) (x5 := .slice A5 n5 c5) BF.out hts.reads (fun c hc => by have := hc.1; omega) ((HB4.out.below (Nat.le_succ _) (by omega)).setCell (p := ⟨gt, 0, none⟩) (show w.heap.size ≤ gt by omega) (.string t)) b0
    have HF := Lib.hid (show Drawn isTbl w (.returned (.agg #[.string t, .slice (some ⟨x.1, 0, none⟩) n1 n1, .slice A2 n2 c2, .slice A3 n3 c3, .slice A4 n4 c4, .slice A5 n5 c5])) _ from ⟨_, rfl, ⟨_, _, _, rfl, hTb, by have := sz_named x.2.2 t; omega⟩, hBw⟩)
    clear hTb hBw hts
    go_wp2_with fail
    refine bodyPost_ret (v := .agg #[.string t, .slice (some ⟨x.1, 0, none⟩) n1 n1, .slice A2 n2 c2, .slice A3 n3 c3, .slice A4 n4 c4, .slice A5 n5 c5]) ?_ rfl HF.out
    simp [results, Try.results10, go_sem, z0, z1, z2, z3, z4, z5]
  · obtain ⟨-, r1, -, -, -, -⟩ := BT.out.six.1
    have e1 : (6 == 5 : Bool) = false := rfl
    have m5 : ((6 : Int) == 5) = false := by decide
    have hn1 : (0 : Int) < (n1 : Nat) := by have := HT.out.two; rw [E6.out] at this; exact this _ _ _ _ _ _ _ rfl
    have hn1n : 0 < n1 := by omega
    go_wp2_with fail
    refine wp_region_noPanic ?_
    refine wp_region_held_drew (S := fun w' => w'.cell? ⟨gt, 1, none⟩ = some (.slice (some ⟨x.1, 0, none⟩) n1 n1)) (by kernel_rfl) r1 (fun hHeld => ?_)
    refine wpAnyH_take (i := 0) (v := ?v1) rfl (by kernel_rfl) (by kernel_rfl) (by kernel_rfl) (fun _ _ _ h => h) (Or.inl ⟨by rfl, ?hy1⟩) hHeld ?rest1
    case hy1 => (intro w' hSw; (try dsimp only at hSw); first | (go_simp; done) | (go_simp; with_reducible rfl))
    simp only [Act.put, List.getElem_toArray, List.getElem_cons_zero, List.getElem_cons_succ, List.setIfInBounds_toArray, List.set_cons_zero, List.set_cons_succ]
    refine wpAnyH_take (i := 1) (v := ?v2) rfl (by kernel_rfl) (by kernel_rfl) (by kernel_rfl) (fun _ _ _ h => h) (Or.inl ⟨by rfl, ?hy2⟩) hHeld ?rest2
    case hy2 => (intro w' hSw; (try dsimp only at hSw); first | (go_simp; done) | (go_simp; with_reducible rfl))
    simp only [Act.put, List.getElem_toArray, List.getElem_cons_zero, List.getElem_cons_succ, List.setIfInBounds_toArray, List.set_cons_zero, List.set_cons_succ]
    refine wpAnyH_take (i := 2) (v := ?v3) rfl (by kernel_rfl) (by kernel_rfl) (by kernel_rfl) (fun _ _ _ h => h) (Or.inl ⟨by rfl, ?hy3⟩) hHeld ?rest3
    case hy3 => (intro w' hSw; (try dsimp only at hSw); first | (go_simp; done) | (go_simp; with_reducible rfl))
    simp only [Act.put, List.getElem_toArray, List.getElem_cons_zero, List.getElem_cons_succ, List.setIfInBounds_toArray, List.set_cons_zero, List.set_cons_succ]
    refine wpAnyH_ready (rs := [3]) (by kernel_rfl) (by simp) ?_
    refine AllReadyH.cons rfl (fun K hK => ?_) AllReadyH.nil
    go_simp
    go_at_call 32
    refine (rdVal _ _ a len cap zs (rdr_drewY HR4.out)).mono ?_
    rintro e w6 ⟨z, rfl, ⟨vk, vn, vs, rfl, hokv⟩, hb6', hr6⟩
    have hb6 := but_undrewY hb6'
    have HT6 := Lib.hid (HT.out.hold (Hold.but hb6 hRlt))
    have BT6 := Lib.hid (BT.out.but hb6 hgR)
    have BB6 := Lib.hid (BB.out.but hb6 hnx)
    have HB6 := Lib.hid (HB4.out.trans hb6)
    clear hb6 hb6' hr6
    obtain ⟨c0, cs0, ec, hbg, ⟨⟨q3, k3⟩, ⟨q4, k4⟩, ⟨q5, k5⟩⟩, ⟨l3, l4, l5⟩, hput⟩ := HT6.out.dflt
    have HP := Lib.hid hput
    have EC := Lib.hid ec
    clear hput ec
    have hxg := HT6.out.ne BT6.out
    have hxb : x.1 ≠ w.heap.size := by omega
    have r1' := BT6.out.six.1.2.1
    refine hK.out _ _ r1' (fun hHeld => ?_)
    clear hK K
    (try simp only [Act.put, List.getElem_toArray, List.getElem_cons_zero, List.getElem_cons_succ, List.setIfInBounds_toArray, List.set_cons_zero, List.set_cons_succ])
    refine wpAnyH_take (i := 4) (v := ?v4) rfl (by kernel_rfl) (by kernel_rfl) (by kernel_rfl) (fun _ _ _ h => h) (Or.inl ⟨by rfl, ?hy4⟩) hHeld ?rest4
    case hy4 => (intro w' hSw; (try dsimp only at hSw); first | (go_simp; done) | (go_simp; with_reducible rfl))
    simp only [Act.put, List.getElem_toArray, List.getElem_cons_zero, List.getElem_cons_succ, List.setIfInBounds_toArray, List.set_cons_zero, List.set_cons_succ]
    refine wpAnyH_take (i := 5) (v := ?v5) rfl (by kernel_rfl) (by kernel_rfl) (by kernel_rfl) (fun _ _ _ h => h) (Or.inl ⟨by rfl, ?hy5⟩) hHeld ?rest5
    case hy5 => (intro w' hSw; (try dsimp only at hSw); first | (go_simp; done) | (go_simp; with_reducible rfl))
    simp only [Act.put, List.getElem_toArray, List.getElem_cons_zero, List.getElem_cons_succ, List.setIfInBounds_toArray, List.set_cons_zero, List.set_cons_succ]
    refine wpAnyH_ready (rs := [6]) (by kernel_rfl) (by simp) ?_
    refine AllReadyH.cons rfl (fun K hK => ?_) AllReadyH.nil
    go_simp
    refine hK.out _ _ (cell_far (cell_far (cell_far r1' hxg) hxg) hxg) (fun hHeld => ?_)
    clear hK K
    (try simp only [Act.put, List.getElem_toArray, List.getElem_cons_zero, List.getElem_cons_succ, List.setIfInBounds_toArray, List.set_cons_zero, List.set_cons_succ])
    refine wpAnyH_done (by kernel_rfl) ?_ _
    refine NoPanic.normal ?_
    clear hHeld
    have hvs := okV_small hokv
    have hsd := sz_dflt x.2.2 EC.out ⟨vk, vn, vs⟩
    have hsd2 : ({ x.2.2 with cols := { c0 with d := ⟨vk, vn, vs⟩ } :: cs0 } : Tb).sz ≤ 1000 := Nat.le_trans hsd (by show x.2.2.sz + vs.size ≤ 1000; omega)
    have hT7 := HP.out ⟨vk, vn, vs⟩ hsd2
    rw [E6.out] at hT7
    have B7 := ((BT6.out.set ⟨x.1, 3, none⟩ hxg.symm (.int .i64 vk)).set ⟨x.1, 4, none⟩ hxg.symm (.int .i64 vn)).set ⟨x.1, 5, none⟩ hxg.symm (.string vs)
    have C7 := ((BB6.out.set ⟨x.1, 3, none⟩ hxb (.int .i64 vk)).set ⟨x.1, 4, none⟩ hxb (.int .i64 vn)).set ⟨x.1, 5, none⟩ hxb (.string vs)
    have D7 := (((HB6.out.below (Nat.le_succ _) (by omega)).setCell (p := ⟨x.1, 3, none⟩) (show w.heap.size ≤ x.1 by omega) (.int .i64 vk)).setCell (p := ⟨x.1, 4, none⟩) (show w.heap.size ≤ x.1 by omega) (.int .i64 vn)).setCell (p := ⟨x.1, 5, none⟩) (show w.heap.size ≤ x.1 by omega) (.string vs)
    dsimp only at hT7
    generalize ((w6.setCell ⟨x.1, 3, none⟩ (.int .i64 vk)).setCell ⟨x.1, 4, none⟩ (.int .i64 vn)).setCell ⟨x.1, 5, none⟩ (.string vs) = W7 at *
    clear q3 q4 q5 k3 k4 k5 l3 l4 l5 r1' r1
    obtain ⟨⟨r0, r1, r2, r3, r4, r5⟩, -⟩ := B7.six
    obtain ⟨⟨s0, s1, s2, s3, s4, s5⟩, ⟨p0, p1, p2, p3, p4, p5⟩⟩ := C7.six
    obtain ⟨⟨z0, z1, z2, z3, z4, z5⟩, hTb, hBw⟩ := tabEnd (x0 := .string x.2.2.name) (x1 := .slice (some ⟨x.1, 0, none⟩) n1 n1) (x2 := .slice A2 n2 c2) (x3 := .slice A3 n3 c3) (x4 := .slice A4 n4 c4) (x5 := .slice A5 n5 c5) C7 hT7.reads (fun c hc => by have := hc.1; omega) D7 b0
    have HF := Lib.hid (show Drawn isTbl w (.returned (.agg #[.string x.2.2.name, .slice (some ⟨x.1, 0, none⟩) n1 n1, .slice A2 n2 c2, .slice A3 n3 c3, .slice A4 n4 c4, .slice A5 n5 c5])) _ from ⟨_, rfl, ⟨_, _, _, rfl, hTb, hsd2⟩, hBw⟩)
    clear hTb hBw
    clear B7 C7 hT7 D7
    go_wp2_with fail
    refine bodyPost_ret (v := .agg #[.string x.2.2.name, .slice (some ⟨x.1, 0, none⟩) n1 n1, .slice A2 n2 c2, .slice A3 n3 c3, .slice A4 n4 c4, .slice A5 n5 c5]) ?_ rfl HF.out
    simp [results, Try.results10, go_sem, z0, z1, z2, z3, z4, z5]
  · obtain ⟨-, -, -, r3, -, -⟩ := BT.out.six.1
    have m5 : ((7 : Int) == 5) = false := by decide
    have m6 : ((7 : Int) == 6) = false := by decide
    obtain rfl : n3 = c3 := by have := HT.out.capU; rw [E6.out] at this; exact this _ _ _ _ _ _ _ _ rfl
    go_wp2_with fail
    refine wp_region_noPanic ?_
    refine wp_region_held_drew (S := fun _ => True) (by kernel_rfl) trivial (fun hHeld => ?_)
    refine wpAnyH_take (i := 0) (v := ?v6) rfl (by kernel_rfl) (by kernel_rfl) (by kernel_rfl) (fun _ _ _ h => h) (Or.inl ⟨by rfl, ?hy6⟩) hHeld ?rest6
    case hy6 => (intro w' hSw; (try dsimp only at hSw); first | (go_simp; done) | (go_simp; with_reducible rfl))
    simp only [Act.put, List.getElem_toArray, List.getElem_cons_zero, List.getElem_cons_succ, List.setIfInBounds_toArray, List.set_cons_zero, List.set_cons_succ]
    refine wpAnyH_take (i := 2) (v := ?v7) rfl (by kernel_rfl) (by kernel_rfl) (by kernel_rfl) (fun _ _ _ h => h) (Or.inl ⟨by rfl, ?hy7⟩) hHeld ?rest7
    case hy7 => (intro w' hSw; (try dsimp only at hSw); first | (go_simp; done) | (go_simp; with_reducible rfl))
    simp only [Act.put, List.getElem_toArray, List.getElem_cons_zero, List.getElem_cons_succ, List.setIfInBounds_toArray, List.set_cons_zero, List.set_cons_succ]
    refine wpAnyH_ready (rs := [1, 3]) (by kernel_rfl) (by simp) ?_
    refine AllReadyH.cons rfl (fun K hK => ?_) ?_
    · go_simp
      refine hK.out _ _ trivial (fun hHeld => ?_)
      clear hK K
      (try simp only [Act.put, List.getElem_toArray, List.getElem_cons_zero, List.getElem_cons_succ, List.setIfInBounds_toArray, List.set_cons_zero, List.set_cons_succ])
      refine wpAnyH_ready (rs := [3]) (by kernel_rfl) (by simp) ?_
      refine AllReadyH.cons rfl (fun K hK => ?_) AllReadyH.nil
      go_simp
      go_at_call 33
      refine (rdOff 0 3 (by omega) (by omega) (by omega) _ _ a len cap zs (rdr_drewY HR4.out)).mono ?_
      rintro e w6 ⟨z, rfl, ⟨uv, rfl, uv0, uv1⟩, hb6', hr6⟩
      have hb6 := but_undrewY hb6'
      have HT6 := Lib.hid (HT.out.hold (Hold.but hb6 hRlt))
      have BT6 := Lib.hid (BT.out.but hb6 hgR)
      have BB6 := Lib.hid (BB.out.but hb6 hnx)
      have HB6 := Lib.hid (HB4.out.trans hb6)
      clear hb6 hb6' hr6
      have r3' := BT6.out.six.1.2.2.2.1
      refine hK.out _ _ trivial (fun hHeld => ?_)
      clear hK K
      (try simp only [Act.put, List.getElem_toArray, List.getElem_cons_zero, List.getElem_cons_succ, List.setIfInBounds_toArray, List.set_cons_zero, List.set_cons_succ])
      refine wpAnyH_ready (rs := [4]) (by kernel_rfl) (by simp) ?_
      refine AllReadyH.cons rfl (fun K hK => ?_) AllReadyH.nil
      go_simp
      have r3'' := (BT6.out.alloc (.cells #[.int .i64 uv] 2)).six.1.2.2.2.1
      refine hK.out _ _ trivial (fun hHeld => ?_)
      clear hK K
      (try simp only [Act.put, List.getElem_toArray, List.getElem_cons_zero, List.getElem_cons_succ, List.setIfInBounds_toArray, List.set_cons_zero, List.set_cons_succ])
      refine wpAnyH_take (i := 5) (v := ?v8) rfl (by kernel_rfl) (by kernel_rfl) (by kernel_rfl) (fun _ _ _ h => h) (Or.inl ⟨by rfl, ?hy8⟩) hHeld ?rest8
      case hy8 => (intro w' hSw; (try dsimp only at hSw); first | (go_simp; done) | (go_simp; with_reducible rfl))
      simp only [Act.put, List.getElem_toArray, List.getElem_cons_zero, List.getElem_cons_succ, List.setIfInBounds_toArray, List.set_cons_zero, List.set_cons_succ]
      refine wpAnyH_ready (rs := [6]) (by kernel_rfl) (by simp) ?_
      refine AllReadyH.cons rfl (fun K hK => ?_) AllReadyH.nil
      go_simp
      have BT7 := Lib.hid ((BT6.out.alloc (.cells #[.int .i64 uv] 2)).alloc (.cells #[.slice (some ⟨w6.heap.size, 0, none⟩) 1 1] 68))
      have BB7 := Lib.hid ((BB6.out.alloc (.cells #[.int .i64 uv] 2)).alloc (.cells #[.slice (some ⟨w6.heap.size, 0, none⟩) 1 1] 68))
      have HB7 := Lib.hid ((HB6.out.alloc (.cells #[.int .i64 uv] 2)).alloc (.cells #[.slice (some ⟨w6.heap.size, 0, none⟩) 1 1] 68))
      have HT7 := Lib.hid (HT6.out.hold ((Hold.alloc u.heap.size w6 (.cells #[.int .i64 uv] 2)).trans (Hold.alloc u.heap.size _ (.cells #[.slice (some ⟨w6.heap.size, 0, none⟩) 1 1] 68))))
      have hgx : u.heap.size ≤ w6.heap.size := HB6.out.size
      have hz1 : (w6.alloc (.cells #[.int .i64 uv] 2)).heap.size = w6.heap.size + 1 := by simp
      have G1 := Lib.hid ((Blo.new w6 [.int .i64 uv] 2).alloc (.cells #[.slice (some ⟨w6.heap.size, 0, none⟩) 1 1] 68))
      have G2 := Lib.hid (Blo.new (w6.alloc (.cells #[.int .i64 uv] 2)) [.slice (some ⟨w6.heap.size, 0, none⟩) 1 1] 68)
      have hz2 : ((w6.alloc (.cells #[.int .i64 uv] 2)).alloc (.cells #[.slice (some ⟨w6.heap.size, 0, none⟩) 1 1] 68)).heap.size = w6.heap.size + 1 + 1 := by simp
      rw [hz1] at G2
      generalize ((w6.alloc (.cells #[.int .i64 uv] 2)).alloc (.cells #[.slice (some ⟨w6.heap.size, 0, none⟩) 1 1] 68)) = W7 at *
      generalize w6.heap.size = gi at *
      have HZ1 := Lib.hid hz1
      have HZ2 := Lib.hid hz2
      clear hz1 hz2
      have r7 := BT7.out.six.1.2.2.2.1
      refine hK.out _ _ trivial (fun hHeld => ?_)
      clear hK K
      (try simp only [Act.put, List.getElem_toArray, List.getElem_cons_zero, List.getElem_cons_succ, List.setIfInBounds_toArray, List.set_cons_zero, List.set_cons_succ])
      refine wpAnyH_ready (rs := [7]) (by kernel_rfl) (by simp) ?_
      refine AllReadyH.cons rfl (fun K hK => ?_) AllReadyH.nil
      obtain ⟨olds, hol, hon, hoc, ho1, hn1k, hsl⟩ := (show _ from E6.out ▸ HT7.out : TabY u.heap.size W7 x.1 [.string x.2.2.name, .slice (some ⟨x.1, 0, none⟩) n1 n1, .slice A2 n2 c2, .slice A3 n3 n3, .slice A4 n4 c4, .slice A5 n5 c5] x.2.2).uCells
      have HSLU := Lib.hid hsl
      clear hsl
      refine step_append_grows rfl (.tmp 38) (.tmp 43) 30 rfl 68 i0 (.agg #[.slice none 0 0]) 1 24 Try.underlying30 H1.out H2.out H3.out H4.out rfl (by decide) A3 n3 n3 olds rfl (fun h => ⟨hon h, hon h⟩) (by rw [hol, Nat.mul_one]) hoc ⟨gi + 1, 0, none⟩ 1 1 [.slice (some ⟨gi, 0, none⟩) 1 1] rfl rfl (fun j y hj => by rw [addr_add, Nat.zero_add]; exact G2.out.cell j y hj) (fun y hy => by rw [List.mem_singleton.1 hy]; rfl) (by omega) (by unfold maxLen; omega) (by omega) ?_
      intro v8 w8 hown8 hgrow8
      obtain ⟨g8, c8, rfl⟩ := Joins.ownsRow_form hown8 (by omega)
      have hB8 : Below W7.heap.size W7 w8 := (Below.refl W7.heap.size W7).grown hgrow8 (Nat.le_refl _) (fun k hk => by cases hk)
      have BT8 := Lib.hid ((hB8.block gt BT7.out.lt).trans BT7.out)
      have BB8 := Lib.hid ((hB8.block w.heap.size BB7.out.lt).trans BB7.out)
      have HB8 := Lib.hid (but_above HB7.out (hB8.mono HB7.out.size))
      have HT8 := Lib.hid (HT7.out.hold (Hold.below hB8))
      have HN8 := Lib.hid (HSLU.out w8 g8 c8 gi uv hB8 hown8 HB7.out.size hgx G1.out)
      clear hown8 hgrow8
      have r8 := (show Blo w8 gt _ _ from BT8.out).six.1.2.2.2.1
      have f8 := (show Blo w8 gt _ _ from BT8.out).six.2.2.2.2.1
      refine hK.out _ _ trivial (fun hHeld => ?_)
      clear hK K
      (try simp only [Act.put, List.getElem_toArray, List.getElem_cons_zero, List.getElem_cons_succ, List.setIfInBounds_toArray, List.set_cons_zero, List.set_cons_succ])
      refine wpAnyH_take (i := 8) (v := ?v9) rfl (by kernel_rfl) (by kernel_rfl) (by kernel_rfl) (fun _ _ _ h => h) (Or.inl ⟨by rfl, ?hy9⟩) hHeld ?rest9
      case hy9 => (intro w' hSw; (try dsimp only at hSw); first | (go_simp; done) | (go_simp; with_reducible rfl))
      simp only [Act.put, List.getElem_toArray, List.getElem_cons_zero, List.getElem_cons_succ, List.setIfInBounds_toArray, List.set_cons_zero, List.set_cons_succ]
      refine wpAnyH_ready (rs := [9]) (by kernel_rfl) (by simp) ?_
      refine AllReadyH.cons rfl (fun K hK => ?_) AllReadyH.nil
      go_simp
      refine hK.out _ _ trivial (fun hHeld => ?_)
      clear hK K
      (try simp only [Act.put, List.getElem_toArray, List.getElem_cons_zero, List.getElem_cons_succ, List.setIfInBounds_toArray, List.set_cons_zero, List.set_cons_succ])
      refine wpAnyH_done (by kernel_rfl) ?_ _
      refine NoPanic.normal ?_
      clear hHeld
      have hne8 := HT8.out.ne (show Blo w8 gt _ _ from BT8.out)
      have hT9 := (HT8.out.set (p := ⟨gt, 3, none⟩) (show Blo w8 gt _ _ from BT8.out).tc hne8 (.slice (some ⟨g8, 0, none⟩) (n3 + 1) c8))
      rw [E6.out] at hT9
      have hU9 := hT9.tbU (HN8.out.1.stays UqR.stays (fun b h => okY.set (p := ⟨gt, 3, none⟩) (show Blo w8 gt _ _ from BT8.out).tc (.slice (some ⟨g8, 0, none⟩) (n3 + 1) c8) h) (fun q y h hc => cell_far hc (okY.ne h (show Blo w8 gt _ _ from BT8.out).tc))) HN8.out.2
      have hsu := sz_moreU x.2.2 uv
      have B9 := (show Blo w8 gt _ _ from BT8.out).put 3 (.slice (some ⟨g8, 0, none⟩) (n3 + 1) c8)
      have C9 := (show Blo w8 w.heap.size _ _ from BB8.out).set ⟨gt, 3, none⟩ hgb (.slice (some ⟨g8, 0, none⟩) (n3 + 1) c8)
      have D9 := (HB8.out.below (Nat.le_succ _) (by omega)).setCell (p := ⟨gt, 3, none⟩) (show w.heap.size ≤ gt by omega) (.slice (some ⟨g8, 0, none⟩) (n3 + 1) c8)
      generalize w8.setCell ⟨gt, 3, none⟩ (.slice (some ⟨g8, 0, none⟩) (n3 + 1) c8) = W9 at *
      clear r8 f8 r3
      obtain ⟨⟨r0, r1, r2, r3, r4, r5⟩, -⟩ := (show Blo W9 gt [.string x.2.2.name, .slice (some ⟨x.1, 0, none⟩) n1 n1, .slice A2 n2 c2, .slice (some ⟨g8, 0, none⟩) (n3 + 1) c8, .slice A4 n4 c4, .slice A5 n5 c5] _ from B9).six
      obtain ⟨⟨s0, s1, s2, s3, s4, s5⟩, ⟨p0, p1, p2, p3, p4, p5⟩⟩ := C9.six
      obtain ⟨⟨z0, z1, z2, z3, z4, z5⟩, hTb, hBw⟩ := tabEnd (x0 := .string x.2.2.name) (x1 := .slice (some ⟨x.1, 0, none⟩) n1 n1) (x2 := .slice A2 n2 c2) (x3 := .slice (some ⟨g8, 0, none⟩) (n3 + 1) c8) (x4 := .slice A4 n4 c4) (x5 := .slice A5 n5 c5) C9 hU9 (fun c hc => by have := hc.1; omega) D9 b0
      have HF := Lib.hid (show Drawn isTbl w (.returned (.agg #[.string x.2.2.name, .slice (some ⟨x.1, 0, none⟩) n1 n1, .slice A2 n2 c2, .slice (some ⟨g8, 0, none⟩) (n3 + 1) c8, .slice A4 n4 c4, .slice A5 n5 c5])) _ from ⟨_, rfl, ⟨_, _, _, rfl, hTb, Nat.le_trans hsu (by omega)⟩, hBw⟩)
      clear hTb hBw
      clear B9 C9 hT9 D9 hU9
      go_wp2_with fail
      refine bodyPost_ret (v := .agg #[.string x.2.2.name, .slice (some ⟨x.1, 0, none⟩) n1 n1, .slice A2 n2 c2, .slice (some ⟨g8, 0, none⟩) (n3 + 1) c8, .slice A4 n4 c4, .slice A5 n5 c5]) ?_ rfl HF.out
      simp [results, Try.results10, go_sem, z0, z1, z2, z3, z4, z5]
    refine AllReadyH.cons rfl (fun K hK => ?_) AllReadyH.nil
    go_simp
    go_at_call 33
    refine (rdOff 0 3 (by omega) (by omega) (by omega) _ _ a len cap zs (rdr_drewY HR4.out)).mono ?_
    rintro e w6 ⟨z, rfl, ⟨uv, rfl, uv0, uv1⟩, hb6', hr6⟩
    have hb6 := but_undrewY hb6'
    have HT6 := Lib.hid (HT.out.hold (Hold.but hb6 hRlt))
    have BT6 := Lib.hid (BT.out.but hb6 hgR)
    have BB6 := Lib.hid (BB.out.but hb6 hnx)
    have HB6 := Lib.hid (HB4.out.trans hb6)
    clear hb6 hb6' hr6
    have r3' := BT6.out.six.1.2.2.2.1
    refine hK.out _ _ trivial (fun hHeld => ?_)
    clear hK K
    (try simp only [Act.put, List.getElem_toArray, List.getElem_cons_zero, List.getElem_cons_succ, List.setIfInBounds_toArray, List.set_cons_zero, List.set_cons_succ])
    refine wpAnyH_ready (rs := [1, 4]) (by kernel_rfl) (by simp) ?_
    refine AllReadyH.cons rfl (fun K hK => ?_) ?_
    · go_simp
      refine hK.out _ _ trivial (fun hHeld => ?_)
      clear hK K
      (try simp only [Act.put, List.getElem_toArray, List.getElem_cons_zero, List.getElem_cons_succ, List.setIfInBounds_toArray, List.set_cons_zero, List.set_cons_succ])
      refine wpAnyH_ready (rs := [4]) (by kernel_rfl) (by simp) ?_
      refine AllReadyH.cons rfl (fun K hK => ?_) AllReadyH.nil
      go_simp
      have r3'' := (BT6.out.alloc (.cells #[.int .i64 uv] 2)).six.1.2.2.2.1
      refine hK.out _ _ trivial (fun hHeld => ?_)
      clear hK K
      (try simp only [Act.put, List.getElem_toArray, List.getElem_cons_zero, List.getElem_cons_succ, List.setIfInBounds_toArray, List.set_cons_zero, List.set_cons_succ])
      refine wpAnyH_take (i := 5) (v := ?v10) rfl (by kernel_rfl) (by kernel_rfl) (by kernel_rfl) (fun _ _ _ h => h) (Or.inl ⟨by rfl, ?hy10⟩) hHeld ?rest10
      case hy10 => (intro w' hSw; (try dsimp only at hSw); first | (go_simp; done) | (go_simp; with_reducible rfl))
      simp only [Act.put, List.getElem_toArray, List.getElem_cons_zero, List.getElem_cons_succ, List.setIfInBounds_toArray, List.set_cons_zero, List.set_cons_succ]
      refine wpAnyH_ready (rs := [6]) (by kernel_rfl) (by simp) ?_
      refine AllReadyH.cons rfl (fun K hK => ?_) AllReadyH.nil
      go_simp
      have BT7 := Lib.hid ((BT6.out.alloc (.cells #[.int .i64 uv] 2)).alloc (.cells #[.slice (some ⟨w6.heap.size, 0, none⟩) 1 1] 68))
      have BB7 := Lib.hid ((BB6.out.alloc (.cells #[.int .i64 uv] 2)).alloc (.cells #[.slice (some ⟨w6.heap.size, 0, none⟩) 1 1] 68))
      have HB7 := Lib.hid ((HB6.out.alloc (.cells #[.int .i64 uv] 2)).alloc (.cells #[.slice (some ⟨w6.heap.size, 0, none⟩) 1 1] 68))
      have HT7 := Lib.hid (HT6.out.hold ((Hold.alloc u.heap.size w6 (.cells #[.int .i64 uv] 2)).trans (Hold.alloc u.heap.size _ (.cells #[.slice (some ⟨w6.heap.size, 0, none⟩) 1 1] 68))))
      have hgx : u.heap.size ≤ w6.heap.size := HB6.out.size
      have hz1 : (w6.alloc (.cells #[.int .i64 uv] 2)).heap.size = w6.heap.size + 1 := by simp
      have G1 := Lib.hid ((Blo.new w6 [.int .i64 uv] 2).alloc (.cells #[.slice (some ⟨w6.heap.size, 0, none⟩) 1 1] 68))
      have G2 := Lib.hid (Blo.new (w6.alloc (.cells #[.int .i64 uv] 2)) [.slice (some ⟨w6.heap.size, 0, none⟩) 1 1] 68)
      have hz2 : ((w6.alloc (.cells #[.int .i64 uv] 2)).alloc (.cells #[.slice (some ⟨w6.heap.size, 0, none⟩) 1 1] 68)).heap.size = w6.heap.size + 1 + 1 := by simp
      rw [hz1] at G2
      generalize ((w6.alloc (.cells #[.int .i64 uv] 2)).alloc (.cells #[.slice (some ⟨w6.heap.size, 0, none⟩) 1 1] 68)) = W7 at *
      generalize w6.heap.size = gi at *
      have HZ1 := Lib.hid hz1
      have HZ2 := Lib.hid hz2
      clear hz1 hz2
      have r7 := BT7.out.six.1.2.2.2.1
      refine hK.out _ _ trivial (fun hHeld => ?_)
      clear hK K
      (try simp only [Act.put, List.getElem_toArray, List.getElem_cons_zero, List.getElem_cons_succ, List.setIfInBounds_toArray, List.set_cons_zero, List.set_cons_succ])
      refine wpAnyH_ready (rs := [7]) (by kernel_rfl) (by simp) ?_
      refine AllReadyH.cons rfl (fun K hK => ?_) AllReadyH.nil
      obtain ⟨olds, hol, hon, hoc, ho1, hn1k, hsl⟩ := (show _ from E6.out ▸ HT7.out : TabY u.heap.size W7 x.1 [.string x.2.2.name, .slice (some ⟨x.1, 0, none⟩) n1 n1, .slice A2 n2 c2, .slice A3 n3 n3, .slice A4 n4 c4, .slice A5 n5 c5] x.2.2).uCells
      have HSLU := Lib.hid hsl
      clear hsl
      refine step_append_grows rfl (.tmp 38) (.tmp 43) 30 rfl 68 i0 (.agg #[.slice none 0 0]) 1 24 Try.underlying30 H1.out H2.out H3.out H4.out rfl (by decide) A3 n3 n3 olds rfl (fun h => ⟨hon h, hon h⟩) (by rw [hol, Nat.mul_one]) hoc ⟨gi + 1, 0, none⟩ 1 1 [.slice (some ⟨gi, 0, none⟩) 1 1] rfl rfl (fun j y hj => by rw [addr_add, Nat.zero_add]; exact G2.out.cell j y hj) (fun y hy => by rw [List.mem_singleton.1 hy]; rfl) (by omega) (by unfold maxLen; omega) (by omega) ?_
      intro v8 w8 hown8 hgrow8
      obtain ⟨g8, c8, rfl⟩ := Joins.ownsRow_form hown8 (by omega)
      have hB8 : Below W7.heap.size W7 w8 := (Below.refl W7.heap.size W7).grown hgrow8 (Nat.le_refl _) (fun k hk => by cases hk)
      have BT8 := Lib.hid ((hB8.block gt BT7.out.lt).trans BT7.out)
      have BB8 := Lib.hid ((hB8.block w.heap.size BB7.out.lt).trans BB7.out)
      have HB8 := Lib.hid (but_above HB7.out (hB8.mono HB7.out.size))
      have HT8 := Lib.hid (HT7.out.hold (Hold.below hB8))
      have HN8 := Lib.hid (HSLU.out w8 g8 c8 gi uv hB8 hown8 HB7.out.size hgx G1.out)
      clear hown8 hgrow8
      have r8 := (show Blo w8 gt _ _ from BT8.out).six.1.2.2.2.1
      have f8 := (show Blo w8 gt _ _ from BT8.out).six.2.2.2.2.1
      refine hK.out _ _ trivial (fun hHeld => ?_)
      clear hK K
      (try simp only [Act.put, List.getElem_toArray, List.getElem_cons_zero, List.getElem_cons_succ, List.setIfInBounds_toArray, List.set_cons_zero, List.set_cons_succ])
      refine wpAnyH_take (i := 8) (v := ?v11) rfl (by kernel_rfl) (by kernel_rfl) (by kernel_rfl) (fun _ _ _ h => h) (Or.inl ⟨by rfl, ?hy11⟩) hHeld ?rest11
      case hy11 => (intro w' hSw; (try dsimp only at hSw); first | (go_simp; done) | (go_simp; with_reducible rfl))
      simp only [Act.put, List.getElem_toArray, List.getElem_cons_zero, List.getElem_cons_succ, List.setIfInBounds_toArray, List.set_cons_zero, List.set_cons_succ]
      refine wpAnyH_ready (rs := [9]) (by kernel_rfl) (by simp) ?_
      refine AllReadyH.cons rfl (fun K hK => ?_) AllReadyH.nil
      go_simp
      refine hK.out _ _ trivial (fun hHeld => ?_)
      clear hK K
      (try simp only [Act.put, List.getElem_toArray, List.getElem_cons_zero, List.getElem_cons_succ, List.setIfInBounds_toArray, List.set_cons_zero, List.set_cons_succ])
      refine wpAnyH_done (by kernel_rfl) ?_ _
      refine NoPanic.normal ?_
      clear hHeld
      have hne8 := HT8.out.ne (show Blo w8 gt _ _ from BT8.out)
      have hT9 := (HT8.out.set (p := ⟨gt, 3, none⟩) (show Blo w8 gt _ _ from BT8.out).tc hne8 (.slice (some ⟨g8, 0, none⟩) (n3 + 1) c8))
      rw [E6.out] at hT9
      have hU9 := hT9.tbU (HN8.out.1.stays UqR.stays (fun b h => okY.set (p := ⟨gt, 3, none⟩) (show Blo w8 gt _ _ from BT8.out).tc (.slice (some ⟨g8, 0, none⟩) (n3 + 1) c8) h) (fun q y h hc => cell_far hc (okY.ne h (show Blo w8 gt _ _ from BT8.out).tc))) HN8.out.2
      have hsu := sz_moreU x.2.2 uv
      have B9 := (show Blo w8 gt _ _ from BT8.out).put 3 (.slice (some ⟨g8, 0, none⟩) (n3 + 1) c8)
      have C9 := (show Blo w8 w.heap.size _ _ from BB8.out).set ⟨gt, 3, none⟩ hgb (.slice (some ⟨g8, 0, none⟩) (n3 + 1) c8)
      have D9 := (HB8.out.below (Nat.le_succ _) (by omega)).setCell (p := ⟨gt, 3, none⟩) (show w.heap.size ≤ gt by omega) (.slice (some ⟨g8, 0, none⟩) (n3 + 1) c8)
      generalize w8.setCell ⟨gt, 3, none⟩ (.slice (some ⟨g8, 0, none⟩) (n3 + 1) c8) = W9 at *
      clear r8 f8 r3
      obtain ⟨⟨r0, r1, r2, r3, r4, r5⟩, -⟩ := (show Blo W9 gt [.string x.2.2.name, .slice (some ⟨x.1, 0, none⟩) n1 n1, .slice A2 n2 c2, .slice (some ⟨g8, 0, none⟩) (n3 + 1) c8, .slice A4 n4 c4, .slice A5 n5 c5] _ from B9).six
      obtain ⟨⟨s0, s1, s2, s3, s4, s5⟩, ⟨p0, p1, p2, p3, p4, p5⟩⟩ := C9.six
      obtain ⟨⟨z0, z1, z2, z3, z4, z5⟩, hTb, hBw⟩ := tabEnd (x0 := .string x.2.2.name) (x1 := .slice (some ⟨x.1, 0, none⟩) n1 n1) (x2 := .slice A2 n2 c2) (x3 := .slice (some ⟨g8, 0, none⟩) (n3 + 1) c8) (x4 := .slice A4 n4 c4) (x5 := .slice A5 n5 c5) C9 hU9 (fun c hc => by have := hc.1; omega) D9 b0
      have HF := Lib.hid (show Drawn isTbl w (.returned (.agg #[.string x.2.2.name, .slice (some ⟨x.1, 0, none⟩) n1 n1, .slice A2 n2 c2, .slice (some ⟨g8, 0, none⟩) (n3 + 1) c8, .slice A4 n4 c4, .slice A5 n5 c5])) _ from ⟨_, rfl, ⟨_, _, _, rfl, hTb, Nat.le_trans hsu (by omega)⟩, hBw⟩)
      clear hTb hBw
      clear B9 C9 hT9 D9 hU9
      go_wp2_with fail
      refine bodyPost_ret (v := .agg #[.string x.2.2.name, .slice (some ⟨x.1, 0, none⟩) n1 n1, .slice A2 n2 c2, .slice (some ⟨g8, 0, none⟩) (n3 + 1) c8, .slice A4 n4 c4, .slice A5 n5 c5]) ?_ rfl HF.out
      simp [results, Try.results10, go_sem, z0, z1, z2, z3, z4, z5]
    refine AllReadyH.cons rfl (fun K hK => ?_) AllReadyH.nil
    go_simp
    have r3'' := (BT6.out.alloc (.cells #[.int .i64 uv] 2)).six.1.2.2.2.1
    refine hK.out _ _ trivial (fun hHeld => ?_)
    clear hK K
    (try simp only [Act.put, List.getElem_toArray, List.getElem_cons_zero, List.getElem_cons_succ, List.setIfInBounds_toArray, List.set_cons_zero, List.set_cons_succ])
    refine wpAnyH_take (i := 5) (v := ?v12) rfl (by kernel_rfl) (by kernel_rfl) (by kernel_rfl) (fun _ _ _ h => h) (Or.inl ⟨by rfl, ?hy12⟩) hHeld ?rest12
    case hy12 => (intro w' hSw; (try dsimp only at hSw); first | (go_simp; done) | (go_simp; with_reducible rfl))
    simp only [Act.put, List.getElem_toArray, List.getElem_cons_zero, List.getElem_cons_succ, List.setIfInBounds_toArray, List.set_cons_zero, List.set_cons_succ]
    refine wpAnyH_ready (rs := [1, 6]) (by kernel_rfl) (by simp) ?_
    refine AllReadyH.cons rfl (fun K hK => ?_) ?_
    · go_simp
      refine hK.out _ _ trivial (fun hHeld => ?_)
      clear hK K
      (try simp only [Act.put, List.getElem_toArray, List.getElem_cons_zero, List.getElem_cons_succ, List.setIfInBounds_toArray, List.set_cons_zero, List.set_cons_succ])
      refine wpAnyH_ready (rs := [6]) (by kernel_rfl) (by simp) ?_
      refine AllReadyH.cons rfl (fun K hK => ?_) AllReadyH.nil
      go_simp
      have BT7 := Lib.hid ((BT6.out.alloc (.cells #[.int .i64 uv] 2)).alloc (.cells #[.slice (some ⟨w6.heap.size, 0, none⟩) 1 1] 68))
      have BB7 := Lib.hid ((BB6.out.alloc (.cells #[.int .i64 uv] 2)).alloc (.cells #[.slice (some ⟨w6.heap.size, 0, none⟩) 1 1] 68))
      have HB7 := Lib.hid ((HB6.out.alloc (.cells #[.int .i64 uv] 2)).alloc (.cells #[.slice (some ⟨w6.heap.size, 0, none⟩) 1 1] 68))
      have HT7 := Lib.hid (HT6.out.hold ((Hold.alloc u.heap.size w6 (.cells #[.int .i64 uv] 2)).trans (Hold.alloc u.heap.size _ (.cells #[.slice (some ⟨w6.heap.size, 0, none⟩) 1 1] 68))))
      have hgx : u.heap.size ≤ w6.heap.size := HB6.out.size
      have hz1 : (w6.alloc (.cells #[.int .i64 uv] 2)).heap.size = w6.heap.size + 1 := by simp
      have G1 := Lib.hid ((Blo.new w6 [.int .i64 uv] 2).alloc (.cells #[.slice (some ⟨w6.heap.size, 0, none⟩) 1 1] 68))
      have G2 := Lib.hid (Blo.new (w6.alloc (.cells #[.int .i64 uv] 2)) [.slice (some ⟨w6.heap.size, 0, none⟩) 1 1] 68)
      have hz2 : ((w6.alloc (.cells #[.int .i64 uv] 2)).alloc (.cells #[.slice (some ⟨w6.heap.size, 0, none⟩) 1 1] 68)).heap.size = w6.heap.size + 1 + 1 := by simp
      rw [hz1] at G2
      generalize ((w6.alloc (.cells #[.int .i64 uv] 2)).alloc (.cells #[.slice (some ⟨w6.heap.size, 0, none⟩) 1 1] 68)) = W7 at *
      generalize w6.heap.size = gi at *
      have HZ1 := Lib.hid hz1
      have HZ2 := Lib.hid hz2
      clear hz1 hz2
      have r7 := BT7.out.six.1.2.2.2.1
      refine hK.out _ _ trivial (fun hHeld => ?_)
      clear hK K
      (try simp only [Act.put, List.getElem_toArray, List.getElem_cons_zero, List.getElem_cons_succ, List.setIfInBounds_toArray, List.set_cons_zero, List.set_cons_succ])
      refine wpAnyH_ready (rs := [7]) (by kernel_rfl) (by simp) ?_
      refine AllReadyH.cons rfl (fun K hK => ?_) AllReadyH.nil
      obtain ⟨olds, hol, hon, hoc, ho1, hn1k, hsl⟩ := (show _ from E6.out ▸ HT7.out : TabY u.heap.size W7 x.1 [.string x.2.2.name, .slice (some ⟨x.1, 0, none⟩) n1 n1, .slice A2 n2 c2, .slice A3 n3 n3, .slice A4 n4 c4, .slice A5 n5 c5] x.2.2).uCells
      have HSLU := Lib.hid hsl
      clear hsl
      refine step_append_grows rfl (.tmp 38) (.tmp 43) 30 rfl 68 i0 (.agg #[.slice none 0 0]) 1 24 Try.underlying30 H1.out H2.out H3.out H4.out rfl (by decide) A3 n3 n3 olds rfl (fun h => ⟨hon h, hon h⟩) (by rw [hol, Nat.mul_one]) hoc ⟨gi + 1, 0, none⟩ 1 1 [.slice (some ⟨gi, 0, none⟩) 1 1] rfl rfl (fun j y hj => by rw [addr_add, Nat.zero_add]; exact G2.out.cell j y hj) (fun y hy => by rw [List.mem_singleton.1 hy]; rfl) (by omega) (by unfold maxLen; omega) (by omega) ?_
      intro v8 w8 hown8 hgrow8
      obtain ⟨g8, c8, rfl⟩ := Joins.ownsRow_form hown8 (by omega)
      have hB8 : Below W7.heap.size W7 w8 := (Below.refl W7.heap.size W7).grown hgrow8 (Nat.le_refl _) (fun k hk => by cases hk)
      have BT8 := Lib.hid ((hB8.block gt BT7.out.lt).trans BT7.out)
      have BB8 := Lib.hid ((hB8.block w.heap.size BB7.out.lt).trans BB7.out)
      have HB8 := Lib.hid (but_above HB7.out (hB8.mono HB7.out.size))
      have HT8 := Lib.hid (HT7.out.hold (Hold.below hB8))
      have HN8 := Lib.hid (HSLU.out w8 g8 c8 gi uv hB8 hown8 HB7.out.size hgx G1.out)
      clear hown8 hgrow8
      have r8 := (show Blo w8 gt _ _ from BT8.out).six.1.2.2.2.1
      have f8 := (show Blo w8 gt _ _ from BT8.out).six.2.2.2.2.1
      refine hK.out _ _ trivial (fun hHeld => ?_)
      clear hK K
      (try simp only [Act.put, List.getElem_toArray, List.getElem_cons_zero, List.getElem_cons_succ, List.setIfInBounds_toArray, List.set_cons_zero, List.set_cons_succ])
      refine wpAnyH_take (i := 8) (v := ?v13) rfl (by kernel_rfl) (by kernel_rfl) (by kernel_rfl) (fun _ _ _ h => h) (Or.inl ⟨by rfl, ?hy13⟩) hHeld ?rest13
      case hy13 => (intro w' hSw; (try dsimp only at hSw); first | (go_simp; done) | (go_simp; with_reducible rfl))
      simp only [Act.put, List.getElem_toArray, List.getElem_cons_zero, List.getElem_cons_succ, List.setIfInBounds_toArray, List.set_cons_zero, List.set_cons_succ]
      refine wpAnyH_ready (rs := [9]) (by kernel_rfl) (by simp) ?_
      refine AllReadyH.cons rfl (fun K hK => ?_) AllReadyH.nil
      go_simp
      refine hK.out _ _ trivial (fun hHeld => ?_)
      clear hK K
      (try simp only [Act.put, List.getElem_toArray, List.getElem_cons_zero, List.getElem_cons_succ, List.setIfInBounds_toArray, List.set_cons_zero, List.set_cons_succ])
      refine wpAnyH_done (by kernel_rfl) ?_ _
      refine NoPanic.normal ?_
      clear hHeld
      have hne8 := HT8.out.ne (show Blo w8 gt _ _ from BT8.out)
      have hT9 := (HT8.out.set (p := ⟨gt, 3, none⟩) (show Blo w8 gt _ _ from BT8.out).tc hne8 (.slice (some ⟨g8, 0, none⟩) (n3 + 1) c8))
      rw [E6.out] at hT9
      have hU9 := hT9.tbU (HN8.out.1.stays UqR.stays (fun b h => okY.set (p := ⟨gt, 3, none⟩) (show Blo w8 gt _ _ from BT8.out).tc (.slice (some ⟨g8, 0, none⟩) (n3 + 1) c8) h) (fun q y h hc => cell_far hc (okY.ne h (show Blo w8 gt _ _ from BT8.out).tc))) HN8.out.2
      have hsu := sz_moreU x.2.2 uv
      have B9 := (show Blo w8 gt _ _ from BT8.out).put 3 (.slice (some ⟨g8, 0, none⟩) (n3 + 1) c8)
      have C9 := (show Blo w8 w.heap.size _ _ from BB8.out).set ⟨gt, 3, none⟩ hgb (.slice (some ⟨g8, 0, none⟩) (n3 + 1) c8)
      have D9 := (HB8.out.below (Nat.le_succ _) (by omega)).setCell (p := ⟨gt, 3, none⟩) (show w.heap.size ≤ gt by omega) (.slice (some ⟨g8, 0, none⟩) (n3 + 1) c8)
      generalize w8.setCell ⟨gt, 3, none⟩ (.slice (some ⟨g8, 0, none⟩) (n3 + 1) c8) = W9 at *
      clear r8 f8 r3
      obtain ⟨⟨r0, r1, r2, r3, r4, r5⟩, -⟩ := (show Blo W9 gt [.string x.2.2.name, .slice (some ⟨x.1, 0, none⟩) n1 n1, .slice A2 n2 c2, .slice (some ⟨g8, 0, none⟩) (n3 + 1) c8, .slice A4 n4 c4, .slice A5 n5 c5] _ from B9).six
      obtain ⟨⟨s0, s1, s2, s3, s4, s5⟩, ⟨p0, p1, p2, p3, p4, p5⟩⟩ := C9.six
      obtain ⟨⟨z0, z1, z2, z3, z4, z5⟩, hTb, hBw⟩ := tabEnd (x0 := .string x.2.2.name) (x1 := .slice (some ⟨x.1, 0, none⟩) n1 n1) (x2 := .slice A2 n2 c2) (x3 := .slice (some ⟨g8, 0, none⟩) (n3 + 1) c8) (x4 := .slice A4 n4 c4) (x5 := .slice A5 n5 c5) C9 hU9 (fun c hc => by have := hc.1; omega) D9 b0
      have HF := Lib.hid (show Drawn isTbl w (.returned (.agg #[.string x.2.2.name, .slice (some ⟨x.1, 0, none⟩) n1 n1, .slice A2 n2 c2, .slice (some ⟨g8, 0, none⟩) (n3 + 1) c8, .slice A4 n4 c4, .slice A5 n5 c5])) _ from ⟨_, rfl, ⟨_, _, _, rfl, hTb, Nat.le_trans hsu (by omega)⟩, hBw⟩)
      clear hTb hBw
      clear B9 C9 hT9 D9 hU9
      go_wp2_with fail
      refine bodyPost_ret (v := .agg #[.string x.2.2.name, .slice (some ⟨x.1, 0, none⟩) n1 n1, .slice A2 n2 c2, .slice (some ⟨g8, 0, none⟩) (n3 + 1) c8, .slice A4 n4 c4, .slice A5 n5 c5]) ?_ rfl HF.out
      simp [results, Try.results10, go_sem, z0, z1, z2, z3, z4, z5]
    refine AllReadyH.cons rfl (fun K hK => ?_) AllReadyH.nil
    go_simp
    have BT7 := Lib.hid ((BT6.out.alloc (.cells #[.int .i64 uv] 2)).alloc (.cells #[.slice (some ⟨w6.heap.size, 0, none⟩) 1 1] 68))
    have BB7 := Lib.hid ((BB6.out.alloc (.cells #[.int .i64 uv] 2)).alloc (.cells #[.slice (some ⟨w6.heap.size, 0, none⟩) 1 1] 68))
    have HB7 := Lib.hid ((HB6.out.alloc (.cells #[.int .i64 uv] 2)).alloc (.cells #[.slice (some ⟨w6.heap.size, 0, none⟩) 1 1] 68))
    have HT7 := Lib.hid (HT6.out.hold ((Hold.alloc u.heap.size w6 (.cells #[.int .i64 uv] 2)).trans (Hold.alloc u.heap.size _ (.cells #[.slice (some ⟨w6.heap.size, 0, none⟩) 1 1] 68))))
    have hgx : u.heap.size ≤ w6.heap.size := HB6.out.size
    have hz1 : (w6.alloc (.cells #[.int .i64 uv] 2)).heap.size = w6.heap.size + 1 := by simp
    have G1 := Lib.hid ((Blo.new w6 [.int .i64 uv] 2).alloc (.cells #[.slice (some ⟨w6.heap.size, 0, none⟩) 1 1] 68))
    have G2 := Lib.hid (Blo.new (w6.alloc (.cells #[.int .i64 uv] 2)) [.slice (some ⟨w6.heap.size, 0, none⟩) 1 1] 68)
    have hz2 : ((w6.alloc (.cells #[.int .i64 uv] 2)).alloc (.cells #[.slice (some ⟨w6.heap.size, 0, none⟩) 1 1] 68)).heap.size = w6.heap.size + 1 + 1 := by simp
    rw [hz1] at G2
    generalize ((w6.alloc (.cells #[.int .i64 uv] 2)).alloc (.cells #[.slice (some ⟨w6.heap.size, 0, none⟩) 1 1] 68)) = W7 at *
    generalize w6.heap.size = gi at *
    have HZ1 := Lib.hid hz1
    have HZ2 := Lib.hid hz2
    clear hz1 hz2
    have r7 := BT7.out.six.1.2.2.2.1
    refine hK.out _ _ trivial (fun hHeld => ?_)
    clear hK K
    (try simp only [Act.put, List.getElem_toArray, List.getElem_cons_zero, List.getElem_cons_succ, List.setIfInBounds_toArray, List.set_cons_zero, List.set_cons_succ])
    refine wpAnyH_ready (rs := [1]) (by kernel_rfl) (by simp) ?_
    refine AllReadyH.cons rfl (fun K hK => ?_) AllReadyH.nil
    go_simp
    refine hK.out _ _ trivial (fun hHeld => ?_)
    clear hK K
    (try simp only [Act.put, List.getElem_toArray, List.getElem_cons_zero, List.getElem_cons_succ, List.setIfInBounds_toArray, List.set_cons_zero, List.set_cons_succ])
    refine wpAnyH_ready (rs := [7]) (by kernel_rfl) (by simp) ?_
    refine AllReadyH.cons rfl (fun K hK => ?_) AllReadyH.nil
    obtain ⟨olds, hol, hon, hoc, ho1, hn1k, hsl⟩ := (show _ from E6.out ▸ HT7.out : TabY u.heap.size W7 x.1 [.string x.2.2.name, .slice (some ⟨x.1, 0, none⟩) n1 n1, .slice A2 n2 c2, .slice A3 n3 n3, .slice A4 n4 c4, .slice A5 n5 c5] x.2.2).uCells
    have HSLU := Lib.hid hsl
    clear hsl
    refine step_append_grows rfl (.tmp 38) (.tmp 43) 30 rfl 68 i0 (.agg #[.slice none 0 0]) 1 24 Try.underlying30 H1.out H2.out H3.out H4.out rfl (by decide) A3 n3 n3 olds rfl (fun h => ⟨hon h, hon h⟩) (by rw [hol, Nat.mul_one]) hoc ⟨gi + 1, 0, none⟩ 1 1 [.slice (some ⟨gi, 0, none⟩) 1 1] rfl rfl (fun j y hj => by rw [addr_add, Nat.zero_add]; exact G2.out.cell j y hj) (fun y hy => by rw [List.mem_singleton.1 hy]; rfl) (by omega) (by unfold maxLen; omega) (by omega) ?_
    intro v8 w8 hown8 hgrow8
    obtain ⟨g8, c8, rfl⟩ := Joins.ownsRow_form hown8 (by omega)
    have hB8 : Below W7.heap.size W7 w8 := (Below.refl W7.heap.size W7).grown hgrow8 (Nat.le_refl _) (fun k hk => by cases hk)
    have BT8 := Lib.hid ((hB8.block gt BT7.out.lt).trans BT7.out)
    have BB8 := Lib.hid ((hB8.block w.heap.size BB7.out.lt).trans BB7.out)
    have HB8 := Lib.hid (but_above HB7.out (hB8.mono HB7.out.size))
    have HT8 := Lib.hid (HT7.out.hold (Hold.below hB8))
    have HN8 := Lib.hid (HSLU.out w8 g8 c8 gi uv hB8 hown8 HB7.out.size hgx G1.out)
    clear hown8 hgrow8
    have r8 := (show Blo w8 gt _ _ from BT8.out).six.1.2.2.2.1
    have f8 := (show Blo w8 gt _ _ from BT8.out).six.2.2.2.2.1
    refine hK.out _ _ trivial (fun hHeld => ?_)
    clear hK K
    (try simp only [Act.put, List.getElem_toArray, List.getElem_cons_zero, List.getElem_cons_succ, List.setIfInBounds_toArray, List.set_cons_zero, List.set_cons_succ])
    refine wpAnyH_take (i := 8) (v := ?v14) rfl (by kernel_rfl) (by kernel_rfl) (by kernel_rfl) (fun _ _ _ h => h) (Or.inl ⟨by rfl, ?hy14⟩) hHeld ?rest14
    case hy14 => (intro w' hSw; (try dsimp only at hSw); first | (go_simp; done) | (go_simp; with_reducible rfl))
    simp only [Act.put, List.getElem_toArray, List.getElem_cons_zero, List.getElem_cons_succ, List.setIfInBounds_toArray, List.set_cons_zero, List.set_cons_succ]
    refine wpAnyH_ready (rs := [9]) (by kernel_rfl) (by simp) ?_
    refine AllReadyH.cons rfl (fun K hK => ?_) AllReadyH.nil
    go_simp
    refine hK.out _ _ trivial (fun hHeld => ?_)
    clear hK K
    (try simp only [Act.put, List.getElem_toArray, List.getElem_cons_zero, List.getElem_cons_succ, List.setIfInBounds_toArray, List.set_cons_zero, List.set_cons_succ])
    refine wpAnyH_done (by kernel_rfl) ?_ _
    refine NoPanic.normal ?_
    clear hHeld
    have hne8 := HT8.out.ne (show Blo w8 gt _ _ from BT8.out)
    have hT9 := (HT8.out.set (p := ⟨gt, 3, none⟩) (show Blo w8 gt _ _ from BT8.out).tc hne8 (.slice (some ⟨g8, 0, none⟩) (n3 + 1) c8))
    rw [E6.out] at hT9
    have hU9 := hT9.tbU (HN8.out.1.stays UqR.stays (fun b h => okY.set (p := ⟨gt, 3, none⟩) (show Blo w8 gt _ _ from BT8.out).tc (.slice (some ⟨g8, 0, none⟩) (n3 + 1) c8) h) (fun q y h hc => cell_far hc (okY.ne h (show Blo w8 gt _ _ from BT8.out).tc))) HN8.out.2
    have hsu := sz_moreU x.2.2 uv
    have B9 := (show Blo w8 gt _ _ from BT8.out).put 3 (.slice (some ⟨g8, 0, none⟩) (n3 + 1) c8)
    have C9 := (show Blo w8 w.heap.size _ _ from BB8.out).set ⟨gt, 3, none⟩ hgb (.slice (some ⟨g8, 0, none⟩) (n3 + 1) c8)
    have D9 := (HB8.out.below (Nat.le_succ _) (by omega)).setCell (p := ⟨gt, 3, none⟩) (show w.heap.size ≤ gt by omega) (.slice (some ⟨g8, 0, none⟩) (n3 + 1) c8)
    generalize w8.setCell ⟨gt, 3, none⟩ (.slice (some ⟨g8, 0, none⟩) (n3 + 1) c8) = W9 at *
    clear r8 f8 r3
    obtain ⟨⟨r0, r1, r2, r3, r4, r5⟩, -⟩ := (show Blo W9 gt [.string x.2.2.name, .slice (some ⟨x.1, 0, none⟩) n1 n1, .slice A2 n2 c2, .slice (some ⟨g8, 0, none⟩) (n3 + 1) c8, .slice A4 n4 c4, .slice A5 n5 c5] _ from B9).six
    obtain ⟨⟨s0, s1, s2, s3, s4, s5⟩, ⟨p0, p1, p2, p3, p4, p5⟩⟩ := C9.six
    obtain ⟨⟨z0, z1, z2, z3, z4, z5⟩, hTb, hBw⟩ := tabEnd (x0 := .string x.2.2.name) (x1 := .slice (some ⟨x.1, 0, none⟩) n1 n1) (x2 := .slice A2 n2 c2) (x3 := .slice (some ⟨g8, 0, none⟩) (n3 + 1) c8) (x4 := .slice A4 n4 c4) (x5 := .slice A5 n5 c5) C9 hU9 (fun c hc => by have := hc.1; omega) D9 b0
    have HF := Lib.hid (show Drawn isTbl w (.returned (.agg #[.string x.2.2.name, .slice (some ⟨x.1, 0, none⟩) n1 n1, .slice A2 n2 c2, .slice (some ⟨g8, 0, none⟩) (n3 + 1) c8, .slice A4 n4 c4, .slice A5 n5 c5])) _ from ⟨_, rfl, ⟨_, _, _, rfl, hTb, Nat.le_trans hsu (by omega)⟩, hBw⟩)
    clear hTb hBw
    clear B9 C9 hT9 D9 hU9
    go_wp2_with fail
    refine bodyPost_ret (v := .agg #[.string x.2.2.name, .slice (some ⟨x.1, 0, none⟩) n1 n1, .slice A2 n2 c2, .slice (some ⟨g8, 0, none⟩) (n3 + 1) c8, .slice A4 n4 c4, .slice A5 n5 c5]) ?_ rfl HF.out
    simp [results, Try.results10, go_sem, z0, z1, z2, z3, z4, z5]
  · have m5 : (y == 5) = false := by simpa using n5'
    have m6 : (y == 6) = false := by simpa using n6'
    have m7 : (y == 7) = false := by simpa using n7'
    obtain ⟨⟨r0, r1, r2, r3, r4, r5⟩, -⟩ := BT.out.six
    obtain ⟨⟨s0, s1, s2, s3, s4, s5⟩, ⟨f0, f1, f2, f3, f4, f5⟩⟩ := BB.out.six
    obtain ⟨⟨z0, z1, z2, z3, z4, z5⟩, hTb, hBw⟩ := tabEnd (x0 := .string x.2.2.name) (x1 := .slice (some ⟨x.1, 0, none⟩) n1 n1) (x2 := .slice A2 n2 c2) (x3 := .slice A3 n3 c3) (x4 := .slice A4 n4 c4) (x5 := .slice A5 n5 c5) BB.out HT.out.reads (fun c hc => by have := hc.1; omega) (HB4.out.below (Nat.le_succ _) (by omega)) b0
    rw [E6.out] at hTb
    have HF := Lib.hid (show Drawn isTbl w (.returned (.agg #[.string x.2.2.name, .slice (some ⟨x.1, 0, none⟩) n1 n1, .slice A2 n2 c2, .slice A3 n3 c3, .slice A4 n4 c4, .slice A5 n5 c5])) _ from ⟨_, rfl, ⟨_, _, _, rfl, hTb, by omega⟩, hBw⟩)
    clear hTb hBw
    go_wp2_with fail
    refine bodyPost_ret (v := .agg #[.string x.2.2.name, .slice (some ⟨x.1, 0, none⟩) n1 n1, .slice A2 n2 c2, .slice A3 n3 c3, .slice A4 n4 c4, .slice A5 n5 c5]) ?_ rfl HF.out
    simp [results, Try.results10, go_sem, z0, z1, z2, z3, z4, z5]
end Go.Proofs.Ytjlolfikaahobaa
