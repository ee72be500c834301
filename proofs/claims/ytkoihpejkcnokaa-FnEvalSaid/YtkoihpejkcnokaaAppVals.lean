/-
  append of values onto a row of the call's own, inside a region that draws its order.
-/
import Derived.Test.YtkoihpejkcnokaaAppends
import Derived.Test.YtkoihpejkcnokaaLawVals2
namespace Go.Proofs.Ytkoihpejkcnokaa
open Go.RowKit

/-- A row of the call's own that holds values. -/
def OwnVals (w : World) (base g n cp : Nat) (vs : List Vl) : Prop := w.ownsRow base 30 3 (.slice (some ⟨g, 0, none⟩) n cp) n ((vs.map Vl.cells).flatten)

theorem flat3_length (vs : List Vl) : ((vs.map Vl.cells).flatten).length = vs.length * 3 := by
  induction vs with
  | nil => rfl
  | cons v vs ih => simp only [List.map_cons, List.flatten_cons, List.length_append, ih, List.length_cons, Vl.cells, List.length_nil]; omega

theorem own0 {w : World} {base g : Nat} (h : Row w g 30 #[]) (hb : base ≤ g) : OwnVals w base g 0 0 [] :=
  ⟨rfl, .inr ⟨g, 0, #[], rfl, hb, h, Nat.le_refl _, by simp [maxLen], rfl, rfl⟩⟩

theorem OwnVals.vals {w : World} {base g n cp : Nat} {vs : List Vl} (h : OwnVals w base g n cp vs) (hn : vs.length = n) : Vals w (some ⟨g, 0, none⟩) n vs ∧ n ≤ cp ∧ cp ≤ maxLen :=
  cellz_of_owns h rfl (by simpa using hn) (fun c hc => by obtain ⟨v, _, rfl⟩ := List.mem_map.1 hc; rfl)

theorem OwnVals.alloc {w : World} {base g n cp : Nat} {vs : List Vl} (h : OwnVals w base g n cp vs) (o : Obj) : OwnVals (w.alloc o) base g n cp vs := World.ownsRow.alloc h o

theorem vals_one {w : World} {g : Nat} {v : Vl} (h : Row w g 30 #[.int .i64 v.k, .int .i64 v.n, .string v.s]) : Vals w (some ⟨g, 0, none⟩) 1 [v] := by
  obtain ⟨⟨c0, c1, c2⟩, -⟩ := h.three
  refine ⟨rfl, by simp [Vl.cells], fun _ => ⟨g, 0, rfl, fun i hi j hj => ?_⟩⟩
  have hi0 : i = 0 := by simp at hi; omega
  subst hi0
  have hj3 : j < 3 := by simpa [Vl.cells] using hj
  have : j = 0 ∨ j = 1 ∨ j = 2 := by omega
  rcases this with rfl | rfl | rfl <;> simpa [Vl.cells]

theorem Vals.take {w : World} {A : Option Addr} {n m : Nat} {vs : List Vl} (h : Vals w A n vs) (hm : m ≤ n) : Vals w A m (vs.take m) := by
  have hl := h.len
  refine ⟨by simp; omega, fun c hc => by obtain ⟨v, _, rfl⟩ := List.mem_map.1 hc; rfl, fun hn => ?_⟩
  obtain ⟨b, off, e, hc⟩ := h.2.2 (by omega)
  refine ⟨b, off, e, fun i hi j hj => ?_⟩
  simp only [List.length_map, List.length_take] at hi
  have := hc i (by simp; omega) j (by simpa using hj)
  simpa using this

theorem Vals.news {w : World} {ad : Addr} {m : Nat} {us : List Vl} (h : Vals w (some ad) m us) (hs : ad.spot = none) : ∀ j u, ((us.map Vl.cells).flatten)[j]? = some u → w.cell? (ad.add j) = some u := by
  intro j u hu
  obtain ⟨b, off, sp⟩ := ad
  simp only at hs
  subst hs
  have hl := h.len
  have hj : j < us.length * 3 := by rw [← flat3_length]; exact (List.getElem?_eq_some_iff.1 hu).1
  have h0 : 0 < m := by omega
  obtain ⟨b', off', e, hc⟩ := h.2.2 h0
  cases e
  rw [addr_add]
  have hflat : ∀ (l : List Vl) (i k : Nat), k < 3 → i < l.length → ((l.map Vl.cells).flatten)[i * 3 + k]? = (l[i]?.bind fun v => v.cells[k]?) := by
    intro l
    induction l with
    | nil => intro i k _ hi; simp at hi
    | cons v l ih =>
      intro i k hk hi
      cases i with
      | zero => simp only [List.map_cons, List.flatten_cons, Nat.zero_mul, Nat.zero_add, List.getElem?_cons_zero, Option.bind_some]; rw [List.getElem?_append_left (by simpa [Vl.cells] using hk)]
      | succ i =>
        simp only [List.map_cons, List.flatten_cons, List.getElem?_cons_succ]
        rw [List.getElem?_append_right (by simp [Vl.cells]; omega), show (i + 1) * 3 + k - v.cells.length = i * 3 + k by simp [Vl.cells]; omega]
        exact ih i k hk (by simpa using hi)
  have hd : j / 3 < us.length := by omega
  have he : j = j / 3 * 3 + j % 3 := by omega
  have hm3 : j % 3 < 3 := by omega
  rw [he, hflat us _ _ hm3 hd, List.getElem?_eq_getElem hd] at hu
  simp only [Option.bind_some] at hu
  obtain ⟨hk, hv⟩ := List.getElem?_eq_some_iff.1 hu
  have := hc (j / 3) (by simpa using hd) (j % 3) (by simpa using hk)
  rw [he, this]
  simp [← hv]

theorem infoVl : ∃ (i : TypeInfo) (z : Value), Try.prog.info? 30 = some i ∧ i.zero = some z ∧ i.size = 3 ∧ i.bytes = 32 ∧ z.cells.size = 3 := by
  obtain ⟨i, h1, h2, h3, h4⟩ := info_parts infoVal
  exact ⟨i, _, h1, h2, h3, h4, rfl⟩

theorem step_app_vals {w : World} {ops : Array Oper} {o : Oper} {a : Act} {K : Act → World → Prop} {Q : Exit → Act → World → Prop} {E : Prop} (hgd : o.guard = none) (s x : Operand)
    (ho : o.op = .call { callee := .builtin .append, args := #[s, x], argTypes := #[25, 25] })
    (base g n cp : Nat) (vs : List Vl) (hs : a.eval s = .slice (some ⟨g, 0, none⟩) n cp) (hown : OwnVals w base g n cp vs)
    (ad : Addr) (m c : Nat) (us : List Vl) (hx : a.eval x = .slice (some ad) m c) (hsp : ad.spot = none) (hu : Vals w (some ad) m us) (hsm : n + m ≤ 1000000) (hbase : base ≤ w.heap.size)
    (h : ∀ g' cap w', OwnVals w' base g' (n + m) cap (vs ++ us) → w.grownBy w' (some g) → base ≤ g' → K (a.put o.dst (.slice (some ⟨g', 0, none⟩) (n + m) cap)) w') :
    if Region.wanted o (yielded ops a.tmps) = true then Oper.wp Try.prog o a w K Q else E := by
  obtain ⟨i, z, h1, h2, h3, h4, h5⟩ := infoVl
  refine step_app hgd s x 25 ho base 30 i z 3 32 Try.underlying25 h1 h2 h3 h4 h5 (by omega) ⟨g, 0, none⟩ n cp _ hs hown ad m c _ hx ?_ (Vals.news hu hsp) ?_ (by unfold maxLen; omega) (by omega) hbase ?_
  · rw [flat3_length, hu.len]
  · intro u hu'
    rw [List.mem_flatten] at hu'
    obtain ⟨c, hc, hu'⟩ := hu'
    obtain ⟨v, _, rfl⟩ := List.mem_map.1 hc
    simp only [Vl.cells, List.mem_cons, List.not_mem_nil, or_false] at hu'
    rcases hu' with rfl | rfl | rfl <;> rfl
  · intro g' cap w' ho' hg' hb'
    refine h g' cap w' ?_ hg' hb'
    unfold OwnVals
    rw [List.map_append, List.flatten_append]
    exact ho'

theorem step_app_vals0 {w : World} {ops : Array Oper} {o : Oper} {a : Act} {K : Act → World → Prop} {Q : Exit → Act → World → Prop} {E : Prop} (hgd : o.guard = none) (s x : Operand)
    (ho : o.op = .call { callee := .builtin .append, args := #[s, x], argTypes := #[25, 25] })
    (base g : Nat) (hs : a.eval s = .slice (some ⟨g, 0, none⟩) 0 0) (hrow : Row w g 30 #[]) (hbg : base ≤ g)
    (ad : Addr) (m c : Nat) (us : List Vl) (hx : a.eval x = .slice (some ad) m c) (hsp : ad.spot = none) (hu : Vals w (some ad) m us) (hsm : m ≤ 1000000) (hbase : base ≤ w.heap.size)
    (h : ∀ g' cap w', OwnVals w' base g' m cap us → w.grownBy w' (some g) → base ≤ g' → K (a.put o.dst (.slice (some ⟨g', 0, none⟩) m cap)) w') :
    if Region.wanted o (yielded ops a.tmps) = true then Oper.wp Try.prog o a w K Q else E := by
  refine step_app_vals hgd s x ho base g 0 0 [] hs (own0 hrow hbg) ad m c us hx hsp hu (by omega) hbase ?_
  intro g' cap w' h1 h2 h3
  rw [Nat.zero_add] at h1 ⊢
  exact h g' cap w' h1 h2 h3

/-- A row of the call's own has turned: the world below its base is as it was. -/
theorem grown_below {base g : Nat} {w w' : World} (h : w.grownBy w' (some g)) (hg : base ≤ g) (hw : base ≤ w.heap.size) : Below base w w' :=
  ⟨h.os, h.tape, h.output, h.size, fun k hk => h.block k (by omega) (by intro e; cases e; omega)⟩
theorem grown_row {w w' : World} {g b : Nat} {T : TypeId} {cs : Array Value} (h : w.grownBy w' (some g)) (hr : Row w b T cs) (hne : b ≠ g) : Row w' b T cs :=
  (h.block b (lt_of_block hr) (by intro e; cases e; exact hne rfl)).trans hr
theorem keep3g {w w' : World} {g : Nat} {a0 a1 a2 : Addr} {v0 v1 v2 : Value} (h : w.cell? a0 = some v0 ∧ w.cell? a1 = some v1 ∧ w.cell? a2 = some v2) (hg : w.grownBy w' (some g)) (n0 : a0.block ≠ g) (n1 : a1.block ≠ g) (n2 : a2.block ≠ g) : w'.cell? a0 = some v0 ∧ w'.cell? a1 = some v1 ∧ w'.cell? a2 = some v2 :=
  ⟨hg.cell h.1 (by intro e; cases e; exact n0 rfl), hg.cell h.2.1 (by intro e; cases e; exact n1 rfl), hg.cell h.2.2 (by intro e; cases e; exact n2 rfl)⟩
end Go.Proofs.Ytkoihpejkcnokaa
