/-
  Marks in a list whose elements hold lists themselves: each list lies in a block of its own, and a mark turns no block but its own.
-/
import Derived.Test.YtkinegapnknhiaaMarkX
namespace Go.Proofs.Ytkinegapnknhiaa
open Go.RowKit
set_option linter.unusedVariables false
set_option linter.unusedSimpArgs false

/-- Of the blocks that there are, only those of bs have turned. -/
structure KeptL (bs : List Nat) (w w' : World) : Prop where
  os : w'.os = w.os
  tape : w'.tape = w.tape
  output : w'.output = w.output
  size : w.heap.size ≤ w'.heap.size
  block : ∀ k, k < w.heap.size → k ∉ bs → w'.heap[k]? = w.heap[k]?
  frozen : ∀ p : Addr, p.block < w.heap.size → w'.frozen? p = w.frozen? p

theorem KeptL.refl (bs : List Nat) (w : World) : KeptL bs w w := ⟨rfl, rfl, rfl, Nat.le_refl _, fun _ _ _ => rfl, fun _ _ => rfl⟩
theorem KeptL.trans {bs : List Nat} {a b c : World} (h : KeptL bs a b) (k : KeptL bs b c) : KeptL bs a c :=
  ⟨k.os.trans h.os, k.tape.trans h.tape, k.output.trans h.output, Nat.le_trans h.size k.size, fun i hi ho => (k.block i (Nat.lt_of_lt_of_le hi h.size) ho).trans (h.block i hi ho),
   fun p hp => (k.frozen p (Nat.lt_of_lt_of_le hp h.size)).trans (h.frozen p hp)⟩
theorem KeptL.mono {bs cs : List Nat} {a b : World} (h : KeptL bs a b) (hc : ∀ x ∈ bs, x ∈ cs) : KeptL cs a b :=
  ⟨h.os, h.tape, h.output, h.size, fun k hk ho => h.block k hk fun hh => ho (hc _ hh), h.frozen⟩
theorem KeptL.below {bs : List Nat} {w w' : World} (h : Below w.heap.size w w') : KeptL bs w w' :=
  ⟨h.os, h.tape, h.output, h.size, fun k hk _ => h.block k hk, fun p hp => World.frozen?_of_block (w := w) (h.block p.block hp)⟩
theorem KeptL.of {b : Nat} {w w' : World} (h : Kept b (b + 1) w w') : KeptL [b] w w' :=
  ⟨h.os, h.tape, h.output, h.size, fun k hk ho => h.block k hk (by rw [List.mem_singleton] at ho; omega), h.frozen⟩
theorem KeptL.of0 {bs : List Nat} {w w' : World} (h : Kept 0 0 w w') : KeptL bs w w' :=
  ⟨h.os, h.tape, h.output, h.size, fun k hk _ => h.block k hk (Or.inr (Nat.zero_le _)), h.frozen⟩
theorem KeptL.far {bs : List Nat} {w w' : World} (h : KeptL bs w w') {p : Addr} {v : Value} (hp : p.block ∉ bs) (hc : w.cell? p = some v) : w'.cell? p = some v :=
  (World.cell?_of_block (w := w) (h.block p.block (cell_lt hc) hp)).trans hc
theorem KeptL.set {bs : List Nat} {a w : World} (h : KeptL bs a w) {p : Addr} {u : Value} (hp : p.block ∈ bs) : KeptL bs a (w.setCell p u) :=
  ⟨h.os, h.tape, h.output, by simpa [World.setCell] using h.size, fun k hk ho => by
    rw [Below.heap_setCell _ _ _ _ (fun hh => ho (by rw [hh]; exact hp))]
    exact h.block k hk ho, fun q hq => (frozen_setCell w p u q).trans (h.frozen q hq)⟩
theorem KeptL.toBelow {bs : List Nat} {G : Nat} {a w w' : World} (h : Below G a w) (k : KeptL bs w w') (hG : ∀ b ∈ bs, G ≤ b) (ha : G ≤ w.heap.size) : Below G a w' :=
  ⟨k.os.trans h.os, k.tape.trans h.tape, k.output.trans h.output, Nat.le_trans h.size k.size, fun i hi => (k.block i (by omega) (fun hh => by have := hG i hh; omega)).trans (h.block i hi)⟩

/-- A list of elements without lists, in a block of bs that may be marked. -/
def FlS (sz : Nat) (w : World) (A : Option Addr) (n : Nat) (bs : List Nat) : Prop :=
  bs.length ≤ 1 ∧ n ≤ 1048576 ∧ (∀ b ∈ bs, b < w.heap.size ∧ ∀ off, w.frozen? ⟨b, off, none⟩ = false) ∧ ∃ ms, Sl (ShF sz) sz (· ∈ bs) w A n ms
theorem ShF.stays (m : Nat) : Stays (ShF m) := fun _ _ _ _ _ _ h _ _ => h
theorem FlS.stay {sz : Nat} {w w' : World} {A : Option Addr} {n : Nat} {bs bs' : List Nat} (h : FlS sz w A n bs) (k : KeptL bs' w w') (hd : ∀ x ∈ bs, x ∉ bs') : FlS sz w' A n bs := by
  obtain ⟨h1, h2, h3, ms, h4⟩ := h
  exact ⟨h1, h2, fun b hb => ⟨Nat.lt_of_lt_of_le (h3 b hb).1 k.size, fun off => (k.frozen ⟨b, off, none⟩ (h3 b hb).1).trans ((h3 b hb).2 off)⟩, ms,
    h4.stays (ShF.stays sz) (fun _ h => h) fun p v hb hp => k.far (hd _ hb) hp⟩
/-- What the marks leave in it. -/
def FlH (f : Nat → Nat → Value) (sz : Nat) (w : World) (k : Nat) (A : Option Addr) (n : Nat) (bs : List Nat) : Prop :=
  n ≤ 1048576 ∧ (0 < n * sz → ∃ b off, A = some ⟨b, off, none⟩ ∧ b ∈ bs ∧ ∀ j, j < n * sz → w.cell? ⟨b, off + j, none⟩ = some (f k j))
theorem FlH.mk {f : Nat → Nat → Value} {sz : Nat} {w : World} {k : Nat} {A : Option Addr} {n : Nat} {bs : List Nat} (h : FlH f sz w k A n bs) : Mk (f k) w A (n * sz) := fun hn => by
  obtain ⟨b, off, e, -, hc⟩ := h.2 hn
  exact ⟨b, off, e, hc⟩
theorem FlH.stay {f : Nat → Nat → Value} {sz : Nat} {w w' : World} {k : Nat} {A : Option Addr} {n : Nat} {bs bs' : List Nat} (h : FlH f sz w k A n bs) (kk : KeptL bs' w w') (hd : ∀ x ∈ bs, x ∉ bs') : FlH f sz w' k A n bs :=
  ⟨h.1, fun hn => by
    obtain ⟨b, off, e, hb, hc⟩ := h.2 hn
    exact ⟨b, off, e, hb, fun j hj => kk.far (hd b hb) (hc j hj)⟩⟩
/-- A flat list is marked by the marks that are there. -/
theorem FlS.pick {sz : Nat} {w : World} {A : Option Addr} {n : Nat} {bs : List Nat} (h : FlS sz w A n bs) (f : Nat → Nat → Value) (k : Nat) :
    n ≤ 1048576 ∧ ∃ B E ms, Sl (ShF sz) sz (· ∈ bs) w A n ms ∧ mayMark B E w (· ∈ bs) ∧ (∀ w', Kept B E w w' → KeptL bs w w') ∧ ∀ w', Mk (f k) w' A (n * sz) → FlH f sz w' k A n bs := by
  obtain ⟨h1, h2, h3, ms, h4⟩ := h
  have hF : ∀ w', Mk (f k) w' A (n * sz) → FlH f sz w' k A n bs := fun w' hM => ⟨h2, fun hn => by
    obtain ⟨b, off, e, hc⟩ := hM hn
    obtain ⟨b', off', e', hb, -⟩ := h4.2 (Nat.pos_of_mul_pos_right hn)
    obtain ⟨rfl, rfl⟩ : b' = b ∧ off' = off := by rw [e] at e'; cases e'; exact ⟨rfl, rfl⟩
    exact ⟨b', off', e, hb, hc⟩⟩
  refine ⟨h2, ?_⟩
  match bs, h1 with
  | [], _ => exact ⟨0, 0, ms, h4, (fun b hb => by simp at hb), fun w' hk => KeptL.of0 hk, hF⟩
  | [b], _ => exact ⟨b, b + 1, ms, h4, (fun x hx => by
      obtain rfl : x = b := by simpa using hx
      exact ⟨Nat.le_refl _, by omega, (h3 x (by simp)).1, (h3 x (by simp)).2⟩), fun w' hk => KeptL.of hk, hF⟩

def cellsAt (w : World) (b o : Nat) (cs : List Value) : Prop := ∀ (t : Nat) (v : Value), cs[t]? = some v → w.cell? ⟨b, o + t, none⟩ = some v

/-- What is told of an element that may be marked: its cells, how many marks it takes, the blocks of its lists. -/
abbrev ElS := World → List Value → Nat → List Nat → Prop
/-- What is told of an element that has been marked from k on. -/
abbrev ElH := World → Nat → List Value → Nat → List Nat → Prop
def StayS (S : ElS) : Prop := ∀ (w w' : World) (cs : List Value) (cnt : Nat) (bs bs' : List Nat), S w cs cnt bs → KeptL bs' w w' → (∀ x ∈ bs, x ∉ bs') → S w' cs cnt bs
def StayH (H : ElH) : Prop := ∀ (w w' : World) (k : Nat) (cs : List Value) (cnt : Nat) (bs bs' : List Nat), H w k cs cnt bs → KeptL bs' w w' → (∀ x ∈ bs, x ∉ bs') → H w' k cs cnt bs

/-- A list of such elements, that may be marked. -/
structure NS (S : ElS) (sz : Nat) (w : World) (b off n : Nat) (cnts : List Nat) (bss : List (List Nat)) : Prop where
  l1 : cnts.length = n
  l2 : bss.length = n
  nodup : (b :: bss.flatten).Nodup
  lt : b < w.heap.size
  fr : ∀ o, w.frozen? ⟨b, o, none⟩ = false
  el : ∀ i, i < n → ∃ cs, cs.length = sz ∧ S w cs (cnts.getD i 0) (bss.getD i []) ∧ cellsAt w b (off + i * sz) cs
def ShL (S : ElS) (sz : Nat) (w : World) (A : Option Addr) (n : Nat) (cnts : List Nat) (bs : List Nat) : Prop :=
  n ≤ 1048576 ∧ (n = 0 ∧ cnts = [] ∧ bs = [] ∨ ∃ b off bss, A = some ⟨b, off, none⟩ ∧ bs = b :: bss.flatten ∧ NS S sz w b off n cnts bss)
/-- Such a list that has been marked from k on. -/
structure NH (H : ElH) (sz : Nat) (w : World) (k b off n : Nat) (cnts : List Nat) (bss : List (List Nat)) : Prop where
  l1 : cnts.length = n
  l2 : bss.length = n
  el : ∀ i, i < n → ∃ cs, cs.length = sz ∧ H w (k + (cnts.take i).sum) cs (cnts.getD i 0) (bss.getD i []) ∧ cellsAt w b (off + i * sz) cs
def HdL (H : ElH) (sz : Nat) (w : World) (k : Nat) (A : Option Addr) (n : Nat) (cnts : List Nat) (bs : List Nat) : Prop :=
  n ≤ 1048576 ∧ (n = 0 ∧ cnts = [] ∧ bs = [] ∨ ∃ b off bss, A = some ⟨b, off, none⟩ ∧ bs = b :: bss.flatten ∧ NH H sz w k b off n cnts bss)

theorem mem_flatten_getD {bss : List (List Nat)} {i x : Nat} (h : x ∈ bss.getD i []) : x ∈ bss.flatten := by
  by_cases hi : i < bss.length
  · rw [List.getD_eq_getElem?_getD, List.getElem?_eq_getElem hi] at h
    exact List.mem_flatten.2 ⟨bss[i], List.getElem_mem hi, h⟩
  · rw [List.getD_eq_getElem?_getD, List.getElem?_eq_none (by omega)] at h
    simp at h
theorem apart {b : Nat} {bss : List (List Nat)} (h : (b :: bss.flatten).Nodup) {i j x : Nat} (hx : x ∈ bss.getD i []) (hj : x ∈ bss.getD j []) : i = j := by
  have hi : i < bss.length := by
    rcases Nat.lt_or_ge i bss.length with h1 | h1
    · exact h1
    · rw [List.getD_eq_getElem?_getD, List.getElem?_eq_none h1] at hx; simp at hx
  have hjl : j < bss.length := by
    rcases Nat.lt_or_ge j bss.length with h1 | h1
    · exact h1
    · rw [List.getD_eq_getElem?_getD, List.getElem?_eq_none h1] at hj; simp at hj
  rw [List.getD_eq_getElem?_getD, List.getElem?_eq_getElem hi] at hx
  rw [List.getD_eq_getElem?_getD, List.getElem?_eq_getElem hjl] at hj
  have hp := (List.pairwise_iff_getElem.1 (List.pairwise_flatten.1 (List.nodup_cons.1 h).2).2)
  rcases Nat.lt_trichotomy i j with h1 | h1 | h1
  · exact absurd rfl (hp i j hi hjl h1 x hx x hj)
  · exact h1
  · exact absurd rfl (hp j i hjl hi h1 x hj x hx)
theorem apart0 {b : Nat} {bss : List (List Nat)} (h : (b :: bss.flatten).Nodup) {i x : Nat} (hx : x ∈ bss.getD i []) : x ≠ b := fun e => (List.nodup_cons.1 h).1 (e ▸ mem_flatten_getD hx)
theorem mem_take_flatten {bss : List (List Nat)} {i x : Nat} (h : x ∈ (bss.take i).flatten) : ∃ j, j < i ∧ x ∈ bss.getD j [] := by
  obtain ⟨l, hl, hx⟩ := List.mem_flatten.1 h
  obtain ⟨j, hj, rfl⟩ := List.mem_iff_getElem.1 hl
  simp only [List.length_take] at hj
  refine ⟨j, by omega, ?_⟩
  rw [List.getElem_take] at hx
  rw [List.getD_eq_getElem?_getD, List.getElem?_eq_getElem (by omega)]
  exact hx
theorem sum_take_getD (l : List Nat) (k : Nat) (h : k < l.length) : (l.take (k + 1)).sum = (l.take k).sum + l.getD k 0 := by
  rw [sum_take_n l k h, List.getD_eq_getElem?_getD, List.getElem?_eq_getElem h]; rfl
theorem take_le_sum (l : List Nat) (k : Nat) : (l.take k).sum ≤ l.sum := sum_take_n_le l k

/-- Where the loop of the marks stands: the first i elements are marked, the others as they were. -/
structure NI (H : ElH) (sz : Nat) (w : World) (b off k n : Nat) (cnts : List Nat) (bss : List (List Nat)) (i : Nat) (wr : World) : Prop where
  kept : KeptL (b :: (bss.take i).flatten) w wr
  same : ∀ o, off + i * sz ≤ o → wr.cell? ⟨b, o, none⟩ = w.cell? ⟨b, o, none⟩
  done : ∀ j, j < i → ∃ cs, cs.length = sz ∧ H wr (k + (cnts.take j).sum) cs (cnts.getD j 0) (bss.getD j []) ∧ cellsAt wr b (off + j * sz) cs

theorem NI.start (H : ElH) (sz : Nat) (w : World) (b off k n : Nat) (cnts : List Nat) (bss : List (List Nat)) : NI H sz w b off k n cnts bss 0 w := ⟨KeptL.refl _ _, fun _ _ => rfl, fun j hj => by omega⟩

theorem NI.elem {S : ElS} {H : ElH} (hS : StayS S) {sz : Nat} {w : World} {b off k n : Nat} {cnts : List Nat} {bss : List (List Nat)} (hs : NS S sz w b off n cnts bss) {i : Nat} {wr : World} (h : NI H sz w b off k n cnts bss i wr) (hi : i < n) :
    b < wr.heap.size ∧ (∀ o, wr.frozen? ⟨b, o, none⟩ = false) ∧ ∃ cs, cs.length = sz ∧ S wr cs (cnts.getD i 0) (bss.getD i []) ∧ cellsAt wr b (off + i * sz) cs := by
  refine ⟨Nat.lt_of_lt_of_le hs.lt h.kept.size, fun o => (h.kept.frozen ⟨b, o, none⟩ hs.lt).trans (hs.fr o), ?_⟩
  obtain ⟨cs, h1, h2, h3⟩ := hs.el i hi
  refine ⟨cs, h1, hS _ _ _ _ _ _ h2 h.kept fun x hx hh => ?_, fun t v hv => (h.same _ (by omega)).trans (h3 t v hv)⟩
  rcases List.mem_cons.1 hh with e | e
  · exact apart0 hs.nodup hx e
  · obtain ⟨j, hj, hxj⟩ := mem_take_flatten e
    have := apart hs.nodup hx hxj
    omega

theorem NI.step {H : ElH} (hH : StayH H) {sz : Nat} {w : World} {b off k n : Nat} {cnts : List Nat} {bss : List (List Nat)} (hl : bss.length = n) (hn : (b :: bss.flatten).Nodup) {i : Nat} {wr W : World} (h : NI H sz w b off k n cnts bss i wr) (hi : i < n)
    (hk : KeptL (b :: bss.getD i []) wr W) (hs : ∀ o, (o < off + i * sz ∨ off + (i + 1) * sz ≤ o) → ∀ v, wr.cell? ⟨b, o, none⟩ = v → W.cell? ⟨b, o, none⟩ = v) (cs : List Value) (hc : cs.length = sz) (hM : H W (k + (cnts.take i).sum) cs (cnts.getD i 0) (bss.getD i [])) (hcs : cellsAt W b (off + i * sz) cs) :
    NI H sz w b off k n cnts bss (i + 1) W := by
  have hsub : ∀ x ∈ bss.getD i [], x ∈ (bss.take (i + 1)).flatten := fun x hx => by
    have hi' : i < bss.length := by omega
    rw [List.getD_eq_getElem?_getD, List.getElem?_eq_getElem hi'] at hx
    exact List.mem_flatten.2 ⟨bss[i], List.mem_iff_getElem.2 ⟨i, by simp; omega, by simp⟩, hx⟩
  have hsub2 : ∀ x ∈ (bss.take i).flatten, x ∈ (bss.take (i + 1)).flatten := fun x hx => by
    rw [List.take_succ_eq_append_getElem (by omega), List.flatten_append]
    exact List.mem_append_left _ hx
  refine ⟨(h.kept.mono fun x hx => ?_).trans (hk.mono fun x hx => ?_), fun o ho => ?_, fun j hj => ?_⟩
  · rcases List.mem_cons.1 hx with e | e
    · exact e ▸ List.mem_cons_self ..
    · exact List.mem_cons_of_mem _ (hsub2 x e)
  · rcases List.mem_cons.1 hx with e | e
    · exact e ▸ List.mem_cons_self ..
    · exact List.mem_cons_of_mem _ (hsub x e)
  · have e : (i + 1) * sz = i * sz + sz := Nat.succ_mul i sz
    exact (hs o (Or.inr ho) _ rfl).trans (h.same o (by omega))
  · by_cases e : j = i
    · subst e
      exact ⟨cs, hc, hM, hcs⟩
    · obtain ⟨cs', h1, h2, h3⟩ := h.done j (by omega)
      refine ⟨cs', h1, hH _ _ _ _ _ _ _ h2 hk fun x hx hh => ?_, fun t v hv => hs _ (Or.inl ?_) _ (h3 t v hv)⟩
      · rcases List.mem_cons.1 hh with e' | e'
        · exact apart0 hn hx e'
        · exact e (apart hn hx e')
      · have ht : t < sz := by have := (List.getElem?_eq_some_iff.1 hv).1; omega
        have : (j + 1) * sz ≤ i * sz := Nat.mul_le_mul_right sz (by omega)
        rw [Nat.succ_mul] at this
        omega

theorem NI.finish {H : ElH} {sz : Nat} {w : World} {b off k n : Nat} {cnts : List Nat} {bss : List (List Nat)} (hl1 : cnts.length = n) (hl : bss.length = n) {wr : World} (h : NI H sz w b off k n cnts bss n wr) : KeptL (b :: bss.flatten) w wr ∧ NH H sz wr k b off n cnts bss := by
  refine ⟨?_, hl1, hl, h.done⟩
  have := h.kept
  rwa [List.take_of_length_le (by omega)] at this

theorem ShL.stay {S : ElS} (hS : StayS S) {sz : Nat} {w w' : World} {A : Option Addr} {n : Nat} {cnts bs bs' : List Nat} (h : ShL S sz w A n cnts bs) (hk : KeptL bs' w w') (hd : ∀ x ∈ bs, x ∉ bs') : ShL S sz w' A n cnts bs := by
  refine ⟨h.1, ?_⟩
  rcases h.2 with h0 | ⟨b, off, bss, rfl, rfl, hs⟩
  · exact Or.inl h0
  · refine Or.inr ⟨b, off, bss, rfl, rfl, hs.l1, hs.l2, hs.nodup, Nat.lt_of_lt_of_le hs.lt hk.size, fun o => (hk.frozen ⟨b, o, none⟩ hs.lt).trans (hs.fr o), fun i hi => ?_⟩
    obtain ⟨cs, h1, h2, h3⟩ := hs.el i hi
    exact ⟨cs, h1, hS _ _ _ _ _ _ h2 hk fun x hx => hd x (List.mem_cons_of_mem _ (mem_flatten_getD hx)), fun t v hv => hk.far (hd b (List.mem_cons_self ..)) (h3 t v hv)⟩
theorem HdL.stay {H : ElH} (hH : StayH H) {sz : Nat} {w w' : World} {k : Nat} {A : Option Addr} {n : Nat} {cnts bs bs' : List Nat} (h : HdL H sz w k A n cnts bs) (hk : KeptL bs' w w') (hd : ∀ x ∈ bs, x ∉ bs') : HdL H sz w' k A n cnts bs := by
  refine ⟨h.1, ?_⟩
  rcases h.2 with h0 | ⟨b, off, bss, rfl, rfl, hs⟩
  · exact Or.inl h0
  · refine Or.inr ⟨b, off, bss, rfl, rfl, hs.l1, hs.l2, fun i hi => ?_⟩
    obtain ⟨cs, h1, h2, h3⟩ := hs.el i hi
    exact ⟨cs, h1, hH _ _ _ _ _ _ _ h2 hk fun x hx => hd x (List.mem_cons_of_mem _ (mem_flatten_getD hx)), fun t v hv => hk.far (hd b (List.mem_cons_self ..)) (h3 t v hv)⟩
theorem HdL.below {H : ElH} (hH : StayH H) {sz : Nat} {w w' : World} {k : Nat} {A : Option Addr} {n : Nat} {cnts bs : List Nat} (h : HdL H sz w k A n cnts bs) (hk : Below w.heap.size w w') : HdL H sz w' k A n cnts bs :=
  h.stay hH (bs' := []) (KeptL.below hk) fun _ _ => List.not_mem_nil

/-- Within an element of the block b, whose cells lie in lo .. hi - 1 and whose lists lie in bs. -/
structure NM (b lo hi : Nat) (bs : List Nat) (wr W : World) : Prop where
  kept : KeptL (b :: bs) wr W
  same : ∀ o, (o < lo ∨ hi ≤ o) → ∀ v, wr.cell? ⟨b, o, none⟩ = v → W.cell? ⟨b, o, none⟩ = v
theorem NM.refl (b lo hi : Nat) (bs : List Nat) (w : World) : NM b lo hi bs w w := ⟨KeptL.refl _ _, fun _ _ _ h => h⟩
theorem NM.turn {b lo hi : Nat} {bs l : List Nat} {wr W W' : World} (hb : b < wr.heap.size) (h : NM b lo hi bs wr W) (hk : KeptL l W W') (hl : ∀ x ∈ l, x ∈ bs) (hn : b ∉ bs) : NM b lo hi bs wr W' :=
  ⟨h.kept.trans (hk.mono fun x hx => List.mem_cons_of_mem _ (hl x hx)), fun o ho v hv => (World.cell?_of_block (w := W) (hk.block b (Nat.lt_of_lt_of_le hb h.kept.size) fun hh => hn (hl b hh))).trans (h.same o ho v hv)⟩
theorem NM.set {b lo hi : Nat} {bs : List Nat} {wr W : World} (h : NM b lo hi bs wr W) {p : Addr} {u : Value} {o : Nat} (hp : p = ⟨b, o, none⟩) (h1 : lo ≤ o) (h2 : o < hi) : NM b lo hi bs wr (W.setCell p u) := by
  subst hp
  exact ⟨h.kept.set (List.mem_cons_self ..), fun o' ho v hv => (World.cell?_setCell_other _ _ _ _ (by intro hh; simp only [Addr.mk.injEq] at hh; omega)).trans (h.same o' ho v hv)⟩

/-- All that a walk through the loop of the marks wants to know. -/
theorem ShL.walk {S : ElS} {H : ElH} (hS : StayS S) (hH : StayH H) {sz : Nat} {w : World} {A : Option Addr} {n : Nat} {cnts bs : List Nat} (h : ShL S sz w A n cnts bs) (k : Nat) :
    cnts.length = n ∧ ∃ P : Nat → World → Prop, P 0 w ∧
      (∀ i wr, i < n → P i wr → ∃ b off bs' cs, A = some ⟨b, off, none⟩ ∧ (∀ o, wr.frozen? ⟨b, o, none⟩ = false) ∧ b < wr.heap.size ∧ cs.length = sz ∧ S wr cs (cnts.getD i 0) bs' ∧ cellsAt wr b (off + i * sz) cs ∧ b ∉ bs' ∧
        ∀ W cs', NM b (off + i * sz) (off + (i + 1) * sz) bs' wr W → cs'.length = sz → H W (k + (cnts.take i).sum) cs' (cnts.getD i 0) bs' → cellsAt W b (off + i * sz) cs' → P (i + 1) W) ∧
      (∀ wr, P n wr → KeptL bs w wr ∧ HdL H sz wr k A n cnts bs) := by
  rcases h.2 with ⟨rfl, rfl, rfl⟩ | ⟨b, off, bss, rfl, rfl, hs⟩
  · exact ⟨rfl, fun _ wr => wr = w, rfl, fun i wr hi => by omega, fun wr e => by subst e; exact ⟨KeptL.refl _ _, Nat.zero_le _, Or.inl ⟨rfl, rfl, rfl⟩⟩⟩
  · refine ⟨hs.l1, NI H sz w b off k n cnts bss, NI.start .., fun i wr hi hI => ?_, fun wr hI => ?_⟩
    · obtain ⟨h1, h2, cs, h3, h4, h5⟩ := hI.elem hS hs hi
      exact ⟨b, off, bss.getD i [], cs, rfl, h2, h1, h3, h4, h5, fun hb => apart0 hs.nodup hb rfl, fun W cs' hk hc hM hcs => NI.step hH hs.l2 hs.nodup hI hi hk.kept hk.same cs' hc hM hcs⟩
    · obtain ⟨h1, h2⟩ := NI.finish hs.l1 hs.l2 hI
      exact ⟨h1, h.1, Or.inr ⟨b, off, bss, rfl, rfl, h2⟩⟩

theorem HdL.elem {H : ElH} {sz : Nat} {w : World} {k : Nat} {A : Option Addr} {n : Nat} {cnts bs : List Nat} (h : HdL H sz w k A n cnts bs) {i : Nat} (hi : i < n) :
    ∃ b off bs' cs, A = some ⟨b, off, none⟩ ∧ cs.length = sz ∧ H w (k + (cnts.take i).sum) cs (cnts.getD i 0) bs' ∧ cellsAt w b (off + i * sz) cs := by
  rcases h.2 with h0 | ⟨b, off, bss, rfl, rfl, hs⟩
  · omega
  · obtain ⟨cs, h1, h2, h3⟩ := hs.el i hi
    exact ⟨b, off, _, cs, rfl, h1, h2, h3⟩
theorem HdL.len {H : ElH} {sz : Nat} {w : World} {k : Nat} {A : Option Addr} {n : Nat} {cnts bs : List Nat} (h : HdL H sz w k A n cnts bs) : cnts.length = n := by
  rcases h.2 with ⟨rfl, rfl, -⟩ | ⟨b, off, bss, rfl, rfl, hs⟩
  · rfl
  · exact hs.l1
theorem sums_step {cnts : List Nat} {i n : Nat} (hl : cnts.length = n) (hi : i < n) : (cnts.take (i + 1)).sum = (cnts.take i).sum + cnts.getD i 0 ∧ (cnts.take i).sum + cnts.getD i 0 ≤ cnts.sum := by
  have h1 := sum_take_getD cnts i (by omega)
  have h2 := take_le_sum cnts (i + 1)
  omega
theorem sums_all {cnts : List Nat} {n : Nat} (hl : cnts.length = n) : (cnts.take n).sum = cnts.sum := by rw [List.take_of_length_le (by omega)]

end Go.Proofs.Ytkinegapnknhiaa
