/-
  Several texts in one: what the proof leans on, part 2.
-/
import Derived.Test.YtkehfilmpdoglaaGreatAa
import Derived.Laws.AppendOwn
set_option linter.unusedVariables false
set_option linter.unusedSimpArgs false
namespace Go.Proofs.YtkehfilmpdoglaaGreat
open Go.RowKit
def FlatO {α : Type} (f : α → List Value) : ElO α := fun _ _ cs x bs => cs = f x ∧ bs = []
theorem FlatO.good {α : Type} {f : α → List Value} {sz : Nat} (hf : ∀ x, (f x).length = sz) (h1 : ∀ x, ∀ u ∈ f x, u.oneCell' = true) : GoodO [] sz (FlatO f) where
 len := fun ⟨e, _⟩ => by rw [e]; exact hf _
 one := fun ⟨e, _⟩ u hu => by rw [e] at hu; exact h1 _ u hu
 typed := fun ⟨_, e⟩ b hb => by rw [e] at hb; cases hb
 nodup := fun ⟨_, e⟩ => by rw [e]; exact List.nodup_nil
 dep := fun h _ => h
 mono := fun h _ => h
section
variable {α : Type} {Ts : List TypeId} {sz : Nat} {E : ElO α} {T : TypeId}
def OwnTr (E : ElO α) (T : TypeId) (sz : Nat) (w : World) (base : Nat) (v : Value) (xs : List α) (bs : List Nat) : Prop := ∃ css bss, OwnN E T sz w base v xs css bss ∧ bs = blkN v ++ bss.flatten
theorem OwnTr.l {w : World} {base : Nat} {v : Value} {xs : List α} {bs : List Nat} (h : OwnTr E T sz w base v xs bs) : OwnL E T sz w base v xs := by
 obtain ⟨css, bss, h, -⟩ := h
 exact ⟨css, bss, h⟩
theorem OwnL.b {w : World} {base : Nat} {v : Value} {xs : List α} (h : OwnL E T sz w base v xs) : ∃ bs, OwnTr E T sz w base v xs bs := by
 obtain ⟨css, bss, h⟩ := h
 exact ⟨_, css, bss, h, rfl⟩
theorem OwnTr.typed (G : GoodO Ts sz E) {w : World} {base : Nat} {v : Value} {xs : List α} {bs : List Nat} (h : OwnTr E T sz w base v xs bs) : ∀ b ∈ bs, base ≤ b ∧ ∃ cur U, w.heap[b]? = some (.cells cur U (0, 0)) ∧ U ∈ T :: Ts := by
 obtain ⟨css, bss, h, rfl⟩ := h
 intro b hb
 rcases List.mem_append.1 hb with hb | hb
 ·obtain ⟨h1, cur, h2⟩ := ownsRow_typed h.row (mem_blkN.1 hb)
  exact ⟨h1, cur, T, h2, List.mem_cons_self ..⟩
 ·obtain ⟨h1, cur, U, h2, h3⟩ := h.typed G hb
  exact ⟨h1, cur, U, h2, List.mem_cons_of_mem _ h3⟩
theorem OwnTr.lt (G : GoodO Ts sz E) {w : World} {base : Nat} {v : Value} {xs : List α} {bs : List Nat} (h : OwnTr E T sz w base v xs bs) : ∀ b ∈ bs, base ≤ b ∧ b < w.heap.size := fun b hb => by
 obtain ⟨h1, cur, U, h2, -⟩ := h.typed G b hb
 exact ⟨h1, lt_of_block h2⟩
theorem OwnTr.nodup (G : GoodO Ts sz E) (hT : T ∉ Ts) {w : World} {base : Nat} {v : Value} {xs : List α} {bs : List Nat} (h : OwnTr E T sz w base v xs bs) : bs.Nodup := by
 obtain ⟨css, bss, h, rfl⟩ := h
 refine List.nodup_append.2 ⟨nodup_blkN _, h.apart, fun a ha b hb => ?_⟩
 rintro rfl
 exact h.out G hT (mem_blkN.1 ha) hb
theorem OwnTr.dep (G : GoodO Ts sz E) {w w' : World} {base : Nat} {v : Value} {xs : List α} {bs : List Nat} (h : OwnTr E T sz w base v xs bs) (hd : ∀ b ∈ bs, w'.heap[b]? = w.heap[b]?) : OwnTr E T sz w' base v xs bs := by
 obtain ⟨css, bss, h, rfl⟩ := h
 exact ⟨css, bss, h.dep G (fun k hk => hd k (List.mem_append_left _ (mem_blkN.2 hk))) fun b hb => hd b (List.mem_append_right _ hb), rfl⟩
theorem OwnTr.below (G : GoodO Ts sz E) {w w' : World} {base : Nat} {v : Value} {xs : List α} {bs : List Nat} (h : OwnTr E T sz w base v xs bs) (hb : Below w.heap.size w w') : OwnTr E T sz w' base v xs bs := h.dep G fun b hb' => hb.block b (h.lt G b hb').2
theorem OwnTr.mono (G : GoodO Ts sz E) {w : World} {base base' : Nat} {v : Value} {xs : List α} {bs : List Nat} (h : OwnTr E T sz w base v xs bs) (hb : base' ≤ base) : OwnTr E T sz w base' v xs bs := by
 obtain ⟨css, bss, h, e⟩ := h
 exact ⟨css, bss, h.mono G hb, e⟩
theorem OwnTr.one {w : World} {base : Nat} {v : Value} {xs : List α} {bs : List Nat} (h : OwnTr E T sz w base v xs bs) : v.oneCell' = true := by
 obtain ⟨css, bss, h, -⟩ := h
 exact ownsRow_one h.row
theorem OwnTr.nil (w : World) (base : Nat) : OwnTr E T sz w base (.slice none 0 0) [] [] := ⟨[], [], ⟨rfl, rfl, World.ownsRow_nil _ _ _ _, fun i h => by simp at h, by simp⟩, by simp [blkN, Value.ownBlock]⟩
theorem OwnTr.sl (G : GoodO Ts sz E) {R : Rd α} {w : World} {base : Nat} {v : Value} {xs : List α} {bs : List Nat} (h : OwnTr E T sz w base v xs bs) (hR : ∀ cs x bs, E w base cs x bs → R (okF base w) w cs x) : ∃ A c, v = .slice A xs.length c ∧ xs.length ≤ c ∧ c ≤ maxLen ∧ Sl R sz (okF base w) w A xs.length xs := h.l.sl G hR
theorem OwnTr.sh (G : GoodO Ts sz E) (hT : T ∉ Ts) {S : ElS} {cnt : α → Nat} {w : World} {base : Nat} {v : Value} {xs : List α} {bs : List Nat} (h : OwnTr E T sz w base v xs bs) (hn : xs.length ≤ 1048576) (hS : ∀ cs x bs, x ∈ xs → E w base cs x bs → S w cs (cnt x) bs) :
  ∃ A c, v = .slice A xs.length c ∧ ShL S sz w A xs.length (xs.map cnt) bs := by
 obtain ⟨css, bss, h, rfl⟩ := h
 rcases h.cells G with ⟨rfl, rfl⟩ | ⟨g, c, rfl, h1, h2, h3, h4, h5, h6⟩
 ·have e : bss = [] := List.length_eq_zero_iff.1 h.l2
  subst e
  exact ⟨none, 0, rfl, ⟨hn, Or.inl ⟨rfl, rfl, by simp [blkN, Value.ownBlock]⟩⟩⟩
 ·refine ⟨_, c, rfl, ⟨hn, Or.inr ⟨g, 0, bss, rfl, by simp [blkN, Value.ownBlock], by simp, h.l2, List.nodup_cons.2 ⟨h.out G hT rfl, h.apart⟩, h4, h5, fun i hi => ?_⟩⟩⟩
  obtain ⟨h7, h8⟩ := h6 i hi
  refine ⟨_, h7, ?_, h8⟩
  rw [List.getD_eq_getElem?_getD (l := xs.map cnt), List.getElem?_map, List.getElem?_eq_getElem hi]
  exact hS _ _ _ (List.getElem_mem hi) (h.el i hi)
theorem OwnTr.flat {f : α → List Value} (hf : ∀ x, (f x).length = sz) {w : World} {base : Nat} {v : Value} {xs : List α} {vs : List (List Value)} (h : w.ownsRow base T sz v xs.length vs.flatten) (hl : vs.length = xs.length) (hv : ∀ i (hi : i < xs.length) (hi' : i < vs.length), vs[i] = f xs[i]) : OwnTr (FlatO f) T sz w base v xs (blkN v) := by
 refine ⟨vs, List.replicate xs.length [], ⟨hl, by simp, h, fun i hi => ?_, by simp⟩, by simp⟩
 have hi' : i < vs.length := by omega
 rw [List.getD_eq_getElem?_getD, List.getD_eq_getElem?_getD, List.getElem?_eq_getElem hi', List.getElem?_replicate, if_pos hi]
 exact ⟨hv i hi hi', rfl⟩
theorem OwnN.put (G : GoodO Ts sz E) (hT : T ∉ Ts) {w w' : World} {base g cap : Nat} {xs : List α} {css : List (List Value)} {bss : List (List Nat)} {x : α} {cs : List Value} {bs : List Nat} {n : Nat} (h : OwnN E T sz w base (.slice (some ⟨g, 0, none⟩) n cap) xs css bss) (hl : n = xs.length) (hE : E w base cs x bs) (hn : ∀ b ∈ bs, b ∉ bss.flatten)
  {k : Nat} (hk : k < xs.length) (h1 : w'.ownsRow base T sz (.slice (some ⟨g, 0, none⟩) n cap) n (css.set k cs).flatten) (h2 : w.grownBy w' (some g)) : OwnN E T sz w' base (.slice (some ⟨g, 0, none⟩) n cap) (xs.set k x) (css.set k cs) (bss.set k bs) := by
 subst hl
 have hne : ∀ b ∈ bs, b ≠ g := fun b hb e => by
  subst e
  obtain ⟨-, cur, U, h2, h3⟩ := G.typed hE b hb
  obtain ⟨-, cur', h4⟩ := ownsRow_typed h.row (k := b) rfl
  rw [h2] at h4
  injection h4 with h4
  injection h4 with _ h5
  exact hT (h5 ▸ h3)
 refine ⟨by simp [h.l1], by simp [h.l2], by simpa using h1, fun i hi => ?_, nodup_set h.apart (G.nodup hE) hn⟩
 have hi' : i < xs.length := by simpa using hi
 rw [List.getElem_set, List.getD_eq_getElem?_getD, List.getD_eq_getElem?_getD, List.getElem?_set, List.getElem?_set]
 by_cases e : k = i
 ·subst e
  rw [if_pos rfl, if_pos rfl, if_pos rfl, if_pos (by rw [h.l1]; exact hk), if_pos (by rw [h.l2]; exact hk)]
  exact G.dep hE fun b hb => h2.block b (G.lt hE hb).2 fun e' => hne b hb (Option.some.inj e')
 ·rw [if_neg e, if_neg e, if_neg e, ← List.getD_eq_getElem?_getD, ← List.getD_eq_getElem?_getD]
  refine G.dep (h.el i hi') fun b hb => h2.block b (G.lt (h.el i hi') hb).2 fun e' => ?_
  exact h.out G hT (k := g) rfl (Option.some.inj e' ▸ mem_flatten_getD hb)
theorem flat_set1 {css : List (List Value)} (hz : ∀ c ∈ css, c.length = sz) {k t : Nat} (hk : k < css.length) (ht : t < sz) (u : Value) : css.flatten.set (k * sz + t) u = (css.set k ((css.getD k []).set t u)).flatten := by
 have hck : css.getD k [] = css[k] := by rw [List.getD_eq_getElem?_getD, List.getElem?_eq_getElem hk]; rfl
 have hlk := hz _ (List.getElem_mem hk)
 rw [hck]
 have hz' : ∀ c ∈ css.set k (css[k].set t u), c.length = sz := fun c hc' => by
  rcases List.mem_or_eq_of_mem_set hc' with h | rfl
  ·exact hz c h
  ·simpa using hlk
 have h0 : 0 < sz := by omega
 have hfl := flat_len css hz
 refine List.ext_getElem? fun j => ?_
 by_cases hj : j < css.length * sz
 ·have hd : j / sz < css.length := Nat.div_lt_of_lt_mul (by rw [Nat.mul_comm]; exact hj)
  have hm : j % sz < sz := Nat.mod_lt _ h0
  have e : j / sz * sz + j % sz = j := by rw [Nat.mul_comm]; exact Nat.div_add_mod j _
  have g1 := flat_get css (j / sz) (j % sz) hd hm hz
  have g2 := flat_get (css.set k (css[k].set t u)) (j / sz) (j % sz) (by simpa using hd) hm hz'
  rw [e] at g1 g2
  rw [g2, List.getElem_set]
  by_cases h1 : k = j / sz
  ·subst h1
   rw [if_pos rfl]
   by_cases h2 : t = j % sz
   ·rw [h2, e, List.getElem?_set_self (by rw [hfl]; exact hj), List.getElem?_set_self (by rw [hlk]; exact hm)]
   ·rw [List.getElem?_set_ne (by omega), List.getElem?_set_ne h2, g1]
  ·rw [if_neg h1, List.getElem?_set_ne (fun hh => h1 ?_), g1]
   rw [← hh]
   rw [Nat.mul_comm k sz, Nat.mul_add_div h0, Nat.div_eq_of_lt ht, Nat.add_zero]
 ·rw [List.getElem?_eq_none (by simp [hfl]; omega), List.getElem?_eq_none (by rw [flat_len _ hz']; simp; omega)]
def PartO (sz : Nat) (E : ElO α) : ElO (α ⊕ List Value) := fun w base cs x bs => match x with
 | .inl x => E w base cs x bs
 | .inr c => cs = c ∧ c.length = sz ∧ (∀ u ∈ c, u.oneCell' = true) ∧ bs = []
theorem PartO.good (G : GoodO Ts sz E) : GoodO Ts sz (PartO sz E) where
 len := fun {w base cs x bs} h => by
  cases x with
  | inl x => exact G.len h
  | inr c => rw [h.1]; exact h.2.1
 one := fun {w base cs x bs} h => by
  cases x with
  | inl x => exact G.one h
  | inr c => rw [h.1]; exact h.2.2.1
 typed := fun {w base cs x bs} h => by
  cases x with
  | inl x => exact G.typed h
  | inr c => intro b hb; rw [h.2.2.2] at hb; cases hb
 nodup := fun {w base cs x bs} h => by
  cases x with
  | inl x => exact G.nodup h
  | inr c => rw [h.2.2.2]; exact List.nodup_nil
 dep := fun {w w' base cs x bs} h hd => by
  cases x with
  | inl x => exact G.dep h hd
  | inr c => exact h
 mono := fun {w base base' cs x bs} h hb => by
  cases x with
  | inl x => exact G.mono h hb
  | inr c => exact h
def partL (xs : List α) (vs : List (List Value)) (k : Nat) : List (α ⊕ List Value) := (xs.take k).map .inl ++ (vs.drop k).map .inr
theorem partL_len {xs : List α} {vs : List (List Value)} {k : Nat} (hl : vs.length = xs.length) (hk : k ≤ xs.length) : (partL xs vs k).length = xs.length := by
 unfold partL; simp; omega
theorem partL_get {xs : List α} {vs : List (List Value)} {k : Nat} (hl : vs.length = xs.length) (hk : k < xs.length) (h : k < (partL xs vs k).length) : (partL xs vs k)[k] = .inr (vs[k]'(by omega)) := by
 have h2 : (partL xs vs k)[k]? = some (.inr (vs[k]'(by omega))) := by
  unfold partL
  rw [List.getElem?_append_right (by simp; omega), List.length_map, List.length_take, Nat.min_eq_left (Nat.le_of_lt hk), Nat.sub_self, List.getElem?_map, List.getElem?_drop, Nat.add_zero, List.getElem?_eq_getElem (by omega)]
  rfl
 rw [List.getElem?_eq_getElem h] at h2
 exact Option.some.inj h2
theorem partL_set {xs : List α} {vs : List (List Value)} {k : Nat} (hl : vs.length = xs.length) (hk : k < xs.length) : (partL xs vs k).set k (.inl xs[k]) = partL xs vs (k + 1) := by
 unfold partL
 have h1 : ((xs.take k).map (Sum.inl : α → α ⊕ List Value)).length = k := by simp; omega
 rw [List.set_append_right _ _ (by omega), h1, Nat.sub_self, List.drop_eq_getElem_cons (by omega : k < vs.length), List.map_cons, List.set_cons_zero, List.take_succ_eq_append_getElem hk, List.map_append, List.append_assoc]
 rfl
def OwnPt (E : ElO α) (T : TypeId) (sz : Nat) (w : World) (base : Nat) (v : Value) (xs : List α) (vs : List (List Value)) (k : Nat) (bs : List Nat) : Prop := OwnTr (PartO sz E) T sz w base v (partL xs vs k) bs
theorem OwnPt.start {w : World} {base : Nat} {v : Value} {xs : List α} {vs : List (List Value)} (h : w.ownsRow base T sz v xs.length vs.flatten) (hl : vs.length = xs.length) (hz : ∀ c ∈ vs, c.length = sz) (h1 : ∀ c ∈ vs, ∀ u ∈ c, u.oneCell' = true) : OwnPt E T sz w base v xs vs 0 (blkN v) := by
 have e : partL xs vs 0 = vs.map .inr := by unfold partL; simp
 unfold OwnPt
 rw [e]
 refine ⟨vs, List.replicate xs.length [], ⟨by simp, by simp [hl], by rw [List.length_map, hl]; exact h, fun i hi => ?_, by simp⟩, by simp⟩
 have hi1 : i < vs.length := by simpa using hi
 have hi2 : i < xs.length := by omega
 rw [List.getD_eq_getElem?_getD, List.getD_eq_getElem?_getD, List.getElem?_eq_getElem hi1, List.getElem?_replicate, if_pos hi2, List.getElem_map]
 exact ⟨rfl, hz _ (List.getElem_mem hi1), h1 _ (List.getElem_mem hi1), rfl⟩
theorem OwnPt.done {w : World} {base : Nat} {v : Value} {xs : List α} {vs : List (List Value)} {bs : List Nat} (hl : vs.length = xs.length) (h : OwnPt E T sz w base v xs vs xs.length bs) : OwnTr E T sz w base v xs bs := by
 have e : partL xs vs xs.length = xs.map .inl := by unfold partL; rw [List.take_of_length_le (Nat.le_refl _), List.drop_of_length_le (by omega)]; simp
 unfold OwnPt at h
 rw [e] at h
 obtain ⟨css, bss, h, rfl⟩ := h
 refine ⟨css, bss, ⟨by simpa using h.l1, by simpa using h.l2, by simpa using h.row, fun i hi => ?_, h.apart⟩, rfl⟩
 have := h.el i (by simpa using hi)
 rw [List.getElem_map] at this
 exact this
theorem OwnPt.at_ (G : GoodO Ts sz E) {w : World} {base : Nat} {v : Value} {xs : List α} {vs : List (List Value)} {k : Nat} {bs : List Nat} (h : OwnPt E T sz w base v xs vs k bs) (hl : vs.length = xs.length) (hk : k < xs.length) :
  ∃ g c, v = .slice (some ⟨g, 0, none⟩) xs.length c ∧ xs.length ≤ c ∧ c ≤ maxLen ∧ base ≤ g ∧ g < w.heap.size ∧ g ∈ bs ∧ (∀ off, w.frozen? ⟨g, off, none⟩ = false) ∧ ∀ t u, (vs[k]'(by omega))[t]? = some u → w.cell? ⟨g, k * sz + t, none⟩ = some u := by
 obtain ⟨css, bss, h, rfl⟩ := h
 have hn := partL_len hl (Nat.le_of_lt hk)
 rcases h.cells (PartO.good G) with ⟨rfl, e⟩ | ⟨g, c, rfl, h1, h2, h3, h4, h5, h6⟩
 ·rw [e] at hn; simp at hn; omega
 ·rw [hn] at h1
  refine ⟨g, c, by rw [hn], h1, h2, h3, h4, by simp [blkN, Value.ownBlock], h5, fun t u hu => ?_⟩
  have he := h.el k (by omega)
  rw [partL_get hl hk] at he
  have := (h6 k (by omega)).2 t u (by rw [he.1]; exact hu)
  rwa [Nat.zero_add] at this
theorem OwnPt.step (G : GoodO Ts sz E) (hT : T ∉ Ts) {w w' : World} {base g c : Nat} {xs : List α} {vs : List (List Value)} {k : Nat} {bs bx : List Nat} {cs : List Value} (h : OwnPt E T sz w base (.slice (some ⟨g, 0, none⟩) xs.length c) xs vs k bs) (hl : vs.length = xs.length) (hk : k < xs.length) (hE : E w base cs xs[k] bx) (hn : ∀ b ∈ bx, b ∉ bs)
  (hs : ∀ css : List (List Value), (∀ c ∈ css, c.length = sz) → css.length = xs.length → css.getD k [] = vs[k]'(by omega) → w.ownsRow base T sz (.slice (some ⟨g, 0, none⟩) xs.length c) xs.length css.flatten → w'.ownsRow base T sz (.slice (some ⟨g, 0, none⟩) xs.length c) xs.length (css.set k cs).flatten) (h2 : w.grownBy w' (some g)) :
  ∃ bs', OwnPt E T sz w' base (.slice (some ⟨g, 0, none⟩) xs.length c) xs vs (k + 1) bs' ∧ ∀ b, b ∈ bs' → b ∈ bs ∨ b ∈ bx := by
 obtain ⟨css, bss, h, rfl⟩ := h
 have hlp := partL_len hl (Nat.le_of_lt hk)
 have hz : ∀ c ∈ css, c.length = sz := fun c hc => by
  obtain ⟨i, hi, rfl⟩ := List.mem_iff_getElem.1 hc
  have := (PartO.good G).len (h.el i (by rw [← h.l1]; exact hi))
  rwa [List.getD_eq_getElem?_getD, List.getElem?_eq_getElem hi] at this
 have he := h.el k (by omega)
 rw [partL_get hl hk] at he
 have h1 := hs css hz (by rw [h.l1, hlp]) he.1 (by have := h.row; rwa [hlp] at this)
 have h9 := OwnN.put (PartO.good G) hT (x := .inl xs[k]) (cs := cs) (bs := bx) h (by rw [hlp]) hE (fun b hb hh => hn b hb (List.mem_append_right _ hh)) (by omega) h1 h2
 rw [partL_set hl hk] at h9
 refine ⟨_, ⟨_, _, h9, rfl⟩, fun b hb => ?_⟩
 rcases List.mem_append.1 hb with hb | hb
 ·exact .inl (List.mem_append_left _ hb)
 ·obtain ⟨l, hl', hb2⟩ := List.mem_flatten.1 hb
  rcases List.mem_or_eq_of_mem_set hl' with h | rfl
  ·exact .inl (List.mem_append_right _ (List.mem_flatten.2 ⟨l, h, hb2⟩))
  ·exact .inr hb2
theorem OwnPt.cell (G : GoodO Ts sz E) (hT : T ∉ Ts) {w : World} {base g c : Nat} {xs : List α} {vs : List (List Value)} {k t : Nat} {bs bx : List Nat} {u : Value} (h : OwnPt E T sz w base (.slice (some ⟨g, 0, none⟩) xs.length c) xs vs k bs) (hl : vs.length = xs.length) (hk : k < xs.length) (ht : t < sz) (hE : E w base ((vs[k]'(by omega)).set t u) xs[k] bx) (hn : ∀ b ∈ bx, b ∉ bs) :
  ∃ bs', OwnPt E T sz (w.setCell ⟨g, k * sz + t, none⟩ u) base (.slice (some ⟨g, 0, none⟩) xs.length c) xs vs (k + 1) bs' ∧ ∀ b, b ∈ bs' → b ∈ bs ∨ b ∈ bx := by
 refine h.step G hT hl hk hE hn (fun css hz hcl hck hrow => ?_) ?_
 ·obtain ⟨h1, -⟩ := hrow.stored (k * sz + t) u
  rw [flat_set1 hz (by omega) ht, hck] at h1
  exact h1
 ·exact ⟨rfl, rfl, rfl, by simp [World.setCell], fun k hk hn => Below.heap_setCell _ _ _ _ (fun e => hn (by rw [e]))⟩
theorem grown_setCells {g : Nat} : ∀ (us : List Value) (w : World) (off : Nat), w.grownBy (setCells w g off us) (some g)
 | [], w, off => ⟨rfl, rfl, rfl, Nat.le_refl _, fun _ _ _ => rfl⟩
 | u :: us, w, off => by
  have h2 : w.grownBy (w.setCell ⟨g, off, none⟩ u) (some g) := ⟨rfl, rfl, rfl, by simp [World.setCell], fun k hk hn => Below.heap_setCell _ _ _ _ (fun e => hn (by rw [e]))⟩
  have h4 := grown_setCells (g := g) us (w.setCell ⟨g, off, none⟩ u) (off + 1)
  exact ⟨h4.os.trans h2.os, h4.tape.trans h2.tape, h4.output.trans h2.output, Nat.le_trans h2.size h4.size, fun k hk ho => (h4.block k (Nat.lt_of_lt_of_le hk h2.size) ho).trans (h2.block k hk ho)⟩
theorem OwnPt.cells (G : GoodO Ts sz E) (hT : T ∉ Ts) (h0 : 0 < sz) {w : World} {base g c : Nat} {xs : List α} {vs : List (List Value)} {k : Nat} {bs bx : List Nat} {cs : List Value} (h : OwnPt E T sz w base (.slice (some ⟨g, 0, none⟩) xs.length c) xs vs k bs) (hl : vs.length = xs.length) (hk : k < xs.length) (hE : E w base cs xs[k] bx) (hn : ∀ b ∈ bx, b ∉ bs) :
  ∃ bs', OwnPt E T sz (setCells w g (k * sz) cs) base (.slice (some ⟨g, 0, none⟩) xs.length c) xs vs (k + 1) bs' ∧ ∀ b, b ∈ bs' → b ∈ bs ∨ b ∈ bx := by
 refine h.step G hT hl hk hE hn (fun css hz hcl hck hrow => ?_) (grown_setCells cs w (k * sz))
 ·obtain ⟨h1, -⟩ := ownsRow_setCells cs w base css.flatten (k * sz) hrow
  rwa [setAll_flat hz (G.len hE) h0 (by omega)] at h1
end
end Go.Proofs.YtkehfilmpdoglaaGreat
namespace Go.Proofs.YtkehfilmpdoglaaGreat
open Go.RowKit
def IntTs : List TypeId := []
def IntO : ElO Int := FlatO (fun n : Int => [.int .i64 n])
theorem IntO.good : GoodO IntTs 1 IntO := FlatO.good (fun _ => rfl) fun x u hu => by
 simp at hu
 try rcases hu with rfl
 all_goals first | rfl | (subst hu; rfl)
theorem IntO.toR {ok : Nat → Prop} {w : World} {base : Nat} {cs : List Value} {x : Int} {bs : List Nat} (h : IntO w base cs x bs) : IntR ok w cs x := h.1
theorem IntO.out : 2 ∉ IntTs := by decide
def TkTs : List TypeId := []
def TkO : ElO Tk := FlatO (Tk.cells)
theorem TkO.good : GoodO TkTs 5 TkO := FlatO.good (fun _ => rfl) fun x u hu => by
 simp [Tk.cells] at hu
 try rcases hu with rfl | rfl | rfl | rfl | rfl
 all_goals first | rfl | (subst hu; rfl)
theorem TkO.toR {ok : Nat → Prop} {w : World} {base : Nat} {cs : List Value} {x : Tk} {bs : List Nat} (h : TkO w base cs x bs) : TkR ok w cs x := h.1
theorem TkO.out : 90 ∉ TkTs := by decide
def VlTs : List TypeId := []
def VlO : ElO Vl := FlatO (Vl.cells)
theorem VlO.good : GoodO VlTs 3 VlO := FlatO.good (fun _ => rfl) fun x u hu => by
 simp [Vl.cells] at hu
 try rcases hu with rfl | rfl | rfl
 all_goals first | rfl | (subst hu; rfl)
theorem VlO.toR {ok : Nat → Prop} {w : World} {base : Nat} {cs : List Value} {x : Vl} {bs : List Nat} (h : VlO w base cs x bs) : VlR ok w cs x := h.1
theorem VlO.out : 84 ∉ VlTs := by decide
def ClTs : List TypeId := []
def ClO : ElO Cl := FlatO (Cl.cells)
theorem ClO.good : GoodO ClTs 6 ClO := FlatO.good (fun _ => rfl) fun x u hu => by
 simp [Cl.cells] at hu
 try rcases hu with rfl | rfl | rfl | rfl | rfl | rfl
 all_goals first | rfl | (subst hu; rfl)
theorem ClO.toR {ok : Nat → Prop} {w : World} {base : Nat} {cs : List Value} {x : Cl} {bs : List Nat} (h : ClO w base cs x bs) : ClR ok w cs x := h.1
theorem ClO.out : 86 ∉ ClTs := by decide
def UqTs : List TypeId := [2 :: IntTs].flatten
def UqO : ElO Uq := fun w base cs x bs => ∃ (v0 : Value) (b0 : List Nat), cs = [v0] ∧ OwnTr IntO 2 1 w base v0 x.cols b0 ∧ bs = [b0].flatten ∧ bs.Nodup
theorem UqO.good : GoodO UqTs 1 UqO where
 len := fun ⟨v0, b0, e, h0, e2, hn⟩ => by rw [e]; rfl
 one := fun ⟨v0, b0, e, h0, e2, hn⟩ u hu => by
  rw [e] at hu
  simp at hu
  try rcases hu with rfl
  all_goals first | rfl | exact h0.one | exact h1.one | exact h2.one | exact h3.one | exact h4.one | exact h5.one | (subst hu; first | rfl | exact h0.one)
 typed := fun ⟨v0, b0, e, h0, e2, hn⟩ b hb => by
  rw [e2] at hb
  simp only [List.flatten_cons, List.flatten_nil, List.append_nil, List.mem_append] at hb
  skip
  ·obtain ⟨k1, cur, U, k2, k3⟩ := h0.typed IntO.good b hb
   exact ⟨k1, cur, U, k2, by simp only [UqTs, List.flatten_cons, List.flatten_nil, List.append_nil, List.mem_append]; exact k3⟩
 nodup := fun ⟨v0, b0, e, h0, e2, hn⟩ => hn
 dep := fun ⟨v0, b0, e, h0, e2, hn⟩ hd => ⟨v0, b0, e, h0.dep IntO.good (fun b hb => hd b (by rw [e2]; exact mem_flatten_getD (bss := [b0]) (i := 0) hb)), e2, hn⟩
 mono := fun ⟨v0, b0, e, h0, e2, hn⟩ hb => ⟨v0, b0, e, h0.mono IntO.good hb, e2, hn⟩
theorem UqO.toR {w : World} {base : Nat} {cs : List Value} {x : Uq} {bs : List Nat} (h : UqO w base cs x bs) : UqR (okF base w) w cs x := by
 obtain ⟨v0, b0, e, h0, e2, hn⟩ := h
 obtain ⟨A0, c0, rfl, p0, q0, r0⟩ := h0.sl IntO.good (fun cs x bs h => IntO.toR h)
 exact ⟨A0, _, c0, e, r0, p0⟩
theorem UqO.out : 60 ∉ UqTs := by decide
def CkTs : List TypeId := [90 :: TkTs].flatten
def CkO : ElO Ck := fun w base cs x bs => ∃ (v0 : Value) (b0 : List Nat), cs = [v0] ∧ OwnTr TkO 90 5 w base v0 x.expr b0 ∧ bs = [b0].flatten ∧ bs.Nodup
theorem CkO.good : GoodO CkTs 1 CkO where
 len := fun ⟨v0, b0, e, h0, e2, hn⟩ => by rw [e]; rfl
 one := fun ⟨v0, b0, e, h0, e2, hn⟩ u hu => by
  rw [e] at hu
  simp at hu
  try rcases hu with rfl
  all_goals first | rfl | exact h0.one | exact h1.one | exact h2.one | exact h3.one | exact h4.one | exact h5.one | (subst hu; first | rfl | exact h0.one)
 typed := fun ⟨v0, b0, e, h0, e2, hn⟩ b hb => by
  rw [e2] at hb
  simp only [List.flatten_cons, List.flatten_nil, List.append_nil, List.mem_append] at hb
  skip
  ·obtain ⟨k1, cur, U, k2, k3⟩ := h0.typed TkO.good b hb
   exact ⟨k1, cur, U, k2, by simp only [CkTs, List.flatten_cons, List.flatten_nil, List.append_nil, List.mem_append]; exact k3⟩
 nodup := fun ⟨v0, b0, e, h0, e2, hn⟩ => hn
 dep := fun ⟨v0, b0, e, h0, e2, hn⟩ hd => ⟨v0, b0, e, h0.dep TkO.good (fun b hb => hd b (by rw [e2]; exact mem_flatten_getD (bss := [b0]) (i := 0) hb)), e2, hn⟩
 mono := fun ⟨v0, b0, e, h0, e2, hn⟩ hb => ⟨v0, b0, e, h0.mono TkO.good hb, e2, hn⟩
theorem CkO.toR {w : World} {base : Nat} {cs : List Value} {x : Ck} {bs : List Nat} (h : CkO w base cs x bs) : CkR (okF base w) w cs x := by
 obtain ⟨v0, b0, e, h0, e2, hn⟩ := h
 obtain ⟨A0, c0, rfl, p0, q0, r0⟩ := h0.sl TkO.good (fun cs x bs h => TkO.toR h)
 exact ⟨A0, _, c0, e, r0, p0⟩
theorem CkO.out : 64 ∉ CkTs := by decide
def FkTs : List TypeId := [2 :: IntTs].flatten
def FkO : ElO Fk := fun w base cs x bs => ∃ (v0 : Value) (b0 : List Nat), cs = [v0, .string x.table, .int .i64 x.del, .int .i64 x.upd, .bool x.dfr] ∧ OwnTr IntO 2 1 w base v0 x.cols b0 ∧ bs = [b0].flatten ∧ bs.Nodup
theorem FkO.good : GoodO FkTs 5 FkO where
 len := fun ⟨v0, b0, e, h0, e2, hn⟩ => by rw [e]; rfl
 one := fun ⟨v0, b0, e, h0, e2, hn⟩ u hu => by
  rw [e] at hu
  simp at hu
  try rcases hu with rfl | rfl | rfl | rfl | rfl
  all_goals first | rfl | exact h0.one | exact h1.one | exact h2.one | exact h3.one | exact h4.one | exact h5.one | (subst hu; first | rfl | exact h0.one)
 typed := fun ⟨v0, b0, e, h0, e2, hn⟩ b hb => by
  rw [e2] at hb
  simp only [List.flatten_cons, List.flatten_nil, List.append_nil, List.mem_append] at hb
  skip
  ·obtain ⟨k1, cur, U, k2, k3⟩ := h0.typed IntO.good b hb
   exact ⟨k1, cur, U, k2, by simp only [FkTs, List.flatten_cons, List.flatten_nil, List.append_nil, List.mem_append]; exact k3⟩
 nodup := fun ⟨v0, b0, e, h0, e2, hn⟩ => hn
 dep := fun ⟨v0, b0, e, h0, e2, hn⟩ hd => ⟨v0, b0, e, h0.dep IntO.good (fun b hb => hd b (by rw [e2]; exact mem_flatten_getD (bss := [b0]) (i := 0) hb)), e2, hn⟩
 mono := fun ⟨v0, b0, e, h0, e2, hn⟩ hb => ⟨v0, b0, e, h0.mono IntO.good hb, e2, hn⟩
theorem FkO.toR {w : World} {base : Nat} {cs : List Value} {x : Fk} {bs : List Nat} (h : FkO w base cs x bs) : FkR (okF base w) w cs x := by
 obtain ⟨v0, b0, e, h0, e2, hn⟩ := h
 obtain ⟨A0, c0, rfl, p0, q0, r0⟩ := h0.sl IntO.good (fun cs x bs h => IntO.toR h)
 exact ⟨A0, _, c0, e, r0, p0⟩
theorem FkO.out : 66 ∉ FkTs := by decide
def TbTs : List TypeId := [86 :: ClTs, 2 :: IntTs, 60 :: UqTs, 64 :: CkTs, 66 :: FkTs].flatten
def TbO : ElO Tb := fun w base cs x bs => ∃ (v1 : Value) (b1 : List Nat) (v2 : Value) (b2 : List Nat) (v3 : Value) (b3 : List Nat) (v4 : Value) (b4 : List Nat) (v5 : Value) (b5 : List Nat), cs = [.string x.name, v1, v2, v3, v4, v5] ∧ OwnTr ClO 86 6 w base v1 x.cols b1 ∧ OwnTr IntO 2 1 w base v2 x.key b2 ∧ OwnTr UqO 60 1 w base v3 x.uniqs b3 ∧ OwnTr CkO 64 1 w base v4 x.checks b4 ∧ OwnTr FkO 66 5 w base v5 x.fks b5 ∧ bs = [b1, b2, b3, b4, b5].flatten ∧ bs.Nodup
theorem TbO.good : GoodO TbTs 6 TbO where
 len := fun ⟨v1, b1, v2, b2, v3, b3, v4, b4, v5, b5, e, h1, h2, h3, h4, h5, e2, hn⟩ => by rw [e]; rfl
 one := fun ⟨v1, b1, v2, b2, v3, b3, v4, b4, v5, b5, e, h1, h2, h3, h4, h5, e2, hn⟩ u hu => by
  rw [e] at hu
  simp at hu
  try rcases hu with rfl | rfl | rfl | rfl | rfl | rfl
  all_goals first | rfl | exact h0.one | exact h1.one | exact h2.one | exact h3.one | exact h4.one | exact h5.one | (subst hu; first | rfl | exact h0.one)
 typed := fun ⟨v1, b1, v2, b2, v3, b3, v4, b4, v5, b5, e, h1, h2, h3, h4, h5, e2, hn⟩ b hb => by
  rw [e2] at hb
  simp only [List.flatten_cons, List.flatten_nil, List.append_nil, List.mem_append] at hb
  rcases hb with hb | hb | hb | hb | hb
  ·obtain ⟨k1, cur, U, k2, k3⟩ := h1.typed ClO.good b hb
   exact ⟨k1, cur, U, k2, by simp only [TbTs, List.flatten_cons, List.flatten_nil, List.append_nil, List.mem_append]; exact .inl k3⟩
  ·obtain ⟨k1, cur, U, k2, k3⟩ := h2.typed IntO.good b hb
   exact ⟨k1, cur, U, k2, by simp only [TbTs, List.flatten_cons, List.flatten_nil, List.append_nil, List.mem_append]; exact .inr (.inl k3)⟩
  ·obtain ⟨k1, cur, U, k2, k3⟩ := h3.typed UqO.good b hb
   exact ⟨k1, cur, U, k2, by simp only [TbTs, List.flatten_cons, List.flatten_nil, List.append_nil, List.mem_append]; exact .inr (.inr (.inl k3))⟩
  ·obtain ⟨k1, cur, U, k2, k3⟩ := h4.typed CkO.good b hb
   exact ⟨k1, cur, U, k2, by simp only [TbTs, List.flatten_cons, List.flatten_nil, List.append_nil, List.mem_append]; exact .inr (.inr (.inr (.inl k3)))⟩
  ·obtain ⟨k1, cur, U, k2, k3⟩ := h5.typed FkO.good b hb
   exact ⟨k1, cur, U, k2, by simp only [TbTs, List.flatten_cons, List.flatten_nil, List.append_nil, List.mem_append]; exact .inr (.inr (.inr (.inr (k3))))⟩
 nodup := fun ⟨v1, b1, v2, b2, v3, b3, v4, b4, v5, b5, e, h1, h2, h3, h4, h5, e2, hn⟩ => hn
 dep := fun ⟨v1, b1, v2, b2, v3, b3, v4, b4, v5, b5, e, h1, h2, h3, h4, h5, e2, hn⟩ hd => ⟨v1, b1, v2, b2, v3, b3, v4, b4, v5, b5, e, h1.dep ClO.good (fun b hb => hd b (by rw [e2]; exact mem_flatten_getD (bss := [b1, b2, b3, b4, b5]) (i := 0) hb)), h2.dep IntO.good (fun b hb => hd b (by rw [e2]; exact mem_flatten_getD (bss := [b1, b2, b3, b4, b5]) (i := 1) hb)), h3.dep UqO.good (fun b hb => hd b (by rw [e2]; exact mem_flatten_getD (bss := [b1, b2, b3, b4, b5]) (i := 2) hb)), h4.dep CkO.good (fun b hb => hd b (by rw [e2]; exact mem_flatten_getD (bss := [b1, b2, b3, b4, b5]) (i := 3) hb)), h5.dep FkO.good (fun b hb => hd b (by rw [e2]; exact mem_flatten_getD (bss := [b1, b2, b3, b4, b5]) (i := 4) hb)), e2, hn⟩
 mono := fun ⟨v1, b1, v2, b2, v3, b3, v4, b4, v5, b5, e, h1, h2, h3, h4, h5, e2, hn⟩ hb => ⟨v1, b1, v2, b2, v3, b3, v4, b4, v5, b5, e, h1.mono ClO.good hb, h2.mono IntO.good hb, h3.mono UqO.good hb, h4.mono CkO.good hb, h5.mono FkO.good hb, e2, hn⟩
theorem TbO.toR {w : World} {base : Nat} {cs : List Value} {x : Tb} {bs : List Nat} (h : TbO w base cs x bs) : TbR (okF base w) w cs x := by
 obtain ⟨v1, b1, v2, b2, v3, b3, v4, b4, v5, b5, e, h1, h2, h3, h4, h5, e2, hn⟩ := h
 obtain ⟨A1, c1, rfl, p1, q1, r1⟩ := h1.sl ClO.good (fun cs x bs h => ClO.toR h)
 obtain ⟨A2, c2, rfl, p2, q2, r2⟩ := h2.sl IntO.good (fun cs x bs h => IntO.toR h)
 obtain ⟨A3, c3, rfl, p3, q3, r3⟩ := h3.sl UqO.good (fun cs x bs h => UqO.toR h)
 obtain ⟨A4, c4, rfl, p4, q4, r4⟩ := h4.sl CkO.good (fun cs x bs h => CkO.toR h)
 obtain ⟨A5, c5, rfl, p5, q5, r5⟩ := h5.sl FkO.good (fun cs x bs h => FkO.toR h)
 exact ⟨A1, _, c1, A2, _, c2, A3, _, c3, A4, _, c4, A5, _, c5, e, r1, r2, r3, r4, r5, ⟨p1, p2, p3, p4, p5⟩⟩
theorem TbO.out : 57 ∉ TbTs := by decide
def RwTs : List TypeId := [84 :: VlTs].flatten
def RwO : ElO Rw := fun w base cs x bs => ∃ (v1 : Value) (b1 : List Nat), cs = [.int .i64 x.id, v1] ∧ OwnTr VlO 84 3 w base v1 x.vals b1 ∧ bs = [b1].flatten ∧ bs.Nodup
theorem RwO.good : GoodO RwTs 2 RwO where
 len := fun ⟨v1, b1, e, h1, e2, hn⟩ => by rw [e]; rfl
 one := fun ⟨v1, b1, e, h1, e2, hn⟩ u hu => by
  rw [e] at hu
  simp at hu
  try rcases hu with rfl | rfl
  all_goals first | rfl | exact h0.one | exact h1.one | exact h2.one | exact h3.one | exact h4.one | exact h5.one | (subst hu; first | rfl | exact h0.one)
 typed := fun ⟨v1, b1, e, h1, e2, hn⟩ b hb => by
  rw [e2] at hb
  simp only [List.flatten_cons, List.flatten_nil, List.append_nil, List.mem_append] at hb
  skip
  ·obtain ⟨k1, cur, U, k2, k3⟩ := h1.typed VlO.good b hb
   exact ⟨k1, cur, U, k2, by simp only [RwTs, List.flatten_cons, List.flatten_nil, List.append_nil, List.mem_append]; exact k3⟩
 nodup := fun ⟨v1, b1, e, h1, e2, hn⟩ => hn
 dep := fun ⟨v1, b1, e, h1, e2, hn⟩ hd => ⟨v1, b1, e, h1.dep VlO.good (fun b hb => hd b (by rw [e2]; exact mem_flatten_getD (bss := [b1]) (i := 0) hb)), e2, hn⟩
 mono := fun ⟨v1, b1, e, h1, e2, hn⟩ hb => ⟨v1, b1, e, h1.mono VlO.good hb, e2, hn⟩
theorem RwO.toR {w : World} {base : Nat} {cs : List Value} {x : Rw} {bs : List Nat} (h : RwO w base cs x bs) : RwR (okF base w) w cs x := by
 obtain ⟨v1, b1, e, h1, e2, hn⟩ := h
 obtain ⟨A1, c1, rfl, p1, q1, r1⟩ := h1.sl VlO.good (fun cs x bs h => VlO.toR h)
 exact ⟨A1, _, c1, e, r1, p1⟩
theorem RwO.out : 72 ∉ RwTs := by decide
def DtTs : List TypeId := [72 :: RwTs].flatten
def DtO : ElO Dt := fun w base cs x bs => ∃ (v0 : Value) (b0 : List Nat), cs = [v0] ∧ OwnTr RwO 72 2 w base v0 x.rows b0 ∧ bs = [b0].flatten ∧ bs.Nodup
theorem DtO.good : GoodO DtTs 1 DtO where
 len := fun ⟨v0, b0, e, h0, e2, hn⟩ => by rw [e]; rfl
 one := fun ⟨v0, b0, e, h0, e2, hn⟩ u hu => by
  rw [e] at hu
  simp at hu
  try rcases hu with rfl
  all_goals first | rfl | exact h0.one | exact h1.one | exact h2.one | exact h3.one | exact h4.one | exact h5.one | (subst hu; first | rfl | exact h0.one)
 typed := fun ⟨v0, b0, e, h0, e2, hn⟩ b hb => by
  rw [e2] at hb
  simp only [List.flatten_cons, List.flatten_nil, List.append_nil, List.mem_append] at hb
  skip
  ·obtain ⟨k1, cur, U, k2, k3⟩ := h0.typed RwO.good b hb
   exact ⟨k1, cur, U, k2, by simp only [DtTs, List.flatten_cons, List.flatten_nil, List.append_nil, List.mem_append]; exact k3⟩
 nodup := fun ⟨v0, b0, e, h0, e2, hn⟩ => hn
 dep := fun ⟨v0, b0, e, h0, e2, hn⟩ hd => ⟨v0, b0, e, h0.dep RwO.good (fun b hb => hd b (by rw [e2]; exact mem_flatten_getD (bss := [b0]) (i := 0) hb)), e2, hn⟩
 mono := fun ⟨v0, b0, e, h0, e2, hn⟩ hb => ⟨v0, b0, e, h0.mono RwO.good hb, e2, hn⟩
theorem DtO.toR {w : World} {base : Nat} {cs : List Value} {x : Dt} {bs : List Nat} (h : DtO w base cs x bs) : DtR (okF base w) w cs x := by
 obtain ⟨v0, b0, e, h0, e2, hn⟩ := h
 obtain ⟨A0, c0, rfl, p0, q0, r0⟩ := h0.sl RwO.good (fun cs x bs h => RwO.toR h)
 exact ⟨A0, _, c0, e, r0, p0⟩
theorem DtO.out : 69 ∉ DtTs := by decide
def SvTs : List TypeId := [69 :: DtTs].flatten
def SvO : ElO Sv := fun w base cs x bs => ∃ (v1 : Value) (b1 : List Nat), cs = [.string x.name, v1] ∧ OwnTr DtO 69 1 w base v1 x.db b1 ∧ bs = [b1].flatten ∧ bs.Nodup
theorem SvO.good : GoodO SvTs 2 SvO where
 len := fun ⟨v1, b1, e, h1, e2, hn⟩ => by rw [e]; rfl
 one := fun ⟨v1, b1, e, h1, e2, hn⟩ u hu => by
  rw [e] at hu
  simp at hu
  try rcases hu with rfl | rfl
  all_goals first | rfl | exact h0.one | exact h1.one | exact h2.one | exact h3.one | exact h4.one | exact h5.one | (subst hu; first | rfl | exact h0.one)
 typed := fun ⟨v1, b1, e, h1, e2, hn⟩ b hb => by
  rw [e2] at hb
  simp only [List.flatten_cons, List.flatten_nil, List.append_nil, List.mem_append] at hb
  skip
  ·obtain ⟨k1, cur, U, k2, k3⟩ := h1.typed DtO.good b hb
   exact ⟨k1, cur, U, k2, by simp only [SvTs, List.flatten_cons, List.flatten_nil, List.append_nil, List.mem_append]; exact k3⟩
 nodup := fun ⟨v1, b1, e, h1, e2, hn⟩ => hn
 dep := fun ⟨v1, b1, e, h1, e2, hn⟩ hd => ⟨v1, b1, e, h1.dep DtO.good (fun b hb => hd b (by rw [e2]; exact mem_flatten_getD (bss := [b1]) (i := 0) hb)), e2, hn⟩
 mono := fun ⟨v1, b1, e, h1, e2, hn⟩ hb => ⟨v1, b1, e, h1.mono DtO.good hb, e2, hn⟩
theorem SvO.toR {w : World} {base : Nat} {cs : List Value} {x : Sv} {bs : List Nat} (h : SvO w base cs x bs) : SvR (okF base w) w cs x := by
 obtain ⟨v1, b1, e, h1, e2, hn⟩ := h
 obtain ⟨A1, c1, rfl, p1, q1, r1⟩ := h1.sl DtO.good (fun cs x bs h => DtO.toR h)
 exact ⟨A1, _, c1, e, r1, p1⟩
theorem SvO.out : 42 ∉ SvTs := by decide
def Copied {α : Type} (Rr : Rd α) (T : TypeId) (sz : Nat) (ok : Nat → Prop) (w : World) (e : Ending) (w' : World) (xs : List α) : Prop :=
 ∃ (v' : Value) (vs : List (List Value)), e = .returned v' ∧ vs.length = xs.length ∧ (∀ c ∈ vs, c.length = sz) ∧ w'.ownsRow w.heap.size T sz v' xs.length vs.flatten ∧ (∀ i (hi : i < xs.length) (hi' : i < vs.length), Rr ok w vs[i] xs[i]) ∧ Below w.heap.size w w'
theorem infoTableCl : (Tryz.prog.info? 57).map (fun i => (i.zero, i.size, i.bytes)) = some (some (.agg #[.string ⟨#[]⟩, .slice none 0 0, .slice none 0 0, .slice none 0 0, .slice none 0 0, .slice none 0 0]), 6, 136) := by kernel_rfl
theorem oneTable {ok : Nat → Prop} {w : World} {cs : List Value} {x : Tb} (h : TbR ok w cs x) : ∀ u ∈ cs, u.oneCell' = true := fun u hu => by
 obtain ⟨_, _, _, _, _, _, _, _, _, _, _, _, _, _, _, rfl, -⟩ := h
 simp at hu
 try rcases hu with rfl | rfl | rfl | rfl | rfl | rfl
 all_goals first | rfl | (subst hu; rfl)
set_option maxRecDepth 100000 in
set_option maxHeartbeats 1000000 in
theorem implCloneTable (A : Option Addr) (n c : Nat) (xs : List Tb) (ok : Nat → Prop) (w : World) (h : Sl TbR 6 ok w A n xs) (hl : n ≤ 1073741824) :
  Calls Tryz.prog 45 #[.slice A n c] w fun e w' => Copied TbR 57 6 ok w e w' xs := by
 obtain ⟨i0, hi, hz0, hz1, hz2⟩ := info_parts infoTableCl
 have H1 := Lib.hid hi
 have H2 := Lib.hid hz0
 have H3 := Lib.hid hz1
 have H4 := Lib.hid hz2
 clear hi hz0 hz1 hz2
 obtain rfl : xs.length = n := h.1
 have q22 : ∀ (w : World) (a : Option Addr) (n c n' c' : Nat), (binOp .eql 24 (.slice a n c) (.slice none n' c')).run Tryz.prog w = .ok (.bool a.isNone) w := fun w a n c n' c' => Lib.run_eql_slice_nil w _ _ a n c n' c' Tryz.underlying24
 cases A with
 | none =>
  have hn : xs.length = 0 := by
   rcases Nat.eq_zero_or_pos xs.length with h' | h'
   ·exact h'
   ·obtain ⟨b, off, e, -⟩ := h.2 h'
    cases e
  obtain rfl : xs = [] := List.length_eq_zero_iff.1 hn
  simp only [List.length_nil] at *
  go_enter Tryz.func45, Tryz.ntmps45
  go_wp2_with fail
  go_ret
  exact ⟨_, [], rfl, rfl, fun c hc => (by cases hc), World.ownsRow_nil _ _ _ _, fun i h => by simp at h, Below.refl _ _⟩
 | some ad =>
  obtain ⟨vs, h1, h2, h3, h4⟩ := h.cells (by decide)
  have hb0 := (Below.refl w.heap.size w).alloc (Nat.le_refl _) (.cells #[] 57)
  have HO0 := Lib.hid (show World.ownsRow (w.alloc (.cells #[] 57)) w.heap.size 57 6 (.slice (some ⟨w.heap.size, 0, none⟩) 0 0) 0 [] from ⟨by simp, .inr ⟨w.heap.size, 0, #[], rfl, Nat.le_refl _, Go.heap_alloc_last w _, Nat.le_refl _, by simp [maxLen], by simp, by simp⟩⟩)
  have had : ad = ⟨ad.block, ad.off, none⟩ ∨ xs.length = 0 := by
   rcases Nat.eq_zero_or_pos xs.length with h' | h'
   ·exact .inr h'
   ·obtain ⟨b, off, e, -⟩ := h.2 h'
    cases e
    exact .inl rfl
  have HX := Lib.hid (show ∀ j u, vs.flatten[j]? = some u → (w.alloc (.cells #[] 57)).cell? (ad.add j) = some u from fun j u hj => by
   rcases had with e | e
   ·rw [e]; exact below_keep hb0 _ _ (h4 _ _ (by rw [← e]) j u hj)
   ·have : vs = [] := List.length_eq_zero_iff.1 (by omega)
    rw [this] at hj; simp at hj)
  have HL := Lib.hid (show vs.flatten.length = xs.length * 6 by rw [flat_len (sz := 6) vs h2, h1])
  have H6 := Lib.hid (show ∀ u ∈ vs.flatten, u.oneCell' = true from fun u hu => by
   obtain ⟨cs, hcs, hu⟩ := List.mem_flatten.1 hu
   obtain ⟨i, hi, rfl⟩ := List.mem_iff_getElem.1 hcs
   exact oneTable (h3 i (by omega) hi) u hu)
  have HK := Lib.hid (And.intro h1 (And.intro h2 h3))
  clear h h1 h2 h3 h4 hb0 had
  go_enter Tryz.func45, Tryz.ntmps45
  go_wp2_with (at_builtin; refine wpList_append_own _ rfl _ _ 24 rfl w.heap.size 57 i0 (.agg #[.string ⟨#[]⟩, .slice none 0 0, .slice none 0 0, .slice none 0 0, .slice none 0 0, .slice none 0 0]) 6 136 Tryz.underlying24 H1.out H2.out H3.out H4.out rfl (by decide) _ _ _ rfl HO0.out ad xs.length c vs.flatten rfl ?c0 ?c1 ?c2 ?c3 ?c4 ?c5 ?_)
  case c0 => exact HL.out
  case c1 => exact HX.out
  case c2 => exact H6.out
  case c3 => unfold maxLen; omega
  case c4 => omega
  case c5 => simp
  intro v9 w9 hown9 hgrow9 _
  go_wp2_with fail
  go_ret
  exact ⟨_, vs, rfl, HK.out.1, HK.out.2.1, by simpa using hown9, HK.out.2.2, ((Below.refl w.heap.size w).alloc (Nat.le_refl _) _).grown hgrow9 (by simp) (by intro k hk; simp [Value.ownBlock] at hk; omega)⟩
theorem infoColCl : (Tryz.prog.info? 86).map (fun i => (i.zero, i.size, i.bytes)) = some (some (.agg #[.string ⟨#[]⟩, .int .i64 0, .bool false, .int .i64 0, .int .i64 0, .string ⟨#[]⟩]), 6, 64) := by kernel_rfl
theorem oneCol {ok : Nat → Prop} {w : World} {cs : List Value} {x : Cl} (h : ClR ok w cs x) : ∀ u ∈ cs, u.oneCell' = true := fun u hu => by
 obtain rfl := h
 simp [Cl.cells] at hu
 try rcases hu with rfl | rfl | rfl | rfl | rfl | rfl
 all_goals first | rfl | (subst hu; rfl)
set_option maxRecDepth 100000 in
set_option maxHeartbeats 1000000 in
theorem implCloneCol (A : Option Addr) (n c : Nat) (xs : List Cl) (ok : Nat → Prop) (w : World) (h : Sl ClR 6 ok w A n xs) (hl : n ≤ 1073741824) :
  Calls Tryz.prog 63 #[.slice A n c] w fun e w' => Copied ClR 86 6 ok w e w' xs := by
 obtain ⟨i0, hi, hz0, hz1, hz2⟩ := info_parts infoColCl
 have H1 := Lib.hid hi
 have H2 := Lib.hid hz0
 have H3 := Lib.hid hz1
 have H4 := Lib.hid hz2
 clear hi hz0 hz1 hz2
 obtain rfl : xs.length = n := h.1
 have q22 : ∀ (w : World) (a : Option Addr) (n c n' c' : Nat), (binOp .eql 51 (.slice a n c) (.slice none n' c')).run Tryz.prog w = .ok (.bool a.isNone) w := fun w a n c n' c' => Lib.run_eql_slice_nil w _ _ a n c n' c' Tryz.underlying51
 cases A with
 | none =>
  have hn : xs.length = 0 := by
   rcases Nat.eq_zero_or_pos xs.length with h' | h'
   ·exact h'
   ·obtain ⟨b, off, e, -⟩ := h.2 h'
    cases e
  obtain rfl : xs = [] := List.length_eq_zero_iff.1 hn
  simp only [List.length_nil] at *
  go_enter Tryz.func63, Tryz.ntmps63
  go_wp2_with fail
  go_ret
  exact ⟨_, [], rfl, rfl, fun c hc => (by cases hc), World.ownsRow_nil _ _ _ _, fun i h => by simp at h, Below.refl _ _⟩
 | some ad =>
  obtain ⟨vs, h1, h2, h3, h4⟩ := h.cells (by decide)
  have hb0 := (Below.refl w.heap.size w).alloc (Nat.le_refl _) (.cells #[] 86)
  have HO0 := Lib.hid (show World.ownsRow (w.alloc (.cells #[] 86)) w.heap.size 86 6 (.slice (some ⟨w.heap.size, 0, none⟩) 0 0) 0 [] from ⟨by simp, .inr ⟨w.heap.size, 0, #[], rfl, Nat.le_refl _, Go.heap_alloc_last w _, Nat.le_refl _, by simp [maxLen], by simp, by simp⟩⟩)
  have had : ad = ⟨ad.block, ad.off, none⟩ ∨ xs.length = 0 := by
   rcases Nat.eq_zero_or_pos xs.length with h' | h'
   ·exact .inr h'
   ·obtain ⟨b, off, e, -⟩ := h.2 h'
    cases e
    exact .inl rfl
  have HX := Lib.hid (show ∀ j u, vs.flatten[j]? = some u → (w.alloc (.cells #[] 86)).cell? (ad.add j) = some u from fun j u hj => by
   rcases had with e | e
   ·rw [e]; exact below_keep hb0 _ _ (h4 _ _ (by rw [← e]) j u hj)
   ·have : vs = [] := List.length_eq_zero_iff.1 (by omega)
    rw [this] at hj; simp at hj)
  have HL := Lib.hid (show vs.flatten.length = xs.length * 6 by rw [flat_len (sz := 6) vs h2, h1])
  have H6 := Lib.hid (show ∀ u ∈ vs.flatten, u.oneCell' = true from fun u hu => by
   obtain ⟨cs, hcs, hu⟩ := List.mem_flatten.1 hu
   obtain ⟨i, hi, rfl⟩ := List.mem_iff_getElem.1 hcs
   exact oneCol (h3 i (by omega) hi) u hu)
  have HK := Lib.hid (And.intro h1 (And.intro h2 h3))
  clear h h1 h2 h3 h4 hb0 had
  go_enter Tryz.func63, Tryz.ntmps63
  go_wp2_with (at_builtin; refine wpList_append_own _ rfl _ _ 51 rfl w.heap.size 86 i0 (.agg #[.string ⟨#[]⟩, .int .i64 0, .bool false, .int .i64 0, .int .i64 0, .string ⟨#[]⟩]) 6 64 Tryz.underlying51 H1.out H2.out H3.out H4.out rfl (by decide) _ _ _ rfl HO0.out ad xs.length c vs.flatten rfl ?c0 ?c1 ?c2 ?c3 ?c4 ?c5 ?_)
  case c0 => exact HL.out
  case c1 => exact HX.out
  case c2 => exact H6.out
  case c3 => unfold maxLen; omega
  case c4 => omega
  case c5 => simp
  intro v9 w9 hown9 hgrow9 _
  go_wp2_with fail
  go_ret
  exact ⟨_, vs, rfl, HK.out.1, HK.out.2.1, by simpa using hown9, HK.out.2.2, ((Below.refl w.heap.size w).alloc (Nat.le_refl _) _).grown hgrow9 (by simp) (by intro k hk; simp [Value.ownBlock] at hk; omega)⟩
theorem infoUniqueCl : (Tryz.prog.info? 60).map (fun i => (i.zero, i.size, i.bytes)) = some (some (.agg #[.slice none 0 0]), 1, 24) := by kernel_rfl
theorem oneUnique {ok : Nat → Prop} {w : World} {cs : List Value} {x : Uq} (h : UqR ok w cs x) : ∀ u ∈ cs, u.oneCell' = true := fun u hu => by
 obtain ⟨_, _, _, rfl, -⟩ := h
 simp at hu
 try rcases hu with rfl
 all_goals first | rfl | (subst hu; rfl)
set_option maxRecDepth 100000 in
set_option maxHeartbeats 1000000 in
theorem implCloneUnique (A : Option Addr) (n c : Nat) (xs : List Uq) (ok : Nat → Prop) (w : World) (h : Sl UqR 1 ok w A n xs) (hl : n ≤ 1073741824) :
  Calls Tryz.prog 65 #[.slice A n c] w fun e w' => Copied UqR 60 1 ok w e w' xs := by
 obtain ⟨i0, hi, hz0, hz1, hz2⟩ := info_parts infoUniqueCl
 have H1 := Lib.hid hi
 have H2 := Lib.hid hz0
 have H3 := Lib.hid hz1
 have H4 := Lib.hid hz2
 clear hi hz0 hz1 hz2
 obtain rfl : xs.length = n := h.1
 have q22 : ∀ (w : World) (a : Option Addr) (n c n' c' : Nat), (binOp .eql 53 (.slice a n c) (.slice none n' c')).run Tryz.prog w = .ok (.bool a.isNone) w := fun w a n c n' c' => Lib.run_eql_slice_nil w _ _ a n c n' c' Tryz.underlying53
 cases A with
 | none =>
  have hn : xs.length = 0 := by
   rcases Nat.eq_zero_or_pos xs.length with h' | h'
   ·exact h'
   ·obtain ⟨b, off, e, -⟩ := h.2 h'
    cases e
  obtain rfl : xs = [] := List.length_eq_zero_iff.1 hn
  simp only [List.length_nil] at *
  go_enter Tryz.func65, Tryz.ntmps65
  go_wp2_with fail
  go_ret
  exact ⟨_, [], rfl, rfl, fun c hc => (by cases hc), World.ownsRow_nil _ _ _ _, fun i h => by simp at h, Below.refl _ _⟩
 | some ad =>
  obtain ⟨vs, h1, h2, h3, h4⟩ := h.cells (by decide)
  have hb0 := (Below.refl w.heap.size w).alloc (Nat.le_refl _) (.cells #[] 60)
  have HO0 := Lib.hid (show World.ownsRow (w.alloc (.cells #[] 60)) w.heap.size 60 1 (.slice (some ⟨w.heap.size, 0, none⟩) 0 0) 0 [] from ⟨by simp, .inr ⟨w.heap.size, 0, #[], rfl, Nat.le_refl _, Go.heap_alloc_last w _, Nat.le_refl _, by simp [maxLen], by simp, by simp⟩⟩)
  have had : ad = ⟨ad.block, ad.off, none⟩ ∨ xs.length = 0 := by
   rcases Nat.eq_zero_or_pos xs.length with h' | h'
   ·exact .inr h'
   ·obtain ⟨b, off, e, -⟩ := h.2 h'
    cases e
    exact .inl rfl
  have HX := Lib.hid (show ∀ j u, vs.flatten[j]? = some u → (w.alloc (.cells #[] 60)).cell? (ad.add j) = some u from fun j u hj => by
   rcases had with e | e
   ·rw [e]; exact below_keep hb0 _ _ (h4 _ _ (by rw [← e]) j u hj)
   ·have : vs = [] := List.length_eq_zero_iff.1 (by omega)
    rw [this] at hj; simp at hj)
  have HL := Lib.hid (show vs.flatten.length = xs.length * 1 by rw [flat_len (sz := 1) vs h2, h1])
  have H6 := Lib.hid (show ∀ u ∈ vs.flatten, u.oneCell' = true from fun u hu => by
   obtain ⟨cs, hcs, hu⟩ := List.mem_flatten.1 hu
   obtain ⟨i, hi, rfl⟩ := List.mem_iff_getElem.1 hcs
   exact oneUnique (h3 i (by omega) hi) u hu)
  have HK := Lib.hid (And.intro h1 (And.intro h2 h3))
  clear h h1 h2 h3 h4 hb0 had
  go_enter Tryz.func65, Tryz.ntmps65
  go_wp2_with (at_builtin; refine wpList_append_own _ rfl _ _ 53 rfl w.heap.size 60 i0 (.agg #[.slice none 0 0]) 1 24 Tryz.underlying53 H1.out H2.out H3.out H4.out rfl (by decide) _ _ _ rfl HO0.out ad xs.length c vs.flatten rfl ?c0 ?c1 ?c2 ?c3 ?c4 ?c5 ?_)
  case c0 => exact HL.out
  case c1 => exact HX.out
  case c2 => exact H6.out
  case c3 => unfold maxLen; omega
  case c4 => omega
  case c5 => simp
  intro v9 w9 hown9 hgrow9 _
  go_wp2_with fail
  go_ret
  exact ⟨_, vs, rfl, HK.out.1, HK.out.2.1, by simpa using hown9, HK.out.2.2, ((Below.refl w.heap.size w).alloc (Nat.le_refl _) _).grown hgrow9 (by simp) (by intro k hk; simp [Value.ownBlock] at hk; omega)⟩
theorem infoCheckCl : (Tryz.prog.info? 64).map (fun i => (i.zero, i.size, i.bytes)) = some (some (.agg #[.slice none 0 0]), 1, 24) := by kernel_rfl
theorem oneCheck {ok : Nat → Prop} {w : World} {cs : List Value} {x : Ck} (h : CkR ok w cs x) : ∀ u ∈ cs, u.oneCell' = true := fun u hu => by
 obtain ⟨_, _, _, rfl, -⟩ := h
 simp at hu
 try rcases hu with rfl
 all_goals first | rfl | (subst hu; rfl)
set_option maxRecDepth 100000 in
set_option maxHeartbeats 1000000 in
theorem implCloneCheck (A : Option Addr) (n c : Nat) (xs : List Ck) (ok : Nat → Prop) (w : World) (h : Sl CkR 1 ok w A n xs) (hl : n ≤ 1073741824) :
  Calls Tryz.prog 66 #[.slice A n c] w fun e w' => Copied CkR 64 1 ok w e w' xs := by
 obtain ⟨i0, hi, hz0, hz1, hz2⟩ := info_parts infoCheckCl
 have H1 := Lib.hid hi
 have H2 := Lib.hid hz0
 have H3 := Lib.hid hz1
 have H4 := Lib.hid hz2
 clear hi hz0 hz1 hz2
 obtain rfl : xs.length = n := h.1
 have q22 : ∀ (w : World) (a : Option Addr) (n c n' c' : Nat), (binOp .eql 54 (.slice a n c) (.slice none n' c')).run Tryz.prog w = .ok (.bool a.isNone) w := fun w a n c n' c' => Lib.run_eql_slice_nil w _ _ a n c n' c' Tryz.underlying54
 cases A with
 | none =>
  have hn : xs.length = 0 := by
   rcases Nat.eq_zero_or_pos xs.length with h' | h'
   ·exact h'
   ·obtain ⟨b, off, e, -⟩ := h.2 h'
    cases e
  obtain rfl : xs = [] := List.length_eq_zero_iff.1 hn
  simp only [List.length_nil] at *
  go_enter Tryz.func66, Tryz.ntmps66
  go_wp2_with fail
  go_ret
  exact ⟨_, [], rfl, rfl, fun c hc => (by cases hc), World.ownsRow_nil _ _ _ _, fun i h => by simp at h, Below.refl _ _⟩
 | some ad =>
  obtain ⟨vs, h1, h2, h3, h4⟩ := h.cells (by decide)
  have hb0 := (Below.refl w.heap.size w).alloc (Nat.le_refl _) (.cells #[] 64)
  have HO0 := Lib.hid (show World.ownsRow (w.alloc (.cells #[] 64)) w.heap.size 64 1 (.slice (some ⟨w.heap.size, 0, none⟩) 0 0) 0 [] from ⟨by simp, .inr ⟨w.heap.size, 0, #[], rfl, Nat.le_refl _, Go.heap_alloc_last w _, Nat.le_refl _, by simp [maxLen], by simp, by simp⟩⟩)
  have had : ad = ⟨ad.block, ad.off, none⟩ ∨ xs.length = 0 := by
   rcases Nat.eq_zero_or_pos xs.length with h' | h'
   ·exact .inr h'
   ·obtain ⟨b, off, e, -⟩ := h.2 h'
    cases e
    exact .inl rfl
  have HX := Lib.hid (show ∀ j u, vs.flatten[j]? = some u → (w.alloc (.cells #[] 64)).cell? (ad.add j) = some u from fun j u hj => by
   rcases had with e | e
   ·rw [e]; exact below_keep hb0 _ _ (h4 _ _ (by rw [← e]) j u hj)
   ·have : vs = [] := List.length_eq_zero_iff.1 (by omega)
    rw [this] at hj; simp at hj)
  have HL := Lib.hid (show vs.flatten.length = xs.length * 1 by rw [flat_len (sz := 1) vs h2, h1])
  have H6 := Lib.hid (show ∀ u ∈ vs.flatten, u.oneCell' = true from fun u hu => by
   obtain ⟨cs, hcs, hu⟩ := List.mem_flatten.1 hu
   obtain ⟨i, hi, rfl⟩ := List.mem_iff_getElem.1 hcs
   exact oneCheck (h3 i (by omega) hi) u hu)
  have HK := Lib.hid (And.intro h1 (And.intro h2 h3))
  clear h h1 h2 h3 h4 hb0 had
  go_enter Tryz.func66, Tryz.ntmps66
  go_wp2_with (at_builtin; refine wpList_append_own _ rfl _ _ 54 rfl w.heap.size 64 i0 (.agg #[.slice none 0 0]) 1 24 Tryz.underlying54 H1.out H2.out H3.out H4.out rfl (by decide) _ _ _ rfl HO0.out ad xs.length c vs.flatten rfl ?c0 ?c1 ?c2 ?c3 ?c4 ?c5 ?_)
  case c0 => exact HL.out
  case c1 => exact HX.out
  case c2 => exact H6.out
  case c3 => unfold maxLen; omega
  case c4 => omega
  case c5 => simp
  intro v9 w9 hown9 hgrow9 _
  go_wp2_with fail
  go_ret
  exact ⟨_, vs, rfl, HK.out.1, HK.out.2.1, by simpa using hown9, HK.out.2.2, ((Below.refl w.heap.size w).alloc (Nat.le_refl _) _).grown hgrow9 (by simp) (by intro k hk; simp [Value.ownBlock] at hk; omega)⟩
theorem infoTokCl : (Tryz.prog.info? 90).map (fun i => (i.zero, i.size, i.bytes)) = some (some (.agg #[.int .i64 0, .int .i64 0, .int .i64 0, .int .i64 0, .string ⟨#[]⟩]), 5, 48) := by kernel_rfl
theorem oneTok {ok : Nat → Prop} {w : World} {cs : List Value} {x : Tk} (h : TkR ok w cs x) : ∀ u ∈ cs, u.oneCell' = true := fun u hu => by
 obtain rfl := h
 simp [Tk.cells] at hu
 try rcases hu with rfl | rfl | rfl | rfl | rfl
 all_goals first | rfl | (subst hu; rfl)
set_option maxRecDepth 100000 in
set_option maxHeartbeats 1000000 in
theorem implCloneTok (A : Option Addr) (n c : Nat) (xs : List Tk) (ok : Nat → Prop) (w : World) (h : Sl TkR 5 ok w A n xs) (hl : n ≤ 1073741824) :
  Calls Tryz.prog 67 #[.slice A n c] w fun e w' => Copied TkR 90 5 ok w e w' xs := by
 obtain ⟨i0, hi, hz0, hz1, hz2⟩ := info_parts infoTokCl
 have H1 := Lib.hid hi
 have H2 := Lib.hid hz0
 have H3 := Lib.hid hz1
 have H4 := Lib.hid hz2
 clear hi hz0 hz1 hz2
 obtain rfl : xs.length = n := h.1
 have q22 : ∀ (w : World) (a : Option Addr) (n c n' c' : Nat), (binOp .eql 61 (.slice a n c) (.slice none n' c')).run Tryz.prog w = .ok (.bool a.isNone) w := fun w a n c n' c' => Lib.run_eql_slice_nil w _ _ a n c n' c' Tryz.underlying61
 cases A with
 | none =>
  have hn : xs.length = 0 := by
   rcases Nat.eq_zero_or_pos xs.length with h' | h'
   ·exact h'
   ·obtain ⟨b, off, e, -⟩ := h.2 h'
    cases e
  obtain rfl : xs = [] := List.length_eq_zero_iff.1 hn
  simp only [List.length_nil] at *
  go_enter Tryz.func67, Tryz.ntmps67
  go_wp2_with fail
  go_ret
  exact ⟨_, [], rfl, rfl, fun c hc => (by cases hc), World.ownsRow_nil _ _ _ _, fun i h => by simp at h, Below.refl _ _⟩
 | some ad =>
  obtain ⟨vs, h1, h2, h3, h4⟩ := h.cells (by decide)
  have hb0 := (Below.refl w.heap.size w).alloc (Nat.le_refl _) (.cells #[] 90)
  have HO0 := Lib.hid (show World.ownsRow (w.alloc (.cells #[] 90)) w.heap.size 90 5 (.slice (some ⟨w.heap.size, 0, none⟩) 0 0) 0 [] from ⟨by simp, .inr ⟨w.heap.size, 0, #[], rfl, Nat.le_refl _, Go.heap_alloc_last w _, Nat.le_refl _, by simp [maxLen], by simp, by simp⟩⟩)
  have had : ad = ⟨ad.block, ad.off, none⟩ ∨ xs.length = 0 := by
   rcases Nat.eq_zero_or_pos xs.length with h' | h'
   ·exact .inr h'
   ·obtain ⟨b, off, e, -⟩ := h.2 h'
    cases e
    exact .inl rfl
  have HX := Lib.hid (show ∀ j u, vs.flatten[j]? = some u → (w.alloc (.cells #[] 90)).cell? (ad.add j) = some u from fun j u hj => by
   rcases had with e | e
   ·rw [e]; exact below_keep hb0 _ _ (h4 _ _ (by rw [← e]) j u hj)
   ·have : vs = [] := List.length_eq_zero_iff.1 (by omega)
    rw [this] at hj; simp at hj)
  have HL := Lib.hid (show vs.flatten.length = xs.length * 5 by rw [flat_len (sz := 5) vs h2, h1])
  have H6 := Lib.hid (show ∀ u ∈ vs.flatten, u.oneCell' = true from fun u hu => by
   obtain ⟨cs, hcs, hu⟩ := List.mem_flatten.1 hu
   obtain ⟨i, hi, rfl⟩ := List.mem_iff_getElem.1 hcs
   exact oneTok (h3 i (by omega) hi) u hu)
  have HK := Lib.hid (And.intro h1 (And.intro h2 h3))
  clear h h1 h2 h3 h4 hb0 had
  go_enter Tryz.func67, Tryz.ntmps67
  go_wp2_with (at_builtin; refine wpList_append_own _ rfl _ _ 61 rfl w.heap.size 90 i0 (.agg #[.int .i64 0, .int .i64 0, .int .i64 0, .int .i64 0, .string ⟨#[]⟩]) 5 48 Tryz.underlying61 H1.out H2.out H3.out H4.out rfl (by decide) _ _ _ rfl HO0.out ad xs.length c vs.flatten rfl ?c0 ?c1 ?c2 ?c3 ?c4 ?c5 ?_)
  case c0 => exact HL.out
  case c1 => exact HX.out
  case c2 => exact H6.out
  case c3 => unfold maxLen; omega
  case c4 => omega
  case c5 => simp
  intro v9 w9 hown9 hgrow9 _
  go_wp2_with fail
  go_ret
  exact ⟨_, vs, rfl, HK.out.1, HK.out.2.1, by simpa using hown9, HK.out.2.2, ((Below.refl w.heap.size w).alloc (Nat.le_refl _) _).grown hgrow9 (by simp) (by intro k hk; simp [Value.ownBlock] at hk; omega)⟩
theorem infoFkCl : (Tryz.prog.info? 66).map (fun i => (i.zero, i.size, i.bytes)) = some (some (.agg #[.slice none 0 0, .string ⟨#[]⟩, .int .i64 0, .int .i64 0, .bool false]), 5, 64) := by kernel_rfl
theorem oneFk {ok : Nat → Prop} {w : World} {cs : List Value} {x : Fk} (h : FkR ok w cs x) : ∀ u ∈ cs, u.oneCell' = true := fun u hu => by
 obtain ⟨_, _, _, rfl, -⟩ := h
 simp at hu
 try rcases hu with rfl | rfl | rfl | rfl | rfl
 all_goals first | rfl | (subst hu; rfl)
set_option maxRecDepth 100000 in
set_option maxHeartbeats 1000000 in
theorem implCloneFk (A : Option Addr) (n c : Nat) (xs : List Fk) (ok : Nat → Prop) (w : World) (h : Sl FkR 5 ok w A n xs) (hl : n ≤ 1073741824) :
  Calls Tryz.prog 68 #[.slice A n c] w fun e w' => Copied FkR 66 5 ok w e w' xs := by
 obtain ⟨i0, hi, hz0, hz1, hz2⟩ := info_parts infoFkCl
 have H1 := Lib.hid hi
 have H2 := Lib.hid hz0
 have H3 := Lib.hid hz1
 have H4 := Lib.hid hz2
 clear hi hz0 hz1 hz2
 obtain rfl : xs.length = n := h.1
 have q22 : ∀ (w : World) (a : Option Addr) (n c n' c' : Nat), (binOp .eql 55 (.slice a n c) (.slice none n' c')).run Tryz.prog w = .ok (.bool a.isNone) w := fun w a n c n' c' => Lib.run_eql_slice_nil w _ _ a n c n' c' Tryz.underlying55
 cases A with
 | none =>
  have hn : xs.length = 0 := by
   rcases Nat.eq_zero_or_pos xs.length with h' | h'
   ·exact h'
   ·obtain ⟨b, off, e, -⟩ := h.2 h'
    cases e
  obtain rfl : xs = [] := List.length_eq_zero_iff.1 hn
  simp only [List.length_nil] at *
  go_enter Tryz.func68, Tryz.ntmps68
  go_wp2_with fail
  go_ret
  exact ⟨_, [], rfl, rfl, fun c hc => (by cases hc), World.ownsRow_nil _ _ _ _, fun i h => by simp at h, Below.refl _ _⟩
 | some ad =>
  obtain ⟨vs, h1, h2, h3, h4⟩ := h.cells (by decide)
  have hb0 := (Below.refl w.heap.size w).alloc (Nat.le_refl _) (.cells #[] 66)
  have HO0 := Lib.hid (show World.ownsRow (w.alloc (.cells #[] 66)) w.heap.size 66 5 (.slice (some ⟨w.heap.size, 0, none⟩) 0 0) 0 [] from ⟨by simp, .inr ⟨w.heap.size, 0, #[], rfl, Nat.le_refl _, Go.heap_alloc_last w _, Nat.le_refl _, by simp [maxLen], by simp, by simp⟩⟩)
  have had : ad = ⟨ad.block, ad.off, none⟩ ∨ xs.length = 0 := by
   rcases Nat.eq_zero_or_pos xs.length with h' | h'
   ·exact .inr h'
   ·obtain ⟨b, off, e, -⟩ := h.2 h'
    cases e
    exact .inl rfl
  have HX := Lib.hid (show ∀ j u, vs.flatten[j]? = some u → (w.alloc (.cells #[] 66)).cell? (ad.add j) = some u from fun j u hj => by
   rcases had with e | e
   ·rw [e]; exact below_keep hb0 _ _ (h4 _ _ (by rw [← e]) j u hj)
   ·have : vs = [] := List.length_eq_zero_iff.1 (by omega)
    rw [this] at hj; simp at hj)
  have HL := Lib.hid (show vs.flatten.length = xs.length * 5 by rw [flat_len (sz := 5) vs h2, h1])
  have H6 := Lib.hid (show ∀ u ∈ vs.flatten, u.oneCell' = true from fun u hu => by
   obtain ⟨cs, hcs, hu⟩ := List.mem_flatten.1 hu
   obtain ⟨i, hi, rfl⟩ := List.mem_iff_getElem.1 hcs
   exact oneFk (h3 i (by omega) hi) u hu)
  have HK := Lib.hid (And.intro h1 (And.intro h2 h3))
  clear h h1 h2 h3 h4 hb0 had
  go_enter Tryz.func68, Tryz.ntmps68
  go_wp2_with (at_builtin; refine wpList_append_own _ rfl _ _ 55 rfl w.heap.size 66 i0 (.agg #[.slice none 0 0, .string ⟨#[]⟩, .int .i64 0, .int .i64 0, .bool false]) 5 64 Tryz.underlying55 H1.out H2.out H3.out H4.out rfl (by decide) _ _ _ rfl HO0.out ad xs.length c vs.flatten rfl ?c0 ?c1 ?c2 ?c3 ?c4 ?c5 ?_)
  case c0 => exact HL.out
  case c1 => exact HX.out
  case c2 => exact H6.out
  case c3 => unfold maxLen; omega
  case c4 => omega
  case c5 => simp
  intro v9 w9 hown9 hgrow9 _
  go_wp2_with fail
  go_ret
  exact ⟨_, vs, rfl, HK.out.1, HK.out.2.1, by simpa using hown9, HK.out.2.2, ((Below.refl w.heap.size w).alloc (Nat.le_refl _) _).grown hgrow9 (by simp) (by intro k hk; simp [Value.ownBlock] at hk; omega)⟩
theorem infoRowCl : (Tryz.prog.info? 72).map (fun i => (i.zero, i.size, i.bytes)) = some (some (.agg #[.int .i64 0, .slice none 0 0]), 2, 32) := by kernel_rfl
theorem oneRow {ok : Nat → Prop} {w : World} {cs : List Value} {x : Rw} (h : RwR ok w cs x) : ∀ u ∈ cs, u.oneCell' = true := fun u hu => by
 obtain ⟨_, _, _, rfl, -⟩ := h
 simp at hu
 try rcases hu with rfl | rfl
 all_goals first | rfl | (subst hu; rfl)
set_option maxRecDepth 100000 in
set_option maxHeartbeats 1000000 in
theorem implCloneRow (A : Option Addr) (n c : Nat) (xs : List Rw) (ok : Nat → Prop) (w : World) (h : Sl RwR 2 ok w A n xs) (hl : n ≤ 1073741824) :
  Calls Tryz.prog 69 #[.slice A n c] w fun e w' => Copied RwR 72 2 ok w e w' xs := by
 obtain ⟨i0, hi, hz0, hz1, hz2⟩ := info_parts infoRowCl
 have H1 := Lib.hid hi
 have H2 := Lib.hid hz0
 have H3 := Lib.hid hz1
 have H4 := Lib.hid hz2
 clear hi hz0 hz1 hz2
 obtain rfl : xs.length = n := h.1
 have q22 : ∀ (w : World) (a : Option Addr) (n c n' c' : Nat), (binOp .eql 67 (.slice a n c) (.slice none n' c')).run Tryz.prog w = .ok (.bool a.isNone) w := fun w a n c n' c' => Lib.run_eql_slice_nil w _ _ a n c n' c' Tryz.underlying67
 cases A with
 | none =>
  have hn : xs.length = 0 := by
   rcases Nat.eq_zero_or_pos xs.length with h' | h'
   ·exact h'
   ·obtain ⟨b, off, e, -⟩ := h.2 h'
    cases e
  obtain rfl : xs = [] := List.length_eq_zero_iff.1 hn
  simp only [List.length_nil] at *
  go_enter Tryz.func69, Tryz.ntmps69
  go_wp2_with fail
  go_ret
  exact ⟨_, [], rfl, rfl, fun c hc => (by cases hc), World.ownsRow_nil _ _ _ _, fun i h => by simp at h, Below.refl _ _⟩
 | some ad =>
  obtain ⟨vs, h1, h2, h3, h4⟩ := h.cells (by decide)
  have hb0 := (Below.refl w.heap.size w).alloc (Nat.le_refl _) (.cells #[] 72)
  have HO0 := Lib.hid (show World.ownsRow (w.alloc (.cells #[] 72)) w.heap.size 72 2 (.slice (some ⟨w.heap.size, 0, none⟩) 0 0) 0 [] from ⟨by simp, .inr ⟨w.heap.size, 0, #[], rfl, Nat.le_refl _, Go.heap_alloc_last w _, Nat.le_refl _, by simp [maxLen], by simp, by simp⟩⟩)
  have had : ad = ⟨ad.block, ad.off, none⟩ ∨ xs.length = 0 := by
   rcases Nat.eq_zero_or_pos xs.length with h' | h'
   ·exact .inr h'
   ·obtain ⟨b, off, e, -⟩ := h.2 h'
    cases e
    exact .inl rfl
  have HX := Lib.hid (show ∀ j u, vs.flatten[j]? = some u → (w.alloc (.cells #[] 72)).cell? (ad.add j) = some u from fun j u hj => by
   rcases had with e | e
   ·rw [e]; exact below_keep hb0 _ _ (h4 _ _ (by rw [← e]) j u hj)
   ·have : vs = [] := List.length_eq_zero_iff.1 (by omega)
    rw [this] at hj; simp at hj)
  have HL := Lib.hid (show vs.flatten.length = xs.length * 2 by rw [flat_len (sz := 2) vs h2, h1])
  have H6 := Lib.hid (show ∀ u ∈ vs.flatten, u.oneCell' = true from fun u hu => by
   obtain ⟨cs, hcs, hu⟩ := List.mem_flatten.1 hu
   obtain ⟨i, hi, rfl⟩ := List.mem_iff_getElem.1 hcs
   exact oneRow (h3 i (by omega) hi) u hu)
  have HK := Lib.hid (And.intro h1 (And.intro h2 h3))
  clear h h1 h2 h3 h4 hb0 had
  go_enter Tryz.func69, Tryz.ntmps69
  go_wp2_with (at_builtin; refine wpList_append_own _ rfl _ _ 67 rfl w.heap.size 72 i0 (.agg #[.int .i64 0, .slice none 0 0]) 2 32 Tryz.underlying67 H1.out H2.out H3.out H4.out rfl (by decide) _ _ _ rfl HO0.out ad xs.length c vs.flatten rfl ?c0 ?c1 ?c2 ?c3 ?c4 ?c5 ?_)
  case c0 => exact HL.out
  case c1 => exact HX.out
  case c2 => exact H6.out
  case c3 => unfold maxLen; omega
  case c4 => omega
  case c5 => simp
  intro v9 w9 hown9 hgrow9 _
  go_wp2_with fail
  go_ret
  exact ⟨_, vs, rfl, HK.out.1, HK.out.2.1, by simpa using hown9, HK.out.2.2, ((Below.refl w.heap.size w).alloc (Nat.le_refl _) _).grown hgrow9 (by simp) (by intro k hk; simp [Value.ownBlock] at hk; omega)⟩
theorem infoInt64Cl : (Tryz.prog.info? 2).map (fun i => (i.zero, i.size, i.bytes)) = some (some (.int .i64 0), 1, 8) := by kernel_rfl
theorem oneInt64 {ok : Nat → Prop} {w : World} {cs : List Value} {x : Int} (h : IntR ok w cs x) : ∀ u ∈ cs, u.oneCell' = true := fun u hu => by
 obtain rfl := h
 simp [] at hu
 try rcases hu with rfl
 all_goals first | rfl | (subst hu; rfl)
set_option maxRecDepth 100000 in
set_option maxHeartbeats 1000000 in
theorem implCloneInt64 (A : Option Addr) (n c : Nat) (xs : List Int) (ok : Nat → Prop) (w : World) (h : Sl IntR 1 ok w A n xs) (hl : n ≤ 1073741824) :
  Calls Tryz.prog 64 #[.slice A n c] w fun e w' => Copied IntR 2 1 ok w e w' xs := by
 obtain ⟨i0, hi, hz0, hz1, hz2⟩ := info_parts infoInt64Cl
 have H1 := Lib.hid hi
 have H2 := Lib.hid hz0
 have H3 := Lib.hid hz1
 have H4 := Lib.hid hz2
 clear hi hz0 hz1 hz2
 obtain rfl : xs.length = n := h.1
 have q22 : ∀ (w : World) (a : Option Addr) (n c n' c' : Nat), (binOp .eql 52 (.slice a n c) (.slice none n' c')).run Tryz.prog w = .ok (.bool a.isNone) w := fun w a n c n' c' => Lib.run_eql_slice_nil w _ _ a n c n' c' Tryz.underlying52
 cases A with
 | none =>
  have hn : xs.length = 0 := by
   rcases Nat.eq_zero_or_pos xs.length with h' | h'
   ·exact h'
   ·obtain ⟨b, off, e, -⟩ := h.2 h'
    cases e
  obtain rfl : xs = [] := List.length_eq_zero_iff.1 hn
  simp only [List.length_nil] at *
  go_enter Tryz.func64, Tryz.ntmps64
  go_wp2_with fail
  go_ret
  exact ⟨_, [], rfl, rfl, fun c hc => (by cases hc), World.ownsRow_nil _ _ _ _, fun i h => by simp at h, Below.refl _ _⟩
 | some ad =>
  obtain ⟨vs, h1, h2, h3, h4⟩ := h.cells (by decide)
  have hb0 := (Below.refl w.heap.size w).alloc (Nat.le_refl _) (.cells #[] 2)
  have HO0 := Lib.hid (show World.ownsRow (w.alloc (.cells #[] 2)) w.heap.size 2 1 (.slice (some ⟨w.heap.size, 0, none⟩) 0 0) 0 [] from ⟨by simp, .inr ⟨w.heap.size, 0, #[], rfl, Nat.le_refl _, Go.heap_alloc_last w _, Nat.le_refl _, by simp [maxLen], by simp, by simp⟩⟩)
  have had : ad = ⟨ad.block, ad.off, none⟩ ∨ xs.length = 0 := by
   rcases Nat.eq_zero_or_pos xs.length with h' | h'
   ·exact .inr h'
   ·obtain ⟨b, off, e, -⟩ := h.2 h'
    cases e
    exact .inl rfl
  have HX := Lib.hid (show ∀ j u, vs.flatten[j]? = some u → (w.alloc (.cells #[] 2)).cell? (ad.add j) = some u from fun j u hj => by
   rcases had with e | e
   ·rw [e]; exact below_keep hb0 _ _ (h4 _ _ (by rw [← e]) j u hj)
   ·have : vs = [] := List.length_eq_zero_iff.1 (by omega)
    rw [this] at hj; simp at hj)
  have HL := Lib.hid (show vs.flatten.length = xs.length * 1 by rw [flat_len (sz := 1) vs h2, h1])
  have H6 := Lib.hid (show ∀ u ∈ vs.flatten, u.oneCell' = true from fun u hu => by
   obtain ⟨cs, hcs, hu⟩ := List.mem_flatten.1 hu
   obtain ⟨i, hi, rfl⟩ := List.mem_iff_getElem.1 hcs
   exact oneInt64 (h3 i (by omega) hi) u hu)
  have HK := Lib.hid (And.intro h1 (And.intro h2 h3))
  clear h h1 h2 h3 h4 hb0 had
  go_enter Tryz.func64, Tryz.ntmps64
  go_wp2_with (at_builtin; refine wpList_append_own _ rfl _ _ 52 rfl w.heap.size 2 i0 (.int .i64 0) 1 8 Tryz.underlying52 H1.out H2.out H3.out H4.out rfl (by decide) _ _ _ rfl HO0.out ad xs.length c vs.flatten rfl ?c0 ?c1 ?c2 ?c3 ?c4 ?c5 ?_)
  case c0 => exact HL.out
  case c1 => exact HX.out
  case c2 => exact H6.out
  case c3 => unfold maxLen; omega
  case c4 => omega
  case c5 => simp
  intro v9 w9 hown9 hgrow9 _
  go_wp2_with fail
  go_ret
  exact ⟨_, vs, rfl, HK.out.1, HK.out.2.1, by simpa using hown9, HK.out.2.2, ((Below.refl w.heap.size w).alloc (Nat.le_refl _) _).grown hgrow9 (by simp) (by intro k hk; simp [Value.ownBlock] at hk; omega)⟩
theorem infoValCl : (Tryz.prog.info? 84).map (fun i => (i.zero, i.size, i.bytes)) = some (some (.agg #[.int .i64 0, .int .i64 0, .string ⟨#[]⟩]), 3, 32) := by kernel_rfl
theorem oneVal {ok : Nat → Prop} {w : World} {cs : List Value} {x : Vl} (h : VlR ok w cs x) : ∀ u ∈ cs, u.oneCell' = true := fun u hu => by
 obtain rfl := h
 simp [Vl.cells] at hu
 try rcases hu with rfl | rfl | rfl
 all_goals first | rfl | (subst hu; rfl)
set_option maxRecDepth 100000 in
set_option maxHeartbeats 1000000 in
theorem implCloneVal (A : Option Addr) (n c : Nat) (xs : List Vl) (ok : Nat → Prop) (w : World) (h : Sl VlR 3 ok w A n xs) (hl : n ≤ 1073741824) :
  Calls Tryz.prog 48 #[.slice A n c] w fun e w' => Copied VlR 84 3 ok w e w' xs := by
 obtain ⟨i0, hi, hz0, hz1, hz2⟩ := info_parts infoValCl
 have H1 := Lib.hid hi
 have H2 := Lib.hid hz0
 have H3 := Lib.hid hz1
 have H4 := Lib.hid hz2
 clear hi hz0 hz1 hz2
 obtain rfl : xs.length = n := h.1
 have q22 : ∀ (w : World) (a : Option Addr) (n c n' c' : Nat), (binOp .eql 70 (.slice a n c) (.slice none n' c')).run Tryz.prog w = .ok (.bool a.isNone) w := fun w a n c n' c' => Lib.run_eql_slice_nil w _ _ a n c n' c' Tryz.underlying70
 cases A with
 | none =>
  have hn : xs.length = 0 := by
   rcases Nat.eq_zero_or_pos xs.length with h' | h'
   ·exact h'
   ·obtain ⟨b, off, e, -⟩ := h.2 h'
    cases e
  obtain rfl : xs = [] := List.length_eq_zero_iff.1 hn
  simp only [List.length_nil] at *
  go_enter Tryz.func48, Tryz.ntmps48
  go_wp2_with fail
  go_ret
  exact ⟨_, [], rfl, rfl, fun c hc => (by cases hc), World.ownsRow_nil _ _ _ _, fun i h => by simp at h, Below.refl _ _⟩
 | some ad =>
  obtain ⟨vs, h1, h2, h3, h4⟩ := h.cells (by decide)
  have hb0 := (Below.refl w.heap.size w).alloc (Nat.le_refl _) (.cells #[] 84)
  have HO0 := Lib.hid (show World.ownsRow (w.alloc (.cells #[] 84)) w.heap.size 84 3 (.slice (some ⟨w.heap.size, 0, none⟩) 0 0) 0 [] from ⟨by simp, .inr ⟨w.heap.size, 0, #[], rfl, Nat.le_refl _, Go.heap_alloc_last w _, Nat.le_refl _, by simp [maxLen], by simp, by simp⟩⟩)
  have had : ad = ⟨ad.block, ad.off, none⟩ ∨ xs.length = 0 := by
   rcases Nat.eq_zero_or_pos xs.length with h' | h'
   ·exact .inr h'
   ·obtain ⟨b, off, e, -⟩ := h.2 h'
    cases e
    exact .inl rfl
  have HX := Lib.hid (show ∀ j u, vs.flatten[j]? = some u → (w.alloc (.cells #[] 84)).cell? (ad.add j) = some u from fun j u hj => by
   rcases had with e | e
   ·rw [e]; exact below_keep hb0 _ _ (h4 _ _ (by rw [← e]) j u hj)
   ·have : vs = [] := List.length_eq_zero_iff.1 (by omega)
    rw [this] at hj; simp at hj)
  have HL := Lib.hid (show vs.flatten.length = xs.length * 3 by rw [flat_len (sz := 3) vs h2, h1])
  have H6 := Lib.hid (show ∀ u ∈ vs.flatten, u.oneCell' = true from fun u hu => by
   obtain ⟨cs, hcs, hu⟩ := List.mem_flatten.1 hu
   obtain ⟨i, hi, rfl⟩ := List.mem_iff_getElem.1 hcs
   exact oneVal (h3 i (by omega) hi) u hu)
  have HK := Lib.hid (And.intro h1 (And.intro h2 h3))
  clear h h1 h2 h3 h4 hb0 had
  go_enter Tryz.func48, Tryz.ntmps48
  go_wp2_with (at_builtin; refine wpList_append_own _ rfl _ _ 70 rfl w.heap.size 84 i0 (.agg #[.int .i64 0, .int .i64 0, .string ⟨#[]⟩]) 3 32 Tryz.underlying70 H1.out H2.out H3.out H4.out rfl (by decide) _ _ _ rfl HO0.out ad xs.length c vs.flatten rfl ?c0 ?c1 ?c2 ?c3 ?c4 ?c5 ?_)
  case c0 => exact HL.out
  case c1 => exact HX.out
  case c2 => exact H6.out
  case c3 => unfold maxLen; omega
  case c4 => omega
  case c5 => simp
  intro v9 w9 hown9 hgrow9 _
  go_wp2_with fail
  go_ret
  exact ⟨_, vs, rfl, HK.out.1, HK.out.2.1, by simpa using hown9, HK.out.2.2, ((Below.refl w.heap.size w).alloc (Nat.le_refl _) _).grown hgrow9 (by simp) (by intro k hk; simp [Value.ownBlock] at hk; omega)⟩
end Go.Proofs.YtkehfilmpdoglaaGreat
namespace Go.Proofs.YtkehfilmpdoglaaGreat
open Go.RowKit
theorem But.belowAll {B R : Nat} {a w : World} (h : But R a w) (hR : B ≤ R) (hB : B ≤ a.heap.size) : Below B a w := ⟨h.os, h.tape, h.output, h.size, fun k hk => h.block k (by omega) (by omega)⟩
theorem keepT3C {w w' : World} {p q r : Addr} {u v t : Value} (h : w.cell? p = some u ∧ w.cell? q = some v ∧ w.cell? r = some t) (hb : Below w.heap.size w w') : w'.cell? p = some u ∧ w'.cell? q = some v ∧ w'.cell? r = some t := ⟨below_keep hb _ _ h.1, below_keep hb _ _ h.2.1, below_keep hb _ _ h.2.2⟩
theorem rows2C (w : World) (T : TypeId) (cs cs' : Array Value) : Row ((w.alloc (.cells cs T)).alloc (.cells cs' T)) w.heap.size T cs ∧ Row ((w.alloc (.cells cs T)).alloc (.cells cs' T)) (w.heap.size + 1) T cs' := by
 refine ⟨(Row.new w T cs).alloc _, ?_⟩
 have h := Row.new (w.alloc (.cells cs T)) T cs'
 have e : (w.alloc (.cells cs T)).heap.size = w.heap.size + 1 := by simp
 rwa [e] at h
section
variable {α : Type} {Ts : List TypeId} {sz : Nat} {E : ElO α} {T : TypeId}
theorem OwnTr.but (G : GoodO Ts sz E) {w w' : World} {base R : Nat} {v : Value} {xs : List α} {bs : List Nat} (h : OwnTr E T sz w base v xs bs) (hb : But R w w') (hR : R < base) : OwnTr E T sz w' base v xs bs := h.dep G fun b hb' => by
 have h1 := h.lt G b hb'
 exact hb.block b h1.2 (by omega)
theorem OwnPt.but (G : GoodO Ts sz E) {w w' : World} {base R : Nat} {v : Value} {xs : List α} {vs : List (List Value)} {k : Nat} {bs : List Nat} (h : OwnPt E T sz w base v xs vs k bs) (hb : But R w w') (hR : R < base) : OwnPt E T sz w' base v xs vs k bs := OwnTr.but (PartO.good G) h hb hR
theorem OwnPt.lt (G : GoodO Ts sz E) {w : World} {base : Nat} {v : Value} {xs : List α} {vs : List (List Value)} {k : Nat} {bs : List Nat} (h : OwnPt E T sz w base v xs vs k bs) : ∀ b ∈ bs, base ≤ b ∧ b < w.heap.size := OwnTr.lt (PartO.good G) h
theorem OwnPt.shape {w : World} {base : Nat} {v : Value} {xs : List α} {vs : List (List Value)} {k : Nat} {bs : List Nat} (h : OwnPt E T sz w base v xs vs k bs) (hl : vs.length = xs.length) (hk : k ≤ xs.length) : ∃ A c, v = .slice A xs.length c := by
 obtain ⟨css, bss, h, -⟩ := h
 have := ownsRow_shape' h.row
 rwa [partL_len hl hk] at this
theorem Copied.own {f : α → List Value} (hf : ∀ x, (f x).length = sz) {ok : Nat → Prop} {w w' : World} {e : Ending} {xs : List α} (h : Copied (FlatR f) T sz ok w e w' xs) : ∃ v bs, e = .returned v ∧ OwnTr (FlatO f) T sz w' w.heap.size v xs bs ∧ Below w.heap.size w w' := by
 obtain ⟨v, vs, rfl, h1, h2, h3, h4, h5⟩ := h
 exact ⟨v, _, rfl, OwnTr.flat hf h3 h1 fun i hi hi' => h4 i hi hi', h5⟩
theorem Copied.part {Rr : Rd α} (h1 : ∀ (ok : Nat → Prop) (w : World) (cs : List Value) (x : α), Rr ok w cs x → ∀ u ∈ cs, u.oneCell' = true) {ok : Nat → Prop} {w w' : World} {e : Ending} {xs : List α} (h : Copied Rr T sz ok w e w' xs) :
  ∃ v vs bs, e = .returned v ∧ vs.length = xs.length ∧ OwnPt E T sz w' w.heap.size v xs vs 0 bs ∧ (∀ i (hi : i < xs.length) (hi' : i < vs.length), Rr ok w vs[i] xs[i]) ∧ Below w.heap.size w w' := by
 obtain ⟨v, vs, rfl, k1, k2, k3, k4, k5⟩ := h
 exact ⟨v, vs, _, rfl, k1, OwnPt.start k3 k1 k2 fun c hc u hu => by
  obtain ⟨i, hi, rfl⟩ := List.mem_iff_getElem.1 hc
  exact h1 _ _ _ _ (k4 i (by omega) hi) u hu, k4, k5⟩
theorem OwnTr.shape {w : World} {base : Nat} {v : Value} {xs : List α} {bs : List Nat} (h : OwnTr E T sz w base v xs bs) : ∃ A c, v = .slice A xs.length c := h.l.shape
end
theorem ownCloneCol (A : Option Addr) (n c : Nat) (xs : List Cl) (ok : Nat → Prop) (w : World) (h : Sl ClR 6 ok w A n xs) (hl : n ≤ 1073741824) :
  Calls Tryz.prog 63 #[.slice A n c] w fun e w' => ∃ v bs, e = .returned v ∧ OwnTr ClO 86 6 w' w.heap.size v xs bs ∧ Below w.heap.size w w' :=
 (implCloneCol A n c xs ok w h hl).mono fun e w' hc => Copied.own (f := Cl.cells) (fun _ => rfl) hc
theorem ownCloneInt64 (A : Option Addr) (n c : Nat) (xs : List Int) (ok : Nat → Prop) (w : World) (h : Sl IntR 1 ok w A n xs) (hl : n ≤ 1073741824) :
  Calls Tryz.prog 64 #[.slice A n c] w fun e w' => ∃ v bs, e = .returned v ∧ OwnTr IntO 2 1 w' w.heap.size v xs bs ∧ Below w.heap.size w w' :=
 (implCloneInt64 A n c xs ok w h hl).mono fun e w' hc => Copied.own (f := fun n : Int => [.int .i64 n]) (fun _ => rfl) hc
theorem ownCloneTok (A : Option Addr) (n c : Nat) (xs : List Tk) (ok : Nat → Prop) (w : World) (h : Sl TkR 5 ok w A n xs) (hl : n ≤ 1073741824) :
  Calls Tryz.prog 67 #[.slice A n c] w fun e w' => ∃ v bs, e = .returned v ∧ OwnTr TkO 90 5 w' w.heap.size v xs bs ∧ Below w.heap.size w w' :=
 (implCloneTok A n c xs ok w h hl).mono fun e w' hc => Copied.own (f := Tk.cells) (fun _ => rfl) hc
theorem ownCloneVal (A : Option Addr) (n c : Nat) (xs : List Vl) (ok : Nat → Prop) (w : World) (h : Sl VlR 3 ok w A n xs) (hl : n ≤ 1073741824) :
  Calls Tryz.prog 48 #[.slice A n c] w fun e w' => ∃ v bs, e = .returned v ∧ OwnTr VlO 84 3 w' w.heap.size v xs bs ∧ Below w.heap.size w w' :=
 (implCloneVal A n c xs ok w h hl).mono fun e w' hc => Copied.own (f := Vl.cells) (fun _ => rfl) hc
theorem ownCloneUnique (A : Option Addr) (n c : Nat) (xs : List Uq) (ok : Nat → Prop) (w : World) (h : Sl UqR 1 ok w A n xs) (hl : n ≤ 1073741824) :
  Calls Tryz.prog 65 #[.slice A n c] w fun e w' => ∃ v vs bs, e = .returned v ∧ vs.length = xs.length ∧ OwnPt UqO 60 1 w' w.heap.size v xs vs 0 bs ∧ (∀ i (hi : i < xs.length) (hi' : i < vs.length), UqR ok w vs[i] xs[i]) ∧ Below w.heap.size w w' :=
 (implCloneUnique A n c xs ok w h hl).mono fun e w' hc => Copied.part (E := UqO) (fun _ _ _ _ h => oneUnique h) hc
theorem ownCloneCheck (A : Option Addr) (n c : Nat) (xs : List Ck) (ok : Nat → Prop) (w : World) (h : Sl CkR 1 ok w A n xs) (hl : n ≤ 1073741824) :
  Calls Tryz.prog 66 #[.slice A n c] w fun e w' => ∃ v vs bs, e = .returned v ∧ vs.length = xs.length ∧ OwnPt CkO 64 1 w' w.heap.size v xs vs 0 bs ∧ (∀ i (hi : i < xs.length) (hi' : i < vs.length), CkR ok w vs[i] xs[i]) ∧ Below w.heap.size w w' :=
 (implCloneCheck A n c xs ok w h hl).mono fun e w' hc => Copied.part (E := CkO) (fun _ _ _ _ h => oneCheck h) hc
theorem ownCloneFk (A : Option Addr) (n c : Nat) (xs : List Fk) (ok : Nat → Prop) (w : World) (h : Sl FkR 5 ok w A n xs) (hl : n ≤ 1073741824) :
  Calls Tryz.prog 68 #[.slice A n c] w fun e w' => ∃ v vs bs, e = .returned v ∧ vs.length = xs.length ∧ OwnPt FkO 66 5 w' w.heap.size v xs vs 0 bs ∧ (∀ i (hi : i < xs.length) (hi' : i < vs.length), FkR ok w vs[i] xs[i]) ∧ Below w.heap.size w w' :=
 (implCloneFk A n c xs ok w h hl).mono fun e w' hc => Copied.part (E := FkO) (fun _ _ _ _ h => oneFk h) hc
theorem ownCloneRow (A : Option Addr) (n c : Nat) (xs : List Rw) (ok : Nat → Prop) (w : World) (h : Sl RwR 2 ok w A n xs) (hl : n ≤ 1073741824) :
  Calls Tryz.prog 69 #[.slice A n c] w fun e w' => ∃ v vs bs, e = .returned v ∧ vs.length = xs.length ∧ OwnPt RwO 72 2 w' w.heap.size v xs vs 0 bs ∧ (∀ i (hi : i < xs.length) (hi' : i < vs.length), RwR ok w vs[i] xs[i]) ∧ Below w.heap.size w w' :=
 (implCloneRow A n c xs ok w h hl).mono fun e w' hc => Copied.part (E := RwO) (fun _ _ _ _ h => oneRow h) hc
theorem ownCloneTable (A : Option Addr) (n c : Nat) (xs : List Tb) (ok : Nat → Prop) (w : World) (h : Sl TbR 6 ok w A n xs) (hl : n ≤ 1073741824) :
  Calls Tryz.prog 45 #[.slice A n c] w fun e w' => ∃ v vs bs, e = .returned v ∧ vs.length = xs.length ∧ OwnPt TbO 57 6 w' w.heap.size v xs vs 0 bs ∧ (∀ i (hi : i < xs.length) (hi' : i < vs.length), TbR ok w vs[i] xs[i]) ∧ Below w.heap.size w w' :=
 (implCloneTable A n c xs ok w h hl).mono fun e w' hc => Copied.part (E := TbO) (fun _ _ _ _ h => oneTable h) hc
theorem TbO.mk5 {w : World} {base B2 B3 B4 B5 : Nat} {x : Tb} {v1 v2 v3 v4 v5 : Value} {b1 b2 b3 b4 b5 : List Nat} (h1 : OwnTr ClO 86 6 w base v1 x.cols b1) (h2 : OwnTr IntO 2 1 w B2 v2 x.key b2) (h3 : OwnTr UqO 60 1 w B3 v3 x.uniqs b3) (h4 : OwnTr CkO 64 1 w B4 v4 x.checks b4) (h5 : OwnTr FkO 66 5 w B5 v5 x.fks b5)
  (l1 : ∀ b ∈ b1, b < B2) (l2 : ∀ b ∈ b2, b < B3) (l3 : ∀ b ∈ b3, b < B4) (l4 : ∀ b ∈ b4, b < B5) (e1 : base ≤ B2) (e2 : B2 ≤ B3) (e3 : B3 ≤ B4) (e4 : B4 ≤ B5) : TbO w base [.string x.name, v1, v2, v3, v4, v5] x [b1, b2, b3, b4, b5].flatten := by
 refine ⟨v1, b1, v2, b2, v3, b3, v4, b4, v5, b5, rfl, h1, h2.mono IntO.good e1, h3.mono UqO.good (by omega), h4.mono CkO.good (by omega), h5.mono FkO.good (by omega), rfl, ?_⟩
 have g1 := h1.lt ClO.good
 have g2 := h2.lt IntO.good
 have g3 := h3.lt UqO.good
 have g4 := h4.lt CkO.good
 have g5 := h5.lt FkO.good
 simp only [List.flatten_cons, List.flatten_nil, List.append_nil]
 refine List.nodup_append.2 ⟨h1.nodup ClO.good ClO.out, List.nodup_append.2 ⟨h2.nodup IntO.good IntO.out, List.nodup_append.2 ⟨h3.nodup UqO.good UqO.out, List.nodup_append.2 ⟨h4.nodup CkO.good CkO.out, h5.nodup FkO.good FkO.out, ?_⟩, ?_⟩, ?_⟩, ?_⟩
 ·intro a ha b hb; have := l4 a ha; have := g5 b hb; omega
 ·intro a ha b hb
  have := l3 a ha
  rcases List.mem_append.1 hb with hb | hb
  ·have := g4 b hb; omega
  ·have := g5 b hb; omega
 ·intro a ha b hb
  have := l2 a ha
  rcases List.mem_append.1 hb with hb | hb
  ·have := g3 b hb; omega
  ·rcases List.mem_append.1 hb with hb | hb
   ·have := g4 b hb; omega
   ·have := g5 b hb; omega
 ·intro a ha b hb
  have := l1 a ha
  rcases List.mem_append.1 hb with hb | hb
  ·have := g2 b hb; omega
  ·rcases List.mem_append.1 hb with hb | hb
   ·have := g3 b hb; omega
   ·rcases List.mem_append.1 hb with hb | hb
    ·have := g4 b hb; omega
    ·have := g5 b hb; omega
end Go.Proofs.YtkehfilmpdoglaaGreat
namespace Go.Proofs.YtkehfilmpdoglaaGreat
open Go.RowKit
theorem ownsRow_below {w w' : World} {base : Nat} {T : TypeId} {sz : Nat} {v : Value} {n : Nat} {xs : List Value} (h : w.ownsRow base T sz v n xs) (hb : Below w.heap.size w w') : w'.ownsRow base T sz v n xs := by
 refine ⟨h.1, ?_⟩
 rcases h.2 with h | ⟨g, cap, cur, rfl, h1, h2, h3⟩
 ·exact .inl h
 ·exact .inr ⟨g, cap, cur, rfl, h1, (hb.block g (lt_of_block h2)).trans h2, h3⟩
end Go.Proofs.YtkehfilmpdoglaaGreat
namespace Go.Proofs.YtkehfilmpdoglaaGreat
open Go.RowKit
section
variable {P : Program} {w : World}
theorem run_append_own_0 (base : Nat) (t ty e : TypeId) (i : TypeInfo) (size : Nat) (ht : P.underlying t = some (.slice e)) (hi : P.info? e = some i)
  (v : Value) (n : Nat) (xs : List Value) (hown : w.ownsRow base e size v n xs) (c : Nat) :
  (Builtin.append_ #[t, t] ty #[v, .slice none 0 c]).run P w = .ok v w := by
 rcases hown.2 with ⟨rfl, rfl⟩ | ⟨g, cap, cur, rfl, _, _, hnc, _⟩
 ·simp [Builtin.append_, run_underlying ht, sizeOf, typeInfo, hi, Builtin.lenOf, Builtin.firstCells]
 ·simp [Builtin.append_, run_underlying ht, sizeOf, typeInfo, hi, Builtin.lenOf, Builtin.firstCells, hnc, storeCells]
theorem wpList_append_own_0 {ops : Array Oper} {rest : List Oper} {o : Oper} {a : Act} {Q : Exit → Act → World → Prop} (hgd : o.guard = none) (s x : Operand) (t : TypeId)
  (ho : o.op = .call { callee := .builtin .append, args := #[s, x], argTypes := #[t, t] })
  (base : Nat) (e : TypeId) (i : TypeInfo) (size : Nat) (ht : P.underlying t = some (.slice e)) (hi : P.info? e = some i)
  (v : Value) (n : Nat) (xs : List Value) (hs : a.eval s = v) (hown : w.ownsRow base e size v n xs) (c : Nat) (hx : a.eval x = .slice none 0 c)
  (h : wpList P ops Q rest (a.put o.dst v) w) : wpList P ops Q (o :: rest) a w := by
 refine wpList_plain hgd fun K hK => ?_
 have hrun := run_append_own_0 (P := P) (w := w) base t o.type e i size ht hi v n xs hown c
 unfold Oper.wp
 simp [execOp, ho, resolve, invoke, builtin, hs, hx, hrun, Result.andThen]
 exact hK _ _ h
end
theorem Sl.flat_cells {α : Type} {f : α → List Value} {sz : Nat} (hz : 0 < sz) (hf : ∀ d, (f d).length = sz) {ok : Nat → Prop} {w : World} {ad : Addr} {n : Nat} {xs : List α} (h : Sl (FlatR f) sz ok w (some ad) n xs) :
  ∀ j u, ((xs.map f).flatten)[j]? = some u → w.cell? (ad.add j) = some u := fun j u hj => by
 have hl := flat_len (sz := sz) (xs.map f) (fun c hc => by obtain ⟨d, _, rfl⟩ := List.mem_map.1 hc; exact hf d)
 have hjl := (List.getElem?_eq_some_iff.1 hj).1
 rw [hl, List.length_map] at hjl
 have hlen := h.1
 obtain ⟨b, off, e, hb, hi⟩ := h.2 (by rcases Nat.eq_zero_or_pos n with h0 | h0; · rw [hlen, h0] at hjl; omega
                                       ·exact h0)
 cases e
 have hdiv : j / sz < xs.length := Nat.div_lt_of_lt_mul (by rw [Nat.mul_comm]; exact hjl)
 have hmod : j % sz < sz := Nat.mod_lt _ hz
 have hj' : j / sz * sz + j % sz = j := by rw [Nat.mul_comm]; exact Nat.div_add_mod j sz
 obtain ⟨cs, h1, h2, h3⟩ := hi (j / sz) hdiv
 cases h2
 have := flat_get (sz := sz) (xs.map f) (j / sz) (j % sz) (by simpa using hdiv) hmod (fun c hc => by obtain ⟨d, _, rfl⟩ := List.mem_map.1 hc; exact hf d)
 rw [hj', hj, List.getElem_map] at this
 have := h3 (j % sz) u this.symm
 rw [addr_add, ← hj', ← Nat.add_assoc]
 exact this
end Go.Proofs.YtkehfilmpdoglaaGreat
