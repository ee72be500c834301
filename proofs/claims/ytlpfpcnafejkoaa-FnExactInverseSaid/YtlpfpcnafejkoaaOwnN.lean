/-
  Lists of a call's own whose elements hold lists of its own: each list in a block of its own.
-/
import Derived.Test.YtlpfpcnafejkoaaOwnMarks
import Derived.Test.YtlpfpcnafejkoaaOwnVals
namespace Go.Proofs.Ytlpfpcnafejkoaa
open Go.RowKit
set_option linter.unusedVariables false
set_option linter.unusedSimpArgs false

/-- How an element of such a list lies: its cells and the blocks of its lists. -/
abbrev ElO (α : Type) := World → Nat → List Value → α → List Nat → Prop
structure GoodO {α : Type} (Ts : List TypeId) (sz : Nat) (E : ElO α) : Prop where
  len : ∀ {w base cs x bs}, E w base cs x bs → cs.length = sz
  one : ∀ {w base cs x bs}, E w base cs x bs → ∀ u ∈ cs, u.oneCell' = true
  typed : ∀ {w base cs x bs}, E w base cs x bs → ∀ b ∈ bs, base ≤ b ∧ ∃ cur U, w.heap[b]? = some (.cells cur U (0, 0)) ∧ U ∈ Ts
  nodup : ∀ {w base cs x bs}, E w base cs x bs → bs.Nodup
  dep : ∀ {w w' : World} {base cs x bs}, E w base cs x bs → (∀ b ∈ bs, w'.heap[b]? = w.heap[b]?) → E w' base cs x bs
  mono : ∀ {w base base' cs x bs}, E w base cs x bs → base' ≤ base → E w base' cs x bs
theorem ownsRow_dep {w w' : World} {base : Nat} {T : TypeId} {sz : Nat} {v : Value} {n : Nat} {xs : List Value} (h : w.ownsRow base T sz v n xs) (hd : ∀ k, v.ownBlock = some k → w'.heap[k]? = w.heap[k]?) : w'.ownsRow base T sz v n xs := by
  refine ⟨h.1, ?_⟩
  rcases h.2 with h | ⟨g, cap, cur, rfl, h1, h2, h3⟩
  · exact .inl h
  · exact .inr ⟨g, cap, cur, rfl, h1, (hd g rfl).trans h2, h3⟩
theorem ownsRow_mono {w : World} {base base' : Nat} {T : TypeId} {sz : Nat} {v : Value} {n : Nat} {xs : List Value} (h : w.ownsRow base T sz v n xs) (hb : base' ≤ base) : w.ownsRow base' T sz v n xs := by
  refine ⟨h.1, ?_⟩
  rcases h.2 with h | ⟨g, cap, cur, rfl, h1, h2⟩
  · exact .inl h
  · exact .inr ⟨g, cap, cur, rfl, Nat.le_trans hb h1, h2⟩
theorem ownsRow_typed {w : World} {base : Nat} {T : TypeId} {sz : Nat} {v : Value} {n : Nat} {xs : List Value} (h : w.ownsRow base T sz v n xs) {k : Nat} (hk : v.ownBlock = some k) : base ≤ k ∧ ∃ cur, w.heap[k]? = some (.cells cur T (0, 0)) := by
  rcases h.2 with ⟨rfl, -⟩ | ⟨g, cap, cur, rfl, h1, h2, -⟩
  · simp [Value.ownBlock] at hk
  · simp [Value.ownBlock] at hk
    subst hk
    exact ⟨h1, cur, h2⟩
theorem ownsRow_shape' {w : World} {base : Nat} {T : TypeId} {sz : Nat} {v : Value} {n : Nat} {xs : List Value} (h : w.ownsRow base T sz v n xs) : ∃ A c, v = .slice A n c := by
  rcases h.2 with ⟨rfl, hn⟩ | ⟨g, cap, cur, rfl, -⟩
  · exact ⟨none, 0, by rw [hn]⟩
  · exact ⟨_, _, rfl⟩
theorem ownsRow_one {w : World} {base : Nat} {T : TypeId} {sz : Nat} {v : Value} {n : Nat} {xs : List Value} (h : w.ownsRow base T sz v n xs) : v.oneCell' = true := by
  rcases h.2 with ⟨rfl, -⟩ | ⟨g, cap, cur, rfl, -⟩ <;> rfl
/-- The block of a list, none for an empty one without memory. -/
def blkN (v : Value) : List Nat := v.ownBlock.toList
theorem mem_blkN {v : Value} {b : Nat} : b ∈ blkN v ↔ v.ownBlock = some b := by simp [blkN]
theorem nodup_blkN (v : Value) : (blkN v).Nodup := by
  have hs : ∀ a : Option Nat, a.toList.Nodup := fun a => by cases a <;> simp
  exact hs _

section
variable {α : Type} {Ts : List TypeId} {sz : Nat} {E : ElO α} {T : TypeId}
theorem GoodO.lt (G : GoodO Ts sz E) {w : World} {base : Nat} {cs : List Value} {x : α} {bs : List Nat} (h : E w base cs x bs) {b : Nat} (hb : b ∈ bs) : base ≤ b ∧ b < w.heap.size := by
  obtain ⟨h1, cur, U, h2, -⟩ := G.typed h b hb
  exact ⟨h1, lt_of_block h2⟩
theorem GoodO.below (G : GoodO Ts sz E) {w w' : World} {base : Nat} {cs : List Value} {x : α} {bs : List Nat} (h : E w base cs x bs) (hb : Below w.heap.size w w') : E w' base cs x bs :=
  G.dep h fun b hb' => hb.block b (G.lt h hb').2

structure OwnN (E : ElO α) (T : TypeId) (sz : Nat) (w : World) (base : Nat) (v : Value) (xs : List α) (css : List (List Value)) (bss : List (List Nat)) : Prop where
  l1 : css.length = xs.length
  l2 : bss.length = xs.length
  row : w.ownsRow base T sz v xs.length css.flatten
  el : ∀ i (hi : i < xs.length), E w base (css.getD i []) xs[i] (bss.getD i [])
  apart : bss.flatten.Nodup
def OwnL (E : ElO α) (T : TypeId) (sz : Nat) (w : World) (base : Nat) (v : Value) (xs : List α) : Prop := ∃ css bss, OwnN E T sz w base v xs css bss

theorem mem_flatten_iff {bss : List (List Nat)} {x : Nat} : x ∈ bss.flatten ↔ ∃ i, i < bss.length ∧ x ∈ bss.getD i [] := by
  constructor
  · intro h
    obtain ⟨l, hl, hx⟩ := List.mem_flatten.1 h
    obtain ⟨i, hi, rfl⟩ := List.mem_iff_getElem.1 hl
    exact ⟨i, hi, by rwa [List.getD_eq_getElem?_getD, List.getElem?_eq_getElem hi]⟩
  · rintro ⟨i, hi, h⟩
    exact mem_flatten_getD h
theorem OwnN.typed (G : GoodO Ts sz E) {w : World} {base : Nat} {v : Value} {xs : List α} {css : List (List Value)} {bss : List (List Nat)} (h : OwnN E T sz w base v xs css bss) {b : Nat} (hb : b ∈ bss.flatten) : base ≤ b ∧ ∃ cur U, w.heap[b]? = some (.cells cur U (0, 0)) ∧ U ∈ Ts := by
  obtain ⟨i, hi, hx⟩ := mem_flatten_iff.1 hb
  exact G.typed (h.el i (by rw [← h.l2]; exact hi)) b hx
theorem OwnN.lt (G : GoodO Ts sz E) {w : World} {base : Nat} {v : Value} {xs : List α} {css : List (List Value)} {bss : List (List Nat)} (h : OwnN E T sz w base v xs css bss) {b : Nat} (hb : b ∈ bss.flatten) : base ≤ b ∧ b < w.heap.size := by
  obtain ⟨h1, cur, U, h2, -⟩ := h.typed G hb
  exact ⟨h1, lt_of_block h2⟩
theorem OwnN.out (G : GoodO Ts sz E) (hT : T ∉ Ts) {w : World} {base : Nat} {v : Value} {xs : List α} {css : List (List Value)} {bss : List (List Nat)} (h : OwnN E T sz w base v xs css bss) {k : Nat} (hk : v.ownBlock = some k) : k ∉ bss.flatten := fun hb => by
  obtain ⟨-, cur, U, h2, h3⟩ := h.typed G hb
  obtain ⟨-, cur', h4⟩ := ownsRow_typed h.row hk
  rw [h2] at h4
  injection h4 with h4
  injection h4 with _ h5
  exact hT (h5 ▸ h3)
theorem OwnN.dep (G : GoodO Ts sz E) {w w' : World} {base : Nat} {v : Value} {xs : List α} {css : List (List Value)} {bss : List (List Nat)} (h : OwnN E T sz w base v xs css bss) (h1 : ∀ k, v.ownBlock = some k → w'.heap[k]? = w.heap[k]?) (h2 : ∀ b ∈ bss.flatten, w'.heap[b]? = w.heap[b]?) : OwnN E T sz w' base v xs css bss :=
  ⟨h.l1, h.l2, ownsRow_dep h.row h1, fun i hi => G.dep (h.el i hi) fun b hb => h2 b (mem_flatten_getD hb), h.apart⟩
theorem OwnN.below (G : GoodO Ts sz E) {w w' : World} {base : Nat} {v : Value} {xs : List α} {css : List (List Value)} {bss : List (List Nat)} (h : OwnN E T sz w base v xs css bss) (hb : Below w.heap.size w w') : OwnN E T sz w' base v xs css bss :=
  h.dep G (fun k hk => hb.block k (World.ownsRow.lt h.row k hk).2) fun b hb' => hb.block b (h.lt G hb').2
theorem OwnL.below (G : GoodO Ts sz E) {w w' : World} {base : Nat} {v : Value} {xs : List α} (h : OwnL E T sz w base v xs) (hb : Below w.heap.size w w') : OwnL E T sz w' base v xs := by
  obtain ⟨css, bss, h⟩ := h
  exact ⟨css, bss, h.below G hb⟩
theorem OwnN.mono (G : GoodO Ts sz E) {w : World} {base base' : Nat} {v : Value} {xs : List α} {css : List (List Value)} {bss : List (List Nat)} (h : OwnN E T sz w base v xs css bss) (hb : base' ≤ base) : OwnN E T sz w base' v xs css bss :=
  ⟨h.l1, h.l2, ownsRow_mono h.row hb, fun i hi => G.mono (h.el i hi) hb, h.apart⟩
theorem OwnL.mono (G : GoodO Ts sz E) {w : World} {base base' : Nat} {v : Value} {xs : List α} (h : OwnL E T sz w base v xs) (hb : base' ≤ base) : OwnL E T sz w base' v xs := by
  obtain ⟨css, bss, h⟩ := h
  exact ⟨css, bss, h.mono G hb⟩
theorem OwnL.nil (w : World) (base : Nat) : OwnL E T sz w base (.slice none 0 0) [] := ⟨[], [], rfl, rfl, World.ownsRow_nil _ _ _ _, fun i h => by simp at h, by simp⟩
theorem OwnL.lit (w : World) {base : Nat} (hb : base ≤ w.heap.size) : OwnL E T sz (w.alloc (.cells #[] T)) base (.slice (some ⟨w.heap.size, 0, none⟩) 0 0) [] :=
  ⟨[], [], rfl, rfl, ⟨by simp, .inr ⟨w.heap.size, 0, #[], rfl, hb, Go.heap_alloc_last w _, Nat.le_refl _, by simp [maxLen], by simp, by simp⟩⟩, fun i h => by simp at h, by simp⟩
theorem made_flat (z : Array Value) (hz : 0 < z.size) (n : Nat) : (madeCells z (n * z.size)).toList = (List.replicate n z.toList).flatten := by
  refine List.ext_getElem? fun j => ?_
  have hl : ∀ c ∈ List.replicate n z.toList, c.length = z.size := fun c hc => by rw [(List.mem_replicate.1 hc).2]; simp
  by_cases hj : j < n * z.size
  · have hd : j / z.size < n := Nat.div_lt_of_lt_mul (by rw [Nat.mul_comm]; exact hj)
    have hm : j % z.size < z.size := Nat.mod_lt _ hz
    have := flat_get (List.replicate n z.toList) (j / z.size) (j % z.size) (by simpa using hd) hm hl
    rw [show j / z.size * z.size + j % z.size = j by rw [Nat.mul_comm]; exact Nat.div_add_mod j _] at this
    rw [this, Array.getElem?_toList]
    simp [madeCells, hj, hm]
  · rw [List.getElem?_eq_none (by simp [size_madeCells]; omega), List.getElem?_eq_none (by rw [flat_len _ hl]; simp; omega)]
theorem OwnL.made (w : World) {base : Nat} (hb : base ≤ w.heap.size) (n : Nat) (z : Array Value) (hz : 0 < z.size) (hs : z.size = sz) (x : α) (hE : ∀ w, E w base z.toList x []) (hn : n ≤ maxLen) :
    OwnL E T sz (w.alloc (.cells (madeCells z (n * sz)) T)) base (.slice (some ⟨w.heap.size, 0, none⟩) n n) (List.replicate n x) := by
  subst hs
  refine ⟨List.replicate n z.toList, List.replicate n [], by simp, by simp, ?_, fun i hi => ?_, by simp⟩
  · have := World.ownsRow_lit (e := T) (size := z.size) w (madeCells z (n * z.size)) n hb hn (size_madeCells _ _)
    rw [made_flat z hz] at this
    simpa using this
  · have hi' : i < n := by simpa using hi
    rw [List.getD_eq_getElem?_getD, List.getD_eq_getElem?_getD, List.getElem?_replicate, List.getElem?_replicate, if_pos hi', if_pos hi', List.getElem_replicate]
    exact hE _

/-- What append of one element leaves: its lists lie in blocks that no other list has. -/
theorem OwnN.app (G : GoodO Ts sz E) (hT : T ∉ Ts) {w w' : World} {base : Nat} {v v' : Value} {xs : List α} {css : List (List Value)} {bss : List (List Nat)} {x : α} {cs : List Value} {bs : List Nat} {o : Obj} (h : OwnN E T sz w base v xs css bss) (hE : E w base cs x bs) (hn : ∀ b ∈ bs, b ∉ bss.flatten)
    (h' : w'.ownsRow base T sz v' (xs.length + 1) (css.flatten ++ cs)) (hg : (w.alloc o).grownBy w' v.ownBlock) : OwnN E T sz w' base v' (xs ++ [x]) (css ++ [cs]) (bss ++ [bs]) := by
  have hal : ∀ b, b < w.heap.size → some b ≠ v.ownBlock → w'.heap[b]? = w.heap[b]? := fun b hb ho =>
    (hg.block b (by simp; omega) ho).trans (((Below.refl w.heap.size w).alloc (Nat.le_refl _) o).block b hb)
  have hne : ∀ b ∈ bs, some b ≠ v.ownBlock := fun b hb e => by
    obtain ⟨-, cur, U, h2, h3⟩ := G.typed hE b hb
    obtain ⟨-, cur', h4⟩ := ownsRow_typed h.row e.symm
    rw [h2] at h4
    injection h4 with h4
    injection h4 with _ h5
    exact hT (h5 ▸ h3)
  refine ⟨by simp [h.l1], by simp [h.l2], by rw [List.length_append, List.flatten_append]; simpa using h', fun i hi => ?_, ?_⟩
  · by_cases e : i < xs.length
    · rw [List.getD_eq_getElem?_getD, List.getD_eq_getElem?_getD, List.getElem?_append_left (by rw [h.l1]; exact e), List.getElem?_append_left (by rw [h.l2]; exact e), List.getElem_append_left e, ← List.getD_eq_getElem?_getD, ← List.getD_eq_getElem?_getD]
      refine G.dep (h.el i e) fun b hb => hal b (G.lt (h.el i e) hb).2 fun e' => ?_
      exact h.out G hT e'.symm (mem_flatten_getD hb)
    · simp only [List.length_append, List.length_cons, List.length_nil] at hi
      obtain rfl : i = xs.length := by omega
      rw [List.getD_eq_getElem?_getD, List.getD_eq_getElem?_getD, List.getElem?_append_right (by rw [h.l1]; exact Nat.le_refl _), List.getElem?_append_right (by rw [h.l2]; exact Nat.le_refl _), List.getElem_append_right (Nat.le_refl _)]
      simp only [h.l1, h.l2, Nat.sub_self]
      exact G.dep hE fun b hb => hal b (G.lt hE hb).2 (hne b hb)
  · rw [List.flatten_append]
    refine List.nodup_append.2 ⟨h.apart, by simpa using G.nodup hE, fun a ha b hb => ?_⟩
    rintro rfl
    exact hn a (by simpa using hb) ha
theorem OwnN.fresh (G : GoodO Ts sz E) {w : World} {base : Nat} {v : Value} {xs : List α} {css : List (List Value)} {bss : List (List Nat)} (h : OwnN E T sz w base v xs css bss) {bs : List Nat} (hb : ∀ b ∈ bs, w.heap.size ≤ b) : ∀ b ∈ bs, b ∉ bss.flatten := fun b hb' hh => by
  have h1 := (h.lt G hh).2
  have h2 := hb b hb'
  omega

/-- The cells of one element are stored, one behind the other. -/
def setCells (w : World) (g off : Nat) : List Value → World
  | [] => w
  | u :: us => setCells (w.setCell ⟨g, off, none⟩ u) g (off + 1) us
def setAll (l : List Value) (off : Nat) : List Value → List Value
  | [] => l
  | u :: us => setAll (l.set off u) (off + 1) us
theorem setAll_len : ∀ (us l : List Value) (off : Nat), (setAll l off us).length = l.length
  | [], _, _ => rfl
  | u :: us, l, off => by rw [setAll, setAll_len us]; simp
theorem setAll_get : ∀ (us l : List Value) (off j : Nat), off + us.length ≤ l.length → (setAll l off us)[j]? = if off ≤ j ∧ j < off + us.length then us[j - off]? else l[j]?
  | [], l, off, j, _ => by
    rw [setAll, if_neg]
    intro h
    simp only [List.length_nil] at h
    omega
  | u :: us, l, off, j, hl => by
    simp only [List.length_cons] at hl
    rw [setAll, setAll_get us _ _ _ (by simp; omega)]
    simp only [List.length_cons]
    by_cases e : j = off
    · subst e
      rw [if_neg (by omega), if_pos (by omega), List.getElem?_set_self (by omega)]
      simp
    · by_cases h1 : off + 1 ≤ j ∧ j < off + 1 + us.length
      · rw [if_pos h1, if_pos (by omega), show j - off = (j - (off + 1)) + 1 by omega]
        simp
      · rw [if_neg h1, if_neg (by omega), List.getElem?_set_ne (by omega)]
theorem setAll_flat {css : List (List Value)} (hz : ∀ c ∈ css, c.length = sz) {cs : List Value} (hc : cs.length = sz) (h0 : 0 < sz) {k : Nat} (hk : k < css.length) : setAll css.flatten (k * sz) cs = (css.set k cs).flatten := by
  have hz' : ∀ c ∈ css.set k cs, c.length = sz := fun c hc' => by
    rcases List.mem_or_eq_of_mem_set hc' with h | rfl
    · exact hz c h
    · exact hc
  have hfl := flat_len css hz
  have hkk : k * sz + sz ≤ css.length * sz := by
    have : (k + 1) * sz ≤ css.length * sz := Nat.mul_le_mul_right sz (by omega)
    rwa [Nat.succ_mul] at this
  refine List.ext_getElem? fun j => ?_
  rw [setAll_get _ _ _ _ (by rw [hfl, hc]; exact hkk), hc]
  by_cases hj : j < css.length * sz
  · have hd : j / sz < css.length := Nat.div_lt_of_lt_mul (by rw [Nat.mul_comm]; exact hj)
    have hm : j % sz < sz := Nat.mod_lt _ h0
    have e : j / sz * sz + j % sz = j := by rw [Nat.mul_comm]; exact Nat.div_add_mod j _
    have g1 := flat_get css (j / sz) (j % sz) hd hm hz
    have g2 := flat_get (css.set k cs) (j / sz) (j % sz) (by simpa using hd) hm hz'
    rw [e] at g1 g2
    rw [g1, g2, List.getElem_set]
    by_cases h1 : k = j / sz
    · subst h1
      rw [if_pos rfl, if_pos (by omega), show j - j / sz * sz = j % sz by omega]
    · rw [if_neg h1, if_neg]
      intro ⟨a, b⟩
      rcases Nat.lt_or_gt_of_ne h1 with h2 | h2
      · have : (k + 1) * sz ≤ j / sz * sz := Nat.mul_le_mul_right sz h2
        rw [Nat.succ_mul] at this
        omega
      · have : (j / sz + 1) * sz ≤ k * sz := Nat.mul_le_mul_right sz h2
        rw [Nat.succ_mul] at this
        omega
  · rw [if_neg (by omega), List.getElem?_eq_none (by rw [hfl]; omega), List.getElem?_eq_none (by rw [flat_len _ hz']; simp; omega)]
theorem ownsRow_setCells {g n cap : Nat} : ∀ (us : List Value) (w : World) (base : Nat) (xs : List Value) (off : Nat), w.ownsRow base T sz (.slice (some ⟨g, 0, none⟩) n cap) n xs →
    (setCells w g off us).ownsRow base T sz (.slice (some ⟨g, 0, none⟩) n cap) n (setAll xs off us) ∧ w.grownBy (setCells w g off us) (some g)
  | [], w, base, xs, off, h => ⟨h, ⟨rfl, rfl, rfl, Nat.le_refl _, fun _ _ _ => rfl⟩⟩
  | u :: us, w, base, xs, off, h => by
    obtain ⟨h1, h2⟩ := h.stored off u
    obtain ⟨h3, h4⟩ := ownsRow_setCells us _ base _ (off + 1) h1
    exact ⟨h3, ⟨h4.os.trans h2.os, h4.tape.trans h2.tape, h4.output.trans h2.output, Nat.le_trans h2.size h4.size, fun k hk ho => (h4.block k (Nat.lt_of_lt_of_le hk h2.size) ho).trans (h2.block k hk ho)⟩⟩
theorem Below.setCells {base : Nat} {a : World} {g : Nat} (hg : base ≤ g) : ∀ (us : List Value) (w : World) (off : Nat), Below base a w → Below base a (setCells w g off us)
  | [], w, off, h => h
  | u :: us, w, off, h => Below.setCells hg us _ _ (h.setCell (p := ⟨g, off, none⟩) hg u)
theorem nodup_set {bss : List (List Nat)} (h : bss.flatten.Nodup) {k : Nat} {bs : List Nat} (hb : bs.Nodup) (hn : ∀ b ∈ bs, b ∉ bss.flatten) : (bss.set k bs).flatten.Nodup := by
  have hp := List.pairwise_flatten.1 h
  refine List.pairwise_flatten.2 ⟨fun l hl => ?_, ?_⟩
  · rcases List.mem_or_eq_of_mem_set hl with h1 | rfl
    · exact hp.1 l h1
    · exact hb
  · refine List.pairwise_iff_getElem.2 fun i j hi hj hij x hx y hy => ?_
    have hi' : i < bss.length := by simpa using hi
    have hj' : j < bss.length := by simpa using hj
    rw [List.getElem_set] at hx hy
    split at hx <;> split at hy
    · omega
    · rintro rfl
      exact hn x hx (List.mem_flatten.2 ⟨_, List.getElem_mem hj', hy⟩)
    · rintro rfl
      exact hn x hy (List.mem_flatten.2 ⟨_, List.getElem_mem hi', hx⟩)
    · exact (List.pairwise_iff_getElem.1 hp.2) i j hi' hj' hij x hx y hy
/-- What a store into one place leaves. -/
theorem OwnN.set (G : GoodO Ts sz E) (hT : T ∉ Ts) (h0 : 0 < sz) {w : World} {base g cap : Nat} {xs : List α} {css : List (List Value)} {bss : List (List Nat)} {x : α} {cs : List Value} {bs : List Nat} {n : Nat} (h : OwnN E T sz w base (.slice (some ⟨g, 0, none⟩) n cap) xs css bss) (hl : n = xs.length) (hE : E w base cs x bs) (hn : ∀ b ∈ bs, b ∉ bss.flatten)
    {k : Nat} (hk : k < xs.length) : OwnN E T sz (setCells w g (k * sz) cs) base (.slice (some ⟨g, 0, none⟩) n cap) (xs.set k x) (css.set k cs) (bss.set k bs) := by
  subst hl
  have hz : ∀ c ∈ css, c.length = sz := fun c hc => by
    obtain ⟨i, hi, rfl⟩ := List.mem_iff_getElem.1 hc
    have := G.len (h.el i (by rw [← h.l1]; exact hi))
    rwa [List.getD_eq_getElem?_getD, List.getElem?_eq_getElem hi] at this
  obtain ⟨h1, h2⟩ := ownsRow_setCells cs w base css.flatten (k * sz) h.row
  rw [setAll_flat hz (G.len hE) h0 (by rw [h.l1]; exact hk)] at h1
  have hne : ∀ b ∈ bs, b ≠ g := fun b hb e => by
    subst e
    obtain ⟨-, cur, U, h2, h3⟩ := G.typed hE b hb
    obtain ⟨-, cur', h4⟩ := ownsRow_typed h.row (k := b) rfl
    rw [h2] at h4
    injection h4 with h4
    injection h4 with _ h5
    exact hT (h5 ▸ h3)
  refine ⟨by simp [h.l1], by simp [h.l2], by simpa using h1, fun i hi => ?_, nodup_set h.apart (G.nodup hE) hn⟩
  have hi' : i < xs.length := by simpa using hi
  rw [List.getElem_set, List.getD_eq_getElem?_getD, List.getD_eq_getElem?_getD, List.getElem?_set, List.getElem?_set]
  by_cases e : k = i
  · subst e
    rw [if_pos rfl, if_pos rfl, if_pos rfl, if_pos (by rw [h.l1]; exact hk), if_pos (by rw [h.l2]; exact hk)]
    exact G.dep hE fun b hb => h2.block b (G.lt hE hb).2 fun e' => hne b hb (Option.some.inj e')
  · rw [if_neg e, if_neg e, if_neg e, ← List.getD_eq_getElem?_getD, ← List.getD_eq_getElem?_getD]
    refine G.dep (h.el i hi') fun b hb => h2.block b (G.lt (h.el i hi') hb).2 fun e' => ?_
    exact h.out G hT (k := g) rfl (Option.some.inj e' ▸ mem_flatten_getD hb)

/-- The cells of such a list. -/
theorem OwnN.cells (G : GoodO Ts sz E) {w : World} {base : Nat} {v : Value} {xs : List α} {css : List (List Value)} {bss : List (List Nat)} (h : OwnN E T sz w base v xs css bss) :
    (v = .slice none 0 0 ∧ xs = []) ∨ ∃ g c, v = .slice (some ⟨g, 0, none⟩) xs.length c ∧ xs.length ≤ c ∧ c ≤ maxLen ∧ base ≤ g ∧ g < w.heap.size ∧ (∀ off, w.frozen? ⟨g, off, none⟩ = false) ∧ ∀ i, i < xs.length → (css.getD i []).length = sz ∧ cellsAt w g (0 + i * sz) (css.getD i []) := by
  have hz : ∀ c ∈ css, c.length = sz := fun c hc => by
    obtain ⟨i, hi, rfl⟩ := List.mem_iff_getElem.1 hc
    have := G.len (h.el i (by rw [← h.l1]; exact hi))
    rwa [List.getD_eq_getElem?_getD, List.getElem?_eq_getElem hi] at this
  rcases h.row.2 with ⟨rfl, hn⟩ | ⟨g, cap, cur, rfl, h1, h2, h3, h4, h5, h6⟩
  · exact Or.inl ⟨rfl, List.length_eq_zero_iff.1 hn⟩
  · refine Or.inr ⟨g, cap, rfl, h3, h4, h1, lt_of_block h2, fun off => by simp [World.frozen?, h2], fun i hi => ⟨G.len (h.el i hi), fun t u hu => ?_⟩⟩
    have hi' : i < css.length := by rw [h.l1]; exact hi
    rw [List.getD_eq_getElem?_getD, List.getElem?_eq_getElem hi'] at hu
    have ht : t < sz := by have := (List.getElem?_eq_some_iff.1 hu).1; have h9 := hz _ (List.getElem_mem hi'); simp at this; omega
    have h7 := flat_get css i t hi' ht hz
    have hlt : i * sz + t < xs.length * sz := by
      have : (i + 1) * sz ≤ xs.length * sz := Nat.mul_le_mul_right sz (by omega)
      rw [Nat.succ_mul] at this
      omega
    rw [show css[i][t]? = some u from hu, ← h6, List.getElem?_take, if_pos hlt] at h7
    rw [cell_of_row _ _ _ _ _ _ h2, Nat.zero_add, ← Array.getElem?_toList]
    exact h7
theorem OwnL.sl (G : GoodO Ts sz E) {R : Rd α} {w : World} {base : Nat} {v : Value} {xs : List α} (h : OwnL E T sz w base v xs) (hR : ∀ cs x bs, E w base cs x bs → R (okF base w) w cs x) : ∃ A c, v = .slice A xs.length c ∧ xs.length ≤ c ∧ c ≤ maxLen ∧ Sl R sz (okF base w) w A xs.length xs := by
  obtain ⟨css, bss, h⟩ := h
  rcases h.cells G with ⟨rfl, rfl⟩ | ⟨g, c, rfl, h1, h2, h3, h4, h5, h6⟩
  · exact ⟨none, 0, rfl, Nat.le_refl _, by simp [maxLen], rfl, fun hn => by simp at hn⟩
  · refine ⟨_, c, rfl, h1, h2, rfl, fun hn => ⟨g, 0, rfl, ⟨h3, h4, h5⟩, fun i hi => ?_⟩⟩
    obtain ⟨h7, h8⟩ := h6 i hi
    exact ⟨_, h7, hR _ _ _ (h.el i hi), h8⟩
theorem OwnL.sh (G : GoodO Ts sz E) (hT : T ∉ Ts) {S : ElS} {cnt : α → Nat} {w : World} {base : Nat} {v : Value} {xs : List α} (h : OwnL E T sz w base v xs) (hn : xs.length ≤ 1048576) (hS : ∀ cs x bs, x ∈ xs → E w base cs x bs → S w cs (cnt x) bs) :
    ∃ A c bs, v = .slice A xs.length c ∧ ShL S sz w A xs.length (xs.map cnt) bs ∧ ∀ b ∈ bs, base ≤ b := by
  obtain ⟨css, bss, h⟩ := h
  rcases h.cells G with ⟨rfl, rfl⟩ | ⟨g, c, rfl, h1, h2, h3, h4, h5, h6⟩
  · exact ⟨none, 0, [], rfl, ⟨hn, Or.inl ⟨rfl, rfl, rfl⟩⟩, fun b hb => by simp at hb⟩
  · refine ⟨_, c, g :: bss.flatten, rfl, ⟨hn, Or.inr ⟨g, 0, bss, rfl, rfl, by simp, h.l2, List.nodup_cons.2 ⟨h.out G hT rfl, h.apart⟩, h4, h5, fun i hi => ?_⟩⟩, fun b hb => ?_⟩
    · obtain ⟨h7, h8⟩ := h6 i hi
      refine ⟨_, h7, ?_, h8⟩
      rw [List.getD_eq_getElem?_getD (l := xs.map cnt), List.getElem?_map, List.getElem?_eq_getElem hi]
      exact hS _ _ _ (List.getElem_mem hi) (h.el i hi)
    · rcases List.mem_cons.1 hb with rfl | hb
      · exact h3
      · exact (h.lt G hb).1
theorem OwnL.shape {w : World} {base : Nat} {v : Value} {xs : List α} (h : OwnL E T sz w base v xs) : ∃ A c, v = .slice A xs.length c := by
  obtain ⟨css, bss, h⟩ := h
  exact ownsRow_shape' h.row
end

end Go.Proofs.Ytlpfpcnafejkoaa
