/-
  Files as data: which lists of files are right, what an op on files does, which disks are right.
-/
import Derived.Test.YtkinegapnknhiaaTypes
import Derived.Sort.Walk0
namespace Go.Proofs.Ytkinegapnknhiaa
open Go.RowKit
set_option linter.unusedVariables false
set_option linter.unusedSimpArgs false

theorem bl_lt (x y : List UInt8) : Op.bytesLess x y = decide (x < y) := Go.Proofs.bytesLess_eq x y
theorem lt_irr (x : List UInt8) : ¬ x < x := List.lt_irrefl x
theorem lt_tr {x y z : List UInt8} (h : x < y) (k : y < z) : x < z := List.lt_trans h k
theorem lt_tot (x y : List UInt8) : x < y ∨ x = y ∨ y < x := by
  by_cases h : x < y
  · exact .inl h
  by_cases k : y < x
  · exact .inr (.inr k)
  · exact .inr (.inl (List.le_antisymm (List.not_lt.1 k) (List.not_lt.1 h)))
theorem bytes_ext {a b : ByteArray} (h : a.toList = b.toList) : a = b := by
  rw [ByteArray.toList_eq, ByteArray.toList_eq] at h
  have e : a.data = b.data := Array.toList_inj.1 h
  cases a; cases b; simp at e; rw [e]

/-- A file's name. -/
def Fz.nm (x : Fz) : List UInt8 := x.name.toList
def nameB (s : ByteArray) : Bool := decide (1 ≤ s.size) && decide (s.size ≤ 100)
def bytesF (l : List Fz) : Nat := (l.map fun x => x.data.size).sum
/-- Names that are right and rise, all behind the last one. -/
def okN (last : List UInt8) : List Fz → Bool
  | [] => true
  | x :: r => nameB x.name && decide (last < x.nm) && okN x.nm r
def filesB (l : List Fz) : Bool := decide (l.length ≤ 60) && okN [] l && decide (bytesF l ≤ 200000)
def roomB (l : List Fz) : Bool := decide (l.length ≤ 60) && decide (bytesF l ≤ 200000)
def SortedF (l : List Fz) : Prop := l.Pairwise fun x y => x.nm < y.nm
def findF (l : List Fz) (s : List UInt8) : Option ByteArray := (l.find? fun x => x.nm == s).map (·.data)
/-- The files with one more, as the model goes about it: done: it is there. -/
def putGo (n d : ByteArray) (done : Bool) : List Fz → List Fz
  | [] => if done then [] else [⟨n, d⟩]
  | x :: r => (if !done && !decide (x.nm < n.toList) then [⟨n, d⟩] else []) ++ (if x.nm == n.toList then [] else [x]) ++ putGo n d (done || !decide (x.nm < n.toList)) r
def putF (l : List Fz) (n d : ByteArray) : List Fz := putGo n d false l
def cutF (l : List Fz) (s : List UInt8) : List Fz := l.filter fun x => !(x.nm == s)
def formB (o : Oz) : Bool :=
  nameB o.name && (if o.kind = 1 then o.to.toList.isEmpty else if o.kind = 2 then nameB o.to && o.data.toList.isEmpty else if o.kind = 3 then o.to.toList.isEmpty && o.data.toList.isEmpty else false)
/-- The files behind an op, and whether it finds its file. -/
def doF (l : List Fz) (o : Oz) : List Fz × Bool :=
  if o.kind = 1 then (putF l o.name ((findF l o.name.toList).elim o.data (· ++ o.data)), true)
  else match findF l o.name.toList with
    | none => (l, false)
    | some d => (if o.kind = 2 then putF (cutF l o.name.toList) o.to d else cutF l o.name.toList, true)
/-- The files behind some ops, each of which must be right. -/
def stepsF (l : List Fz) : List Oz → Option (List Fz)
  | [] => some l
  | o :: r => if formB o && (doF l o).2 && filesB (doF l o).1 then stepsF (doF l o).1 r else none
def sameFz (a b : Fz) : Bool := (a.name.toList == b.name.toList) && (a.data.toList == b.data.toList)
def sameF : List Fz → List Fz → Bool
  | [], [] => true
  | a :: l, b :: m => sameFz a b && sameF l m
  | _, _ => false
def diskB (d : Dz) : Bool := filesB d.live && filesB d.safe && decide (d.ops.length ≤ 200) && match stepsF d.safe d.ops with
  | some l => sameF l d.live
  | none => false

theorem sameFz_eq {a b : Fz} (h : sameFz a b = true) : a = b := by
  simp only [sameFz, Bool.and_eq_true, beq_iff_eq] at h
  cases a; cases b
  simp only [Fz.mk.injEq]
  exact ⟨bytes_ext h.1, bytes_ext h.2⟩
theorem sameF_iff : ∀ {l m : List Fz}, sameF l m = true ↔ l = m
  | [], [] => by simp [sameF]
  | [], _ :: _ => by simp [sameF]
  | _ :: _, [] => by simp [sameF]
  | a :: l, b :: m => by
    simp only [sameF, Bool.and_eq_true, List.cons.injEq, sameF_iff (l := l) (m := m)]
    refine ⟨fun h => ⟨sameFz_eq h.1, h.2⟩, fun h => ⟨?_, h.2⟩⟩
    rw [h.1]; simp [sameFz]
theorem sameF_take {l m : List Fz} (he : l.length = m.length) : ∀ k, k < l.length → ∀ (h1 : k < l.length) (h2 : k < m.length), sameF (l.drop k) (m.drop k) = (sameFz l[k] m[k] && sameF (l.drop (k + 1)) (m.drop (k + 1))) := by
  intro k _ h1 h2
  rw [List.drop_eq_getElem_cons h1, List.drop_eq_getElem_cons h2]
  rfl
theorem sameF_len {l m : List Fz} (h : l.length ≠ m.length) : sameF l m = false := by
  cases e : sameF l m
  · rfl
  · exact absurd (congrArg List.length (sameF_iff.1 e)) h

/-! ### Right names rise -/
theorem okN_at {l : List Fz} {last : List UInt8} {k : Nat} (h : k < l.length) : okN last (l.drop k) = (nameB l[k].name && decide (last < l[k].nm) && okN l[k].nm (l.drop (k + 1))) := by
  rw [List.drop_eq_getElem_cons h]; rfl
theorem nameB_pos {s : ByteArray} (h : nameB s = true) : [] < s.toList := by
  simp only [nameB, Bool.and_eq_true, decide_eq_true_eq] at h
  rw [ByteArray.toList_eq]
  have hs : s.data.toList.length = s.size := by simp
  cases e : s.data.toList with
  | nil => rw [e] at hs; simp at hs; omega
  | cons a r => exact List.Lex.nil
theorem okN_sorted : ∀ {l : List Fz} {last : List UInt8}, okN last l = true → SortedF l ∧ (∀ x ∈ l, last < x.nm) ∧ ∀ x ∈ l, nameB x.name = true
  | [], _, _ => ⟨List.Pairwise.nil, by simp, by simp⟩
  | x :: r, last, h => by
    simp only [okN, Bool.and_eq_true, decide_eq_true_eq] at h
    obtain ⟨h1, h2, h3⟩ := okN_sorted h.2
    refine ⟨List.pairwise_cons.2 ⟨h2, h1⟩, fun y hy => ?_, fun y hy => ?_⟩
    · rcases List.mem_cons.1 hy with rfl | hy
      · exact h.1.2
      · exact lt_tr h.1.2 (h2 y hy)
    · rcases List.mem_cons.1 hy with rfl | hy
      · exact h.1.1
      · exact h3 y hy
theorem sorted_okN : ∀ {l : List Fz} {last : List UInt8}, SortedF l → (∀ x ∈ l, last < x.nm) → (∀ x ∈ l, nameB x.name = true) → okN last l = true
  | [], _, _, _, _ => rfl
  | x :: r, last, h1, h2, h3 => by
    obtain ⟨g1, g2⟩ := List.pairwise_cons.1 h1
    simp only [okN, Bool.and_eq_true, decide_eq_true_eq]
    exact ⟨⟨h3 x (by simp), h2 x (by simp)⟩, sorted_okN g2 g1 fun y hy => h3 y (by simp [hy])⟩
theorem okN_iff {l : List Fz} : okN [] l = true ↔ SortedF l ∧ ∀ x ∈ l, nameB x.name = true :=
  ⟨fun h => ⟨(okN_sorted h).1, (okN_sorted h).2.2⟩, fun h => sorted_okN h.1 (fun x hx => nameB_pos (h.2 x hx)) h.2⟩
theorem filesB_sorted {l : List Fz} (h : filesB l = true) : SortedF l := by
  simp only [filesB, Bool.and_eq_true] at h
  exact (okN_iff.1 h.1.2).1
theorem filesB_bytes {l : List Fz} (h : filesB l = true) : l.length ≤ 60 ∧ bytesF l ≤ 200000 := by
  simp only [filesB, Bool.and_eq_true, decide_eq_true_eq] at h
  exact ⟨h.1.1, h.2⟩
theorem filesB_name {l : List Fz} (h : filesB l = true) {x : Fz} (hx : x ∈ l) : nameB x.name = true := by
  simp only [filesB, Bool.and_eq_true] at h
  exact (okN_iff.1 h.1.2).2 x hx

/-! ### What is found -/
theorem findF_cons (x : Fz) (r : List Fz) (s : List UInt8) : findF (x :: r) s = if x.nm == s then some x.data else findF r s := by
  unfold findF
  rw [List.find?_cons]
  cases x.nm == s <;> rfl
theorem findF_none {l : List Fz} {s : List UInt8} (h : ∀ x ∈ l, x.nm ≠ s) : findF l s = none := by
  unfold findF
  rw [List.find?_eq_none.2 (fun x hx => by simpa using h x hx)]; rfl
theorem findF_mem {l : List Fz} {s : List UInt8} {d : ByteArray} (h : findF l s = some d) : ∃ x ∈ l, x.nm = s ∧ x.data = d := by
  unfold findF at h
  cases e : l.find? fun x => x.nm == s with
  | none => rw [e] at h; cases h
  | some x =>
    rw [e] at h
    exact ⟨x, List.mem_of_find?_eq_some e, by simpa using List.find?_some e, by simpa using h⟩
theorem findF_hit {l : List Fz} (h : SortedF l) {x : Fz} (hx : x ∈ l) : findF l x.nm = some x.data := by
  induction l with
  | nil => cases hx
  | cons y r ih =>
    rw [findF_cons]
    obtain ⟨h1, h2⟩ := List.pairwise_cons.1 h
    rcases List.mem_cons.1 hx with rfl | hx
    · simp
    · have hne : (y.nm == x.nm) = false := by
        simp only [beq_eq_false_iff_ne]
        intro e; have := h1 x hx; rw [e] at this; exact lt_irr _ this
      rw [hne]; simpa using ih h2 hx
theorem findF_size {l : List Fz} {s : List UInt8} {d : ByteArray} (h : findF l s = some d) : d.size ≤ bytesF l := by
  obtain ⟨x, hx, -, rfl⟩ := findF_mem h
  clear h
  unfold bytesF
  induction l with
  | nil => cases hx
  | cons y r ih =>
    rw [List.map_cons, List.sum_cons]
    rcases List.mem_cons.1 hx with rfl | hx
    · omega
    · have := ih hx; omega
/-- Two rising lists in which the same is found are one. -/
theorem sorted_ext : ∀ {l m : List Fz}, SortedF l → SortedF m → (∀ s, findF l s = findF m s) → l = m
  | [], [], _, _, _ => rfl
  | [], y :: r, _, _, h => by have := h y.nm; rw [findF_cons] at this; simp [findF] at this
  | x :: r, [], _, _, h => by have := h x.nm; rw [findF_cons] at this; simp [findF] at this
  | x :: r, y :: q, hl, hm, h => by
    obtain ⟨l1, l2⟩ := List.pairwise_cons.1 hl
    obtain ⟨m1, m2⟩ := List.pairwise_cons.1 hm
    have hxy : x.nm = y.nm := by
      rcases lt_tot x.nm y.nm with k | k | k
      · have e := h x.nm
        rw [findF_hit hl (by simp), findF_none] at e
        · cases e
        · intro z hz e'
          rcases List.mem_cons.1 hz with rfl | hz
          · rw [e'] at k; exact lt_irr _ k
          · have := m1 z hz; rw [e'] at this; exact lt_irr _ (lt_tr this k)
      · exact k
      · have e := h y.nm
        rw [findF_hit hm (by simp), findF_none] at e
        · cases e
        · intro z hz e'
          rcases List.mem_cons.1 hz with rfl | hz
          · rw [e'] at k; exact lt_irr _ k
          · have := l1 z hz; rw [e'] at this; exact lt_irr _ (lt_tr this k)
    have hd : x = y := by
      have e := h x.nm
      rw [findF_hit hl (by simp), hxy, findF_hit hm (by simp)] at e
      cases x; cases y
      simp only [Fz.nm] at hxy
      simp only [Option.some.injEq] at e
      simp only [Fz.mk.injEq]
      exact ⟨bytes_ext hxy, e⟩
    subst hd
    rw [sorted_ext l2 m2 fun s => ?_]
    by_cases e : x.nm = s
    · subst e
      rw [findF_none (l := r) fun z hz e => ?_, findF_none (l := q) fun z hz e => ?_]
      · have := m1 z hz; rw [e] at this; exact lt_irr _ this
      · have := l1 z hz; rw [e] at this; exact lt_irr _ this
    · have := h s
      rw [findF_cons, findF_cons] at this
      simpa [e] using this

/-! ### What puts and cuts leave -/
theorem putGo_done : ∀ (n d : ByteArray) (l : List Fz), putGo n d true l = cutF l n.toList
  | n, d, [] => rfl
  | n, d, x :: r => by
    unfold putGo cutF
    rw [Bool.true_or, putGo_done n d r, List.filter_cons]
    unfold cutF
    cases h : x.nm == n.toList <;> simp [h]
theorem putF_cons (x : Fz) (r : List Fz) (n d : ByteArray) : putF (x :: r) n d = if x.nm < n.toList then x :: putF r n d else ⟨n, d⟩ :: cutF (x :: r) n.toList := by
  unfold putF
  rw [putGo]
  by_cases h : x.nm < n.toList
  · have hne : (x.nm == n.toList) = false := by simp only [beq_eq_false_iff_ne]; intro e; rw [e] at h; exact lt_irr _ h
    simp [h, hne]
  · simp only [h, decide_false, Bool.not_false, Bool.and_self, if_true, Bool.or_true, if_false, putGo_done]
    unfold cutF
    rw [List.filter_cons]
    cases e : x.nm == n.toList <;> simp [e]
theorem cutF_sorted {l : List Fz} (h : SortedF l) (s : List UInt8) : SortedF (cutF l s) := List.Pairwise.filter _ h
theorem cutF_mem {l : List Fz} {s : List UInt8} {x : Fz} (h : x ∈ cutF l s) : x ∈ l ∧ x.nm ≠ s := by
  have := List.mem_filter.1 h
  exact ⟨this.1, by simpa using this.2⟩
theorem findF_cut (l : List Fz) (t s : List UInt8) : findF (cutF l t) s = if t = s then none else findF l s := by
  induction l with
  | nil => unfold cutF findF; simp
  | cons x r ih =>
    unfold cutF at ih ⊢
    rw [List.filter_cons]
    by_cases e : x.nm = t
    · simp only [e, beq_self_eq_true, Bool.not_true, Bool.false_eq_true, if_false]
      rw [ih, findF_cons, e]
      by_cases k : t = s
      · simp [k]
      · simp [k]
    · have hne : (x.nm == t) = false := by simpa using e
      simp only [hne, Bool.not_false, if_true]
      rw [findF_cons, findF_cons, ih]
      by_cases k : t = s
      · subst k; simp [e]
      · simp [k]
theorem putF_mem : ∀ {l : List Fz} {n d : ByteArray} {x : Fz}, x ∈ putF l n d → x = ⟨n, d⟩ ∨ (x ∈ l ∧ x.nm ≠ n.toList)
  | [], n, d, x, h => by unfold putF putGo at h; simp at h; exact .inl h
  | y :: r, n, d, x, h => by
    rw [putF_cons] at h
    split at h
    · rename_i hl
      rcases List.mem_cons.1 h with rfl | h
      · exact .inr ⟨by simp, fun e => by rw [e] at hl; exact lt_irr _ hl⟩
      · rcases putF_mem h with h | ⟨h, k⟩
        · exact .inl h
        · exact .inr ⟨by simp [h], k⟩
    · rcases List.mem_cons.1 h with rfl | h
      · exact .inl rfl
      · exact .inr (cutF_mem h)
theorem putF_sorted : ∀ {l : List Fz} (h : SortedF l) (n d : ByteArray), SortedF (putF l n d)
  | [], _, n, d => by unfold putF putGo; simp [SortedF]
  | y :: r, h, n, d => by
    obtain ⟨h1, h2⟩ := List.pairwise_cons.1 h
    rw [putF_cons]
    split
    · rename_i hl
      refine List.pairwise_cons.2 ⟨fun z hz => ?_, putF_sorted h2 n d⟩
      rcases putF_mem hz with rfl | ⟨hz, -⟩
      · exact hl
      · exact h1 z hz
    · rename_i hl
      refine List.pairwise_cons.2 ⟨fun z hz => ?_, cutF_sorted h _⟩
      obtain ⟨hz, hne⟩ := cutF_mem hz
      have hy : n.toList < y.nm ∨ n.toList = y.nm := by
        rcases lt_tot y.nm n.toList with k | k | k
        · exact absurd k hl
        · exact .inr k.symm
        · exact .inl k
      show n.toList < z.nm
      rcases List.mem_cons.1 hz with rfl | hz
      · rcases hy with k | k
        · exact k
        · exact absurd k.symm hne
      · rcases hy with k | k
        · exact lt_tr k (h1 z hz)
        · rw [k]; exact h1 z hz
theorem findF_put : ∀ {l : List Fz} (n d : ByteArray) (s : List UInt8), findF (putF l n d) s = if n.toList = s then some d else findF l s
  | [], n, d, s => by
    unfold putF putGo
    simp only [Bool.false_eq_true, if_false]
    rw [findF_cons]
    by_cases e : n.toList = s
    · simp [Fz.nm, e]
    · have : (n.toList == s) = false := by simpa using e
      simp [Fz.nm, e, this]
  | y :: r, n, d, s => by
    rw [putF_cons]
    split
    · rename_i hl
      rw [findF_cons, findF_cons, findF_put n d s]
      by_cases e : n.toList = s
      · have hne : (y.nm == s) = false := by simp only [beq_eq_false_iff_ne]; intro k; rw [k, e] at hl; exact lt_irr _ hl
        simp [e, hne]
      · simp [e]
    · rw [findF_cons, findF_cut]
      by_cases e : n.toList = s
      · simp [Fz.nm, e]
      · have : (n.toList == s) = false := by simpa using e
        simp [Fz.nm, e, this]
theorem cutF_bytes (l : List Fz) (s : List UInt8) : bytesF (cutF l s) ≤ bytesF l ∧ (cutF l s).length ≤ l.length := by
  induction l with
  | nil => exact ⟨Nat.le_refl _, Nat.le_refl _⟩
  | cons x r ih =>
    unfold cutF bytesF at *
    rw [List.filter_cons]
    split
    · simp only [List.map_cons, List.sum_cons, List.length_cons]; omega
    · simp only [List.map_cons, List.sum_cons, List.length_cons]; omega
theorem putF_bytes : ∀ (l : List Fz) (n d : ByteArray), bytesF (putF l n d) ≤ bytesF l + d.size ∧ (putF l n d).length ≤ l.length + 1
  | [], n, d => by unfold putF putGo bytesF; simp
  | x :: r, n, d => by
    have h1 := putF_bytes r n d
    have h2 := cutF_bytes (x :: r) n.toList
    rw [putF_cons]
    split
    · unfold bytesF at *; simp only [List.map_cons, List.sum_cons, List.length_cons] at *; omega
    · unfold bytesF at *; simp only [List.map_cons, List.sum_cons, List.length_cons] at *; omega
theorem cutF_len : ∀ {l : List Fz}, SortedF l → ∀ s : List UInt8, (cutF l s).length + (if (findF l s).isSome then 1 else 0) = l.length
  | [], _, s => by simp [cutF, findF]
  | x :: r, h, s => by
    obtain ⟨h1, h2⟩ := List.pairwise_cons.1 h
    rw [findF_cons]
    by_cases e : x.nm = s
    · have hc : cutF (x :: r) s = r := by
        unfold cutF
        rw [List.filter_cons]
        simp only [e, beq_self_eq_true, Bool.not_true, Bool.false_eq_true, if_false]
        refine List.filter_eq_self.2 fun z hz => ?_
        have := h1 z hz
        simp only [Bool.not_eq_true', beq_eq_false_iff_ne]
        intro k; rw [e, k] at this; exact lt_irr _ this
      simp [hc, e]
    · have hne : (x.nm == s) = false := by simpa using e
      have ih := cutF_len h2 s
      unfold cutF at ih ⊢
      rw [List.filter_cons]
      simp only [hne, Bool.not_false, if_true, Bool.false_eq_true, if_false, List.length_cons]
      omega
theorem putF_len : ∀ {l : List Fz}, SortedF l → ∀ n d : ByteArray, (putF l n d).length = if (findF l n.toList).isSome then l.length else l.length + 1
  | [], _, n, d => by simp [putF, putGo, findF]
  | x :: r, h, n, d => by
    obtain ⟨h1, h2⟩ := List.pairwise_cons.1 h
    rw [putF_cons]
    split
    · rename_i hl
      have hne : (x.nm == n.toList) = false := by simp only [beq_eq_false_iff_ne]; intro e; rw [e] at hl; exact lt_irr _ hl
      rw [findF_cons, hne, List.length_cons, putF_len h2 n d]
      simp only [Bool.false_eq_true, if_false, List.length_cons]
      split <;> omega
    · have := cutF_len h n.toList
      rw [List.length_cons]
      split
      · rename_i hs; rw [if_pos hs] at this; omega
      · rename_i hs; rw [if_neg hs] at this; omega
theorem doF_sorted {l : List Fz} (h : SortedF l) (o : Oz) : SortedF (doF l o).1 := by
  unfold doF
  split
  · exact putF_sorted h _ _
  · split
    · exact h
    · dsimp only
      split
      · exact putF_sorted (cutF_sorted h _) _ _
      · exact cutF_sorted h _
theorem doF_bytes (l : List Fz) (o : Oz) : bytesF (doF l o).1 ≤ 2 * bytesF l + o.data.size ∧ (doF l o).1.length ≤ l.length + 1 := by
  unfold doF
  split
  · have h := putF_bytes l o.name ((findF l o.name.toList).elim o.data (· ++ o.data))
    refine ⟨?_, h.2⟩
    refine Nat.le_trans h.1 ?_
    cases e : findF l o.name.toList with
    | none => simp; omega
    | some d => have := findF_size e; simp; omega
  · split
    · exact ⟨by dsimp only; omega, by dsimp only; omega⟩
    · rename_i d e
      dsimp only
      have h2 := cutF_bytes l o.name.toList
      have h3 := findF_size e
      split
      · have h := putF_bytes (cutF l o.name.toList) o.to d
        omega
      · omega
/-- Behind an op that is of its form only the room is to be asked. -/
theorem doF_room {l : List Fz} (hl : filesB l = true) {o : Oz} (ho : formB o = true) : filesB (doF l o).1 = roomB (doF l o).1 := by
  have hs := doF_sorted (filesB_sorted hl) o
  have hn : ∀ x ∈ (doF l o).1, nameB x.name = true := by
    have h0 : nameB o.name = true := by unfold formB at ho; simp only [Bool.and_eq_true] at ho; exact ho.1
    unfold doF
    split
    · intro x hx
      rcases putF_mem hx with rfl | ⟨hx, -⟩
      · exact h0
      · exact filesB_name hl hx
    · rename_i hk1
      split
      · exact fun x hx => filesB_name hl hx
      · dsimp only
        split
        · rename_i hk
          intro x hx
          rcases putF_mem hx with rfl | ⟨hx, -⟩
          · unfold formB at ho
            rw [if_neg hk1, if_pos hk] at ho
            simp only [Bool.and_eq_true] at ho
            exact ho.2.1
          · exact filesB_name hl (cutF_mem hx).1
        · exact fun x hx => filesB_name hl (cutF_mem hx).1
  unfold filesB roomB
  rw [okN_iff.2 ⟨hs, hn⟩, Bool.and_true]
theorem steps_at {l : List Fz} {ops : List Oz} {k : Nat} (h : k < ops.length) : stepsF l (ops.drop k) = if formB ops[k] && (doF l ops[k]).2 && filesB (doF l ops[k]).1 then stepsF (doF l ops[k]).1 (ops.drop (k + 1)) else none := by
  rw [List.drop_eq_getElem_cons h]; rfl
end Go.Proofs.Ytkinegapnknhiaa
