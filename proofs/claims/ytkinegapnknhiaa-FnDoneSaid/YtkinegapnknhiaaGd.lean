/-
  Several texts in one: DiskReplFit, DoneMath, DrawDisk, DrawDisk2, DrawDisk3, DrawDo, LawFiles.
-/
import Derived.Test.YtkinegapnknhiaaGa
import Derived.Test.YtkinegapnknhiaaFrDraw
import Derived.Deep.CutRange
import Derived.Deep.CutBlock
import Derived.Test.YtkinegapnknhiaaReader2
import Derived.Test.YtkinegapnknhiaaDiskSpec2
namespace Go.Proofs.Ytkinegapnknhiaa
open Go.RowKit
set_option linter.unusedVariables false
set_option linter.unusedSimpArgs false

def OpP (o : Oz) : Prop := (o.to.size ≤ 100 ∨ o.kind = 2) ∧ (o.kind = 1 ∨ o.data.size = 0)
theorem codeD_formed {x : Dz} {o : Oz} (h : codeD x o = 0) : formB o = true := by
  unfold codeD at h
  cases hf : formB o
  · rw [hf] at h; cases h
  · rfl
theorem op_sz {x : Dz} {o : Oz} (h : codeD x o = 0) (hp : OpP o) : o.sz ≤ 1048576 := by
  obtain ⟨h1, h2⟩ := form_kinds (codeD_formed h)
  have h3 := filesB_bytes (codeD_zero h)
  have hnm : ∀ s : ByteArray, nameB s = true → s.size ≤ 100 := fun s hs => by simp only [nameB, Bool.and_eq_true, decide_eq_true_eq] at hs; exact hs.2
  have hto : o.to.size ≤ 100 := by
    rcases hp.1 with ht | ht
    · exact ht
    · rcases h2 with h2 | ⟨-, h2⟩ | h2
      · omega
      · exact hnm _ h2
      · omega
  have hda : o.data.size ≤ 200000 := by
    rcases hp.2 with hk | hk
    · rw [doF_app hk] at h3
      have h4 := findF_put (l := x.live) o.name ((findF x.live o.name.toList).elim o.data (· ++ o.data)) o.name.toList
      rw [if_pos rfl] at h4
      have h5 := findF_size h4
      have h6 : o.data.size ≤ ((findF x.live o.name.toList).elim o.data (· ++ o.data)).size := by
        cases findF x.live o.name.toList with
        | none => exact Nat.le_refl _
        | some e => simp
      have h7 := h3.2
      simp only at h7
      omega
    · omega
  have := hnm _ h1
  unfold Oz.sz
  omega
theorem seqD_fits : ∀ (ops : List Oz) (x : Dz), x.fits → rightD x → (∀ o ∈ ops, OpP o) → (seqD ops x).1.fits
  | [], x, h, _, _ => h
  | o :: r, x, h, hr, hp => by
    by_cases hc : codeD x o = 0
    · rw [seqD_step hc]
      exact seqD_fits r _ (flat_fits h (op_sz hc (hp o (by simp))) (by have := hr.2.2; omega)) (actD_right hr hc) fun p hm => hp p (by simp [hm])
    · rw [seqD_stop hc]; exact h
theorem opsR_P (l : List Fz) (n d : ByteArray) : ∀ o ∈ opsR l n d, OpP o := by
  have h0 : (⟨#[]⟩ : ByteArray).size = 0 := rfl
  intro o ho
  unfold opsR putO at ho
  rcases List.mem_append.1 ho with ho | ho
  · unfold cutO at ho
    split at ho
    · rw [List.mem_singleton.1 ho]; exact ⟨.inl (by show (⟨#[]⟩ : ByteArray).size ≤ 100; omega), .inr h0⟩
    · cases ho
  · rcases List.mem_cons.1 ho with rfl | ho
    · exact ⟨.inl (by show (⟨#[]⟩ : ByteArray).size ≤ 100; omega), .inl rfl⟩
    · rw [List.mem_singleton.1 ho]; exact ⟨.inr rfl, .inr h0⟩
theorem replD_fits {x : Dz} {n d : ByteArray} (h : x.sz ≤ 1048576) : (replD x n d).fits := by
  have h1 := Dz.fits_of h
  unfold replD
  split
  · rename_i hd
    have hp := diskB_parts hd
    split
    · exact seqD_fits _ _ h1 ⟨hp.1, h1.2.1.1, hp.2.2⟩ (opsR_P _ _ _)
    · exact h1
  · exact ⟨by simp, by simp, by simp⟩
end Go.Proofs.Ytkinegapnknhiaa
namespace Go.Proofs.Ytkinegapnknhiaa
open Go.RowKit
set_option linter.unusedVariables false
set_option linter.unusedSimpArgs false

theorem stepsF_snoc : ∀ (ops : List Oz) (l : List Fz) {m : List Fz} {o : Oz}, stepsF l ops = some m → formB o = true → (doF m o).2 = true → filesB (doF m o).1 = true → stepsF l (ops ++ [o]) = some (doF m o).1
  | [], l, m, o, h, hf, hd, hr => by
    injection h with h
    subst h
    show (if formB o && (doF l o).2 && filesB (doF l o).1 then some (doF l o).1 else none) = _
    rw [hf, hd, hr]
    rfl
  | p :: r, l, m, o, h, hf, hd, hr => by
    unfold stepsF at h
    show (if formB p && (doF l p).2 && filesB (doF l p).1 then stepsF (doF l p).1 (r ++ [o]) else none) = _
    split at h
    · rename_i hp
      rw [if_pos hp]
      exact stepsF_snoc r _ h hf hd hr
    · cases h
theorem codeD_done {x : Dz} {o : Oz} (h : codeD x o = 0) : formB o = true ∧ (doF x.live o).2 = true ∧ x.ops.length ≠ 200 ∧ filesB (doF x.live o).1 = true := by
  have h1 := codeD_formed h
  have h2 := codeD_zero h
  refine ⟨h1, ?_, ?_, h2⟩
  · cases hd : (doF x.live o).2
    · have := (codeD_none h1 hd).1; rw [h] at this; cases this
    · rfl
  · intro hm
    cases hd : (doF x.live o).2
    · have := (codeD_none h1 hd).1; rw [h] at this; cases this
    · have := (codeD_many h1 hd hm).1; rw [h] at this; cases this
theorem actD_done {x : Dz} {o : Oz} (h : codeD x o = 0) : actD x o = ⟨(doF x.live o).1, x.safe, x.ops ++ [o]⟩ := by unfold actD; rw [if_pos h]
theorem diskB_done {x : Dz} {o : Oz} (hd : diskB x = true) (h : codeD x o = 0) : diskB ⟨(doF x.live o).1, x.safe, x.ops ++ [o]⟩ = true := by
  obtain ⟨h1, h2, h3, h4⟩ := codeD_done h
  obtain ⟨p1, p2, p3⟩ := diskB_parts hd
  have hs : stepsF x.safe x.ops = some x.live := by
    unfold diskB at hd
    simp only [Bool.and_eq_true] at hd
    cases hs : stepsF x.safe x.ops with
    | none => rw [hs] at hd; exact absurd hd.2 (by simp)
    | some m => rw [hs] at hd; rw [sameF_iff.1 hd.2]
  have h5 := stepsF_snoc x.ops x.safe hs h1 h2 h4
  unfold diskB
  simp only [Bool.and_eq_true, decide_eq_true_eq]
  refine ⟨⟨⟨h4, p2⟩, by rw [List.length_append, List.length_singleton]; omega⟩, ?_⟩
  rw [h5]
  exact sameF_iff.2 rfl
theorem append_nilB (s : ByteArray) : (⟨#[]⟩ : ByteArray) ++ s = s := by
  apply ByteArray.ext
  simp
/-- Behind an append the file has its data and what was appended. -/
theorem done_append {x : Dz} {o : Oz} (hd : diskB x = true) (h : codeD x o = 0) (hk : o.kind = 1) : readT (actDo x o) o.name = readT x o.name ++ o.data ∧ readK (actDo x o) o.name = true := by
  have hy := diskB_done hd h
  rw [(doD_yes (o := o) hd).2, actD_done h]
  have hf : findF (doF x.live o).1 o.name.toList = some ((findF x.live o.name.toList).elim o.data (· ++ o.data)) := by
    unfold doF
    rw [if_pos hk]
    show findF (putF _ _ _) _ = _
    rw [findF_put, if_pos rfl]
  have h1 := read_some (x := ⟨(doF x.live o).1, x.safe, x.ops ++ [o]⟩) hy hf
  refine ⟨h1.1.trans ?_, h1.2⟩
  unfold readT readL
  rw [hd]
  cases findF x.live o.name.toList with
  | none => exact (append_nilB _).symm
  | some d => rfl
theorem done_found {x : Dz} {o : Oz} (h : codeD x o = 0) (hk : o.kind ≠ 1) : ∃ d, findF x.live o.name.toList = some d := by
  have h2 := (codeD_done h).2.1
  unfold doF at h2
  rw [if_neg hk] at h2
  cases hf : findF x.live o.name.toList with
  | none => rw [hf] at h2; cases h2
  | some d => exact ⟨d, rfl⟩
/-- Behind a renaming its data are there under the other name only. -/
theorem done_rename {x : Dz} {o : Oz} (hd : diskB x = true) (h : codeD x o = 0) (hk : o.kind = 2) : readT (actDo x o) o.to = readT x o.name ∧ readK (actDo x o) o.to = true ∧ readK (actDo x o) o.name = (o.to.toList == o.name.toList) := by
  have hy := diskB_done hd h
  obtain ⟨d, hf⟩ := done_found h (by omega)
  rw [(doD_yes (o := o) hd).2, actD_done h]
  have e : (doF x.live o).1 = putF (cutF x.live o.name.toList) o.to d := by
    unfold doF
    rw [if_neg (by omega), hf]
    show (if o.kind = 2 then _ else _) = _
    rw [if_pos hk]
  have h1 := read_some (x := ⟨(doF x.live o).1, x.safe, x.ops ++ [o]⟩) (s := o.to) hy (show findF (doF x.live o).1 o.to.toList = some d by rw [e, findF_put, if_pos rfl])
  refine ⟨h1.1.trans (read_some hd hf).1.symm, h1.2, ?_⟩
  have hn : findF (doF x.live o).1 o.name.toList = if o.to.toList = o.name.toList then some d else none := by
    rw [e, findF_put]
    split
    · rfl
    · rw [findF_cut, if_pos rfl]
  by_cases ht : o.to.toList = o.name.toList
  · rw [if_pos ht] at hn
    rw [(read_some (x := ⟨(doF x.live o).1, x.safe, x.ops ++ [o]⟩) (s := o.name) hy hn).2]
    exact (beq_iff_eq.2 ht).symm
  · rw [if_neg ht] at hn
    rw [(read_none (x := ⟨(doF x.live o).1, x.safe, x.ops ++ [o]⟩) (s := o.name) hn).2]
    exact (beq_eq_false_iff_ne.2 ht).symm
theorem done_remove {x : Dz} {o : Oz} (hd : diskB x = true) (h : codeD x o = 0) (hk : o.kind = 3) : readK (actDo x o) o.name = false := by
  obtain ⟨d, hf⟩ := done_found h (by omega)
  rw [(doD_yes (o := o) hd).2, actD_done h]
  have e : (doF x.live o).1 = cutF x.live o.name.toList := by
    unfold doF
    rw [if_neg (by omega), hf]
    show (if o.kind = 2 then _ else _) = _
    rw [if_neg (by omega)]
  exact (read_none (x := ⟨(doF x.live o).1, x.safe, x.ops ++ [o]⟩) (s := o.name) (show findF (doF x.live o).1 o.name.toList = none by rw [e, findF_cut, if_pos rfl])).2
theorem kind_three {o : Oz} (h : formB o = true) : o.kind = 1 ∨ o.kind = 2 ∨ o.kind = 3 := by
  by_cases h1 : o.kind = 1
  · exact .inl h1
  by_cases h2 : o.kind = 2
  · exact .inr (.inl h2)
  by_cases h3 : o.kind = 3
  · exact .inr (.inr h3)
  rw [form_other h1 h2 h3] at h
  cases h
theorem readT_size {x : Dz} (s : ByteArray) : (readT x s).size ≤ 200000 := by
  unfold readT readL
  cases hd : diskB x
  · exact Nat.zero_le _
  have h1 := (filesB_bytes (diskB_parts hd).1).2
  cases hf : findF x.live s.toList with
  | none => exact Nat.zero_le _
  | some d => have := findF_size hf; show d.size ≤ _; omega
end Go.Proofs.Ytkinegapnknhiaa
namespace Go.Proofs.Ytkinegapnknhiaa
open Go.RowKit
set_option linter.unusedVariables false
set_option linter.unusedSimpArgs false

theorem heap_size_alloc1 (w : World) (o : Obj) : (w.alloc o).heap.size = w.heap.size + 1 := by simp
theorem Row.butR {R : Nat} {w w' : World} {g : Nat} {T : TypeId} {cs : Array Value} (h : Row w g T cs) (hb : But R w w') (hg : g ≠ R) : Row w' g T cs := (hb.block g (lt_of_block h) hg).trans h
theorem OwnG.butR {α : Type} {T : TypeId} {sz : Nat} {f : α → List Value} {w w' : World} {base R : Nat} {v : Value} {xs : List α} (h : OwnG T sz f w base v xs) (hb : But R w w') (hR : R < base) : OwnG T sz f w' base v xs := by
  refine ⟨h.1, ?_⟩
  rcases h.2 with h | ⟨g, cap, cur, rfl, h1, h2, h3⟩
  · exact .inl h
  · exact .inr ⟨g, cap, cur, rfl, h1, (hb.block g (lt_of_block h2) (by omega)).trans h2, h3⟩
theorem DzA.butR {w w' : World} {base R : Nat} {v : Value} {x : Dz} (h : DzA w base v x) (hb : But R w w') (hR : R < base) : DzA w' base v x := by
  obtain ⟨v0, v1, v2, e, k0, k1, k2, hd⟩ := h
  exact ⟨v0, v1, v2, e, OwnG.butR k0 hb hR, OwnG.butR k1 hb hR, OwnG.butR k2 hb hR, hd⟩
theorem below_butD {w w' : World} (h : Below w.heap.size w w') (R : Nat) : But R w w' := ⟨h.os, h.tape, h.output, h.size, fun k hk _ => h.block k hk⟩
theorem rdr_belowD {w w' : World} {R : Nat} {a : Option Addr} {len cap : Nat} {zs : List Int} (h : Rdr w R a len cap zs) (hb : Below w.heap.size w w') : Rdr w' R a len cap zs := by
  have hR : R < w.heap.size := cell_lt h.code
  obtain ⟨i, hi, hi1⟩ := h.place
  exact ⟨(hb.cell (p := ⟨R, 0, none⟩) hR).trans h.code, ⟨i, hi, (hb.cell (p := ⟨R, 1, none⟩) hR).trans hi1⟩, (hb.frozen (p := ⟨R, 1, none⟩) hR).trans h.free, h.row.below hb, h.apart⟩
/-- An own disk is read behind what turns the reader only. -/
theorem DzA.readsBut {w : World} {base R : Nat} {A0 : Option Addr} {n0 c0 : Nat} {A1 : Option Addr} {n1 c1 : Nat} {A2 : Option Addr} {n2 c2 : Nat} {x : Dz} (h : DzA w base (.agg #[.slice A0 n0 c0, .slice A1 n1 c1, .slice A2 n2 c2]) x) (hR : R < base) :
    ∀ u, But R w u → Sl FzR 2 (fun _ => True) u A0 n0 x.live ∧ Sl FzR 2 (fun _ => True) u A1 n1 x.safe ∧ Sl OzR 4 (fun _ => True) u A2 n2 x.ops := fun u hu => by
  obtain ⟨B0, m0, d0, B1, m1, d1, B2, m2, d2, e0, e1, e2, s0, s1, s2⟩ := (h.butR hu hR).reads
  injection e0 with ea eb ec
  injection e1 with fa fb fc
  injection e2 with ga gb gc
  subst ea eb ec fa fb fc ga gb gc
  exact ⟨s0, s1, s2⟩
/-- The size of files that are right. -/
theorem szL_names {l : List Fz} (h : ∀ y ∈ l, y.name.size ≤ 100) : szL Fz.sz l ≤ 101 * l.length + bytesF l := by
  unfold szL bytesF
  induction l with
  | nil => simp
  | cons y r ih =>
    have h1 := h y (List.mem_cons_self ..)
    have h2 := ih fun z hz => h z (List.mem_cons_of_mem _ hz)
    simp only [List.map_cons, List.sum_cons, List.length_cons] at h2 ⊢
    unfold Fz.sz at h2 ⊢
    omega
theorem szL_files {l : List Fz} (h : filesB l = true) : szL Fz.sz l ≤ 206060 := by
  have h1 := filesB_bytes h
  have h2 := szL_names (l := l) fun y hy => by
    have := filesB_name h hy
    simp only [nameB, Bool.and_eq_true, decide_eq_true_eq] at this
    exact this.2
  omega
/-- A disk whose files are small, with ops of at most m together. -/
def SmD (x : Dz) (m : Nat) : Prop := szL Fz.sz x.live ≤ 206060 + m ∧ szL Fz.sz x.safe ≤ 206060 + m ∧ szL Oz.sz x.ops ≤ m
theorem SmD.sz {x : Dz} {m : Nat} (h : SmD x m) (hm : m ≤ 200000) : x.sz ≤ 1048576 := by obtain ⟨h1, h2, h3⟩ := h; unfold Dz.sz; omega
theorem SmD.mono {x : Dz} {m m' : Nat} (h : SmD x m) (hm : m ≤ m') : SmD x m' := ⟨Nat.le_trans h.1 (by omega), Nat.le_trans h.2.1 (by omega), Nat.le_trans h.2.2 hm⟩
theorem SmD.nil (m : Nat) : SmD ⟨[], [], []⟩ m := ⟨by simp [szL], by simp [szL], by simp [szL]⟩
theorem SmD.zz {x : Dz} {m : Nat} (h : SmD x m) (hm : m ≤ 290 := by omega) : SmD ⟨x.live ++ [⟨⟨#[122, 122]⟩, ⟨#[]⟩⟩], x.safe, x.ops⟩ 300 := by
  refine ⟨?_, Nat.le_trans h.2.1 (by omega), Nat.le_trans h.2.2 (by omega)⟩
  have h1 := h.1
  have e : Fz.sz ⟨⟨#[122, 122]⟩, ⟨#[]⟩⟩ = 2 := rfl
  unfold szL at h1 ⊢
  simp only [List.length_append, List.map_append, List.sum_append, List.length_cons, List.length_nil, List.map_cons, List.map_nil, List.sum_cons, List.sum_nil, e]
  omega
theorem SmD.tail {l s : List Fz} {o : Oz} {os : List Oz} {m : Nat} (h : SmD ⟨l, s, o :: os⟩ m) : SmD ⟨l, s, os⟩ m := by
  refine ⟨h.1, h.2.1, ?_⟩
  have h1 := h.2.2
  show szL Oz.sz os ≤ m
  have h2 : szL Oz.sz (o :: os) ≤ m := h1
  unfold szL at h2 ⊢
  simp only [List.length_cons, List.map_cons, List.sum_cons] at h2
  omega
theorem SmD.big {s : ByteArray} (h : s.size ≤ 200000) : SmD ⟨[⟨⟨#[98, 105, 103]⟩, s⟩], [⟨⟨#[98, 105, 103]⟩, s⟩], []⟩ 300 := by
  have e : szL Fz.sz [(⟨⟨#[98, 105, 103]⟩, s⟩ : Fz)] = 1 + (3 + s.size) := by
    unfold szL
    simp only [List.length_cons, List.length_nil, List.map_cons, List.map_nil, List.sum_cons, List.sum_nil]
    rfl
  exact ⟨by rw [e]; omega, by rw [e]; omega, by simp [szL]⟩
theorem SmD.sync {x : Dz} {m : Nat} (h : SmD x m) : SmD (syncD x) m := by
  unfold syncD
  split
  · exact ⟨h.1, h.1, by simp [szL]⟩
  · exact SmD.nil m
theorem SmD.act {x : Dz} {m : Nat} (h : SmD x m) (o : Oz) : SmD (actDo x o) (m + 1 + o.sz) := by
  unfold actDo
  split
  · unfold actD
    split
    · rename_i hc
      refine ⟨Nat.le_trans (szL_files (codeD_zero hc)) (by omega), Nat.le_trans h.2.1 (by omega), ?_⟩
      have := h.2.2
      unfold szL at this ⊢
      simp only [List.length_append, List.map_append, List.sum_append, List.length_cons, List.length_nil, List.map_cons, List.map_nil, List.sum_cons, List.sum_nil]
      omega
    · exact h.mono (by omega)
  · exact SmD.nil _

def isBetween (lo hi : Nat) (v : Value) (_ : World) : Prop := ∃ n : Nat, v = .int .i64 n ∧ lo ≤ n ∧ n ≤ hi

set_option maxHeartbeats 400000 in
theorem rdSize310 (w : World) (R : Nat) (a : Option Addr) (len cap : Nat) (zs : List Int) (h : Rdr w R a len cap zs) :
    Calls Try.prog 77 #[.pointer (some ⟨R, 0, none⟩), .int .i64 3, .int .i64 10] w (Drew R a len cap zs (isBetween 1 10) w) := by
  have hc0 := h.code
  have hlen := h.row.len_le
  have hdv : IntKind.i64.wrap ((len : Int).tdiv 3) = (len : Int).tdiv 3 := by
    rw [IntKind.wrap_i64, Int.tdiv_eq_ediv_of_nonneg (by omega)]; omega
  have hdv2 : (len : Int).tdiv 3 = ((len / 3 : Nat) : Int) := by rw [Int.tdiv_eq_ediv_of_nonneg (by omega)]; omega
  by_cases hl : len / 3 ≤ 9
  · have g1 : ((1 : Int) + ((len / 3 : Nat) : Int)) ≤ 10 := by omega
    go_enter Try.func77, Try.ntmps77
    go_wp2_with fail
    refine (rdBelow _ w R a len cap zs h).mono ?_
    rintro e w' ⟨v, rfl, ⟨x, rfl, x0, x1⟩, hb, hr⟩
    obtain ⟨n, rfl⟩ : ∃ n : Nat, x = n := ⟨x.toNat, by omega⟩
    have hn : n ≤ 9 := by omega
    go_wp2_with fail
    go_ret
    exact ⟨_, rfl, ⟨n + 1, by go_num, by omega, by omega⟩, hb, hr⟩
  · have g1 : ¬ ((1 : Int) + ((len / 3 : Nat) : Int)) ≤ 10 := by omega
    go_enter Try.func77, Try.ntmps77
    go_wp2_with fail
    refine (rdBelow _ w R a len cap zs h).mono ?_
    rintro e w' ⟨v, rfl, ⟨x, rfl, x0, x1⟩, hb, hr⟩
    obtain ⟨n, rfl⟩ : ∃ n : Nat, x = n := ⟨x.toNat, by omega⟩
    have hn : n ≤ 9 := by omega
    go_wp2_with fail
    go_ret
    exact ⟨_, rfl, ⟨n + 1, by go_num, by omega, by omega⟩, hb, hr⟩

def isDop (v : Value) (_ : World) : Prop := ∃ o : Oz, v = .agg #[.int .i64 o.kind, .string o.name, .string o.to, .string o.data] ∧ o.sz ≤ 24
theorem infoDOpS : (Try.prog.info? 36).map (·.size) = some 4 := by kernel_rfl

set_option maxRecDepth 100000 in
set_option maxHeartbeats 1000000 in
theorem rdDop (w : World) (R : Nat) (a : Option Addr) (len cap : Nat) (zs : List Int) (h : Rdr w R a len cap zs) :
    Calls Try.prog 54 #[.pointer (some ⟨R, 0, none⟩)] w (Drew R a len cap zs isDop w) := by
  have hlt : R < w.heap.size := cell_lt h.code
  have HI := Lib.hid infoDOpS
  have rb := (Row.new w 36 #[.int .i64 0, .string ⟨#[]⟩, .string ⟨#[]⟩, .string ⟨#[]⟩]).alloc (.cells #[.string ⟨#[108, 111, 103]⟩, .string ⟨#[98, 97, 115, 101]⟩, .string ⟨#[98, 97, 115, 101, 46, 110, 101, 119]⟩, .string ⟨#[98]⟩] 9)
  go_enter Try.func54, Try.ntmps54
  go_wp2_with fail
  refine (rdBelow _ _ R a len cap zs ((h.alloc _).alloc _)).mono ?_
  rintro e w2 ⟨v, rfl, ⟨y, rfl, y0, y1⟩, hb2, hr2⟩
  have hb := (((But.refl R w).alloc _).alloc _).trans hb2
  have rb := rb.butR hb2 (by omega)
  obtain ⟨j, rfl, hj⟩ := below_nat y0 y1 (by omega)
  have hj' : j < 4 := by omega
  have hcj := new_cell hb2 (by simp; omega) j (by simpa using hj')
  obtain ⟨s, es, hs12⟩ := short_str (xs := [Value.string ⟨#[108, 111, 103]⟩, .string ⟨#[98, 97, 115, 101]⟩, .string ⟨#[98, 97, 115, 101, 46, 110, 101, 119]⟩, .string ⟨#[98]⟩]) (by simp; decide) (j := j) (by simpa using hj')
  simp only [List.getElem_toArray, es, heap_size_alloc1] at hcj
  clear hb2 es y0 y1
  go_wp2_with fail
  refine (rdBelow _ _ R a len cap zs hr2).mono ?_
  rintro e w3 ⟨v, rfl, ⟨y, rfl, y0, y1⟩, hb3, hr3⟩
  have hlt3 : R < w3.heap.size := cell_lt hr3.code
  have hbz := hb.trans hb3
  have rb := rb.butR hb3 (by omega)
  clear hcj hb hb3 hr2
  rcases (show y = 0 ∨ y = 1 ∨ (y ≠ 0 ∧ y ≠ 1) by omega) with rfl | rfl | ⟨q0, q1⟩
  · go_wp2_with fail
    refine (rdBelow _ _ R a len cap zs (hr3.alloc _)).mono ?_
    rintro e w4 ⟨v, rfl, ⟨y, rfl, y0, y1⟩, hb4, hr4⟩
    have rb := (rb.alloc (.cells #[.string ⟨#[108, 111, 103]⟩, .string ⟨#[98, 97, 115, 101]⟩, .string ⟨#[99]⟩] 9)).butR hb4 (by omega)
    have hb := (hbz.alloc _).trans hb4
    obtain ⟨k, rfl, hk⟩ := below_nat y0 y1 (by omega)
    have hk' : k < 3 := by omega
    have hck := new_cell hb4 hlt3 k (by simpa using hk')
    obtain ⟨t, et, ht12⟩ := short_str (xs := [Value.string ⟨#[108, 111, 103]⟩, .string ⟨#[98, 97, 115, 101]⟩, .string ⟨#[99]⟩]) (by simp; decide) (j := k) (by simpa using hk')
    simp only [List.getElem_toArray, et] at hck
    obtain ⟨⟨r0, r1, r2, r3⟩, ⟨f0, f1, f2, f3⟩⟩ := rb.all4
    clear hb4 et y0 y1 hr3 hbz
    go_wp2_with fail
    have hr9 := Row.set (Row.set (Row.set (Row.set (rb) 0 (.int .i64 2)) 1 (.string s)) 2 (.string t)) 3 (.string ⟨#[]⟩)
    exact bodyPost_ret (results_cell_row (p := 2) (ty := 36) rfl _ _ w.heap.size 36 #[.int .i64 2, .string s, .string t, .string ⟨#[]⟩] (0, 0) _ rfl hr9 Try.underlying36 rfl HI.out) rfl ⟨_, rfl, ⟨⟨2, s, t, ⟨#[]⟩⟩, rfl, by unfold Oz.sz; have : (⟨#[]⟩ : ByteArray).size = 0 := rfl; simp only; omega⟩, ((((hb).setNew (Nat.le_refl _) _).setNew (Nat.le_refl _) _).setNew (Nat.le_refl _) _).setNew (Nat.le_refl _) _, h.setNew (h.setNew (h.setNew (h.setNew (hr4) (Nat.le_refl _) _) (Nat.le_refl _) _) (Nat.le_refl _) _) (Nat.le_refl _) _⟩
  · obtain ⟨⟨r0, r1, r2, r3⟩, ⟨f0, f1, f2, f3⟩⟩ := rb.all4
    go_wp2_with fail
    have hr9 := Row.set (Row.set (Row.set (Row.set (rb) 0 (.int .i64 3)) 1 (.string s)) 2 (.string ⟨#[]⟩)) 3 (.string ⟨#[]⟩)
    exact bodyPost_ret (results_cell_row (p := 2) (ty := 36) rfl _ _ w.heap.size 36 #[.int .i64 3, .string s, .string ⟨#[]⟩, .string ⟨#[]⟩] (0, 0) _ rfl hr9 Try.underlying36 rfl HI.out) rfl ⟨_, rfl, ⟨⟨3, s, ⟨#[]⟩, ⟨#[]⟩⟩, rfl, by unfold Oz.sz; have : (⟨#[]⟩ : ByteArray).size = 0 := rfl; simp only; omega⟩, ((((hbz).setNew (Nat.le_refl _) _).setNew (Nat.le_refl _) _).setNew (Nat.le_refl _) _).setNew (Nat.le_refl _) _, h.setNew (h.setNew (h.setNew (h.setNew (hr3) (Nat.le_refl _) _) (Nat.le_refl _) _) (Nat.le_refl _) _) (Nat.le_refl _) _⟩
  · go_wp2_with fail
    refine (rdText _ R a len cap zs hr3).mono ?_
    rintro e w4 ⟨v, rfl, ⟨t, rfl, ht⟩, hb4, hr4⟩
    have rb := rb.butR hb4 (by omega)
    have hb := hbz.trans hb4
    obtain ⟨⟨r0, r1, r2, r3⟩, ⟨f0, f1, f2, f3⟩⟩ := rb.all4
    clear hb4 hr3 hbz
    go_wp2_with fail
    have hr9 := Row.set (Row.set (Row.set (Row.set (rb) 0 (.int .i64 1)) 1 (.string s)) 2 (.string ⟨#[]⟩)) 3 (.string t)
    exact bodyPost_ret (results_cell_row (p := 2) (ty := 36) rfl _ _ w.heap.size 36 #[.int .i64 1, .string s, .string ⟨#[]⟩, .string t] (0, 0) _ rfl hr9 Try.underlying36 rfl HI.out) rfl ⟨_, rfl, ⟨⟨1, s, ⟨#[]⟩, t⟩, rfl, by unfold Oz.sz; have : (⟨#[]⟩ : ByteArray).size = 0 := rfl; simp only; omega⟩, ((((hb).setNew (Nat.le_refl _) _).setNew (Nat.le_refl _) _).setNew (Nat.le_refl _) _).setNew (Nat.le_refl _) _, h.setNew (h.setNew (h.setNew (h.setNew (hr4) (Nat.le_refl _) _) (Nat.le_refl _) _) (Nat.le_refl _) _) (Nat.le_refl _) _⟩
end Go.Proofs.Ytkinegapnknhiaa
namespace Go.Proofs.Ytkinegapnknhiaa
open Go.RowKit
set_option linter.unusedVariables false
set_option linter.unusedSimpArgs false

/-- The drawing on its way: an own disk in the box behind the answer's, a reader. -/
def DkW (w wr : World) (R : Nat) (a : Option Addr) (len cap : Nat) (zs : List Int) (m : Nat) : Prop :=
  ∃ (v0 v1 v2 : Value) (x : Dz), Row wr (w.heap.size + 1) 27 #[v0, v1, v2] ∧ DzA wr (w.heap.size + 2) (.agg #[v0, v1, v2]) x ∧ SmD x m ∧ Row wr w.heap.size 27 #[.slice none 0 0, .slice none 0 0, .slice none 0 0] ∧ But R w wr ∧ Rdr wr R a len cap zs
theorem DkW.but {w wr w' : World} {R : Nat} {a : Option Addr} {len cap : Nat} {zs : List Int} {m : Nat} (h : DkW w wr R a len cap zs m) (hR : R < w.heap.size) (hb : But R wr w') (hr : Rdr w' R a len cap zs) : DkW w w' R a len cap zs m := by
  obtain ⟨v0, v1, v2, x, h1, h2, h3, h4, h5, -⟩ := h
  exact ⟨v0, v1, v2, x, h1.butR hb (by omega), h2.butR hb (by omega), h3, h4.butR hb (by omega), h5.trans hb, hr⟩
theorem DkW.rdr {w wr : World} {R : Nat} {a : Option Addr} {len cap : Nat} {zs : List Int} {m : Nat} (h : DkW w wr R a len cap zs m) : Rdr wr R a len cap zs := by obtain ⟨_, _, _, _, _, _, _, _, _, h⟩ := h; exact h
theorem DkW.size {w wr : World} {R : Nat} {a : Option Addr} {len cap : Nat} {zs : List Int} {m : Nat} (h : DkW w wr R a len cap zs m) : w.heap.size + 2 ≤ wr.heap.size := by obtain ⟨_, _, _, _, h, _⟩ := h; have := lt_of_block h; omega
/-- Another disk into the box. -/
theorem DkW.put {w wr w' : World} {R : Nat} {a : Option Addr} {len cap : Nat} {zs : List Int} {m m' : Nat} (h : DkW w wr R a len cap zs m) (hR : Rdr w R a len cap zs) (hb : But R wr w') (hr : Rdr w' R a len cap zs) {v0 v1 v2 : Value} {x : Dz} (hd : DzA w' (w.heap.size + 2) (.agg #[v0, v1, v2]) x) (hs : SmD x m') :
    DkW w (((w'.setCell ⟨w.heap.size + 1, 0, none⟩ v0).setCell ⟨w.heap.size + 1, 1, none⟩ v1).setCell ⟨w.heap.size + 1, 2, none⟩ v2) R a len cap zs m' := by
  have hlt : R < w.heap.size := cell_lt hR.code
  obtain ⟨u0, u1, u2, y, h1, h2, h3, h4, h5, -⟩ := h
  refine ⟨v0, v1, v2, x, (((h1.butR hb (by omega)).set 0 v0).set 1 v1).set 2 v2, ((hd.set (Nat.lt_succ_self _) _).set (Nat.lt_succ_self _) _).set (Nat.lt_succ_self _) _, hs, (((h4.butR hb (by omega)).far (by simp) _).far (by simp) _).far (by simp) _, (((h5.trans hb).setNew (Nat.le_succ _) _).setNew (Nat.le_succ _) _).setNew (Nat.le_succ _) _, hR.setNew (hR.setNew (hR.setNew hr (Nat.le_succ _) _) (Nat.le_succ _) _) (Nat.le_succ _) _⟩
/-- A disk whose cells can be read, all in blocks from base on. -/
def ReadsO (base : Nat) (w : World) (v0 v1 v2 : Value) (x : Dz) : Prop := ∃ (A0 : Option Addr) (n0 c0 : Nat) (A1 : Option Addr) (n1 c1 : Nat) (A2 : Option Addr) (n2 c2 : Nat), v0 = .slice A0 n0 c0 ∧ v1 = .slice A1 n1 c1 ∧ v2 = .slice A2 n2 c2 ∧ Sl FzR 2 (fun b => base ≤ b) w A0 n0 x.live ∧ Sl FzR 2 (fun b => base ≤ b) w A1 n1 x.safe ∧ Sl OzR 4 (fun b => base ≤ b) w A2 n2 x.ops
theorem ReadsO.set {base : Nat} {w : World} {v0 v1 v2 : Value} {x : Dz} (h : ReadsO base w v0 v1 v2 x) {p : Addr} (hp : p.block < base) (v : Value) : ReadsO base (w.setCell p v) v0 v1 v2 x := by
  obtain ⟨A0, n0, c0, A1, n1, c1, A2, n2, c2, e0, e1, e2, s0, s1, s2⟩ := h
  exact ⟨A0, n0, c0, A1, n1, c1, A2, n2, c2, e0, e1, e2, s0.set FzR.stays (fun b hb e => by omega) v, s1.set FzR.stays (fun b hb e => by omega) v, s2.set OzR.stays (fun b hb e => by omega) v⟩
theorem ReadsO.butR {base R : Nat} {w w' : World} {v0 v1 v2 : Value} {x : Dz} (h : ReadsO base w v0 v1 v2 x) (hb : But R w w') (hR : R < base) : ReadsO base w' v0 v1 v2 x := by
  obtain ⟨A0, n0, c0, A1, n1, c1, A2, n2, c2, e0, e1, e2, s0, s1, s2⟩ := h
  exact ⟨A0, n0, c0, A1, n1, c1, A2, n2, c2, e0, e1, e2, s0.stays FzR.stays (fun _ h => h) (fun p v hp hv => (hb.cell (cell_lt hv) (by omega)).trans hv), s1.stays FzR.stays (fun _ h => h) (fun p v hp hv => (hb.cell (cell_lt hv) (by omega)).trans hv), s2.stays OzR.stays (fun _ h => h) (fun p v hp hv => (hb.cell (cell_lt hv) (by omega)).trans hv)⟩
theorem ReadsO.reads {base : Nat} {w : World} {v0 v1 v2 : Value} {x : Dz} (h : ReadsO base w v0 v1 v2 x) : ReadsD w v0 v1 v2 x := by
  obtain ⟨A0, n0, c0, A1, n1, c1, A2, n2, c2, e0, e1, e2, s0, s1, s2⟩ := h
  exact ⟨A0, n0, c0, A1, n1, c1, A2, n2, c2, e0, e1, e2, s0.stays FzR.stays (fun _ _ => trivial) (fun _ _ _ h => h), s1.stays FzR.stays (fun _ _ => trivial) (fun _ _ _ h => h), s2.stays OzR.stays (fun _ _ => trivial) (fun _ _ _ h => h)⟩
theorem ReadsO.mono {base base' : Nat} {w : World} {v0 v1 v2 : Value} {x : Dz} (h : ReadsO base w v0 v1 v2 x) (hb : base' ≤ base) : ReadsO base' w v0 v1 v2 x := by
  obtain ⟨A0, n0, c0, A1, n1, c1, A2, n2, c2, e0, e1, e2, s0, s1, s2⟩ := h
  exact ⟨A0, n0, c0, A1, n1, c1, A2, n2, c2, e0, e1, e2, s0.stays FzR.stays (fun _ h => Nat.le_trans hb h) (fun _ _ _ h => h), s1.stays FzR.stays (fun _ h => Nat.le_trans hb h) (fun _ _ _ h => h), s2.stays OzR.stays (fun _ h => Nat.le_trans hb h) (fun _ _ _ h => h)⟩
/-- Own lists, each for itself. -/
theorem readsO_own {base : Nat} {w : World} {v0 v1 v2 : Value} {x : Dz} (k0 : OwnZ w base v0 x.live) (k1 : OwnZ w base v1 x.safe) (k2 : OwnO w base v2 x.ops) : ReadsO base w v0 v1 v2 x := by
  obtain ⟨A0, c0, e0, -, -, s0⟩ := k0.sl
  obtain ⟨A1, c1, e1, -, -, s1⟩ := k1.sl
  obtain ⟨A2, c2, e2, -, -, s2⟩ := k2.sl
  exact ⟨A0, _, c0, A1, _, c1, A2, _, c2, e0, e1, e2, s0.stays FzR.stays (fun _ h => h.1) (fun _ _ _ h => h), s1.stays FzR.stays (fun _ h => h.1) (fun _ _ _ h => h), s2.stays OzR.stays (fun _ h => h.1) (fun _ _ _ h => h)⟩
theorem DzA.readsO {w : World} {base : Nat} {v0 v1 v2 : Value} {x : Dz} (h : DzA w base (.agg #[v0, v1, v2]) x) : ReadsO base w v0 v1 v2 x := by
  obtain ⟨u0, u1, u2, e, k0, k1, k2, -⟩ := h
  injection e with e; injection e with e
  injection e with ea e; injection e with eb e; injection e with ec e
  subst ea eb ec
  exact readsO_own k0 k1 k2
theorem Sl.tailD {α : Type} {R : Rd α} {sz : Nat} {ok : Nat → Prop} {w : World} {b off n : Nat} {x : α} {xs : List α} (h : Sl R sz ok w (some ⟨b, off, none⟩) (n + 1) (x :: xs)) : Sl R sz ok w (some ⟨b, off + sz, none⟩) n xs := by
  refine ⟨by have := h.1; simpa using this, fun hn => ?_⟩
  obtain ⟨b', off', e, hob, hcs⟩ := h.2 (by omega)
  injection e with e
  injection e with e1 e2 e3
  subst e1 e2
  refine ⟨b, off + sz, rfl, hob, fun i hi => ?_⟩
  obtain ⟨cs, h1, h2, h3⟩ := hcs (i + 1) (by simpa using hi)
  refine ⟨cs, h1, h2, fun j v hj => ?_⟩
  have := h3 j v hj
  rw [show off + (i + 1) * sz + j = off + sz + i * sz + j by rw [Nat.succ_mul]; omega] at this
  exact this
/-- What is at hand at the end: a disk in the box that can be read. -/
def DkE (w wr : World) (R : Nat) (a : Option Addr) (len cap : Nat) (zs : List Int) : Prop :=
  ∃ (v0 v1 v2 : Value) (x : Dz), Row wr (w.heap.size + 1) 27 #[v0, v1, v2] ∧ ReadsO (w.heap.size + 2) wr v0 v1 v2 x ∧ SmD x 300 ∧ Row wr w.heap.size 27 #[.slice none 0 0, .slice none 0 0, .slice none 0 0] ∧ But R w wr ∧ Rdr wr R a len cap zs
/-- A disk that can be read, of bounded size, in blocks from base on. -/
def isDk (base : Nat) (v : Value) (w : World) : Prop := ∃ (v0 v1 v2 : Value) (x : Dz), v = .agg #[v0, v1, v2] ∧ ReadsO base w v0 v1 v2 x ∧ SmD x 300
theorem DkW.fin {w wr : World} {R : Nat} {a : Option Addr} {len cap : Nat} {zs : List Int} {m : Nat} (h : DkW w wr R a len cap zs m) (hm : m ≤ 300) : DkE w wr R a len cap zs := by
  obtain ⟨v0, v1, v2, x, h1, h2, h3, h4, h5, h6⟩ := h
  exact ⟨v0, v1, v2, x, h1, h2.readsO, h3.mono hm, h4, h5, h6⟩
theorem DkE.setD {w wr : World} {R : Nat} {a : Option Addr} {len cap : Nat} {zs : List Int} (H0 : Rdr w R a len cap zs) (hb : But R w wr) (hr : Rdr wr R a len cap zs) {cs : Array Value} {T : TypeId} (h4 : Row wr w.heap.size T cs) (j : Nat) (u : Value) :
    But R w (wr.setCell ⟨w.heap.size + 1, j, none⟩ u) ∧ Rdr (wr.setCell ⟨w.heap.size + 1, j, none⟩ u) R a len cap zs ∧ Row (wr.setCell ⟨w.heap.size + 1, j, none⟩ u) w.heap.size T cs :=
  ⟨hb.setNew (Nat.le_succ _) _, H0.setNew hr (Nat.le_succ _) _, h4.far (by simp) _⟩
theorem OwnB.made (w : World) (m : Nat) (hm : m ≤ 1048576) : OwnB (w.alloc (.cells (madeCells #[.int .u8 0] m) 5)) w.heap.size (.slice (some ⟨w.heap.size, 0, none⟩) m m) (List.replicate m 0) := by
  have hz2 : (madeCells #[.int .u8 0] m).toList = (List.replicate m (0 : Int)).map (Value.int .u8) := by
    rw [List.map_replicate]
    refine List.ext_getElem (by simp [madeCells]) fun i h1 h2 => ?_
    simp [madeCells, Nat.mod_one]
  unfold OwnB
  rw [List.length_replicate]
  refine ⟨by simp, .inr ⟨w.heap.size, m, _, rfl, Nat.le_refl _, Go.heap_alloc_last w _, Nat.le_refl _, by unfold maxLen; omega, by rw [size_madeCells]; omega, ?_⟩⟩
  rw [hz2, List.take_of_length_le (by simp)]

set_option maxRecDepth 100000 in
set_option maxHeartbeats 4000000 in
theorem rdDisk (w : World) (R : Nat) (a : Option Addr) (len cap : Nat) (zs : List Int) (h : Rdr w R a len cap zs) :
    Calls Try.prog 40 #[.pointer (some ⟨R, 0, none⟩)] w (Drew R a len cap zs (isDk w.heap.size) w) := by
  have hlt : R < w.heap.size := cell_lt h.code
  have H0 := Lib.hid h
  have HI := Lib.hid infoDisk
  have rb := (Row.new w 27 #[.slice none 0 0, .slice none 0 0, .slice none 0 0]).alloc (.cells #[.slice none 0 0, .slice none 0 0, .slice none 0 0] 27)
  have rd := Row.newAt (w.alloc (.cells #[.slice none 0 0, .slice none 0 0, .slice none 0 0] 27)) 27 #[.slice none 0 0, .slice none 0 0, .slice none 0 0] (w.heap.size + 1) (by simp)
  have hp0 : DkW w ((w.alloc (.cells #[.slice none 0 0, .slice none 0 0, .slice none 0 0] 27)).alloc (.cells #[.slice none 0 0, .slice none 0 0, .slice none 0 0] 27)) R a len cap zs 0 := ⟨_, _, _, ⟨[], [], []⟩, rd, DzA.nil _ _, SmD.nil 0, rb, ((But.refl R w).alloc _).alloc _, (h.alloc _).alloc _⟩
  clear rb rd
  go_enter Try.func40, Try.ntmps40
  go_wp2_with fail
  generalize (w.alloc (.cells #[.slice none 0 0, .slice none 0 0, .slice none 0 0] 27)).alloc (.cells #[.slice none 0 0, .slice none 0 0, .slice none 0 0] 27) = z0 at *
  refine (rdSize310 _ R a len cap zs hp0.rdr).mono ?_
  rintro e w1 ⟨v, rfl, ⟨n, rfl, n0, n1⟩, hb, hr⟩
  have HW := Lib.hid (hp0.but hlt hb hr)
  clear hp0 hb hr
  go_wp2_with fail
  go_loopw [4] (fun i wr => ∃ (k : Nat), k ≤ 10 ∧ i = .int .i64 k ∧ Hid (DkW w wr R a len cap zs (25 * (10 - k)))) (fun i _ => (intOf i).toNat)
  case atStart => exact ⟨n, n1, rfl, Lib.hid (by obtain ⟨v0, v1, v2, x, h1, h2, h3, h4⟩ := HW.out; exact ⟨v0, v1, v2, x, h1, h2, h3.mono (Nat.zero_le _), h4⟩)⟩
  case round =>
    obtain ⟨k, hk, rfl, HW⟩ := hrel
    by_cases h0 : 0 < k
    · have g0 : (0 : Int) < k := by omega
      go_wp2_with fail
      refine (rdOnce 5 _ R a len cap zs HW.out.rdr).mono ?_
      rintro e w2 ⟨v, rfl, ⟨b, rfl⟩, hb, hr⟩
      have HW2 := Lib.hid (HW.out.but hlt hb hr)
      clear HW hb hr
      obtain ⟨v0, v1, v2, x, h1, h2, h3, h4, h5, h6⟩ := HW2.out
      have HSZ := Lib.hid (h3.sz (by omega))
      have hsz2 := HW2.out.size
      have HS3 := Lib.hid h3
      obtain ⟨A0, n0', c0, A1, n1', c1, A2, n2', c2, rfl, rfl, rfl, t0, t1, t2⟩ := h2.reads
      obtain ⟨⟨p0, p1, p2⟩, ⟨q0, q1, q2⟩⟩ := h1.three
      have T := Lib.hid (h2.readsBut (R := R) (by omega))
      clear h1 h2 h3 h4 h5 h6
      cases b
      · go_upto_region 7 with fail
        go_cut [5, 6] from 18 to 25 (fun s5 s6 wx => ∃ (g : Nat) (u0 u1 u2 : Value) (kc : Int), s5 = .pointer (some ⟨g, 0, none⟩) ∧ s6 = .int .i64 kc ∧ Row wx g 27 #[u0, u1, u2] ∧ g ≠ w.heap.size + 1 ∧ But R w2 wx ∧ Rdr wx R a len cap zs ∧ ∃ y : Dz, DzA wx (w.heap.size + 2) (.agg #[u0, u1, u2]) y ∧ SmD y (25 * (10 - (k - 1))))
        case first =>
          have hc0 : But R w2 w2.drew := (But.refl R w2).drew
          have hr0 : Rdr w2.drew R a len cap zs := ⟨HW2.out.rdr.code, HW2.out.rdr.place, HW2.out.rdr.free, HW2.out.rdr.row, HW2.out.rdr.apart⟩
          have kc0 : w2.drew.cell? ⟨w.heap.size + 1, 0, none⟩ = some (.slice A0 n0' c0) ∧ w2.drew.cell? ⟨w.heap.size + 1, 1, none⟩ = some (.slice A1 n1' c1) ∧ w2.drew.cell? ⟨w.heap.size + 1, 2, none⟩ = some (.slice A2 n2' c2) := ⟨p0, p1, p2⟩
          refine wp_region_noPanic ?_
          refine wp_region_held_drew (S := (fun w' => w'.cell? ⟨w.heap.size + 1, 0, none⟩ = some (.slice A0 n0' c0) ∧ w'.cell? ⟨w.heap.size + 1, 1, none⟩ = some (.slice A1 n1' c1) ∧ w'.cell? ⟨w.heap.size + 1, 2, none⟩ = some (.slice A2 n2' c2))) (by kernel_rfl) ⟨p0, p1, p2⟩ (fun hHeld => ?_)
          generalize w2.drew = u0 at *
          refine wpAnyH_take (i := 0) (v := ?v1) rfl (by kernel_rfl) (by kernel_rfl) (by kernel_rfl) (fun _ _ _ h => h) (Or.inl ⟨by rfl, ?hy1⟩) hHeld ?rest1
          case hy1 => (intro w' hSw; (try dsimp only at hSw); first | (go_simp; done) | (go_simp; with_reducible rfl))
          simp only [Act.put, List.getElem_toArray, List.getElem_cons_zero, List.getElem_cons_succ, List.setIfInBounds_toArray, List.set_cons_zero, List.set_cons_succ]
          refine wpAnyH_take (i := 1) (v := ?v2) rfl (by kernel_rfl) (by kernel_rfl) (by kernel_rfl) (fun _ _ _ h => h) (Or.inl ⟨by rfl, ?hy2⟩) hHeld ?rest2
          case hy2 => (intro w' hSw; (try dsimp only at hSw); first | (go_simp; done) | (go_simp; with_reducible rfl))
          simp only [Act.put, List.getElem_toArray, List.getElem_cons_zero, List.getElem_cons_succ, List.setIfInBounds_toArray, List.set_cons_zero, List.set_cons_succ]
          refine wpAnyH_ready (rs := [2, 7]) (by kernel_rfl) (by simp) ?_
          refine AllReadyH.cons rfl (fun K hK => ?_) ?_
          · go_simp
            go_at_call 54
            refine (rdDop u0 R a len cap zs hr0).mono ?_
            rintro e u1 ⟨v, rfl, ⟨o, rfl, ho⟩, hq, hr1⟩
            have kc1 : u1.cell? ⟨w.heap.size + 1, 0, none⟩ = some (.slice A0 n0' c0) ∧ u1.cell? ⟨w.heap.size + 1, 1, none⟩ = some (.slice A1 n1' c1) ∧ u1.cell? ⟨w.heap.size + 1, 2, none⟩ = some (.slice A2 n2' c2) := ⟨(hq.cell (p := ⟨w.heap.size + 1, 0, none⟩) (by have := HW2.out.size; have := hc0.size; simp only; omega) (by simp only; omega)).trans kc0.1, (hq.cell (p := ⟨w.heap.size + 1, 1, none⟩) (by have := HW2.out.size; have := hc0.size; simp only; omega) (by simp only; omega)).trans kc0.2.1, (hq.cell (p := ⟨w.heap.size + 1, 2, none⟩) (by have := HW2.out.size; have := hc0.size; simp only; omega) (by simp only; omega)).trans kc0.2.2⟩
            have hc1 := hc0.trans hq
            clear hq
            refine hK.out _ _ kc1 (fun hHeld => ?_)
            clear hK K
            (try simp only [Act.put, List.getElem_toArray, List.getElem_cons_zero, List.getElem_cons_succ, List.setIfInBounds_toArray, List.set_cons_zero, List.set_cons_succ])
            refine wpAnyH_ready (rs := [3, 7]) (by kernel_rfl) (by simp) ?_
            refine AllReadyH.cons rfl (fun K hK => ?_) ?_
            · go_simp
              go_at_call 21
              refine (specDo x o A0 n0' c0 A1 n1' c1 A2 n2' c2 _ _ (T.out u1 hc1).1 (T.out u1 hc1).2.1 (T.out u1 hc1).2.2 HSZ.out (by have := ho; unfold Oz.sz at this; omega)).mono ?_
              rintro e u2 ⟨⟨v, rfl, hD⟩, hq⟩
              have hr2 := rdr_belowD hr1 hq
              have hq := below_butD hq R
              have hD := hD.mono (base' := w.heap.size + 2) (by have := HW2.out.size; have := hc1.size; omega)
              have kc2 : u2.cell? ⟨w.heap.size + 1, 0, none⟩ = some (.slice A0 n0' c0) ∧ u2.cell? ⟨w.heap.size + 1, 1, none⟩ = some (.slice A1 n1' c1) ∧ u2.cell? ⟨w.heap.size + 1, 2, none⟩ = some (.slice A2 n2' c2) := ⟨(hq.cell (p := ⟨w.heap.size + 1, 0, none⟩) (by have := HW2.out.size; have := hc1.size; simp only; omega) (by simp only; omega)).trans kc1.1, (hq.cell (p := ⟨w.heap.size + 1, 1, none⟩) (by have := HW2.out.size; have := hc1.size; simp only; omega) (by simp only; omega)).trans kc1.2.1, (hq.cell (p := ⟨w.heap.size + 1, 2, none⟩) (by have := HW2.out.size; have := hc1.size; simp only; omega) (by simp only; omega)).trans kc1.2.2⟩
              have hc2 := hc1.trans hq
              clear hq
              obtain ⟨v0, v1, v2, rfl, k0, k1, k2, -⟩ := id hD
              obtain ⟨B0, m0, d0, rfl⟩ := k0.len
              obtain ⟨B1, m1, d1, rfl⟩ := k1.len
              obtain ⟨B2, m2, d2, rfl⟩ := k2.len
              clear k0 k1 k2
              refine hK.out _ _ kc2 (fun hHeld => ?_)
              clear hK K
              (try simp only [Act.put, List.getElem_toArray, List.getElem_cons_zero, List.getElem_cons_succ, List.setIfInBounds_toArray, List.set_cons_zero, List.set_cons_succ])
              refine wpAnyH_take (i := 4) (v := ?v3) rfl (by kernel_rfl) (by kernel_rfl) (by kernel_rfl) (fun _ _ _ h => h) (Or.inl ⟨by rfl, ?hy3⟩) hHeld ?rest3
              case hy3 => (intro w' hSw; (try dsimp only at hSw); first | (go_simp; done) | (go_simp; with_reducible rfl))
              simp only [Act.put, List.getElem_toArray, List.getElem_cons_zero, List.getElem_cons_succ, List.setIfInBounds_toArray, List.set_cons_zero, List.set_cons_succ]
              refine wpAnyH_take (i := 5) (v := ?v4) rfl (by kernel_rfl) (by kernel_rfl) (by kernel_rfl) (fun _ _ _ h => h) (Or.inl ⟨by rfl, ?hy4⟩) hHeld ?rest4
              case hy4 => (intro w' hSw; (try dsimp only at hSw); first | (go_simp; done) | (go_simp; with_reducible rfl))
              simp only [Act.put, List.getElem_toArray, List.getElem_cons_zero, List.getElem_cons_succ, List.setIfInBounds_toArray, List.set_cons_zero, List.set_cons_succ]
              refine wpAnyH_take (i := 6) (v := ?v5) rfl (by kernel_rfl) (by kernel_rfl) (by kernel_rfl) (fun _ _ _ h => h) (Or.inl ⟨by rfl, ?hy5⟩) hHeld ?rest5
              case hy5 => (intro w' hSw; (try dsimp only at hSw); first | (go_simp; done) | (go_simp; with_reducible rfl))
              simp only [Act.put, List.getElem_toArray, List.getElem_cons_zero, List.getElem_cons_succ, List.setIfInBounds_toArray, List.set_cons_zero, List.set_cons_succ]
              refine wpAnyH_ready (rs := [7]) (by kernel_rfl) (by simp) ?_
              refine AllReadyH.cons rfl (fun K hK => ?_) AllReadyH.nil
              go_simp
              have hq : But R u2 (u2.alloc (.cells #[.slice none 0 0, .slice none 0 0, .slice none 0 0] 27)) := (But.refl R _).alloc _
              have hD := hD.butR hq (by omega)
              have hr3 := hr2.alloc (.cells #[.slice none 0 0, .slice none 0 0, .slice none 0 0] 27)
              have rg := Row.new u2 27 #[.slice none 0 0, .slice none 0 0, .slice none 0 0]
              have hg : w2.heap.size ≤ u2.heap.size := hc2.size
              have kc3 : (u2.alloc (.cells #[.slice none 0 0, .slice none 0 0, .slice none 0 0] 27)).cell? ⟨w.heap.size + 1, 0, none⟩ = some (.slice A0 n0' c0) ∧ (u2.alloc (.cells #[.slice none 0 0, .slice none 0 0, .slice none 0 0] 27)).cell? ⟨w.heap.size + 1, 1, none⟩ = some (.slice A1 n1' c1) ∧ (u2.alloc (.cells #[.slice none 0 0, .slice none 0 0, .slice none 0 0] 27)).cell? ⟨w.heap.size + 1, 2, none⟩ = some (.slice A2 n2' c2) := ⟨(hq.cell (p := ⟨w.heap.size + 1, 0, none⟩) (by have := HW2.out.size; have := hc2.size; simp only; omega) (by simp only; omega)).trans kc2.1, (hq.cell (p := ⟨w.heap.size + 1, 1, none⟩) (by have := HW2.out.size; have := hc2.size; simp only; omega) (by simp only; omega)).trans kc2.2.1, (hq.cell (p := ⟨w.heap.size + 1, 2, none⟩) (by have := HW2.out.size; have := hc2.size; simp only; omega) (by simp only; omega)).trans kc2.2.2⟩
              have hc3 := hc2.trans hq
              clear hq
              generalize u2.alloc (.cells #[.slice none 0 0, .slice none 0 0, .slice none 0 0] 27) = u3 at *
              generalize u2.heap.size = g at *
              obtain ⟨⟨r0, r1, r2⟩, ⟨f0, f1, f2⟩⟩ := rg.three
              refine hK.out _ _ kc3 (fun hHeld => ?_)
              clear hK K
              (try simp only [Act.put, List.getElem_toArray, List.getElem_cons_zero, List.getElem_cons_succ, List.setIfInBounds_toArray, List.set_cons_zero, List.set_cons_succ])
              refine wpAnyH_ready (rs := [8]) (by kernel_rfl) (by simp) ?_
              refine AllReadyH.cons rfl (fun K hK => ?_) AllReadyH.nil
              go_simp
              refine hK.out _ _ ⟨cellOff (cellOff (cellOff kc3.1 (show g ≠ w.heap.size + 1 by have := HW2.out.size; omega)) (show g ≠ w.heap.size + 1 by have := HW2.out.size; omega)) (show g ≠ w.heap.size + 1 by have := HW2.out.size; omega), cellOff (cellOff (cellOff kc3.2.1 (show g ≠ w.heap.size + 1 by have := HW2.out.size; omega)) (show g ≠ w.heap.size + 1 by have := HW2.out.size; omega)) (show g ≠ w.heap.size + 1 by have := HW2.out.size; omega), cellOff (cellOff (cellOff kc3.2.2 (show g ≠ w.heap.size + 1 by have := HW2.out.size; omega)) (show g ≠ w.heap.size + 1 by have := HW2.out.size; omega)) (show g ≠ w.heap.size + 1 by have := HW2.out.size; omega)⟩ (fun hHeld => ?_)
              clear hK K
              (try simp only [Act.put, List.getElem_toArray, List.getElem_cons_zero, List.getElem_cons_succ, List.setIfInBounds_toArray, List.set_cons_zero, List.set_cons_succ])
              refine wpAnyH_take (i := 9) (v := ?v6) rfl (by kernel_rfl) (by kernel_rfl) (by kernel_rfl) (fun _ _ _ h => h) (Or.inl ⟨by rfl, ?hy6⟩) hHeld ?rest6
              case hy6 => (intro w' hSw; (try dsimp only at hSw); first | (go_simp; done) | (go_simp; with_reducible rfl))
              simp only [Act.put, List.getElem_toArray, List.getElem_cons_zero, List.getElem_cons_succ, List.setIfInBounds_toArray, List.set_cons_zero, List.set_cons_succ]
              refine wpAnyH_done (by kernel_rfl) ?_ _
              refine NoPanic.normal ?_
              clear hHeld
              go_wp2_with fail
              go_meet
              case rel => exact ⟨g, _, _, _, _, rfl, rfl, ((rg.set 0 _).set 1 _).set 2 _, by have := HW2.out.size; omega, ((hc3.setNew hg _).setNew hg _).setNew hg _, H0.out.setNew (H0.out.setNew (H0.out.setNew hr3 (by have := HW2.out.size; simp only; omega) _) (by have := HW2.out.size; simp only; omega) _) (by have := HW2.out.size; simp only; omega) _, _, ((hD.setRow rg rfl _).setRow (rg.set 0 _) rfl _).setRow ((rg.set 0 _).set 1 _) rfl _, (HS3.out.act o).mono (by omega)⟩
            refine AllReadyH.cons rfl (fun K hK => ?_) AllReadyH.nil
            go_simp
            have hq : But R u1 (u1.alloc (.cells #[.slice none 0 0, .slice none 0 0, .slice none 0 0] 27)) := (But.refl R _).alloc _
            have hr2 := hr1.alloc (.cells #[.slice none 0 0, .slice none 0 0, .slice none 0 0] 27)
            have rg := Row.new u1 27 #[.slice none 0 0, .slice none 0 0, .slice none 0 0]
            have hg : w2.heap.size ≤ u1.heap.size := hc1.size
            have kc2 : (u1.alloc (.cells #[.slice none 0 0, .slice none 0 0, .slice none 0 0] 27)).cell? ⟨w.heap.size + 1, 0, none⟩ = some (.slice A0 n0' c0) ∧ (u1.alloc (.cells #[.slice none 0 0, .slice none 0 0, .slice none 0 0] 27)).cell? ⟨w.heap.size + 1, 1, none⟩ = some (.slice A1 n1' c1) ∧ (u1.alloc (.cells #[.slice none 0 0, .slice none 0 0, .slice none 0 0] 27)).cell? ⟨w.heap.size + 1, 2, none⟩ = some (.slice A2 n2' c2) := ⟨(hq.cell (p := ⟨w.heap.size + 1, 0, none⟩) (by have := HW2.out.size; have := hc1.size; simp only; omega) (by simp only; omega)).trans kc1.1, (hq.cell (p := ⟨w.heap.size + 1, 1, none⟩) (by have := HW2.out.size; have := hc1.size; simp only; omega) (by simp only; omega)).trans kc1.2.1, (hq.cell (p := ⟨w.heap.size + 1, 2, none⟩) (by have := HW2.out.size; have := hc1.size; simp only; omega) (by simp only; omega)).trans kc1.2.2⟩
            have hc2 := hc1.trans hq
            clear hq
            generalize u1.alloc (.cells #[.slice none 0 0, .slice none 0 0, .slice none 0 0] 27) = u2 at *
            generalize u1.heap.size = g at *
            refine hK.out _ _ kc2 (fun hHeld => ?_)
            clear hK K
            (try simp only [Act.put, List.getElem_toArray, List.getElem_cons_zero, List.getElem_cons_succ, List.setIfInBounds_toArray, List.set_cons_zero, List.set_cons_succ])
            refine wpAnyH_ready (rs := [3]) (by kernel_rfl) (by simp) ?_
            refine AllReadyH.cons rfl (fun K hK => ?_) AllReadyH.nil
            go_simp
            go_at_call 21
            refine (specDo x o A0 n0' c0 A1 n1' c1 A2 n2' c2 _ _ (T.out u2 hc2).1 (T.out u2 hc2).2.1 (T.out u2 hc2).2.2 HSZ.out (by have := ho; unfold Oz.sz at this; omega)).mono ?_
            rintro e u3 ⟨⟨v, rfl, hD⟩, hq⟩
            have hr3 := rdr_belowD hr2 hq
            have hq := below_butD hq R
            have rg := rg.butR hq (by omega)
            have hD := hD.mono (base' := w.heap.size + 2) (by have := HW2.out.size; have := hc2.size; omega)
            have kc3 : u3.cell? ⟨w.heap.size + 1, 0, none⟩ = some (.slice A0 n0' c0) ∧ u3.cell? ⟨w.heap.size + 1, 1, none⟩ = some (.slice A1 n1' c1) ∧ u3.cell? ⟨w.heap.size + 1, 2, none⟩ = some (.slice A2 n2' c2) := ⟨(hq.cell (p := ⟨w.heap.size + 1, 0, none⟩) (by have := HW2.out.size; have := hc2.size; simp only; omega) (by simp only; omega)).trans kc2.1, (hq.cell (p := ⟨w.heap.size + 1, 1, none⟩) (by have := HW2.out.size; have := hc2.size; simp only; omega) (by simp only; omega)).trans kc2.2.1, (hq.cell (p := ⟨w.heap.size + 1, 2, none⟩) (by have := HW2.out.size; have := hc2.size; simp only; omega) (by simp only; omega)).trans kc2.2.2⟩
            have hc3 := hc2.trans hq
            clear hq
            obtain ⟨v0, v1, v2, rfl, k0, k1, k2, -⟩ := id hD
            obtain ⟨B0, m0, d0, rfl⟩ := k0.len
            obtain ⟨B1, m1, d1, rfl⟩ := k1.len
            obtain ⟨B2, m2, d2, rfl⟩ := k2.len
            clear k0 k1 k2
            obtain ⟨⟨r0, r1, r2⟩, ⟨f0, f1, f2⟩⟩ := rg.three
            refine hK.out _ _ kc3 (fun hHeld => ?_)
            clear hK K
            (try simp only [Act.put, List.getElem_toArray, List.getElem_cons_zero, List.getElem_cons_succ, List.setIfInBounds_toArray, List.set_cons_zero, List.set_cons_succ])
            refine wpAnyH_take (i := 4) (v := ?v7) rfl (by kernel_rfl) (by kernel_rfl) (by kernel_rfl) (fun _ _ _ h => h) (Or.inl ⟨by rfl, ?hy7⟩) hHeld ?rest7
            case hy7 => (intro w' hSw; (try dsimp only at hSw); first | (go_simp; done) | (go_simp; with_reducible rfl))
            simp only [Act.put, List.getElem_toArray, List.getElem_cons_zero, List.getElem_cons_succ, List.setIfInBounds_toArray, List.set_cons_zero, List.set_cons_succ]
            refine wpAnyH_take (i := 5) (v := ?v8) rfl (by kernel_rfl) (by kernel_rfl) (by kernel_rfl) (fun _ _ _ h => h) (Or.inl ⟨by rfl, ?hy8⟩) hHeld ?rest8
            case hy8 => (intro w' hSw; (try dsimp only at hSw); first | (go_simp; done) | (go_simp; with_reducible rfl))
            simp only [Act.put, List.getElem_toArray, List.getElem_cons_zero, List.getElem_cons_succ, List.setIfInBounds_toArray, List.set_cons_zero, List.set_cons_succ]
            refine wpAnyH_take (i := 6) (v := ?v9) rfl (by kernel_rfl) (by kernel_rfl) (by kernel_rfl) (fun _ _ _ h => h) (Or.inl ⟨by rfl, ?hy9⟩) hHeld ?rest9
            case hy9 => (intro w' hSw; (try dsimp only at hSw); first | (go_simp; done) | (go_simp; with_reducible rfl))
            simp only [Act.put, List.getElem_toArray, List.getElem_cons_zero, List.getElem_cons_succ, List.setIfInBounds_toArray, List.set_cons_zero, List.set_cons_succ]
            refine wpAnyH_ready (rs := [8]) (by kernel_rfl) (by simp) ?_
            refine AllReadyH.cons rfl (fun K hK => ?_) AllReadyH.nil
            go_simp
            refine hK.out _ _ ⟨cellOff (cellOff (cellOff kc3.1 (show g ≠ w.heap.size + 1 by have := HW2.out.size; omega)) (show g ≠ w.heap.size + 1 by have := HW2.out.size; omega)) (show g ≠ w.heap.size + 1 by have := HW2.out.size; omega), cellOff (cellOff (cellOff kc3.2.1 (show g ≠ w.heap.size + 1 by have := HW2.out.size; omega)) (show g ≠ w.heap.size + 1 by have := HW2.out.size; omega)) (show g ≠ w.heap.size + 1 by have := HW2.out.size; omega), cellOff (cellOff (cellOff kc3.2.2 (show g ≠ w.heap.size + 1 by have := HW2.out.size; omega)) (show g ≠ w.heap.size + 1 by have := HW2.out.size; omega)) (show g ≠ w.heap.size + 1 by have := HW2.out.size; omega)⟩ (fun hHeld => ?_)
            clear hK K
            (try simp only [Act.put, List.getElem_toArray, List.getElem_cons_zero, List.getElem_cons_succ, List.setIfInBounds_toArray, List.set_cons_zero, List.set_cons_succ])
            refine wpAnyH_take (i := 9) (v := ?v10) rfl (by kernel_rfl) (by kernel_rfl) (by kernel_rfl) (fun _ _ _ h => h) (Or.inl ⟨by rfl, ?hy10⟩) hHeld ?rest10
            case hy10 => (intro w' hSw; (try dsimp only at hSw); first | (go_simp; done) | (go_simp; with_reducible rfl))
            simp only [Act.put, List.getElem_toArray, List.getElem_cons_zero, List.getElem_cons_succ, List.setIfInBounds_toArray, List.set_cons_zero, List.set_cons_succ]
            refine wpAnyH_done (by kernel_rfl) ?_ _
            refine NoPanic.normal ?_
            clear hHeld
            go_wp2_with fail
            go_meet
            case rel => exact ⟨g, _, _, _, _, rfl, rfl, ((rg.set 0 _).set 1 _).set 2 _, by have := HW2.out.size; omega, ((hc3.setNew hg _).setNew hg _).setNew hg _, H0.out.setNew (H0.out.setNew (H0.out.setNew hr3 (by have := HW2.out.size; simp only; omega) _) (by have := HW2.out.size; simp only; omega) _) (by have := HW2.out.size; simp only; omega) _, _, ((hD.setRow rg rfl _).setRow (rg.set 0 _) rfl _).setRow ((rg.set 0 _).set 1 _) rfl _, (HS3.out.act o).mono (by omega)⟩
          refine AllReadyH.cons rfl (fun K hK => ?_) AllReadyH.nil
          go_simp
          have hq : But R u0 (u0.alloc (.cells #[.slice none 0 0, .slice none 0 0, .slice none 0 0] 27)) := (But.refl R _).alloc _
          have hr1 := hr0.alloc (.cells #[.slice none 0 0, .slice none 0 0, .slice none 0 0] 27)
          have rg := Row.new u0 27 #[.slice none 0 0, .slice none 0 0, .slice none 0 0]
          have hg : w2.heap.size ≤ u0.heap.size := hc0.size
          have kc1 : (u0.alloc (.cells #[.slice none 0 0, .slice none 0 0, .slice none 0 0] 27)).cell? ⟨w.heap.size + 1, 0, none⟩ = some (.slice A0 n0' c0) ∧ (u0.alloc (.cells #[.slice none 0 0, .slice none 0 0, .slice none 0 0] 27)).cell? ⟨w.heap.size + 1, 1, none⟩ = some (.slice A1 n1' c1) ∧ (u0.alloc (.cells #[.slice none 0 0, .slice none 0 0, .slice none 0 0] 27)).cell? ⟨w.heap.size + 1, 2, none⟩ = some (.slice A2 n2' c2) := ⟨(hq.cell (p := ⟨w.heap.size + 1, 0, none⟩) (by have := HW2.out.size; have := hc0.size; simp only; omega) (by simp only; omega)).trans kc0.1, (hq.cell (p := ⟨w.heap.size + 1, 1, none⟩) (by have := HW2.out.size; have := hc0.size; simp only; omega) (by simp only; omega)).trans kc0.2.1, (hq.cell (p := ⟨w.heap.size + 1, 2, none⟩) (by have := HW2.out.size; have := hc0.size; simp only; omega) (by simp only; omega)).trans kc0.2.2⟩
          have hc1 := hc0.trans hq
          clear hq
          generalize u0.alloc (.cells #[.slice none 0 0, .slice none 0 0, .slice none 0 0] 27) = u1 at *
          generalize u0.heap.size = g at *
          refine hK.out _ _ kc1 (fun hHeld => ?_)
          clear hK K
          (try simp only [Act.put, List.getElem_toArray, List.getElem_cons_zero, List.getElem_cons_succ, List.setIfInBounds_toArray, List.set_cons_zero, List.set_cons_succ])
          refine wpAnyH_ready (rs := [2]) (by kernel_rfl) (by simp) ?_
          refine AllReadyH.cons rfl (fun K hK => ?_) AllReadyH.nil
          go_simp
          go_at_call 54
          refine (rdDop u1 R a len cap zs hr1).mono ?_
          rintro e u2 ⟨v, rfl, ⟨o, rfl, ho⟩, hq, hr2⟩
          have rg := rg.butR hq (by omega)
          have kc2 : u2.cell? ⟨w.heap.size + 1, 0, none⟩ = some (.slice A0 n0' c0) ∧ u2.cell? ⟨w.heap.size + 1, 1, none⟩ = some (.slice A1 n1' c1) ∧ u2.cell? ⟨w.heap.size + 1, 2, none⟩ = some (.slice A2 n2' c2) := ⟨(hq.cell (p := ⟨w.heap.size + 1, 0, none⟩) (by have := HW2.out.size; have := hc1.size; simp only; omega) (by simp only; omega)).trans kc1.1, (hq.cell (p := ⟨w.heap.size + 1, 1, none⟩) (by have := HW2.out.size; have := hc1.size; simp only; omega) (by simp only; omega)).trans kc1.2.1, (hq.cell (p := ⟨w.heap.size + 1, 2, none⟩) (by have := HW2.out.size; have := hc1.size; simp only; omega) (by simp only; omega)).trans kc1.2.2⟩
          have hc2 := hc1.trans hq
          clear hq
          refine hK.out _ _ kc2 (fun hHeld => ?_)
          clear hK K
          (try simp only [Act.put, List.getElem_toArray, List.getElem_cons_zero, List.getElem_cons_succ, List.setIfInBounds_toArray, List.set_cons_zero, List.set_cons_succ])
          refine wpAnyH_ready (rs := [3]) (by kernel_rfl) (by simp) ?_
          refine AllReadyH.cons rfl (fun K hK => ?_) AllReadyH.nil
          go_simp
          go_at_call 21
          refine (specDo x o A0 n0' c0 A1 n1' c1 A2 n2' c2 _ _ (T.out u2 hc2).1 (T.out u2 hc2).2.1 (T.out u2 hc2).2.2 HSZ.out (by have := ho; unfold Oz.sz at this; omega)).mono ?_
          rintro e u3 ⟨⟨v, rfl, hD⟩, hq⟩
          have hr3 := rdr_belowD hr2 hq
          have hq := below_butD hq R
          have rg := rg.butR hq (by omega)
          have hD := hD.mono (base' := w.heap.size + 2) (by have := HW2.out.size; have := hc2.size; omega)
          have kc3 : u3.cell? ⟨w.heap.size + 1, 0, none⟩ = some (.slice A0 n0' c0) ∧ u3.cell? ⟨w.heap.size + 1, 1, none⟩ = some (.slice A1 n1' c1) ∧ u3.cell? ⟨w.heap.size + 1, 2, none⟩ = some (.slice A2 n2' c2) := ⟨(hq.cell (p := ⟨w.heap.size + 1, 0, none⟩) (by have := HW2.out.size; have := hc2.size; simp only; omega) (by simp only; omega)).trans kc2.1, (hq.cell (p := ⟨w.heap.size + 1, 1, none⟩) (by have := HW2.out.size; have := hc2.size; simp only; omega) (by simp only; omega)).trans kc2.2.1, (hq.cell (p := ⟨w.heap.size + 1, 2, none⟩) (by have := HW2.out.size; have := hc2.size; simp only; omega) (by simp only; omega)).trans kc2.2.2⟩
          have hc3 := hc2.trans hq
          clear hq
          obtain ⟨v0, v1, v2, rfl, k0, k1, k2, -⟩ := id hD
          obtain ⟨B0, m0, d0, rfl⟩ := k0.len
          obtain ⟨B1, m1, d1, rfl⟩ := k1.len
          obtain ⟨B2, m2, d2, rfl⟩ := k2.len
          clear k0 k1 k2
          obtain ⟨⟨r0, r1, r2⟩, ⟨f0, f1, f2⟩⟩ := rg.three
          refine hK.out _ _ kc3 (fun hHeld => ?_)
          clear hK K
          (try simp only [Act.put, List.getElem_toArray, List.getElem_cons_zero, List.getElem_cons_succ, List.setIfInBounds_toArray, List.set_cons_zero, List.set_cons_succ])
          refine wpAnyH_take (i := 4) (v := ?v11) rfl (by kernel_rfl) (by kernel_rfl) (by kernel_rfl) (fun _ _ _ h => h) (Or.inl ⟨by rfl, ?hy11⟩) hHeld ?rest11
          case hy11 => (intro w' hSw; (try dsimp only at hSw); first | (go_simp; done) | (go_simp; with_reducible rfl))
          simp only [Act.put, List.getElem_toArray, List.getElem_cons_zero, List.getElem_cons_succ, List.setIfInBounds_toArray, List.set_cons_zero, List.set_cons_succ]
          refine wpAnyH_take (i := 5) (v := ?v12) rfl (by kernel_rfl) (by kernel_rfl) (by kernel_rfl) (fun _ _ _ h => h) (Or.inl ⟨by rfl, ?hy12⟩) hHeld ?rest12
          case hy12 => (intro w' hSw; (try dsimp only at hSw); first | (go_simp; done) | (go_simp; with_reducible rfl))
          simp only [Act.put, List.getElem_toArray, List.getElem_cons_zero, List.getElem_cons_succ, List.setIfInBounds_toArray, List.set_cons_zero, List.set_cons_succ]
          refine wpAnyH_take (i := 6) (v := ?v13) rfl (by kernel_rfl) (by kernel_rfl) (by kernel_rfl) (fun _ _ _ h => h) (Or.inl ⟨by rfl, ?hy13⟩) hHeld ?rest13
          case hy13 => (intro w' hSw; (try dsimp only at hSw); first | (go_simp; done) | (go_simp; with_reducible rfl))
          simp only [Act.put, List.getElem_toArray, List.getElem_cons_zero, List.getElem_cons_succ, List.setIfInBounds_toArray, List.set_cons_zero, List.set_cons_succ]
          refine wpAnyH_ready (rs := [8]) (by kernel_rfl) (by simp) ?_
          refine AllReadyH.cons rfl (fun K hK => ?_) AllReadyH.nil
          go_simp
          refine hK.out _ _ ⟨cellOff (cellOff (cellOff kc3.1 (show g ≠ w.heap.size + 1 by have := HW2.out.size; omega)) (show g ≠ w.heap.size + 1 by have := HW2.out.size; omega)) (show g ≠ w.heap.size + 1 by have := HW2.out.size; omega), cellOff (cellOff (cellOff kc3.2.1 (show g ≠ w.heap.size + 1 by have := HW2.out.size; omega)) (show g ≠ w.heap.size + 1 by have := HW2.out.size; omega)) (show g ≠ w.heap.size + 1 by have := HW2.out.size; omega), cellOff (cellOff (cellOff kc3.2.2 (show g ≠ w.heap.size + 1 by have := HW2.out.size; omega)) (show g ≠ w.heap.size + 1 by have := HW2.out.size; omega)) (show g ≠ w.heap.size + 1 by have := HW2.out.size; omega)⟩ (fun hHeld => ?_)
          clear hK K
          (try simp only [Act.put, List.getElem_toArray, List.getElem_cons_zero, List.getElem_cons_succ, List.setIfInBounds_toArray, List.set_cons_zero, List.set_cons_succ])
          refine wpAnyH_take (i := 9) (v := ?v14) rfl (by kernel_rfl) (by kernel_rfl) (by kernel_rfl) (fun _ _ _ h => h) (Or.inl ⟨by rfl, ?hy14⟩) hHeld ?rest14
          case hy14 => (intro w' hSw; (try dsimp only at hSw); first | (go_simp; done) | (go_simp; with_reducible rfl))
          simp only [Act.put, List.getElem_toArray, List.getElem_cons_zero, List.getElem_cons_succ, List.setIfInBounds_toArray, List.set_cons_zero, List.set_cons_succ]
          refine wpAnyH_done (by kernel_rfl) ?_ _
          refine NoPanic.normal ?_
          clear hHeld
          go_wp2_with fail
          go_meet
          case rel => exact ⟨g, _, _, _, _, rfl, rfl, ((rg.set 0 _).set 1 _).set 2 _, by have := HW2.out.size; omega, ((hc3.setNew hg _).setNew hg _).setNew hg _, H0.out.setNew (H0.out.setNew (H0.out.setNew hr3 (by have := HW2.out.size; simp only; omega) _) (by have := HW2.out.size; simp only; omega) _) (by have := HW2.out.size; simp only; omega) _, _, ((hD.setRow rg rfl _).setRow (rg.set 0 _) rfl _).setRow ((rg.set 0 _).set 1 _) rfl _, (HS3.out.act o).mono (by omega)⟩
        case rest =>
          obtain ⟨g, u0, u1, u2, kc, rfl, rfl, rg, hgne, hbc, hrc, y, hD, hy⟩ := hcut
          obtain ⟨w0', w1', w2', ew, k0, k1, k2, -⟩ := id hD
          injection ew with ew
          obtain ⟨rfl, rfl, rfl⟩ : u0 = w0' ∧ u1 = w1' ∧ u2 = w2' := by injection ew with ev; injection ev with e0 ev; injection ev with e1 ev; injection ev with e2 ev; exact ⟨e0, e1, e2⟩
          obtain ⟨B0, m0, d0, rfl⟩ := k0.len
          obtain ⟨B1, m1, d1, rfl⟩ := k1.len
          obtain ⟨B2, m2, d2, rfl⟩ := k2.len
          clear k0 k1 k2 ew
          obtain ⟨⟨s0, s1, s2⟩, -⟩ := rg.three
          have p0 := (hbc.cell (p := ⟨w.heap.size + 1, 0, none⟩) (by have := HW2.out.size; simp only; omega) (by simp only; omega)).trans p0
          have p1 := (hbc.cell (p := ⟨w.heap.size + 1, 1, none⟩) (by have := HW2.out.size; simp only; omega) (by simp only; omega)).trans p1
          have p2 := (hbc.cell (p := ⟨w.heap.size + 1, 2, none⟩) (by have := HW2.out.size; simp only; omega) (by simp only; omega)).trans p2
          have q0 := (hbc.frozen (p := ⟨w.heap.size + 1, 0, none⟩) (by have := HW2.out.size; simp only; omega) (by simp only; omega)).trans q0
          have q1 := (hbc.frozen (p := ⟨w.heap.size + 1, 1, none⟩) (by have := HW2.out.size; simp only; omega) (by simp only; omega)).trans q1
          have q2 := (hbc.frozen (p := ⟨w.heap.size + 1, 2, none⟩) (by have := HW2.out.size; simp only; omega) (by simp only; omega)).trans q2
          have HP := Lib.hid (HW2.out.put H0.out hbc hrc hD hy)
          have HN := Lib.hid (show DkW w wc R a len cap zs (25 * (10 - (k - 1))) from by
            obtain ⟨e0, e1, e2, z, k1, k2, k3, k4⟩ := HW2.out.but hlt hbc hrc
            exact ⟨e0, e1, e2, z, k1, k2, k3.mono (by omega), k4⟩)
          clear hgne hbc hrc hD hy rg HW2
          by_cases hkc : kc = 0
          · subst hkc
            go_wp2_with fail
            go_roundw
            case rel => exact ⟨k - 1, by omega, by go_num, HP⟩
            case measure => simp [intOf]; omega
          · go_wp2_with fail
            go_roundw
            case rel => exact ⟨k - 1, by omega, by go_num, HN⟩
            case measure => simp [intOf]; omega
      · go_wp2_with fail
        refine (specSync x A0 n0' c0 A1 n1' c1 A2 n2' c2 _ _ t0 t1 t2 HSZ.out).mono ?_
        rintro e w3 ⟨⟨v, rfl, hv⟩, hq⟩
        have hr3 := rdr_belowD HW2.out.rdr hq
        have hD := hv.mono (base' := w.heap.size + 2) HW2.out.size
        have hb := below_butD hq R
        obtain ⟨v0, v1, v2, rfl, k0, k1, k2, -⟩ := id hD
        obtain ⟨B0, m0, d0, rfl⟩ := k0.len
        obtain ⟨B1, m1, d1, rfl⟩ := k1.len
        obtain ⟨B2, m2, d2, rfl⟩ := k2.len
        clear k0 k1 k2
        have p0 := (hb.cell (p := ⟨w.heap.size + 1, 0, none⟩) (by have := HW2.out.size; simp only; omega) (by simp only; omega)).trans p0
        have p1 := (hb.cell (p := ⟨w.heap.size + 1, 1, none⟩) (by have := HW2.out.size; simp only; omega) (by simp only; omega)).trans p1
        have p2 := (hb.cell (p := ⟨w.heap.size + 1, 2, none⟩) (by have := HW2.out.size; simp only; omega) (by simp only; omega)).trans p2
        have q0 := (hb.frozen (p := ⟨w.heap.size + 1, 0, none⟩) (by have := HW2.out.size; simp only; omega) (by simp only; omega)).trans q0
        have q1 := (hb.frozen (p := ⟨w.heap.size + 1, 1, none⟩) (by have := HW2.out.size; simp only; omega) (by simp only; omega)).trans q1
        have q2 := (hb.frozen (p := ⟨w.heap.size + 1, 2, none⟩) (by have := HW2.out.size; simp only; omega) (by simp only; omega)).trans q2
        have HP := Lib.hid (HW2.out.put H0.out hb hr3 hD (HS3.out.sync.mono (show 25 * (10 - k) ≤ 25 * (10 - (k - 1)) by omega)))
        clear t0 t1 t2 hv hq hb hr3 hD HW2
        go_wp2_with fail
        go_roundw
        case rel => exact ⟨k - 1, by omega, by go_num, HP⟩
        case measure => simp [intOf]; omega
    · have g0 : ¬ (0 : Int) < k := by omega
      obtain rfl : k = 0 := by omega
      go_wp2_with fail
      refine (rdBelow 40 _ R a len cap zs HW.out.rdr).mono ?_
      rintro e w2 ⟨v, rfl, ⟨y, rfl, y0, y1⟩, hb, hr⟩
      have HW2 := Lib.hid (HW.out.but hlt hb hr)
      clear HW hb hr g0 h0 hk
      go_upto_block 2 with fail
      go_cut [] from 30 to 61 (fun wx => DkE w wx R a len cap zs)
      case first =>
        obtain ⟨v0, v1, v2, x, h1, h2, h3, h4, h5, h6⟩ := HW2.out
        have hsz2 := HW2.out.size
        have HS3 := Lib.hid h3
        have H4 := Lib.hid h4
        have H5 := Lib.hid h5
        have H6 := Lib.hid h6
        have H2 := Lib.hid h2
        obtain ⟨w0', w1', w2', ew, k0, k1, k2, hdis⟩ := id h2
        injection ew with ew
        obtain ⟨rfl, rfl, rfl⟩ : v0 = w0' ∧ v1 = w1' ∧ v2 = w2' := by injection ew with ev; injection ev with e0 ev; injection ev with e1 ev; injection ev with e2 ev; exact ⟨e0, e1, e2⟩
        have K0 := Lib.hid k0
        have K1 := Lib.hid k1
        have K2 := Lib.hid k2
        obtain ⟨A0, c0, rfl, l0, m0, s0⟩ := k0.sl
        obtain ⟨A1, c1, rfl, l1, m1, s1⟩ := k1.sl
        obtain ⟨A2, c2, rfl, l2, m2, s2⟩ := k2.sl
        have HL := Lib.hid (sz_lens (h3.sz (by omega)))
        have hl2 := HL.out.2.2
        have HDIS := Lib.hid hdis
        clear ew h2 h3 h4 h5 h6 k0 k1 k2 hdis s0 s1 l0 l1 m0 m1
        obtain ⟨⟨p0, p1, p2⟩, ⟨q0, q1, q2⟩⟩ := h1.three
        have HR := Lib.hid h1
        clear h1
        rcases (show y = 0 ∨ y = 1 ∨ y = 2 ∨ (y ≠ 0 ∧ y ≠ 1 ∧ y ≠ 2) by omega) with rfl | rfl | rfl | ⟨g1, g2, g3⟩
        · obtain ⟨i0, hi, hz0, hz1, hz2⟩ := info_parts infoFileT
          have I1 := Lib.hid hi
          have I2 := Lib.hid hz0
          have I3 := Lib.hid hz1
          have I4 := Lib.hid hz2
          clear hi hz0 hz1 hz2 s2 l2 m2 hl2
          have F0 := Lib.hid (OwnG.far K0.out (Nat.le_refl _))
          go_wp2_with (at_builtin; refine wpList_append_own _ rfl _ _ 24 rfl (w.heap.size + 2) 75 i0 (.agg #[.string ⟨#[]⟩, .string ⟨#[]⟩]) 2 32 Try.underlying24 I1.out I2.out I3.out I4.out rfl (by decide) _ _ _ rfl (World.ownsRow.alloc K0.out _) ⟨_, 0, none⟩ 1 1 (Fz.cells (⟨⟨#[122, 122]⟩, ⟨#[]⟩⟩ : Fz)) rfl rfl ?c11 ?c21 ?c31 ?c41 ?c51 ?_)
          case c11 => first | exact cells_newAt _ (Fz.cells (⟨⟨#[122, 122]⟩, ⟨#[]⟩⟩ : Fz)) _ (by first | rfl | simp) | (intro j u hu; exact hu)
          case c21 => intro u hu; simp [Fz.cells] at hu; rcases hu with rfl | rfl <;> rfl
          case c31 => have := HL.out.1; unfold maxLen; omega
          case c41 => have := HL.out.1; omega
          case c51 => first | omega | (simp; omega)
          intro v6 w6 hown6 hgrow _
          have R6 := OwnG.app K0.out hsz2 hown6 hgrow
          have hal := (Below.refl w2.heap.size w2).alloc (Nat.le_refl _) (.cells #[.string ⟨#[122, 122]⟩, .string ⟨#[]⟩] 75)
          have k1 : OwnZ w6 _ _ _ := OwnG.keptD (OwnG.below K1.out hal) hgrow HDIS.out
          have k2 : OwnO w6 _ _ _ := OwnG.keptD (OwnG.below K2.out hal) hgrow (Dis.types K0.out K2.out (by decide))
          have kr : ∀ {g : Nat} {cs : Array Value}, Row w2 g 27 cs → g < w.heap.size + 2 → Row w6 g 27 cs := fun hr hg => (hgrow.block _ (lt_of_block (hr.alloc _)) (fun e => by have := (OwnG.block_lt K0.out _ e.symm).1; omega)).trans (hr.alloc _)
          have hr6 := kr HR.out (by omega)
          have h46 := kr H4.out (by omega)
          have hbw := R6.2.mono (B' := w.heap.size) (by omega)
          have h56 := H5.out.grown hbw
          have h66 := H0.out.grown H6.out hbw
          obtain ⟨C0, d0, rfl, -⟩ := (show OwnZ w6 _ v6 _ from R6.1).sl
          have HF := Lib.hid (show DkE w (w6.setCell ⟨w.heap.size + 1, 0, none⟩ (.slice C0 (x.live ++ [(⟨⟨#[122, 122]⟩, ⟨#[]⟩⟩ : Fz)]).length d0)) R a len cap zs from ⟨_, _, _, ⟨x.live ++ [(⟨⟨#[122, 122]⟩, ⟨#[]⟩⟩ : Fz)], x.safe, x.ops⟩, hr6.set 0 _, (readsO_own (x := ⟨x.live ++ [(⟨⟨#[122, 122]⟩, ⟨#[]⟩⟩ : Fz)], x.safe, x.ops⟩) R6.1 k1 k2).set (Nat.lt_succ_self _) _, HS3.out.zz, (DkE.setD H0.out h56 h66 h46 0 _).2.2, (DkE.setD H0.out h56 h66 h46 0 _).1, (DkE.setD H0.out h56 h66 h46 0 _).2.1⟩)
          clear p0 p1 p2 q0 q1 q2
          obtain ⟨⟨p0, p1, p2⟩, ⟨q0, q1, q2⟩⟩ := hr6.three
          clear hown6 hgrow R6 hal k1 k2 kr hr6 h46 hbw h56 h66
          generalize (x.live ++ [(⟨⟨#[122, 122]⟩, ⟨#[]⟩⟩ : Fz)]).length = nn at *
          go_wp2_with fail
          go_meet
          case rel => exact HF.out
        · cases ho : x.ops with
          | nil =>
            rw [ho] at p2 s2
            go_wp2_with fail
            go_meet
            case rel => exact HW2.out.fin (by omega)
          | cons o os =>
            rw [ho, List.length_cons] at l2 p2 s2
            obtain ⟨b, off, rfl, -⟩ := s2.2 (by omega)
            have hl3 : os.length + 1 ≤ 1048576 := by rw [ho, List.length_cons] at hl2; exact hl2
            have g1 : (1 : Int) ≤ ((os.length + 1 : Nat) : Int) := by omega
            have g2 : (0 : Int) < ((os.length + 1 : Nat) : Int) := by omega
            have HSM := Lib.hid (show SmD ⟨x.live, x.safe, os⟩ 300 from by have h := HS3.out; rw [show x = ⟨x.live, x.safe, o :: os⟩ by rw [← ho]] at h; exact h.tail.mono (by omega))
            have HX : ∀ u, ReadsO (w.heap.size + 2) (w2.setCell ⟨w.heap.size + 1, 2, none⟩ u) (.slice A0 x.live.length c0) (.slice A1 x.safe.length c1) (.slice (some ⟨b, off + 4, none⟩) os.length (c2 - 1)) ⟨x.live, x.safe, os⟩ := fun u => by
              obtain ⟨B0, n0, d0, B1, n1, d1, B2, n2, d2, e0, e1, e2, t0, t1, t2⟩ := (H2.out.readsO).set (p := ⟨w.heap.size + 1, 2, none⟩) (Nat.lt_succ_self _) u
              rw [ho, List.length_cons] at e2
              injection e2 with ea eb ec
              subst ea eb ec
              rw [ho] at t2
              exact ⟨B0, n0, d0, B1, n1, d1, _, _, _, e0, e1, rfl, t0, t1, t2.tailD⟩
            have HX1 : os.length = 0 → ∀ u, ReadsO (w.heap.size + 2) (w2.setCell ⟨w.heap.size + 1, 2, none⟩ u) (.slice A0 x.live.length c0) (.slice A1 x.safe.length c1) (.slice (some ⟨b, off, none⟩) 0 0) ⟨x.live, x.safe, os⟩ := fun h0 u => by
              obtain ⟨B0, n0, d0, B1, n1, d1, B2, n2, d2, e0, e1, e2, t0, t1, t2⟩ := HX u
              exact ⟨B0, n0, d0, B1, n1, d1, _, _, _, e0, e1, rfl, t0, t1, h0, fun h => by omega⟩
            have HRR := Lib.hid (show Row w2 (w.heap.size + 1) 27 #[.slice A0 x.live.length c0, .slice A1 x.safe.length c1, .slice (some ⟨b, off, none⟩) (os.length + 1) c2] from by have h := HR.out; rw [ho, List.length_cons] at h; exact h)
            have HF := Lib.hid (fun u (h : u = Value.slice (some ⟨b, off + 4, none⟩) os.length (c2 - 1)) => show DkE w (w2.setCell ⟨w.heap.size + 1, 2, none⟩ u) R a len cap zs from by subst h; exact ⟨_, _, _, ⟨x.live, x.safe, os⟩, HRR.out.set 2 _, HX _, HSM.out, (DkE.setD H0.out H5.out H6.out H4.out 2 _).2.2, (DkE.setD H0.out H5.out H6.out H4.out 2 _).1, (DkE.setD H0.out H5.out H6.out H4.out 2 _).2.1⟩)
            have HG := Lib.hid (fun u (h0 : os.length = 0) (h : u = Value.slice (some ⟨b, off, none⟩) 0 0) => show DkE w (w2.setCell ⟨w.heap.size + 1, 2, none⟩ u) R a len cap zs from by subst h; exact ⟨_, _, _, ⟨x.live, x.safe, os⟩, HRR.out.set 2 _, HX1 h0 _, HSM.out, (DkE.setD H0.out H5.out H6.out H4.out 2 _).2.2, (DkE.setD H0.out H5.out H6.out H4.out 2 _).1, (DkE.setD H0.out H5.out H6.out H4.out 2 _).2.1⟩)
            clear s2 HX HX1 hl2
            by_cases hc1 : c2 = 1
            · obtain hz : os.length = 0 := by omega
              subst hc1
              go_wp2_with fail
              go_meet
              case rel => first | exact HG.out _ hz rfl | exact HF.out _ rfl
            · go_wp2_with fail
              go_meet
              case rel => exact HF.out _ rfl
        · clear s2 l2 m2 hl2
          have HLT2 := Lib.hid (show R < w2.heap.size by omega)
          go_wp2_with fail
          refine (rdBelow 9 _ R a len cap zs H6.out).mono ?_
          rintro e w3 ⟨v, rfl, ⟨z, rfl, z0, z1⟩, hb3, hr3⟩
          obtain ⟨m, hm⟩ : ∃ m : Nat, (200000 : Int) - z = m := ⟨(200000 - z).toNat, by omega⟩
          have hm2 : m ≤ 200000 := by omega
          have hz9 : z ≤ 8 := by omega
          have hmk : ∀ w, (Instr.makeSlice 22 (.int .i64 (m : Int)) (.int .i64 (m : Int))).run Try.prog w = .ok (.slice (some ⟨w.heap.size, 0, none⟩) m m) (w.alloc (.cells (madeCells #[.int .u8 0] m) 5)) := fun w => by
            have h := mk_rows (P := Try.prog) Try.underlying22 infoByte (by omega) m (by omega) w
            rw [Nat.mul_one] at h
            exact h
          obtain ⟨s, hs, hcv⟩ := (OwnB.made w3 m (by omega)).conv
          rw [List.length_replicate] at hs
          have hr3' := (HR.out.butR hb3 (by omega))
          have h43 := (H4.out.butR hb3 (by omega))
          have h53 := H5.out.trans hb3
          have hs3 := hb3.size
          have hrw := (hr3'.alloc (.cells (madeCells #[.int .u8 0] m) 5)).alloc (.cells #[.string ⟨#[98, 105, 103]⟩, .string s] 75)
          have HO := Lib.hid (show OwnZ ((w3.alloc (.cells (madeCells #[.int .u8 0] m) 5)).alloc (.cells #[.string ⟨#[98, 105, 103]⟩, .string s] 75)) (w.heap.size + 2) (.slice (some ⟨w3.heap.size + 1, 0, none⟩) 1 1) [⟨⟨#[98, 105, 103]⟩, s⟩] from by
            have h := World.ownsRow_lit (e := 75) (size := 2) (w3.alloc (.cells (madeCells #[.int .u8 0] m) 5)) #[.string ⟨#[98, 105, 103]⟩, .string s] 1 (Nat.le_refl _) (by unfold maxLen; omega) rfl
            rw [heap_size_alloc1] at h
            exact OwnZ.mono h (by omega))
          obtain ⟨⟨p0, p1, p2⟩, ⟨q0, q1, q2⟩⟩ := hrw.three
          have H53 := Lib.hid ((h53.alloc (.cells (madeCells #[.int .u8 0] m) 5)).alloc (.cells #[.string ⟨#[98, 105, 103]⟩, .string s] 75))
          have H63 := Lib.hid ((hr3.alloc (.cells (madeCells #[.int .u8 0] m) 5)).alloc (.cells #[.string ⟨#[98, 105, 103]⟩, .string s] 75))
          have H43 := Lib.hid ((h43.alloc (.cells (madeCells #[.int .u8 0] m) 5)).alloc (.cells #[.string ⟨#[98, 105, 103]⟩, .string s] 75))
          have HRW := Lib.hid hrw
          have HSS := Lib.hid hs
          clear hrw h43 h53 hr3 hr3' hb3 hs
          have hw4 := Row.set (Row.set (Row.set HRW.out 0 (.slice (some ⟨w3.heap.size + 1, 0, none⟩) 1 1)) 1 (.slice none 0 0)) 2 (.slice none 0 0)
          have HO4 := Lib.hid (OwnG.set (OwnG.set (OwnG.set HO.out (p := ⟨w.heap.size + 1, 0, none⟩) (Nat.lt_succ_self _) (.slice (some ⟨w3.heap.size + 1, 0, none⟩) 1 1)) (p := ⟨w.heap.size + 1, 1, none⟩) (Nat.lt_succ_self _) (.slice none 0 0)) (p := ⟨w.heap.size + 1, 2, none⟩) (Nat.lt_succ_self _) (.slice none 0 0))
          have e0 := DkE.setD H0.out H53.out H63.out H43.out 0 (.slice (some ⟨w3.heap.size + 1, 0, none⟩) 1 1)
          have e1 := DkE.setD H0.out e0.1 e0.2.1 e0.2.2 1 (.slice none 0 0)
          have e2 := DkE.setD H0.out e1.1 e1.2.1 e1.2.2 2 (.slice none 0 0)
          clear e0 e1
          go_upto_region 18 with fail
          generalize ((((w3.alloc (.cells (madeCells #[.int .u8 0] m) 5)).alloc (.cells #[.string ⟨#[98, 105, 103]⟩, .string s] 75)).setCell ⟨w.heap.size + 1, 0, none⟩ (.slice (some ⟨w3.heap.size + 1, 0, none⟩) 1 1)).setCell ⟨w.heap.size + 1, 1, none⟩ (.slice none 0 0)).setCell ⟨w.heap.size + 1, 2, none⟩ (.slice none 0 0) = w4 at *
          clear p0 p1 p2 q0 q1 q2
          obtain ⟨⟨p0, p1, p2⟩, ⟨q0, q1, q2⟩⟩ := (show Row w4 (w.heap.size + 1) 27 #[.slice (some ⟨w3.heap.size + 1, 0, none⟩) 1 1, .slice none 0 0, .slice none 0 0] from hw4).three
          have e3 := DkE.setD H0.out e2.1 e2.2.1 e2.2.2 1 (.slice (some ⟨w3.heap.size + 1, 0, none⟩) 1 1)
          have HO5 := OwnG.set HO4.out (p := ⟨w.heap.size + 1, 1, none⟩) (Nat.lt_succ_self _) (.slice (some ⟨w3.heap.size + 1, 0, none⟩) 1 1)
          have HF := Lib.hid (show DkE w (w4.setCell ⟨w.heap.size + 1, 1, none⟩ (.slice (some ⟨w3.heap.size + 1, 0, none⟩) 1 1)) R a len cap zs from
            ⟨_, _, _, ⟨[⟨⟨#[98, 105, 103]⟩, s⟩], [⟨⟨#[98, 105, 103]⟩, s⟩], []⟩, hw4.set 1 _, readsO_own (x := ⟨[⟨⟨#[98, 105, 103]⟩, s⟩], [⟨⟨#[98, 105, 103]⟩, s⟩], []⟩) HO5 HO5 (OwnG.nil _ _), SmD.big (by have := HSS.out; omega), e3.2.2, e3.1, e3.2.1⟩)
          clear hw4 e2 e3 HO5 hmk hcv
          go_wp2_with fail
          go_meet
          case rel => exact HF.out
        · go_wp2_with fail
          go_meet
          case rel => exact HW2.out.fin (by omega)
      case rest =>
        obtain ⟨v0, v1, v2, x, h1, h2, h3, h4, h5, h6⟩ := hcut
        obtain ⟨B0, n0, d0, B1, n1, d1, B2, n2, d2, rfl, rfl, rfl, t0, t1, t2⟩ := id h2
        have H2 := Lib.hid h2
        have H3 := Lib.hid h3
        have H4 := Lib.hid h4
        have HB := Lib.hid (((h5.setNew (p := ⟨w.heap.size, 0, none⟩) (Nat.le_refl _) (.slice B0 n0 d0)).setNew (p := ⟨w.heap.size, 1, none⟩) (Nat.le_refl _) (.slice B1 n1 d1)).setNew (p := ⟨w.heap.size, 2, none⟩) (Nat.le_refl _) (.slice B2 n2 d2))
        have HRD := Lib.hid (H0.out.setNew (H0.out.setNew (H0.out.setNew h6 (p := ⟨w.heap.size, 0, none⟩) (Nat.le_refl _) (.slice B0 n0 d0)) (p := ⟨w.heap.size, 1, none⟩) (Nat.le_refl _) (.slice B1 n1 d1)) (p := ⟨w.heap.size, 2, none⟩) (Nat.le_refl _) (.slice B2 n2 d2))
        have HS := Lib.hid (((h2.set (p := ⟨w.heap.size, 0, none⟩) (by simp) (.slice B0 n0 d0)).set (p := ⟨w.heap.size, 1, none⟩) (by simp) (.slice B1 n1 d1)).set (p := ⟨w.heap.size, 2, none⟩) (by simp) (.slice B2 n2 d2))
        obtain ⟨⟨p0, p1, p2⟩, -⟩ := h1.three
        obtain ⟨⟨r0, r1, r2⟩, ⟨f0, f1, f2⟩⟩ := h4.three
        clear h1 h2 h3 h4 h5 h6 t0 t1 t2
        go_wp2_with fail
        have hr9 := Row.set (Row.set (Row.set H4.out 0 (.slice B0 n0 d0)) 1 (.slice B1 n1 d1)) 2 (.slice B2 n2 d2)
        exact bodyPost_ret (results_cell_row (p := 2) (ty := 27) rfl _ _ w.heap.size 27 #[.slice B0 n0 d0, .slice B1 n1 d1, .slice B2 n2 d2] (0, 0) _ rfl hr9 Try.underlying27 rfl HI.out) rfl ⟨_, rfl, ⟨_, _, _, x, rfl, HS.out.mono (by omega), H3.out⟩, HB.out, HRD.out⟩
end Go.Proofs.Ytkinegapnknhiaa
namespace Go.Proofs.Ytkinegapnknhiaa
open Go.RowKit
set_option linter.unusedVariables false
set_option linter.unusedSimpArgs false

/-- A reader above the box of an answer. -/
theorem rdr_box {w : World} {a : Option Addr} {len cap : Nat} {zs : List Int} (h : IsRow .u8 w a len cap zs) (o : Obj) : Rdr ((w.alloc o).alloc (.cells #[.slice a len cap, .int .i64 0] 102)) (w.heap.size + 1) a len cap zs := by
  have := Rdr.new (h.below ((Below.refl w.heap.size w).alloc (Nat.le_refl _) o)) 102
  rwa [heap_size_alloc1] at this

set_option maxRecDepth 100000 in
set_option maxHeartbeats 1000000 in
theorem drawDiskOk (a : Option Addr) (len cap : Nat) (zs : List Int) (w : World) (h : IsRow .u8 w a len cap zs) :
    Calls Try.prog 13 #[.slice a len cap] w (Drawn (isDk w.heap.size) w) := by
  have HI := Lib.hid infoDisk
  have h0 := rdr_box h (.cells #[.slice none 0 0, .slice none 0 0, .slice none 0 0] 27)
  have rb := (Row.new w 27 #[.slice none 0 0, .slice none 0 0, .slice none 0 0]).alloc (.cells #[.slice a len cap, .int .i64 0] 102)
  have b0 := ((Below.refl w.heap.size w).alloc (Nat.le_refl _) (.cells #[.slice none 0 0, .slice none 0 0, .slice none 0 0] 27)).alloc (by simp) (.cells #[.slice a len cap, .int .i64 0] 102)
  have hsz : ((w.alloc (.cells #[.slice none 0 0, .slice none 0 0, .slice none 0 0] 27)).alloc (.cells #[.slice a len cap, .int .i64 0] 102)).heap.size = w.heap.size + 2 := by simp
  go_enter Try.func13, Try.ntmps13
  go_wp2_with fail
  refine (specOpen _ _ _ _).mono ?_
  rintro e w1 ⟨rfl, rfl⟩
  generalize (w.alloc (.cells #[.slice none 0 0, .slice none 0 0, .slice none 0 0] 27)).alloc (.cells #[.slice a len cap, .int .i64 0] 102) = u at *
  go_wp2_with fail
  refine (rdDisk _ _ a len cap zs h0).mono ?_
  rintro e w2 ⟨v, rfl, ⟨v0, v1, v2, x, rfl, h2, h3⟩, hb, hr⟩
  rw [hsz] at h2
  obtain ⟨B0, n0, d0, B1, n1, d1, B2, n2, d2, rfl, rfl, rfl, -, -, -⟩ := id h2
  have hb2 := b0.trans (hb.below (Nat.le_succ _) (by omega))
  have rb2 := rb.butR hb (by omega)
  have HB := Lib.hid (((hb2.setCell (p := ⟨w.heap.size, 0, none⟩) (Nat.le_refl _) (.slice B0 n0 d0)).setCell (p := ⟨w.heap.size, 1, none⟩) (Nat.le_refl _) (.slice B1 n1 d1)).setCell (p := ⟨w.heap.size, 2, none⟩) (Nat.le_refl _) (.slice B2 n2 d2))
  have HS := Lib.hid (((h2.set (p := ⟨w.heap.size, 0, none⟩) (by simp) (.slice B0 n0 d0)).set (p := ⟨w.heap.size, 1, none⟩) (by simp) (.slice B1 n1 d1)).set (p := ⟨w.heap.size, 2, none⟩) (by simp) (.slice B2 n2 d2))
  have H3 := Lib.hid h3
  have HR := Lib.hid rb2
  obtain ⟨⟨r0, r1, r2⟩, ⟨f0, f1, f2⟩⟩ := rb2.three
  clear h0 rb b0 h2 h3 hb hr hb2 rb2
  go_wp2_with fail
  have hr9 := Row.set (Row.set (Row.set HR.out 0 (.slice B0 n0 d0)) 1 (.slice B1 n1 d1)) 2 (.slice B2 n2 d2)
  exact bodyPost_ret (results_cell_row (p := 2) (ty := 27) rfl _ _ w.heap.size 27 #[.slice B0 n0 d0, .slice B1 n1 d1, .slice B2 n2 d2] (0, 0) _ rfl hr9 Try.underlying27 rfl HI.out) rfl ⟨_, rfl, ⟨_, _, _, x, rfl, HS.out.mono (by omega), H3.out⟩, HB.out⟩
end Go.Proofs.Ytkinegapnknhiaa
namespace Go.Proofs.Ytkinegapnknhiaa
open Go.RowKit
set_option linter.unusedVariables false
set_option linter.unusedSimpArgs false

theorem results_cell_cell {P : Program} {fn : Func} {p u : Tmp} {ty ty2 : TypeId} (h : fn.results = #[.cell p ty, .cell u ty2]) (tmps : Array Value) (w : World) (g g2 : Nat) (t t2 : TypeId) (cs cs2 : Array Value) (fr fr2 : Nat × Nat) (d d2 : TypeDesc)
    (hp : tmps.getD p undef = .pointer (some ⟨g, 0, none⟩)) (hq : tmps.getD u undef = .pointer (some ⟨g2, 0, none⟩)) (hg : w.heap[g]? = some (.cells cs t fr)) (hg2 : w.heap[g2]? = some (.cells cs2 t2 fr2))
    (hu : P.underlying ty = some d) (hd : (match d with | .struct _ | .array _ _ => true | _ => false) = true) (hi : (P.info? ty).map (·.size) = some cs.size)
    (hu2 : P.underlying ty2 = some d2) (hd2 : (match d2 with | .struct _ | .array _ _ => true | _ => false) = true) (hi2 : (P.info? ty2).map (·.size) = some cs2.size) :
    (results fn tmps).run P w = .ok (.tuple #[.agg cs, .agg cs2]) w := by
  have hp' : tmps[p]?.getD undef = .pointer (some ⟨g, 0, none⟩) := by simpa using hp
  have hq' : tmps[u]?.getD undef = .pointer (some ⟨g2, 0, none⟩) := by simpa using hq
  simp [results, h, hp', hq', asAddr, run_loadVar_row w g t ty cs fr d hg hu hd hi, run_loadVar_row w g2 t2 ty2 cs2 fr2 d2 hg2 hu2 hd2 hi2]

/-- A disk whose cells can be read, all in blocks that are ok. -/
def ReadsK (ok : Nat → Prop) (w : World) (v0 v1 v2 : Value) (x : Dz) : Prop := ∃ (A0 : Option Addr) (n0 c0 : Nat) (A1 : Option Addr) (n1 c1 : Nat) (A2 : Option Addr) (n2 c2 : Nat), v0 = .slice A0 n0 c0 ∧ v1 = .slice A1 n1 c1 ∧ v2 = .slice A2 n2 c2 ∧ Sl FzR 2 ok w A0 n0 x.live ∧ Sl FzR 2 ok w A1 n1 x.safe ∧ Sl OzR 4 ok w A2 n2 x.ops
theorem ReadsK.turn {ok ok' : Nat → Prop} {w w' : World} {v0 v1 v2 : Value} {x : Dz} (h : ReadsK ok w v0 v1 v2 x) (ho : ∀ b, ok b → ok' b) (hk : ∀ (p : Addr) (v : Value), ok p.block → w.cell? p = some v → w'.cell? p = some v) : ReadsK ok' w' v0 v1 v2 x := by
  obtain ⟨A0, n0, c0, A1, n1, c1, A2, n2, c2, e0, e1, e2, s0, s1, s2⟩ := h
  exact ⟨A0, n0, c0, A1, n1, c1, A2, n2, c2, e0, e1, e2, s0.stays FzR.stays ho hk, s1.stays FzR.stays ho hk, s2.stays OzR.stays ho hk⟩
theorem ReadsK.set {ok : Nat → Prop} {w : World} {v0 v1 v2 : Value} {x : Dz} (h : ReadsK ok w v0 v1 v2 x) {p : Addr} (hp : ∀ b, ok b → b ≠ p.block) (v : Value) : ReadsK ok (w.setCell p v) v0 v1 v2 x :=
  h.turn (fun _ h => h) fun q u hq hu => (World.cell?_of_block (w := w) (a := q) (Below.heap_setCell w p v q.block (hp _ hq))).trans hu
theorem ReadsK.butR {ok : Nat → Prop} {R : Nat} {w w' : World} {v0 v1 v2 : Value} {x : Dz} (h : ReadsK ok w v0 v1 v2 x) (hb : But R w w') (hR : ∀ b, ok b → b ≠ R) : ReadsK ok w' v0 v1 v2 x :=
  h.turn (fun _ h => h) fun q u hq hu => (hb.cell (cell_lt hu) (hR _ hq)).trans hu
theorem ReadsK.below {ok : Nat → Prop} {w w' : World} {v0 v1 v2 : Value} {x : Dz} (h : ReadsK ok w v0 v1 v2 x) (hb : Below w.heap.size w w') : ReadsK ok w' v0 v1 v2 x :=
  h.turn (fun _ h => h) fun q u hq hu => (hb.cell (cell_lt hu)).trans hu
theorem ReadsK.reads {ok : Nat → Prop} {w : World} {v0 v1 v2 : Value} {x : Dz} (h : ReadsK ok w v0 v1 v2 x) : ReadsD w v0 v1 v2 x := h.turn (fun _ _ => trivial) fun _ _ _ h => h
/-- Blocks whose cells are read are there. -/
theorem Sl.okL {α : Type} {f : α → List Value} {sz : Nat} (hz : 0 < sz) (hf : ∀ d, (f d).length = sz) {ok : Nat → Prop} {w : World} {A : Option Addr} {n : Nat} {ds : List α} (h : Sl (FlatR f) sz ok w A n ds) : Sl (FlatR f) sz (fun b => ok b ∧ b < w.heap.size) w A n ds := by
  refine ⟨h.1, fun hn => ?_⟩
  obtain ⟨b, off, e, hob, hcs⟩ := h.2 hn
  refine ⟨b, off, e, ⟨hob, ?_⟩, hcs⟩
  have h0 := h.1
  obtain ⟨cs, h1, h2, h3⟩ := hcs 0 (by omega)
  have hj : cs[0]? = some (cs[0]'(by omega)) := List.getElem?_eq_getElem (by omega)
  exact cell_lt (p := ⟨b, off + 0 * sz + 0, none⟩) (h3 0 _ hj)
theorem ReadsO.low {base : Nat} {w : World} {v0 v1 v2 : Value} {x : Dz} (h : ReadsO base w v0 v1 v2 x) : ReadsK (fun b => base ≤ b ∧ b < w.heap.size) w v0 v1 v2 x := by
  obtain ⟨A0, n0, c0, A1, n1, c1, A2, n2, c2, e0, e1, e2, s0, s1, s2⟩ := h
  exact ⟨A0, n0, c0, A1, n1, c1, A2, n2, c2, e0, e1, e2, s0.okL (by omega) fz_cells, s1.okL (by omega) fz_cells, s2.okL (by omega) oz_cells⟩
/-- The drawing on its way: the answer's boxes, a reader, a disk and an op in boxes at gd, go. -/
def DoW (w wr : World) (gd go : Nat) (a : Option Addr) (len cap : Nat) (zs : List Int) (m : Nat) : Prop :=
  ∃ (v0 v1 v2 : Value) (x : Dz) (o : Oz), Row wr gd 27 #[v0, v1, v2] ∧ Row wr go 36 #[.int .i64 o.kind, .string o.name, .string o.to, .string o.data] ∧
    ReadsK (fun b => w.heap.size + 3 ≤ b ∧ b ≠ gd ∧ b ≠ go) wr v0 v1 v2 x ∧ SmD x m ∧ o.sz ≤ m ∧ Row wr w.heap.size 27 #[.slice none 0 0, .slice none 0 0, .slice none 0 0] ∧ Row wr (w.heap.size + 1) 36 #[.int .i64 0, .string ⟨#[]⟩, .string ⟨#[]⟩, .string ⟨#[]⟩] ∧ Below w.heap.size w wr ∧ Rdr wr (w.heap.size + 2) a len cap zs
theorem DoW.rdr {w wr : World} {gd go : Nat} {a : Option Addr} {len cap : Nat} {zs : List Int} {m : Nat} (h : DoW w wr gd go a len cap zs m) : Rdr wr (w.heap.size + 2) a len cap zs := by obtain ⟨_, _, _, _, _, _, _, _, _, _, _, _, _, h⟩ := h; exact h
theorem DoW.but {w wr w' : World} {gd go : Nat} {a : Option Addr} {len cap : Nat} {zs : List Int} {m : Nat} (h : DoW w wr gd go a len cap zs m) (hg : w.heap.size + 3 ≤ gd ∧ gd < go) (hb : But (w.heap.size + 2) wr w') (hr : Rdr w' (w.heap.size + 2) a len cap zs) : DoW w w' gd go a len cap zs m := by
  obtain ⟨v0, v1, v2, x, o, h1, h2, h3, h4, h5, h6, h7, h8, -⟩ := h
  exact ⟨v0, v1, v2, x, o, h1.butR hb (by omega), h2.butR hb (by omega), h3.butR hb (fun b hb => by omega), h4, h5, h6.butR hb (by omega), h7.butR hb (by omega), h8.trans (hb.below (by omega) h8.size), hr⟩
theorem DoW.mono {w wr : World} {gd go : Nat} {a : Option Addr} {len cap : Nat} {zs : List Int} {m m' : Nat} (h : DoW w wr gd go a len cap zs m) (hm : m ≤ m') : DoW w wr gd go a len cap zs m' := by
  obtain ⟨v0, v1, v2, x, o, h1, h2, h3, h4, h5, h6⟩ := h
  exact ⟨v0, v1, v2, x, o, h1, h2, h3, h4.mono hm, Nat.le_trans h5 hm, h6⟩
/-- A field of the op turns. -/
theorem DoW.op {w wr : World} {gd go : Nat} {a : Option Addr} {len cap : Nat} {zs : List Int} {m : Nat} (h : DoW w wr gd go a len cap zs m) (hg : w.heap.size + 3 ≤ gd ∧ gd < go) {u0 : World} (H0 : Rdr u0 (w.heap.size + 2) a len cap zs) (hu0 : u0.heap.size = w.heap.size + 3) (j : Nat) (u : Value)
    (hu : ∀ o : Oz, o.sz ≤ m → ∃ o' : Oz, (#[.int .i64 o.kind, .string o.name, .string o.to, .string o.data] : Array Value).setIfInBounds j u = #[.int .i64 o'.kind, .string o'.name, .string o'.to, .string o'.data] ∧ o'.sz ≤ m + 1) : DoW w (wr.setCell ⟨go, j, none⟩ u) gd go a len cap zs (m + 1) := by
  obtain ⟨v0, v1, v2, x, o, h1, h2, h3, h4, h5, h6, h7, h8, h9⟩ := h
  obtain ⟨o', e, ho⟩ := hu o h5
  have hr := h2.set j u
  rw [e] at hr
  exact ⟨v0, v1, v2, x, o', h1.far (by simp; omega) _, hr, h3.set (fun b hb => by have := hb.2.2; simpa using this) _, h4.mono (Nat.le_succ _), ho, h6.far (by simp; omega) _, h7.far (by simp; omega) _, h8.setCell (by simp; omega) _, H0.setNew h9 (by simp; omega) _⟩
/-- Another disk into the box. -/
theorem DoW.put {w wr : World} {gd go : Nat} {a : Option Addr} {len cap : Nat} {zs : List Int} {m m' : Nat} (h : DoW w wr gd go a len cap zs m) (hg : w.heap.size + 3 ≤ gd ∧ gd < go) {u0 : World} (H0 : Rdr u0 (w.heap.size + 2) a len cap zs) (hu0 : u0.heap.size = w.heap.size + 3) {v0 v1 v2 : Value} {x : Dz} (hd : ReadsK (fun b => w.heap.size + 3 ≤ b ∧ b ≠ gd ∧ b ≠ go) wr v0 v1 v2 x) (hs : SmD x m') (hm : m ≤ m') :
    DoW w (((wr.setCell ⟨gd, 0, none⟩ v0).setCell ⟨gd, 1, none⟩ v1).setCell ⟨gd, 2, none⟩ v2) gd go a len cap zs m' := by
  obtain ⟨t0, t1, t2, y, o, h1, h2, h3, h4, h5, h6, h7, h8, h9⟩ := h
  exact ⟨v0, v1, v2, x, o, ((h1.set 0 v0).set 1 v1).set 2 v2, ((h2.far (by simp; omega) _).far (by simp; omega) _).far (by simp; omega) _,
    ((hd.set (fun b hb => hb.2.1) _).set (fun b hb => hb.2.1) _).set (fun b hb => hb.2.1) _, hs, Nat.le_trans h5 hm, ((h6.far (by simp; omega) _).far (by simp; omega) _).far (by simp; omega) _, ((h7.far (by simp; omega) _).far (by simp; omega) _).far (by simp; omega) _,
    ((h8.setCell (by simp; omega) _).setCell (by simp; omega) _).setCell (by simp; omega) _, H0.setNew (H0.setNew (H0.setNew h9 (by simp; omega) _) (by simp; omega) _) (by simp; omega) _⟩
/-- A disk that can be read, of bounded size, and a small op. -/
def isDo (v : Value) (w : World) : Prop := ∃ (v0 v1 v2 : Value) (x : Dz) (o : Oz), v = .tuple #[.agg #[v0, v1, v2], .agg #[.int .i64 o.kind, .string o.name, .string o.to, .string o.data]] ∧ ReadsD w v0 v1 v2 x ∧ SmD x 1000 ∧ o.sz ≤ 1000

set_option maxRecDepth 100000 in
set_option maxHeartbeats 2000000 in
theorem drawDo (a : Option Addr) (len cap : Nat) (zs : List Int) (w : World) (h : IsRow .u8 w a len cap zs) :
    Calls Try.prog 19 #[.slice a len cap] w (Drawn isDo w) := by
  have HI := Lib.hid infoDisk
  have HO := Lib.hid infoDOpS
  have hr0 := Rdr.new (h.below (((Below.refl w.heap.size w).alloc (Nat.le_refl _) (.cells #[.slice none 0 0, .slice none 0 0, .slice none 0 0] 27)).alloc (by simp) (.cells #[.int .i64 0, .string ⟨#[]⟩, .string ⟨#[]⟩, .string ⟨#[]⟩] 36))) 102
  rw [heap_size_alloc1, heap_size_alloc1, show w.heap.size + 1 + 1 = w.heap.size + 2 from rfl] at hr0
  have rb := ((Row.new w 27 #[.slice none 0 0, .slice none 0 0, .slice none 0 0]).alloc (.cells #[.int .i64 0, .string ⟨#[]⟩, .string ⟨#[]⟩, .string ⟨#[]⟩] 36)).alloc (.cells #[.slice a len cap, .int .i64 0] 102)
  have rc := (Row.newAt (w.alloc (.cells #[.slice none 0 0, .slice none 0 0, .slice none 0 0] 27)) 36 #[.int .i64 0, .string ⟨#[]⟩, .string ⟨#[]⟩, .string ⟨#[]⟩] (w.heap.size + 1) (by simp)).alloc (.cells #[.slice a len cap, .int .i64 0] 102)
  have b0 := (((Below.refl w.heap.size w).alloc (Nat.le_refl _) (.cells #[.slice none 0 0, .slice none 0 0, .slice none 0 0] 27)).alloc (by simp) (.cells #[.int .i64 0, .string ⟨#[]⟩, .string ⟨#[]⟩, .string ⟨#[]⟩] 36)).alloc (by simp; omega) (.cells #[.slice a len cap, .int .i64 0] 102)
  have hsz : (((w.alloc (.cells #[.slice none 0 0, .slice none 0 0, .slice none 0 0] 27)).alloc (.cells #[.int .i64 0, .string ⟨#[]⟩, .string ⟨#[]⟩, .string ⟨#[]⟩] 36)).alloc (.cells #[.slice a len cap, .int .i64 0] 102)).heap.size = w.heap.size + 3 := by simp
  go_enter Try.func19, Try.ntmps19
  go_wp2_with fail
  refine (specOpen _ _ _ _).mono ?_
  rintro e w1 ⟨rfl, rfl⟩
  generalize (((w.alloc (.cells #[.slice none 0 0, .slice none 0 0, .slice none 0 0] 27)).alloc (.cells #[.int .i64 0, .string ⟨#[]⟩, .string ⟨#[]⟩, .string ⟨#[]⟩] 36)).alloc (.cells #[.slice a len cap, .int .i64 0] 102)) = u at *
  have H0 := Lib.hid hr0
  have HU := Lib.hid hsz
  go_wp2_with fail
  refine (rdDisk _ _ a len cap zs hr0).mono ?_
  rintro e w2 ⟨v, rfl, ⟨v0, v1, v2, x, rfl, h2, h3⟩, hb, hr⟩
  rw [hsz] at h2
  have H2 := Lib.hid h2.low
  have H3 := Lib.hid h3
  obtain ⟨B0, n0, d0, B1, n1, d1, B2, n2, d2, rfl, rfl, rfl, -, -, -⟩ := id h2
  have hu2 := hb.size
  have b2 := b0.trans (hb.below (by omega) (by omega))
  have rb := rb.butR hb (by omega)
  have rc := rc.butR hb (by omega)
  clear h2 h3 hb hr0 b0
  have rd := Row.new w2 27 #[.slice B0 n0 d0, .slice B1 n1 d1, .slice B2 n2 d2]
  have rb := rb.alloc (.cells #[.slice B0 n0 d0, .slice B1 n1 d1, .slice B2 n2 d2] 27)
  have rc := rc.alloc (.cells #[.slice B0 n0 d0, .slice B1 n1 d1, .slice B2 n2 d2] 27)
  have H2 := Lib.hid (H2.out.below ((Below.refl w2.heap.size w2).alloc (Nat.le_refl _) (.cells #[.slice B0 n0 d0, .slice B1 n1 d1, .slice B2 n2 d2] 27)))
  have b3 := b2.alloc b2.size (.cells #[.slice B0 n0 d0, .slice B1 n1 d1, .slice B2 n2 d2] 27)
  have hr := hr.alloc (.cells #[.slice B0 n0 d0, .slice B1 n1 d1, .slice B2 n2 d2] 27)
  have hs3 : (w2.alloc (.cells #[.slice B0 n0 d0, .slice B1 n1 d1, .slice B2 n2 d2] 27)).heap.size = w2.heap.size + 1 := by simp
  go_wp2_with fail
  generalize w2.alloc (.cells #[.slice B0 n0 d0, .slice B1 n1 d1, .slice B2 n2 d2] 27) = w3 at *
  have hg1 : w.heap.size + 3 ≤ w2.heap.size := by omega
  generalize w2.heap.size = gd at *
  refine (rdDop _ _ a len cap zs hr).mono ?_
  rintro e w4 ⟨v, rfl, ⟨o, rfl, ho⟩, hb, hr4⟩
  have hs4 := hb.size
  have rd := rd.butR hb (by omega)
  have rb := rb.butR hb (by omega)
  have rc := rc.butR hb (by omega)
  have H2 := Lib.hid (H2.out.butR hb (fun b hb => by omega))
  have b4 := b3.trans (hb.below (by omega) b3.size)
  clear hb hr b3 b2
  have HW := Lib.hid (show DoW w (w4.alloc (.cells #[.int .i64 o.kind, .string o.name, .string o.to, .string o.data] 36)) gd w4.heap.size a len cap zs 300 from ⟨_, _, _, x, o, rd.alloc _, Row.new _ _ _, ((H2.out.below ((Below.refl w4.heap.size w4).alloc (Nat.le_refl _) (.cells #[.int .i64 o.kind, .string o.name, .string o.to, .string o.data] 36))).turn (fun b hb => ⟨hb.1, by omega, by omega⟩) (fun _ _ _ h => h)), H3.out, by omega, rb.alloc _, rc.alloc _, b4.alloc b4.size _, hr4.alloc _⟩)
  have hg2 : gd < w4.heap.size := by omega
  clear rd rb rc H2 H3 b4 hr4
  go_wp2_with fail
  generalize w4.alloc (.cells #[.int .i64 o.kind, .string o.name, .string o.to, .string o.data] 36) = w5 at *
  generalize w4.heap.size = go at *
  clear hs3 hs4 hu2 hsz ho
  have HG := Lib.hid (show w.heap.size + 3 ≤ gd ∧ gd < go from ⟨hg1, hg2⟩)
  refine (rdBelow 20 _ _ a len cap zs HW.out.rdr).mono ?_
  rintro e w6 ⟨v, rfl, ⟨y, rfl, y0, y1⟩, hb, hr⟩
  have HW := Lib.hid (HW.out.but HG.out hb hr)
  clear hb hr
  go_upto_block 0 with fail
  go_cut [7, 8, 9] from 18 to 52 (fun s7 s8 s9 wx => DoW w wx gd go a len cap zs 1000)
  case first =>
    rcases (show y = 0 ∨ y = 1 ∨ y = 2 ∨ y = 3 ∨ (y ≠ 0 ∧ y ≠ 1 ∧ y ≠ 2 ∧ y ≠ 3) by omega) with rfl | rfl | rfl | rfl | ⟨g1, g2, g3, g4⟩
    · go_wp2_with fail
      refine (rdOff 1 3 (by omega) (by omega) (by omega) _ _ a len cap zs HW.out.rdr).mono ?_
      rintro e w7 ⟨v, rfl, ⟨n, rfl, -, -⟩, hb, hr⟩
      have HW := Lib.hid (HW.out.but HG.out hb hr)
      clear hb hr
      obtain ⟨_, _, _, _, oo, -, ro, -⟩ := HW.out
      obtain ⟨⟨k0, k1, k2, k3⟩, ⟨f0, f1, f2, f3⟩⟩ := ro.all4
      clear ro
      have HF := Lib.hid ((HW.out.op HG.out H0.out HU.out 0 (.int .i64 n) (fun o ho => ⟨⟨n, o.name, o.to, o.data⟩, rfl, Nat.le_succ_of_le ho⟩)).mono (show 300 + 1 ≤ 1000 by omega))
      go_wp2_with fail
      go_meet
      case rel => exact HF.out
    · obtain ⟨_, _, _, _, oo, -, ro, -⟩ := HW.out
      obtain ⟨⟨k0, k1, k2, k3⟩, ⟨f0, f1, f2, f3⟩⟩ := ro.all4
      clear ro
      have HF := Lib.hid ((HW.out.op HG.out H0.out HU.out 1 (.string ⟨#[]⟩) (fun o ho => ⟨⟨o.kind, ⟨#[]⟩, o.to, o.data⟩, rfl, by have e : (⟨#[]⟩ : ByteArray).size = 0 := rfl; unfold Oz.sz at ho ⊢; dsimp only; omega⟩)).mono (show 300 + 1 ≤ 1000 by omega))
      go_wp2_with fail
      go_meet
      case rel => exact HF.out
    · obtain ⟨_, _, _, _, oo, -, ro, -⟩ := HW.out
      obtain ⟨⟨k0, k1, k2, k3⟩, ⟨f0, f1, f2, f3⟩⟩ := ro.all4
      clear ro
      have HF := Lib.hid ((HW.out.op HG.out H0.out HU.out 2 (.string ⟨#[120]⟩) (fun o ho => ⟨⟨o.kind, o.name, ⟨#[120]⟩, o.data⟩, rfl, by have e : (⟨#[120]⟩ : ByteArray).size = 1 := rfl; unfold Oz.sz at ho ⊢; dsimp only; omega⟩)).mono (show 300 + 1 ≤ 1000 by omega))
      go_wp2_with fail
      go_meet
      case rel => exact HF.out
    · clear y0 y1
      go_wp2_with fail
      go_loopw [7] (fun i wr => ∃ k : Nat, k ≤ 200 ∧ i = .int .i64 k ∧ Hid (DoW w wr gd go a len cap zs (300 + 2 * k))) (fun i _ => 200 - (intOf i).toNat)
      case atStart => exact ⟨0, by omega, rfl, HW⟩
      case round =>
        clear HW
        obtain ⟨k, hk, rfl, HW⟩ := hrel
        have HWR := HW.out
        obtain ⟨v0, v1, v2, x, o, h1, h2, h3, h4, h5, h6⟩ := HWR
        obtain ⟨A0, n0', c0, A1, n1', c1, A2, n2', c2, rfl, rfl, rfl, t0, t1, t2⟩ := id h3
        obtain ⟨⟨p0, p1, p2⟩, -⟩ := h1.three
        have H4 := Lib.hid h4
        have HT0 := Lib.hid t0
        have HT1 := Lib.hid t1
        have HT2 := Lib.hid t2
        clear h1 h2 h3 h4 h5 h6 t0 t1 t2
        go_upto_region 13 with fail
        go_cut [41] from 31 to 52 (fun s41 wx => ∃ b : Bool, s41 = .bool b ∧ (b = true → k < 200) ∧ But (w.heap.size + 2) wr wx ∧ Rdr wx (w.heap.size + 2) a len cap zs)
        case first =>
          have hgl : gd < wr.drew.heap.size := by have h := cell_lt p0; exact h
          have hc0 : But (w.heap.size + 2) wr wr.drew := (But.refl _ _).drew
          have hr0 : Rdr wr.drew (w.heap.size + 2) a len cap zs := ⟨HW.out.rdr.code, HW.out.rdr.place, HW.out.rdr.free, HW.out.rdr.row, HW.out.rdr.apart⟩
          have kc0 : wr.drew.cell? ⟨gd, 0, none⟩ = some (.slice A0 n0' c0) ∧ wr.drew.cell? ⟨gd, 1, none⟩ = some (.slice A1 n1' c1) ∧ wr.drew.cell? ⟨gd, 2, none⟩ = some (.slice A2 n2' c2) := ⟨p0, p1, p2⟩
          by_cases hlt : k < 200
          · have g0 : (k : Int) < 200 := by omega
            refine wp_region_noPanic ?_
            refine wp_region_held_drew (S := (fun w' => w'.cell? ⟨gd, 0, none⟩ = some (.slice A0 n0' c0) ∧ w'.cell? ⟨gd, 1, none⟩ = some (.slice A1 n1' c1) ∧ w'.cell? ⟨gd, 2, none⟩ = some (.slice A2 n2' c2))) (by kernel_rfl) ⟨p0, p1, p2⟩ (fun hHeld => ?_)
            generalize wr.drew = u0 at *
            refine wpAnyH_take (i := 0) (v := ?v1) rfl (by kernel_rfl) (by kernel_rfl) (by kernel_rfl) (fun _ _ _ h => h) (Or.inl ⟨by rfl, ?hy1⟩) hHeld ?rest1
            case hy1 => (intro w' hSw; (try dsimp only at hSw); first | (go_simp; done) | (go_simp; with_reducible rfl))
            simp only [Act.put, List.getElem_toArray, List.getElem_cons_zero, List.getElem_cons_succ, List.setIfInBounds_toArray, List.set_cons_zero, List.set_cons_succ]
            refine wpAnyH_take (i := 1) (v := ?v2) rfl (by kernel_rfl) (by kernel_rfl) (by kernel_rfl) (fun _ _ _ h => h) (Or.inl ⟨by rfl, ?hy2⟩) hHeld ?rest2
            case hy2 => (intro w' hSw; (try dsimp only at hSw); first | (go_simp; done) | (go_simp; with_reducible rfl))
            simp only [Act.put, List.getElem_toArray, List.getElem_cons_zero, List.getElem_cons_succ, List.setIfInBounds_toArray, List.set_cons_zero, List.set_cons_succ]
            refine wpAnyH_take (i := 2) (v := ?v3) rfl (by kernel_rfl) (by kernel_rfl) (by kernel_rfl) (fun _ _ _ h => h) (Or.inl ⟨by rfl, ?hy3⟩) hHeld ?rest3
            case hy3 => (intro w' hSw; (try dsimp only at hSw); first | (go_simp; done) | (go_simp; with_reducible rfl))
            simp only [Act.put, List.getElem_toArray, List.getElem_cons_zero, List.getElem_cons_succ, List.setIfInBounds_toArray, List.set_cons_zero, List.set_cons_succ]
            refine wpAnyH_take (i := 3) (v := ?v4) rfl (by kernel_rfl) (by kernel_rfl) (by kernel_rfl) (fun _ _ _ h => h) (Or.inl ⟨by rfl, ?hy4⟩) hHeld ?rest4
            case hy4 => (intro w' hSw; (try dsimp only at hSw); first | (go_simp; done) | (go_simp; with_reducible rfl))
            simp only [Act.put, List.getElem_toArray, List.getElem_cons_zero, List.getElem_cons_succ, List.setIfInBounds_toArray, List.set_cons_zero, List.set_cons_succ]
            refine wpAnyH_take (i := 4) (v := ?v5) rfl (by kernel_rfl) (by kernel_rfl) (by kernel_rfl) (fun _ _ _ h => h) (Or.inl ⟨by rfl, ?hy5⟩) hHeld ?rest5
            case hy5 => (intro w' hSw; (try dsimp only at hSw); first | (go_simp; done) | (go_simp; with_reducible rfl))
            simp only [Act.put, List.getElem_toArray, List.getElem_cons_zero, List.getElem_cons_succ, List.setIfInBounds_toArray, List.set_cons_zero, List.set_cons_succ]
            refine wpAnyH_take (i := 5) (v := ?v6) rfl (by kernel_rfl) (by kernel_rfl) (by kernel_rfl) (fun _ _ _ h => h) (Or.inl ⟨by rfl, ?hy6⟩) hHeld ?rest6
            case hy6 => (intro w' hSw; (try dsimp only at hSw); first | (go_simp; done) | (go_simp; with_reducible rfl))
            simp only [Act.put, List.getElem_toArray, List.getElem_cons_zero, List.getElem_cons_succ, List.setIfInBounds_toArray, List.set_cons_zero, List.set_cons_succ]
            refine wpAnyH_take (i := 6) (v := ?v7) rfl (by kernel_rfl) (by kernel_rfl) (by kernel_rfl) (fun _ _ _ h => h) (Or.inl ⟨by rfl, ?hy7⟩) hHeld ?rest7
            case hy7 => (intro w' hSw; (try dsimp only at hSw); first | (go_simp; done) | (go_simp; with_reducible rfl))
            simp only [Act.put, List.getElem_toArray, List.getElem_cons_zero, List.getElem_cons_succ, List.setIfInBounds_toArray, List.set_cons_zero, List.set_cons_succ]
            refine wpAnyH_ready (rs := [7]) (by kernel_rfl) (by simp) ?_
            refine AllReadyH.cons rfl (fun K hK => ?_) AllReadyH.nil
            go_simp
            go_at_call 55
            refine (rdBelow 2 u0 _ a len cap zs hr0).mono ?_
            rintro e u1 ⟨v, rfl, ⟨r, rfl, r0, r1⟩, hq, hr1⟩
            have kc1 : u1.cell? ⟨gd, 0, none⟩ = some (.slice A0 n0' c0) ∧ u1.cell? ⟨gd, 1, none⟩ = some (.slice A1 n1' c1) ∧ u1.cell? ⟨gd, 2, none⟩ = some (.slice A2 n2' c2) := ⟨(hq.cell (p := ⟨gd, 0, none⟩) hgl (by simp only; omega)).trans kc0.1, (hq.cell (p := ⟨gd, 1, none⟩) hgl (by simp only; omega)).trans kc0.2.1, (hq.cell (p := ⟨gd, 2, none⟩) hgl (by simp only; omega)).trans kc0.2.2⟩
            have hc1 := hc0.trans hq
            clear hq
            refine hK.out _ _ kc1 (fun hHeld => ?_)
            clear hK K
            (try simp only [Act.put, List.getElem_toArray, List.getElem_cons_zero, List.getElem_cons_succ, List.setIfInBounds_toArray, List.set_cons_zero, List.set_cons_succ])
            refine wpAnyH_take (i := 8) (v := ?v8) rfl (by kernel_rfl) (by kernel_rfl) (by kernel_rfl) (fun _ _ _ h => h) (Or.inl ⟨by rfl, ?hy8⟩) hHeld ?rest8
            case hy8 => (intro w' hSw; (try dsimp only at hSw); first | (go_simp; done) | (go_simp; with_reducible rfl))
            simp only [Act.put, List.getElem_toArray, List.getElem_cons_zero, List.getElem_cons_succ, List.setIfInBounds_toArray, List.set_cons_zero, List.set_cons_succ]
            refine wpAnyH_take (i := 9) (v := ?v9) rfl (by kernel_rfl) (by kernel_rfl) (by kernel_rfl) (fun _ _ _ h => h) (Or.inl ⟨by rfl, ?hy9⟩) hHeld ?rest9
            case hy9 => (intro w' hSw; (try dsimp only at hSw); first | (go_simp; done) | (go_simp; with_reducible rfl))
            simp only [Act.put, List.getElem_toArray, List.getElem_cons_zero, List.getElem_cons_succ, List.setIfInBounds_toArray, List.set_cons_zero, List.set_cons_succ]
            refine wpAnyH_take (i := 10) (v := ?v10) rfl (by kernel_rfl) (by kernel_rfl) (by kernel_rfl) (fun _ _ _ h => h) (Or.inl ⟨by rfl, ?hy10⟩) hHeld ?rest10
            case hy10 => (intro w' hSw; (try dsimp only at hSw); first | (go_simp; done) | (go_simp; with_reducible rfl))
            simp only [Act.put, List.getElem_toArray, List.getElem_cons_zero, List.getElem_cons_succ, List.setIfInBounds_toArray, List.set_cons_zero, List.set_cons_succ]
            refine wpAnyH_done (by kernel_rfl) ?_ _
            refine NoPanic.normal ?_
            clear hHeld
            go_wp2_with fail
            go_meet
            case rel => exact ⟨_, rfl, fun _ => hlt, hc1, hr1⟩
          · have g0 : ¬ (k : Int) < 200 := by omega
            refine wp_region_noPanic ?_
            refine wp_region_held_drew (S := (fun w' => w'.cell? ⟨gd, 0, none⟩ = some (.slice A0 n0' c0) ∧ w'.cell? ⟨gd, 1, none⟩ = some (.slice A1 n1' c1) ∧ w'.cell? ⟨gd, 2, none⟩ = some (.slice A2 n2' c2))) (by kernel_rfl) ⟨p0, p1, p2⟩ (fun hHeld => ?_)
            generalize wr.drew = u0 at *
            refine wpAnyH_take (i := 0) (v := ?v11) rfl (by kernel_rfl) (by kernel_rfl) (by kernel_rfl) (fun _ _ _ h => h) (Or.inl ⟨by rfl, ?hy11⟩) hHeld ?rest11
            case hy11 => (intro w' hSw; (try dsimp only at hSw); first | (go_simp; done) | (go_simp; with_reducible rfl))
            simp only [Act.put, List.getElem_toArray, List.getElem_cons_zero, List.getElem_cons_succ, List.setIfInBounds_toArray, List.set_cons_zero, List.set_cons_succ]
            refine wpAnyH_take (i := 1) (v := ?v12) rfl (by kernel_rfl) (by kernel_rfl) (by kernel_rfl) (fun _ _ _ h => h) (Or.inl ⟨by rfl, ?hy12⟩) hHeld ?rest12
            case hy12 => (intro w' hSw; (try dsimp only at hSw); first | (go_simp; done) | (go_simp; with_reducible rfl))
            simp only [Act.put, List.getElem_toArray, List.getElem_cons_zero, List.getElem_cons_succ, List.setIfInBounds_toArray, List.set_cons_zero, List.set_cons_succ]
            refine wpAnyH_take (i := 2) (v := ?v13) rfl (by kernel_rfl) (by kernel_rfl) (by kernel_rfl) (fun _ _ _ h => h) (Or.inl ⟨by rfl, ?hy13⟩) hHeld ?rest13
            case hy13 => (intro w' hSw; (try dsimp only at hSw); first | (go_simp; done) | (go_simp; with_reducible rfl))
            simp only [Act.put, List.getElem_toArray, List.getElem_cons_zero, List.getElem_cons_succ, List.setIfInBounds_toArray, List.set_cons_zero, List.set_cons_succ]
            refine wpAnyH_take (i := 3) (v := undef) rfl (by kernel_rfl) (by kernel_rfl) (by kernel_rfl) (fun _ _ _ h => h) (Or.inr ⟨by rfl, rfl⟩) hHeld ?_
            simp only [Act.put, List.getElem_toArray, List.getElem_cons_zero, List.getElem_cons_succ, List.setIfInBounds_toArray, List.set_cons_zero, List.set_cons_succ]
            refine wpAnyH_take (i := 4) (v := undef) rfl (by kernel_rfl) (by kernel_rfl) (by kernel_rfl) (fun _ _ _ h => h) (Or.inr ⟨by rfl, rfl⟩) hHeld ?_
            simp only [Act.put, List.getElem_toArray, List.getElem_cons_zero, List.getElem_cons_succ, List.setIfInBounds_toArray, List.set_cons_zero, List.set_cons_succ]
            refine wpAnyH_take (i := 5) (v := undef) rfl (by kernel_rfl) (by kernel_rfl) (by kernel_rfl) (fun _ _ _ h => h) (Or.inr ⟨by rfl, rfl⟩) hHeld ?_
            simp only [Act.put, List.getElem_toArray, List.getElem_cons_zero, List.getElem_cons_succ, List.setIfInBounds_toArray, List.set_cons_zero, List.set_cons_succ]
            refine wpAnyH_take (i := 6) (v := undef) rfl (by kernel_rfl) (by kernel_rfl) (by kernel_rfl) (fun _ _ _ h => h) (Or.inr ⟨by rfl, rfl⟩) hHeld ?_
            simp only [Act.put, List.getElem_toArray, List.getElem_cons_zero, List.getElem_cons_succ, List.setIfInBounds_toArray, List.set_cons_zero, List.set_cons_succ]
            refine wpAnyH_take (i := 7) (v := undef) rfl (by kernel_rfl) (by kernel_rfl) (by kernel_rfl) (fun _ _ _ h => h) (Or.inr ⟨by rfl, rfl⟩) hHeld ?_
            simp only [Act.put, List.getElem_toArray, List.getElem_cons_zero, List.getElem_cons_succ, List.setIfInBounds_toArray, List.set_cons_zero, List.set_cons_succ]
            refine wpAnyH_take (i := 8) (v := undef) rfl (by kernel_rfl) (by kernel_rfl) (by kernel_rfl) (fun _ _ _ h => h) (Or.inr ⟨by rfl, rfl⟩) hHeld ?_
            simp only [Act.put, List.getElem_toArray, List.getElem_cons_zero, List.getElem_cons_succ, List.setIfInBounds_toArray, List.set_cons_zero, List.set_cons_succ]
            refine wpAnyH_take (i := 9) (v := undef) rfl (by kernel_rfl) (by kernel_rfl) (by kernel_rfl) (fun _ _ _ h => h) (Or.inr ⟨by rfl, rfl⟩) hHeld ?_
            simp only [Act.put, List.getElem_toArray, List.getElem_cons_zero, List.getElem_cons_succ, List.setIfInBounds_toArray, List.set_cons_zero, List.set_cons_succ]
            refine wpAnyH_take (i := 10) (v := ?v14) rfl (by kernel_rfl) (by kernel_rfl) (by kernel_rfl) (fun _ _ _ h => h) (Or.inl ⟨by rfl, ?hy14⟩) hHeld ?rest14
            case hy14 => (intro w' hSw; (try dsimp only at hSw); first | (go_simp; done) | (go_simp; with_reducible rfl))
            simp only [Act.put, List.getElem_toArray, List.getElem_cons_zero, List.getElem_cons_succ, List.setIfInBounds_toArray, List.set_cons_zero, List.set_cons_succ]
            refine wpAnyH_done (by kernel_rfl) ?_ _
            refine NoPanic.normal ?_
            clear hHeld
            go_wp2_with fail
            go_meet
            case rel => exact ⟨false, rfl, (fun h => by cases h), hc0, hr0⟩
        case rest =>
          obtain ⟨bb, rfl, hbt, hbc, hrc⟩ := hcut
          have HW := Lib.hid (HW.out.but HG.out hbc hrc)
          have hgl : gd < wr.heap.size := cell_lt p0
          have p0 := (hbc.cell (p := ⟨gd, 0, none⟩) hgl (by simp only; omega)).trans p0
          have p1 := (hbc.cell (p := ⟨gd, 1, none⟩) hgl (by simp only; omega)).trans p1
          have p2 := (hbc.cell (p := ⟨gd, 2, none⟩) hgl (by simp only; omega)).trans p2
          have HT0 := Lib.hid (HT0.out.stays FzR.stays (fun _ h => h) fun q u hq hu => (hbc.cell (cell_lt hu) (by omega)).trans hu)
          have HT1 := Lib.hid (HT1.out.stays FzR.stays (fun _ h => h) fun q u hq hu => (hbc.cell (cell_lt hu) (by omega)).trans hu)
          have HT2 := Lib.hid (HT2.out.stays OzR.stays (fun _ h => h) fun q u hq hu => (hbc.cell (cell_lt hu) (by omega)).trans hu)
          clear hbc hrc hgl
          cases bb
          · go_wp2_with fail
            go_meet
            case rel => exact HW.out.mono (by omega)
          · have hlt := hbt rfl
            have HSZ := Lib.hid (H4.out.sz (by omega))
            go_wp2_with fail
            refine (specDo x ⟨1, ⟨#[98]⟩, ⟨#[]⟩, ⟨#[]⟩⟩ A0 n0' c0 A1 n1' c1 A2 n2' c2 _ _ HT0.out HT1.out HT2.out HSZ.out (by decide)).mono ?_
            rintro e w8 ⟨⟨v, rfl, hv⟩, hq⟩
            have hgc : go < wc.heap.size := by obtain ⟨_, _, _, _, _, -, h2, -⟩ := HW.out; exact lt_of_block h2
            have hrq := rdr_belowD HW.out.rdr hq
            have HW := Lib.hid (HW.out.but HG.out (below_butD hq _) hrq)
            have hgz : wc.heap.size ≤ w8.heap.size := hq.size
            obtain ⟨v0, v1, v2, rfl, k0, k1, k2, -⟩ := id hv
            obtain ⟨E0, m0, e0, rfl⟩ := k0.len
            obtain ⟨E1, m1, e1, rfl⟩ := k1.len
            obtain ⟨E2, m2, e2, rfl⟩ := k2.len
            clear k0 k1 k2
            have hal := (Below.refl w8.heap.size w8).alloc (Nat.le_refl _) (.cells #[.slice E0 m0 e0, .slice E1 m1 e1, .slice E2 m2 e2] 27)
            have HK := Lib.hid (show ReadsK (fun b => w.heap.size + 3 ≤ b ∧ b ≠ gd ∧ b ≠ go) (w8.alloc (.cells #[.slice E0 m0 e0, .slice E1 m1 e1, .slice E2 m2 e2] 27)) (.slice E0 m0 e0) (.slice E1 m1 e1) (.slice E2 m2 e2) _ from (ReadsK.below (ok := fun b => wc.heap.size ≤ b) hv.readsO hal).turn (fun b hb => ⟨by omega, by omega, by omega⟩) (fun _ _ _ h => h))
            have HW9 := Lib.hid (HW.out.but HG.out (below_butD hal _) (rdr_belowD HW.out.rdr hal))
            have HP := Lib.hid (HW9.out.put HG.out H0.out HU.out HK.out (H4.out.act _) (by omega))
            have rt := Row.new w8 27 #[.slice E0 m0 e0, .slice E1 m1 e1, .slice E2 m2 e2]
            have hgn : w8.heap.size ≠ gd := by omega
            clear p0 p1 p2 hv hq hrq hal HK HT0 HT1 HT2 HW
            generalize codeDo x ⟨1, ⟨#[98]⟩, ⟨#[]⟩, ⟨#[]⟩⟩ = kc at *
            go_upto_region 16 with fail
            generalize w8.alloc (.cells #[.slice E0 m0 e0, .slice E1 m1 e1, .slice E2 m2 e2] 27) = w9 at *
            generalize w8.heap.size = gt at *
            obtain ⟨⟨t0, t1, t2⟩, -⟩ := rt.three
            by_cases hkc : kc = 0
            · subst hkc
              obtain ⟨_, _, _, _, _, r1, -⟩ := HW9.out
              obtain ⟨⟨p0, p1, p2⟩, ⟨f0, f1, f2⟩⟩ := r1.three
              clear r1 rt HW9
              go_wp2_with fail
              go_roundw
              case rel => exact ⟨k + 1, by omega, by go_num, Lib.hid (HP.out.mono (by have e : Oz.sz ⟨1, ⟨#[98]⟩, ⟨#[]⟩, ⟨#[]⟩⟩ = 1 := rfl; omega))⟩
              case measure => simp [intOf]; omega
            · clear HP rt
              go_wp2_with fail
              go_roundw
              case rel => exact ⟨k + 1, by omega, by go_num, Lib.hid (HW9.out.mono (by omega))⟩
              case measure => simp [intOf]; omega
    · go_wp2_with fail
      go_meet
      case rel => exact HW.out.mono (by omega)
  case rest =>
    obtain ⟨v0, v1, v2, x, o, h1, h2, h3, h4, h5, h6, h7, h8, -⟩ := hcut
    obtain ⟨A0, n0', c0, A1, n1', c1, A2, n2', c2, rfl, rfl, rfl, -, -, -⟩ := id h3
    obtain ⟨⟨p0, p1, p2⟩, -⟩ := h1.three
    obtain ⟨⟨s0, s1, s2, s3⟩, -⟩ := h2.all4
    have H4 := Lib.hid h4
    have H5 := Lib.hid h5
    have H6 := Lib.hid (show Row wc.drew w.heap.size 27 _ from h6)
    have H7 := Lib.hid (show Row wc.drew (w.heap.size + 1) 36 _ from h7)
    have H8 := Lib.hid h8.drew
    have H3 := Lib.hid (show ReadsK _ wc.drew _ _ _ x from h3.turn (fun _ h => h) (fun _ _ _ h => h))
    clear h1 h2 h3 h4 h5 h6 h7 h8
    obtain ⟨⟨r0, r1, r2⟩, ⟨f0, f1, f2⟩⟩ := H6.out.three
    obtain ⟨⟨r3, r4, r5, r6⟩, ⟨f3, f4, f5, f6⟩⟩ := H7.out.all4
    go_upto_region 18 with fail
    have k0 : wc.drew.cell? ⟨gd, 0, none⟩ = some (.slice A0 n0' c0) ∧ wc.drew.cell? ⟨gd, 1, none⟩ = some (.slice A1 n1' c1) ∧ wc.drew.cell? ⟨gd, 2, none⟩ = some (.slice A2 n2' c2) ∧ wc.drew.cell? ⟨go, 0, none⟩ = some (.int .i64 o.kind) ∧ wc.drew.cell? ⟨go, 1, none⟩ = some (.string o.name) ∧ wc.drew.cell? ⟨go, 2, none⟩ = some (.string o.to) ∧ wc.drew.cell? ⟨go, 3, none⟩ = some (.string o.data) := ⟨p0, p1, p2, s0, s1, s2, s3⟩
    refine wp_region_noPanic ?_
    refine wp_region_held_drew (S := (fun w' => w'.cell? ⟨gd, 0, none⟩ = some (.slice A0 n0' c0) ∧ w'.cell? ⟨gd, 1, none⟩ = some (.slice A1 n1' c1) ∧ w'.cell? ⟨gd, 2, none⟩ = some (.slice A2 n2' c2) ∧ w'.cell? ⟨go, 0, none⟩ = some (.int .i64 o.kind) ∧ w'.cell? ⟨go, 1, none⟩ = some (.string o.name) ∧ w'.cell? ⟨go, 2, none⟩ = some (.string o.to) ∧ w'.cell? ⟨go, 3, none⟩ = some (.string o.data))) (by kernel_rfl) ⟨p0, p1, p2, s0, s1, s2, s3⟩ (fun hHeld => ?_)
    generalize wc.drew = u0 at *
    refine wpAnyH_take (i := 0) (v := ?v15) rfl (by kernel_rfl) (by kernel_rfl) (by kernel_rfl) (fun _ _ _ h => h) (Or.inl ⟨by rfl, ?hy15⟩) hHeld ?rest15
    case hy15 => (intro w' hSw; (try dsimp only at hSw); first | (go_simp; done) | (go_simp; with_reducible rfl))
    simp only [Act.put, List.getElem_toArray, List.getElem_cons_zero, List.getElem_cons_succ, List.setIfInBounds_toArray, List.set_cons_zero, List.set_cons_succ]
    refine wpAnyH_take (i := 1) (v := ?v16) rfl (by kernel_rfl) (by kernel_rfl) (by kernel_rfl) (fun _ _ _ h => h) (Or.inl ⟨by rfl, ?hy16⟩) hHeld ?rest16
    case hy16 => (intro w' hSw; (try dsimp only at hSw); first | (go_simp; done) | (go_simp; with_reducible rfl))
    simp only [Act.put, List.getElem_toArray, List.getElem_cons_zero, List.getElem_cons_succ, List.setIfInBounds_toArray, List.set_cons_zero, List.set_cons_succ]
    refine wpAnyH_ready (rs := [2]) (by kernel_rfl) (by simp) ?_
    refine AllReadyH.cons rfl (fun K hK => ?_) AllReadyH.nil
    go_simp
    refine hK.out _ _ ⟨cellOff (p := ⟨w.heap.size, 2, none⟩) (cellOff (p := ⟨w.heap.size, 1, none⟩) (cellOff (p := ⟨w.heap.size, 0, none⟩) (k0.1) (show w.heap.size ≠ gd by omega)) (show w.heap.size ≠ gd by omega)) (show w.heap.size ≠ gd by omega), cellOff (p := ⟨w.heap.size, 2, none⟩) (cellOff (p := ⟨w.heap.size, 1, none⟩) (cellOff (p := ⟨w.heap.size, 0, none⟩) (k0.2.1) (show w.heap.size ≠ gd by omega)) (show w.heap.size ≠ gd by omega)) (show w.heap.size ≠ gd by omega), cellOff (p := ⟨w.heap.size, 2, none⟩) (cellOff (p := ⟨w.heap.size, 1, none⟩) (cellOff (p := ⟨w.heap.size, 0, none⟩) (k0.2.2.1) (show w.heap.size ≠ gd by omega)) (show w.heap.size ≠ gd by omega)) (show w.heap.size ≠ gd by omega), cellOff (p := ⟨w.heap.size, 2, none⟩) (cellOff (p := ⟨w.heap.size, 1, none⟩) (cellOff (p := ⟨w.heap.size, 0, none⟩) (k0.2.2.2.1) (show w.heap.size ≠ go by omega)) (show w.heap.size ≠ go by omega)) (show w.heap.size ≠ go by omega), cellOff (p := ⟨w.heap.size, 2, none⟩) (cellOff (p := ⟨w.heap.size, 1, none⟩) (cellOff (p := ⟨w.heap.size, 0, none⟩) (k0.2.2.2.2.1) (show w.heap.size ≠ go by omega)) (show w.heap.size ≠ go by omega)) (show w.heap.size ≠ go by omega), cellOff (p := ⟨w.heap.size, 2, none⟩) (cellOff (p := ⟨w.heap.size, 1, none⟩) (cellOff (p := ⟨w.heap.size, 0, none⟩) (k0.2.2.2.2.2.1) (show w.heap.size ≠ go by omega)) (show w.heap.size ≠ go by omega)) (show w.heap.size ≠ go by omega), cellOff (p := ⟨w.heap.size, 2, none⟩) (cellOff (p := ⟨w.heap.size, 1, none⟩) (cellOff (p := ⟨w.heap.size, 0, none⟩) (k0.2.2.2.2.2.2) (show w.heap.size ≠ go by omega)) (show w.heap.size ≠ go by omega)) (show w.heap.size ≠ go by omega)⟩ (fun hHeld => ?_)
    clear hK K
    (try simp only [Act.put, List.getElem_toArray, List.getElem_cons_zero, List.getElem_cons_succ, List.setIfInBounds_toArray, List.set_cons_zero, List.set_cons_succ])
    refine wpAnyH_ready (rs := [3]) (by kernel_rfl) (by simp) ?_
    refine AllReadyH.cons rfl (fun K hK => ?_) AllReadyH.nil
    go_simp
    refine hK.out _ _ ⟨cellOff (p := ⟨w.heap.size + 1, 3, none⟩) (cellOff (p := ⟨w.heap.size + 1, 2, none⟩) (cellOff (p := ⟨w.heap.size + 1, 1, none⟩) (cellOff (p := ⟨w.heap.size + 1, 0, none⟩) (cellOff (p := ⟨w.heap.size, 2, none⟩) (cellOff (p := ⟨w.heap.size, 1, none⟩) (cellOff (p := ⟨w.heap.size, 0, none⟩) (k0.1) (show w.heap.size ≠ gd by omega)) (show w.heap.size ≠ gd by omega)) (show w.heap.size ≠ gd by omega)) (show w.heap.size + 1 ≠ gd by omega)) (show w.heap.size + 1 ≠ gd by omega)) (show w.heap.size + 1 ≠ gd by omega)) (show w.heap.size + 1 ≠ gd by omega), cellOff (p := ⟨w.heap.size + 1, 3, none⟩) (cellOff (p := ⟨w.heap.size + 1, 2, none⟩) (cellOff (p := ⟨w.heap.size + 1, 1, none⟩) (cellOff (p := ⟨w.heap.size + 1, 0, none⟩) (cellOff (p := ⟨w.heap.size, 2, none⟩) (cellOff (p := ⟨w.heap.size, 1, none⟩) (cellOff (p := ⟨w.heap.size, 0, none⟩) (k0.2.1) (show w.heap.size ≠ gd by omega)) (show w.heap.size ≠ gd by omega)) (show w.heap.size ≠ gd by omega)) (show w.heap.size + 1 ≠ gd by omega)) (show w.heap.size + 1 ≠ gd by omega)) (show w.heap.size + 1 ≠ gd by omega)) (show w.heap.size + 1 ≠ gd by omega), cellOff (p := ⟨w.heap.size + 1, 3, none⟩) (cellOff (p := ⟨w.heap.size + 1, 2, none⟩) (cellOff (p := ⟨w.heap.size + 1, 1, none⟩) (cellOff (p := ⟨w.heap.size + 1, 0, none⟩) (cellOff (p := ⟨w.heap.size, 2, none⟩) (cellOff (p := ⟨w.heap.size, 1, none⟩) (cellOff (p := ⟨w.heap.size, 0, none⟩) (k0.2.2.1) (show w.heap.size ≠ gd by omega)) (show w.heap.size ≠ gd by omega)) (show w.heap.size ≠ gd by omega)) (show w.heap.size + 1 ≠ gd by omega)) (show w.heap.size + 1 ≠ gd by omega)) (show w.heap.size + 1 ≠ gd by omega)) (show w.heap.size + 1 ≠ gd by omega), cellOff (p := ⟨w.heap.size + 1, 3, none⟩) (cellOff (p := ⟨w.heap.size + 1, 2, none⟩) (cellOff (p := ⟨w.heap.size + 1, 1, none⟩) (cellOff (p := ⟨w.heap.size + 1, 0, none⟩) (cellOff (p := ⟨w.heap.size, 2, none⟩) (cellOff (p := ⟨w.heap.size, 1, none⟩) (cellOff (p := ⟨w.heap.size, 0, none⟩) (k0.2.2.2.1) (show w.heap.size ≠ go by omega)) (show w.heap.size ≠ go by omega)) (show w.heap.size ≠ go by omega)) (show w.heap.size + 1 ≠ go by omega)) (show w.heap.size + 1 ≠ go by omega)) (show w.heap.size + 1 ≠ go by omega)) (show w.heap.size + 1 ≠ go by omega), cellOff (p := ⟨w.heap.size + 1, 3, none⟩) (cellOff (p := ⟨w.heap.size + 1, 2, none⟩) (cellOff (p := ⟨w.heap.size + 1, 1, none⟩) (cellOff (p := ⟨w.heap.size + 1, 0, none⟩) (cellOff (p := ⟨w.heap.size, 2, none⟩) (cellOff (p := ⟨w.heap.size, 1, none⟩) (cellOff (p := ⟨w.heap.size, 0, none⟩) (k0.2.2.2.2.1) (show w.heap.size ≠ go by omega)) (show w.heap.size ≠ go by omega)) (show w.heap.size ≠ go by omega)) (show w.heap.size + 1 ≠ go by omega)) (show w.heap.size + 1 ≠ go by omega)) (show w.heap.size + 1 ≠ go by omega)) (show w.heap.size + 1 ≠ go by omega), cellOff (p := ⟨w.heap.size + 1, 3, none⟩) (cellOff (p := ⟨w.heap.size + 1, 2, none⟩) (cellOff (p := ⟨w.heap.size + 1, 1, none⟩) (cellOff (p := ⟨w.heap.size + 1, 0, none⟩) (cellOff (p := ⟨w.heap.size, 2, none⟩) (cellOff (p := ⟨w.heap.size, 1, none⟩) (cellOff (p := ⟨w.heap.size, 0, none⟩) (k0.2.2.2.2.2.1) (show w.heap.size ≠ go by omega)) (show w.heap.size ≠ go by omega)) (show w.heap.size ≠ go by omega)) (show w.heap.size + 1 ≠ go by omega)) (show w.heap.size + 1 ≠ go by omega)) (show w.heap.size + 1 ≠ go by omega)) (show w.heap.size + 1 ≠ go by omega), cellOff (p := ⟨w.heap.size + 1, 3, none⟩) (cellOff (p := ⟨w.heap.size + 1, 2, none⟩) (cellOff (p := ⟨w.heap.size + 1, 1, none⟩) (cellOff (p := ⟨w.heap.size + 1, 0, none⟩) (cellOff (p := ⟨w.heap.size, 2, none⟩) (cellOff (p := ⟨w.heap.size, 1, none⟩) (cellOff (p := ⟨w.heap.size, 0, none⟩) (k0.2.2.2.2.2.2) (show w.heap.size ≠ go by omega)) (show w.heap.size ≠ go by omega)) (show w.heap.size ≠ go by omega)) (show w.heap.size + 1 ≠ go by omega)) (show w.heap.size + 1 ≠ go by omega)) (show w.heap.size + 1 ≠ go by omega)) (show w.heap.size + 1 ≠ go by omega)⟩ (fun hHeld => ?_)
    clear hK K
    (try simp only [Act.put, List.getElem_toArray, List.getElem_cons_zero, List.getElem_cons_succ, List.setIfInBounds_toArray, List.set_cons_zero, List.set_cons_succ])
    refine wpAnyH_done (by kernel_rfl) ?_ _
    refine NoPanic.normal ?_
    clear hHeld
    go_wp2_with fail
    have hA := ((((((Row.set (Row.set (Row.set H6.out 0 (.slice A0 n0' c0)) 1 (.slice A1 n1' c1)) 2 (.slice A2 n2' c2)).far (p := ⟨w.heap.size + 1, 0, none⟩) (by simp) (.int .i64 o.kind)).far (p := ⟨w.heap.size + 1, 1, none⟩) (by simp) (.string o.name)).far (p := ⟨w.heap.size + 1, 2, none⟩) (by simp) (.string o.to)).far (p := ⟨w.heap.size + 1, 3, none⟩) (by simp) (.string o.data)))
    have hB := Row.set (Row.set (Row.set (Row.set (((H7.out.far (p := ⟨w.heap.size, 0, none⟩) (by simp) (.slice A0 n0' c0)).far (p := ⟨w.heap.size, 1, none⟩) (by simp) (.slice A1 n1' c1)).far (p := ⟨w.heap.size, 2, none⟩) (by simp) (.slice A2 n2' c2)) 0 (.int .i64 o.kind)) 1 (.string o.name)) 2 (.string o.to)) 3 (.string o.data)
    refine bodyPost_ret (results_cell_cell (p := 2) (u := 3) (ty := 27) (ty2 := 36) rfl _ _ w.heap.size (w.heap.size + 1) 27 36 #[.slice A0 n0' c0, .slice A1 n1' c1, .slice A2 n2' c2] #[.int .i64 o.kind, .string o.name, .string o.to, .string o.data] (0, 0) (0, 0) _ _ rfl rfl hA hB Try.underlying27 rfl HI.out Try.underlying36 rfl HO.out) rfl ⟨_, rfl, ⟨_, _, _, x, o, rfl, ReadsK.reads (ok := fun b => w.heap.size + 3 ≤ b ∧ b ≠ gd ∧ b ≠ go) ?_, H4.out, H5.out⟩, ?_⟩
    · refine ReadsK.set (ReadsK.set (ReadsK.set (ReadsK.set (ReadsK.set (ReadsK.set (ReadsK.set (H3.out) (fun b hb => by simp; omega) _) (fun b hb => by simp; omega) _) (fun b hb => by simp; omega) _) (fun b hb => by simp; omega) _) (fun b hb => by simp; omega) _) (fun b hb => by simp; omega) _) (fun b hb => by simp; omega) _
    · exact Below.setCell (Below.setCell (Below.setCell (Below.setCell (Below.setCell (Below.setCell (Below.setCell (H8.out) (by simp) _) (by simp) _) (by simp) _) (by simp) _) (by simp) _) (by simp) _) (by simp) _
end Go.Proofs.Ytkinegapnknhiaa
namespace Go.Proofs.Ytkinegapnknhiaa
open Go.RowKit
set_option linter.unusedVariables false
set_option linter.unusedSimpArgs false

set_option maxRecDepth 100000 in
theorem lawsSameFiles (A B : Option Addr) (n c m d : Nat) (l k : List Fz) (ok ok' : Nat → Prop) (w : World) (h : Sl FzR 2 ok w A n l) (h' : Sl FzR 2 ok' w B m k) (hn : n ≤ 1048576) (hm : m ≤ 1048576) :
    Calls Try.prog 18 #[.slice A n c, .slice B m d] w fun e w' => e = .returned (.bool (sameF l k)) ∧ Below w.heap.size w w' := by
  obtain rfl : l.length = n := h.1
  obtain rfl : k.length = m := h'.1
  by_cases hne : (l.length : Int) = k.length
  · have hl : l.length = k.length := by omega
    have HT := Lib.hid (sameF_take hl)
    go_enter Try.func18, Try.ntmps18
    go_wp2
    go_loopw [5] (fun i wr => ∃ j : Nat, j ≤ l.length ∧ i = .int .i64 j ∧ Hid (sameF l k = sameF (l.drop j) (k.drop j)) ∧ Below w.heap.size w wr) (fun i _ => l.length - (intOf i).toNat)
    case atStart => exact ⟨0, by omega, rfl, Lib.hid rfl, Below.refl _ _⟩
    case round =>
      obtain ⟨j, hj, rfl, hs, hb⟩ := hrel
      by_cases hlt : j < l.length
      · have hlt' : j < k.length := by omega
        obtain ⟨b, off, -, rfl, q0, q1⟩ := FzR.at_ (h.below FzR.stays hb) hlt
        obtain ⟨b', off', -, rfl, r0, r1⟩ := FzR.at_ (h'.below FzR.stays hb) hlt'
        have i0 : (0 : Int) ≤ j := by omega
        have i1 : (j : Int) < l.length := by omega
        have i2 : (j : Int) < k.length := by omega
        have HS := Lib.hid (hs.out.trans (HT.out j hlt hlt hlt'))
        cases e0 : (l[j].name.toList == k[j].name.toList)
        · have HF := Lib.hid (show sameF l k = false by rw [HS.out]; unfold sameFz; rw [e0]; rfl)
          go_wp2_with fail
          go_quiet (fail)
          go_wp2
          go_ret
          exact ⟨retB HF.out.symm, below_dq14 hb _⟩
        · cases e1 : (l[j].data.toList == k[j].data.toList)
          · have HF := Lib.hid (show sameF l k = false by rw [HS.out]; unfold sameFz; rw [e0, e1]; rfl)
            go_wp2_with fail
            go_quiet (fail)
            go_wp2
            go_ret
            exact ⟨retB HF.out.symm, below_dq14 hb _⟩
          · have HG := Lib.hid (show sameF l k = sameF (l.drop (j + 1)) (k.drop (j + 1)) by rw [HS.out]; unfold sameFz; rw [e0, e1]; rfl)
            go_wp2_with fail
            go_quiet (fail)
            go_wp2
            go_roundw
            case rel => exact ⟨j + 1, by omega, by go_num, HG, below_dq14 hb _⟩
            case measure => simp [intOf]; omega
      · have HG := Lib.hid (show sameF l k = true by rw [hs.out, List.drop_eq_nil_of_le (by omega), List.drop_eq_nil_of_le (by omega)]; rfl)
        clear hs
        go_wp2
        go_ret
        exact ⟨retB HG.out.symm, hb⟩
  · have HF := Lib.hid (sameF_len (l := l) (m := k) (by omega))
    have hne' : ((l.length : Int) == k.length) = false := by simpa using hne
    go_enter Try.func18, Try.ntmps18
    go_wp2
    go_ret
    exact ⟨retB HF.out.symm, Below.refl _ _⟩
end Go.Proofs.Ytkinegapnknhiaa
