/-
  Several texts in one: DiskReplFit, DoneMath, DrawDisk, DrawDisk2, DrawDisk3, DrawRep, CrashMath, CrashRise, CrashKept, CrashImpl, CrashSpec, CrashFit, CrashAll, ReplMath, ReplSz.
-/
import Derived.Test.YtkinegapnknhiaaGa
import Derived.Test.YtkinegapnknhiaaFrDraw
import Derived.Deep.CutRange
import Derived.Deep.CutBlock
import Derived.StillTailTactics
import Derived.Deep.QuietTactic
import Derived.BigQuiet
namespace Go.Proofs.Ytkinegapnknhiaa
open Go.RowKit
set_option linter.unusedVariables false
set_option linter.unusedSimpArgs false

def OpP (o : Oz) : Prop := (o.to.size ≤ 100 ∨ o.kind = 2) ∧ (o.kind = 1 ∨ o.data.size = 0)
theorem codeD_formed {x : Dz} {o : Oz} (h : codeD x o = 0) : formB o = true := by
  unfold codeD at h
  cases hf : formB o
  · rw [hf] at h; cases h
  · rfl
theorem op_sz {x : Dz} {o : Oz} (h : codeD x o = 0) (hp : OpP o) : o.sz ≤ 1048576 := by
  obtain ⟨h1, h2⟩ := form_kinds (codeD_formed h)
  have h3 := filesB_bytes (codeD_zero h)
  have hnm : ∀ s : ByteArray, nameB s = true → s.size ≤ 100 := fun s hs => by simp only [nameB, Bool.and_eq_true, decide_eq_true_eq] at hs; exact hs.2
  have hto : o.to.size ≤ 100 := by
    rcases hp.1 with ht | ht
    · exact ht
    · rcases h2 with h2 | ⟨-, h2⟩ | h2
      · omega
      · exact hnm _ h2
      · omega
  have hda : o.data.size ≤ 200000 := by
    rcases hp.2 with hk | hk
    · rw [doF_app hk] at h3
      have h4 := findF_put (l := x.live) o.name ((findF x.live o.name.toList).elim o.data (· ++ o.data)) o.name.toList
      rw [if_pos rfl] at h4
      have h5 := findF_size h4
      have h6 : o.data.size ≤ ((findF x.live o.name.toList).elim o.data (· ++ o.data)).size := by
        cases findF x.live o.name.toList with
        | none => exact Nat.le_refl _
        | some e => simp
      have h7 := h3.2
      simp only at h7
      omega
    · omega
  have := hnm _ h1
  unfold Oz.sz
  omega
theorem seqD_fits : ∀ (ops : List Oz) (x : Dz), x.fits → rightD x → (∀ o ∈ ops, OpP o) → (seqD ops x).1.fits
  | [], x, h, _, _ => h
  | o :: r, x, h, hr, hp => by
    by_cases hc : codeD x o = 0
    · rw [seqD_step hc]
      exact seqD_fits r _ (flat_fits h (op_sz hc (hp o (by simp))) (by have := hr.2.2; omega)) (actD_right hr hc) fun p hm => hp p (by simp [hm])
    · rw [seqD_stop hc]; exact h
theorem opsR_P (l : List Fz) (n d : ByteArray) : ∀ o ∈ opsR l n d, OpP o := by
  have h0 : (⟨#[]⟩ : ByteArray).size = 0 := rfl
  intro o ho
  unfold opsR putO at ho
  rcases List.mem_append.1 ho with ho | ho
  · unfold cutO at ho
    split at ho
    · rw [List.mem_singleton.1 ho]; exact ⟨.inl (by show (⟨#[]⟩ : ByteArray).size ≤ 100; omega), .inr h0⟩
    · cases ho
  · rcases List.mem_cons.1 ho with rfl | ho
    · exact ⟨.inl (by show (⟨#[]⟩ : ByteArray).size ≤ 100; omega), .inl rfl⟩
    · rw [List.mem_singleton.1 ho]; exact ⟨.inr rfl, .inr h0⟩
theorem replD_fits {x : Dz} {n d : ByteArray} (h : x.sz ≤ 1048576) : (replD x n d).fits := by
  have h1 := Dz.fits_of h
  unfold replD
  split
  · rename_i hd
    have hp := diskB_parts hd
    split
    · exact seqD_fits _ _ h1 ⟨hp.1, h1.2.1.1, hp.2.2⟩ (opsR_P _ _ _)
    · exact h1
  · exact ⟨by simp, by simp, by simp⟩
end Go.Proofs.Ytkinegapnknhiaa
namespace Go.Proofs.Ytkinegapnknhiaa
open Go.RowKit
set_option linter.unusedVariables false
set_option linter.unusedSimpArgs false

theorem stepsF_snoc : ∀ (ops : List Oz) (l : List Fz) {m : List Fz} {o : Oz}, stepsF l ops = some m → formB o = true → (doF m o).2 = true → filesB (doF m o).1 = true → stepsF l (ops ++ [o]) = some (doF m o).1
  | [], l, m, o, h, hf, hd, hr => by
    injection h with h
    subst h
    show (if formB o && (doF l o).2 && filesB (doF l o).1 then some (doF l o).1 else none) = _
    rw [hf, hd, hr]
    rfl
  | p :: r, l, m, o, h, hf, hd, hr => by
    unfold stepsF at h
    show (if formB p && (doF l p).2 && filesB (doF l p).1 then stepsF (doF l p).1 (r ++ [o]) else none) = _
    split at h
    · rename_i hp
      rw [if_pos hp]
      exact stepsF_snoc r _ h hf hd hr
    · cases h
theorem codeD_done {x : Dz} {o : Oz} (h : codeD x o = 0) : formB o = true ∧ (doF x.live o).2 = true ∧ x.ops.length ≠ 200 ∧ filesB (doF x.live o).1 = true := by
  have h1 := codeD_formed h
  have h2 := codeD_zero h
  refine ⟨h1, ?_, ?_, h2⟩
  · cases hd : (doF x.live o).2
    · have := (codeD_none h1 hd).1; rw [h] at this; cases this
    · rfl
  · intro hm
    cases hd : (doF x.live o).2
    · have := (codeD_none h1 hd).1; rw [h] at this; cases this
    · have := (codeD_many h1 hd hm).1; rw [h] at this; cases this
theorem actD_done {x : Dz} {o : Oz} (h : codeD x o = 0) : actD x o = ⟨(doF x.live o).1, x.safe, x.ops ++ [o]⟩ := by unfold actD; rw [if_pos h]
theorem diskB_done {x : Dz} {o : Oz} (hd : diskB x = true) (h : codeD x o = 0) : diskB ⟨(doF x.live o).1, x.safe, x.ops ++ [o]⟩ = true := by
  obtain ⟨h1, h2, h3, h4⟩ := codeD_done h
  obtain ⟨p1, p2, p3⟩ := diskB_parts hd
  have hs : stepsF x.safe x.ops = some x.live := by
    unfold diskB at hd
    simp only [Bool.and_eq_true] at hd
    cases hs : stepsF x.safe x.ops with
    | none => rw [hs] at hd; exact absurd hd.2 (by simp)
    | some m => rw [hs] at hd; rw [sameF_iff.1 hd.2]
  have h5 := stepsF_snoc x.ops x.safe hs h1 h2 h4
  unfold diskB
  simp only [Bool.and_eq_true, decide_eq_true_eq]
  refine ⟨⟨⟨h4, p2⟩, by rw [List.length_append, List.length_singleton]; omega⟩, ?_⟩
  rw [h5]
  exact sameF_iff.2 rfl
theorem append_nilB (s : ByteArray) : (⟨#[]⟩ : ByteArray) ++ s = s := by
  apply ByteArray.ext
  simp
/-- Behind an append the file has its data and what was appended. -/
theorem done_append {x : Dz} {o : Oz} (hd : diskB x = true) (h : codeD x o = 0) (hk : o.kind = 1) : readT (actDo x o) o.name = readT x o.name ++ o.data ∧ readK (actDo x o) o.name = true := by
  have hy := diskB_done hd h
  rw [(doD_yes (o := o) hd).2, actD_done h]
  have hf : findF (doF x.live o).1 o.name.toList = some ((findF x.live o.name.toList).elim o.data (· ++ o.data)) := by
    unfold doF
    rw [if_pos hk]
    show findF (putF _ _ _) _ = _
    rw [findF_put, if_pos rfl]
  have h1 := read_some (x := ⟨(doF x.live o).1, x.safe, x.ops ++ [o]⟩) hy hf
  refine ⟨h1.1.trans ?_, h1.2⟩
  unfold readT readL
  rw [hd]
  cases findF x.live o.name.toList with
  | none => exact (append_nilB _).symm
  | some d => rfl
theorem done_found {x : Dz} {o : Oz} (h : codeD x o = 0) (hk : o.kind ≠ 1) : ∃ d, findF x.live o.name.toList = some d := by
  have h2 := (codeD_done h).2.1
  unfold doF at h2
  rw [if_neg hk] at h2
  cases hf : findF x.live o.name.toList with
  | none => rw [hf] at h2; cases h2
  | some d => exact ⟨d, rfl⟩
/-- Behind a renaming its data are there under the other name only. -/
theorem done_rename {x : Dz} {o : Oz} (hd : diskB x = true) (h : codeD x o = 0) (hk : o.kind = 2) : readT (actDo x o) o.to = readT x o.name ∧ readK (actDo x o) o.to = true ∧ readK (actDo x o) o.name = (o.to.toList == o.name.toList) := by
  have hy := diskB_done hd h
  obtain ⟨d, hf⟩ := done_found h (by omega)
  rw [(doD_yes (o := o) hd).2, actD_done h]
  have e : (doF x.live o).1 = putF (cutF x.live o.name.toList) o.to d := by
    unfold doF
    rw [if_neg (by omega), hf]
    show (if o.kind = 2 then _ else _) = _
    rw [if_pos hk]
  have h1 := read_some (x := ⟨(doF x.live o).1, x.safe, x.ops ++ [o]⟩) (s := o.to) hy (show findF (doF x.live o).1 o.to.toList = some d by rw [e, findF_put, if_pos rfl])
  refine ⟨h1.1.trans (read_some hd hf).1.symm, h1.2, ?_⟩
  have hn : findF (doF x.live o).1 o.name.toList = if o.to.toList = o.name.toList then some d else none := by
    rw [e, findF_put]
    split
    · rfl
    · rw [findF_cut, if_pos rfl]
  by_cases ht : o.to.toList = o.name.toList
  · rw [if_pos ht] at hn
    rw [(read_some (x := ⟨(doF x.live o).1, x.safe, x.ops ++ [o]⟩) (s := o.name) hy hn).2]
    exact (beq_iff_eq.2 ht).symm
  · rw [if_neg ht] at hn
    rw [(read_none (x := ⟨(doF x.live o).1, x.safe, x.ops ++ [o]⟩) (s := o.name) hn).2]
    exact (beq_eq_false_iff_ne.2 ht).symm
theorem done_remove {x : Dz} {o : Oz} (hd : diskB x = true) (h : codeD x o = 0) (hk : o.kind = 3) : readK (actDo x o) o.name = false := by
  obtain ⟨d, hf⟩ := done_found h (by omega)
  rw [(doD_yes (o := o) hd).2, actD_done h]
  have e : (doF x.live o).1 = cutF x.live o.name.toList := by
    unfold doF
    rw [if_neg (by omega), hf]
    show (if o.kind = 2 then _ else _) = _
    rw [if_neg (by omega)]
  exact (read_none (x := ⟨(doF x.live o).1, x.safe, x.ops ++ [o]⟩) (s := o.name) (show findF (doF x.live o).1 o.name.toList = none by rw [e, findF_cut, if_pos rfl])).2
theorem kind_three {o : Oz} (h : formB o = true) : o.kind = 1 ∨ o.kind = 2 ∨ o.kind = 3 := by
  by_cases h1 : o.kind = 1
  · exact .inl h1
  by_cases h2 : o.kind = 2
  · exact .inr (.inl h2)
  by_cases h3 : o.kind = 3
  · exact .inr (.inr h3)
  rw [form_other h1 h2 h3] at h
  cases h
theorem readT_size {x : Dz} (s : ByteArray) : (readT x s).size ≤ 200000 := by
  unfold readT readL
  cases hd : diskB x
  · exact Nat.zero_le _
  have h1 := (filesB_bytes (diskB_parts hd).1).2
  cases hf : findF x.live s.toList with
  | none => exact Nat.zero_le _
  | some d => have := findF_size hf; show d.size ≤ _; omega
end Go.Proofs.Ytkinegapnknhiaa
namespace Go.Proofs.Ytkinegapnknhiaa
open Go.RowKit
set_option linter.unusedVariables false
set_option linter.unusedSimpArgs false

theorem heap_size_alloc1 (w : World) (o : Obj) : (w.alloc o).heap.size = w.heap.size + 1 := by simp
theorem Row.butR {R : Nat} {w w' : World} {g : Nat} {T : TypeId} {cs : Array Value} (h : Row w g T cs) (hb : But R w w') (hg : g ≠ R) : Row w' g T cs := (hb.block g (lt_of_block h) hg).trans h
theorem OwnG.butR {α : Type} {T : TypeId} {sz : Nat} {f : α → List Value} {w w' : World} {base R : Nat} {v : Value} {xs : List α} (h : OwnG T sz f w base v xs) (hb : But R w w') (hR : R < base) : OwnG T sz f w' base v xs := by
  refine ⟨h.1, ?_⟩
  rcases h.2 with h | ⟨g, cap, cur, rfl, h1, h2, h3⟩
  · exact .inl h
  · exact .inr ⟨g, cap, cur, rfl, h1, (hb.block g (lt_of_block h2) (by omega)).trans h2, h3⟩
theorem DzA.butR {w w' : World} {base R : Nat} {v : Value} {x : Dz} (h : DzA w base v x) (hb : But R w w') (hR : R < base) : DzA w' base v x := by
  obtain ⟨v0, v1, v2, e, k0, k1, k2, hd⟩ := h
  exact ⟨v0, v1, v2, e, OwnG.butR k0 hb hR, OwnG.butR k1 hb hR, OwnG.butR k2 hb hR, hd⟩
theorem below_butD {w w' : World} (h : Below w.heap.size w w') (R : Nat) : But R w w' := ⟨h.os, h.tape, h.output, h.size, fun k hk _ => h.block k hk⟩
theorem rdr_belowD {w w' : World} {R : Nat} {a : Option Addr} {len cap : Nat} {zs : List Int} (h : Rdr w R a len cap zs) (hb : Below w.heap.size w w') : Rdr w' R a len cap zs := by
  have hR : R < w.heap.size := cell_lt h.code
  obtain ⟨i, hi, hi1⟩ := h.place
  exact ⟨(hb.cell (p := ⟨R, 0, none⟩) hR).trans h.code, ⟨i, hi, (hb.cell (p := ⟨R, 1, none⟩) hR).trans hi1⟩, (hb.frozen (p := ⟨R, 1, none⟩) hR).trans h.free, h.row.below hb, h.apart⟩
/-- An own disk is read behind what turns the reader only. -/
theorem DzA.readsBut {w : World} {base R : Nat} {A0 : Option Addr} {n0 c0 : Nat} {A1 : Option Addr} {n1 c1 : Nat} {A2 : Option Addr} {n2 c2 : Nat} {x : Dz} (h : DzA w base (.agg #[.slice A0 n0 c0, .slice A1 n1 c1, .slice A2 n2 c2]) x) (hR : R < base) :
    ∀ u, But R w u → Sl FzR 2 (fun _ => True) u A0 n0 x.live ∧ Sl FzR 2 (fun _ => True) u A1 n1 x.safe ∧ Sl OzR 4 (fun _ => True) u A2 n2 x.ops := fun u hu => by
  obtain ⟨B0, m0, d0, B1, m1, d1, B2, m2, d2, e0, e1, e2, s0, s1, s2⟩ := (h.butR hu hR).reads
  injection e0 with ea eb ec
  injection e1 with fa fb fc
  injection e2 with ga gb gc
  subst ea eb ec fa fb fc ga gb gc
  exact ⟨s0, s1, s2⟩
/-- The size of files that are right. -/
theorem szL_names {l : List Fz} (h : ∀ y ∈ l, y.name.size ≤ 100) : szL Fz.sz l ≤ 101 * l.length + bytesF l := by
  unfold szL bytesF
  induction l with
  | nil => simp
  | cons y r ih =>
    have h1 := h y (List.mem_cons_self ..)
    have h2 := ih fun z hz => h z (List.mem_cons_of_mem _ hz)
    simp only [List.map_cons, List.sum_cons, List.length_cons] at h2 ⊢
    unfold Fz.sz at h2 ⊢
    omega
theorem szL_files {l : List Fz} (h : filesB l = true) : szL Fz.sz l ≤ 206060 := by
  have h1 := filesB_bytes h
  have h2 := szL_names (l := l) fun y hy => by
    have := filesB_name h hy
    simp only [nameB, Bool.and_eq_true, decide_eq_true_eq] at this
    exact this.2
  omega
/-- A disk whose files are small, with ops of at most m together. -/
def SmD (x : Dz) (m : Nat) : Prop := szL Fz.sz x.live ≤ 206060 + m ∧ szL Fz.sz x.safe ≤ 206060 + m ∧ szL Oz.sz x.ops ≤ m
theorem SmD.sz {x : Dz} {m : Nat} (h : SmD x m) (hm : m ≤ 200000) : x.sz ≤ 1048576 := by obtain ⟨h1, h2, h3⟩ := h; unfold Dz.sz; omega
theorem SmD.mono {x : Dz} {m m' : Nat} (h : SmD x m) (hm : m ≤ m') : SmD x m' := ⟨Nat.le_trans h.1 (by omega), Nat.le_trans h.2.1 (by omega), Nat.le_trans h.2.2 hm⟩
theorem SmD.nil (m : Nat) : SmD ⟨[], [], []⟩ m := ⟨by simp [szL], by simp [szL], by simp [szL]⟩
theorem SmD.zz {x : Dz} {m : Nat} (h : SmD x m) (hm : m ≤ 290 := by omega) : SmD ⟨x.live ++ [⟨⟨#[122, 122]⟩, ⟨#[]⟩⟩], x.safe, x.ops⟩ 300 := by
  refine ⟨?_, Nat.le_trans h.2.1 (by omega), Nat.le_trans h.2.2 (by omega)⟩
  have h1 := h.1
  have e : Fz.sz ⟨⟨#[122, 122]⟩, ⟨#[]⟩⟩ = 2 := rfl
  unfold szL at h1 ⊢
  simp only [List.length_append, List.map_append, List.sum_append, List.length_cons, List.length_nil, List.map_cons, List.map_nil, List.sum_cons, List.sum_nil, e]
  omega
theorem SmD.tail {l s : List Fz} {o : Oz} {os : List Oz} {m : Nat} (h : SmD ⟨l, s, o :: os⟩ m) : SmD ⟨l, s, os⟩ m := by
  refine ⟨h.1, h.2.1, ?_⟩
  have h1 := h.2.2
  show szL Oz.sz os ≤ m
  have h2 : szL Oz.sz (o :: os) ≤ m := h1
  unfold szL at h2 ⊢
  simp only [List.length_cons, List.map_cons, List.sum_cons] at h2
  omega
theorem SmD.big {s : ByteArray} (h : s.size ≤ 200000) : SmD ⟨[⟨⟨#[98, 105, 103]⟩, s⟩], [⟨⟨#[98, 105, 103]⟩, s⟩], []⟩ 300 := by
  have e : szL Fz.sz [(⟨⟨#[98, 105, 103]⟩, s⟩ : Fz)] = 1 + (3 + s.size) := by
    unfold szL
    simp only [List.length_cons, List.length_nil, List.map_cons, List.map_nil, List.sum_cons, List.sum_nil]
    rfl
  exact ⟨by rw [e]; omega, by rw [e]; omega, by simp [szL]⟩
theorem SmD.sync {x : Dz} {m : Nat} (h : SmD x m) : SmD (syncD x) m := by
  unfold syncD
  split
  · exact ⟨h.1, h.1, by simp [szL]⟩
  · exact SmD.nil m
theorem SmD.act {x : Dz} {m : Nat} (h : SmD x m) (o : Oz) : SmD (actDo x o) (m + 1 + o.sz) := by
  unfold actDo
  split
  · unfold actD
    split
    · rename_i hc
      refine ⟨Nat.le_trans (szL_files (codeD_zero hc)) (by omega), Nat.le_trans h.2.1 (by omega), ?_⟩
      have := h.2.2
      unfold szL at this ⊢
      simp only [List.length_append, List.map_append, List.sum_append, List.length_cons, List.length_nil, List.map_cons, List.map_nil, List.sum_cons, List.sum_nil]
      omega
    · exact h.mono (by omega)
  · exact SmD.nil _

def isBetween (lo hi : Nat) (v : Value) (_ : World) : Prop := ∃ n : Nat, v = .int .i64 n ∧ lo ≤ n ∧ n ≤ hi

set_option maxHeartbeats 400000 in
theorem rdSize310 (w : World) (R : Nat) (a : Option Addr) (len cap : Nat) (zs : List Int) (h : Rdr w R a len cap zs) :
    Calls Try.prog 77 #[.pointer (some ⟨R, 0, none⟩), .int .i64 3, .int .i64 10] w (Drew R a len cap zs (isBetween 1 10) w) := by
  have hc0 := h.code
  have hlen := h.row.len_le
  have hdv : IntKind.i64.wrap ((len : Int).tdiv 3) = (len : Int).tdiv 3 := by
    rw [IntKind.wrap_i64, Int.tdiv_eq_ediv_of_nonneg (by omega)]; omega
  have hdv2 : (len : Int).tdiv 3 = ((len / 3 : Nat) : Int) := by rw [Int.tdiv_eq_ediv_of_nonneg (by omega)]; omega
  by_cases hl : len / 3 ≤ 9
  · have g1 : ((1 : Int) + ((len / 3 : Nat) : Int)) ≤ 10 := by omega
    go_enter Try.func77, Try.ntmps77
    go_wp2_with fail
    refine (rdBelow _ w R a len cap zs h).mono ?_
    rintro e w' ⟨v, rfl, ⟨x, rfl, x0, x1⟩, hb, hr⟩
    obtain ⟨n, rfl⟩ : ∃ n : Nat, x = n := ⟨x.toNat, by omega⟩
    have hn : n ≤ 9 := by omega
    go_wp2_with fail
    go_ret
    exact ⟨_, rfl, ⟨n + 1, by go_num, by omega, by omega⟩, hb, hr⟩
  · have g1 : ¬ ((1 : Int) + ((len / 3 : Nat) : Int)) ≤ 10 := by omega
    go_enter Try.func77, Try.ntmps77
    go_wp2_with fail
    refine (rdBelow _ w R a len cap zs h).mono ?_
    rintro e w' ⟨v, rfl, ⟨x, rfl, x0, x1⟩, hb, hr⟩
    obtain ⟨n, rfl⟩ : ∃ n : Nat, x = n := ⟨x.toNat, by omega⟩
    have hn : n ≤ 9 := by omega
    go_wp2_with fail
    go_ret
    exact ⟨_, rfl, ⟨n + 1, by go_num, by omega, by omega⟩, hb, hr⟩

def isDop (v : Value) (_ : World) : Prop := ∃ o : Oz, v = .agg #[.int .i64 o.kind, .string o.name, .string o.to, .string o.data] ∧ o.sz ≤ 24
theorem infoDOpS : (Try.prog.info? 36).map (·.size) = some 4 := by kernel_rfl

set_option maxRecDepth 100000 in
set_option maxHeartbeats 1000000 in
theorem rdDop (w : World) (R : Nat) (a : Option Addr) (len cap : Nat) (zs : List Int) (h : Rdr w R a len cap zs) :
    Calls Try.prog 54 #[.pointer (some ⟨R, 0, none⟩)] w (Drew R a len cap zs isDop w) := by
  have hlt : R < w.heap.size := cell_lt h.code
  have HI := Lib.hid infoDOpS
  have rb := (Row.new w 36 #[.int .i64 0, .string ⟨#[]⟩, .string ⟨#[]⟩, .string ⟨#[]⟩]).alloc (.cells #[.string ⟨#[108, 111, 103]⟩, .string ⟨#[98, 97, 115, 101]⟩, .string ⟨#[98, 97, 115, 101, 46, 110, 101, 119]⟩, .string ⟨#[98]⟩] 9)
  go_enter Try.func54, Try.ntmps54
  go_wp2_with fail
  refine (rdBelow _ _ R a len cap zs ((h.alloc _).alloc _)).mono ?_
  rintro e w2 ⟨v, rfl, ⟨y, rfl, y0, y1⟩, hb2, hr2⟩
  have hb := (((But.refl R w).alloc _).alloc _).trans hb2
  have rb := rb.butR hb2 (by omega)
  obtain ⟨j, rfl, hj⟩ := below_nat y0 y1 (by omega)
  have hj' : j < 4 := by omega
  have hcj := new_cell hb2 (by simp; omega) j (by simpa using hj')
  obtain ⟨s, es, hs12⟩ := short_str (xs := [Value.string ⟨#[108, 111, 103]⟩, .string ⟨#[98, 97, 115, 101]⟩, .string ⟨#[98, 97, 115, 101, 46, 110, 101, 119]⟩, .string ⟨#[98]⟩]) (by simp; decide) (j := j) (by simpa using hj')
  simp only [List.getElem_toArray, es, heap_size_alloc1] at hcj
  clear hb2 es y0 y1
  go_wp2_with fail
  refine (rdBelow _ _ R a len cap zs hr2).mono ?_
  rintro e w3 ⟨v, rfl, ⟨y, rfl, y0, y1⟩, hb3, hr3⟩
  have hlt3 : R < w3.heap.size := cell_lt hr3.code
  have hbz := hb.trans hb3
  have rb := rb.butR hb3 (by omega)
  clear hcj hb hb3 hr2
  rcases (show y = 0 ∨ y = 1 ∨ (y ≠ 0 ∧ y ≠ 1) by omega) with rfl | rfl | ⟨q0, q1⟩
  · go_wp2_with fail
    refine (rdBelow _ _ R a len cap zs (hr3.alloc _)).mono ?_
    rintro e w4 ⟨v, rfl, ⟨y, rfl, y0, y1⟩, hb4, hr4⟩
    have rb := (rb.alloc (.cells #[.string ⟨#[108, 111, 103]⟩, .string ⟨#[98, 97, 115, 101]⟩, .string ⟨#[99]⟩] 9)).butR hb4 (by omega)
    have hb := (hbz.alloc _).trans hb4
    obtain ⟨k, rfl, hk⟩ := below_nat y0 y1 (by omega)
    have hk' : k < 3 := by omega
    have hck := new_cell hb4 hlt3 k (by simpa using hk')
    obtain ⟨t, et, ht12⟩ := short_str (xs := [Value.string ⟨#[108, 111, 103]⟩, .string ⟨#[98, 97, 115, 101]⟩, .string ⟨#[99]⟩]) (by simp; decide) (j := k) (by simpa using hk')
    simp only [List.getElem_toArray, et] at hck
    obtain ⟨⟨r0, r1, r2, r3⟩, ⟨f0, f1, f2, f3⟩⟩ := rb.all4
    clear hb4 et y0 y1 hr3 hbz
    go_wp2_with fail
    have hr9 := Row.set (Row.set (Row.set (Row.set (rb) 0 (.int .i64 2)) 1 (.string s)) 2 (.string t)) 3 (.string ⟨#[]⟩)
    exact bodyPost_ret (results_cell_row (p := 2) (ty := 36) rfl _ _ w.heap.size 36 #[.int .i64 2, .string s, .string t, .string ⟨#[]⟩] (0, 0) _ rfl hr9 Try.underlying36 rfl HI.out) rfl ⟨_, rfl, ⟨⟨2, s, t, ⟨#[]⟩⟩, rfl, by unfold Oz.sz; have : (⟨#[]⟩ : ByteArray).size = 0 := rfl; simp only; omega⟩, ((((hb).setNew (Nat.le_refl _) _).setNew (Nat.le_refl _) _).setNew (Nat.le_refl _) _).setNew (Nat.le_refl _) _, h.setNew (h.setNew (h.setNew (h.setNew (hr4) (Nat.le_refl _) _) (Nat.le_refl _) _) (Nat.le_refl _) _) (Nat.le_refl _) _⟩
  · obtain ⟨⟨r0, r1, r2, r3⟩, ⟨f0, f1, f2, f3⟩⟩ := rb.all4
    go_wp2_with fail
    have hr9 := Row.set (Row.set (Row.set (Row.set (rb) 0 (.int .i64 3)) 1 (.string s)) 2 (.string ⟨#[]⟩)) 3 (.string ⟨#[]⟩)
    exact bodyPost_ret (results_cell_row (p := 2) (ty := 36) rfl _ _ w.heap.size 36 #[.int .i64 3, .string s, .string ⟨#[]⟩, .string ⟨#[]⟩] (0, 0) _ rfl hr9 Try.underlying36 rfl HI.out) rfl ⟨_, rfl, ⟨⟨3, s, ⟨#[]⟩, ⟨#[]⟩⟩, rfl, by unfold Oz.sz; have : (⟨#[]⟩ : ByteArray).size = 0 := rfl; simp only; omega⟩, ((((hbz).setNew (Nat.le_refl _) _).setNew (Nat.le_refl _) _).setNew (Nat.le_refl _) _).setNew (Nat.le_refl _) _, h.setNew (h.setNew (h.setNew (h.setNew (hr3) (Nat.le_refl _) _) (Nat.le_refl _) _) (Nat.le_refl _) _) (Nat.le_refl _) _⟩
  · go_wp2_with fail
    refine (rdText _ R a len cap zs hr3).mono ?_
    rintro e w4 ⟨v, rfl, ⟨t, rfl, ht⟩, hb4, hr4⟩
    have rb := rb.butR hb4 (by omega)
    have hb := hbz.trans hb4
    obtain ⟨⟨r0, r1, r2, r3⟩, ⟨f0, f1, f2, f3⟩⟩ := rb.all4
    clear hb4 hr3 hbz
    go_wp2_with fail
    have hr9 := Row.set (Row.set (Row.set (Row.set (rb) 0 (.int .i64 1)) 1 (.string s)) 2 (.string ⟨#[]⟩)) 3 (.string t)
    exact bodyPost_ret (results_cell_row (p := 2) (ty := 36) rfl _ _ w.heap.size 36 #[.int .i64 1, .string s, .string ⟨#[]⟩, .string t] (0, 0) _ rfl hr9 Try.underlying36 rfl HI.out) rfl ⟨_, rfl, ⟨⟨1, s, ⟨#[]⟩, t⟩, rfl, by unfold Oz.sz; have : (⟨#[]⟩ : ByteArray).size = 0 := rfl; simp only; omega⟩, ((((hb).setNew (Nat.le_refl _) _).setNew (Nat.le_refl _) _).setNew (Nat.le_refl _) _).setNew (Nat.le_refl _) _, h.setNew (h.setNew (h.setNew (h.setNew (hr4) (Nat.le_refl _) _) (Nat.le_refl _) _) (Nat.le_refl _) _) (Nat.le_refl _) _⟩
end Go.Proofs.Ytkinegapnknhiaa
namespace Go.Proofs.Ytkinegapnknhiaa
open Go.RowKit
set_option linter.unusedVariables false
set_option linter.unusedSimpArgs false

/-- The drawing on its way: an own disk in the box behind the answer's, a reader. -/
def DkW (w wr : World) (R : Nat) (a : Option Addr) (len cap : Nat) (zs : List Int) (m : Nat) : Prop :=
  ∃ (v0 v1 v2 : Value) (x : Dz), Row wr (w.heap.size + 1) 27 #[v0, v1, v2] ∧ DzA wr (w.heap.size + 2) (.agg #[v0, v1, v2]) x ∧ SmD x m ∧ Row wr w.heap.size 27 #[.slice none 0 0, .slice none 0 0, .slice none 0 0] ∧ But R w wr ∧ Rdr wr R a len cap zs
theorem DkW.but {w wr w' : World} {R : Nat} {a : Option Addr} {len cap : Nat} {zs : List Int} {m : Nat} (h : DkW w wr R a len cap zs m) (hR : R < w.heap.size) (hb : But R wr w') (hr : Rdr w' R a len cap zs) : DkW w w' R a len cap zs m := by
  obtain ⟨v0, v1, v2, x, h1, h2, h3, h4, h5, -⟩ := h
  exact ⟨v0, v1, v2, x, h1.butR hb (by omega), h2.butR hb (by omega), h3, h4.butR hb (by omega), h5.trans hb, hr⟩
theorem DkW.rdr {w wr : World} {R : Nat} {a : Option Addr} {len cap : Nat} {zs : List Int} {m : Nat} (h : DkW w wr R a len cap zs m) : Rdr wr R a len cap zs := by obtain ⟨_, _, _, _, _, _, _, _, _, h⟩ := h; exact h
theorem DkW.size {w wr : World} {R : Nat} {a : Option Addr} {len cap : Nat} {zs : List Int} {m : Nat} (h : DkW w wr R a len cap zs m) : w.heap.size + 2 ≤ wr.heap.size := by obtain ⟨_, _, _, _, h, _⟩ := h; have := lt_of_block h; omega
/-- Another disk into the box. -/
theorem DkW.put {w wr w' : World} {R : Nat} {a : Option Addr} {len cap : Nat} {zs : List Int} {m m' : Nat} (h : DkW w wr R a len cap zs m) (hR : Rdr w R a len cap zs) (hb : But R wr w') (hr : Rdr w' R a len cap zs) {v0 v1 v2 : Value} {x : Dz} (hd : DzA w' (w.heap.size + 2) (.agg #[v0, v1, v2]) x) (hs : SmD x m') :
    DkW w (((w'.setCell ⟨w.heap.size + 1, 0, none⟩ v0).setCell ⟨w.heap.size + 1, 1, none⟩ v1).setCell ⟨w.heap.size + 1, 2, none⟩ v2) R a len cap zs m' := by
  have hlt : R < w.heap.size := cell_lt hR.code
  obtain ⟨u0, u1, u2, y, h1, h2, h3, h4, h5, -⟩ := h
  refine ⟨v0, v1, v2, x, (((h1.butR hb (by omega)).set 0 v0).set 1 v1).set 2 v2, ((hd.set (Nat.lt_succ_self _) _).set (Nat.lt_succ_self _) _).set (Nat.lt_succ_self _) _, hs, (((h4.butR hb (by omega)).far (by simp) _).far (by simp) _).far (by simp) _, (((h5.trans hb).setNew (Nat.le_succ _) _).setNew (Nat.le_succ _) _).setNew (Nat.le_succ _) _, hR.setNew (hR.setNew (hR.setNew hr (Nat.le_succ _) _) (Nat.le_succ _) _) (Nat.le_succ _) _⟩
/-- A disk whose cells can be read, all in blocks from base on. -/
def ReadsO (base : Nat) (w : World) (v0 v1 v2 : Value) (x : Dz) : Prop := ∃ (A0 : Option Addr) (n0 c0 : Nat) (A1 : Option Addr) (n1 c1 : Nat) (A2 : Option Addr) (n2 c2 : Nat), v0 = .slice A0 n0 c0 ∧ v1 = .slice A1 n1 c1 ∧ v2 = .slice A2 n2 c2 ∧ Sl FzR 2 (fun b => base ≤ b) w A0 n0 x.live ∧ Sl FzR 2 (fun b => base ≤ b) w A1 n1 x.safe ∧ Sl OzR 4 (fun b => base ≤ b) w A2 n2 x.ops
theorem ReadsO.set {base : Nat} {w : World} {v0 v1 v2 : Value} {x : Dz} (h : ReadsO base w v0 v1 v2 x) {p : Addr} (hp : p.block < base) (v : Value) : ReadsO base (w.setCell p v) v0 v1 v2 x := by
  obtain ⟨A0, n0, c0, A1, n1, c1, A2, n2, c2, e0, e1, e2, s0, s1, s2⟩ := h
  exact ⟨A0, n0, c0, A1, n1, c1, A2, n2, c2, e0, e1, e2, s0.set FzR.stays (fun b hb e => by omega) v, s1.set FzR.stays (fun b hb e => by omega) v, s2.set OzR.stays (fun b hb e => by omega) v⟩
theorem ReadsO.butR {base R : Nat} {w w' : World} {v0 v1 v2 : Value} {x : Dz} (h : ReadsO base w v0 v1 v2 x) (hb : But R w w') (hR : R < base) : ReadsO base w' v0 v1 v2 x := by
  obtain ⟨A0, n0, c0, A1, n1, c1, A2, n2, c2, e0, e1, e2, s0, s1, s2⟩ := h
  exact ⟨A0, n0, c0, A1, n1, c1, A2, n2, c2, e0, e1, e2, s0.stays FzR.stays (fun _ h => h) (fun p v hp hv => (hb.cell (cell_lt hv) (by omega)).trans hv), s1.stays FzR.stays (fun _ h => h) (fun p v hp hv => (hb.cell (cell_lt hv) (by omega)).trans hv), s2.stays OzR.stays (fun _ h => h) (fun p v hp hv => (hb.cell (cell_lt hv) (by omega)).trans hv)⟩
theorem ReadsO.reads {base : Nat} {w : World} {v0 v1 v2 : Value} {x : Dz} (h : ReadsO base w v0 v1 v2 x) : ReadsD w v0 v1 v2 x := by
  obtain ⟨A0, n0, c0, A1, n1, c1, A2, n2, c2, e0, e1, e2, s0, s1, s2⟩ := h
  exact ⟨A0, n0, c0, A1, n1, c1, A2, n2, c2, e0, e1, e2, s0.stays FzR.stays (fun _ _ => trivial) (fun _ _ _ h => h), s1.stays FzR.stays (fun _ _ => trivial) (fun _ _ _ h => h), s2.stays OzR.stays (fun _ _ => trivial) (fun _ _ _ h => h)⟩
theorem ReadsO.mono {base base' : Nat} {w : World} {v0 v1 v2 : Value} {x : Dz} (h : ReadsO base w v0 v1 v2 x) (hb : base' ≤ base) : ReadsO base' w v0 v1 v2 x := by
  obtain ⟨A0, n0, c0, A1, n1, c1, A2, n2, c2, e0, e1, e2, s0, s1, s2⟩ := h
  exact ⟨A0, n0, c0, A1, n1, c1, A2, n2, c2, e0, e1, e2, s0.stays FzR.stays (fun _ h => Nat.le_trans hb h) (fun _ _ _ h => h), s1.stays FzR.stays (fun _ h => Nat.le_trans hb h) (fun _ _ _ h => h), s2.stays OzR.stays (fun _ h => Nat.le_trans hb h) (fun _ _ _ h => h)⟩
/-- Own lists, each for itself. -/
theorem readsO_own {base : Nat} {w : World} {v0 v1 v2 : Value} {x : Dz} (k0 : OwnZ w base v0 x.live) (k1 : OwnZ w base v1 x.safe) (k2 : OwnO w base v2 x.ops) : ReadsO base w v0 v1 v2 x := by
  obtain ⟨A0, c0, e0, -, -, s0⟩ := k0.sl
  obtain ⟨A1, c1, e1, -, -, s1⟩ := k1.sl
  obtain ⟨A2, c2, e2, -, -, s2⟩ := k2.sl
  exact ⟨A0, _, c0, A1, _, c1, A2, _, c2, e0, e1, e2, s0.stays FzR.stays (fun _ h => h.1) (fun _ _ _ h => h), s1.stays FzR.stays (fun _ h => h.1) (fun _ _ _ h => h), s2.stays OzR.stays (fun _ h => h.1) (fun _ _ _ h => h)⟩
theorem DzA.readsO {w : World} {base : Nat} {v0 v1 v2 : Value} {x : Dz} (h : DzA w base (.agg #[v0, v1, v2]) x) : ReadsO base w v0 v1 v2 x := by
  obtain ⟨u0, u1, u2, e, k0, k1, k2, -⟩ := h
  injection e with e; injection e with e
  injection e with ea e; injection e with eb e; injection e with ec e
  subst ea eb ec
  exact readsO_own k0 k1 k2
theorem Sl.tailD {α : Type} {R : Rd α} {sz : Nat} {ok : Nat → Prop} {w : World} {b off n : Nat} {x : α} {xs : List α} (h : Sl R sz ok w (some ⟨b, off, none⟩) (n + 1) (x :: xs)) : Sl R sz ok w (some ⟨b, off + sz, none⟩) n xs := by
  refine ⟨by have := h.1; simpa using this, fun hn => ?_⟩
  obtain ⟨b', off', e, hob, hcs⟩ := h.2 (by omega)
  injection e with e
  injection e with e1 e2 e3
  subst e1 e2
  refine ⟨b, off + sz, rfl, hob, fun i hi => ?_⟩
  obtain ⟨cs, h1, h2, h3⟩ := hcs (i + 1) (by simpa using hi)
  refine ⟨cs, h1, h2, fun j v hj => ?_⟩
  have := h3 j v hj
  rw [show off + (i + 1) * sz + j = off + sz + i * sz + j by rw [Nat.succ_mul]; omega] at this
  exact this
/-- What is at hand at the end: a disk in the box that can be read. -/
def DkE (w wr : World) (R : Nat) (a : Option Addr) (len cap : Nat) (zs : List Int) : Prop :=
  ∃ (v0 v1 v2 : Value) (x : Dz), Row wr (w.heap.size + 1) 27 #[v0, v1, v2] ∧ ReadsO (w.heap.size + 2) wr v0 v1 v2 x ∧ SmD x 300 ∧ Row wr w.heap.size 27 #[.slice none 0 0, .slice none 0 0, .slice none 0 0] ∧ But R w wr ∧ Rdr wr R a len cap zs
/-- A disk that can be read, of bounded size, in blocks from base on. -/
def isDk (base : Nat) (v : Value) (w : World) : Prop := ∃ (v0 v1 v2 : Value) (x : Dz), v = .agg #[v0, v1, v2] ∧ ReadsO base w v0 v1 v2 x ∧ SmD x 300
theorem DkW.fin {w wr : World} {R : Nat} {a : Option Addr} {len cap : Nat} {zs : List Int} {m : Nat} (h : DkW w wr R a len cap zs m) (hm : m ≤ 300) : DkE w wr R a len cap zs := by
  obtain ⟨v0, v1, v2, x, h1, h2, h3, h4, h5, h6⟩ := h
  exact ⟨v0, v1, v2, x, h1, h2.readsO, h3.mono hm, h4, h5, h6⟩
theorem DkE.setD {w wr : World} {R : Nat} {a : Option Addr} {len cap : Nat} {zs : List Int} (H0 : Rdr w R a len cap zs) (hb : But R w wr) (hr : Rdr wr R a len cap zs) {cs : Array Value} {T : TypeId} (h4 : Row wr w.heap.size T cs) (j : Nat) (u : Value) :
    But R w (wr.setCell ⟨w.heap.size + 1, j, none⟩ u) ∧ Rdr (wr.setCell ⟨w.heap.size + 1, j, none⟩ u) R a len cap zs ∧ Row (wr.setCell ⟨w.heap.size + 1, j, none⟩ u) w.heap.size T cs :=
  ⟨hb.setNew (Nat.le_succ _) _, H0.setNew hr (Nat.le_succ _) _, h4.far (by simp) _⟩
theorem OwnB.made (w : World) (m : Nat) (hm : m ≤ 1048576) : OwnB (w.alloc (.cells (madeCells #[.int .u8 0] m) 5)) w.heap.size (.slice (some ⟨w.heap.size, 0, none⟩) m m) (List.replicate m 0) := by
  have hz2 : (madeCells #[.int .u8 0] m).toList = (List.replicate m (0 : Int)).map (Value.int .u8) := by
    rw [List.map_replicate]
    refine List.ext_getElem (by simp [madeCells]) fun i h1 h2 => ?_
    simp [madeCells, Nat.mod_one]
  unfold OwnB
  rw [List.length_replicate]
  refine ⟨by simp, .inr ⟨w.heap.size, m, _, rfl, Nat.le_refl _, Go.heap_alloc_last w _, Nat.le_refl _, by unfold maxLen; omega, by rw [size_madeCells]; omega, ?_⟩⟩
  rw [hz2, List.take_of_length_le (by simp)]

set_option maxRecDepth 100000 in
set_option maxHeartbeats 4000000 in
theorem rdDisk (w : World) (R : Nat) (a : Option Addr) (len cap : Nat) (zs : List Int) (h : Rdr w R a len cap zs) :
    Calls Try.prog 40 #[.pointer (some ⟨R, 0, none⟩)] w (Drew R a len cap zs (isDk w.heap.size) w) := by
  have hlt : R < w.heap.size := cell_lt h.code
  have H0 := Lib.hid h
  have HI := Lib.hid infoDisk
  have rb := (Row.new w 27 #[.slice none 0 0, .slice none 0 0, .slice none 0 0]).alloc (.cells #[.slice none 0 0, .slice none 0 0, .slice none 0 0] 27)
  have rd := Row.newAt (w.alloc (.cells #[.slice none 0 0, .slice none 0 0, .slice none 0 0] 27)) 27 #[.slice none 0 0, .slice none 0 0, .slice none 0 0] (w.heap.size + 1) (by simp)
  have hp0 : DkW w ((w.alloc (.cells #[.slice none 0 0, .slice none 0 0, .slice none 0 0] 27)).alloc (.cells #[.slice none 0 0, .slice none 0 0, .slice none 0 0] 27)) R a len cap zs 0 := ⟨_, _, _, ⟨[], [], []⟩, rd, DzA.nil _ _, SmD.nil 0, rb, ((But.refl R w).alloc _).alloc _, (h.alloc _).alloc _⟩
  clear rb rd
  go_enter Try.func40, Try.ntmps40
  go_wp2_with fail
  generalize (w.alloc (.cells #[.slice none 0 0, .slice none 0 0, .slice none 0 0] 27)).alloc (.cells #[.slice none 0 0, .slice none 0 0, .slice none 0 0] 27) = z0 at *
  refine (rdSize310 _ R a len cap zs hp0.rdr).mono ?_
  rintro e w1 ⟨v, rfl, ⟨n, rfl, n0, n1⟩, hb, hr⟩
  have HW := Lib.hid (hp0.but hlt hb hr)
  clear hp0 hb hr
  go_wp2_with fail
  go_loopw [4] (fun i wr => ∃ (k : Nat), k ≤ 10 ∧ i = .int .i64 k ∧ Hid (DkW w wr R a len cap zs (25 * (10 - k)))) (fun i _ => (intOf i).toNat)
  case atStart => exact ⟨n, n1, rfl, Lib.hid (by obtain ⟨v0, v1, v2, x, h1, h2, h3, h4⟩ := HW.out; exact ⟨v0, v1, v2, x, h1, h2, h3.mono (Nat.zero_le _), h4⟩)⟩
  case round =>
    obtain ⟨k, hk, rfl, HW⟩ := hrel
    by_cases h0 : 0 < k
    · have g0 : (0 : Int) < k := by omega
      go_wp2_with fail
      refine (rdOnce 5 _ R a len cap zs HW.out.rdr).mono ?_
      rintro e w2 ⟨v, rfl, ⟨b, rfl⟩, hb, hr⟩
      have HW2 := Lib.hid (HW.out.but hlt hb hr)
      clear HW hb hr
      obtain ⟨v0, v1, v2, x, h1, h2, h3, h4, h5, h6⟩ := HW2.out
      have HSZ := Lib.hid (h3.sz (by omega))
      have hsz2 := HW2.out.size
      have HS3 := Lib.hid h3
      obtain ⟨A0, n0', c0, A1, n1', c1, A2, n2', c2, rfl, rfl, rfl, t0, t1, t2⟩ := h2.reads
      obtain ⟨⟨p0, p1, p2⟩, ⟨q0, q1, q2⟩⟩ := h1.three
      have T := Lib.hid (h2.readsBut (R := R) (by omega))
      clear h1 h2 h3 h4 h5 h6
      cases b
      · go_upto_region 7 with fail
        go_cut [5, 6] from 18 to 25 (fun s5 s6 wx => ∃ (g : Nat) (u0 u1 u2 : Value) (kc : Int), s5 = .pointer (some ⟨g, 0, none⟩) ∧ s6 = .int .i64 kc ∧ Row wx g 27 #[u0, u1, u2] ∧ g ≠ w.heap.size + 1 ∧ But R w2 wx ∧ Rdr wx R a len cap zs ∧ ∃ y : Dz, DzA wx (w.heap.size + 2) (.agg #[u0, u1, u2]) y ∧ SmD y (25 * (10 - (k - 1))))
        case first =>
          have hc0 : But R w2 w2.drew := (But.refl R w2).drew
          have hr0 : Rdr w2.drew R a len cap zs := ⟨HW2.out.rdr.code, HW2.out.rdr.place, HW2.out.rdr.free, HW2.out.rdr.row, HW2.out.rdr.apart⟩
          have kc0 : w2.drew.cell? ⟨w.heap.size + 1, 0, none⟩ = some (.slice A0 n0' c0) ∧ w2.drew.cell? ⟨w.heap.size + 1, 1, none⟩ = some (.slice A1 n1' c1) ∧ w2.drew.cell? ⟨w.heap.size + 1, 2, none⟩ = some (.slice A2 n2' c2) := ⟨p0, p1, p2⟩
          refine wp_region_noPanic ?_
          refine wp_region_held_drew (S := (fun w' => w'.cell? ⟨w.heap.size + 1, 0, none⟩ = some (.slice A0 n0' c0) ∧ w'.cell? ⟨w.heap.size + 1, 1, none⟩ = some (.slice A1 n1' c1) ∧ w'.cell? ⟨w.heap.size + 1, 2, none⟩ = some (.slice A2 n2' c2))) (by kernel_rfl) ⟨p0, p1, p2⟩ (fun hHeld => ?_)
          generalize w2.drew = u0 at *
          refine wpAnyH_take (i := 0) (v := ?v1) rfl (by kernel_rfl) (by kernel_rfl) (by kernel_rfl) (fun _ _ _ h => h) (Or.inl ⟨by rfl, ?hy1⟩) hHeld ?rest1
          case hy1 => (intro w' hSw; (try dsimp only at hSw); first | (go_simp; done) | (go_simp; with_reducible rfl))
          simp only [Act.put, List.getElem_toArray, List.getElem_cons_zero, List.getElem_cons_succ, List.setIfInBounds_toArray, List.set_cons_zero, List.set_cons_succ]
          refine wpAnyH_take (i := 1) (v := ?v2) rfl (by kernel_rfl) (by kernel_rfl) (by kernel_rfl) (fun _ _ _ h => h) (Or.inl ⟨by rfl, ?hy2⟩) hHeld ?rest2
          case hy2 => (intro w' hSw; (try dsimp only at hSw); first | (go_simp; done) | (go_simp; with_reducible rfl))
          simp only [Act.put, List.getElem_toArray, List.getElem_cons_zero, List.getElem_cons_succ, List.setIfInBounds_toArray, List.set_cons_zero, List.set_cons_succ]
          refine wpAnyH_ready (rs := [2, 7]) (by kernel_rfl) (by simp) ?_
          refine AllReadyH.cons rfl (fun K hK => ?_) ?_
          · go_simp
            go_at_call 54
            refine (rdDop u0 R a len cap zs hr0).mono ?_
            rintro e u1 ⟨v, rfl, ⟨o, rfl, ho⟩, hq, hr1⟩
            have kc1 : u1.cell? ⟨w.heap.size + 1, 0, none⟩ = some (.slice A0 n0' c0) ∧ u1.cell? ⟨w.heap.size + 1, 1, none⟩ = some (.slice A1 n1' c1) ∧ u1.cell? ⟨w.heap.size + 1, 2, none⟩ = some (.slice A2 n2' c2) := ⟨(hq.cell (p := ⟨w.heap.size + 1, 0, none⟩) (by have := HW2.out.size; have := hc0.size; simp only; omega) (by simp only; omega)).trans kc0.1, (hq.cell (p := ⟨w.heap.size + 1, 1, none⟩) (by have := HW2.out.size; have := hc0.size; simp only; omega) (by simp only; omega)).trans kc0.2.1, (hq.cell (p := ⟨w.heap.size + 1, 2, none⟩) (by have := HW2.out.size; have := hc0.size; simp only; omega) (by simp only; omega)).trans kc0.2.2⟩
            have hc1 := hc0.trans hq
            clear hq
            refine hK.out _ _ kc1 (fun hHeld => ?_)
            clear hK K
            (try simp only [Act.put, List.getElem_toArray, List.getElem_cons_zero, List.getElem_cons_succ, List.setIfInBounds_toArray, List.set_cons_zero, List.set_cons_succ])
            refine wpAnyH_ready (rs := [3, 7]) (by kernel_rfl) (by simp) ?_
            refine AllReadyH.cons rfl (fun K hK => ?_) ?_
            · go_simp
              go_at_call 21
              refine (specDo x o A0 n0' c0 A1 n1' c1 A2 n2' c2 _ _ (T.out u1 hc1).1 (T.out u1 hc1).2.1 (T.out u1 hc1).2.2 HSZ.out (by have := ho; unfold Oz.sz at this; omega)).mono ?_
              rintro e u2 ⟨⟨v, rfl, hD⟩, hq⟩
              have hr2 := rdr_belowD hr1 hq
              have hq := below_butD hq R
              have hD := hD.mono (base' := w.heap.size + 2) (by have := HW2.out.size; have := hc1.size; omega)
              have kc2 : u2.cell? ⟨w.heap.size + 1, 0, none⟩ = some (.slice A0 n0' c0) ∧ u2.cell? ⟨w.heap.size + 1, 1, none⟩ = some (.slice A1 n1' c1) ∧ u2.cell? ⟨w.heap.size + 1, 2, none⟩ = some (.slice A2 n2' c2) := ⟨(hq.cell (p := ⟨w.heap.size + 1, 0, none⟩) (by have := HW2.out.size; have := hc1.size; simp only; omega) (by simp only; omega)).trans kc1.1, (hq.cell (p := ⟨w.heap.size + 1, 1, none⟩) (by have := HW2.out.size; have := hc1.size; simp only; omega) (by simp only; omega)).trans kc1.2.1, (hq.cell (p := ⟨w.heap.size + 1, 2, none⟩) (by have := HW2.out.size; have := hc1.size; simp only; omega) (by simp only; omega)).trans kc1.2.2⟩
              have hc2 := hc1.trans hq
              clear hq
              obtain ⟨v0, v1, v2, rfl, k0, k1, k2, -⟩ := id hD
              obtain ⟨B0, m0, d0, rfl⟩ := k0.len
              obtain ⟨B1, m1, d1, rfl⟩ := k1.len
              obtain ⟨B2, m2, d2, rfl⟩ := k2.len
              clear k0 k1 k2
              refine hK.out _ _ kc2 (fun hHeld => ?_)
              clear hK K
              (try simp only [Act.put, List.getElem_toArray, List.getElem_cons_zero, List.getElem_cons_succ, List.setIfInBounds_toArray, List.set_cons_zero, List.set_cons_succ])
              refine wpAnyH_take (i := 4) (v := ?v3) rfl (by kernel_rfl) (by kernel_rfl) (by kernel_rfl) (fun _ _ _ h => h) (Or.inl ⟨by rfl, ?hy3⟩) hHeld ?rest3
              case hy3 => (intro w' hSw; (try dsimp only at hSw); first | (go_simp; done) | (go_simp; with_reducible rfl))
              simp only [Act.put, List.getElem_toArray, List.getElem_cons_zero, List.getElem_cons_succ, List.setIfInBounds_toArray, List.set_cons_zero, List.set_cons_succ]
              refine wpAnyH_take (i := 5) (v := ?v4) rfl (by kernel_rfl) (by kernel_rfl) (by kernel_rfl) (fun _ _ _ h => h) (Or.inl ⟨by rfl, ?hy4⟩) hHeld ?rest4
              case hy4 => (intro w' hSw; (try dsimp only at hSw); first | (go_simp; done) | (go_simp; with_reducible rfl))
              simp only [Act.put, List.getElem_toArray, List.getElem_cons_zero, List.getElem_cons_succ, List.setIfInBounds_toArray, List.set_cons_zero, List.set_cons_succ]
              refine wpAnyH_take (i := 6) (v := ?v5) rfl (by kernel_rfl) (by kernel_rfl) (by kernel_rfl) (fun _ _ _ h => h) (Or.inl ⟨by rfl, ?hy5⟩) hHeld ?rest5
              case hy5 => (intro w' hSw; (try dsimp only at hSw); first | (go_simp; done) | (go_simp; with_reducible rfl))
              simp only [Act.put, List.getElem_toArray, List.getElem_cons_zero, List.getElem_cons_succ, List.setIfInBounds_toArray, List.set_cons_zero, List.set_cons_succ]
              refine wpAnyH_ready (rs := [7]) (by kernel_rfl) (by simp) ?_
              refine AllReadyH.cons rfl (fun K hK => ?_) AllReadyH.nil
              go_simp
              have hq : But R u2 (u2.alloc (.cells #[.slice none 0 0, .slice none 0 0, .slice none 0 0] 27)) := (But.refl R _).alloc _
              have hD := hD.butR hq (by omega)
              have hr3 := hr2.alloc (.cells #[.slice none 0 0, .slice none 0 0, .slice none 0 0] 27)
              have rg := Row.new u2 27 #[.slice none 0 0, .slice none 0 0, .slice none 0 0]
              have hg : w2.heap.size ≤ u2.heap.size := hc2.size
              have kc3 : (u2.alloc (.cells #[.slice none 0 0, .slice none 0 0, .slice none 0 0] 27)).cell? ⟨w.heap.size + 1, 0, none⟩ = some (.slice A0 n0' c0) ∧ (u2.alloc (.cells #[.slice none 0 0, .slice none 0 0, .slice none 0 0] 27)).cell? ⟨w.heap.size + 1, 1, none⟩ = some (.slice A1 n1' c1) ∧ (u2.alloc (.cells #[.slice none 0 0, .slice none 0 0, .slice none 0 0] 27)).cell? ⟨w.heap.size + 1, 2, none⟩ = some (.slice A2 n2' c2) := ⟨(hq.cell (p := ⟨w.heap.size + 1, 0, none⟩) (by have := HW2.out.size; have := hc2.size; simp only; omega) (by simp only; omega)).trans kc2.1, (hq.cell (p := ⟨w.heap.size + 1, 1, none⟩) (by have := HW2.out.size; have := hc2.size; simp only; omega) (by simp only; omega)).trans kc2.2.1, (hq.cell (p := ⟨w.heap.size + 1, 2, none⟩) (by have := HW2.out.size; have := hc2.size; simp only; omega) (by simp only; omega)).trans kc2.2.2⟩
              have hc3 := hc2.trans hq
              clear hq
              generalize u2.alloc (.cells #[.slice none 0 0, .slice none 0 0, .slice none 0 0] 27) = u3 at *
              generalize u2.heap.size = g at *
              obtain ⟨⟨r0, r1, r2⟩, ⟨f0, f1, f2⟩⟩ := rg.three
              refine hK.out _ _ kc3 (fun hHeld => ?_)
              clear hK K
              (try simp only [Act.put, List.getElem_toArray, List.getElem_cons_zero, List.getElem_cons_succ, List.setIfInBounds_toArray, List.set_cons_zero, List.set_cons_succ])
              refine wpAnyH_ready (rs := [8]) (by kernel_rfl) (by simp) ?_
              refine AllReadyH.cons rfl (fun K hK => ?_) AllReadyH.nil
              go_simp
              refine hK.out _ _ ⟨cellOff (cellOff (cellOff kc3.1 (show g ≠ w.heap.size + 1 by have := HW2.out.size; omega)) (show g ≠ w.heap.size + 1 by have := HW2.out.size; omega)) (show g ≠ w.heap.size + 1 by have := HW2.out.size; omega), cellOff (cellOff (cellOff kc3.2.1 (show g ≠ w.heap.size + 1 by have := HW2.out.size; omega)) (show g ≠ w.heap.size + 1 by have := HW2.out.size; omega)) (show g ≠ w.heap.size + 1 by have := HW2.out.size; omega), cellOff (cellOff (cellOff kc3.2.2 (show g ≠ w.heap.size + 1 by have := HW2.out.size; omega)) (show g ≠ w.heap.size + 1 by have := HW2.out.size; omega)) (show g ≠ w.heap.size + 1 by have := HW2.out.size; omega)⟩ (fun hHeld => ?_)
              clear hK K
              (try simp only [Act.put, List.getElem_toArray, List.getElem_cons_zero, List.getElem_cons_succ, List.setIfInBounds_toArray, List.set_cons_zero, List.set_cons_succ])
              refine wpAnyH_take (i := 9) (v := ?v6) rfl (by kernel_rfl) (by kernel_rfl) (by kernel_rfl) (fun _ _ _ h => h) (Or.inl ⟨by rfl, ?hy6⟩) hHeld ?rest6
              case hy6 => (intro w' hSw; (try dsimp only at hSw); first | (go_simp; done) | (go_simp; with_reducible rfl))
              simp only [Act.put, List.getElem_toArray, List.getElem_cons_zero, List.getElem_cons_succ, List.setIfInBounds_toArray, List.set_cons_zero, List.set_cons_succ]
              refine wpAnyH_done (by kernel_rfl) ?_ _
              refine NoPanic.normal ?_
              clear hHeld
              go_wp2_with fail
              go_meet
              case rel => exact ⟨g, _, _, _, _, rfl, rfl, ((rg.set 0 _).set 1 _).set 2 _, by have := HW2.out.size; omega, ((hc3.setNew hg _).setNew hg _).setNew hg _, H0.out.setNew (H0.out.setNew (H0.out.setNew hr3 (by have := HW2.out.size; simp only; omega) _) (by have := HW2.out.size; simp only; omega) _) (by have := HW2.out.size; simp only; omega) _, _, ((hD.setRow rg rfl _).setRow (rg.set 0 _) rfl _).setRow ((rg.set 0 _).set 1 _) rfl _, (HS3.out.act o).mono (by omega)⟩
            refine AllReadyH.cons rfl (fun K hK => ?_) AllReadyH.nil
            go_simp
            have hq : But R u1 (u1.alloc (.cells #[.slice none 0 0, .slice none 0 0, .slice none 0 0] 27)) := (But.refl R _).alloc _
            have hr2 := hr1.alloc (.cells #[.slice none 0 0, .slice none 0 0, .slice none 0 0] 27)
            have rg := Row.new u1 27 #[.slice none 0 0, .slice none 0 0, .slice none 0 0]
            have hg : w2.heap.size ≤ u1.heap.size := hc1.size
            have kc2 : (u1.alloc (.cells #[.slice none 0 0, .slice none 0 0, .slice none 0 0] 27)).cell? ⟨w.heap.size + 1, 0, none⟩ = some (.slice A0 n0' c0) ∧ (u1.alloc (.cells #[.slice none 0 0, .slice none 0 0, .slice none 0 0] 27)).cell? ⟨w.heap.size + 1, 1, none⟩ = some (.slice A1 n1' c1) ∧ (u1.alloc (.cells #[.slice none 0 0, .slice none 0 0, .slice none 0 0] 27)).cell? ⟨w.heap.size + 1, 2, none⟩ = some (.slice A2 n2' c2) := ⟨(hq.cell (p := ⟨w.heap.size + 1, 0, none⟩) (by have := HW2.out.size; have := hc1.size; simp only; omega) (by simp only; omega)).trans kc1.1, (hq.cell (p := ⟨w.heap.size + 1, 1, none⟩) (by have := HW2.out.size; have := hc1.size; simp only; omega) (by simp only; omega)).trans kc1.2.1, (hq.cell (p := ⟨w.heap.size + 1, 2, none⟩) (by have := HW2.out.size; have := hc1.size; simp only; omega) (by simp only; omega)).trans kc1.2.2⟩
            have hc2 := hc1.trans hq
            clear hq
            generalize u1.alloc (.cells #[.slice none 0 0, .slice none 0 0, .slice none 0 0] 27) = u2 at *
            generalize u1.heap.size = g at *
            refine hK.out _ _ kc2 (fun hHeld => ?_)
            clear hK K
            (try simp only [Act.put, List.getElem_toArray, List.getElem_cons_zero, List.getElem_cons_succ, List.setIfInBounds_toArray, List.set_cons_zero, List.set_cons_succ])
            refine wpAnyH_ready (rs := [3]) (by kernel_rfl) (by simp) ?_
            refine AllReadyH.cons rfl (fun K hK => ?_) AllReadyH.nil
            go_simp
            go_at_call 21
            refine (specDo x o A0 n0' c0 A1 n1' c1 A2 n2' c2 _ _ (T.out u2 hc2).1 (T.out u2 hc2).2.1 (T.out u2 hc2).2.2 HSZ.out (by have := ho; unfold Oz.sz at this; omega)).mono ?_
            rintro e u3 ⟨⟨v, rfl, hD⟩, hq⟩
            have hr3 := rdr_belowD hr2 hq
            have hq := below_butD hq R
            have rg := rg.butR hq (by omega)
            have hD := hD.mono (base' := w.heap.size + 2) (by have := HW2.out.size; have := hc2.size; omega)
            have kc3 : u3.cell? ⟨w.heap.size + 1, 0, none⟩ = some (.slice A0 n0' c0) ∧ u3.cell? ⟨w.heap.size + 1, 1, none⟩ = some (.slice A1 n1' c1) ∧ u3.cell? ⟨w.heap.size + 1, 2, none⟩ = some (.slice A2 n2' c2) := ⟨(hq.cell (p := ⟨w.heap.size + 1, 0, none⟩) (by have := HW2.out.size; have := hc2.size; simp only; omega) (by simp only; omega)).trans kc2.1, (hq.cell (p := ⟨w.heap.size + 1, 1, none⟩) (by have := HW2.out.size; have := hc2.size; simp only; omega) (by simp only; omega)).trans kc2.2.1, (hq.cell (p := ⟨w.heap.size + 1, 2, none⟩) (by have := HW2.out.size; have := hc2.size; simp only; omega) (by simp only; omega)).trans kc2.2.2⟩
            have hc3 := hc2.trans hq
            clear hq
            obtain ⟨v0, v1, v2, rfl, k0, k1, k2, -⟩ := id hD
            obtain ⟨B0, m0, d0, rfl⟩ := k0.len
            obtain ⟨B1, m1, d1, rfl⟩ := k1.len
            obtain ⟨B2, m2, d2, rfl⟩ := k2.len
            clear k0 k1 k2
            obtain ⟨⟨r0, r1, r2⟩, ⟨f0, f1, f2⟩⟩ := rg.three
            refine hK.out _ _ kc3 (fun hHeld => ?_)
            clear hK K
            (try simp only [Act.put, List.getElem_toArray, List.getElem_cons_zero, List.getElem_cons_succ, List.setIfInBounds_toArray, List.set_cons_zero, List.set_cons_succ])
            refine wpAnyH_take (i := 4) (v := ?v7) rfl (by kernel_rfl) (by kernel_rfl) (by kernel_rfl) (fun _ _ _ h => h) (Or.inl ⟨by rfl, ?hy7⟩) hHeld ?rest7
            case hy7 => (intro w' hSw; (try dsimp only at hSw); first | (go_simp; done) | (go_simp; with_reducible rfl))
            simp only [Act.put, List.getElem_toArray, List.getElem_cons_zero, List.getElem_cons_succ, List.setIfInBounds_toArray, List.set_cons_zero, List.set_cons_succ]
            refine wpAnyH_take (i := 5) (v := ?v8) rfl (by kernel_rfl) (by kernel_rfl) (by kernel_rfl) (fun _ _ _ h => h) (Or.inl ⟨by rfl, ?hy8⟩) hHeld ?rest8
            case hy8 => (intro w' hSw; (try dsimp only at hSw); first | (go_simp; done) | (go_simp; with_reducible rfl))
            simp only [Act.put, List.getElem_toArray, List.getElem_cons_zero, List.getElem_cons_succ, List.setIfInBounds_toArray, List.set_cons_zero, List.set_cons_succ]
            refine wpAnyH_take (i := 6) (v := ?v9) rfl (by kernel_rfl) (by kernel_rfl) (by kernel_rfl) (fun _ _ _ h => h) (Or.inl ⟨by rfl, ?hy9⟩) hHeld ?rest9
            case hy9 => (intro w' hSw; (try dsimp only at hSw); first | (go_simp; done) | (go_simp; with_reducible rfl))
            simp only [Act.put, List.getElem_toArray, List.getElem_cons_zero, List.getElem_cons_succ, List.setIfInBounds_toArray, List.set_cons_zero, List.set_cons_succ]
            refine wpAnyH_ready (rs := [8]) (by kernel_rfl) (by simp) ?_
            refine AllReadyH.cons rfl (fun K hK => ?_) AllReadyH.nil
            go_simp
            refine hK.out _ _ ⟨cellOff (cellOff (cellOff kc3.1 (show g ≠ w.heap.size + 1 by have := HW2.out.size; omega)) (show g ≠ w.heap.size + 1 by have := HW2.out.size; omega)) (show g ≠ w.heap.size + 1 by have := HW2.out.size; omega), cellOff (cellOff (cellOff kc3.2.1 (show g ≠ w.heap.size + 1 by have := HW2.out.size; omega)) (show g ≠ w.heap.size + 1 by have := HW2.out.size; omega)) (show g ≠ w.heap.size + 1 by have := HW2.out.size; omega), cellOff (cellOff (cellOff kc3.2.2 (show g ≠ w.heap.size + 1 by have := HW2.out.size; omega)) (show g ≠ w.heap.size + 1 by have := HW2.out.size; omega)) (show g ≠ w.heap.size + 1 by have := HW2.out.size; omega)⟩ (fun hHeld => ?_)
            clear hK K
            (try simp only [Act.put, List.getElem_toArray, List.getElem_cons_zero, List.getElem_cons_succ, List.setIfInBounds_toArray, List.set_cons_zero, List.set_cons_succ])
            refine wpAnyH_take (i := 9) (v := ?v10) rfl (by kernel_rfl) (by kernel_rfl) (by kernel_rfl) (fun _ _ _ h => h) (Or.inl ⟨by rfl, ?hy10⟩) hHeld ?rest10
            case hy10 => (intro w' hSw; (try dsimp only at hSw); first | (go_simp; done) | (go_simp; with_reducible rfl))
            simp only [Act.put, List.getElem_toArray, List.getElem_cons_zero, List.getElem_cons_succ, List.setIfInBounds_toArray, List.set_cons_zero, List.set_cons_succ]
            refine wpAnyH_done (by kernel_rfl) ?_ _
            refine NoPanic.normal ?_
            clear hHeld
            go_wp2_with fail
            go_meet
            case rel => exact ⟨g, _, _, _, _, rfl, rfl, ((rg.set 0 _).set 1 _).set 2 _, by have := HW2.out.size; omega, ((hc3.setNew hg _).setNew hg _).setNew hg _, H0.out.setNew (H0.out.setNew (H0.out.setNew hr3 (by have := HW2.out.size; simp only; omega) _) (by have := HW2.out.size; simp only; omega) _) (by have := HW2.out.size; simp only; omega) _, _, ((hD.setRow rg rfl _).setRow (rg.set 0 _) rfl _).setRow ((rg.set 0 _).set 1 _) rfl _, (HS3.out.act o).mono (by omega)⟩
          refine AllReadyH.cons rfl (fun K hK => ?_) AllReadyH.nil
          go_simp
          have hq : But R u0 (u0.alloc (.cells #[.slice none 0 0, .slice none 0 0, .slice none 0 0] 27)) := (But.refl R _).alloc _
          have hr1 := hr0.alloc (.cells #[.slice none 0 0, .slice none 0 0, .slice none 0 0] 27)
          have rg := Row.new u0 27 #[.slice none 0 0, .slice none 0 0, .slice none 0 0]
          have hg : w2.heap.size ≤ u0.heap.size := hc0.size
          have kc1 : (u0.alloc (.cells #[.slice none 0 0, .slice none 0 0, .slice none 0 0] 27)).cell? ⟨w.heap.size + 1, 0, none⟩ = some (.slice A0 n0' c0) ∧ (u0.alloc (.cells #[.slice none 0 0, .slice none 0 0, .slice none 0 0] 27)).cell? ⟨w.heap.size + 1, 1, none⟩ = some (.slice A1 n1' c1) ∧ (u0.alloc (.cells #[.slice none 0 0, .slice none 0 0, .slice none 0 0] 27)).cell? ⟨w.heap.size + 1, 2, none⟩ = some (.slice A2 n2' c2) := ⟨(hq.cell (p := ⟨w.heap.size + 1, 0, none⟩) (by have := HW2.out.size; have := hc0.size; simp only; omega) (by simp only; omega)).trans kc0.1, (hq.cell (p := ⟨w.heap.size + 1, 1, none⟩) (by have := HW2.out.size; have := hc0.size; simp only; omega) (by simp only; omega)).trans kc0.2.1, (hq.cell (p := ⟨w.heap.size + 1, 2, none⟩) (by have := HW2.out.size; have := hc0.size; simp only; omega) (by simp only; omega)).trans kc0.2.2⟩
          have hc1 := hc0.trans hq
          clear hq
          generalize u0.alloc (.cells #[.slice none 0 0, .slice none 0 0, .slice none 0 0] 27) = u1 at *
          generalize u0.heap.size = g at *
          refine hK.out _ _ kc1 (fun hHeld => ?_)
          clear hK K
          (try simp only [Act.put, List.getElem_toArray, List.getElem_cons_zero, List.getElem_cons_succ, List.setIfInBounds_toArray, List.set_cons_zero, List.set_cons_succ])
          refine wpAnyH_ready (rs := [2]) (by kernel_rfl) (by simp) ?_
          refine AllReadyH.cons rfl (fun K hK => ?_) AllReadyH.nil
          go_simp
          go_at_call 54
          refine (rdDop u1 R a len cap zs hr1).mono ?_
          rintro e u2 ⟨v, rfl, ⟨o, rfl, ho⟩, hq, hr2⟩
          have rg := rg.butR hq (by omega)
          have kc2 : u2.cell? ⟨w.heap.size + 1, 0, none⟩ = some (.slice A0 n0' c0) ∧ u2.cell? ⟨w.heap.size + 1, 1, none⟩ = some (.slice A1 n1' c1) ∧ u2.cell? ⟨w.heap.size + 1, 2, none⟩ = some (.slice A2 n2' c2) := ⟨(hq.cell (p := ⟨w.heap.size + 1, 0, none⟩) (by have := HW2.out.size; have := hc1.size; simp only; omega) (by simp only; omega)).trans kc1.1, (hq.cell (p := ⟨w.heap.size + 1, 1, none⟩) (by have := HW2.out.size; have := hc1.size; simp only; omega) (by simp only; omega)).trans kc1.2.1, (hq.cell (p := ⟨w.heap.size + 1, 2, none⟩) (by have := HW2.out.size; have := hc1.size; simp only; omega) (by simp only; omega)).trans kc1.2.2⟩
          have hc2 := hc1.trans hq
          clear hq
          refine hK.out _ _ kc2 (fun hHeld => ?_)
          clear hK K
          (try simp only [Act.put, List.getElem_toArray, List.getElem_cons_zero, List.getElem_cons_succ, List.setIfInBounds_toArray, List.set_cons_zero, List.set_cons_succ])
          refine wpAnyH_ready (rs := [3]) (by kernel_rfl) (by simp) ?_
          refine AllReadyH.cons rfl (fun K hK => ?_) AllReadyH.nil
          go_simp
          go_at_call 21
          refine (specDo x o A0 n0' c0 A1 n1' c1 A2 n2' c2 _ _ (T.out u2 hc2).1 (T.out u2 hc2).2.1 (T.out u2 hc2).2.2 HSZ.out (by have := ho; unfold Oz.sz at this; omega)).mono ?_
          rintro e u3 ⟨⟨v, rfl, hD⟩, hq⟩
          have hr3 := rdr_belowD hr2 hq
          have hq := below_butD hq R
          have rg := rg.butR hq (by omega)
          have hD := hD.mono (base' := w.heap.size + 2) (by have := HW2.out.size; have := hc2.size; omega)
          have kc3 : u3.cell? ⟨w.heap.size + 1, 0, none⟩ = some (.slice A0 n0' c0) ∧ u3.cell? ⟨w.heap.size + 1, 1, none⟩ = some (.slice A1 n1' c1) ∧ u3.cell? ⟨w.heap.size + 1, 2, none⟩ = some (.slice A2 n2' c2) := ⟨(hq.cell (p := ⟨w.heap.size + 1, 0, none⟩) (by have := HW2.out.size; have := hc2.size; simp only; omega) (by simp only; omega)).trans kc2.1, (hq.cell (p := ⟨w.heap.size + 1, 1, none⟩) (by have := HW2.out.size; have := hc2.size; simp only; omega) (by simp only; omega)).trans kc2.2.1, (hq.cell (p := ⟨w.heap.size + 1, 2, none⟩) (by have := HW2.out.size; have := hc2.size; simp only; omega) (by simp only; omega)).trans kc2.2.2⟩
          have hc3 := hc2.trans hq
          clear hq
          obtain ⟨v0, v1, v2, rfl, k0, k1, k2, -⟩ := id hD
          obtain ⟨B0, m0, d0, rfl⟩ := k0.len
          obtain ⟨B1, m1, d1, rfl⟩ := k1.len
          obtain ⟨B2, m2, d2, rfl⟩ := k2.len
          clear k0 k1 k2
          obtain ⟨⟨r0, r1, r2⟩, ⟨f0, f1, f2⟩⟩ := rg.three
          refine hK.out _ _ kc3 (fun hHeld => ?_)
          clear hK K
          (try simp only [Act.put, List.getElem_toArray, List.getElem_cons_zero, List.getElem_cons_succ, List.setIfInBounds_toArray, List.set_cons_zero, List.set_cons_succ])
          refine wpAnyH_take (i := 4) (v := ?v11) rfl (by kernel_rfl) (by kernel_rfl) (by kernel_rfl) (fun _ _ _ h => h) (Or.inl ⟨by rfl, ?hy11⟩) hHeld ?rest11
          case hy11 => (intro w' hSw; (try dsimp only at hSw); first | (go_simp; done) | (go_simp; with_reducible rfl))
          simp only [Act.put, List.getElem_toArray, List.getElem_cons_zero, List.getElem_cons_succ, List.setIfInBounds_toArray, List.set_cons_zero, List.set_cons_succ]
          refine wpAnyH_take (i := 5) (v := ?v12) rfl (by kernel_rfl) (by kernel_rfl) (by kernel_rfl) (fun _ _ _ h => h) (Or.inl ⟨by rfl, ?hy12⟩) hHeld ?rest12
          case hy12 => (intro w' hSw; (try dsimp only at hSw); first | (go_simp; done) | (go_simp; with_reducible rfl))
          simp only [Act.put, List.getElem_toArray, List.getElem_cons_zero, List.getElem_cons_succ, List.setIfInBounds_toArray, List.set_cons_zero, List.set_cons_succ]
          refine wpAnyH_take (i := 6) (v := ?v13) rfl (by kernel_rfl) (by kernel_rfl) (by kernel_rfl) (fun _ _ _ h => h) (Or.inl ⟨by rfl, ?hy13⟩) hHeld ?rest13
          case hy13 => (intro w' hSw; (try dsimp only at hSw); first | (go_simp; done) | (go_simp; with_reducible rfl))
          simp only [Act.put, List.getElem_toArray, List.getElem_cons_zero, List.getElem_cons_succ, List.setIfInBounds_toArray, List.set_cons_zero, List.set_cons_succ]
          refine wpAnyH_ready (rs := [8]) (by kernel_rfl) (by simp) ?_
          refine AllReadyH.cons rfl (fun K hK => ?_) AllReadyH.nil
          go_simp
          refine hK.out _ _ ⟨cellOff (cellOff (cellOff kc3.1 (show g ≠ w.heap.size + 1 by have := HW2.out.size; omega)) (show g ≠ w.heap.size + 1 by have := HW2.out.size; omega)) (show g ≠ w.heap.size + 1 by have := HW2.out.size; omega), cellOff (cellOff (cellOff kc3.2.1 (show g ≠ w.heap.size + 1 by have := HW2.out.size; omega)) (show g ≠ w.heap.size + 1 by have := HW2.out.size; omega)) (show g ≠ w.heap.size + 1 by have := HW2.out.size; omega), cellOff (cellOff (cellOff kc3.2.2 (show g ≠ w.heap.size + 1 by have := HW2.out.size; omega)) (show g ≠ w.heap.size + 1 by have := HW2.out.size; omega)) (show g ≠ w.heap.size + 1 by have := HW2.out.size; omega)⟩ (fun hHeld => ?_)
          clear hK K
          (try simp only [Act.put, List.getElem_toArray, List.getElem_cons_zero, List.getElem_cons_succ, List.setIfInBounds_toArray, List.set_cons_zero, List.set_cons_succ])
          refine wpAnyH_take (i := 9) (v := ?v14) rfl (by kernel_rfl) (by kernel_rfl) (by kernel_rfl) (fun _ _ _ h => h) (Or.inl ⟨by rfl, ?hy14⟩) hHeld ?rest14
          case hy14 => (intro w' hSw; (try dsimp only at hSw); first | (go_simp; done) | (go_simp; with_reducible rfl))
          simp only [Act.put, List.getElem_toArray, List.getElem_cons_zero, List.getElem_cons_succ, List.setIfInBounds_toArray, List.set_cons_zero, List.set_cons_succ]
          refine wpAnyH_done (by kernel_rfl) ?_ _
          refine NoPanic.normal ?_
          clear hHeld
          go_wp2_with fail
          go_meet
          case rel => exact ⟨g, _, _, _, _, rfl, rfl, ((rg.set 0 _).set 1 _).set 2 _, by have := HW2.out.size; omega, ((hc3.setNew hg _).setNew hg _).setNew hg _, H0.out.setNew (H0.out.setNew (H0.out.setNew hr3 (by have := HW2.out.size; simp only; omega) _) (by have := HW2.out.size; simp only; omega) _) (by have := HW2.out.size; simp only; omega) _, _, ((hD.setRow rg rfl _).setRow (rg.set 0 _) rfl _).setRow ((rg.set 0 _).set 1 _) rfl _, (HS3.out.act o).mono (by omega)⟩
        case rest =>
          obtain ⟨g, u0, u1, u2, kc, rfl, rfl, rg, hgne, hbc, hrc, y, hD, hy⟩ := hcut
          obtain ⟨w0', w1', w2', ew, k0, k1, k2, -⟩ := id hD
          injection ew with ew
          obtain ⟨rfl, rfl, rfl⟩ : u0 = w0' ∧ u1 = w1' ∧ u2 = w2' := by injection ew with ev; injection ev with e0 ev; injection ev with e1 ev; injection ev with e2 ev; exact ⟨e0, e1, e2⟩
          obtain ⟨B0, m0, d0, rfl⟩ := k0.len
          obtain ⟨B1, m1, d1, rfl⟩ := k1.len
          obtain ⟨B2, m2, d2, rfl⟩ := k2.len
          clear k0 k1 k2 ew
          obtain ⟨⟨s0, s1, s2⟩, -⟩ := rg.three
          have p0 := (hbc.cell (p := ⟨w.heap.size + 1, 0, none⟩) (by have := HW2.out.size; simp only; omega) (by simp only; omega)).trans p0
          have p1 := (hbc.cell (p := ⟨w.heap.size + 1, 1, none⟩) (by have := HW2.out.size; simp only; omega) (by simp only; omega)).trans p1
          have p2 := (hbc.cell (p := ⟨w.heap.size + 1, 2, none⟩) (by have := HW2.out.size; simp only; omega) (by simp only; omega)).trans p2
          have q0 := (hbc.frozen (p := ⟨w.heap.size + 1, 0, none⟩) (by have := HW2.out.size; simp only; omega) (by simp only; omega)).trans q0
          have q1 := (hbc.frozen (p := ⟨w.heap.size + 1, 1, none⟩) (by have := HW2.out.size; simp only; omega) (by simp only; omega)).trans q1
          have q2 := (hbc.frozen (p := ⟨w.heap.size + 1, 2, none⟩) (by have := HW2.out.size; simp only; omega) (by simp only; omega)).trans q2
          have HP := Lib.hid (HW2.out.put H0.out hbc hrc hD hy)
          have HN := Lib.hid (show DkW w wc R a len cap zs (25 * (10 - (k - 1))) from by
            obtain ⟨e0, e1, e2, z, k1, k2, k3, k4⟩ := HW2.out.but hlt hbc hrc
            exact ⟨e0, e1, e2, z, k1, k2, k3.mono (by omega), k4⟩)
          clear hgne hbc hrc hD hy rg HW2
          by_cases hkc : kc = 0
          · subst hkc
            go_wp2_with fail
            go_roundw
            case rel => exact ⟨k - 1, by omega, by go_num, HP⟩
            case measure => simp [intOf]; omega
          · go_wp2_with fail
            go_roundw
            case rel => exact ⟨k - 1, by omega, by go_num, HN⟩
            case measure => simp [intOf]; omega
      · go_wp2_with fail
        refine (specSync x A0 n0' c0 A1 n1' c1 A2 n2' c2 _ _ t0 t1 t2 HSZ.out).mono ?_
        rintro e w3 ⟨⟨v, rfl, hv⟩, hq⟩
        have hr3 := rdr_belowD HW2.out.rdr hq
        have hD := hv.mono (base' := w.heap.size + 2) HW2.out.size
        have hb := below_butD hq R
        obtain ⟨v0, v1, v2, rfl, k0, k1, k2, -⟩ := id hD
        obtain ⟨B0, m0, d0, rfl⟩ := k0.len
        obtain ⟨B1, m1, d1, rfl⟩ := k1.len
        obtain ⟨B2, m2, d2, rfl⟩ := k2.len
        clear k0 k1 k2
        have p0 := (hb.cell (p := ⟨w.heap.size + 1, 0, none⟩) (by have := HW2.out.size; simp only; omega) (by simp only; omega)).trans p0
        have p1 := (hb.cell (p := ⟨w.heap.size + 1, 1, none⟩) (by have := HW2.out.size; simp only; omega) (by simp only; omega)).trans p1
        have p2 := (hb.cell (p := ⟨w.heap.size + 1, 2, none⟩) (by have := HW2.out.size; simp only; omega) (by simp only; omega)).trans p2
        have q0 := (hb.frozen (p := ⟨w.heap.size + 1, 0, none⟩) (by have := HW2.out.size; simp only; omega) (by simp only; omega)).trans q0
        have q1 := (hb.frozen (p := ⟨w.heap.size + 1, 1, none⟩) (by have := HW2.out.size; simp only; omega) (by simp only; omega)).trans q1
        have q2 := (hb.frozen (p := ⟨w.heap.size + 1, 2, none⟩) (by have := HW2.out.size; simp only; omega) (by simp only; omega)).trans q2
        have HP := Lib.hid (HW2.out.put H0.out hb hr3 hD (HS3.out.sync.mono (show 25 * (10 - k) ≤ 25 * (10 - (k - 1)) by omega)))
        clear t0 t1 t2 hv hq hb hr3 hD HW2
        go_wp2_with fail
        go_roundw
        case rel => exact ⟨k - 1, by omega, by go_num, HP⟩
        case measure => simp [intOf]; omega
    · have g0 : ¬ (0 : Int) < k := by omega
      obtain rfl : k = 0 := by omega
      go_wp2_with fail
      refine (rdBelow 40 _ R a len cap zs HW.out.rdr).mono ?_
      rintro e w2 ⟨v, rfl, ⟨y, rfl, y0, y1⟩, hb, hr⟩
      have HW2 := Lib.hid (HW.out.but hlt hb hr)
      clear HW hb hr g0 h0 hk
      go_upto_block 2 with fail
      go_cut [] from 30 to 61 (fun wx => DkE w wx R a len cap zs)
      case first =>
        obtain ⟨v0, v1, v2, x, h1, h2, h3, h4, h5, h6⟩ := HW2.out
        have hsz2 := HW2.out.size
        have HS3 := Lib.hid h3
        have H4 := Lib.hid h4
        have H5 := Lib.hid h5
        have H6 := Lib.hid h6
        have H2 := Lib.hid h2
        obtain ⟨w0', w1', w2', ew, k0, k1, k2, hdis⟩ := id h2
        injection ew with ew
        obtain ⟨rfl, rfl, rfl⟩ : v0 = w0' ∧ v1 = w1' ∧ v2 = w2' := by injection ew with ev; injection ev with e0 ev; injection ev with e1 ev; injection ev with e2 ev; exact ⟨e0, e1, e2⟩
        have K0 := Lib.hid k0
        have K1 := Lib.hid k1
        have K2 := Lib.hid k2
        obtain ⟨A0, c0, rfl, l0, m0, s0⟩ := k0.sl
        obtain ⟨A1, c1, rfl, l1, m1, s1⟩ := k1.sl
        obtain ⟨A2, c2, rfl, l2, m2, s2⟩ := k2.sl
        have HL := Lib.hid (sz_lens (h3.sz (by omega)))
        have hl2 := HL.out.2.2
        have HDIS := Lib.hid hdis
        clear ew h2 h3 h4 h5 h6 k0 k1 k2 hdis s0 s1 l0 l1 m0 m1
        obtain ⟨⟨p0, p1, p2⟩, ⟨q0, q1, q2⟩⟩ := h1.three
        have HR := Lib.hid h1
        clear h1
        rcases (show y = 0 ∨ y = 1 ∨ y = 2 ∨ (y ≠ 0 ∧ y ≠ 1 ∧ y ≠ 2) by omega) with rfl | rfl | rfl | ⟨g1, g2, g3⟩
        · obtain ⟨i0, hi, hz0, hz1, hz2⟩ := info_parts infoFileT
          have I1 := Lib.hid hi
          have I2 := Lib.hid hz0
          have I3 := Lib.hid hz1
          have I4 := Lib.hid hz2
          clear hi hz0 hz1 hz2 s2 l2 m2 hl2
          have F0 := Lib.hid (OwnG.far K0.out (Nat.le_refl _))
          go_wp2_with (at_builtin; refine wpList_append_own _ rfl _ _ 24 rfl (w.heap.size + 2) 75 i0 (.agg #[.string ⟨#[]⟩, .string ⟨#[]⟩]) 2 32 Try.underlying24 I1.out I2.out I3.out I4.out rfl (by decide) _ _ _ rfl (World.ownsRow.alloc K0.out _) ⟨_, 0, none⟩ 1 1 (Fz.cells (⟨⟨#[122, 122]⟩, ⟨#[]⟩⟩ : Fz)) rfl rfl ?c11 ?c21 ?c31 ?c41 ?c51 ?_)
          case c11 => first | exact cells_newAt _ (Fz.cells (⟨⟨#[122, 122]⟩, ⟨#[]⟩⟩ : Fz)) _ (by first | rfl | simp) | (intro j u hu; exact hu)
          case c21 => intro u hu; simp [Fz.cells] at hu; rcases hu with rfl | rfl <;> rfl
          case c31 => have := HL.out.1; unfold maxLen; omega
          case c41 => have := HL.out.1; omega
          case c51 => first | omega | (simp; omega)
          intro v6 w6 hown6 hgrow _
          have R6 := OwnG.app K0.out hsz2 hown6 hgrow
          have hal := (Below.refl w2.heap.size w2).alloc (Nat.le_refl _) (.cells #[.string ⟨#[122, 122]⟩, .string ⟨#[]⟩] 75)
          have k1 : OwnZ w6 _ _ _ := OwnG.keptD (OwnG.below K1.out hal) hgrow HDIS.out
          have k2 : OwnO w6 _ _ _ := OwnG.keptD (OwnG.below K2.out hal) hgrow (Dis.types K0.out K2.out (by decide))
          have kr : ∀ {g : Nat} {cs : Array Value}, Row w2 g 27 cs → g < w.heap.size + 2 → Row w6 g 27 cs := fun hr hg => (hgrow.block _ (lt_of_block (hr.alloc _)) (fun e => by have := (OwnG.block_lt K0.out _ e.symm).1; omega)).trans (hr.alloc _)
          have hr6 := kr HR.out (by omega)
          have h46 := kr H4.out (by omega)
          have hbw := R6.2.mono (B' := w.heap.size) (by omega)
          have h56 := H5.out.grown hbw
          have h66 := H0.out.grown H6.out hbw
          obtain ⟨C0, d0, rfl, -⟩ := (show OwnZ w6 _ v6 _ from R6.1).sl
          have HF := Lib.hid (show DkE w (w6.setCell ⟨w.heap.size + 1, 0, none⟩ (.slice C0 (x.live ++ [(⟨⟨#[122, 122]⟩, ⟨#[]⟩⟩ : Fz)]).length d0)) R a len cap zs from ⟨_, _, _, ⟨x.live ++ [(⟨⟨#[122, 122]⟩, ⟨#[]⟩⟩ : Fz)], x.safe, x.ops⟩, hr6.set 0 _, (readsO_own (x := ⟨x.live ++ [(⟨⟨#[122, 122]⟩, ⟨#[]⟩⟩ : Fz)], x.safe, x.ops⟩) R6.1 k1 k2).set (Nat.lt_succ_self _) _, HS3.out.zz, (DkE.setD H0.out h56 h66 h46 0 _).2.2, (DkE.setD H0.out h56 h66 h46 0 _).1, (DkE.setD H0.out h56 h66 h46 0 _).2.1⟩)
          clear p0 p1 p2 q0 q1 q2
          obtain ⟨⟨p0, p1, p2⟩, ⟨q0, q1, q2⟩⟩ := hr6.three
          clear hown6 hgrow R6 hal k1 k2 kr hr6 h46 hbw h56 h66
          generalize (x.live ++ [(⟨⟨#[122, 122]⟩, ⟨#[]⟩⟩ : Fz)]).length = nn at *
          go_wp2_with fail
          go_meet
          case rel => exact HF.out
        · cases ho : x.ops with
          | nil =>
            rw [ho] at p2 s2
            go_wp2_with fail
            go_meet
            case rel => exact HW2.out.fin (by omega)
          | cons o os =>
            rw [ho, List.length_cons] at l2 p2 s2
            obtain ⟨b, off, rfl, -⟩ := s2.2 (by omega)
            have hl3 : os.length + 1 ≤ 1048576 := by rw [ho, List.length_cons] at hl2; exact hl2
            have g1 : (1 : Int) ≤ ((os.length + 1 : Nat) : Int) := by omega
            have g2 : (0 : Int) < ((os.length + 1 : Nat) : Int) := by omega
            have HSM := Lib.hid (show SmD ⟨x.live, x.safe, os⟩ 300 from by have h := HS3.out; rw [show x = ⟨x.live, x.safe, o :: os⟩ by rw [← ho]] at h; exact h.tail.mono (by omega))
            have HX : ∀ u, ReadsO (w.heap.size + 2) (w2.setCell ⟨w.heap.size + 1, 2, none⟩ u) (.slice A0 x.live.length c0) (.slice A1 x.safe.length c1) (.slice (some ⟨b, off + 4, none⟩) os.length (c2 - 1)) ⟨x.live, x.safe, os⟩ := fun u => by
              obtain ⟨B0, n0, d0, B1, n1, d1, B2, n2, d2, e0, e1, e2, t0, t1, t2⟩ := (H2.out.readsO).set (p := ⟨w.heap.size + 1, 2, none⟩) (Nat.lt_succ_self _) u
              rw [ho, List.length_cons] at e2
              injection e2 with ea eb ec
              subst ea eb ec
              rw [ho] at t2
              exact ⟨B0, n0, d0, B1, n1, d1, _, _, _, e0, e1, rfl, t0, t1, t2.tailD⟩
            have HX1 : os.length = 0 → ∀ u, ReadsO (w.heap.size + 2) (w2.setCell ⟨w.heap.size + 1, 2, none⟩ u) (.slice A0 x.live.length c0) (.slice A1 x.safe.length c1) (.slice (some ⟨b, off, none⟩) 0 0) ⟨x.live, x.safe, os⟩ := fun h0 u => by
              obtain ⟨B0, n0, d0, B1, n1, d1, B2, n2, d2, e0, e1, e2, t0, t1, t2⟩ := HX u
              exact ⟨B0, n0, d0, B1, n1, d1, _, _, _, e0, e1, rfl, t0, t1, h0, fun h => by omega⟩
            have HRR := Lib.hid (show Row w2 (w.heap.size + 1) 27 #[.slice A0 x.live.length c0, .slice A1 x.safe.length c1, .slice (some ⟨b, off, none⟩) (os.length + 1) c2] from by have h := HR.out; rw [ho, List.length_cons] at h; exact h)
            have HF := Lib.hid (fun u (h : u = Value.slice (some ⟨b, off + 4, none⟩) os.length (c2 - 1)) => show DkE w (w2.setCell ⟨w.heap.size + 1, 2, none⟩ u) R a len cap zs from by subst h; exact ⟨_, _, _, ⟨x.live, x.safe, os⟩, HRR.out.set 2 _, HX _, HSM.out, (DkE.setD H0.out H5.out H6.out H4.out 2 _).2.2, (DkE.setD H0.out H5.out H6.out H4.out 2 _).1, (DkE.setD H0.out H5.out H6.out H4.out 2 _).2.1⟩)
            have HG := Lib.hid (fun u (h0 : os.length = 0) (h : u = Value.slice (some ⟨b, off, none⟩) 0 0) => show DkE w (w2.setCell ⟨w.heap.size + 1, 2, none⟩ u) R a len cap zs from by subst h; exact ⟨_, _, _, ⟨x.live, x.safe, os⟩, HRR.out.set 2 _, HX1 h0 _, HSM.out, (DkE.setD H0.out H5.out H6.out H4.out 2 _).2.2, (DkE.setD H0.out H5.out H6.out H4.out 2 _).1, (DkE.setD H0.out H5.out H6.out H4.out 2 _).2.1⟩)
            clear s2 HX HX1 hl2
            by_cases hc1 : c2 = 1
            · obtain hz : os.length = 0 := by omega
              subst hc1
              go_wp2_with fail
              go_meet
              case rel => first | exact HG.out _ hz rfl | exact HF.out _ rfl
            · go_wp2_with fail
              go_meet
              case rel => exact HF.out _ rfl
        · clear s2 l2 m2 hl2
          have HLT2 := Lib.hid (show R < w2.heap.size by omega)
          go_wp2_with fail
          refine (rdBelow 9 _ R a len cap zs H6.out).mono ?_
          rintro e w3 ⟨v, rfl, ⟨z, rfl, z0, z1⟩, hb3, hr3⟩
          obtain ⟨m, hm⟩ : ∃ m : Nat, (200000 : Int) - z = m := ⟨(200000 - z).toNat, by omega⟩
          have hm2 : m ≤ 200000 := by omega
          have hz9 : z ≤ 8 := by omega
          have hmk : ∀ w, (Instr.makeSlice 22 (.int .i64 (m : Int)) (.int .i64 (m : Int))).run Try.prog w = .ok (.slice (some ⟨w.heap.size, 0, none⟩) m m) (w.alloc (.cells (madeCells #[.int .u8 0] m) 5)) := fun w => by
            have h := mk_rows (P := Try.prog) Try.underlying22 infoByte (by omega) m (by omega) w
            rw [Nat.mul_one] at h
            exact h
          obtain ⟨s, hs, hcv⟩ := (OwnB.made w3 m (by omega)).conv
          rw [List.length_replicate] at hs
          have hr3' := (HR.out.butR hb3 (by omega))
          have h43 := (H4.out.butR hb3 (by omega))
          have h53 := H5.out.trans hb3
          have hs3 := hb3.size
          have hrw := (hr3'.alloc (.cells (madeCells #[.int .u8 0] m) 5)).alloc (.cells #[.string ⟨#[98, 105, 103]⟩, .string s] 75)
          have HO := Lib.hid (show OwnZ ((w3.alloc (.cells (madeCells #[.int .u8 0] m) 5)).alloc (.cells #[.string ⟨#[98, 105, 103]⟩, .string s] 75)) (w.heap.size + 2) (.slice (some ⟨w3.heap.size + 1, 0, none⟩) 1 1) [⟨⟨#[98, 105, 103]⟩, s⟩] from by
            have h := World.ownsRow_lit (e := 75) (size := 2) (w3.alloc (.cells (madeCells #[.int .u8 0] m) 5)) #[.string ⟨#[98, 105, 103]⟩, .string s] 1 (Nat.le_refl _) (by unfold maxLen; omega) rfl
            rw [heap_size_alloc1] at h
            exact OwnZ.mono h (by omega))
          obtain ⟨⟨p0, p1, p2⟩, ⟨q0, q1, q2⟩⟩ := hrw.three
          have H53 := Lib.hid ((h53.alloc (.cells (madeCells #[.int .u8 0] m) 5)).alloc (.cells #[.string ⟨#[98, 105, 103]⟩, .string s] 75))
          have H63 := Lib.hid ((hr3.alloc (.cells (madeCells #[.int .u8 0] m) 5)).alloc (.cells #[.string ⟨#[98, 105, 103]⟩, .string s] 75))
          have H43 := Lib.hid ((h43.alloc (.cells (madeCells #[.int .u8 0] m) 5)).alloc (.cells #[.string ⟨#[98, 105, 103]⟩, .string s] 75))
          have HRW := Lib.hid hrw
          have HSS := Lib.hid hs
          clear hrw h43 h53 hr3 hr3' hb3 hs
          have hw4 := Row.set (Row.set (Row.set HRW.out 0 (.slice (some ⟨w3.heap.size + 1, 0, none⟩) 1 1)) 1 (.slice none 0 0)) 2 (.slice none 0 0)
          have HO4 := Lib.hid (OwnG.set (OwnG.set (OwnG.set HO.out (p := ⟨w.heap.size + 1, 0, none⟩) (Nat.lt_succ_self _) (.slice (some ⟨w3.heap.size + 1, 0, none⟩) 1 1)) (p := ⟨w.heap.size + 1, 1, none⟩) (Nat.lt_succ_self _) (.slice none 0 0)) (p := ⟨w.heap.size + 1, 2, none⟩) (Nat.lt_succ_self _) (.slice none 0 0))
          have e0 := DkE.setD H0.out H53.out H63.out H43.out 0 (.slice (some ⟨w3.heap.size + 1, 0, none⟩) 1 1)
          have e1 := DkE.setD H0.out e0.1 e0.2.1 e0.2.2 1 (.slice none 0 0)
          have e2 := DkE.setD H0.out e1.1 e1.2.1 e1.2.2 2 (.slice none 0 0)
          clear e0 e1
          go_upto_region 18 with fail
          generalize ((((w3.alloc (.cells (madeCells #[.int .u8 0] m) 5)).alloc (.cells #[.string ⟨#[98, 105, 103]⟩, .string s] 75)).setCell ⟨w.heap.size + 1, 0, none⟩ (.slice (some ⟨w3.heap.size + 1, 0, none⟩) 1 1)).setCell ⟨w.heap.size + 1, 1, none⟩ (.slice none 0 0)).setCell ⟨w.heap.size + 1, 2, none⟩ (.slice none 0 0) = w4 at *
          clear p0 p1 p2 q0 q1 q2
          obtain ⟨⟨p0, p1, p2⟩, ⟨q0, q1, q2⟩⟩ := (show Row w4 (w.heap.size + 1) 27 #[.slice (some ⟨w3.heap.size + 1, 0, none⟩) 1 1, .slice none 0 0, .slice none 0 0] from hw4).three
          have e3 := DkE.setD H0.out e2.1 e2.2.1 e2.2.2 1 (.slice (some ⟨w3.heap.size + 1, 0, none⟩) 1 1)
          have HO5 := OwnG.set HO4.out (p := ⟨w.heap.size + 1, 1, none⟩) (Nat.lt_succ_self _) (.slice (some ⟨w3.heap.size + 1, 0, none⟩) 1 1)
          have HF := Lib.hid (show DkE w (w4.setCell ⟨w.heap.size + 1, 1, none⟩ (.slice (some ⟨w3.heap.size + 1, 0, none⟩) 1 1)) R a len cap zs from
            ⟨_, _, _, ⟨[⟨⟨#[98, 105, 103]⟩, s⟩], [⟨⟨#[98, 105, 103]⟩, s⟩], []⟩, hw4.set 1 _, readsO_own (x := ⟨[⟨⟨#[98, 105, 103]⟩, s⟩], [⟨⟨#[98, 105, 103]⟩, s⟩], []⟩) HO5 HO5 (OwnG.nil _ _), SmD.big (by have := HSS.out; omega), e3.2.2, e3.1, e3.2.1⟩)
          clear hw4 e2 e3 HO5 hmk hcv
          go_wp2_with fail
          go_meet
          case rel => exact HF.out
        · go_wp2_with fail
          go_meet
          case rel => exact HW2.out.fin (by omega)
      case rest =>
        obtain ⟨v0, v1, v2, x, h1, h2, h3, h4, h5, h6⟩ := hcut
        obtain ⟨B0, n0, d0, B1, n1, d1, B2, n2, d2, rfl, rfl, rfl, t0, t1, t2⟩ := id h2
        have H2 := Lib.hid h2
        have H3 := Lib.hid h3
        have H4 := Lib.hid h4
        have HB := Lib.hid (((h5.setNew (p := ⟨w.heap.size, 0, none⟩) (Nat.le_refl _) (.slice B0 n0 d0)).setNew (p := ⟨w.heap.size, 1, none⟩) (Nat.le_refl _) (.slice B1 n1 d1)).setNew (p := ⟨w.heap.size, 2, none⟩) (Nat.le_refl _) (.slice B2 n2 d2))
        have HRD := Lib.hid (H0.out.setNew (H0.out.setNew (H0.out.setNew h6 (p := ⟨w.heap.size, 0, none⟩) (Nat.le_refl _) (.slice B0 n0 d0)) (p := ⟨w.heap.size, 1, none⟩) (Nat.le_refl _) (.slice B1 n1 d1)) (p := ⟨w.heap.size, 2, none⟩) (Nat.le_refl _) (.slice B2 n2 d2))
        have HS := Lib.hid (((h2.set (p := ⟨w.heap.size, 0, none⟩) (by simp) (.slice B0 n0 d0)).set (p := ⟨w.heap.size, 1, none⟩) (by simp) (.slice B1 n1 d1)).set (p := ⟨w.heap.size, 2, none⟩) (by simp) (.slice B2 n2 d2))
        obtain ⟨⟨p0, p1, p2⟩, -⟩ := h1.three
        obtain ⟨⟨r0, r1, r2⟩, ⟨f0, f1, f2⟩⟩ := h4.three
        clear h1 h2 h3 h4 h5 h6 t0 t1 t2
        go_wp2_with fail
        have hr9 := Row.set (Row.set (Row.set H4.out 0 (.slice B0 n0 d0)) 1 (.slice B1 n1 d1)) 2 (.slice B2 n2 d2)
        exact bodyPost_ret (results_cell_row (p := 2) (ty := 27) rfl _ _ w.heap.size 27 #[.slice B0 n0 d0, .slice B1 n1 d1, .slice B2 n2 d2] (0, 0) _ rfl hr9 Try.underlying27 rfl HI.out) rfl ⟨_, rfl, ⟨_, _, _, x, rfl, HS.out.mono (by omega), H3.out⟩, HB.out, HRD.out⟩
end Go.Proofs.Ytkinegapnknhiaa
namespace Go.Proofs.Ytkinegapnknhiaa
open Go.RowKit
set_option linter.unusedVariables false
set_option linter.unusedSimpArgs false

/-- A reader above the box of an answer. -/
theorem rdr_box {w : World} {a : Option Addr} {len cap : Nat} {zs : List Int} (h : IsRow .u8 w a len cap zs) (o : Obj) : Rdr ((w.alloc o).alloc (.cells #[.slice a len cap, .int .i64 0] 102)) (w.heap.size + 1) a len cap zs := by
  have := Rdr.new (h.below ((Below.refl w.heap.size w).alloc (Nat.le_refl _) o)) 102
  rwa [heap_size_alloc1] at this

set_option maxRecDepth 100000 in
set_option maxHeartbeats 1000000 in
theorem drawDiskOk (a : Option Addr) (len cap : Nat) (zs : List Int) (w : World) (h : IsRow .u8 w a len cap zs) :
    Calls Try.prog 13 #[.slice a len cap] w (Drawn (isDk w.heap.size) w) := by
  have HI := Lib.hid infoDisk
  have h0 := rdr_box h (.cells #[.slice none 0 0, .slice none 0 0, .slice none 0 0] 27)
  have rb := (Row.new w 27 #[.slice none 0 0, .slice none 0 0, .slice none 0 0]).alloc (.cells #[.slice a len cap, .int .i64 0] 102)
  have b0 := ((Below.refl w.heap.size w).alloc (Nat.le_refl _) (.cells #[.slice none 0 0, .slice none 0 0, .slice none 0 0] 27)).alloc (by simp) (.cells #[.slice a len cap, .int .i64 0] 102)
  have hsz : ((w.alloc (.cells #[.slice none 0 0, .slice none 0 0, .slice none 0 0] 27)).alloc (.cells #[.slice a len cap, .int .i64 0] 102)).heap.size = w.heap.size + 2 := by simp
  go_enter Try.func13, Try.ntmps13
  go_wp2_with fail
  refine (specOpen _ _ _ _).mono ?_
  rintro e w1 ⟨rfl, rfl⟩
  generalize (w.alloc (.cells #[.slice none 0 0, .slice none 0 0, .slice none 0 0] 27)).alloc (.cells #[.slice a len cap, .int .i64 0] 102) = u at *
  go_wp2_with fail
  refine (rdDisk _ _ a len cap zs h0).mono ?_
  rintro e w2 ⟨v, rfl, ⟨v0, v1, v2, x, rfl, h2, h3⟩, hb, hr⟩
  rw [hsz] at h2
  obtain ⟨B0, n0, d0, B1, n1, d1, B2, n2, d2, rfl, rfl, rfl, -, -, -⟩ := id h2
  have hb2 := b0.trans (hb.below (Nat.le_succ _) (by omega))
  have rb2 := rb.butR hb (by omega)
  have HB := Lib.hid (((hb2.setCell (p := ⟨w.heap.size, 0, none⟩) (Nat.le_refl _) (.slice B0 n0 d0)).setCell (p := ⟨w.heap.size, 1, none⟩) (Nat.le_refl _) (.slice B1 n1 d1)).setCell (p := ⟨w.heap.size, 2, none⟩) (Nat.le_refl _) (.slice B2 n2 d2))
  have HS := Lib.hid (((h2.set (p := ⟨w.heap.size, 0, none⟩) (by simp) (.slice B0 n0 d0)).set (p := ⟨w.heap.size, 1, none⟩) (by simp) (.slice B1 n1 d1)).set (p := ⟨w.heap.size, 2, none⟩) (by simp) (.slice B2 n2 d2))
  have H3 := Lib.hid h3
  have HR := Lib.hid rb2
  obtain ⟨⟨r0, r1, r2⟩, ⟨f0, f1, f2⟩⟩ := rb2.three
  clear h0 rb b0 h2 h3 hb hr hb2 rb2
  go_wp2_with fail
  have hr9 := Row.set (Row.set (Row.set HR.out 0 (.slice B0 n0 d0)) 1 (.slice B1 n1 d1)) 2 (.slice B2 n2 d2)
  exact bodyPost_ret (results_cell_row (p := 2) (ty := 27) rfl _ _ w.heap.size 27 #[.slice B0 n0 d0, .slice B1 n1 d1, .slice B2 n2 d2] (0, 0) _ rfl hr9 Try.underlying27 rfl HI.out) rfl ⟨_, rfl, ⟨_, _, _, x, rfl, HS.out.mono (by omega), H3.out⟩, HB.out⟩
end Go.Proofs.Ytkinegapnknhiaa
namespace Go.Proofs.Ytkinegapnknhiaa
open Go.RowKit
set_option linter.unusedVariables false
set_option linter.unusedSimpArgs false

theorem results_cell_tmps {P : Program} {fn : Func} {p u u2 : Tmp} {ty : TypeId} (h : fn.results = #[.cell p ty, .tmp u, .tmp u2]) (tmps : Array Value) (w : World) (g : Nat) (t : TypeId) (cs : Array Value) (fr : Nat × Nat) (d : TypeDesc)
    (hp : tmps.getD p undef = .pointer (some ⟨g, 0, none⟩)) {r r2 : Value} (hr : tmps.getD u undef = r) (hr2 : tmps.getD u2 undef = r2) (hg : w.heap[g]? = some (.cells cs t fr))
    (hu : P.underlying ty = some d) (hd : (match d with | .struct _ | .array _ _ => true | _ => false) = true) (hi : (P.info? ty).map (·.size) = some cs.size) :
    (results fn tmps).run P w = .ok (.tuple #[.agg cs, r, r2]) w := by
  have hp' : tmps[p]?.getD undef = .pointer (some ⟨g, 0, none⟩) := by simpa using hp
  have hr' : tmps[u]?.getD undef = r := by simpa using hr
  have hr2' : tmps[u2]?.getD undef = r2 := by simpa using hr2
  simp [results, h, hp', hr', hr2', asAddr, run_loadVar_row w g t ty cs fr d hg hu hd hi]
theorem ReadsO.reads0 {base : Nat} {w w' : World} {v0 v1 v2 : Value} {x : Dz} (h : ReadsO base w v0 v1 v2 x) (hb : Below w.heap.size w w') : ReadsO base w' v0 v1 v2 x := by
  obtain ⟨A0, n0, c0, A1, n1, c1, A2, n2, c2, e0, e1, e2, s0, s1, s2⟩ := h
  exact ⟨A0, n0, c0, A1, n1, c1, A2, n2, c2, e0, e1, e2, s0.below FzR.stays hb, s1.below FzR.stays hb, s2.below OzR.stays hb⟩
/-- A disk that can be read, of bounded size, a name, data. -/
def isRp (v : Value) (w : World) : Prop := ∃ (v0 v1 v2 : Value) (x : Dz) (n d : ByteArray), v = .tuple #[.agg #[v0, v1, v2], .string n, .string d] ∧ ReadsD w v0 v1 v2 x ∧ SmD x 300 ∧ n.size ≤ 100 ∧ d.size ≤ 3

set_option maxRecDepth 100000 in
set_option maxHeartbeats 2000000 in
theorem drawReplace (a : Option Addr) (len cap : Nat) (zs : List Int) (w : World) (h : IsRow .u8 w a len cap zs) :
    Calls Try.prog 23 #[.slice a len cap] w (Drawn isRp w) := by
  have HI := Lib.hid infoDisk
  have h0 := rdr_box h (.cells #[.slice none 0 0, .slice none 0 0, .slice none 0 0] 27)
  have rb := (Row.new w 27 #[.slice none 0 0, .slice none 0 0, .slice none 0 0]).alloc (.cells #[.slice a len cap, .int .i64 0] 102)
  have b0 := ((Below.refl w.heap.size w).alloc (Nat.le_refl _) (.cells #[.slice none 0 0, .slice none 0 0, .slice none 0 0] 27)).alloc (by simp) (.cells #[.slice a len cap, .int .i64 0] 102)
  have hsz : ((w.alloc (.cells #[.slice none 0 0, .slice none 0 0, .slice none 0 0] 27)).alloc (.cells #[.slice a len cap, .int .i64 0] 102)).heap.size = w.heap.size + 2 := by simp
  go_enter Try.func23, Try.ntmps23
  go_wp2_with fail
  refine (specOpen _ _ _ _).mono ?_
  rintro e w1 ⟨rfl, rfl⟩
  generalize (w.alloc (.cells #[.slice none 0 0, .slice none 0 0, .slice none 0 0] 27)).alloc (.cells #[.slice a len cap, .int .i64 0] 102) = u at *
  go_wp2_with fail
  refine (rdDisk _ _ a len cap zs h0).mono ?_
  rintro e w2 ⟨v, rfl, ⟨v0, v1, v2, x, rfl, h2, h3⟩, hb, hr⟩
  rw [hsz] at h2
  obtain ⟨B0, n0, d0, B1, n1, d1, B2, n2, d2, rfl, rfl, rfl, -, -, -⟩ := id h2
  have H3 := Lib.hid h3
  have hu2 := hb.size
  have b2 := b0.trans (hb.below (Nat.le_succ _) (by omega))
  have rb := rb.butR hb (by omega)
  clear h3 hb h0 b0
  have hal := ((Below.refl w2.heap.size w2).alloc (Nat.le_refl _) (.cells #[.slice B0 n0 d0, .slice B1 n1 d1, .slice B2 n2 d2] 27)).alloc (by simp) (.cells #[.string ⟨#[98, 97, 115, 101]⟩, .string ⟨#[108, 111, 103]⟩, .string ⟨#[98, 97, 115, 101]⟩, .string ⟨#[]⟩] 9)
  have rd := (Row.new w2 27 #[.slice B0 n0 d0, .slice B1 n1 d1, .slice B2 n2 d2]).alloc (.cells #[.string ⟨#[98, 97, 115, 101]⟩, .string ⟨#[108, 111, 103]⟩, .string ⟨#[98, 97, 115, 101]⟩, .string ⟨#[]⟩] 9)
  have rb := rb.below hal
  have h2 := h2.reads0 hal
  have b3 := b2.trans (hal.mono b2.size)
  have hr := rdr_belowD hr hal
  have hs3 : ((w2.alloc (.cells #[.slice B0 n0 d0, .slice B1 n1 d1, .slice B2 n2 d2] 27)).alloc (.cells #[.string ⟨#[98, 97, 115, 101]⟩, .string ⟨#[108, 111, 103]⟩, .string ⟨#[98, 97, 115, 101]⟩, .string ⟨#[]⟩] 9)).heap.size = w2.heap.size + 2 := by simp
  go_wp2_with fail
  refine (rdBelow _ _ _ a len cap zs hr).mono ?_
  rintro e w4 ⟨v, rfl, ⟨y, rfl, y0, y1⟩, hb, hr4⟩
  obtain ⟨j, rfl, hj⟩ := below_nat y0 y1 (by omega)
  have hj' : j < 4 := by omega
  have hcj := new_cell (w := w2.alloc (.cells #[.slice B0 n0 d0, .slice B1 n1 d1, .slice B2 n2 d2] 27)) hb (by simp; omega) j (by simpa using hj')
  obtain ⟨s, es, hs12⟩ := short_str (xs := [Value.string ⟨#[98, 97, 115, 101]⟩, .string ⟨#[108, 111, 103]⟩, .string ⟨#[98, 97, 115, 101]⟩, .string ⟨#[]⟩]) (by simp; decide) (j := j) (by simpa using hj')
  simp only [List.getElem_toArray, es, heap_size_alloc1] at hcj
  have hs4 := hb.size
  have rd := rd.butR hb (by omega)
  have rb := rb.butR hb (by omega)
  have h2 := h2.butR hb (by omega)
  have b4 := b3.trans (hb.below (by omega) b3.size)
  clear hb es y0 y1 hal b3 b2 hr
  rw [hs3] at hs4
  have hgd : w.heap.size + 2 ≤ w2.heap.size := by omega
  generalize w2.heap.size = gd at *
  go_wp2_with fail
  refine (rdOnce 12 _ _ a len cap zs hr4).mono ?_
  rintro e w5 ⟨v, rfl, ⟨b, rfl⟩, hb, hr5⟩
  have hs5 := hb.size
  have rd := rd.butR hb (by omega)
  have rb := rb.butR hb (by omega)
  have h2 := h2.butR hb (by omega)
  have b5 := b4.trans (hb.below (by omega) b4.size)
  clear hcj hb hr4 b4
  go_upto_if 18 with (fail)
  go_cut [7] from 19 to 24 (fun s7 wx => ∃ s : ByteArray, s7 = .string s ∧ s.size ≤ 100 ∧ But (w.heap.size + 1) w5 wx ∧ Rdr wx (w.heap.size + 1) a len cap zs)
  case first =>
    cases b
    · go_wp2_with fail
      go_meet
      case rel => exact ⟨s, rfl, by omega, But.refl _ _, hr5⟩
    · go_wp2_with fail
      refine (rdBelow 4 _ _ a len cap zs hr5).mono ?_
      rintro e w6 ⟨v, rfl, ⟨z, rfl, z0, z1⟩, hb6, hr6⟩
      obtain ⟨m, hm⟩ : ∃ m : Nat, (95 : Int) + z = m := ⟨(95 + z).toNat, by omega⟩
      have hm2 : m ≤ 98 := by omega
      have hmk : ∀ w, (Instr.makeSlice 22 (.int .i64 (m : Int)) (.int .i64 (m : Int))).run Try.prog w = .ok (.slice (some ⟨w.heap.size, 0, none⟩) m m) (w.alloc (.cells (madeCells #[.int .u8 0] m) 5)) := fun w => by
        have h := mk_rows (P := Try.prog) Try.underlying22 infoByte (by omega) m (by omega) w
        rw [Nat.mul_one] at h
        exact h
      obtain ⟨t, ht, hcv⟩ := (OwnB.made w6 m (by omega)).conv
      rw [List.length_replicate] at ht
      go_wp2_with fail
      go_meet
      case rel => exact ⟨t, rfl, by omega, hb6.alloc _, hr6.alloc _⟩
  case rest =>
    obtain ⟨s9, rfl, hs9, hb, hr9⟩ := hcut
    have hs6 := hb.size
    have rd := rd.butR hb (by omega)
    have rb := rb.butR hb (by omega)
    have h2 := h2.butR hb (by omega)
    have b6 := b5.trans (hb.below (by omega) b5.size)
    clear hb hr5 b5
    obtain ⟨⟨p0, p1, p2⟩, -⟩ := rd.three
    have kc0 : wc.drew.cell? ⟨gd, 0, none⟩ = some (.slice B0 n0 d0) ∧ wc.drew.cell? ⟨gd, 1, none⟩ = some (.slice B1 n1 d1) ∧ wc.drew.cell? ⟨gd, 2, none⟩ = some (.slice B2 n2 d2) := ⟨p0, p1, p2⟩
    have hc0 : But (w.heap.size + 1) wc wc.drew := (But.refl _ _).drew
    have hr0 : Rdr wc.drew (w.heap.size + 1) a len cap zs := ⟨hr9.code, hr9.place, hr9.free, hr9.row, hr9.apart⟩
    have hgl : gd < wc.drew.heap.size := by have h := cell_lt p0; exact h
    go_upto_region 6 with fail
    refine wp_region_noPanic ?_
    refine wp_region_held_drew (S := (fun w' => w'.cell? ⟨gd, 0, none⟩ = some (.slice B0 n0 d0) ∧ w'.cell? ⟨gd, 1, none⟩ = some (.slice B1 n1 d1) ∧ w'.cell? ⟨gd, 2, none⟩ = some (.slice B2 n2 d2))) (by kernel_rfl) ⟨p0, p1, p2⟩ (fun hHeld => ?_)
    generalize wc.drew = u0 at *
    refine wpAnyH_take (i := 0) (v := ?v1) rfl (by kernel_rfl) (by kernel_rfl) (by kernel_rfl) (fun _ _ _ h => h) (Or.inl ⟨by rfl, ?hy1⟩) hHeld ?rest1
    case hy1 => (intro w' hSw; (try dsimp only at hSw); first | (go_simp; done) | (go_simp; with_reducible rfl))
    simp only [Act.put, List.getElem_toArray, List.getElem_cons_zero, List.getElem_cons_succ, List.setIfInBounds_toArray, List.set_cons_zero, List.set_cons_succ]
    refine wpAnyH_take (i := 1) (v := ?v2) rfl (by kernel_rfl) (by kernel_rfl) (by kernel_rfl) (fun _ _ _ h => h) (Or.inl ⟨by rfl, ?hy2⟩) hHeld ?rest2
    case hy2 => (intro w' hSw; (try dsimp only at hSw); first | (go_simp; done) | (go_simp; with_reducible rfl))
    simp only [Act.put, List.getElem_toArray, List.getElem_cons_zero, List.getElem_cons_succ, List.setIfInBounds_toArray, List.set_cons_zero, List.set_cons_succ]
    refine wpAnyH_take (i := 2) (v := ?v3) rfl (by kernel_rfl) (by kernel_rfl) (by kernel_rfl) (fun _ _ _ h => h) (Or.inl ⟨by rfl, ?hy3⟩) hHeld ?rest3
    case hy3 => (intro w' hSw; (try dsimp only at hSw); first | (go_simp; done) | (go_simp; with_reducible rfl))
    simp only [Act.put, List.getElem_toArray, List.getElem_cons_zero, List.getElem_cons_succ, List.setIfInBounds_toArray, List.set_cons_zero, List.set_cons_succ]
    refine wpAnyH_ready (rs := [3]) (by kernel_rfl) (by simp) ?_
    refine AllReadyH.cons rfl (fun K hK => ?_) AllReadyH.nil
    go_simp
    go_at_call 61
    refine (rdText u0 _ a len cap zs hr0).mono ?_
    rintro e u1 ⟨v, rfl, ⟨t, rfl, ht⟩, hq, hr1⟩
    have kc1 : u1.cell? ⟨gd, 0, none⟩ = some (.slice B0 n0 d0) ∧ u1.cell? ⟨gd, 1, none⟩ = some (.slice B1 n1 d1) ∧ u1.cell? ⟨gd, 2, none⟩ = some (.slice B2 n2 d2) := ⟨(hq.cell (p := ⟨gd, 0, none⟩) hgl (by simp only; omega)).trans kc0.1, (hq.cell (p := ⟨gd, 1, none⟩) hgl (by simp only; omega)).trans kc0.2.1, (hq.cell (p := ⟨gd, 2, none⟩) hgl (by simp only; omega)).trans kc0.2.2⟩
    have hc1 := hc0.trans hq
    clear hq
    have rb1 := rb.butR hc1 (by omega)
    obtain ⟨⟨r0, r1, r2⟩, ⟨f0, f1, f2⟩⟩ := rb1.three
    have h21 := h2.butR hc1 (by omega)
    have b7 := b6.trans (hc1.below (by omega) b6.size)
    refine hK.out _ _ kc1 (fun hHeld => ?_)
    clear hK K
    (try simp only [Act.put, List.getElem_toArray, List.getElem_cons_zero, List.getElem_cons_succ, List.setIfInBounds_toArray, List.set_cons_zero, List.set_cons_succ])
    refine wpAnyH_ready (rs := [4]) (by kernel_rfl) (by simp) ?_
    refine AllReadyH.cons rfl (fun K hK => ?_) AllReadyH.nil
    go_simp
    refine hK.out _ _ ⟨cellOff (p := ⟨w.heap.size, 2, none⟩) (cellOff (p := ⟨w.heap.size, 1, none⟩) (cellOff (p := ⟨w.heap.size, 0, none⟩) kc1.1 (show w.heap.size ≠ gd by omega)) (show w.heap.size ≠ gd by omega)) (show w.heap.size ≠ gd by omega), cellOff (p := ⟨w.heap.size, 2, none⟩) (cellOff (p := ⟨w.heap.size, 1, none⟩) (cellOff (p := ⟨w.heap.size, 0, none⟩) kc1.2.1 (show w.heap.size ≠ gd by omega)) (show w.heap.size ≠ gd by omega)) (show w.heap.size ≠ gd by omega), cellOff (p := ⟨w.heap.size, 2, none⟩) (cellOff (p := ⟨w.heap.size, 1, none⟩) (cellOff (p := ⟨w.heap.size, 0, none⟩) kc1.2.2 (show w.heap.size ≠ gd by omega)) (show w.heap.size ≠ gd by omega)) (show w.heap.size ≠ gd by omega)⟩ (fun hHeld => ?_)
    clear hK K
    (try simp only [Act.put, List.getElem_toArray, List.getElem_cons_zero, List.getElem_cons_succ, List.setIfInBounds_toArray, List.set_cons_zero, List.set_cons_succ])
    refine wpAnyH_take (i := 5) (v := ?v4) rfl (by kernel_rfl) (by kernel_rfl) (by kernel_rfl) (fun _ _ _ h => h) (Or.inl ⟨by rfl, ?hy4⟩) hHeld ?rest4
    case hy4 => (intro w' hSw; (try dsimp only at hSw); first | (go_simp; done) | (go_simp; with_reducible rfl))
    simp only [Act.put, List.getElem_toArray, List.getElem_cons_zero, List.getElem_cons_succ, List.setIfInBounds_toArray, List.set_cons_zero, List.set_cons_succ]
    refine wpAnyH_take (i := 6) (v := ?v5) rfl (by kernel_rfl) (by kernel_rfl) (by kernel_rfl) (fun _ _ _ h => h) (Or.inl ⟨by rfl, ?hy5⟩) hHeld ?rest5
    case hy5 => (intro w' hSw; (try dsimp only at hSw); first | (go_simp; done) | (go_simp; with_reducible rfl))
    simp only [Act.put, List.getElem_toArray, List.getElem_cons_zero, List.getElem_cons_succ, List.setIfInBounds_toArray, List.set_cons_zero, List.set_cons_succ]
    refine wpAnyH_done (by kernel_rfl) ?_ _
    refine NoPanic.normal ?_
    clear hHeld
    have RB := Lib.hid rb1
    have H2 := Lib.hid h21
    have B7 := Lib.hid b7
    clear rb1 h21 b7 rb h2 b6 rd
    go_wp2_with fail
    have hA := Row.set (Row.set (Row.set RB.out 0 (.slice B0 n0 d0)) 1 (.slice B1 n1 d1)) 2 (.slice B2 n2 d2)
    refine bodyPost_ret (results_cell_tmps (p := 2) (u := 3) (u2 := 4) (ty := 27) rfl _ _ w.heap.size 27 #[.slice B0 n0 d0, .slice B1 n1 d1, .slice B2 n2 d2] (0, 0) _ rfl (r := .string s9) (r2 := .string t) rfl rfl hA Try.underlying27 rfl HI.out) rfl ⟨_, rfl, ⟨_, _, _, x, s9, t, rfl, ReadsO.reads (base := w.heap.size + 2) ?_, H3.out, hs9, ht⟩, ?_⟩
    · exact ReadsO.set (ReadsO.set (ReadsO.set H2.out (by simp) _) (by simp) _) (by simp) _
    · exact Below.setCell (Below.setCell (Below.setCell B7.out (by simp) _) (by simp) _) (by simp) _
end Go.Proofs.Ytkinegapnknhiaa
namespace Go.Proofs.Ytkinegapnknhiaa
open Go.RowKit
set_option linter.unusedVariables false
set_option linter.unusedSimpArgs false

/-- Places that rise, all behind the last one and below a count. -/
def risesB (count : Int) (last : Int) : List Int → Bool
  | [] => true
  | p :: r => !decide (p ≤ last) && (decide (0 ≤ p) && decide (p < count)) && risesB count p r
theorem risesB_at {count last : Int} {l : List Int} {k : Nat} (h : k < l.length) : risesB count last (l.drop k) = (!decide (l[k] ≤ last) && (decide (0 ≤ l[k]) && decide (l[k] < count)) && risesB count l[k] (l.drop (k + 1))) := by
  rw [List.drop_eq_getElem_cons h]; rfl
theorem risesB_in {count : Int} : ∀ {l : List Int} {last : Int}, risesB count last l = true → ∀ p ∈ l, 0 ≤ p ∧ p < count
  | [], _, _, p, hp => by cases hp
  | q :: r, last, h, p, hp => by
    simp only [risesB, Bool.and_eq_true, decide_eq_true_eq] at h
    rcases List.mem_cons.1 hp with rfl | hp
    · exact h.1.2
    · exact risesB_in h.2 p hp
theorem risesB_gt {count : Int} : ∀ {l : List Int} {last : Int}, risesB count last l = true → ∀ p ∈ l, last < p
  | [], _, _, p, hp => by cases hp
  | q :: r, last, h, p, hp => by
    simp only [risesB, Bool.and_eq_true, decide_eq_true_eq, Bool.not_eq_true', decide_eq_false_iff_not] at h
    rcases List.mem_cons.1 hp with rfl | hp
    · omega
    · have := risesB_gt h.2 p hp; omega
theorem risesB_len {count : Int} : ∀ {l : List Int} {last : Int}, -1 ≤ last → risesB count last l = true → last + l.length < count ∨ l = []
  | [], _, _, _ => .inr rfl
  | q :: r, last, h0, h => by
    have h1 := risesB_gt h q (by simp)
    simp only [risesB, Bool.and_eq_true, decide_eq_true_eq] at h
    left
    rcases risesB_len (by omega) h.2 with h3 | rfl
    · simp only [List.length_cons]; omega
    · simp only [List.length_cons, List.length_nil]; omega
/-- The bytes that an op puts in, cut short. -/
def tornO (o : Oz) (t : Int) : Oz := ⟨o.kind, o.name, o.to, o.data.extract 0 (min t.toNat o.data.size)⟩
def opAt (ops : List Oz) (p : Int) : Oz := ops.getD p.toNat ⟨0, ⟨#[]⟩, ⟨#[]⟩, ⟨#[]⟩⟩
/-- What is left of the ops. -/
def keptO (ops : List Oz) (torn : Int) : List Int → List Oz
  | [] => []
  | [p] => [tornO (opAt ops p) torn]
  | p :: q :: r => opAt ops p :: keptO ops torn (q :: r)
def runF (l : List Fz) (os : List Oz) : List Fz := os.foldl (fun l o => (doF l o).1) l
theorem runF_at {l : List Fz} {os : List Oz} {k : Nat} (h : k < os.length) : runF l (os.drop k) = runF (doF l os[k]).1 (os.drop (k + 1)) := by
  rw [List.drop_eq_getElem_cons h]; rfl
def crashOk (x : Dz) (keep : List Int) (torn : Int) : Bool := diskB x && risesB x.ops.length (-1) keep && decide (0 ≤ torn) && filesB (runF x.safe (keptO x.ops torn keep))
def crashD (x : Dz) (keep : List Int) (torn : Int) : Dz := if crashOk x keep torn then ⟨runF x.safe (keptO x.ops torn keep), runF x.safe (keptO x.ops torn keep), []⟩ else ⟨[], [], []⟩
theorem keptO_len (ops : List Oz) (torn : Int) : ∀ l : List Int, (keptO ops torn l).length = l.length
  | [] => rfl
  | [p] => rfl
  | p :: q :: r => by unfold keptO; rw [List.length_cons, keptO_len ops torn (q :: r)]; rfl
theorem keptO_get (ops : List Oz) (torn : Int) : ∀ (l : List Int) (k : Nat) (h : k < l.length), (keptO ops torn l)[k]? = some (if k + 1 = l.length then tornO (opAt ops l[k]) torn else opAt ops l[k])
  | [], k, h => by cases h
  | [p], k, h => by
    have : k = 0 := by simpa using h
    subst this
    rfl
  | p :: q :: r, 0, h => by
    unfold keptO
    rw [if_neg (by simp)]
    rfl
  | p :: q :: r, k + 1, h => by
    have h2 : k < (q :: r).length := by simpa using h
    have h1 := keptO_get ops torn (q :: r) k h2
    unfold keptO
    rw [List.getElem?_cons_succ, h1]
    simp only [List.length_cons, List.getElem_cons_succ]
    congr 1
    by_cases e : k + 1 = r.length + 1
    · rw [if_pos e, if_pos (by omega)]
    · rw [if_neg e, if_neg (by omega)]
theorem steps_form : ∀ {ops : List Oz} {l m : List Fz}, stepsF l ops = some m → ∀ o ∈ ops, formB o = true
  | [], _, _, _, o, ho => by cases ho
  | p :: r, l, m, h, o, ho => by
    unfold stepsF at h
    split at h
    · rename_i hc
      simp only [Bool.and_eq_true] at hc
      rcases List.mem_cons.1 ho with rfl | ho
      · exact hc.1.1
      · exact steps_form h o ho
    · cases h
theorem diskB_form {x : Dz} (h : diskB x = true) : ∀ o ∈ x.ops, formB o = true := by
  have hp := diskB_parts h
  rw [diskB_go hp.1 hp.2.1 hp.2.2] at h
  cases e : stepsF x.safe x.ops with
  | none => rw [e] at h; cases h
  | some m => exact steps_form e
theorem form_data {o : Oz} (h : formB o = true) (hk : o.kind ≠ 1) : o.data.toList = [] := by
  unfold formB at h
  rw [if_neg hk] at h
  by_cases k2 : o.kind = 2
  · rw [if_pos k2] at h
    simp only [Bool.and_eq_true, List.isEmpty_iff] at h
    exact h.2.2
  · rw [if_neg k2] at h
    by_cases k3 : o.kind = 3
    · rw [if_pos k3] at h
      simp only [Bool.and_eq_true, List.isEmpty_iff] at h
      exact h.2.2
    · rw [if_neg k3] at h; simp at h
theorem form_torn {o : Oz} (h : formB o = true) (t : Int) : formB (tornO o t) = true := by
  by_cases hk : o.kind = 1
  · unfold formB tornO at *
    simp only at *
    rw [if_pos hk] at h ⊢
    exact h
  · have hd := form_data h hk
    have he : o.data = ⟨#[]⟩ := bytes_ext (by rw [hd, ByteArray.toList_eq])
    unfold tornO
    rw [he]
    have : (⟨#[]⟩ : ByteArray).extract 0 (min t.toNat (⟨#[]⟩ : ByteArray).size) = ⟨#[]⟩ := by
      have e : min t.toNat (⟨#[]⟩ : ByteArray).size = 0 := Nat.min_eq_right (Nat.zero_le _)
      rw [e]; rfl
    rw [this]
    cases o
    simp only at he
    subst he
    exact h
theorem tornO_size (o : Oz) (t : Int) : (tornO o t).data.size ≤ o.data.size := by
  unfold tornO
  simp only [ByteArray.size_extract]
  omega

/-! ### How many bytes -/
theorem cutF_less : ∀ {l : List Fz}, SortedF l → ∀ s : List UInt8, bytesF (cutF l s) + ((findF l s).map ByteArray.size).getD 0 = bytesF l
  | [], _, s => by simp [cutF, findF, bytesF]
  | x :: r, h, s => by
    obtain ⟨h1, h2⟩ := List.pairwise_cons.1 h
    rw [findF_cons]
    by_cases e : x.nm = s
    · have hc : cutF (x :: r) s = r := by
        unfold cutF
        rw [List.filter_cons]
        simp only [e, beq_self_eq_true, Bool.not_true, Bool.false_eq_true, if_false]
        refine List.filter_eq_self.2 fun z hz => ?_
        have := h1 z hz
        simp only [Bool.not_eq_true', beq_eq_false_iff_ne]
        intro k; rw [e, k] at this; exact lt_irr _ this
      rw [hc]
      simp only [e, beq_self_eq_true, if_true, Option.map_some, Option.getD_some]
      unfold bytesF
      rw [List.map_cons, List.sum_cons]
      omega
    · have hne : (x.nm == s) = false := by simpa using e
      have ih := cutF_less h2 s
      rw [hne]
      simp only [Bool.false_eq_true, if_false]
      unfold cutF at ih ⊢
      rw [List.filter_cons]
      simp only [hne, Bool.not_false, if_true]
      unfold bytesF at ih ⊢
      rw [List.map_cons, List.sum_cons, List.map_cons, List.sum_cons]
      omega
theorem putF_less : ∀ {l : List Fz}, SortedF l → ∀ n d : ByteArray, bytesF (putF l n d) + ((findF l n.toList).map ByteArray.size).getD 0 = bytesF l + d.size
  | [], _, n, d => by simp [putF, putGo, findF, bytesF]
  | x :: r, h, n, d => by
    obtain ⟨h1, h2⟩ := List.pairwise_cons.1 h
    rw [putF_cons]
    split
    · rename_i hl
      have hne : (x.nm == n.toList) = false := by simp only [beq_eq_false_iff_ne]; intro e; rw [e] at hl; exact lt_irr _ hl
      have ih := putF_less h2 n d
      rw [findF_cons, hne]
      simp only [Bool.false_eq_true, if_false]
      unfold bytesF at ih ⊢
      rw [List.map_cons, List.sum_cons, List.map_cons, List.sum_cons]
      omega
    · have := cutF_less h n.toList
      unfold bytesF at this ⊢
      rw [List.map_cons, List.sum_cons]
      simp only
      omega
/-- An op puts in no more than its own bytes. -/
theorem doF_less {l : List Fz} (h : SortedF l) (o : Oz) : bytesF (doF l o).1 ≤ bytesF l + o.data.size := by
  unfold doF
  split
  · have h1 := putF_less h o.name ((findF l o.name.toList).elim o.data (· ++ o.data))
    simp only
    cases e : findF l o.name.toList with
    | none => rw [e] at h1; simp at h1 ⊢; omega
    | some d => rw [e] at h1; simp at h1 ⊢; omega
  · split
    · simp only; omega
    · rename_i d e
      have h1 := cutF_less h o.name.toList
      rw [e] at h1
      simp only [Option.map_some, Option.getD_some] at h1
      simp only
      split
      · have h2 := putF_less (cutF_sorted h o.name.toList) o.to d
        omega
      · omega
def NamesF (l : List Fz) : Prop := ∀ x ∈ l, nameB x.name = true
theorem doF_names {l : List Fz} (h : NamesF l) {o : Oz} (ho : formB o = true) : NamesF (doF l o).1 := by
  obtain ⟨h0, hk⟩ := form_kinds ho
  unfold doF
  split
  · intro x hx
    rcases putF_mem hx with rfl | ⟨hx, -⟩
    · exact h0
    · exact h x hx
  · split
    · exact h
    · simp only
      split
      · rename_i k2
        intro x hx
        rcases putF_mem hx with rfl | ⟨hx, -⟩
        · rcases hk with hk | ⟨-, hk⟩ | hk
          · omega
          · exact hk
          · omega
        · exact h x (cutF_mem hx).1
      · exact fun x hx => h x (cutF_mem hx).1
theorem room_files {l : List Fz} (h : SortedF l) (hn : NamesF l) : filesB l = roomB l := by
  unfold filesB roomB
  rw [okN_iff.2 ⟨h, hn⟩, Bool.and_true]
/-- The files on the way through the kept ops. -/
structure OnWay (x : Dz) (l : List Fz) (k : Nat) : Prop where
  srt : SortedF l
  nms : NamesF l
  bts : bytesF l ≤ 200000 + k * 1048576
  len : l.length ≤ 60 + k
theorem OnWay.start {x : Dz} (h : filesB x.safe = true) : OnWay x x.safe 0 :=
  ⟨filesB_sorted h, fun y hy => filesB_name h hy, by have := filesB_bytes h; omega, by have := filesB_bytes h; omega⟩
theorem OnWay.step {x : Dz} {l : List Fz} {k : Nat} (h : OnWay x l k) {o : Oz} (ho : formB o = true) (hd : o.data.size ≤ 1048576) : OnWay x (doF l o).1 (k + 1) :=
  ⟨doF_sorted h.srt o, doF_names h.nms ho, by have h1 := doF_less h.srt o; have h2 := h.bts; rw [Nat.add_mul]; omega, by have h1 := (doF_bytes l o).2; have h2 := h.len; omega⟩
end Go.Proofs.Ytkinegapnknhiaa
namespace Go.Proofs.Ytkinegapnknhiaa
open Go.RowKit
set_option linter.unusedVariables false
set_option linter.unusedSimpArgs false

theorem implPlaceC (p nc : Int) (w : World) : Calls Try.prog 85 #[.int .i64 p, .int .i64 nc] w fun e w' => e = .returned (.bool (decide (0 ≤ p) && decide (p < nc))) ∧ w = w' := by
  by_cases h0 : 0 ≤ p
  · have h0' : decide (0 ≤ p) = true := decide_eq_true h0
    go_enter Try.func85, Try.ntmps85
    go_wp2
    go_ret
    exact ⟨by simp [h0'], rfl⟩
  · have h0' : decide (0 ≤ p) = false := decide_eq_false h0
    go_enter Try.func85, Try.ntmps85
    go_wp2
    go_ret
    exact ⟨by simp [h0'], rfl⟩

set_option maxRecDepth 100000 in
set_option maxHeartbeats 1000000 in
theorem implRising (A : Option Addr) (n c : Nat) (l : List Int) (count : Int) (ok : Nat → Prop) (w : World) (h : Sl IntR 1 ok w A n l) (hn : n ≤ 1048576) :
    Calls Try.prog 50 #[.slice A n c, .int .i64 count] w fun e w' => e = .returned (.bool (risesB count (-1) l)) ∧ Below w.heap.size w w' := by
  obtain rfl : l.length = n := h.1
  go_enter Try.func50, Try.ntmps50
  go_wp2
  go_loopw [5, 10] (fun lv iv wr => ∃ (k : Nat) (last : Int), k ≤ l.length ∧ iv = .int .i64 k ∧ lv = .int .i64 last ∧ Hid (risesB count (-1) l = risesB count last (l.drop k)) ∧ Below w.heap.size w wr) (fun _ iv _ => l.length - (intOf iv).toNat)
  case atStart => exact ⟨0, -1, by omega, rfl, rfl, Lib.hid rfl, Below.refl _ _⟩
  case round =>
    obtain ⟨k, last, hk, rfl, rfl, HR, hb⟩ := hrel
    by_cases hlt : k < l.length
    · obtain ⟨b, off, -, rfl, q0⟩ := IntR.at_ (h.below IntR.stays hb) hlt
      have i0 : (0 : Int) ≤ k := by omega
      have i1 : (k : Int) < l.length := by omega
      have HR := Lib.hid (HR.out.trans (risesB_at hlt))
      obtain ⟨p, hp⟩ : ∃ p, p = l[k] := ⟨_, rfl⟩
      rw [← hp] at q0 HR
      clear hp
      by_cases hle : p ≤ last
      · have hle' : decide (p ≤ last) = true := decide_eq_true hle
        have HF := Lib.hid (show risesB count (-1) l = false by rw [HR.out, hle']; rfl)
        clear hle
        go_wp2_with fail
        go_ret
        exact ⟨retB HF.out.symm, hb⟩
      · have hle' : decide (p ≤ last) = false := decide_eq_false hle
        clear hle
        go_wp2_with fail
        refine (implPlaceC p count _).mono ?_
        rintro e w1 ⟨rfl, rfl⟩
        cases hpl : (decide (0 ≤ p) && decide (p < count))
        · have HF := Lib.hid (show risesB count (-1) l = false by rw [HR.out, hle', hpl]; rfl)
          clear hpl
          go_wp2_with fail
          go_ret
          exact ⟨retB HF.out.symm, hb⟩
        · have HG := Lib.hid (show risesB count (-1) l = risesB count p (l.drop (k + 1)) by rw [HR.out, hle', hpl]; rfl)
          clear hpl
          go_wp2_with fail
          go_roundw
          case rel => exact ⟨k + 1, p, by omega, by go_num, rfl, HG, hb⟩
          case measure => simp [intOf]; omega
    · have HF := Lib.hid (show risesB count (-1) l = true by rw [HR.out, List.drop_eq_nil_of_le (by omega)]; rfl)
      go_wp2_with fail
      go_ret
      exact ⟨retB HF.out.symm, hb⟩
end Go.Proofs.Ytkinegapnknhiaa
namespace Go.Proofs.Ytkinegapnknhiaa
open Go.RowKit
set_option linter.unusedVariables false
set_option linter.unusedSimpArgs false

theorem ownO_of_laid {w : World} {base g : Nat} {cs : Array Value} {xs : List Oz} {ok : Nat → Prop} {k : Nat} (hr : Row w g 36 cs) (hb : base ≤ g) (hs : cs.size = xs.length * 4) (hm : xs.length ≤ maxLen) (h : LaidR OzR 4 ok w cs k xs) (hk : xs.length ≤ k) : OwnO w base (.slice (some ⟨g, 0, none⟩) xs.length xs.length) xs := by
  have e : cs.toList = (xs.map Oz.cells).flatten := by
    apply List.ext_getElem?
    intro p
    have hfl : ((xs.map Oz.cells).flatten).length = xs.length * 4 := by rw [flat_len (sz := 4) _ (fun c hc => by obtain ⟨v, -, rfl⟩ := List.mem_map.1 hc; rfl), List.length_map]
    by_cases hp : p < xs.length * 4
    · have hi : p / 4 < xs.length := by omega
      obtain ⟨c, h1, h2, h3⟩ := h (p / 4) hi (by omega)
      have h2' : c = Oz.cells xs[p / 4] := h2
      subst h2'
      have h4 := flat_get (sz := 4) (xs.map Oz.cells) (p / 4) (p % 4) (by rw [List.length_map]; exact hi) (by omega) (fun c hc => by obtain ⟨v, -, rfl⟩ := List.mem_map.1 hc; rfl)
      have hpe : p / 4 * 4 + p % 4 = p := by omega
      rw [hpe, List.getElem_map] at h4
      rw [h4, Array.getElem?_toList]
      have hlt : p % 4 < (Oz.cells xs[p / 4]).length := by rw [h1]; omega
      have h5 := h3 (p % 4) _ (List.getElem?_eq_getElem hlt)
      rw [hpe] at h5
      rw [h5, List.getElem?_eq_getElem hlt]
    · rw [List.getElem?_eq_none (by rw [Array.length_toList]; omega), List.getElem?_eq_none (by omega)]
  refine ⟨?_, .inr ⟨g, xs.length, cs, rfl, hb, hr, Nat.le_refl _, hm, by omega, ?_⟩⟩
  · rw [flat_len (sz := 4) _ (fun c hc => by obtain ⟨v, -, rfl⟩ := List.mem_map.1 hc; rfl), List.length_map]
  · rw [← e, List.take_of_length_le (by rw [Array.length_toList]; omega)]
/-- The last one is torn. -/
theorem laid_torn {w : World} {ok : Nat → Prop} {cs : Array Value} {ops : List Oz} {keep : List Int} {torn : Int} (h0 : 0 < keep.length) (hs : cs.size = keep.length * 4) (h : LaidR OzR 4 ok w cs keep.length (keep.map (opAt ops))) {ok' : Nat → Prop} {w' : World} :
    LaidR OzR 4 ok' w' (cs.setIfInBounds ((keep.length - 1) * 4 + 3) (.string (tornO (opAt ops (keep[keep.length - 1]'(by omega))) torn).data)) keep.length (keptO ops torn keep) := by
  intro i hi hlt
  have hg := keptO_get ops torn keep i hlt
  rw [List.getElem?_eq_getElem hi] at hg
  have hg := Option.some.inj hg
  obtain ⟨c, h1, h2, h3⟩ := h i (by rw [List.length_map]; exact hlt) hlt
  have h2' : c = Oz.cells ((keep.map (opAt ops))[i]'(by rw [List.length_map]; exact hlt)) := h2
  rw [List.getElem_map] at h2'
  subst h2'
  refine ⟨Oz.cells (keptO ops torn keep)[i], rfl, rfl, fun j v hv => ?_⟩
  have hj : j < 4 := (List.getElem?_eq_some_iff.1 hv).1
  rw [hg] at hv
  by_cases e : i + 1 = keep.length
  · rw [if_pos e] at hv
    have ei : keep.length - 1 = i := by omega
    by_cases ej : j = 3
    · subst ej
      have hv' := Option.some.inj hv
      subst hv'
      have : (keep.length - 1) * 4 + 3 = i * 4 + 3 := by rw [ei]
      rw [this, Array.getElem?_setIfInBounds_self_of_lt (by omega)]
      congr 3
      simp only [ei]
    · rw [Array.getElem?_setIfInBounds_ne (by omega)]
      refine h3 j v ?_
      rw [← hv]
      match j, hj, ej with
      | 0, _, _ => rfl
      | 1, _, _ => rfl
      | 2, _, _ => rfl
      | 3, _, ej => exact absurd rfl ej
  · rw [if_neg e] at hv
    rw [Array.getElem?_setIfInBounds_ne (by omega)]
    exact h3 j v hv

set_option maxRecDepth 100000 in
set_option maxHeartbeats 1000000 in
theorem implKeptOps (A : Option Addr) (n c : Nat) (ops : List Oz) (AK : Option Addr) (nK cK : Nat) (keep : List Int) (torn : Int) (ok ok' : Nat → Prop) (w : World) (h : Sl OzR 4 ok w A n ops) (hk : Sl IntR 1 ok' w AK nK keep) (hn : n ≤ 1048576) (hnk : nK ≤ 1048576) (hin : ∀ p ∈ keep, 0 ≤ p ∧ p < ops.length) (ht : 0 ≤ torn) (hd : ∀ o ∈ ops, o.data.size ≤ 1048576) :
    Calls Try.prog 51 #[.slice A n c, .slice AK nK cK, .int .i64 torn] w fun e w' => (∃ v, e = .returned v ∧ OwnO w' w.heap.size v (keptO ops torn keep)) ∧ Below w.heap.size w w' := by
  obtain rfl : ops.length = n := h.1
  obtain rfl : keep.length = nK := hk.1
  have HIN := Lib.hid hin
  have HD := Lib.hid hd
  clear hin hd
  have hmk := fun w => mk_rows (P := Try.prog) Try.underlying25 infoDOpT (by omega) keep.length hnk w
  go_enter Try.func51, Try.ntmps51
  go_wp2
  have row := Row.new w 36 (madeCells #[.int .i64 0, .string ⟨#[]⟩, .string ⟨#[]⟩, .string ⟨#[]⟩] (keep.length * 4))
  have hb0 := (Below.refl w.heap.size w).alloc (Nat.le_refl _) (.cells (madeCells #[.int .i64 0, .string ⟨#[]⟩, .string ⟨#[]⟩, .string ⟨#[]⟩] (keep.length * 4)) 36)
  have hsz := size_madeCells #[.int .i64 0, .string ⟨#[]⟩, .string ⟨#[]⟩, .string ⟨#[]⟩] (keep.length * 4)
  have hx0 : (w.alloc (.cells (madeCells #[.int .i64 0, .string ⟨#[]⟩, .string ⟨#[]⟩, .string ⟨#[]⟩] (keep.length * 4)) 36)).heap.size = w.heap.size + 1 := by simp
  generalize w.alloc (.cells (madeCells #[.int .i64 0, .string ⟨#[]⟩, .string ⟨#[]⟩, .string ⟨#[]⟩] (keep.length * 4)) 36) = x at *
  generalize madeCells #[.int .i64 0, .string ⟨#[]⟩, .string ⟨#[]⟩, .string ⟨#[]⟩] (keep.length * 4) = cs0 at *
  have HZ := Lib.hid hsz
  have HX0 := Lib.hid hx0
  have HML := Lib.hid (show (keep.map (opAt ops)).length = keep.length from List.length_map _)
  clear hmk hsz hx0
  go_loopw [17] (fun i wr => ∃ (k : Nat) (cs : Array Value), k ≤ keep.length ∧ i = .int .i64 k ∧ Row wr w.heap.size 36 cs ∧ Hid (cs.size = keep.length * 4) ∧ Hid (LaidR OzR 4 (okF (w.heap.size + 1) wr) wr cs k (keep.map (opAt ops))) ∧ Hid (w.heap.size + 1 ≤ wr.heap.size) ∧ Below w.heap.size w wr) (fun i _ => keep.length - (intOf i).toNat)
  case atStart => exact ⟨0, cs0, by omega, rfl, row, Lib.hid (by rw [HZ.out]), Lib.hid (LaidR.zero _ _ _ _ _ _), Lib.hid (by rw [HX0.out]; exact Nat.le_refl _), hb0⟩
  case round =>
    obtain ⟨k, cs, hkk, rfl, hrow, hcs, hlaid, hgw, hb⟩ := hrel
    by_cases hlt : k < keep.length
    · obtain ⟨bk, offk, -, rfl, g0⟩ := IntR.at_ (hk.below IntR.stays hb) hlt
      obtain ⟨hp0, hp1⟩ := HIN.out _ (List.getElem_mem hlt)
      obtain ⟨m, hm⟩ : ∃ m : Nat, keep[k] = m := ⟨keep[k].toNat, by omega⟩
      rw [hm] at g0 hp1
      have hml : m < ops.length := by omega
      have HO := Lib.hid (show (keep.map (opAt ops))[k]'(by rw [List.length_map]; exact hlt) = ops[m] by rw [List.getElem_map, hm]; unfold opAt; rw [List.getD_eq_getElem?_getD, Int.toNat_natCast, List.getElem?_eq_getElem hml]; rfl)
      obtain ⟨b, off, -, rfl, q0, q1, q2, q3⟩ := OzR.at_ (h.below OzR.stays hb) hml
      have hsz1 : k * 4 + 4 ≤ cs.size := by rw [hcs.out]; omega
      have q : ∀ j, j < 4 → wr.cell? ⟨w.heap.size, k * 4 + j, none⟩ = some (cs[k * 4 + j]?.getD undef) := fun j hj => by
        rw [hrow.cell, Array.getElem?_eq_getElem (by omega)]; rfl
      have z0 : wr.cell? ⟨w.heap.size, k * 4, none⟩ = some (cs[k * 4]?.getD undef) := q 0 (by omega)
      have z1 := q 1 (by omega)
      have z2 := q 2 (by omega)
      have z3 := q 3 (by omega)
      have f0 := hrow.free (k * 4)
      have f1 := hrow.free (k * 4 + 1)
      have f2 := hrow.free (k * 4 + 2)
      have f3 := hrow.free (k * 4 + 3)
      have j0 : (0 : Int) ≤ m := by omega
      have j1 : (m : Int) < ops.length := by omega
      have i0 : (0 : Int) ≤ k := by omega
      have i1 : (k : Int) < keep.length := by omega
      have HR := Lib.hid hrow
      have HGW := Lib.hid hgw.out
      clear q hrow hm hp0 hp1
      generalize ops[m] = o at *
      go_wp2_with fail
      go_roundw
      case rel =>
        exact ⟨k + 1, _, by omega, by go_num, ((((HR.out).set _ _).set _ _).set _ _).set _ _, Lib.hid (by simp [hcs.out]), Lib.hid ((((((hlaid.out).setF OzR.stays (by simp) _).setF OzR.stays (by simp) _).setF OzR.stays (by simp) _).setF OzR.stays (by simp) _).more (by rw [HML.out]; exact hlt) (c := [.int .i64 o.kind, .string o.name, .string o.to, .string o.data]) rfl (by rw [HO.out]; rfl) (hold4 cs k _ _ _ _) (fresh4 cs k _ _ _ _ hsz1)), Lib.hid (by simpa using HGW.out), (((hb.setCell (by simp) _).setCell (by simp) _).setCell (by simp) _).setCell (by simp) _⟩
      case measure => simp [intOf]; omega
    · obtain rfl : k = keep.length := by omega
      have HLD := Lib.hid hlaid.out
      by_cases hz : keep.length = 0
      · have hke : keep = [] := List.length_eq_zero_iff.1 hz
        subst hke
        go_wp2_with fail
        go_ret
        exact ⟨⟨_, rfl, ownO_of_laid (xs := []) hrow (Nat.le_refl _) (by rw [hcs.out]; rfl) (Nat.zero_le _) (LaidR.zero OzR 4 (okF 0 wr) wr cs []) (Nat.le_refl _)⟩, hb⟩
      · have hpos : 0 < keep.length := by omega
        have hlp : keep.length - 1 < keep.length := by omega
        obtain ⟨hp0, hp1⟩ := HIN.out _ (List.getElem_mem hlp)
        have hdt : (opAt ops keep[keep.length - 1]).data.size ≤ 1048576 := by
          unfold opAt
          rw [List.getD_eq_getElem?_getD, List.getElem?_eq_getElem (by omega)]
          exact HD.out _ (List.getElem_mem _)
        have hcell : cs[(keep.length - 1) * 4 + 3]? = some (.string (opAt ops keep[keep.length - 1]).data) := by
          obtain ⟨c, h1, h2, h3⟩ := HLD.out (keep.length - 1) (by rw [List.length_map]; exact hlp) hlp
          have h2' : c = Oz.cells ((keep.map (opAt ops))[keep.length - 1]'(by rw [List.length_map]; exact hlp)) := h2
          rw [List.getElem_map] at h2'
          subst h2'
          exact h3 3 _ rfl
        have z3 : wr.cell? ⟨w.heap.size, (keep.length - 1) * 4 + 3, none⟩ = some (.string (opAt ops keep[keep.length - 1]).data) := by rw [hrow.cell, hcell]
        have HT := Lib.hid (laid_torn (torn := torn) hpos hcs.out HLD.out (ok' := okF 0 wr) (w' := wr.setCell ⟨w.heap.size, (keep.length - 1) * 4 + 3, none⟩ (.string (tornO (opAt ops keep[keep.length - 1]) torn).data)))
        have f3 := hrow.free ((keep.length - 1) * 4 + 3)
        have HR := Lib.hid hrow
        have HCS := Lib.hid hcs.out
        generalize hgo : opAt ops keep[keep.length - 1] = o at *
        have i0 : (0 : Int) < keep.length := by omega
        have i1 : (1 : Int) ≤ keep.length := by omega
        obtain ⟨T, rfl⟩ : ∃ T : Nat, torn = T := ⟨torn.toNat, by omega⟩
        obtain ⟨l1, hl1⟩ : ∃ l1, keep.length = l1 + 1 := ⟨keep.length - 1, by omega⟩
        have e1 : keep.length - 1 = l1 := by omega
        have f3 := hrow.free (l1 * 4 + 3)
        rw [e1] at z3 HT
        have i2 : (0 : Int) < ((l1 + 1 : Nat) : Int) := by omega
        clear e1 hcell hlaid HLD HML hp0 hp1 hgo hpos hz
        have hmin : (min (T : Int) (o.data.size : Int)).toNat = min (T : Int).toNat o.data.size := by omega
        have HO := Lib.hid (show OwnO (wr.setCell ⟨w.heap.size, l1 * 4 + 3, none⟩ (.string (o.data.extract 0 (min (T : Int) (o.data.size : Int)).toNat))) w.heap.size (.slice (some ⟨w.heap.size, 0, none⟩) (l1 + 1) (l1 + 1)) (keptO ops T keep) by
          rw [hmin]
          have h1 := ownO_of_laid (xs := keptO ops T keep) (k := keep.length) (HR.out.set (l1 * 4 + 3) (.string (tornO o T).data)) (Nat.le_refl _) (by rw [keptO_len, ← HCS.out]; simp) (by rw [keptO_len]; unfold maxLen; omega) HT.out (by rw [keptO_len]; exact Nat.le_refl _)
          rw [keptO_len, hl1] at h1
          exact h1)
        have HBS := Lib.hid (hb.setCell (p := ⟨w.heap.size, l1 * 4 + 3, none⟩) (Nat.le_refl _) (.string (o.data.extract 0 (min (T : Int) (o.data.size : Int)).toNat)))
        clear hmin HT HR HCS hrow hb
        go_upto_region 10 with fail
        go_region_with (fail)
        all_goals (go_wp2_with fail; go_ret; exact ⟨⟨_, rfl, HO.out⟩, HBS.out.drew⟩)
end Go.Proofs.Ytkinegapnknhiaa
namespace Go.Proofs.Ytkinegapnknhiaa
open Go.RowKit Go.Maps
set_option linter.unusedVariables false
set_option linter.unusedSimpArgs false

theorem kept_ok {ops : List Oz} {torn : Int} (hf : ∀ o ∈ ops, formB o = true) (hd : ∀ o ∈ ops, o.data.size ≤ 1048576) : ∀ keep : List Int, (∀ p ∈ keep, 0 ≤ p ∧ p < ops.length) → ∀ o ∈ keptO ops torn keep, formB o = true ∧ o.data.size ≤ 1048576
  | [], _, o, ho => by cases ho
  | [p], hin, o, ho => by
    have hp := hin p (by simp)
    have hm : opAt ops p ∈ ops := by
      unfold opAt
      rw [List.getD_eq_getElem?_getD, List.getElem?_eq_getElem (by omega)]
      exact List.getElem_mem _
    have e : o = tornO (opAt ops p) torn := List.mem_singleton.1 ho
    subst e
    exact ⟨form_torn (hf _ hm) torn, Nat.le_trans (tornO_size _ _) (hd _ hm)⟩
  | p :: q :: r, hin, o, ho => by
    have hp := hin p (by simp)
    have hm : opAt ops p ∈ ops := by
      unfold opAt
      rw [List.getD_eq_getElem?_getD, List.getElem?_eq_getElem (by omega)]
      exact List.getElem_mem _
    unfold keptO at ho
    rcases List.mem_cons.1 ho with rfl | ho
    · exact ⟨hf _ hm, hd _ hm⟩
    · exact kept_ok hf hd (q :: r) (fun p hp => hin p (List.mem_cons_of_mem _ hp)) o ho
theorem OwnO.kpB {f : Nat} {w w' : World} {base : Nat} {v : Value} {xs : List Oz} (h : OwnO w base v xs) (hk : KpB f w w') : OwnO w' base v xs := by
  refine ⟨h.1, ?_⟩
  rcases h.2 with h | ⟨g, cap, cur, rfl, h1, h2, h3⟩
  · exact .inl h
  · exact .inr ⟨g, cap, cur, rfl, h1, hk.rows _ _ _ _ h2 (by decide), h3⟩
theorem crash_no {x : Dz} {keep : List Int} {torn : Int} (h : crashOk x keep torn = false) : crashOk x keep torn = false ∧ crashD x keep torn = ⟨[], [], []⟩ := ⟨h, by unfold crashD; rw [h]; rfl⟩
theorem crash_yes {x : Dz} {keep : List Int} {torn : Int} (h : crashOk x keep torn = true) : crashOk x keep torn = true ∧ crashD x keep torn = ⟨runF x.safe (keptO x.ops torn keep), runF x.safe (keptO x.ops torn keep), []⟩ := ⟨h, by unfold crashD; rw [h]; rfl⟩

set_option maxRecDepth 100000 in
set_option maxHeartbeats 4000000 in
theorem implCrash (x : Dz) (AK : Option Addr) (nK cK : Nat) (keep : List Int) (torn : Int) (A0 : Option Addr) (n0 c0 : Nat) (A1 : Option Addr) (n1 c1 : Nat) (A2 : Option Addr) (n2 c2 : Nat) (ok ok' : Nat → Prop) (w : World) (h0 : Sl FzR 2 ok w A0 n0 x.live) (h1 : Sl FzR 2 ok w A1 n1 x.safe) (h2 : Sl OzR 4 ok w A2 n2 x.ops) (hk : Sl IntR 1 ok' w AK nK keep) (hs : x.sz ≤ 1048576) (hnk : nK ≤ 1048576) :
    Calls Try.prog 16 #[.agg #[.slice A0 n0 c0, .slice A1 n1 c1, .slice A2 n2 c2], .slice AK nK cK, .int .i64 torn] w fun e w' => (∃ v, e = .returned (.tuple #[v, .bool (crashOk x keep torn)]) ∧ DzA w' w.heap.size v (crashD x keep torn)) ∧ Below w.heap.size w w' := by
  obtain rfl : keep.length = nK := hk.1
  obtain rfl : x.ops.length = n2 := h2.1
  obtain ⟨hx, hwz⟩ := box2 w (.cells #[.slice A0 n0 c0, .slice A1 n1 c1, .slice A2 x.ops.length c2] 27) (.cells #[.slice none 0 0, .slice none 0 0, .slice none 0 0] 27)
  have ra := (Row.new w 27 #[.slice A0 n0 c0, .slice A1 n1 c1, .slice A2 x.ops.length c2]).alloc (.cells #[.slice none 0 0, .slice none 0 0, .slice none 0 0] 27)
  have rb := Row.newAt (w.alloc (.cells #[.slice A0 n0 c0, .slice A1 n1 c1, .slice A2 x.ops.length c2] 27)) 27 #[.slice none 0 0, .slice none 0 0, .slice none 0 0] (w.heap.size + 1) (by simp)
  have HI := Lib.hid infoDisk
  have HL := Lib.hid (sz_lens hs)
  have hdat : ∀ o ∈ x.ops, o.data.size ≤ 1048576 := fun o ho => by
    have h := szL_mem Oz.sz x.ops o ho
    have h3 : o.data.size ≤ o.sz := by unfold Oz.sz; omega
    unfold Dz.sz at hs
    omega
  have HDT := Lib.hid hdat
  clear hdat
  go_enter Try.func16, Try.ntmps16
  go_wp2_with fail
  generalize (w.alloc (.cells #[.slice A0 n0 c0, .slice A1 n1 c1, .slice A2 x.ops.length c2] 27)).alloc (.cells #[.slice none 0 0, .slice none 0 0, .slice none 0 0] 27) = z at *
  refine (implDiskOk x A0 n0 c0 A1 n1 c1 A2 _ c2 _ _ (h0.below FzR.stays hx) (h1.below FzR.stays hx) (h2.below OzR.stays hx) hs).mono ?_
  rintro e w1 ⟨rfl, hq⟩
  have hx := hx.trans (hq.mono hx.size)
  have hwz := Nat.le_trans hwz hq.size
  have ra := ra.below hq
  have rb := rb.below hq
  clear hq
  obtain ⟨⟨p0, p1, p2⟩, -⟩ := ra.three
  obtain ⟨⟨r0, r1, r2⟩, ⟨f0, f1, f2⟩⟩ := rb.three
  cases e0 : diskB x
  · have HA := Lib.hid (crash_no (keep := keep) (torn := torn) (show crashOk x keep torn = false by unfold crashOk; rw [e0]; rfl))
    have RR := Lib.hid rb
    clear ra rb
    go_wp2_with fail
    have hr9 := (((RR.out).set 0 (.slice none 0 0)).set 1 (.slice none 0 0)).set 2 (.slice none 0 0)
    refine bodyPost_ret (results_cell_row2 (p := 6) (u := 7) (ty := 27) rfl _ _ (w.heap.size + 1) 27 #[.slice none 0 0, .slice none 0 0, .slice none 0 0] (0, 0) _ rfl rfl hr9 Try.underlying27 rfl HI.out) rfl ⟨⟨.agg #[.slice none 0 0, .slice none 0 0, .slice none 0 0], ?_, ?_⟩, ?_⟩
    · rw [HA.out.1]; rfl
    · refine DzA.mono (base := w.heap.size + 2) ?_ (by omega)
      rw [HA.out.2]
      refine DzA.set (DzA.set (DzA.set (DzA.nil _ _) ?_ _) ?_ _) ?_ _ <;> (exact Nat.lt_succ_self _)
    · exact ((hx.setCell (Nat.le_add_right _ 1) _).setCell (Nat.le_add_right _ 1) _).setCell (Nat.le_add_right _ 1) _
  have HP := Lib.hid (diskB_parts e0)
  have E0 := Lib.hid e0
  have HFM := Lib.hid (diskB_form e0)
  clear e0
  clear r0 r1 r2 f0 f1 f2
  go_wp2_with fail
  refine (implRising AK _ cK keep x.ops.length _ _ (hk.below IntR.stays hx) hnk).mono ?_
  rintro e w2 ⟨rfl, hq⟩
  have hx := hx.trans (hq.mono hx.size)
  have hwz := Nat.le_trans hwz hq.size
  have ra := ra.below hq
  have rb := rb.below hq
  clear hq p0 p1 p2
  obtain ⟨⟨p0, p1, p2⟩, -⟩ := ra.three
  obtain ⟨⟨r0, r1, r2⟩, ⟨f0, f1, f2⟩⟩ := rb.three
  cases e1 : risesB x.ops.length (-1) keep
  · have HA := Lib.hid (crash_no (keep := keep) (torn := torn) (show crashOk x keep torn = false by unfold crashOk; rw [e1]; simp))
    have RR := Lib.hid rb
    clear ra rb
    go_wp2_with fail
    have hr9 := (((RR.out).set 0 (.slice none 0 0)).set 1 (.slice none 0 0)).set 2 (.slice none 0 0)
    refine bodyPost_ret (results_cell_row2 (p := 6) (u := 7) (ty := 27) rfl _ _ (w.heap.size + 1) 27 #[.slice none 0 0, .slice none 0 0, .slice none 0 0] (0, 0) _ rfl rfl hr9 Try.underlying27 rfl HI.out) rfl ⟨⟨.agg #[.slice none 0 0, .slice none 0 0, .slice none 0 0], ?_, ?_⟩, ?_⟩
    · rw [HA.out.1]; rfl
    · refine DzA.mono (base := w.heap.size + 2) ?_ (by omega)
      rw [HA.out.2]
      refine DzA.set (DzA.set (DzA.set (DzA.nil _ _) ?_ _) ?_ _) ?_ _ <;> (exact Nat.lt_succ_self _)
    · exact ((hx.setCell (Nat.le_add_right _ 1) _).setCell (Nat.le_add_right _ 1) _).setCell (Nat.le_add_right _ 1) _
  have E1 := Lib.hid e1
  clear e1
  by_cases htn : torn < 0
  · have htn' : decide (torn < 0) = true := decide_eq_true htn
    have HA := Lib.hid (crash_no (keep := keep) (torn := torn) (show crashOk x keep torn = false by unfold crashOk; rw [decide_eq_false (show ¬ 0 ≤ torn by omega)]; simp))
    have RR := Lib.hid rb
    clear ra rb htn
    go_wp2_with fail
    have hr9 := (((RR.out).set 0 (.slice none 0 0)).set 1 (.slice none 0 0)).set 2 (.slice none 0 0)
    refine bodyPost_ret (results_cell_row2 (p := 6) (u := 7) (ty := 27) rfl _ _ (w.heap.size + 1) 27 #[.slice none 0 0, .slice none 0 0, .slice none 0 0] (0, 0) _ rfl rfl hr9 Try.underlying27 rfl HI.out) rfl ⟨⟨.agg #[.slice none 0 0, .slice none 0 0, .slice none 0 0], ?_, ?_⟩, ?_⟩
    · rw [HA.out.1]; rfl
    · refine DzA.mono (base := w.heap.size + 2) ?_ (by omega)
      rw [HA.out.2]
      refine DzA.set (DzA.set (DzA.set (DzA.nil _ _) ?_ _) ?_ _) ?_ _ <;> (exact Nat.lt_succ_self _)
    · exact ((hx.setCell (Nat.le_add_right _ 1) _).setCell (Nat.le_add_right _ 1) _).setCell (Nat.le_add_right _ 1) _
  have htn' : decide (torn < 0) = false := decide_eq_false htn
  have HT0 := Lib.hid (show 0 ≤ torn by omega)
  have HIN := Lib.hid (risesB_in E1.out)
  have HKL := Lib.hid (show keep.length ≤ 200 by
    have h1 := HP.out.2.2
    rcases risesB_len (by omega) E1.out with h2 | h2
    · omega
    · rw [h2]; exact Nat.zero_le _)
  clear htn r0 r1 r2 f0 f1 f2
  go_wp2_with fail
  refine (implFilesOf A1 n1 c1 x.safe _ _ (h1.below FzR.stays hx) HP.out.2.1).mono ?_
  rintro e w3 ⟨rfl, hf3, hq⟩
  have HX3 := Lib.hid (hx.trans (hq.mono hx.size))
  have HF3 := Lib.hid hf3
  have hwf : w.heap.size + 2 ≤ w2.heap.size := hwz
  have ra := ra.below hq
  have rb := rb.below hq
  have HRB := Lib.hid rb
  clear hq hf3 p0 p1 p2 hx hwz
  obtain ⟨⟨p0, p1, p2⟩, -⟩ := ra.three
  generalize w2.heap.size = f at *
  have HWF := Lib.hid hwf
  have HF3L := Lib.hid (HF3.out.lt)
  clear hwf ra rb
  go_wp2_with fail
  refine (implKeptOps A2 _ c2 x.ops AK _ cK keep torn _ _ _ (h2.below OzR.stays HX3.out) (hk.below IntR.stays HX3.out) HL.out.2.2 hnk HIN.out HT0.out HDT.out).mono ?_
  rintro e w4 ⟨⟨vL, rfl, oL⟩, hq⟩
  have HX4 := Lib.hid (HX3.out.trans (hq.mono HX3.out.size))
  have HF4 := Lib.hid (HF3.out.below hq)
  have HRB4 := Lib.hid (HRB.out.below hq)
  have HOK := Lib.hid (kept_ok (torn := torn) HFM.out HDT.out keep HIN.out)
  have HLN := Lib.hid (show (keptO x.ops torn keep).length ≤ 200 by rw [keptO_len]; exact HKL.out)
  obtain ⟨L, hL⟩ : ∃ L, L = keptO x.ops torn keep := ⟨_, rfl⟩
  rw [← hL] at oL HOK HLN
  have HLE := Lib.hid hL
  have HW0 := Lib.hid (OnWay.start HP.out.2.1)
  obtain ⟨AL, cL, rfl, -, -, -⟩ := (show OwnO w4 _ vL _ from oL).sl
  have OL := Lib.hid oL
  clear hL oL hq p0 p1 p2
  go_wp2_with fail
  go_loopw [36] (fun iv wr => ∃ (k : Nat) (l : List Fz), k ≤ L.length ∧ iv = .int .i64 k ∧ Hid (FilesAt wr (f + 1) f l) ∧ Hid (OnWay x l k) ∧ Hid (runF x.safe L = runF l (L.drop k)) ∧ Hid (OwnO wr w3.heap.size (.slice AL L.length cL) L) ∧ Hid (Below f w4 wr)) (fun iv _ => L.length - (intOf iv).toNat)
  case atStart => exact ⟨0, x.safe, Nat.zero_le _, rfl, HF4, HW0, Lib.hid rfl, OL, Lib.hid (Below.refl _ _)⟩
  case round =>
    clear HF4 HW0 OL
    obtain ⟨k, l, hkk, rfl, HFA, HWY, HST, OL, HBF⟩ := hrel
    by_cases hlt : k < L.length
    · obtain ⟨AL', cL', eL, -, -, hsL⟩ := (show OwnO wr _ _ _ from OL.out).sl
      injection eL with eL1 eL2 eL3
      subst eL1 eL3
      obtain ⟨b, off, -, rfl, q0, q1, q2, q3⟩ := OzR.at_ hsL hlt
      have i0 : (0 : Int) ≤ k := by omega
      have i1 : (k : Int) < L.length := by omega
      have i2 : L.length ≤ 200 := HLN.out
      have HO := Lib.hid (HOK.out _ (List.getElem_mem hlt))
      have hal := (Below.refl wr.heap.size wr).alloc (Nat.le_refl _) (.cells #[.int .i64 L[k].kind, .string L[k].name, .string L[k].to, .string L[k].data] 36)
      have HFB := Lib.hid (HFA.out.below hal)
      have OL2 := Lib.hid (show OwnO _ _ _ _ from OwnG.below OL.out hal)
      have HB2 := Lib.hid (HBF.out.alloc (Nat.le_of_lt HFA.out.lt) (.cells #[.int .i64 L[k].kind, .string L[k].name, .string L[k].to, .string L[k].data] 36))
      have hby := HWY.out.bts
      have hln := HWY.out.len
      have HNB := Lib.hid (show bytesF l + L[k].data.size ≤ 268435456 by have := HO.out.2; omega)
      have HNL := Lib.hid (show l.length ≤ 100000 by omega)
      have HW2 := Lib.hid (HWY.out.step HO.out.1 HO.out.2)
      have HS2 := Lib.hid (show runF x.safe L = runF (doF l L[k]).1 (L.drop (k + 1)) by rw [HST.out, runF_at hlt])
      have HNX := Lib.hid (show nextF l L[k] = (doF l L[k]).1 by unfold nextF; rw [HO.out.1]; rfl)
      clear hal hsL hby hln
      go_wp2_with fail
      refine (implFilesDo (f + 1) f l L[k] _ HFB.out HNB.out HNL.out).mono ?_
      rintro e w5 ⟨rfl, hfa5, hk5⟩
      have HF5 := Lib.hid (show FilesAt w5 (f + 1) f (doF l L[k]).1 by rw [← HNX.out]; exact hfa5)
      have OL5 := Lib.hid (OL2.out.kpB hk5)
      have HB5 := Lib.hid (HB2.out.trans hk5.low)
      clear hfa5 hk5 q0 q1 q2 q3
      generalize codeF l L[k] = kc at *
      go_wp2_with fail
      go_roundw
      case rel => exact ⟨k + 1, (doF l L[k]).1, by omega, by go_num, HF5, HW2, HS2, OL5, HB5⟩
      case measure => simp [intOf]; omega
    · have hrun : runF x.safe (keptO x.ops torn keep) = l := by rw [← HLE.out, HST.out, List.drop_eq_nil_of_le (by omega)]; rfl
      have HRUN := Lib.hid hrun
      have i2 : L.length ≤ 200 := HLN.out
      have hby := HWY.out.bts
      have hln := HWY.out.len
      have HNB := Lib.hid (show bytesF l ≤ 1073741824 by omega)
      have HNL := Lib.hid (show l.length ≤ 100000 by omega)
      have HRM := Lib.hid (room_files HWY.out.srt HWY.out.nms)
      have HXR := Lib.hid (HX4.out.trans (HBF.out.mono (by have := HWF.out; omega)))
      have rb : Row wr (w.heap.size + 1) 27 #[.slice none 0 0, .slice none 0 0, .slice none 0 0] := (HBF.out.block _ (by have := HWF.out; omega)).trans HRB4.out
      clear hrun hby hln i2
      go_wp2_with fail
      refine (implHaveRoom (f + 1) f l _ HFA.out HNB.out (by have := HNL.out; omega)).mono ?_
      rintro e w5 ⟨rfl, hq⟩
      have HX5 := Lib.hid (HXR.out.trans (hq.mono HXR.out.size))
      have HF5 := Lib.hid (HFA.out.below hq)
      have rb := rb.below hq
      have RR := Lib.hid rb
      obtain ⟨⟨r0, r1, r2⟩, ⟨f0, f1, f2⟩⟩ := rb.three
      clear hq
      cases e2 : roomB l
      · have HA := Lib.hid (crash_no (keep := keep) (torn := torn) (show crashOk x keep torn = false by unfold crashOk; rw [HRUN.out, HRM.out, e2]; simp))
        clear rb e2
        go_wp2_with fail
        have hr9 := (((RR.out).set 0 (.slice none 0 0)).set 1 (.slice none 0 0)).set 2 (.slice none 0 0)
        refine bodyPost_ret (results_cell_row2 (p := 6) (u := 7) (ty := 27) rfl _ _ (w.heap.size + 1) 27 #[.slice none 0 0, .slice none 0 0, .slice none 0 0] (0, 0) _ rfl rfl hr9 Try.underlying27 rfl HI.out) rfl ⟨⟨.agg #[.slice none 0 0, .slice none 0 0, .slice none 0 0], ?_, ?_⟩, ?_⟩
        · rw [HA.out.1]; rfl
        · refine DzA.mono (base := w.heap.size + 2) ?_ (by omega)
          rw [HA.out.2]
          refine DzA.set (DzA.set (DzA.set (DzA.nil _ _) ?_ _) ?_ _) ?_ _ <;> (exact Nat.lt_succ_self _)
        · exact ((HX5.out.setCell (Nat.le_add_right _ 1) _).setCell (Nat.le_add_right _ 1) _).setCell (Nat.le_add_right _ 1) _
      have HA := Lib.hid (crash_yes (keep := keep) (torn := torn) (show crashOk x keep torn = true by unfold crashOk; rw [HRUN.out, HRM.out, e2, E0.out, E1.out, decide_eq_true HT0.out]; rfl))
      rw [HRUN.out] at HA
      clear r0 r1 r2 f0 f1 f2 e2
      go_wp2_with fail
      refine (implList (f + 1) f l _ HF5.out HNL.out).mono ?_
      rintro e w6 ⟨⟨vN, rfl, oN⟩, hq⟩
      obtain ⟨AN, cN, rfl, -, -, sN⟩ := (show OwnZ w6 _ vN _ from oN).sl
      have HX6 := Lib.hid (HX5.out.trans (hq.mono HX5.out.size))
      have rb := rb.below hq
      clear hq oN RR
      go_wp2_with fail
      refine (implSettled AN _ cN l _ _ sN (by have := HNL.out; omega)).mono ?_
      rintro e w7 ⟨⟨v, rfl, hv⟩, hq⟩
      have HX7 := Lib.hid (HX6.out.trans (hq.mono HX6.out.size))
      have RR := Lib.hid (rb.below hq)
      have HV := Lib.hid (hv.mono (base' := w.heap.size + 2) (by have h1 := HX6.out.size; have h2 := lt_of_block rb; omega))
      obtain ⟨v0, v1, v2, rfl, k0, k1, k2, -⟩ := hv
      obtain ⟨C0, m0, e0, rfl⟩ := k0.len
      obtain ⟨C1, m1, e1, rfl⟩ := k1.len
      obtain ⟨C2, m2, e2, rfl⟩ := k2.len
      clear k0 k1 k2 hq sN rb
      have rr := RR.out
      obtain ⟨⟨r0, r1, r2⟩, ⟨f0, f1, f2⟩⟩ := rr.three
      clear rr
      go_wp2_with fail
      have hr9 := (((RR.out).set 0 (.slice C0 m0 e0)).set 1 (.slice C1 m1 e1)).set 2 (.slice C2 m2 e2)
      refine bodyPost_ret (results_cell_row2 (p := 6) (u := 7) (ty := 27) rfl _ _ (w.heap.size + 1) 27 #[.slice C0 m0 e0, .slice C1 m1 e1, .slice C2 m2 e2] (0, 0) _ rfl rfl hr9 Try.underlying27 rfl HI.out) rfl ⟨⟨.agg #[.slice C0 m0 e0, .slice C1 m1 e1, .slice C2 m2 e2], ?_, ?_⟩, ?_⟩
      · rw [HA.out.1]; rfl
      · refine DzA.mono (base := w.heap.size + 2) ?_ (by omega)
        rw [HA.out.2]
        refine DzA.set (DzA.set (DzA.set (HV.out) ?_ _) ?_ _) ?_ _ <;> (exact Nat.lt_succ_self _)
      · exact ((HX7.out.setCell (Nat.le_add_right _ 1) _).setCell (Nat.le_add_right _ 1) _).setCell (Nat.le_add_right _ 1) _
end Go.Proofs.Ytkinegapnknhiaa
namespace Go.Proofs.Ytkinegapnknhiaa
open Go.RowKit Go.Maps
set_option linter.unusedVariables false
set_option linter.unusedSimpArgs false

theorem specInC {n lo hi : Int} {b : Bool} (h : (decide (lo ≤ n) && decide (n ≤ hi)) = b) (w : World) :
    Calls Try.prog 76 #[.int .i64 n, .int .i64 lo, .int .i64 hi] w fun e w' => e = .returned (.bool b) ∧ w' = w := (specIn n lo hi w).mono fun _ _ ⟨h1, h2⟩ => ⟨by rw [h1, h], h2.symm⟩
theorem below_drewC {G : Nat} {a w : World} (h : Below G a w) : ∀ n : Nat, Below G a (w.drewN n) := fun n => ⟨h.os, h.tape, h.output, h.size, h.block⟩
theorem torn_same {o : Oz} (h : formB o = true) {t : Int} (ht : 0 ≤ t) (hn : ¬ (o.kind = 1 ∧ t < o.data.size)) : tornO o t = o := by
  have hx : o.data.extract 0 (min t.toNat o.data.size) = o.data := by
    by_cases hk : o.kind = 1
    · have e : min t.toNat o.data.size = o.data.size := by omega
      rw [e]
      exact ByteArray.extract_zero_size
    · have he : o.data = ⟨#[]⟩ := bytes_ext (by rw [form_data h hk, ByteArray.toList_eq])
      rw [he]
      have e : min t.toNat (⟨#[]⟩ : ByteArray).size = 0 := Nat.min_eq_right (Nat.zero_le _)
      rw [e]; rfl
  unfold tornO
  rw [hx]
theorem torn_cut {o : Oz} {t : Int} (ht : 0 ≤ t) (hl : t < o.data.size) : tornO o t = ⟨o.kind, o.name, o.to, o.data.extract 0 t.toNat⟩ := by
  have e : min t.toNat o.data.size = t.toNat := by omega
  unfold tornO
  rw [e]

set_option maxRecDepth 100000 in
set_option maxHeartbeats 4000000 in
theorem specCrash (x : Dz) (AK : Option Addr) (nK cK : Nat) (keep : List Int) (torn : Int) (A0 : Option Addr) (n0 c0 : Nat) (A1 : Option Addr) (n1 c1 : Nat) (A2 : Option Addr) (n2 c2 : Nat) (ok ok' : Nat → Prop) (w : World) (h0 : Sl FzR 2 ok w A0 n0 x.live) (h1 : Sl FzR 2 ok w A1 n1 x.safe) (h2 : Sl OzR 4 ok w A2 n2 x.ops) (hk : Sl IntR 1 ok' w AK nK keep) (hs : x.sz ≤ 1048576) (hnk : nK ≤ 1048576) :
    Calls Try.prog 34 #[.agg #[.slice A0 n0 c0, .slice A1 n1 c1, .slice A2 n2 c2], .slice AK nK cK, .int .i64 torn] w fun e w' => (∃ v, e = .returned (.tuple #[v, .bool (crashOk x keep torn)]) ∧ DzA w' w.heap.size v (crashD x keep torn)) ∧ Below w.heap.size w w' := by
  obtain rfl : keep.length = nK := hk.1
  obtain rfl : x.ops.length = n2 := h2.1
  obtain ⟨hx, hwz⟩ := box2 w (.cells #[.slice A0 n0 c0, .slice A1 n1 c1, .slice A2 x.ops.length c2] 27) (.cells #[.slice none 0 0, .slice none 0 0, .slice none 0 0] 27)
  have ra := (Row.new w 27 #[.slice A0 n0 c0, .slice A1 n1 c1, .slice A2 x.ops.length c2]).alloc (.cells #[.slice none 0 0, .slice none 0 0, .slice none 0 0] 27)
  have rb := Row.newAt (w.alloc (.cells #[.slice A0 n0 c0, .slice A1 n1 c1, .slice A2 x.ops.length c2] 27)) 27 #[.slice none 0 0, .slice none 0 0, .slice none 0 0] (w.heap.size + 1) (by simp)
  have HI := Lib.hid infoDisk
  have HL := Lib.hid (sz_lens hs)
  have hdat : ∀ o ∈ x.ops, o.data.size ≤ 1048576 := fun o ho => by
    have h := szL_mem Oz.sz x.ops o ho
    have h3 : o.data.size ≤ o.sz := by unfold Oz.sz; omega
    unfold Dz.sz at hs
    omega
  have HDT := Lib.hid hdat
  clear hdat
  obtain ⟨i0, hi, hz0, hz1, hz2⟩ := info_parts infoFileT
  have H1 := Lib.hid hi
  have H2 := Lib.hid hz0
  have H3 := Lib.hid hz1
  have H4 := Lib.hid hz2
  clear hi hz0 hz1 hz2
  go_enter Try.func34, Try.ntmps34
  go_wp2_with fail
  generalize (w.alloc (.cells #[.slice A0 n0 c0, .slice A1 n1 c1, .slice A2 x.ops.length c2] 27)).alloc (.cells #[.slice none 0 0, .slice none 0 0, .slice none 0 0] 27) = z at *
  refine (specDiskOk x A0 n0 c0 A1 n1 c1 A2 _ c2 _ _ (h0.below FzR.stays hx) (h1.below FzR.stays hx) (h2.below OzR.stays hx) hs).mono ?_
  rintro e w1 ⟨rfl, hq⟩
  have hx := hx.trans (hq.mono hx.size)
  have hwz := Nat.le_trans hwz hq.size
  have ra := ra.below hq
  have rb := rb.below hq
  clear hq
  obtain ⟨⟨p0, p1, p2⟩, -⟩ := ra.three
  obtain ⟨⟨r0, r1, r2⟩, ⟨f0, f1, f2⟩⟩ := rb.three
  cases e0 : diskB x
  · have HA := Lib.hid (crash_no (keep := keep) (torn := torn) (show crashOk x keep torn = false by unfold crashOk; rw [e0]; rfl))
    have RR := Lib.hid rb
    clear ra rb
    go_wp2_with fail
    have hr9 := (((RR.out).set 0 (.slice none 0 0)).set 1 (.slice none 0 0)).set 2 (.slice none 0 0)
    refine bodyPost_ret (results_cell_row2 (p := 6) (u := 7) (ty := 27) rfl _ _ (w.heap.size + 1) 27 #[.slice none 0 0, .slice none 0 0, .slice none 0 0] (0, 0) _ rfl rfl hr9 Try.underlying27 rfl HI.out) rfl ⟨⟨.agg #[.slice none 0 0, .slice none 0 0, .slice none 0 0], ?_, ?_⟩, ?_⟩
    · rw [HA.out.1]; rfl
    · refine DzA.mono (base := w.heap.size + 2) ?_ (by omega)
      rw [HA.out.2]
      refine DzA.set (DzA.set (DzA.set (DzA.nil _ _) ?_ _) ?_ _) ?_ _ <;> (exact Nat.lt_succ_self _)
    · exact ((hx.setCell (Nat.le_add_right _ 1) _).setCell (Nat.le_add_right _ 1) _).setCell (Nat.le_add_right _ 1) _
  have HP := Lib.hid (diskB_parts e0)
  have E0 := Lib.hid e0
  have HFM := Lib.hid (diskB_form e0)
  clear e0
  by_cases htn : torn < 0
  · have htn' : decide (torn < 0) = true := decide_eq_true htn
    have HA := Lib.hid (crash_no (keep := keep) (torn := torn) (show crashOk x keep torn = false by unfold crashOk; rw [decide_eq_false (show ¬ 0 ≤ torn by omega)]; simp))
    have RR := Lib.hid rb
    clear ra rb htn
    go_wp2_with fail
    have hr9 := (((RR.out).set 0 (.slice none 0 0)).set 1 (.slice none 0 0)).set 2 (.slice none 0 0)
    refine bodyPost_ret (results_cell_row2 (p := 6) (u := 7) (ty := 27) rfl _ _ (w.heap.size + 1) 27 #[.slice none 0 0, .slice none 0 0, .slice none 0 0] (0, 0) _ rfl rfl hr9 Try.underlying27 rfl HI.out) rfl ⟨⟨.agg #[.slice none 0 0, .slice none 0 0, .slice none 0 0], ?_, ?_⟩, ?_⟩
    · rw [HA.out.1]; rfl
    · refine DzA.mono (base := w.heap.size + 2) ?_ (by omega)
      rw [HA.out.2]
      refine DzA.set (DzA.set (DzA.set (DzA.nil _ _) ?_ _) ?_ _) ?_ _ <;> (exact Nat.lt_succ_self _)
    · exact ((hx.setCell (Nat.le_add_right _ 1) _).setCell (Nat.le_add_right _ 1) _).setCell (Nat.le_add_right _ 1) _
  have htn' : decide (torn < 0) = false := decide_eq_false htn
  have HT0 := Lib.hid (show 0 ≤ torn by omega)
  have RA := Lib.hid ra
  have RB := Lib.hid rb
  have HX1 := Lib.hid hx
  have HWZ := Lib.hid hwz
  clear htn r0 r1 r2 f0 f1 f2 p0 p1 p2 ra rb hx hwz
  go_wp2_with fail
  go_loopw [8] (fun iv wr => ∃ (k : Nat) (last : Int), k ≤ keep.length ∧ iv = .int .i64 k ∧ Hid (k = 0 ∧ last = -1 ∨ ∃ h : 0 < k ∧ k - 1 < keep.length, last = keep[k - 1]'h.2) ∧ Hid (risesB x.ops.length (-1) keep = risesB x.ops.length last (keep.drop k)) ∧ Hid (Below w1.heap.size w1 wr)) (fun iv _ => keep.length - (intOf iv).toNat)
  case atStart => exact ⟨0, -1, Nat.zero_le _, rfl, Lib.hid (Or.inl ⟨rfl, rfl⟩), Lib.hid rfl, Lib.hid (Below.refl _ _)⟩
  case round =>
    obtain ⟨k, last, hkk, rfl, HLA, HRI, HB⟩ := hrel
    have hx := HX1.out.trans (HB.out.mono HX1.out.size)
    have ra := RA.out.below HB.out
    have rb := RB.out.below HB.out
    have RR := Lib.hid rb
    obtain ⟨⟨p0, p1, p2⟩, -⟩ := ra.three
    have HX2 := Lib.hid hx
    have hwz := Nat.le_trans HWZ.out HB.out.size
    by_cases hlt : k < keep.length
    · obtain ⟨b, off, -, rfl, q0⟩ := IntR.at_ (hk.below IntR.stays hx) hlt
      have i0 : (0 : Int) ≤ k := by omega
      have i1 : (k : Int) < keep.length := by omega
      have HR := Lib.hid (HRI.out.trans (risesB_at hlt))
      obtain ⟨⟨r0, r1, r2⟩, ⟨f0, f1, f2⟩⟩ := rb.three
      have HLN := Lib.hid (show x.ops.length ≤ 1048576 from HL.out.2.2)
      have i4 : x.ops.length ≤ 1048576 := HLN.out
      clear ra rb hx
      cases hin : (decide (0 ≤ keep[k]) && decide (keep[k] ≤ (x.ops.length : Int) - 1))
      · have HI2 := Lib.hid hin
        have HF := Lib.hid (show risesB x.ops.length (-1) keep = false by
          rw [HR.out, show (decide (0 ≤ keep[k]) && decide (keep[k] < (x.ops.length : Int))) = false by rw [← hin]; congr 1; rw [decide_eq_decide]; omega]
          simp)
        have HA := Lib.hid (crash_no (keep := keep) (torn := torn) (show crashOk x keep torn = false by unfold crashOk; rw [HF.out]; simp))
        clear hin
        go_wp2_with fail
        go_quiet ((go_at_call 76; exact Calls.quiet_of_same (specInC HI2.out _)))
        have rq := RR.out.drewN nq
        have RQ := Lib.hid rq
        have HXQ := Lib.hid (below_drewC HX2.out nq)
        clear r0 r1 r2 f0 f1 f2
        obtain ⟨⟨r0, r1, r2⟩, ⟨f0, f1, f2⟩⟩ := rq.three
        clear rq
        generalize wr.drewN nq = y at *
        go_wp2_with fail
        have hr9 := (((RQ.out).set 0 (.slice none 0 0)).set 1 (.slice none 0 0)).set 2 (.slice none 0 0)
        refine bodyPost_ret (results_cell_row2 (p := 6) (u := 7) (ty := 27) rfl _ _ (w.heap.size + 1) 27 #[.slice none 0 0, .slice none 0 0, .slice none 0 0] (0, 0) _ rfl rfl hr9 Try.underlying27 rfl HI.out) rfl ⟨⟨.agg #[.slice none 0 0, .slice none 0 0, .slice none 0 0], ?_, ?_⟩, ?_⟩
        · rw [HA.out.1]; rfl
        · refine DzA.mono (base := w.heap.size + 2) ?_ (by omega)
          rw [HA.out.2]
          refine DzA.set (DzA.set (DzA.set (DzA.nil _ _) ?_ _) ?_ _) ?_ _ <;> (exact Nat.lt_succ_self _)
        · exact ((HXQ.out.setCell (Nat.le_add_right _ 1) _).setCell (Nat.le_add_right _ 1) _).setCell (Nat.le_add_right _ 1) _
      have hin2 : (decide (0 ≤ keep[k]) && decide (keep[k] < (x.ops.length : Int))) = true := by rw [← hin]; congr 1; rw [decide_eq_decide]; omega
      have HI2 := Lib.hid hin
      rw [hin2, Bool.and_true] at HR
      have hp0 : 0 ≤ keep[k] := by simp only [Bool.and_eq_true, decide_eq_true_eq] at hin2; exact hin2.1
      clear hin hin2
      by_cases hk0 : k = 0
      · subst hk0
        have hl : last = -1 := by
          rcases HLA.out with h | ⟨h, -⟩
          · exact h.2
          · omega
        have HG := Lib.hid (show risesB x.ops.length (-1) keep = risesB x.ops.length keep[0] (keep.drop (0 + 1)) by rw [HR.out, hl, decide_eq_false (show ¬ keep[0] ≤ -1 by omega)]; rfl)
        clear hl hp0 RR r0 r1 r2 f0 f1 f2
        rw [Nat.add_zero] at q0
        go_wp2_with fail
        go_quiet ((go_at_call 76; exact Calls.quiet_of_same (specInC HI2.out _)))
        have HB2 := Lib.hid (below_drewC HB.out nq)
        generalize wr.drewN nq = y at *
        go_wp2_with fail
        go_roundw
        case rel => exact ⟨0 + 1, keep[0], by omega, by go_num, Lib.hid (Or.inr ⟨⟨by omega, hlt⟩, rfl⟩), HG, HB2⟩
        case measure => simp [intOf]; omega
      · obtain ⟨k', rfl⟩ : ∃ k', k = k' + 1 := ⟨k - 1, by omega⟩
        have hlt' : k' < keep.length := by omega
        have hl : last = keep[k'] := by
          rcases HLA.out with h | ⟨h, e⟩
          · omega
          · rw [e]; rfl
        obtain ⟨b', off', -, eb, q1⟩ := IntR.at_ (hk.below IntR.stays HX2.out) hlt'
        injection eb with eb
        injection eb with eb1 eb2 eb3
        subst eb1 eb2
        rw [hl] at HR
        have j0 : (0 : Int) ≤ k' := by omega
        have j1 : (k' : Int) < keep.length := by omega
        have j2 : (0 : Int) < ((k' + 1 : Nat) : Int) := by omega
        clear hl hk0 hp0
        by_cases hle : keep[k' + 1] ≤ keep[k']
        · have hle' : decide (keep[k' + 1] ≤ keep[k']) = true := decide_eq_true hle
          have HF := Lib.hid (show risesB x.ops.length (-1) keep = false by rw [HR.out, hle']; rfl)
          have HA := Lib.hid (crash_no (keep := keep) (torn := torn) (show crashOk x keep torn = false by unfold crashOk; rw [HF.out]; simp))
          clear hle
          go_wp2_with fail
          go_quiet ((go_at_call 76; exact Calls.quiet_of_same (specInC HI2.out _)))
          have rq := RR.out.drewN nq
          have RQ := Lib.hid rq
          have HXQ := Lib.hid (below_drewC HX2.out nq)
          clear r0 r1 r2 f0 f1 f2
          obtain ⟨⟨r0, r1, r2⟩, ⟨f0, f1, f2⟩⟩ := rq.three
          clear rq
          generalize wr.drewN nq = y at *
          go_wp2_with fail
          have hr9 := (((RQ.out).set 0 (.slice none 0 0)).set 1 (.slice none 0 0)).set 2 (.slice none 0 0)
          refine bodyPost_ret (results_cell_row2 (p := 6) (u := 7) (ty := 27) rfl _ _ (w.heap.size + 1) 27 #[.slice none 0 0, .slice none 0 0, .slice none 0 0] (0, 0) _ rfl rfl hr9 Try.underlying27 rfl HI.out) rfl ⟨⟨.agg #[.slice none 0 0, .slice none 0 0, .slice none 0 0], ?_, ?_⟩, ?_⟩
          · rw [HA.out.1]; rfl
          · refine DzA.mono (base := w.heap.size + 2) ?_ (by omega)
            rw [HA.out.2]
            refine DzA.set (DzA.set (DzA.set (DzA.nil _ _) ?_ _) ?_ _) ?_ _ <;> (exact Nat.lt_succ_self _)
          · exact ((HXQ.out.setCell (Nat.le_add_right _ 1) _).setCell (Nat.le_add_right _ 1) _).setCell (Nat.le_add_right _ 1) _
        · have hle' : decide (keep[k' + 1] ≤ keep[k']) = false := decide_eq_false hle
          have HG := Lib.hid (show risesB x.ops.length (-1) keep = risesB x.ops.length keep[k' + 1] (keep.drop (k' + 1 + 1)) by rw [HR.out, hle']; rfl)
          clear hle RR r0 r1 r2 f0 f1 f2
          go_wp2_with fail
          go_quiet ((go_at_call 76; exact Calls.quiet_of_same (specInC HI2.out _)))
          have HB2 := Lib.hid (below_drewC HB.out nq)
          generalize wr.drewN nq = y at *
          go_wp2_with fail
          go_roundw
          case rel => exact ⟨k' + 1 + 1, keep[k' + 1], by omega, by go_num, Lib.hid (Or.inr ⟨⟨by omega, hlt⟩, rfl⟩), HG, HB2⟩
          case measure => simp [intOf]; omega
    · have HRS := Lib.hid (show risesB x.ops.length (-1) keep = true by rw [HRI.out, List.drop_eq_nil_of_le (by omega)]; rfl)
      have HIN := Lib.hid (risesB_in HRS.out)
      have HKL := Lib.hid (show keep.length ≤ 200 by
        have h1 := HP.out.2.2
        rcases risesB_len (by omega) HRS.out with h2 | h2
        · omega
        · rw [h2]; exact Nat.zero_le _)
      have HDT2 := Lib.hid (kept_ok (torn := torn) HFM.out HDT.out keep HIN.out)
      have HLN := Lib.hid (keptO_len x.ops torn keep)
      have HKG := Lib.hid (keptO_get x.ops torn keep)
      obtain ⟨L, hL⟩ : ∃ L, L = keptO x.ops torn keep := ⟨_, rfl⟩
      rw [← hL] at HDT2 HLN HKG
      have HLE := Lib.hid hL
      have HW0 := Lib.hid (OnWay.start HP.out.2.1)
      obtain ⟨hfs1, hfs2⟩ := filesB_bytes HP.out.2.1
      have hn1 : n1 ≤ 60 := by have := h1.1; omega
      have HLI := Lib.hid (OwnG.lit (T := 75) (sz := 2) (f := Fz.cells) wr (Nat.le_refl wr.heap.size))
      have HAL := Lib.hid ((Below.refl wr.heap.size wr).alloc (Nat.le_refl _) (.cells #[] 75))
      have hsf := (h1.below FzR.stays HX2.out).below FzR.stays HAL.out
      have raa := ra.below HAL.out
      have RA3 := Lib.hid ra
      clear hL hfs1 hfs2 hx ra rb hwz
      have hwz : w.heap.size + 2 ≤ wr.heap.size := by have h1 := lt_of_block RR.out; omega
      have HWR := Lib.hid hwz
      clear hwz
      obtain ⟨⟨s0, s1, s2⟩, -⟩ := raa.three
      go_wp2_with (at_builtin; refine wpList_app_all rfl _ _ 24 rfl fz_cells fz_one (by omega) Try.underlying24 H1.out H2.out H3.out H4.out rfl _ rfl HLI.out (by simp) rfl hsf (by omega) (by omega) ?_)
      intro v9 w9 hown9 hgrow9 hloc9
      have O9 := Lib.hid (show OwnZ w9 wr.heap.size v9 x.safe from hown9)
      have HB9 := Lib.hid (HAL.out.grown hgrow9 (by simp) (fun k hk => (OwnG.block_lt HLI.out k hk).1))
      clear hown9 hgrow9 hloc9 hsf raa p0 p1 p2 s0 s1 s2
      go_wp2_with fail
      generalize wr = wo at *
      go_loopw [9, 10] (fun lv iv wr => ∃ (k : Nat) (l : List Fz) (v : Value), k ≤ keep.length ∧ iv = .int .i64 k ∧ v = lv ∧ Hid (OwnZ wr wo.heap.size v l) ∧ Hid (OnWay x l k) ∧ Hid (runF x.safe L = runF l (L.drop k)) ∧ Hid (Below wo.heap.size wo wr)) (fun _ iv _ => keep.length - (intOf iv).toNat)
      case atStart => exact ⟨0, x.safe, _, Nat.zero_le _, rfl, rfl, O9, HW0, Lib.hid rfl, HB9⟩
      case round =>
        clear O9 HB9 HW0
        obtain ⟨k, l, vl, hkk, rfl, rfl, OZ, HWY, HST, HBQ⟩ := hrel
        by_cases hlt : k < keep.length
        · obtain ⟨hp0, hp1⟩ := HIN.out _ (List.getElem_mem hlt)
          obtain ⟨m, hm⟩ : ∃ m : Nat, keep[k] = m := ⟨keep[k].toNat, by omega⟩
          have hml : m < x.ops.length := by rw [hm] at hp1; omega
          have hO : opAt x.ops keep[k] = x.ops[m] := by rw [hm]; unfold opAt; rw [List.getD_eq_getElem?_getD, Int.toNat_natCast, List.getElem?_eq_getElem hml]; rfl
          have hkL : k < L.length := by rw [HLN.out]; exact hlt
          have hLk := HKG.out k hlt
          rw [List.getElem?_eq_getElem hkL, hO] at hLk
          have HLK := Lib.hid (Option.some.inj hLk)
          have HFO := Lib.hid (HFM.out _ (List.getElem_mem hml))
          have HDO := Lib.hid (HDT.out _ (List.getElem_mem hml))
          have HLO := Lib.hid (HDT2.out _ (List.getElem_mem hkL))
          have HSL := Lib.hid (show runF x.safe L = runF (doF l L[k]).1 (L.drop (k + 1)) by rw [HST.out, runF_at hkL])
          have HWL := Lib.hid (HWY.out.step HLO.out.1 HLO.out.2)
          have hxq := HX2.out.trans (HBQ.out.mono HX2.out.size)
          have HXQ := Lib.hid hxq
          obtain ⟨b, off, -, rfl, q0⟩ := IntR.at_ (hk.below IntR.stays hxq) hlt
          obtain ⟨b', off', -, rfl, y0, y1, y2, y3⟩ := OzR.at_ (h2.below OzR.stays hxq) hml
          have raq := RA3.out.below HBQ.out
          obtain ⟨⟨-, -, p2⟩, -⟩ := raq.three
          rw [hm] at q0
          have i0 : (0 : Int) ≤ k := by omega
          have i1 : (k : Int) < keep.length := by omega
          have i2 : keep.length ≤ 200 := HKL.out
          have j0 : (0 : Int) ≤ m := by omega
          have j1 : (m : Int) < x.ops.length := by omega
          have hbl := lt_of_block raq
          have hc1 := cell_lt q0
          have hc2 := cell_lt y0
          generalize hgo : x.ops[m] = o at *
          clear hLk hO hm hp0 hp1 raq hxq hgo
          go_wp2_with fail
          have hb0 : Below wr.heap.size wr wr.drew := (Below.refl _ wr).drew
          refine wp_region_noPanic ?_
          refine wp_region_held_drew (S := (fun w' => w'.cell? ⟨w.heap.size, 2, none⟩ = some (.slice (some ⟨b', off', none⟩) x.ops.length c2) ∧ w'.cell? ⟨b, off + k, none⟩ = some (.int .i64 m) ∧ w'.cell? ⟨b', off' + m * 4, none⟩ = some (.int .i64 o.kind) ∧ w'.cell? ⟨b', off' + m * 4 + 1, none⟩ = some (.string o.name) ∧ w'.cell? ⟨b', off' + m * 4 + 2, none⟩ = some (.string o.to) ∧ w'.cell? ⟨b', off' + m * 4 + 3, none⟩ = some (.string o.data))) (by kernel_rfl) ⟨p2, q0, y0, y1, y2, y3⟩ (fun hHeld => ?_)
          generalize wr.drew = u0 at *
          refine wpAnyH_take (i := 0) (v := ?v1) rfl (by kernel_rfl) (by kernel_rfl) (by kernel_rfl) (fun _ _ _ h => h) (Or.inl ⟨by rfl, ?hy1⟩) hHeld ?rest1
          case hy1 => (intro w' hSw; (try dsimp only at hSw); first | (go_simp; done) | (go_simp; with_reducible rfl))
          simp only [Act.put, List.getElem_toArray, List.getElem_cons_zero, List.getElem_cons_succ, List.setIfInBounds_toArray, List.set_cons_zero, List.set_cons_succ]
          refine wpAnyH_take (i := 1) (v := ?v2) rfl (by kernel_rfl) (by kernel_rfl) (by kernel_rfl) (fun _ _ _ h => h) (Or.inl ⟨by rfl, ?hy2⟩) hHeld ?rest2
          case hy2 => (intro w' hSw; (try dsimp only at hSw); first | (go_simp; done) | (go_simp; with_reducible rfl))
          simp only [Act.put, List.getElem_toArray, List.getElem_cons_zero, List.getElem_cons_succ, List.setIfInBounds_toArray, List.set_cons_zero, List.set_cons_succ]
          refine wpAnyH_take (i := 2) (v := ?v3) rfl (by kernel_rfl) (by kernel_rfl) (by kernel_rfl) (fun _ _ _ h => h) (Or.inl ⟨by rfl, ?hy3⟩) hHeld ?rest3
          case hy3 => (intro w' hSw; (try dsimp only at hSw); first | (go_simp; done) | (go_simp; with_reducible rfl))
          simp only [Act.put, List.getElem_toArray, List.getElem_cons_zero, List.getElem_cons_succ, List.setIfInBounds_toArray, List.set_cons_zero, List.set_cons_succ]
          refine wpAnyH_take (i := 3) (v := ?v4) rfl (by kernel_rfl) (by kernel_rfl) (by kernel_rfl) (fun _ _ _ h => h) (Or.inl ⟨by rfl, ?hy4⟩) hHeld ?rest4
          case hy4 => (intro w' hSw; (try dsimp only at hSw); first | (go_simp; done) | (go_simp; with_reducible rfl))
          simp only [Act.put, List.getElem_toArray, List.getElem_cons_zero, List.getElem_cons_succ, List.setIfInBounds_toArray, List.set_cons_zero, List.set_cons_succ]
          refine wpAnyH_take (i := 4) (v := ?v5) rfl (by kernel_rfl) (by kernel_rfl) (by kernel_rfl) (fun _ _ _ h => h) (Or.inl ⟨by rfl, ?hy5⟩) hHeld ?rest5
          case hy5 => (intro w' hSw; (try dsimp only at hSw); first | (go_simp; done) | (go_simp; with_reducible rfl))
          simp only [Act.put, List.getElem_toArray, List.getElem_cons_zero, List.getElem_cons_succ, List.setIfInBounds_toArray, List.set_cons_zero, List.set_cons_succ]
          refine wpAnyH_take (i := 5) (v := ?v6) rfl (by kernel_rfl) (by kernel_rfl) (by kernel_rfl) (fun _ _ _ h => h) (Or.inl ⟨by rfl, ?hy6⟩) hHeld ?rest6
          case hy6 => (intro w' hSw; (try dsimp only at hSw); first | (go_simp; done) | (go_simp; with_reducible rfl))
          simp only [Act.put, List.getElem_toArray, List.getElem_cons_zero, List.getElem_cons_succ, List.setIfInBounds_toArray, List.set_cons_zero, List.set_cons_succ]
          refine wpAnyH_take (i := 6) (v := ?v7) rfl (by kernel_rfl) (by kernel_rfl) (by kernel_rfl) (fun _ _ _ h => h) (Or.inl ⟨by rfl, ?hy7⟩) hHeld ?rest7
          case hy7 => (intro w' hSw; (try dsimp only at hSw); first | (go_simp; done) | (go_simp; with_reducible rfl))
          simp only [Act.put, List.getElem_toArray, List.getElem_cons_zero, List.getElem_cons_succ, List.setIfInBounds_toArray, List.set_cons_zero, List.set_cons_succ]
          refine wpAnyH_take (i := 7) (v := ?v8) rfl (by kernel_rfl) (by kernel_rfl) (by kernel_rfl) (fun _ _ _ h => h) (Or.inl ⟨by rfl, ?hy8⟩) hHeld ?rest8
          case hy8 => (intro w' hSw; (try dsimp only at hSw); first | (go_simp; done) | (go_simp; with_reducible rfl))
          simp only [Act.put, List.getElem_toArray, List.getElem_cons_zero, List.getElem_cons_succ, List.setIfInBounds_toArray, List.set_cons_zero, List.set_cons_succ]
          refine wpAnyH_ready (rs := [8]) (by kernel_rfl) (by simp) ?_
          refine AllReadyH.cons rfl (fun K hK => ?_) AllReadyH.nil
          go_simp
          have hal : Below (u0).heap.size u0 (u0.alloc (.cells #[.int .i64 0, .string ⟨#[]⟩, .string ⟨#[]⟩, .string ⟨#[]⟩] 36)) := (Below.refl _ _).alloc (Nat.le_refl _) _
          have rg := Row.new u0 36 #[.int .i64 0, .string ⟨#[]⟩, .string ⟨#[]⟩, .string ⟨#[]⟩]
          have hby := hb0.trans (hal.mono hb0.size)
          have hgq : wr.heap.size ≤ u0.heap.size := hb0.size
          clear hal
          generalize u0.alloc (.cells #[.int .i64 0, .string ⟨#[]⟩, .string ⟨#[]⟩, .string ⟨#[]⟩] 36) = u1 at *
          generalize u0.heap.size = g at *
          obtain ⟨⟨z0, z1, z2, z3⟩, ⟨e0, e1, e2, e3⟩⟩ := rg.all4
          refine hK.out _ _ ⟨below_keep hby _ _ p2, below_keep hby _ _ q0, below_keep hby _ _ y0, below_keep hby _ _ y1, below_keep hby _ _ y2, below_keep hby _ _ y3⟩ (fun hHeld => ?_)
          clear hK K
          (try simp only [Act.put, List.getElem_toArray, List.getElem_cons_zero, List.getElem_cons_succ, List.setIfInBounds_toArray, List.set_cons_zero, List.set_cons_succ])
          refine wpAnyH_ready (rs := [9]) (by kernel_rfl) (by simp) ?_
          refine AllReadyH.cons rfl (fun K hK => ?_) AllReadyH.nil
          go_simp
          refine hK.out _ _ ⟨cellOff (cellOff (cellOff (cellOff (below_keep hby _ _ p2) (by intro h; simp only at h; omega)) (by intro h; simp only at h; omega)) (by intro h; simp only at h; omega)) (by intro h; simp only at h; omega), cellOff (cellOff (cellOff (cellOff (below_keep hby _ _ q0) (by intro h; simp only at h; omega)) (by intro h; simp only at h; omega)) (by intro h; simp only at h; omega)) (by intro h; simp only at h; omega), cellOff (cellOff (cellOff (cellOff (below_keep hby _ _ y0) (by intro h; simp only at h; omega)) (by intro h; simp only at h; omega)) (by intro h; simp only at h; omega)) (by intro h; simp only at h; omega), cellOff (cellOff (cellOff (cellOff (below_keep hby _ _ y1) (by intro h; simp only at h; omega)) (by intro h; simp only at h; omega)) (by intro h; simp only at h; omega)) (by intro h; simp only at h; omega), cellOff (cellOff (cellOff (cellOff (below_keep hby _ _ y2) (by intro h; simp only at h; omega)) (by intro h; simp only at h; omega)) (by intro h; simp only at h; omega)) (by intro h; simp only at h; omega), cellOff (cellOff (cellOff (cellOff (below_keep hby _ _ y3) (by intro h; simp only at h; omega)) (by intro h; simp only at h; omega)) (by intro h; simp only at h; omega)) (by intro h; simp only at h; omega)⟩ (fun hHeld => ?_)
          clear hK K
          (try simp only [Act.put, List.getElem_toArray, List.getElem_cons_zero, List.getElem_cons_succ, List.setIfInBounds_toArray, List.set_cons_zero, List.set_cons_succ])
          refine wpAnyH_done (by kernel_rfl) ?_ _
          refine NoPanic.normal ?_
          clear hHeld
          have ry := (((rg.set 0 (.int .i64 o.kind)).set 1 (.string o.name)).set 2 (.string o.to)).set 3 (.string o.data)
          have ry := show Row ((((u1.setCell ⟨g, 0, none⟩ (.int .i64 o.kind)).setCell ⟨g, 1, none⟩ (.string o.name)).setCell ⟨g, 2, none⟩ (.string o.to)).setCell ⟨g, 3, none⟩ (.string o.data)) g 36 #[.int .i64 o.kind, .string o.name, .string o.to, .string o.data] from ry
          have hby := (((hby.setCell (p := ⟨g, 0, none⟩) hgq (.int .i64 o.kind)).setCell (p := ⟨g, 1, none⟩) hgq (.string o.name)).setCell (p := ⟨g, 2, none⟩) hgq (.string o.to)).setCell (p := ⟨g, 3, none⟩) hgq (.string o.data)
          generalize ((((u1.setCell ⟨g, 0, none⟩ (.int .i64 o.kind)).setCell ⟨g, 1, none⟩ (.string o.name)).setCell ⟨g, 2, none⟩ (.string o.to)).setCell ⟨g, 3, none⟩ (.string o.data)) = y at *
          clear p2 q0 y0 y1 y2 y3 z0 z1 z2 z3 e0 e1 e2 e3 rg hb0
          obtain ⟨⟨y0, y1, y2, y3⟩, ⟨e0, e1, e2, e3⟩⟩ := ry.all4
          have OY := Lib.hid (OwnG.below OZ.out hby)
          have HGQ := Lib.hid hgq
          obtain ⟨AN, cN, rfl, -, -, -⟩ := (show OwnZ wr _ vl _ from OZ.out).sl
          obtain ⟨AN', cN', eN, -, -, sN⟩ := (show OwnZ y _ _ _ from OY.out).sl
          injection eN with eN1 eN2 eN3
          subst eN1 eN3
          have HBY := Lib.hid hby
          have RY := Lib.hid ry
          have SN := Lib.hid sN
          clear hby ry sN hgq hbl hc1 hc2
          by_cases hlast : k + 1 = keep.length
          · have hE : decide ((k : Int) = (keep.length : Int) - 1) = true := decide_eq_true (by omega)
            have hE2 : ((k : Int) == (keep.length : Int) - 1) = true := by simpa using (show (k : Int) = (keep.length : Int) - 1 by omega)
            have HL1 := Lib.hid (show L[k] = tornO o torn by rw [HLK.out, if_pos hlast])
            clear hlast
            by_cases hk1 : o.kind = 1
            · have hk1' : decide (o.kind = 1) = true := decide_eq_true hk1
              have hk2 : (o.kind == 1) = true := by simpa using hk1
              by_cases hsz : torn < o.data.size
              · have hsz' : decide (torn < (o.data.size : Int)) = true := decide_eq_true hsz
                have ht0 : 0 ≤ torn := HT0.out
                obtain ⟨T, hT⟩ : ∃ T : Nat, torn = T := ⟨torn.toNat, by omega⟩
                have HTN := Lib.hid (torn_cut HT0.out hsz)
                have ry := RY.out.set 3 (.string (o.data.extract 0 torn.toNat))
                have ry := show Row (y.setCell ⟨g, 3, none⟩ (.string (o.data.extract 0 torn.toNat))) g 36 #[.int .i64 o.kind, .string o.name, .string o.to, .string (o.data.extract 0 torn.toNat)] from ry
                have HBZ := Lib.hid (HBY.out.setCell (p := ⟨g, 3, none⟩) HGQ.out (.string (o.data.extract 0 torn.toNat)))
                have SNZ := Lib.hid (show Sl (FlatR Fz.cells) 2 (okF wo.heap.size (y.setCell ⟨g, 3, none⟩ (.string (o.data.extract 0 torn.toNat)))) _ _ _ _ from by obtain ⟨AM, cM, eM, -, -, sM⟩ := (show OwnZ (y.setCell ⟨g, 3, none⟩ (.string (o.data.extract 0 torn.toNat))) _ _ _ from OwnG.below OZ.out HBZ.out).sl; injection eM with eM1 eM2 eM3; subst eM1; exact sM)
                subst hT
                rw [Int.toNat_natCast] at HTN ry HBZ SNZ
                have htsz : T ≤ o.data.size := by omega
                have hsn : decide (T < o.data.size) = true := decide_eq_true (by omega)
                have hsp : T < o.data.size := by omega
                clear hk1 hsz
                obtain ⟨⟨v0, v1, v2, v3⟩, -⟩ := ry.all4
                clear ry
                have HEQ := Lib.hid (show L[k] = ⟨o.kind, o.name, o.to, o.data.extract 0 T⟩ from HL1.out.trans HTN.out)
                have hby := HWY.out.bts
                have hln := HWY.out.len
                have HB3 := Lib.hid (show bytesF l ≤ 268435456 by omega)
                have HN3 := Lib.hid (show l.length ≤ 1000000 by omega)
                have HD3 := Lib.hid (show ((⟨o.kind, o.name, o.to, o.data.extract 0 T⟩ : Oz)).data.size ≤ 268435456 by rw [← HEQ.out]; have := HLO.out.2; omega)
                clear hby hln
                go_wp2_with fail
                refine (specDo14 AN _ cN l ((⟨o.kind, o.name, o.to, o.data.extract 0 T⟩ : Oz)) _ _ SNZ.out HN3.out HB3.out HD3.out).mono ?_
                rintro e w5 ⟨v, rfl, hv, hq⟩
                have HB5 := Lib.hid ((HBQ.out.trans ((HBZ.out).mono HBQ.out.size)).trans (hq.mono (Nat.le_trans HBQ.out.size (HBZ.out).size)))
                have HO5 := Lib.hid (show OwnZ w5 wo.heap.size v (doF l L[k]).1 by rw [HEQ.out]; exact OwnZ.mono hv (Nat.le_trans HBQ.out.size (HBZ.out).size))
                clear hv hq
                go_wp2_with fail
                go_roundw
                case rel => exact ⟨k + 1, (doF l L[k]).1, _, by omega, by go_num, rfl, HO5, HWL, HSL, HB5⟩
                case measure => simp [intOf]; omega
              · have hsz' : decide (torn < (o.data.size : Int)) = false := decide_eq_false hsz
                have HSM := Lib.hid (torn_same HFO.out HT0.out (show ¬ (o.kind = 1 ∧ torn < o.data.size) from fun h => hsz h.2))
                clear hk1 hsz
                have HEQ := Lib.hid (show L[k] = o from HL1.out.trans HSM.out)
                have hby := HWY.out.bts
                have hln := HWY.out.len
                have HB3 := Lib.hid (show bytesF l ≤ 268435456 by omega)
                have HN3 := Lib.hid (show l.length ≤ 1000000 by omega)
                have HD3 := Lib.hid (show (o).data.size ≤ 268435456 by rw [← HEQ.out]; have := HLO.out.2; omega)
                clear hby hln
                go_wp2_with fail
                refine (specDo14 AN _ cN l (o) _ _ SN.out HN3.out HB3.out HD3.out).mono ?_
                rintro e w5 ⟨v, rfl, hv, hq⟩
                have HB5 := Lib.hid ((HBQ.out.trans ((HBY.out).mono HBQ.out.size)).trans (hq.mono (Nat.le_trans HBQ.out.size (HBY.out).size)))
                have HO5 := Lib.hid (show OwnZ w5 wo.heap.size v (doF l L[k]).1 by rw [HEQ.out]; exact OwnZ.mono hv (Nat.le_trans HBQ.out.size (HBY.out).size))
                clear hv hq
                go_wp2_with fail
                go_roundw
                case rel => exact ⟨k + 1, (doF l L[k]).1, _, by omega, by go_num, rfl, HO5, HWL, HSL, HB5⟩
                case measure => simp [intOf]; omega
            · have hk1' : decide (o.kind = 1) = false := decide_eq_false hk1
              have hk2 : (o.kind == 1) = false := by simpa using hk1
              have HSM := Lib.hid (torn_same HFO.out HT0.out (show ¬ (o.kind = 1 ∧ torn < o.data.size) from fun h => hk1 h.1))
              clear hk1
              have HEQ := Lib.hid (show L[k] = o from HL1.out.trans HSM.out)
              have hby := HWY.out.bts
              have hln := HWY.out.len
              have HB3 := Lib.hid (show bytesF l ≤ 268435456 by omega)
              have HN3 := Lib.hid (show l.length ≤ 1000000 by omega)
              have HD3 := Lib.hid (show (o).data.size ≤ 268435456 by rw [← HEQ.out]; have := HLO.out.2; omega)
              clear hby hln
              go_wp2_with fail
              refine (specDo14 AN _ cN l (o) _ _ SN.out HN3.out HB3.out HD3.out).mono ?_
              rintro e w5 ⟨v, rfl, hv, hq⟩
              have HB5 := Lib.hid ((HBQ.out.trans ((HBY.out).mono HBQ.out.size)).trans (hq.mono (Nat.le_trans HBQ.out.size (HBY.out).size)))
              have HO5 := Lib.hid (show OwnZ w5 wo.heap.size v (doF l L[k]).1 by rw [HEQ.out]; exact OwnZ.mono hv (Nat.le_trans HBQ.out.size (HBY.out).size))
              clear hv hq
              go_wp2_with fail
              go_roundw
              case rel => exact ⟨k + 1, (doF l L[k]).1, _, by omega, by go_num, rfl, HO5, HWL, HSL, HB5⟩
              case measure => simp [intOf]; omega
          · have hE : decide ((k : Int) = (keep.length : Int) - 1) = false := decide_eq_false (by omega)
            have hE2 : ((k : Int) == (keep.length : Int) - 1) = false := by simpa using (show ¬ (k : Int) = (keep.length : Int) - 1 by omega)
            have HL1 := Lib.hid (show L[k] = o by rw [HLK.out, if_neg hlast])
            clear hlast
            have HEQ := Lib.hid (show L[k] = o from HL1.out)
            have hby := HWY.out.bts
            have hln := HWY.out.len
            have HB3 := Lib.hid (show bytesF l ≤ 268435456 by omega)
            have HN3 := Lib.hid (show l.length ≤ 1000000 by omega)
            have HD3 := Lib.hid (show (o).data.size ≤ 268435456 by rw [← HEQ.out]; have := HLO.out.2; omega)
            clear hby hln
            go_wp2_with fail
            refine (specDo14 AN _ cN l (o) _ _ SN.out HN3.out HB3.out HD3.out).mono ?_
            rintro e w5 ⟨v, rfl, hv, hq⟩
            have HB5 := Lib.hid ((HBQ.out.trans ((HBY.out).mono HBQ.out.size)).trans (hq.mono (Nat.le_trans HBQ.out.size (HBY.out).size)))
            have HO5 := Lib.hid (show OwnZ w5 wo.heap.size v (doF l L[k]).1 by rw [HEQ.out]; exact OwnZ.mono hv (Nat.le_trans HBQ.out.size (HBY.out).size))
            clear hv hq
            go_wp2_with fail
            go_roundw
            case rel => exact ⟨k + 1, (doF l L[k]).1, _, by omega, by go_num, rfl, HO5, HWL, HSL, HB5⟩
            case measure => simp [intOf]; omega
        · have hrun : runF x.safe (keptO x.ops torn keep) = l := by rw [← HLE.out, HST.out, List.drop_eq_nil_of_le (by rw [HLN.out]; omega)]; rfl
          have HRUN := Lib.hid hrun
          have hby := HWY.out.bts
          have hln := HWY.out.len
          have i2 : keep.length ≤ 200 := HKL.out
          have HNB := Lib.hid (show bytesF l ≤ 1073741824 by omega)
          have HNL := Lib.hid (show l.length ≤ 1048576 by omega)
          have HXQ := Lib.hid (HX2.out.trans (HBQ.out.mono HX2.out.size))
          have rb := RR.out.below HBQ.out
          obtain ⟨AN, cN, rfl, -, -, sN⟩ := (show OwnZ wr _ vl _ from OZ.out).sl
          have hn2 : l.length ≤ 1048576 := HNL.out
          clear hrun hby hln i2
          have RB3 := Lib.hid rb
          clear rb
          go_wp2_with fail
          refine (specFiles14 AN _ cN l _ _ sN HNB.out).mono ?_
          rintro e w5 ⟨rfl, hq⟩
          have HX5 := Lib.hid (HXQ.out.trans (hq.mono HXQ.out.size))
          have rb := RB3.out.below hq
          have RB5 := Lib.hid rb
          have O5 := Lib.hid (show OwnZ w5 wo.heap.size _ l from OwnG.below OZ.out hq)
          have s5 := sN.below (FlatR.stays _) hq
          have HW5 := Lib.hid (show w.heap.size + 2 ≤ w5.heap.size by have h1 := lt_of_block RB5.out; omega)
          have HWB := Lib.hid (Nat.le_trans HBQ.out.size hq.size)
          obtain ⟨⟨r0, r1, r2⟩, ⟨f0, f1, f2⟩⟩ := rb.three
          clear hq sN rb
          cases e2 : filesB l
          · have HA := Lib.hid (crash_no (keep := keep) (torn := torn) (show crashOk x keep torn = false by unfold crashOk; rw [HRUN.out, e2]; simp))
            clear e2 s5
            go_wp2_with fail
            have hr9 := (((RB5.out).set 0 (.slice none 0 0)).set 1 (.slice none 0 0)).set 2 (.slice none 0 0)
            refine bodyPost_ret (results_cell_row2 (p := 6) (u := 7) (ty := 27) rfl _ _ (w.heap.size + 1) 27 #[.slice none 0 0, .slice none 0 0, .slice none 0 0] (0, 0) _ rfl rfl hr9 Try.underlying27 rfl HI.out) rfl ⟨⟨.agg #[.slice none 0 0, .slice none 0 0, .slice none 0 0], ?_, ?_⟩, ?_⟩
            · rw [HA.out.1]; rfl
            · refine DzA.mono (base := w.heap.size + 2) ?_ (by omega)
              rw [HA.out.2]
              refine DzA.set (DzA.set (DzA.set (DzA.nil _ _) ?_ _) ?_ _) ?_ _ <;> (exact Nat.lt_succ_self _)
            · exact ((HX5.out.setCell (Nat.le_add_right _ 1) _).setCell (Nat.le_add_right _ 1) _).setCell (Nat.le_add_right _ 1) _
          have HA := Lib.hid (crash_yes (keep := keep) (torn := torn) (show crashOk x keep torn = true by unfold crashOk; rw [HRUN.out, e2, E0.out, HRS.out, decide_eq_true HT0.out]; rfl))
          rw [HRUN.out] at HA
          clear r0 r1 r2 f0 f1 f2 e2
          have HLI5 := Lib.hid (OwnG.lit (T := 75) (sz := 2) (f := Fz.cells) w5 (Nat.le_refl w5.heap.size))
          have HAL5 := Lib.hid ((Below.refl w5.heap.size w5).alloc (Nat.le_refl _) (.cells #[] 75))
          have hsf := s5.below (FlatR.stays _) HAL5.out
          have D5 := Lib.hid (Dis.fresh O5.out 0 0)
          have O6 := Lib.hid (OwnG.below O5.out HAL5.out)
          have rb6 := RB5.out.below HAL5.out
          clear s5
          go_wp2_with (at_builtin; refine wpList_app_all rfl _ _ 24 rfl fz_cells fz_one (by omega) Try.underlying24 H1.out H2.out H3.out H4.out rfl _ rfl HLI5.out (by simp) rfl hsf (by omega) (by omega) ?_)
          intro v7 w7 hown7 hgrow7 hloc7
          have O7 := Lib.hid (show OwnZ w7 w5.heap.size v7 l from hown7)
          have O7L := Lib.hid (OwnG.keptD O6.out hgrow7 D5.out)
          have D7 := Lib.hid (Dis.app (v' := v7) O6.out D5.out (by rcases hloc7 with h | ⟨g, h, hg⟩; exact .inl h; exact .inr ⟨g, h, by simpa using hg⟩))
          have HB7 := Lib.hid (HAL5.out.grown hgrow7 (by simp) (fun k hk => (OwnG.block_lt HLI5.out k hk).1))
          have HX7 := Lib.hid (HX5.out.trans (HB7.out.mono HX5.out.size))
          have rr := RB5.out.below HB7.out
          have R7 := Lib.hid rr
          obtain ⟨B7, m7, d7, rfl⟩ := (show OwnZ w7 _ v7 _ from O7.out).len
          obtain ⟨⟨r0, r1, r2⟩, ⟨f0, f1, f2⟩⟩ := rr.three
          clear hown7 hgrow7 hloc7 hsf rb6 rr
          go_wp2_with fail
          have hr9 := (((R7.out).set 0 (.slice AN l.length cN)).set 1 (.slice B7 m7 d7)).set 2 (.slice none 0 0)
          refine bodyPost_ret (results_cell_row2 (p := 6) (u := 7) (ty := 27) rfl _ _ (w.heap.size + 1) 27 #[.slice AN l.length cN, .slice B7 m7 d7, .slice none 0 0] (0, 0) _ rfl rfl hr9 Try.underlying27 rfl HI.out) rfl ⟨⟨.agg #[.slice AN l.length cN, .slice B7 m7 d7, .slice none 0 0], ?_, ?_⟩, ?_⟩
          · rw [HA.out.1]; rfl
          · refine DzA.mono (base := w.heap.size + 2) ?_ (by omega)
            rw [HA.out.2]
            refine DzA.set (DzA.set (DzA.set (show DzA _ (w.heap.size + 2) _ ⟨l, l, []⟩ from ⟨_, _, _, rfl, OwnZ.mono O7L.out HWR.out, OwnZ.mono O7.out HW5.out, OwnG.nil _ _, D7.out.symm⟩) ?_ _) ?_ _) ?_ _ <;> (exact Nat.lt_succ_self _)
          · exact ((HX7.out.setCell (Nat.le_add_right _ 1) _).setCell (Nat.le_add_right _ 1) _).setCell (Nat.le_add_right _ 1) _
end Go.Proofs.Ytkinegapnknhiaa
namespace Go.Proofs.Ytkinegapnknhiaa
open Go.RowKit
set_option linter.unusedVariables false
set_option linter.unusedSimpArgs false

theorem crashD_fits (x : Dz) (keep : List Int) (torn : Int) : (crashD x keep torn).fits := by
  unfold crashD
  cases h : crashOk x keep torn
  · exact ⟨by simp, by simp, by simp⟩
  · have hf : filesB (runF x.safe (keptO x.ops torn keep)) = true := by
      unfold crashOk at h
      simp only [Bool.and_eq_true] at h
      exact h.2
    exact ⟨filesB_sz hf, filesB_sz hf, by simp⟩
end Go.Proofs.Ytkinegapnknhiaa
namespace Go.Proofs.Ytkinegapnknhiaa
open Go.RowKit
set_option linter.unusedVariables false
set_option linter.unusedSimpArgs false

theorem runF_steps : ∀ {ops : List Oz} {l m : List Fz}, stepsF l ops = some m → runF l ops = m
  | [], l, m, h => by injection h
  | o :: r, l, m, h => by
    unfold stepsF at h
    split at h
    · exact runF_steps (l := (doF l o).1) h
    · cases h
theorem diskB_run {x : Dz} (h : diskB x = true) : runF x.safe x.ops = x.live := by
  unfold diskB at h
  simp only [Bool.and_eq_true] at h
  cases hs : stepsF x.safe x.ops with
  | none => rw [hs] at h; exact absurd h.2 (by simp)
  | some m => rw [hs] at h; rw [runF_steps hs]; exact sameF_iff.1 h.2
/-- All places. -/
def allP (n : Nat) : List Int := (List.range n).map fun i : Nat => (i : Int)
theorem allP_len (n : Nat) : (allP n).length = n := by unfold allP; simp
theorem allP_get {n k : Nat} (h : k < (allP n).length) : (allP n)[k] = (k : Int) := by
  have hk : k < n := by rwa [allP_len] at h
  have e : (allP n)[k]? = some (k : Int) := by unfold allP; rw [List.getElem?_map, List.getElem?_range hk]; rfl
  rw [List.getElem?_eq_getElem h] at e
  exact Option.some.inj e
theorem allP_succ (n : Nat) : allP (n + 1) = allP n ++ [(n : Int)] := by unfold allP; rw [List.range_succ, List.map_append]; rfl
theorem rises_drop (n : Nat) : ∀ k : Nat, k ≤ n → risesB n ((k : Int) - 1) ((allP n).drop k) = true := by
  intro k hk
  induction hd : n - k generalizing k with
  | zero =>
    rw [List.drop_eq_nil_of_le (by rw [allP_len]; omega)]
    rfl
  | succ d ih =>
    have hlt : k < (allP n).length := by rw [allP_len]; omega
    rw [risesB_at hlt, allP_get hlt]
    have h1 := ih (k + 1) (by omega) (by omega)
    rw [show ((k + 1 : Nat) : Int) - 1 = (k : Int) by omega] at h1
    rw [h1]
    simp only [Bool.and_true, Bool.and_eq_true, Bool.not_eq_true', decide_eq_false_iff_not, decide_eq_true_eq]
    omega
theorem rises_all (n : Nat) : risesB n (-1) (allP n) = true := by
  have := rises_drop n 0 (by omega)
  rwa [List.drop_zero, show ((0 : Nat) : Int) - 1 = -1 by omega] at this
theorem opAt_get {ops : List Oz} {k : Nat} (h : k < ops.length) : opAt ops (k : Int) = ops[k] := by
  unfold opAt
  rw [Int.toNat_natCast, List.getD_eq_getElem?_getD, List.getElem?_eq_getElem h]
  rfl
/-- All ops, none of them torn. -/
theorem keptO_all {ops : List Oz} (hf : ∀ o ∈ ops, formB o = true) {t : Int} (ht : 0 ≤ t) (hd : ∀ o ∈ ops, (o.data.size : Int) ≤ t) : keptO ops t (allP ops.length) = ops := by
  refine List.ext_getElem? fun k => ?_
  by_cases hk : k < ops.length
  · have hk' : k < (allP ops.length).length := by rw [allP_len]; exact hk
    rw [keptO_get _ _ _ _ hk', allP_get hk', opAt_get hk, List.getElem?_eq_getElem hk]
    have hm := List.getElem_mem hk
    split
    · rw [torn_same (hf _ hm) ht (fun h => by have := hd _ hm; omega)]
    · rfl
  · rw [List.getElem?_eq_none (by rw [keptO_len, allP_len]; omega), List.getElem?_eq_none (by omega)]
theorem crash_all {x : Dz} (h : diskB x = true) {t : Int} (ht : 0 ≤ t) (hd : ∀ o ∈ x.ops, (o.data.size : Int) ≤ t) : crashOk x (allP x.ops.length) t = true ∧ crashD x (allP x.ops.length) t = ⟨x.live, x.live, []⟩ := by
  have hk := keptO_all (diskB_form h) ht hd
  have h1 : crashOk x (allP x.ops.length) t = true := by
    unfold crashOk
    rw [hk, diskB_run h, h, rises_all, (diskB_parts h).1, decide_eq_true ht]
    rfl
  refine ⟨h1, ?_⟩
  unfold crashD
  rw [if_pos h1, hk, diskB_run h]
theorem crash_nil {x : Dz} (h : diskB x = true) : crashOk x [] 0 = true ∧ crashD x [] 0 = ⟨x.safe, x.safe, []⟩ := by
  have h1 : crashOk x [] 0 = true := by
    unfold crashOk
    rw [h, show runF x.safe (keptO x.ops 0 []) = x.safe from rfl, (diskB_parts h).2.1]
    rfl
  refine ⟨h1, ?_⟩
  unfold crashD
  rw [if_pos h1]
  rfl
theorem crash_bad {x : Dz} (h : diskB x = false) (keep : List Int) (t : Int) : crashOk x keep t = false ∧ crashD x keep t = ⟨[], [], []⟩ := by
  have h1 : crashOk x keep t = false := by unfold crashOk; rw [h]; rfl
  refine ⟨h1, ?_⟩
  unfold crashD
  rw [h1]
  rfl
theorem data_small {x : Dz} {m : Nat} (h : szL Oz.sz x.ops ≤ m) : ∀ o ∈ x.ops, o.data.size ≤ m := fun o ho => by
  have h1 := szL_mem Oz.sz _ o ho
  have h2 : o.data.size ≤ Oz.sz o := by unfold Oz.sz; omega
  omega
end Go.Proofs.Ytkinegapnknhiaa
namespace Go.Proofs.Ytkinegapnknhiaa
open Go.RowKit
set_option linter.unusedVariables false
set_option linter.unusedSimpArgs false

theorem disk_settled {m : List Fz} (h : filesB m = true) : diskB ⟨m, m, []⟩ = true := by
  unfold diskB
  simp only [Bool.and_eq_true, decide_eq_true_eq]
  exact ⟨⟨⟨h, h⟩, by simp⟩, sameF_iff.2 rfl⟩
theorem disk_nil : diskB ⟨[], [], []⟩ = true := disk_settled (by decide)
/-- A synced disk is right, with no ops, what is safe being what is seen. -/
theorem syncD_right (x : Dz) : diskB (syncD x) = true ∧ (syncD x).ops = [] ∧ (syncD x).safe = (syncD x).live := by
  unfold syncD
  split
  · rename_i h
    exact ⟨disk_settled (diskB_parts h).1, rfl, rfl⟩
  · exact ⟨disk_nil, rfl, rfl⟩
theorem fresh_ne (n : ByteArray) : (freshN n).toList ≠ n.toList := fun e => by
  have h := congrArg ByteArray.size (bytes_ext e)
  have e4 : (⟨#[46, 110, 101, 119]⟩ : ByteArray).size = 4 := rfl
  unfold freshN at h
  rw [ByteArray.size_append, e4] at h
  omega
theorem put_torn {l : List Fz} (hl : filesB l = true) {f d d' : ByteArray} (hf : nameB f = true) (h : filesB (putF l f d) = true) (hd : d'.size ≤ d.size) : filesB (putF l f d') = true := by
  have hs := filesB_sorted hl
  have hb := filesB_bytes h
  have h1 := putF_less hs f d
  have h2 := putF_less hs f d'
  have l1 := putF_len hs f d
  have l2 := putF_len hs f d'
  rw [room_files (putF_sorted hs f d') (fun y hy => by
    rcases putF_mem hy with rfl | ⟨hy, -⟩
    · exact hf
    · exact filesB_name hl hy)]
  unfold roomB
  simp only [Bool.and_eq_true, decide_eq_true_eq]
  rw [l1] at hb
  rw [l2]
  exact ⟨hb.1, by omega⟩
/-- The places that are kept, of the first n. -/
def subP : Nat → List Int → Prop
  | 0, l => l = []
  | k + 1, l => subP k l ∨ ∃ m, subP k m ∧ l = m ++ [(k : Int)]
theorem subP_len : ∀ {k : Nat} {l : List Int}, subP k l → l.length ≤ k
  | 0, l, h => by rw [show l = [] from h]; exact Nat.le_refl _
  | k + 1, l, h => by
    rcases h with h | ⟨m, h, rfl⟩
    · have := subP_len h; omega
    · have := subP_len h; rw [List.length_append, List.length_singleton]; omega
theorem subP_two {l : List Int} (h : subP 2 l) : l = [] ∨ l = [0] ∨ l = [1] ∨ l = [0, 1] := by
  rcases h with h | ⟨m, h, rfl⟩
  · rcases h with h | ⟨m, h, rfl⟩
    · exact .inl h
    · rw [show m = [] from h]; exact .inr (.inl rfl)
  · rcases h with h | ⟨m, h, rfl⟩
    · rw [show m = [] from h]; exact .inr (.inr (.inl rfl))
    · rw [show m = [] from h]; exact .inr (.inr (.inr rfl))
/-- What is read behind a loss of power. -/
def OldNew (x z : Dz) (n d : ByteArray) : Prop := (readK z n = readK x n ∧ readT z n = readT x n) ∨ (readK z n = true ∧ readT z n = d)

theorem replaced {x : Dz} {n d : ByteArray} (hx : diskB x = true) (hops : x.ops = []) (hsafe : x.safe = x.live) (hc : codeR x n d = 0) (hn : readK x (freshN n) = false) :
    ((replD x n d).ops = [⟨1, freshN n, ⟨#[]⟩, d⟩, ⟨2, freshN n, n, ⟨#[]⟩⟩] ∧ (replD x n d).safe = x.live ∧ diskB (replD x n d) = true) ∧ readT (replD x n d) n = d ∧ readK (replD x n d) n = true ∧
      ∀ (keep : List Int) (t : Int), 0 ≤ t → subP 2 keep → crashOk (replD x n d) keep t = true ∧ OldNew x (crashD (replD x n d) keep t) n d := by
  have hfn : findF x.live (freshN n).toList = none := by
    unfold readK at hn
    rw [hx, Bool.true_and] at hn
    cases hf : findF x.live (freshN n).toList with
    | none => rfl
    | some q => rw [hf] at hn; cases hn
  have hop : opsR x.live n d = putO n d := by
    unfold opsR cutO
    rw [hfn]
    rfl
  have hcode : codeR x n d = (seqD (putO n d) x).2 := by unfold codeR; rw [if_pos hx, hop]
  rw [hcode] at hc
  have hc1 : codeD x ⟨1, freshN n, ⟨#[]⟩, d⟩ = 0 := by
    by_cases h : codeD x ⟨1, freshN n, ⟨#[]⟩, d⟩ = 0
    · exact h
    · unfold putO at hc
      rw [seqD_stop h] at hc
      exact hc
  unfold putO at hc
  rw [seqD_step hc1] at hc
  have hc2 : codeD (actD x ⟨1, freshN n, ⟨#[]⟩, d⟩) ⟨2, freshN n, n, ⟨#[]⟩⟩ = 0 := by
    by_cases h : codeD (actD x ⟨1, freshN n, ⟨#[]⟩, d⟩) ⟨2, freshN n, n, ⟨#[]⟩⟩ = 0
    · exact h
    · rw [seqD_stop h] at hc
      exact hc
  have hy : replD x n d = actD (actD x ⟨1, freshN n, ⟨#[]⟩, d⟩) ⟨2, freshN n, n, ⟨#[]⟩⟩ := by
    refine (replD_ok hx ?_).2
    rw [hop]
    unfold putO
    rw [seqD_step hc1, seqD_step hc2]
    rfl
  have hm := actD_done hc1
  have hmd : diskB (actD x ⟨1, freshN n, ⟨#[]⟩, d⟩) = true := by rw [hm]; exact diskB_done hx hc1
  have hyd : diskB (replD x n d) = true := by rw [hy, actD_done hc2]; exact diskB_done hmd hc2
  have hap := done_append hx hc1 rfl
  have hre := done_rename hmd hc2 rfl
  rw [(doD_yes hx).2] at hap
  rw [(doD_yes hmd).2, ← hy] at hre
  dsimp only at hap hre
  have hT : readT (replD x n d) n = d := by
    rw [hre.1, hap.1, (read_none hfn).1]
    exact append_nilB d
  have hyops : (replD x n d).ops = [⟨1, freshN n, ⟨#[]⟩, d⟩, ⟨2, freshN n, n, ⟨#[]⟩⟩] := by
    rw [hy, actD_done hc2, hm, hops]
    rfl
  have hysafe : (replD x n d).safe = x.live := by rw [hy, actD_done hc2, hm]; exact hsafe
  have hf1 := codeD_formed hc1
  have hf2 := codeD_formed hc2
  have hxl := (diskB_parts hx).1
  have ht2 : ∀ t : Int, 0 ≤ t → tornO (⟨2, freshN n, n, ⟨#[]⟩⟩ : Oz) t = ⟨2, freshN n, n, ⟨#[]⟩⟩ := fun t ht => torn_same hf2 ht (fun h => by have := h.1; simp at this)
  have hd1 : ∀ q : ByteArray, doF x.live ⟨1, freshN n, ⟨#[]⟩, q⟩ = (putF x.live (freshN n) q, true) := fun q => by
    rw [doF_app rfl]
    dsimp only
    rw [hfn]
    rfl
  have hd2 : (doF x.live ⟨2, freshN n, n, ⟨#[]⟩⟩).1 = x.live := by
    unfold doF
    rw [if_neg (by simp)]
    dsimp only
    rw [hfn]
  have hput : filesB (putF x.live (freshN n) d) = true := by
    have := codeD_zero hc1
    rwa [hd1] at this
  have hnm : nameB (freshN n) = true := (form_kinds hf1).1
  -- from what is left to what is read
  have key : ∀ (keep : List Int) (t : Int) (m : List Fz), 0 ≤ t → risesB 2 (-1) keep = true → runF x.live (keptO (replD x n d).ops t keep) = m → filesB m = true →
      crashOk (replD x n d) keep t = true ∧ crashD (replD x n d) keep t = ⟨m, m, []⟩ := fun keep t m ht hr hm hfm => by
    have h1 : crashOk (replD x n d) keep t = true := by
      unfold crashOk
      rw [hyd, hysafe, hm, hfm, decide_eq_true ht, show (((replD x n d).ops.length : Nat) : Int) = 2 by rw [hyops]; rfl, hr]
      rfl
    refine ⟨h1, ?_⟩
    unfold crashD
    rw [if_pos h1, hysafe, hm]
  have old : ∀ m : List Fz, filesB m = true → findF m n.toList = findF x.live n.toList → OldNew x ⟨m, m, []⟩ n d := fun m hm hf => by
    refine .inl ⟨?_, ?_⟩
    · unfold readK
      rw [disk_settled hm, hx]
      dsimp only
      rw [hf]
    · unfold readT readL
      rw [disk_settled hm, hx]
      dsimp only
      rw [hf]
  refine ⟨⟨hyops, hysafe, hyd⟩, hT, hre.2.1, fun keep t ht hk => ?_⟩
  rcases subP_two hk with rfl | rfl | rfl | rfl
  · obtain ⟨h1, h2⟩ := key [] t x.live ht rfl rfl hxl
    exact ⟨h1, by rw [h2]; exact old _ hxl rfl⟩
  · have hto : keptO (replD x n d).ops t [0] = [tornO ⟨1, freshN n, ⟨#[]⟩, d⟩ t] := by rw [hyops]; rfl
    have hfm : filesB (putF x.live (freshN n) (tornO ⟨1, freshN n, ⟨#[]⟩, d⟩ t).data) = true := put_torn hxl hnm hput (tornO_size ⟨1, freshN n, ⟨#[]⟩, d⟩ t)
    obtain ⟨h1, h2⟩ := key [0] t (putF x.live (freshN n) (tornO ⟨1, freshN n, ⟨#[]⟩, d⟩ t).data) ht rfl (by rw [hto]; exact congrArg Prod.fst (hd1 (tornO ⟨1, freshN n, ⟨#[]⟩, d⟩ t).data)) hfm
    refine ⟨h1, ?_⟩
    rw [h2]
    exact old _ hfm (by rw [findF_put, if_neg (fresh_ne n)])
  · obtain ⟨h1, h2⟩ := key [1] t x.live ht rfl (by rw [hyops]; show (doF x.live (tornO ⟨2, freshN n, n, ⟨#[]⟩⟩ t)).1 = _; rw [ht2 t ht, hd2]) hxl
    exact ⟨h1, by rw [h2]; exact old _ hxl rfl⟩
  · have hrun : runF x.live (keptO (replD x n d).ops t [0, 1]) = (replD x n d).live := by
      rw [hyops]
      show (doF (doF x.live ⟨1, freshN n, ⟨#[]⟩, d⟩).1 (tornO ⟨2, freshN n, n, ⟨#[]⟩⟩ t)).1 = _
      rw [ht2 t ht, hy, actD_done hc2, hm]
    have hfl := (diskB_parts hyd).1
    obtain ⟨h1, h2⟩ := key [0, 1] t _ ht rfl hrun hfl
    refine ⟨h1, ?_⟩
    rw [h2]
    refine .inr ⟨?_, ?_⟩
    · have h3 := hre.2.1
      unfold readK at h3 ⊢
      rw [disk_settled hfl]
      rw [hyd] at h3
      exact h3
    · have h3 := hT
      unfold readT readL at h3 ⊢
      rw [disk_settled hfl]
      rw [hyd] at h3
      exact h3
end Go.Proofs.Ytkinegapnknhiaa
namespace Go.Proofs.Ytkinegapnknhiaa
open Go.RowKit
set_option linter.unusedVariables false
set_option linter.unusedSimpArgs false

theorem crashD_sz (x : Dz) (keep : List Int) (t : Int) : (crashD x keep t).sz ≤ 1048576 := by
  unfold crashD
  split
  · rename_i h
    have hf : filesB (runF x.safe (keptO x.ops t keep)) = true := by
      unfold crashOk at h
      simp only [Bool.and_eq_true] at h
      exact h.2
    have h1 := szL_files hf
    have h2 : szL Oz.sz ([] : List Oz) = 0 := by simp [szL]
    unfold Dz.sz
    dsimp only
    omega
  · decide
theorem replD_sz {x : Dz} {n d : ByteArray} (hx : diskB x = true) (h : ((replD x n d).ops = [⟨1, freshN n, ⟨#[]⟩, d⟩, ⟨2, freshN n, n, ⟨#[]⟩⟩] ∧ (replD x n d).safe = x.live ∧ diskB (replD x n d) = true)) (hn : n.size ≤ 100) (hd : d.size ≤ 3) : (replD x n d).sz ≤ 1048576 := by
  have h1 := szL_files (diskB_parts h.2.2).1
  have h2 := szL_files (diskB_parts hx).1
  have hf := fresh_size (n := n) (by omega)
  have e4 : (⟨#[46, 110, 101, 119]⟩ : ByteArray).size = 4 := rfl
  have e0 : (⟨#[]⟩ : ByteArray).size = 0 := rfl
  have h3 : szL Oz.sz (replD x n d).ops ≤ 1000 := by
    rw [h.1]
    unfold szL Oz.sz freshN
    simp only [List.length_cons, List.length_nil, List.map_cons, List.map_nil, List.sum_cons, List.sum_nil, ByteArray.size_append, e4, e0]
    omega
  unfold Dz.sz
  rw [h.2.1]
  omega
end Go.Proofs.Ytkinegapnknhiaa
