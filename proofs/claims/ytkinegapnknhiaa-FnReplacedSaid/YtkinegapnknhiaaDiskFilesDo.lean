/-
  An op on a map of files, in the program, and what it is refused for.
-/
import Derived.Test.YtkinegapnknhiaaDiskImplDo
namespace Go.Proofs.Ytkinegapnknhiaa
open Go.RowKit Go.Maps
set_option linter.unusedVariables false
set_option linter.unusedSimpArgs false

/-- What an op is refused for. -/
def codeF (l : List Fz) (o : Oz) : Int := if formB o then (if (doF l o).2 then (if roomB (doF l o).1 then 0 else 4) else 3) else 2
def nextF (l : List Fz) (o : Oz) : List Fz := if formB o then (doF l o).1 else l
theorem form_kinds {o : Oz} (h : formB o = true) : nameB o.name = true ∧ (o.kind = 1 ∨ (o.kind = 2 ∧ nameB o.to = true) ∨ o.kind = 3) := by
  by_cases k1 : o.kind = 1
  · refine ⟨?_, .inl k1⟩
    unfold formB at h; simp only [Bool.and_eq_true] at h; exact h.1
  by_cases k2 : o.kind = 2
  · unfold formB at h
    rw [if_neg k1, if_pos k2] at h
    simp only [Bool.and_eq_true] at h
    exact ⟨h.1, .inr (.inl ⟨k2, h.2.1⟩)⟩
  by_cases k3 : o.kind = 3
  · refine ⟨?_, .inr (.inr k3)⟩
    unfold formB at h; simp only [Bool.and_eq_true] at h; exact h.1
  rw [form_other k1 k2 k3] at h; cases h
theorem nameB_max {s : ByteArray} (h : nameB s = true) : s.size ≤ maxLen := by
  simp only [nameB, Bool.and_eq_true, decide_eq_true_eq] at h
  unfold maxLen; omega
theorem doF_ren2 {l : List Fz} {o : Oz} (h : o.kind = 2) : doF l o = ((findF l o.name.toList).elim l fun d => putF (cutF l o.name.toList) o.to d, (findF l o.name.toList).isSome) := by
  cases hf : findF l o.name.toList with
  | none => rw [doF_none (by omega) hf]; rfl
  | some d => rw [doF_ren h hf]; rfl
theorem doF_rem2 {l : List Fz} {o : Oz} (h : o.kind = 3) : doF l o = (cutF l o.name.toList, (findF l o.name.toList).isSome) := by
  cases hf : findF l o.name.toList with
  | none => rw [doF_none (by omega) hf, cutF_none hf]; rfl
  | some d => rw [doF_rem (by omega) (by omega) hf]; rfl
theorem codeF_form {l : List Fz} {o : Oz} (h : formB o = false) : codeF l o = 2 ∧ nextF l o = l := by unfold codeF nextF; rw [h]; exact ⟨rfl, rfl⟩
theorem codeF_none {l : List Fz} {o : Oz} (h : formB o = true) (hd : (doF l o).2 = false) : codeF l o = 3 := by unfold codeF; rw [h, hd]; rfl
theorem codeF_full {l : List Fz} {o : Oz} (h : formB o = true) (hd : (doF l o).2 = true) (hr : roomB (doF l o).1 = false) : codeF l o = 4 := by unfold codeF; rw [h, hd, hr]; rfl
theorem codeF_ok {l : List Fz} {o : Oz} (h : formB o = true) (hd : (doF l o).2 = true) (hr : roomB (doF l o).1 = true) : codeF l o = 0 := by unfold codeF; rw [h, hd, hr]; rfl

set_option maxRecDepth 100000 in
set_option maxHeartbeats 2000000 in
theorem implFilesDo (base f : Nat) (l : List Fz) (o : Oz) (w : World) (h : FilesAt w base f l) (hs : bytesF l + o.data.size ≤ 268435456) (hl : l.length ≤ 100000) :
    Calls Try.prog 43 #[.map (some f), .agg #[.int .i64 o.kind, .string o.name, .string o.to, .string o.data]] w fun e w' => e = .returned (.int .i64 (codeF l o)) ∧ FilesAt w' base f (nextF l o) ∧ KpB f w w' := by
  have hk0 := KpB.new (Nat.le_of_lt h.lt) (.cells #[.int .i64 o.kind, .string o.name, .string o.to, .string o.data] 36)
  have hz := h.below ((Below.refl w.heap.size w).alloc (Nat.le_refl _) (.cells #[.int .i64 o.kind, .string o.name, .string o.to, .string o.data] 36))
  have HBY := Lib.hid (doF_bytes l o)
  have md1 := mDoApp
  have md2 := mDoRen
  have md3 := mDoRem
  go_enter Try.func43, Try.ntmps43
  go_wp2_with fail
  generalize w.alloc (.cells #[.int .i64 o.kind, .string o.name, .string o.to, .string o.data] 36) = z at *
  refine (implFileOpOf o _).mono ?_
  rintro e w1 ⟨rfl, hb1⟩
  have hk1 := hk0.trans (KpB.below (Nat.le_of_lt hz.lt) hb1)
  have h1 := hz.below hb1
  clear hb1 hz hk0
  cases hfm : formB o
  · obtain ⟨hc, hnx⟩ := codeF_form (l := l) hfm
    have HR := Lib.hid (show FilesAt w1 base f (nextF l o) ∧ KpB f w w1 by rw [hnx]; exact ⟨h1, hk1⟩)
    have HC := Lib.hid hc
    have hop : opR o = .nilIface := by unfold opR; rw [hfm]; rfl
    rw [hop]
    clear h1 hk1 hc hnx hop
    go_wp2
    go_ret
    exact ⟨retI HC.out.symm, HR.out⟩
  obtain ⟨hnm, hkd⟩ := form_kinds hfm
  have hop : opR o = opV o := by unfold opR; rw [hfm]; rfl
  have HNX := Lib.hid (show nextF l o = (doF l o).1 by unfold nextF; rw [hfm]; rfl)
  have HC3 := Lib.hid (codeF_none (l := l) hfm)
  have HC4 := Lib.hid (codeF_full (l := l) hfm)
  have HC0 := Lib.hid (codeF_ok (l := l) hfm)
  rw [hop]
  have HNM := Lib.hid (nameB_max hnm)
  have H1 := Lib.hid h1
  have HK1 := Lib.hid hk1
  clear hop hnm hfm h h1 hk1
  rcases hkd with hk | ⟨hk, hto⟩ | hk
  · have hv : opV o = .iface 130 (.agg #[.string o.name, .string o.data]) := by unfold opV; rw [if_pos hk]
    have HD := Lib.hid (doF_app (l := l) hk)
    rw [hv]
    clear hv hk
    go_wp2_with fail
    refine (doApp base f l o.name o.data _ H1.out HNM.out (by omega) (by omega)).mono ?_
    rintro e w2 ⟨rfl, hfa, hk2⟩
    have hfa2 : FilesAt w2 base f (doF l o).1 := by rw [HD.out]; exact hfa
    have hk2 := HK1.out.trans hk2
    have hb2 : true = (doF l o).2 := by rw [HD.out]
    rw [hb2]
    have HF2 := Lib.hid hfa2
    have HK2 := Lib.hid hk2
    clear hfa hfa2 hk2 hb2 HD
    cases hd : (doF l o).2
    · have HC := Lib.hid (HC3.out hd)
      go_wp2
      go_ret
      exact ⟨retI HC.out.symm, by rw [HNX.out]; exact HF2.out, HK2.out⟩
    · go_wp2_with fail
      refine (implHaveRoom base f (doF l o).1 _ HF2.out (by have := HBY.out; omega) (by have := HBY.out; omega)).mono ?_
      rintro e w3 ⟨rfl, hb3⟩
      have HK3 := Lib.hid (HK2.out.trans (KpB.below (Nat.le_of_lt HF2.out.lt) hb3))
      have HF3 := Lib.hid (HF2.out.below hb3)
      clear hb3
      cases hr : roomB (doF l o).1
      · have HC := Lib.hid (HC4.out hd hr)
        go_wp2
        go_ret
        exact ⟨retI HC.out.symm, by rw [HNX.out]; exact HF3.out, HK3.out⟩
      · have HC := Lib.hid (HC0.out hd hr)
        go_wp2
        go_ret
        exact ⟨retI HC.out.symm, by rw [HNX.out]; exact HF3.out, HK3.out⟩
  · have hv : opV o = .iface 132 (.agg #[.string o.name, .string o.to]) := by unfold opV; rw [if_neg (by omega), if_pos hk]
    have HD := Lib.hid (doF_ren2 (l := l) hk)
    rw [hv]
    have HTO := Lib.hid (nameB_max hto)
    clear hto
    clear hv hk
    go_wp2_with fail
    refine (doRen base f l o.name o.to _ H1.out HNM.out HTO.out (by omega)).mono ?_
    rintro e w2 ⟨rfl, hfa, hk2⟩
    have hfa2 : FilesAt w2 base f (doF l o).1 := by rw [HD.out]; exact hfa
    have hk2 := HK1.out.trans hk2
    have hb2 : (findF l o.name.toList).isSome = (doF l o).2 := by rw [HD.out]
    rw [hb2]
    have HF2 := Lib.hid hfa2
    have HK2 := Lib.hid hk2
    clear hfa hfa2 hk2 hb2 HD
    cases hd : (doF l o).2
    · have HC := Lib.hid (HC3.out hd)
      go_wp2
      go_ret
      exact ⟨retI HC.out.symm, by rw [HNX.out]; exact HF2.out, HK2.out⟩
    · go_wp2_with fail
      refine (implHaveRoom base f (doF l o).1 _ HF2.out (by have := HBY.out; omega) (by have := HBY.out; omega)).mono ?_
      rintro e w3 ⟨rfl, hb3⟩
      have HK3 := Lib.hid (HK2.out.trans (KpB.below (Nat.le_of_lt HF2.out.lt) hb3))
      have HF3 := Lib.hid (HF2.out.below hb3)
      clear hb3
      cases hr : roomB (doF l o).1
      · have HC := Lib.hid (HC4.out hd hr)
        go_wp2
        go_ret
        exact ⟨retI HC.out.symm, by rw [HNX.out]; exact HF3.out, HK3.out⟩
      · have HC := Lib.hid (HC0.out hd hr)
        go_wp2
        go_ret
        exact ⟨retI HC.out.symm, by rw [HNX.out]; exact HF3.out, HK3.out⟩
  · have hv : opV o = .iface 134 (.agg #[.string o.name]) := by unfold opV; rw [if_neg (by omega), if_neg (by omega)]
    have HD := Lib.hid (doF_rem2 (l := l) hk)
    rw [hv]
    clear hv hk
    go_wp2_with fail
    refine (doRem base f l o.name _ H1.out HNM.out).mono ?_
    rintro e w2 ⟨rfl, hfa, hk2⟩
    have hfa2 : FilesAt w2 base f (doF l o).1 := by rw [HD.out]; exact hfa
    have hk2 := HK1.out.trans hk2
    have hb2 : (findF l o.name.toList).isSome = (doF l o).2 := by rw [HD.out]
    rw [hb2]
    have HF2 := Lib.hid hfa2
    have HK2 := Lib.hid hk2
    clear hfa hfa2 hk2 hb2 HD
    cases hd : (doF l o).2
    · have HC := Lib.hid (HC3.out hd)
      go_wp2
      go_ret
      exact ⟨retI HC.out.symm, by rw [HNX.out]; exact HF2.out, HK2.out⟩
    · go_wp2_with fail
      refine (implHaveRoom base f (doF l o).1 _ HF2.out (by have := HBY.out; omega) (by have := HBY.out; omega)).mono ?_
      rintro e w3 ⟨rfl, hb3⟩
      have HK3 := Lib.hid (HK2.out.trans (KpB.below (Nat.le_of_lt HF2.out.lt) hb3))
      have HF3 := Lib.hid (HF2.out.below hb3)
      clear hb3
      cases hr : roomB (doF l o).1
      · have HC := Lib.hid (HC4.out hd hr)
        go_wp2
        go_ret
        exact ⟨retI HC.out.symm, by rw [HNX.out]; exact HF3.out, HK3.out⟩
      · have HC := Lib.hid (HC0.out hd hr)
        go_wp2
        go_ret
        exact ⟨retI HC.out.symm, by rw [HNX.out]; exact HF3.out, HK3.out⟩
end Go.Proofs.Ytkinegapnknhiaa
