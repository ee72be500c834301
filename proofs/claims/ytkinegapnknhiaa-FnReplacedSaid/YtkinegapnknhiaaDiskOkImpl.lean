/-
  Disks in the program: which are right.
-/
import Derived.Test.YtkinegapnknhiaaDiskList
import Derived.Test.YtkinegapnknhiaaDiskEq
import Derived.Test.YtkinegapnknhiaaDiskOkSpec
namespace Go.Proofs.Ytkinegapnknhiaa
open Go.RowKit Go.Maps
set_option linter.unusedVariables false
set_option linter.unusedSimpArgs false

theorem codeF_zero {l : List Fz} {o : Oz} (hl : filesB l = true) : (codeF l o == 0) = (formB o && (doF l o).2 && filesB (doF l o).1) := by
  unfold codeF
  cases hf : formB o
  · rfl
  · rw [doF_room hl hf]
    cases hd : (doF l o).2
    · rfl
    · cases hr : roomB (doF l o).1 <;> rfl
theorem nextF_form {l : List Fz} {o : Oz} (h : (formB o && (doF l o).2 && filesB (doF l o).1) = true) : nextF l o = (doF l o).1 := by
  simp only [Bool.and_eq_true] at h
  unfold nextF; rw [h.1.1]; rfl

set_option maxRecDepth 100000 in
set_option maxHeartbeats 4000000 in
theorem implDiskOk (x : Dz) (A0 : Option Addr) (n0 c0 : Nat) (A1 : Option Addr) (n1 c1 : Nat) (A2 : Option Addr) (n2 c2 : Nat) (ok : Nat → Prop) (w : World) (h0 : Sl FzR 2 ok w A0 n0 x.live) (h1 : Sl FzR 2 ok w A1 n1 x.safe) (h2 : Sl OzR 4 ok w A2 n2 x.ops) (hs : x.sz ≤ 1048576) :
    Calls Try.prog 14 #[.agg #[.slice A0 n0 c0, .slice A1 n1 c1, .slice A2 n2 c2]] w fun e w' => e = .returned (.bool (diskB x)) ∧ Below w.heap.size w w' := by
  obtain rfl : x.live.length = n0 := h0.1
  obtain rfl : x.safe.length = n1 := h1.1
  obtain rfl : x.ops.length = n2 := h2.1
  have hfz := bytesF_sz
  have hs' := hs
  unfold Dz.sz at hs'
  have b0 := hfz x.live
  have b1 := hfz x.safe
  have hod : ∀ o ∈ x.ops, o.data.size ≤ 1048576 := fun o ho => by
    have h := szL_mem Oz.sz x.ops o ho
    have : o.data.size ≤ o.sz := by unfold Oz.sz; omega
    omega
  have HOD := Lib.hid hod
  have HB0 := Lib.hid (show bytesF x.live ≤ 1073741824 by omega)
  have HB1 := Lib.hid (show bytesF x.safe ≤ 1073741824 by omega)
  clear hs hs' b0 b1 hod hfz
  have rb := Row.new w 27 #[.slice A0 x.live.length c0, .slice A1 x.safe.length c1, .slice A2 x.ops.length c2]
  have hx := (Below.refl w.heap.size w).alloc (Nat.le_refl _) (.cells #[.slice A0 x.live.length c0, .slice A1 x.safe.length c1, .slice A2 x.ops.length c2] 27)
  have hwz : w.heap.size < (w.alloc (.cells #[.slice A0 x.live.length c0, .slice A1 x.safe.length c1, .slice A2 x.ops.length c2] 27)).heap.size := by simp
  go_enter Try.func14, Try.ntmps14
  go_wp2_with fail
  generalize w.alloc (.cells #[.slice A0 x.live.length c0, .slice A1 x.safe.length c1, .slice A2 x.ops.length c2] 27) = z at *
  refine (implFilesOk A0 x.live.length c0 x.live _ _ (h0.below FzR.stays hx) HB0.out).mono ?_
  rintro e w1 ⟨rfl, hq⟩
  have hx := hx.trans (hq.mono hx.size)
  have hwz := Nat.lt_of_lt_of_le hwz hq.size
  have rb := rb.below hq
  obtain ⟨⟨p0, p1, p2⟩, -⟩ := rb.three
  clear hq
  cases e0 : filesB x.live
  · have HF := Lib.hid (diskB_no (d := x) (by rw [e0]; rfl))
    go_wp2_with fail
    go_ret
    exact ⟨retB HF.out.symm, hx⟩
  have E0 := Lib.hid e0
  clear e0
  go_wp2_with fail
  refine (implFilesOk A1 x.safe.length c1 x.safe _ _ (h1.below FzR.stays hx) HB1.out).mono ?_
  rintro e w2 ⟨rfl, hq⟩
  have hx := hx.trans (hq.mono hx.size)
  have hwz := Nat.lt_of_lt_of_le hwz hq.size
  have rb := rb.below hq
  clear p0 p1 p2 hq
  obtain ⟨⟨p0, p1, p2⟩, -⟩ := rb.three
  cases e1 : filesB x.safe
  · have HF := Lib.hid (diskB_no (d := x) (by rw [e1]; simp))
    go_wp2_with fail
    go_ret
    exact ⟨retB HF.out.symm, hx⟩
  have E1 := Lib.hid e1
  clear e1
  by_cases hbig : (200 : Int) < x.ops.length
  · have HF := Lib.hid (diskB_no (d := x) (by rw [decide_eq_false (p := x.ops.length ≤ 200) (by omega)]; simp))
    go_wp2_with fail
    go_ret
    exact ⟨retB HF.out.symm, hx⟩
  have hbig' : decide ((200 : Int) < x.ops.length) = false := decide_eq_false hbig
  have HG := Lib.hid (diskB_go E0.out E1.out (by omega))
  go_wp2_with fail
  refine (implFilesOf A1 x.safe.length c1 x.safe _ _ (h1.below FzR.stays hx) E1.out).mono ?_
  rintro e w3 ⟨rfl, hf3, hq⟩
  have hx := hx.trans (hq.mono hx.size)
  have rb := rb.below hq
  clear p0 p1 p2
  obtain ⟨⟨p0, p1, p2⟩, -⟩ := rb.three
  have hf23 : w2.heap.size ≤ w3.heap.size := hq.size
  clear hq
  generalize w2.heap.size = f at *
  have hxf : Below w.heap.size w w3 := hx
  go_wp2_with fail
  go_loopw [28] (fun iv wr => ∃ (k : Nat) (l : List Fz), k ≤ x.ops.length ∧ iv = .int .i64 k ∧ Hid (FilesAt wr (f + 1) f l) ∧ Hid (filesB l = true) ∧ Hid (stepsF x.safe x.ops = stepsF l (x.ops.drop k)) ∧ Hid (Below f w3 wr)) (fun iv _ => x.ops.length - (intOf iv).toNat)
  case atStart => exact ⟨0, x.safe, by omega, rfl, Lib.hid hf3, E1, Lib.hid rfl, Lib.hid (Below.refl _ _)⟩
  case round =>
    clear hf3
    obtain ⟨k, l, hk, rfl, hfa, hfl, hst, hb⟩ := hrel
    have hxr : Below w.heap.size w wr := hxf.trans (hb.out.mono (by omega))
    have r0 : wr.cell? ⟨w.heap.size, 0, none⟩ = some (.slice A0 x.live.length c0) := (World.cell?_of_block (w := w3) (hb.out.block _ hwz)).trans p0
    clear p0 p1 p2
    by_cases hlt : k < x.ops.length
    · obtain ⟨b, off, -, rfl, q0', q1', q2', q3'⟩ := OzR.at_ h2 hlt
      have q0 := below_keep hxr _ _ q0'
      have q1 := below_keep hxr _ _ q1'
      have q2 := below_keep hxr _ _ q2'
      have q3 := below_keep hxr _ _ q3'
      clear q0' q1' q2' q3'
      have i0 : (0 : Int) ≤ k := by omega
      have i1 : (k : Int) < x.ops.length := by omega
      have hbl := filesB_bytes hfl.out
      have hod := HOD.out _ (List.getElem_mem hlt)
      have HST := Lib.hid (steps_cons hlt hst.out)
      have HZ := Lib.hid (codeF_zero (o := x.ops[k]) hfl.out)
      have HNX := Lib.hid (nextF_form (l := l) (o := x.ops[k]))
      have hfb := hfa.out.below ((Below.refl wr.heap.size wr).alloc (Nat.le_refl _) (.cells #[.int .i64 x.ops[k].kind, .string x.ops[k].name, .string x.ops[k].to, .string x.ops[k].data] 36))
      have hba := hb.out.alloc (Nat.le_of_lt hfa.out.lt) (.cells #[.int .i64 x.ops[k].kind, .string x.ops[k].name, .string x.ops[k].to, .string x.ops[k].data] 36)
      have HFB := Lib.hid hfb
      have HBA := Lib.hid hba
      clear hfa hst hb hfb hba
      go_wp2_with fail
      refine (implFilesDo (f + 1) f l x.ops[k] _ HFB.out (by omega) (by omega)).mono ?_
      rintro e w4 ⟨rfl, hfa4, hk4⟩
      have HF4 := Lib.hid hfa4
      have HB4 := Lib.hid (HBA.out.trans hk4.low)
      clear hfa4 hk4
      cases hz : (formB x.ops[k] && (doF l x.ops[k]).2 && filesB (doF l x.ops[k]).1)
      · have hc0 : (codeF l x.ops[k] == 0) = false := by rw [HZ.out, hz]
        have hc1 : (codeF l x.ops[k] != 0) = true := by rw [bne, hc0]; rfl
        have HF := Lib.hid (show diskB x = false by rw [HG.out, HST.out, if_neg (by rw [hz]; simp)])
        have hbe := hxf.trans (HB4.out.mono (show w.heap.size ≤ f by omega))
        clear hz
        go_wp2
        go_ret
        exact ⟨retB HF.out.symm, hbe⟩
      · have hc0 : (codeF l x.ops[k] == 0) = true := by rw [HZ.out, hz]
        have hc1 : (codeF l x.ops[k] != 0) = false := by rw [bne, hc0]; rfl
        have HS := Lib.hid (show stepsF x.safe x.ops = stepsF (nextF l x.ops[k]) (x.ops.drop (k + 1)) by rw [HST.out, if_pos hz, HNX.out hz])
        have HG4 := Lib.hid (show filesB (nextF l x.ops[k]) = true by rw [HNX.out hz]; simp only [Bool.and_eq_true] at hz; exact hz.2)
        clear hz
        go_wp2
        go_roundw
        case rel => exact ⟨k + 1, nextF l x.ops[k], by omega, by go_num, HF4, HG4, HS, HB4⟩
        case measure => simp [intOf]; omega
    · have h2' : stepsF x.safe x.ops = some l := by rw [hst.out, List.drop_eq_nil_of_le (by omega)]; rfl
      have HR := Lib.hid (show diskB x = sameF l x.live by rw [HG.out, h2'])
      have hbl := filesB_bytes hfl.out
      have hbv := filesB_bytes E0.out
      clear h2'
      go_wp2_with fail
      go_region_held3 (fun w' => w'.cell? ⟨w.heap.size, 0, none⟩ = some (.slice A0 x.live.length c0))
        (first | go_keep | exact (hb5.cell (cell_lt (by assumption))).trans (by assumption) | exact (hb6.cell (cell_lt (by assumption))).trans (by assumption))
        (first | (go_at_call 45; refine (implList (f + 1) f l _ hfa.out.drew (by omega)).mono ?_; rintro e w5 ⟨⟨v, rfl, hv⟩, hb5⟩; obtain ⟨AL, cL, rfl, -, -, hl5⟩ := hv.sl) | (go_at_call 44; refine (implSameFiles AL A0 l.length cL x.live.length c0 l x.live _ _ _ hl5 (h0.below FzR.stays (hxr.drew.trans (hb5.mono hxr.size))) (by omega) (by omega)).mono ?_; rintro e w6 ⟨rfl, hb6⟩; rw [← HR.out]))
      have hbe := (hxr.drew).trans (hb5.mono hxr.size)
      have hbf := hbe.trans (hb6.mono hbe.size)
      go_wp2
      go_ret
      exact ⟨rfl, hbf⟩
end Go.Proofs.Ytkinegapnknhiaa
