/-
  Disks in the model: which are right.
-/
import Derived.Test.YtkinegapnknhiaaDiskDo
namespace Go.Proofs.Ytkinegapnknhiaa
open Go.RowKit
set_option linter.unusedVariables false
set_option linter.unusedSimpArgs false

theorem diskB_no {d : Dz} (h : (filesB d.live && filesB d.safe && decide (d.ops.length ≤ 200)) = false) : diskB d = false := by unfold diskB; rw [h, Bool.false_and]
theorem diskB_go {d : Dz} (h1 : filesB d.live = true) (h2 : filesB d.safe = true) (h3 : d.ops.length ≤ 200) : diskB d = match stepsF d.safe d.ops with | some l => sameF l d.live | none => false := by
  unfold diskB; rw [h1, h2, decide_eq_true h3]; rfl
def okS (ok : Nat → Prop) (B : Nat) (w : World) : Nat → Prop := fun b => ok b ∨ okF B w b
theorem steps_cons {l : List Fz} {ops : List Oz} {k : Nat} (h : k < ops.length) {x : Option (List Fz)} (he : x = stepsF l (ops.drop k)) : x = if formB ops[k] && (doF l ops[k]).2 && filesB (doF l ops[k]).1 then stepsF (doF l ops[k]).1 (ops.drop (k + 1)) else none := he.trans (steps_at h)

theorem bytesF_sz (l : List Fz) : bytesF l ≤ szL Fz.sz l := by
  have h : bytesF l ≤ (l.map Fz.sz).sum := by
    unfold bytesF
    induction l with
    | nil => exact Nat.le_refl _
    | cons y r ih => rw [List.map_cons, List.sum_cons, List.map_cons, List.sum_cons]; have : y.data.size ≤ y.sz := by unfold Fz.sz; omega
                     omega
  unfold szL; omega

set_option maxRecDepth 100000 in
set_option maxHeartbeats 4000000 in
theorem specDiskOk (x : Dz) (A0 : Option Addr) (n0 c0 : Nat) (A1 : Option Addr) (n1 c1 : Nat) (A2 : Option Addr) (n2 c2 : Nat) (ok : Nat → Prop) (w : World) (h0 : Sl FzR 2 ok w A0 n0 x.live) (h1 : Sl FzR 2 ok w A1 n1 x.safe) (h2 : Sl OzR 4 ok w A2 n2 x.ops) (hs : x.sz ≤ 1048576) :
    Calls Try.prog 15 #[.agg #[.slice A0 n0 c0, .slice A1 n1 c1, .slice A2 n2 c2]] w fun e w' => e = .returned (.bool (diskB x)) ∧ Below w.heap.size w w' := by
  obtain rfl : x.live.length = n0 := h0.1
  obtain rfl : x.safe.length = n1 := h1.1
  obtain rfl : x.ops.length = n2 := h2.1
  have hfz := bytesF_sz
  have hs' := hs
  unfold Dz.sz at hs'
  have b0 := hfz x.live
  have b1 := hfz x.safe
  have hod : ∀ o ∈ x.ops, o.data.size ≤ 1048576 := fun o ho => by
    have h := szL_mem Oz.sz x.ops o ho
    have : o.data.size ≤ o.sz := by unfold Oz.sz; omega
    omega
  have HOD := Lib.hid hod
  have HB0 := Lib.hid (show bytesF x.live ≤ 1073741824 by omega)
  have HB1 := Lib.hid (show bytesF x.safe ≤ 1073741824 by omega)
  clear hs hs' b0 b1 hod hfz
  have rb := Row.new w 27 #[.slice A0 x.live.length c0, .slice A1 x.safe.length c1, .slice A2 x.ops.length c2]
  have hx := (Below.refl w.heap.size w).alloc (Nat.le_refl _) (.cells #[.slice A0 x.live.length c0, .slice A1 x.safe.length c1, .slice A2 x.ops.length c2] 27)
  go_enter Try.func15, Try.ntmps15
  go_wp2_with fail
  generalize w.alloc (.cells #[.slice A0 x.live.length c0, .slice A1 x.safe.length c1, .slice A2 x.ops.length c2] 27) = z at *
  refine (specFiles14 A0 x.live.length c0 x.live _ _ (h0.below FzR.stays hx) HB0.out).mono ?_
  rintro e w1 ⟨rfl, hq⟩
  have hx := hx.trans (hq.mono hx.size)
  have rb := rb.below hq
  obtain ⟨⟨p0, p1, p2⟩, -⟩ := rb.three
  clear hq
  cases e0 : filesB x.live
  · have HF := Lib.hid (diskB_no (d := x) (by rw [e0]; rfl))
    go_wp2_with fail
    go_ret
    exact ⟨retB HF.out.symm, hx⟩
  have E0 := Lib.hid e0
  clear e0
  go_wp2_with fail
  refine (specFiles14 A1 x.safe.length c1 x.safe _ _ (h1.below FzR.stays hx) HB1.out).mono ?_
  rintro e w2 ⟨rfl, hq⟩
  have hx := hx.trans (hq.mono hx.size)
  have rb := rb.below hq
  clear p0 p1 p2 hq
  obtain ⟨⟨p0, p1, p2⟩, -⟩ := rb.three
  cases e1 : filesB x.safe
  · have HF := Lib.hid (diskB_no (d := x) (by rw [e1]; simp))
    go_wp2_with fail
    go_ret
    exact ⟨retB HF.out.symm, hx⟩
  have E1 := Lib.hid e1
  clear e1
  by_cases hbig : (200 : Int) < x.ops.length
  · have HF := Lib.hid (diskB_no (d := x) (by rw [decide_eq_false (p := x.ops.length ≤ 200) (by omega)]; simp))
    go_wp2_with fail
    go_ret
    exact ⟨retB HF.out.symm, hx⟩
  have hbig' : decide ((200 : Int) < x.ops.length) = false := decide_eq_false hbig
  have HG := Lib.hid (diskB_go E0.out E1.out (by omega))
  have hw2 := hx
  go_wp2_with fail
  go_loopw [3, 4] (fun v iv wr => ∃ (k : Nat) (A : Option Addr) (c : Nat) (l : List Fz), k ≤ x.ops.length ∧ iv = .int .i64 k ∧ v = .slice A l.length c ∧ Hid (Sl FzR 2 (fun _ => True) wr A l.length l) ∧ Hid (filesB l = true) ∧ Hid (stepsF x.safe x.ops = stepsF l (x.ops.drop k)) ∧ Hid (Below w2.heap.size w2 wr)) (fun _ iv _ => x.ops.length - (intOf iv).toNat)
  case atStart => exact ⟨0, A1, c1, x.safe, by omega, rfl, rfl, Lib.hid ((h1.below FzR.stays hx).stays FzR.stays (fun _ _ => trivial) fun _ _ _ h => h), E1, Lib.hid rfl, Lib.hid (Below.refl _ _)⟩
  case round =>
    obtain ⟨k, A, c, l, hk, rfl, rfl, hl, hfl, hst, hb⟩ := hrel
    have hxr := hx.trans (hb.out.mono hx.size)
    have rbr := rb.below hb.out
    clear p0 p1 p2
    obtain ⟨⟨p0, p1, p2⟩, -⟩ := rbr.three
    by_cases hlt : k < x.ops.length
    · obtain ⟨b, off, -, rfl, q0', q1', q2', q3'⟩ := OzR.at_ h2 hlt
      have q0 := below_keep hxr _ _ q0'
      have q1 := below_keep hxr _ _ q1'
      have q2 := below_keep hxr _ _ q2'
      have q3 := below_keep hxr _ _ q3'
      clear q0' q1' q2' q3'
      have i0 : (0 : Int) ≤ k := by omega
      have i1 : (k : Int) < x.ops.length := by omega
      have hbl := filesB_bytes hfl.out
      have hod := HOD.out _ (List.getElem_mem hlt)
      have HST := Lib.hid (steps_cons hlt hst.out)
      have HBY := Lib.hid (doF_bytes l x.ops[k])
      go_wp2_with fail
      refine (specDo14 A l.length c l x.ops[k] _ _ hl.out (by omega) (by omega) (by omega)).mono ?_
      rintro e w3 ⟨v3, rfl, hv3, hb3⟩
      have hb' := hb.out.trans (hb3.mono hb.out.size)
      have rb3 := rbr.below hb3
      obtain ⟨A3, c3, rfl, -, -, hl3⟩ := hv3.sl
      have r0 := (hb3.cell (cell_lt q0)).trans q0
      have r1 := (hb3.cell (cell_lt q1)).trans q1
      have r2 := (hb3.cell (cell_lt q2)).trans q2
      have r3 := (hb3.cell (cell_lt q3)).trans q3
      clear p0 p1 p2 q0 q1 q2 q3 hv3
      obtain ⟨⟨p0, p1, p2⟩, -⟩ := rb3.three
      have HN3 := Lib.hid (show (doF l x.ops[k]).1.length ≤ 1048576 ∧ bytesF (doF l x.ops[k]).1 ≤ 1073741824 by have := HBY.out; omega)
      have HL3 := Lib.hid (hl3.stays FzR.stays (ok' := fun _ => True) (fun _ _ => trivial) fun _ _ _ h => h)
      have HSN := Lib.hid (show (formB x.ops[k] && (doF l x.ops[k]).2 && filesB (doF l x.ops[k]).1) = true → stepsF x.safe x.ops = stepsF (doF l x.ops[k]).1 (x.ops.drop (k + 1)) from fun h => by rw [HST.out, if_pos h])
      have HNO := Lib.hid (show (formB x.ops[k] && (doF l x.ops[k]).2 && filesB (doF l x.ops[k]).1) = false → diskB x = false from fun h => by rw [HG.out, HST.out, if_neg (by rw [h]; simp)])
      clear hl3 HST hl hfl hst HBY
      generalize (doF l x.ops[k]).1 = l3 at *
      cases hd : (doF l x.ops[k]).2
      · have HF := Lib.hid (HNO.out (by rw [hd]; simp))
        go_wp2_with fail
        go_ret
        exact ⟨retB HF.out.symm, hx.trans (hb'.mono hx.size)⟩
      go_wp2_with fail
      refine (specForm14 _ _).mono ?_
      rintro e w4 ⟨rfl, hb4⟩
      have hb'' := hb'.trans (hb4.mono hb'.size)
      have rb4 := rb3.below hb4
      have HL4 := Lib.hid (HL3.out.below FzR.stays hb4)
      clear p0 p1 p2 r0 r1 r2 r3
      obtain ⟨⟨p0, p1, p2⟩, -⟩ := rb4.three
      cases hf : formB x.ops[k]
      · have HF := Lib.hid (HNO.out (by rw [hf]; simp))
        go_wp2_with fail
        go_ret
        exact ⟨retB HF.out.symm, hx.trans (hb''.mono hx.size)⟩
      go_wp2_with fail
      refine (specFiles14 A3 l3.length c3 l3 _ _ HL4.out HN3.out.2).mono ?_
      rintro e w5 ⟨rfl, hb5⟩
      have hb''' := hb''.trans (hb5.mono hb''.size)
      have HL5 := Lib.hid (HL4.out.below FzR.stays hb5)
      clear p0 p1 p2
      cases hg : filesB l3
      · have HF := Lib.hid (HNO.out (by rw [hg]; simp))
        go_wp2_with fail
        go_ret
        exact ⟨retB HF.out.symm, hx.trans (hb'''.mono hx.size)⟩
      have HS := Lib.hid (HSN.out (by rw [hd, hf, hg]; rfl))
      have HG3 := Lib.hid hg
      clear hd hf hg HSN HNO
      go_wp2_with fail
      go_roundw
      case rel => exact ⟨k + 1, A3, c3, l3, by omega, by go_num, rfl, HL5, HG3, HS, Lib.hid hb'''⟩
      case measure => simp [intOf]; omega
    · have h2 : stepsF x.safe x.ops = some l := by rw [hst.out, List.drop_eq_nil_of_le (by omega)]; rfl
      have HR := Lib.hid (show diskB x = sameF l x.live by rw [HG.out, h2])
      have hbl := filesB_bytes hfl.out
      have hbv := filesB_bytes E0.out
      clear h2
      go_wp2_with fail
      refine (specSame14 A A0 l.length c x.live.length c0 l x.live _ _ _ hl.out (h0.below FzR.stays hxr) (by omega) (by omega)).mono ?_
      rintro e w3 ⟨rfl, hb3⟩
      rw [← HR.out]
      have hbe := hxr.trans (hb3.mono hxr.size)
      go_wp2_with fail
      go_ret
      exact ⟨rfl, hbe⟩
end Go.Proofs.Ytkinegapnknhiaa
