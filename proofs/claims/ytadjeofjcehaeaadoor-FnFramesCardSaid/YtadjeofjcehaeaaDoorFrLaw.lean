/-
  Frames: the law FnFrames, walked.
-/
import Derived.Test.YtadjeofjcehaeaaDoorFrDraw2
import Derived.Test.YtadjeofjcehaeaaDoorFrFlat
import Derived.Test.YtadjeofjcehaeaaDoorFrameTexts
import Derived.IntWalk
namespace Go.Proofs.YtadjeofjcehaeaaDoor
open Go.RowKit
set_option linter.unusedVariables false
set_option linter.unusedSimpArgs false

set_option maxRecDepth 100000 in
set_option maxHeartbeats 1000000 in
theorem lawsSameTexts (A A' : Option Addr) (n c c' : Nat) (l : List ByteArray) (ok ok' : Nat → Prop) (w : World) (h : Sl StrR 1 ok w A n l) (h' : Sl StrR 1 ok' w A' n l) (hs : l.length ≤ 1048576) :
    Calls Tryd.prog 15 #[.slice A n c, .slice A' n c'] w fun e w' => e = .returned (.bool true) ∧ Below w.heap.size w w' := by
  obtain rfl : l.length = n := h.1
  have hn : l.length ≤ 1048576 := by exact hs
  have HS := Lib.hid hs
  clear hs
  go_enter Tryd.func15, Tryd.ntmps15
  go_wp2
  go_loopw [5] (fun i wr => ∃ k : Nat, k ≤ l.length ∧ i = .int .i64 k ∧ Below w.heap.size w wr) (fun i _ => l.length - (intOf i).toNat)
  case atStart => exact ⟨0, by omega, rfl, Below.refl _ _⟩
  case round =>
    obtain ⟨k, hk, rfl, hb⟩ := hrel
    by_cases hlt : k < l.length
    · obtain ⟨b, off, -, rfl, q0⟩ := StrR.at_ (h.below StrR.stays hb) hlt
      obtain ⟨b', off', -, rfl, r0⟩ := StrR.at_ (h'.below StrR.stays hb) hlt
      have i0 : (0 : Int) ≤ k := by omega
      have i1 : (k : Int) < l.length := by omega
      go_wp2_with fail
      go_region_held3 (fun w' => w'.cell? ⟨b, off + k, none⟩ = some (.string l[k]) ∧ w'.cell? ⟨b', off' + k, none⟩ = some (.string l[k]))
        (go_keep) (fail)
      go_wp2
      go_roundw
      case rel => exact ⟨k + 1, by omega, by go_num, hb.drew⟩
      case measure => simp [intOf]; omega
    · go_wp2
      go_ret
      exact ⟨rfl, hb⟩

theorem Sl.pre {ok : Nat → Prop} {w : World} {A : Option Addr} {n m : Nat} {l : List ByteArray} (h : Sl StrR 1 ok w A n l) (hm : m ≤ n) : Sl StrR 1 ok w A m (l.take m) := by
  refine ⟨by rw [List.length_take, h.1]; omega, fun h0 => ?_⟩
  obtain ⟨b, off, rfl, hob, hcs⟩ := h.2 (by omega)
  refine ⟨b, off, rfl, hob, fun i hi => ?_⟩
  rw [List.length_take] at hi
  obtain ⟨cs, h1, h2, h3⟩ := hcs i (by omega)
  refine ⟨cs, h1, ?_, h3⟩
  rw [List.getElem_take]
  exact h2

theorem flatF_take (ds : List ByteArray) (k : Nat) : (flatF (ds.take k)).length ≤ (flatF ds).length := by
  have h := congrArg List.length (flatF_app (ds.take k) (ds.drop k))
  rw [List.take_append_drop, List.length_append] at h
  omega
theorem flatF_succ {ds : List ByteArray} {k : Nat} (hk : k < ds.length) {x : ByteArray} (hx : bytesL x = flatF (ds.take k)) : bytesL (x ++ frameB ds[k]) = flatF (ds.take (k + 1)) := by
  rw [List.take_succ_eq_append_getElem hk, flatF_app, bytesL_app, hx]
  simp [flatF, fb]

set_option maxRecDepth 100000 in
set_option maxHeartbeats 4000000 in
theorem lawFnFrames (a : Option Addr) (len cap : Nat) (zs : List Int) (w : World) (h : IsRow .u8 w a len cap zs) (ht : TabAt w) :
    Calls Tryd.prog 5 #[.slice a len cap] w fun e w' => e = .returned (.bool true) ∧ Below w.heap.size w w' := by
  by_cases hbig : (1048576 : Int) < len
  · have hbg : decide ((1048576 : Int) < len) = true := by simpa using hbig
    go_enter Tryd.func5, Tryd.ntmps5
    go_wp2_with fail
    refine (lawsBig a len cap w).mono ?_
    rintro e w' ⟨rfl, rfl⟩
    go_wp2
    go_ret
    exact ⟨rfl, Below.refl _ _⟩
  have hbg : decide ((1048576 : Int) < len) = false := by simpa using hbig
  have hlen : len ≤ 1048576 := by omega
  clear hbig
  have HT := Lib.hid ht
  have HR := Lib.hid h
  clear ht h
  go_enter Tryd.func5, Tryd.ntmps5
  go_wp2_with fail
  refine (lawsBig a len cap w).mono ?_
  rintro e w' ⟨rfl, rfl⟩
  go_wp2_with fail
  refine (drawTakeFrames _ _ _ zs _ HR.out).mono ?_
  rintro e w1 ⟨v, rfl, ⟨s, rfl, hs⟩, hb1⟩
  obtain ⟨ds, n, hfs, hn, hfl, hsz, h8, hall, hone, hcut⟩ := frames_facts s
  have HF := Lib.hid hfs
  have HALL := Lib.hid hall
  have HONE := Lib.hid hone
  have HCUT := Lib.hid hcut
  have HFL := Lib.hid hfl
  have HSZ := Lib.hid hsz
  clear hfs hall hone hcut hfl hsz
  have hd : ds.length ≤ 5 := by omega
  go_wp2_with fail
  refine (implTakeFrames s w1 (by omega) (HT.out.below hb1)).mono ?_
  rintro e w2 ⟨⟨A, c, rfl, hc, tl⟩, hb2⟩
  rw [HF.out] at hc tl ⊢
  have hbb2 := hb1.trans (hb2.mono hb1.size)
  go_wp2_with fail
  refine (specTakeFrames s w2 (by omega) (HT.out.below hbb2)).mono ?_
  rintro e w3 ⟨⟨A', c', rfl, hc', tw⟩, hb3⟩
  rw [HF.out] at hc' tw ⊢
  have tl := tl.below StrR.stays hb3
  have hbb3 := hbb2.trans (hb3.mono hbb2.size)
  clear hb1 hb2 hb3 hbb2
  dsimp only at hc hc' tl tw ⊢
  have hin : (n : Int) ≤ (s.size : Int) := by omega
  have hng : decide ((s.size : Int) < (n : Int)) = false := decide_eq_false (by omega)
  have hng2 : decide (s.size < n) = false := decide_eq_false (by omega)
  have hng3 : ¬ s.size < n := by omega
  go_wp2_with fail
  refine (lawsSameTexts _ _ _ _ _ ds _ _ _ tl tw (by omega)).mono ?_
  rintro e w4 ⟨rfl, hb4⟩
  have TL := Lib.hid (tl.below StrR.stays hb4)
  have HB4 := Lib.hid (hbb3.trans (hb4.mono hbb3.size))
  clear tl tw hb4 hbb3 hc'
  go_wp2_with fail
  go_loopw [8, 9] (fun v i wr => ∃ (k : Nat) (x : ByteArray), i = .int .i64 k ∧ v = .string x ∧ k ≤ ds.length ∧ Hid (bytesL x = flatF (ds.take k)) ∧ Below w4.heap.size w4 wr) (fun _ i _ => ds.length - (intOf i).toNat)
  case atStart => exact ⟨0, ⟨#[]⟩, rfl, rfl, by omega, Lib.hid rfl, Below.refl _ _⟩
  case round =>
    obtain ⟨k, x, rfl, rfl, hk, hx, hb⟩ := hrel
    have HBr := Lib.hid (HB4.out.trans (hb.mono HB4.out.size))
    by_cases hlt : k < ds.length
    · obtain ⟨b, off, -, rfl, q0⟩ := StrR.at_ (TL.out.below StrR.stays hb) hlt
      have i0 : (0 : Int) ≤ k := by omega
      have i1 : (k : Int) < ds.length := by omega
      have hx2 := flatF_succ hlt hx.out
      have hsz2 : x.size + (frameB ds[k]).size ≤ 40 := by
        have h1 := flatF_take ds (k + 1)
        rw [← hx2, bytesL_len, ByteArray.size_append, HFL.out] at h1
        omega
      have hdz : ds[k].size ≤ 100000 := HSZ.out _ (List.getElem_mem _)
      have HX2 := Lib.hid hx2
      clear hx hx2
      generalize ds[k] = d at *
      go_wp2_with fail
      refine (implFrameOf d wr (by unfold maxLen; omega) (HT.out.below HBr.out)).mono ?_
      rintro e w5 ⟨rfl, hb5⟩
      have hbz := hb.trans (hb5.mono hb.size)
      generalize frameB d = f at *
      have hc1 : x.size + f.size ≤ 9223372036854775807 := by omega
      go_wp2_with fail
      go_roundw
      case rel => exact ⟨k + 1, x ++ f, by go_num, rfl, by omega, HX2, hbz⟩
      case measure => simp [intOf]; omega
    · obtain rfl : k = ds.length := by omega
      rw [List.take_length] at hx
      have hxn : x.size = n := by rw [← bytesL_len, hx.out, HFL.out]
      have hxe := (HALL.out x hx.out).symm
      have TLr := Lib.hid (TL.out.below StrR.stays hb)
      have HX := Lib.hid hx.out
      clear TL HALL hx hlt
      go_wp2_with fail
      refine (drawFrameOf _ _ _ zs _ (HR.out.below HBr.out)).mono ?_
      rintro e w5 ⟨v, rfl, ⟨t, rfl, ht⟩, hb5⟩
      have hbb5 := HBr.out.trans (hb5.mono HBr.out.size)
      have TL5 := Lib.hid (TLr.out.below StrR.stays hb5)
      have HFS := Lib.hid (frameB_size t (by omega))
      clear TLr hb hb5
      have HC := Lib.hid (fun (w : World) (ht : TabAt w) => implFrameOf t w (by unfold maxLen; omega) ht)
      have hof := HONE.out x t HX.out (by omega)
      obtain ⟨f, hf⟩ : ∃ f, frameB t = f := ⟨_, rfl⟩
      rw [hf] at hof HC HFS
      have HOF := Lib.hid hof
      have hfz : f.size ≤ 16 := by have := HFS.out; omega
      clear hof hf HONE
      have hc1 : x.size + f.size ≤ 9223372036854775807 := by omega
      go_wp2_with fail
      refine (HC.out w5 (HT.out.below hbb5)).mono ?_
      rintro e w6 ⟨rfl, hb6⟩
      have hbb6 := hbb5.trans (hb6.mono hbb5.size)
      have TL6 := Lib.hid (TL5.out.below StrR.stays hb6)
      clear TL5 hb6
      go_wp2_with fail
      refine (implTakeFrames (x ++ f) w6 (by rw [ByteArray.size_append]; omega) (HT.out.below hbb6)).mono ?_
      rintro e w7 ⟨⟨B, cB, rfl, hcB, tb⟩, hb7⟩
      rw [HOF.out] at hcB tb ⊢
      dsimp only at hcB tb ⊢
      rw [List.length_append, List.length_singleton] at hcB tb ⊢
      have hbb7 := hbb6.trans (hb7.mono hbb6.size)
      have TL7 := Lib.hid (TL6.out.below StrR.stays hb7)
      have TB7 := Lib.hid tb
      clear TL6 hb7 tb hbb5 hbb6
      have hxz : (0 : Int) < (x.size : Int) + 1 := by omega
      have hxz2 : ¬ (x.size : Int) + 1 = 0 := by omega
      have hxw : IntKind.i64.wrap ((x.size : Int) + 1) = (x.size : Int) + 1 := by rw [IntKind.wrap_i64]; omega
      obtain ⟨j, hj, hjn⟩ : ∃ j : Nat, (len : Int) % ((n : Int) + 1) = (j : Int) ∧ j ≤ n := ⟨len % (n + 1), by rw [Int.natCast_emod]; rfl, by have := Nat.mod_lt len (show 0 < n + 1 by omega); omega⟩
      have hji : (j : Int) ≤ (n : Int) := by omega
      obtain ⟨m, q, hm, hcut⟩ := HCUT.out x j HX.out (by omega)
      have HCU := Lib.hid hcut
      clear HCUT hcut
      go_wp2_with fail
      refine (implTakeFrames (x.extract 0 j) w7 (by rw [ByteArray.size_extract]; omega) (HT.out.below hbb7)).mono ?_
      rintro e w8 ⟨⟨D, cD, rfl, hcD, td⟩, hb8⟩
      have hml : (ds.take m).length = m := by rw [List.length_take]; omega
      rw [HCU.out] at hcD td ⊢
      dsimp only at hcD td ⊢
      rw [hml] at hcD td ⊢
      have hbb8 := hbb7.trans (hb8.mono hbb7.size)
      have TL8 := Lib.hid (TL7.out.below StrR.stays hb8)
      have tb8 := TB7.out.below StrR.stays hb8
      have TD8 := Lib.hid td
      obtain ⟨b, off, -, rfl, q0⟩ := StrR.at_ tb8 (k := ds.length) (by simp)
      have et : (ds ++ [t])[ds.length]'(by simp) = t := by simp
      rw [et] at q0
      have d1 : (ds.length : Int) < (ds.length : Int) + 1 := by omega
      have d0 : (0 : Int) ≤ (ds.length : Int) := by omega
      have d2 : IntKind.i64.wrap ((ds.length : Int) + 1) = (ds.length : Int) + 1 := by rw [IntKind.wrap_i64]; omega
      have d3 : IntKind.i64.wrap ((n : Int) + (f.size : Int)) = (n : Int) + (f.size : Int) := by rw [IntKind.wrap_i64]; omega
      have d4 : (m : Int) ≤ (ds.length : Int) := by omega
      have hmc : m ≤ c := by omega
      have d5 : (m : Int) ≤ (c : Int) := by omega
      clear TL7 TB7 hb8 td tb8 et hcB hml
      go_wp2_with (first | (go_at_call 7; refine (HC.out w8 (HT.out.below hbb8)).mono ?_; rintro e w9 ⟨rfl, hb9⟩))
      have td9 := TD8.out.below StrR.stays hb9
      have tl9 := (TL8.out.below StrR.stays hb9).pre (show m ≤ ds.length from hm)
      have hbb9 := hbb8.trans (hb9.mono hbb8.size)
      refine (lawsSameTexts _ _ _ _ _ (ds.take m) _ _ _ td9 tl9 (by rw [List.length_take]; omega)).mono ?_
      rintro e w10 ⟨rfl, hb10⟩
      have hbb10 := hbb9.trans (hb10.mono hbb9.size)
      clear td9 tl9 hbb9 hb10 hb9
      go_wp2_with fail
      go_ret
      exact ⟨rfl, hbb10⟩
end Go.Proofs.YtadjeofjcehaeaaDoor
