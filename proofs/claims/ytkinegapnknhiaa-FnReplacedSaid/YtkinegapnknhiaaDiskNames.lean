/-
  Names of files and lists of files: which are right, in the program and in the model.
-/
import Derived.Test.YtkinegapnknhiaaDiskMath
import Derived.Test.YtkinegapnknhiaaEq
import Derived.Deep.RegionHeld3
namespace Go.Proofs.Ytkinegapnknhiaa
open Go.RowKit
set_option linter.unusedVariables false
set_option linter.unusedSimpArgs false

theorem nameB_no {s : ByteArray} (h : ¬ (1 : Int) ≤ s.size) : nameB s = false := by
  unfold nameB; rw [decide_eq_false (p := 1 ≤ s.size) (by omega), Bool.false_and]
theorem nameB_yes {s : ByteArray} (h : (1 : Int) ≤ s.size) : nameB s = decide ((s.size : Int) ≤ 100) := by
  unfold nameB
  rw [decide_eq_true (p := 1 ≤ s.size) (by omega), Bool.true_and]
  congr 1; exact propext ⟨fun h => by omega, fun h => by omega⟩
theorem implIsFileName (s : ByteArray) (w : World) : Calls Try.prog 78 #[.string s] w fun e w' => e = .returned (.bool (nameB s)) ∧ w' = w := by
  by_cases h : (1 : Int) ≤ s.size
  · have HA := Lib.hid (nameB_yes h)
    go_enter Try.func78, Try.ntmps78
    go_wp2
    go_ret
    exact ⟨retB HA.out.symm, rfl⟩
  · have HA := Lib.hid (nameB_no h)
    have h' : decide ((1 : Int) ≤ s.size) = false := by simpa using h
    go_enter Try.func78, Try.ntmps78
    go_wp2
    go_ret
    exact ⟨retB HA.out.symm, rfl⟩
theorem specName14 (s : ByteArray) (w : World) : Calls Try.prog 82 #[.string s] w fun e w' => e = .returned (.bool (nameB s)) ∧ w' = w := by
  by_cases h : (1 : Int) ≤ s.size
  · have HA := Lib.hid (nameB_yes h)
    go_enter Try.func82, Try.ntmps82
    go_wp2
    go_ret
    exact ⟨retB HA.out.symm, rfl⟩
  · have HA := Lib.hid (nameB_no h)
    have h' : decide ((1 : Int) ≤ s.size) = false := by simpa using h
    go_enter Try.func82, Try.ntmps82
    go_wp2
    go_ret
    exact ⟨retB HA.out.symm, rfl⟩
theorem leq_lt {x y : ByteArray} (h : y.toList < x.toList) : Op.bytesLess x.toList y.toList = false ∧ (x.toList == y.toList) = false := by
  rw [bl_lt]
  refine ⟨by simpa using fun k => lt_irr _ (lt_tr h k), ?_⟩
  simp only [beq_eq_false_iff_ne]
  intro e; rw [e] at h; exact lt_irr _ h
theorem leq_no {x y : ByteArray} (h : ¬ y.toList < x.toList) : Op.bytesLess x.toList y.toList = true ∨ (Op.bytesLess x.toList y.toList = false ∧ (x.toList == y.toList) = true) := by
  rw [bl_lt]
  rcases lt_tot y.toList x.toList with k | k | k
  · exact absurd k h
  · rw [k]; exact .inr ⟨decide_eq_false (lt_irr _), by simp⟩
  · exact .inl (by simp [k])
theorem bytesF_take (l : List Fz) (k : Nat) (h : k < l.length) : bytesF (l.take (k + 1)) = bytesF (l.take k) + l[k].data.size := by
  unfold bytesF
  rw [List.take_succ_eq_append_getElem h, List.map_append, List.sum_append]; simp
theorem bytesF_take_le (l : List Fz) (k : Nat) : bytesF (l.take k) ≤ bytesF l := by
  have h : bytesF l = bytesF (l.take k) + bytesF (l.drop k) := by
    unfold bytesF; rw [← List.sum_append, ← List.map_append, List.take_append_drop]
  omega
theorem filesB_long {l : List Fz} (h : ¬ l.length ≤ 60) : filesB l = false := by unfold filesB; simp [h]
theorem filesB_okN {l : List Fz} (h : l.length ≤ 60) : filesB l = (okN [] l && decide (bytesF l ≤ 200000)) := by unfold filesB; simp [h]

set_option maxRecDepth 100000 in
set_option maxHeartbeats 1000000 in
theorem implFilesOk (A : Option Addr) (n c : Nat) (l : List Fz) (ok : Nat → Prop) (w : World) (h : Sl FzR 2 ok w A n l) (hs : bytesF l ≤ 1073741824) :
    Calls Try.prog 41 #[.slice A n c] w fun e w' => e = .returned (.bool (filesB l)) ∧ Below w.heap.size w w' := by
  obtain rfl : l.length = n := h.1
  by_cases hbig : (60 : Int) < l.length
  · have HF := Lib.hid (filesB_long (l := l) (by omega))
    go_enter Try.func41, Try.ntmps41
    go_wp2
    go_ret
    exact ⟨retB HF.out.symm, Below.refl _ _⟩
  have hbig' : decide ((60 : Int) < l.length) = false := by simpa using hbig
  have HOK := Lib.hid (filesB_okN (l := l) (by omega))
  have HS := Lib.hid hs
  have HL := Lib.hid (show l.length ≤ 60 by omega)
  clear hs
  go_enter Try.func41, Try.ntmps41
  go_wp2
  go_loopw [3, 4, 12] (fun s u i wr => ∃ (k m : Nat) (last : ByteArray), k ≤ l.length ∧ i = .int .i64 k ∧ s = .string last ∧ u = .int .i64 m ∧ Hid (m = bytesF (l.take k)) ∧ Hid (okN [] l = okN last.toList (l.drop k)) ∧ Below w.heap.size w wr) (fun _ _ i _ => l.length - (intOf i).toNat)
  case atStart => exact ⟨0, 0, _, by omega, rfl, rfl, rfl, Lib.hid rfl, Lib.hid (by rw [show (⟨#[]⟩ : ByteArray).toList = [] by simp [ByteArray.toList_eq]]; simp), Below.refl _ _⟩
  case round =>
    obtain ⟨k, m, last, hk, rfl, rfl, rfl, hm, ho, hb⟩ := hrel
    by_cases hlt : k < l.length
    · obtain ⟨b, off, -, rfl, q0, q1⟩ := FzR.at_ (h.below FzR.stays hb) hlt
      have HAT := Lib.hid (okN_at (last := last.toList) hlt)
      have HB := Lib.hid (hb.alloc hb.size (.cells #[.string l[k].name, .string l[k].data] 75))
      have HT := Lib.hid (bytesF_take l k hlt)
      have HTL := Lib.hid (bytesF_take_le l (k + 1))
      have i0 : (0 : Int) ≤ k := by omega
      have i1 : (k : Int) < l.length := by omega
      have m0 : (0 : Int) ≤ (m : Int) + (l[k].data.size : Int) := by omega
      have m1 : (m : Int) + (l[k].data.size : Int) < 4611686018427387904 := by have e1 := hm.out; have e2 := HT.out; have e3 := HTL.out; have e4 := HS.out; omega
      cases hn : nameB l[k].name
      · have HF := Lib.hid (show filesB l = false by rw [HOK.out, ho.out, HAT.out, hn]; rfl)
        have HN := Lib.hid hn
        clear hn
        go_wp2_with fail
        refine (implIsFileName _ _).mono ?_
        rintro e w1 ⟨rfl, rfl⟩
        rw [HN.out]
        go_wp2
        go_ret
        exact ⟨retB HF.out.symm, HB.out⟩
      · by_cases hl : last.toList < l[k].name.toList
        · obtain ⟨x0, x1⟩ := leq_lt hl
          have HO := Lib.hid (show okN [] l = okN l[k].name.toList (l.drop (k + 1)) by
            rw [ho.out, HAT.out, hn]
            have e : decide (last.toList < l[k].nm) = true := decide_eq_true hl
            rw [e]; rfl)
          have HN := Lib.hid hn
          clear hn hl
          go_wp2_with fail
          refine (implIsFileName _ _).mono ?_
          rintro e w1 ⟨rfl, rfl⟩
          rw [HN.out]
          go_wp2
          go_roundw
          case rel => exact ⟨k + 1, m + l[k].data.size, _, by omega, by go_num, rfl, by go_num, Lib.hid (by rw [HT.out, hm.out]), HO, HB.out⟩
          case measure => simp [intOf]; omega
        · have HF := Lib.hid (show filesB l = false by
            rw [HOK.out, ho.out, HAT.out]
            have e : decide (last.toList < l[k].nm) = false := decide_eq_false hl
            rw [e]; simp)
          have HN := Lib.hid hn
          clear hn
          rcases leq_no hl with x0 | ⟨x0, x1⟩
          · clear hl
            go_wp2_with fail
            refine (implIsFileName _ _).mono ?_
            rintro e w1 ⟨rfl, rfl⟩
            rw [HN.out]
            go_wp2
            go_ret
            exact ⟨retB HF.out.symm, HB.out⟩
          · clear hl
            go_wp2_with fail
            refine (implIsFileName _ _).mono ?_
            rintro e w1 ⟨rfl, rfl⟩
            rw [HN.out]
            go_wp2
            go_ret
            exact ⟨retB HF.out.symm, HB.out⟩
    · have e : l.take k = l := List.take_of_length_le (by omega)
      have e2 : l.drop k = [] := List.drop_eq_nil_of_le (by omega)
      have h1 := hm.out
      rw [e] at h1
      have h2 := ho.out
      rw [e2] at h2
      have HA := Lib.hid (show filesB l = decide ((m : Int) ≤ 200000) by rw [HOK.out, h2, ← h1]; simp [okN]; omega)
      clear h1 h2 e e2 hm ho
      go_wp2
      go_ret
      exact ⟨retB HA.out.symm, hb⟩
end Go.Proofs.Ytkinegapnknhiaa
