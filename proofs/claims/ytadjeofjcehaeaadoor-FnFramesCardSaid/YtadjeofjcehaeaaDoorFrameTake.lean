/-
  Frames: the program's reader of one frame.
-/
import Derived.Test.YtadjeofjcehaeaaDoorFrameMath
import Derived.Deep.QuietTactic
import Derived.BigQuiet
namespace Go.Proofs.YtadjeofjcehaeaaDoor
open Go.RowKit
set_option linter.unusedVariables false
set_option linter.unusedSimpArgs false

theorem toList_bytes (s : ByteArray) : s.toList = bytesL s := ByteArray.toList_eq s

theorem hasPrefixLite (s p : ByteArray) (w : World) (hs : s.size ≤ maxLen) (hp : p.size ≤ s.size) (b : Bool) (hb : ((s.extract 0 p.size).toList == p.toList) = b) :
    Calls Tryd.prog 28 #[.string s, .string p] w fun e w' => e = .returned (.bool b) ∧ Below w.heap.size w w' := by
  unfold maxLen at hs
  have HB := Lib.hid (Below.refl w.heap.size w)
  have hi : (p.size : Int) ≤ (s.size : Int) := by omega
  subst hb
  go_enter Tryd.func28, Tryd.ntmps28
  go_wp2
  go_ret
  exact ⟨rfl, HB.out⟩

theorem hasPrefix (s p : ByteArray) (w : World) (hs : s.size ≤ maxLen) (hp : p.size ≤ s.size) (b : Bool) (hb : ((s.extract 0 p.size).toList == p.toList) = b) :
    Calls Tryd.prog 26 #[.string s, .string p] w fun e w' => e = .returned (.bool b) ∧ Below w.heap.size w w' := by
  have HC := Lib.hid (hasPrefixLite s p w hs hp b hb)
  clear hb
  go_enter Tryd.func26, Tryd.ntmps26
  go_wp2_with (go_at_call 28; refine HC.out.mono ?_; rintro e w1 ⟨rfl, hb⟩)
  go_ret
  exact ⟨rfl, hb⟩

theorem below_dq {B : Nat} {w w' : World} (h : Below B w w') (m : Nat) : Below B w (w'.drewN m) := ⟨h.os, h.tape, h.output, h.size, h.block⟩
/-- What the reader of one frame answers: the data, and whether they count. -/
def FirstPost (s : ByteArray) (e : Ending) : Prop := ∃ (d : ByteArray) (ok : Bool), e = .returned (.tuple #[.string d, .bool ok]) ∧ (if ok then takeL (bytesL s) = some (bytesL d) else takeL (bytesL s) = none)
theorem first_none {s : ByteArray} (d : ByteArray) (h : takeL (bytesL s) = none) : FirstPost s (.returned (.tuple #[.string d, .bool false])) := ⟨d, false, rfl, h⟩

set_option maxHeartbeats 2000000 in
theorem implFirstFramed (s : ByteArray) (w : World) (hs : s.size ≤ 1048576) (ht : TabAt w) :
    Calls Tryd.prog 19 #[.string s] w fun e w' => FirstPost s e ∧ Below w.heap.size w w' := by
  have HB := Lib.hid (Below.refl w.heap.size w)
  have HL := Lib.hid (bytesL_len s)
  by_cases h8 : 8 ≤ s.size
  · have hi8 : decide ((s.size : Int) < 8) = false := decide_eq_false (by omega)
    have x0 : s[0].toNat < 256 := s[0].toNat_lt
    have x1 : s[1].toNat < 256 := s[1].toNat_lt
    have x2 : s[2].toNat < 256 := s[2].toNat_lt
    have x3 : s[3].toNat < 256 := s[3].toNat_lt
    have HN := Lib.hid (show numL ((bytesL s).take 4) = s[0].toNat * 16777216 + s[1].toNat * 65536 + s[2].toNat * 256 + s[3].toNat by
      rw [← numL_four]
      congr 1
      apply List.ext_getElem
      · rw [List.length_take, bytesL_len]; simp; omega
      · intro i h1 h2
        rw [List.getElem_take]
        rcases i with _|_|_|_|i
        all_goals first | (simp [bytesL, ByteArray.getElem_eq_getElem_data]; done) | (simp at h2; omega))
    have o1 : bits .or .i64 ((s[0].toNat : Int) * 16777216) ((s[1].toNat : Int) * 65536) = ((s[0].toNat * 16777216 + s[1].toNat * 65536 : Nat) : Int) := bits_or_i64 24 (by omega) (s[0].toNat * 16777216) (s[1].toNat * 65536) (by omega) (by omega) (by omega) (by omega)
    obtain ⟨n1, hn1⟩ : ∃ n1, s[0].toNat * 16777216 + s[1].toNat * 65536 = n1 := ⟨_, rfl⟩
    rw [hn1] at o1 HN
    have o2 : bits .or .i64 (n1 : Int) ((s[2].toNat : Int) * 256) = ((n1 + s[2].toNat * 256 : Nat) : Int) := bits_or_i64 16 (by omega) n1 (s[2].toNat * 256) (by omega) (by omega) (by omega) (by omega)
    obtain ⟨n2, hn2⟩ : ∃ n2, n1 + s[2].toNat * 256 = n2 := ⟨_, rfl⟩
    rw [hn2] at o2 HN
    have o3 : bits .or .i64 (n2 : Int) (s[3].toNat : Int) = ((n2 + s[3].toNat : Nat) : Int) := bits_or_i64 8 (by omega) n2 (s[3].toNat) (by omega) (by omega) (by omega) (by omega)
    obtain ⟨n, hn⟩ : ∃ n, n2 + s[3].toNat = n := ⟨_, rfl⟩
    rw [hn] at o3 HN
    have z0 : IntKind.i64.wrap ((s[0].toNat : Int) * 16777216) = (s[0].toNat : Int) * 16777216 := by rw [IntKind.wrap_i64]; omega
    have z1 : IntKind.i64.wrap ((s[1].toNat : Int) * 65536) = (s[1].toNat : Int) * 65536 := by rw [IntKind.wrap_i64]; omega
    have z2 : IntKind.i64.wrap ((s[2].toNat : Int) * 256) = (s[2].toNat : Int) * 256 := by rw [IntKind.wrap_i64]; omega
    have l0 : 0 < s.size := by omega
    have l1 : 1 < s.size := by omega
    have l2 : 2 < s.size := by omega
    have l3 : 3 < s.size := by omega
    have m1 : (1 : Int) < s.size := by omega
    have m2 : (2 : Int) < s.size := by omega
    have m3 : (3 : Int) < s.size := by omega
    have v0 : IntKind.i64.wrap (s[0].toNat : Int) = s[0].toNat := by rw [IntKind.wrap_i64]; omega
    have v1 : IntKind.i64.wrap (s[1].toNat : Int) = s[1].toNat := by rw [IntKind.wrap_i64]; omega
    have v2 : IntKind.i64.wrap (s[2].toNat : Int) = s[2].toNat := by rw [IntKind.wrap_i64]; omega
    have v3 : IntKind.i64.wrap (s[3].toNat : Int) = s[3].toNat := by rw [IntKind.wrap_i64]; omega
    clear hn hn1 hn2
    go_enter Tryd.func19, Tryd.ntmps19
    go_wp2_with fail
    go_quiet (fail)
    have HB1 := Lib.hid (show Below w.heap.size w (w.drewN nq) from below_dq (Below.refl _ w) nq)
    have HT1 := Lib.hid (show TabAt (w.drewN nq) from fun i hi => (HB1.out.cell (World.block_lt_of_cell? w ⟨0, i, none⟩ (ht i hi))).trans (ht i hi))
    generalize w.drewN nq = w1 at *
    clear o1 o2 o3 z0 z1 z2 v0 v1 v2 v3 hi8 ht
    by_cases hA : n ≤ 100000
    · have gA : decide ((100000 : Int) < (n : Int)) = false := decide_eq_false (by omega)
      by_cases hC : n + 8 ≤ s.size
      · have gC : decide ((s.size : Int) - 8 < (n : Int)) = false := decide_eq_false (by omega)
        obtain ⟨d, hd⟩ : ∃ d, s.extract 8 (8 + n) = d := ⟨_, rfl⟩
        have ed : bytesL d = ((bytesL s).drop 8).take n := by rw [← hd, bytesL_cut s 8 (8 + n) (by omega)]; congr 1; omega
        have sd : d.size = n := by rw [← bytesL_len, ed, List.length_take, List.length_drop, bytesL_len]; omega
        have HF := Lib.hid (implFrameOf d w1 (by unfold maxLen; omega) HT1.out)
        have sf : (frameB d).size = 8 + n := by unfold frameB; rw [if_pos (by omega), ByteArray.size_append, ByteArray.size_append, sd]; rfl
        have hsl : (Instr.slice 9 (.string s) (some (.int .i64 8)) (some (.int .i64 (8 + (n : Int)))) none).run Tryd.prog w1 = .ok (.string d) w1 := by
          rw [run_slice_string (P := Tryd.prog) (w := w1) 9 s .i64 .i64 8 (8 + (n : Int)) Tryd.underlying9 (by omega) (by omega) (by omega), ← hd]
          congr 3
        obtain ⟨b, hb⟩ : ∃ b, ((s.extract 0 (frameB d).size).toList == (frameB d).toList) = b := ⟨_, rfl⟩
        have HP := Lib.hid (fun w2 => hasPrefix s (frameB d) w2 (by unfold maxLen; omega) (by omega) b hb)
        have HF2 := Lib.hid (show if b then takeL (bytesL s) = some (bytesL d) else takeL (bytesL s) = none by
          have hp := prefix_frame (l := bytesL s) (by rw [HL.out]; omega) (by rw [HN.out]; omega) (by rw [HN.out, HL.out]; omega)
          rw [HN.out, ← ed] at hp
          have hdd : (⟨(bytesL d).toArray⟩ : ByteArray) = d := bytesL_ext (by simp [bytesL])
          rw [hdd] at hp
          have hx : bytesL (s.extract 0 (8 + n)) = (bytesL s).take (8 + n) := by rw [bytesL_cut s 0 (8 + n) (by omega), List.drop_zero, Nat.sub_zero]
          have hh : (b = true) ↔ (bytesL s).take (8 + n) = bytesL (frameB d) := by
            rw [← hb, sf, beq_iff_eq, toList_bytes, toList_bytes, hx]
          unfold takeL
          rw [HN.out, ← ed]
          cases b
          · rw [if_neg (by simp)]
            rw [if_neg]
            rintro ⟨-, -, -, h⟩
            exact absurd (hh.2 (hp.2 h)) (by simp)
          · rw [if_pos rfl]
            rw [if_pos ⟨by rw [HL.out]; omega, by omega, by rw [HL.out]; omega, hp.1 (hh.1 rfl)⟩])
        clear hd ed sd sf hb
        go_wp2_with (first | (go_at_call 7; refine HF.out.mono ?_; rintro e w2 ⟨rfl, hb2⟩) | (go_at_call 26; refine (HP.out w2).mono ?_; rintro e w3 ⟨rfl, hb3⟩))
        go_ret2
        exact ⟨⟨d, b, rfl, HF2.out⟩, (HB1.out.trans (hb2.mono HB1.out.size)).trans (hb3.mono (by have := HB1.out.size; have := hb2.size; omega))⟩
      · have gC : (s.size : Int) - 8 < (n : Int) := by omega
        have HF := Lib.hid (show takeL (bytesL s) = none by unfold takeL; rw [HN.out, if_neg (by rw [HL.out]; omega)])
        go_wp2
        go_ret2
        exact ⟨first_none _ HF.out, HB1.out⟩
    · have gA : (100000 : Int) < (n : Int) := by omega
      have HF := Lib.hid (show takeL (bytesL s) = none by unfold takeL; rw [HN.out, if_neg (by omega)])
      go_wp2
      go_ret2
      exact ⟨first_none _ HF.out, HB1.out⟩
  · have hi8 : (s.size : Int) < 8 := by omega
    have HF := Lib.hid (show takeL (bytesL s) = none by unfold takeL; rw [if_neg (by rw [HL.out]; omega)])
    go_enter Tryd.func19, Tryd.ntmps19
    go_wp2
    go_ret2
    exact ⟨first_none _ HF.out, HB.out⟩
end Go.Proofs.YtadjeofjcehaeaaDoor
