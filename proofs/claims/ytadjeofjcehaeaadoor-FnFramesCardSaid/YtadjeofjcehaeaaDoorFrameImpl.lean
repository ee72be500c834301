/-
  Frames: with which frames a text begins, in the program.
-/
import Derived.Test.YtadjeofjcehaeaaDoorFrameTake
import Derived.Test.YtadjeofjcehaeaaDoorFrameTexts
namespace Go.Proofs.YtadjeofjcehaeaaDoor
open Go.RowKit
set_option linter.unusedVariables false
set_option linter.unusedSimpArgs false

theorem TabAt.below {w w' : World} (h : TabAt w) (hb : Below w.heap.size w w') : TabAt w' := fun i hi => (hb.cell (World.block_lt_of_cell? w ⟨0, i, none⟩ (h i hi))).trans (h i hi)
/-- Where the reading of frames stands. -/
def FrAt (s : ByteArray) (k : Nat) (acc : List ByteArray) : Prop := ∃ f, framesB s = framesGo f (bytesL s) k acc ∧ s.size + 1 ≤ f + k ∧ acc.length ≤ k ∧ k ≤ s.size
theorem FrAt.start (s : ByteArray) : FrAt s 0 [] := ⟨s.size + 1, rfl, by omega, by simp, by omega⟩
theorem FrAt.stop {s : ByteArray} {k : Nat} {acc : List ByteArray} (h : FrAt s k acc) (hn : takeL ((bytesL s).drop k) = none) : framesB s = (acc, k) := by
  obtain ⟨f, h1, -⟩ := h
  rw [h1, framesGo_none hn]
theorem FrAt.step {s : ByteArray} {k : Nat} {acc : List ByteArray} (h : FrAt s k acc) {d : ByteArray} (hd : takeL ((bytesL s).drop k) = some (bytesL d)) : FrAt s (k + (8 + d.size)) (acc ++ [d]) := by
  obtain ⟨f, h1, h2, h3, h4⟩ := h
  have hl := takeL_len hd
  rw [List.length_drop, bytesL_len, bytesL_len] at hl
  obtain ⟨f', rfl⟩ : ∃ f', f = f' + 1 := ⟨f - 1, by omega⟩
  have hdd : (⟨(bytesL d).toArray⟩ : ByteArray) = d := bytesL_ext (by simp [bytesL])
  rw [framesGo_some hd, bytesL_len, hdd] at h1
  exact ⟨f', by rw [h1, Nat.add_assoc], by omega, by rw [List.length_append, List.length_singleton]; omega, by omega⟩
/-- What the reader of frames answers. -/
def FramesPost (s : ByteArray) (base : Nat) (e : Ending) (w' : World) : Prop := ∃ (A : Option Addr) (c : Nat), e = .returned (.tuple #[.slice A (framesB s).1.length c, .int .i64 ((framesB s).2 : Nat)]) ∧ (framesB s).1.length ≤ c ∧ Sl StrR 1 (okF base w') w' A (framesB s).1.length (framesB s).1
theorem FrAt.post {s : ByteArray} {k : Nat} {acc : List ByteArray} (h : FrAt s k acc) (hn : takeL ((bytesL s).drop k) = none) {w : World} {base : Nat} {v : Value} (ho : OwnS w base v acc) : FramesPost s base (.returned (.tuple #[v, .int .i64 (k : Nat)])) w := by
  have e := h.stop hn
  obtain ⟨A, c, rfl, h1, -, h2⟩ := ho.sl
  exact ⟨A, c, by rw [e], by rw [e]; exact h1, by rw [e]; exact h2⟩

set_option maxHeartbeats 2000000 in
theorem implTakeFrames (s : ByteArray) (w : World) (hs : s.size ≤ 1048576) (ht : TabAt w) :
    Calls Tryd.prog 9 #[.string s] w fun e w' => FramesPost s w.heap.size e w' ∧ Below w.heap.size w w' := by
  obtain ⟨i0, hi, hz0, hz1, hz2⟩ := info_parts infoStr
  have H1 := Lib.hid hi
  have H2 := Lib.hid hz0
  have H3 := Lib.hid hz1
  have H4 := Lib.hid hz2
  have HT := Lib.hid ht
  clear hi hz0 hz1 hz2 ht
  go_enter Tryd.func9, Tryd.ntmps9
  go_wp2_with fail
  go_loopw [4, 5] (fun v i wr => ∃ (k : Nat) (acc : List ByteArray), i = .int .i64 k ∧ k ≤ s.size ∧ Hid (FrAt s k acc) ∧ Hid (OwnS wr w.heap.size v acc) ∧ Below w.heap.size w wr) (fun _ i _ => s.size + 1 - (intOf i).toNat)
  case atStart => exact ⟨0, [], rfl, by omega, Lib.hid (FrAt.start s), Lib.hid (OwnS.nil _ _), Below.refl _ _⟩
  case round =>
    obtain ⟨k, acc, rfl, hk, hfr, hown, hb⟩ := hrel
    have k0 : (0 : Int) ≤ k := by omega
    have k1 : (k : Int) ≤ s.size := by omega
    obtain ⟨t, ht⟩ : ∃ t, s.extract k s.size = t := ⟨_, rfl⟩
    have et : bytesL t = (bytesL s).drop k := by rw [← ht, bytesL_cut s k s.size (by omega), List.take_of_length_le (by rw [List.length_drop, bytesL_len]; omega)]
    have st : t.size = s.size - k := by rw [← bytesL_len, et, List.length_drop, bytesL_len]
    have hsl : (Instr.slice 9 (.string s) (some (.int .i64 (k : Int))) none none).run Tryd.prog wr = .ok (.string t) wr := by
      rw [run_slice_string_l (P := Tryd.prog) (w := wr) (t := 9) (s := s) Tryd.underlying9 .i64 (k : Int) k0 k1, ← ht]
      rfl
    have HC := Lib.hid (implFirstFramed t wr (by omega) (HT.out.below hb))
    have HX := Lib.hid et
    have hst : k + t.size = s.size := by omega
    clear et ht st
    go_wp2_with fail
    refine HC.out.mono ?_
    rintro e w1 ⟨⟨d, ok, rfl, hq⟩, hb1⟩
    have hbz := hb.trans (hb1.mono hb.size)
    have hoz := Lib.hid (hown.out.below hb1)
    clear hown HC
    cases ok
    · rw [if_neg (by simp), HX.out] at hq
      have HP := Lib.hid (hfr.out.post hq hoz.out)
      clear hq
      go_wp2_with fail
      go_ret2
      exact ⟨HP.out, hbz⟩
    · rw [if_pos rfl, HX.out] at hq
      have HSX := Lib.hid (hfr.out.step hq)
      have hd : k + (8 + d.size) ≤ s.size := by obtain ⟨f, -, -, -, h4⟩ := HSX.out; exact h4
      have hal : acc.length ≤ k := by obtain ⟨f, -, -, h3, -⟩ := hfr.out; exact h3
      clear hq
      go_wp2_with (at_builtin; refine wpList_append_own _ rfl _ _ 24 rfl w.heap.size 9 i0 (.string ⟨#[]⟩) 1 16 Tryd.underlying24 H1.out H2.out H3.out H4.out rfl (by decide) _ _ _ rfl (World.ownsRow.alloc hoz.out _) ⟨w1.heap.size, 0, none⟩ 1 1 [.string d] rfl rfl ?c1 ?c2 ?c3 ?c4 ?c5 ?_)
      case c1 => exact cell_one_new _ _ _
      case c2 => intro u hu; simp at hu; subst hu; rfl
      case c3 => unfold maxLen; omega
      case c4 => omega
      case c5 => have := hbz.size; simp; omega
      intro v' w3 hown3 hgrow _
      have R := Lib.hid (OwnS.app hoz.out hbz.size hown3 hgrow)
      clear hown3 hgrow hoz
      go_wp2_with fail
      go_roundw
      case rel => exact ⟨k + (8 + d.size), acc ++ [d], by go_num, hd, HSX, Lib.hid R.out.1, hbz.trans R.out.2⟩
      case measure => simp [intOf]; omega
end Go.Proofs.YtadjeofjcehaeaaDoor
