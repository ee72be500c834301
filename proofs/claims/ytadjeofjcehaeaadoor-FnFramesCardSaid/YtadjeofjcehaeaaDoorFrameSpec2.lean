/-
  Frames: with which frames a text begins, in the model.
-/
import Derived.Test.YtadjeofjcehaeaaDoorFrameImpl
import Derived.Deep.RegionWith
namespace Go.Proofs.YtadjeofjcehaeaaDoor
open Go.RowKit
set_option linter.unusedVariables false
set_option linter.unusedSimpArgs false

theorem numL_snoc (l : List UInt8) (x : UInt8) : numL (l ++ [x]) = 256 * numL l + x.toNat := by simp [numL]
theorem numL_lt (l : List UInt8) : numL l < 256 ^ l.length := by
  have h : ∀ (l : List UInt8) (n : Nat), n * 256 ^ l.length ≤ l.foldl (fun n x => 256 * n + x.toNat) n ∧ l.foldl (fun n x => 256 * n + x.toNat) n < (n + 1) * 256 ^ l.length := by
    intro l
    induction l with
    | nil => intro n; simp
    | cons x l ih =>
      intro n
      have hx := x.toNat_lt
      obtain ⟨h1, h2⟩ := ih (256 * n + x.toNat)
      rw [List.foldl_cons, List.length_cons, Nat.pow_succ]
      constructor
      · refine Nat.le_trans ?_ h1
        rw [Nat.mul_comm (256 ^ l.length), ← Nat.mul_assoc]
        exact Nat.mul_le_mul_right _ (by omega)
      · refine Nat.lt_of_lt_of_le h2 ?_
        rw [Nat.mul_comm (256 ^ l.length), ← Nat.mul_assoc]
        exact Nat.mul_le_mul_right _ (by omega)
  have := (h l 0).2
  simpa [numL] using this

set_option maxHeartbeats 4000000 in
theorem specTakeFrames (s : ByteArray) (w : World) (hs : s.size ≤ 1048576) (ht : TabAt w) :
    Calls Tryd.prog 8 #[.string s] w fun e w' => FramesPost s w.heap.size e w' ∧ Below w.heap.size w w' := by
  obtain ⟨i0, hi, hz0, hz1, hz2⟩ := info_parts infoStr
  have H1 := Lib.hid hi
  have H2 := Lib.hid hz0
  have H3 := Lib.hid hz1
  have H4 := Lib.hid hz2
  have HL := Lib.hid (bytesL_len s)
  have HO := Lib.hid (OwnS.lit w (base := w.heap.size) (Nat.le_refl _))
  have HB := Lib.hid ((Below.refl w.heap.size w).alloc (Nat.le_refl _) (.cells #[] 9))
  have HT := Lib.hid ht
  clear hi hz0 hz1 hz2 ht
  go_enter Tryd.func8, Tryd.ntmps8
  go_wp2_with fail
  go_loopw [4, 5] (fun v i wr => ∃ (k : Nat) (acc : List ByteArray), i = .int .i64 k ∧ k ≤ s.size ∧ Hid (FrAt s k acc) ∧ Hid (OwnS wr w.heap.size v acc) ∧ Below w.heap.size w wr) (fun _ i _ => s.size + 1 - (intOf i).toNat)
  case atStart => exact ⟨0, [], rfl, by omega, Lib.hid (FrAt.start s), Lib.hid HO.out, HB.out⟩
  case round =>
    obtain ⟨k, acc, rfl, hk, hfr, hown, hb⟩ := hrel
    have k0 : (0 : Int) ≤ k := by omega
    by_cases h8 : k + 8 ≤ s.size
    · have g8 : (k : Int) + 8 ≤ s.size := by omega
      have HD := Lib.hid (show ((bytesL s).drop k).length = s.size - k by rw [List.length_drop, bytesL_len])
      go_wp2_with fail
      go_loop [6, 7] (fun n i => ∃ j : Nat, j ≤ 4 ∧ i = .int .i64 j ∧ n = .int .i64 (numL (((bytesL s).drop k).take j) : Nat)) (fun _ i => 4 - (intOf i).toNat)
      case atStart => exact ⟨0, by omega, rfl, rfl⟩
      case round =>
        obtain ⟨j, hj, rfl, rfl⟩ := hrel
        by_cases h4 : j < 4
        · have hjs : k + j < s.size := by omega
          have hji : (k : Int) + j < s.size := by omega
          have HN := Lib.hid (show numL (((bytesL s).drop k).take (j + 1)) = 256 * numL (((bytesL s).drop k).take j) + s[k + j].toNat by
            rw [List.take_succ_eq_append_getElem (by rw [HD.out]; omega), numL_snoc]
            congr 2
            rw [List.getElem_drop]
            simp [bytesL, ByteArray.getElem_eq_getElem_data])
          have hlt : numL (((bytesL s).drop k).take j) < 16777216 := by
            have h1 := numL_lt (((bytesL s).drop k).take j)
            have h2 : (((bytesL s).drop k).take j).length ≤ 3 := by rw [List.length_take]; omega
            have h3 := Nat.pow_le_pow_right (n := 256) (by omega) h2
            omega
          have hx : s[k + j].toNat < 256 := s[k + j].toNat_lt
          generalize numL (((bytesL s).drop k).take j) = m at *
          go_wp2
          go_round
          case rel => exact ⟨j + 1, by omega, by go_num, by rw [HN.out]; go_num⟩
          case measure => simp [intOf]; omega
        · obtain rfl : j = 4 := by omega
          obtain ⟨n, hn⟩ : ∃ n, numL (((bytesL s).drop k).take 4) = n := ⟨_, rfl⟩
          rw [hn]
          have HN := Lib.hid hn
          clear hn
          by_cases hA : n ≤ 100000
          · have gA : decide ((100000 : Int) < (n : Int)) = false := decide_eq_false (by omega)
            by_cases hC : k + 8 + n ≤ s.size
            · have gC : decide ((s.size : Int) < (k : Int) + 8 + (n : Int)) = false := decide_eq_false (by omega)
              obtain ⟨d, hd⟩ : ∃ d, s.extract (k + 8) (k + 8 + n) = d := ⟨_, rfl⟩
              obtain ⟨c, hc⟩ : ∃ c, s.extract (k + 4) (k + 8) = c := ⟨_, rfl⟩
              have ed : bytesL d = (((bytesL s).drop k).drop 8).take n := by rw [← hd, bytesL_cut s _ _ (by omega), List.drop_drop]; congr 1; omega
              have ec : bytesL c = (((bytesL s).drop k).drop 4).take 4 := by rw [← hc, bytesL_cut s _ _ (by omega), List.drop_drop]; congr 1; omega
              have sd : d.size = n := by rw [← bytesL_len, ed, List.length_take, List.length_drop, List.length_drop, bytesL_len]; omega
              have hs1 : ∀ W : World, (Instr.slice 9 (.string s) (some (.int .i64 ((k : Int) + 8))) (some (.int .i64 ((k : Int) + 8 + (n : Int)))) none).run Tryd.prog W = .ok (.string d) W := fun W => by
                rw [run_slice_string (P := Tryd.prog) (w := W) 9 s .i64 .i64 ((k : Int) + 8) ((k : Int) + 8 + (n : Int)) Tryd.underlying9 (by omega) (by omega) (by omega), ← hd]
                congr 3
              have hs2 : ∀ W : World, (Instr.slice 9 (.string s) (some (.int .i64 ((k : Int) + 4))) (some (.int .i64 ((k : Int) + 8))) none).run Tryd.prog W = .ok (.string c) W := fun W => by
                rw [run_slice_string (P := Tryd.prog) (w := W) 9 s .i64 .i64 ((k : Int) + 4) ((k : Int) + 8) Tryd.underlying9 (by omega) (by omega) (by omega), ← hc]
                congr 3
              obtain ⟨b, hbq⟩ : ∃ b, ((strOfNums (lows (Crc.crcOf (nums d)))).toList == c.toList) = b := ⟨_, rfl⟩
              have HF := Lib.hid (show if b then takeL ((bytesL s).drop k) = some (bytesL d) else takeL ((bytesL s).drop k) = none by
                have hh : (b = true) ↔ bytesL (strOfNums (lows (Crc.crcOf ((bytesL d).map (·.toNat))))) = (((bytesL s).drop k).drop 4).take 4 := by
                  rw [← hbq, beq_iff_eq, toList_bytes, toList_bytes, ← ec]; rfl
                unfold takeL
                rw [HN.out, ← ed, HD.out]
                cases b
                · rw [if_neg (by simp), if_neg]
                  rintro ⟨-, -, -, h⟩
                  exact absurd (hh.2 h) (by simp)
                · rw [if_pos rfl, if_pos ⟨by omega, by omega, by omega, hh.1 rfl⟩])
              clear ed ec hd hc
              have HSM := Lib.hid (fun W => (specSum d W (by unfold maxLen; omega)).mono (fun e w1 (h : _ ∧ _) => (⟨h.1, by rw [h.2]; exact (Below.refl _ W).alloc (Nat.le_refl _) _⟩ : _ ∧ Below W.heap.size W w1)))
              have q0 := HT.out.below hb 0 (by omega)
              have y1 : IntKind.i64.wrap ((k : Int) + 8) = (k : Int) + 8 := by rw [IntKind.wrap_i64]; omega
              have y2 : IntKind.i64.wrap ((k : Int) + 8 + (n : Int)) = (k : Int) + 8 + (n : Int) := by rw [IntKind.wrap_i64]; omega
              have y3 : IntKind.i64.wrap ((k : Int) + 4) = (k : Int) + 4 := by rw [IntKind.wrap_i64]; omega
              cases b
              · have HF1 := Lib.hid (show takeL ((bytesL s).drop k) = none by have := HF.out; rwa [if_neg (by simp)] at this)
                go_wp2_with fail
                go_region_held3 (fun w' => w'.cell? ⟨0, 0, none⟩ = some (.int .u32 (Crc.U (Crc.tab 0))))
                  (first | go_keep | exact below_keep hb1 _ _ (by assumption))
                  (first | (go_at_call 17; refine (HSM.out _).mono ?_; rintro e w1 ⟨rfl, hb1⟩))
                have hbz := hb.drew.trans (hb1.mono hb.size)
                have hoz := Lib.hid (OwnS.below hown.out ((Below.refl wr.heap.size wr).drew.trans hb1))
                have HP := Lib.hid (hfr.out.post HF1.out hoz.out)
                clear HF hb1 hown hs1 hs2 hbq y1 y2 y3
                go_wp2_with fail
                go_ret2
                exact ⟨HP.out, hbz⟩
              · have HF1 := Lib.hid (show takeL ((bytesL s).drop k) = some (bytesL d) by have := HF.out; rwa [if_pos rfl] at this)
                go_wp2_with fail
                go_region_held3 (fun w' => w'.cell? ⟨0, 0, none⟩ = some (.int .u32 (Crc.U (Crc.tab 0))))
                  (first | go_keep | exact below_keep hb1 _ _ (by assumption))
                  (first | (go_at_call 17; refine (HSM.out _).mono ?_; rintro e w1 ⟨rfl, hb1⟩))
                have hbz := hb.drew.trans (hb1.mono hb.size)
                have hoz := Lib.hid (OwnS.below hown.out ((Below.refl wr.heap.size wr).drew.trans hb1))
                have HSX := Lib.hid (hfr.out.step HF1.out)
                have hd : k + (8 + d.size) ≤ s.size := by obtain ⟨f, -, -, -, h4⟩ := HSX.out; exact h4
                have hal : acc.length ≤ k := by obtain ⟨f, -, -, h3, -⟩ := hfr.out; exact h3
                clear HF hb1 hown hs2 hbq y3 HSM
                go_wp2_with (at_builtin; refine wpList_append_own _ rfl _ _ 24 rfl w.heap.size 9 i0 (.string ⟨#[]⟩) 1 16 Tryd.underlying24 H1.out H2.out H3.out H4.out rfl (by decide) _ _ _ rfl (World.ownsRow.alloc hoz.out _) ⟨w1.heap.size, 0, none⟩ 1 1 [.string d] rfl rfl ?c1 ?c2 ?c3 ?c4 ?c5 ?_)
                case c1 => exact cell_one_new _ _ _
                case c2 => intro u hu; simp at hu; subst hu; rfl
                case c3 => unfold maxLen; omega
                case c4 => omega
                case c5 => have := hbz.size; simp; omega
                intro v' w3 hown3 hgrow _
                have R := Lib.hid (OwnS.app hoz.out hbz.size hown3 hgrow)
                clear hown3 hgrow hoz hs1
                go_wp2_with fail
                go_roundw
                case rel => exact ⟨k + (8 + d.size), acc ++ [d], by go_num, hd, HSX, Lib.hid R.out.1, hbz.trans R.out.2⟩
                case measure => simp [intOf]; omega
            · have gC : (s.size : Int) < (k : Int) + 8 + (n : Int) := by omega
              have HP := Lib.hid (hfr.out.post (by unfold takeL; rw [HN.out, HD.out, if_neg (by omega)]) hown.out)
              go_wp2_with fail
              go_quiet (fail)
              have HQ := Lib.hid (And.intro (below_dq hb nq) (OwnS.below hown.out (below_dq (Below.refl _ wr) nq)))
              have HP := Lib.hid (hfr.out.post (by unfold takeL; rw [HN.out, HD.out, if_neg (by omega)]) HQ.out.2)
              generalize wr.drewN nq = w1 at *
              go_wp2_with fail
              go_ret2
              exact ⟨HP.out, HQ.out.1⟩
          · have gA : (100000 : Int) < (n : Int) := by omega
            go_wp2_with fail
            go_quiet (fail)
            have HQ := Lib.hid (And.intro (below_dq hb nq) (OwnS.below hown.out (below_dq (Below.refl _ wr) nq)))
            have HP := Lib.hid (hfr.out.post (by unfold takeL; rw [HN.out, if_neg (by omega)]) HQ.out.2)
            generalize wr.drewN nq = w1 at *
            go_wp2_with fail
            go_ret2
            exact ⟨HP.out, HQ.out.1⟩
    · have g8 : decide ((k : Int) + 8 ≤ s.size) = false := decide_eq_false (by omega)
      have HP := Lib.hid (hfr.out.post (by unfold takeL; rw [if_neg]; rw [List.length_drop, bytesL_len]; omega) hown.out)
      go_wp2_with fail
      go_ret2
      exact ⟨HP.out, hb⟩
end Go.Proofs.YtadjeofjcehaeaaDoor
