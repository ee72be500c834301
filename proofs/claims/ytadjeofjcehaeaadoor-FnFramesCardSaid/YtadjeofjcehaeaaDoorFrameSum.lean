/-
  Frames: the CRC in the model.
-/
import Derived.Test.YtadjeofjcehaeaaDoorFrameOf
import Derived.Laws.IdiomStrings
namespace Go.Proofs.YtadjeofjcehaeaaDoor
open Go.RowKit
set_option linter.unusedVariables false
set_option linter.unusedSimpArgs false

theorem odd_t (a : BitVec 32) : (Crc.U a).tmod 2 = if a.getLsbD 0 then 1 else 0 := by
  rw [Int.tmod_eq_emod_of_nonneg (Crc.U_lo a)]; exact Crc.odd a
/-- The four bytes of a CRC, the lowest first. -/
def lows (c : BitVec 32) : List Int := [Crc.U c % 256, Crc.U c / 256 % 256, Crc.U c / 65536 % 256, Crc.U c / 16777216 % 256]

set_option maxHeartbeats 1000000 in
theorem specSum (s : ByteArray) (w : World) (hs : s.size ≤ maxLen) :
    Calls Tryd.prog 17 #[.string s] w fun e w' => e = .returned (.string (strOfNums (lows (Crc.crcOf (nums s))))) ∧ w' = w.alloc (.cells ((lows (Crc.crcOf (nums s))).map (Value.int .u8)).toArray 5) := by
  unfold maxLen at hs
  have hone : (4294967295 : Int) = Crc.U 4294967295#32 := by decide
  go_enter Tryd.func17, Tryd.ntmps17
  go_wp2
  go_loop [3, 4] (fun c i => ∃ k : Nat, k ≤ s.size ∧ i = .int .i64 k ∧ c = .int .u32 (Crc.U (Crc.crcGo ((nums s).take k) 4294967295#32))) (fun _ i => s.size - (intOf i).toNat)
  case atStart => exact ⟨0, by omega, rfl, by rw [hone]; rfl⟩
  case round =>
    obtain ⟨k, hk, rfl, rfl⟩ := hrel
    clear hone
    by_cases hlt : k < s.size
    · have HS := Lib.hid (crc_step s k hlt 4294967295#32)
      have hxb : s[k].toNat < 256 := s[k].toNat_lt
      have hw : IntKind.u32.wrap (s[k].toNat : Int) = Crc.U (BitVec.ofNat 32 s[k].toNat) := by rw [IntKind.wrap_u32, Int.emod_eq_of_lt (by omega) (by omega)]; exact Crc.U_of _ (by omega)
      generalize hC : Crc.crcGo ((nums s).take k) 4294967295#32 = c at *
      have h1 := Crc.bits_xorU c (BitVec.ofNat 32 s[k].toNat)
      obtain ⟨c1, hc1⟩ : ∃ c1, c ^^^ BitVec.ofNat 32 s[k].toNat = c1 := ⟨_, rfl⟩
      rw [hc1] at h1
      have HE := Lib.hid (show Crc.crcGo ((nums s).take (k + 1)) 4294967295#32 = Crc.ones 8 c1 by rw [HS.out, Crc.ones8, ← hc1]; rfl)
      clear hC HS hc1
      go_wp2
      clear h1 hw
      go_loop [3, 5] (fun c j => ∃ n : Nat, n ≤ 8 ∧ j = .int .i64 n ∧ c = .int .u32 (Crc.U (Crc.ones n c1))) (fun _ j => 8 - (intOf j).toNat)
      case atStart => exact ⟨0, by omega, rfl, rfl⟩
      case round =>
        obtain ⟨n, hn, rfl, rfl⟩ := hrel
        by_cases h8 : n < 8
        · have HO := Lib.hid (show Crc.one (Crc.ones n c1) = Crc.ones (n + 1) c1 from rfl)
          have ho := odd_t (Crc.ones n c1)
          have hs1 := Crc.shr1 (Crc.ones n c1)
          have hx := Crc.bits_xorU ((Crc.ones n c1) >>> 1) 3988292384#32
          rw [show Crc.U 3988292384#32 = 3988292384 by decide] at hx
          cases hb : (Crc.ones n c1).getLsbD 0
          · rw [hb] at ho
            have HF := Lib.hid (show (Crc.ones n c1) >>> 1 = Crc.ones (n + 1) c1 by rw [← HO.out]; unfold Crc.one; rw [hb]; rfl)
            simp only [Bool.false_eq_true, if_false] at ho
            clear hb HO hx
            go_wp2
            go_round
            case rel => exact ⟨n + 1, by omega, by go_num, by rw [HF.out]⟩
            case measure => simp [intOf]; omega
          · rw [hb] at ho
            have HF := Lib.hid (show (Crc.ones n c1) >>> 1 ^^^ 3988292384#32 = Crc.ones (n + 1) c1 by rw [← HO.out]; unfold Crc.one; rw [hb]; rfl)
            simp only [if_true] at ho
            clear hb HO
            go_wp2
            go_round
            case rel => exact ⟨n + 1, by omega, by go_num, by rw [HF.out]⟩
            case measure => simp [intOf]; omega
        · obtain rfl : n = 8 := by omega
          rw [← HE.out]
          go_wp2
          go_round
          case rel => exact ⟨k + 1, by omega, by go_num, rfl⟩
          case measure => simp [intOf]; omega
    · have HN := Lib.hid (show (nums s).take k = nums s from List.take_of_length_le (by rw [nums_len]; omega))
      rw [HN.out]
      have hb : bits .xor .u32 IntKind.u32.max (Crc.U (Crc.crcGo (nums s) 4294967295#32)) = Crc.U (Crc.crcOf (nums s)) := Crc.bits_not (Crc.crcGo (nums s) 4294967295#32)
      obtain ⟨c, hc⟩ : ∃ c, Crc.crcOf (nums s) = c := ⟨_, rfl⟩
      rw [hc] at hb
      have hconv := run_convert_bytes_arg (P := Tryd.prog) (w.alloc (.cells ((lows c).map (Value.int .u8)).toArray 5)) 29 5 Tryd.underlying29 Tryd.underlying5 w.heap.size 0 4 4 (lows c) rfl (by
        intro i hi
        rw [Nat.zero_add, World.cell?_alloc_mark]
        rcases i with _|_|_|_|i
        all_goals first | rfl | omega) 9 Tryd.underlying9
      simp only [lows, List.map_cons, List.map_nil] at hconv
      go_wp2
      go_ret
      rw [hc]
      exact ⟨rfl, rfl⟩
end Go.Proofs.YtadjeofjcehaeaaDoor
