/-
  Frames: the CRC in the program and in the model.
-/
import Derived.Test.YtadjeofjcehaeaaDoorCrc
import Derived.Test.YtadjeofjcehaeaaDoorRows
import Derived.WalkKit
import Derived.ProofKit
import Derived.Lib.Hide
import Derived.Laws.BytesArg
namespace Go.Proofs.YtadjeofjcehaeaaDoor
open Go.RowKit
set_option linter.unusedVariables false
set_option linter.unusedSimpArgs false

/-- The bytes of a text, as numbers. -/
def nums (s : ByteArray) : List Nat := s.data.toList.map (·.toNat)
theorem nums_len (s : ByteArray) : (nums s).length = s.size := by unfold nums; rw [List.length_map]; rfl
theorem nums_at (s : ByteArray) (k : Nat) (h : k < s.size) : (nums s)[k]'(by rw [nums_len]; exact h) = s[k].toNat := by
  have h : ∀ (l : List Nat) (e : l = s.data.toList.map (·.toNat)) (hl : k < l.length), l[k] = s[k].toNat := by
    intro l e hl; subst e; rw [List.getElem_map]; rfl
  exact h _ rfl _
theorem crc_step (s : ByteArray) (k : Nat) (h : k < s.size) (c : BitVec 32) : Crc.crcGo ((nums s).take (k + 1)) c = Crc.byteIn (Crc.crcGo ((nums s).take k) c) s[k].toNat := by
  have hl : k < (nums s).length := by rw [nums_len]; exact h
  rw [List.take_succ_eq_append_getElem hl, Crc.crcGo_snoc, nums_at s k h]
/-- The table lies where it was laid. -/
def TabAt (w : World) : Prop := ∀ i < 16, w.cell? ⟨0, i, none⟩ = some (.int .u32 (Crc.U (Crc.tab i)))

set_option maxHeartbeats 1000000 in
theorem implCrc (s : ByteArray) (w : World) (hs : s.size ≤ maxLen) (ht : TabAt w) :
    Calls Tryd.prog 18 #[.string s] w fun e w' => e = .returned (.int .u32 (Crc.U (Crc.crcOf (nums s)))) ∧ w = w' := by
  unfold maxLen at hs
  have HT := Lib.hid ht
  clear ht
  have hone : (4294967295 : Int) = Crc.U 4294967295#32 := by decide
  go_enter Tryd.func18, Tryd.ntmps18
  go_wp2
  go_loop [3, 7] (fun c i => ∃ k : Nat, k ≤ s.size ∧ i = .int .i64 k ∧ c = .int .u32 (Crc.U (Crc.crcGo ((nums s).take k) 4294967295#32))) (fun _ i => s.size - (intOf i).toNat)
  case atStart => exact ⟨0, by omega, rfl, by rw [hone]; rfl⟩
  case round =>
    obtain ⟨k, hk, rfl, rfl⟩ := hrel
    clear hone
    by_cases hlt : k < s.size
    · have HS := Lib.hid (crc_step s k hlt 4294967295#32)
      have hxb : s[k].toNat < 256 := s[k].toNat_lt
      have hw : IntKind.u32.wrap (s[k].toNat : Int) = Crc.U (BitVec.ofNat 32 s[k].toNat) := by rw [IntKind.wrap_u32, Int.emod_eq_of_lt (by omega) (by omega)]; exact Crc.U_of _ (by omega)
      generalize hC : Crc.crcGo ((nums s).take k) 4294967295#32 = c at *
      have h1 := Crc.bits_xorU c (BitVec.ofNat 32 s[k].toNat)
      obtain ⟨c1, hc1⟩ : ∃ c1, c ^^^ BitVec.ofNat 32 s[k].toNat = c1 := ⟨_, rfl⟩
      rw [hc1] at h1
      have h2 := Crc.bits_and15 c1
      have l2 := Crc.low15 c1
      have t2 := HT.out _ l2
      have s2 := Crc.shr4 c1
      have x2 := Crc.bits_xorU (c1 >>> 4) (Crc.tab (c1 &&& 15#32).toNat)
      rw [← Crc.four_eq] at x2
      obtain ⟨c2, hc2⟩ : ∃ c2, Crc.four c1 = c2 := ⟨_, rfl⟩
      rw [hc2] at x2
      obtain ⟨n2, hn2⟩ : ∃ n2, (c1 &&& 15#32).toNat = n2 := ⟨_, rfl⟩
      rw [hn2] at h2 l2 t2 x2
      have h3 := Crc.bits_and15 c2
      have l3 := Crc.low15 c2
      have t3 := HT.out _ l3
      have s3 := Crc.shr4 c2
      have x3 := Crc.bits_xorU (c2 >>> 4) (Crc.tab (c2 &&& 15#32).toNat)
      rw [← Crc.four_eq] at x3
      obtain ⟨c3, hc3⟩ : ∃ c3, Crc.four c2 = c3 := ⟨_, rfl⟩
      rw [hc3] at x3
      obtain ⟨n3, hn3⟩ : ∃ n3, (c2 &&& 15#32).toNat = n3 := ⟨_, rfl⟩
      rw [hn3] at h3 l3 t3 x3
      have HE := Lib.hid (show Crc.crcGo ((nums s).take (k + 1)) 4294967295#32 = c3 by rw [HS.out, ← hc3, ← hc2, ← hc1]; rfl)
      clear hC HS hc1 hc2 hc3 hn2 hn3
      go_wp2
      go_round
      case rel => exact ⟨k + 1, by omega, by go_num, by rw [HE.out]⟩
      case measure => simp [intOf]; omega
    · have HN := Lib.hid (show (nums s).take k = nums s from List.take_of_length_le (by rw [nums_len]; omega))
      rw [HN.out]
      have hb : bits .xor .u32 IntKind.u32.max (Crc.U (Crc.crcGo (nums s) 4294967295#32)) = Crc.U (Crc.crcOf (nums s)) := Crc.bits_not (Crc.crcGo (nums s) 4294967295#32)
      go_wp2
      go_ret
      exact ⟨rfl, rfl⟩
end Go.Proofs.YtadjeofjcehaeaaDoor
