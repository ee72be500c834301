/-
  The CRC of a frame: eight bits one by one are two looks into a table of sixteen.
-/
import Derived.Laws.BitsLemmas
namespace Go.Proofs.YtadjeofjcehaeaaDoor.Crc
/-- One bit leaves the CRC. -/
def one (b : BitVec 32) : BitVec 32 := if b.getLsbD 0 then (b >>> 1) ^^^ 3988292384#32 else b >>> 1
theorem one_eq (b : BitVec 32) : one b = (b >>> 1) ^^^ (if b.getLsbD 0 then 3988292384#32 else 0#32) := by unfold one; split <;> simp
theorem one_xor (a b : BitVec 32) : one (a ^^^ b) = one a ^^^ one b := by
  rw [one_eq, one_eq, one_eq, BitVec.ushiftRight_xor_distrib, BitVec.getLsbD_xor]
  cases a.getLsbD 0 <;> cases b.getLsbD 0 <;> simp
  · rw [BitVec.xor_assoc]
  · rw [BitVec.xor_assoc, BitVec.xor_assoc, BitVec.xor_comm (b >>> 1)]
  · rw [BitVec.xor_assoc, ← BitVec.xor_assoc (3988292384#32), BitVec.xor_comm (3988292384#32) (b >>> 1), BitVec.xor_assoc, BitVec.xor_self, BitVec.xor_zero]
def four (b : BitVec 32) : BitVec 32 := one (one (one (one b)))
theorem four_xor (a b : BitVec 32) : four (a ^^^ b) = four a ^^^ four b := by unfold four; simp only [one_xor]
theorem one_even (b : BitVec 32) (h : b.getLsbD 0 = false) : one b = b >>> 1 := by unfold one; rw [h]; rfl
theorem four_high (b : BitVec 32) (h : ∀ i < 4, b.getLsbD i = false) : four b = b >>> 4 := by
  have h0 := h 0 (by omega)
  have h1 := h 1 (by omega)
  have h2 := h 2 (by omega)
  have h3 := h 3 (by omega)
  unfold four
  rw [one_even b h0, one_even (b >>> 1) (by rw [BitVec.getLsbD_ushiftRight]; exact h1), one_even (b >>> 1 >>> 1) (by rw [BitVec.getLsbD_ushiftRight, BitVec.getLsbD_ushiftRight]; exact h2), one_even (b >>> 1 >>> 1 >>> 1) (by rw [BitVec.getLsbD_ushiftRight, BitVec.getLsbD_ushiftRight, BitVec.getLsbD_ushiftRight]; exact h3)]
  simp [← BitVec.shiftRight_add]
def tab (n : Nat) : BitVec 32 := four (BitVec.ofNat 32 n)
theorem four_eq (b : BitVec 32) : four b = (b >>> 4) ^^^ tab ((b &&& 15#32).toNat) := by
  have e : b = (b &&& ~~~15#32) ^^^ (b &&& 15#32) := by
    apply BitVec.eq_of_getLsbD_eq
    intro i hi
    simp only [BitVec.getLsbD_xor, BitVec.getLsbD_and, BitVec.getLsbD_not]
    cases b.getLsbD i <;> cases (15#32).getLsbD i <;> simp [hi]
  have lo : ∀ i < 4, (b &&& ~~~15#32).getLsbD i = false := by
    intro i hi
    rw [BitVec.getLsbD_and, BitVec.getLsbD_not]
    have : (15#32).getLsbD i = true := by
      rcases i with _|_|_|_|i
      all_goals first | decide | omega
    simp [this]
  have hs : (b &&& ~~~15#32) >>> 4 = b >>> 4 := by
    apply BitVec.eq_of_getLsbD_eq
    intro i hi
    simp only [BitVec.getLsbD_ushiftRight, BitVec.getLsbD_and, BitVec.getLsbD_not]
    by_cases h : 4 + i < 32
    · have : (15#32).getLsbD (4 + i) = false := by
        have h2 : (15#32).getLsbD (4 + i) = Nat.testBit 15 (4 + i) := by simp [BitVec.getLsbD]
        rw [h2]
        apply Nat.testBit_lt_two_pow
        have := Nat.pow_le_pow_right (n := 2) (by omega) (show 4 ≤ 4 + i by omega)
        omega
      rw [this]; simp [h]
    · have : b.getLsbD (4 + i) = false := BitVec.getLsbD_of_ge _ _ (by omega)
      simp [this]
  conv => lhs; rw [e]
  rw [four_xor, four_high _ lo, hs]
  congr 1
  unfold tab
  congr 1
  simp
theorem tabs : (List.range 16).map (fun n => (tab n).toNat) = [0, 498536548, 997073096, 651767980, 1994146192, 1802195444, 1303535960, 1342533948, 3988292384, 4027552580, 3604390888, 3412177804, 2607071920, 2262029012, 2685067896, 3183342108] := by decide +kernel
/-- The number of a word. -/
def U (b : BitVec 32) : Int := (b.toNat : Int)
theorem U_lo (b : BitVec 32) : 0 ≤ U b := Int.natCast_nonneg _
theorem U_hi (b : BitVec 32) : U b < 4294967296 := by have := b.isLt; unfold U; omega
theorem ofU (b : BitVec 32) : BitVec.ofInt 32 (U b) = b := by unfold U; rw [BitVec.ofInt_natCast]; simp
theorem wrapU (b : BitVec 32) : IntKind.u32.wrap (U b) = U b := by rw [IntKind.wrap_u32]; exact Int.emod_eq_of_lt (U_lo b) (U_hi b)
theorem bits_xorU (a b : BitVec 32) : bits .xor .u32 (U a) (U b) = U (a ^^^ b) := by
  show IntKind.u32.wrap ((BitVec.ofInt 32 (U a) ^^^ BitVec.ofInt 32 (U b)).toNat : Int) = _
  rw [ofU, ofU]; exact wrapU _
theorem U_of (n : Nat) (h : n < 4294967296) : (n : Int) = U (BitVec.ofNat 32 n) := by unfold U; simp; omega
theorem bits_and15 (a : BitVec 32) : bits .and .u32 (U a) 15 = ((a &&& 15#32).toNat : Int) := by
  show IntKind.u32.wrap ((BitVec.ofInt 32 (U a) &&& BitVec.ofInt 32 15).toNat : Int) = _
  rw [ofU]; exact wrapU (a &&& 15#32)
theorem low15 (a : BitVec 32) : (a &&& 15#32).toNat < 16 := by
  rw [BitVec.toNat_and]
  exact Nat.and_lt_two_pow (n := 4) _ (by decide)
theorem bits_not (a : BitVec 32) : bits .xor .u32 4294967295 (U a) = U (~~~a) := by
  show IntKind.u32.wrap ((BitVec.ofInt 32 4294967295 ^^^ BitVec.ofInt 32 (U a)).toNat : Int) = _
  rw [ofU]
  have : BitVec.ofInt 32 4294967295 ^^^ a = ~~~a := by
    have e : BitVec.ofInt 32 4294967295 = BitVec.allOnes 32 := by decide
    rw [e, BitVec.allOnes_xor]
  rw [this]; exact wrapU _
theorem shr4 (a : BitVec 32) : U a / (16 : Int) = U (a >>> 4) := by unfold U; rw [BitVec.toNat_ushiftRight, Nat.shiftRight_eq_div_pow]; omega
theorem shr1 (a : BitVec 32) : U a / (2 : Int) = U (a >>> 1) := by unfold U; rw [BitVec.toNat_ushiftRight, Nat.shiftRight_eq_div_pow]; omega
theorem odd (a : BitVec 32) : U a % (2 : Int) = if a.getLsbD 0 then 1 else 0 := by
  have h : a.getLsbD 0 = decide (a.toNat % 2 = 1) := by
    rw [BitVec.getLsbD, Nat.testBit_zero]
  rw [h]
  unfold U
  by_cases e : a.toNat % 2 = 1
  · simp [e]; omega
  · simp [e]; omega
/-- What a byte leaves behind in the CRC. -/
def byteIn (c : BitVec 32) (x : Nat) : BitVec 32 := four (four (c ^^^ BitVec.ofNat 32 x))
def ones : Nat → BitVec 32 → BitVec 32
  | 0, c => c
  | n + 1, c => one (ones n c)
theorem ones8 (c : BitVec 32) : ones 8 c = four (four c) := rfl
def crcGo (l : List Nat) (c : BitVec 32) : BitVec 32 := l.foldl byteIn c
theorem crcGo_snoc (l : List Nat) (x : Nat) (c : BitVec 32) : crcGo (l ++ [x]) c = byteIn (crcGo l c) x := by simp [crcGo]
def crcOf (l : List Nat) : BitVec 32 := ~~~ (crcGo l 4294967295#32)
theorem tab_at (n : Nat) (h : n < 16) : U (tab n) = ([0, 498536548, 997073096, 651767980, 1994146192, 1802195444, 1303535960, 1342533948, 3988292384, 4027552580, 3604390888, 3412177804, 2607071920, 2262029012, 2685067896, 3183342108] : List Int).getD n 0 := by
  rw [show ([0, 498536548, 997073096, 651767980, 1994146192, 1802195444, 1303535960, 1342533948, 3988292384, 4027552580, 3604390888, 3412177804, 2607071920, 2262029012, 2685067896, 3183342108] : List Int) = ((List.range 16).map fun n => (tab n).toNat).map Int.ofNat by rw [tabs]; rfl]
  simp [h, U]
end Go.Proofs.YtadjeofjcehaeaaDoor.Crc
