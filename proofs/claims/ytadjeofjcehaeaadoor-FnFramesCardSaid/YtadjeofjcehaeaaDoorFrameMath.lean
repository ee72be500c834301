/-
  Frames: with which frames a text begins.
-/
import Derived.Test.YtadjeofjcehaeaaDoorFrameSpec
namespace Go.Proofs.YtadjeofjcehaeaaDoor
open Go.RowKit
set_option linter.unusedVariables false
set_option linter.unusedSimpArgs false

/-- The bytes of a text. -/
def bytesL (s : ByteArray) : List UInt8 := s.data.toList
theorem bytesL_len (s : ByteArray) : (bytesL s).length = s.size := rfl
theorem bytesL_ext {a b : ByteArray} (h : bytesL a = bytesL b) : a = b := ByteArray.ext (Array.toList_inj.1 h)
theorem bytesL_app (a b : ByteArray) : bytesL (a ++ b) = bytesL a ++ bytesL b := by unfold bytesL; rw [ByteArray.data_append, Array.toList_append]
theorem bytesL_cut (s : ByteArray) (a b : Nat) (h : b ≤ s.size) : bytesL (s.extract a b) = ((bytesL s).drop a).take (b - a) := by
  unfold bytesL
  rw [ByteArray.data_extract, Array.toList_extract]
theorem bytesL_nums (xs : List Int) : bytesL (strOfNums xs) = xs.map fun n => UInt8.ofNat n.toNat := rfl
theorem nums_bytes (s : ByteArray) : nums s = (bytesL s).map (·.toNat) := rfl
/-- The number that four bytes write. -/
def numL (l : List UInt8) : Nat := l.foldl (fun n x => 256 * n + x.toNat) 0
/-- The data of the frame with which bytes begin. -/
def takeL (l : List UInt8) : Option (List UInt8) :=
  if 8 ≤ l.length ∧ numL (l.take 4) ≤ 100000 ∧ numL (l.take 4) + 8 ≤ l.length ∧ bytesL (strOfNums (lows (Crc.crcOf (((l.drop 8).take (numL (l.take 4))).map (·.toNat))))) = (l.drop 4).take 4 then some ((l.drop 8).take (numL (l.take 4))) else none
/-- The frames from a place on. -/
def framesGo : Nat → List UInt8 → Nat → List ByteArray → List ByteArray × Nat
  | 0, _, k, acc => (acc, k)
  | f + 1, l, k, acc => match takeL (l.drop k) with
    | none => (acc, k)
    | some d => framesGo f l (k + 8 + d.length) (acc ++ [⟨d.toArray⟩])
def framesB (s : ByteArray) : List ByteArray × Nat := framesGo (s.size + 1) (bytesL s) 0 []
theorem takeL_len {l d : List UInt8} (h : takeL l = some d) : d.length + 8 ≤ l.length := by
  unfold takeL at h
  split at h
  · rename_i hc
    obtain rfl := Option.some.inj h
    rw [List.length_take, List.length_drop]
    omega
  · cases h
theorem four_of {l : List UInt8} (h : 8 ≤ l.length) : ∃ a b c d r, l = a :: b :: c :: d :: r ∧ 4 ≤ r.length := by
  match l, h with
  | a :: b :: c :: d :: r, h => exact ⟨a, b, c, d, r, rfl, by simp at h; omega⟩
theorem numL_four (a b c d : UInt8) : numL [a, b, c, d] = a.toNat * 16777216 + b.toNat * 65536 + c.toNat * 256 + d.toNat := by simp [numL]; omega
theorem highs_four (a b c d : UInt8) : (highs (numL [a, b, c, d])).map (fun n : Int => UInt8.ofNat n.toNat) = [a, b, c, d] := by
  have ha := a.toNat_lt; have hb := b.toNat_lt; have hc := c.toNat_lt; have hd := d.toNat_lt
  have e : ∀ (x : UInt8) (n : Int), n = (x.toNat : Int) → UInt8.ofNat n.toNat = x := by
    intro x n h; rw [h, Int.toNat_natCast, UInt8.ofNat_toNat]
  rw [numL_four]
  simp only [highs, List.map_cons, List.map_nil]
  rw [e a _ (by omega), e b _ (by omega), e c _ (by omega), e d _ (by omega)]
/-- A text begins with the frame of what stands behind its head just when its CRC is there. -/
theorem prefix_frame {l : List UInt8} (h8 : 8 ≤ l.length) (hn : numL (l.take 4) ≤ 100000) (hl : numL (l.take 4) + 8 ≤ l.length) :
    (l.take (8 + numL (l.take 4)) = bytesL (frameB ⟨((l.drop 8).take (numL (l.take 4))).toArray⟩)) ↔ bytesL (strOfNums (lows (Crc.crcOf (((l.drop 8).take (numL (l.take 4))).map (·.toNat))))) = (l.drop 4).take 4 := by
  obtain ⟨n, en⟩ : ∃ n, numL (l.take 4) = n := ⟨_, rfl⟩
  rw [en] at hn hl ⊢
  have hsz : (⟨((l.drop 8).take n).toArray⟩ : ByteArray).size = n := by
    show ((l.drop 8).take n).toArray.size = n
    rw [List.size_toArray, List.length_take, List.length_drop]; omega
  have hf : bytesL (frameB ⟨((l.drop 8).take n).toArray⟩) = l.take 4 ++ (bytesL (strOfNums (lows (Crc.crcOf (((l.drop 8).take n).map (·.toNat))))) ++ (l.drop 8).take n) := by
    unfold frameB
    rw [if_pos (by rw [hsz]; exact hn), bytesL_app, bytesL_app, hsz, List.append_assoc, bytesL_nums (highs n), ← en]
    have h4 : (highs (numL (l.take 4))).map (fun n : Int => UInt8.ofNat n.toNat) = l.take 4 := by
      obtain ⟨a, b, c, d, r, rfl, -⟩ := four_of h8
      exact highs_four a b c d
    rw [h4]
    rfl
  have ht : l.take (8 + n) = l.take 4 ++ ((l.drop 4).take 4 ++ (l.drop 8).take n) := by
    rw [show 8 + n = 4 + (4 + n) by omega, List.take_add, List.take_add, List.drop_drop]
  rw [hf, ht]
  constructor
  · intro h
    have h2 := List.append_cancel_left h
    have h3 := List.append_inj_left h2 (by rw [List.length_take, List.length_drop, bytesL_len]; show min 4 _ = 4; omega)
    exact h3.symm
  · intro h
    rw [h]
theorem framesGo_none {f : Nat} {l : List UInt8} {k : Nat} {acc : List ByteArray} (h : takeL (l.drop k) = none) : framesGo f l k acc = (acc, k) := by
  cases f with
  | zero => rfl
  | succ f => simp [framesGo, h]
theorem framesGo_some {f : Nat} {l : List UInt8} {k : Nat} {acc : List ByteArray} {d : List UInt8} (h : takeL (l.drop k) = some d) : framesGo (f + 1) l k acc = framesGo f l (k + 8 + d.length) (acc ++ [⟨d.toArray⟩]) := by
  simp [framesGo, h]
theorem bits_or_i64 (k : Nat) (hk : k ≤ 62) (x y : Nat) (hx : x % 2 ^ k = 0) (hx1 : (x : Int) < 4294967296) (hy : y < 2 ^ k) (hk2 : k ≤ 32) : bits .or .i64 (x : Int) (y : Int) = ((x + y : Nat) : Int) := by
  have h := bits_join .i64 62 (by decide) (fun n h0 h1 => by rw [IntKind.wrap_i64]; omega) k (x : Int) (y : Int) (by omega) (by exact_mod_cast hx) (by omega) (by omega) (by exact_mod_cast hy) (by
    have : 2 ^ k ≤ 2 ^ 32 := Nat.pow_le_pow_right (by omega) hk2
    omega)
  rw [h]; omega
end Go.Proofs.YtadjeofjcehaeaaDoor
