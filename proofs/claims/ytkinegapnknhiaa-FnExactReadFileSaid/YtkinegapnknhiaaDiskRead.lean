/-
  What a disk's file holds, in the model and in the program.
-/
import Derived.Test.YtkinegapnknhiaaDiskOkImpl
namespace Go.Proofs.Ytkinegapnknhiaa
open Go.RowKit
set_option linter.unusedVariables false
set_option linter.unusedSimpArgs false

def readL (l : List Fz) (s : List UInt8) : ByteArray := (findF l s).getD ⟨#[]⟩
def readT (x : Dz) (s : ByteArray) : ByteArray := if diskB x then readL x.live s.toList else ⟨#[]⟩
def readK (x : Dz) (s : ByteArray) : Bool := diskB x && (findF x.live s.toList).isSome
theorem read_no {x : Dz} {s : ByteArray} (h : diskB x = false) : readT x s = ⟨#[]⟩ ∧ readK x s = false := by unfold readT readK; rw [h]; exact ⟨rfl, rfl⟩
theorem read_none {x : Dz} {s : ByteArray} (hf : findF x.live s.toList = none) : readT x s = ⟨#[]⟩ ∧ readK x s = false := by
  unfold readT readK readL; rw [hf]
  refine ⟨?_, by simp⟩
  split <;> rfl
theorem read_some {x : Dz} {s d : ByteArray} (h : diskB x = true) (hf : findF x.live s.toList = some d) : readT x s = d ∧ readK x s = true := by unfold readT readK readL; rw [h, hf]; exact ⟨rfl, rfl⟩
theorem live_len {x : Dz} (h : x.sz ≤ 1048576) : x.live.length ≤ 1048576 := by unfold Dz.sz szL at h; omega

set_option maxRecDepth 100000 in
set_option maxHeartbeats 1000000 in
theorem specReadFile (x : Dz) (A0 : Option Addr) (n0 c0 : Nat) (A1 : Option Addr) (n1 c1 : Nat) (A2 : Option Addr) (n2 c2 : Nat) (s : ByteArray) (ok : Nat → Prop) (w : World) (h0 : Sl FzR 2 ok w A0 n0 x.live) (h1 : Sl FzR 2 ok w A1 n1 x.safe) (h2 : Sl OzR 4 ok w A2 n2 x.ops) (hs : x.sz ≤ 1048576) :
    Calls Try.prog 38 #[.agg #[.slice A0 n0 c0, .slice A1 n1 c1, .slice A2 n2 c2], .string s] w fun e w' => e = .returned (.tuple #[.string (readT x s), .bool (readK x s)]) ∧ Below w.heap.size w w' := by
  have rb := Row.new w 27 #[.slice A0 n0 c0, .slice A1 n1 c1, .slice A2 n2 c2]
  have hx := (Below.refl w.heap.size w).alloc (Nat.le_refl _) (.cells #[.slice A0 n0 c0, .slice A1 n1 c1, .slice A2 n2 c2] 27)
  go_enter Try.func38, Try.ntmps38
  go_wp2_with fail
  generalize w.alloc (.cells #[.slice A0 n0 c0, .slice A1 n1 c1, .slice A2 n2 c2] 27) = z at *
  refine (specDiskOk x A0 n0 c0 A1 n1 c1 A2 n2 c2 _ _ (h0.below FzR.stays hx) (h1.below FzR.stays hx) (h2.below OzR.stays hx) hs).mono ?_
  rintro e w1 ⟨rfl, hq⟩
  have hx := hx.trans (hq.mono hx.size)
  have rb := rb.below hq
  obtain ⟨⟨p0, p1, p2⟩, -⟩ := rb.three
  obtain rfl : x.live.length = n0 := h0.1
  clear hq
  cases e0 : diskB x
  · obtain ⟨t1, t2⟩ := read_no (s := s) e0
    have HR := Lib.hid (And.intro t1 t2)
    clear t1 t2
    go_wp2
    go_ret2
    exact ⟨by rw [HR.out.1, HR.out.2]; rfl, hx⟩
  go_wp2_with fail
  refine (specAt14 A0 x.live.length c0 x.live s _ _ (h0.below FzR.stays hx) (live_len hs)).mono ?_
  rintro e w2 ⟨⟨r, rfl, hr⟩, rfl⟩
  rcases hr with ⟨rfl, hf⟩ | ⟨i, rfl, hi, hf, -⟩
  · obtain ⟨t1, t2⟩ := read_none hf
    have HR := Lib.hid (And.intro t1 t2)
    clear t1 t2 hf
    go_wp2
    go_ret2
    exact ⟨by rw [HR.out.1, HR.out.2]; rfl, hx⟩
  · obtain ⟨b, off, -, rfl, q0', q1'⟩ := FzR.at_ h0 hi
    have q1 := below_keep hx _ _ q1'
    obtain ⟨t1, t2⟩ := read_some e0 hf
    have HR := Lib.hid (And.intro t1 t2)
    have i0 : (0 : Int) ≤ i := by omega
    have i0' : decide ((i : Int) < 0) = false := decide_eq_false (by omega)
    have i1 : (i : Int) < x.live.length := by omega
    clear t1 t2 hf q0' q1'
    go_wp2
    go_ret2
    exact ⟨by rw [HR.out.1, HR.out.2]; rfl, hx⟩

set_option maxRecDepth 100000 in
set_option maxHeartbeats 1000000 in
theorem implDataOf (A : Option Addr) (n c : Nat) (l : List Fz) (s : ByteArray) (ok : Nat → Prop) (w : World) (h : Sl FzR 2 ok w A n l) (hn : n ≤ 1048576) :
    Calls Try.prog 59 #[.slice A n c, .string s] w fun e w' => e = .returned (.tuple #[.string (readL l s.toList), .bool (findF l s.toList).isSome]) ∧ Below w.heap.size w w' := by
  obtain rfl : l.length = n := h.1
  go_enter Try.func59, Try.ntmps59
  go_wp2
  go_loopw [10] (fun i wr => ∃ k : Nat, k ≤ l.length ∧ i = .int .i64 k ∧ Hid (∀ x ∈ l.take k, x.nm ≠ s.toList) ∧ Below w.heap.size w wr) (fun i _ => l.length - (intOf i).toNat)
  case atStart => exact ⟨0, by omega, rfl, Lib.hid (by simp), Below.refl _ _⟩
  case round =>
    obtain ⟨k, hk, rfl, hno, hb⟩ := hrel
    by_cases hlt : k < l.length
    · obtain ⟨b, off, -, rfl, q0, q1⟩ := FzR.at_ (h.below FzR.stays hb) hlt
      have hba := hb.alloc hb.size (.cells #[.string l[k].name, .string l[k].data] 75)
      have i0 : (0 : Int) ≤ k := by omega
      have i1 : (k : Int) < l.length := by omega
      by_cases he : l[k].name.toList = s.toList
      · have hf := findF_at hlt hno.out he
        have HR := Lib.hid (show readL l s.toList = l[k].data ∧ (findF l s.toList).isSome = true by unfold readL; rw [hf]; exact ⟨rfl, rfl⟩)
        have he' : (l[k].name.toList == s.toList) = true := by simpa using he
        clear he hf
        go_wp2
        go_ret2
        exact ⟨by rw [HR.out.1, HR.out.2]; rfl, hba⟩
      · have HN := Lib.hid (show ∀ x ∈ l.take (k + 1), x.nm ≠ s.toList by
          intro x hx
          rw [List.take_succ_eq_append_getElem hlt] at hx
          rcases List.mem_append.1 hx with hx | hx
          · exact hno.out x hx
          · obtain rfl := List.mem_singleton.1 hx; exact he)
        have he' : (l[k].name.toList == s.toList) = false := by simpa using he
        clear he
        go_wp2
        go_roundw
        case rel => exact ⟨k + 1, by omega, by go_num, HN, hba⟩
        case measure => simp [intOf]; omega
    · have e : l.take k = l := List.take_of_length_le (by omega)
      have h1 := hno.out
      rw [e] at h1
      have hf := findF_none h1
      have HR := Lib.hid (show readL l s.toList = ⟨#[]⟩ ∧ (findF l s.toList).isSome = false by unfold readL; rw [hf]; exact ⟨rfl, rfl⟩)
      clear h1 e hno hf
      go_wp2
      go_ret2
      exact ⟨by rw [HR.out.1, HR.out.2]; rfl, hb⟩

set_option maxRecDepth 100000 in
set_option maxHeartbeats 1000000 in
theorem implReadFile (x : Dz) (A0 : Option Addr) (n0 c0 : Nat) (A1 : Option Addr) (n1 c1 : Nat) (A2 : Option Addr) (n2 c2 : Nat) (s : ByteArray) (ok : Nat → Prop) (w : World) (h0 : Sl FzR 2 ok w A0 n0 x.live) (h1 : Sl FzR 2 ok w A1 n1 x.safe) (h2 : Sl OzR 4 ok w A2 n2 x.ops) (hs : x.sz ≤ 1048576) :
    Calls Try.prog 22 #[.agg #[.slice A0 n0 c0, .slice A1 n1 c1, .slice A2 n2 c2], .string s] w fun e w' => e = .returned (.tuple #[.string (readT x s), .bool (readK x s)]) ∧ Below w.heap.size w w' := by
  have rb := Row.new w 27 #[.slice A0 n0 c0, .slice A1 n1 c1, .slice A2 n2 c2]
  have hx := (Below.refl w.heap.size w).alloc (Nat.le_refl _) (.cells #[.slice A0 n0 c0, .slice A1 n1 c1, .slice A2 n2 c2] 27)
  go_enter Try.func22, Try.ntmps22
  go_wp2_with fail
  generalize w.alloc (.cells #[.slice A0 n0 c0, .slice A1 n1 c1, .slice A2 n2 c2] 27) = z at *
  refine (implDiskOk x A0 n0 c0 A1 n1 c1 A2 n2 c2 _ _ (h0.below FzR.stays hx) (h1.below FzR.stays hx) (h2.below OzR.stays hx) hs).mono ?_
  rintro e w1 ⟨rfl, hq⟩
  have hx := hx.trans (hq.mono hx.size)
  have rb := rb.below hq
  obtain ⟨⟨p0, p1, p2⟩, -⟩ := rb.three
  obtain rfl : x.live.length = n0 := h0.1
  clear hq
  cases e0 : diskB x
  · obtain ⟨t1, t2⟩ := read_no (s := s) e0
    have HR := Lib.hid (And.intro t1 t2)
    clear t1 t2
    go_wp2
    go_ret2
    exact ⟨by rw [HR.out.1, HR.out.2]; rfl, hx⟩
  have HR := Lib.hid (show readT x s = readL x.live s.toList ∧ readK x s = (findF x.live s.toList).isSome by unfold readT readK; rw [e0]; exact ⟨rfl, rfl⟩)
  go_wp2_with fail
  refine (implDataOf A0 x.live.length c0 x.live s _ _ (h0.below FzR.stays hx) (live_len hs)).mono ?_
  rintro e w2 ⟨rfl, hb⟩
  have hbe := hx.trans (hb.mono hx.size)
  go_wp2
  go_ret2
  exact ⟨by rw [HR.out.1, HR.out.2]; rfl, hbe⟩
end Go.Proofs.Ytkinegapnknhiaa
