/-
  What the marks of the exact laws leave in a list that a call made, and how they are held.
-/
import Derived.Test.YtkinegapnknhiaaMark
namespace Go.Proofs.Ytkinegapnknhiaa
open Go.RowKit
set_option linter.unusedVariables false

set_option linter.unusedSimpArgs false

/-- m cells of a list hold what f says. -/
def Mk (f : Nat → Value) (w : World) (A : Option Addr) (m : Nat) : Prop := 0 < m → ∃ b off, A = some ⟨b, off, none⟩ ∧ ∀ j, j < m → w.cell? ⟨b, off + j, none⟩ = some (f j)
/-- The world W behind marks: m cells of a block from off on hold what f says; nothing else has turned since wr. -/
def KM (f : Nat → Value) (b off B E : Nat) (wr W : World) (m : Nat) : Prop := Kept B E wr W ∧ ∀ j, j < m → W.cell? ⟨b, off + j, none⟩ = some (f j)
theorem KM.set {f : Nat → Value} {b off B E : Nat} {wr W : World} {m : Nat} (h : KM f b off B E wr W m) {p : Addr} {u v : Value} (hp : p = ⟨b, off + m, none⟩) (hc : wr.cell? p = some u) (hn : isSl u = false) (hB : B ≤ p.block) (hE : p.block < E) (hv : isSl v = false) (hf : v = f m) : KM f b off B E wr (W.setCell p v) (m + 1) := by
  refine ⟨Kept.set h.1 hc hn hB hE hv, fun j hj => ?_⟩
  obtain ⟨u', h1, -⟩ := h.1.cell p u hc
  subst hp
  by_cases e : j = m
  · subst e
    rw [World.cell?_setCell_same _ _ _ h1, hf]
  · rw [World.cell?_setCell_other _ _ _ _ (by intro hh; simp only [Addr.mk.injEq] at hh; omega)]
    exact h.2 j (by omega)
theorem KM.below {f : Nat → Value} {b off B E : Nat} {wr W W' : World} {m : Nat} (hb : Below W.heap.size W W') (h : KM f b off B E wr W m) : KM f b off B E wr W' m := ⟨h.1.trans (Kept.below hb), fun j hj => below_keep hb _ _ (h.2 j hj)⟩
theorem KM.close {f : Nat → Value} {b off B E : Nat} {w wr W : World} {m m' : Nat} (h : KM f b off B E wr W m') (hK : Kept B E w wr) (e : m = m') : Hid (Mk f W (some ⟨b, off, none⟩) m) ∧ Kept B E w W := ⟨fun _ => ⟨b, off, rfl, fun j hj => h.2 j (by omega)⟩, hK.trans h.1⟩
theorem KM.start {f : Nat → Value} {b off B E : Nat} {w wr : World} {m : Nat} (h : ∀ j, j < m → wr.cell? ⟨b, off + j, none⟩ = some (f j)) : KM f b off B E wr wr m := ⟨Kept.refl _ _ _, h⟩
theorem Mk.below {f : Nat → Value} {w w' : World} {A : Option Addr} {m : Nat} (h : Mk f w A m) (hb : Below w.heap.size w w') : Mk f w' A m := fun hm => by
  obtain ⟨b, off, e, hc⟩ := h hm
  exact ⟨b, off, e, fun j hj => below_keep hb _ _ (hc j hj)⟩

def mkXInt (k j : Nat) : Value := .int .i64 ((k + j : Nat) : Int)
theorem mkXInt_0 (k i : Nat) : mkXInt k (i * 1 + 0) = .int .i64 ((k + (i * 1 + 0) : Nat) : Int) := rfl
set_option maxRecDepth 100000 in
set_option maxHeartbeats 1000000 in
theorem marksXIntL (A : Option Addr) (n c : Nat) (ms : List Nat) (ok : Nat → Prop) (B E k : Nat) (w : World) (h : Sl (ShF 1) 1 ok w A n ms) (hm : mayMark B E w ok) (hk : k + n * 1 ≤ 1073741824) (hn : n ≤ 1048576) {x : Int} (hx : x = k) :
    Calls Try.prog 37 #[.slice A n c, .int .i64 x] w fun e w' => e = .returned (.int .i64 ((k + n * 1 : Nat) : Int)) ∧ Kept B E w w' ∧ Mk (mkXInt k) w' A (n * 1) := by
  obtain rfl : ms.length = n := h.1
  subst hx
  go_enter Try.func37, Try.ntmps37
  go_wp2_with fail
  go_loopw [1, 5] (fun m i wr => ∃ (j : Nat), j ≤ ms.length ∧ i = .int .i64 j ∧ m = .int .i64 ((k + j * 1 : Nat) : Int) ∧ Hid (Mk (mkXInt k) wr A (j * 1)) ∧ Kept B E w wr) (fun _ i _ => ms.length - (intOf i).toNat)
  case atStart => exact ⟨0, by omega, rfl, by simp, Lib.hid (fun h => by omega), Kept.refl _ _ _⟩
  case round =>
    obtain ⟨i, hi, rfl, rfl, hM, hK⟩ := hrel
    by_cases hlt : i < ms.length
    · have hsh := h.shape (ShF.keeps 1) hK
      have hmm := hm.kept hK
      obtain ⟨b, off, rfl, hob, hcs⟩ := hsh.2 (by omega)
      obtain ⟨cs, hcl, hR, hg⟩ := hcs i hlt
      have hM0 : ∀ j, j < i * 1 → wr.cell? ⟨b, off + j, none⟩ = some (mkXInt k j) := fun j hj => by
        obtain ⟨b', off', e, hc⟩ := hM.out (by omega)
        cases e
        exact hc j hj
      obtain ⟨hB, hE, -, hfr⟩ := hmm b hob
      obtain ⟨u0, rfl⟩ : ∃ u0, cs = [u0] := by
        have h0 := hR.1
        match cs, h0 with
        | [x0], _ => exact ⟨x0, rfl⟩
      have g0 : isSl u0 = false := hR.2.1 0 _ rfl
      have q0 : wr.cell? ⟨b, off + i, none⟩ = some (u0) := by have := hg 0 _ rfl; rwa [Nat.mul_one] at this
      have f0 := hfr (off + i)
      have Q0 := Lib.hid q0
      have G0 := Lib.hid g0
      have HB := Lib.hid hB
      have HE := Lib.hid hE
      have HR := Lib.hid hfr
      have HO := Lib.hid hob
      have HM0 := Lib.hid hM0
      have HMM := Lib.hid hmm
      have hle : k + i * 1 + 1 ≤ 1073741824 := by omega
      clear hsh hcs hg hR hB hE hfr hmm hM0 hM g0
      go_wp2_with fail
      go_roundw
      case rel =>
        refine ⟨i + 1, by omega, by go_num, by exact congrArg (Value.int .i64) (by omega), ?_⟩
        refine KM.close (m' := i * 1 + 0 + 1) ?_ hK (by omega)
        refine KM.set (m := i * 1 + 0) ?_ (by simp [Nat.add_assoc]) Q0.out G0.out HB.out HE.out rfl (by exact congrArg (Value.int .i64) (by omega)); exact KM.start (w := wr) HM0.out
      case measure => simp [intOf]; omega
    · obtain rfl : i = ms.length := by omega
      go_wp2_with fail
      go_ret
      exact ⟨rfl, hK, hM.out⟩

def mkXVal (k j : Nat) : Value := if j % 3 = 2 then .string (mtx (k + j)) else .int .i64 ((k + j : Nat) : Int)
theorem mkXVal_0 (k i : Nat) : mkXVal k (i * 3 + 0) = .int .i64 ((k + (i * 3 + 0) : Nat) : Int) := by unfold mkXVal; rw [if_neg (by omega)]
theorem mkXVal_1 (k i : Nat) : mkXVal k (i * 3 + 1) = .int .i64 ((k + (i * 3 + 1) : Nat) : Int) := by unfold mkXVal; rw [if_neg (by omega)]
theorem mkXVal_2 (k i : Nat) : mkXVal k (i * 3 + 2) = .string (mtx (k + (i * 3 + 2))) := by unfold mkXVal; rw [if_pos (by omega)]
def mkXFlaw (k j : Nat) : Value := .int .i64 ((k + j : Nat) : Int)
theorem mkXFlaw_0 (k i : Nat) : mkXFlaw k (i * 3 + 0) = .int .i64 ((k + (i * 3 + 0) : Nat) : Int) := rfl
theorem mkXFlaw_1 (k i : Nat) : mkXFlaw k (i * 3 + 1) = .int .i64 ((k + (i * 3 + 1) : Nat) : Int) := rfl
theorem mkXFlaw_2 (k i : Nat) : mkXFlaw k (i * 3 + 2) = .int .i64 ((k + (i * 3 + 2) : Nat) : Int) := rfl

end Go.Proofs.Ytkinegapnknhiaa
