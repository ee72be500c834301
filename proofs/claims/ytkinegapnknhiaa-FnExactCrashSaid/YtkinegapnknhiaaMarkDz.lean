/-
  What the marks leave in lists of files and of ops on files, and how they are held.
-/
import Derived.Test.YtkinegapnknhiaaMarkX
import Derived.Test.YtkinegapnknhiaaMarkText
namespace Go.Proofs.Ytkinegapnknhiaa
open Go.RowKit
set_option linter.unusedVariables false
set_option linter.unusedSimpArgs false

def mkXFile (k j : Nat) : Value := .string (mtx (k + j))
theorem mkXFile_0 (k i : Nat) : mkXFile k (i * 2 + 0) = .string (mtx (k + (i * 2 + 0))) := rfl
theorem mkXFile_1 (k i : Nat) : mkXFile k (i * 2 + 1) = .string (mtx (k + (i * 2 + 1))) := rfl
set_option maxRecDepth 100000 in
set_option maxHeartbeats 1000000 in
theorem marksXFileL (A : Option Addr) (n c : Nat) (ms : List Nat) (ok : Nat → Prop) (B E k : Nat) (w : World) (h : Sl (ShF 2) 2 ok w A n ms) (hm : mayMark B E w ok) (hk : k + n * 2 ≤ 1073741824) (hn : n ≤ 1048576) {x : Int} (hx : x = k) :
    Calls Try.prog 72 #[.slice A n c, .int .i64 x] w fun e w' => e = .returned (.int .i64 ((k + n * 2 : Nat) : Int)) ∧ Kept B E w w' ∧ Mk (mkXFile k) w' A (n * 2) := by
  obtain rfl : ms.length = n := h.1
  subst hx
  go_enter Try.func72, Try.ntmps72
  go_wp2_with fail
  go_loopw [1, 5] (fun m i wr => ∃ (j : Nat), j ≤ ms.length ∧ i = .int .i64 j ∧ m = .int .i64 ((k + j * 2 : Nat) : Int) ∧ Hid (Mk (mkXFile k) wr A (j * 2)) ∧ Kept B E w wr) (fun _ i _ => ms.length - (intOf i).toNat)
  case atStart => exact ⟨0, by omega, rfl, by simp, Lib.hid (fun h => by omega), Kept.refl _ _ _⟩
  case round =>
    obtain ⟨i, hi, rfl, rfl, hM, hK⟩ := hrel
    by_cases hlt : i < ms.length
    · have hsh := h.shape (ShF.keeps 2) hK
      have hmm := hm.kept hK
      obtain ⟨b, off, rfl, hob, hcs⟩ := hsh.2 (by omega)
      obtain ⟨cs, hcl, hR, hg⟩ := hcs i hlt
      have hM0 : ∀ j, j < i * 2 → wr.cell? ⟨b, off + j, none⟩ = some (mkXFile k j) := fun j hj => by
        obtain ⟨b', off', e, hc⟩ := hM.out (by omega)
        cases e
        exact hc j hj
      obtain ⟨hB, hE, -, hfr⟩ := hmm b hob
      obtain ⟨u0, u1, rfl⟩ : ∃ u0 u1, cs = [u0, u1] := by
        have h0 := hR.1
        match cs, h0 with
        | [x0, x1], _ => exact ⟨x0, x1, rfl⟩
      have g0 : isSl u0 = false := hR.2.1 0 _ rfl
      have g1 : isSl u1 = false := hR.2.1 1 _ rfl
      have q0 : wr.cell? ⟨b, off + i * 2, none⟩ = some (u0) := hg 0 _ rfl
      have q1 : wr.cell? ⟨b, off + i * 2 + 1, none⟩ = some (u1) := hg 1 _ rfl
      have f0 := hfr (off + i * 2)
      have f1 := hfr (off + i * 2 + 1)
      have Q0 := Lib.hid q0
      have Q1 := Lib.hid q1
      have G0 := Lib.hid g0
      have G1 := Lib.hid g1
      have HB := Lib.hid hB
      have HE := Lib.hid hE
      have HR := Lib.hid hfr
      have HO := Lib.hid hob
      have HM0 := Lib.hid hM0
      have HMM := Lib.hid hmm
      have hle : k + i * 2 + 2 ≤ 1073741824 := by omega
      clear hsh hcs hg hR hB hE hfr hmm hM0 hM g0 g1
      go_wp2_with fail
      refine (lawsMarkText (k + (i * 2 + 0)) _ (by omega) (by omega)).mono ?_
      rintro e w1 ⟨rfl, hb1⟩
      have hk1 : KM (mkXFile k) b off B E wr w1 (i * 2 + 0) := by refine KM.below hb1 ?_; exact KM.start (w := wr) HM0.out
      obtain ⟨v1_0, z1_0, -, -⟩ := hk1.1.cell _ _ Q0.out
      have k1_0 := (HMM.out.kept hk1.1 b HO.out).2.2.2 (off + i * 2)
      obtain ⟨v1_1, z1_1, -, -⟩ := hk1.1.cell _ _ Q1.out
      have k1_1 := (HMM.out.kept hk1.1 b HO.out).2.2.2 (off + i * 2 + 1)
      have HK1 := Lib.hid hk1
      clear hk1 q0 f0 q1 f1
      go_wp2_with fail
      refine (lawsMarkText (k + (i * 2 + 1)) _ (by omega) (by omega)).mono ?_
      rintro e w2 ⟨rfl, hb2⟩
      have hk2 : KM (mkXFile k) b off B E wr w2 (i * 2 + 1) := by refine KM.below hb2 ?_; refine KM.set (m := i * 2 + 0) ?_ (by simp [Nat.add_assoc]) Q0.out G0.out HB.out HE.out rfl (by first | (rw [mkXFile_0]; done) | (rw [mkXFile_0]; congr 2 <;> omega)); exact HK1.out
      obtain ⟨v2_0, z2_0, -, -⟩ := hk2.1.cell _ _ Q0.out
      have k2_0 := (HMM.out.kept hk2.1 b HO.out).2.2.2 (off + i * 2)
      obtain ⟨v2_1, z2_1, -, -⟩ := hk2.1.cell _ _ Q1.out
      have k2_1 := (HMM.out.kept hk2.1 b HO.out).2.2.2 (off + i * 2 + 1)
      have HK2 := Lib.hid hk2
      clear hk2 z1_0 k1_0 z1_1 k1_1
      go_wp2_with fail
      go_roundw
      case rel =>
        refine ⟨i + 1, by omega, by go_num, by exact congrArg (Value.int .i64) (by omega), ?_⟩
        refine KM.close (m' := i * 2 + 1 + 1) ?_ hK (by omega)
        refine KM.set (m := i * 2 + 1) ?_ (by simp [Nat.add_assoc]) Q1.out G1.out HB.out HE.out rfl (by first | (rw [mkXFile_1]; done) | (rw [mkXFile_1]; congr 2 <;> omega)); exact HK2.out
      case measure => simp [intOf]; omega
    · obtain rfl : i = ms.length := by omega
      go_wp2_with fail
      go_ret
      exact ⟨rfl, hK, hM.out⟩

set_option maxRecDepth 100000 in
set_option maxHeartbeats 1000000 in
theorem heldXFileL (A : Option Addr) (n c k : Nat) (w : World) (h : Mk (mkXFile k) w A (n * 2)) (hk : k + n * 2 ≤ 1073741824) (hn : n ≤ 1048576) {x : Int} (hx : x = k) :
    Calls Try.prog 74 #[.slice A n c, .int .i64 x] w fun e w' => e = .returned (.int .i64 ((k + n * 2 : Nat) : Int)) ∧ Below w.heap.size w w' := by
  subst hx
  have HH := Lib.hid h
  clear h
  go_enter Try.func74, Try.ntmps74
  go_wp2_with fail
  go_loopw [1, 5] (fun m i wr => ∃ (j : Nat), j ≤ n ∧ i = .int .i64 j ∧ m = .int .i64 ((k + j * 2 : Nat) : Int) ∧ Below w.heap.size w wr) (fun _ i _ => n - (intOf i).toNat)
  case atStart => exact ⟨0, by omega, rfl, by simp, Below.refl _ _⟩
  case round =>
    obtain ⟨i, hi, rfl, rfl, hb⟩ := hrel
    by_cases hlt : i < n
    · obtain ⟨b, off, rfl, hc⟩ := (HH.out.below hb) (by omega)
      have hle : k + i * 2 + 2 ≤ 1073741824 := by omega
      have q0 : wr.cell? ⟨b, off + i * 2, none⟩ = some (.string (mtx (k + i * 2))) := by have := hc (i * 2 + 0) (by omega); rw [mkXFile_0] at this; exact this
      have q1 : wr.cell? ⟨b, off + i * 2 + 1, none⟩ = some (.string (mtx (k + (i * 2 + 1)))) := by have := hc (i * 2 + 1) (by omega); rwa [mkXFile_1, ← Nat.add_assoc] at this
      have i0 : (0 : Int) ≤ i := by omega
      have i1 : (i : Int) < n := by omega
      have Q0 := Lib.hid q0
      have Q1 := Lib.hid q1
      clear hc
      have hz0 := hb
      go_wp2_with fail
      go_region_held3 (fun w' => w'.cell? ⟨b, off + i * 2, none⟩ = some (.string (mtx (k + i * 2))))
        (first | go_keep | exact below_keep hb1 _ _ (by assumption))
        (first | (go_at_call 96; refine (lawsMarkText (k + i * 2) _ (by omega) (by omega)).mono ?_; rintro e w1 ⟨rfl, hb1⟩))
      have hz1 := (hz0.drew).trans (hb1.mono hz0.size)
      have q1 := below_keep hb1 _ _ (show (World.drew _).cell? _ = _ from q1)
      go_wp2_with fail
      go_region_held3 (fun w' => w'.cell? ⟨b, off + i * 2 + 1, none⟩ = some (.string (mtx (k + (i * 2 + 1)))))
        (first | go_keep | exact below_keep hb2 _ _ (by assumption))
        (first | (go_at_call 96; refine (lawsMarkText (k + (i * 2 + 1)) _ (by omega) (by omega)).mono ?_; rintro e w2 ⟨rfl, hb2⟩))
      have hz2 := (hz1.drew).trans (hb2.mono hz1.size)
      go_wp2
      go_roundw
      case rel => exact ⟨i + 1, by omega, by go_num, by exact congrArg (Value.int .i64) (by omega), hz2⟩
      case measure => simp [intOf]; omega
    · obtain rfl : i = n := by omega
      go_wp2_with fail
      go_ret
      exact ⟨rfl, hb⟩

def mkXDOp (k j : Nat) : Value := if j % 4 = 0 then .int .i64 ((k + j : Nat) : Int) else .string (mtx (k + j))
theorem mkXDOp_0 (k i : Nat) : mkXDOp k (i * 4 + 0) = .int .i64 ((k + (i * 4 + 0) : Nat) : Int) := by unfold mkXDOp; rw [if_pos (by omega)]
theorem mkXDOp_1 (k i : Nat) : mkXDOp k (i * 4 + 1) = .string (mtx (k + (i * 4 + 1))) := by unfold mkXDOp; rw [if_neg (by omega)]
theorem mkXDOp_2 (k i : Nat) : mkXDOp k (i * 4 + 2) = .string (mtx (k + (i * 4 + 2))) := by unfold mkXDOp; rw [if_neg (by omega)]
theorem mkXDOp_3 (k i : Nat) : mkXDOp k (i * 4 + 3) = .string (mtx (k + (i * 4 + 3))) := by unfold mkXDOp; rw [if_neg (by omega)]
set_option maxRecDepth 100000 in
set_option maxHeartbeats 1000000 in
theorem marksXDOpL (A : Option Addr) (n c : Nat) (ms : List Nat) (ok : Nat → Prop) (B E k : Nat) (w : World) (h : Sl (ShF 4) 4 ok w A n ms) (hm : mayMark B E w ok) (hk : k + n * 4 ≤ 1073741824) (hn : n ≤ 1048576) {x : Int} (hx : x = k) :
    Calls Try.prog 73 #[.slice A n c, .int .i64 x] w fun e w' => e = .returned (.int .i64 ((k + n * 4 : Nat) : Int)) ∧ Kept B E w w' ∧ Mk (mkXDOp k) w' A (n * 4) := by
  obtain rfl : ms.length = n := h.1
  subst hx
  go_enter Try.func73, Try.ntmps73
  go_wp2_with fail
  go_loopw [1, 5] (fun m i wr => ∃ (j : Nat), j ≤ ms.length ∧ i = .int .i64 j ∧ m = .int .i64 ((k + j * 4 : Nat) : Int) ∧ Hid (Mk (mkXDOp k) wr A (j * 4)) ∧ Kept B E w wr) (fun _ i _ => ms.length - (intOf i).toNat)
  case atStart => exact ⟨0, by omega, rfl, by simp, Lib.hid (fun h => by omega), Kept.refl _ _ _⟩
  case round =>
    obtain ⟨i, hi, rfl, rfl, hM, hK⟩ := hrel
    by_cases hlt : i < ms.length
    · have hsh := h.shape (ShF.keeps 4) hK
      have hmm := hm.kept hK
      obtain ⟨b, off, rfl, hob, hcs⟩ := hsh.2 (by omega)
      obtain ⟨cs, hcl, hR, hg⟩ := hcs i hlt
      have hM0 : ∀ j, j < i * 4 → wr.cell? ⟨b, off + j, none⟩ = some (mkXDOp k j) := fun j hj => by
        obtain ⟨b', off', e, hc⟩ := hM.out (by omega)
        cases e
        exact hc j hj
      obtain ⟨hB, hE, -, hfr⟩ := hmm b hob
      obtain ⟨u0, u1, u2, u3, rfl⟩ : ∃ u0 u1 u2 u3, cs = [u0, u1, u2, u3] := by
        have h0 := hR.1
        match cs, h0 with
        | [x0, x1, x2, x3], _ => exact ⟨x0, x1, x2, x3, rfl⟩
      have g0 : isSl u0 = false := hR.2.1 0 _ rfl
      have g1 : isSl u1 = false := hR.2.1 1 _ rfl
      have g2 : isSl u2 = false := hR.2.1 2 _ rfl
      have g3 : isSl u3 = false := hR.2.1 3 _ rfl
      have q0 : wr.cell? ⟨b, off + i * 4, none⟩ = some (u0) := hg 0 _ rfl
      have q1 : wr.cell? ⟨b, off + i * 4 + 1, none⟩ = some (u1) := hg 1 _ rfl
      have q2 : wr.cell? ⟨b, off + i * 4 + 2, none⟩ = some (u2) := hg 2 _ rfl
      have q3 : wr.cell? ⟨b, off + i * 4 + 3, none⟩ = some (u3) := hg 3 _ rfl
      have f0 := hfr (off + i * 4)
      have f1 := hfr (off + i * 4 + 1)
      have f2 := hfr (off + i * 4 + 2)
      have f3 := hfr (off + i * 4 + 3)
      have Q0 := Lib.hid q0
      have Q1 := Lib.hid q1
      have Q2 := Lib.hid q2
      have Q3 := Lib.hid q3
      have G0 := Lib.hid g0
      have G1 := Lib.hid g1
      have G2 := Lib.hid g2
      have G3 := Lib.hid g3
      have HB := Lib.hid hB
      have HE := Lib.hid hE
      have HR := Lib.hid hfr
      have HO := Lib.hid hob
      have HM0 := Lib.hid hM0
      have HMM := Lib.hid hmm
      have hle : k + i * 4 + 4 ≤ 1073741824 := by omega
      clear hsh hcs hg hR hB hE hfr hmm hM0 hM g0 g1 g2 g3
      go_wp2_with fail
      refine (lawsMarkText (k + (i * 4 + 1)) _ (by omega) (by omega)).mono ?_
      rintro e w1 ⟨rfl, hb1⟩
      have hk1 : KM (mkXDOp k) b off B E wr w1 (i * 4 + 1) := by refine KM.below hb1 ?_; refine KM.set (m := i * 4 + 0) ?_ (by simp [Nat.add_assoc]) Q0.out G0.out HB.out HE.out rfl (by rw [mkXDOp_0]; exact congrArg (Value.int .i64) (by omega)); exact KM.start (w := wr) HM0.out
      obtain ⟨v1_0, z1_0, -, -⟩ := hk1.1.cell _ _ Q0.out
      have k1_0 := (HMM.out.kept hk1.1 b HO.out).2.2.2 (off + i * 4)
      obtain ⟨v1_1, z1_1, -, -⟩ := hk1.1.cell _ _ Q1.out
      have k1_1 := (HMM.out.kept hk1.1 b HO.out).2.2.2 (off + i * 4 + 1)
      obtain ⟨v1_2, z1_2, -, -⟩ := hk1.1.cell _ _ Q2.out
      have k1_2 := (HMM.out.kept hk1.1 b HO.out).2.2.2 (off + i * 4 + 2)
      obtain ⟨v1_3, z1_3, -, -⟩ := hk1.1.cell _ _ Q3.out
      have k1_3 := (HMM.out.kept hk1.1 b HO.out).2.2.2 (off + i * 4 + 3)
      have HK1 := Lib.hid hk1
      clear hk1 q0 f0 q1 f1 q2 f2 q3 f3
      go_wp2_with fail
      refine (lawsMarkText (k + (i * 4 + 2)) _ (by omega) (by omega)).mono ?_
      rintro e w2 ⟨rfl, hb2⟩
      have hk2 : KM (mkXDOp k) b off B E wr w2 (i * 4 + 2) := by refine KM.below hb2 ?_; refine KM.set (m := i * 4 + 1) ?_ (by simp [Nat.add_assoc]) Q1.out G1.out HB.out HE.out rfl (by first | (rw [mkXDOp_1]; done) | (rw [mkXDOp_1]; congr 2 <;> omega)); exact HK1.out
      obtain ⟨v2_0, z2_0, -, -⟩ := hk2.1.cell _ _ Q0.out
      have k2_0 := (HMM.out.kept hk2.1 b HO.out).2.2.2 (off + i * 4)
      obtain ⟨v2_1, z2_1, -, -⟩ := hk2.1.cell _ _ Q1.out
      have k2_1 := (HMM.out.kept hk2.1 b HO.out).2.2.2 (off + i * 4 + 1)
      obtain ⟨v2_2, z2_2, -, -⟩ := hk2.1.cell _ _ Q2.out
      have k2_2 := (HMM.out.kept hk2.1 b HO.out).2.2.2 (off + i * 4 + 2)
      obtain ⟨v2_3, z2_3, -, -⟩ := hk2.1.cell _ _ Q3.out
      have k2_3 := (HMM.out.kept hk2.1 b HO.out).2.2.2 (off + i * 4 + 3)
      have HK2 := Lib.hid hk2
      clear hk2 z1_0 k1_0 z1_1 k1_1 z1_2 k1_2 z1_3 k1_3
      go_wp2_with fail
      refine (lawsMarkText (k + (i * 4 + 3)) _ (by omega) (by omega)).mono ?_
      rintro e w3 ⟨rfl, hb3⟩
      have hk3 : KM (mkXDOp k) b off B E wr w3 (i * 4 + 3) := by refine KM.below hb3 ?_; refine KM.set (m := i * 4 + 2) ?_ (by simp [Nat.add_assoc]) Q2.out G2.out HB.out HE.out rfl (by first | (rw [mkXDOp_2]; done) | (rw [mkXDOp_2]; congr 2 <;> omega)); exact HK2.out
      obtain ⟨v3_0, z3_0, -, -⟩ := hk3.1.cell _ _ Q0.out
      have k3_0 := (HMM.out.kept hk3.1 b HO.out).2.2.2 (off + i * 4)
      obtain ⟨v3_1, z3_1, -, -⟩ := hk3.1.cell _ _ Q1.out
      have k3_1 := (HMM.out.kept hk3.1 b HO.out).2.2.2 (off + i * 4 + 1)
      obtain ⟨v3_2, z3_2, -, -⟩ := hk3.1.cell _ _ Q2.out
      have k3_2 := (HMM.out.kept hk3.1 b HO.out).2.2.2 (off + i * 4 + 2)
      obtain ⟨v3_3, z3_3, -, -⟩ := hk3.1.cell _ _ Q3.out
      have k3_3 := (HMM.out.kept hk3.1 b HO.out).2.2.2 (off + i * 4 + 3)
      have HK3 := Lib.hid hk3
      clear hk3 z2_0 k2_0 z2_1 k2_1 z2_2 k2_2 z2_3 k2_3
      go_wp2_with fail
      go_roundw
      case rel =>
        refine ⟨i + 1, by omega, by go_num, by exact congrArg (Value.int .i64) (by omega), ?_⟩
        refine KM.close (m' := i * 4 + 3 + 1) ?_ hK (by omega)
        refine KM.set (m := i * 4 + 3) ?_ (by simp [Nat.add_assoc]) Q3.out G3.out HB.out HE.out rfl (by first | (rw [mkXDOp_3]; done) | (rw [mkXDOp_3]; congr 2 <;> omega)); exact HK3.out
      case measure => simp [intOf]; omega
    · obtain rfl : i = ms.length := by omega
      go_wp2_with fail
      go_ret
      exact ⟨rfl, hK, hM.out⟩

set_option maxRecDepth 100000 in
set_option maxHeartbeats 1000000 in
theorem heldXDOpL (A : Option Addr) (n c k : Nat) (w : World) (h : Mk (mkXDOp k) w A (n * 4)) (hk : k + n * 4 ≤ 1073741824) (hn : n ≤ 1048576) {x : Int} (hx : x = k) :
    Calls Try.prog 75 #[.slice A n c, .int .i64 x] w fun e w' => e = .returned (.int .i64 ((k + n * 4 : Nat) : Int)) ∧ Below w.heap.size w w' := by
  subst hx
  have HH := Lib.hid h
  clear h
  go_enter Try.func75, Try.ntmps75
  go_wp2_with fail
  go_loopw [1, 5] (fun m i wr => ∃ (j : Nat), j ≤ n ∧ i = .int .i64 j ∧ m = .int .i64 ((k + j * 4 : Nat) : Int) ∧ Below w.heap.size w wr) (fun _ i _ => n - (intOf i).toNat)
  case atStart => exact ⟨0, by omega, rfl, by simp, Below.refl _ _⟩
  case round =>
    obtain ⟨i, hi, rfl, rfl, hb⟩ := hrel
    by_cases hlt : i < n
    · obtain ⟨b, off, rfl, hc⟩ := (HH.out.below hb) (by omega)
      have hle : k + i * 4 + 4 ≤ 1073741824 := by omega
      have q0 : wr.cell? ⟨b, off + i * 4, none⟩ = some (.int .i64 ((k + (i * 4 + 0) : Nat) : Int)) := by have := hc (i * 4 + 0) (by omega); rwa [mkXDOp_0] at this
      have q1 : wr.cell? ⟨b, off + i * 4 + 1, none⟩ = some (.string (mtx (k + (i * 4 + 1)))) := by have := hc (i * 4 + 1) (by omega); rwa [mkXDOp_1, ← Nat.add_assoc] at this
      have q2 : wr.cell? ⟨b, off + i * 4 + 2, none⟩ = some (.string (mtx (k + (i * 4 + 2)))) := by have := hc (i * 4 + 2) (by omega); rwa [mkXDOp_2, ← Nat.add_assoc] at this
      have q3 : wr.cell? ⟨b, off + i * 4 + 3, none⟩ = some (.string (mtx (k + (i * 4 + 3)))) := by have := hc (i * 4 + 3) (by omega); rwa [mkXDOp_3, ← Nat.add_assoc] at this
      have i0 : (0 : Int) ≤ i := by omega
      have i1 : (i : Int) < n := by omega
      have Q0 := Lib.hid q0
      have Q1 := Lib.hid q1
      have Q2 := Lib.hid q2
      have Q3 := Lib.hid q3
      clear hc
      have hz0 := hb
      go_wp2_with fail
      go_region_held3 (fun w' => w'.cell? ⟨b, off + i * 4 + 1, none⟩ = some (.string (mtx (k + (i * 4 + 1)))))
        (first | go_keep | exact below_keep hb1 _ _ (by assumption))
        (first | (go_at_call 96; refine (lawsMarkText (k + (i * 4 + 1)) _ (by omega) (by omega)).mono ?_; rintro e w1 ⟨rfl, hb1⟩))
      have hz1 := (hz0.drew).trans (hb1.mono hz0.size)
      have q2 := below_keep hb1 _ _ (show (World.drew _).cell? _ = _ from q2)
      have q3 := below_keep hb1 _ _ (show (World.drew _).cell? _ = _ from q3)
      go_wp2_with fail
      go_region_held3 (fun w' => w'.cell? ⟨b, off + i * 4 + 2, none⟩ = some (.string (mtx (k + (i * 4 + 2)))))
        (first | go_keep | exact below_keep hb2 _ _ (by assumption))
        (first | (go_at_call 96; refine (lawsMarkText (k + (i * 4 + 2)) _ (by omega) (by omega)).mono ?_; rintro e w2 ⟨rfl, hb2⟩))
      have hz2 := (hz1.drew).trans (hb2.mono hz1.size)
      have q3 := below_keep hb2 _ _ (show (World.drew _).cell? _ = _ from q3)
      go_wp2_with fail
      go_region_held3 (fun w' => w'.cell? ⟨b, off + i * 4 + 3, none⟩ = some (.string (mtx (k + (i * 4 + 3)))))
        (first | go_keep | exact below_keep hb3 _ _ (by assumption))
        (first | (go_at_call 96; refine (lawsMarkText (k + (i * 4 + 3)) _ (by omega) (by omega)).mono ?_; rintro e w3 ⟨rfl, hb3⟩))
      have hz3 := (hz2.drew).trans (hb3.mono hz2.size)
      go_wp2
      go_roundw
      case rel => exact ⟨i + 1, by omega, by go_num, by exact congrArg (Value.int .i64) (by omega), hz3⟩
      case measure => simp [intOf]; omega
    · obtain rfl : i = n := by omega
      go_wp2_with fail
      go_ret
      exact ⟨rfl, hb⟩

end Go.Proofs.Ytkinegapnknhiaa
