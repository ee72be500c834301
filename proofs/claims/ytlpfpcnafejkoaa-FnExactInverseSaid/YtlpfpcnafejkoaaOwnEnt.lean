/-
  Marks of entries that a call made: each key in a block of its own.
-/
import Derived.Test.YtlpfpcnafejkoaaOwnMarks
namespace Go.Proofs.Ytlpfpcnafejkoaa
open Go.RowKit
set_option linter.unusedVariables false
set_option linter.unusedSimpArgs false

theorem marksOVal (A : Option Addr) (n c k : Nat) (bs : List Nat) (w : World) (h : FlS 3 w A n bs) (hk : k + n * 3 ≤ 1073741824) {x : Int} (hx : x = k) :
    Calls Try.prog 31 #[.slice A n c, .int .i64 x] w fun e w' => e = .returned (.int .i64 ((k + n * 3 : Nat) : Int)) ∧ KeptL bs w w' ∧ FlH mkXVal 3 w' k A n bs := by
  obtain ⟨hn, B, E, ms, h1, h2, h3, h4⟩ := h.pick mkXVal k
  exact (marksXValL A n c ms _ B E k w h1 h2 hk hn hx).mono (fun e w' ⟨he, hK, hM⟩ => ⟨he, h3 w' hK, h4 w' hM⟩)
theorem heldOVal (A : Option Addr) (n c k : Nat) (bs : List Nat) (w : World) (h : FlH mkXVal 3 w k A n bs) (hk : k + n * 3 ≤ 1073741824) {x : Int} (hx : x = k) :
    Calls Try.prog 32 #[.slice A n c, .int .i64 x] w fun e w' => e = .returned (.int .i64 ((k + n * 3 : Nat) : Int)) ∧ Below w.heap.size w w' :=
  heldXValL A n c k w h.mk hk h.1 hx

def EnS : ElS := fun w cs cnt bs => ∃ A n c x, cs = [.slice A n c, .int .i64 x] ∧ cnt = n * 3 + 1 ∧ FlS 3 w A n bs
def EnH : ElH := fun w k cs cnt bs => ∃ A n c, cs = [.slice A n c, .int .i64 ((k + n * 3 : Nat) : Int)] ∧ cnt = n * 3 + 1 ∧ FlH mkXVal 3 w k A n bs
theorem EnS.stay : StayS EnS := fun w w' cs cnt bs bs' ⟨A, n, c, x, e, e', h⟩ hk hd => ⟨A, n, c, x, e, e', h.stay hk hd⟩
theorem EnH.stay : StayH EnH := fun w w' k cs cnt bs bs' ⟨A, n, c, e, e', h⟩ hk hd => ⟨A, n, c, e, e', h.stay hk hd⟩

set_option maxRecDepth 100000 in
set_option maxHeartbeats 1000000 in
theorem marksOEntL (A : Option Addr) (n c : Nat) (cnts bs : List Nat) (k : Nat) (w : World) (h : ShL EnS 2 w A n cnts bs) (hk : k + cnts.sum ≤ 1073741824) {x : Int} (hx : x = k) :
    Calls Try.prog 21 #[.slice A n c, .int .i64 x] w fun e w' => e = .returned (.int .i64 ((k + cnts.sum : Nat) : Int)) ∧ KeptL bs w w' ∧ HdL EnH 2 w' k A n cnts bs := by
  have hn := h.1
  obtain ⟨hl, P, hP0, hP, hPn⟩ := h.walk EnS.stay EnH.stay k
  subst hx
  clear h
  go_enter Try.func21, Try.ntmps21
  go_wp2_with fail
  go_loopw [1, 5] (fun m i wr => ∃ (j : Nat), j ≤ n ∧ i = .int .i64 j ∧ m = .int .i64 ((k + (cnts.take j).sum : Nat) : Int) ∧ Hid (P j wr)) (fun _ i _ => n - (intOf i).toNat)
  case atStart => exact ⟨0, by omega, rfl, by simp, Lib.hid hP0⟩
  case round =>
    obtain ⟨i, hi, rfl, rfl, hI⟩ := hrel
    by_cases hlt : i < n
    · obtain ⟨b, off, bs', cs, rfl, hfr, hbs, hcl, ⟨A', n', c', x', rfl, hcn, hS⟩, hat, hb, hnext⟩ := hP i wr hlt hI.out
      have q0 : wr.cell? ⟨b, off + i * 2, none⟩ = some (.slice A' n' c') := hat 0 _ rfl
      have q1 : wr.cell? ⟨b, off + i * 2 + 1, none⟩ = some (.int .i64 x') := hat 1 _ rfl
      obtain ⟨hs1, hs2⟩ := sums_step hl hlt
      have HN := Lib.hid hnext
      have HF := Lib.hid hfr
      generalize hkk : (cnts.take i).sum = s at *
      generalize hcc : cnts.getD i 0 = cn at *
      subst hcn
      have i0 : (0 : Int) ≤ i := by omega
      have i1 : (i : Int) < n := by omega
      clear hnext hfr hat hP hPn hI
      go_wp2_with fail
      refine (marksOVal A' n' c' (k + s) bs' _ hS (by omega) (by simp)).mono ?_
      rintro e w1 ⟨rfl, hk1, hM1⟩
      have q0' := Lib.hid (hk1.far hb q0)
      have q1' := hk1.far hb q1
      have f1 := (hk1.frozen ⟨b, off + i * 2 + 1, none⟩ hbs).trans (HF.out _)
      have HM := Lib.hid hM1
      have HK := Lib.hid hk1
      have hle : k + s + (n' * 3 + 1) ≤ 1073741824 := by omega
      clear q0 q1 hk1 hM1
      go_wp2_with fail
      go_roundw
      case rel =>
        refine ⟨i + 1, by omega, by go_num, by rw [hs1]; exact congrArg (Value.int .i64) (by omega), Lib.hid ?_⟩
        refine HN.out _ [.slice A' n' c', .int .i64 ((k + s + n' * 3 : Nat) : Int)] (NM.set (o := off + i * 2 + 1) (NM.turn hbs (NM.refl _ _ _ _ _) HK.out (fun _ h => h) hb) rfl (by omega) (by omega)) rfl ⟨A', n', c', rfl, rfl, HM.out.stay (KeptL.set (bs := [b]) (KeptL.refl _ _) (List.mem_cons_self ..)) fun x hx hh => hb ((List.mem_singleton.1 hh) ▸ hx)⟩ ?_
        intro t v hv
        match t, hv with
        | 0, hv => cases hv; exact (World.cell?_setCell_other _ _ _ _ (by intro hh; simp only [Addr.mk.injEq] at hh; omega)).trans q0'.out
        | 1, hv => cases hv; exact World.cell?_setCell_same _ _ _ q1'
      case measure => simp [intOf]; omega
    · obtain rfl : i = n := by omega
      have hR := hPn _ hI.out
      rw [sums_all hl]
      go_wp2_with fail
      go_ret
      exact ⟨rfl, hR.1, hR.2⟩

set_option maxRecDepth 100000 in
set_option maxHeartbeats 1000000 in
theorem heldOEntL (A : Option Addr) (n c : Nat) (cnts bs : List Nat) (k : Nat) (w : World) (h : HdL EnH 2 w k A n cnts bs) (hk : k + cnts.sum ≤ 1073741824) {x : Int} (hx : x = k) :
    Calls Try.prog 23 #[.slice A n c, .int .i64 x] w fun e w' => e = .returned (.int .i64 ((k + cnts.sum : Nat) : Int)) ∧ Below w.heap.size w w' := by
  have hn := h.1
  have hl := h.len
  subst hx
  have HH := Lib.hid h
  clear h
  go_enter Try.func23, Try.ntmps23
  go_wp2_with fail
  go_loopw [1, 5] (fun m i wr => ∃ (j : Nat), j ≤ n ∧ i = .int .i64 j ∧ m = .int .i64 ((k + (cnts.take j).sum : Nat) : Int) ∧ Below w.heap.size w wr) (fun _ i _ => n - (intOf i).toNat)
  case atStart => exact ⟨0, by omega, rfl, by simp, Below.refl _ _⟩
  case round =>
    obtain ⟨i, hi, rfl, rfl, hb⟩ := hrel
    by_cases hlt : i < n
    · obtain ⟨b, off, bs', cs, rfl, hcl, ⟨A', n', c', rfl, hcn, hS⟩, hat⟩ := (HH.out.below EnH.stay hb).elem hlt
      have q0 : wr.cell? ⟨b, off + i * 2, none⟩ = some (.slice A' n' c') := hat 0 _ rfl
      have q1 : wr.cell? ⟨b, off + i * 2 + 1, none⟩ = some (.int .i64 ((k + (cnts.take i).sum + n' * 3 : Nat) : Int)) := hat 1 _ rfl
      obtain ⟨hs1, hs2⟩ := sums_step hl hlt
      generalize hkk : (cnts.take i).sum = s at *
      generalize hcc : cnts.getD i 0 = cn at *
      subst hcn
      have i0 : (0 : Int) ≤ i := by omega
      have i1 : (i : Int) < n := by omega
      clear hat
      go_wp2_with fail
      refine (heldOVal A' n' c' (k + s) bs' _ hS (by omega) (by simp)).mono ?_
      rintro e w1 ⟨rfl, hb1⟩
      have q1' := below_keep hb1 _ _ q1
      have hle : k + s + (n' * 3 + 1) ≤ 1073741824 := by omega
      have h0 : ¬ (((k + s + n' * 3 : Nat) : Int) < 0) := by omega
      clear q0 q1
      go_wp2_with fail
      go_roundw
      case rel => exact ⟨i + 1, by omega, by go_num, by rw [hs1]; exact congrArg (Value.int .i64) (by omega), hb.trans (hb1.mono hb.size)⟩
      case measure => simp [intOf]; omega
    · obtain rfl : i = n := by omega
      rw [sums_all hl]
      go_wp2_with fail
      go_ret
      exact ⟨rfl, hb⟩

end Go.Proofs.Ytlpfpcnafejkoaa
