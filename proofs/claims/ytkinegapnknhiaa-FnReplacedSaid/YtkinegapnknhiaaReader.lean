/-
  Contracts of the reader that draws inputs out of a code (l1Rd): each call returns, answers within its bounds, and turns nothing but the reader's own cells.
-/
import Derived.Test.YtkinegapnknhiaaMem
namespace Go.Proofs.Ytkinegapnknhiaa
open Go.RowKit

/-- The reader at block R of w: its bytes are the row a, len, cap, zs; its place is no more than len. -/
structure Rdr (w : World) (R : Nat) (a : Option Addr) (len cap : Nat) (zs : List Int) : Prop where
  code : w.cell? ⟨R, 0, none⟩ = some (.slice a len cap)
  place : ∃ p : Nat, p ≤ len ∧ w.cell? ⟨R, 1, none⟩ = some (.int .i64 p)
  free : w.frozen? ⟨R, 1, none⟩ = false
  row : IsRow .u8 w a len cap zs
  apart : ∀ x, a = some x → 0 < cap → x.block ≠ R

/-- Behind a call that drew: it answers what P says, the reader is a reader still, nothing else has turned. -/
def Drew (R : Nat) (a : Option Addr) (len cap : Nat) (zs : List Int) (P : Value → World → Prop) (w : World) (e : Ending) (w' : World) : Prop :=
  ∃ v, e = .returned v ∧ P v w' ∧ But R w w' ∧ Rdr w' R a len cap zs

def isInt (lo hi : Int) (v : Value) (_ : World) : Prop := ∃ n : Int, v = .int .i64 n ∧ lo ≤ n ∧ n ≤ hi

theorem Rdr.drewN {w : World} {R : Nat} {a : Option Addr} {len cap : Nat} {zs : List Int} (h : Rdr w R a len cap zs) (n : Nat) : Rdr (w.drewN n) R a len cap zs := ⟨h.code, h.place, h.free, h.row, h.apart⟩

theorem Rdr.step {w : World} {R : Nat} {a : Option Addr} {len cap : Nat} {zs : List Int} (h : Rdr w R a len cap zs) (p : Nat) (hp : p ≤ len) (n : Nat) : Rdr ((w.drewN n).setCell ⟨R, 1, none⟩ (.int .i64 p)) R a len cap zs := by
  obtain ⟨q, _, hq⟩ := h.place
  exact ⟨(World.cell?_setCell_other _ _ _ _ (by simp)).trans h.code, ⟨p, hp, World.cell?_setCell_same _ _ _ (u := .int .i64 q) hq⟩, (World.frozen?_setCell _ _ _ _).trans h.free,
    h.row.but (((But.refl R w).drewN n).setCell rfl _) h.apart, h.apart⟩

set_option maxHeartbeats 400000 in
theorem rdNext (w : World) (R : Nat) (a : Option Addr) (len cap : Nat) (zs : List Int) (h : Rdr w R a len cap zs) :
    Calls Try.prog 87 #[.pointer (some ⟨R, 0, none⟩)] w (Drew R a len cap zs (isInt 0 255) w) := by
  have hc0 := h.code
  obtain ⟨p, hp, hc1⟩ := h.place
  have hfz := h.free
  have hlen := h.row.len_le
  by_cases hlt : p < len
  · have hge : decide ((len : Int) ≤ p) = false := by simp; omega
    go_enter Try.func87, Try.ntmps87
    go_wp2
    go_quiet (fail)
    go_wp2
    have h2 := h.step (p + 1) (by omega) nq
    have hb := ((But.refl R w).drewN nq).setCell (p := ⟨R, 1, none⟩) rfl (.int .i64 ((p + 1 : Nat) : Int))
    have d1 := World.cell?_setCell_same (w.drewN nq) ⟨R, 1, none⟩ (.int .i64 ((p + 1 : Nat) : Int)) (u := .int .i64 p) hc1
    rw [show ((p + 1 : Nat) : Int) = (p : Int) + 1 by omega] at h2 hb d1
    generalize (w.drewN nq).setCell ⟨R, 1, none⟩ (.int .i64 ((p : Int) + 1)) = w2 at *
    clear hc0 hc1 hfz hge
    have d0 := h2.code
    obtain ⟨b, off, z, ha, hz, z0, z1⟩ := h2.row.byte hlt
    subst ha
    have H2 := Lib.hid h2; have HB := Lib.hid hb
    clear h2 hb h
    go_quiet (fail)
    go_wp2
    go_ret
    exact ⟨_, rfl, ⟨z, rfl, z0, z1⟩, HB.out.drewN _, H2.out.drewN _⟩
  · go_enter Try.func87, Try.ntmps87
    go_wp2
    go_quiet (fail)
    go_wp2
    go_ret
    exact ⟨_, rfl, ⟨0, rfl, by omega, by omega⟩, (But.refl _ _).drewN _, ⟨hc0, ⟨p, hp, hc1⟩, hfz, h.row, h.apart⟩⟩
/-- An answer of 'below n': 0 when n is at most 1, else less than n. -/
def isBelow (n : Int) (v : Value) (_ : World) : Prop := ∃ r : Int, v = .int .i64 r ∧ 0 ≤ r ∧ (r = 0 ∨ r < n)

set_option maxHeartbeats 400000 in
theorem rdBelow (n : Int) (w : World) (R : Nat) (a : Option Addr) (len cap : Nat) (zs : List Int) (h : Rdr w R a len cap zs) :
    Calls Try.prog 55 #[.pointer (some ⟨R, 0, none⟩), .int .i64 n] w (Drew R a len cap zs (isBelow n) w) := by
  by_cases h1 : n ≤ 1
  · go_enter Try.func55, Try.ntmps55
    go_wp2
    go_ret
    exact ⟨_, rfl, ⟨0, rfl, by omega, .inl rfl⟩, But.refl _ _, h⟩
  by_cases h2 : n ≤ 256
  · have g1 : 1 < n := by omega
    go_enter Try.func55, Try.ntmps55
    go_wp2_with fail
    refine (rdNext w R a len cap zs h).mono ?_
    rintro e w' ⟨v, rfl, ⟨x, rfl, x0, x1⟩, hb, hr⟩
    go_wp2_with fail
    go_ret
    exact ⟨_, rfl, ⟨x % n, rfl, Int.emod_nonneg _ (by omega), .inr (Int.emod_lt_of_pos _ (by omega))⟩, hb, hr⟩
  · have g1 : 256 < n := by omega
    go_enter Try.func55, Try.ntmps55
    go_wp2_with fail
    refine (rdNext w R a len cap zs h).mono ?_
    rintro e w' ⟨v, rfl, ⟨x, rfl, x0, x1⟩, hb, hr⟩
    go_wp2_with fail
    refine (rdNext w' R a len cap zs hr).mono ?_
    rintro e w2 ⟨v, rfl, ⟨y, rfl, y0, y1⟩, hb2, hr2⟩
    go_wp2_with fail
    go_ret
    exact ⟨_, rfl, ⟨(x * 256 + y) % n, rfl, Int.emod_nonneg _ (by omega), .inr (Int.emod_lt_of_pos _ (by omega))⟩, hb.trans hb2, hr2⟩
def isBool (v : Value) (_ : World) : Prop := ∃ b : Bool, v = .bool b

theorem rdOnce (n : Int) (w : World) (R : Nat) (a : Option Addr) (len cap : Nat) (zs : List Int) (h : Rdr w R a len cap zs) :
    Calls Try.prog 60 #[.pointer (some ⟨R, 0, none⟩), .int .i64 n] w (Drew R a len cap zs isBool w) := by
  go_enter Try.func60, Try.ntmps60
  go_wp2_with fail
  refine (rdBelow n w R a len cap zs h).mono ?_
  rintro e w' ⟨v, rfl, ⟨x, rfl, x0, x1⟩, hb, hr⟩
  go_wp2_with fail
  go_ret
  exact ⟨_, rfl, ⟨_, rfl⟩, hb, hr⟩

def isU64 (v : Value) (_ : World) : Prop := ∃ n : Int, v = .int .u64 n ∧ (Lit.int .u64 n).wf = true

set_option maxHeartbeats 1000000 in
theorem rdWord (w : World) (R : Nat) (a : Option Addr) (len cap : Nat) (zs : List Int) (h : Rdr w R a len cap zs) :
    Calls Try.prog 100 #[.pointer (some ⟨R, 0, none⟩)] w (Drew R a len cap zs isU64 w) := by
  go_enter Try.func100, Try.ntmps100
  go_wp2
  go_loopw [3, 4] (fun x i wr => ∃ (k : Nat) (n : Int), k ≤ 8 ∧ i = .int .i64 k ∧ x = .int .u64 n ∧ Hid ((Lit.int .u64 n).wf = true) ∧ But R w wr ∧ Rdr wr R a len cap zs) (fun _ i _ => 8 - (intOf i).toNat)
  case atStart => exact ⟨0, 0, by omega, rfl, rfl, Lib.hid (by decide), But.refl _ _, h⟩
  case round =>
    obtain ⟨k, n, hk, rfl, rfl, hn, hb, hr⟩ := hrel
    by_cases hlt : k < 8
    · go_wp2_with fail
      refine (rdNext wr R a len cap zs hr).mono ?_
      rintro e w' ⟨v, rfl, ⟨x, rfl, x0, x1⟩, hb2, hr2⟩
      go_wp2_with fail
      go_roundw
      case rel => exact ⟨k + 1, _, by omega, by go_num, rfl, Lib.hid (wf_bits _ _ _ _), hb.trans hb2, hr2⟩
      case measure => simp [intOf]; omega
    · go_wp2
      go_ret
      exact ⟨_, rfl, ⟨n, rfl, hn.out⟩, hb, hr⟩
end Go.Proofs.Ytkinegapnknhiaa
