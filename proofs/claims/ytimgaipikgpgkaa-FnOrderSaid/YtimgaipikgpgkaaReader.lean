/-
  Contracts of the reader that draws inputs out of a code (l1Rd): each call returns, answers within its bounds, and turns nothing but the reader's own cells.
-/
import Derived.Test.YtimgaipikgpgkaaBase
import Derived.Deep.QuietTactic
import Derived.BigQuiet
import Derived.WalkSpells
import Derived.WalkLawsBesides
namespace Go.Proofs.Ytimgaipikgpgkaa
open Go.RowKit

/-- All blocks of w but R are in w' as they were. -/
structure But (R : Nat) (w w' : World) : Prop where
  os : w'.os = w.os
  tape : w'.tape = w.tape
  output : w'.output = w.output
  size : w.heap.size ≤ w'.heap.size
  block : ∀ k, k < w.heap.size → k ≠ R → w'.heap[k]? = w.heap[k]?

theorem But.refl (R : Nat) (w : World) : But R w w := ⟨rfl, rfl, rfl, Nat.le_refl _, fun _ _ _ => rfl⟩
theorem But.trans {R : Nat} {a b c : World} (h : But R a b) (k : But R b c) : But R a c :=
  ⟨k.os.trans h.os, k.tape.trans h.tape, k.output.trans h.output, Nat.le_trans h.size k.size, fun i hi hr => (k.block i (Nat.lt_of_lt_of_le hi h.size) hr).trans (h.block i hi hr)⟩
theorem But.drew {R : Nat} {a w : World} (h : But R a w) : But R a w.drew := ⟨h.os, h.tape, h.output, h.size, h.block⟩
theorem But.drewN {R : Nat} {a w : World} (h : But R a w) (n : Nat) : But R a (w.drewN n) := ⟨h.os, h.tape, h.output, h.size, h.block⟩
theorem But.alloc {R : Nat} {a w : World} (h : But R a w) (o : Obj) : But R a (w.alloc o) :=
  h.trans ⟨rfl, rfl, rfl, by simp, fun k hk _ => Below.heap_alloc _ _ _ hk⟩
theorem But.setCell {R : Nat} {a w : World} (h : But R a w) {p : Addr} (hp : p.block = R) (u : Value) : But R a (w.setCell p u) :=
  h.trans ⟨rfl, rfl, rfl, by simp [World.setCell], fun k _ hr => Below.heap_setCell _ _ _ _ (by omega)⟩
/-- A store into a block that is newer than all of a. -/
theorem But.setNew {R : Nat} {a w : World} (h : But R a w) {p : Addr} (hp : a.heap.size ≤ p.block) (u : Value) : But R a (w.setCell p u) :=
  ⟨h.os, h.tape, h.output, by simpa [World.setCell] using h.size, fun k hk hr => (Below.heap_setCell _ _ _ _ (by omega)).trans (h.block k hk hr)⟩
theorem But.cell {R : Nat} {w w' : World} (h : But R w w') {p : Addr} (hp : p.block < w.heap.size) (hr : p.block ≠ R) : w'.cell? p = w.cell? p := World.cell?_of_block (w := w) (h.block p.block hp hr)
theorem But.frozen {R : Nat} {w w' : World} (h : But R w w') {p : Addr} (hp : p.block < w.heap.size) (hr : p.block ≠ R) : w'.frozen? p = w.frozen? p := World.frozen?_of_block (w := w) (h.block p.block hp hr)
theorem But.below {R B : Nat} {w w' : World} (h : But R w w') (hB : B ≤ R) (hw : B ≤ w.heap.size) : Below B w w' :=
  ⟨h.os, h.tape, h.output, h.size, fun k hk => h.block k (by omega) (by omega)⟩

/-- The reader at block R of w: its bytes are the row a, len, cap, zs; its place is no more than len. -/
structure Rd (w : World) (R : Nat) (a : Option Addr) (len cap : Nat) (zs : List Int) : Prop where
  code : w.cell? ⟨R, 0, none⟩ = some (.slice a len cap)
  place : ∃ p : Nat, p ≤ len ∧ w.cell? ⟨R, 1, none⟩ = some (.int .i64 p)
  free : w.frozen? ⟨R, 1, none⟩ = false
  row : IsRow .u8 w a len cap zs
  apart : ∀ x, a = some x → 0 < cap → x.block ≠ R

theorem cell_lt {w : World} {p : Addr} {v : Value} (h : w.cell? p = some v) : p.block < w.heap.size := by
  by_cases hb : p.block < w.heap.size
  · exact hb
  · simp [World.cell?, Array.getElem?_eq_none (Nat.le_of_not_lt hb)] at h

theorem add_block (x : Addr) (i : Nat) : (x.add i).block = x.block := by
  unfold Addr.add; split <;> rfl

theorem IsRow.but {R : Nat} {w w' : World} {a : Option Addr} {len cap : Nat} {zs : List Int} (h : IsRow .u8 w a len cap zs) (hb : But R w w') (hr : ∀ x, a = some x → 0 < cap → x.block ≠ R) : IsRow .u8 w' a len cap zs := by
  rcases h with h | ⟨x, rfl, hl, hm, hz, hcell, hwz⟩
  · exact .inl h
  · refine .inr ⟨x, rfl, hl, hm, hz, fun i hi => ?_, hwz⟩
    have h1 := hcell i hi
    rw [hb.cell (cell_lt h1) (by rw [add_block]; exact hr x rfl (by omega))]
    exact h1

/-- A byte of the row. -/
theorem IsRow.byte {w : World} {a : Option Addr} {len cap : Nat} {zs : List Int} (h : IsRow .u8 w a len cap zs) {i : Nat} (hi : i < len) :
    ∃ b off : Nat, ∃ z : Int, a = some ⟨b, off, none⟩ ∧ w.cell? ⟨b, off + i, none⟩ = some (.int .u8 z) ∧ 0 ≤ z ∧ z ≤ 255 := by
  rcases h with ⟨_, h, _⟩ | ⟨x, rfl, hl, hm, hz, hcell, hwz⟩
  · omega
  · obtain ⟨b, off, spot⟩ := x
    have hc := hcell i (by omega)
    have e : zs.getD i 0 = zs[i]'(by omega) := by simp [List.getD, List.getElem?_eq_getElem (show i < zs.length by omega)]
    have hw := hwz (zs.getD i 0) (e ▸ List.getElem_mem _)
    have h0 := hcell 0 (by omega)
    have hspot : spot = none := by simpa [Addr.add] using World.cell?_spot h0
    subst hspot
    refine ⟨b, off, zs.getD i 0, rfl, ?_, ?_⟩
    · have e : (⟨b, off, none⟩ : Addr).add i = ⟨b, off + i, none⟩ := by
        unfold Addr.add; split
        · subst_vars; rfl
        · rfl
      rw [← e]; exact hc
    · exact bounds_u8 hw

theorem IsRow.len_le {w : World} {a : Option Addr} {len cap : Nat} {zs : List Int} (h : IsRow .u8 w a len cap zs) : len ≤ 9223372036854775807 := by
  rcases h with ⟨_, h, _⟩ | ⟨x, rfl, hl, hm, hz, hcell, hwz⟩
  · omega
  · unfold maxLen at hm; omega

/-- Behind a call that drew: it answers what P says, the reader is a reader still, nothing else has turned. -/
def Drew (R : Nat) (a : Option Addr) (len cap : Nat) (zs : List Int) (P : Value → World → Prop) (w : World) (e : Ending) (w' : World) : Prop :=
  ∃ v, e = .returned v ∧ P v w' ∧ But R w w' ∧ Rd w' R a len cap zs

def isInt (lo hi : Int) (v : Value) (_ : World) : Prop := ∃ n : Int, v = .int .i64 n ∧ lo ≤ n ∧ n ≤ hi

theorem Rd.drewN {w : World} {R : Nat} {a : Option Addr} {len cap : Nat} {zs : List Int} (h : Rd w R a len cap zs) (n : Nat) : Rd (w.drewN n) R a len cap zs := ⟨h.code, h.place, h.free, h.row, h.apart⟩

theorem Rd.step {w : World} {R : Nat} {a : Option Addr} {len cap : Nat} {zs : List Int} (h : Rd w R a len cap zs) (p : Nat) (hp : p ≤ len) (n : Nat) : Rd ((w.drewN n).setCell ⟨R, 1, none⟩ (.int .i64 p)) R a len cap zs := by
  obtain ⟨q, _, hq⟩ := h.place
  exact ⟨(World.cell?_setCell_other _ _ _ _ (by simp)).trans h.code, ⟨p, hp, World.cell?_setCell_same _ _ _ (u := .int .i64 q) hq⟩, (World.frozen?_setCell _ _ _ _).trans h.free,
    h.row.but (((But.refl R w).drewN n).setCell rfl _) h.apart, h.apart⟩

set_option maxHeartbeats 400000 in
theorem rdNext (w : World) (R : Nat) (a : Option Addr) (len cap : Nat) (zs : List Int) (h : Rd w R a len cap zs) :
    Calls Try.prog 55 #[.pointer (some ⟨R, 0, none⟩)] w (Drew R a len cap zs (isInt 0 255) w) := by
  have hc0 := h.code
  obtain ⟨p, hp, hc1⟩ := h.place
  have hfz := h.free
  have hlen := h.row.len_le
  by_cases hlt : p < len
  · have hge : decide ((len : Int) ≤ p) = false := by simp; omega
    go_enter Try.func55, Try.ntmps55
    go_wp2
    go_quiet (fail)
    go_wp2
    have h2 := h.step (p + 1) (by omega) nq
    have hb := ((But.refl R w).drewN nq).setCell (p := ⟨R, 1, none⟩) rfl (.int .i64 ((p + 1 : Nat) : Int))
    have d1 := World.cell?_setCell_same (w.drewN nq) ⟨R, 1, none⟩ (.int .i64 ((p + 1 : Nat) : Int)) (u := .int .i64 p) hc1
    rw [show ((p + 1 : Nat) : Int) = (p : Int) + 1 by omega] at h2 hb d1
    generalize (w.drewN nq).setCell ⟨R, 1, none⟩ (.int .i64 ((p : Int) + 1)) = w2 at *
    clear hc0 hc1 hfz hge
    have d0 := h2.code
    obtain ⟨b, off, z, ha, hz, z0, z1⟩ := h2.row.byte hlt
    subst ha
    have H2 := Lib.hid h2; have HB := Lib.hid hb
    clear h2 hb h
    go_quiet (fail)
    go_wp2
    go_ret
    exact ⟨_, rfl, ⟨z, rfl, z0, z1⟩, HB.out.drewN _, H2.out.drewN _⟩
  · go_enter Try.func55, Try.ntmps55
    go_wp2
    go_quiet (fail)
    go_wp2
    go_ret
    exact ⟨_, rfl, ⟨0, rfl, by omega, by omega⟩, (But.refl _ _).drewN _, ⟨hc0, ⟨p, hp, hc1⟩, hfz, h.row, h.apart⟩⟩
/-- An answer of 'below n': 0 when n is at most 1, else less than n. -/
def isBelow (n : Int) (v : Value) (_ : World) : Prop := ∃ r : Int, v = .int .i64 r ∧ 0 ≤ r ∧ (r = 0 ∨ r < n)

set_option maxHeartbeats 400000 in
theorem rdBelow (n : Int) (w : World) (R : Nat) (a : Option Addr) (len cap : Nat) (zs : List Int) (h : Rd w R a len cap zs) :
    Calls Try.prog 40 #[.pointer (some ⟨R, 0, none⟩), .int .i64 n] w (Drew R a len cap zs (isBelow n) w) := by
  by_cases h1 : n ≤ 1
  · go_enter Try.func40, Try.ntmps40
    go_wp2
    go_ret
    exact ⟨_, rfl, ⟨0, rfl, by omega, .inl rfl⟩, But.refl _ _, h⟩
  by_cases h2 : n ≤ 256
  · have g1 : 1 < n := by omega
    go_enter Try.func40, Try.ntmps40
    go_wp2_with fail
    refine (rdNext w R a len cap zs h).mono ?_
    rintro e w' ⟨v, rfl, ⟨x, rfl, x0, x1⟩, hb, hr⟩
    go_wp2_with fail
    go_ret
    exact ⟨_, rfl, ⟨x % n, rfl, Int.emod_nonneg _ (by omega), .inr (Int.emod_lt_of_pos _ (by omega))⟩, hb, hr⟩
  · have g1 : 256 < n := by omega
    go_enter Try.func40, Try.ntmps40
    go_wp2_with fail
    refine (rdNext w R a len cap zs h).mono ?_
    rintro e w' ⟨v, rfl, ⟨x, rfl, x0, x1⟩, hb, hr⟩
    go_wp2_with fail
    refine (rdNext w' R a len cap zs hr).mono ?_
    rintro e w2 ⟨v, rfl, ⟨y, rfl, y0, y1⟩, hb2, hr2⟩
    go_wp2_with fail
    go_ret
    exact ⟨_, rfl, ⟨(x * 256 + y) % n, rfl, Int.emod_nonneg _ (by omega), .inr (Int.emod_lt_of_pos _ (by omega))⟩, hb.trans hb2, hr2⟩
def isBool (v : Value) (_ : World) : Prop := ∃ b : Bool, v = .bool b

theorem rdOnce (n : Int) (w : World) (R : Nat) (a : Option Addr) (len cap : Nat) (zs : List Int) (h : Rd w R a len cap zs) :
    Calls Try.prog 39 #[.pointer (some ⟨R, 0, none⟩), .int .i64 n] w (Drew R a len cap zs isBool w) := by
  go_enter Try.func39, Try.ntmps39
  go_wp2_with fail
  refine (rdBelow n w R a len cap zs h).mono ?_
  rintro e w' ⟨v, rfl, ⟨x, rfl, x0, x1⟩, hb, hr⟩
  go_wp2_with fail
  go_ret
  exact ⟨_, rfl, ⟨_, rfl⟩, hb, hr⟩

def isU64 (v : Value) (_ : World) : Prop := ∃ n : Int, v = .int .u64 n ∧ (Lit.int .u64 n).wf = true

set_option maxHeartbeats 1000000 in
theorem rdWord (w : World) (R : Nat) (a : Option Addr) (len cap : Nat) (zs : List Int) (h : Rd w R a len cap zs) :
    Calls Try.prog 60 #[.pointer (some ⟨R, 0, none⟩)] w (Drew R a len cap zs isU64 w) := by
  go_enter Try.func60, Try.ntmps60
  go_wp2
  go_loopw [3, 4] (fun x i wr => ∃ (k : Nat) (n : Int), k ≤ 8 ∧ i = .int .i64 k ∧ x = .int .u64 n ∧ Hid ((Lit.int .u64 n).wf = true) ∧ But R w wr ∧ Rd wr R a len cap zs) (fun _ i _ => 8 - (intOf i).toNat)
  case atStart => exact ⟨0, 0, by omega, rfl, rfl, Lib.hid (by decide), But.refl _ _, h⟩
  case round =>
    obtain ⟨k, n, hk, rfl, rfl, hn, hb, hr⟩ := hrel
    by_cases hlt : k < 8
    · go_wp2_with fail
      refine (rdNext wr R a len cap zs hr).mono ?_
      rintro e w' ⟨v, rfl, ⟨x, rfl, x0, x1⟩, hb2, hr2⟩
      go_wp2_with fail
      go_roundw
      case rel => exact ⟨k + 1, _, by omega, by go_num, rfl, Lib.hid (wf_bits _ _ _ _), hb.trans hb2, hr2⟩
      case measure => simp [intOf]; omega
    · go_wp2
      go_ret
      exact ⟨_, rfl, ⟨n, rfl, hn.out⟩, hb, hr⟩
end Go.Proofs.Ytimgaipikgpgkaa
