/-
  Contracts of what the exact laws do with parts of expressions: their size, their copy, and whether two are one.
-/
import Derived.Test.YtakhcgkhjmfndaaGreatLawVals
import Derived.Test.YtakhcgkhjmfndaaGreatExprOk2
import Derived.Deep.RegionHeld3
namespace Go.Proofs.YtakhcgkhjmfndaaGreat
open Go.RowKit

/-- An answer of a size: less than 0, or no more than what was left, and then no part is larger. -/
def SzToks (left : Int) (ts : List Tk) (w : World) (e : Ending) (w' : World) : Prop :=
  ∃ m : Int, e = .returned (.int .i64 m) ∧ m ≤ left ∧ (0 ≤ m → ts.length ≤ left ∧ ∀ t ∈ ts, (t.vs.size : Int) ≤ left) ∧ Below w.heap.size w w'

theorem mk_rows {P : Program} {t e : TypeId} {sz bs : Nat} {z : Value} (ht : P.underlying t = some (.slice e)) (hi : (P.info? e).map (fun i => (i.zero, i.size, i.bytes)) = some (some z, sz, bs)) (hbs : bs ≤ 100000) (n : Nat) (hn : n ≤ 1048576) (w : World) :
    (Instr.makeSlice t (.int .i64 (n : Int)) (.int .i64 (n : Int))).run P w = .ok (.slice (some ⟨w.heap.size, 0, none⟩) n n) (w.alloc (.cells (madeCells z.cells (n * sz)) e)) := by
  obtain ⟨i, h1, h2, h3, h4⟩ := info_parts hi
  have hb : (i.bytes : Int) * n ≤ 281474976710656 := by
    rw [h4]
    have h5 : bs * n ≤ 100000 * 1048576 := Nat.mul_le_mul hbs hn
    have h6 : ((bs * n : Nat) : Int) ≤ 104857600000 := by omega
    rw [Int.natCast_mul] at h6
    omega
  have hr := run_make (P := P) w t e i z ht h1 h2 .i64 .i64 n n (by omega) (by omega) hb (by omega)
  simp only [Int.toNat_natCast, h3] at hr
  exact hr

/-- A slice that a call has made. -/
def MadeToks (n : Nat) (ts : List Tk) (w : World) (e : Ending) (w' : World) : Prop := ∃ A c, e = .returned (.slice A n c) ∧ Toks w' A n ts ∧ Below w.heap.size w w'

theorem infoTok : (Tryz.prog.info? 65).map (fun i => (i.zero, i.size, i.bytes)) = some (some (.agg #[.int .i64 0, .int .i64 0, .int .i64 0, .int .i64 0, .string ⟨#[]⟩]), 5, 48) := by kernel_rfl

theorem keep10 {w w' : World} {a0 a1 a2 a3 a4 a5 a6 a7 a8 a9 : Addr} {v0 v1 v2 v3 v4 v5 v6 v7 v8 v9 : Value} (h : w.cell? a0 = some v0 ∧ w.cell? a1 = some v1 ∧ w.cell? a2 = some v2 ∧ w.cell? a3 = some v3 ∧ w.cell? a4 = some v4 ∧ w.cell? a5 = some v5 ∧ w.cell? a6 = some v6 ∧ w.cell? a7 = some v7 ∧ w.cell? a8 = some v8 ∧ w.cell? a9 = some v9) (hb : Below w.heap.size w w') : w'.cell? a0 = some v0 ∧ w'.cell? a1 = some v1 ∧ w'.cell? a2 = some v2 ∧ w'.cell? a3 = some v3 ∧ w'.cell? a4 = some v4 ∧ w'.cell? a5 = some v5 ∧ w'.cell? a6 = some v6 ∧ w'.cell? a7 = some v7 ∧ w'.cell? a8 = some v8 ∧ w'.cell? a9 = some v9 := by
  obtain ⟨h0, h1, h2, h3, h4, h5, h6, h7, h8, h9⟩ := h
  exact ⟨(hb.cell (cell_lt h0)).trans h0, (hb.cell (cell_lt h1)).trans h1, (hb.cell (cell_lt h2)).trans h2, (hb.cell (cell_lt h3)).trans h3, (hb.cell (cell_lt h4)).trans h4, (hb.cell (cell_lt h5)).trans h5, (hb.cell (cell_lt h6)).trans h6, (hb.cell (cell_lt h7)).trans h7, (hb.cell (cell_lt h8)).trans h8, (hb.cell (cell_lt h9)).trans h9⟩

theorem list_of_cells {α : Type} {f : α → List Value} {p : α → Prop} : ∀ xss : List (List Value), (∀ c ∈ xss, ∃ x, c = f x ∧ p x) → ∃ xs : List α, xs.map f = xss ∧ ∀ x ∈ xs, p x
  | [], _ => ⟨[], rfl, by simp⟩
  | c :: cs, h => by
    obtain ⟨x, rfl, hp⟩ := h c (by simp)
    obtain ⟨xs, rfl, hq⟩ := list_of_cells cs fun d hd => h d (by simp [hd])
    exact ⟨x :: xs, rfl, by simpa using ⟨hp, hq⟩⟩

/-- A slice of parts among the arguments. -/
def IsToks (w : World) (a : Option Addr) (n : Nat) (ts : List Tk) : Prop := Toks w a n ts ∧ n ≤ maxLen ∧ ∀ t ∈ ts, t.vs.size ≤ maxLen

end Go.Proofs.YtakhcgkhjmfndaaGreat
