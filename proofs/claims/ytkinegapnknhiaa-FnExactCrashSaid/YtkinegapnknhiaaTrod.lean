/-
  Tables and rows among the arguments.
-/
import Derived.Test.YtkinegapnknhiaaTypes
import Derived.Lib.SmallJoins
namespace Go.Proofs.Ytkinegapnknhiaa
open Go.ChangeShapes Go.WideShapes Go.ChangeAt Go.RowKit Go.Joins Go.Deep
set_option linter.unusedVariables false

theorem Int_of_trod {H : Type} {enc : TypeId × Value → H} {W : World} {fuel : Nat} {cs : List Value} {x : DataW H × List MemPlace} (h : DataW.trod enc Try.prog W 0 (fun _ => true) true fuel 2 cs = some x) : ∃ d, IntR (fun _ => True) W cs d ∧ (Lit.int .i64 d).wf = true := by
  obtain ⟨k, q0, -, wk⟩ := DataW.trod_int Try.underlying2 h
  exact ⟨k, q0, wk⟩
theorem IntL_of_trod {H : Type} {enc : TypeId × Value → H} {W : World} {fuel : Nat} {x : DataW H × List MemPlace} {a : Option Addr} {len cap : Nat} (h : DataW.trod enc Try.prog W 0 (fun _ => true) true fuel 30 [.slice a len cap] = some x) : ∃ ds, Sl IntR 1 (fun _ => True) W a len ds ∧ ds.length ≤ maxLen := by
  obtain ⟨ds, h1, h2, -⟩ := sl_of_trod (R := IntR) (q := fun _ => True) (sz := 1) Try.underlying30 (by kernel_rfl) (by omega) (fun n c y hy => by obtain ⟨d, hd, _⟩ := Int_of_trod hy; exact ⟨d, hd, trivial⟩) h
  exact ⟨ds, h1, h2⟩
set_option maxRecDepth 100000 in
theorem File_of_trod {H : Type} {enc : TypeId × Value → H} {W : World} {fuel : Nat} {cs : List Value} {x : DataW H × List MemPlace} (h : DataW.trod enc Try.prog W 0 (fun _ => true) true fuel 124 cs = some x) : ∃ d, FzR (fun _ => True) W cs d ∧ d.wf := by
  obtain ⟨xs, n, _, _, hl, hlen, hf⟩ := DataW.trod_struct Try.underlying124 h
  rw [show Try.prog.cellsOf 124 = 2 by kernel_rfl] at hl
  match cs, hl, xs, hlen with
  | [c0, c1], _, [y0, y1], _ =>
    have e0 : DataW.trod enc Try.prog W 0 (fun _ => true) true n 9 [c0] = some y0 := by
      have := hf 0 _ rfl
      simpa [show Try.prog.cellsOf 9 = 1 by kernel_rfl] using this
    have e1 : DataW.trod enc Try.prog W 0 (fun _ => true) true n 9 [c1] = some y1 := by
      have := hf 1 _ rfl
      simpa [show Try.prog.cellsOf 9 = 1 by kernel_rfl] using this
    obtain ⟨z0, q0, -, u0⟩ := DataW.trod_string Try.underlying9 e0
    simp at q0
    subst q0
    obtain ⟨z1, q1, -, u1⟩ := DataW.trod_string Try.underlying9 e1
    simp at q1
    subst q1
    exact ⟨⟨z0, z1⟩, rfl, ⟨u0, u1⟩⟩

theorem FileL_of_trod {H : Type} {enc : TypeId × Value → H} {W : World} {fuel : Nat} {x : DataW H × List MemPlace} {a : Option Addr} {len cap : Nat} (h : DataW.trod enc Try.prog W 0 (fun _ => true) true fuel 47 [.slice a len cap] = some x) : ∃ ds : List Fz, Sl FzR 2 (fun _ => True) W a len ds ∧ (ds.length ≤ maxLen ∧ ∀ y ∈ ds, y.wf) :=
  sl_of_trod (R := FzR) (q := Fz.wf) (sz := 2) Try.underlying47 (by kernel_rfl) (by omega) (fun n c y hy => File_of_trod hy) h

set_option maxRecDepth 100000 in
theorem DOp_of_trod {H : Type} {enc : TypeId × Value → H} {W : World} {fuel : Nat} {cs : List Value} {x : DataW H × List MemPlace} (h : DataW.trod enc Try.prog W 0 (fun _ => true) true fuel 55 cs = some x) : ∃ d, OzR (fun _ => True) W cs d ∧ d.wf := by
  obtain ⟨xs, n, _, _, hl, hlen, hf⟩ := DataW.trod_struct Try.underlying55 h
  rw [show Try.prog.cellsOf 55 = 4 by kernel_rfl] at hl
  match cs, hl, xs, hlen with
  | [c0, c1, c2, c3], _, [y0, y1, y2, y3], _ =>
    have e0 : DataW.trod enc Try.prog W 0 (fun _ => true) true n 2 [c0] = some y0 := by
      have := hf 0 _ rfl
      simpa [show Try.prog.cellsOf 2 = 1 by kernel_rfl] using this
    have e1 : DataW.trod enc Try.prog W 0 (fun _ => true) true n 9 [c1] = some y1 := by
      have := hf 1 _ rfl
      simpa [show Try.prog.cellsOf 9 = 1 by kernel_rfl] using this
    have e2 : DataW.trod enc Try.prog W 0 (fun _ => true) true n 9 [c2] = some y2 := by
      have := hf 2 _ rfl
      simpa [show Try.prog.cellsOf 9 = 1 by kernel_rfl] using this
    have e3 : DataW.trod enc Try.prog W 0 (fun _ => true) true n 9 [c3] = some y3 := by
      have := hf 3 _ rfl
      simpa [show Try.prog.cellsOf 9 = 1 by kernel_rfl] using this
    obtain ⟨z0, q0, -, -⟩ := DataW.trod_int Try.underlying2 e0
    simp at q0
    subst q0
    obtain ⟨z1, q1, -, u1⟩ := DataW.trod_string Try.underlying9 e1
    simp at q1
    subst q1
    obtain ⟨z2, q2, -, u2⟩ := DataW.trod_string Try.underlying9 e2
    simp at q2
    subst q2
    obtain ⟨z3, q3, -, u3⟩ := DataW.trod_string Try.underlying9 e3
    simp at q3
    subst q3
    exact ⟨⟨z0, z1, z2, z3⟩, rfl, ⟨u1, u2, u3⟩⟩

theorem DOpL_of_trod {H : Type} {enc : TypeId × Value → H} {W : World} {fuel : Nat} {x : DataW H × List MemPlace} {a : Option Addr} {len cap : Nat} (h : DataW.trod enc Try.prog W 0 (fun _ => true) true fuel 48 [.slice a len cap] = some x) : ∃ ds : List Oz, Sl OzR 4 (fun _ => True) W a len ds ∧ (ds.length ≤ maxLen ∧ ∀ y ∈ ds, y.wf) :=
  sl_of_trod (R := OzR) (q := Oz.wf) (sz := 4) Try.underlying48 (by kernel_rfl) (by omega) (fun n c y hy => DOp_of_trod hy) h

set_option maxRecDepth 100000 in
theorem Disk_of_trod {H : Type} {enc : TypeId × Value → H} {W : World} {fuel : Nat} {cs : List Value} {x : DataW H × List MemPlace} (h : DataW.trod enc Try.prog W 0 (fun _ => true) true fuel 50 cs = some x) : ∃ d, DzR (fun _ => True) W cs d ∧ d.wf := by
  obtain ⟨xs, n, _, _, hl, hlen, hf⟩ := DataW.trod_struct Try.underlying50 h
  rw [show Try.prog.cellsOf 50 = 3 by kernel_rfl] at hl
  match cs, hl, xs, hlen with
  | [c0, c1, c2], _, [y0, y1, y2], _ =>
    have e0 : DataW.trod enc Try.prog W 0 (fun _ => true) true n 47 [c0] = some y0 := by
      have := hf 0 _ rfl
      simpa [show Try.prog.cellsOf 47 = 1 by kernel_rfl] using this
    have e1 : DataW.trod enc Try.prog W 0 (fun _ => true) true n 47 [c1] = some y1 := by
      have := hf 1 _ rfl
      simpa [show Try.prog.cellsOf 47 = 1 by kernel_rfl] using this
    have e2 : DataW.trod enc Try.prog W 0 (fun _ => true) true n 48 [c2] = some y2 := by
      have := hf 2 _ rfl
      simpa [show Try.prog.cellsOf 48 = 1 by kernel_rfl] using this
    obtain ⟨a0, l0, p0, rfl, hcp0⟩ : ∃ a l p, c0 = .slice a l p ∧ l ≤ p := by
      rcases open_slice Try.underlying47 e0 with ⟨hcs, _⟩ | ⟨ad, l, c, _, _, _, _, hcs, _, hlc, _⟩
      · exact ⟨_, _, _, by simpa using hcs, Nat.le_refl _⟩
      · exact ⟨_, _, _, by simpa using hcs, hlc⟩
    obtain ⟨z0, s0, u0⟩ := FileL_of_trod e0
    obtain ⟨a1, l1, p1, rfl, hcp1⟩ : ∃ a l p, c1 = .slice a l p ∧ l ≤ p := by
      rcases open_slice Try.underlying47 e1 with ⟨hcs, _⟩ | ⟨ad, l, c, _, _, _, _, hcs, _, hlc, _⟩
      · exact ⟨_, _, _, by simpa using hcs, Nat.le_refl _⟩
      · exact ⟨_, _, _, by simpa using hcs, hlc⟩
    obtain ⟨z1, s1, u1⟩ := FileL_of_trod e1
    obtain ⟨a2, l2, p2, rfl, hcp2⟩ : ∃ a l p, c2 = .slice a l p ∧ l ≤ p := by
      rcases open_slice Try.underlying48 e2 with ⟨hcs, _⟩ | ⟨ad, l, c, _, _, _, _, hcs, _, hlc, _⟩
      · exact ⟨_, _, _, by simpa using hcs, Nat.le_refl _⟩
      · exact ⟨_, _, _, by simpa using hcs, hlc⟩
    obtain ⟨z2, s2, u2⟩ := DOpL_of_trod e2
    exact ⟨⟨z0, z1, z2⟩, ⟨_, _, _, _, _, _, _, _, _, rfl, s0, s1, s2, ⟨hcp0, hcp1, hcp2⟩⟩, ⟨u0, u1, u2⟩⟩


end Go.Proofs.Ytkinegapnknhiaa
