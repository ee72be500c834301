/-
  Tables and rows among the arguments.
-/
import Derived.Test.YtbdbealabffccaaGreatTypes
import Derived.Lib.SmallJoins
namespace Go.Proofs.YtbdbealabffccaaGreat
open Go.ChangeShapes Go.WideShapes Go.ChangeAt Go.RowKit Go.Joins Go.Deep
set_option linter.unusedVariables false

theorem Int_of_trod {H : Type} {enc : TypeId × Value → H} {W : World} {fuel : Nat} {cs : List Value} {x : DataW H × List MemPlace} (h : DataW.trod enc Tryz.prog W 0 (fun _ => true) true fuel 2 cs = some x) : ∃ d, IntR (fun _ => True) W cs d ∧ (Lit.int .i64 d).wf = true := by
  obtain ⟨k, q0, -, wk⟩ := DataW.trod_int Tryz.underlying2 h
  exact ⟨k, q0, wk⟩
theorem Val_of_trod {H : Type} {enc : TypeId × Value → H} {W : World} {fuel : Nat} {cs : List Value} {x : DataW H × List MemPlace} (h : DataW.trod enc Tryz.prog W 0 (fun _ => true) true fuel 97 cs = some x) : ∃ d, VlR (fun _ => True) W cs d ∧ d.s.size ≤ maxLen := by
  obtain ⟨k, n, s, rfl, -, -, hs⟩ := val_of_trod Tryz.underlying97 (by kernel_rfl) ⟨rfl, rfl, rfl⟩ (by kernel_rfl) (by kernel_rfl) (by kernel_rfl) Tryz.underlying2 Tryz.underlying2 Tryz.underlying9 h
  exact ⟨⟨k, n, s⟩, rfl, hs⟩
theorem Tok_of_trod {H : Type} {enc : TypeId × Value → H} {W : World} {fuel : Nat} {cs : List Value} {x : DataW H × List MemPlace} (h : DataW.trod enc Tryz.prog W 0 (fun _ => true) true fuel 99 cs = some x) : ∃ d, TkR (fun _ => True) W cs d ∧ d.vs.size ≤ maxLen := by
  obtain ⟨k, cc, vk, vn, vs, rfl, -, -, -, -, h5⟩ := tok_of_trod Tryz.underlying99 (by kernel_rfl) ⟨rfl, rfl, rfl⟩ (by kernel_rfl) (by kernel_rfl) (by kernel_rfl) Tryz.underlying2 Tryz.underlying2 Tryz.underlying97 ⟨rfl, rfl, rfl⟩ (by kernel_rfl) (by kernel_rfl) (by kernel_rfl) Tryz.underlying2 Tryz.underlying2 Tryz.underlying9 h
  exact ⟨⟨k, cc, vk, vn, vs⟩, rfl, h5⟩
theorem IntL_of_trod {H : Type} {enc : TypeId × Value → H} {W : World} {fuel : Nat} {x : DataW H × List MemPlace} {a : Option Addr} {len cap : Nat} (h : DataW.trod enc Tryz.prog W 0 (fun _ => true) true fuel 25 [.slice a len cap] = some x) : ∃ ds, Sl IntR 1 (fun _ => True) W a len ds ∧ ds.length ≤ maxLen := by
  obtain ⟨ds, h1, h2, -⟩ := sl_of_trod (R := IntR) (q := fun _ => True) (sz := 1) Tryz.underlying25 (by kernel_rfl) (by omega) (fun n c y hy => by obtain ⟨d, hd, _⟩ := Int_of_trod hy; exact ⟨d, hd, trivial⟩) h
  exact ⟨ds, h1, h2⟩
theorem TokL_of_trod {H : Type} {enc : TypeId × Value → H} {W : World} {fuel : Nat} {x : DataW H × List MemPlace} {a : Option Addr} {len cap : Nat} (h : DataW.trod enc Tryz.prog W 0 (fun _ => true) true fuel 24 [.slice a len cap] = some x) : ∃ ds : List Tk, Sl TkR 5 (fun _ => True) W a len ds ∧ (ds.length ≤ maxLen ∧ ∀ t ∈ ds, t.vs.size ≤ maxLen) :=
  sl_of_trod (R := TkR) (q := fun t : Tk => t.vs.size ≤ maxLen) (sz := 5) Tryz.underlying24 (by kernel_rfl) (by omega) (fun n c y hy => Tok_of_trod hy) h

set_option maxRecDepth 100000 in
theorem Col_of_trod {H : Type} {enc : TypeId × Value → H} {W : World} {fuel : Nat} {cs : List Value} {x : DataW H × List MemPlace} (h : DataW.trod enc Tryz.prog W 0 (fun _ => true) true fuel 134 cs = some x) : ∃ d, ClR (fun _ => True) W cs d ∧ d.wf := by
  obtain ⟨xs, n, _, _, hl, hlen, hf⟩ := DataW.trod_struct Tryz.underlying134 h
  rw [show Tryz.prog.cellsOf 134 = 6 by kernel_rfl] at hl
  match cs, hl, xs, hlen with
  | [c0, c1, c2, c3, c4, c5], _, [y0, y1, y2, y3], _ =>
    have e0 : DataW.trod enc Tryz.prog W 0 (fun _ => true) true n 9 [c0] = some y0 := by
      have := hf 0 _ rfl
      simpa [show Tryz.prog.cellsOf 9 = 1 by kernel_rfl] using this
    have e1 : DataW.trod enc Tryz.prog W 0 (fun _ => true) true n 2 [c1] = some y1 := by
      have := hf 1 _ rfl
      simpa [show Tryz.prog.cellsOf 2 = 1 by kernel_rfl] using this
    have e2 : DataW.trod enc Tryz.prog W 0 (fun _ => true) true n 4 [c2] = some y2 := by
      have := hf 2 _ rfl
      simpa [show Tryz.prog.cellsOf 4 = 1 by kernel_rfl] using this
    have e3 : DataW.trod enc Tryz.prog W 0 (fun _ => true) true n 97 [c3, c4, c5] = some y3 := by
      have := hf 3 _ rfl
      simpa [show Tryz.prog.cellsOf 97 = 3 by kernel_rfl] using this
    obtain ⟨z0, q0, -, u0⟩ := DataW.trod_string Tryz.underlying9 e0
    simp at q0
    subst q0
    obtain ⟨z1, q1, -, -⟩ := DataW.trod_int Tryz.underlying2 e1
    simp at q1
    subst q1
    obtain ⟨z2, q2, -⟩ := DataW.trod_bool Tryz.underlying4 e2
    simp at q2
    subst q2
    obtain ⟨z3, q3, u3⟩ := Val_of_trod e3
    have q3' : _ = Vl.cells z3 := q3
    simp only [Vl.cells, List.cons.injEq, and_true] at q3'
    obtain ⟨rfl, rfl, rfl⟩ := q3'
    exact ⟨⟨z0, z1, z2, z3⟩, rfl, ⟨u0, u3⟩⟩

theorem ColL_of_trod {H : Type} {enc : TypeId × Value → H} {W : World} {fuel : Nat} {x : DataW H × List MemPlace} {a : Option Addr} {len cap : Nat} (h : DataW.trod enc Tryz.prog W 0 (fun _ => true) true fuel 49 [.slice a len cap] = some x) : ∃ ds : List Cl, Sl ClR 6 (fun _ => True) W a len ds ∧ (ds.length ≤ maxLen ∧ ∀ y ∈ ds, y.wf) :=
  sl_of_trod (R := ClR) (q := Cl.wf) (sz := 6) Tryz.underlying49 (by kernel_rfl) (by omega) (fun n c y hy => Col_of_trod hy) h

set_option maxRecDepth 100000 in
theorem Unique_of_trod {H : Type} {enc : TypeId × Value → H} {W : World} {fuel : Nat} {cs : List Value} {x : DataW H × List MemPlace} (h : DataW.trod enc Tryz.prog W 0 (fun _ => true) true fuel 137 cs = some x) : ∃ d, UqR (fun _ => True) W cs d ∧ d.wf := by
  obtain ⟨xs, n, _, _, hl, hlen, hf⟩ := DataW.trod_struct Tryz.underlying137 h
  rw [show Tryz.prog.cellsOf 137 = 1 by kernel_rfl] at hl
  match cs, hl, xs, hlen with
  | [c0], _, [y0], _ =>
    have e0 : DataW.trod enc Tryz.prog W 0 (fun _ => true) true n 25 [c0] = some y0 := by
      have := hf 0 _ rfl
      simpa [show Tryz.prog.cellsOf 25 = 1 by kernel_rfl] using this
    obtain ⟨a0, l0, p0, rfl, hcp0⟩ : ∃ a l p, c0 = .slice a l p ∧ l ≤ p := by
      rcases open_slice Tryz.underlying25 e0 with ⟨hcs, _⟩ | ⟨ad, l, c, _, _, _, _, hcs, _, hlc, _⟩
      · exact ⟨_, _, _, by simpa using hcs, Nat.le_refl _⟩
      · exact ⟨_, _, _, by simpa using hcs, hlc⟩
    obtain ⟨z0, s0, u0⟩ := IntL_of_trod e0
    exact ⟨⟨z0⟩, ⟨_, _, _, rfl, s0, hcp0⟩, u0⟩

theorem UniqueL_of_trod {H : Type} {enc : TypeId × Value → H} {W : World} {fuel : Nat} {x : DataW H × List MemPlace} {a : Option Addr} {len cap : Nat} (h : DataW.trod enc Tryz.prog W 0 (fun _ => true) true fuel 50 [.slice a len cap] = some x) : ∃ ds : List Uq, Sl UqR 1 (fun _ => True) W a len ds ∧ (ds.length ≤ maxLen ∧ ∀ y ∈ ds, y.wf) :=
  sl_of_trod (R := UqR) (q := Uq.wf) (sz := 1) Tryz.underlying50 (by kernel_rfl) (by omega) (fun n c y hy => Unique_of_trod hy) h

set_option maxRecDepth 100000 in
theorem Check_of_trod {H : Type} {enc : TypeId × Value → H} {W : World} {fuel : Nat} {cs : List Value} {x : DataW H × List MemPlace} (h : DataW.trod enc Tryz.prog W 0 (fun _ => true) true fuel 139 cs = some x) : ∃ d, CkR (fun _ => True) W cs d ∧ d.wf := by
  obtain ⟨xs, n, _, _, hl, hlen, hf⟩ := DataW.trod_struct Tryz.underlying139 h
  rw [show Tryz.prog.cellsOf 139 = 1 by kernel_rfl] at hl
  match cs, hl, xs, hlen with
  | [c0], _, [y0], _ =>
    have e0 : DataW.trod enc Tryz.prog W 0 (fun _ => true) true n 24 [c0] = some y0 := by
      have := hf 0 _ rfl
      simpa [show Tryz.prog.cellsOf 24 = 1 by kernel_rfl] using this
    obtain ⟨a0, l0, p0, rfl, hcp0⟩ : ∃ a l p, c0 = .slice a l p ∧ l ≤ p := by
      rcases open_slice Tryz.underlying24 e0 with ⟨hcs, _⟩ | ⟨ad, l, c, _, _, _, _, hcs, _, hlc, _⟩
      · exact ⟨_, _, _, by simpa using hcs, Nat.le_refl _⟩
      · exact ⟨_, _, _, by simpa using hcs, hlc⟩
    obtain ⟨z0, s0, u0⟩ := TokL_of_trod e0
    exact ⟨⟨z0⟩, ⟨_, _, _, rfl, s0, hcp0⟩, u0⟩

theorem CheckL_of_trod {H : Type} {enc : TypeId × Value → H} {W : World} {fuel : Nat} {x : DataW H × List MemPlace} {a : Option Addr} {len cap : Nat} (h : DataW.trod enc Tryz.prog W 0 (fun _ => true) true fuel 51 [.slice a len cap] = some x) : ∃ ds : List Ck, Sl CkR 1 (fun _ => True) W a len ds ∧ (ds.length ≤ maxLen ∧ ∀ y ∈ ds, y.wf) :=
  sl_of_trod (R := CkR) (q := Ck.wf) (sz := 1) Tryz.underlying51 (by kernel_rfl) (by omega) (fun n c y hy => Check_of_trod hy) h

set_option maxRecDepth 100000 in
theorem Fk_of_trod {H : Type} {enc : TypeId × Value → H} {W : World} {fuel : Nat} {cs : List Value} {x : DataW H × List MemPlace} (h : DataW.trod enc Tryz.prog W 0 (fun _ => true) true fuel 141 cs = some x) : ∃ d, FkR (fun _ => True) W cs d ∧ d.wf := by
  obtain ⟨xs, n, _, _, hl, hlen, hf⟩ := DataW.trod_struct Tryz.underlying141 h
  rw [show Tryz.prog.cellsOf 141 = 5 by kernel_rfl] at hl
  match cs, hl, xs, hlen with
  | [c0, c1, c2, c3, c4], _, [y0, y1, y2, y3, y4], _ =>
    have e0 : DataW.trod enc Tryz.prog W 0 (fun _ => true) true n 25 [c0] = some y0 := by
      have := hf 0 _ rfl
      simpa [show Tryz.prog.cellsOf 25 = 1 by kernel_rfl] using this
    have e1 : DataW.trod enc Tryz.prog W 0 (fun _ => true) true n 9 [c1] = some y1 := by
      have := hf 1 _ rfl
      simpa [show Tryz.prog.cellsOf 9 = 1 by kernel_rfl] using this
    have e2 : DataW.trod enc Tryz.prog W 0 (fun _ => true) true n 2 [c2] = some y2 := by
      have := hf 2 _ rfl
      simpa [show Tryz.prog.cellsOf 2 = 1 by kernel_rfl] using this
    have e3 : DataW.trod enc Tryz.prog W 0 (fun _ => true) true n 2 [c3] = some y3 := by
      have := hf 3 _ rfl
      simpa [show Tryz.prog.cellsOf 2 = 1 by kernel_rfl] using this
    have e4 : DataW.trod enc Tryz.prog W 0 (fun _ => true) true n 4 [c4] = some y4 := by
      have := hf 4 _ rfl
      simpa [show Tryz.prog.cellsOf 4 = 1 by kernel_rfl] using this
    obtain ⟨a0, l0, p0, rfl, hcp0⟩ : ∃ a l p, c0 = .slice a l p ∧ l ≤ p := by
      rcases open_slice Tryz.underlying25 e0 with ⟨hcs, _⟩ | ⟨ad, l, c, _, _, _, _, hcs, _, hlc, _⟩
      · exact ⟨_, _, _, by simpa using hcs, Nat.le_refl _⟩
      · exact ⟨_, _, _, by simpa using hcs, hlc⟩
    obtain ⟨z0, s0, u0⟩ := IntL_of_trod e0
    obtain ⟨z1, q1, -, u1⟩ := DataW.trod_string Tryz.underlying9 e1
    simp at q1
    subst q1
    obtain ⟨z2, q2, -, -⟩ := DataW.trod_int Tryz.underlying2 e2
    simp at q2
    subst q2
    obtain ⟨z3, q3, -, -⟩ := DataW.trod_int Tryz.underlying2 e3
    simp at q3
    subst q3
    obtain ⟨z4, q4, -⟩ := DataW.trod_bool Tryz.underlying4 e4
    simp at q4
    subst q4
    exact ⟨⟨z0, z1, z2, z3, z4⟩, ⟨_, _, _, rfl, s0, hcp0⟩, ⟨u0, u1⟩⟩

theorem FkL_of_trod {H : Type} {enc : TypeId × Value → H} {W : World} {fuel : Nat} {x : DataW H × List MemPlace} {a : Option Addr} {len cap : Nat} (h : DataW.trod enc Tryz.prog W 0 (fun _ => true) true fuel 52 [.slice a len cap] = some x) : ∃ ds : List Fk, Sl FkR 5 (fun _ => True) W a len ds ∧ (ds.length ≤ maxLen ∧ ∀ y ∈ ds, y.wf) :=
  sl_of_trod (R := FkR) (q := Fk.wf) (sz := 5) Tryz.underlying52 (by kernel_rfl) (by omega) (fun n c y hy => Fk_of_trod hy) h

set_option maxRecDepth 100000 in
theorem Table_of_trod {H : Type} {enc : TypeId × Value → H} {W : World} {fuel : Nat} {cs : List Value} {x : DataW H × List MemPlace} (h : DataW.trod enc Tryz.prog W 0 (fun _ => true) true fuel 54 cs = some x) : ∃ d, TbR (fun _ => True) W cs d ∧ d.wf := by
  obtain ⟨xs, n, _, _, hl, hlen, hf⟩ := DataW.trod_struct Tryz.underlying54 h
  rw [show Tryz.prog.cellsOf 54 = 6 by kernel_rfl] at hl
  match cs, hl, xs, hlen with
  | [c0, c1, c2, c3, c4, c5], _, [y0, y1, y2, y3, y4, y5], _ =>
    have e0 : DataW.trod enc Tryz.prog W 0 (fun _ => true) true n 9 [c0] = some y0 := by
      have := hf 0 _ rfl
      simpa [show Tryz.prog.cellsOf 9 = 1 by kernel_rfl] using this
    have e1 : DataW.trod enc Tryz.prog W 0 (fun _ => true) true n 49 [c1] = some y1 := by
      have := hf 1 _ rfl
      simpa [show Tryz.prog.cellsOf 49 = 1 by kernel_rfl] using this
    have e2 : DataW.trod enc Tryz.prog W 0 (fun _ => true) true n 25 [c2] = some y2 := by
      have := hf 2 _ rfl
      simpa [show Tryz.prog.cellsOf 25 = 1 by kernel_rfl] using this
    have e3 : DataW.trod enc Tryz.prog W 0 (fun _ => true) true n 50 [c3] = some y3 := by
      have := hf 3 _ rfl
      simpa [show Tryz.prog.cellsOf 50 = 1 by kernel_rfl] using this
    have e4 : DataW.trod enc Tryz.prog W 0 (fun _ => true) true n 51 [c4] = some y4 := by
      have := hf 4 _ rfl
      simpa [show Tryz.prog.cellsOf 51 = 1 by kernel_rfl] using this
    have e5 : DataW.trod enc Tryz.prog W 0 (fun _ => true) true n 52 [c5] = some y5 := by
      have := hf 5 _ rfl
      simpa [show Tryz.prog.cellsOf 52 = 1 by kernel_rfl] using this
    obtain ⟨z0, q0, -, u0⟩ := DataW.trod_string Tryz.underlying9 e0
    simp at q0
    subst q0
    obtain ⟨a1, l1, p1, rfl, hcp1⟩ : ∃ a l p, c1 = .slice a l p ∧ l ≤ p := by
      rcases open_slice Tryz.underlying49 e1 with ⟨hcs, _⟩ | ⟨ad, l, c, _, _, _, _, hcs, _, hlc, _⟩
      · exact ⟨_, _, _, by simpa using hcs, Nat.le_refl _⟩
      · exact ⟨_, _, _, by simpa using hcs, hlc⟩
    obtain ⟨z1, s1, u1⟩ := ColL_of_trod e1
    obtain ⟨a2, l2, p2, rfl, hcp2⟩ : ∃ a l p, c2 = .slice a l p ∧ l ≤ p := by
      rcases open_slice Tryz.underlying25 e2 with ⟨hcs, _⟩ | ⟨ad, l, c, _, _, _, _, hcs, _, hlc, _⟩
      · exact ⟨_, _, _, by simpa using hcs, Nat.le_refl _⟩
      · exact ⟨_, _, _, by simpa using hcs, hlc⟩
    obtain ⟨z2, s2, u2⟩ := IntL_of_trod e2
    obtain ⟨a3, l3, p3, rfl, hcp3⟩ : ∃ a l p, c3 = .slice a l p ∧ l ≤ p := by
      rcases open_slice Tryz.underlying50 e3 with ⟨hcs, _⟩ | ⟨ad, l, c, _, _, _, _, hcs, _, hlc, _⟩
      · exact ⟨_, _, _, by simpa using hcs, Nat.le_refl _⟩
      · exact ⟨_, _, _, by simpa using hcs, hlc⟩
    obtain ⟨z3, s3, u3⟩ := UniqueL_of_trod e3
    obtain ⟨a4, l4, p4, rfl, hcp4⟩ : ∃ a l p, c4 = .slice a l p ∧ l ≤ p := by
      rcases open_slice Tryz.underlying51 e4 with ⟨hcs, _⟩ | ⟨ad, l, c, _, _, _, _, hcs, _, hlc, _⟩
      · exact ⟨_, _, _, by simpa using hcs, Nat.le_refl _⟩
      · exact ⟨_, _, _, by simpa using hcs, hlc⟩
    obtain ⟨z4, s4, u4⟩ := CheckL_of_trod e4
    obtain ⟨a5, l5, p5, rfl, hcp5⟩ : ∃ a l p, c5 = .slice a l p ∧ l ≤ p := by
      rcases open_slice Tryz.underlying52 e5 with ⟨hcs, _⟩ | ⟨ad, l, c, _, _, _, _, hcs, _, hlc, _⟩
      · exact ⟨_, _, _, by simpa using hcs, Nat.le_refl _⟩
      · exact ⟨_, _, _, by simpa using hcs, hlc⟩
    obtain ⟨z5, s5, u5⟩ := FkL_of_trod e5
    exact ⟨⟨z0, z1, z2, z3, z4, z5⟩, ⟨_, _, _, _, _, _, _, _, _, _, _, _, _, _, _, rfl, s1, s2, s3, s4, s5, ⟨hcp1, hcp2, hcp3, hcp4, hcp5⟩⟩, ⟨u0, u1, u2, u3, u4, u5⟩⟩

theorem TableL_of_trod {H : Type} {enc : TypeId × Value → H} {W : World} {fuel : Nat} {x : DataW H × List MemPlace} {a : Option Addr} {len cap : Nat} (h : DataW.trod enc Tryz.prog W 0 (fun _ => true) true fuel 22 [.slice a len cap] = some x) : ∃ ds : List Tb, Sl TbR 6 (fun _ => True) W a len ds ∧ (ds.length ≤ maxLen ∧ ∀ y ∈ ds, y.wf) :=
  sl_of_trod (R := TbR) (q := Tb.wf) (sz := 6) Tryz.underlying22 (by kernel_rfl) (by omega) (fun n c y hy => Table_of_trod hy) h

set_option maxRecDepth 100000 in
theorem Term_of_trod {H : Type} {enc : TypeId × Value → H} {W : World} {fuel : Nat} {cs : List Value} {x : DataW H × List MemPlace} (h : DataW.trod enc Tryz.prog W 0 (fun _ => true) true fuel 94 cs = some x) : ∃ d, TeR (fun _ => True) W cs d ∧ d.wf := by
  obtain ⟨xs, n, _, _, hl, hlen, hf⟩ := DataW.trod_struct Tryz.underlying94 h
  rw [show Tryz.prog.cellsOf 94 = 1 by kernel_rfl] at hl
  match cs, hl, xs, hlen with
  | [c0], _, [y0], _ =>
    have e0 : DataW.trod enc Tryz.prog W 0 (fun _ => true) true n 24 [c0] = some y0 := by
      have := hf 0 _ rfl
      simpa [show Tryz.prog.cellsOf 24 = 1 by kernel_rfl] using this
    obtain ⟨a0, l0, p0, rfl, hcp0⟩ : ∃ a l p, c0 = .slice a l p ∧ l ≤ p := by
      rcases open_slice Tryz.underlying24 e0 with ⟨hcs, _⟩ | ⟨ad, l, c, _, _, _, _, hcs, _, hlc, _⟩
      · exact ⟨_, _, _, by simpa using hcs, Nat.le_refl _⟩
      · exact ⟨_, _, _, by simpa using hcs, hlc⟩
    obtain ⟨z0, s0, u0⟩ := TokL_of_trod e0
    exact ⟨⟨z0⟩, ⟨_, _, _, rfl, s0, hcp0⟩, u0⟩

theorem TermL_of_trod {H : Type} {enc : TypeId × Value → H} {W : World} {fuel : Nat} {x : DataW H × List MemPlace} {a : Option Addr} {len cap : Nat} (h : DataW.trod enc Tryz.prog W 0 (fun _ => true) true fuel 23 [.slice a len cap] = some x) : ∃ ds : List Te, Sl TeR 1 (fun _ => True) W a len ds ∧ (ds.length ≤ maxLen ∧ ∀ y ∈ ds, y.wf) :=
  sl_of_trod (R := TeR) (q := Te.wf) (sz := 1) Tryz.underlying23 (by kernel_rfl) (by omega) (fun n c y hy => Term_of_trod hy) h

set_option maxRecDepth 100000 in
theorem Trigger_of_trod {H : Type} {enc : TypeId × Value → H} {W : World} {fuel : Nat} {cs : List Value} {x : DataW H × List MemPlace} (h : DataW.trod enc Tryz.prog W 0 (fun _ => true) true fuel 80 cs = some x) : ∃ d, TgR (fun _ => True) W cs d ∧ d.wf := by
  obtain ⟨xs, n, _, _, hl, hlen, hf⟩ := DataW.trod_struct Tryz.underlying80 h
  rw [show Tryz.prog.cellsOf 80 = 5 by kernel_rfl] at hl
  match cs, hl, xs, hlen with
  | [c0, c1, c2, c3, c4], _, [y0, y1, y2, y3, y4], _ =>
    have e0 : DataW.trod enc Tryz.prog W 0 (fun _ => true) true n 9 [c0] = some y0 := by
      have := hf 0 _ rfl
      simpa [show Tryz.prog.cellsOf 9 = 1 by kernel_rfl] using this
    have e1 : DataW.trod enc Tryz.prog W 0 (fun _ => true) true n 2 [c1] = some y1 := by
      have := hf 1 _ rfl
      simpa [show Tryz.prog.cellsOf 2 = 1 by kernel_rfl] using this
    have e2 : DataW.trod enc Tryz.prog W 0 (fun _ => true) true n 24 [c2] = some y2 := by
      have := hf 2 _ rfl
      simpa [show Tryz.prog.cellsOf 24 = 1 by kernel_rfl] using this
    have e3 : DataW.trod enc Tryz.prog W 0 (fun _ => true) true n 9 [c3] = some y3 := by
      have := hf 3 _ rfl
      simpa [show Tryz.prog.cellsOf 9 = 1 by kernel_rfl] using this
    have e4 : DataW.trod enc Tryz.prog W 0 (fun _ => true) true n 23 [c4] = some y4 := by
      have := hf 4 _ rfl
      simpa [show Tryz.prog.cellsOf 23 = 1 by kernel_rfl] using this
    obtain ⟨z0, q0, -, u0⟩ := DataW.trod_string Tryz.underlying9 e0
    simp at q0
    subst q0
    obtain ⟨z1, q1, -, -⟩ := DataW.trod_int Tryz.underlying2 e1
    simp at q1
    subst q1
    obtain ⟨a2, l2, p2, rfl, hcp2⟩ : ∃ a l p, c2 = .slice a l p ∧ l ≤ p := by
      rcases open_slice Tryz.underlying24 e2 with ⟨hcs, _⟩ | ⟨ad, l, c, _, _, _, _, hcs, _, hlc, _⟩
      · exact ⟨_, _, _, by simpa using hcs, Nat.le_refl _⟩
      · exact ⟨_, _, _, by simpa using hcs, hlc⟩
    obtain ⟨z2, s2, u2⟩ := TokL_of_trod e2
    obtain ⟨z3, q3, -, u3⟩ := DataW.trod_string Tryz.underlying9 e3
    simp at q3
    subst q3
    obtain ⟨a4, l4, p4, rfl, hcp4⟩ : ∃ a l p, c4 = .slice a l p ∧ l ≤ p := by
      rcases open_slice Tryz.underlying23 e4 with ⟨hcs, _⟩ | ⟨ad, l, c, _, _, _, _, hcs, _, hlc, _⟩
      · exact ⟨_, _, _, by simpa using hcs, Nat.le_refl _⟩
      · exact ⟨_, _, _, by simpa using hcs, hlc⟩
    obtain ⟨z4, s4, u4⟩ := TermL_of_trod e4
    exact ⟨⟨z0, z1, z2, z3, z4⟩, ⟨_, _, _, _, _, _, rfl, s2, s4, ⟨hcp2, hcp4⟩⟩, ⟨u0, u2, u3, u4⟩⟩

theorem TriggerL_of_trod {H : Type} {enc : TypeId × Value → H} {W : World} {fuel : Nat} {x : DataW H × List MemPlace} {a : Option Addr} {len cap : Nat} (h : DataW.trod enc Tryz.prog W 0 (fun _ => true) true fuel 41 [.slice a len cap] = some x) : ∃ ds : List Tg, Sl TgR 5 (fun _ => True) W a len ds ∧ (ds.length ≤ maxLen ∧ ∀ y ∈ ds, y.wf) :=
  sl_of_trod (R := TgR) (q := Tg.wf) (sz := 5) Tryz.underlying41 (by kernel_rfl) (by omega) (fun n c y hy => Trigger_of_trod hy) h

set_option maxRecDepth 100000 in
theorem Select_of_trod {H : Type} {enc : TypeId × Value → H} {W : World} {fuel : Nat} {cs : List Value} {x : DataW H × List MemPlace} (h : DataW.trod enc Tryz.prog W 0 (fun _ => true) true fuel 27 cs = some x) : ∃ d, QyR (fun _ => True) W cs d ∧ d.wf := by
  obtain ⟨xs, n, _, _, hl, hlen, hf⟩ := DataW.trod_struct Tryz.underlying27 h
  rw [show Tryz.prog.cellsOf 27 = 5 by kernel_rfl] at hl
  match cs, hl, xs, hlen with
  | [c0, c1, c2, c3, c4], _, [y0, y1, y2, y3, y4], _ =>
    have e0 : DataW.trod enc Tryz.prog W 0 (fun _ => true) true n 9 [c0] = some y0 := by
      have := hf 0 _ rfl
      simpa [show Tryz.prog.cellsOf 9 = 1 by kernel_rfl] using this
    have e1 : DataW.trod enc Tryz.prog W 0 (fun _ => true) true n 23 [c1] = some y1 := by
      have := hf 1 _ rfl
      simpa [show Tryz.prog.cellsOf 23 = 1 by kernel_rfl] using this
    have e2 : DataW.trod enc Tryz.prog W 0 (fun _ => true) true n 24 [c2] = some y2 := by
      have := hf 2 _ rfl
      simpa [show Tryz.prog.cellsOf 24 = 1 by kernel_rfl] using this
    have e3 : DataW.trod enc Tryz.prog W 0 (fun _ => true) true n 25 [c3] = some y3 := by
      have := hf 3 _ rfl
      simpa [show Tryz.prog.cellsOf 25 = 1 by kernel_rfl] using this
    have e4 : DataW.trod enc Tryz.prog W 0 (fun _ => true) true n 2 [c4] = some y4 := by
      have := hf 4 _ rfl
      simpa [show Tryz.prog.cellsOf 2 = 1 by kernel_rfl] using this
    obtain ⟨z0, q0, -, u0⟩ := DataW.trod_string Tryz.underlying9 e0
    simp at q0
    subst q0
    obtain ⟨a1, l1, p1, rfl, hcp1⟩ : ∃ a l p, c1 = .slice a l p ∧ l ≤ p := by
      rcases open_slice Tryz.underlying23 e1 with ⟨hcs, _⟩ | ⟨ad, l, c, _, _, _, _, hcs, _, hlc, _⟩
      · exact ⟨_, _, _, by simpa using hcs, Nat.le_refl _⟩
      · exact ⟨_, _, _, by simpa using hcs, hlc⟩
    obtain ⟨z1, s1, u1⟩ := TermL_of_trod e1
    obtain ⟨a2, l2, p2, rfl, hcp2⟩ : ∃ a l p, c2 = .slice a l p ∧ l ≤ p := by
      rcases open_slice Tryz.underlying24 e2 with ⟨hcs, _⟩ | ⟨ad, l, c, _, _, _, _, hcs, _, hlc, _⟩
      · exact ⟨_, _, _, by simpa using hcs, Nat.le_refl _⟩
      · exact ⟨_, _, _, by simpa using hcs, hlc⟩
    obtain ⟨z2, s2, u2⟩ := TokL_of_trod e2
    obtain ⟨a3, l3, p3, rfl, hcp3⟩ : ∃ a l p, c3 = .slice a l p ∧ l ≤ p := by
      rcases open_slice Tryz.underlying25 e3 with ⟨hcs, _⟩ | ⟨ad, l, c, _, _, _, _, hcs, _, hlc, _⟩
      · exact ⟨_, _, _, by simpa using hcs, Nat.le_refl _⟩
      · exact ⟨_, _, _, by simpa using hcs, hlc⟩
    obtain ⟨z3, s3, u3⟩ := IntL_of_trod e3
    obtain ⟨z4, q4, -, -⟩ := DataW.trod_int Tryz.underlying2 e4
    simp at q4
    subst q4
    exact ⟨⟨z0, z1, z2, z3, z4⟩, ⟨_, _, _, _, _, _, _, _, _, rfl, s1, s2, s3, ⟨hcp1, hcp2, hcp3⟩⟩, ⟨u0, u1, u2, u3⟩⟩


end Go.Proofs.YtbdbealabffccaaGreat
