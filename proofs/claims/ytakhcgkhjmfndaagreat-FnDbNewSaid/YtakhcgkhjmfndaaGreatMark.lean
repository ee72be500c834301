/-
  What the marks of the exact laws do with slices of structs: one contract a function.
-/
import Derived.Test.YtakhcgkhjmfndaaGreatMarks
import Derived.Test.YtakhcgkhjmfndaaGreatMarkText
namespace Go.Proofs.YtakhcgkhjmfndaaGreat
open Go.RowKit
set_option linter.unusedVariables false

theorem Int.toSh : ∀ (ok : Nat → Prop) (w : World) (cs : List Value) (x : Int), True → IntR ok w cs x → ShF 1 ok w cs ((fun _ : Int => 1) x) := fun _ _ cs x _ h => by
  have e : cs = _ := h
  subst e
  refine ⟨rfl, fun j v hv => ?_, rfl⟩
  have hj : j < 1 := (List.getElem?_eq_some_iff.1 hv).1
  have : j = 0 := by omega
  rcases this with rfl <;> (obtain rfl := Option.some.inj hv; rfl)
theorem Tk.toSh : ∀ (ok : Nat → Prop) (w : World) (cs : List Value) (x : Tk), True → TkR ok w cs x → ShF 5 ok w cs ((fun _ : Tk => 5) x) := fun _ _ cs x _ h => by
  have e : cs = _ := h
  subst e
  refine ⟨rfl, fun j v hv => ?_, rfl⟩
  have hj : j < 5 := (List.getElem?_eq_some_iff.1 hv).1
  have : j = 0 ∨ j = 1 ∨ j = 2 ∨ j = 3 ∨ j = 4 := by omega
  rcases this with rfl | rfl | rfl | rfl | rfl <;> (obtain rfl := Option.some.inj hv; rfl)
theorem Vl.toSh : ∀ (ok : Nat → Prop) (w : World) (cs : List Value) (x : Vl), True → VlR ok w cs x → ShF 3 ok w cs ((fun _ : Vl => 3) x) := fun _ _ cs x _ h => by
  have e : cs = _ := h
  subst e
  refine ⟨rfl, fun j v hv => ?_, rfl⟩
  have hj : j < 3 := (List.getElem?_eq_some_iff.1 hv).1
  have : j = 0 ∨ j = 1 ∨ j = 2 := by omega
  rcases this with rfl | rfl | rfl <;> (obtain rfl := Option.some.inj hv; rfl)
theorem Cl.toSh : ∀ (ok : Nat → Prop) (w : World) (cs : List Value) (x : Cl), True → ClR ok w cs x → ShF 6 ok w cs ((fun _ : Cl => 6) x) := fun _ _ cs x _ h => by
  have e : cs = _ := h
  subst e
  refine ⟨rfl, fun j v hv => ?_, rfl⟩
  have hj : j < 6 := (List.getElem?_eq_some_iff.1 hv).1
  have : j = 0 ∨ j = 1 ∨ j = 2 ∨ j = 3 ∨ j = 4 ∨ j = 5 := by omega
  rcases this with rfl | rfl | rfl | rfl | rfl | rfl <;> (obtain rfl := Option.some.inj hv; rfl)
theorem Fz.toSh : ∀ (ok : Nat → Prop) (w : World) (cs : List Value) (x : Fz), True → FzR ok w cs x → ShF 2 ok w cs ((fun _ : Fz => 2) x) := fun _ _ cs x _ h => by
  have e : cs = _ := h
  subst e
  refine ⟨rfl, fun j v hv => ?_, rfl⟩
  have hj : j < 2 := (List.getElem?_eq_some_iff.1 hv).1
  have : j = 0 ∨ j = 1 := by omega
  rcases this with rfl | rfl <;> (obtain rfl := Option.some.inj hv; rfl)
theorem Oz.toSh : ∀ (ok : Nat → Prop) (w : World) (cs : List Value) (x : Oz), True → OzR ok w cs x → ShF 4 ok w cs ((fun _ : Oz => 4) x) := fun _ _ cs x _ h => by
  have e : cs = _ := h
  subst e
  refine ⟨rfl, fun j v hv => ?_, rfl⟩
  have hj : j < 4 := (List.getElem?_eq_some_iff.1 hv).1
  have : j = 0 ∨ j = 1 ∨ j = 2 ∨ j = 3 := by omega
  rcases this with rfl | rfl | rfl | rfl <;> (obtain rfl := Option.some.inj hv; rfl)
def UqSh : Rd Nat := fun ok w cs d => ∃ (A0 : Option Addr) (n0 c0 : Nat) (m0 : List Nat), cs = [.slice A0 n0 c0] ∧ (True) ∧ Sl (ShF 1) 1 ok w A0 n0 m0 ∧ (n0 ≤ 1048576) ∧ d = m0.sum
theorem UqSh.keeps : KStays UqSh := by
  intro ok B E w w' cs cs' d hR hk hl hc
  obtain ⟨A0, n0, c0, m0, rfl, -, h0, hcp, hd⟩ := hR
  match cs', hl with
  | [x0], _ =>
    obtain ⟨y0, e0, s0, t0⟩ := hc 0 _ rfl
    obtain rfl : x0 = y0 := Option.some.inj e0
    obtain rfl := s0 rfl
    exact ⟨A0, n0, c0, m0, rfl, trivial, h0.shape (ShF.keeps 1) hk, hcp, hd⟩
def Uq.cnt (x : Uq) : Nat := (x.cols.map (fun _ : Int => 1)).sum
theorem Uq.toSh : ∀ (ok : Nat → Prop) (w : World) (cs : List Value) (x : Uq), x.sz ≤ 1048576 → UqR ok w cs x → UqSh ok w cs x.cnt := fun _ _ _ x hs ⟨A0, n0, c0, e, h0, _⟩ =>
  ⟨A0, n0, c0, _, e, trivial, h0.toSh Int.toSh (fun _ _ => trivial), (by have h1 := h0.1; unfold Uq.sz at hs; (try simp only [szL] at hs); omega), rfl⟩
theorem Uq.cnt_le (x : Uq) : x.cnt ≤ 6 * (x.sz + 1) := by
  unfold Uq.cnt Uq.sz
  have z0 : (x.cols.map (fun _ : Int => 1)).sum = x.cols.length := sum_ones _
  omega

def CkSh : Rd Nat := fun ok w cs d => ∃ (A0 : Option Addr) (n0 c0 : Nat) (m0 : List Nat), cs = [.slice A0 n0 c0] ∧ (True) ∧ Sl (ShF 5) 5 ok w A0 n0 m0 ∧ (n0 ≤ 1048576) ∧ d = m0.sum
theorem CkSh.keeps : KStays CkSh := by
  intro ok B E w w' cs cs' d hR hk hl hc
  obtain ⟨A0, n0, c0, m0, rfl, -, h0, hcp, hd⟩ := hR
  match cs', hl with
  | [x0], _ =>
    obtain ⟨y0, e0, s0, t0⟩ := hc 0 _ rfl
    obtain rfl : x0 = y0 := Option.some.inj e0
    obtain rfl := s0 rfl
    exact ⟨A0, n0, c0, m0, rfl, trivial, h0.shape (ShF.keeps 5) hk, hcp, hd⟩
def Ck.cnt (x : Ck) : Nat := (x.expr.map (fun _ : Tk => 5)).sum
theorem Ck.toSh : ∀ (ok : Nat → Prop) (w : World) (cs : List Value) (x : Ck), x.sz ≤ 1048576 → CkR ok w cs x → CkSh ok w cs x.cnt := fun _ _ _ x hs ⟨A0, n0, c0, e, h0, _⟩ =>
  ⟨A0, n0, c0, _, e, trivial, h0.toSh Tk.toSh (fun _ _ => trivial), (by have h1 := h0.1; unfold Ck.sz at hs; (try simp only [szL] at hs); omega), rfl⟩
theorem Ck.cnt_le (x : Ck) : x.cnt ≤ 6 * (x.sz + 1) := by
  unfold Ck.cnt Ck.sz
  have z0 := sum_le_of (f := (fun _ : Tk => 5)) (g := fun t : Tk => t.vs.size) 6 (fun _ => by omega) x.expr
  omega

def FkSh : Rd Nat := fun ok w cs d => ∃ (A0 : Option Addr) (n0 c0 : Nat) (m0 : List Nat) (u1 u2 u3 u4 : Value), cs = [.slice A0 n0 c0, u1, u2, u3, u4] ∧ (isSl u1 = false ∧ isSl u2 = false ∧ isSl u3 = false ∧ isSl u4 = false) ∧ Sl (ShF 1) 1 ok w A0 n0 m0 ∧ (n0 ≤ 1048576) ∧ d = 4 + m0.sum
theorem FkSh.keeps : KStays FkSh := by
  intro ok B E w w' cs cs' d hR hk hl hc
  obtain ⟨A0, n0, c0, m0, u1, u2, u3, u4, rfl, ⟨g1, g2, g3, g4⟩, h0, hcp, hd⟩ := hR
  match cs', hl with
  | [x0, x1, x2, x3, x4], _ =>
    obtain ⟨y0, e0, s0, t0⟩ := hc 0 _ rfl
    obtain rfl : x0 = y0 := Option.some.inj e0
    obtain ⟨y1, e1, s1, t1⟩ := hc 1 _ rfl
    obtain rfl : x1 = y1 := Option.some.inj e1
    obtain ⟨y2, e2, s2, t2⟩ := hc 2 _ rfl
    obtain rfl : x2 = y2 := Option.some.inj e2
    obtain ⟨y3, e3, s3, t3⟩ := hc 3 _ rfl
    obtain rfl : x3 = y3 := Option.some.inj e3
    obtain ⟨y4, e4, s4, t4⟩ := hc 4 _ rfl
    obtain rfl : x4 = y4 := Option.some.inj e4
    obtain rfl := s0 rfl
    exact ⟨A0, n0, c0, m0, x1, x2, x3, x4, rfl, ⟨t1.trans g1, t2.trans g2, t3.trans g3, t4.trans g4⟩, h0.shape (ShF.keeps 1) hk, hcp, hd⟩
def Fk.cnt (x : Fk) : Nat := 4 + (x.cols.map (fun _ : Int => 1)).sum
theorem Fk.toSh : ∀ (ok : Nat → Prop) (w : World) (cs : List Value) (x : Fk), x.sz ≤ 1048576 → FkR ok w cs x → FkSh ok w cs x.cnt := fun _ _ _ x hs ⟨A0, n0, c0, e, h0, _⟩ =>
  ⟨A0, n0, c0, _, _, _, _, _, e, ⟨rfl, rfl, rfl, rfl⟩, h0.toSh Int.toSh (fun _ _ => trivial), (by have h1 := h0.1; unfold Fk.sz at hs; (try simp only [szL] at hs); omega), rfl⟩
theorem Fk.cnt_le (x : Fk) : x.cnt ≤ 6 * (x.sz + 1) := by
  unfold Fk.cnt Fk.sz
  have z0 : (x.cols.map (fun _ : Int => 1)).sum = x.cols.length := sum_ones _
  omega

def TbSh : Rd Nat := fun ok w cs d => ∃ (A1 : Option Addr) (n1 c1 : Nat) (m1 : List Nat) (A2 : Option Addr) (n2 c2 : Nat) (m2 : List Nat) (A3 : Option Addr) (n3 c3 : Nat) (m3 : List Nat) (A4 : Option Addr) (n4 c4 : Nat) (m4 : List Nat) (A5 : Option Addr) (n5 c5 : Nat) (m5 : List Nat) (u0 : Value), cs = [u0, .slice A1 n1 c1, .slice A2 n2 c2, .slice A3 n3 c3, .slice A4 n4 c4, .slice A5 n5 c5] ∧ (isSl u0 = false) ∧ Sl (ShF 6) 6 ok w A1 n1 m1 ∧ Sl (ShF 1) 1 ok w A2 n2 m2 ∧ Sl UqSh 1 ok w A3 n3 m3 ∧ Sl CkSh 1 ok w A4 n4 m4 ∧ Sl FkSh 5 ok w A5 n5 m5 ∧ (n1 ≤ 1048576 ∧ n2 ≤ 1048576 ∧ n3 ≤ 1048576 ∧ n4 ≤ 1048576 ∧ n5 ≤ 1048576) ∧ d = 1 + m1.sum + m2.sum + m3.sum + m4.sum + m5.sum
theorem TbSh.keeps : KStays TbSh := by
  intro ok B E w w' cs cs' d hR hk hl hc
  obtain ⟨A1, n1, c1, m1, A2, n2, c2, m2, A3, n3, c3, m3, A4, n4, c4, m4, A5, n5, c5, m5, u0, rfl, g0, h1, h2, h3, h4, h5, hcp, hd⟩ := hR
  match cs', hl with
  | [x0, x1, x2, x3, x4, x5], _ =>
    obtain ⟨y0, e0, s0, t0⟩ := hc 0 _ rfl
    obtain rfl : x0 = y0 := Option.some.inj e0
    obtain ⟨y1, e1, s1, t1⟩ := hc 1 _ rfl
    obtain rfl : x1 = y1 := Option.some.inj e1
    obtain ⟨y2, e2, s2, t2⟩ := hc 2 _ rfl
    obtain rfl : x2 = y2 := Option.some.inj e2
    obtain ⟨y3, e3, s3, t3⟩ := hc 3 _ rfl
    obtain rfl : x3 = y3 := Option.some.inj e3
    obtain ⟨y4, e4, s4, t4⟩ := hc 4 _ rfl
    obtain rfl : x4 = y4 := Option.some.inj e4
    obtain ⟨y5, e5, s5, t5⟩ := hc 5 _ rfl
    obtain rfl : x5 = y5 := Option.some.inj e5
    obtain rfl := s1 rfl
    obtain rfl := s2 rfl
    obtain rfl := s3 rfl
    obtain rfl := s4 rfl
    obtain rfl := s5 rfl
    exact ⟨A1, n1, c1, m1, A2, n2, c2, m2, A3, n3, c3, m3, A4, n4, c4, m4, A5, n5, c5, m5, x0, rfl, t0.trans g0, h1.shape (ShF.keeps 6) hk, h2.shape (ShF.keeps 1) hk, h3.shape UqSh.keeps hk, h4.shape CkSh.keeps hk, h5.shape FkSh.keeps hk, hcp, hd⟩
def Tb.cnt (x : Tb) : Nat := 1 + (x.cols.map (fun _ : Cl => 6)).sum + (x.key.map (fun _ : Int => 1)).sum + (x.uniqs.map Uq.cnt).sum + (x.checks.map Ck.cnt).sum + (x.fks.map Fk.cnt).sum
theorem Tb.toSh : ∀ (ok : Nat → Prop) (w : World) (cs : List Value) (x : Tb), x.sz ≤ 1048576 → TbR ok w cs x → TbSh ok w cs x.cnt := fun _ _ _ x hs ⟨A1, n1, c1, A2, n2, c2, A3, n3, c3, A4, n4, c4, A5, n5, c5, e, h1, h2, h3, h4, h5, _⟩ =>
  ⟨A1, n1, c1, _, A2, n2, c2, _, A3, n3, c3, _, A4, n4, c4, _, A5, n5, c5, _, _, e, rfl, h1.toSh Cl.toSh (fun _ _ => trivial), h2.toSh Int.toSh (fun _ _ => trivial), h3.toSh Uq.toSh (fun y hy => by have h1 := szL_mem Uq.sz x.uniqs y hy; unfold Tb.sz at hs; omega), h4.toSh Ck.toSh (fun y hy => by have h1 := szL_mem Ck.sz x.checks y hy; unfold Tb.sz at hs; omega), h5.toSh Fk.toSh (fun y hy => by have h1 := szL_mem Fk.sz x.fks y hy; unfold Tb.sz at hs; omega), ⟨(by have h1 := h1.1; unfold Tb.sz at hs; (try simp only [szL] at hs); omega), (by have h1 := h2.1; unfold Tb.sz at hs; (try simp only [szL] at hs); omega), (by have h1 := h3.1; unfold Tb.sz at hs; (try simp only [szL] at hs); omega), (by have h1 := h4.1; unfold Tb.sz at hs; (try simp only [szL] at hs); omega), (by have h1 := h5.1; unfold Tb.sz at hs; (try simp only [szL] at hs); omega)⟩, rfl⟩
theorem Tb.cnt_le (x : Tb) : x.cnt ≤ 6 * (x.sz + 1) := by
  unfold Tb.cnt Tb.sz
  have z1 := sum_le_of (f := (fun _ : Cl => 6)) (g := Cl.sz) 6 (fun _ => by omega) x.cols
  have z2 : (x.key.map (fun _ : Int => 1)).sum = x.key.length := sum_ones _
  have z3 := sum_le_of (f := Uq.cnt) (g := Uq.sz) 6 Uq.cnt_le x.uniqs
  have z4 := sum_le_of (f := Ck.cnt) (g := Ck.sz) 6 Ck.cnt_le x.checks
  have z5 := sum_le_of (f := Fk.cnt) (g := Fk.sz) 6 Fk.cnt_le x.fks
  omega

def RwSh : Rd Nat := fun ok w cs d => ∃ (A1 : Option Addr) (n1 c1 : Nat) (m1 : List Nat) (u0 : Value), cs = [u0, .slice A1 n1 c1] ∧ (isSl u0 = false) ∧ Sl (ShF 3) 3 ok w A1 n1 m1 ∧ (n1 ≤ 1048576) ∧ d = 1 + m1.sum
theorem RwSh.keeps : KStays RwSh := by
  intro ok B E w w' cs cs' d hR hk hl hc
  obtain ⟨A1, n1, c1, m1, u0, rfl, g0, h1, hcp, hd⟩ := hR
  match cs', hl with
  | [x0, x1], _ =>
    obtain ⟨y0, e0, s0, t0⟩ := hc 0 _ rfl
    obtain rfl : x0 = y0 := Option.some.inj e0
    obtain ⟨y1, e1, s1, t1⟩ := hc 1 _ rfl
    obtain rfl : x1 = y1 := Option.some.inj e1
    obtain rfl := s1 rfl
    exact ⟨A1, n1, c1, m1, x0, rfl, t0.trans g0, h1.shape (ShF.keeps 3) hk, hcp, hd⟩
def Rw.cnt (x : Rw) : Nat := 1 + (x.vals.map (fun _ : Vl => 3)).sum
theorem Rw.toSh : ∀ (ok : Nat → Prop) (w : World) (cs : List Value) (x : Rw), x.sz ≤ 1048576 → RwR ok w cs x → RwSh ok w cs x.cnt := fun _ _ _ x hs ⟨A1, n1, c1, e, h1, _⟩ =>
  ⟨A1, n1, c1, _, _, e, rfl, h1.toSh Vl.toSh (fun _ _ => trivial), (by have h1 := h1.1; unfold Rw.sz at hs; (try simp only [szL] at hs); omega), rfl⟩
theorem Rw.cnt_le (x : Rw) : x.cnt ≤ 6 * (x.sz + 1) := by
  unfold Rw.cnt Rw.sz
  have z1 := sum_le_of (f := (fun _ : Vl => 3)) (g := fun v : Vl => v.s.size) 6 (fun _ => by omega) x.vals
  omega

def DtSh : Rd Nat := fun ok w cs d => ∃ (A0 : Option Addr) (n0 c0 : Nat) (m0 : List Nat), cs = [.slice A0 n0 c0] ∧ (True) ∧ Sl RwSh 2 ok w A0 n0 m0 ∧ (n0 ≤ 1048576) ∧ d = m0.sum
theorem DtSh.keeps : KStays DtSh := by
  intro ok B E w w' cs cs' d hR hk hl hc
  obtain ⟨A0, n0, c0, m0, rfl, -, h0, hcp, hd⟩ := hR
  match cs', hl with
  | [x0], _ =>
    obtain ⟨y0, e0, s0, t0⟩ := hc 0 _ rfl
    obtain rfl : x0 = y0 := Option.some.inj e0
    obtain rfl := s0 rfl
    exact ⟨A0, n0, c0, m0, rfl, trivial, h0.shape RwSh.keeps hk, hcp, hd⟩
def Dt.cnt (x : Dt) : Nat := (x.rows.map Rw.cnt).sum
theorem Dt.toSh : ∀ (ok : Nat → Prop) (w : World) (cs : List Value) (x : Dt), x.sz ≤ 1048576 → DtR ok w cs x → DtSh ok w cs x.cnt := fun _ _ _ x hs ⟨A0, n0, c0, e, h0, _⟩ =>
  ⟨A0, n0, c0, _, e, trivial, h0.toSh Rw.toSh (fun y hy => by have h1 := szL_mem Rw.sz x.rows y hy; unfold Dt.sz at hs; omega), (by have h1 := h0.1; unfold Dt.sz at hs; (try simp only [szL] at hs); omega), rfl⟩
theorem Dt.cnt_le (x : Dt) : x.cnt ≤ 6 * (x.sz + 1) := by
  unfold Dt.cnt Dt.sz
  have z0 := sum_le_of (f := Rw.cnt) (g := Rw.sz) 6 Rw.cnt_le x.rows
  omega

def SeSh : Rd Nat := fun ok w cs d => ∃ (A1 : Option Addr) (n1 c1 : Nat) (m1 : List Nat) (u0 : Value), cs = [u0, .slice A1 n1 c1] ∧ (isSl u0 = false) ∧ Sl (ShF 5) 5 ok w A1 n1 m1 ∧ (n1 ≤ 1048576) ∧ d = 1 + m1.sum
theorem SeSh.keeps : KStays SeSh := by
  intro ok B E w w' cs cs' d hR hk hl hc
  obtain ⟨A1, n1, c1, m1, u0, rfl, g0, h1, hcp, hd⟩ := hR
  match cs', hl with
  | [x0, x1], _ =>
    obtain ⟨y0, e0, s0, t0⟩ := hc 0 _ rfl
    obtain rfl : x0 = y0 := Option.some.inj e0
    obtain ⟨y1, e1, s1, t1⟩ := hc 1 _ rfl
    obtain rfl : x1 = y1 := Option.some.inj e1
    obtain rfl := s1 rfl
    exact ⟨A1, n1, c1, m1, x0, rfl, t0.trans g0, h1.shape (ShF.keeps 5) hk, hcp, hd⟩
def Se.cnt (x : Se) : Nat := 1 + (x.expr.map (fun _ : Tk => 5)).sum
theorem Se.toSh : ∀ (ok : Nat → Prop) (w : World) (cs : List Value) (x : Se), x.sz ≤ 1048576 → SeR ok w cs x → SeSh ok w cs x.cnt := fun _ _ _ x hs ⟨A1, n1, c1, e, h1, _⟩ =>
  ⟨A1, n1, c1, _, _, e, rfl, h1.toSh Tk.toSh (fun _ _ => trivial), (by have h1 := h1.1; unfold Se.sz at hs; (try simp only [szL] at hs); omega), rfl⟩
theorem Se.cnt_le (x : Se) : x.cnt ≤ 6 * (x.sz + 1) := by
  unfold Se.cnt Se.sz
  have z1 := sum_le_of (f := (fun _ : Tk => 5)) (g := fun t : Tk => t.vs.size) 6 (fun _ => by omega) x.expr
  omega

def SqSh : Rd Nat := fun ok w cs d => ∃ (A2 : Option Addr) (n2 c2 : Nat) (m2 : List Nat) (A3 : Option Addr) (n3 c3 : Nat) (m3 : List Nat) (A4 : Option Addr) (n4 c4 : Nat) (m4 : List Nat) (u0 u1 u5 : Value), cs = [u0, u1, .slice A2 n2 c2, .slice A3 n3 c3, .slice A4 n4 c4, u5] ∧ (isSl u0 = false ∧ isSl u1 = false ∧ isSl u5 = false) ∧ Sl RwSh 2 ok w A2 n2 m2 ∧ Sl (ShF 5) 5 ok w A3 n3 m3 ∧ Sl SeSh 2 ok w A4 n4 m4 ∧ (n2 ≤ 1048576 ∧ n3 ≤ 1048576 ∧ n4 ≤ 1048576) ∧ d = 3 + m2.sum + m3.sum + m4.sum
theorem SqSh.keeps : KStays SqSh := by
  intro ok B E w w' cs cs' d hR hk hl hc
  obtain ⟨A2, n2, c2, m2, A3, n3, c3, m3, A4, n4, c4, m4, u0, u1, u5, rfl, ⟨g0, g1, g5⟩, h2, h3, h4, hcp, hd⟩ := hR
  match cs', hl with
  | [x0, x1, x2, x3, x4, x5], _ =>
    obtain ⟨y0, e0, s0, t0⟩ := hc 0 _ rfl
    obtain rfl : x0 = y0 := Option.some.inj e0
    obtain ⟨y1, e1, s1, t1⟩ := hc 1 _ rfl
    obtain rfl : x1 = y1 := Option.some.inj e1
    obtain ⟨y2, e2, s2, t2⟩ := hc 2 _ rfl
    obtain rfl : x2 = y2 := Option.some.inj e2
    obtain ⟨y3, e3, s3, t3⟩ := hc 3 _ rfl
    obtain rfl : x3 = y3 := Option.some.inj e3
    obtain ⟨y4, e4, s4, t4⟩ := hc 4 _ rfl
    obtain rfl : x4 = y4 := Option.some.inj e4
    obtain ⟨y5, e5, s5, t5⟩ := hc 5 _ rfl
    obtain rfl : x5 = y5 := Option.some.inj e5
    obtain rfl := s2 rfl
    obtain rfl := s3 rfl
    obtain rfl := s4 rfl
    exact ⟨A2, n2, c2, m2, A3, n3, c3, m3, A4, n4, c4, m4, x0, x1, x5, rfl, ⟨t0.trans g0, t1.trans g1, t5.trans g5⟩, h2.shape RwSh.keeps hk, h3.shape (ShF.keeps 5) hk, h4.shape SeSh.keeps hk, hcp, hd⟩
def Sq.cnt (x : Sq) : Nat := 3 + (x.rows.map Rw.cnt).sum + (x.wher.map (fun _ : Tk => 5)).sum + (x.sets.map Se.cnt).sum
theorem Sq.toSh : ∀ (ok : Nat → Prop) (w : World) (cs : List Value) (x : Sq), x.sz ≤ 1048576 → SqR ok w cs x → SqSh ok w cs x.cnt := fun _ _ _ x hs ⟨A2, n2, c2, A3, n3, c3, A4, n4, c4, e, h2, h3, h4, _⟩ =>
  ⟨A2, n2, c2, _, A3, n3, c3, _, A4, n4, c4, _, _, _, _, e, ⟨rfl, rfl, rfl⟩, h2.toSh Rw.toSh (fun y hy => by have h1 := szL_mem Rw.sz x.rows y hy; unfold Sq.sz at hs; omega), h3.toSh Tk.toSh (fun _ _ => trivial), h4.toSh Se.toSh (fun y hy => by have h1 := szL_mem Se.sz x.sets y hy; unfold Sq.sz at hs; omega), ⟨(by have h1 := h2.1; unfold Sq.sz at hs; (try simp only [szL] at hs); omega), (by have h1 := h3.1; unfold Sq.sz at hs; (try simp only [szL] at hs); omega), (by have h1 := h4.1; unfold Sq.sz at hs; (try simp only [szL] at hs); omega)⟩, rfl⟩
theorem Sq.cnt_le (x : Sq) : x.cnt ≤ 6 * (x.sz + 1) := by
  unfold Sq.cnt Sq.sz
  have z2 := sum_le_of (f := Rw.cnt) (g := Rw.sz) 6 Rw.cnt_le x.rows
  have z3 := sum_le_of (f := (fun _ : Tk => 5)) (g := fun t : Tk => t.vs.size) 6 (fun _ => by omega) x.wher
  have z4 := sum_le_of (f := Se.cnt) (g := Se.sz) 6 Se.cnt_le x.sets
  omega

def TeSh : Rd Nat := fun ok w cs d => ∃ (A0 : Option Addr) (n0 c0 : Nat) (m0 : List Nat), cs = [.slice A0 n0 c0] ∧ (True) ∧ Sl (ShF 5) 5 ok w A0 n0 m0 ∧ (n0 ≤ 1048576) ∧ d = m0.sum
theorem TeSh.keeps : KStays TeSh := by
  intro ok B E w w' cs cs' d hR hk hl hc
  obtain ⟨A0, n0, c0, m0, rfl, -, h0, hcp, hd⟩ := hR
  match cs', hl with
  | [x0], _ =>
    obtain ⟨y0, e0, s0, t0⟩ := hc 0 _ rfl
    obtain rfl : x0 = y0 := Option.some.inj e0
    obtain rfl := s0 rfl
    exact ⟨A0, n0, c0, m0, rfl, trivial, h0.shape (ShF.keeps 5) hk, hcp, hd⟩
def Te.cnt (x : Te) : Nat := (x.expr.map (fun _ : Tk => 5)).sum
theorem Te.toSh : ∀ (ok : Nat → Prop) (w : World) (cs : List Value) (x : Te), x.sz ≤ 1048576 → TeR ok w cs x → TeSh ok w cs x.cnt := fun _ _ _ x hs ⟨A0, n0, c0, e, h0, _⟩ =>
  ⟨A0, n0, c0, _, e, trivial, h0.toSh Tk.toSh (fun _ _ => trivial), (by have h1 := h0.1; unfold Te.sz at hs; (try simp only [szL] at hs); omega), rfl⟩
theorem Te.cnt_le (x : Te) : x.cnt ≤ 6 * (x.sz + 1) := by
  unfold Te.cnt Te.sz
  have z0 := sum_le_of (f := (fun _ : Tk => 5)) (g := fun t : Tk => t.vs.size) 6 (fun _ => by omega) x.expr
  omega

def TgSh : Rd Nat := fun ok w cs d => ∃ (A2 : Option Addr) (n2 c2 : Nat) (m2 : List Nat) (A4 : Option Addr) (n4 c4 : Nat) (m4 : List Nat) (u0 u1 u3 : Value), cs = [u0, u1, .slice A2 n2 c2, u3, .slice A4 n4 c4] ∧ (isSl u0 = false ∧ isSl u1 = false ∧ isSl u3 = false) ∧ Sl (ShF 5) 5 ok w A2 n2 m2 ∧ Sl TeSh 1 ok w A4 n4 m4 ∧ (n2 ≤ 1048576 ∧ n4 ≤ 1048576) ∧ d = 3 + m2.sum + m4.sum
theorem TgSh.keeps : KStays TgSh := by
  intro ok B E w w' cs cs' d hR hk hl hc
  obtain ⟨A2, n2, c2, m2, A4, n4, c4, m4, u0, u1, u3, rfl, ⟨g0, g1, g3⟩, h2, h4, hcp, hd⟩ := hR
  match cs', hl with
  | [x0, x1, x2, x3, x4], _ =>
    obtain ⟨y0, e0, s0, t0⟩ := hc 0 _ rfl
    obtain rfl : x0 = y0 := Option.some.inj e0
    obtain ⟨y1, e1, s1, t1⟩ := hc 1 _ rfl
    obtain rfl : x1 = y1 := Option.some.inj e1
    obtain ⟨y2, e2, s2, t2⟩ := hc 2 _ rfl
    obtain rfl : x2 = y2 := Option.some.inj e2
    obtain ⟨y3, e3, s3, t3⟩ := hc 3 _ rfl
    obtain rfl : x3 = y3 := Option.some.inj e3
    obtain ⟨y4, e4, s4, t4⟩ := hc 4 _ rfl
    obtain rfl : x4 = y4 := Option.some.inj e4
    obtain rfl := s2 rfl
    obtain rfl := s4 rfl
    exact ⟨A2, n2, c2, m2, A4, n4, c4, m4, x0, x1, x3, rfl, ⟨t0.trans g0, t1.trans g1, t3.trans g3⟩, h2.shape (ShF.keeps 5) hk, h4.shape TeSh.keeps hk, hcp, hd⟩
def Tg.cnt (x : Tg) : Nat := 3 + (x.wher.map (fun _ : Tk => 5)).sum + (x.terms.map Te.cnt).sum
theorem Tg.toSh : ∀ (ok : Nat → Prop) (w : World) (cs : List Value) (x : Tg), x.sz ≤ 1048576 → TgR ok w cs x → TgSh ok w cs x.cnt := fun _ _ _ x hs ⟨A2, n2, c2, A4, n4, c4, e, h2, h4, _⟩ =>
  ⟨A2, n2, c2, _, A4, n4, c4, _, _, _, _, e, ⟨rfl, rfl, rfl⟩, h2.toSh Tk.toSh (fun _ _ => trivial), h4.toSh Te.toSh (fun y hy => by have h1 := szL_mem Te.sz x.terms y hy; unfold Tg.sz at hs; omega), ⟨(by have h1 := h2.1; unfold Tg.sz at hs; (try simp only [szL] at hs); omega), (by have h1 := h4.1; unfold Tg.sz at hs; (try simp only [szL] at hs); omega)⟩, rfl⟩
theorem Tg.cnt_le (x : Tg) : x.cnt ≤ 6 * (x.sz + 1) := by
  unfold Tg.cnt Tg.sz
  have z2 := sum_le_of (f := (fun _ : Tk => 5)) (g := fun t : Tk => t.vs.size) 6 (fun _ => by omega) x.wher
  have z4 := sum_le_of (f := Te.cnt) (g := Te.sz) 6 Te.cnt_le x.terms
  omega

def SvSh : Rd Nat := fun ok w cs d => ∃ (A1 : Option Addr) (n1 c1 : Nat) (m1 : List Nat) (u0 : Value), cs = [u0, .slice A1 n1 c1] ∧ (isSl u0 = false) ∧ Sl DtSh 1 ok w A1 n1 m1 ∧ (n1 ≤ 1048576) ∧ d = 1 + m1.sum
theorem SvSh.keeps : KStays SvSh := by
  intro ok B E w w' cs cs' d hR hk hl hc
  obtain ⟨A1, n1, c1, m1, u0, rfl, g0, h1, hcp, hd⟩ := hR
  match cs', hl with
  | [x0, x1], _ =>
    obtain ⟨y0, e0, s0, t0⟩ := hc 0 _ rfl
    obtain rfl : x0 = y0 := Option.some.inj e0
    obtain ⟨y1, e1, s1, t1⟩ := hc 1 _ rfl
    obtain rfl : x1 = y1 := Option.some.inj e1
    obtain rfl := s1 rfl
    exact ⟨A1, n1, c1, m1, x0, rfl, t0.trans g0, h1.shape DtSh.keeps hk, hcp, hd⟩
def Sv.cnt (x : Sv) : Nat := 1 + (x.db.map Dt.cnt).sum
theorem Sv.toSh : ∀ (ok : Nat → Prop) (w : World) (cs : List Value) (x : Sv), x.sz ≤ 1048576 → SvR ok w cs x → SvSh ok w cs x.cnt := fun _ _ _ x hs ⟨A1, n1, c1, e, h1, _⟩ =>
  ⟨A1, n1, c1, _, _, e, rfl, h1.toSh Dt.toSh (fun y hy => by have h1 := szL_mem Dt.sz x.db y hy; unfold Sv.sz at hs; omega), (by have h1 := h1.1; unfold Sv.sz at hs; (try simp only [szL] at hs); omega), rfl⟩
theorem Sv.cnt_le (x : Sv) : x.cnt ≤ 6 * (x.sz + 1) := by
  unfold Sv.cnt Sv.sz
  have z1 := sum_le_of (f := Dt.cnt) (g := Dt.sz) 6 Dt.cnt_le x.db
  omega

def SsSh : Rd Nat := fun ok w cs d => ∃ (A0 : Option Addr) (n0 c0 : Nat) (m0 : List Nat) (A1 : Option Addr) (n1 c1 : Nat) (m1 : List Nat) (A3 : Option Addr) (n3 c3 : Nat) (m3 : List Nat) (A4 : Option Addr) (n4 c4 : Nat) (m4 : List Nat) (u2 : Value), cs = [.slice A0 n0 c0, .slice A1 n1 c1, u2, .slice A3 n3 c3, .slice A4 n4 c4] ∧ (isSl u2 = false) ∧ Sl TbSh 6 ok w A0 n0 m0 ∧ Sl DtSh 1 ok w A1 n1 m1 ∧ Sl DtSh 1 ok w A3 n3 m3 ∧ Sl SvSh 2 ok w A4 n4 m4 ∧ (n0 ≤ 1048576 ∧ n1 ≤ 1048576 ∧ n3 ≤ 1048576 ∧ n4 ≤ 1048576) ∧ d = 1 + m0.sum + m1.sum + m3.sum + m4.sum
theorem SsSh.keeps : KStays SsSh := by
  intro ok B E w w' cs cs' d hR hk hl hc
  obtain ⟨A0, n0, c0, m0, A1, n1, c1, m1, A3, n3, c3, m3, A4, n4, c4, m4, u2, rfl, g2, h0, h1, h3, h4, hcp, hd⟩ := hR
  match cs', hl with
  | [x0, x1, x2, x3, x4], _ =>
    obtain ⟨y0, e0, s0, t0⟩ := hc 0 _ rfl
    obtain rfl : x0 = y0 := Option.some.inj e0
    obtain ⟨y1, e1, s1, t1⟩ := hc 1 _ rfl
    obtain rfl : x1 = y1 := Option.some.inj e1
    obtain ⟨y2, e2, s2, t2⟩ := hc 2 _ rfl
    obtain rfl : x2 = y2 := Option.some.inj e2
    obtain ⟨y3, e3, s3, t3⟩ := hc 3 _ rfl
    obtain rfl : x3 = y3 := Option.some.inj e3
    obtain ⟨y4, e4, s4, t4⟩ := hc 4 _ rfl
    obtain rfl : x4 = y4 := Option.some.inj e4
    obtain rfl := s0 rfl
    obtain rfl := s1 rfl
    obtain rfl := s3 rfl
    obtain rfl := s4 rfl
    exact ⟨A0, n0, c0, m0, A1, n1, c1, m1, A3, n3, c3, m3, A4, n4, c4, m4, x2, rfl, t2.trans g2, h0.shape TbSh.keeps hk, h1.shape DtSh.keeps hk, h3.shape DtSh.keeps hk, h4.shape SvSh.keeps hk, hcp, hd⟩
def Ss.cnt (x : Ss) : Nat := 1 + (x.schema.map Tb.cnt).sum + (x.db.map Dt.cnt).sum + (x.start.map Dt.cnt).sum + (x.saves.map Sv.cnt).sum
theorem Ss.toSh : ∀ (ok : Nat → Prop) (w : World) (cs : List Value) (x : Ss), x.sz ≤ 1048576 → SsR ok w cs x → SsSh ok w cs x.cnt := fun _ _ _ x hs ⟨A0, n0, c0, A1, n1, c1, A3, n3, c3, A4, n4, c4, e, h0, h1, h3, h4, _⟩ =>
  ⟨A0, n0, c0, _, A1, n1, c1, _, A3, n3, c3, _, A4, n4, c4, _, _, e, rfl, h0.toSh Tb.toSh (fun y hy => by have h1 := szL_mem Tb.sz x.schema y hy; unfold Ss.sz at hs; omega), h1.toSh Dt.toSh (fun y hy => by have h1 := szL_mem Dt.sz x.db y hy; unfold Ss.sz at hs; omega), h3.toSh Dt.toSh (fun y hy => by have h1 := szL_mem Dt.sz x.start y hy; unfold Ss.sz at hs; omega), h4.toSh Sv.toSh (fun y hy => by have h1 := szL_mem Sv.sz x.saves y hy; unfold Ss.sz at hs; omega), ⟨(by have h1 := h0.1; unfold Ss.sz at hs; (try simp only [szL] at hs); omega), (by have h1 := h1.1; unfold Ss.sz at hs; (try simp only [szL] at hs); omega), (by have h1 := h3.1; unfold Ss.sz at hs; (try simp only [szL] at hs); omega), (by have h1 := h4.1; unfold Ss.sz at hs; (try simp only [szL] at hs); omega)⟩, rfl⟩
theorem Ss.cnt_le (x : Ss) : x.cnt ≤ 6 * (x.sz + 1) := by
  unfold Ss.cnt Ss.sz
  have z0 := sum_le_of (f := Tb.cnt) (g := Tb.sz) 6 Tb.cnt_le x.schema
  have z1 := sum_le_of (f := Dt.cnt) (g := Dt.sz) 6 Dt.cnt_le x.db
  have z3 := sum_le_of (f := Dt.cnt) (g := Dt.sz) 6 Dt.cnt_le x.start
  have z4 := sum_le_of (f := Sv.cnt) (g := Sv.sz) 6 Sv.cnt_le x.saves
  omega

def QySh : Rd Nat := fun ok w cs d => ∃ (A1 : Option Addr) (n1 c1 : Nat) (m1 : List Nat) (A2 : Option Addr) (n2 c2 : Nat) (m2 : List Nat) (A3 : Option Addr) (n3 c3 : Nat) (m3 : List Nat) (u0 u4 : Value), cs = [u0, .slice A1 n1 c1, .slice A2 n2 c2, .slice A3 n3 c3, u4] ∧ (isSl u0 = false ∧ isSl u4 = false) ∧ Sl TeSh 1 ok w A1 n1 m1 ∧ Sl (ShF 5) 5 ok w A2 n2 m2 ∧ Sl (ShF 1) 1 ok w A3 n3 m3 ∧ (n1 ≤ 1048576 ∧ n2 ≤ 1048576 ∧ n3 ≤ 1048576) ∧ d = 2 + m1.sum + m2.sum + m3.sum
theorem QySh.keeps : KStays QySh := by
  intro ok B E w w' cs cs' d hR hk hl hc
  obtain ⟨A1, n1, c1, m1, A2, n2, c2, m2, A3, n3, c3, m3, u0, u4, rfl, ⟨g0, g4⟩, h1, h2, h3, hcp, hd⟩ := hR
  match cs', hl with
  | [x0, x1, x2, x3, x4], _ =>
    obtain ⟨y0, e0, s0, t0⟩ := hc 0 _ rfl
    obtain rfl : x0 = y0 := Option.some.inj e0
    obtain ⟨y1, e1, s1, t1⟩ := hc 1 _ rfl
    obtain rfl : x1 = y1 := Option.some.inj e1
    obtain ⟨y2, e2, s2, t2⟩ := hc 2 _ rfl
    obtain rfl : x2 = y2 := Option.some.inj e2
    obtain ⟨y3, e3, s3, t3⟩ := hc 3 _ rfl
    obtain rfl : x3 = y3 := Option.some.inj e3
    obtain ⟨y4, e4, s4, t4⟩ := hc 4 _ rfl
    obtain rfl : x4 = y4 := Option.some.inj e4
    obtain rfl := s1 rfl
    obtain rfl := s2 rfl
    obtain rfl := s3 rfl
    exact ⟨A1, n1, c1, m1, A2, n2, c2, m2, A3, n3, c3, m3, x0, x4, rfl, ⟨t0.trans g0, t4.trans g4⟩, h1.shape TeSh.keeps hk, h2.shape (ShF.keeps 5) hk, h3.shape (ShF.keeps 1) hk, hcp, hd⟩
def Qy.cnt (x : Qy) : Nat := 2 + (x.terms.map Te.cnt).sum + (x.wher.map (fun _ : Tk => 5)).sum + (x.ord.map (fun _ : Int => 1)).sum
theorem Qy.toSh : ∀ (ok : Nat → Prop) (w : World) (cs : List Value) (x : Qy), x.sz ≤ 1048576 → QyR ok w cs x → QySh ok w cs x.cnt := fun _ _ _ x hs ⟨A1, n1, c1, A2, n2, c2, A3, n3, c3, e, h1, h2, h3, _⟩ =>
  ⟨A1, n1, c1, _, A2, n2, c2, _, A3, n3, c3, _, _, _, e, ⟨rfl, rfl⟩, h1.toSh Te.toSh (fun y hy => by have h1 := szL_mem Te.sz x.terms y hy; unfold Qy.sz at hs; omega), h2.toSh Tk.toSh (fun _ _ => trivial), h3.toSh Int.toSh (fun _ _ => trivial), ⟨(by have h1 := h1.1; unfold Qy.sz at hs; (try simp only [szL] at hs); omega), (by have h1 := h2.1; unfold Qy.sz at hs; (try simp only [szL] at hs); omega), (by have h1 := h3.1; unfold Qy.sz at hs; (try simp only [szL] at hs); omega)⟩, rfl⟩
theorem Qy.cnt_le (x : Qy) : x.cnt ≤ 6 * (x.sz + 1) := by
  unfold Qy.cnt Qy.sz
  have z1 := sum_le_of (f := Te.cnt) (g := Te.sz) 6 Te.cnt_le x.terms
  have z2 := sum_le_of (f := (fun _ : Tk => 5)) (g := fun t : Tk => t.vs.size) 6 (fun _ => by omega) x.wher
  have z3 : (x.ord.map (fun _ : Int => 1)).sum = x.ord.length := sum_ones _
  omega

def LnSh : Rd Nat := fun ok w cs d => ∃ (A0 : Option Addr) (n0 c0 : Nat) (m0 : List Nat), cs = [.slice A0 n0 c0] ∧ (True) ∧ Sl (ShF 3) 3 ok w A0 n0 m0 ∧ (n0 ≤ 1048576) ∧ d = m0.sum
theorem LnSh.keeps : KStays LnSh := by
  intro ok B E w w' cs cs' d hR hk hl hc
  obtain ⟨A0, n0, c0, m0, rfl, -, h0, hcp, hd⟩ := hR
  match cs', hl with
  | [x0], _ =>
    obtain ⟨y0, e0, s0, t0⟩ := hc 0 _ rfl
    obtain rfl : x0 = y0 := Option.some.inj e0
    obtain rfl := s0 rfl
    exact ⟨A0, n0, c0, m0, rfl, trivial, h0.shape (ShF.keeps 3) hk, hcp, hd⟩
def Ln.cnt (x : Ln) : Nat := (x.vals.map (fun _ : Vl => 3)).sum
theorem Ln.toSh : ∀ (ok : Nat → Prop) (w : World) (cs : List Value) (x : Ln), x.sz ≤ 1048576 → LnR ok w cs x → LnSh ok w cs x.cnt := fun _ _ _ x hs ⟨A0, n0, c0, e, h0, _⟩ =>
  ⟨A0, n0, c0, _, e, trivial, h0.toSh Vl.toSh (fun _ _ => trivial), (by have h1 := h0.1; unfold Ln.sz at hs; (try simp only [szL] at hs); omega), rfl⟩
theorem Ln.cnt_le (x : Ln) : x.cnt ≤ 6 * (x.sz + 1) := by
  unfold Ln.cnt Ln.sz
  have z0 := sum_le_of (f := (fun _ : Vl => 3)) (g := fun v : Vl => v.s.size) 6 (fun _ => by omega) x.vals
  omega

def EnSh : Rd Nat := fun ok w cs d => ∃ (A0 : Option Addr) (n0 c0 : Nat) (m0 : List Nat) (u1 : Value), cs = [.slice A0 n0 c0, u1] ∧ (isSl u1 = false) ∧ Sl (ShF 3) 3 ok w A0 n0 m0 ∧ (n0 ≤ 1048576) ∧ d = 1 + m0.sum
theorem EnSh.keeps : KStays EnSh := by
  intro ok B E w w' cs cs' d hR hk hl hc
  obtain ⟨A0, n0, c0, m0, u1, rfl, g1, h0, hcp, hd⟩ := hR
  match cs', hl with
  | [x0, x1], _ =>
    obtain ⟨y0, e0, s0, t0⟩ := hc 0 _ rfl
    obtain rfl : x0 = y0 := Option.some.inj e0
    obtain ⟨y1, e1, s1, t1⟩ := hc 1 _ rfl
    obtain rfl : x1 = y1 := Option.some.inj e1
    obtain rfl := s0 rfl
    exact ⟨A0, n0, c0, m0, x1, rfl, t1.trans g1, h0.shape (ShF.keeps 3) hk, hcp, hd⟩
def En.cnt (x : En) : Nat := 1 + (x.key.map (fun _ : Vl => 3)).sum
theorem En.toSh : ∀ (ok : Nat → Prop) (w : World) (cs : List Value) (x : En), x.sz ≤ 1048576 → EnR ok w cs x → EnSh ok w cs x.cnt := fun _ _ _ x hs ⟨A0, n0, c0, e, h0, _⟩ =>
  ⟨A0, n0, c0, _, _, e, rfl, h0.toSh Vl.toSh (fun _ _ => trivial), (by have h1 := h0.1; unfold En.sz at hs; (try simp only [szL] at hs); omega), rfl⟩
theorem En.cnt_le (x : En) : x.cnt ≤ 6 * (x.sz + 1) := by
  unfold En.cnt En.sz
  have z0 := sum_le_of (f := (fun _ : Vl => 3)) (g := fun v : Vl => v.s.size) 6 (fun _ => by omega) x.key
  omega

def ChSh : Rd Nat := fun ok w cs d => ∃ (A2 : Option Addr) (n2 c2 : Nat) (m2 : List Nat) (A3 : Option Addr) (n3 c3 : Nat) (m3 : List Nat) (u0 u1 : Value), cs = [u0, u1, .slice A2 n2 c2, .slice A3 n3 c3] ∧ (isSl u0 = false ∧ isSl u1 = false) ∧ Sl (ShF 3) 3 ok w A2 n2 m2 ∧ Sl (ShF 3) 3 ok w A3 n3 m3 ∧ (n2 ≤ 1048576 ∧ n3 ≤ 1048576) ∧ d = 2 + m2.sum + m3.sum
theorem ChSh.keeps : KStays ChSh := by
  intro ok B E w w' cs cs' d hR hk hl hc
  obtain ⟨A2, n2, c2, m2, A3, n3, c3, m3, u0, u1, rfl, ⟨g0, g1⟩, h2, h3, hcp, hd⟩ := hR
  match cs', hl with
  | [x0, x1, x2, x3], _ =>
    obtain ⟨y0, e0, s0, t0⟩ := hc 0 _ rfl
    obtain rfl : x0 = y0 := Option.some.inj e0
    obtain ⟨y1, e1, s1, t1⟩ := hc 1 _ rfl
    obtain rfl : x1 = y1 := Option.some.inj e1
    obtain ⟨y2, e2, s2, t2⟩ := hc 2 _ rfl
    obtain rfl : x2 = y2 := Option.some.inj e2
    obtain ⟨y3, e3, s3, t3⟩ := hc 3 _ rfl
    obtain rfl : x3 = y3 := Option.some.inj e3
    obtain rfl := s2 rfl
    obtain rfl := s3 rfl
    exact ⟨A2, n2, c2, m2, A3, n3, c3, m3, x0, x1, rfl, ⟨t0.trans g0, t1.trans g1⟩, h2.shape (ShF.keeps 3) hk, h3.shape (ShF.keeps 3) hk, hcp, hd⟩
def Ch.cnt (x : Ch) : Nat := 2 + (x.old.map (fun _ : Vl => 3)).sum + (x.now.map (fun _ : Vl => 3)).sum
theorem Ch.toSh : ∀ (ok : Nat → Prop) (w : World) (cs : List Value) (x : Ch), x.sz ≤ 1048576 → ChR ok w cs x → ChSh ok w cs x.cnt := fun _ _ _ x hs ⟨A2, n2, c2, A3, n3, c3, e, h2, h3, _⟩ =>
  ⟨A2, n2, c2, _, A3, n3, c3, _, _, _, e, ⟨rfl, rfl⟩, h2.toSh Vl.toSh (fun _ _ => trivial), h3.toSh Vl.toSh (fun _ _ => trivial), ⟨(by have h1 := h2.1; unfold Ch.sz at hs; (try simp only [szL] at hs); omega), (by have h1 := h3.1; unfold Ch.sz at hs; (try simp only [szL] at hs); omega)⟩, rfl⟩
theorem Ch.cnt_le (x : Ch) : x.cnt ≤ 6 * (x.sz + 1) := by
  unfold Ch.cnt Ch.sz
  have z2 := sum_le_of (f := (fun _ : Vl => 3)) (g := fun v : Vl => v.s.size) 6 (fun _ => by omega) x.old
  have z3 := sum_le_of (f := (fun _ : Vl => 3)) (g := fun v : Vl => v.s.size) 6 (fun _ => by omega) x.now
  omega

def DzSh : Rd Nat := fun ok w cs d => ∃ (A0 : Option Addr) (n0 c0 : Nat) (m0 : List Nat) (A1 : Option Addr) (n1 c1 : Nat) (m1 : List Nat) (A2 : Option Addr) (n2 c2 : Nat) (m2 : List Nat), cs = [.slice A0 n0 c0, .slice A1 n1 c1, .slice A2 n2 c2] ∧ (True) ∧ Sl (ShF 2) 2 ok w A0 n0 m0 ∧ Sl (ShF 2) 2 ok w A1 n1 m1 ∧ Sl (ShF 4) 4 ok w A2 n2 m2 ∧ (n0 ≤ 1048576 ∧ n1 ≤ 1048576 ∧ n2 ≤ 1048576) ∧ d = m0.sum + m1.sum + m2.sum
theorem DzSh.keeps : KStays DzSh := by
  intro ok B E w w' cs cs' d hR hk hl hc
  obtain ⟨A0, n0, c0, m0, A1, n1, c1, m1, A2, n2, c2, m2, rfl, -, h0, h1, h2, hcp, hd⟩ := hR
  match cs', hl with
  | [x0, x1, x2], _ =>
    obtain ⟨y0, e0, s0, t0⟩ := hc 0 _ rfl
    obtain rfl : x0 = y0 := Option.some.inj e0
    obtain ⟨y1, e1, s1, t1⟩ := hc 1 _ rfl
    obtain rfl : x1 = y1 := Option.some.inj e1
    obtain ⟨y2, e2, s2, t2⟩ := hc 2 _ rfl
    obtain rfl : x2 = y2 := Option.some.inj e2
    obtain rfl := s0 rfl
    obtain rfl := s1 rfl
    obtain rfl := s2 rfl
    exact ⟨A0, n0, c0, m0, A1, n1, c1, m1, A2, n2, c2, m2, rfl, trivial, h0.shape (ShF.keeps 2) hk, h1.shape (ShF.keeps 2) hk, h2.shape (ShF.keeps 4) hk, hcp, hd⟩
def Dz.cnt (x : Dz) : Nat := (x.live.map (fun _ : Fz => 2)).sum + (x.safe.map (fun _ : Fz => 2)).sum + (x.ops.map (fun _ : Oz => 4)).sum
theorem Dz.toSh : ∀ (ok : Nat → Prop) (w : World) (cs : List Value) (x : Dz), x.sz ≤ 1048576 → DzR ok w cs x → DzSh ok w cs x.cnt := fun _ _ _ x hs ⟨A0, n0, c0, A1, n1, c1, A2, n2, c2, e, h0, h1, h2, _⟩ =>
  ⟨A0, n0, c0, _, A1, n1, c1, _, A2, n2, c2, _, e, trivial, h0.toSh Fz.toSh (fun _ _ => trivial), h1.toSh Fz.toSh (fun _ _ => trivial), h2.toSh Oz.toSh (fun _ _ => trivial), ⟨(by have h1 := h0.1; unfold Dz.sz at hs; (try simp only [szL] at hs); omega), (by have h1 := h1.1; unfold Dz.sz at hs; (try simp only [szL] at hs); omega), (by have h1 := h2.1; unfold Dz.sz at hs; (try simp only [szL] at hs); omega)⟩, rfl⟩
theorem Dz.cnt_le (x : Dz) : x.cnt ≤ 6 * (x.sz + 1) := by
  unfold Dz.cnt Dz.sz
  have z0 := sum_le_of (f := (fun _ : Fz => 2)) (g := Fz.sz) 6 (fun _ => by omega) x.live
  have z1 := sum_le_of (f := (fun _ : Fz => 2)) (g := Fz.sz) 6 (fun _ => by omega) x.safe
  have z2 := sum_le_of (f := (fun _ : Oz => 4)) (g := Oz.sz) 6 (fun _ => by omega) x.ops
  omega


end Go.Proofs.YtakhcgkhjmfndaaGreat
