/-
  Several texts in one: what the proof leans on, part 3.
-/
import Derived.Test.YtemimhghhihllaaGreatUa
import Derived.Test.YtemimhghhihllaaGreatUb
import Derived.Laws.IdiomStrings
import Derived.Lib.SliceRun
import Derived.Deep.RegionHeld3
import Derived.Deep.QuietTactic
import Derived.BigQuiet
import Derived.Maps.AppendAt
import Derived.OwnWalk
import Derived.Deep.RegionLaw
import Derived.Deep.AppendLies
import Derived.Laws.OwnMore
import Derived.Deep.Cut
import Derived.Lib.Overlaps
import Derived.Lib.AppendZeros
import Derived.Lib.AppendZerosOnto
import Derived.Shelf.Spec.SlicesInsert
import Derived.Shelf.RegionOpenPlain
import Derived.Lib.SmallJoins
import Derived.Deep.RegionWith
import Derived.Laws.AppendOwnNone
set_option linter.unusedVariables false
set_option linter.unusedSimpArgs false
namespace Go.Proofs.YtemimhghhihllaaGreat
open Go.RowKit
def digB (k : Nat) : ByteArray := ⟨#[UInt8.ofNat (48 + k % 10)]⟩
def mtFin : Nat → Nat → ByteArray → ByteArray
  | 0, _, out => ⟨#[109]⟩ ++ out
  | f + 1, k, out => if k = 0 then ⟨#[109]⟩ ++ out else mtFin f (k / 10) (digB k ++ out)
def mtx (k : Nat) : ByteArray := if k = 0 then ⟨#[109, 48]⟩ else mtFin k k ⟨#[]⟩
theorem mtFin_zero (f : Nat) (out : ByteArray) : mtFin f 0 out = ⟨#[109]⟩ ++ out := by cases f <;> simp [mtFin]
theorem mtFin_step (f k : Nat) (out : ByteArray) (h : 0 < k) : mtFin (f + 1) k out = mtFin f (k / 10) (digB k ++ out) := by
  rw [mtFin, if_neg (by omega)]
theorem digB_run (j : Nat) (w : World) :
    (convert 170 9 (.slice (some ⟨w.heap.size, 0, none⟩) 1 1)).run Tryz.prog (w.alloc (.cells #[.int .u8 (48 + (j : Int) % 10)] 5)) = .ok (.string (digB j)) (w.alloc (.cells #[.int .u8 (48 + (j : Int) % 10)] 5)) := by
  refine run_convert_bytes_back _ _ _ 5 ⟨w.heap.size, 0, none⟩ 1 [UInt8.ofNat (48 + j % 10)] Tryz.underlying170 Tryz.underlying5 Tryz.underlying9 fun i hi => ?_
  have e : i = 0 := by simpa using hi
  subst e
  have e2 : (UInt8.ofNat (48 + j % 10)).toNat = 48 + j % 10 := by rw [UInt8.toNat_ofNat']; omega
  simp [Addr.add, World.cell?_alloc_mark]
  omega
def MtRel (k : Nat) (w : World) (m o : Value) (wr : World) : Prop := ∃ (f j : Nat) (out : ByteArray), m = .int .i64 j ∧ o = .string out ∧ j ≤ f ∧ out.size + f ≤ k ∧ Hid (mtFin k k ⟨#[]⟩ = mtFin f j out) ∧ Below w.heap.size w wr
theorem digB_size (j : Nat) : (digB j).size = 1 := rfl
set_option maxRecDepth 100000 in
set_option maxHeartbeats 1000000 in
theorem lawsMarkText (k : Nat) (w : World) (hk : k ≤ 1073741824) {x : Int} (hx : x = k) :
    Calls Tryz.prog 54 #[.int .i64 x] w fun e w' => e = .returned (.string (mtx k)) ∧ Below w.heap.size w w' := by
  subst hx
  by_cases h0 : k = 0
  · subst h0
    go_enter Tryz.func54, Tryz.ntmps54
    go_wp2_with fail
    go_ret
    exact ⟨rfl, Below.refl _ _⟩
  have hpos : ¬ ((k : Int) ≤ 0) := by omega
  go_enter Tryz.func54, Tryz.ntmps54
  go_wp2_with fail
  go_loopw [0, 3] (MtRel k w) (fun m _ _ => (intOf m).toNat)
  case atStart => exact ⟨k, k, ⟨#[]⟩, rfl, rfl, Nat.le_refl _, by simp [ByteArray.size], Lib.hid rfl, Below.refl _ _⟩
  case round =>
    obtain ⟨f, j, out, rfl, rfl, hj, ho, hm, hb⟩ := hrel
    by_cases hlt : 0 < j
    · obtain ⟨f, rfl⟩ : ∃ g, f = g + 1 := ⟨f - 1, by omega⟩
      have hm2 := hm.out
      rw [mtFin_step _ _ _ hlt] at hm2
      have HM := Lib.hid hm2
      clear hm hm2
      have d0 : (0 : Int) < j := by omega
      have hcv := digB_run j wr
      have hc1 : (digB j).size + out.size ≤ 9223372036854775807 := by rw [digB_size]; omega
      have hc2 : ¬ 9223372036854775807 < (digB j).size + out.size := by omega
      have hba := hb.alloc hb.size (.cells #[.int .u8 (48 + (j : Int) % 10)] 5)
      go_wp2_with fail
      go_roundw
      case rel => exact ⟨f, j / 10, digB j ++ out, by go_num, rfl, by omega, by rw [ByteArray.size_append, digB_size]; omega, HM, hba⟩
      case measure => simp [intOf]; omega
    · have e : j = 0 := by omega
      have hm2 := hm.out
      rw [e, mtFin_zero] at hm2
      have HM := Lib.hid (show mtx k = ⟨#[109]⟩ ++ out by rw [mtx, if_neg h0]; exact hm2)
      have d0 : ¬ ((0 : Int) < j) := by omega
      have hc1 : (⟨#[109]⟩ : ByteArray).size + out.size ≤ 9223372036854775807 := by show 1 + out.size ≤ _; omega
      have hc2 : 1 + out.size ≤ 9223372036854775807 := by omega
      clear hm hm2 e
      go_wp2_with fail
      go_ret
      exact ⟨by rw [HM.out]; rfl, hb⟩
theorem Int.toSh : ∀ (ok : Nat → Prop) (w : World) (cs : List Value) (x : Int), True → IntR ok w cs x → ShF 1 ok w cs ((fun _ : Int => 1) x) := fun _ _ cs x _ h => by
  have e : cs = _ := h
  subst e
  refine ⟨rfl, fun j v hv => ?_, rfl⟩
  have hj : j < 1 := (List.getElem?_eq_some_iff.1 hv).1
  have : j = 0 := by omega
  rcases this with rfl <;> (obtain rfl := Option.some.inj hv; rfl)
theorem Tk.toSh : ∀ (ok : Nat → Prop) (w : World) (cs : List Value) (x : Tk), True → TkR ok w cs x → ShF 5 ok w cs ((fun _ : Tk => 5) x) := fun _ _ cs x _ h => by
  have e : cs = _ := h
  subst e
  refine ⟨rfl, fun j v hv => ?_, rfl⟩
  have hj : j < 5 := (List.getElem?_eq_some_iff.1 hv).1
  have : j = 0 ∨ j = 1 ∨ j = 2 ∨ j = 3 ∨ j = 4 := by omega
  rcases this with rfl | rfl | rfl | rfl | rfl <;> (obtain rfl := Option.some.inj hv; rfl)
theorem Vl.toSh : ∀ (ok : Nat → Prop) (w : World) (cs : List Value) (x : Vl), True → VlR ok w cs x → ShF 3 ok w cs ((fun _ : Vl => 3) x) := fun _ _ cs x _ h => by
  have e : cs = _ := h
  subst e
  refine ⟨rfl, fun j v hv => ?_, rfl⟩
  have hj : j < 3 := (List.getElem?_eq_some_iff.1 hv).1
  have : j = 0 ∨ j = 1 ∨ j = 2 := by omega
  rcases this with rfl | rfl | rfl <;> (obtain rfl := Option.some.inj hv; rfl)
theorem Cl.toSh : ∀ (ok : Nat → Prop) (w : World) (cs : List Value) (x : Cl), True → ClR ok w cs x → ShF 6 ok w cs ((fun _ : Cl => 6) x) := fun _ _ cs x _ h => by
  have e : cs = _ := h
  subst e
  refine ⟨rfl, fun j v hv => ?_, rfl⟩
  have hj : j < 6 := (List.getElem?_eq_some_iff.1 hv).1
  have : j = 0 ∨ j = 1 ∨ j = 2 ∨ j = 3 ∨ j = 4 ∨ j = 5 := by omega
  rcases this with rfl | rfl | rfl | rfl | rfl | rfl <;> (obtain rfl := Option.some.inj hv; rfl)
def UqSh : Rd Nat := fun ok w cs d => ∃ (A0 : Option Addr) (n0 c0 : Nat) (m0 : List Nat), cs = [.slice A0 n0 c0] ∧ (True) ∧ Sl (ShF 1) 1 ok w A0 n0 m0 ∧ (n0 ≤ 1048576) ∧ d = m0.sum
theorem UqSh.keeps : KStays UqSh := by
  intro ok B E w w' cs cs' d hR hk hl hc
  obtain ⟨A0, n0, c0, m0, rfl, -, h0, hcp, hd⟩ := hR
  match cs', hl with
  | [x0], _ =>
    obtain ⟨y0, e0, s0, t0⟩ := hc 0 _ rfl
    obtain rfl : x0 = y0 := Option.some.inj e0
    obtain rfl := s0 rfl
    exact ⟨A0, n0, c0, m0, rfl, trivial, h0.shape (ShF.keeps 1) hk, hcp, hd⟩
def Uq.cnt (x : Uq) : Nat := (x.cols.map (fun _ : Int => 1)).sum
theorem Uq.toSh : ∀ (ok : Nat → Prop) (w : World) (cs : List Value) (x : Uq), x.sz ≤ 1048576 → UqR ok w cs x → UqSh ok w cs x.cnt := fun _ _ _ x hs ⟨A0, n0, c0, e, h0, _⟩ =>
  ⟨A0, n0, c0, _, e, trivial, h0.toSh Int.toSh (fun _ _ => trivial), (by have h1 := h0.1; unfold Uq.sz at hs; (try simp only [szL] at hs); omega), rfl⟩
theorem Uq.cnt_le (x : Uq) : x.cnt ≤ 6 * (x.sz + 1) := by
  unfold Uq.cnt Uq.sz
  have z0 : (x.cols.map (fun _ : Int => 1)).sum = x.cols.length := sum_ones _
  omega
def CkSh : Rd Nat := fun ok w cs d => ∃ (A0 : Option Addr) (n0 c0 : Nat) (m0 : List Nat), cs = [.slice A0 n0 c0] ∧ (True) ∧ Sl (ShF 5) 5 ok w A0 n0 m0 ∧ (n0 ≤ 1048576) ∧ d = m0.sum
theorem CkSh.keeps : KStays CkSh := by
  intro ok B E w w' cs cs' d hR hk hl hc
  obtain ⟨A0, n0, c0, m0, rfl, -, h0, hcp, hd⟩ := hR
  match cs', hl with
  | [x0], _ =>
    obtain ⟨y0, e0, s0, t0⟩ := hc 0 _ rfl
    obtain rfl : x0 = y0 := Option.some.inj e0
    obtain rfl := s0 rfl
    exact ⟨A0, n0, c0, m0, rfl, trivial, h0.shape (ShF.keeps 5) hk, hcp, hd⟩
def Ck.cnt (x : Ck) : Nat := (x.expr.map (fun _ : Tk => 5)).sum
theorem Ck.toSh : ∀ (ok : Nat → Prop) (w : World) (cs : List Value) (x : Ck), x.sz ≤ 1048576 → CkR ok w cs x → CkSh ok w cs x.cnt := fun _ _ _ x hs ⟨A0, n0, c0, e, h0, _⟩ =>
  ⟨A0, n0, c0, _, e, trivial, h0.toSh Tk.toSh (fun _ _ => trivial), (by have h1 := h0.1; unfold Ck.sz at hs; (try simp only [szL] at hs); omega), rfl⟩
theorem Ck.cnt_le (x : Ck) : x.cnt ≤ 6 * (x.sz + 1) := by
  unfold Ck.cnt Ck.sz
  have z0 := sum_le_of (f := (fun _ : Tk => 5)) (g := fun t : Tk => t.vs.size) 6 (fun _ => by omega) x.expr
  omega
def FkSh : Rd Nat := fun ok w cs d => ∃ (A0 : Option Addr) (n0 c0 : Nat) (m0 : List Nat) (u1 u2 u3 u4 : Value), cs = [.slice A0 n0 c0, u1, u2, u3, u4] ∧ (isSl u1 = false ∧ isSl u2 = false ∧ isSl u3 = false ∧ isSl u4 = false) ∧ Sl (ShF 1) 1 ok w A0 n0 m0 ∧ (n0 ≤ 1048576) ∧ d = 4 + m0.sum
theorem FkSh.keeps : KStays FkSh := by
  intro ok B E w w' cs cs' d hR hk hl hc
  obtain ⟨A0, n0, c0, m0, u1, u2, u3, u4, rfl, ⟨g1, g2, g3, g4⟩, h0, hcp, hd⟩ := hR
  match cs', hl with
  | [x0, x1, x2, x3, x4], _ =>
    obtain ⟨y0, e0, s0, t0⟩ := hc 0 _ rfl
    obtain rfl : x0 = y0 := Option.some.inj e0
    obtain ⟨y1, e1, s1, t1⟩ := hc 1 _ rfl
    obtain rfl : x1 = y1 := Option.some.inj e1
    obtain ⟨y2, e2, s2, t2⟩ := hc 2 _ rfl
    obtain rfl : x2 = y2 := Option.some.inj e2
    obtain ⟨y3, e3, s3, t3⟩ := hc 3 _ rfl
    obtain rfl : x3 = y3 := Option.some.inj e3
    obtain ⟨y4, e4, s4, t4⟩ := hc 4 _ rfl
    obtain rfl : x4 = y4 := Option.some.inj e4
    obtain rfl := s0 rfl
    exact ⟨A0, n0, c0, m0, x1, x2, x3, x4, rfl, ⟨t1.trans g1, t2.trans g2, t3.trans g3, t4.trans g4⟩, h0.shape (ShF.keeps 1) hk, hcp, hd⟩
def Fk.cnt (x : Fk) : Nat := 4 + (x.cols.map (fun _ : Int => 1)).sum
theorem Fk.toSh : ∀ (ok : Nat → Prop) (w : World) (cs : List Value) (x : Fk), x.sz ≤ 1048576 → FkR ok w cs x → FkSh ok w cs x.cnt := fun _ _ _ x hs ⟨A0, n0, c0, e, h0, _⟩ =>
  ⟨A0, n0, c0, _, _, _, _, _, e, ⟨rfl, rfl, rfl, rfl⟩, h0.toSh Int.toSh (fun _ _ => trivial), (by have h1 := h0.1; unfold Fk.sz at hs; (try simp only [szL] at hs); omega), rfl⟩
theorem Fk.cnt_le (x : Fk) : x.cnt ≤ 6 * (x.sz + 1) := by
  unfold Fk.cnt Fk.sz
  have z0 : (x.cols.map (fun _ : Int => 1)).sum = x.cols.length := sum_ones _
  omega
def TbSh : Rd Nat := fun ok w cs d => ∃ (A1 : Option Addr) (n1 c1 : Nat) (m1 : List Nat) (A2 : Option Addr) (n2 c2 : Nat) (m2 : List Nat) (A3 : Option Addr) (n3 c3 : Nat) (m3 : List Nat) (A4 : Option Addr) (n4 c4 : Nat) (m4 : List Nat) (A5 : Option Addr) (n5 c5 : Nat) (m5 : List Nat) (u0 : Value), cs = [u0, .slice A1 n1 c1, .slice A2 n2 c2, .slice A3 n3 c3, .slice A4 n4 c4, .slice A5 n5 c5] ∧ (isSl u0 = false) ∧ Sl (ShF 6) 6 ok w A1 n1 m1 ∧ Sl (ShF 1) 1 ok w A2 n2 m2 ∧ Sl UqSh 1 ok w A3 n3 m3 ∧ Sl CkSh 1 ok w A4 n4 m4 ∧ Sl FkSh 5 ok w A5 n5 m5 ∧ (n1 ≤ 1048576 ∧ n2 ≤ 1048576 ∧ n3 ≤ 1048576 ∧ n4 ≤ 1048576 ∧ n5 ≤ 1048576) ∧ d = 1 + m1.sum + m2.sum + m3.sum + m4.sum + m5.sum
theorem TbSh.keeps : KStays TbSh := by
  intro ok B E w w' cs cs' d hR hk hl hc
  obtain ⟨A1, n1, c1, m1, A2, n2, c2, m2, A3, n3, c3, m3, A4, n4, c4, m4, A5, n5, c5, m5, u0, rfl, g0, h1, h2, h3, h4, h5, hcp, hd⟩ := hR
  match cs', hl with
  | [x0, x1, x2, x3, x4, x5], _ =>
    obtain ⟨y0, e0, s0, t0⟩ := hc 0 _ rfl
    obtain rfl : x0 = y0 := Option.some.inj e0
    obtain ⟨y1, e1, s1, t1⟩ := hc 1 _ rfl
    obtain rfl : x1 = y1 := Option.some.inj e1
    obtain ⟨y2, e2, s2, t2⟩ := hc 2 _ rfl
    obtain rfl : x2 = y2 := Option.some.inj e2
    obtain ⟨y3, e3, s3, t3⟩ := hc 3 _ rfl
    obtain rfl : x3 = y3 := Option.some.inj e3
    obtain ⟨y4, e4, s4, t4⟩ := hc 4 _ rfl
    obtain rfl : x4 = y4 := Option.some.inj e4
    obtain ⟨y5, e5, s5, t5⟩ := hc 5 _ rfl
    obtain rfl : x5 = y5 := Option.some.inj e5
    obtain rfl := s1 rfl
    obtain rfl := s2 rfl
    obtain rfl := s3 rfl
    obtain rfl := s4 rfl
    obtain rfl := s5 rfl
    exact ⟨A1, n1, c1, m1, A2, n2, c2, m2, A3, n3, c3, m3, A4, n4, c4, m4, A5, n5, c5, m5, x0, rfl, t0.trans g0, h1.shape (ShF.keeps 6) hk, h2.shape (ShF.keeps 1) hk, h3.shape UqSh.keeps hk, h4.shape CkSh.keeps hk, h5.shape FkSh.keeps hk, hcp, hd⟩
def Tb.cnt (x : Tb) : Nat := 1 + (x.cols.map (fun _ : Cl => 6)).sum + (x.key.map (fun _ : Int => 1)).sum + (x.uniqs.map Uq.cnt).sum + (x.checks.map Ck.cnt).sum + (x.fks.map Fk.cnt).sum
theorem Tb.toSh : ∀ (ok : Nat → Prop) (w : World) (cs : List Value) (x : Tb), x.sz ≤ 1048576 → TbR ok w cs x → TbSh ok w cs x.cnt := fun _ _ _ x hs ⟨A1, n1, c1, A2, n2, c2, A3, n3, c3, A4, n4, c4, A5, n5, c5, e, h1, h2, h3, h4, h5, _⟩ =>
  ⟨A1, n1, c1, _, A2, n2, c2, _, A3, n3, c3, _, A4, n4, c4, _, A5, n5, c5, _, _, e, rfl, h1.toSh Cl.toSh (fun _ _ => trivial), h2.toSh Int.toSh (fun _ _ => trivial), h3.toSh Uq.toSh (fun y hy => by have h1 := szL_mem Uq.sz x.uniqs y hy; unfold Tb.sz at hs; omega), h4.toSh Ck.toSh (fun y hy => by have h1 := szL_mem Ck.sz x.checks y hy; unfold Tb.sz at hs; omega), h5.toSh Fk.toSh (fun y hy => by have h1 := szL_mem Fk.sz x.fks y hy; unfold Tb.sz at hs; omega), ⟨(by have h1 := h1.1; unfold Tb.sz at hs; (try simp only [szL] at hs); omega), (by have h1 := h2.1; unfold Tb.sz at hs; (try simp only [szL] at hs); omega), (by have h1 := h3.1; unfold Tb.sz at hs; (try simp only [szL] at hs); omega), (by have h1 := h4.1; unfold Tb.sz at hs; (try simp only [szL] at hs); omega), (by have h1 := h5.1; unfold Tb.sz at hs; (try simp only [szL] at hs); omega)⟩, rfl⟩
theorem Tb.cnt_le (x : Tb) : x.cnt ≤ 6 * (x.sz + 1) := by
  unfold Tb.cnt Tb.sz
  have z1 := sum_le_of (f := (fun _ : Cl => 6)) (g := Cl.sz) 6 (fun _ => by omega) x.cols
  have z2 : (x.key.map (fun _ : Int => 1)).sum = x.key.length := sum_ones _
  have z3 := sum_le_of (f := Uq.cnt) (g := Uq.sz) 6 Uq.cnt_le x.uniqs
  have z4 := sum_le_of (f := Ck.cnt) (g := Ck.sz) 6 Ck.cnt_le x.checks
  have z5 := sum_le_of (f := Fk.cnt) (g := Fk.sz) 6 Fk.cnt_le x.fks
  omega
def RwSh : Rd Nat := fun ok w cs d => ∃ (A1 : Option Addr) (n1 c1 : Nat) (m1 : List Nat) (u0 : Value), cs = [u0, .slice A1 n1 c1] ∧ (isSl u0 = false) ∧ Sl (ShF 3) 3 ok w A1 n1 m1 ∧ (n1 ≤ 1048576) ∧ d = 1 + m1.sum
theorem RwSh.keeps : KStays RwSh := by
  intro ok B E w w' cs cs' d hR hk hl hc
  obtain ⟨A1, n1, c1, m1, u0, rfl, g0, h1, hcp, hd⟩ := hR
  match cs', hl with
  | [x0, x1], _ =>
    obtain ⟨y0, e0, s0, t0⟩ := hc 0 _ rfl
    obtain rfl : x0 = y0 := Option.some.inj e0
    obtain ⟨y1, e1, s1, t1⟩ := hc 1 _ rfl
    obtain rfl : x1 = y1 := Option.some.inj e1
    obtain rfl := s1 rfl
    exact ⟨A1, n1, c1, m1, x0, rfl, t0.trans g0, h1.shape (ShF.keeps 3) hk, hcp, hd⟩
def Rw.cnt (x : Rw) : Nat := 1 + (x.vals.map (fun _ : Vl => 3)).sum
theorem Rw.toSh : ∀ (ok : Nat → Prop) (w : World) (cs : List Value) (x : Rw), x.sz ≤ 1048576 → RwR ok w cs x → RwSh ok w cs x.cnt := fun _ _ _ x hs ⟨A1, n1, c1, e, h1, _⟩ =>
  ⟨A1, n1, c1, _, _, e, rfl, h1.toSh Vl.toSh (fun _ _ => trivial), (by have h1 := h1.1; unfold Rw.sz at hs; (try simp only [szL] at hs); omega), rfl⟩
theorem Rw.cnt_le (x : Rw) : x.cnt ≤ 6 * (x.sz + 1) := by
  unfold Rw.cnt Rw.sz
  have z1 := sum_le_of (f := (fun _ : Vl => 3)) (g := fun v : Vl => v.s.size) 6 (fun _ => by omega) x.vals
  omega
def DtSh : Rd Nat := fun ok w cs d => ∃ (A0 : Option Addr) (n0 c0 : Nat) (m0 : List Nat), cs = [.slice A0 n0 c0] ∧ (True) ∧ Sl RwSh 2 ok w A0 n0 m0 ∧ (n0 ≤ 1048576) ∧ d = m0.sum
theorem DtSh.keeps : KStays DtSh := by
  intro ok B E w w' cs cs' d hR hk hl hc
  obtain ⟨A0, n0, c0, m0, rfl, -, h0, hcp, hd⟩ := hR
  match cs', hl with
  | [x0], _ =>
    obtain ⟨y0, e0, s0, t0⟩ := hc 0 _ rfl
    obtain rfl : x0 = y0 := Option.some.inj e0
    obtain rfl := s0 rfl
    exact ⟨A0, n0, c0, m0, rfl, trivial, h0.shape RwSh.keeps hk, hcp, hd⟩
def Dt.cnt (x : Dt) : Nat := (x.rows.map Rw.cnt).sum
theorem Dt.toSh : ∀ (ok : Nat → Prop) (w : World) (cs : List Value) (x : Dt), x.sz ≤ 1048576 → DtR ok w cs x → DtSh ok w cs x.cnt := fun _ _ _ x hs ⟨A0, n0, c0, e, h0, _⟩ =>
  ⟨A0, n0, c0, _, e, trivial, h0.toSh Rw.toSh (fun y hy => by have h1 := szL_mem Rw.sz x.rows y hy; unfold Dt.sz at hs; omega), (by have h1 := h0.1; unfold Dt.sz at hs; (try simp only [szL] at hs); omega), rfl⟩
theorem Dt.cnt_le (x : Dt) : x.cnt ≤ 6 * (x.sz + 1) := by
  unfold Dt.cnt Dt.sz
  have z0 := sum_le_of (f := Rw.cnt) (g := Rw.sz) 6 Rw.cnt_le x.rows
  omega
set_option maxRecDepth 100000 in
set_option maxHeartbeats 1000000 in
theorem marksIntL (A : Option Addr) (n c : Nat) (ms : List Nat) (ok : Nat → Prop) (B E k : Nat) (w : World) (h : Sl (ShF 1) 1 ok w A n ms) (hm : mayMark B E w ok) (hk : k + ms.sum ≤ 1073741824) (hn : n ≤ 1048576) {x : Int} (hx : x = k) :
    Calls Tryz.prog 21 #[.slice A n c, .int .i64 x] w fun e w' => e = .returned (.int .i64 ((k + ms.sum : Nat) : Int)) ∧ Kept B E w w' := by
  obtain rfl : ms.length = n := h.1
  subst hx
  go_enter Tryz.func21, Tryz.ntmps21
  go_wp2_with fail
  go_loopw [1, 5] (fun m i wr => ∃ (j t : Nat), j ≤ ms.length ∧ i = .int .i64 j ∧ m = .int .i64 ((k + t : Nat) : Int) ∧ Hid ((ms.take j).sum = t) ∧ Kept B E w wr) (fun _ i _ => ms.length - (intOf i).toNat)
  case atStart => exact ⟨0, 0, by omega, rfl, by simp, Lib.hid (by simp), Kept.refl _ _ _⟩
  case round =>
    obtain ⟨i, t, hi, rfl, rfl, ht, hK⟩ := hrel
    by_cases hlt : i < ms.length
    · have hsh := h.shape (ShF.keeps 1) hK
      have hmm := hm.kept hK
      obtain ⟨b, off, rfl, hob, hcs⟩ := hsh.2 (by omega)
      obtain ⟨cs, hcl, hR, hg⟩ := hcs i hlt
      have hst := sum_take_n ms i hlt
      have hsl := sum_take_n_le ms (i + 1)
      rw [ht.out] at hst
      obtain ⟨hB, hE, -, hfr⟩ := hmm b hob
      obtain ⟨u0, rfl⟩ : ∃ u0, cs = [u0] := by
        have h0 := hR.1
        match cs, h0 with
        | [x0], _ => exact ⟨x0, rfl⟩
      have g0 : isSl u0 = false := hR.2.1 0 _ rfl
      have hd : ms[i] = 1 := hR.2.2
      have q0 : wr.cell? ⟨b, off + i, none⟩ = some (u0) := by have := hg 0 _ rfl; rwa [Nat.mul_one] at this
      have hle : k + t + (1) ≤ 1073741824 := by omega
      have HD := Lib.hid hd
      have HST := Lib.hid hst
      clear hd hst hsl
      have f0 := hfr (off + i)
      have Q0 := Lib.hid q0
      have G0 := Lib.hid g0
      have HB := Lib.hid hB
      have HE := Lib.hid hE
      have HR := Lib.hid hfr
      have HO := Lib.hid hob
      clear hsh hcs hg hR hB hE hfr g0
      have HMM := Lib.hid hmm
      clear hmm
      go_wp2_with fail
      go_roundw
      case rel => exact ⟨i + 1, t + ms[i], by omega, by go_num, by rw [HD.out]; go_num, Lib.hid HST.out, hK.trans (by refine Kept.set ?_ Q0.out G0.out HB.out HE.out rfl; exact Kept.refl B E wr)⟩
      case measure => simp [intOf]; omega
    · obtain rfl : i = ms.length := by omega
      have e := ht.out
      rw [List.take_of_length_le (Nat.le_refl _)] at e
      have HT := Lib.hid e
      clear e ht
      go_wp2_with fail
      go_ret
      exact ⟨retI (by rw [HT.out]), hK⟩
set_option maxRecDepth 100000 in
set_option maxHeartbeats 1000000 in
theorem marksTokL (A : Option Addr) (n c : Nat) (ms : List Nat) (ok : Nat → Prop) (B E k : Nat) (w : World) (h : Sl (ShF 5) 5 ok w A n ms) (hm : mayMark B E w ok) (hk : k + ms.sum ≤ 1073741824) (hn : n ≤ 1048576) {x : Int} (hx : x = k) :
    Calls Tryz.prog 59 #[.slice A n c, .int .i64 x] w fun e w' => e = .returned (.int .i64 ((k + ms.sum : Nat) : Int)) ∧ Kept B E w w' := by
  obtain rfl : ms.length = n := h.1
  subst hx
  go_enter Tryz.func59, Tryz.ntmps59
  go_wp2_with fail
  go_loopw [1, 5] (fun m i wr => ∃ (j t : Nat), j ≤ ms.length ∧ i = .int .i64 j ∧ m = .int .i64 ((k + t : Nat) : Int) ∧ Hid ((ms.take j).sum = t) ∧ Kept B E w wr) (fun _ i _ => ms.length - (intOf i).toNat)
  case atStart => exact ⟨0, 0, by omega, rfl, by simp, Lib.hid (by simp), Kept.refl _ _ _⟩
  case round =>
    obtain ⟨i, t, hi, rfl, rfl, ht, hK⟩ := hrel
    by_cases hlt : i < ms.length
    · have hsh := h.shape (ShF.keeps 5) hK
      have hmm := hm.kept hK
      obtain ⟨b, off, rfl, hob, hcs⟩ := hsh.2 (by omega)
      obtain ⟨cs, hcl, hR, hg⟩ := hcs i hlt
      have hst := sum_take_n ms i hlt
      have hsl := sum_take_n_le ms (i + 1)
      rw [ht.out] at hst
      obtain ⟨hB, hE, -, hfr⟩ := hmm b hob
      obtain ⟨u0, u1, u2, u3, u4, rfl⟩ : ∃ u0 u1 u2 u3 u4, cs = [u0, u1, u2, u3, u4] := by
        have h0 := hR.1
        match cs, h0 with
        | [x0, x1, x2, x3, x4], _ => exact ⟨x0, x1, x2, x3, x4, rfl⟩
      have g0 : isSl u0 = false := hR.2.1 0 _ rfl
      have g1 : isSl u1 = false := hR.2.1 1 _ rfl
      have g2 : isSl u2 = false := hR.2.1 2 _ rfl
      have g3 : isSl u3 = false := hR.2.1 3 _ rfl
      have g4 : isSl u4 = false := hR.2.1 4 _ rfl
      have hd : ms[i] = 5 := hR.2.2
      have q0 : wr.cell? ⟨b, off + i * 5, none⟩ = some (u0) := hg 0 _ rfl
      have q1 : wr.cell? ⟨b, off + i * 5 + 1, none⟩ = some (u1) := hg 1 _ rfl
      have q2 : wr.cell? ⟨b, off + i * 5 + 2, none⟩ = some (u2) := hg 2 _ rfl
      have q3 : wr.cell? ⟨b, off + i * 5 + 3, none⟩ = some (u3) := hg 3 _ rfl
      have q4 : wr.cell? ⟨b, off + i * 5 + 4, none⟩ = some (u4) := hg 4 _ rfl
      have hle : k + t + (5) ≤ 1073741824 := by omega
      have HD := Lib.hid hd
      have HST := Lib.hid hst
      clear hd hst hsl
      have f0 := hfr (off + i * 5)
      have f1 := hfr (off + i * 5 + 1)
      have f2 := hfr (off + i * 5 + 2)
      have f3 := hfr (off + i * 5 + 3)
      have f4 := hfr (off + i * 5 + 4)
      have Q0 := Lib.hid q0
      have Q1 := Lib.hid q1
      have Q2 := Lib.hid q2
      have Q3 := Lib.hid q3
      have Q4 := Lib.hid q4
      have G0 := Lib.hid g0
      have G1 := Lib.hid g1
      have G2 := Lib.hid g2
      have G3 := Lib.hid g3
      have G4 := Lib.hid g4
      have HB := Lib.hid hB
      have HE := Lib.hid hE
      have HR := Lib.hid hfr
      have HO := Lib.hid hob
      clear hsh hcs hg hR hB hE hfr g0 g1 g2 g3 g4
      have HMM := Lib.hid hmm
      clear hmm
      go_wp2_with fail
      refine (lawsMarkText (k + t + 4) _ (by omega) (by omega)).mono ?_
      rintro e w1 ⟨rfl, hb1⟩
      have hk1 : Kept B E wr w1 := by refine (Kept.below hb1).after ?_; refine Kept.set ?_ Q3.out G3.out HB.out HE.out rfl; refine Kept.set ?_ Q2.out G2.out HB.out HE.out rfl; refine Kept.set ?_ Q1.out G1.out HB.out HE.out rfl; refine Kept.set ?_ Q0.out G0.out HB.out HE.out rfl; exact Kept.refl B E wr
      obtain ⟨v1_0, z1_0, -, -⟩ := hk1.cell _ _ Q0.out
      have k1_0 := (HMM.out.kept hk1 b HO.out).2.2.2 (off + i * 5)
      obtain ⟨v1_1, z1_1, -, -⟩ := hk1.cell _ _ Q1.out
      have k1_1 := (HMM.out.kept hk1 b HO.out).2.2.2 (off + i * 5 + 1)
      obtain ⟨v1_2, z1_2, -, -⟩ := hk1.cell _ _ Q2.out
      have k1_2 := (HMM.out.kept hk1 b HO.out).2.2.2 (off + i * 5 + 2)
      obtain ⟨v1_3, z1_3, -, -⟩ := hk1.cell _ _ Q3.out
      have k1_3 := (HMM.out.kept hk1 b HO.out).2.2.2 (off + i * 5 + 3)
      obtain ⟨v1_4, z1_4, -, -⟩ := hk1.cell _ _ Q4.out
      have k1_4 := (HMM.out.kept hk1 b HO.out).2.2.2 (off + i * 5 + 4)
      clear q0 q1 q2 q3 q4 f0 f1 f2 f3 f4
      go_wp2_with fail
      go_roundw
      case rel => exact ⟨i + 1, t + ms[i], by omega, by go_num, by rw [HD.out]; go_num, Lib.hid HST.out, hK.trans (by refine Kept.set ?_ Q4.out G4.out HB.out HE.out rfl; exact hk1)⟩
      case measure => simp [intOf]; omega
    · obtain rfl : i = ms.length := by omega
      have e := ht.out
      rw [List.take_of_length_le (Nat.le_refl _)] at e
      have HT := Lib.hid e
      clear e ht
      go_wp2_with fail
      go_ret
      exact ⟨retI (by rw [HT.out]), hK⟩
set_option maxRecDepth 100000 in
set_option maxHeartbeats 1000000 in
theorem marksValL (A : Option Addr) (n c : Nat) (ms : List Nat) (ok : Nat → Prop) (B E k : Nat) (w : World) (h : Sl (ShF 3) 3 ok w A n ms) (hm : mayMark B E w ok) (hk : k + ms.sum ≤ 1073741824) (hn : n ≤ 1048576) {x : Int} (hx : x = k) :
    Calls Tryz.prog 20 #[.slice A n c, .int .i64 x] w fun e w' => e = .returned (.int .i64 ((k + ms.sum : Nat) : Int)) ∧ Kept B E w w' := by
  obtain rfl : ms.length = n := h.1
  subst hx
  go_enter Tryz.func20, Tryz.ntmps20
  go_wp2_with fail
  go_loopw [1, 5] (fun m i wr => ∃ (j t : Nat), j ≤ ms.length ∧ i = .int .i64 j ∧ m = .int .i64 ((k + t : Nat) : Int) ∧ Hid ((ms.take j).sum = t) ∧ Kept B E w wr) (fun _ i _ => ms.length - (intOf i).toNat)
  case atStart => exact ⟨0, 0, by omega, rfl, by simp, Lib.hid (by simp), Kept.refl _ _ _⟩
  case round =>
    obtain ⟨i, t, hi, rfl, rfl, ht, hK⟩ := hrel
    by_cases hlt : i < ms.length
    · have hsh := h.shape (ShF.keeps 3) hK
      have hmm := hm.kept hK
      obtain ⟨b, off, rfl, hob, hcs⟩ := hsh.2 (by omega)
      obtain ⟨cs, hcl, hR, hg⟩ := hcs i hlt
      have hst := sum_take_n ms i hlt
      have hsl := sum_take_n_le ms (i + 1)
      rw [ht.out] at hst
      obtain ⟨hB, hE, -, hfr⟩ := hmm b hob
      obtain ⟨u0, u1, u2, rfl⟩ : ∃ u0 u1 u2, cs = [u0, u1, u2] := by
        have h0 := hR.1
        match cs, h0 with
        | [x0, x1, x2], _ => exact ⟨x0, x1, x2, rfl⟩
      have g0 : isSl u0 = false := hR.2.1 0 _ rfl
      have g1 : isSl u1 = false := hR.2.1 1 _ rfl
      have g2 : isSl u2 = false := hR.2.1 2 _ rfl
      have hd : ms[i] = 3 := hR.2.2
      have q0 : wr.cell? ⟨b, off + i * 3, none⟩ = some (u0) := hg 0 _ rfl
      have q1 : wr.cell? ⟨b, off + i * 3 + 1, none⟩ = some (u1) := hg 1 _ rfl
      have q2 : wr.cell? ⟨b, off + i * 3 + 2, none⟩ = some (u2) := hg 2 _ rfl
      have hle : k + t + (3) ≤ 1073741824 := by omega
      have HD := Lib.hid hd
      have HST := Lib.hid hst
      clear hd hst hsl
      have f0 := hfr (off + i * 3)
      have f1 := hfr (off + i * 3 + 1)
      have f2 := hfr (off + i * 3 + 2)
      have Q0 := Lib.hid q0
      have Q1 := Lib.hid q1
      have Q2 := Lib.hid q2
      have G0 := Lib.hid g0
      have G1 := Lib.hid g1
      have G2 := Lib.hid g2
      have HB := Lib.hid hB
      have HE := Lib.hid hE
      have HR := Lib.hid hfr
      have HO := Lib.hid hob
      clear hsh hcs hg hR hB hE hfr g0 g1 g2
      have HMM := Lib.hid hmm
      clear hmm
      go_wp2_with fail
      refine (lawsMarkText (k + t + 2) _ (by omega) (by omega)).mono ?_
      rintro e w1 ⟨rfl, hb1⟩
      have hk1 : Kept B E wr w1 := by refine (Kept.below hb1).after ?_; refine Kept.set ?_ Q1.out G1.out HB.out HE.out rfl; refine Kept.set ?_ Q0.out G0.out HB.out HE.out rfl; exact Kept.refl B E wr
      obtain ⟨v1_0, z1_0, -, -⟩ := hk1.cell _ _ Q0.out
      have k1_0 := (HMM.out.kept hk1 b HO.out).2.2.2 (off + i * 3)
      obtain ⟨v1_1, z1_1, -, -⟩ := hk1.cell _ _ Q1.out
      have k1_1 := (HMM.out.kept hk1 b HO.out).2.2.2 (off + i * 3 + 1)
      obtain ⟨v1_2, z1_2, -, -⟩ := hk1.cell _ _ Q2.out
      have k1_2 := (HMM.out.kept hk1 b HO.out).2.2.2 (off + i * 3 + 2)
      clear q0 q1 q2 f0 f1 f2
      go_wp2_with fail
      go_roundw
      case rel => exact ⟨i + 1, t + ms[i], by omega, by go_num, by rw [HD.out]; go_num, Lib.hid HST.out, hK.trans (by refine Kept.set ?_ Q2.out G2.out HB.out HE.out rfl; exact hk1)⟩
      case measure => simp [intOf]; omega
    · obtain rfl : i = ms.length := by omega
      have e := ht.out
      rw [List.take_of_length_le (Nat.le_refl _)] at e
      have HT := Lib.hid e
      clear e ht
      go_wp2_with fail
      go_ret
      exact ⟨retI (by rw [HT.out]), hK⟩
set_option maxRecDepth 100000 in
set_option maxHeartbeats 1000000 in
theorem marksColL (A : Option Addr) (n c : Nat) (ms : List Nat) (ok : Nat → Prop) (B E k : Nat) (w : World) (h : Sl (ShF 6) 6 ok w A n ms) (hm : mayMark B E w ok) (hk : k + ms.sum ≤ 1073741824) (hn : n ≤ 1048576) {x : Int} (hx : x = k) :
    Calls Tryz.prog 55 #[.slice A n c, .int .i64 x] w fun e w' => e = .returned (.int .i64 ((k + ms.sum : Nat) : Int)) ∧ Kept B E w w' := by
  obtain rfl : ms.length = n := h.1
  subst hx
  go_enter Tryz.func55, Tryz.ntmps55
  go_wp2_with fail
  go_loopw [1, 5] (fun m i wr => ∃ (j t : Nat), j ≤ ms.length ∧ i = .int .i64 j ∧ m = .int .i64 ((k + t : Nat) : Int) ∧ Hid ((ms.take j).sum = t) ∧ Kept B E w wr) (fun _ i _ => ms.length - (intOf i).toNat)
  case atStart => exact ⟨0, 0, by omega, rfl, by simp, Lib.hid (by simp), Kept.refl _ _ _⟩
  case round =>
    obtain ⟨i, t, hi, rfl, rfl, ht, hK⟩ := hrel
    by_cases hlt : i < ms.length
    · have hsh := h.shape (ShF.keeps 6) hK
      have hmm := hm.kept hK
      obtain ⟨b, off, rfl, hob, hcs⟩ := hsh.2 (by omega)
      obtain ⟨cs, hcl, hR, hg⟩ := hcs i hlt
      have hst := sum_take_n ms i hlt
      have hsl := sum_take_n_le ms (i + 1)
      rw [ht.out] at hst
      obtain ⟨hB, hE, -, hfr⟩ := hmm b hob
      obtain ⟨u0, u1, u2, u3, u4, u5, rfl⟩ : ∃ u0 u1 u2 u3 u4 u5, cs = [u0, u1, u2, u3, u4, u5] := by
        have h0 := hR.1
        match cs, h0 with
        | [x0, x1, x2, x3, x4, x5], _ => exact ⟨x0, x1, x2, x3, x4, x5, rfl⟩
      have g0 : isSl u0 = false := hR.2.1 0 _ rfl
      have g1 : isSl u1 = false := hR.2.1 1 _ rfl
      have g2 : isSl u2 = false := hR.2.1 2 _ rfl
      have g3 : isSl u3 = false := hR.2.1 3 _ rfl
      have g4 : isSl u4 = false := hR.2.1 4 _ rfl
      have g5 : isSl u5 = false := hR.2.1 5 _ rfl
      have hd : ms[i] = 6 := hR.2.2
      have q0 : wr.cell? ⟨b, off + i * 6, none⟩ = some (u0) := hg 0 _ rfl
      have q1 : wr.cell? ⟨b, off + i * 6 + 1, none⟩ = some (u1) := hg 1 _ rfl
      have q2 : wr.cell? ⟨b, off + i * 6 + 2, none⟩ = some (u2) := hg 2 _ rfl
      have q3 : wr.cell? ⟨b, off + i * 6 + 3, none⟩ = some (u3) := hg 3 _ rfl
      have q4 : wr.cell? ⟨b, off + i * 6 + 4, none⟩ = some (u4) := hg 4 _ rfl
      have q5 : wr.cell? ⟨b, off + i * 6 + 5, none⟩ = some (u5) := hg 5 _ rfl
      have hle : k + t + (6) ≤ 1073741824 := by omega
      have HD := Lib.hid hd
      have HST := Lib.hid hst
      clear hd hst hsl
      have f0 := hfr (off + i * 6)
      have f1 := hfr (off + i * 6 + 1)
      have f2 := hfr (off + i * 6 + 2)
      have f3 := hfr (off + i * 6 + 3)
      have f4 := hfr (off + i * 6 + 4)
      have f5 := hfr (off + i * 6 + 5)
      have Q0 := Lib.hid q0
      have Q1 := Lib.hid q1
      have Q2 := Lib.hid q2
      have Q3 := Lib.hid q3
      have Q4 := Lib.hid q4
      have Q5 := Lib.hid q5
      have G0 := Lib.hid g0
      have G1 := Lib.hid g1
      have G2 := Lib.hid g2
      have G3 := Lib.hid g3
      have G4 := Lib.hid g4
      have G5 := Lib.hid g5
      have HB := Lib.hid hB
      have HE := Lib.hid hE
      have HR := Lib.hid hfr
      have HO := Lib.hid hob
      clear hsh hcs hg hR hB hE hfr g0 g1 g2 g3 g4 g5
      have HMM := Lib.hid hmm
      clear hmm
      go_wp2_with fail
      refine (lawsMarkText (k + t) _ (by omega) (by omega)).mono ?_
      rintro e w1 ⟨rfl, hb1⟩
      have hk1 : Kept B E wr w1 := by refine (Kept.below hb1).after ?_; exact Kept.refl B E wr
      obtain ⟨v1_0, z1_0, -, -⟩ := hk1.cell _ _ Q0.out
      have k1_0 := (HMM.out.kept hk1 b HO.out).2.2.2 (off + i * 6)
      obtain ⟨v1_1, z1_1, -, -⟩ := hk1.cell _ _ Q1.out
      have k1_1 := (HMM.out.kept hk1 b HO.out).2.2.2 (off + i * 6 + 1)
      obtain ⟨v1_2, z1_2, -, -⟩ := hk1.cell _ _ Q2.out
      have k1_2 := (HMM.out.kept hk1 b HO.out).2.2.2 (off + i * 6 + 2)
      obtain ⟨v1_3, z1_3, -, -⟩ := hk1.cell _ _ Q3.out
      have k1_3 := (HMM.out.kept hk1 b HO.out).2.2.2 (off + i * 6 + 3)
      obtain ⟨v1_4, z1_4, -, -⟩ := hk1.cell _ _ Q4.out
      have k1_4 := (HMM.out.kept hk1 b HO.out).2.2.2 (off + i * 6 + 4)
      obtain ⟨v1_5, z1_5, -, -⟩ := hk1.cell _ _ Q5.out
      have k1_5 := (HMM.out.kept hk1 b HO.out).2.2.2 (off + i * 6 + 5)
      clear q0 q1 q2 q3 q4 q5 f0 f1 f2 f3 f4 f5
      go_wp2_with fail
      refine (lawsMarkText (k + t + 5) _ (by omega) (by omega)).mono ?_
      rintro e w2 ⟨rfl, hb2⟩
      have hk2 : Kept B E wr w2 := by refine (Kept.below hb2).after ?_; refine Kept.set ?_ Q4.out G4.out HB.out HE.out rfl; refine Kept.set ?_ Q3.out G3.out HB.out HE.out rfl; refine Kept.set ?_ Q2.out G2.out HB.out HE.out rfl; refine Kept.set ?_ Q1.out G1.out HB.out HE.out rfl; refine Kept.set ?_ Q0.out G0.out HB.out HE.out rfl; exact hk1
      obtain ⟨v2_0, z2_0, -, -⟩ := hk2.cell _ _ Q0.out
      have k2_0 := (HMM.out.kept hk2 b HO.out).2.2.2 (off + i * 6)
      obtain ⟨v2_1, z2_1, -, -⟩ := hk2.cell _ _ Q1.out
      have k2_1 := (HMM.out.kept hk2 b HO.out).2.2.2 (off + i * 6 + 1)
      obtain ⟨v2_2, z2_2, -, -⟩ := hk2.cell _ _ Q2.out
      have k2_2 := (HMM.out.kept hk2 b HO.out).2.2.2 (off + i * 6 + 2)
      obtain ⟨v2_3, z2_3, -, -⟩ := hk2.cell _ _ Q3.out
      have k2_3 := (HMM.out.kept hk2 b HO.out).2.2.2 (off + i * 6 + 3)
      obtain ⟨v2_4, z2_4, -, -⟩ := hk2.cell _ _ Q4.out
      have k2_4 := (HMM.out.kept hk2 b HO.out).2.2.2 (off + i * 6 + 4)
      obtain ⟨v2_5, z2_5, -, -⟩ := hk2.cell _ _ Q5.out
      have k2_5 := (HMM.out.kept hk2 b HO.out).2.2.2 (off + i * 6 + 5)
      clear z1_0 z1_1 z1_2 z1_3 z1_4 z1_5 k1_0 k1_1 k1_2 k1_3 k1_4 k1_5
      go_wp2_with fail
      go_roundw
      case rel => exact ⟨i + 1, t + ms[i], by omega, by go_num, by rw [HD.out]; go_num, Lib.hid HST.out, hK.trans (by refine Kept.set ?_ Q5.out G5.out HB.out HE.out rfl; exact hk2)⟩
      case measure => simp [intOf]; omega
    · obtain rfl : i = ms.length := by omega
      have e := ht.out
      rw [List.take_of_length_le (Nat.le_refl _)] at e
      have HT := Lib.hid e
      clear e ht
      go_wp2_with fail
      go_ret
      exact ⟨retI (by rw [HT.out]), hK⟩
set_option maxRecDepth 100000 in
set_option maxHeartbeats 1000000 in
theorem marksUniqueL (A : Option Addr) (n c : Nat) (ms : List Nat) (ok : Nat → Prop) (B E k : Nat) (w : World) (h : Sl UqSh 1 ok w A n ms) (hm : mayMark B E w ok) (hk : k + ms.sum ≤ 1073741824) (hn : n ≤ 1048576) {x : Int} (hx : x = k) :
    Calls Tryz.prog 56 #[.slice A n c, .int .i64 x] w fun e w' => e = .returned (.int .i64 ((k + ms.sum : Nat) : Int)) ∧ Kept B E w w' := by
  obtain rfl : ms.length = n := h.1
  subst hx
  go_enter Tryz.func56, Tryz.ntmps56
  go_wp2_with fail
  go_loopw [1, 5] (fun m i wr => ∃ (j t : Nat), j ≤ ms.length ∧ i = .int .i64 j ∧ m = .int .i64 ((k + t : Nat) : Int) ∧ Hid ((ms.take j).sum = t) ∧ Kept B E w wr) (fun _ i _ => ms.length - (intOf i).toNat)
  case atStart => exact ⟨0, 0, by omega, rfl, by simp, Lib.hid (by simp), Kept.refl _ _ _⟩
  case round =>
    obtain ⟨i, t, hi, rfl, rfl, ht, hK⟩ := hrel
    by_cases hlt : i < ms.length
    · have hsh := h.shape UqSh.keeps hK
      have hmm := hm.kept hK
      obtain ⟨b, off, rfl, hob, hcs⟩ := hsh.2 (by omega)
      obtain ⟨cs, hcl, hR, hg⟩ := hcs i hlt
      have hst := sum_take_n ms i hlt
      have hsl := sum_take_n_le ms (i + 1)
      rw [ht.out] at hst
      obtain ⟨hB, hE, -, hfr⟩ := hmm b hob
      obtain ⟨A0, n0, c0, m0, rfl, -, h0, hcp, hd⟩ := hR
      have q0 : wr.cell? ⟨b, off + i, none⟩ = some (.slice A0 n0 c0) := by have := hg 0 _ rfl; rwa [Nat.mul_one] at this
      have hle : k + t + (m0.sum) ≤ 1073741824 := by omega
      have HD := Lib.hid hd
      have HST := Lib.hid hst
      clear hd hst hsl
      have Q0 := Lib.hid q0
      have HB := Lib.hid hB
      have HE := Lib.hid hE
      have HR := Lib.hid hfr
      have HO := Lib.hid hob
      have HN0 := Lib.hid (hcp)
      clear hcp
      clear hsh hcs hg hB hE hfr
      have HMM := Lib.hid hmm
      clear hmm
      go_wp2_with fail
      refine (marksIntL A0 n0 c0 m0 ok B E (k + t) _ (h0.shape (ShF.keeps 1) (by exact Kept.refl B E wr)) (HMM.out.kept (by exact Kept.refl B E wr)) (by omega) HN0.out (by omega)).mono ?_
      rintro e w1 ⟨rfl, hb1⟩
      have hk1 : Kept B E wr w1 := by refine hb1.after ?_; exact Kept.refl B E wr
      have z1_0 := hk1.slice Q0.out rfl
      clear q0
      go_wp2_with fail
      go_roundw
      case rel => exact ⟨i + 1, t + ms[i], by omega, by go_num, by rw [HD.out]; go_num, Lib.hid HST.out, hK.trans (by exact hk1)⟩
      case measure => simp [intOf]; omega
    · obtain rfl : i = ms.length := by omega
      have e := ht.out
      rw [List.take_of_length_le (Nat.le_refl _)] at e
      have HT := Lib.hid e
      clear e ht
      go_wp2_with fail
      go_ret
      exact ⟨retI (by rw [HT.out]), hK⟩
set_option maxRecDepth 100000 in
set_option maxHeartbeats 1000000 in
theorem marksCheckL (A : Option Addr) (n c : Nat) (ms : List Nat) (ok : Nat → Prop) (B E k : Nat) (w : World) (h : Sl CkSh 1 ok w A n ms) (hm : mayMark B E w ok) (hk : k + ms.sum ≤ 1073741824) (hn : n ≤ 1048576) {x : Int} (hx : x = k) :
    Calls Tryz.prog 57 #[.slice A n c, .int .i64 x] w fun e w' => e = .returned (.int .i64 ((k + ms.sum : Nat) : Int)) ∧ Kept B E w w' := by
  obtain rfl : ms.length = n := h.1
  subst hx
  go_enter Tryz.func57, Tryz.ntmps57
  go_wp2_with fail
  go_loopw [1, 5] (fun m i wr => ∃ (j t : Nat), j ≤ ms.length ∧ i = .int .i64 j ∧ m = .int .i64 ((k + t : Nat) : Int) ∧ Hid ((ms.take j).sum = t) ∧ Kept B E w wr) (fun _ i _ => ms.length - (intOf i).toNat)
  case atStart => exact ⟨0, 0, by omega, rfl, by simp, Lib.hid (by simp), Kept.refl _ _ _⟩
  case round =>
    obtain ⟨i, t, hi, rfl, rfl, ht, hK⟩ := hrel
    by_cases hlt : i < ms.length
    · have hsh := h.shape CkSh.keeps hK
      have hmm := hm.kept hK
      obtain ⟨b, off, rfl, hob, hcs⟩ := hsh.2 (by omega)
      obtain ⟨cs, hcl, hR, hg⟩ := hcs i hlt
      have hst := sum_take_n ms i hlt
      have hsl := sum_take_n_le ms (i + 1)
      rw [ht.out] at hst
      obtain ⟨hB, hE, -, hfr⟩ := hmm b hob
      obtain ⟨A0, n0, c0, m0, rfl, -, h0, hcp, hd⟩ := hR
      have q0 : wr.cell? ⟨b, off + i, none⟩ = some (.slice A0 n0 c0) := by have := hg 0 _ rfl; rwa [Nat.mul_one] at this
      have hle : k + t + (m0.sum) ≤ 1073741824 := by omega
      have HD := Lib.hid hd
      have HST := Lib.hid hst
      clear hd hst hsl
      have Q0 := Lib.hid q0
      have HB := Lib.hid hB
      have HE := Lib.hid hE
      have HR := Lib.hid hfr
      have HO := Lib.hid hob
      have HN0 := Lib.hid (hcp)
      clear hcp
      clear hsh hcs hg hB hE hfr
      have HMM := Lib.hid hmm
      clear hmm
      go_wp2_with fail
      refine (marksTokL A0 n0 c0 m0 ok B E (k + t) _ (h0.shape (ShF.keeps 5) (by exact Kept.refl B E wr)) (HMM.out.kept (by exact Kept.refl B E wr)) (by omega) HN0.out (by omega)).mono ?_
      rintro e w1 ⟨rfl, hb1⟩
      have hk1 : Kept B E wr w1 := by refine hb1.after ?_; exact Kept.refl B E wr
      have z1_0 := hk1.slice Q0.out rfl
      clear q0
      go_wp2_with fail
      go_roundw
      case rel => exact ⟨i + 1, t + ms[i], by omega, by go_num, by rw [HD.out]; go_num, Lib.hid HST.out, hK.trans (by exact hk1)⟩
      case measure => simp [intOf]; omega
    · obtain rfl : i = ms.length := by omega
      have e := ht.out
      rw [List.take_of_length_le (Nat.le_refl _)] at e
      have HT := Lib.hid e
      clear e ht
      go_wp2_with fail
      go_ret
      exact ⟨retI (by rw [HT.out]), hK⟩
set_option maxRecDepth 100000 in
set_option maxHeartbeats 1000000 in
theorem marksFkL (A : Option Addr) (n c : Nat) (ms : List Nat) (ok : Nat → Prop) (B E k : Nat) (w : World) (h : Sl FkSh 5 ok w A n ms) (hm : mayMark B E w ok) (hk : k + ms.sum ≤ 1073741824) (hn : n ≤ 1048576) {x : Int} (hx : x = k) :
    Calls Tryz.prog 58 #[.slice A n c, .int .i64 x] w fun e w' => e = .returned (.int .i64 ((k + ms.sum : Nat) : Int)) ∧ Kept B E w w' := by
  obtain rfl : ms.length = n := h.1
  subst hx
  go_enter Tryz.func58, Tryz.ntmps58
  go_wp2_with fail
  go_loopw [1, 5] (fun m i wr => ∃ (j t : Nat), j ≤ ms.length ∧ i = .int .i64 j ∧ m = .int .i64 ((k + t : Nat) : Int) ∧ Hid ((ms.take j).sum = t) ∧ Kept B E w wr) (fun _ i _ => ms.length - (intOf i).toNat)
  case atStart => exact ⟨0, 0, by omega, rfl, by simp, Lib.hid (by simp), Kept.refl _ _ _⟩
  case round =>
    obtain ⟨i, t, hi, rfl, rfl, ht, hK⟩ := hrel
    by_cases hlt : i < ms.length
    · have hsh := h.shape FkSh.keeps hK
      have hmm := hm.kept hK
      obtain ⟨b, off, rfl, hob, hcs⟩ := hsh.2 (by omega)
      obtain ⟨cs, hcl, hR, hg⟩ := hcs i hlt
      have hst := sum_take_n ms i hlt
      have hsl := sum_take_n_le ms (i + 1)
      rw [ht.out] at hst
      obtain ⟨hB, hE, -, hfr⟩ := hmm b hob
      obtain ⟨A0, n0, c0, m0, u1, u2, u3, u4, rfl, ⟨g1, g2, g3, g4⟩, h0, hcp, hd⟩ := hR
      have q0 : wr.cell? ⟨b, off + i * 5, none⟩ = some (.slice A0 n0 c0) := hg 0 _ rfl
      have q1 : wr.cell? ⟨b, off + i * 5 + 1, none⟩ = some (u1) := hg 1 _ rfl
      have q2 : wr.cell? ⟨b, off + i * 5 + 2, none⟩ = some (u2) := hg 2 _ rfl
      have q3 : wr.cell? ⟨b, off + i * 5 + 3, none⟩ = some (u3) := hg 3 _ rfl
      have q4 : wr.cell? ⟨b, off + i * 5 + 4, none⟩ = some (u4) := hg 4 _ rfl
      have hle : k + t + (4 + m0.sum) ≤ 1073741824 := by omega
      have HD := Lib.hid hd
      have HST := Lib.hid hst
      clear hd hst hsl
      have f1 := hfr (off + i * 5 + 1)
      have f2 := hfr (off + i * 5 + 2)
      have f3 := hfr (off + i * 5 + 3)
      have f4 := hfr (off + i * 5 + 4)
      have Q0 := Lib.hid q0
      have Q1 := Lib.hid q1
      have Q2 := Lib.hid q2
      have Q3 := Lib.hid q3
      have Q4 := Lib.hid q4
      have G1 := Lib.hid g1
      have G2 := Lib.hid g2
      have G3 := Lib.hid g3
      have G4 := Lib.hid g4
      have HB := Lib.hid hB
      have HE := Lib.hid hE
      have HR := Lib.hid hfr
      have HO := Lib.hid hob
      have HN0 := Lib.hid (hcp)
      clear hcp
      clear hsh hcs hg hB hE hfr g1 g2 g3 g4
      have HMM := Lib.hid hmm
      clear hmm
      go_wp2_with fail
      refine (marksIntL A0 n0 c0 m0 ok B E (k + t) _ (h0.shape (ShF.keeps 1) (by exact Kept.refl B E wr)) (HMM.out.kept (by exact Kept.refl B E wr)) (by omega) HN0.out (by omega)).mono ?_
      rintro e w1 ⟨rfl, hb1⟩
      have hk1 : Kept B E wr w1 := by refine hb1.after ?_; exact Kept.refl B E wr
      have z1_0 := hk1.slice Q0.out rfl
      obtain ⟨v1_1, z1_1, -, -⟩ := hk1.cell _ _ Q1.out
      have k1_1 := (HMM.out.kept hk1 b HO.out).2.2.2 (off + i * 5 + 1)
      obtain ⟨v1_2, z1_2, -, -⟩ := hk1.cell _ _ Q2.out
      have k1_2 := (HMM.out.kept hk1 b HO.out).2.2.2 (off + i * 5 + 2)
      obtain ⟨v1_3, z1_3, -, -⟩ := hk1.cell _ _ Q3.out
      have k1_3 := (HMM.out.kept hk1 b HO.out).2.2.2 (off + i * 5 + 3)
      obtain ⟨v1_4, z1_4, -, -⟩ := hk1.cell _ _ Q4.out
      have k1_4 := (HMM.out.kept hk1 b HO.out).2.2.2 (off + i * 5 + 4)
      clear q0 q1 q2 q3 q4 f1 f2 f3 f4
      go_wp2_with fail
      refine (lawsMarkText (k + t + m0.sum) _ (by omega) (by omega)).mono ?_
      rintro e w2 ⟨rfl, hb2⟩
      have hk2 : Kept B E wr w2 := by refine (Kept.below hb2).after ?_; exact hk1
      have z2_0 := hk2.slice Q0.out rfl
      obtain ⟨v2_1, z2_1, -, -⟩ := hk2.cell _ _ Q1.out
      have k2_1 := (HMM.out.kept hk2 b HO.out).2.2.2 (off + i * 5 + 1)
      obtain ⟨v2_2, z2_2, -, -⟩ := hk2.cell _ _ Q2.out
      have k2_2 := (HMM.out.kept hk2 b HO.out).2.2.2 (off + i * 5 + 2)
      obtain ⟨v2_3, z2_3, -, -⟩ := hk2.cell _ _ Q3.out
      have k2_3 := (HMM.out.kept hk2 b HO.out).2.2.2 (off + i * 5 + 3)
      obtain ⟨v2_4, z2_4, -, -⟩ := hk2.cell _ _ Q4.out
      have k2_4 := (HMM.out.kept hk2 b HO.out).2.2.2 (off + i * 5 + 4)
      clear z1_0 z1_1 z1_2 z1_3 z1_4 k1_1 k1_2 k1_3 k1_4
      go_wp2_with fail
      go_roundw
      case rel => exact ⟨i + 1, t + ms[i], by omega, by go_num, by rw [HD.out]; go_num, Lib.hid HST.out, hK.trans (by refine Kept.set ?_ Q4.out G4.out HB.out HE.out rfl; refine Kept.set ?_ Q3.out G3.out HB.out HE.out rfl; refine Kept.set ?_ Q2.out G2.out HB.out HE.out rfl; refine Kept.set ?_ Q1.out G1.out HB.out HE.out rfl; exact hk2)⟩
      case measure => simp [intOf]; omega
    · obtain rfl : i = ms.length := by omega
      have e := ht.out
      rw [List.take_of_length_le (Nat.le_refl _)] at e
      have HT := Lib.hid e
      clear e ht
      go_wp2_with fail
      go_ret
      exact ⟨retI (by rw [HT.out]), hK⟩
set_option maxRecDepth 100000 in
set_option maxHeartbeats 1000000 in
theorem marksTableL (A : Option Addr) (n c : Nat) (ms : List Nat) (ok : Nat → Prop) (B E k : Nat) (w : World) (h : Sl TbSh 6 ok w A n ms) (hm : mayMark B E w ok) (hk : k + ms.sum ≤ 1073741824) (hn : n ≤ 1048576) {x : Int} (hx : x = k) :
    Calls Tryz.prog 18 #[.slice A n c, .int .i64 x] w fun e w' => e = .returned (.int .i64 ((k + ms.sum : Nat) : Int)) ∧ Kept B E w w' := by
  obtain rfl : ms.length = n := h.1
  subst hx
  go_enter Tryz.func18, Tryz.ntmps18
  go_wp2_with fail
  go_loopw [1, 5] (fun m i wr => ∃ (j t : Nat), j ≤ ms.length ∧ i = .int .i64 j ∧ m = .int .i64 ((k + t : Nat) : Int) ∧ Hid ((ms.take j).sum = t) ∧ Kept B E w wr) (fun _ i _ => ms.length - (intOf i).toNat)
  case atStart => exact ⟨0, 0, by omega, rfl, by simp, Lib.hid (by simp), Kept.refl _ _ _⟩
  case round =>
    obtain ⟨i, t, hi, rfl, rfl, ht, hK⟩ := hrel
    by_cases hlt : i < ms.length
    · have hsh := h.shape TbSh.keeps hK
      have hmm := hm.kept hK
      obtain ⟨b, off, rfl, hob, hcs⟩ := hsh.2 (by omega)
      obtain ⟨cs, hcl, hR, hg⟩ := hcs i hlt
      have hst := sum_take_n ms i hlt
      have hsl := sum_take_n_le ms (i + 1)
      rw [ht.out] at hst
      obtain ⟨hB, hE, -, hfr⟩ := hmm b hob
      obtain ⟨A1, n1, c1, m1, A2, n2, c2, m2, A3, n3, c3, m3, A4, n4, c4, m4, A5, n5, c5, m5, u0, rfl, g0, h1, h2, h3, h4, h5, hcp, hd⟩ := hR
      have q0 : wr.cell? ⟨b, off + i * 6, none⟩ = some (u0) := hg 0 _ rfl
      have q1 : wr.cell? ⟨b, off + i * 6 + 1, none⟩ = some (.slice A1 n1 c1) := hg 1 _ rfl
      have q2 : wr.cell? ⟨b, off + i * 6 + 2, none⟩ = some (.slice A2 n2 c2) := hg 2 _ rfl
      have q3 : wr.cell? ⟨b, off + i * 6 + 3, none⟩ = some (.slice A3 n3 c3) := hg 3 _ rfl
      have q4 : wr.cell? ⟨b, off + i * 6 + 4, none⟩ = some (.slice A4 n4 c4) := hg 4 _ rfl
      have q5 : wr.cell? ⟨b, off + i * 6 + 5, none⟩ = some (.slice A5 n5 c5) := hg 5 _ rfl
      have hle : k + t + (1 + m1.sum + m2.sum + m3.sum + m4.sum + m5.sum) ≤ 1073741824 := by omega
      have HD := Lib.hid hd
      have HST := Lib.hid hst
      clear hd hst hsl
      have f0 := hfr (off + i * 6)
      have Q0 := Lib.hid q0
      have Q1 := Lib.hid q1
      have Q2 := Lib.hid q2
      have Q3 := Lib.hid q3
      have Q4 := Lib.hid q4
      have Q5 := Lib.hid q5
      have G0 := Lib.hid g0
      have HB := Lib.hid hB
      have HE := Lib.hid hE
      have HR := Lib.hid hfr
      have HO := Lib.hid hob
      have HN1 := Lib.hid (hcp.1)
      have HN2 := Lib.hid (hcp.2.1)
      have HN3 := Lib.hid (hcp.2.2.1)
      have HN4 := Lib.hid (hcp.2.2.2.1)
      have HN5 := Lib.hid (hcp.2.2.2.2)
      clear hcp
      clear hsh hcs hg hB hE hfr g0
      have HMM := Lib.hid hmm
      clear hmm
      go_wp2_with fail
      refine (lawsMarkText (k + t) _ (by omega) (by omega)).mono ?_
      rintro e w1 ⟨rfl, hb1⟩
      have hk1 : Kept B E wr w1 := by refine (Kept.below hb1).after ?_; exact Kept.refl B E wr
      obtain ⟨v1_0, z1_0, -, -⟩ := hk1.cell _ _ Q0.out
      have k1_0 := (HMM.out.kept hk1 b HO.out).2.2.2 (off + i * 6)
      have z1_1 := hk1.slice Q1.out rfl
      have z1_2 := hk1.slice Q2.out rfl
      have z1_3 := hk1.slice Q3.out rfl
      have z1_4 := hk1.slice Q4.out rfl
      have z1_5 := hk1.slice Q5.out rfl
      clear q0 q1 q2 q3 q4 q5 f0
      go_wp2_with fail
      refine (marksColL A1 n1 c1 m1 ok B E (k + t + 1) _ (h1.shape (ShF.keeps 6) (by refine Kept.set ?_ Q0.out G0.out HB.out HE.out rfl; exact hk1)) (HMM.out.kept (by refine Kept.set ?_ Q0.out G0.out HB.out HE.out rfl; exact hk1)) (by omega) HN1.out (by omega)).mono ?_
      rintro e w2 ⟨rfl, hb2⟩
      have hk2 : Kept B E wr w2 := by refine hb2.after ?_; refine Kept.set ?_ Q0.out G0.out HB.out HE.out rfl; exact hk1
      obtain ⟨v2_0, z2_0, -, -⟩ := hk2.cell _ _ Q0.out
      have k2_0 := (HMM.out.kept hk2 b HO.out).2.2.2 (off + i * 6)
      have z2_1 := hk2.slice Q1.out rfl
      have z2_2 := hk2.slice Q2.out rfl
      have z2_3 := hk2.slice Q3.out rfl
      have z2_4 := hk2.slice Q4.out rfl
      have z2_5 := hk2.slice Q5.out rfl
      clear z1_0 z1_1 z1_2 z1_3 z1_4 z1_5 k1_0
      go_wp2_with fail
      refine (marksIntL A2 n2 c2 m2 ok B E (k + t + m1.sum + 1) _ (h2.shape (ShF.keeps 1) (by exact hk2)) (HMM.out.kept (by exact hk2)) (by omega) HN2.out (by omega)).mono ?_
      rintro e w3 ⟨rfl, hb3⟩
      have hk3 : Kept B E wr w3 := by refine hb3.after ?_; exact hk2
      obtain ⟨v3_0, z3_0, -, -⟩ := hk3.cell _ _ Q0.out
      have k3_0 := (HMM.out.kept hk3 b HO.out).2.2.2 (off + i * 6)
      have z3_1 := hk3.slice Q1.out rfl
      have z3_2 := hk3.slice Q2.out rfl
      have z3_3 := hk3.slice Q3.out rfl
      have z3_4 := hk3.slice Q4.out rfl
      have z3_5 := hk3.slice Q5.out rfl
      clear z2_0 z2_1 z2_2 z2_3 z2_4 z2_5 k2_0
      go_wp2_with fail
      refine (marksUniqueL A3 n3 c3 m3 ok B E (k + t + m1.sum + m2.sum + 1) _ (h3.shape UqSh.keeps (by exact hk3)) (HMM.out.kept (by exact hk3)) (by omega) HN3.out (by omega)).mono ?_
      rintro e w4 ⟨rfl, hb4⟩
      have hk4 : Kept B E wr w4 := by refine hb4.after ?_; exact hk3
      obtain ⟨v4_0, z4_0, -, -⟩ := hk4.cell _ _ Q0.out
      have k4_0 := (HMM.out.kept hk4 b HO.out).2.2.2 (off + i * 6)
      have z4_1 := hk4.slice Q1.out rfl
      have z4_2 := hk4.slice Q2.out rfl
      have z4_3 := hk4.slice Q3.out rfl
      have z4_4 := hk4.slice Q4.out rfl
      have z4_5 := hk4.slice Q5.out rfl
      clear z3_0 z3_1 z3_2 z3_3 z3_4 z3_5 k3_0
      go_wp2_with fail
      refine (marksCheckL A4 n4 c4 m4 ok B E (k + t + m1.sum + m2.sum + m3.sum + 1) _ (h4.shape CkSh.keeps (by exact hk4)) (HMM.out.kept (by exact hk4)) (by omega) HN4.out (by omega)).mono ?_
      rintro e w5 ⟨rfl, hb5⟩
      have hk5 : Kept B E wr w5 := by refine hb5.after ?_; exact hk4
      obtain ⟨v5_0, z5_0, -, -⟩ := hk5.cell _ _ Q0.out
      have k5_0 := (HMM.out.kept hk5 b HO.out).2.2.2 (off + i * 6)
      have z5_1 := hk5.slice Q1.out rfl
      have z5_2 := hk5.slice Q2.out rfl
      have z5_3 := hk5.slice Q3.out rfl
      have z5_4 := hk5.slice Q4.out rfl
      have z5_5 := hk5.slice Q5.out rfl
      clear z4_0 z4_1 z4_2 z4_3 z4_4 z4_5 k4_0
      go_wp2_with fail
      refine (marksFkL A5 n5 c5 m5 ok B E (k + t + m1.sum + m2.sum + m3.sum + m4.sum + 1) _ (h5.shape FkSh.keeps (by exact hk5)) (HMM.out.kept (by exact hk5)) (by omega) HN5.out (by omega)).mono ?_
      rintro e w6 ⟨rfl, hb6⟩
      have hk6 : Kept B E wr w6 := by refine hb6.after ?_; exact hk5
      obtain ⟨v6_0, z6_0, -, -⟩ := hk6.cell _ _ Q0.out
      have k6_0 := (HMM.out.kept hk6 b HO.out).2.2.2 (off + i * 6)
      have z6_1 := hk6.slice Q1.out rfl
      have z6_2 := hk6.slice Q2.out rfl
      have z6_3 := hk6.slice Q3.out rfl
      have z6_4 := hk6.slice Q4.out rfl
      have z6_5 := hk6.slice Q5.out rfl
      clear z5_0 z5_1 z5_2 z5_3 z5_4 z5_5 k5_0
      go_wp2_with fail
      go_roundw
      case rel => exact ⟨i + 1, t + ms[i], by omega, by go_num, by rw [HD.out]; go_num, Lib.hid HST.out, hK.trans (by exact hk6)⟩
      case measure => simp [intOf]; omega
    · obtain rfl : i = ms.length := by omega
      have e := ht.out
      rw [List.take_of_length_le (Nat.le_refl _)] at e
      have HT := Lib.hid e
      clear e ht
      go_wp2_with fail
      go_ret
      exact ⟨retI (by rw [HT.out]), hK⟩
set_option maxRecDepth 100000 in
set_option maxHeartbeats 1000000 in
theorem marksRowL (A : Option Addr) (n c : Nat) (ms : List Nat) (ok : Nat → Prop) (B E k : Nat) (w : World) (h : Sl RwSh 2 ok w A n ms) (hm : mayMark B E w ok) (hk : k + ms.sum ≤ 1073741824) (hn : n ≤ 1048576) {x : Int} (hx : x = k) :
    Calls Tryz.prog 73 #[.slice A n c, .int .i64 x] w fun e w' => e = .returned (.int .i64 ((k + ms.sum : Nat) : Int)) ∧ Kept B E w w' := by
  obtain rfl : ms.length = n := h.1
  subst hx
  go_enter Tryz.func73, Tryz.ntmps73
  go_wp2_with fail
  go_loopw [1, 5] (fun m i wr => ∃ (j t : Nat), j ≤ ms.length ∧ i = .int .i64 j ∧ m = .int .i64 ((k + t : Nat) : Int) ∧ Hid ((ms.take j).sum = t) ∧ Kept B E w wr) (fun _ i _ => ms.length - (intOf i).toNat)
  case atStart => exact ⟨0, 0, by omega, rfl, by simp, Lib.hid (by simp), Kept.refl _ _ _⟩
  case round =>
    obtain ⟨i, t, hi, rfl, rfl, ht, hK⟩ := hrel
    by_cases hlt : i < ms.length
    · have hsh := h.shape RwSh.keeps hK
      have hmm := hm.kept hK
      obtain ⟨b, off, rfl, hob, hcs⟩ := hsh.2 (by omega)
      obtain ⟨cs, hcl, hR, hg⟩ := hcs i hlt
      have hst := sum_take_n ms i hlt
      have hsl := sum_take_n_le ms (i + 1)
      rw [ht.out] at hst
      obtain ⟨hB, hE, -, hfr⟩ := hmm b hob
      obtain ⟨A1, n1, c1, m1, u0, rfl, g0, h1, hcp, hd⟩ := hR
      have q0 : wr.cell? ⟨b, off + i * 2, none⟩ = some (u0) := hg 0 _ rfl
      have q1 : wr.cell? ⟨b, off + i * 2 + 1, none⟩ = some (.slice A1 n1 c1) := hg 1 _ rfl
      have hle : k + t + (1 + m1.sum) ≤ 1073741824 := by omega
      have HD := Lib.hid hd
      have HST := Lib.hid hst
      clear hd hst hsl
      have f0 := hfr (off + i * 2)
      have Q0 := Lib.hid q0
      have Q1 := Lib.hid q1
      have G0 := Lib.hid g0
      have HB := Lib.hid hB
      have HE := Lib.hid hE
      have HR := Lib.hid hfr
      have HO := Lib.hid hob
      have HN1 := Lib.hid (hcp)
      clear hcp
      clear hsh hcs hg hB hE hfr g0
      have HMM := Lib.hid hmm
      clear hmm
      go_wp2_with fail
      refine (marksValL A1 n1 c1 m1 ok B E (k + t + 1) _ (h1.shape (ShF.keeps 3) (by refine Kept.set ?_ Q0.out G0.out HB.out HE.out rfl; exact Kept.refl B E wr)) (HMM.out.kept (by refine Kept.set ?_ Q0.out G0.out HB.out HE.out rfl; exact Kept.refl B E wr)) (by omega) HN1.out (by omega)).mono ?_
      rintro e w1 ⟨rfl, hb1⟩
      have hk1 : Kept B E wr w1 := by refine hb1.after ?_; refine Kept.set ?_ Q0.out G0.out HB.out HE.out rfl; exact Kept.refl B E wr
      obtain ⟨v1_0, z1_0, -, -⟩ := hk1.cell _ _ Q0.out
      have k1_0 := (HMM.out.kept hk1 b HO.out).2.2.2 (off + i * 2)
      have z1_1 := hk1.slice Q1.out rfl
      clear q0 q1 f0
      go_wp2_with fail
      go_roundw
      case rel => exact ⟨i + 1, t + ms[i], by omega, by go_num, by rw [HD.out]; go_num, Lib.hid HST.out, hK.trans (by exact hk1)⟩
      case measure => simp [intOf]; omega
    · obtain rfl : i = ms.length := by omega
      have e := ht.out
      rw [List.take_of_length_le (Nat.le_refl _)] at e
      have HT := Lib.hid e
      clear e ht
      go_wp2_with fail
      go_ret
      exact ⟨retI (by rw [HT.out]), hK⟩
set_option maxRecDepth 100000 in
set_option maxHeartbeats 1000000 in
theorem marksDataL (A : Option Addr) (n c : Nat) (ms : List Nat) (ok : Nat → Prop) (B E k : Nat) (w : World) (h : Sl DtSh 1 ok w A n ms) (hm : mayMark B E w ok) (hk : k + ms.sum ≤ 1073741824) (hn : n ≤ 1048576) {x : Int} (hx : x = k) :
    Calls Tryz.prog 30 #[.slice A n c, .int .i64 x] w fun e w' => e = .returned (.int .i64 ((k + ms.sum : Nat) : Int)) ∧ Kept B E w w' := by
  obtain rfl : ms.length = n := h.1
  subst hx
  go_enter Tryz.func30, Tryz.ntmps30
  go_wp2_with fail
  go_loopw [1, 5] (fun m i wr => ∃ (j t : Nat), j ≤ ms.length ∧ i = .int .i64 j ∧ m = .int .i64 ((k + t : Nat) : Int) ∧ Hid ((ms.take j).sum = t) ∧ Kept B E w wr) (fun _ i _ => ms.length - (intOf i).toNat)
  case atStart => exact ⟨0, 0, by omega, rfl, by simp, Lib.hid (by simp), Kept.refl _ _ _⟩
  case round =>
    obtain ⟨i, t, hi, rfl, rfl, ht, hK⟩ := hrel
    by_cases hlt : i < ms.length
    · have hsh := h.shape DtSh.keeps hK
      have hmm := hm.kept hK
      obtain ⟨b, off, rfl, hob, hcs⟩ := hsh.2 (by omega)
      obtain ⟨cs, hcl, hR, hg⟩ := hcs i hlt
      have hst := sum_take_n ms i hlt
      have hsl := sum_take_n_le ms (i + 1)
      rw [ht.out] at hst
      obtain ⟨hB, hE, -, hfr⟩ := hmm b hob
      obtain ⟨A0, n0, c0, m0, rfl, -, h0, hcp, hd⟩ := hR
      have q0 : wr.cell? ⟨b, off + i, none⟩ = some (.slice A0 n0 c0) := by have := hg 0 _ rfl; rwa [Nat.mul_one] at this
      have hle : k + t + (m0.sum) ≤ 1073741824 := by omega
      have HD := Lib.hid hd
      have HST := Lib.hid hst
      clear hd hst hsl
      have Q0 := Lib.hid q0
      have HB := Lib.hid hB
      have HE := Lib.hid hE
      have HR := Lib.hid hfr
      have HO := Lib.hid hob
      have HN0 := Lib.hid (hcp)
      clear hcp
      clear hsh hcs hg hB hE hfr
      have HMM := Lib.hid hmm
      clear hmm
      go_wp2_with fail
      refine (marksRowL A0 n0 c0 m0 ok B E (k + t) _ (h0.shape RwSh.keeps (by exact Kept.refl B E wr)) (HMM.out.kept (by exact Kept.refl B E wr)) (by omega) HN0.out (by omega)).mono ?_
      rintro e w1 ⟨rfl, hb1⟩
      have hk1 : Kept B E wr w1 := by refine hb1.after ?_; exact Kept.refl B E wr
      have z1_0 := hk1.slice Q0.out rfl
      clear q0
      go_wp2_with fail
      go_roundw
      case rel => exact ⟨i + 1, t + ms[i], by omega, by go_num, by rw [HD.out]; go_num, Lib.hid HST.out, hK.trans (by exact hk1)⟩
      case measure => simp [intOf]; omega
    · obtain rfl : i = ms.length := by omega
      have e := ht.out
      rw [List.take_of_length_le (Nat.le_refl _)] at e
      have HT := Lib.hid e
      clear e ht
      go_wp2_with fail
      go_ret
      exact ⟨retI (by rw [HT.out]), hK⟩
def Mk (f : Nat → Value) (w : World) (A : Option Addr) (m : Nat) : Prop := 0 < m → ∃ b off, A = some ⟨b, off, none⟩ ∧ ∀ j, j < m → w.cell? ⟨b, off + j, none⟩ = some (f j)
def KM (f : Nat → Value) (b off B E : Nat) (wr W : World) (m : Nat) : Prop := Kept B E wr W ∧ ∀ j, j < m → W.cell? ⟨b, off + j, none⟩ = some (f j)
theorem KM.set {f : Nat → Value} {b off B E : Nat} {wr W : World} {m : Nat} (h : KM f b off B E wr W m) {p : Addr} {u v : Value} (hp : p = ⟨b, off + m, none⟩) (hc : wr.cell? p = some u) (hn : isSl u = false) (hB : B ≤ p.block) (hE : p.block < E) (hv : isSl v = false) (hf : v = f m) : KM f b off B E wr (W.setCell p v) (m + 1) := by
  refine ⟨Kept.set h.1 hc hn hB hE hv, fun j hj => ?_⟩
  obtain ⟨u', h1, -⟩ := h.1.cell p u hc
  subst hp
  by_cases e : j = m
  · subst e
    rw [World.cell?_setCell_same _ _ _ h1, hf]
  · rw [World.cell?_setCell_other _ _ _ _ (by intro hh; simp only [Addr.mk.injEq] at hh; omega)]
    exact h.2 j (by omega)
theorem KM.below {f : Nat → Value} {b off B E : Nat} {wr W W' : World} {m : Nat} (hb : Below W.heap.size W W') (h : KM f b off B E wr W m) : KM f b off B E wr W' m := ⟨h.1.trans (Kept.below hb), fun j hj => below_keep hb _ _ (h.2 j hj)⟩
theorem KM.close {f : Nat → Value} {b off B E : Nat} {w wr W : World} {m m' : Nat} (h : KM f b off B E wr W m') (hK : Kept B E w wr) (e : m = m') : Hid (Mk f W (some ⟨b, off, none⟩) m) ∧ Kept B E w W := ⟨fun _ => ⟨b, off, rfl, fun j hj => h.2 j (by omega)⟩, hK.trans h.1⟩
theorem KM.start {f : Nat → Value} {b off B E : Nat} {w wr : World} {m : Nat} (h : ∀ j, j < m → wr.cell? ⟨b, off + j, none⟩ = some (f j)) : KM f b off B E wr wr m := ⟨Kept.refl _ _ _, h⟩
theorem Mk.below {f : Nat → Value} {w w' : World} {A : Option Addr} {m : Nat} (h : Mk f w A m) (hb : Below w.heap.size w w') : Mk f w' A m := fun hm => by
  obtain ⟨b, off, e, hc⟩ := h hm
  exact ⟨b, off, e, fun j hj => below_keep hb _ _ (hc j hj)⟩
def mkXVal (k j : Nat) : Value := if j % 3 = 2 then .string (mtx (k + j)) else .int .i64 ((k + j : Nat) : Int)
theorem mkXVal_0 (k i : Nat) : mkXVal k (i * 3 + 0) = .int .i64 ((k + (i * 3 + 0) : Nat) : Int) := by unfold mkXVal; rw [if_neg (by omega)]
theorem mkXVal_1 (k i : Nat) : mkXVal k (i * 3 + 1) = .int .i64 ((k + (i * 3 + 1) : Nat) : Int) := by unfold mkXVal; rw [if_neg (by omega)]
theorem mkXVal_2 (k i : Nat) : mkXVal k (i * 3 + 2) = .string (mtx (k + (i * 3 + 2))) := by unfold mkXVal; rw [if_pos (by omega)]
set_option maxRecDepth 100000 in
set_option maxHeartbeats 1000000 in
theorem marksXValL (A : Option Addr) (n c : Nat) (ms : List Nat) (ok : Nat → Prop) (B E k : Nat) (w : World) (h : Sl (ShF 3) 3 ok w A n ms) (hm : mayMark B E w ok) (hk : k + n * 3 ≤ 1073741824) (hn : n ≤ 1048576) {x : Int} (hx : x = k) :
    Calls Tryz.prog 20 #[.slice A n c, .int .i64 x] w fun e w' => e = .returned (.int .i64 ((k + n * 3 : Nat) : Int)) ∧ Kept B E w w' ∧ Mk (mkXVal k) w' A (n * 3) := by
  obtain rfl : ms.length = n := h.1
  subst hx
  go_enter Tryz.func20, Tryz.ntmps20
  go_wp2_with fail
  go_loopw [1, 5] (fun m i wr => ∃ (j : Nat), j ≤ ms.length ∧ i = .int .i64 j ∧ m = .int .i64 ((k + j * 3 : Nat) : Int) ∧ Hid (Mk (mkXVal k) wr A (j * 3)) ∧ Kept B E w wr) (fun _ i _ => ms.length - (intOf i).toNat)
  case atStart => exact ⟨0, by omega, rfl, by simp, Lib.hid (fun h => by omega), Kept.refl _ _ _⟩
  case round =>
    obtain ⟨i, hi, rfl, rfl, hM, hK⟩ := hrel
    by_cases hlt : i < ms.length
    · have hsh := h.shape (ShF.keeps 3) hK
      have hmm := hm.kept hK
      obtain ⟨b, off, rfl, hob, hcs⟩ := hsh.2 (by omega)
      obtain ⟨cs, hcl, hR, hg⟩ := hcs i hlt
      have hM0 : ∀ j, j < i * 3 → wr.cell? ⟨b, off + j, none⟩ = some (mkXVal k j) := fun j hj => by
        obtain ⟨b', off', e, hc⟩ := hM.out (by omega)
        cases e
        exact hc j hj
      obtain ⟨hB, hE, -, hfr⟩ := hmm b hob
      obtain ⟨u0, u1, u2, rfl⟩ : ∃ u0 u1 u2, cs = [u0, u1, u2] := by
        have h0 := hR.1
        match cs, h0 with
        | [x0, x1, x2], _ => exact ⟨x0, x1, x2, rfl⟩
      have g0 : isSl u0 = false := hR.2.1 0 _ rfl
      have g1 : isSl u1 = false := hR.2.1 1 _ rfl
      have g2 : isSl u2 = false := hR.2.1 2 _ rfl
      have q0 : wr.cell? ⟨b, off + i * 3, none⟩ = some (u0) := hg 0 _ rfl
      have q1 : wr.cell? ⟨b, off + i * 3 + 1, none⟩ = some (u1) := hg 1 _ rfl
      have q2 : wr.cell? ⟨b, off + i * 3 + 2, none⟩ = some (u2) := hg 2 _ rfl
      have f0 := hfr (off + i * 3)
      have f1 := hfr (off + i * 3 + 1)
      have f2 := hfr (off + i * 3 + 2)
      have Q0 := Lib.hid q0
      have Q1 := Lib.hid q1
      have Q2 := Lib.hid q2
      have G0 := Lib.hid g0
      have G1 := Lib.hid g1
      have G2 := Lib.hid g2
      have HB := Lib.hid hB
      have HE := Lib.hid hE
      have HR := Lib.hid hfr
      have HO := Lib.hid hob
      have HM0 := Lib.hid hM0
      have HMM := Lib.hid hmm
      have hle : k + i * 3 + 3 ≤ 1073741824 := by omega
      clear hsh hcs hg hR hB hE hfr hmm hM0 hM g0 g1 g2
      go_wp2_with fail
      refine (lawsMarkText (k + (i * 3 + 2)) _ (by omega) (by omega)).mono ?_
      rintro e w1 ⟨rfl, hb1⟩
      have hk1 : KM (mkXVal k) b off B E wr w1 (i * 3 + 2) := by refine KM.below hb1 ?_; refine KM.set (m := i * 3 + 1) ?_ (by simp [Nat.add_assoc]) Q1.out G1.out HB.out HE.out rfl (by rw [mkXVal_1]; exact congrArg (Value.int .i64) (by omega)); refine KM.set (m := i * 3 + 0) ?_ (by simp [Nat.add_assoc]) Q0.out G0.out HB.out HE.out rfl (by rw [mkXVal_0]; exact congrArg (Value.int .i64) (by omega)); exact KM.start (w := wr) HM0.out
      obtain ⟨v1_0, z1_0, -, -⟩ := hk1.1.cell _ _ Q0.out
      have k1_0 := (HMM.out.kept hk1.1 b HO.out).2.2.2 (off + i * 3)
      obtain ⟨v1_1, z1_1, -, -⟩ := hk1.1.cell _ _ Q1.out
      have k1_1 := (HMM.out.kept hk1.1 b HO.out).2.2.2 (off + i * 3 + 1)
      obtain ⟨v1_2, z1_2, -, -⟩ := hk1.1.cell _ _ Q2.out
      have k1_2 := (HMM.out.kept hk1.1 b HO.out).2.2.2 (off + i * 3 + 2)
      have HK1 := Lib.hid hk1
      clear hk1 q0 f0 q1 f1 q2 f2
      go_wp2_with fail
      go_roundw
      case rel =>
        refine ⟨i + 1, by omega, by go_num, by exact congrArg (Value.int .i64) (by omega), ?_⟩
        refine KM.close (m' := i * 3 + 2 + 1) ?_ hK (by omega)
        refine KM.set (m := i * 3 + 2) ?_ (by simp [Nat.add_assoc]) Q2.out G2.out HB.out HE.out rfl (by first | (rw [mkXVal_2]; done) | (rw [mkXVal_2]; congr 2; omega)); exact HK1.out
      case measure => simp [intOf]; omega
    · obtain rfl : i = ms.length := by omega
      go_wp2_with fail
      go_ret
      exact ⟨rfl, hK, hM.out⟩
set_option maxRecDepth 100000 in
set_option maxHeartbeats 1000000 in
theorem heldXValL (A : Option Addr) (n c k : Nat) (w : World) (h : Mk (mkXVal k) w A (n * 3)) (hk : k + n * 3 ≤ 1073741824) (hn : n ≤ 1048576) {x : Int} (hx : x = k) :
    Calls Tryz.prog 74 #[.slice A n c, .int .i64 x] w fun e w' => e = .returned (.int .i64 ((k + n * 3 : Nat) : Int)) ∧ Below w.heap.size w w' := by
  subst hx
  have HH := Lib.hid h
  clear h
  go_enter Tryz.func74, Tryz.ntmps74
  go_wp2_with fail
  go_loopw [1, 5] (fun m i wr => ∃ (j : Nat), j ≤ n ∧ i = .int .i64 j ∧ m = .int .i64 ((k + j * 3 : Nat) : Int) ∧ Below w.heap.size w wr) (fun _ i _ => n - (intOf i).toNat)
  case atStart => exact ⟨0, by omega, rfl, by simp, Below.refl _ _⟩
  case round =>
    obtain ⟨i, hi, rfl, rfl, hb⟩ := hrel
    by_cases hlt : i < n
    · obtain ⟨b, off, rfl, hc⟩ := (HH.out.below hb) (by omega)
      have hle : k + i * 3 + 3 ≤ 1073741824 := by omega
      have q0 : wr.cell? ⟨b, off + i * 3, none⟩ = some (.int .i64 ((k + (i * 3 + 0) : Nat) : Int)) := by have := hc (i * 3 + 0) (by omega); rwa [mkXVal_0] at this
      have q1 : wr.cell? ⟨b, off + i * 3 + 1, none⟩ = some (.int .i64 ((k + (i * 3 + 1) : Nat) : Int)) := by have := hc (i * 3 + 1) (by omega); rwa [mkXVal_1, ← Nat.add_assoc] at this
      have q2 : wr.cell? ⟨b, off + i * 3 + 2, none⟩ = some (.string (mtx (k + (i * 3 + 2)))) := by have := hc (i * 3 + 2) (by omega); rwa [mkXVal_2, ← Nat.add_assoc] at this
      have i0 : (0 : Int) ≤ i := by omega
      have i1 : (i : Int) < n := by omega
      have Q0 := Lib.hid q0
      have Q1 := Lib.hid q1
      have Q2 := Lib.hid q2
      clear hc
      go_wp2_with fail
      go_region_held3 (fun w' => w'.cell? ⟨b, off + i * 3 + 2, none⟩ = some (.string (mtx (k + (i * 3 + 2)))))
        (first | go_keep | exact below_keep hb1 _ _ (by assumption))
        (first | (go_at_call 54; refine (lawsMarkText (k + (i * 3 + 2)) _ (by omega) (by omega)).mono ?_; rintro e w1 ⟨rfl, hb1⟩))
      go_wp2_with fail
      go_roundw
      case rel => exact ⟨i + 1, by omega, by go_num, by exact congrArg (Value.int .i64) (by omega), hb.drew.trans (hb1.mono hb.size)⟩
      case measure => simp [intOf]; omega
    · obtain rfl : i = n := by omega
      go_wp2_with fail
      go_ret
      exact ⟨rfl, hb⟩
structure KeptL (bs : List Nat) (w w' : World) : Prop where
  os : w'.os = w.os
  tape : w'.tape = w.tape
  output : w'.output = w.output
  size : w.heap.size ≤ w'.heap.size
  block : ∀ k, k < w.heap.size → k ∉ bs → w'.heap[k]? = w.heap[k]?
  frozen : ∀ p : Addr, p.block < w.heap.size → w'.frozen? p = w.frozen? p
theorem KeptL.refl (bs : List Nat) (w : World) : KeptL bs w w := ⟨rfl, rfl, rfl, Nat.le_refl _, fun _ _ _ => rfl, fun _ _ => rfl⟩
theorem KeptL.trans {bs : List Nat} {a b c : World} (h : KeptL bs a b) (k : KeptL bs b c) : KeptL bs a c :=
  ⟨k.os.trans h.os, k.tape.trans h.tape, k.output.trans h.output, Nat.le_trans h.size k.size, fun i hi ho => (k.block i (Nat.lt_of_lt_of_le hi h.size) ho).trans (h.block i hi ho),
   fun p hp => (k.frozen p (Nat.lt_of_lt_of_le hp h.size)).trans (h.frozen p hp)⟩
theorem KeptL.mono {bs cs : List Nat} {a b : World} (h : KeptL bs a b) (hc : ∀ x ∈ bs, x ∈ cs) : KeptL cs a b :=
  ⟨h.os, h.tape, h.output, h.size, fun k hk ho => h.block k hk fun hh => ho (hc _ hh), h.frozen⟩
theorem KeptL.below {bs : List Nat} {w w' : World} (h : Below w.heap.size w w') : KeptL bs w w' :=
  ⟨h.os, h.tape, h.output, h.size, fun k hk _ => h.block k hk, fun p hp => World.frozen?_of_block (w := w) (h.block p.block hp)⟩
theorem KeptL.of {b : Nat} {w w' : World} (h : Kept b (b + 1) w w') : KeptL [b] w w' :=
  ⟨h.os, h.tape, h.output, h.size, fun k hk ho => h.block k hk (by rw [List.mem_singleton] at ho; omega), h.frozen⟩
theorem KeptL.of0 {bs : List Nat} {w w' : World} (h : Kept 0 0 w w') : KeptL bs w w' :=
  ⟨h.os, h.tape, h.output, h.size, fun k hk _ => h.block k hk (Or.inr (Nat.zero_le _)), h.frozen⟩
theorem KeptL.far {bs : List Nat} {w w' : World} (h : KeptL bs w w') {p : Addr} {v : Value} (hp : p.block ∉ bs) (hc : w.cell? p = some v) : w'.cell? p = some v :=
  (World.cell?_of_block (w := w) (h.block p.block (cell_lt hc) hp)).trans hc
theorem KeptL.set {bs : List Nat} {a w : World} (h : KeptL bs a w) {p : Addr} {u : Value} (hp : p.block ∈ bs) : KeptL bs a (w.setCell p u) :=
  ⟨h.os, h.tape, h.output, by simpa [World.setCell] using h.size, fun k hk ho => by
    rw [Below.heap_setCell _ _ _ _ (fun hh => ho (by rw [hh]; exact hp))]
    exact h.block k hk ho, fun q hq => (frozen_setCell w p u q).trans (h.frozen q hq)⟩
theorem KeptL.toBelow {bs : List Nat} {G : Nat} {a w w' : World} (h : Below G a w) (k : KeptL bs w w') (hG : ∀ b ∈ bs, G ≤ b) (ha : G ≤ w.heap.size) : Below G a w' :=
  ⟨k.os.trans h.os, k.tape.trans h.tape, k.output.trans h.output, Nat.le_trans h.size k.size, fun i hi => (k.block i (by omega) (fun hh => by have := hG i hh; omega)).trans (h.block i hi)⟩
def FlS (sz : Nat) (w : World) (A : Option Addr) (n : Nat) (bs : List Nat) : Prop :=
  bs.length ≤ 1 ∧ n ≤ 1048576 ∧ (∀ b ∈ bs, b < w.heap.size ∧ ∀ off, w.frozen? ⟨b, off, none⟩ = false) ∧ ∃ ms, Sl (ShF sz) sz (· ∈ bs) w A n ms
theorem ShF.stays (m : Nat) : Stays (ShF m) := fun _ _ _ _ _ _ h _ _ => h
theorem FlS.stay {sz : Nat} {w w' : World} {A : Option Addr} {n : Nat} {bs bs' : List Nat} (h : FlS sz w A n bs) (k : KeptL bs' w w') (hd : ∀ x ∈ bs, x ∉ bs') : FlS sz w' A n bs := by
  obtain ⟨h1, h2, h3, ms, h4⟩ := h
  exact ⟨h1, h2, fun b hb => ⟨Nat.lt_of_lt_of_le (h3 b hb).1 k.size, fun off => (k.frozen ⟨b, off, none⟩ (h3 b hb).1).trans ((h3 b hb).2 off)⟩, ms,
    h4.stays (ShF.stays sz) (fun _ h => h) fun p v hb hp => k.far (hd _ hb) hp⟩
def FlH (f : Nat → Nat → Value) (sz : Nat) (w : World) (k : Nat) (A : Option Addr) (n : Nat) (bs : List Nat) : Prop :=
  n ≤ 1048576 ∧ (0 < n * sz → ∃ b off, A = some ⟨b, off, none⟩ ∧ b ∈ bs ∧ ∀ j, j < n * sz → w.cell? ⟨b, off + j, none⟩ = some (f k j))
theorem FlH.mk {f : Nat → Nat → Value} {sz : Nat} {w : World} {k : Nat} {A : Option Addr} {n : Nat} {bs : List Nat} (h : FlH f sz w k A n bs) : Mk (f k) w A (n * sz) := fun hn => by
  obtain ⟨b, off, e, -, hc⟩ := h.2 hn
  exact ⟨b, off, e, hc⟩
theorem FlH.stay {f : Nat → Nat → Value} {sz : Nat} {w w' : World} {k : Nat} {A : Option Addr} {n : Nat} {bs bs' : List Nat} (h : FlH f sz w k A n bs) (kk : KeptL bs' w w') (hd : ∀ x ∈ bs, x ∉ bs') : FlH f sz w' k A n bs :=
  ⟨h.1, fun hn => by
    obtain ⟨b, off, e, hb, hc⟩ := h.2 hn
    exact ⟨b, off, e, hb, fun j hj => kk.far (hd b hb) (hc j hj)⟩⟩
theorem FlS.pick {sz : Nat} {w : World} {A : Option Addr} {n : Nat} {bs : List Nat} (h : FlS sz w A n bs) (f : Nat → Nat → Value) (k : Nat) :
    n ≤ 1048576 ∧ ∃ B E ms, Sl (ShF sz) sz (· ∈ bs) w A n ms ∧ mayMark B E w (· ∈ bs) ∧ (∀ w', Kept B E w w' → KeptL bs w w') ∧ ∀ w', Mk (f k) w' A (n * sz) → FlH f sz w' k A n bs := by
  obtain ⟨h1, h2, h3, ms, h4⟩ := h
  have hF : ∀ w', Mk (f k) w' A (n * sz) → FlH f sz w' k A n bs := fun w' hM => ⟨h2, fun hn => by
    obtain ⟨b, off, e, hc⟩ := hM hn
    obtain ⟨b', off', e', hb, -⟩ := h4.2 (Nat.pos_of_mul_pos_right hn)
    obtain ⟨rfl, rfl⟩ : b' = b ∧ off' = off := by rw [e] at e'; cases e'; exact ⟨rfl, rfl⟩
    exact ⟨b', off', e, hb, hc⟩⟩
  refine ⟨h2, ?_⟩
  match bs, h1 with
  | [], _ => exact ⟨0, 0, ms, h4, (fun b hb => by simp at hb), fun w' hk => KeptL.of0 hk, hF⟩
  | [b], _ => exact ⟨b, b + 1, ms, h4, (fun x hx => by
      obtain rfl : x = b := by simpa using hx
      exact ⟨Nat.le_refl _, by omega, (h3 x (by simp)).1, (h3 x (by simp)).2⟩), fun w' hk => KeptL.of hk, hF⟩
def cellsAt (w : World) (b o : Nat) (cs : List Value) : Prop := ∀ (t : Nat) (v : Value), cs[t]? = some v → w.cell? ⟨b, o + t, none⟩ = some v
abbrev ElS := World → List Value → Nat → List Nat → Prop
abbrev ElH := World → Nat → List Value → Nat → List Nat → Prop
def StayS (S : ElS) : Prop := ∀ (w w' : World) (cs : List Value) (cnt : Nat) (bs bs' : List Nat), S w cs cnt bs → KeptL bs' w w' → (∀ x ∈ bs, x ∉ bs') → S w' cs cnt bs
def StayH (H : ElH) : Prop := ∀ (w w' : World) (k : Nat) (cs : List Value) (cnt : Nat) (bs bs' : List Nat), H w k cs cnt bs → KeptL bs' w w' → (∀ x ∈ bs, x ∉ bs') → H w' k cs cnt bs
structure NS (S : ElS) (sz : Nat) (w : World) (b off n : Nat) (cnts : List Nat) (bss : List (List Nat)) : Prop where
  l1 : cnts.length = n
  l2 : bss.length = n
  nodup : (b :: bss.flatten).Nodup
  lt : b < w.heap.size
  fr : ∀ o, w.frozen? ⟨b, o, none⟩ = false
  el : ∀ i, i < n → ∃ cs, cs.length = sz ∧ S w cs (cnts.getD i 0) (bss.getD i []) ∧ cellsAt w b (off + i * sz) cs
def ShL (S : ElS) (sz : Nat) (w : World) (A : Option Addr) (n : Nat) (cnts : List Nat) (bs : List Nat) : Prop :=
  n ≤ 1048576 ∧ (n = 0 ∧ cnts = [] ∧ bs = [] ∨ ∃ b off bss, A = some ⟨b, off, none⟩ ∧ bs = b :: bss.flatten ∧ NS S sz w b off n cnts bss)
structure NH (H : ElH) (sz : Nat) (w : World) (k b off n : Nat) (cnts : List Nat) (bss : List (List Nat)) : Prop where
  l1 : cnts.length = n
  l2 : bss.length = n
  el : ∀ i, i < n → ∃ cs, cs.length = sz ∧ H w (k + (cnts.take i).sum) cs (cnts.getD i 0) (bss.getD i []) ∧ cellsAt w b (off + i * sz) cs
def HdL (H : ElH) (sz : Nat) (w : World) (k : Nat) (A : Option Addr) (n : Nat) (cnts : List Nat) (bs : List Nat) : Prop :=
  n ≤ 1048576 ∧ (n = 0 ∧ cnts = [] ∧ bs = [] ∨ ∃ b off bss, A = some ⟨b, off, none⟩ ∧ bs = b :: bss.flatten ∧ NH H sz w k b off n cnts bss)
theorem mem_flatten_getD {bss : List (List Nat)} {i x : Nat} (h : x ∈ bss.getD i []) : x ∈ bss.flatten := by
  by_cases hi : i < bss.length
  · rw [List.getD_eq_getElem?_getD, List.getElem?_eq_getElem hi] at h
    exact List.mem_flatten.2 ⟨bss[i], List.getElem_mem hi, h⟩
  · rw [List.getD_eq_getElem?_getD, List.getElem?_eq_none (by omega)] at h
    simp at h
theorem apart {b : Nat} {bss : List (List Nat)} (h : (b :: bss.flatten).Nodup) {i j x : Nat} (hx : x ∈ bss.getD i []) (hj : x ∈ bss.getD j []) : i = j := by
  have hi : i < bss.length := by
    rcases Nat.lt_or_ge i bss.length with h1 | h1
    · exact h1
    · rw [List.getD_eq_getElem?_getD, List.getElem?_eq_none h1] at hx; simp at hx
  have hjl : j < bss.length := by
    rcases Nat.lt_or_ge j bss.length with h1 | h1
    · exact h1
    · rw [List.getD_eq_getElem?_getD, List.getElem?_eq_none h1] at hj; simp at hj
  rw [List.getD_eq_getElem?_getD, List.getElem?_eq_getElem hi] at hx
  rw [List.getD_eq_getElem?_getD, List.getElem?_eq_getElem hjl] at hj
  have hp := (List.pairwise_iff_getElem.1 (List.pairwise_flatten.1 (List.nodup_cons.1 h).2).2)
  rcases Nat.lt_trichotomy i j with h1 | h1 | h1
  · exact absurd rfl (hp i j hi hjl h1 x hx x hj)
  · exact h1
  · exact absurd rfl (hp j i hjl hi h1 x hj x hx)
theorem apart0 {b : Nat} {bss : List (List Nat)} (h : (b :: bss.flatten).Nodup) {i x : Nat} (hx : x ∈ bss.getD i []) : x ≠ b := fun e => (List.nodup_cons.1 h).1 (e ▸ mem_flatten_getD hx)
theorem mem_take_flatten {bss : List (List Nat)} {i x : Nat} (h : x ∈ (bss.take i).flatten) : ∃ j, j < i ∧ x ∈ bss.getD j [] := by
  obtain ⟨l, hl, hx⟩ := List.mem_flatten.1 h
  obtain ⟨j, hj, rfl⟩ := List.mem_iff_getElem.1 hl
  simp only [List.length_take] at hj
  refine ⟨j, by omega, ?_⟩
  rw [List.getElem_take] at hx
  rw [List.getD_eq_getElem?_getD, List.getElem?_eq_getElem (by omega)]
  exact hx
theorem sum_take_getD (l : List Nat) (k : Nat) (h : k < l.length) : (l.take (k + 1)).sum = (l.take k).sum + l.getD k 0 := by
  rw [sum_take_n l k h, List.getD_eq_getElem?_getD, List.getElem?_eq_getElem h]; rfl
theorem take_le_sum (l : List Nat) (k : Nat) : (l.take k).sum ≤ l.sum := sum_take_n_le l k
structure NI (H : ElH) (sz : Nat) (w : World) (b off k n : Nat) (cnts : List Nat) (bss : List (List Nat)) (i : Nat) (wr : World) : Prop where
  kept : KeptL (b :: (bss.take i).flatten) w wr
  same : ∀ o, off + i * sz ≤ o → wr.cell? ⟨b, o, none⟩ = w.cell? ⟨b, o, none⟩
  done : ∀ j, j < i → ∃ cs, cs.length = sz ∧ H wr (k + (cnts.take j).sum) cs (cnts.getD j 0) (bss.getD j []) ∧ cellsAt wr b (off + j * sz) cs
theorem NI.start (H : ElH) (sz : Nat) (w : World) (b off k n : Nat) (cnts : List Nat) (bss : List (List Nat)) : NI H sz w b off k n cnts bss 0 w := ⟨KeptL.refl _ _, fun _ _ => rfl, fun j hj => by omega⟩
theorem NI.elem {S : ElS} {H : ElH} (hS : StayS S) {sz : Nat} {w : World} {b off k n : Nat} {cnts : List Nat} {bss : List (List Nat)} (hs : NS S sz w b off n cnts bss) {i : Nat} {wr : World} (h : NI H sz w b off k n cnts bss i wr) (hi : i < n) :
    b < wr.heap.size ∧ (∀ o, wr.frozen? ⟨b, o, none⟩ = false) ∧ ∃ cs, cs.length = sz ∧ S wr cs (cnts.getD i 0) (bss.getD i []) ∧ cellsAt wr b (off + i * sz) cs := by
  refine ⟨Nat.lt_of_lt_of_le hs.lt h.kept.size, fun o => (h.kept.frozen ⟨b, o, none⟩ hs.lt).trans (hs.fr o), ?_⟩
  obtain ⟨cs, h1, h2, h3⟩ := hs.el i hi
  refine ⟨cs, h1, hS _ _ _ _ _ _ h2 h.kept fun x hx hh => ?_, fun t v hv => (h.same _ (by omega)).trans (h3 t v hv)⟩
  rcases List.mem_cons.1 hh with e | e
  · exact apart0 hs.nodup hx e
  · obtain ⟨j, hj, hxj⟩ := mem_take_flatten e
    have := apart hs.nodup hx hxj
    omega
theorem NI.step {H : ElH} (hH : StayH H) {sz : Nat} {w : World} {b off k n : Nat} {cnts : List Nat} {bss : List (List Nat)} (hl : bss.length = n) (hn : (b :: bss.flatten).Nodup) {i : Nat} {wr W : World} (h : NI H sz w b off k n cnts bss i wr) (hi : i < n)
    (hk : KeptL (b :: bss.getD i []) wr W) (hs : ∀ o, (o < off + i * sz ∨ off + (i + 1) * sz ≤ o) → ∀ v, wr.cell? ⟨b, o, none⟩ = v → W.cell? ⟨b, o, none⟩ = v) (cs : List Value) (hc : cs.length = sz) (hM : H W (k + (cnts.take i).sum) cs (cnts.getD i 0) (bss.getD i [])) (hcs : cellsAt W b (off + i * sz) cs) :
    NI H sz w b off k n cnts bss (i + 1) W := by
  have hsub : ∀ x ∈ bss.getD i [], x ∈ (bss.take (i + 1)).flatten := fun x hx => by
    have hi' : i < bss.length := by omega
    rw [List.getD_eq_getElem?_getD, List.getElem?_eq_getElem hi'] at hx
    exact List.mem_flatten.2 ⟨bss[i], List.mem_iff_getElem.2 ⟨i, by simp; omega, by simp⟩, hx⟩
  have hsub2 : ∀ x ∈ (bss.take i).flatten, x ∈ (bss.take (i + 1)).flatten := fun x hx => by
    rw [List.take_succ_eq_append_getElem (by omega), List.flatten_append]
    exact List.mem_append_left _ hx
  refine ⟨(h.kept.mono fun x hx => ?_).trans (hk.mono fun x hx => ?_), fun o ho => ?_, fun j hj => ?_⟩
  · rcases List.mem_cons.1 hx with e | e
    · exact e ▸ List.mem_cons_self ..
    · exact List.mem_cons_of_mem _ (hsub2 x e)
  · rcases List.mem_cons.1 hx with e | e
    · exact e ▸ List.mem_cons_self ..
    · exact List.mem_cons_of_mem _ (hsub x e)
  · have e : (i + 1) * sz = i * sz + sz := Nat.succ_mul i sz
    exact (hs o (Or.inr ho) _ rfl).trans (h.same o (by omega))
  · by_cases e : j = i
    · subst e
      exact ⟨cs, hc, hM, hcs⟩
    · obtain ⟨cs', h1, h2, h3⟩ := h.done j (by omega)
      refine ⟨cs', h1, hH _ _ _ _ _ _ _ h2 hk fun x hx hh => ?_, fun t v hv => hs _ (Or.inl ?_) _ (h3 t v hv)⟩
      · rcases List.mem_cons.1 hh with e' | e'
        · exact apart0 hn hx e'
        · exact e (apart hn hx e')
      · have ht : t < sz := by have := (List.getElem?_eq_some_iff.1 hv).1; omega
        have : (j + 1) * sz ≤ i * sz := Nat.mul_le_mul_right sz (by omega)
        rw [Nat.succ_mul] at this
        omega
theorem NI.finish {H : ElH} {sz : Nat} {w : World} {b off k n : Nat} {cnts : List Nat} {bss : List (List Nat)} (hl1 : cnts.length = n) (hl : bss.length = n) {wr : World} (h : NI H sz w b off k n cnts bss n wr) : KeptL (b :: bss.flatten) w wr ∧ NH H sz wr k b off n cnts bss := by
  refine ⟨?_, hl1, hl, h.done⟩
  have := h.kept
  rwa [List.take_of_length_le (by omega)] at this
theorem ShL.stay {S : ElS} (hS : StayS S) {sz : Nat} {w w' : World} {A : Option Addr} {n : Nat} {cnts bs bs' : List Nat} (h : ShL S sz w A n cnts bs) (hk : KeptL bs' w w') (hd : ∀ x ∈ bs, x ∉ bs') : ShL S sz w' A n cnts bs := by
  refine ⟨h.1, ?_⟩
  rcases h.2 with h0 | ⟨b, off, bss, rfl, rfl, hs⟩
  · exact Or.inl h0
  · refine Or.inr ⟨b, off, bss, rfl, rfl, hs.l1, hs.l2, hs.nodup, Nat.lt_of_lt_of_le hs.lt hk.size, fun o => (hk.frozen ⟨b, o, none⟩ hs.lt).trans (hs.fr o), fun i hi => ?_⟩
    obtain ⟨cs, h1, h2, h3⟩ := hs.el i hi
    exact ⟨cs, h1, hS _ _ _ _ _ _ h2 hk fun x hx => hd x (List.mem_cons_of_mem _ (mem_flatten_getD hx)), fun t v hv => hk.far (hd b (List.mem_cons_self ..)) (h3 t v hv)⟩
theorem HdL.stay {H : ElH} (hH : StayH H) {sz : Nat} {w w' : World} {k : Nat} {A : Option Addr} {n : Nat} {cnts bs bs' : List Nat} (h : HdL H sz w k A n cnts bs) (hk : KeptL bs' w w') (hd : ∀ x ∈ bs, x ∉ bs') : HdL H sz w' k A n cnts bs := by
  refine ⟨h.1, ?_⟩
  rcases h.2 with h0 | ⟨b, off, bss, rfl, rfl, hs⟩
  · exact Or.inl h0
  · refine Or.inr ⟨b, off, bss, rfl, rfl, hs.l1, hs.l2, fun i hi => ?_⟩
    obtain ⟨cs, h1, h2, h3⟩ := hs.el i hi
    exact ⟨cs, h1, hH _ _ _ _ _ _ _ h2 hk fun x hx => hd x (List.mem_cons_of_mem _ (mem_flatten_getD hx)), fun t v hv => hk.far (hd b (List.mem_cons_self ..)) (h3 t v hv)⟩
theorem HdL.below {H : ElH} (hH : StayH H) {sz : Nat} {w w' : World} {k : Nat} {A : Option Addr} {n : Nat} {cnts bs : List Nat} (h : HdL H sz w k A n cnts bs) (hk : Below w.heap.size w w') : HdL H sz w' k A n cnts bs :=
  h.stay hH (bs' := []) (KeptL.below hk) fun _ _ => List.not_mem_nil
structure NM (b lo hi : Nat) (bs : List Nat) (wr W : World) : Prop where
  kept : KeptL (b :: bs) wr W
  same : ∀ o, (o < lo ∨ hi ≤ o) → ∀ v, wr.cell? ⟨b, o, none⟩ = v → W.cell? ⟨b, o, none⟩ = v
theorem NM.refl (b lo hi : Nat) (bs : List Nat) (w : World) : NM b lo hi bs w w := ⟨KeptL.refl _ _, fun _ _ _ h => h⟩
theorem NM.turn {b lo hi : Nat} {bs l : List Nat} {wr W W' : World} (hb : b < wr.heap.size) (h : NM b lo hi bs wr W) (hk : KeptL l W W') (hl : ∀ x ∈ l, x ∈ bs) (hn : b ∉ bs) : NM b lo hi bs wr W' :=
  ⟨h.kept.trans (hk.mono fun x hx => List.mem_cons_of_mem _ (hl x hx)), fun o ho v hv => (World.cell?_of_block (w := W) (hk.block b (Nat.lt_of_lt_of_le hb h.kept.size) fun hh => hn (hl b hh))).trans (h.same o ho v hv)⟩
theorem NM.set {b lo hi : Nat} {bs : List Nat} {wr W : World} (h : NM b lo hi bs wr W) {p : Addr} {u : Value} {o : Nat} (hp : p = ⟨b, o, none⟩) (h1 : lo ≤ o) (h2 : o < hi) : NM b lo hi bs wr (W.setCell p u) := by
  subst hp
  exact ⟨h.kept.set (List.mem_cons_self ..), fun o' ho v hv => (World.cell?_setCell_other _ _ _ _ (by intro hh; simp only [Addr.mk.injEq] at hh; omega)).trans (h.same o' ho v hv)⟩
theorem ShL.walk {S : ElS} {H : ElH} (hS : StayS S) (hH : StayH H) {sz : Nat} {w : World} {A : Option Addr} {n : Nat} {cnts bs : List Nat} (h : ShL S sz w A n cnts bs) (k : Nat) :
    cnts.length = n ∧ ∃ P : Nat → World → Prop, P 0 w ∧
      (∀ i wr, i < n → P i wr → ∃ b off bs' cs, A = some ⟨b, off, none⟩ ∧ (∀ o, wr.frozen? ⟨b, o, none⟩ = false) ∧ b < wr.heap.size ∧ cs.length = sz ∧ S wr cs (cnts.getD i 0) bs' ∧ cellsAt wr b (off + i * sz) cs ∧ b ∉ bs' ∧
        ∀ W cs', NM b (off + i * sz) (off + (i + 1) * sz) bs' wr W → cs'.length = sz → H W (k + (cnts.take i).sum) cs' (cnts.getD i 0) bs' → cellsAt W b (off + i * sz) cs' → P (i + 1) W) ∧
      (∀ wr, P n wr → KeptL bs w wr ∧ HdL H sz wr k A n cnts bs) := by
  rcases h.2 with ⟨rfl, rfl, rfl⟩ | ⟨b, off, bss, rfl, rfl, hs⟩
  · exact ⟨rfl, fun _ wr => wr = w, rfl, fun i wr hi => by omega, fun wr e => by subst e; exact ⟨KeptL.refl _ _, Nat.zero_le _, Or.inl ⟨rfl, rfl, rfl⟩⟩⟩
  · refine ⟨hs.l1, NI H sz w b off k n cnts bss, NI.start .., fun i wr hi hI => ?_, fun wr hI => ?_⟩
    · obtain ⟨h1, h2, cs, h3, h4, h5⟩ := hI.elem hS hs hi
      exact ⟨b, off, bss.getD i [], cs, rfl, h2, h1, h3, h4, h5, fun hb => apart0 hs.nodup hb rfl, fun W cs' hk hc hM hcs => NI.step hH hs.l2 hs.nodup hI hi hk.kept hk.same cs' hc hM hcs⟩
    · obtain ⟨h1, h2⟩ := NI.finish hs.l1 hs.l2 hI
      exact ⟨h1, h.1, Or.inr ⟨b, off, bss, rfl, rfl, h2⟩⟩
theorem HdL.elem {H : ElH} {sz : Nat} {w : World} {k : Nat} {A : Option Addr} {n : Nat} {cnts bs : List Nat} (h : HdL H sz w k A n cnts bs) {i : Nat} (hi : i < n) :
    ∃ b off bs' cs, A = some ⟨b, off, none⟩ ∧ cs.length = sz ∧ H w (k + (cnts.take i).sum) cs (cnts.getD i 0) bs' ∧ cellsAt w b (off + i * sz) cs := by
  rcases h.2 with h0 | ⟨b, off, bss, rfl, rfl, hs⟩
  · omega
  · obtain ⟨cs, h1, h2, h3⟩ := hs.el i hi
    exact ⟨b, off, _, cs, rfl, h1, h2, h3⟩
theorem HdL.len {H : ElH} {sz : Nat} {w : World} {k : Nat} {A : Option Addr} {n : Nat} {cnts bs : List Nat} (h : HdL H sz w k A n cnts bs) : cnts.length = n := by
  rcases h.2 with ⟨rfl, rfl, -⟩ | ⟨b, off, bss, rfl, rfl, hs⟩
  · rfl
  · exact hs.l1
theorem sums_step {cnts : List Nat} {i n : Nat} (hl : cnts.length = n) (hi : i < n) : (cnts.take (i + 1)).sum = (cnts.take i).sum + cnts.getD i 0 ∧ (cnts.take i).sum + cnts.getD i 0 ≤ cnts.sum := by
  have h1 := sum_take_getD cnts i (by omega)
  have h2 := take_le_sum cnts (i + 1)
  omega
theorem sums_all {cnts : List Nat} {n : Nat} (hl : cnts.length = n) : (cnts.take n).sum = cnts.sum := by rw [List.take_of_length_le (by omega)]
theorem marksOVal (A : Option Addr) (n c k : Nat) (bs : List Nat) (w : World) (h : FlS 3 w A n bs) (hk : k + n * 3 ≤ 1073741824) {x : Int} (hx : x = k) :
    Calls Tryz.prog 20 #[.slice A n c, .int .i64 x] w fun e w' => e = .returned (.int .i64 ((k + n * 3 : Nat) : Int)) ∧ KeptL bs w w' ∧ FlH mkXVal 3 w' k A n bs := by
  obtain ⟨hn, B, E, ms, h1, h2, h3, h4⟩ := h.pick mkXVal k
  exact (marksXValL A n c ms _ B E k w h1 h2 hk hn hx).mono (fun e w' ⟨he, hK, hM⟩ => ⟨he, h3 w' hK, h4 w' hM⟩)
theorem heldOVal (A : Option Addr) (n c k : Nat) (bs : List Nat) (w : World) (h : FlH mkXVal 3 w k A n bs) (hk : k + n * 3 ≤ 1073741824) {x : Int} (hx : x = k) :
    Calls Tryz.prog 74 #[.slice A n c, .int .i64 x] w fun e w' => e = .returned (.int .i64 ((k + n * 3 : Nat) : Int)) ∧ Below w.heap.size w w' :=
  heldXValL A n c k w h.mk hk h.1 hx
def EnS : ElS := fun w cs cnt bs => ∃ A n c x, cs = [.slice A n c, .int .i64 x] ∧ cnt = n * 3 + 1 ∧ FlS 3 w A n bs
def EnH : ElH := fun w k cs cnt bs => ∃ A n c, cs = [.slice A n c, .int .i64 ((k + n * 3 : Nat) : Int)] ∧ cnt = n * 3 + 1 ∧ FlH mkXVal 3 w k A n bs
theorem EnS.stay : StayS EnS := fun w w' cs cnt bs bs' ⟨A, n, c, x, e, e', h⟩ hk hd => ⟨A, n, c, x, e, e', h.stay hk hd⟩
theorem EnH.stay : StayH EnH := fun w w' k cs cnt bs bs' ⟨A, n, c, e, e', h⟩ hk hd => ⟨A, n, c, e, e', h.stay hk hd⟩
set_option maxRecDepth 100000 in
set_option maxHeartbeats 1000000 in
theorem marksOEntL (A : Option Addr) (n c : Nat) (cnts bs : List Nat) (k : Nat) (w : World) (h : ShL EnS 2 w A n cnts bs) (hk : k + cnts.sum ≤ 1073741824) {x : Int} (hx : x = k) :
    Calls Tryz.prog 31 #[.slice A n c, .int .i64 x] w fun e w' => e = .returned (.int .i64 ((k + cnts.sum : Nat) : Int)) ∧ KeptL bs w w' ∧ HdL EnH 2 w' k A n cnts bs := by
  have hn := h.1
  obtain ⟨hl, P, hP0, hP, hPn⟩ := h.walk EnS.stay EnH.stay k
  subst hx
  clear h
  go_enter Tryz.func31, Tryz.ntmps31
  go_wp2_with fail
  go_loopw [1, 5] (fun m i wr => ∃ (j : Nat), j ≤ n ∧ i = .int .i64 j ∧ m = .int .i64 ((k + (cnts.take j).sum : Nat) : Int) ∧ Hid (P j wr)) (fun _ i _ => n - (intOf i).toNat)
  case atStart => exact ⟨0, by omega, rfl, by simp, Lib.hid hP0⟩
  case round =>
    obtain ⟨i, hi, rfl, rfl, hI⟩ := hrel
    by_cases hlt : i < n
    · obtain ⟨b, off, bs', cs, rfl, hfr, hbs, hcl, ⟨A', n', c', x', rfl, hcn, hS⟩, hat, hb, hnext⟩ := hP i wr hlt hI.out
      have q0 : wr.cell? ⟨b, off + i * 2, none⟩ = some (.slice A' n' c') := hat 0 _ rfl
      have q1 : wr.cell? ⟨b, off + i * 2 + 1, none⟩ = some (.int .i64 x') := hat 1 _ rfl
      obtain ⟨hs1, hs2⟩ := sums_step hl hlt
      have HN := Lib.hid hnext
      have HF := Lib.hid hfr
      generalize hkk : (cnts.take i).sum = s at *
      generalize hcc : cnts.getD i 0 = cn at *
      subst hcn
      have i0 : (0 : Int) ≤ i := by omega
      have i1 : (i : Int) < n := by omega
      clear hnext hfr hat hP hPn hI
      go_wp2_with fail
      refine (marksOVal A' n' c' (k + s) bs' _ hS (by omega) (by simp)).mono ?_
      rintro e w1 ⟨rfl, hk1, hM1⟩
      have q0' := Lib.hid (hk1.far hb q0)
      have q1' := hk1.far hb q1
      have f1 := (hk1.frozen ⟨b, off + i * 2 + 1, none⟩ hbs).trans (HF.out _)
      have HM := Lib.hid hM1
      have HK := Lib.hid hk1
      have hle : k + s + (n' * 3 + 1) ≤ 1073741824 := by omega
      clear q0 q1 hk1 hM1
      go_wp2_with fail
      go_roundw
      case rel =>
        refine ⟨i + 1, by omega, by go_num, by rw [hs1]; exact congrArg (Value.int .i64) (by omega), Lib.hid ?_⟩
        refine HN.out _ [.slice A' n' c', .int .i64 ((k + s + n' * 3 : Nat) : Int)] (NM.set (o := off + i * 2 + 1) (NM.turn hbs (NM.refl _ _ _ _ _) HK.out (fun _ h => h) hb) rfl (by omega) (by omega)) rfl ⟨A', n', c', rfl, rfl, HM.out.stay (KeptL.set (bs := [b]) (KeptL.refl _ _) (List.mem_cons_self ..)) fun x hx hh => hb ((List.mem_singleton.1 hh) ▸ hx)⟩ ?_
        intro t v hv
        match t, hv with
        | 0, hv => cases hv; exact (World.cell?_setCell_other _ _ _ _ (by intro hh; simp only [Addr.mk.injEq] at hh; omega)).trans q0'.out
        | 1, hv => cases hv; exact World.cell?_setCell_same _ _ _ q1'
      case measure => simp [intOf]; omega
    · obtain rfl : i = n := by omega
      have hR := hPn _ hI.out
      rw [sums_all hl]
      go_wp2_with fail
      go_ret
      exact ⟨rfl, hR.1, hR.2⟩
set_option maxRecDepth 100000 in
set_option maxHeartbeats 1000000 in
theorem heldOEntL (A : Option Addr) (n c : Nat) (cnts bs : List Nat) (k : Nat) (w : World) (h : HdL EnH 2 w k A n cnts bs) (hk : k + cnts.sum ≤ 1073741824) {x : Int} (hx : x = k) :
    Calls Tryz.prog 32 #[.slice A n c, .int .i64 x] w fun e w' => e = .returned (.int .i64 ((k + cnts.sum : Nat) : Int)) ∧ Below w.heap.size w w' := by
  have hn := h.1
  have hl := h.len
  subst hx
  have HH := Lib.hid h
  clear h
  go_enter Tryz.func32, Tryz.ntmps32
  go_wp2_with fail
  go_loopw [1, 5] (fun m i wr => ∃ (j : Nat), j ≤ n ∧ i = .int .i64 j ∧ m = .int .i64 ((k + (cnts.take j).sum : Nat) : Int) ∧ Below w.heap.size w wr) (fun _ i _ => n - (intOf i).toNat)
  case atStart => exact ⟨0, by omega, rfl, by simp, Below.refl _ _⟩
  case round =>
    obtain ⟨i, hi, rfl, rfl, hb⟩ := hrel
    by_cases hlt : i < n
    · obtain ⟨b, off, bs', cs, rfl, hcl, ⟨A', n', c', rfl, hcn, hS⟩, hat⟩ := (HH.out.below EnH.stay hb).elem hlt
      have q0 : wr.cell? ⟨b, off + i * 2, none⟩ = some (.slice A' n' c') := hat 0 _ rfl
      have q1 : wr.cell? ⟨b, off + i * 2 + 1, none⟩ = some (.int .i64 ((k + (cnts.take i).sum + n' * 3 : Nat) : Int)) := hat 1 _ rfl
      obtain ⟨hs1, hs2⟩ := sums_step hl hlt
      generalize hkk : (cnts.take i).sum = s at *
      generalize hcc : cnts.getD i 0 = cn at *
      subst hcn
      have i0 : (0 : Int) ≤ i := by omega
      have i1 : (i : Int) < n := by omega
      clear hat
      go_wp2_with fail
      refine (heldOVal A' n' c' (k + s) bs' _ hS (by omega) (by simp)).mono ?_
      rintro e w1 ⟨rfl, hb1⟩
      have q1' := below_keep hb1 _ _ q1
      have hle : k + s + (n' * 3 + 1) ≤ 1073741824 := by omega
      have h0 : ¬ (((k + s + n' * 3 : Nat) : Int) < 0) := by omega
      clear q0 q1
      go_wp2_with fail
      go_roundw
      case rel => exact ⟨i + 1, by omega, by go_num, by rw [hs1]; exact congrArg (Value.int .i64) (by omega), hb.trans (hb1.mono hb.size)⟩
      case measure => simp [intOf]; omega
    · obtain rfl : i = n := by omega
      rw [sums_all hl]
      go_wp2_with fail
      go_ret
      exact ⟨rfl, hb⟩
def entC (vs : List Value) (es : List En) : List Value := (List.zipWith (fun v (e : En) => [v, .int .i64 e.id]) vs es).flatten
def OwnK (w : World) (base : Nat) (v : Value) (xs : List Vl) : Prop := OwnG 93 3 Vl.cells w base v xs
def blk (v : Value) : List Nat := v.ownBlock.toList
structure OwnE0 (w : World) (base : Nat) (v : Value) (es : List En) (vs : List Value) : Prop where
  len : vs.length = es.length
  row : w.ownsRow base 135 2 v es.length (entC vs es)
  key : ∀ i (h : i < es.length) (h' : i < vs.length), OwnK w base vs[i] es[i].key
  apart : (vs.flatMap blk).Nodup
def OwnE (w : World) (base : Nat) (v : Value) (es : List En) : Prop := ∃ vs, OwnE0 w base v es vs
theorem OwnE.nil (w : World) (base : Nat) : OwnE w base (.slice none 0 0) [] := ⟨[], rfl, World.ownsRow_nil _ _ _ _, fun i h => by simp at h, by simp⟩
theorem OwnE.lit (w : World) {base : Nat} (hb : base ≤ w.heap.size) : OwnE (w.alloc (.cells #[] 135)) base (.slice (some ⟨w.heap.size, 0, none⟩) 0 0) [] :=
  ⟨[], rfl, ⟨by simp [entC], .inr ⟨w.heap.size, 0, #[], rfl, hb, Go.heap_alloc_last w _, Nat.le_refl _, by simp [maxLen], by simp, by simp [entC]⟩⟩, fun i h => by simp at h, by simp⟩
theorem ownsRow_below {w w' : World} {base : Nat} {T : TypeId} {sz : Nat} {v : Value} {n : Nat} {xs : List Value} (h : w.ownsRow base T sz v n xs) (hb : Below w.heap.size w w') : w'.ownsRow base T sz v n xs := by
  refine ⟨h.1, ?_⟩
  rcases h.2 with h | ⟨g, cap, cur, rfl, h1, h2, h3⟩
  · exact .inl h
  · exact .inr ⟨g, cap, cur, rfl, h1, (hb.block g (lt_of_block h2)).trans h2, h3⟩
theorem OwnK.ne {w : World} {base base' : Nat} {v k : Value} {n : Nat} {cs : List Value} {xs : List Vl} (h : w.ownsRow base 135 2 v n cs) (hk : OwnK w base' k xs) : k.ownBlock = none ∨ k.ownBlock ≠ v.ownBlock := by
  rcases hk.2 with ⟨rfl, -⟩ | ⟨g, cap, cur, rfl, h1, h2, -⟩
  · exact Or.inl rfl
  · refine Or.inr fun e => ?_
    rcases h.2 with ⟨rfl, -⟩ | ⟨g', cap', cur', rfl, k1, k2, -⟩
    · simp [Value.ownBlock] at e
    · simp [Value.ownBlock] at e
      subst e
      rw [h2] at k2
      injection k2 with k2
      injection k2 with _ k3
      exact absurd k3 (by decide)
end Go.Proofs.YtemimhghhihllaaGreat
namespace Go.Proofs.YtemimhghhihllaaGreat
open Go.RowKit
section
variable {P : Program} {w : World}
end
theorem OwnK.mono {w : World} {base base' : Nat} {v : Value} {xs : List Vl} (h : OwnK w base v xs) (hb : base' ≤ base) : OwnK w base' v xs := by
  refine ⟨h.1, ?_⟩
  rcases h.2 with h | ⟨g, cap, cur, rfl, h1, h2⟩
  · exact .inl h
  · exact .inr ⟨g, cap, cur, rfl, Nat.le_trans hb h1, h2⟩
theorem OwnK.shape {w : World} {base : Nat} {v : Value} {xs : List Vl} (h : OwnK w base v xs) : ∃ A c, v = .slice A xs.length c := by
  rcases h.2 with ⟨rfl, hn⟩ | ⟨g, cap, cur, rfl, -⟩
  · exact ⟨none, 0, by rw [hn]⟩
  · exact ⟨_, _, rfl⟩
theorem OwnK.one {w : World} {base : Nat} {v : Value} {xs : List Vl} (h : OwnK w base v xs) : v.oneCell' = true := by
  rcases h.2 with ⟨rfl, -⟩ | ⟨g, cap, cur, rfl, -⟩ <;> rfl
end Go.Proofs.YtemimhghhihllaaGreat
namespace Go.Proofs.YtemimhghhihllaaGreat
open Go.RowKit
theorem entC_at (vs : List Value) (es : List En) (hl : vs.length = es.length) (i : Nat) (hi : i < es.length) (hi' : i < vs.length) (t : Nat) (ht : t < 2) : (entC vs es)[i * 2 + t]? = [vs[i], .int .i64 es[i].id][t]? := by
  unfold entC
  rw [flat_get (sz := 2) _ i t (by rw [List.length_zipWith]; omega) ht (fun c hc => by
    obtain ⟨j, hj, rfl⟩ := List.mem_iff_getElem.1 hc
    rw [List.getElem_zipWith]; rfl), List.getElem_zipWith]
theorem OwnE0.cells {w : World} {base : Nat} {v : Value} {es : List En} {vs : List Value} (h : OwnE0 w base v es vs) :
    (v = .slice none 0 0 ∧ es = []) ∨ ∃ g c, v = .slice (some ⟨g, 0, none⟩) es.length c ∧ es.length ≤ c ∧ c ≤ maxLen ∧ base ≤ g ∧ g < w.heap.size ∧ (∀ off, w.frozen? ⟨g, off, none⟩ = false) ∧ ∀ i (hi : i < es.length) (hi' : i < vs.length), cellsAt w g (0 + i * 2) [vs[i], .int .i64 es[i].id] := by
  rcases h.row.2 with ⟨rfl, hn⟩ | ⟨g, cap, cur, rfl, h1, h2, h3, h4, h5, h6⟩
  · exact Or.inl ⟨rfl, List.length_eq_zero_iff.1 hn⟩
  · refine Or.inr ⟨g, cap, rfl, h3, h4, h1, lt_of_block h2, fun off => by simp [World.frozen?, h2], fun i hi hi' t u hu => ?_⟩
    have ht : t < 2 := by have := (List.getElem?_eq_some_iff.1 hu).1; simpa using this
    have h7 := entC_at vs es h.len i hi hi' t ht
    rw [hu, ← h6, List.getElem?_take, if_pos (by omega)] at h7
    rw [cell_of_row _ _ _ _ _ _ h2, Nat.zero_add, ← Array.getElem?_toList]
    exact h7
theorem OwnE.sl {w : World} {base : Nat} {v : Value} {es : List En} (h : OwnE w base v es) : ∃ A c, v = .slice A es.length c ∧ es.length ≤ c ∧ c ≤ maxLen ∧ Sl EnR 2 (okF base w) w A es.length es := by
  obtain ⟨vs, h⟩ := h
  rcases h.cells with ⟨rfl, rfl⟩ | ⟨g, c, rfl, h1, h2, h3, h4, h5, h6⟩
  · exact ⟨none, 0, rfl, Nat.le_refl _, by simp [maxLen], rfl, fun hn => by simp at hn⟩
  · refine ⟨_, c, rfl, h1, h2, rfl, fun hn => ⟨g, 0, rfl, ⟨h3, h4, h5⟩, fun i hi => ?_⟩⟩
    have hi' : i < vs.length := by rw [h.len]; exact hi
    obtain ⟨A', c', e, k1, k2, k3⟩ := OwnG.sl (f := Vl.cells) (sz := 3) (fun _ => rfl) (h.key i hi hi')
    have h7 := h6 i hi hi'
    rw [e] at h7
    exact ⟨_, rfl, ⟨A', _, c', rfl, k3, k1⟩, h7⟩
def En.marks (e : En) : Nat := e.key.length * 3 + 1
theorem OwnK.fls {w : World} {base : Nat} {v : Value} {xs : List Vl} (h : OwnK w base v xs) (hn : xs.length ≤ 1048576) : ∃ A c, v = .slice A xs.length c ∧ FlS 3 w A xs.length (blk v) := by
  obtain ⟨A, c, rfl, k1, k2, k3⟩ := OwnG.sl (f := Vl.cells) (sz := 3) (fun _ => rfl) h
  refine ⟨A, c, rfl, ?_, hn, fun b hb => ?_, xs.map fun _ => 3, ?_⟩
  · cases A <;> simp [blk, Value.ownBlock]
  · cases A with
    | none => simp [blk, Value.ownBlock] at hb
    | some a =>
      rcases h.2 with ⟨e, -⟩ | ⟨g, cap, cur, e, h1, h2, -⟩
      · cases e
      · cases e
        obtain rfl : b = g := by simpa [blk, Value.ownBlock] using hb
        exact ⟨lt_of_block h2, fun off => by simp [World.frozen?, h2]⟩
  · have k4 : Sl VlR 3 (· ∈ blk (.slice A xs.length c)) w A xs.length xs := ⟨rfl, fun hn => by
      obtain ⟨b, off, e, -, hi⟩ := k3.2 hn
      subst e
      exact ⟨b, off, rfl, by simp [blk, Value.ownBlock], fun i hlt => hi i hlt⟩⟩
    exact Sl.toSh k4 Vl.toSh fun _ _ => trivial
theorem OwnE.sh {w : World} {base : Nat} {v : Value} {es : List En} (h : OwnE w base v es) (hn : es.length ≤ 1048576) (hk : ∀ e ∈ es, e.key.length ≤ 1048576) :
    ∃ A c bs, v = .slice A es.length c ∧ ShL EnS 2 w A es.length (es.map En.marks) bs ∧ ∀ b ∈ bs, base ≤ b := by
  obtain ⟨vs, h⟩ := h
  rcases h.cells with ⟨rfl, rfl⟩ | ⟨g, c, rfl, h1, h2, h3, h4, h5, h6⟩
  · exact ⟨none, 0, [], rfl, ⟨hn, Or.inl ⟨rfl, rfl, rfl⟩⟩, fun b hb => by simp at hb⟩
  · have hg : g ∉ vs.flatMap blk := fun hh => by
      obtain ⟨u, hu, hbu⟩ := List.mem_flatMap.1 hh
      obtain ⟨i, hi, rfl⟩ := List.mem_iff_getElem.1 hu
      have := OwnK.ne h.row (h.key i (by rw [← h.len]; exact hi) hi)
      have hb' : vs[i].ownBlock = some g := by simpa [blk] using hbu
      rcases this with e | e
      · rw [e] at hb'; cases hb'
      · exact e hb'
    refine ⟨_, c, g :: vs.flatMap blk, rfl, ⟨hn, Or.inr ⟨g, 0, vs.map blk, rfl, rfl, by simp, by simp [h.len], List.nodup_cons.2 ⟨hg, h.apart⟩, h4, h5, fun i hi => ?_⟩⟩, fun b hb => ?_⟩
    · have hi' : i < vs.length := by rw [h.len]; exact hi
      obtain ⟨A', c', e, k1⟩ := OwnK.fls (h.key i hi hi') (hk _ (List.getElem_mem hi))
      have h7 := h6 i hi hi'
      refine ⟨_, rfl, ⟨A', es[i].key.length, c', es[i].id, ?_, ?_, ?_⟩, h7⟩
      · rw [e]
      · rw [List.getD_eq_getElem?_getD, List.getElem?_map, List.getElem?_eq_getElem hi]; rfl
      · rw [List.getD_eq_getElem?_getD, List.getElem?_map, List.getElem?_eq_getElem hi']
        exact k1
    · rcases List.mem_cons.1 hb with rfl | hb
      · exact h3
      · obtain ⟨u, hu, hbu⟩ := List.mem_flatMap.1 hb
        obtain ⟨i, hi, rfl⟩ := List.mem_iff_getElem.1 hu
        exact (OwnG.block_lt (h.key i (by rw [← h.len]; exact hi) hi) b (by simpa [blk] using hbu)).1
end Go.Proofs.YtemimhghhihllaaGreat
namespace Go.Proofs.YtemimhghhihllaaGreat
open Go.RowKit
theorem bl_irrefl : ∀ x : List UInt8, Op.bytesLess x x = false
  | [] => rfl
  | a :: x => by simp [Op.bytesLess, bl_irrefl x]
theorem bl_total : ∀ x y : List UInt8, Op.bytesLess x y = true ∨ x = y ∨ Op.bytesLess y x = true
  | [], [] => .inr (.inl rfl)
  | [], _ :: _ => .inl rfl
  | _ :: _, [] => .inr (.inr rfl)
  | a :: x, b :: y => by
    by_cases h : a < b
    · exact .inl (by simp [Op.bytesLess, h])
    by_cases h' : b < a
    · exact .inr (.inr (by simp [Op.bytesLess, h']))
    have e : a = b := by
      apply UInt8.toNat_inj.1
      rw [UInt8.lt_iff_toNat_lt] at h h'
      omega
    subst e
    rcases bl_total x y with k | k | k
    · exact .inl (by simp [Op.bytesLess, k])
    · exact .inr (.inl (by rw [k]))
    · exact .inr (.inr (by simp [Op.bytesLess, k]))
theorem bl_trans : ∀ x y z : List UInt8, Op.bytesLess x y = true → Op.bytesLess y z = true → Op.bytesLess x z = true
  | _, [], _, h, _ => by simp [Op.bytesLess] at h
  | _, _ :: _, [], _, h => by simp [Op.bytesLess] at h
  | [], _ :: _, _ :: _, _, _ => rfl
  | a :: x, b :: y, c :: z, h, k => by
    simp only [Op.bytesLess, Bool.or_eq_true, decide_eq_true_eq, Bool.and_eq_true, beq_iff_eq] at h k ⊢
    rcases h with h | ⟨rfl, h⟩ <;> rcases k with k | ⟨rfl, k⟩
    · left; rw [UInt8.lt_iff_toNat_lt] at *; omega
    · left; exact h
    · left; exact k
    · right; exact ⟨rfl, bl_trans x y z h k⟩
theorem bl_asymm {x y : List UInt8} (h : Op.bytesLess x y = true) : Op.bytesLess y x = false := by
  cases k : Op.bytesLess y x
  · rfl
  · have := bl_trans _ _ _ h k
    rw [bl_irrefl] at this
    exact this.symm
theorem cmpS_cases (x y : ByteArray) : (cmpS x y = -1 ∧ Op.bytesLess x.toList y.toList = true) ∨ (cmpS x y = 0 ∧ x.toList = y.toList) ∨ (cmpS x y = 1 ∧ Op.bytesLess y.toList x.toList = true) := by
  unfold cmpS
  rcases bl_total x.toList y.toList with h | h | h
  · left; simp [h]
  · right; left; rw [h, bl_irrefl]; simp
  · right; right
    have k := bl_asymm h
    have e : ¬ x.toList = y.toList := fun e => by rw [e, bl_irrefl] at h; cases h
    simp [h, k, e]
theorem cmpS_neg (x y : ByteArray) : cmpS y x = -cmpS x y := by
  rcases cmpS_cases x y with ⟨h, h'⟩ | ⟨h, h'⟩ | ⟨h, h'⟩ <;> rcases cmpS_cases y x with ⟨k, k'⟩ | ⟨k, k'⟩ | ⟨k, k'⟩
  · have := bl_asymm h'; rw [k'] at this; cases this
  · rw [k', bl_irrefl] at h'; cases h'
  · omega
  · rw [h', bl_irrefl] at k'; cases k'
  · omega
  · rw [h', bl_irrefl] at k'; cases k'
  · omega
  · rw [k', bl_irrefl] at h'; cases h'
  · have := bl_asymm h'; rw [k'] at this; cases this
theorem cmpS_le {x y z : ByteArray} (h : cmpS x y ≤ 0) (k : cmpS y z ≤ 0) : cmpS x z ≤ 0 ∧ (cmpS x z = 0 → cmpS x y = 0 ∧ cmpS y z = 0) := by
  rcases cmpS_cases x y with ⟨h1, h'⟩ | ⟨h1, h'⟩ | ⟨h1, h'⟩
  · have g : Op.bytesLess x.toList z.toList = true := by
      rcases cmpS_cases y z with ⟨k1, k'⟩ | ⟨k1, k'⟩ | ⟨k1, k'⟩
      · exact bl_trans _ _ _ h' k'
      · rw [← k']; exact h'
      · omega
    have e : cmpS x z = -1 := by simp [cmpS, g]
    omega
  · have e : cmpS x z = cmpS y z := by simp [cmpS, h']
    omega
  · omega
theorem cmpI_neg (x y : Int) : cmpI y x = -cmpI x y := by unfold cmpI; repeat' split <;> omega
theorem cmpI_cases (x y : Int) : (cmpI x y = -1 ∧ x < y) ∨ (cmpI x y = 0 ∧ x = y) ∨ (cmpI x y = 1 ∧ y < x) := by unfold cmpI; repeat' split <;> omega
theorem ordOk_neg (k n : Int) (s : ByteArray) (k' n' : Int) (s' : ByteArray) : ordOk k' n' s' k n s = -ordOk k n s k' n' s' := by
  unfold ordOk
  cases h : valOkB k n s
  · simp
  cases h' : valOkB k' n' s'
  · simp
  simp only [Bool.and_self, if_true]
  rw [← ord_eq h h', ← ord_eq h' h, cmpI_neg k k', cmpI_neg n n', cmpS_neg s s']
  unfold firstNZ; repeat' split <;> omega
theorem ordOk_bd (k n : Int) (s : ByteArray) (k' n' : Int) (s' : ByteArray) : -1 ≤ ordOk k n s k' n' s' ∧ ordOk k n s k' n' s' ≤ 1 := by
  unfold ordOk ordV; split <;> (try split) <;> (try split) <;> omega
theorem ordOk_le {k n : Int} {s : ByteArray} {k' n' : Int} {s' : ByteArray} {k2 n2 : Int} {s2 : ByteArray} (h : valOkB k n s = true) (h' : valOkB k' n' s' = true) (h2 : valOkB k2 n2 s2 = true)
    (a : ordOk k n s k' n' s' ≤ 0) (b : ordOk k' n' s' k2 n2 s2 ≤ 0) : ordOk k n s k2 n2 s2 ≤ 0 := by
  unfold ordOk at *
  simp only [h, h', h2, Bool.and_self, if_true] at a b ⊢
  rw [← ord_eq h h'] at a
  rw [← ord_eq h' h2] at b
  rw [← ord_eq h h2]
  unfold firstNZ at *
  rcases cmpI_cases k k' with ⟨x, x'⟩ | ⟨x, x'⟩ | ⟨x, x'⟩ <;> rcases cmpI_cases k' k2 with ⟨y, y'⟩ | ⟨y, y'⟩ | ⟨y, y'⟩ <;> rcases cmpI_cases k k2 with ⟨z, z'⟩ | ⟨z, z'⟩ | ⟨z, z'⟩ <;> simp [x, y, z] at a b ⊢ <;> try omega
  rcases cmpI_cases n n' with ⟨x, x'⟩ | ⟨x, x'⟩ | ⟨x, x'⟩ <;> rcases cmpI_cases n' n2 with ⟨y, y'⟩ | ⟨y, y'⟩ | ⟨y, y'⟩ <;> rcases cmpI_cases n n2 with ⟨z, z'⟩ | ⟨z, z'⟩ | ⟨z, z'⟩ <;> simp [x, y, z] at a b ⊢ <;> try omega
  exact (cmpS_le a b).1
def ordX (x y : Vl) : Int := ordOk x.k x.n x.s y.k y.n y.s
def ordL : List Vl → List Vl → Int
  | [], [] => 0
  | [], _ :: _ => -1
  | _ :: _, [] => 1
  | x :: a, y :: b => if ordX x y = 0 then ordL a b else ordX x y
def ordE (a b : En) : Int := if ordL a.key b.key = 0 then cmpI a.id b.id else ordL a.key b.key
def entryB (e : En) : Bool := decide (1 ≤ e.key.length) && (rowB e.key && (decide (1 ≤ e.id) && decide (e.id ≤ 1000000000)))
def wideOf (l : List En) : Nat := ((l[0]?).map fun e => e.key.length).getD 0
def entW (n : Nat) (e : En) : Bool := entryB e && decide (e.key.length = n)
def upB (l : List En) (i : Nat) : Bool := match l[i]?, l[i + 1]? with
  | some a, some b => decide (ordE a b < 0)
  | _, _ => true
def risesB (l : List En) : Bool := (List.range l.length).all (upB l)
def entriesB (l : List En) : Bool := decide (l.length ≤ 120) && (l.all (entW (wideOf l)) && risesB l)
theorem ordX_bd (x y : Vl) : -1 ≤ ordX x y ∧ ordX x y ≤ 1 := ordOk_bd _ _ _ _ _ _
theorem ordX_neg (x y : Vl) : ordX y x = -ordX x y := ordOk_neg _ _ _ _ _ _
theorem ordL_bd : ∀ a b : List Vl, -1 ≤ ordL a b ∧ ordL a b ≤ 1
  | [], [] => by simp [ordL]
  | [], _ :: _ => by simp [ordL]
  | _ :: _, [] => by simp [ordL]
  | x :: a, y :: b => by
    unfold ordL
    split
    · exact ordL_bd a b
    · exact ordX_bd x y
theorem ordL_at {a b : List Vl} {k : Nat} (h : k < a.length) (h' : k < b.length) : ordL (a.drop k) (b.drop k) = if ordX a[k] b[k] = 0 then ordL (a.drop (k + 1)) (b.drop (k + 1)) else ordX a[k] b[k] := by
  rw [List.drop_eq_getElem_cons h, List.drop_eq_getElem_cons h']; rfl
theorem ordL_end {a b : List Vl} {k : Nat} (h : k < a.length) (h' : b.length ≤ k) : ordL (a.drop k) (b.drop k) = 1 := by
  rw [List.drop_eq_getElem_cons h, List.drop_of_length_le h']; rfl
theorem ordL_off {a b : List Vl} {k : Nat} (h : a.length ≤ k) (h' : k < b.length) : ordL (a.drop k) (b.drop k) = -1 := by
  rw [List.drop_of_length_le h, List.drop_eq_getElem_cons h']; rfl
theorem ordL_both {a b : List Vl} {k : Nat} (h : a.length ≤ k) (h' : b.length ≤ k) : ordL (a.drop k) (b.drop k) = 0 := by
  rw [List.drop_of_length_le h, List.drop_of_length_le h']; rfl
theorem upB_at {l : List En} {i : Nat} (h : i + 1 < l.length) : upB l i = decide (ordE l[i] l[i + 1] < 0) := by
  unfold upB
  rw [List.getElem?_eq_getElem (by omega), List.getElem?_eq_getElem h]
theorem entriesB_in {l : List En} (h : entriesB l = true) : l.length ≤ 120 ∧ (∀ e ∈ l, entryB e = true ∧ e.key.length = wideOf l) ∧ risesB l = true := by
  unfold entriesB at h
  simp only [Bool.and_eq_true, decide_eq_true_eq, List.all_eq_true, entW] at h
  exact ⟨h.1, h.2.1, h.2.2⟩
theorem wideOf_at {l : List En} (h : 0 < l.length) : wideOf l = l[0].key.length := by
  unfold wideOf
  rw [List.getElem?_eq_getElem h]; rfl
end Go.Proofs.YtemimhghhihllaaGreat
namespace Go.Proofs.YtemimhghhihllaaGreat
open Go.RowKit Go.Maps
set_option maxHeartbeats 1000000 in
theorem implOrderOf (x y : Vl) (w : World) :
    Calls Tryz.prog 119 #[.agg #[.int .i64 x.k, .int .i64 x.n, .string x.s], .agg #[.int .i64 y.k, .int .i64 y.n, .string y.s]] w fun e w' => e = .returned (.int .i64 (ordX x y)) ∧ Below w.heap.size w w' := by
  have hb0 := chain2 w (.cells #[.int .i64 x.k, .int .i64 x.n, .string x.s] 93) (.cells #[.int .i64 y.k, .int .i64 y.n, .string y.s] 93)
  have HB := Lib.hid hb0
  clear hb0
  go_enter Tryz.func119, Tryz.ntmps119
  go_wp2_with fail
  refine (implOrder x.k x.n x.s y.k y.n y.s _).mono ?_
  rintro e w1 ⟨rfl, hb1⟩
  go_wp2_with fail
  go_ret
  exact ⟨rfl, HB.out.trans (hb1.mono HB.out.size)⟩
set_option maxRecDepth 100000 in
set_option maxHeartbeats 2000000 in
theorem implCmpVals (A B : Option Addr) (n m c d : Nat) (a b : List Vl) (ok ok' : Nat → Prop) (w : World) (ha : Sl VlR 3 ok w A n a) (hb : Sl VlR 3 ok' w B m b) (hn : n ≤ 1048576) (hm : m ≤ 1048576) :
    Calls Tryz.prog 118 #[.slice A n c, .slice B m d, .func (.func 119) #[] #[]] w fun e w' => e = .returned (.int .i64 (ordL a b)) ∧ Below w.heap.size w w' := by
  obtain rfl : a.length = n := ha.1
  obtain rfl : b.length = m := hb.1
  go_enter Tryz.func118, Tryz.ntmps118
  go_wp2_with fail
  go_loopw [13] (fun i wr => ∃ k : Nat, k ≤ a.length ∧ i = .int .i64 k ∧ Hid (k ≤ b.length) ∧ Hid (ordL (a.drop k) (b.drop k) = ordL a b) ∧ Below w.heap.size w wr) (fun i _ => a.length - (intOf i).toNat)
  case atStart => exact ⟨0, by omega, rfl, Lib.hid (by omega), Lib.hid (by simp), Below.refl _ _⟩
  case round =>
    obtain ⟨k, hk, rfl, hkb, hord, hbw⟩ := hrel
    by_cases hlt : k < a.length
    · obtain ⟨b1, o1, -, rfl, q0, q1, q2⟩ := VlR.at_ (ha.below VlR.stays hbw) hlt
      have i0 : (0 : Int) ≤ k := by omega
      have i1 : (k : Int) < a.length := by omega
      have hx1 := hbw.alloc hbw.size (.cells #[.int .i64 a[k].k, .int .i64 a[k].n, .string a[k].s] 93)
      by_cases hl2 : k < b.length
      case neg =>
        have z : decide ((b.length : Int) ≤ k) = true := decide_eq_true (by omega)
        have z' : decide (b.length ≤ k) = true := decide_eq_true (by omega)
        have HR := Lib.hid (show ordL a b = 1 by rw [← hord.out]; exact ordL_end hlt (by omega))
        clear hord
        go_wp2_with fail
        go_ret
        exact ⟨retI HR.out.symm, hx1⟩
      have z : decide ((b.length : Int) ≤ k) = false := decide_eq_false (by omega)
      have z' : decide (b.length ≤ k) = false := decide_eq_false (by omega)
      obtain ⟨b2, o2, -, rfl, r0, r1, r2⟩ := VlR.at_ (hb.below VlR.stays hx1) hl2
      have i2 : (k : Int) < b.length := by omega
      have HB2 := Lib.hid (hx1.alloc hx1.size (.cells #[.int .i64 b[k].k, .int .i64 b[k].n, .string b[k].s] 93))
      have HO := Lib.hid (hord.out.symm.trans (ordL_at hlt hl2))
      clear hord hx1
      go_wp2_with fail
      refine (implOrderOf a[k] b[k] _).mono ?_
      rintro e w3 ⟨rfl, hb3⟩
      have hz := HB2.out.trans (hb3.mono HB2.out.size)
      by_cases h0 : ordX a[k] b[k] = 0
      · have z0 : (ordX a[k] b[k] != 0) = false := by simpa using h0
        have HA := Lib.hid (show ordL (a.drop (k + 1)) (b.drop (k + 1)) = ordL a b by rw [HO.out, if_pos h0])
        clear h0
        go_wp2_with fail
        go_roundw
        case rel => exact ⟨k + 1, by omega, by go_num, Lib.hid (by omega), HA, hz⟩
        case measure => simp [intOf]; omega
      · have z0 : (ordX a[k] b[k] != 0) = true := by simpa using h0
        have HA := Lib.hid (show ordL a b = ordX a[k] b[k] by rw [HO.out, if_neg h0])
        clear h0
        go_wp2_with fail
        go_ret
        exact ⟨retI HA.out.symm, hz⟩
    · obtain rfl : k = a.length := by omega
      by_cases hl2 : a.length < b.length
      · have z : decide (a.length < b.length) = true := decide_eq_true hl2
        have HR := Lib.hid (show ordL a b = -1 by rw [← hord.out]; exact ordL_off (Nat.le_refl _) hl2)
        clear hord
        go_wp2_with fail
        go_ret
        exact ⟨retI HR.out.symm, hbw⟩
      · have z : decide (a.length < b.length) = false := decide_eq_false hl2
        have HR := Lib.hid (show ordL a b = 0 by rw [← hord.out]; exact ordL_both (Nat.le_refl _) (by omega))
        clear hord
        go_wp2_with fail
        go_ret
        exact ⟨retI HR.out.symm, hbw⟩
def first2 (x y : Int) : Int := if x = 0 then y else x
set_option maxHeartbeats 1000000 in
theorem cmpOr2 (b : Nat) (x y : Int) (w : World) (h0 : w.cell? ⟨b, 0, none⟩ = some (.int .i64 x)) (h1 : w.cell? ⟨b, 1, none⟩ = some (.int .i64 y)) :
    Calls Tryz.prog 117 #[.slice (some ⟨b, 0, none⟩) 2 2] w fun e w' => e = .returned (.int .i64 (first2 x y)) ∧ w = w' := by
  by_cases hx : x = 0
  · subst hx
    by_cases hy : y = 0
    · subst hy
      rw [show first2 0 0 = 0 by decide]
      go_enter Tryz.func117, Tryz.ntmps117
      go_wp2
      refine wp_loop_rounds 4 ?_
      rw [rounds_succ]
      go_wp2
      rw [rounds_succ]
      go_wp2
      rw [rounds_succ]
      go_wp2
      go_ret
      exact ⟨rfl, rfl⟩
    · rw [show first2 0 y = y by simp [first2]]
      have hy' : (y != 0) = true := by simpa using hy
      go_enter Tryz.func117, Tryz.ntmps117
      go_wp2
      refine wp_loop_rounds 4 ?_
      rw [rounds_succ]
      go_wp2
      rw [rounds_succ]
      go_wp2
      go_ret
      exact ⟨rfl, rfl⟩
  · rw [show first2 x y = x by simp [first2, hx]]
    have hx' : (x != 0) = true := by simpa using hx
    go_enter Tryz.func117, Tryz.ntmps117
    go_wp2
    refine wp_loop_rounds 4 ?_
    rw [rounds_succ]
    go_wp2
    go_ret
    exact ⟨rfl, rfl⟩
end Go.Proofs.YtemimhghhihllaaGreat
namespace Go.Proofs.YtemimhghhihllaaGreat
open Go.RowKit Go.Maps
theorem run_store_fnE (P : Program) (w : World) (a : Addr) (m : Mode) (f : Fn) (x y : Array Value) : (store a (.func f x y) m).run P w = stored P w a (.func f x y) m := run_store P w a _ m rfl
attribute [local go_sem] run_store_fnE
theorem two_rows (w : World) (T : TypeId) (cs cs' : Array Value) : Row ((w.alloc (.cells cs T)).alloc (.cells cs' T)) w.heap.size T cs ∧ Row ((w.alloc (.cells cs T)).alloc (.cells cs' T)) (w.heap.size + 1) T cs' :=
  ⟨(Row.new w T cs).alloc _, Row.newAt (w.alloc (.cells cs T)) T cs' (w.heap.size + 1) (by simp)⟩
theorem keepC4 {w w' : World} {p q r s : Addr} {a b c d : Value} (h : w.cell? p = some a ∧ w.cell? q = some b ∧ w.cell? r = some c ∧ w.cell? s = some d) (hb : Below w.heap.size w w') : w'.cell? p = some a ∧ w'.cell? q = some b ∧ w'.cell? r = some c ∧ w'.cell? s = some d :=
  ⟨below_keep hb _ _ h.1, below_keep hb _ _ h.2.1, below_keep hb _ _ h.2.2.1, below_keep hb _ _ h.2.2.2⟩
theorem keepC8 {w w' : World} {p q r s t u v x : Addr} {a b c d e f g h' : Value} (h : w.cell? p = some a ∧ w.cell? q = some b ∧ w.cell? r = some c ∧ w.cell? s = some d ∧ w.cell? t = some e ∧ w.cell? u = some f ∧ w.cell? v = some g ∧ w.cell? x = some h') (hb : Below w.heap.size w w') : w'.cell? p = some a ∧ w'.cell? q = some b ∧ w'.cell? r = some c ∧ w'.cell? s = some d ∧ w'.cell? t = some e ∧ w'.cell? u = some f ∧ w'.cell? v = some g ∧ w'.cell? x = some h' :=
  ⟨below_keep hb _ _ h.1, below_keep hb _ _ h.2.1, below_keep hb _ _ h.2.2.1, below_keep hb _ _ h.2.2.2.1, below_keep hb _ _ h.2.2.2.2.1, below_keep hb _ _ h.2.2.2.2.2.1, below_keep hb _ _ h.2.2.2.2.2.2.1, below_keep hb _ _ h.2.2.2.2.2.2.2⟩
set_option maxRecDepth 100000 in
set_option maxHeartbeats 2000000 in
theorem implOrderEntries (x y : En) (A B : Option Addr) (n c m d : Nat) (ok ok' : Nat → Prop) (w : World) (ha : Sl VlR 3 ok w A n x.key) (hb : Sl VlR 3 ok' w B m y.key) (hn : n ≤ 1048576) (hm : m ≤ 1048576) :
    Calls Tryz.prog 68 #[.agg #[.slice A n c, .int .i64 x.id], .agg #[.slice B m d, .int .i64 y.id]] w fun e w' => e = .returned (.int .i64 (ordE x y)) ∧ Below w.heap.size w w' := by
  have hb0 := chain2 w (.cells #[.slice A n c, .int .i64 x.id] 135) (.cells #[.slice B m d, .int .i64 y.id] 135)
  have hr := two_rows w 135 #[.slice A n c, .int .i64 x.id] #[.slice B m d, .int .i64 y.id]
  obtain ⟨⟨k0, k1⟩, -⟩ := hr.1.all2
  obtain ⟨⟨g0, g1⟩, -⟩ := hr.2.all2
  have HA := Lib.hid (Sl.below VlR.stays (ha.below VlR.stays hb0) (Below.refl _ _).drew)
  have HC := Lib.hid (Sl.below VlR.stays (hb.below VlR.stays hb0) (Below.refl _ _).drew)
  have HB := Lib.hid hb0
  clear hb0 hr ha hb
  go_enter Tryz.func68, Tryz.ntmps68
  go_wp2_with fail
  generalize (w.alloc (.cells #[.slice A n c, .int .i64 x.id] 135)).alloc (.cells #[.slice B m d, .int .i64 y.id] 135) = z0 at *
  go_region_held3 (fun w' => w'.cell? ⟨w.heap.size, 0, none⟩ = some (.slice A n c) ∧ w'.cell? ⟨w.heap.size, 1, none⟩ = some (.int .i64 x.id) ∧ w'.cell? ⟨w.heap.size + 1, 0, none⟩ = some (.slice B m d) ∧ w'.cell? ⟨w.heap.size + 1, 1, none⟩ = some (.int .i64 y.id))
    (first | go_keep | exact keepC4 (by assumption) hq3)
    (first | (go_at_call 120; refine (cmpInt _ _ _).mono ?_; rintro e w3 ⟨rfl, rfl⟩) | (go_at_call 118; refine (implCmpVals A B n m c d x.key y.key _ _ _ HA.out HC.out hn hm).mono ?_; rintro e w3 ⟨rfl, hq3⟩) | (go_at_call 117; refine Calls.mono (cmpOr2 _ (ordL x.key y.key) (cmpI x.id y.id) _ ?_ ?_) ?_; simp; simp; rintro e w4 ⟨rfl, rfl⟩))
  have hz := HB.out.drew.trans (hq3.mono HB.out.drew.size)
  go_wp2
  go_ret
  exact ⟨rfl, by first | exact hz.alloc hz.size _ | exact (hz.alloc hz.size _).drew⟩
end Go.Proofs.YtemimhghhihllaaGreat
namespace Go.Proofs.YtemimhghhihllaaGreat
open Go.RowKit Go.Maps
def ordY (x y : Vl) : Int := ordV x.k x.n x.s y.k y.n y.s
def ltL : List Vl → List Vl → Option Bool
  | x :: a, y :: b => if ordY x y = 0 then ltL a b else some (decide (ordY x y < 0))
  | _, _ => none
def lessE (a b : En) : Bool := (ltL a.key b.key).getD (decide (a.id < b.id))
theorem ltL_at {a b : List Vl} {k : Nat} (h : k < a.length) (h' : k < b.length) : ltL (a.drop k) (b.drop k) = if ordY a[k] b[k] = 0 then ltL (a.drop (k + 1)) (b.drop (k + 1)) else some (decide (ordY a[k] b[k] < 0)) := by
  rw [List.drop_eq_getElem_cons h, List.drop_eq_getElem_cons h']; rfl
theorem ltL_endA {a b : List Vl} {k : Nat} (h : a.length ≤ k) : ltL (a.drop k) (b.drop k) = none := by
  rw [List.drop_of_length_le h]; rfl
theorem ltL_endB {a b : List Vl} {k : Nat} (h : b.length ≤ k) : ltL (a.drop k) (b.drop k) = none := by
  rw [List.drop_of_length_le h]; cases a.drop k <;> rfl
theorem ordX_right {x y : Vl} (h : x.ok = true) (h' : y.ok = true) : ordX x y = ordY x y := by
  unfold ordX ordY ordOk
  have e1 : valOkB x.k x.n x.s = true := h
  have e2 : valOkB y.k y.n y.s = true := h'
  rw [e1, e2]; rfl
theorem ltL_right : ∀ {a b : List Vl}, (∀ x ∈ a, x.ok = true) → (∀ x ∈ b, x.ok = true) → a.length = b.length → ltL a b = if ordL a b = 0 then none else some (decide (ordL a b < 0))
  | [], [], _, _, _ => rfl
  | [], _ :: _, _, _, h => by simp at h
  | _ :: _, [], _, _, h => by simp at h
  | x :: a, y :: b, h1, h2, h3 => by
    have e := ordX_right (h1 x (by simp)) (h2 y (by simp))
    unfold ltL ordL
    rw [e]
    by_cases h0 : ordY x y = 0
    · rw [if_pos h0, if_pos h0]
      exact ltL_right (fun z hz => h1 z (by simp [hz])) (fun z hz => h2 z (by simp [hz])) (by simpa using h3)
    · rw [if_neg h0, if_neg h0, if_neg h0]
theorem rowB_all {l : List Vl} (h : rowB l = true) : ∀ x ∈ l, x.ok = true := by
  unfold rowB at h
  simp only [Bool.and_eq_true, List.all_eq_true] at h
  exact h.2
theorem entryB_row {e : En} (h : entryB e = true) : rowB e.key = true := by
  unfold entryB at h
  simp only [Bool.and_eq_true] at h
  exact h.2.1
theorem lessE_right {a b : En} (h : entryB a = true) (h' : entryB b = true) (hl : a.key.length = b.key.length) : lessE a b = decide (ordE a b < 0) := by
  unfold lessE ordE
  rw [ltL_right (rowB_all (entryB_row h)) (rowB_all (entryB_row h')) hl]
  by_cases h0 : ordL a.key b.key = 0
  · rw [if_pos h0, if_pos h0]
    rcases cmpI_cases a.id b.id with ⟨e, e'⟩ | ⟨e, e'⟩ | ⟨e, e'⟩ <;> simp [e] <;> omega
  · rw [if_neg h0, if_neg h0]; rfl
set_option maxRecDepth 100000 in
set_option maxHeartbeats 4000000 in
theorem specL11Less (x y : En) (A B : Option Addr) (n c m d : Nat) (ok ok' : Nat → Prop) (w : World) (ha : Sl VlR 3 ok w A n x.key) (hb : Sl VlR 3 ok' w B m y.key) (hn : n ≤ 1048576) (hm : m ≤ 1048576) :
    Calls Tryz.prog 163 #[.agg #[.slice A n c, .int .i64 x.id], .agg #[.slice B m d, .int .i64 y.id]] w fun e w' => e = .returned (.bool (lessE x y)) ∧ Below w.heap.size w w' := by
  obtain rfl : x.key.length = n := ha.1
  obtain rfl : y.key.length = m := hb.1
  have hb0 := chain2 w (.cells #[.slice A x.key.length c, .int .i64 x.id] 135) (.cells #[.slice B y.key.length d, .int .i64 y.id] 135)
  have hr := two_rows w 135 #[.slice A x.key.length c, .int .i64 x.id] #[.slice B y.key.length d, .int .i64 y.id]
  obtain ⟨r1, r2⟩ := hr
  go_enter Tryz.func163, Tryz.ntmps163
  go_wp2_with fail
  generalize (w.alloc (.cells #[.slice A x.key.length c, .int .i64 x.id] 135)).alloc (.cells #[.slice B y.key.length d, .int .i64 y.id] 135) = z0 at *
  go_loopw [5] (fun i wr => ∃ k : Nat, i = .int .i64 k ∧ Hid (k ≤ x.key.length ∧ k ≤ y.key.length) ∧ Hid (ltL (x.key.drop k) (y.key.drop k) = ltL x.key y.key) ∧ Row wr w.heap.size 135 #[.slice A x.key.length c, .int .i64 x.id] ∧ Row wr (w.heap.size + 1) 135 #[.slice B y.key.length d, .int .i64 y.id] ∧ Below w.heap.size w wr) (fun i _ => x.key.length - (intOf i).toNat)
  case atStart => exact ⟨0, rfl, Lib.hid (by omega), Lib.hid (by simp), r1, r2, hb0⟩
  case round =>
    clear hb0 r1 r2
    obtain ⟨k, rfl, hkk, hord, r1, r2, hbw⟩ := hrel
    obtain ⟨⟨k0, k1⟩, -⟩ := r1.all2
    obtain ⟨⟨g0, g1⟩, -⟩ := r2.all2
    have R1 := Lib.hid r1
    have R2 := Lib.hid r2
    clear r1 r2
    by_cases hlt : k < x.key.length
    case neg =>
      have z : decide (k < x.key.length) = false := decide_eq_false hlt
      have HF := Lib.hid (show lessE x y = decide (x.id < y.id) by unfold lessE; rw [← hord.out, ltL_endA (by omega)]; rfl)
      clear hord hkk
      go_wp2_with fail
      go_ret
      exact ⟨retB HF.out.symm, hbw⟩
    have z : decide (k < x.key.length) = true := decide_eq_true hlt
    by_cases hl2 : k < y.key.length
    case neg =>
      have z' : decide (k < y.key.length) = false := decide_eq_false hl2
      have HF := Lib.hid (show lessE x y = decide (x.id < y.id) by unfold lessE; rw [← hord.out, ltL_endB (by omega)]; rfl)
      clear hord hkk
      go_wp2_with fail
      go_ret
      exact ⟨retB HF.out.symm, hbw⟩
    have z' : decide (k < y.key.length) = true := decide_eq_true hl2
    obtain ⟨b1, o1, -, rfl, q0, q1, q2⟩ := VlR.at_ (ha.below VlR.stays hbw) hlt
    obtain ⟨b2, o2, -, rfl, p0, p1, p2⟩ := VlR.at_ (hb.below VlR.stays hbw) hl2
    have i0 : (0 : Int) ≤ k := by omega
    have i1 : (k : Int) < x.key.length := by omega
    have i2 : (k : Int) < y.key.length := by omega
    have HO := Lib.hid (hord.out.symm.trans (ltL_at hlt hl2))
    have HK := Lib.hid (show k + 1 ≤ x.key.length ∧ k + 1 ≤ y.key.length by omega)
    have hx : x.key.length - (k + 1) < x.key.length - k := by omega
    clear hord hkk
    go_wp2_with fail
    go_region_held3 (fun w' => w'.cell? ⟨w.heap.size, 0, none⟩ = some (.slice (some ⟨b1, o1, none⟩) x.key.length c) ∧ w'.cell? ⟨w.heap.size + 1, 0, none⟩ = some (.slice (some ⟨b2, o2, none⟩) y.key.length d) ∧ w'.cell? ⟨b1, o1 + k * 3, none⟩ = some (.int .i64 x.key[k].k) ∧ w'.cell? ⟨b1, o1 + k * 3 + 1, none⟩ = some (.int .i64 x.key[k].n) ∧ w'.cell? ⟨b1, o1 + k * 3 + 2, none⟩ = some (.string x.key[k].s) ∧ w'.cell? ⟨b2, o2 + k * 3, none⟩ = some (.int .i64 y.key[k].k) ∧ w'.cell? ⟨b2, o2 + k * 3 + 1, none⟩ = some (.int .i64 y.key[k].n) ∧ w'.cell? ⟨b2, o2 + k * 3 + 2, none⟩ = some (.string y.key[k].s))
      (first | go_keep | exact ⟨k0, g0, q0, q1, q2, p0, p1, p2⟩ | exact keepC8 (by assumption) hq3)
      (first | (go_at_call 194; refine (specL1Order x.key[k].k x.key[k].n x.key[k].s y.key[k].k y.key[k].n y.key[k].s _).mono ?_; rintro e w3 ⟨rfl, hq3⟩))
    have hz := hbw.drew.trans (hq3.mono hbw.drew.size)
    have R13 := Lib.hid (R1.out.drew.below hq3)
    have R23 := Lib.hid (R2.out.drew.below hq3)
    by_cases h0 : ordY x.key[k] y.key[k] = 0
    · have HA := Lib.hid (show ltL (x.key.drop (k + 1)) (y.key.drop (k + 1)) = ltL x.key y.key by rw [HO.out, if_pos h0])
      have z0 : (ordV x.key[k].k x.key[k].n x.key[k].s y.key[k].k y.key[k].n y.key[k].s != 0) = false := by have h1 : ordV x.key[k].k x.key[k].n x.key[k].s y.key[k].k y.key[k].n y.key[k].s = 0 := h0; simpa using h1
      clear h0
      go_wp2_with fail
      go_roundw
      case rel => exact ⟨k + 1, by go_num, HK, HA, R13.out, R23.out, hz⟩
      case measure => simp [intOf]; omega
    · have HA := Lib.hid (show lessE x y = decide (ordV x.key[k].k x.key[k].n x.key[k].s y.key[k].k y.key[k].n y.key[k].s < 0) by unfold lessE; rw [HO.out, if_neg h0]; rfl)
      have z0 : (ordV x.key[k].k x.key[k].n x.key[k].s y.key[k].k y.key[k].n y.key[k].s != 0) = true := by have h1 : ¬ ordV x.key[k].k x.key[k].n x.key[k].s y.key[k].k y.key[k].n y.key[k].s = 0 := h0; simpa using h1
      clear h0
      go_wp2_with fail
      go_ret
      exact ⟨retB HA.out.symm, hz⟩
end Go.Proofs.YtemimhghhihllaaGreat
namespace Go.Proofs.YtemimhghhihllaaGreat
open Go.RowKit
theorem infoEntC : (Tryz.prog.info? 135).map (fun i => (i.zero, i.size, i.bytes)) = some (some (.agg #[.slice none 0 0, .int .i64 0]), 2, 32) := by kernel_rfl
theorem OwnE0.below {w w' : World} {base : Nat} {v : Value} {es : List En} {vs : List Value} (h : OwnE0 w base v es vs) (hb : Below w.heap.size w w') : OwnE0 w' base v es vs :=
  ⟨h.len, ownsRow_below h.row hb, fun i hi hi' => OwnG.below (h.key i hi hi') hb, h.apart⟩
theorem OwnE0.fresh {w w1 : World} {base base1 : Nat} {v k : Value} {es : List En} {vs : List Value} {xs : List Vl} (h : OwnE0 w base v es vs) (hk : OwnK w1 base1 k xs) (hb : w.heap.size ≤ base1) : ∀ b ∈ blk k, b ∉ vs.flatMap blk := fun b hb' hh => by
  obtain ⟨u, hu, hbu⟩ := List.mem_flatMap.1 hh
  obtain ⟨i, hi, rfl⟩ := List.mem_iff_getElem.1 hu
  have h1 := (OwnG.block_lt hk b (by simpa [blk] using hb')).1
  have h2 := (OwnG.block_lt (h.key i (by rw [← h.len]; exact hi) hi) b (by simpa [blk] using hbu)).2
  omega
end Go.Proofs.YtemimhghhihllaaGreat
namespace Go.Proofs.YtemimhghhihllaaGreat
open Go.RowKit Go.Maps
theorem infoValK : (Tryz.prog.info? 93).map (fun i => (i.zero, i.size, i.bytes)) = some (some (.agg #[.int .i64 0, .int .i64 0, .string ⟨#[]⟩]), 3, 32) := by kernel_rfl
def OwnV (w : World) (base : Nat) (v : Value) (xs : List Vl) : Prop := OwnG 93 3 Vl.cells w base v xs
theorem implPlaceK {p nc : Int} {b : Bool} (h : (decide (0 ≤ p) && decide (p < nc)) = b) (w : World) : Calls Tryz.prog 48 #[.int .i64 p, .int .i64 nc] w fun e w' => e = .returned (.bool b) ∧ w = w' := by
  subst h
  by_cases h0 : 0 ≤ p
  · have h0' : decide (0 ≤ p) = true := decide_eq_true h0
    go_enter Tryz.func48, Tryz.ntmps48
    go_wp2
    go_ret
    exact ⟨by simp [h0'], rfl⟩
  · have h0' : decide (0 ≤ p) = false := decide_eq_false h0
    go_enter Tryz.func48, Tryz.ntmps48
    go_wp2
    go_ret
    exact ⟨by simp [h0'], rfl⟩
theorem not_all_of {cols : List Int} {vals : List Vl} {k : Nat} (h : k < cols.length) (hf : inV vals cols[k] = false) : keyOk cols vals = false := by
  unfold keyOk
  rw [Bool.and_eq_false_iff]
  refine Or.inr ?_
  rw [List.all_eq_false]
  exact ⟨cols[k], List.getElem_mem h, by simp [hf]⟩
def MadeFO (xs : List Vl) (b : Bool) (w : World) (e : Ending) (w' : World) : Prop := ∃ v, e = .returned (.tuple #[v, .bool b]) ∧ OwnV w' w.heap.size v xs ∧ Below w.heap.size w w'
theorem ownV_of_laid {w : World} {base g : Nat} {cs : Array Value} {xs : List Vl} {ok : Nat → Prop} {k : Nat} (hr : Row w g 93 cs) (hb : base ≤ g) (hs : cs.size = xs.length * 3) (hm : xs.length ≤ maxLen) (h : LaidR VlR 3 ok w cs k xs) (hk : xs.length ≤ k) : OwnV w base (.slice (some ⟨g, 0, none⟩) xs.length xs.length) xs := by
  have e : cs.toList = (xs.map Vl.cells).flatten := by
    apply List.ext_getElem?
    intro p
    have hfl : ((xs.map Vl.cells).flatten).length = xs.length * 3 := by rw [flat_len (sz := 3) _ (fun c hc => by obtain ⟨v, -, rfl⟩ := List.mem_map.1 hc; rfl), List.length_map]
    by_cases hp : p < xs.length * 3
    · have hi : p / 3 < xs.length := by omega
      obtain ⟨c, h1, h2, h3⟩ := h (p / 3) hi (by omega)
      have h2' : c = Vl.cells xs[p / 3] := h2
      subst h2'
      have h4 := flat_get (sz := 3) (xs.map Vl.cells) (p / 3) (p % 3) (by rw [List.length_map]; exact hi) (by omega) (fun c hc => by obtain ⟨v, -, rfl⟩ := List.mem_map.1 hc; rfl)
      have hpe : p / 3 * 3 + p % 3 = p := by omega
      rw [hpe, List.getElem_map] at h4
      rw [h4, Array.getElem?_toList]
      have hlt : p % 3 < (Vl.cells xs[p / 3]).length := by rw [h1]; omega
      have h5 := h3 (p % 3) _ (List.getElem?_eq_getElem hlt)
      rw [hpe] at h5
      rw [h5, List.getElem?_eq_getElem hlt]
    · rw [List.getElem?_eq_none (by rw [Array.length_toList]; omega), List.getElem?_eq_none (by omega)]
  refine ⟨?_, .inr ⟨g, xs.length, cs, rfl, hb, hr, Nat.le_refl _, hm, by omega, ?_⟩⟩
  · rw [flat_len (sz := 3) _ (fun c hc => by obtain ⟨v, -, rfl⟩ := List.mem_map.1 hc; rfl), List.length_map]
  · rw [← e, List.take_of_length_le (by rw [Array.length_toList]; omega)]
set_option maxRecDepth 100000 in
set_option maxHeartbeats 2000000 in
theorem implKeyOfO (AC AV : Option Addr) (nC cC nV cV : Nat) (cols : List Int) (vals : List Vl) (ok ok' : Nat → Prop) (w : World) (hc : Sl IntR 1 ok w AC nC cols) (hv : Sl VlR 3 ok' w AV nV vals) (hcn : nC ≤ 1048576) (hvn : nV ≤ 1048576) :
    Calls Tryz.prog 69 #[.slice AC nC cC, .slice AV nV cV] w (MadeFO (keyOf cols vals) (keyFl cols vals) w) := by
  obtain rfl : cols.length = nC := hc.1
  obtain rfl : vals.length = nV := hv.1
  cases hB : rowB vals
  · have HB := Lib.hid hB
    have HK := Lib.hid (show keyOf cols vals = [] ∧ keyFl cols vals = false by unfold keyOf keyFl keyOk; rw [hB]; exact ⟨rfl, rfl⟩)
    clear hB
    go_enter Tryz.func69, Tryz.ntmps69
    go_wp2_with fail
    refine (implSeenOk AV vals.length cV vals _ (Sl.cellz (fun _ => rfl) hv) (by unfold maxLen; omega)).mono ?_
    rintro e w1 ⟨rfl, hb1⟩
    rw [HB.out]
    go_wp2_with fail
    go_ret2
    exact ⟨_, by rw [HK.out.2]; rfl, by rw [HK.out.1]; exact OwnG.nil _ _, hb1⟩
  have HB := Lib.hid hB
  clear hB
  have hmk := fun w => mk_rows (P := Tryz.prog) Tryz.underlying34 infoValK (by omega) cols.length hcn w
  go_enter Tryz.func69, Tryz.ntmps69
  go_wp2_with fail
  refine (implSeenOk AV vals.length cV vals _ (Sl.cellz (fun _ => rfl) hv) (by unfold maxLen; omega)).mono ?_
  rintro e w1 ⟨rfl, hb1⟩
  rw [HB.out]
  go_wp2_with fail
  have row := Row.new w1 93 (madeCells #[.int .i64 0, .int .i64 0, .string ⟨#[]⟩] (cols.length * 3))
  have hb0 := hb1.alloc hb1.size (.cells (madeCells #[.int .i64 0, .int .i64 0, .string ⟨#[]⟩] (cols.length * 3)) 93)
  have hsz := size_madeCells #[.int .i64 0, .int .i64 0, .string ⟨#[]⟩] (cols.length * 3)
  have hg : w.heap.size ≤ w1.heap.size := hb1.size
  have HG := Lib.hid hg
  generalize hgw : w1.heap.size = g at *
  generalize w1.alloc (.cells (madeCells #[.int .i64 0, .int .i64 0, .string ⟨#[]⟩] (cols.length * 3)) 93) = x at *
  generalize madeCells #[.int .i64 0, .int .i64 0, .string ⟨#[]⟩] (cols.length * 3) = cs0 at *
  have HZ := Lib.hid hsz
  have HL := Lib.hid (show (keyL cols vals).length = cols.length by simp [keyL])
  clear hmk hsz hg hgw hb1
  go_loopw [7, 18] (fun kn i wr => ∃ (k : Nat) (b : Bool) (cs : Array Value), k ≤ cols.length ∧ i = .int .i64 k ∧ kn = .bool b ∧ Hid (b = knownL ((keyL cols vals).take k)) ∧ Row wr g 93 cs ∧ Hid (cs.size = cols.length * 3) ∧ Hid (LaidR VlR 3 (okF (g + 1) wr) wr cs k (keyL cols vals)) ∧ Hid ((cols.take k).all (inV vals) = true) ∧ Hid (g + 1 ≤ wr.heap.size) ∧ Below w.heap.size w wr) (fun _ i _ => cols.length - (intOf i).toNat)
  case atStart => exact ⟨0, true, cs0, by omega, rfl, rfl, Lib.hid rfl, row, HZ, Lib.hid (LaidR.zero _ _ _ _ _ _), Lib.hid rfl, Lib.hid (lt_of_block row), hb0⟩
  case round =>
    clear hb0 row
    obtain ⟨k, kb, cs, hk, rfl, rfl, hkb, hrow, hcs, hlaid, hall, hgw, hb⟩ := hrel
    by_cases hlt : k < cols.length
    · obtain ⟨b, off, -, rfl, q0⟩ := IntR.at_ (hc.below IntR.stays hb) hlt
      have i0 : (0 : Int) ≤ k := by omega
      have i1 : (k : Int) < cols.length := by omega
      cases hin : inV vals cols[k]
      · have HK := Lib.hid (show keyOf cols vals = [] ∧ keyFl cols vals = false by unfold keyOf keyFl; rw [not_all_of hlt hin]; exact ⟨rfl, rfl⟩)
        have HI := Lib.hid (show (decide (0 ≤ cols[k]) && decide (cols[k] < (vals.length : Int))) = false from hin)
        clear hin
        go_wp2_with fail
        refine (implPlaceK HI.out _).mono ?_
        rintro e w2 ⟨rfl, rfl⟩
        go_wp2_with fail
        go_ret2
        exact ⟨_, by rw [HK.out.2]; rfl, by rw [HK.out.1]; exact OwnG.nil _ _, hb⟩
      · obtain ⟨m, hm, hmv⟩ := inV_nat hin
        have HT := Lib.hid (keyL_take hlt hm hmv)
        have HA := Lib.hid (show (cols.take (k + 1)).all (inV vals) = true by rw [List.take_succ_eq_append_getElem hlt, List.all_append, hall.out]; simp [hin])
        have HI := Lib.hid (show (decide (0 ≤ (m : Int)) && decide ((m : Int) < (vals.length : Int))) = true by rw [← hm]; exact hin)
        rw [hm] at q0
        obtain ⟨bv, offv, -, rfl, y0, y1, y2⟩ := VlR.at_ (hv.below VlR.stays hb) hmv
        have hsz1 : k * 3 + 3 ≤ cs.size := by rw [hcs.out]; omega
        have q : ∀ j, j < 3 → wr.cell? ⟨g, k * 3 + j, none⟩ = some (cs[k * 3 + j]?.getD undef) := fun j hj => by
          rw [hrow.cell, Array.getElem?_eq_getElem (by omega)]; rfl
        have z0 : wr.cell? ⟨g, k * 3, none⟩ = some (cs[k * 3]?.getD undef) := q 0 (by omega)
        have z1 := q 1 (by omega)
        have z2 := q 2 (by omega)
        have f0 := hrow.free (k * 3)
        have f1 := hrow.free (k * 3 + 1)
        have f2 := hrow.free (k * 3 + 2)
        have j0 : (0 : Int) ≤ m := by omega
        have j1 : (m : Int) < vals.length := by omega
        have HR := Lib.hid hrow
        have HM := Lib.hid hm
        have hLk : k < (keyL cols vals).length := by rw [HL.out]; exact hlt
        have HKM := Lib.hid (show (keyL cols vals)[k] = vals[m] by simp [keyL, hm, hmv])
        have HS := Lib.hid hsz1
        clear q hrow hm hin hall hsz1
        generalize hvm : vals[m] = v at *
        have HVM := Lib.hid hvm
        clear hvm
        cases kb
        · have HB2 := Lib.hid (show false = knownL ((keyL cols vals).take (k + 1)) by rw [known_take HT.out, ← hkb.out]; rfl)
          clear hkb
          go_wp2_with fail
          refine (implPlaceK HI.out _).mono ?_
          rintro e w2 ⟨rfl, rfl⟩
          go_wp2_with fail
          go_roundw
          case rel => exact ⟨k + 1, _, _, by omega, by go_num, rfl, HB2, ((HR.out.set _ _).set _ _).set _ _, Lib.hid (by simp [hcs.out]), Lib.hid ((((hlaid.out.setF VlR.stays (by simp) _).setF VlR.stays (by simp) _).setF VlR.stays (by simp) _).more hLk (c := [.int .i64 v.k, .int .i64 v.n, .string v.s]) rfl (by rw [HKM.out]; rfl) (hold3 cs k _ _ _) (fresh3 cs k _ _ _ HS.out)), HA, Lib.hid (by simpa using hgw.out), ((hb.setCell (by simpa using HG.out) _).setCell (by simpa using HG.out) _).setCell (by simpa using HG.out) _⟩
          case measure => simp [intOf]; omega
        · have HB2 := Lib.hid (show (v.k != 0) = knownL ((keyL cols vals).take (k + 1)) by rw [known_take HT.out, ← hkb.out]; rfl)
          clear hkb
          go_wp2_with fail
          refine (implPlaceK HI.out _).mono ?_
          rintro e w2 ⟨rfl, rfl⟩
          go_wp2_with fail
          go_roundw
          case rel => exact ⟨k + 1, _, _, by omega, by go_num, rfl, HB2, ((HR.out.set _ _).set _ _).set _ _, Lib.hid (by simp [hcs.out]), Lib.hid ((((hlaid.out.setF VlR.stays (by simp) _).setF VlR.stays (by simp) _).setF VlR.stays (by simp) _).more hLk (c := [.int .i64 v.k, .int .i64 v.n, .string v.s]) rfl (by rw [HKM.out]; rfl) (hold3 cs k _ _ _) (fresh3 cs k _ _ _ HS.out)), HA, Lib.hid (by simpa using hgw.out), ((hb.setCell (by simpa using HG.out) _).setCell (by simpa using HG.out) _).setCell (by simpa using HG.out) _⟩
          case measure => simp [intOf]; omega
    · obtain rfl : k = cols.length := by omega
      have hok : keyOk cols vals = true := by
        have h1 := hall.out
        rw [List.take_of_length_le (Nat.le_refl _)] at h1
        unfold keyOk
        rw [HB.out, h1]; rfl
      have hsl := ownV_of_laid hrow HG.out (by rw [hcs.out, HL.out]) (by rw [HL.out]; unfold maxLen; omega) hlaid.out (Nat.le_of_eq HL.out)
      rw [HL.out] at hsl
      have HK := Lib.hid (show keyOf cols vals = keyL cols vals by unfold keyOf; rw [hok]; rfl)
      have HF := Lib.hid (show keyFl cols vals = kb by
        have h1 := hkb.out
        rw [List.take_of_length_le (Nat.le_of_eq HL.out)] at h1
        unfold keyFl; rw [hok, h1]; rfl)
      have HSL := Lib.hid hsl
      clear hok hsl
      go_wp2_with fail
      go_ret2
      exact ⟨_, by rw [HF.out]; rfl, by rw [HK.out]; exact HSL.out, hb⟩
theorem grown_rowK {w w' : World} {row : Option Nat} (hg : w.grownBy w' row) {g : Nat} {T : TypeId} {cs : Array Value} (h : Row w g T cs) (hne : ∀ k, row = some k → k ≠ g) : Row w' g T cs :=
  (hg.block g (lt_of_block h) (fun e => hne g e.symm rfl)).trans h
set_option maxRecDepth 100000 in
set_option maxHeartbeats 2000000 in
theorem specL4KeyO (AC AV : Option Addr) (nC cC nV cV : Nat) (cols : List Int) (vals : List Vl) (ok ok' : Nat → Prop) (w : World) (hc : Sl IntR 1 ok w AC nC cols) (hv : Sl VlR 3 ok' w AV nV vals) (hcn : nC ≤ 1048576) (hvn : nV ≤ 1048576) (hall : cols.all (inV vals) = true) :
    Calls Tryz.prog 113 #[.slice AC nC cC, .slice AV nV cV] w (MadeFO (keyL cols vals) (knownL (keyL cols vals)) w) := by
  obtain rfl : cols.length = nC := hc.1
  obtain rfl : vals.length = nV := hv.1
  obtain ⟨i0, hi, hz0, hz1, hz2⟩ := info_parts infoValK
  have H1 := Lib.hid hi
  have H2 := Lib.hid hz0
  have H3 := Lib.hid hz1
  have H4 := Lib.hid hz2
  have HALL := Lib.hid hall
  have HL := Lib.hid (show (keyL cols vals).length = cols.length by simp [keyL])
  clear hi hz0 hz1 hz2 hall
  have hb0 := (Below.refl w.heap.size w).alloc (Nat.le_refl _) (.cells #[] 93)
  have ho0 : Hid (OwnV _ w.heap.size _ []) := Lib.hid (OwnG.lit (T := 93) (sz := 3) (f := Vl.cells) w (Nat.le_refl w.heap.size))
  go_enter Tryz.func113, Tryz.ntmps113
  go_wp2_with fail
  generalize w.alloc (.cells #[] 93) = z0 at *
  go_loopw [6, 7, 8] (fun v kn i wr => ∃ (k : Nat) (b : Bool), k ≤ cols.length ∧ i = .int .i64 k ∧ kn = .bool b ∧ Hid (b = knownL ((keyL cols vals).take k)) ∧ Hid (OwnV wr w.heap.size v ((keyL cols vals).take k)) ∧ Below w.heap.size w wr) (fun _ _ i _ => cols.length - (intOf i).toNat)
  case atStart => exact ⟨0, true, by omega, rfl, rfl, Lib.hid rfl, ho0, hb0⟩
  case round =>
    clear hb0 ho0
    obtain ⟨k, kb, hk, rfl, rfl, hkb, hown, hb⟩ := hrel
    by_cases hlt : k < cols.length
    · obtain ⟨b, off, -, rfl, q0⟩ := IntR.at_ (hc.below IntR.stays hb) hlt
      have i0' : (0 : Int) ≤ k := by omega
      have i1 : (k : Int) < cols.length := by omega
      obtain ⟨m, hm, hmv⟩ := inV_nat (List.all_eq_true.1 HALL.out _ (List.getElem_mem hlt))
      have HT := Lib.hid (keyL_take hlt hm hmv)
      rw [hm] at q0
      obtain ⟨bv, offv, -, rfl, y0, y1, y2⟩ := VlR.at_ (hv.below VlR.stays hb) hmv
      have j0 : (0 : Int) ≤ m := by omega
      have j1 : (m : Int) < vals.length := by omega
      have HLK := Lib.hid (show ((keyL cols vals).take k).length = k by rw [List.length_take, HL.out]; omega)
      clear hm
      generalize hvm : vals[m] = v at *
      generalize hxs : (keyL cols vals).take k = xs at *
      have HVM := Lib.hid hvm
      have HXS := Lib.hid hxs
      clear hvm hxs
      have hbx := hb.alloc hb.size (.cells #[.int .i64 v.k, .int .i64 v.n, .string v.s] 93)
      have hlb := (Below.refl wr.heap.size wr).alloc (Nat.le_refl _) (.cells #[.int .i64 v.k, .int .i64 v.n, .string v.s] 93)
      have hoz := Lib.hid (OwnG.below hown.out hlb)
      have rb := Row.new wr 93 #[.int .i64 v.k, .int .i64 v.n, .string v.s]
      have hne := Lib.hid (fun j hj => Nat.ne_of_lt (OwnG.block_lt hown.out j hj).2)
      clear hlb hown
      have hRB := Lib.hid rb
      clear rb
      cases kb
      · have HB2 := Lib.hid (show false = knownL ((keyL cols vals).take (k + 1)) by rw [known_take HT.out, ← hkb.out]; rfl)
        clear hkb
        go_wp2_with (at_builtin; refine wpList_append_own _ rfl _ _ 34 rfl w.heap.size 93 i0 (.agg #[.int .i64 0, .int .i64 0, .string ⟨#[]⟩]) 3 32 Tryz.underlying34 H1.out H2.out H3.out H4.out rfl (by decide) _ _ _ rfl (World.ownsRow.alloc hoz.out _) ⟨_, 0, none⟩ 1 1 (Vl.cells v) rfl rfl ?c1 ?c2 ?c3 ?c4 ?c5 ?_)
        case c1 => exact cells_newAt _ (Vl.cells v) _ (by simp)
        case c2 => intro u hu; simp [Vl.cells] at hu; rcases hu with rfl | rfl | rfl <;> rfl
        case c3 => have := HLK.out; unfold maxLen; omega
        case c4 => have := HLK.out; omega
        case c5 => have := hbx.size; simp at this ⊢; omega
        intro v' w3 hown3 hgrow _
        have R := Lib.hid (OwnG.app hoz.out hbx.size hown3 hgrow)
        have rb3 := grown_rowK hgrow (hRB.out.alloc _) hne.out
        clear hown3 hgrow hoz hRB
        obtain ⟨⟨x0, x1, x2⟩, -⟩ := rb3.three
        go_wp2_with fail
        go_roundw
        case rel => exact ⟨k + 1, false, by omega, by go_num, rfl, HB2, Lib.hid (by rw [HT.out]; exact R.out.1), hbx.trans R.out.2⟩
        case measure => simp [intOf]; omega
      · have HB2 := Lib.hid (show (v.k != 0) = knownL ((keyL cols vals).take (k + 1)) by rw [known_take HT.out, ← hkb.out]; rfl)
        clear hkb
        go_wp2_with (at_builtin; refine wpList_append_own _ rfl _ _ 34 rfl w.heap.size 93 i0 (.agg #[.int .i64 0, .int .i64 0, .string ⟨#[]⟩]) 3 32 Tryz.underlying34 H1.out H2.out H3.out H4.out rfl (by decide) _ _ _ rfl (World.ownsRow.alloc hoz.out _) ⟨_, 0, none⟩ 1 1 (Vl.cells v) rfl rfl ?d1 ?d2 ?d3 ?d4 ?d5 ?_)
        case d1 => exact cells_newAt _ (Vl.cells v) _ (by simp)
        case d2 => intro u hu; simp [Vl.cells] at hu; rcases hu with rfl | rfl | rfl <;> rfl
        case d3 => have := HLK.out; unfold maxLen; omega
        case d4 => have := HLK.out; omega
        case d5 => have := hbx.size; simp at this ⊢; omega
        intro v' w3 hown3 hgrow _
        have R := Lib.hid (OwnG.app hoz.out hbx.size hown3 hgrow)
        have rb3 := grown_rowK hgrow (hRB.out.alloc _) hne.out
        clear hown3 hgrow hoz hRB
        obtain ⟨⟨x0, x1, x2⟩, -⟩ := rb3.three
        go_wp2_with fail
        go_roundw
        case rel => exact ⟨k + 1, (v.k != 0), by omega, by go_num, rfl, HB2, Lib.hid (by rw [HT.out]; exact R.out.1), hbx.trans R.out.2⟩
        case measure => simp [intOf]; omega
    · obtain rfl : k = cols.length := by omega
      have e1 := hown.out
      have e2 := hkb.out
      rw [List.take_of_length_le (Nat.le_of_eq HL.out)] at e1 e2
      have HKB := Lib.hid e2
      have HSL := Lib.hid e1
      clear hown hkb e1 e2
      go_wp2_with fail
      go_ret2
      exact ⟨_, by rw [← HKB.out]; rfl, HSL.out, hb⟩
end Go.Proofs.YtemimhghhihllaaGreat
namespace Go.Proofs.YtemimhghhihllaaGreat
open Go.RowKit
theorem below_dN {B : Nat} {w w' : World} (h : Below B w w') (m : Nat) : Below B w (w'.drewN m) := ⟨h.os, h.tape, h.output, h.size, h.block⟩
def eqlV (a b : Vl) : Bool := (a.k == b.k) && ((a.n == b.n) && (a.s.toList == b.s.toList))
def eqlP (p : Vl × Vl) : Bool := eqlV p.1 p.2
def eqlL (a b : List Vl) : Bool := decide (a.length = b.length) && (a.zip b).all eqlP
theorem zip_take {α β : Type} (a : List α) (b : List β) (k : Nat) (h : k < a.length) (h' : k < b.length) (f : α × β → Bool) : ((a.zip b).take (k + 1)).all f = (((a.zip b).take k).all f && f (a[k], b[k])) := by
  rw [List.take_succ_eq_append_getElem (by rw [List.length_zip]; omega), List.all_append]
  simp
theorem zip_no {α β : Type} {a : List α} {b : List β} {k : Nat} (h : k < a.length) (h' : k < b.length) {f : α × β → Bool} (hf : f (a[k], b[k]) = false) : (a.zip b).all f = false := by
  rw [List.all_eq_false]
  exact ⟨(a[k], b[k]), by rw [List.mem_iff_getElem]; exact ⟨k, by rw [List.length_zip]; omega, by simp⟩, by simp [hf]⟩
set_option maxRecDepth 100000 in
set_option maxHeartbeats 1000000 in
theorem specSameVals (A A' : Option Addr) (n c n' c' : Nat) (a b : List Vl) (ok ok' : Nat → Prop) (w : World) (h : Sl VlR 3 ok w A n a) (h' : Sl VlR 3 ok' w A' n' b) (hn : n ≤ 1048576) (hn' : n' ≤ 1048576) :
    Calls Tryz.prog 125 #[.slice A n c, .slice A' n' c'] w fun e w' => e = .returned (.bool (eqlL a b)) ∧ Below w.heap.size w w' := by
  obtain rfl : a.length = n := h.1
  obtain rfl : b.length = n' := h'.1
  by_cases hl : (a.length : Int) = b.length
  case neg =>
    have hl' : ((a.length : Int) == b.length) = false := by simpa using hl
    have HF := Lib.hid (show eqlL a b = false by unfold eqlL; rw [decide_eq_false (by omega)]; rfl)
    clear hl
    go_enter Tryz.func125, Tryz.ntmps125
    go_wp2_with fail
    go_ret
    exact ⟨retB HF.out.symm, Below.refl _ _⟩
  have hl' : ((a.length : Int) == b.length) = true := by simpa using hl
  have HL := Lib.hid (show a.length = b.length by omega)
  clear hl
  go_enter Tryz.func125, Tryz.ntmps125
  go_wp2_with fail
  clear hl'
  go_loopw [5] (fun i wr => ∃ k : Nat, k ≤ a.length ∧ i = .int .i64 k ∧ Hid (((a.zip b).take k).all eqlP = true) ∧ Below w.heap.size w wr) (fun i _ => a.length - (intOf i).toNat)
  case atStart => exact ⟨0, by omega, rfl, Lib.hid (by simp), Below.refl _ _⟩
  case round =>
    obtain ⟨k, hk, rfl, hall, hb⟩ := hrel
    by_cases hlt : k < a.length
    · have hlt' : k < b.length := by have := HL.out; omega
      obtain ⟨b1, o1, -, rfl, q0, q1, q2⟩ := VlR.at_ (h.below VlR.stays hb) hlt
      obtain ⟨b2, o2, -, rfl, y0, y1, y2⟩ := VlR.at_ (h'.below VlR.stays hb) hlt'
      have i0 : (0 : Int) ≤ k := by omega
      have i1 : (k : Int) < a.length := by omega
      have i2 : (k : Int) < b.length := by omega
      have hst := zip_take a b k hlt hlt' eqlP
      rw [hall.out, Bool.true_and] at hst
      have hno := fun hf => zip_no (f := eqlP) hlt hlt' hf
      generalize a[k] = x at *
      generalize b[k] = y at *
      cases hs : eqlP (x, y)
      · have HF := Lib.hid (show eqlL a b = false by unfold eqlL; rw [hno hs]; simp)
        have HS := Lib.hid hs
        clear hno hst hall hs
        cases e1 : (x.k == y.k)
        · clear HS
          go_wp2_with fail
          go_quiet (fail)
          go_wp2_with fail
          go_ret
          exact ⟨retB HF.out.symm, below_dN hb _⟩
        · cases e2 : (x.n == y.n)
          · clear HS
            go_wp2_with fail
            go_quiet (fail)
            go_wp2_with fail
            go_ret
            exact ⟨retB HF.out.symm, below_dN hb _⟩
          · have e3 : (x.s.toList == y.s.toList) = false := by have := HS.out; simp only [eqlP, eqlV, e1, e2, Bool.true_and] at this; exact this
            clear HS
            go_wp2_with fail
            go_quiet (fail)
            go_wp2_with fail
            go_ret
            exact ⟨retB HF.out.symm, below_dN hb _⟩
      · rw [hs] at hst
        have HA := Lib.hid hst
        simp only [eqlP, eqlV, Bool.and_eq_true] at hs
        obtain ⟨e1, e2, e3⟩ := hs
        clear hno hst hall
        go_wp2_with fail
        go_quiet (fail)
        go_wp2_with fail
        go_roundw
        case rel => exact ⟨k + 1, by omega, by go_num, HA, below_dN hb _⟩
        case measure => simp [intOf]; omega
    · have e : (a.zip b).take k = a.zip b := List.take_of_length_le (by rw [List.length_zip]; have := HL.out; omega)
      have h1 := hall.out
      rw [e] at h1
      have HA := Lib.hid (show eqlL a b = true by unfold eqlL; rw [decide_eq_true HL.out, h1]; rfl)
      clear e h1 hall
      go_wp2_with fail
      go_ret
      exact ⟨retB HA.out.symm, hb⟩
def sameE (x y : En) : Bool := decide (x.id = y.id) && eqlL x.key y.key
set_option maxRecDepth 100000 in
set_option maxHeartbeats 1000000 in
theorem specL11Same (x y : En) (A B : Option Addr) (n c m d : Nat) (ok ok' : Nat → Prop) (w : World) (ha : Sl VlR 3 ok w A n x.key) (hb : Sl VlR 3 ok' w B m y.key) (hn : n ≤ 1048576) (hm : m ≤ 1048576) :
    Calls Tryz.prog 76 #[.agg #[.slice A n c, .int .i64 x.id], .agg #[.slice B m d, .int .i64 y.id]] w fun e w' => e = .returned (.bool (sameE x y)) ∧ Below w.heap.size w w' := by
  obtain rfl : x.key.length = n := ha.1
  obtain rfl : y.key.length = m := hb.1
  have hb0 := chain2 w (.cells #[.slice A x.key.length c, .int .i64 x.id] 135) (.cells #[.slice B y.key.length d, .int .i64 y.id] 135)
  obtain ⟨r1, r2⟩ := two_rows w 135 #[.slice A x.key.length c, .int .i64 x.id] #[.slice B y.key.length d, .int .i64 y.id]
  obtain ⟨⟨k0, k1⟩, -⟩ := r1.all2
  obtain ⟨⟨g0, g1⟩, -⟩ := r2.all2
  have ha' := ha.below VlR.stays hb0
  have hb' := hb.below VlR.stays hb0
  by_cases hid : x.id = y.id
  · have z : (x.id == y.id) = true := by simpa using hid
    have z' : decide (x.id = y.id) = true := by simpa using hid
    have HF := Lib.hid (show sameE x y = eqlL x.key y.key by unfold sameE; rw [z']; rfl)
    clear hid
    go_enter Tryz.func76, Tryz.ntmps76
    go_wp2_with fail
    refine (specSameVals A B _ c _ d x.key y.key _ _ _ ha' hb' hn hm).mono ?_
    rintro e w1 ⟨rfl, hb1⟩
    go_wp2_with fail
    go_ret
    exact ⟨retB HF.out.symm, hb0.trans (hb1.mono hb0.size)⟩
  · have z : (x.id == y.id) = false := by simpa using hid
    have z' : decide (x.id = y.id) = false := by simpa using hid
    have HF := Lib.hid (show sameE x y = false by unfold sameE; rw [z']; rfl)
    clear hid
    go_enter Tryz.func76, Tryz.ntmps76
    go_wp2_with fail
    go_ret
    exact ⟨retB HF.out.symm, hb0⟩
theorem OwnE.mono {w : World} {base base' : Nat} {v : Value} {es : List En} (h : OwnE w base v es) (hb : base' ≤ base) : OwnE w base' v es := by
  obtain ⟨vs, h⟩ := h
  refine ⟨vs, h.len, ⟨h.row.1, ?_⟩, fun i hi hi' => OwnK.mono (h.key i hi hi') hb, h.apart⟩
  rcases h.row.2 with h | ⟨g, cap, cur, rfl, h1, h2⟩
  · exact .inl h
  · exact .inr ⟨g, cap, cur, rfl, Nat.le_trans hb h1, h2⟩
theorem entC_len (vs : List Value) (es : List En) (h : vs.length = es.length) : (entC vs es).length = es.length * 2 := by
  unfold entC
  rw [flat_len (sz := 2) _ (fun c hc => by
    obtain ⟨j, hj, rfl⟩ := List.mem_iff_getElem.1 hc
    rw [List.getElem_zipWith]; rfl), List.length_zipWith]
  omega
theorem entC_one (vs : List Value) (es : List En) (h : vs.length = es.length) (hv : ∀ v ∈ vs, v.oneCell' = true) : ∀ u ∈ entC vs es, u.oneCell' = true := fun u hu => by
  unfold entC at hu
  obtain ⟨c, hc, hu⟩ := List.mem_flatten.1 hu
  obtain ⟨j, hj, rfl⟩ := List.mem_iff_getElem.1 hc
  rw [List.getElem_zipWith] at hu
  simp at hu
  rcases hu with rfl | rfl
  · exact hv _ (List.getElem_mem _)
  · rfl
end Go.Proofs.YtemimhghhihllaaGreat
namespace Go.Proofs.YtemimhghhihllaaGreat
open Go.RowKit
def ahead (l : List En) (e : En) (h : Nat) : Bool := match l[h]? with
  | some x => decide (ordE x e < 0)
  | none => false
def bsGo (l : List En) (e : En) (i j : Nat) : Nat := if i < j then (if ahead l e ((i + j) / 2) then bsGo l e ((i + j) / 2 + 1) j else bsGo l e i ((i + j) / 2)) else i
termination_by j - i
def bs (l : List En) (e : En) : Nat := bsGo l e 0 l.length
def bsHit (l : List En) (e : En) : Bool := match l[bs l e]? with
  | some x => ordE x e == 0
  | none => false
theorem bsGo_lt {l : List En} {e : En} {i j : Nat} (h : i < j) : bsGo l e i j = if ahead l e ((i + j) / 2) then bsGo l e ((i + j) / 2 + 1) j else bsGo l e i ((i + j) / 2) := by rw [bsGo, if_pos h]
theorem bsGo_end {l : List En} {e : En} {i j : Nat} (h : ¬ i < j) : bsGo l e i j = i := by rw [bsGo, if_neg h]
set_option maxRecDepth 100000 in
set_option maxHeartbeats 1000000 in
theorem libSearch (A : Option Addr) (n c : Nat) (l : List En) (ok : Nat → Prop) (e : En) (B : Option Addr) (m d : Nat) (ok' : Nat → Prop) (w : World) (h : Sl EnR 2 ok w A n l) (hn : n ≤ 1048576) (hk : ∀ x ∈ l, x.key.length ≤ 1048576) (hE : Sl VlR 3 ok' w B m e.key) (hm : m ≤ 1048576) :
    Calls Tryz.prog 168 #[.slice A n c, .agg #[.slice B m d, .int .i64 e.id], .func (.func 68) #[] #[]] w fun r w' => r = .returned (.tuple #[.int .i64 (bs l e : Nat), .bool (bsHit l e)]) ∧ Below w.heap.size w w' := by
  obtain rfl : l.length = n := h.1
  obtain rfl : e.key.length = m := hE.1
  have HK := Lib.hid hk
  clear hk
  have hb0 := (Below.refl w.heap.size w).alloc (Nat.le_refl _) (.cells #[.slice B e.key.length d, .int .i64 e.id] 135)
  have r0 := Row.new w 135 #[.slice B e.key.length d, .int .i64 e.id]
  go_enter Tryz.func168, Tryz.ntmps168
  go_wp2_with fail
  generalize w.alloc (.cells #[.slice B e.key.length d, .int .i64 e.id] 135) = z0 at *
  go_loopw [9, 10] (fun i j wr => ∃ (a b : Nat), i = .int .i64 a ∧ j = .int .i64 b ∧ Hid (a ≤ b ∧ b ≤ l.length) ∧ Hid (bsGo l e a b = bs l e) ∧ Hid (Row wr w.heap.size 135 #[.slice B e.key.length d, .int .i64 e.id]) ∧ Hid (Below w.heap.size w wr)) (fun i j _ => (intOf j).toNat - (intOf i).toNat)
  case atStart => exact ⟨0, l.length, rfl, rfl, Lib.hid ⟨by omega, by omega⟩, Lib.hid rfl, Lib.hid r0, Lib.hid hb0⟩
  case round =>
    clear hb0 r0
    obtain ⟨a, b, rfl, rfl, hab, hgo, hr, hb⟩ := hrel
    have hab' := hab.out
    by_cases hlt : a < b
    · have z : decide ((a : Int) < b) = true := by simp; omega
      go_wp2_with fail
      have hc : ((a : Int) + b) / 2 = (((a + b) / 2 : Nat) : Int) := by omega
      rw [hc]
      clear hc
      have hha : a ≤ (a + b) / 2 := by omega
      have hhb : (a + b) / 2 < b := by omega
      have HS := Lib.hid (bsGo_lt (l := l) (e := e) hlt)
      generalize (a + b) / 2 = k at *
      have hkl : k < l.length := by omega
      have i0' : (0 : Int) ≤ k := by omega
      have i1 : (k : Int) < l.length := by omega
      obtain ⟨b1, o1, A1, n1, c1, -, rfl, q0, q1, hky, -⟩ := EnR.at_ (h.below EnR.stays hb.out) hkl
      obtain ⟨⟨p0, p1⟩, -⟩ := hr.out.all2
      have hkd : Sl VlR 3 ok wr.drew A1 n1 l[k].key := hky.stays VlR.stays (fun _ h => h) (fun p v _ h => h)
      have hed : Sl VlR 3 ok' wr.drew B e.key.length e.key := (hE.below VlR.stays hb.out).stays VlR.stays (fun _ h => h) (fun p v _ h => h)
      have hn1 : n1 ≤ 1048576 := by have := hky.1; have := HK.out l[k] (List.getElem_mem hkl); omega
      have HA := Lib.hid (show ahead l e k = decide (ordE l[k] e < 0) by unfold ahead; rw [List.getElem?_eq_getElem hkl])
      have HX := Lib.hid (implOrderEntries l[k] e A1 B n1 c1 e.key.length d _ _ _ hkd hed hn1 hm)
      have d0 : wr.drew.cell? ⟨b1, o1 + k * 2, none⟩ = some (.slice A1 n1 c1) := q0
      have d1 : wr.drew.cell? ⟨b1, o1 + k * 2 + 1, none⟩ = some (.int .i64 l[k].id) := q1
      have d2 : wr.drew.cell? ⟨w.heap.size, 0, none⟩ = some (.slice B e.key.length d) := p0
      have d3 : wr.drew.cell? ⟨w.heap.size, 1, none⟩ = some (.int .i64 e.id) := p1
      clear hky hab hkd hed
      go_region_held3 (fun w' => w'.cell? ⟨b1, o1 + k * 2, none⟩ = some (.slice A1 n1 c1) ∧ w'.cell? ⟨b1, o1 + k * 2 + 1, none⟩ = some (.int .i64 l[k].id) ∧ w'.cell? ⟨w.heap.size, 0, none⟩ = some (.slice B e.key.length d) ∧ w'.cell? ⟨w.heap.size, 1, none⟩ = some (.int .i64 e.id))
        (first | go_keep | exact keepC4 (by assumption) hb1)
        (first | (go_at_call 68; refine HX.out.mono ?_; rintro r1 w1 ⟨rfl, hb1⟩))
      have HB := Lib.hid (show Below w.heap.size w w1 from hb.out.drew.trans (hb1.mono hb.out.size))
      have HR := Lib.hid (show Row w1 w.heap.size 135 #[.slice B e.key.length d, .int .i64 e.id] from Row.below (w := wr.drew) hr.out hb1)
      clear HX d0 d1 d2 d3 q0 q1 p0 p1 hb hr hb1
      by_cases hc : ordE l[k] e < 0
      · have zc : decide (ordE l[k] e < 0) = true := decide_eq_true hc
        have HN := Lib.hid (show bsGo l e (k + 1) b = bs l e by rw [← hgo.out, HS.out, HA.out, zc]; rfl)
        go_wp2_with fail
        go_roundw
        case rel => exact ⟨k + 1, b, by first | rfl | go_num, rfl, Lib.hid ⟨by omega, by omega⟩, HN, HR, HB⟩
        case measure => simp [intOf]; omega
      · have zc : decide (ordE l[k] e < 0) = false := decide_eq_false hc
        have HN := Lib.hid (show bsGo l e a k = bs l e by rw [← hgo.out, HS.out, HA.out, zc]; rfl)
        go_wp2_with fail
        go_roundw
        case rel => exact ⟨a, k, rfl, rfl, Lib.hid ⟨by omega, by omega⟩, HN, HR, HB⟩
        case measure => simp [intOf]; omega
    · obtain rfl : a = b := by omega
      have HBS := Lib.hid (show bs l e = a by rw [← hgo.out, bsGo_end (by omega)])
      clear hgo
      have z : decide ((a : Int) < a) = false := by simp
      by_cases hal : a < l.length
      · have z2 : decide ((a : Int) < (l.length : Int)) = true := decide_eq_true (by omega)
        have HH := Lib.hid (show bsHit l e = (ordE l[a] e == 0) by unfold bsHit; rw [HBS.out, List.getElem?_eq_getElem hal])
        have i0' : (0 : Int) ≤ a := by omega
        have i1 : (a : Int) < l.length := by omega
        obtain ⟨b1, o1, A1, n1, c1, -, rfl, q0, q1, hky, -⟩ := EnR.at_ (h.below EnR.stays hb.out) hal
        obtain ⟨⟨p0, p1⟩, -⟩ := hr.out.all2
        have hkd : Sl VlR 3 ok wr.drew A1 n1 l[a].key := hky.stays VlR.stays (fun _ h => h) (fun p v _ h => h)
        have hed : Sl VlR 3 ok' wr.drew B e.key.length e.key := (hE.below VlR.stays hb.out).stays VlR.stays (fun _ h => h) (fun p v _ h => h)
        have hn1 : n1 ≤ 1048576 := by have := hky.1; have := HK.out l[a] (List.getElem_mem hal); omega
        have HX := Lib.hid (implOrderEntries l[a] e A1 B n1 c1 e.key.length d _ _ _ hkd hed hn1 hm)
        have d0 : wr.drew.cell? ⟨b1, o1 + a * 2, none⟩ = some (.slice A1 n1 c1) := q0
        have d1 : wr.drew.cell? ⟨b1, o1 + a * 2 + 1, none⟩ = some (.int .i64 l[a].id) := q1
        have d2 : wr.drew.cell? ⟨w.heap.size, 0, none⟩ = some (.slice B e.key.length d) := p0
        have d3 : wr.drew.cell? ⟨w.heap.size, 1, none⟩ = some (.int .i64 e.id) := p1
        clear hky hab hkd hed
        go_wp2_with fail
        go_region_held3? (fun w' => w'.cell? ⟨b1, o1 + a * 2, none⟩ = some (.slice A1 n1 c1) ∧ w'.cell? ⟨b1, o1 + a * 2 + 1, none⟩ = some (.int .i64 l[a].id) ∧ w'.cell? ⟨w.heap.size, 0, none⟩ = some (.slice B e.key.length d) ∧ w'.cell? ⟨w.heap.size, 1, none⟩ = some (.int .i64 e.id))
          (first | go_keep | exact keepC4 (by assumption) hb1)
          (first | (go_at_call 68; refine HX.out.mono ?_; rintro r1 w1 ⟨rfl, hb1⟩))
        have HB := Lib.hid (show Below w.heap.size w w1 from hb.out.drew.trans (hb1.mono hb.out.size))
        go_wp2_with fail
        go_ret2
        exact ⟨by rw [HBS.out, HH.out]; rfl, HB.out⟩
      · obtain rfl : a = l.length := by omega
        have z2 : decide ((l.length : Int) < (l.length : Int)) = false := decide_eq_false (by omega)
        have HH := Lib.hid (show bsHit l e = false by unfold bsHit; rw [HBS.out, List.getElem?_eq_none (Nat.le_refl _)])
        have z3 : decide (l.length < l.length) = false := by simp
        go_wp2_with fail
        go_quiet (fail)
        go_wp2_with fail
        go_ret2
        exact ⟨by rw [HBS.out, HH.out]; rfl, below_dN hb.out _⟩
def rgV (v : Vl) : Prop := valOkB v.k v.n v.s = true
def rgE (e : En) : Prop := ∀ v ∈ e.key, rgV v
theorem entryB_ok {e : En} (h : entryB e = true) : rgE e := fun v hv => by
  unfold entryB rowB at h
  simp only [Bool.and_eq_true, decide_eq_true_eq, List.all_eq_true] at h
  exact h.2.1.2 v hv
theorem ordX_le {x y z : Vl} (h : rgV x) (h' : rgV y) (h2 : rgV z) (a : ordX x y ≤ 0) (b : ordX y z ≤ 0) : ordX x z ≤ 0 := ordOk_le h h' h2 a b
theorem ordL_neg : ∀ a b : List Vl, ordL b a = -ordL a b
  | [], [] => rfl
  | [], _ :: _ => rfl
  | _ :: _, [] => rfl
  | x :: a, y :: b => by
    unfold ordL
    rw [ordX_neg x y]
    by_cases h : ordX x y = 0
    · rw [if_pos h, if_pos (by omega), ordL_neg a b]
    · rw [if_neg h, if_neg (by omega)]
theorem ordL_le : ∀ {a b c : List Vl}, (∀ v ∈ a, rgV v) → (∀ v ∈ b, rgV v) → (∀ v ∈ c, rgV v) → ordL a b ≤ 0 → ordL b c ≤ 0 → ordL a c ≤ 0
  | [], _, [], _, _, _, _, _ => by simp [ordL]
  | [], _, _ :: _, _, _, _, _, _ => by simp [ordL]
  | _ :: _, [], _, _, _, _, h, _ => by simp [ordL] at h
  | _ :: _, _ :: _, [], _, _, _, _, h => by simp [ordL] at h
  | x :: a, y :: b, z :: c, ha, hb, hc, h, k => by
    have h1 := ha x (by simp)
    have h2 := hb y (by simp)
    have h3 := hc z (by simp)
    have b1 := ordX_bd x y
    have b2 := ordX_bd y z
    have b3 := ordX_bd x z
    have n1 := ordX_neg x y
    have n2 := ordX_neg y z
    have n3 := ordX_neg x z
    have IH := ordL_le (a := a) (b := b) (c := c) (fun v hv => ha v (by simp [hv])) (fun v hv => hb v (by simp [hv])) (fun v hv => hc v (by simp [hv]))
    have bb1 := ordL_bd a b
    unfold ordL at h k ⊢
    by_cases e1 : ordX x y = 0
    · rw [if_pos e1] at h
      by_cases e2 : ordX y z = 0
      · rw [if_pos e2] at k
        have t1 := ordX_le h1 h2 h3 (by omega) (by omega)
        have t2 := ordX_le h3 h2 h1 (by omega) (by omega)
        rw [if_pos (by omega)]
        exact IH h k
      · rw [if_neg e2] at k
        have t1 := ordX_le h1 h2 h3 (by omega) (by omega)
        by_cases e3 : ordX x z = 0
        · have t2 := ordX_le h3 h1 h2 (by omega) (by omega)
          omega
        · rw [if_neg e3]; exact t1
    · rw [if_neg e1] at h
      have k' : ordX y z ≤ 0 := by
        by_cases e2 : ordX y z = 0
        · omega
        · rw [if_neg e2] at k; exact k
      have t1 := ordX_le h1 h2 h3 (by omega) k'
      by_cases e3 : ordX x z = 0
      · have t2 := ordX_le h2 h3 h1 (by omega) (by omega)
        omega
      · rw [if_neg e3]; exact t1
theorem ordE_neg (a b : En) : ordE b a = -ordE a b := by
  unfold ordE
  rw [ordL_neg a.key b.key, cmpI_neg a.id b.id]
  by_cases h : ordL a.key b.key = 0
  · rw [if_pos h, if_pos (by omega)]
  · rw [if_neg h, if_neg (by omega)]
theorem ordE_le {a b c : En} (ha : rgE a) (hb : rgE b) (hc : rgE c) (h : ordE a b ≤ 0) (k : ordE b c ≤ 0) : ordE a c ≤ 0 := by
  have n1 := ordL_neg a.key b.key
  have n2 := ordL_neg b.key c.key
  have n3 := ordL_neg a.key c.key
  have i1 := cmpI_cases a.id b.id
  have i2 := cmpI_cases b.id c.id
  have i3 := cmpI_cases a.id c.id
  unfold ordE at h k ⊢
  by_cases e1 : ordL a.key b.key = 0
  · rw [if_pos e1] at h
    by_cases e2 : ordL b.key c.key = 0
    · rw [if_pos e2] at k
      have t1 := ordL_le ha hb hc (by omega) (by omega)
      have t2 := ordL_le hc hb ha (by omega) (by omega)
      rw [if_pos (by omega)]
      omega
    · rw [if_neg e2] at k
      have t1 := ordL_le ha hb hc (by omega) (by omega)
      by_cases e3 : ordL a.key c.key = 0
      · have t2 := ordL_le hc ha hb (by omega) (by omega)
        omega
      · rw [if_neg e3]; exact t1
  · rw [if_neg e1] at h
    have k' : ordL b.key c.key ≤ 0 := by
      by_cases e2 : ordL b.key c.key = 0
      · omega
      · rw [if_neg e2] at k; exact k
    have t1 := ordL_le ha hb hc (by omega) k'
    by_cases e3 : ordL a.key c.key = 0
    · have t2 := ordL_le hb hc ha (by omega) (by omega)
      omega
    · rw [if_neg e3]; exact t1
theorem ordE_lt {a b c : En} (ha : rgE a) (hb : rgE b) (hc : rgE c) (h : ordE a b < 0) (k : ordE b c ≤ 0) : ordE a c < 0 := by
  have h1 := ordE_le ha hb hc (by omega) k
  by_cases e : ordE a c = 0
  · have n1 := ordE_neg a c
    have n2 := ordE_neg a b
    have h2 := ordE_le hb hc ha k (by omega)
    omega
  · omega
theorem rises_step {l : List En} (h : risesB l = true) {i : Nat} (hi : i + 1 < l.length) : ordE l[i] l[i + 1] < 0 := by
  unfold risesB at h
  rw [List.all_eq_true] at h
  have := h i (List.mem_range.2 (by omega))
  rw [upB_at hi] at this
  simpa using this
theorem rises_lt {l : List En} (h : risesB l = true) (ho : ∀ e ∈ l, rgE e) : ∀ (d i : Nat) (hi : i + d + 1 < l.length), ordE (l[i]'(by omega)) l[i + d + 1] < 0
  | 0, i, hi => rises_step h hi
  | d + 1, i, hi => by
    have h1 := rises_lt h ho d i (by omega)
    have h2 := rises_step h (i := i + d + 1) (by omega)
    exact ordE_lt (ho _ (List.getElem_mem _)) (ho _ (List.getElem_mem _)) (ho _ (List.getElem_mem _)) h1 (Int.le_of_lt h2)
theorem rises_lt' {l : List En} (h : risesB l = true) (ho : ∀ e ∈ l, rgE e) {i j : Nat} (hij : i < j) (hj : j < l.length) : ordE (l[i]'(by omega)) l[j] < 0 := by
  obtain ⟨d, rfl⟩ : ∃ d, j = i + d + 1 := ⟨j - i - 1, by omega⟩
  exact rises_lt h ho d i hj
theorem ahead_at {l : List En} {e : En} {h : Nat} (hh : h < l.length) : ahead l e h = decide (ordE l[h] e < 0) := by
  unfold ahead
  rw [List.getElem?_eq_getElem hh]
theorem bsGo_ok {l : List En} {e : En} (hr : risesB l = true) (ho : ∀ x ∈ l, rgE x) (he : rgE e) : ∀ (d i j : Nat), j - i ≤ d → i ≤ j → j ≤ l.length → (∀ k (h : k < l.length), k < i → ordE l[k] e < 0) → (∀ k (h : k < l.length), j ≤ k → ¬ ordE l[k] e < 0) →
    bsGo l e i j ≤ l.length ∧ (∀ k (h : k < l.length), k < bsGo l e i j → ordE l[k] e < 0) ∧ (∀ k (h : k < l.length), bsGo l e i j ≤ k → ¬ ordE l[k] e < 0)
  | d, i, j, hd, hij, hj, h1, h2 => by
    by_cases hlt : i < j
    · rw [bsGo_lt hlt]
      have hk : (i + j) / 2 < l.length := by omega
      rw [ahead_at hk]
      obtain ⟨d', rfl⟩ : ∃ d', d = d' + 1 := ⟨d - 1, by omega⟩
      by_cases hc : ordE l[(i + j) / 2] e < 0
      · rw [decide_eq_true hc, if_pos rfl]
        refine bsGo_ok hr ho he d' _ _ (by omega) (by omega) hj (fun k h hki => ?_) h2
        by_cases e1 : k = (i + j) / 2
        · subst e1; exact hc
        · exact ordE_lt (ho _ (List.getElem_mem _)) (ho _ (List.getElem_mem _)) he (rises_lt' hr ho (by omega) hk) (by omega)
      · rw [decide_eq_false hc, if_neg (by simp)]
        refine bsGo_ok hr ho he d' _ _ (by omega) (by omega) (by omega) h1 (fun k h hki hlt2 => ?_)
        by_cases e1 : k = (i + j) / 2
        · subst e1; exact hc hlt2
        · exact hc (ordE_lt (ho _ (List.getElem_mem _)) (ho _ (List.getElem_mem _)) he (rises_lt' hr ho (show (i + j) / 2 < k by omega) h) (by omega))
    · rw [bsGo_end hlt]
      exact ⟨by omega, fun k h hk => h1 k h hk, fun k h hk => h2 k h (by omega)⟩
theorem bs_ok {l : List En} {e : En} (hr : risesB l = true) (ho : ∀ x ∈ l, rgE x) (he : rgE e) : bs l e ≤ l.length ∧ (∀ k (h : k < l.length), k < bs l e → ordE l[k] e < 0) ∧ (∀ k (h : k < l.length), bs l e ≤ k → ¬ ordE l[k] e < 0) :=
  bsGo_ok hr ho he _ 0 l.length (Nat.le_refl _) (Nat.zero_le _) (Nat.le_refl _) (fun k h hk => by omega) (fun k h hk => by omega)
def insAt (l : List En) (e : En) (i : Nat) : List En := l.take i ++ e :: l.drop i
def insL (l : List En) (e : En) : List En := insAt l e (bs l e)
def atP : List En → En → Nat
  | [], _ => 0
  | x :: l, e => if lessE x e then atP l e + 1 else 0
def putL (l : List En) (e : En) : List En := insAt l e (atP l e)
theorem atP_le : ∀ (l : List En) (e : En), atP l e ≤ l.length
  | [], _ => Nat.le_refl _
  | x :: l, e => by
    unfold atP
    split
    · have := atP_le l e; simp; omega
    · exact Nat.zero_le _
theorem atP_low : ∀ (l : List En) (e : En) (k : Nat) (h : k < l.length), k < atP l e → lessE l[k] e = true
  | x :: l, e, k, h, hk => by
    unfold atP at hk
    split at hk
    · next hx =>
      cases k with
      | zero => exact hx
      | succ k => exact atP_low l e k (by simpa using h) (by omega)
    · omega
theorem atP_here : ∀ (l : List En) (e : En) (h : atP l e < l.length), lessE l[atP l e] e = false
  | x :: l, e, h => by
    cases hx : lessE x e with
    | false =>
      have h0 : atP (x :: l) e = 0 := by rw [atP, if_neg (by rw [hx]; simp)]
      simp only [h0, List.getElem_cons_zero]; exact hx
    | true =>
      have h0 : atP (x :: l) e = atP l e + 1 := by rw [atP, if_pos hx]
      simp only [h0, List.getElem_cons_succ]
      rw [h0] at h
      exact atP_here l e (by simpa using h)
theorem bsGo_le {l : List En} {e : En} : ∀ (d i j : Nat), j - i ≤ d → i ≤ j → bsGo l e i j ≤ j
  | d, i, j, hd, hij => by
    by_cases hlt : i < j
    · rw [bsGo_lt hlt]
      obtain ⟨d', rfl⟩ : ∃ d', d = d' + 1 := ⟨d - 1, by omega⟩
      split
      · exact bsGo_le d' _ _ (by omega) (by omega)
      · have := bsGo_le (l := l) (e := e) d' i ((i + j) / 2) (by omega) (by omega); omega
    · rw [bsGo_end hlt]; exact hij
theorem bs_le (l : List En) (e : En) : bs l e ≤ l.length := bsGo_le _ 0 l.length (Nat.le_refl _) (Nat.zero_le _)
theorem insAt_len {l : List En} {e : En} {i : Nat} (hi : i ≤ l.length) : (insAt l e i).length = l.length + 1 := by unfold insAt; simp; omega
theorem insAt_mem {l : List En} {e x : En} {i : Nat} : x ∈ insAt l e i ↔ x = e ∨ x ∈ l := by
  unfold insAt
  rw [List.mem_append, List.mem_cons]
  constructor
  · rintro (h | h | h)
    · exact .inr (List.mem_of_mem_take h)
    · exact .inl h
    · exact .inr (List.mem_of_mem_drop h)
  · rintro (h | h)
    · exact .inr (.inl h)
    · rw [← List.take_append_drop i l, List.mem_append] at h
      rcases h with h | h
      · exact .inl h
      · exact .inr (.inr h)
theorem insAt_at {l : List En} {e : En} {i : Nat} (hi : i ≤ l.length) : (insAt l e i)[i]? = some e := by
  unfold insAt
  rw [List.getElem?_append_right (by rw [List.length_take]; omega), List.length_take, Nat.min_eq_left hi, Nat.sub_self]; rfl
theorem insAt_next {l : List En} {e : En} {i : Nat} (hi : i < l.length) : (insAt l e i)[i + 1]? = some l[i] := by
  unfold insAt
  rw [List.getElem?_append_right (by rw [List.length_take]; omega), List.length_take, Nat.min_eq_left (by omega), show i + 1 - i = 0 + 1 by omega, List.getElem?_cons_succ, List.getElem?_drop, List.getElem?_eq_getElem (by omega)]
  simp
theorem put_at {l : List En} {e : En} (h : entriesB l = true) (he : entryB e = true) (hw : ∀ x ∈ l, x.key.length = e.key.length) : atP l e = bs l e := by
  obtain ⟨h1, h2, h3⟩ := entriesB_in h
  have ho : ∀ x ∈ l, rgE x := fun x hx => entryB_ok (h2 x hx).1
  obtain ⟨b1, b2, b3⟩ := bs_ok h3 ho (entryB_ok he)
  have hl : ∀ x ∈ l, lessE x e = decide (ordE x e < 0) := fun x hx => lessE_right (h2 x hx).1 he (hw x hx)
  have a1 := atP_le l e
  rcases Nat.lt_trichotomy (atP l e) (bs l e) with hlt | heq | hgt
  · have h9 := atP_here l e (by omega)
    rw [hl _ (List.getElem_mem _), decide_eq_false_iff_not] at h9
    exact absurd (b2 _ _ hlt) h9
  · exact heq
  · have h9 := atP_low l e (bs l e) (by omega) hgt
    rw [hl _ (List.getElem_mem _), decide_eq_true_eq] at h9
    exact absurd h9 (b3 _ _ (Nat.le_refl _))
theorem put_hit {l : List En} {e : En} (h : entriesB l = true) (hr : entriesB (insL l e) = true) : bsHit l e = false := by
  cases hh : bsHit l e
  · rfl
  · exfalso
    unfold bsHit at hh
    rcases Nat.lt_or_ge (bs l e) l.length with hb | hb
    · rw [List.getElem?_eq_getElem hb] at hh
      have hz : ordE l[bs l e] e = 0 := by simpa using hh
      have hri := (entriesB_in hr).2.2
      have hle := bs_le l e
      unfold risesB at hri
      rw [List.all_eq_true] at hri
      have h5 := hri (bs l e) (List.mem_range.2 (by unfold insL; rw [insAt_len hle]; omega))
      unfold upB insL at h5
      rw [insAt_at hle, insAt_next hb] at h5
      have h6 : ordE e l[bs l e] < 0 := by simpa using h5
      have h7 := ordE_neg e l[bs l e]
      omega
    · rw [List.getElem?_eq_none hb] at hh
      cases hh
theorem valOk_size {v : Vl} (h1 : v.ok = true) : v.s.size ≤ 12 := by
  unfold Vl.ok at h1
  unfold valOkB at h1
  have h0 : ∀ b : ByteArray, b.toList.isEmpty = true → b.size = 0 := fun b hb => by
    rw [ByteArray.toList_eq] at hb
    rw [List.isEmpty_iff] at hb
    have := congrArg List.length hb
    rw [Array.length_toList] at this
    exact this
  split at h1
  · simp only [Bool.and_eq_true] at h1
    rw [h0 _ h1.2]; omega
  · split at h1
    · simp only [Bool.and_eq_true] at h1
      rw [h0 _ h1.2]; omega
    · split at h1
      · simp only [Bool.and_eq_true, decide_eq_true_eq] at h1
        omega
      · cases h1
theorem right_sz {l : List En} (h : entriesB l = true) : szL En.sz l ≤ 1048576 := by
  obtain ⟨h1, h2, -⟩ := entriesB_in h
  have hs : ∀ x ∈ l, x.sz ≤ 208 := fun x hx => by
    have h4 := entryB_row (h2 x hx).1
    unfold rowB at h4
    simp only [Bool.and_eq_true, decide_eq_true_eq] at h4
    have h5 : ∀ v ∈ x.key, v.s.size ≤ 12 := fun v hv => valOk_size (List.all_eq_true.1 h4.2 v hv)
    have h7 : ∀ l : List Vl, (∀ v ∈ l, v.s.size ≤ 12) → (l.map fun v : Vl => v.s.size).sum ≤ 12 * l.length := fun l => by
      induction l with
      | nil => intro _; simp
      | cons x l ih =>
        intro h
        have := ih fun v hv => h v (by simp [hv])
        have := h x (by simp)
        simp; omega
    have h8 := h7 x.key h5
    have h9 : x.sz = szL (fun v : Vl => v.s.size) x.key := rfl
    unfold szL at h9
    omega
  have hm : ∀ l : List En, (∀ x ∈ l, x.sz ≤ 208) → (l.map En.sz).sum ≤ 208 * l.length := fun l => by
    induction l with
    | nil => intro _; simp
    | cons x l ih =>
      intro h
      have := ih fun v hv => h v (by simp [hv])
      have := h x (by simp)
      simp; omega
  have := hm l hs
  unfold szL
  omega
end Go.Proofs.YtemimhghhihllaaGreat
namespace Go.Proofs.YtemimhghhihllaaGreat
open Go.RowKit
theorem ownsRow_typed {w : World} {base : Nat} {T : TypeId} {sz : Nat} {v : Value} {n : Nat} {xs : List Value} (h : w.ownsRow base T sz v n xs) {k : Nat} (hk : v.ownBlock = some k) : base ≤ k ∧ ∃ cur, w.heap[k]? = some (.cells cur T (0, 0)) := by
  rcases h.2 with ⟨rfl, -⟩ | ⟨g, cap, cur, rfl, h1, h2, -⟩
  · simp [Value.ownBlock] at hk
  · simp [Value.ownBlock] at hk
    subst hk
    exact ⟨h1, cur, h2⟩
section
def setAll (l : List Value) (off : Nat) : List Value → List Value
  | [] => l
  | u :: us => setAll (l.set off u) (off + 1) us
theorem setAll_len : ∀ (us l : List Value) (off : Nat), (setAll l off us).length = l.length
  | [], _, _ => rfl
  | u :: us, l, off => by rw [setAll, setAll_len us]; simp
theorem setAll_get : ∀ (us l : List Value) (off j : Nat), off + us.length ≤ l.length → (setAll l off us)[j]? = if off ≤ j ∧ j < off + us.length then us[j - off]? else l[j]?
  | [], l, off, j, _ => by
    rw [setAll, if_neg]
    intro h
    simp only [List.length_nil] at h
    omega
  | u :: us, l, off, j, hl => by
    simp only [List.length_cons] at hl
    rw [setAll, setAll_get us _ _ _ (by simp; omega)]
    simp only [List.length_cons]
    by_cases e : j = off
    · subst e
      rw [if_neg (by omega), if_pos (by omega), List.getElem?_set_self (by omega)]
      simp
    · by_cases h1 : off + 1 ≤ j ∧ j < off + 1 + us.length
      · rw [if_pos h1, if_pos (by omega), show j - off = (j - (off + 1)) + 1 by omega]
        simp
      · rw [if_neg h1, if_neg (by omega), List.getElem?_set_ne (by omega)]
end
end Go.Proofs.YtemimhghhihllaaGreat
namespace Go.Proofs.YtemimhghhihllaaGreat
open Go.RowKit
theorem grown_refl (w : World) (r : Option Nat) : w.grownBy w r := ⟨rfl, rfl, rfl, Nat.le_refl _, fun _ _ _ => rfl⟩
theorem setCells_owns {T : TypeId} {sz base g n cap : Nat} : ∀ (us : List Value) (off : Nat) (w : World) (xs : List Value), w.ownsRow base T sz (.slice (some ⟨g, 0, none⟩) n cap) n xs →
    (w.setCells g off us).ownsRow base T sz (.slice (some ⟨g, 0, none⟩) n cap) n (setAll xs off us) ∧ w.grownBy (w.setCells g off us) (some g)
  | [], off, w, xs, h => ⟨h, grown_refl _ _⟩
  | u :: us, off, w, xs, h => by
    obtain ⟨s1, g1⟩ := h.stored off u
    obtain ⟨s2, g2⟩ := setCells_owns us (off + 1) _ _ s1
    exact ⟨s2, g1.trans g2⟩
end Go.Proofs.YtemimhghhihllaaGreat
namespace Go.Proofs.YtemimhghhihllaaGreat
open Go.RowKit
theorem schema_tab {s : List Tb} (h : schemaB s = true) {m : Nat} (hm : m < s.length) : 0 < s[m].cols.length ∧ s[m].cols.length ≤ 8 := by
  unfold schemaB at h
  simp only [Bool.and_eq_true] at h
  have h1 := List.all_eq_true.1 h.2.1 _ (List.getElem_mem hm)
  unfold tableB colsB at h1
  simp only [Bool.and_eq_true, decide_eq_true_eq] at h1
  omega
theorem kinds_ok {cols : List Cl} {l : List Vl} (h : kindsB cols l = true) : ∀ v ∈ l, v.ok = true := fun v hv => by
  unfold kindsB fitAll at h
  simp only [Bool.and_eq_true, decide_eq_true_eq] at h
  obtain ⟨i, hi, rfl⟩ := List.mem_iff_getElem.1 hv
  have h3 := List.all_eq_true.1 h.2 (cols[i]'(by omega), l[i]) (by rw [List.mem_iff_getElem]; exact ⟨i, by rw [List.length_zip]; omega, by simp⟩)
  have h4 : fitsB _ l[i] = true := h3
  unfold fitsB at h4
  rw [Bool.and_eq_true] at h4
  exact h4.1
def tabAt (s : List Tb) (tb : Int) : Option Tb := if 0 ≤ tb then s[tb.toNat]? else none
theorem tabAt_some {s : List Tb} {m : Nat} (hm : m < s.length) : tabAt s (m : Int) = some s[m] := by
  unfold tabAt
  rw [if_pos (by omega), Int.toNat_natCast, List.getElem?_eq_getElem hm]
theorem insAt_lo {l : List En} {e : En} {i j : Nat} (hi : i ≤ l.length) (hj : j < i) : (insAt l e i)[j]? = l[j]? := by
  unfold insAt
  rw [List.getElem?_append_left (by rw [List.length_take]; omega), List.getElem?_take, if_pos hj]
theorem insAt_hi {l : List En} {e : En} {i j : Nat} (hi : i ≤ l.length) (hj : i ≤ j) : (insAt l e i)[j + 1]? = l[j]? := by
  unfold insAt
  rw [List.getElem?_append_right (by rw [List.length_take]; omega), List.length_take, Nat.min_eq_left hi, show j + 1 - i = (j - i) + 1 by omega, List.getElem?_cons_succ, List.getElem?_drop]
  congr 1; omega
theorem ins_right {l : List En} {e : En} (h : entriesB l = true) (he : entryB e = true) (hw : ∀ x ∈ l, x.key.length = e.key.length) (hn : l.length < 120) (hd : ∀ x ∈ l, ordE x e ≠ 0) :
    entriesB (insL l e) = true ∧ bsHit l e = false ∧ putL l e = insL l e := by
  obtain ⟨h1, h2, h3⟩ := entriesB_in h
  have ho : ∀ x ∈ l, rgE x := fun x hx => entryB_ok (h2 x hx).1
  obtain ⟨b1, b2, b3⟩ := bs_ok h3 ho (entryB_ok he)
  have hr : entriesB (insL l e) = true := by
    have hlen : (insL l e).length = l.length + 1 := insAt_len b1
    have hall : ∀ x ∈ insL l e, entryB x = true ∧ x.key.length = e.key.length := fun x hx => by
      rcases insAt_mem.1 hx with rfl | hx
      · exact ⟨he, rfl⟩
      · exact ⟨(h2 x hx).1, hw x hx⟩
    have hwd : wideOf (insL l e) = e.key.length := by
      rw [wideOf_at (by omega)]
      exact (hall _ (List.getElem_mem _)).2
    unfold entriesB
    rw [Bool.and_eq_true, Bool.and_eq_true, decide_eq_true_eq, List.all_eq_true]
    refine ⟨by omega, fun x hx => ?_, ?_⟩
    · unfold entW
      rw [(hall x hx).1, hwd, (hall x hx).2]; simp
    · unfold risesB
      rw [List.all_eq_true]
      intro j hj
      rw [List.mem_range, hlen] at hj
      unfold upB insL
      rcases Nat.lt_trichotomy (j + 1) (bs l e) with hlt | heq | hgt
      · rw [insAt_lo b1 (by omega), insAt_lo b1 hlt, List.getElem?_eq_getElem (by omega), List.getElem?_eq_getElem (by omega)]
        simpa using rises_step h3 (i := j) (by omega)
      · rw [insAt_lo b1 (by omega), heq, insAt_at b1, List.getElem?_eq_getElem (by omega)]
        simpa using b2 j (by omega) (by omega)
      · by_cases hje : j = bs l e
        · subst hje
          rw [insAt_at b1, insAt_hi b1 (Nat.le_refl _)]
          by_cases hb : bs l e < l.length
          · rw [List.getElem?_eq_getElem hb]
            have h5 := b3 (bs l e) hb (Nat.le_refl _)
            have h6 := hd _ (List.getElem_mem hb)
            have h7 := ordE_neg e l[bs l e]
            have : ordE e l[bs l e] < 0 := by omega
            simpa using this
          · rw [List.getElem?_eq_none (by omega)]
        · obtain ⟨j', rfl⟩ : ∃ j', j = j' + 1 := ⟨j - 1, by omega⟩
          rw [insAt_hi b1 (by omega), insAt_hi b1 (by omega)]
          by_cases hb : j' + 1 < l.length
          · rw [List.getElem?_eq_getElem (by omega), List.getElem?_eq_getElem hb]
            simpa using rises_step h3 (i := j') hb
          · rw [List.getElem?_eq_none (show l.length ≤ j' + 1 by omega)]
            cases l[j']? <;> rfl
  refine ⟨hr, put_hit h hr, ?_⟩
  unfold putL insL
  rw [put_at h he hw]
def entOf (cols : List Int) (r : Rw) : En := ⟨keyL cols r.vals, r.id⟩
def ixK (cols : List Int) (rows : List Rw) (k : Nat) : List En := (rows.take k).foldl (fun l r => putL l (entOf cols r)) []
theorem ixK_succ (cols : List Int) {rows : List Rw} {k : Nat} (h : k < rows.length) : ixK cols rows (k + 1) = putL (ixK cols rows k) (entOf cols rows[k]) := by
  unfold ixK
  rw [List.take_succ_eq_append_getElem h, List.foldl_append]; rfl
theorem ids_up {cols : List Cl} : ∀ {last : Int} {l : List Rw}, idsGo cols last l = true → (∀ r ∈ l, last < r.id ∧ r.id ≤ 1000000000 ∧ kindsB cols r.vals = true) ∧ l.Pairwise (fun a b => a.id < b.id)
  | _, [], _ => ⟨fun r hr => (by cases hr), List.Pairwise.nil⟩
  | last, r :: rs, h => by
    rw [idsGo] at h
    simp only [Bool.and_eq_true, decide_eq_true_eq] at h
    obtain ⟨h1, h2, h3, h4⟩ := h
    obtain ⟨i1, i2⟩ := ids_up h4
    refine ⟨fun x hx => ?_, List.Pairwise.cons (fun x hx => (i1 x hx).1) i2⟩
    rcases List.mem_cons.1 hx with rfl | hx
    · exact ⟨h1, h2, h3⟩
    · have := i1 x hx
      exact ⟨by omega, this.2.1, this.2.2⟩
structure IxIn (cols : List Int) (rows : List Rw) (m : Nat) : Prop where
  c0 : 0 < cols.length
  c1 : cols.length ≤ 8
  cin : ∀ x ∈ cols, 0 ≤ x ∧ x < (m : Int)
  few : rows.length ≤ 60
  row : ∀ r ∈ rows, 1 ≤ r.id ∧ r.id ≤ 1000000000 ∧ r.vals.length = m ∧ ∀ v ∈ r.vals, v.ok = true
  up : rows.Pairwise (fun a b => a.id < b.id)
theorem IxIn.all {cols : List Int} {rows : List Rw} {m : Nat} (h : IxIn cols rows m) {r : Rw} (hr : r ∈ rows) : cols.all (inV r.vals) = true := by
  rw [List.all_eq_true]
  intro x hx
  have h1 := h.cin x hx
  have h2 := (h.row r hr).2.2.1
  unfold inV
  rw [Bool.and_eq_true, decide_eq_true_eq, decide_eq_true_eq]
  exact ⟨h1.1, by omega⟩
theorem keyL_len (cols : List Int) (vals : List Vl) : (keyL cols vals).length = cols.length := by simp [keyL]
theorem IxIn.ent {cols : List Int} {rows : List Rw} {m : Nat} (h : IxIn cols rows m) {r : Rw} (hr : r ∈ rows) : entryB (entOf cols r) = true := by
  have h1 := h.c0
  have h2 := h.c1
  obtain ⟨r1, r2, r3, r4⟩ := h.row r hr
  unfold entryB rowB entOf
  simp only [keyL_len, Bool.and_eq_true, decide_eq_true_eq, List.all_eq_true]
  refine ⟨by omega, ⟨by omega, fun v hv => ?_⟩, r1, r2⟩
  unfold keyL at hv
  rw [List.mem_map] at hv
  obtain ⟨x, hx, rfl⟩ := hv
  have h3 := h.cin x hx
  rw [List.getElem?_eq_getElem (show x.toNat < r.vals.length by omega)]
  exact r4 _ (List.getElem_mem _)
theorem ordE_id {a b : En} (h : ordE a b = 0) : a.id = b.id := by
  unfold ordE at h
  split at h
  · unfold cmpI at h
    split at h
    · omega
    · split at h
      · omega
      · omega
  · rename_i hh; exact absurd h hh
theorem ix_step {cols : List Int} {rows : List Rw} {m : Nat} (h : IxIn cols rows m) : ∀ k, k ≤ rows.length → entriesB (ixK cols rows k) = true ∧ (ixK cols rows k).length = k ∧ (∀ x ∈ ixK cols rows k, x.key.length = cols.length ∧ ∃ j, ∃ hj : j < rows.length, j < k ∧ x.id = rows[j].id)
  | 0, _ => ⟨by rfl, rfl, fun x hx => by simp [ixK] at hx⟩
  | k + 1, hk => by
    obtain ⟨i1, i2, i3⟩ := ix_step h k (by omega)
    have hk' : k < rows.length := by omega
    have hd : ∀ x ∈ ixK cols rows k, ordE x (entOf cols rows[k]) ≠ 0 := fun x hx e => by
      obtain ⟨-, j, hj, hjk, ej⟩ := i3 x hx
      have := ordE_id e
      rw [ej] at this
      have h2 := List.pairwise_iff_getElem.1 h.up j k hj hk' hjk
      have h3 : rows[j].id = rows[k].id := this
      omega
    have hfew := h.few
    obtain ⟨r1, r2, r3⟩ := ins_right i1 (h.ent (List.getElem_mem hk')) (fun x hx => by rw [(i3 x hx).1]; exact (keyL_len _ _).symm) (by omega) hd
    rw [ixK_succ cols hk', r3]
    refine ⟨r1, by unfold insL; rw [insAt_len (bs_le _ _), i2], fun x hx => ?_⟩
    rcases insAt_mem.1 hx with rfl | hx
    · exact ⟨keyL_len _ _, k, hk', by omega, rfl⟩
    · obtain ⟨e1, j, hj, hjk, ej⟩ := i3 x hx
      exact ⟨e1, j, hj, by omega, ej⟩
theorem ix_put {cols : List Int} {rows : List Rw} {m : Nat} (h : IxIn cols rows m) {k : Nat} (hk : k < rows.length) : bsHit (ixK cols rows k) (entOf cols rows[k]) = false ∧ ixK cols rows (k + 1) = insL (ixK cols rows k) (entOf cols rows[k]) := by
  obtain ⟨i1, i2, i3⟩ := ix_step h k (by omega)
  have hd : ∀ x ∈ ixK cols rows k, ordE x (entOf cols rows[k]) ≠ 0 := fun x hx e => by
    obtain ⟨-, j, hj, hjk, ej⟩ := i3 x hx
    have := ordE_id e
    rw [ej] at this
    have h2 := List.pairwise_iff_getElem.1 h.up j k hj hk hjk
    have h3 : rows[j].id = rows[k].id := this
    omega
  have hfew := h.few
  obtain ⟨r1, r2, r3⟩ := ins_right i1 (h.ent (List.getElem_mem hk)) (fun x hx => by rw [(i3 x hx).1]; exact (keyL_len _ _).symm) (by omega) hd
  exact ⟨r2, by rw [ixK_succ cols hk, r3]⟩
theorem colsGo_in {n : Int} : ∀ {seen l : List Int}, colsGo n seen l = true → ∀ x ∈ l, 0 ≤ x ∧ x < n
  | _, [], _, x, hx => by cases hx
  | seen, y :: l, h, x, hx => by
    rw [colsGo] at h
    simp only [Bool.and_eq_true, decide_eq_true_eq] at h
    rcases List.mem_cons.1 hx with rfl | hx
    · exact h.1.1
    · exact colsGo_in h.2 x hx
theorem ixIn_of {s : List Tb} {db : List Dt} {cols : List Int} (h : dbB s db = true) {m : Nat} (h1 : m < s.length) (h2 : m < db.length) (hc : colsInB cols s[m].cols.length = true) (hl : cols.length ≤ 8) : IxIn cols db[m].rows s[m].cols.length := by
  have hs : schemaB s = true := by unfold dbB at h; simp only [Bool.and_eq_true] at h; exact h.1
  have h3 : dataB s[m].cols db[m].rows = true := by
    unfold dbB at h
    simp only [Bool.and_eq_true, decide_eq_true_eq] at h
    exact List.all_eq_true.1 h.2.2 (s[m], db[m]) (by rw [List.mem_iff_getElem]; exact ⟨m, by rw [List.length_zip]; omega, by simp⟩)
  unfold dataB at h3
  rw [Bool.and_eq_true, decide_eq_true_eq] at h3
  obtain ⟨i1, i2⟩ := ids_up h3.2
  unfold colsInB at hc
  rw [Bool.and_eq_true, decide_eq_true_eq] at hc
  refine ⟨hc.2, hl, colsGo_in hc.1, h3.1, fun r hr => ?_, i2⟩
  obtain ⟨j1, j2, j3⟩ := i1 r hr
  have hkl : r.vals.length = s[m].cols.length := by unfold kindsB at j3; rw [Bool.and_eq_true, decide_eq_true_eq] at j3; exact j3.1
  exact ⟨by omega, j2, hkl, kinds_ok j3⟩
theorem entC_cons (v : Value) (e : En) (vs : List Value) (es : List En) : entC (v :: vs) (e :: es) = [v, .int .i64 e.id] ++ entC vs es := rfl
theorem run_copy2 {P : Program} (w : World) (dT sT ty elem : TypeId) (b o dLen dCap : Nat) (a : Addr) (sLen sCap k : Nat) (cs : List Value)
    (hu : P.underlying dT = some (.slice elem)) (hs : (P.info? elem).map (·.size) = some 2) (hk : k = Nat.min sLen dLen) (hn : cs.length = k * 2)
    (hsrc : ∀ j v, cs[j]? = some v → w.cell? (a.add j) = some v) (hc : ∀ j, j < cs.length → (w.cell? ⟨b, o + j, none⟩).isSome = true) (hf : ∀ j, j < cs.length → w.frozen? ⟨b, o + j, none⟩ = false) (h1 : ∀ v ∈ cs, v.oneCell' = true) :
    (Builtin.copy_ #[dT, sT] ty #[.slice (some ⟨b, o, none⟩) dLen dCap, .slice (some a) sLen sCap]).run P w = .ok (goInt k) (w.setCells b o cs) := by
  have hst := run_storeCells_cells (P := P) b o cs 0 w (by simpa using hc) (by simpa using hf) h1
  simp only [Nat.add_zero] at hst
  cases hq : P.info? elem with
  | none => simp [hq] at hs
  | some i =>
    have hi : i.size = 2 := by simpa [hq] using hs
    have hfc := run_firstCells_some (P := P) w i.size k a sLen sCap cs (by rw [hi]; exact hn) hsrc
    simp [Builtin.copy_, run_underlying hu, Builtin.lenOf, sizeOf, typeInfo, hq, ← hk, hfc, hst]
theorem ins_list (cs ys kv : List Value) (i n : Nat) (hi : i ≤ n) (hc : cs.length = n * 2) (hy : ys.length = 2) (hk : kv.length = 2) :
    setAll (setAll (cs ++ ys) ((i + 1) * 2) (cs.drop (i * 2))) (i * 2) kv = cs.take (i * 2) ++ kv ++ cs.drop (i * 2) := by
  have l1 : (cs.drop (i * 2)).length = (n - i) * 2 := by rw [List.length_drop, hc]; omega
  have l0 : (cs ++ ys).length = (n + 1) * 2 := by rw [List.length_append, hc, hy]; omega
  have l2 : (setAll (cs ++ ys) ((i + 1) * 2) (cs.drop (i * 2))).length = (n + 1) * 2 := by rw [setAll_len, l0]
  have l3 : (cs.take (i * 2)).length = i * 2 := by rw [List.length_take, hc]; omega
  refine List.ext_getElem? fun j => ?_
  rw [setAll_get _ _ _ _ (by rw [hk, l2]; omega), hk]
  by_cases h1 : i * 2 ≤ j ∧ j < i * 2 + 2
  · rw [if_pos h1, List.getElem?_append_left (by rw [List.length_append, l3, hk]; omega), List.getElem?_append_right (by rw [l3]; omega), l3]
  · rw [if_neg h1, setAll_get _ _ _ _ (by rw [l1, l0]; omega), l1]
    by_cases h2 : j < i * 2
    · have eL : (cs ++ ys)[j]? = cs[j]? := List.getElem?_append_left (by omega)
      have eR : (cs.take (i * 2) ++ kv ++ cs.drop (i * 2))[j]? = cs[j]? := by
        rw [List.append_assoc, List.getElem?_append_left (by rw [l3]; exact h2), List.getElem?_take, if_pos h2]
      rw [if_neg (by omega), eL, eR]
    · have eR : (cs.take (i * 2) ++ kv ++ cs.drop (i * 2))[j]? = (cs.drop (i * 2))[j - (i + 1) * 2]? := by
        rw [List.getElem?_append_right (by rw [List.length_append, l3, hk]; omega), List.length_append, l3, hk]
        congr 1
        omega
      rw [eR]
      by_cases h3 : j < (n + 1) * 2
      · rw [if_pos (by omega)]
      · rw [if_neg (by omega), List.getElem?_eq_none (by rw [l0]; omega), List.getElem?_eq_none (by rw [l1]; omega)]
theorem ins_list2 (cs kv zs : List Value) (i n : Nat) (hi : i ≤ n) (hc : cs.length = n * 2) (hk : kv.length = 2) (hz : zs.length = (n + 1 - i) * 2) :
    setAll (setAll (cs.take (i * 2) ++ zs) (i * 2) kv) ((i + 1) * 2) (cs.drop (i * 2)) = cs.take (i * 2) ++ kv ++ cs.drop (i * 2) := by
  have l1 : (cs.drop (i * 2)).length = (n - i) * 2 := by rw [List.length_drop, hc]; omega
  have l3 : (cs.take (i * 2)).length = i * 2 := by rw [List.length_take, hc]; omega
  have l0 : (cs.take (i * 2) ++ zs).length = (n + 1) * 2 := by rw [List.length_append, l3, hz]; omega
  refine List.ext_getElem? fun j => ?_
  rw [setAll_get _ _ _ _ (by rw [setAll_len, l1, l0]; omega), l1]
  by_cases h1 : (i + 1) * 2 ≤ j ∧ j < (i + 1) * 2 + (n - i) * 2
  · rw [if_pos h1, List.getElem?_append_right (by rw [List.length_append, l3, hk]; omega), List.length_append, l3, hk]
    congr 1
    omega
  · rw [if_neg h1, setAll_get _ _ _ _ (by rw [hk, l0]; omega), hk]
    by_cases h2 : j < i * 2
    · rw [if_neg (by omega), List.append_assoc, List.getElem?_append_left (by rw [l3]; exact h2), List.getElem?_append_left (by rw [l3]; exact h2)]
    · by_cases h3 : j < i * 2 + 2
      · rw [if_pos (by omega), List.getElem?_append_left (by rw [List.length_append, l3, hk]; omega), List.getElem?_append_right (by rw [l3]; omega), l3]
      · rw [if_neg (by omega), List.getElem?_eq_none (by rw [l0]; omega), List.getElem?_eq_none (by rw [List.length_append, List.length_append, l3, hk, l1]; omega)]
theorem entC_ins (k : Value) (e : En) : ∀ (vs : List Value) (es : List En) (i : Nat), vs.length = es.length → i ≤ es.length → (entC vs es).take (i * 2) ++ [k, .int .i64 e.id] ++ (entC vs es).drop (i * 2) = entC (vs.take i ++ k :: vs.drop i) (es.take i ++ e :: es.drop i)
  | vs, es, 0, _, _ => by simp [entC_cons]
  | [], [], i + 1, _, h => by simp at h
  | [], _ :: _, _ + 1, h, _ => by simp at h
  | _ :: _, [], _ + 1, h, _ => by simp at h
  | v :: vs, x :: es, i + 1, h, hi => by
    have := entC_ins k e vs es i (by simpa using h) (by simpa using hi)
    have e1 : ∀ L : List Value, ([v, .int .i64 x.id] ++ L).take ((i + 1) * 2) = [v, .int .i64 x.id] ++ L.take (i * 2) := fun L => by rw [show (i + 1) * 2 = i * 2 + 1 + 1 by omega]; rfl
    have e2 : ∀ L : List Value, ([v, .int .i64 x.id] ++ L).drop ((i + 1) * 2) = L.drop (i * 2) := fun L => by rw [show (i + 1) * 2 = i * 2 + 1 + 1 by omega]; rfl
    rw [entC_cons, e1, e2, List.take_succ_cons, List.take_succ_cons, List.drop_succ_cons, List.drop_succ_cons]
    have e3 : [v, .int .i64 x.id] ++ (entC vs es).take (i * 2) ++ [k, .int .i64 e.id] ++ (entC vs es).drop (i * 2) = [v, .int .i64 x.id] ++ ((entC vs es).take (i * 2) ++ [k, .int .i64 e.id] ++ (entC vs es).drop (i * 2)) := by simp
    rw [e3, this]
    rfl
theorem ins_nodup {vs : List Value} {k : Value} {i : Nat} (h : (vs.flatMap blk).Nodup) (hn : ∀ b ∈ blk k, b ∉ vs.flatMap blk) : ((vs.take i ++ k :: vs.drop i).flatMap blk).Nodup := by
  have e : vs.flatMap blk = (vs.take i).flatMap blk ++ (vs.drop i).flatMap blk := by rw [← List.flatMap_append, List.take_append_drop]
  rw [e] at h hn
  obtain ⟨h1, h2, h3⟩ := List.nodup_append.1 h
  rw [List.flatMap_append, List.flatMap_cons]
  have hs : ∀ a : Option Nat, a.toList.Nodup := fun a => by cases a <;> simp
  refine List.nodup_append.2 ⟨h1, List.nodup_append.2 ⟨by simpa [blk] using hs k.ownBlock, h2, fun a ha b hb => ?_⟩, fun a ha b hb => ?_⟩
  · rintro rfl
    exact hn a ha (List.mem_append_right _ hb)
  · rintro rfl
    rcases List.mem_append.1 hb with hb | hb
    · exact hn a hb (List.mem_append_left _ ha)
    · exact h3 a ha a hb rfl
theorem OwnE0.ins {w w' : World} {base : Nat} {v v' k : Value} {es : List En} {vs : List Value} {x : En} {i : Nat} (h : OwnE0 w base v es vs) (hi : i ≤ es.length) (hk : OwnK w base k x.key) (hn : ∀ b ∈ blk k, b ∉ vs.flatMap blk)
    (h' : w'.ownsRow base 135 2 v' (es.length + 1) ((entC vs es).take (i * 2) ++ [k, .int .i64 x.id] ++ (entC vs es).drop (i * 2))) (hg : w.grownBy w' v.ownBlock) : OwnE0 w' base v' (es.take i ++ x :: es.drop i) (vs.take i ++ k :: vs.drop i) := by
  have hl : (es.take i ++ x :: es.drop i).length = es.length + 1 := by simp; omega
  have hvl : (vs.take i ++ k :: vs.drop i).length = es.length + 1 := by simp [h.len]; omega
  have hkk : ∀ (u : Value) (xs : List Vl), OwnK w base u xs → OwnK w' base u xs := fun u xs hu => World.ownsRow.kept hu hg (OwnK.ne h.row hu)
  refine ⟨by rw [hl, hvl], by rw [hl, ← entC_ins k x vs es i h.len hi]; exact h', fun j hj hj' => ?_, ins_nodup h.apart hn⟩
  have hti : (vs.take i).length = i := by rw [List.length_take, h.len]; omega
  have hte : (es.take i).length = i := by rw [List.length_take]; omega
  rcases Nat.lt_or_ge j i with h1 | h1
  · rw [List.getElem_append_left (by omega), List.getElem_append_left (by omega), List.getElem_take, List.getElem_take]
    exact hkk _ _ (h.key j (by omega) (by rw [h.len]; omega))
  · rcases Nat.eq_or_lt_of_le h1 with rfl | h2
    · rw [List.getElem_append_right (by omega), List.getElem_append_right (by omega)]
      simp only [hti, hte, Nat.sub_self, List.getElem_cons_zero]
      exact hkk _ _ hk
    · obtain ⟨t, rfl⟩ : ∃ t, j = i + 1 + t := ⟨j - i - 1, by omega⟩
      rw [List.getElem_append_right (by omega), List.getElem_append_right (by omega)]
      simp only [hti, hte, show i + 1 + t - i = t + 1 by omega, List.getElem_cons_succ, List.getElem_drop]
      exact hkk _ _ (h.key (i + t) (by rw [hl] at hj; omega) (by rw [h.len]; rw [hl] at hj; omega))
theorem ownsRow_ext {w : World} {T : TypeId} {base g n cap : Nat} {xs : List Value} (h : w.ownsRow base T 2 (.slice (some ⟨g, 0, none⟩) n cap) n xs) (hc : n + 1 ≤ cap) : ∃ ys : List Value, ys.length = 2 ∧ w.ownsRow base T 2 (.slice (some ⟨g, 0, none⟩) (n + 1) cap) (n + 1) (xs ++ ys) := by
  rcases h.2 with ⟨e, -⟩ | ⟨g', cap', cur, e, h1, h2, h3, h4, h5, h6⟩
  · cases e
  · injection e with e1 e2 e3
    injection e1 with e1
    injection e1 with e1
    subst e1 e3
    have hl := h.1
    have hs : cur.toList.length = cap * 2 := by rw [Array.length_toList]; exact h5
    refine ⟨(cur.toList.drop (n * 2)).take 2, by rw [List.length_take, List.length_drop, hs]; omega, by rw [List.length_append, hl, List.length_take, List.length_drop, hs]; omega, .inr ⟨g, cap, cur, rfl, h1, h2, hc, h4, h5, ?_⟩⟩
    rw [← h6, show (n + 1) * 2 = n * 2 + 2 by omega, List.take_add]
theorem row_cells {w : World} {g : Nat} {T : TypeId} {a b : Value} (h : Row w g T #[a, b]) : (∀ j u, ([a, b] : List Value)[j]? = some u → w.cell? ⟨g, j, none⟩ = some u) := fun j u hj => by
  match j, hj with
  | 0, hj => cases hj; exact h.cell 0
  | 1, hj => cases hj; exact h.cell 1
set_option maxRecDepth 100000 in
set_option maxHeartbeats 2000000 in
theorem libInsertEnd (base : Nat) (A : Option Addr) (c : Nat) (l : List En) (vb : Nat) (k : Value) (e : En) (vs : List Value) (w : World) (h : OwnE0 w base (.slice A l.length c) l vs) (hb : base ≤ w.heap.size) (hl : l.length ≤ 1048576) (hv : Row w vb 135 #[k, .int .i64 e.id]) (hk : OwnK w base k e.key) (hn : ∀ b ∈ blk k, b ∉ vs.flatMap blk) :
    Calls Tryz.prog 123 #[.slice A l.length c, .int .i64 l.length, .slice (some ⟨vb, 0, none⟩) 1 1] w fun r w' => ∃ v', r = .returned v' ∧ OwnE0 w' base v' (l.take l.length ++ e :: l.drop l.length) (vs.take l.length ++ k :: vs.drop l.length) ∧ w.grownBy w' (Value.slice A l.length c).ownBlock := by
  obtain ⟨i0, hi, hz0, hz1, hz2⟩ := info_parts infoEntC
  have H1 := Lib.hid hi
  have H2 := Lib.hid hz0
  have H3 := Lib.hid hz1
  have H4 := Lib.hid hz2
  clear hi hz0 hz1 hz2
  have HV := Lib.hid (row_cells hv)
  have HO := Lib.hid h
  have HK := Lib.hid (OwnK.one hk)
  have hcl := entC_len vs l h.len
  clear h
  have hcase : c = l.length ∨ ¬ c = l.length := Decidable.em _
  rcases hcase with rfl | hcc
  · go_enter Tryz.func123, Tryz.ntmps123
    go_wp2_with (at_builtin; refine wpList_append_own _ rfl _ _ 47 rfl base 135 i0 (.agg #[.slice none 0 0, .int .i64 0]) 2 32 Tryz.underlying47 H1.out H2.out H3.out H4.out rfl (by decide) _ _ _ rfl HO.out.row ⟨vb, 0, none⟩ 1 1 [k, .int .i64 e.id] rfl rfl ?c1 ?c2 ?c3 ?c4 ?c5 ?_)
    case c1 => intro j u hj; rw [addr_add, Nat.zero_add]; exact HV.out j u hj
    case c2 => intro u hu; simp at hu; rcases hu with rfl | rfl; exact HK.out; rfl
    case c3 => unfold maxLen; omega
    case c4 => omega
    case c5 => exact hb
    intro v9 w9 hown9 hgrow9 _
    go_wp2_with fail
    go_ret
    refine ⟨_, rfl, OwnE0.ins HO.out (Nat.le_refl _) hk hn ?_ hgrow9, hgrow9⟩
    rw [List.take_of_length_le (by rw [hcl]; exact Nat.le_refl _), List.drop_of_length_le (by rw [hcl]; exact Nat.le_refl _), List.append_nil]
    exact hown9
  · go_enter Tryz.func123, Tryz.ntmps123
    go_wp2_with (at_builtin; refine wpList_append_own _ rfl _ _ 47 rfl base 135 i0 (.agg #[.slice none 0 0, .int .i64 0]) 2 32 Tryz.underlying47 H1.out H2.out H3.out H4.out rfl (by decide) _ _ _ rfl HO.out.row ⟨vb, 0, none⟩ 1 1 [k, .int .i64 e.id] rfl rfl ?c1 ?c2 ?c3 ?c4 ?c5 ?_)
    case c1 => intro j u hj; rw [addr_add, Nat.zero_add]; exact HV.out j u hj
    case c2 => intro u hu; simp at hu; rcases hu with rfl | rfl; exact HK.out; rfl
    case c3 => unfold maxLen; omega
    case c4 => omega
    case c5 => exact hb
    intro v9 w9 hown9 hgrow9 _
    go_wp2_with fail
    go_ret
    refine ⟨_, rfl, OwnE0.ins HO.out (Nat.le_refl _) hk hn ?_ hgrow9, hgrow9⟩
    rw [List.take_of_length_le (by rw [hcl]; exact Nat.le_refl _), List.drop_of_length_le (by rw [hcl]; exact Nat.le_refl _), List.append_nil]
    exact hown9
theorem shifted {w : World} {base g c i : Nat} {l : List En} {vs : List Value} {k : Value} {e : En} (h : OwnE0 w base (.slice (some ⟨g, 0, none⟩) l.length c) l vs) (hi : i < l.length) (hc : l.length + 1 ≤ c) (hk : OwnK w base k e.key) (hn : ∀ b ∈ blk k, b ∉ vs.flatMap blk) :
    OwnE0 ((w.setCells g ((i + 1) * 2) ((entC vs l).drop (i * 2))).setCells g (i * 2) [k, .int .i64 e.id]) base (.slice (some ⟨g, 0, none⟩) (l.length + 1) c) (l.take i ++ e :: l.drop i) (vs.take i ++ k :: vs.drop i) ∧
      w.grownBy ((w.setCells g ((i + 1) * 2) ((entC vs l).drop (i * 2))).setCells g (i * 2) [k, .int .i64 e.id]) (some g) ∧
      (∀ j, j < (l.length + 1) * 2 → (w.cell? ⟨g, j, none⟩).isSome = true) ∧ (∀ j, j < (l.length + 1) * 2 → ((w.setCells g ((i + 1) * 2) ((entC vs l).drop (i * 2))).cell? ⟨g, j, none⟩).isSome = true) ∧ (∀ o, w.frozen? ⟨g, o, none⟩ = false) ∧ (∀ o, (w.setCells g ((i + 1) * 2) ((entC vs l).drop (i * 2))).frozen? ⟨g, o, none⟩ = false) := by
  obtain ⟨ys, hy, h1⟩ := ownsRow_ext h.row hc
  have hl := entC_len vs l h.len
  obtain ⟨s1, g1⟩ := setCells_owns ((entC vs l).drop (i * 2)) ((i + 1) * 2) w _ h1
  obtain ⟨s2, g2⟩ := setCells_owns [k, .int .i64 e.id] (i * 2) _ _ s1
  have hg := g1.trans g2
  rw [ins_list (entC vs l) ys [k, .int .i64 e.id] i l.length (by omega) hl hy rfl] at s2
  refine ⟨OwnE0.ins h (by omega) hk hn s2 hg, hg, fun j hj => ?_, fun j hj => ?_, World.ownsRow.frozenAt h1, World.ownsRow.frozenAt s1⟩
  · rw [World.ownsRow.cellAt h1 j hj, List.getElem?_eq_getElem (by rw [List.length_append, hl, hy]; omega)]; rfl
  · rw [World.ownsRow.cellAt s1 j hj, List.getElem?_eq_getElem (by rw [setAll_len, List.length_append, hl, hy]; omega)]; rfl
set_option maxRecDepth 100000 in
set_option maxHeartbeats 2000000 in
theorem libInsertShift (base g : Nat) (c i : Nat) (l : List En) (vb : Nat) (k : Value) (e : En) (vs : List Value) (w : World) (h : OwnE0 w base (.slice (some ⟨g, 0, none⟩) l.length c) l vs) (hb : base ≤ w.heap.size) (hl : l.length ≤ 1048576) (hi : i < l.length) (hc : l.length + 1 ≤ c) (hcm : c ≤ maxLen) (hv : Row w vb 135 #[k, .int .i64 e.id]) (hvb : vb ≠ g) (hk : OwnK w base k e.key) (hn : ∀ b ∈ blk k, b ∉ vs.flatMap blk) :
    Calls Tryz.prog 123 #[.slice (some ⟨g, 0, none⟩) l.length c, .int .i64 i, .slice (some ⟨vb, 0, none⟩) 1 1] w fun r w' => ∃ v', r = .returned v' ∧ OwnE0 w' base v' (l.take i ++ e :: l.drop i) (vs.take i ++ k :: vs.drop i) ∧ w.grownBy w' (some g) := by
  obtain ⟨i0, hi0, hz0, hzs, hzb⟩ := info_parts infoEntC
  have hsz : (Tryz.prog.info? 135).map (·.size) = some 2 := by rw [hi0]; simp [hzs]
  have hcl := entC_len vs l h.len
  have hvc := row_cells hv
  have hd : OwnE0 w.drew base (.slice (some ⟨g, 0, none⟩) l.length c) l vs := ⟨h.len, h.row, h.key, h.apart⟩
  have hkd : OwnK w.drew base k e.key := hk
  obtain ⟨hO, hG, hS0, hS1, hF0, hF1⟩ := shifted hd hi hc hkd hn
  have hcell : ∀ j u, (entC vs l)[j]? = some u → w.cell? ⟨g, j, none⟩ = some u := fun j u hj => by
    have hlt := (List.getElem?_eq_some_iff.1 hj).1
    rw [World.ownsRow.cellAt h.row j (by omega)]
    exact hj
  have hone : ∀ u ∈ entC vs l, u.oneCell' = true := entC_one vs l h.len (fun v hv9 => by
    obtain ⟨t, ht, rfl⟩ := List.mem_iff_getElem.1 hv9
    exact OwnK.one (h.key t (by rw [← h.len]; exact ht) ht))
  have hgw : g < w.heap.size := by
    obtain ⟨-, cur, k2⟩ := ownsRow_typed h.row (k := g) rfl
    exact lt_of_block k2
  obtain ⟨TB, kB, hsb, hkB⟩ : ∃ TB kB, w.shape? g = some (TB, kB) ∧ kB ≠ 0 := by
    rcases h.row.2 with ⟨e9, -⟩ | ⟨g', cap', cur, e9, h1, h2, h3, h4, h5, h6⟩
    · cases e9
    · injection e9 with e1 e2 e3
      injection e1 with e1
      injection e1 with e1
      subst e1 e3
      refine ⟨135, cur.size, by unfold World.shape?; rw [h2], by omega⟩
  have hov : ∀ lb cb, (callFunc 169 #[.slice (some ⟨vb, 0, none⟩) 1 1, .slice (some ⟨g, (i + 1) * 2, none⟩) lb cb]).run Tryz.prog w = .ok (.value (.bool false)) w := fun lb cb => by
    rw [run_callFunc_extern Tryz.func169 (by kernel_rfl) (by kernel_rfl) (by kernel_rfl) (e := Extern.SlicesOverlaps.overlaps #[47, 47] #[4]) (by kernel_rfl),
      Lib.run_overlaps_apart w 47 4 135 Tryz.underlying47 2 (fun w => by simp [sizeOf, typeInfo, hi0, hzs]) ⟨vb, 0, none⟩ ⟨g, (i + 1) * 2, none⟩ 1 1 lb cb hvb _ TB 2 kB (by unfold World.shape?; rw [show w.heap[vb]? = _ from hv]; rfl) hsb hkB (by simp [World.frozen?, show w.heap[vb]? = _ from hv]) (by simp [World.frozen?, show w.heap[vb]? = _ from hv])]
    rfl
  have hdl : ((entC vs l).drop (i * 2)).length = (l.length - i) * 2 := by rw [List.length_drop, hcl]; omega
  have hcp1 : ∀ ty dc sc, (Builtin.copy_ #[47, 47] ty #[.slice (some ⟨g, (i + 1) * 2, none⟩) (l.length - i) dc, .slice (some ⟨g, i * 2, none⟩) (l.length + 1 - i) sc]).run Tryz.prog w.drew = .ok (goInt ((l.length - i : Nat) : Int)) (w.drew.setCells g ((i + 1) * 2) ((entC vs l).drop (i * 2))) := fun ty dc sc =>
    run_copy2 w.drew _ _ ty 135 g ((i + 1) * 2) (l.length - i) dc ⟨g, i * 2, none⟩ (l.length + 1 - i) sc (l.length - i) _ Tryz.underlying47 hsz (by simp only [Nat.min_def]; split <;> omega) hdl
      (fun j u hj => by rw [addr_add]; rw [List.getElem?_drop] at hj; exact hcell _ _ hj) (fun j hj => hS0 _ (by rw [hdl] at hj; omega)) (fun j hj => hF0 _) (fun u hu => hone u (List.mem_of_mem_drop hu))
  obtain ⟨W1, hW1⟩ : ∃ W1, W1 = w.drew.setCells g ((i + 1) * 2) ((entC vs l).drop (i * 2)) := ⟨_, rfl⟩
  rw [← hW1] at hcp1 hO hG hS1 hF1
  have hv1 : ∀ j u, ([k, .int .i64 e.id] : List Value)[j]? = some u → W1.cell? ⟨vb, j, none⟩ = some u := fun j u hj => by
    rw [hW1, World.cell?_setCells_out g _ _ _ _ (fun h9 _ => absurd h9 hvb)]
    exact hvc j u hj
  have hcp2 : ∀ ty dc, (Builtin.copy_ #[47, 47] ty #[.slice (some ⟨g, i * 2, none⟩) (l.length + 1 - i) dc, .slice (some ⟨vb, 0, none⟩) 1 1]).run Tryz.prog W1 = .ok (goInt ((1 : Nat) : Int)) (W1.setCells g (i * 2) [k, .int .i64 e.id]) := fun ty dc =>
    run_copy2 W1 _ _ ty 135 g (i * 2) (l.length + 1 - i) dc ⟨vb, 0, none⟩ 1 1 1 _ Tryz.underlying47 hsz (by simp only [Nat.min_def]; split <;> omega) rfl
      (fun j u hj => by rw [addr_add, Nat.zero_add]; exact hv1 j u hj) (fun j hj => hS1 _ (by simp at hj; omega)) (fun j hj => hF1 _) (fun u hu => by simp at hu; rcases hu with rfl | rfl; exact OwnK.one hk; rfl)
  have HO := Lib.hid hO
  have HG := Lib.hid hG
  have HCP1 := Lib.hid hcp1
  clear hO hG hS0 hS1 hF0 hF1 hcell hone hcp1 hv1 hvc hd hkd hdl hsb hkB hW1
  have hz2 : ¬ ((i : Int) = (l.length : Int)) := by omega
  have hw1 : IntKind.i64.wrap ((i : Int) + 1) = (i : Int) + 1 := IntWalk.i64_in _ (by omega)
  have hw2 : IntKind.i64.wrap ((l.length : Int) + 1) = (l.length : Int) + 1 := IntWalk.i64_in _ (by omega)
  have hb1 : (0 : Int) ≤ (i : Int) + 1 := by omega
  have hb2 : ¬ (c = i + 1) := by omega
  have hb3 : (i : Int) ≤ (l.length : Int) + 1 := by omega
  have hb4 : ¬ (c = i) := by omega
  have hb5 : ((i : Int) + 1) ≤ (l.length : Int) + 1 := by omega
  have hb6 : ((l.length : Int) + 1) ≤ c := by omega
  have hb7 : i ≤ l.length := by omega
  have hb8 : (i : Int) ≤ l.length := by omega
  have hb9 : (0 : Int) ≤ i := by omega
  have ht1 : ((i : Int) + 1).toNat = i + 1 := by omega
  have ht2 : ((l.length : Int) + 1).toNat = l.length + 1 := by omega
  have hgt : decide ((c : Int) < (l.length : Int) + 1) = false := decide_eq_false (by omega)
  go_enter Tryz.func123, Tryz.ntmps123
  go_upto_region 15 with (simp only [hov])
  go_region_law (refine Go.Proofs.step_copy_runI rfl _ _ 47 47 rfl (.slice (some ⟨g, (i + 1) * 2, none⟩) (l.length - i) (c - (i + 1))) (.slice (some ⟨g, i * 2, none⟩) (l.length + 1 - i) (c - i)) (by simp [Act.eval, Act.put]) (by simp [Act.eval, Act.put]) (HCP1.out _ _ _) ?_)
  go_wp2_with fail
  go_ret
  exact ⟨_, rfl, HO.out, ⟨HG.out.os, HG.out.tape, HG.out.output, HG.out.size, HG.out.block⟩⟩
theorem regrown {w W1 : World} {base g c G i : Nat} {l : List En} {vs : List Value} {k : Value} {e : En} {z : Array Value} (h : OwnE0 w base (.slice (some ⟨g, 0, none⟩) l.length c) l vs) (hb : base ≤ w.heap.size) (hi : i < l.length) (hG : l.length + 1 ≤ G) (hGm : G ≤ maxLen) (hz : z.size = 2) (hk : OwnK w base k e.key) (hn : ∀ b ∈ blk k, b ∉ vs.flatMap blk)
    (hW : W1 = w.drew.alloc (.cells (((entC vs l).take (i * 2)).toArray ++ Builtin.zeroCells z (l.length + 1 - i) ++ Builtin.zeroCells z (G - (l.length + 1))) 135)) :
    OwnE0 (((W1.setCells w.heap.size (i * 2) [k, .int .i64 e.id]).drew).setCells w.heap.size ((i + 1) * 2) ((entC vs l).drop (i * 2))) base (.slice (some ⟨w.heap.size, 0, none⟩) (l.length + 1) G) (l.take i ++ e :: l.drop i) (vs.take i ++ k :: vs.drop i) ∧
      w.grownBy (((W1.setCells w.heap.size (i * 2) [k, .int .i64 e.id]).drew).setCells w.heap.size ((i + 1) * 2) ((entC vs l).drop (i * 2))) (some g) ∧
      (∀ j, j < (l.length + 1) * 2 → (W1.cell? ⟨w.heap.size, j, none⟩).isSome = true) ∧ (∀ j, j < (l.length + 1) * 2 → ((W1.setCells w.heap.size (i * 2) [k, .int .i64 e.id]).drew.cell? ⟨w.heap.size, j, none⟩).isSome = true) ∧ (∀ o, W1.frozen? ⟨w.heap.size, o, none⟩ = false) ∧ (∀ o, (W1.setCells w.heap.size (i * 2) [k, .int .i64 e.id]).drew.frozen? ⟨w.heap.size, o, none⟩ = false) := by
  have hl := entC_len vs l h.len
  have hl3 : ((entC vs l).take (i * 2)).length = i * 2 := by rw [List.length_take, hl]; omega
  have hzs : (Builtin.zeroCells z (l.length + 1 - i)).toList.length = (l.length + 1 - i) * 2 := by rw [Array.length_toList, size_zeroCells, hz]
  have hz2 : (Builtin.zeroCells z (G - (l.length + 1))).toList.length = (G - (l.length + 1)) * 2 := by rw [Array.length_toList, size_zeroCells, hz]
  have h1 : W1.ownsRow base 135 2 (.slice (some ⟨w.heap.size, 0, none⟩) (l.length + 1) G) (l.length + 1) ((entC vs l).take (i * 2) ++ (Builtin.zeroCells z (l.length + 1 - i)).toList) := by
    refine ⟨by rw [List.length_append, hl3, hzs]; omega, .inr ⟨w.heap.size, G, ((entC vs l).take (i * 2)).toArray ++ Builtin.zeroCells z (l.length + 1 - i) ++ Builtin.zeroCells z (G - (l.length + 1)), rfl, hb, ?_, hG, hGm, ?_, ?_⟩⟩
    · rw [hW]; exact heap_alloc_new w.drew _
    · simp only [Array.size_append, List.size_toArray, hl3, size_zeroCells, hz]; omega
    · simp only [Array.toList_append]
      rw [List.take_append_of_le_length (by rw [List.length_append, hl3, hzs]; omega), List.take_of_length_le (by rw [List.length_append, hl3, hzs]; omega)]
  have g0 : ∀ row, w.grownBy W1 row := fun row => by
    rw [hW]
    have := World.grownBy_alloc w.drew (.cells (((entC vs l).take (i * 2)).toArray ++ Builtin.zeroCells z (l.length + 1 - i) ++ Builtin.zeroCells z (G - (l.length + 1))) 135) row
    exact ⟨this.os, this.tape, this.output, this.size, this.block⟩
  obtain ⟨s1, g1⟩ := setCells_owns [k, .int .i64 e.id] (i * 2) _ _ h1
  have s1d : (W1.setCells w.heap.size (i * 2) [k, .int .i64 e.id]).drew.ownsRow base 135 2 (.slice (some ⟨w.heap.size, 0, none⟩) (l.length + 1) G) (l.length + 1) _ := s1
  obtain ⟨s2, g2⟩ := setCells_owns ((entC vs l).drop (i * 2)) ((i + 1) * 2) _ _ s1d
  have hg : w.grownBy (((W1.setCells w.heap.size (i * 2) [k, .int .i64 e.id]).drew).setCells w.heap.size ((i + 1) * 2) ((entC vs l).drop (i * 2))) (some g) := by
    have ga := g0 (some g)
    refine ⟨g2.os.trans (g1.os.trans ga.os), g2.tape.trans (g1.tape.trans ga.tape), g2.output.trans (g1.output.trans ga.output), Nat.le_trans ga.size (Nat.le_trans g1.size g2.size), fun q hq hq' => ?_⟩
    have hne : some q ≠ some w.heap.size := fun h9 => by injection h9 with h9; omega
    have q1 : q < W1.heap.size := Nat.lt_of_lt_of_le hq ga.size
    exact (g2.block q (Nat.lt_of_lt_of_le q1 g1.size) hne).trans ((g1.block q q1 hne).trans (ga.block q hq hq'))
  rw [ins_list2 (entC vs l) [k, .int .i64 e.id] _ i l.length (by omega) hl rfl hzs] at s2
  refine ⟨OwnE0.ins h (by omega) hk hn s2 hg, hg, fun j hj => ?_, fun j hj => ?_, World.ownsRow.frozenAt h1, World.ownsRow.frozenAt s1d⟩
  · rw [World.ownsRow.cellAt h1 j hj, List.getElem?_eq_getElem (by rw [List.length_append, hl3, hzs]; omega)]; rfl
  · rw [World.ownsRow.cellAt s1d j hj, List.getElem?_eq_getElem (by rw [setAll_len, List.length_append, hl3, hzs]; omega)]; rfl
set_option maxRecDepth 100000 in
set_option maxHeartbeats 2000000 in
theorem libInsertGrow (base g : Nat) (c i : Nat) (l : List En) (vb : Nat) (k : Value) (e : En) (vs : List Value) (w : World) (h : OwnE0 w base (.slice (some ⟨g, 0, none⟩) l.length c) l vs) (hb : base ≤ w.heap.size) (hl : l.length ≤ 1048576) (hi : i < l.length) (hc : c < l.length + 1) (hcn : l.length ≤ c) (hv : Row w vb 135 #[k, .int .i64 e.id]) (hk : OwnK w base k e.key) (hn : ∀ b ∈ blk k, b ∉ vs.flatMap blk) :
    Calls Tryz.prog 123 #[.slice (some ⟨g, 0, none⟩) l.length c, .int .i64 i, .slice (some ⟨vb, 0, none⟩) 1 1] w fun r w' => ∃ v', r = .returned v' ∧ OwnE0 w' base v' (l.take i ++ e :: l.drop i) (vs.take i ++ k :: vs.drop i) ∧ w.grownBy w' (some g) := by
  obtain ⟨i0, hi0, hz0, hzs, hzb⟩ := info_parts infoEntC
  have hsz : (Tryz.prog.info? 135).map (·.size) = some 2 := by rw [hi0]; simp [hzs]
  have hcl := entC_len vs l h.len
  have hcell : ∀ j u, (entC vs l)[j]? = some u → w.cell? ⟨g, j, none⟩ = some u := fun j u hj => by
    have hlt := (List.getElem?_eq_some_iff.1 hj).1
    rw [World.ownsRow.cellAt h.row j (by omega)]
    exact hj
  have hone : ∀ u ∈ entC vs l, u.oneCell' = true := entC_one vs l h.len (fun v hv9 => by
    obtain ⟨t, ht, rfl⟩ := List.mem_iff_getElem.1 hv9
    exact OwnK.one (h.key t (by rw [← h.len]; exact ht) ht))
  have hgw : g < w.heap.size := by
    obtain ⟨-, cur, k2⟩ := ownsRow_typed h.row (k := g) rfl
    exact lt_of_block k2
  have hvw : vb < w.heap.size := lt_of_block hv
  have hold : (Builtin.firstCells i0.size i (.slice (some ⟨g, 0, none⟩) i c)).run Tryz.prog w.drew = .ok ((entC vs l).take (i * 2)).toArray w.drew := by
    rw [hzs]
    exact run_firstCells_some w.drew 2 i ⟨g, 0, none⟩ i c ((entC vs l).take (i * 2)) (by rw [List.length_take]; omega) (fun j v hj => by
      rw [addr_add, Nat.zero_add]
      rw [List.getElem?_take] at hj
      split at hj
      · exact hcell j v hj
      · cases hj)
  obtain ⟨G, hG⟩ : ∃ G, G = grownCap w (l.length + 1) c 135 := ⟨_, rfl⟩
  have hik : i + (l.length + 1 - i) = l.length + 1 := by omega
  have hrz : ∀ ty, (Builtin.append_ #[47, 3] ty #[.slice (some ⟨g, 0, none⟩) i c, .int .i64 ((l.length : Int) + 1 - (i : Int))]).run Tryz.prog w =
      .ok (.slice (some ⟨w.heap.size, 0, none⟩) (l.length + 1) G) (w.drew.alloc (.cells (((entC vs l).take (i * 2)).toArray ++ Builtin.zeroCells (Value.agg #[.slice none 0 0, .int .i64 0]).cells (l.length + 1 - i) ++ Builtin.zeroCells (Value.agg #[.slice none 0 0, .int .i64 0]).cells (G - (l.length + 1))) 135)) := fun ty => by
    have h9 := Lib.run_append_grow_zeros w 47 3 ty 135 i0 _ .i64 .i64 Tryz.underlying47 Tryz.underlying3 hi0 hz0 (some ⟨g, 0, none⟩) i c ((entC vs l).take (i * 2)) hold (l.length + 1 - i) (by omega) (by omega) (by omega) (by omega) (by rw [hzb]; omega) (by rw [hzb, hik]; exact growslice_fits hc (by omega))
    rw [hik] at h9
    rw [hG, show (l.length : Int) + 1 - (i : Int) = ((l.length + 1 - i : Nat) : Int) by omega]
    exact h9
  have hGn : l.length + 1 ≤ G := by rw [hG]; exact grownCap_ge w _ _ _
  have hGm : G ≤ maxLen := by rw [hG]; exact grownCap_le_maxLen w _ _ _ (by unfold maxLen; omega)
  clear hG hold
  obtain ⟨W1, hW1⟩ : ∃ W1, W1 = w.drew.alloc (.cells (((entC vs l).take (i * 2)).toArray ++ Builtin.zeroCells (Value.agg #[.slice none 0 0, .int .i64 0]).cells (l.length + 1 - i) ++ Builtin.zeroCells (Value.agg #[.slice none 0 0, .int .i64 0]).cells (G - (l.length + 1))) 135) := ⟨_, rfl⟩
  rw [← hW1] at hrz
  obtain ⟨hO, hGr, hS0, hS1, hF0, hF1⟩ := regrown h hb hi hGn hGm (by rfl) hk hn hW1
  have hOb : ∀ b, b < w.heap.size → ∀ j v, w.cell? ⟨b, j, none⟩ = some v → W1.cell? ⟨b, j, none⟩ = some v := fun b hb9 j v h9 => by rw [hW1, World.cell?_alloc_past (w := w.drew) _ b j hb9]; exact h9
  have hdl : ((entC vs l).drop (i * 2)).length = (l.length - i) * 2 := by rw [List.length_drop, hcl]; omega
  obtain ⟨N, hN⟩ : ∃ N, N = w.heap.size := ⟨_, rfl⟩
  rw [← hN] at hrz hO hGr hS0 hS1 hF0 hF1 hgw hvw hOb
  have hcp1 : ∀ ty dc, (Builtin.copy_ #[47, 47] ty #[.slice (some ⟨N, i * 2, none⟩) (l.length + 1 - i) dc, .slice (some ⟨vb, 0, none⟩) 1 1]).run Tryz.prog W1 = .ok (goInt ((1 : Nat) : Int)) (W1.setCells N (i * 2) [k, .int .i64 e.id]) := fun ty dc =>
    run_copy2 W1 _ _ ty 135 N (i * 2) (l.length + 1 - i) dc ⟨vb, 0, none⟩ 1 1 1 _ Tryz.underlying47 hsz (by simp only [Nat.min_def]; split <;> omega) rfl
      (fun j u hj => by rw [addr_add, Nat.zero_add]; exact hOb vb hvw j u (row_cells hv j u hj)) (fun j hj => hS0 _ (by simp at hj; omega)) (fun j hj => hF0 _) (fun u hu => by simp at hu; rcases hu with rfl | rfl; exact OwnK.one hk; rfl)
  obtain ⟨W2, hW2⟩ : ∃ W2, W2 = W1.setCells N (i * 2) [k, .int .i64 e.id] := ⟨_, rfl⟩
  rw [← hW2] at hcp1 hO hGr hS1 hF1
  have hcp2 : ∀ ty dc sc, (Builtin.copy_ #[47, 47] ty #[.slice (some ⟨N, (i + 1) * 2, none⟩) (l.length - i) dc, .slice (some ⟨g, i * 2, none⟩) (l.length - i) sc]).run Tryz.prog W2.drew = .ok (goInt ((l.length - i : Nat) : Int)) (W2.drew.setCells N ((i + 1) * 2) ((entC vs l).drop (i * 2))) := fun ty dc sc =>
    run_copy2 W2.drew _ _ ty 135 N ((i + 1) * 2) (l.length - i) dc ⟨g, i * 2, none⟩ (l.length - i) sc (l.length - i) _ Tryz.underlying47 hsz (by simp only [Nat.min_def]; split <;> omega) hdl
      (fun j u hj => by
        rw [addr_add]
        show W2.cell? _ = _
        rw [hW2, World.cell?_setCells_out N _ _ _ _ (fun h9 _ => absurd h9 (by show g ≠ N; omega))]
        rw [List.getElem?_drop] at hj
        exact hOb g hgw _ u (hcell _ _ hj)) (fun j hj => hS1 _ (by rw [hdl] at hj; omega)) (fun j hj => hF1 _) (fun u hu => hone u (List.mem_of_mem_drop hu))
  have HO := Lib.hid hO
  have HG := Lib.hid hGr
  have HRZ := Lib.hid hrz
  have HCP2 := Lib.hid hcp2
  clear hO hGr hS0 hS1 hF0 hF1 hcell hone hdl hW1 hW2 hrz hcp2 hOb hN hgw hvw hik
  have hz2 : ¬ ((i : Int) = (l.length : Int)) := by omega
  have hw1 : IntKind.i64.wrap ((i : Int) + 1) = (i : Int) + 1 := IntWalk.i64_in _ (by omega)
  have hw2 : IntKind.i64.wrap ((l.length : Int) + 1) = (l.length : Int) + 1 := IntWalk.i64_in _ (by omega)
  have hw3 : IntKind.i64.wrap ((l.length : Int) + 1 - (i : Int)) = (l.length : Int) + 1 - (i : Int) := IntWalk.i64_in _ (by omega)
  have hb1 : (0 : Int) ≤ (i : Int) + 1 := by omega
  have hb3 : (i : Int) ≤ (l.length : Int) + 1 := by omega
  have hb4 : ¬ (c = i) := by omega
  have hb5 : ((i : Int) + 1) ≤ (l.length : Int) + 1 := by omega
  have hb7 : i ≤ l.length := by omega
  have hb8 : (i : Int) ≤ l.length := by omega
  have hb9 : (0 : Int) ≤ i := by omega
  have hb10 : i ≤ c := by omega
  have hb11 : (i : Int) ≤ c := by omega
  have hGi : ¬ (G = i) := by omega
  have hGi1 : ¬ (G = i + 1) := by omega
  have ht1 : ((i : Int) + 1).toNat = i + 1 := by omega
  have ht2 : ((l.length : Int) + 1).toNat = l.length + 1 := by omega
  have hgt : decide ((c : Int) < (l.length : Int) + 1) = true := decide_eq_true (by omega)
  have hlt : (c : Int) < (l.length : Int) + 1 := by omega
  go_enter Tryz.func123, Tryz.ntmps123
  go_wp2_with (at_builtin; refine Lib.wpList_append_run _ rfl _ _ _ _ rfl _ _ rfl rfl _ _ (HRZ.out _) ?_)
  go_region_law (refine Go.Proofs.step_copy_runI rfl _ _ 47 47 rfl (.slice (some ⟨N, (i + 1) * 2, none⟩) (l.length - i) (G - (i + 1))) (.slice (some ⟨g, i * 2, none⟩) (l.length - i) (c - i)) (by simp [Act.eval, Act.put]) (by simp [Act.eval, Act.put]) (HCP2.out _ _ _) ?_)
  go_wp2_with fail
  go_ret
  exact ⟨_, rfl, HO.out, HG.out⟩
end Go.Proofs.YtemimhghhihllaaGreat
namespace Go.Proofs.YtemimhghhihllaaGreat
open Go.RowKit
attribute [local go_sem] run_store_fnE
def boxS (A : Option Addr) (n c : Nat) : Array Value := #[.slice A n c, .func (.func 68) #[] #[]]
set_option maxRecDepth 100000 in
set_option maxHeartbeats 2000000 in
theorem implFind (b : Nat) (A : Option Addr) (n c : Nat) (l : List En) (ok : Nat → Prop) (e : En) (B : Option Addr) (m d : Nat) (ok' : Nat → Prop) (w : World) (hbx : Row w b 128 (boxS A n c)) (h : Sl EnR 2 ok w A n l) (hn : n ≤ 1048576) (hk : ∀ x ∈ l, x.key.length ≤ 1048576) (hE : Sl VlR 3 ok' w B m e.key) (hm : m ≤ 1048576) :
    Calls Tryz.prog 122 #[.pointer (some ⟨b, 0, none⟩), .agg #[.slice B m d, .int .i64 e.id]] w fun r w' => r = .returned (.tuple #[.int .i64 (bs l e : Nat), .bool (bsHit l e)]) ∧ Below w.heap.size w w' := by
  have hb0 := (Below.refl w.heap.size w).alloc (Nat.le_refl _) (.cells #[.slice B m d, .int .i64 e.id] 135)
  have r0 := Row.new w 135 #[.slice B m d, .int .i64 e.id]
  have hb1 := hbx.below hb0
  have p0 : (w.alloc (.cells #[.slice B m d, .int .i64 e.id] 135)).cell? ⟨b, 0, none⟩ = some (.slice A n c) := hb1.cell 0
  have p1 : (w.alloc (.cells #[.slice B m d, .int .i64 e.id] 135)).cell? ⟨b, 1, none⟩ = some (.func (.func 68) #[] #[]) := hb1.cell 1
  go_enter Tryz.func122, Tryz.ntmps122
  go_wp2_with fail
  have hE' : Sl VlR 3 ok' (w.alloc (.cells #[.slice B m d, .int .i64 e.id] 135)) B m e.key := hE.below VlR.stays hb0
  have h' : Sl EnR 2 ok (w.alloc (.cells #[.slice B m d, .int .i64 e.id] 135)) A n l := h.below EnR.stays hb0
  generalize w.alloc (.cells #[.slice B m d, .int .i64 e.id] 135) = z1 at *
  have HX := Lib.hid (libSearch A n c l ok e B m d ok' z1.drew (h'.stays EnR.stays (fun _ h => h) (fun p v _ h => h)) hn hk (hE'.stays VlR.stays (fun _ h => h) (fun p v _ h => h)) hm)
  obtain ⟨⟨q0, q1⟩, -⟩ := r0.all2
  have HB := Lib.hid hb0
  clear hb0 hb1 hE' h' r0 hbx
  go_region_held3 (fun w' => w'.cell? ⟨b, 0, none⟩ = some (.slice A n c) ∧ w'.cell? ⟨b, 1, none⟩ = some (.func (.func 68) #[] #[]) ∧ w'.cell? ⟨w.heap.size, 0, none⟩ = some (.slice B m d) ∧ w'.cell? ⟨w.heap.size, 1, none⟩ = some (.int .i64 e.id))
    (first | go_keep | exact keepC4 (by assumption) hb1)
    (first | (go_at_call 168; refine HX.out.mono ?_; rintro r1 w1 ⟨rfl, hb1⟩))
  go_wp2_with fail
  go_ret2
  exact ⟨rfl, HB.out.drew.trans (hb1.mono HB.out.size)⟩
theorem OwnE.other {w : World} {base b o : Nat} {T : TypeId} {cs : Array Value} {fr : Nat × Nat} {v : Value} {es : List En} (h : OwnE w base v es) (hb : w.heap[b]? = some (.cells cs T fr)) (h1 : T ≠ 135) (h2 : T ≠ 93) (u : Value) : OwnE (w.setCell ⟨b, o, none⟩ u) base v es := by
  obtain ⟨vs, h⟩ := h
  have hg : w.grownBy (w.setCell ⟨b, o, none⟩ u) (some b) := ⟨rfl, rfl, rfl, by simp [World.setCell], fun k hk hne => Below.heap_setCell w _ u k (fun e => hne (by rw [e]))⟩
  have hne : ∀ {T' : TypeId} {sz : Nat} {v : Value} {n : Nat} {xs : List Value}, T ≠ T' → w.ownsRow base T' sz v n xs → v.ownBlock = none ∨ v.ownBlock ≠ some b := fun {T' sz v n xs} hT hr => by
    rcases hr.2 with ⟨rfl, -⟩ | ⟨g, cap, cur, rfl, k1, k2, -⟩
    · exact .inl rfl
    · refine .inr fun e => hT ?_
      simp [Value.ownBlock] at e
      subst e
      rw [hb] at k2
      injection k2 with k2
      injection k2
  exact ⟨vs, h.len, World.ownsRow.kept h.row hg (hne h1 h.row), fun i hi hi' => World.ownsRow.kept (h.key i hi hi') hg (hne h2 (h.key i hi hi')), h.apart⟩
end Go.Proofs.YtemimhghhihllaaGreat
namespace Go.Proofs.YtemimhghhihllaaGreat
open Go.RowKit
theorem libInsert (base : Nat) (v : Value) (i : Nat) (l : List En) (vb : Nat) (k : Value) (e : En) (vs : List Value) (w : World) (h : OwnE0 w base v l vs) (hb : base ≤ w.heap.size) (hl : l.length ≤ 1048576) (hi : i ≤ l.length) (hv : Row w vb 135 #[k, .int .i64 e.id]) (hvb : v.ownBlock ≠ some vb) (hk : OwnK w base k e.key) (hn : ∀ b ∈ blk k, b ∉ vs.flatMap blk) :
    Calls Tryz.prog 123 #[v, .int .i64 i, .slice (some ⟨vb, 0, none⟩) 1 1] w fun r w' => ∃ v', r = .returned v' ∧ OwnE0 w' base v' (l.take i ++ e :: l.drop i) (vs.take i ++ k :: vs.drop i) ∧ w.grownBy w' v.ownBlock := by
  have hform : ∃ A c, v = .slice A l.length c := by
    rcases Joins.ownsRow_forms h.row with ⟨rfl, h0⟩ | ⟨g, cap, rfl⟩
    · exact ⟨none, 0, by rw [h0]⟩
    · exact ⟨_, _, rfl⟩
  rcases Nat.eq_or_lt_of_le hi with rfl | hlt
  · obtain ⟨A, c, rfl⟩ := hform
    exact libInsertEnd base A c l vb k e vs w h hb hl hv hk hn
  · rcases h.row.2 with ⟨rfl, h0⟩ | ⟨g, c, cur, rfl, h1, h2, h3, h4, h5, h6⟩
    · omega
    · rcases Nat.lt_or_ge c (l.length + 1) with hc | hc
      · exact libInsertGrow base g c i l vb k e vs w h hb hl hlt hc h3 hv hk hn
      · exact libInsertShift base g c i l vb k e vs w h hb hl hlt hc h4 hv (fun e9 => hvb (by rw [e9]; rfl)) hk hn
set_option maxRecDepth 100000 in
set_option maxHeartbeats 2000000 in
theorem implPutM (b base : Nat) (A : Option Addr) (c : Nat) (l : List En) (e : En) (B : Option Addr) (m d : Nat) (vs : List Value) (w : World) (hbx : Row w b 128 (boxS A l.length c)) (hbb : base ≤ b) (h : OwnE0 w base (.slice A l.length c) l vs) (hn : l.length ≤ 1048576) (hk : ∀ x ∈ l, x.key.length ≤ 1048576) (hK : OwnK w base (.slice B m d) e.key) (hm : m ≤ 1048576) (hE : Sl VlR 3 (okF base w) w B m e.key) (hnd : ∀ q ∈ blk (.slice B m d), q ∉ vs.flatMap blk) (hbs : bs l e ≤ l.length) :
    Calls Tryz.prog 70 #[.pointer (some ⟨b, 0, none⟩), .agg #[.slice B m d, .int .i64 e.id]] w fun r w' => r = .returned (.bool (!bsHit l e)) ∧ (bsHit l e = false → ∃ A' c', Row w' b 128 (boxS A' (l.length + 1) c') ∧ OwnE w' base (.slice A' (l.length + 1) c') (insL l e)) ∧ Below base w w' := by
  have hwb := lt_of_block hbx
  have hb0 := (Below.refl w.heap.size w).alloc (Nat.le_refl _) (.cells #[.slice B m d, .int .i64 e.id] 135)
  have r0 := Row.new w 135 #[.slice B m d, .int .i64 e.id]
  have hx0 := hbx.below hb0
  have hO0 := OwnE0.below h hb0
  have hK0 := ownsRow_below hK hb0
  have hE0 := hE.below VlR.stays hb0
  go_enter Tryz.func70, Tryz.ntmps70
  go_wp2_with fail
  generalize w.alloc (.cells #[.slice B m d, .int .i64 e.id] 135) = z1 at *
  obtain ⟨⟨q0, q1⟩, -⟩ := r0.all2
  obtain ⟨A', c', e', -, -, hsl⟩ := OwnE.sl ⟨vs, hO0⟩
  cases e'
  have HF := Lib.hid (implFind b A l.length c l _ e B m d _ z1 hx0 hsl hn hk hE0 hm)
  have HB0 := Lib.hid hb0
  have HO0 := Lib.hid hO0
  have HK0 := Lib.hid hK0
  have HX0 := Lib.hid hx0
  clear hsl hE0 hb0 hO0 hx0 hbx h hK hK0
  go_wp2_with fail
  refine HF.out.mono ?_
  rintro r w2 ⟨rfl, hb2⟩
  have HB2 := Lib.hid (show Below base w w2 from (HB0.out.mono (by omega)).trans (hb2.mono (by have := HB0.out.size; omega)))
  have HX2 := Lib.hid (HX0.out.below hb2)
  have HO2 := Lib.hid (OwnE0.below HO0.out hb2)
  have HK2 := Lib.hid (ownsRow_below HK0.out hb2)
  have HR2 := Lib.hid (r0.below hb2)
  clear HF hb2 q0 q1 r0
  cases hh : bsHit l e
  · have hx2 := HX2.out
    obtain ⟨⟨x0, x1⟩, -⟩ := hx2.all2
    obtain ⟨⟨p0, p1⟩, -⟩ := (HR2.out).all2
    have hbz : b < w2.heap.size := lt_of_block hx2
    have HI := Lib.hid (show Calls Tryz.prog 123 #[.slice A l.length c, .int .i64 (bs l e), .slice (some ⟨w2.heap.size, 0, none⟩) 1 1] ((w2.alloc (.cells #[.slice B m d, .int .i64 e.id] 135)).drew) fun r w' => ∃ A' c', r = .returned (.slice A' (l.length + 1) c') ∧ OwnE w' base (.slice A' (l.length + 1) c') (insL l e) ∧ Row w' b 128 (boxS A l.length c) ∧ Below base w w' by
      have hz := (Below.refl w2.heap.size w2).alloc (Nat.le_refl _) (.cells #[.slice B m d, .int .i64 e.id] 135)
      have hO3 := OwnE0.below HO2.out hz
      have hK3 := ownsRow_below HK2.out hz
      have hr3 := Row.new w2 135 #[.slice B m d, .int .i64 e.id]
      have hX3 := HX2.out.below hz
      have hbw : base ≤ w2.heap.size := by omega
      have hlt : ∀ q, (Value.slice A l.length c).ownBlock = some q → base ≤ q ∧ q < w2.heap.size := World.ownsRow.lt HO2.out.row
      have hne : (Value.slice A l.length c).ownBlock ≠ some b := fun e9 => by
        obtain ⟨-, cur, k2⟩ := ownsRow_typed HO2.out.row e9
        have h9 := HX2.out
        unfold Row at h9
        rw [k2] at h9
        injection h9 with h9
        injection h9 with _ h10
        exact absurd h10 (by decide)
      have hB3 := HB2.out.trans (hz.mono hbw)
      generalize hzz : w2.alloc (.cells #[.slice B m d, .int .i64 e.id] 135) = z at *
      have hzs : z.heap.size = w2.heap.size + 1 := by rw [← hzz]; simp
      refine (libInsert base (.slice A l.length c) (bs l e) l w2.heap.size (.slice B m d) e vs z.drew ⟨hO3.len, hO3.row, hO3.key, hO3.apart⟩ (show base ≤ z.heap.size by omega) hn hbs hr3 (fun e9 => by have := hlt _ e9; omega) hK3 hnd).mono ?_
      rintro r w3 ⟨v', rfl, ho, hg⟩
      have hll : (insL l e).length = l.length + 1 := by unfold insL; exact insAt_len hbs
      obtain ⟨A', c', rfl, -⟩ := OwnE.sl (es := insL l e) ⟨_, ho⟩
      rw [hll]
      refine ⟨A', c', rfl, by rw [← hll]; exact ⟨_, ho⟩, (hg.block b (show b < z.heap.size by omega) (fun e9 => hne e9.symm)).trans hX3, (hB3.grown (w' := w3) ⟨hg.os, hg.tape, hg.output, hg.size, hg.block⟩ (by have := hB3.size; omega) (fun q hq => (hlt q hq).1))⟩)
    clear HO2 HK2 HX2
    have HQ := Lib.hid hh
    clear hh
    go_wp2_with fail
    go_region_with (go_at_call 123; refine HI.out.mono ?_; rintro r w3 ⟨A9, c9, rfl, ho9, hx9, hb9⟩; have p9 : w3.cell? ⟨b, 0, none⟩ = some (.slice A l.length c) := hx9.cell 0; have f9 := hx9.free 0; have HO9 := Lib.hid ho9; have HX9 := Lib.hid hx9; have HB9 := Lib.hid hb9; clear ho9 hx9 hb9)
    all_goals
      go_wp2_with fail
      go_ret
      refine ⟨by rw [HQ.out]; rfl, fun _ => ⟨A9, c9, ?_, OwnE.other (o := 0) HO9.out HX9.out (by decide) (by decide) _⟩, HB9.out.setCell (p := ⟨b, 0, none⟩) hbb _⟩
      simpa [boxS] using HX9.out.set 0 (.slice A9 (l.length + 1) c9)
  · have HQ := Lib.hid hh
    go_wp2_with fail
    go_ret
    refine ⟨?_, ?_, HB2.out⟩
    · rw [HQ.out]; rfl
    · intro h
      rw [HQ.out] at h
      cases h
end Go.Proofs.YtemimhghhihllaaGreat
namespace Go.Proofs.YtemimhghhihllaaGreat
open Go.RowKit
attribute [local go_sem] run_store_fnE
def ixOk (s : List Tb) (db : List Dt) (tb : Int) (cols : List Int) : Bool := dbB s db && ((decide (0 ≤ tb) && decide (tb < (s.length : Int))) && (match tabAt s tb with
  | some t => colsInB cols t.cols.length
  | none => false))
def rowsAt (db : List Dt) (tb : Int) : List Rw := ((db[tb.toNat]?).map Dt.rows).getD []
def ixL (s : List Tb) (db : List Dt) (tb : Int) (cols : List Int) : List En := if ixOk s db tb cols = true then ixK cols (rowsAt db tb) (rowsAt db tb).length else []
theorem rowsAt_some {db : List Dt} {m : Nat} (h : m < db.length) : rowsAt db (m : Int) = db[m].rows := by
  unfold rowsAt; rw [Int.toNat_natCast, List.getElem?_eq_getElem h]; rfl
theorem boxK (A : Option Addr) (n c : Nat) : boxS A n c = #[.slice A n c, .func (.func 68) #[] #[]] := rfl
set_option maxRecDepth 100000 in
set_option maxHeartbeats 4000000 in
theorem implIndexOfRows (AS AD AC : Option Addr) (nS cS nD cD nC cC m : Nat) (s : List Tb) (db : List Dt) (cols : List Int) (ok okd okc : Nat → Prop) (w : World)
    (hS : Sl TbR 6 ok w AS nS s) (hD : Sl DtR 1 okd w AD nD db) (hC : Sl IntR 1 okc w AC nC cols) (hsz : szL Tb.sz s ≤ 1048576) (hdz : szL Dt.sz db ≤ 1048576) (hcn : nC ≤ 1048576)
    (hB : dbB s db = true) (hm : m < s.length) (hmd : m < db.length) (hc : colsInB cols s[m].cols.length = true) (hI : IxIn cols db[m].rows s[m].cols.length) :
    Calls Tryz.prog 27 #[.slice AS nS cS, .slice AD nD cD, .int .i64 m, .slice AC nC cC] w fun r w' => ∃ v, r = .returned (.tuple #[v, .bool true]) ∧ OwnE w' w.heap.size v (ixK cols db[m].rows db[m].rows.length) ∧ Below w.heap.size w w' := by
  obtain rfl : s.length = nS := hS.1
  obtain rfl : db.length = nD := hD.1
  obtain rfl : cols.length = nC := hC.1
  have HDB := Lib.hid (implDbOk' AS AD s.length cS db.length cD s db ok okd w hS hD hsz hdz)
  have HB := Lib.hid hB
  have HIN := Lib.hid (show (decide ((0 : Int) ≤ (m : Nat)) && decide (((m : Nat) : Int) < (s.length : Int))) = true by rw [decide_eq_true (by omega : (0 : Int) ≤ (m : Nat)), decide_eq_true (by omega : ((m : Nat) : Int) < (s.length : Int))]; rfl)
  have m0 : (0 : Int) ≤ (m : Nat) := by omega
  have m1 : ((m : Nat) : Int) < s.length := by omega
  have m2 : ((m : Nat) : Int) < db.length := by omega
  have HI := Lib.hid hI
  have hrl : db[m].rows.length ≤ 60 := hI.few
  have HC := Lib.hid hc
  obtain ⟨g, o, A1, n1, c1, A2, n2, c2, A3, n3, c3, A4, n4, c4, A5, n5, c5, -, rfl, -, x1', -, -, -, -, hcols', -⟩ := TbR.at_ hS hm
  obtain ⟨gd, od, AR, nR, cR, -, rfl, d0', hrows', -⟩ := DtR.at_ hD hmd
  obtain rfl : s[m].cols.length = n1 := hcols'.1
  obtain rfl : db[m].rows.length = nR := hrows'.1
  have hcl : s[m].cols.length ≤ 1048576 := by
    have h1 := szL_mem Tb.sz s s[m] (List.getElem_mem hm)
    have h2 : s[m].cols.length ≤ szL Cl.sz s[m].cols := by unfold szL; omega
    have h4 : szL Cl.sz s[m].cols ≤ Tb.sz s[m] := by unfold Tb.sz; omega
    omega
  have HAC := Lib.hid (fun (W : World) (hb : Below w.heap.size w W) => implAreColumns AC cols.length cC cols s[m].cols.length okc W (hC.below IntR.stays hb) hcn hcl)
  have HX := Lib.hid (And.intro x1' (And.intro d0' (And.intro hrows' hC)))
  clear hB hc hI x1' d0' hcols' hrows' hS hD hC
  go_enter Tryz.func27, Tryz.ntmps27
  go_wp2_with fail
  refine HDB.out.mono ?_
  rintro e w1 ⟨rfl, hb1⟩
  rw [HB.out]
  clear HDB
  go_wp2_with fail
  refine (implIsPlace (m : Nat) s.length w1).mono ?_
  rintro e w1' ⟨rfl, rfl⟩
  rw [HIN.out]
  have x1 := below_keep hb1 _ _ HX.out.1
  go_wp2_with fail
  refine (HAC.out w1 hb1).mono ?_
  rintro e w2 ⟨rfl, hb2⟩
  rw [HC.out]
  have hb12 := hb1.trans (hb2.mono hb1.size)
  have d0 := below_keep hb12 _ _ HX.out.2.1
  have hal := (Below.refl w2.heap.size w2).alloc (Nat.le_refl _) (.cells (boxS none 0 0) 128)
  have rbx := Row.new w2 128 (boxS none 0 0)
  have HRB := Lib.hid rbx
  have HBX := Lib.hid (hb12.trans (hal.mono hb12.size))
  have d1 := below_keep hal _ _ d0
  have hs2 : w.heap.size ≤ w2.heap.size := hb12.size
  clear x1 hb1 hb2 hal rbx HAC
  rw [boxK] at HRB HBX d1
  go_wp2_with fail
  generalize w2.alloc (.cells #[.slice none 0 0, .func (.func 68) #[] #[]] 128) = z0 at *
  have HS2 := Lib.hid hs2
  clear hb12 d0 d1 hs2
  go_loopw [44] (fun i wr => ∃ (k : Nat) (A : Option Addr) (c : Nat) (vs : List Value), k ≤ db[m].rows.length ∧ i = .int .i64 k ∧ Hid (Row wr w2.heap.size 128 (boxS A k c)) ∧ Hid (OwnE0 wr w.heap.size (.slice A k c) (ixK cols db[m].rows k) vs) ∧ Below w.heap.size w wr) (fun i _ => db[m].rows.length - (intOf i).toNat)
  case atStart => exact ⟨0, none, 0, [], by omega, rfl, Lib.hid HRB.out, Lib.hid ⟨rfl, World.ownsRow_nil _ _ _ _, fun i h => by simp [ixK] at h, by simp⟩, HBX.out⟩
  case round =>
    obtain ⟨k, A, c, vs, hk, rfl, hbx, hown, hb⟩ := hrel
    by_cases hlt : k < db[m].rows.length
    · have i0' : (0 : Int) ≤ k := by omega
      have i1' : (k : Int) < db[m].rows.length := by omega
      obtain ⟨gr, oo, AV, nV, cV, -, rfl, r0', r1', hv', -⟩ := RwR.at_ (HX.out.2.2.1.below RwR.stays hb) hlt
      obtain ⟨hP1, hP2⟩ := ix_put HI.out hlt
      obtain ⟨hQ1, hQ2, hQ3⟩ := ix_step HI.out k (by omega)
      have HP := Lib.hid (And.intro hP1 hP2)
      have HQ := Lib.hid (And.intro hQ1 (And.intro hQ2 hQ3))
      have HKO := Lib.hid (show keyOf cols db[m].rows[k].vals = keyL cols db[m].rows[k].vals by
        unfold keyOf keyOk rowB
        have h1 := HI.out.all (List.getElem_mem hlt)
        have h2 := HI.out.row _ (List.getElem_mem hlt)
        have h3 : s[m].cols.length ≤ 8 := (schema_tab (by have := HB.out; unfold dbB at this; simp only [Bool.and_eq_true] at this; exact this.1) hm).2
        rw [h1, decide_eq_true (by omega), List.all_eq_true.2 h2.2.2.2]; rfl)
      have hla := (Below.refl wr.heap.size wr).alloc (Nat.le_refl _) (.cells #[.int .i64 db[m].rows[k].id, .slice AV nV cV] 130)
      have HLA := Lib.hid hla
      have rr := Row.new wr 130 #[.int .i64 db[m].rows[k].id, .slice AV nV cV]
      have HRR := Lib.hid rr
      have hnv : nV ≤ 1048576 := by have h1 := hv'.1; have h2 := (HI.out.row _ (List.getElem_mem hlt)).2.2.1; omega
      have HVV := Lib.hid hv'
      clear hP1 hP2 hQ1 hQ2 hQ3 hla rr hv'
      go_wp2_with fail
      generalize wr.alloc (.cells #[.int .i64 db[m].rows[k].id, .slice AV nV cV] 130) = z1 at *
      have HKY := Lib.hid (implKeyOfO AC AV cols.length cC nV cV cols db[m].rows[k].vals okc _ z1 (HX.out.2.2.2.below IntR.stays (hb.trans (HLA.out.mono hb.size))) (HVV.out.below VlR.stays HLA.out) hcn hnv)
      refine HKY.out.mono ?_
      rintro e w3 ⟨v3, rfl, ho3, hb3⟩
      rw [HKO.out] at ho3
      have ho3' : OwnK w3 z1.heap.size v3 (keyL cols db[m].rows[k].vals) := ho3
      obtain ⟨B3, d3, rfl⟩ := ho3'.shape
      have hz1 : wr.heap.size ≤ z1.heap.size := HLA.out.size
      have hbw : w.heap.size ≤ wr.heap.size := hb.size
      have hz1w : w.heap.size ≤ z1.heap.size := by omega
      have HB3 := Lib.hid (show Below w.heap.size w w3 from (hb.trans (HLA.out.mono hb.size)).trans (hb3.mono hz1w))
      have hE3 : Sl VlR 3 (okF w.heap.size w3) w3 B3 (keyL cols db[m].rows[k].vals).length (keyL cols db[m].rows[k].vals) := by
        obtain ⟨A9, c9, e9, -, -, k9⟩ := OwnG.sl (f := Vl.cells) (sz := 3) (fun _ => rfl) (ho3'.mono hz1w)
        cases e9
        exact k9
      have hrz : Below wr.heap.size wr w3 := HLA.out.trans (hb3.mono hz1)
      have hO3 := OwnE0.below hown.out hrz
      have hX3 := hbx.out.below hrz
      have hkl : (keyL cols db[m].rows[k].vals).length ≤ 1048576 := by rw [keyL_len]; exact hcn
      have hql := HQ.out.2.1
      have HPM := Lib.hid (implPutM w2.heap.size w.heap.size A c (ixK cols db[m].rows k) (entOf cols db[m].rows[k]) B3 (keyL cols db[m].rows[k].vals).length d3 vs w3 (by rw [hql]; exact hX3) HS2.out (by rw [hql]; exact hO3) (by have := HI.out.few; omega) (fun x hx => by rw [(HQ.out.2.2 x hx).1]; exact hcn) (ho3'.mono hz1w) hkl hE3 (hown.out.fresh ho3' hz1) (bs_le _ _))
      have hR3 := HRR.out.below hb3
      obtain ⟨⟨q0, q1⟩, -⟩ := hR3.all2
      clear HKY ho3 ho3' hb3 hE3 hrz hO3 hX3 hR3
      go_wp2_with fail
      refine HPM.out.mono ?_
      rintro e w4 ⟨rfl, hres, hb4⟩
      obtain ⟨A4, c4, hr4, ho4⟩ := hres HP.out.1
      rw [hql] at hr4 ho4
      rw [← HP.out.2] at ho4
      obtain ⟨vs4, ho4⟩ := ho4
      have HO4 := Lib.hid ho4
      have HR4 := Lib.hid hr4
      have HB4 := Lib.hid (HB3.out.trans (hb4.mono (Nat.le_refl _)))
      clear HPM hres hb4 hr4 ho4 q0 q1
      go_wp2_with fail
      go_roundw
      case rel => exact ⟨k + 1, A4, c4, vs4, by omega, by go_num, HR4, HO4, HB4.out⟩
      case measure => simp [intOf]; omega
    · obtain rfl : k = db[m].rows.length := by omega
      have c0 := hbx.out.cell 0
      rw [boxK] at c0
      simp only [List.getElem?_toArray, List.getElem?_cons_zero] at c0
      go_wp2_with fail
      go_ret2
      exact ⟨_, rfl, ⟨vs, hown.out⟩, hb⟩
end Go.Proofs.YtemimhghhihllaaGreat
namespace Go.Proofs.YtemimhghhihllaaGreat
open Go.RowKit
theorem entC_take (vs : List Value) (l : List En) (h : vs.length = l.length) (i : Nat) (hi : i ≤ l.length) : ((entC vs l).take (i * 2)).length = i * 2 ∧ ((entC vs l).drop (i * 2)).length = (l.length - i) * 2 := by
  have := entC_len vs l h
  rw [List.length_take, List.length_drop]; omega
theorem lit_row (w : World) : (w.alloc (.cells #[] 135)).ownsRow w.heap.size 135 2 (.slice (some ⟨w.heap.size, 0, none⟩) 0 0) 0 [] :=
  ⟨by simp, .inr ⟨w.heap.size, 0, #[], rfl, Nat.le_refl _, Go.heap_alloc_last w _, Nat.le_refl _, by simp [maxLen], by simp, by simp⟩⟩
theorem cellsE {w : World} {base g c : Nat} {l : List En} {vs : List Value} (h : OwnE0 w base (.slice (some ⟨g, 0, none⟩) l.length c) l vs) : ∀ j u, (entC vs l)[j]? = some u → w.cell? ⟨g, j, none⟩ = some u := fun j u hj => by
  have hlt := (List.getElem?_eq_some_iff.1 hj).1
  have hcl := entC_len vs l h.len
  rw [World.ownsRow.cellAt h.row j (by omega)]
  exact hj
theorem OwnE0.ones {w : World} {base : Nat} {v : Value} {l : List En} {vs : List Value} (h : OwnE0 w base v l vs) : ∀ u ∈ entC vs l, u.oneCell' = true := entC_one vs l h.len (fun v hv9 => by
  obtain ⟨t, ht, rfl⟩ := List.mem_iff_getElem.1 hv9
  exact OwnK.one (h.key t (by rw [← h.len]; exact ht) ht))
theorem capE {w : World} {base c : Nat} {A : Option Addr} {l : List En} {vs : List Value} (h : OwnE0 w base (.slice A l.length c) l vs) : l.length ≤ c := by
  rcases h.row.2 with ⟨e9, h0⟩ | ⟨g, cap, cur, e9, h1, h2, h3, -⟩
  · omega
  · injection e9 with e1 e2 e3
    omega
set_option maxRecDepth 100000 in
set_option maxHeartbeats 2000000 in
theorem specL11Put (base : Nat) (v : Value) (l : List En) (e : En) (B : Option Addr) (m d : Nat) (vs : List Value) (w : World) (h : OwnE0 w base v l vs) (hb : base ≤ w.heap.size) (hn : l.length ≤ 1048576) (hk : ∀ x ∈ l, x.key.length ≤ 1048576) (hK : OwnK w base (.slice B m d) e.key) (hm : m ≤ 1048576) (hnd : ∀ q ∈ blk (.slice B m d), q ∉ vs.flatMap blk) :
    Calls Tryz.prog 114 #[v, .agg #[.slice B m d, .int .i64 e.id]] w fun r w' => ∃ v', r = .returned v' ∧ OwnE w' base v' (putL l e) ∧ Below w.heap.size w w' := by
  obtain ⟨i0, hi, hz0, hz1, hz2⟩ := info_parts infoEntC
  have H1 := Lib.hid hi
  have H2 := Lib.hid hz0
  have H3 := Lib.hid hz1
  have H4 := Lib.hid hz2
  clear hi hz0 hz1 hz2
  have hb0 := (Below.refl w.heap.size w).alloc (Nat.le_refl _) (.cells #[.slice B m d, .int .i64 e.id] 135)
  have r0 := Row.new w 135 #[.slice B m d, .int .i64 e.id]
  have hO0 := OwnE0.below h hb0
  have hK0 : OwnK _ base (.slice B m d) e.key := OwnG.below hK hb0
  obtain ⟨A, c, rfl, -, -, hsl⟩ := OwnE.sl ⟨vs, hO0⟩
  obtain ⟨B', d', e9, -, -, hE0⟩ := OwnG.sl (f := Vl.cells) (sz := 3) (fun _ => rfl) hK0
  cases e9
  have HK := Lib.hid hk
  have HAP := Lib.hid (atP_le l e)
  clear hk h hK
  go_enter Tryz.func114, Tryz.ntmps114
  go_wp2_with fail
  generalize w.alloc (.cells #[.slice B e.key.length d, .int .i64 e.id] 135) = z at *
  have HB0 := Lib.hid hb0
  have HO0 := Lib.hid hO0
  have HK0 := Lib.hid hK0
  have HR0 := Lib.hid r0
  have HZ := Lib.hid (show w.heap.size < z.heap.size from lt_of_block r0)
  clear hb0 hO0 hK0 r0
  go_loopw [5] (fun i wr => ∃ k : Nat, k ≤ atP l e ∧ i = .int .i64 k ∧ Hid (Below z.heap.size z wr)) (fun i _ => l.length - (intOf i).toNat)
  case atStart => exact ⟨0, by omega, rfl, Lib.hid (Below.refl _ _)⟩
  case round =>
    obtain ⟨k, hk, rfl, hB⟩ := hrel
    have hap := HAP.out
    by_cases hlt : k < l.length
    · obtain ⟨b, off, A1, n1, c1, -, rfl, q0', q1', hky', hc1⟩ := EnR.at_ hsl hlt
      have q0 := below_keep hB.out _ _ q0'
      have q1 := below_keep hB.out _ _ q1'
      have hky := hky'.below VlR.stays hB.out
      obtain ⟨⟨p0, p1⟩, -⟩ := (HR0.out.below hB.out).all2
      have i0' : (0 : Int) ≤ k := by omega
      have i1 : (k : Int) < l.length := by omega
      have HKL := Lib.hid (HK.out l[k] (List.getElem_mem hlt))
      have HLT := Lib.hid (fun hs : lessE l[k] e = true => show k < atP l e from by
        rcases Nat.lt_or_ge k (atP l e) with h9 | h9
        · exact h9
        · obtain rfl : k = atP l e := by omega
          rw [atP_here l e hlt] at hs
          cases hs)
      have HGE := Lib.hid (fun hs : lessE l[k] e = false => show k = atP l e from by
        rcases Nat.lt_or_ge k (atP l e) with h9 | h9
        · rw [atP_low l e k hlt h9] at hs
          cases hs
        · omega)
      generalize hek : l[k] = x at q0' q1' q1 hky' hky HKL HLT HGE
      have hkd : Sl VlR 3 _ wr.drew A1 n1 x.key := hky.stays VlR.stays (fun _ h => h) (fun p v _ h => h)
      have hed : Sl VlR 3 _ wr.drew B e.key.length e.key := (hE0.below VlR.stays hB.out).stays VlR.stays (fun _ h => h) (fun p v _ h => h)
      have hn1 : n1 ≤ 1048576 := by have := hky.1; have := HKL.out; omega
      clear q0' q1' hky' hky hek
      cases hsm : lessE x e
      · have HT := Lib.hid (HGE.out hsm)
        clear HLT HGE
        go_wp2_with fail
        go_region_held3 (fun w' => w'.cell? ⟨b, off + k * 2, none⟩ = some (.slice A1 n1 c1) ∧ w'.cell? ⟨b, off + k * 2 + 1, none⟩ = some (.int .i64 x.id) ∧ w'.cell? ⟨w.heap.size, 0, none⟩ = some (.slice B e.key.length d) ∧ w'.cell? ⟨w.heap.size, 1, none⟩ = some (.int .i64 e.id))
          (first | go_keep | exact keepC4 (by assumption) hb1)
          (first | (go_at_call 163; refine (specL11Less x e A1 B n1 c1 e.key.length d _ _ _ hkd hed hn1 hm).mono ?_; rintro r1 w1 ⟨rfl, hb1⟩; rw [hsm]))
        have hB9 := hB.out.drew.trans (hb1.mono hB.out.size)
        obtain ⟨g, e9⟩ : ∃ g, some (⟨b, off, none⟩ : Addr) = some ⟨g, 0, none⟩ := by
          rcases Joins.ownsRow_forms HO0.out.row with ⟨e9, -⟩ | ⟨g, cap, e9⟩
          · cases e9
          · injection e9 with e9; exact ⟨g, e9⟩
        cases e9
        generalize w1 = W at *
        clear hB hb1
        have HBW := Lib.hid (hB9)
        have HOW := Lib.hid (OwnE0.below HO0.out HBW.out)
        have HKW := Lib.hid (show OwnK W base (.slice B e.key.length d) e.key from OwnG.below HK0.out HBW.out)
        have HRW := Lib.hid (HR0.out.below HBW.out)
        have hle : k ≤ l.length := by omega
        have HLIT := Lib.hid (lit_row W)
        have HAL := Lib.hid ((Below.refl W.heap.size W).alloc (Nat.le_refl _) (.cells #[] 135))
        obtain ⟨hl1, hl2⟩ := entC_take vs l HOW.out.len k hle
        have HCL := Lib.hid (fun (W' : World) (hb' : Below W.heap.size W W') => cellsE (OwnE0.below HOW.out hb'))
        have HONE := Lib.hid (OwnE0.ones HOW.out)
        have HWB := Lib.hid (show base ≤ W.heap.size by have h1 := HBW.out.size; have h2 := HZ.out; omega)
        have hcap : l.length ≤ c := capE HOW.out
        have hck : ¬ (c = k) := by omega
        have hk0 : (0 : Int) ≤ (k : Nat) := by omega
        have hk1 : ((k : Nat) : Int) ≤ c := by omega
        have hk2 : ((k : Nat) : Int) ≤ l.length := by omega
        go_wp2_with (at_builtin; refine wpList_append_own _ rfl _ _ 47 rfl W.heap.size 135 i0 (.agg #[.slice none 0 0, .int .i64 0]) 2 32 Tryz.underlying47 H1.out H2.out H3.out H4.out rfl (by decide) _ _ _ rfl HLIT.out ⟨b, 0, none⟩ k c ((entC vs l).take (k * 2)) rfl hl1 ?c1 ?c2 ?c3 ?c4 ?c5 ?_)
        (try case c1 => (intro j u hj; (try rw [addr_add, Nat.zero_add]); rw [List.getElem?_take] at hj; split at hj; exact HCL.out _ HAL.out _ _ hj; cases hj))
        (try case c2 => (intro u hu; exact HONE.out u (List.mem_of_mem_take hu)))
        (try case c3 => (unfold maxLen; omega))
        (try case c4 => (omega))
        (try case c5 => (simp))
        intro v9 w9 hown9 hgrow9 _
        have HB9 := Lib.hid (show Below W.heap.size W w9 from HAL.out.grown hgrow9 (by simp) (fun q hq => by cases hq; exact Nat.le_refl _))
        obtain ⟨X1, hX1⟩ : ∃ X1, X1 = (entC vs l).take (k * 2) := ⟨_, rfl⟩
        rw [← hX1] at hown9
        have HX1 := Lib.hid hX1
        have HW9 := Lib.hid hown9
        have hr9 := HRW.out.below HB9.out
        obtain ⟨⟨p0, p1⟩, -⟩ := hr9.all2
        clear hX1 hown9 hgrow9 hr9 hl1
        go_wp2_with (at_builtin; refine wpList_append_own _ rfl _ _ 47 rfl W.heap.size 135 i0 (.agg #[.slice none 0 0, .int .i64 0]) 2 32 Tryz.underlying47 H1.out H2.out H3.out H4.out rfl (by decide) _ _ _ rfl (World.ownsRow.alloc HW9.out _) ⟨_, 0, none⟩ 1 1 [.slice B e.key.length d, .int .i64 e.id] rfl rfl ?d1 ?d2 ?d3 ?d4 ?d5 ?_)
        (try case d1 => (exact cells_newAt _ [.slice B e.key.length d, .int .i64 e.id] _ (by simp)))
        (try case d2 => (intro u hu; simp at hu; rcases hu with rfl | rfl <;> rfl))
        (try case d3 => (unfold maxLen; omega))
        (try case d4 => (omega))
        (try case d5 => (have := HB9.out.size; simp; omega))
        intro v10 w10 hown10 hgrow10 _
        have HB10 := Lib.hid (show Below W.heap.size W w10 from (HB9.out.alloc HB9.out.size _).grown hgrow10 (by have := HB9.out.size; simp; omega) (fun q hq => (World.ownsRow.lt HW9.out q hq).1))
        obtain ⟨X2, hX2⟩ : ∃ X2, X2 = X1 ++ [.slice B e.key.length d, .int .i64 e.id] := ⟨_, rfl⟩
        rw [← hX2] at hown10
        have HX2 := Lib.hid hX2
        have HW10 := Lib.hid hown10
        clear hX2 hown10 hgrow10 p0 p1
        go_wp2_with (at_builtin; refine wpList_append_own _ rfl _ _ 47 rfl W.heap.size 135 i0 (.agg #[.slice none 0 0, .int .i64 0]) 2 32 Tryz.underlying47 H1.out H2.out H3.out H4.out rfl (by decide) _ _ _ rfl HW10.out ⟨b, k * 2, none⟩ (l.length - k) (c - k) ((entC vs l).drop (k * 2)) rfl hl2 ?f1 ?f2 ?f3 ?f4 ?f5 ?_)
        (try case f1 => (intro j u hj; (try rw [addr_add]); rw [List.getElem?_drop] at hj; exact HCL.out _ HB10.out _ _ hj))
        (try case f2 => (intro u hu; exact HONE.out u (List.mem_of_mem_drop hu)))
        (try case f3 => (unfold maxLen; omega))
        (try case f4 => (omega))
        (try case f5 => (exact HB10.out.size))
        intro v11 w11 hown11 hgrow11 _
        have HB11 := Lib.hid (show Below W.heap.size W w11 from HB10.out.grown hgrow11 HB10.out.size (fun q hq => (World.ownsRow.lt HW10.out q hq).1))
        rw [show k + 1 + (l.length - k) = l.length + 1 by omega, HX2.out, HX1.out] at hown11
        have HE := Lib.hid (show OwnE w11 base v11 (putL l e) by
          unfold putL insAt
          rw [← HT.out]
          exact ⟨_, OwnE0.ins HOW.out hle HKW.out hnd (Joins.ownsRow_le hown11 HWB.out) ⟨HB11.out.os, HB11.out.tape, HB11.out.output, HB11.out.size, fun q hq _ => HB11.out.block q hq⟩⟩)
        have HBF := Lib.hid (show Below w.heap.size w w11 from (HB0.out.trans (HBW.out.mono (Nat.le_of_lt HZ.out))).trans (HB11.out.mono (by have h1 := HBW.out.size; have h2 := HZ.out; omega)))
        clear hown11 hgrow11
        go_wp2_with fail
        go_ret
        exact ⟨v11, rfl, HE.out, HBF.out⟩
      · have HT := Lib.hid (HLT.out hsm)
        clear HLT HGE
        go_wp2_with fail
        go_region_held3 (fun w' => w'.cell? ⟨b, off + k * 2, none⟩ = some (.slice A1 n1 c1) ∧ w'.cell? ⟨b, off + k * 2 + 1, none⟩ = some (.int .i64 x.id) ∧ w'.cell? ⟨w.heap.size, 0, none⟩ = some (.slice B e.key.length d) ∧ w'.cell? ⟨w.heap.size, 1, none⟩ = some (.int .i64 e.id))
          (first | go_keep | exact keepC4 (by assumption) hb1)
          (first | (go_at_call 163; refine (specL11Less x e A1 B n1 c1 e.key.length d _ _ _ hkd hed hn1 hm).mono ?_; rintro r1 w1 ⟨rfl, hb1⟩; rw [hsm]))
        have HB := Lib.hid (show Below z.heap.size z w1 from hB.out.drew.trans (hb1.mono hB.out.size))
        clear hB hb1
        go_wp2_with fail
        go_roundw
        case rel => exact ⟨k + 1, by have := HT.out; omega, by go_num, HB⟩
        case measure => simp [intOf]; omega
    · have HT := Lib.hid (show k = atP l e by omega)
      have HKL := Lib.hid (show k = l.length by omega)
      have i1 : ¬ ((k : Int) < l.length) := by omega
      go_wp2_with fail
      go_quiet (fail)
      have hB9 := below_drewN hB.out nq
      generalize wr.drewN nq = W at *
      clear hB
      rcases Joins.ownsRow_forms HO0.out.row with ⟨e9, h0⟩ | ⟨g, cap, e9⟩
      · injection e9 with e1 e2 e3
        subst e1 e3
        obtain rfl : l = [] := List.eq_nil_of_length_eq_zero h0
        obtain rfl : k = 0 := HKL.out
        have HBW := Lib.hid (hB9)
        have HOW := Lib.hid (OwnE0.below HO0.out HBW.out)
        have HKW := Lib.hid (show OwnK W base (.slice B e.key.length d) e.key from OwnG.below HK0.out HBW.out)
        have HRW := Lib.hid (HR0.out.below HBW.out)
        have HLIT := Lib.hid (lit_row W)
        have hal := (Below.refl W.heap.size W).alloc (Nat.le_refl _) (.cells #[] 135)
        have HAL := Lib.hid hal
        have HWB := Lib.hid (show base ≤ W.heap.size by have h1 := HBW.out.size; have h2 := HZ.out; omega)
        have hr9 := HRW.out.below hal
        obtain ⟨⟨p0, p1⟩, -⟩ := hr9.all2
        clear hal hr9
        go_wp2_with (first | (at_builtin; refine wpList_append_own_none rfl _ _ 47 rfl W.heap.size 135 i0 2 Tryz.underlying47 H1.out _ _ _ rfl HLIT.out rfl ?_) | (at_builtin; refine wpList_append_own _ rfl _ _ 47 rfl W.heap.size 135 i0 (.agg #[.slice none 0 0, .int .i64 0]) 2 32 Tryz.underlying47 H1.out H2.out H3.out H4.out rfl (by decide) _ _ _ rfl (World.ownsRow.alloc HLIT.out _) ⟨_, 0, none⟩ 1 1 [.slice B e.key.length d, .int .i64 e.id] rfl rfl ?d1 ?d2 ?d3 ?d4 ?d5 ?_))
        (try case d1 => (exact cells_newAt _ [.slice B e.key.length d, .int .i64 e.id] _ (by simp)))
        (try case d2 => (intro u hu; simp at hu; rcases hu with rfl | rfl <;> rfl))
        (try case d3 => (unfold maxLen; omega))
        (try case d4 => (omega))
        (try case d5 => (simp; omega))
        intro v10 w10 hown10 hgrow10 _
        have HB10 := Lib.hid (show Below W.heap.size W w10 from (HAL.out.alloc HAL.out.size _).grown hgrow10 (by simp; omega) (fun q hq => (World.ownsRow.lt HLIT.out q hq).1))
        have HW10 := Lib.hid hown10
        clear hown10 hgrow10 p0 p1
        go_wp2_with (at_builtin; refine wpList_append_own_none rfl _ _ 47 rfl W.heap.size 135 i0 2 Tryz.underlying47 H1.out _ _ _ rfl HW10.out rfl ?_)
        go_ret
        refine ⟨v10, rfl, ?_, (HB0.out.trans (HBW.out.mono (Nat.le_of_lt HZ.out))).trans (HB10.out.mono (by have h1 := HBW.out.size; have h2 := HZ.out; omega))⟩
        exact ⟨_, OwnE0.ins (i := 0) HOW.out (Nat.le_refl _) HKW.out hnd (by simpa [entC] using Joins.ownsRow_le HW10.out HWB.out) ⟨HB10.out.os, HB10.out.tape, HB10.out.output, HB10.out.size, fun q hq _ => HB10.out.block q hq⟩⟩
      · injection e9 with e1 e2 e3
        subst e1 e3
        by_cases hck : c = k
        · subst hck
          have HBW := Lib.hid (hB9)
          have HOW := Lib.hid (OwnE0.below HO0.out HBW.out)
          have HKW := Lib.hid (show OwnK W base (.slice B e.key.length d) e.key from OwnG.below HK0.out HBW.out)
          have HRW := Lib.hid (HR0.out.below HBW.out)
          have hle : c ≤ l.length := by omega
          have HLIT := Lib.hid (lit_row W)
          have HAL := Lib.hid ((Below.refl W.heap.size W).alloc (Nat.le_refl _) (.cells #[] 135))
          obtain ⟨hl1, hl2⟩ := entC_take vs l HOW.out.len c hle
          have HCL := Lib.hid (fun (W' : World) (hb' : Below W.heap.size W W') => cellsE (OwnE0.below HOW.out hb'))
          have HONE := Lib.hid (OwnE0.ones HOW.out)
          have HWB := Lib.hid (show base ≤ W.heap.size by have h1 := HBW.out.size; have h2 := HZ.out; omega)
          have hcap : l.length ≤ c := capE HOW.out
          have hk0 : (0 : Int) ≤ (c : Nat) := by omega
          have hk1 : ((c : Nat) : Int) ≤ c := by omega
          have hk2 : ((c : Nat) : Int) ≤ l.length := by omega
          go_wp2_with (at_builtin; refine wpList_append_own _ rfl _ _ 47 rfl W.heap.size 135 i0 (.agg #[.slice none 0 0, .int .i64 0]) 2 32 Tryz.underlying47 H1.out H2.out H3.out H4.out rfl (by decide) _ _ _ rfl HLIT.out ⟨g, 0, none⟩ c c ((entC vs l).take (c * 2)) rfl hl1 ?c1 ?c2 ?c3 ?c4 ?c5 ?_)
          (try case c1 => (intro j u hj; (try rw [addr_add, Nat.zero_add]); rw [List.getElem?_take] at hj; split at hj; exact HCL.out _ HAL.out _ _ hj; cases hj))
          (try case c2 => (intro u hu; exact HONE.out u (List.mem_of_mem_take hu)))
          (try case c3 => (unfold maxLen; omega))
          (try case c4 => (omega))
          (try case c5 => (simp))
          intro v9 w9 hown9 hgrow9 _
          have HB9 := Lib.hid (show Below W.heap.size W w9 from HAL.out.grown hgrow9 (by simp) (fun q hq => by cases hq; exact Nat.le_refl _))
          obtain ⟨X1, hX1⟩ : ∃ X1, X1 = (entC vs l).take (c * 2) := ⟨_, rfl⟩
          rw [← hX1] at hown9
          have HX1 := Lib.hid hX1
          have HW9 := Lib.hid hown9
          have hr9 := HRW.out.below HB9.out
          obtain ⟨⟨p0, p1⟩, -⟩ := hr9.all2
          clear hX1 hown9 hgrow9 hr9 hl1
          go_wp2_with (at_builtin; refine wpList_append_own _ rfl _ _ 47 rfl W.heap.size 135 i0 (.agg #[.slice none 0 0, .int .i64 0]) 2 32 Tryz.underlying47 H1.out H2.out H3.out H4.out rfl (by decide) _ _ _ rfl (World.ownsRow.alloc HW9.out _) ⟨_, 0, none⟩ 1 1 [.slice B e.key.length d, .int .i64 e.id] rfl rfl ?d1 ?d2 ?d3 ?d4 ?d5 ?_)
          (try case d1 => (exact cells_newAt _ [.slice B e.key.length d, .int .i64 e.id] _ (by simp)))
          (try case d2 => (intro u hu; simp at hu; rcases hu with rfl | rfl <;> rfl))
          (try case d3 => (unfold maxLen; omega))
          (try case d4 => (omega))
          (try case d5 => (have := HB9.out.size; simp; omega))
          intro v10 w10 hown10 hgrow10 _
          have HB10 := Lib.hid (show Below W.heap.size W w10 from (HB9.out.alloc HB9.out.size _).grown hgrow10 (by have := HB9.out.size; simp; omega) (fun q hq => (World.ownsRow.lt HW9.out q hq).1))
          obtain ⟨X2, hX2⟩ : ∃ X2, X2 = X1 ++ [.slice B e.key.length d, .int .i64 e.id] := ⟨_, rfl⟩
          rw [← hX2] at hown10
          have HX2 := Lib.hid hX2
          have HW10 := Lib.hid hown10
          clear hX2 hown10 hgrow10 p0 p1
          go_wp2_with (at_builtin; refine wpList_append_own _ rfl _ _ 47 rfl W.heap.size 135 i0 (.agg #[.slice none 0 0, .int .i64 0]) 2 32 Tryz.underlying47 H1.out H2.out H3.out H4.out rfl (by decide) _ _ _ rfl HW10.out ⟨g, 0, none⟩ 0 0 [] rfl rfl ?f1 ?f2 ?f3 ?f4 ?f5 ?_)
          (try case f1 => (intro j u hj; simp at hj))
          (try case f2 => (intro u hu; simp at hu))
          (try case f3 => (unfold maxLen; omega))
          (try case f4 => (omega))
          (try case f5 => (exact HB10.out.size))
          intro v11 w11 hown11 hgrow11 _
          have HB11 := Lib.hid (show Below W.heap.size W w11 from HB10.out.grown hgrow11 HB10.out.size (fun q hq => (World.ownsRow.lt HW10.out q hq).1))
          have hdz : (entC vs l).drop (c * 2) = [] := List.drop_of_length_le (by have h9 := entC_len vs l HOW.out.len; have h8 := HKL.out; omega)
          replace hown11 : w11.ownsRow W.heap.size 135 2 v11 (l.length + 1) ((entC vs l).take (c * 2) ++ [.slice B e.key.length d, .int .i64 e.id] ++ (entC vs l).drop (c * 2)) := by
            rw [hdz, List.append_nil, ← HX1.out, ← HX2.out, ← HKL.out]
            simpa using hown11
          have HE := Lib.hid (show OwnE w11 base v11 (putL l e) by
            unfold putL insAt
            rw [← HT.out]
            exact ⟨_, OwnE0.ins HOW.out hle HKW.out hnd (Joins.ownsRow_le hown11 HWB.out) ⟨HB11.out.os, HB11.out.tape, HB11.out.output, HB11.out.size, fun q hq _ => HB11.out.block q hq⟩⟩)
          have HBF := Lib.hid (show Below w.heap.size w w11 from (HB0.out.trans (HBW.out.mono (Nat.le_of_lt HZ.out))).trans (HB11.out.mono (by have h1 := HBW.out.size; have h2 := HZ.out; omega)))
          clear hown11 hgrow11
          go_wp2_with fail
          go_ret
          exact ⟨v11, rfl, HE.out, HBF.out⟩
        · have hcx : c = c := rfl
          have HBW := Lib.hid (hB9)
          have HOW := Lib.hid (OwnE0.below HO0.out HBW.out)
          have HKW := Lib.hid (show OwnK W base (.slice B e.key.length d) e.key from OwnG.below HK0.out HBW.out)
          have HRW := Lib.hid (HR0.out.below HBW.out)
          have hle : k ≤ l.length := by omega
          have HLIT := Lib.hid (lit_row W)
          have HAL := Lib.hid ((Below.refl W.heap.size W).alloc (Nat.le_refl _) (.cells #[] 135))
          obtain ⟨hl1, hl2⟩ := entC_take vs l HOW.out.len k hle
          have HCL := Lib.hid (fun (W' : World) (hb' : Below W.heap.size W W') => cellsE (OwnE0.below HOW.out hb'))
          have HONE := Lib.hid (OwnE0.ones HOW.out)
          have HWB := Lib.hid (show base ≤ W.heap.size by have h1 := HBW.out.size; have h2 := HZ.out; omega)
          have hcap : l.length ≤ c := capE HOW.out
          have hk0 : (0 : Int) ≤ (k : Nat) := by omega
          have hk1 : ((k : Nat) : Int) ≤ c := by omega
          have hk2 : ((k : Nat) : Int) ≤ l.length := by omega
          go_wp2_with (at_builtin; refine wpList_append_own _ rfl _ _ 47 rfl W.heap.size 135 i0 (.agg #[.slice none 0 0, .int .i64 0]) 2 32 Tryz.underlying47 H1.out H2.out H3.out H4.out rfl (by decide) _ _ _ rfl HLIT.out ⟨g, 0, none⟩ k c ((entC vs l).take (k * 2)) rfl hl1 ?c1 ?c2 ?c3 ?c4 ?c5 ?_)
          (try case c1 => (intro j u hj; (try rw [addr_add, Nat.zero_add]); rw [List.getElem?_take] at hj; split at hj; exact HCL.out _ HAL.out _ _ hj; cases hj))
          (try case c2 => (intro u hu; exact HONE.out u (List.mem_of_mem_take hu)))
          (try case c3 => (unfold maxLen; omega))
          (try case c4 => (omega))
          (try case c5 => (simp))
          intro v9 w9 hown9 hgrow9 _
          have HB9 := Lib.hid (show Below W.heap.size W w9 from HAL.out.grown hgrow9 (by simp) (fun q hq => by cases hq; exact Nat.le_refl _))
          obtain ⟨X1, hX1⟩ : ∃ X1, X1 = (entC vs l).take (k * 2) := ⟨_, rfl⟩
          rw [← hX1] at hown9
          have HX1 := Lib.hid hX1
          have HW9 := Lib.hid hown9
          have hr9 := HRW.out.below HB9.out
          obtain ⟨⟨p0, p1⟩, -⟩ := hr9.all2
          clear hX1 hown9 hgrow9 hr9 hl1
          go_wp2_with (at_builtin; refine wpList_append_own _ rfl _ _ 47 rfl W.heap.size 135 i0 (.agg #[.slice none 0 0, .int .i64 0]) 2 32 Tryz.underlying47 H1.out H2.out H3.out H4.out rfl (by decide) _ _ _ rfl (World.ownsRow.alloc HW9.out _) ⟨_, 0, none⟩ 1 1 [.slice B e.key.length d, .int .i64 e.id] rfl rfl ?d1 ?d2 ?d3 ?d4 ?d5 ?_)
          (try case d1 => (exact cells_newAt _ [.slice B e.key.length d, .int .i64 e.id] _ (by simp)))
          (try case d2 => (intro u hu; simp at hu; rcases hu with rfl | rfl <;> rfl))
          (try case d3 => (unfold maxLen; omega))
          (try case d4 => (omega))
          (try case d5 => (have := HB9.out.size; simp; omega))
          intro v10 w10 hown10 hgrow10 _
          have HB10 := Lib.hid (show Below W.heap.size W w10 from (HB9.out.alloc HB9.out.size _).grown hgrow10 (by have := HB9.out.size; simp; omega) (fun q hq => (World.ownsRow.lt HW9.out q hq).1))
          obtain ⟨X2, hX2⟩ : ∃ X2, X2 = X1 ++ [.slice B e.key.length d, .int .i64 e.id] := ⟨_, rfl⟩
          rw [← hX2] at hown10
          have HX2 := Lib.hid hX2
          have HW10 := Lib.hid hown10
          clear hX2 hown10 hgrow10 p0 p1
          go_wp2_with (at_builtin; refine wpList_append_own _ rfl _ _ 47 rfl W.heap.size 135 i0 (.agg #[.slice none 0 0, .int .i64 0]) 2 32 Tryz.underlying47 H1.out H2.out H3.out H4.out rfl (by decide) _ _ _ rfl HW10.out ⟨g, k * 2, none⟩ (l.length - k) (c - k) ((entC vs l).drop (k * 2)) rfl hl2 ?f1 ?f2 ?f3 ?f4 ?f5 ?_)
          (try case f1 => (intro j u hj; (try rw [addr_add]); rw [List.getElem?_drop] at hj; exact HCL.out _ HB10.out _ _ hj))
          (try case f2 => (intro u hu; exact HONE.out u (List.mem_of_mem_drop hu)))
          (try case f3 => (unfold maxLen; omega))
          (try case f4 => (omega))
          (try case f5 => (exact HB10.out.size))
          intro v11 w11 hown11 hgrow11 _
          have HB11 := Lib.hid (show Below W.heap.size W w11 from HB10.out.grown hgrow11 HB10.out.size (fun q hq => (World.ownsRow.lt HW10.out q hq).1))
          rw [show k + 1 + (l.length - k) = l.length + 1 by omega, HX2.out, HX1.out] at hown11
          have HE := Lib.hid (show OwnE w11 base v11 (putL l e) by
            unfold putL insAt
            rw [← HT.out]
            exact ⟨_, OwnE0.ins HOW.out hle HKW.out hnd (Joins.ownsRow_le hown11 HWB.out) ⟨HB11.out.os, HB11.out.tape, HB11.out.output, HB11.out.size, fun q hq _ => HB11.out.block q hq⟩⟩)
          have HBF := Lib.hid (show Below w.heap.size w w11 from (HB0.out.trans (HBW.out.mono (Nat.le_of_lt HZ.out))).trans (HB11.out.mono (by have h1 := HBW.out.size; have h2 := HZ.out; omega)))
          clear hown11 hgrow11
          go_wp2_with fail
          go_ret
          exact ⟨v11, rfl, HE.out, HBF.out⟩
set_option maxRecDepth 100000 in
set_option maxHeartbeats 4000000 in
theorem specL11Of (AR AC : Option Addr) (nR cR nC cC m : Nat) (rows : List Rw) (cols : List Int) (okr okc : Nat → Prop) (w : World)
    (hR : Sl RwR 2 okr w AR nR rows) (hC : Sl IntR 1 okc w AC nC cols) (hcn : nC ≤ 1048576) (hm : m ≤ 8) (hI : IxIn cols rows m) :
    Calls Tryz.prog 64 #[.agg #[.slice AR nR cR], .slice AC nC cC] w fun r w' => ∃ v, r = .returned v ∧ OwnE w' w.heap.size v (ixK cols rows rows.length) ∧ Below w.heap.size w w' := by
  obtain rfl : rows.length = nR := hR.1
  obtain rfl : cols.length = nC := hC.1
  have HI := Lib.hid hI
  have hrl : rows.length ≤ 60 := hI.few
  have HX := Lib.hid (And.intro hR hC)
  have hb0 := (Below.refl w.heap.size w).alloc (Nat.le_refl _) (.cells #[.slice AR rows.length cR] 122)
  have hb1 := hb0.alloc hb0.size (.cells #[] 135)
  have r0 := (Row.new w 122 #[.slice AR rows.length cR]).alloc (.cells #[] 135)
  have ho0 := OwnE.lit (w.alloc (.cells #[.slice AR rows.length cR] 122)) (base := w.heap.size) hb0.size
  have HB1 := Lib.hid hb1
  have HR0 := Lib.hid r0
  have HO0 := Lib.hid ho0
  clear hI hR hC hb0 hb1 r0 ho0
  go_enter Tryz.func64, Tryz.ntmps64
  go_wp2_with fail
  generalize (w.alloc (.cells #[.slice AR rows.length cR] 122)).alloc (.cells #[] 135) = z0 at *
  go_loopw [5, 6] (fun v i wr => ∃ (k : Nat), k ≤ rows.length ∧ i = .int .i64 k ∧ Hid (OwnE wr w.heap.size v (ixK cols rows k)) ∧ Hid (Row wr w.heap.size 122 #[.slice AR rows.length cR]) ∧ Below w.heap.size w wr) (fun _ i _ => rows.length - (intOf i).toNat)
  case atStart => exact ⟨0, by omega, rfl, Lib.hid (by simpa [ixK] using HO0.out), HR0, HB1.out⟩
  case round =>
    obtain ⟨k, hk, rfl, hown, hbx, hb⟩ := hrel
    have d0 := hbx.out.cell 0
    simp only [List.getElem?_toArray, List.getElem?_cons_zero] at d0
    by_cases hlt : k < rows.length
    · have i0' : (0 : Int) ≤ k := by omega
      have i1' : (k : Int) < rows.length := by omega
      obtain ⟨gr, oo, AV, nV, cV, -, rfl, r0', r1', hv', -⟩ := RwR.at_ (HX.out.1.below RwR.stays hb) hlt
      have hnv : nV ≤ 1048576 := by have h1 := hv'.1; have h2 := (HI.out.row _ (List.getElem_mem hlt)).2.2.1; omega
      have HQ := Lib.hid (ix_step HI.out k (by omega))
      have HS := Lib.hid (ixK_succ cols hlt)
      have HKY := Lib.hid (specL4KeyO AC AV cols.length cC nV cV cols rows[k].vals okc _ wr (HX.out.2.below IntR.stays hb) hv' hcn hnv (HI.out.all (List.getElem_mem hlt)))
      have hR0 := Lib.hid r0'
      clear hv'
      go_wp2_with fail
      refine HKY.out.mono ?_
      rintro e w3 ⟨v3, rfl, ho3, hb3⟩
      have ho3' : OwnK w3 wr.heap.size v3 (keyL cols rows[k].vals) := ho3
      obtain ⟨B3, d3, rfl⟩ := ho3'.shape
      have hbw : w.heap.size ≤ wr.heap.size := hb.size
      have HB3 := Lib.hid (hb.trans (hb3.mono hbw))
      obtain ⟨vs, hO⟩ := hown.out
      have hO3 := OwnE0.below hO hb3
      have hkl : (keyL cols rows[k].vals).length ≤ 1048576 := by rw [keyL_len]; exact hcn
      have HPM := Lib.hid (specL11Put w.heap.size _ (ixK cols rows k) (entOf cols rows[k]) B3 (keyL cols rows[k].vals).length d3 vs w3 hO3 (by have := hb3.size; omega) (by rw [HQ.out.2.1]; omega) (fun x hx => by rw [(HQ.out.2.2 x hx).1]; exact hcn) (ho3'.mono hbw) hkl (hO.fresh ho3' (Nat.le_refl _)))
      have hbx3 := Lib.hid (hbx.out.below hb3)
      have e0 := hbx3.out.cell 0
      simp only [List.getElem?_toArray, List.getElem?_cons_zero] at e0
      have s0 := below_keep hb3 _ _ r0'
      clear HKY ho3 ho3' hb3 hO hO3 r0' r1' d0
      go_wp2_with fail
      refine HPM.out.mono ?_
      rintro e w4 ⟨v4, rfl, ho4, hb4⟩
      rw [← HS.out] at ho4
      have HO4 := Lib.hid ho4
      have HB4 := Lib.hid (HB3.out.trans (hb4.mono HB3.out.size))
      have HR4 := Lib.hid (hbx3.out.below hb4)
      clear HPM ho4 hb4 e0 s0
      go_wp2_with fail
      go_roundw
      case rel => exact ⟨k + 1, by omega, by go_num, HO4, HR4, HB4.out⟩
      case measure => simp [intOf]; omega
    · obtain rfl : k = rows.length := by omega
      go_wp2_with fail
      go_ret
      exact ⟨_, rfl, hown.out, hb⟩
end Go.Proofs.YtemimhghhihllaaGreat
namespace Go.Proofs.YtemimhghhihllaaGreat
open Go.RowKit
theorem ent_len {x : En} (h : x.sz ≤ 1048576) : x.key.length ≤ 1048576 := by
  have h4 : x.sz = szL (fun v : Vl => v.s.size) x.key := rfl
  have h2 : x.key.length ≤ szL (fun v : Vl => v.s.size) x.key := by unfold szL; omega
  omega
theorem ents_len {l : List En} (h : szL En.sz l ≤ 1048576) : ∀ x ∈ l, x.key.length ≤ 1048576 := fun x hx => ent_len (Nat.le_trans (szL_mem En.sz l x hx) h)
theorem ents_marks {l : List En} (h : szL En.sz l ≤ 1048576) : 1 + (l.map En.marks).sum ≤ 1073741824 := by
  have h1 := sum_le_of (f := En.marks) (g := En.sz) 3 (fun x => by
    have h2 : x.key.length ≤ szL (fun v : Vl => v.s.size) x.key := by unfold szL; omega
    have h4 : x.sz = szL (fun v : Vl => v.s.size) x.key := rfl
    unfold En.marks
    omega) l
  omega
theorem KeptL.range {B E : Nat} {w w' : World} (h : Kept B E w w') : KeptL (List.range' B (E - B)) w w' :=
  ⟨h.os, h.tape, h.output, h.size, fun k hk ho => h.block k hk (by
    rw [List.mem_range'_1] at ho
    omega), h.frozen⟩
theorem not_range {B E : Nat} {bs : List Nat} (h : ∀ b ∈ bs, E ≤ b) : ∀ x ∈ bs, x ∉ List.range' B (E - B) := fun x hx hh => by
  have h1 := h x hx
  rw [List.mem_range'_1] at hh
  omega
theorem Sl.keptL {α : Type} {R : Rd α} {sz : Nat} {ok : Nat → Prop} {w w' : World} {A : Option Addr} {n : Nat} {xs : List α} {bs : List Nat} (h : Sl R sz ok w A n xs) (hR : Stays R) (hk : KeptL bs w w') (hd : ∀ b, ok b → b ∉ bs) : Sl R sz ok w' A n xs :=
  h.stays hR (fun _ h => h) fun p v hb hp => hk.far (hd _ hb) hp
end Go.Proofs.YtemimhghhihllaaGreat
