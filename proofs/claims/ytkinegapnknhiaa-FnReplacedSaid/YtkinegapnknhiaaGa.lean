/-
  Several texts in one: MarkText, Mark, MarkX, MarkDz, OwnMarks, DiskMarks, DiskAct, OwnLaw, DiskLaw, DiskBox, DiskRead, DiskRepl.
-/
import Derived.Test.YtkinegapnknhiaaMarks
import Derived.Laws.IdiomStrings
import Derived.Test.YtkinegapnknhiaaDiskOwn
import Derived.Test.YtkinegapnknhiaaDiskCopy
import Derived.Test.YtkinegapnknhiaaDiskSync
import Derived.Test.YtkinegapnknhiaaDiskOkImpl
namespace Go.Proofs.Ytkinegapnknhiaa
open Go.RowKit
set_option linter.unusedVariables false
set_option linter.unusedSimpArgs false

def digB (k : Nat) : ByteArray := ⟨#[UInt8.ofNat (48 + k % 10)]⟩
def mtFin : Nat → Nat → ByteArray → ByteArray
  | 0, _, out => ⟨#[109]⟩ ++ out
  | f + 1, k, out => if k = 0 then ⟨#[109]⟩ ++ out else mtFin f (k / 10) (digB k ++ out)
def mtx (k : Nat) : ByteArray := if k = 0 then ⟨#[109, 48]⟩ else mtFin k k ⟨#[]⟩
theorem mtFin_zero (f : Nat) (out : ByteArray) : mtFin f 0 out = ⟨#[109]⟩ ++ out := by cases f <;> simp [mtFin]
theorem mtFin_step (f k : Nat) (out : ByteArray) (h : 0 < k) : mtFin (f + 1) k out = mtFin f (k / 10) (digB k ++ out) := by
  rw [mtFin, if_neg (by omega)]

theorem digB_run (j : Nat) (w : World) :
    (convert 22 9 (.slice (some ⟨w.heap.size, 0, none⟩) 1 1)).run Try.prog (w.alloc (.cells #[.int .u8 (48 + (j : Int) % 10)] 5)) = .ok (.string (digB j)) (w.alloc (.cells #[.int .u8 (48 + (j : Int) % 10)] 5)) := by
  refine run_convert_bytes_back _ _ _ 5 ⟨w.heap.size, 0, none⟩ 1 [UInt8.ofNat (48 + j % 10)] Try.underlying22 Try.underlying5 Try.underlying9 fun i hi => ?_
  have e : i = 0 := by simpa using hi
  subst e
  have e2 : (UInt8.ofNat (48 + j % 10)).toNat = 48 + j % 10 := by rw [UInt8.toNat_ofNat']; omega
  simp [Addr.add, World.cell?_alloc_mark]
  omega

def MtRel (k : Nat) (w : World) (m o : Value) (wr : World) : Prop := ∃ (f j : Nat) (out : ByteArray), m = .int .i64 j ∧ o = .string out ∧ j ≤ f ∧ out.size + f ≤ k ∧ Hid (mtFin k k ⟨#[]⟩ = mtFin f j out) ∧ Below w.heap.size w wr
theorem digB_size (j : Nat) : (digB j).size = 1 := rfl

set_option maxRecDepth 100000 in
set_option maxHeartbeats 1000000 in
theorem lawsMarkText (k : Nat) (w : World) (hk : k ≤ 1073741824) {x : Int} (hx : x = k) :
    Calls Try.prog 96 #[.int .i64 x] w fun e w' => e = .returned (.string (mtx k)) ∧ Below w.heap.size w w' := by
  subst hx
  by_cases h0 : k = 0
  · subst h0
    go_enter Try.func96, Try.ntmps96
    go_wp2_with fail
    go_ret
    exact ⟨rfl, Below.refl _ _⟩
  have hpos : ¬ ((k : Int) ≤ 0) := by omega
  go_enter Try.func96, Try.ntmps96
  go_wp2_with fail
  go_loopw [0, 3] (MtRel k w) (fun m _ _ => (intOf m).toNat)
  case atStart => exact ⟨k, k, ⟨#[]⟩, rfl, rfl, Nat.le_refl _, by simp [ByteArray.size], Lib.hid rfl, Below.refl _ _⟩
  case round =>
    obtain ⟨f, j, out, rfl, rfl, hj, ho, hm, hb⟩ := hrel
    by_cases hlt : 0 < j
    · obtain ⟨f, rfl⟩ : ∃ g, f = g + 1 := ⟨f - 1, by omega⟩
      have hm2 := hm.out
      rw [mtFin_step _ _ _ hlt] at hm2
      have HM := Lib.hid hm2
      clear hm hm2
      have d0 : (0 : Int) < j := by omega
      have hcv := digB_run j wr
      have hc1 : (digB j).size + out.size ≤ 9223372036854775807 := by rw [digB_size]; omega
      have hc2 : ¬ 9223372036854775807 < (digB j).size + out.size := by omega
      have hba := hb.alloc hb.size (.cells #[.int .u8 (48 + (j : Int) % 10)] 5)
      go_wp2_with fail
      go_roundw
      case rel => exact ⟨f, j / 10, digB j ++ out, by go_num, rfl, by omega, by rw [ByteArray.size_append, digB_size]; omega, HM, hba⟩
      case measure => simp [intOf]; omega
    · have e : j = 0 := by omega
      have hm2 := hm.out
      rw [e, mtFin_zero] at hm2
      have HM := Lib.hid (show mtx k = ⟨#[109]⟩ ++ out by rw [mtx, if_neg h0]; exact hm2)
      have d0 : ¬ ((0 : Int) < j) := by omega
      have hc1 : (⟨#[109]⟩ : ByteArray).size + out.size ≤ 9223372036854775807 := by show 1 + out.size ≤ _; omega
      have hc2 : 1 + out.size ≤ 9223372036854775807 := by omega
      clear hm hm2 e
      go_wp2_with fail
      go_ret
      exact ⟨by rw [HM.out]; rfl, hb⟩
end Go.Proofs.Ytkinegapnknhiaa
namespace Go.Proofs.Ytkinegapnknhiaa
open Go.RowKit
set_option linter.unusedVariables false

theorem Int.toSh : ∀ (ok : Nat → Prop) (w : World) (cs : List Value) (x : Int), True → IntR ok w cs x → ShF 1 ok w cs ((fun _ : Int => 1) x) := fun _ _ cs x _ h => by
  have e : cs = _ := h
  subst e
  refine ⟨rfl, fun j v hv => ?_, rfl⟩
  have hj : j < 1 := (List.getElem?_eq_some_iff.1 hv).1
  have : j = 0 := by omega
  rcases this with rfl <;> (obtain rfl := Option.some.inj hv; rfl)
theorem Tk.toSh : ∀ (ok : Nat → Prop) (w : World) (cs : List Value) (x : Tk), True → TkR ok w cs x → ShF 5 ok w cs ((fun _ : Tk => 5) x) := fun _ _ cs x _ h => by
  have e : cs = _ := h
  subst e
  refine ⟨rfl, fun j v hv => ?_, rfl⟩
  have hj : j < 5 := (List.getElem?_eq_some_iff.1 hv).1
  have : j = 0 ∨ j = 1 ∨ j = 2 ∨ j = 3 ∨ j = 4 := by omega
  rcases this with rfl | rfl | rfl | rfl | rfl <;> (obtain rfl := Option.some.inj hv; rfl)
theorem Vl.toSh : ∀ (ok : Nat → Prop) (w : World) (cs : List Value) (x : Vl), True → VlR ok w cs x → ShF 3 ok w cs ((fun _ : Vl => 3) x) := fun _ _ cs x _ h => by
  have e : cs = _ := h
  subst e
  refine ⟨rfl, fun j v hv => ?_, rfl⟩
  have hj : j < 3 := (List.getElem?_eq_some_iff.1 hv).1
  have : j = 0 ∨ j = 1 ∨ j = 2 := by omega
  rcases this with rfl | rfl | rfl <;> (obtain rfl := Option.some.inj hv; rfl)
theorem Cl.toSh : ∀ (ok : Nat → Prop) (w : World) (cs : List Value) (x : Cl), True → ClR ok w cs x → ShF 6 ok w cs ((fun _ : Cl => 6) x) := fun _ _ cs x _ h => by
  have e : cs = _ := h
  subst e
  refine ⟨rfl, fun j v hv => ?_, rfl⟩
  have hj : j < 6 := (List.getElem?_eq_some_iff.1 hv).1
  have : j = 0 ∨ j = 1 ∨ j = 2 ∨ j = 3 ∨ j = 4 ∨ j = 5 := by omega
  rcases this with rfl | rfl | rfl | rfl | rfl | rfl <;> (obtain rfl := Option.some.inj hv; rfl)
theorem Fz.toSh : ∀ (ok : Nat → Prop) (w : World) (cs : List Value) (x : Fz), True → FzR ok w cs x → ShF 2 ok w cs ((fun _ : Fz => 2) x) := fun _ _ cs x _ h => by
  have e : cs = _ := h
  subst e
  refine ⟨rfl, fun j v hv => ?_, rfl⟩
  have hj : j < 2 := (List.getElem?_eq_some_iff.1 hv).1
  have : j = 0 ∨ j = 1 := by omega
  rcases this with rfl | rfl <;> (obtain rfl := Option.some.inj hv; rfl)
theorem Oz.toSh : ∀ (ok : Nat → Prop) (w : World) (cs : List Value) (x : Oz), True → OzR ok w cs x → ShF 4 ok w cs ((fun _ : Oz => 4) x) := fun _ _ cs x _ h => by
  have e : cs = _ := h
  subst e
  refine ⟨rfl, fun j v hv => ?_, rfl⟩
  have hj : j < 4 := (List.getElem?_eq_some_iff.1 hv).1
  have : j = 0 ∨ j = 1 ∨ j = 2 ∨ j = 3 := by omega
  rcases this with rfl | rfl | rfl | rfl <;> (obtain rfl := Option.some.inj hv; rfl)
def UqSh : Rd Nat := fun ok w cs d => ∃ (A0 : Option Addr) (n0 c0 : Nat) (m0 : List Nat), cs = [.slice A0 n0 c0] ∧ (True) ∧ Sl (ShF 1) 1 ok w A0 n0 m0 ∧ (n0 ≤ 1048576) ∧ d = m0.sum
theorem UqSh.keeps : KStays UqSh := by
  intro ok B E w w' cs cs' d hR hk hl hc
  obtain ⟨A0, n0, c0, m0, rfl, -, h0, hcp, hd⟩ := hR
  match cs', hl with
  | [x0], _ =>
    obtain ⟨y0, e0, s0, t0⟩ := hc 0 _ rfl
    obtain rfl : x0 = y0 := Option.some.inj e0
    obtain rfl := s0 rfl
    exact ⟨A0, n0, c0, m0, rfl, trivial, h0.shape (ShF.keeps 1) hk, hcp, hd⟩
def Uq.cnt (x : Uq) : Nat := (x.cols.map (fun _ : Int => 1)).sum
theorem Uq.toSh : ∀ (ok : Nat → Prop) (w : World) (cs : List Value) (x : Uq), x.sz ≤ 1048576 → UqR ok w cs x → UqSh ok w cs x.cnt := fun _ _ _ x hs ⟨A0, n0, c0, e, h0, _⟩ =>
  ⟨A0, n0, c0, _, e, trivial, h0.toSh Int.toSh (fun _ _ => trivial), (by have h1 := h0.1; unfold Uq.sz at hs; (try simp only [szL] at hs); omega), rfl⟩
theorem Uq.cnt_le (x : Uq) : x.cnt ≤ 6 * (x.sz + 1) := by
  unfold Uq.cnt Uq.sz
  have z0 : (x.cols.map (fun _ : Int => 1)).sum = x.cols.length := sum_ones _
  omega

def CkSh : Rd Nat := fun ok w cs d => ∃ (A0 : Option Addr) (n0 c0 : Nat) (m0 : List Nat), cs = [.slice A0 n0 c0] ∧ (True) ∧ Sl (ShF 5) 5 ok w A0 n0 m0 ∧ (n0 ≤ 1048576) ∧ d = m0.sum
theorem CkSh.keeps : KStays CkSh := by
  intro ok B E w w' cs cs' d hR hk hl hc
  obtain ⟨A0, n0, c0, m0, rfl, -, h0, hcp, hd⟩ := hR
  match cs', hl with
  | [x0], _ =>
    obtain ⟨y0, e0, s0, t0⟩ := hc 0 _ rfl
    obtain rfl : x0 = y0 := Option.some.inj e0
    obtain rfl := s0 rfl
    exact ⟨A0, n0, c0, m0, rfl, trivial, h0.shape (ShF.keeps 5) hk, hcp, hd⟩
def Ck.cnt (x : Ck) : Nat := (x.expr.map (fun _ : Tk => 5)).sum
theorem Ck.toSh : ∀ (ok : Nat → Prop) (w : World) (cs : List Value) (x : Ck), x.sz ≤ 1048576 → CkR ok w cs x → CkSh ok w cs x.cnt := fun _ _ _ x hs ⟨A0, n0, c0, e, h0, _⟩ =>
  ⟨A0, n0, c0, _, e, trivial, h0.toSh Tk.toSh (fun _ _ => trivial), (by have h1 := h0.1; unfold Ck.sz at hs; (try simp only [szL] at hs); omega), rfl⟩
theorem Ck.cnt_le (x : Ck) : x.cnt ≤ 6 * (x.sz + 1) := by
  unfold Ck.cnt Ck.sz
  have z0 := sum_le_of (f := (fun _ : Tk => 5)) (g := fun t : Tk => t.vs.size) 6 (fun _ => by omega) x.expr
  omega

def FkSh : Rd Nat := fun ok w cs d => ∃ (A0 : Option Addr) (n0 c0 : Nat) (m0 : List Nat) (u1 u2 u3 u4 : Value), cs = [.slice A0 n0 c0, u1, u2, u3, u4] ∧ (isSl u1 = false ∧ isSl u2 = false ∧ isSl u3 = false ∧ isSl u4 = false) ∧ Sl (ShF 1) 1 ok w A0 n0 m0 ∧ (n0 ≤ 1048576) ∧ d = 4 + m0.sum
theorem FkSh.keeps : KStays FkSh := by
  intro ok B E w w' cs cs' d hR hk hl hc
  obtain ⟨A0, n0, c0, m0, u1, u2, u3, u4, rfl, ⟨g1, g2, g3, g4⟩, h0, hcp, hd⟩ := hR
  match cs', hl with
  | [x0, x1, x2, x3, x4], _ =>
    obtain ⟨y0, e0, s0, t0⟩ := hc 0 _ rfl
    obtain rfl : x0 = y0 := Option.some.inj e0
    obtain ⟨y1, e1, s1, t1⟩ := hc 1 _ rfl
    obtain rfl : x1 = y1 := Option.some.inj e1
    obtain ⟨y2, e2, s2, t2⟩ := hc 2 _ rfl
    obtain rfl : x2 = y2 := Option.some.inj e2
    obtain ⟨y3, e3, s3, t3⟩ := hc 3 _ rfl
    obtain rfl : x3 = y3 := Option.some.inj e3
    obtain ⟨y4, e4, s4, t4⟩ := hc 4 _ rfl
    obtain rfl : x4 = y4 := Option.some.inj e4
    obtain rfl := s0 rfl
    exact ⟨A0, n0, c0, m0, x1, x2, x3, x4, rfl, ⟨t1.trans g1, t2.trans g2, t3.trans g3, t4.trans g4⟩, h0.shape (ShF.keeps 1) hk, hcp, hd⟩
def Fk.cnt (x : Fk) : Nat := 4 + (x.cols.map (fun _ : Int => 1)).sum
theorem Fk.toSh : ∀ (ok : Nat → Prop) (w : World) (cs : List Value) (x : Fk), x.sz ≤ 1048576 → FkR ok w cs x → FkSh ok w cs x.cnt := fun _ _ _ x hs ⟨A0, n0, c0, e, h0, _⟩ =>
  ⟨A0, n0, c0, _, _, _, _, _, e, ⟨rfl, rfl, rfl, rfl⟩, h0.toSh Int.toSh (fun _ _ => trivial), (by have h1 := h0.1; unfold Fk.sz at hs; (try simp only [szL] at hs); omega), rfl⟩
theorem Fk.cnt_le (x : Fk) : x.cnt ≤ 6 * (x.sz + 1) := by
  unfold Fk.cnt Fk.sz
  have z0 : (x.cols.map (fun _ : Int => 1)).sum = x.cols.length := sum_ones _
  omega

def TbSh : Rd Nat := fun ok w cs d => ∃ (A1 : Option Addr) (n1 c1 : Nat) (m1 : List Nat) (A2 : Option Addr) (n2 c2 : Nat) (m2 : List Nat) (A3 : Option Addr) (n3 c3 : Nat) (m3 : List Nat) (A4 : Option Addr) (n4 c4 : Nat) (m4 : List Nat) (A5 : Option Addr) (n5 c5 : Nat) (m5 : List Nat) (u0 : Value), cs = [u0, .slice A1 n1 c1, .slice A2 n2 c2, .slice A3 n3 c3, .slice A4 n4 c4, .slice A5 n5 c5] ∧ (isSl u0 = false) ∧ Sl (ShF 6) 6 ok w A1 n1 m1 ∧ Sl (ShF 1) 1 ok w A2 n2 m2 ∧ Sl UqSh 1 ok w A3 n3 m3 ∧ Sl CkSh 1 ok w A4 n4 m4 ∧ Sl FkSh 5 ok w A5 n5 m5 ∧ (n1 ≤ 1048576 ∧ n2 ≤ 1048576 ∧ n3 ≤ 1048576 ∧ n4 ≤ 1048576 ∧ n5 ≤ 1048576) ∧ d = 1 + m1.sum + m2.sum + m3.sum + m4.sum + m5.sum
theorem TbSh.keeps : KStays TbSh := by
  intro ok B E w w' cs cs' d hR hk hl hc
  obtain ⟨A1, n1, c1, m1, A2, n2, c2, m2, A3, n3, c3, m3, A4, n4, c4, m4, A5, n5, c5, m5, u0, rfl, g0, h1, h2, h3, h4, h5, hcp, hd⟩ := hR
  match cs', hl with
  | [x0, x1, x2, x3, x4, x5], _ =>
    obtain ⟨y0, e0, s0, t0⟩ := hc 0 _ rfl
    obtain rfl : x0 = y0 := Option.some.inj e0
    obtain ⟨y1, e1, s1, t1⟩ := hc 1 _ rfl
    obtain rfl : x1 = y1 := Option.some.inj e1
    obtain ⟨y2, e2, s2, t2⟩ := hc 2 _ rfl
    obtain rfl : x2 = y2 := Option.some.inj e2
    obtain ⟨y3, e3, s3, t3⟩ := hc 3 _ rfl
    obtain rfl : x3 = y3 := Option.some.inj e3
    obtain ⟨y4, e4, s4, t4⟩ := hc 4 _ rfl
    obtain rfl : x4 = y4 := Option.some.inj e4
    obtain ⟨y5, e5, s5, t5⟩ := hc 5 _ rfl
    obtain rfl : x5 = y5 := Option.some.inj e5
    obtain rfl := s1 rfl
    obtain rfl := s2 rfl
    obtain rfl := s3 rfl
    obtain rfl := s4 rfl
    obtain rfl := s5 rfl
    exact ⟨A1, n1, c1, m1, A2, n2, c2, m2, A3, n3, c3, m3, A4, n4, c4, m4, A5, n5, c5, m5, x0, rfl, t0.trans g0, h1.shape (ShF.keeps 6) hk, h2.shape (ShF.keeps 1) hk, h3.shape UqSh.keeps hk, h4.shape CkSh.keeps hk, h5.shape FkSh.keeps hk, hcp, hd⟩
def Tb.cnt (x : Tb) : Nat := 1 + (x.cols.map (fun _ : Cl => 6)).sum + (x.key.map (fun _ : Int => 1)).sum + (x.uniqs.map Uq.cnt).sum + (x.checks.map Ck.cnt).sum + (x.fks.map Fk.cnt).sum
theorem Tb.toSh : ∀ (ok : Nat → Prop) (w : World) (cs : List Value) (x : Tb), x.sz ≤ 1048576 → TbR ok w cs x → TbSh ok w cs x.cnt := fun _ _ _ x hs ⟨A1, n1, c1, A2, n2, c2, A3, n3, c3, A4, n4, c4, A5, n5, c5, e, h1, h2, h3, h4, h5, _⟩ =>
  ⟨A1, n1, c1, _, A2, n2, c2, _, A3, n3, c3, _, A4, n4, c4, _, A5, n5, c5, _, _, e, rfl, h1.toSh Cl.toSh (fun _ _ => trivial), h2.toSh Int.toSh (fun _ _ => trivial), h3.toSh Uq.toSh (fun y hy => by have h1 := szL_mem Uq.sz x.uniqs y hy; unfold Tb.sz at hs; omega), h4.toSh Ck.toSh (fun y hy => by have h1 := szL_mem Ck.sz x.checks y hy; unfold Tb.sz at hs; omega), h5.toSh Fk.toSh (fun y hy => by have h1 := szL_mem Fk.sz x.fks y hy; unfold Tb.sz at hs; omega), ⟨(by have h1 := h1.1; unfold Tb.sz at hs; (try simp only [szL] at hs); omega), (by have h1 := h2.1; unfold Tb.sz at hs; (try simp only [szL] at hs); omega), (by have h1 := h3.1; unfold Tb.sz at hs; (try simp only [szL] at hs); omega), (by have h1 := h4.1; unfold Tb.sz at hs; (try simp only [szL] at hs); omega), (by have h1 := h5.1; unfold Tb.sz at hs; (try simp only [szL] at hs); omega)⟩, rfl⟩
theorem Tb.cnt_le (x : Tb) : x.cnt ≤ 6 * (x.sz + 1) := by
  unfold Tb.cnt Tb.sz
  have z1 := sum_le_of (f := (fun _ : Cl => 6)) (g := Cl.sz) 6 (fun _ => by omega) x.cols
  have z2 : (x.key.map (fun _ : Int => 1)).sum = x.key.length := sum_ones _
  have z3 := sum_le_of (f := Uq.cnt) (g := Uq.sz) 6 Uq.cnt_le x.uniqs
  have z4 := sum_le_of (f := Ck.cnt) (g := Ck.sz) 6 Ck.cnt_le x.checks
  have z5 := sum_le_of (f := Fk.cnt) (g := Fk.sz) 6 Fk.cnt_le x.fks
  omega

def RwSh : Rd Nat := fun ok w cs d => ∃ (A1 : Option Addr) (n1 c1 : Nat) (m1 : List Nat) (u0 : Value), cs = [u0, .slice A1 n1 c1] ∧ (isSl u0 = false) ∧ Sl (ShF 3) 3 ok w A1 n1 m1 ∧ (n1 ≤ 1048576) ∧ d = 1 + m1.sum
theorem RwSh.keeps : KStays RwSh := by
  intro ok B E w w' cs cs' d hR hk hl hc
  obtain ⟨A1, n1, c1, m1, u0, rfl, g0, h1, hcp, hd⟩ := hR
  match cs', hl with
  | [x0, x1], _ =>
    obtain ⟨y0, e0, s0, t0⟩ := hc 0 _ rfl
    obtain rfl : x0 = y0 := Option.some.inj e0
    obtain ⟨y1, e1, s1, t1⟩ := hc 1 _ rfl
    obtain rfl : x1 = y1 := Option.some.inj e1
    obtain rfl := s1 rfl
    exact ⟨A1, n1, c1, m1, x0, rfl, t0.trans g0, h1.shape (ShF.keeps 3) hk, hcp, hd⟩
def Rw.cnt (x : Rw) : Nat := 1 + (x.vals.map (fun _ : Vl => 3)).sum
theorem Rw.toSh : ∀ (ok : Nat → Prop) (w : World) (cs : List Value) (x : Rw), x.sz ≤ 1048576 → RwR ok w cs x → RwSh ok w cs x.cnt := fun _ _ _ x hs ⟨A1, n1, c1, e, h1, _⟩ =>
  ⟨A1, n1, c1, _, _, e, rfl, h1.toSh Vl.toSh (fun _ _ => trivial), (by have h1 := h1.1; unfold Rw.sz at hs; (try simp only [szL] at hs); omega), rfl⟩
theorem Rw.cnt_le (x : Rw) : x.cnt ≤ 6 * (x.sz + 1) := by
  unfold Rw.cnt Rw.sz
  have z1 := sum_le_of (f := (fun _ : Vl => 3)) (g := fun v : Vl => v.s.size) 6 (fun _ => by omega) x.vals
  omega

def DtSh : Rd Nat := fun ok w cs d => ∃ (A0 : Option Addr) (n0 c0 : Nat) (m0 : List Nat), cs = [.slice A0 n0 c0] ∧ (True) ∧ Sl RwSh 2 ok w A0 n0 m0 ∧ (n0 ≤ 1048576) ∧ d = m0.sum
theorem DtSh.keeps : KStays DtSh := by
  intro ok B E w w' cs cs' d hR hk hl hc
  obtain ⟨A0, n0, c0, m0, rfl, -, h0, hcp, hd⟩ := hR
  match cs', hl with
  | [x0], _ =>
    obtain ⟨y0, e0, s0, t0⟩ := hc 0 _ rfl
    obtain rfl : x0 = y0 := Option.some.inj e0
    obtain rfl := s0 rfl
    exact ⟨A0, n0, c0, m0, rfl, trivial, h0.shape RwSh.keeps hk, hcp, hd⟩
def Dt.cnt (x : Dt) : Nat := (x.rows.map Rw.cnt).sum
theorem Dt.toSh : ∀ (ok : Nat → Prop) (w : World) (cs : List Value) (x : Dt), x.sz ≤ 1048576 → DtR ok w cs x → DtSh ok w cs x.cnt := fun _ _ _ x hs ⟨A0, n0, c0, e, h0, _⟩ =>
  ⟨A0, n0, c0, _, e, trivial, h0.toSh Rw.toSh (fun y hy => by have h1 := szL_mem Rw.sz x.rows y hy; unfold Dt.sz at hs; omega), (by have h1 := h0.1; unfold Dt.sz at hs; (try simp only [szL] at hs); omega), rfl⟩
theorem Dt.cnt_le (x : Dt) : x.cnt ≤ 6 * (x.sz + 1) := by
  unfold Dt.cnt Dt.sz
  have z0 := sum_le_of (f := Rw.cnt) (g := Rw.sz) 6 Rw.cnt_le x.rows
  omega

def SeSh : Rd Nat := fun ok w cs d => ∃ (A1 : Option Addr) (n1 c1 : Nat) (m1 : List Nat) (u0 : Value), cs = [u0, .slice A1 n1 c1] ∧ (isSl u0 = false) ∧ Sl (ShF 5) 5 ok w A1 n1 m1 ∧ (n1 ≤ 1048576) ∧ d = 1 + m1.sum
theorem SeSh.keeps : KStays SeSh := by
  intro ok B E w w' cs cs' d hR hk hl hc
  obtain ⟨A1, n1, c1, m1, u0, rfl, g0, h1, hcp, hd⟩ := hR
  match cs', hl with
  | [x0, x1], _ =>
    obtain ⟨y0, e0, s0, t0⟩ := hc 0 _ rfl
    obtain rfl : x0 = y0 := Option.some.inj e0
    obtain ⟨y1, e1, s1, t1⟩ := hc 1 _ rfl
    obtain rfl : x1 = y1 := Option.some.inj e1
    obtain rfl := s1 rfl
    exact ⟨A1, n1, c1, m1, x0, rfl, t0.trans g0, h1.shape (ShF.keeps 5) hk, hcp, hd⟩
def Se.cnt (x : Se) : Nat := 1 + (x.expr.map (fun _ : Tk => 5)).sum
theorem Se.toSh : ∀ (ok : Nat → Prop) (w : World) (cs : List Value) (x : Se), x.sz ≤ 1048576 → SeR ok w cs x → SeSh ok w cs x.cnt := fun _ _ _ x hs ⟨A1, n1, c1, e, h1, _⟩ =>
  ⟨A1, n1, c1, _, _, e, rfl, h1.toSh Tk.toSh (fun _ _ => trivial), (by have h1 := h1.1; unfold Se.sz at hs; (try simp only [szL] at hs); omega), rfl⟩
theorem Se.cnt_le (x : Se) : x.cnt ≤ 6 * (x.sz + 1) := by
  unfold Se.cnt Se.sz
  have z1 := sum_le_of (f := (fun _ : Tk => 5)) (g := fun t : Tk => t.vs.size) 6 (fun _ => by omega) x.expr
  omega

def SqSh : Rd Nat := fun ok w cs d => ∃ (A2 : Option Addr) (n2 c2 : Nat) (m2 : List Nat) (A3 : Option Addr) (n3 c3 : Nat) (m3 : List Nat) (A4 : Option Addr) (n4 c4 : Nat) (m4 : List Nat) (u0 u1 u5 : Value), cs = [u0, u1, .slice A2 n2 c2, .slice A3 n3 c3, .slice A4 n4 c4, u5] ∧ (isSl u0 = false ∧ isSl u1 = false ∧ isSl u5 = false) ∧ Sl RwSh 2 ok w A2 n2 m2 ∧ Sl (ShF 5) 5 ok w A3 n3 m3 ∧ Sl SeSh 2 ok w A4 n4 m4 ∧ (n2 ≤ 1048576 ∧ n3 ≤ 1048576 ∧ n4 ≤ 1048576) ∧ d = 3 + m2.sum + m3.sum + m4.sum
theorem SqSh.keeps : KStays SqSh := by
  intro ok B E w w' cs cs' d hR hk hl hc
  obtain ⟨A2, n2, c2, m2, A3, n3, c3, m3, A4, n4, c4, m4, u0, u1, u5, rfl, ⟨g0, g1, g5⟩, h2, h3, h4, hcp, hd⟩ := hR
  match cs', hl with
  | [x0, x1, x2, x3, x4, x5], _ =>
    obtain ⟨y0, e0, s0, t0⟩ := hc 0 _ rfl
    obtain rfl : x0 = y0 := Option.some.inj e0
    obtain ⟨y1, e1, s1, t1⟩ := hc 1 _ rfl
    obtain rfl : x1 = y1 := Option.some.inj e1
    obtain ⟨y2, e2, s2, t2⟩ := hc 2 _ rfl
    obtain rfl : x2 = y2 := Option.some.inj e2
    obtain ⟨y3, e3, s3, t3⟩ := hc 3 _ rfl
    obtain rfl : x3 = y3 := Option.some.inj e3
    obtain ⟨y4, e4, s4, t4⟩ := hc 4 _ rfl
    obtain rfl : x4 = y4 := Option.some.inj e4
    obtain ⟨y5, e5, s5, t5⟩ := hc 5 _ rfl
    obtain rfl : x5 = y5 := Option.some.inj e5
    obtain rfl := s2 rfl
    obtain rfl := s3 rfl
    obtain rfl := s4 rfl
    exact ⟨A2, n2, c2, m2, A3, n3, c3, m3, A4, n4, c4, m4, x0, x1, x5, rfl, ⟨t0.trans g0, t1.trans g1, t5.trans g5⟩, h2.shape RwSh.keeps hk, h3.shape (ShF.keeps 5) hk, h4.shape SeSh.keeps hk, hcp, hd⟩
def Sq.cnt (x : Sq) : Nat := 3 + (x.rows.map Rw.cnt).sum + (x.wher.map (fun _ : Tk => 5)).sum + (x.sets.map Se.cnt).sum
theorem Sq.toSh : ∀ (ok : Nat → Prop) (w : World) (cs : List Value) (x : Sq), x.sz ≤ 1048576 → SqR ok w cs x → SqSh ok w cs x.cnt := fun _ _ _ x hs ⟨A2, n2, c2, A3, n3, c3, A4, n4, c4, e, h2, h3, h4, _⟩ =>
  ⟨A2, n2, c2, _, A3, n3, c3, _, A4, n4, c4, _, _, _, _, e, ⟨rfl, rfl, rfl⟩, h2.toSh Rw.toSh (fun y hy => by have h1 := szL_mem Rw.sz x.rows y hy; unfold Sq.sz at hs; omega), h3.toSh Tk.toSh (fun _ _ => trivial), h4.toSh Se.toSh (fun y hy => by have h1 := szL_mem Se.sz x.sets y hy; unfold Sq.sz at hs; omega), ⟨(by have h1 := h2.1; unfold Sq.sz at hs; (try simp only [szL] at hs); omega), (by have h1 := h3.1; unfold Sq.sz at hs; (try simp only [szL] at hs); omega), (by have h1 := h4.1; unfold Sq.sz at hs; (try simp only [szL] at hs); omega)⟩, rfl⟩
theorem Sq.cnt_le (x : Sq) : x.cnt ≤ 6 * (x.sz + 1) := by
  unfold Sq.cnt Sq.sz
  have z2 := sum_le_of (f := Rw.cnt) (g := Rw.sz) 6 Rw.cnt_le x.rows
  have z3 := sum_le_of (f := (fun _ : Tk => 5)) (g := fun t : Tk => t.vs.size) 6 (fun _ => by omega) x.wher
  have z4 := sum_le_of (f := Se.cnt) (g := Se.sz) 6 Se.cnt_le x.sets
  omega

def TeSh : Rd Nat := fun ok w cs d => ∃ (A0 : Option Addr) (n0 c0 : Nat) (m0 : List Nat), cs = [.slice A0 n0 c0] ∧ (True) ∧ Sl (ShF 5) 5 ok w A0 n0 m0 ∧ (n0 ≤ 1048576) ∧ d = m0.sum
theorem TeSh.keeps : KStays TeSh := by
  intro ok B E w w' cs cs' d hR hk hl hc
  obtain ⟨A0, n0, c0, m0, rfl, -, h0, hcp, hd⟩ := hR
  match cs', hl with
  | [x0], _ =>
    obtain ⟨y0, e0, s0, t0⟩ := hc 0 _ rfl
    obtain rfl : x0 = y0 := Option.some.inj e0
    obtain rfl := s0 rfl
    exact ⟨A0, n0, c0, m0, rfl, trivial, h0.shape (ShF.keeps 5) hk, hcp, hd⟩
def Te.cnt (x : Te) : Nat := (x.expr.map (fun _ : Tk => 5)).sum
theorem Te.toSh : ∀ (ok : Nat → Prop) (w : World) (cs : List Value) (x : Te), x.sz ≤ 1048576 → TeR ok w cs x → TeSh ok w cs x.cnt := fun _ _ _ x hs ⟨A0, n0, c0, e, h0, _⟩ =>
  ⟨A0, n0, c0, _, e, trivial, h0.toSh Tk.toSh (fun _ _ => trivial), (by have h1 := h0.1; unfold Te.sz at hs; (try simp only [szL] at hs); omega), rfl⟩
theorem Te.cnt_le (x : Te) : x.cnt ≤ 6 * (x.sz + 1) := by
  unfold Te.cnt Te.sz
  have z0 := sum_le_of (f := (fun _ : Tk => 5)) (g := fun t : Tk => t.vs.size) 6 (fun _ => by omega) x.expr
  omega

def TgSh : Rd Nat := fun ok w cs d => ∃ (A2 : Option Addr) (n2 c2 : Nat) (m2 : List Nat) (A4 : Option Addr) (n4 c4 : Nat) (m4 : List Nat) (u0 u1 u3 : Value), cs = [u0, u1, .slice A2 n2 c2, u3, .slice A4 n4 c4] ∧ (isSl u0 = false ∧ isSl u1 = false ∧ isSl u3 = false) ∧ Sl (ShF 5) 5 ok w A2 n2 m2 ∧ Sl TeSh 1 ok w A4 n4 m4 ∧ (n2 ≤ 1048576 ∧ n4 ≤ 1048576) ∧ d = 3 + m2.sum + m4.sum
theorem TgSh.keeps : KStays TgSh := by
  intro ok B E w w' cs cs' d hR hk hl hc
  obtain ⟨A2, n2, c2, m2, A4, n4, c4, m4, u0, u1, u3, rfl, ⟨g0, g1, g3⟩, h2, h4, hcp, hd⟩ := hR
  match cs', hl with
  | [x0, x1, x2, x3, x4], _ =>
    obtain ⟨y0, e0, s0, t0⟩ := hc 0 _ rfl
    obtain rfl : x0 = y0 := Option.some.inj e0
    obtain ⟨y1, e1, s1, t1⟩ := hc 1 _ rfl
    obtain rfl : x1 = y1 := Option.some.inj e1
    obtain ⟨y2, e2, s2, t2⟩ := hc 2 _ rfl
    obtain rfl : x2 = y2 := Option.some.inj e2
    obtain ⟨y3, e3, s3, t3⟩ := hc 3 _ rfl
    obtain rfl : x3 = y3 := Option.some.inj e3
    obtain ⟨y4, e4, s4, t4⟩ := hc 4 _ rfl
    obtain rfl : x4 = y4 := Option.some.inj e4
    obtain rfl := s2 rfl
    obtain rfl := s4 rfl
    exact ⟨A2, n2, c2, m2, A4, n4, c4, m4, x0, x1, x3, rfl, ⟨t0.trans g0, t1.trans g1, t3.trans g3⟩, h2.shape (ShF.keeps 5) hk, h4.shape TeSh.keeps hk, hcp, hd⟩
def Tg.cnt (x : Tg) : Nat := 3 + (x.wher.map (fun _ : Tk => 5)).sum + (x.terms.map Te.cnt).sum
theorem Tg.toSh : ∀ (ok : Nat → Prop) (w : World) (cs : List Value) (x : Tg), x.sz ≤ 1048576 → TgR ok w cs x → TgSh ok w cs x.cnt := fun _ _ _ x hs ⟨A2, n2, c2, A4, n4, c4, e, h2, h4, _⟩ =>
  ⟨A2, n2, c2, _, A4, n4, c4, _, _, _, _, e, ⟨rfl, rfl, rfl⟩, h2.toSh Tk.toSh (fun _ _ => trivial), h4.toSh Te.toSh (fun y hy => by have h1 := szL_mem Te.sz x.terms y hy; unfold Tg.sz at hs; omega), ⟨(by have h1 := h2.1; unfold Tg.sz at hs; (try simp only [szL] at hs); omega), (by have h1 := h4.1; unfold Tg.sz at hs; (try simp only [szL] at hs); omega)⟩, rfl⟩
theorem Tg.cnt_le (x : Tg) : x.cnt ≤ 6 * (x.sz + 1) := by
  unfold Tg.cnt Tg.sz
  have z2 := sum_le_of (f := (fun _ : Tk => 5)) (g := fun t : Tk => t.vs.size) 6 (fun _ => by omega) x.wher
  have z4 := sum_le_of (f := Te.cnt) (g := Te.sz) 6 Te.cnt_le x.terms
  omega

def SvSh : Rd Nat := fun ok w cs d => ∃ (A1 : Option Addr) (n1 c1 : Nat) (m1 : List Nat) (u0 : Value), cs = [u0, .slice A1 n1 c1] ∧ (isSl u0 = false) ∧ Sl DtSh 1 ok w A1 n1 m1 ∧ (n1 ≤ 1048576) ∧ d = 1 + m1.sum
theorem SvSh.keeps : KStays SvSh := by
  intro ok B E w w' cs cs' d hR hk hl hc
  obtain ⟨A1, n1, c1, m1, u0, rfl, g0, h1, hcp, hd⟩ := hR
  match cs', hl with
  | [x0, x1], _ =>
    obtain ⟨y0, e0, s0, t0⟩ := hc 0 _ rfl
    obtain rfl : x0 = y0 := Option.some.inj e0
    obtain ⟨y1, e1, s1, t1⟩ := hc 1 _ rfl
    obtain rfl : x1 = y1 := Option.some.inj e1
    obtain rfl := s1 rfl
    exact ⟨A1, n1, c1, m1, x0, rfl, t0.trans g0, h1.shape DtSh.keeps hk, hcp, hd⟩
def Sv.cnt (x : Sv) : Nat := 1 + (x.db.map Dt.cnt).sum
theorem Sv.toSh : ∀ (ok : Nat → Prop) (w : World) (cs : List Value) (x : Sv), x.sz ≤ 1048576 → SvR ok w cs x → SvSh ok w cs x.cnt := fun _ _ _ x hs ⟨A1, n1, c1, e, h1, _⟩ =>
  ⟨A1, n1, c1, _, _, e, rfl, h1.toSh Dt.toSh (fun y hy => by have h1 := szL_mem Dt.sz x.db y hy; unfold Sv.sz at hs; omega), (by have h1 := h1.1; unfold Sv.sz at hs; (try simp only [szL] at hs); omega), rfl⟩
theorem Sv.cnt_le (x : Sv) : x.cnt ≤ 6 * (x.sz + 1) := by
  unfold Sv.cnt Sv.sz
  have z1 := sum_le_of (f := Dt.cnt) (g := Dt.sz) 6 Dt.cnt_le x.db
  omega

def SsSh : Rd Nat := fun ok w cs d => ∃ (A0 : Option Addr) (n0 c0 : Nat) (m0 : List Nat) (A1 : Option Addr) (n1 c1 : Nat) (m1 : List Nat) (A3 : Option Addr) (n3 c3 : Nat) (m3 : List Nat) (A4 : Option Addr) (n4 c4 : Nat) (m4 : List Nat) (u2 : Value), cs = [.slice A0 n0 c0, .slice A1 n1 c1, u2, .slice A3 n3 c3, .slice A4 n4 c4] ∧ (isSl u2 = false) ∧ Sl TbSh 6 ok w A0 n0 m0 ∧ Sl DtSh 1 ok w A1 n1 m1 ∧ Sl DtSh 1 ok w A3 n3 m3 ∧ Sl SvSh 2 ok w A4 n4 m4 ∧ (n0 ≤ 1048576 ∧ n1 ≤ 1048576 ∧ n3 ≤ 1048576 ∧ n4 ≤ 1048576) ∧ d = 1 + m0.sum + m1.sum + m3.sum + m4.sum
theorem SsSh.keeps : KStays SsSh := by
  intro ok B E w w' cs cs' d hR hk hl hc
  obtain ⟨A0, n0, c0, m0, A1, n1, c1, m1, A3, n3, c3, m3, A4, n4, c4, m4, u2, rfl, g2, h0, h1, h3, h4, hcp, hd⟩ := hR
  match cs', hl with
  | [x0, x1, x2, x3, x4], _ =>
    obtain ⟨y0, e0, s0, t0⟩ := hc 0 _ rfl
    obtain rfl : x0 = y0 := Option.some.inj e0
    obtain ⟨y1, e1, s1, t1⟩ := hc 1 _ rfl
    obtain rfl : x1 = y1 := Option.some.inj e1
    obtain ⟨y2, e2, s2, t2⟩ := hc 2 _ rfl
    obtain rfl : x2 = y2 := Option.some.inj e2
    obtain ⟨y3, e3, s3, t3⟩ := hc 3 _ rfl
    obtain rfl : x3 = y3 := Option.some.inj e3
    obtain ⟨y4, e4, s4, t4⟩ := hc 4 _ rfl
    obtain rfl : x4 = y4 := Option.some.inj e4
    obtain rfl := s0 rfl
    obtain rfl := s1 rfl
    obtain rfl := s3 rfl
    obtain rfl := s4 rfl
    exact ⟨A0, n0, c0, m0, A1, n1, c1, m1, A3, n3, c3, m3, A4, n4, c4, m4, x2, rfl, t2.trans g2, h0.shape TbSh.keeps hk, h1.shape DtSh.keeps hk, h3.shape DtSh.keeps hk, h4.shape SvSh.keeps hk, hcp, hd⟩
def Ss.cnt (x : Ss) : Nat := 1 + (x.schema.map Tb.cnt).sum + (x.db.map Dt.cnt).sum + (x.start.map Dt.cnt).sum + (x.saves.map Sv.cnt).sum
theorem Ss.toSh : ∀ (ok : Nat → Prop) (w : World) (cs : List Value) (x : Ss), x.sz ≤ 1048576 → SsR ok w cs x → SsSh ok w cs x.cnt := fun _ _ _ x hs ⟨A0, n0, c0, A1, n1, c1, A3, n3, c3, A4, n4, c4, e, h0, h1, h3, h4, _⟩ =>
  ⟨A0, n0, c0, _, A1, n1, c1, _, A3, n3, c3, _, A4, n4, c4, _, _, e, rfl, h0.toSh Tb.toSh (fun y hy => by have h1 := szL_mem Tb.sz x.schema y hy; unfold Ss.sz at hs; omega), h1.toSh Dt.toSh (fun y hy => by have h1 := szL_mem Dt.sz x.db y hy; unfold Ss.sz at hs; omega), h3.toSh Dt.toSh (fun y hy => by have h1 := szL_mem Dt.sz x.start y hy; unfold Ss.sz at hs; omega), h4.toSh Sv.toSh (fun y hy => by have h1 := szL_mem Sv.sz x.saves y hy; unfold Ss.sz at hs; omega), ⟨(by have h1 := h0.1; unfold Ss.sz at hs; (try simp only [szL] at hs); omega), (by have h1 := h1.1; unfold Ss.sz at hs; (try simp only [szL] at hs); omega), (by have h1 := h3.1; unfold Ss.sz at hs; (try simp only [szL] at hs); omega), (by have h1 := h4.1; unfold Ss.sz at hs; (try simp only [szL] at hs); omega)⟩, rfl⟩
theorem Ss.cnt_le (x : Ss) : x.cnt ≤ 6 * (x.sz + 1) := by
  unfold Ss.cnt Ss.sz
  have z0 := sum_le_of (f := Tb.cnt) (g := Tb.sz) 6 Tb.cnt_le x.schema
  have z1 := sum_le_of (f := Dt.cnt) (g := Dt.sz) 6 Dt.cnt_le x.db
  have z3 := sum_le_of (f := Dt.cnt) (g := Dt.sz) 6 Dt.cnt_le x.start
  have z4 := sum_le_of (f := Sv.cnt) (g := Sv.sz) 6 Sv.cnt_le x.saves
  omega

def QySh : Rd Nat := fun ok w cs d => ∃ (A1 : Option Addr) (n1 c1 : Nat) (m1 : List Nat) (A2 : Option Addr) (n2 c2 : Nat) (m2 : List Nat) (A3 : Option Addr) (n3 c3 : Nat) (m3 : List Nat) (u0 u4 : Value), cs = [u0, .slice A1 n1 c1, .slice A2 n2 c2, .slice A3 n3 c3, u4] ∧ (isSl u0 = false ∧ isSl u4 = false) ∧ Sl TeSh 1 ok w A1 n1 m1 ∧ Sl (ShF 5) 5 ok w A2 n2 m2 ∧ Sl (ShF 1) 1 ok w A3 n3 m3 ∧ (n1 ≤ 1048576 ∧ n2 ≤ 1048576 ∧ n3 ≤ 1048576) ∧ d = 2 + m1.sum + m2.sum + m3.sum
theorem QySh.keeps : KStays QySh := by
  intro ok B E w w' cs cs' d hR hk hl hc
  obtain ⟨A1, n1, c1, m1, A2, n2, c2, m2, A3, n3, c3, m3, u0, u4, rfl, ⟨g0, g4⟩, h1, h2, h3, hcp, hd⟩ := hR
  match cs', hl with
  | [x0, x1, x2, x3, x4], _ =>
    obtain ⟨y0, e0, s0, t0⟩ := hc 0 _ rfl
    obtain rfl : x0 = y0 := Option.some.inj e0
    obtain ⟨y1, e1, s1, t1⟩ := hc 1 _ rfl
    obtain rfl : x1 = y1 := Option.some.inj e1
    obtain ⟨y2, e2, s2, t2⟩ := hc 2 _ rfl
    obtain rfl : x2 = y2 := Option.some.inj e2
    obtain ⟨y3, e3, s3, t3⟩ := hc 3 _ rfl
    obtain rfl : x3 = y3 := Option.some.inj e3
    obtain ⟨y4, e4, s4, t4⟩ := hc 4 _ rfl
    obtain rfl : x4 = y4 := Option.some.inj e4
    obtain rfl := s1 rfl
    obtain rfl := s2 rfl
    obtain rfl := s3 rfl
    exact ⟨A1, n1, c1, m1, A2, n2, c2, m2, A3, n3, c3, m3, x0, x4, rfl, ⟨t0.trans g0, t4.trans g4⟩, h1.shape TeSh.keeps hk, h2.shape (ShF.keeps 5) hk, h3.shape (ShF.keeps 1) hk, hcp, hd⟩
def Qy.cnt (x : Qy) : Nat := 2 + (x.terms.map Te.cnt).sum + (x.wher.map (fun _ : Tk => 5)).sum + (x.ord.map (fun _ : Int => 1)).sum
theorem Qy.toSh : ∀ (ok : Nat → Prop) (w : World) (cs : List Value) (x : Qy), x.sz ≤ 1048576 → QyR ok w cs x → QySh ok w cs x.cnt := fun _ _ _ x hs ⟨A1, n1, c1, A2, n2, c2, A3, n3, c3, e, h1, h2, h3, _⟩ =>
  ⟨A1, n1, c1, _, A2, n2, c2, _, A3, n3, c3, _, _, _, e, ⟨rfl, rfl⟩, h1.toSh Te.toSh (fun y hy => by have h1 := szL_mem Te.sz x.terms y hy; unfold Qy.sz at hs; omega), h2.toSh Tk.toSh (fun _ _ => trivial), h3.toSh Int.toSh (fun _ _ => trivial), ⟨(by have h1 := h1.1; unfold Qy.sz at hs; (try simp only [szL] at hs); omega), (by have h1 := h2.1; unfold Qy.sz at hs; (try simp only [szL] at hs); omega), (by have h1 := h3.1; unfold Qy.sz at hs; (try simp only [szL] at hs); omega)⟩, rfl⟩
theorem Qy.cnt_le (x : Qy) : x.cnt ≤ 6 * (x.sz + 1) := by
  unfold Qy.cnt Qy.sz
  have z1 := sum_le_of (f := Te.cnt) (g := Te.sz) 6 Te.cnt_le x.terms
  have z2 := sum_le_of (f := (fun _ : Tk => 5)) (g := fun t : Tk => t.vs.size) 6 (fun _ => by omega) x.wher
  have z3 : (x.ord.map (fun _ : Int => 1)).sum = x.ord.length := sum_ones _
  omega

def LnSh : Rd Nat := fun ok w cs d => ∃ (A0 : Option Addr) (n0 c0 : Nat) (m0 : List Nat), cs = [.slice A0 n0 c0] ∧ (True) ∧ Sl (ShF 3) 3 ok w A0 n0 m0 ∧ (n0 ≤ 1048576) ∧ d = m0.sum
theorem LnSh.keeps : KStays LnSh := by
  intro ok B E w w' cs cs' d hR hk hl hc
  obtain ⟨A0, n0, c0, m0, rfl, -, h0, hcp, hd⟩ := hR
  match cs', hl with
  | [x0], _ =>
    obtain ⟨y0, e0, s0, t0⟩ := hc 0 _ rfl
    obtain rfl : x0 = y0 := Option.some.inj e0
    obtain rfl := s0 rfl
    exact ⟨A0, n0, c0, m0, rfl, trivial, h0.shape (ShF.keeps 3) hk, hcp, hd⟩
def Ln.cnt (x : Ln) : Nat := (x.vals.map (fun _ : Vl => 3)).sum
theorem Ln.toSh : ∀ (ok : Nat → Prop) (w : World) (cs : List Value) (x : Ln), x.sz ≤ 1048576 → LnR ok w cs x → LnSh ok w cs x.cnt := fun _ _ _ x hs ⟨A0, n0, c0, e, h0, _⟩ =>
  ⟨A0, n0, c0, _, e, trivial, h0.toSh Vl.toSh (fun _ _ => trivial), (by have h1 := h0.1; unfold Ln.sz at hs; (try simp only [szL] at hs); omega), rfl⟩
theorem Ln.cnt_le (x : Ln) : x.cnt ≤ 6 * (x.sz + 1) := by
  unfold Ln.cnt Ln.sz
  have z0 := sum_le_of (f := (fun _ : Vl => 3)) (g := fun v : Vl => v.s.size) 6 (fun _ => by omega) x.vals
  omega

def EnSh : Rd Nat := fun ok w cs d => ∃ (A0 : Option Addr) (n0 c0 : Nat) (m0 : List Nat) (u1 : Value), cs = [.slice A0 n0 c0, u1] ∧ (isSl u1 = false) ∧ Sl (ShF 3) 3 ok w A0 n0 m0 ∧ (n0 ≤ 1048576) ∧ d = 1 + m0.sum
theorem EnSh.keeps : KStays EnSh := by
  intro ok B E w w' cs cs' d hR hk hl hc
  obtain ⟨A0, n0, c0, m0, u1, rfl, g1, h0, hcp, hd⟩ := hR
  match cs', hl with
  | [x0, x1], _ =>
    obtain ⟨y0, e0, s0, t0⟩ := hc 0 _ rfl
    obtain rfl : x0 = y0 := Option.some.inj e0
    obtain ⟨y1, e1, s1, t1⟩ := hc 1 _ rfl
    obtain rfl : x1 = y1 := Option.some.inj e1
    obtain rfl := s0 rfl
    exact ⟨A0, n0, c0, m0, x1, rfl, t1.trans g1, h0.shape (ShF.keeps 3) hk, hcp, hd⟩
def En.cnt (x : En) : Nat := 1 + (x.key.map (fun _ : Vl => 3)).sum
theorem En.toSh : ∀ (ok : Nat → Prop) (w : World) (cs : List Value) (x : En), x.sz ≤ 1048576 → EnR ok w cs x → EnSh ok w cs x.cnt := fun _ _ _ x hs ⟨A0, n0, c0, e, h0, _⟩ =>
  ⟨A0, n0, c0, _, _, e, rfl, h0.toSh Vl.toSh (fun _ _ => trivial), (by have h1 := h0.1; unfold En.sz at hs; (try simp only [szL] at hs); omega), rfl⟩
theorem En.cnt_le (x : En) : x.cnt ≤ 6 * (x.sz + 1) := by
  unfold En.cnt En.sz
  have z0 := sum_le_of (f := (fun _ : Vl => 3)) (g := fun v : Vl => v.s.size) 6 (fun _ => by omega) x.key
  omega

def ChSh : Rd Nat := fun ok w cs d => ∃ (A2 : Option Addr) (n2 c2 : Nat) (m2 : List Nat) (A3 : Option Addr) (n3 c3 : Nat) (m3 : List Nat) (u0 u1 : Value), cs = [u0, u1, .slice A2 n2 c2, .slice A3 n3 c3] ∧ (isSl u0 = false ∧ isSl u1 = false) ∧ Sl (ShF 3) 3 ok w A2 n2 m2 ∧ Sl (ShF 3) 3 ok w A3 n3 m3 ∧ (n2 ≤ 1048576 ∧ n3 ≤ 1048576) ∧ d = 2 + m2.sum + m3.sum
theorem ChSh.keeps : KStays ChSh := by
  intro ok B E w w' cs cs' d hR hk hl hc
  obtain ⟨A2, n2, c2, m2, A3, n3, c3, m3, u0, u1, rfl, ⟨g0, g1⟩, h2, h3, hcp, hd⟩ := hR
  match cs', hl with
  | [x0, x1, x2, x3], _ =>
    obtain ⟨y0, e0, s0, t0⟩ := hc 0 _ rfl
    obtain rfl : x0 = y0 := Option.some.inj e0
    obtain ⟨y1, e1, s1, t1⟩ := hc 1 _ rfl
    obtain rfl : x1 = y1 := Option.some.inj e1
    obtain ⟨y2, e2, s2, t2⟩ := hc 2 _ rfl
    obtain rfl : x2 = y2 := Option.some.inj e2
    obtain ⟨y3, e3, s3, t3⟩ := hc 3 _ rfl
    obtain rfl : x3 = y3 := Option.some.inj e3
    obtain rfl := s2 rfl
    obtain rfl := s3 rfl
    exact ⟨A2, n2, c2, m2, A3, n3, c3, m3, x0, x1, rfl, ⟨t0.trans g0, t1.trans g1⟩, h2.shape (ShF.keeps 3) hk, h3.shape (ShF.keeps 3) hk, hcp, hd⟩
def Ch.cnt (x : Ch) : Nat := 2 + (x.old.map (fun _ : Vl => 3)).sum + (x.now.map (fun _ : Vl => 3)).sum
theorem Ch.toSh : ∀ (ok : Nat → Prop) (w : World) (cs : List Value) (x : Ch), x.sz ≤ 1048576 → ChR ok w cs x → ChSh ok w cs x.cnt := fun _ _ _ x hs ⟨A2, n2, c2, A3, n3, c3, e, h2, h3, _⟩ =>
  ⟨A2, n2, c2, _, A3, n3, c3, _, _, _, e, ⟨rfl, rfl⟩, h2.toSh Vl.toSh (fun _ _ => trivial), h3.toSh Vl.toSh (fun _ _ => trivial), ⟨(by have h1 := h2.1; unfold Ch.sz at hs; (try simp only [szL] at hs); omega), (by have h1 := h3.1; unfold Ch.sz at hs; (try simp only [szL] at hs); omega)⟩, rfl⟩
theorem Ch.cnt_le (x : Ch) : x.cnt ≤ 6 * (x.sz + 1) := by
  unfold Ch.cnt Ch.sz
  have z2 := sum_le_of (f := (fun _ : Vl => 3)) (g := fun v : Vl => v.s.size) 6 (fun _ => by omega) x.old
  have z3 := sum_le_of (f := (fun _ : Vl => 3)) (g := fun v : Vl => v.s.size) 6 (fun _ => by omega) x.now
  omega

def DzSh : Rd Nat := fun ok w cs d => ∃ (A0 : Option Addr) (n0 c0 : Nat) (m0 : List Nat) (A1 : Option Addr) (n1 c1 : Nat) (m1 : List Nat) (A2 : Option Addr) (n2 c2 : Nat) (m2 : List Nat), cs = [.slice A0 n0 c0, .slice A1 n1 c1, .slice A2 n2 c2] ∧ (True) ∧ Sl (ShF 2) 2 ok w A0 n0 m0 ∧ Sl (ShF 2) 2 ok w A1 n1 m1 ∧ Sl (ShF 4) 4 ok w A2 n2 m2 ∧ (n0 ≤ 1048576 ∧ n1 ≤ 1048576 ∧ n2 ≤ 1048576) ∧ d = m0.sum + m1.sum + m2.sum
theorem DzSh.keeps : KStays DzSh := by
  intro ok B E w w' cs cs' d hR hk hl hc
  obtain ⟨A0, n0, c0, m0, A1, n1, c1, m1, A2, n2, c2, m2, rfl, -, h0, h1, h2, hcp, hd⟩ := hR
  match cs', hl with
  | [x0, x1, x2], _ =>
    obtain ⟨y0, e0, s0, t0⟩ := hc 0 _ rfl
    obtain rfl : x0 = y0 := Option.some.inj e0
    obtain ⟨y1, e1, s1, t1⟩ := hc 1 _ rfl
    obtain rfl : x1 = y1 := Option.some.inj e1
    obtain ⟨y2, e2, s2, t2⟩ := hc 2 _ rfl
    obtain rfl : x2 = y2 := Option.some.inj e2
    obtain rfl := s0 rfl
    obtain rfl := s1 rfl
    obtain rfl := s2 rfl
    exact ⟨A0, n0, c0, m0, A1, n1, c1, m1, A2, n2, c2, m2, rfl, trivial, h0.shape (ShF.keeps 2) hk, h1.shape (ShF.keeps 2) hk, h2.shape (ShF.keeps 4) hk, hcp, hd⟩
def Dz.cnt (x : Dz) : Nat := (x.live.map (fun _ : Fz => 2)).sum + (x.safe.map (fun _ : Fz => 2)).sum + (x.ops.map (fun _ : Oz => 4)).sum
theorem Dz.toSh : ∀ (ok : Nat → Prop) (w : World) (cs : List Value) (x : Dz), x.sz ≤ 1048576 → DzR ok w cs x → DzSh ok w cs x.cnt := fun _ _ _ x hs ⟨A0, n0, c0, A1, n1, c1, A2, n2, c2, e, h0, h1, h2, _⟩ =>
  ⟨A0, n0, c0, _, A1, n1, c1, _, A2, n2, c2, _, e, trivial, h0.toSh Fz.toSh (fun _ _ => trivial), h1.toSh Fz.toSh (fun _ _ => trivial), h2.toSh Oz.toSh (fun _ _ => trivial), ⟨(by have h1 := h0.1; unfold Dz.sz at hs; (try simp only [szL] at hs); omega), (by have h1 := h1.1; unfold Dz.sz at hs; (try simp only [szL] at hs); omega), (by have h1 := h2.1; unfold Dz.sz at hs; (try simp only [szL] at hs); omega)⟩, rfl⟩
theorem Dz.cnt_le (x : Dz) : x.cnt ≤ 6 * (x.sz + 1) := by
  unfold Dz.cnt Dz.sz
  have z0 := sum_le_of (f := (fun _ : Fz => 2)) (g := Fz.sz) 6 (fun _ => by omega) x.live
  have z1 := sum_le_of (f := (fun _ : Fz => 2)) (g := Fz.sz) 6 (fun _ => by omega) x.safe
  have z2 := sum_le_of (f := (fun _ : Oz => 4)) (g := Oz.sz) 6 (fun _ => by omega) x.ops
  omega

set_option maxRecDepth 100000 in
set_option maxHeartbeats 1000000 in
theorem marksIntL (A : Option Addr) (n c : Nat) (ms : List Nat) (ok : Nat → Prop) (B E k : Nat) (w : World) (h : Sl (ShF 1) 1 ok w A n ms) (hm : mayMark B E w ok) (hk : k + ms.sum ≤ 1073741824) (hn : n ≤ 1048576) {x : Int} (hx : x = k) :
    Calls Try.prog 37 #[.slice A n c, .int .i64 x] w fun e w' => e = .returned (.int .i64 ((k + ms.sum : Nat) : Int)) ∧ Kept B E w w' := by
  obtain rfl : ms.length = n := h.1
  subst hx
  go_enter Try.func37, Try.ntmps37
  go_wp2_with fail
  go_loopw [1, 5] (fun m i wr => ∃ (j t : Nat), j ≤ ms.length ∧ i = .int .i64 j ∧ m = .int .i64 ((k + t : Nat) : Int) ∧ Hid ((ms.take j).sum = t) ∧ Kept B E w wr) (fun _ i _ => ms.length - (intOf i).toNat)
  case atStart => exact ⟨0, 0, by omega, rfl, by simp, Lib.hid (by simp), Kept.refl _ _ _⟩
  case round =>
    obtain ⟨i, t, hi, rfl, rfl, ht, hK⟩ := hrel
    by_cases hlt : i < ms.length
    · have hsh := h.shape (ShF.keeps 1) hK
      have hmm := hm.kept hK
      obtain ⟨b, off, rfl, hob, hcs⟩ := hsh.2 (by omega)
      obtain ⟨cs, hcl, hR, hg⟩ := hcs i hlt
      have hst := sum_take_n ms i hlt
      have hsl := sum_take_n_le ms (i + 1)
      rw [ht.out] at hst
      obtain ⟨hB, hE, -, hfr⟩ := hmm b hob
      obtain ⟨u0, rfl⟩ : ∃ u0, cs = [u0] := by
        have h0 := hR.1
        match cs, h0 with
        | [x0], _ => exact ⟨x0, rfl⟩
      have g0 : isSl u0 = false := hR.2.1 0 _ rfl
      have hd : ms[i] = 1 := hR.2.2
      have q0 : wr.cell? ⟨b, off + i, none⟩ = some (u0) := by have := hg 0 _ rfl; rwa [Nat.mul_one] at this
      have hle : k + t + (1) ≤ 1073741824 := by omega
      have HD := Lib.hid hd
      have HST := Lib.hid hst
      clear hd hst hsl
      have f0 := hfr (off + i)
      have Q0 := Lib.hid q0
      have G0 := Lib.hid g0
      have HB := Lib.hid hB
      have HE := Lib.hid hE
      have HR := Lib.hid hfr
      have HO := Lib.hid hob
      clear hsh hcs hg hR hB hE hfr g0
      have HMM := Lib.hid hmm
      clear hmm
      go_wp2_with fail
      go_roundw
      case rel => exact ⟨i + 1, t + ms[i], by omega, by go_num, by rw [HD.out]; go_num, Lib.hid HST.out, hK.trans (by refine Kept.set ?_ Q0.out G0.out HB.out HE.out rfl; exact Kept.refl B E wr)⟩
      case measure => simp [intOf]; omega
    · obtain rfl : i = ms.length := by omega
      have e := ht.out
      rw [List.take_of_length_le (Nat.le_refl _)] at e
      have HT := Lib.hid e
      clear e ht
      go_wp2_with fail
      go_ret
      exact ⟨retI (by rw [HT.out]), hK⟩

set_option maxRecDepth 100000 in
set_option maxHeartbeats 1000000 in
theorem marksFileL (A : Option Addr) (n c : Nat) (ms : List Nat) (ok : Nat → Prop) (B E k : Nat) (w : World) (h : Sl (ShF 2) 2 ok w A n ms) (hm : mayMark B E w ok) (hk : k + ms.sum ≤ 1073741824) (hn : n ≤ 1048576) {x : Int} (hx : x = k) :
    Calls Try.prog 72 #[.slice A n c, .int .i64 x] w fun e w' => e = .returned (.int .i64 ((k + ms.sum : Nat) : Int)) ∧ Kept B E w w' := by
  obtain rfl : ms.length = n := h.1
  subst hx
  go_enter Try.func72, Try.ntmps72
  go_wp2_with fail
  go_loopw [1, 5] (fun m i wr => ∃ (j t : Nat), j ≤ ms.length ∧ i = .int .i64 j ∧ m = .int .i64 ((k + t : Nat) : Int) ∧ Hid ((ms.take j).sum = t) ∧ Kept B E w wr) (fun _ i _ => ms.length - (intOf i).toNat)
  case atStart => exact ⟨0, 0, by omega, rfl, by simp, Lib.hid (by simp), Kept.refl _ _ _⟩
  case round =>
    obtain ⟨i, t, hi, rfl, rfl, ht, hK⟩ := hrel
    by_cases hlt : i < ms.length
    · have hsh := h.shape (ShF.keeps 2) hK
      have hmm := hm.kept hK
      obtain ⟨b, off, rfl, hob, hcs⟩ := hsh.2 (by omega)
      obtain ⟨cs, hcl, hR, hg⟩ := hcs i hlt
      have hst := sum_take_n ms i hlt
      have hsl := sum_take_n_le ms (i + 1)
      rw [ht.out] at hst
      obtain ⟨hB, hE, -, hfr⟩ := hmm b hob
      obtain ⟨u0, u1, rfl⟩ : ∃ u0 u1, cs = [u0, u1] := by
        have h0 := hR.1
        match cs, h0 with
        | [x0, x1], _ => exact ⟨x0, x1, rfl⟩
      have g0 : isSl u0 = false := hR.2.1 0 _ rfl
      have g1 : isSl u1 = false := hR.2.1 1 _ rfl
      have hd : ms[i] = 2 := hR.2.2
      have q0 : wr.cell? ⟨b, off + i * 2, none⟩ = some (u0) := hg 0 _ rfl
      have q1 : wr.cell? ⟨b, off + i * 2 + 1, none⟩ = some (u1) := hg 1 _ rfl
      have hle : k + t + (2) ≤ 1073741824 := by omega
      have HD := Lib.hid hd
      have HST := Lib.hid hst
      clear hd hst hsl
      have f0 := hfr (off + i * 2)
      have f1 := hfr (off + i * 2 + 1)
      have Q0 := Lib.hid q0
      have Q1 := Lib.hid q1
      have G0 := Lib.hid g0
      have G1 := Lib.hid g1
      have HB := Lib.hid hB
      have HE := Lib.hid hE
      have HR := Lib.hid hfr
      have HO := Lib.hid hob
      clear hsh hcs hg hR hB hE hfr g0 g1
      have HMM := Lib.hid hmm
      clear hmm
      go_wp2_with fail
      refine (lawsMarkText (k + t) _ (by omega) (by omega)).mono ?_
      rintro e w1 ⟨rfl, hb1⟩
      have hk1 : Kept B E wr w1 := by refine (Kept.below hb1).after ?_; exact Kept.refl B E wr
      obtain ⟨v1_0, z1_0, -, -⟩ := hk1.cell _ _ Q0.out
      have k1_0 := (HMM.out.kept hk1 b HO.out).2.2.2 (off + i * 2)
      obtain ⟨v1_1, z1_1, -, -⟩ := hk1.cell _ _ Q1.out
      have k1_1 := (HMM.out.kept hk1 b HO.out).2.2.2 (off + i * 2 + 1)
      clear q0 q1 f0 f1
      go_wp2_with fail
      refine (lawsMarkText (k + t + 1) _ (by omega) (by omega)).mono ?_
      rintro e w2 ⟨rfl, hb2⟩
      have hk2 : Kept B E wr w2 := by refine (Kept.below hb2).after ?_; refine Kept.set ?_ Q0.out G0.out HB.out HE.out rfl; exact hk1
      obtain ⟨v2_0, z2_0, -, -⟩ := hk2.cell _ _ Q0.out
      have k2_0 := (HMM.out.kept hk2 b HO.out).2.2.2 (off + i * 2)
      obtain ⟨v2_1, z2_1, -, -⟩ := hk2.cell _ _ Q1.out
      have k2_1 := (HMM.out.kept hk2 b HO.out).2.2.2 (off + i * 2 + 1)
      clear z1_0 z1_1 k1_0 k1_1
      go_wp2_with fail
      go_roundw
      case rel => exact ⟨i + 1, t + ms[i], by omega, by go_num, by rw [HD.out]; go_num, Lib.hid HST.out, hK.trans (by refine Kept.set ?_ Q1.out G1.out HB.out HE.out rfl; exact hk2)⟩
      case measure => simp [intOf]; omega
    · obtain rfl : i = ms.length := by omega
      have e := ht.out
      rw [List.take_of_length_le (Nat.le_refl _)] at e
      have HT := Lib.hid e
      clear e ht
      go_wp2_with fail
      go_ret
      exact ⟨retI (by rw [HT.out]), hK⟩

set_option maxRecDepth 100000 in
set_option maxHeartbeats 1000000 in
theorem marksDOpL (A : Option Addr) (n c : Nat) (ms : List Nat) (ok : Nat → Prop) (B E k : Nat) (w : World) (h : Sl (ShF 4) 4 ok w A n ms) (hm : mayMark B E w ok) (hk : k + ms.sum ≤ 1073741824) (hn : n ≤ 1048576) {x : Int} (hx : x = k) :
    Calls Try.prog 73 #[.slice A n c, .int .i64 x] w fun e w' => e = .returned (.int .i64 ((k + ms.sum : Nat) : Int)) ∧ Kept B E w w' := by
  obtain rfl : ms.length = n := h.1
  subst hx
  go_enter Try.func73, Try.ntmps73
  go_wp2_with fail
  go_loopw [1, 5] (fun m i wr => ∃ (j t : Nat), j ≤ ms.length ∧ i = .int .i64 j ∧ m = .int .i64 ((k + t : Nat) : Int) ∧ Hid ((ms.take j).sum = t) ∧ Kept B E w wr) (fun _ i _ => ms.length - (intOf i).toNat)
  case atStart => exact ⟨0, 0, by omega, rfl, by simp, Lib.hid (by simp), Kept.refl _ _ _⟩
  case round =>
    obtain ⟨i, t, hi, rfl, rfl, ht, hK⟩ := hrel
    by_cases hlt : i < ms.length
    · have hsh := h.shape (ShF.keeps 4) hK
      have hmm := hm.kept hK
      obtain ⟨b, off, rfl, hob, hcs⟩ := hsh.2 (by omega)
      obtain ⟨cs, hcl, hR, hg⟩ := hcs i hlt
      have hst := sum_take_n ms i hlt
      have hsl := sum_take_n_le ms (i + 1)
      rw [ht.out] at hst
      obtain ⟨hB, hE, -, hfr⟩ := hmm b hob
      obtain ⟨u0, u1, u2, u3, rfl⟩ : ∃ u0 u1 u2 u3, cs = [u0, u1, u2, u3] := by
        have h0 := hR.1
        match cs, h0 with
        | [x0, x1, x2, x3], _ => exact ⟨x0, x1, x2, x3, rfl⟩
      have g0 : isSl u0 = false := hR.2.1 0 _ rfl
      have g1 : isSl u1 = false := hR.2.1 1 _ rfl
      have g2 : isSl u2 = false := hR.2.1 2 _ rfl
      have g3 : isSl u3 = false := hR.2.1 3 _ rfl
      have hd : ms[i] = 4 := hR.2.2
      have q0 : wr.cell? ⟨b, off + i * 4, none⟩ = some (u0) := hg 0 _ rfl
      have q1 : wr.cell? ⟨b, off + i * 4 + 1, none⟩ = some (u1) := hg 1 _ rfl
      have q2 : wr.cell? ⟨b, off + i * 4 + 2, none⟩ = some (u2) := hg 2 _ rfl
      have q3 : wr.cell? ⟨b, off + i * 4 + 3, none⟩ = some (u3) := hg 3 _ rfl
      have hle : k + t + (4) ≤ 1073741824 := by omega
      have HD := Lib.hid hd
      have HST := Lib.hid hst
      clear hd hst hsl
      have f0 := hfr (off + i * 4)
      have f1 := hfr (off + i * 4 + 1)
      have f2 := hfr (off + i * 4 + 2)
      have f3 := hfr (off + i * 4 + 3)
      have Q0 := Lib.hid q0
      have Q1 := Lib.hid q1
      have Q2 := Lib.hid q2
      have Q3 := Lib.hid q3
      have G0 := Lib.hid g0
      have G1 := Lib.hid g1
      have G2 := Lib.hid g2
      have G3 := Lib.hid g3
      have HB := Lib.hid hB
      have HE := Lib.hid hE
      have HR := Lib.hid hfr
      have HO := Lib.hid hob
      clear hsh hcs hg hR hB hE hfr g0 g1 g2 g3
      have HMM := Lib.hid hmm
      clear hmm
      go_wp2_with fail
      refine (lawsMarkText (k + t + 1) _ (by omega) (by omega)).mono ?_
      rintro e w1 ⟨rfl, hb1⟩
      have hk1 : Kept B E wr w1 := by refine (Kept.below hb1).after ?_; refine Kept.set ?_ Q0.out G0.out HB.out HE.out rfl; exact Kept.refl B E wr
      obtain ⟨v1_0, z1_0, -, -⟩ := hk1.cell _ _ Q0.out
      have k1_0 := (HMM.out.kept hk1 b HO.out).2.2.2 (off + i * 4)
      obtain ⟨v1_1, z1_1, -, -⟩ := hk1.cell _ _ Q1.out
      have k1_1 := (HMM.out.kept hk1 b HO.out).2.2.2 (off + i * 4 + 1)
      obtain ⟨v1_2, z1_2, -, -⟩ := hk1.cell _ _ Q2.out
      have k1_2 := (HMM.out.kept hk1 b HO.out).2.2.2 (off + i * 4 + 2)
      obtain ⟨v1_3, z1_3, -, -⟩ := hk1.cell _ _ Q3.out
      have k1_3 := (HMM.out.kept hk1 b HO.out).2.2.2 (off + i * 4 + 3)
      clear q0 q1 q2 q3 f0 f1 f2 f3
      go_wp2_with fail
      refine (lawsMarkText (k + t + 2) _ (by omega) (by omega)).mono ?_
      rintro e w2 ⟨rfl, hb2⟩
      have hk2 : Kept B E wr w2 := by refine (Kept.below hb2).after ?_; refine Kept.set ?_ Q1.out G1.out HB.out HE.out rfl; exact hk1
      obtain ⟨v2_0, z2_0, -, -⟩ := hk2.cell _ _ Q0.out
      have k2_0 := (HMM.out.kept hk2 b HO.out).2.2.2 (off + i * 4)
      obtain ⟨v2_1, z2_1, -, -⟩ := hk2.cell _ _ Q1.out
      have k2_1 := (HMM.out.kept hk2 b HO.out).2.2.2 (off + i * 4 + 1)
      obtain ⟨v2_2, z2_2, -, -⟩ := hk2.cell _ _ Q2.out
      have k2_2 := (HMM.out.kept hk2 b HO.out).2.2.2 (off + i * 4 + 2)
      obtain ⟨v2_3, z2_3, -, -⟩ := hk2.cell _ _ Q3.out
      have k2_3 := (HMM.out.kept hk2 b HO.out).2.2.2 (off + i * 4 + 3)
      clear z1_0 z1_1 z1_2 z1_3 k1_0 k1_1 k1_2 k1_3
      go_wp2_with fail
      refine (lawsMarkText (k + t + 3) _ (by omega) (by omega)).mono ?_
      rintro e w3 ⟨rfl, hb3⟩
      have hk3 : Kept B E wr w3 := by refine (Kept.below hb3).after ?_; refine Kept.set ?_ Q2.out G2.out HB.out HE.out rfl; exact hk2
      obtain ⟨v3_0, z3_0, -, -⟩ := hk3.cell _ _ Q0.out
      have k3_0 := (HMM.out.kept hk3 b HO.out).2.2.2 (off + i * 4)
      obtain ⟨v3_1, z3_1, -, -⟩ := hk3.cell _ _ Q1.out
      have k3_1 := (HMM.out.kept hk3 b HO.out).2.2.2 (off + i * 4 + 1)
      obtain ⟨v3_2, z3_2, -, -⟩ := hk3.cell _ _ Q2.out
      have k3_2 := (HMM.out.kept hk3 b HO.out).2.2.2 (off + i * 4 + 2)
      obtain ⟨v3_3, z3_3, -, -⟩ := hk3.cell _ _ Q3.out
      have k3_3 := (HMM.out.kept hk3 b HO.out).2.2.2 (off + i * 4 + 3)
      clear z2_0 z2_1 z2_2 z2_3 k2_0 k2_1 k2_2 k2_3
      go_wp2_with fail
      go_roundw
      case rel => exact ⟨i + 1, t + ms[i], by omega, by go_num, by rw [HD.out]; go_num, Lib.hid HST.out, hK.trans (by refine Kept.set ?_ Q3.out G3.out HB.out HE.out rfl; exact hk3)⟩
      case measure => simp [intOf]; omega
    · obtain rfl : i = ms.length := by omega
      have e := ht.out
      rw [List.take_of_length_le (Nat.le_refl _)] at e
      have HT := Lib.hid e
      clear e ht
      go_wp2_with fail
      go_ret
      exact ⟨retI (by rw [HT.out]), hK⟩


end Go.Proofs.Ytkinegapnknhiaa
namespace Go.Proofs.Ytkinegapnknhiaa
open Go.RowKit
set_option linter.unusedVariables false

set_option linter.unusedSimpArgs false

/-- m cells of a list hold what f says. -/
def Mk (f : Nat → Value) (w : World) (A : Option Addr) (m : Nat) : Prop := 0 < m → ∃ b off, A = some ⟨b, off, none⟩ ∧ ∀ j, j < m → w.cell? ⟨b, off + j, none⟩ = some (f j)
/-- The world W behind marks: m cells of a block from off on hold what f says; nothing else has turned since wr. -/
def KM (f : Nat → Value) (b off B E : Nat) (wr W : World) (m : Nat) : Prop := Kept B E wr W ∧ ∀ j, j < m → W.cell? ⟨b, off + j, none⟩ = some (f j)
theorem KM.set {f : Nat → Value} {b off B E : Nat} {wr W : World} {m : Nat} (h : KM f b off B E wr W m) {p : Addr} {u v : Value} (hp : p = ⟨b, off + m, none⟩) (hc : wr.cell? p = some u) (hn : isSl u = false) (hB : B ≤ p.block) (hE : p.block < E) (hv : isSl v = false) (hf : v = f m) : KM f b off B E wr (W.setCell p v) (m + 1) := by
  refine ⟨Kept.set h.1 hc hn hB hE hv, fun j hj => ?_⟩
  obtain ⟨u', h1, -⟩ := h.1.cell p u hc
  subst hp
  by_cases e : j = m
  · subst e
    rw [World.cell?_setCell_same _ _ _ h1, hf]
  · rw [World.cell?_setCell_other _ _ _ _ (by intro hh; simp only [Addr.mk.injEq] at hh; omega)]
    exact h.2 j (by omega)
theorem KM.below {f : Nat → Value} {b off B E : Nat} {wr W W' : World} {m : Nat} (hb : Below W.heap.size W W') (h : KM f b off B E wr W m) : KM f b off B E wr W' m := ⟨h.1.trans (Kept.below hb), fun j hj => below_keep hb _ _ (h.2 j hj)⟩
theorem KM.close {f : Nat → Value} {b off B E : Nat} {w wr W : World} {m m' : Nat} (h : KM f b off B E wr W m') (hK : Kept B E w wr) (e : m = m') : Hid (Mk f W (some ⟨b, off, none⟩) m) ∧ Kept B E w W := ⟨fun _ => ⟨b, off, rfl, fun j hj => h.2 j (by omega)⟩, hK.trans h.1⟩
theorem KM.start {f : Nat → Value} {b off B E : Nat} {w wr : World} {m : Nat} (h : ∀ j, j < m → wr.cell? ⟨b, off + j, none⟩ = some (f j)) : KM f b off B E wr wr m := ⟨Kept.refl _ _ _, h⟩
theorem Mk.below {f : Nat → Value} {w w' : World} {A : Option Addr} {m : Nat} (h : Mk f w A m) (hb : Below w.heap.size w w') : Mk f w' A m := fun hm => by
  obtain ⟨b, off, e, hc⟩ := h hm
  exact ⟨b, off, e, fun j hj => below_keep hb _ _ (hc j hj)⟩

def mkXInt (k j : Nat) : Value := .int .i64 ((k + j : Nat) : Int)
theorem mkXInt_0 (k i : Nat) : mkXInt k (i * 1 + 0) = .int .i64 ((k + (i * 1 + 0) : Nat) : Int) := rfl
set_option maxRecDepth 100000 in
set_option maxHeartbeats 1000000 in
theorem marksXIntL (A : Option Addr) (n c : Nat) (ms : List Nat) (ok : Nat → Prop) (B E k : Nat) (w : World) (h : Sl (ShF 1) 1 ok w A n ms) (hm : mayMark B E w ok) (hk : k + n * 1 ≤ 1073741824) (hn : n ≤ 1048576) {x : Int} (hx : x = k) :
    Calls Try.prog 37 #[.slice A n c, .int .i64 x] w fun e w' => e = .returned (.int .i64 ((k + n * 1 : Nat) : Int)) ∧ Kept B E w w' ∧ Mk (mkXInt k) w' A (n * 1) := by
  obtain rfl : ms.length = n := h.1
  subst hx
  go_enter Try.func37, Try.ntmps37
  go_wp2_with fail
  go_loopw [1, 5] (fun m i wr => ∃ (j : Nat), j ≤ ms.length ∧ i = .int .i64 j ∧ m = .int .i64 ((k + j * 1 : Nat) : Int) ∧ Hid (Mk (mkXInt k) wr A (j * 1)) ∧ Kept B E w wr) (fun _ i _ => ms.length - (intOf i).toNat)
  case atStart => exact ⟨0, by omega, rfl, by simp, Lib.hid (fun h => by omega), Kept.refl _ _ _⟩
  case round =>
    obtain ⟨i, hi, rfl, rfl, hM, hK⟩ := hrel
    by_cases hlt : i < ms.length
    · have hsh := h.shape (ShF.keeps 1) hK
      have hmm := hm.kept hK
      obtain ⟨b, off, rfl, hob, hcs⟩ := hsh.2 (by omega)
      obtain ⟨cs, hcl, hR, hg⟩ := hcs i hlt
      have hM0 : ∀ j, j < i * 1 → wr.cell? ⟨b, off + j, none⟩ = some (mkXInt k j) := fun j hj => by
        obtain ⟨b', off', e, hc⟩ := hM.out (by omega)
        cases e
        exact hc j hj
      obtain ⟨hB, hE, -, hfr⟩ := hmm b hob
      obtain ⟨u0, rfl⟩ : ∃ u0, cs = [u0] := by
        have h0 := hR.1
        match cs, h0 with
        | [x0], _ => exact ⟨x0, rfl⟩
      have g0 : isSl u0 = false := hR.2.1 0 _ rfl
      have q0 : wr.cell? ⟨b, off + i, none⟩ = some (u0) := by have := hg 0 _ rfl; rwa [Nat.mul_one] at this
      have f0 := hfr (off + i)
      have Q0 := Lib.hid q0
      have G0 := Lib.hid g0
      have HB := Lib.hid hB
      have HE := Lib.hid hE
      have HR := Lib.hid hfr
      have HO := Lib.hid hob
      have HM0 := Lib.hid hM0
      have HMM := Lib.hid hmm
      have hle : k + i * 1 + 1 ≤ 1073741824 := by omega
      clear hsh hcs hg hR hB hE hfr hmm hM0 hM g0
      go_wp2_with fail
      go_roundw
      case rel =>
        refine ⟨i + 1, by omega, by go_num, by exact congrArg (Value.int .i64) (by omega), ?_⟩
        refine KM.close (m' := i * 1 + 0 + 1) ?_ hK (by omega)
        refine KM.set (m := i * 1 + 0) ?_ (by simp [Nat.add_assoc]) Q0.out G0.out HB.out HE.out rfl (by exact congrArg (Value.int .i64) (by omega)); exact KM.start (w := wr) HM0.out
      case measure => simp [intOf]; omega
    · obtain rfl : i = ms.length := by omega
      go_wp2_with fail
      go_ret
      exact ⟨rfl, hK, hM.out⟩

def mkXVal (k j : Nat) : Value := if j % 3 = 2 then .string (mtx (k + j)) else .int .i64 ((k + j : Nat) : Int)
theorem mkXVal_0 (k i : Nat) : mkXVal k (i * 3 + 0) = .int .i64 ((k + (i * 3 + 0) : Nat) : Int) := by unfold mkXVal; rw [if_neg (by omega)]
theorem mkXVal_1 (k i : Nat) : mkXVal k (i * 3 + 1) = .int .i64 ((k + (i * 3 + 1) : Nat) : Int) := by unfold mkXVal; rw [if_neg (by omega)]
theorem mkXVal_2 (k i : Nat) : mkXVal k (i * 3 + 2) = .string (mtx (k + (i * 3 + 2))) := by unfold mkXVal; rw [if_pos (by omega)]
def mkXFlaw (k j : Nat) : Value := .int .i64 ((k + j : Nat) : Int)
theorem mkXFlaw_0 (k i : Nat) : mkXFlaw k (i * 3 + 0) = .int .i64 ((k + (i * 3 + 0) : Nat) : Int) := rfl
theorem mkXFlaw_1 (k i : Nat) : mkXFlaw k (i * 3 + 1) = .int .i64 ((k + (i * 3 + 1) : Nat) : Int) := rfl
theorem mkXFlaw_2 (k i : Nat) : mkXFlaw k (i * 3 + 2) = .int .i64 ((k + (i * 3 + 2) : Nat) : Int) := rfl

end Go.Proofs.Ytkinegapnknhiaa
namespace Go.Proofs.Ytkinegapnknhiaa
open Go.RowKit
set_option linter.unusedVariables false
set_option linter.unusedSimpArgs false

def mkXFile (k j : Nat) : Value := .string (mtx (k + j))
theorem mkXFile_0 (k i : Nat) : mkXFile k (i * 2 + 0) = .string (mtx (k + (i * 2 + 0))) := rfl
theorem mkXFile_1 (k i : Nat) : mkXFile k (i * 2 + 1) = .string (mtx (k + (i * 2 + 1))) := rfl
set_option maxRecDepth 100000 in
set_option maxHeartbeats 1000000 in
theorem marksXFileL (A : Option Addr) (n c : Nat) (ms : List Nat) (ok : Nat → Prop) (B E k : Nat) (w : World) (h : Sl (ShF 2) 2 ok w A n ms) (hm : mayMark B E w ok) (hk : k + n * 2 ≤ 1073741824) (hn : n ≤ 1048576) {x : Int} (hx : x = k) :
    Calls Try.prog 72 #[.slice A n c, .int .i64 x] w fun e w' => e = .returned (.int .i64 ((k + n * 2 : Nat) : Int)) ∧ Kept B E w w' ∧ Mk (mkXFile k) w' A (n * 2) := by
  obtain rfl : ms.length = n := h.1
  subst hx
  go_enter Try.func72, Try.ntmps72
  go_wp2_with fail
  go_loopw [1, 5] (fun m i wr => ∃ (j : Nat), j ≤ ms.length ∧ i = .int .i64 j ∧ m = .int .i64 ((k + j * 2 : Nat) : Int) ∧ Hid (Mk (mkXFile k) wr A (j * 2)) ∧ Kept B E w wr) (fun _ i _ => ms.length - (intOf i).toNat)
  case atStart => exact ⟨0, by omega, rfl, by simp, Lib.hid (fun h => by omega), Kept.refl _ _ _⟩
  case round =>
    obtain ⟨i, hi, rfl, rfl, hM, hK⟩ := hrel
    by_cases hlt : i < ms.length
    · have hsh := h.shape (ShF.keeps 2) hK
      have hmm := hm.kept hK
      obtain ⟨b, off, rfl, hob, hcs⟩ := hsh.2 (by omega)
      obtain ⟨cs, hcl, hR, hg⟩ := hcs i hlt
      have hM0 : ∀ j, j < i * 2 → wr.cell? ⟨b, off + j, none⟩ = some (mkXFile k j) := fun j hj => by
        obtain ⟨b', off', e, hc⟩ := hM.out (by omega)
        cases e
        exact hc j hj
      obtain ⟨hB, hE, -, hfr⟩ := hmm b hob
      obtain ⟨u0, u1, rfl⟩ : ∃ u0 u1, cs = [u0, u1] := by
        have h0 := hR.1
        match cs, h0 with
        | [x0, x1], _ => exact ⟨x0, x1, rfl⟩
      have g0 : isSl u0 = false := hR.2.1 0 _ rfl
      have g1 : isSl u1 = false := hR.2.1 1 _ rfl
      have q0 : wr.cell? ⟨b, off + i * 2, none⟩ = some (u0) := hg 0 _ rfl
      have q1 : wr.cell? ⟨b, off + i * 2 + 1, none⟩ = some (u1) := hg 1 _ rfl
      have f0 := hfr (off + i * 2)
      have f1 := hfr (off + i * 2 + 1)
      have Q0 := Lib.hid q0
      have Q1 := Lib.hid q1
      have G0 := Lib.hid g0
      have G1 := Lib.hid g1
      have HB := Lib.hid hB
      have HE := Lib.hid hE
      have HR := Lib.hid hfr
      have HO := Lib.hid hob
      have HM0 := Lib.hid hM0
      have HMM := Lib.hid hmm
      have hle : k + i * 2 + 2 ≤ 1073741824 := by omega
      clear hsh hcs hg hR hB hE hfr hmm hM0 hM g0 g1
      go_wp2_with fail
      refine (lawsMarkText (k + (i * 2 + 0)) _ (by omega) (by omega)).mono ?_
      rintro e w1 ⟨rfl, hb1⟩
      have hk1 : KM (mkXFile k) b off B E wr w1 (i * 2 + 0) := by refine KM.below hb1 ?_; exact KM.start (w := wr) HM0.out
      obtain ⟨v1_0, z1_0, -, -⟩ := hk1.1.cell _ _ Q0.out
      have k1_0 := (HMM.out.kept hk1.1 b HO.out).2.2.2 (off + i * 2)
      obtain ⟨v1_1, z1_1, -, -⟩ := hk1.1.cell _ _ Q1.out
      have k1_1 := (HMM.out.kept hk1.1 b HO.out).2.2.2 (off + i * 2 + 1)
      have HK1 := Lib.hid hk1
      clear hk1 q0 f0 q1 f1
      go_wp2_with fail
      refine (lawsMarkText (k + (i * 2 + 1)) _ (by omega) (by omega)).mono ?_
      rintro e w2 ⟨rfl, hb2⟩
      have hk2 : KM (mkXFile k) b off B E wr w2 (i * 2 + 1) := by refine KM.below hb2 ?_; refine KM.set (m := i * 2 + 0) ?_ (by simp [Nat.add_assoc]) Q0.out G0.out HB.out HE.out rfl (by first | (rw [mkXFile_0]; done) | (rw [mkXFile_0]; congr 2 <;> omega)); exact HK1.out
      obtain ⟨v2_0, z2_0, -, -⟩ := hk2.1.cell _ _ Q0.out
      have k2_0 := (HMM.out.kept hk2.1 b HO.out).2.2.2 (off + i * 2)
      obtain ⟨v2_1, z2_1, -, -⟩ := hk2.1.cell _ _ Q1.out
      have k2_1 := (HMM.out.kept hk2.1 b HO.out).2.2.2 (off + i * 2 + 1)
      have HK2 := Lib.hid hk2
      clear hk2 z1_0 k1_0 z1_1 k1_1
      go_wp2_with fail
      go_roundw
      case rel =>
        refine ⟨i + 1, by omega, by go_num, by exact congrArg (Value.int .i64) (by omega), ?_⟩
        refine KM.close (m' := i * 2 + 1 + 1) ?_ hK (by omega)
        refine KM.set (m := i * 2 + 1) ?_ (by simp [Nat.add_assoc]) Q1.out G1.out HB.out HE.out rfl (by first | (rw [mkXFile_1]; done) | (rw [mkXFile_1]; congr 2 <;> omega)); exact HK2.out
      case measure => simp [intOf]; omega
    · obtain rfl : i = ms.length := by omega
      go_wp2_with fail
      go_ret
      exact ⟨rfl, hK, hM.out⟩

set_option maxRecDepth 100000 in
set_option maxHeartbeats 1000000 in
theorem heldXFileL (A : Option Addr) (n c k : Nat) (w : World) (h : Mk (mkXFile k) w A (n * 2)) (hk : k + n * 2 ≤ 1073741824) (hn : n ≤ 1048576) {x : Int} (hx : x = k) :
    Calls Try.prog 74 #[.slice A n c, .int .i64 x] w fun e w' => e = .returned (.int .i64 ((k + n * 2 : Nat) : Int)) ∧ Below w.heap.size w w' := by
  subst hx
  have HH := Lib.hid h
  clear h
  go_enter Try.func74, Try.ntmps74
  go_wp2_with fail
  go_loopw [1, 5] (fun m i wr => ∃ (j : Nat), j ≤ n ∧ i = .int .i64 j ∧ m = .int .i64 ((k + j * 2 : Nat) : Int) ∧ Below w.heap.size w wr) (fun _ i _ => n - (intOf i).toNat)
  case atStart => exact ⟨0, by omega, rfl, by simp, Below.refl _ _⟩
  case round =>
    obtain ⟨i, hi, rfl, rfl, hb⟩ := hrel
    by_cases hlt : i < n
    · obtain ⟨b, off, rfl, hc⟩ := (HH.out.below hb) (by omega)
      have hle : k + i * 2 + 2 ≤ 1073741824 := by omega
      have q0 : wr.cell? ⟨b, off + i * 2, none⟩ = some (.string (mtx (k + i * 2))) := by have := hc (i * 2 + 0) (by omega); rw [mkXFile_0] at this; exact this
      have q1 : wr.cell? ⟨b, off + i * 2 + 1, none⟩ = some (.string (mtx (k + (i * 2 + 1)))) := by have := hc (i * 2 + 1) (by omega); rwa [mkXFile_1, ← Nat.add_assoc] at this
      have i0 : (0 : Int) ≤ i := by omega
      have i1 : (i : Int) < n := by omega
      have Q0 := Lib.hid q0
      have Q1 := Lib.hid q1
      clear hc
      have hz0 := hb
      go_wp2_with fail
      go_region_held3 (fun w' => w'.cell? ⟨b, off + i * 2, none⟩ = some (.string (mtx (k + i * 2))))
        (first | go_keep | exact below_keep hb1 _ _ (by assumption))
        (first | (go_at_call 96; refine (lawsMarkText (k + i * 2) _ (by omega) (by omega)).mono ?_; rintro e w1 ⟨rfl, hb1⟩))
      have hz1 := (hz0.drew).trans (hb1.mono hz0.size)
      have q1 := below_keep hb1 _ _ (show (World.drew _).cell? _ = _ from q1)
      go_wp2_with fail
      go_region_held3 (fun w' => w'.cell? ⟨b, off + i * 2 + 1, none⟩ = some (.string (mtx (k + (i * 2 + 1)))))
        (first | go_keep | exact below_keep hb2 _ _ (by assumption))
        (first | (go_at_call 96; refine (lawsMarkText (k + (i * 2 + 1)) _ (by omega) (by omega)).mono ?_; rintro e w2 ⟨rfl, hb2⟩))
      have hz2 := (hz1.drew).trans (hb2.mono hz1.size)
      go_wp2
      go_roundw
      case rel => exact ⟨i + 1, by omega, by go_num, by exact congrArg (Value.int .i64) (by omega), hz2⟩
      case measure => simp [intOf]; omega
    · obtain rfl : i = n := by omega
      go_wp2_with fail
      go_ret
      exact ⟨rfl, hb⟩

def mkXDOp (k j : Nat) : Value := if j % 4 = 0 then .int .i64 ((k + j : Nat) : Int) else .string (mtx (k + j))
theorem mkXDOp_0 (k i : Nat) : mkXDOp k (i * 4 + 0) = .int .i64 ((k + (i * 4 + 0) : Nat) : Int) := by unfold mkXDOp; rw [if_pos (by omega)]
theorem mkXDOp_1 (k i : Nat) : mkXDOp k (i * 4 + 1) = .string (mtx (k + (i * 4 + 1))) := by unfold mkXDOp; rw [if_neg (by omega)]
theorem mkXDOp_2 (k i : Nat) : mkXDOp k (i * 4 + 2) = .string (mtx (k + (i * 4 + 2))) := by unfold mkXDOp; rw [if_neg (by omega)]
theorem mkXDOp_3 (k i : Nat) : mkXDOp k (i * 4 + 3) = .string (mtx (k + (i * 4 + 3))) := by unfold mkXDOp; rw [if_neg (by omega)]
set_option maxRecDepth 100000 in
set_option maxHeartbeats 1000000 in
theorem marksXDOpL (A : Option Addr) (n c : Nat) (ms : List Nat) (ok : Nat → Prop) (B E k : Nat) (w : World) (h : Sl (ShF 4) 4 ok w A n ms) (hm : mayMark B E w ok) (hk : k + n * 4 ≤ 1073741824) (hn : n ≤ 1048576) {x : Int} (hx : x = k) :
    Calls Try.prog 73 #[.slice A n c, .int .i64 x] w fun e w' => e = .returned (.int .i64 ((k + n * 4 : Nat) : Int)) ∧ Kept B E w w' ∧ Mk (mkXDOp k) w' A (n * 4) := by
  obtain rfl : ms.length = n := h.1
  subst hx
  go_enter Try.func73, Try.ntmps73
  go_wp2_with fail
  go_loopw [1, 5] (fun m i wr => ∃ (j : Nat), j ≤ ms.length ∧ i = .int .i64 j ∧ m = .int .i64 ((k + j * 4 : Nat) : Int) ∧ Hid (Mk (mkXDOp k) wr A (j * 4)) ∧ Kept B E w wr) (fun _ i _ => ms.length - (intOf i).toNat)
  case atStart => exact ⟨0, by omega, rfl, by simp, Lib.hid (fun h => by omega), Kept.refl _ _ _⟩
  case round =>
    obtain ⟨i, hi, rfl, rfl, hM, hK⟩ := hrel
    by_cases hlt : i < ms.length
    · have hsh := h.shape (ShF.keeps 4) hK
      have hmm := hm.kept hK
      obtain ⟨b, off, rfl, hob, hcs⟩ := hsh.2 (by omega)
      obtain ⟨cs, hcl, hR, hg⟩ := hcs i hlt
      have hM0 : ∀ j, j < i * 4 → wr.cell? ⟨b, off + j, none⟩ = some (mkXDOp k j) := fun j hj => by
        obtain ⟨b', off', e, hc⟩ := hM.out (by omega)
        cases e
        exact hc j hj
      obtain ⟨hB, hE, -, hfr⟩ := hmm b hob
      obtain ⟨u0, u1, u2, u3, rfl⟩ : ∃ u0 u1 u2 u3, cs = [u0, u1, u2, u3] := by
        have h0 := hR.1
        match cs, h0 with
        | [x0, x1, x2, x3], _ => exact ⟨x0, x1, x2, x3, rfl⟩
      have g0 : isSl u0 = false := hR.2.1 0 _ rfl
      have g1 : isSl u1 = false := hR.2.1 1 _ rfl
      have g2 : isSl u2 = false := hR.2.1 2 _ rfl
      have g3 : isSl u3 = false := hR.2.1 3 _ rfl
      have q0 : wr.cell? ⟨b, off + i * 4, none⟩ = some (u0) := hg 0 _ rfl
      have q1 : wr.cell? ⟨b, off + i * 4 + 1, none⟩ = some (u1) := hg 1 _ rfl
      have q2 : wr.cell? ⟨b, off + i * 4 + 2, none⟩ = some (u2) := hg 2 _ rfl
      have q3 : wr.cell? ⟨b, off + i * 4 + 3, none⟩ = some (u3) := hg 3 _ rfl
      have f0 := hfr (off + i * 4)
      have f1 := hfr (off + i * 4 + 1)
      have f2 := hfr (off + i * 4 + 2)
      have f3 := hfr (off + i * 4 + 3)
      have Q0 := Lib.hid q0
      have Q1 := Lib.hid q1
      have Q2 := Lib.hid q2
      have Q3 := Lib.hid q3
      have G0 := Lib.hid g0
      have G1 := Lib.hid g1
      have G2 := Lib.hid g2
      have G3 := Lib.hid g3
      have HB := Lib.hid hB
      have HE := Lib.hid hE
      have HR := Lib.hid hfr
      have HO := Lib.hid hob
      have HM0 := Lib.hid hM0
      have HMM := Lib.hid hmm
      have hle : k + i * 4 + 4 ≤ 1073741824 := by omega
      clear hsh hcs hg hR hB hE hfr hmm hM0 hM g0 g1 g2 g3
      go_wp2_with fail
      refine (lawsMarkText (k + (i * 4 + 1)) _ (by omega) (by omega)).mono ?_
      rintro e w1 ⟨rfl, hb1⟩
      have hk1 : KM (mkXDOp k) b off B E wr w1 (i * 4 + 1) := by refine KM.below hb1 ?_; refine KM.set (m := i * 4 + 0) ?_ (by simp [Nat.add_assoc]) Q0.out G0.out HB.out HE.out rfl (by rw [mkXDOp_0]; exact congrArg (Value.int .i64) (by omega)); exact KM.start (w := wr) HM0.out
      obtain ⟨v1_0, z1_0, -, -⟩ := hk1.1.cell _ _ Q0.out
      have k1_0 := (HMM.out.kept hk1.1 b HO.out).2.2.2 (off + i * 4)
      obtain ⟨v1_1, z1_1, -, -⟩ := hk1.1.cell _ _ Q1.out
      have k1_1 := (HMM.out.kept hk1.1 b HO.out).2.2.2 (off + i * 4 + 1)
      obtain ⟨v1_2, z1_2, -, -⟩ := hk1.1.cell _ _ Q2.out
      have k1_2 := (HMM.out.kept hk1.1 b HO.out).2.2.2 (off + i * 4 + 2)
      obtain ⟨v1_3, z1_3, -, -⟩ := hk1.1.cell _ _ Q3.out
      have k1_3 := (HMM.out.kept hk1.1 b HO.out).2.2.2 (off + i * 4 + 3)
      have HK1 := Lib.hid hk1
      clear hk1 q0 f0 q1 f1 q2 f2 q3 f3
      go_wp2_with fail
      refine (lawsMarkText (k + (i * 4 + 2)) _ (by omega) (by omega)).mono ?_
      rintro e w2 ⟨rfl, hb2⟩
      have hk2 : KM (mkXDOp k) b off B E wr w2 (i * 4 + 2) := by refine KM.below hb2 ?_; refine KM.set (m := i * 4 + 1) ?_ (by simp [Nat.add_assoc]) Q1.out G1.out HB.out HE.out rfl (by first | (rw [mkXDOp_1]; done) | (rw [mkXDOp_1]; congr 2 <;> omega)); exact HK1.out
      obtain ⟨v2_0, z2_0, -, -⟩ := hk2.1.cell _ _ Q0.out
      have k2_0 := (HMM.out.kept hk2.1 b HO.out).2.2.2 (off + i * 4)
      obtain ⟨v2_1, z2_1, -, -⟩ := hk2.1.cell _ _ Q1.out
      have k2_1 := (HMM.out.kept hk2.1 b HO.out).2.2.2 (off + i * 4 + 1)
      obtain ⟨v2_2, z2_2, -, -⟩ := hk2.1.cell _ _ Q2.out
      have k2_2 := (HMM.out.kept hk2.1 b HO.out).2.2.2 (off + i * 4 + 2)
      obtain ⟨v2_3, z2_3, -, -⟩ := hk2.1.cell _ _ Q3.out
      have k2_3 := (HMM.out.kept hk2.1 b HO.out).2.2.2 (off + i * 4 + 3)
      have HK2 := Lib.hid hk2
      clear hk2 z1_0 k1_0 z1_1 k1_1 z1_2 k1_2 z1_3 k1_3
      go_wp2_with fail
      refine (lawsMarkText (k + (i * 4 + 3)) _ (by omega) (by omega)).mono ?_
      rintro e w3 ⟨rfl, hb3⟩
      have hk3 : KM (mkXDOp k) b off B E wr w3 (i * 4 + 3) := by refine KM.below hb3 ?_; refine KM.set (m := i * 4 + 2) ?_ (by simp [Nat.add_assoc]) Q2.out G2.out HB.out HE.out rfl (by first | (rw [mkXDOp_2]; done) | (rw [mkXDOp_2]; congr 2 <;> omega)); exact HK2.out
      obtain ⟨v3_0, z3_0, -, -⟩ := hk3.1.cell _ _ Q0.out
      have k3_0 := (HMM.out.kept hk3.1 b HO.out).2.2.2 (off + i * 4)
      obtain ⟨v3_1, z3_1, -, -⟩ := hk3.1.cell _ _ Q1.out
      have k3_1 := (HMM.out.kept hk3.1 b HO.out).2.2.2 (off + i * 4 + 1)
      obtain ⟨v3_2, z3_2, -, -⟩ := hk3.1.cell _ _ Q2.out
      have k3_2 := (HMM.out.kept hk3.1 b HO.out).2.2.2 (off + i * 4 + 2)
      obtain ⟨v3_3, z3_3, -, -⟩ := hk3.1.cell _ _ Q3.out
      have k3_3 := (HMM.out.kept hk3.1 b HO.out).2.2.2 (off + i * 4 + 3)
      have HK3 := Lib.hid hk3
      clear hk3 z2_0 k2_0 z2_1 k2_1 z2_2 k2_2 z2_3 k2_3
      go_wp2_with fail
      go_roundw
      case rel =>
        refine ⟨i + 1, by omega, by go_num, by exact congrArg (Value.int .i64) (by omega), ?_⟩
        refine KM.close (m' := i * 4 + 3 + 1) ?_ hK (by omega)
        refine KM.set (m := i * 4 + 3) ?_ (by simp [Nat.add_assoc]) Q3.out G3.out HB.out HE.out rfl (by first | (rw [mkXDOp_3]; done) | (rw [mkXDOp_3]; congr 2 <;> omega)); exact HK3.out
      case measure => simp [intOf]; omega
    · obtain rfl : i = ms.length := by omega
      go_wp2_with fail
      go_ret
      exact ⟨rfl, hK, hM.out⟩

set_option maxRecDepth 100000 in
set_option maxHeartbeats 1000000 in
theorem heldXDOpL (A : Option Addr) (n c k : Nat) (w : World) (h : Mk (mkXDOp k) w A (n * 4)) (hk : k + n * 4 ≤ 1073741824) (hn : n ≤ 1048576) {x : Int} (hx : x = k) :
    Calls Try.prog 75 #[.slice A n c, .int .i64 x] w fun e w' => e = .returned (.int .i64 ((k + n * 4 : Nat) : Int)) ∧ Below w.heap.size w w' := by
  subst hx
  have HH := Lib.hid h
  clear h
  go_enter Try.func75, Try.ntmps75
  go_wp2_with fail
  go_loopw [1, 5] (fun m i wr => ∃ (j : Nat), j ≤ n ∧ i = .int .i64 j ∧ m = .int .i64 ((k + j * 4 : Nat) : Int) ∧ Below w.heap.size w wr) (fun _ i _ => n - (intOf i).toNat)
  case atStart => exact ⟨0, by omega, rfl, by simp, Below.refl _ _⟩
  case round =>
    obtain ⟨i, hi, rfl, rfl, hb⟩ := hrel
    by_cases hlt : i < n
    · obtain ⟨b, off, rfl, hc⟩ := (HH.out.below hb) (by omega)
      have hle : k + i * 4 + 4 ≤ 1073741824 := by omega
      have q0 : wr.cell? ⟨b, off + i * 4, none⟩ = some (.int .i64 ((k + (i * 4 + 0) : Nat) : Int)) := by have := hc (i * 4 + 0) (by omega); rwa [mkXDOp_0] at this
      have q1 : wr.cell? ⟨b, off + i * 4 + 1, none⟩ = some (.string (mtx (k + (i * 4 + 1)))) := by have := hc (i * 4 + 1) (by omega); rwa [mkXDOp_1, ← Nat.add_assoc] at this
      have q2 : wr.cell? ⟨b, off + i * 4 + 2, none⟩ = some (.string (mtx (k + (i * 4 + 2)))) := by have := hc (i * 4 + 2) (by omega); rwa [mkXDOp_2, ← Nat.add_assoc] at this
      have q3 : wr.cell? ⟨b, off + i * 4 + 3, none⟩ = some (.string (mtx (k + (i * 4 + 3)))) := by have := hc (i * 4 + 3) (by omega); rwa [mkXDOp_3, ← Nat.add_assoc] at this
      have i0 : (0 : Int) ≤ i := by omega
      have i1 : (i : Int) < n := by omega
      have Q0 := Lib.hid q0
      have Q1 := Lib.hid q1
      have Q2 := Lib.hid q2
      have Q3 := Lib.hid q3
      clear hc
      have hz0 := hb
      go_wp2_with fail
      go_region_held3 (fun w' => w'.cell? ⟨b, off + i * 4 + 1, none⟩ = some (.string (mtx (k + (i * 4 + 1)))))
        (first | go_keep | exact below_keep hb1 _ _ (by assumption))
        (first | (go_at_call 96; refine (lawsMarkText (k + (i * 4 + 1)) _ (by omega) (by omega)).mono ?_; rintro e w1 ⟨rfl, hb1⟩))
      have hz1 := (hz0.drew).trans (hb1.mono hz0.size)
      have q2 := below_keep hb1 _ _ (show (World.drew _).cell? _ = _ from q2)
      have q3 := below_keep hb1 _ _ (show (World.drew _).cell? _ = _ from q3)
      go_wp2_with fail
      go_region_held3 (fun w' => w'.cell? ⟨b, off + i * 4 + 2, none⟩ = some (.string (mtx (k + (i * 4 + 2)))))
        (first | go_keep | exact below_keep hb2 _ _ (by assumption))
        (first | (go_at_call 96; refine (lawsMarkText (k + (i * 4 + 2)) _ (by omega) (by omega)).mono ?_; rintro e w2 ⟨rfl, hb2⟩))
      have hz2 := (hz1.drew).trans (hb2.mono hz1.size)
      have q3 := below_keep hb2 _ _ (show (World.drew _).cell? _ = _ from q3)
      go_wp2_with fail
      go_region_held3 (fun w' => w'.cell? ⟨b, off + i * 4 + 3, none⟩ = some (.string (mtx (k + (i * 4 + 3)))))
        (first | go_keep | exact below_keep hb3 _ _ (by assumption))
        (first | (go_at_call 96; refine (lawsMarkText (k + (i * 4 + 3)) _ (by omega) (by omega)).mono ?_; rintro e w3 ⟨rfl, hb3⟩))
      have hz3 := (hz2.drew).trans (hb3.mono hz2.size)
      go_wp2
      go_roundw
      case rel => exact ⟨i + 1, by omega, by go_num, by exact congrArg (Value.int .i64) (by omega), hz3⟩
      case measure => simp [intOf]; omega
    · obtain rfl : i = n := by omega
      go_wp2_with fail
      go_ret
      exact ⟨rfl, hb⟩

end Go.Proofs.Ytkinegapnknhiaa
namespace Go.Proofs.Ytkinegapnknhiaa
open Go.RowKit
set_option linter.unusedVariables false
set_option linter.unusedSimpArgs false

/-- Of the blocks that there are, only those of bs have turned. -/
structure KeptL (bs : List Nat) (w w' : World) : Prop where
  os : w'.os = w.os
  tape : w'.tape = w.tape
  output : w'.output = w.output
  size : w.heap.size ≤ w'.heap.size
  block : ∀ k, k < w.heap.size → k ∉ bs → w'.heap[k]? = w.heap[k]?
  frozen : ∀ p : Addr, p.block < w.heap.size → w'.frozen? p = w.frozen? p

theorem KeptL.refl (bs : List Nat) (w : World) : KeptL bs w w := ⟨rfl, rfl, rfl, Nat.le_refl _, fun _ _ _ => rfl, fun _ _ => rfl⟩
theorem KeptL.trans {bs : List Nat} {a b c : World} (h : KeptL bs a b) (k : KeptL bs b c) : KeptL bs a c :=
  ⟨k.os.trans h.os, k.tape.trans h.tape, k.output.trans h.output, Nat.le_trans h.size k.size, fun i hi ho => (k.block i (Nat.lt_of_lt_of_le hi h.size) ho).trans (h.block i hi ho),
   fun p hp => (k.frozen p (Nat.lt_of_lt_of_le hp h.size)).trans (h.frozen p hp)⟩
theorem KeptL.mono {bs cs : List Nat} {a b : World} (h : KeptL bs a b) (hc : ∀ x ∈ bs, x ∈ cs) : KeptL cs a b :=
  ⟨h.os, h.tape, h.output, h.size, fun k hk ho => h.block k hk fun hh => ho (hc _ hh), h.frozen⟩
theorem KeptL.below {bs : List Nat} {w w' : World} (h : Below w.heap.size w w') : KeptL bs w w' :=
  ⟨h.os, h.tape, h.output, h.size, fun k hk _ => h.block k hk, fun p hp => World.frozen?_of_block (w := w) (h.block p.block hp)⟩
theorem KeptL.of {b : Nat} {w w' : World} (h : Kept b (b + 1) w w') : KeptL [b] w w' :=
  ⟨h.os, h.tape, h.output, h.size, fun k hk ho => h.block k hk (by rw [List.mem_singleton] at ho; omega), h.frozen⟩
theorem KeptL.of0 {bs : List Nat} {w w' : World} (h : Kept 0 0 w w') : KeptL bs w w' :=
  ⟨h.os, h.tape, h.output, h.size, fun k hk _ => h.block k hk (Or.inr (Nat.zero_le _)), h.frozen⟩
theorem KeptL.far {bs : List Nat} {w w' : World} (h : KeptL bs w w') {p : Addr} {v : Value} (hp : p.block ∉ bs) (hc : w.cell? p = some v) : w'.cell? p = some v :=
  (World.cell?_of_block (w := w) (h.block p.block (cell_lt hc) hp)).trans hc
theorem KeptL.set {bs : List Nat} {a w : World} (h : KeptL bs a w) {p : Addr} {u : Value} (hp : p.block ∈ bs) : KeptL bs a (w.setCell p u) :=
  ⟨h.os, h.tape, h.output, by simpa [World.setCell] using h.size, fun k hk ho => by
    rw [Below.heap_setCell _ _ _ _ (fun hh => ho (by rw [hh]; exact hp))]
    exact h.block k hk ho, fun q hq => (frozen_setCell w p u q).trans (h.frozen q hq)⟩
theorem KeptL.toBelow {bs : List Nat} {G : Nat} {a w w' : World} (h : Below G a w) (k : KeptL bs w w') (hG : ∀ b ∈ bs, G ≤ b) (ha : G ≤ w.heap.size) : Below G a w' :=
  ⟨k.os.trans h.os, k.tape.trans h.tape, k.output.trans h.output, Nat.le_trans h.size k.size, fun i hi => (k.block i (by omega) (fun hh => by have := hG i hh; omega)).trans (h.block i hi)⟩

/-- A list of elements without lists, in a block of bs that may be marked. -/
def FlS (sz : Nat) (w : World) (A : Option Addr) (n : Nat) (bs : List Nat) : Prop :=
  bs.length ≤ 1 ∧ n ≤ 1048576 ∧ (∀ b ∈ bs, b < w.heap.size ∧ ∀ off, w.frozen? ⟨b, off, none⟩ = false) ∧ ∃ ms, Sl (ShF sz) sz (· ∈ bs) w A n ms
theorem ShF.stays (m : Nat) : Stays (ShF m) := fun _ _ _ _ _ _ h _ _ => h
theorem FlS.stay {sz : Nat} {w w' : World} {A : Option Addr} {n : Nat} {bs bs' : List Nat} (h : FlS sz w A n bs) (k : KeptL bs' w w') (hd : ∀ x ∈ bs, x ∉ bs') : FlS sz w' A n bs := by
  obtain ⟨h1, h2, h3, ms, h4⟩ := h
  exact ⟨h1, h2, fun b hb => ⟨Nat.lt_of_lt_of_le (h3 b hb).1 k.size, fun off => (k.frozen ⟨b, off, none⟩ (h3 b hb).1).trans ((h3 b hb).2 off)⟩, ms,
    h4.stays (ShF.stays sz) (fun _ h => h) fun p v hb hp => k.far (hd _ hb) hp⟩
/-- What the marks leave in it. -/
def FlH (f : Nat → Nat → Value) (sz : Nat) (w : World) (k : Nat) (A : Option Addr) (n : Nat) (bs : List Nat) : Prop :=
  n ≤ 1048576 ∧ (0 < n * sz → ∃ b off, A = some ⟨b, off, none⟩ ∧ b ∈ bs ∧ ∀ j, j < n * sz → w.cell? ⟨b, off + j, none⟩ = some (f k j))
theorem FlH.mk {f : Nat → Nat → Value} {sz : Nat} {w : World} {k : Nat} {A : Option Addr} {n : Nat} {bs : List Nat} (h : FlH f sz w k A n bs) : Mk (f k) w A (n * sz) := fun hn => by
  obtain ⟨b, off, e, -, hc⟩ := h.2 hn
  exact ⟨b, off, e, hc⟩
theorem FlH.stay {f : Nat → Nat → Value} {sz : Nat} {w w' : World} {k : Nat} {A : Option Addr} {n : Nat} {bs bs' : List Nat} (h : FlH f sz w k A n bs) (kk : KeptL bs' w w') (hd : ∀ x ∈ bs, x ∉ bs') : FlH f sz w' k A n bs :=
  ⟨h.1, fun hn => by
    obtain ⟨b, off, e, hb, hc⟩ := h.2 hn
    exact ⟨b, off, e, hb, fun j hj => kk.far (hd b hb) (hc j hj)⟩⟩
/-- A flat list is marked by the marks that are there. -/
theorem FlS.pick {sz : Nat} {w : World} {A : Option Addr} {n : Nat} {bs : List Nat} (h : FlS sz w A n bs) (f : Nat → Nat → Value) (k : Nat) :
    n ≤ 1048576 ∧ ∃ B E ms, Sl (ShF sz) sz (· ∈ bs) w A n ms ∧ mayMark B E w (· ∈ bs) ∧ (∀ w', Kept B E w w' → KeptL bs w w') ∧ ∀ w', Mk (f k) w' A (n * sz) → FlH f sz w' k A n bs := by
  obtain ⟨h1, h2, h3, ms, h4⟩ := h
  have hF : ∀ w', Mk (f k) w' A (n * sz) → FlH f sz w' k A n bs := fun w' hM => ⟨h2, fun hn => by
    obtain ⟨b, off, e, hc⟩ := hM hn
    obtain ⟨b', off', e', hb, -⟩ := h4.2 (Nat.pos_of_mul_pos_right hn)
    obtain ⟨rfl, rfl⟩ : b' = b ∧ off' = off := by rw [e] at e'; cases e'; exact ⟨rfl, rfl⟩
    exact ⟨b', off', e, hb, hc⟩⟩
  refine ⟨h2, ?_⟩
  match bs, h1 with
  | [], _ => exact ⟨0, 0, ms, h4, (fun b hb => by simp at hb), fun w' hk => KeptL.of0 hk, hF⟩
  | [b], _ => exact ⟨b, b + 1, ms, h4, (fun x hx => by
      obtain rfl : x = b := by simpa using hx
      exact ⟨Nat.le_refl _, by omega, (h3 x (by simp)).1, (h3 x (by simp)).2⟩), fun w' hk => KeptL.of hk, hF⟩

def cellsAt (w : World) (b o : Nat) (cs : List Value) : Prop := ∀ (t : Nat) (v : Value), cs[t]? = some v → w.cell? ⟨b, o + t, none⟩ = some v

/-- What is told of an element that may be marked: its cells, how many marks it takes, the blocks of its lists. -/
abbrev ElS := World → List Value → Nat → List Nat → Prop
/-- What is told of an element that has been marked from k on. -/
abbrev ElH := World → Nat → List Value → Nat → List Nat → Prop
def StayS (S : ElS) : Prop := ∀ (w w' : World) (cs : List Value) (cnt : Nat) (bs bs' : List Nat), S w cs cnt bs → KeptL bs' w w' → (∀ x ∈ bs, x ∉ bs') → S w' cs cnt bs
def StayH (H : ElH) : Prop := ∀ (w w' : World) (k : Nat) (cs : List Value) (cnt : Nat) (bs bs' : List Nat), H w k cs cnt bs → KeptL bs' w w' → (∀ x ∈ bs, x ∉ bs') → H w' k cs cnt bs

/-- A list of such elements, that may be marked. -/
structure NS (S : ElS) (sz : Nat) (w : World) (b off n : Nat) (cnts : List Nat) (bss : List (List Nat)) : Prop where
  l1 : cnts.length = n
  l2 : bss.length = n
  nodup : (b :: bss.flatten).Nodup
  lt : b < w.heap.size
  fr : ∀ o, w.frozen? ⟨b, o, none⟩ = false
  el : ∀ i, i < n → ∃ cs, cs.length = sz ∧ S w cs (cnts.getD i 0) (bss.getD i []) ∧ cellsAt w b (off + i * sz) cs
def ShL (S : ElS) (sz : Nat) (w : World) (A : Option Addr) (n : Nat) (cnts : List Nat) (bs : List Nat) : Prop :=
  n ≤ 1048576 ∧ (n = 0 ∧ cnts = [] ∧ bs = [] ∨ ∃ b off bss, A = some ⟨b, off, none⟩ ∧ bs = b :: bss.flatten ∧ NS S sz w b off n cnts bss)
/-- Such a list that has been marked from k on. -/
structure NH (H : ElH) (sz : Nat) (w : World) (k b off n : Nat) (cnts : List Nat) (bss : List (List Nat)) : Prop where
  l1 : cnts.length = n
  l2 : bss.length = n
  el : ∀ i, i < n → ∃ cs, cs.length = sz ∧ H w (k + (cnts.take i).sum) cs (cnts.getD i 0) (bss.getD i []) ∧ cellsAt w b (off + i * sz) cs
def HdL (H : ElH) (sz : Nat) (w : World) (k : Nat) (A : Option Addr) (n : Nat) (cnts : List Nat) (bs : List Nat) : Prop :=
  n ≤ 1048576 ∧ (n = 0 ∧ cnts = [] ∧ bs = [] ∨ ∃ b off bss, A = some ⟨b, off, none⟩ ∧ bs = b :: bss.flatten ∧ NH H sz w k b off n cnts bss)

theorem mem_flatten_getD {bss : List (List Nat)} {i x : Nat} (h : x ∈ bss.getD i []) : x ∈ bss.flatten := by
  by_cases hi : i < bss.length
  · rw [List.getD_eq_getElem?_getD, List.getElem?_eq_getElem hi] at h
    exact List.mem_flatten.2 ⟨bss[i], List.getElem_mem hi, h⟩
  · rw [List.getD_eq_getElem?_getD, List.getElem?_eq_none (by omega)] at h
    simp at h
theorem apart {b : Nat} {bss : List (List Nat)} (h : (b :: bss.flatten).Nodup) {i j x : Nat} (hx : x ∈ bss.getD i []) (hj : x ∈ bss.getD j []) : i = j := by
  have hi : i < bss.length := by
    rcases Nat.lt_or_ge i bss.length with h1 | h1
    · exact h1
    · rw [List.getD_eq_getElem?_getD, List.getElem?_eq_none h1] at hx; simp at hx
  have hjl : j < bss.length := by
    rcases Nat.lt_or_ge j bss.length with h1 | h1
    · exact h1
    · rw [List.getD_eq_getElem?_getD, List.getElem?_eq_none h1] at hj; simp at hj
  rw [List.getD_eq_getElem?_getD, List.getElem?_eq_getElem hi] at hx
  rw [List.getD_eq_getElem?_getD, List.getElem?_eq_getElem hjl] at hj
  have hp := (List.pairwise_iff_getElem.1 (List.pairwise_flatten.1 (List.nodup_cons.1 h).2).2)
  rcases Nat.lt_trichotomy i j with h1 | h1 | h1
  · exact absurd rfl (hp i j hi hjl h1 x hx x hj)
  · exact h1
  · exact absurd rfl (hp j i hjl hi h1 x hj x hx)
theorem apart0 {b : Nat} {bss : List (List Nat)} (h : (b :: bss.flatten).Nodup) {i x : Nat} (hx : x ∈ bss.getD i []) : x ≠ b := fun e => (List.nodup_cons.1 h).1 (e ▸ mem_flatten_getD hx)
theorem mem_take_flatten {bss : List (List Nat)} {i x : Nat} (h : x ∈ (bss.take i).flatten) : ∃ j, j < i ∧ x ∈ bss.getD j [] := by
  obtain ⟨l, hl, hx⟩ := List.mem_flatten.1 h
  obtain ⟨j, hj, rfl⟩ := List.mem_iff_getElem.1 hl
  simp only [List.length_take] at hj
  refine ⟨j, by omega, ?_⟩
  rw [List.getElem_take] at hx
  rw [List.getD_eq_getElem?_getD, List.getElem?_eq_getElem (by omega)]
  exact hx
theorem sum_take_getD (l : List Nat) (k : Nat) (h : k < l.length) : (l.take (k + 1)).sum = (l.take k).sum + l.getD k 0 := by
  rw [sum_take_n l k h, List.getD_eq_getElem?_getD, List.getElem?_eq_getElem h]; rfl
theorem take_le_sum (l : List Nat) (k : Nat) : (l.take k).sum ≤ l.sum := sum_take_n_le l k

/-- Where the loop of the marks stands: the first i elements are marked, the others as they were. -/
structure NI (H : ElH) (sz : Nat) (w : World) (b off k n : Nat) (cnts : List Nat) (bss : List (List Nat)) (i : Nat) (wr : World) : Prop where
  kept : KeptL (b :: (bss.take i).flatten) w wr
  same : ∀ o, off + i * sz ≤ o → wr.cell? ⟨b, o, none⟩ = w.cell? ⟨b, o, none⟩
  done : ∀ j, j < i → ∃ cs, cs.length = sz ∧ H wr (k + (cnts.take j).sum) cs (cnts.getD j 0) (bss.getD j []) ∧ cellsAt wr b (off + j * sz) cs

theorem NI.start (H : ElH) (sz : Nat) (w : World) (b off k n : Nat) (cnts : List Nat) (bss : List (List Nat)) : NI H sz w b off k n cnts bss 0 w := ⟨KeptL.refl _ _, fun _ _ => rfl, fun j hj => by omega⟩

theorem NI.elem {S : ElS} {H : ElH} (hS : StayS S) {sz : Nat} {w : World} {b off k n : Nat} {cnts : List Nat} {bss : List (List Nat)} (hs : NS S sz w b off n cnts bss) {i : Nat} {wr : World} (h : NI H sz w b off k n cnts bss i wr) (hi : i < n) :
    b < wr.heap.size ∧ (∀ o, wr.frozen? ⟨b, o, none⟩ = false) ∧ ∃ cs, cs.length = sz ∧ S wr cs (cnts.getD i 0) (bss.getD i []) ∧ cellsAt wr b (off + i * sz) cs := by
  refine ⟨Nat.lt_of_lt_of_le hs.lt h.kept.size, fun o => (h.kept.frozen ⟨b, o, none⟩ hs.lt).trans (hs.fr o), ?_⟩
  obtain ⟨cs, h1, h2, h3⟩ := hs.el i hi
  refine ⟨cs, h1, hS _ _ _ _ _ _ h2 h.kept fun x hx hh => ?_, fun t v hv => (h.same _ (by omega)).trans (h3 t v hv)⟩
  rcases List.mem_cons.1 hh with e | e
  · exact apart0 hs.nodup hx e
  · obtain ⟨j, hj, hxj⟩ := mem_take_flatten e
    have := apart hs.nodup hx hxj
    omega

theorem NI.step {H : ElH} (hH : StayH H) {sz : Nat} {w : World} {b off k n : Nat} {cnts : List Nat} {bss : List (List Nat)} (hl : bss.length = n) (hn : (b :: bss.flatten).Nodup) {i : Nat} {wr W : World} (h : NI H sz w b off k n cnts bss i wr) (hi : i < n)
    (hk : KeptL (b :: bss.getD i []) wr W) (hs : ∀ o, (o < off + i * sz ∨ off + (i + 1) * sz ≤ o) → ∀ v, wr.cell? ⟨b, o, none⟩ = v → W.cell? ⟨b, o, none⟩ = v) (cs : List Value) (hc : cs.length = sz) (hM : H W (k + (cnts.take i).sum) cs (cnts.getD i 0) (bss.getD i [])) (hcs : cellsAt W b (off + i * sz) cs) :
    NI H sz w b off k n cnts bss (i + 1) W := by
  have hsub : ∀ x ∈ bss.getD i [], x ∈ (bss.take (i + 1)).flatten := fun x hx => by
    have hi' : i < bss.length := by omega
    rw [List.getD_eq_getElem?_getD, List.getElem?_eq_getElem hi'] at hx
    exact List.mem_flatten.2 ⟨bss[i], List.mem_iff_getElem.2 ⟨i, by simp; omega, by simp⟩, hx⟩
  have hsub2 : ∀ x ∈ (bss.take i).flatten, x ∈ (bss.take (i + 1)).flatten := fun x hx => by
    rw [List.take_succ_eq_append_getElem (by omega), List.flatten_append]
    exact List.mem_append_left _ hx
  refine ⟨(h.kept.mono fun x hx => ?_).trans (hk.mono fun x hx => ?_), fun o ho => ?_, fun j hj => ?_⟩
  · rcases List.mem_cons.1 hx with e | e
    · exact e ▸ List.mem_cons_self ..
    · exact List.mem_cons_of_mem _ (hsub2 x e)
  · rcases List.mem_cons.1 hx with e | e
    · exact e ▸ List.mem_cons_self ..
    · exact List.mem_cons_of_mem _ (hsub x e)
  · have e : (i + 1) * sz = i * sz + sz := Nat.succ_mul i sz
    exact (hs o (Or.inr ho) _ rfl).trans (h.same o (by omega))
  · by_cases e : j = i
    · subst e
      exact ⟨cs, hc, hM, hcs⟩
    · obtain ⟨cs', h1, h2, h3⟩ := h.done j (by omega)
      refine ⟨cs', h1, hH _ _ _ _ _ _ _ h2 hk fun x hx hh => ?_, fun t v hv => hs _ (Or.inl ?_) _ (h3 t v hv)⟩
      · rcases List.mem_cons.1 hh with e' | e'
        · exact apart0 hn hx e'
        · exact e (apart hn hx e')
      · have ht : t < sz := by have := (List.getElem?_eq_some_iff.1 hv).1; omega
        have : (j + 1) * sz ≤ i * sz := Nat.mul_le_mul_right sz (by omega)
        rw [Nat.succ_mul] at this
        omega

theorem NI.finish {H : ElH} {sz : Nat} {w : World} {b off k n : Nat} {cnts : List Nat} {bss : List (List Nat)} (hl1 : cnts.length = n) (hl : bss.length = n) {wr : World} (h : NI H sz w b off k n cnts bss n wr) : KeptL (b :: bss.flatten) w wr ∧ NH H sz wr k b off n cnts bss := by
  refine ⟨?_, hl1, hl, h.done⟩
  have := h.kept
  rwa [List.take_of_length_le (by omega)] at this

theorem ShL.stay {S : ElS} (hS : StayS S) {sz : Nat} {w w' : World} {A : Option Addr} {n : Nat} {cnts bs bs' : List Nat} (h : ShL S sz w A n cnts bs) (hk : KeptL bs' w w') (hd : ∀ x ∈ bs, x ∉ bs') : ShL S sz w' A n cnts bs := by
  refine ⟨h.1, ?_⟩
  rcases h.2 with h0 | ⟨b, off, bss, rfl, rfl, hs⟩
  · exact Or.inl h0
  · refine Or.inr ⟨b, off, bss, rfl, rfl, hs.l1, hs.l2, hs.nodup, Nat.lt_of_lt_of_le hs.lt hk.size, fun o => (hk.frozen ⟨b, o, none⟩ hs.lt).trans (hs.fr o), fun i hi => ?_⟩
    obtain ⟨cs, h1, h2, h3⟩ := hs.el i hi
    exact ⟨cs, h1, hS _ _ _ _ _ _ h2 hk fun x hx => hd x (List.mem_cons_of_mem _ (mem_flatten_getD hx)), fun t v hv => hk.far (hd b (List.mem_cons_self ..)) (h3 t v hv)⟩
theorem HdL.stay {H : ElH} (hH : StayH H) {sz : Nat} {w w' : World} {k : Nat} {A : Option Addr} {n : Nat} {cnts bs bs' : List Nat} (h : HdL H sz w k A n cnts bs) (hk : KeptL bs' w w') (hd : ∀ x ∈ bs, x ∉ bs') : HdL H sz w' k A n cnts bs := by
  refine ⟨h.1, ?_⟩
  rcases h.2 with h0 | ⟨b, off, bss, rfl, rfl, hs⟩
  · exact Or.inl h0
  · refine Or.inr ⟨b, off, bss, rfl, rfl, hs.l1, hs.l2, fun i hi => ?_⟩
    obtain ⟨cs, h1, h2, h3⟩ := hs.el i hi
    exact ⟨cs, h1, hH _ _ _ _ _ _ _ h2 hk fun x hx => hd x (List.mem_cons_of_mem _ (mem_flatten_getD hx)), fun t v hv => hk.far (hd b (List.mem_cons_self ..)) (h3 t v hv)⟩
theorem HdL.below {H : ElH} (hH : StayH H) {sz : Nat} {w w' : World} {k : Nat} {A : Option Addr} {n : Nat} {cnts bs : List Nat} (h : HdL H sz w k A n cnts bs) (hk : Below w.heap.size w w') : HdL H sz w' k A n cnts bs :=
  h.stay hH (bs' := []) (KeptL.below hk) fun _ _ => List.not_mem_nil

/-- Within an element of the block b, whose cells lie in lo .. hi - 1 and whose lists lie in bs. -/
structure NM (b lo hi : Nat) (bs : List Nat) (wr W : World) : Prop where
  kept : KeptL (b :: bs) wr W
  same : ∀ o, (o < lo ∨ hi ≤ o) → ∀ v, wr.cell? ⟨b, o, none⟩ = v → W.cell? ⟨b, o, none⟩ = v
theorem NM.refl (b lo hi : Nat) (bs : List Nat) (w : World) : NM b lo hi bs w w := ⟨KeptL.refl _ _, fun _ _ _ h => h⟩
theorem NM.turn {b lo hi : Nat} {bs l : List Nat} {wr W W' : World} (hb : b < wr.heap.size) (h : NM b lo hi bs wr W) (hk : KeptL l W W') (hl : ∀ x ∈ l, x ∈ bs) (hn : b ∉ bs) : NM b lo hi bs wr W' :=
  ⟨h.kept.trans (hk.mono fun x hx => List.mem_cons_of_mem _ (hl x hx)), fun o ho v hv => (World.cell?_of_block (w := W) (hk.block b (Nat.lt_of_lt_of_le hb h.kept.size) fun hh => hn (hl b hh))).trans (h.same o ho v hv)⟩
theorem NM.set {b lo hi : Nat} {bs : List Nat} {wr W : World} (h : NM b lo hi bs wr W) {p : Addr} {u : Value} {o : Nat} (hp : p = ⟨b, o, none⟩) (h1 : lo ≤ o) (h2 : o < hi) : NM b lo hi bs wr (W.setCell p u) := by
  subst hp
  exact ⟨h.kept.set (List.mem_cons_self ..), fun o' ho v hv => (World.cell?_setCell_other _ _ _ _ (by intro hh; simp only [Addr.mk.injEq] at hh; omega)).trans (h.same o' ho v hv)⟩

/-- All that a walk through the loop of the marks wants to know. -/
theorem ShL.walk {S : ElS} {H : ElH} (hS : StayS S) (hH : StayH H) {sz : Nat} {w : World} {A : Option Addr} {n : Nat} {cnts bs : List Nat} (h : ShL S sz w A n cnts bs) (k : Nat) :
    cnts.length = n ∧ ∃ P : Nat → World → Prop, P 0 w ∧
      (∀ i wr, i < n → P i wr → ∃ b off bs' cs, A = some ⟨b, off, none⟩ ∧ (∀ o, wr.frozen? ⟨b, o, none⟩ = false) ∧ b < wr.heap.size ∧ cs.length = sz ∧ S wr cs (cnts.getD i 0) bs' ∧ cellsAt wr b (off + i * sz) cs ∧ b ∉ bs' ∧
        ∀ W cs', NM b (off + i * sz) (off + (i + 1) * sz) bs' wr W → cs'.length = sz → H W (k + (cnts.take i).sum) cs' (cnts.getD i 0) bs' → cellsAt W b (off + i * sz) cs' → P (i + 1) W) ∧
      (∀ wr, P n wr → KeptL bs w wr ∧ HdL H sz wr k A n cnts bs) := by
  rcases h.2 with ⟨rfl, rfl, rfl⟩ | ⟨b, off, bss, rfl, rfl, hs⟩
  · exact ⟨rfl, fun _ wr => wr = w, rfl, fun i wr hi => by omega, fun wr e => by subst e; exact ⟨KeptL.refl _ _, Nat.zero_le _, Or.inl ⟨rfl, rfl, rfl⟩⟩⟩
  · refine ⟨hs.l1, NI H sz w b off k n cnts bss, NI.start .., fun i wr hi hI => ?_, fun wr hI => ?_⟩
    · obtain ⟨h1, h2, cs, h3, h4, h5⟩ := hI.elem hS hs hi
      exact ⟨b, off, bss.getD i [], cs, rfl, h2, h1, h3, h4, h5, fun hb => apart0 hs.nodup hb rfl, fun W cs' hk hc hM hcs => NI.step hH hs.l2 hs.nodup hI hi hk.kept hk.same cs' hc hM hcs⟩
    · obtain ⟨h1, h2⟩ := NI.finish hs.l1 hs.l2 hI
      exact ⟨h1, h.1, Or.inr ⟨b, off, bss, rfl, rfl, h2⟩⟩

theorem HdL.elem {H : ElH} {sz : Nat} {w : World} {k : Nat} {A : Option Addr} {n : Nat} {cnts bs : List Nat} (h : HdL H sz w k A n cnts bs) {i : Nat} (hi : i < n) :
    ∃ b off bs' cs, A = some ⟨b, off, none⟩ ∧ cs.length = sz ∧ H w (k + (cnts.take i).sum) cs (cnts.getD i 0) bs' ∧ cellsAt w b (off + i * sz) cs := by
  rcases h.2 with h0 | ⟨b, off, bss, rfl, rfl, hs⟩
  · omega
  · obtain ⟨cs, h1, h2, h3⟩ := hs.el i hi
    exact ⟨b, off, _, cs, rfl, h1, h2, h3⟩
theorem HdL.len {H : ElH} {sz : Nat} {w : World} {k : Nat} {A : Option Addr} {n : Nat} {cnts bs : List Nat} (h : HdL H sz w k A n cnts bs) : cnts.length = n := by
  rcases h.2 with ⟨rfl, rfl, -⟩ | ⟨b, off, bss, rfl, rfl, hs⟩
  · rfl
  · exact hs.l1
theorem sums_step {cnts : List Nat} {i n : Nat} (hl : cnts.length = n) (hi : i < n) : (cnts.take (i + 1)).sum = (cnts.take i).sum + cnts.getD i 0 ∧ (cnts.take i).sum + cnts.getD i 0 ≤ cnts.sum := by
  have h1 := sum_take_getD cnts i (by omega)
  have h2 := take_le_sum cnts (i + 1)
  omega
theorem sums_all {cnts : List Nat} {n : Nat} (hl : cnts.length = n) : (cnts.take n).sum = cnts.sum := by rw [List.take_of_length_le (by omega)]

end Go.Proofs.Ytkinegapnknhiaa
namespace Go.Proofs.Ytkinegapnknhiaa
open Go.RowKit
set_option linter.unusedVariables false
set_option linter.unusedSimpArgs false

def Dz.fits (x : Dz) : Prop := (x.live.length ≤ 1048576 ∧ ∀ y ∈ x.live, y.sz ≤ 1048576) ∧ (x.safe.length ≤ 1048576 ∧ ∀ y ∈ x.safe, y.sz ≤ 1048576) ∧ (x.ops.length ≤ 1048576 ∧ ∀ y ∈ x.ops, y.sz ≤ 1048576)
theorem fits_F {l : List Fz} (h : szL Fz.sz l ≤ 1048576) : l.length ≤ 1048576 ∧ ∀ y ∈ l, y.sz ≤ 1048576 := ⟨by unfold szL at h; omega, fun y hy => Nat.le_trans (szL_mem Fz.sz l y hy) h⟩
theorem fits_O {l : List Oz} (h : szL Oz.sz l ≤ 1048576) : l.length ≤ 1048576 ∧ ∀ y ∈ l, y.sz ≤ 1048576 := ⟨by unfold szL at h; omega, fun y hy => Nat.le_trans (szL_mem Oz.sz l y hy) h⟩
theorem Dz.fits_of {x : Dz} (h : x.sz ≤ 1048576) : x.fits := by
  unfold Dz.sz at h
  exact ⟨fits_F (by omega), fits_F (by omega), fits_O (by omega)⟩

set_option maxRecDepth 100000 in
set_option maxHeartbeats 1000000 in
theorem lawsEqFileM (A A' : Option Addr) (n c c' : Nat) (l : List Fz) (ok ok' : Nat → Prop) (w : World) (h : Sl FzR 2 ok w A n l) (h' : Sl FzR 2 ok' w A' n l) (hs : l.length ≤ 1048576 ∧ ∀ y ∈ l, y.sz ≤ 1048576) :
    Calls Try.prog 70 #[.slice A n c, .slice A' n c'] w fun e w' => e = .returned (.bool true) ∧ Below w.heap.size w w' := by
  obtain rfl : l.length = n := h.1
  have hn : l.length ≤ 1048576 := hs.1
  have HS := Lib.hid hs
  clear hs
  go_enter Try.func70, Try.ntmps70
  go_wp2
  go_loopw [5] (fun i wr => ∃ k : Nat, k ≤ l.length ∧ i = .int .i64 k ∧ Below w.heap.size w wr) (fun i _ => l.length - (intOf i).toNat)
  case atStart => exact ⟨0, by omega, rfl, Below.refl _ _⟩
  case round =>
    obtain ⟨k, hk, rfl, hb⟩ := hrel
    by_cases hlt : k < l.length
    · obtain ⟨b, off, -, rfl, q0, q1⟩ := FzR.at_ (h.below FzR.stays hb) hlt
      obtain ⟨b', off', -, rfl, r0, r1⟩ := FzR.at_ (h'.below FzR.stays hb) hlt
      have i0 : (0 : Int) ≤ k := by omega
      have i1 : (k : Int) < l.length := by omega
      have hszk : l[k].sz ≤ 1048576 := HS.out.2 _ (List.getElem_mem hlt)
      have HSK := Lib.hid hszk
      clear hszk
      go_wp2_with fail
      go_region_held3 (fun w' => w'.cell? ⟨b, off + k * 2, none⟩ = some (.string l[k].name) ∧ w'.cell? ⟨b, off + k * 2 + 1, none⟩ = some (.string l[k].data) ∧ w'.cell? ⟨b', off' + k * 2, none⟩ = some (.string l[k].name) ∧ w'.cell? ⟨b', off' + k * 2 + 1, none⟩ = some (.string l[k].data))
        (first | go_keep | exact keepE4 (by assumption) hb1)
        (first | (go_at_call 94; refine (lawsEqFile l[k]  ok ok' _   HSK.out).mono ?_; rintro e w1 ⟨rfl, hb1⟩))
      go_wp2
      go_roundw
      case rel => exact ⟨k + 1, by omega, by go_num, hb.drew.trans (hb1.mono hb.size)⟩
      case measure => simp [intOf]; omega
    · go_wp2
      go_ret
      exact ⟨rfl, hb⟩

set_option maxRecDepth 100000 in
set_option maxHeartbeats 1000000 in
theorem lawsEqDOpM (A A' : Option Addr) (n c c' : Nat) (l : List Oz) (ok ok' : Nat → Prop) (w : World) (h : Sl OzR 4 ok w A n l) (h' : Sl OzR 4 ok' w A' n l) (hs : l.length ≤ 1048576 ∧ ∀ y ∈ l, y.sz ≤ 1048576) :
    Calls Try.prog 71 #[.slice A n c, .slice A' n c'] w fun e w' => e = .returned (.bool true) ∧ Below w.heap.size w w' := by
  obtain rfl : l.length = n := h.1
  have hn : l.length ≤ 1048576 := hs.1
  have HS := Lib.hid hs
  clear hs
  go_enter Try.func71, Try.ntmps71
  go_wp2
  go_loopw [5] (fun i wr => ∃ k : Nat, k ≤ l.length ∧ i = .int .i64 k ∧ Below w.heap.size w wr) (fun i _ => l.length - (intOf i).toNat)
  case atStart => exact ⟨0, by omega, rfl, Below.refl _ _⟩
  case round =>
    obtain ⟨k, hk, rfl, hb⟩ := hrel
    by_cases hlt : k < l.length
    · obtain ⟨b, off, -, rfl, q0, q1, q2, q3⟩ := OzR.at_ (h.below OzR.stays hb) hlt
      obtain ⟨b', off', -, rfl, r0, r1, r2, r3⟩ := OzR.at_ (h'.below OzR.stays hb) hlt
      have i0 : (0 : Int) ≤ k := by omega
      have i1 : (k : Int) < l.length := by omega
      have hszk : l[k].sz ≤ 1048576 := HS.out.2 _ (List.getElem_mem hlt)
      have HSK := Lib.hid hszk
      clear hszk
      go_wp2_with fail
      go_region_held3 (fun w' => w'.cell? ⟨b, off + k * 4, none⟩ = some (.int .i64 l[k].kind) ∧ w'.cell? ⟨b, off + k * 4 + 1, none⟩ = some (.string l[k].name) ∧ w'.cell? ⟨b, off + k * 4 + 2, none⟩ = some (.string l[k].to) ∧ w'.cell? ⟨b, off + k * 4 + 3, none⟩ = some (.string l[k].data) ∧ w'.cell? ⟨b', off' + k * 4, none⟩ = some (.int .i64 l[k].kind) ∧ w'.cell? ⟨b', off' + k * 4 + 1, none⟩ = some (.string l[k].name) ∧ w'.cell? ⟨b', off' + k * 4 + 2, none⟩ = some (.string l[k].to) ∧ w'.cell? ⟨b', off' + k * 4 + 3, none⟩ = some (.string l[k].data))
        (first | go_keep | exact keepE8 (by assumption) hb1)
        (first | (go_at_call 95; refine (lawsEqDOp l[k]  ok ok' _   HSK.out).mono ?_; rintro e w1 ⟨rfl, hb1⟩))
      go_wp2
      go_roundw
      case rel => exact ⟨k + 1, by omega, by go_num, hb.drew.trans (hb1.mono hb.size)⟩
      case measure => simp [intOf]; omega
    · go_wp2
      go_ret
      exact ⟨rfl, hb⟩

set_option maxRecDepth 100000 in
set_option maxHeartbeats 1000000 in
theorem lawsEqDiskM (x : Dz) (A0 B0 : Option Addr) (n0 c0 d0 : Nat) (A1 B1 : Option Addr) (n1 c1 d1 : Nat) (A2 B2 : Option Addr) (n2 c2 d2 : Nat) (ok ok' : Nat → Prop) (w : World) (h0 : Sl FzR 2 ok w A0 n0 x.live) (h1 : Sl FzR 2 ok w A1 n1 x.safe) (h2 : Sl OzR 4 ok w A2 n2 x.ops) (k0 : Sl FzR 2 ok' w B0 n0 x.live) (k1 : Sl FzR 2 ok' w B1 n1 x.safe) (k2 : Sl OzR 4 ok' w B2 n2 x.ops) (hs : x.fits) :
    Calls Try.prog 28 #[.agg #[.slice A0 n0 c0, .slice A1 n1 c1, .slice A2 n2 c2], .agg #[.slice B0 n0 d0, .slice B1 n1 d1, .slice B2 n2 d2]] w fun e w' => e = .returned (.bool true) ∧ Below w.heap.size w w' := by
  have HS0 := Lib.hid hs.1
  have HS1 := Lib.hid hs.2.1
  have HS2 := Lib.hid hs.2.2
  clear hs
  have ra := (Row.new w 27 #[.slice A0 n0 c0, .slice A1 n1 c1, .slice A2 n2 c2]).alloc (.cells #[.slice B0 n0 d0, .slice B1 n1 d1, .slice B2 n2 d2] 27)
  have rb := Row.newAt (w.alloc (.cells #[.slice A0 n0 c0, .slice A1 n1 c1, .slice A2 n2 c2] 27)) 27 #[.slice B0 n0 d0, .slice B1 n1 d1, .slice B2 n2 d2] (w.heap.size + 1) (by simp)
  have hb0 := ((Below.refl w.heap.size w).alloc (Nat.le_refl _) (.cells #[.slice A0 n0 c0, .slice A1 n1 c1, .slice A2 n2 c2] 27)).alloc (by simp) (.cells #[.slice B0 n0 d0, .slice B1 n1 d1, .slice B2 n2 d2] 27)
  go_enter Try.func28, Try.ntmps28
  go_wp2_with fail
  generalize (w.alloc (.cells #[.slice A0 n0 c0, .slice A1 n1 c1, .slice A2 n2 c2] 27)).alloc (.cells #[.slice B0 n0 d0, .slice B1 n1 d1, .slice B2 n2 d2] 27) = x0 at *
  refine (lawsEqFileM A0 B0 n0 c0 d0 x.live ok ok' _ (h0.below FzR.stays hb0) (k0.below FzR.stays hb0) HS0.out).mono ?_
  rintro e w1 ⟨rfl, hc0⟩
  have ra := ra.below hc0
  have rb := rb.below hc0
  have hb1 := hb0.trans (hc0.mono hb0.size)
  obtain ⟨⟨a_0_0, a_0_1, a_0_2⟩, -⟩ := ra.three
  obtain ⟨⟨b_0_0, b_0_1, b_0_2⟩, -⟩ := rb.three
  go_wp2_with fail
  refine (lawsEqFileM A1 B1 n1 c1 d1 x.safe ok ok' _ (h1.below FzR.stays hb1) (k1.below FzR.stays hb1) HS1.out).mono ?_
  rintro e w2 ⟨rfl, hc1⟩
  have ra := ra.below hc1
  have rb := rb.below hc1
  have hb2 := hb1.trans (hc1.mono hb1.size)
  obtain ⟨⟨a_1_0, a_1_1, a_1_2⟩, -⟩ := ra.three
  obtain ⟨⟨b_1_0, b_1_1, b_1_2⟩, -⟩ := rb.three
  go_wp2_with fail
  refine (lawsEqDOpM A2 B2 n2 c2 d2 x.ops ok ok' _ (h2.below OzR.stays hb2) (k2.below OzR.stays hb2) HS2.out).mono ?_
  rintro e w3 ⟨rfl, hc2⟩
  have ra := ra.below hc2
  have rb := rb.below hc2
  have hb3 := hb2.trans (hc2.mono hb2.size)
  obtain ⟨⟨a_2_0, a_2_1, a_2_2⟩, -⟩ := ra.three
  obtain ⟨⟨b_2_0, b_2_1, b_2_2⟩, -⟩ := rb.three
  go_wp2_with fail
  go_ret
  exact ⟨rfl, hb3⟩

set_option maxRecDepth 100000 in
set_option maxHeartbeats 1000000 in
theorem marksDisk (A0 : Option Addr) (n0 c0 : Nat) (A1 : Option Addr) (n1 c1 : Nat) (A2 : Option Addr) (n2 c2 : Nat) (m0 m1 m2 : List Nat) (ok : Nat → Prop) (B E k : Nat) (w : World) (h0 : Sl (ShF 2) 2 ok w A0 n0 m0) (h1 : Sl (ShF 2) 2 ok w A1 n1 m1) (h2 : Sl (ShF 4) 4 ok w A2 n2 m2) (hm : mayMark B E w ok) (hk : k + m0.sum + m1.sum + m2.sum ≤ 1073741824) (hn : n0 ≤ 1048576 ∧ n1 ≤ 1048576 ∧ n2 ≤ 1048576) {x : Int} (hx : x = k) :
    Calls Try.prog 31 #[.agg #[.slice A0 n0 c0, .slice A1 n1 c1, .slice A2 n2 c2], .int .i64 x] w fun e w' => e = .returned (.int .i64 ((k + m0.sum + m1.sum + m2.sum : Nat) : Int)) ∧ Kept B E w w' := by
  subst hx
  have ra := Row.new w 27 #[.slice A0 n0 c0, .slice A1 n1 c1, .slice A2 n2 c2]
  have hb0 := (Below.refl w.heap.size w).alloc (Nat.le_refl _) (.cells #[.slice A0 n0 c0, .slice A1 n1 c1, .slice A2 n2 c2] 27)
  go_enter Try.func31, Try.ntmps31
  go_wp2_with fail
  generalize w.alloc (.cells #[.slice A0 n0 c0, .slice A1 n1 c1, .slice A2 n2 c2] 27) = z at *
  obtain ⟨⟨p0, p1, p2⟩, -⟩ := ra.three
  have hK0 : Kept B E w z := Kept.below hb0
  have hm := hm.kept hK0
  refine (marksFileL A0 n0 c0 m0 ok B E k _ (h0.shape (ShF.keeps 2) hK0) hm (by omega) hn.1 rfl).mono ?_
  rintro e w1 ⟨rfl, k1⟩
  have hK1 := hK0.trans k1
  have hm := hm.kept k1
  have q1 := k1.slice p1 rfl
  have q2 := k1.slice p2 rfl
  clear p0 p1 p2
  go_wp2_with fail
  refine (marksFileL A1 n1 c1 m1 ok B E (k + m0.sum) _ (h1.shape (ShF.keeps 2) hK1) hm (by omega) hn.2.1 rfl).mono ?_
  rintro e w2 ⟨rfl, k2⟩
  have hK2 := hK1.trans k2
  have hm := hm.kept k2
  have r2 := k2.slice q2 rfl
  clear q1 q2
  go_wp2_with fail
  refine (marksDOpL A2 n2 c2 m2 ok B E (k + m0.sum + m1.sum) _ (h2.shape (ShF.keeps 4) hK2) hm (by omega) hn.2.2 rfl).mono ?_
  rintro e w3 ⟨rfl, k3⟩
  have hK3 := hK2.trans k3
  go_wp2_with fail
  go_ret
  exact ⟨rfl, hK3⟩

theorem KeptL.row {bs : List Nat} {w w' : World} (h : KeptL bs w w') {g : Nat} {T : TypeId} {cs : Array Value} (hr : Row w g T cs) (hg : g ∉ bs) : Row w' g T cs := (h.block g (Array.getElem?_eq_some_iff.1 hr).1 hg).trans hr
theorem nodup3 {b0 b1 b2 : List Nat} (h : (b0 ++ b1 ++ b2).Nodup) : (∀ x ∈ b0, x ∉ b1) ∧ (∀ x ∈ b0, x ∉ b2) ∧ (∀ x ∈ b1, x ∉ b2) := by
  rw [List.append_assoc, List.nodup_append] at h
  obtain ⟨-, h1, h2⟩ := h
  rw [List.nodup_append] at h1
  refine ⟨fun x hx hx' => h2 x hx x (List.mem_append_left _ hx') rfl, fun x hx hx' => h2 x hx x (List.mem_append_right _ hx') rfl, fun x hx hx' => h1.2.2 x hx x hx' rfl⟩

set_option maxRecDepth 100000 in
set_option maxHeartbeats 1000000 in
theorem marksXDisk (A0 : Option Addr) (n0 c0 : Nat) (A1 : Option Addr) (n1 c1 : Nat) (A2 : Option Addr) (n2 c2 : Nat) (b0 b1 b2 : List Nat) (k : Nat) (w : World) (h0 : FlS 2 w A0 n0 b0) (h1 : FlS 2 w A1 n1 b1) (h2 : FlS 4 w A2 n2 b2) (hd : (b0 ++ b1 ++ b2).Nodup) (hk : k ≤ 1048576) {x : Int} (hx : x = k) :
    Calls Try.prog 31 #[.agg #[.slice A0 n0 c0, .slice A1 n1 c1, .slice A2 n2 c2], .int .i64 x] w fun e w' => e = .returned (.int .i64 ((k + n0 * 2 + n1 * 2 + n2 * 4 : Nat) : Int)) ∧ KeptL (b0 ++ b1 ++ b2) w w' ∧ FlH mkXFile 2 w' k A0 n0 b0 ∧ FlH mkXFile 2 w' (k + n0 * 2) A1 n1 b1 ∧ FlH mkXDOp 4 w' (k + n0 * 2 + n1 * 2) A2 n2 b2 := by
  subst hx
  obtain ⟨d01, d02, d12⟩ := nodup3 hd
  have lt0 : ∀ x ∈ b0, x < w.heap.size := fun x hx => (h0.2.2.1 x hx).1
  have lt1 : ∀ x ∈ b1, x < w.heap.size := fun x hx => (h1.2.2.1 x hx).1
  have lt2 : ∀ x ∈ b2, x < w.heap.size := fun x hx => (h2.2.2.1 x hx).1
  have ra := Row.new w 27 #[.slice A0 n0 c0, .slice A1 n1 c1, .slice A2 n2 c2]
  have hb0 := (Below.refl w.heap.size w).alloc (Nat.le_refl _) (.cells #[.slice A0 n0 c0, .slice A1 n1 c1, .slice A2 n2 c2] 27)
  go_enter Try.func31, Try.ntmps31
  go_wp2_with fail
  generalize w.alloc (.cells #[.slice A0 n0 c0, .slice A1 n1 c1, .slice A2 n2 c2] 27) = z at *
  obtain ⟨⟨p0, p1, p2⟩, -⟩ := ra.three
  have kz : KeptL [] w z := KeptL.below hb0
  have g0 := h0.stay kz (fun _ _ => List.not_mem_nil)
  have g1 := h1.stay kz (fun _ _ => List.not_mem_nil)
  have g2 := h2.stay kz (fun _ _ => List.not_mem_nil)
  obtain ⟨hn0, B, E, ms, s0, hm0, hK0, hF0⟩ := g0.pick mkXFile k
  obtain ⟨hn1, -⟩ := g1.pick mkXFile k
  obtain ⟨hn2, -⟩ := g2.pick mkXDOp k
  refine (marksXFileL A0 n0 c0 ms _ B E k _ s0 hm0 (by omega) hn0 rfl).mono ?_
  rintro e w1 ⟨rfl, k1, M1⟩
  have K1 := hK0 _ k1
  have F0 := hF0 _ M1
  have rb := K1.row ra (fun h => Nat.lt_irrefl _ (lt0 _ h))
  have g1 := g1.stay K1 (fun x hx hx' => d01 x hx' hx)
  have g2 := g2.stay K1 (fun x hx hx' => d02 x hx' hx)
  clear p0 p1 p2 hm0 s0 hK0 hF0 k1 M1 g0 ra
  obtain ⟨⟨p0, p1, p2⟩, -⟩ := rb.three
  obtain ⟨-, B', E', ms', s1, hm1, hK1, hF1⟩ := g1.pick mkXFile (k + n0 * 2)
  go_wp2_with fail
  refine (marksXFileL A1 n1 c1 ms' _ B' E' (k + n0 * 2) _ s1 hm1 (by omega) hn1 rfl).mono ?_
  rintro e w2 ⟨rfl, k2, M2⟩
  have K2 := hK1 _ k2
  have F1 := hF1 _ M2
  have F0 := F0.stay K2 d01
  have rc := K2.row rb (fun h => Nat.lt_irrefl _ (lt1 _ h))
  have g2 := g2.stay K2 (fun x hx hx' => d12 x hx' hx)
  clear p0 p1 p2 hm1 s1 hK1 hF1 k2 M2 g1 rb
  obtain ⟨⟨p0, p1, p2⟩, -⟩ := rc.three
  obtain ⟨-, B'', E'', ms'', s2, hm2, hK2, hF2⟩ := g2.pick mkXDOp (k + n0 * 2 + n1 * 2)
  go_wp2_with fail
  refine (marksXDOpL A2 n2 c2 ms'' _ B'' E'' (k + n0 * 2 + n1 * 2) _ s2 hm2 (by omega) hn2 rfl).mono ?_
  rintro e w3 ⟨rfl, k3, M3⟩
  have K3 := hK2 _ k3
  have F2 := hF2 _ M3
  have F0 := F0.stay K3 d02
  have F1 := F1.stay K3 d12
  have KK : KeptL (b0 ++ b1 ++ b2) w w3 := ((kz.mono (fun x hx => by simp at hx)).trans (K1.mono (fun x hx => by simp [hx]))).trans ((K2.mono (fun x hx => by simp [hx])).trans (K3.mono (fun x hx => by simp [hx])))
  clear hm2 s2 hK2 hF2 k3 M3
  go_wp2_with fail
  go_ret
  exact ⟨rfl, KK, F0, F1, F2⟩

set_option maxRecDepth 100000 in
set_option maxHeartbeats 1000000 in
theorem heldXDisk (A0 : Option Addr) (n0 c0 : Nat) (A1 : Option Addr) (n1 c1 : Nat) (A2 : Option Addr) (n2 c2 : Nat) (b0 b1 b2 : List Nat) (k : Nat) (w : World) (h0 : FlH mkXFile 2 w k A0 n0 b0) (h1 : FlH mkXFile 2 w (k + n0 * 2) A1 n1 b1) (h2 : FlH mkXDOp 4 w (k + n0 * 2 + n1 * 2) A2 n2 b2) (hk : k ≤ 1048576) {x : Int} (hx : x = k) :
    Calls Try.prog 32 #[.agg #[.slice A0 n0 c0, .slice A1 n1 c1, .slice A2 n2 c2], .int .i64 x] w fun e w' => e = .returned (.int .i64 ((k + n0 * 2 + n1 * 2 + n2 * 4 : Nat) : Int)) ∧ Below w.heap.size w w' := by
  subst hx
  have hn0 := h0.1
  have hn1 := h1.1
  have hn2 := h2.1
  have ra := Row.new w 27 #[.slice A0 n0 c0, .slice A1 n1 c1, .slice A2 n2 c2]
  have hb0 := (Below.refl w.heap.size w).alloc (Nat.le_refl _) (.cells #[.slice A0 n0 c0, .slice A1 n1 c1, .slice A2 n2 c2] 27)
  have e0 : decide (((k + n0 * 2 : Nat) : Int) < 0) = false := decide_eq_false (by omega)
  have e1 : decide (((k + n0 * 2 + n1 * 2 : Nat) : Int) < 0) = false := decide_eq_false (by omega)
  have e2 : decide (((k + n0 * 2 + n1 * 2 + n2 * 4 : Nat) : Int) < 0) = false := decide_eq_false (by omega)
  go_enter Try.func32, Try.ntmps32
  go_wp2_with fail
  generalize w.alloc (.cells #[.slice A0 n0 c0, .slice A1 n1 c1, .slice A2 n2 c2] 27) = z at *
  obtain ⟨⟨p0, p1, p2⟩, -⟩ := ra.three
  refine (heldXFileL A0 n0 c0 k _ (h0.mk.below hb0) (by omega) hn0 rfl).mono ?_
  rintro e w1 ⟨rfl, hq⟩
  have hb1 := hb0.trans (hq.mono hb0.size)
  have rb := ra.below hq
  clear p0 p1 p2 hq ra
  obtain ⟨⟨p0, p1, p2⟩, -⟩ := rb.three
  generalize hg0 : k + n0 * 2 = t0 at *
  go_wp2_with fail
  refine (heldXFileL A1 n1 c1 t0 _ (h1.mk.below hb1) (by omega) hn1 rfl).mono ?_
  rintro e w2 ⟨rfl, hq⟩
  have hb2 := hb1.trans (hq.mono hb1.size)
  have rc := rb.below hq
  clear p0 p1 p2 hq rb
  obtain ⟨⟨p0, p1, p2⟩, -⟩ := rc.three
  generalize hg1 : t0 + n1 * 2 = t1 at *
  go_wp2_with fail
  refine (heldXDOpL A2 n2 c2 t1 _ (h2.mk.below hb2) (by omega) hn2 rfl).mono ?_
  rintro e w3 ⟨rfl, hq⟩
  have hb3 := hb2.trans (hq.mono hb2.size)
  generalize hg2 : t1 + n2 * 4 = t2 at *
  go_wp2_with fail
  go_ret
  exact ⟨retI (by rw [← hg2, ← hg1, ← hg0]), hb3⟩

section
variable {α : Type} {T : TypeId} {sz : Nat} {f : α → List Value}
/-- The block of a list of a call's own, if it has one. -/
def blkL (v : Value) : List Nat := match v.ownBlock with | some g => [g] | none => []
theorem mem_blkL {v : Value} {b : Nat} : b ∈ blkL v ↔ v.ownBlock = some b := by
  unfold blkL
  cases v.ownBlock with
  | none => simp
  | some g => simp; exact eq_comm
theorem OwnG.fl (hf : ∀ d, (f d).length = sz) (hn : ∀ d, ∀ (j : Nat) (v : Value), (f d)[j]? = some v → isSl v = false) {w : World} {base : Nat} {v : Value} {xs : List α} (h : OwnG T sz f w base v xs) (hl : xs.length ≤ 1048576) : ∃ A c, v = .slice A xs.length c ∧ Sl (FlatR f) sz (okF base w) w A xs.length xs ∧ FlS sz w A xs.length (blkL v) := by
  obtain ⟨A, c, e, -, -, hs⟩ := h.sl hf
  subst e
  refine ⟨A, c, rfl, hs, ?_, hl, fun b hb => ?_, (xs.map fun _ => sz), ?_⟩
  · unfold blkL; split <;> simp
  · have hb' := mem_blkL.1 hb
    refine ⟨(OwnG.block_lt h b hb').2, fun off => ?_⟩
    rcases h.2 with ⟨e, -⟩ | ⟨g, cap, cur, e, h1, h2, -⟩
    · injection e with e; subst e; cases hb'
    · injection e with e
      subst e
      have : g = b := by simpa [Value.ownBlock] using hb'
      subst this
      simp [World.frozen?, h2]
  · refine ⟨by simp, fun h0 => ?_⟩
    obtain ⟨b, off, e, hb, hi⟩ := hs.2 h0
    refine ⟨b, off, e, mem_blkL.2 (by subst e; rfl), fun i hlt => ?_⟩
    obtain ⟨cs, h1, h2, h3⟩ := hi i (by simpa using hlt)
    have e2 : cs = f _ := h2
    refine ⟨cs, h1, ⟨h1, fun j u hu => by rw [e2] at hu; exact hn _ j u hu, by simp⟩, h3⟩
end
theorem Dis.types {α β : Type} {T T' : TypeId} {sz sz' : Nat} {f : α → List Value} {f' : β → List Value} {w : World} {base base' : Nat} {v u : Value} {xs : List α} {ys : List β} (h : OwnG T sz f w base v xs) (h' : OwnG T' sz' f' w base' u ys) (hne : T ≠ T') : Dis v u := fun k hk e => by
  rcases h.2 with ⟨rfl, -⟩ | ⟨g, cap, cur, rfl, h1, h2, -⟩
  · cases hk
  rcases h'.2 with ⟨rfl, -⟩ | ⟨g', cap', cur', rfl, h1', h2', -⟩
  · cases e
  have e1 : g = k := by simpa [Value.ownBlock] using hk
  have e2 : g' = k := by simpa [Value.ownBlock] using e
  subst e1 e2
  rw [h2] at h2'
  injection h2' with h3
  injection h3 with _ h3 _
  exact hne h3
theorem fz_nosl : ∀ d : Fz, ∀ (j : Nat) (v : Value), (Fz.cells d)[j]? = some v → isSl v = false := fun d j v hv => by
  have hj : j < 2 := (List.getElem?_eq_some_iff.1 hv).1
  have : j = 0 ∨ j = 1 := by omega
  rcases this with rfl | rfl <;> (obtain rfl := Option.some.inj hv; rfl)
theorem oz_nosl : ∀ d : Oz, ∀ (j : Nat) (v : Value), (Oz.cells d)[j]? = some v → isSl v = false := fun d j v hv => by
  have hj : j < 4 := (List.getElem?_eq_some_iff.1 hv).1
  have : j = 0 ∨ j = 1 ∨ j = 2 ∨ j = 3 := by omega
  rcases this with rfl | rfl | rfl | rfl <;> (obtain rfl := Option.some.inj hv; rfl)
/-- A disk of a call's own: how it reads, and how it may be marked. -/
theorem DzA.open_ {w : World} {base : Nat} {v : Value} {x : Dz} (h : DzA w base v x) (hf : x.fits) : ∃ (A0 : Option Addr) (c0 : Nat) (A1 : Option Addr) (c1 : Nat) (A2 : Option Addr) (c2 : Nat) (b0 b1 b2 : List Nat), v = .agg #[.slice A0 x.live.length c0, .slice A1 x.safe.length c1, .slice A2 x.ops.length c2] ∧
    Sl FzR 2 (okF base w) w A0 x.live.length x.live ∧ Sl FzR 2 (okF base w) w A1 x.safe.length x.safe ∧ Sl OzR 4 (okF base w) w A2 x.ops.length x.ops ∧
    FlS 2 w A0 x.live.length b0 ∧ FlS 2 w A1 x.safe.length b1 ∧ FlS 4 w A2 x.ops.length b2 ∧ (b0 ++ b1 ++ b2).Nodup ∧ ∀ b ∈ b0 ++ b1 ++ b2, base ≤ b ∧ b < w.heap.size := by
  obtain ⟨v0, v1, v2, rfl, k0, k1, k2, hd⟩ := h
  have d02 : Dis v0 v2 := Dis.types k0 k2 (by decide)
  have d12 : Dis v1 v2 := Dis.types k1 k2 (by decide)
  obtain ⟨A0, c0, e0, s0, f0⟩ := OwnG.fl fz_cells fz_nosl k0 hf.1.1
  obtain ⟨A1, c1, e1, s1, f1⟩ := OwnG.fl fz_cells fz_nosl k1 hf.2.1.1
  obtain ⟨A2, c2, e2, s2, f2⟩ := OwnG.fl oz_cells oz_nosl k2 hf.2.2.1
  have hb : ∀ v, (blkL v).Nodup := fun v => by unfold blkL; split <;> simp
  refine ⟨A0, c0, A1, c1, A2, c2, blkL v0, blkL v1, blkL v2, by rw [e0, e1, e2], s0, s1, s2, f0, f1, f2, ?_, fun b hb => ?_⟩
  · rw [List.append_assoc, List.nodup_append]
    refine ⟨hb _, List.nodup_append.2 ⟨hb _, hb _, fun a ha b hb e => ?_⟩, fun a ha b hb e => ?_⟩
    · subst e; exact d12 _ (mem_blkL.1 ha) (mem_blkL.1 hb)
    · subst e
      rcases List.mem_append.1 hb with hb | hb
      · exact hd _ (mem_blkL.1 ha) (mem_blkL.1 hb)
      · exact d02 _ (mem_blkL.1 ha) (mem_blkL.1 hb)
  · rcases List.mem_append.1 hb with hb | hb
    · rcases List.mem_append.1 hb with hb | hb
      · exact OwnG.block_lt k0 b (mem_blkL.1 hb)
      · exact OwnG.block_lt k1 b (mem_blkL.1 hb)
    · exact OwnG.block_lt k2 b (mem_blkL.1 hb)
end Go.Proofs.Ytkinegapnknhiaa
namespace Go.Proofs.Ytkinegapnknhiaa
open Go.RowKit Go.Maps
set_option linter.unusedVariables false
set_option linter.unusedSimpArgs false

/-- What an op on a right disk is refused for. -/
def codeD (x : Dz) (o : Oz) : Int := if formB o then (if (doF x.live o).2 then (if x.ops.length = 200 then 4 else if filesB (doF x.live o).1 then 0 else 4) else 3) else 2
/-- The disk behind an op. -/
def actD (x : Dz) (o : Oz) : Dz := if codeD x o = 0 then ⟨(doF x.live o).1, x.safe, x.ops ++ [o]⟩ else x
theorem codeD_form {x : Dz} {o : Oz} (h : formB o = false) : codeD x o = 2 ∧ actD x o = x := by
  have e : codeD x o = 2 := by unfold codeD; rw [h]; rfl
  exact ⟨e, by unfold actD; rw [e]; rfl⟩
theorem codeD_none {x : Dz} {o : Oz} (h : formB o = true) (hd : (doF x.live o).2 = false) : codeD x o = 3 ∧ actD x o = x := by
  have e : codeD x o = 3 := by unfold codeD; rw [h, hd]; rfl
  exact ⟨e, by unfold actD; rw [e]; rfl⟩
theorem codeD_many {x : Dz} {o : Oz} (h : formB o = true) (hd : (doF x.live o).2 = true) (hm : x.ops.length = 200) : codeD x o = 4 ∧ actD x o = x := by
  have e : codeD x o = 4 := by unfold codeD; rw [h, hd, if_pos hm]; rfl
  exact ⟨e, by unfold actD; rw [e]; rfl⟩
theorem codeD_full {x : Dz} {o : Oz} (h : formB o = true) (hd : (doF x.live o).2 = true) (hr : filesB (doF x.live o).1 = false) : codeD x o = 4 ∧ actD x o = x := by
  have e : codeD x o = 4 := by unfold codeD; rw [h, hd, hr]; simp
  exact ⟨e, by unfold actD; rw [e]; rfl⟩
theorem codeD_ok {x : Dz} {o : Oz} (h : formB o = true) (hd : (doF x.live o).2 = true) (hm : x.ops.length ≠ 200) (hr : filesB (doF x.live o).1 = true) : codeD x o = 0 ∧ actD x o = ⟨(doF x.live o).1, x.safe, x.ops ++ [o]⟩ := by
  have e : codeD x o = 0 := by unfold codeD; rw [h, hd, hr, if_neg hm]; rfl
  exact ⟨e, by unfold actD; rw [if_pos e]⟩
theorem results_cell_row2 {P : Program} {fn : Func} {p u : Tmp} {ty : TypeId} (h : fn.results = #[.cell p ty, .tmp u]) (tmps : Array Value) (w : World) (g : Nat) (t : TypeId) (cs : Array Value) (fr : Nat × Nat) (d : TypeDesc)
    (hp : tmps.getD p undef = .pointer (some ⟨g, 0, none⟩)) {r : Value} (hr : tmps.getD u undef = r) (hg : w.heap[g]? = some (.cells cs t fr))
    (hu : P.underlying ty = some d) (hd : (match d with | .struct _ | .array _ _ => true | _ => false) = true) (hi : (P.info? ty).map (·.size) = some cs.size) :
    (results fn tmps).run P w = .ok (.tuple #[.agg cs, r]) w := by
  rw [results_cell_tmp h, hp, hr]
  simp [asAddr, run_loadVar_row w g t ty cs fr d hg hu hd hi]
theorem OwnG.setNe {α : Type} {T : TypeId} {sz : Nat} {f : α → List Value} {w : World} {base : Nat} {v : Value} {xs : List α} (h : OwnG T sz f w base v xs) {p : Addr} (hp : v.ownBlock ≠ some p.block) (u : Value) : OwnG T sz f (w.setCell p u) base v xs :=
  World.ownsRow.kept h (row := some p.block) ⟨rfl, rfl, rfl, by simp [World.setCell], fun k _ hne => Below.heap_setCell _ _ _ _ (fun e => hne (by rw [e]))⟩ (Or.inr hp)
theorem OwnG.far {α : Type} {T : TypeId} {sz : Nat} {f : α → List Value} {w : World} {base : Nat} {v : Value} {xs : List α} (h : OwnG T sz f w base v xs) {g : Nat} (hg : w.heap.size ≤ g) : v.ownBlock ≠ some g := fun e => by
  have := (OwnG.block_lt h g e).2; omega
theorem box3 (w : World) (a b c : Obj) : Below w.heap.size w (((w.alloc a).alloc b).alloc c) ∧ w.heap.size + 3 ≤ (((w.alloc a).alloc b).alloc c).heap.size := ⟨(((Below.refl w.heap.size w).alloc (Nat.le_refl _) a).alloc (by simp) b).alloc (by simp <;> omega) c, by simp⟩

set_option maxRecDepth 100000 in
set_option maxHeartbeats 2000000 in
theorem specAct (x : Dz) (o : Oz) (A0 : Option Addr) (n0 c0 : Nat) (A1 : Option Addr) (n1 c1 : Nat) (A2 : Option Addr) (n2 c2 : Nat) (ok : Nat → Prop) (w : World) (h0 : Sl FzR 2 ok w A0 n0 x.live) (h1 : Sl FzR 2 ok w A1 n1 x.safe) (h2 : Sl OzR 4 ok w A2 n2 x.ops) (hr : filesB x.live = true ∧ x.safe.length ≤ 1048576 ∧ x.ops.length ≤ 1048575) (ho : o.data.size ≤ 268435456) :
    Calls Try.prog 58 #[.agg #[.slice A0 n0 c0, .slice A1 n1 c1, .slice A2 n2 c2], .agg #[.int .i64 o.kind, .string o.name, .string o.to, .string o.data]] w fun e w' => (∃ v, e = .returned (.tuple #[v, .int .i64 (codeD x o)]) ∧ DzA w' w.heap.size v (actD x o)) ∧ Below w.heap.size w w' := by
  obtain ⟨hx, hwz⟩ := box3 w (.cells #[.slice A0 n0 c0, .slice A1 n1 c1, .slice A2 n2 c2] 27) (.cells #[.int .i64 o.kind, .string o.name, .string o.to, .string o.data] 36) (.cells #[.slice none 0 0, .slice none 0 0, .slice none 0 0] 27)
  have ra := ((Row.new w 27 #[.slice A0 n0 c0, .slice A1 n1 c1, .slice A2 n2 c2]).alloc (.cells #[.int .i64 o.kind, .string o.name, .string o.to, .string o.data] 36)).alloc (.cells #[.slice none 0 0, .slice none 0 0, .slice none 0 0] 27)
  have ro := (Row.newAt (w.alloc (.cells #[.slice A0 n0 c0, .slice A1 n1 c1, .slice A2 n2 c2] 27)) 36 #[.int .i64 o.kind, .string o.name, .string o.to, .string o.data] (w.heap.size + 1) (by simp)).alloc (.cells #[.slice none 0 0, .slice none 0 0, .slice none 0 0] 27)
  have rb := Row.newAt ((w.alloc (.cells #[.slice A0 n0 c0, .slice A1 n1 c1, .slice A2 n2 c2] 27)).alloc (.cells #[.int .i64 o.kind, .string o.name, .string o.to, .string o.data] 36)) 27 #[.slice none 0 0, .slice none 0 0, .slice none 0 0] (w.heap.size + 2) (by simp)
  have HI := Lib.hid infoDisk
  obtain ⟨j0, hi, hz0, hz1, hz2⟩ := info_parts infoDOpT
  have J1 := Lib.hid hi
  have J2 := Lib.hid hz0
  have J3 := Lib.hid hz1
  have J4 := Lib.hid hz2
  clear hi hz0 hz1 hz2
  go_enter Try.func58, Try.ntmps58
  go_wp2_with fail
  generalize ((w.alloc (.cells #[.slice A0 n0 c0, .slice A1 n1 c1, .slice A2 n2 c2] 27)).alloc (.cells #[.int .i64 o.kind, .string o.name, .string o.to, .string o.data] 36)).alloc (.cells #[.slice none 0 0, .slice none 0 0, .slice none 0 0] 27) = z at *
  obtain rfl : x.live.length = n0 := h0.1
  obtain rfl : x.safe.length = n1 := h1.1
  obtain rfl : x.ops.length = n2 := h2.1
  have hfl := filesB_bytes hr.1
  have HL := Lib.hid (show x.live.length ≤ 1048576 ∧ x.safe.length ≤ 1048576 ∧ x.ops.length ≤ 1048576 from ⟨by omega, hr.2.1, by have := hr.2.2; omega⟩)
  have HBY := Lib.hid (doF_bytes x.live o)
  have HOL := Lib.hid hr.2.2
  have HFL := Lib.hid hfl
  clear hr hfl
  obtain ⟨⟨s0, s1, s2, s3⟩, -⟩ := ro.all4
  refine (specForm14 o _).mono ?_
  rintro e w1 ⟨rfl, hq⟩
  clear s0 s1 s2 s3
  have hx := hx.trans (hq.mono hx.size)
  have hwz := Nat.le_trans hwz hq.size
  have ra := ra.below hq
  have ro := ro.below hq
  have rb := rb.below hq
  obtain ⟨⟨p0, p1, p2⟩, -⟩ := ra.three
  obtain ⟨⟨s0, s1, s2, s3⟩, -⟩ := ro.all4
  obtain ⟨⟨r0, r1, r2⟩, ⟨f0, f1, f2⟩⟩ := rb.three
  cases e0 : formB o
  · have HA := Lib.hid (codeD_form (x := x) e0)
    go_wp2_with fail
    refine (specCopy x A0 _ c0 A1 _ c1 A2 _ c2 _ _ (h0.below FzR.stays hx) (h1.below FzR.stays hx) (h2.below OzR.stays hx) HL.out).mono ?_
    rintro e w9 ⟨⟨v, rfl, hv⟩, hb⟩
    have hxe := hx.trans (hb.mono hx.size)
    have RR := Lib.hid (rb.below hb)
    have HV := Lib.hid (hv.mono (base' := w.heap.size + 3) hwz)
    obtain ⟨v0, v1, v2, rfl, k0, k1, k2, -⟩ := hv
    obtain ⟨B0, d0, rfl, -⟩ := k0.sl
    obtain ⟨B1, d1, rfl, -⟩ := k1.sl
    obtain ⟨B2, d2, rfl, -⟩ := k2.sl
    clear p0 p1 p2 s0 s1 s2 s3 r0 r1 r2 f0 f1 f2 k0 k1 k2 hb
    have rr := RR.out
    obtain ⟨⟨r0, r1, r2⟩, ⟨f0, f1, f2⟩⟩ := rr.three
    clear rr
    go_wp2_with fail
    have hr9 := (((RR.out).set 0 (.slice B0 x.live.length d0)).set 1 (.slice B1 x.safe.length d1)).set 2 (.slice B2 x.ops.length d2)
    refine bodyPost_ret (results_cell_row2 (p := 4) (u := 5) (ty := 27) rfl _ _ (w.heap.size + 2) 27 #[.slice B0 x.live.length d0, .slice B1 x.safe.length d1, .slice B2 x.ops.length d2] (0, 0) _ rfl rfl hr9 Try.underlying27 rfl HI.out) rfl ⟨⟨.agg #[.slice B0 x.live.length d0, .slice B1 x.safe.length d1, .slice B2 x.ops.length d2], ?_, ?_⟩, ?_⟩
    · rw [HA.out.1]; rfl
    · refine DzA.mono (base := w.heap.size + 3) ?_ (by omega)
      rw [HA.out.2]
      refine DzA.set (DzA.set (DzA.set (HV.out) ?_ _) ?_ _) ?_ _ <;> (exact Nat.lt_succ_self _)
    · exact ((hxe.setCell (Nat.le_add_right _ 2) _).setCell (Nat.le_add_right _ 2) _).setCell (Nat.le_add_right _ 2) _
  have E0 := Lib.hid e0
  have HZ1 := Lib.hid hwz
  clear e0
  go_wp2_with fail
  refine (specDo14 A0 _ c0 x.live o _ _ (h0.below FzR.stays hx) (by have := HFL.out; omega) (by have := HFL.out; omega) ho).mono ?_
  rintro e w2 ⟨v, rfl, hv, hq2⟩
  obtain ⟨N0, e0, rfl, -, -, hsl⟩ := (show OwnZ w2 _ v _ from hv).sl
  have HN := Lib.hid hv
  clear hv
  have hx := hx.trans (hq2.mono hx.size)
  have hwz := Nat.le_trans hwz hq2.size
  have ra := ra.below hq2
  have ro := ro.below hq2
  have rb := rb.below hq2
  clear p0 p1 p2 s0 s1 s2 s3 r0 r1 r2 f0 f1 f2
  obtain ⟨⟨p0, p1, p2⟩, -⟩ := ra.three
  obtain ⟨⟨s0, s1, s2, s3⟩, -⟩ := ro.all4
  obtain ⟨⟨r0, r1, r2⟩, ⟨f0, f1, f2⟩⟩ := rb.three
  cases e1 : (doF x.live o).2
  · have HA := Lib.hid (codeD_none (x := x) E0.out e1)
    go_wp2_with fail
    refine (specCopy x A0 _ c0 A1 _ c1 A2 _ c2 _ _ (h0.below FzR.stays hx) (h1.below FzR.stays hx) (h2.below OzR.stays hx) HL.out).mono ?_
    rintro e w9 ⟨⟨v, rfl, hv⟩, hb⟩
    have hxe := hx.trans (hb.mono hx.size)
    have RR := Lib.hid (rb.below hb)
    have HV := Lib.hid (hv.mono (base' := w.heap.size + 3) hwz)
    obtain ⟨v0, v1, v2, rfl, k0, k1, k2, -⟩ := hv
    obtain ⟨B0, d0, rfl, -⟩ := k0.sl
    obtain ⟨B1, d1, rfl, -⟩ := k1.sl
    obtain ⟨B2, d2, rfl, -⟩ := k2.sl
    clear p0 p1 p2 s0 s1 s2 s3 r0 r1 r2 f0 f1 f2 k0 k1 k2 hb
    have rr := RR.out
    obtain ⟨⟨r0, r1, r2⟩, ⟨f0, f1, f2⟩⟩ := rr.three
    clear rr
    go_wp2_with fail
    have hr9 := (((RR.out).set 0 (.slice B0 x.live.length d0)).set 1 (.slice B1 x.safe.length d1)).set 2 (.slice B2 x.ops.length d2)
    refine bodyPost_ret (results_cell_row2 (p := 4) (u := 5) (ty := 27) rfl _ _ (w.heap.size + 2) 27 #[.slice B0 x.live.length d0, .slice B1 x.safe.length d1, .slice B2 x.ops.length d2] (0, 0) _ rfl rfl hr9 Try.underlying27 rfl HI.out) rfl ⟨⟨.agg #[.slice B0 x.live.length d0, .slice B1 x.safe.length d1, .slice B2 x.ops.length d2], ?_, ?_⟩, ?_⟩
    · rw [HA.out.1]; rfl
    · refine DzA.mono (base := w.heap.size + 3) ?_ (by omega)
      rw [HA.out.2]
      refine DzA.set (DzA.set (DzA.set (HV.out) ?_ _) ?_ _) ?_ _ <;> (exact Nat.lt_succ_self _)
    · exact ((hxe.setCell (Nat.le_add_right _ 2) _).setCell (Nat.le_add_right _ 2) _).setCell (Nat.le_add_right _ 2) _
  have E1 := Lib.hid e1
  clear e1
  by_cases h200 : x.ops.length = 200
  · have h200' : decide ((x.ops.length : Int) = 200) = true := decide_eq_true (by omega)
    have h2b : ((x.ops.length : Int) == 200) = true := by simpa using (show (x.ops.length : Int) = 200 by omega)
    have HA := Lib.hid (codeD_many (x := x) E0.out E1.out h200)
    clear h200
    go_wp2_with fail
    refine (specCopy x A0 _ c0 A1 _ c1 A2 _ c2 _ _ (h0.below FzR.stays hx) (h1.below FzR.stays hx) (h2.below OzR.stays hx) HL.out).mono ?_
    rintro e w9 ⟨⟨v, rfl, hv⟩, hb⟩
    have hxe := hx.trans (hb.mono hx.size)
    have RR := Lib.hid (rb.below hb)
    have HV := Lib.hid (hv.mono (base' := w.heap.size + 3) hwz)
    obtain ⟨v0, v1, v2, rfl, k0, k1, k2, -⟩ := hv
    obtain ⟨B0, d0, rfl, -⟩ := k0.sl
    obtain ⟨B1, d1, rfl, -⟩ := k1.sl
    obtain ⟨B2, d2, rfl, -⟩ := k2.sl
    clear p0 p1 p2 s0 s1 s2 s3 r0 r1 r2 f0 f1 f2 k0 k1 k2 hb
    have rr := RR.out
    obtain ⟨⟨r0, r1, r2⟩, ⟨f0, f1, f2⟩⟩ := rr.three
    clear rr
    go_wp2_with fail
    have hr9 := (((RR.out).set 0 (.slice B0 x.live.length d0)).set 1 (.slice B1 x.safe.length d1)).set 2 (.slice B2 x.ops.length d2)
    refine bodyPost_ret (results_cell_row2 (p := 4) (u := 5) (ty := 27) rfl _ _ (w.heap.size + 2) 27 #[.slice B0 x.live.length d0, .slice B1 x.safe.length d1, .slice B2 x.ops.length d2] (0, 0) _ rfl rfl hr9 Try.underlying27 rfl HI.out) rfl ⟨⟨.agg #[.slice B0 x.live.length d0, .slice B1 x.safe.length d1, .slice B2 x.ops.length d2], ?_, ?_⟩, ?_⟩
    · rw [HA.out.1]; rfl
    · refine DzA.mono (base := w.heap.size + 3) ?_ (by omega)
      rw [HA.out.2]
      refine DzA.set (DzA.set (DzA.set (HV.out) ?_ _) ?_ _) ?_ _ <;> (exact Nat.lt_succ_self _)
    · exact ((hxe.setCell (Nat.le_add_right _ 2) _).setCell (Nat.le_add_right _ 2) _).setCell (Nat.le_add_right _ 2) _
  have H200 := Lib.hid h200
  have h2a : decide ((x.ops.length : Int) = 200) = false := decide_eq_false (by omega)
  have h2b : ((x.ops.length : Int) == 200) = false := by simpa using (show ¬ (x.ops.length : Int) = 200 by omega)
  clear h200
  go_wp2_with fail
  refine (specFiles14 N0 _ e0 (doF x.live o).1 _ _ hsl (by have := HBY.out; have := HFL.out; omega)).mono ?_
  rintro e w3 ⟨rfl, hq3⟩
  have HN := Lib.hid (OwnG.below HN.out hq3)
  clear hsl
  have hx := hx.trans (hq3.mono hx.size)
  have hwz := Nat.le_trans hwz hq3.size
  have ra := ra.below hq3
  have ro := ro.below hq3
  have rb := rb.below hq3
  clear p0 p1 p2 s0 s1 s2 s3 r0 r1 r2 f0 f1 f2
  obtain ⟨⟨p0, p1, p2⟩, -⟩ := ra.three
  obtain ⟨⟨s0, s1, s2, s3⟩, -⟩ := ro.all4
  obtain ⟨⟨r0, r1, r2⟩, ⟨f0, f1, f2⟩⟩ := rb.three
  cases e2 : filesB (doF x.live o).1
  · have HA := Lib.hid (codeD_full (x := x) E0.out E1.out e2)
    go_wp2_with fail
    refine (specCopy x A0 _ c0 A1 _ c1 A2 _ c2 _ _ (h0.below FzR.stays hx) (h1.below FzR.stays hx) (h2.below OzR.stays hx) HL.out).mono ?_
    rintro e w9 ⟨⟨v, rfl, hv⟩, hb⟩
    have hxe := hx.trans (hb.mono hx.size)
    have RR := Lib.hid (rb.below hb)
    have HV := Lib.hid (hv.mono (base' := w.heap.size + 3) hwz)
    obtain ⟨v0, v1, v2, rfl, k0, k1, k2, -⟩ := hv
    obtain ⟨B0, d0, rfl, -⟩ := k0.sl
    obtain ⟨B1, d1, rfl, -⟩ := k1.sl
    obtain ⟨B2, d2, rfl, -⟩ := k2.sl
    clear p0 p1 p2 s0 s1 s2 s3 r0 r1 r2 f0 f1 f2 k0 k1 k2 hb
    have rr := RR.out
    obtain ⟨⟨r0, r1, r2⟩, ⟨f0, f1, f2⟩⟩ := rr.three
    clear rr
    go_wp2_with fail
    have hr9 := (((RR.out).set 0 (.slice B0 x.live.length d0)).set 1 (.slice B1 x.safe.length d1)).set 2 (.slice B2 x.ops.length d2)
    refine bodyPost_ret (results_cell_row2 (p := 4) (u := 5) (ty := 27) rfl _ _ (w.heap.size + 2) 27 #[.slice B0 x.live.length d0, .slice B1 x.safe.length d1, .slice B2 x.ops.length d2] (0, 0) _ rfl rfl hr9 Try.underlying27 rfl HI.out) rfl ⟨⟨.agg #[.slice B0 x.live.length d0, .slice B1 x.safe.length d1, .slice B2 x.ops.length d2], ?_, ?_⟩, ?_⟩
    · rw [HA.out.1]; rfl
    · refine DzA.mono (base := w.heap.size + 3) ?_ (by omega)
      rw [HA.out.2]
      refine DzA.set (DzA.set (DzA.set (HV.out) ?_ _) ?_ _) ?_ _ <;> (exact Nat.lt_succ_self _)
    · exact ((hxe.setCell (Nat.le_add_right _ 2) _).setCell (Nat.le_add_right _ 2) _).setCell (Nat.le_add_right _ 2) _
  have HA := Lib.hid (codeD_ok (x := x) E0.out E1.out H200.out e2)
  clear e2
  have LTN0 := (OwnG.block_lt HN.out)
  have HZ3 := Lib.hid hwz
  go_wp2_with fail
  refine (specCopy x A0 _ c0 A1 _ c1 A2 _ c2 _ _ (h0.below FzR.stays hx) (h1.below FzR.stays hx) (h2.below OzR.stays hx) HL.out).mono ?_
  rintro e w4 ⟨⟨v, rfl, hv⟩, hq⟩
  have HN := Lib.hid (OwnG.below HN.out hq)
  have LTN := Lib.hid LTN0
  have hx := hx.trans (hq.mono hx.size)
  have hwz := Nat.le_trans hwz hq.size
  have ro := ro.below hq
  have rb := rb.below hq
  obtain ⟨v0, v1, v2, rfl, k0, k1, k2, -⟩ := hv
  obtain ⟨B0, d0, rfl, -⟩ := k0.sl
  have K1 := Lib.hid k1
  have K2 := Lib.hid k2
  obtain ⟨B1, d1, rfl, -⟩ := k1.sl
  obtain ⟨B2, d2, rfl, -⟩ := k2.sl
  have hal5 := (Below.refl w4.heap.size w4).alloc (Nat.le_refl _) (.cells #[.slice N0 (doF x.live o).1.length e0, .slice B1 x.safe.length d1, .slice B2 x.ops.length d2] 27)
  have hal6 := hal5.alloc hal5.size (.cells #[.int .i64 o.kind, .string o.name, .string o.to, .string o.data] 36)
  have hsz5 : w4.heap.size < (w4.alloc (.cells #[.slice N0 (doF x.live o).1.length e0, .slice B1 x.safe.length d1, .slice B2 x.ops.length d2] 27)).heap.size := by simp
  have hsz6 : w4.heap.size < ((w4.alloc (.cells #[.slice N0 (doF x.live o).1.length e0, .slice B1 x.safe.length d1, .slice B2 x.ops.length d2] 27)).alloc (.cells #[.int .i64 o.kind, .string o.name, .string o.to, .string o.data] 36)).heap.size := by simp; omega
  have ro := ro.alloc (.cells #[.slice N0 (doF x.live o).1.length e0, .slice B1 x.safe.length d1, .slice B2 x.ops.length d2] 27)
  have rt := (Row.new w4 27 #[.slice N0 (doF x.live o).1.length e0, .slice B1 x.safe.length d1, .slice B2 x.ops.length d2]).alloc (.cells #[.int .i64 o.kind, .string o.name, .string o.to, .string o.data] 36)
  have rb6 := (rb.alloc (.cells #[.slice N0 (doF x.live o).1.length e0, .slice B1 x.safe.length d1, .slice B2 x.ops.length d2] 27)).alloc (.cells #[.int .i64 o.kind, .string o.name, .string o.to, .string o.data] 36)
  have HN6 := Lib.hid (OwnG.below HN.out hal6)
  have K16 := Lib.hid (OwnG.below K1.out hal6)
  have K26 := Lib.hid (OwnG.below K2.out hal6)
  have K25 := Lib.hid (OwnG.below K2.out hal5)
  have D2N := Lib.hid (Dis.types K26.out HN6.out (by decide))
  have D21 := Lib.hid (Dis.types K26.out K16.out (by decide))
  have FN := Lib.hid (OwnG.far HN.out (Nat.le_refl _))
  have F1 := Lib.hid (OwnG.far K1.out (Nat.le_refl _))
  have F2 := Lib.hid (OwnG.far K2.out (Nat.le_refl _))
  have hdN : Dis (.slice N0 (doF x.live o).1.length e0) (.slice B1 x.safe.length d1) := fun k hk e => by have h1 := (LTN.out k hk).2; have h2 := (OwnG.block_lt K1.out k e).1; omega
  have HDN := Lib.hid hdN
  have hx6 := (hx.alloc hx.size (.cells #[.slice N0 (doF x.live o).1.length e0, .slice B1 x.safe.length d1, .slice B2 x.ops.length d2] 27)).alloc (Nat.le_trans hx.size hal5.size) (.cells #[.int .i64 o.kind, .string o.name, .string o.to, .string o.data] 36)
  have HX6 := Lib.hid hx6
  have HS4 := Lib.hid hq.size
  have HS6 := Lib.hid hsz6
  clear k0 k1 k2 p0 p1 p2 s0 s1 s2 s3 r0 r1 r2 f0 f1 f2 ra hdN hx6 hal5 hal6
  obtain ⟨⟨s0, s1, s2, s3⟩, -⟩ := ro.all4
  go_wp2_with (at_builtin; refine wpList_append_own_at _ rfl _ _ 25 rfl w3.heap.size 36 j0 (.agg #[.int .i64 0, .string ⟨#[]⟩, .string ⟨#[]⟩, .string ⟨#[]⟩]) 4 56 Try.underlying25 J1.out J2.out J3.out J4.out rfl (by decide) _ _ _ rfl (World.ownsRow.alloc K25.out _) ⟨_, 0, none⟩ 1 1 (Oz.cells o) rfl rfl ?c1 ?c2 ?c3 ?c4 ?c5 ?_)
  case c1 => exact cells_newAt _ (Oz.cells o) _ (by simp)
  case c2 => intro u hu; simp [Oz.cells] at hu; rcases hu with rfl | rfl | rfl | rfl <;> rfl
  case c3 => have := HOL.out; unfold maxLen; omega
  case c4 => have := HOL.out; omega
  case c5 => have := HS4.out; simp; omega
  intro v6 w6 hown6 hgrow _ hl6
  have R6 := OwnG.app K25.out (by have := HS4.out; simp; omega) hown6 hgrow
  have O6 := Lib.hid (show OwnO w6 w3.heap.size v6 (x.ops ++ [o]) from R6.1)
  have hne6 : v6.ownBlock ≠ some w4.heap.size := fun e => by
    rcases hl6 with h | h
    · exact F2.out (h ▸ e)
    · rw [e] at h
      injection h with h
      have := HS6.out
      omega
  have N6 := Lib.hid (OwnG.keptD HN6.out hgrow D2N.out)
  have S6 := Lib.hid (OwnG.keptD K16.out hgrow D21.out)
  have hx6 : Below w.heap.size w w6 := HX6.out.grown hgrow HX6.out.size (fun k hk => by have := (OwnG.block_lt K2.out k hk).1; omega)
  have kr : ∀ {g : Nat} {T : TypeId} {cs : Array Value}, Row ((w4.alloc (.cells #[.slice N0 (doF x.live o).1.length e0, .slice B1 x.safe.length d1, .slice B2 x.ops.length d2] 27)).alloc (.cells #[.int .i64 o.kind, .string o.name, .string o.to, .string o.data] 36)) g T cs → (Value.slice B2 x.ops.length d2).ownBlock ≠ some g → Row w6 g T cs := fun hr hne => (hgrow.block _ (lt_of_block hr) (fun e => hne e.symm)).trans hr
  have rt := kr rt F2.out
  have rb := kr rb6 (fun e => by have := (OwnG.block_lt K2.out _ e).1; omega)
  obtain ⟨C2, m2, dd, hm2, hv6⟩ : ∃ C2 m2 dd, m2 = (x.ops ++ [o]).length ∧ v6 = .slice C2 m2 dd := by obtain ⟨C2, dd, e, -⟩ := O6.out.sl; exact ⟨C2, _, dd, rfl, e⟩
  subst hv6
  have N7 := Lib.hid (OwnG.setNe N6.out (p := ⟨w4.heap.size, 2, none⟩) FN.out (.slice C2 m2 dd))
  have S7 := Lib.hid (OwnG.setNe S6.out (p := ⟨w4.heap.size, 2, none⟩) F1.out (.slice C2 m2 dd))
  have O7 := Lib.hid (OwnG.setNe O6.out (p := ⟨w4.heap.size, 2, none⟩) hne6 (.slice C2 m2 dd))
  have rt7 := rt.set 2 (.slice C2 m2 dd)
  have rb7 := rb.far (p := ⟨w4.heap.size, 2, none⟩) (by simp; omega) (.slice C2 m2 dd)
  have hx7 := hx6.setCell (p := ⟨w4.heap.size, 2, none⟩) (by simp; omega) (.slice C2 m2 dd)
  have RR := Lib.hid rb7
  have HX7 := Lib.hid hx7
  clear hown6 hgrow hl6 R6 hm2 kr s0 s1 s2 s3 hne6
  obtain ⟨⟨t0, t1, t2⟩, ⟨u0, u1, u2⟩⟩ := rt.three
  obtain ⟨⟨t3, t4, t5⟩, -⟩ := (show Row _ _ _ #[.slice N0 (doF x.live o).1.length e0, .slice B1 x.safe.length d1, .slice C2 m2 dd] from rt7).three
  obtain ⟨⟨r0, r1, r2⟩, ⟨f0, f1, f2⟩⟩ := rb7.three
  obtain ⟨⟨r3, r4, r5⟩, ⟨f3, f4, f5⟩⟩ := rb.three
  clear rb7 rt7 rt rb rb6 hx7 hx6
  go_wp2_with fail
  have hr9 := (((RR.out).set 0 (.slice N0 (doF x.live o).1.length e0)).set 1 (.slice B1 x.safe.length d1)).set 2 (.slice C2 m2 dd)
  refine bodyPost_ret (results_cell_row2 (p := 4) (u := 5) (ty := 27) rfl _ _ (w.heap.size + 2) 27 #[.slice N0 (doF x.live o).1.length e0, .slice B1 x.safe.length d1, .slice C2 m2 dd] (0, 0) _ rfl rfl hr9 Try.underlying27 rfl HI.out) rfl ⟨⟨.agg #[.slice N0 (doF x.live o).1.length e0, .slice B1 x.safe.length d1, .slice C2 m2 dd], ?_, ?_⟩, ?_⟩
  · rw [HA.out.1]; rfl
  · refine DzA.mono (base := w.heap.size + 3) ?_ (by omega)
    rw [HA.out.2]
    refine DzA.set (DzA.set (DzA.set (show DzA _ (w.heap.size + 3) _ ⟨(doF x.live o).1, x.safe, x.ops ++ [o]⟩ from ⟨_, _, _, rfl, OwnZ.mono N7.out HZ1.out, OwnZ.mono S7.out HZ3.out, OwnO.mono O7.out HZ3.out, HDN.out⟩) ?_ _) ?_ _) ?_ _ <;> (exact Nat.lt_succ_self _)
  · exact ((HX7.out.setCell (Nat.le_add_right _ 2) _).setCell (Nat.le_add_right _ 2) _).setCell (Nat.le_add_right _ 2) _

theorem codeD_F {x : Dz} {o : Oz} (hf : filesB x.live = true) : codeD x o = if codeF x.live o = 0 then (if x.ops.length = 200 then 4 else 0) else codeF x.live o := by
  unfold codeD codeF
  cases h1 : formB o
  · rfl
  cases h2 : (doF x.live o).2
  · rfl
  rw [doF_room hf h1]
  cases h3 : roomB (doF x.live o).1 <;> by_cases h4 : x.ops.length = 200 <;> simp [h4]
theorem codeF_z {l : List Fz} {o : Oz} (h : codeF l o = 0) : nextF l o = (doF l o).1 := by
  unfold codeF at h
  unfold nextF
  cases h1 : formB o
  · rw [h1] at h; cases h
  · rfl
theorem actD_no {x : Dz} {o : Oz} {k : Int} (h : codeD x o = k) (hk : k ≠ 0) : codeD x o = k ∧ actD x o = x := ⟨h, by unfold actD; rw [if_neg (by rw [h]; exact hk)]⟩
theorem actD_yes {x : Dz} {o : Oz} (h : codeD x o = 0) : codeD x o = 0 ∧ actD x o = ⟨(doF x.live o).1, x.safe, x.ops ++ [o]⟩ := ⟨h, by unfold actD; rw [if_pos h]⟩

set_option maxRecDepth 100000 in
set_option maxHeartbeats 2000000 in
theorem implDoOn (x : Dz) (o : Oz) (A0 : Option Addr) (n0 c0 : Nat) (A1 : Option Addr) (n1 c1 : Nat) (A2 : Option Addr) (n2 c2 : Nat) (ok : Nat → Prop) (w : World) (h0 : Sl FzR 2 ok w A0 n0 x.live) (h1 : Sl FzR 2 ok w A1 n1 x.safe) (h2 : Sl OzR 4 ok w A2 n2 x.ops) (hr : filesB x.live = true ∧ x.safe.length ≤ 1048576 ∧ x.ops.length ≤ 200) (ho : o.data.size ≤ 268000000) :
    Calls Try.prog 57 #[.agg #[.slice A0 n0 c0, .slice A1 n1 c1, .slice A2 n2 c2], .agg #[.int .i64 o.kind, .string o.name, .string o.to, .string o.data]] w fun e w' => (∃ v, e = .returned (.tuple #[v, .int .i64 (codeD x o)]) ∧ DzA w' w.heap.size v (actD x o)) ∧ Below w.heap.size w w' := by
  obtain ⟨hx, hwz⟩ := box3 w (.cells #[.slice A0 n0 c0, .slice A1 n1 c1, .slice A2 n2 c2] 27) (.cells #[.int .i64 o.kind, .string o.name, .string o.to, .string o.data] 36) (.cells #[.slice none 0 0, .slice none 0 0, .slice none 0 0] 27)
  have ra := ((Row.new w 27 #[.slice A0 n0 c0, .slice A1 n1 c1, .slice A2 n2 c2]).alloc (.cells #[.int .i64 o.kind, .string o.name, .string o.to, .string o.data] 36)).alloc (.cells #[.slice none 0 0, .slice none 0 0, .slice none 0 0] 27)
  have ro := (Row.newAt (w.alloc (.cells #[.slice A0 n0 c0, .slice A1 n1 c1, .slice A2 n2 c2] 27)) 36 #[.int .i64 o.kind, .string o.name, .string o.to, .string o.data] (w.heap.size + 1) (by simp)).alloc (.cells #[.slice none 0 0, .slice none 0 0, .slice none 0 0] 27)
  have rb := Row.newAt ((w.alloc (.cells #[.slice A0 n0 c0, .slice A1 n1 c1, .slice A2 n2 c2] 27)).alloc (.cells #[.int .i64 o.kind, .string o.name, .string o.to, .string o.data] 36)) 27 #[.slice none 0 0, .slice none 0 0, .slice none 0 0] (w.heap.size + 2) (by simp)
  have HI := Lib.hid infoDisk
  obtain ⟨j0, hi, hz0, hz1, hz2⟩ := info_parts infoDOpT
  have J1 := Lib.hid hi
  have J2 := Lib.hid hz0
  have J3 := Lib.hid hz1
  have J4 := Lib.hid hz2
  clear hi hz0 hz1 hz2
  go_enter Try.func57, Try.ntmps57
  go_wp2_with fail
  generalize ((w.alloc (.cells #[.slice A0 n0 c0, .slice A1 n1 c1, .slice A2 n2 c2] 27)).alloc (.cells #[.int .i64 o.kind, .string o.name, .string o.to, .string o.data] 36)).alloc (.cells #[.slice none 0 0, .slice none 0 0, .slice none 0 0] 27) = z at *
  obtain rfl : x.live.length = n0 := h0.1
  obtain rfl : x.safe.length = n1 := h1.1
  obtain rfl : x.ops.length = n2 := h2.1
  have hfl := filesB_bytes hr.1
  have HFB := Lib.hid hr.1
  have HL := Lib.hid (show x.live.length ≤ 1048576 ∧ x.safe.length ≤ 1048576 ∧ x.ops.length ≤ 1048576 from ⟨by omega, hr.2.1, by have := hr.2.2; omega⟩)
  have HBY := Lib.hid (doF_bytes x.live o)
  have HOL := Lib.hid hr.2.2
  have HFL := Lib.hid hfl
  have HCD := Lib.hid (codeD_F (x := x) (o := o) hr.1)
  have HZ0 := Lib.hid hwz
  clear hr hfl
  refine (implCopyDisk x A0 _ c0 A1 _ c1 A2 _ c2 _ _ (h0.below FzR.stays hx) (h1.below FzR.stays hx) (h2.below OzR.stays hx) HL.out).mono ?_
  rintro e w1 ⟨⟨v, rfl, hv⟩, hq⟩
  have hx := hx.trans (hq.mono hx.size)
  have HZ1 := Lib.hid (Nat.le_trans hwz hq.size)
  have HZW := Lib.hid hq.size
  have ra := ra.below hq
  have ro := ro.below hq
  have rb := rb.below hq
  obtain ⟨v0, v1, v2, rfl, k0, k1, k2, hd⟩ := hv
  have K0 := Lib.hid k0
  have K1 := Lib.hid k1
  have K2 := Lib.hid k2
  have HD01 := Lib.hid hd
  obtain ⟨B0, d0, rfl, -⟩ := k0.sl
  obtain ⟨B1, d1, rfl, -⟩ := k1.sl
  obtain ⟨B2, d2, rfl, -⟩ := k2.sl
  have F1 := Lib.hid (OwnG.far K1.out (Nat.le_refl _))
  have F2 := Lib.hid (OwnG.far K2.out (Nat.le_refl _))
  have hal := (Below.refl w1.heap.size w1).alloc (Nat.le_refl _) (.cells #[.slice B0 x.live.length d0, .slice B1 x.safe.length d1, .slice B2 x.ops.length d2] 27)
  have rt := Row.new w1 27 #[.slice B0 x.live.length d0, .slice B1 x.safe.length d1, .slice B2 x.ops.length d2]
  have HSO := Lib.hid (show w1.heap.size < (w1.alloc (.cells #[.slice B0 x.live.length d0, .slice B1 x.safe.length d1, .slice B2 x.ops.length d2] 27)).heap.size by simp)
  have hx := hx.alloc hx.size (.cells #[.slice B0 x.live.length d0, .slice B1 x.safe.length d1, .slice B2 x.ops.length d2] 27)
  have ra := ra.below hal
  have ro := ro.below hal
  have rb := rb.below hal
  have K0 := Lib.hid (OwnG.below K0.out hal)
  have K1 := Lib.hid (OwnG.below K1.out hal)
  have K2 := Lib.hid (OwnG.below K2.out hal)
  clear k0 k1 k2 hd hq hal
  obtain ⟨⟨p0, p1, p2⟩, -⟩ := ra.three
  go_wp2_with fail
  generalize w1.alloc (.cells #[.slice B0 x.live.length d0, .slice B1 x.safe.length d1, .slice B2 x.ops.length d2] 27) = z1 at *
  refine (implFilesOf A0 _ c0 x.live _ _ (h0.below FzR.stays hx) HFB.out).mono ?_
  rintro e w2 ⟨rfl, hf2, hq2⟩
  have ro2 := ro.below hq2
  obtain ⟨⟨s0, s1, s2, s3⟩, -⟩ := ro2.all4
  clear p0 p1 p2 ro2
  go_wp2_with fail
  refine (implFilesDo _ _ x.live o _ hf2 (by have := HFL.out; omega) (by have := HFL.out; omega)).mono ?_
  rintro e w3 ⟨rfl, hf3, hk3⟩
  have hq3 : Below z1.heap.size z1 w3 := hq2.trans hk3.low
  have HX := Lib.hid (hx.trans (hq3.mono hx.size))
  have HF3 := Lib.hid hf3
  have K0 := Lib.hid (OwnG.below K0.out hq3)
  have K1 := Lib.hid (OwnG.below K1.out hq3)
  have K2 := Lib.hid (OwnG.below K2.out hq3)
  have ra := ra.below hq3
  have ro := ro.below hq3
  have rb := rb.below hq3
  have rt := rt.below hq3
  have HS3 := Lib.hid hq3.size
  have RR := Lib.hid rb
  clear s0 s1 s2 s3 hf2 hf3 hq2 hk3 hq3 hx
  obtain ⟨⟨p0, p1, p2⟩, -⟩ := ra.three
  obtain ⟨⟨t0, t1, t2⟩, ⟨u0, u1, u2⟩⟩ := rt.three
  obtain ⟨⟨r0, r1, r2⟩, ⟨f0, f1, f2⟩⟩ := rb.three
  have HRT := Lib.hid rt
  have HRO := Lib.hid ro
  clear ra ro rb rt
  by_cases hc : codeF x.live o = 0
  case neg =>
    have HC := Lib.hid (show codeD x o = codeF x.live o by rw [HCD.out, if_neg hc])
    have HNZ := Lib.hid hc
    generalize codeF x.live o = k at *
    have hk1 : decide (k = 0) = false := decide_eq_false hc
    have hk2 : (k == 0) = false := by simpa using hc
    have hk3 : (k != 0) = true := by simpa using hc
    clear hc
    have HA := Lib.hid (actD_no HC.out HNZ.out)
    go_wp2_with fail
    have hr9 := (((RR.out).set 0 (.slice B0 x.live.length d0)).set 1 (.slice B1 x.safe.length d1)).set 2 (.slice B2 x.ops.length d2)
    refine bodyPost_ret (results_cell_row2 (p := 4) (u := 5) (ty := 27) rfl _ _ (w.heap.size + 2) 27 #[.slice B0 x.live.length d0, .slice B1 x.safe.length d1, .slice B2 x.ops.length d2] (0, 0) _ rfl rfl hr9 Try.underlying27 rfl HI.out) rfl ⟨⟨.agg #[.slice B0 x.live.length d0, .slice B1 x.safe.length d1, .slice B2 x.ops.length d2], ?_, ?_⟩, ?_⟩
    · rw [HA.out.1]; rfl
    · refine DzA.mono (base := w.heap.size + 3) ?_ (by omega)
      rw [HA.out.2]
      refine DzA.set (DzA.set (DzA.set (show DzA _ (w.heap.size + 3) _ x from ⟨_, _, _, rfl, OwnZ.mono K0.out HZ0.out, OwnZ.mono K1.out HZ0.out, OwnO.mono K2.out HZ0.out, HD01.out⟩) ?_ _) ?_ _) ?_ _ <;> (exact Nat.lt_succ_self _)
    · exact ((HX.out.setCell (Nat.le_add_right _ 2) _).setCell (Nat.le_add_right _ 2) _).setCell (Nat.le_add_right _ 2) _
  have HNX := Lib.hid (codeF_z hc)
  have HCD := Lib.hid (show codeD x o = if x.ops.length = 200 then 4 else 0 by rw [HCD.out, if_pos hc])
  rw [hc]
  clear hc
  by_cases h200 : x.ops.length = 200
  · have HC := Lib.hid (show codeD x o = 4 by rw [HCD.out, if_pos h200])
    have hg1 : decide ((200 : Int) ≤ x.ops.length) = true := decide_eq_true (by omega)
    clear h200
    have HA := Lib.hid (actD_no HC.out (by decide))
    go_wp2_with fail
    have hr9 := (((RR.out).set 0 (.slice B0 x.live.length d0)).set 1 (.slice B1 x.safe.length d1)).set 2 (.slice B2 x.ops.length d2)
    refine bodyPost_ret (results_cell_row2 (p := 4) (u := 5) (ty := 27) rfl _ _ (w.heap.size + 2) 27 #[.slice B0 x.live.length d0, .slice B1 x.safe.length d1, .slice B2 x.ops.length d2] (0, 0) _ rfl rfl hr9 Try.underlying27 rfl HI.out) rfl ⟨⟨.agg #[.slice B0 x.live.length d0, .slice B1 x.safe.length d1, .slice B2 x.ops.length d2], ?_, ?_⟩, ?_⟩
    · rw [HA.out.1]; rfl
    · refine DzA.mono (base := w.heap.size + 3) ?_ (by omega)
      rw [HA.out.2]
      refine DzA.set (DzA.set (DzA.set (show DzA _ (w.heap.size + 3) _ x from ⟨_, _, _, rfl, OwnZ.mono K0.out HZ0.out, OwnZ.mono K1.out HZ0.out, OwnO.mono K2.out HZ0.out, HD01.out⟩) ?_ _) ?_ _) ?_ _ <;> (exact Nat.lt_succ_self _)
    · exact ((HX.out.setCell (Nat.le_add_right _ 2) _).setCell (Nat.le_add_right _ 2) _).setCell (Nat.le_add_right _ 2) _
  have HA := Lib.hid (actD_yes (show codeD x o = 0 by rw [HCD.out, if_neg h200]))
  have hg1 : decide ((200 : Int) ≤ x.ops.length) = false := decide_eq_false (by have := HOL.out; omega)
  clear h200
  go_wp2_with fail
  refine (implList _ _ (doF x.live o).1 _ (by rw [← HNX.out]; exact HF3.out) (by have := HBY.out; have := HFL.out; omega)).mono ?_
  rintro e w4 ⟨⟨v, rfl, hv⟩, hq4⟩
  obtain ⟨N0, e0, rfl, -⟩ := (show OwnZ w4 _ v _ from hv).sl
  have hne : (Value.slice N0 (doF x.live o).1.length e0).ownBlock ≠ some w1.heap.size := fun e => by have h1 := (OwnG.block_lt hv _ e).1; have h2 := HS3.out; have h3 := HSO.out; omega
  have FN := Lib.hid hne
  have HN4 := Lib.hid (OwnG.setNe hv (p := ⟨w1.heap.size, 0, none⟩) hne (.slice N0 (doF x.live o).1.length e0))
  have K14 := Lib.hid (OwnG.setNe (OwnG.below K1.out hq4) (p := ⟨w1.heap.size, 0, none⟩) F1.out (.slice N0 (doF x.live o).1.length e0))
  have K24 := Lib.hid (OwnG.setNe (OwnG.below K2.out hq4) (p := ⟨w1.heap.size, 0, none⟩) F2.out (.slice N0 (doF x.live o).1.length e0))
  have hdN : Dis (.slice N0 (doF x.live o).1.length e0) (.slice B1 x.safe.length d1) := fun k hk e => by have h1 := (OwnG.block_lt hv k hk).1; have h2 := (OwnG.block_lt K1.out k e).2; omega
  have HDN := Lib.hid hdN
  have hx4 := (HX.out.trans (hq4.mono HX.out.size)).setCell (p := ⟨w1.heap.size, 0, none⟩) (by have := HZ1.out; simp; omega) (.slice N0 (doF x.live o).1.length e0)
  have rt4 := HRT.out.below hq4
  have rt5 := rt4.set 0 (.slice N0 (doF x.live o).1.length e0)
  have ro5 := (HRO.out.below hq4).far (p := ⟨w1.heap.size, 0, none⟩) (by have := HZ1.out; simp; omega) (.slice N0 (doF x.live o).1.length e0)
  have rb5 := (RR.out.below hq4).far (p := ⟨w1.heap.size, 0, none⟩) (by have := HZ1.out; simp; omega) (.slice N0 (doF x.live o).1.length e0)
  have HS4 := Lib.hid (show w1.heap.size < (w4.setCell ⟨w1.heap.size, 0, none⟩ (.slice N0 (doF x.live o).1.length e0)).heap.size by have h1 := hq4.size; have h2 := HS3.out; have h3 := HSO.out; simp only [World.setCell, Array.size_modify]; omega)
  clear p0 p1 p2 t0 t1 t2 u0 u1 u2 r0 r1 r2 f0 f1 f2 hv hne hdN RR
  obtain ⟨⟨t0, t1, t2⟩, ⟨u0, u1, u2⟩⟩ := rt4.three
  obtain ⟨⟨t3, t4, t5⟩, ⟨u3, u4, u5⟩⟩ := (show Row _ _ _ #[.slice N0 (doF x.live o).1.length e0, .slice B1 x.safe.length d1, .slice B2 x.ops.length d2] from rt5).three
  obtain ⟨⟨s0, s1, s2, s3⟩, -⟩ := ro5.all4
  have hal6 := (Below.refl (w4.setCell ⟨w1.heap.size, 0, none⟩ (.slice N0 (doF x.live o).1.length e0)).heap.size (w4.setCell ⟨w1.heap.size, 0, none⟩ (.slice N0 (doF x.live o).1.length e0))).alloc (Nat.le_refl _) (.cells #[.int .i64 o.kind, .string o.name, .string o.to, .string o.data] 36)
  have HN6 := Lib.hid (OwnG.below HN4.out hal6)
  have K16 := Lib.hid (OwnG.below K14.out hal6)
  have K26 := Lib.hid (OwnG.below K24.out hal6)
  have D2N := Lib.hid (Dis.types K26.out HN6.out (by decide))
  have D21 := Lib.hid (Dis.types K26.out K16.out (by decide))
  have rt6 := rt5.alloc (.cells #[.int .i64 o.kind, .string o.name, .string o.to, .string o.data] 36)
  have rb6 := rb5.alloc (.cells #[.int .i64 o.kind, .string o.name, .string o.to, .string o.data] 36)
  have HX6 := Lib.hid (hx4.alloc hx4.size (.cells #[.int .i64 o.kind, .string o.name, .string o.to, .string o.data] 36))
  have HW14 := Lib.hid (show w1.heap.size < w4.heap.size by have h1 := hq4.size; have h2 := HS3.out; have h3 := HSO.out; omega)
  have HBS := Lib.hid (show z.heap.size ≤ ((w4.setCell ⟨w1.heap.size, 0, none⟩ (.slice N0 (doF x.live o).1.length e0)).alloc (.cells #[.int .i64 o.kind, .string o.name, .string o.to, .string o.data] 36)).heap.size by have h1 := HZW.out; have h2 := HS4.out; have h3 := hal6.size; omega)
  have HS6 := Lib.hid (show w1.heap.size < ((w4.setCell ⟨w1.heap.size, 0, none⟩ (.slice N0 (doF x.live o).1.length e0)).alloc (.cells #[.int .i64 o.kind, .string o.name, .string o.to, .string o.data] 36)).heap.size by have h2 := HS4.out; have h3 := hal6.size; omega)
  clear hal6 rt4 rt5 ro5 rb5 hx4 hq4 HRT HRO
  go_wp2_with (at_builtin; refine wpList_append_own_at _ rfl _ _ 25 rfl z.heap.size 36 j0 (.agg #[.int .i64 0, .string ⟨#[]⟩, .string ⟨#[]⟩, .string ⟨#[]⟩]) 4 56 Try.underlying25 J1.out J2.out J3.out J4.out rfl (by decide) _ _ _ rfl (World.ownsRow.alloc K24.out _) ⟨_, 0, none⟩ 1 1 (Oz.cells o) rfl rfl ?c1 ?c2 ?c3 ?c4 ?c5 ?_)
  case c1 => exact cells_newAt _ (Oz.cells o) _ (by first | rfl | simp)
  case c2 => intro u hu; simp [Oz.cells] at hu; rcases hu with rfl | rfl | rfl | rfl <;> rfl
  case c3 => have := HOL.out; unfold maxLen; omega
  case c4 => have := HOL.out; omega
  case c5 => exact HBS.out
  intro v6 w6 hown6 hgrow _ hl6
  have R6 := OwnG.app K24.out (by have h1 := HZW.out; have h2 := HS4.out; omega) hown6 hgrow
  have O6 := Lib.hid (show OwnO w6 z.heap.size v6 (x.ops ++ [o]) from R6.1)
  have hne6 : v6.ownBlock ≠ some w1.heap.size := fun e => by
    rcases hl6 with h | h
    · exact F2.out (h ▸ e)
    · rw [e] at h
      injection h with h
      have h7 := HS6.out
      have h8 := HW14.out
      omega
  have N6 := Lib.hid (OwnG.keptD HN6.out hgrow D2N.out)
  have S6 := Lib.hid (OwnG.keptD K16.out hgrow D21.out)
  have hx6 : Below w.heap.size w w6 := HX6.out.grown hgrow HX6.out.size (fun k hk => by have h1 := (OwnG.block_lt K2.out k hk).1; have h2 := HZ0.out; omega)
  have rt := (hgrow.block _ (lt_of_block rt6) (fun e => F2.out e.symm)).trans rt6
  have rb := (hgrow.block _ (lt_of_block rb6) (fun e => by have h1 := (OwnG.block_lt K2.out _ e.symm).1; have h2 := HZ0.out; omega)).trans rb6
  obtain ⟨C2, m2, dd, hm2, hv6⟩ : ∃ C2 m2 dd, m2 = (x.ops ++ [o]).length ∧ v6 = .slice C2 m2 dd := by obtain ⟨C2, dd, e, -⟩ := O6.out.sl; exact ⟨C2, _, dd, rfl, e⟩
  subst hv6
  have N7 := Lib.hid (OwnG.setNe N6.out (p := ⟨w1.heap.size, 2, none⟩) FN.out (.slice C2 m2 dd))
  have S7 := Lib.hid (OwnG.setNe S6.out (p := ⟨w1.heap.size, 2, none⟩) F1.out (.slice C2 m2 dd))
  have O7 := Lib.hid (OwnG.setNe O6.out (p := ⟨w1.heap.size, 2, none⟩) hne6 (.slice C2 m2 dd))
  have rt7 := Row.set (show Row w6 w1.heap.size _ #[.slice N0 (doF x.live o).1.length e0, .slice B1 x.safe.length d1, .slice B2 x.ops.length d2] from rt) 2 (.slice C2 m2 dd)
  have rb7 := Row.far (show Row w6 (w.heap.size + 2) _ #[.slice none 0 0, .slice none 0 0, .slice none 0 0] from rb) (p := ⟨w1.heap.size, 2, none⟩) (by have := HZ1.out; simp; omega) (.slice C2 m2 dd)
  have hx7 := hx6.setCell (p := ⟨w1.heap.size, 2, none⟩) (by have := HZ1.out; simp; omega) (.slice C2 m2 dd)
  have RR := Lib.hid rb7
  have HX7 := Lib.hid hx7
  clear hown6 hgrow hl6 R6 hm2 s0 s1 s2 s3 hne6 t0 t1 t2 u0 u1 u2 t3 t4 t5 u3 u4 u5
  obtain ⟨⟨t0, t1, t2⟩, ⟨u0, u1, u2⟩⟩ := (show Row w6 w1.heap.size _ #[.slice N0 (doF x.live o).1.length e0, .slice B1 x.safe.length d1, .slice B2 x.ops.length d2] from rt).three
  obtain ⟨⟨t3, t4, t5⟩, -⟩ := (show Row _ _ _ #[.slice N0 (doF x.live o).1.length e0, .slice B1 x.safe.length d1, .slice C2 m2 dd] from rt7).three
  obtain ⟨⟨r0, r1, r2⟩, ⟨f0, f1, f2⟩⟩ := rb7.three
  clear rb7 rt7 rt rb rb6 rt6 hx7 hx6
  go_wp2_with fail
  have hr9 := (((RR.out).set 0 (.slice N0 (doF x.live o).1.length e0)).set 1 (.slice B1 x.safe.length d1)).set 2 (.slice C2 m2 dd)
  refine bodyPost_ret (results_cell_row2 (p := 4) (u := 5) (ty := 27) rfl _ _ (w.heap.size + 2) 27 #[.slice N0 (doF x.live o).1.length e0, .slice B1 x.safe.length d1, .slice C2 m2 dd] (0, 0) _ rfl rfl hr9 Try.underlying27 rfl HI.out) rfl ⟨⟨.agg #[.slice N0 (doF x.live o).1.length e0, .slice B1 x.safe.length d1, .slice C2 m2 dd], ?_, ?_⟩, ?_⟩
  · rw [HA.out.1]; rfl
  · refine DzA.mono (base := w.heap.size + 3) ?_ (by omega)
    rw [HA.out.2]
    refine DzA.set (DzA.set (DzA.set (show DzA _ (w.heap.size + 3) _ ⟨(doF x.live o).1, x.safe, x.ops ++ [o]⟩ from ⟨_, _, _, rfl, OwnZ.mono N7.out (by have h1 := HZ1.out; have h2 := HSO.out; have h3 := HS3.out; omega), OwnZ.mono S7.out HZ0.out, OwnO.mono O7.out HZ0.out, HDN.out⟩) ?_ _) ?_ _) ?_ _ <;> (exact Nat.lt_succ_self _)
  · exact ((HX7.out.setCell (Nat.le_add_right _ 2) _).setCell (Nat.le_add_right _ 2) _).setCell (Nat.le_add_right _ 2) _

def codeDo (x : Dz) (o : Oz) : Int := if diskB x then codeD x o else 1
def actDo (x : Dz) (o : Oz) : Dz := if diskB x then actD x o else ⟨[], [], []⟩
theorem doD_no {x : Dz} {o : Oz} (h : diskB x = false) : codeDo x o = 1 ∧ actDo x o = ⟨[], [], []⟩ := by unfold codeDo actDo; rw [h]; exact ⟨rfl, rfl⟩
theorem doD_yes {x : Dz} {o : Oz} (h : diskB x = true) : codeDo x o = codeD x o ∧ actDo x o = actD x o := by unfold codeDo actDo; rw [h]; exact ⟨rfl, rfl⟩
theorem diskB_parts {x : Dz} (h : diskB x = true) : filesB x.live = true ∧ filesB x.safe = true ∧ x.ops.length ≤ 200 := by
  unfold diskB at h
  simp only [Bool.and_eq_true, decide_eq_true_eq] at h
  exact ⟨h.1.1.1, h.1.1.2, h.1.2⟩
theorem OwnO.len {w : World} {base : Nat} {v : Value} {xs : List Oz} (h : OwnO w base v xs) : ∃ A n c, v = .slice A n c := by obtain ⟨A, c, e, -⟩ := h.sl; exact ⟨A, _, c, e⟩
theorem OwnZ.len {w : World} {base : Nat} {v : Value} {xs : List Fz} (h : OwnZ w base v xs) : ∃ A n c, v = .slice A n c := by obtain ⟨A, c, e, -⟩ := h.sl; exact ⟨A, _, c, e⟩

set_option maxRecDepth 100000 in
set_option maxHeartbeats 2000000 in
theorem specDo (x : Dz) (o : Oz) (A0 : Option Addr) (n0 c0 : Nat) (A1 : Option Addr) (n1 c1 : Nat) (A2 : Option Addr) (n2 c2 : Nat) (ok : Nat → Prop) (w : World) (h0 : Sl FzR 2 ok w A0 n0 x.live) (h1 : Sl FzR 2 ok w A1 n1 x.safe) (h2 : Sl OzR 4 ok w A2 n2 x.ops) (hs : x.sz ≤ 1048576) (ho : o.data.size ≤ 268435456) :
    Calls Try.prog 21 #[.agg #[.slice A0 n0 c0, .slice A1 n1 c1, .slice A2 n2 c2], .agg #[.int .i64 o.kind, .string o.name, .string o.to, .string o.data]] w fun e w' => (∃ v, e = .returned (.tuple #[v, .int .i64 (codeDo x o)]) ∧ DzA w' w.heap.size v (actDo x o)) ∧ Below w.heap.size w w' := by
  obtain ⟨hx, hwz⟩ := box3 w (.cells #[.slice A0 n0 c0, .slice A1 n1 c1, .slice A2 n2 c2] 27) (.cells #[.int .i64 o.kind, .string o.name, .string o.to, .string o.data] 36) (.cells #[.slice none 0 0, .slice none 0 0, .slice none 0 0] 27)
  have ra := ((Row.new w 27 #[.slice A0 n0 c0, .slice A1 n1 c1, .slice A2 n2 c2]).alloc (.cells #[.int .i64 o.kind, .string o.name, .string o.to, .string o.data] 36)).alloc (.cells #[.slice none 0 0, .slice none 0 0, .slice none 0 0] 27)
  have ro := (Row.newAt (w.alloc (.cells #[.slice A0 n0 c0, .slice A1 n1 c1, .slice A2 n2 c2] 27)) 36 #[.int .i64 o.kind, .string o.name, .string o.to, .string o.data] (w.heap.size + 1) (by simp)).alloc (.cells #[.slice none 0 0, .slice none 0 0, .slice none 0 0] 27)
  have rb := Row.newAt ((w.alloc (.cells #[.slice A0 n0 c0, .slice A1 n1 c1, .slice A2 n2 c2] 27)).alloc (.cells #[.int .i64 o.kind, .string o.name, .string o.to, .string o.data] 36)) 27 #[.slice none 0 0, .slice none 0 0, .slice none 0 0] (w.heap.size + 2) (by simp)
  have HI := Lib.hid infoDisk
  obtain ⟨j0, hi, hz0, hz1, hz2⟩ := info_parts infoDOpT
  have J1 := Lib.hid hi
  have J2 := Lib.hid hz0
  have J3 := Lib.hid hz1
  have J4 := Lib.hid hz2
  clear hi hz0 hz1 hz2
  go_enter Try.func21, Try.ntmps21
  go_wp2_with fail
  generalize ((w.alloc (.cells #[.slice A0 n0 c0, .slice A1 n1 c1, .slice A2 n2 c2] 27)).alloc (.cells #[.int .i64 o.kind, .string o.name, .string o.to, .string o.data] 36)).alloc (.cells #[.slice none 0 0, .slice none 0 0, .slice none 0 0] 27) = z at *
  have HL := Lib.hid (sz_lens hs)
  refine (specDiskOk x A0 n0 c0 A1 n1 c1 A2 n2 c2 _ _ (h0.below FzR.stays hx) (h1.below FzR.stays hx) (h2.below OzR.stays hx) hs).mono ?_
  rintro e w1 ⟨rfl, hq⟩
  have hx := hx.trans (hq.mono hx.size)
  have hwz := Nat.le_trans hwz hq.size
  have ra := ra.below hq
  have ro := ro.below hq
  have rb := rb.below hq
  obtain ⟨⟨p0, p1, p2⟩, -⟩ := ra.three
  obtain ⟨⟨s0, s1, s2, s3⟩, -⟩ := ro.all4
  obtain ⟨⟨r0, r1, r2⟩, ⟨f0, f1, f2⟩⟩ := rb.three
  clear hq
  cases e0 : diskB x
  · have HA := Lib.hid (doD_no (o := o) e0)
    have RR := Lib.hid rb
    clear ra rb ro
    go_wp2_with fail
    have hr9 := (((RR.out).set 0 (.slice none 0 0)).set 1 (.slice none 0 0)).set 2 (.slice none 0 0)
    refine bodyPost_ret (results_cell_row2 (p := 4) (u := 5) (ty := 27) rfl _ _ (w.heap.size + 2) 27 #[.slice none 0 0, .slice none 0 0, .slice none 0 0] (0, 0) _ rfl rfl hr9 Try.underlying27 rfl HI.out) rfl ⟨⟨.agg #[.slice none 0 0, .slice none 0 0, .slice none 0 0], ?_, ?_⟩, ?_⟩
    · rw [HA.out.1]; rfl
    · refine DzA.mono (base := w.heap.size + 3) ?_ (by omega)
      rw [HA.out.2]
      refine DzA.set (DzA.set (DzA.set (DzA.nil _ _) ?_ _) ?_ _) ?_ _ <;> (exact Nat.lt_succ_self _)
    · exact ((hx.setCell (Nat.le_add_right _ 2) _).setCell (Nat.le_add_right _ 2) _).setCell (Nat.le_add_right _ 2) _
  have HA := Lib.hid (doD_yes (o := o) e0)
  have HP := Lib.hid (diskB_parts e0)
  clear e0
  go_wp2_with fail
  refine (specAct x o A0 n0 c0 A1 n1 c1 A2 n2 c2 _ _ (h0.below FzR.stays hx) (h1.below FzR.stays hx) (h2.below OzR.stays hx) ⟨HP.out.1, HL.out.2.1, by have := HP.out.2.2; omega⟩ ho).mono ?_
  rintro e w2 ⟨⟨v, rfl, hv⟩, hb⟩
  have HX := Lib.hid (hx.trans (hb.mono hx.size))
  have RR := Lib.hid (rb.below hb)
  have HV := Lib.hid (hv.mono (base' := w.heap.size + 3) hwz)
  obtain ⟨v0, v1, v2, rfl, k0, k1, k2, -⟩ := hv
  obtain ⟨B0, m0, d0, rfl⟩ := k0.len
  obtain ⟨B1, m1, d1, rfl⟩ := k1.len
  obtain ⟨B2, m2, d2, rfl⟩ := k2.len
  clear r0 r1 r2 f0 f1 f2 p0 p1 p2 s0 s1 s2 s3 k0 k1 k2 hb
  have rr := RR.out
  obtain ⟨⟨r0, r1, r2⟩, ⟨f0, f1, f2⟩⟩ := rr.three
  clear rr
  have HC := Lib.hid HA.out.1
  generalize codeD x o = kc at *
  go_wp2_with fail
  have hr9 := (((RR.out).set 0 (.slice B0 m0 d0)).set 1 (.slice B1 m1 d1)).set 2 (.slice B2 m2 d2)
  refine bodyPost_ret (results_cell_row2 (p := 4) (u := 5) (ty := 27) rfl _ _ (w.heap.size + 2) 27 #[.slice B0 m0 d0, .slice B1 m1 d1, .slice B2 m2 d2] (0, 0) _ rfl rfl hr9 Try.underlying27 rfl HI.out) rfl ⟨⟨.agg #[.slice B0 m0 d0, .slice B1 m1 d1, .slice B2 m2 d2], ?_, ?_⟩, ?_⟩
  · rw [HA.out.1]; rfl
  · refine DzA.mono (base := w.heap.size + 3) ?_ (by omega)
    rw [HA.out.2]
    refine DzA.set (DzA.set (DzA.set (HV.out) ?_ _) ?_ _) ?_ _ <;> (exact Nat.lt_succ_self _)
  · exact ((HX.out.setCell (Nat.le_add_right _ 2) _).setCell (Nat.le_add_right _ 2) _).setCell (Nat.le_add_right _ 2) _

set_option maxRecDepth 100000 in
set_option maxHeartbeats 2000000 in
theorem implDo (x : Dz) (o : Oz) (A0 : Option Addr) (n0 c0 : Nat) (A1 : Option Addr) (n1 c1 : Nat) (A2 : Option Addr) (n2 c2 : Nat) (ok : Nat → Prop) (w : World) (h0 : Sl FzR 2 ok w A0 n0 x.live) (h1 : Sl FzR 2 ok w A1 n1 x.safe) (h2 : Sl OzR 4 ok w A2 n2 x.ops) (hs : x.sz ≤ 1048576) (ho : o.data.size ≤ 268000000) :
    Calls Try.prog 20 #[.agg #[.slice A0 n0 c0, .slice A1 n1 c1, .slice A2 n2 c2], .agg #[.int .i64 o.kind, .string o.name, .string o.to, .string o.data]] w fun e w' => (∃ v, e = .returned (.tuple #[v, .int .i64 (codeDo x o)]) ∧ DzA w' w.heap.size v (actDo x o)) ∧ Below w.heap.size w w' := by
  obtain ⟨hx, hwz⟩ := box3 w (.cells #[.slice A0 n0 c0, .slice A1 n1 c1, .slice A2 n2 c2] 27) (.cells #[.int .i64 o.kind, .string o.name, .string o.to, .string o.data] 36) (.cells #[.slice none 0 0, .slice none 0 0, .slice none 0 0] 27)
  have ra := ((Row.new w 27 #[.slice A0 n0 c0, .slice A1 n1 c1, .slice A2 n2 c2]).alloc (.cells #[.int .i64 o.kind, .string o.name, .string o.to, .string o.data] 36)).alloc (.cells #[.slice none 0 0, .slice none 0 0, .slice none 0 0] 27)
  have ro := (Row.newAt (w.alloc (.cells #[.slice A0 n0 c0, .slice A1 n1 c1, .slice A2 n2 c2] 27)) 36 #[.int .i64 o.kind, .string o.name, .string o.to, .string o.data] (w.heap.size + 1) (by simp)).alloc (.cells #[.slice none 0 0, .slice none 0 0, .slice none 0 0] 27)
  have rb := Row.newAt ((w.alloc (.cells #[.slice A0 n0 c0, .slice A1 n1 c1, .slice A2 n2 c2] 27)).alloc (.cells #[.int .i64 o.kind, .string o.name, .string o.to, .string o.data] 36)) 27 #[.slice none 0 0, .slice none 0 0, .slice none 0 0] (w.heap.size + 2) (by simp)
  have HI := Lib.hid infoDisk
  obtain ⟨j0, hi, hz0, hz1, hz2⟩ := info_parts infoDOpT
  have J1 := Lib.hid hi
  have J2 := Lib.hid hz0
  have J3 := Lib.hid hz1
  have J4 := Lib.hid hz2
  clear hi hz0 hz1 hz2
  go_enter Try.func20, Try.ntmps20
  go_wp2_with fail
  generalize ((w.alloc (.cells #[.slice A0 n0 c0, .slice A1 n1 c1, .slice A2 n2 c2] 27)).alloc (.cells #[.int .i64 o.kind, .string o.name, .string o.to, .string o.data] 36)).alloc (.cells #[.slice none 0 0, .slice none 0 0, .slice none 0 0] 27) = z at *
  have HL := Lib.hid (sz_lens hs)
  refine (implDiskOk x A0 n0 c0 A1 n1 c1 A2 n2 c2 _ _ (h0.below FzR.stays hx) (h1.below FzR.stays hx) (h2.below OzR.stays hx) hs).mono ?_
  rintro e w1 ⟨rfl, hq⟩
  have hx := hx.trans (hq.mono hx.size)
  have hwz := Nat.le_trans hwz hq.size
  have ra := ra.below hq
  have ro := ro.below hq
  have rb := rb.below hq
  obtain ⟨⟨p0, p1, p2⟩, -⟩ := ra.three
  obtain ⟨⟨s0, s1, s2, s3⟩, -⟩ := ro.all4
  obtain ⟨⟨r0, r1, r2⟩, ⟨f0, f1, f2⟩⟩ := rb.three
  clear hq
  cases e0 : diskB x
  · have HA := Lib.hid (doD_no (o := o) e0)
    have RR := Lib.hid rb
    clear ra rb ro
    go_wp2_with fail
    have hr9 := (((RR.out).set 0 (.slice none 0 0)).set 1 (.slice none 0 0)).set 2 (.slice none 0 0)
    refine bodyPost_ret (results_cell_row2 (p := 4) (u := 5) (ty := 27) rfl _ _ (w.heap.size + 2) 27 #[.slice none 0 0, .slice none 0 0, .slice none 0 0] (0, 0) _ rfl rfl hr9 Try.underlying27 rfl HI.out) rfl ⟨⟨.agg #[.slice none 0 0, .slice none 0 0, .slice none 0 0], ?_, ?_⟩, ?_⟩
    · rw [HA.out.1]; rfl
    · refine DzA.mono (base := w.heap.size + 3) ?_ (by omega)
      rw [HA.out.2]
      refine DzA.set (DzA.set (DzA.set (DzA.nil _ _) ?_ _) ?_ _) ?_ _ <;> (exact Nat.lt_succ_self _)
    · exact ((hx.setCell (Nat.le_add_right _ 2) _).setCell (Nat.le_add_right _ 2) _).setCell (Nat.le_add_right _ 2) _
  have HA := Lib.hid (doD_yes (o := o) e0)
  have HP := Lib.hid (diskB_parts e0)
  clear e0
  go_wp2_with fail
  refine (implDoOn x o A0 n0 c0 A1 n1 c1 A2 n2 c2 _ _ (h0.below FzR.stays hx) (h1.below FzR.stays hx) (h2.below OzR.stays hx) ⟨HP.out.1, HL.out.2.1, by have := HP.out.2.2; omega⟩ ho).mono ?_
  rintro e w2 ⟨⟨v, rfl, hv⟩, hb⟩
  have HX := Lib.hid (hx.trans (hb.mono hx.size))
  have RR := Lib.hid (rb.below hb)
  have HV := Lib.hid (hv.mono (base' := w.heap.size + 3) hwz)
  obtain ⟨v0, v1, v2, rfl, k0, k1, k2, -⟩ := hv
  obtain ⟨B0, m0, d0, rfl⟩ := k0.len
  obtain ⟨B1, m1, d1, rfl⟩ := k1.len
  obtain ⟨B2, m2, d2, rfl⟩ := k2.len
  clear r0 r1 r2 f0 f1 f2 p0 p1 p2 s0 s1 s2 s3 k0 k1 k2 hb
  have rr := RR.out
  obtain ⟨⟨r0, r1, r2⟩, ⟨f0, f1, f2⟩⟩ := rr.three
  clear rr
  have HC := Lib.hid HA.out.1
  generalize codeD x o = kc at *
  go_wp2_with fail
  have hr9 := (((RR.out).set 0 (.slice B0 m0 d0)).set 1 (.slice B1 m1 d1)).set 2 (.slice B2 m2 d2)
  refine bodyPost_ret (results_cell_row2 (p := 4) (u := 5) (ty := 27) rfl _ _ (w.heap.size + 2) 27 #[.slice B0 m0 d0, .slice B1 m1 d1, .slice B2 m2 d2] (0, 0) _ rfl rfl hr9 Try.underlying27 rfl HI.out) rfl ⟨⟨.agg #[.slice B0 m0 d0, .slice B1 m1 d1, .slice B2 m2 d2], ?_, ?_⟩, ?_⟩
  · rw [HA.out.1]; rfl
  · refine DzA.mono (base := w.heap.size + 3) ?_ (by omega)
    rw [HA.out.2]
    refine DzA.set (DzA.set (DzA.set (HV.out) ?_ _) ?_ _) ?_ _ <;> (exact Nat.lt_succ_self _)
  · exact ((HX.out.setCell (Nat.le_add_right _ 2) _).setCell (Nat.le_add_right _ 2) _).setCell (Nat.le_add_right _ 2) _
end Go.Proofs.Ytkinegapnknhiaa
namespace Go.Proofs.Ytkinegapnknhiaa
open Go.RowKit
set_option linter.unusedVariables false
set_option linter.unusedSimpArgs false

theorem KeptL.range {B E : Nat} {w w' : World} (h : Kept B E w w') : KeptL (List.range' B (E - B)) w w' :=
  ⟨h.os, h.tape, h.output, h.size, fun k hk ho => h.block k hk (by
    rw [List.mem_range'_1] at ho
    omega), h.frozen⟩
theorem not_range {B E : Nat} {bs : List Nat} (h : ∀ b ∈ bs, E ≤ b) : ∀ x ∈ bs, x ∉ List.range' B (E - B) := fun x hx hh => by
  have h1 := h x hx
  rw [List.mem_range'_1] at hh
  omega
theorem Sl.keptL {α : Type} {R : Rd α} {sz : Nat} {ok : Nat → Prop} {w w' : World} {A : Option Addr} {n : Nat} {xs : List α} {bs : List Nat} (h : Sl R sz ok w A n xs) (hR : Stays R) (hk : KeptL bs w w') (hd : ∀ b, ok b → b ∉ bs) : Sl R sz ok w' A n xs :=
  h.stays hR (fun _ h => h) fun p v hb hp => hk.far (hd _ hb) hp
theorem Row.keptL {w w' : World} {g : Nat} {T : TypeId} {cs : Array Value} {bs : List Nat} (h : Row w g T cs) (hk : KeptL bs w w') (hg : g ∉ bs) : Row w' g T cs := (hk.block g (lt_of_block h) hg).trans h
end Go.Proofs.Ytkinegapnknhiaa
namespace Go.Proofs.Ytkinegapnknhiaa
open Go.RowKit
set_option linter.unusedVariables false
set_option linter.unusedSimpArgs false

theorem Row.keptB {B E : Nat} {w w' : World} {g : Nat} {T : TypeId} {cs : Array Value} (h : Row w g T cs) (k : Kept B E w w') (hg : g < B ∨ E ≤ g) : Row w' g T cs := (k.block g (lt_of_block h) hg).trans h
theorem syncD_fits {x : Dz} (h : x.sz ≤ 1048576) : (syncD x).fits := by
  have h1 := Dz.fits_of h
  unfold syncD
  split
  · exact ⟨h1.1, h1.1, by simp⟩
  · exact ⟨by simp, by simp, by simp⟩
end Go.Proofs.Ytkinegapnknhiaa
namespace Go.Proofs.Ytkinegapnknhiaa
open Go.RowKit
set_option linter.unusedVariables false
set_option linter.unusedSimpArgs false

theorem OwnG.neRow {α : Type} {T T' : TypeId} {sz : Nat} {f : α → List Value} {w : World} {base : Nat} {v : Value} {xs : List α} (h : OwnG T sz f w base v xs) {g : Nat} {cs : Array Value} (hr : Row w g T' cs) (hT : T ≠ T') : v.ownBlock ≠ some g := fun e => by
  rcases h.2 with ⟨rfl, -⟩ | ⟨k, cap, cur, rfl, h1, h2, -⟩
  · cases e
  have e1 : k = g := by simpa [Value.ownBlock] using e
  subst e1
  have h3 : w.heap[k]? = some (.cells cs T' (0, 0)) := hr
  rw [h2] at h3
  injection h3 with h4
  injection h4 with _ h5 _
  exact hT h5
/-- A disk of a call's own, in a box of its own. -/
def DzBox (w : World) (base : Nat) (p : Value) (x : Dz) : Prop := ∃ (g : Nat) (v0 v1 v2 : Value), p = .pointer (some ⟨g, 0, none⟩) ∧ base ≤ g ∧ Row w g 27 #[v0, v1, v2] ∧ DzA w base (.agg #[v0, v1, v2]) x
theorem DzA.setRow {w : World} {base : Nat} {v : Value} {x : Dz} (h : DzA w base v x) {g : Nat} {cs : Array Value} (hr : Row w g 27 cs) {p : Addr} (hp : p.block = g) (u : Value) : DzA (w.setCell p u) base v x := by
  obtain ⟨v0, v1, v2, rfl, k0, k1, k2, hd⟩ := h
  subst hp
  exact ⟨v0, v1, v2, rfl, OwnG.setNe k0 (OwnG.neRow k0 hr (by decide)) u, OwnG.setNe k1 (OwnG.neRow k1 hr (by decide)) u, OwnG.setNe k2 (OwnG.neRow k2 hr (by decide)) u, hd⟩
theorem DzBox.store {w : World} {base g : Nat} {v0 v1 v2 a b c : Value} {x : Dz} (h : DzA w base (.agg #[v0, v1, v2]) x) (hr : Row w g 27 #[a, b, c]) (hg : base ≤ g) :
    DzBox (((w.setCell ⟨g, 0, none⟩ v0).setCell ⟨g, 1, none⟩ v1).setCell ⟨g, 2, none⟩ v2) base (.pointer (some ⟨g, 0, none⟩)) x :=
  ⟨g, v0, v1, v2, rfl, hg, ((hr.set 0 v0).set 1 v1).set 2 v2, ((h.setRow hr rfl v0).setRow (hr.set 0 v0) rfl v1).setRow ((hr.set 0 v0).set 1 v1) rfl v2⟩
theorem Below.set3 {w u : World} {G g : Nat} (h : Below G w u) (hg : G ≤ g) (v0 v1 v2 : Value) : Below G w (((u.setCell ⟨g, 0, none⟩ v0).setCell ⟨g, 1, none⟩ v1).setCell ⟨g, 2, none⟩ v2) := ((h.setCell hg _).setCell hg _).setCell hg _
/-- As DzA.open_; and no box lies in the blocks. -/
theorem DzA.openT {w : World} {base : Nat} {v : Value} {x : Dz} (h : DzA w base v x) (hf : x.fits) : ∃ (A0 : Option Addr) (c0 : Nat) (A1 : Option Addr) (c1 : Nat) (A2 : Option Addr) (c2 : Nat) (b0 b1 b2 : List Nat), v = .agg #[.slice A0 x.live.length c0, .slice A1 x.safe.length c1, .slice A2 x.ops.length c2] ∧
    Sl FzR 2 (okF base w) w A0 x.live.length x.live ∧ Sl FzR 2 (okF base w) w A1 x.safe.length x.safe ∧ Sl OzR 4 (okF base w) w A2 x.ops.length x.ops ∧
    FlS 2 w A0 x.live.length b0 ∧ FlS 2 w A1 x.safe.length b1 ∧ FlS 4 w A2 x.ops.length b2 ∧ (b0 ++ b1 ++ b2).Nodup ∧ (∀ b ∈ b0 ++ b1 ++ b2, base ≤ b ∧ b < w.heap.size) ∧ ∀ b ∈ b0 ++ b1 ++ b2, ∀ cs, ¬ Row w b 27 cs := by
  obtain ⟨v0, v1, v2, rfl, k0, k1, k2, hd⟩ := h
  have d02 : Dis v0 v2 := Dis.types k0 k2 (by decide)
  have d12 : Dis v1 v2 := Dis.types k1 k2 (by decide)
  obtain ⟨A0, c0, e0, s0, f0⟩ := OwnG.fl fz_cells fz_nosl k0 hf.1.1
  obtain ⟨A1, c1, e1, s1, f1⟩ := OwnG.fl fz_cells fz_nosl k1 hf.2.1.1
  obtain ⟨A2, c2, e2, s2, f2⟩ := OwnG.fl oz_cells oz_nosl k2 hf.2.2.1
  have hb : ∀ v, (blkL v).Nodup := fun v => by unfold blkL; split <;> simp
  have hm : ∀ b ∈ blkL v0 ++ blkL v1 ++ blkL v2, v0.ownBlock = some b ∨ v1.ownBlock = some b ∨ v2.ownBlock = some b := fun b hb => by
    rcases List.mem_append.1 hb with hb | hb
    · rcases List.mem_append.1 hb with hb | hb
      · exact .inl (mem_blkL.1 hb)
      · exact .inr (.inl (mem_blkL.1 hb))
    · exact .inr (.inr (mem_blkL.1 hb))
  refine ⟨A0, c0, A1, c1, A2, c2, blkL v0, blkL v1, blkL v2, by rw [e0, e1, e2], s0, s1, s2, f0, f1, f2, ?_, fun b hb => ?_, fun b hb cs hr => ?_⟩
  · rw [List.append_assoc, List.nodup_append]
    refine ⟨hb _, List.nodup_append.2 ⟨hb _, hb _, fun a ha b hb e => ?_⟩, fun a ha b hb e => ?_⟩
    · subst e; exact d12 _ (mem_blkL.1 ha) (mem_blkL.1 hb)
    · subst e
      rcases List.mem_append.1 hb with hb | hb
      · exact hd _ (mem_blkL.1 ha) (mem_blkL.1 hb)
      · exact d02 _ (mem_blkL.1 ha) (mem_blkL.1 hb)
  · rcases hm b hb with h | h | h
    · exact OwnG.block_lt k0 b h
    · exact OwnG.block_lt k1 b h
    · exact OwnG.block_lt k2 b h
  · rcases hm b hb with h | h | h
    · exact OwnG.neRow k0 hr (by decide) h
    · exact OwnG.neRow k1 hr (by decide) h
    · exact OwnG.neRow k2 hr (by decide) h
theorem mem_bytes {l : List Fz} {y : Fz} (h : y ∈ l) : y.data.size ≤ bytesF l := by
  unfold bytesF
  induction l with
  | nil => cases h
  | cons z r ih =>
    rw [List.map_cons, List.sum_cons]
    rcases List.mem_cons.1 h with rfl | h
    · omega
    · have := ih h; omega
theorem filesB_sz {l : List Fz} (h : filesB l = true) : l.length ≤ 1048576 ∧ ∀ y ∈ l, y.sz ≤ 1048576 := by
  have h1 := filesB_bytes h
  refine ⟨by omega, fun y hy => ?_⟩
  have h2 := mem_bytes hy
  have h3 := filesB_name h hy
  simp only [nameB, Bool.and_eq_true, decide_eq_true_eq] at h3
  unfold Fz.sz
  omega
theorem codeD_zero {x : Dz} {o : Oz} (h : codeD x o = 0) : filesB (doF x.live o).1 = true := by
  unfold codeD at h
  cases hf : filesB (doF x.live o).1
  · rw [hf] at h
    split at h
    · split at h
      · split at h <;> cases h
      · cases h
    · cases h
  · rfl
theorem actDo_fits {x : Dz} {o : Oz} (h : x.sz ≤ 1048576) (ho : o.sz ≤ 1048576) : (actDo x o).fits := by
  have h1 := Dz.fits_of h
  unfold actDo
  split
  · rename_i hd
    have hp := diskB_parts hd
    unfold actD
    split
    · rename_i hc
      refine ⟨filesB_sz (codeD_zero hc), h1.2.1, by simp only [List.length_append, List.length_cons, List.length_nil]; omega, fun y hy => ?_⟩
      · rcases List.mem_append.1 hy with hy | hy
        · exact h1.2.2.2 y hy
        · rw [List.mem_singleton.1 hy]; exact ho
    · exact h1
  · exact ⟨by simp, by simp, by simp⟩
end Go.Proofs.Ytkinegapnknhiaa
namespace Go.Proofs.Ytkinegapnknhiaa
open Go.RowKit
set_option linter.unusedVariables false
set_option linter.unusedSimpArgs false

def readL (l : List Fz) (s : List UInt8) : ByteArray := (findF l s).getD ⟨#[]⟩
def readT (x : Dz) (s : ByteArray) : ByteArray := if diskB x then readL x.live s.toList else ⟨#[]⟩
def readK (x : Dz) (s : ByteArray) : Bool := diskB x && (findF x.live s.toList).isSome
theorem read_no {x : Dz} {s : ByteArray} (h : diskB x = false) : readT x s = ⟨#[]⟩ ∧ readK x s = false := by unfold readT readK; rw [h]; exact ⟨rfl, rfl⟩
theorem read_none {x : Dz} {s : ByteArray} (hf : findF x.live s.toList = none) : readT x s = ⟨#[]⟩ ∧ readK x s = false := by
  unfold readT readK readL; rw [hf]
  refine ⟨?_, by simp⟩
  split <;> rfl
theorem read_some {x : Dz} {s d : ByteArray} (h : diskB x = true) (hf : findF x.live s.toList = some d) : readT x s = d ∧ readK x s = true := by unfold readT readK readL; rw [h, hf]; exact ⟨rfl, rfl⟩
theorem live_len {x : Dz} (h : x.sz ≤ 1048576) : x.live.length ≤ 1048576 := by unfold Dz.sz szL at h; omega

set_option maxRecDepth 100000 in
set_option maxHeartbeats 1000000 in
theorem specReadFile (x : Dz) (A0 : Option Addr) (n0 c0 : Nat) (A1 : Option Addr) (n1 c1 : Nat) (A2 : Option Addr) (n2 c2 : Nat) (s : ByteArray) (ok : Nat → Prop) (w : World) (h0 : Sl FzR 2 ok w A0 n0 x.live) (h1 : Sl FzR 2 ok w A1 n1 x.safe) (h2 : Sl OzR 4 ok w A2 n2 x.ops) (hs : x.sz ≤ 1048576) :
    Calls Try.prog 38 #[.agg #[.slice A0 n0 c0, .slice A1 n1 c1, .slice A2 n2 c2], .string s] w fun e w' => e = .returned (.tuple #[.string (readT x s), .bool (readK x s)]) ∧ Below w.heap.size w w' := by
  have rb := Row.new w 27 #[.slice A0 n0 c0, .slice A1 n1 c1, .slice A2 n2 c2]
  have hx := (Below.refl w.heap.size w).alloc (Nat.le_refl _) (.cells #[.slice A0 n0 c0, .slice A1 n1 c1, .slice A2 n2 c2] 27)
  go_enter Try.func38, Try.ntmps38
  go_wp2_with fail
  generalize w.alloc (.cells #[.slice A0 n0 c0, .slice A1 n1 c1, .slice A2 n2 c2] 27) = z at *
  refine (specDiskOk x A0 n0 c0 A1 n1 c1 A2 n2 c2 _ _ (h0.below FzR.stays hx) (h1.below FzR.stays hx) (h2.below OzR.stays hx) hs).mono ?_
  rintro e w1 ⟨rfl, hq⟩
  have hx := hx.trans (hq.mono hx.size)
  have rb := rb.below hq
  obtain ⟨⟨p0, p1, p2⟩, -⟩ := rb.three
  obtain rfl : x.live.length = n0 := h0.1
  clear hq
  cases e0 : diskB x
  · obtain ⟨t1, t2⟩ := read_no (s := s) e0
    have HR := Lib.hid (And.intro t1 t2)
    clear t1 t2
    go_wp2
    go_ret2
    exact ⟨by rw [HR.out.1, HR.out.2]; rfl, hx⟩
  go_wp2_with fail
  refine (specAt14 A0 x.live.length c0 x.live s _ _ (h0.below FzR.stays hx) (live_len hs)).mono ?_
  rintro e w2 ⟨⟨r, rfl, hr⟩, rfl⟩
  rcases hr with ⟨rfl, hf⟩ | ⟨i, rfl, hi, hf, -⟩
  · obtain ⟨t1, t2⟩ := read_none hf
    have HR := Lib.hid (And.intro t1 t2)
    clear t1 t2 hf
    go_wp2
    go_ret2
    exact ⟨by rw [HR.out.1, HR.out.2]; rfl, hx⟩
  · obtain ⟨b, off, -, rfl, q0', q1'⟩ := FzR.at_ h0 hi
    have q1 := below_keep hx _ _ q1'
    obtain ⟨t1, t2⟩ := read_some e0 hf
    have HR := Lib.hid (And.intro t1 t2)
    have i0 : (0 : Int) ≤ i := by omega
    have i0' : decide ((i : Int) < 0) = false := decide_eq_false (by omega)
    have i1 : (i : Int) < x.live.length := by omega
    clear t1 t2 hf q0' q1'
    go_wp2
    go_ret2
    exact ⟨by rw [HR.out.1, HR.out.2]; rfl, hx⟩

set_option maxRecDepth 100000 in
set_option maxHeartbeats 1000000 in
theorem implDataOf (A : Option Addr) (n c : Nat) (l : List Fz) (s : ByteArray) (ok : Nat → Prop) (w : World) (h : Sl FzR 2 ok w A n l) (hn : n ≤ 1048576) :
    Calls Try.prog 59 #[.slice A n c, .string s] w fun e w' => e = .returned (.tuple #[.string (readL l s.toList), .bool (findF l s.toList).isSome]) ∧ Below w.heap.size w w' := by
  obtain rfl : l.length = n := h.1
  go_enter Try.func59, Try.ntmps59
  go_wp2
  go_loopw [10] (fun i wr => ∃ k : Nat, k ≤ l.length ∧ i = .int .i64 k ∧ Hid (∀ x ∈ l.take k, x.nm ≠ s.toList) ∧ Below w.heap.size w wr) (fun i _ => l.length - (intOf i).toNat)
  case atStart => exact ⟨0, by omega, rfl, Lib.hid (by simp), Below.refl _ _⟩
  case round =>
    obtain ⟨k, hk, rfl, hno, hb⟩ := hrel
    by_cases hlt : k < l.length
    · obtain ⟨b, off, -, rfl, q0, q1⟩ := FzR.at_ (h.below FzR.stays hb) hlt
      have hba := hb.alloc hb.size (.cells #[.string l[k].name, .string l[k].data] 75)
      have i0 : (0 : Int) ≤ k := by omega
      have i1 : (k : Int) < l.length := by omega
      by_cases he : l[k].name.toList = s.toList
      · have hf := findF_at hlt hno.out he
        have HR := Lib.hid (show readL l s.toList = l[k].data ∧ (findF l s.toList).isSome = true by unfold readL; rw [hf]; exact ⟨rfl, rfl⟩)
        have he' : (l[k].name.toList == s.toList) = true := by simpa using he
        clear he hf
        go_wp2
        go_ret2
        exact ⟨by rw [HR.out.1, HR.out.2]; rfl, hba⟩
      · have HN := Lib.hid (show ∀ x ∈ l.take (k + 1), x.nm ≠ s.toList by
          intro x hx
          rw [List.take_succ_eq_append_getElem hlt] at hx
          rcases List.mem_append.1 hx with hx | hx
          · exact hno.out x hx
          · obtain rfl := List.mem_singleton.1 hx; exact he)
        have he' : (l[k].name.toList == s.toList) = false := by simpa using he
        clear he
        go_wp2
        go_roundw
        case rel => exact ⟨k + 1, by omega, by go_num, HN, hba⟩
        case measure => simp [intOf]; omega
    · have e : l.take k = l := List.take_of_length_le (by omega)
      have h1 := hno.out
      rw [e] at h1
      have hf := findF_none h1
      have HR := Lib.hid (show readL l s.toList = ⟨#[]⟩ ∧ (findF l s.toList).isSome = false by unfold readL; rw [hf]; exact ⟨rfl, rfl⟩)
      clear h1 e hno hf
      go_wp2
      go_ret2
      exact ⟨by rw [HR.out.1, HR.out.2]; rfl, hb⟩

set_option maxRecDepth 100000 in
set_option maxHeartbeats 1000000 in
theorem implReadFile (x : Dz) (A0 : Option Addr) (n0 c0 : Nat) (A1 : Option Addr) (n1 c1 : Nat) (A2 : Option Addr) (n2 c2 : Nat) (s : ByteArray) (ok : Nat → Prop) (w : World) (h0 : Sl FzR 2 ok w A0 n0 x.live) (h1 : Sl FzR 2 ok w A1 n1 x.safe) (h2 : Sl OzR 4 ok w A2 n2 x.ops) (hs : x.sz ≤ 1048576) :
    Calls Try.prog 22 #[.agg #[.slice A0 n0 c0, .slice A1 n1 c1, .slice A2 n2 c2], .string s] w fun e w' => e = .returned (.tuple #[.string (readT x s), .bool (readK x s)]) ∧ Below w.heap.size w w' := by
  have rb := Row.new w 27 #[.slice A0 n0 c0, .slice A1 n1 c1, .slice A2 n2 c2]
  have hx := (Below.refl w.heap.size w).alloc (Nat.le_refl _) (.cells #[.slice A0 n0 c0, .slice A1 n1 c1, .slice A2 n2 c2] 27)
  go_enter Try.func22, Try.ntmps22
  go_wp2_with fail
  generalize w.alloc (.cells #[.slice A0 n0 c0, .slice A1 n1 c1, .slice A2 n2 c2] 27) = z at *
  refine (implDiskOk x A0 n0 c0 A1 n1 c1 A2 n2 c2 _ _ (h0.below FzR.stays hx) (h1.below FzR.stays hx) (h2.below OzR.stays hx) hs).mono ?_
  rintro e w1 ⟨rfl, hq⟩
  have hx := hx.trans (hq.mono hx.size)
  have rb := rb.below hq
  obtain ⟨⟨p0, p1, p2⟩, -⟩ := rb.three
  obtain rfl : x.live.length = n0 := h0.1
  clear hq
  cases e0 : diskB x
  · obtain ⟨t1, t2⟩ := read_no (s := s) e0
    have HR := Lib.hid (And.intro t1 t2)
    clear t1 t2
    go_wp2
    go_ret2
    exact ⟨by rw [HR.out.1, HR.out.2]; rfl, hx⟩
  have HR := Lib.hid (show readT x s = readL x.live s.toList ∧ readK x s = (findF x.live s.toList).isSome by unfold readT readK; rw [e0]; exact ⟨rfl, rfl⟩)
  go_wp2_with fail
  refine (implDataOf A0 x.live.length c0 x.live s _ _ (h0.below FzR.stays hx) (live_len hs)).mono ?_
  rintro e w2 ⟨rfl, hb⟩
  have hbe := hx.trans (hb.mono hx.size)
  go_wp2
  go_ret2
  exact ⟨by rw [HR.out.1, HR.out.2]; rfl, hbe⟩
end Go.Proofs.Ytkinegapnknhiaa
namespace Go.Proofs.Ytkinegapnknhiaa
open Go.RowKit Go.Maps
set_option linter.unusedVariables false
set_option linter.unusedSimpArgs false

def freshN (n : ByteArray) : ByteArray := n ++ ⟨#[46, 110, 101, 119]⟩
def cutO (l : List Fz) (n : ByteArray) : List Oz := if (findF l n.toList).isSome then [⟨3, n, ⟨#[]⟩, ⟨#[]⟩⟩] else []
def putO (n d : ByteArray) : List Oz := [⟨1, freshN n, ⟨#[]⟩, d⟩, ⟨2, freshN n, n, ⟨#[]⟩⟩]
def opsR (l : List Fz) (n d : ByteArray) : List Oz := cutO l (freshN n) ++ putO n d
/-- Ops one behind the other, up to the first that is refused. -/
def seqD : List Oz → Dz → Dz × Int
  | [], x => (x, 0)
  | o :: r, x => if codeD x o = 0 then seqD r (actD x o) else (x, codeD x o)
def codeR (x : Dz) (n d : ByteArray) : Int := if diskB x then (seqD (opsR x.live n d) x).2 else 1
def replD (x : Dz) (n d : ByteArray) : Dz := if diskB x then (if (seqD (opsR x.live n d) x).2 = 0 then (seqD (opsR x.live n d) x).1 else x) else ⟨[], [], []⟩
/-- A disk on which ops may be done. -/
def rightD (x : Dz) : Prop := filesB x.live = true ∧ x.safe.length ≤ 1048576 ∧ x.ops.length ≤ 200
theorem actD_right {x : Dz} {o : Oz} (h : rightD x) (hc : codeD x o = 0) : rightD (actD x o) := by
  have hm : x.ops.length ≠ 200 := fun e => by
    unfold codeD at hc
    rw [if_pos e] at hc
    split at hc
    · split at hc <;> cases hc
    · cases hc
  unfold actD
  rw [if_pos hc]
  exact ⟨codeD_zero hc, h.2.1, by have := h.2.2; simp only [List.length_append, List.length_cons, List.length_nil]; omega⟩
theorem seqD_at {ops : List Oz} {k : Nat} (h : k < ops.length) (x : Dz) : seqD (ops.drop k) x = if codeD x ops[k] = 0 then seqD (ops.drop (k + 1)) (actD x ops[k]) else (x, codeD x ops[k]) := by
  rw [List.drop_eq_getElem_cons h]; rfl
theorem fresh_size {n : ByteArray} (h : n.size ≤ 1048576) : (freshN n).size ≤ 1048580 := by
  have e : (⟨#[46, 110, 101, 119]⟩ : ByteArray).size = 4 := rfl
  unfold freshN
  rw [ByteArray.size_append, e]
  omega
theorem flat_fits {x : Dz} {o : Oz} (h : x.fits) (ho : o.sz ≤ 1048576) (hr : x.ops.length ≤ 1048575) : (actD x o).fits := by
  unfold actD
  split
  · rename_i hc
    refine ⟨filesB_sz (codeD_zero hc), h.2.1, by simp only [List.length_append, List.length_cons, List.length_nil]; omega, fun y hy => ?_⟩
    rcases List.mem_append.1 hy with hy | hy
    · exact h.2.2.2 y hy
    · rw [List.mem_singleton.1 hy]; exact ho
  · exact h

set_option maxRecDepth 100000 in
theorem implOpsToWrite (n d : ByteArray) (w : World) (hn : n.size ≤ 1048576) :
    Calls Try.prog 90 #[.string n, .string d] w fun e w' => (∃ v, e = .returned v ∧ OwnO w' w.heap.size v (putO n d)) ∧ Below w.heap.size w w' := by
  have hs : n.size + 4 ≤ 9223372036854775807 := by omega
  have HO := Lib.hid (show OwnO (w.alloc (.cells #[.int .i64 1, .string (n ++ (⟨#[46, 110, 101, 119]⟩ : ByteArray)), .string ⟨#[]⟩, .string d, .int .i64 2, .string (n ++ (⟨#[46, 110, 101, 119]⟩ : ByteArray)), .string n, .string ⟨#[]⟩] 36)) w.heap.size (.slice (some ⟨w.heap.size, 0, none⟩) 2 2) (putO n d) from World.ownsRow_lit (e := 36) (size := 4) w #[.int .i64 1, .string (n ++ (⟨#[46, 110, 101, 119]⟩ : ByteArray)), .string ⟨#[]⟩, .string d, .int .i64 2, .string (n ++ (⟨#[46, 110, 101, 119]⟩ : ByteArray)), .string n, .string ⟨#[]⟩] 2 (Nat.le_refl _) (by unfold maxLen; omega) rfl)
  go_enter Try.func90, Try.ntmps90
  go_wp2_with fail
  go_ret
  exact ⟨⟨_, rfl, HO.out⟩, (Below.refl _ _).alloc (Nat.le_refl _) _⟩

set_option maxRecDepth 100000 in
theorem implOpsToRemove (A : Option Addr) (m c : Nat) (l : List Fz) (n : ByteArray) (ok : Nat → Prop) (w : World) (h : Sl FzR 2 ok w A m l) (hm : m ≤ 1048576) :
    Calls Try.prog 89 #[.slice A m c, .string n] w fun e w' => (∃ v, e = .returned v ∧ OwnO w' w.heap.size v (cutO l n)) ∧ Below w.heap.size w w' := by
  go_enter Try.func89, Try.ntmps89
  go_wp2_with fail
  refine (implDataOf A m c l n _ _ h hm).mono ?_
  rintro e w1 ⟨rfl, hb⟩
  have HB := Lib.hid hb
  have HS := Lib.hid hb.size
  clear hb
  cases e0 : (findF l n.toList).isSome
  · have HC := Lib.hid (show cutO l n = [] by unfold cutO; rw [e0]; rfl)
    clear e0
    go_wp2_with fail
    go_ret
    exact ⟨⟨_, rfl, by rw [HC.out]; exact OwnG.nil _ _⟩, HB.out⟩
  have HC := Lib.hid (show cutO l n = [⟨3, n, ⟨#[]⟩, ⟨#[]⟩⟩] by unfold cutO; rw [e0]; rfl)
  have HO := Lib.hid (show OwnO (w1.alloc (.cells #[.int .i64 3, .string n, .string ⟨#[]⟩, .string ⟨#[]⟩] 36)) w.heap.size (.slice (some ⟨w1.heap.size, 0, none⟩) 1 1) [⟨3, n, ⟨#[]⟩, ⟨#[]⟩⟩] from World.ownsRow_lit (e := 36) (size := 4) w1 #[.int .i64 3, .string n, .string ⟨#[]⟩, .string ⟨#[]⟩] 1 HS.out (by unfold maxLen; omega) rfl)
  clear e0
  go_wp2_with fail
  go_ret
  exact ⟨⟨_, rfl, by rw [HC.out]; exact HO.out⟩, HB.out.alloc HS.out _⟩

set_option maxRecDepth 100000 in
theorem implOpsToReplace (A : Option Addr) (m c : Nat) (l : List Fz) (n d : ByteArray) (ok : Nat → Prop) (w : World) (h : Sl FzR 2 ok w A m l) (hm : m ≤ 1048576) (hn : n.size ≤ 1048576) :
    Calls Try.prog 62 #[.slice A m c, .string n, .string d] w fun e w' => (∃ v, e = .returned v ∧ OwnO w' w.heap.size v (opsR l n d)) ∧ Below w.heap.size w w' := by
  have hs : n.size + 4 ≤ 9223372036854775807 := by omega
  obtain ⟨j0, hi, hz0, hz1, hz2⟩ := info_parts infoDOpT
  have J1 := Lib.hid hi
  have J2 := Lib.hid hz0
  have J3 := Lib.hid hz1
  have J4 := Lib.hid hz2
  clear hi hz0 hz1 hz2
  go_enter Try.func62, Try.ntmps62
  go_wp2_with fail
  refine (implOpsToRemove A m c l (n ++ (⟨#[46, 110, 101, 119]⟩ : ByteArray)) _ _ h hm).mono ?_
  rintro e w1 ⟨⟨v1, rfl, o1⟩, hb1⟩
  have O1 := Lib.hid o1
  have HB1 := Lib.hid hb1
  clear o1 hb1
  go_wp2_with fail
  refine (implOpsToWrite n d _ hn).mono ?_
  rintro e w2 ⟨⟨v2, rfl, o2⟩, hb2⟩
  have O1 := Lib.hid (OwnG.below O1.out hb2)
  have HB2 := Lib.hid (HB1.out.trans (hb2.mono HB1.out.size))
  obtain ⟨A2, c2, rfl, -, -, hs2⟩ := o2.sl
  have HL := Lib.hid (show (cutO l (n ++ (⟨#[46, 110, 101, 119]⟩ : ByteArray))).length ≤ 1 by unfold cutO; split <;> simp)
  have hA2 : ∃ a2 : Addr, A2 = some a2 := by obtain ⟨b, off, e, -⟩ := hs2.2 (by simp [putO]); exact ⟨_, e⟩
  obtain ⟨a2, rfl⟩ := hA2
  have hcl : ∀ j u, ((putO n d).map Oz.cells).flatten[j]? = some u → w2.cell? (a2.add j) = some u := by
    obtain ⟨b, off, e, -, -⟩ := hs2.2 (by simp [putO])
    injection e with e
    subst e
    intro j u hj
    exact flat_cells oz_cells (by omega) hs2 j u hj
  have HCL := Lib.hid hcl
  clear o2 hb2 hs2 hcl
  go_wp2_with (at_builtin; go_loud (refine wpList_append_own_at _ rfl _ _ 25 rfl w.heap.size 36 j0 (.agg #[.int .i64 0, .string ⟨#[]⟩, .string ⟨#[]⟩, .string ⟨#[]⟩]) 4 56 Try.underlying25 J1.out J2.out J3.out J4.out rfl (by decide) _ _ _ rfl O1.out a2 2 c2 (((putO n d).map Oz.cells).flatten) rfl rfl ?c1 ?c2 ?c3 ?c4 ?c5 ?_))
  case c1 => exact HCL.out
  case c2 => intro u hu; simp [putO, Oz.cells] at hu; rcases hu with rfl | rfl | rfl | rfl | rfl | rfl | rfl | rfl <;> rfl
  case c3 => have := HL.out; unfold maxLen; omega
  case c4 => have := HL.out; omega
  case c5 => exact HB2.out.size
  intro v6 w6 hown6 hgrow _ _
  have O6 := Lib.hid (show OwnO w6 w.heap.size v6 (opsR l n d) by
    have e : (cutO l (n ++ (⟨#[46, 110, 101, 119]⟩ : ByteArray))).length + 2 = (opsR l n d).length := by unfold opsR; rw [List.length_append]; rfl
    show World.ownsRow _ _ _ _ _ _ _
    rw [← e]
    unfold opsR
    rw [List.map_append, List.flatten_append]
    exact hown6)
  have hb6 : Below w.heap.size w w6 := HB2.out.grown hgrow HB2.out.size (fun k hk => (OwnG.block_lt O1.out k hk).1)
  clear hown6 hgrow
  go_wp2_with fail
  go_ret
  exact ⟨⟨_, rfl, O6.out⟩, hb6⟩

theorem replD_no {x : Dz} {n d : ByteArray} (h : diskB x = false) : codeR x n d = 1 ∧ replD x n d = ⟨[], [], []⟩ := by unfold codeR replD; rw [h]; exact ⟨rfl, rfl⟩
theorem replD_err {x : Dz} {n d : ByteArray} {k : Int} (h : diskB x = true) (hk : (seqD (opsR x.live n d) x).2 = k) (h0 : k ≠ 0) : codeR x n d = k ∧ replD x n d = x := by
  unfold codeR replD; rw [h, hk]; exact ⟨rfl, by simp [h0]⟩
theorem replD_ok {x y : Dz} {n d : ByteArray} (h : diskB x = true) (hk : seqD (opsR x.live n d) x = (y, 0)) : codeR x n d = 0 ∧ replD x n d = y := by
  unfold codeR replD; rw [h, hk]; exact ⟨rfl, rfl⟩
theorem seqD_step {o : Oz} {r : List Oz} {x : Dz} (h : codeD x o = 0) : seqD (o :: r) x = seqD r (actD x o) := by show (if codeD x o = 0 then _ else _) = _; rw [if_pos h]
theorem seqD_stop {o : Oz} {r : List Oz} {x : Dz} (h : codeD x o ≠ 0) : seqD (o :: r) x = (x, codeD x o) := by show (if codeD x o = 0 then _ else _) = _; rw [if_neg h]

set_option maxRecDepth 100000 in
set_option maxHeartbeats 4000000 in
theorem specReplace (x : Dz) (n d : ByteArray) (A0 : Option Addr) (n0 c0 : Nat) (A1 : Option Addr) (n1 c1 : Nat) (A2 : Option Addr) (n2 c2 : Nat) (ok : Nat → Prop) (w : World) (h0 : Sl FzR 2 ok w A0 n0 x.live) (h1 : Sl FzR 2 ok w A1 n1 x.safe) (h2 : Sl OzR 4 ok w A2 n2 x.ops) (hs : x.sz ≤ 1048576) (hn : n.size ≤ 1048576) (hd : d.size ≤ 1048576) :
    Calls Try.prog 25 #[.agg #[.slice A0 n0 c0, .slice A1 n1 c1, .slice A2 n2 c2], .string n, .string d] w fun e w' => (∃ v, e = .returned (.tuple #[v, .int .i64 (codeR x n d)]) ∧ DzA w' w.heap.size v (replD x n d)) ∧ Below w.heap.size w w' := by
  obtain ⟨hx, hwz⟩ := box2 w (.cells #[.slice A0 n0 c0, .slice A1 n1 c1, .slice A2 n2 c2] 27) (.cells #[.slice none 0 0, .slice none 0 0, .slice none 0 0] 27)
  have ra := (Row.new w 27 #[.slice A0 n0 c0, .slice A1 n1 c1, .slice A2 n2 c2]).alloc (.cells #[.slice none 0 0, .slice none 0 0, .slice none 0 0] 27)
  have rb := Row.newAt (w.alloc (.cells #[.slice A0 n0 c0, .slice A1 n1 c1, .slice A2 n2 c2] 27)) 27 #[.slice none 0 0, .slice none 0 0, .slice none 0 0] (w.heap.size + 1) (by simp)
  have HI := Lib.hid infoDisk
  have HL := Lib.hid (sz_lens hs)
  have hns : n.size + 4 ≤ 9223372036854775807 := by omega
  go_enter Try.func25, Try.ntmps25
  go_wp2_with fail
  generalize (w.alloc (.cells #[.slice A0 n0 c0, .slice A1 n1 c1, .slice A2 n2 c2] 27)).alloc (.cells #[.slice none 0 0, .slice none 0 0, .slice none 0 0] 27) = z at *
  refine (specDiskOk x A0 n0 c0 A1 n1 c1 A2 n2 c2 _ _ (h0.below FzR.stays hx) (h1.below FzR.stays hx) (h2.below OzR.stays hx) hs).mono ?_
  rintro e w1 ⟨rfl, hq⟩
  have hx := hx.trans (hq.mono hx.size)
  have hwz := Nat.le_trans hwz hq.size
  have HZ1 := Lib.hid hwz
  have ra := ra.below hq
  have rb := rb.below hq
  clear hq
  obtain ⟨⟨p0, p1, p2⟩, -⟩ := ra.three
  obtain ⟨⟨r0, r1, r2⟩, ⟨f0, f1, f2⟩⟩ := rb.three
  cases e0 : diskB x
  · have HA := Lib.hid (replD_no (n := n) (d := d) e0)
    have RR := Lib.hid rb
    clear ra rb
    go_wp2_with fail
    have hr9 := (((RR.out).set 0 (.slice none 0 0)).set 1 (.slice none 0 0)).set 2 (.slice none 0 0)
    refine bodyPost_ret (results_cell_row2 (p := 6) (u := 7) (ty := 27) rfl _ _ (w.heap.size + 1) 27 #[.slice none 0 0, .slice none 0 0, .slice none 0 0] (0, 0) _ rfl rfl hr9 Try.underlying27 rfl HI.out) rfl ⟨⟨.agg #[.slice none 0 0, .slice none 0 0, .slice none 0 0], ?_, ?_⟩, ?_⟩
    · rw [HA.out.1]; rfl
    · refine DzA.mono (base := w.heap.size + 2) ?_ (by omega)
      rw [HA.out.2]
      refine DzA.set (DzA.set (DzA.set (DzA.nil _ _) ?_ _) ?_ _) ?_ _ <;> (exact Nat.lt_succ_self _)
    · exact ((hx.setCell (Nat.le_add_right _ 1) _).setCell (Nat.le_add_right _ 1) _).setCell (Nat.le_add_right _ 1) _
  have HP := Lib.hid (diskB_parts e0)
  have E0 := Lib.hid e0
  have HLC := Lib.hid (show n0 ≤ 1048576 ∧ n1 ≤ 1048576 ∧ n2 ≤ 1048576 from ⟨by rw [← h0.1]; exact HL.out.1, by rw [← h1.1]; exact HL.out.2.1, by rw [← h2.1]; exact HL.out.2.2⟩)
  have HRT := Lib.hid (show rightD x from ⟨HP.out.1, HL.out.2.1, HP.out.2.2⟩)
  clear e0
  have hal := (Below.refl w1.heap.size w1).alloc (Nat.le_refl _) (.cells #[.slice A0 n0 c0, .slice A1 n1 c1, .slice A2 n2 c2] 27)
  have rn := Row.new w1 27 #[.slice A0 n0 c0, .slice A1 n1 c1, .slice A2 n2 c2]
  have hx := hx.alloc hx.size (.cells #[.slice A0 n0 c0, .slice A1 n1 c1, .slice A2 n2 c2] 27)
  have ra := ra.below hal
  have rb := rb.below hal
  have HGN := Lib.hid (show w.heap.size + 2 ≤ w1.heap.size from hwz)
  have HZ := Lib.hid (Nat.le_trans hwz hal.size)
  clear r0 r1 r2 f0 f1 f2 hal hwz
  obtain ⟨⟨p0, p1, p2⟩, -⟩ := ra.three
  obtain ⟨⟨r0, r1, r2⟩, ⟨f0, f1, f2⟩⟩ := rb.three
  obtain ⟨⟨t0, t1, t2⟩, -⟩ := rn.three
  go_wp2_with fail
  generalize w1.alloc (.cells #[.slice A0 n0 c0, .slice A1 n1 c1, .slice A2 n2 c2] 27) = z1 at *
  generalize w1.heap.size = gn at *
  refine (specAt14 A0 n0 c0 x.live (n ++ (⟨#[46, 110, 101, 119]⟩ : ByteArray)) _ _ (h0.below FzR.stays hx) HLC.out.1).mono ?_
  rintro e w2 ⟨⟨r, rfl, hr⟩, rfl⟩
  rcases hr with ⟨rfl, hf⟩ | ⟨i, rfl, hi, hf, -⟩
  · have HOP := Lib.hid (show opsR x.live n d = [⟨1, (n ++ (⟨#[46, 110, 101, 119]⟩ : ByteArray)), ⟨#[]⟩, d⟩, ⟨2, (n ++ (⟨#[46, 110, 101, 119]⟩ : ByteArray)), n, ⟨#[]⟩⟩] by unfold opsR cutO freshN; rw [hf]; rfl)
    clear hf
    go_wp2_with fail
    refine (specAct x (⟨1, (n ++ (⟨#[46, 110, 101, 119]⟩ : ByteArray)), ⟨#[]⟩, d⟩ : Oz) A0 n0 c0 A1 n1 c1 A2 n2 c2 _ _ (h0.below FzR.stays hx) (h1.below FzR.stays hx) (h2.below OzR.stays hx) ⟨HRT.out.1, HRT.out.2.1, by have := HRT.out.2.2; omega⟩ (by first | (show d.size ≤ _; omega) | (show (⟨#[]⟩ : ByteArray).size ≤ _; exact Nat.zero_le _))).mono ?_
    rintro e w3 ⟨⟨v, rfl, hv⟩, hq⟩
    have hx := hx.trans (hq.mono hx.size)
    have HZ := Lib.hid (Nat.le_trans HZ.out hq.size)
    have ra := ra.below hq
    have rb := rb.below hq
    have rn := rn.below hq
    have HB0 := Lib.hid hq.size
    obtain ⟨v0, v1, v2, rfl, k0, k1, k2, -⟩ := id hv
    obtain ⟨B0, m0, d0, rfl⟩ := k0.len
    obtain ⟨B1, m1, d1, rfl⟩ := k1.len
    obtain ⟨B2, m2, d2, rfl⟩ := k2.len
    clear k0 k1 k2
    clear p0 p1 p2 r0 r1 r2 f0 f1 f2 t0 t1 t2
    obtain ⟨⟨q0, q1, q2⟩, ⟨u0, u1, u2⟩⟩ := rn.three
    have hv := ((hv.setRow rn rfl (.slice B0 m0 d0)).setRow (p := ⟨gn, 1, none⟩) (rn.set 0 (.slice B0 m0 d0)) rfl (.slice B1 m1 d1)).setRow (p := ⟨gn, 2, none⟩) ((rn.set 0 (.slice B0 m0 d0)).set 1 (.slice B1 m1 d1)) rfl (.slice B2 m2 d2)
    have hxs := Below.set3 hx (g := gn) (by have := HGN.out; omega) (.slice B0 m0 d0) (.slice B1 m1 d1) (.slice B2 m2 d2)
    have ra := ((ra.far (p := ⟨gn, 0, none⟩) (by have := HGN.out; simp; omega) (.slice B0 m0 d0)).far (p := ⟨gn, 1, none⟩) (by have := HGN.out; simp; omega) (.slice B1 m1 d1)).far (p := ⟨gn, 2, none⟩) (by have := HGN.out; simp; omega) (.slice B2 m2 d2)
    have rb := ((rb.far (p := ⟨gn, 0, none⟩) (by have := HGN.out; simp; omega) (.slice B0 m0 d0)).far (p := ⟨gn, 1, none⟩) (by have := HGN.out; simp; omega) (.slice B1 m1 d1)).far (p := ⟨gn, 2, none⟩) (by have := HGN.out; simp; omega) (.slice B2 m2 d2)
    have rn := show Row _ gn _ #[.slice B0 m0 d0, .slice B1 m1 d1, .slice B2 m2 d2] from ((rn.set 0 (.slice B0 m0 d0)).set 1 (.slice B1 m1 d1)).set 2 (.slice B2 m2 d2)
    have hx := hxs
    clear hxs hq
    have HZ := Lib.hid (show w.heap.size + 2 ≤ (((w3.setCell ⟨gn, 0, none⟩ (.slice B0 m0 d0)).setCell ⟨gn, 1, none⟩ (.slice B1 m1 d1)).setCell ⟨gn, 2, none⟩ (.slice B2 m2 d2)).heap.size by have := HZ.out; simp only [World.setCell, Array.size_modify]; omega)
    obtain ⟨⟨p0, p1, p2⟩, -⟩ := ra.three
    obtain ⟨⟨r0, r1, r2⟩, ⟨f0, f1, f2⟩⟩ := rb.three
    obtain ⟨⟨t0, t1, t2⟩, -⟩ := rn.three
    by_cases hc : codeD x (⟨1, (n ++ (⟨#[46, 110, 101, 119]⟩ : ByteArray)), ⟨#[]⟩, d⟩ : Oz) = 0
    case neg =>
      have HC := Lib.hid (replD_err (n := n) (d := d) E0.out (show (seqD (opsR x.live n d) x).2 = codeD x (⟨1, (n ++ (⟨#[46, 110, 101, 119]⟩ : ByteArray)), ⟨#[]⟩, d⟩ : Oz) by rw [HOP.out, seqD_stop hc]) hc)
      have hc' : (codeD x (⟨1, (n ++ (⟨#[46, 110, 101, 119]⟩ : ByteArray)), ⟨#[]⟩, d⟩ : Oz) == 0) = false := by simpa using hc
      have hc2 : decide (codeD x (⟨1, (n ++ (⟨#[46, 110, 101, 119]⟩ : ByteArray)), ⟨#[]⟩, d⟩ : Oz) = 0) = false := decide_eq_false hc
      generalize codeD x (⟨1, (n ++ (⟨#[46, 110, 101, 119]⟩ : ByteArray)), ⟨#[]⟩, d⟩ : Oz) = kc at *
      have hc3 : (kc != 0) = true := by simpa using hc
      go_wp2_with fail
      generalize ((w3.setCell ⟨gn, 0, none⟩ (.slice B0 m0 d0)).setCell ⟨gn, 1, none⟩ (.slice B1 m1 d1)).setCell ⟨gn, 2, none⟩ (.slice B2 m2 d2) = y at *
      refine (specCopy x A0 n0 c0 A1 n1 c1 A2 n2 c2 _ _ (h0.below FzR.stays hx) (h1.below FzR.stays hx) (h2.below OzR.stays hx) HLC.out).mono ?_
      rintro e w9 ⟨⟨v, rfl, hv⟩, hq9⟩
      have hxe := hx.trans (hq9.mono hx.size)
      have RR := Lib.hid (rb.below hq9)
      have HV := Lib.hid (hv.mono (base' := w.heap.size + 2) HZ.out)
      obtain ⟨v0, v1, v2, rfl, k0, k1, k2, -⟩ := hv
      obtain ⟨C0, m0, e0, rfl⟩ := k0.len
      obtain ⟨C1, m1, e1, rfl⟩ := k1.len
      obtain ⟨C2, m2, e2, rfl⟩ := k2.len
      clear p0 p1 p2 r0 r1 r2 f0 f1 f2 k0 k1 k2 hq9
      have rr := RR.out
      obtain ⟨⟨r0, r1, r2⟩, ⟨f0, f1, f2⟩⟩ := rr.three
      clear rr
      go_wp2_with fail
      have hr9 := (((RR.out).set 0 (.slice C0 m0 e0)).set 1 (.slice C1 m1 e1)).set 2 (.slice C2 m2 e2)
      refine bodyPost_ret (results_cell_row2 (p := 6) (u := 7) (ty := 27) rfl _ _ (w.heap.size + 1) 27 #[.slice C0 m0 e0, .slice C1 m1 e1, .slice C2 m2 e2] (0, 0) _ rfl rfl hr9 Try.underlying27 rfl HI.out) rfl ⟨⟨.agg #[.slice C0 m0 e0, .slice C1 m1 e1, .slice C2 m2 e2], ?_, ?_⟩, ?_⟩
      · rw [HC.out.1]; rfl
      · refine DzA.mono (base := w.heap.size + 2) ?_ (by omega)
        rw [HC.out.2]
        refine DzA.set (DzA.set (DzA.set (HV.out) ?_ _) ?_ _) ?_ _ <;> (exact Nat.lt_succ_self _)
      · exact ((hxe.setCell (Nat.le_add_right _ 1) _).setCell (Nat.le_add_right _ 1) _).setCell (Nat.le_add_right _ 1) _
    have HC0 := Lib.hid hc
    rw [hc]
    have RT0 := Lib.hid (actD_right HRT.out hc)
    clear hc
    go_wp2_with fail
    generalize ((w3.setCell ⟨gn, 0, none⟩ (.slice B0 m0 d0)).setCell ⟨gn, 1, none⟩ (.slice B1 m1 d1)).setCell ⟨gn, 2, none⟩ (.slice B2 m2 d2) = y3 at *
    obtain ⟨w0', w1', w2', ew, K0, K1, K2, -⟩ := hv
    injection ew with ew
    injection ew with ew
    injection ew with ea ew
    injection ew with eb ew
    injection ew with ec ew
    subst ea eb ec
    obtain ⟨D0, g0, ed, -, -, s0⟩ := (show OwnZ _ _ _ _ from K0).sl
    obtain ⟨D1, g1, ee, -, -, s1⟩ := (show OwnZ _ _ _ _ from K1).sl
    obtain ⟨D2, g2, ef, -, -, s2⟩ := (show OwnO _ _ _ _ from K2).sl
    injection ed with ed1 ed2 ed3
    injection ee with ee1 ee2 ee3
    injection ef with ef1 ef2 ef3
    subst ed1 ed2 ed3 ee1 ee2 ee3 ef1 ef2 ef3
    clear K0 K1 K2
    refine (specAct (actD x (⟨1, (n ++ (⟨#[46, 110, 101, 119]⟩ : ByteArray)), ⟨#[]⟩, d⟩ : Oz)) (⟨2, (n ++ (⟨#[46, 110, 101, 119]⟩ : ByteArray)), n, ⟨#[]⟩⟩ : Oz) _ _ _ _ _ _ _ _ _ _ _ s0 s1 s2 ⟨RT0.out.1, RT0.out.2.1, by have := RT0.out.2.2; omega⟩ (by first | (show d.size ≤ _; omega) | (show (⟨#[]⟩ : ByteArray).size ≤ _; exact Nat.zero_le _))).mono ?_
    rintro e w4 ⟨⟨v, rfl, hv⟩, hq⟩
    have hx := hx.trans (hq.mono hx.size)
    have HZ := Lib.hid (Nat.le_trans HZ.out hq.size)
    have ra := ra.below hq
    have rb := rb.below hq
    have rn := rn.below hq
    have HB1 := Lib.hid hq.size
    obtain ⟨v0, v1, v2, rfl, k0, k1, k2, -⟩ := id hv
    obtain ⟨B0, m0, d0, rfl⟩ := k0.len
    obtain ⟨B1, m1, d1, rfl⟩ := k1.len
    obtain ⟨B2, m2, d2, rfl⟩ := k2.len
    clear k0 k1 k2
    clear p0 p1 p2 r0 r1 r2 f0 f1 f2 t0 t1 t2 u0 u1 u2
    obtain ⟨⟨q0, q1, q2⟩, ⟨u0, u1, u2⟩⟩ := rn.three
    have hv := ((hv.setRow rn rfl (.slice B0 m0 d0)).setRow (p := ⟨gn, 1, none⟩) (rn.set 0 (.slice B0 m0 d0)) rfl (.slice B1 m1 d1)).setRow (p := ⟨gn, 2, none⟩) ((rn.set 0 (.slice B0 m0 d0)).set 1 (.slice B1 m1 d1)) rfl (.slice B2 m2 d2)
    have hxs := Below.set3 hx (g := gn) (by have := HGN.out; omega) (.slice B0 m0 d0) (.slice B1 m1 d1) (.slice B2 m2 d2)
    have ra := ((ra.far (p := ⟨gn, 0, none⟩) (by have := HGN.out; simp; omega) (.slice B0 m0 d0)).far (p := ⟨gn, 1, none⟩) (by have := HGN.out; simp; omega) (.slice B1 m1 d1)).far (p := ⟨gn, 2, none⟩) (by have := HGN.out; simp; omega) (.slice B2 m2 d2)
    have rb := ((rb.far (p := ⟨gn, 0, none⟩) (by have := HGN.out; simp; omega) (.slice B0 m0 d0)).far (p := ⟨gn, 1, none⟩) (by have := HGN.out; simp; omega) (.slice B1 m1 d1)).far (p := ⟨gn, 2, none⟩) (by have := HGN.out; simp; omega) (.slice B2 m2 d2)
    have rn := show Row _ gn _ #[.slice B0 m0 d0, .slice B1 m1 d1, .slice B2 m2 d2] from ((rn.set 0 (.slice B0 m0 d0)).set 1 (.slice B1 m1 d1)).set 2 (.slice B2 m2 d2)
    have hx := hxs
    clear hxs hq
    have HZ := Lib.hid (show w.heap.size + 2 ≤ (((w4.setCell ⟨gn, 0, none⟩ (.slice B0 m0 d0)).setCell ⟨gn, 1, none⟩ (.slice B1 m1 d1)).setCell ⟨gn, 2, none⟩ (.slice B2 m2 d2)).heap.size by have := HZ.out; simp only [World.setCell, Array.size_modify]; omega)
    obtain ⟨⟨p0, p1, p2⟩, -⟩ := ra.three
    obtain ⟨⟨r0, r1, r2⟩, ⟨f0, f1, f2⟩⟩ := rb.three
    obtain ⟨⟨t0, t1, t2⟩, -⟩ := rn.three
    by_cases hc : codeD (actD x (⟨1, (n ++ (⟨#[46, 110, 101, 119]⟩ : ByteArray)), ⟨#[]⟩, d⟩ : Oz)) (⟨2, (n ++ (⟨#[46, 110, 101, 119]⟩ : ByteArray)), n, ⟨#[]⟩⟩ : Oz) = 0
    case neg =>
      have HC := Lib.hid (replD_err (n := n) (d := d) E0.out (show (seqD (opsR x.live n d) x).2 = codeD (actD x (⟨1, (n ++ (⟨#[46, 110, 101, 119]⟩ : ByteArray)), ⟨#[]⟩, d⟩ : Oz)) (⟨2, (n ++ (⟨#[46, 110, 101, 119]⟩ : ByteArray)), n, ⟨#[]⟩⟩ : Oz) by rw [HOP.out, seqD_step HC0.out, seqD_stop hc]) hc)
      have hc' : (codeD (actD x (⟨1, (n ++ (⟨#[46, 110, 101, 119]⟩ : ByteArray)), ⟨#[]⟩, d⟩ : Oz)) (⟨2, (n ++ (⟨#[46, 110, 101, 119]⟩ : ByteArray)), n, ⟨#[]⟩⟩ : Oz) == 0) = false := by simpa using hc
      have hc2 : decide (codeD (actD x (⟨1, (n ++ (⟨#[46, 110, 101, 119]⟩ : ByteArray)), ⟨#[]⟩, d⟩ : Oz)) (⟨2, (n ++ (⟨#[46, 110, 101, 119]⟩ : ByteArray)), n, ⟨#[]⟩⟩ : Oz) = 0) = false := decide_eq_false hc
      generalize codeD (actD x (⟨1, (n ++ (⟨#[46, 110, 101, 119]⟩ : ByteArray)), ⟨#[]⟩, d⟩ : Oz)) (⟨2, (n ++ (⟨#[46, 110, 101, 119]⟩ : ByteArray)), n, ⟨#[]⟩⟩ : Oz) = kc at *
      have hc3 : (kc != 0) = true := by simpa using hc
      go_wp2_with fail
      generalize ((w4.setCell ⟨gn, 0, none⟩ (.slice B0 m0 d0)).setCell ⟨gn, 1, none⟩ (.slice B1 m1 d1)).setCell ⟨gn, 2, none⟩ (.slice B2 m2 d2) = y at *
      refine (specCopy x A0 n0 c0 A1 n1 c1 A2 n2 c2 _ _ (h0.below FzR.stays hx) (h1.below FzR.stays hx) (h2.below OzR.stays hx) HLC.out).mono ?_
      rintro e w9 ⟨⟨v, rfl, hv⟩, hq9⟩
      have hxe := hx.trans (hq9.mono hx.size)
      have RR := Lib.hid (rb.below hq9)
      have HV := Lib.hid (hv.mono (base' := w.heap.size + 2) HZ.out)
      obtain ⟨v0, v1, v2, rfl, k0, k1, k2, -⟩ := hv
      obtain ⟨C0, m0, e0, rfl⟩ := k0.len
      obtain ⟨C1, m1, e1, rfl⟩ := k1.len
      obtain ⟨C2, m2, e2, rfl⟩ := k2.len
      clear p0 p1 p2 r0 r1 r2 f0 f1 f2 k0 k1 k2 hq9
      have rr := RR.out
      obtain ⟨⟨r0, r1, r2⟩, ⟨f0, f1, f2⟩⟩ := rr.three
      clear rr
      go_wp2_with fail
      have hr9 := (((RR.out).set 0 (.slice C0 m0 e0)).set 1 (.slice C1 m1 e1)).set 2 (.slice C2 m2 e2)
      refine bodyPost_ret (results_cell_row2 (p := 6) (u := 7) (ty := 27) rfl _ _ (w.heap.size + 1) 27 #[.slice C0 m0 e0, .slice C1 m1 e1, .slice C2 m2 e2] (0, 0) _ rfl rfl hr9 Try.underlying27 rfl HI.out) rfl ⟨⟨.agg #[.slice C0 m0 e0, .slice C1 m1 e1, .slice C2 m2 e2], ?_, ?_⟩, ?_⟩
      · rw [HC.out.1]; rfl
      · refine DzA.mono (base := w.heap.size + 2) ?_ (by omega)
        rw [HC.out.2]
        refine DzA.set (DzA.set (DzA.set (HV.out) ?_ _) ?_ _) ?_ _ <;> (exact Nat.lt_succ_self _)
      · exact ((hxe.setCell (Nat.le_add_right _ 1) _).setCell (Nat.le_add_right _ 1) _).setCell (Nat.le_add_right _ 1) _
    have HC1 := Lib.hid hc
    rw [hc]
    have RT1 := Lib.hid (actD_right RT0.out hc)
    clear hc
    go_wp2_with fail
    generalize ((w4.setCell ⟨gn, 0, none⟩ (.slice B0 m0 d0)).setCell ⟨gn, 1, none⟩ (.slice B1 m1 d1)).setCell ⟨gn, 2, none⟩ (.slice B2 m2 d2) = y4 at *
    obtain ⟨w0', w1', w2', ew, K0, K1, K2, -⟩ := hv
    injection ew with ew
    injection ew with ew
    injection ew with ea ew
    injection ew with eb ew
    injection ew with ec ew
    subst ea eb ec
    obtain ⟨D0, g0, ed, -, -, s0⟩ := (show OwnZ _ _ _ _ from K0).sl
    obtain ⟨D1, g1, ee, -, -, s1⟩ := (show OwnZ _ _ _ _ from K1).sl
    obtain ⟨D2, g2, ef, -, -, s2⟩ := (show OwnO _ _ _ _ from K2).sl
    injection ed with ed1 ed2 ed3
    injection ee with ee1 ee2 ee3
    injection ef with ef1 ef2 ef3
    subst ed1 ed2 ed3 ee1 ee2 ee3 ef1 ef2 ef3
    clear K0 K1 K2
    have HC := Lib.hid (replD_ok (n := n) (d := d) E0.out (show seqD (opsR x.live n d) x = ((actD (actD x (⟨1, (n ++ (⟨#[46, 110, 101, 119]⟩ : ByteArray)), ⟨#[]⟩, d⟩ : Oz)) (⟨2, (n ++ (⟨#[46, 110, 101, 119]⟩ : ByteArray)), n, ⟨#[]⟩⟩ : Oz)), 0) by rw [HOP.out, seqD_step HC0.out, seqD_step HC1.out]; rfl))
    refine (specCopy (actD (actD x (⟨1, (n ++ (⟨#[46, 110, 101, 119]⟩ : ByteArray)), ⟨#[]⟩, d⟩ : Oz)) (⟨2, (n ++ (⟨#[46, 110, 101, 119]⟩ : ByteArray)), n, ⟨#[]⟩⟩ : Oz)) _ _ _ _ _ _ _ _ _ _ _ s0 s1 s2 ⟨by have := (filesB_bytes RT1.out.1).1; omega, RT1.out.2.1, by have := RT1.out.2.2; omega⟩).mono ?_
    rintro e w9 ⟨⟨v, rfl, hv⟩, hq9⟩
    have hxe := hx.trans (hq9.mono hx.size)
    have RR := Lib.hid (rb.below hq9)
    have HV := Lib.hid (hv.mono (base' := w.heap.size + 2) HZ.out)
    obtain ⟨v0, v1, v2, rfl, k0, k1, k2, -⟩ := hv
    obtain ⟨C0, m0, e0, rfl⟩ := k0.len
    obtain ⟨C1, m1, e1, rfl⟩ := k1.len
    obtain ⟨C2, m2, e2, rfl⟩ := k2.len
    clear p0 p1 p2 r0 r1 r2 f0 f1 f2 k0 k1 k2 hq9
    have rr := RR.out
    obtain ⟨⟨r0, r1, r2⟩, ⟨f0, f1, f2⟩⟩ := rr.three
    clear rr
    go_wp2_with fail
    have hr9 := (((RR.out).set 0 (.slice C0 m0 e0)).set 1 (.slice C1 m1 e1)).set 2 (.slice C2 m2 e2)
    refine bodyPost_ret (results_cell_row2 (p := 6) (u := 7) (ty := 27) rfl _ _ (w.heap.size + 1) 27 #[.slice C0 m0 e0, .slice C1 m1 e1, .slice C2 m2 e2] (0, 0) _ rfl rfl hr9 Try.underlying27 rfl HI.out) rfl ⟨⟨.agg #[.slice C0 m0 e0, .slice C1 m1 e1, .slice C2 m2 e2], ?_, ?_⟩, ?_⟩
    · rw [HC.out.1]; rfl
    · refine DzA.mono (base := w.heap.size + 2) ?_ (by omega)
      rw [HC.out.2]
      refine DzA.set (DzA.set (DzA.set (HV.out) ?_ _) ?_ _) ?_ _ <;> (exact Nat.lt_succ_self _)
    · exact ((hxe.setCell (Nat.le_add_right _ 1) _).setCell (Nat.le_add_right _ 1) _).setCell (Nat.le_add_right _ 1) _
  · have HOP := Lib.hid (show opsR x.live n d = [⟨3, (n ++ (⟨#[46, 110, 101, 119]⟩ : ByteArray)), ⟨#[]⟩, ⟨#[]⟩⟩, ⟨1, (n ++ (⟨#[46, 110, 101, 119]⟩ : ByteArray)), ⟨#[]⟩, d⟩, ⟨2, (n ++ (⟨#[46, 110, 101, 119]⟩ : ByteArray)), n, ⟨#[]⟩⟩] by unfold opsR cutO freshN; rw [hf]; rfl)
    clear hf
    have hi0 : decide ((0 : Int) ≤ (i : Int)) = true := decide_eq_true (by omega)
    clear hi
    go_wp2_with fail
    refine (specAct x (⟨3, (n ++ (⟨#[46, 110, 101, 119]⟩ : ByteArray)), ⟨#[]⟩, ⟨#[]⟩⟩ : Oz) A0 n0 c0 A1 n1 c1 A2 n2 c2 _ _ (h0.below FzR.stays hx) (h1.below FzR.stays hx) (h2.below OzR.stays hx) ⟨HRT.out.1, HRT.out.2.1, by have := HRT.out.2.2; omega⟩ (by first | (show d.size ≤ _; omega) | (show (⟨#[]⟩ : ByteArray).size ≤ _; exact Nat.zero_le _))).mono ?_
    rintro e w3 ⟨⟨v, rfl, hv⟩, hq⟩
    have hx := hx.trans (hq.mono hx.size)
    have HZ := Lib.hid (Nat.le_trans HZ.out hq.size)
    have ra := ra.below hq
    have rb := rb.below hq
    have rn := rn.below hq
    have HB0 := Lib.hid hq.size
    obtain ⟨v0, v1, v2, rfl, k0, k1, k2, -⟩ := id hv
    obtain ⟨B0, m0, d0, rfl⟩ := k0.len
    obtain ⟨B1, m1, d1, rfl⟩ := k1.len
    obtain ⟨B2, m2, d2, rfl⟩ := k2.len
    clear k0 k1 k2
    clear p0 p1 p2 r0 r1 r2 f0 f1 f2 t0 t1 t2
    obtain ⟨⟨q0, q1, q2⟩, ⟨u0, u1, u2⟩⟩ := rn.three
    have hv := ((hv.setRow rn rfl (.slice B0 m0 d0)).setRow (p := ⟨gn, 1, none⟩) (rn.set 0 (.slice B0 m0 d0)) rfl (.slice B1 m1 d1)).setRow (p := ⟨gn, 2, none⟩) ((rn.set 0 (.slice B0 m0 d0)).set 1 (.slice B1 m1 d1)) rfl (.slice B2 m2 d2)
    have hxs := Below.set3 hx (g := gn) (by have := HGN.out; omega) (.slice B0 m0 d0) (.slice B1 m1 d1) (.slice B2 m2 d2)
    have ra := ((ra.far (p := ⟨gn, 0, none⟩) (by have := HGN.out; simp; omega) (.slice B0 m0 d0)).far (p := ⟨gn, 1, none⟩) (by have := HGN.out; simp; omega) (.slice B1 m1 d1)).far (p := ⟨gn, 2, none⟩) (by have := HGN.out; simp; omega) (.slice B2 m2 d2)
    have rb := ((rb.far (p := ⟨gn, 0, none⟩) (by have := HGN.out; simp; omega) (.slice B0 m0 d0)).far (p := ⟨gn, 1, none⟩) (by have := HGN.out; simp; omega) (.slice B1 m1 d1)).far (p := ⟨gn, 2, none⟩) (by have := HGN.out; simp; omega) (.slice B2 m2 d2)
    have rn := show Row _ gn _ #[.slice B0 m0 d0, .slice B1 m1 d1, .slice B2 m2 d2] from ((rn.set 0 (.slice B0 m0 d0)).set 1 (.slice B1 m1 d1)).set 2 (.slice B2 m2 d2)
    have hx := hxs
    clear hxs hq
    have HZ := Lib.hid (show w.heap.size + 2 ≤ (((w3.setCell ⟨gn, 0, none⟩ (.slice B0 m0 d0)).setCell ⟨gn, 1, none⟩ (.slice B1 m1 d1)).setCell ⟨gn, 2, none⟩ (.slice B2 m2 d2)).heap.size by have := HZ.out; simp only [World.setCell, Array.size_modify]; omega)
    obtain ⟨⟨p0, p1, p2⟩, -⟩ := ra.three
    obtain ⟨⟨r0, r1, r2⟩, ⟨f0, f1, f2⟩⟩ := rb.three
    obtain ⟨⟨t0, t1, t2⟩, -⟩ := rn.three
    by_cases hc : codeD x (⟨3, (n ++ (⟨#[46, 110, 101, 119]⟩ : ByteArray)), ⟨#[]⟩, ⟨#[]⟩⟩ : Oz) = 0
    case neg =>
      have HC := Lib.hid (replD_err (n := n) (d := d) E0.out (show (seqD (opsR x.live n d) x).2 = codeD x (⟨3, (n ++ (⟨#[46, 110, 101, 119]⟩ : ByteArray)), ⟨#[]⟩, ⟨#[]⟩⟩ : Oz) by rw [HOP.out, seqD_stop hc]) hc)
      have hc' : (codeD x (⟨3, (n ++ (⟨#[46, 110, 101, 119]⟩ : ByteArray)), ⟨#[]⟩, ⟨#[]⟩⟩ : Oz) == 0) = false := by simpa using hc
      have hc2 : decide (codeD x (⟨3, (n ++ (⟨#[46, 110, 101, 119]⟩ : ByteArray)), ⟨#[]⟩, ⟨#[]⟩⟩ : Oz) = 0) = false := decide_eq_false hc
      generalize codeD x (⟨3, (n ++ (⟨#[46, 110, 101, 119]⟩ : ByteArray)), ⟨#[]⟩, ⟨#[]⟩⟩ : Oz) = kc at *
      have hc3 : (kc != 0) = true := by simpa using hc
      go_wp2_with fail
      generalize ((w3.setCell ⟨gn, 0, none⟩ (.slice B0 m0 d0)).setCell ⟨gn, 1, none⟩ (.slice B1 m1 d1)).setCell ⟨gn, 2, none⟩ (.slice B2 m2 d2) = y at *
      refine (specCopy x A0 n0 c0 A1 n1 c1 A2 n2 c2 _ _ (h0.below FzR.stays hx) (h1.below FzR.stays hx) (h2.below OzR.stays hx) HLC.out).mono ?_
      rintro e w9 ⟨⟨v, rfl, hv⟩, hq9⟩
      have hxe := hx.trans (hq9.mono hx.size)
      have RR := Lib.hid (rb.below hq9)
      have HV := Lib.hid (hv.mono (base' := w.heap.size + 2) HZ.out)
      obtain ⟨v0, v1, v2, rfl, k0, k1, k2, -⟩ := hv
      obtain ⟨C0, m0, e0, rfl⟩ := k0.len
      obtain ⟨C1, m1, e1, rfl⟩ := k1.len
      obtain ⟨C2, m2, e2, rfl⟩ := k2.len
      clear p0 p1 p2 r0 r1 r2 f0 f1 f2 k0 k1 k2 hq9
      have rr := RR.out
      obtain ⟨⟨r0, r1, r2⟩, ⟨f0, f1, f2⟩⟩ := rr.three
      clear rr
      go_wp2_with fail
      have hr9 := (((RR.out).set 0 (.slice C0 m0 e0)).set 1 (.slice C1 m1 e1)).set 2 (.slice C2 m2 e2)
      refine bodyPost_ret (results_cell_row2 (p := 6) (u := 7) (ty := 27) rfl _ _ (w.heap.size + 1) 27 #[.slice C0 m0 e0, .slice C1 m1 e1, .slice C2 m2 e2] (0, 0) _ rfl rfl hr9 Try.underlying27 rfl HI.out) rfl ⟨⟨.agg #[.slice C0 m0 e0, .slice C1 m1 e1, .slice C2 m2 e2], ?_, ?_⟩, ?_⟩
      · rw [HC.out.1]; rfl
      · refine DzA.mono (base := w.heap.size + 2) ?_ (by omega)
        rw [HC.out.2]
        refine DzA.set (DzA.set (DzA.set (HV.out) ?_ _) ?_ _) ?_ _ <;> (exact Nat.lt_succ_self _)
      · exact ((hxe.setCell (Nat.le_add_right _ 1) _).setCell (Nat.le_add_right _ 1) _).setCell (Nat.le_add_right _ 1) _
    have HC0 := Lib.hid hc
    rw [hc]
    have RT0 := Lib.hid (actD_right HRT.out hc)
    clear hc
    go_wp2_with fail
    generalize ((w3.setCell ⟨gn, 0, none⟩ (.slice B0 m0 d0)).setCell ⟨gn, 1, none⟩ (.slice B1 m1 d1)).setCell ⟨gn, 2, none⟩ (.slice B2 m2 d2) = y3 at *
    obtain ⟨w0', w1', w2', ew, K0, K1, K2, -⟩ := hv
    injection ew with ew
    injection ew with ew
    injection ew with ea ew
    injection ew with eb ew
    injection ew with ec ew
    subst ea eb ec
    obtain ⟨D0, g0, ed, -, -, s0⟩ := (show OwnZ _ _ _ _ from K0).sl
    obtain ⟨D1, g1, ee, -, -, s1⟩ := (show OwnZ _ _ _ _ from K1).sl
    obtain ⟨D2, g2, ef, -, -, s2⟩ := (show OwnO _ _ _ _ from K2).sl
    injection ed with ed1 ed2 ed3
    injection ee with ee1 ee2 ee3
    injection ef with ef1 ef2 ef3
    subst ed1 ed2 ed3 ee1 ee2 ee3 ef1 ef2 ef3
    clear K0 K1 K2
    refine (specAct (actD x (⟨3, (n ++ (⟨#[46, 110, 101, 119]⟩ : ByteArray)), ⟨#[]⟩, ⟨#[]⟩⟩ : Oz)) (⟨1, (n ++ (⟨#[46, 110, 101, 119]⟩ : ByteArray)), ⟨#[]⟩, d⟩ : Oz) _ _ _ _ _ _ _ _ _ _ _ s0 s1 s2 ⟨RT0.out.1, RT0.out.2.1, by have := RT0.out.2.2; omega⟩ (by first | (show d.size ≤ _; omega) | (show (⟨#[]⟩ : ByteArray).size ≤ _; exact Nat.zero_le _))).mono ?_
    rintro e w4 ⟨⟨v, rfl, hv⟩, hq⟩
    have hx := hx.trans (hq.mono hx.size)
    have HZ := Lib.hid (Nat.le_trans HZ.out hq.size)
    have ra := ra.below hq
    have rb := rb.below hq
    have rn := rn.below hq
    have HB1 := Lib.hid hq.size
    obtain ⟨v0, v1, v2, rfl, k0, k1, k2, -⟩ := id hv
    obtain ⟨B0, m0, d0, rfl⟩ := k0.len
    obtain ⟨B1, m1, d1, rfl⟩ := k1.len
    obtain ⟨B2, m2, d2, rfl⟩ := k2.len
    clear k0 k1 k2
    clear p0 p1 p2 r0 r1 r2 f0 f1 f2 t0 t1 t2 u0 u1 u2
    obtain ⟨⟨q0, q1, q2⟩, ⟨u0, u1, u2⟩⟩ := rn.three
    have hv := ((hv.setRow rn rfl (.slice B0 m0 d0)).setRow (p := ⟨gn, 1, none⟩) (rn.set 0 (.slice B0 m0 d0)) rfl (.slice B1 m1 d1)).setRow (p := ⟨gn, 2, none⟩) ((rn.set 0 (.slice B0 m0 d0)).set 1 (.slice B1 m1 d1)) rfl (.slice B2 m2 d2)
    have hxs := Below.set3 hx (g := gn) (by have := HGN.out; omega) (.slice B0 m0 d0) (.slice B1 m1 d1) (.slice B2 m2 d2)
    have ra := ((ra.far (p := ⟨gn, 0, none⟩) (by have := HGN.out; simp; omega) (.slice B0 m0 d0)).far (p := ⟨gn, 1, none⟩) (by have := HGN.out; simp; omega) (.slice B1 m1 d1)).far (p := ⟨gn, 2, none⟩) (by have := HGN.out; simp; omega) (.slice B2 m2 d2)
    have rb := ((rb.far (p := ⟨gn, 0, none⟩) (by have := HGN.out; simp; omega) (.slice B0 m0 d0)).far (p := ⟨gn, 1, none⟩) (by have := HGN.out; simp; omega) (.slice B1 m1 d1)).far (p := ⟨gn, 2, none⟩) (by have := HGN.out; simp; omega) (.slice B2 m2 d2)
    have rn := show Row _ gn _ #[.slice B0 m0 d0, .slice B1 m1 d1, .slice B2 m2 d2] from ((rn.set 0 (.slice B0 m0 d0)).set 1 (.slice B1 m1 d1)).set 2 (.slice B2 m2 d2)
    have hx := hxs
    clear hxs hq
    have HZ := Lib.hid (show w.heap.size + 2 ≤ (((w4.setCell ⟨gn, 0, none⟩ (.slice B0 m0 d0)).setCell ⟨gn, 1, none⟩ (.slice B1 m1 d1)).setCell ⟨gn, 2, none⟩ (.slice B2 m2 d2)).heap.size by have := HZ.out; simp only [World.setCell, Array.size_modify]; omega)
    obtain ⟨⟨p0, p1, p2⟩, -⟩ := ra.three
    obtain ⟨⟨r0, r1, r2⟩, ⟨f0, f1, f2⟩⟩ := rb.three
    obtain ⟨⟨t0, t1, t2⟩, -⟩ := rn.three
    by_cases hc : codeD (actD x (⟨3, (n ++ (⟨#[46, 110, 101, 119]⟩ : ByteArray)), ⟨#[]⟩, ⟨#[]⟩⟩ : Oz)) (⟨1, (n ++ (⟨#[46, 110, 101, 119]⟩ : ByteArray)), ⟨#[]⟩, d⟩ : Oz) = 0
    case neg =>
      have HC := Lib.hid (replD_err (n := n) (d := d) E0.out (show (seqD (opsR x.live n d) x).2 = codeD (actD x (⟨3, (n ++ (⟨#[46, 110, 101, 119]⟩ : ByteArray)), ⟨#[]⟩, ⟨#[]⟩⟩ : Oz)) (⟨1, (n ++ (⟨#[46, 110, 101, 119]⟩ : ByteArray)), ⟨#[]⟩, d⟩ : Oz) by rw [HOP.out, seqD_step HC0.out, seqD_stop hc]) hc)
      have hc' : (codeD (actD x (⟨3, (n ++ (⟨#[46, 110, 101, 119]⟩ : ByteArray)), ⟨#[]⟩, ⟨#[]⟩⟩ : Oz)) (⟨1, (n ++ (⟨#[46, 110, 101, 119]⟩ : ByteArray)), ⟨#[]⟩, d⟩ : Oz) == 0) = false := by simpa using hc
      have hc2 : decide (codeD (actD x (⟨3, (n ++ (⟨#[46, 110, 101, 119]⟩ : ByteArray)), ⟨#[]⟩, ⟨#[]⟩⟩ : Oz)) (⟨1, (n ++ (⟨#[46, 110, 101, 119]⟩ : ByteArray)), ⟨#[]⟩, d⟩ : Oz) = 0) = false := decide_eq_false hc
      generalize codeD (actD x (⟨3, (n ++ (⟨#[46, 110, 101, 119]⟩ : ByteArray)), ⟨#[]⟩, ⟨#[]⟩⟩ : Oz)) (⟨1, (n ++ (⟨#[46, 110, 101, 119]⟩ : ByteArray)), ⟨#[]⟩, d⟩ : Oz) = kc at *
      have hc3 : (kc != 0) = true := by simpa using hc
      go_wp2_with fail
      generalize ((w4.setCell ⟨gn, 0, none⟩ (.slice B0 m0 d0)).setCell ⟨gn, 1, none⟩ (.slice B1 m1 d1)).setCell ⟨gn, 2, none⟩ (.slice B2 m2 d2) = y at *
      refine (specCopy x A0 n0 c0 A1 n1 c1 A2 n2 c2 _ _ (h0.below FzR.stays hx) (h1.below FzR.stays hx) (h2.below OzR.stays hx) HLC.out).mono ?_
      rintro e w9 ⟨⟨v, rfl, hv⟩, hq9⟩
      have hxe := hx.trans (hq9.mono hx.size)
      have RR := Lib.hid (rb.below hq9)
      have HV := Lib.hid (hv.mono (base' := w.heap.size + 2) HZ.out)
      obtain ⟨v0, v1, v2, rfl, k0, k1, k2, -⟩ := hv
      obtain ⟨C0, m0, e0, rfl⟩ := k0.len
      obtain ⟨C1, m1, e1, rfl⟩ := k1.len
      obtain ⟨C2, m2, e2, rfl⟩ := k2.len
      clear p0 p1 p2 r0 r1 r2 f0 f1 f2 k0 k1 k2 hq9
      have rr := RR.out
      obtain ⟨⟨r0, r1, r2⟩, ⟨f0, f1, f2⟩⟩ := rr.three
      clear rr
      go_wp2_with fail
      have hr9 := (((RR.out).set 0 (.slice C0 m0 e0)).set 1 (.slice C1 m1 e1)).set 2 (.slice C2 m2 e2)
      refine bodyPost_ret (results_cell_row2 (p := 6) (u := 7) (ty := 27) rfl _ _ (w.heap.size + 1) 27 #[.slice C0 m0 e0, .slice C1 m1 e1, .slice C2 m2 e2] (0, 0) _ rfl rfl hr9 Try.underlying27 rfl HI.out) rfl ⟨⟨.agg #[.slice C0 m0 e0, .slice C1 m1 e1, .slice C2 m2 e2], ?_, ?_⟩, ?_⟩
      · rw [HC.out.1]; rfl
      · refine DzA.mono (base := w.heap.size + 2) ?_ (by omega)
        rw [HC.out.2]
        refine DzA.set (DzA.set (DzA.set (HV.out) ?_ _) ?_ _) ?_ _ <;> (exact Nat.lt_succ_self _)
      · exact ((hxe.setCell (Nat.le_add_right _ 1) _).setCell (Nat.le_add_right _ 1) _).setCell (Nat.le_add_right _ 1) _
    have HC1 := Lib.hid hc
    rw [hc]
    have RT1 := Lib.hid (actD_right RT0.out hc)
    clear hc
    go_wp2_with fail
    generalize ((w4.setCell ⟨gn, 0, none⟩ (.slice B0 m0 d0)).setCell ⟨gn, 1, none⟩ (.slice B1 m1 d1)).setCell ⟨gn, 2, none⟩ (.slice B2 m2 d2) = y4 at *
    obtain ⟨w0', w1', w2', ew, K0, K1, K2, -⟩ := hv
    injection ew with ew
    injection ew with ew
    injection ew with ea ew
    injection ew with eb ew
    injection ew with ec ew
    subst ea eb ec
    obtain ⟨D0, g0, ed, -, -, s0⟩ := (show OwnZ _ _ _ _ from K0).sl
    obtain ⟨D1, g1, ee, -, -, s1⟩ := (show OwnZ _ _ _ _ from K1).sl
    obtain ⟨D2, g2, ef, -, -, s2⟩ := (show OwnO _ _ _ _ from K2).sl
    injection ed with ed1 ed2 ed3
    injection ee with ee1 ee2 ee3
    injection ef with ef1 ef2 ef3
    subst ed1 ed2 ed3 ee1 ee2 ee3 ef1 ef2 ef3
    clear K0 K1 K2
    refine (specAct (actD (actD x (⟨3, (n ++ (⟨#[46, 110, 101, 119]⟩ : ByteArray)), ⟨#[]⟩, ⟨#[]⟩⟩ : Oz)) (⟨1, (n ++ (⟨#[46, 110, 101, 119]⟩ : ByteArray)), ⟨#[]⟩, d⟩ : Oz)) (⟨2, (n ++ (⟨#[46, 110, 101, 119]⟩ : ByteArray)), n, ⟨#[]⟩⟩ : Oz) _ _ _ _ _ _ _ _ _ _ _ s0 s1 s2 ⟨RT1.out.1, RT1.out.2.1, by have := RT1.out.2.2; omega⟩ (by first | (show d.size ≤ _; omega) | (show (⟨#[]⟩ : ByteArray).size ≤ _; exact Nat.zero_le _))).mono ?_
    rintro e w5 ⟨⟨v, rfl, hv⟩, hq⟩
    have hx := hx.trans (hq.mono hx.size)
    have HZ := Lib.hid (Nat.le_trans HZ.out hq.size)
    have ra := ra.below hq
    have rb := rb.below hq
    have rn := rn.below hq
    have HB2 := Lib.hid hq.size
    obtain ⟨v0, v1, v2, rfl, k0, k1, k2, -⟩ := id hv
    obtain ⟨B0, m0, d0, rfl⟩ := k0.len
    obtain ⟨B1, m1, d1, rfl⟩ := k1.len
    obtain ⟨B2, m2, d2, rfl⟩ := k2.len
    clear k0 k1 k2
    clear p0 p1 p2 r0 r1 r2 f0 f1 f2 t0 t1 t2 u0 u1 u2
    obtain ⟨⟨q0, q1, q2⟩, ⟨u0, u1, u2⟩⟩ := rn.three
    have hv := ((hv.setRow rn rfl (.slice B0 m0 d0)).setRow (p := ⟨gn, 1, none⟩) (rn.set 0 (.slice B0 m0 d0)) rfl (.slice B1 m1 d1)).setRow (p := ⟨gn, 2, none⟩) ((rn.set 0 (.slice B0 m0 d0)).set 1 (.slice B1 m1 d1)) rfl (.slice B2 m2 d2)
    have hxs := Below.set3 hx (g := gn) (by have := HGN.out; omega) (.slice B0 m0 d0) (.slice B1 m1 d1) (.slice B2 m2 d2)
    have ra := ((ra.far (p := ⟨gn, 0, none⟩) (by have := HGN.out; simp; omega) (.slice B0 m0 d0)).far (p := ⟨gn, 1, none⟩) (by have := HGN.out; simp; omega) (.slice B1 m1 d1)).far (p := ⟨gn, 2, none⟩) (by have := HGN.out; simp; omega) (.slice B2 m2 d2)
    have rb := ((rb.far (p := ⟨gn, 0, none⟩) (by have := HGN.out; simp; omega) (.slice B0 m0 d0)).far (p := ⟨gn, 1, none⟩) (by have := HGN.out; simp; omega) (.slice B1 m1 d1)).far (p := ⟨gn, 2, none⟩) (by have := HGN.out; simp; omega) (.slice B2 m2 d2)
    have rn := show Row _ gn _ #[.slice B0 m0 d0, .slice B1 m1 d1, .slice B2 m2 d2] from ((rn.set 0 (.slice B0 m0 d0)).set 1 (.slice B1 m1 d1)).set 2 (.slice B2 m2 d2)
    have hx := hxs
    clear hxs hq
    have HZ := Lib.hid (show w.heap.size + 2 ≤ (((w5.setCell ⟨gn, 0, none⟩ (.slice B0 m0 d0)).setCell ⟨gn, 1, none⟩ (.slice B1 m1 d1)).setCell ⟨gn, 2, none⟩ (.slice B2 m2 d2)).heap.size by have := HZ.out; simp only [World.setCell, Array.size_modify]; omega)
    obtain ⟨⟨p0, p1, p2⟩, -⟩ := ra.three
    obtain ⟨⟨r0, r1, r2⟩, ⟨f0, f1, f2⟩⟩ := rb.three
    obtain ⟨⟨t0, t1, t2⟩, -⟩ := rn.three
    by_cases hc : codeD (actD (actD x (⟨3, (n ++ (⟨#[46, 110, 101, 119]⟩ : ByteArray)), ⟨#[]⟩, ⟨#[]⟩⟩ : Oz)) (⟨1, (n ++ (⟨#[46, 110, 101, 119]⟩ : ByteArray)), ⟨#[]⟩, d⟩ : Oz)) (⟨2, (n ++ (⟨#[46, 110, 101, 119]⟩ : ByteArray)), n, ⟨#[]⟩⟩ : Oz) = 0
    case neg =>
      have HC := Lib.hid (replD_err (n := n) (d := d) E0.out (show (seqD (opsR x.live n d) x).2 = codeD (actD (actD x (⟨3, (n ++ (⟨#[46, 110, 101, 119]⟩ : ByteArray)), ⟨#[]⟩, ⟨#[]⟩⟩ : Oz)) (⟨1, (n ++ (⟨#[46, 110, 101, 119]⟩ : ByteArray)), ⟨#[]⟩, d⟩ : Oz)) (⟨2, (n ++ (⟨#[46, 110, 101, 119]⟩ : ByteArray)), n, ⟨#[]⟩⟩ : Oz) by rw [HOP.out, seqD_step HC0.out, seqD_step HC1.out, seqD_stop hc]) hc)
      have hc' : (codeD (actD (actD x (⟨3, (n ++ (⟨#[46, 110, 101, 119]⟩ : ByteArray)), ⟨#[]⟩, ⟨#[]⟩⟩ : Oz)) (⟨1, (n ++ (⟨#[46, 110, 101, 119]⟩ : ByteArray)), ⟨#[]⟩, d⟩ : Oz)) (⟨2, (n ++ (⟨#[46, 110, 101, 119]⟩ : ByteArray)), n, ⟨#[]⟩⟩ : Oz) == 0) = false := by simpa using hc
      have hc2 : decide (codeD (actD (actD x (⟨3, (n ++ (⟨#[46, 110, 101, 119]⟩ : ByteArray)), ⟨#[]⟩, ⟨#[]⟩⟩ : Oz)) (⟨1, (n ++ (⟨#[46, 110, 101, 119]⟩ : ByteArray)), ⟨#[]⟩, d⟩ : Oz)) (⟨2, (n ++ (⟨#[46, 110, 101, 119]⟩ : ByteArray)), n, ⟨#[]⟩⟩ : Oz) = 0) = false := decide_eq_false hc
      generalize codeD (actD (actD x (⟨3, (n ++ (⟨#[46, 110, 101, 119]⟩ : ByteArray)), ⟨#[]⟩, ⟨#[]⟩⟩ : Oz)) (⟨1, (n ++ (⟨#[46, 110, 101, 119]⟩ : ByteArray)), ⟨#[]⟩, d⟩ : Oz)) (⟨2, (n ++ (⟨#[46, 110, 101, 119]⟩ : ByteArray)), n, ⟨#[]⟩⟩ : Oz) = kc at *
      have hc3 : (kc != 0) = true := by simpa using hc
      go_wp2_with fail
      generalize ((w5.setCell ⟨gn, 0, none⟩ (.slice B0 m0 d0)).setCell ⟨gn, 1, none⟩ (.slice B1 m1 d1)).setCell ⟨gn, 2, none⟩ (.slice B2 m2 d2) = y at *
      refine (specCopy x A0 n0 c0 A1 n1 c1 A2 n2 c2 _ _ (h0.below FzR.stays hx) (h1.below FzR.stays hx) (h2.below OzR.stays hx) HLC.out).mono ?_
      rintro e w9 ⟨⟨v, rfl, hv⟩, hq9⟩
      have hxe := hx.trans (hq9.mono hx.size)
      have RR := Lib.hid (rb.below hq9)
      have HV := Lib.hid (hv.mono (base' := w.heap.size + 2) HZ.out)
      obtain ⟨v0, v1, v2, rfl, k0, k1, k2, -⟩ := hv
      obtain ⟨C0, m0, e0, rfl⟩ := k0.len
      obtain ⟨C1, m1, e1, rfl⟩ := k1.len
      obtain ⟨C2, m2, e2, rfl⟩ := k2.len
      clear p0 p1 p2 r0 r1 r2 f0 f1 f2 k0 k1 k2 hq9
      have rr := RR.out
      obtain ⟨⟨r0, r1, r2⟩, ⟨f0, f1, f2⟩⟩ := rr.three
      clear rr
      go_wp2_with fail
      have hr9 := (((RR.out).set 0 (.slice C0 m0 e0)).set 1 (.slice C1 m1 e1)).set 2 (.slice C2 m2 e2)
      refine bodyPost_ret (results_cell_row2 (p := 6) (u := 7) (ty := 27) rfl _ _ (w.heap.size + 1) 27 #[.slice C0 m0 e0, .slice C1 m1 e1, .slice C2 m2 e2] (0, 0) _ rfl rfl hr9 Try.underlying27 rfl HI.out) rfl ⟨⟨.agg #[.slice C0 m0 e0, .slice C1 m1 e1, .slice C2 m2 e2], ?_, ?_⟩, ?_⟩
      · rw [HC.out.1]; rfl
      · refine DzA.mono (base := w.heap.size + 2) ?_ (by omega)
        rw [HC.out.2]
        refine DzA.set (DzA.set (DzA.set (HV.out) ?_ _) ?_ _) ?_ _ <;> (exact Nat.lt_succ_self _)
      · exact ((hxe.setCell (Nat.le_add_right _ 1) _).setCell (Nat.le_add_right _ 1) _).setCell (Nat.le_add_right _ 1) _
    have HC2 := Lib.hid hc
    rw [hc]
    have RT2 := Lib.hid (actD_right RT1.out hc)
    clear hc
    go_wp2_with fail
    generalize ((w5.setCell ⟨gn, 0, none⟩ (.slice B0 m0 d0)).setCell ⟨gn, 1, none⟩ (.slice B1 m1 d1)).setCell ⟨gn, 2, none⟩ (.slice B2 m2 d2) = y5 at *
    obtain ⟨w0', w1', w2', ew, K0, K1, K2, -⟩ := hv
    injection ew with ew
    injection ew with ew
    injection ew with ea ew
    injection ew with eb ew
    injection ew with ec ew
    subst ea eb ec
    obtain ⟨D0, g0, ed, -, -, s0⟩ := (show OwnZ _ _ _ _ from K0).sl
    obtain ⟨D1, g1, ee, -, -, s1⟩ := (show OwnZ _ _ _ _ from K1).sl
    obtain ⟨D2, g2, ef, -, -, s2⟩ := (show OwnO _ _ _ _ from K2).sl
    injection ed with ed1 ed2 ed3
    injection ee with ee1 ee2 ee3
    injection ef with ef1 ef2 ef3
    subst ed1 ed2 ed3 ee1 ee2 ee3 ef1 ef2 ef3
    clear K0 K1 K2
    have HC := Lib.hid (replD_ok (n := n) (d := d) E0.out (show seqD (opsR x.live n d) x = ((actD (actD (actD x (⟨3, (n ++ (⟨#[46, 110, 101, 119]⟩ : ByteArray)), ⟨#[]⟩, ⟨#[]⟩⟩ : Oz)) (⟨1, (n ++ (⟨#[46, 110, 101, 119]⟩ : ByteArray)), ⟨#[]⟩, d⟩ : Oz)) (⟨2, (n ++ (⟨#[46, 110, 101, 119]⟩ : ByteArray)), n, ⟨#[]⟩⟩ : Oz)), 0) by rw [HOP.out, seqD_step HC0.out, seqD_step HC1.out, seqD_step HC2.out]; rfl))
    refine (specCopy (actD (actD (actD x (⟨3, (n ++ (⟨#[46, 110, 101, 119]⟩ : ByteArray)), ⟨#[]⟩, ⟨#[]⟩⟩ : Oz)) (⟨1, (n ++ (⟨#[46, 110, 101, 119]⟩ : ByteArray)), ⟨#[]⟩, d⟩ : Oz)) (⟨2, (n ++ (⟨#[46, 110, 101, 119]⟩ : ByteArray)), n, ⟨#[]⟩⟩ : Oz)) _ _ _ _ _ _ _ _ _ _ _ s0 s1 s2 ⟨by have := (filesB_bytes RT2.out.1).1; omega, RT2.out.2.1, by have := RT2.out.2.2; omega⟩).mono ?_
    rintro e w9 ⟨⟨v, rfl, hv⟩, hq9⟩
    have hxe := hx.trans (hq9.mono hx.size)
    have RR := Lib.hid (rb.below hq9)
    have HV := Lib.hid (hv.mono (base' := w.heap.size + 2) HZ.out)
    obtain ⟨v0, v1, v2, rfl, k0, k1, k2, -⟩ := hv
    obtain ⟨C0, m0, e0, rfl⟩ := k0.len
    obtain ⟨C1, m1, e1, rfl⟩ := k1.len
    obtain ⟨C2, m2, e2, rfl⟩ := k2.len
    clear p0 p1 p2 r0 r1 r2 f0 f1 f2 k0 k1 k2 hq9
    have rr := RR.out
    obtain ⟨⟨r0, r1, r2⟩, ⟨f0, f1, f2⟩⟩ := rr.three
    clear rr
    go_wp2_with fail
    have hr9 := (((RR.out).set 0 (.slice C0 m0 e0)).set 1 (.slice C1 m1 e1)).set 2 (.slice C2 m2 e2)
    refine bodyPost_ret (results_cell_row2 (p := 6) (u := 7) (ty := 27) rfl _ _ (w.heap.size + 1) 27 #[.slice C0 m0 e0, .slice C1 m1 e1, .slice C2 m2 e2] (0, 0) _ rfl rfl hr9 Try.underlying27 rfl HI.out) rfl ⟨⟨.agg #[.slice C0 m0 e0, .slice C1 m1 e1, .slice C2 m2 e2], ?_, ?_⟩, ?_⟩
    · rw [HC.out.1]; rfl
    · refine DzA.mono (base := w.heap.size + 2) ?_ (by omega)
      rw [HC.out.2]
      refine DzA.set (DzA.set (DzA.set (HV.out) ?_ _) ?_ _) ?_ _ <;> (exact Nat.lt_succ_self _)
    · exact ((hxe.setCell (Nat.le_add_right _ 1) _).setCell (Nat.le_add_right _ 1) _).setCell (Nat.le_add_right _ 1) _

/-- The cells of a disk that can be read. -/
def ReadsD (w : World) (v0 v1 v2 : Value) (x : Dz) : Prop := ∃ (A0 : Option Addr) (n0 c0 : Nat) (A1 : Option Addr) (n1 c1 : Nat) (A2 : Option Addr) (n2 c2 : Nat), v0 = .slice A0 n0 c0 ∧ v1 = .slice A1 n1 c1 ∧ v2 = .slice A2 n2 c2 ∧ Sl FzR 2 (fun _ => True) w A0 n0 x.live ∧ Sl FzR 2 (fun _ => True) w A1 n1 x.safe ∧ Sl OzR 4 (fun _ => True) w A2 n2 x.ops
theorem ReadsD.below {w w' : World} {v0 v1 v2 : Value} {x : Dz} (h : ReadsD w v0 v1 v2 x) (hb : Below w.heap.size w w') : ReadsD w' v0 v1 v2 x := by
  obtain ⟨A0, n0, c0, A1, n1, c1, A2, n2, c2, e0, e1, e2, s0, s1, s2⟩ := h
  exact ⟨A0, n0, c0, A1, n1, c1, A2, n2, c2, e0, e1, e2, s0.below FzR.stays hb, s1.below FzR.stays hb, s2.below OzR.stays hb⟩
theorem DzA.reads {w : World} {base : Nat} {v0 v1 v2 : Value} {x : Dz} (h : DzA w base (.agg #[v0, v1, v2]) x) : ReadsD w v0 v1 v2 x := by
  obtain ⟨u0, u1, u2, e, k0, k1, k2, -⟩ := h
  injection e with e; injection e with e
  injection e with ea e; injection e with eb e; injection e with ec e
  subst ea eb ec
  obtain ⟨A0, c0, e0, -, -, s0⟩ := (show OwnZ _ _ _ _ from k0).sl
  obtain ⟨A1, c1, e1, -, -, s1⟩ := (show OwnZ _ _ _ _ from k1).sl
  obtain ⟨A2, c2, e2, -, -, s2⟩ := (show OwnO _ _ _ _ from k2).sl
  exact ⟨A0, _, c0, A1, _, c1, A2, _, c2, e0, e1, e2, s0.stays FzR.stays (fun _ _ => trivial) (fun _ _ _ h => h), s1.stays FzR.stays (fun _ _ => trivial) (fun _ _ _ h => h), s2.stays OzR.stays (fun _ _ => trivial) (fun _ _ _ h => h)⟩
theorem OwnO.setRow {w : World} {base : Nat} {v : Value} {xs : List Oz} (h : OwnO w base v xs) {g : Nat} {cs : Array Value} (hr : Row w g 27 cs) {p : Addr} (hp : p.block = g) (u : Value) : OwnO (w.setCell p u) base v xs := by
  subst hp
  exact OwnG.setNe h (OwnG.neRow h hr (by decide)) u
theorem opsR_data {l : List Fz} {n d : ByteArray} (h : d.size ≤ 1048576) : ∀ o ∈ opsR l n d, o.data.size ≤ 1048576 := by
  intro o ho
  unfold opsR putO at ho
  rcases List.mem_append.1 ho with ho | ho
  · unfold cutO at ho
    split at ho
    · rw [List.mem_singleton.1 ho]; exact Nat.zero_le _
    · cases ho
  · rcases List.mem_cons.1 ho with rfl | ho
    · exact h
    · rw [List.mem_singleton.1 ho]; exact Nat.zero_le _
theorem opsR_len (l : List Fz) (n d : ByteArray) : 2 ≤ (opsR l n d).length ∧ (opsR l n d).length ≤ 3 := by
  unfold opsR putO cutO
  rw [List.length_append]
  split <;> simp
theorem seqD_end {L : List Oz} {k : Nat} (h : k = L.length) (x : Dz) : seqD (L.drop k) x = (x, 0) := by subst h; rw [List.drop_length]; rfl
theorem seqD_go {L : List Oz} {k : Nat} (h : k < L.length) {x : Dz} (hc : codeD x L[k] = 0) : seqD (L.drop k) x = seqD (L.drop (k + 1)) (actD x L[k]) := by rw [seqD_at h, if_pos hc]
theorem seqD_no {L : List Oz} {k : Nat} (h : k < L.length) {x : Dz} (hc : codeD x L[k] ≠ 0) : seqD (L.drop k) x = (x, codeD x L[k]) := by rw [seqD_at h, if_neg hc]

set_option maxRecDepth 100000 in
set_option maxHeartbeats 4000000 in
theorem implReplace (x : Dz) (n d : ByteArray) (A0 : Option Addr) (n0 c0 : Nat) (A1 : Option Addr) (n1 c1 : Nat) (A2 : Option Addr) (n2 c2 : Nat) (ok : Nat → Prop) (w : World) (h0 : Sl FzR 2 ok w A0 n0 x.live) (h1 : Sl FzR 2 ok w A1 n1 x.safe) (h2 : Sl OzR 4 ok w A2 n2 x.ops) (hs : x.sz ≤ 1048576) (hn : n.size ≤ 1048576) (hd : d.size ≤ 1048576) :
    Calls Try.prog 24 #[.agg #[.slice A0 n0 c0, .slice A1 n1 c1, .slice A2 n2 c2], .string n, .string d] w fun e w' => (∃ v, e = .returned (.tuple #[v, .int .i64 (codeR x n d)]) ∧ DzA w' w.heap.size v (replD x n d)) ∧ Below w.heap.size w w' := by
  obtain ⟨hx, hwz⟩ := box2 w (.cells #[.slice A0 n0 c0, .slice A1 n1 c1, .slice A2 n2 c2] 27) (.cells #[.slice none 0 0, .slice none 0 0, .slice none 0 0] 27)
  have ra := (Row.new w 27 #[.slice A0 n0 c0, .slice A1 n1 c1, .slice A2 n2 c2]).alloc (.cells #[.slice none 0 0, .slice none 0 0, .slice none 0 0] 27)
  have rb := Row.newAt (w.alloc (.cells #[.slice A0 n0 c0, .slice A1 n1 c1, .slice A2 n2 c2] 27)) 27 #[.slice none 0 0, .slice none 0 0, .slice none 0 0] (w.heap.size + 1) (by simp)
  have HI := Lib.hid infoDisk
  have HL := Lib.hid (sz_lens hs)
  have hns : n.size + 4 ≤ 9223372036854775807 := by omega
  go_enter Try.func24, Try.ntmps24
  go_wp2_with fail
  generalize (w.alloc (.cells #[.slice A0 n0 c0, .slice A1 n1 c1, .slice A2 n2 c2] 27)).alloc (.cells #[.slice none 0 0, .slice none 0 0, .slice none 0 0] 27) = z at *
  refine (implDiskOk x A0 n0 c0 A1 n1 c1 A2 n2 c2 _ _ (h0.below FzR.stays hx) (h1.below FzR.stays hx) (h2.below OzR.stays hx) hs).mono ?_
  rintro e w1 ⟨rfl, hq⟩
  have hx := hx.trans (hq.mono hx.size)
  have hwz := Nat.le_trans hwz hq.size
  have ra := ra.below hq
  have rb := rb.below hq
  clear hq
  obtain ⟨⟨p0, p1, p2⟩, -⟩ := ra.three
  obtain ⟨⟨r0, r1, r2⟩, ⟨f0, f1, f2⟩⟩ := rb.three
  cases e0 : diskB x
  · have HA := Lib.hid (replD_no (n := n) (d := d) e0)
    have RR := Lib.hid rb
    clear ra rb
    go_wp2_with fail
    have hr9 := (((RR.out).set 0 (.slice none 0 0)).set 1 (.slice none 0 0)).set 2 (.slice none 0 0)
    refine bodyPost_ret (results_cell_row2 (p := 6) (u := 7) (ty := 27) rfl _ _ (w.heap.size + 1) 27 #[.slice none 0 0, .slice none 0 0, .slice none 0 0] (0, 0) _ rfl rfl hr9 Try.underlying27 rfl HI.out) rfl ⟨⟨.agg #[.slice none 0 0, .slice none 0 0, .slice none 0 0], ?_, ?_⟩, ?_⟩
    · rw [HA.out.1]; rfl
    · refine DzA.mono (base := w.heap.size + 2) ?_ (by omega)
      rw [HA.out.2]
      refine DzA.set (DzA.set (DzA.set (DzA.nil _ _) ?_ _) ?_ _) ?_ _ <;> (exact Nat.lt_succ_self _)
    · exact ((hx.setCell (Nat.le_add_right _ 1) _).setCell (Nat.le_add_right _ 1) _).setCell (Nat.le_add_right _ 1) _
  have HP := Lib.hid (diskB_parts e0)
  have E0 := Lib.hid e0
  have HLC := Lib.hid (show n0 ≤ 1048576 ∧ n1 ≤ 1048576 ∧ n2 ≤ 1048576 from ⟨by rw [← h0.1]; exact HL.out.1, by rw [← h1.1]; exact HL.out.2.1, by rw [← h2.1]; exact HL.out.2.2⟩)
  have HRT := Lib.hid (show rightD x from ⟨HP.out.1, HL.out.2.1, HP.out.2.2⟩)
  clear e0
  have hal := (Below.refl w1.heap.size w1).alloc (Nat.le_refl _) (.cells #[.slice A0 n0 c0, .slice A1 n1 c1, .slice A2 n2 c2] 27)
  have rn := Row.new w1 27 #[.slice A0 n0 c0, .slice A1 n1 c1, .slice A2 n2 c2]
  have hx := hx.alloc hx.size (.cells #[.slice A0 n0 c0, .slice A1 n1 c1, .slice A2 n2 c2] 27)
  have ra := ra.below hal
  have rb := rb.below hal
  have HGN := Lib.hid (show w.heap.size + 2 ≤ w1.heap.size from hwz)
  have HZ := Lib.hid (Nat.le_trans hwz hal.size)
  clear r0 r1 r2 f0 f1 f2 hal hwz
  obtain ⟨⟨p0, p1, p2⟩, -⟩ := ra.three
  go_wp2_with fail
  generalize w1.alloc (.cells #[.slice A0 n0 c0, .slice A1 n1 c1, .slice A2 n2 c2] 27) = z1 at *
  generalize w1.heap.size = gn at *
  refine (implOpsToReplace A0 n0 c0 x.live n d _ _ (h0.below FzR.stays hx) HLC.out.1 hn).mono ?_
  rintro e w2 ⟨⟨vL, rfl, oL⟩, hq⟩
  have hx := hx.trans (hq.mono hx.size)
  have HBZ := Lib.hid (show w.heap.size + 2 ≤ z1.heap.size from HZ.out)
  have ra := ra.below hq
  have rb := rb.below hq
  have rn := rn.below hq
  have hLd := opsR_data (l := x.live) (n := n) hd
  have hLl := opsR_len x.live n d
  obtain ⟨L, hL⟩ : ∃ L, L = opsR x.live n d := ⟨_, rfl⟩
  rw [← hL] at oL hLd hLl
  have HOP := Lib.hid hL
  have HLD := Lib.hid hLd
  have HLL := Lib.hid hLl
  obtain ⟨AL, cL, rfl, -, -, -⟩ := (show OwnO w2 _ vL _ from oL).sl
  have OL := Lib.hid oL
  have RA := Lib.hid ra
  have RB := Lib.hid rb
  have RN := Lib.hid rn
  have HX := Lib.hid hx
  have RD := Lib.hid (show ReadsD w2 (.slice A0 n0 c0) (.slice A1 n1 c1) (.slice A2 n2 c2) x from ⟨_, _, _, _, _, _, _, _, _, rfl, rfl, rfl, (h0.below FzR.stays hx).stays FzR.stays (fun _ _ => trivial) (fun _ _ _ h => h), (h1.below FzR.stays hx).stays FzR.stays (fun _ _ => trivial) (fun _ _ _ h => h), (h2.below OzR.stays hx).stays OzR.stays (fun _ _ => trivial) (fun _ _ _ h => h)⟩)
  clear hq ra rb rn hLd hLl hL oL hx p0 p1 p2
  go_wp2_with fail
  go_loopw [24] (fun iv wr => ∃ (k : Nat) (y : Dz) (v0 v1 v2 : Value), k ≤ L.length ∧ iv = .int .i64 k ∧ Hid (Row wr gn 27 #[v0, v1, v2]) ∧ Hid (ReadsD wr v0 v1 v2 y) ∧ Hid (rightD y) ∧ Hid (seqD L x = seqD (L.drop k) y) ∧ Hid (k = 0 ∨ DzA wr (w.heap.size + 2) (.agg #[v0, v1, v2]) y) ∧ Hid (OwnO wr z1.heap.size (.slice AL L.length cL) L) ∧ Hid (Row wr w.heap.size 27 #[.slice A0 n0 c0, .slice A1 n1 c1, .slice A2 n2 c2]) ∧ Hid (Row wr (w.heap.size + 1) 27 #[.slice none 0 0, .slice none 0 0, .slice none 0 0]) ∧ Hid (Below w.heap.size w wr)) (fun iv _ => L.length - (intOf iv).toNat)
  case atStart => exact ⟨0, x, _, _, _, Nat.zero_le _, rfl, RN, RD, HRT, Lib.hid rfl, Lib.hid (Or.inl rfl), OL, RA, RB, HX⟩
  case round =>
    clear RN RD OL RA RB HX
    obtain ⟨k, y, v0, v1, v2, hk, rfl, RN, RD, RT, SQ, OD, OL, RA, RB, HX⟩ := hrel
    by_cases hlt : k < L.length
    · obtain ⟨Y0, a0, b0, Y1, a1, b1, Y2, a2, b2, rfl, rfl, rfl, s0, s1, s2⟩ := RD.out
      obtain ⟨-, -, -, -, -, hsL⟩ := (show OwnO wr _ _ _ from OL.out).sl
      obtain ⟨AL', cL', eL, -, -, hsL⟩ := (show OwnO wr _ _ _ from OL.out).sl
      injection eL with eL1 eL2 eL3
      subst eL1 eL3
      obtain ⟨b, off, -, rfl, q0, q1, q2, q3⟩ := OzR.at_ hsL hlt
      have i0 : (0 : Int) ≤ k := by omega
      have i1 : (k : Int) < L.length := by omega
      have i2 : L.length ≤ 3 := HLL.out.2
      have hal := (Below.refl wr.heap.size wr).alloc (Nat.le_refl _) (.cells #[.int .i64 L[k].kind, .string L[k].name, .string L[k].to, .string L[k].data] 36)
      have rn := RN.out.below hal
      have HX2 := Lib.hid (HX.out.alloc HX.out.size (.cells #[.int .i64 L[k].kind, .string L[k].name, .string L[k].to, .string L[k].data] 36))
      have S0 := Lib.hid (s0.below FzR.stays hal)
      have S1 := Lib.hid (s1.below FzR.stays hal)
      have S2 := Lib.hid (s2.below OzR.stays hal)
      have OL2 := Lib.hid (show OwnO _ _ _ _ from OwnG.below OL.out hal)
      have RA2 := Lib.hid (RA.out.below hal)
      have RB2 := Lib.hid (RB.out.below hal)
      have RN2 := Lib.hid rn
      have DK := Lib.hid (show L[k].data.size ≤ 268000000 by have := HLD.out _ (List.getElem_mem hlt); omega)
      obtain ⟨⟨t0, t1, t2⟩, -⟩ := rn.three
      clear hal rn s0 s1 s2 hsL
      go_wp2_with fail
      generalize wr.alloc (.cells #[.int .i64 L[k].kind, .string L[k].name, .string L[k].to, .string L[k].data] 36) = z2 at *
      refine (implDoOn y L[k] _ _ _ _ _ _ _ _ _ _ _ S0.out S1.out S2.out RT.out DK.out).mono ?_
      rintro e w3 ⟨⟨v, rfl, hv⟩, hq⟩
      have HX3 := Lib.hid (HX2.out.trans (hq.mono HX2.out.size))
      have hz3 : w.heap.size + 2 ≤ z2.heap.size := by have h1 := lt_of_block RB2.out; have h2 := HX2.out.size; omega
      have hv := hv.mono hz3
      obtain ⟨v0, v1, v2, rfl, k0, k1, k2, -⟩ := id hv
      obtain ⟨B0, m0, d0, rfl⟩ := k0.len
      obtain ⟨B1, m1, d1, rfl⟩ := k1.len
      obtain ⟨B2, m2, d2, rfl⟩ := k2.len
      have hal3 := (Below.refl w3.heap.size w3).alloc (Nat.le_refl _) (.cells #[.slice B0 m0 d0, .slice B1 m1 d1, .slice B2 m2 d2] 27)
      have HV := Lib.hid (hv.below hal3)
      have OL3 := Lib.hid (show OwnO _ _ _ _ from OwnG.below (OwnG.below OL2.out hq) hal3)
      have RA3 := Lib.hid ((RA2.out.below hq).below hal3)
      have RB3 := Lib.hid ((RB2.out.below hq).below hal3)
      have RN3 := Lib.hid ((RN2.out.below hq).below hal3)
      have HX4 := Lib.hid (HX3.out.alloc HX3.out.size (.cells #[.slice B0 m0 d0, .slice B1 m1 d1, .slice B2 m2 d2] 27))
      have ra := RA3.out
      have rn := RN3.out
      clear k0 k1 k2 hq hal3 hv q0 q1 q2 q3 t0 t1 t2 hz3
      obtain ⟨⟨p0, p1, p2⟩, -⟩ := ra.three
      obtain ⟨⟨t0, t1, t2⟩, ⟨u0, u1, u2⟩⟩ := rn.three
      clear ra rn
      by_cases hc : codeD y L[k] = 0
      case neg =>
        have HC := Lib.hid (replD_err (n := n) (d := d) E0.out (show (seqD (opsR x.live n d) x).2 = codeD y L[k] by rw [← HOP.out, SQ.out, seqD_no hlt hc]) hc)
        have HZ := Lib.hid (show w.heap.size + 2 ≤ (w3.alloc (.cells #[.slice B0 m0 d0, .slice B1 m1 d1, .slice B2 m2 d2] 27)).heap.size by have h1 := lt_of_block RB3.out; have h2 := HX4.out.size; omega)
        have hc' : (codeD y L[k] == 0) = false := by simpa using hc
        have hc2 : decide (codeD y L[k] = 0) = false := decide_eq_false hc
        generalize codeD y L[k] = kc at *
        have hc3 : (kc != 0) = true := by simpa using hc
        clear t0 t1 t2 u0 u1 u2
        go_wp2_with fail
        generalize w3.alloc (.cells #[.slice B0 m0 d0, .slice B1 m1 d1, .slice B2 m2 d2] 27) = z3 at *
        refine (implCopyDisk x A0 n0 c0 A1 n1 c1 A2 n2 c2 _ _ (h0.below FzR.stays HX4.out) (h1.below FzR.stays HX4.out) (h2.below OzR.stays HX4.out) HLC.out).mono ?_
        rintro e w9 ⟨⟨v, rfl, hv⟩, hq9⟩
        have hxe := HX4.out.trans (hq9.mono HX4.out.size)
        have RR := Lib.hid (RB3.out.below hq9)
        have HV := Lib.hid (hv.mono (base' := w.heap.size + 2) HZ.out)
        obtain ⟨v0, v1, v2, rfl, k0, k1, k2, -⟩ := hv
        obtain ⟨C0, m0, e0, rfl⟩ := k0.len
        obtain ⟨C1, m1, e1, rfl⟩ := k1.len
        obtain ⟨C2, m2, e2, rfl⟩ := k2.len
        clear p0 p1 p2 k0 k1 k2 hq9
        have rr := RR.out
        obtain ⟨⟨r0, r1, r2⟩, ⟨f0, f1, f2⟩⟩ := rr.three
        clear rr
        go_wp2_with fail
        have hr9 := (((RR.out).set 0 (.slice C0 m0 e0)).set 1 (.slice C1 m1 e1)).set 2 (.slice C2 m2 e2)
        refine bodyPost_ret (results_cell_row2 (p := 6) (u := 7) (ty := 27) rfl _ _ (w.heap.size + 1) 27 #[.slice C0 m0 e0, .slice C1 m1 e1, .slice C2 m2 e2] (0, 0) _ rfl rfl hr9 Try.underlying27 rfl HI.out) rfl ⟨⟨.agg #[.slice C0 m0 e0, .slice C1 m1 e1, .slice C2 m2 e2], ?_, ?_⟩, ?_⟩
        · rw [HC.out.1]; rfl
        · refine DzA.mono (base := w.heap.size + 2) ?_ (by omega)
          rw [HC.out.2]
          refine DzA.set (DzA.set (DzA.set (HV.out) ?_ _) ?_ _) ?_ _ <;> (exact Nat.lt_succ_self _)
        · exact ((hxe.setCell (Nat.le_add_right _ 1) _).setCell (Nat.le_add_right _ 1) _).setCell (Nat.le_add_right _ 1) _
      have RT2 := Lib.hid (actD_right RT.out hc)
      have SQ2 := Lib.hid (show seqD L x = seqD (L.drop (k + 1)) (actD y L[k]) by rw [SQ.out, seqD_go hlt hc])
      have HV2 := Lib.hid (((HV.out.setRow RN3.out rfl (.slice B0 m0 d0)).setRow (p := ⟨gn, 1, none⟩) (RN3.out.set 0 (.slice B0 m0 d0)) rfl (.slice B1 m1 d1)).setRow (p := ⟨gn, 2, none⟩) ((RN3.out.set 0 (.slice B0 m0 d0)).set 1 (.slice B1 m1 d1)) rfl (.slice B2 m2 d2))
      have OL4 := Lib.hid (((OL3.out.setRow RN3.out (p := ⟨gn, 0, none⟩) rfl (.slice B0 m0 d0)).setRow (p := ⟨gn, 1, none⟩) (RN3.out.set 0 (.slice B0 m0 d0)) rfl (.slice B1 m1 d1)).setRow (p := ⟨gn, 2, none⟩) ((RN3.out.set 0 (.slice B0 m0 d0)).set 1 (.slice B1 m1 d1)) rfl (.slice B2 m2 d2))
      have HX5 := Lib.hid (Below.set3 HX4.out (g := gn) (by have := HGN.out; omega) (.slice B0 m0 d0) (.slice B1 m1 d1) (.slice B2 m2 d2))
      have RA4 := Lib.hid (((RA3.out.far (p := ⟨gn, 0, none⟩) (by have := HGN.out; simp; omega) (.slice B0 m0 d0)).far (p := ⟨gn, 1, none⟩) (by have := HGN.out; simp; omega) (.slice B1 m1 d1)).far (p := ⟨gn, 2, none⟩) (by have := HGN.out; simp; omega) (.slice B2 m2 d2))
      have RB4 := Lib.hid (((RB3.out.far (p := ⟨gn, 0, none⟩) (by have := HGN.out; simp; omega) (.slice B0 m0 d0)).far (p := ⟨gn, 1, none⟩) (by have := HGN.out; simp; omega) (.slice B1 m1 d1)).far (p := ⟨gn, 2, none⟩) (by have := HGN.out; simp; omega) (.slice B2 m2 d2))
      have RN4 := Lib.hid (show Row _ gn _ #[.slice B0 m0 d0, .slice B1 m1 d1, .slice B2 m2 d2] from ((RN3.out.set 0 (.slice B0 m0 d0)).set 1 (.slice B1 m1 d1)).set 2 (.slice B2 m2 d2))
      have RD4 := Lib.hid HV2.out.reads
      have OD4 := Lib.hid (show k + 1 = 0 ∨ DzA ((((w3.alloc (.cells #[.slice B0 m0 d0, .slice B1 m1 d1, .slice B2 m2 d2] 27)).setCell ⟨gn, 0, none⟩ (.slice B0 m0 d0)).setCell ⟨gn, 1, none⟩ (.slice B1 m1 d1)).setCell ⟨gn, 2, none⟩ (.slice B2 m2 d2)) (w.heap.size + 2) (.agg #[.slice B0 m0 d0, .slice B1 m1 d1, .slice B2 m2 d2]) (actD y L[k]) from Or.inr HV2.out)
      rw [hc]
      clear hc OD
      go_wp2_with fail
      go_roundw
      case rel => exact ⟨k + 1, actD y L[k], _, _, _, by omega, by go_num, RN4, RD4, RT2, SQ2, OD4, OL4, RA4, RB4, HX5⟩
      case measure => simp [intOf]; omega
    · have hke : k = L.length := by omega
      have HC := Lib.hid (replD_ok (y := y) (n := n) (d := d) E0.out (by rw [← HOP.out, SQ.out, seqD_end hke]))
      have hD : DzA wr (w.heap.size + 2) (.agg #[v0, v1, v2]) y := by
        rcases OD.out with h | h
        · have := HLL.out; omega
        · exact h
      obtain ⟨u0', u1', u2', ew, k0, k1, k2, -⟩ := id hD
      injection ew with ew
      injection ew with ew
      injection ew with ea ew
      injection ew with eb ew
      injection ew with ec ew
      subst ea eb ec
      obtain ⟨C0, m0, e0, rfl⟩ := k0.len
      obtain ⟨C1, m1, e1, rfl⟩ := k1.len
      obtain ⟨C2, m2, e2, rfl⟩ := k2.len
      have HV := Lib.hid hD
      have rn := RN.out
      have rr := RB.out
      obtain ⟨⟨t0, t1, t2⟩, -⟩ := rn.three
      obtain ⟨⟨r0, r1, r2⟩, ⟨f0, f1, f2⟩⟩ := rr.three
      clear hD k0 k1 k2 rn rr hke
      go_wp2_with fail
      have hr9 := (((RB.out).set 0 (.slice C0 m0 e0)).set 1 (.slice C1 m1 e1)).set 2 (.slice C2 m2 e2)
      refine bodyPost_ret (results_cell_row2 (p := 6) (u := 7) (ty := 27) rfl _ _ (w.heap.size + 1) 27 #[.slice C0 m0 e0, .slice C1 m1 e1, .slice C2 m2 e2] (0, 0) _ rfl rfl hr9 Try.underlying27 rfl HI.out) rfl ⟨⟨.agg #[.slice C0 m0 e0, .slice C1 m1 e1, .slice C2 m2 e2], ?_, ?_⟩, ?_⟩
      · rw [HC.out.1]; rfl
      · refine DzA.mono (base := w.heap.size + 2) ?_ (by omega)
        rw [HC.out.2]
        refine DzA.set (DzA.set (DzA.set (HV.out) ?_ _) ?_ _) ?_ _ <;> (exact Nat.lt_succ_self _)
      · exact ((HX.out.setCell (Nat.le_add_right _ 1) _).setCell (Nat.le_add_right _ 1) _).setCell (Nat.le_add_right _ 1) _
end Go.Proofs.Ytkinegapnknhiaa
