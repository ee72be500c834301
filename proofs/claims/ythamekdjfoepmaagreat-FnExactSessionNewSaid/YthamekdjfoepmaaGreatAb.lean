/-
  Several texts in one: what the proof leans on, part 2.
-/
import Derived.Test.YthamekdjfoepmaaGreatAa
import Derived.Laws.AppendOwn
import Derived.Maps.Own
import Derived.Maps.OwnOps
import Derived.Maps.OwnSet
import Derived.IntWalk
set_option linter.unusedVariables false
set_option linter.unusedSimpArgs false
namespace Go.Proofs.YthamekdjfoepmaaGreat
open Go.RowKit
def IntTs : List TypeId := []
def IntO : ElO Int := FlatO (fun n : Int => [.int .i64 n])
theorem IntO.good : GoodO IntTs 1 IntO := FlatO.good (fun _ => rfl) fun x u hu => by
 simp at hu
 try rcases hu with rfl
 all_goals first | rfl | (subst hu; rfl)
theorem IntO.toR {ok : Nat → Prop} {w : World} {base : Nat} {cs : List Value} {x : Int} {bs : List Nat} (h : IntO w base cs x bs) : IntR ok w cs x := h.1
theorem IntO.out : 2 ∉ IntTs := by decide
def TkTs : List TypeId := []
def TkO : ElO Tk := FlatO (Tk.cells)
theorem TkO.good : GoodO TkTs 5 TkO := FlatO.good (fun _ => rfl) fun x u hu => by
 simp [Tk.cells] at hu
 try rcases hu with rfl | rfl | rfl | rfl | rfl
 all_goals first | rfl | (subst hu; rfl)
theorem TkO.toR {ok : Nat → Prop} {w : World} {base : Nat} {cs : List Value} {x : Tk} {bs : List Nat} (h : TkO w base cs x bs) : TkR ok w cs x := h.1
theorem TkO.out : 139 ∉ TkTs := by decide
def VlTs : List TypeId := []
def VlO : ElO Vl := FlatO (Vl.cells)
theorem VlO.good : GoodO VlTs 3 VlO := FlatO.good (fun _ => rfl) fun x u hu => by
 simp [Vl.cells] at hu
 try rcases hu with rfl | rfl | rfl
 all_goals first | rfl | (subst hu; rfl)
theorem VlO.toR {ok : Nat → Prop} {w : World} {base : Nat} {cs : List Value} {x : Vl} {bs : List Nat} (h : VlO w base cs x bs) : VlR ok w cs x := h.1
theorem VlO.out : 100 ∉ VlTs := by decide
def ClTs : List TypeId := []
def ClO : ElO Cl := FlatO (Cl.cells)
theorem ClO.good : GoodO ClTs 6 ClO := FlatO.good (fun _ => rfl) fun x u hu => by
 simp [Cl.cells] at hu
 try rcases hu with rfl | rfl | rfl | rfl | rfl | rfl
 all_goals first | rfl | (subst hu; rfl)
theorem ClO.toR {ok : Nat → Prop} {w : World} {base : Nat} {cs : List Value} {x : Cl} {bs : List Nat} (h : ClO w base cs x bs) : ClR ok w cs x := h.1
theorem ClO.out : 102 ∉ ClTs := by decide
def UqTs : List TypeId := [2 :: IntTs].flatten
def UqO : ElO Uq := fun w base cs x bs => ∃ (v0 : Value) (b0 : List Nat), cs = [v0] ∧ OwnTr IntO 2 1 w base v0 x.cols b0 ∧ bs = [b0].flatten ∧ bs.Nodup
theorem UqO.good : GoodO UqTs 1 UqO where
 len := fun ⟨v0, b0, e, h0, e2, hn⟩ => by rw [e]; rfl
 one := fun ⟨v0, b0, e, h0, e2, hn⟩ u hu => by
  rw [e] at hu
  simp at hu
  try rcases hu with rfl
  all_goals first | rfl | exact h0.one | exact h1.one | exact h2.one | exact h3.one | exact h4.one | exact h5.one | (subst hu; first | rfl | exact h0.one)
 typed := fun ⟨v0, b0, e, h0, e2, hn⟩ b hb => by
  rw [e2] at hb
  simp only [List.flatten_cons, List.flatten_nil, List.append_nil, List.mem_append] at hb
  skip
  ·obtain ⟨k1, cur, U, k2, k3⟩ := h0.typed IntO.good b hb
   exact ⟨k1, cur, U, k2, by simp only [UqTs, List.flatten_cons, List.flatten_nil, List.append_nil, List.mem_append]; exact k3⟩
 nodup := fun ⟨v0, b0, e, h0, e2, hn⟩ => hn
 dep := fun ⟨v0, b0, e, h0, e2, hn⟩ hd => ⟨v0, b0, e, h0.dep IntO.good (fun b hb => hd b (by rw [e2]; exact mem_flatten_getD (bss := [b0]) (i := 0) hb)), e2, hn⟩
 mono := fun ⟨v0, b0, e, h0, e2, hn⟩ hb => ⟨v0, b0, e, h0.mono IntO.good hb, e2, hn⟩
theorem UqO.toR {w : World} {base : Nat} {cs : List Value} {x : Uq} {bs : List Nat} (h : UqO w base cs x bs) : UqR (okF base w) w cs x := by
 obtain ⟨v0, b0, e, h0, e2, hn⟩ := h
 obtain ⟨A0, c0, rfl, p0, q0, r0⟩ := h0.sl IntO.good (fun cs x bs h => IntO.toR h)
 exact ⟨A0, _, c0, e, r0, p0⟩
theorem UqO.out : 74 ∉ UqTs := by decide
def CkTs : List TypeId := [139 :: TkTs].flatten
def CkO : ElO Ck := fun w base cs x bs => ∃ (v0 : Value) (b0 : List Nat), cs = [v0] ∧ OwnTr TkO 139 5 w base v0 x.expr b0 ∧ bs = [b0].flatten ∧ bs.Nodup
theorem CkO.good : GoodO CkTs 1 CkO where
 len := fun ⟨v0, b0, e, h0, e2, hn⟩ => by rw [e]; rfl
 one := fun ⟨v0, b0, e, h0, e2, hn⟩ u hu => by
  rw [e] at hu
  simp at hu
  try rcases hu with rfl
  all_goals first | rfl | exact h0.one | exact h1.one | exact h2.one | exact h3.one | exact h4.one | exact h5.one | (subst hu; first | rfl | exact h0.one)
 typed := fun ⟨v0, b0, e, h0, e2, hn⟩ b hb => by
  rw [e2] at hb
  simp only [List.flatten_cons, List.flatten_nil, List.append_nil, List.mem_append] at hb
  skip
  ·obtain ⟨k1, cur, U, k2, k3⟩ := h0.typed TkO.good b hb
   exact ⟨k1, cur, U, k2, by simp only [CkTs, List.flatten_cons, List.flatten_nil, List.append_nil, List.mem_append]; exact k3⟩
 nodup := fun ⟨v0, b0, e, h0, e2, hn⟩ => hn
 dep := fun ⟨v0, b0, e, h0, e2, hn⟩ hd => ⟨v0, b0, e, h0.dep TkO.good (fun b hb => hd b (by rw [e2]; exact mem_flatten_getD (bss := [b0]) (i := 0) hb)), e2, hn⟩
 mono := fun ⟨v0, b0, e, h0, e2, hn⟩ hb => ⟨v0, b0, e, h0.mono TkO.good hb, e2, hn⟩
theorem CkO.toR {w : World} {base : Nat} {cs : List Value} {x : Ck} {bs : List Nat} (h : CkO w base cs x bs) : CkR (okF base w) w cs x := by
 obtain ⟨v0, b0, e, h0, e2, hn⟩ := h
 obtain ⟨A0, c0, rfl, p0, q0, r0⟩ := h0.sl TkO.good (fun cs x bs h => TkO.toR h)
 exact ⟨A0, _, c0, e, r0, p0⟩
theorem CkO.out : 78 ∉ CkTs := by decide
def FkTs : List TypeId := [2 :: IntTs].flatten
def FkO : ElO Fk := fun w base cs x bs => ∃ (v0 : Value) (b0 : List Nat), cs = [v0, .string x.table, .int .i64 x.del, .int .i64 x.upd, .bool x.dfr] ∧ OwnTr IntO 2 1 w base v0 x.cols b0 ∧ bs = [b0].flatten ∧ bs.Nodup
theorem FkO.good : GoodO FkTs 5 FkO where
 len := fun ⟨v0, b0, e, h0, e2, hn⟩ => by rw [e]; rfl
 one := fun ⟨v0, b0, e, h0, e2, hn⟩ u hu => by
  rw [e] at hu
  simp at hu
  try rcases hu with rfl | rfl | rfl | rfl | rfl
  all_goals first | rfl | exact h0.one | exact h1.one | exact h2.one | exact h3.one | exact h4.one | exact h5.one | (subst hu; first | rfl | exact h0.one)
 typed := fun ⟨v0, b0, e, h0, e2, hn⟩ b hb => by
  rw [e2] at hb
  simp only [List.flatten_cons, List.flatten_nil, List.append_nil, List.mem_append] at hb
  skip
  ·obtain ⟨k1, cur, U, k2, k3⟩ := h0.typed IntO.good b hb
   exact ⟨k1, cur, U, k2, by simp only [FkTs, List.flatten_cons, List.flatten_nil, List.append_nil, List.mem_append]; exact k3⟩
 nodup := fun ⟨v0, b0, e, h0, e2, hn⟩ => hn
 dep := fun ⟨v0, b0, e, h0, e2, hn⟩ hd => ⟨v0, b0, e, h0.dep IntO.good (fun b hb => hd b (by rw [e2]; exact mem_flatten_getD (bss := [b0]) (i := 0) hb)), e2, hn⟩
 mono := fun ⟨v0, b0, e, h0, e2, hn⟩ hb => ⟨v0, b0, e, h0.mono IntO.good hb, e2, hn⟩
theorem FkO.toR {w : World} {base : Nat} {cs : List Value} {x : Fk} {bs : List Nat} (h : FkO w base cs x bs) : FkR (okF base w) w cs x := by
 obtain ⟨v0, b0, e, h0, e2, hn⟩ := h
 obtain ⟨A0, c0, rfl, p0, q0, r0⟩ := h0.sl IntO.good (fun cs x bs h => IntO.toR h)
 exact ⟨A0, _, c0, e, r0, p0⟩
theorem FkO.out : 80 ∉ FkTs := by decide
def TbTs : List TypeId := [102 :: ClTs, 2 :: IntTs, 74 :: UqTs, 78 :: CkTs, 80 :: FkTs].flatten
def TbO : ElO Tb := fun w base cs x bs => ∃ (v1 : Value) (b1 : List Nat) (v2 : Value) (b2 : List Nat) (v3 : Value) (b3 : List Nat) (v4 : Value) (b4 : List Nat) (v5 : Value) (b5 : List Nat), cs = [.string x.name, v1, v2, v3, v4, v5] ∧ OwnTr ClO 102 6 w base v1 x.cols b1 ∧ OwnTr IntO 2 1 w base v2 x.key b2 ∧ OwnTr UqO 74 1 w base v3 x.uniqs b3 ∧ OwnTr CkO 78 1 w base v4 x.checks b4 ∧ OwnTr FkO 80 5 w base v5 x.fks b5 ∧ bs = [b1, b2, b3, b4, b5].flatten ∧ bs.Nodup
theorem TbO.good : GoodO TbTs 6 TbO where
 len := fun ⟨v1, b1, v2, b2, v3, b3, v4, b4, v5, b5, e, h1, h2, h3, h4, h5, e2, hn⟩ => by rw [e]; rfl
 one := fun ⟨v1, b1, v2, b2, v3, b3, v4, b4, v5, b5, e, h1, h2, h3, h4, h5, e2, hn⟩ u hu => by
  rw [e] at hu
  simp at hu
  try rcases hu with rfl | rfl | rfl | rfl | rfl | rfl
  all_goals first | rfl | exact h0.one | exact h1.one | exact h2.one | exact h3.one | exact h4.one | exact h5.one | (subst hu; first | rfl | exact h0.one)
 typed := fun ⟨v1, b1, v2, b2, v3, b3, v4, b4, v5, b5, e, h1, h2, h3, h4, h5, e2, hn⟩ b hb => by
  rw [e2] at hb
  simp only [List.flatten_cons, List.flatten_nil, List.append_nil, List.mem_append] at hb
  rcases hb with hb | hb | hb | hb | hb
  ·obtain ⟨k1, cur, U, k2, k3⟩ := h1.typed ClO.good b hb
   exact ⟨k1, cur, U, k2, by simp only [TbTs, List.flatten_cons, List.flatten_nil, List.append_nil, List.mem_append]; exact .inl k3⟩
  ·obtain ⟨k1, cur, U, k2, k3⟩ := h2.typed IntO.good b hb
   exact ⟨k1, cur, U, k2, by simp only [TbTs, List.flatten_cons, List.flatten_nil, List.append_nil, List.mem_append]; exact .inr (.inl k3)⟩
  ·obtain ⟨k1, cur, U, k2, k3⟩ := h3.typed UqO.good b hb
   exact ⟨k1, cur, U, k2, by simp only [TbTs, List.flatten_cons, List.flatten_nil, List.append_nil, List.mem_append]; exact .inr (.inr (.inl k3))⟩
  ·obtain ⟨k1, cur, U, k2, k3⟩ := h4.typed CkO.good b hb
   exact ⟨k1, cur, U, k2, by simp only [TbTs, List.flatten_cons, List.flatten_nil, List.append_nil, List.mem_append]; exact .inr (.inr (.inr (.inl k3)))⟩
  ·obtain ⟨k1, cur, U, k2, k3⟩ := h5.typed FkO.good b hb
   exact ⟨k1, cur, U, k2, by simp only [TbTs, List.flatten_cons, List.flatten_nil, List.append_nil, List.mem_append]; exact .inr (.inr (.inr (.inr (k3))))⟩
 nodup := fun ⟨v1, b1, v2, b2, v3, b3, v4, b4, v5, b5, e, h1, h2, h3, h4, h5, e2, hn⟩ => hn
 dep := fun ⟨v1, b1, v2, b2, v3, b3, v4, b4, v5, b5, e, h1, h2, h3, h4, h5, e2, hn⟩ hd => ⟨v1, b1, v2, b2, v3, b3, v4, b4, v5, b5, e, h1.dep ClO.good (fun b hb => hd b (by rw [e2]; exact mem_flatten_getD (bss := [b1, b2, b3, b4, b5]) (i := 0) hb)), h2.dep IntO.good (fun b hb => hd b (by rw [e2]; exact mem_flatten_getD (bss := [b1, b2, b3, b4, b5]) (i := 1) hb)), h3.dep UqO.good (fun b hb => hd b (by rw [e2]; exact mem_flatten_getD (bss := [b1, b2, b3, b4, b5]) (i := 2) hb)), h4.dep CkO.good (fun b hb => hd b (by rw [e2]; exact mem_flatten_getD (bss := [b1, b2, b3, b4, b5]) (i := 3) hb)), h5.dep FkO.good (fun b hb => hd b (by rw [e2]; exact mem_flatten_getD (bss := [b1, b2, b3, b4, b5]) (i := 4) hb)), e2, hn⟩
 mono := fun ⟨v1, b1, v2, b2, v3, b3, v4, b4, v5, b5, e, h1, h2, h3, h4, h5, e2, hn⟩ hb => ⟨v1, b1, v2, b2, v3, b3, v4, b4, v5, b5, e, h1.mono ClO.good hb, h2.mono IntO.good hb, h3.mono UqO.good hb, h4.mono CkO.good hb, h5.mono FkO.good hb, e2, hn⟩
theorem TbO.toR {w : World} {base : Nat} {cs : List Value} {x : Tb} {bs : List Nat} (h : TbO w base cs x bs) : TbR (okF base w) w cs x := by
 obtain ⟨v1, b1, v2, b2, v3, b3, v4, b4, v5, b5, e, h1, h2, h3, h4, h5, e2, hn⟩ := h
 obtain ⟨A1, c1, rfl, p1, q1, r1⟩ := h1.sl ClO.good (fun cs x bs h => ClO.toR h)
 obtain ⟨A2, c2, rfl, p2, q2, r2⟩ := h2.sl IntO.good (fun cs x bs h => IntO.toR h)
 obtain ⟨A3, c3, rfl, p3, q3, r3⟩ := h3.sl UqO.good (fun cs x bs h => UqO.toR h)
 obtain ⟨A4, c4, rfl, p4, q4, r4⟩ := h4.sl CkO.good (fun cs x bs h => CkO.toR h)
 obtain ⟨A5, c5, rfl, p5, q5, r5⟩ := h5.sl FkO.good (fun cs x bs h => FkO.toR h)
 exact ⟨A1, _, c1, A2, _, c2, A3, _, c3, A4, _, c4, A5, _, c5, e, r1, r2, r3, r4, r5, ⟨p1, p2, p3, p4, p5⟩⟩
theorem TbO.out : 53 ∉ TbTs := by decide
def RwTs : List TypeId := [100 :: VlTs].flatten
def RwO : ElO Rw := fun w base cs x bs => ∃ (v1 : Value) (b1 : List Nat), cs = [.int .i64 x.id, v1] ∧ OwnTr VlO 100 3 w base v1 x.vals b1 ∧ bs = [b1].flatten ∧ bs.Nodup
theorem RwO.good : GoodO RwTs 2 RwO where
 len := fun ⟨v1, b1, e, h1, e2, hn⟩ => by rw [e]; rfl
 one := fun ⟨v1, b1, e, h1, e2, hn⟩ u hu => by
  rw [e] at hu
  simp at hu
  try rcases hu with rfl | rfl
  all_goals first | rfl | exact h0.one | exact h1.one | exact h2.one | exact h3.one | exact h4.one | exact h5.one | (subst hu; first | rfl | exact h0.one)
 typed := fun ⟨v1, b1, e, h1, e2, hn⟩ b hb => by
  rw [e2] at hb
  simp only [List.flatten_cons, List.flatten_nil, List.append_nil, List.mem_append] at hb
  skip
  ·obtain ⟨k1, cur, U, k2, k3⟩ := h1.typed VlO.good b hb
   exact ⟨k1, cur, U, k2, by simp only [RwTs, List.flatten_cons, List.flatten_nil, List.append_nil, List.mem_append]; exact k3⟩
 nodup := fun ⟨v1, b1, e, h1, e2, hn⟩ => hn
 dep := fun ⟨v1, b1, e, h1, e2, hn⟩ hd => ⟨v1, b1, e, h1.dep VlO.good (fun b hb => hd b (by rw [e2]; exact mem_flatten_getD (bss := [b1]) (i := 0) hb)), e2, hn⟩
 mono := fun ⟨v1, b1, e, h1, e2, hn⟩ hb => ⟨v1, b1, e, h1.mono VlO.good hb, e2, hn⟩
theorem RwO.toR {w : World} {base : Nat} {cs : List Value} {x : Rw} {bs : List Nat} (h : RwO w base cs x bs) : RwR (okF base w) w cs x := by
 obtain ⟨v1, b1, e, h1, e2, hn⟩ := h
 obtain ⟨A1, c1, rfl, p1, q1, r1⟩ := h1.sl VlO.good (fun cs x bs h => VlO.toR h)
 exact ⟨A1, _, c1, e, r1, p1⟩
theorem RwO.out : 131 ∉ RwTs := by decide
def DtTs : List TypeId := [131 :: RwTs].flatten
def DtO : ElO Dt := fun w base cs x bs => ∃ (v0 : Value) (b0 : List Nat), cs = [v0] ∧ OwnTr RwO 131 2 w base v0 x.rows b0 ∧ bs = [b0].flatten ∧ bs.Nodup
theorem DtO.good : GoodO DtTs 1 DtO where
 len := fun ⟨v0, b0, e, h0, e2, hn⟩ => by rw [e]; rfl
 one := fun ⟨v0, b0, e, h0, e2, hn⟩ u hu => by
  rw [e] at hu
  simp at hu
  try rcases hu with rfl
  all_goals first | rfl | exact h0.one | exact h1.one | exact h2.one | exact h3.one | exact h4.one | exact h5.one | (subst hu; first | rfl | exact h0.one)
 typed := fun ⟨v0, b0, e, h0, e2, hn⟩ b hb => by
  rw [e2] at hb
  simp only [List.flatten_cons, List.flatten_nil, List.append_nil, List.mem_append] at hb
  skip
  ·obtain ⟨k1, cur, U, k2, k3⟩ := h0.typed RwO.good b hb
   exact ⟨k1, cur, U, k2, by simp only [DtTs, List.flatten_cons, List.flatten_nil, List.append_nil, List.mem_append]; exact k3⟩
 nodup := fun ⟨v0, b0, e, h0, e2, hn⟩ => hn
 dep := fun ⟨v0, b0, e, h0, e2, hn⟩ hd => ⟨v0, b0, e, h0.dep RwO.good (fun b hb => hd b (by rw [e2]; exact mem_flatten_getD (bss := [b0]) (i := 0) hb)), e2, hn⟩
 mono := fun ⟨v0, b0, e, h0, e2, hn⟩ hb => ⟨v0, b0, e, h0.mono RwO.good hb, e2, hn⟩
theorem DtO.toR {w : World} {base : Nat} {cs : List Value} {x : Dt} {bs : List Nat} (h : DtO w base cs x bs) : DtR (okF base w) w cs x := by
 obtain ⟨v0, b0, e, h0, e2, hn⟩ := h
 obtain ⟨A0, c0, rfl, p0, q0, r0⟩ := h0.sl RwO.good (fun cs x bs h => RwO.toR h)
 exact ⟨A0, _, c0, e, r0, p0⟩
theorem DtO.out : 89 ∉ DtTs := by decide
def SvTs : List TypeId := [89 :: DtTs].flatten
def SvO : ElO Sv := fun w base cs x bs => ∃ (v1 : Value) (b1 : List Nat), cs = [.string x.name, v1] ∧ OwnTr DtO 89 1 w base v1 x.db b1 ∧ bs = [b1].flatten ∧ bs.Nodup
theorem SvO.good : GoodO SvTs 2 SvO where
 len := fun ⟨v1, b1, e, h1, e2, hn⟩ => by rw [e]; rfl
 one := fun ⟨v1, b1, e, h1, e2, hn⟩ u hu => by
  rw [e] at hu
  simp at hu
  try rcases hu with rfl | rfl
  all_goals first | rfl | exact h0.one | exact h1.one | exact h2.one | exact h3.one | exact h4.one | exact h5.one | (subst hu; first | rfl | exact h0.one)
 typed := fun ⟨v1, b1, e, h1, e2, hn⟩ b hb => by
  rw [e2] at hb
  simp only [List.flatten_cons, List.flatten_nil, List.append_nil, List.mem_append] at hb
  skip
  ·obtain ⟨k1, cur, U, k2, k3⟩ := h1.typed DtO.good b hb
   exact ⟨k1, cur, U, k2, by simp only [SvTs, List.flatten_cons, List.flatten_nil, List.append_nil, List.mem_append]; exact k3⟩
 nodup := fun ⟨v1, b1, e, h1, e2, hn⟩ => hn
 dep := fun ⟨v1, b1, e, h1, e2, hn⟩ hd => ⟨v1, b1, e, h1.dep DtO.good (fun b hb => hd b (by rw [e2]; exact mem_flatten_getD (bss := [b1]) (i := 0) hb)), e2, hn⟩
 mono := fun ⟨v1, b1, e, h1, e2, hn⟩ hb => ⟨v1, b1, e, h1.mono DtO.good hb, e2, hn⟩
theorem SvO.toR {w : World} {base : Nat} {cs : List Value} {x : Sv} {bs : List Nat} (h : SvO w base cs x bs) : SvR (okF base w) w cs x := by
 obtain ⟨v1, b1, e, h1, e2, hn⟩ := h
 obtain ⟨A1, c1, rfl, p1, q1, r1⟩ := h1.sl DtO.good (fun cs x bs h => DtO.toR h)
 exact ⟨A1, _, c1, e, r1, p1⟩
theorem SvO.out : 92 ∉ SvTs := by decide
def Copied {α : Type} (Rr : Rd α) (T : TypeId) (sz : Nat) (ok : Nat → Prop) (w : World) (e : Ending) (w' : World) (xs : List α) : Prop :=
 ∃ (v' : Value) (vs : List (List Value)), e = .returned v' ∧ vs.length = xs.length ∧ (∀ c ∈ vs, c.length = sz) ∧ w'.ownsRow w.heap.size T sz v' xs.length vs.flatten ∧ (∀ i (hi : i < xs.length) (hi' : i < vs.length), Rr ok w vs[i] xs[i]) ∧ Below w.heap.size w w'
theorem infoTableCl : (Tryz.prog.info? 53).map (fun i => (i.zero, i.size, i.bytes)) = some (some (.agg #[.string ⟨#[]⟩, .slice none 0 0, .slice none 0 0, .slice none 0 0, .slice none 0 0, .slice none 0 0]), 6, 136) := by kernel_rfl
theorem oneTable {ok : Nat → Prop} {w : World} {cs : List Value} {x : Tb} (h : TbR ok w cs x) : ∀ u ∈ cs, u.oneCell' = true := fun u hu => by
 obtain ⟨_, _, _, _, _, _, _, _, _, _, _, _, _, _, _, rfl, -⟩ := h
 simp at hu
 try rcases hu with rfl | rfl | rfl | rfl | rfl | rfl
 all_goals first | rfl | (subst hu; rfl)
set_option maxRecDepth 100000 in
set_option maxHeartbeats 1000000 in
theorem implCloneTable (A : Option Addr) (n c : Nat) (xs : List Tb) (ok : Nat → Prop) (w : World) (h : Sl TbR 6 ok w A n xs) (hl : n ≤ 1073741824) :
  Calls Tryz.prog 77 #[.slice A n c] w fun e w' => Copied TbR 53 6 ok w e w' xs := by
 obtain ⟨i0, hi, hz0, hz1, hz2⟩ := info_parts infoTableCl
 have H1 := Lib.hid hi
 have H2 := Lib.hid hz0
 have H3 := Lib.hid hz1
 have H4 := Lib.hid hz2
 clear hi hz0 hz1 hz2
 obtain rfl : xs.length = n := h.1
 have q22 : ∀ (w : World) (a : Option Addr) (n c n' c' : Nat), (binOp .eql 24 (.slice a n c) (.slice none n' c')).run Tryz.prog w = .ok (.bool a.isNone) w := fun w a n c n' c' => Lib.run_eql_slice_nil w _ _ a n c n' c' Tryz.underlying24
 cases A with
 | none =>
  have hn : xs.length = 0 := by
   rcases Nat.eq_zero_or_pos xs.length with h' | h'
   ·exact h'
   ·obtain ⟨b, off, e, -⟩ := h.2 h'
    cases e
  obtain rfl : xs = [] := List.length_eq_zero_iff.1 hn
  simp only [List.length_nil] at *
  go_enter Tryz.func77, Tryz.ntmps77
  go_wp2_with fail
  go_ret
  exact ⟨_, [], rfl, rfl, fun c hc => (by cases hc), World.ownsRow_nil _ _ _ _, fun i h => by simp at h, Below.refl _ _⟩
 | some ad =>
  obtain ⟨vs, h1, h2, h3, h4⟩ := h.cells (by decide)
  have hb0 := (Below.refl w.heap.size w).alloc (Nat.le_refl _) (.cells #[] 53)
  have HO0 := Lib.hid (show World.ownsRow (w.alloc (.cells #[] 53)) w.heap.size 53 6 (.slice (some ⟨w.heap.size, 0, none⟩) 0 0) 0 [] from ⟨by simp, .inr ⟨w.heap.size, 0, #[], rfl, Nat.le_refl _, Go.heap_alloc_last w _, Nat.le_refl _, by simp [maxLen], by simp, by simp⟩⟩)
  have had : ad = ⟨ad.block, ad.off, none⟩ ∨ xs.length = 0 := by
   rcases Nat.eq_zero_or_pos xs.length with h' | h'
   ·exact .inr h'
   ·obtain ⟨b, off, e, -⟩ := h.2 h'
    cases e
    exact .inl rfl
  have HX := Lib.hid (show ∀ j u, vs.flatten[j]? = some u → (w.alloc (.cells #[] 53)).cell? (ad.add j) = some u from fun j u hj => by
   rcases had with e | e
   ·rw [e]; exact below_keep hb0 _ _ (h4 _ _ (by rw [← e]) j u hj)
   ·have : vs = [] := List.length_eq_zero_iff.1 (by omega)
    rw [this] at hj; simp at hj)
  have HL := Lib.hid (show vs.flatten.length = xs.length * 6 by rw [flat_len (sz := 6) vs h2, h1])
  have H6 := Lib.hid (show ∀ u ∈ vs.flatten, u.oneCell' = true from fun u hu => by
   obtain ⟨cs, hcs, hu⟩ := List.mem_flatten.1 hu
   obtain ⟨i, hi, rfl⟩ := List.mem_iff_getElem.1 hcs
   exact oneTable (h3 i (by omega) hi) u hu)
  have HK := Lib.hid (And.intro h1 (And.intro h2 h3))
  clear h h1 h2 h3 h4 hb0 had
  go_enter Tryz.func77, Tryz.ntmps77
  go_wp2_with (at_builtin; refine wpList_append_own _ rfl _ _ 24 rfl w.heap.size 53 i0 (.agg #[.string ⟨#[]⟩, .slice none 0 0, .slice none 0 0, .slice none 0 0, .slice none 0 0, .slice none 0 0]) 6 136 Tryz.underlying24 H1.out H2.out H3.out H4.out rfl (by decide) _ _ _ rfl HO0.out ad xs.length c vs.flatten rfl ?c0 ?c1 ?c2 ?c3 ?c4 ?c5 ?_)
  case c0 => exact HL.out
  case c1 => exact HX.out
  case c2 => exact H6.out
  case c3 => unfold maxLen; omega
  case c4 => omega
  case c5 => simp
  intro v9 w9 hown9 hgrow9 _
  go_wp2_with fail
  go_ret
  exact ⟨_, vs, rfl, HK.out.1, HK.out.2.1, by simpa using hown9, HK.out.2.2, ((Below.refl w.heap.size w).alloc (Nat.le_refl _) _).grown hgrow9 (by simp) (by intro k hk; simp [Value.ownBlock] at hk; omega)⟩
theorem infoColCl : (Tryz.prog.info? 102).map (fun i => (i.zero, i.size, i.bytes)) = some (some (.agg #[.string ⟨#[]⟩, .int .i64 0, .bool false, .int .i64 0, .int .i64 0, .string ⟨#[]⟩]), 6, 64) := by kernel_rfl
theorem oneCol {ok : Nat → Prop} {w : World} {cs : List Value} {x : Cl} (h : ClR ok w cs x) : ∀ u ∈ cs, u.oneCell' = true := fun u hu => by
 obtain rfl := h
 simp [Cl.cells] at hu
 try rcases hu with rfl | rfl | rfl | rfl | rfl | rfl
 all_goals first | rfl | (subst hu; rfl)
set_option maxRecDepth 100000 in
set_option maxHeartbeats 1000000 in
theorem implCloneCol (A : Option Addr) (n c : Nat) (xs : List Cl) (ok : Nat → Prop) (w : World) (h : Sl ClR 6 ok w A n xs) (hl : n ≤ 1073741824) :
  Calls Tryz.prog 107 #[.slice A n c] w fun e w' => Copied ClR 102 6 ok w e w' xs := by
 obtain ⟨i0, hi, hz0, hz1, hz2⟩ := info_parts infoColCl
 have H1 := Lib.hid hi
 have H2 := Lib.hid hz0
 have H3 := Lib.hid hz1
 have H4 := Lib.hid hz2
 clear hi hz0 hz1 hz2
 obtain rfl : xs.length = n := h.1
 have q22 : ∀ (w : World) (a : Option Addr) (n c n' c' : Nat), (binOp .eql 48 (.slice a n c) (.slice none n' c')).run Tryz.prog w = .ok (.bool a.isNone) w := fun w a n c n' c' => Lib.run_eql_slice_nil w _ _ a n c n' c' Tryz.underlying48
 cases A with
 | none =>
  have hn : xs.length = 0 := by
   rcases Nat.eq_zero_or_pos xs.length with h' | h'
   ·exact h'
   ·obtain ⟨b, off, e, -⟩ := h.2 h'
    cases e
  obtain rfl : xs = [] := List.length_eq_zero_iff.1 hn
  simp only [List.length_nil] at *
  go_enter Tryz.func107, Tryz.ntmps107
  go_wp2_with fail
  go_ret
  exact ⟨_, [], rfl, rfl, fun c hc => (by cases hc), World.ownsRow_nil _ _ _ _, fun i h => by simp at h, Below.refl _ _⟩
 | some ad =>
  obtain ⟨vs, h1, h2, h3, h4⟩ := h.cells (by decide)
  have hb0 := (Below.refl w.heap.size w).alloc (Nat.le_refl _) (.cells #[] 102)
  have HO0 := Lib.hid (show World.ownsRow (w.alloc (.cells #[] 102)) w.heap.size 102 6 (.slice (some ⟨w.heap.size, 0, none⟩) 0 0) 0 [] from ⟨by simp, .inr ⟨w.heap.size, 0, #[], rfl, Nat.le_refl _, Go.heap_alloc_last w _, Nat.le_refl _, by simp [maxLen], by simp, by simp⟩⟩)
  have had : ad = ⟨ad.block, ad.off, none⟩ ∨ xs.length = 0 := by
   rcases Nat.eq_zero_or_pos xs.length with h' | h'
   ·exact .inr h'
   ·obtain ⟨b, off, e, -⟩ := h.2 h'
    cases e
    exact .inl rfl
  have HX := Lib.hid (show ∀ j u, vs.flatten[j]? = some u → (w.alloc (.cells #[] 102)).cell? (ad.add j) = some u from fun j u hj => by
   rcases had with e | e
   ·rw [e]; exact below_keep hb0 _ _ (h4 _ _ (by rw [← e]) j u hj)
   ·have : vs = [] := List.length_eq_zero_iff.1 (by omega)
    rw [this] at hj; simp at hj)
  have HL := Lib.hid (show vs.flatten.length = xs.length * 6 by rw [flat_len (sz := 6) vs h2, h1])
  have H6 := Lib.hid (show ∀ u ∈ vs.flatten, u.oneCell' = true from fun u hu => by
   obtain ⟨cs, hcs, hu⟩ := List.mem_flatten.1 hu
   obtain ⟨i, hi, rfl⟩ := List.mem_iff_getElem.1 hcs
   exact oneCol (h3 i (by omega) hi) u hu)
  have HK := Lib.hid (And.intro h1 (And.intro h2 h3))
  clear h h1 h2 h3 h4 hb0 had
  go_enter Tryz.func107, Tryz.ntmps107
  go_wp2_with (at_builtin; refine wpList_append_own _ rfl _ _ 48 rfl w.heap.size 102 i0 (.agg #[.string ⟨#[]⟩, .int .i64 0, .bool false, .int .i64 0, .int .i64 0, .string ⟨#[]⟩]) 6 64 Tryz.underlying48 H1.out H2.out H3.out H4.out rfl (by decide) _ _ _ rfl HO0.out ad xs.length c vs.flatten rfl ?c0 ?c1 ?c2 ?c3 ?c4 ?c5 ?_)
  case c0 => exact HL.out
  case c1 => exact HX.out
  case c2 => exact H6.out
  case c3 => unfold maxLen; omega
  case c4 => omega
  case c5 => simp
  intro v9 w9 hown9 hgrow9 _
  go_wp2_with fail
  go_ret
  exact ⟨_, vs, rfl, HK.out.1, HK.out.2.1, by simpa using hown9, HK.out.2.2, ((Below.refl w.heap.size w).alloc (Nat.le_refl _) _).grown hgrow9 (by simp) (by intro k hk; simp [Value.ownBlock] at hk; omega)⟩
theorem infoUniqueCl : (Tryz.prog.info? 74).map (fun i => (i.zero, i.size, i.bytes)) = some (some (.agg #[.slice none 0 0]), 1, 24) := by kernel_rfl
theorem oneUnique {ok : Nat → Prop} {w : World} {cs : List Value} {x : Uq} (h : UqR ok w cs x) : ∀ u ∈ cs, u.oneCell' = true := fun u hu => by
 obtain ⟨_, _, _, rfl, -⟩ := h
 simp at hu
 try rcases hu with rfl
 all_goals first | rfl | (subst hu; rfl)
set_option maxRecDepth 100000 in
set_option maxHeartbeats 1000000 in
theorem implCloneUnique (A : Option Addr) (n c : Nat) (xs : List Uq) (ok : Nat → Prop) (w : World) (h : Sl UqR 1 ok w A n xs) (hl : n ≤ 1073741824) :
  Calls Tryz.prog 109 #[.slice A n c] w fun e w' => Copied UqR 74 1 ok w e w' xs := by
 obtain ⟨i0, hi, hz0, hz1, hz2⟩ := info_parts infoUniqueCl
 have H1 := Lib.hid hi
 have H2 := Lib.hid hz0
 have H3 := Lib.hid hz1
 have H4 := Lib.hid hz2
 clear hi hz0 hz1 hz2
 obtain rfl : xs.length = n := h.1
 have q22 : ∀ (w : World) (a : Option Addr) (n c n' c' : Nat), (binOp .eql 49 (.slice a n c) (.slice none n' c')).run Tryz.prog w = .ok (.bool a.isNone) w := fun w a n c n' c' => Lib.run_eql_slice_nil w _ _ a n c n' c' Tryz.underlying49
 cases A with
 | none =>
  have hn : xs.length = 0 := by
   rcases Nat.eq_zero_or_pos xs.length with h' | h'
   ·exact h'
   ·obtain ⟨b, off, e, -⟩ := h.2 h'
    cases e
  obtain rfl : xs = [] := List.length_eq_zero_iff.1 hn
  simp only [List.length_nil] at *
  go_enter Tryz.func109, Tryz.ntmps109
  go_wp2_with fail
  go_ret
  exact ⟨_, [], rfl, rfl, fun c hc => (by cases hc), World.ownsRow_nil _ _ _ _, fun i h => by simp at h, Below.refl _ _⟩
 | some ad =>
  obtain ⟨vs, h1, h2, h3, h4⟩ := h.cells (by decide)
  have hb0 := (Below.refl w.heap.size w).alloc (Nat.le_refl _) (.cells #[] 74)
  have HO0 := Lib.hid (show World.ownsRow (w.alloc (.cells #[] 74)) w.heap.size 74 1 (.slice (some ⟨w.heap.size, 0, none⟩) 0 0) 0 [] from ⟨by simp, .inr ⟨w.heap.size, 0, #[], rfl, Nat.le_refl _, Go.heap_alloc_last w _, Nat.le_refl _, by simp [maxLen], by simp, by simp⟩⟩)
  have had : ad = ⟨ad.block, ad.off, none⟩ ∨ xs.length = 0 := by
   rcases Nat.eq_zero_or_pos xs.length with h' | h'
   ·exact .inr h'
   ·obtain ⟨b, off, e, -⟩ := h.2 h'
    cases e
    exact .inl rfl
  have HX := Lib.hid (show ∀ j u, vs.flatten[j]? = some u → (w.alloc (.cells #[] 74)).cell? (ad.add j) = some u from fun j u hj => by
   rcases had with e | e
   ·rw [e]; exact below_keep hb0 _ _ (h4 _ _ (by rw [← e]) j u hj)
   ·have : vs = [] := List.length_eq_zero_iff.1 (by omega)
    rw [this] at hj; simp at hj)
  have HL := Lib.hid (show vs.flatten.length = xs.length * 1 by rw [flat_len (sz := 1) vs h2, h1])
  have H6 := Lib.hid (show ∀ u ∈ vs.flatten, u.oneCell' = true from fun u hu => by
   obtain ⟨cs, hcs, hu⟩ := List.mem_flatten.1 hu
   obtain ⟨i, hi, rfl⟩ := List.mem_iff_getElem.1 hcs
   exact oneUnique (h3 i (by omega) hi) u hu)
  have HK := Lib.hid (And.intro h1 (And.intro h2 h3))
  clear h h1 h2 h3 h4 hb0 had
  go_enter Tryz.func109, Tryz.ntmps109
  go_wp2_with (at_builtin; refine wpList_append_own _ rfl _ _ 49 rfl w.heap.size 74 i0 (.agg #[.slice none 0 0]) 1 24 Tryz.underlying49 H1.out H2.out H3.out H4.out rfl (by decide) _ _ _ rfl HO0.out ad xs.length c vs.flatten rfl ?c0 ?c1 ?c2 ?c3 ?c4 ?c5 ?_)
  case c0 => exact HL.out
  case c1 => exact HX.out
  case c2 => exact H6.out
  case c3 => unfold maxLen; omega
  case c4 => omega
  case c5 => simp
  intro v9 w9 hown9 hgrow9 _
  go_wp2_with fail
  go_ret
  exact ⟨_, vs, rfl, HK.out.1, HK.out.2.1, by simpa using hown9, HK.out.2.2, ((Below.refl w.heap.size w).alloc (Nat.le_refl _) _).grown hgrow9 (by simp) (by intro k hk; simp [Value.ownBlock] at hk; omega)⟩
theorem infoCheckCl : (Tryz.prog.info? 78).map (fun i => (i.zero, i.size, i.bytes)) = some (some (.agg #[.slice none 0 0]), 1, 24) := by kernel_rfl
theorem oneCheck {ok : Nat → Prop} {w : World} {cs : List Value} {x : Ck} (h : CkR ok w cs x) : ∀ u ∈ cs, u.oneCell' = true := fun u hu => by
 obtain ⟨_, _, _, rfl, -⟩ := h
 simp at hu
 try rcases hu with rfl
 all_goals first | rfl | (subst hu; rfl)
set_option maxRecDepth 100000 in
set_option maxHeartbeats 1000000 in
theorem implCloneCheck (A : Option Addr) (n c : Nat) (xs : List Ck) (ok : Nat → Prop) (w : World) (h : Sl CkR 1 ok w A n xs) (hl : n ≤ 1073741824) :
  Calls Tryz.prog 110 #[.slice A n c] w fun e w' => Copied CkR 78 1 ok w e w' xs := by
 obtain ⟨i0, hi, hz0, hz1, hz2⟩ := info_parts infoCheckCl
 have H1 := Lib.hid hi
 have H2 := Lib.hid hz0
 have H3 := Lib.hid hz1
 have H4 := Lib.hid hz2
 clear hi hz0 hz1 hz2
 obtain rfl : xs.length = n := h.1
 have q22 : ∀ (w : World) (a : Option Addr) (n c n' c' : Nat), (binOp .eql 50 (.slice a n c) (.slice none n' c')).run Tryz.prog w = .ok (.bool a.isNone) w := fun w a n c n' c' => Lib.run_eql_slice_nil w _ _ a n c n' c' Tryz.underlying50
 cases A with
 | none =>
  have hn : xs.length = 0 := by
   rcases Nat.eq_zero_or_pos xs.length with h' | h'
   ·exact h'
   ·obtain ⟨b, off, e, -⟩ := h.2 h'
    cases e
  obtain rfl : xs = [] := List.length_eq_zero_iff.1 hn
  simp only [List.length_nil] at *
  go_enter Tryz.func110, Tryz.ntmps110
  go_wp2_with fail
  go_ret
  exact ⟨_, [], rfl, rfl, fun c hc => (by cases hc), World.ownsRow_nil _ _ _ _, fun i h => by simp at h, Below.refl _ _⟩
 | some ad =>
  obtain ⟨vs, h1, h2, h3, h4⟩ := h.cells (by decide)
  have hb0 := (Below.refl w.heap.size w).alloc (Nat.le_refl _) (.cells #[] 78)
  have HO0 := Lib.hid (show World.ownsRow (w.alloc (.cells #[] 78)) w.heap.size 78 1 (.slice (some ⟨w.heap.size, 0, none⟩) 0 0) 0 [] from ⟨by simp, .inr ⟨w.heap.size, 0, #[], rfl, Nat.le_refl _, Go.heap_alloc_last w _, Nat.le_refl _, by simp [maxLen], by simp, by simp⟩⟩)
  have had : ad = ⟨ad.block, ad.off, none⟩ ∨ xs.length = 0 := by
   rcases Nat.eq_zero_or_pos xs.length with h' | h'
   ·exact .inr h'
   ·obtain ⟨b, off, e, -⟩ := h.2 h'
    cases e
    exact .inl rfl
  have HX := Lib.hid (show ∀ j u, vs.flatten[j]? = some u → (w.alloc (.cells #[] 78)).cell? (ad.add j) = some u from fun j u hj => by
   rcases had with e | e
   ·rw [e]; exact below_keep hb0 _ _ (h4 _ _ (by rw [← e]) j u hj)
   ·have : vs = [] := List.length_eq_zero_iff.1 (by omega)
    rw [this] at hj; simp at hj)
  have HL := Lib.hid (show vs.flatten.length = xs.length * 1 by rw [flat_len (sz := 1) vs h2, h1])
  have H6 := Lib.hid (show ∀ u ∈ vs.flatten, u.oneCell' = true from fun u hu => by
   obtain ⟨cs, hcs, hu⟩ := List.mem_flatten.1 hu
   obtain ⟨i, hi, rfl⟩ := List.mem_iff_getElem.1 hcs
   exact oneCheck (h3 i (by omega) hi) u hu)
  have HK := Lib.hid (And.intro h1 (And.intro h2 h3))
  clear h h1 h2 h3 h4 hb0 had
  go_enter Tryz.func110, Tryz.ntmps110
  go_wp2_with (at_builtin; refine wpList_append_own _ rfl _ _ 50 rfl w.heap.size 78 i0 (.agg #[.slice none 0 0]) 1 24 Tryz.underlying50 H1.out H2.out H3.out H4.out rfl (by decide) _ _ _ rfl HO0.out ad xs.length c vs.flatten rfl ?c0 ?c1 ?c2 ?c3 ?c4 ?c5 ?_)
  case c0 => exact HL.out
  case c1 => exact HX.out
  case c2 => exact H6.out
  case c3 => unfold maxLen; omega
  case c4 => omega
  case c5 => simp
  intro v9 w9 hown9 hgrow9 _
  go_wp2_with fail
  go_ret
  exact ⟨_, vs, rfl, HK.out.1, HK.out.2.1, by simpa using hown9, HK.out.2.2, ((Below.refl w.heap.size w).alloc (Nat.le_refl _) _).grown hgrow9 (by simp) (by intro k hk; simp [Value.ownBlock] at hk; omega)⟩
theorem infoTokCl : (Tryz.prog.info? 139).map (fun i => (i.zero, i.size, i.bytes)) = some (some (.agg #[.int .i64 0, .int .i64 0, .int .i64 0, .int .i64 0, .string ⟨#[]⟩]), 5, 48) := by kernel_rfl
theorem oneTok {ok : Nat → Prop} {w : World} {cs : List Value} {x : Tk} (h : TkR ok w cs x) : ∀ u ∈ cs, u.oneCell' = true := fun u hu => by
 obtain rfl := h
 simp [Tk.cells] at hu
 try rcases hu with rfl | rfl | rfl | rfl | rfl
 all_goals first | rfl | (subst hu; rfl)
set_option maxRecDepth 100000 in
set_option maxHeartbeats 1000000 in
theorem implCloneTok (A : Option Addr) (n c : Nat) (xs : List Tk) (ok : Nat → Prop) (w : World) (h : Sl TkR 5 ok w A n xs) (hl : n ≤ 1073741824) :
  Calls Tryz.prog 111 #[.slice A n c] w fun e w' => Copied TkR 139 5 ok w e w' xs := by
 obtain ⟨i0, hi, hz0, hz1, hz2⟩ := info_parts infoTokCl
 have H1 := Lib.hid hi
 have H2 := Lib.hid hz0
 have H3 := Lib.hid hz1
 have H4 := Lib.hid hz2
 clear hi hz0 hz1 hz2
 obtain rfl : xs.length = n := h.1
 have q22 : ∀ (w : World) (a : Option Addr) (n c n' c' : Nat), (binOp .eql 75 (.slice a n c) (.slice none n' c')).run Tryz.prog w = .ok (.bool a.isNone) w := fun w a n c n' c' => Lib.run_eql_slice_nil w _ _ a n c n' c' Tryz.underlying75
 cases A with
 | none =>
  have hn : xs.length = 0 := by
   rcases Nat.eq_zero_or_pos xs.length with h' | h'
   ·exact h'
   ·obtain ⟨b, off, e, -⟩ := h.2 h'
    cases e
  obtain rfl : xs = [] := List.length_eq_zero_iff.1 hn
  simp only [List.length_nil] at *
  go_enter Tryz.func111, Tryz.ntmps111
  go_wp2_with fail
  go_ret
  exact ⟨_, [], rfl, rfl, fun c hc => (by cases hc), World.ownsRow_nil _ _ _ _, fun i h => by simp at h, Below.refl _ _⟩
 | some ad =>
  obtain ⟨vs, h1, h2, h3, h4⟩ := h.cells (by decide)
  have hb0 := (Below.refl w.heap.size w).alloc (Nat.le_refl _) (.cells #[] 139)
  have HO0 := Lib.hid (show World.ownsRow (w.alloc (.cells #[] 139)) w.heap.size 139 5 (.slice (some ⟨w.heap.size, 0, none⟩) 0 0) 0 [] from ⟨by simp, .inr ⟨w.heap.size, 0, #[], rfl, Nat.le_refl _, Go.heap_alloc_last w _, Nat.le_refl _, by simp [maxLen], by simp, by simp⟩⟩)
  have had : ad = ⟨ad.block, ad.off, none⟩ ∨ xs.length = 0 := by
   rcases Nat.eq_zero_or_pos xs.length with h' | h'
   ·exact .inr h'
   ·obtain ⟨b, off, e, -⟩ := h.2 h'
    cases e
    exact .inl rfl
  have HX := Lib.hid (show ∀ j u, vs.flatten[j]? = some u → (w.alloc (.cells #[] 139)).cell? (ad.add j) = some u from fun j u hj => by
   rcases had with e | e
   ·rw [e]; exact below_keep hb0 _ _ (h4 _ _ (by rw [← e]) j u hj)
   ·have : vs = [] := List.length_eq_zero_iff.1 (by omega)
    rw [this] at hj; simp at hj)
  have HL := Lib.hid (show vs.flatten.length = xs.length * 5 by rw [flat_len (sz := 5) vs h2, h1])
  have H6 := Lib.hid (show ∀ u ∈ vs.flatten, u.oneCell' = true from fun u hu => by
   obtain ⟨cs, hcs, hu⟩ := List.mem_flatten.1 hu
   obtain ⟨i, hi, rfl⟩ := List.mem_iff_getElem.1 hcs
   exact oneTok (h3 i (by omega) hi) u hu)
  have HK := Lib.hid (And.intro h1 (And.intro h2 h3))
  clear h h1 h2 h3 h4 hb0 had
  go_enter Tryz.func111, Tryz.ntmps111
  go_wp2_with (at_builtin; refine wpList_append_own _ rfl _ _ 75 rfl w.heap.size 139 i0 (.agg #[.int .i64 0, .int .i64 0, .int .i64 0, .int .i64 0, .string ⟨#[]⟩]) 5 48 Tryz.underlying75 H1.out H2.out H3.out H4.out rfl (by decide) _ _ _ rfl HO0.out ad xs.length c vs.flatten rfl ?c0 ?c1 ?c2 ?c3 ?c4 ?c5 ?_)
  case c0 => exact HL.out
  case c1 => exact HX.out
  case c2 => exact H6.out
  case c3 => unfold maxLen; omega
  case c4 => omega
  case c5 => simp
  intro v9 w9 hown9 hgrow9 _
  go_wp2_with fail
  go_ret
  exact ⟨_, vs, rfl, HK.out.1, HK.out.2.1, by simpa using hown9, HK.out.2.2, ((Below.refl w.heap.size w).alloc (Nat.le_refl _) _).grown hgrow9 (by simp) (by intro k hk; simp [Value.ownBlock] at hk; omega)⟩
theorem infoFkCl : (Tryz.prog.info? 80).map (fun i => (i.zero, i.size, i.bytes)) = some (some (.agg #[.slice none 0 0, .string ⟨#[]⟩, .int .i64 0, .int .i64 0, .bool false]), 5, 64) := by kernel_rfl
theorem oneFk {ok : Nat → Prop} {w : World} {cs : List Value} {x : Fk} (h : FkR ok w cs x) : ∀ u ∈ cs, u.oneCell' = true := fun u hu => by
 obtain ⟨_, _, _, rfl, -⟩ := h
 simp at hu
 try rcases hu with rfl | rfl | rfl | rfl | rfl
 all_goals first | rfl | (subst hu; rfl)
set_option maxRecDepth 100000 in
set_option maxHeartbeats 1000000 in
theorem implCloneFk (A : Option Addr) (n c : Nat) (xs : List Fk) (ok : Nat → Prop) (w : World) (h : Sl FkR 5 ok w A n xs) (hl : n ≤ 1073741824) :
  Calls Tryz.prog 112 #[.slice A n c] w fun e w' => Copied FkR 80 5 ok w e w' xs := by
 obtain ⟨i0, hi, hz0, hz1, hz2⟩ := info_parts infoFkCl
 have H1 := Lib.hid hi
 have H2 := Lib.hid hz0
 have H3 := Lib.hid hz1
 have H4 := Lib.hid hz2
 clear hi hz0 hz1 hz2
 obtain rfl : xs.length = n := h.1
 have q22 : ∀ (w : World) (a : Option Addr) (n c n' c' : Nat), (binOp .eql 51 (.slice a n c) (.slice none n' c')).run Tryz.prog w = .ok (.bool a.isNone) w := fun w a n c n' c' => Lib.run_eql_slice_nil w _ _ a n c n' c' Tryz.underlying51
 cases A with
 | none =>
  have hn : xs.length = 0 := by
   rcases Nat.eq_zero_or_pos xs.length with h' | h'
   ·exact h'
   ·obtain ⟨b, off, e, -⟩ := h.2 h'
    cases e
  obtain rfl : xs = [] := List.length_eq_zero_iff.1 hn
  simp only [List.length_nil] at *
  go_enter Tryz.func112, Tryz.ntmps112
  go_wp2_with fail
  go_ret
  exact ⟨_, [], rfl, rfl, fun c hc => (by cases hc), World.ownsRow_nil _ _ _ _, fun i h => by simp at h, Below.refl _ _⟩
 | some ad =>
  obtain ⟨vs, h1, h2, h3, h4⟩ := h.cells (by decide)
  have hb0 := (Below.refl w.heap.size w).alloc (Nat.le_refl _) (.cells #[] 80)
  have HO0 := Lib.hid (show World.ownsRow (w.alloc (.cells #[] 80)) w.heap.size 80 5 (.slice (some ⟨w.heap.size, 0, none⟩) 0 0) 0 [] from ⟨by simp, .inr ⟨w.heap.size, 0, #[], rfl, Nat.le_refl _, Go.heap_alloc_last w _, Nat.le_refl _, by simp [maxLen], by simp, by simp⟩⟩)
  have had : ad = ⟨ad.block, ad.off, none⟩ ∨ xs.length = 0 := by
   rcases Nat.eq_zero_or_pos xs.length with h' | h'
   ·exact .inr h'
   ·obtain ⟨b, off, e, -⟩ := h.2 h'
    cases e
    exact .inl rfl
  have HX := Lib.hid (show ∀ j u, vs.flatten[j]? = some u → (w.alloc (.cells #[] 80)).cell? (ad.add j) = some u from fun j u hj => by
   rcases had with e | e
   ·rw [e]; exact below_keep hb0 _ _ (h4 _ _ (by rw [← e]) j u hj)
   ·have : vs = [] := List.length_eq_zero_iff.1 (by omega)
    rw [this] at hj; simp at hj)
  have HL := Lib.hid (show vs.flatten.length = xs.length * 5 by rw [flat_len (sz := 5) vs h2, h1])
  have H6 := Lib.hid (show ∀ u ∈ vs.flatten, u.oneCell' = true from fun u hu => by
   obtain ⟨cs, hcs, hu⟩ := List.mem_flatten.1 hu
   obtain ⟨i, hi, rfl⟩ := List.mem_iff_getElem.1 hcs
   exact oneFk (h3 i (by omega) hi) u hu)
  have HK := Lib.hid (And.intro h1 (And.intro h2 h3))
  clear h h1 h2 h3 h4 hb0 had
  go_enter Tryz.func112, Tryz.ntmps112
  go_wp2_with (at_builtin; refine wpList_append_own _ rfl _ _ 51 rfl w.heap.size 80 i0 (.agg #[.slice none 0 0, .string ⟨#[]⟩, .int .i64 0, .int .i64 0, .bool false]) 5 64 Tryz.underlying51 H1.out H2.out H3.out H4.out rfl (by decide) _ _ _ rfl HO0.out ad xs.length c vs.flatten rfl ?c0 ?c1 ?c2 ?c3 ?c4 ?c5 ?_)
  case c0 => exact HL.out
  case c1 => exact HX.out
  case c2 => exact H6.out
  case c3 => unfold maxLen; omega
  case c4 => omega
  case c5 => simp
  intro v9 w9 hown9 hgrow9 _
  go_wp2_with fail
  go_ret
  exact ⟨_, vs, rfl, HK.out.1, HK.out.2.1, by simpa using hown9, HK.out.2.2, ((Below.refl w.heap.size w).alloc (Nat.le_refl _) _).grown hgrow9 (by simp) (by intro k hk; simp [Value.ownBlock] at hk; omega)⟩
theorem infoRowCl : (Tryz.prog.info? 131).map (fun i => (i.zero, i.size, i.bytes)) = some (some (.agg #[.int .i64 0, .slice none 0 0]), 2, 32) := by kernel_rfl
theorem oneRow {ok : Nat → Prop} {w : World} {cs : List Value} {x : Rw} (h : RwR ok w cs x) : ∀ u ∈ cs, u.oneCell' = true := fun u hu => by
 obtain ⟨_, _, _, rfl, -⟩ := h
 simp at hu
 try rcases hu with rfl | rfl
 all_goals first | rfl | (subst hu; rfl)
set_option maxRecDepth 100000 in
set_option maxHeartbeats 1000000 in
theorem implCloneRow (A : Option Addr) (n c : Nat) (xs : List Rw) (ok : Nat → Prop) (w : World) (h : Sl RwR 2 ok w A n xs) (hl : n ≤ 1073741824) :
  Calls Tryz.prog 113 #[.slice A n c] w fun e w' => Copied RwR 131 2 ok w e w' xs := by
 obtain ⟨i0, hi, hz0, hz1, hz2⟩ := info_parts infoRowCl
 have H1 := Lib.hid hi
 have H2 := Lib.hid hz0
 have H3 := Lib.hid hz1
 have H4 := Lib.hid hz2
 clear hi hz0 hz1 hz2
 obtain rfl : xs.length = n := h.1
 have q22 : ∀ (w : World) (a : Option Addr) (n c n' c' : Nat), (binOp .eql 87 (.slice a n c) (.slice none n' c')).run Tryz.prog w = .ok (.bool a.isNone) w := fun w a n c n' c' => Lib.run_eql_slice_nil w _ _ a n c n' c' Tryz.underlying87
 cases A with
 | none =>
  have hn : xs.length = 0 := by
   rcases Nat.eq_zero_or_pos xs.length with h' | h'
   ·exact h'
   ·obtain ⟨b, off, e, -⟩ := h.2 h'
    cases e
  obtain rfl : xs = [] := List.length_eq_zero_iff.1 hn
  simp only [List.length_nil] at *
  go_enter Tryz.func113, Tryz.ntmps113
  go_wp2_with fail
  go_ret
  exact ⟨_, [], rfl, rfl, fun c hc => (by cases hc), World.ownsRow_nil _ _ _ _, fun i h => by simp at h, Below.refl _ _⟩
 | some ad =>
  obtain ⟨vs, h1, h2, h3, h4⟩ := h.cells (by decide)
  have hb0 := (Below.refl w.heap.size w).alloc (Nat.le_refl _) (.cells #[] 131)
  have HO0 := Lib.hid (show World.ownsRow (w.alloc (.cells #[] 131)) w.heap.size 131 2 (.slice (some ⟨w.heap.size, 0, none⟩) 0 0) 0 [] from ⟨by simp, .inr ⟨w.heap.size, 0, #[], rfl, Nat.le_refl _, Go.heap_alloc_last w _, Nat.le_refl _, by simp [maxLen], by simp, by simp⟩⟩)
  have had : ad = ⟨ad.block, ad.off, none⟩ ∨ xs.length = 0 := by
   rcases Nat.eq_zero_or_pos xs.length with h' | h'
   ·exact .inr h'
   ·obtain ⟨b, off, e, -⟩ := h.2 h'
    cases e
    exact .inl rfl
  have HX := Lib.hid (show ∀ j u, vs.flatten[j]? = some u → (w.alloc (.cells #[] 131)).cell? (ad.add j) = some u from fun j u hj => by
   rcases had with e | e
   ·rw [e]; exact below_keep hb0 _ _ (h4 _ _ (by rw [← e]) j u hj)
   ·have : vs = [] := List.length_eq_zero_iff.1 (by omega)
    rw [this] at hj; simp at hj)
  have HL := Lib.hid (show vs.flatten.length = xs.length * 2 by rw [flat_len (sz := 2) vs h2, h1])
  have H6 := Lib.hid (show ∀ u ∈ vs.flatten, u.oneCell' = true from fun u hu => by
   obtain ⟨cs, hcs, hu⟩ := List.mem_flatten.1 hu
   obtain ⟨i, hi, rfl⟩ := List.mem_iff_getElem.1 hcs
   exact oneRow (h3 i (by omega) hi) u hu)
  have HK := Lib.hid (And.intro h1 (And.intro h2 h3))
  clear h h1 h2 h3 h4 hb0 had
  go_enter Tryz.func113, Tryz.ntmps113
  go_wp2_with (at_builtin; refine wpList_append_own _ rfl _ _ 87 rfl w.heap.size 131 i0 (.agg #[.int .i64 0, .slice none 0 0]) 2 32 Tryz.underlying87 H1.out H2.out H3.out H4.out rfl (by decide) _ _ _ rfl HO0.out ad xs.length c vs.flatten rfl ?c0 ?c1 ?c2 ?c3 ?c4 ?c5 ?_)
  case c0 => exact HL.out
  case c1 => exact HX.out
  case c2 => exact H6.out
  case c3 => unfold maxLen; omega
  case c4 => omega
  case c5 => simp
  intro v9 w9 hown9 hgrow9 _
  go_wp2_with fail
  go_ret
  exact ⟨_, vs, rfl, HK.out.1, HK.out.2.1, by simpa using hown9, HK.out.2.2, ((Below.refl w.heap.size w).alloc (Nat.le_refl _) _).grown hgrow9 (by simp) (by intro k hk; simp [Value.ownBlock] at hk; omega)⟩
theorem infoInt64Cl : (Tryz.prog.info? 2).map (fun i => (i.zero, i.size, i.bytes)) = some (some (.int .i64 0), 1, 8) := by kernel_rfl
theorem oneInt64 {ok : Nat → Prop} {w : World} {cs : List Value} {x : Int} (h : IntR ok w cs x) : ∀ u ∈ cs, u.oneCell' = true := fun u hu => by
 obtain rfl := h
 simp [] at hu
 try rcases hu with rfl
 all_goals first | rfl | (subst hu; rfl)
set_option maxRecDepth 100000 in
set_option maxHeartbeats 1000000 in
theorem implCloneInt64 (A : Option Addr) (n c : Nat) (xs : List Int) (ok : Nat → Prop) (w : World) (h : Sl IntR 1 ok w A n xs) (hl : n ≤ 1073741824) :
  Calls Tryz.prog 108 #[.slice A n c] w fun e w' => Copied IntR 2 1 ok w e w' xs := by
 obtain ⟨i0, hi, hz0, hz1, hz2⟩ := info_parts infoInt64Cl
 have H1 := Lib.hid hi
 have H2 := Lib.hid hz0
 have H3 := Lib.hid hz1
 have H4 := Lib.hid hz2
 clear hi hz0 hz1 hz2
 obtain rfl : xs.length = n := h.1
 have q22 : ∀ (w : World) (a : Option Addr) (n c n' c' : Nat), (binOp .eql 39 (.slice a n c) (.slice none n' c')).run Tryz.prog w = .ok (.bool a.isNone) w := fun w a n c n' c' => Lib.run_eql_slice_nil w _ _ a n c n' c' Tryz.underlying39
 cases A with
 | none =>
  have hn : xs.length = 0 := by
   rcases Nat.eq_zero_or_pos xs.length with h' | h'
   ·exact h'
   ·obtain ⟨b, off, e, -⟩ := h.2 h'
    cases e
  obtain rfl : xs = [] := List.length_eq_zero_iff.1 hn
  simp only [List.length_nil] at *
  go_enter Tryz.func108, Tryz.ntmps108
  go_wp2_with fail
  go_ret
  exact ⟨_, [], rfl, rfl, fun c hc => (by cases hc), World.ownsRow_nil _ _ _ _, fun i h => by simp at h, Below.refl _ _⟩
 | some ad =>
  obtain ⟨vs, h1, h2, h3, h4⟩ := h.cells (by decide)
  have hb0 := (Below.refl w.heap.size w).alloc (Nat.le_refl _) (.cells #[] 2)
  have HO0 := Lib.hid (show World.ownsRow (w.alloc (.cells #[] 2)) w.heap.size 2 1 (.slice (some ⟨w.heap.size, 0, none⟩) 0 0) 0 [] from ⟨by simp, .inr ⟨w.heap.size, 0, #[], rfl, Nat.le_refl _, Go.heap_alloc_last w _, Nat.le_refl _, by simp [maxLen], by simp, by simp⟩⟩)
  have had : ad = ⟨ad.block, ad.off, none⟩ ∨ xs.length = 0 := by
   rcases Nat.eq_zero_or_pos xs.length with h' | h'
   ·exact .inr h'
   ·obtain ⟨b, off, e, -⟩ := h.2 h'
    cases e
    exact .inl rfl
  have HX := Lib.hid (show ∀ j u, vs.flatten[j]? = some u → (w.alloc (.cells #[] 2)).cell? (ad.add j) = some u from fun j u hj => by
   rcases had with e | e
   ·rw [e]; exact below_keep hb0 _ _ (h4 _ _ (by rw [← e]) j u hj)
   ·have : vs = [] := List.length_eq_zero_iff.1 (by omega)
    rw [this] at hj; simp at hj)
  have HL := Lib.hid (show vs.flatten.length = xs.length * 1 by rw [flat_len (sz := 1) vs h2, h1])
  have H6 := Lib.hid (show ∀ u ∈ vs.flatten, u.oneCell' = true from fun u hu => by
   obtain ⟨cs, hcs, hu⟩ := List.mem_flatten.1 hu
   obtain ⟨i, hi, rfl⟩ := List.mem_iff_getElem.1 hcs
   exact oneInt64 (h3 i (by omega) hi) u hu)
  have HK := Lib.hid (And.intro h1 (And.intro h2 h3))
  clear h h1 h2 h3 h4 hb0 had
  go_enter Tryz.func108, Tryz.ntmps108
  go_wp2_with (at_builtin; refine wpList_append_own _ rfl _ _ 39 rfl w.heap.size 2 i0 (.int .i64 0) 1 8 Tryz.underlying39 H1.out H2.out H3.out H4.out rfl (by decide) _ _ _ rfl HO0.out ad xs.length c vs.flatten rfl ?c0 ?c1 ?c2 ?c3 ?c4 ?c5 ?_)
  case c0 => exact HL.out
  case c1 => exact HX.out
  case c2 => exact H6.out
  case c3 => unfold maxLen; omega
  case c4 => omega
  case c5 => simp
  intro v9 w9 hown9 hgrow9 _
  go_wp2_with fail
  go_ret
  exact ⟨_, vs, rfl, HK.out.1, HK.out.2.1, by simpa using hown9, HK.out.2.2, ((Below.refl w.heap.size w).alloc (Nat.le_refl _) _).grown hgrow9 (by simp) (by intro k hk; simp [Value.ownBlock] at hk; omega)⟩
theorem infoValCl : (Tryz.prog.info? 100).map (fun i => (i.zero, i.size, i.bytes)) = some (some (.agg #[.int .i64 0, .int .i64 0, .string ⟨#[]⟩]), 3, 32) := by kernel_rfl
theorem oneVal {ok : Nat → Prop} {w : World} {cs : List Value} {x : Vl} (h : VlR ok w cs x) : ∀ u ∈ cs, u.oneCell' = true := fun u hu => by
 obtain rfl := h
 simp [Vl.cells] at hu
 try rcases hu with rfl | rfl | rfl
 all_goals first | rfl | (subst hu; rfl)
set_option maxRecDepth 100000 in
set_option maxHeartbeats 1000000 in
theorem implCloneVal (A : Option Addr) (n c : Nat) (xs : List Vl) (ok : Nat → Prop) (w : World) (h : Sl VlR 3 ok w A n xs) (hl : n ≤ 1073741824) :
  Calls Tryz.prog 80 #[.slice A n c] w fun e w' => Copied VlR 100 3 ok w e w' xs := by
 obtain ⟨i0, hi, hz0, hz1, hz2⟩ := info_parts infoValCl
 have H1 := Lib.hid hi
 have H2 := Lib.hid hz0
 have H3 := Lib.hid hz1
 have H4 := Lib.hid hz2
 clear hi hz0 hz1 hz2
 obtain rfl : xs.length = n := h.1
 have q22 : ∀ (w : World) (a : Option Addr) (n c n' c' : Nat), (binOp .eql 129 (.slice a n c) (.slice none n' c')).run Tryz.prog w = .ok (.bool a.isNone) w := fun w a n c n' c' => Lib.run_eql_slice_nil w _ _ a n c n' c' Tryz.underlying129
 cases A with
 | none =>
  have hn : xs.length = 0 := by
   rcases Nat.eq_zero_or_pos xs.length with h' | h'
   ·exact h'
   ·obtain ⟨b, off, e, -⟩ := h.2 h'
    cases e
  obtain rfl : xs = [] := List.length_eq_zero_iff.1 hn
  simp only [List.length_nil] at *
  go_enter Tryz.func80, Tryz.ntmps80
  go_wp2_with fail
  go_ret
  exact ⟨_, [], rfl, rfl, fun c hc => (by cases hc), World.ownsRow_nil _ _ _ _, fun i h => by simp at h, Below.refl _ _⟩
 | some ad =>
  obtain ⟨vs, h1, h2, h3, h4⟩ := h.cells (by decide)
  have hb0 := (Below.refl w.heap.size w).alloc (Nat.le_refl _) (.cells #[] 100)
  have HO0 := Lib.hid (show World.ownsRow (w.alloc (.cells #[] 100)) w.heap.size 100 3 (.slice (some ⟨w.heap.size, 0, none⟩) 0 0) 0 [] from ⟨by simp, .inr ⟨w.heap.size, 0, #[], rfl, Nat.le_refl _, Go.heap_alloc_last w _, Nat.le_refl _, by simp [maxLen], by simp, by simp⟩⟩)
  have had : ad = ⟨ad.block, ad.off, none⟩ ∨ xs.length = 0 := by
   rcases Nat.eq_zero_or_pos xs.length with h' | h'
   ·exact .inr h'
   ·obtain ⟨b, off, e, -⟩ := h.2 h'
    cases e
    exact .inl rfl
  have HX := Lib.hid (show ∀ j u, vs.flatten[j]? = some u → (w.alloc (.cells #[] 100)).cell? (ad.add j) = some u from fun j u hj => by
   rcases had with e | e
   ·rw [e]; exact below_keep hb0 _ _ (h4 _ _ (by rw [← e]) j u hj)
   ·have : vs = [] := List.length_eq_zero_iff.1 (by omega)
    rw [this] at hj; simp at hj)
  have HL := Lib.hid (show vs.flatten.length = xs.length * 3 by rw [flat_len (sz := 3) vs h2, h1])
  have H6 := Lib.hid (show ∀ u ∈ vs.flatten, u.oneCell' = true from fun u hu => by
   obtain ⟨cs, hcs, hu⟩ := List.mem_flatten.1 hu
   obtain ⟨i, hi, rfl⟩ := List.mem_iff_getElem.1 hcs
   exact oneVal (h3 i (by omega) hi) u hu)
  have HK := Lib.hid (And.intro h1 (And.intro h2 h3))
  clear h h1 h2 h3 h4 hb0 had
  go_enter Tryz.func80, Tryz.ntmps80
  go_wp2_with (at_builtin; refine wpList_append_own _ rfl _ _ 129 rfl w.heap.size 100 i0 (.agg #[.int .i64 0, .int .i64 0, .string ⟨#[]⟩]) 3 32 Tryz.underlying129 H1.out H2.out H3.out H4.out rfl (by decide) _ _ _ rfl HO0.out ad xs.length c vs.flatten rfl ?c0 ?c1 ?c2 ?c3 ?c4 ?c5 ?_)
  case c0 => exact HL.out
  case c1 => exact HX.out
  case c2 => exact H6.out
  case c3 => unfold maxLen; omega
  case c4 => omega
  case c5 => simp
  intro v9 w9 hown9 hgrow9 _
  go_wp2_with fail
  go_ret
  exact ⟨_, vs, rfl, HK.out.1, HK.out.2.1, by simpa using hown9, HK.out.2.2, ((Below.refl w.heap.size w).alloc (Nat.le_refl _) _).grown hgrow9 (by simp) (by intro k hk; simp [Value.ownBlock] at hk; omega)⟩
end Go.Proofs.YthamekdjfoepmaaGreat
namespace Go.Proofs.YthamekdjfoepmaaGreat
open Go.RowKit
theorem But.belowAll {B R : Nat} {a w : World} (h : But R a w) (hR : B ≤ R) (hB : B ≤ a.heap.size) : Below B a w := ⟨h.os, h.tape, h.output, h.size, fun k hk => h.block k (by omega) (by omega)⟩
theorem keepT3C {w w' : World} {p q r : Addr} {u v t : Value} (h : w.cell? p = some u ∧ w.cell? q = some v ∧ w.cell? r = some t) (hb : Below w.heap.size w w') : w'.cell? p = some u ∧ w'.cell? q = some v ∧ w'.cell? r = some t := ⟨below_keep hb _ _ h.1, below_keep hb _ _ h.2.1, below_keep hb _ _ h.2.2⟩
theorem rows2C (w : World) (T : TypeId) (cs cs' : Array Value) : Row ((w.alloc (.cells cs T)).alloc (.cells cs' T)) w.heap.size T cs ∧ Row ((w.alloc (.cells cs T)).alloc (.cells cs' T)) (w.heap.size + 1) T cs' := by
 refine ⟨(Row.new w T cs).alloc _, ?_⟩
 have h := Row.new (w.alloc (.cells cs T)) T cs'
 have e : (w.alloc (.cells cs T)).heap.size = w.heap.size + 1 := by simp
 rwa [e] at h
section
variable {α : Type} {Ts : List TypeId} {sz : Nat} {E : ElO α} {T : TypeId}
theorem OwnTr.but (G : GoodO Ts sz E) {w w' : World} {base R : Nat} {v : Value} {xs : List α} {bs : List Nat} (h : OwnTr E T sz w base v xs bs) (hb : But R w w') (hR : R < base) : OwnTr E T sz w' base v xs bs := h.dep G fun b hb' => by
 have h1 := h.lt G b hb'
 exact hb.block b h1.2 (by omega)
theorem OwnPt.but (G : GoodO Ts sz E) {w w' : World} {base R : Nat} {v : Value} {xs : List α} {vs : List (List Value)} {k : Nat} {bs : List Nat} (h : OwnPt E T sz w base v xs vs k bs) (hb : But R w w') (hR : R < base) : OwnPt E T sz w' base v xs vs k bs := OwnTr.but (PartO.good G) h hb hR
theorem OwnPt.lt (G : GoodO Ts sz E) {w : World} {base : Nat} {v : Value} {xs : List α} {vs : List (List Value)} {k : Nat} {bs : List Nat} (h : OwnPt E T sz w base v xs vs k bs) : ∀ b ∈ bs, base ≤ b ∧ b < w.heap.size := OwnTr.lt (PartO.good G) h
theorem OwnPt.shape {w : World} {base : Nat} {v : Value} {xs : List α} {vs : List (List Value)} {k : Nat} {bs : List Nat} (h : OwnPt E T sz w base v xs vs k bs) (hl : vs.length = xs.length) (hk : k ≤ xs.length) : ∃ A c, v = .slice A xs.length c := by
 obtain ⟨css, bss, h, -⟩ := h
 have := ownsRow_shape' h.row
 rwa [partL_len hl hk] at this
theorem Copied.own {f : α → List Value} (hf : ∀ x, (f x).length = sz) {ok : Nat → Prop} {w w' : World} {e : Ending} {xs : List α} (h : Copied (FlatR f) T sz ok w e w' xs) : ∃ v bs, e = .returned v ∧ OwnTr (FlatO f) T sz w' w.heap.size v xs bs ∧ Below w.heap.size w w' := by
 obtain ⟨v, vs, rfl, h1, h2, h3, h4, h5⟩ := h
 exact ⟨v, _, rfl, OwnTr.flat hf h3 h1 fun i hi hi' => h4 i hi hi', h5⟩
theorem Copied.part {Rr : Rd α} (h1 : ∀ (ok : Nat → Prop) (w : World) (cs : List Value) (x : α), Rr ok w cs x → ∀ u ∈ cs, u.oneCell' = true) {ok : Nat → Prop} {w w' : World} {e : Ending} {xs : List α} (h : Copied Rr T sz ok w e w' xs) :
  ∃ v vs bs, e = .returned v ∧ vs.length = xs.length ∧ OwnPt E T sz w' w.heap.size v xs vs 0 bs ∧ (∀ i (hi : i < xs.length) (hi' : i < vs.length), Rr ok w vs[i] xs[i]) ∧ Below w.heap.size w w' := by
 obtain ⟨v, vs, rfl, k1, k2, k3, k4, k5⟩ := h
 exact ⟨v, vs, _, rfl, k1, OwnPt.start k3 k1 k2 fun c hc u hu => by
  obtain ⟨i, hi, rfl⟩ := List.mem_iff_getElem.1 hc
  exact h1 _ _ _ _ (k4 i (by omega) hi) u hu, k4, k5⟩
theorem OwnTr.shape {w : World} {base : Nat} {v : Value} {xs : List α} {bs : List Nat} (h : OwnTr E T sz w base v xs bs) : ∃ A c, v = .slice A xs.length c := h.l.shape
end
theorem ownCloneCol (A : Option Addr) (n c : Nat) (xs : List Cl) (ok : Nat → Prop) (w : World) (h : Sl ClR 6 ok w A n xs) (hl : n ≤ 1073741824) :
  Calls Tryz.prog 107 #[.slice A n c] w fun e w' => ∃ v bs, e = .returned v ∧ OwnTr ClO 102 6 w' w.heap.size v xs bs ∧ Below w.heap.size w w' :=
 (implCloneCol A n c xs ok w h hl).mono fun e w' hc => Copied.own (f := Cl.cells) (fun _ => rfl) hc
theorem ownCloneInt64 (A : Option Addr) (n c : Nat) (xs : List Int) (ok : Nat → Prop) (w : World) (h : Sl IntR 1 ok w A n xs) (hl : n ≤ 1073741824) :
  Calls Tryz.prog 108 #[.slice A n c] w fun e w' => ∃ v bs, e = .returned v ∧ OwnTr IntO 2 1 w' w.heap.size v xs bs ∧ Below w.heap.size w w' :=
 (implCloneInt64 A n c xs ok w h hl).mono fun e w' hc => Copied.own (f := fun n : Int => [.int .i64 n]) (fun _ => rfl) hc
theorem ownCloneTok (A : Option Addr) (n c : Nat) (xs : List Tk) (ok : Nat → Prop) (w : World) (h : Sl TkR 5 ok w A n xs) (hl : n ≤ 1073741824) :
  Calls Tryz.prog 111 #[.slice A n c] w fun e w' => ∃ v bs, e = .returned v ∧ OwnTr TkO 139 5 w' w.heap.size v xs bs ∧ Below w.heap.size w w' :=
 (implCloneTok A n c xs ok w h hl).mono fun e w' hc => Copied.own (f := Tk.cells) (fun _ => rfl) hc
theorem ownCloneVal (A : Option Addr) (n c : Nat) (xs : List Vl) (ok : Nat → Prop) (w : World) (h : Sl VlR 3 ok w A n xs) (hl : n ≤ 1073741824) :
  Calls Tryz.prog 80 #[.slice A n c] w fun e w' => ∃ v bs, e = .returned v ∧ OwnTr VlO 100 3 w' w.heap.size v xs bs ∧ Below w.heap.size w w' :=
 (implCloneVal A n c xs ok w h hl).mono fun e w' hc => Copied.own (f := Vl.cells) (fun _ => rfl) hc
theorem ownCloneUnique (A : Option Addr) (n c : Nat) (xs : List Uq) (ok : Nat → Prop) (w : World) (h : Sl UqR 1 ok w A n xs) (hl : n ≤ 1073741824) :
  Calls Tryz.prog 109 #[.slice A n c] w fun e w' => ∃ v vs bs, e = .returned v ∧ vs.length = xs.length ∧ OwnPt UqO 74 1 w' w.heap.size v xs vs 0 bs ∧ (∀ i (hi : i < xs.length) (hi' : i < vs.length), UqR ok w vs[i] xs[i]) ∧ Below w.heap.size w w' :=
 (implCloneUnique A n c xs ok w h hl).mono fun e w' hc => Copied.part (E := UqO) (fun _ _ _ _ h => oneUnique h) hc
theorem ownCloneCheck (A : Option Addr) (n c : Nat) (xs : List Ck) (ok : Nat → Prop) (w : World) (h : Sl CkR 1 ok w A n xs) (hl : n ≤ 1073741824) :
  Calls Tryz.prog 110 #[.slice A n c] w fun e w' => ∃ v vs bs, e = .returned v ∧ vs.length = xs.length ∧ OwnPt CkO 78 1 w' w.heap.size v xs vs 0 bs ∧ (∀ i (hi : i < xs.length) (hi' : i < vs.length), CkR ok w vs[i] xs[i]) ∧ Below w.heap.size w w' :=
 (implCloneCheck A n c xs ok w h hl).mono fun e w' hc => Copied.part (E := CkO) (fun _ _ _ _ h => oneCheck h) hc
theorem ownCloneFk (A : Option Addr) (n c : Nat) (xs : List Fk) (ok : Nat → Prop) (w : World) (h : Sl FkR 5 ok w A n xs) (hl : n ≤ 1073741824) :
  Calls Tryz.prog 112 #[.slice A n c] w fun e w' => ∃ v vs bs, e = .returned v ∧ vs.length = xs.length ∧ OwnPt FkO 80 5 w' w.heap.size v xs vs 0 bs ∧ (∀ i (hi : i < xs.length) (hi' : i < vs.length), FkR ok w vs[i] xs[i]) ∧ Below w.heap.size w w' :=
 (implCloneFk A n c xs ok w h hl).mono fun e w' hc => Copied.part (E := FkO) (fun _ _ _ _ h => oneFk h) hc
theorem ownCloneRow (A : Option Addr) (n c : Nat) (xs : List Rw) (ok : Nat → Prop) (w : World) (h : Sl RwR 2 ok w A n xs) (hl : n ≤ 1073741824) :
  Calls Tryz.prog 113 #[.slice A n c] w fun e w' => ∃ v vs bs, e = .returned v ∧ vs.length = xs.length ∧ OwnPt RwO 131 2 w' w.heap.size v xs vs 0 bs ∧ (∀ i (hi : i < xs.length) (hi' : i < vs.length), RwR ok w vs[i] xs[i]) ∧ Below w.heap.size w w' :=
 (implCloneRow A n c xs ok w h hl).mono fun e w' hc => Copied.part (E := RwO) (fun _ _ _ _ h => oneRow h) hc
theorem ownCloneTable (A : Option Addr) (n c : Nat) (xs : List Tb) (ok : Nat → Prop) (w : World) (h : Sl TbR 6 ok w A n xs) (hl : n ≤ 1073741824) :
  Calls Tryz.prog 77 #[.slice A n c] w fun e w' => ∃ v vs bs, e = .returned v ∧ vs.length = xs.length ∧ OwnPt TbO 53 6 w' w.heap.size v xs vs 0 bs ∧ (∀ i (hi : i < xs.length) (hi' : i < vs.length), TbR ok w vs[i] xs[i]) ∧ Below w.heap.size w w' :=
 (implCloneTable A n c xs ok w h hl).mono fun e w' hc => Copied.part (E := TbO) (fun _ _ _ _ h => oneTable h) hc
theorem TbO.mk5 {w : World} {base B2 B3 B4 B5 : Nat} {x : Tb} {v1 v2 v3 v4 v5 : Value} {b1 b2 b3 b4 b5 : List Nat} (h1 : OwnTr ClO 102 6 w base v1 x.cols b1) (h2 : OwnTr IntO 2 1 w B2 v2 x.key b2) (h3 : OwnTr UqO 74 1 w B3 v3 x.uniqs b3) (h4 : OwnTr CkO 78 1 w B4 v4 x.checks b4) (h5 : OwnTr FkO 80 5 w B5 v5 x.fks b5)
  (l1 : ∀ b ∈ b1, b < B2) (l2 : ∀ b ∈ b2, b < B3) (l3 : ∀ b ∈ b3, b < B4) (l4 : ∀ b ∈ b4, b < B5) (e1 : base ≤ B2) (e2 : B2 ≤ B3) (e3 : B3 ≤ B4) (e4 : B4 ≤ B5) : TbO w base [.string x.name, v1, v2, v3, v4, v5] x [b1, b2, b3, b4, b5].flatten := by
 refine ⟨v1, b1, v2, b2, v3, b3, v4, b4, v5, b5, rfl, h1, h2.mono IntO.good e1, h3.mono UqO.good (by omega), h4.mono CkO.good (by omega), h5.mono FkO.good (by omega), rfl, ?_⟩
 have g1 := h1.lt ClO.good
 have g2 := h2.lt IntO.good
 have g3 := h3.lt UqO.good
 have g4 := h4.lt CkO.good
 have g5 := h5.lt FkO.good
 simp only [List.flatten_cons, List.flatten_nil, List.append_nil]
 refine List.nodup_append.2 ⟨h1.nodup ClO.good ClO.out, List.nodup_append.2 ⟨h2.nodup IntO.good IntO.out, List.nodup_append.2 ⟨h3.nodup UqO.good UqO.out, List.nodup_append.2 ⟨h4.nodup CkO.good CkO.out, h5.nodup FkO.good FkO.out, ?_⟩, ?_⟩, ?_⟩, ?_⟩
 ·intro a ha b hb; have := l4 a ha; have := g5 b hb; omega
 ·intro a ha b hb
  have := l3 a ha
  rcases List.mem_append.1 hb with hb | hb
  ·have := g4 b hb; omega
  ·have := g5 b hb; omega
 ·intro a ha b hb
  have := l2 a ha
  rcases List.mem_append.1 hb with hb | hb
  ·have := g3 b hb; omega
  ·rcases List.mem_append.1 hb with hb | hb
   ·have := g4 b hb; omega
   ·have := g5 b hb; omega
 ·intro a ha b hb
  have := l1 a ha
  rcases List.mem_append.1 hb with hb | hb
  ·have := g2 b hb; omega
  ·rcases List.mem_append.1 hb with hb | hb
   ·have := g3 b hb; omega
   ·rcases List.mem_append.1 hb with hb | hb
    ·have := g4 b hb; omega
    ·have := g5 b hb; omega
end Go.Proofs.YthamekdjfoepmaaGreat
namespace Go.Proofs.YthamekdjfoepmaaGreat
open Go.RowKit
theorem ownsRow_below {w w' : World} {base : Nat} {T : TypeId} {sz : Nat} {v : Value} {n : Nat} {xs : List Value} (h : w.ownsRow base T sz v n xs) (hb : Below w.heap.size w w') : w'.ownsRow base T sz v n xs := by
 refine ⟨h.1, ?_⟩
 rcases h.2 with h | ⟨g, cap, cur, rfl, h1, h2, h3⟩
 ·exact .inl h
 ·exact .inr ⟨g, cap, cur, rfl, h1, (hb.block g (lt_of_block h2)).trans h2, h3⟩
end Go.Proofs.YthamekdjfoepmaaGreat
namespace Go.Proofs.YthamekdjfoepmaaGreat
open Go.RowKit
section
variable {P : Program} {w : World}
theorem run_append_own_0 (base : Nat) (t ty e : TypeId) (i : TypeInfo) (size : Nat) (ht : P.underlying t = some (.slice e)) (hi : P.info? e = some i)
  (v : Value) (n : Nat) (xs : List Value) (hown : w.ownsRow base e size v n xs) (c : Nat) :
  (Builtin.append_ #[t, t] ty #[v, .slice none 0 c]).run P w = .ok v w := by
 rcases hown.2 with ⟨rfl, rfl⟩ | ⟨g, cap, cur, rfl, _, _, hnc, _⟩
 ·simp [Builtin.append_, run_underlying ht, sizeOf, typeInfo, hi, Builtin.lenOf, Builtin.firstCells]
 ·simp [Builtin.append_, run_underlying ht, sizeOf, typeInfo, hi, Builtin.lenOf, Builtin.firstCells, hnc, storeCells]
theorem wpList_append_own_0 {ops : Array Oper} {rest : List Oper} {o : Oper} {a : Act} {Q : Exit → Act → World → Prop} (hgd : o.guard = none) (s x : Operand) (t : TypeId)
  (ho : o.op = .call { callee := .builtin .append, args := #[s, x], argTypes := #[t, t] })
  (base : Nat) (e : TypeId) (i : TypeInfo) (size : Nat) (ht : P.underlying t = some (.slice e)) (hi : P.info? e = some i)
  (v : Value) (n : Nat) (xs : List Value) (hs : a.eval s = v) (hown : w.ownsRow base e size v n xs) (c : Nat) (hx : a.eval x = .slice none 0 c)
  (h : wpList P ops Q rest (a.put o.dst v) w) : wpList P ops Q (o :: rest) a w := by
 refine wpList_plain hgd fun K hK => ?_
 have hrun := run_append_own_0 (P := P) (w := w) base t o.type e i size ht hi v n xs hown c
 unfold Oper.wp
 simp [execOp, ho, resolve, invoke, builtin, hs, hx, hrun, Result.andThen]
 exact hK _ _ h
end
theorem Sl.flat_cells {α : Type} {f : α → List Value} {sz : Nat} (hz : 0 < sz) (hf : ∀ d, (f d).length = sz) {ok : Nat → Prop} {w : World} {ad : Addr} {n : Nat} {xs : List α} (h : Sl (FlatR f) sz ok w (some ad) n xs) :
  ∀ j u, ((xs.map f).flatten)[j]? = some u → w.cell? (ad.add j) = some u := fun j u hj => by
 have hl := flat_len (sz := sz) (xs.map f) (fun c hc => by obtain ⟨d, _, rfl⟩ := List.mem_map.1 hc; exact hf d)
 have hjl := (List.getElem?_eq_some_iff.1 hj).1
 rw [hl, List.length_map] at hjl
 have hlen := h.1
 obtain ⟨b, off, e, hb, hi⟩ := h.2 (by rcases Nat.eq_zero_or_pos n with h0 | h0; · rw [hlen, h0] at hjl; omega
                                       ·exact h0)
 cases e
 have hdiv : j / sz < xs.length := Nat.div_lt_of_lt_mul (by rw [Nat.mul_comm]; exact hjl)
 have hmod : j % sz < sz := Nat.mod_lt _ hz
 have hj' : j / sz * sz + j % sz = j := by rw [Nat.mul_comm]; exact Nat.div_add_mod j sz
 obtain ⟨cs, h1, h2, h3⟩ := hi (j / sz) hdiv
 cases h2
 have := flat_get (sz := sz) (xs.map f) (j / sz) (j % sz) (by simpa using hdiv) hmod (fun c hc => by obtain ⟨d, _, rfl⟩ := List.mem_map.1 hc; exact hf d)
 rw [hj', hj, List.getElem_map] at this
 have := h3 (j % sz) u this.symm
 rw [addr_add, ← hj', ← Nat.add_assoc]
 exact this
end Go.Proofs.YthamekdjfoepmaaGreat
namespace Go.Proofs.YthamekdjfoepmaaGreat
open Go.RowKit
theorem Sl.drew {α : Type} {R : Rd α} (hR : Stays R) {sz : Nat} {ok : Nat → Prop} {w : World} {A : Option Addr} {n : Nat} {ds : List α} (h : Sl R sz ok w A n ds) : Sl R sz ok w.drew A n ds := h.stays hR (fun _ h => h) fun _ _ _ h => h
theorem keepE2 {w w' : World} {a0 a1 : Addr} {v0 v1 : Value} (h : w.cell? a0 = some v0 ∧ w.cell? a1 = some v1) (hb : Below w.heap.size w w') : w'.cell? a0 = some v0 ∧ w'.cell? a1 = some v1 := by
 obtain ⟨h0, h1⟩ := h
 exact ⟨(hb.cell (cell_lt h0)).trans h0, (hb.cell (cell_lt h1)).trans h1⟩
theorem keepE4 {w w' : World} {a0 a1 a2 a3 : Addr} {v0 v1 v2 v3 : Value} (h : w.cell? a0 = some v0 ∧ w.cell? a1 = some v1 ∧ w.cell? a2 = some v2 ∧ w.cell? a3 = some v3) (hb : Below w.heap.size w w') : w'.cell? a0 = some v0 ∧ w'.cell? a1 = some v1 ∧ w'.cell? a2 = some v2 ∧ w'.cell? a3 = some v3 := by
 obtain ⟨h0, h1, h2, h3⟩ := h
 exact ⟨(hb.cell (cell_lt h0)).trans h0, (hb.cell (cell_lt h1)).trans h1, (hb.cell (cell_lt h2)).trans h2, (hb.cell (cell_lt h3)).trans h3⟩
theorem keepE6 {w w' : World} {a0 a1 a2 a3 a4 a5 : Addr} {v0 v1 v2 v3 v4 v5 : Value} (h : w.cell? a0 = some v0 ∧ w.cell? a1 = some v1 ∧ w.cell? a2 = some v2 ∧ w.cell? a3 = some v3 ∧ w.cell? a4 = some v4 ∧ w.cell? a5 = some v5) (hb : Below w.heap.size w w') : w'.cell? a0 = some v0 ∧ w'.cell? a1 = some v1 ∧ w'.cell? a2 = some v2 ∧ w'.cell? a3 = some v3 ∧ w'.cell? a4 = some v4 ∧ w'.cell? a5 = some v5 := by
 obtain ⟨h0, h1, h2, h3, h4, h5⟩ := h
 exact ⟨(hb.cell (cell_lt h0)).trans h0, (hb.cell (cell_lt h1)).trans h1, (hb.cell (cell_lt h2)).trans h2, (hb.cell (cell_lt h3)).trans h3, (hb.cell (cell_lt h4)).trans h4, (hb.cell (cell_lt h5)).trans h5⟩
theorem keepE10 {w w' : World} {a0 a1 a2 a3 a4 a5 a6 a7 a8 a9 : Addr} {v0 v1 v2 v3 v4 v5 v6 v7 v8 v9 : Value} (h : w.cell? a0 = some v0 ∧ w.cell? a1 = some v1 ∧ w.cell? a2 = some v2 ∧ w.cell? a3 = some v3 ∧ w.cell? a4 = some v4 ∧ w.cell? a5 = some v5 ∧ w.cell? a6 = some v6 ∧ w.cell? a7 = some v7 ∧ w.cell? a8 = some v8 ∧ w.cell? a9 = some v9) (hb : Below w.heap.size w w') : w'.cell? a0 = some v0 ∧ w'.cell? a1 = some v1 ∧ w'.cell? a2 = some v2 ∧ w'.cell? a3 = some v3 ∧ w'.cell? a4 = some v4 ∧ w'.cell? a5 = some v5 ∧ w'.cell? a6 = some v6 ∧ w'.cell? a7 = some v7 ∧ w'.cell? a8 = some v8 ∧ w'.cell? a9 = some v9 := by
 obtain ⟨h0, h1, h2, h3, h4, h5, h6, h7, h8, h9⟩ := h
 exact ⟨(hb.cell (cell_lt h0)).trans h0, (hb.cell (cell_lt h1)).trans h1, (hb.cell (cell_lt h2)).trans h2, (hb.cell (cell_lt h3)).trans h3, (hb.cell (cell_lt h4)).trans h4, (hb.cell (cell_lt h5)).trans h5, (hb.cell (cell_lt h6)).trans h6, (hb.cell (cell_lt h7)).trans h7, (hb.cell (cell_lt h8)).trans h8, (hb.cell (cell_lt h9)).trans h9⟩
theorem keepE12 {w w' : World} {a0 a1 a2 a3 a4 a5 a6 a7 a8 a9 a10 a11 : Addr} {v0 v1 v2 v3 v4 v5 v6 v7 v8 v9 v10 v11 : Value} (h : w.cell? a0 = some v0 ∧ w.cell? a1 = some v1 ∧ w.cell? a2 = some v2 ∧ w.cell? a3 = some v3 ∧ w.cell? a4 = some v4 ∧ w.cell? a5 = some v5 ∧ w.cell? a6 = some v6 ∧ w.cell? a7 = some v7 ∧ w.cell? a8 = some v8 ∧ w.cell? a9 = some v9 ∧ w.cell? a10 = some v10 ∧ w.cell? a11 = some v11) (hb : Below w.heap.size w w') : w'.cell? a0 = some v0 ∧ w'.cell? a1 = some v1 ∧ w'.cell? a2 = some v2 ∧ w'.cell? a3 = some v3 ∧ w'.cell? a4 = some v4 ∧ w'.cell? a5 = some v5 ∧ w'.cell? a6 = some v6 ∧ w'.cell? a7 = some v7 ∧ w'.cell? a8 = some v8 ∧ w'.cell? a9 = some v9 ∧ w'.cell? a10 = some v10 ∧ w'.cell? a11 = some v11 := by
 obtain ⟨h0, h1, h2, h3, h4, h5, h6, h7, h8, h9, h10, h11⟩ := h
 exact ⟨(hb.cell (cell_lt h0)).trans h0, (hb.cell (cell_lt h1)).trans h1, (hb.cell (cell_lt h2)).trans h2, (hb.cell (cell_lt h3)).trans h3, (hb.cell (cell_lt h4)).trans h4, (hb.cell (cell_lt h5)).trans h5, (hb.cell (cell_lt h6)).trans h6, (hb.cell (cell_lt h7)).trans h7, (hb.cell (cell_lt h8)).trans h8, (hb.cell (cell_lt h9)).trans h9, (hb.cell (cell_lt h10)).trans h10, (hb.cell (cell_lt h11)).trans h11⟩
set_option maxRecDepth 100000 in
set_option maxHeartbeats 1000000 in
theorem lawsEqIntL (A A' : Option Addr) (n c c' : Nat) (l : List Int) (ok ok' : Nat → Prop) (w : World) (h : Sl IntR 1 ok w A n l) (h' : Sl IntR 1 ok' w A' n l) (hs : l.length ≤ 1048576) :
  Calls Tryz.prog 52 #[.slice A n c, .slice A' n c'] w fun e w' => e = .returned (.bool true) ∧ Below w.heap.size w w' := by
 obtain rfl : l.length = n := h.1
 have hn : l.length ≤ 1048576 := by exact hs
 have HS := Lib.hid hs
 clear hs
 go_enter Tryz.func52, Tryz.ntmps52
 go_wp2
 go_loopw [5] (fun i wr => ∃ k : Nat, k ≤ l.length ∧ i = .int .i64 k ∧ Below w.heap.size w wr) (fun i _ => l.length - (intOf i).toNat)
 case atStart => exact ⟨0, by omega, rfl, Below.refl _ _⟩
 case round =>
  obtain ⟨k, hk, rfl, hb⟩ := hrel
  by_cases hlt : k < l.length
  ·obtain ⟨b, off, -, rfl, q0⟩ := IntR.at_ (h.below IntR.stays hb) hlt
   obtain ⟨b', off', -, rfl, r0⟩ := IntR.at_ (h'.below IntR.stays hb) hlt
   have i0 : (0 : Int) ≤ k := by omega
   have i1 : (k : Int) < l.length := by omega
   go_wp2_with fail
   go_region_held3 (fun w' => w'.cell? ⟨b, off + k, none⟩ = some (.int .i64 l[k]) ∧ w'.cell? ⟨b', off' + k, none⟩ = some (.int .i64 l[k]))
    (go_keep) (fail)
   go_wp2
   go_roundw
   case rel => exact ⟨k + 1, by omega, by go_num, hb.drew⟩
   case measure => simp [intOf]; omega
  ·go_wp2
   go_ret
   exact ⟨rfl, hb⟩
set_option maxRecDepth 100000 in
set_option maxHeartbeats 1000000 in
theorem lawsEqTokL (A A' : Option Addr) (n c c' : Nat) (l : List Tk) (ok ok' : Nat → Prop) (w : World) (h : Sl TkR 5 ok w A n l) (h' : Sl TkR 5 ok' w A' n l) (hs : szL (fun t : Tk => t.vs.size) l ≤ 1048576) :
  Calls Tryz.prog 116 #[.slice A n c, .slice A' n c'] w fun e w' => e = .returned (.bool true) ∧ Below w.heap.size w w' := by
 obtain rfl : l.length = n := h.1
 have hn : l.length ≤ 1048576 := by unfold szL at hs; omega
 have HS := Lib.hid hs
 clear hs
 go_enter Tryz.func116, Tryz.ntmps116
 go_wp2
 go_loopw [5] (fun i wr => ∃ k : Nat, k ≤ l.length ∧ i = .int .i64 k ∧ Below w.heap.size w wr) (fun i _ => l.length - (intOf i).toNat)
 case atStart => exact ⟨0, by omega, rfl, Below.refl _ _⟩
 case round =>
  obtain ⟨k, hk, rfl, hb⟩ := hrel
  by_cases hlt : k < l.length
  ·obtain ⟨b, off, -, rfl, q0, q1, q2, q3, q4⟩ := TkR.at_ (h.below TkR.stays hb) hlt
   obtain ⟨b', off', -, rfl, r0, r1, r2, r3, r4⟩ := TkR.at_ (h'.below TkR.stays hb) hlt
   have i0 : (0 : Int) ≤ k := by omega
   have i1 : (k : Int) < l.length := by omega
   go_wp2_with fail
   go_region_held3 (fun w' => w'.cell? ⟨b, off + k * 5, none⟩ = some (.int .i64 l[k].k) ∧ w'.cell? ⟨b, off + k * 5 + 1, none⟩ = some (.int .i64 l[k].c) ∧ w'.cell? ⟨b, off + k * 5 + 2, none⟩ = some (.int .i64 l[k].vk) ∧ w'.cell? ⟨b, off + k * 5 + 3, none⟩ = some (.int .i64 l[k].vn) ∧ w'.cell? ⟨b, off + k * 5 + 4, none⟩ = some (.string l[k].vs) ∧ w'.cell? ⟨b', off' + k * 5, none⟩ = some (.int .i64 l[k].k) ∧ w'.cell? ⟨b', off' + k * 5 + 1, none⟩ = some (.int .i64 l[k].c) ∧ w'.cell? ⟨b', off' + k * 5 + 2, none⟩ = some (.int .i64 l[k].vk) ∧ w'.cell? ⟨b', off' + k * 5 + 3, none⟩ = some (.int .i64 l[k].vn) ∧ w'.cell? ⟨b', off' + k * 5 + 4, none⟩ = some (.string l[k].vs))
    (first | go_keep | exact keepE10 (by assumption) hb1)
    (first | (go_at_call 127; refine (lawsEqTok l[k] _).mono ?_; rintro e w1 ⟨rfl, hb1⟩))
   go_wp2
   go_roundw
   case rel => exact ⟨k + 1, by omega, by go_num, hb.drew.trans (hb1.mono hb.size)⟩
   case measure => simp [intOf]; omega
  ·go_wp2
   go_ret
   exact ⟨rfl, hb⟩
set_option maxRecDepth 100000 in
set_option maxHeartbeats 1000000 in
theorem lawsEqValL (A A' : Option Addr) (n c c' : Nat) (l : List Vl) (ok ok' : Nat → Prop) (w : World) (h : Sl VlR 3 ok w A n l) (h' : Sl VlR 3 ok' w A' n l) (hs : szL (fun v : Vl => v.s.size) l ≤ 1048576) :
  Calls Tryz.prog 126 #[.slice A n c, .slice A' n c'] w fun e w' => e = .returned (.bool true) ∧ Below w.heap.size w w' := by
 obtain rfl : l.length = n := h.1
 have hn : l.length ≤ 1048576 := by unfold szL at hs; omega
 have HS := Lib.hid hs
 clear hs
 go_enter Tryz.func126, Tryz.ntmps126
 go_wp2
 go_loopw [5] (fun i wr => ∃ k : Nat, k ≤ l.length ∧ i = .int .i64 k ∧ Below w.heap.size w wr) (fun i _ => l.length - (intOf i).toNat)
 case atStart => exact ⟨0, by omega, rfl, Below.refl _ _⟩
 case round =>
  obtain ⟨k, hk, rfl, hb⟩ := hrel
  by_cases hlt : k < l.length
  ·obtain ⟨b, off, -, rfl, q0, q1, q2⟩ := VlR.at_ (h.below VlR.stays hb) hlt
   obtain ⟨b', off', -, rfl, r0, r1, r2⟩ := VlR.at_ (h'.below VlR.stays hb) hlt
   have i0 : (0 : Int) ≤ k := by omega
   have i1 : (k : Int) < l.length := by omega
   go_wp2_with fail
   go_region_held3 (fun w' => w'.cell? ⟨b, off + k * 3, none⟩ = some (.int .i64 l[k].k) ∧ w'.cell? ⟨b, off + k * 3 + 1, none⟩ = some (.int .i64 l[k].n) ∧ w'.cell? ⟨b, off + k * 3 + 2, none⟩ = some (.string l[k].s) ∧ w'.cell? ⟨b', off' + k * 3, none⟩ = some (.int .i64 l[k].k) ∧ w'.cell? ⟨b', off' + k * 3 + 1, none⟩ = some (.int .i64 l[k].n) ∧ w'.cell? ⟨b', off' + k * 3 + 2, none⟩ = some (.string l[k].s))
    (first | go_keep | exact keepE6 (by assumption) hb1)
    (first | (go_at_call 115; refine (lawsEqVal l[k].k l[k].n l[k].s _).mono ?_; rintro e w1 ⟨rfl, hb1⟩))
   go_wp2
   go_roundw
   case rel => exact ⟨k + 1, by omega, by go_num, hb.drew.trans (hb1.mono hb.size)⟩
   case measure => simp [intOf]; omega
  ·go_wp2
   go_ret
   exact ⟨rfl, hb⟩
set_option maxRecDepth 100000 in
set_option maxHeartbeats 1000000 in
theorem lawsEqCol (x : Cl)  (ok ok' : Nat → Prop) (w : World)   (hs : x.sz ≤ 1048576) :
  Calls Tryz.prog 82 #[.agg #[.string x.name, .int .i64 x.kind, .bool x.nn, .int .i64 x.d.k, .int .i64 x.d.n, .string x.d.s], .agg #[.string x.name, .int .i64 x.kind, .bool x.nn, .int .i64 x.d.k, .int .i64 x.d.n, .string x.d.s]] w fun e w' => e = .returned (.bool true) ∧ Below w.heap.size w w' := by
 clear hs
 have ra := (Row.new w 102 #[.string x.name, .int .i64 x.kind, .bool x.nn, .int .i64 x.d.k, .int .i64 x.d.n, .string x.d.s]).alloc (.cells #[.string x.name, .int .i64 x.kind, .bool x.nn, .int .i64 x.d.k, .int .i64 x.d.n, .string x.d.s] 102)
 have rb := Row.newAt (w.alloc (.cells #[.string x.name, .int .i64 x.kind, .bool x.nn, .int .i64 x.d.k, .int .i64 x.d.n, .string x.d.s] 102)) 102 #[.string x.name, .int .i64 x.kind, .bool x.nn, .int .i64 x.d.k, .int .i64 x.d.n, .string x.d.s] (w.heap.size + 1) (by simp)
 have hb0 := ((Below.refl w.heap.size w).alloc (Nat.le_refl _) (.cells #[.string x.name, .int .i64 x.kind, .bool x.nn, .int .i64 x.d.k, .int .i64 x.d.n, .string x.d.s] 102)).alloc (by simp) (.cells #[.string x.name, .int .i64 x.kind, .bool x.nn, .int .i64 x.d.k, .int .i64 x.d.n, .string x.d.s] 102)
 go_enter Tryz.func82, Tryz.ntmps82
 go_wp2_with fail
 generalize (w.alloc (.cells #[.string x.name, .int .i64 x.kind, .bool x.nn, .int .i64 x.d.k, .int .i64 x.d.n, .string x.d.s] 102)).alloc (.cells #[.string x.name, .int .i64 x.kind, .bool x.nn, .int .i64 x.d.k, .int .i64 x.d.n, .string x.d.s] 102) = x0 at *
 refine (lawsEqVal _ _ _ _).mono ?_
 rintro e w1 ⟨rfl, hc0⟩
 have ra := ra.below hc0
 have rb := rb.below hc0
 have hb1 := hb0.trans (hc0.mono hb0.size)
 obtain ⟨⟨a_0_0, a_0_1, a_0_2, a_0_3, a_0_4, a_0_5⟩, -⟩ := ra.all6
 obtain ⟨⟨b_0_0, b_0_1, b_0_2, b_0_3, b_0_4, b_0_5⟩, -⟩ := rb.all6
 go_wp2_with fail
 go_ret
 exact ⟨rfl, hb1⟩
set_option maxRecDepth 100000 in
set_option maxHeartbeats 1000000 in
theorem lawsEqColL (A A' : Option Addr) (n c c' : Nat) (l : List Cl) (ok ok' : Nat → Prop) (w : World) (h : Sl ClR 6 ok w A n l) (h' : Sl ClR 6 ok' w A' n l) (hs : szL Cl.sz l ≤ 1048576) :
  Calls Tryz.prog 51 #[.slice A n c, .slice A' n c'] w fun e w' => e = .returned (.bool true) ∧ Below w.heap.size w w' := by
 obtain rfl : l.length = n := h.1
 have hn : l.length ≤ 1048576 := by unfold szL at hs; omega
 have HS := Lib.hid hs
 clear hs
 go_enter Tryz.func51, Tryz.ntmps51
 go_wp2
 go_loopw [5] (fun i wr => ∃ k : Nat, k ≤ l.length ∧ i = .int .i64 k ∧ Below w.heap.size w wr) (fun i _ => l.length - (intOf i).toNat)
 case atStart => exact ⟨0, by omega, rfl, Below.refl _ _⟩
 case round =>
  obtain ⟨k, hk, rfl, hb⟩ := hrel
  by_cases hlt : k < l.length
  ·obtain ⟨b, off, -, rfl, q0, q1, q2, q3, q4, q5⟩ := ClR.at_ (h.below ClR.stays hb) hlt
   obtain ⟨b', off', -, rfl, r0, r1, r2, r3, r4, r5⟩ := ClR.at_ (h'.below ClR.stays hb) hlt
   have i0 : (0 : Int) ≤ k := by omega
   have i1 : (k : Int) < l.length := by omega
   have hszk : l[k].sz ≤ 1048576 := by have := HS.out; have := sum_mem_le (Cl.sz) l k hlt; unfold szL at *; (try simp only at *); omega
   have HSK := Lib.hid hszk
   clear hszk
   go_wp2_with fail
   go_region_held3 (fun w' => w'.cell? ⟨b, off + k * 6, none⟩ = some (.string l[k].name) ∧ w'.cell? ⟨b, off + k * 6 + 1, none⟩ = some (.int .i64 l[k].kind) ∧ w'.cell? ⟨b, off + k * 6 + 2, none⟩ = some (.bool l[k].nn) ∧ w'.cell? ⟨b, off + k * 6 + 3, none⟩ = some (.int .i64 l[k].d.k) ∧ w'.cell? ⟨b, off + k * 6 + 4, none⟩ = some (.int .i64 l[k].d.n) ∧ w'.cell? ⟨b, off + k * 6 + 5, none⟩ = some (.string l[k].d.s) ∧ w'.cell? ⟨b', off' + k * 6, none⟩ = some (.string l[k].name) ∧ w'.cell? ⟨b', off' + k * 6 + 1, none⟩ = some (.int .i64 l[k].kind) ∧ w'.cell? ⟨b', off' + k * 6 + 2, none⟩ = some (.bool l[k].nn) ∧ w'.cell? ⟨b', off' + k * 6 + 3, none⟩ = some (.int .i64 l[k].d.k) ∧ w'.cell? ⟨b', off' + k * 6 + 4, none⟩ = some (.int .i64 l[k].d.n) ∧ w'.cell? ⟨b', off' + k * 6 + 5, none⟩ = some (.string l[k].d.s))
    (first | go_keep | exact keepE12 (by assumption) hb1)
    (first | (go_at_call 82; refine (lawsEqCol l[k]  ok ok' _   HSK.out).mono ?_; rintro e w1 ⟨rfl, hb1⟩))
   go_wp2
   go_roundw
   case rel => exact ⟨k + 1, by omega, by go_num, hb.drew.trans (hb1.mono hb.size)⟩
   case measure => simp [intOf]; omega
  ·go_wp2
   go_ret
   exact ⟨rfl, hb⟩
set_option maxRecDepth 100000 in
set_option maxHeartbeats 1000000 in
theorem lawsEqUnique (x : Uq) (A0 B0 : Option Addr) (n0 c0 d0 : Nat) (ok ok' : Nat → Prop) (w : World) (h0 : Sl IntR 1 ok w A0 n0 x.cols) (k0 : Sl IntR 1 ok' w B0 n0 x.cols) (hs : x.sz ≤ 1048576) :
  Calls Tryz.prog 83 #[.agg #[.slice A0 n0 c0], .agg #[.slice B0 n0 d0]] w fun e w' => e = .returned (.bool true) ∧ Below w.heap.size w w' := by
 have HS0 := Lib.hid (show x.cols.length ≤ 1048576 by have := hs; unfold Uq.sz at this; omega)
 clear hs
 have ra := (Row.new w 74 #[.slice A0 n0 c0]).alloc (.cells #[.slice B0 n0 d0] 74)
 have rb := Row.newAt (w.alloc (.cells #[.slice A0 n0 c0] 74)) 74 #[.slice B0 n0 d0] (w.heap.size + 1) (by simp)
 have hb0 := ((Below.refl w.heap.size w).alloc (Nat.le_refl _) (.cells #[.slice A0 n0 c0] 74)).alloc (by simp) (.cells #[.slice B0 n0 d0] 74)
 go_enter Tryz.func83, Tryz.ntmps83
 go_wp2_with fail
 generalize (w.alloc (.cells #[.slice A0 n0 c0] 74)).alloc (.cells #[.slice B0 n0 d0] 74) = x0 at *
 refine (lawsEqIntL A0 B0 n0 c0 d0 x.cols ok ok' _ (h0.below IntR.stays hb0) (k0.below IntR.stays hb0) HS0.out).mono ?_
 rintro e w1 ⟨rfl, hc0⟩
 have ra := ra.below hc0
 have rb := rb.below hc0
 have hb1 := hb0.trans (hc0.mono hb0.size)
 obtain ⟨a_0_0, -⟩ := ra.all1
 obtain ⟨b_0_0, -⟩ := rb.all1
 go_wp2_with fail
 go_ret
 exact ⟨rfl, hb1⟩
set_option maxRecDepth 100000 in
set_option maxHeartbeats 1000000 in
theorem lawsEqUniqueL (A A' : Option Addr) (n c c' : Nat) (l : List Uq) (ok ok' : Nat → Prop) (w : World) (h : Sl UqR 1 ok w A n l) (h' : Sl UqR 1 ok' w A' n l) (hs : szL Uq.sz l ≤ 1048576) :
  Calls Tryz.prog 53 #[.slice A n c, .slice A' n c'] w fun e w' => e = .returned (.bool true) ∧ Below w.heap.size w w' := by
 obtain rfl : l.length = n := h.1
 have hn : l.length ≤ 1048576 := by unfold szL at hs; omega
 have HS := Lib.hid hs
 clear hs
 go_enter Tryz.func53, Tryz.ntmps53
 go_wp2
 go_loopw [5] (fun i wr => ∃ k : Nat, k ≤ l.length ∧ i = .int .i64 k ∧ Below w.heap.size w wr) (fun i _ => l.length - (intOf i).toNat)
 case atStart => exact ⟨0, by omega, rfl, Below.refl _ _⟩
 case round =>
  obtain ⟨k, hk, rfl, hb⟩ := hrel
  by_cases hlt : k < l.length
  ·obtain ⟨b, off, A0, n0, c0, -, rfl, q0, s0, -⟩ := UqR.at_ (h.below UqR.stays hb) hlt
   obtain ⟨b', off', B0, m0, d0, -, rfl, r0, t0, -⟩ := UqR.at_ (h'.below UqR.stays hb) hlt
   obtain rfl : n0 = m0 := s0.1.symm.trans t0.1
   have i0 : (0 : Int) ≤ k := by omega
   have i1 : (k : Int) < l.length := by omega
   have hszk : l[k].sz ≤ 1048576 := by have := HS.out; have := sum_mem_le (Uq.sz) l k hlt; unfold szL at *; (try simp only at *); omega
   have HSK := Lib.hid hszk
   clear hszk
   go_wp2_with fail
   go_region_held3 (fun w' => w'.cell? ⟨b, off + k, none⟩ = some (.slice A0 n0 c0) ∧ w'.cell? ⟨b', off' + k, none⟩ = some (.slice B0 n0 d0))
    (first | go_keep | exact keepE2 (by assumption) hb1)
    (first | (go_at_call 83; refine (lawsEqUnique l[k] A0 B0 n0 c0 d0 ok ok' _ (s0.drew IntR.stays) (t0.drew IntR.stays) HSK.out).mono ?_; rintro e w1 ⟨rfl, hb1⟩))
   go_wp2
   go_roundw
   case rel => exact ⟨k + 1, by omega, by go_num, hb.drew.trans (hb1.mono hb.size)⟩
   case measure => simp [intOf]; omega
  ·go_wp2
   go_ret
   exact ⟨rfl, hb⟩
set_option maxRecDepth 100000 in
set_option maxHeartbeats 1000000 in
theorem lawsEqCheck (x : Ck) (A0 B0 : Option Addr) (n0 c0 d0 : Nat) (ok ok' : Nat → Prop) (w : World) (h0 : Sl TkR 5 ok w A0 n0 x.expr) (k0 : Sl TkR 5 ok' w B0 n0 x.expr) (hs : x.sz ≤ 1048576) :
  Calls Tryz.prog 84 #[.agg #[.slice A0 n0 c0], .agg #[.slice B0 n0 d0]] w fun e w' => e = .returned (.bool true) ∧ Below w.heap.size w w' := by
 have HS0 := Lib.hid (show szL (fun t : Tk => t.vs.size) x.expr ≤ 1048576 by have := hs; unfold Ck.sz at this; omega)
 clear hs
 have ra := (Row.new w 78 #[.slice A0 n0 c0]).alloc (.cells #[.slice B0 n0 d0] 78)
 have rb := Row.newAt (w.alloc (.cells #[.slice A0 n0 c0] 78)) 78 #[.slice B0 n0 d0] (w.heap.size + 1) (by simp)
 have hb0 := ((Below.refl w.heap.size w).alloc (Nat.le_refl _) (.cells #[.slice A0 n0 c0] 78)).alloc (by simp) (.cells #[.slice B0 n0 d0] 78)
 go_enter Tryz.func84, Tryz.ntmps84
 go_wp2_with fail
 generalize (w.alloc (.cells #[.slice A0 n0 c0] 78)).alloc (.cells #[.slice B0 n0 d0] 78) = x0 at *
 refine (lawsEqTokL A0 B0 n0 c0 d0 x.expr ok ok' _ (h0.below TkR.stays hb0) (k0.below TkR.stays hb0) HS0.out).mono ?_
 rintro e w1 ⟨rfl, hc0⟩
 have ra := ra.below hc0
 have rb := rb.below hc0
 have hb1 := hb0.trans (hc0.mono hb0.size)
 obtain ⟨a_0_0, -⟩ := ra.all1
 obtain ⟨b_0_0, -⟩ := rb.all1
 go_wp2_with fail
 go_ret
 exact ⟨rfl, hb1⟩
set_option maxRecDepth 100000 in
set_option maxHeartbeats 1000000 in
theorem lawsEqCheckL (A A' : Option Addr) (n c c' : Nat) (l : List Ck) (ok ok' : Nat → Prop) (w : World) (h : Sl CkR 1 ok w A n l) (h' : Sl CkR 1 ok' w A' n l) (hs : szL Ck.sz l ≤ 1048576) :
  Calls Tryz.prog 54 #[.slice A n c, .slice A' n c'] w fun e w' => e = .returned (.bool true) ∧ Below w.heap.size w w' := by
 obtain rfl : l.length = n := h.1
 have hn : l.length ≤ 1048576 := by unfold szL at hs; omega
 have HS := Lib.hid hs
 clear hs
 go_enter Tryz.func54, Tryz.ntmps54
 go_wp2
 go_loopw [5] (fun i wr => ∃ k : Nat, k ≤ l.length ∧ i = .int .i64 k ∧ Below w.heap.size w wr) (fun i _ => l.length - (intOf i).toNat)
 case atStart => exact ⟨0, by omega, rfl, Below.refl _ _⟩
 case round =>
  obtain ⟨k, hk, rfl, hb⟩ := hrel
  by_cases hlt : k < l.length
  ·obtain ⟨b, off, A0, n0, c0, -, rfl, q0, s0, -⟩ := CkR.at_ (h.below CkR.stays hb) hlt
   obtain ⟨b', off', B0, m0, d0, -, rfl, r0, t0, -⟩ := CkR.at_ (h'.below CkR.stays hb) hlt
   obtain rfl : n0 = m0 := s0.1.symm.trans t0.1
   have i0 : (0 : Int) ≤ k := by omega
   have i1 : (k : Int) < l.length := by omega
   have hszk : l[k].sz ≤ 1048576 := by have := HS.out; have := sum_mem_le (Ck.sz) l k hlt; unfold szL at *; (try simp only at *); omega
   have HSK := Lib.hid hszk
   clear hszk
   go_wp2_with fail
   go_region_held3 (fun w' => w'.cell? ⟨b, off + k, none⟩ = some (.slice A0 n0 c0) ∧ w'.cell? ⟨b', off' + k, none⟩ = some (.slice B0 n0 d0))
    (first | go_keep | exact keepE2 (by assumption) hb1)
    (first | (go_at_call 84; refine (lawsEqCheck l[k] A0 B0 n0 c0 d0 ok ok' _ (s0.drew TkR.stays) (t0.drew TkR.stays) HSK.out).mono ?_; rintro e w1 ⟨rfl, hb1⟩))
   go_wp2
   go_roundw
   case rel => exact ⟨k + 1, by omega, by go_num, hb.drew.trans (hb1.mono hb.size)⟩
   case measure => simp [intOf]; omega
  ·go_wp2
   go_ret
   exact ⟨rfl, hb⟩
set_option maxRecDepth 100000 in
set_option maxHeartbeats 1000000 in
theorem lawsEqFk (x : Fk) (A0 B0 : Option Addr) (n0 c0 d0 : Nat) (ok ok' : Nat → Prop) (w : World) (h0 : Sl IntR 1 ok w A0 n0 x.cols) (k0 : Sl IntR 1 ok' w B0 n0 x.cols) (hs : x.sz ≤ 1048576) :
  Calls Tryz.prog 85 #[.agg #[.slice A0 n0 c0, .string x.table, .int .i64 x.del, .int .i64 x.upd, .bool x.dfr], .agg #[.slice B0 n0 d0, .string x.table, .int .i64 x.del, .int .i64 x.upd, .bool x.dfr]] w fun e w' => e = .returned (.bool true) ∧ Below w.heap.size w w' := by
 have HS0 := Lib.hid (show x.cols.length ≤ 1048576 by have := hs; unfold Fk.sz at this; omega)
 clear hs
 have ra := (Row.new w 80 #[.slice A0 n0 c0, .string x.table, .int .i64 x.del, .int .i64 x.upd, .bool x.dfr]).alloc (.cells #[.slice B0 n0 d0, .string x.table, .int .i64 x.del, .int .i64 x.upd, .bool x.dfr] 80)
 have rb := Row.newAt (w.alloc (.cells #[.slice A0 n0 c0, .string x.table, .int .i64 x.del, .int .i64 x.upd, .bool x.dfr] 80)) 80 #[.slice B0 n0 d0, .string x.table, .int .i64 x.del, .int .i64 x.upd, .bool x.dfr] (w.heap.size + 1) (by simp)
 have hb0 := ((Below.refl w.heap.size w).alloc (Nat.le_refl _) (.cells #[.slice A0 n0 c0, .string x.table, .int .i64 x.del, .int .i64 x.upd, .bool x.dfr] 80)).alloc (by simp) (.cells #[.slice B0 n0 d0, .string x.table, .int .i64 x.del, .int .i64 x.upd, .bool x.dfr] 80)
 go_enter Tryz.func85, Tryz.ntmps85
 go_wp2_with fail
 generalize (w.alloc (.cells #[.slice A0 n0 c0, .string x.table, .int .i64 x.del, .int .i64 x.upd, .bool x.dfr] 80)).alloc (.cells #[.slice B0 n0 d0, .string x.table, .int .i64 x.del, .int .i64 x.upd, .bool x.dfr] 80) = x0 at *
 refine (lawsEqIntL A0 B0 n0 c0 d0 x.cols ok ok' _ (h0.below IntR.stays hb0) (k0.below IntR.stays hb0) HS0.out).mono ?_
 rintro e w1 ⟨rfl, hc0⟩
 have ra := ra.below hc0
 have rb := rb.below hc0
 have hb1 := hb0.trans (hc0.mono hb0.size)
 obtain ⟨⟨a_0_0, a_0_1, a_0_2, a_0_3, a_0_4⟩, -⟩ := ra.five
 obtain ⟨⟨b_0_0, b_0_1, b_0_2, b_0_3, b_0_4⟩, -⟩ := rb.five
 go_wp2_with fail
 go_ret
 exact ⟨rfl, hb1⟩
set_option maxRecDepth 100000 in
set_option maxHeartbeats 1000000 in
theorem lawsEqFkL (A A' : Option Addr) (n c c' : Nat) (l : List Fk) (ok ok' : Nat → Prop) (w : World) (h : Sl FkR 5 ok w A n l) (h' : Sl FkR 5 ok' w A' n l) (hs : szL Fk.sz l ≤ 1048576) :
  Calls Tryz.prog 55 #[.slice A n c, .slice A' n c'] w fun e w' => e = .returned (.bool true) ∧ Below w.heap.size w w' := by
 obtain rfl : l.length = n := h.1
 have hn : l.length ≤ 1048576 := by unfold szL at hs; omega
 have HS := Lib.hid hs
 clear hs
 go_enter Tryz.func55, Tryz.ntmps55
 go_wp2
 go_loopw [5] (fun i wr => ∃ k : Nat, k ≤ l.length ∧ i = .int .i64 k ∧ Below w.heap.size w wr) (fun i _ => l.length - (intOf i).toNat)
 case atStart => exact ⟨0, by omega, rfl, Below.refl _ _⟩
 case round =>
  obtain ⟨k, hk, rfl, hb⟩ := hrel
  by_cases hlt : k < l.length
  ·obtain ⟨b, off, A0, n0, c0, -, rfl, q0, q1, q2, q3, q4, s0, -⟩ := FkR.at_ (h.below FkR.stays hb) hlt
   obtain ⟨b', off', B0, m0, d0, -, rfl, r0, r1, r2, r3, r4, t0, -⟩ := FkR.at_ (h'.below FkR.stays hb) hlt
   obtain rfl : n0 = m0 := s0.1.symm.trans t0.1
   have i0 : (0 : Int) ≤ k := by omega
   have i1 : (k : Int) < l.length := by omega
   have hszk : l[k].sz ≤ 1048576 := by have := HS.out; have := sum_mem_le (Fk.sz) l k hlt; unfold szL at *; (try simp only at *); omega
   have HSK := Lib.hid hszk
   clear hszk
   go_wp2_with fail
   go_region_held3 (fun w' => w'.cell? ⟨b, off + k * 5, none⟩ = some (.slice A0 n0 c0) ∧ w'.cell? ⟨b, off + k * 5 + 1, none⟩ = some (.string l[k].table) ∧ w'.cell? ⟨b, off + k * 5 + 2, none⟩ = some (.int .i64 l[k].del) ∧ w'.cell? ⟨b, off + k * 5 + 3, none⟩ = some (.int .i64 l[k].upd) ∧ w'.cell? ⟨b, off + k * 5 + 4, none⟩ = some (.bool l[k].dfr) ∧ w'.cell? ⟨b', off' + k * 5, none⟩ = some (.slice B0 n0 d0) ∧ w'.cell? ⟨b', off' + k * 5 + 1, none⟩ = some (.string l[k].table) ∧ w'.cell? ⟨b', off' + k * 5 + 2, none⟩ = some (.int .i64 l[k].del) ∧ w'.cell? ⟨b', off' + k * 5 + 3, none⟩ = some (.int .i64 l[k].upd) ∧ w'.cell? ⟨b', off' + k * 5 + 4, none⟩ = some (.bool l[k].dfr))
    (first | go_keep | exact keepE10 (by assumption) hb1)
    (first | (go_at_call 85; refine (lawsEqFk l[k] A0 B0 n0 c0 d0 ok ok' _ (s0.drew IntR.stays) (t0.drew IntR.stays) HSK.out).mono ?_; rintro e w1 ⟨rfl, hb1⟩))
   go_wp2
   go_roundw
   case rel => exact ⟨k + 1, by omega, by go_num, hb.drew.trans (hb1.mono hb.size)⟩
   case measure => simp [intOf]; omega
  ·go_wp2
   go_ret
   exact ⟨rfl, hb⟩
set_option maxRecDepth 100000 in
set_option maxHeartbeats 1000000 in
theorem lawsEqTable (x : Tb) (A1 B1 : Option Addr) (n1 c1 d1 : Nat) (A2 B2 : Option Addr) (n2 c2 d2 : Nat) (A3 B3 : Option Addr) (n3 c3 d3 : Nat) (A4 B4 : Option Addr) (n4 c4 d4 : Nat) (A5 B5 : Option Addr) (n5 c5 d5 : Nat) (ok ok' : Nat → Prop) (w : World) (h1 : Sl ClR 6 ok w A1 n1 x.cols) (h2 : Sl IntR 1 ok w A2 n2 x.key) (h3 : Sl UqR 1 ok w A3 n3 x.uniqs) (h4 : Sl CkR 1 ok w A4 n4 x.checks) (h5 : Sl FkR 5 ok w A5 n5 x.fks) (k1 : Sl ClR 6 ok' w B1 n1 x.cols) (k2 : Sl IntR 1 ok' w B2 n2 x.key) (k3 : Sl UqR 1 ok' w B3 n3 x.uniqs) (k4 : Sl CkR 1 ok' w B4 n4 x.checks) (k5 : Sl FkR 5 ok' w B5 n5 x.fks) (hs : x.sz ≤ 1048576) :
  Calls Tryz.prog 21 #[.agg #[.string x.name, .slice A1 n1 c1, .slice A2 n2 c2, .slice A3 n3 c3, .slice A4 n4 c4, .slice A5 n5 c5], .agg #[.string x.name, .slice B1 n1 d1, .slice B2 n2 d2, .slice B3 n3 d3, .slice B4 n4 d4, .slice B5 n5 d5]] w fun e w' => e = .returned (.bool true) ∧ Below w.heap.size w w' := by
 have HS1 := Lib.hid (show szL Cl.sz x.cols ≤ 1048576 by have := hs; unfold Tb.sz at this; omega)
 have HS2 := Lib.hid (show x.key.length ≤ 1048576 by have := hs; unfold Tb.sz at this; omega)
 have HS3 := Lib.hid (show szL Uq.sz x.uniqs ≤ 1048576 by have := hs; unfold Tb.sz at this; omega)
 have HS4 := Lib.hid (show szL Ck.sz x.checks ≤ 1048576 by have := hs; unfold Tb.sz at this; omega)
 have HS5 := Lib.hid (show szL Fk.sz x.fks ≤ 1048576 by have := hs; unfold Tb.sz at this; omega)
 clear hs
 have ra := (Row.new w 53 #[.string x.name, .slice A1 n1 c1, .slice A2 n2 c2, .slice A3 n3 c3, .slice A4 n4 c4, .slice A5 n5 c5]).alloc (.cells #[.string x.name, .slice B1 n1 d1, .slice B2 n2 d2, .slice B3 n3 d3, .slice B4 n4 d4, .slice B5 n5 d5] 53)
 have rb := Row.newAt (w.alloc (.cells #[.string x.name, .slice A1 n1 c1, .slice A2 n2 c2, .slice A3 n3 c3, .slice A4 n4 c4, .slice A5 n5 c5] 53)) 53 #[.string x.name, .slice B1 n1 d1, .slice B2 n2 d2, .slice B3 n3 d3, .slice B4 n4 d4, .slice B5 n5 d5] (w.heap.size + 1) (by simp)
 have hb0 := ((Below.refl w.heap.size w).alloc (Nat.le_refl _) (.cells #[.string x.name, .slice A1 n1 c1, .slice A2 n2 c2, .slice A3 n3 c3, .slice A4 n4 c4, .slice A5 n5 c5] 53)).alloc (by simp) (.cells #[.string x.name, .slice B1 n1 d1, .slice B2 n2 d2, .slice B3 n3 d3, .slice B4 n4 d4, .slice B5 n5 d5] 53)
 go_enter Tryz.func21, Tryz.ntmps21
 go_wp2_with fail
 generalize (w.alloc (.cells #[.string x.name, .slice A1 n1 c1, .slice A2 n2 c2, .slice A3 n3 c3, .slice A4 n4 c4, .slice A5 n5 c5] 53)).alloc (.cells #[.string x.name, .slice B1 n1 d1, .slice B2 n2 d2, .slice B3 n3 d3, .slice B4 n4 d4, .slice B5 n5 d5] 53) = x0 at *
 refine (lawsEqColL A1 B1 n1 c1 d1 x.cols ok ok' _ (h1.below ClR.stays hb0) (k1.below ClR.stays hb0) HS1.out).mono ?_
 rintro e w1 ⟨rfl, hc0⟩
 have ra := ra.below hc0
 have rb := rb.below hc0
 have hb1 := hb0.trans (hc0.mono hb0.size)
 obtain ⟨⟨a_0_0, a_0_1, a_0_2, a_0_3, a_0_4, a_0_5⟩, -⟩ := ra.all6
 obtain ⟨⟨b_0_0, b_0_1, b_0_2, b_0_3, b_0_4, b_0_5⟩, -⟩ := rb.all6
 go_wp2_with fail
 refine (lawsEqIntL A2 B2 n2 c2 d2 x.key ok ok' _ (h2.below IntR.stays hb1) (k2.below IntR.stays hb1) HS2.out).mono ?_
 rintro e w2 ⟨rfl, hc1⟩
 have ra := ra.below hc1
 have rb := rb.below hc1
 have hb2 := hb1.trans (hc1.mono hb1.size)
 obtain ⟨⟨a_1_0, a_1_1, a_1_2, a_1_3, a_1_4, a_1_5⟩, -⟩ := ra.all6
 obtain ⟨⟨b_1_0, b_1_1, b_1_2, b_1_3, b_1_4, b_1_5⟩, -⟩ := rb.all6
 go_wp2_with fail
 refine (lawsEqUniqueL A3 B3 n3 c3 d3 x.uniqs ok ok' _ (h3.below UqR.stays hb2) (k3.below UqR.stays hb2) HS3.out).mono ?_
 rintro e w3 ⟨rfl, hc2⟩
 have ra := ra.below hc2
 have rb := rb.below hc2
 have hb3 := hb2.trans (hc2.mono hb2.size)
 obtain ⟨⟨a_2_0, a_2_1, a_2_2, a_2_3, a_2_4, a_2_5⟩, -⟩ := ra.all6
 obtain ⟨⟨b_2_0, b_2_1, b_2_2, b_2_3, b_2_4, b_2_5⟩, -⟩ := rb.all6
 go_wp2_with fail
 refine (lawsEqCheckL A4 B4 n4 c4 d4 x.checks ok ok' _ (h4.below CkR.stays hb3) (k4.below CkR.stays hb3) HS4.out).mono ?_
 rintro e w4 ⟨rfl, hc3⟩
 have ra := ra.below hc3
 have rb := rb.below hc3
 have hb4 := hb3.trans (hc3.mono hb3.size)
 obtain ⟨⟨a_3_0, a_3_1, a_3_2, a_3_3, a_3_4, a_3_5⟩, -⟩ := ra.all6
 obtain ⟨⟨b_3_0, b_3_1, b_3_2, b_3_3, b_3_4, b_3_5⟩, -⟩ := rb.all6
 go_wp2_with fail
 refine (lawsEqFkL A5 B5 n5 c5 d5 x.fks ok ok' _ (h5.below FkR.stays hb4) (k5.below FkR.stays hb4) HS5.out).mono ?_
 rintro e w5 ⟨rfl, hc4⟩
 have ra := ra.below hc4
 have rb := rb.below hc4
 have hb5 := hb4.trans (hc4.mono hb4.size)
 obtain ⟨⟨a_4_0, a_4_1, a_4_2, a_4_3, a_4_4, a_4_5⟩, -⟩ := ra.all6
 obtain ⟨⟨b_4_0, b_4_1, b_4_2, b_4_3, b_4_4, b_4_5⟩, -⟩ := rb.all6
 go_wp2_with fail
 go_ret
 exact ⟨rfl, hb5⟩
set_option maxRecDepth 100000 in
set_option maxHeartbeats 1000000 in
theorem lawsEqTableL (A A' : Option Addr) (n c c' : Nat) (l : List Tb) (ok ok' : Nat → Prop) (w : World) (h : Sl TbR 6 ok w A n l) (h' : Sl TbR 6 ok' w A' n l) (hs : szL Tb.sz l ≤ 1048576) :
  Calls Tryz.prog 9 #[.slice A n c, .slice A' n c'] w fun e w' => e = .returned (.bool true) ∧ Below w.heap.size w w' := by
 obtain rfl : l.length = n := h.1
 have hn : l.length ≤ 1048576 := by unfold szL at hs; omega
 have HS := Lib.hid hs
 clear hs
 go_enter Tryz.func9, Tryz.ntmps9
 go_wp2
 go_loopw [5] (fun i wr => ∃ k : Nat, k ≤ l.length ∧ i = .int .i64 k ∧ Below w.heap.size w wr) (fun i _ => l.length - (intOf i).toNat)
 case atStart => exact ⟨0, by omega, rfl, Below.refl _ _⟩
 case round =>
  obtain ⟨k, hk, rfl, hb⟩ := hrel
  by_cases hlt : k < l.length
  ·obtain ⟨b, off, A1, n1, c1, A2, n2, c2, A3, n3, c3, A4, n4, c4, A5, n5, c5, -, rfl, q0, q1, q2, q3, q4, q5, s1, s2, s3, s4, s5, -⟩ := TbR.at_ (h.below TbR.stays hb) hlt
   obtain ⟨b', off', B1, m1, d1, B2, m2, d2, B3, m3, d3, B4, m4, d4, B5, m5, d5, -, rfl, r0, r1, r2, r3, r4, r5, t1, t2, t3, t4, t5, -⟩ := TbR.at_ (h'.below TbR.stays hb) hlt
   obtain ⟨rfl, rfl, rfl, rfl, rfl⟩ : n1 = m1 ∧ n2 = m2 ∧ n3 = m3 ∧ n4 = m4 ∧ n5 = m5 := ⟨s1.1.symm.trans t1.1, s2.1.symm.trans t2.1, s3.1.symm.trans t3.1, s4.1.symm.trans t4.1, s5.1.symm.trans t5.1⟩
   have i0 : (0 : Int) ≤ k := by omega
   have i1 : (k : Int) < l.length := by omega
   have hszk : l[k].sz ≤ 1048576 := by have := HS.out; have := sum_mem_le (Tb.sz) l k hlt; unfold szL at *; (try simp only at *); omega
   have HSK := Lib.hid hszk
   clear hszk
   go_wp2_with fail
   go_region_held3 (fun w' => w'.cell? ⟨b, off + k * 6, none⟩ = some (.string l[k].name) ∧ w'.cell? ⟨b, off + k * 6 + 1, none⟩ = some (.slice A1 n1 c1) ∧ w'.cell? ⟨b, off + k * 6 + 2, none⟩ = some (.slice A2 n2 c2) ∧ w'.cell? ⟨b, off + k * 6 + 3, none⟩ = some (.slice A3 n3 c3) ∧ w'.cell? ⟨b, off + k * 6 + 4, none⟩ = some (.slice A4 n4 c4) ∧ w'.cell? ⟨b, off + k * 6 + 5, none⟩ = some (.slice A5 n5 c5) ∧ w'.cell? ⟨b', off' + k * 6, none⟩ = some (.string l[k].name) ∧ w'.cell? ⟨b', off' + k * 6 + 1, none⟩ = some (.slice B1 n1 d1) ∧ w'.cell? ⟨b', off' + k * 6 + 2, none⟩ = some (.slice B2 n2 d2) ∧ w'.cell? ⟨b', off' + k * 6 + 3, none⟩ = some (.slice B3 n3 d3) ∧ w'.cell? ⟨b', off' + k * 6 + 4, none⟩ = some (.slice B4 n4 d4) ∧ w'.cell? ⟨b', off' + k * 6 + 5, none⟩ = some (.slice B5 n5 d5))
    (first | go_keep | exact keepE12 (by assumption) hb1)
    (first | (go_at_call 21; refine (lawsEqTable l[k] A1 B1 n1 c1 d1 A2 B2 n2 c2 d2 A3 B3 n3 c3 d3 A4 B4 n4 c4 d4 A5 B5 n5 c5 d5 ok ok' _ (s1.drew ClR.stays) (s2.drew IntR.stays) (s3.drew UqR.stays) (s4.drew CkR.stays) (s5.drew FkR.stays) (t1.drew ClR.stays) (t2.drew IntR.stays) (t3.drew UqR.stays) (t4.drew CkR.stays) (t5.drew FkR.stays) HSK.out).mono ?_; rintro e w1 ⟨rfl, hb1⟩))
   go_wp2
   go_roundw
   case rel => exact ⟨k + 1, by omega, by go_num, hb.drew.trans (hb1.mono hb.size)⟩
   case measure => simp [intOf]; omega
  ·go_wp2
   go_ret
   exact ⟨rfl, hb⟩
set_option maxRecDepth 100000 in
set_option maxHeartbeats 1000000 in
theorem lawsEqRow (x : Rw) (A1 B1 : Option Addr) (n1 c1 d1 : Nat) (ok ok' : Nat → Prop) (w : World) (h1 : Sl VlR 3 ok w A1 n1 x.vals) (k1 : Sl VlR 3 ok' w B1 n1 x.vals) (hs : x.sz ≤ 1048576) :
  Calls Tryz.prog 114 #[.agg #[.int .i64 x.id, .slice A1 n1 c1], .agg #[.int .i64 x.id, .slice B1 n1 d1]] w fun e w' => e = .returned (.bool true) ∧ Below w.heap.size w w' := by
 have HS1 := Lib.hid (show szL (fun v : Vl => v.s.size) x.vals ≤ 1048576 by have := hs; unfold Rw.sz at this; omega)
 clear hs
 have ra := (Row.new w 131 #[.int .i64 x.id, .slice A1 n1 c1]).alloc (.cells #[.int .i64 x.id, .slice B1 n1 d1] 131)
 have rb := Row.newAt (w.alloc (.cells #[.int .i64 x.id, .slice A1 n1 c1] 131)) 131 #[.int .i64 x.id, .slice B1 n1 d1] (w.heap.size + 1) (by simp)
 have hb0 := ((Below.refl w.heap.size w).alloc (Nat.le_refl _) (.cells #[.int .i64 x.id, .slice A1 n1 c1] 131)).alloc (by simp) (.cells #[.int .i64 x.id, .slice B1 n1 d1] 131)
 go_enter Tryz.func114, Tryz.ntmps114
 go_wp2_with fail
 generalize (w.alloc (.cells #[.int .i64 x.id, .slice A1 n1 c1] 131)).alloc (.cells #[.int .i64 x.id, .slice B1 n1 d1] 131) = x0 at *
 refine (lawsEqValL A1 B1 n1 c1 d1 x.vals ok ok' _ (h1.below VlR.stays hb0) (k1.below VlR.stays hb0) HS1.out).mono ?_
 rintro e w1 ⟨rfl, hc0⟩
 have ra := ra.below hc0
 have rb := rb.below hc0
 have hb1 := hb0.trans (hc0.mono hb0.size)
 obtain ⟨⟨a_0_0, a_0_1⟩, -⟩ := ra.all2
 obtain ⟨⟨b_0_0, b_0_1⟩, -⟩ := rb.all2
 go_wp2_with fail
 go_ret
 exact ⟨rfl, hb1⟩
set_option maxRecDepth 100000 in
set_option maxHeartbeats 1000000 in
theorem lawsEqRowL (A A' : Option Addr) (n c c' : Nat) (l : List Rw) (ok ok' : Nat → Prop) (w : World) (h : Sl RwR 2 ok w A n l) (h' : Sl RwR 2 ok' w A' n l) (hs : szL Rw.sz l ≤ 1048576) :
  Calls Tryz.prog 81 #[.slice A n c, .slice A' n c'] w fun e w' => e = .returned (.bool true) ∧ Below w.heap.size w w' := by
 obtain rfl : l.length = n := h.1
 have hn : l.length ≤ 1048576 := by unfold szL at hs; omega
 have HS := Lib.hid hs
 clear hs
 go_enter Tryz.func81, Tryz.ntmps81
 go_wp2
 go_loopw [5] (fun i wr => ∃ k : Nat, k ≤ l.length ∧ i = .int .i64 k ∧ Below w.heap.size w wr) (fun i _ => l.length - (intOf i).toNat)
 case atStart => exact ⟨0, by omega, rfl, Below.refl _ _⟩
 case round =>
  obtain ⟨k, hk, rfl, hb⟩ := hrel
  by_cases hlt : k < l.length
  ·obtain ⟨b, off, A1, n1, c1, -, rfl, q0, q1, s1, -⟩ := RwR.at_ (h.below RwR.stays hb) hlt
   obtain ⟨b', off', B1, m1, d1, -, rfl, r0, r1, t1, -⟩ := RwR.at_ (h'.below RwR.stays hb) hlt
   obtain rfl : n1 = m1 := s1.1.symm.trans t1.1
   have i0 : (0 : Int) ≤ k := by omega
   have i1 : (k : Int) < l.length := by omega
   have hszk : l[k].sz ≤ 1048576 := by have := HS.out; have := sum_mem_le (Rw.sz) l k hlt; unfold szL at *; (try simp only at *); omega
   have HSK := Lib.hid hszk
   clear hszk
   go_wp2_with fail
   go_region_held3 (fun w' => w'.cell? ⟨b, off + k * 2, none⟩ = some (.int .i64 l[k].id) ∧ w'.cell? ⟨b, off + k * 2 + 1, none⟩ = some (.slice A1 n1 c1) ∧ w'.cell? ⟨b', off' + k * 2, none⟩ = some (.int .i64 l[k].id) ∧ w'.cell? ⟨b', off' + k * 2 + 1, none⟩ = some (.slice B1 n1 d1))
    (first | go_keep | exact keepE4 (by assumption) hb1)
    (first | (go_at_call 114; refine (lawsEqRow l[k] A1 B1 n1 c1 d1 ok ok' _ (s1.drew VlR.stays) (t1.drew VlR.stays) HSK.out).mono ?_; rintro e w1 ⟨rfl, hb1⟩))
   go_wp2
   go_roundw
   case rel => exact ⟨k + 1, by omega, by go_num, hb.drew.trans (hb1.mono hb.size)⟩
   case measure => simp [intOf]; omega
  ·go_wp2
   go_ret
   exact ⟨rfl, hb⟩
set_option maxRecDepth 100000 in
set_option maxHeartbeats 1000000 in
theorem lawsEqData (x : Dt) (A0 B0 : Option Addr) (n0 c0 d0 : Nat) (ok ok' : Nat → Prop) (w : World) (h0 : Sl RwR 2 ok w A0 n0 x.rows) (k0 : Sl RwR 2 ok' w B0 n0 x.rows) (hs : x.sz ≤ 1048576) :
  Calls Tryz.prog 49 #[.agg #[.slice A0 n0 c0], .agg #[.slice B0 n0 d0]] w fun e w' => e = .returned (.bool true) ∧ Below w.heap.size w w' := by
 have HS0 := Lib.hid (show szL Rw.sz x.rows ≤ 1048576 by have := hs; unfold Dt.sz at this; omega)
 clear hs
 have ra := (Row.new w 89 #[.slice A0 n0 c0]).alloc (.cells #[.slice B0 n0 d0] 89)
 have rb := Row.newAt (w.alloc (.cells #[.slice A0 n0 c0] 89)) 89 #[.slice B0 n0 d0] (w.heap.size + 1) (by simp)
 have hb0 := ((Below.refl w.heap.size w).alloc (Nat.le_refl _) (.cells #[.slice A0 n0 c0] 89)).alloc (by simp) (.cells #[.slice B0 n0 d0] 89)
 go_enter Tryz.func49, Tryz.ntmps49
 go_wp2_with fail
 generalize (w.alloc (.cells #[.slice A0 n0 c0] 89)).alloc (.cells #[.slice B0 n0 d0] 89) = x0 at *
 refine (lawsEqRowL A0 B0 n0 c0 d0 x.rows ok ok' _ (h0.below RwR.stays hb0) (k0.below RwR.stays hb0) HS0.out).mono ?_
 rintro e w1 ⟨rfl, hc0⟩
 have ra := ra.below hc0
 have rb := rb.below hc0
 have hb1 := hb0.trans (hc0.mono hb0.size)
 obtain ⟨a_0_0, -⟩ := ra.all1
 obtain ⟨b_0_0, -⟩ := rb.all1
 go_wp2_with fail
 go_ret
 exact ⟨rfl, hb1⟩
set_option maxRecDepth 100000 in
set_option maxHeartbeats 1000000 in
theorem lawsEqDataL (A A' : Option Addr) (n c c' : Nat) (l : List Dt) (ok ok' : Nat → Prop) (w : World) (h : Sl DtR 1 ok w A n l) (h' : Sl DtR 1 ok' w A' n l) (hs : szL Dt.sz l ≤ 1048576) :
  Calls Tryz.prog 19 #[.slice A n c, .slice A' n c'] w fun e w' => e = .returned (.bool true) ∧ Below w.heap.size w w' := by
 obtain rfl : l.length = n := h.1
 have hn : l.length ≤ 1048576 := by unfold szL at hs; omega
 have HS := Lib.hid hs
 clear hs
 go_enter Tryz.func19, Tryz.ntmps19
 go_wp2
 go_loopw [5] (fun i wr => ∃ k : Nat, k ≤ l.length ∧ i = .int .i64 k ∧ Below w.heap.size w wr) (fun i _ => l.length - (intOf i).toNat)
 case atStart => exact ⟨0, by omega, rfl, Below.refl _ _⟩
 case round =>
  obtain ⟨k, hk, rfl, hb⟩ := hrel
  by_cases hlt : k < l.length
  ·obtain ⟨b, off, A0, n0, c0, -, rfl, q0, s0, -⟩ := DtR.at_ (h.below DtR.stays hb) hlt
   obtain ⟨b', off', B0, m0, d0, -, rfl, r0, t0, -⟩ := DtR.at_ (h'.below DtR.stays hb) hlt
   obtain rfl : n0 = m0 := s0.1.symm.trans t0.1
   have i0 : (0 : Int) ≤ k := by omega
   have i1 : (k : Int) < l.length := by omega
   have hszk : l[k].sz ≤ 1048576 := by have := HS.out; have := sum_mem_le (Dt.sz) l k hlt; unfold szL at *; (try simp only at *); omega
   have HSK := Lib.hid hszk
   clear hszk
   go_wp2_with fail
   go_region_held3 (fun w' => w'.cell? ⟨b, off + k, none⟩ = some (.slice A0 n0 c0) ∧ w'.cell? ⟨b', off' + k, none⟩ = some (.slice B0 n0 d0))
    (first | go_keep | exact keepE2 (by assumption) hb1)
    (first | (go_at_call 49; refine (lawsEqData l[k] A0 B0 n0 c0 d0 ok ok' _ (s0.drew RwR.stays) (t0.drew RwR.stays) HSK.out).mono ?_; rintro e w1 ⟨rfl, hb1⟩))
   go_wp2
   go_roundw
   case rel => exact ⟨k + 1, by omega, by go_num, hb.drew.trans (hb1.mono hb.size)⟩
   case measure => simp [intOf]; omega
  ·go_wp2
   go_ret
   exact ⟨rfl, hb⟩
set_option maxRecDepth 100000 in
set_option maxHeartbeats 1000000 in
theorem lawsEqSave (x : Sv) (A1 B1 : Option Addr) (n1 c1 d1 : Nat) (ok ok' : Nat → Prop) (w : World) (h1 : Sl DtR 1 ok w A1 n1 x.db) (k1 : Sl DtR 1 ok' w B1 n1 x.db) (hs : x.sz ≤ 1048576) :
  Calls Tryz.prog 50 #[.agg #[.string x.name, .slice A1 n1 c1], .agg #[.string x.name, .slice B1 n1 d1]] w fun e w' => e = .returned (.bool true) ∧ Below w.heap.size w w' := by
 have HS1 := Lib.hid (show szL Dt.sz x.db ≤ 1048576 by have := hs; unfold Sv.sz at this; omega)
 clear hs
 have ra := (Row.new w 92 #[.string x.name, .slice A1 n1 c1]).alloc (.cells #[.string x.name, .slice B1 n1 d1] 92)
 have rb := Row.newAt (w.alloc (.cells #[.string x.name, .slice A1 n1 c1] 92)) 92 #[.string x.name, .slice B1 n1 d1] (w.heap.size + 1) (by simp)
 have hb0 := ((Below.refl w.heap.size w).alloc (Nat.le_refl _) (.cells #[.string x.name, .slice A1 n1 c1] 92)).alloc (by simp) (.cells #[.string x.name, .slice B1 n1 d1] 92)
 go_enter Tryz.func50, Tryz.ntmps50
 go_wp2_with fail
 generalize (w.alloc (.cells #[.string x.name, .slice A1 n1 c1] 92)).alloc (.cells #[.string x.name, .slice B1 n1 d1] 92) = x0 at *
 refine (lawsEqDataL A1 B1 n1 c1 d1 x.db ok ok' _ (h1.below DtR.stays hb0) (k1.below DtR.stays hb0) HS1.out).mono ?_
 rintro e w1 ⟨rfl, hc0⟩
 have ra := ra.below hc0
 have rb := rb.below hc0
 have hb1 := hb0.trans (hc0.mono hb0.size)
 obtain ⟨⟨a_0_0, a_0_1⟩, -⟩ := ra.all2
 obtain ⟨⟨b_0_0, b_0_1⟩, -⟩ := rb.all2
 go_wp2_with fail
 go_ret
 exact ⟨rfl, hb1⟩
set_option maxRecDepth 100000 in
set_option maxHeartbeats 1000000 in
theorem lawsEqSaveL (A A' : Option Addr) (n c c' : Nat) (l : List Sv) (ok ok' : Nat → Prop) (w : World) (h : Sl SvR 2 ok w A n l) (h' : Sl SvR 2 ok' w A' n l) (hs : szL Sv.sz l ≤ 1048576) :
  Calls Tryz.prog 20 #[.slice A n c, .slice A' n c'] w fun e w' => e = .returned (.bool true) ∧ Below w.heap.size w w' := by
 obtain rfl : l.length = n := h.1
 have hn : l.length ≤ 1048576 := by unfold szL at hs; omega
 have HS := Lib.hid hs
 clear hs
 go_enter Tryz.func20, Tryz.ntmps20
 go_wp2
 go_loopw [5] (fun i wr => ∃ k : Nat, k ≤ l.length ∧ i = .int .i64 k ∧ Below w.heap.size w wr) (fun i _ => l.length - (intOf i).toNat)
 case atStart => exact ⟨0, by omega, rfl, Below.refl _ _⟩
 case round =>
  obtain ⟨k, hk, rfl, hb⟩ := hrel
  by_cases hlt : k < l.length
  ·obtain ⟨b, off, A1, n1, c1, -, rfl, q0, q1, s1, -⟩ := SvR.at_ (h.below SvR.stays hb) hlt
   obtain ⟨b', off', B1, m1, d1, -, rfl, r0, r1, t1, -⟩ := SvR.at_ (h'.below SvR.stays hb) hlt
   obtain rfl : n1 = m1 := s1.1.symm.trans t1.1
   have i0 : (0 : Int) ≤ k := by omega
   have i1 : (k : Int) < l.length := by omega
   have hszk : l[k].sz ≤ 1048576 := by have := HS.out; have := sum_mem_le (Sv.sz) l k hlt; unfold szL at *; (try simp only at *); omega
   have HSK := Lib.hid hszk
   clear hszk
   go_wp2_with fail
   go_region_held3 (fun w' => w'.cell? ⟨b, off + k * 2, none⟩ = some (.string l[k].name) ∧ w'.cell? ⟨b, off + k * 2 + 1, none⟩ = some (.slice A1 n1 c1) ∧ w'.cell? ⟨b', off' + k * 2, none⟩ = some (.string l[k].name) ∧ w'.cell? ⟨b', off' + k * 2 + 1, none⟩ = some (.slice B1 n1 d1))
    (first | go_keep | exact keepE4 (by assumption) hb1)
    (first | (go_at_call 50; refine (lawsEqSave l[k] A1 B1 n1 c1 d1 ok ok' _ (s1.drew DtR.stays) (t1.drew DtR.stays) HSK.out).mono ?_; rintro e w1 ⟨rfl, hb1⟩))
   go_wp2
   go_roundw
   case rel => exact ⟨k + 1, by omega, by go_num, hb.drew.trans (hb1.mono hb.size)⟩
   case measure => simp [intOf]; omega
  ·go_wp2
   go_ret
   exact ⟨rfl, hb⟩
end Go.Proofs.YthamekdjfoepmaaGreat
namespace Go.Proofs.YthamekdjfoepmaaGreat
open Go.RowKit Go.Maps
def atGo (s : ByteArray) : List ByteArray → Nat → Int
 | [], _ => -1
 | x :: xs, i => if (x.toList == s.toList) = true then (i : Int) else atGo s xs (i + 1)
def atN (names : List ByteArray) (s : ByteArray) : Int := atGo s names 0
theorem atGo_snoc (s x : ByteArray) : ∀ (l : List ByteArray) (i : Nat), atGo s (l ++ [x]) i = if atGo s l i = -1 then (if (x.toList == s.toList) = true then ((i + l.length : Nat) : Int) else -1) else atGo s l i
 | [], i => by simp [atGo]
 | y :: ys, i => by
  cases hb : (y.toList == s.toList)
  ·simp only [List.cons_append, atGo, hb, Bool.false_eq_true, if_false]
   rw [atGo_snoc s x ys (i + 1), show i + 1 + ys.length = i + (y :: ys).length by simp; omega]
  ·simp only [List.cons_append, atGo, hb, if_true]
   rw [if_neg (by omega)]
theorem atGo_rng (s : ByteArray) : ∀ (l : List ByteArray) (i : Nat), atGo s l i = -1 ∨ ((i : Int) ≤ atGo s l i ∧ atGo s l i < i + l.length)
 | [], i => .inl rfl
 | y :: ys, i => by
  cases hb : (y.toList == s.toList)
  ·simp only [atGo, hb, Bool.false_eq_true, if_false]
   rcases atGo_rng s ys (i + 1) with h1 | h1
   ·exact .inl h1
   ·right; simp at h1 ⊢; omega
  ·simp only [atGo, hb, if_true]
   right; simp; omega
theorem atN_snoc (l : List ByteArray) (s x : ByteArray) : atN (l ++ [x]) s = if atN l s = -1 then (if (x.toList == s.toList) = true then (l.length : Int) else -1) else atN l s := by
 unfold atN; rw [atGo_snoc]; simp
theorem atN_rng (l : List ByteArray) (s : ByteArray) : atN l s = -1 ∨ (0 ≤ atN l s ∧ atN l s < l.length) := by
 rcases atGo_rng s l 0 with h | h
 ·exact .inl h
 ·right; unfold atN; simpa using h
def cntGo (seen : List ByteArray) : List ByteArray → Nat
 | [] => 0
 | x :: xs => (if atN seen x = -1 then 1 else 0) + cntGo (seen ++ [x]) xs
theorem cntGo_snoc (x : ByteArray) : ∀ (l seen : List ByteArray), cntGo seen (l ++ [x]) = cntGo seen l + (if atN (seen ++ l) x = -1 then 1 else 0)
 | [], seen => by simp [cntGo]
 | y :: ys, seen => by
  simp only [List.cons_append, cntGo, cntGo_snoc x ys (seen ++ [y]), List.append_assoc, List.nil_append]
  omega
def uniqGo (seen : List ByteArray) : List ByteArray → Bool
 | [] => true
 | x :: xs => decide (atN seen x = -1) && uniqGo (seen ++ [x]) xs
theorem cntGo_le : ∀ (l seen : List ByteArray), cntGo seen l ≤ l.length
 | [], _ => Nat.le_refl _
 | x :: xs, seen => by
  have := cntGo_le xs (seen ++ [x])
  simp only [cntGo, List.length_cons]
  split <;> omega
theorem cntGo_uniq : ∀ (l seen : List ByteArray), (cntGo seen l == l.length) = uniqGo seen l
 | [], _ => rfl
 | x :: xs, seen => by
  have h1 := cntGo_le xs (seen ++ [x])
  have h2 := cntGo_uniq xs (seen ++ [x])
  simp only [cntGo, uniqGo, List.length_cons, ← h2]
  by_cases h : atN seen x = -1
  ·rw [if_pos h, decide_eq_true h, Bool.true_and, Bool.eq_iff_iff]; simp; omega
  ·rw [if_neg h, decide_eq_false h, Bool.false_and]; simp; omega
def keyS (s : ByteArray) : Lit := .string s.data.toList
def PlacesIn (w : World) (b : Nat) (names : List ByteArray) : Prop := ∃ D : DataW Unit, w.ownsMap Tryz.prog 9 (plainElem Tryz.prog 2) b names.length D ∧ Tidy D ∧
 (∀ s : ByteArray, Maps.has D (keyS s) = decide (atN names s ≠ -1)) ∧ (∀ s : ByteArray, atN names s ≠ -1 → D.atKey (keyS s) (.lit (.int .i64 0)) = .lit (.int .i64 (atN names s))) ∧ Maps.size D = cntGo [] names
theorem keyS_key (s : ByteArray) : WideAt.IsKeyLit (keyS s) := by first | trivial | (simp [keyS, WideAt.IsKeyLit]) | (unfold keyS WideAt.IsKeyLit; trivial)
theorem keyS_of (s : ByteArray) (hs : s.size ≤ maxLen) : Go.keyOf Tryz.prog 9 (.string s) = some (keyS s) := Go.WideMaps.keyOf_string_mk Tryz.underlying9 hs
theorem lawS : Keyed Tryz.prog 9 := string_keyed Tryz.underlying9
theorem zeroI (w : World) : (zeroValue 2).run Tryz.prog w = .ok (.int .i64 0) w := by kernel_rfl
theorem keyS_eq {s x : ByteArray} : keyS x = keyS s ↔ (x.toList == s.toList) = true := by
 rw [ByteArray.toList_eq, ByteArray.toList_eq]
 simp [keyS]
theorem PlacesIn.made (w : World) : PlacesIn (w.alloc (.map #[] 0)) w.heap.size [] :=
 ⟨.map [], World.ownsMap_made _ _ _ _, tidy_empty, fun s => by simp [Maps.has, atN, atGo], fun s h => absurd rfl h, rfl⟩
theorem PlacesIn.kept {w w' : World} {b : Nat} {names : List ByteArray} {row : Option Nat} (h : PlacesIn w b names) (hg : w.grownBy w' row) (hne : some b ≠ row) : PlacesIn w' b names := by
 obtain ⟨D, h1, h2, h3, h4, h5⟩ := h
 exact ⟨D, h1.kept hg hne, h2, h3, h4, h5⟩
theorem PlacesIn.alloc {w : World} {b : Nat} {names : List ByteArray} (h : PlacesIn w b names) (o : Obj) : PlacesIn (w.alloc o) b names := h.kept (World.grownBy_alloc w o none) (by simp)
theorem PlacesIn.drew {w : World} {b : Nat} {names : List ByteArray} (h : PlacesIn w b names) : PlacesIn w.drew b names := h
theorem places_more {w' : World} {b : Nat} {names : List ByteArray} {s : ByteArray} {D : DataW Unit} (hno : atN names s = -1) (h1 : w'.ownsMap Tryz.prog 9 (plainElem Tryz.prog 2) b (names.length + 1) (D.put (keyS s) (.lit (.int .i64 names.length)))) (h2 : Tidy D)
  (h3 : ∀ s : ByteArray, Maps.has D (keyS s) = decide (atN names s ≠ -1)) (h4 : ∀ s : ByteArray, atN names s ≠ -1 → D.atKey (keyS s) (.lit (.int .i64 0)) = .lit (.int .i64 (atN names s))) (h5 : Maps.size D = cntGo [] names) : PlacesIn w' b (names ++ [s]) := by
 refine ⟨_, by simpa using h1, h2.put (keyS_key s) _, fun u => ?_, fun u hu => ?_, by
  rw [Maps.size_put h2, h3 s, decide_eq_false (by simp [hno]), cntGo_snoc, List.nil_append, if_pos hno, ← h5]; rfl⟩
 ·rw [atN_snoc]
  by_cases e : keyS u = keyS s
  ·rw [e, Maps.has_put_same h2.isMap (keyS_key s)]
   have e2 : (s.toList == u.toList) = true := keyS_eq.1 e.symm
   by_cases hu : atN names u = -1
   ·rw [if_pos hu, if_pos e2]; simp
   ·rw [if_neg hu]; simp [hu]
  ·rw [Maps.has_put_other e, h3]
   have e2 : ¬ (s.toList == u.toList) = true := fun h => e (keyS_eq.2 h).symm
   by_cases hu : atN names u = -1
   ·rw [if_pos hu, if_neg e2]; simp [hu]
   ·rw [if_neg hu]
 ·rw [atN_snoc] at hu ⊢
  by_cases e : keyS u = keyS s
  ·have e2 : (s.toList == u.toList) = true := keyS_eq.1 e.symm
   have hu2 : atN names u = -1 := by
    have e3 : s.toList = u.toList := by simpa using e2
    have : atN names u = atN names s := by
     have hh : ∀ (l : List ByteArray) (i : Nat), atGo u l i = atGo s l i := by
      intro l
      induction l with
      | nil => intro i; rfl
      | cons y ys ih => intro i; simp only [atGo, e3, ih]
     exact hh _ _
    rw [this]; exact hno
   rw [if_pos hu2, if_pos e2, e, Maps.atKey_put_same h2.isMap (keyS_key s)]
  ·have e2 : ¬ (s.toList == u.toList) = true := fun h => e (keyS_eq.2 h).symm
   by_cases hu2 : atN names u = -1
   ·rw [if_pos hu2, if_neg e2] at hu; exact absurd rfl hu
   ·rw [if_neg hu2] at hu ⊢
    rw [Maps.atKey_put_other e]
    exact h4 u hu2
theorem places_same {w : World} {b : Nat} {names : List ByteArray} {s : ByteArray} (hyes : atN names s ≠ -1) (h : PlacesIn w b names) : PlacesIn w b (names ++ [s]) := by
 obtain ⟨D, h1, h2, h3, h4, h5⟩ := h
 have key : ∀ u, atN (names ++ [s]) u = atN names u := fun u => by
  rw [atN_snoc]
  by_cases hu : atN names u = -1
  ·rw [if_pos hu]
   by_cases e : (s.toList == u.toList) = true
   ·exfalso
    have e3 : s.toList = u.toList := by simpa using e
    have hh : ∀ (l : List ByteArray) (i : Nat), atGo u l i = atGo s l i := by
     intro l
     induction l with
     | nil => intro i; rfl
     | cons y ys ih => intro i; simp only [atGo, e3, ih]
    exact hyes ((hh names 0).symm.trans hu)
   ·rw [if_neg e, hu]
  ·rw [if_neg hu]
 exact ⟨D, h1.mono (by simp), h2, fun u => by rw [key]; exact h3 u, fun u hu => by rw [key] at hu ⊢; exact h4 u hu, by rw [cntGo_snoc, List.nil_append, if_neg hyes, Nat.add_zero]; exact h5⟩
theorem implAddFirst (b : Nat) (names : List ByteArray) (s : ByteArray) (w : World) (h : PlacesIn w b names) (hs : s.size ≤ maxLen) (hn : names.length ≤ 1048576) :
  Calls Tryz.prog 105 #[.map (some b), .string s, .int .i64 names.length] w fun e w' => e = .returned (.tuple #[]) ∧ PlacesIn w' b (names ++ [s]) ∧ w.grownBy w' (some b) := by
 obtain ⟨D, h1, h2, h3, h4, h5⟩ := h
 have wf : (Lit.int .i64 (names.length : Int)).wf = true := WalkArith.wf_i64 (by omega)
 have hval := plainElem_int (H := Unit) Tryz.underlying2 wf
 by_cases hno : atN names s = -1
 ·have hh := h3 s
  rw [decide_eq_false (by simp [hno])] at hh
  have HH := Lib.hid hh
  have HN := Lib.hid hno
  have H3 := Lib.hid h3
  have H4 := Lib.hid h4
  have H5 := Lib.hid h5
  clear hh hno h3 h4 h5
  go_enter Tryz.func105, Tryz.ntmps105
  go_wp2_with (first
   | (at_lookup; refine wpList_lookup_own_ok_int _ rfl _ _ 123 rfl 9 2 .i64 lawS Tryz.underlying123 Tryz.underlying2 (zeroI _) b names.length D rfl h1 _ _ rfl (keyS_of s hs) ?_; intro c hat hwc; rw [HH.out])
   | (at_mapUpdate; refine wpList_mapUpdate_own _ rfl _ _ _ 123 rfl 9 2 lawS Tryz.underlying123 _ b names.length D rfl h1 (by unfold maxLen; omega) _ _ _ rfl rfl (keyS_of s hs) _ [] hval ?_; intro w1 hown1 hgrow1))
  go_end0
  exact ⟨rfl, places_more HN.out hown1 h2 H3.out H4.out H5.out, hgrow1⟩
 ·have hh := h3 s
  rw [decide_eq_true hno] at hh
  have HH := Lib.hid hh
  have HP := Lib.hid (places_same hno ⟨D, h1, h2, h3, h4, h5⟩)
  clear hh hno h3 h4 h5
  go_enter Tryz.func105, Tryz.ntmps105
  go_wp2_with (first
   | (at_lookup; refine wpList_lookup_own_ok_int _ rfl _ _ 123 rfl 9 2 .i64 lawS Tryz.underlying123 Tryz.underlying2 (zeroI _) b names.length D rfl h1 _ _ rfl (keyS_of s hs) ?_; intro c hat hwc; rw [HH.out]))
  go_end0
  exact ⟨rfl, HP.out, ⟨rfl, rfl, rfl, Nat.le_refl _, fun _ _ _ => rfl⟩⟩
theorem atGo_drop (nm : ByteArray) (names : List ByteArray) (k : Nat) (h : k < names.length) : atGo nm (names.drop k) k = if (names[k].toList == nm.toList) = true then (k : Int) else atGo nm (names.drop (k + 1)) (k + 1) := by
 rw [List.drop_eq_getElem_cons h]; rfl
theorem tb_name_le {s : List Tb} (hs : szL Tb.sz s ≤ 1048576) (k : Nat) (h : k < s.length) : s[k].name.size ≤ maxLen := by
 have := sum_mem_le Tb.sz s k h
 unfold szL at hs
 have h2 : s[k].name.size ≤ s[k].sz := by unfold Tb.sz; omega
 unfold maxLen; omega
theorem cl_name_le {s : List Cl} (hs : szL Cl.sz s ≤ 1048576) (k : Nat) (h : k < s.length) : s[k].name.size ≤ maxLen := by
 have := sum_mem_le Cl.sz s k h
 unfold szL at hs
 have h2 : s[k].name.size ≤ s[k].sz := by unfold Cl.sz; omega
 unfold maxLen; omega
set_option maxRecDepth 100000 in
set_option maxHeartbeats 1000000 in
theorem specL3At (A : Option Addr) (n c : Nat) (s : List Tb) (nm : ByteArray) (ok : Nat → Prop) (w : World) (h : Sl TbR 6 ok w A n s) (hn : n ≤ 1048576) :
  Calls Tryz.prog 69 #[.slice A n c, .string nm] w fun e w' => e = .returned (.int .i64 (atN (s.map Tb.name) nm)) ∧ Below w.heap.size w w' := by
 obtain rfl : s.length = n := h.1
 have hlen : (s.map Tb.name).length = s.length := by simp
 have HL := Lib.hid hlen
 clear hlen
 go_enter Tryz.func69, Tryz.ntmps69
 go_wp2
 go_loopw [5] (fun i wr => ∃ k : Nat, k ≤ s.length ∧ i = .int .i64 k ∧ Hid (atN (s.map Tb.name) nm = atGo nm ((s.map Tb.name).drop k) k) ∧ Below w.heap.size w wr) (fun i _ => s.length - (intOf i).toNat)
 case atStart => exact ⟨0, by omega, rfl, Lib.hid rfl, Below.refl _ _⟩
 case round =>
  obtain ⟨k, hk, rfl, hat, hb⟩ := hrel
  by_cases hlt : k < s.length
  ·obtain ⟨b, off, A1, n1, c1, A2, n2, c2, A3, n3, c3, A4, n4, c4, A5, n5, c5, -, rfl, q0, q1, q2, q3, q4, q5, -⟩ := TbR.at_ (h.below TbR.stays hb) hlt
   have hd := atGo_drop nm (s.map Tb.name) k (by rw [HL.out]; exact hlt)
   rw [List.getElem_map] at hd
   have i0 : (0 : Int) ≤ k := by omega
   have i1 : (k : Int) < s.length := by omega
   cases he : (s[k].name.toList == nm.toList)
   ·rw [he] at hd
    have HA := Lib.hid (hat.out.trans hd)
    clear hd hat
    go_wp2_with fail
    go_roundw
    case rel => exact ⟨k + 1, by omega, by go_num, Lib.hid (by simpa using HA.out), hb⟩
    case measure => simp [intOf]; omega
   ·rw [he] at hd
    have HA := Lib.hid (hat.out.trans hd)
    clear hd hat
    go_wp2_with fail
    go_ret
    exact ⟨retI (by simpa using HA.out.symm), hb⟩
  ·have e : (s.map Tb.name).drop k = [] := List.drop_eq_nil_of_le (by rw [HL.out]; omega)
   have h1 := hat.out
   rw [e] at h1
   have HA := Lib.hid h1
   clear h1 hat e
   go_wp2
   go_ret
   exact ⟨retI HA.out.symm, hb⟩
def MadePlaces (names : List ByteArray) (w : World) (e : Ending) (w' : World) : Prop := ∃ b, e = .returned (.map (some b)) ∧ PlacesIn w' b names ∧ w.heap.size ≤ b ∧ Below w.heap.size w w'
set_option maxRecDepth 100000 in
set_option maxHeartbeats 1000000 in
theorem implTablePlaces (A : Option Addr) (n c : Nat) (s : List Tb) (ok : Nat → Prop) (w : World) (h : Sl TbR 6 ok w A n s) (hs : szL Tb.sz s ≤ 1048576) :
  Calls Tryz.prog 75 #[.slice A n c] w (MadePlaces (s.map Tb.name) w) := by
 obtain rfl : s.length = n := h.1
 have hn : s.length ≤ 1048576 := by unfold szL at hs; omega
 have HS := Lib.hid hs
 clear hs
 have hmm := @run_makeMap Tryz.prog
 go_enter Tryz.func75, Tryz.ntmps75
 go_wp2
 have hm0 := PlacesIn.made w
 have hb0 := (Below.refl w.heap.size w).alloc (Nat.le_refl _) (.map #[] 0)
 generalize w.alloc (.map #[] 0) = x0 at *
 clear hmm
 go_loopw [9] (fun i wr => ∃ k : Nat, k ≤ s.length ∧ i = .int .i64 k ∧ PlacesIn wr w.heap.size ((s.map Tb.name).take k) ∧ Below w.heap.size w wr) (fun i _ => s.length - (intOf i).toNat)
 case atStart => exact ⟨0, by omega, rfl, hm0, hb0⟩
 case round =>
  obtain ⟨k, hk, rfl, hpl, hb⟩ := hrel
  by_cases hlt : k < s.length
  ·obtain ⟨b, off, A1, n1, c1, A2, n2, c2, A3, n3, c3, A4, n4, c4, A5, n5, c5, -, rfl, q0, q1, q2, q3, q4, q5, -⟩ := TbR.at_ (h.below TbR.stays hb) hlt
   have hl : ((s.map Tb.name).take k).length = k := by simp; omega
   have hsn : (s.map Tb.name).take (k + 1) = (s.map Tb.name).take k ++ [s[k].name] := by rw [List.take_succ_eq_append_getElem (by simpa using hlt)]; simp
   have hz := Lib.hid (tb_name_le HS.out k hlt)
   have HL := Lib.hid hl
   have HSN := Lib.hid hsn
   clear hl hsn
   have hpa := hpl.alloc (.cells #[.string s[k].name, .slice A1 n1 c1, .slice A2 n2 c2, .slice A3 n3 c3, .slice A4 n4 c4, .slice A5 n5 c5] 53)
   have hba := hb.alloc hb.size (.cells #[.string s[k].name, .slice A1 n1 c1, .slice A2 n2 c2, .slice A3 n3 c3, .slice A4 n4 c4, .slice A5 n5 c5] 53)
   go_wp2_with fail
   have hcall := implAddFirst w.heap.size _ s[k].name _ hpa hz.out (by rw [HL.out]; omega)
   rw [HL.out] at hcall
   refine hcall.mono ?_
   rintro e w1 ⟨rfl, hp1, hg1⟩
   clear hcall
   go_wp2_with fail
   go_roundw
   case rel => exact ⟨k + 1, by omega, by go_num, by rw [HSN.out]; exact hp1, hba.grown hg1 hba.size (fun j hj => by cases hj; exact Nat.le_refl _)⟩
   case measure => simp [intOf]; omega
  ·have e : (s.map Tb.name).take k = s.map Tb.name := List.take_of_length_le (by simp; omega)
   rw [e] at hpl
   clear e
   go_wp2
   go_ret
   exact ⟨_, rfl, hpl, Nat.le_refl _, hb⟩
set_option maxRecDepth 100000 in
set_option maxHeartbeats 1000000 in
theorem implColPlaces (A : Option Addr) (n c : Nat) (s : List Cl) (ok : Nat → Prop) (w : World) (h : Sl ClR 6 ok w A n s) (hs : szL Cl.sz s ≤ 1048576) :
  Calls Tryz.prog 122 #[.slice A n c] w (MadePlaces (s.map Cl.name) w) := by
 obtain rfl : s.length = n := h.1
 have hn : s.length ≤ 1048576 := by unfold szL at hs; omega
 have HS := Lib.hid hs
 clear hs
 have hmm := @run_makeMap Tryz.prog
 go_enter Tryz.func122, Tryz.ntmps122
 go_wp2
 have hm0 := PlacesIn.made w
 have hb0 := (Below.refl w.heap.size w).alloc (Nat.le_refl _) (.map #[] 0)
 generalize w.alloc (.map #[] 0) = x0 at *
 clear hmm
 go_loopw [9] (fun i wr => ∃ k : Nat, k ≤ s.length ∧ i = .int .i64 k ∧ PlacesIn wr w.heap.size ((s.map Cl.name).take k) ∧ Below w.heap.size w wr) (fun i _ => s.length - (intOf i).toNat)
 case atStart => exact ⟨0, by omega, rfl, hm0, hb0⟩
 case round =>
  obtain ⟨k, hk, rfl, hpl, hb⟩ := hrel
  by_cases hlt : k < s.length
  ·obtain ⟨b, off, -, rfl, q0, q1, q2, q3, q4, q5⟩ := ClR.at_ (h.below ClR.stays hb) hlt
   have hl : ((s.map Cl.name).take k).length = k := by simp; omega
   have hsn : (s.map Cl.name).take (k + 1) = (s.map Cl.name).take k ++ [s[k].name] := by rw [List.take_succ_eq_append_getElem (by simpa using hlt)]; simp
   have hz := Lib.hid (cl_name_le HS.out k hlt)
   have HL := Lib.hid hl
   have HSN := Lib.hid hsn
   clear hl hsn
   have hpa := hpl.alloc (.cells #[.string s[k].name, .int .i64 s[k].kind, .bool s[k].nn, .int .i64 s[k].d.k, .int .i64 s[k].d.n, .string s[k].d.s] 102)
   have hba := hb.alloc hb.size (.cells #[.string s[k].name, .int .i64 s[k].kind, .bool s[k].nn, .int .i64 s[k].d.k, .int .i64 s[k].d.n, .string s[k].d.s] 102)
   go_wp2_with fail
   have hcall := implAddFirst w.heap.size _ s[k].name _ hpa hz.out (by rw [HL.out]; omega)
   rw [HL.out] at hcall
   refine hcall.mono ?_
   rintro e w1 ⟨rfl, hp1, hg1⟩
   clear hcall
   go_wp2_with fail
   go_roundw
   case rel => exact ⟨k + 1, by omega, by go_num, by rw [HSN.out]; exact hp1, hba.grown hg1 hba.size (fun j hj => by cases hj; exact Nat.le_refl _)⟩
   case measure => simp [intOf]; omega
  ·have e : (s.map Cl.name).take k = s.map Cl.name := List.take_of_length_le (by simp; omega)
   rw [e] at hpl
   clear e
   go_wp2
   go_ret
   exact ⟨_, rfl, hpl, Nat.le_refl _, hb⟩
set_option maxRecDepth 100000 in
set_option maxHeartbeats 1000000 in
theorem specColAt (A1 : Option Addr) (n1 c1 : Nat) (v0 v2 v3 v4 v5 : Value) (s : List Cl) (nm : ByteArray) (ok : Nat → Prop) (w : World) (h : Sl ClR 6 ok w A1 n1 s) (hn : n1 ≤ 1048576) :
  Calls Tryz.prog 94 #[.agg #[v0, .slice A1 n1 c1, v2, v3, v4, v5], .string nm] w fun e w' => e = .returned (.int .i64 (atN (s.map Cl.name) nm)) ∧ Below w.heap.size w w' := by
 obtain rfl : s.length = n1 := h.1
 have hlen : (s.map Cl.name).length = s.length := by simp
 have HL := Lib.hid hlen
 clear hlen
 have hb0 := (Below.refl w.heap.size w).alloc (Nat.le_refl _) (.cells #[v0, .slice A1 s.length c1, v2, v3, v4, v5] 53)
 have r0 := Row.new w 53 #[v0, .slice A1 s.length c1, v2, v3, v4, v5]
 go_enter Tryz.func94, Tryz.ntmps94
 go_wp2
 generalize w.alloc (.cells #[v0, .slice A1 s.length c1, v2, v3, v4, v5] 53) = x0 at *
 go_loopw [5] (fun i wr => ∃ k : Nat, k ≤ s.length ∧ i = .int .i64 k ∧ Hid (atN (s.map Cl.name) nm = atGo nm ((s.map Cl.name).drop k) k) ∧ x0 = wr) (fun i _ => s.length - (intOf i).toNat)
 case atStart => exact ⟨0, by omega, rfl, Lib.hid rfl, rfl⟩
 case round =>
  obtain ⟨k, hk, rfl, hat, rfl⟩ := hrel
  obtain ⟨⟨a0, a1, a2, a3, a4, a5⟩, -⟩ := r0.all6
  by_cases hlt : k < s.length
  ·obtain ⟨b, off, -, rfl, q0, q1, q2, q3, q4, q5⟩ := ClR.at_ (h.below ClR.stays hb0) hlt
   have hd := atGo_drop nm (s.map Cl.name) k (by rw [HL.out]; exact hlt)
   rw [List.getElem_map] at hd
   have i0 : (0 : Int) ≤ k := by omega
   have i1 : (k : Int) < s.length := by omega
   cases he : (s[k].name.toList == nm.toList)
   ·rw [he] at hd
    have HA := Lib.hid (hat.out.trans hd)
    clear hd hat
    go_wp2_with fail
    go_roundw
    case rel => exact ⟨k + 1, by omega, by go_num, Lib.hid (by simpa using HA.out), by first | trivial | rfl⟩
    case measure => simp [intOf]; omega
   ·rw [he] at hd
    have HA := Lib.hid (hat.out.trans hd)
    clear hd hat
    go_wp2_with fail
    go_ret
    exact ⟨retI (by simpa using HA.out.symm), hb0⟩
  ·have e : (s.map Cl.name).drop k = [] := List.drop_eq_nil_of_le (by rw [HL.out]; omega)
   have h1 := hat.out
   rw [e] at h1
   have HA := Lib.hid h1
   clear h1 hat e
   go_wp2
   go_ret
   exact ⟨retI HA.out.symm, hb0⟩
def lowC (c : UInt8) : Bool := decide (97 ≤ (c.toNat : Int)) && decide ((c.toNat : Int) ≤ 122)
def charsB (s : ByteArray) : Bool := s.data.toList.all lowC
def nameB (s : ByteArray) : Bool := charsB s && (decide (1 ≤ (s.size : Int)) && decide ((s.size : Int) ≤ 8))
theorem all_take {α : Type} (f : α → Bool) (l : List α) (k : Nat) (h : k < l.length) : (l.take (k + 1)).all f = ((l.take k).all f && f l[k]) := by
 rw [List.take_succ_eq_append_getElem h, List.all_append]; simp
theorem all_no {α : Type} (f : α → Bool) (l : List α) (k : Nat) (h : k < l.length) (hf : f l[k] = false) : l.all f = false := by
 rw [Bool.eq_false_iff]; intro ha
 have := List.all_eq_true.1 ha l[k] (List.getElem_mem h)
 rw [hf] at this; cases this
set_option maxHeartbeats 400000 in
theorem specName (s : ByteArray) (w : World) (hs : s.size ≤ maxLen) :
  Calls Tryz.prog 91 #[.string s] w fun e w' => e = .returned (.bool (nameB s)) ∧ w = w' := by
 unfold maxLen at hs
 go_enter Tryz.func91, Tryz.ntmps91
 go_wp2
 go_loop [3] (fun i => ∃ k : Nat, k ≤ s.size ∧ i = .int .i64 k ∧ Hid ((s.data.toList.take k).all lowC = true)) (fun i => s.size - (intOf i).toNat)
 case atStart => exact ⟨0, by omega, rfl, Lib.hid (by simp)⟩
 case round =>
  obtain ⟨k, hk, rfl, hall⟩ := hrel
  by_cases hlt : k < s.size
  ·have hl : k < s.data.toList.length := by simpa using hlt
   have hsn := all_take lowC s.data.toList k hl
   have hget : s.data.toList[k] = s[k] := by simp [ByteArray.getElem_eq_getElem_data]
   rw [hall.out, hget, Bool.true_and] at hsn
   by_cases h1 : (s[k].toNat : Int) < 97
   ·have HN := Lib.hid (show nameB s = false by
     unfold nameB charsB
     rw [all_no lowC _ k hl (by rw [hget]; unfold lowC; rw [decide_eq_false (by omega)]; rfl), Bool.false_and])
    clear hsn hget hall
    go_wp2
    go_ret
    exact ⟨retB HN.out.symm, rfl⟩
   by_cases h2 : 122 < (s[k].toNat : Int)
   ·have HN := Lib.hid (show nameB s = false by
     unfold nameB charsB
     rw [all_no lowC _ k hl (by rw [hget]; unfold lowC; rw [decide_eq_false (p := (s[k].toNat : Int) ≤ 122) (by omega), Bool.and_false]), Bool.false_and])
    have h1' : decide ((s[k].toNat : Int) < 97) = false := by simpa using h1
    clear hsn hget hall
    go_wp2
    go_ret
    exact ⟨retB HN.out.symm, rfl⟩
   ·have HA := Lib.hid (show (s.data.toList.take (k + 1)).all lowC = true by rw [hsn]; unfold lowC; rw [decide_eq_true (by omega), decide_eq_true (by omega)]; rfl)
    have h1' : decide ((s[k].toNat : Int) < 97) = false := by simpa using h1
    have h2' : decide (122 < (s[k].toNat : Int)) = false := by simpa using h2
    clear hsn hget hall
    go_wp2
    go_round
    case rel => exact ⟨k + 1, by omega, by go_num, HA⟩
    case measure => simp [intOf]; omega
  ·have e : s.data.toList.take k = s.data.toList := List.take_of_length_le (by simp; omega)
   have h1 := hall.out
   rw [e] at h1
   have HN := Lib.hid (show nameB s = (decide (1 ≤ (s.size : Int)) && decide ((s.size : Int) ≤ 8)) by unfold nameB charsB; rw [h1, Bool.true_and])
   clear h1 e hall
   go_wp2_with fail
   refine (specIn _ _ _ _).mono ?_
   rintro e w1 ⟨rfl, rfl⟩
   go_wp2
   go_ret
   exact ⟨retB HN.out.symm, rfl⟩
set_option maxHeartbeats 400000 in
theorem implIsName (s : ByteArray) (w : World) (hs : s.size ≤ maxLen) :
  Calls Tryz.prog 99 #[.string s] w fun e w' => e = .returned (.bool (nameB s)) ∧ w = w' := by
 unfold maxLen at hs
 by_cases hsm : (s.size : Int) < 1
 ·have HN := Lib.hid (show nameB s = false by unfold nameB; rw [decide_eq_false (p := 1 ≤ (s.size : Int)) (by omega), Bool.false_and, Bool.and_false])
  go_enter Tryz.func99, Tryz.ntmps99
  go_wp2
  go_ret
  exact ⟨retB HN.out.symm, rfl⟩
 have hsm' : decide ((s.size : Int) < 1) = false := by simpa using hsm
 by_cases hbig : 8 < (s.size : Int)
 ·have HN := Lib.hid (show nameB s = false by unfold nameB; rw [decide_eq_false (p := (s.size : Int) ≤ 8) (by omega), Bool.and_false, Bool.and_false])
  go_enter Tryz.func99, Tryz.ntmps99
  go_wp2
  go_ret
  exact ⟨retB HN.out.symm, rfl⟩
 have hbig' : decide (8 < (s.size : Int)) = false := by simpa using hbig
 have HSZ := Lib.hid (show (decide (1 ≤ (s.size : Int)) && decide ((s.size : Int) ≤ 8)) = true by rw [decide_eq_true (by omega), decide_eq_true (by omega)]; rfl)
 go_enter Tryz.func99, Tryz.ntmps99
 go_wp2
 go_loop [14] (fun i => ∃ k : Nat, k ≤ s.size ∧ i = .int .i64 k ∧ Hid ((s.data.toList.take k).all lowC = true)) (fun i => s.size - (intOf i).toNat)
 case atStart => exact ⟨0, by omega, rfl, Lib.hid (by simp)⟩
 case round =>
  obtain ⟨k, hk, rfl, hall⟩ := hrel
  by_cases hlt : k < s.size
  ·have hl : k < s.data.toList.length := by simpa using hlt
   have hsn := all_take lowC s.data.toList k hl
   have hget : s.data.toList[k] = s[k] := by simp [ByteArray.getElem_eq_getElem_data]
   rw [hall.out, hget, Bool.true_and] at hsn
   by_cases h1 : (s[k].toNat : Int) < 97
   ·have HN := Lib.hid (show nameB s = false by
     unfold nameB charsB
     rw [all_no lowC _ k hl (by rw [hget]; unfold lowC; rw [decide_eq_false (by omega)]; rfl), Bool.false_and])
    clear hsn hget hall
    go_wp2
    go_ret
    exact ⟨retB HN.out.symm, rfl⟩
   by_cases h2 : 122 < (s[k].toNat : Int)
   ·have HN := Lib.hid (show nameB s = false by
     unfold nameB charsB
     rw [all_no lowC _ k hl (by rw [hget]; unfold lowC; rw [decide_eq_false (p := (s[k].toNat : Int) ≤ 122) (by omega), Bool.and_false]), Bool.false_and])
    have h1' : decide ((s[k].toNat : Int) < 97) = false := by simpa using h1
    clear hsn hget hall
    go_wp2
    go_ret
    exact ⟨retB HN.out.symm, rfl⟩
   ·have HA := Lib.hid (show (s.data.toList.take (k + 1)).all lowC = true by rw [hsn]; unfold lowC; rw [decide_eq_true (by omega), decide_eq_true (by omega)]; rfl)
    have h1' : decide ((s[k].toNat : Int) < 97) = false := by simpa using h1
    have h2' : decide (122 < (s[k].toNat : Int)) = false := by simpa using h2
    clear hsn hget hall
    go_wp2
    go_round
    case rel => exact ⟨k + 1, by omega, by go_num, HA⟩
    case measure => simp [intOf]; omega
  ·have e : s.data.toList.take k = s.data.toList := List.take_of_length_le (by simp; omega)
   have h1 := hall.out
   rw [e] at h1
   have HN := Lib.hid (show nameB s = true by unfold nameB charsB; rw [h1, Bool.true_and]; exact HSZ.out)
   clear h1 e hall
   go_wp2
   go_ret
   exact ⟨retB HN.out.symm, rfl⟩
def hasB (l : List Int) (x : Int) : Bool := l.contains x
def colsGo (n : Int) (seen : List Int) : List Int → Bool
 | [] => true
 | x :: xs => (decide (0 ≤ x) && decide (x < n) && !hasB seen x) && colsGo n (seen ++ [x]) xs
def colsInB (l : List Int) (n : Int) : Bool := colsGo n [] l && decide (0 < l.length)
theorem colsGo_at (n : Int) (l : List Int) (k : Nat) (h : k < l.length) : colsGo n (l.take k) (l.drop k) = ((decide (0 ≤ l[k]) && decide (l[k] < n) && !hasB (l.take k) l[k]) && colsGo n (l.take (k + 1)) (l.drop (k + 1))) := by
 rw [List.drop_eq_getElem_cons h, List.take_succ_eq_append_getElem h]; rfl
theorem php : ∀ (n : Nat) (l : List Int), l.Nodup → (∀ x ∈ l, 0 ≤ x ∧ x < n) → l.length ≤ n
 | 0, l, _, h => by
  cases l with
  | nil => simp
  | cons x xs => have := h x (by simp); omega
 | n + 1, l, hd, h => by
  by_cases hm : (n : Int) ∈ l
  ·have h1 := php n (l.erase (n : Int)) (hd.erase _) fun x hx => by
    have hx' := (List.Nodup.mem_erase_iff hd).1 hx
    have := h x hx'.2
    have hne := hx'.1
    omega
   rw [List.length_erase_of_mem hm] at h1
   omega
  ·have h1 := php n l hd fun x hx => by
    have := h x hx
    have hne : x ≠ (n : Int) := fun e => hm (e ▸ hx)
    omega
   omega
theorem colsGo_nodup (n : Int) : ∀ (l seen : List Int), seen.Nodup → (∀ x ∈ seen, 0 ≤ x ∧ x < n) → colsGo n seen l = true → (seen ++ l).Nodup ∧ ∀ x ∈ seen ++ l, 0 ≤ x ∧ x < n
 | [], seen, h1, h2, _ => by simpa using ⟨h1, h2⟩
 | x :: xs, seen, h1, h2, h => by
  simp only [colsGo, Bool.and_eq_true, decide_eq_true_eq, Bool.not_eq_true'] at h
  obtain ⟨⟨⟨h3, h4⟩, h5⟩, h6⟩ := h
  have hn : x ∉ seen := by simpa [hasB] using h5
  have := colsGo_nodup n xs (seen ++ [x]) (by
   rw [List.nodup_append]
   refine ⟨h1, by simp, fun a ha b hb => ?_⟩
   rw [List.mem_singleton] at hb
   intro e; subst e; subst hb; exact hn ha) (by
   intro y hy
   rw [List.mem_append, List.mem_singleton] at hy
   rcases hy with hy | rfl
   ·exact h2 y hy
   ·exact ⟨h3, h4⟩) h6
  simpa using this
theorem colsInB_len {l : List Int} {n : Nat} (h : colsInB l n = true) : l.length ≤ n ∧ ∀ x ∈ l, 0 ≤ x ∧ x < n := by
 unfold colsInB at h
 rw [Bool.and_eq_true] at h
 have := colsGo_nodup n l [] (by simp) (by simp) h.1
 simp only [List.nil_append] at this
 exact ⟨php n l this.1 this.2, this.2⟩
theorem Sl.take {α : Type} {R : Rd α} {sz : Nat} {ok : Nat → Prop} {w : World} {A : Option Addr} {n m : Nat} {ds : List α} (h : Sl R sz ok w A n ds) (hm : m ≤ n) : Sl R sz ok w A m (ds.take m) := by
 have hl := h.1
 refine ⟨by simp; omega, fun h0 => ?_⟩
 obtain ⟨b, off, e, hb, hi⟩ := h.2 (by omega)
 refine ⟨b, off, e, hb, fun i hlt => ?_⟩
 simp only [List.length_take] at hlt
 obtain ⟨cs, h1, h2, h3⟩ := hi i (by omega)
 exact ⟨cs, h1, by rw [List.getElem_take]; exact h2, h3⟩
theorem contains_take (l : List Int) (x : Int) (k : Nat) (h : k < l.length) : hasB (l.take (k + 1)) x = (hasB (l.take k) x || l[k] == x) := by
 unfold hasB
 rw [List.take_succ_eq_append_getElem h, List.contains_eq_any_beq, List.any_append, List.contains_eq_any_beq]
 simp [Bool.beq_comm]
theorem specHas (A : Option Addr) (n c : Nat) (l : List Int) (x : Int) (ok : Nat → Prop) (w : World) (h : Sl IntR 1 ok w A n l) (hn : n ≤ 1048576) :
  Calls Tryz.prog 118 #[.slice A n c, .int .i64 x] w fun e w' => e = .returned (.bool (hasB l x)) ∧ w = w' := by
 obtain rfl : l.length = n := h.1
 go_enter Tryz.func118, Tryz.ntmps118
 go_wp2
 go_loop [5] (fun i => ∃ k : Nat, k ≤ l.length ∧ i = .int .i64 k ∧ Hid (hasB (l.take k) x = false)) (fun i => l.length - (intOf i).toNat)
 case atStart => exact ⟨0, by omega, rfl, Lib.hid rfl⟩
 case round =>
  obtain ⟨k, hk, rfl, hno⟩ := hrel
  by_cases hlt : k < l.length
  ·obtain ⟨b, off, -, rfl, q0⟩ := IntR.at_ h hlt
   have hs := contains_take l x k hlt
   rw [hno.out, Bool.false_or] at hs
   have i0 : (0 : Int) ≤ k := by omega
   have i1 : (k : Int) < l.length := by omega
   cases he : (l[k] == x)
   ·have HA := Lib.hid (hs.trans he)
    clear hs
    go_wp2
    go_round
    case rel => exact ⟨k + 1, by omega, by go_num, HA⟩
    case measure => simp [intOf]; omega
   ·have HA := Lib.hid (show hasB l x = true by
     have e : l[k] = x := by simpa using he
     unfold hasB; rw [List.contains_iff_mem]; exact e ▸ List.getElem_mem hlt)
    clear hs
    go_wp2
    go_ret
    exact ⟨retB HA.out.symm, rfl⟩
  ·have e : l.take k = l := List.take_of_length_le (by omega)
   have h1 := hno.out
   rw [e] at h1
   have HA := Lib.hid h1
   clear h1 e hno
   go_wp2
   go_ret
   exact ⟨retB HA.out.symm, rfl⟩
theorem Sl.drewN {α : Type} {R : Rd α} (hR : Stays R) {sz : Nat} {ok : Nat → Prop} {w : World} {A : Option Addr} {n : Nat} {ds : List α} (h : Sl R sz ok w A n ds) (m : Nat) : Sl R sz ok (w.drewN m) A n ds := h.stays hR (fun _ h => h) fun _ _ _ h => h
theorem below_drewN {B : Nat} {w w' : World} (h : Below B w w') (m : Nat) : Below B w (w'.drewN m) := ⟨h.os, h.tape, h.output, h.size, h.block⟩
theorem specInV {n lo hi : Int} {b : Bool} (h : (decide (lo ≤ n) && decide (n ≤ hi)) = b) (w : World) :
  Calls Tryz.prog 92 #[.int .i64 n, .int .i64 lo, .int .i64 hi] w fun e w' => e = .returned (.bool b) ∧ w' = w := (specIn n lo hi w).mono fun _ _ ⟨h1, h2⟩ => ⟨by rw [h1, h], h2.symm⟩
theorem specHasV {A : Option Addr} {n c : Nat} {l : List Int} {x : Int} {b : Bool} (hb : hasB l x = b) {ok : Nat → Prop} (w : World) (h : Sl IntR 1 ok w A n l) (hn : n ≤ 1048576) :
  Calls Tryz.prog 118 #[.slice A n c, .int .i64 x] w fun e w' => e = .returned (.bool b) ∧ w' = w := (specHas A n c l x ok w h hn).mono fun _ _ ⟨h1, h2⟩ => ⟨by rw [h1, hb], h2.symm⟩
set_option maxRecDepth 100000 in
set_option maxHeartbeats 1000000 in
theorem specCols (A : Option Addr) (n c : Nat) (l : List Int) (nc : Int) (ok : Nat → Prop) (w : World) (h : Sl IntR 1 ok w A n l) (hc : n ≤ c) (hn : n ≤ 1048576) (h0 : 0 ≤ nc) (h1 : nc ≤ 1048576) :
  Calls Tryz.prog 93 #[.slice A n c, .int .i64 nc] w fun e w' => e = .returned (.bool (colsInB l nc)) ∧ Below w.heap.size w w' := by
 obtain rfl : l.length = n := h.1
 have i2 : IntKind.i64.wrap (nc - 1) = nc - 1 := IntWalk.i64_in _ (by omega)
 go_enter Tryz.func93, Tryz.ntmps93
 go_wp2
 go_loopw [5] (fun i wr => ∃ k : Nat, k ≤ l.length ∧ i = .int .i64 k ∧ Hid (colsGo nc [] l = colsGo nc (l.take k) (l.drop k)) ∧ Below w.heap.size w wr) (fun i _ => l.length - (intOf i).toNat)
 case atStart => exact ⟨0, by omega, rfl, Lib.hid (by simp), Below.refl _ _⟩
 case round =>
  obtain ⟨k, hk, rfl, hgo, hb⟩ := hrel
  by_cases hlt : k < l.length
  ·have hw := h.below IntR.stays hb
   obtain ⟨b, off, -, rfl, q0⟩ := IntR.at_ hw hlt
   have ht := hw.take (m := k) (by omega)
   have hs := colsGo_at nc l k hlt
   have i0 : (0 : Int) ≤ k := by omega
   have i1 : (k : Int) < l.length := by omega
   have i3 : (k : Int) ≤ c := by omega
   cases hin : (decide (0 ≤ l[k]) && decide (l[k] ≤ nc - 1))
   ·have HI := Lib.hid hin
    have HF := Lib.hid (show colsInB l nc = false by
     unfold colsInB
     rw [hgo.out, hs, show (decide (0 ≤ l[k]) && decide (l[k] < nc)) = false by
      rw [← hin]; congr 1; rw [decide_eq_decide]; omega]
     simp)
    clear hs hin
    go_wp2_with fail
    go_quiet ((go_at_call 92; exact Calls.quiet_of_same (specInV HI.out _)))
    go_wp2
    go_ret
    exact ⟨retB HF.out.symm, below_drewN hb _⟩
   ·have HI := Lib.hid hin
    have hin2 : (decide (0 ≤ l[k]) && decide (l[k] < nc)) = true := by
     rw [← hin]; congr 1; rw [decide_eq_decide]; omega
    rw [hin2, Bool.true_and] at hs
    cases hhas : hasB (l.take k) l[k]
    ·rw [hhas] at hs
     have HH := Lib.hid hhas
     have HG := Lib.hid (hgo.out.trans hs)
     clear hs hin hhas hgo hin2
     go_wp2_with fail
     go_quiet ((first | (go_at_call 92; exact Calls.quiet_of_same (specInV HI.out _)) | (go_at_call 118; exact Calls.quiet_of_same (specHasV HH.out _ (ht.drewN IntR.stays _) (by omega)))))
     go_wp2
     go_roundw
     case rel => exact ⟨k + 1, by omega, by go_num, Lib.hid (by simpa using HG.out), below_drewN hb _⟩
     case measure => simp [intOf]; omega
    ·rw [hhas] at hs
     have HH := Lib.hid hhas
     have HF := Lib.hid (show colsInB l nc = false by unfold colsInB; rw [hgo.out, hs]; simp)
     clear hs hin hhas hgo hin2
     go_wp2_with fail
     go_quiet ((first | (go_at_call 92; exact Calls.quiet_of_same (specInV HI.out _)) | (go_at_call 118; exact Calls.quiet_of_same (specHasV HH.out _ (ht.drewN IntR.stays _) (by omega)))))
     go_wp2
     go_ret
     exact ⟨retB HF.out.symm, below_drewN hb _⟩
  ·have e1 : l.take k = l := List.take_of_length_le (by omega)
   have e2 : l.drop k = [] := List.drop_eq_nil_of_le (by omega)
   have hg := hgo.out
   rw [e1, e2] at hg
   have HA := Lib.hid (show colsInB l nc = decide (0 < l.length) by
    unfold colsInB; rw [hg]; simp [colsGo])
   clear hg e1 e2 hgo
   go_wp2
   go_ret
   exact ⟨retB HA.out.symm, hb⟩
def MetIn (w : World) (b n : Nat) (l : List Int) : Prop := ∃ D : DataW Unit, w.ownsMap Tryz.prog 2 (plainElem Tryz.prog 4) b n D ∧ IsMap D ∧ ∀ x : Int, D.atKey (.int .i64 x) (.lit (.bool false)) = .lit (.bool (hasB l x))
theorem MetIn.made (w : World) : MetIn (w.alloc (.map #[] 0)) w.heap.size 0 [] := ⟨.map [], World.ownsMap_made _ _ _ _, isMap_empty, fun x => by simp [DataW.atKey, hasB]⟩
theorem lawI : Keyed Tryz.prog 2 := int_keyed Tryz.underlying2
theorem zeroB' (w : World) : (zeroValue 4).run Tryz.prog w = .ok (.bool false) w := by kernel_rfl
theorem plainElem_bool_inv {P : Program} {e : TypeId} (he : P.underlying e = some .bool) {v : Value} {z : DataW Unit × List MemPlace} (h : plainElem P e v = some z) : ∃ x, v = .bool x ∧ z = (.lit (.bool x), []) := by
 unfold plainElem at h
 rw [he] at h
 cases v <;> simp at h
 exact ⟨_, rfl, h.symm⟩
theorem MetIn.look {w : World} {b n : Nat} {l : List Int} (h : MetIn w b n l) {x : Int} (hw : (Lit.int .i64 x).wf = true) : (Instr.lookup 175 (.map (some b)) (.int .i64 x) false).run Tryz.prog w = .ok (.bool (hasB l x)) w := by
 obtain ⟨D, h1, h2, h3⟩ := h
 obtain ⟨v, ps, hrun, hv⟩ := h1.lookup lawI Tryz.underlying175 (zeroB' w) (plainElem_bool Tryz.underlying4 false) (keyOf_int_mk Tryz.underlying2 hw)
 obtain ⟨y, rfl, hy⟩ := plainElem_bool_inv Tryz.underlying4 hv
 simp only [Prod.mk.injEq] at hy
 rw [h3 x] at hy
 have : hasB l x = y := by simpa using hy.1
 rw [this]; exact hrun
theorem implIsPlace (p nc : Int) (w : World) : Calls Tryz.prog 129 #[.int .i64 p, .int .i64 nc] w fun e w' => e = .returned (.bool (decide (0 ≤ p) && decide (p < nc))) ∧ w = w' := by
 by_cases h : 0 ≤ p
 ·go_enter Tryz.func129, Tryz.ntmps129
  go_wp2
  go_ret
  exact ⟨retB (by simp [h]), rfl⟩
 ·have h' : decide (0 ≤ p) = false := by simpa using h
  go_enter Tryz.func129, Tryz.ntmps129
  go_wp2
  go_ret
  exact ⟨retB (by simp), rfl⟩
theorem IsMap.key_int (x : Int) : WideAt.IsKeyLit (.int .i64 x) := by first | trivial | (simp [WideAt.IsKeyLit]) | (unfold WideAt.IsKeyLit; trivial)
set_option maxRecDepth 100000 in
set_option maxHeartbeats 1000000 in
theorem implAreColumns (A : Option Addr) (n c : Nat) (l : List Int) (nc : Nat) (ok : Nat → Prop) (w : World) (h : Sl IntR 1 ok w A n l) (hn : n ≤ 1048576) (h1 : nc ≤ 1048576) :
  Calls Tryz.prog 123 #[.slice A n c, .int .i64 nc] w fun e w' => e = .returned (.bool (colsInB l nc)) ∧ Below w.heap.size w w' := by
 obtain rfl : l.length = n := h.1
 by_cases hsm : (l.length : Int) < 1
 ·have HF := Lib.hid (show colsInB l nc = false by unfold colsInB; rw [decide_eq_false (p := 0 < l.length) (by omega), Bool.and_false])
  go_enter Tryz.func123, Tryz.ntmps123
  go_wp2
  go_ret
  exact ⟨retB HF.out.symm, Below.refl _ _⟩
 have hsm' : decide ((l.length : Int) < 1) = false := by simpa using hsm
 by_cases hbig : nc < l.length
 ·have HF := Lib.hid (show colsInB l nc = false by
   rw [Bool.eq_false_iff]; intro e
   have := (colsInB_len e).1; omega)
  have hbig' : decide ((nc : Int) < (l.length : Int)) = true := by simpa using hbig
  have hbig2 : decide (nc < l.length) = true := by simpa using hbig
  go_enter Tryz.func123, Tryz.ntmps123
  go_wp2
  go_ret
  exact ⟨retB HF.out.symm, Below.refl _ _⟩
 have hbig' : decide ((nc : Int) < (l.length : Int)) = false := by simpa using hbig
 have hbig2 : decide (nc < l.length) = false := by simpa using hbig
 have hmm := @run_makeMap Tryz.prog
 go_enter Tryz.func123, Tryz.ntmps123
 go_wp2
 have hm0 := MetIn.made w
 have hb0 := (Below.refl w.heap.size w).alloc (Nat.le_refl _) (.map #[] 0)
 generalize w.alloc (.map #[] 0) = x0 at *
 clear hmm
 go_loopw [20] (fun i wr => ∃ k : Nat, k ≤ l.length ∧ i = .int .i64 k ∧ MetIn wr w.heap.size k (l.take k) ∧ Hid (colsGo nc [] l = colsGo nc (l.take k) (l.drop k)) ∧ Below w.heap.size w wr) (fun i _ => l.length - (intOf i).toNat)
 case atStart => exact ⟨0, by omega, rfl, hm0, Lib.hid (by simp), hb0⟩
 case round =>
  obtain ⟨k, hk, rfl, hmet, hgo, hb⟩ := hrel
  by_cases hlt : k < l.length
  ·obtain ⟨b, off, -, rfl, q0⟩ := IntR.at_ (h.below IntR.stays hb) hlt
   have hs := colsGo_at nc l k hlt
   have i0 : (0 : Int) ≤ k := by omega
   have i1 : (k : Int) < l.length := by omega
   cases hin : (decide (0 ≤ l[k]) && decide (l[k] < nc))
   ·have HI := Lib.hid hin
    have HF := Lib.hid (show colsInB l nc = false by unfold colsInB; rw [hgo.out, hs, hin]; simp)
    clear hs hin
    go_wp2_with fail
    refine (implIsPlace _ _ _).mono ?_
    rintro e w1 ⟨rfl, rfl⟩
    rw [HI.out]
    go_wp2
    go_ret
    exact ⟨retB HF.out.symm, hb⟩
   ·have HI := Lib.hid hin
    have hwf : (Lit.int .i64 l[k]).wf = true := WalkArith.wf_i64 (by rw [Bool.and_eq_true, decide_eq_true_eq, decide_eq_true_eq] at hin; omega)
    have hlk := hmet.look hwf
    rw [hin, Bool.true_and] at hs
    cases hhas : hasB (l.take k) l[k]
    ·rw [hhas] at hs hlk
     have HG := Lib.hid (hgo.out.trans hs)
     have HH := Lib.hid hhas
     obtain ⟨D, m1, m2, m3⟩ := hmet
     have M3 := Lib.hid m3
     have hval := plainElem_bool (H := Unit) Tryz.underlying4 true
     clear hs hin hhas hgo m3
     go_wp2_with fail
     refine (implIsPlace _ _ _).mono ?_
     rintro e w1 ⟨rfl, rfl⟩
     rw [HI.out]
     go_wp2_with (first
      | (at_mapUpdate; refine wpList_mapUpdate_own _ rfl _ _ _ 175 rfl 2 4 lawI Tryz.underlying175 _ w.heap.size k D rfl m1 (by unfold maxLen; omega) _ _ _ rfl rfl (keyOf_int_mk Tryz.underlying2 hwf) _ [] hval ?_; intro w1 hown1 hgrow1))
     go_roundw
     case rel =>
      refine ⟨k + 1, by omega, by go_num, ⟨_, hown1, m2.put _ _, fun x => ?_⟩, Lib.hid (by simpa using HG.out), hb.grown hgrow1 hb.size (fun j hj => by cases hj; exact Nat.le_refl _)⟩
      rw [contains_take l x k hlt]
      by_cases e : (Lit.int .i64 x) = .int .i64 l[k]
      ·have e2 : x = l[k] := by injection e
       rw [e, Maps.atKey_put_same m2 (IsMap.key_int _), e2]
       simp
      ·rw [Maps.atKey_put_other e, M3.out x]
       have e2 : (l[k] == x) = false := by
        rw [beq_eq_false_iff_ne]; intro h; exact e (by rw [h])
       rw [e2, Bool.or_false]
     case measure => simp [intOf]; omega
    ·rw [hhas] at hs hlk
     have HF := Lib.hid (show colsInB l nc = false by unfold colsInB; rw [hgo.out, hs]; simp)
     clear hs hin hhas hgo
     go_wp2_with fail
     refine (implIsPlace _ _ _).mono ?_
     rintro e w1 ⟨rfl, rfl⟩
     rw [HI.out]
     go_wp2
     go_ret
     exact ⟨retB HF.out.symm, hb⟩
  ·have e1 : l.take k = l := List.take_of_length_le (by omega)
   have e2 : l.drop k = [] := List.drop_eq_nil_of_le (by omega)
   have hg := hgo.out
   rw [e1, e2] at hg
   have HA := Lib.hid (show colsInB l nc = true by unfold colsInB; rw [hg, decide_eq_true (by omega)]; rfl)
   clear hg e1 e2 hgo
   go_wp2
   go_ret
   exact ⟨retB HA.out.symm, hb⟩
def fitsB (k : Int) (v : Vl) : Bool := valOkB v.k v.n v.s && (v.k == 0 || v.k == k)
def colB (c : Cl) : Bool := nameB c.name && ((c.kind == 1 || c.kind == 2) && fitsB c.kind c.d)
def colsB (l : List Cl) : Bool := decide (1 ≤ l.length) && (decide (l.length ≤ 8) && (l.all colB && uniqGo [] (l.map Cl.name)))
def nnAt (cols : List Cl) (i : Int) : Bool := (cols[i.toNat]?.map Cl.nn).getD false
def keyB (cols : List Cl) (key : List Int) : Bool := colsInB key cols.length && key.all (nnAt cols)
def uqsB (cols : List Cl) (l : List Uq) : Bool := decide (l.length ≤ 3) && l.all (fun u => colsInB u.cols cols.length)
def cksB (cols : List Cl) (l : List Ck) : Bool := decide (l.length ≤ 3) && l.all (fun u => exprB u.expr cols.length)
def actB (a : Int) : Bool := a == 0 || (a == 1 || a == 2)
def fkB (n : Nat) (f : Fk) : Bool := colsInB f.cols n && (nameB f.table && (actB f.del && actB f.upd))
def fksB (cols : List Cl) (l : List Fk) : Bool := decide (l.length ≤ 3) && l.all (fkB cols.length)
def tableB (t : Tb) : Bool := nameB t.name && (colsB t.cols && (keyB t.cols t.key && (uqsB t.cols t.uniqs && (cksB t.cols t.checks && fksB t.cols t.fks))))
theorem implValFits (k : Int) (v : Vl) (w : World) :
  Calls Tryz.prog 128 #[.int .i64 k, .agg #[.int .i64 v.k, .int .i64 v.n, .string v.s]] w fun e w' => e = .returned (.bool (fitsB k v)) ∧ Below w.heap.size w w' := by
 have hb0 := (Below.refl w.heap.size w).alloc (Nat.le_refl _) (.cells #[.int .i64 v.k, .int .i64 v.n, .string v.s] 100)
 have r0 := Row.new w 100 #[.int .i64 v.k, .int .i64 v.n, .string v.s]
 unfold fitsB
 cases hok : valOkB v.k v.n v.s
 ·have HO := Lib.hid hok
  clear hok
  go_enter Tryz.func128, Tryz.ntmps128
  go_wp2_with fail
  refine (implValOk _ _ _ _).mono ?_
  rintro e w1 ⟨rfl, hb1⟩
  rw [HO.out]
  go_wp2
  go_ret
  exact ⟨rfl, hb0.trans (hb1.mono hb0.size)⟩
 ·have HO := Lib.hid hok
  clear hok
  by_cases h0 : v.k = 0
  ·have e0 : (v.k == 0) = true := by simpa using h0
   clear h0
   have HE := Lib.hid e0
   go_enter Tryz.func128, Tryz.ntmps128
   go_wp2_with fail
   refine (implValOk _ _ _ _).mono ?_
   rintro e w1 ⟨rfl, hb1⟩
   rw [HO.out]
   obtain ⟨⟨c0, c1, c2⟩, -⟩ := (r0.below hb1).three
   go_wp2
   go_ret
   exact ⟨retB (by rw [HE.out]; rfl), hb0.trans (hb1.mono hb0.size)⟩
  ·have e0 : (v.k == 0) = false := by simpa using h0
   clear h0
   have HE := Lib.hid e0
   go_enter Tryz.func128, Tryz.ntmps128
   go_wp2_with fail
   refine (implValOk _ _ _ _).mono ?_
   rintro e w1 ⟨rfl, hb1⟩
   rw [HO.out]
   obtain ⟨⟨c0, c1, c2⟩, -⟩ := (r0.below hb1).three
   go_wp2
   go_ret
   exact ⟨retB (by rw [HE.out]; rfl), hb0.trans (hb1.mono hb0.size)⟩
set_option maxRecDepth 100000 in
set_option maxHeartbeats 400000 in
theorem implColOk (x : Cl) (w : World) (hs : x.name.size ≤ maxLen) :
  Calls Tryz.prog 121 #[.agg #[.string x.name, .int .i64 x.kind, .bool x.nn, .int .i64 x.d.k, .int .i64 x.d.n, .string x.d.s]] w fun e w' => e = .returned (.bool (colB x)) ∧ Below w.heap.size w w' := by
 have hb0 := (Below.refl w.heap.size w).alloc (Nat.le_refl _) (.cells #[.string x.name, .int .i64 x.kind, .bool x.nn, .int .i64 x.d.k, .int .i64 x.d.n, .string x.d.s] 102)
 have HB := Lib.hid hb0
 unfold colB
 cases hn : nameB x.name
 ·have HN := Lib.hid hn
  clear hn
  go_enter Tryz.func121, Tryz.ntmps121
  go_wp2_with fail
  refine (implIsName _ _ hs).mono ?_
  rintro e w1 ⟨rfl, rfl⟩
  rw [HN.out]
  go_wp2
  go_ret
  exact ⟨rfl, HB.out⟩
 have HN := Lib.hid hn
 clear hn
 by_cases h1 : x.kind = 1
 ·have e1 : (x.kind == 1) = true := by simpa using h1
  have HE := Lib.hid e1
  clear h1
  go_enter Tryz.func121, Tryz.ntmps121
  go_wp2_with fail
  refine (implIsName _ _ hs).mono ?_
  rintro e w1 ⟨rfl, rfl⟩
  rw [HN.out]
  go_wp2_with fail
  refine (implValFits _ x.d _).mono ?_
  rintro e w1 ⟨rfl, hb1⟩
  go_wp2
  go_ret
  exact ⟨retB (by rw [HE.out]; rfl), HB.out.trans (hb1.mono HB.out.size)⟩
 have e1 : (x.kind == 1) = false := by simpa using h1
 by_cases h2 : x.kind = 2
 ·have e2 : (x.kind == 2) = true := by simpa using h2
  have HE := Lib.hid e1
  have HE2 := Lib.hid e2
  clear h1 h2
  go_enter Tryz.func121, Tryz.ntmps121
  go_wp2_with fail
  refine (implIsName _ _ hs).mono ?_
  rintro e w1 ⟨rfl, rfl⟩
  rw [HN.out]
  go_wp2_with fail
  refine (implValFits _ x.d _).mono ?_
  rintro e w1 ⟨rfl, hb1⟩
  go_wp2
  go_ret
  exact ⟨retB (by rw [HE.out, HE2.out]; rfl), HB.out.trans (hb1.mono HB.out.size)⟩
 ·have e2 : (x.kind == 2) = false := by simpa using h2
  have HE := Lib.hid e1
  have HE2 := Lib.hid e2
  clear h1 h2
  go_enter Tryz.func121, Tryz.ntmps121
  go_wp2_with fail
  refine (implIsName _ _ hs).mono ?_
  rintro e w1 ⟨rfl, rfl⟩
  rw [HN.out]
  go_wp2
  go_ret
  exact ⟨retB (by rw [HE.out, HE2.out]; rfl), HB.out⟩
theorem implAction (a : Int) (w : World) : Calls Tryz.prog 125 #[.int .i64 a] w fun e w' => e = .returned (.bool (actB a)) ∧ w = w' := by
 unfold actB
 by_cases h0 : a = 0
 ·subst h0
  go_enter Tryz.func125, Tryz.ntmps125
  go_wp2
  go_ret
  exact ⟨rfl, rfl⟩
 have e0 : (a == 0) = false := by simpa using h0
 by_cases h1 : a = 1
 ·subst h1
  go_enter Tryz.func125, Tryz.ntmps125
  go_wp2
  go_ret
  exact ⟨rfl, rfl⟩
 have e1 : (a == 1) = false := by simpa using h1
 have HE := Lib.hid e0
 have HE1 := Lib.hid e1
 go_enter Tryz.func125, Tryz.ntmps125
 go_wp2
 go_ret
 exact ⟨retB (by rw [HE.out, HE1.out]; rfl), rfl⟩
set_option maxRecDepth 100000 in
set_option maxHeartbeats 1000000 in
theorem implColsOk (A : Option Addr) (n c : Nat) (l : List Cl) (ok : Nat → Prop) (w : World) (h : Sl ClR 6 ok w A n l) (hs : szL Cl.sz l ≤ 1048576) :
  Calls Tryz.prog 100 #[.slice A n c] w fun e w' => e = .returned (.bool (colsB l)) ∧ Below w.heap.size w w' := by
 obtain rfl : l.length = n := h.1
 have hn : l.length ≤ 1048576 := by unfold szL at hs; omega
 have HS := Lib.hid hs
 clear hs
 by_cases h1 : (l.length : Int) < 1
 ·have HF := Lib.hid (show colsB l = false by unfold colsB; rw [decide_eq_false (p := 1 ≤ l.length) (by omega)]; rfl)
  go_enter Tryz.func100, Tryz.ntmps100
  go_wp2
  go_ret
  exact ⟨retB HF.out.symm, Below.refl _ _⟩
 have h1' : decide ((l.length : Int) < 1) = false := by simpa using h1
 by_cases h8 : 8 < (l.length : Int)
 ·have HF := Lib.hid (show colsB l = false by unfold colsB; rw [decide_eq_false (p := l.length ≤ 8) (by omega), Bool.false_and, Bool.and_false])
  go_enter Tryz.func100, Tryz.ntmps100
  go_wp2
  go_ret
  exact ⟨retB HF.out.symm, Below.refl _ _⟩
 have h8' : decide (8 < (l.length : Int)) = false := by simpa using h8
 have HLEN := Lib.hid (show decide (1 ≤ l.length) = true ∧ decide (l.length ≤ 8) = true from ⟨decide_eq_true (by omega), decide_eq_true (by omega)⟩)
 go_enter Tryz.func100, Tryz.ntmps100
 go_wp2
 go_loopw [15] (fun i wr => ∃ k : Nat, k ≤ l.length ∧ i = .int .i64 k ∧ Hid ((l.take k).all colB = true) ∧ Below w.heap.size w wr) (fun i _ => l.length - (intOf i).toNat)
 case atStart => exact ⟨0, by omega, rfl, Lib.hid (by simp), Below.refl _ _⟩
 case round =>
  obtain ⟨k, hk, rfl, hall, hb⟩ := hrel
  by_cases hlt : k < l.length
  ·obtain ⟨b, off, -, rfl, q0, q1, q2, q3, q4, q5⟩ := ClR.at_ (h.below ClR.stays hb) hlt
   have hsn := all_take colB l k hlt
   rw [hall.out, Bool.true_and] at hsn
   have HZ := Lib.hid (cl_name_le HS.out k hlt)
   have hba := hb.alloc hb.size (.cells #[.string l[k].name, .int .i64 l[k].kind, .bool l[k].nn, .int .i64 l[k].d.k, .int .i64 l[k].d.n, .string l[k].d.s] 102)
   cases hc : colB l[k]
   ·have HC := Lib.hid hc
    have HF := Lib.hid (show colsB l = false by unfold colsB; rw [all_no colB l k hlt hc]; simp)
    clear hsn hc hall
    go_wp2_with fail
    refine (implColOk _ _ HZ.out).mono ?_
    rintro e w1 ⟨rfl, hb1⟩
    rw [HC.out]
    go_wp2
    go_ret
    exact ⟨retB HF.out.symm, hba.trans (hb1.mono hba.size)⟩
   ·have HC := Lib.hid hc
    have HA := Lib.hid (hsn.trans hc)
    clear hsn hc hall
    go_wp2_with fail
    refine (implColOk _ _ HZ.out).mono ?_
    rintro e w1 ⟨rfl, hb1⟩
    rw [HC.out]
    go_wp2
    go_roundw
    case rel => exact ⟨k + 1, by omega, by go_num, HA, hba.trans (hb1.mono hba.size)⟩
    case measure => simp [intOf]; omega
  ·have e : l.take k = l := List.take_of_length_le (by omega)
   have h2 := hall.out
   rw [e] at h2
   have HA := Lib.hid h2
   have HF := Lib.hid (show colsB l = uniqGo [] (l.map Cl.name) by unfold colsB; rw [h2, HLEN.out.1, HLEN.out.2]; simp)
   clear h2 e hall
   go_wp2_with fail
   refine (implColPlaces A l.length c l ok _ (h.below ClR.stays hb) HS.out).mono ?_
   rintro e w1 ⟨bm, rfl, hp, hbb, hb1⟩
   obtain ⟨D, p1, p2, p3, p4, p5⟩ := hp
   have HU := Lib.hid (cntGo_uniq (l.map Cl.name) [])
   have HP := Lib.hid p5
   clear p3 p4 p5
   go_wp2_with (first | (at_len; refine wpList_len_own _ rfl _ 123 rfl 9 2 Tryz.underlying123 _ bm _ D rfl p1 ?_))
   go_ret
   refine ⟨retB ?_, hb.trans (hb1.mono hb.size)⟩
   rw [HF.out, ← HU.out, HP.out, Bool.eq_iff_iff]
   simp
   try omega
set_option maxRecDepth 100000 in
set_option maxHeartbeats 1000000 in
theorem implKeyOk (A1 A2 : Option Addr) (n1 c1 n2 c2 : Nat) (v0 v3 v4 v5 : Value) (cols : List Cl) (key : List Int) (ok : Nat → Prop) (w : World) (h : Sl ClR 6 ok w A1 n1 cols) (hk : Sl IntR 1 ok w A2 n2 key) (hn1 : n1 ≤ 1048576) (hn2 : n2 ≤ 1048576) :
  Calls Tryz.prog 101 #[.agg #[v0, .slice A1 n1 c1, .slice A2 n2 c2, v3, v4, v5]] w fun e w' => e = .returned (.bool (keyB cols key)) ∧ Below w.heap.size w w' := by
 obtain rfl : cols.length = n1 := h.1
 obtain rfl : key.length = n2 := hk.1
 have hb0 := (Below.refl w.heap.size w).alloc (Nat.le_refl _) (.cells #[v0, .slice A1 cols.length c1, .slice A2 key.length c2, v3, v4, v5] 53)
 have r0 := Row.new w 53 #[v0, .slice A1 cols.length c1, .slice A2 key.length c2, v3, v4, v5]
 cases hc : colsInB key cols.length
 ·have HC := Lib.hid hc
  clear hc
  go_enter Tryz.func101, Tryz.ntmps101
  go_wp2_with fail
  refine (implAreColumns A2 key.length c2 key cols.length ok _ (hk.below IntR.stays hb0) hn2 hn1).mono ?_
  rintro e w1 ⟨rfl, hb1⟩
  rw [HC.out]
  go_wp2
  go_ret
  exact ⟨retB (by unfold keyB; rw [HC.out]; rfl), hb0.trans (hb1.mono hb0.size)⟩
 have HIN := Lib.hid (colsInB_len hc).2
 have HC := Lib.hid hc
 clear hc
 go_enter Tryz.func101, Tryz.ntmps101
 go_wp2_with fail
 refine (implAreColumns A2 key.length c2 key cols.length ok _ (hk.below IntR.stays hb0) hn2 hn1).mono ?_
 rintro e w1 ⟨rfl, hb1⟩
 rw [HC.out]
 have hbb := hb0.trans (hb1.mono hb0.size)
 have r1 := r0.below hb1
 obtain ⟨⟨a0, a1, a2, a3, a4, a5⟩, -⟩ := r1.all6
 have h1' := h.below ClR.stays hbb
 have hk1 := hk.below IntR.stays hbb
 clear r0 r1
 go_wp2_with fail
 go_loop [15] (fun i => ∃ k : Nat, k ≤ key.length ∧ i = .int .i64 k ∧ Hid ((key.take k).all (nnAt cols) = true)) (fun i => key.length - (intOf i).toNat)
 case atStart => exact ⟨0, by omega, rfl, Lib.hid (by simp)⟩
 case round =>
  obtain ⟨k, hkk, rfl, hall⟩ := hrel
  by_cases hlt : k < key.length
  ·obtain ⟨b, off, -, rfl, q0⟩ := IntR.at_ hk1 hlt
   have hin := HIN.out _ (List.getElem_mem hlt)
   have hsn := all_take (nnAt cols) key k hlt
   rw [hall.out, Bool.true_and] at hsn
   have hno := fun hf => all_no (nnAt cols) key k hlt hf
   obtain ⟨j, hj⟩ : ∃ j : Nat, key[k] = (j : Int) := ⟨key[k].toNat, by omega⟩
   rw [hj] at q0 hsn hno hin
   have hjl : j < cols.length := by omega
   obtain ⟨b', off', -, rfl, p0, p1, p2, p3, p4, p5⟩ := ClR.at_ h1' hjl
   have hnn : nnAt cols j = cols[j].nn := by unfold nnAt; simp [List.getElem?_eq_getElem hjl]
   have i0 : (0 : Int) ≤ j := by omega
   have i1 : (j : Int) < cols.length := by omega
   cases hnb : cols[j].nn
   ·rw [hnb] at p2
    have HF := Lib.hid (show keyB cols key = false by unfold keyB; rw [hno (hnn.trans hnb), Bool.and_false])
    clear hsn hno hnn hnb hj hall
    go_wp2
    go_ret
    exact ⟨retB HF.out.symm, hbb⟩
   ·rw [hnb] at p2
    have HA := Lib.hid (hsn.trans (hnn.trans hnb))
    clear hsn hno hnn hnb hj hall
    go_wp2
    go_round
    case rel => exact ⟨k + 1, by omega, by go_num, HA⟩
    case measure => simp [intOf]; omega
  ·have e : key.take k = key := List.take_of_length_le (by omega)
   have h2 := hall.out
   rw [e] at h2
   have HF := Lib.hid (show keyB cols key = true by unfold keyB; rw [h2, HC.out]; rfl)
   clear h2 e hall
   go_wp2
   go_ret
   exact ⟨retB HF.out.symm, hbb⟩
set_option maxRecDepth 100000 in
set_option maxHeartbeats 1000000 in
theorem implUniquesOk (A1 AL : Option Addr) (n1 c1 nL cL : Nat) (v0 v2 v4 v5 : Value) (cols : List Cl) (l : List Uq) (ok : Nat → Prop) (w : World) (h : Sl ClR 6 ok w A1 n1 cols) (hl : Sl UqR 1 ok w AL nL l) (hn1 : n1 ≤ 1048576) (hs : szL Uq.sz l ≤ 1048576) :
  Calls Tryz.prog 102 #[.agg #[v0, .slice A1 n1 c1, v2, .slice AL nL cL, v4, v5]] w fun e w' => e = .returned (.bool (uqsB cols l)) ∧ Below w.heap.size w w' := by
 obtain rfl : cols.length = n1 := h.1
 obtain rfl : l.length = nL := hl.1
 have hn2 : l.length ≤ 1048576 := by unfold szL at hs; omega
 have HSZ := Lib.hid hs
 clear hs
 have hb0 := (Below.refl w.heap.size w).alloc (Nat.le_refl _) (.cells #[v0, .slice A1 cols.length c1, v2, .slice AL l.length cL, v4, v5] 53)
 have r0 := Row.new w 53 #[v0, .slice A1 cols.length c1, v2, .slice AL l.length cL, v4, v5]
 by_cases hbig : 3 < (l.length : Int)
 ·have HF := Lib.hid (show uqsB cols l = false by unfold uqsB; rw [decide_eq_false (by omega), Bool.false_and])
  go_enter Tryz.func102, Tryz.ntmps102
  go_wp2
  go_ret
  exact ⟨retB HF.out.symm, hb0⟩
 have hbig' : decide (3 < (l.length : Int)) = false := by simpa using hbig
 have H3 := Lib.hid (show decide (l.length ≤ 3) = true from decide_eq_true (by omega))
 go_enter Tryz.func102, Tryz.ntmps102
 go_wp2_with fail
 generalize w.alloc (.cells #[v0, .slice A1 cols.length c1, v2, .slice AL l.length cL, v4, v5] 53) = x0 at *
 go_loopw [12] (fun i wr => ∃ k : Nat, k ≤ l.length ∧ i = .int .i64 k ∧ Hid ((l.take k).all (fun u : Uq => colsInB u.cols cols.length) = true) ∧ Row wr w.heap.size 53 #[v0, .slice A1 cols.length c1, v2, .slice AL l.length cL, v4, v5] ∧ Below w.heap.size w wr) (fun i _ => l.length - (intOf i).toNat)
 case atStart => exact ⟨0, by omega, rfl, Lib.hid (by simp), r0, hb0⟩
 case round =>
  obtain ⟨k, hkk, rfl, hall, hr, hb⟩ := hrel
  obtain ⟨⟨a0, a1, a2, a3, a4, a5⟩, -⟩ := hr.all6
  by_cases hlt : k < l.length
  ·obtain ⟨b, off, A9, n9, c9, -, rfl, q0, s0, hcp⟩ := UqR.at_ (hl.below UqR.stays hb) hlt
   obtain rfl : l[k].cols.length = n9 := s0.1
   have hsn := all_take (fun u : Uq => colsInB u.cols cols.length) l k hlt
   rw [hall.out, Bool.true_and] at hsn
   have hno := fun hf => all_no (fun u : Uq => colsInB u.cols cols.length) l k hlt hf
   have hk9 : l[k].cols.length ≤ 1048576 := by have := HSZ.out; have := sum_mem_le Uq.sz l k hlt; unfold szL at *; simp only [Uq.sz] at *;  omega
   have HK9 := Lib.hid hk9
   clear hk9
   have hbx := (Below.refl wr.heap.size wr).alloc (Nat.le_refl _) (.cells #[.slice A9 l[k].cols.length c9] 74)
   have hba := hb.trans (hbx.mono hb.size)
   have s1 := s0.below IntR.stays hbx
   have hr1 := hr.below hbx
   obtain ⟨⟨d0, d1, d2, d3, d4, d5⟩, -⟩ := hr1.all6
   cases hc : colsInB l[k].cols cols.length
   ·have HC := Lib.hid hc
    have HF := Lib.hid (show uqsB cols l = false by unfold uqsB; rw [hno hc, Bool.and_false])
    clear hsn hno hc hall hr
    go_wp2_with fail
    refine (implAreColumns A9 l[k].cols.length c9 l[k].cols cols.length ok _ s1 HK9.out hn1).mono ?_
    rintro e w1 ⟨rfl, hb1⟩
    rw [HC.out]
    go_wp2
    go_ret
    exact ⟨retB HF.out.symm, hba.trans (hb1.mono hba.size)⟩
   ·have HC := Lib.hid hc
    have HA := Lib.hid (hsn.trans hc)
    clear hsn hno hc hall hr
    go_wp2_with fail
    refine (implAreColumns A9 l[k].cols.length c9 l[k].cols cols.length ok _ s1 HK9.out hn1).mono ?_
    rintro e w1 ⟨rfl, hb1⟩
    rw [HC.out]
    have hr2 := hr1.below hb1
    go_wp2
    go_roundw
    case rel => exact ⟨k + 1, by omega, by go_num, HA, hr2, hba.trans (hb1.mono hba.size)⟩
    case measure => simp [intOf]; omega
  ·have e : l.take k = l := List.take_of_length_le (by omega)
   have h2 := hall.out
   rw [e] at h2
   have HF := Lib.hid (show uqsB cols l = true by unfold uqsB; rw [h2, H3.out]; rfl)
   clear h2 e hall
   go_wp2
   go_ret
   exact ⟨retB HF.out.symm, hb⟩
set_option maxRecDepth 100000 in
set_option maxHeartbeats 1000000 in
theorem implChecksOk (A1 AL : Option Addr) (n1 c1 nL cL : Nat) (v0 v2 v3 v5 : Value) (cols : List Cl) (l : List Ck) (ok : Nat → Prop) (w : World) (h : Sl ClR 6 ok w A1 n1 cols) (hl : Sl CkR 1 ok w AL nL l) (hn1 : n1 ≤ 1048576) (hs : szL Ck.sz l ≤ 1048576) :
  Calls Tryz.prog 103 #[.agg #[v0, .slice A1 n1 c1, v2, v3, .slice AL nL cL, v5]] w fun e w' => e = .returned (.bool (cksB cols l)) ∧ Below w.heap.size w w' := by
 obtain rfl : cols.length = n1 := h.1
 obtain rfl : l.length = nL := hl.1
 have hn2 : l.length ≤ 1048576 := by unfold szL at hs; omega
 have HSZ := Lib.hid hs
 clear hs
 have hb0 := (Below.refl w.heap.size w).alloc (Nat.le_refl _) (.cells #[v0, .slice A1 cols.length c1, v2, v3, .slice AL l.length cL, v5] 53)
 have r0 := Row.new w 53 #[v0, .slice A1 cols.length c1, v2, v3, .slice AL l.length cL, v5]
 by_cases hbig : 3 < (l.length : Int)
 ·have HF := Lib.hid (show cksB cols l = false by unfold cksB; rw [decide_eq_false (by omega), Bool.false_and])
  go_enter Tryz.func103, Tryz.ntmps103
  go_wp2
  go_ret
  exact ⟨retB HF.out.symm, hb0⟩
 have hbig' : decide (3 < (l.length : Int)) = false := by simpa using hbig
 have H3 := Lib.hid (show decide (l.length ≤ 3) = true from decide_eq_true (by omega))
 go_enter Tryz.func103, Tryz.ntmps103
 go_wp2_with fail
 generalize w.alloc (.cells #[v0, .slice A1 cols.length c1, v2, v3, .slice AL l.length cL, v5] 53) = x0 at *
 go_loopw [12] (fun i wr => ∃ k : Nat, k ≤ l.length ∧ i = .int .i64 k ∧ Hid ((l.take k).all (fun u : Ck => exprB u.expr cols.length) = true) ∧ Row wr w.heap.size 53 #[v0, .slice A1 cols.length c1, v2, v3, .slice AL l.length cL, v5] ∧ Below w.heap.size w wr) (fun i _ => l.length - (intOf i).toNat)
 case atStart => exact ⟨0, by omega, rfl, Lib.hid (by simp), r0, hb0⟩
 case round =>
  obtain ⟨k, hkk, rfl, hall, hr, hb⟩ := hrel
  obtain ⟨⟨a0, a1, a2, a3, a4, a5⟩, -⟩ := hr.all6
  by_cases hlt : k < l.length
  ·obtain ⟨b, off, A9, n9, c9, -, rfl, q0, s0, hcp⟩ := CkR.at_ (hl.below CkR.stays hb) hlt
   obtain rfl : l[k].expr.length = n9 := s0.1
   have hsn := all_take (fun u : Ck => exprB u.expr cols.length) l k hlt
   rw [hall.out, Bool.true_and] at hsn
   have hno := fun hf => all_no (fun u : Ck => exprB u.expr cols.length) l k hlt hf
   have hk9 : l[k].expr.length ≤ 1048576 := by have := HSZ.out; have := sum_mem_le Ck.sz l k hlt; unfold szL at *; simp only [Ck.sz] at *; (try unfold szL at *); (try simp only at *); omega
   have HK9 := Lib.hid hk9
   clear hk9
   have hbx := (Below.refl wr.heap.size wr).alloc (Nat.le_refl _) (.cells #[.slice A9 l[k].expr.length c9] 78)
   have hba := hb.trans (hbx.mono hb.size)
   have s1 := s0.below TkR.stays hbx
   have hr1 := hr.below hbx
   obtain ⟨⟨d0, d1, d2, d3, d4, d5⟩, -⟩ := hr1.all6
   cases hc : exprB l[k].expr cols.length
   ·have HC := Lib.hid hc
    have HF := Lib.hid (show cksB cols l = false by unfold cksB; rw [hno hc, Bool.and_false])
    clear hsn hno hc hall hr
    go_wp2_with fail
    refine (implExprOk A9 l[k].expr.length c9 l[k].expr cols.length _ (Sl.cellz (fun _ => rfl) s1) (by have := HK9.out; unfold maxLen; omega)).mono ?_
    rintro e w1 ⟨rfl, hb1⟩
    rw [HC.out]
    go_wp2
    go_ret
    exact ⟨retB HF.out.symm, hba.trans (hb1.mono hba.size)⟩
   ·have HC := Lib.hid hc
    have HA := Lib.hid (hsn.trans hc)
    clear hsn hno hc hall hr
    go_wp2_with fail
    refine (implExprOk A9 l[k].expr.length c9 l[k].expr cols.length _ (Sl.cellz (fun _ => rfl) s1) (by have := HK9.out; unfold maxLen; omega)).mono ?_
    rintro e w1 ⟨rfl, hb1⟩
    rw [HC.out]
    have hr2 := hr1.below hb1
    go_wp2
    go_roundw
    case rel => exact ⟨k + 1, by omega, by go_num, HA, hr2, hba.trans (hb1.mono hba.size)⟩
    case measure => simp [intOf]; omega
  ·have e : l.take k = l := List.take_of_length_le (by omega)
   have h2 := hall.out
   rw [e] at h2
   have HF := Lib.hid (show cksB cols l = true by unfold cksB; rw [h2, H3.out]; rfl)
   clear h2 e hall
   go_wp2
   go_ret
   exact ⟨retB HF.out.symm, hb⟩
set_option maxRecDepth 100000 in
set_option maxHeartbeats 1000000 in
theorem implFksOk (A1 AL : Option Addr) (n1 c1 nL cL : Nat) (v0 v2 v3 v4 : Value) (cols : List Cl) (l : List Fk) (ok : Nat → Prop) (w : World) (h : Sl ClR 6 ok w A1 n1 cols) (hl : Sl FkR 5 ok w AL nL l) (hn1 : n1 ≤ 1048576) (hs : szL Fk.sz l ≤ 1048576) :
  Calls Tryz.prog 104 #[.agg #[v0, .slice A1 n1 c1, v2, v3, v4, .slice AL nL cL]] w fun e w' => e = .returned (.bool (fksB cols l)) ∧ Below w.heap.size w w' := by
 obtain rfl : cols.length = n1 := h.1
 obtain rfl : l.length = nL := hl.1
 have hn2 : l.length ≤ 1048576 := by unfold szL at hs; omega
 have HSZ := Lib.hid hs
 clear hs
 have hb0 := (Below.refl w.heap.size w).alloc (Nat.le_refl _) (.cells #[v0, .slice A1 cols.length c1, v2, v3, v4, .slice AL l.length cL] 53)
 have r0 := Row.new w 53 #[v0, .slice A1 cols.length c1, v2, v3, v4, .slice AL l.length cL]
 by_cases hbig : 3 < (l.length : Int)
 ·have HF := Lib.hid (show fksB cols l = false by unfold fksB; rw [decide_eq_false (by omega), Bool.false_and])
  go_enter Tryz.func104, Tryz.ntmps104
  go_wp2
  go_ret
  exact ⟨retB HF.out.symm, hb0⟩
 have hbig' : decide (3 < (l.length : Int)) = false := by simpa using hbig
 have H3 := Lib.hid (show decide (l.length ≤ 3) = true from decide_eq_true (by omega))
 go_enter Tryz.func104, Tryz.ntmps104
 go_wp2_with fail
 generalize w.alloc (.cells #[v0, .slice A1 cols.length c1, v2, v3, v4, .slice AL l.length cL] 53) = x0 at *
 go_loopw [12] (fun i wr => ∃ k : Nat, k ≤ l.length ∧ i = .int .i64 k ∧ Hid ((l.take k).all (fkB cols.length) = true) ∧ Row wr w.heap.size 53 #[v0, .slice A1 cols.length c1, v2, v3, v4, .slice AL l.length cL] ∧ Below w.heap.size w wr) (fun i _ => l.length - (intOf i).toNat)
 case atStart => exact ⟨0, by omega, rfl, Lib.hid (by simp), r0, hb0⟩
 case round =>
  obtain ⟨k, hkk, rfl, hall, hr, hb⟩ := hrel
  obtain ⟨⟨a0, a1, a2, a3, a4, a5⟩, -⟩ := hr.all6
  by_cases hlt : k < l.length
  ·obtain ⟨b, off, A9, n9, c9, -, rfl, q0, q1, q2, q3, q4, s0, hcp⟩ := FkR.at_ (hl.below FkR.stays hb) hlt
   obtain rfl : l[k].cols.length = n9 := s0.1
   have hsn := all_take (fkB cols.length) l k hlt
   rw [hall.out, Bool.true_and] at hsn
   have hno := fun hf => all_no (fkB cols.length) l k hlt hf
   obtain ⟨hk9, hk8⟩ : l[k].cols.length ≤ 1048576 ∧ l[k].table.size ≤ 1048576 := by have := HSZ.out; have := sum_mem_le Fk.sz l k hlt; unfold szL at *; simp only [Fk.sz] at *; omega
   have HK9 := Lib.hid hk9
   have HK8 := Lib.hid (show l[k].table.size ≤ maxLen by unfold maxLen; omega)
   clear hk9 hk8
   have hbx := (Below.refl wr.heap.size wr).alloc (Nat.le_refl _) (.cells #[.slice A9 l[k].cols.length c9, .string l[k].table, .int .i64 l[k].del, .int .i64 l[k].upd, .bool l[k].dfr] 80)
   have hba := hb.trans (hbx.mono hb.size)
   have s1 := s0.below IntR.stays hbx
   have hr1 := hr.below hbx
   have rf := Row.new wr 80 #[.slice A9 l[k].cols.length c9, .string l[k].table, .int .i64 l[k].del, .int .i64 l[k].upd, .bool l[k].dfr]
   obtain ⟨⟨d0, d1, d2, d3, d4, d5⟩, -⟩ := hr1.all6
   have hcall := fun (w' : World) (hw : Sl IntR 1 ok w' A9 l[k].cols.length l[k].cols) => implAreColumns A9 l[k].cols.length c9 l[k].cols cols.length ok w' hw HK9.out hn1
   cases hc : colsInB l[k].cols cols.length
   ·have HC := Lib.hid hc
    have HF := Lib.hid (show fksB cols l = false by unfold fksB; rw [hno (by unfold fkB; rw [hc]; rfl), Bool.and_false])
    clear hsn hno hc hall hr
    go_wp2_with fail
    refine (hcall _ s1).mono ?_
    rintro e w1 ⟨rfl, hb1⟩
    rw [HC.out]
    clear hcall
    go_wp2
    go_ret
    exact ⟨retB HF.out.symm, hba.trans (hb1.mono hba.size)⟩
   have HC := Lib.hid hc
   cases hnm : nameB l[k].table
   ·have HN := Lib.hid hnm
    have HF := Lib.hid (show fksB cols l = false by unfold fksB; rw [hno (by unfold fkB; rw [hc, hnm]; rfl), Bool.and_false])
    clear hsn hno hc hall hr hnm
    go_wp2_with fail
    refine (hcall _ s1).mono ?_
    rintro e w1 ⟨rfl, hb1⟩
    rw [HC.out]
    clear hcall
    obtain ⟨⟨f0, f1, f2, f3, f4⟩, -⟩ := (rf.below hb1).five
    go_wp2_with fail
    refine (implIsName _ _ HK8.out).mono ?_
    rintro e w2 ⟨rfl, rfl⟩
    rw [HN.out]
    go_wp2
    go_ret
    exact ⟨retB HF.out.symm, hba.trans (hb1.mono hba.size)⟩
   have HN := Lib.hid hnm
   cases hd : actB l[k].del
   ·have HD := Lib.hid hd
    have HF := Lib.hid (show fksB cols l = false by unfold fksB; rw [hno (by unfold fkB; rw [hc, hnm, hd]; rfl), Bool.and_false])
    clear hsn hno hc hall hr hnm hd
    go_wp2_with fail
    refine (hcall _ s1).mono ?_
    rintro e w1 ⟨rfl, hb1⟩
    rw [HC.out]
    clear hcall
    obtain ⟨⟨f0, f1, f2, f3, f4⟩, -⟩ := (rf.below hb1).five
    go_wp2_with fail
    refine (implIsName _ _ HK8.out).mono ?_
    rintro e w2 ⟨rfl, rfl⟩
    rw [HN.out]
    go_wp2_with fail
    refine (implAction _ _).mono ?_
    rintro e w2 ⟨rfl, rfl⟩
    rw [HD.out]
    go_wp2
    go_ret
    exact ⟨retB HF.out.symm, hba.trans (hb1.mono hba.size)⟩
   have HD := Lib.hid hd
   cases hu : actB l[k].upd
   ·have HU := Lib.hid hu
    have HF := Lib.hid (show fksB cols l = false by unfold fksB; rw [hno (by unfold fkB; rw [hc, hnm, hd, hu]; rfl), Bool.and_false])
    clear hsn hno hc hall hr hnm hd hu
    go_wp2_with fail
    refine (hcall _ s1).mono ?_
    rintro e w1 ⟨rfl, hb1⟩
    rw [HC.out]
    clear hcall
    obtain ⟨⟨f0, f1, f2, f3, f4⟩, -⟩ := (rf.below hb1).five
    go_wp2_with fail
    refine (implIsName _ _ HK8.out).mono ?_
    rintro e w2 ⟨rfl, rfl⟩
    rw [HN.out]
    go_wp2_with fail
    refine (implAction _ _).mono ?_
    rintro e w2 ⟨rfl, rfl⟩
    rw [HD.out]
    go_wp2_with fail
    refine (implAction _ _).mono ?_
    rintro e w2 ⟨rfl, rfl⟩
    rw [HU.out]
    go_wp2
    go_ret
    exact ⟨retB HF.out.symm, hba.trans (hb1.mono hba.size)⟩
   ·have HU := Lib.hid hu
    have HA := Lib.hid (hsn.trans (show fkB cols.length l[k] = true by unfold fkB; rw [hc, hnm, hd, hu]; rfl))
    clear hsn hno hc hall hr hnm hd hu
    go_wp2_with fail
    refine (hcall _ s1).mono ?_
    rintro e w1 ⟨rfl, hb1⟩
    rw [HC.out]
    clear hcall
    obtain ⟨⟨f0, f1, f2, f3, f4⟩, -⟩ := (rf.below hb1).five
    go_wp2_with fail
    refine (implIsName _ _ HK8.out).mono ?_
    rintro e w2 ⟨rfl, rfl⟩
    rw [HN.out]
    go_wp2_with fail
    refine (implAction _ _).mono ?_
    rintro e w2 ⟨rfl, rfl⟩
    rw [HD.out]
    go_wp2_with fail
    refine (implAction _ _).mono ?_
    rintro e w2 ⟨rfl, rfl⟩
    rw [HU.out]
    have hr2 := hr1.below hb1
    go_wp2
    go_roundw
    case rel => exact ⟨k + 1, by omega, by go_num, HA, hr2, hba.trans (hb1.mono hba.size)⟩
    case measure => simp [intOf]; omega
  ·have e : l.take k = l := List.take_of_length_le (by omega)
   have h2 := hall.out
   rw [e] at h2
   have HF := Lib.hid (show fksB cols l = true by unfold fksB; rw [h2, H3.out]; rfl)
   clear h2 e hall
   go_wp2
   go_ret
   exact ⟨retB HF.out.symm, hb⟩
set_option maxRecDepth 100000 in
set_option maxHeartbeats 1000000 in
theorem implTableOk (x : Tb) (A1 : Option Addr) (n1 c1 : Nat) (A2 : Option Addr) (n2 c2 : Nat) (A3 : Option Addr) (n3 c3 : Nat) (A4 : Option Addr) (n4 c4 : Nat) (A5 : Option Addr) (n5 c5 : Nat) (ok : Nat → Prop) (w : World)
  (h1 : Sl ClR 6 ok w A1 n1 x.cols) (h2 : Sl IntR 1 ok w A2 n2 x.key) (h3 : Sl UqR 1 ok w A3 n3 x.uniqs) (h4 : Sl CkR 1 ok w A4 n4 x.checks) (h5 : Sl FkR 5 ok w A5 n5 x.fks) (hs : x.sz ≤ 1048576) :
  Calls Tryz.prog 74 #[.agg #[.string x.name, .slice A1 n1 c1, .slice A2 n2 c2, .slice A3 n3 c3, .slice A4 n4 c4, .slice A5 n5 c5]] w fun e w' => e = .returned (.bool (tableB x)) ∧ Below w.heap.size w w' := by
 have e1 := h1.1
 have e2 := h2.1
 have HNM := Lib.hid (show x.name.size ≤ maxLen by unfold Tb.sz at hs; unfold maxLen; omega)
 have HS1 := Lib.hid (show szL Cl.sz x.cols ≤ 1048576 by unfold Tb.sz at hs; omega)
 have HS3 := Lib.hid (show szL Uq.sz x.uniqs ≤ 1048576 by unfold Tb.sz at hs; omega)
 have HS4 := Lib.hid (show szL Ck.sz x.checks ≤ 1048576 by unfold Tb.sz at hs; omega)
 have HS5 := Lib.hid (show szL Fk.sz x.fks ≤ 1048576 by unfold Tb.sz at hs; omega)
 have HL1 := Lib.hid (show n1 ≤ 1048576 by unfold Tb.sz szL at hs; omega)
 have HL2 := Lib.hid (show n2 ≤ 1048576 by unfold Tb.sz szL at hs; omega)
 clear e1 e2 hs
 have hb0 := (Below.refl w.heap.size w).alloc (Nat.le_refl _) (.cells #[.string x.name, .slice A1 n1 c1, .slice A2 n2 c2, .slice A3 n3 c3, .slice A4 n4 c4, .slice A5 n5 c5] 53)
 have r0 := Row.new w 53 #[.string x.name, .slice A1 n1 c1, .slice A2 n2 c2, .slice A3 n3 c3, .slice A4 n4 c4, .slice A5 n5 c5]
 cases hN : nameB x.name
 ·have HN := Lib.hid hN
  clear hN
  go_enter Tryz.func74, Tryz.ntmps74
  go_wp2_with fail
  refine (implIsName _ _ HNM.out).mono ?_
  rintro e w1 ⟨rfl, rfl⟩
  rw [HN.out]
  go_wp2_with fail
  go_ret
  exact ⟨retB (by unfold tableB; rw [HN.out]; rfl), hb0⟩
 have HN := Lib.hid hN
 clear hN
 cases hC : colsB x.cols
 ·have HC := Lib.hid hC
  clear hC
  go_enter Tryz.func74, Tryz.ntmps74
  go_wp2_with fail
  refine (implIsName _ _ HNM.out).mono ?_
  rintro e w1 ⟨rfl, rfl⟩
  rw [HN.out]
  go_wp2_with fail
  refine (implColsOk A1 n1 c1 x.cols ok _ (h1.below ClR.stays hb0) HS1.out).mono ?_
  rintro e w2 ⟨rfl, hq2⟩
  have hb2 := hb0.trans (hq2.mono hb0.size)
  have r2 := r0.below hq2
  obtain ⟨⟨x2_0, x2_1, x2_2, x2_3, x2_4, x2_5⟩, -⟩ := r2.all6
  rw [HC.out]
  go_wp2_with fail
  go_ret
  exact ⟨retB (by unfold tableB; rw [HN.out, HC.out]; rfl), hb2⟩
 have HC := Lib.hid hC
 clear hC
 cases hK : keyB x.cols x.key
 ·have HK := Lib.hid hK
  clear hK
  go_enter Tryz.func74, Tryz.ntmps74
  go_wp2_with fail
  refine (implIsName _ _ HNM.out).mono ?_
  rintro e w1 ⟨rfl, rfl⟩
  rw [HN.out]
  go_wp2_with fail
  refine (implColsOk A1 n1 c1 x.cols ok _ (h1.below ClR.stays hb0) HS1.out).mono ?_
  rintro e w2 ⟨rfl, hq2⟩
  have hb2 := hb0.trans (hq2.mono hb0.size)
  have r2 := r0.below hq2
  obtain ⟨⟨x2_0, x2_1, x2_2, x2_3, x2_4, x2_5⟩, -⟩ := r2.all6
  rw [HC.out]
  go_wp2_with fail
  refine (implKeyOk A1 A2 n1 c1 n2 c2 _ _ _ _ x.cols x.key ok _ (h1.below ClR.stays hb2) (h2.below IntR.stays hb2) HL1.out HL2.out).mono ?_
  rintro e w3 ⟨rfl, hq3⟩
  have hb3 := hb2.trans (hq3.mono hb2.size)
  have r3 := r2.below hq3
  obtain ⟨⟨x3_0, x3_1, x3_2, x3_3, x3_4, x3_5⟩, -⟩ := r3.all6
  rw [HK.out]
  go_wp2_with fail
  go_ret
  exact ⟨retB (by unfold tableB; rw [HN.out, HC.out, HK.out]; rfl), hb3⟩
 have HK := Lib.hid hK
 clear hK
 cases hU : uqsB x.cols x.uniqs
 ·have HU := Lib.hid hU
  clear hU
  go_enter Tryz.func74, Tryz.ntmps74
  go_wp2_with fail
  refine (implIsName _ _ HNM.out).mono ?_
  rintro e w1 ⟨rfl, rfl⟩
  rw [HN.out]
  go_wp2_with fail
  refine (implColsOk A1 n1 c1 x.cols ok _ (h1.below ClR.stays hb0) HS1.out).mono ?_
  rintro e w2 ⟨rfl, hq2⟩
  have hb2 := hb0.trans (hq2.mono hb0.size)
  have r2 := r0.below hq2
  obtain ⟨⟨x2_0, x2_1, x2_2, x2_3, x2_4, x2_5⟩, -⟩ := r2.all6
  rw [HC.out]
  go_wp2_with fail
  refine (implKeyOk A1 A2 n1 c1 n2 c2 _ _ _ _ x.cols x.key ok _ (h1.below ClR.stays hb2) (h2.below IntR.stays hb2) HL1.out HL2.out).mono ?_
  rintro e w3 ⟨rfl, hq3⟩
  have hb3 := hb2.trans (hq3.mono hb2.size)
  have r3 := r2.below hq3
  obtain ⟨⟨x3_0, x3_1, x3_2, x3_3, x3_4, x3_5⟩, -⟩ := r3.all6
  rw [HK.out]
  go_wp2_with fail
  refine (implUniquesOk A1 A3 n1 c1 n3 c3 _ _ _ _ x.cols x.uniqs ok _ (h1.below ClR.stays hb3) (h3.below UqR.stays hb3) HL1.out HS3.out).mono ?_
  rintro e w4 ⟨rfl, hq4⟩
  have hb4 := hb3.trans (hq4.mono hb3.size)
  have r4 := r3.below hq4
  obtain ⟨⟨x4_0, x4_1, x4_2, x4_3, x4_4, x4_5⟩, -⟩ := r4.all6
  rw [HU.out]
  go_wp2_with fail
  go_ret
  exact ⟨retB (by unfold tableB; rw [HN.out, HC.out, HK.out, HU.out]; rfl), hb4⟩
 have HU := Lib.hid hU
 clear hU
 cases hE : cksB x.cols x.checks
 ·have HE := Lib.hid hE
  clear hE
  go_enter Tryz.func74, Tryz.ntmps74
  go_wp2_with fail
  refine (implIsName _ _ HNM.out).mono ?_
  rintro e w1 ⟨rfl, rfl⟩
  rw [HN.out]
  go_wp2_with fail
  refine (implColsOk A1 n1 c1 x.cols ok _ (h1.below ClR.stays hb0) HS1.out).mono ?_
  rintro e w2 ⟨rfl, hq2⟩
  have hb2 := hb0.trans (hq2.mono hb0.size)
  have r2 := r0.below hq2
  obtain ⟨⟨x2_0, x2_1, x2_2, x2_3, x2_4, x2_5⟩, -⟩ := r2.all6
  rw [HC.out]
  go_wp2_with fail
  refine (implKeyOk A1 A2 n1 c1 n2 c2 _ _ _ _ x.cols x.key ok _ (h1.below ClR.stays hb2) (h2.below IntR.stays hb2) HL1.out HL2.out).mono ?_
  rintro e w3 ⟨rfl, hq3⟩
  have hb3 := hb2.trans (hq3.mono hb2.size)
  have r3 := r2.below hq3
  obtain ⟨⟨x3_0, x3_1, x3_2, x3_3, x3_4, x3_5⟩, -⟩ := r3.all6
  rw [HK.out]
  go_wp2_with fail
  refine (implUniquesOk A1 A3 n1 c1 n3 c3 _ _ _ _ x.cols x.uniqs ok _ (h1.below ClR.stays hb3) (h3.below UqR.stays hb3) HL1.out HS3.out).mono ?_
  rintro e w4 ⟨rfl, hq4⟩
  have hb4 := hb3.trans (hq4.mono hb3.size)
  have r4 := r3.below hq4
  obtain ⟨⟨x4_0, x4_1, x4_2, x4_3, x4_4, x4_5⟩, -⟩ := r4.all6
  rw [HU.out]
  go_wp2_with fail
  refine (implChecksOk A1 A4 n1 c1 n4 c4 _ _ _ _ x.cols x.checks ok _ (h1.below ClR.stays hb4) (h4.below CkR.stays hb4) HL1.out HS4.out).mono ?_
  rintro e w5 ⟨rfl, hq5⟩
  have hb5 := hb4.trans (hq5.mono hb4.size)
  have r5 := r4.below hq5
  obtain ⟨⟨x5_0, x5_1, x5_2, x5_3, x5_4, x5_5⟩, -⟩ := r5.all6
  rw [HE.out]
  go_wp2_with fail
  go_ret
  exact ⟨retB (by unfold tableB; rw [HN.out, HC.out, HK.out, HU.out, HE.out]; rfl), hb5⟩
 have HE := Lib.hid hE
 clear hE
 cases hF : fksB x.cols x.fks
 ·have HF := Lib.hid hF
  clear hF
  go_enter Tryz.func74, Tryz.ntmps74
  go_wp2_with fail
  refine (implIsName _ _ HNM.out).mono ?_
  rintro e w1 ⟨rfl, rfl⟩
  rw [HN.out]
  go_wp2_with fail
  refine (implColsOk A1 n1 c1 x.cols ok _ (h1.below ClR.stays hb0) HS1.out).mono ?_
  rintro e w2 ⟨rfl, hq2⟩
  have hb2 := hb0.trans (hq2.mono hb0.size)
  have r2 := r0.below hq2
  obtain ⟨⟨x2_0, x2_1, x2_2, x2_3, x2_4, x2_5⟩, -⟩ := r2.all6
  rw [HC.out]
  go_wp2_with fail
  refine (implKeyOk A1 A2 n1 c1 n2 c2 _ _ _ _ x.cols x.key ok _ (h1.below ClR.stays hb2) (h2.below IntR.stays hb2) HL1.out HL2.out).mono ?_
  rintro e w3 ⟨rfl, hq3⟩
  have hb3 := hb2.trans (hq3.mono hb2.size)
  have r3 := r2.below hq3
  obtain ⟨⟨x3_0, x3_1, x3_2, x3_3, x3_4, x3_5⟩, -⟩ := r3.all6
  rw [HK.out]
  go_wp2_with fail
  refine (implUniquesOk A1 A3 n1 c1 n3 c3 _ _ _ _ x.cols x.uniqs ok _ (h1.below ClR.stays hb3) (h3.below UqR.stays hb3) HL1.out HS3.out).mono ?_
  rintro e w4 ⟨rfl, hq4⟩
  have hb4 := hb3.trans (hq4.mono hb3.size)
  have r4 := r3.below hq4
  obtain ⟨⟨x4_0, x4_1, x4_2, x4_3, x4_4, x4_5⟩, -⟩ := r4.all6
  rw [HU.out]
  go_wp2_with fail
  refine (implChecksOk A1 A4 n1 c1 n4 c4 _ _ _ _ x.cols x.checks ok _ (h1.below ClR.stays hb4) (h4.below CkR.stays hb4) HL1.out HS4.out).mono ?_
  rintro e w5 ⟨rfl, hq5⟩
  have hb5 := hb4.trans (hq5.mono hb4.size)
  have r5 := r4.below hq5
  obtain ⟨⟨x5_0, x5_1, x5_2, x5_3, x5_4, x5_5⟩, -⟩ := r5.all6
  rw [HE.out]
  go_wp2_with fail
  refine (implFksOk A1 A5 n1 c1 n5 c5 _ _ _ _ x.cols x.fks ok _ (h1.below ClR.stays hb5) (h5.below FkR.stays hb5) HL1.out HS5.out).mono ?_
  rintro e w6 ⟨rfl, hq6⟩
  have hb6 := hb5.trans (hq6.mono hb5.size)
  have r6 := r5.below hq6
  obtain ⟨⟨x6_0, x6_1, x6_2, x6_3, x6_4, x6_5⟩, -⟩ := r6.all6
  rw [HF.out]
  go_wp2_with fail
  go_ret
  exact ⟨retB (by unfold tableB; rw [HN.out, HC.out, HK.out, HU.out, HE.out, HF.out]; rfl), hb6⟩
 have HF := Lib.hid hF
 clear hF
 go_enter Tryz.func74, Tryz.ntmps74
 go_wp2_with fail
 refine (implIsName _ _ HNM.out).mono ?_
 rintro e w1 ⟨rfl, rfl⟩
 rw [HN.out]
 go_wp2_with fail
 refine (implColsOk A1 n1 c1 x.cols ok _ (h1.below ClR.stays hb0) HS1.out).mono ?_
 rintro e w2 ⟨rfl, hq2⟩
 have hb2 := hb0.trans (hq2.mono hb0.size)
 have r2 := r0.below hq2
 obtain ⟨⟨x2_0, x2_1, x2_2, x2_3, x2_4, x2_5⟩, -⟩ := r2.all6
 rw [HC.out]
 go_wp2_with fail
 refine (implKeyOk A1 A2 n1 c1 n2 c2 _ _ _ _ x.cols x.key ok _ (h1.below ClR.stays hb2) (h2.below IntR.stays hb2) HL1.out HL2.out).mono ?_
 rintro e w3 ⟨rfl, hq3⟩
 have hb3 := hb2.trans (hq3.mono hb2.size)
 have r3 := r2.below hq3
 obtain ⟨⟨x3_0, x3_1, x3_2, x3_3, x3_4, x3_5⟩, -⟩ := r3.all6
 rw [HK.out]
 go_wp2_with fail
 refine (implUniquesOk A1 A3 n1 c1 n3 c3 _ _ _ _ x.cols x.uniqs ok _ (h1.below ClR.stays hb3) (h3.below UqR.stays hb3) HL1.out HS3.out).mono ?_
 rintro e w4 ⟨rfl, hq4⟩
 have hb4 := hb3.trans (hq4.mono hb3.size)
 have r4 := r3.below hq4
 obtain ⟨⟨x4_0, x4_1, x4_2, x4_3, x4_4, x4_5⟩, -⟩ := r4.all6
 rw [HU.out]
 go_wp2_with fail
 refine (implChecksOk A1 A4 n1 c1 n4 c4 _ _ _ _ x.cols x.checks ok _ (h1.below ClR.stays hb4) (h4.below CkR.stays hb4) HL1.out HS4.out).mono ?_
 rintro e w5 ⟨rfl, hq5⟩
 have hb5 := hb4.trans (hq5.mono hb4.size)
 have r5 := r4.below hq5
 obtain ⟨⟨x5_0, x5_1, x5_2, x5_3, x5_4, x5_5⟩, -⟩ := r5.all6
 rw [HE.out]
 go_wp2_with fail
 refine (implFksOk A1 A5 n1 c1 n5 c5 _ _ _ _ x.cols x.fks ok _ (h1.below ClR.stays hb5) (h5.below FkR.stays hb5) HL1.out HS5.out).mono ?_
 rintro e w6 ⟨rfl, hq6⟩
 have hb6 := hb5.trans (hq6.mono hb5.size)
 have r6 := r5.below hq6
 obtain ⟨⟨x6_0, x6_1, x6_2, x6_3, x6_4, x6_5⟩, -⟩ := r6.all6
 rw [HF.out]
 go_wp2_with fail
 go_ret
 exact ⟨retB (by unfold tableB; rw [HN.out, HC.out, HK.out, HU.out, HE.out, HF.out]; rfl), hb6⟩
def kindAt (cols : List Cl) (i : Int) : Int := (cols[i.toNat]?.map Cl.kind).getD 0
def kindV (c1 c2 : List Cl) (p : Int × Int) : Bool := kindAt c1 p.1 == kindAt c2 p.2
def sameB (c1 : List Cl) (l1 : List Int) (c2 : List Cl) (l2 : List Int) : Bool := decide (l1.length = l2.length) && (l1.zip l2).all (kindV c1 c2)
def leadB (s : List Tb) (x : Tb) (f : Fk) : Bool := decide (atN (s.map Tb.name) f.table ≠ -1) && (match s[(atN (s.map Tb.name) f.table).toNat]? with | some o => sameB x.cols f.cols o.cols o.key | none => false)
def leadsB (s : List Tb) (x : Tb) : Bool := x.fks.all (leadB s x)
def schemaB (s : List Tb) : Bool := decide (s.length ≤ 5) && (s.all tableB && (uniqGo [] (s.map Tb.name) && s.all (leadsB s)))
theorem kindAt_nat {cols : List Cl} {j : Nat} (h : j < cols.length) : kindAt cols j = cols[j].kind := by
 unfold kindAt; simp [List.getElem?_eq_getElem h]
theorem PlacesIn.below {w w' : World} {b : Nat} {names : List ByteArray} (h : PlacesIn w b names) (hb : Below w.heap.size w w') : PlacesIn w' b names :=
 h.kept (row := none) ⟨hb.os, hb.tape, hb.output, hb.size, fun k hk _ => hb.block k hk⟩ (by simp)
set_option maxRecDepth 100000 in
set_option maxHeartbeats 1000000 in
theorem implSameKinds (A1 AK B1 BK : Option Addr) (n1 c1 nK cK m1 d1 mK dK : Nat) (v0 v2 v3 v4 v5 u0 u2 u3 u4 u5 : Value) (cols1 cols2 : List Cl) (l1 l2 : List Int) (ok : Nat → Prop) (w : World)
  (h1 : Sl ClR 6 ok w A1 n1 cols1) (hk1 : Sl IntR 1 ok w AK nK l1) (h2 : Sl ClR 6 ok w B1 m1 cols2) (hk2 : Sl IntR 1 ok w BK mK l2) (hin1 : ∀ x ∈ l1, 0 ≤ x ∧ x < cols1.length) (hin2 : ∀ x ∈ l2, 0 ≤ x ∧ x < cols2.length)
  (hn1 : n1 ≤ 1048576) (hnK : nK ≤ 1048576) (hm1 : m1 ≤ 1048576) (hmK : mK ≤ 1048576) :
  Calls Tryz.prog 106 #[.agg #[v0, .slice A1 n1 c1, v2, v3, v4, v5], .slice AK nK cK, .agg #[u0, .slice B1 m1 d1, u2, u3, u4, u5], .slice BK mK dK] w fun e w' => e = .returned (.bool (sameB cols1 l1 cols2 l2)) ∧ Below w.heap.size w w' := by
 obtain rfl : cols1.length = n1 := h1.1
 obtain rfl : cols2.length = m1 := h2.1
 obtain rfl : l1.length = nK := hk1.1
 obtain rfl : l2.length = mK := hk2.1
 have HI1 := Lib.hid hin1
 have HI2 := Lib.hid hin2
 clear hin1 hin2
 have hb0 := ((Below.refl w.heap.size w).alloc (Nat.le_refl _) (.cells #[v0, .slice A1 cols1.length c1, v2, v3, v4, v5] 53)).alloc (by simp) (.cells #[u0, .slice B1 cols2.length d1, u2, u3, u4, u5] 53)
 have r1 := (Row.new w 53 #[v0, .slice A1 cols1.length c1, v2, v3, v4, v5]).alloc (.cells #[u0, .slice B1 cols2.length d1, u2, u3, u4, u5] 53)
 have r2 := Row.newAt (w.alloc (.cells #[v0, .slice A1 cols1.length c1, v2, v3, v4, v5] 53)) 53 #[u0, .slice B1 cols2.length d1, u2, u3, u4, u5] (w.heap.size + 1) (by simp)
 cases hl : (l1.length == l2.length)
 ·have hl' : ¬ ((l1.length : Int) = l2.length) := by have := beq_eq_false_iff_ne.1 hl; omega
  have HF := Lib.hid (show sameB cols1 l1 cols2 l2 = false by unfold sameB; rw [decide_eq_false (beq_eq_false_iff_ne.1 hl)]; rfl)
  clear hl
  go_enter Tryz.func106, Tryz.ntmps106
  go_wp2
  go_ret
  exact ⟨retB HF.out.symm, hb0⟩
 have hlen : l1.length = l2.length := by simpa using hl
 have hl' : (l1.length : Int) = l2.length := by omega
 have hz : (l1.zip l2).length = l1.length := by simp [hlen]
 have HZ := Lib.hid hz
 have HL := Lib.hid hlen
 have HE := Lib.hid (show sameB cols1 l1 cols2 l2 = (l1.zip l2).all (kindV cols1 cols2) by unfold sameB; rw [decide_eq_true hlen]; rfl)
 clear hl hz hlen
 go_enter Tryz.func106, Tryz.ntmps106
 go_wp2_with fail
 clear hl'
 generalize (w.alloc (.cells #[v0, .slice A1 cols1.length c1, v2, v3, v4, v5] 53)).alloc (.cells #[u0, .slice B1 cols2.length d1, u2, u3, u4, u5] 53) = x0 at *
 go_loopw [17] (fun i wr => ∃ k : Nat, k ≤ l1.length ∧ i = .int .i64 k ∧ Hid (((l1.zip l2).take k).all (kindV cols1 cols2) = true) ∧ Row wr w.heap.size 53 #[v0, .slice A1 cols1.length c1, v2, v3, v4, v5] ∧ Row wr (w.heap.size + 1) 53 #[u0, .slice B1 cols2.length d1, u2, u3, u4, u5] ∧ Below w.heap.size w wr) (fun i _ => l1.length - (intOf i).toNat)
 case atStart => exact ⟨0, by omega, rfl, Lib.hid (by simp), r1, r2, hb0⟩
 case round =>
  obtain ⟨k, hk, rfl, hall, hr1, hr2, hb⟩ := hrel
  by_cases hlt : k < l1.length
  ·have hlt2 : k < l2.length := by have := HL.out; omega
   obtain ⟨⟨a0, a1, a2, a3, a4, a5⟩, -⟩ := hr1.all6
   obtain ⟨⟨z0, z1, z2, z3, z4, z5⟩, -⟩ := hr2.all6
   obtain ⟨bk, offk, -, rfl, p0⟩ := IntR.at_ (hk1.below IntR.stays hb) hlt
   obtain ⟨bl, offl, -, rfl, p1⟩ := IntR.at_ (hk2.below IntR.stays hb) hlt2
   have hi1 := HI1.out _ (List.getElem_mem hlt)
   have hi2 := HI2.out _ (List.getElem_mem hlt2)
   have hsn := all_take (kindV cols1 cols2) (l1.zip l2) k (by rw [HZ.out]; exact hlt)
   have hno := fun hf => all_no (kindV cols1 cols2) (l1.zip l2) k (by rw [HZ.out]; exact hlt) hf
   obtain ⟨j1, hj1⟩ : ∃ j : Nat, l1[k] = (j : Int) := ⟨l1[k].toNat, by omega⟩
   obtain ⟨j2, hj2⟩ : ∃ j : Nat, l2[k] = (j : Int) := ⟨l2[k].toNat, by omega⟩
   rw [hj1] at p0 hi1
   rw [hj2] at p1 hi2
   have hjl1 : j1 < cols1.length := by omega
   have hjl2 : j2 < cols2.length := by omega
   have eg : kindV cols1 cols2 ((l1.zip l2)[k]'(by rw [HZ.out]; exact hlt)) = (cols1[j1].kind == cols2[j2].kind) := by
    rw [List.getElem_zip]; unfold kindV; simp only [hj1, hj2, kindAt_nat hjl1, kindAt_nat hjl2]
   rw [hall.out, Bool.true_and, eg] at hsn
   rw [eg] at hno
   obtain ⟨b, off, -, rfl, q0, q1, q2, q3, q4, q5⟩ := ClR.at_ (h1.below ClR.stays hb) hjl1
   obtain ⟨b', off', -, rfl, y0, y1, y2, y3, y4, y5⟩ := ClR.at_ (h2.below ClR.stays hb) hjl2
   have i0 : (0 : Int) ≤ k := by omega
   have i1 : (k : Int) < l1.length := by omega
   have i2 : (k : Int) < l2.length := by omega
   have i3 : (0 : Int) ≤ j1 := by omega
   have i4 : (j1 : Int) < cols1.length := by omega
   have i5 : (0 : Int) ≤ j2 := by omega
   have i6 : (j2 : Int) < cols2.length := by omega
   clear eg hj1 hj2 hi1 hi2
   cases hc : (cols1[j1].kind == cols2[j2].kind)
   ·have HF := Lib.hid (show sameB cols1 l1 cols2 l2 = false by rw [HE.out]; exact hno hc)
    have hc2 : (cols1[j1].kind != cols2[j2].kind) = true := by rw [bne, hc]; rfl
    clear hsn hno hall
    go_wp2_with fail
    go_quiet (fail)
    go_wp2_with fail
    go_ret
    exact ⟨retB HF.out.symm, below_drewN hb _⟩
   ·have HA := Lib.hid (hsn.trans hc)
    have hc2 : (cols1[j1].kind != cols2[j2].kind) = false := by rw [bne, hc]; rfl
    clear hsn hno hall
    go_wp2_with fail
    go_quiet (fail)
    go_wp2_with fail
    go_roundw
    case rel => exact ⟨k + 1, by omega, by go_num, Lib.hid HA.out, hr1.drewN _, hr2.drewN _, below_drewN hb _⟩
    case measure => simp [intOf]; omega
  ·have e : (l1.zip l2).take k = l1.zip l2 := List.take_of_length_le (by rw [HZ.out]; omega)
   have h1 := hall.out
   rw [e] at h1
   have HF := Lib.hid (show sameB cols1 l1 cols2 l2 = true by rw [HE.out]; exact h1)
   have i3 : ¬ (k : Int) < l2.length := by have := HL.out; omega
   clear e h1 hall
   go_wp2
   go_ret
   exact ⟨retB HF.out.symm, hb⟩
theorem fk_cols {x : Tb} (hx : tableB x = true) {k : Nat} (hlt : k < x.fks.length) : ∀ y ∈ x.fks[k].cols, 0 ≤ y ∧ y < x.cols.length := by
 unfold tableB fksB at hx
 simp only [Bool.and_eq_true, decide_eq_true_eq] at hx
 have := List.all_eq_true.1 hx.2.2.2.2.2.2 _ (List.getElem_mem hlt)
 unfold fkB at this
 rw [Bool.and_eq_true] at this
 exact (colsInB_len this.1).2
theorem key_cols {x : Tb} (hx : tableB x = true) : ∀ y ∈ x.key, 0 ≤ y ∧ y < x.cols.length := by
 unfold tableB keyB at hx
 simp only [Bool.and_eq_true] at hx
 exact (colsInB_len hx.2.2.1.1).2
set_option maxRecDepth 100000 in
set_option maxHeartbeats 2000000 in
theorem implFksLead (s : List Tb) (x : Tb) (AS : Option Addr) (nS cS bm : Nat) (A1 : Option Addr) (n1 c1 : Nat) (A2 : Option Addr) (n2 c2 : Nat) (A3 : Option Addr) (n3 c3 : Nat) (A4 : Option Addr) (n4 c4 : Nat) (A5 : Option Addr) (n5 c5 : Nat) (ok : Nat → Prop) (w : World)
  (hs : Sl TbR 6 ok w AS nS s) (hp : PlacesIn w bm (s.map Tb.name)) (h1 : Sl ClR 6 ok w A1 n1 x.cols) (h5 : Sl FkR 5 ok w A5 n5 x.fks) (hx : tableB x = true) (hall : s.all tableB = true) (hsz : szL Tb.sz s ≤ 1048576) (hxs : x.sz ≤ 1048576) :
  Calls Tryz.prog 76 #[.slice AS nS cS, .map (some bm), .agg #[.string x.name, .slice A1 n1 c1, .slice A2 n2 c2, .slice A3 n3 c3, .slice A4 n4 c4, .slice A5 n5 c5]] w fun e w' => e = .returned (.bool (leadsB s x)) ∧ Below w.heap.size w w' := by
 obtain rfl : s.length = nS := hs.1
 obtain rfl : x.fks.length = n5 := h5.1
 have e1 := h1.1
 have HN1 := Lib.hid (show n1 ≤ 1048576 by unfold Tb.sz szL at hxs; omega)
 have hn5 : x.fks.length ≤ 1048576 := by unfold Tb.sz szL at hxs; omega
 have HXS := Lib.hid (show szL Fk.sz x.fks ≤ 1048576 by unfold Tb.sz at hxs; omega)
 have HSZ := Lib.hid hsz
 have HX := Lib.hid hx
 have HALL := Lib.hid hall
 clear hsz hxs hx hall e1
 have hb0 := (Below.refl w.heap.size w).alloc (Nat.le_refl _) (.cells #[.string x.name, .slice A1 n1 c1, .slice A2 n2 c2, .slice A3 n3 c3, .slice A4 n4 c4, .slice A5 x.fks.length c5] 53)
 have r0 := Row.new w 53 #[.string x.name, .slice A1 n1 c1, .slice A2 n2 c2, .slice A3 n3 c3, .slice A4 n4 c4, .slice A5 x.fks.length c5]
 have hp0 := hp.alloc (.cells #[.string x.name, .slice A1 n1 c1, .slice A2 n2 c2, .slice A3 n3 c3, .slice A4 n4 c4, .slice A5 x.fks.length c5] 53)
 go_enter Tryz.func76, Tryz.ntmps76
 go_wp2_with fail
 generalize w.alloc (.cells #[.string x.name, .slice A1 n1 c1, .slice A2 n2 c2, .slice A3 n3 c3, .slice A4 n4 c4, .slice A5 x.fks.length c5] 53) = x0 at *
 go_loopw [14] (fun i wr => ∃ k : Nat, k ≤ x.fks.length ∧ i = .int .i64 k ∧ Hid ((x.fks.take k).all (leadB s x) = true) ∧ Row wr w.heap.size 53 #[.string x.name, .slice A1 n1 c1, .slice A2 n2 c2, .slice A3 n3 c3, .slice A4 n4 c4, .slice A5 x.fks.length c5] ∧ PlacesIn wr bm (s.map Tb.name) ∧ Below w.heap.size w wr) (fun i _ => x.fks.length - (intOf i).toNat)
 case atStart => exact ⟨0, by omega, rfl, Lib.hid (by simp), r0, hp0, hb0⟩
 case round =>
  clear hp hp0 r0 hb0
  obtain ⟨k, hk, rfl, hall, hr, hp, hb⟩ := hrel
  by_cases hlt : k < x.fks.length
  ·obtain ⟨b, off, A9, n9, c9, -, rfl, q0, q1, q2, q3, q4, hfc, -⟩ := FkR.at_ (h5.below FkR.stays hb) hlt
   obtain rfl : x.fks[k].cols.length = n9 := hfc.1
   have hsn := all_take (leadB s x) x.fks k hlt
   rw [hall.out, Bool.true_and] at hsn
   have hno := fun hf : leadB s x x.fks[k] = false => show leadsB s x = false from all_no (leadB s x) x.fks k hlt hf
   have hfk : x.fks[k].cols.length ≤ 1048576 ∧ x.fks[k].table.size ≤ 1048576 := by have := HXS.out; have := sum_mem_le Fk.sz x.fks k hlt; unfold szL at *; simp only [Fk.sz] at *; omega
   have HN9 := Lib.hid hfk.1
   have HTB := Lib.hid (show x.fks[k].table.size ≤ maxLen by have := hfk.2; unfold maxLen; omega)
   have HI1 := Lib.hid (show ∀ y ∈ x.fks[k].cols, 0 ≤ y ∧ y < x.cols.length from fk_cols HX.out hlt)
   clear hfk
   generalize x.fks[k] = f at *
   have hbx := (Below.refl wr.heap.size wr).alloc (Nat.le_refl _) (.cells #[.slice A9 f.cols.length c9, .string f.table, .int .i64 f.del, .int .i64 f.upd, .bool f.dfr] 80)
   have hba := hb.trans (hbx.mono hb.size)
   have rf := Row.new wr 80 #[.slice A9 f.cols.length c9, .string f.table, .int .i64 f.del, .int .i64 f.upd, .bool f.dfr]
   have hr1 := hr.below hbx
   have hp1 := hp.below hbx
   obtain ⟨⟨f0, f1, f2, f3, f4⟩, -⟩ := rf.five
   obtain ⟨⟨x0, x1, x2, x3, x4, x5⟩, -⟩ := hr1.all6
   obtain ⟨D, m1', m2', m3, m4, m5⟩ := id hp1
   have hh := m3 f.table
   clear m5 m3 m2'
   by_cases hno1 : atN (s.map Tb.name) f.table = -1
   ·rw [decide_eq_false (by simp [hno1])] at hh
    have HH := Lib.hid hh
    have HF := Lib.hid (hno (by unfold leadB; rw [decide_eq_false (by simp [hno1])]; rfl))
    clear hh hno1 hno hsn hall m4
    go_wp2_with (first
     | (at_lookup; refine wpList_lookup_own_ok_int _ rfl _ _ 123 rfl 9 2 .i64 lawS Tryz.underlying123 Tryz.underlying2 (zeroI _) bm _ D rfl m1' _ _ rfl (keyS_of f.table HTB.out) ?_; intro c hat hwc; rw [HH.out]))
    clear hat hwc m1'
    go_quiet (fail)
    go_wp2_with fail
    go_ret
    exact ⟨retB HF.out.symm, below_drewN hba _⟩
   rw [decide_eq_true hno1] at hh
   have HH := Lib.hid hh
   obtain ⟨j, hj, hjl⟩ : ∃ j : Nat, atN (s.map Tb.name) f.table = (j : Int) ∧ j < s.length := by
    rcases atN_rng (s.map Tb.name) f.table with h | h
    ·exact absurd h hno1
    ·rw [List.length_map] at h; exact ⟨(atN (s.map Tb.name) f.table).toNat, by omega, by omega⟩
   have hm4 := m4 f.table hno1
   rw [hj] at hm4
   have HA := Lib.hid hm4
   have hld : leadB s x f = sameB x.cols f.cols s[j].cols s[j].key := by
    unfold leadB; rw [decide_eq_true hno1, hj]; simp [List.getElem?_eq_getElem hjl]
   rw [hld] at hsn hno
   obtain ⟨bs, offs, B1, m1, d1, B2, m2, d2, B3, m3, d3, B4, m4', d4, B5, m5, d5, -, rfl, y0, y1, y2, y3, y4, y5, hs1, hs2, -, -, -, -⟩ := TbR.at_ (hs.below TbR.stays hba) hjl
   have hx1 := h1.below ClR.stays hba
   have hfc := hfc.below IntR.stays hbx
   have hto : tableB s[j] = true := List.all_eq_true.1 HALL.out _ (List.getElem_mem hjl)
   have HI2 := Lib.hid (show ∀ y ∈ s[j].key, 0 ≤ y ∧ y < s[j].cols.length from key_cols hto)
   have hsj : m1 ≤ 1048576 ∧ m2 ≤ 1048576 := by have := HSZ.out; have := sum_mem_le Tb.sz s j hjl; have := hs1.1; have := hs2.1; unfold szL at *; simp only [Tb.sz] at *; unfold szL at *; omega
   have HM1 := Lib.hid hsj.1
   have HM2 := Lib.hid hsj.2
   have i0 : (0 : Int) ≤ j := by omega
   have i1 : (j : Int) < s.length := by omega
   clear hh hno1 hall m4 hm4 hj hld hto hsj
   cases hsm : sameB x.cols f.cols s[j].cols s[j].key
   ·have HSM := Lib.hid hsm
    have HF := Lib.hid (hno hsm)
    clear hsn hno hsm
    go_wp2_with (first
     | (at_lookup; refine wpList_lookup_own_ok_int _ rfl _ _ 123 rfl 9 2 .i64 lawS Tryz.underlying123 Tryz.underlying2 (zeroI _) bm _ D rfl m1' _ _ rfl (keyS_of f.table HTB.out) ?_; intro c hat hwc; rw [HH.out]))
    obtain rfl : c = (j : Int) := by have := HA.out; rw [hat] at this; simpa using this
    clear hat hwc m1'
    generalize wr.alloc (.cells #[.slice A9 f.cols.length c9, .string f.table, .int .i64 f.del, .int .i64 f.upd, .bool f.dfr] 80) = z1 at *
    refine wp_region_noPanic ?_
    refine wp_region_held_drew (S := fun w' => w'.cell? ⟨w.heap.size, 0, none⟩ = some (.string x.name) ∧ w'.cell? ⟨w.heap.size, 1, none⟩ = some (.slice A1 n1 c1) ∧ w'.cell? ⟨w.heap.size, 2, none⟩ = some (.slice A2 n2 c2) ∧ w'.cell? ⟨w.heap.size, 3, none⟩ = some (.slice A3 n3 c3) ∧ w'.cell? ⟨w.heap.size, 4, none⟩ = some (.slice A4 n4 c4) ∧ w'.cell? ⟨w.heap.size, 5, none⟩ = some (.slice (some ⟨b,off,none⟩) x.fks.length c5) ∧ w'.cell? ⟨wr.heap.size, 0, none⟩ = some (.slice A9 f.cols.length c9) ∧ w'.cell? ⟨bs, offs + j * 6, none⟩ = some (.string s[j].name) ∧ w'.cell? ⟨bs, offs + j * 6 + 1, none⟩ = some (.slice B1 m1 d1) ∧ w'.cell? ⟨bs, offs + j * 6 + 2, none⟩ = some (.slice B2 m2 d2) ∧ w'.cell? ⟨bs, offs + j * 6 + 3, none⟩ = some (.slice B3 m3 d3) ∧ w'.cell? ⟨bs, offs + j * 6 + 4, none⟩ = some (.slice B4 m4' d4) ∧ w'.cell? ⟨bs, offs + j * 6 + 5, none⟩ = some (.slice B5 m5 d5)) (by kernel_rfl) ⟨x0, x1, x2, x3, x4, x5, f0, y0, y1, y2, y3, y4, y5⟩ (fun hHeld => ?_)
    refine tk 0 ?_
    refine tk 1 ?_
    refine tk 2 ?_
    refine tk 3 ?_
    refine tk 4 ?_
    refine tk 5 ?_
    refine tk 6 ?_
    refine tk 7 ?_
    refine tk 8 ?_
    refine tk 9 ?_
    refine tk 10 ?_
    refine tk 11 ?_
    refine tk 12 ?_
    refine tk 13 ?_
    refine tk 14 ?_
    refine wpAnyH_ready (rs := [15]) (by kernel_rfl) (by simp) ?_
    refine AllReadyH.cons rfl (fun K hK => ?_) AllReadyH.nil
    go_simp
    refine (implSameKinds A1 A9 B1 B2 n1 c1 f.cols.length c9 m1 d1 m2 d2 _ _ _ _ _ _ _ _ _ _ x.cols s[j].cols f.cols s[j].key ok _ (hx1.drew ClR.stays) (hfc.drew IntR.stays) (hs1.drew ClR.stays) (hs2.drew IntR.stays) HI1.out HI2.out HN1.out HN9.out HM1.out HM2.out).mono ?_
    rintro e wd ⟨rfl, hqd⟩
    rw [HSM.out]
    go_wp2_with fail
    refine hK.out _ _ ⟨below_keep hqd _ _ hHeld.1, below_keep hqd _ _ hHeld.2.1, below_keep hqd _ _ hHeld.2.2.1, below_keep hqd _ _ hHeld.2.2.2.1, below_keep hqd _ _ hHeld.2.2.2.2.1, below_keep hqd _ _ hHeld.2.2.2.2.2.1, below_keep hqd _ _ hHeld.2.2.2.2.2.2.1, below_keep hqd _ _ hHeld.2.2.2.2.2.2.2.1, below_keep hqd _ _ hHeld.2.2.2.2.2.2.2.2.1, below_keep hqd _ _ hHeld.2.2.2.2.2.2.2.2.2.1, below_keep hqd _ _ hHeld.2.2.2.2.2.2.2.2.2.2.1, below_keep hqd _ _ hHeld.2.2.2.2.2.2.2.2.2.2.2.1, below_keep hqd _ _ hHeld.2.2.2.2.2.2.2.2.2.2.2.2⟩ (fun hHeld => ?_)
    clear hK K
    (try simp only [Act.put, pz0, pz1, pz2, pz3, pz4, pz5])
    refine tk 16 ?_
    refine tk 17 ?_
    refine wpAnyH_done (by kernel_rfl) ?_ _
    refine NoPanic.normal ?_
    have hz := hba.drew.trans (hqd.mono hba.drew.size)
    have rz := hr1.drew.below hqd
    have hpz := hp1.drew.below hqd
    clear hHeld x0 x1 x2 x3 x4 x5 f0 y0 y1 y2 y3 y4 y5
    go_wp2_with fail
    go_ret
    exact ⟨retB HF.out.symm, hz⟩
   ·have HSM := Lib.hid hsm
    have HG := Lib.hid (hsn.trans hsm)
    clear hsn hno hsm
    go_wp2_with (first
     | (at_lookup; refine wpList_lookup_own_ok_int _ rfl _ _ 123 rfl 9 2 .i64 lawS Tryz.underlying123 Tryz.underlying2 (zeroI _) bm _ D rfl m1' _ _ rfl (keyS_of f.table HTB.out) ?_; intro c hat hwc; rw [HH.out]))
    obtain rfl : c = (j : Int) := by have := HA.out; rw [hat] at this; simpa using this
    clear hat hwc m1'
    generalize wr.alloc (.cells #[.slice A9 f.cols.length c9, .string f.table, .int .i64 f.del, .int .i64 f.upd, .bool f.dfr] 80) = z1 at *
    refine wp_region_noPanic ?_
    refine wp_region_held_drew (S := fun w' => w'.cell? ⟨w.heap.size, 0, none⟩ = some (.string x.name) ∧ w'.cell? ⟨w.heap.size, 1, none⟩ = some (.slice A1 n1 c1) ∧ w'.cell? ⟨w.heap.size, 2, none⟩ = some (.slice A2 n2 c2) ∧ w'.cell? ⟨w.heap.size, 3, none⟩ = some (.slice A3 n3 c3) ∧ w'.cell? ⟨w.heap.size, 4, none⟩ = some (.slice A4 n4 c4) ∧ w'.cell? ⟨w.heap.size, 5, none⟩ = some (.slice (some ⟨b,off,none⟩) x.fks.length c5) ∧ w'.cell? ⟨wr.heap.size, 0, none⟩ = some (.slice A9 f.cols.length c9) ∧ w'.cell? ⟨bs, offs + j * 6, none⟩ = some (.string s[j].name) ∧ w'.cell? ⟨bs, offs + j * 6 + 1, none⟩ = some (.slice B1 m1 d1) ∧ w'.cell? ⟨bs, offs + j * 6 + 2, none⟩ = some (.slice B2 m2 d2) ∧ w'.cell? ⟨bs, offs + j * 6 + 3, none⟩ = some (.slice B3 m3 d3) ∧ w'.cell? ⟨bs, offs + j * 6 + 4, none⟩ = some (.slice B4 m4' d4) ∧ w'.cell? ⟨bs, offs + j * 6 + 5, none⟩ = some (.slice B5 m5 d5)) (by kernel_rfl) ⟨x0, x1, x2, x3, x4, x5, f0, y0, y1, y2, y3, y4, y5⟩ (fun hHeld => ?_)
    refine tk 0 ?_
    refine tk 1 ?_
    refine tk 2 ?_
    refine tk 3 ?_
    refine tk 4 ?_
    refine tk 5 ?_
    refine tk 6 ?_
    refine tk 7 ?_
    refine tk 8 ?_
    refine tk 9 ?_
    refine tk 10 ?_
    refine tk 11 ?_
    refine tk 12 ?_
    refine tk 13 ?_
    refine tk 14 ?_
    refine wpAnyH_ready (rs := [15]) (by kernel_rfl) (by simp) ?_
    refine AllReadyH.cons rfl (fun K hK => ?_) AllReadyH.nil
    go_simp
    refine (implSameKinds A1 A9 B1 B2 n1 c1 f.cols.length c9 m1 d1 m2 d2 _ _ _ _ _ _ _ _ _ _ x.cols s[j].cols f.cols s[j].key ok _ (hx1.drew ClR.stays) (hfc.drew IntR.stays) (hs1.drew ClR.stays) (hs2.drew IntR.stays) HI1.out HI2.out HN1.out HN9.out HM1.out HM2.out).mono ?_
    rintro e wd ⟨rfl, hqd⟩
    rw [HSM.out]
    go_wp2_with fail
    refine hK.out _ _ ⟨below_keep hqd _ _ hHeld.1, below_keep hqd _ _ hHeld.2.1, below_keep hqd _ _ hHeld.2.2.1, below_keep hqd _ _ hHeld.2.2.2.1, below_keep hqd _ _ hHeld.2.2.2.2.1, below_keep hqd _ _ hHeld.2.2.2.2.2.1, below_keep hqd _ _ hHeld.2.2.2.2.2.2.1, below_keep hqd _ _ hHeld.2.2.2.2.2.2.2.1, below_keep hqd _ _ hHeld.2.2.2.2.2.2.2.2.1, below_keep hqd _ _ hHeld.2.2.2.2.2.2.2.2.2.1, below_keep hqd _ _ hHeld.2.2.2.2.2.2.2.2.2.2.1, below_keep hqd _ _ hHeld.2.2.2.2.2.2.2.2.2.2.2.1, below_keep hqd _ _ hHeld.2.2.2.2.2.2.2.2.2.2.2.2⟩ (fun hHeld => ?_)
    clear hK K
    (try simp only [Act.put, pz0, pz1, pz2, pz3, pz4, pz5])
    refine tk 16 ?_
    refine tk 17 ?_
    refine wpAnyH_done (by kernel_rfl) ?_ _
    refine NoPanic.normal ?_
    have hz := hba.drew.trans (hqd.mono hba.drew.size)
    have rz := hr1.drew.below hqd
    have hpz := hp1.drew.below hqd
    clear hHeld x0 x1 x2 x3 x4 x5 f0 y0 y1 y2 y3 y4 y5
    go_wp2_with fail
    go_roundw
    case rel => exact ⟨k + 1, by omega, by go_num, Lib.hid HG.out, rz, hpz, hz⟩
    case measure => simp [intOf]; omega
  ·have e : x.fks.take k = x.fks := List.take_of_length_le (by omega)
   have g1 := hall.out
   rw [e] at g1
   have HF := Lib.hid (show leadsB s x = true from g1)
   clear e g1 hall
   go_wp2
   go_ret
   exact ⟨retB HF.out.symm, hb⟩
end Go.Proofs.YthamekdjfoepmaaGreat
