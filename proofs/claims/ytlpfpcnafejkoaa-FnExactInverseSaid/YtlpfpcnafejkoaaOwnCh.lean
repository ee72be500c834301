/-
  Changes that a call made: each with two lists of its own; how they are read, marked and held.
-/
import Derived.Test.YtlpfpcnafejkoaaOwnN
import Derived.Test.YtlpfpcnafejkoaaOwnEntR
namespace Go.Proofs.Ytlpfpcnafejkoaa
open Go.RowKit
set_option linter.unusedVariables false
set_option linter.unusedSimpArgs false

theorem infoChC : (Try.prog.info? 53).map (fun i => (i.zero, i.size, i.bytes)) = some (some (.agg #[.int .i64 0, .int .i64 0, .slice none 0 0, .slice none 0 0]), 4, 64) := by kernel_rfl
theorem OwnK.dep {w w' : World} {base : Nat} {v : Value} {xs : List Vl} (h : OwnK w base v xs) (hd : ∀ b ∈ blk v, w'.heap[b]? = w.heap[b]?) : OwnK w' base v xs := ownsRow_dep h fun k hk => hd k (by simp [blk, hk])
def ChO : ElO Ch := fun w base cs x bs => ∃ v1 v2, cs = [.int .i64 x.table, .int .i64 x.id, v1, v2] ∧ OwnK w base v1 x.old ∧ OwnK w base v2 x.now ∧ bs = blk v1 ++ blk v2 ∧ bs.Nodup
theorem OwnK.oneCell {w : World} {base : Nat} {v : Value} {xs : List Vl} (h : OwnK w base v xs) : v.oneCell' = true := ownsRow_one h
theorem OwnK.lower {w : World} {base base' : Nat} {v : Value} {xs : List Vl} (h : OwnK w base v xs) (hb : base' ≤ base) : OwnK w base' v xs := ownsRow_mono h hb
theorem ChO.good : GoodO [57] 4 ChO where
  len := fun ⟨_, _, e, _⟩ => by rw [e]; rfl
  one := fun ⟨v1, v2, e, h1, h2, _⟩ u hu => by
    rw [e] at hu
    simp at hu
    rcases hu with rfl | rfl | rfl | rfl
    · rfl
    · rfl
    · exact h1.oneCell
    · exact h2.oneCell
  typed := fun ⟨v1, v2, e, h1, h2, e2, _⟩ b hb => by
    rw [e2] at hb
    rcases List.mem_append.1 hb with h | h
    · obtain ⟨k1, cur, k2⟩ := ownsRow_typed h1 (k := b) (by simpa [blk] using h)
      exact ⟨k1, cur, _, k2, by simp⟩
    · obtain ⟨k1, cur, k2⟩ := ownsRow_typed h2 (k := b) (by simpa [blk] using h)
      exact ⟨k1, cur, _, k2, by simp⟩
  nodup := fun ⟨_, _, _, _, _, _, h⟩ => h
  dep := fun ⟨v1, v2, e, h1, h2, e2, h3⟩ hd => ⟨v1, v2, e, h1.dep fun b hb => hd b (by rw [e2]; exact List.mem_append_left _ hb), h2.dep fun b hb => hd b (by rw [e2]; exact List.mem_append_right _ hb), e2, h3⟩
  mono := fun ⟨v1, v2, e, h1, h2, e2, h3⟩ hb => ⟨v1, v2, e, h1.lower hb, h2.lower hb, e2, h3⟩
abbrev OwnC (w : World) (base : Nat) (v : Value) (xs : List Ch) : Prop := OwnL ChO 53 4 w base v xs
theorem ChO.out : 53 ∉ ([57] : List TypeId) := by decide

def Ch.marks (x : Ch) : Nat := 2 + x.old.length * 3 + x.now.length * 3
def ChS : ElS := fun w cs cnt bs => ∃ x y A n c B m d bs1 bs2, cs = [.int .i64 x, .int .i64 y, .slice A n c, .slice B m d] ∧ cnt = 2 + n * 3 + m * 3 ∧ bs = bs1 ++ bs2 ∧ (∀ b ∈ bs1, b ∉ bs2) ∧ FlS 3 w A n bs1 ∧ FlS 3 w B m bs2
def ChH : ElH := fun w k cs cnt bs => ∃ A n c B m d bs1 bs2, cs = [.int .i64 (k : Nat), .int .i64 ((k + 1 : Nat) : Int), .slice A n c, .slice B m d] ∧ cnt = 2 + n * 3 + m * 3 ∧ bs = bs1 ++ bs2 ∧ FlH mkXVal 3 w (k + 2) A n bs1 ∧ FlH mkXVal 3 w (k + 2 + n * 3) B m bs2
theorem ChS.stay : StayS ChS := fun w w' cs cnt bs bs' ⟨x, y, A, n, c, B, m, d, b1, b2, e, e', e2, hd, h1, h2⟩ hk hb =>
  ⟨x, y, A, n, c, B, m, d, b1, b2, e, e', e2, hd, h1.stay hk fun z hz => hb z (by rw [e2]; exact List.mem_append_left _ hz), h2.stay hk fun z hz => hb z (by rw [e2]; exact List.mem_append_right _ hz)⟩
theorem ChH.stay : StayH ChH := fun w w' k cs cnt bs bs' ⟨A, n, c, B, m, d, b1, b2, e, e', e2, h1, h2⟩ hk hb =>
  ⟨A, n, c, B, m, d, b1, b2, e, e', e2, h1.stay hk fun z hz => hb z (by rw [e2]; exact List.mem_append_left _ hz), h2.stay hk fun z hz => hb z (by rw [e2]; exact List.mem_append_right _ hz)⟩
theorem ChO.toR {w : World} {base : Nat} {cs : List Value} {x : Ch} {bs : List Nat} (h : ChO w base cs x bs) : ChR (okF base w) w cs x := by
  obtain ⟨v1, v2, rfl, h1, h2, -⟩ := h
  obtain ⟨A, c, rfl, k1, k2, k3⟩ := OwnG.sl (f := Vl.cells) (sz := 3) (fun _ => rfl) h1
  obtain ⟨B, d, rfl, l1, l2, l3⟩ := OwnG.sl (f := Vl.cells) (sz := 3) (fun _ => rfl) h2
  exact ⟨A, _, c, B, _, d, rfl, k3, l3, k1, l1⟩
theorem ChO.toS {w : World} {base : Nat} {cs : List Value} {x : Ch} {bs : List Nat} (h : ChO w base cs x bs) (n1 : x.old.length ≤ 1048576) (n2 : x.now.length ≤ 1048576) : ChS w cs x.marks bs := by
  obtain ⟨v1, v2, rfl, h1, h2, rfl, h3⟩ := h
  obtain ⟨A, c, rfl, k1⟩ := OwnK.fls h1 n1
  obtain ⟨B, d, rfl, l1⟩ := OwnK.fls h2 n2
  exact ⟨_, _, A, _, c, B, _, d, _, _, rfl, rfl, rfl, fun b hb hb' => (List.nodup_append.1 h3).2.2 b hb b hb' rfl, k1, l1⟩

set_option maxRecDepth 100000 in
set_option maxHeartbeats 1000000 in
theorem marksOChL (A : Option Addr) (n c : Nat) (cnts bs : List Nat) (k : Nat) (w : World) (h : ShL ChS 4 w A n cnts bs) (hk : k + cnts.sum ≤ 1073741824) {x : Int} (hx : x = k) :
    Calls Try.prog 11 #[.slice A n c, .int .i64 x] w fun e w' => e = .returned (.int .i64 ((k + cnts.sum : Nat) : Int)) ∧ KeptL bs w w' ∧ HdL ChH 4 w' k A n cnts bs := by
  have hn := h.1
  obtain ⟨hl, P, hP0, hP, hPn⟩ := h.walk ChS.stay ChH.stay k
  subst hx
  clear h
  go_enter Try.func11, Try.ntmps11
  go_wp2_with fail
  go_loopw [1, 5] (fun m i wr => ∃ (j : Nat), j ≤ n ∧ i = .int .i64 j ∧ m = .int .i64 ((k + (cnts.take j).sum : Nat) : Int) ∧ Hid (P j wr)) (fun _ i _ => n - (intOf i).toNat)
  case atStart => exact ⟨0, by omega, rfl, by simp, Lib.hid hP0⟩
  case round =>
    obtain ⟨i, hi, rfl, rfl, hI⟩ := hrel
    by_cases hlt : i < n
    · obtain ⟨b, off, bs', cs, rfl, hfr, hbs, hcl, ⟨x1, y1, A1, n1, c1, A2, n2, c2, b1, b2, rfl, hcn, rfl, hdj, hS1, hS2⟩, hat, hb, hnext⟩ := hP i wr hlt hI.out
      have q0 : wr.cell? ⟨b, off + i * 4, none⟩ = some (.int .i64 x1) := hat 0 _ rfl
      have q1 : wr.cell? ⟨b, off + i * 4 + 1, none⟩ = some (.int .i64 y1) := hat 1 _ rfl
      have q2 : wr.cell? ⟨b, off + i * 4 + 2, none⟩ = some (.slice A1 n1 c1) := hat 2 _ rfl
      have q3 : wr.cell? ⟨b, off + i * 4 + 3, none⟩ = some (.slice A2 n2 c2) := hat 3 _ rfl
      have f0 := hfr (off + i * 4)
      have f1 := hfr (off + i * 4 + 1)
      obtain ⟨hs1, hs2⟩ := sums_step hl hlt
      have HN := Lib.hid hnext
      have HF := Lib.hid hfr
      generalize hkk : (cnts.take i).sum = s at *
      generalize hcc : cnts.getD i 0 = cn at *
      subst hcn
      have i0 : (0 : Int) ≤ i := by omega
      have i1 : (i : Int) < n := by omega
      have hbb1 : b ∉ b1 := fun h => hb (List.mem_append_left _ h)
      have hbb2 : b ∉ b2 := fun h => hb (List.mem_append_right _ h)
      have hs3 : k + s + (2 + n1 * 3 + n2 * 3) ≤ 1073741824 := by omega
      clear hnext hfr hat hP hPn hI
      have hK0 : KeptL [b] wr ((wr.setCell ⟨b, off + i * 4, none⟩ (.int .i64 ((k : Int) + s))).setCell ⟨b, off + i * 4 + 1, none⟩ (.int .i64 ((k : Int) + s + 1))) := ((KeptL.refl [b] wr).set (p := ⟨b, off + i * 4, none⟩) (List.mem_singleton.2 rfl)).set (p := ⟨b, off + i * 4 + 1, none⟩) (List.mem_singleton.2 rfl)
      have HM0 := Lib.hid (show NM b (off + i * 4) (off + (i + 1) * 4) (b1 ++ b2) wr ((wr.setCell ⟨b, off + i * 4, none⟩ (.int .i64 ((k : Int) + s))).setCell ⟨b, off + i * 4 + 1, none⟩ (.int .i64 ((k : Int) + s + 1))) from ((NM.refl _ _ _ _ _).set (o := off + i * 4) rfl (by omega) (by omega)).set (o := off + i * 4 + 1) rfl (by omega) (by omega))
      have hS1' := hS1.stay hK0 (fun z hz hh => hbb1 (List.mem_singleton.1 hh ▸ hz))
      have hS2' := hS2.stay hK0 (fun z hz hh => hbb2 (List.mem_singleton.1 hh ▸ hz))
      have z0 : ((wr.setCell ⟨b, off + i * 4, none⟩ (.int .i64 ((k : Int) + s))).setCell ⟨b, off + i * 4 + 1, none⟩ (.int .i64 ((k : Int) + s + 1))).cell? ⟨b, off + i * 4, none⟩ = some (.int .i64 ((k : Int) + s)) := (World.cell?_setCell_other _ _ _ _ (by intro hh; simp only [Addr.mk.injEq] at hh; omega)).trans (World.cell?_setCell_same _ _ _ q0)
      have z1 : ((wr.setCell ⟨b, off + i * 4, none⟩ (.int .i64 ((k : Int) + s))).setCell ⟨b, off + i * 4 + 1, none⟩ (.int .i64 ((k : Int) + s + 1))).cell? ⟨b, off + i * 4 + 1, none⟩ = some (.int .i64 ((k : Int) + s + 1)) := World.cell?_setCell_same _ _ _ ((World.cell?_setCell_other _ _ _ _ (by intro hh; simp only [Addr.mk.injEq] at hh; omega)).trans q1)
      have z2 : ((wr.setCell ⟨b, off + i * 4, none⟩ (.int .i64 ((k : Int) + s))).setCell ⟨b, off + i * 4 + 1, none⟩ (.int .i64 ((k : Int) + s + 1))).cell? ⟨b, off + i * 4 + 2, none⟩ = some (.slice A1 n1 c1) := (World.cell?_setCell_other _ _ _ _ (by intro hh; simp only [Addr.mk.injEq] at hh; omega)).trans ((World.cell?_setCell_other _ _ _ _ (by intro hh; simp only [Addr.mk.injEq] at hh; omega)).trans q2)
      have z3 : ((wr.setCell ⟨b, off + i * 4, none⟩ (.int .i64 ((k : Int) + s))).setCell ⟨b, off + i * 4 + 1, none⟩ (.int .i64 ((k : Int) + s + 1))).cell? ⟨b, off + i * 4 + 3, none⟩ = some (.slice A2 n2 c2) := (World.cell?_setCell_other _ _ _ _ (by intro hh; simp only [Addr.mk.injEq] at hh; omega)).trans ((World.cell?_setCell_other _ _ _ _ (by intro hh; simp only [Addr.mk.injEq] at hh; omega)).trans q3)
      have HBS := Lib.hid (show b < ((wr.setCell ⟨b, off + i * 4, none⟩ (.int .i64 ((k : Int) + s))).setCell ⟨b, off + i * 4 + 1, none⟩ (.int .i64 ((k : Int) + s + 1))).heap.size from Nat.lt_of_lt_of_le hbs hK0.size)
      have HZ0 := Lib.hid z0
      have HZ1 := Lib.hid z1
      have HZ2 := Lib.hid z2
      have HZ3 := Lib.hid z3
      have HS1 := Lib.hid hS1'
      have HS2 := Lib.hid hS2'
      clear hK0 z0 z1 hS1' hS2' hS1 hS2
      go_wp2_with fail
      generalize ((wr.setCell ⟨b, off + i * 4, none⟩ (.int .i64 ((k : Int) + s))).setCell ⟨b, off + i * 4 + 1, none⟩ (.int .i64 ((k : Int) + s + 1))) = y0 at *
      refine (marksOVal A1 n1 c1 (k + s + 2) b1 _ HS1.out (by omega) (by omega)).mono ?_
      rintro e w1 ⟨rfl, hk1, hM1⟩
      have z3' := hk1.far hbb1 HZ3.out
      have HS3 := Lib.hid (HS2.out.stay hk1 fun z hz hh => hdj z hh hz)
      have HK1 := Lib.hid hk1
      have HM1 := Lib.hid hM1
      clear z2 z3 hk1 hM1 q0 q1 q2 q3
      go_wp2_with fail
      refine (marksOVal A2 n2 c2 (k + s + 2 + n1 * 3) b2 _ HS3.out (by omega) (by omega)).mono ?_
      rintro e w2 ⟨rfl, hk2, hM2⟩
      have HK2 := Lib.hid hk2
      have HM2 := Lib.hid hM2
      clear z3' hk2 hM2
      go_wp2_with fail
      go_roundw
      case rel =>
        refine ⟨i + 1, by omega, by go_num, by rw [hs1]; exact congrArg (Value.int .i64) (by omega), Lib.hid ?_⟩
        refine HN.out _ [.int .i64 ((k : Int) + s), .int .i64 ((k : Int) + s + 1), .slice A1 n1 c1, .slice A2 n2 c2] (NM.turn hbs (NM.turn hbs HM0.out HK1.out (fun _ h => List.mem_append_left _ h) hb) HK2.out (fun _ h => List.mem_append_right _ h) hb) rfl ⟨A1, n1, c1, A2, n2, c2, b1, b2, by simp, rfl, rfl, HM1.out.stay HK2.out hdj, HM2.out⟩ ?_
        intro t v hv
        match t, hv with
        | 0, hv => cases hv; exact HK2.out.far hbb2 (HK1.out.far hbb1 HZ0.out)
        | 1, hv => cases hv; exact HK2.out.far hbb2 (HK1.out.far hbb1 HZ1.out)
        | 2, hv => cases hv; exact HK2.out.far hbb2 (HK1.out.far hbb1 HZ2.out)
        | 3, hv => cases hv; exact HK2.out.far hbb2 (HK1.out.far hbb1 HZ3.out)
      case measure => simp [intOf]; omega
    · obtain rfl : i = n := by omega
      have hR := hPn _ hI.out
      rw [sums_all hl]
      go_wp2_with fail
      go_ret
      exact ⟨rfl, hR.1, hR.2⟩

set_option maxRecDepth 100000 in
set_option maxHeartbeats 1000000 in
theorem heldOChL (A : Option Addr) (n c : Nat) (cnts bs : List Nat) (k : Nat) (w : World) (h : HdL ChH 4 w k A n cnts bs) (hk : k + cnts.sum ≤ 1073741824) {x : Int} (hx : x = k) :
    Calls Try.prog 12 #[.slice A n c, .int .i64 x] w fun e w' => e = .returned (.int .i64 ((k + cnts.sum : Nat) : Int)) ∧ Below w.heap.size w w' := by
  have hn := h.1
  have hl := h.len
  subst hx
  have HH := Lib.hid h
  clear h
  go_enter Try.func12, Try.ntmps12
  go_wp2_with fail
  go_loopw [1, 5] (fun m i wr => ∃ (j : Nat), j ≤ n ∧ i = .int .i64 j ∧ m = .int .i64 ((k + (cnts.take j).sum : Nat) : Int) ∧ Below w.heap.size w wr) (fun _ i _ => n - (intOf i).toNat)
  case atStart => exact ⟨0, by omega, rfl, by simp, Below.refl _ _⟩
  case round =>
    obtain ⟨i, hi, rfl, rfl, hb⟩ := hrel
    by_cases hlt : i < n
    · obtain ⟨b, off, bs', cs, rfl, hcl, ⟨A1, n1, c1, A2, n2, c2, b1, b2, rfl, hcn, -, hS1, hS2⟩, hat⟩ := (HH.out.below ChH.stay hb).elem hlt
      have q0 : wr.cell? ⟨b, off + i * 4, none⟩ = some (.int .i64 ((k + (cnts.take i).sum : Nat) : Int)) := hat 0 _ rfl
      have q1 : wr.cell? ⟨b, off + i * 4 + 1, none⟩ = some (.int .i64 ((k + (cnts.take i).sum + 1 : Nat) : Int)) := hat 1 _ rfl
      have q2 : wr.cell? ⟨b, off + i * 4 + 2, none⟩ = some (.slice A1 n1 c1) := hat 2 _ rfl
      have q3 : wr.cell? ⟨b, off + i * 4 + 3, none⟩ = some (.slice A2 n2 c2) := hat 3 _ rfl
      obtain ⟨hs1, hs2⟩ := sums_step hl hlt
      generalize hkk : (cnts.take i).sum = s at *
      generalize hcc : cnts.getD i 0 = cn at *
      subst hcn
      have i0 : (0 : Int) ≤ i := by omega
      have i1 : (i : Int) < n := by omega
      have hle : k + s + (2 + n1 * 3 + n2 * 3) ≤ 1073741824 := by omega
      clear hat
      go_wp2_with fail
      refine (heldOVal A1 n1 c1 (k + s + 2) b1 _ hS1 (by omega) (by omega)).mono ?_
      rintro e w1 ⟨rfl, hb1⟩
      have q3' := below_keep hb1 _ _ q3
      have h0 : ¬ (((k + s + 2 + n1 * 3 : Nat) : Int) < 0) := by omega
      have hS2' : FlH mkXVal 3 w1 (k + s + 2 + n1 * 3) A2 n2 b2 := hS2.stay (bs' := []) (KeptL.below hb1) fun _ _ => List.not_mem_nil
      clear q0 q1 q2 q3
      go_wp2_with fail
      refine (heldOVal A2 n2 c2 (k + s + 2 + n1 * 3) b2 _ hS2' (by omega) (by omega)).mono ?_
      rintro e w2 ⟨rfl, hb2⟩
      have h1 : ¬ (((k + s + 2 + n1 * 3 + n2 * 3 : Nat) : Int) < 0) := by omega
      clear q3'
      go_wp2_with fail
      go_roundw
      case rel => exact ⟨i + 1, by omega, by go_num, by rw [hs1]; exact congrArg (Value.int .i64) (by omega), (hb.trans (hb1.mono hb.size)).trans (hb2.mono (by have h2 := hb.size; have h3 := hb1.size; omega))⟩
      case measure => simp [intOf]; omega
    · obtain rfl : i = n := by omega
      rw [sums_all hl]
      go_wp2_with fail
      go_ret
      exact ⟨rfl, hb⟩

end Go.Proofs.Ytlpfpcnafejkoaa
