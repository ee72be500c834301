/-
  Several texts in one: what the proof leans on, part 1.
-/
import Derived.Test.YtlpldhmanihnnaaGreatXa
import Derived.Test.YtlpldhmanihnnaaGreatXb
import Derived.Test.YtlpldhmanihnnaaGreatXc
import Derived.Test.YtlpldhmanihnnaaGreatXe
import Derived.Deep.RegionHeld3
import Derived.Shelf.SlLaysN
import Derived.Shelf.SlLaysE0
import Derived.Ground.SlgnProg
import Derived.Shelf.SlLaysM
import Derived.Ground.SlgmProg
import Derived.Test.YtlpldhmanihnnaaGreatProg
import Derived.RangeFuncNested
import Derived.RangeFuncBound
import Derived.RangeFuncCalls
import Derived.RangeFuncLeaves
import Derived.Shelf.Abstract
import Derived.Shelf.RegionOpen
import Derived.WalkKit
import Derived.OwnWalkIn
import Derived.TacticsInMore
import Derived.LoopNIn
import Derived.LoopIn
set_option linter.unusedVariables false
set_option linter.unusedSimpArgs false
namespace Go.Proofs.YtlpldhmanihnnaaGreat
open Go.RowKit
structure Sv where
  name : ByteArray
  db : List Dt
def SvR : Rd Sv := fun ok w cs x => ∃ (A1 : Option Addr) (n1 c1 : Nat), cs = [.string x.name, .slice A1 n1 c1] /\ Sl DtR 1 ok w A1 n1 x.db /\ (n1 <= c1)
theorem SvR.stays : Stays SvR := fun _ _ _ _ _ _ ⟨A1, n1, c1, e, h1, hcp⟩ ho hk => ⟨A1, n1, c1, e, h1.stays DtR.stays ho hk, hcp⟩
def Sv.sz (x : Sv) : Nat := x.name.size + szL Dt.sz x.db
def Sv.wf (x : Sv) : Prop := x.name.size <= maxLen /\ (x.db.length <= maxLen /\ ∀ y ∈ x.db, y.wf)
structure Ss where
  schema : List Tb
  db : List Dt
  isOpen : Bool
  start : List Dt
  saves : List Sv
def SsR : Rd Ss := fun ok w cs x => ∃ (A0 : Option Addr) (n0 c0 : Nat) (A1 : Option Addr) (n1 c1 : Nat) (A3 : Option Addr) (n3 c3 : Nat) (A4 : Option Addr) (n4 c4 : Nat), cs = [.slice A0 n0 c0, .slice A1 n1 c1, .bool x.isOpen, .slice A3 n3 c3, .slice A4 n4 c4] /\ Sl TbR 6 ok w A0 n0 x.schema /\ Sl DtR 1 ok w A1 n1 x.db /\ Sl DtR 1 ok w A3 n3 x.start /\ Sl SvR 2 ok w A4 n4 x.saves /\ (n0 <= c0 /\ n1 <= c1 /\ n3 <= c3 /\ n4 <= c4)
def Ss.sz (x : Ss) : Nat := szL Tb.sz x.schema + szL Dt.sz x.db + szL Dt.sz x.start + szL Sv.sz x.saves
def Ss.wf (x : Ss) : Prop := (x.schema.length <= maxLen /\ ∀ y ∈ x.schema, y.wf) /\ (x.db.length <= maxLen /\ ∀ y ∈ x.db, y.wf) /\ (x.start.length <= maxLen /\ ∀ y ∈ x.start, y.wf) /\ (x.saves.length <= maxLen /\ ∀ y ∈ x.saves, y.wf)
theorem SvR.at_ {ok : Nat -> Prop} {w : World} {A : Option Addr} {n : Nat} {ds : List Sv} (h : Sl SvR 2 ok w A n ds) {i : Nat} (hi : i < ds.length) :
    ∃ (b off : Nat) (A1 : Option Addr) (n1 c1 : Nat), ok b /\ A = some ⟨b, off, none⟩ /\ w.cell? ⟨b, off + i * 2, none⟩ = some (.string ds[i].name) /\ w.cell? ⟨b, off + i * 2 + 1, none⟩ = some (.slice A1 n1 c1) /\ Sl DtR 1 ok w A1 n1 ds[i].db /\ (n1 <= c1) := by
  have hl := h.1
  obtain ⟨b, off, rfl, hb, hc⟩ := h.2 (by omega)
  obtain ⟨cs, -, hR, g⟩ := hc i hi
  obtain ⟨A1, n1, c1, rfl, h1, hcp⟩ := hR
  exact ⟨b, off, A1, n1, c1, hb, rfl, g 0 _ rfl, g 1 _ rfl, h1, hcp⟩
set_option maxRecDepth 100000 in
set_option maxHeartbeats 1000000 in
theorem lawsToSave (x : Sv) (A1 : Option Addr) (n1 c1 : Nat) (ok : Nat -> Prop) (w : World) (h1 : Sl DtR 1 ok w A1 n1 x.db) (hs : x.sz <= 1048576) :
    Calls Tryz.prog 140 #[.agg #[.string x.name, .slice A1 n1 c1]] w (MadeR SvR x w) := by
  have hs1 : szL Dt.sz x.db <= 1048576 := by have := hs; unfold Sv.sz at this; omega
  have HS1 := Lib.hid hs1
  clear hs1
  clear hs
  have ra := ((Row.new w 192 #[.string x.name, .slice A1 n1 c1]).alloc (.cells #[.string ⟨#[]⟩, .slice none 0 0] 112)).alloc (.cells #[.string x.name, .slice none 0 0] 112)
  have r1 := (Row.newAt (w.alloc (.cells #[.string x.name, .slice A1 n1 c1] 192)) 112 #[.string ⟨#[]⟩, .slice none 0 0] (w.heap.size + 1) (by simp)).alloc (.cells #[.string x.name, .slice none 0 0] 112)
  have r2 := Row.newAt ((w.alloc (.cells #[.string x.name, .slice A1 n1 c1] 192)).alloc (.cells #[.string ⟨#[]⟩, .slice none 0 0] 112)) 112 #[.string x.name, .slice none 0 0] (w.heap.size + 1 + 1) (by simp)
  have hb0 := ((((Below.refl w.heap.size w).alloc (Nat.le_refl _) (.cells #[.string x.name, .slice A1 n1 c1] 192)).alloc (by simp) (.cells #[.string ⟨#[]⟩, .slice none 0 0] 112)).alloc (by simp; omega) (.cells #[.string x.name, .slice none 0 0] 112))
  have hz0 : w.heap.size + 3 <= (((w.alloc (.cells #[.string x.name, .slice A1 n1 c1] 192)).alloc (.cells #[.string ⟨#[]⟩, .slice none 0 0] 112)).alloc (.cells #[.string x.name, .slice none 0 0] 112)).heap.size := by simp
  go_enter Tryz.func140, Tryz.ntmps140
  go_wp2_with fail
  generalize ((w.alloc (.cells #[.string x.name, .slice A1 n1 c1] 192)).alloc (.cells #[.string ⟨#[]⟩, .slice none 0 0] 112)).alloc (.cells #[.string x.name, .slice none 0 0] 112) = x0 at *
  refine (lawsToDataL A1 n1 c1 x.db ok _ (h1.below DtR.stays hb0) HS1.out).mono ?_
  rintro e w1 ⟨B1, d1, rfl, hcp1, t1, hc0⟩
  have u1 := t1.stays DtR.stays (ok' := okF (w.heap.size + 3) w1) (fun b hb' => hb'.mono (by omega)) (fun p v _ hp => hp)
  clear t1
  have ra := ra.below hc0
  have r1 := r1.below hc0
  have r2 := r2.below hc0
  have hbx0 := hb0.trans (hc0.mono hb0.size)
  have hz1 : w.heap.size + 3 <= w1.heap.size := Nat.le_trans hz0 hc0.size
  obtain ⟨⟨a_0_0, a_0_1⟩, -⟩ := ra.all2
  obtain ⟨⟨b_0_0, b_0_1⟩, ⟨f_0_0, f_0_1⟩⟩ := r2.all2
  obtain ⟨⟨g_0_0, g_0_1⟩, ⟨k_0_0, k_0_1⟩⟩ := r1.all2
  have rz : Row ((((w1).setCell ⟨w.heap.size + 1 + 1, 1, none⟩ (.slice B1 n1 d1)).setCell ⟨w.heap.size + 1, 0, none⟩ (.string x.name)).setCell ⟨w.heap.size + 1, 1, none⟩ (.slice B1 n1 d1)) (w.heap.size + 1) 112 #[.string x.name, .slice B1 n1 d1] := (((r1).far (by simp) _).set 0 _).set 1 _
  obtain ⟨⟨z0, z1⟩, -⟩ := rz.all2
  have y1 : Sl DtR 1 (okF (w.heap.size + 3) ((((w1).setCell ⟨w.heap.size + 1 + 1, 1, none⟩ (.slice B1 n1 d1)).setCell ⟨w.heap.size + 1, 0, none⟩ (.string x.name)).setCell ⟨w.heap.size + 1, 1, none⟩ (.slice B1 n1 d1))) ((((w1).setCell ⟨w.heap.size + 1 + 1, 1, none⟩ (.slice B1 n1 d1)).setCell ⟨w.heap.size + 1, 0, none⟩ (.string x.name)).setCell ⟨w.heap.size + 1, 1, none⟩ (.slice B1 n1 d1)) B1 n1 x.db := (((u1).setF DtR.stays (by simp) _).setF DtR.stays (by simp) _).setF DtR.stays (by simp) _
  have hbz : Below w.heap.size w ((((w1).setCell ⟨w.heap.size + 1 + 1, 1, none⟩ (.slice B1 n1 d1)).setCell ⟨w.heap.size + 1, 0, none⟩ (.string x.name)).setCell ⟨w.heap.size + 1, 1, none⟩ (.slice B1 n1 d1)) := (((hbx0).setCell (by simp; try omega) _).setCell (by simp; try omega) _).setCell (by simp; try omega) _
  clear ra r1 r2 rz
  go_wp2_with fail
  exact bodyPost_ret (v := .agg #[.string x.name, .slice B1 n1 d1]) (by simp [results, Tryz.results140, go_sem, z0, z1]) rfl ⟨[.string x.name, .slice B1 n1 d1], rfl, ⟨_, _, _, rfl, y1.stays DtR.stays (fun b hb' => hb'.mono (by omega)) (fun p v _ hp => hp), hcp1⟩, hbz⟩
theorem infoSaveT : (Tryz.prog.info? 112).map (fun i => (i.zero, i.size, i.bytes)) = some (some (.agg #[.string ⟨#[]⟩, .slice none 0 0]), 2, 40) := by kernel_rfl
set_option maxRecDepth 100000 in
set_option maxHeartbeats 1000000 in
theorem lawsToSaveL (A : Option Addr) (n c : Nat) (l : List Sv) (ok : Nat -> Prop) (w : World) (h : Sl SvR 2 ok w A n l) (hs : szL Sv.sz l <= 1048576) :
    Calls Tryz.prog 81 #[.slice A n c] w (MadeSl SvR 2 n l w) := by
  obtain rfl : l.length = n := h.1
  have hn : l.length <= 1048576 := by unfold szL at hs; omega
  have HS := Lib.hid hs
  clear hs
  have hmk := fun w => mk_rows (P := Tryz.prog) Tryz.underlying46 infoSaveT (by omega) l.length hn w
  go_enter Tryz.func81, Tryz.ntmps81
  go_wp2
  have row := Row.new w 112 (madeCells #[.string ⟨#[]⟩, .slice none 0 0] (l.length * 2))
  have hb0 := (Below.refl w.heap.size w).alloc (Nat.le_refl _) (.cells (madeCells #[.string ⟨#[]⟩, .slice none 0 0] (l.length * 2)) 112)
  have hsz := size_madeCells #[.string ⟨#[]⟩, .slice none 0 0] (l.length * 2)
  have hx0 : (w.alloc (.cells (madeCells #[.string ⟨#[]⟩, .slice none 0 0] (l.length * 2)) 112)).heap.size = w.heap.size + 1 := by simp
  generalize w.alloc (.cells (madeCells #[.string ⟨#[]⟩, .slice none 0 0] (l.length * 2)) 112) = x at *
  generalize madeCells #[.string ⟨#[]⟩, .slice none 0 0] (l.length * 2) = cs0 at *
  have HZ := Lib.hid hsz
  have HX0 := Lib.hid hx0
  clear hmk hsz hx0
  go_loopw [4] (fun i wr => ∃ (k : Nat) (cs : Array Value), k <= l.length /\ i = .int .i64 k /\ Row wr w.heap.size 112 cs /\ Hid (cs.size = l.length * 2) /\ Hid (LaidR SvR 2 (okF (w.heap.size + 1) wr) wr cs k l) /\ Hid (w.heap.size + 1 <= wr.heap.size) /\ Below w.heap.size w wr) (fun i _ => l.length - (intOf i).toNat)
  case atStart => exact ⟨0, cs0, by omega, rfl, row, Lib.hid (by rw [HZ.out]), Lib.hid (LaidR.zero _ _ _ _ _ _), Lib.hid (by rw [HX0.out]; exact Nat.le_refl _), hb0⟩
  case round =>
    obtain ⟨k, cs, hk, rfl, hrow, hcs, hlaid, hgw, hb⟩ := hrel
    by_cases hlt : k < l.length
    · obtain ⟨b, off, A1, n1, c1, -, rfl, q0, q1, s1, -⟩ := SvR.at_ (h.below SvR.stays hb) hlt
      have hsz1 : k * 2 + 2 <= cs.size := by rw [hcs.out]; omega
      have hszk : l[k].sz <= 1048576 := by have := HS.out; have := sum_mem_le (Sv.sz) l k hlt; unfold szL at *; (try simp only at *); omega
      have HSK := Lib.hid hszk
      clear hszk
      go_wp2_with fail
      refine (lawsToSave l[k] A1 n1 c1 ok _ s1 HSK.out).mono ?_
      rintro e w1 ⟨cs', rfl, hR1, hb1⟩
      obtain ⟨B1, m1, d1, rfl, t1, hcp⟩ := hR1
      have hrow1 := hrow.below hb1
      have hgw1 : w.heap.size + 1 <= w1.heap.size := Nat.le_trans hgw.out hb1.size
      have HGW := Lib.hid hgw1
      clear hgw1
      have hl1 := Lib.hid (hlaid.out.belowF SvR.stays hb1)
      have q : ∀ j, j < 2 -> w1.cell? ⟨w.heap.size, k * 2 + j, none⟩ = some (cs[k * 2 + j]?.getD undef) := fun j hj => by
        rw [hrow1.cell, Array.getElem?_eq_getElem (by omega)]; rfl
      have z0 : w1.cell? ⟨w.heap.size, k * 2, none⟩ = some (cs[k * 2]?.getD undef) := q 0 (by omega)
      have z1 := q 1 (by omega)
      have f0 := hrow1.free (k * 2)
      have f1 := hrow1.free (k * 2 + 1)
      clear q
      have HR := Lib.hid hrow1
      clear hrow1 hrow q0 q1
      go_wp2_with fail
      go_roundw
      case rel =>
        have y1 := (((t1.stays DtR.stays (ok' := okF (w.heap.size + 1) w1) (fun b hb' => hb'.mono hgw.out) (fun p v _ hp => hp))).setF DtR.stays (p := ⟨w.heap.size, k * 2, none⟩) (by simp) (.string l[k].name)).setF DtR.stays (p := ⟨w.heap.size, k * 2 + 1, none⟩) (by simp) (.slice B1 m1 d1)
        exact ⟨k + 1, _, by omega, by go_num, ((HR.out).set _ _).set _ _, Lib.hid (by simp [hcs.out]), Lib.hid ((((hl1.out).setF SvR.stays (by simp) _).setF SvR.stays (by simp) _).more hlt (c := [.string l[k].name, .slice B1 m1 d1]) rfl ⟨_, _, _, rfl, y1, hcp⟩ (hold2 cs k _ _) (fresh2 cs k _ _ hsz1)), Lib.hid (by simpa using HGW.out), ((hb.trans (hb1.mono hb.size)).setCell (by simp) _).setCell (by simp) _⟩
      case measure => simp [intOf]; omega
    · obtain rfl : k = l.length := by omega
      go_wp2
      go_ret
      exact ⟨_, _, rfl, Nat.le_refl _, (sl_of_laid (ok := okF w.heap.size _) hrow ⟨Nat.le_refl _, hgw.out, fun off => hrow.free off⟩ (fun i hi hlt' => by
        obtain ⟨c', h1, h2, h3⟩ := hlaid.out i hi hlt'
        exact ⟨c', h1, SvR.stays _ _ _ _ _ _ h2 (fun b hb' => hb'.mono (Nat.le_succ _)) (fun p v _ hp => hp), h3⟩) (Nat.le_refl _)), hb⟩
set_option maxRecDepth 100000 in
set_option maxHeartbeats 1000000 in
theorem lawsToSession (x : Ss) (A0 : Option Addr) (n0 c0 : Nat) (A1 : Option Addr) (n1 c1 : Nat) (A3 : Option Addr) (n3 c3 : Nat) (A4 : Option Addr) (n4 c4 : Nat) (ok : Nat -> Prop) (w : World) (h0 : Sl TbR 6 ok w A0 n0 x.schema) (h1 : Sl DtR 1 ok w A1 n1 x.db) (h3 : Sl DtR 1 ok w A3 n3 x.start) (h4 : Sl SvR 2 ok w A4 n4 x.saves) (hs : x.sz <= 1048576) :
    Calls Tryz.prog 34 #[.agg #[.slice A0 n0 c0, .slice A1 n1 c1, .bool x.isOpen, .slice A3 n3 c3, .slice A4 n4 c4]] w (MadeR SsR x w) := by
  have hs0 : szL Tb.sz x.schema <= 1048576 := by have := hs; unfold Ss.sz at this; omega
  have HS0 := Lib.hid hs0
  clear hs0
  have hs1 : szL Dt.sz x.db <= 1048576 := by have := hs; unfold Ss.sz at this; omega
  have HS1 := Lib.hid hs1
  clear hs1
  have hs3 : szL Dt.sz x.start <= 1048576 := by have := hs; unfold Ss.sz at this; omega
  have HS3 := Lib.hid hs3
  clear hs3
  have hs4 : szL Sv.sz x.saves <= 1048576 := by have := hs; unfold Ss.sz at this; omega
  have HS4 := Lib.hid hs4
  clear hs4
  clear hs
  have ra := ((Row.new w 43 #[.slice A0 n0 c0, .slice A1 n1 c1, .bool x.isOpen, .slice A3 n3 c3, .slice A4 n4 c4]).alloc (.cells #[.slice none 0 0, .slice none 0 0, .bool false, .slice none 0 0, .slice none 0 0] 48)).alloc (.cells #[.slice none 0 0, .slice none 0 0, .bool false, .slice none 0 0, .slice none 0 0] 48)
  have r1 := (Row.newAt (w.alloc (.cells #[.slice A0 n0 c0, .slice A1 n1 c1, .bool x.isOpen, .slice A3 n3 c3, .slice A4 n4 c4] 43)) 48 #[.slice none 0 0, .slice none 0 0, .bool false, .slice none 0 0, .slice none 0 0] (w.heap.size + 1) (by simp)).alloc (.cells #[.slice none 0 0, .slice none 0 0, .bool false, .slice none 0 0, .slice none 0 0] 48)
  have r2 := Row.newAt ((w.alloc (.cells #[.slice A0 n0 c0, .slice A1 n1 c1, .bool x.isOpen, .slice A3 n3 c3, .slice A4 n4 c4] 43)).alloc (.cells #[.slice none 0 0, .slice none 0 0, .bool false, .slice none 0 0, .slice none 0 0] 48)) 48 #[.slice none 0 0, .slice none 0 0, .bool false, .slice none 0 0, .slice none 0 0] (w.heap.size + 1 + 1) (by simp)
  have hb0 := ((((Below.refl w.heap.size w).alloc (Nat.le_refl _) (.cells #[.slice A0 n0 c0, .slice A1 n1 c1, .bool x.isOpen, .slice A3 n3 c3, .slice A4 n4 c4] 43)).alloc (by simp) (.cells #[.slice none 0 0, .slice none 0 0, .bool false, .slice none 0 0, .slice none 0 0] 48)).alloc (by simp; omega) (.cells #[.slice none 0 0, .slice none 0 0, .bool false, .slice none 0 0, .slice none 0 0] 48))
  have hz0 : w.heap.size + 3 <= (((w.alloc (.cells #[.slice A0 n0 c0, .slice A1 n1 c1, .bool x.isOpen, .slice A3 n3 c3, .slice A4 n4 c4] 43)).alloc (.cells #[.slice none 0 0, .slice none 0 0, .bool false, .slice none 0 0, .slice none 0 0] 48)).alloc (.cells #[.slice none 0 0, .slice none 0 0, .bool false, .slice none 0 0, .slice none 0 0] 48)).heap.size := by simp
  go_enter Tryz.func34, Tryz.ntmps34
  go_wp2_with fail
  generalize ((w.alloc (.cells #[.slice A0 n0 c0, .slice A1 n1 c1, .bool x.isOpen, .slice A3 n3 c3, .slice A4 n4 c4] 43)).alloc (.cells #[.slice none 0 0, .slice none 0 0, .bool false, .slice none 0 0, .slice none 0 0] 48)).alloc (.cells #[.slice none 0 0, .slice none 0 0, .bool false, .slice none 0 0, .slice none 0 0] 48) = x0 at *
  refine (lawsToTableL A0 n0 c0 x.schema ok _ (h0.below TbR.stays hb0) HS0.out).mono ?_
  rintro e w1 ⟨B0, d0, rfl, hcp0, t0, hc0⟩
  have u0 := t0.stays TbR.stays (ok' := okF (w.heap.size + 3) w1) (fun b hb' => hb'.mono (by omega)) (fun p v _ hp => hp)
  clear t0
  have ra := ra.below hc0
  have r1 := r1.below hc0
  have r2 := r2.below hc0
  have hbx0 := hb0.trans (hc0.mono hb0.size)
  have hz1 : w.heap.size + 3 <= w1.heap.size := Nat.le_trans hz0 hc0.size
  obtain ⟨⟨a_0_0, a_0_1, a_0_2, a_0_3, a_0_4⟩, -⟩ := ra.five
  obtain ⟨⟨b_0_0, b_0_1, b_0_2, b_0_3, b_0_4⟩, ⟨f_0_0, f_0_1, f_0_2, f_0_3, f_0_4⟩⟩ := r2.five
  go_wp2_with fail
  have ra' : Row ((w1).setCell ⟨w.heap.size + 1 + 1, 0, none⟩ (.slice B0 n0 d0)) w.heap.size 43 #[.slice A0 n0 c0, .slice A1 n1 c1, .bool x.isOpen, .slice A3 n3 c3, .slice A4 n4 c4] := (ra).far (by simp; try omega) _
  have r1' : Row ((w1).setCell ⟨w.heap.size + 1 + 1, 0, none⟩ (.slice B0 n0 d0)) (w.heap.size + 1) 48 #[.slice none 0 0, .slice none 0 0, .bool false, .slice none 0 0, .slice none 0 0] := (r1).far (by simp) _
  have r2' : Row ((w1).setCell ⟨w.heap.size + 1 + 1, 0, none⟩ (.slice B0 n0 d0)) (w.heap.size + 1 + 1) 48 #[.slice B0 n0 d0, .slice none 0 0, .bool false, .slice none 0 0, .slice none 0 0] := (r2).set 0 _
  have hb1 : Below w.heap.size w ((w1).setCell ⟨w.heap.size + 1 + 1, 0, none⟩ (.slice B0 n0 d0)) := (hbx0).setCell (by simp; try omega) _
  have hz1' : w.heap.size + 3 <= ((w1).setCell ⟨w.heap.size + 1 + 1, 0, none⟩ (.slice B0 n0 d0)).heap.size := by simpa using hz1
  have u0' : Sl TbR 6 (okF (w.heap.size + 3) ((w1).setCell ⟨w.heap.size + 1 + 1, 0, none⟩ (.slice B0 n0 d0))) ((w1).setCell ⟨w.heap.size + 1 + 1, 0, none⟩ (.slice B0 n0 d0)) B0 n0 x.schema := (u0).setF TbR.stays (by simp) _
  clear ra r1 r2 hz1 u0 a_0_0 a_0_1 a_0_2 a_0_3 a_0_4 b_0_0 b_0_1 b_0_2 b_0_3 b_0_4 f_0_0 f_0_1 f_0_2 f_0_3 f_0_4
  generalize (w1).setCell ⟨w.heap.size + 1 + 1, 0, none⟩ (.slice B0 n0 d0) = x1 at *
  have ra := ra'
  have r1 := r1'
  have r2 := r2'
  have hz1 := hz1'
  have u0 := u0'
  clear ra' r1' r2' hz1' u0'
  refine (lawsToDataL A1 n1 c1 x.db ok _ (h1.below DtR.stays hb1) HS1.out).mono ?_
  rintro e w2 ⟨B1, d1, rfl, hcp1, t1, hc1⟩
  have u1 := t1.stays DtR.stays (ok' := okF (w.heap.size + 3) w2) (fun b hb' => hb'.mono (by omega)) (fun p v _ hp => hp)
  clear t1
  have ra := ra.below hc1
  have r1 := r1.below hc1
  have r2 := r2.below hc1
  have hbx1 := hb1.trans (hc1.mono hb1.size)
  have hz2 : w.heap.size + 3 <= w2.heap.size := Nat.le_trans hz1 hc1.size
  have u0 := u0.belowF TbR.stays hc1
  obtain ⟨⟨a_1_0, a_1_1, a_1_2, a_1_3, a_1_4⟩, -⟩ := ra.five
  obtain ⟨⟨b_1_0, b_1_1, b_1_2, b_1_3, b_1_4⟩, ⟨f_1_0, f_1_1, f_1_2, f_1_3, f_1_4⟩⟩ := r2.five
  go_wp2_with fail
  have ra' : Row (((w2).setCell ⟨w.heap.size + 1 + 1, 1, none⟩ (.slice B1 n1 d1)).setCell ⟨w.heap.size + 1 + 1, 2, none⟩ (.bool x.isOpen)) w.heap.size 43 #[.slice A0 n0 c0, .slice A1 n1 c1, .bool x.isOpen, .slice A3 n3 c3, .slice A4 n4 c4] := ((ra).far (by simp; try omega) _).far (by simp; try omega) _
  have r1' : Row (((w2).setCell ⟨w.heap.size + 1 + 1, 1, none⟩ (.slice B1 n1 d1)).setCell ⟨w.heap.size + 1 + 1, 2, none⟩ (.bool x.isOpen)) (w.heap.size + 1) 48 #[.slice none 0 0, .slice none 0 0, .bool false, .slice none 0 0, .slice none 0 0] := ((r1).far (by simp) _).far (by simp) _
  have r2' : Row (((w2).setCell ⟨w.heap.size + 1 + 1, 1, none⟩ (.slice B1 n1 d1)).setCell ⟨w.heap.size + 1 + 1, 2, none⟩ (.bool x.isOpen)) (w.heap.size + 1 + 1) 48 #[.slice B0 n0 d0, .slice B1 n1 d1, .bool x.isOpen, .slice none 0 0, .slice none 0 0] := ((r2).set 1 _).set 2 _
  have hb2 : Below w.heap.size w (((w2).setCell ⟨w.heap.size + 1 + 1, 1, none⟩ (.slice B1 n1 d1)).setCell ⟨w.heap.size + 1 + 1, 2, none⟩ (.bool x.isOpen)) := ((hbx1).setCell (by simp; try omega) _).setCell (by simp; try omega) _
  have hz2' : w.heap.size + 3 <= (((w2).setCell ⟨w.heap.size + 1 + 1, 1, none⟩ (.slice B1 n1 d1)).setCell ⟨w.heap.size + 1 + 1, 2, none⟩ (.bool x.isOpen)).heap.size := by simpa using hz2
  have u0' : Sl TbR 6 (okF (w.heap.size + 3) (((w2).setCell ⟨w.heap.size + 1 + 1, 1, none⟩ (.slice B1 n1 d1)).setCell ⟨w.heap.size + 1 + 1, 2, none⟩ (.bool x.isOpen))) (((w2).setCell ⟨w.heap.size + 1 + 1, 1, none⟩ (.slice B1 n1 d1)).setCell ⟨w.heap.size + 1 + 1, 2, none⟩ (.bool x.isOpen)) B0 n0 x.schema := ((u0).setF TbR.stays (by simp) _).setF TbR.stays (by simp) _
  have u1' : Sl DtR 1 (okF (w.heap.size + 3) (((w2).setCell ⟨w.heap.size + 1 + 1, 1, none⟩ (.slice B1 n1 d1)).setCell ⟨w.heap.size + 1 + 1, 2, none⟩ (.bool x.isOpen))) (((w2).setCell ⟨w.heap.size + 1 + 1, 1, none⟩ (.slice B1 n1 d1)).setCell ⟨w.heap.size + 1 + 1, 2, none⟩ (.bool x.isOpen)) B1 n1 x.db := ((u1).setF DtR.stays (by simp) _).setF DtR.stays (by simp) _
  clear ra r1 r2 hz2 u0 u1 a_1_0 a_1_1 a_1_2 a_1_3 a_1_4 b_1_0 b_1_1 b_1_2 b_1_3 b_1_4 f_1_0 f_1_1 f_1_2 f_1_3 f_1_4
  generalize ((w2).setCell ⟨w.heap.size + 1 + 1, 1, none⟩ (.slice B1 n1 d1)).setCell ⟨w.heap.size + 1 + 1, 2, none⟩ (.bool x.isOpen) = x2 at *
  have ra := ra'
  have r1 := r1'
  have r2 := r2'
  have hz2 := hz2'
  have u0 := u0'
  have u1 := u1'
  clear ra' r1' r2' hz2' u0' u1'
  refine (lawsToDataL A3 n3 c3 x.start ok _ (h3.below DtR.stays hb2) HS3.out).mono ?_
  rintro e w3 ⟨B3, d3, rfl, hcp3, t3, hc2⟩
  have u3 := t3.stays DtR.stays (ok' := okF (w.heap.size + 3) w3) (fun b hb' => hb'.mono (by omega)) (fun p v _ hp => hp)
  clear t3
  have ra := ra.below hc2
  have r1 := r1.below hc2
  have r2 := r2.below hc2
  have hbx2 := hb2.trans (hc2.mono hb2.size)
  have hz3 : w.heap.size + 3 <= w3.heap.size := Nat.le_trans hz2 hc2.size
  have u0 := u0.belowF TbR.stays hc2
  have u1 := u1.belowF DtR.stays hc2
  obtain ⟨⟨a_2_0, a_2_1, a_2_2, a_2_3, a_2_4⟩, -⟩ := ra.five
  obtain ⟨⟨b_2_0, b_2_1, b_2_2, b_2_3, b_2_4⟩, ⟨f_2_0, f_2_1, f_2_2, f_2_3, f_2_4⟩⟩ := r2.five
  go_wp2_with fail
  have ra' : Row ((w3).setCell ⟨w.heap.size + 1 + 1, 3, none⟩ (.slice B3 n3 d3)) w.heap.size 43 #[.slice A0 n0 c0, .slice A1 n1 c1, .bool x.isOpen, .slice A3 n3 c3, .slice A4 n4 c4] := (ra).far (by simp; try omega) _
  have r1' : Row ((w3).setCell ⟨w.heap.size + 1 + 1, 3, none⟩ (.slice B3 n3 d3)) (w.heap.size + 1) 48 #[.slice none 0 0, .slice none 0 0, .bool false, .slice none 0 0, .slice none 0 0] := (r1).far (by simp) _
  have r2' : Row ((w3).setCell ⟨w.heap.size + 1 + 1, 3, none⟩ (.slice B3 n3 d3)) (w.heap.size + 1 + 1) 48 #[.slice B0 n0 d0, .slice B1 n1 d1, .bool x.isOpen, .slice B3 n3 d3, .slice none 0 0] := (r2).set 3 _
  have hb3 : Below w.heap.size w ((w3).setCell ⟨w.heap.size + 1 + 1, 3, none⟩ (.slice B3 n3 d3)) := (hbx2).setCell (by simp; try omega) _
  have hz3' : w.heap.size + 3 <= ((w3).setCell ⟨w.heap.size + 1 + 1, 3, none⟩ (.slice B3 n3 d3)).heap.size := by simpa using hz3
  have u0' : Sl TbR 6 (okF (w.heap.size + 3) ((w3).setCell ⟨w.heap.size + 1 + 1, 3, none⟩ (.slice B3 n3 d3))) ((w3).setCell ⟨w.heap.size + 1 + 1, 3, none⟩ (.slice B3 n3 d3)) B0 n0 x.schema := (u0).setF TbR.stays (by simp) _
  have u1' : Sl DtR 1 (okF (w.heap.size + 3) ((w3).setCell ⟨w.heap.size + 1 + 1, 3, none⟩ (.slice B3 n3 d3))) ((w3).setCell ⟨w.heap.size + 1 + 1, 3, none⟩ (.slice B3 n3 d3)) B1 n1 x.db := (u1).setF DtR.stays (by simp) _
  have u3' : Sl DtR 1 (okF (w.heap.size + 3) ((w3).setCell ⟨w.heap.size + 1 + 1, 3, none⟩ (.slice B3 n3 d3))) ((w3).setCell ⟨w.heap.size + 1 + 1, 3, none⟩ (.slice B3 n3 d3)) B3 n3 x.start := (u3).setF DtR.stays (by simp) _
  clear ra r1 r2 hz3 u0 u1 u3 a_2_0 a_2_1 a_2_2 a_2_3 a_2_4 b_2_0 b_2_1 b_2_2 b_2_3 b_2_4 f_2_0 f_2_1 f_2_2 f_2_3 f_2_4
  generalize (w3).setCell ⟨w.heap.size + 1 + 1, 3, none⟩ (.slice B3 n3 d3) = x3 at *
  have ra := ra'
  have r1 := r1'
  have r2 := r2'
  have hz3 := hz3'
  have u0 := u0'
  have u1 := u1'
  have u3 := u3'
  clear ra' r1' r2' hz3' u0' u1' u3'
  refine (lawsToSaveL A4 n4 c4 x.saves ok _ (h4.below SvR.stays hb3) HS4.out).mono ?_
  rintro e w4 ⟨B4, d4, rfl, hcp4, t4, hc3⟩
  have u4 := t4.stays SvR.stays (ok' := okF (w.heap.size + 3) w4) (fun b hb' => hb'.mono (by omega)) (fun p v _ hp => hp)
  clear t4
  have ra := ra.below hc3
  have r1 := r1.below hc3
  have r2 := r2.below hc3
  have hbx3 := hb3.trans (hc3.mono hb3.size)
  have hz4 : w.heap.size + 3 <= w4.heap.size := Nat.le_trans hz3 hc3.size
  have u0 := u0.belowF TbR.stays hc3
  have u1 := u1.belowF DtR.stays hc3
  have u3 := u3.belowF DtR.stays hc3
  obtain ⟨⟨a_3_0, a_3_1, a_3_2, a_3_3, a_3_4⟩, -⟩ := ra.five
  obtain ⟨⟨b_3_0, b_3_1, b_3_2, b_3_3, b_3_4⟩, ⟨f_3_0, f_3_1, f_3_2, f_3_3, f_3_4⟩⟩ := r2.five
  obtain ⟨⟨g_3_0, g_3_1, g_3_2, g_3_3, g_3_4⟩, ⟨k_3_0, k_3_1, k_3_2, k_3_3, k_3_4⟩⟩ := r1.five
  have rz : Row (((((((w4).setCell ⟨w.heap.size + 1 + 1, 4, none⟩ (.slice B4 n4 d4)).setCell ⟨w.heap.size + 1, 0, none⟩ (.slice B0 n0 d0)).setCell ⟨w.heap.size + 1, 1, none⟩ (.slice B1 n1 d1)).setCell ⟨w.heap.size + 1, 2, none⟩ (.bool x.isOpen)).setCell ⟨w.heap.size + 1, 3, none⟩ (.slice B3 n3 d3)).setCell ⟨w.heap.size + 1, 4, none⟩ (.slice B4 n4 d4)) (w.heap.size + 1) 48 #[.slice B0 n0 d0, .slice B1 n1 d1, .bool x.isOpen, .slice B3 n3 d3, .slice B4 n4 d4] := ((((((r1).far (by simp) _).set 0 _).set 1 _).set 2 _).set 3 _).set 4 _
  obtain ⟨⟨z0, z1, z2, z3, z4⟩, -⟩ := rz.five
  have y0 : Sl TbR 6 (okF (w.heap.size + 3) (((((((w4).setCell ⟨w.heap.size + 1 + 1, 4, none⟩ (.slice B4 n4 d4)).setCell ⟨w.heap.size + 1, 0, none⟩ (.slice B0 n0 d0)).setCell ⟨w.heap.size + 1, 1, none⟩ (.slice B1 n1 d1)).setCell ⟨w.heap.size + 1, 2, none⟩ (.bool x.isOpen)).setCell ⟨w.heap.size + 1, 3, none⟩ (.slice B3 n3 d3)).setCell ⟨w.heap.size + 1, 4, none⟩ (.slice B4 n4 d4))) (((((((w4).setCell ⟨w.heap.size + 1 + 1, 4, none⟩ (.slice B4 n4 d4)).setCell ⟨w.heap.size + 1, 0, none⟩ (.slice B0 n0 d0)).setCell ⟨w.heap.size + 1, 1, none⟩ (.slice B1 n1 d1)).setCell ⟨w.heap.size + 1, 2, none⟩ (.bool x.isOpen)).setCell ⟨w.heap.size + 1, 3, none⟩ (.slice B3 n3 d3)).setCell ⟨w.heap.size + 1, 4, none⟩ (.slice B4 n4 d4)) B0 n0 x.schema := ((((((u0).setF TbR.stays (by simp) _).setF TbR.stays (by simp) _).setF TbR.stays (by simp) _).setF TbR.stays (by simp) _).setF TbR.stays (by simp) _).setF TbR.stays (by simp) _
  have y1 : Sl DtR 1 (okF (w.heap.size + 3) (((((((w4).setCell ⟨w.heap.size + 1 + 1, 4, none⟩ (.slice B4 n4 d4)).setCell ⟨w.heap.size + 1, 0, none⟩ (.slice B0 n0 d0)).setCell ⟨w.heap.size + 1, 1, none⟩ (.slice B1 n1 d1)).setCell ⟨w.heap.size + 1, 2, none⟩ (.bool x.isOpen)).setCell ⟨w.heap.size + 1, 3, none⟩ (.slice B3 n3 d3)).setCell ⟨w.heap.size + 1, 4, none⟩ (.slice B4 n4 d4))) (((((((w4).setCell ⟨w.heap.size + 1 + 1, 4, none⟩ (.slice B4 n4 d4)).setCell ⟨w.heap.size + 1, 0, none⟩ (.slice B0 n0 d0)).setCell ⟨w.heap.size + 1, 1, none⟩ (.slice B1 n1 d1)).setCell ⟨w.heap.size + 1, 2, none⟩ (.bool x.isOpen)).setCell ⟨w.heap.size + 1, 3, none⟩ (.slice B3 n3 d3)).setCell ⟨w.heap.size + 1, 4, none⟩ (.slice B4 n4 d4)) B1 n1 x.db := ((((((u1).setF DtR.stays (by simp) _).setF DtR.stays (by simp) _).setF DtR.stays (by simp) _).setF DtR.stays (by simp) _).setF DtR.stays (by simp) _).setF DtR.stays (by simp) _
  have y3 : Sl DtR 1 (okF (w.heap.size + 3) (((((((w4).setCell ⟨w.heap.size + 1 + 1, 4, none⟩ (.slice B4 n4 d4)).setCell ⟨w.heap.size + 1, 0, none⟩ (.slice B0 n0 d0)).setCell ⟨w.heap.size + 1, 1, none⟩ (.slice B1 n1 d1)).setCell ⟨w.heap.size + 1, 2, none⟩ (.bool x.isOpen)).setCell ⟨w.heap.size + 1, 3, none⟩ (.slice B3 n3 d3)).setCell ⟨w.heap.size + 1, 4, none⟩ (.slice B4 n4 d4))) (((((((w4).setCell ⟨w.heap.size + 1 + 1, 4, none⟩ (.slice B4 n4 d4)).setCell ⟨w.heap.size + 1, 0, none⟩ (.slice B0 n0 d0)).setCell ⟨w.heap.size + 1, 1, none⟩ (.slice B1 n1 d1)).setCell ⟨w.heap.size + 1, 2, none⟩ (.bool x.isOpen)).setCell ⟨w.heap.size + 1, 3, none⟩ (.slice B3 n3 d3)).setCell ⟨w.heap.size + 1, 4, none⟩ (.slice B4 n4 d4)) B3 n3 x.start := ((((((u3).setF DtR.stays (by simp) _).setF DtR.stays (by simp) _).setF DtR.stays (by simp) _).setF DtR.stays (by simp) _).setF DtR.stays (by simp) _).setF DtR.stays (by simp) _
  have y4 : Sl SvR 2 (okF (w.heap.size + 3) (((((((w4).setCell ⟨w.heap.size + 1 + 1, 4, none⟩ (.slice B4 n4 d4)).setCell ⟨w.heap.size + 1, 0, none⟩ (.slice B0 n0 d0)).setCell ⟨w.heap.size + 1, 1, none⟩ (.slice B1 n1 d1)).setCell ⟨w.heap.size + 1, 2, none⟩ (.bool x.isOpen)).setCell ⟨w.heap.size + 1, 3, none⟩ (.slice B3 n3 d3)).setCell ⟨w.heap.size + 1, 4, none⟩ (.slice B4 n4 d4))) (((((((w4).setCell ⟨w.heap.size + 1 + 1, 4, none⟩ (.slice B4 n4 d4)).setCell ⟨w.heap.size + 1, 0, none⟩ (.slice B0 n0 d0)).setCell ⟨w.heap.size + 1, 1, none⟩ (.slice B1 n1 d1)).setCell ⟨w.heap.size + 1, 2, none⟩ (.bool x.isOpen)).setCell ⟨w.heap.size + 1, 3, none⟩ (.slice B3 n3 d3)).setCell ⟨w.heap.size + 1, 4, none⟩ (.slice B4 n4 d4)) B4 n4 x.saves := ((((((u4).setF SvR.stays (by simp) _).setF SvR.stays (by simp) _).setF SvR.stays (by simp) _).setF SvR.stays (by simp) _).setF SvR.stays (by simp) _).setF SvR.stays (by simp) _
  have hbz : Below w.heap.size w (((((((w4).setCell ⟨w.heap.size + 1 + 1, 4, none⟩ (.slice B4 n4 d4)).setCell ⟨w.heap.size + 1, 0, none⟩ (.slice B0 n0 d0)).setCell ⟨w.heap.size + 1, 1, none⟩ (.slice B1 n1 d1)).setCell ⟨w.heap.size + 1, 2, none⟩ (.bool x.isOpen)).setCell ⟨w.heap.size + 1, 3, none⟩ (.slice B3 n3 d3)).setCell ⟨w.heap.size + 1, 4, none⟩ (.slice B4 n4 d4)) := ((((((hbx3).setCell (by simp; try omega) _).setCell (by simp; try omega) _).setCell (by simp; try omega) _).setCell (by simp; try omega) _).setCell (by simp; try omega) _).setCell (by simp; try omega) _
  clear ra r1 r2 rz
  go_wp2_with fail
  exact bodyPost_ret (v := .agg #[.slice B0 n0 d0, .slice B1 n1 d1, .bool x.isOpen, .slice B3 n3 d3, .slice B4 n4 d4]) (by simp [results, Tryz.results34, go_sem, z0, z1, z2, z3, z4]) rfl ⟨[.slice B0 n0 d0, .slice B1 n1 d1, .bool x.isOpen, .slice B3 n3 d3, .slice B4 n4 d4], rfl, ⟨_, _, _, _, _, _, _, _, _, _, _, _, rfl, y0.stays TbR.stays (fun b hb' => hb'.mono (by omega)) (fun p v _ hp => hp), y1.stays DtR.stays (fun b hb' => hb'.mono (by omega)) (fun p v _ hp => hp), y3.stays DtR.stays (fun b hb' => hb'.mono (by omega)) (fun p v _ hp => hp), y4.stays SvR.stays (fun b hb' => hb'.mono (by omega)) (fun p v _ hp => hp), ⟨hcp0, hcp1, hcp3, hcp4⟩⟩, hbz⟩
set_option maxRecDepth 100000 in
set_option maxHeartbeats 1000000 in
theorem lawsEqSave (x : Sv) (A1 B1 : Option Addr) (n1 c1 d1 : Nat) (ok ok' : Nat -> Prop) (w : World) (h1 : Sl DtR 1 ok w A1 n1 x.db) (k1 : Sl DtR 1 ok' w B1 n1 x.db) (hs : x.sz <= 1048576) :
    Calls Tryz.prog 141 #[.agg #[.string x.name, .slice A1 n1 c1], .agg #[.string x.name, .slice B1 n1 d1]] w fun e w' => e = .returned (.bool true) /\ Below w.heap.size w w' := by
  have HS1 := Lib.hid (show szL Dt.sz x.db <= 1048576 by have := hs; unfold Sv.sz at this; omega)
  clear hs
  have ra := (Row.new w 112 #[.string x.name, .slice A1 n1 c1]).alloc (.cells #[.string x.name, .slice B1 n1 d1] 112)
  have rb := Row.newAt (w.alloc (.cells #[.string x.name, .slice A1 n1 c1] 112)) 112 #[.string x.name, .slice B1 n1 d1] (w.heap.size + 1) (by simp)
  have hb0 := ((Below.refl w.heap.size w).alloc (Nat.le_refl _) (.cells #[.string x.name, .slice A1 n1 c1] 112)).alloc (by simp) (.cells #[.string x.name, .slice B1 n1 d1] 112)
  go_enter Tryz.func141, Tryz.ntmps141
  go_wp2_with fail
  generalize (w.alloc (.cells #[.string x.name, .slice A1 n1 c1] 112)).alloc (.cells #[.string x.name, .slice B1 n1 d1] 112) = x0 at *
  refine (lawsEqDataL A1 B1 n1 c1 d1 x.db ok ok' _ (h1.below DtR.stays hb0) (k1.below DtR.stays hb0) HS1.out).mono ?_
  rintro e w1 ⟨rfl, hc0⟩
  have ra := ra.below hc0
  have rb := rb.below hc0
  have hb1 := hb0.trans (hc0.mono hb0.size)
  obtain ⟨⟨a_0_0, a_0_1⟩, -⟩ := ra.all2
  obtain ⟨⟨b_0_0, b_0_1⟩, -⟩ := rb.all2
  go_wp2_with fail
  go_ret
  exact ⟨rfl, hb1⟩
set_option maxRecDepth 100000 in
set_option maxHeartbeats 1000000 in
theorem lawsEqSaveL (A A' : Option Addr) (n c c' : Nat) (l : List Sv) (ok ok' : Nat -> Prop) (w : World) (h : Sl SvR 2 ok w A n l) (h' : Sl SvR 2 ok' w A' n l) (hs : szL Sv.sz l <= 1048576) :
    Calls Tryz.prog 83 #[.slice A n c, .slice A' n c'] w fun e w' => e = .returned (.bool true) /\ Below w.heap.size w w' := by
  obtain rfl : l.length = n := h.1
  have hn : l.length <= 1048576 := by unfold szL at hs; omega
  have HS := Lib.hid hs
  clear hs
  go_enter Tryz.func83, Tryz.ntmps83
  go_wp2
  go_loopw [5] (fun i wr => ∃ k : Nat, k <= l.length /\ i = .int .i64 k /\ Below w.heap.size w wr) (fun i _ => l.length - (intOf i).toNat)
  case atStart => exact ⟨0, by omega, rfl, Below.refl _ _⟩
  case round =>
    obtain ⟨k, hk, rfl, hb⟩ := hrel
    by_cases hlt : k < l.length
    · obtain ⟨b, off, A1, n1, c1, -, rfl, q0, q1, s1, -⟩ := SvR.at_ (h.below SvR.stays hb) hlt
      obtain ⟨b', off', B1, m1, d1, -, rfl, r0, r1, t1, -⟩ := SvR.at_ (h'.below SvR.stays hb) hlt
      obtain rfl : n1 = m1 := s1.1.symm.trans t1.1
      have i0 : (0 : Int) <= k := by omega
      have i1 : (k : Int) < l.length := by omega
      have hszk : l[k].sz <= 1048576 := by have := HS.out; have := sum_mem_le (Sv.sz) l k hlt; unfold szL at *; (try simp only at *); omega
      have HSK := Lib.hid hszk
      clear hszk
      go_wp2_with fail
      go_region_held3 (fun w' => w'.cell? ⟨b, off + k * 2, none⟩ = some (.string l[k].name) /\ w'.cell? ⟨b, off + k * 2 + 1, none⟩ = some (.slice A1 n1 c1) /\ w'.cell? ⟨b', off' + k * 2, none⟩ = some (.string l[k].name) /\ w'.cell? ⟨b', off' + k * 2 + 1, none⟩ = some (.slice B1 n1 d1))
        (first | go_keep | exact keepE4 (by assumption) hb1)
        (first | (go_at_call 141; refine (lawsEqSave l[k] A1 B1 n1 c1 d1 ok ok' _ (s1.drew DtR.stays) (t1.drew DtR.stays) HSK.out).mono ?_; rintro e w1 ⟨rfl, hb1⟩))
      go_wp2
      go_roundw
      case rel => exact ⟨k + 1, by omega, by go_num, hb.drew.trans (hb1.mono hb.size)⟩
      case measure => simp [intOf]; omega
    · go_wp2
      go_ret
      exact ⟨rfl, hb⟩
set_option maxRecDepth 100000 in
set_option maxHeartbeats 1000000 in
theorem lawsEqSession (x : Ss) (A0 B0 : Option Addr) (n0 c0 d0 : Nat) (A1 B1 : Option Addr) (n1 c1 d1 : Nat) (A3 B3 : Option Addr) (n3 c3 d3 : Nat) (A4 B4 : Option Addr) (n4 c4 d4 : Nat) (ok ok' : Nat -> Prop) (w : World) (h0 : Sl TbR 6 ok w A0 n0 x.schema) (h1 : Sl DtR 1 ok w A1 n1 x.db) (h3 : Sl DtR 1 ok w A3 n3 x.start) (h4 : Sl SvR 2 ok w A4 n4 x.saves) (k0 : Sl TbR 6 ok' w B0 n0 x.schema) (k1 : Sl DtR 1 ok' w B1 n1 x.db) (k3 : Sl DtR 1 ok' w B3 n3 x.start) (k4 : Sl SvR 2 ok' w B4 n4 x.saves) (hs : x.sz <= 1048576) :
    Calls Tryz.prog 36 #[.agg #[.slice A0 n0 c0, .slice A1 n1 c1, .bool x.isOpen, .slice A3 n3 c3, .slice A4 n4 c4], .agg #[.slice B0 n0 d0, .slice B1 n1 d1, .bool x.isOpen, .slice B3 n3 d3, .slice B4 n4 d4]] w fun e w' => e = .returned (.bool true) /\ Below w.heap.size w w' := by
  have HS0 := Lib.hid (show szL Tb.sz x.schema <= 1048576 by have := hs; unfold Ss.sz at this; omega)
  have HS1 := Lib.hid (show szL Dt.sz x.db <= 1048576 by have := hs; unfold Ss.sz at this; omega)
  have HS3 := Lib.hid (show szL Dt.sz x.start <= 1048576 by have := hs; unfold Ss.sz at this; omega)
  have HS4 := Lib.hid (show szL Sv.sz x.saves <= 1048576 by have := hs; unfold Ss.sz at this; omega)
  clear hs
  have ra := (Row.new w 48 #[.slice A0 n0 c0, .slice A1 n1 c1, .bool x.isOpen, .slice A3 n3 c3, .slice A4 n4 c4]).alloc (.cells #[.slice B0 n0 d0, .slice B1 n1 d1, .bool x.isOpen, .slice B3 n3 d3, .slice B4 n4 d4] 48)
  have rb := Row.newAt (w.alloc (.cells #[.slice A0 n0 c0, .slice A1 n1 c1, .bool x.isOpen, .slice A3 n3 c3, .slice A4 n4 c4] 48)) 48 #[.slice B0 n0 d0, .slice B1 n1 d1, .bool x.isOpen, .slice B3 n3 d3, .slice B4 n4 d4] (w.heap.size + 1) (by simp)
  have hb0 := ((Below.refl w.heap.size w).alloc (Nat.le_refl _) (.cells #[.slice A0 n0 c0, .slice A1 n1 c1, .bool x.isOpen, .slice A3 n3 c3, .slice A4 n4 c4] 48)).alloc (by simp) (.cells #[.slice B0 n0 d0, .slice B1 n1 d1, .bool x.isOpen, .slice B3 n3 d3, .slice B4 n4 d4] 48)
  go_enter Tryz.func36, Tryz.ntmps36
  go_wp2_with fail
  generalize (w.alloc (.cells #[.slice A0 n0 c0, .slice A1 n1 c1, .bool x.isOpen, .slice A3 n3 c3, .slice A4 n4 c4] 48)).alloc (.cells #[.slice B0 n0 d0, .slice B1 n1 d1, .bool x.isOpen, .slice B3 n3 d3, .slice B4 n4 d4] 48) = x0 at *
  refine (lawsEqTableL A0 B0 n0 c0 d0 x.schema ok ok' _ (h0.below TbR.stays hb0) (k0.below TbR.stays hb0) HS0.out).mono ?_
  rintro e w1 ⟨rfl, hc0⟩
  have ra := ra.below hc0
  have rb := rb.below hc0
  have hb1 := hb0.trans (hc0.mono hb0.size)
  obtain ⟨⟨a_0_0, a_0_1, a_0_2, a_0_3, a_0_4⟩, -⟩ := ra.five
  obtain ⟨⟨b_0_0, b_0_1, b_0_2, b_0_3, b_0_4⟩, -⟩ := rb.five
  go_wp2_with fail
  refine (lawsEqDataL A1 B1 n1 c1 d1 x.db ok ok' _ (h1.below DtR.stays hb1) (k1.below DtR.stays hb1) HS1.out).mono ?_
  rintro e w2 ⟨rfl, hc1⟩
  have ra := ra.below hc1
  have rb := rb.below hc1
  have hb2 := hb1.trans (hc1.mono hb1.size)
  obtain ⟨⟨a_1_0, a_1_1, a_1_2, a_1_3, a_1_4⟩, -⟩ := ra.five
  obtain ⟨⟨b_1_0, b_1_1, b_1_2, b_1_3, b_1_4⟩, -⟩ := rb.five
  go_wp2_with fail
  refine (lawsEqDataL A3 B3 n3 c3 d3 x.start ok ok' _ (h3.below DtR.stays hb2) (k3.below DtR.stays hb2) HS3.out).mono ?_
  rintro e w3 ⟨rfl, hc2⟩
  have ra := ra.below hc2
  have rb := rb.below hc2
  have hb3 := hb2.trans (hc2.mono hb2.size)
  obtain ⟨⟨a_2_0, a_2_1, a_2_2, a_2_3, a_2_4⟩, -⟩ := ra.five
  obtain ⟨⟨b_2_0, b_2_1, b_2_2, b_2_3, b_2_4⟩, -⟩ := rb.five
  go_wp2_with fail
  refine (lawsEqSaveL A4 B4 n4 c4 d4 x.saves ok ok' _ (h4.below SvR.stays hb3) (k4.below SvR.stays hb3) HS4.out).mono ?_
  rintro e w4 ⟨rfl, hc3⟩
  have ra := ra.below hc3
  have rb := rb.below hc3
  have hb4 := hb3.trans (hc3.mono hb3.size)
  obtain ⟨⟨a_3_0, a_3_1, a_3_2, a_3_3, a_3_4⟩, -⟩ := ra.five
  obtain ⟨⟨b_3_0, b_3_1, b_3_2, b_3_3, b_3_4⟩, -⟩ := rb.five
  go_wp2_with fail
  go_ret
  exact ⟨rfl, hb4⟩
end Go.Proofs.YtlpldhmanihnnaaGreat
namespace Go.Proofs.YtlpldhmanihnnaaGreat
open Go.Shelf
def Tryz.sortI_ren : Go.Shelf.Ren := ⟨fun | 5 => 233 | 8 => 270 | 7 => 269 | 19 => 298 | 20 => 299 | 10 => 289 | 11 => 290 | 12 => 291 | 13 => 292 | 14 => 293 | 15 => 294 | 16 => 295 | 17 => 296 | 18 => 297 | 30 => 307 | 31 => 308 | 32 => 309 | 33 => 310 | 34 => 311 | 35 => 312 | 40 => 316 | n => n, fun | 23 => 70 | 25 => 2 | 3 => 3 | 32 => 307 | 22 => 70 | 0 => 0 | 44 => 335 | 46 => 337 | 4 => 4 | 36 => 327 | 35 => 326 | 41 => 332 | 5 => 5 | 9 => 9 | 53 => 341 | 57 => 345 | 63 => 350 | 64 => 351 | n => n, fun | n => n⟩
theorem Tryz.sortI : Go.Proofs.SlLaysM.n5 Tryz.prog Tryz.sortI_ren := {
  mixed := by kernel_rfl
  f5 := ⟨Tryz.f233.name, by decide, Tryz.func233.trans (congrArg some (by kernel_rfl))⟩
  f7 := ⟨Tryz.f269.name, by decide, Tryz.func269.trans (congrArg some (by kernel_rfl))⟩
  f8 := Tryz.func270.trans (congrArg some (by kernel_rfl))
  f10 := ⟨Tryz.f289.name, by decide, Tryz.func289.trans (congrArg some (by kernel_rfl))⟩
  f11 := ⟨Tryz.f290.name, by decide, Tryz.func290.trans (congrArg some (by kernel_rfl))⟩
  f12 := ⟨Tryz.f291.name, by decide, Tryz.func291.trans (congrArg some (by kernel_rfl))⟩
  f13 := ⟨Tryz.f292.name, by decide, Tryz.func292.trans (congrArg some (by kernel_rfl))⟩
  f14 := ⟨Tryz.f293.name, by decide, Tryz.func293.trans (congrArg some (by kernel_rfl))⟩
  f15 := ⟨Tryz.f294.name, by decide, Tryz.func294.trans (congrArg some (by kernel_rfl))⟩
  f16 := ⟨Tryz.f295.name, by decide, Tryz.func295.trans (congrArg some (by kernel_rfl))⟩
  f17 := ⟨Tryz.f296.name, by decide, Tryz.func296.trans (congrArg some (by kernel_rfl))⟩
  f18 := ⟨Tryz.f297.name, by decide, Tryz.func297.trans (congrArg some (by kernel_rfl))⟩
  f19 := Tryz.func298.trans (congrArg some (by kernel_rfl))
  f20 := Tryz.func299.trans (congrArg some (by kernel_rfl))
  f30 := ⟨Tryz.f307.name, by decide, Tryz.func307.trans (congrArg some (by kernel_rfl))⟩
  f31 := Tryz.func308.trans (congrArg some (by kernel_rfl))
  f32 := Tryz.func309.trans (congrArg some (by kernel_rfl))
  f33 := ⟨Tryz.f310.name, by decide, Tryz.func310.trans (congrArg some (by kernel_rfl))⟩
  f34 := ⟨Tryz.f311.name, by decide, Tryz.func311.trans (congrArg some (by kernel_rfl))⟩
  f35 := ⟨Tryz.f312.name, by decide, Tryz.func312.trans (congrArg some (by kernel_rfl))⟩
  f40 := ⟨Tryz.f316.name, by decide, Tryz.func316.trans (congrArg some (by kernel_rfl))⟩
  t0 := Tryz.underlying0
  a0 := Tryz.isAgg0
  z0 := Tryz.sizeOf0
  v0 := Tryz.zeroValue0
  t3 := Tryz.underlying3
  a3 := Tryz.isAgg3
  z3 := Tryz.sizeOf3
  v3 := Tryz.zeroValue3
  t4 := Tryz.underlying4
  a4 := Tryz.isAgg4
  z4 := Tryz.sizeOf4
  v4 := Tryz.zeroValue4
  t5 := Tryz.underlying5
  a5 := Tryz.isAgg5
  z5 := Tryz.sizeOf5
  v5 := Tryz.zeroValue5
  t9 := Tryz.underlying9
  a9 := Tryz.isAgg9
  z9 := Tryz.sizeOf9
  v9 := Tryz.zeroValue9
  t22 := Tryz.underlying70
  a22 := Tryz.isAgg70
  z22 := Tryz.sizeOf70
  v22 := Tryz.zeroValue70
  t23 := Tryz.underlying70
  a23 := Tryz.isAgg70
  z23 := Tryz.sizeOf70
  v23 := Tryz.zeroValue70
  t25 := Tryz.underlying2
  a25 := Tryz.isAgg2
  z25 := Tryz.sizeOf2
  v25 := Tryz.zeroValue2
  t32 := Tryz.underlying307
  a32 := Tryz.isAgg307
  z32 := Tryz.sizeOf307
  v32 := Tryz.zeroValue307
  t35 := Tryz.underlying326
  a35 := Tryz.isAgg326
  z35 := Tryz.sizeOf326
  v35 := Tryz.zeroValue326
  t36 := Tryz.underlying327
  a36 := Tryz.isAgg327
  z36 := Tryz.sizeOf327
  v36 := Tryz.zeroValue327
  t41 := Tryz.underlying332
  a41 := Tryz.isAgg332
  z41 := Tryz.sizeOf332
  v41 := Tryz.zeroValue332
  t44 := Tryz.underlying335
  a44 := Tryz.isAgg335
  z44 := Tryz.sizeOf335
  v44 := Tryz.zeroValue335
  t46 := Tryz.underlying337
  a46 := Tryz.isAgg337
  z46 := Tryz.sizeOf337
  v46 := Tryz.zeroValue337
  t53 := Tryz.underlying341
  a53 := Tryz.isAgg341
  z53 := Tryz.sizeOf341
  v53 := Tryz.zeroValue341
  t57 := Tryz.underlying345
  a57 := Tryz.isAgg345
  z57 := Tryz.sizeOf345
  v57 := Tryz.zeroValue345
  t63 := Tryz.underlying350
  a63 := Tryz.isAgg350
  z63 := Tryz.sizeOf350
  v63 := Tryz.zeroValue350
  t64 := Tryz.underlying351
  a64 := Tryz.isAgg351
  z64 := Tryz.sizeOf351
  v64 := Tryz.zeroValue351 }
def Tryz.compI_ren : Go.Shelf.Ren := ⟨fun | 43 => 234 | n => n, fun | 22 => 70 | 23 => 2 | 3 => 3 | 4 => 4 | 0 => 0 | n => n, fun | n => n⟩
theorem Tryz.compI : Go.Proofs.SlLaysN.n43 Tryz.prog Tryz.compI_ren := {
  mixed := by kernel_rfl
  f43 := ⟨Tryz.f234.name, by decide, Tryz.func234.trans (congrArg some (by kernel_rfl))⟩
  t0 := Tryz.underlying0
  a0 := Tryz.isAgg0
  z0 := Tryz.sizeOf0
  v0 := Tryz.zeroValue0
  t3 := Tryz.underlying3
  a3 := Tryz.isAgg3
  z3 := Tryz.sizeOf3
  v3 := Tryz.zeroValue3
  t4 := Tryz.underlying4
  a4 := Tryz.isAgg4
  z4 := Tryz.sizeOf4
  v4 := Tryz.zeroValue4
  t22 := Tryz.underlying70
  a22 := Tryz.isAgg70
  z22 := Tryz.sizeOf70
  v22 := Tryz.zeroValue70
  t23 := Tryz.underlying2
  a23 := Tryz.isAgg2
  z23 := Tryz.sizeOf2
  v23 := Tryz.zeroValue2
  i23 := by kernel_rfl }
end Go.Proofs.YtlpldhmanihnnaaGreat
namespace Go.Proofs.YtlpldhmanihnnaaGreat
open Go.RowKit
def RoundX {α : Type} (B : Nat) (Kp : World -> World -> Prop) (J Jx : List α -> World -> Prop) (xs : List α) (W : World) (e : Ending) (W' : World) : Prop :=
  KeepsFrom B W W' /\ ((e = .returned (.bool true) /\ J xs W' /\ Kp W W') \/ (e = .returned (.bool false) /\ Jx xs W'))
def SeqX {α : Type} (P : Program) (n : Nat) (g : Nat) (lb : Array Value) (encs : α -> Array Value) (Kp : World -> World -> Prop) (S Sp : List α -> Prop) (N : Nat) (w : World) : Prop :=
  ∀ (l : Nat) (J Jx : List α -> World -> Prop) (W : World), Below w.heap.size w W -> OwnFrom W.heap.size J -> OwnFrom W.heap.size Jx ->
    (∀ pre x W1, J pre W1 -> pre.length < N -> YieldAt Fence.wide n P l (encs x) W1 (RoundX W.heap.size Kp J Jx (pre ++ [x]) W1)) ->
    J [] W -> CallsIn Fence.wide n P g (#[.func (.yield l) #[] #[]] ++ lb) W fun e W' => (∃ v, e = .returned v) /\ ((∃ xs, S xs /\ J xs W') \/ (∃ pre, Sp pre /\ Jx pre W'))
theorem roundIn_any {m m' : Nat} {P : Program} {l : Nat} {f : FuncId} {tmps : Array Value} {assign body : Code} {w : World} {R : Ending -> World -> Prop}
    (h : RoundIn Fence.wide m P l f tmps assign body w R) : RoundIn Fence.wide m' P l f tmps assign body w R := ⟨h.1, fun c cs _ => h.2 c cs (room_wide _)⟩
theorem yieldAt_any {m m' : Nat} {P : Program} {l : Nat} {args : Array Value} {W : World} {R : Ending -> World -> Prop} (h : YieldAt Fence.wide m P l args W R) : YieldAt Fence.wide m' P l args W R := by
  obtain ⟨f, t, a, b, hy, hr⟩ := h
  exact ⟨f, t, a, b, hy, roundIn_any hr⟩
def Recs (l : Nat) (st : Loop) (D : Nat) (W : World) : Prop := W.heap[l]? = some (.loop st) /\ W.heap[D]? = some (.deferred (some []))
theorem Recs.keep {l D B : Nat} {st : Loop} {W W' : World} (h : Recs l st D W) (hl : B <= l) (hD : B <= D) (k : KeepsFrom B W W') : Recs l st D W' := ⟨k.same _ _ hl h.1 rfl, k.same _ _ hD h.2 rfl⟩
theorem Recs.put {l D : Nat} {st : Loop} {W : World} (h : Recs l st D W) (hne : D ≠ l) (st' : Loop) : Recs l st' D (W.putObj l (.loop st')) := ⟨World.putObj_heap_same (Array.getElem?_eq_some_iff.1 h.1).1, (World.putObj_heap_other hne).trans h.2⟩
theorem Recs.own {β : Type} {l D B : Nat} (st : β -> Loop) (hl : l < B) (hD : D < B) : OwnFrom B (fun s W => Recs l (st s) D W) := fun s X Y row hs hg hr =>
  ⟨(hg.block l (Array.getElem?_eq_some_iff.1 hs.1).1 (fun e => by have := (hr l e.symm).1; omega)).trans hs.1, (hg.block D (Array.getElem?_eq_some_iff.1 hs.2).1 (fun e => by have := (hr D e.symm).1; omega)).trans hs.2⟩
set_option maxHeartbeats 2000000 in
theorem wp_rangeX {α : Type} {P : Program} {n : Nat} {g : Operand} {ps : Array Tmp} {assign body : Code} {Q : Exit -> Act -> World -> Prop} {a : Act} {w : World}
    {gf : Nat} {lb : Array Value} (hg : a.eval g = .func (.func gf) #[] lb) (eg : ∀ args w, (callFunc gf args).run P w = .ok (.enter gf args) w)
    {encs : α -> Array Value} {Kp : World -> World -> Prop} {S Sp : List α -> Prop} {N : Nat} (hseq : SeqX P (n - 1) gf lb encs Kp S Sp N w)
    (hKt : ∀ {A B C : World}, Kp A B -> Kp B C -> Kp A C) (hKb : ∀ (W : World) (l : Nat) (o o' : Obj), w.heap.size <= l -> W.heap[l]? = some o -> o.isCells = false -> Kp W (W.putObj l o')) (hps : ∀ x, (encs x).size = ps.size)
    (I : List α -> World -> Prop) (Ix : Code -> List α -> World -> Prop) (hI : OwnFrom w.heap.size I) (hIx : ∀ c, OwnFrom w.heap.size (Ix c)) (h0 : I [] w) (Ax : α -> Act -> World -> Prop) (hAx : ∀ x a', OwnFrom w.heap.size (fun (_ : Unit) W => Ax x a' W))
    (hassign : ∀ (l : Nat) (pre : List α) (x : α) (W : World) (K : Act -> World -> Prop), I pre W -> (∀ a' W', KeepsFrom w.heap.size W W' -> Kp W W' -> I pre W' -> Ax x a' W' -> K a' W') ->
      assign.wpIn (Fence.wide.inRound l) n P (Exit.then K (fun _ _ _ => False)) { tmps := (ps.zip (encs x)).foldl (fun t (p, v) => t.setIfInBounds p v) a.tmps, defers := [] } W)
    (hbody : ∀ (l : Nat) (pre : List α) (x : α) (a' : Act) (W : World), I pre W -> Ax x a' W -> pre.length < N -> body.wpIn (Fence.wide.inRound l) n P (ownPostG w.heap.size Kp I Ix (pre ++ [x]) W) a' W)
    (hdone : ∀ (D : Nat) (xs : List α) (W : World), w.heap.size <= D -> S xs -> I xs W -> W.heap[D]? = some (.deferred (some [])) -> Q .normal { a with defers := { target := .collected D, args := #[] } :: a.defers } W)
    (hstop : ∀ (D : Nat) (c : Code) (pre : List α) (W : World), w.heap.size <= D -> Sp pre -> Ix c pre W -> W.heap[D]? = some (.deferred (some [])) -> c.wpIn Fence.wide n P Q { a with defers := { target := .collected D, args := #[] } :: a.defers } W) :
    (Code.rangeFunc g ps assign body).wpIn Fence.wide n P Q a w := by
  refine wpIn_rangeFunc fun fn hfn => ?_
  obtain ⟨D, hD⟩ : ∃ D, w.heap.size = D := ⟨_, rfl⟩
  obtain ⟨mk, hmk⟩ : ∃ mk : LoopState -> Option Code -> Loop, mk = fun st pe => { state := st, pending := pe, fn, tmps := a.tmps, params := ps, assign, body, defers := D } := ⟨_, rfl⟩
  obtain ⟨V, hV⟩ : ∃ V, (w.alloc (.deferred (some []))).alloc (.loop (mk .ready none)) = V := ⟨_, rfl⟩
  have hVs : V.heap.size = D + 2 := by rw [<- hV, World.size_alloc, World.size_alloc, hD]
  have hR : Recs (D + 1) (mk .ready none) D V := by
    constructor
    · rw [<- hV]; have := World.alloc_heap_new (w.alloc (.deferred (some []))) (.loop (mk .ready none)); rwa [World.size_alloc, hD] at this
    · rw [<- hV, <- hD]; exact (Below.heap_alloc _ _ _ (by simp)).trans (World.alloc_heap_new w _)
  have hIV : I [] V := by rw [<- hV]; exact hI.alloc _ (hI.alloc _ h0)
  have hBV : Below w.heap.size w V := by rw [<- hV]; exact ((Below.refl _ w).alloc (Nat.le_refl _) _).alloc (by simp) _
  have hlow : ∀ {A : World} {row : Option Nat}, (∀ r, row = some r -> V.heap.size <= r /\ ∃ o : Obj, A.heap[r]? = some o /\ o.isCells = false) -> (∀ r, row = some r -> w.heap.size <= r /\ ∃ o : Obj, A.heap[r]? = some o /\ o.isCells = false) :=
    fun h r e => ⟨by have := (h r e).1; omega, (h r e).2⟩
  refine ⟨D + 1, [{ target := .collected D, args := #[] }], V, { target := .fn (.func gf) lb, args := #[.func (.yield (D + 1)) #[] #[]] }, V, gf, #[.func (.yield (D + 1)) #[] #[]] ++ lb, V, ?_, ?_, fun _ _ => trivial, ?_, fun h => (by cases h), ?_⟩
  · show (Instr.enterLoop fn a.tmps ps assign body none).run P w = _
    rw [run_enterLoop_outer, hD, <- hV, hmk]
  · simp only [resolve, hg]
    simp [go_sem]
  · simp [invoke, go_sem, eg]
  have hz : D + 1 ≠ D := by omega
  have hpair : OwnFrom V.heap.size (fun (pre : List α) W => I pre W /\ Recs (D + 1) (mk .ready none) D W) :=
    OwnFrom.and (fun s X Y row hs hg' hr => hI s X Y row hs hg' (hlow hr)) (Recs.own (fun _ => mk .ready none) (by omega) (by omega))
  have hpairx : OwnFrom V.heap.size (fun (pre : List α) W => ∃ c, Ix c pre W /\ Recs (D + 1) (mk .done (some c)) D W) := fun s X Y row hs hg' hr => by
    obtain ⟨c, h1, h2⟩ := hs
    exact ⟨c, hIx c s X Y row h1 hg' (hlow hr), Recs.own (fun (_ : Unit) => mk .done (some c)) (by omega) (by omega) () X Y row h2 hg' hr⟩
  refine (hseq (D + 1) _ _ V hBV hpair hpairx (fun pre x W hJ hlen => ?_) ⟨hIV, hR⟩).mono ?_
  · obtain ⟨hi, hrec⟩ := hJ
    have hy := run_yield (P := P) (args := encs x) hrec.1 (by rw [hmk]; exact hps x)
    refine ⟨fn, _, assign, body, by rw [hy, hmk], roundIn_any (m := n) (roundIn_of_wpIn hfn ?_)⟩
    refine hassign _ pre x W _ hi fun a1 W1 k1 kp1 i1 ax1 => ?_
    -- the assignment to the loop's variables may have laid blocks: the records lie as they lay
    have rec1 := hrec.keep (by omega) (by omega) k1
    refine ⟨_, run_beginRound rec1.1 (by rw [hmk]), ?_⟩
    have hrec2 := rec1.put (Ne.symm hz) { mk .ready none with state := .busy }
    have hkp := hKb W1 (D + 1) _ (.loop { mk .ready none with state := .busy }) (by omega) rec1.1 rfl
    refine wpIn_mono (hbody _ pre x a1 _ (hI.putObj _ i1 (by omega) rec1.1 rfl) ((hAx x a1).putObj (s := ()) _ ax1 (by omega) rec1.1 rfl) hlen) ?_
    -- what the round has left is read off the body's word
    have tail : ∀ (jump : Option Code) (W3 : World), KeepsFrom w.heap.size (W1.putObj (D + 1) (.loop { mk .ready none with state := .busy })) W3 ->
        ∃ W4, (Instr.endRound (D + 1) jump).run P W3 = .ok (.bool jump.isNone) W4 /\ W4 = W3.putObj (D + 1) (.loop (mk (if jump.isNone then .ready else .done) jump)) /\ W3.heap[D + 1]? = some (.loop { mk .ready none with state := .busy }) /\
          Recs (D + 1) (mk (if jump.isNone then .ready else .done) jump) D W4 /\ KeepsFrom V.heap.size W W4 := fun jump W3 k3 => by
      have r3 := hrec2.keep (by omega) (by omega) k3
      refine ⟨_, run_endRound jump r3.1, by rw [hmk], r3.1, by rw [hmk] at r3 ⊢; exact r3.put (Ne.symm hz) _, ?_⟩
      refine ⟨by have := k3.size; have := k1.size; simp only [World.putObj_size] at *; omega, fun k o hk ho hc => ?_⟩
      have e1 : k ≠ D + 1 := by omega
      exact (World.putObj_heap_other e1).trans (k3.same k o (by omega) ((World.putObj_heap_other e1).trans (k1.same k o (by omega) ho hc)) hc)
    rintro e a3 W3 hp
    cases e with
    | normal =>
      obtain ⟨k3, kp3, i3⟩ := hp
      obtain ⟨W4, hr, rfl, h3, r4, k4⟩ := tail none W3 k3
      exact ⟨_, _, hr, k4, .inl ⟨rfl, ⟨hI.putObj _ i3 (by omega) h3 rfl, r4⟩, hKt kp1 (hKt (hKt hkp kp3) (hKb _ _ _ _ (by omega) h3 rfl))⟩⟩
    | ret =>
      obtain ⟨k3, i3⟩ := hp
      obtain ⟨W4, hr, rfl, h3, r4, k4⟩ := tail (some .ret) W3 k3
      exact ⟨_, _, hr, k4, .inr ⟨rfl, _, (hIx _).putObj _ i3 (by omega) h3 rfl, r4⟩⟩
    | exit id =>
      obtain ⟨k3, i3⟩ := hp
      obtain ⟨W4, hr, rfl, h3, r4, k4⟩ := tail (some (.exit id)) W3 k3
      exact ⟨_, _, hr, k4, .inr ⟨rfl, _, (hIx _).putObj _ i3 (by omega) h3 rfl, r4⟩⟩
    | goto t =>
      obtain ⟨k3, i3⟩ := hp
      obtain ⟨W4, hr, rfl, h3, r4, k4⟩ := tail (some (.goto t)) W3 k3
      exact ⟨_, _, hr, k4, .inr ⟨rfl, _, (hIx _).putObj _ i3 (by omega) h3 rfl, r4⟩⟩
    | panic ch => exact hp.elim
    | outgrown => exact hp.elim
  · rintro e W2 ⟨⟨v, rfl⟩, h | h⟩
    · obtain ⟨xs, hS, hi, hrec⟩ := h
      refine ⟨none, _, by have := run_endLoop (P := P) hrec.1 (by rw [hmk]; simp); rw [hmk] at this; exact this, ?_⟩
      exact hdone _ xs _ (by omega) hS (hI.putObj _ hi (by omega) hrec.1 rfl) ((World.putObj_heap_other (Ne.symm hz)).trans hrec.2)
    · obtain ⟨pre, hSp, c, hi, hrec⟩ := h
      refine ⟨some c, _, by have := run_endLoop (P := P) hrec.1 (by rw [hmk]; simp); rw [hmk] at this; exact this, ?_⟩
      exact hstop _ c pre _ (by omega) hSp ((hIx c).putObj _ hi (by omega) hrec.1 rfl) ((World.putObj_heap_other (Ne.symm hz)).trans hrec.2)
theorem wpAnyIn_round {F : Fence} (hro : F.round = none) {n l : Nat} {P : Program} {md : Region.Mode} {ops : Array Oper} {Q : Exit -> Act -> World -> Prop}
    (hd : ∀ o ∈ ops, ∀ (ρ : Operand -> Value), o.semAt (some l) ρ = o.semAt none ρ) : ∀ (fuel : Nat) (listed : Array Bool) (a : Act) (w : World), wpAnyIn F n P md ops Q fuel listed a w -> wpAnyIn (F.inRound l) n P md ops Q fuel listed a w
  | 0, _, _, _, h => h
  | fuel + 1, listed, a, w, h => ⟨h.1, fun i hi => by
      have h1 := wpOpIn_mono (fun a w => wpAnyIn_round hro hd fuel (listed.setIfInBounds i true) a w) (h.2 i hi)
      unfold wpOpIn at h1 ⊢
      cases ho : ops[i]? with
      | none => rw [ho] at h1; exact h1
      | some o =>
        rw [ho] at h1
        simp only at h1 ⊢
        by_cases hw : Region.wanted o (yielded ops a.tmps) = true
        · rw [if_pos hw] at h1 ⊢
          unfold Oper.wpIn at h1 ⊢
          refine ⟨h1.1, ?_⟩
          have h2 := h1.2
          rw [hro] at h2
          rw [Fence.inRound_round, hd o (Array.mem_of_getElem? ho)]
          exact h2
        · rw [if_neg hw] at h1 ⊢
          exact h1⟩
end Go.Proofs.YtlpldhmanihnnaaGreat
