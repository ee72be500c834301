/-
  Several texts in one: what the proof leans on, part 5.
-/
import Derived.Test.YtjhhamlnlalkoaaGreatPd
import Derived.Test.YtjhhamlnlalkoaaGreatPa
import Derived.Test.YtjhhamlnlalkoaaGreatPb
import Derived.Test.YtjhhamlnlalkoaaGreatPc
import Derived.Deep.RegionHeld3
import Derived.Deep.AppendLies
import Derived.Deep.Cut
import Derived.Shelf.SlLaysM
import Derived.Ground.SlgmProg
import Derived.Shelf.SlLaysN
import Derived.Shelf.SlLaysE0
import Derived.Ground.SlgnProg
import Derived.Test.YtjhhamlnlalkoaaGreatProg
import Derived.RangeFuncNested
import Derived.RangeFuncBound
import Derived.RangeFuncCalls
import Derived.RangeFuncLeaves
import Derived.Shelf.Abstract
import Derived.Shelf.RegionOpen
import Derived.WalkKit
import Derived.OwnWalkIn
import Derived.TacticsInMore
import Derived.LoopNIn
import Derived.LoopIn
set_option linter.unusedVariables false
set_option linter.unusedSimpArgs false
namespace Go.Proofs.YtjhhamlnlalkoaaGreat
open Go.RowKit
structure RowsS (w : World) (base low : Nat) (v : Value) (rs : List Rw) (xss : List (List Value)) : Prop where
 len : xss.length = rs.length
 two : ∀ c ∈ xss, c.length = 2
 row : w.ownsRow base 36 2 v rs.length xss.flatten
 val : ∀ i (h : i < rs.length) (h' : i < xss.length), RwR (fun b => b < low) w xss[i] rs[i]
theorem RowsS.lit (w : World) {base : Nat} (low : Nat) (hb : base ≤ w.heap.size) : RowsS (w.alloc (.cells #[] 36)) base low (.slice (some ⟨w.heap.size, 0, none⟩) 0 0) [] [] :=
 ⟨rfl, fun c hc => by simp at hc, ⟨rfl, .inr ⟨w.heap.size, 0, #[], rfl, hb, Go.heap_alloc_last w _, Nat.le_refl _, by simp [maxLen], rfl, rfl⟩⟩, fun i h => by simp at h⟩
theorem RwR.low {n0 : Nat} {w W : World} {cs : List Value} {x : Rw} (h : RwR (fun b => b < n0) w cs x) (hb : Below n0 w W) : RwR (fun b => b < n0) W cs x :=
 RwR.stays _ _ _ _ _ _ h (fun _ h => h) fun p v hp hc => (hb.cell hp).trans hc
theorem RowsS.app {w w' : World} {base low : Nat} {v v' : Value} {rs : List Rw} {xss : List (List Value)} {x : Rw} {A : Option Addr} {n c : Nat} {o : Obj} (h : RowsS w base low v rs xss) (hlow : low ≤ base) (hx : Sl VlR 3 (fun b => b < low) w A n x.vals) (hc : n ≤ c) (hb : base ≤ w.heap.size)
  (h' : w'.ownsRow base 36 2 v' (rs.length + 1) (xss.flatten ++ [.int .i64 x.id, .slice A n c])) (hg : (w.alloc o).grownBy w' v.ownBlock) : RowsS w' base low v' (rs ++ [x]) (xss ++ [[.int .i64 x.id, .slice A n c]]) ∧ Below base w w' := by
 have hbw : Below base w w' := ((Below.refl base w).alloc hb o).grown hg (by simp; omega) fun k hk => (World.ownsRow.lt h.row k hk).1
 refine ⟨⟨by simp [h.len], fun d hd => ?_, ?_, fun i hi hi' => ?_⟩, hbw⟩
 ·rcases List.mem_append.1 hd with hd | hd
  ·exact h.two d hd
  ·rw [List.mem_singleton.1 hd]; rfl
 ·rw [List.length_append, List.flatten_append]
  simpa using h'
 ·by_cases e : i < rs.length
  ·have e' : i < xss.length := by rw [h.len]; exact e
   rw [List.getElem_append_left e, List.getElem_append_left e']
   exact (h.val i e e').low (hbw.mono hlow)
  ·simp only [List.length_append, List.length_cons, List.length_nil] at hi
   obtain rfl : i = rs.length := by omega
   rw [List.getElem_append_right (Nat.le_refl _), List.getElem_append_right (Nat.le_of_eq h.len)]
   refine RwR.low ?_ (hbw.mono hlow)
   refine ⟨A, n, c, ?_, ?_, hc⟩
   ·simp [h.len]
   ·simpa using hx
theorem RowsS.sl {w : World} {base low : Nat} {v : Value} {rs : List Rw} {xss : List (List Value)} (h : RowsS w base low v rs xss) : ∃ A c, v = .slice A rs.length c ∧ rs.length ≤ c ∧ c ≤ maxLen ∧ Sl RwR 2 (fun b => base ≤ b ∨ b < low) w A rs.length rs := by
 rcases h.row.2 with ⟨rfl, hn⟩ | ⟨g, cap, cur, rfl, h1, h2, h3, h4, h5, h6⟩
 ·have e : rs = [] := List.length_eq_zero_iff.1 hn
  subst e
  exact ⟨none, 0, rfl, Nat.le_refl _, by simp [maxLen], rfl, fun hn => by simp at hn⟩
 ·refine ⟨_, cap, rfl, h3, h4, rfl, fun hn => ⟨g, 0, rfl, .inl h1, fun i hi => ?_⟩⟩
  have hi' : i < xss.length := by rw [h.len]; exact hi
  refine ⟨xss[i], h.two _ (List.getElem_mem hi'), RwR.stays _ _ _ _ _ _ (h.val i hi hi') (fun _ h => .inr h) (fun _ _ _ h => h), fun t u hu => ?_⟩
  have ht : t < 2 := by have := (List.getElem?_eq_some_iff.1 hu).1; rw [h.two _ (List.getElem_mem hi')] at this; exact this
  have h7 := flat_get (sz := 2) xss i t hi' ht h.two
  rw [hu, ← h6, List.getElem?_take, if_pos (by omega)] at h7
  rw [cell_of_row _ _ _ _ _ _ h2, Nat.zero_add, ← Array.getElem?_toList]
  exact h7
set_option maxRecDepth 100000 in
set_option maxHeartbeats 2000000 in
theorem specL4Put (AL AX : Option Addr) (nL cL nX cX : Nat) (rows : List Rw) (x : Rw) (okr okx : Nat → Prop) (w : World) (hr : Sl RwR 2 okr w AL nL rows) (hx : Sl VlR 3 okx w AX nX x.vals) (hxc : nX ≤ cX) (hn : nL ≤ 1000000) (hid : ∀ r ∈ rows, r.id < x.id) :
  Calls Tryz.prog 140 #[.agg #[.slice AL nL cL], .agg #[.int .i64 x.id, .slice AX nX cX]] w fun e w' => (∃ A c, e = .returned (.agg #[.slice A (rows ++ [x]).length c]) ∧ (rows ++ [x]).length ≤ c ∧ Sl RwR 2 (fun _ => True) w' A (rows ++ [x]).length (rows ++ [x])) ∧ Below w.heap.size w w' := by
 obtain rfl : rows.length = nL := hr.1
 obtain rfl : x.vals.length = nX := hx.1
 obtain ⟨i0, hi, hz0, hz1, hz2⟩ := info_parts infoRowR
 have I1 := Lib.hid hi
 have I2 := Lib.hid hz0
 have I3 := Lib.hid hz1
 have I4 := Lib.hid hz2
 have HID := Lib.hid hid
 have HI := Lib.hid (show (Tryz.prog.info? 33).map (·.size) = some 1 by kernel_rfl)
 clear hi hz0 hz1 hz2 hid
 have hz : Below w.heap.size w (((w.alloc (.cells #[.slice AL rows.length cL] 33)).alloc (.cells #[.int .i64 x.id, .slice AX x.vals.length cX] 36)).alloc (.cells #[.slice none 0 0] 33)) := (((Below.refl w.heap.size w).alloc (Nat.le_refl _) _).alloc (by simp) _).alloc (by simp; omega) _
 have rd := ((Row.new w 33 #[.slice AL rows.length cL]).alloc (.cells #[.int .i64 x.id, .slice AX x.vals.length cX] 36)).alloc (.cells #[.slice none 0 0] 33)
 have rx := (Row.newAt (w.alloc (.cells #[.slice AL rows.length cL] 33)) 36 #[.int .i64 x.id, .slice AX x.vals.length cX] (w.heap.size + 1) (by simp)).alloc (.cells #[.slice none 0 0] 33)
 have ra := Row.newAt ((w.alloc (.cells #[.slice AL rows.length cL] 33)).alloc (.cells #[.int .i64 x.id, .slice AX x.vals.length cX] 36)) 33 #[.slice none 0 0] (w.heap.size + 2) (by simp)
 go_enter Tryz.func140, Tryz.ntmps140
 have hz3 : (((w.alloc (.cells #[.slice AL rows.length cL] 33)).alloc (.cells #[.int .i64 x.id, .slice AX x.vals.length cX] 36)).alloc (.cells #[.slice none 0 0] 33)).heap.size = w.heap.size + 3 := by simp
 have HZ3 := Lib.hid hz3
 clear hz3
 go_upto_region 1 with fail
 generalize ((w.alloc (.cells #[.slice AL rows.length cL] 33)).alloc (.cells #[.int .i64 x.id, .slice AX x.vals.length cX] 36)).alloc (.cells #[.slice none 0 0] 33) = z at *
 have HR := Lib.hid ((hr.lows RwR.lows (by omega)).low RwR.stays hz)
 have HX := Lib.hid ((hx.lows (FlatR.lows _) (by omega)).low VlR.stays hz)
 have HO := Lib.hid (RowsS.lit z w.heap.size (Nat.le_refl _))
 have hb0 := (Below.refl z.heap.size z).alloc (Nat.le_refl _) (.cells #[] 36)
 have HZ := Lib.hid hz
 have HZS := Lib.hid hz.size
 clear hr hx hz
 go_wp2_with fail
 go_loopw [5, 6, 7] (fun v dn iv wr => ∃ k : Nat, k ≤ rows.length ∧ iv = .int .i64 k ∧ dn = .bool false ∧ Hid (∃ xss, RowsS wr z.heap.size w.heap.size v (rows.take k) xss) ∧ Below z.heap.size z wr) (fun _ _ iv _ => rows.length - (intOf iv).toNat)
 case atStart => exact ⟨0, by omega, rfl, rfl, Lib.hid ⟨_, by simpa using HO.out⟩, hb0⟩
 case round =>
  clear HO hb0
  obtain ⟨k, hk, rfl, rfl, hown, hb⟩ := hrel
  obtain ⟨c0, -⟩ := (rd.below hb).all1
  obtain ⟨⟨d0, d1⟩, -⟩ := (rx.below hb).all2
  obtain ⟨xss, hown⟩ := hown.out
  have HOW := Lib.hid hown
  have hkl : (rows.take k).length = k := by rw [List.length_take]; omega
  by_cases hlt : k < rows.length
  ·obtain ⟨b, off, A1, n1, c1, hbk, rfl, q0, q1, hv1, hc1⟩ := RwR.at_ (HR.out.low RwR.stays (hb.mono HZS.out)) hlt
   have i0' : (0 : Int) ≤ k := by omega
   have i1 : (k : Int) < rows.length := by omega
   have hidk := HID.out _ (List.getElem_mem hlt)
   have hd1 : decide (x.id ≤ rows[k].id) = false := by rw [decide_eq_false_iff_not]; omega
   have hd2 : (rows[k].id != x.id) = true := by simp; omega
   have HTK := Lib.hid (show rows.take (k + 1) = rows.take k ++ [rows[k]] from List.take_succ_eq_append_getElem hlt)
   have HV1 := Lib.hid hv1
   clear hown hv1 hidk
   go_wp2_with fail
   go_quiet (fail)
   have hb1 : Below z.heap.size z (wr.drewN nq) := ⟨hb.os, hb.tape, hb.output, hb.size, hb.block⟩
   have HOW1 := Lib.hid (show RowsS (wr.drewN nq) z.heap.size w.heap.size _ (rows.take k) xss from ⟨HOW.out.len, HOW.out.two, HOW.out.row, HOW.out.val⟩)
   have c0 : (wr.drewN nq).cell? ⟨w.heap.size, 0, none⟩ = some (.slice (some ⟨b, off, none⟩) rows.length cL) := c0
   have d0 : (wr.drewN nq).cell? ⟨w.heap.size + 1, 0, none⟩ = some (.int .i64 x.id) := d0
   have q0 : (wr.drewN nq).cell? ⟨b, off + k * 2, none⟩ = some (.int .i64 rows[k].id) := q0
   have q1 : (wr.drewN nq).cell? ⟨b, off + k * 2 + 1, none⟩ = some (.slice A1 n1 c1) := q1
   have HV1 := Lib.hid (show Sl VlR 3 (fun b => b < w.heap.size) (wr.drewN nq) A1 n1 rows[k].vals from HV1.out.stays VlR.stays (fun _ h => h) (fun _ _ _ h => h))
   clear hb HOW d1
   generalize wr.drewN nq = w2 at *
   go_wp2_with fail
   go_quiet (fail)
   have hb2 : Below z.heap.size z (w2.drewN nq) := ⟨hb1.os, hb1.tape, hb1.output, hb1.size, hb1.block⟩
   have HOW2 := Lib.hid (show RowsS (w2.drewN nq) z.heap.size w.heap.size _ (rows.take k) xss from ⟨HOW1.out.len, HOW1.out.two, HOW1.out.row, HOW1.out.val⟩)
   have c0 : (w2.drewN nq).cell? ⟨w.heap.size, 0, none⟩ = some (.slice (some ⟨b, off, none⟩) rows.length cL) := c0
   have q0 : (w2.drewN nq).cell? ⟨b, off + k * 2, none⟩ = some (.int .i64 rows[k].id) := q0
   have q1 : (w2.drewN nq).cell? ⟨b, off + k * 2 + 1, none⟩ = some (.slice A1 n1 c1) := q1
   have HV2 := Lib.hid (show Sl VlR 3 (fun b => b < w.heap.size) (w2.drewN nq) A1 n1 rows[k].vals from HV1.out.stays VlR.stays (fun _ h => h) (fun _ _ _ h => h))
   clear hb1 HOW1 HV1 d0
   generalize w2.drewN nq = w3 at *
   have HKL := Lib.hid hkl
   clear hkl hd1 hd2
   go_wp2_with (at_builtin; refine wpList_append_own _ rfl _ _ 31 rfl z.heap.size 36 i0 (.agg #[.int .i64 0, .slice none 0 0]) 2 32 Tryz.underlying31 I1.out I2.out I3.out I4.out rfl (by decide) _ _ _ rfl (World.ownsRow.alloc HOW2.out.row _) ⟨_, 0, none⟩ 1 1 [.int .i64 rows[k].id, .slice A1 n1 c1] rfl rfl ?c1 ?c2 ?c3 ?c4 ?c5 ?_)
   case c1 => first | exact cells_newAt _ [.int .i64 rows[k].id, .slice A1 n1 c1] _ (by first | rfl | simp) | (intro j u hu; exact hu)
   case c2 => intro u hu; simp at hu; rcases hu with rfl | rfl <;> rfl
   case c3 => have := HKL.out; unfold maxLen; omega
   case c4 => have := HKL.out; omega
   case c5 => have := hb2.size; first | omega | (simp; omega)
   intro v9 w9 hown9 hgrow _
   have R9 := Lib.hid (RowsS.app HOW2.out HZS.out HV2.out hc1 hb2.size (by rw [HKL.out]; exact hown9) hgrow)
   have hb9 := hb2.trans R9.out.2
   clear hown9 hgrow HOW2 HV2
   rw [← HTK.out] at R9
   go_wp2_with fail
   go_roundw
   case rel => exact ⟨k + 1, by omega, by go_num, rfl, Lib.hid ⟨_, R9.out.1⟩, hb9⟩
   case measure => simp [intOf]; omega
  ·obtain rfl : k = rows.length := by omega
   rw [List.take_length] at hown
   have HOW := Lib.hid hown
   have HXV := Lib.hid (HX.out.low VlR.stays (hb.mono HZS.out))
   clear hown hkl
   go_wp2_with (at_builtin; refine wpList_append_own _ rfl _ _ 31 rfl z.heap.size 36 i0 (.agg #[.int .i64 0, .slice none 0 0]) 2 32 Tryz.underlying31 I1.out I2.out I3.out I4.out rfl (by decide) _ _ _ rfl (World.ownsRow.alloc HOW.out.row _) ⟨_, 0, none⟩ 1 1 [.int .i64 x.id, .slice AX x.vals.length cX] rfl rfl ?c1 ?c2 ?c3 ?c4 ?c5 ?_)
   case c1 => first | exact cells_newAt _ [.int .i64 x.id, .slice AX x.vals.length cX] _ (by first | rfl | simp) | (intro j u hu; exact hu)
   case c2 => intro u hu; simp at hu; rcases hu with rfl | rfl <;> rfl
   case c3 => unfold maxLen; omega
   case c4 => omega
   case c5 => have := hb.size; first | omega | (simp; omega)
   intro v9 w9 hown9 hgrow _
   have R9 := Lib.hid (RowsS.app HOW.out HZS.out HXV.out hxc hb.size hown9 hgrow)
   have hb9 := hb.trans R9.out.2
   have HRA9 := Lib.hid (ra.below hb9)
   obtain ⟨AN, cN, rfl, hcN, -, hsN⟩ := R9.out.1.sl
   have HSN := Lib.hid hsN
   have HCN := Lib.hid hcN
   obtain ⟨r0, f0⟩ := HRA9.out.all1
   clear hown9 hgrow HOW HXV hsN hcN c0 d0 d1
   generalize hnn : (rows ++ [x]).length = nn at *
   have HNN := Lib.hid hnn
   clear hnn
   go_wp2_with fail
   have hr9 := HRA9.out.set 0 (.slice AN nn cN)
   refine bodyPost_ret (results_cell_row (p := 4) (ty := 33) rfl _ _ (w.heap.size + 2) 33 #[.slice AN nn cN] (0, 0) _ rfl hr9 Tryz.underlying33 rfl HI.out) rfl ⟨⟨AN, cN, by rw [HNN.out], by rw [HNN.out]; exact HCN.out, ?_⟩, ?_⟩
   ·rw [HNN.out]
    exact (HSN.out.set RwR.stays (fun b hb e => by have := HZ3.out; simp only at e; omega) _).stays RwR.stays (fun _ _ => trivial) (fun _ _ _ h => h)
   ·exact (HZ.out.trans (hb9.mono HZ.out.size)).setCell (by simp only; omega) _
end Go.Proofs.YtjhhamlnlalkoaaGreat
namespace Go.Proofs.YtjhhamlnlalkoaaGreat
open Go.RowKit
section
variable {α : Type} {T LT : TypeId} {sz bytes : Nat} {f : α → List Value}
theorem flat_cells (hf : ∀ x, (f x).length = sz) (hsz : 0 < sz) {ok : Nat → Prop} {w : World} {b off n : Nat} {l : List α} (h : Sl (FlatR f) sz ok w (some ⟨b, off, none⟩) n l) :
  ∀ (j : Nat) (u : Value), ((l.map f).flatten)[j]? = some u → w.cell? ((⟨b, off, none⟩ : Addr).add j) = some u := by
 intro j u hu
 have hlen := flat_len (sz := sz) (l.map f) (fun c hc => by obtain ⟨d, _, rfl⟩ := List.mem_map.1 hc; exact hf d)
 rw [List.length_map] at hlen
 have hj : j < l.length * sz := by rw [← hlen]; exact (List.getElem?_eq_some_iff.1 hu).1
 have hi : j / sz < l.length := (Nat.div_lt_iff_lt_mul hsz).2 hj
 have hr : j % sz < sz := Nat.mod_lt _ hsz
 have e : j / sz * sz + j % sz = j := by rw [Nat.mul_comm]; exact Nat.div_add_mod j sz
 have h7 := flat_get (sz := sz) (l.map f) (j / sz) (j % sz) (by simpa using hi) hr (fun c hc => by obtain ⟨d, _, rfl⟩ := List.mem_map.1 hc; exact hf d)
 rw [e, hu, List.getElem_map] at h7
 have hn : 0 < n := h.1 ▸ Nat.lt_of_le_of_lt (Nat.zero_le _) hi
 obtain ⟨b', off', e', -, hc⟩ := h.2 hn
 injection e' with e'
 injection e' with e1 e2
 subst e1 e2
 obtain ⟨cs, -, hR, g⟩ := hc _ hi
 have e3 : cs = f l[j / sz] := hR
 subst e3
 have := g (j % sz) u h7.symm
 rw [addr_add, ← e, ← Nat.add_assoc]
 exact this
theorem run_app_all (hf : ∀ x, (f x).length = sz) (hone : ∀ x, ∀ u ∈ f x, u.oneCell' = true) (hsz : 0 < sz) {i : TypeInfo} {z : Value} (ht : Tryz.prog.underlying LT = some (.slice T)) (hi : Tryz.prog.info? T = some i) (hz : i.zero = some z) (hsize : i.size = sz) (hby : i.bytes = bytes) (hzs : z.cells.size = sz)
  (w : World) (ty : TypeId) {base : Nat} {v : Value} (hv : OwnG T sz f w base v ([] : List α)) (hbase : base ≤ w.heap.size) {A : Option Addr} {n c : Nat} {l : List α} {ok : Nat → Prop} (h : Sl (FlatR f) sz ok w A n l) (hn : n ≤ 1048576) (hbb : bytes ≤ 1048576) :
  ∃ v' w', (Builtin.append_ #[LT, LT] ty #[v, .slice A n c]).run Tryz.prog w = .ok v' w' ∧ OwnG T sz f w' base v' l ∧ w.grownBy w' v.ownBlock ∧ (v'.ownBlock = v.ownBlock ∨ ∃ g, v'.ownBlock = some g ∧ w.heap.size ≤ g) := by
 obtain rfl : l.length = n := h.1
 by_cases hn0 : l.length = 0
 ·have hl : l = [] := List.eq_nil_of_length_eq_zero hn0
  subst hl
  have hf0 : (Builtin.firstCells i.size 0 (.slice A 0 c)).run Tryz.prog w = .ok #[] w := by
   cases A <;> simp [Builtin.firstCells, loadCells] <;> rfl
  rcases hv.2 with ⟨rfl, -⟩ | ⟨g, cap, cur, rfl, -⟩
  ·refine ⟨.slice none 0 0, w, ?_, hv, ⟨rfl, rfl, rfl, Nat.le_refl _, fun _ _ _ => rfl⟩, .inl rfl⟩
   simp [Builtin.append_, run_underlying ht, sizeOf, typeInfo, hi, Builtin.lenOf, hf0]
  ·refine ⟨.slice (some ⟨g, 0, none⟩) 0 cap, w, ?_, hv, ⟨rfl, rfl, rfl, Nat.le_refl _, fun _ _ _ => rfl⟩, .inl rfl⟩
   simp [Builtin.append_, run_underlying ht, sizeOf, typeInfo, hi, Builtin.lenOf, hf0, storeCells]
 ·obtain ⟨b, off, rfl, -, -⟩ := h.2 (by omega)
  have hlen := flat_len (sz := sz) (l.map f) (fun c hc => by obtain ⟨d, _, rfl⟩ := List.mem_map.1 hc; exact hf d)
  rw [List.length_map] at hlen
  obtain ⟨v', w', hr, h1, h2, -, h4⟩ := run_append_own_at (P := Tryz.prog) w base LT ty T i z sz bytes ht hi hz hsize hby hzs hsz v 0 [] hv ⟨b, off, none⟩ l.length c ((l.map f).flatten) hlen (flat_cells hf hsz h) (fun u hu => by
   obtain ⟨cs, hcs, hu⟩ := List.mem_flatten.1 hu
   obtain ⟨d, _, rfl⟩ := List.mem_map.1 hcs
   exact hone d u hu) (by unfold maxLen; omega) (by
   rw [Nat.zero_add]
   have := Nat.mul_le_mul hn hbb
   omega) hbase
  refine ⟨v', w', hr, ?_, h2, ?_⟩
  ·unfold OwnG
   rw [Nat.zero_add, List.nil_append] at h1
   exact h1
  ·rcases h4 with h4 | h4
   ·exact .inl h4
   ·exact .inr ⟨_, h4, Nat.le_refl _⟩
theorem wpList_app_all {ops : Array Oper} {rest : List Oper} {o : Oper} {a : Act} {Q : Exit → Act → World → Prop} (hgd : o.guard = none) (s x : Operand) (LT : TypeId) (ho : o.op = .call { callee := .builtin .append, args := #[s, x], argTypes := #[LT, LT] })
  (hf : ∀ x, (f x).length = sz) (hone : ∀ x, ∀ u ∈ f x, u.oneCell' = true) (hsz : 0 < sz) {i : TypeInfo} {z : Value} (ht : Tryz.prog.underlying LT = some (.slice T)) (hi : Tryz.prog.info? T = some i) (hz : i.zero = some z) (hsize : i.size = sz) (hby : i.bytes = bytes) (hzs : z.cells.size = sz)
  (w : World) {base : Nat} {v : Value} (hs : a.eval s = v) (hv : OwnG T sz f w base v ([] : List α)) (hbase : base ≤ w.heap.size) {A : Option Addr} {n c : Nat} {l : List α} {ok : Nat → Prop} (hx : a.eval x = .slice A n c) (h : Sl (FlatR f) sz ok w A n l) (hn : n ≤ 1048576) (hbb : bytes ≤ 1048576)
  (hK : ∀ v' w', OwnG T sz f w' base v' l → w.grownBy w' v.ownBlock → (v'.ownBlock = v.ownBlock ∨ ∃ g, v'.ownBlock = some g ∧ w.heap.size ≤ g) → wpList Tryz.prog ops Q rest (a.put o.dst v') w') : wpList Tryz.prog ops Q (o :: rest) a w := by
 refine wpList_plain hgd fun K hK' => ?_
 obtain ⟨v', w', hr, h2, h3, h4⟩ := run_app_all hf hone hsz ht hi hz hsize hby hzs w o.type hv hbase (c := c) h hn hbb
 unfold Oper.wp execOp
 simp only [ho, resolve, invoke, builtin, Sem.run_bind, Sem.run_pure, Result.andThen_ok, List.map_toArray, List.map_cons, List.map_nil, hs, hx, hr]
 exact hK' _ _ (hK v' w' h2 h3 h4)
end
end Go.Proofs.YtjhhamlnlalkoaaGreat
namespace Go.Proofs.YtjhhamlnlalkoaaGreat
open Go.RowKit
structure SlV where
 A : Option Addr
 n : Nat
 c : Nat
def SlV.cells (x : SlV) : List Value := [.slice x.A x.n x.c]
theorem slv_cells : ∀ x : SlV, (SlV.cells x).length = 1 := fun _ => rfl
theorem slv_one : ∀ x, ∀ u ∈ SlV.cells x, u.oneCell' = true := by intro x u hu; simp [SlV.cells] at hu; subst hu; rfl
def Tabs (ok : Nat → Prop) (w : World) (ps : List SlV) (db : List Dt) : Prop := ps.length = db.length ∧ ∀ i (h : i < ps.length) (h' : i < db.length), Sl RwR 2 ok w ps[i].A ps[i].n db[i].rows ∧ ps[i].n ≤ ps[i].c
theorem Sl.tabs {ok : Nat → Prop} {w : World} {A : Option Addr} {n : Nat} {db : List Dt} (h : Sl DtR 1 ok w A n db) : ∃ ps, Tabs ok w ps db ∧ Sl (FlatR SlV.cells) 1 ok w A n ps := by
 have key : ∀ m, m ≤ db.length → ∃ ps : List SlV, ps.length = m ∧ (∀ i (h : i < ps.length) (h' : i < db.length), Sl RwR 2 ok w ps[i].A ps[i].n db[i].rows ∧ ps[i].n ≤ ps[i].c) ∧ (0 < n → ∃ b off, A = some ⟨b, off, none⟩ ∧ ok b ∧ ∀ i (h : i < ps.length), w.cell? ⟨b, off + i, none⟩ = some (.slice ps[i].A ps[i].n ps[i].c)) := by
  intro m
  induction m with
  | zero =>
   intro _
   refine ⟨[], rfl, fun i h => by simp at h, fun hn => ?_⟩
   obtain ⟨b, off, e, hb, -⟩ := h.2 hn
   exact ⟨b, off, e, hb, fun i h => by simp at h⟩
  | succ m ih =>
   intro hm
   obtain ⟨ps, hl, hp, hc⟩ := ih (by omega)
   obtain ⟨b, off, A0, n0, c0, hb, eA, q0, hr, hcp⟩ := DtR.at_ h (i := m) (by omega)
   refine ⟨ps ++ [⟨A0, n0, c0⟩], by simp [hl], fun i hi hi' => ?_, fun hn => ⟨b, off, eA, hb, fun i hi => ?_⟩⟩
   ·by_cases e : i < ps.length
    ·rw [List.getElem_append_left e]; exact hp i e hi'
    ·simp only [List.length_append, List.length_cons, List.length_nil] at hi
     obtain rfl : i = ps.length := by omega
     subst hl
     rw [List.getElem_append_right (Nat.le_refl _)]
     simpa using ⟨hr, hcp⟩
   ·by_cases e : i < ps.length
    ·rw [List.getElem_append_left e]
     obtain ⟨b', off', eA', -, hc'⟩ := hc hn
     rw [eA] at eA'
     injection eA' with e1
     injection e1 with e1 e2
     subst e1 e2
     exact hc' i e
    ·simp only [List.length_append, List.length_cons, List.length_nil] at hi
     obtain rfl : i = ps.length := by omega
     subst hl
     rw [List.getElem_append_right (Nat.le_refl _)]
     simpa using q0
 obtain ⟨ps, hl, hp, hc⟩ := key db.length (Nat.le_refl _)
 refine ⟨ps, ⟨hl, hp⟩, by rw [hl]; exact h.1, fun hn => ?_⟩
 obtain ⟨b, off, e, hb, hcs⟩ := hc hn
 refine ⟨b, off, e, hb, fun i hi => ⟨_, rfl, rfl, fun j v hv => ?_⟩⟩
 have hj : j = 0 := by have := (List.getElem?_eq_some_iff.1 hv).1; simpa [SlV.cells] using this
 subst hj
 obtain rfl := Option.some.inj hv
 rw [Nat.mul_one, Nat.add_zero]
 exact hcs i hi
theorem Tabs.sl {ok ok' : Nat → Prop} {w w' : World} {A : Option Addr} {n : Nat} {ps : List SlV} {db : List Dt} (h : Tabs ok w ps db) (hs : Sl (FlatR SlV.cells) 1 ok' w' A n ps) (hk : ∀ (p : Addr) (v : Value), ok p.block → w.cell? p = some v → w'.cell? p = some v) : Sl DtR 1 (fun b => ok b ∨ ok' b) w' A n db := by
 refine ⟨by rw [← h.1]; exact hs.1, fun hn => ?_⟩
 obtain ⟨b, off, e, hb, hc⟩ := hs.2 hn
 refine ⟨b, off, e, .inr hb, fun i hi => ?_⟩
 have hi' : i < ps.length := by rw [h.1]; exact hi
 obtain ⟨cs, h1, h2, h3⟩ := hc i hi'
 have e2 : cs = SlV.cells ps[i] := h2
 subst e2
 obtain ⟨g1, g2⟩ := h.2 i hi' hi
 exact ⟨_, rfl, ⟨_, _, _, rfl, g1.stays RwR.stays (fun _ h => .inl h) hk, g2⟩, h3⟩
theorem Tabs.set {ok : Nat → Prop} {w : World} {ps : List SlV} {db : List Dt} (h : Tabs ok w ps db) (m : Nat) {p : SlV} {d : Dt} (hp : Sl RwR 2 ok w p.A p.n d.rows) (hc : p.n ≤ p.c) : Tabs ok w (ps.set m p) (db.set m d) := by
 refine ⟨by simp [h.1], fun i hi hi' => ?_⟩
 by_cases e : m = i
 ·subst e
  rw [List.getElem_set_self, List.getElem_set_self]
  exact ⟨hp, hc⟩
 ·rw [List.getElem_set_ne e, List.getElem_set_ne e]
  exact h.2 i (by simpa using hi) (by simpa using hi')
theorem slv_flat (ps : List SlV) : (ps.map SlV.cells).flatten = ps.map fun p => Value.slice p.A p.n p.c := by
 induction ps with
 | nil => rfl
 | cons p r ih => rw [List.map_cons, List.flatten_cons, ih]; rfl
theorem own_setS {T : TypeId} {w : World} {base g c : Nat} {ps : List SlV} (h : OwnG T 1 SlV.cells w base (.slice (some ⟨g, 0, none⟩) ps.length c) ps) (m : Nat) (p : SlV) : OwnG T 1 SlV.cells (w.setCell ⟨g, m, none⟩ (.slice p.A p.n p.c)) base (.slice (some ⟨g, 0, none⟩) ps.length c) (ps.set m p) ∧ w.grownBy (w.setCell ⟨g, m, none⟩ (.slice p.A p.n p.c)) (some g) := by
 obtain ⟨s1, s2⟩ := World.ownsRow.stored (show w.ownsRow base T 1 (.slice (some ⟨g, 0, none⟩) ps.length c) ps.length _ from h) m (.slice p.A p.n p.c)
 refine ⟨?_, s2⟩
 unfold OwnG
 rw [slv_flat, List.map_set, List.length_set]
 rw [slv_flat] at s1
 exact s1
set_option maxRecDepth 100000 in
set_option maxHeartbeats 1000000 in
theorem specL4With (AD AL : Option Addr) (nD cD nL cL m : Nat) (db : List Dt) (d : Dt) (okd okl : Nat → Prop) (w : World) (hd : Sl DtR 1 okd w AD nD db) (hl : Sl RwR 2 okl w AL nL d.rows) (hlc : nL ≤ cL) (hm : m < db.length) (hn : nD ≤ 1000000) :
  Calls Tryz.prog 139 #[.slice AD nD cD, .int .i64 m, .agg #[.slice AL nL cL]] w fun e w' => (∃ A c, e = .returned (.slice A nD c) ∧ nD ≤ c ∧ Sl DtR 1 (fun _ => True) w' A nD (db.set m d)) ∧ Below w.heap.size w w' := by
 obtain rfl : db.length = nD := hd.1
 obtain rfl : d.rows.length = nL := hl.1
 obtain ⟨ps, htb, hps⟩ := (hd.lows DtR.lows (by omega)).tabs
 obtain ⟨i0, hi, hz0, hz1, hz2⟩ := info_parts infoDataR
 have H1 := Lib.hid hi
 have H2 := Lib.hid hz0
 have H3 := Lib.hid hz1
 have H4 := Lib.hid hz2
 have hz : Below w.heap.size w ((w.alloc (.cells #[.slice AL d.rows.length cL] 33)).alloc (.cells #[] 33)) := ((Below.refl w.heap.size w).alloc (Nat.le_refl _) _).alloc (by simp) _
 have rd := (Row.new w 33 #[.slice AL d.rows.length cL]).alloc (.cells #[] 33)
 have ho := OwnG.lit (T := 33) (sz := 1) (f := SlV.cells) (w.alloc (.cells #[.slice AL d.rows.length cL] 33)) (base := w.heap.size + 1) (by simp)
 rw [show (w.alloc (.cells #[.slice AL d.rows.length cL] 33)).heap.size = w.heap.size + 1 by simp] at ho
 have HO := Lib.hid ho
 clear ho
 have HPS := Lib.hid (hps.below (FlatR.stays _) hz)
 have hpl : ps.length = db.length := htb.1
 have HTB := Lib.hid htb
 have HL := Lib.hid (hl.lows RwR.lows (by omega))
 have HRD := Lib.hid rd
 have HZ := Lib.hid hz
 have HPL := Lib.hid hpl
 clear htb hl hd hps hi hz0 hz1 hz2 rd hz
 go_enter Tryz.func139, Tryz.ntmps139
 go_wp2_with (at_builtin; go_loud (refine wpList_app_all rfl _ _ 25 rfl slv_cells slv_one (by omega) Tryz.underlying25 H1.out H2.out H3.out H4.out rfl _ rfl HO.out ?c1 rfl HPS.out ?c2 (by omega) ?_))
 case c1 => simp
 case c2 => omega
 intro v0 u2 o0 hg0 _
 have hb2 : Below (w.heap.size + 1) ((w.alloc (.cells #[.slice AL d.rows.length cL] 33)).alloc (.cells #[] 33)) u2 := (Below.refl _ _).grown hg0 (by simp) (fun k hk => (OwnG.block_lt HO.out k hk).1)
 have rd2 : Row u2 w.heap.size 33 #[.slice AL d.rows.length cL] := (hg0.block _ (lt_of_block HRD.out) (fun e => by have := (OwnG.block_lt HO.out _ e.symm).1; omega)).trans HRD.out
 obtain ⟨c0, -⟩ := rd2.all1
 have hv0 : ∃ g c, v0 = .slice (some ⟨g, 0, none⟩) ps.length c ∧ ps.length ≤ c ∧ w.heap.size + 1 ≤ g := by
  rcases o0.2 with ⟨rfl, hn0⟩ | ⟨g, cap, cur, rfl, h1, h2, h3, -⟩
  ·have := HPL.out; omega
  ·exact ⟨g, cap, rfl, h3, h1⟩
 obtain ⟨g, c2, rfl, hc2, hgb⟩ := hv0
 have hmp : m < ps.length := by have := HPL.out; omega
 have q0 : u2.cell? ⟨g, m, none⟩ = some (.slice ps[m].A ps[m].n ps[m].c) := by
  rw [World.ownsRow.cellAt (show u2.ownsRow _ _ 1 _ ps.length _ from o0) m (by omega), slv_flat, List.getElem?_map, List.getElem?_eq_getElem hmp]
  rfl
 have f0 : u2.frozen? ⟨g, m, none⟩ = false := World.ownsRow.frozenAt (show u2.ownsRow _ _ 1 _ ps.length _ from o0) m
 obtain ⟨o3, g3⟩ := own_setS o0 m ⟨AL, d.rows.length, cL⟩
 obtain ⟨A9, c9, e9, hc9, -, hs9⟩ := OwnG.sl slv_cells o3
 have hb3 : Below w.heap.size w (u2.setCell ⟨g, m, none⟩ (.slice AL d.rows.length cL)) := (HZ.out.trans (hb2.mono (by omega))).setCell (by simp only; omega) _
 have HF := Lib.hid (show Sl DtR 1 (fun _ => True) (u2.setCell ⟨g, m, none⟩ (.slice AL d.rows.length cL)) (some ⟨g, 0, none⟩) ps.length (db.set m d) from by
  injection e9 with e1 e2 e3
  rw [List.length_set] at e2
  subst e1
  have h1 := (HTB.out.set m (p := ⟨AL, d.rows.length, cL⟩) (d := d) HL.out hlc)
  rw [List.length_set] at hs9
  exact (h1.sl hs9 (fun p v hp hv => (hb3.cell hp).trans hv)).stays DtR.stays (fun _ _ => trivial) (fun _ _ _ h => h))
 have HB3 := Lib.hid hb3
 have i0' : (0 : Int) ≤ m := by omega
 have i1 : (m : Int) < ps.length := by omega
 clear o0 hg0 hb2 rd2 o3 g3 e9 hc9 hs9 hb3 HO
 go_wp2_with fail
 go_ret
 refine ⟨⟨some ⟨g, 0, none⟩, c2, by rw [← HPL.out]; rfl, by rw [← HPL.out]; exact hc2, by rw [← HPL.out]; exact HF.out⟩, HB3.out⟩
end Go.Proofs.YtjhhamlnlalkoaaGreat
namespace Go.Proofs.YtjhhamlnlalkoaaGreat
open Go.RowKit
def OwnK (w : World) (base : Nat) (v : Value) (xs : List Vl) : Prop := OwnG 53 3 Vl.cells w base v xs
end Go.Proofs.YtjhhamlnlalkoaaGreat
namespace Go.Proofs.YtjhhamlnlalkoaaGreat
open Go.RowKit
theorem infoValC : (Tryz.prog.info? 53).map (fun i => (i.zero, i.size, i.bytes)) = some (some (.agg #[.int .i64 0, .int .i64 0, .string ⟨#[]⟩]), 3, 32) := by kernel_rfl
section
variable {P : Program} {w : World}
theorem run_append_own_0 (base : Nat) (t ty e : TypeId) (i : TypeInfo) (size : Nat) (ht : P.underlying t = some (.slice e)) (hi : P.info? e = some i)
  (v : Value) (n : Nat) (xs : List Value) (hown : w.ownsRow base e size v n xs) (c : Nat) :
  (Builtin.append_ #[t, t] ty #[v, .slice none 0 c]).run P w = .ok v w := by
 rcases hown.2 with ⟨rfl, rfl⟩ | ⟨g, cap, cur, rfl, _, _, hnc, _⟩
 ·simp [Builtin.append_, run_underlying ht, sizeOf, typeInfo, hi, Builtin.lenOf, Builtin.firstCells]
 ·simp [Builtin.append_, run_underlying ht, sizeOf, typeInfo, hi, Builtin.lenOf, Builtin.firstCells, hnc, storeCells]
theorem wpList_append_own_0 {ops : Array Oper} {rest : List Oper} {o : Oper} {a : Act} {Q : Exit → Act → World → Prop} (hgd : o.guard = none) (s x : Operand) (t : TypeId)
  (ho : o.op = .call { callee := .builtin .append, args := #[s, x], argTypes := #[t, t] })
  (base : Nat) (e : TypeId) (i : TypeInfo) (size : Nat) (ht : P.underlying t = some (.slice e)) (hi : P.info? e = some i)
  (v : Value) (n : Nat) (xs : List Value) (hs : a.eval s = v) (hown : w.ownsRow base e size v n xs) (c : Nat) (hx : a.eval x = .slice none 0 c)
  (h : wpList P ops Q rest (a.put o.dst v) w) : wpList P ops Q (o :: rest) a w := by
 refine wpList_plain hgd fun K hK => ?_
 have hrun := run_append_own_0 (P := P) (w := w) base t o.type e i size ht hi v n xs hown c
 unfold Oper.wp
 simp [execOp, ho, resolve, invoke, builtin, hs, hx, hrun, Result.andThen]
 exact hK _ _ h
end
theorem Sl.flat_cells {α : Type} {f : α → List Value} {sz : Nat} (hz : 0 < sz) (hf : ∀ d, (f d).length = sz) {ok : Nat → Prop} {w : World} {ad : Addr} {n : Nat} {xs : List α} (h : Sl (FlatR f) sz ok w (some ad) n xs) :
  ∀ j u, ((xs.map f).flatten)[j]? = some u → w.cell? (ad.add j) = some u := fun j u hj => by
 have hl := flat_len (sz := sz) (xs.map f) (fun c hc => by obtain ⟨d, _, rfl⟩ := List.mem_map.1 hc; exact hf d)
 have hjl := (List.getElem?_eq_some_iff.1 hj).1
 rw [hl, List.length_map] at hjl
 have hlen := h.1
 obtain ⟨b, off, e, hb, hi⟩ := h.2 (by rcases Nat.eq_zero_or_pos n with h0 | h0; · rw [hlen, h0] at hjl; omega
                                       ·exact h0)
 cases e
 have hdiv : j / sz < xs.length := Nat.div_lt_of_lt_mul (by rw [Nat.mul_comm]; exact hjl)
 have hmod : j % sz < sz := Nat.mod_lt _ hz
 have hj' : j / sz * sz + j % sz = j := by rw [Nat.mul_comm]; exact Nat.div_add_mod j sz
 obtain ⟨cs, h1, h2, h3⟩ := hi (j / sz) hdiv
 cases h2
 have := flat_get (sz := sz) (xs.map f) (j / sz) (j % sz) (by simpa using hdiv) hmod (fun c hc => by obtain ⟨d, _, rfl⟩ := List.mem_map.1 hc; exact hf d)
 rw [hj', hj, List.getElem_map] at this
 have := h3 (j % sz) u this.symm
 rw [addr_add, ← hj', ← Nat.add_assoc]
 exact this
theorem vl_one (xs : List Vl) : ∀ u ∈ (xs.map Vl.cells).flatten, u.oneCell' = true := fun u hu => by
 obtain ⟨l, hl, hu⟩ := List.mem_flatten.1 hu
 obtain ⟨t, -, rfl⟩ := List.mem_map.1 hl
 simp [Vl.cells] at hu
 rcases hu with rfl | rfl | rfl <;> rfl
theorem vl_flat (xs : List Vl) : ((xs.map Vl.cells).flatten).length = xs.length * 3 := by
 rw [flat_len (sz := 3) _ (fun c hc => by obtain ⟨t, -, rfl⟩ := List.mem_map.1 hc; rfl), List.length_map]
set_option maxRecDepth 100000 in
set_option maxHeartbeats 1000000 in
theorem specCopyVals (A : Option Addr) (n c : Nat) (xs : List Vl) (ok : Nat → Prop) (w : World) (h : Sl VlR 3 ok w A n xs) (hl : n ≤ 1073741824) :
  Calls Tryz.prog 137 #[.slice A n c] w fun e w' => ∃ v', e = .returned v' ∧ OwnK w' w.heap.size v' xs ∧ Below w.heap.size w w' := by
 obtain ⟨i0, hi, hz0, hz1, hz2⟩ := info_parts infoValC
 have H1 := Lib.hid hi
 have H2 := Lib.hid hz0
 have H3 := Lib.hid hz1
 have H4 := Lib.hid hz2
 clear hi hz0 hz1 hz2
 have HO0 := Lib.hid (OwnG.lit (T := 53) (sz := 3) (f := Vl.cells) w (Nat.le_refl w.heap.size))
 have hb0 := (Below.refl w.heap.size w).alloc (Nat.le_refl _) (.cells #[] 53)
 have h0 := h.below VlR.stays hb0
 obtain rfl : xs.length = n := h.1
 go_enter Tryz.func137, Tryz.ntmps137
 cases A with
 | none =>
  have hn : xs.length = 0 := by
   rcases Nat.eq_zero_or_pos xs.length with h | h
   ·exact h
   ·obtain ⟨b, off, e, -⟩ := h0.2 h
    cases e
  obtain rfl : xs = [] := List.length_eq_zero_iff.1 hn
  simp only [List.length_nil] at *
  go_wp2_with (at_builtin; refine wpList_append_own_0 rfl _ _ 34 rfl w.heap.size 53 i0 3 Tryz.underlying34 H1.out _ _ _ rfl HO0.out _ rfl ?_)
  go_ret
  exact ⟨_, rfl, HO0.out, hb0⟩
 | some ad =>
  have HX := Lib.hid (Sl.flat_cells (f := Vl.cells) (sz := 3) (by decide) (fun _ => rfl) h0)
  clear h0
  go_wp2_with (at_builtin; refine wpList_append_own _ rfl _ _ 34 rfl w.heap.size 53 i0 (.agg #[.int .i64 0, .int .i64 0, .string ⟨#[]⟩]) 3 32 Tryz.underlying34 H1.out H2.out H3.out H4.out rfl (by decide) _ _ _ rfl HO0.out ad xs.length c ((xs.map Vl.cells).flatten) rfl ?c0 ?c1 ?c2 ?c3 ?c4 ?c5 ?_)
  case c0 => exact vl_flat xs
  case c1 => exact HX.out
  case c2 => exact vl_one xs
  case c3 => unfold maxLen; simp; omega
  case c4 => simp; omega
  case c5 => simp
  intro v9 w9 hown9 hgrow9 _
  go_wp2_with fail
  go_ret
  refine ⟨_, rfl, ?_, ?_⟩
  ·unfold OwnK OwnG; simpa using hown9
  ·exact ((Below.refl w.heap.size w).alloc (Nat.le_refl _) _).grown hgrow9 (by simp) (by intro k hk; simp [Value.ownBlock] at hk; omega)
end Go.Proofs.YtjhhamlnlalkoaaGreat
namespace Go.Proofs.YtjhhamlnlalkoaaGreat
open Go.RowKit
theorem made_repC (x : Value) (n : Nat) : madeCells #[x] n = (List.replicate n x).toArray := by
 apply Array.ext
 ·simp [madeCells]
 ·intro i h1 h2
  simp [madeCells, Nat.mod_one]
theorem OwnR.belowC {w w' : World} {base : Nat} {v : Value} {rs : List Rw} (h : OwnR w base v rs) (hb : Below w.heap.size w w') : OwnR w' base v rs := by
 obtain ⟨vs, h⟩ := h
 refine ⟨vs, h.len, ?_, fun i hi hi' => OwnG.below (h.val i hi hi') hb⟩
 refine ⟨h.row.1, ?_⟩
 rcases h.row.2 with h | ⟨g, cap, cur, rfl, h1, h2, h3⟩
 ·exact .inl h
 ·exact .inr ⟨g, cap, cur, rfl, h1, (hb.block g (lt_of_block h2)).trans h2, h3⟩
theorem ownsRow_monoC {w : World} {b b' : Nat} {T : TypeId} {sz : Nat} {v : Value} {n : Nat} {xs : List Value} (h : w.ownsRow b T sz v n xs) (hb : b' ≤ b) : w.ownsRow b' T sz v n xs := by
 refine ⟨h.1, ?_⟩
 rcases h.2 with h | ⟨g, cap, cur, rfl, h1, h2⟩
 ·exact .inl h
 ·exact .inr ⟨g, cap, cur, rfl, Nat.le_trans hb h1, h2⟩
theorem OwnR.monoC {w : World} {b b' : Nat} {v : Value} {rs : List Rw} (h : OwnR w b v rs) (hb : b' ≤ b) : OwnR w b' v rs := by
 obtain ⟨vs, h⟩ := h
 exact ⟨vs, h.len, ownsRow_monoC h.row hb, fun i hi hi' => ownsRow_monoC (h.val i hi hi') hb⟩
theorem DbY.belowC {base g : Nat} {w w' : World} {vs : List Value} {ds : List Dt} (h : DbY w base g vs ds) (hb : Below w.heap.size w w') : DbY w' base g vs ds :=
 ⟨(hb.block g h.blo.lt).trans h.blo, h.len, h.low, fun i hi hi' => (h.own i hi hi').belowC hb, h.apart⟩
theorem DbY.lay {w : World} {base g : Nat} {vs : List Value} {ds : List Dt} {i : Nat} {v' : Value} {rows : List Rw} (h : DbY w base g vs ds) (hi : i < vs.length) (ho : OwnR w base v' rows) (hf : ∀ k, v'.ownBlock = some k → ∀ j (hj : j < vs.length), vs[j].ownBlock ≠ some k) :
  DbY (w.setCell ⟨g, i, none⟩ v') base g (vs.set i v') (ds.set i ⟨rows⟩) := by
 have hset : ∀ (v : Value) (rs : List Rw), OwnR w base v rs → OwnR (w.setCell ⟨g, i, none⟩ v') base v rs := fun v rs hv => hv.kept (grownBy_set (p := ⟨g, i, none⟩)) (by
  cases hb : v.ownBlock with
  | none => exact .inl rfl
  | some k => refine .inr fun e => ?_
              obtain ⟨cur, hc⟩ := hv.rows k hb
              obtain rfl : k = g := by simpa using e
              have hb' := h.blo
              unfold Blo at hb'
              rw [hb'] at hc
              simp only [Option.some.injEq, Obj.cells.injEq] at hc
              exact absurd hc.2.1 (by decide)) fun k hk => by
   obtain rfl : g = k := by simpa using hk
   exact ⟨_, _, h.blo, by decide⟩
 refine ⟨h.blo.put i v', by simp [h.len], h.low, fun j hj hj' => ?_, fun j k hj hk hjk => ?_⟩
 ·have hj1 : j < ds.length := by simpa using hj
  have hj2 : j < vs.length := by simpa using hj'
  by_cases e : i = j
  ·subst e
   rw [List.getElem_set_self, List.getElem_set_self]
   exact hset _ _ ho
  ·rw [List.getElem_set_ne e, List.getElem_set_ne e]
   exact hset _ _ (h.own j hj1 hj2)
 ·have hj2 : j < vs.length := by simpa using hj
  have hk2 : k < vs.length := by simpa using hk
  by_cases e1 : i = j
  ·subst e1
   have e2 : i ≠ k := hjk
   rw [List.getElem_set_self, List.getElem_set_ne e2]
   cases hv : v'.ownBlock with
   | none => exact .inl rfl
   | some b => exact .inr (fun e => hf b hv k hk2 e.symm)
  ·rw [List.getElem_set_ne e1]
   by_cases e2 : i = k
   ·subst e2
    rw [List.getElem_set_self]
    cases hv : vs[j].ownBlock with
    | none => exact .inl rfl
    | some b => exact .inr (fun e => hf b e.symm j hj2 hv)
   ·rw [List.getElem_set_ne e2]
    exact h.apart j k hj2 hk2 hjk
def partD (db : List Dt) (i : Nat) : List Dt := db.take i ++ List.replicate (db.length - i) ⟨[]⟩
theorem partD_len (db : List Dt) {i : Nat} (h : i ≤ db.length) : (partD db i).length = db.length := by unfold partD; rw [List.length_append, List.length_take, List.length_replicate]; omega
theorem partD_set (db : List Dt) {i : Nat} (h : i < db.length) : (partD db i).set i db[i] = partD db (i + 1) := by
 unfold partD
 have hl : (db.take i).length = i := by rw [List.length_take]; omega
 rw [List.set_append_right _ _ (by omega), hl, Nat.sub_self, show db.length - i = (db.length - (i + 1)) + 1 by omega, List.replicate_succ, List.set_cons_zero, List.take_succ_eq_append_getElem h, List.append_assoc]
 rfl
set_option maxRecDepth 100000 in
set_option maxHeartbeats 2000000 in
theorem specL4Copy (AD : Option Addr) (nD cD : Nat) (db : List Dt) (okd : Nat → Prop) (w : World) (hd : Sl DtR 1 okd w AD nD db) (hn : nD ≤ 1048576) (hrn : ∀ d ∈ db, d.rows.length ≤ 1000000) (hvn : ∀ d ∈ db, ∀ r ∈ d.rows, r.vals.length ≤ 1048576) :
  Calls Tryz.prog 108 #[.slice AD nD cD] w fun e w' => ∃ A c, e = .returned (.slice A nD c) ∧ nD ≤ c ∧ Sl DtR 1 (okF w.heap.size w') w' A nD db ∧ Below w.heap.size w w' := by
 obtain rfl : db.length = nD := hd.1
 obtain ⟨j0, hj, hy0, hy1, hy2⟩ := info_parts infoDataR
 obtain ⟨i0, hi, hz0, hz1, hz2⟩ := info_parts infoRowR
 have H1 := Lib.hid hi
 have H2 := Lib.hid hz0
 have H3 := Lib.hid hz1
 have H4 := Lib.hid hz2
 clear hi hz0 hz1 hz2 hj hy0 hy1 hy2
 have HRN := Lib.hid hrn
 have HVN := Lib.hid hvn
 clear hrn hvn
 have hmk : ∀ w, (Instr.makeSlice 25 (.int .i64 (db.length : Int)) (.int .i64 (db.length : Int))).run Tryz.prog w = .ok (.slice (some ⟨w.heap.size, 0, none⟩) db.length db.length) (w.alloc (.cells (List.replicate db.length (Value.slice none 0 0)).toArray 33)) := fun w => by
  have h := mk_rows (P := Tryz.prog) Tryz.underlying25 infoDataR (by omega) db.length hn w
  rw [Nat.mul_one] at h
  rw [← made_repC]
  exact h
 have hy := DbY.new w db.length (base := w.heap.size) (Nat.le_refl _)
 rw [List.toArray_replicate] at hy
 have HY := Lib.hid hy
 clear hy
 have hz := (Below.refl w.heap.size w).alloc (Nat.le_refl _) (.cells (Array.replicate db.length (Value.slice none 0 0)) 33)
 go_enter Tryz.func108, Tryz.ntmps108
 go_wp2_with fail
 generalize w.alloc (.cells (Array.replicate db.length (Value.slice none 0 0)) 33) = z at *
 clear hmk
 go_loopw [4, 5, 6] (fun iv _ _ wr => ∃ i : Nat, i ≤ db.length ∧ iv = .int .i64 i ∧ Hid (∃ vs, DbY wr w.heap.size w.heap.size vs (partD db i)) ∧ Below w.heap.size w wr) (fun iv _ _ _ => db.length - (intOf iv).toNat)
 case atStart => exact ⟨0, by omega, rfl, Lib.hid ⟨_, by unfold partD; simpa using HY.out⟩, hz⟩
 case round =>
  clear HY hz
  obtain ⟨wo, hwo⟩ : ∃ wo, wo = wr := ⟨_, rfl⟩
  subst hwo
  obtain ⟨i, hi', rfl, hdb, hb⟩ := hrel
  obtain ⟨vs, hdb⟩ := hdb.out
  by_cases hlt : i < db.length
  ·obtain ⟨bd, od, AL, nL, cL, -, eD, p0, hrw, -⟩ := DtR.at_ hd hlt
   obtain rfl : db[i].rows.length = nL := hrw.1
   subst eD
   have i1 : (0 : Int) ≤ i := by omega
   have i2 : (i : Int) < db.length := by omega
   have HDB := Lib.hid hdb
   have hrn := HRN.out _ (List.getElem_mem hlt)
   have HVI := Lib.hid (HVN.out _ (List.getElem_mem hlt))
   clear hdb
   have HO := Lib.hid (show OwnR _ wo.heap.size _ [] from ⟨[], rfl, (OwnG.lit (T := 36) (sz := 2) (f := fun r : Rw => [.int .i64 r.id]) wo (Nat.le_refl wo.heap.size)), fun i h => by simp at h⟩)
   have hb0 := (Below.refl wo.heap.size wo).alloc (Nat.le_refl _) (.cells #[] 36)
   go_wp2_with fail
   go_loopw [5, 6] (fun v kv wr => ∃ k : Nat, k ≤ db[i].rows.length ∧ kv = .int .i64 k ∧ Hid (OwnR wr wo.heap.size v (db[i].rows.take k)) ∧ Below wo.heap.size wo wr) (fun _ kv _ => db[i].rows.length - (intOf kv).toNat)
   case atStart => exact ⟨0, by omega, rfl, Lib.hid (by simpa using HO.out), hb0⟩
   case round =>
    clear HO hb0
    obtain ⟨k, hk, rfl, hown, hbq⟩ := hrel
    have hbz := hb.trans (hbq.mono hb.size)
    have pq := below_keep hbz _ _ p0
    by_cases hkt : k < db[i].rows.length
    ·obtain ⟨bl, ol, B1, k1, e1, -, eR, z0, z1, hv, -⟩ := RwR.at_ hrw hkt
     obtain rfl : db[i].rows[k].vals.length = k1 := hv.1
     subst eR
     have q0 := below_keep hbz _ _ z0
     have q1 := below_keep hbz _ _ z1
     have k0 : (0 : Int) ≤ k := by omega
     have k1 : (k : Int) < db[i].rows.length := by omega
     have HTK := Lib.hid (show db[i].rows.take (k + 1) = db[i].rows.take k ++ [db[i].rows[k]] from List.take_succ_eq_append_getElem hkt)
     have hkl : (db[i].rows.take k).length = k := by rw [List.length_take]; omega
     have HKL := Lib.hid hkl
     have HVK := Lib.hid (HVI.out _ (List.getElem_mem hkt))
     clear hkl
     go_wp2_with fail
     have hc0 : Below wr.heap.size wr wr.drew := (Below.refl wr.heap.size wr).drew
     refine wp_region_noPanic ?_
     refine wp_region_held_drew (S := (fun w' => w'.cell? ⟨bd, od + i, none⟩ = some (.slice (some ⟨bl, ol, none⟩) db[i].rows.length cL) ∧ w'.cell? ⟨bl, ol + k * 2, none⟩ = some (.int .i64 db[i].rows[k].id) ∧ w'.cell? ⟨bl, ol + k * 2 + 1, none⟩ = some (.slice B1 db[i].rows[k].vals.length e1))) (by kernel_rfl) ⟨pq, q0, q1⟩ (fun hHeld => ?_)
     generalize wr.drew = u0 at *
     refine tk 0 ?_
     refine tk 1 ?_
     refine tk 2 ?_
     refine tk 3 ?_
     refine tk 4 ?_
     refine tk 5 ?_
     refine tk 6 ?_
     refine tk 7 ?_
     refine tk 8 ?_
     refine tk 9 ?_
     refine tk 10 ?_
     refine tk 11 ?_
     refine tk 12 ?_
     refine tk 13 ?_
     refine tk 14 ?_
     refine tk 15 ?_
     refine tk 16 ?_
     refine tk 17 ?_
     refine tk 18 ?_
     refine wpAnyH_ready (rs := [19]) (by kernel_rfl) (by simp) ?_
     refine AllReadyH.cons rfl (fun K hK => ?_) AllReadyH.nil
     go_simp
     go_at_call 137
     refine (specCopyVals B1 _ e1 db[i].rows[k].vals _ u0 (hv.below VlR.stays (hbz.trans (hc0.mono hbz.size))) (by have := HVK.out; omega)).mono ?_
     rintro e u1 ⟨v1, rfl, hK, hq⟩
     have hc1 := hc0.trans (hq.mono hc0.size)
     have hsz0 := hc0.size
     have how1 := (hown.out.belowC hc0).belowC hq
     have hK1 : OwnW u1 wo.heap.size v1 db[i].rows[k].vals := ownsRow_monoC hK (by have := hbq.size; omega)
     obtain ⟨AV, cV, ev, -, -, -⟩ := OwnG.sl (f := Vl.cells) (sz := 3) (fun _ => rfl) hK1
     obtain ⟨nV, hnV⟩ : ∃ nV, nV = db[i].rows[k].vals.length := ⟨_, rfl⟩
     rw [← hnV] at ev
     subst ev
     clear hnV hK hq
     refine hK.out _ _ ⟨below_keep hc1 _ _ pq, below_keep hc1 _ _ q0, below_keep hc1 _ _ q1⟩ (fun hHeld => ?_)
     clear hK K
     (try simp only [Act.put, pz0, pz1, pz2, pz3, pz4, pz5])
     refine tk 20 ?_
     refine wpAnyH_ready (rs := [21]) (by kernel_rfl) (by simp) ?_
     refine AllReadyH.cons rfl (fun K hK => ?_) AllReadyH.nil
     go_simp
     have hal : Below u1.heap.size u1 (u1.alloc (.cells #[.int .i64 db[i].rows[k].id, .slice AV nV cV] 36)) := (Below.refl _ _).alloc (Nat.le_refl _) _
     have rg := Blo.new u1 [.int .i64 db[i].rows[k].id, .slice AV nV cV] 36
     have hc2 := hc1.alloc hc1.size (.cells #[.int .i64 db[i].rows[k].id, .slice AV nV cV] 36)
     have how2 := how1.belowC hal
     have hK2 := OwnG.below hK1 hal
     clear hal how1 hK1
     generalize hu2 : u1.alloc (.cells #[.int .i64 db[i].rows[k].id, .slice AV nV cV] 36) = u2 at *
     generalize u1.heap.size = g at *
     clear hu2
     refine hK.out _ _ ⟨below_keep hc2 _ _ pq, below_keep hc2 _ _ q0, below_keep hc2 _ _ q1⟩ (fun hHeld => ?_)
     clear hK K
     (try simp only [Act.put, pz0, pz1, pz2, pz3, pz4, pz5])
     refine wpAnyH_ready (rs := [22]) (by kernel_rfl) (by simp) ?_
     refine AllReadyH.cons rfl (fun K hK => ?_) AllReadyH.nil
     obtain ⟨us, hR0⟩ := how2
     have hr0 := hR0.row
     rw [HKL.out] at hr0
     have hszw : wo.heap.size ≤ u2.heap.size := by have h1 := hc2.size; have h2 := hbq.size; omega
     refine step_append_lies u2 rfl (.tmp 27) (.tmp 48) 31 rfl wo.heap.size 36 i0 (.agg #[.int .i64 0, .slice none 0 0]) 2 32 Tryz.underlying31 H1.out H2.out H3.out H4.out rfl (by decide) u5 k _ rfl hr0 ⟨g, 0, none⟩ 1 1 [.int .i64 db[i].rows[k].id, .slice AV nV cV] rfl rfl (fun j y hj => by rw [addr_add, Nat.zero_add]; exact rg.cell j y hj) (fun y hy => by simp at hy; rcases hy with rfl | rfl <;> rfl) (by omega) (by unfold maxLen; omega) (by omega) hszw u2.heap.size rfl ?_
     intro g4 c4 u3 hown4 hgrow hloc hlt4
     have HO4 := Lib.hid (hR0.app (x := ⟨db[i].rows[k].id, db[i].rows[k].vals⟩) hK2 (by rw [HKL.out]; exact hown4) hgrow)
     have hg3 : Below wo.heap.size u2 u3 := (Below.refl _ _).grown hgrow hszw (fun q hq => (World.ownsRow.lt hR0.row q hq).1)
     have hcw := (hbq.trans (hc2.mono hbq.size)).trans hg3
     have HCW := Lib.hid hcw
     have hbw := hb.trans (hcw.mono hb.size)
     clear hown4 hgrow hloc hR0 hr0 hK2 rg hg3 hcw hszw
     refine hK.out _ _ ⟨below_keep hbw _ _ p0, below_keep hbw _ _ z0, below_keep hbw _ _ z1⟩ (fun hHeld => ?_)
     clear hK K
     (try simp only [Act.put, pz0, pz1, pz2, pz3, pz4, pz5])
     refine tk 23 ?_
     refine wpAnyH_done (by kernel_rfl) ?_ _
     refine NoPanic.normal ?_
     clear hHeld
     clear hbw
     go_wp2_with fail
     go_roundw
     case rel => exact ⟨k + 1, by omega, by go_num, Lib.hid (by rw [HTK.out]; exact HO4.out), HCW.out⟩
     case measure => simp [intOf]; omega
    ·obtain rfl : k = db[i].rows.length := by omega
     rw [List.take_length] at hown
     have hvl : vs.length = db.length := by rw [HDB.out.len, partD_len db hi']
     have hdq := HDB.out.belowC hbq
     have how := hown.out
     have HL := Lib.hid (hdq.lay (i := i) (by omega) (how.monoC hb.size) (fun q hq j hj e => by have h1 := (how.lt q hq).1; have hj2 : j < (partD db i).length := (by rw [partD_len db hi']; omega); have h2 := ((HDB.out.own j hj2 hj).lt q e).2; omega))
     rw [partD_set db hlt] at HL
     have hcell : wr.cell? ⟨w.heap.size, i, none⟩ = some (vs[i]'(by omega)) := hdq.blo.cell i _ (List.getElem?_eq_getElem (by omega))
     have hfree := hdq.blo.free i
     obtain ⟨A9, c9, e9, -, -, -⟩ := how.sl
     obtain ⟨n9, hn9⟩ : ∃ n9, n9 = db[i].rows.length := ⟨_, rfl⟩
     have hbs := Lib.hid (hbz.setCell (p := ⟨w.heap.size, i, none⟩) (Nat.le_refl _))
     rw [← hn9] at e9
     subst e9
     have hnn := Lib.hid hn9
     clear hn9 how hdq HDB hown
     have p0k := pq
     go_wp2_with fail
     go_roundw
     case rel => exact ⟨i + 1, by omega, by go_num, Lib.hid ⟨_, HL.out⟩, hbs.out _⟩
     case measure => simp [intOf]; omega
  ·obtain rfl : i = db.length := by omega
   have hsl := hdb.sl
   have e1 : partD db db.length = db := by unfold partD; simp
   rw [e1] at hsl
   have HSL := Lib.hid hsl
   clear hsl hdb e1
   go_wp2_with fail
   go_ret
   exact ⟨_, _, rfl, Nat.le_refl _, HSL.out, hb⟩
theorem text_eq {a b : ByteArray} (h : (a.toList == b.toList) = true) : a = b := by
 have e : a.toList = b.toList := by simpa using h
 have e2 := congrArg List.toArray e
 apply ByteArray.ext
 have k : ∀ c : ByteArray, c.toList = c.data.toList := fun c => by
  first | rfl | exact ByteArray.toList_eq c | exact ByteArray.toList_eq_toList_data c | simp
 rw [k a, k b] at e
 exact Array.toList_inj.1 e
theorem atGo_at (s : ByteArray) : ∀ (l : List ByteArray) (i : Nat) (k : Nat), atGo s l i = (i + k : Nat) → ∃ h : k < l.length, l[k] = s
 | [], i, k, h => by simp [atGo] at h; omega
 | x :: xs, i, k, h => by
  rw [atGo] at h
  by_cases hx : (x.toList == s.toList) = true
  ·rw [if_pos hx] at h
   have : k = 0 := by omega
   subst this
   exact ⟨by simp, text_eq hx⟩
  ·rw [if_neg hx] at h
   rcases atGo_rng s xs (i + 1) with h1 | ⟨h1, -⟩
   ·omega
   ·obtain ⟨m, rfl⟩ : ∃ m, k = m + 1 := ⟨k - 1, by omega⟩
    obtain ⟨h2, h3⟩ := atGo_at s xs (i + 1) m (by rw [h]; omega)
    exact ⟨by simpa using h2, by simpa using h3⟩
theorem atN_at {l : List ByteArray} {s : ByteArray} {k : Nat} (h : atN l s = (k : Int)) : ∃ hk : k < l.length, l[k] = s := atGo_at s l 0 k (by unfold atN at h; simpa using h)
theorem refsK_has (nm : ByteArray) (s : List Tb) : ∀ (k i : Nat) (hi : i < s.length), i < k → k ≤ s.length → (((i : Int) ∈ refsK nm s k) ↔ refB nm s[i] = true)
 | 0, i, hi, h, _ => by omega
 | k + 1, i, hi, h, hk => by
  have hk' : k < s.length := by omega
  by_cases e : i = k
  ·subst e
   have hn : (i : Int) ∉ refsK nm s i := fun hm => by have := refsK_lt nm s i _ hm; omega
   cases hr : refB nm s[i]
   ·rw [refsK_no hk' hr]; simp [hn]
   ·rw [refsK_yes hk' hr]; simp
  ·have ih := refsK_has nm s k i hi (by omega) (by omega)
   cases hr : refB nm s[k]
   ·rw [refsK_no hk' hr]; exact ih
   ·rw [refsK_yes hk' hr, List.mem_append, ih]
    have : ¬ ((i : Int) ∈ [(k : Int)]) := by simp; omega
    simp [this]
def DtV (ok : Nat → Prop) (w : World) (v : Value) (d : Dt) : Prop := ∃ A n c, v = .slice A n c ∧ n ≤ c ∧ Sl RwR 2 ok w A n d.rows
theorem dt_vals {ok : Nat → Prop} {w : World} {A : Option Addr} {n : Nat} {ds : List Dt} (h : Sl DtR 1 ok w A n ds) :
  ∃ vs : List Value, vs.length = ds.length ∧ (∀ i (hi : i < ds.length) (hi' : i < vs.length), DtV ok w vs[i] ds[i]) ∧ ∀ b off, A = some ⟨b, off, none⟩ → ∀ j u, vs[j]? = some u → w.cell? ((⟨b, off, none⟩ : Addr).add j) = some u := by
 have hx : ∀ i : Fin ds.length, ∃ v, DtV ok w v ds[i.1] ∧ ∀ b off, A = some ⟨b, off, none⟩ → w.cell? ⟨b, off + i.1, none⟩ = some v := fun i => by
  obtain ⟨b, off, A0, n0, c0, -, rfl, p, hr, hc⟩ := DtR.at_ h i.2
  exact ⟨_, ⟨A0, n0, c0, rfl, hc, hr⟩, fun b' off' e => by cases e; exact p⟩
 refine ⟨List.ofFn fun i => Classical.choose (hx i), by simp, fun i hi hi' => ?_, fun b off e j u hj => ?_⟩
 ·rw [List.getElem_ofFn]
  exact (Classical.choose_spec (hx ⟨i, hi⟩)).1
 ·obtain ⟨hl, hu⟩ := List.getElem?_eq_some_iff.1 hj
  rw [List.length_ofFn] at hl
  rw [List.getElem_ofFn] at hu
  rw [← hu, addr_add]
  exact (Classical.choose_spec (hx ⟨j, hl⟩)).2 b off e
theorem DtV.below {ok : Nat → Prop} {w w' : World} {v : Value} {d : Dt} (h : DtV ok w v d) (hb : Below w.heap.size w w') : DtV ok w' v d := by
 obtain ⟨A, n, c, e, h1, h2⟩ := h
 exact ⟨A, n, c, e, h1, h2.below RwR.stays hb⟩
theorem dt_of {ok : Nat → Prop} {w : World} {base g n c : Nat} {T : TypeId} {vs : List Value} {ds : List Dt} (h : w.ownsRow base T 1 (.slice (some ⟨g, 0, none⟩) n c) n vs) (hn : n = ds.length) (hv : ∀ i (hi : i < ds.length) (hi' : i < vs.length), DtV ok w vs[i] ds[i]) (hl : vs.length = ds.length) :
  Sl DtR 1 (fun _ => True) w (some ⟨g, 0, none⟩) n ds := by
 subst hn
 rcases h.2 with ⟨e, -⟩ | ⟨g', cap, cur, e, h1, h2, h3, h4, h5, h6⟩
 ·cases e
 ·cases e
  refine ⟨rfl, fun hn => ⟨g, 0, rfl, trivial, fun i hi => ?_⟩⟩
  have hi' : i < vs.length := by omega
  obtain ⟨A, n, c, e, k1, k2⟩ := hv i hi hi'
  refine ⟨[vs[i]], rfl, ⟨A, n, c, by rw [e], k2.stays RwR.stays (fun _ _ => trivial) (fun _ _ _ h => h), k1⟩, fun j x hj => ?_⟩
  have hj0 : j = 0 := by have := (List.getElem?_eq_some_iff.1 hj).1; simpa using this
  subst hj0
  obtain rfl := Option.some.inj hj
  rw [cell_of_row _ _ _ _ _ _ h2, ← Array.getElem?_toList]
  have h8 : ∀ u, vs[i]? = some u → cur.toList[i]? = some u := fun u hu => by
   rw [← h6, List.getElem?_take] at hu
   split at hu
   ·exact hu
   ·cases hu
  rw [show 0 + i * 1 + 0 = i by omega]
  exact h8 _ (List.getElem?_eq_getElem hi')
theorem row_tail {ok : Nat → Prop} {w : World} {b off n : Nat} {l : List Rw} (h : Sl RwR 2 ok w (some ⟨b, off, none⟩) n l) : Sl RwR 2 ok w (some ⟨b, off + 2, none⟩) (n - 1) (l.drop 1) := by
 have hl := h.1
 refine ⟨by rw [List.length_drop]; omega, fun hn => ?_⟩
 obtain ⟨b', off', e, hb, hc⟩ := h.2 (by omega)
 cases e
 refine ⟨b, off + 2, rfl, hb, fun i hi => ?_⟩
 rw [List.length_drop] at hi
 obtain ⟨cs, h1, h2, h3⟩ := hc (i + 1) (by omega)
 refine ⟨cs, h1, ?_, fun j v hj => ?_⟩
 ·rw [List.getElem_drop]
  have e9 : ∀ (k : Nat) (hk : k < l.length), k = i + 1 → RwR ok w cs l[k] := fun k hk e => by subst e; exact h2
  exact e9 _ (by omega) (by omega)
 ·have := h3 j v hj
  rwa [show off + (i + 1) * 2 + j = off + 2 + i * 2 + j by omega] at this
end Go.Proofs.YtjhhamlnlalkoaaGreat
namespace Go.Proofs.YtjhhamlnlalkoaaGreat
open Go.Shelf
def Tryz.sortI_ren : Go.Shelf.Ren := ⟨fun | 5 => 128 | 8 => 154 | 7 => 153 | 19 => 177 | 20 => 178 | 10 => 168 | 11 => 169 | 12 => 170 | 13 => 171 | 14 => 172 | 15 => 173 | 16 => 174 | 17 => 175 | 18 => 176 | 30 => 186 | 31 => 187 | 32 => 188 | 33 => 189 | 34 => 190 | 35 => 191 | 40 => 194 | n => n, fun | 23 => 40 | 25 => 2 | 3 => 3 | 32 => 176 | 22 => 40 | 0 => 0 | 44 => 206 | 46 => 174 | 4 => 4 | 36 => 198 | 35 => 197 | 41 => 203 | 5 => 5 | 9 => 9 | 53 => 213 | 57 => 216 | 63 => 222 | 64 => 223 | n => n, fun | n => n⟩
theorem Tryz.sortI : Go.Proofs.SlLaysM.n5 Tryz.prog Tryz.sortI_ren := {
 mixed := by kernel_rfl
 f5 := ⟨Tryz.f128.name, by decide, Tryz.func128.trans (congrArg some (by kernel_rfl))⟩
 f7 := ⟨Tryz.f153.name, by decide, Tryz.func153.trans (congrArg some (by kernel_rfl))⟩
 f8 := Tryz.func154.trans (congrArg some (by kernel_rfl))
 f10 := ⟨Tryz.f168.name, by decide, Tryz.func168.trans (congrArg some (by kernel_rfl))⟩
 f11 := ⟨Tryz.f169.name, by decide, Tryz.func169.trans (congrArg some (by kernel_rfl))⟩
 f12 := ⟨Tryz.f170.name, by decide, Tryz.func170.trans (congrArg some (by kernel_rfl))⟩
 f13 := ⟨Tryz.f171.name, by decide, Tryz.func171.trans (congrArg some (by kernel_rfl))⟩
 f14 := ⟨Tryz.f172.name, by decide, Tryz.func172.trans (congrArg some (by kernel_rfl))⟩
 f15 := ⟨Tryz.f173.name, by decide, Tryz.func173.trans (congrArg some (by kernel_rfl))⟩
 f16 := ⟨Tryz.f174.name, by decide, Tryz.func174.trans (congrArg some (by kernel_rfl))⟩
 f17 := ⟨Tryz.f175.name, by decide, Tryz.func175.trans (congrArg some (by kernel_rfl))⟩
 f18 := ⟨Tryz.f176.name, by decide, Tryz.func176.trans (congrArg some (by kernel_rfl))⟩
 f19 := Tryz.func177.trans (congrArg some (by kernel_rfl))
 f20 := Tryz.func178.trans (congrArg some (by kernel_rfl))
 f30 := ⟨Tryz.f186.name, by decide, Tryz.func186.trans (congrArg some (by kernel_rfl))⟩
 f31 := Tryz.func187.trans (congrArg some (by kernel_rfl))
 f32 := Tryz.func188.trans (congrArg some (by kernel_rfl))
 f33 := ⟨Tryz.f189.name, by decide, Tryz.func189.trans (congrArg some (by kernel_rfl))⟩
 f34 := ⟨Tryz.f190.name, by decide, Tryz.func190.trans (congrArg some (by kernel_rfl))⟩
 f35 := ⟨Tryz.f191.name, by decide, Tryz.func191.trans (congrArg some (by kernel_rfl))⟩
 f40 := ⟨Tryz.f194.name, by decide, Tryz.func194.trans (congrArg some (by kernel_rfl))⟩
 t0 := Tryz.underlying0
 a0 := Tryz.isAgg0
 z0 := Tryz.sizeOf0
 v0 := Tryz.zeroValue0
 t3 := Tryz.underlying3
 a3 := Tryz.isAgg3
 z3 := Tryz.sizeOf3
 v3 := Tryz.zeroValue3
 t4 := Tryz.underlying4
 a4 := Tryz.isAgg4
 z4 := Tryz.sizeOf4
 v4 := Tryz.zeroValue4
 t5 := Tryz.underlying5
 a5 := Tryz.isAgg5
 z5 := Tryz.sizeOf5
 v5 := Tryz.zeroValue5
 t9 := Tryz.underlying9
 a9 := Tryz.isAgg9
 z9 := Tryz.sizeOf9
 v9 := Tryz.zeroValue9
 t22 := Tryz.underlying40
 a22 := Tryz.isAgg40
 z22 := Tryz.sizeOf40
 v22 := Tryz.zeroValue40
 t23 := Tryz.underlying40
 a23 := Tryz.isAgg40
 z23 := Tryz.sizeOf40
 v23 := Tryz.zeroValue40
 t25 := Tryz.underlying2
 a25 := Tryz.isAgg2
 z25 := Tryz.sizeOf2
 v25 := Tryz.zeroValue2
 t32 := Tryz.underlying176
 a32 := Tryz.isAgg176
 z32 := Tryz.sizeOf176
 v32 := Tryz.zeroValue176
 t35 := Tryz.underlying197
 a35 := Tryz.isAgg197
 z35 := Tryz.sizeOf197
 v35 := Tryz.zeroValue197
 t36 := Tryz.underlying198
 a36 := Tryz.isAgg198
 z36 := Tryz.sizeOf198
 v36 := Tryz.zeroValue198
 t41 := Tryz.underlying203
 a41 := Tryz.isAgg203
 z41 := Tryz.sizeOf203
 v41 := Tryz.zeroValue203
 t44 := Tryz.underlying206
 a44 := Tryz.isAgg206
 z44 := Tryz.sizeOf206
 v44 := Tryz.zeroValue206
 t46 := Tryz.underlying174
 a46 := Tryz.isAgg174
 z46 := Tryz.sizeOf174
 v46 := Tryz.zeroValue174
 t53 := Tryz.underlying213
 a53 := Tryz.isAgg213
 z53 := Tryz.sizeOf213
 v53 := Tryz.zeroValue213
 t57 := Tryz.underlying216
 a57 := Tryz.isAgg216
 z57 := Tryz.sizeOf216
 v57 := Tryz.zeroValue216
 t63 := Tryz.underlying222
 a63 := Tryz.isAgg222
 z63 := Tryz.sizeOf222
 v63 := Tryz.zeroValue222
 t64 := Tryz.underlying223
 a64 := Tryz.isAgg223
 z64 := Tryz.sizeOf223
 v64 := Tryz.zeroValue223 }
def Tryz.compI_ren : Go.Shelf.Ren := ⟨fun | 43 => 129 | n => n, fun | 22 => 40 | 23 => 2 | 3 => 3 | 4 => 4 | 0 => 0 | n => n, fun | n => n⟩
theorem Tryz.compI : Go.Proofs.SlLaysN.n43 Tryz.prog Tryz.compI_ren := {
 mixed := by kernel_rfl
 f43 := ⟨Tryz.f129.name, by decide, Tryz.func129.trans (congrArg some (by kernel_rfl))⟩
 t0 := Tryz.underlying0
 a0 := Tryz.isAgg0
 z0 := Tryz.sizeOf0
 v0 := Tryz.zeroValue0
 t3 := Tryz.underlying3
 a3 := Tryz.isAgg3
 z3 := Tryz.sizeOf3
 v3 := Tryz.zeroValue3
 t4 := Tryz.underlying4
 a4 := Tryz.isAgg4
 z4 := Tryz.sizeOf4
 v4 := Tryz.zeroValue4
 t22 := Tryz.underlying40
 a22 := Tryz.isAgg40
 z22 := Tryz.sizeOf40
 v22 := Tryz.zeroValue40
 t23 := Tryz.underlying2
 a23 := Tryz.isAgg2
 z23 := Tryz.sizeOf2
 v23 := Tryz.zeroValue2
 i23 := by kernel_rfl }
end Go.Proofs.YtjhhamlnlalkoaaGreat
namespace Go.Proofs.YtjhhamlnlalkoaaGreat
open Go.RowKit
def RoundX {α : Type} (B : Nat) (Kp : World → World → Prop) (J Jx : List α → World → Prop) (xs : List α) (W : World) (e : Ending) (W' : World) : Prop :=
 KeepsFrom B W W' ∧ ((e = .returned (.bool true) ∧ J xs W' ∧ Kp W W') ∨ (e = .returned (.bool false) ∧ Jx xs W'))
def SeqX {α : Type} (P : Program) (n : Nat) (g : Nat) (lb : Array Value) (encs : α → Array Value) (Kp : World → World → Prop) (S Sp : List α → Prop) (N : Nat) (w : World) : Prop :=
 ∀ (l : Nat) (J Jx : List α → World → Prop) (W : World), Below w.heap.size w W → OwnFrom W.heap.size J → OwnFrom W.heap.size Jx →
  (∀ pre x W1, J pre W1 → pre.length < N → YieldAt Fence.wide n P l (encs x) W1 (RoundX W.heap.size Kp J Jx (pre ++ [x]) W1)) →
  J [] W → CallsIn Fence.wide n P g (#[.func (.yield l) #[] #[]] ++ lb) W fun e W' => (∃ v, e = .returned v) ∧ ((∃ xs, S xs ∧ J xs W') ∨ (∃ pre, Sp pre ∧ Jx pre W'))
theorem roundIn_any {m m' : Nat} {P : Program} {l : Nat} {f : FuncId} {tmps : Array Value} {assign body : Code} {w : World} {R : Ending → World → Prop}
  (h : RoundIn Fence.wide m P l f tmps assign body w R) : RoundIn Fence.wide m' P l f tmps assign body w R := ⟨h.1, fun c cs _ => h.2 c cs (room_wide _)⟩
theorem yieldAt_any {m m' : Nat} {P : Program} {l : Nat} {args : Array Value} {W : World} {R : Ending → World → Prop} (h : YieldAt Fence.wide m P l args W R) : YieldAt Fence.wide m' P l args W R := by
 obtain ⟨f, t, a, b, hy, hr⟩ := h
 exact ⟨f, t, a, b, hy, roundIn_any hr⟩
def Recs (l : Nat) (st : Loop) (D : Nat) (W : World) : Prop := W.heap[l]? = some (.loop st) ∧ W.heap[D]? = some (.deferred (some []))
theorem Recs.keep {l D B : Nat} {st : Loop} {W W' : World} (h : Recs l st D W) (hl : B ≤ l) (hD : B ≤ D) (k : KeepsFrom B W W') : Recs l st D W' := ⟨k.same _ _ hl h.1 rfl, k.same _ _ hD h.2 rfl⟩
theorem Recs.put {l D : Nat} {st : Loop} {W : World} (h : Recs l st D W) (hne : D ≠ l) (st' : Loop) : Recs l st' D (W.putObj l (.loop st')) := ⟨World.putObj_heap_same (Array.getElem?_eq_some_iff.1 h.1).1, (World.putObj_heap_other hne).trans h.2⟩
theorem Recs.own {β : Type} {l D B : Nat} (st : β → Loop) (hl : l < B) (hD : D < B) : OwnFrom B (fun s W => Recs l (st s) D W) := fun s X Y row hs hg hr =>
 ⟨(hg.block l (Array.getElem?_eq_some_iff.1 hs.1).1 (fun e => by have := (hr l e.symm).1; omega)).trans hs.1, (hg.block D (Array.getElem?_eq_some_iff.1 hs.2).1 (fun e => by have := (hr D e.symm).1; omega)).trans hs.2⟩
set_option maxHeartbeats 2000000 in
theorem wp_rangeX {α : Type} {P : Program} {n : Nat} {g : Operand} {ps : Array Tmp} {assign body : Code} {Q : Exit → Act → World → Prop} {a : Act} {w : World}
  {gf : Nat} {lb : Array Value} (hg : a.eval g = .func (.func gf) #[] lb) (eg : ∀ args w, (callFunc gf args).run P w = .ok (.enter gf args) w)
  {encs : α → Array Value} {Kp : World → World → Prop} {S Sp : List α → Prop} {N : Nat} (hseq : SeqX P (n - 1) gf lb encs Kp S Sp N w)
  (hKt : ∀ {A B C : World}, Kp A B → Kp B C → Kp A C) (hKb : ∀ (W : World) (l : Nat) (o o' : Obj), w.heap.size ≤ l → W.heap[l]? = some o → o.isCells = false → Kp W (W.putObj l o')) (hps : ∀ x, (encs x).size = ps.size)
  (I : List α → World → Prop) (Ix : Code → List α → World → Prop) (hI : OwnFrom w.heap.size I) (hIx : ∀ c, OwnFrom w.heap.size (Ix c)) (h0 : I [] w) (Ax : α → Act → World → Prop) (hAx : ∀ x a', OwnFrom w.heap.size (fun (_ : Unit) W => Ax x a' W))
  (hassign : ∀ (l : Nat) (pre : List α) (x : α) (W : World) (K : Act → World → Prop), I pre W → (∀ a' W', KeepsFrom w.heap.size W W' → Kp W W' → I pre W' → Ax x a' W' → K a' W') →
   assign.wpIn (Fence.wide.inRound l) n P (Exit.then K (fun _ _ _ => False)) { tmps := (ps.zip (encs x)).foldl (fun t (p, v) => t.setIfInBounds p v) a.tmps, defers := [] } W)
  (hbody : ∀ (l : Nat) (pre : List α) (x : α) (a' : Act) (W : World), I pre W → Ax x a' W → pre.length < N → body.wpIn (Fence.wide.inRound l) n P (ownPostG w.heap.size Kp I Ix (pre ++ [x]) W) a' W)
  (hdone : ∀ (D : Nat) (xs : List α) (W : World), w.heap.size ≤ D → S xs → I xs W → W.heap[D]? = some (.deferred (some [])) → Q .normal { a with defers := { target := .collected D, args := #[] } :: a.defers } W)
  (hstop : ∀ (D : Nat) (c : Code) (pre : List α) (W : World), w.heap.size ≤ D → Sp pre → Ix c pre W → W.heap[D]? = some (.deferred (some [])) → c.wpIn Fence.wide n P Q { a with defers := { target := .collected D, args := #[] } :: a.defers } W) :
  (Code.rangeFunc g ps assign body).wpIn Fence.wide n P Q a w := by
 refine wpIn_rangeFunc fun fn hfn => ?_
 obtain ⟨D, hD⟩ : ∃ D, w.heap.size = D := ⟨_, rfl⟩
 obtain ⟨mk, hmk⟩ : ∃ mk : LoopState → Option Code → Loop, mk = fun st pe => { state := st, pending := pe, fn, tmps := a.tmps, params := ps, assign, body, defers := D } := ⟨_, rfl⟩
 obtain ⟨V, hV⟩ : ∃ V, (w.alloc (.deferred (some []))).alloc (.loop (mk .ready none)) = V := ⟨_, rfl⟩
 have hVs : V.heap.size = D + 2 := by rw [← hV, World.size_alloc, World.size_alloc, hD]
 have hR : Recs (D + 1) (mk .ready none) D V := by
  constructor
  ·rw [← hV]; have := World.alloc_heap_new (w.alloc (.deferred (some []))) (.loop (mk .ready none)); rwa [World.size_alloc, hD] at this
  ·rw [← hV, ← hD]; exact (Below.heap_alloc _ _ _ (by simp)).trans (World.alloc_heap_new w _)
 have hIV : I [] V := by rw [← hV]; exact hI.alloc _ (hI.alloc _ h0)
 have hBV : Below w.heap.size w V := by rw [← hV]; exact ((Below.refl _ w).alloc (Nat.le_refl _) _).alloc (by simp) _
 have hlow : ∀ {A : World} {row : Option Nat}, (∀ r, row = some r → V.heap.size ≤ r ∧ ∃ o : Obj, A.heap[r]? = some o ∧ o.isCells = false) → (∀ r, row = some r → w.heap.size ≤ r ∧ ∃ o : Obj, A.heap[r]? = some o ∧ o.isCells = false) :=
  fun h r e => ⟨by have := (h r e).1; omega, (h r e).2⟩
 refine ⟨D + 1, [{ target := .collected D, args := #[] }], V, { target := .fn (.func gf) lb, args := #[.func (.yield (D + 1)) #[] #[]] }, V, gf, #[.func (.yield (D + 1)) #[] #[]] ++ lb, V, ?_, ?_, fun _ _ => trivial, ?_, fun h => (by cases h), ?_⟩
 ·show (Instr.enterLoop fn a.tmps ps assign body none).run P w = _
  rw [run_enterLoop_outer, hD, ← hV, hmk]
 ·simp only [resolve, hg]
  simp [go_sem]
 ·simp [invoke, go_sem, eg]
 have hz : D + 1 ≠ D := by omega
 have hpair : OwnFrom V.heap.size (fun (pre : List α) W => I pre W ∧ Recs (D + 1) (mk .ready none) D W) :=
  OwnFrom.and (fun s X Y row hs hg' hr => hI s X Y row hs hg' (hlow hr)) (Recs.own (fun _ => mk .ready none) (by omega) (by omega))
 have hpairx : OwnFrom V.heap.size (fun (pre : List α) W => ∃ c, Ix c pre W ∧ Recs (D + 1) (mk .done (some c)) D W) := fun s X Y row hs hg' hr => by
  obtain ⟨c, h1, h2⟩ := hs
  exact ⟨c, hIx c s X Y row h1 hg' (hlow hr), Recs.own (fun (_ : Unit) => mk .done (some c)) (by omega) (by omega) () X Y row h2 hg' hr⟩
 refine (hseq (D + 1) _ _ V hBV hpair hpairx (fun pre x W hJ hlen => ?_) ⟨hIV, hR⟩).mono ?_
 ·obtain ⟨hi, hrec⟩ := hJ
  have hy := run_yield (P := P) (args := encs x) hrec.1 (by rw [hmk]; exact hps x)
  refine ⟨fn, _, assign, body, by rw [hy, hmk], roundIn_any (m := n) (roundIn_of_wpIn hfn ?_)⟩
  refine hassign _ pre x W _ hi fun a1 W1 k1 kp1 i1 ax1 => ?_
  -- the assignment to the loop's variables may have laid blocks: the records lie as they lay
  have rec1 := hrec.keep (by omega) (by omega) k1
  refine ⟨_, run_beginRound rec1.1 (by rw [hmk]), ?_⟩
  have hrec2 := rec1.put (Ne.symm hz) { mk .ready none with state := .busy }
  have hkp := hKb W1 (D + 1) _ (.loop { mk .ready none with state := .busy }) (by omega) rec1.1 rfl
  refine wpIn_mono (hbody _ pre x a1 _ (hI.putObj _ i1 (by omega) rec1.1 rfl) ((hAx x a1).putObj (s := ()) _ ax1 (by omega) rec1.1 rfl) hlen) ?_
  -- what the round has left is read off the body's word
  have tail : ∀ (jump : Option Code) (W3 : World), KeepsFrom w.heap.size (W1.putObj (D + 1) (.loop { mk .ready none with state := .busy })) W3 →
    ∃ W4, (Instr.endRound (D + 1) jump).run P W3 = .ok (.bool jump.isNone) W4 ∧ W4 = W3.putObj (D + 1) (.loop (mk (if jump.isNone then .ready else .done) jump)) ∧ W3.heap[D + 1]? = some (.loop { mk .ready none with state := .busy }) ∧
     Recs (D + 1) (mk (if jump.isNone then .ready else .done) jump) D W4 ∧ KeepsFrom V.heap.size W W4 := fun jump W3 k3 => by
   have r3 := hrec2.keep (by omega) (by omega) k3
   refine ⟨_, run_endRound jump r3.1, by rw [hmk], r3.1, by rw [hmk] at r3 ⊢; exact r3.put (Ne.symm hz) _, ?_⟩
   refine ⟨by have := k3.size; have := k1.size; simp only [World.putObj_size] at *; omega, fun k o hk ho hc => ?_⟩
   have e1 : k ≠ D + 1 := by omega
   exact (World.putObj_heap_other e1).trans (k3.same k o (by omega) ((World.putObj_heap_other e1).trans (k1.same k o (by omega) ho hc)) hc)
  rintro e a3 W3 hp
  cases e with
  | normal =>
   obtain ⟨k3, kp3, i3⟩ := hp
   obtain ⟨W4, hr, rfl, h3, r4, k4⟩ := tail none W3 k3
   exact ⟨_, _, hr, k4, .inl ⟨rfl, ⟨hI.putObj _ i3 (by omega) h3 rfl, r4⟩, hKt kp1 (hKt (hKt hkp kp3) (hKb _ _ _ _ (by omega) h3 rfl))⟩⟩
  | ret =>
   obtain ⟨k3, i3⟩ := hp
   obtain ⟨W4, hr, rfl, h3, r4, k4⟩ := tail (some .ret) W3 k3
   exact ⟨_, _, hr, k4, .inr ⟨rfl, _, (hIx _).putObj _ i3 (by omega) h3 rfl, r4⟩⟩
  | exit id =>
   obtain ⟨k3, i3⟩ := hp
   obtain ⟨W4, hr, rfl, h3, r4, k4⟩ := tail (some (.exit id)) W3 k3
   exact ⟨_, _, hr, k4, .inr ⟨rfl, _, (hIx _).putObj _ i3 (by omega) h3 rfl, r4⟩⟩
  | goto t =>
   obtain ⟨k3, i3⟩ := hp
   obtain ⟨W4, hr, rfl, h3, r4, k4⟩ := tail (some (.goto t)) W3 k3
   exact ⟨_, _, hr, k4, .inr ⟨rfl, _, (hIx _).putObj _ i3 (by omega) h3 rfl, r4⟩⟩
  | panic ch => exact hp.elim
  | outgrown => exact hp.elim
 ·rintro e W2 ⟨⟨v, rfl⟩, h | h⟩
  ·obtain ⟨xs, hS, hi, hrec⟩ := h
   refine ⟨none, _, by have := run_endLoop (P := P) hrec.1 (by rw [hmk]; simp); rw [hmk] at this; exact this, ?_⟩
   exact hdone _ xs _ (by omega) hS (hI.putObj _ hi (by omega) hrec.1 rfl) ((World.putObj_heap_other (Ne.symm hz)).trans hrec.2)
  ·obtain ⟨pre, hSp, c, hi, hrec⟩ := h
   refine ⟨some c, _, by have := run_endLoop (P := P) hrec.1 (by rw [hmk]; simp); rw [hmk] at this; exact this, ?_⟩
   exact hstop _ c pre _ (by omega) hSp ((hIx c).putObj _ hi (by omega) hrec.1 rfl) ((World.putObj_heap_other (Ne.symm hz)).trans hrec.2)
theorem wpAnyIn_round {F : Fence} (hro : F.round = none) {n l : Nat} {P : Program} {md : Region.Mode} {ops : Array Oper} {Q : Exit → Act → World → Prop}
  (hd : ∀ o ∈ ops, ∀ (ρ : Operand → Value), o.semAt (some l) ρ = o.semAt none ρ) : ∀ (fuel : Nat) (listed : Array Bool) (a : Act) (w : World), wpAnyIn F n P md ops Q fuel listed a w → wpAnyIn (F.inRound l) n P md ops Q fuel listed a w
 | 0, _, _, _, h => h
 | fuel + 1, listed, a, w, h => ⟨h.1, fun i hi => by
   have h1 := wpOpIn_mono (fun a w => wpAnyIn_round hro hd fuel (listed.setIfInBounds i true) a w) (h.2 i hi)
   unfold wpOpIn at h1 ⊢
   cases ho : ops[i]? with
   | none => rw [ho] at h1; exact h1
   | some o =>
    rw [ho] at h1
    simp only at h1 ⊢
    by_cases hw : Region.wanted o (yielded ops a.tmps) = true
    ·rw [if_pos hw] at h1 ⊢
     unfold Oper.wpIn at h1 ⊢
     refine ⟨h1.1, ?_⟩
     have h2 := h1.2
     rw [hro] at h2
     rw [Fence.inRound_round, hd o (Array.mem_of_getElem? ho)]
     exact h2
    ·rw [if_neg hw] at h1 ⊢
     exact h1⟩
end Go.Proofs.YtjhhamlnlalkoaaGreat
