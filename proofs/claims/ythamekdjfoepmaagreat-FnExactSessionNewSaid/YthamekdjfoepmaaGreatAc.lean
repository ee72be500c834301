/-
  Several texts in one: what the proof leans on, part 3.
-/
import Derived.Test.YthamekdjfoepmaaGreatAb
import Derived.Test.YthamekdjfoepmaaGreatAa
import Derived.Deep.RegionHeld3
import Derived.Deep.AppendLies
import Derived.Deep.Cut
import Derived.Lib.SmallJoins
set_option linter.unusedVariables false
set_option linter.unusedSimpArgs false
namespace Go.Proofs.YthamekdjfoepmaaGreat
open Go.RowKit
set_option maxRecDepth 100000 in
set_option maxHeartbeats 8000000 in
theorem implCopyTable (b off : Nat) (x : Tb) (A1 : Option Addr) (n1 c1 : Nat) (A2 : Option Addr) (n2 c2 : Nat) (A3 : Option Addr) (n3 c3 : Nat) (A4 : Option Addr) (n4 c4 : Nat) (A5 : Option Addr) (n5 c5 : Nat) (ok : Nat → Prop) (w : World)
  (q0 : w.cell? ⟨b, off, none⟩ = some (.string x.name)) (q1 : w.cell? ⟨b, off + 1, none⟩ = some (.slice A1 n1 c1)) (q2 : w.cell? ⟨b, off + 2, none⟩ = some (.slice A2 n2 c2)) (q3 : w.cell? ⟨b, off + 3, none⟩ = some (.slice A3 n3 c3)) (q4 : w.cell? ⟨b, off + 4, none⟩ = some (.slice A4 n4 c4)) (q5 : w.cell? ⟨b, off + 5, none⟩ = some (.slice A5 n5 c5))
  (h1 : Sl ClR 6 ok w A1 n1 x.cols) (h2 : Sl IntR 1 ok w A2 n2 x.key) (h3 : Sl UqR 1 ok w A3 n3 x.uniqs) (h4 : Sl CkR 1 ok w A4 n4 x.checks) (h5 : Sl FkR 5 ok w A5 n5 x.fks) (hx : x.sz ≤ 1048576) :
  Calls Tryz.prog 78 #[.pointer (some ⟨b, off, none⟩)] w fun e w' => ∃ (cs : Array Value) (bs : List Nat), e = .returned (.agg cs) ∧ TbO w' w.heap.size cs.toList x bs ∧ Below w.heap.size w w' := by
 have hb := cell_lt q0
 simp only at hb
 obtain rfl : x.cols.length = n1 := h1.1
 obtain rfl : x.key.length = n2 := h2.1
 obtain rfl : x.uniqs.length = n3 := h3.1
 obtain rfl : x.checks.length = n4 := h4.1
 obtain rfl : x.fks.length = n5 := h5.1
 have L1 : x.cols.length ≤ 1073741824 := by have := h1.1; unfold Tb.sz szL at hx; omega
 have L2 : x.key.length ≤ 1073741824 := by have := h2.1; unfold Tb.sz szL at hx; omega
 have L3 : x.uniqs.length ≤ 1073741824 := by have := h3.1; unfold Tb.sz szL at hx; omega
 have G3 := Lib.hid (show ∀ y ∈ x.uniqs, y.cols.length ≤ 1073741824 from fun y hy => by have k1 := szL_mem Uq.sz x.uniqs y hy; have k2 : y.cols.length ≤ y.sz := (by unfold Uq.sz; omega); unfold Tb.sz at hx; omega)
 have L4 : x.checks.length ≤ 1073741824 := by have := h4.1; unfold Tb.sz szL at hx; omega
 have G4 := Lib.hid (show ∀ y ∈ x.checks, y.expr.length ≤ 1073741824 from fun y hy => by have k1 := szL_mem Ck.sz x.checks y hy; have k2 : y.expr.length ≤ y.sz := (by unfold Ck.sz; unfold szL; omega); unfold Tb.sz at hx; omega)
 have L5 : x.fks.length ≤ 1073741824 := by have := h5.1; unfold Tb.sz szL at hx; omega
 have G5 := Lib.hid (show ∀ y ∈ x.fks, y.cols.length ≤ 1073741824 from fun y hy => by have k1 := szL_mem Fk.sz x.fks y hy; have k2 : y.cols.length ≤ y.sz := (by unfold Fk.sz; omega); unfold Tb.sz at hx; omega)
 have HX := Lib.hid hx
 clear hx
 have hz0 := chain2 w (.cells #[.string ⟨#[]⟩, .slice none 0 0, .slice none 0 0, .slice none 0 0, .slice none 0 0, .slice none 0 0] 53) (.cells #[.string x.name, .slice A1 x.cols.length c1, .slice A2 x.key.length c2, .slice A3 x.uniqs.length c3, .slice A4 x.checks.length c4, .slice A5 x.fks.length c5] 53)
 obtain ⟨r2, r3⟩ := rows2C w 53 #[.string ⟨#[]⟩, .slice none 0 0, .slice none 0 0, .slice none 0 0, .slice none 0 0, .slice none 0 0] #[.string x.name, .slice A1 x.cols.length c1, .slice A2 x.key.length c2, .slice A3 x.uniqs.length c3, .slice A4 x.checks.length c4, .slice A5 x.fks.length c5]
 have HZ := Lib.hid (show w.heap.size + 2 ≤ ((w.alloc (.cells #[.string ⟨#[]⟩, .slice none 0 0, .slice none 0 0, .slice none 0 0, .slice none 0 0, .slice none 0 0] 53)).alloc (.cells #[.string x.name, .slice A1 x.cols.length c1, .slice A2 x.key.length c2, .slice A3 x.uniqs.length c3, .slice A4 x.checks.length c4, .slice A5 x.fks.length c5] 53)).heap.size by simp)
 have hne : ¬ b = w.heap.size + 1 := by omega
 have hne2 : ¬ w.heap.size + 1 = b := by omega
 have s0 := Lib.hid q0
 have s1 := Lib.hid q1
 have s2 := Lib.hid q2
 have s3 := Lib.hid q3
 have s4 := Lib.hid q4
 have s5 := Lib.hid q5
 have hs1 := Lib.hid h1
 have hs2 := Lib.hid h2
 have hs3 := Lib.hid h3
 have hs4 := Lib.hid h4
 have hs5 := Lib.hid h5
 clear h1 h2 h3 h4 h5
 obtain ⟨i0, hi, hzi0, hzi1, hzi2⟩ := info_parts infoTableCl
 have HGI := Lib.hid (show (Tryz.prog.info? 53).map (·.size) = some 6 by rw [hi]; simp [hzi1])
 clear hi hzi0 hzi1 hzi2
 go_enter Tryz.func78, Tryz.ntmps78
 go_wp2_with fail
 generalize hzz : (w.alloc (.cells #[.string ⟨#[]⟩, .slice none 0 0, .slice none 0 0, .slice none 0 0, .slice none 0 0, .slice none 0 0] 53)).alloc (.cells #[.string x.name, .slice A1 x.cols.length c1, .slice A2 x.key.length c2, .slice A3 x.uniqs.length c3, .slice A4 x.checks.length c4, .slice A5 x.fks.length c5] 53) = z at *
 have HB0 := Lib.hid hz0
 have HR2 := Lib.hid r2
 have HR3 := Lib.hid r3
 clear hzz r2 r3 q0 q1 q2 q3 q4 q5 hz0
 have hcall1 := Lib.hid (show Sl ClR 6 ok (z) A1 x.cols.length x.cols from hs1.out.below ClR.stays HB0.out)
 have HSZ1 := Lib.hid (show w.heap.size + 2 ≤ (z).heap.size from HZ.out)
 refine (ownCloneCol A1 x.cols.length c1 x.cols ok _ hcall1.out L1).mono ?_
 rintro e w1 ⟨v1, b1, rfl, o1, k1⟩
 obtain ⟨B1, d1, rfl⟩ := o1.shape
 have HO1 := Lib.hid o1
 have HB1 := Lib.hid (HB0.out.trans (k1.mono HB0.out.size))
 have r1 := HR3.out.below k1
 obtain ⟨⟨p0, p1, p2, p3, p4, p5⟩, ⟨f0, f1, f2, f3, f4, f5⟩⟩ := r1.all6
 replace HR3 := Lib.hid (show Row (w1.setCell ⟨w.heap.size + 1, 1, none⟩ (.slice B1 x.cols.length d1)) (w.heap.size + 1) 53 #[.string x.name, .slice B1 x.cols.length d1, .slice A2 x.key.length c2, .slice A3 x.uniqs.length c3, .slice A4 x.checks.length c4, .slice A5 x.fks.length c5] from r1.set 1 _)
 replace HR2 := Lib.hid (show Row (w1.setCell ⟨w.heap.size + 1, 1, none⟩ (.slice B1 x.cols.length d1)) w.heap.size 53 #[.string ⟨#[]⟩, .slice none 0 0, .slice none 0 0, .slice none 0 0, .slice none 0 0, .slice none 0 0] from (HR2.out.below k1).far (by simp) _)
 have HKK1 := Lib.hid k1
 have HB1s := Lib.hid (show Below w.heap.size w (w1.setCell ⟨w.heap.size + 1, 1, none⟩ (.slice B1 x.cols.length d1)) from HB1.out.setCell (by simp) _)
 have KB1 := Lib.hid (show But (w.heap.size + 1) (z) (w1.setCell ⟨w.heap.size + 1, 1, none⟩ (.slice B1 x.cols.length d1)) from ((But.ofBelow HKK1.out).setCell (p := ⟨w.heap.size + 1, 1, none⟩) rfl _))
 have BW1 := Lib.hid (show But (w.heap.size + 1) w1 (w1.setCell ⟨w.heap.size + 1, 1, none⟩ (.slice B1 x.cols.length d1)) from (But.refl _ _).setCell (p := ⟨w.heap.size + 1, 1, none⟩) rfl _)
 have a2 := below_keep HB1.out _ _ s2.out
 clear r1 k1 o1
 go_wp2_with fail
 clear a2 p0 p1 p2 p3 p4 p5 f0 f1 f2 f3 f4 f5
 have hcall2 := Lib.hid (show Sl IntR 1 ok (w1.setCell ⟨w.heap.size + 1, 1, none⟩ (.slice B1 x.cols.length d1)) A2 x.key.length x.key from hs2.out.below IntR.stays HB1s.out)
 have HSZ2 := Lib.hid (show w.heap.size + 2 ≤ (w1.setCell ⟨w.heap.size + 1, 1, none⟩ (.slice B1 x.cols.length d1)).heap.size from Nat.le_trans HSZ1.out KB1.out.size)
 refine (ownCloneInt64 A2 x.key.length c2 x.key ok _ hcall2.out L2).mono ?_
 rintro e w2 ⟨v2, b2, rfl, o2, k2⟩
 obtain ⟨B2, d2, rfl⟩ := o2.shape
 have HO2 := Lib.hid o2
 have HB2 := Lib.hid (HB1s.out.trans (k2.mono HB1s.out.size))
 have r2 := HR3.out.below k2
 obtain ⟨⟨p0, p1, p2, p3, p4, p5⟩, ⟨f0, f1, f2, f3, f4, f5⟩⟩ := r2.all6
 replace HR3 := Lib.hid (show Row (w2.setCell ⟨w.heap.size + 1, 2, none⟩ (.slice B2 x.key.length d2)) (w.heap.size + 1) 53 #[.string x.name, .slice B1 x.cols.length d1, .slice B2 x.key.length d2, .slice A3 x.uniqs.length c3, .slice A4 x.checks.length c4, .slice A5 x.fks.length c5] from r2.set 2 _)
 replace HR2 := Lib.hid (show Row (w2.setCell ⟨w.heap.size + 1, 2, none⟩ (.slice B2 x.key.length d2)) w.heap.size 53 #[.string ⟨#[]⟩, .slice none 0 0, .slice none 0 0, .slice none 0 0, .slice none 0 0, .slice none 0 0] from (HR2.out.below k2).far (by simp) _)
 have HKK2 := Lib.hid k2
 have HB2s := Lib.hid (show Below w.heap.size w (w2.setCell ⟨w.heap.size + 1, 2, none⟩ (.slice B2 x.key.length d2)) from HB2.out.setCell (by simp) _)
 have KB2 := Lib.hid (show But (w.heap.size + 1) (w1.setCell ⟨w.heap.size + 1, 1, none⟩ (.slice B1 x.cols.length d1)) (w2.setCell ⟨w.heap.size + 1, 2, none⟩ (.slice B2 x.key.length d2)) from ((But.ofBelow HKK2.out).setCell (p := ⟨w.heap.size + 1, 2, none⟩) rfl _))
 have BW2 := Lib.hid (show But (w.heap.size + 1) w2 (w2.setCell ⟨w.heap.size + 1, 2, none⟩ (.slice B2 x.key.length d2)) from (But.refl _ _).setCell (p := ⟨w.heap.size + 1, 2, none⟩) rfl _)
 have a3 := below_keep HB2.out _ _ s3.out
 clear r2 k2 o2
 go_wp2_with fail
 clear a3 p0 p1 p2 p3 p4 p5 f0 f1 f2 f3 f4 f5
 have hcall3 := Lib.hid (show Sl UqR 1 ok (w2.setCell ⟨w.heap.size + 1, 2, none⟩ (.slice B2 x.key.length d2)) A3 x.uniqs.length x.uniqs from hs3.out.below UqR.stays HB2s.out)
 have HSZ3 := Lib.hid (show w.heap.size + 2 ≤ (w2.setCell ⟨w.heap.size + 1, 2, none⟩ (.slice B2 x.key.length d2)).heap.size from Nat.le_trans HSZ2.out KB2.out.size)
 refine (ownCloneUnique A3 x.uniqs.length c3 x.uniqs ok _ hcall3.out L3).mono ?_
 rintro e w3 ⟨v3, vs3, b3, rfl, l3, o3, e3, k3⟩
 obtain ⟨B3, d3, rfl⟩ := o3.shape l3 (Nat.zero_le _)
 have HO3 := Lib.hid o3
 have HE3 := Lib.hid e3
 have HL3 := Lib.hid l3
 clear e3 l3
 have HB3 := Lib.hid (HB2s.out.trans (k3.mono HB2s.out.size))
 have r3 := HR3.out.below k3
 obtain ⟨⟨p0, p1, p2, p3, p4, p5⟩, ⟨f0, f1, f2, f3, f4, f5⟩⟩ := r3.all6
 replace HR3 := Lib.hid (show Row (w3.setCell ⟨w.heap.size + 1, 3, none⟩ (.slice B3 x.uniqs.length d3)) (w.heap.size + 1) 53 #[.string x.name, .slice B1 x.cols.length d1, .slice B2 x.key.length d2, .slice B3 x.uniqs.length d3, .slice A4 x.checks.length c4, .slice A5 x.fks.length c5] from r3.set 3 _)
 replace HR2 := Lib.hid (show Row (w3.setCell ⟨w.heap.size + 1, 3, none⟩ (.slice B3 x.uniqs.length d3)) w.heap.size 53 #[.string ⟨#[]⟩, .slice none 0 0, .slice none 0 0, .slice none 0 0, .slice none 0 0, .slice none 0 0] from (HR2.out.below k3).far (by simp) _)
 have HKK3 := Lib.hid k3
 have HB3s := Lib.hid (show Below w.heap.size w (w3.setCell ⟨w.heap.size + 1, 3, none⟩ (.slice B3 x.uniqs.length d3)) from HB3.out.setCell (by simp) _)
 have KB3 := Lib.hid (show But (w.heap.size + 1) (w2.setCell ⟨w.heap.size + 1, 2, none⟩ (.slice B2 x.key.length d2)) (w3.setCell ⟨w.heap.size + 1, 3, none⟩ (.slice B3 x.uniqs.length d3)) from ((But.ofBelow HKK3.out).setCell (p := ⟨w.heap.size + 1, 3, none⟩) rfl _))
 have BW3 := Lib.hid (show But (w.heap.size + 1) w3 (w3.setCell ⟨w.heap.size + 1, 3, none⟩ (.slice B3 x.uniqs.length d3)) from (But.refl _ _).setCell (p := ⟨w.heap.size + 1, 3, none⟩) rfl _)
 have a4 := below_keep HB3.out _ _ s4.out
 have a3' := below_keep HB3.out _ _ s3.out
 clear r3 k3 o3
 go_wp2_with fail
 clear a4 p0 p1 p2 p3 p4 p5 f0 f1 f2 f3 f4 f5 a3'
 have HP3 := Lib.hid (show ∃ bs, OwnPt UqO 74 1 (w3.setCell ⟨w.heap.size + 1, 3, none⟩ (.slice B3 x.uniqs.length d3)) (w2.setCell ⟨w.heap.size + 1, 2, none⟩ (.slice B2 x.key.length d2)).heap.size (.slice B3 x.uniqs.length d3) x.uniqs vs3 0 bs from ⟨_, HO3.out.but UqO.good BW3.out (by have := HSZ3.out; omega)⟩)
 have HS3 := Lib.hid (show (w2.setCell ⟨w.heap.size + 1, 2, none⟩ (.slice B2 x.key.length d2)).heap.size ≤ (w3.setCell ⟨w.heap.size + 1, 3, none⟩ (.slice B3 x.uniqs.length d3)).heap.size from KB3.out.size)
 have HQ3 := Lib.hid (show (w2.setCell ⟨w.heap.size + 1, 2, none⟩ (.slice B2 x.key.length d2)).heap.size = w2.heap.size from by simp [World.setCell])
 have BC3 := Lib.hid (show But (w.heap.size + 1) w2 (w3.setCell ⟨w.heap.size + 1, 3, none⟩ (.slice B3 x.uniqs.length d3)) from BW2.out.trans KB3.out)
 generalize hyy3 : w3.setCell ⟨w.heap.size + 1, 3, none⟩ (.slice B3 x.uniqs.length d3) = y3 at *
 generalize hbb3 : (w2.setCell ⟨w.heap.size + 1, 2, none⟩ (.slice B2 x.key.length d2)).heap.size = S3 at HP3 HS3 HQ3 HSZ3
 clear hyy3
 go_loopw [31] (fun i wr => ∃ k : Nat, k ≤ x.uniqs.length ∧ i = .int .i64 k ∧ Hid (∃ bs, OwnPt UqO 74 1 wr S3 (.slice B3 x.uniqs.length d3) x.uniqs vs3 k bs) ∧ Hid (Row wr (w.heap.size + 1) 53 #[.string x.name, .slice B1 x.cols.length d1, .slice B2 x.key.length d2, .slice B3 x.uniqs.length d3, .slice A4 x.checks.length c4, .slice A5 x.fks.length c5]) ∧ Hid (Row wr w.heap.size 53 #[.string ⟨#[]⟩, .slice none 0 0, .slice none 0 0, .slice none 0 0, .slice none 0 0, .slice none 0 0]) ∧ Hid (But (w.heap.size + 1) w2 wr) ∧ Hid (Below w.heap.size w wr)) (fun i _ => x.uniqs.length - (intOf i).toNat)
 case atStart => exact ⟨0, by omega, rfl, HP3, HR3, HR2, BC3, HB3s⟩
 case round =>
 clear HP3 HR3 HR2 HB3s BC3
 obtain ⟨wr3, hwo3⟩ : ∃ wo, wo = wr := ⟨_, rfl⟩
 subst hwo3
 obtain ⟨k, hk, rfl, hP, HR3, HR2, BX3, HB3x⟩ := hrel
 by_cases hlt : k < x.uniqs.length
 ·obtain ⟨bs, hPk⟩ := hP.out
  have hkv : k < vs3.length := by rw [HL3.out]; exact hlt
  obtain ⟨Av, nv, cv, evk, -, -⟩ := HE3.out k hlt hkv
  obtain ⟨gg, cc, ev, -, -, hg1, hg2, hg3, hfr, hcell⟩ := hPk.at_ UqO.good HL3.out hlt
  obtain ⟨rfl, rfl⟩ : B3 = some ⟨gg, 0, none⟩ ∧ d3 = cc := by cases ev; exact ⟨rfl, rfl⟩
  obtain ⟨bu, ou, Au, nu, cu, -, e3, qu, hu, hcap⟩ := UqR.at_ hs3.out hlt
  have qu' := below_keep HB3x.out _ _ qu
  have qa := below_keep HB3x.out _ _ s3.out
  subst e3
  have qb : wr3.cell? ⟨w.heap.size + 1, 3, none⟩ = some (.slice (some ⟨gg, 0, none⟩) x.uniqs.length d3) := HR3.out.cell 3
  have qg : wr3.cell? ⟨gg, k, none⟩ = some (.slice Av nv cv) := by have := hcell 0 (.slice Av nv cv) (by rw [evk]; rfl); simpa using this
  have fg := hfr (k)
  have hud : Sl IntR 1 ok wr3.drew Au nu x.uniqs[k].cols := (hu.below IntR.stays HB3x.out).stays IntR.stays (fun _ h => h) (fun p v _ h => h)
  have hun : nu ≤ 1073741824 := by have h1 := hu.1; have h2 := G3.out x.uniqs[k] (List.getElem_mem hlt); omega
  have i0' : (0 : Int) ≤ k := by omega
  have i1 : (k : Int) < x.uniqs.length := by omega
  have hbu := cell_lt qu
  simp only at hbu
  have hn1 : gg ≠ w.heap.size + 1 := by have := HSZ3.out; omega
  have hn2 : gg ≠ b := by have := HSZ3.out; omega
  have hn3 : gg ≠ bu := by have := HSZ3.out; omega
  have HPk := Lib.hid hPk
  have HG1 := Lib.hid hg1
  have HEV := Lib.hid evk
  clear hP hPk hg1 hg2 hg3 hfr hcell qu hu hcap evk ev
  go_wp2_with fail
  go_region_held3 (fun w' => w'.cell? ⟨w.heap.size + 1, 3, none⟩ = some (.slice (some ⟨gg, 0, none⟩) x.uniqs.length d3) ∧ w'.cell? ⟨b, off + 3, none⟩ = some (.slice (some ⟨bu, ou, none⟩) x.uniqs.length c3) ∧ w'.cell? ⟨bu, ou + k, none⟩ = some (.slice Au nu cu))
   (first | go_keep | (with_reducible exact keepT3C (by assumption) k4) | ((with_reducible refine keepS3 ?_ hn1 hn2 hn3); assumption))
   (first | (go_at_call 108; refine (ownCloneInt64 Au nu cu _ ok _ hud hun).mono ?_; rintro e w4 ⟨v4, b4, rfl, o4, k4⟩; obtain ⟨B9, d9, rfl⟩ := o4.shape; have yg := below_keep k4 _ _ (show (World.drew _).cell? _ = _ from qg); have yf := (World.frozen?_of_block (w := World.drew _) (k4.block gg (cell_lt qg))).trans fg))
  have hBW : Below wr3.heap.size wr3 w4 := (Below.refl _ _).drew.trans k4
  have hE : UqO w4 S3 ((vs3[k]'hkv).set 0 (.slice B9 x.uniqs[k].cols.length d9)) x.uniqs[k] b4 := by
   rw [HEV.out]
   exact ⟨_, b4, rfl, o4.mono IntO.good (by have h1 := HPk.out.lt UqO.good; have h2 := HQ3.out; have h3 := BX3.out.size; show S3 ≤ wr3.heap.size; omega), by simp, o4.nodup IntO.good IntO.out⟩
  have HN := Lib.hid (OwnPt.cell UqO.good UqO.out (OwnTr.below (PartO.good UqO.good) HPk.out hBW) HL3.out hlt (t := 0) (by omega) hE (fun b hb hh => by have h1 := (HPk.out.lt UqO.good b hh).2; have h2 : wr3.heap.size ≤ b := (OwnTr.lt IntO.good o4 b hb).1; omega))
  have hgg : w.heap.size + 2 ≤ gg := by have := HSZ3.out; have := HG1.out; omega
  have HN3 := Lib.hid ((HR3.out.below hBW).far (p := ⟨gg, k, none⟩) (by show ¬ _ = gg; omega) (.slice B9 x.uniqs[k].cols.length d9))
  have HN2 := Lib.hid ((HR2.out.below hBW).far (p := ⟨gg, k, none⟩) (by show ¬ _ = gg; omega) (.slice B9 x.uniqs[k].cols.length d9))
  have HNB := Lib.hid ((BX3.out.trans (But.ofBelow hBW)).setNew (p := ⟨gg, k, none⟩) (by have := HQ3.out; have := HG1.out; show _ ≤ gg; omega) (.slice B9 x.uniqs[k].cols.length d9))
  have HNL := Lib.hid ((HB3x.out.trans (hBW.mono HB3x.out.size)).setCell (p := ⟨gg, k, none⟩) (by show _ ≤ gg; omega) (.slice B9 x.uniqs[k].cols.length d9))
  clear hE hBW o4 k4 HR3 HR2 BX3 HB3x HPk
  go_wp2_with fail
  go_roundw
  case rel => exact ⟨k + 1, by omega, by go_num, by obtain ⟨bs', h1, -⟩ := HN.out; exact Lib.hid ⟨bs', by simpa using h1⟩, HN3, HN2, HNB, HNL⟩
  case measure => simp [intOf]; omega
 obtain rfl : k = x.uniqs.length := by omega
 obtain ⟨b103, hPk3⟩ := hP.out
 have HO3' := Lib.hid (OwnPt.done HL3.out hPk3)
 clear hP hPk3 hlt hk HO3
 have HSZ3' := Lib.hid (show w.heap.size + 2 ≤ wr3.heap.size by have := HSZ3.out; have := HQ3.out; have := BX3.out.size; omega)
 have a4 := below_keep HB3x.out _ _ s4.out
 obtain ⟨⟨p0, p1, p2, p3, p4, p5⟩, ⟨f0, f1, f2, f3, f4, f5⟩⟩ := HR3.out.all6
 go_wp2_with fail
 clear p0 p1 p2 p3 p4 p5 f0 f1 f2 f3 f4 f5 a4
 have hcall4 := Lib.hid (show Sl CkR 1 ok (wr3) A4 x.checks.length x.checks from hs4.out.below CkR.stays HB3x.out)
 have HSZ4 := Lib.hid (show w.heap.size + 2 ≤ (wr3).heap.size from HSZ3'.out)
 refine (ownCloneCheck A4 x.checks.length c4 x.checks ok _ hcall4.out L4).mono ?_
 rintro e w4 ⟨v4, vs4, b4, rfl, l4, o4, e4, k4⟩
 obtain ⟨B4, d4, rfl⟩ := o4.shape l4 (Nat.zero_le _)
 have HO4 := Lib.hid o4
 have HE4 := Lib.hid e4
 have HL4 := Lib.hid l4
 clear e4 l4
 have HB4 := Lib.hid (HB3x.out.trans (k4.mono HB3x.out.size))
 have r4 := HR3.out.below k4
 obtain ⟨⟨p0, p1, p2, p3, p4, p5⟩, ⟨f0, f1, f2, f3, f4, f5⟩⟩ := r4.all6
 replace HR3 := Lib.hid (show Row (w4.setCell ⟨w.heap.size + 1, 4, none⟩ (.slice B4 x.checks.length d4)) (w.heap.size + 1) 53 #[.string x.name, .slice B1 x.cols.length d1, .slice B2 x.key.length d2, .slice B3 x.uniqs.length d3, .slice B4 x.checks.length d4, .slice A5 x.fks.length c5] from r4.set 4 _)
 replace HR2 := Lib.hid (show Row (w4.setCell ⟨w.heap.size + 1, 4, none⟩ (.slice B4 x.checks.length d4)) w.heap.size 53 #[.string ⟨#[]⟩, .slice none 0 0, .slice none 0 0, .slice none 0 0, .slice none 0 0, .slice none 0 0] from (HR2.out.below k4).far (by simp) _)
 have HKK4 := Lib.hid k4
 have HB4s := Lib.hid (show Below w.heap.size w (w4.setCell ⟨w.heap.size + 1, 4, none⟩ (.slice B4 x.checks.length d4)) from HB4.out.setCell (by simp) _)
 have KB4 := Lib.hid (show But (w.heap.size + 1) (wr3) (w4.setCell ⟨w.heap.size + 1, 4, none⟩ (.slice B4 x.checks.length d4)) from ((But.ofBelow HKK4.out).setCell (p := ⟨w.heap.size + 1, 4, none⟩) rfl _))
 have BW4 := Lib.hid (show But (w.heap.size + 1) w4 (w4.setCell ⟨w.heap.size + 1, 4, none⟩ (.slice B4 x.checks.length d4)) from (But.refl _ _).setCell (p := ⟨w.heap.size + 1, 4, none⟩) rfl _)
 have a5 := below_keep HB4.out _ _ s5.out
 have a4' := below_keep HB4.out _ _ s4.out
 clear r4 k4 o4
 go_wp2_with fail
 clear a5 p0 p1 p2 p3 p4 p5 f0 f1 f2 f3 f4 f5 a4'
 have HP4 := Lib.hid (show ∃ bs, OwnPt CkO 78 1 (w4.setCell ⟨w.heap.size + 1, 4, none⟩ (.slice B4 x.checks.length d4)) (wr3).heap.size (.slice B4 x.checks.length d4) x.checks vs4 0 bs from ⟨_, HO4.out.but CkO.good BW4.out (by have := HSZ4.out; omega)⟩)
 have HS4 := Lib.hid (show (wr3).heap.size ≤ (w4.setCell ⟨w.heap.size + 1, 4, none⟩ (.slice B4 x.checks.length d4)).heap.size from KB4.out.size)
 have HQ4 := Lib.hid (show (wr3).heap.size = wr3.heap.size from rfl)
 have BC4 := Lib.hid (show But (w.heap.size + 1) wr3 (w4.setCell ⟨w.heap.size + 1, 4, none⟩ (.slice B4 x.checks.length d4)) from KB4.out)
 generalize hyy4 : w4.setCell ⟨w.heap.size + 1, 4, none⟩ (.slice B4 x.checks.length d4) = y4 at *
 generalize hbb4 : (wr3).heap.size = S4 at HP4 HS4 HQ4 HSZ4
 clear hyy4
 go_loopw [58] (fun i wr => ∃ k : Nat, k ≤ x.checks.length ∧ i = .int .i64 k ∧ Hid (∃ bs, OwnPt CkO 78 1 wr S4 (.slice B4 x.checks.length d4) x.checks vs4 k bs) ∧ Hid (Row wr (w.heap.size + 1) 53 #[.string x.name, .slice B1 x.cols.length d1, .slice B2 x.key.length d2, .slice B3 x.uniqs.length d3, .slice B4 x.checks.length d4, .slice A5 x.fks.length c5]) ∧ Hid (Row wr w.heap.size 53 #[.string ⟨#[]⟩, .slice none 0 0, .slice none 0 0, .slice none 0 0, .slice none 0 0, .slice none 0 0]) ∧ Hid (But (w.heap.size + 1) wr3 wr) ∧ Hid (Below w.heap.size w wr)) (fun i _ => x.checks.length - (intOf i).toNat)
 case atStart => exact ⟨0, by omega, rfl, HP4, HR3, HR2, BC4, HB4s⟩
 case round =>
 clear HP4 HR3 HR2 HB4s BC4
 obtain ⟨wr4, hwo4⟩ : ∃ wo, wo = wr := ⟨_, rfl⟩
 subst hwo4
 obtain ⟨k, hk, rfl, hP, HR3, HR2, BX4, HB4x⟩ := hrel
 by_cases hlt : k < x.checks.length
 ·obtain ⟨bs, hPk⟩ := hP.out
  have hkv : k < vs4.length := by rw [HL4.out]; exact hlt
  obtain ⟨Av, nv, cv, evk, -, -⟩ := HE4.out k hlt hkv
  obtain ⟨gg, cc, ev, -, -, hg1, hg2, hg3, hfr, hcell⟩ := hPk.at_ CkO.good HL4.out hlt
  obtain ⟨rfl, rfl⟩ : B4 = some ⟨gg, 0, none⟩ ∧ d4 = cc := by cases ev; exact ⟨rfl, rfl⟩
  obtain ⟨bu, ou, Au, nu, cu, -, e3, qu, hu, hcap⟩ := CkR.at_ hs4.out hlt
  have qu' := below_keep HB4x.out _ _ qu
  have qa := below_keep HB4x.out _ _ s4.out
  subst e3
  have qb : wr4.cell? ⟨w.heap.size + 1, 4, none⟩ = some (.slice (some ⟨gg, 0, none⟩) x.checks.length d4) := HR3.out.cell 4
  have qg : wr4.cell? ⟨gg, k, none⟩ = some (.slice Av nv cv) := by have := hcell 0 (.slice Av nv cv) (by rw [evk]; rfl); simpa using this
  have fg := hfr (k)
  have hud : Sl TkR 5 ok wr4.drew Au nu x.checks[k].expr := (hu.below TkR.stays HB4x.out).stays TkR.stays (fun _ h => h) (fun p v _ h => h)
  have hun : nu ≤ 1073741824 := by have h1 := hu.1; have h2 := G4.out x.checks[k] (List.getElem_mem hlt); omega
  have i0' : (0 : Int) ≤ k := by omega
  have i1 : (k : Int) < x.checks.length := by omega
  have hbu := cell_lt qu
  simp only at hbu
  have hn1 : gg ≠ w.heap.size + 1 := by have := HSZ4.out; omega
  have hn2 : gg ≠ b := by have := HSZ4.out; omega
  have hn3 : gg ≠ bu := by have := HSZ4.out; omega
  have HPk := Lib.hid hPk
  have HG1 := Lib.hid hg1
  have HEV := Lib.hid evk
  clear hP hPk hg1 hg2 hg3 hfr hcell qu hu hcap evk ev
  go_wp2_with fail
  go_region_held3 (fun w' => w'.cell? ⟨w.heap.size + 1, 4, none⟩ = some (.slice (some ⟨gg, 0, none⟩) x.checks.length d4) ∧ w'.cell? ⟨b, off + 4, none⟩ = some (.slice (some ⟨bu, ou, none⟩) x.checks.length c4) ∧ w'.cell? ⟨bu, ou + k, none⟩ = some (.slice Au nu cu))
   (first | go_keep | (with_reducible exact keepT3C (by assumption) k4) | ((with_reducible refine keepS3 ?_ hn1 hn2 hn3); assumption))
   (first | (go_at_call 111; refine (ownCloneTok Au nu cu _ ok _ hud hun).mono ?_; rintro e w4 ⟨v4, b4, rfl, o4, k4⟩; obtain ⟨B9, d9, rfl⟩ := o4.shape; have yg := below_keep k4 _ _ (show (World.drew _).cell? _ = _ from qg); have yf := (World.frozen?_of_block (w := World.drew _) (k4.block gg (cell_lt qg))).trans fg))
  have hBW : Below wr4.heap.size wr4 w4 := (Below.refl _ _).drew.trans k4
  have hE : CkO w4 S4 ((vs4[k]'hkv).set 0 (.slice B9 x.checks[k].expr.length d9)) x.checks[k] b4 := by
   rw [HEV.out]
   exact ⟨_, b4, rfl, o4.mono TkO.good (by have h1 := HPk.out.lt CkO.good; have h2 := HQ4.out; have h3 := BX4.out.size; show S4 ≤ wr4.heap.size; omega), by simp, o4.nodup TkO.good TkO.out⟩
  have HN := Lib.hid (OwnPt.cell CkO.good CkO.out (OwnTr.below (PartO.good CkO.good) HPk.out hBW) HL4.out hlt (t := 0) (by omega) hE (fun b hb hh => by have h1 := (HPk.out.lt CkO.good b hh).2; have h2 : wr4.heap.size ≤ b := (OwnTr.lt TkO.good o4 b hb).1; omega))
  have hgg : w.heap.size + 2 ≤ gg := by have := HSZ4.out; have := HG1.out; omega
  have HN3 := Lib.hid ((HR3.out.below hBW).far (p := ⟨gg, k, none⟩) (by show ¬ _ = gg; omega) (.slice B9 x.checks[k].expr.length d9))
  have HN2 := Lib.hid ((HR2.out.below hBW).far (p := ⟨gg, k, none⟩) (by show ¬ _ = gg; omega) (.slice B9 x.checks[k].expr.length d9))
  have HNB := Lib.hid ((BX4.out.trans (But.ofBelow hBW)).setNew (p := ⟨gg, k, none⟩) (by have := HQ4.out; have := HG1.out; show _ ≤ gg; omega) (.slice B9 x.checks[k].expr.length d9))
  have HNL := Lib.hid ((HB4x.out.trans (hBW.mono HB4x.out.size)).setCell (p := ⟨gg, k, none⟩) (by show _ ≤ gg; omega) (.slice B9 x.checks[k].expr.length d9))
  clear hE hBW o4 k4 HR3 HR2 BX4 HB4x HPk
  go_wp2_with fail
  go_roundw
  case rel => exact ⟨k + 1, by omega, by go_num, by obtain ⟨bs', h1, -⟩ := HN.out; exact Lib.hid ⟨bs', by simpa using h1⟩, HN3, HN2, HNB, HNL⟩
  case measure => simp [intOf]; omega
 obtain rfl : k = x.checks.length := by omega
 obtain ⟨b104, hPk4⟩ := hP.out
 have HO4' := Lib.hid (OwnPt.done HL4.out hPk4)
 clear hP hPk4 hlt hk HO4
 have HSZ4' := Lib.hid (show w.heap.size + 2 ≤ wr4.heap.size by have := HSZ4.out; have := HQ4.out; have := BX4.out.size; omega)
 have a5 := below_keep HB4x.out _ _ s5.out
 obtain ⟨⟨p0, p1, p2, p3, p4, p5⟩, ⟨f0, f1, f2, f3, f4, f5⟩⟩ := HR3.out.all6
 go_wp2_with fail
 clear p0 p1 p2 p3 p4 p5 f0 f1 f2 f3 f4 f5 a5
 have hcall5 := Lib.hid (show Sl FkR 5 ok (wr4) A5 x.fks.length x.fks from hs5.out.below FkR.stays HB4x.out)
 have HSZ5 := Lib.hid (show w.heap.size + 2 ≤ (wr4).heap.size from HSZ4'.out)
 refine (ownCloneFk A5 x.fks.length c5 x.fks ok _ hcall5.out L5).mono ?_
 rintro e w5 ⟨v5, vs5, b5, rfl, l5, o5, e5, k5⟩
 obtain ⟨B5, d5, rfl⟩ := o5.shape l5 (Nat.zero_le _)
 have HO5 := Lib.hid o5
 have HE5 := Lib.hid e5
 have HL5 := Lib.hid l5
 clear e5 l5
 have HB5 := Lib.hid (HB4x.out.trans (k5.mono HB4x.out.size))
 have r5 := HR3.out.below k5
 obtain ⟨⟨p0, p1, p2, p3, p4, p5⟩, ⟨f0, f1, f2, f3, f4, f5⟩⟩ := r5.all6
 replace HR3 := Lib.hid (show Row (w5.setCell ⟨w.heap.size + 1, 5, none⟩ (.slice B5 x.fks.length d5)) (w.heap.size + 1) 53 #[.string x.name, .slice B1 x.cols.length d1, .slice B2 x.key.length d2, .slice B3 x.uniqs.length d3, .slice B4 x.checks.length d4, .slice B5 x.fks.length d5] from r5.set 5 _)
 replace HR2 := Lib.hid (show Row (w5.setCell ⟨w.heap.size + 1, 5, none⟩ (.slice B5 x.fks.length d5)) w.heap.size 53 #[.string ⟨#[]⟩, .slice none 0 0, .slice none 0 0, .slice none 0 0, .slice none 0 0, .slice none 0 0] from (HR2.out.below k5).far (by simp) _)
 have HKK5 := Lib.hid k5
 have HB5s := Lib.hid (show Below w.heap.size w (w5.setCell ⟨w.heap.size + 1, 5, none⟩ (.slice B5 x.fks.length d5)) from HB5.out.setCell (by simp) _)
 have KB5 := Lib.hid (show But (w.heap.size + 1) (wr4) (w5.setCell ⟨w.heap.size + 1, 5, none⟩ (.slice B5 x.fks.length d5)) from ((But.ofBelow HKK5.out).setCell (p := ⟨w.heap.size + 1, 5, none⟩) rfl _))
 have BW5 := Lib.hid (show But (w.heap.size + 1) w5 (w5.setCell ⟨w.heap.size + 1, 5, none⟩ (.slice B5 x.fks.length d5)) from (But.refl _ _).setCell (p := ⟨w.heap.size + 1, 5, none⟩) rfl _)
 have a0 := below_keep HB5.out _ _ s0.out
 have a5' := below_keep HB5.out _ _ s5.out
 clear r5 k5 o5
 go_wp2_with fail
 clear a0 p0 p1 p2 p3 p4 p5 f0 f1 f2 f3 f4 f5 a5'
 have HP5 := Lib.hid (show ∃ bs, OwnPt FkO 80 5 (w5.setCell ⟨w.heap.size + 1, 5, none⟩ (.slice B5 x.fks.length d5)) (wr4).heap.size (.slice B5 x.fks.length d5) x.fks vs5 0 bs from ⟨_, HO5.out.but FkO.good BW5.out (by have := HSZ5.out; omega)⟩)
 have HS5 := Lib.hid (show (wr4).heap.size ≤ (w5.setCell ⟨w.heap.size + 1, 5, none⟩ (.slice B5 x.fks.length d5)).heap.size from KB5.out.size)
 have HQ5 := Lib.hid (show (wr4).heap.size = wr4.heap.size from rfl)
 have BC5 := Lib.hid (show But (w.heap.size + 1) wr4 (w5.setCell ⟨w.heap.size + 1, 5, none⟩ (.slice B5 x.fks.length d5)) from KB5.out)
 generalize hyy5 : w5.setCell ⟨w.heap.size + 1, 5, none⟩ (.slice B5 x.fks.length d5) = y5 at *
 generalize hbb5 : (wr4).heap.size = S5 at HP5 HS5 HQ5 HSZ5
 clear hyy5
 go_loopw [85] (fun i wr => ∃ k : Nat, k ≤ x.fks.length ∧ i = .int .i64 k ∧ Hid (∃ bs, OwnPt FkO 80 5 wr S5 (.slice B5 x.fks.length d5) x.fks vs5 k bs) ∧ Hid (Row wr (w.heap.size + 1) 53 #[.string x.name, .slice B1 x.cols.length d1, .slice B2 x.key.length d2, .slice B3 x.uniqs.length d3, .slice B4 x.checks.length d4, .slice B5 x.fks.length d5]) ∧ Hid (Row wr w.heap.size 53 #[.string ⟨#[]⟩, .slice none 0 0, .slice none 0 0, .slice none 0 0, .slice none 0 0, .slice none 0 0]) ∧ Hid (But (w.heap.size + 1) wr4 wr) ∧ Hid (Below w.heap.size w wr)) (fun i _ => x.fks.length - (intOf i).toNat)
 case atStart => exact ⟨0, by omega, rfl, HP5, HR3, HR2, BC5, HB5s⟩
 case round =>
 clear HP5 HR3 HR2 HB5s BC5
 obtain ⟨wr5, hwo5⟩ : ∃ wo, wo = wr := ⟨_, rfl⟩
 subst hwo5
 obtain ⟨k, hk, rfl, hP, HR3, HR2, BX5, HB5x⟩ := hrel
 by_cases hlt : k < x.fks.length
 ·obtain ⟨bs, hPk⟩ := hP.out
  have hkv : k < vs5.length := by rw [HL5.out]; exact hlt
  obtain ⟨Av, nv, cv, evk, -, -⟩ := HE5.out k hlt hkv
  obtain ⟨gg, cc, ev, -, -, hg1, hg2, hg3, hfr, hcell⟩ := hPk.at_ FkO.good HL5.out hlt
  obtain ⟨rfl, rfl⟩ : B5 = some ⟨gg, 0, none⟩ ∧ d5 = cc := by cases ev; exact ⟨rfl, rfl⟩
  obtain ⟨bu, ou, Au, nu, cu, -, e3, qu, -, -, -, -, hu, hcap⟩ := FkR.at_ hs5.out hlt
  have qu' := below_keep HB5x.out _ _ qu
  have qa := below_keep HB5x.out _ _ s5.out
  subst e3
  have qb : wr5.cell? ⟨w.heap.size + 1, 5, none⟩ = some (.slice (some ⟨gg, 0, none⟩) x.fks.length d5) := HR3.out.cell 5
  have qg : wr5.cell? ⟨gg, k * 5, none⟩ = some (.slice Av nv cv) := by have := hcell 0 (.slice Av nv cv) (by rw [evk]; rfl); simpa using this
  have fg := hfr (k * 5)
  have hud : Sl IntR 1 ok wr5.drew Au nu x.fks[k].cols := (hu.below IntR.stays HB5x.out).stays IntR.stays (fun _ h => h) (fun p v _ h => h)
  have hun : nu ≤ 1073741824 := by have h1 := hu.1; have h2 := G5.out x.fks[k] (List.getElem_mem hlt); omega
  have i0' : (0 : Int) ≤ k := by omega
  have i1 : (k : Int) < x.fks.length := by omega
  have hbu := cell_lt qu
  simp only at hbu
  have hn1 : gg ≠ w.heap.size + 1 := by have := HSZ5.out; omega
  have hn2 : gg ≠ b := by have := HSZ5.out; omega
  have hn3 : gg ≠ bu := by have := HSZ5.out; omega
  have HPk := Lib.hid hPk
  have HG1 := Lib.hid hg1
  have HEV := Lib.hid evk
  clear hP hPk hg1 hg2 hg3 hfr hcell qu hu hcap evk ev
  go_wp2_with fail
  go_region_held3 (fun w' => w'.cell? ⟨w.heap.size + 1, 5, none⟩ = some (.slice (some ⟨gg, 0, none⟩) x.fks.length d5) ∧ w'.cell? ⟨b, off + 5, none⟩ = some (.slice (some ⟨bu, ou, none⟩) x.fks.length c5) ∧ w'.cell? ⟨bu, ou + k * 5, none⟩ = some (.slice Au nu cu))
   (first | go_keep | (with_reducible exact keepT3C (by assumption) k4) | ((with_reducible refine keepS3 ?_ hn1 hn2 hn3); assumption))
   (first | (go_at_call 108; refine (ownCloneInt64 Au nu cu _ ok _ hud hun).mono ?_; rintro e w4 ⟨v4, b4, rfl, o4, k4⟩; obtain ⟨B9, d9, rfl⟩ := o4.shape; have yg := below_keep k4 _ _ (show (World.drew _).cell? _ = _ from qg); have yf := (World.frozen?_of_block (w := World.drew _) (k4.block gg (cell_lt qg))).trans fg))
  have hBW : Below wr5.heap.size wr5 w4 := (Below.refl _ _).drew.trans k4
  have hE : FkO w4 S5 ((vs5[k]'hkv).set 0 (.slice B9 x.fks[k].cols.length d9)) x.fks[k] b4 := by
   rw [HEV.out]
   exact ⟨_, b4, rfl, o4.mono IntO.good (by have h1 := HPk.out.lt FkO.good; have h2 := HQ5.out; have h3 := BX5.out.size; show S5 ≤ wr5.heap.size; omega), by simp, o4.nodup IntO.good IntO.out⟩
  have HN := Lib.hid (OwnPt.cell FkO.good FkO.out (OwnTr.below (PartO.good FkO.good) HPk.out hBW) HL5.out hlt (t := 0) (by omega) hE (fun b hb hh => by have h1 := (HPk.out.lt FkO.good b hh).2; have h2 : wr5.heap.size ≤ b := (OwnTr.lt IntO.good o4 b hb).1; omega))
  have hgg : w.heap.size + 2 ≤ gg := by have := HSZ5.out; have := HG1.out; omega
  have HN3 := Lib.hid ((HR3.out.below hBW).far (p := ⟨gg, k * 5, none⟩) (by show ¬ _ = gg; omega) (.slice B9 x.fks[k].cols.length d9))
  have HN2 := Lib.hid ((HR2.out.below hBW).far (p := ⟨gg, k * 5, none⟩) (by show ¬ _ = gg; omega) (.slice B9 x.fks[k].cols.length d9))
  have HNB := Lib.hid ((BX5.out.trans (But.ofBelow hBW)).setNew (p := ⟨gg, k * 5, none⟩) (by have := HQ5.out; have := HG1.out; show _ ≤ gg; omega) (.slice B9 x.fks[k].cols.length d9))
  have HNL := Lib.hid ((HB5x.out.trans (hBW.mono HB5x.out.size)).setCell (p := ⟨gg, k * 5, none⟩) (by show _ ≤ gg; omega) (.slice B9 x.fks[k].cols.length d9))
  clear hE hBW o4 k4 HR3 HR2 BX5 HB5x HPk
  go_wp2_with fail
  go_roundw
  case rel => exact ⟨k + 1, by omega, by go_num, by obtain ⟨bs', h1, -⟩ := HN.out; exact Lib.hid ⟨bs', by simpa using h1⟩, HN3, HN2, HNB, HNL⟩
  case measure => simp [intOf]; omega
 obtain rfl : k = x.fks.length := by omega
 obtain ⟨b105, hPk5⟩ := hP.out
 have HO5' := Lib.hid (OwnPt.done HL5.out hPk5)
 clear hP hPk5 hlt hk HO5
 obtain ⟨⟨p0, p1, p2, p3, p4, p5⟩, ⟨f0, f1, f2, f3, f4, f5⟩⟩ := HR3.out.all6
 obtain ⟨⟨z0, z1, z2, z3, z4, z5⟩, ⟨g0, g1, g2, g3, g4, g5⟩⟩ := HR2.out.all6
 go_wp2_with fail
 clear p0 p1 p2 p3 p4 p5 f0 f1 f2 f3 f4 f5 z0 z1 z2 z3 z4 z5 g0 g1 g2 g3 g4 g5
 have hrr : Row (((((((wr5).setCell ⟨w.heap.size, 0, none⟩ (.string x.name)).setCell ⟨w.heap.size, 1, none⟩ (.slice B1 x.cols.length d1)).setCell ⟨w.heap.size, 2, none⟩ (.slice B2 x.key.length d2)).setCell ⟨w.heap.size, 3, none⟩ (.slice B3 x.uniqs.length d3)).setCell ⟨w.heap.size, 4, none⟩ (.slice B4 x.checks.length d4)).setCell ⟨w.heap.size, 5, none⟩ (.slice B5 x.fks.length d5)) w.heap.size 53 #[.string x.name, .slice B1 x.cols.length d1, .slice B2 x.key.length d2, .slice B3 x.uniqs.length d3, .slice B4 x.checks.length d4, .slice B5 x.fks.length d5] := ((((((HR2.out.set 0 (.string x.name)).set 1 (.slice B1 x.cols.length d1)).set 2 (.slice B2 x.key.length d2)).set 3 (.slice B3 x.uniqs.length d3)).set 4 (.slice B4 x.checks.length d4)).set 5 (.slice B5 x.fks.length d5))
 have hF : But w.heap.size wr5 (((((((wr5).setCell ⟨w.heap.size, 0, none⟩ (.string x.name)).setCell ⟨w.heap.size, 1, none⟩ (.slice B1 x.cols.length d1)).setCell ⟨w.heap.size, 2, none⟩ (.slice B2 x.key.length d2)).setCell ⟨w.heap.size, 3, none⟩ (.slice B3 x.uniqs.length d3)).setCell ⟨w.heap.size, 4, none⟩ (.slice B4 x.checks.length d4)).setCell ⟨w.heap.size, 5, none⟩ (.slice B5 x.fks.length d5)) := ((((((But.refl _ _).setCell (p := ⟨w.heap.size, 0, none⟩) rfl (.string x.name)).setCell (p := ⟨w.heap.size, 1, none⟩) rfl (.slice B1 x.cols.length d1)).setCell (p := ⟨w.heap.size, 2, none⟩) rfl (.slice B2 x.key.length d2)).setCell (p := ⟨w.heap.size, 3, none⟩) rfl (.slice B3 x.uniqs.length d3)).setCell (p := ⟨w.heap.size, 4, none⟩) rfl (.slice B4 x.checks.length d4)).setCell (p := ⟨w.heap.size, 5, none⟩) rfl (.slice B5 x.fks.length d5)
 have hFB : Below w.heap.size w (((((((wr5).setCell ⟨w.heap.size, 0, none⟩ (.string x.name)).setCell ⟨w.heap.size, 1, none⟩ (.slice B1 x.cols.length d1)).setCell ⟨w.heap.size, 2, none⟩ (.slice B2 x.key.length d2)).setCell ⟨w.heap.size, 3, none⟩ (.slice B3 x.uniqs.length d3)).setCell ⟨w.heap.size, 4, none⟩ (.slice B4 x.checks.length d4)).setCell ⟨w.heap.size, 5, none⟩ (.slice B5 x.fks.length d5)) := ((((((HB5x.out).setCell (p := ⟨w.heap.size, 0, none⟩) (Nat.le_refl _) (.string x.name)).setCell (p := ⟨w.heap.size, 1, none⟩) (Nat.le_refl _) (.slice B1 x.cols.length d1)).setCell (p := ⟨w.heap.size, 2, none⟩) (Nat.le_refl _) (.slice B2 x.key.length d2)).setCell (p := ⟨w.heap.size, 3, none⟩) (Nat.le_refl _) (.slice B3 x.uniqs.length d3)).setCell (p := ⟨w.heap.size, 4, none⟩) (Nat.le_refl _) (.slice B4 x.checks.length d4)).setCell (p := ⟨w.heap.size, 5, none⟩) (Nat.le_refl _) (.slice B5 x.fks.length d5)
 generalize hff : ((((((wr5).setCell ⟨w.heap.size, 0, none⟩ (.string x.name)).setCell ⟨w.heap.size, 1, none⟩ (.slice B1 x.cols.length d1)).setCell ⟨w.heap.size, 2, none⟩ (.slice B2 x.key.length d2)).setCell ⟨w.heap.size, 3, none⟩ (.slice B3 x.uniqs.length d3)).setCell ⟨w.heap.size, 4, none⟩ (.slice B4 x.checks.length d4)).setCell ⟨w.heap.size, 5, none⟩ (.slice B5 x.fks.length d5) = ff at *
 have z3 := HSZ3.out
 have z4 := HSZ4.out
 have z5 := HSZ5.out
 have z1 := HSZ1.out
 have z2 := HSZ2.out
 have t12 := (BW1.out.trans (But.ofBelow HKK2.out))
 have t23 := BX3.out
 have t34 := BX4.out
 have t45 := BX5.out
 have u1 := (HO1.out.but ClO.good (t12.trans (t23.trans (t34.trans t45))) (by omega)).but ClO.good hF (by omega)
 have u2 := (HO2.out.but IntO.good (t23.trans (t34.trans t45)) (by omega)).but IntO.good hF (by omega)
 have u3 := (HO3'.out.but UqO.good (t34.trans t45) (by omega)).but UqO.good hF (by omega)
 have u4 := (HO4'.out.but CkO.good t45 (by omega)).but CkO.good hF (by omega)
 have u5 := HO5'.out.but FkO.good hF (by omega)
 have m1 := BW1.out.size
 have m2 := HKK2.out.size
 have m3 := t23.size
 have m4 := t34.size
 have m5 := HQ3.out
 have m6 := HQ4.out
 have m7 := HQ5.out
 have m8 := KB1.out.size
 have hT := TbO.mk5 (x := x) u1 u2 u3 u4 u5 (fun b hb => by have := (HO1.out.lt ClO.good b hb).2; omega) (fun b hb => by have := (HO2.out.lt IntO.good b hb).2; omega) (fun b hb => by have := (HO3'.out.lt UqO.good b hb).2; omega) (fun b hb => by have := (HO4'.out.lt CkO.good b hb).2; omega) (by omega) (by omega) (by omega) (by omega)
 refine bodyPost_ret (results_cell_row (p := 2) (ty := 53) rfl _ _ w.heap.size 53 #[.string x.name, .slice B1 x.cols.length d1, .slice B2 x.key.length d2, .slice B3 x.uniqs.length d3, .slice B4 x.checks.length d4, .slice B5 x.fks.length d5] (0, 0) _ rfl hrr Tryz.underlying53 rfl HGI.out) rfl ⟨_, rfl, ⟨_, TbO.good.mono hT (by omega)⟩, hFB⟩
set_option maxRecDepth 100000 in
set_option maxHeartbeats 4000000 in
theorem implCopySchema (A : Option Addr) (n c : Nat) (xs : List Tb) (ok : Nat → Prop) (w : World) (h : Sl TbR 6 ok w A n xs) (hn : n ≤ 1073741824) (hx : ∀ x ∈ xs, x.sz ≤ 1048576) :
  Calls Tryz.prog 47 #[.slice A n c] w fun e w' => ∃ v bs, e = .returned v ∧ OwnTr TbO 53 6 w' w.heap.size v xs bs ∧ Below w.heap.size w w' := by
 obtain rfl : xs.length = n := h.1
 have HX := Lib.hid hx
 clear hx
 go_enter Tryz.func47, Tryz.ntmps47
 go_wp2_with fail
 refine (ownCloneTable A _ c xs ok w h hn).mono ?_
 rintro e w1 ⟨v1, vs, b1, rfl, l1, o1, e1, k1⟩
 obtain ⟨B, d, rfl⟩ := o1.shape l1 (Nat.zero_le _)
 have HP := Lib.hid (show ∃ bs, OwnPt TbO 53 6 w1 w.heap.size (.slice B xs.length d) xs vs 0 bs from ⟨_, o1⟩)
 have HB := Lib.hid k1
 have HE := Lib.hid e1
 have HL := Lib.hid l1
 clear l1 e1 k1 o1
 go_wp2_with fail
 go_loopw [9] (fun i wr => ∃ k : Nat, k ≤ xs.length ∧ i = .int .i64 k ∧ Hid (∃ bs, OwnPt TbO 53 6 wr w.heap.size (.slice B xs.length d) xs vs k bs) ∧ Hid (Below w.heap.size w wr)) (fun i _ => xs.length - (intOf i).toNat)
 case atStart => exact ⟨0, by omega, rfl, HP, HB⟩
 case round =>
 clear HP HB
 obtain ⟨k, hk, rfl, hP, hB⟩ := hrel
 by_cases hlt : k < xs.length
 ·obtain ⟨bs, hPk⟩ := hP.out
  have hkv : k < vs.length := by rw [HL.out]; exact hlt
  obtain ⟨B1, m1, d1, B2, m2, d2, B3, m3', d3, B4, m4, d4, B5, m5, d5, evk, -⟩ := HE.out k hlt hkv
  obtain ⟨gg, cc, ev, -, -, hg1, hg2, hg3, hfr, hcell⟩ := hPk.at_ TbO.good HL.out hlt
  obtain ⟨rfl, rfl⟩ : B = some ⟨gg, 0, none⟩ ∧ d = cc := by cases ev; exact ⟨rfl, rfl⟩
  obtain ⟨bu, ou, A1, n1, c1, A2, n2, c2, A3, n3, c3, A4, n4, c4, A5, n5, c5, -, e3, q0, q1, q2, q3, q4, q5, h1, h2, h3, h4, h5, -⟩ := TbR.at_ h hlt
  subst e3
  have i0' : (0 : Int) ≤ k := by omega
  have i1 : (k : Int) < xs.length := by omega
  have HC := Lib.hid hcell
  have HF := Lib.hid hfr
  have HPk := Lib.hid hPk
  have HG1 := Lib.hid hg1
  have HG2 := Lib.hid hg2
  have HEV := Lib.hid evk
  have hb := hB.out
  have HXK := Lib.hid (HX.out _ (List.getElem_mem hlt))
  clear hP hPk hg1 hg2 hg3 hfr hcell evk ev
  go_wp2_with fail
  refine (implCopyTable bu (ou + k * 6) xs[k] A1 n1 c1 A2 n2 c2 A3 n3 c3 A4 n4 c4 A5 n5 c5 ok wr (below_keep hb _ _ q0) (below_keep hb _ _ q1) (below_keep hb _ _ q2) (below_keep hb _ _ q3) (below_keep hb _ _ q4) (below_keep hb _ _ q5) (h1.below ClR.stays hb) (h2.below IntR.stays hb) (h3.below UqR.stays hb) (h4.below CkR.stays hb) (h5.below FkR.stays hb) HXK.out).mono ?_
  rintro e w2 ⟨cs, b2, rfl, hT, hb2⟩
  have hT0 := hT
  obtain ⟨v1, t1, v2, t2, v3, t3, v4, t4, v5, t5, e9, g1, g2, g3, g4, g5, -⟩ := hT0
  obtain ⟨D1, a1, rfl⟩ := g1.shape
  obtain ⟨D2, a2, rfl⟩ := g2.shape
  obtain ⟨D3, a3, rfl⟩ := g3.shape
  obtain ⟨D4, a4, rfl⟩ := g4.shape
  obtain ⟨D5, a5, rfl⟩ := g5.shape
  obtain rfl : cs = #[.string xs[k].name, .slice D1 xs[k].cols.length a1, .slice D2 xs[k].key.length a2, .slice D3 xs[k].uniqs.length a3, .slice D4 xs[k].checks.length a4, .slice D5 xs[k].fks.length a5] := by apply Array.toList_inj.1; exact e9
  have hE : TbO w2 w.heap.size [.string xs[k].name, .slice D1 xs[k].cols.length a1, .slice D2 xs[k].key.length a2, .slice D3 xs[k].uniqs.length a3, .slice D4 xs[k].checks.length a4, .slice D5 xs[k].fks.length a5] xs[k] b2 := TbO.good.mono hT hB.out.size
  have HN := Lib.hid (OwnPt.cells TbO.good TbO.out (by omega) (OwnTr.below (PartO.good TbO.good) HPk.out hb2) HL.out hlt hE (fun b hb hh => by have h1 := (HPk.out.lt TbO.good b hh).2; have h2 := (TbO.good.lt hT hb).1; omega))
  have HBN := Lib.hid (Below.setCells HG1.out [.string xs[k].name, .slice D1 xs[k].cols.length a1, .slice D2 xs[k].key.length a2, .slice D3 xs[k].uniqs.length a3, .slice D4 xs[k].checks.length a4, .slice D5 xs[k].fks.length a5] w2 (k * 6) (hb.trans (hb2.mono hb.size)))
  have y0 : w2.cell? ⟨gg, k * 6, none⟩ = some (.string xs[k].name) := below_keep hb2 _ _ (HC.out 0 _ (by rw [HEV.out]; rfl))
  have z0 := (World.frozen?_of_block (w := wr) (hb2.block gg HG2.out)).trans (HF.out (k * 6))
  have y1 : w2.cell? ⟨gg, k * 6 + 1, none⟩ = some (.slice B1 m1 d1) := below_keep hb2 _ _ (HC.out 1 _ (by rw [HEV.out]; rfl))
  have z1 := (World.frozen?_of_block (w := wr) (hb2.block gg HG2.out)).trans (HF.out (k * 6 + 1))
  have y2 : w2.cell? ⟨gg, k * 6 + 2, none⟩ = some (.slice B2 m2 d2) := below_keep hb2 _ _ (HC.out 2 _ (by rw [HEV.out]; rfl))
  have z2 := (World.frozen?_of_block (w := wr) (hb2.block gg HG2.out)).trans (HF.out (k * 6 + 2))
  have y3 : w2.cell? ⟨gg, k * 6 + 3, none⟩ = some (.slice B3 m3' d3) := below_keep hb2 _ _ (HC.out 3 _ (by rw [HEV.out]; rfl))
  have z3 := (World.frozen?_of_block (w := wr) (hb2.block gg HG2.out)).trans (HF.out (k * 6 + 3))
  have y4 : w2.cell? ⟨gg, k * 6 + 4, none⟩ = some (.slice B4 m4 d4) := below_keep hb2 _ _ (HC.out 4 _ (by rw [HEV.out]; rfl))
  have z4 := (World.frozen?_of_block (w := wr) (hb2.block gg HG2.out)).trans (HF.out (k * 6 + 4))
  have y5 : w2.cell? ⟨gg, k * 6 + 5, none⟩ = some (.slice B5 m5 d5) := below_keep hb2 _ _ (HC.out 5 _ (by rw [HEV.out]; rfl))
  have z5 := (World.frozen?_of_block (w := wr) (hb2.block gg HG2.out)).trans (HF.out (k * 6 + 5))
  clear g1 g2 g3 g4 g5 q0 q1 q2 q3 q4 q5 h1 h2 h3 h4 h5 hb hT hE e9 hB hb2 HPk HC HF
  go_wp2_with fail
  go_roundw
  case rel => exact ⟨k + 1, by omega, by go_num, Lib.hid (by obtain ⟨bs', h1, -⟩ := HN.out; exact ⟨bs', h1⟩), HBN⟩
  case measure => simp [intOf]; omega
 ·obtain rfl : k = xs.length := by omega
  obtain ⟨bs, hPk⟩ := hP.out
  go_wp2_with fail
  go_ret
  exact ⟨_, bs, rfl, OwnPt.done HL.out hPk, hB.out⟩
end Go.Proofs.YthamekdjfoepmaaGreat
namespace Go.Proofs.YthamekdjfoepmaaGreat
open Go.RowKit
section
variable {α : Type} {Ts : List TypeId} {sz : Nat} {E : ElO α} {T : TypeId}
theorem OwnN.inner (G : GoodO Ts sz E) (hT : T ∉ Ts) {w w' : World} {base : Nat} {v : Value} {xs : List α} {css : List (List Value)} {bss : List (List Nat)} (h : OwnN E T sz w base v xs css bss) {k r : Nat} (hk : k < xs.length) {x : α} {bs : List Nat} (hE : E w' base (css.getD k []) x bs) (hr : r ∈ bss.getD k []) (hg : w.grownBy w' (some r))
  (hn : ∀ b ∈ bs, b ∈ bss.getD k [] ∨ b ∉ bss.flatten) : OwnN E T sz w' base v (xs.set k x) css (bss.set k bs) := by
 have hap : ∀ {i j y : Nat}, y ∈ bss.getD i [] → y ∈ bss.getD j [] → i = j := fun {i j y} hi hj => by
  have hp := List.pairwise_flatten.1 h.apart
  have hil : i < bss.length := by
   rcases Nat.lt_or_ge i bss.length with h1 | h1
   ·exact h1
   ·rw [List.getD_eq_getElem?_getD, List.getElem?_eq_none h1] at hi; simp at hi
  have hjl : j < bss.length := by
   rcases Nat.lt_or_ge j bss.length with h1 | h1
   ·exact h1
   ·rw [List.getD_eq_getElem?_getD, List.getElem?_eq_none h1] at hj; simp at hj
  rw [List.getD_eq_getElem?_getD, List.getElem?_eq_getElem hil] at hi
  rw [List.getD_eq_getElem?_getD, List.getElem?_eq_getElem hjl] at hj
  have hq := List.pairwise_iff_getElem.1 hp.2
  rcases Nat.lt_trichotomy i j with h1 | h1 | h1
  ·exact absurd rfl (hq i j hil hjl h1 y hi y hj)
  ·exact h1
  ·exact absurd rfl (hq j i hjl hil h1 y hj y hi)
 have hkb : k < bss.length := by rw [h.l2]; exact hk
 refine ⟨by simp [h.l1], by simp [h.l2], ?_, fun i hi => ?_, ?_⟩
 ·have := ownsRow_dep h.row (w' := w') fun b hb => hg.block b (World.ownsRow.lt h.row b hb).2 fun e => by
   injection e with e
   subst e
   exact h.out G hT hb (mem_flatten_getD hr)
  simpa using this
 ·have hi' : i < xs.length := by simpa using hi
  rw [List.getElem_set, List.getD_eq_getElem?_getD (l := bss.set k bs), List.getElem?_set]
  by_cases e : k = i
  ·subst e
   rw [if_pos rfl, if_pos rfl, if_pos hkb]
   exact hE
  ·rw [if_neg e, if_neg e, ← List.getD_eq_getElem?_getD]
   refine G.dep (h.el i hi') fun b hb => hg.block b (G.lt (h.el i hi') hb).2 fun e' => ?_
   injection e' with e'
   subst e'
   exact e (hap hr hb)
 ·have hp := List.pairwise_flatten.1 h.apart
  refine List.pairwise_flatten.2 ⟨fun l hl => ?_, ?_⟩
  ·rcases List.mem_or_eq_of_mem_set hl with h1 | rfl
   ·exact hp.1 l h1
   ·exact G.nodup hE
  ·refine List.pairwise_iff_getElem.2 fun i j hi hj hij y hy z hz => ?_
   have hi' : i < bss.length := by simpa using hi
   have hj' : j < bss.length := by simpa using hj
   rw [List.getElem_set] at hy hz
   have hgi : bss.getD i [] = bss[i] := by rw [List.getD_eq_getElem?_getD, List.getElem?_eq_getElem hi']; rfl
   have hgj : bss.getD j [] = bss[j] := by rw [List.getD_eq_getElem?_getD, List.getElem?_eq_getElem hj']; rfl
   split at hy <;> split at hz
   ·omega
   ·rintro rfl
    rcases hn y hy with h1 | h1
    ·have := hap h1 (by rw [hgj]; exact hz); omega
    ·exact h1 (List.mem_flatten.2 ⟨_, List.getElem_mem hj', hz⟩)
   ·rintro rfl
    rcases hn y hz with h1 | h1
    ·have := hap h1 (by rw [hgi]; exact hy); omega
    ·exact h1 (List.mem_flatten.2 ⟨_, List.getElem_mem hi', hy⟩)
   ·exact (List.pairwise_iff_getElem.1 hp.2) i j hi' hj' hij y hy z hz
end
abbrev RwP : ElO (Rw ⊕ List Value) := PartO 2 RwO
def DtP : ElO (List (Rw ⊕ List Value)) := fun w base cs x bs => ∃ v, cs = [v] ∧ OwnTr RwP 131 2 w base v x bs
theorem DtP.good : GoodO (131 :: RwTs) 1 DtP where
 len := fun ⟨v, e, h⟩ => by rw [e]; rfl
 one := fun ⟨v, e, h⟩ u hu => by
  rw [e] at hu
  obtain rfl : u = v := by simpa using hu
  exact h.one
 typed := fun ⟨v, e, h⟩ b hb => h.typed (PartO.good RwO.good) b hb
 nodup := fun ⟨v, e, h⟩ => h.nodup (PartO.good RwO.good) RwO.out
 dep := fun ⟨v, e, h⟩ hd => ⟨v, e, h.dep (PartO.good RwO.good) hd⟩
 mono := fun ⟨v, e, h⟩ hb => ⟨v, e, h.mono (PartO.good RwO.good) hb⟩
theorem DtP.out : 89 ∉ (131 :: RwTs) := by decide
def stL (db : List Dt) (vss : List (List (List Value))) (i k : Nat) : List (List (Rw ⊕ List Value)) :=
 (List.range db.length).map fun j => partL (db.getD j ⟨[]⟩).rows (vss.getD j []) (if j < i then (db.getD j ⟨[]⟩).rows.length else if j = i then k else 0)
theorem stL_len (db : List Dt) (vss : List (List (List Value))) (i k : Nat) : (stL db vss i k).length = db.length := by simp [stL]
theorem stL_get (db : List Dt) (vss : List (List (List Value))) (i k : Nat) {j : Nat} (hj : j < db.length) (h : j < (stL db vss i k).length) : (stL db vss i k)[j] = partL db[j].rows (vss.getD j []) (if j < i then db[j].rows.length else if j = i then k else 0) := by
 have h2 : (stL db vss i k)[j]? = some (partL db[j].rows (vss.getD j []) (if j < i then db[j].rows.length else if j = i then k else 0)) := by
  unfold stL
  rw [List.getElem?_map, List.getElem?_range hj, Option.map_some, List.getD_eq_getElem?_getD (l := db), List.getElem?_eq_getElem hj]
  rfl
 rw [List.getElem?_eq_getElem h] at h2
 exact Option.some.inj h2
theorem stL_step (db : List Dt) (vss : List (List (List Value))) {i k : Nat} (hi : i < db.length) : (stL db vss i k).set i (partL db[i].rows (vss.getD i []) (k + 1)) = stL db vss i (k + 1) := by
 refine List.ext_getElem (by simp [stL_len]) fun j h1 h2 => ?_
 have hj : j < db.length := by rw [stL_len] at h2; exact h2
 rw [List.getElem_set]
 by_cases e : i = j
 ·subst e
  rw [if_pos rfl, stL_get _ _ _ _ hj, if_neg (by omega), if_pos rfl]
 ·rw [if_neg e, stL_get _ _ _ _ hj, stL_get _ _ _ _ hj]
  by_cases e2 : j < i
  ·rw [if_pos e2, if_pos e2]
  ·rw [if_neg e2, if_neg e2, if_neg (by omega), if_neg (by omega)]
theorem stL_next (db : List Dt) (vss : List (List (List Value))) {i : Nat} (hi : i < db.length) : stL db vss i db[i].rows.length = stL db vss (i + 1) 0 := by
 refine List.ext_getElem (by simp [stL_len]) fun j h1 h2 => ?_
 have hj : j < db.length := by rw [stL_len] at h2; exact h2
 rw [stL_get _ _ _ _ hj, stL_get _ _ _ _ hj]
 by_cases e : i = j
 ·subst e
  rw [if_neg (by omega), if_pos rfl, if_pos (by omega)]
 ·by_cases e2 : j < i
  ·rw [if_pos e2, if_pos (by omega)]
  ·rw [if_neg e2, if_neg (by omega), if_neg (by omega)]
   by_cases e3 : j = i + 1
   ·rw [if_pos e3]
   ·rw [if_neg e3]
theorem OwnTr.dbDone {w : World} {base : Nat} {v : Value} {db : List Dt} {vss : List (List (List Value))} {bs : List Nat} (hv : vss.length = db.length) (hl : ∀ j (h : j < db.length) (h' : j < vss.length), vss[j].length = db[j].rows.length) (h : OwnTr DtP 89 1 w base v (stL db vss db.length 0) bs) : OwnTr DtO 89 1 w base v db bs := by
 obtain ⟨css, bss, h, rfl⟩ := h
 have hn := stL_len db vss db.length 0
 refine ⟨css, bss, ⟨by rw [h.l1, hn], by rw [h.l2, hn], by have := h.row; rwa [hn] at this, fun i hi => ?_, h.apart⟩, rfl⟩
 have he := h.el i (by omega)
 have hi' : i < vss.length := by omega
 rw [stL_get _ _ _ _ hi, if_pos hi] at he
 obtain ⟨v1, e1, h1⟩ := he
 have hvi : vss.getD i [] = vss[i] := by rw [List.getD_eq_getElem?_getD, List.getElem?_eq_getElem hi']; rfl
 rw [hvi] at h1
 have h2 : OwnTr RwO 131 2 w base v1 db[i].rows (bss.getD i []) := OwnPt.done (hl i hi hi') h1
 exact ⟨v1, _, e1, h2, by simp, by have := h2.nodup RwO.good RwO.out; simpa using this⟩
theorem OwnTr.layVals {w : World} {base gi ci : Nat} {db : List Dt} {vss : List (List (List Value))} {i k : Nat} {bs bx : List Nat} {u : Value} {v : Value} (hv : vss.length = db.length) (hl : ∀ j (h : j < db.length) (h' : j < vss.length), vss[j].length = db[j].rows.length) (hi : i < db.length) (hk : k < db[i].rows.length)
  (h : OwnTr DtP 89 1 w base v (stL db vss i k) bs) (hh : ∀ css bss, OwnN DtP 89 1 w base v (stL db vss i k) css bss → css.getD i [] = [.slice (some ⟨gi, 0, none⟩) db[i].rows.length ci])
  (hE : RwO w base (((vss.getD i []).getD k []).set 1 u) db[i].rows[k] bx) (hn : ∀ b ∈ bx, b ∉ bs) :
  ∃ bs', OwnTr DtP 89 1 (w.setCell ⟨gi, k * 2 + 1, none⟩ u) base v (stL db vss i (k + 1)) bs' := by
 obtain ⟨css, bss, h, rfl⟩ := h
 have hlen := stL_len db vss i k
 have he := h.el i (by omega)
 have hi' : i < vss.length := by omega
 have hvi : vss.getD i [] = vss[i] := by rw [List.getD_eq_getElem?_getD, List.getElem?_eq_getElem hi']; rfl
 rw [stL_get _ _ _ _ hi, if_neg (by omega), if_pos rfl, hvi, hh css bss h] at he
 obtain ⟨v1, e1, h1⟩ := he
 obtain rfl : .slice (some ⟨gi, 0, none⟩) db[i].rows.length ci = v1 := by simpa using e1
 have hlv := hl i hi hi'
 have hk' : k < vss[i].length := by omega
 have hvk : vss[i].getD k [] = vss[i][k] := by rw [List.getD_eq_getElem?_getD, List.getElem?_eq_getElem hk']; rfl
 rw [hvi, hvk] at hE
 have hgi : gi ∈ bss.getD i [] := by
  obtain ⟨css2, bss2, -, e2⟩ := h1
  rw [e2]
  simp [blkN, Value.ownBlock]
 obtain ⟨b', h2, h3⟩ := OwnPt.cell RwO.good RwO.out (show OwnPt RwO 131 2 w base _ db[i].rows vss[i] k (bss.getD i []) from h1) hlv hk (t := 1) (by omega) hE (fun b hb hh => hn b hb (List.mem_append_right _ (mem_flatten_getD hh)))
 have h9 := h.inner DtP.good DtP.out (k := i) (by omega) (x := partL db[i].rows vss[i] (k + 1)) (bs := b') (w' := w.setCell ⟨gi, k * 2 + 1, none⟩ u) (by rw [hh css bss h]; exact ⟨_, rfl, h2⟩) hgi ⟨rfl, rfl, rfl, by simp [World.setCell], fun k hk hn => Below.heap_setCell _ _ _ _ (fun e => hn (by rw [e]))⟩ (fun b hb => by
  rcases h3 b hb with h4 | h4
  ·exact .inl h4
  ·exact .inr fun h5 => hn b h4 (List.mem_append_right _ h5))
 have e3 := stL_step db vss (k := k) hi
 rw [hvi] at e3
 rw [e3] at h9
 exact ⟨_, _, _, h9, rfl⟩
section
variable {α : Type} {Ts : List TypeId} {sz : Nat} {E : ElO α} {T : TypeId}
theorem OwnTr.cell1 (G : GoodO Ts 1 E) (hT : T ∉ Ts) {w : World} {base g c n : Nat} {xs : List α} {k : Nat} {bs bx : List Nat} {u : Value} {x : α} (h : OwnTr E T 1 w base (.slice (some ⟨g, 0, none⟩) n c) xs bs) (hl : n = xs.length) (hk : k < xs.length) (hE : E w base [u] x bx) (hn : ∀ b ∈ bx, b ∉ bs) :
  ∃ bs', OwnTr E T 1 (w.setCell ⟨g, k, none⟩ u) base (.slice (some ⟨g, 0, none⟩) n c) (xs.set k x) bs' := by
 obtain ⟨css, bss, h, rfl⟩ := h
 have hz : ∀ c ∈ css, c.length = 1 := fun c hc => by
  obtain ⟨i, hi, rfl⟩ := List.mem_iff_getElem.1 hc
  have := G.len (h.el i (by rw [← h.l1]; exact hi))
  rwa [List.getD_eq_getElem?_getD, List.getElem?_eq_getElem hi] at this
 subst hl
 obtain ⟨h1, h2⟩ := h.row.stored k u
 have h3 := flat_set1 hz (k := k) (t := 0) (by rw [h.l1]; exact hk) (by omega) u
 rw [Nat.mul_one, Nat.add_zero] at h3
 have h4 : (css.getD k []).set 0 u = [u] := by
  have h5 := G.len (h.el k hk)
  match css.getD k [], h5 with
  | [y], _ => rfl
 rw [h3, h4] at h1
 exact ⟨_, _, _, OwnN.put G hT h rfl hE (fun b hb hh => hn b hb (List.mem_append_right _ hh)) hk h1 h2, rfl⟩
theorem OwnTr.inls {w : World} {base : Nat} {v : Value} {xs : List α} {bs : List Nat} (h : OwnTr (PartO sz E) T sz w base v (xs.map .inl) bs) : OwnTr E T sz w base v xs bs := by
 obtain ⟨css, bss, h, rfl⟩ := h
 refine ⟨css, bss, ⟨by simpa using h.l1, by simpa using h.l2, by simpa using h.row, fun i hi => ?_, h.apart⟩, rfl⟩
 have := h.el i (by simpa using hi)
 rw [List.getElem_map] at this
 exact this
end
def mixL (db : List Dt) (vss : List (List (List Value))) : List (List (Rw ⊕ List Value) ⊕ List Value) := (List.zipWith (fun (d : Dt) vs => partL d.rows vs 0) db vss).map .inl ++ List.replicate (db.length - vss.length) (.inr [.slice none 0 0])
theorem mixL_len {db : List Dt} {vss : List (List (List Value))} (h : vss.length ≤ db.length) : (mixL db vss).length = db.length := by simp [mixL]; omega
theorem mixL_step {db : List Dt} {vss : List (List (List Value))} {k : Nat} (hk : vss.length = k) (h : k < db.length) (vs : List (List Value)) : (mixL db vss).set k (.inl (partL db[k].rows vs 0)) = mixL db (vss ++ [vs]) := by
 subst hk
 have h1 : (List.zipWith (fun (d : Dt) vs => partL d.rows vs 0) db (vss ++ [vs])) = List.zipWith (fun (d : Dt) vs => partL d.rows vs 0) db vss ++ [partL db[vss.length].rows vs 0] := by
  refine List.ext_getElem? fun j => ?_
  rw [List.getElem?_zipWith]
  by_cases hj : j < vss.length
  ·rw [List.getElem?_append_left hj, List.getElem?_append_left (by simp; omega), List.getElem?_zipWith]
  ·by_cases e : j = vss.length
   ·subst e
    rw [List.getElem?_append_right (Nat.le_refl _), List.getElem?_append_right (by simp; omega), List.getElem?_eq_getElem h]
    simp
    rw [Nat.min_eq_right (by omega)]
    simp
   ·rw [List.getElem?_append_right (by omega), List.getElem?_eq_none (l := [vs]) (by simp; omega), List.getElem?_eq_none (l := _ ++ [partL db[vss.length].rows vs 0]) (by simp; omega)]
    cases db[j]? <;> rfl
 unfold mixL
 rw [h1, List.map_append, List.set_append_right _ _ (by simp; omega), List.append_assoc]
 have h2 : vss.length - ((List.zipWith (fun (d : Dt) vs => partL d.rows vs 0) db vss).map (Sum.inl : _ → List (Rw ⊕ List Value) ⊕ List Value)).length = 0 := by simp; omega
 rw [h2, show db.length - vss.length = (db.length - (vss ++ [vs]).length) + 1 by simp; omega, List.replicate_succ]
 rfl
theorem mixL_end {db : List Dt} {vss : List (List (List Value))} (h : vss.length = db.length) : mixL db vss = (stL db vss 0 0).map .inl := by
 have h1 : (List.zipWith (fun (d : Dt) vs => partL d.rows vs 0) db vss) = stL db vss 0 0 := by
  refine List.ext_getElem (by simp [stL_len, h]) fun j h1 h2 => ?_
  have hj : j < db.length := by rw [stL_len] at h2; exact h2
  have hv : vss.getD j [] = vss[j]'(by omega) := by rw [List.getD_eq_getElem?_getD, List.getElem?_eq_getElem (by omega)]; rfl
  rw [List.getElem_zipWith, stL_get _ _ _ _ hj, if_neg (by omega), hv]
  by_cases e : j = 0
  ·rw [if_pos e]
  ·rw [if_neg e]
 unfold mixL
 rw [h1, h]
 simp
theorem OwnN.hdr {w : World} {base g c n : Nat} {L : List (List (Rw ⊕ List Value))} {css : List (List Value)} {bss : List (List Nat)} (h : OwnN DtP 89 1 w base (.slice (some ⟨g, 0, none⟩) n c) L css bss) {i : Nat} (hi : i < L.length) :
  ∃ A ci, css.getD i [] = [.slice A L[i].length ci] ∧ w.cell? ⟨g, i, none⟩ = some (.slice A L[i].length ci) ∧ OwnTr RwP 131 2 w base (.slice A L[i].length ci) L[i] (bss.getD i []) ∧ g ∉ bss.getD i [] := by
 obtain ⟨v, e, hv⟩ := h.el i hi
 obtain ⟨A, ci, rfl⟩ := hv.shape
 refine ⟨A, ci, e, ?_, hv, fun hh => h.out DtP.good DtP.out rfl (mem_flatten_getD hh)⟩
 rcases h.cells DtP.good with ⟨e2, rfl⟩ | ⟨g2, c2, e2, -, -, -, -, -, h6⟩
 ·simp at hi
 ·injection e2 with e2 _ _
  injection e2 with e2
  injection e2 with e2 _ _
  subst e2
  have := (h6 i hi).2 0 (.slice A L[i].length ci) (by rw [e]; rfl)
  simpa using this
theorem stL_len2 {db : List Dt} {vss : List (List (List Value))} (hv : vss.length = db.length) (hl : ∀ j (h : j < db.length) (h' : j < vss.length), vss[j].length = db[j].rows.length) {i k : Nat} (hi : i < db.length) (hk : k ≤ db[i].rows.length) (h : i < (stL db vss i k).length) : (stL db vss i k)[i].length = db[i].rows.length := by
 have hi' : i < vss.length := by omega
 have hvi : vss.getD i [] = vss[i] := by rw [List.getD_eq_getElem?_getD, List.getElem?_eq_getElem hi']; rfl
 rw [stL_get _ _ _ _ hi, if_neg (by omega), if_pos rfl, hvi, partL_len (hl i hi hi') hk]
theorem OwnTr.rowAt {w : World} {base g c n : Nat} {db : List Dt} {vss : List (List (List Value))} {i k : Nat} {bs : List Nat} (hv : vss.length = db.length) (hl : ∀ j (h : j < db.length) (h' : j < vss.length), vss[j].length = db[j].rows.length) (hi : i < db.length) (hk : k < db[i].rows.length)
  (h : OwnTr DtP 89 1 w base (.slice (some ⟨g, 0, none⟩) n c) (stL db vss i k) bs) :
  ∃ gi ci, w.cell? ⟨g, i, none⟩ = some (.slice (some ⟨gi, 0, none⟩) db[i].rows.length ci) ∧ base ≤ gi ∧ gi < w.heap.size ∧ gi ≠ g ∧ (∀ off, w.frozen? ⟨gi, off, none⟩ = false) ∧ ∀ t u, ((vss.getD i []).getD k [])[t]? = some u → w.cell? ⟨gi, k * 2 + t, none⟩ = some u := by
 obtain ⟨css, bss, h, rfl⟩ := h
 have hi2 : i < (stL db vss i k).length := by rw [stL_len]; exact hi
 have hi' : i < vss.length := by omega
 have hvi : vss.getD i [] = vss[i] := by rw [List.getD_eq_getElem?_getD, List.getElem?_eq_getElem hi']; rfl
 have hlv := hl i hi hi'
 have hvk : vss[i].getD k [] = vss[i][k]'(by omega) := by rw [List.getD_eq_getElem?_getD, List.getElem?_eq_getElem (by omega)]; rfl
 obtain ⟨A, ci, e1, e2, e3, e4⟩ := h.hdr hi2
 rw [stL_len2 hv hl hi (Nat.le_of_lt hk)] at e2 e3
 rw [stL_get _ _ _ _ hi, if_neg (by omega), if_pos rfl, hvi] at e3
 obtain ⟨gi, cc, ev, -, -, hg1, hg2, hg3, hfr, hcell⟩ := OwnPt.at_ RwO.good (show OwnPt RwO 131 2 w base _ db[i].rows vss[i] k (bss.getD i []) from e3) hlv hk
 obtain ⟨rfl, rfl⟩ : A = some ⟨gi, 0, none⟩ ∧ ci = cc := by cases ev; exact ⟨rfl, rfl⟩
 refine ⟨gi, ci, e2, hg1, hg2, fun e => e4 (e ▸ hg3), hfr, fun t u hu => hcell t u ?_⟩
 rw [hvi, hvk] at hu
 exact hu
theorem OwnTr.headAt {w : World} {base g c n : Nat} {db : List Dt} {vss : List (List (List Value))} {i k : Nat} {bs : List Nat} (hv : vss.length = db.length) (hl : ∀ j (h : j < db.length) (h' : j < vss.length), vss[j].length = db[j].rows.length) (hi : i < db.length) (hk : k ≤ db[i].rows.length)
  (h : OwnTr DtP 89 1 w base (.slice (some ⟨g, 0, none⟩) n c) (stL db vss i k) bs) : ∃ A ci, w.cell? ⟨g, i, none⟩ = some (.slice A db[i].rows.length ci) := by
 obtain ⟨css, bss, h, rfl⟩ := h
 have hi2 : i < (stL db vss i k).length := by rw [stL_len]; exact hi
 obtain ⟨A, ci, e1, e2, -⟩ := h.hdr hi2
 rw [stL_len2 hv hl hi hk] at e2
 exact ⟨A, ci, e2⟩
theorem OwnTr.layRow {w : World} {base g c n gi ci : Nat} {db : List Dt} {vss : List (List (List Value))} {i k : Nat} {bs bx : List Nat} {u : Value} (hv : vss.length = db.length) (hl : ∀ j (h : j < db.length) (h' : j < vss.length), vss[j].length = db[j].rows.length) (hi : i < db.length) (hk : k < db[i].rows.length)
  (h : OwnTr DtP 89 1 w base (.slice (some ⟨g, 0, none⟩) n c) (stL db vss i k) bs) (hh : w.cell? ⟨g, i, none⟩ = some (.slice (some ⟨gi, 0, none⟩) db[i].rows.length ci))
  (hE : RwO w base (((vss.getD i []).getD k []).set 1 u) db[i].rows[k] bx) (hn : ∀ b ∈ bx, b ∉ bs) :
  ∃ bs', OwnTr DtP 89 1 (w.setCell ⟨gi, k * 2 + 1, none⟩ u) base (.slice (some ⟨g, 0, none⟩) n c) (stL db vss i (k + 1)) bs' :=
 OwnTr.layVals hv hl hi hk h (fun css bss h' => by
  have hi2 : i < (stL db vss i k).length := by rw [stL_len]; exact hi
  obtain ⟨A, ci', e1, e2, -⟩ := h'.hdr hi2
  rw [hh] at e2
  rw [e1]
  injection e2 with e2
  rw [e2]) hE hn
end Go.Proofs.YthamekdjfoepmaaGreat
namespace Go.Proofs.YthamekdjfoepmaaGreat
open Go.RowKit
def Lows {α : Type} (R : Rd α) : Prop := ∀ (ok : Nat → Prop) (w : World) (cs : List Value) (d : α), R ok w cs d → R (fun b => b < w.heap.size) w cs d
theorem Sl.lows {α : Type} {R : Rd α} (hR : Lows R) {sz : Nat} (hz : 0 < sz) {ok : Nat → Prop} {w : World} {A : Option Addr} {n : Nat} {ds : List α} (h : Sl R sz ok w A n ds) : Sl R sz (fun b => b < w.heap.size) w A n ds :=
 ⟨h.1, fun hn => by
  obtain ⟨b, off, e, hb, hi⟩ := h.2 hn
  refine ⟨b, off, e, ?_, fun i hlt => ?_⟩
  ·obtain ⟨cs, h1, h2, h3⟩ := hi 0 (by have := h.1; omega)
   exact cell_lt (h3 0 _ (List.getElem?_eq_getElem (by omega)))
  ·obtain ⟨cs, h1, h2, h3⟩ := hi i hlt
   exact ⟨cs, h1, hR _ _ _ _ h2, h3⟩⟩
theorem FlatR.lows {α : Type} (f : α → List Value) : Lows (FlatR f) := fun _ _ _ _ h => h
theorem RwR.lows : Lows RwR := fun _ _ _ _ ⟨A0, n0, c0, e, h0, hcp⟩ => ⟨A0, n0, c0, e, h0.lows (FlatR.lows _) (by omega), hcp⟩
theorem DtR.lows : Lows DtR := fun _ _ _ _ ⟨A0, n0, c0, e, h0, hcp⟩ => ⟨A0, n0, c0, e, h0.lows RwR.lows (by omega), hcp⟩
theorem Sl.low {α : Type} {R : Rd α} (hR : Stays R) {sz n0 : Nat} {w W : World} {A : Option Addr} {n : Nat} {ds : List α} (h : Sl R sz (fun b => b < n0) w A n ds) (hb : Below n0 w W) : Sl R sz (fun b => b < n0) W A n ds :=
 h.stays hR (fun _ h => h) fun p v hp hc => (hb.cell hp).trans hc
def CameK (ok : Nat → Prop) (w : World) (db : List Dt) (vss : List (List (List Value))) : Prop := ∀ j (h : j < db.length) (h' : j < vss.length), vss[j].length = db[j].rows.length ∧ ∀ k (hk : k < db[j].rows.length) (hk' : k < vss[j].length), RwR ok w vss[j][k] db[j].rows[k]
theorem CameK.app {ok : Nat → Prop} {w : World} {db : List Dt} {vss : List (List (List Value))} {vs : List (List Value)} {k : Nat} (h : CameK ok w db vss) (hk : vss.length = k) (hkd : k < db.length) (h1 : vs.length = db[k].rows.length) (h2 : ∀ i (hi : i < db[k].rows.length) (hi' : i < vs.length), RwR ok w vs[i] db[k].rows[i]) : CameK ok w db (vss ++ [vs]) := fun j hj hj' => by
 subst hk
 by_cases e : j < vss.length
 ·rw [List.getElem_append_left e]
  exact h j hj e
 ·have e2 : j = vss.length := by simp at hj'; omega
  subst e2
  have e3 : (vss ++ [vs])[vss.length] = vs := by simp
  rw [e3]
  exact ⟨h1, fun i hi hi' => h2 i hi hi'⟩
theorem CameK.low {N : Nat} {w w' : World} {db : List Dt} {vss : List (List (List Value))} (h : CameK (· < N) w db vss) (hb : Below N w w') : CameK (· < N) w' db vss := fun j hj hj' => ⟨(h j hj hj').1, fun k hk hk' => RwR.stays _ _ _ _ _ _ ((h j hj hj').2 k hk hk') (fun _ h => h) fun p v hp hc => (hb.cell hp).trans hc⟩
theorem rawZero (w : World) (base : Nat) : PartO 1 DtP w base [.slice none 0 0] (.inr [.slice none 0 0]) [] := by
 refine ⟨rfl, rfl, fun u hu => ?_, rfl⟩
 rw [List.mem_singleton] at hu
 subst hu
 rfl
set_option maxRecDepth 100000 in
set_option maxHeartbeats 4000000 in
theorem implCopyLists (A : Option Addr) (n c : Nat) (db : List Dt) (ok : Nat → Prop) (w : World) (h : Sl DtR 1 ok w A n db) (hn : n ≤ 1048576) (hrn : ∀ d ∈ db, d.rows.length ≤ 1048576) :
  Calls Tryz.prog 79 #[.slice A n c] w fun e w' => ∃ vss bs, e = .returned (.slice (some ⟨w.heap.size, 0, none⟩) n n) ∧ vss.length = db.length ∧ CameK (· < w.heap.size) w' db vss ∧ OwnTr DtP 89 1 w' w.heap.size (.slice (some ⟨w.heap.size, 0, none⟩) n n) (stL db vss 0 0) bs ∧ Below w.heap.size w w' := by
 obtain rfl : db.length = n := h.1
 have HRN := Lib.hid hrn
 clear hrn
 replace h := h.lows DtR.lows (by omega)
 have hmk : ∀ w, (Instr.makeSlice 25 (.int .i64 (db.length : Int)) (.int .i64 (db.length : Int))).run Tryz.prog w = .ok (.slice (some ⟨w.heap.size, 0, none⟩) db.length db.length) (w.alloc (.cells (madeCells #[.slice none 0 0] (db.length * 1)) 89)) := fun w => mk_rows (P := Tryz.prog) Tryz.underlying25 infoDataR (by omega) db.length hn w
 have ho0 := OwnL.made (E := PartO 1 DtP) (T := 89) (sz := 1) w (Nat.le_refl w.heap.size) db.length #[.slice none 0 0] (by simp) rfl (.inr [.slice none 0 0]) (fun w' => rawZero w' _) (by unfold maxLen; omega)
 have hz := (Below.refl w.heap.size w).alloc (Nat.le_refl _) (.cells (madeCells #[.slice none 0 0] (db.length * 1)) 89)
 obtain ⟨bs0, ho0⟩ := ho0.b
 have HP := Lib.hid (show ∃ (vss : List (List (List Value))) (bs : List Nat), vss.length = 0 ∧ CameK (· < w.heap.size) (w.alloc (.cells (madeCells #[.slice none 0 0] (db.length * 1)) 89)) db vss ∧ OwnTr (PartO 1 DtP) 89 1 (w.alloc (.cells (madeCells #[.slice none 0 0] (db.length * 1)) 89)) w.heap.size (.slice (some ⟨w.heap.size, 0, none⟩) db.length db.length) (mixL db vss) bs from ⟨[], bs0, rfl, fun j _ h' => by simp at h', by
  have e : mixL db [] = List.replicate db.length (.inr [.slice none 0 0]) := by simp [mixL]
  rw [e]
  exact ho0⟩)
 clear ho0
 rw [Nat.mul_one] at hmk HP hz
 go_enter Tryz.func79, Tryz.ntmps79
 go_wp2_with fail
 generalize w.alloc (.cells (madeCells #[.slice none 0 0] db.length) 89) = z at *
 clear hmk
 go_loopw [10] (fun i wr => ∃ k : Nat, k ≤ db.length ∧ i = .int .i64 k ∧ Hid (∃ (vss : List (List (List Value))) (bs : List Nat), vss.length = k ∧ CameK (· < w.heap.size) wr db vss ∧ OwnTr (PartO 1 DtP) 89 1 wr w.heap.size (.slice (some ⟨w.heap.size, 0, none⟩) db.length db.length) (mixL db vss) bs) ∧ Hid (Below w.heap.size w wr)) (fun i _ => db.length - (intOf i).toNat)
 case atStart => exact ⟨0, by omega, rfl, HP, Lib.hid hz⟩
 case round =>
 clear HP hz
 obtain ⟨k, hk, rfl, hP, hB⟩ := hrel
 by_cases hlt : k < db.length
 ·obtain ⟨vss, bs, hvl, hCm, hO⟩ := hP.out
  obtain ⟨bd, od, AL, nL, cL, -, e3, p0, hrw, -⟩ := DtR.at_ h hlt
  obtain rfl : db[k].rows.length = nL := hrw.1
  subst e3
  have i1 : (0 : Int) ≤ k := by omega
  have i2 : (k : Int) < db.length := by omega
  have q0 := below_keep hB.out _ _ p0
  have HR := Lib.hid hrw
  have hrn := HRN.out _ (List.getElem_mem hlt)
  have HO := Lib.hid hO
  have HCM := Lib.hid hCm
  have HVL := Lib.hid hvl
  have hB' := hB.out
  clear hP hCm hO hvl hrw p0
  go_wp2_with fail
  refine (ownCloneRow AL _ cL db[k].rows (· < w.heap.size) wr (HR.out.low RwR.stays hB') (by omega)).mono ?_
  rintro e w2 ⟨v1, vs, b1, rfl, l1, o1, e1, k1⟩
  obtain ⟨B, d, rfl⟩ := o1.shape l1 (Nat.zero_le _)
  have hml := mixL_len (db := db) (vss := vss) (by rw [HVL.out]; omega)
  have hO2 := OwnTr.below (PartO.good DtP.good) HO.out k1
  obtain ⟨css, bss, hOn, eb⟩ := hO2
  have hcells : ∃ u, w2.cell? ⟨w.heap.size, k, none⟩ = some u := by
   rcases hOn.cells (PartO.good DtP.good) with ⟨e2, e4⟩ | ⟨g2, c2, e2, -, -, -, -, -, h6⟩
   ·rw [e4] at hml; simp at hml; omega
   ·injection e2 with e2 _ _
    injection e2 with e2
    injection e2 with e2 _ _
    obtain ⟨h7, h8⟩ := h6 k (by rw [hml]; exact hlt)
    have h9 := h8 0 ((css.getD k [])[0]'(by omega)) (by rw [List.getElem?_eq_getElem])
    rw [← e2] at h9
    exact ⟨_, by simpa using h9⟩
  obtain ⟨u, y0⟩ := hcells
  have y1 : w2.frozen? ⟨w.heap.size, k, none⟩ = false := World.ownsRow.frozenAt (n := db.length) (by have := hOn.row; rwa [hml] at this) k
  have hE : PartO 1 DtP w2 w.heap.size [.slice B db[k].rows.length d] (.inl (partL db[k].rows vs 0)) b1 := ⟨_, rfl, OwnTr.mono (PartO.good RwO.good) o1 hB'.size⟩
  have HN := Lib.hid (OwnTr.cell1 (PartO.good DtP.good) DtP.out ⟨css, bss, hOn, eb⟩ (by rw [hml]) (by rw [hml]; exact hlt) hE (fun b hb hh => by have h1 := (OwnTr.lt (PartO.good DtP.good) HO.out b hh).2; have h2 := (OwnPt.lt RwO.good o1 b hb).1; omega))
  have hbN : Below w.heap.size wr (w2.setCell ⟨w.heap.size, k, none⟩ (.slice B db[k].rows.length d)) := (k1.mono hB'.size).setCell (p := ⟨w.heap.size, k, none⟩) (Nat.le_refl _) _
  have HCN := Lib.hid ((HCM.out.app HVL.out hlt l1 e1).low hbN)
  have HB2 := Lib.hid ((hB'.trans (k1.mono hB'.size)).setCell (p := ⟨w.heap.size, k, none⟩) (Nat.le_refl _) (.slice B db[k].rows.length d))
  clear hE hOn o1 e1 k1 hB' hB HO eb hbN
  go_wp2_with fail
  go_roundw
  case rel => exact ⟨k + 1, by omega, by go_num, Lib.hid (by
   obtain ⟨bs', h1⟩ := HN.out
   rw [mixL_step HVL.out hlt vs] at h1
   exact ⟨_, bs', by simp [HVL.out], HCN.out, h1⟩), HB2⟩
  case measure => simp [intOf]; omega
 ·obtain rfl : k = db.length := by omega
  obtain ⟨vss, bs, hvl, hCm, hO⟩ := hP.out
  go_wp2_with fail
  go_ret
  rw [mixL_end hvl] at hO
  exact ⟨vss, bs, rfl, hvl, hCm, OwnTr.inls hO, hB.out⟩
set_option maxRecDepth 100000 in
set_option maxHeartbeats 4000000 in
theorem implCopyDb (A : Option Addr) (n c : Nat) (db : List Dt) (ok : Nat → Prop) (w : World) (h : Sl DtR 1 ok w A n db) (hn : n ≤ 1048576) (hrn : ∀ d ∈ db, d.rows.length ≤ 1048576) (hvn : ∀ d ∈ db, ∀ r ∈ d.rows, r.vals.length ≤ 1048576) :
  Calls Tryz.prog 48 #[.slice A n c] w fun e w' => ∃ v bs, e = .returned v ∧ OwnTr DtO 89 1 w' w.heap.size v db bs ∧ Below w.heap.size w w' := by
 obtain rfl : db.length = n := h.1
 have HVN := Lib.hid hvn
 have HRN := Lib.hid hrn
 clear hvn
 go_enter Tryz.func48, Tryz.ntmps48
 go_wp2_with fail
 refine (implCopyLists A _ c db ok w h hn hrn).mono ?_
 rintro e w1 ⟨vss, b1, rfl, hv, hCm, hO, hB⟩
 have HV := Lib.hid hv
 have HL := Lib.hid (show ∀ j (h : j < db.length) (h' : j < vss.length), vss[j].length = db[j].rows.length from fun j h h' => (hCm j h h').1)
 have HO := Lib.hid (Exists.intro b1 hO)
 have HCM := Lib.hid hCm
 have HB := Lib.hid hB
 clear hv hCm hO hB h
 go_wp2_with fail
 go_loopw [11] (fun iv wr => ∃ i : Nat, i ≤ db.length ∧ iv = .int .i64 i ∧ Hid (∃ bs, OwnTr DtP 89 1 wr w.heap.size (.slice (some ⟨w.heap.size, 0, none⟩) db.length db.length) (stL db vss i 0) bs) ∧ Hid (CameK (· < w.heap.size) wr db vss) ∧ Hid (Below w.heap.size w wr)) (fun iv _ => db.length - (intOf iv).toNat)
 case atStart => exact ⟨0, by omega, rfl, HO, HCM, HB⟩
 case round =>
 clear HO HCM HB
 obtain ⟨wo, hwo⟩ : ∃ wo, wo = wr := ⟨_, rfl⟩
 subst hwo
 obtain ⟨i, hi, rfl, hO, hC, hB⟩ := hrel
 by_cases hlt : i < db.length
 ·have hrl := HRN.out _ (List.getElem_mem hlt)
  obtain ⟨bs, hO'⟩ := hO.out
  obtain ⟨A0, c0, hh⟩ := hO'.headAt HV.out HL.out hlt (Nat.zero_le _)
  have i1 : (0 : Int) ≤ i := by omega
  have i2 : (i : Int) < db.length := by omega
  clear hO'
  go_wp2_with fail
  go_loopw [20] (fun kv wr => ∃ k : Nat, k ≤ db[i].rows.length ∧ kv = .int .i64 k ∧ Hid (∃ bs, OwnTr DtP 89 1 wr w.heap.size (.slice (some ⟨w.heap.size, 0, none⟩) db.length db.length) (stL db vss i k) bs) ∧ Hid (CameK (· < w.heap.size) wr db vss) ∧ Hid (Below w.heap.size w wr)) (fun kv _ => db[i].rows.length - (intOf kv).toNat)
  case atStart => exact ⟨0, by omega, rfl, hO, hC, hB⟩
  case round =>
   clear hO hC hB hh
   obtain ⟨k, hk, rfl, hO, hC, hB⟩ := hrel
   by_cases hkt : k < db[i].rows.length
   ·obtain ⟨bs', hO'⟩ := hO.out
    obtain ⟨gi, ci, hh, hg1, hg2, hg3, hfr, hcell⟩ := hO'.rowAt HV.out HL.out hlt hkt
    have hiv : i < vss.length := by rw [HV.out]; exact hlt
    have hkv : k < vss[i].length := by rw [HL.out i hlt hiv]; exact hkt
    have hvi : vss.getD i [] = vss[i] := by rw [List.getD_eq_getElem?_getD, List.getElem?_eq_getElem hiv]; rfl
    have hvk : vss[i].getD k [] = vss[i][k] := by rw [List.getD_eq_getElem?_getD, List.getElem?_eq_getElem hkv]; rfl
    obtain ⟨Av, nv, cv, evk, hvv, -⟩ := (hC.out i hlt hiv).2 k hkt hkv
    obtain rfl : db[i].rows[k].vals.length = nv := hvv.1
    have q1 : wr.cell? ⟨gi, k * 2 + 1, none⟩ = some (.slice Av db[i].rows[k].vals.length cv) := hcell 1 _ (by rw [hvi, hvk, evk]; rfl)
    have f1 := hfr (k * 2 + 1)
    have k1 : (0 : Int) ≤ k := by omega
    have k2 : (k : Int) < db[i].rows.length := by omega
    have HO := Lib.hid hO'
    have HHH := Lib.hid hh
    have HG := Lib.hid hg1
    have HG3 := Lib.hid hg3
    have HVV := Lib.hid hvv
    have HVK := Lib.hid (show (vss.getD i []).getD k [] = [.int .i64 db[i].rows[k].id, .slice Av db[i].rows[k].vals.length cv] by rw [hvi, hvk, evk])
    have hvl : db[i].rows[k].vals.length ≤ 1073741824 := by have := HVN.out _ (List.getElem_mem hlt) _ (List.getElem_mem hkt); omega
    clear hO hO' hg1 hg2 hg3 hfr hcell hvv evk hvi hvk
    go_wp2_with fail
    refine (ownCloneVal Av _ cv db[i].rows[k].vals _ wr HVV.out hvl).mono ?_
    rintro e w2 ⟨v2, b2, rfl, o2, k3⟩
    obtain ⟨B, d, rfl⟩ := o2.shape
    have q1' := below_keep k3 _ _ q1
    have f1' := (World.frozen?_of_block (w := wr) (k3.block gi (cell_lt q1))).trans f1
    have hO2 := OwnTr.below DtP.good HO.out k3
    have hh2 := below_keep k3 _ _ HHH.out
    have hE : RwO w2 w.heap.size (((vss.getD i []).getD k []).set 1 (.slice B db[i].rows[k].vals.length d)) db[i].rows[k] b2 := by
     rw [HVK.out]
     exact ⟨_, b2, rfl, o2.mono VlO.good hB.out.size, by simp, o2.nodup VlO.good VlO.out⟩
    have HN := Lib.hid (OwnTr.layRow HV.out HL.out hlt hkt hO2 hh2 hE (fun b hb hh => by have h1 := (OwnTr.lt DtP.good HO.out b hh).2; have h2 := (o2.lt VlO.good b hb).1; omega))
    have hbN : Below w.heap.size wr (w2.setCell ⟨gi, k * 2 + 1, none⟩ (.slice B db[i].rows[k].vals.length d)) := (k3.mono hB.out.size).setCell (p := ⟨gi, k * 2 + 1, none⟩) HG.out _
    have HCN := Lib.hid (hC.out.low hbN)
    have HBN := Lib.hid (hB.out.trans hbN)
    clear hE hO2 hh2 o2 k3 hbN q1 f1 hC hB hh HO
    go_wp2_with fail
    go_roundw
    case rel => exact ⟨k + 1, by omega, by go_num, HN, HCN, HBN⟩
    case measure => simp [intOf]; omega
   ·obtain rfl : k = db[i].rows.length := by omega
    rw [stL_next db vss hlt] at hO
    go_wp2_with fail
    go_roundw
    case rel => exact ⟨i + 1, by omega, by go_num, hO, hC, hB⟩
    case measure => simp [intOf]; omega
 ·obtain rfl : i = db.length := by omega
  obtain ⟨bs, hO'⟩ := hO.out
  go_wp2_with fail
  go_ret
  exact ⟨_, bs, rfl, OwnTr.dbDone HV.out HL.out hO', hB.out⟩
end Go.Proofs.YthamekdjfoepmaaGreat
namespace Go.Proofs.YthamekdjfoepmaaGreat
open Go.RowKit
def m3 (k : Nat) : Bool := (k : Int) % 3 == 0
structure EW (b o hi : Nat) (bs : List Nat) (wr W : World) (cs : List Value) : Prop where
 nm : NM b o hi bs wr W
 at_ : cellsAt W b o cs
 lt : b < W.heap.size
 fr : ∀ x, W.frozen? ⟨b, x, none⟩ = false
section
variable {b o hi : Nat} {bs : List Nat} {wr W W' : World} {cs : List Value}
theorem EW.start (h : cellsAt wr b o cs) (hl : b < wr.heap.size) (hf : ∀ x, wr.frozen? ⟨b, x, none⟩ = false) : EW b o hi bs wr wr cs := ⟨NM.refl _ _ _ _ _, h, hl, hf⟩
theorem EW.turn {l : List Nat} (h : EW b o hi bs wr W cs) (hk : KeptL l W W') (hl : ∀ x ∈ l, x ∈ bs) (hn : b ∉ bs) : EW b o hi bs wr W' cs :=
 ⟨⟨h.nm.kept.trans (hk.mono fun x hx => List.mem_cons_of_mem _ (hl x hx)), fun o' ho v hv => (World.cell?_of_block (w := W) (hk.block b h.lt fun hh => hn (hl b hh))).trans (h.nm.same o' ho v hv)⟩, fun t v hv => hk.far (fun hh => hn (hl b hh)) (h.at_ t v hv), Nat.lt_of_lt_of_le h.lt hk.size, fun x => (hk.frozen ⟨b, x, none⟩ h.lt).trans (h.fr x)⟩
theorem EW.below (h : EW b o hi bs wr W cs) (hb : Below W.heap.size W W') (hn : b ∉ bs) : EW b o hi bs wr W' cs := h.turn (l := []) (KeptL.below hb) (fun x hx => by cases hx) hn
theorem EW.set {cs' : List Value} {p : Addr} {u u' : Value} (t : Nat) (h : EW b o hi bs wr W cs) (hp : p = ⟨b, o + t, none⟩) (ht : t < cs.length) (hh : o + t < hi) (hu : u = u') (hc : cs' = cs.set t u') : EW b o hi bs wr (W.setCell p u) cs' := by
 subst hp
 subst hu
 subst hc
 refine ⟨h.nm.set rfl (by omega) hh, fun s v hv => ?_, by simpa [World.setCell] using h.lt, fun x => (frozen_setCell _ _ _ _).trans (h.fr x)⟩
 by_cases e : s = t
 ·subst e
  rw [List.getElem?_set_self ht] at hv
  cases hv
  exact World.cell?_setCell_same _ _ _ (h.at_ s _ (List.getElem?_eq_getElem ht))
 ·rw [List.getElem?_set_ne (fun hh => e hh.symm)] at hv
  exact (World.cell?_setCell_other _ _ _ _ (by intro hh; simp only [Addr.mk.injEq] at hh; omega)).trans (h.at_ s v hv)
theorem EW.cell (h : EW b o hi bs wr W cs) (t : Nat) (u : Value) (hu : cs[t]? = some u) : W.cell? ⟨b, o + t, none⟩ = some u := h.at_ t u hu
end
def ApartL (l : List (List Nat)) : Prop := ∀ i j x, x ∈ l.getD i [] → x ∈ l.getD j [] → i = j
theorem ApartL.of {bss : List (List Nat)} (h : bss.flatten.Nodup) : ApartL bss := fun i j x hx hj => by
 have hi : i < bss.length := by
  rcases Nat.lt_or_ge i bss.length with h1 | h1
  ·exact h1
  ·rw [List.getD_eq_getElem?_getD, List.getElem?_eq_none h1] at hx; simp at hx
 have hjl : j < bss.length := by
  rcases Nat.lt_or_ge j bss.length with h1 | h1
  ·exact h1
  ·rw [List.getD_eq_getElem?_getD, List.getElem?_eq_none h1] at hj; simp at hj
 rw [List.getD_eq_getElem?_getD, List.getElem?_eq_getElem hi] at hx
 rw [List.getD_eq_getElem?_getD, List.getElem?_eq_getElem hjl] at hj
 have hp := (List.pairwise_iff_getElem.1 (List.pairwise_flatten.1 h).2)
 rcases Nat.lt_trichotomy i j with h1 | h1 | h1
 ·exact absurd rfl (hp i j hi hjl h1 x hx x hj)
 ·exact h1
 ·exact absurd rfl (hp j i hjl hi h1 x hj x hx)
def IntS : ElS := fun w cs cnt bs => ∃ (u0 : Value), cs = [u0] ∧ cnt = 1 ∧ bs = []
def IntH : ElH := fun w k cs cnt bs => cs = [.int .i64 ((k : Nat) : Int)] ∧ cnt = 1 ∧ bs = []
theorem IntS.stay : StayS IntS := fun _ _ _ _ _ _ h _ _ => h
theorem IntH.stay : StayH IntH := fun _ _ _ _ _ _ _ h _ _ => h
theorem IntO.toS {w : World} {base : Nat} {cs : List Value} {x : Int} {bs : List Nat} (h : IntO w base cs x bs) : IntS w cs ((fun _ : Int => 1) x) bs := by
 obtain ⟨rfl, rfl⟩ := h
 exact ⟨_, rfl, rfl, rfl⟩
def TkS : ElS := fun w cs cnt bs => ∃ (u0 : Value) (u1 : Value) (u2 : Value) (u3 : Value) (u4 : Value), cs = [u0, u1, u2, u3, u4] ∧ cnt = 5 ∧ bs = []
def TkH : ElH := fun w k cs cnt bs => cs = [.int .i64 ((k : Nat) : Int), .int .i64 ((k + 1 : Nat) : Int), .int .i64 ((k + 2 : Nat) : Int), .int .i64 ((k + 3 : Nat) : Int), .string (mtx (k + 4))] ∧ cnt = 5 ∧ bs = []
theorem TkS.stay : StayS TkS := fun _ _ _ _ _ _ h _ _ => h
theorem TkH.stay : StayH TkH := fun _ _ _ _ _ _ _ h _ _ => h
theorem TkO.toS {w : World} {base : Nat} {cs : List Value} {x : Tk} {bs : List Nat} (h : TkO w base cs x bs) : TkS w cs ((fun _ : Tk => 5) x) bs := by
 obtain ⟨rfl, rfl⟩ := h
 exact ⟨_, _, _, _, _, rfl, rfl, rfl⟩
def VlS : ElS := fun w cs cnt bs => ∃ (u0 : Value) (u1 : Value) (u2 : Value), cs = [u0, u1, u2] ∧ cnt = 3 ∧ bs = []
def VlH : ElH := fun w k cs cnt bs => cs = [.int .i64 ((k : Nat) : Int), .int .i64 ((k + 1 : Nat) : Int), .string (mtx (k + 2))] ∧ cnt = 3 ∧ bs = []
theorem VlS.stay : StayS VlS := fun _ _ _ _ _ _ h _ _ => h
theorem VlH.stay : StayH VlH := fun _ _ _ _ _ _ _ h _ _ => h
theorem VlO.toS {w : World} {base : Nat} {cs : List Value} {x : Vl} {bs : List Nat} (h : VlO w base cs x bs) : VlS w cs ((fun _ : Vl => 3) x) bs := by
 obtain ⟨rfl, rfl⟩ := h
 exact ⟨_, _, _, rfl, rfl, rfl⟩
def ClS : ElS := fun w cs cnt bs => ∃ (u0 : Value) (u1 : Value) (u2 : Value) (u3 : Value) (u4 : Value) (u5 : Value), cs = [u0, u1, u2, u3, u4, u5] ∧ cnt = 6 ∧ bs = []
def ClH : ElH := fun w k cs cnt bs => cs = [.string (mtx (k)), .int .i64 ((k + 1 : Nat) : Int), .bool (m3 (k + 2)), .int .i64 ((k + 3 : Nat) : Int), .int .i64 ((k + 4 : Nat) : Int), .string (mtx (k + 5))] ∧ cnt = 6 ∧ bs = []
theorem ClS.stay : StayS ClS := fun _ _ _ _ _ _ h _ _ => h
theorem ClH.stay : StayH ClH := fun _ _ _ _ _ _ _ h _ _ => h
theorem ClO.toS {w : World} {base : Nat} {cs : List Value} {x : Cl} {bs : List Nat} (h : ClO w base cs x bs) : ClS w cs ((fun _ : Cl => 6) x) bs := by
 obtain ⟨rfl, rfl⟩ := h
 exact ⟨_, _, _, _, _, _, rfl, rfl, rfl⟩
def UqS : ElS := fun w cs cnt bs => ∃ (A0 : Option Addr) (n0 c0 : Nat) (a0 b0 : List Nat), cs = [.slice A0 n0 c0] ∧ cnt = a0.sum ∧ bs = [b0].flatten ∧ ApartL [b0] ∧ ShL IntS 1 w A0 n0 a0 b0
def UqH : ElH := fun w k cs cnt bs => ∃ (A0 : Option Addr) (n0 c0 : Nat) (a0 b0 : List Nat), cs = [.slice A0 n0 c0] ∧ cnt = a0.sum ∧ bs = [b0].flatten ∧ ApartL [b0] ∧ HdL IntH 1 w (k) A0 n0 a0 b0
theorem UqS.stay : StayS UqS := fun w w' cs cnt bs bs' ⟨A0, n0, c0, a0, b0, e, e1, e2, e3, h0⟩ hk hd => ⟨A0, n0, c0, a0, b0, e, e1, e2, e3, h0.stay IntS.stay hk (fun x hx => hd x (by rw [e2]; exact mem_flatten_getD (bss := [b0]) (i := 0) hx))⟩
theorem UqH.stay : StayH UqH := fun w w' k cs cnt bs bs' ⟨A0, n0, c0, a0, b0, e, e1, e2, e3, h0⟩ hk hd => ⟨A0, n0, c0, a0, b0, e, e1, e2, e3, h0.stay IntH.stay hk (fun x hx => hd x (by rw [e2]; exact mem_flatten_getD (bss := [b0]) (i := 0) hx))⟩
theorem UqO.toS {w : World} {base : Nat} {cs : List Value} {x : Uq} {bs : List Nat} (h : UqO w base cs x bs) (hx : x.sz ≤ 1048576) : UqS w cs x.cnt bs := by
 obtain ⟨v0, b0, e, h0, e2, hn⟩ := h
 subst e2
 have l0 : x.cols.length ≤ x.sz := by unfold Uq.sz; omega
 obtain ⟨A0, c0, rfl, p0⟩ := h0.sh (cnt := (fun _ : Int => 1)) IntO.good IntO.out (by omega) (fun cs x bs hm h => IntO.toS h)
 exact ⟨A0, _, c0, _, b0, e, rfl, rfl, ApartL.of hn, p0⟩
def CkS : ElS := fun w cs cnt bs => ∃ (A0 : Option Addr) (n0 c0 : Nat) (a0 b0 : List Nat), cs = [.slice A0 n0 c0] ∧ cnt = a0.sum ∧ bs = [b0].flatten ∧ ApartL [b0] ∧ ShL TkS 5 w A0 n0 a0 b0
def CkH : ElH := fun w k cs cnt bs => ∃ (A0 : Option Addr) (n0 c0 : Nat) (a0 b0 : List Nat), cs = [.slice A0 n0 c0] ∧ cnt = a0.sum ∧ bs = [b0].flatten ∧ ApartL [b0] ∧ HdL TkH 5 w (k) A0 n0 a0 b0
theorem CkS.stay : StayS CkS := fun w w' cs cnt bs bs' ⟨A0, n0, c0, a0, b0, e, e1, e2, e3, h0⟩ hk hd => ⟨A0, n0, c0, a0, b0, e, e1, e2, e3, h0.stay TkS.stay hk (fun x hx => hd x (by rw [e2]; exact mem_flatten_getD (bss := [b0]) (i := 0) hx))⟩
theorem CkH.stay : StayH CkH := fun w w' k cs cnt bs bs' ⟨A0, n0, c0, a0, b0, e, e1, e2, e3, h0⟩ hk hd => ⟨A0, n0, c0, a0, b0, e, e1, e2, e3, h0.stay TkH.stay hk (fun x hx => hd x (by rw [e2]; exact mem_flatten_getD (bss := [b0]) (i := 0) hx))⟩
theorem CkO.toS {w : World} {base : Nat} {cs : List Value} {x : Ck} {bs : List Nat} (h : CkO w base cs x bs) (hx : x.sz ≤ 1048576) : CkS w cs x.cnt bs := by
 obtain ⟨v0, b0, e, h0, e2, hn⟩ := h
 subst e2
 have l0 : x.expr.length ≤ x.sz := by unfold Ck.sz; unfold szL; omega
 obtain ⟨A0, c0, rfl, p0⟩ := h0.sh (cnt := (fun _ : Tk => 5)) TkO.good TkO.out (by omega) (fun cs x bs hm h => TkO.toS h)
 exact ⟨A0, _, c0, _, b0, e, rfl, rfl, ApartL.of hn, p0⟩
def FkS : ElS := fun w cs cnt bs => ∃ (u1 : Value) (u2 : Value) (u3 : Value) (u4 : Value) (A0 : Option Addr) (n0 c0 : Nat) (a0 b0 : List Nat), cs = [.slice A0 n0 c0, u1, u2, u3, u4] ∧ cnt = 4 + a0.sum ∧ bs = [b0].flatten ∧ ApartL [b0] ∧ ShL IntS 1 w A0 n0 a0 b0
def FkH : ElH := fun w k cs cnt bs => ∃ (A0 : Option Addr) (n0 c0 : Nat) (a0 b0 : List Nat), cs = [.slice A0 n0 c0, .string (mtx (k + a0.sum)), .int .i64 ((k + a0.sum + 1 : Nat) : Int), .int .i64 ((k + a0.sum + 2 : Nat) : Int), .bool (m3 (k + a0.sum + 3))] ∧ cnt = 4 + a0.sum ∧ bs = [b0].flatten ∧ ApartL [b0] ∧ HdL IntH 1 w (k) A0 n0 a0 b0
theorem FkS.stay : StayS FkS := fun w w' cs cnt bs bs' ⟨u1, u2, u3, u4, A0, n0, c0, a0, b0, e, e1, e2, e3, h0⟩ hk hd => ⟨u1, u2, u3, u4, A0, n0, c0, a0, b0, e, e1, e2, e3, h0.stay IntS.stay hk (fun x hx => hd x (by rw [e2]; exact mem_flatten_getD (bss := [b0]) (i := 0) hx))⟩
theorem FkH.stay : StayH FkH := fun w w' k cs cnt bs bs' ⟨A0, n0, c0, a0, b0, e, e1, e2, e3, h0⟩ hk hd => ⟨A0, n0, c0, a0, b0, e, e1, e2, e3, h0.stay IntH.stay hk (fun x hx => hd x (by rw [e2]; exact mem_flatten_getD (bss := [b0]) (i := 0) hx))⟩
theorem FkO.toS {w : World} {base : Nat} {cs : List Value} {x : Fk} {bs : List Nat} (h : FkO w base cs x bs) (hx : x.sz ≤ 1048576) : FkS w cs x.cnt bs := by
 obtain ⟨v0, b0, e, h0, e2, hn⟩ := h
 subst e2
 have l0 : x.cols.length ≤ x.sz := by unfold Fk.sz; omega
 obtain ⟨A0, c0, rfl, p0⟩ := h0.sh (cnt := (fun _ : Int => 1)) IntO.good IntO.out (by omega) (fun cs x bs hm h => IntO.toS h)
 exact ⟨_, _, _, _, A0, _, c0, _, b0, e, rfl, rfl, ApartL.of hn, p0⟩
def TbS : ElS := fun w cs cnt bs => ∃ (u0 : Value) (A1 : Option Addr) (n1 c1 : Nat) (a1 b1 : List Nat) (A2 : Option Addr) (n2 c2 : Nat) (a2 b2 : List Nat) (A3 : Option Addr) (n3 c3 : Nat) (a3 b3 : List Nat) (A4 : Option Addr) (n4 c4 : Nat) (a4 b4 : List Nat) (A5 : Option Addr) (n5 c5 : Nat) (a5 b5 : List Nat), cs = [u0, .slice A1 n1 c1, .slice A2 n2 c2, .slice A3 n3 c3, .slice A4 n4 c4, .slice A5 n5 c5] ∧ cnt = 1 + a1.sum + a2.sum + a3.sum + a4.sum + a5.sum ∧ bs = [b1, b2, b3, b4, b5].flatten ∧ ApartL [b1, b2, b3, b4, b5] ∧ ShL ClS 6 w A1 n1 a1 b1 ∧ ShL IntS 1 w A2 n2 a2 b2 ∧ ShL UqS 1 w A3 n3 a3 b3 ∧ ShL CkS 1 w A4 n4 a4 b4 ∧ ShL FkS 5 w A5 n5 a5 b5
def TbH : ElH := fun w k cs cnt bs => ∃ (A1 : Option Addr) (n1 c1 : Nat) (a1 b1 : List Nat) (A2 : Option Addr) (n2 c2 : Nat) (a2 b2 : List Nat) (A3 : Option Addr) (n3 c3 : Nat) (a3 b3 : List Nat) (A4 : Option Addr) (n4 c4 : Nat) (a4 b4 : List Nat) (A5 : Option Addr) (n5 c5 : Nat) (a5 b5 : List Nat), cs = [.string (mtx (k)), .slice A1 n1 c1, .slice A2 n2 c2, .slice A3 n3 c3, .slice A4 n4 c4, .slice A5 n5 c5] ∧ cnt = 1 + a1.sum + a2.sum + a3.sum + a4.sum + a5.sum ∧ bs = [b1, b2, b3, b4, b5].flatten ∧ ApartL [b1, b2, b3, b4, b5] ∧ HdL ClH 6 w (k + 1) A1 n1 a1 b1 ∧ HdL IntH 1 w (k + 1 + a1.sum) A2 n2 a2 b2 ∧ HdL UqH 1 w (k + 1 + a1.sum + a2.sum) A3 n3 a3 b3 ∧ HdL CkH 1 w (k + 1 + a1.sum + a2.sum + a3.sum) A4 n4 a4 b4 ∧ HdL FkH 5 w (k + 1 + a1.sum + a2.sum + a3.sum + a4.sum) A5 n5 a5 b5
theorem TbS.stay : StayS TbS := fun w w' cs cnt bs bs' ⟨u0, A1, n1, c1, a1, b1, A2, n2, c2, a2, b2, A3, n3, c3, a3, b3, A4, n4, c4, a4, b4, A5, n5, c5, a5, b5, e, e1, e2, e3, h1, h2, h3, h4, h5⟩ hk hd => ⟨u0, A1, n1, c1, a1, b1, A2, n2, c2, a2, b2, A3, n3, c3, a3, b3, A4, n4, c4, a4, b4, A5, n5, c5, a5, b5, e, e1, e2, e3, h1.stay ClS.stay hk (fun x hx => hd x (by rw [e2]; exact mem_flatten_getD (bss := [b1, b2, b3, b4, b5]) (i := 0) hx)), h2.stay IntS.stay hk (fun x hx => hd x (by rw [e2]; exact mem_flatten_getD (bss := [b1, b2, b3, b4, b5]) (i := 1) hx)), h3.stay UqS.stay hk (fun x hx => hd x (by rw [e2]; exact mem_flatten_getD (bss := [b1, b2, b3, b4, b5]) (i := 2) hx)), h4.stay CkS.stay hk (fun x hx => hd x (by rw [e2]; exact mem_flatten_getD (bss := [b1, b2, b3, b4, b5]) (i := 3) hx)), h5.stay FkS.stay hk (fun x hx => hd x (by rw [e2]; exact mem_flatten_getD (bss := [b1, b2, b3, b4, b5]) (i := 4) hx))⟩
theorem TbH.stay : StayH TbH := fun w w' k cs cnt bs bs' ⟨A1, n1, c1, a1, b1, A2, n2, c2, a2, b2, A3, n3, c3, a3, b3, A4, n4, c4, a4, b4, A5, n5, c5, a5, b5, e, e1, e2, e3, h1, h2, h3, h4, h5⟩ hk hd => ⟨A1, n1, c1, a1, b1, A2, n2, c2, a2, b2, A3, n3, c3, a3, b3, A4, n4, c4, a4, b4, A5, n5, c5, a5, b5, e, e1, e2, e3, h1.stay ClH.stay hk (fun x hx => hd x (by rw [e2]; exact mem_flatten_getD (bss := [b1, b2, b3, b4, b5]) (i := 0) hx)), h2.stay IntH.stay hk (fun x hx => hd x (by rw [e2]; exact mem_flatten_getD (bss := [b1, b2, b3, b4, b5]) (i := 1) hx)), h3.stay UqH.stay hk (fun x hx => hd x (by rw [e2]; exact mem_flatten_getD (bss := [b1, b2, b3, b4, b5]) (i := 2) hx)), h4.stay CkH.stay hk (fun x hx => hd x (by rw [e2]; exact mem_flatten_getD (bss := [b1, b2, b3, b4, b5]) (i := 3) hx)), h5.stay FkH.stay hk (fun x hx => hd x (by rw [e2]; exact mem_flatten_getD (bss := [b1, b2, b3, b4, b5]) (i := 4) hx))⟩
theorem TbO.toS {w : World} {base : Nat} {cs : List Value} {x : Tb} {bs : List Nat} (h : TbO w base cs x bs) (hx : x.sz ≤ 1048576) : TbS w cs x.cnt bs := by
 obtain ⟨v1, b1, v2, b2, v3, b3, v4, b4, v5, b5, e, h1, h2, h3, h4, h5, e2, hn⟩ := h
 subst e2
 have l1 : x.cols.length ≤ x.sz := by unfold Tb.sz; unfold szL; omega
 obtain ⟨A1, c1, rfl, p1⟩ := h1.sh (cnt := (fun _ : Cl => 6)) ClO.good ClO.out (by omega) (fun cs x bs hm h => ClO.toS h)
 have l2 : x.key.length ≤ x.sz := by unfold Tb.sz; omega
 obtain ⟨A2, c2, rfl, p2⟩ := h2.sh (cnt := (fun _ : Int => 1)) IntO.good IntO.out (by omega) (fun cs x bs hm h => IntO.toS h)
 have l3 : x.uniqs.length ≤ x.sz := by unfold Tb.sz; unfold szL; omega
 have g3 : ∀ y ∈ x.uniqs, y.sz ≤ 1048576 := fun y hy => by have h1 := szL_mem Uq.sz x.uniqs y hy; unfold Tb.sz at hx; omega
 obtain ⟨A3, c3, rfl, p3⟩ := h3.sh (cnt := Uq.cnt) UqO.good UqO.out (by omega) (fun cs x bs hm h => UqO.toS h (g3 x hm))
 have l4 : x.checks.length ≤ x.sz := by unfold Tb.sz; unfold szL; omega
 have g4 : ∀ y ∈ x.checks, y.sz ≤ 1048576 := fun y hy => by have h1 := szL_mem Ck.sz x.checks y hy; unfold Tb.sz at hx; omega
 obtain ⟨A4, c4, rfl, p4⟩ := h4.sh (cnt := Ck.cnt) CkO.good CkO.out (by omega) (fun cs x bs hm h => CkO.toS h (g4 x hm))
 have l5 : x.fks.length ≤ x.sz := by unfold Tb.sz; unfold szL; omega
 have g5 : ∀ y ∈ x.fks, y.sz ≤ 1048576 := fun y hy => by have h1 := szL_mem Fk.sz x.fks y hy; unfold Tb.sz at hx; omega
 obtain ⟨A5, c5, rfl, p5⟩ := h5.sh (cnt := Fk.cnt) FkO.good FkO.out (by omega) (fun cs x bs hm h => FkO.toS h (g5 x hm))
 exact ⟨_, A1, _, c1, _, b1, A2, _, c2, _, b2, A3, _, c3, _, b3, A4, _, c4, _, b4, A5, _, c5, _, b5, e, rfl, rfl, ApartL.of hn, p1, p2, p3, p4, p5⟩
def RwS : ElS := fun w cs cnt bs => ∃ (u0 : Value) (A1 : Option Addr) (n1 c1 : Nat) (a1 b1 : List Nat), cs = [u0, .slice A1 n1 c1] ∧ cnt = 1 + a1.sum ∧ bs = [b1].flatten ∧ ApartL [b1] ∧ ShL VlS 3 w A1 n1 a1 b1
def RwH : ElH := fun w k cs cnt bs => ∃ (A1 : Option Addr) (n1 c1 : Nat) (a1 b1 : List Nat), cs = [.int .i64 ((k : Nat) : Int), .slice A1 n1 c1] ∧ cnt = 1 + a1.sum ∧ bs = [b1].flatten ∧ ApartL [b1] ∧ HdL VlH 3 w (k + 1) A1 n1 a1 b1
theorem RwS.stay : StayS RwS := fun w w' cs cnt bs bs' ⟨u0, A1, n1, c1, a1, b1, e, e1, e2, e3, h1⟩ hk hd => ⟨u0, A1, n1, c1, a1, b1, e, e1, e2, e3, h1.stay VlS.stay hk (fun x hx => hd x (by rw [e2]; exact mem_flatten_getD (bss := [b1]) (i := 0) hx))⟩
theorem RwH.stay : StayH RwH := fun w w' k cs cnt bs bs' ⟨A1, n1, c1, a1, b1, e, e1, e2, e3, h1⟩ hk hd => ⟨A1, n1, c1, a1, b1, e, e1, e2, e3, h1.stay VlH.stay hk (fun x hx => hd x (by rw [e2]; exact mem_flatten_getD (bss := [b1]) (i := 0) hx))⟩
theorem RwO.toS {w : World} {base : Nat} {cs : List Value} {x : Rw} {bs : List Nat} (h : RwO w base cs x bs) (hx : x.sz ≤ 1048576) : RwS w cs x.cnt bs := by
 obtain ⟨v1, b1, e, h1, e2, hn⟩ := h
 subst e2
 have l1 : x.vals.length ≤ x.sz := by unfold Rw.sz; unfold szL; omega
 obtain ⟨A1, c1, rfl, p1⟩ := h1.sh (cnt := (fun _ : Vl => 3)) VlO.good VlO.out (by omega) (fun cs x bs hm h => VlO.toS h)
 exact ⟨_, A1, _, c1, _, b1, e, rfl, rfl, ApartL.of hn, p1⟩
def DtS : ElS := fun w cs cnt bs => ∃ (A0 : Option Addr) (n0 c0 : Nat) (a0 b0 : List Nat), cs = [.slice A0 n0 c0] ∧ cnt = a0.sum ∧ bs = [b0].flatten ∧ ApartL [b0] ∧ ShL RwS 2 w A0 n0 a0 b0
def DtH : ElH := fun w k cs cnt bs => ∃ (A0 : Option Addr) (n0 c0 : Nat) (a0 b0 : List Nat), cs = [.slice A0 n0 c0] ∧ cnt = a0.sum ∧ bs = [b0].flatten ∧ ApartL [b0] ∧ HdL RwH 2 w (k) A0 n0 a0 b0
theorem DtS.stay : StayS DtS := fun w w' cs cnt bs bs' ⟨A0, n0, c0, a0, b0, e, e1, e2, e3, h0⟩ hk hd => ⟨A0, n0, c0, a0, b0, e, e1, e2, e3, h0.stay RwS.stay hk (fun x hx => hd x (by rw [e2]; exact mem_flatten_getD (bss := [b0]) (i := 0) hx))⟩
theorem DtH.stay : StayH DtH := fun w w' k cs cnt bs bs' ⟨A0, n0, c0, a0, b0, e, e1, e2, e3, h0⟩ hk hd => ⟨A0, n0, c0, a0, b0, e, e1, e2, e3, h0.stay RwH.stay hk (fun x hx => hd x (by rw [e2]; exact mem_flatten_getD (bss := [b0]) (i := 0) hx))⟩
theorem DtO.toS {w : World} {base : Nat} {cs : List Value} {x : Dt} {bs : List Nat} (h : DtO w base cs x bs) (hx : x.sz ≤ 1048576) : DtS w cs x.cnt bs := by
 obtain ⟨v0, b0, e, h0, e2, hn⟩ := h
 subst e2
 have l0 : x.rows.length ≤ x.sz := by unfold Dt.sz; unfold szL; omega
 have g0 : ∀ y ∈ x.rows, y.sz ≤ 1048576 := fun y hy => by have h1 := szL_mem Rw.sz x.rows y hy; unfold Dt.sz at hx; omega
 obtain ⟨A0, c0, rfl, p0⟩ := h0.sh (cnt := Rw.cnt) RwO.good RwO.out (by omega) (fun cs x bs hm h => RwO.toS h (g0 x hm))
 exact ⟨A0, _, c0, _, b0, e, rfl, rfl, ApartL.of hn, p0⟩
def SvS : ElS := fun w cs cnt bs => ∃ (u0 : Value) (A1 : Option Addr) (n1 c1 : Nat) (a1 b1 : List Nat), cs = [u0, .slice A1 n1 c1] ∧ cnt = 1 + a1.sum ∧ bs = [b1].flatten ∧ ApartL [b1] ∧ ShL DtS 1 w A1 n1 a1 b1
def SvH : ElH := fun w k cs cnt bs => ∃ (A1 : Option Addr) (n1 c1 : Nat) (a1 b1 : List Nat), cs = [.string (mtx (k)), .slice A1 n1 c1] ∧ cnt = 1 + a1.sum ∧ bs = [b1].flatten ∧ ApartL [b1] ∧ HdL DtH 1 w (k + 1) A1 n1 a1 b1
theorem SvS.stay : StayS SvS := fun w w' cs cnt bs bs' ⟨u0, A1, n1, c1, a1, b1, e, e1, e2, e3, h1⟩ hk hd => ⟨u0, A1, n1, c1, a1, b1, e, e1, e2, e3, h1.stay DtS.stay hk (fun x hx => hd x (by rw [e2]; exact mem_flatten_getD (bss := [b1]) (i := 0) hx))⟩
theorem SvH.stay : StayH SvH := fun w w' k cs cnt bs bs' ⟨A1, n1, c1, a1, b1, e, e1, e2, e3, h1⟩ hk hd => ⟨A1, n1, c1, a1, b1, e, e1, e2, e3, h1.stay DtH.stay hk (fun x hx => hd x (by rw [e2]; exact mem_flatten_getD (bss := [b1]) (i := 0) hx))⟩
theorem SvO.toS {w : World} {base : Nat} {cs : List Value} {x : Sv} {bs : List Nat} (h : SvO w base cs x bs) (hx : x.sz ≤ 1048576) : SvS w cs x.cnt bs := by
 obtain ⟨v1, b1, e, h1, e2, hn⟩ := h
 subst e2
 have l1 : x.db.length ≤ x.sz := by unfold Sv.sz; unfold szL; omega
 have g1 : ∀ y ∈ x.db, y.sz ≤ 1048576 := fun y hy => by have h1 := szL_mem Dt.sz x.db y hy; unfold Sv.sz at hx; omega
 obtain ⟨A1, c1, rfl, p1⟩ := h1.sh (cnt := Dt.cnt) DtO.good DtO.out (by omega) (fun cs x bs hm h => DtO.toS h (g1 x hm))
 exact ⟨_, A1, _, c1, _, b1, e, rfl, rfl, ApartL.of hn, p1⟩
end Go.Proofs.YthamekdjfoepmaaGreat
namespace Go.Proofs.YthamekdjfoepmaaGreat
open Go.RowKit
set_option maxRecDepth 100000 in
set_option maxHeartbeats 2000000 in
theorem marksOInt (A : Option Addr) (n c : Nat) (cnts bs : List Nat) (k : Nat) (w : World) (h : ShL IntS 1 w A n cnts bs) (hk : k + cnts.sum ≤ 1073741824) {x : Int} (hx : x = k) :
  Calls Tryz.prog 24 #[.slice A n c, .int .i64 x] w fun e w' => e = .returned (.int .i64 ((k + cnts.sum : Nat) : Int)) ∧ KeptL bs w w' ∧ HdL IntH 1 w' k A n cnts bs := by
 have hn := h.1
 obtain ⟨hl, P, hP0, hP, hPn⟩ := h.walk IntS.stay IntH.stay k
 subst hx
 clear h
 go_enter Tryz.func24, Tryz.ntmps24
 go_wp2_with fail
 go_loopw [1, 5] (fun m i wr => ∃ (j : Nat), j ≤ n ∧ i = .int .i64 j ∧ m = .int .i64 ((k + (cnts.take j).sum : Nat) : Int) ∧ Hid (P j wr)) (fun _ i _ => n - (intOf i).toNat)
 case atStart => exact ⟨0, by omega, rfl, by simp, Lib.hid hP0⟩
 case round =>
  obtain ⟨i, hi, rfl, rfl, hI⟩ := hrel
  by_cases hlt : i < n
  ·obtain ⟨b, off, bs', cs, rfl, hfr, hbs, hcl, ⟨u0, rfl, hcn, rfl⟩, hat, hb, hnext⟩ := hP i wr hlt hI.out
   have E0 := Lib.hid (show EW b (off + i * 1) (off + (i + 1) * 1) ([]) wr wr [u0] from EW.start hat hbs hfr)
   have q0_E0 : World.cell? wr ⟨b, off + i, none⟩ = some (u0) := by have := E0.out.cell 0 _ rfl; rwa [Nat.mul_one] at this
   have f0_E0 := E0.out.fr (off + i)
   obtain ⟨hs1, hs2⟩ := sums_step hl hlt
   have HN := Lib.hid (show ∀ W cs', EW b (off + i * 1) (off + (i + 1) * 1) ([]) wr W cs' → cs'.length = 1 → IntH W (k + (cnts.take i).sum) cs' (cnts.getD i 0) ([]) → P (i + 1) W from fun W cs' e h1 h2 => hnext W cs' e.nm h1 h2 e.at_)
   generalize hkk : (cnts.take i).sum = s at *
   generalize hcc : cnts.getD i 0 = cn at *
   subst hcn
   have i0 : (0 : Int) ≤ i := by omega
   have i1 : (i : Int) < n := by omega
   have hle : k + s + (1) ≤ 1073741824 := by omega
   clear hnext hfr hat hP hPn hI
   go_wp2_with fail
   go_roundw
   case rel =>
    refine ⟨i + 1, by omega, by go_num, by rw [hs1]; exact congrArg (Value.int .i64) (by omega), Lib.hid ?_⟩
    refine HN.out _ [.int .i64 ((k + s : Nat) : Int)] ?_ rfl ⟨rfl, rfl, rfl⟩
    refine EW.set (cs := [u0]) 0 ?_ (by simp) (by simp) (by omega) (by first | rfl | exact congrArg (Value.int .i64) (by omega)) rfl
    exact E0.out
   case measure => simp [intOf]; omega
  ·obtain rfl : i = n := by omega
   have hR := hPn _ hI.out
   rw [sums_all hl]
   go_wp2_with fail
   go_ret
   exact ⟨rfl, hR.1, hR.2⟩
set_option maxRecDepth 100000 in
set_option maxHeartbeats 2000000 in
theorem heldOInt (A : Option Addr) (n c : Nat) (cnts bs : List Nat) (k : Nat) (w : World) (h : HdL IntH 1 w k A n cnts bs) (hk : k + cnts.sum ≤ 1073741824) {x : Int} (hx : x = k) :
  Calls Tryz.prog 59 #[.slice A n c, .int .i64 x] w fun e w' => e = .returned (.int .i64 ((k + cnts.sum : Nat) : Int)) ∧ Below w.heap.size w w' := by
 have hn := h.1
 have hl := h.len
 subst hx
 have HH := Lib.hid h
 clear h
 go_enter Tryz.func59, Tryz.ntmps59
 go_wp2_with fail
 go_loopw [1, 5] (fun m i wr => ∃ (j : Nat), j ≤ n ∧ i = .int .i64 j ∧ m = .int .i64 ((k + (cnts.take j).sum : Nat) : Int) ∧ Below w.heap.size w wr) (fun _ i _ => n - (intOf i).toNat)
 case atStart => exact ⟨0, by omega, rfl, by simp, Below.refl _ _⟩
 case round =>
  obtain ⟨i, hi, rfl, rfl, hb⟩ := hrel
  by_cases hlt : i < n
  ·obtain ⟨b, off, bs', cs, rfl, hcl, ⟨rfl, hcn, rfl⟩, hat⟩ := (HH.out.below IntH.stay hb).elem hlt
   obtain ⟨hs1, hs2⟩ := sums_step hl hlt
   generalize hkk : (cnts.take i).sum = s at *
   generalize hcc : cnts.getD i 0 = cn at *
   subst hcn
   have q0 : wr.cell? ⟨b, off + i, none⟩ = some (.int .i64 ((k + s : Nat) : Int)) := by have := hat 0 _ rfl; rwa [Nat.mul_one] at this
   have i0 : (0 : Int) ≤ i := by omega
   have i1 : (i : Int) < n := by omega
   have hle : k + s + (1) ≤ 1073741824 := by omega
   clear hat
   have hz0 := hb
   go_wp2_with fail
   go_roundw
   case rel => exact ⟨i + 1, by omega, by go_num, by rw [hs1]; exact congrArg (Value.int .i64) (by omega), hz0⟩
   case measure => simp [intOf]; omega
  ·obtain rfl : i = n := by omega
   rw [sums_all hl]
   go_wp2_with fail
   go_ret
   exact ⟨rfl, hb⟩
set_option maxRecDepth 100000 in
set_option maxHeartbeats 2000000 in
theorem marksOTk (A : Option Addr) (n c : Nat) (cnts bs : List Nat) (k : Nat) (w : World) (h : ShL TkS 5 w A n cnts bs) (hk : k + cnts.sum ≤ 1073741824) {x : Int} (hx : x = k) :
  Calls Tryz.prog 56 #[.slice A n c, .int .i64 x] w fun e w' => e = .returned (.int .i64 ((k + cnts.sum : Nat) : Int)) ∧ KeptL bs w w' ∧ HdL TkH 5 w' k A n cnts bs := by
 have hn := h.1
 obtain ⟨hl, P, hP0, hP, hPn⟩ := h.walk TkS.stay TkH.stay k
 subst hx
 clear h
 go_enter Tryz.func56, Tryz.ntmps56
 go_wp2_with fail
 go_loopw [1, 5] (fun m i wr => ∃ (j : Nat), j ≤ n ∧ i = .int .i64 j ∧ m = .int .i64 ((k + (cnts.take j).sum : Nat) : Int) ∧ Hid (P j wr)) (fun _ i _ => n - (intOf i).toNat)
 case atStart => exact ⟨0, by omega, rfl, by simp, Lib.hid hP0⟩
 case round =>
  obtain ⟨i, hi, rfl, rfl, hI⟩ := hrel
  by_cases hlt : i < n
  ·obtain ⟨b, off, bs', cs, rfl, hfr, hbs, hcl, ⟨u0, u1, u2, u3, u4, rfl, hcn, rfl⟩, hat, hb, hnext⟩ := hP i wr hlt hI.out
   have E0 := Lib.hid (show EW b (off + i * 5) (off + (i + 1) * 5) ([]) wr wr [u0, u1, u2, u3, u4] from EW.start hat hbs hfr)
   have q0_E0 : World.cell? wr ⟨b, off + i * 5, none⟩ = some (u0) := E0.out.cell 0 _ rfl
   have f0_E0 := E0.out.fr (off + i * 5)
   have q1_E0 : World.cell? wr ⟨b, off + i * 5 + 1, none⟩ = some (u1) := E0.out.cell 1 _ rfl
   have f1_E0 := E0.out.fr (off + i * 5 + 1)
   have q2_E0 : World.cell? wr ⟨b, off + i * 5 + 2, none⟩ = some (u2) := E0.out.cell 2 _ rfl
   have f2_E0 := E0.out.fr (off + i * 5 + 2)
   have q3_E0 : World.cell? wr ⟨b, off + i * 5 + 3, none⟩ = some (u3) := E0.out.cell 3 _ rfl
   have f3_E0 := E0.out.fr (off + i * 5 + 3)
   have q4_E0 : World.cell? wr ⟨b, off + i * 5 + 4, none⟩ = some (u4) := E0.out.cell 4 _ rfl
   have f4_E0 := E0.out.fr (off + i * 5 + 4)
   obtain ⟨hs1, hs2⟩ := sums_step hl hlt
   have HN := Lib.hid (show ∀ W cs', EW b (off + i * 5) (off + (i + 1) * 5) ([]) wr W cs' → cs'.length = 5 → TkH W (k + (cnts.take i).sum) cs' (cnts.getD i 0) ([]) → P (i + 1) W from fun W cs' e h1 h2 => hnext W cs' e.nm h1 h2 e.at_)
   generalize hkk : (cnts.take i).sum = s at *
   generalize hcc : cnts.getD i 0 = cn at *
   subst hcn
   have i0 : (0 : Int) ≤ i := by omega
   have i1 : (i : Int) < n := by omega
   have hle : k + s + (5) ≤ 1073741824 := by omega
   clear hnext hfr hat hP hPn hI
   go_wp2_with fail
   refine (lawsMarkText (k + s + 4) _ (by omega) (by omega)).mono ?_
   rintro e w1 ⟨rfl, hb1⟩
   have kk1 : KeptL [b] wr w1 := (by refine KeptL.set ?_ (List.mem_singleton.2 rfl); refine KeptL.set ?_ (List.mem_singleton.2 rfl); refine KeptL.set ?_ (List.mem_singleton.2 rfl); refine KeptL.set ?_ (List.mem_singleton.2 rfl); exact KeptL.refl _ _ : KeptL [b] _ _).trans (KeptL.below hb1)
   have E1 := Lib.hid (show EW b (off + i * 5) (off + (i + 1) * 5) ([]) wr w1 [.int .i64 ((k + s : Nat) : Int), .int .i64 ((k + s + 1 : Nat) : Int), .int .i64 ((k + s + 2 : Nat) : Int), .int .i64 ((k + s + 3 : Nat) : Int), u4] from EW.below (EW.set (cs' := [.int .i64 ((k + s : Nat) : Int), .int .i64 ((k + s + 1 : Nat) : Int), .int .i64 ((k + s + 2 : Nat) : Int), .int .i64 ((k + s + 3 : Nat) : Int), u4]) 3 (EW.set (cs' := [.int .i64 ((k + s : Nat) : Int), .int .i64 ((k + s + 1 : Nat) : Int), .int .i64 ((k + s + 2 : Nat) : Int), u3, u4]) 2 (EW.set (cs' := [.int .i64 ((k + s : Nat) : Int), .int .i64 ((k + s + 1 : Nat) : Int), u2, u3, u4]) 1 (EW.set (cs' := [.int .i64 ((k + s : Nat) : Int), u1, u2, u3, u4]) 0 E0.out (by simp) (by simp) (by omega) (by first | rfl | exact congrArg (Value.int .i64) (by omega)) rfl) (by simp) (by simp) (by omega) (by first | rfl | exact congrArg (Value.int .i64) (by omega)) rfl) (by simp) (by simp) (by omega) (by first | rfl | exact congrArg (Value.int .i64) (by omega)) rfl) (by simp) (by simp) (by omega) (by first | rfl | exact congrArg (Value.int .i64) (by omega)) rfl) hb1 hb)
   clear kk1 hb1 q0_E0 f0_E0 q1_E0 f1_E0 q2_E0 f2_E0 q3_E0 f3_E0 q4_E0 f4_E0
   have q4_E1 : World.cell? w1 ⟨b, off + i * 5 + 4, none⟩ = some (u4) := E1.out.cell 4 _ rfl
   have f4_E1 := E1.out.fr (off + i * 5 + 4)
   go_wp2_with fail
   go_roundw
   case rel =>
    refine ⟨i + 1, by omega, by go_num, by rw [hs1]; exact congrArg (Value.int .i64) (by omega), Lib.hid ?_⟩
    refine HN.out _ [.int .i64 ((k + s : Nat) : Int), .int .i64 ((k + s + 1 : Nat) : Int), .int .i64 ((k + s + 2 : Nat) : Int), .int .i64 ((k + s + 3 : Nat) : Int), .string (mtx (k + s + 4))] ?_ rfl ⟨rfl, rfl, rfl⟩
    refine EW.set (cs := [.int .i64 ((k + s : Nat) : Int), .int .i64 ((k + s + 1 : Nat) : Int), .int .i64 ((k + s + 2 : Nat) : Int), .int .i64 ((k + s + 3 : Nat) : Int), u4]) 4 ?_ (by simp) (by simp) (by omega) rfl rfl
    exact E1.out
   case measure => simp [intOf]; omega
  ·obtain rfl : i = n := by omega
   have hR := hPn _ hI.out
   rw [sums_all hl]
   go_wp2_with fail
   go_ret
   exact ⟨rfl, hR.1, hR.2⟩
set_option maxRecDepth 100000 in
set_option maxHeartbeats 2000000 in
theorem heldOTk (A : Option Addr) (n c : Nat) (cnts bs : List Nat) (k : Nat) (w : World) (h : HdL TkH 5 w k A n cnts bs) (hk : k + cnts.sum ≤ 1073741824) {x : Int} (hx : x = k) :
  Calls Tryz.prog 87 #[.slice A n c, .int .i64 x] w fun e w' => e = .returned (.int .i64 ((k + cnts.sum : Nat) : Int)) ∧ Below w.heap.size w w' := by
 have hn := h.1
 have hl := h.len
 subst hx
 have HH := Lib.hid h
 clear h
 go_enter Tryz.func87, Tryz.ntmps87
 go_wp2_with fail
 go_loopw [1, 5] (fun m i wr => ∃ (j : Nat), j ≤ n ∧ i = .int .i64 j ∧ m = .int .i64 ((k + (cnts.take j).sum : Nat) : Int) ∧ Below w.heap.size w wr) (fun _ i _ => n - (intOf i).toNat)
 case atStart => exact ⟨0, by omega, rfl, by simp, Below.refl _ _⟩
 case round =>
  obtain ⟨i, hi, rfl, rfl, hb⟩ := hrel
  by_cases hlt : i < n
  ·obtain ⟨b, off, bs', cs, rfl, hcl, ⟨rfl, hcn, rfl⟩, hat⟩ := (HH.out.below TkH.stay hb).elem hlt
   obtain ⟨hs1, hs2⟩ := sums_step hl hlt
   generalize hkk : (cnts.take i).sum = s at *
   generalize hcc : cnts.getD i 0 = cn at *
   subst hcn
   have q0 : wr.cell? ⟨b, off + i * 5, none⟩ = some (.int .i64 ((k + s : Nat) : Int)) := hat 0 _ rfl
   have q1 : wr.cell? ⟨b, off + i * 5 + 1, none⟩ = some (.int .i64 ((k + s + 1 : Nat) : Int)) := hat 1 _ rfl
   have q2 : wr.cell? ⟨b, off + i * 5 + 2, none⟩ = some (.int .i64 ((k + s + 2 : Nat) : Int)) := hat 2 _ rfl
   have q3 : wr.cell? ⟨b, off + i * 5 + 3, none⟩ = some (.int .i64 ((k + s + 3 : Nat) : Int)) := hat 3 _ rfl
   have q4 : wr.cell? ⟨b, off + i * 5 + 4, none⟩ = some (.string (mtx (k + s + 4))) := hat 4 _ rfl
   have i0 : (0 : Int) ≤ i := by omega
   have i1 : (i : Int) < n := by omega
   have hle : k + s + (5) ≤ 1073741824 := by omega
   clear hat
   have hz0 := hb
   go_wp2_with fail
   go_region_held3 (fun w' => w'.cell? ⟨b, off + i * 5 + 4, none⟩ = some (.string (mtx (k + s + 4))))
    (first | go_keep | exact below_keep hb1 _ _ (by assumption))
    (first | (go_at_call 22; refine (lawsMarkText (k + s + 4) _ (by omega) (by omega)).mono ?_; rintro e w1 ⟨rfl, hb1⟩))
   have hz1 := (hz0.drew).trans (hb1.mono hz0.size)
   go_wp2_with fail
   go_roundw
   case rel => exact ⟨i + 1, by omega, by go_num, by rw [hs1]; exact congrArg (Value.int .i64) (by omega), hz1⟩
   case measure => simp [intOf]; omega
  ·obtain rfl : i = n := by omega
   rw [sums_all hl]
   go_wp2_with fail
   go_ret
   exact ⟨rfl, hb⟩
set_option maxRecDepth 100000 in
set_option maxHeartbeats 2000000 in
theorem marksOVl (A : Option Addr) (n c : Nat) (cnts bs : List Nat) (k : Nat) (w : World) (h : ShL VlS 3 w A n cnts bs) (hk : k + cnts.sum ≤ 1073741824) {x : Int} (hx : x = k) :
  Calls Tryz.prog 86 #[.slice A n c, .int .i64 x] w fun e w' => e = .returned (.int .i64 ((k + cnts.sum : Nat) : Int)) ∧ KeptL bs w w' ∧ HdL VlH 3 w' k A n cnts bs := by
 have hn := h.1
 obtain ⟨hl, P, hP0, hP, hPn⟩ := h.walk VlS.stay VlH.stay k
 subst hx
 clear h
 go_enter Tryz.func86, Tryz.ntmps86
 go_wp2_with fail
 go_loopw [1, 5] (fun m i wr => ∃ (j : Nat), j ≤ n ∧ i = .int .i64 j ∧ m = .int .i64 ((k + (cnts.take j).sum : Nat) : Int) ∧ Hid (P j wr)) (fun _ i _ => n - (intOf i).toNat)
 case atStart => exact ⟨0, by omega, rfl, by simp, Lib.hid hP0⟩
 case round =>
  obtain ⟨i, hi, rfl, rfl, hI⟩ := hrel
  by_cases hlt : i < n
  ·obtain ⟨b, off, bs', cs, rfl, hfr, hbs, hcl, ⟨u0, u1, u2, rfl, hcn, rfl⟩, hat, hb, hnext⟩ := hP i wr hlt hI.out
   have E0 := Lib.hid (show EW b (off + i * 3) (off + (i + 1) * 3) ([]) wr wr [u0, u1, u2] from EW.start hat hbs hfr)
   have q0_E0 : World.cell? wr ⟨b, off + i * 3, none⟩ = some (u0) := E0.out.cell 0 _ rfl
   have f0_E0 := E0.out.fr (off + i * 3)
   have q1_E0 : World.cell? wr ⟨b, off + i * 3 + 1, none⟩ = some (u1) := E0.out.cell 1 _ rfl
   have f1_E0 := E0.out.fr (off + i * 3 + 1)
   have q2_E0 : World.cell? wr ⟨b, off + i * 3 + 2, none⟩ = some (u2) := E0.out.cell 2 _ rfl
   have f2_E0 := E0.out.fr (off + i * 3 + 2)
   obtain ⟨hs1, hs2⟩ := sums_step hl hlt
   have HN := Lib.hid (show ∀ W cs', EW b (off + i * 3) (off + (i + 1) * 3) ([]) wr W cs' → cs'.length = 3 → VlH W (k + (cnts.take i).sum) cs' (cnts.getD i 0) ([]) → P (i + 1) W from fun W cs' e h1 h2 => hnext W cs' e.nm h1 h2 e.at_)
   generalize hkk : (cnts.take i).sum = s at *
   generalize hcc : cnts.getD i 0 = cn at *
   subst hcn
   have i0 : (0 : Int) ≤ i := by omega
   have i1 : (i : Int) < n := by omega
   have hle : k + s + (3) ≤ 1073741824 := by omega
   clear hnext hfr hat hP hPn hI
   go_wp2_with fail
   refine (lawsMarkText (k + s + 2) _ (by omega) (by omega)).mono ?_
   rintro e w1 ⟨rfl, hb1⟩
   have kk1 : KeptL [b] wr w1 := (by refine KeptL.set ?_ (List.mem_singleton.2 rfl); refine KeptL.set ?_ (List.mem_singleton.2 rfl); exact KeptL.refl _ _ : KeptL [b] _ _).trans (KeptL.below hb1)
   have E1 := Lib.hid (show EW b (off + i * 3) (off + (i + 1) * 3) ([]) wr w1 [.int .i64 ((k + s : Nat) : Int), .int .i64 ((k + s + 1 : Nat) : Int), u2] from EW.below (EW.set (cs' := [.int .i64 ((k + s : Nat) : Int), .int .i64 ((k + s + 1 : Nat) : Int), u2]) 1 (EW.set (cs' := [.int .i64 ((k + s : Nat) : Int), u1, u2]) 0 E0.out (by simp) (by simp) (by omega) (by first | rfl | exact congrArg (Value.int .i64) (by omega)) rfl) (by simp) (by simp) (by omega) (by first | rfl | exact congrArg (Value.int .i64) (by omega)) rfl) hb1 hb)
   clear kk1 hb1 q0_E0 f0_E0 q1_E0 f1_E0 q2_E0 f2_E0
   have q2_E1 : World.cell? w1 ⟨b, off + i * 3 + 2, none⟩ = some (u2) := E1.out.cell 2 _ rfl
   have f2_E1 := E1.out.fr (off + i * 3 + 2)
   go_wp2_with fail
   go_roundw
   case rel =>
    refine ⟨i + 1, by omega, by go_num, by rw [hs1]; exact congrArg (Value.int .i64) (by omega), Lib.hid ?_⟩
    refine HN.out _ [.int .i64 ((k + s : Nat) : Int), .int .i64 ((k + s + 1 : Nat) : Int), .string (mtx (k + s + 2))] ?_ rfl ⟨rfl, rfl, rfl⟩
    refine EW.set (cs := [.int .i64 ((k + s : Nat) : Int), .int .i64 ((k + s + 1 : Nat) : Int), u2]) 2 ?_ (by simp) (by simp) (by omega) rfl rfl
    exact E1.out
   case measure => simp [intOf]; omega
  ·obtain rfl : i = n := by omega
   have hR := hPn _ hI.out
   rw [sums_all hl]
   go_wp2_with fail
   go_ret
   exact ⟨rfl, hR.1, hR.2⟩
set_option maxRecDepth 100000 in
set_option maxHeartbeats 2000000 in
theorem heldOVl (A : Option Addr) (n c : Nat) (cnts bs : List Nat) (k : Nat) (w : World) (h : HdL VlH 3 w k A n cnts bs) (hk : k + cnts.sum ≤ 1073741824) {x : Int} (hx : x = k) :
  Calls Tryz.prog 88 #[.slice A n c, .int .i64 x] w fun e w' => e = .returned (.int .i64 ((k + cnts.sum : Nat) : Int)) ∧ Below w.heap.size w w' := by
 have hn := h.1
 have hl := h.len
 subst hx
 have HH := Lib.hid h
 clear h
 go_enter Tryz.func88, Tryz.ntmps88
 go_wp2_with fail
 go_loopw [1, 5] (fun m i wr => ∃ (j : Nat), j ≤ n ∧ i = .int .i64 j ∧ m = .int .i64 ((k + (cnts.take j).sum : Nat) : Int) ∧ Below w.heap.size w wr) (fun _ i _ => n - (intOf i).toNat)
 case atStart => exact ⟨0, by omega, rfl, by simp, Below.refl _ _⟩
 case round =>
  obtain ⟨i, hi, rfl, rfl, hb⟩ := hrel
  by_cases hlt : i < n
  ·obtain ⟨b, off, bs', cs, rfl, hcl, ⟨rfl, hcn, rfl⟩, hat⟩ := (HH.out.below VlH.stay hb).elem hlt
   obtain ⟨hs1, hs2⟩ := sums_step hl hlt
   generalize hkk : (cnts.take i).sum = s at *
   generalize hcc : cnts.getD i 0 = cn at *
   subst hcn
   have q0 : wr.cell? ⟨b, off + i * 3, none⟩ = some (.int .i64 ((k + s : Nat) : Int)) := hat 0 _ rfl
   have q1 : wr.cell? ⟨b, off + i * 3 + 1, none⟩ = some (.int .i64 ((k + s + 1 : Nat) : Int)) := hat 1 _ rfl
   have q2 : wr.cell? ⟨b, off + i * 3 + 2, none⟩ = some (.string (mtx (k + s + 2))) := hat 2 _ rfl
   have i0 : (0 : Int) ≤ i := by omega
   have i1 : (i : Int) < n := by omega
   have hle : k + s + (3) ≤ 1073741824 := by omega
   clear hat
   have hz0 := hb
   go_wp2_with fail
   go_region_held3 (fun w' => w'.cell? ⟨b, off + i * 3 + 2, none⟩ = some (.string (mtx (k + s + 2))))
    (first | go_keep | exact below_keep hb1 _ _ (by assumption))
    (first | (go_at_call 22; refine (lawsMarkText (k + s + 2) _ (by omega) (by omega)).mono ?_; rintro e w1 ⟨rfl, hb1⟩))
   have hz1 := (hz0.drew).trans (hb1.mono hz0.size)
   go_wp2_with fail
   go_roundw
   case rel => exact ⟨i + 1, by omega, by go_num, by rw [hs1]; exact congrArg (Value.int .i64) (by omega), hz1⟩
   case measure => simp [intOf]; omega
  ·obtain rfl : i = n := by omega
   rw [sums_all hl]
   go_wp2_with fail
   go_ret
   exact ⟨rfl, hb⟩
set_option maxRecDepth 100000 in
set_option maxHeartbeats 2000000 in
theorem marksOCl (A : Option Addr) (n c : Nat) (cnts bs : List Nat) (k : Nat) (w : World) (h : ShL ClS 6 w A n cnts bs) (hk : k + cnts.sum ≤ 1073741824) {x : Int} (hx : x = k) :
  Calls Tryz.prog 23 #[.slice A n c, .int .i64 x] w fun e w' => e = .returned (.int .i64 ((k + cnts.sum : Nat) : Int)) ∧ KeptL bs w w' ∧ HdL ClH 6 w' k A n cnts bs := by
 have hn := h.1
 obtain ⟨hl, P, hP0, hP, hPn⟩ := h.walk ClS.stay ClH.stay k
 subst hx
 clear h
 go_enter Tryz.func23, Tryz.ntmps23
 go_wp2_with fail
 go_loopw [1, 5] (fun m i wr => ∃ (j : Nat), j ≤ n ∧ i = .int .i64 j ∧ m = .int .i64 ((k + (cnts.take j).sum : Nat) : Int) ∧ Hid (P j wr)) (fun _ i _ => n - (intOf i).toNat)
 case atStart => exact ⟨0, by omega, rfl, by simp, Lib.hid hP0⟩
 case round =>
  obtain ⟨i, hi, rfl, rfl, hI⟩ := hrel
  by_cases hlt : i < n
  ·obtain ⟨b, off, bs', cs, rfl, hfr, hbs, hcl, ⟨u0, u1, u2, u3, u4, u5, rfl, hcn, rfl⟩, hat, hb, hnext⟩ := hP i wr hlt hI.out
   have E0 := Lib.hid (show EW b (off + i * 6) (off + (i + 1) * 6) ([]) wr wr [u0, u1, u2, u3, u4, u5] from EW.start hat hbs hfr)
   have q0_E0 : World.cell? wr ⟨b, off + i * 6, none⟩ = some (u0) := E0.out.cell 0 _ rfl
   have f0_E0 := E0.out.fr (off + i * 6)
   have q1_E0 : World.cell? wr ⟨b, off + i * 6 + 1, none⟩ = some (u1) := E0.out.cell 1 _ rfl
   have f1_E0 := E0.out.fr (off + i * 6 + 1)
   have q2_E0 : World.cell? wr ⟨b, off + i * 6 + 2, none⟩ = some (u2) := E0.out.cell 2 _ rfl
   have f2_E0 := E0.out.fr (off + i * 6 + 2)
   have q3_E0 : World.cell? wr ⟨b, off + i * 6 + 3, none⟩ = some (u3) := E0.out.cell 3 _ rfl
   have f3_E0 := E0.out.fr (off + i * 6 + 3)
   have q4_E0 : World.cell? wr ⟨b, off + i * 6 + 4, none⟩ = some (u4) := E0.out.cell 4 _ rfl
   have f4_E0 := E0.out.fr (off + i * 6 + 4)
   have q5_E0 : World.cell? wr ⟨b, off + i * 6 + 5, none⟩ = some (u5) := E0.out.cell 5 _ rfl
   have f5_E0 := E0.out.fr (off + i * 6 + 5)
   obtain ⟨hs1, hs2⟩ := sums_step hl hlt
   have HN := Lib.hid (show ∀ W cs', EW b (off + i * 6) (off + (i + 1) * 6) ([]) wr W cs' → cs'.length = 6 → ClH W (k + (cnts.take i).sum) cs' (cnts.getD i 0) ([]) → P (i + 1) W from fun W cs' e h1 h2 => hnext W cs' e.nm h1 h2 e.at_)
   generalize hkk : (cnts.take i).sum = s at *
   generalize hcc : cnts.getD i 0 = cn at *
   subst hcn
   have i0 : (0 : Int) ≤ i := by omega
   have i1 : (i : Int) < n := by omega
   have hle : k + s + (6) ≤ 1073741824 := by omega
   clear hnext hfr hat hP hPn hI
   go_wp2_with fail
   refine (lawsMarkText (k + s) _ (by omega) (by omega)).mono ?_
   rintro e w1 ⟨rfl, hb1⟩
   have kk1 : KeptL [b] wr w1 := (KeptL.refl _ _ : KeptL [b] _ _).trans (KeptL.below hb1)
   have E1 := Lib.hid (show EW b (off + i * 6) (off + (i + 1) * 6) ([]) wr w1 [u0, u1, u2, u3, u4, u5] from EW.below E0.out hb1 hb)
   clear kk1 hb1 q0_E0 f0_E0 q1_E0 f1_E0 q2_E0 f2_E0 q3_E0 f3_E0 q4_E0 f4_E0 q5_E0 f5_E0
   have q0_E1 : World.cell? w1 ⟨b, off + i * 6, none⟩ = some (u0) := E1.out.cell 0 _ rfl
   have f0_E1 := E1.out.fr (off + i * 6)
   have q1_E1 : World.cell? w1 ⟨b, off + i * 6 + 1, none⟩ = some (u1) := E1.out.cell 1 _ rfl
   have f1_E1 := E1.out.fr (off + i * 6 + 1)
   have q2_E1 : World.cell? w1 ⟨b, off + i * 6 + 2, none⟩ = some (u2) := E1.out.cell 2 _ rfl
   have f2_E1 := E1.out.fr (off + i * 6 + 2)
   have q3_E1 : World.cell? w1 ⟨b, off + i * 6 + 3, none⟩ = some (u3) := E1.out.cell 3 _ rfl
   have f3_E1 := E1.out.fr (off + i * 6 + 3)
   have q4_E1 : World.cell? w1 ⟨b, off + i * 6 + 4, none⟩ = some (u4) := E1.out.cell 4 _ rfl
   have f4_E1 := E1.out.fr (off + i * 6 + 4)
   have q5_E1 : World.cell? w1 ⟨b, off + i * 6 + 5, none⟩ = some (u5) := E1.out.cell 5 _ rfl
   have f5_E1 := E1.out.fr (off + i * 6 + 5)
   go_wp2_with fail
   refine (lawsMarkText (k + s + 5) _ (by omega) (by omega)).mono ?_
   rintro e w2 ⟨rfl, hb2⟩
   have kk2 : KeptL [b] w1 w2 := (by refine KeptL.set ?_ (List.mem_singleton.2 rfl); refine KeptL.set ?_ (List.mem_singleton.2 rfl); refine KeptL.set ?_ (List.mem_singleton.2 rfl); refine KeptL.set ?_ (List.mem_singleton.2 rfl); refine KeptL.set ?_ (List.mem_singleton.2 rfl); exact KeptL.refl _ _ : KeptL [b] _ _).trans (KeptL.below hb2)
   have E2 := Lib.hid (show EW b (off + i * 6) (off + (i + 1) * 6) ([]) wr w2 [.string (mtx (k + s)), .int .i64 ((k + s + 1 : Nat) : Int), .bool (m3 (k + s + 2)), .int .i64 ((k + s + 3 : Nat) : Int), .int .i64 ((k + s + 4 : Nat) : Int), u5] from EW.below (EW.set (cs' := [.string (mtx (k + s)), .int .i64 ((k + s + 1 : Nat) : Int), .bool (m3 (k + s + 2)), .int .i64 ((k + s + 3 : Nat) : Int), .int .i64 ((k + s + 4 : Nat) : Int), u5]) 4 (EW.set (cs' := [.string (mtx (k + s)), .int .i64 ((k + s + 1 : Nat) : Int), .bool (m3 (k + s + 2)), .int .i64 ((k + s + 3 : Nat) : Int), u4, u5]) 3 (EW.set (cs' := [.string (mtx (k + s)), .int .i64 ((k + s + 1 : Nat) : Int), .bool (m3 (k + s + 2)), u3, u4, u5]) 2 (EW.set (cs' := [.string (mtx (k + s)), .int .i64 ((k + s + 1 : Nat) : Int), u2, u3, u4, u5]) 1 (EW.set (cs' := [.string (mtx (k + s)), u1, u2, u3, u4, u5]) 0 E1.out (by simp) (by simp) (by omega) rfl rfl) (by simp) (by simp) (by omega) (by first | rfl | exact congrArg (Value.int .i64) (by omega)) rfl) (by simp) (by simp) (by omega) (congrArg (fun z : Int => Value.bool (z % 3 == 0)) (by omega)) rfl) (by simp) (by simp) (by omega) (by first | rfl | exact congrArg (Value.int .i64) (by omega)) rfl) (by simp) (by simp) (by omega) (by first | rfl | exact congrArg (Value.int .i64) (by omega)) rfl) hb2 hb)
   clear kk2 hb2 q0_E1 f0_E1 q1_E1 f1_E1 q2_E1 f2_E1 q3_E1 f3_E1 q4_E1 f4_E1 q5_E1 f5_E1
   have q5_E2 : World.cell? w2 ⟨b, off + i * 6 + 5, none⟩ = some (u5) := E2.out.cell 5 _ rfl
   have f5_E2 := E2.out.fr (off + i * 6 + 5)
   go_wp2_with fail
   go_roundw
   case rel =>
    refine ⟨i + 1, by omega, by go_num, by rw [hs1]; exact congrArg (Value.int .i64) (by omega), Lib.hid ?_⟩
    refine HN.out _ [.string (mtx (k + s)), .int .i64 ((k + s + 1 : Nat) : Int), .bool (m3 (k + s + 2)), .int .i64 ((k + s + 3 : Nat) : Int), .int .i64 ((k + s + 4 : Nat) : Int), .string (mtx (k + s + 5))] ?_ rfl ⟨rfl, rfl, rfl⟩
    refine EW.set (cs := [.string (mtx (k + s)), .int .i64 ((k + s + 1 : Nat) : Int), .bool (m3 (k + s + 2)), .int .i64 ((k + s + 3 : Nat) : Int), .int .i64 ((k + s + 4 : Nat) : Int), u5]) 5 ?_ (by simp) (by simp) (by omega) rfl rfl
    exact E2.out
   case measure => simp [intOf]; omega
  ·obtain rfl : i = n := by omega
   have hR := hPn _ hI.out
   rw [sums_all hl]
   go_wp2_with fail
   go_ret
   exact ⟨rfl, hR.1, hR.2⟩
set_option maxRecDepth 100000 in
set_option maxHeartbeats 2000000 in
theorem heldOCl (A : Option Addr) (n c : Nat) (cnts bs : List Nat) (k : Nat) (w : World) (h : HdL ClH 6 w k A n cnts bs) (hk : k + cnts.sum ≤ 1073741824) {x : Int} (hx : x = k) :
  Calls Tryz.prog 58 #[.slice A n c, .int .i64 x] w fun e w' => e = .returned (.int .i64 ((k + cnts.sum : Nat) : Int)) ∧ Below w.heap.size w w' := by
 have hn := h.1
 have hl := h.len
 subst hx
 have HH := Lib.hid h
 clear h
 go_enter Tryz.func58, Tryz.ntmps58
 go_wp2_with fail
 go_loopw [1, 5] (fun m i wr => ∃ (j : Nat), j ≤ n ∧ i = .int .i64 j ∧ m = .int .i64 ((k + (cnts.take j).sum : Nat) : Int) ∧ Below w.heap.size w wr) (fun _ i _ => n - (intOf i).toNat)
 case atStart => exact ⟨0, by omega, rfl, by simp, Below.refl _ _⟩
 case round =>
  obtain ⟨i, hi, rfl, rfl, hb⟩ := hrel
  by_cases hlt : i < n
  ·obtain ⟨b, off, bs', cs, rfl, hcl, ⟨rfl, hcn, rfl⟩, hat⟩ := (HH.out.below ClH.stay hb).elem hlt
   obtain ⟨hs1, hs2⟩ := sums_step hl hlt
   generalize hkk : (cnts.take i).sum = s at *
   generalize hcc : cnts.getD i 0 = cn at *
   subst hcn
   have q0 : wr.cell? ⟨b, off + i * 6, none⟩ = some (.string (mtx (k + s))) := hat 0 _ rfl
   have q1 : wr.cell? ⟨b, off + i * 6 + 1, none⟩ = some (.int .i64 ((k + s + 1 : Nat) : Int)) := hat 1 _ rfl
   have q2 : wr.cell? ⟨b, off + i * 6 + 2, none⟩ = some (.bool (m3 (k + s + 2))) := hat 2 _ rfl
   have q3 : wr.cell? ⟨b, off + i * 6 + 3, none⟩ = some (.int .i64 ((k + s + 3 : Nat) : Int)) := hat 3 _ rfl
   have q4 : wr.cell? ⟨b, off + i * 6 + 4, none⟩ = some (.int .i64 ((k + s + 4 : Nat) : Int)) := hat 4 _ rfl
   have q5 : wr.cell? ⟨b, off + i * 6 + 5, none⟩ = some (.string (mtx (k + s + 5))) := hat 5 _ rfl
   replace q2 : wr.cell? ⟨b, off + i * 6 + 2, none⟩ = some (.bool (((k : Int) + (s : Int) + 1 + 1) % 3 == 0)) := q2.trans (congrArg (fun z : Int => some (Value.bool (z % 3 == 0))) (by omega))
   have i0 : (0 : Int) ≤ i := by omega
   have i1 : (i : Int) < n := by omega
   have hle : k + s + (6) ≤ 1073741824 := by omega
   clear hat
   have hz0 := hb
   go_wp2_with fail
   go_region_held3 (fun w' => w'.cell? ⟨b, off + i * 6, none⟩ = some (.string (mtx (k + s))))
    (first | go_keep | exact below_keep hb1 _ _ (by assumption))
    (first | (go_at_call 22; refine (lawsMarkText (k + s) _ (by omega) (by omega)).mono ?_; rintro e w1 ⟨rfl, hb1⟩))
   have hz1 := (hz0.drew).trans (hb1.mono hz0.size)
   replace q1 := below_keep hb1 _ _ (show (World.drew _).cell? _ = _ from q1)
   replace q2 := below_keep hb1 _ _ (show (World.drew _).cell? _ = _ from q2)
   replace q3 := below_keep hb1 _ _ (show (World.drew _).cell? _ = _ from q3)
   replace q4 := below_keep hb1 _ _ (show (World.drew _).cell? _ = _ from q4)
   replace q5 := below_keep hb1 _ _ (show (World.drew _).cell? _ = _ from q5)
   go_wp2_with fail
   go_region_held3 (fun w' => w'.cell? ⟨b, off + i * 6 + 5, none⟩ = some (.string (mtx (k + s + 5))))
    (first | go_keep | exact below_keep hb2 _ _ (by assumption))
    (first | (go_at_call 22; refine (lawsMarkText (k + s + 5) _ (by omega) (by omega)).mono ?_; rintro e w2 ⟨rfl, hb2⟩))
   have hz2 := (hz1.drew).trans (hb2.mono hz1.size)
   go_wp2_with fail
   go_roundw
   case rel => exact ⟨i + 1, by omega, by go_num, by rw [hs1]; exact congrArg (Value.int .i64) (by omega), hz2⟩
   case measure => simp [intOf]; omega
  ·obtain rfl : i = n := by omega
   rw [sums_all hl]
   go_wp2_with fail
   go_ret
   exact ⟨rfl, hb⟩
set_option maxRecDepth 100000 in
set_option maxHeartbeats 2000000 in
theorem marksOUq (A : Option Addr) (n c : Nat) (cnts bs : List Nat) (k : Nat) (w : World) (h : ShL UqS 1 w A n cnts bs) (hk : k + cnts.sum ≤ 1073741824) {x : Int} (hx : x = k) :
  Calls Tryz.prog 25 #[.slice A n c, .int .i64 x] w fun e w' => e = .returned (.int .i64 ((k + cnts.sum : Nat) : Int)) ∧ KeptL bs w w' ∧ HdL UqH 1 w' k A n cnts bs := by
 have hn := h.1
 obtain ⟨hl, P, hP0, hP, hPn⟩ := h.walk UqS.stay UqH.stay k
 subst hx
 clear h
 go_enter Tryz.func25, Tryz.ntmps25
 go_wp2_with fail
 go_loopw [1, 5] (fun m i wr => ∃ (j : Nat), j ≤ n ∧ i = .int .i64 j ∧ m = .int .i64 ((k + (cnts.take j).sum : Nat) : Int) ∧ Hid (P j wr)) (fun _ i _ => n - (intOf i).toNat)
 case atStart => exact ⟨0, by omega, rfl, by simp, Lib.hid hP0⟩
 case round =>
  obtain ⟨i, hi, rfl, rfl, hI⟩ := hrel
  by_cases hlt : i < n
  ·obtain ⟨b, off, bs', cs, rfl, hfr, hbs, hcl, ⟨A0, n0, c0, a0, b0, rfl, hcn, rfl, hA, h0⟩, hat, hb, hnext⟩ := hP i wr hlt hI.out
   have E0 := Lib.hid (show EW b (off + i * 1) (off + (i + 1) * 1) ([b0].flatten) wr wr [.slice A0 n0 c0] from EW.start hat hbs hfr)
   have q0_E0 : World.cell? wr ⟨b, off + i, none⟩ = some (.slice A0 n0 c0) := by have := E0.out.cell 0 _ rfl; rwa [Nat.mul_one] at this
   obtain ⟨hs1, hs2⟩ := sums_step hl hlt
   have HN := Lib.hid (show ∀ W cs', EW b (off + i * 1) (off + (i + 1) * 1) ([b0].flatten) wr W cs' → cs'.length = 1 → UqH W (k + (cnts.take i).sum) cs' (cnts.getD i 0) ([b0].flatten) → P (i + 1) W from fun W cs' e h1 h2 => hnext W cs' e.nm h1 h2 e.at_)
   generalize hkk : (cnts.take i).sum = s at *
   generalize hcc : cnts.getD i 0 = cn at *
   subst hcn
   have i0 : (0 : Int) ≤ i := by omega
   have i1 : (i : Int) < n := by omega
   have hle : k + s + (a0.sum) ≤ 1073741824 := by omega
   clear hnext hfr hat hP hPn hI
   have H0 := Lib.hid h0
   clear h0
   have HA := Lib.hid hA
   clear hA
   go_wp2_with fail
   refine (marksOInt A0 n0 c0 a0 b0 (k + s) _ H0.out (by omega) (by omega)).mono ?_
   rintro e w1 ⟨rfl, hk1, hM1⟩
   have kk1 : KeptL (b :: b0) wr w1 := ((KeptL.refl _ _ : KeptL [b] _ _).mono (fun x hx => (List.mem_singleton.1 hx) ▸ List.mem_cons_self ..)).trans (hk1.mono fun x hx => List.mem_cons_of_mem _ hx)
   have E1 := Lib.hid (show EW b (off + i * 1) (off + (i + 1) * 1) ([b0].flatten) wr w1 [.slice A0 n0 c0] from EW.turn E0.out hk1 (fun x hx => mem_flatten_getD (bss := [b0]) (i := 0) hx) hb)
   replace H0 := Lib.hid hM1
   clear kk1 hk1 hM1 q0_E0
   go_wp2_with fail
   go_roundw
   case rel =>
    refine ⟨i + 1, by omega, by go_num, by rw [hs1]; exact congrArg (Value.int .i64) (by omega), Lib.hid ?_⟩
    refine HN.out _ [.slice A0 n0 c0] ?_ rfl ⟨A0, n0, c0, a0, b0, rfl, by omega, rfl, HA.out, H0.out⟩
    exact E1.out
   case measure => simp [intOf]; omega
  ·obtain rfl : i = n := by omega
   have hR := hPn _ hI.out
   rw [sums_all hl]
   go_wp2_with fail
   go_ret
   exact ⟨rfl, hR.1, hR.2⟩
set_option maxRecDepth 100000 in
set_option maxHeartbeats 2000000 in
theorem heldOUq (A : Option Addr) (n c : Nat) (cnts bs : List Nat) (k : Nat) (w : World) (h : HdL UqH 1 w k A n cnts bs) (hk : k + cnts.sum ≤ 1073741824) {x : Int} (hx : x = k) :
  Calls Tryz.prog 60 #[.slice A n c, .int .i64 x] w fun e w' => e = .returned (.int .i64 ((k + cnts.sum : Nat) : Int)) ∧ Below w.heap.size w w' := by
 have hn := h.1
 have hl := h.len
 subst hx
 have HH := Lib.hid h
 clear h
 go_enter Tryz.func60, Tryz.ntmps60
 go_wp2_with fail
 go_loopw [1, 5] (fun m i wr => ∃ (j : Nat), j ≤ n ∧ i = .int .i64 j ∧ m = .int .i64 ((k + (cnts.take j).sum : Nat) : Int) ∧ Below w.heap.size w wr) (fun _ i _ => n - (intOf i).toNat)
 case atStart => exact ⟨0, by omega, rfl, by simp, Below.refl _ _⟩
 case round =>
  obtain ⟨i, hi, rfl, rfl, hb⟩ := hrel
  by_cases hlt : i < n
  ·obtain ⟨b, off, bs', cs, rfl, hcl, ⟨A0, n0, c0, a0, b0, rfl, hcn, rfl, hA, h0⟩, hat⟩ := (HH.out.below UqH.stay hb).elem hlt
   obtain ⟨hs1, hs2⟩ := sums_step hl hlt
   generalize hkk : (cnts.take i).sum = s at *
   generalize hcc : cnts.getD i 0 = cn at *
   subst hcn
   have q0 : wr.cell? ⟨b, off + i, none⟩ = some (.slice A0 n0 c0) := by have := hat 0 _ rfl; rwa [Nat.mul_one] at this
   have i0 : (0 : Int) ≤ i := by omega
   have i1 : (i : Int) < n := by omega
   have hle : k + s + (a0.sum) ≤ 1073741824 := by omega
   clear hat
   have hz0 := hb
   go_wp2_with fail
   refine (heldOInt A0 n0 c0 a0 b0 (k + s) _ h0 (by omega) (by omega)).mono ?_
   rintro e w1 ⟨rfl, hb1⟩
   have hz1 := hz0.trans (hb1.mono hz0.size)
   have g0 : ¬ (((k + s + a0.sum : Nat) : Int) < 0) := by omega
   go_wp2_with fail
   go_roundw
   case rel => exact ⟨i + 1, by omega, by go_num, by rw [hs1]; exact congrArg (Value.int .i64) (by omega), hz1⟩
   case measure => simp [intOf]; omega
  ·obtain rfl : i = n := by omega
   rw [sums_all hl]
   go_wp2_with fail
   go_ret
   exact ⟨rfl, hb⟩
set_option maxRecDepth 100000 in
set_option maxHeartbeats 2000000 in
theorem marksOCk (A : Option Addr) (n c : Nat) (cnts bs : List Nat) (k : Nat) (w : World) (h : ShL CkS 1 w A n cnts bs) (hk : k + cnts.sum ≤ 1073741824) {x : Int} (hx : x = k) :
  Calls Tryz.prog 26 #[.slice A n c, .int .i64 x] w fun e w' => e = .returned (.int .i64 ((k + cnts.sum : Nat) : Int)) ∧ KeptL bs w w' ∧ HdL CkH 1 w' k A n cnts bs := by
 have hn := h.1
 obtain ⟨hl, P, hP0, hP, hPn⟩ := h.walk CkS.stay CkH.stay k
 subst hx
 clear h
 go_enter Tryz.func26, Tryz.ntmps26
 go_wp2_with fail
 go_loopw [1, 5] (fun m i wr => ∃ (j : Nat), j ≤ n ∧ i = .int .i64 j ∧ m = .int .i64 ((k + (cnts.take j).sum : Nat) : Int) ∧ Hid (P j wr)) (fun _ i _ => n - (intOf i).toNat)
 case atStart => exact ⟨0, by omega, rfl, by simp, Lib.hid hP0⟩
 case round =>
  obtain ⟨i, hi, rfl, rfl, hI⟩ := hrel
  by_cases hlt : i < n
  ·obtain ⟨b, off, bs', cs, rfl, hfr, hbs, hcl, ⟨A0, n0, c0, a0, b0, rfl, hcn, rfl, hA, h0⟩, hat, hb, hnext⟩ := hP i wr hlt hI.out
   have E0 := Lib.hid (show EW b (off + i * 1) (off + (i + 1) * 1) ([b0].flatten) wr wr [.slice A0 n0 c0] from EW.start hat hbs hfr)
   have q0_E0 : World.cell? wr ⟨b, off + i, none⟩ = some (.slice A0 n0 c0) := by have := E0.out.cell 0 _ rfl; rwa [Nat.mul_one] at this
   obtain ⟨hs1, hs2⟩ := sums_step hl hlt
   have HN := Lib.hid (show ∀ W cs', EW b (off + i * 1) (off + (i + 1) * 1) ([b0].flatten) wr W cs' → cs'.length = 1 → CkH W (k + (cnts.take i).sum) cs' (cnts.getD i 0) ([b0].flatten) → P (i + 1) W from fun W cs' e h1 h2 => hnext W cs' e.nm h1 h2 e.at_)
   generalize hkk : (cnts.take i).sum = s at *
   generalize hcc : cnts.getD i 0 = cn at *
   subst hcn
   have i0 : (0 : Int) ≤ i := by omega
   have i1 : (i : Int) < n := by omega
   have hle : k + s + (a0.sum) ≤ 1073741824 := by omega
   clear hnext hfr hat hP hPn hI
   have H0 := Lib.hid h0
   clear h0
   have HA := Lib.hid hA
   clear hA
   go_wp2_with fail
   refine (marksOTk A0 n0 c0 a0 b0 (k + s) _ H0.out (by omega) (by omega)).mono ?_
   rintro e w1 ⟨rfl, hk1, hM1⟩
   have kk1 : KeptL (b :: b0) wr w1 := ((KeptL.refl _ _ : KeptL [b] _ _).mono (fun x hx => (List.mem_singleton.1 hx) ▸ List.mem_cons_self ..)).trans (hk1.mono fun x hx => List.mem_cons_of_mem _ hx)
   have E1 := Lib.hid (show EW b (off + i * 1) (off + (i + 1) * 1) ([b0].flatten) wr w1 [.slice A0 n0 c0] from EW.turn E0.out hk1 (fun x hx => mem_flatten_getD (bss := [b0]) (i := 0) hx) hb)
   replace H0 := Lib.hid hM1
   clear kk1 hk1 hM1 q0_E0
   go_wp2_with fail
   go_roundw
   case rel =>
    refine ⟨i + 1, by omega, by go_num, by rw [hs1]; exact congrArg (Value.int .i64) (by omega), Lib.hid ?_⟩
    refine HN.out _ [.slice A0 n0 c0] ?_ rfl ⟨A0, n0, c0, a0, b0, rfl, by omega, rfl, HA.out, H0.out⟩
    exact E1.out
   case measure => simp [intOf]; omega
  ·obtain rfl : i = n := by omega
   have hR := hPn _ hI.out
   rw [sums_all hl]
   go_wp2_with fail
   go_ret
   exact ⟨rfl, hR.1, hR.2⟩
set_option maxRecDepth 100000 in
set_option maxHeartbeats 2000000 in
theorem heldOCk (A : Option Addr) (n c : Nat) (cnts bs : List Nat) (k : Nat) (w : World) (h : HdL CkH 1 w k A n cnts bs) (hk : k + cnts.sum ≤ 1073741824) {x : Int} (hx : x = k) :
  Calls Tryz.prog 61 #[.slice A n c, .int .i64 x] w fun e w' => e = .returned (.int .i64 ((k + cnts.sum : Nat) : Int)) ∧ Below w.heap.size w w' := by
 have hn := h.1
 have hl := h.len
 subst hx
 have HH := Lib.hid h
 clear h
 go_enter Tryz.func61, Tryz.ntmps61
 go_wp2_with fail
 go_loopw [1, 5] (fun m i wr => ∃ (j : Nat), j ≤ n ∧ i = .int .i64 j ∧ m = .int .i64 ((k + (cnts.take j).sum : Nat) : Int) ∧ Below w.heap.size w wr) (fun _ i _ => n - (intOf i).toNat)
 case atStart => exact ⟨0, by omega, rfl, by simp, Below.refl _ _⟩
 case round =>
  obtain ⟨i, hi, rfl, rfl, hb⟩ := hrel
  by_cases hlt : i < n
  ·obtain ⟨b, off, bs', cs, rfl, hcl, ⟨A0, n0, c0, a0, b0, rfl, hcn, rfl, hA, h0⟩, hat⟩ := (HH.out.below CkH.stay hb).elem hlt
   obtain ⟨hs1, hs2⟩ := sums_step hl hlt
   generalize hkk : (cnts.take i).sum = s at *
   generalize hcc : cnts.getD i 0 = cn at *
   subst hcn
   have q0 : wr.cell? ⟨b, off + i, none⟩ = some (.slice A0 n0 c0) := by have := hat 0 _ rfl; rwa [Nat.mul_one] at this
   have i0 : (0 : Int) ≤ i := by omega
   have i1 : (i : Int) < n := by omega
   have hle : k + s + (a0.sum) ≤ 1073741824 := by omega
   clear hat
   have hz0 := hb
   go_wp2_with fail
   refine (heldOTk A0 n0 c0 a0 b0 (k + s) _ h0 (by omega) (by omega)).mono ?_
   rintro e w1 ⟨rfl, hb1⟩
   have hz1 := hz0.trans (hb1.mono hz0.size)
   have g0 : ¬ (((k + s + a0.sum : Nat) : Int) < 0) := by omega
   go_wp2_with fail
   go_roundw
   case rel => exact ⟨i + 1, by omega, by go_num, by rw [hs1]; exact congrArg (Value.int .i64) (by omega), hz1⟩
   case measure => simp [intOf]; omega
  ·obtain rfl : i = n := by omega
   rw [sums_all hl]
   go_wp2_with fail
   go_ret
   exact ⟨rfl, hb⟩
set_option maxRecDepth 100000 in
set_option maxHeartbeats 2000000 in
theorem marksOFk (A : Option Addr) (n c : Nat) (cnts bs : List Nat) (k : Nat) (w : World) (h : ShL FkS 5 w A n cnts bs) (hk : k + cnts.sum ≤ 1073741824) {x : Int} (hx : x = k) :
  Calls Tryz.prog 27 #[.slice A n c, .int .i64 x] w fun e w' => e = .returned (.int .i64 ((k + cnts.sum : Nat) : Int)) ∧ KeptL bs w w' ∧ HdL FkH 5 w' k A n cnts bs := by
 have hn := h.1
 obtain ⟨hl, P, hP0, hP, hPn⟩ := h.walk FkS.stay FkH.stay k
 subst hx
 clear h
 go_enter Tryz.func27, Tryz.ntmps27
 go_wp2_with fail
 go_loopw [1, 5] (fun m i wr => ∃ (j : Nat), j ≤ n ∧ i = .int .i64 j ∧ m = .int .i64 ((k + (cnts.take j).sum : Nat) : Int) ∧ Hid (P j wr)) (fun _ i _ => n - (intOf i).toNat)
 case atStart => exact ⟨0, by omega, rfl, by simp, Lib.hid hP0⟩
 case round =>
  obtain ⟨i, hi, rfl, rfl, hI⟩ := hrel
  by_cases hlt : i < n
  ·obtain ⟨b, off, bs', cs, rfl, hfr, hbs, hcl, ⟨u1, u2, u3, u4, A0, n0, c0, a0, b0, rfl, hcn, rfl, hA, h0⟩, hat, hb, hnext⟩ := hP i wr hlt hI.out
   have E0 := Lib.hid (show EW b (off + i * 5) (off + (i + 1) * 5) ([b0].flatten) wr wr [.slice A0 n0 c0, u1, u2, u3, u4] from EW.start hat hbs hfr)
   have q0_E0 : World.cell? wr ⟨b, off + i * 5, none⟩ = some (.slice A0 n0 c0) := E0.out.cell 0 _ rfl
   have q1_E0 : World.cell? wr ⟨b, off + i * 5 + 1, none⟩ = some (u1) := E0.out.cell 1 _ rfl
   have f1_E0 := E0.out.fr (off + i * 5 + 1)
   have q2_E0 : World.cell? wr ⟨b, off + i * 5 + 2, none⟩ = some (u2) := E0.out.cell 2 _ rfl
   have f2_E0 := E0.out.fr (off + i * 5 + 2)
   have q3_E0 : World.cell? wr ⟨b, off + i * 5 + 3, none⟩ = some (u3) := E0.out.cell 3 _ rfl
   have f3_E0 := E0.out.fr (off + i * 5 + 3)
   have q4_E0 : World.cell? wr ⟨b, off + i * 5 + 4, none⟩ = some (u4) := E0.out.cell 4 _ rfl
   have f4_E0 := E0.out.fr (off + i * 5 + 4)
   obtain ⟨hs1, hs2⟩ := sums_step hl hlt
   have HN := Lib.hid (show ∀ W cs', EW b (off + i * 5) (off + (i + 1) * 5) ([b0].flatten) wr W cs' → cs'.length = 5 → FkH W (k + (cnts.take i).sum) cs' (cnts.getD i 0) ([b0].flatten) → P (i + 1) W from fun W cs' e h1 h2 => hnext W cs' e.nm h1 h2 e.at_)
   generalize hkk : (cnts.take i).sum = s at *
   generalize hcc : cnts.getD i 0 = cn at *
   subst hcn
   have i0 : (0 : Int) ≤ i := by omega
   have i1 : (i : Int) < n := by omega
   have hle : k + s + (4 + a0.sum) ≤ 1073741824 := by omega
   clear hnext hfr hat hP hPn hI
   have H0 := Lib.hid h0
   clear h0
   have HA := Lib.hid hA
   clear hA
   go_wp2_with fail
   refine (marksOInt A0 n0 c0 a0 b0 (k + s) _ H0.out (by omega) (by omega)).mono ?_
   rintro e w1 ⟨rfl, hk1, hM1⟩
   have kk1 : KeptL (b :: b0) wr w1 := ((KeptL.refl _ _ : KeptL [b] _ _).mono (fun x hx => (List.mem_singleton.1 hx) ▸ List.mem_cons_self ..)).trans (hk1.mono fun x hx => List.mem_cons_of_mem _ hx)
   have E1 := Lib.hid (show EW b (off + i * 5) (off + (i + 1) * 5) ([b0].flatten) wr w1 [.slice A0 n0 c0, u1, u2, u3, u4] from EW.turn E0.out hk1 (fun x hx => mem_flatten_getD (bss := [b0]) (i := 0) hx) hb)
   replace H0 := Lib.hid hM1
   clear kk1 hk1 hM1 q0_E0 q1_E0 f1_E0 q2_E0 f2_E0 q3_E0 f3_E0 q4_E0 f4_E0
   have q1_E1 : World.cell? w1 ⟨b, off + i * 5 + 1, none⟩ = some (u1) := E1.out.cell 1 _ rfl
   have f1_E1 := E1.out.fr (off + i * 5 + 1)
   have q2_E1 : World.cell? w1 ⟨b, off + i * 5 + 2, none⟩ = some (u2) := E1.out.cell 2 _ rfl
   have f2_E1 := E1.out.fr (off + i * 5 + 2)
   have q3_E1 : World.cell? w1 ⟨b, off + i * 5 + 3, none⟩ = some (u3) := E1.out.cell 3 _ rfl
   have f3_E1 := E1.out.fr (off + i * 5 + 3)
   have q4_E1 : World.cell? w1 ⟨b, off + i * 5 + 4, none⟩ = some (u4) := E1.out.cell 4 _ rfl
   have f4_E1 := E1.out.fr (off + i * 5 + 4)
   go_wp2_with fail
   refine (lawsMarkText (k + s + a0.sum) _ (by omega) (by omega)).mono ?_
   rintro e w2 ⟨rfl, hb2⟩
   have kk2 : KeptL [b] w1 w2 := (KeptL.refl _ _ : KeptL [b] _ _).trans (KeptL.below hb2)
   have E2 := Lib.hid (show EW b (off + i * 5) (off + (i + 1) * 5) ([b0].flatten) wr w2 [.slice A0 n0 c0, u1, u2, u3, u4] from EW.below E1.out hb2 hb)
   replace H0 := Lib.hid (H0.out.stay IntH.stay kk2 (fun x hx hh => hb ((List.mem_singleton.1 hh) ▸ mem_flatten_getD (bss := [b0]) (i := 0) hx)))
   clear kk2 hb2 q1_E1 f1_E1 q2_E1 f2_E1 q3_E1 f3_E1 q4_E1 f4_E1
   have q1_E2 : World.cell? w2 ⟨b, off + i * 5 + 1, none⟩ = some (u1) := E2.out.cell 1 _ rfl
   have f1_E2 := E2.out.fr (off + i * 5 + 1)
   have q2_E2 : World.cell? w2 ⟨b, off + i * 5 + 2, none⟩ = some (u2) := E2.out.cell 2 _ rfl
   have f2_E2 := E2.out.fr (off + i * 5 + 2)
   have q3_E2 : World.cell? w2 ⟨b, off + i * 5 + 3, none⟩ = some (u3) := E2.out.cell 3 _ rfl
   have f3_E2 := E2.out.fr (off + i * 5 + 3)
   have q4_E2 : World.cell? w2 ⟨b, off + i * 5 + 4, none⟩ = some (u4) := E2.out.cell 4 _ rfl
   have f4_E2 := E2.out.fr (off + i * 5 + 4)
   go_wp2_with fail
   go_roundw
   case rel =>
    refine ⟨i + 1, by omega, by go_num, by rw [hs1]; exact congrArg (Value.int .i64) (by omega), Lib.hid ?_⟩
    refine HN.out _ [.slice A0 n0 c0, .string (mtx (k + s + a0.sum)), .int .i64 ((k + s + a0.sum + 1 : Nat) : Int), .int .i64 ((k + s + a0.sum + 2 : Nat) : Int), .bool (m3 (k + s + a0.sum + 3))] ?_ rfl ⟨A0, n0, c0, a0, b0, rfl, by omega, rfl, HA.out, H0.out.stay IntH.stay (by refine KeptL.set ?_ (List.mem_singleton.2 rfl); refine KeptL.set ?_ (List.mem_singleton.2 rfl); refine KeptL.set ?_ (List.mem_singleton.2 rfl); refine KeptL.set ?_ (List.mem_singleton.2 rfl); exact KeptL.refl _ _ : KeptL [b] _ _) (fun x hx hh => hb ((List.mem_singleton.1 hh) ▸ mem_flatten_getD (bss := [b0]) (i := 0) hx))⟩
    refine EW.set (cs := [.slice A0 n0 c0, .string (mtx (k + s + a0.sum)), .int .i64 ((k + s + a0.sum + 1 : Nat) : Int), .int .i64 ((k + s + a0.sum + 2 : Nat) : Int), u4]) 4 ?_ (by simp) (by simp) (by omega) (congrArg (fun z : Int => Value.bool (z % 3 == 0)) (by omega)) rfl
    refine EW.set (cs := [.slice A0 n0 c0, .string (mtx (k + s + a0.sum)), .int .i64 ((k + s + a0.sum + 1 : Nat) : Int), u3, u4]) 3 ?_ (by simp) (by simp) (by omega) (by first | rfl | exact congrArg (Value.int .i64) (by omega)) rfl
    refine EW.set (cs := [.slice A0 n0 c0, .string (mtx (k + s + a0.sum)), u2, u3, u4]) 2 ?_ (by simp) (by simp) (by omega) (by first | rfl | exact congrArg (Value.int .i64) (by omega)) rfl
    refine EW.set (cs := [.slice A0 n0 c0, u1, u2, u3, u4]) 1 ?_ (by simp) (by simp) (by omega) rfl rfl
    exact E2.out
   case measure => simp [intOf]; omega
  ·obtain rfl : i = n := by omega
   have hR := hPn _ hI.out
   rw [sums_all hl]
   go_wp2_with fail
   go_ret
   exact ⟨rfl, hR.1, hR.2⟩
set_option maxRecDepth 100000 in
set_option maxHeartbeats 2000000 in
theorem heldOFk (A : Option Addr) (n c : Nat) (cnts bs : List Nat) (k : Nat) (w : World) (h : HdL FkH 5 w k A n cnts bs) (hk : k + cnts.sum ≤ 1073741824) {x : Int} (hx : x = k) :
  Calls Tryz.prog 62 #[.slice A n c, .int .i64 x] w fun e w' => e = .returned (.int .i64 ((k + cnts.sum : Nat) : Int)) ∧ Below w.heap.size w w' := by
 have hn := h.1
 have hl := h.len
 subst hx
 have HH := Lib.hid h
 clear h
 go_enter Tryz.func62, Tryz.ntmps62
 go_wp2_with fail
 go_loopw [1, 5] (fun m i wr => ∃ (j : Nat), j ≤ n ∧ i = .int .i64 j ∧ m = .int .i64 ((k + (cnts.take j).sum : Nat) : Int) ∧ Below w.heap.size w wr) (fun _ i _ => n - (intOf i).toNat)
 case atStart => exact ⟨0, by omega, rfl, by simp, Below.refl _ _⟩
 case round =>
  obtain ⟨i, hi, rfl, rfl, hb⟩ := hrel
  by_cases hlt : i < n
  ·obtain ⟨b, off, bs', cs, rfl, hcl, ⟨A0, n0, c0, a0, b0, rfl, hcn, rfl, hA, h0⟩, hat⟩ := (HH.out.below FkH.stay hb).elem hlt
   obtain ⟨hs1, hs2⟩ := sums_step hl hlt
   generalize hkk : (cnts.take i).sum = s at *
   generalize hcc : cnts.getD i 0 = cn at *
   subst hcn
   have q0 : wr.cell? ⟨b, off + i * 5, none⟩ = some (.slice A0 n0 c0) := hat 0 _ rfl
   have q1 : wr.cell? ⟨b, off + i * 5 + 1, none⟩ = some (.string (mtx (k + s + a0.sum))) := hat 1 _ rfl
   have q2 : wr.cell? ⟨b, off + i * 5 + 2, none⟩ = some (.int .i64 ((k + s + a0.sum + 1 : Nat) : Int)) := hat 2 _ rfl
   have q3 : wr.cell? ⟨b, off + i * 5 + 3, none⟩ = some (.int .i64 ((k + s + a0.sum + 2 : Nat) : Int)) := hat 3 _ rfl
   have q4 : wr.cell? ⟨b, off + i * 5 + 4, none⟩ = some (.bool (m3 (k + s + a0.sum + 3))) := hat 4 _ rfl
   replace q4 : wr.cell? ⟨b, off + i * 5 + 4, none⟩ = some (.bool (((k : Int) + (s : Int) + ((a0.sum : Nat) : Int) + 1 + 1 + 1) % 3 == 0)) := q4.trans (congrArg (fun z : Int => some (Value.bool (z % 3 == 0))) (by omega))
   have i0 : (0 : Int) ≤ i := by omega
   have i1 : (i : Int) < n := by omega
   have hle : k + s + (4 + a0.sum) ≤ 1073741824 := by omega
   clear hat
   have hz0 := hb
   go_wp2_with fail
   refine (heldOInt A0 n0 c0 a0 b0 (k + s) _ h0 (by omega) (by omega)).mono ?_
   rintro e w1 ⟨rfl, hb1⟩
   have hz1 := hz0.trans (hb1.mono hz0.size)
   have g0 : ¬ (((k + s + a0.sum : Nat) : Int) < 0) := by omega
   replace q1 := below_keep hb1 _ _ q1
   replace q2 := below_keep hb1 _ _ q2
   replace q3 := below_keep hb1 _ _ q3
   replace q4 := below_keep hb1 _ _ q4
   go_wp2_with fail
   go_region_held3 (fun w' => w'.cell? ⟨b, off + i * 5 + 1, none⟩ = some (.string (mtx (k + s + a0.sum))))
    (first | go_keep | exact below_keep hb2 _ _ (by assumption))
    (first | (go_at_call 22; refine (lawsMarkText (k + s + a0.sum) _ (by omega) (by omega)).mono ?_; rintro e w2 ⟨rfl, hb2⟩))
   have hz2 := (hz1.drew).trans (hb2.mono hz1.size)
   replace q2 := below_keep hb2 _ _ (show (World.drew _).cell? _ = _ from q2)
   replace q3 := below_keep hb2 _ _ (show (World.drew _).cell? _ = _ from q3)
   replace q4 := below_keep hb2 _ _ (show (World.drew _).cell? _ = _ from q4)
   go_wp2_with fail
   go_roundw
   case rel => exact ⟨i + 1, by omega, by go_num, by rw [hs1]; exact congrArg (Value.int .i64) (by omega), hz2⟩
   case measure => simp [intOf]; omega
  ·obtain rfl : i = n := by omega
   rw [sums_all hl]
   go_wp2_with fail
   go_ret
   exact ⟨rfl, hb⟩
set_option maxRecDepth 100000 in
set_option maxHeartbeats 2000000 in
theorem marksOTb (A : Option Addr) (n c : Nat) (cnts bs : List Nat) (k : Nat) (w : World) (h : ShL TbS 6 w A n cnts bs) (hk : k + cnts.sum ≤ 1073741824) {x : Int} (hx : x = k) :
  Calls Tryz.prog 10 #[.slice A n c, .int .i64 x] w fun e w' => e = .returned (.int .i64 ((k + cnts.sum : Nat) : Int)) ∧ KeptL bs w w' ∧ HdL TbH 6 w' k A n cnts bs := by
 have hn := h.1
 obtain ⟨hl, P, hP0, hP, hPn⟩ := h.walk TbS.stay TbH.stay k
 subst hx
 clear h
 go_enter Tryz.func10, Tryz.ntmps10
 go_wp2_with fail
 go_loopw [1, 5] (fun m i wr => ∃ (j : Nat), j ≤ n ∧ i = .int .i64 j ∧ m = .int .i64 ((k + (cnts.take j).sum : Nat) : Int) ∧ Hid (P j wr)) (fun _ i _ => n - (intOf i).toNat)
 case atStart => exact ⟨0, by omega, rfl, by simp, Lib.hid hP0⟩
 case round =>
  obtain ⟨i, hi, rfl, rfl, hI⟩ := hrel
  by_cases hlt : i < n
  ·obtain ⟨b, off, bs', cs, rfl, hfr, hbs, hcl, ⟨u0, A1, n1, c1, a1, b1, A2, n2, c2, a2, b2, A3, n3, c3, a3, b3, A4, n4, c4, a4, b4, A5, n5, c5, a5, b5, rfl, hcn, rfl, hA, h1, h2, h3, h4, h5⟩, hat, hb, hnext⟩ := hP i wr hlt hI.out
   have E0 := Lib.hid (show EW b (off + i * 6) (off + (i + 1) * 6) ([b1, b2, b3, b4, b5].flatten) wr wr [u0, .slice A1 n1 c1, .slice A2 n2 c2, .slice A3 n3 c3, .slice A4 n4 c4, .slice A5 n5 c5] from EW.start hat hbs hfr)
   have q0_E0 : World.cell? wr ⟨b, off + i * 6, none⟩ = some (u0) := E0.out.cell 0 _ rfl
   have f0_E0 := E0.out.fr (off + i * 6)
   have q1_E0 : World.cell? wr ⟨b, off + i * 6 + 1, none⟩ = some (.slice A1 n1 c1) := E0.out.cell 1 _ rfl
   have q2_E0 : World.cell? wr ⟨b, off + i * 6 + 2, none⟩ = some (.slice A2 n2 c2) := E0.out.cell 2 _ rfl
   have q3_E0 : World.cell? wr ⟨b, off + i * 6 + 3, none⟩ = some (.slice A3 n3 c3) := E0.out.cell 3 _ rfl
   have q4_E0 : World.cell? wr ⟨b, off + i * 6 + 4, none⟩ = some (.slice A4 n4 c4) := E0.out.cell 4 _ rfl
   have q5_E0 : World.cell? wr ⟨b, off + i * 6 + 5, none⟩ = some (.slice A5 n5 c5) := E0.out.cell 5 _ rfl
   obtain ⟨hs1, hs2⟩ := sums_step hl hlt
   have HN := Lib.hid (show ∀ W cs', EW b (off + i * 6) (off + (i + 1) * 6) ([b1, b2, b3, b4, b5].flatten) wr W cs' → cs'.length = 6 → TbH W (k + (cnts.take i).sum) cs' (cnts.getD i 0) ([b1, b2, b3, b4, b5].flatten) → P (i + 1) W from fun W cs' e h1 h2 => hnext W cs' e.nm h1 h2 e.at_)
   generalize hkk : (cnts.take i).sum = s at *
   generalize hcc : cnts.getD i 0 = cn at *
   subst hcn
   have i0 : (0 : Int) ≤ i := by omega
   have i1 : (i : Int) < n := by omega
   have hle : k + s + (1 + a1.sum + a2.sum + a3.sum + a4.sum + a5.sum) ≤ 1073741824 := by omega
   clear hnext hfr hat hP hPn hI
   have H1 := Lib.hid h1
   have H2 := Lib.hid h2
   have H3 := Lib.hid h3
   have H4 := Lib.hid h4
   have H5 := Lib.hid h5
   clear h1 h2 h3 h4 h5
   have HA := Lib.hid hA
   clear hA
   go_wp2_with fail
   refine (lawsMarkText (k + s) _ (by omega) (by omega)).mono ?_
   rintro e w1 ⟨rfl, hb1⟩
   have kk1 : KeptL [b] wr w1 := (KeptL.refl _ _ : KeptL [b] _ _).trans (KeptL.below hb1)
   have E1 := Lib.hid (show EW b (off + i * 6) (off + (i + 1) * 6) ([b1, b2, b3, b4, b5].flatten) wr w1 [u0, .slice A1 n1 c1, .slice A2 n2 c2, .slice A3 n3 c3, .slice A4 n4 c4, .slice A5 n5 c5] from EW.below E0.out hb1 hb)
   replace H1 := Lib.hid (H1.out.stay ClS.stay kk1 (fun x hx hh => hb ((List.mem_singleton.1 hh) ▸ mem_flatten_getD (bss := [b1, b2, b3, b4, b5]) (i := 0) hx)))
   replace H2 := Lib.hid (H2.out.stay IntS.stay kk1 (fun x hx hh => hb ((List.mem_singleton.1 hh) ▸ mem_flatten_getD (bss := [b1, b2, b3, b4, b5]) (i := 1) hx)))
   replace H3 := Lib.hid (H3.out.stay UqS.stay kk1 (fun x hx hh => hb ((List.mem_singleton.1 hh) ▸ mem_flatten_getD (bss := [b1, b2, b3, b4, b5]) (i := 2) hx)))
   replace H4 := Lib.hid (H4.out.stay CkS.stay kk1 (fun x hx hh => hb ((List.mem_singleton.1 hh) ▸ mem_flatten_getD (bss := [b1, b2, b3, b4, b5]) (i := 3) hx)))
   replace H5 := Lib.hid (H5.out.stay FkS.stay kk1 (fun x hx hh => hb ((List.mem_singleton.1 hh) ▸ mem_flatten_getD (bss := [b1, b2, b3, b4, b5]) (i := 4) hx)))
   clear kk1 hb1 q0_E0 f0_E0 q1_E0 q2_E0 q3_E0 q4_E0 q5_E0
   have q0_E1 : World.cell? w1 ⟨b, off + i * 6, none⟩ = some (u0) := E1.out.cell 0 _ rfl
   have f0_E1 := E1.out.fr (off + i * 6)
   have q1_E1 : World.cell? w1 ⟨b, off + i * 6 + 1, none⟩ = some (.slice A1 n1 c1) := E1.out.cell 1 _ rfl
   have q2_E1 : World.cell? w1 ⟨b, off + i * 6 + 2, none⟩ = some (.slice A2 n2 c2) := E1.out.cell 2 _ rfl
   have q3_E1 : World.cell? w1 ⟨b, off + i * 6 + 3, none⟩ = some (.slice A3 n3 c3) := E1.out.cell 3 _ rfl
   have q4_E1 : World.cell? w1 ⟨b, off + i * 6 + 4, none⟩ = some (.slice A4 n4 c4) := E1.out.cell 4 _ rfl
   have q5_E1 : World.cell? w1 ⟨b, off + i * 6 + 5, none⟩ = some (.slice A5 n5 c5) := E1.out.cell 5 _ rfl
   go_wp2_with fail
   refine (marksOCl A1 n1 c1 a1 b1 (k + s + 1) _ (H1.out.stay ClS.stay (by refine KeptL.set ?_ (List.mem_singleton.2 rfl); exact KeptL.refl _ _ : KeptL [b] w1 _) (fun x hx hh => hb ((List.mem_singleton.1 hh) ▸ mem_flatten_getD (bss := [b1, b2, b3, b4, b5]) (i := 0) hx))) (by omega) (by omega)).mono ?_
   rintro e w2 ⟨rfl, hk2, hM2⟩
   have kk2 : KeptL (b :: b1) w1 w2 := ((by refine KeptL.set ?_ (List.mem_singleton.2 rfl); exact KeptL.refl _ _ : KeptL [b] _ _).mono (fun x hx => (List.mem_singleton.1 hx) ▸ List.mem_cons_self ..)).trans (hk2.mono fun x hx => List.mem_cons_of_mem _ hx)
   have E2 := Lib.hid (show EW b (off + i * 6) (off + (i + 1) * 6) ([b1, b2, b3, b4, b5].flatten) wr w2 [.string (mtx (k + s)), .slice A1 n1 c1, .slice A2 n2 c2, .slice A3 n3 c3, .slice A4 n4 c4, .slice A5 n5 c5] from EW.turn (EW.set (cs' := [.string (mtx (k + s)), .slice A1 n1 c1, .slice A2 n2 c2, .slice A3 n3 c3, .slice A4 n4 c4, .slice A5 n5 c5]) 0 E1.out (by simp) (by simp) (by omega) rfl rfl) hk2 (fun x hx => mem_flatten_getD (bss := [b1, b2, b3, b4, b5]) (i := 0) hx) hb)
   replace H1 := Lib.hid hM2
   replace H2 := Lib.hid (H2.out.stay IntS.stay kk2 (fun x hx hh => (List.mem_cons.1 hh).elim (fun e => hb (e ▸ mem_flatten_getD (bss := [b1, b2, b3, b4, b5]) (i := 1) hx)) fun hh => absurd (HA.out 1 0 x hx hh) (by decide)))
   replace H3 := Lib.hid (H3.out.stay UqS.stay kk2 (fun x hx hh => (List.mem_cons.1 hh).elim (fun e => hb (e ▸ mem_flatten_getD (bss := [b1, b2, b3, b4, b5]) (i := 2) hx)) fun hh => absurd (HA.out 2 0 x hx hh) (by decide)))
   replace H4 := Lib.hid (H4.out.stay CkS.stay kk2 (fun x hx hh => (List.mem_cons.1 hh).elim (fun e => hb (e ▸ mem_flatten_getD (bss := [b1, b2, b3, b4, b5]) (i := 3) hx)) fun hh => absurd (HA.out 3 0 x hx hh) (by decide)))
   replace H5 := Lib.hid (H5.out.stay FkS.stay kk2 (fun x hx hh => (List.mem_cons.1 hh).elim (fun e => hb (e ▸ mem_flatten_getD (bss := [b1, b2, b3, b4, b5]) (i := 4) hx)) fun hh => absurd (HA.out 4 0 x hx hh) (by decide)))
   clear kk2 hk2 hM2 q0_E1 f0_E1 q1_E1 q2_E1 q3_E1 q4_E1 q5_E1
   have q2_E2 : World.cell? w2 ⟨b, off + i * 6 + 2, none⟩ = some (.slice A2 n2 c2) := E2.out.cell 2 _ rfl
   have q3_E2 : World.cell? w2 ⟨b, off + i * 6 + 3, none⟩ = some (.slice A3 n3 c3) := E2.out.cell 3 _ rfl
   have q4_E2 : World.cell? w2 ⟨b, off + i * 6 + 4, none⟩ = some (.slice A4 n4 c4) := E2.out.cell 4 _ rfl
   have q5_E2 : World.cell? w2 ⟨b, off + i * 6 + 5, none⟩ = some (.slice A5 n5 c5) := E2.out.cell 5 _ rfl
   go_wp2_with fail
   refine (marksOInt A2 n2 c2 a2 b2 (k + s + 1 + a1.sum) _ H2.out (by omega) (by omega)).mono ?_
   rintro e w3 ⟨rfl, hk3, hM3⟩
   have kk3 : KeptL (b :: b2) w2 w3 := ((KeptL.refl _ _ : KeptL [b] _ _).mono (fun x hx => (List.mem_singleton.1 hx) ▸ List.mem_cons_self ..)).trans (hk3.mono fun x hx => List.mem_cons_of_mem _ hx)
   have E3 := Lib.hid (show EW b (off + i * 6) (off + (i + 1) * 6) ([b1, b2, b3, b4, b5].flatten) wr w3 [.string (mtx (k + s)), .slice A1 n1 c1, .slice A2 n2 c2, .slice A3 n3 c3, .slice A4 n4 c4, .slice A5 n5 c5] from EW.turn E2.out hk3 (fun x hx => mem_flatten_getD (bss := [b1, b2, b3, b4, b5]) (i := 1) hx) hb)
   replace H1 := Lib.hid (H1.out.stay ClH.stay kk3 (fun x hx hh => (List.mem_cons.1 hh).elim (fun e => hb (e ▸ mem_flatten_getD (bss := [b1, b2, b3, b4, b5]) (i := 0) hx)) fun hh => absurd (HA.out 0 1 x hx hh) (by decide)))
   replace H2 := Lib.hid hM3
   replace H3 := Lib.hid (H3.out.stay UqS.stay kk3 (fun x hx hh => (List.mem_cons.1 hh).elim (fun e => hb (e ▸ mem_flatten_getD (bss := [b1, b2, b3, b4, b5]) (i := 2) hx)) fun hh => absurd (HA.out 2 1 x hx hh) (by decide)))
   replace H4 := Lib.hid (H4.out.stay CkS.stay kk3 (fun x hx hh => (List.mem_cons.1 hh).elim (fun e => hb (e ▸ mem_flatten_getD (bss := [b1, b2, b3, b4, b5]) (i := 3) hx)) fun hh => absurd (HA.out 3 1 x hx hh) (by decide)))
   replace H5 := Lib.hid (H5.out.stay FkS.stay kk3 (fun x hx hh => (List.mem_cons.1 hh).elim (fun e => hb (e ▸ mem_flatten_getD (bss := [b1, b2, b3, b4, b5]) (i := 4) hx)) fun hh => absurd (HA.out 4 1 x hx hh) (by decide)))
   clear kk3 hk3 hM3 q2_E2 q3_E2 q4_E2 q5_E2
   have q3_E3 : World.cell? w3 ⟨b, off + i * 6 + 3, none⟩ = some (.slice A3 n3 c3) := E3.out.cell 3 _ rfl
   have q4_E3 : World.cell? w3 ⟨b, off + i * 6 + 4, none⟩ = some (.slice A4 n4 c4) := E3.out.cell 4 _ rfl
   have q5_E3 : World.cell? w3 ⟨b, off + i * 6 + 5, none⟩ = some (.slice A5 n5 c5) := E3.out.cell 5 _ rfl
   go_wp2_with fail
   refine (marksOUq A3 n3 c3 a3 b3 (k + s + 1 + a1.sum + a2.sum) _ H3.out (by omega) (by omega)).mono ?_
   rintro e w4 ⟨rfl, hk4, hM4⟩
   have kk4 : KeptL (b :: b3) w3 w4 := ((KeptL.refl _ _ : KeptL [b] _ _).mono (fun x hx => (List.mem_singleton.1 hx) ▸ List.mem_cons_self ..)).trans (hk4.mono fun x hx => List.mem_cons_of_mem _ hx)
   have E4 := Lib.hid (show EW b (off + i * 6) (off + (i + 1) * 6) ([b1, b2, b3, b4, b5].flatten) wr w4 [.string (mtx (k + s)), .slice A1 n1 c1, .slice A2 n2 c2, .slice A3 n3 c3, .slice A4 n4 c4, .slice A5 n5 c5] from EW.turn E3.out hk4 (fun x hx => mem_flatten_getD (bss := [b1, b2, b3, b4, b5]) (i := 2) hx) hb)
   replace H1 := Lib.hid (H1.out.stay ClH.stay kk4 (fun x hx hh => (List.mem_cons.1 hh).elim (fun e => hb (e ▸ mem_flatten_getD (bss := [b1, b2, b3, b4, b5]) (i := 0) hx)) fun hh => absurd (HA.out 0 2 x hx hh) (by decide)))
   replace H2 := Lib.hid (H2.out.stay IntH.stay kk4 (fun x hx hh => (List.mem_cons.1 hh).elim (fun e => hb (e ▸ mem_flatten_getD (bss := [b1, b2, b3, b4, b5]) (i := 1) hx)) fun hh => absurd (HA.out 1 2 x hx hh) (by decide)))
   replace H3 := Lib.hid hM4
   replace H4 := Lib.hid (H4.out.stay CkS.stay kk4 (fun x hx hh => (List.mem_cons.1 hh).elim (fun e => hb (e ▸ mem_flatten_getD (bss := [b1, b2, b3, b4, b5]) (i := 3) hx)) fun hh => absurd (HA.out 3 2 x hx hh) (by decide)))
   replace H5 := Lib.hid (H5.out.stay FkS.stay kk4 (fun x hx hh => (List.mem_cons.1 hh).elim (fun e => hb (e ▸ mem_flatten_getD (bss := [b1, b2, b3, b4, b5]) (i := 4) hx)) fun hh => absurd (HA.out 4 2 x hx hh) (by decide)))
   clear kk4 hk4 hM4 q3_E3 q4_E3 q5_E3
   have q4_E4 : World.cell? w4 ⟨b, off + i * 6 + 4, none⟩ = some (.slice A4 n4 c4) := E4.out.cell 4 _ rfl
   have q5_E4 : World.cell? w4 ⟨b, off + i * 6 + 5, none⟩ = some (.slice A5 n5 c5) := E4.out.cell 5 _ rfl
   go_wp2_with fail
   refine (marksOCk A4 n4 c4 a4 b4 (k + s + 1 + a1.sum + a2.sum + a3.sum) _ H4.out (by omega) (by omega)).mono ?_
   rintro e w5 ⟨rfl, hk5, hM5⟩
   have kk5 : KeptL (b :: b4) w4 w5 := ((KeptL.refl _ _ : KeptL [b] _ _).mono (fun x hx => (List.mem_singleton.1 hx) ▸ List.mem_cons_self ..)).trans (hk5.mono fun x hx => List.mem_cons_of_mem _ hx)
   have E5 := Lib.hid (show EW b (off + i * 6) (off + (i + 1) * 6) ([b1, b2, b3, b4, b5].flatten) wr w5 [.string (mtx (k + s)), .slice A1 n1 c1, .slice A2 n2 c2, .slice A3 n3 c3, .slice A4 n4 c4, .slice A5 n5 c5] from EW.turn E4.out hk5 (fun x hx => mem_flatten_getD (bss := [b1, b2, b3, b4, b5]) (i := 3) hx) hb)
   replace H1 := Lib.hid (H1.out.stay ClH.stay kk5 (fun x hx hh => (List.mem_cons.1 hh).elim (fun e => hb (e ▸ mem_flatten_getD (bss := [b1, b2, b3, b4, b5]) (i := 0) hx)) fun hh => absurd (HA.out 0 3 x hx hh) (by decide)))
   replace H2 := Lib.hid (H2.out.stay IntH.stay kk5 (fun x hx hh => (List.mem_cons.1 hh).elim (fun e => hb (e ▸ mem_flatten_getD (bss := [b1, b2, b3, b4, b5]) (i := 1) hx)) fun hh => absurd (HA.out 1 3 x hx hh) (by decide)))
   replace H3 := Lib.hid (H3.out.stay UqH.stay kk5 (fun x hx hh => (List.mem_cons.1 hh).elim (fun e => hb (e ▸ mem_flatten_getD (bss := [b1, b2, b3, b4, b5]) (i := 2) hx)) fun hh => absurd (HA.out 2 3 x hx hh) (by decide)))
   replace H4 := Lib.hid hM5
   replace H5 := Lib.hid (H5.out.stay FkS.stay kk5 (fun x hx hh => (List.mem_cons.1 hh).elim (fun e => hb (e ▸ mem_flatten_getD (bss := [b1, b2, b3, b4, b5]) (i := 4) hx)) fun hh => absurd (HA.out 4 3 x hx hh) (by decide)))
   clear kk5 hk5 hM5 q4_E4 q5_E4
   have q5_E5 : World.cell? w5 ⟨b, off + i * 6 + 5, none⟩ = some (.slice A5 n5 c5) := E5.out.cell 5 _ rfl
   go_wp2_with fail
   refine (marksOFk A5 n5 c5 a5 b5 (k + s + 1 + a1.sum + a2.sum + a3.sum + a4.sum) _ H5.out (by omega) (by omega)).mono ?_
   rintro e w6 ⟨rfl, hk6, hM6⟩
   have kk6 : KeptL (b :: b5) w5 w6 := ((KeptL.refl _ _ : KeptL [b] _ _).mono (fun x hx => (List.mem_singleton.1 hx) ▸ List.mem_cons_self ..)).trans (hk6.mono fun x hx => List.mem_cons_of_mem _ hx)
   have E6 := Lib.hid (show EW b (off + i * 6) (off + (i + 1) * 6) ([b1, b2, b3, b4, b5].flatten) wr w6 [.string (mtx (k + s)), .slice A1 n1 c1, .slice A2 n2 c2, .slice A3 n3 c3, .slice A4 n4 c4, .slice A5 n5 c5] from EW.turn E5.out hk6 (fun x hx => mem_flatten_getD (bss := [b1, b2, b3, b4, b5]) (i := 4) hx) hb)
   replace H1 := Lib.hid (H1.out.stay ClH.stay kk6 (fun x hx hh => (List.mem_cons.1 hh).elim (fun e => hb (e ▸ mem_flatten_getD (bss := [b1, b2, b3, b4, b5]) (i := 0) hx)) fun hh => absurd (HA.out 0 4 x hx hh) (by decide)))
   replace H2 := Lib.hid (H2.out.stay IntH.stay kk6 (fun x hx hh => (List.mem_cons.1 hh).elim (fun e => hb (e ▸ mem_flatten_getD (bss := [b1, b2, b3, b4, b5]) (i := 1) hx)) fun hh => absurd (HA.out 1 4 x hx hh) (by decide)))
   replace H3 := Lib.hid (H3.out.stay UqH.stay kk6 (fun x hx hh => (List.mem_cons.1 hh).elim (fun e => hb (e ▸ mem_flatten_getD (bss := [b1, b2, b3, b4, b5]) (i := 2) hx)) fun hh => absurd (HA.out 2 4 x hx hh) (by decide)))
   replace H4 := Lib.hid (H4.out.stay CkH.stay kk6 (fun x hx hh => (List.mem_cons.1 hh).elim (fun e => hb (e ▸ mem_flatten_getD (bss := [b1, b2, b3, b4, b5]) (i := 3) hx)) fun hh => absurd (HA.out 3 4 x hx hh) (by decide)))
   replace H5 := Lib.hid hM6
   clear kk6 hk6 hM6 q5_E5
   go_wp2_with fail
   go_roundw
   case rel =>
    refine ⟨i + 1, by omega, by go_num, by rw [hs1]; exact congrArg (Value.int .i64) (by omega), Lib.hid ?_⟩
    refine HN.out _ [.string (mtx (k + s)), .slice A1 n1 c1, .slice A2 n2 c2, .slice A3 n3 c3, .slice A4 n4 c4, .slice A5 n5 c5] ?_ rfl ⟨A1, n1, c1, a1, b1, A2, n2, c2, a2, b2, A3, n3, c3, a3, b3, A4, n4, c4, a4, b4, A5, n5, c5, a5, b5, rfl, by omega, rfl, HA.out, H1.out, H2.out, H3.out, H4.out, H5.out⟩
    exact E6.out
   case measure => simp [intOf]; omega
  ·obtain rfl : i = n := by omega
   have hR := hPn _ hI.out
   rw [sums_all hl]
   go_wp2_with fail
   go_ret
   exact ⟨rfl, hR.1, hR.2⟩
set_option maxRecDepth 100000 in
set_option maxHeartbeats 2000000 in
theorem heldOTb (A : Option Addr) (n c : Nat) (cnts bs : List Nat) (k : Nat) (w : World) (h : HdL TbH 6 w k A n cnts bs) (hk : k + cnts.sum ≤ 1073741824) {x : Int} (hx : x = k) :
  Calls Tryz.prog 30 #[.slice A n c, .int .i64 x] w fun e w' => e = .returned (.int .i64 ((k + cnts.sum : Nat) : Int)) ∧ Below w.heap.size w w' := by
 have hn := h.1
 have hl := h.len
 subst hx
 have HH := Lib.hid h
 clear h
 go_enter Tryz.func30, Tryz.ntmps30
 go_wp2_with fail
 go_loopw [1, 5] (fun m i wr => ∃ (j : Nat), j ≤ n ∧ i = .int .i64 j ∧ m = .int .i64 ((k + (cnts.take j).sum : Nat) : Int) ∧ Below w.heap.size w wr) (fun _ i _ => n - (intOf i).toNat)
 case atStart => exact ⟨0, by omega, rfl, by simp, Below.refl _ _⟩
 case round =>
  obtain ⟨i, hi, rfl, rfl, hb⟩ := hrel
  by_cases hlt : i < n
  ·obtain ⟨b, off, bs', cs, rfl, hcl, ⟨A1, n1, c1, a1, b1, A2, n2, c2, a2, b2, A3, n3, c3, a3, b3, A4, n4, c4, a4, b4, A5, n5, c5, a5, b5, rfl, hcn, rfl, hA, h1, h2, h3, h4, h5⟩, hat⟩ := (HH.out.below TbH.stay hb).elem hlt
   obtain ⟨hs1, hs2⟩ := sums_step hl hlt
   generalize hkk : (cnts.take i).sum = s at *
   generalize hcc : cnts.getD i 0 = cn at *
   subst hcn
   have q0 : wr.cell? ⟨b, off + i * 6, none⟩ = some (.string (mtx (k + s))) := hat 0 _ rfl
   have q1 : wr.cell? ⟨b, off + i * 6 + 1, none⟩ = some (.slice A1 n1 c1) := hat 1 _ rfl
   have q2 : wr.cell? ⟨b, off + i * 6 + 2, none⟩ = some (.slice A2 n2 c2) := hat 2 _ rfl
   have q3 : wr.cell? ⟨b, off + i * 6 + 3, none⟩ = some (.slice A3 n3 c3) := hat 3 _ rfl
   have q4 : wr.cell? ⟨b, off + i * 6 + 4, none⟩ = some (.slice A4 n4 c4) := hat 4 _ rfl
   have q5 : wr.cell? ⟨b, off + i * 6 + 5, none⟩ = some (.slice A5 n5 c5) := hat 5 _ rfl
   have i0 : (0 : Int) ≤ i := by omega
   have i1 : (i : Int) < n := by omega
   have hle : k + s + (1 + a1.sum + a2.sum + a3.sum + a4.sum + a5.sum) ≤ 1073741824 := by omega
   clear hat
   have hz0 := hb
   go_wp2_with fail
   go_region_held3 (fun w' => w'.cell? ⟨b, off + i * 6, none⟩ = some (.string (mtx (k + s))))
    (first | go_keep | exact below_keep hb1 _ _ (by assumption))
    (first | (go_at_call 22; refine (lawsMarkText (k + s) _ (by omega) (by omega)).mono ?_; rintro e w1 ⟨rfl, hb1⟩))
   have hz1 := (hz0.drew).trans (hb1.mono hz0.size)
   replace q1 := below_keep hb1 _ _ (show (World.drew _).cell? _ = _ from q1)
   replace q2 := below_keep hb1 _ _ (show (World.drew _).cell? _ = _ from q2)
   replace q3 := below_keep hb1 _ _ (show (World.drew _).cell? _ = _ from q3)
   replace q4 := below_keep hb1 _ _ (show (World.drew _).cell? _ = _ from q4)
   replace q5 := below_keep hb1 _ _ (show (World.drew _).cell? _ = _ from q5)
   replace h1 := h1.below ClH.stay ((Below.refl _ _).drew.trans hb1)
   replace h2 := h2.below IntH.stay ((Below.refl _ _).drew.trans hb1)
   replace h3 := h3.below UqH.stay ((Below.refl _ _).drew.trans hb1)
   replace h4 := h4.below CkH.stay ((Below.refl _ _).drew.trans hb1)
   replace h5 := h5.below FkH.stay ((Below.refl _ _).drew.trans hb1)
   go_wp2_with fail
   refine (heldOCl A1 n1 c1 a1 b1 (k + s + 1) _ h1 (by omega) (by omega)).mono ?_
   rintro e w2 ⟨rfl, hb2⟩
   have hz2 := hz1.trans (hb2.mono hz1.size)
   have g1 : ¬ (((k + s + 1 + a1.sum : Nat) : Int) < 0) := by omega
   replace q2 := below_keep hb2 _ _ q2
   replace q3 := below_keep hb2 _ _ q3
   replace q4 := below_keep hb2 _ _ q4
   replace q5 := below_keep hb2 _ _ q5
   replace h2 := h2.below IntH.stay hb2
   replace h3 := h3.below UqH.stay hb2
   replace h4 := h4.below CkH.stay hb2
   replace h5 := h5.below FkH.stay hb2
   go_wp2_with fail
   refine (heldOInt A2 n2 c2 a2 b2 (k + s + 1 + a1.sum) _ h2 (by omega) (by omega)).mono ?_
   rintro e w3 ⟨rfl, hb3⟩
   have hz3 := hz2.trans (hb3.mono hz2.size)
   have g2 : ¬ (((k + s + 1 + a1.sum + a2.sum : Nat) : Int) < 0) := by omega
   replace q3 := below_keep hb3 _ _ q3
   replace q4 := below_keep hb3 _ _ q4
   replace q5 := below_keep hb3 _ _ q5
   replace h3 := h3.below UqH.stay hb3
   replace h4 := h4.below CkH.stay hb3
   replace h5 := h5.below FkH.stay hb3
   go_wp2_with fail
   refine (heldOUq A3 n3 c3 a3 b3 (k + s + 1 + a1.sum + a2.sum) _ h3 (by omega) (by omega)).mono ?_
   rintro e w4 ⟨rfl, hb4⟩
   have hz4 := hz3.trans (hb4.mono hz3.size)
   have g3 : ¬ (((k + s + 1 + a1.sum + a2.sum + a3.sum : Nat) : Int) < 0) := by omega
   replace q4 := below_keep hb4 _ _ q4
   replace q5 := below_keep hb4 _ _ q5
   replace h4 := h4.below CkH.stay hb4
   replace h5 := h5.below FkH.stay hb4
   go_wp2_with fail
   refine (heldOCk A4 n4 c4 a4 b4 (k + s + 1 + a1.sum + a2.sum + a3.sum) _ h4 (by omega) (by omega)).mono ?_
   rintro e w5 ⟨rfl, hb5⟩
   have hz5 := hz4.trans (hb5.mono hz4.size)
   have g4 : ¬ (((k + s + 1 + a1.sum + a2.sum + a3.sum + a4.sum : Nat) : Int) < 0) := by omega
   replace q5 := below_keep hb5 _ _ q5
   replace h5 := h5.below FkH.stay hb5
   go_wp2_with fail
   refine (heldOFk A5 n5 c5 a5 b5 (k + s + 1 + a1.sum + a2.sum + a3.sum + a4.sum) _ h5 (by omega) (by omega)).mono ?_
   rintro e w6 ⟨rfl, hb6⟩
   have hz6 := hz5.trans (hb6.mono hz5.size)
   have g5 : ¬ (((k + s + 1 + a1.sum + a2.sum + a3.sum + a4.sum + a5.sum : Nat) : Int) < 0) := by omega
   go_wp2_with fail
   go_roundw
   case rel => exact ⟨i + 1, by omega, by go_num, by rw [hs1]; exact congrArg (Value.int .i64) (by omega), hz6⟩
   case measure => simp [intOf]; omega
  ·obtain rfl : i = n := by omega
   rw [sums_all hl]
   go_wp2_with fail
   go_ret
   exact ⟨rfl, hb⟩
set_option maxRecDepth 100000 in
set_option maxHeartbeats 2000000 in
theorem marksORw (A : Option Addr) (n c : Nat) (cnts bs : List Nat) (k : Nat) (w : World) (h : ShL RwS 2 w A n cnts bs) (hk : k + cnts.sum ≤ 1073741824) {x : Int} (hx : x = k) :
  Calls Tryz.prog 57 #[.slice A n c, .int .i64 x] w fun e w' => e = .returned (.int .i64 ((k + cnts.sum : Nat) : Int)) ∧ KeptL bs w w' ∧ HdL RwH 2 w' k A n cnts bs := by
 have hn := h.1
 obtain ⟨hl, P, hP0, hP, hPn⟩ := h.walk RwS.stay RwH.stay k
 subst hx
 clear h
 go_enter Tryz.func57, Tryz.ntmps57
 go_wp2_with fail
 go_loopw [1, 5] (fun m i wr => ∃ (j : Nat), j ≤ n ∧ i = .int .i64 j ∧ m = .int .i64 ((k + (cnts.take j).sum : Nat) : Int) ∧ Hid (P j wr)) (fun _ i _ => n - (intOf i).toNat)
 case atStart => exact ⟨0, by omega, rfl, by simp, Lib.hid hP0⟩
 case round =>
  obtain ⟨i, hi, rfl, rfl, hI⟩ := hrel
  by_cases hlt : i < n
  ·obtain ⟨b, off, bs', cs, rfl, hfr, hbs, hcl, ⟨u0, A1, n1, c1, a1, b1, rfl, hcn, rfl, hA, h1⟩, hat, hb, hnext⟩ := hP i wr hlt hI.out
   have E0 := Lib.hid (show EW b (off + i * 2) (off + (i + 1) * 2) ([b1].flatten) wr wr [u0, .slice A1 n1 c1] from EW.start hat hbs hfr)
   have q0_E0 : World.cell? wr ⟨b, off + i * 2, none⟩ = some (u0) := E0.out.cell 0 _ rfl
   have f0_E0 := E0.out.fr (off + i * 2)
   have q1_E0 : World.cell? wr ⟨b, off + i * 2 + 1, none⟩ = some (.slice A1 n1 c1) := E0.out.cell 1 _ rfl
   obtain ⟨hs1, hs2⟩ := sums_step hl hlt
   have HN := Lib.hid (show ∀ W cs', EW b (off + i * 2) (off + (i + 1) * 2) ([b1].flatten) wr W cs' → cs'.length = 2 → RwH W (k + (cnts.take i).sum) cs' (cnts.getD i 0) ([b1].flatten) → P (i + 1) W from fun W cs' e h1 h2 => hnext W cs' e.nm h1 h2 e.at_)
   generalize hkk : (cnts.take i).sum = s at *
   generalize hcc : cnts.getD i 0 = cn at *
   subst hcn
   have i0 : (0 : Int) ≤ i := by omega
   have i1 : (i : Int) < n := by omega
   have hle : k + s + (1 + a1.sum) ≤ 1073741824 := by omega
   clear hnext hfr hat hP hPn hI
   have H1 := Lib.hid h1
   clear h1
   have HA := Lib.hid hA
   clear hA
   go_wp2_with fail
   refine (marksOVl A1 n1 c1 a1 b1 (k + s + 1) _ (H1.out.stay VlS.stay (by refine KeptL.set ?_ (List.mem_singleton.2 rfl); exact KeptL.refl _ _ : KeptL [b] wr _) (fun x hx hh => hb ((List.mem_singleton.1 hh) ▸ mem_flatten_getD (bss := [b1]) (i := 0) hx))) (by omega) (by omega)).mono ?_
   rintro e w1 ⟨rfl, hk1, hM1⟩
   have kk1 : KeptL (b :: b1) wr w1 := ((by refine KeptL.set ?_ (List.mem_singleton.2 rfl); exact KeptL.refl _ _ : KeptL [b] _ _).mono (fun x hx => (List.mem_singleton.1 hx) ▸ List.mem_cons_self ..)).trans (hk1.mono fun x hx => List.mem_cons_of_mem _ hx)
   have E1 := Lib.hid (show EW b (off + i * 2) (off + (i + 1) * 2) ([b1].flatten) wr w1 [.int .i64 ((k + s : Nat) : Int), .slice A1 n1 c1] from EW.turn (EW.set (cs' := [.int .i64 ((k + s : Nat) : Int), .slice A1 n1 c1]) 0 E0.out (by simp) (by simp) (by omega) (by first | rfl | exact congrArg (Value.int .i64) (by omega)) rfl) hk1 (fun x hx => mem_flatten_getD (bss := [b1]) (i := 0) hx) hb)
   replace H1 := Lib.hid hM1
   clear kk1 hk1 hM1 q0_E0 f0_E0 q1_E0
   go_wp2_with fail
   go_roundw
   case rel =>
    refine ⟨i + 1, by omega, by go_num, by rw [hs1]; exact congrArg (Value.int .i64) (by omega), Lib.hid ?_⟩
    refine HN.out _ [.int .i64 ((k + s : Nat) : Int), .slice A1 n1 c1] ?_ rfl ⟨A1, n1, c1, a1, b1, rfl, by omega, rfl, HA.out, H1.out⟩
    exact E1.out
   case measure => simp [intOf]; omega
  ·obtain rfl : i = n := by omega
   have hR := hPn _ hI.out
   rw [sums_all hl]
   go_wp2_with fail
   go_ret
   exact ⟨rfl, hR.1, hR.2⟩
set_option maxRecDepth 100000 in
set_option maxHeartbeats 2000000 in
theorem heldORw (A : Option Addr) (n c : Nat) (cnts bs : List Nat) (k : Nat) (w : World) (h : HdL RwH 2 w k A n cnts bs) (hk : k + cnts.sum ≤ 1073741824) {x : Int} (hx : x = k) :
  Calls Tryz.prog 63 #[.slice A n c, .int .i64 x] w fun e w' => e = .returned (.int .i64 ((k + cnts.sum : Nat) : Int)) ∧ Below w.heap.size w w' := by
 have hn := h.1
 have hl := h.len
 subst hx
 have HH := Lib.hid h
 clear h
 go_enter Tryz.func63, Tryz.ntmps63
 go_wp2_with fail
 go_loopw [1, 5] (fun m i wr => ∃ (j : Nat), j ≤ n ∧ i = .int .i64 j ∧ m = .int .i64 ((k + (cnts.take j).sum : Nat) : Int) ∧ Below w.heap.size w wr) (fun _ i _ => n - (intOf i).toNat)
 case atStart => exact ⟨0, by omega, rfl, by simp, Below.refl _ _⟩
 case round =>
  obtain ⟨i, hi, rfl, rfl, hb⟩ := hrel
  by_cases hlt : i < n
  ·obtain ⟨b, off, bs', cs, rfl, hcl, ⟨A1, n1, c1, a1, b1, rfl, hcn, rfl, hA, h1⟩, hat⟩ := (HH.out.below RwH.stay hb).elem hlt
   obtain ⟨hs1, hs2⟩ := sums_step hl hlt
   generalize hkk : (cnts.take i).sum = s at *
   generalize hcc : cnts.getD i 0 = cn at *
   subst hcn
   have q0 : wr.cell? ⟨b, off + i * 2, none⟩ = some (.int .i64 ((k + s : Nat) : Int)) := hat 0 _ rfl
   have q1 : wr.cell? ⟨b, off + i * 2 + 1, none⟩ = some (.slice A1 n1 c1) := hat 1 _ rfl
   have i0 : (0 : Int) ≤ i := by omega
   have i1 : (i : Int) < n := by omega
   have hle : k + s + (1 + a1.sum) ≤ 1073741824 := by omega
   clear hat
   have hz0 := hb
   go_wp2_with fail
   refine (heldOVl A1 n1 c1 a1 b1 (k + s + 1) _ h1 (by omega) (by omega)).mono ?_
   rintro e w1 ⟨rfl, hb1⟩
   have hz1 := hz0.trans (hb1.mono hz0.size)
   have g1 : ¬ (((k + s + 1 + a1.sum : Nat) : Int) < 0) := by omega
   go_wp2_with fail
   go_roundw
   case rel => exact ⟨i + 1, by omega, by go_num, by rw [hs1]; exact congrArg (Value.int .i64) (by omega), hz1⟩
   case measure => simp [intOf]; omega
  ·obtain rfl : i = n := by omega
   rw [sums_all hl]
   go_wp2_with fail
   go_ret
   exact ⟨rfl, hb⟩
set_option maxRecDepth 100000 in
set_option maxHeartbeats 2000000 in
theorem marksODt (A : Option Addr) (n c : Nat) (cnts bs : List Nat) (k : Nat) (w : World) (h : ShL DtS 1 w A n cnts bs) (hk : k + cnts.sum ≤ 1073741824) {x : Int} (hx : x = k) :
  Calls Tryz.prog 28 #[.slice A n c, .int .i64 x] w fun e w' => e = .returned (.int .i64 ((k + cnts.sum : Nat) : Int)) ∧ KeptL bs w w' ∧ HdL DtH 1 w' k A n cnts bs := by
 have hn := h.1
 obtain ⟨hl, P, hP0, hP, hPn⟩ := h.walk DtS.stay DtH.stay k
 subst hx
 clear h
 go_enter Tryz.func28, Tryz.ntmps28
 go_wp2_with fail
 go_loopw [1, 5] (fun m i wr => ∃ (j : Nat), j ≤ n ∧ i = .int .i64 j ∧ m = .int .i64 ((k + (cnts.take j).sum : Nat) : Int) ∧ Hid (P j wr)) (fun _ i _ => n - (intOf i).toNat)
 case atStart => exact ⟨0, by omega, rfl, by simp, Lib.hid hP0⟩
 case round =>
  obtain ⟨i, hi, rfl, rfl, hI⟩ := hrel
  by_cases hlt : i < n
  ·obtain ⟨b, off, bs', cs, rfl, hfr, hbs, hcl, ⟨A0, n0, c0, a0, b0, rfl, hcn, rfl, hA, h0⟩, hat, hb, hnext⟩ := hP i wr hlt hI.out
   have E0 := Lib.hid (show EW b (off + i * 1) (off + (i + 1) * 1) ([b0].flatten) wr wr [.slice A0 n0 c0] from EW.start hat hbs hfr)
   have q0_E0 : World.cell? wr ⟨b, off + i, none⟩ = some (.slice A0 n0 c0) := by have := E0.out.cell 0 _ rfl; rwa [Nat.mul_one] at this
   obtain ⟨hs1, hs2⟩ := sums_step hl hlt
   have HN := Lib.hid (show ∀ W cs', EW b (off + i * 1) (off + (i + 1) * 1) ([b0].flatten) wr W cs' → cs'.length = 1 → DtH W (k + (cnts.take i).sum) cs' (cnts.getD i 0) ([b0].flatten) → P (i + 1) W from fun W cs' e h1 h2 => hnext W cs' e.nm h1 h2 e.at_)
   generalize hkk : (cnts.take i).sum = s at *
   generalize hcc : cnts.getD i 0 = cn at *
   subst hcn
   have i0 : (0 : Int) ≤ i := by omega
   have i1 : (i : Int) < n := by omega
   have hle : k + s + (a0.sum) ≤ 1073741824 := by omega
   clear hnext hfr hat hP hPn hI
   have H0 := Lib.hid h0
   clear h0
   have HA := Lib.hid hA
   clear hA
   go_wp2_with fail
   refine (marksORw A0 n0 c0 a0 b0 (k + s) _ H0.out (by omega) (by omega)).mono ?_
   rintro e w1 ⟨rfl, hk1, hM1⟩
   have kk1 : KeptL (b :: b0) wr w1 := ((KeptL.refl _ _ : KeptL [b] _ _).mono (fun x hx => (List.mem_singleton.1 hx) ▸ List.mem_cons_self ..)).trans (hk1.mono fun x hx => List.mem_cons_of_mem _ hx)
   have E1 := Lib.hid (show EW b (off + i * 1) (off + (i + 1) * 1) ([b0].flatten) wr w1 [.slice A0 n0 c0] from EW.turn E0.out hk1 (fun x hx => mem_flatten_getD (bss := [b0]) (i := 0) hx) hb)
   replace H0 := Lib.hid hM1
   clear kk1 hk1 hM1 q0_E0
   go_wp2_with fail
   go_roundw
   case rel =>
    refine ⟨i + 1, by omega, by go_num, by rw [hs1]; exact congrArg (Value.int .i64) (by omega), Lib.hid ?_⟩
    refine HN.out _ [.slice A0 n0 c0] ?_ rfl ⟨A0, n0, c0, a0, b0, rfl, by omega, rfl, HA.out, H0.out⟩
    exact E1.out
   case measure => simp [intOf]; omega
  ·obtain rfl : i = n := by omega
   have hR := hPn _ hI.out
   rw [sums_all hl]
   go_wp2_with fail
   go_ret
   exact ⟨rfl, hR.1, hR.2⟩
set_option maxRecDepth 100000 in
set_option maxHeartbeats 2000000 in
theorem heldODt (A : Option Addr) (n c : Nat) (cnts bs : List Nat) (k : Nat) (w : World) (h : HdL DtH 1 w k A n cnts bs) (hk : k + cnts.sum ≤ 1073741824) {x : Int} (hx : x = k) :
  Calls Tryz.prog 31 #[.slice A n c, .int .i64 x] w fun e w' => e = .returned (.int .i64 ((k + cnts.sum : Nat) : Int)) ∧ Below w.heap.size w w' := by
 have hn := h.1
 have hl := h.len
 subst hx
 have HH := Lib.hid h
 clear h
 go_enter Tryz.func31, Tryz.ntmps31
 go_wp2_with fail
 go_loopw [1, 5] (fun m i wr => ∃ (j : Nat), j ≤ n ∧ i = .int .i64 j ∧ m = .int .i64 ((k + (cnts.take j).sum : Nat) : Int) ∧ Below w.heap.size w wr) (fun _ i _ => n - (intOf i).toNat)
 case atStart => exact ⟨0, by omega, rfl, by simp, Below.refl _ _⟩
 case round =>
  obtain ⟨i, hi, rfl, rfl, hb⟩ := hrel
  by_cases hlt : i < n
  ·obtain ⟨b, off, bs', cs, rfl, hcl, ⟨A0, n0, c0, a0, b0, rfl, hcn, rfl, hA, h0⟩, hat⟩ := (HH.out.below DtH.stay hb).elem hlt
   obtain ⟨hs1, hs2⟩ := sums_step hl hlt
   generalize hkk : (cnts.take i).sum = s at *
   generalize hcc : cnts.getD i 0 = cn at *
   subst hcn
   have q0 : wr.cell? ⟨b, off + i, none⟩ = some (.slice A0 n0 c0) := by have := hat 0 _ rfl; rwa [Nat.mul_one] at this
   have i0 : (0 : Int) ≤ i := by omega
   have i1 : (i : Int) < n := by omega
   have hle : k + s + (a0.sum) ≤ 1073741824 := by omega
   clear hat
   have hz0 := hb
   go_wp2_with fail
   refine (heldORw A0 n0 c0 a0 b0 (k + s) _ h0 (by omega) (by omega)).mono ?_
   rintro e w1 ⟨rfl, hb1⟩
   have hz1 := hz0.trans (hb1.mono hz0.size)
   have g0 : ¬ (((k + s + a0.sum : Nat) : Int) < 0) := by omega
   go_wp2_with fail
   go_roundw
   case rel => exact ⟨i + 1, by omega, by go_num, by rw [hs1]; exact congrArg (Value.int .i64) (by omega), hz1⟩
   case measure => simp [intOf]; omega
  ·obtain rfl : i = n := by omega
   rw [sums_all hl]
   go_wp2_with fail
   go_ret
   exact ⟨rfl, hb⟩
set_option maxRecDepth 100000 in
set_option maxHeartbeats 2000000 in
theorem marksOSv (A : Option Addr) (n c : Nat) (cnts bs : List Nat) (k : Nat) (w : World) (h : ShL SvS 2 w A n cnts bs) (hk : k + cnts.sum ≤ 1073741824) {x : Int} (hx : x = k) :
  Calls Tryz.prog 29 #[.slice A n c, .int .i64 x] w fun e w' => e = .returned (.int .i64 ((k + cnts.sum : Nat) : Int)) ∧ KeptL bs w w' ∧ HdL SvH 2 w' k A n cnts bs := by
 have hn := h.1
 obtain ⟨hl, P, hP0, hP, hPn⟩ := h.walk SvS.stay SvH.stay k
 subst hx
 clear h
 go_enter Tryz.func29, Tryz.ntmps29
 go_wp2_with fail
 go_loopw [1, 5] (fun m i wr => ∃ (j : Nat), j ≤ n ∧ i = .int .i64 j ∧ m = .int .i64 ((k + (cnts.take j).sum : Nat) : Int) ∧ Hid (P j wr)) (fun _ i _ => n - (intOf i).toNat)
 case atStart => exact ⟨0, by omega, rfl, by simp, Lib.hid hP0⟩
 case round =>
  obtain ⟨i, hi, rfl, rfl, hI⟩ := hrel
  by_cases hlt : i < n
  ·obtain ⟨b, off, bs', cs, rfl, hfr, hbs, hcl, ⟨u0, A1, n1, c1, a1, b1, rfl, hcn, rfl, hA, h1⟩, hat, hb, hnext⟩ := hP i wr hlt hI.out
   have E0 := Lib.hid (show EW b (off + i * 2) (off + (i + 1) * 2) ([b1].flatten) wr wr [u0, .slice A1 n1 c1] from EW.start hat hbs hfr)
   have q0_E0 : World.cell? wr ⟨b, off + i * 2, none⟩ = some (u0) := E0.out.cell 0 _ rfl
   have f0_E0 := E0.out.fr (off + i * 2)
   have q1_E0 : World.cell? wr ⟨b, off + i * 2 + 1, none⟩ = some (.slice A1 n1 c1) := E0.out.cell 1 _ rfl
   obtain ⟨hs1, hs2⟩ := sums_step hl hlt
   have HN := Lib.hid (show ∀ W cs', EW b (off + i * 2) (off + (i + 1) * 2) ([b1].flatten) wr W cs' → cs'.length = 2 → SvH W (k + (cnts.take i).sum) cs' (cnts.getD i 0) ([b1].flatten) → P (i + 1) W from fun W cs' e h1 h2 => hnext W cs' e.nm h1 h2 e.at_)
   generalize hkk : (cnts.take i).sum = s at *
   generalize hcc : cnts.getD i 0 = cn at *
   subst hcn
   have i0 : (0 : Int) ≤ i := by omega
   have i1 : (i : Int) < n := by omega
   have hle : k + s + (1 + a1.sum) ≤ 1073741824 := by omega
   clear hnext hfr hat hP hPn hI
   have H1 := Lib.hid h1
   clear h1
   have HA := Lib.hid hA
   clear hA
   go_wp2_with fail
   refine (lawsMarkText (k + s) _ (by omega) (by omega)).mono ?_
   rintro e w1 ⟨rfl, hb1⟩
   have kk1 : KeptL [b] wr w1 := (KeptL.refl _ _ : KeptL [b] _ _).trans (KeptL.below hb1)
   have E1 := Lib.hid (show EW b (off + i * 2) (off + (i + 1) * 2) ([b1].flatten) wr w1 [u0, .slice A1 n1 c1] from EW.below E0.out hb1 hb)
   replace H1 := Lib.hid (H1.out.stay DtS.stay kk1 (fun x hx hh => hb ((List.mem_singleton.1 hh) ▸ mem_flatten_getD (bss := [b1]) (i := 0) hx)))
   clear kk1 hb1 q0_E0 f0_E0 q1_E0
   have q0_E1 : World.cell? w1 ⟨b, off + i * 2, none⟩ = some (u0) := E1.out.cell 0 _ rfl
   have f0_E1 := E1.out.fr (off + i * 2)
   have q1_E1 : World.cell? w1 ⟨b, off + i * 2 + 1, none⟩ = some (.slice A1 n1 c1) := E1.out.cell 1 _ rfl
   go_wp2_with fail
   refine (marksODt A1 n1 c1 a1 b1 (k + s + 1) _ (H1.out.stay DtS.stay (by refine KeptL.set ?_ (List.mem_singleton.2 rfl); exact KeptL.refl _ _ : KeptL [b] w1 _) (fun x hx hh => hb ((List.mem_singleton.1 hh) ▸ mem_flatten_getD (bss := [b1]) (i := 0) hx))) (by omega) (by omega)).mono ?_
   rintro e w2 ⟨rfl, hk2, hM2⟩
   have kk2 : KeptL (b :: b1) w1 w2 := ((by refine KeptL.set ?_ (List.mem_singleton.2 rfl); exact KeptL.refl _ _ : KeptL [b] _ _).mono (fun x hx => (List.mem_singleton.1 hx) ▸ List.mem_cons_self ..)).trans (hk2.mono fun x hx => List.mem_cons_of_mem _ hx)
   have E2 := Lib.hid (show EW b (off + i * 2) (off + (i + 1) * 2) ([b1].flatten) wr w2 [.string (mtx (k + s)), .slice A1 n1 c1] from EW.turn (EW.set (cs' := [.string (mtx (k + s)), .slice A1 n1 c1]) 0 E1.out (by simp) (by simp) (by omega) rfl rfl) hk2 (fun x hx => mem_flatten_getD (bss := [b1]) (i := 0) hx) hb)
   replace H1 := Lib.hid hM2
   clear kk2 hk2 hM2 q0_E1 f0_E1 q1_E1
   go_wp2_with fail
   go_roundw
   case rel =>
    refine ⟨i + 1, by omega, by go_num, by rw [hs1]; exact congrArg (Value.int .i64) (by omega), Lib.hid ?_⟩
    refine HN.out _ [.string (mtx (k + s)), .slice A1 n1 c1] ?_ rfl ⟨A1, n1, c1, a1, b1, rfl, by omega, rfl, HA.out, H1.out⟩
    exact E2.out
   case measure => simp [intOf]; omega
  ·obtain rfl : i = n := by omega
   have hR := hPn _ hI.out
   rw [sums_all hl]
   go_wp2_with fail
   go_ret
   exact ⟨rfl, hR.1, hR.2⟩
set_option maxRecDepth 100000 in
set_option maxHeartbeats 2000000 in
theorem heldOSv (A : Option Addr) (n c : Nat) (cnts bs : List Nat) (k : Nat) (w : World) (h : HdL SvH 2 w k A n cnts bs) (hk : k + cnts.sum ≤ 1073741824) {x : Int} (hx : x = k) :
  Calls Tryz.prog 32 #[.slice A n c, .int .i64 x] w fun e w' => e = .returned (.int .i64 ((k + cnts.sum : Nat) : Int)) ∧ Below w.heap.size w w' := by
 have hn := h.1
 have hl := h.len
 subst hx
 have HH := Lib.hid h
 clear h
 go_enter Tryz.func32, Tryz.ntmps32
 go_wp2_with fail
 go_loopw [1, 5] (fun m i wr => ∃ (j : Nat), j ≤ n ∧ i = .int .i64 j ∧ m = .int .i64 ((k + (cnts.take j).sum : Nat) : Int) ∧ Below w.heap.size w wr) (fun _ i _ => n - (intOf i).toNat)
 case atStart => exact ⟨0, by omega, rfl, by simp, Below.refl _ _⟩
 case round =>
  obtain ⟨i, hi, rfl, rfl, hb⟩ := hrel
  by_cases hlt : i < n
  ·obtain ⟨b, off, bs', cs, rfl, hcl, ⟨A1, n1, c1, a1, b1, rfl, hcn, rfl, hA, h1⟩, hat⟩ := (HH.out.below SvH.stay hb).elem hlt
   obtain ⟨hs1, hs2⟩ := sums_step hl hlt
   generalize hkk : (cnts.take i).sum = s at *
   generalize hcc : cnts.getD i 0 = cn at *
   subst hcn
   have q0 : wr.cell? ⟨b, off + i * 2, none⟩ = some (.string (mtx (k + s))) := hat 0 _ rfl
   have q1 : wr.cell? ⟨b, off + i * 2 + 1, none⟩ = some (.slice A1 n1 c1) := hat 1 _ rfl
   have i0 : (0 : Int) ≤ i := by omega
   have i1 : (i : Int) < n := by omega
   have hle : k + s + (1 + a1.sum) ≤ 1073741824 := by omega
   clear hat
   have hz0 := hb
   go_wp2_with fail
   go_region_held3 (fun w' => w'.cell? ⟨b, off + i * 2, none⟩ = some (.string (mtx (k + s))))
    (first | go_keep | exact below_keep hb1 _ _ (by assumption))
    (first | (go_at_call 22; refine (lawsMarkText (k + s) _ (by omega) (by omega)).mono ?_; rintro e w1 ⟨rfl, hb1⟩))
   have hz1 := (hz0.drew).trans (hb1.mono hz0.size)
   replace q1 := below_keep hb1 _ _ (show (World.drew _).cell? _ = _ from q1)
   replace h1 := h1.below DtH.stay ((Below.refl _ _).drew.trans hb1)
   go_wp2_with fail
   refine (heldODt A1 n1 c1 a1 b1 (k + s + 1) _ h1 (by omega) (by omega)).mono ?_
   rintro e w2 ⟨rfl, hb2⟩
   have hz2 := hz1.trans (hb2.mono hz1.size)
   have g1 : ¬ (((k + s + 1 + a1.sum : Nat) : Int) < 0) := by omega
   go_wp2_with fail
   go_roundw
   case rel => exact ⟨i + 1, by omega, by go_num, by rw [hs1]; exact congrArg (Value.int .i64) (by omega), hz2⟩
   case measure => simp [intOf]; omega
  ·obtain rfl : i = n := by omega
   rw [sums_all hl]
   go_wp2_with fail
   go_ret
   exact ⟨rfl, hb⟩
def Ss.fits (x : Ss) : Prop := szL Tb.sz x.schema ≤ 1048576 ∧ szL Dt.sz x.db ≤ 1048576 ∧ szL Dt.sz x.start ≤ 1048576 ∧ szL Sv.sz x.saves ≤ 1048576
def SsO (w : World) (base : Nat) (cs : List Value) (x : Ss) (bs : List Nat) : Prop := ∃ (v0 : Value) (b0 : List Nat) (v1 : Value) (b1 : List Nat) (v3 : Value) (b3 : List Nat) (v4 : Value) (b4 : List Nat), cs = [v0, v1, .bool x.isOpen, v3, v4] ∧ OwnTr TbO 53 6 w base v0 x.schema b0 ∧ OwnTr DtO 89 1 w base v1 x.db b1 ∧ OwnTr DtO 89 1 w base v3 x.start b3 ∧ OwnTr SvO 92 2 w base v4 x.saves b4 ∧ bs = [b0, b1, b3, b4].flatten ∧ bs.Nodup
set_option maxRecDepth 100000 in
set_option maxHeartbeats 1000000 in
theorem lawsEqSessM (x : Ss) (A0 B0 : Option Addr) (n0 c0 d0 : Nat) (A1 B1 : Option Addr) (n1 c1 d1 : Nat) (A3 B3 : Option Addr) (n3 c3 d3 : Nat) (A4 B4 : Option Addr) (n4 c4 d4 : Nat) (ok ok' : Nat → Prop) (w : World) (h0 : Sl TbR 6 ok w A0 n0 x.schema) (h1 : Sl DtR 1 ok w A1 n1 x.db) (h3 : Sl DtR 1 ok w A3 n3 x.start) (h4 : Sl SvR 2 ok w A4 n4 x.saves) (k0 : Sl TbR 6 ok' w B0 n0 x.schema) (k1 : Sl DtR 1 ok' w B1 n1 x.db) (k3 : Sl DtR 1 ok' w B3 n3 x.start) (k4 : Sl SvR 2 ok' w B4 n4 x.saves) (hs : x.fits) :
  Calls Tryz.prog 8 #[.agg #[.slice A0 n0 c0, .slice A1 n1 c1, .bool x.isOpen, .slice A3 n3 c3, .slice A4 n4 c4], .agg #[.slice B0 n0 d0, .slice B1 n1 d1, .bool x.isOpen, .slice B3 n3 d3, .slice B4 n4 d4]] w fun e w' => e = .returned (.bool true) ∧ Below w.heap.size w w' := by
 have HS0 := Lib.hid hs.1
 have HS1 := Lib.hid hs.2.1
 have HS3 := Lib.hid hs.2.2.1
 have HS4 := Lib.hid hs.2.2.2
 clear hs
 have ra := (Row.new w 28 #[.slice A0 n0 c0, .slice A1 n1 c1, .bool x.isOpen, .slice A3 n3 c3, .slice A4 n4 c4]).alloc (.cells #[.slice B0 n0 d0, .slice B1 n1 d1, .bool x.isOpen, .slice B3 n3 d3, .slice B4 n4 d4] 28)
 have rb := Row.newAt (w.alloc (.cells #[.slice A0 n0 c0, .slice A1 n1 c1, .bool x.isOpen, .slice A3 n3 c3, .slice A4 n4 c4] 28)) 28 #[.slice B0 n0 d0, .slice B1 n1 d1, .bool x.isOpen, .slice B3 n3 d3, .slice B4 n4 d4] (w.heap.size + 1) (by simp)
 have hb0 := ((Below.refl w.heap.size w).alloc (Nat.le_refl _) (.cells #[.slice A0 n0 c0, .slice A1 n1 c1, .bool x.isOpen, .slice A3 n3 c3, .slice A4 n4 c4] 28)).alloc (by simp) (.cells #[.slice B0 n0 d0, .slice B1 n1 d1, .bool x.isOpen, .slice B3 n3 d3, .slice B4 n4 d4] 28)
 go_enter Tryz.func8, Tryz.ntmps8
 go_wp2_with fail
 generalize (w.alloc (.cells #[.slice A0 n0 c0, .slice A1 n1 c1, .bool x.isOpen, .slice A3 n3 c3, .slice A4 n4 c4] 28)).alloc (.cells #[.slice B0 n0 d0, .slice B1 n1 d1, .bool x.isOpen, .slice B3 n3 d3, .slice B4 n4 d4] 28) = x0 at *
 refine (lawsEqTableL A0 B0 n0 c0 d0 x.schema ok ok' _ (h0.below TbR.stays hb0) (k0.below TbR.stays hb0) HS0.out).mono ?_
 rintro e w1 ⟨rfl, hc0⟩
 have ra := ra.below hc0
 have rb := rb.below hc0
 have hb1 := hb0.trans (hc0.mono hb0.size)
 obtain ⟨⟨a_0_0, a_0_1, a_0_2, a_0_3, a_0_4⟩, -⟩ := ra.five
 obtain ⟨⟨b_0_0, b_0_1, b_0_2, b_0_3, b_0_4⟩, -⟩ := rb.five
 go_wp2_with fail
 refine (lawsEqDataL A1 B1 n1 c1 d1 x.db ok ok' _ (h1.below DtR.stays hb1) (k1.below DtR.stays hb1) HS1.out).mono ?_
 rintro e w2 ⟨rfl, hc1⟩
 have ra := ra.below hc1
 have rb := rb.below hc1
 have hb2 := hb1.trans (hc1.mono hb1.size)
 obtain ⟨⟨a_1_0, a_1_1, a_1_2, a_1_3, a_1_4⟩, -⟩ := ra.five
 obtain ⟨⟨b_1_0, b_1_1, b_1_2, b_1_3, b_1_4⟩, -⟩ := rb.five
 go_wp2_with fail
 refine (lawsEqDataL A3 B3 n3 c3 d3 x.start ok ok' _ (h3.below DtR.stays hb2) (k3.below DtR.stays hb2) HS3.out).mono ?_
 rintro e w3 ⟨rfl, hc2⟩
 have ra := ra.below hc2
 have rb := rb.below hc2
 have hb3 := hb2.trans (hc2.mono hb2.size)
 obtain ⟨⟨a_2_0, a_2_1, a_2_2, a_2_3, a_2_4⟩, -⟩ := ra.five
 obtain ⟨⟨b_2_0, b_2_1, b_2_2, b_2_3, b_2_4⟩, -⟩ := rb.five
 go_wp2_with fail
 refine (lawsEqSaveL A4 B4 n4 c4 d4 x.saves ok ok' _ (h4.below SvR.stays hb3) (k4.below SvR.stays hb3) HS4.out).mono ?_
 rintro e w4 ⟨rfl, hc3⟩
 have ra := ra.below hc3
 have rb := rb.below hc3
 have hb4 := hb3.trans (hc3.mono hb3.size)
 obtain ⟨⟨a_3_0, a_3_1, a_3_2, a_3_3, a_3_4⟩, -⟩ := ra.five
 obtain ⟨⟨b_3_0, b_3_1, b_3_2, b_3_3, b_3_4⟩, -⟩ := rb.five
 go_wp2_with fail
 go_ret
 exact ⟨rfl, hb4⟩
theorem SsO.dep {w w' : World} {base : Nat} {cs : List Value} {x : Ss} {bs : List Nat} (h : SsO w base cs x bs) (hd : ∀ b ∈ bs, w'.heap[b]? = w.heap[b]?) : SsO w' base cs x bs := by
 obtain ⟨v0, b0, v1, b1, v3, b3, v4, b4, e, h0, h1, h3, h4, e2, hn⟩ := h
 exact ⟨v0, b0, v1, b1, v3, b3, v4, b4, e, h0.dep TbO.good (fun b hb => hd b (by rw [e2]; exact mem_flatten_getD (bss := [b0, b1, b3, b4]) (i := 0) hb)), h1.dep DtO.good (fun b hb => hd b (by rw [e2]; exact mem_flatten_getD (bss := [b0, b1, b3, b4]) (i := 1) hb)), h3.dep DtO.good (fun b hb => hd b (by rw [e2]; exact mem_flatten_getD (bss := [b0, b1, b3, b4]) (i := 2) hb)), h4.dep SvO.good (fun b hb => hd b (by rw [e2]; exact mem_flatten_getD (bss := [b0, b1, b3, b4]) (i := 3) hb)), e2, hn⟩
theorem SsO.lt {w : World} {base : Nat} {cs : List Value} {x : Ss} {bs : List Nat} (h : SsO w base cs x bs) : ∀ b ∈ bs, base ≤ b ∧ b < w.heap.size := by
 obtain ⟨v0, b0, v1, b1, v3, b3, v4, b4, e, h0, h1, h3, h4, e2, hn⟩ := h
 intro b hb
 rw [e2] at hb
 simp only [List.flatten_cons, List.flatten_nil, List.append_nil, List.mem_append] at hb
 rcases hb with hb | hb | hb | hb
 ·exact h0.lt TbO.good b hb
 ·exact h1.lt DtO.good b hb
 ·exact h3.lt DtO.good b hb
 ·exact h4.lt SvO.good b hb
theorem SsO.below {w w' : World} {base : Nat} {cs : List Value} {x : Ss} {bs : List Nat} (h : SsO w base cs x bs) (hb : Below w.heap.size w w') : SsO w' base cs x bs := h.dep fun b hb' => hb.block b (h.lt b hb').2
theorem SsO.mono {w : World} {base base' : Nat} {cs : List Value} {x : Ss} {bs : List Nat} (h : SsO w base cs x bs) (hb : base' ≤ base) : SsO w base' cs x bs := by
 obtain ⟨v0, b0, v1, b1, v3, b3, v4, b4, e, h0, h1, h3, h4, e2, hn⟩ := h
 exact ⟨v0, b0, v1, b1, v3, b3, v4, b4, e, h0.mono TbO.good hb, h1.mono DtO.good hb, h3.mono DtO.good hb, h4.mono SvO.good hb, e2, hn⟩
theorem SsO.open_ {w : World} {base : Nat} {cs : List Value} {x : Ss} {bs : List Nat} (h : SsO w base cs x bs) (hf : x.fits) :
  ∃ (A0 : Option Addr) (c0 : Nat) (A1 : Option Addr) (c1 : Nat) (A3 : Option Addr) (c3 : Nat) (A4 : Option Addr) (c4 : Nat) (b0 b1 b3 b4 : List Nat), cs = [.slice A0 x.schema.length c0, .slice A1 x.db.length c1, .bool x.isOpen, .slice A3 x.start.length c3, .slice A4 x.saves.length c4] ∧
   (Sl TbR 6 (okF base w) w A0 x.schema.length x.schema ∧ Sl DtR 1 (okF base w) w A1 x.db.length x.db ∧ Sl DtR 1 (okF base w) w A3 x.start.length x.start ∧ Sl SvR 2 (okF base w) w A4 x.saves.length x.saves) ∧
   (ShL TbS 6 w A0 x.schema.length (x.schema.map Tb.cnt) b0 ∧ ShL DtS 1 w A1 x.db.length (x.db.map Dt.cnt) b1 ∧ ShL DtS 1 w A3 x.start.length (x.start.map Dt.cnt) b3 ∧ ShL SvS 2 w A4 x.saves.length (x.saves.map Sv.cnt) b4) ∧ ApartL [b0, b1, b3, b4] ∧ bs = [b0, b1, b3, b4].flatten ∧ x.schema.length ≤ c0 ∧ x.db.length ≤ c1 ∧ x.start.length ≤ c3 ∧ x.saves.length ≤ c4 := by
 obtain ⟨v0, b0, v1, b1, v3, b3, v4, b4, e, h0, h1, h3, h4, e2, hn⟩ := h
 obtain ⟨f0, f1, f3, f4⟩ := hf
 obtain ⟨A0, c0, rfl, p0, -, r0⟩ := h0.sl TbO.good (fun cs x bs h => TbO.toR h)
 obtain ⟨A0', c0', e0, s0⟩ := h0.sh (cnt := Tb.cnt) TbO.good TbO.out (by unfold szL at f0; omega) (fun cs y bs hm h => TbO.toS h (by have := szL_mem Tb.sz x.schema y hm; omega))
 obtain ⟨rfl, rfl⟩ : A0 = A0' ∧ c0 = c0' := by cases e0; exact ⟨rfl, rfl⟩
 obtain ⟨A1, c1, rfl, p1, -, r1⟩ := h1.sl DtO.good (fun cs x bs h => DtO.toR h)
 obtain ⟨A1', c1', e1, s1⟩ := h1.sh (cnt := Dt.cnt) DtO.good DtO.out (by unfold szL at f1; omega) (fun cs y bs hm h => DtO.toS h (by have := szL_mem Dt.sz x.db y hm; omega))
 obtain ⟨rfl, rfl⟩ : A1 = A1' ∧ c1 = c1' := by cases e1; exact ⟨rfl, rfl⟩
 obtain ⟨A3, c3, rfl, p3, -, r3⟩ := h3.sl DtO.good (fun cs x bs h => DtO.toR h)
 obtain ⟨A3', c3', e3, s3⟩ := h3.sh (cnt := Dt.cnt) DtO.good DtO.out (by unfold szL at f3; omega) (fun cs y bs hm h => DtO.toS h (by have := szL_mem Dt.sz x.start y hm; omega))
 obtain ⟨rfl, rfl⟩ : A3 = A3' ∧ c3 = c3' := by cases e3; exact ⟨rfl, rfl⟩
 obtain ⟨A4, c4, rfl, p4, -, r4⟩ := h4.sl SvO.good (fun cs x bs h => SvO.toR h)
 obtain ⟨A4', c4', e4, s4⟩ := h4.sh (cnt := Sv.cnt) SvO.good SvO.out (by unfold szL at f4; omega) (fun cs y bs hm h => SvO.toS h (by have := szL_mem Sv.sz x.saves y hm; omega))
 obtain ⟨rfl, rfl⟩ : A4 = A4' ∧ c4 = c4' := by cases e4; exact ⟨rfl, rfl⟩
 subst e2
 exact ⟨A0, c0, A1, c1, A3, c3, A4, c4, b0, b1, b3, b4, e, ⟨r0, r1, r3, r4⟩, ⟨s0, s1, s3, s4⟩, ApartL.of hn, rfl, p0, p1, p3, p4⟩
set_option maxRecDepth 100000 in
set_option maxHeartbeats 2000000 in
theorem marksSess (A0 : Option Addr) (n0 c0 : Nat) (a0 b0 : List Nat) (A1 : Option Addr) (n1 c1 : Nat) (a1 b1 : List Nat) (A3 : Option Addr) (n3 c3 : Nat) (a3 b3 : List Nat) (A4 : Option Addr) (n4 c4 : Nat) (a4 b4 : List Nat) (o : Bool) (k : Nat) (w : World) (h0 : ShL TbS 6 w A0 n0 a0 b0) (h1 : ShL DtS 1 w A1 n1 a1 b1) (h3 : ShL DtS 1 w A3 n3 a3 b3) (h4 : ShL SvS 2 w A4 n4 a4 b4) (hA : ApartL [b0, b1, b3, b4]) (hlt : ∀ b ∈ [b0, b1, b3, b4].flatten, b < w.heap.size) (hk : k + a0.sum + a1.sum + a3.sum + a4.sum ≤ 1073741824) {x : Int} (hx : x = k) :
  Calls Tryz.prog 11 #[.agg #[.slice A0 n0 c0, .slice A1 n1 c1, .bool o, .slice A3 n3 c3, .slice A4 n4 c4], .int .i64 x] w fun e w' => e = .returned (.int .i64 ((k + a0.sum + a1.sum + a3.sum + a4.sum : Nat) : Int)) ∧ KeptL [b0, b1, b3, b4].flatten w w' ∧ HdL TbH 6 w' (k) A0 n0 a0 b0 ∧ HdL DtH 1 w' (k + a0.sum) A1 n1 a1 b1 ∧ HdL DtH 1 w' (k + a0.sum + a1.sum) A3 n3 a3 b3 ∧ HdL SvH 2 w' (k + a0.sum + a1.sum + a3.sum) A4 n4 a4 b4 := by
 subst hx
 have ra := Row.new w 28 #[.slice A0 n0 c0, .slice A1 n1 c1, .bool o, .slice A3 n3 c3, .slice A4 n4 c4]
 have hz0 := (Below.refl w.heap.size w).alloc (Nat.le_refl _) (.cells #[.slice A0 n0 c0, .slice A1 n1 c1, .bool o, .slice A3 n3 c3, .slice A4 n4 c4] 28)
 have HA := Lib.hid hA
 clear hA
 have HLT := Lib.hid hlt
 clear hlt
 have H0 := Lib.hid (h0.stay TbS.stay (KeptL.below (bs := []) hz0) (fun _ _ => List.not_mem_nil))
 have H1 := Lib.hid (h1.stay DtS.stay (KeptL.below (bs := []) hz0) (fun _ _ => List.not_mem_nil))
 have H3 := Lib.hid (h3.stay DtS.stay (KeptL.below (bs := []) hz0) (fun _ _ => List.not_mem_nil))
 have H4 := Lib.hid (h4.stay SvS.stay (KeptL.below (bs := []) hz0) (fun _ _ => List.not_mem_nil))
 clear h0 h1 h3 h4
 go_enter Tryz.func11, Tryz.ntmps11
 go_wp2_with fail
 generalize w.alloc (.cells #[.slice A0 n0 c0, .slice A1 n1 c1, .bool o, .slice A3 n3 c3, .slice A4 n4 c4] 28) = z at *
 have hK0 : KeptL [b0, b1, b3, b4].flatten w z := KeptL.below hz0
 have RA := Lib.hid ra
 clear ra
 have HK0 := Lib.hid hK0
 clear hK0 hz0
 refine (marksOTb A0 n0 c0 a0 b0 (k) _ H0.out (by omega) (by first | rfl | omega)).mono ?_
 rintro e w1 ⟨rfl, hk1, hm1⟩
 have hg1 : w.heap.size ∉ b0 := fun hh => by have := HLT.out w.heap.size (mem_flatten_getD (bss := [b0, b1, b3, b4]) (i := 0) hh); omega
 have ra := (hk1.block w.heap.size (lt_of_block RA.out) hg1).trans RA.out
 have RA1 := Lib.hid (show Row w1 w.heap.size 28 #[.slice A0 n0 c0, .slice A1 n1 c1, .bool o, .slice A3 n3 c3, .slice A4 n4 c4] from ra)
 clear RA ra hg1
 have RA := RA1
 clear RA1
 have HK1 := Lib.hid (HK0.out.trans (hk1.mono (fun x hx => mem_flatten_getD (bss := [b0, b1, b3, b4]) (i := 0) hx)))
 replace H0 := Lib.hid hm1
 replace H1 := Lib.hid (H1.out.stay DtS.stay hk1 (fun x hx hh => absurd (HA.out 1 0 x hx hh) (by decide)))
 replace H3 := Lib.hid (H3.out.stay DtS.stay hk1 (fun x hx hh => absurd (HA.out 2 0 x hx hh) (by decide)))
 replace H4 := Lib.hid (H4.out.stay SvS.stay hk1 (fun x hx hh => absurd (HA.out 3 0 x hx hh) (by decide)))
 clear hk1 hm1
 obtain ⟨⟨p0, p1, p2, p3, p4⟩, -⟩ := Row.five RA.out
 go_wp2_with fail
 clear p0 p1 p2 p3 p4
 refine (marksODt A1 n1 c1 a1 b1 (k + a0.sum) _ H1.out (by omega) (by first | rfl | omega)).mono ?_
 rintro e w2 ⟨rfl, hk2, hm2⟩
 have hg2 : w.heap.size ∉ b1 := fun hh => by have := HLT.out w.heap.size (mem_flatten_getD (bss := [b0, b1, b3, b4]) (i := 1) hh); omega
 have ra := (hk2.block w.heap.size (lt_of_block RA.out) hg2).trans RA.out
 have RA2 := Lib.hid (show Row w2 w.heap.size 28 #[.slice A0 n0 c0, .slice A1 n1 c1, .bool o, .slice A3 n3 c3, .slice A4 n4 c4] from ra)
 clear RA ra hg2
 have RA := RA2
 clear RA2
 have HK2 := Lib.hid (HK1.out.trans (hk2.mono (fun x hx => mem_flatten_getD (bss := [b0, b1, b3, b4]) (i := 1) hx)))
 replace H0 := Lib.hid (H0.out.stay TbH.stay hk2 (fun x hx hh => absurd (HA.out 0 1 x hx hh) (by decide)))
 replace H1 := Lib.hid hm2
 replace H3 := Lib.hid (H3.out.stay DtS.stay hk2 (fun x hx hh => absurd (HA.out 2 1 x hx hh) (by decide)))
 replace H4 := Lib.hid (H4.out.stay SvS.stay hk2 (fun x hx hh => absurd (HA.out 3 1 x hx hh) (by decide)))
 clear hk2 hm2
 obtain ⟨⟨p0, p1, p2, p3, p4⟩, -⟩ := Row.five RA.out
 go_wp2_with fail
 clear p0 p1 p2 p3 p4
 refine (marksODt A3 n3 c3 a3 b3 (k + a0.sum + a1.sum) _ H3.out (by omega) (by first | rfl | omega)).mono ?_
 rintro e w3 ⟨rfl, hk3, hm3⟩
 have hg3 : w.heap.size ∉ b3 := fun hh => by have := HLT.out w.heap.size (mem_flatten_getD (bss := [b0, b1, b3, b4]) (i := 2) hh); omega
 have ra := (hk3.block w.heap.size (lt_of_block RA.out) hg3).trans RA.out
 have RA3 := Lib.hid (show Row w3 w.heap.size 28 #[.slice A0 n0 c0, .slice A1 n1 c1, .bool o, .slice A3 n3 c3, .slice A4 n4 c4] from ra)
 clear RA ra hg3
 have RA := RA3
 clear RA3
 have HK3 := Lib.hid (HK2.out.trans (hk3.mono (fun x hx => mem_flatten_getD (bss := [b0, b1, b3, b4]) (i := 2) hx)))
 replace H0 := Lib.hid (H0.out.stay TbH.stay hk3 (fun x hx hh => absurd (HA.out 0 2 x hx hh) (by decide)))
 replace H1 := Lib.hid (H1.out.stay DtH.stay hk3 (fun x hx hh => absurd (HA.out 1 2 x hx hh) (by decide)))
 replace H3 := Lib.hid hm3
 replace H4 := Lib.hid (H4.out.stay SvS.stay hk3 (fun x hx hh => absurd (HA.out 3 2 x hx hh) (by decide)))
 clear hk3 hm3
 obtain ⟨⟨p0, p1, p2, p3, p4⟩, -⟩ := Row.five RA.out
 go_wp2_with fail
 clear p0 p1 p2 p3 p4
 refine (marksOSv A4 n4 c4 a4 b4 (k + a0.sum + a1.sum + a3.sum) _ H4.out (by omega) (by first | rfl | omega)).mono ?_
 rintro e w4 ⟨rfl, hk4, hm4⟩
 have hg4 : w.heap.size ∉ b4 := fun hh => by have := HLT.out w.heap.size (mem_flatten_getD (bss := [b0, b1, b3, b4]) (i := 3) hh); omega
 have ra := (hk4.block w.heap.size (lt_of_block RA.out) hg4).trans RA.out
 have RA4 := Lib.hid (show Row w4 w.heap.size 28 #[.slice A0 n0 c0, .slice A1 n1 c1, .bool o, .slice A3 n3 c3, .slice A4 n4 c4] from ra)
 clear RA ra hg4
 have RA := RA4
 clear RA4
 have HK4 := Lib.hid (HK3.out.trans (hk4.mono (fun x hx => mem_flatten_getD (bss := [b0, b1, b3, b4]) (i := 3) hx)))
 replace H0 := Lib.hid (H0.out.stay TbH.stay hk4 (fun x hx hh => absurd (HA.out 0 3 x hx hh) (by decide)))
 replace H1 := Lib.hid (H1.out.stay DtH.stay hk4 (fun x hx hh => absurd (HA.out 1 3 x hx hh) (by decide)))
 replace H3 := Lib.hid (H3.out.stay DtH.stay hk4 (fun x hx hh => absurd (HA.out 2 3 x hx hh) (by decide)))
 replace H4 := Lib.hid hm4
 clear hk4 hm4
 go_wp2_with fail
 go_ret
 exact ⟨rfl, HK4.out, H0.out, H1.out, H3.out, H4.out⟩
set_option maxRecDepth 100000 in
set_option maxHeartbeats 2000000 in
theorem heldSess (A0 : Option Addr) (n0 c0 : Nat) (a0 b0 : List Nat) (A1 : Option Addr) (n1 c1 : Nat) (a1 b1 : List Nat) (A3 : Option Addr) (n3 c3 : Nat) (a3 b3 : List Nat) (A4 : Option Addr) (n4 c4 : Nat) (a4 b4 : List Nat) (o : Bool) (k : Nat) (w : World) (h0 : HdL TbH 6 w (k) A0 n0 a0 b0) (h1 : HdL DtH 1 w (k + a0.sum) A1 n1 a1 b1) (h3 : HdL DtH 1 w (k + a0.sum + a1.sum) A3 n3 a3 b3) (h4 : HdL SvH 2 w (k + a0.sum + a1.sum + a3.sum) A4 n4 a4 b4) (hk : k + a0.sum + a1.sum + a3.sum + a4.sum ≤ 1073741824) {x : Int} (hx : x = k) :
  Calls Tryz.prog 12 #[.agg #[.slice A0 n0 c0, .slice A1 n1 c1, .bool o, .slice A3 n3 c3, .slice A4 n4 c4], .int .i64 x] w fun e w' => e = .returned (.int .i64 ((k + a0.sum + a1.sum + a3.sum + a4.sum : Nat) : Int)) ∧ Below w.heap.size w w' := by
 subst hx
 have ra := Row.new w 28 #[.slice A0 n0 c0, .slice A1 n1 c1, .bool o, .slice A3 n3 c3, .slice A4 n4 c4]
 have hz0 := (Below.refl w.heap.size w).alloc (Nat.le_refl _) (.cells #[.slice A0 n0 c0, .slice A1 n1 c1, .bool o, .slice A3 n3 c3, .slice A4 n4 c4] 28)
 have H0 := Lib.hid (h0.below TbH.stay hz0)
 have H1 := Lib.hid (h1.below DtH.stay hz0)
 have H3 := Lib.hid (h3.below DtH.stay hz0)
 have H4 := Lib.hid (h4.below SvH.stay hz0)
 clear h0 h1 h3 h4
 go_enter Tryz.func12, Tryz.ntmps12
 go_wp2_with fail
 generalize w.alloc (.cells #[.slice A0 n0 c0, .slice A1 n1 c1, .bool o, .slice A3 n3 c3, .slice A4 n4 c4] 28) = z at *
 refine (heldOTb A0 n0 c0 a0 b0 (k) _ H0.out (by omega) (by first | rfl | omega)).mono ?_
 rintro e w1 ⟨rfl, hk1⟩
 have hz1 := hz0.trans (hk1.mono hz0.size)
 have ra := ra.below hk1
 replace H0 := Lib.hid (H0.out.below TbH.stay hk1)
 replace H1 := Lib.hid (H1.out.below DtH.stay hk1)
 replace H3 := Lib.hid (H3.out.below DtH.stay hk1)
 replace H4 := Lib.hid (H4.out.below SvH.stay hk1)
 have g0 : ¬ (((k + a0.sum : Nat) : Int) < 0) := by omega
 obtain ⟨⟨p0, p1, p2, p3, p4⟩, -⟩ := ra.five
 go_wp2_with fail
 clear p0 p1 p2 p3 p4 g0
 refine (heldODt A1 n1 c1 a1 b1 (k + a0.sum) _ H1.out (by omega) (by first | rfl | omega)).mono ?_
 rintro e w2 ⟨rfl, hk2⟩
 have hz2 := hz1.trans (hk2.mono hz1.size)
 have ra := ra.below hk2
 replace H0 := Lib.hid (H0.out.below TbH.stay hk2)
 replace H1 := Lib.hid (H1.out.below DtH.stay hk2)
 replace H3 := Lib.hid (H3.out.below DtH.stay hk2)
 replace H4 := Lib.hid (H4.out.below SvH.stay hk2)
 have g1 : ¬ (((k + a0.sum + a1.sum : Nat) : Int) < 0) := by omega
 obtain ⟨⟨p0, p1, p2, p3, p4⟩, -⟩ := ra.five
 go_wp2_with fail
 clear p0 p1 p2 p3 p4 g1
 refine (heldODt A3 n3 c3 a3 b3 (k + a0.sum + a1.sum) _ H3.out (by omega) (by first | rfl | omega)).mono ?_
 rintro e w3 ⟨rfl, hk3⟩
 have hz3 := hz2.trans (hk3.mono hz2.size)
 have ra := ra.below hk3
 replace H0 := Lib.hid (H0.out.below TbH.stay hk3)
 replace H1 := Lib.hid (H1.out.below DtH.stay hk3)
 replace H3 := Lib.hid (H3.out.below DtH.stay hk3)
 replace H4 := Lib.hid (H4.out.below SvH.stay hk3)
 have g2 : ¬ (((k + a0.sum + a1.sum + a3.sum : Nat) : Int) < 0) := by omega
 obtain ⟨⟨p0, p1, p2, p3, p4⟩, -⟩ := ra.five
 go_wp2_with fail
 clear p0 p1 p2 p3 p4 g2
 refine (heldOSv A4 n4 c4 a4 b4 (k + a0.sum + a1.sum + a3.sum) _ H4.out (by omega) (by first | rfl | omega)).mono ?_
 rintro e w4 ⟨rfl, hk4⟩
 have hz4 := hz3.trans (hk4.mono hz3.size)
 have ra := ra.below hk4
 replace H0 := Lib.hid (H0.out.below TbH.stay hk4)
 replace H1 := Lib.hid (H1.out.below DtH.stay hk4)
 replace H3 := Lib.hid (H3.out.below DtH.stay hk4)
 replace H4 := Lib.hid (H4.out.below SvH.stay hk4)
 have g3 : ¬ (((k + a0.sum + a1.sum + a3.sum + a4.sum : Nat) : Int) < 0) := by omega
 go_wp2_with fail
 go_ret
 exact ⟨rfl, hz4⟩
end Go.Proofs.YthamekdjfoepmaaGreat
namespace Go.Proofs.YthamekdjfoepmaaGreat
open Go.RowKit Go.Maps
set_option maxRecDepth 100000 in
set_option maxHeartbeats 2000000 in
theorem implSchemaOk (AS : Option Addr) (nS cS : Nat) (s : List Tb) (ok : Nat → Prop) (w : World) (hs : Sl TbR 6 ok w AS nS s) (hsz : szL Tb.sz s ≤ 1048576) :
  Calls Tryz.prog 46 #[.slice AS nS cS] w fun e w' => e = .returned (.bool (schemaB s)) ∧ Below w.heap.size w w' := by
 obtain rfl : s.length = nS := hs.1
 have hn : s.length ≤ 1048576 := by unfold szL at hsz; omega
 have HSZ := Lib.hid hsz
 have HT := Lib.hid (fun k (hlt : k < s.length) => show s[k].sz ≤ 1048576 by have := HSZ.out; have := sum_mem_le Tb.sz s k hlt; unfold szL at *; omega)
 clear hsz
 by_cases h5 : 5 < (s.length : Int)
 ·have HF := Lib.hid (show schemaB s = false by unfold schemaB; rw [decide_eq_false (by omega)]; rfl)
  go_enter Tryz.func46, Tryz.ntmps46
  go_wp2
  go_ret
  exact ⟨retB HF.out.symm, Below.refl _ _⟩
 have h5' : decide (5 < (s.length : Int)) = false := by simpa using h5
 have H5 := Lib.hid (show decide (s.length ≤ 5) = true from decide_eq_true (by omega))
 go_enter Tryz.func46, Tryz.ntmps46
 go_wp2_with fail
 go_loopw [13] (fun i wr => ∃ k : Nat, k ≤ s.length ∧ i = .int .i64 k ∧ Hid ((s.take k).all tableB = true) ∧ Below w.heap.size w wr) (fun i _ => s.length - (intOf i).toNat)
 case atStart => exact ⟨0, by omega, rfl, Lib.hid (by simp), Below.refl _ _⟩
 case round =>
  obtain ⟨k, hk, rfl, hall, hb⟩ := hrel
  by_cases hlt : k < s.length
  ·obtain ⟨b, off, A1, n1, c1, A2, n2, c2, A3, n3, c3, A4, n4, c4, A5, n5, c5, -, rfl, q0, q1, q2, q3, q4, q5, s1, s2, s3, s4, s5, -⟩ := TbR.at_ (hs.below TbR.stays hb) hlt
   have hsn := all_take tableB s k hlt
   rw [hall.out, Bool.true_and] at hsn
   have hno := fun hf => all_no tableB s k hlt hf
   have HX := Lib.hid (HT.out k hlt)
   have hbx := (Below.refl wr.heap.size wr).alloc (Nat.le_refl _) (.cells #[.string s[k].name, .slice A1 n1 c1, .slice A2 n2 c2, .slice A3 n3 c3, .slice A4 n4 c4, .slice A5 n5 c5] 53)
   have hba := hb.trans (hbx.mono hb.size)
   have r0 := Row.new wr 53 #[.string s[k].name, .slice A1 n1 c1, .slice A2 n2 c2, .slice A3 n3 c3, .slice A4 n4 c4, .slice A5 n5 c5]
   obtain ⟨⟨f0, f1, f2, f3, f4, f5⟩, -⟩ := r0.all6
   have HC := Lib.hid (implTableOk s[k] A1 n1 c1 A2 n2 c2 A3 n3 c3 A4 n4 c4 A5 n5 c5 ok _ (s1.below ClR.stays hbx) (s2.below IntR.stays hbx) (s3.below UqR.stays hbx) (s4.below CkR.stays hbx) (s5.below FkR.stays hbx) HX.out)
   cases hc : tableB s[k]
   ·have HCC := Lib.hid hc
    have HF := Lib.hid (show schemaB s = false by unfold schemaB; rw [hno hc]; simp)
    clear hsn hno hall hc
    go_wp2_with fail
    refine HC.out.mono ?_
    rintro e w1 ⟨rfl, hb1⟩
    rw [HCC.out]
    clear HC
    go_wp2_with fail
    go_ret
    exact ⟨retB HF.out.symm, hba.trans (hb1.mono hba.size)⟩
   ·have HCC := Lib.hid hc
    have HA := Lib.hid (hsn.trans hc)
    clear hsn hno hall hc
    go_wp2_with fail
    refine HC.out.mono ?_
    rintro e w1 ⟨rfl, hb1⟩
    rw [HCC.out]
    clear HC
    go_wp2_with fail
    go_roundw
    case rel => exact ⟨k + 1, by omega, by go_num, Lib.hid HA.out, hba.trans (hb1.mono hba.size)⟩
    case measure => simp [intOf]; omega
  ·have e : s.take k = s := List.take_of_length_le (by omega)
   have g1 := hall.out
   rw [e] at g1
   have HALL := Lib.hid g1
   have HU := Lib.hid (cntGo_uniq (s.map Tb.name) [])
   clear e g1 hall
   go_wp2_with fail
   refine (implTablePlaces AS s.length cS s ok _ (hs.below TbR.stays hb) HSZ.out).mono ?_
   rintro e w1 ⟨bm, rfl, hp, hbb, hb1⟩
   have hbz := hb.trans (hb1.mono hb.size)
   obtain ⟨D, p1, p2, p3, p4, p5⟩ := id hp
   clear p2 p3 p4
   have hu := HU.out
   rw [← p5, List.length_map] at hu
   clear p5
   cases huq : uniqGo [] (s.map Tb.name)
   ·have hne : ¬ ((Maps.size D : Int) = s.length) := by
     rw [huq] at hu; have := beq_eq_false_iff_ne.1 hu; omega
    have HF := Lib.hid (show schemaB s = false by unfold schemaB; rw [huq]; simp)
    clear hu huq
    go_wp2_with (first | (at_len; refine wpList_len_own _ rfl _ 123 rfl 9 2 Tryz.underlying123 _ bm _ D rfl p1 ?_))
    go_ret
    exact ⟨retB HF.out.symm, hbz⟩
   have heq : (Maps.size D : Int) = s.length := by rw [huq] at hu; have : Maps.size D = s.length := by simpa using hu
                                                   omega
   have HUQ := Lib.hid huq
   clear hu huq hk hlt
   go_wp2_with (first | (at_len; refine wpList_len_own _ rfl _ 123 rfl 9 2 Tryz.underlying123 _ bm _ D rfl p1 ?_))
   clear heq p1
   go_loopw [30] (fun i wr => ∃ k : Nat, k ≤ s.length ∧ i = .int .i64 k ∧ Hid ((s.take k).all (leadsB s) = true) ∧ PlacesIn wr bm (s.map Tb.name) ∧ Below w.heap.size w wr) (fun i _ => s.length - (intOf i).toNat)
   case atStart => exact ⟨0, by omega, rfl, Lib.hid (by simp), hp, hbz⟩
   case round =>
    clear hp hbz hb1 hb
    obtain ⟨k, hk, rfl, hall, hp, hb⟩ := hrel
    by_cases hlt : k < s.length
    ·obtain ⟨b, off, A1, n1, c1, A2, n2, c2, A3, n3, c3, A4, n4, c4, A5, n5, c5, -, ea, q0, q1, q2, q3, q4, q5, s1, s2, s3, s4, s5, -⟩ := TbR.at_ (hs.below TbR.stays hb) hlt
     subst ea
     have hsn := all_take (leadsB s) s k hlt
     rw [hall.out, Bool.true_and] at hsn
     have hno := fun hf => all_no (leadsB s) s k hlt hf
     have HX := Lib.hid (HT.out k hlt)
     have HTB := Lib.hid (show tableB s[k] = true from List.all_eq_true.1 HALL.out _ (List.getElem_mem hlt))
     have hbx := (Below.refl wr.heap.size wr).alloc (Nat.le_refl _) (.cells #[.string s[k].name, .slice A1 n1 c1, .slice A2 n2 c2, .slice A3 n3 c3, .slice A4 n4 c4, .slice A5 n5 c5] 53)
     have hba := hb.trans (hbx.mono hb.size)
     have hp1 := hp.below hbx
     have r0 := Row.new wr 53 #[.string s[k].name, .slice A1 n1 c1, .slice A2 n2 c2, .slice A3 n3 c3, .slice A4 n4 c4, .slice A5 n5 c5]
     obtain ⟨⟨f0, f1, f2, f3, f4, f5⟩, -⟩ := r0.all6
     have HC := Lib.hid (implFksLead s s[k] _ s.length cS bm A1 n1 c1 A2 n2 c2 A3 n3 c3 A4 n4 c4 A5 n5 c5 ok _ (hs.below TbR.stays hba) hp1 (s1.below ClR.stays hbx) (s5.below FkR.stays hbx) HTB.out HALL.out HSZ.out HX.out)
     cases hc : leadsB s s[k]
     ·have HCC := Lib.hid hc
      have HF := Lib.hid (show schemaB s = false by unfold schemaB; rw [hno hc]; simp)
      clear hsn hno hall hc
      go_wp2_with fail
      refine HC.out.mono ?_
      rintro e w1 ⟨rfl, hb1⟩
      rw [HCC.out]
      clear HC
      go_wp2_with fail
      go_ret
      exact ⟨retB HF.out.symm, hba.trans (hb1.mono hba.size)⟩
     ·have HCC := Lib.hid hc
      have HA := Lib.hid (hsn.trans hc)
      clear hsn hno hall hc
      go_wp2_with fail
      refine HC.out.mono ?_
      rintro e w1 ⟨rfl, hb1⟩
      rw [HCC.out]
      clear HC
      go_wp2_with fail
      go_roundw
      case rel => exact ⟨k + 1, by omega, by go_num, Lib.hid HA.out, hp1.below hb1, hba.trans (hb1.mono hba.size)⟩
      case measure => simp [intOf]; omega
    ·have e : s.take k = s := List.take_of_length_le (by omega)
     have g1 := hall.out
     rw [e] at g1
     have HF := Lib.hid (show schemaB s = true by unfold schemaB; rw [H5.out, HALL.out, HUQ.out, g1]; rfl)
     clear e g1 hall
     go_wp2_with fail
     go_ret
     exact ⟨retB HF.out.symm, hb⟩
end Go.Proofs.YthamekdjfoepmaaGreat
namespace Go.Proofs.YthamekdjfoepmaaGreat
open Go.ChangeShapes Go.WideShapes Go.ChangeAt Go.RowKit Go.Joins Go.Deep
theorem Int_of_trod {H : Type} {enc : TypeId × Value → H} {W : World} {fuel : Nat} {cs : List Value} {x : DataW H × List MemPlace} (h : DataW.trod enc Tryz.prog W 0 (fun _ => true) true fuel 2 cs = some x) : ∃ d, IntR (fun _ => True) W cs d ∧ (Lit.int .i64 d).wf = true := by
 obtain ⟨k, q0, -, wk⟩ := DataW.trod_int Tryz.underlying2 h
 exact ⟨k, q0, wk⟩
theorem Val_of_trod {H : Type} {enc : TypeId × Value → H} {W : World} {fuel : Nat} {cs : List Value} {x : DataW H × List MemPlace} (h : DataW.trod enc Tryz.prog W 0 (fun _ => true) true fuel 106 cs = some x) : ∃ d, VlR (fun _ => True) W cs d ∧ d.s.size ≤ maxLen := by
 obtain ⟨k, n, s, rfl, -, -, hs⟩ := val_of_trod Tryz.underlying106 (by kernel_rfl) ⟨rfl, rfl, rfl⟩ (by kernel_rfl) (by kernel_rfl) (by kernel_rfl) Tryz.underlying2 Tryz.underlying2 Tryz.underlying9 h
 exact ⟨⟨k, n, s⟩, rfl, hs⟩
theorem Tok_of_trod {H : Type} {enc : TypeId × Value → H} {W : World} {fuel : Nat} {cs : List Value} {x : DataW H × List MemPlace} (h : DataW.trod enc Tryz.prog W 0 (fun _ => true) true fuel 165 cs = some x) : ∃ d, TkR (fun _ => True) W cs d ∧ d.vs.size ≤ maxLen := by
 obtain ⟨k, cc, vk, vn, vs, rfl, -, -, -, -, h5⟩ := tok_of_trod Tryz.underlying165 (by kernel_rfl) ⟨rfl, rfl, rfl⟩ (by kernel_rfl) (by kernel_rfl) (by kernel_rfl) Tryz.underlying2 Tryz.underlying2 Tryz.underlying106 ⟨rfl, rfl, rfl⟩ (by kernel_rfl) (by kernel_rfl) (by kernel_rfl) Tryz.underlying2 Tryz.underlying2 Tryz.underlying9 h
 exact ⟨⟨k, cc, vk, vn, vs⟩, rfl, h5⟩
theorem IntL_of_trod {H : Type} {enc : TypeId × Value → H} {W : World} {fuel : Nat} {x : DataW H × List MemPlace} {a : Option Addr} {len cap : Nat} (h : DataW.trod enc Tryz.prog W 0 (fun _ => true) true fuel 39 [.slice a len cap] = some x) : ∃ ds, Sl IntR 1 (fun _ => True) W a len ds ∧ ds.length ≤ maxLen := by
 obtain ⟨ds, h1, h2, -⟩ := sl_of_trod (R := IntR) (q := fun _ => True) (sz := 1) Tryz.underlying39 (by kernel_rfl) (by omega) (fun n c y hy => by obtain ⟨d, hd, _⟩ := Int_of_trod hy; exact ⟨d, hd, trivial⟩) h
 exact ⟨ds, h1, h2⟩
theorem TokL_of_trod {H : Type} {enc : TypeId × Value → H} {W : World} {fuel : Nat} {x : DataW H × List MemPlace} {a : Option Addr} {len cap : Nat} (h : DataW.trod enc Tryz.prog W 0 (fun _ => true) true fuel 112 [.slice a len cap] = some x) : ∃ ds : List Tk, Sl TkR 5 (fun _ => True) W a len ds ∧ (ds.length ≤ maxLen ∧ ∀ t ∈ ds, t.vs.size ≤ maxLen) :=
 sl_of_trod (R := TkR) (q := fun t : Tk => t.vs.size ≤ maxLen) (sz := 5) Tryz.underlying112 (by kernel_rfl) (by omega) (fun n c y hy => Tok_of_trod hy) h
set_option maxRecDepth 100000 in
theorem Col_of_trod {H : Type} {enc : TypeId × Value → H} {W : World} {fuel : Nat} {cs : List Value} {x : DataW H × List MemPlace} (h : DataW.trod enc Tryz.prog W 0 (fun _ => true) true fuel 108 cs = some x) : ∃ d, ClR (fun _ => True) W cs d ∧ d.wf := by
 obtain ⟨xs, n, _, _, hl, hlen, hf⟩ := DataW.trod_struct Tryz.underlying108 h
 rw [show Tryz.prog.cellsOf 108 = 6 by kernel_rfl] at hl
 match cs, hl, xs, hlen with
 | [c0, c1, c2, c3, c4, c5], _, [y0, y1, y2, y3], _ =>
  have e0 : DataW.trod enc Tryz.prog W 0 (fun _ => true) true n 9 [c0] = some y0 := by
   have := hf 0 _ rfl
   simpa [show Tryz.prog.cellsOf 9 = 1 by kernel_rfl] using this
  have e1 : DataW.trod enc Tryz.prog W 0 (fun _ => true) true n 2 [c1] = some y1 := by
   have := hf 1 _ rfl
   simpa [show Tryz.prog.cellsOf 2 = 1 by kernel_rfl] using this
  have e2 : DataW.trod enc Tryz.prog W 0 (fun _ => true) true n 4 [c2] = some y2 := by
   have := hf 2 _ rfl
   simpa [show Tryz.prog.cellsOf 4 = 1 by kernel_rfl] using this
  have e3 : DataW.trod enc Tryz.prog W 0 (fun _ => true) true n 106 [c3, c4, c5] = some y3 := by
   have := hf 3 _ rfl
   simpa [show Tryz.prog.cellsOf 106 = 3 by kernel_rfl] using this
  obtain ⟨z0, q0, -, u0⟩ := DataW.trod_string Tryz.underlying9 e0
  simp at q0
  subst q0
  obtain ⟨z1, q1, -, -⟩ := DataW.trod_int Tryz.underlying2 e1
  simp at q1
  subst q1
  obtain ⟨z2, q2, -⟩ := DataW.trod_bool Tryz.underlying4 e2
  simp at q2
  subst q2
  obtain ⟨z3, q3, u3⟩ := Val_of_trod e3
  have q3' : _ = Vl.cells z3 := q3
  simp only [Vl.cells, List.cons.injEq, and_true] at q3'
  obtain ⟨rfl, rfl, rfl⟩ := q3'
  exact ⟨⟨z0, z1, z2, z3⟩, rfl, ⟨u0, u3⟩⟩
theorem ColL_of_trod {H : Type} {enc : TypeId × Value → H} {W : World} {fuel : Nat} {x : DataW H × List MemPlace} {a : Option Addr} {len cap : Nat} (h : DataW.trod enc Tryz.prog W 0 (fun _ => true) true fuel 38 [.slice a len cap] = some x) : ∃ ds : List Cl, Sl ClR 6 (fun _ => True) W a len ds ∧ (ds.length ≤ maxLen ∧ ∀ y ∈ ds, y.wf) :=
 sl_of_trod (R := ClR) (q := Cl.wf) (sz := 6) Tryz.underlying38 (by kernel_rfl) (by omega) (fun n c y hy => Col_of_trod hy) h
set_option maxRecDepth 100000 in
theorem Unique_of_trod {H : Type} {enc : TypeId × Value → H} {W : World} {fuel : Nat} {cs : List Value} {x : DataW H × List MemPlace} (h : DataW.trod enc Tryz.prog W 0 (fun _ => true) true fuel 110 cs = some x) : ∃ d, UqR (fun _ => True) W cs d ∧ d.wf := by
 obtain ⟨xs, n, _, _, hl, hlen, hf⟩ := DataW.trod_struct Tryz.underlying110 h
 rw [show Tryz.prog.cellsOf 110 = 1 by kernel_rfl] at hl
 match cs, hl, xs, hlen with
 | [c0], _, [y0], _ =>
  have e0 : DataW.trod enc Tryz.prog W 0 (fun _ => true) true n 39 [c0] = some y0 := by
   have := hf 0 _ rfl
   simpa [show Tryz.prog.cellsOf 39 = 1 by kernel_rfl] using this
  obtain ⟨a0, l0, p0, rfl, hcp0⟩ : ∃ a l p, c0 = .slice a l p ∧ l ≤ p := by
   rcases open_slice Tryz.underlying39 e0 with ⟨hcs, _⟩ | ⟨ad, l, c, _, _, _, _, hcs, _, hlc, _⟩
   ·exact ⟨_, _, _, by simpa using hcs, Nat.le_refl _⟩
   ·exact ⟨_, _, _, by simpa using hcs, hlc⟩
  obtain ⟨z0, s0, u0⟩ := IntL_of_trod e0
  exact ⟨⟨z0⟩, ⟨_, _, _, rfl, s0, hcp0⟩, u0⟩
theorem UniqueL_of_trod {H : Type} {enc : TypeId × Value → H} {W : World} {fuel : Nat} {x : DataW H × List MemPlace} {a : Option Addr} {len cap : Nat} (h : DataW.trod enc Tryz.prog W 0 (fun _ => true) true fuel 40 [.slice a len cap] = some x) : ∃ ds : List Uq, Sl UqR 1 (fun _ => True) W a len ds ∧ (ds.length ≤ maxLen ∧ ∀ y ∈ ds, y.wf) :=
 sl_of_trod (R := UqR) (q := Uq.wf) (sz := 1) Tryz.underlying40 (by kernel_rfl) (by omega) (fun n c y hy => Unique_of_trod hy) h
set_option maxRecDepth 100000 in
theorem Check_of_trod {H : Type} {enc : TypeId × Value → H} {W : World} {fuel : Nat} {cs : List Value} {x : DataW H × List MemPlace} (h : DataW.trod enc Tryz.prog W 0 (fun _ => true) true fuel 114 cs = some x) : ∃ d, CkR (fun _ => True) W cs d ∧ d.wf := by
 obtain ⟨xs, n, _, _, hl, hlen, hf⟩ := DataW.trod_struct Tryz.underlying114 h
 rw [show Tryz.prog.cellsOf 114 = 1 by kernel_rfl] at hl
 match cs, hl, xs, hlen with
 | [c0], _, [y0], _ =>
  have e0 : DataW.trod enc Tryz.prog W 0 (fun _ => true) true n 112 [c0] = some y0 := by
   have := hf 0 _ rfl
   simpa [show Tryz.prog.cellsOf 112 = 1 by kernel_rfl] using this
  obtain ⟨a0, l0, p0, rfl, hcp0⟩ : ∃ a l p, c0 = .slice a l p ∧ l ≤ p := by
   rcases open_slice Tryz.underlying112 e0 with ⟨hcs, _⟩ | ⟨ad, l, c, _, _, _, _, hcs, _, hlc, _⟩
   ·exact ⟨_, _, _, by simpa using hcs, Nat.le_refl _⟩
   ·exact ⟨_, _, _, by simpa using hcs, hlc⟩
  obtain ⟨z0, s0, u0⟩ := TokL_of_trod e0
  exact ⟨⟨z0⟩, ⟨_, _, _, rfl, s0, hcp0⟩, u0⟩
theorem CheckL_of_trod {H : Type} {enc : TypeId × Value → H} {W : World} {fuel : Nat} {x : DataW H × List MemPlace} {a : Option Addr} {len cap : Nat} (h : DataW.trod enc Tryz.prog W 0 (fun _ => true) true fuel 41 [.slice a len cap] = some x) : ∃ ds : List Ck, Sl CkR 1 (fun _ => True) W a len ds ∧ (ds.length ≤ maxLen ∧ ∀ y ∈ ds, y.wf) :=
 sl_of_trod (R := CkR) (q := Ck.wf) (sz := 1) Tryz.underlying41 (by kernel_rfl) (by omega) (fun n c y hy => Check_of_trod hy) h
set_option maxRecDepth 100000 in
theorem Fk_of_trod {H : Type} {enc : TypeId × Value → H} {W : World} {fuel : Nat} {cs : List Value} {x : DataW H × List MemPlace} (h : DataW.trod enc Tryz.prog W 0 (fun _ => true) true fuel 116 cs = some x) : ∃ d, FkR (fun _ => True) W cs d ∧ d.wf := by
 obtain ⟨xs, n, _, _, hl, hlen, hf⟩ := DataW.trod_struct Tryz.underlying116 h
 rw [show Tryz.prog.cellsOf 116 = 5 by kernel_rfl] at hl
 match cs, hl, xs, hlen with
 | [c0, c1, c2, c3, c4], _, [y0, y1, y2, y3, y4], _ =>
  have e0 : DataW.trod enc Tryz.prog W 0 (fun _ => true) true n 39 [c0] = some y0 := by
   have := hf 0 _ rfl
   simpa [show Tryz.prog.cellsOf 39 = 1 by kernel_rfl] using this
  have e1 : DataW.trod enc Tryz.prog W 0 (fun _ => true) true n 9 [c1] = some y1 := by
   have := hf 1 _ rfl
   simpa [show Tryz.prog.cellsOf 9 = 1 by kernel_rfl] using this
  have e2 : DataW.trod enc Tryz.prog W 0 (fun _ => true) true n 2 [c2] = some y2 := by
   have := hf 2 _ rfl
   simpa [show Tryz.prog.cellsOf 2 = 1 by kernel_rfl] using this
  have e3 : DataW.trod enc Tryz.prog W 0 (fun _ => true) true n 2 [c3] = some y3 := by
   have := hf 3 _ rfl
   simpa [show Tryz.prog.cellsOf 2 = 1 by kernel_rfl] using this
  have e4 : DataW.trod enc Tryz.prog W 0 (fun _ => true) true n 4 [c4] = some y4 := by
   have := hf 4 _ rfl
   simpa [show Tryz.prog.cellsOf 4 = 1 by kernel_rfl] using this
  obtain ⟨a0, l0, p0, rfl, hcp0⟩ : ∃ a l p, c0 = .slice a l p ∧ l ≤ p := by
   rcases open_slice Tryz.underlying39 e0 with ⟨hcs, _⟩ | ⟨ad, l, c, _, _, _, _, hcs, _, hlc, _⟩
   ·exact ⟨_, _, _, by simpa using hcs, Nat.le_refl _⟩
   ·exact ⟨_, _, _, by simpa using hcs, hlc⟩
  obtain ⟨z0, s0, u0⟩ := IntL_of_trod e0
  obtain ⟨z1, q1, -, u1⟩ := DataW.trod_string Tryz.underlying9 e1
  simp at q1
  subst q1
  obtain ⟨z2, q2, -, -⟩ := DataW.trod_int Tryz.underlying2 e2
  simp at q2
  subst q2
  obtain ⟨z3, q3, -, -⟩ := DataW.trod_int Tryz.underlying2 e3
  simp at q3
  subst q3
  obtain ⟨z4, q4, -⟩ := DataW.trod_bool Tryz.underlying4 e4
  simp at q4
  subst q4
  exact ⟨⟨z0, z1, z2, z3, z4⟩, ⟨_, _, _, rfl, s0, hcp0⟩, ⟨u0, u1⟩⟩
theorem FkL_of_trod {H : Type} {enc : TypeId × Value → H} {W : World} {fuel : Nat} {x : DataW H × List MemPlace} {a : Option Addr} {len cap : Nat} (h : DataW.trod enc Tryz.prog W 0 (fun _ => true) true fuel 42 [.slice a len cap] = some x) : ∃ ds : List Fk, Sl FkR 5 (fun _ => True) W a len ds ∧ (ds.length ≤ maxLen ∧ ∀ y ∈ ds, y.wf) :=
 sl_of_trod (R := FkR) (q := Fk.wf) (sz := 5) Tryz.underlying42 (by kernel_rfl) (by omega) (fun n c y hy => Fk_of_trod hy) h
set_option maxRecDepth 100000 in
theorem Table_of_trod {H : Type} {enc : TypeId × Value → H} {W : World} {fuel : Nat} {cs : List Value} {x : DataW H × List MemPlace} (h : DataW.trod enc Tryz.prog W 0 (fun _ => true) true fuel 44 cs = some x) : ∃ d, TbR (fun _ => True) W cs d ∧ d.wf := by
 obtain ⟨xs, n, _, _, hl, hlen, hf⟩ := DataW.trod_struct Tryz.underlying44 h
 rw [show Tryz.prog.cellsOf 44 = 6 by kernel_rfl] at hl
 match cs, hl, xs, hlen with
 | [c0, c1, c2, c3, c4, c5], _, [y0, y1, y2, y3, y4, y5], _ =>
  have e0 : DataW.trod enc Tryz.prog W 0 (fun _ => true) true n 9 [c0] = some y0 := by
   have := hf 0 _ rfl
   simpa [show Tryz.prog.cellsOf 9 = 1 by kernel_rfl] using this
  have e1 : DataW.trod enc Tryz.prog W 0 (fun _ => true) true n 38 [c1] = some y1 := by
   have := hf 1 _ rfl
   simpa [show Tryz.prog.cellsOf 38 = 1 by kernel_rfl] using this
  have e2 : DataW.trod enc Tryz.prog W 0 (fun _ => true) true n 39 [c2] = some y2 := by
   have := hf 2 _ rfl
   simpa [show Tryz.prog.cellsOf 39 = 1 by kernel_rfl] using this
  have e3 : DataW.trod enc Tryz.prog W 0 (fun _ => true) true n 40 [c3] = some y3 := by
   have := hf 3 _ rfl
   simpa [show Tryz.prog.cellsOf 40 = 1 by kernel_rfl] using this
  have e4 : DataW.trod enc Tryz.prog W 0 (fun _ => true) true n 41 [c4] = some y4 := by
   have := hf 4 _ rfl
   simpa [show Tryz.prog.cellsOf 41 = 1 by kernel_rfl] using this
  have e5 : DataW.trod enc Tryz.prog W 0 (fun _ => true) true n 42 [c5] = some y5 := by
   have := hf 5 _ rfl
   simpa [show Tryz.prog.cellsOf 42 = 1 by kernel_rfl] using this
  obtain ⟨z0, q0, -, u0⟩ := DataW.trod_string Tryz.underlying9 e0
  simp at q0
  subst q0
  obtain ⟨a1, l1, p1, rfl, hcp1⟩ : ∃ a l p, c1 = .slice a l p ∧ l ≤ p := by
   rcases open_slice Tryz.underlying38 e1 with ⟨hcs, _⟩ | ⟨ad, l, c, _, _, _, _, hcs, _, hlc, _⟩
   ·exact ⟨_, _, _, by simpa using hcs, Nat.le_refl _⟩
   ·exact ⟨_, _, _, by simpa using hcs, hlc⟩
  obtain ⟨z1, s1, u1⟩ := ColL_of_trod e1
  obtain ⟨a2, l2, p2, rfl, hcp2⟩ : ∃ a l p, c2 = .slice a l p ∧ l ≤ p := by
   rcases open_slice Tryz.underlying39 e2 with ⟨hcs, _⟩ | ⟨ad, l, c, _, _, _, _, hcs, _, hlc, _⟩
   ·exact ⟨_, _, _, by simpa using hcs, Nat.le_refl _⟩
   ·exact ⟨_, _, _, by simpa using hcs, hlc⟩
  obtain ⟨z2, s2, u2⟩ := IntL_of_trod e2
  obtain ⟨a3, l3, p3, rfl, hcp3⟩ : ∃ a l p, c3 = .slice a l p ∧ l ≤ p := by
   rcases open_slice Tryz.underlying40 e3 with ⟨hcs, _⟩ | ⟨ad, l, c, _, _, _, _, hcs, _, hlc, _⟩
   ·exact ⟨_, _, _, by simpa using hcs, Nat.le_refl _⟩
   ·exact ⟨_, _, _, by simpa using hcs, hlc⟩
  obtain ⟨z3, s3, u3⟩ := UniqueL_of_trod e3
  obtain ⟨a4, l4, p4, rfl, hcp4⟩ : ∃ a l p, c4 = .slice a l p ∧ l ≤ p := by
   rcases open_slice Tryz.underlying41 e4 with ⟨hcs, _⟩ | ⟨ad, l, c, _, _, _, _, hcs, _, hlc, _⟩
   ·exact ⟨_, _, _, by simpa using hcs, Nat.le_refl _⟩
   ·exact ⟨_, _, _, by simpa using hcs, hlc⟩
  obtain ⟨z4, s4, u4⟩ := CheckL_of_trod e4
  obtain ⟨a5, l5, p5, rfl, hcp5⟩ : ∃ a l p, c5 = .slice a l p ∧ l ≤ p := by
   rcases open_slice Tryz.underlying42 e5 with ⟨hcs, _⟩ | ⟨ad, l, c, _, _, _, _, hcs, _, hlc, _⟩
   ·exact ⟨_, _, _, by simpa using hcs, Nat.le_refl _⟩
   ·exact ⟨_, _, _, by simpa using hcs, hlc⟩
  obtain ⟨z5, s5, u5⟩ := FkL_of_trod e5
  exact ⟨⟨z0, z1, z2, z3, z4, z5⟩, ⟨_, _, _, _, _, _, _, _, _, _, _, _, _, _, _, rfl, s1, s2, s3, s4, s5, ⟨hcp1, hcp2, hcp3, hcp4, hcp5⟩⟩, ⟨u0, u1, u2, u3, u4, u5⟩⟩
theorem TableL_of_trod {H : Type} {enc : TypeId × Value → H} {W : World} {fuel : Nat} {x : DataW H × List MemPlace} {a : Option Addr} {len cap : Nat} (h : DataW.trod enc Tryz.prog W 0 (fun _ => true) true fuel 22 [.slice a len cap] = some x) : ∃ ds : List Tb, Sl TbR 6 (fun _ => True) W a len ds ∧ (ds.length ≤ maxLen ∧ ∀ y ∈ ds, y.wf) :=
 sl_of_trod (R := TbR) (q := Tb.wf) (sz := 6) Tryz.underlying22 (by kernel_rfl) (by omega) (fun n c y hy => Table_of_trod hy) h
end Go.Proofs.YthamekdjfoepmaaGreat
namespace Go.Proofs.YthamekdjfoepmaaGreat
open Go.RowKit
theorem lawsSzInts (A : Option Addr) (n c : Nat) (l : List Int) (left : Int) (ok : Nat → Prop) (w : World) (h : Sl IntR 1 ok w A n l) (hwf : l.length ≤ maxLen) (hp0 : 0 ≤ left) (hle : left ≤ 1048576) :
  Calls Tryz.prog 34 #[.slice A n c, .int .i64 left] w fun e w' => e = .returned (.int .i64 (szR left l.length)) ∧ Below w.heap.size w w' := by
 obtain rfl : l.length = n := h.1
 unfold maxLen at hwf
 by_cases hs : left - (l.length : Int) < 0
 ·go_enter Tryz.func34, Tryz.ntmps34
  go_wp2
  go_ret
  exact ⟨retI (szR_no (by omega)), Below.refl _ _⟩
 ·have hs' : decide (left - (l.length : Int) < 0) = false := by simpa using hs
  go_enter Tryz.func34, Tryz.ntmps34
  go_wp2
  go_ret
  exact ⟨retI (szR_yes (by omega) rfl), Below.refl _ _⟩
theorem lawsSzValR (v : Vl) (left : Int) (w : World) (hs : v.s.size ≤ maxLen) (h0 : 0 ≤ left) (h1 : left ≤ 1048576) :
  Calls Tryz.prog 89 #[.agg #[.int .i64 v.k, .int .i64 v.n, .string v.s], .int .i64 left] w fun e w' => e = .returned (.int .i64 (szR left v.s.size)) ∧ Below w.heap.size w w' :=
 (lawsSzVal v.k v.n v.s left w h0 h1 hs).mono fun e w' ⟨he, hb⟩ => ⟨by rw [he, show szN left v.s = szR left v.s.size by unfold szN szR; split <;> split <;> omega], hb⟩
theorem lawsSzTokR (x : Tk) (left : Int) (w : World) (hs : x.vs.size ≤ maxLen) (h0 : 0 ≤ left) (h1 : left ≤ 1048576) :
  Calls Tryz.prog 117 #[.agg #[.int .i64 x.k, .int .i64 x.c, .int .i64 x.vk, .int .i64 x.vn, .string x.vs], .int .i64 left] w fun e w' => e = .returned (.int .i64 (szR left x.vs.size)) ∧ Below w.heap.size w w' :=
 (lawsSzTok x left w h0 h1 hs).mono fun e w' ⟨he, hb⟩ => ⟨by rw [he, show szN left x.vs = szR left x.vs.size by unfold szN szR; split <;> split <;> omega], hb⟩
set_option maxHeartbeats 1000000 in
theorem lawsSzTokL (A : Option Addr) (n c : Nat) (l : List Tk) (left : Int) (ok : Nat → Prop) (w : World) (h : Sl TkR 5 ok w A n l) (hwf : (l.length ≤ maxLen ∧ ∀ t ∈ l, t.vs.size ≤ maxLen)) (hp0 : 0 ≤ left) (hle : left ≤ 1048576) :
  Calls Tryz.prog 90 #[.slice A n c, .int .i64 left] w fun e w' => e = .returned (.int .i64 (szR left (szL (fun t : Tk => t.vs.size) l))) ∧ Below w.heap.size w w' := by
 obtain rfl : l.length = n := h.1
 obtain ⟨hlen, hall⟩ := hwf
 unfold maxLen at hlen
 have HW := Lib.hid hall
 clear hall
 by_cases hs : left - (l.length : Int) < 0
 ·go_enter Tryz.func90, Tryz.ntmps90
  go_wp2
  go_ret
  exact ⟨retI (szR_no (by unfold szL; omega)), Below.refl _ _⟩
 have hs' : decide (left - (l.length : Int) < 0) = false := by simpa using hs
 go_enter Tryz.func90, Tryz.ntmps90
 go_wp2
 go_loopw [1, 5] (fun m i wr => ∃ (k : Nat) (u : Int), k ≤ l.length ∧ i = .int .i64 k ∧ m = .int .i64 u ∧ 0 ≤ u ∧ u ≤ left ∧ Hid (u = left - l.length - ((l.take k).map (fun t : Tk => t.vs.size)).sum) ∧ Below w.heap.size w wr) (fun _ i _ => l.length - (intOf i).toNat)
 case atStart => exact ⟨0, _, by omega, rfl, rfl, by omega, by omega, Lib.hid (by simp), Below.refl _ _⟩
 case round =>
  obtain ⟨k, u, hk, rfl, rfl, hu0, hu1, hu, hb⟩ := hrel
  by_cases hlt : k < l.length
  ·obtain ⟨b, off, -, rfl, q0, q1, q2, q3, q4⟩ := TkR.at_ (h.below TkR.stays hb) hlt
   have hx := HW.out _ (List.getElem_mem hlt)
   have hst := sum_take (fun t : Tk => t.vs.size) l k hlt
   have hsl := sum_take_le (fun t : Tk => t.vs.size) l (k + 1)
   have HST := Lib.hid hst
   have HSL := Lib.hid hsl
   have HX := Lib.hid hx
   clear hst hsl hx
   rcases szR_cases u (l[k].vs.size) hu0 with ⟨hno, hv⟩ | ⟨u', hv, hu', hu0', hu1', -⟩
   ·go_wp2_with fail
    refine (lawsSzTokR l[k] u _ HX.out hu0 (by omega)).mono ?_
    rintro e w1 ⟨rfl, hb1⟩
    rw [hv.out]
    go_wp2_with fail
    go_ret
    exact ⟨retI (szR_no (by have e1 := hu.out; have e2 := HST.out; have e3 := HSL.out; unfold szL; (try simp only at e1 e2 e3 ⊢); omega)), hb.trans (hb1.mono hb.size)⟩
   ·go_wp2_with fail
    refine (lawsSzTokR l[k] u _ HX.out hu0 (by omega)).mono ?_
    rintro e w1 ⟨rfl, hb1⟩
    rw [hv.out]
    go_wp2_with fail
    go_roundw
    case rel => exact ⟨k + 1, _, by omega, by go_num, rfl, by omega, by omega, Lib.hid (by have e1 := hu.out; have e2 := HST.out; have e3 := hu'.out; (try simp only at e1 e2 e3 ⊢); omega), hb.trans (hb1.mono hb.size)⟩
    case measure => simp [intOf]; omega
  ·have e : l.take k = l := List.take_of_length_le (by omega)
   have e1 := hu.out
   rw [e] at e1
   have HU := Lib.hid e1
   clear e1 hu e
   go_wp2
   go_ret
   exact ⟨retI (szR_yes (by omega) (by have e1 := HU.out; unfold szL; omega)), hb⟩
set_option maxRecDepth 100000 in
set_option maxHeartbeats 1000000 in
theorem lawsSzCol (x : Cl)  (left : Int) (ok : Nat → Prop) (w : World)  (hwf : x.wf) (hp0 : 0 ≤ left) (hle : left ≤ 1048576) :
  Calls Tryz.prog 64 #[.agg #[.string x.name, .int .i64 x.kind, .bool x.nn, .int .i64 x.d.k, .int .i64 x.d.n, .string x.d.s], .int .i64 left] w fun e w' => e = .returned (.int .i64 (szR left x.sz)) ∧ Below w.heap.size w w' := by
 obtain ⟨wf0, wf3⟩ := hwf
 unfold maxLen at wf0
 have WF3 := Lib.hid wf3
 clear wf3
 have HB := Lib.hid ((Below.refl w.heap.size w).alloc (Nat.le_refl _) (.cells #[.string x.name, .int .i64 x.kind, .bool x.nn, .int .i64 x.d.k, .int .i64 x.d.n, .string x.d.s] 108))
 have RB := Lib.hid (Row.new w 108 #[.string x.name, .int .i64 x.kind, .bool x.nn, .int .i64 x.d.k, .int .i64 x.d.n, .string x.d.s])
 by_cases hs0 : left - (x.name.size : Int) < 0
 ·go_enter Tryz.func64, Tryz.ntmps64
  go_wp2_with fail
  go_ret
  exact ⟨retI (szR_no (by simp only [Cl.sz]; omega)), HB.out⟩
 have hs0' : decide (left - (x.name.size : Int) < 0) = false := by simpa using hs0
 go_enter Tryz.func64, Tryz.ntmps64
 go_wp2_with fail
 refine (lawsSzValR x.d (left - (x.name.size : Int)) _ WF3.out (by omega) (by omega)).mono ?_
 rintro e w1 ⟨rfl, hb1⟩
 have hbb1 := (HB.out).trans (hb1.mono (HB.out).size)
 have RB1 := Lib.hid ((RB.out).below hb1)
 obtain ⟨⟨p1_0, p1_1, p1_2, p1_3, p1_4, p1_5⟩, -⟩ := RB1.out.all6
 rcases szR_cases (left - (x.name.size : Int)) (x.d.s.size) (by omega) with ⟨hno1, hv1⟩ | ⟨l1, hv1, hl1, h01, h11, -⟩
 ·rw [hv1.out]
  go_wp2_with fail
  go_ret
  exact ⟨retI (szR_no (by simp only [Cl.sz]; omega)), hbb1⟩
 rw [hv1.out]
 go_wp2_with fail
 go_ret
 exact ⟨retI (szR_yes (by omega) (by have := hl1.out; simp only [Cl.sz]; omega)), hbb1⟩
set_option maxHeartbeats 1000000 in
theorem lawsSzColL (A : Option Addr) (n c : Nat) (l : List Cl) (left : Int) (ok : Nat → Prop) (w : World) (h : Sl ClR 6 ok w A n l) (hwf : (l.length ≤ maxLen ∧ ∀ y ∈ l, y.wf)) (hp0 : 0 ≤ left) (hle : left ≤ 1048576) :
  Calls Tryz.prog 33 #[.slice A n c, .int .i64 left] w fun e w' => e = .returned (.int .i64 (szR left (szL Cl.sz l))) ∧ Below w.heap.size w w' := by
 obtain rfl : l.length = n := h.1
 obtain ⟨hlen, hall⟩ := hwf
 unfold maxLen at hlen
 have HW := Lib.hid hall
 clear hall
 by_cases hs : left - (l.length : Int) < 0
 ·go_enter Tryz.func33, Tryz.ntmps33
  go_wp2
  go_ret
  exact ⟨retI (szR_no (by unfold szL; omega)), Below.refl _ _⟩
 have hs' : decide (left - (l.length : Int) < 0) = false := by simpa using hs
 go_enter Tryz.func33, Tryz.ntmps33
 go_wp2
 go_loopw [1, 5] (fun m i wr => ∃ (k : Nat) (u : Int), k ≤ l.length ∧ i = .int .i64 k ∧ m = .int .i64 u ∧ 0 ≤ u ∧ u ≤ left ∧ Hid (u = left - l.length - ((l.take k).map (Cl.sz)).sum) ∧ Below w.heap.size w wr) (fun _ i _ => l.length - (intOf i).toNat)
 case atStart => exact ⟨0, _, by omega, rfl, rfl, by omega, by omega, Lib.hid (by simp), Below.refl _ _⟩
 case round =>
  obtain ⟨k, u, hk, rfl, rfl, hu0, hu1, hu, hb⟩ := hrel
  by_cases hlt : k < l.length
  ·obtain ⟨b, off, -, rfl, q0, q1, q2, q3, q4, q5⟩ := ClR.at_ (h.below ClR.stays hb) hlt
   have hx := HW.out _ (List.getElem_mem hlt)
   have hst := sum_take (Cl.sz) l k hlt
   have hsl := sum_take_le (Cl.sz) l (k + 1)
   have HST := Lib.hid hst
   have HSL := Lib.hid hsl
   have HX := Lib.hid hx
   clear hst hsl hx
   rcases szR_cases u (l[k].sz) hu0 with ⟨hno, hv⟩ | ⟨u', hv, hu', hu0', hu1', -⟩
   ·go_wp2_with fail
    refine (lawsSzCol l[k]  u ok _  HX.out hu0 (by omega)).mono ?_
    rintro e w1 ⟨rfl, hb1⟩
    rw [hv.out]
    go_wp2_with fail
    go_ret
    exact ⟨retI (szR_no (by have e1 := hu.out; have e2 := HST.out; have e3 := HSL.out; unfold szL; (try simp only at e1 e2 e3 ⊢); omega)), hb.trans (hb1.mono hb.size)⟩
   ·go_wp2_with fail
    refine (lawsSzCol l[k]  u ok _  HX.out hu0 (by omega)).mono ?_
    rintro e w1 ⟨rfl, hb1⟩
    rw [hv.out]
    go_wp2_with fail
    go_roundw
    case rel => exact ⟨k + 1, _, by omega, by go_num, rfl, by omega, by omega, Lib.hid (by have e1 := hu.out; have e2 := HST.out; have e3 := hu'.out; (try simp only at e1 e2 e3 ⊢); omega), hb.trans (hb1.mono hb.size)⟩
    case measure => simp [intOf]; omega
  ·have e : l.take k = l := List.take_of_length_le (by omega)
   have e1 := hu.out
   rw [e] at e1
   have HU := Lib.hid e1
   clear e1 hu e
   go_wp2
   go_ret
   exact ⟨retI (szR_yes (by omega) (by have e1 := HU.out; unfold szL; omega)), hb⟩
set_option maxRecDepth 100000 in
set_option maxHeartbeats 1000000 in
theorem lawsSzUnique (x : Uq) (A0 : Option Addr) (n0 c0 : Nat) (left : Int) (ok : Nat → Prop) (w : World) (h0 : Sl IntR 1 ok w A0 n0 x.cols) (hwf : x.wf) (hp0 : 0 ≤ left) (hle : left ≤ 1048576) :
  Calls Tryz.prog 65 #[.agg #[.slice A0 n0 c0], .int .i64 left] w fun e w' => e = .returned (.int .i64 (szR left x.sz)) ∧ Below w.heap.size w w' := by
 have wf0 := hwf
 have WF0 := Lib.hid wf0
 clear wf0
 have HB := Lib.hid ((Below.refl w.heap.size w).alloc (Nat.le_refl _) (.cells #[.slice A0 n0 c0] 110))
 have RB := Lib.hid (Row.new w 110 #[.slice A0 n0 c0])
 go_enter Tryz.func65, Tryz.ntmps65
 go_wp2_with fail
 refine (lawsSzInts A0 n0 c0 x.cols left ok _ (h0.below IntR.stays HB.out) WF0.out (by omega) (by omega)).mono ?_
 rintro e w1 ⟨rfl, hb1⟩
 have hbb1 := (HB.out).trans (hb1.mono (HB.out).size)
 have RB1 := Lib.hid ((RB.out).below hb1)
 obtain ⟨p1_0, -⟩ := RB1.out.all1
 rcases szR_cases left (x.cols.length) (by omega) with ⟨hno1, hv1⟩ | ⟨l1, hv1, hl1, h01, h11, -⟩
 ·rw [hv1.out]
  go_wp2_with fail
  go_ret
  exact ⟨retI (szR_no (by simp only [Uq.sz]; omega)), hbb1⟩
 rw [hv1.out]
 go_wp2_with fail
 go_ret
 exact ⟨retI (szR_yes (by omega) (by have := hl1.out; simp only [Uq.sz]; omega)), hbb1⟩
set_option maxHeartbeats 1000000 in
theorem lawsSzUniqueL (A : Option Addr) (n c : Nat) (l : List Uq) (left : Int) (ok : Nat → Prop) (w : World) (h : Sl UqR 1 ok w A n l) (hwf : (l.length ≤ maxLen ∧ ∀ y ∈ l, y.wf)) (hp0 : 0 ≤ left) (hle : left ≤ 1048576) :
  Calls Tryz.prog 35 #[.slice A n c, .int .i64 left] w fun e w' => e = .returned (.int .i64 (szR left (szL Uq.sz l))) ∧ Below w.heap.size w w' := by
 obtain rfl : l.length = n := h.1
 obtain ⟨hlen, hall⟩ := hwf
 unfold maxLen at hlen
 have HW := Lib.hid hall
 clear hall
 by_cases hs : left - (l.length : Int) < 0
 ·go_enter Tryz.func35, Tryz.ntmps35
  go_wp2
  go_ret
  exact ⟨retI (szR_no (by unfold szL; omega)), Below.refl _ _⟩
 have hs' : decide (left - (l.length : Int) < 0) = false := by simpa using hs
 go_enter Tryz.func35, Tryz.ntmps35
 go_wp2
 go_loopw [1, 5] (fun m i wr => ∃ (k : Nat) (u : Int), k ≤ l.length ∧ i = .int .i64 k ∧ m = .int .i64 u ∧ 0 ≤ u ∧ u ≤ left ∧ Hid (u = left - l.length - ((l.take k).map (Uq.sz)).sum) ∧ Below w.heap.size w wr) (fun _ i _ => l.length - (intOf i).toNat)
 case atStart => exact ⟨0, _, by omega, rfl, rfl, by omega, by omega, Lib.hid (by simp), Below.refl _ _⟩
 case round =>
  obtain ⟨k, u, hk, rfl, rfl, hu0, hu1, hu, hb⟩ := hrel
  by_cases hlt : k < l.length
  ·obtain ⟨b, off, A0, n0, c0, -, rfl, q0, s0, -⟩ := UqR.at_ (h.below UqR.stays hb) hlt
   have hx := HW.out _ (List.getElem_mem hlt)
   have hst := sum_take (Uq.sz) l k hlt
   have hsl := sum_take_le (Uq.sz) l (k + 1)
   have HST := Lib.hid hst
   have HSL := Lib.hid hsl
   have HX := Lib.hid hx
   clear hst hsl hx
   rcases szR_cases u (l[k].sz) hu0 with ⟨hno, hv⟩ | ⟨u', hv, hu', hu0', hu1', -⟩
   ·go_wp2_with fail
    refine (lawsSzUnique l[k] A0 n0 c0 u ok _ s0 HX.out hu0 (by omega)).mono ?_
    rintro e w1 ⟨rfl, hb1⟩
    rw [hv.out]
    go_wp2_with fail
    go_ret
    exact ⟨retI (szR_no (by have e1 := hu.out; have e2 := HST.out; have e3 := HSL.out; unfold szL; (try simp only at e1 e2 e3 ⊢); omega)), hb.trans (hb1.mono hb.size)⟩
   ·go_wp2_with fail
    refine (lawsSzUnique l[k] A0 n0 c0 u ok _ s0 HX.out hu0 (by omega)).mono ?_
    rintro e w1 ⟨rfl, hb1⟩
    rw [hv.out]
    go_wp2_with fail
    go_roundw
    case rel => exact ⟨k + 1, _, by omega, by go_num, rfl, by omega, by omega, Lib.hid (by have e1 := hu.out; have e2 := HST.out; have e3 := hu'.out; (try simp only at e1 e2 e3 ⊢); omega), hb.trans (hb1.mono hb.size)⟩
    case measure => simp [intOf]; omega
  ·have e : l.take k = l := List.take_of_length_le (by omega)
   have e1 := hu.out
   rw [e] at e1
   have HU := Lib.hid e1
   clear e1 hu e
   go_wp2
   go_ret
   exact ⟨retI (szR_yes (by omega) (by have e1 := HU.out; unfold szL; omega)), hb⟩
set_option maxRecDepth 100000 in
set_option maxHeartbeats 1000000 in
theorem lawsSzCheck (x : Ck) (A0 : Option Addr) (n0 c0 : Nat) (left : Int) (ok : Nat → Prop) (w : World) (h0 : Sl TkR 5 ok w A0 n0 x.expr) (hwf : x.wf) (hp0 : 0 ≤ left) (hle : left ≤ 1048576) :
  Calls Tryz.prog 66 #[.agg #[.slice A0 n0 c0], .int .i64 left] w fun e w' => e = .returned (.int .i64 (szR left x.sz)) ∧ Below w.heap.size w w' := by
 have wf0 := hwf
 have WF0 := Lib.hid wf0
 clear wf0
 have HB := Lib.hid ((Below.refl w.heap.size w).alloc (Nat.le_refl _) (.cells #[.slice A0 n0 c0] 114))
 have RB := Lib.hid (Row.new w 114 #[.slice A0 n0 c0])
 go_enter Tryz.func66, Tryz.ntmps66
 go_wp2_with fail
 refine (lawsSzTokL A0 n0 c0 x.expr left ok _ (h0.below TkR.stays HB.out) WF0.out (by omega) (by omega)).mono ?_
 rintro e w1 ⟨rfl, hb1⟩
 have hbb1 := (HB.out).trans (hb1.mono (HB.out).size)
 have RB1 := Lib.hid ((RB.out).below hb1)
 obtain ⟨p1_0, -⟩ := RB1.out.all1
 rcases szR_cases left (szL (fun t : Tk => t.vs.size) x.expr) (by omega) with ⟨hno1, hv1⟩ | ⟨l1, hv1, hl1, h01, h11, -⟩
 ·rw [hv1.out]
  go_wp2_with fail
  go_ret
  exact ⟨retI (szR_no (by simp only [Ck.sz]; omega)), hbb1⟩
 rw [hv1.out]
 go_wp2_with fail
 go_ret
 exact ⟨retI (szR_yes (by omega) (by have := hl1.out; simp only [Ck.sz]; omega)), hbb1⟩
set_option maxHeartbeats 1000000 in
theorem lawsSzCheckL (A : Option Addr) (n c : Nat) (l : List Ck) (left : Int) (ok : Nat → Prop) (w : World) (h : Sl CkR 1 ok w A n l) (hwf : (l.length ≤ maxLen ∧ ∀ y ∈ l, y.wf)) (hp0 : 0 ≤ left) (hle : left ≤ 1048576) :
  Calls Tryz.prog 36 #[.slice A n c, .int .i64 left] w fun e w' => e = .returned (.int .i64 (szR left (szL Ck.sz l))) ∧ Below w.heap.size w w' := by
 obtain rfl : l.length = n := h.1
 obtain ⟨hlen, hall⟩ := hwf
 unfold maxLen at hlen
 have HW := Lib.hid hall
 clear hall
 by_cases hs : left - (l.length : Int) < 0
 ·go_enter Tryz.func36, Tryz.ntmps36
  go_wp2
  go_ret
  exact ⟨retI (szR_no (by unfold szL; omega)), Below.refl _ _⟩
 have hs' : decide (left - (l.length : Int) < 0) = false := by simpa using hs
 go_enter Tryz.func36, Tryz.ntmps36
 go_wp2
 go_loopw [1, 5] (fun m i wr => ∃ (k : Nat) (u : Int), k ≤ l.length ∧ i = .int .i64 k ∧ m = .int .i64 u ∧ 0 ≤ u ∧ u ≤ left ∧ Hid (u = left - l.length - ((l.take k).map (Ck.sz)).sum) ∧ Below w.heap.size w wr) (fun _ i _ => l.length - (intOf i).toNat)
 case atStart => exact ⟨0, _, by omega, rfl, rfl, by omega, by omega, Lib.hid (by simp), Below.refl _ _⟩
 case round =>
  obtain ⟨k, u, hk, rfl, rfl, hu0, hu1, hu, hb⟩ := hrel
  by_cases hlt : k < l.length
  ·obtain ⟨b, off, A0, n0, c0, -, rfl, q0, s0, -⟩ := CkR.at_ (h.below CkR.stays hb) hlt
   have hx := HW.out _ (List.getElem_mem hlt)
   have hst := sum_take (Ck.sz) l k hlt
   have hsl := sum_take_le (Ck.sz) l (k + 1)
   have HST := Lib.hid hst
   have HSL := Lib.hid hsl
   have HX := Lib.hid hx
   clear hst hsl hx
   rcases szR_cases u (l[k].sz) hu0 with ⟨hno, hv⟩ | ⟨u', hv, hu', hu0', hu1', -⟩
   ·go_wp2_with fail
    refine (lawsSzCheck l[k] A0 n0 c0 u ok _ s0 HX.out hu0 (by omega)).mono ?_
    rintro e w1 ⟨rfl, hb1⟩
    rw [hv.out]
    go_wp2_with fail
    go_ret
    exact ⟨retI (szR_no (by have e1 := hu.out; have e2 := HST.out; have e3 := HSL.out; unfold szL; (try simp only at e1 e2 e3 ⊢); omega)), hb.trans (hb1.mono hb.size)⟩
   ·go_wp2_with fail
    refine (lawsSzCheck l[k] A0 n0 c0 u ok _ s0 HX.out hu0 (by omega)).mono ?_
    rintro e w1 ⟨rfl, hb1⟩
    rw [hv.out]
    go_wp2_with fail
    go_roundw
    case rel => exact ⟨k + 1, _, by omega, by go_num, rfl, by omega, by omega, Lib.hid (by have e1 := hu.out; have e2 := HST.out; have e3 := hu'.out; (try simp only at e1 e2 e3 ⊢); omega), hb.trans (hb1.mono hb.size)⟩
    case measure => simp [intOf]; omega
  ·have e : l.take k = l := List.take_of_length_le (by omega)
   have e1 := hu.out
   rw [e] at e1
   have HU := Lib.hid e1
   clear e1 hu e
   go_wp2
   go_ret
   exact ⟨retI (szR_yes (by omega) (by have e1 := HU.out; unfold szL; omega)), hb⟩
set_option maxRecDepth 100000 in
set_option maxHeartbeats 1000000 in
theorem lawsSzFk (x : Fk) (A0 : Option Addr) (n0 c0 : Nat) (left : Int) (ok : Nat → Prop) (w : World) (h0 : Sl IntR 1 ok w A0 n0 x.cols) (hwf : x.wf) (hp0 : 0 ≤ left) (hle : left ≤ 1048576) :
  Calls Tryz.prog 67 #[.agg #[.slice A0 n0 c0, .string x.table, .int .i64 x.del, .int .i64 x.upd, .bool x.dfr], .int .i64 left] w fun e w' => e = .returned (.int .i64 (szR left x.sz)) ∧ Below w.heap.size w w' := by
 obtain ⟨wf0, wf1⟩ := hwf
 have WF0 := Lib.hid wf0
 clear wf0
 unfold maxLen at wf1
 have HB := Lib.hid ((Below.refl w.heap.size w).alloc (Nat.le_refl _) (.cells #[.slice A0 n0 c0, .string x.table, .int .i64 x.del, .int .i64 x.upd, .bool x.dfr] 116))
 have RB := Lib.hid (Row.new w 116 #[.slice A0 n0 c0, .string x.table, .int .i64 x.del, .int .i64 x.upd, .bool x.dfr])
 go_enter Tryz.func67, Tryz.ntmps67
 go_wp2_with fail
 refine (lawsSzInts A0 n0 c0 x.cols left ok _ (h0.below IntR.stays HB.out) WF0.out (by omega) (by omega)).mono ?_
 rintro e w1 ⟨rfl, hb1⟩
 have hbb1 := (HB.out).trans (hb1.mono (HB.out).size)
 have RB1 := Lib.hid ((RB.out).below hb1)
 obtain ⟨⟨p1_0, p1_1, p1_2, p1_3, p1_4⟩, -⟩ := RB1.out.five
 rcases szR_cases left (x.cols.length) (by omega) with ⟨hno1, hv1⟩ | ⟨l1, hv1, hl1, h01, h11, -⟩
 ·rw [hv1.out]
  go_wp2_with fail
  go_ret
  exact ⟨retI (szR_no (by simp only [Fk.sz]; omega)), hbb1⟩
 rw [hv1.out]
 by_cases hs1 : l1 - (x.table.size : Int) < 0
 ·go_wp2_with fail
  go_ret
  exact ⟨retI (szR_no (by have := hl1.out; simp only [Fk.sz]; omega)), hbb1⟩
 have hs1' : decide (l1 - (x.table.size : Int) < 0) = false := by simpa using hs1
 go_wp2_with fail
 go_ret
 exact ⟨retI (szR_yes (by omega) (by have := hl1.out; simp only [Fk.sz]; omega)), hbb1⟩
set_option maxHeartbeats 1000000 in
theorem lawsSzFkL (A : Option Addr) (n c : Nat) (l : List Fk) (left : Int) (ok : Nat → Prop) (w : World) (h : Sl FkR 5 ok w A n l) (hwf : (l.length ≤ maxLen ∧ ∀ y ∈ l, y.wf)) (hp0 : 0 ≤ left) (hle : left ≤ 1048576) :
  Calls Tryz.prog 37 #[.slice A n c, .int .i64 left] w fun e w' => e = .returned (.int .i64 (szR left (szL Fk.sz l))) ∧ Below w.heap.size w w' := by
 obtain rfl : l.length = n := h.1
 obtain ⟨hlen, hall⟩ := hwf
 unfold maxLen at hlen
 have HW := Lib.hid hall
 clear hall
 by_cases hs : left - (l.length : Int) < 0
 ·go_enter Tryz.func37, Tryz.ntmps37
  go_wp2
  go_ret
  exact ⟨retI (szR_no (by unfold szL; omega)), Below.refl _ _⟩
 have hs' : decide (left - (l.length : Int) < 0) = false := by simpa using hs
 go_enter Tryz.func37, Tryz.ntmps37
 go_wp2
 go_loopw [1, 5] (fun m i wr => ∃ (k : Nat) (u : Int), k ≤ l.length ∧ i = .int .i64 k ∧ m = .int .i64 u ∧ 0 ≤ u ∧ u ≤ left ∧ Hid (u = left - l.length - ((l.take k).map (Fk.sz)).sum) ∧ Below w.heap.size w wr) (fun _ i _ => l.length - (intOf i).toNat)
 case atStart => exact ⟨0, _, by omega, rfl, rfl, by omega, by omega, Lib.hid (by simp), Below.refl _ _⟩
 case round =>
  obtain ⟨k, u, hk, rfl, rfl, hu0, hu1, hu, hb⟩ := hrel
  by_cases hlt : k < l.length
  ·obtain ⟨b, off, A0, n0, c0, -, rfl, q0, q1, q2, q3, q4, s0, -⟩ := FkR.at_ (h.below FkR.stays hb) hlt
   have hx := HW.out _ (List.getElem_mem hlt)
   have hst := sum_take (Fk.sz) l k hlt
   have hsl := sum_take_le (Fk.sz) l (k + 1)
   have HST := Lib.hid hst
   have HSL := Lib.hid hsl
   have HX := Lib.hid hx
   clear hst hsl hx
   rcases szR_cases u (l[k].sz) hu0 with ⟨hno, hv⟩ | ⟨u', hv, hu', hu0', hu1', -⟩
   ·go_wp2_with fail
    refine (lawsSzFk l[k] A0 n0 c0 u ok _ s0 HX.out hu0 (by omega)).mono ?_
    rintro e w1 ⟨rfl, hb1⟩
    rw [hv.out]
    go_wp2_with fail
    go_ret
    exact ⟨retI (szR_no (by have e1 := hu.out; have e2 := HST.out; have e3 := HSL.out; unfold szL; (try simp only at e1 e2 e3 ⊢); omega)), hb.trans (hb1.mono hb.size)⟩
   ·go_wp2_with fail
    refine (lawsSzFk l[k] A0 n0 c0 u ok _ s0 HX.out hu0 (by omega)).mono ?_
    rintro e w1 ⟨rfl, hb1⟩
    rw [hv.out]
    go_wp2_with fail
    go_roundw
    case rel => exact ⟨k + 1, _, by omega, by go_num, rfl, by omega, by omega, Lib.hid (by have e1 := hu.out; have e2 := HST.out; have e3 := hu'.out; (try simp only at e1 e2 e3 ⊢); omega), hb.trans (hb1.mono hb.size)⟩
    case measure => simp [intOf]; omega
  ·have e : l.take k = l := List.take_of_length_le (by omega)
   have e1 := hu.out
   rw [e] at e1
   have HU := Lib.hid e1
   clear e1 hu e
   go_wp2
   go_ret
   exact ⟨retI (szR_yes (by omega) (by have e1 := HU.out; unfold szL; omega)), hb⟩
set_option maxRecDepth 100000 in
set_option maxHeartbeats 1000000 in
theorem lawsSzTable (x : Tb) (A1 : Option Addr) (n1 c1 : Nat) (A2 : Option Addr) (n2 c2 : Nat) (A3 : Option Addr) (n3 c3 : Nat) (A4 : Option Addr) (n4 c4 : Nat) (A5 : Option Addr) (n5 c5 : Nat) (left : Int) (ok : Nat → Prop) (w : World) (h1 : Sl ClR 6 ok w A1 n1 x.cols) (h2 : Sl IntR 1 ok w A2 n2 x.key) (h3 : Sl UqR 1 ok w A3 n3 x.uniqs) (h4 : Sl CkR 1 ok w A4 n4 x.checks) (h5 : Sl FkR 5 ok w A5 n5 x.fks) (hwf : x.wf) (hp0 : 0 ≤ left) (hle : left ≤ 1048576) :
  Calls Tryz.prog 13 #[.agg #[.string x.name, .slice A1 n1 c1, .slice A2 n2 c2, .slice A3 n3 c3, .slice A4 n4 c4, .slice A5 n5 c5], .int .i64 left] w fun e w' => e = .returned (.int .i64 (szR left x.sz)) ∧ Below w.heap.size w w' := by
 obtain ⟨wf0, wf1, wf2, wf3, wf4, wf5⟩ := hwf
 unfold maxLen at wf0
 have WF1 := Lib.hid wf1
 clear wf1
 have WF2 := Lib.hid wf2
 clear wf2
 have WF3 := Lib.hid wf3
 clear wf3
 have WF4 := Lib.hid wf4
 clear wf4
 have WF5 := Lib.hid wf5
 clear wf5
 have HB := Lib.hid ((Below.refl w.heap.size w).alloc (Nat.le_refl _) (.cells #[.string x.name, .slice A1 n1 c1, .slice A2 n2 c2, .slice A3 n3 c3, .slice A4 n4 c4, .slice A5 n5 c5] 44))
 have RB := Lib.hid (Row.new w 44 #[.string x.name, .slice A1 n1 c1, .slice A2 n2 c2, .slice A3 n3 c3, .slice A4 n4 c4, .slice A5 n5 c5])
 by_cases hs0 : left - (x.name.size : Int) < 0
 ·go_enter Tryz.func13, Tryz.ntmps13
  go_wp2_with fail
  go_ret
  exact ⟨retI (szR_no (by simp only [Tb.sz]; omega)), HB.out⟩
 have hs0' : decide (left - (x.name.size : Int) < 0) = false := by simpa using hs0
 go_enter Tryz.func13, Tryz.ntmps13
 go_wp2_with fail
 refine (lawsSzColL A1 n1 c1 x.cols (left - (x.name.size : Int)) ok _ (h1.below ClR.stays HB.out) WF1.out (by omega) (by omega)).mono ?_
 rintro e w1 ⟨rfl, hb1⟩
 have hbb1 := (HB.out).trans (hb1.mono (HB.out).size)
 have RB1 := Lib.hid ((RB.out).below hb1)
 obtain ⟨⟨p1_0, p1_1, p1_2, p1_3, p1_4, p1_5⟩, -⟩ := RB1.out.all6
 rcases szR_cases (left - (x.name.size : Int)) (szL Cl.sz x.cols) (by omega) with ⟨hno1, hv1⟩ | ⟨l1, hv1, hl1, h01, h11, -⟩
 ·rw [hv1.out]
  go_wp2_with fail
  go_ret
  exact ⟨retI (szR_no (by simp only [Tb.sz]; omega)), hbb1⟩
 rw [hv1.out]
 go_wp2_with fail
 refine (lawsSzInts A2 n2 c2 x.key l1 ok _ (h2.below IntR.stays hbb1) WF2.out (by omega) (by omega)).mono ?_
 rintro e w2 ⟨rfl, hb2⟩
 have hbb2 := (hbb1).trans (hb2.mono (hbb1).size)
 have RB2 := Lib.hid ((RB1.out).below hb2)
 obtain ⟨⟨p2_0, p2_1, p2_2, p2_3, p2_4, p2_5⟩, -⟩ := RB2.out.all6
 rcases szR_cases l1 (x.key.length) (by omega) with ⟨hno2, hv2⟩ | ⟨l2, hv2, hl2, h02, h12, -⟩
 ·rw [hv2.out]
  go_wp2_with fail
  go_ret
  exact ⟨retI (szR_no (by have := hl1.out; simp only [Tb.sz]; omega)), hbb2⟩
 rw [hv2.out]
 go_wp2_with fail
 refine (lawsSzUniqueL A3 n3 c3 x.uniqs l2 ok _ (h3.below UqR.stays hbb2) WF3.out (by omega) (by omega)).mono ?_
 rintro e w3 ⟨rfl, hb3⟩
 have hbb3 := (hbb2).trans (hb3.mono (hbb2).size)
 have RB3 := Lib.hid ((RB2.out).below hb3)
 obtain ⟨⟨p3_0, p3_1, p3_2, p3_3, p3_4, p3_5⟩, -⟩ := RB3.out.all6
 rcases szR_cases l2 (szL Uq.sz x.uniqs) (by omega) with ⟨hno3, hv3⟩ | ⟨l3, hv3, hl3, h03, h13, -⟩
 ·rw [hv3.out]
  go_wp2_with fail
  go_ret
  exact ⟨retI (szR_no (by have := hl1.out; have := hl2.out; simp only [Tb.sz]; omega)), hbb3⟩
 rw [hv3.out]
 go_wp2_with fail
 refine (lawsSzCheckL A4 n4 c4 x.checks l3 ok _ (h4.below CkR.stays hbb3) WF4.out (by omega) (by omega)).mono ?_
 rintro e w4 ⟨rfl, hb4⟩
 have hbb4 := (hbb3).trans (hb4.mono (hbb3).size)
 have RB4 := Lib.hid ((RB3.out).below hb4)
 obtain ⟨⟨p4_0, p4_1, p4_2, p4_3, p4_4, p4_5⟩, -⟩ := RB4.out.all6
 rcases szR_cases l3 (szL Ck.sz x.checks) (by omega) with ⟨hno4, hv4⟩ | ⟨l4, hv4, hl4, h04, h14, -⟩
 ·rw [hv4.out]
  go_wp2_with fail
  go_ret
  exact ⟨retI (szR_no (by have := hl1.out; have := hl2.out; have := hl3.out; simp only [Tb.sz]; omega)), hbb4⟩
 rw [hv4.out]
 go_wp2_with fail
 refine (lawsSzFkL A5 n5 c5 x.fks l4 ok _ (h5.below FkR.stays hbb4) WF5.out (by omega) (by omega)).mono ?_
 rintro e w5 ⟨rfl, hb5⟩
 have hbb5 := (hbb4).trans (hb5.mono (hbb4).size)
 have RB5 := Lib.hid ((RB4.out).below hb5)
 obtain ⟨⟨p5_0, p5_1, p5_2, p5_3, p5_4, p5_5⟩, -⟩ := RB5.out.all6
 rcases szR_cases l4 (szL Fk.sz x.fks) (by omega) with ⟨hno5, hv5⟩ | ⟨l5, hv5, hl5, h05, h15, -⟩
 ·rw [hv5.out]
  go_wp2_with fail
  go_ret
  exact ⟨retI (szR_no (by have := hl1.out; have := hl2.out; have := hl3.out; have := hl4.out; simp only [Tb.sz]; omega)), hbb5⟩
 rw [hv5.out]
 go_wp2_with fail
 go_ret
 exact ⟨retI (szR_yes (by omega) (by have := hl1.out; have := hl2.out; have := hl3.out; have := hl4.out; have := hl5.out; simp only [Tb.sz]; omega)), hbb5⟩
set_option maxHeartbeats 1000000 in
theorem lawsSzTableL (A : Option Addr) (n c : Nat) (l : List Tb) (left : Int) (ok : Nat → Prop) (w : World) (h : Sl TbR 6 ok w A n l) (hwf : (l.length ≤ maxLen ∧ ∀ y ∈ l, y.wf)) (hp0 : 0 ≤ left) (hle : left ≤ 1048576) :
  Calls Tryz.prog 4 #[.slice A n c, .int .i64 left] w fun e w' => e = .returned (.int .i64 (szR left (szL Tb.sz l))) ∧ Below w.heap.size w w' := by
 obtain rfl : l.length = n := h.1
 obtain ⟨hlen, hall⟩ := hwf
 unfold maxLen at hlen
 have HW := Lib.hid hall
 clear hall
 by_cases hs : left - (l.length : Int) < 0
 ·go_enter Tryz.func4, Tryz.ntmps4
  go_wp2
  go_ret
  exact ⟨retI (szR_no (by unfold szL; omega)), Below.refl _ _⟩
 have hs' : decide (left - (l.length : Int) < 0) = false := by simpa using hs
 go_enter Tryz.func4, Tryz.ntmps4
 go_wp2
 go_loopw [1, 5] (fun m i wr => ∃ (k : Nat) (u : Int), k ≤ l.length ∧ i = .int .i64 k ∧ m = .int .i64 u ∧ 0 ≤ u ∧ u ≤ left ∧ Hid (u = left - l.length - ((l.take k).map (Tb.sz)).sum) ∧ Below w.heap.size w wr) (fun _ i _ => l.length - (intOf i).toNat)
 case atStart => exact ⟨0, _, by omega, rfl, rfl, by omega, by omega, Lib.hid (by simp), Below.refl _ _⟩
 case round =>
  obtain ⟨k, u, hk, rfl, rfl, hu0, hu1, hu, hb⟩ := hrel
  by_cases hlt : k < l.length
  ·obtain ⟨b, off, A1, n1, c1, A2, n2, c2, A3, n3, c3, A4, n4, c4, A5, n5, c5, -, rfl, q0, q1, q2, q3, q4, q5, s1, s2, s3, s4, s5, -⟩ := TbR.at_ (h.below TbR.stays hb) hlt
   have hx := HW.out _ (List.getElem_mem hlt)
   have hst := sum_take (Tb.sz) l k hlt
   have hsl := sum_take_le (Tb.sz) l (k + 1)
   have HST := Lib.hid hst
   have HSL := Lib.hid hsl
   have HX := Lib.hid hx
   clear hst hsl hx
   rcases szR_cases u (l[k].sz) hu0 with ⟨hno, hv⟩ | ⟨u', hv, hu', hu0', hu1', -⟩
   ·go_wp2_with fail
    refine (lawsSzTable l[k] A1 n1 c1 A2 n2 c2 A3 n3 c3 A4 n4 c4 A5 n5 c5 u ok _ s1 s2 s3 s4 s5 HX.out hu0 (by omega)).mono ?_
    rintro e w1 ⟨rfl, hb1⟩
    rw [hv.out]
    go_wp2_with fail
    go_ret
    exact ⟨retI (szR_no (by have e1 := hu.out; have e2 := HST.out; have e3 := HSL.out; unfold szL; (try simp only at e1 e2 e3 ⊢); omega)), hb.trans (hb1.mono hb.size)⟩
   ·go_wp2_with fail
    refine (lawsSzTable l[k] A1 n1 c1 A2 n2 c2 A3 n3 c3 A4 n4 c4 A5 n5 c5 u ok _ s1 s2 s3 s4 s5 HX.out hu0 (by omega)).mono ?_
    rintro e w1 ⟨rfl, hb1⟩
    rw [hv.out]
    go_wp2_with fail
    go_roundw
    case rel => exact ⟨k + 1, _, by omega, by go_num, rfl, by omega, by omega, Lib.hid (by have e1 := hu.out; have e2 := HST.out; have e3 := hu'.out; (try simp only at e1 e2 e3 ⊢); omega), hb.trans (hb1.mono hb.size)⟩
    case measure => simp [intOf]; omega
  ·have e : l.take k = l := List.take_of_length_le (by omega)
   have e1 := hu.out
   rw [e] at e1
   have HU := Lib.hid e1
   clear e1 hu e
   go_wp2
   go_ret
   exact ⟨retI (szR_yes (by omega) (by have e1 := HU.out; unfold szL; omega)), hb⟩
end Go.Proofs.YthamekdjfoepmaaGreat
