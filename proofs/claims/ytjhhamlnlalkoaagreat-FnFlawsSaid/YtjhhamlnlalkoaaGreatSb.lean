/-
  Several texts in one: what the proof leans on, part 2.
-/
import Derived.Test.YtjhhamlnlalkoaaGreatSa
import Derived.Test.YtjhhamlnlalkoaaGreatPa
import Derived.Test.YtjhhamlnlalkoaaGreatPb
import Derived.Test.YtjhhamlnlalkoaaGreatPc
import Derived.Test.YtjhhamlnlalkoaaGreatPd
import Derived.Test.YtjhhamlnlalkoaaGreatPe
import Derived.Test.YtjhhamlnlalkoaaGreatPf
import Derived.Test.YtjhhamlnlalkoaaGreatPg
import Derived.Test.YtjhhamlnlalkoaaGreatPh
import Derived.Test.YtjhhamlnlalkoaaGreatPi
import Derived.Test.YtjhhamlnlalkoaaGreatQa
import Derived.Test.YtjhhamlnlalkoaaGreatQb
import Derived.Deep.RegionHeld3
import Derived.Deep.RegionLawGrows
import Derived.Lib.SmallJoins
set_option linter.unusedVariables false
set_option linter.unusedSimpArgs false
namespace Go.Proofs.YtjhhamlnlalkoaaGreat
open Go.RowKit
theorem Blo.but {w w' : World} {R g : Nat} {xs : List Value} {T : TypeId} (h : Blo w g xs T) (hb : But R w w') (hg : g ≠ R) : Blo w' g xs T := (hb.block g h.lt hg).trans h
theorem Blo.alloc {w : World} {g : Nat} {xs : List Value} {T : TypeId} (h : Blo w g xs T) (o : Obj) : Blo (w.alloc o) g xs T := (Below.heap_alloc _ _ _ h.lt).trans h
theorem Blo.six {w : World} {g : Nat} {x0 x1 x2 x3 x4 x5 : Value} {T : TypeId} (h : Blo w g [x0, x1, x2, x3, x4, x5] T) : (w.cell? ⟨g, 0, none⟩ = some x0 ∧ w.cell? ⟨g, 1, none⟩ = some x1 ∧ w.cell? ⟨g, 2, none⟩ = some x2 ∧ w.cell? ⟨g, 3, none⟩ = some x3 ∧ w.cell? ⟨g, 4, none⟩ = some x4 ∧ w.cell? ⟨g, 5, none⟩ = some x5) ∧
  (w.frozen? ⟨g, 0, none⟩ = false ∧ w.frozen? ⟨g, 1, none⟩ = false ∧ w.frozen? ⟨g, 2, none⟩ = false ∧ w.frozen? ⟨g, 3, none⟩ = false ∧ w.frozen? ⟨g, 4, none⟩ = false ∧ w.frozen? ⟨g, 5, none⟩ = false) :=
 ⟨⟨h.cell 0 _ rfl, h.cell 1 _ rfl, h.cell 2 _ rfl, h.cell 3 _ rfl, h.cell 4 _ rfl, h.cell 5 _ rfl⟩, h.free 0, h.free 1, h.free 2, h.free 3, h.free 4, h.free 5⟩
abbrev SixT (w : World) (g : Nat) (x0 x1 x2 x3 x4 x5 : Value) : Prop := w.cell? ⟨g, 0, none⟩ = some x0 ∧ w.cell? ⟨g, 1, none⟩ = some x1 ∧ w.cell? ⟨g, 2, none⟩ = some x2 ∧ w.cell? ⟨g, 3, none⟩ = some x3 ∧ w.cell? ⟨g, 4, none⟩ = some x4 ∧ w.cell? ⟨g, 5, none⟩ = some x5
theorem SixT.box {w : World} {g b : Nat} {x0 x1 x2 x3 x4 x5 : Value} (h : SixT w g x0 x1 x2 x3 x4 x5) (hb : b ≠ g) (y0 y1 y2 y3 y4 y5 : Value) : SixT ((((((w.setCell ⟨b, 0, none⟩ y0).setCell ⟨b, 1, none⟩ y1).setCell ⟨b, 2, none⟩ y2).setCell ⟨b, 3, none⟩ y3).setCell ⟨b, 4, none⟩ y4).setCell ⟨b, 5, none⟩ y5) g x0 x1 x2 x3 x4 x5 := by
 have e : ∀ (w : World) (i k : Nat) (y : Value), (w.setCell ⟨b, i, none⟩ y).cell? ⟨g, k, none⟩ = w.cell? ⟨g, k, none⟩ := fun w i k y => World.cell?_setCell_other _ _ _ _ (fun e => hb (congrArg Addr.block e))
 simp only [SixT, e]
 exact h
theorem tabEnd {w W u : World} {b : Nat} {y0 y1 y2 y3 y4 y5 x0 x1 x2 x3 x4 x5 : Value} {T : TypeId} {cs : List Value} {t : Tb} {ok : Nat → Prop} (hB : Blo W b [y0, y1, y2, y3, y4, y5] T) (hT : TbR ok W cs t) (hne : ∀ c, ok c → c ≠ b) (h3 : Below b u W) (h0 : Below b w u) :
  SixT ((((((W.setCell ⟨b, 0, none⟩ x0).setCell ⟨b, 1, none⟩ x1).setCell ⟨b, 2, none⟩ x2).setCell ⟨b, 3, none⟩ x3).setCell ⟨b, 4, none⟩ x4).setCell ⟨b, 5, none⟩ x5) b x0 x1 x2 x3 x4 x5 ∧ TbR ok ((((((W.setCell ⟨b, 0, none⟩ x0).setCell ⟨b, 1, none⟩ x1).setCell ⟨b, 2, none⟩ x2).setCell ⟨b, 3, none⟩ x3).setCell ⟨b, 4, none⟩ x4).setCell ⟨b, 5, none⟩ x5) cs t ∧ Below b w ((((((W.setCell ⟨b, 0, none⟩ x0).setCell ⟨b, 1, none⟩ x1).setCell ⟨b, 2, none⟩ x2).setCell ⟨b, 3, none⟩ x3).setCell ⟨b, 4, none⟩ x4).setCell ⟨b, 5, none⟩ x5) := by
 have hS := ((((((hB.put 0 x0).put 1 x1).put 2 x2).put 3 x3).put 4 x4).put 5 x5)
 have k : ∀ (W : World) (i : Nat) (x : Value), TbR ok W cs t → TbR ok (W.setCell ⟨b, i, none⟩ x) cs t := fun W i x h => TbR.stays _ _ _ _ _ _ h (fun _ h => h) fun p v hp hc => (World.cell?_setCell_other _ _ _ _ (fun e => hne _ hp (by rw [← e]))).trans hc
 refine ⟨(show Blo _ b [x0, x1, x2, x3, x4, x5] T from hS).six.1, k _ _ _ (k _ _ _ (k _ _ _ (k _ _ _ (k _ _ _ (k _ _ _ hT))))), ?_⟩
 exact (((((((h0.trans h3).setCell (Nat.le_refl _) _).setCell (Nat.le_refl _) _).setCell (Nat.le_refl _) _).setCell (Nat.le_refl _) _).setCell (Nat.le_refl _) _).setCell (Nat.le_refl _) _)
theorem cell_far {w : World} {p q : Addr} {v u : Value} (h : w.cell? q = some u) (hne : q.block ≠ p.block) : (w.setCell p v).cell? q = some u := (World.cell?_setCell_other _ _ _ _ (fun e => hne (by rw [e]))).trans h
def isRowArgs (v : Value) (w : World) : Prop := ∃ (ok okv : Nat → Prop) (cs : List Value) (t : Tb) (AV : Option Addr) (cV : Nat) (xs : List Vl),
 v = .tuple #[.agg cs.toArray, .slice AV xs.length cV] ∧ TbR ok w cs t ∧ t.sz ≤ 1000 ∧ Sl VlR 3 okv w AV xs.length xs ∧ xs.length ≤ cV ∧ xs.length ≤ 1000
set_option maxRecDepth 100000 in
set_option maxHeartbeats 4000000 in
theorem drawRowOk (a : Option Addr) (len cap : Nat) (zs : List Int) (w : World) (h : IsRow .u8 w a len cap zs) :
  Calls Tryz.prog 23 #[.slice a len cap] w (Drawn isRowArgs w) := by
 have bx := Blo.new w [.string ⟨#[]⟩, .slice none 0 0, .slice none 0 0, .slice none 0 0, .slice none 0 0, .slice none 0 0] 45
 have hx := (Below.refl w.heap.size w).alloc (Nat.le_refl _) (.cells #[.string ⟨#[]⟩, .slice none 0 0, .slice none 0 0, .slice none 0 0, .slice none 0 0, .slice none 0 0] 45)
 have hrow := h.below hx
 have h0 := Rdr.new hrow 112
 have b0 := hx.alloc hx.size (.cells #[.slice a len cap, .int .i64 0] 112)
 have bu := bx.alloc (.cells #[.slice a len cap, .int .i64 0] 112)
 go_enter Tryz.func23, Tryz.ntmps23
 go_wp2_with fail
 refine (specOpen _ _ _ _).mono ?_
 rintro e w1 ⟨rfl, rfl⟩
 have hsz : (w.alloc (.cells #[.string ⟨#[]⟩, .slice none 0 0, .slice none 0 0, .slice none 0 0, .slice none 0 0, .slice none 0 0] 45)).heap.size = w.heap.size + 1 := by simp
 have hRlt : w.heap.size + 1 < ((w.alloc (.cells #[.string ⟨#[]⟩, .slice none 0 0, .slice none 0 0, .slice none 0 0, .slice none 0 0, .slice none 0 0] 45)).alloc (.cells #[.slice a len cap, .int .i64 0] 112)).heap.size := by simp
 rw [hsz] at h0
 go_wp2_with fail
 generalize (w.alloc (.cells #[.string ⟨#[]⟩, .slice none 0 0, .slice none 0 0, .slice none 0 0, .slice none 0 0, .slice none 0 0] 45)).alloc (.cells #[.slice a len cap, .int .i64 0] 112) = u at *
 refine (rdSchema _ _ a len cap zs h0).mono ?_
 rintro e w2 ⟨v, rfl, hsch, hb, hr⟩
 obtain ⟨A1, c1, ts, rfl, hc1, hsl, hsk⟩ := hsch.full
 have hS := okF.weak TbR.stays hsl (Nat.le_refl _)
 have hok : ∀ b, u.heap.size ≤ b → b ≠ w.heap.size + 1 := fun b hb => by omega
 have hnx : w.heap.size ≠ w.heap.size + 1 := by omega
 have h1l := hsk.1
 have HK := Lib.hid hsk
 clear hsl hsch hsk
 go_wp2_with fail
 refine (rdBelow _ _ _ a len cap zs hr).mono ?_
 rintro e w3 ⟨z, rfl, ⟨y, rfl, y0, y1⟩, hb3, hr3⟩
 obtain ⟨i, rfl⟩ : ∃ i : Nat, y = (i : Int) := ⟨y.toNat, by omega⟩
 have hi : i < ts.length := by omega
 have i0 : (0 : Int) ≤ i := by omega
 have i1 : (i : Int) < ts.length := by omega
 have htz : ts[i].sz ≤ 1000 := by have := (HK.out.2.2 _ (List.getElem_mem hi)).1; omega
 have hcl : ts[i].cols.length ≤ 1000 := by have := cols_le ts[i]; omega
 obtain ⟨bt, ot, B1, m1, d1, B2, m2, d2, B3, m3, d3, B4, m4, d4, B5, m5, d5, -, eT, t0, t1, t2, t3, t4, t5, s1, s2, s3, s4, s5, cc⟩ := TbR.at_ (hS.butY TbR.stays hb3 hok) hi
 subst eT
 have hgt : u.heap.size ≤ w3.heap.size := (hb.trans hb3).size
 have hgR : w3.heap.size ≠ w.heap.size + 1 := by omega
 have hgb : w3.heap.size ≠ w.heap.size := by omega
 have hal := (Below.refl w3.heap.size w3).alloc (Nat.le_refl _) (.cells #[.string ts[i].name, .slice B1 m1 d1, .slice B2 m2 d2, .slice B3 m3 d3, .slice B4 m4 d4, .slice B5 m5 d5] 45)
 have BT := Lib.hid (Blo.new w3 [.string ts[i].name, .slice B1 m1 d1, .slice B2 m2 d2, .slice B3 m3 d3, .slice B4 m4 d4, .slice B5 m5 d5] 45)
 have BB := Lib.hid ((bu.but (hb.trans hb3) hnx).alloc (.cells #[.string ts[i].name, .slice B1 m1 d1, .slice B2 m2 d2, .slice B3 m3 d3, .slice B4 m4 d4, .slice B5 m5 d5] 45))
 have HB4 := Lib.hid ((hb.trans hb3).alloc (.cells #[.string ts[i].name, .slice B1 m1 d1, .slice B2 m2 d2, .slice B3 m3 d3, .slice B4 m4 d4, .slice B5 m5 d5] 45))
 have HR4 := Lib.hid (hr3.alloc (.cells #[.string ts[i].name, .slice B1 m1 d1, .slice B2 m2 d2, .slice B3 m3 d3, .slice B4 m4 d4, .slice B5 m5 d5] 45))
 have SS := Lib.hid (And.intro (s1.below ClR.stays hal) (And.intro (s2.below IntR.stays hal) (And.intro (s3.below UqR.stays hal) (And.intro (s4.below CkR.stays hal) (And.intro (s5.below FkR.stays hal) cc)))))
 have HOK := Lib.hid hok
 clear hb hb3 hr hr3 s1 s2 s3 s4 s5 cc hok hal hS bu bx hx hrow hsz y0 y1 h0 HK
 go_wp2_with fail
 generalize w3.alloc (.cells #[.string ts[i].name, .slice B1 m1 d1, .slice B2 m2 d2, .slice B3 m3 d3, .slice B4 m4 d4, .slice B5 m5 d5] 45) = w4 at *
 generalize w3.heap.size = gt at *
 clear t0 t1 t2 t3 t4 t5
 have r := (show Blo w4 gt [.string ts[i].name, .slice B1 m1 d1, .slice B2 m2 d2, .slice B3 m3 d3, .slice B4 m4 d4, .slice B5 m5 d5] _ from BT.out).six.1
 refine wp_region_noPanic ?_
 refine wp_region_held_drew (S := (fun w' => w'.cell? ⟨gt, 0, none⟩ = some (.string ts[i].name) ∧ w'.cell? ⟨gt, 1, none⟩ = some (.slice B1 m1 d1) ∧ w'.cell? ⟨gt, 2, none⟩ = some (.slice B2 m2 d2) ∧ w'.cell? ⟨gt, 3, none⟩ = some (.slice B3 m3 d3) ∧ w'.cell? ⟨gt, 4, none⟩ = some (.slice B4 m4 d4) ∧ w'.cell? ⟨gt, 5, none⟩ = some (.slice B5 m5 d5))) (by kernel_rfl) r (fun hHeld => ?_)
 refine tk 0 ?_
 refine tk 1 ?_
 refine tk 2 ?_
 refine wpAnyH_ready (rs := [3]) (by kernel_rfl) (by simp) ?_
 refine AllReadyH.cons rfl (fun K hK => ?_) AllReadyH.nil
 go_simp
 go_at_call 50
 refine (rdFit _ _ _ _ _ B1 m1 d1 ts[i].cols _ _ _ a len cap zs (rdr_drewY HR4.out) (SS.out.1.stays ClR.stays (fun _ h => h) fun _ _ _ h => h) HOK.out hcl).mono ?_
 rintro e w5 ⟨z, rfl, ⟨xs, hown, hxl, hxo⟩, hb5', hr5⟩
 have hb5 := but_undrewY hb5'
 obtain ⟨AV, cV, rfl, hvc, -, hvs⟩ := OwnG.sl (f := Vl.cells) (sz := 3) (fun _ => rfl) hown
 have BT5 := Lib.hid ((show Blo w4 gt [.string ts[i].name, .slice B1 m1 d1, .slice B2 m2 d2, .slice B3 m3 d3, .slice B4 m4 d4, .slice B5 m5 d5] _ from BT.out).but hb5 hgR)
 have BB5 := Lib.hid (BB.out.but hb5 hnx)
 have HB5 := Lib.hid (HB4.out.trans hb5)
 have hsz5 : w4.heap.size ≤ w5.heap.size := hb5.size
 have HV := Lib.hid (okF.weak (base := u.heap.size) VlR.stays hvs HB4.out.size)
 obtain ⟨q1, q2, q3, q4, q5, q6⟩ := SS.out
 have hT5 : TbR (fun b => u.heap.size ≤ b) w5 [.string ts[i].name, .slice B1 m1 d1, .slice B2 m2 d2, .slice B3 m3 d3, .slice B4 m4 d4, .slice B5 m5 d5] ts[i] := ⟨B1, m1, d1, B2, m2, d2, B3, m3, d3, B4, m4, d4, B5, m5, d5, rfl, q1.butY ClR.stays hb5 HOK.out, q2.butY IntR.stays hb5 HOK.out, q3.butY UqR.stays hb5 HOK.out, q4.butY CkR.stays hb5 HOK.out, q5.butY FkR.stays hb5 HOK.out, q6⟩
 have HT5 := Lib.hid hT5
 clear hT5 q1 q2 q3 q4 q5 q6 hown hvs hb5 hb5' hr5
 obtain ⟨⟨z0, z1, z2, z3, z4, z5⟩, ⟨p0, p1, p2, p3, p4, p5⟩⟩ := BB5.out.six
 refine hK.out _ _ (show Blo w5 gt [.string ts[i].name, .slice B1 m1 d1, .slice B2 m2 d2, .slice B3 m3 d3, .slice B4 m4 d4, .slice B5 m5 d5] _ from BT5.out).six.1 (fun hHeld => ?_)
 clear hK K
 (try simp only [Act.put, pz0, pz1, pz2, pz3, pz4, pz5])
 refine wpAnyH_ready (rs := [4]) (by kernel_rfl) (by simp) ?_
 refine AllReadyH.cons rfl (fun K hK => ?_) AllReadyH.nil
 go_simp
 refine hK.out _ _ (SixT.box (show Blo w5 gt [.string ts[i].name, .slice B1 m1 d1, .slice B2 m2 d2, .slice B3 m3 d3, .slice B4 m4 d4, .slice B5 m5 d5] _ from BT5.out).six.1 hgb.symm _ _ _ _ _ _) (fun hHeld => ?_)
 clear hK K
 (try simp only [Act.put, pz0, pz1, pz2, pz3, pz4, pz5])
 refine tk 5 ?_
 refine wpAnyH_done (by kernel_rfl) ?_ _
 refine NoPanic.normal ?_
 clear hHeld
 clear z0 z1 z2 z3 z4 z5 p0 p1 p2 p3 p4 p5
 obtain ⟨⟨z0, z1, z2, z3, z4, z5⟩, hTb, hBw⟩ := tabEnd (x0 := .string ts[i].name) (x1 := .slice B1 m1 d1) (x2 := .slice B2 m2 d2) (x3 := .slice B3 m3 d3) (x4 := .slice B4 m4 d4) (x5 := .slice B5 m5 d5) BB5.out HT5.out (fun c hc => by have : u.heap.size ≤ c := hc; omega) (HB5.out.below (Nat.le_succ _) (by omega)) b0
 have hV6 := HV.out.stays (w' := ((((((w5.setCell ⟨w.heap.size, 0, none⟩ (.string ts[i].name)).setCell ⟨w.heap.size, 1, none⟩ (.slice B1 m1 d1)).setCell ⟨w.heap.size, 2, none⟩ (.slice B2 m2 d2)).setCell ⟨w.heap.size, 3, none⟩ (.slice B3 m3 d3)).setCell ⟨w.heap.size, 4, none⟩ (.slice B4 m4 d4)).setCell ⟨w.heap.size, 5, none⟩ (.slice B5 m5 d5))) VlR.stays (fun _ h => h) (fun p v hp hc => (show p.block ≠ w.heap.size → _ from fun hn => cell_far (cell_far (cell_far (cell_far (cell_far (cell_far hc hn) hn) hn) hn) hn) hn) (by have : u.heap.size ≤ p.block := hp; omega))
 have HF := Lib.hid (show Drawn isRowArgs w (.returned (.tuple #[.agg #[.string ts[i].name, .slice B1 m1 d1, .slice B2 m2 d2, .slice B3 m3 d3, .slice B4 m4 d4, .slice B5 m5 d5], .slice AV xs.length cV])) _ from ⟨_, rfl, ⟨_, _, _, _, _, _, _, rfl, hTb, htz, hV6, hvc, by omega⟩, hBw⟩)
 clear hTb hBw hV6
 go_wp2_with fail
 refine bodyPost_ret (v := .tuple #[.agg #[.string ts[i].name, .slice B1 m1 d1, .slice B2 m2 d2, .slice B3 m3 d3, .slice B4 m4 d4, .slice B5 m5 d5], .slice AV xs.length cV]) ?_ rfl HF.out
 simp [results, Tryz.results23, go_sem, z0, z1, z2, z3, z4, z5, hxl]
end Go.Proofs.YtjhhamlnlalkoaaGreat
