/-
  Several texts in one: what the proof leans on, part 3.
-/
import Derived.Test.YtciaidjmehelpaaGreatQb
import Derived.Test.YtciaidjmehelpaaGreatMa
import Derived.Test.YtciaidjmehelpaaGreatMb
import Derived.Test.YtciaidjmehelpaaGreatMc
import Derived.Test.YtciaidjmehelpaaGreatMd
import Derived.Test.YtciaidjmehelpaaGreatMe
import Derived.Test.YtciaidjmehelpaaGreatRa
import Derived.Test.YtciaidjmehelpaaGreatRb
import Derived.Test.YtciaidjmehelpaaGreatRc
import Derived.Test.YtciaidjmehelpaaGreatRd
import Derived.Deep.AppendLies
set_option linter.unusedVariables false
set_option linter.unusedSimpArgs false
namespace Go.Proofs.YtciaidjmehelpaaGreat
open Go.RowKit
theorem ixL_right (s : List Tb) (db : List Dt) (tb : Int) (cols : List Int) : entriesB (ixL s db tb cols) = true := by
 unfold ixL
 split
 ·rename_i h
  have h1 := h
  unfold ixOk at h1
  simp only [Bool.and_eq_true, decide_eq_true_eq] at h1
  obtain ⟨hB, hin, hc⟩ := h1
  obtain ⟨m, rfl⟩ : ∃ m : Nat, tb = (m : Int) := ⟨tb.toNat, by omega⟩
  have hm : m < s.length := by omega
  have hdl : db.length = s.length := dbB_len hB
  have hmd : m < db.length := by omega
  rw [tabAt_some hm] at hc
  rw [rowsAt_some hmd]
  exact (ix_step (ixIn_db hB hm hmd hc).1 _ (Nat.le_refl _)).1
 ·rfl
theorem ixL_sz (s : List Tb) (db : List Dt) (tb : Int) (cols : List Int) : szL En.sz (ixL s db tb cols) ≤ 1048576 := right_sz (ixL_right s db tb cols)
theorem keepJ {u w' : World} {p q : Addr} {a b : Value} (h : u.cell? p = some a ∧ u.cell? q = some b) (hb : Below u.heap.size u w') : w'.cell? p = some a ∧ w'.cell? q = some b := ⟨below_keep hb _ _ h.1, below_keep hb _ _ h.2⟩
theorem ownsLit (w : World) {base : Nat} (hb : base ≤ w.heap.size) (T : TypeId) (sz : Nat) : (w.alloc (.cells #[] T)).ownsRow base T sz (.slice (some ⟨w.heap.size, 0, none⟩) 0 0) 0 [] :=
 ⟨by simp, .inr ⟨w.heap.size, 0, #[], rfl, hb, Go.heap_alloc_last w _, Nat.le_refl _, by simp [maxLen], by simp, by simp⟩⟩
theorem blo_grown {w w' : World} {g k : Nat} {xs : List Value} {T : TypeId} (h : Blo w k xs T) (hg : w.grownBy w' (some g)) (hne : k ≠ g) : Blo w' k xs T :=
 (hg.block k h.lt (by intro e; cases e; exact hne rfl)).trans h
theorem own_cells {w : World} {base : Nat} {T : TypeId} {sz n c g : Nat} {v : Value} {xs : List Value} (h : w.ownsRow base T sz v n xs) (e : v = .slice (some ⟨g, 0, none⟩) n c) : ∀ j y, xs[j]? = some y → w.cell? ⟨g, j, none⟩ = some y := fun j y hj => by
 subst e
 rcases h.2 with ⟨e, -⟩ | ⟨g', cap, cur, e, h1, h2, h3, h4, h5, h6⟩
 ·cases e
 ·cases e
  rw [cell_of_row _ _ _ _ _ _ h2, ← Array.getElem?_toList]
  rw [← h6, List.getElem?_take] at hj
  split at hj
  ·exact hj
  ·cases hj
theorem entK_len {us : List Value} {l : List En} (h : us.length = l.length) : (entC us l).length = l.length * 2 := by
 unfold entC
 rw [flat_len (sz := 2) _ (fun c hc => by
  obtain ⟨j, hj, rfl⟩ := List.mem_iff_getElem.1 hc
  rw [List.getElem_zipWith]; rfl), List.length_zipWith, h, Nat.min_self]
theorem OwnE0.tl {w : World} {base : Nat} {v u : Value} {us : List Value} {e0 : En} {l1 : List En} (h : OwnE0 w base v (e0 :: l1) (u :: us)) : ∀ i (hi : i < l1.length) (hi' : i < us.length), ∃ A c, us[i] = .slice A l1[i].key.length c ∧ l1[i].key.length ≤ c ∧ Sl VlR 3 (fun _ => True) w A l1[i].key.length l1[i].key := fun i hi hi' => by
 obtain ⟨A, c, e, h1, -, h3⟩ := OwnG.sl (f := Vl.cells) (sz := 3) (fun _ => rfl) (h.key (i + 1) (by simpa using hi) (by simpa using hi'))
 exact ⟨A, c, e, h1, Sl.okk h3⟩
theorem entK_one {w0 : World} {us : List Value} {l : List En} (h : ∀ i (hi : i < l.length) (hi' : i < us.length), ∃ A c, us[i] = .slice A l[i].key.length c ∧ l[i].key.length ≤ c ∧ Sl VlR 3 (fun _ => True) w0 A l[i].key.length l[i].key) : ∀ y ∈ entC us l, y.oneCell' = true := fun y hy => by
 unfold entC at hy
 obtain ⟨c, hc, hyc⟩ := List.mem_flatten.1 hy
 obtain ⟨j, hj, rfl⟩ := List.mem_iff_getElem.1 hc
 rw [List.getElem_zipWith] at hyc
 rw [List.length_zipWith] at hj
 obtain ⟨A, c, e, -⟩ := h j (by omega) (by omega)
 simp only [List.mem_cons, List.not_mem_nil, or_false] at hyc
 rcases hyc with rfl | rfl
 ·rw [e]; rfl
 ·rfl
theorem tail_cells {w u0 : World} {base g n c : Nat} {u : Value} {us : List Value} {e0 : En} {l1 : List En} (h : OwnE0 w base (.slice (some ⟨g, 0, none⟩) n c) (e0 :: l1) (u :: us)) (hb : Below w.heap.size w u0) : ∀ w', Below u0.heap.size u0 w' → ∀ j y, (entC us l1)[j]? = some y → w'.cell? ((⟨g, 2, none⟩ : Addr).add j) = some y := fun w' hb' j y hj => by
 have hn : n = (e0 :: l1).length := by
  rcases h.cells with ⟨e, -⟩ | ⟨g', c', e, -⟩
  ·cases e
  ·cases e; rfl
 subst hn
 have hc := own_cells h.row rfl (j + 2) y (by simpa [entC] using hj)
 rw [addr_add, Nat.add_comm 2 j]
 exact below_keep hb' _ _ (below_keep hb _ _ hc)
theorem turn_sl {w u0 w' : World} {base bs g n c g2 cap2 m : Nat} {A0 : Option Addr} {k0 c0 : Nat} {us : List Value} {e0 : En} {l1 : List En} (h : OwnE0 w base (.slice (some ⟨g, 0, none⟩) n c) (e0 :: l1) (.slice A0 k0 c0 :: us)) (hb : Below w.heap.size w u0)
  (f : w'.ownsRow bs 44 2 (.slice (some ⟨g2, 0, none⟩) m cap2) m ([] ++ entC us l1 ++ [.slice A0 k0 c0, .int .i64 e0.id])) (hb' : Below u0.heap.size u0 w') (hm : m = (l1 ++ [e0]).length := by simp) : Sl EnR 2 (fun _ => True) w' (some ⟨g2, 0, none⟩) m (l1 ++ [e0]) := by
 subst hm
 have hul : us.length = l1.length := by have := h.len; simpa using this
 have hz : entC (us ++ [.slice A0 k0 c0]) (l1 ++ [e0]) = entC us l1 ++ [.slice A0 k0 c0, .int .i64 e0.id] := by
  unfold entC
  rw [List.zipWith_append hul]
  simp
 have hS : ShareE (fun _ => True) w w' bs (.slice (some ⟨g2, 0, none⟩) (l1 ++ [e0]).length cap2) (l1 ++ [e0]) := by
  refine ⟨us ++ [.slice A0 k0 c0], by simp [hul], by rw [hz]; exact f, fun i hi hi' => ?_⟩
  by_cases e : i < l1.length
  ·have e' : i < us.length := by rw [hul]; exact e
   rw [List.getElem_append_left e, List.getElem_append_left e']
   obtain ⟨A, c, e2, h1, h3⟩ := h.tl i e e'
   exact ⟨A, _, c, e2, h1, h3⟩
  ·simp only [List.length_append, List.length_cons, List.length_nil] at hi
   obtain rfl : i = l1.length := by omega
   rw [List.getElem_append_right (Nat.le_refl _), List.getElem_append_right (Nat.le_of_eq hul)]
   obtain ⟨A, c, e2, h1, -, h3⟩ := OwnG.sl (f := Vl.cells) (sz := 3) (fun _ => rfl) (h.key 0 (by simp) (by simp))
   have e3 : (.slice A0 k0 c0 : Value) = .slice A e0.key.length c := e2
   cases e3
   exact ⟨A0, e0.key.length, c0, by simp [hul], h1, by simpa using Sl.okk h3⟩
 obtain ⟨A, c, e, hs⟩ := hS.sl (hb.trans (hb'.mono hb.size))
 cases e
 exact hs
theorem Sl.okE {ok : Nat → Prop} {w : World} {A : Option Addr} {n : Nat} {ds : List En} (h : Sl EnR 2 ok w A n ds) : Sl EnR 2 (fun _ => True) w A n ds := h.stays EnR.stays (fun _ _ => trivial) fun _ _ _ h => h
theorem sl_tail {w : World} {ok : Nat → Prop} {g n : Nat} {x : En} {l : List En} (h : Sl EnR 2 ok w (some ⟨g, 0, none⟩) n (x :: l)) : Sl EnR 2 ok w (some ⟨g, 2, none⟩) l.length l := by
 have hl := h.1
 obtain ⟨b, off, e, hb, hc⟩ := h.2 (by rw [← hl]; simp)
 cases e
 refine ⟨rfl, fun hn => ⟨g, 2, rfl, hb, fun i hi => ?_⟩⟩
 obtain ⟨cs, h1, h2, h3⟩ := hc (i + 1) (by simpa using hi)
 refine ⟨cs, h1, h2, fun j v hj => ?_⟩
 have := h3 j v hj
 rwa [show 0 + (i + 1) * 2 + j = 2 + i * 2 + j by omega] at this
theorem tail_sz {e0 : En} {l1 : List En} (h : szL En.sz (e0 :: l1) ≤ 1048576) : szL En.sz l1 ≤ 1048576 := by
 unfold szL at *
 simp only [List.length_cons, List.map_cons, List.sum_cons] at h
 omega
theorem turn_sz {e0 : En} {l1 : List En} (h : szL En.sz (e0 :: l1) ≤ 1048576) : szL En.sz (l1 ++ [e0]) ≤ 1048576 := by
 unfold szL at *
 simp only [List.length_append, List.length_cons, List.map_cons, List.map_append, List.sum_cons, List.sum_append, List.map_nil, List.sum_nil, List.length_nil] at h ⊢
 omega
def isIxkArgs (v : Value) (w : World) : Prop := ∃ (ok : Nat → Prop) (A1 : Option Addr) (c1 : Nat) (ts : List Tb) (A2 : Option Addr) (c2 : Nat) (ds : List Dt) (t : Int) (A3 : Option Addr) (c3 : Nat) (cols : List Int) (A4 : Option Addr) (n4 c4 : Nat) (l : List En),
 v = .tuple #[.slice A1 ts.length c1, .slice A2 ds.length c2, .int .i64 t, .slice A3 cols.length c3, .slice A4 n4 c4] ∧ ts.length ≤ c1 ∧ Sl TbR 6 ok w A1 ts.length ts ∧ Sl DtR 1 ok w A2 ds.length ds ∧ Sl IntR 1 ok w A3 cols.length cols ∧ cols.length ≤ c3 ∧ Sl EnR 2 (fun _ => True) w A4 n4 l ∧ schOk ts ∧ baseOk 6 ts ds ∧ ds.length ≤ ts.length ∧ (cols = [1, 0] ∨ ∃ y, cols = [y]) ∧ szL En.sz l ≤ 1048576
set_option maxRecDepth 100000 in
set_option maxHeartbeats 4000000 in
theorem drawIndexOk (a : Option Addr) (len cap : Nat) (zs : List Int) (w : World) (h : IsRow .u8 w a len cap zs) :
  Calls Tryz.prog 29 #[.slice a len cap] w (Drawn isIxkArgs w) := by
 obtain ⟨i0, hi, hi0, hi1, hi2⟩ := info_parts infoEntC
 have H1 := Lib.hid hi
 have H2 := Lib.hid hi0
 have H3 := Lib.hid hi1
 have H4 := Lib.hid hi2
 clear hi hi0 hi1 hi2
 have h0 := Rdr.new h 116
 have b0 := (Below.refl w.heap.size w).alloc (Nat.le_refl _) (.cells #[.slice a len cap, .int .i64 0] 116)
 have hrow := h.below b0
 go_enter Tryz.func29, Tryz.ntmps29
 go_wp2_with fail
 refine (specOpen _ _ _ _).mono ?_
 rintro e w1 ⟨rfl, rfl⟩
 have hRlt : w.heap.size < (w.alloc (.cells #[.slice a len cap, .int .i64 0] 116)).heap.size := by simp
 generalize w.alloc (.cells #[.slice a len cap, .int .i64 0] 116) = u at *
 go_wp2_with fail
 refine (drawIndexOfB a len cap zs _ hrow).mono ?_
 rintro e w2 ⟨v2, rfl, ⟨A1, c1, ts, A2, c2, ds, t, A3, c3, cols, rfl, hc1, hS, hD, hC, hc3, hsk, hbk, hdl, hcols⟩, hb2⟩
 have hss : szL Tb.sz ts ≤ 1048576 := by have := hsk.sz; omega
 have hds : szL Dt.sz ds ≤ 1048576 := by have := hbk.sz hsk (by omega) hdl; omega
 have hcl : cols.length ≤ 2 := by rcases hcols with rfl | ⟨y, rfl⟩ <;> simp
 have hr2 := rdr_below h0 hb2
 have HB0 := Lib.hid (below_but hb2 w.heap.size)
 go_wp2_with fail
 refine (specIndexOf A1 A2 A3 ts.length c1 ds.length c2 cols.length c3 t ts ds cols _ _ _ _ hS hD hC hc1 hc3 hss hds (by omega)).mono ?_
 rintro e w3 ⟨v3, rfl, ho, hq3⟩
 have hsz := ixL_sz ts ds t cols
 obtain ⟨es, hes⟩ : ∃ es, ixL ts ds t cols = es := ⟨_, rfl⟩
 rw [hes] at ho hsz
 clear hes
 generalize ixOk ts ds t cols = fl
 obtain ⟨AE, cE, rfl, hce, -, hsl⟩ := ho.sl
 have hn60 : es.length ≤ 1048576 := by have := hsz; unfold szL at this; omega
 have HSZ := Lib.hid hsz
 have hok : ∀ b, u.heap.size ≤ b → b ≠ w.heap.size := fun b hb => by omega
 have hge2 : u.heap.size ≤ w2.heap.size := hb2.size
 have HB := Lib.hid (below_but hq3 w.heap.size)
 have hr3 := rdr_below hr2 hq3
 have HS := Lib.hid hS
 have HD := Lib.hid hD
 have HC := Lib.hid hC
 have HO := Lib.hid ho
 have HF := Lib.hid (And.intro hc1 (And.intro hc3 (And.intro hsk (And.intro hbk (And.intro hdl hcols)))))
 clear h0 hrow hS hD hC hq3 hb2 hr2 hsl hss hds hsk hbk hdl hcols ho hsz
 go_wp2_with fail
 refine (rdOnce 2 _ _ a len cap zs hr3).mono ?_
 rintro e w4 ⟨v4, rfl, ⟨b4, rfl⟩, hb4, hr4⟩
 have HO := Lib.hid (OwnE.but HO.out hb4 (by omega))
 have HB := Lib.hid (HB.out.trans hb4)
 clear hb4 hr3
 cases b4
 ·go_wp2_with fail
  refine bodyPost_ret (v := .tuple #[.slice A1 ts.length c1, .slice A2 ds.length c2, .int .i64 t, .slice A3 cols.length c3, .slice AE es.length cE]) (by simp [results, Tryz.results29, go_sem]) rfl ⟨_, rfl, ⟨_, A1, c1, ts, A2, c2, ds, t, A3, c3, cols, _, _, _, es, rfl, HF.out.1, (HS.out.butY TbR.stays HB.out hok), (HD.out.butY DtR.stays HB.out hok), (HC.out.butY IntR.stays HB.out hok), HF.out.2.1, (OwnE.slq HO.out).okE, HF.out.2.2.1, HF.out.2.2.2.1, HF.out.2.2.2.2.1, HF.out.2.2.2.2.2, HSZ.out⟩, b0.trans ((HB0.out.trans HB.out).below (Nat.le_refl _) (Nat.le_of_lt hRlt))⟩
 ·by_cases h1 : 1 < es.length
  case neg =>
   have g0 : ¬ (1 : Int) < es.length := by omega
   go_wp2_with fail
   refine bodyPost_ret (v := .tuple #[.slice A1 ts.length c1, .slice A2 ds.length c2, .int .i64 t, .slice A3 cols.length c3, .slice AE es.length cE]) (by simp [results, Tryz.results29, go_sem]) rfl ⟨_, rfl, ⟨_, A1, c1, ts, A2, c2, ds, t, A3, c3, cols, _, _, _, es, rfl, HF.out.1, (HS.out.butY TbR.stays HB.out hok), (HD.out.butY DtR.stays HB.out hok), (HC.out.butY IntR.stays HB.out hok), HF.out.2.1, (OwnE.slq HO.out).okE, HF.out.2.2.1, HF.out.2.2.2.1, HF.out.2.2.2.2.1, HF.out.2.2.2.2.2, HSZ.out⟩, b0.trans ((HB0.out.trans HB.out).below (Nat.le_refl _) (Nat.le_of_lt hRlt))⟩
  have g0 : (1 : Int) < es.length := by omega
  obtain ⟨e0, l1, rfl⟩ : ∃ e0 l1, es = e0 :: l1 := by cases es with
   | nil => simp at h1
   | cons e l => exact ⟨e, l, rfl⟩
  have hl1 : 0 < l1.length := by simpa using h1
  have hlc : (e0 :: l1).length = l1.length + 1 := rfl
  rw [hlc] at g0 h1 hce hn60
  have HO := Lib.hid (show OwnE w4 w2.heap.size (.slice AE (l1.length + 1) cE) (e0 :: l1) from HO.out)
  obtain ⟨g, c9, e9, hg, -, -, -⟩ := HO.out.first
  cases e9
  go_wp2_with fail
  refine (rdBelow 3 _ _ a len cap zs hr4).mono ?_
  rintro e w5 ⟨v5, rfl, ⟨x5, rfl, x0, x1⟩, hb5, hr5⟩
  have HO := Lib.hid (OwnE.but HO.out hb5 (by omega))
  have HB := Lib.hid (HB.out.trans hb5)
  clear hb5 hr4
  have hcc : ((l1.length + 1 : Nat) : Int) ≤ cE := by omega
  have hcn : ((l1.length + 1 : Nat) : Int) = (l1.length : Int) + 1 := by omega
  have k1 : (1 : Int) ≤ (l1.length : Int) + 1 := by omega
  have k2 : ¬ cE = 1 := by omega
  obtain rfl | rfl | rfl : x5 = 0 ∨ x5 = 1 ∨ x5 = 2 := by omega
  ·have hT := sl_tail (OwnE.slq HO.out)
   have hTz := tail_sz HSZ.out
   go_wp2_with fail
   refine bodyPost_ret (v := .tuple #[.slice A1 ts.length c1, .slice A2 ds.length c2, .int .i64 t, .slice A3 cols.length c3, .slice (some ⟨g, 2, none⟩) l1.length (cE - 1)]) (by simp [results, Tryz.results29, go_sem]) rfl ⟨_, rfl, ⟨_, A1, c1, ts, A2, c2, ds, t, A3, c3, cols, _, _, _, l1, rfl, HF.out.1, (HS.out.butY TbR.stays HB.out hok), (HD.out.butY DtR.stays HB.out hok), (HC.out.butY IntR.stays HB.out hok), HF.out.2.1, hT.okE, HF.out.2.2.1, HF.out.2.2.2.1, HF.out.2.2.2.2.1, HF.out.2.2.2.2.2, hTz⟩, b0.trans ((HB0.out.trans HB.out).below (Nat.le_refl _) (Nat.le_of_lt hRlt))⟩
  ·go_wp2_with fail
   refine (rdOff 1 5 (by omega) (by omega) (by omega) _ _ a len cap zs hr5).mono ?_
   rintro e w6 ⟨v6, rfl, ⟨y, rfl, y0, y1⟩, hb6, hr6⟩
   have HO := Lib.hid (OwnE.but HO.out hb6 (by omega))
   have HB := Lib.hid (HB.out.trans hb6)
   obtain ⟨g', c', e', hg', ⟨n9, hc9⟩, hf9, hst⟩ := HO.out.first
   cases e'
   have HZ := Lib.hid (hst y)
   have HB := Lib.hid (HB.out.setNew (p := ⟨g, 1, none⟩) hg' (.int .i64 y))
   clear hst hb6 hr6 hr5
   go_wp2_with fail
   refine bodyPost_ret (v := .tuple #[.slice A1 ts.length c1, .slice A2 ds.length c2, .int .i64 t, .slice A3 cols.length c3, .slice (some ⟨g, 0, none⟩) (l1.length + 1) cE]) (by simp [results, Tryz.results29, go_sem]) rfl ⟨_, rfl, ⟨_, A1, c1, ts, A2, c2, ds, t, A3, c3, cols, _, _, _, ({ e0 with id := y } :: l1), rfl, HF.out.1, (HS.out.butY TbR.stays HB.out hok), (HD.out.butY DtR.stays HB.out hok), (HC.out.butY IntR.stays HB.out hok), HF.out.2.1, (OwnE.slq HZ.out).okE, HF.out.2.2.1, HF.out.2.2.2.1, HF.out.2.2.2.2.1, HF.out.2.2.2.2.2, HSZ.out⟩, b0.trans ((HB0.out.trans HB.out).below (Nat.le_refl _) (Nat.le_of_lt hRlt))⟩
  ·obtain ⟨vs, hvs⟩ := HO.out
   obtain ⟨v0, us, rfl⟩ : ∃ v0 us, vs = v0 :: us := by cases vs with
    | nil => have := hvs.len; simp at this
    | cons x us => exact ⟨x, us, rfl⟩
   have hul : us.length = l1.length := by have := hvs.len; simpa using this
   have hcell := own_cells hvs.row rfl
   have hk0 := hvs.key 0 (by simp) (by simp)
   obtain ⟨A0, c0, ev, hA0, -, -⟩ := OwnG.sl (f := Vl.cells) (sz := 3) (fun _ => rfl) hk0
   have ev : v0 = .slice A0 e0.key.length c0 := ev
   subst ev
   have p0 := hcell 0 _ rfl
   have p1 := hcell 1 _ rfl
   have hgl : g < w5.heap.size := cell_lt p0
   have HV := Lib.hid hvs
   clear hk0 hcell hvs
   go_wp2_with fail
   have hX0 : Blo (w5.alloc (.cells #[.slice A0 e0.key.length c0, .int .i64 e0.id] 44)) w5.heap.size [.slice A0 e0.key.length c0, .int .i64 e0.id] 44 := Blo.new _ _ _
   have hal := (Below.refl w5.heap.size w5).alloc (Nat.le_refl _) (.cells #[.slice A0 e0.key.length c0, .int .i64 e0.id] 44)
   have hsx : (w5.alloc (.cells #[.slice A0 e0.key.length c0, .int .i64 e0.id] 44)).heap.size = w5.heap.size + 1 := by simp
   have HL := Lib.hid hal.drew
   have hX1 : Blo (w5.alloc (.cells #[.slice A0 e0.key.length c0, .int .i64 e0.id] 44)).drew w5.heap.size [.slice A0 e0.key.length c0, .int .i64 e0.id] 44 := hX0
   have r0 := hX0.cell 0 _ rfl
   have r1 := hX0.cell 1 _ rfl
   have hD1 : ((l1.length + 1 : Nat) : Int) - 1 = l1.length := by omega
   go_upto_region 7 with fail
   refine wp_region_noPanic ?_
   refine wp_region_held_drew (S := (fun w' => w'.cell? ⟨w5.heap.size, 0, none⟩ = some (.slice A0 e0.key.length c0) ∧ w'.cell? ⟨w5.heap.size, 1, none⟩ = some (.int .i64 e0.id))) (by kernel_rfl) ⟨r0, r1⟩ (fun hHeld => ?_)
   have HJ := Lib.hid (show (fun w' => w'.cell? ⟨w5.heap.size, 0, none⟩ = some (.slice A0 e0.key.length c0) ∧ w'.cell? ⟨w5.heap.size, 1, none⟩ = some (.int .i64 e0.id)) (w5.alloc (.cells #[.slice A0 e0.key.length c0, .int .i64 e0.id] 44)).drew from ⟨r0, r1⟩)
   have HT := Lib.hid (tail_cells HV.out HL.out)
   clear hX0 hal hX1 r0 r1 p0 p1
   generalize (w5.alloc (.cells #[.slice A0 e0.key.length c0, .int .i64 e0.id] 44)).drew = u0 at *
   refine tk 1 ?_
   refine tk 2 ?_
   refine tk 4 ?_
   refine wpAnyH_ready (rs := [0, 5]) (by kernel_rfl) (by simp) ?_
   refine AllReadyH.cons rfl (fun K hK => ?_) ?_
   ·go_simp
    have f0 := ownsLit u0 (Nat.le_refl _) 44 2
    have q0 := (Below.refl u0.heap.size u0).alloc (Nat.le_refl _) (.cells #[] 44)
    refine hK.out _ _ (keepJ HJ.out q0) (fun hHeld => ?_)
    clear hK K
    (try simp only [Act.put, pz0, pz1, pz2, pz3, pz4, pz5])
    refine wpAnyH_ready (rs := [3, 5]) (by kernel_rfl) (by simp) ?_
    refine AllReadyH.cons rfl (fun K hK => ?_) ?_
    ·refine step_append_lies (u0.alloc (.cells #[] 44)) rfl (.tmp 44) (.tmp 46) 37 rfl u0.heap.size 44 i0 (.agg #[.slice none 0 0, .int .i64 0]) 2 32 Tryz.underlying37 H1.out H2.out H3.out H4.out rfl (by decide) _ 0 [] rfl f0 ⟨g, 2, none⟩ l1.length (cE - 1) (entC us l1) rfl (entK_len hul) (HT.out _ q0) (entK_one HV.out.tl) hl1 (by unfold maxLen; omega) (by omega) q0.size (u0.alloc (.cells #[] 44)).heap.size rfl ?_
     rintro g1 cap1 y1 f1 fg1 fo1 flt1
     rw [Nat.zero_add] at f1 ⊢
     have fb1 := q0.trans (grown_below fg1 (World.ownsRow.lt f0 _ rfl).1 q0.size)
     refine hK.out _ _ (keepJ HJ.out fb1) (fun hHeld => ?_)
     clear hK K
     (try simp only [Act.put, pz0, pz1, pz2, pz3, pz4, pz5])
     refine wpAnyH_ready (rs := [5]) (by kernel_rfl) (by simp) ?_
     refine AllReadyH.cons rfl (fun K hK => ?_) AllReadyH.nil
     go_simp
     have f1' := World.ownsRow.alloc f1 (.cells #[.slice A0 e0.key.length c0, .int .i64 e0.id] 44)
     have fK : Blo (y1.alloc (.cells #[.slice A0 e0.key.length c0, .int .i64 e0.id] 44)) y1.heap.size [.slice A0 e0.key.length c0, .int .i64 e0.id] 44 := Blo.new _ _ _
     have fb1 := fb1.alloc fb1.size (.cells #[.slice A0 e0.key.length c0, .int .i64 e0.id] 44)
     refine hK.out _ _ (keepJ HJ.out fb1) (fun hHeld => ?_)
     clear hK K
     (try simp only [Act.put, pz0, pz1, pz2, pz3, pz4, pz5])
     refine wpAnyH_ready (rs := [6]) (by kernel_rfl) (by simp) ?_
     refine AllReadyH.cons rfl (fun K hK => ?_) AllReadyH.nil
     refine step_append_lies (y1.alloc (.cells #[.slice A0 e0.key.length c0, .int .i64 e0.id] 44)) rfl (.tmp 47) (.tmp 49) 37 rfl u0.heap.size 44 i0 (.agg #[.slice none 0 0, .int .i64 0]) 2 32 Tryz.underlying37 H1.out H2.out H3.out H4.out rfl (by decide) _ l1.length _ rfl f1' ⟨y1.heap.size, 0, none⟩ 1 1 [.slice A0 e0.key.length c0, .int .i64 e0.id] rfl rfl (fun j y hj => by rw [addr_add, Nat.zero_add]; exact fK.cell j y hj) (fun y hy => by simp at hy; rcases hy with rfl | rfl <;> rfl) (by omega) (by unfold maxLen; omega) (by omega) fb1.size (y1.alloc (.cells #[.slice A0 e0.key.length c0, .int .i64 e0.id] 44)).heap.size rfl ?_
     rintro g2 cap2 y2 f2 fg2 fo2 flt2
     have fb2 := fb1.trans (grown_below fg2 (World.ownsRow.lt f1' _ rfl).1 fb1.size)
     refine hK.out _ _ (keepJ HJ.out fb2) (fun hHeld => ?_)
     clear hK K
     (try simp only [Act.put, pz0, pz1, pz2, pz3, pz4, pz5])
     refine tk 7 ?_
     refine wpAnyH_done (by kernel_rfl) ?_ _
     refine NoPanic.normal ?_
     clear hHeld
     clear hHeld
     have hq := HL.out.trans (fb2.mono HL.out.size)
     have hE := turn_sl HV.out HL.out f2 fb2
     have hTz := turn_sz HSZ.out
     go_wp2_with fail
     refine bodyPost_ret (v := .tuple #[.slice A1 ts.length c1, .slice A2 ds.length c2, .int .i64 t, .slice A3 cols.length c3, .slice (some ⟨g2, 0, none⟩) (l1.length + 1) cap2]) (by simp [results, Tryz.results29, go_sem]) rfl ⟨_, rfl, ⟨_, A1, c1, ts, A2, c2, ds, t, A3, c3, cols, _, _, _, (l1 ++ [e0]), rfl, HF.out.1, (HS.out.butY TbR.stays (HB.out.trans (below_but hq _)) hok), (HD.out.butY DtR.stays (HB.out.trans (below_but hq _)) hok), (HC.out.butY IntR.stays (HB.out.trans (below_but hq _)) hok), HF.out.2.1, hE, HF.out.2.2.1, HF.out.2.2.2.1, HF.out.2.2.2.2.1, HF.out.2.2.2.2.2, hTz⟩, b0.trans ((HB0.out.trans (HB.out.trans (below_but hq _))).below (Nat.le_refl _) (Nat.le_of_lt hRlt))⟩
    refine AllReadyH.cons rfl (fun K hK => ?_) AllReadyH.nil
    go_simp
    have f0' := World.ownsRow.alloc f0 (.cells #[.slice A0 e0.key.length c0, .int .i64 e0.id] 44)
    have fK : Blo ((u0.alloc (.cells #[] 44)).alloc (.cells #[.slice A0 e0.key.length c0, .int .i64 e0.id] 44)) (u0.heap.size + 1) [.slice A0 e0.key.length c0, .int .i64 e0.id] 44 := by have := Blo.new (u0.alloc (.cells #[] 44)) [.slice A0 e0.key.length c0, .int .i64 e0.id] 44; rwa [show (u0.alloc (.cells #[] 44)).heap.size = u0.heap.size + 1 by simp] at this
    have q1 := q0.alloc q0.size (.cells #[.slice A0 e0.key.length c0, .int .i64 e0.id] 44)
    have hne : u0.heap.size + 1 ≠ u0.heap.size := by omega
    refine hK.out _ _ (keepJ HJ.out q1) (fun hHeld => ?_)
    clear hK K
    (try simp only [Act.put, pz0, pz1, pz2, pz3, pz4, pz5])
    refine wpAnyH_ready (rs := [3]) (by kernel_rfl) (by simp) ?_
    refine AllReadyH.cons rfl (fun K hK => ?_) AllReadyH.nil
    refine step_append_lies ((u0.alloc (.cells #[] 44)).alloc (.cells #[.slice A0 e0.key.length c0, .int .i64 e0.id] 44)) rfl (.tmp 44) (.tmp 46) 37 rfl u0.heap.size 44 i0 (.agg #[.slice none 0 0, .int .i64 0]) 2 32 Tryz.underlying37 H1.out H2.out H3.out H4.out rfl (by decide) _ 0 [] rfl f0' ⟨g, 2, none⟩ l1.length (cE - 1) (entC us l1) rfl (entK_len hul) (HT.out _ q1) (entK_one HV.out.tl) hl1 (by unfold maxLen; omega) (by omega) q1.size ((u0.alloc (.cells #[] 44)).alloc (.cells #[.slice A0 e0.key.length c0, .int .i64 e0.id] 44)).heap.size rfl ?_
    rintro g1 cap1 y1 f1 fg1 fo1 flt1
    rw [Nat.zero_add] at f1 ⊢
    have fb1 := q1.trans (grown_below fg1 (World.ownsRow.lt f0' _ rfl).1 q1.size)
    have fK1 := blo_grown fK fg1 hne
    refine hK.out _ _ (keepJ HJ.out fb1) (fun hHeld => ?_)
    clear hK K
    (try simp only [Act.put, pz0, pz1, pz2, pz3, pz4, pz5])
    refine wpAnyH_ready (rs := [6]) (by kernel_rfl) (by simp) ?_
    refine AllReadyH.cons rfl (fun K hK => ?_) AllReadyH.nil
    refine step_append_lies (y1) rfl (.tmp 47) (.tmp 49) 37 rfl u0.heap.size 44 i0 (.agg #[.slice none 0 0, .int .i64 0]) 2 32 Tryz.underlying37 H1.out H2.out H3.out H4.out rfl (by decide) _ l1.length _ rfl f1 ⟨(u0.heap.size + 1), 0, none⟩ 1 1 [.slice A0 e0.key.length c0, .int .i64 e0.id] rfl rfl (fun j y hj => by rw [addr_add, Nat.zero_add]; exact fK1.cell j y hj) (fun y hy => by simp at hy; rcases hy with rfl | rfl <;> rfl) (by omega) (by unfold maxLen; omega) (by omega) fb1.size (y1).heap.size rfl ?_
    rintro g2 cap2 y2 f2 fg2 fo2 flt2
    have fb2 := fb1.trans (grown_below fg2 (World.ownsRow.lt f1 _ rfl).1 fb1.size)
    refine hK.out _ _ (keepJ HJ.out fb2) (fun hHeld => ?_)
    clear hK K
    (try simp only [Act.put, pz0, pz1, pz2, pz3, pz4, pz5])
    refine tk 7 ?_
    refine wpAnyH_done (by kernel_rfl) ?_ _
    refine NoPanic.normal ?_
    clear hHeld
    clear hHeld
    have hq := HL.out.trans (fb2.mono HL.out.size)
    have hE := turn_sl HV.out HL.out f2 fb2
    have hTz := turn_sz HSZ.out
    go_wp2_with fail
    refine bodyPost_ret (v := .tuple #[.slice A1 ts.length c1, .slice A2 ds.length c2, .int .i64 t, .slice A3 cols.length c3, .slice (some ⟨g2, 0, none⟩) (l1.length + 1) cap2]) (by simp [results, Tryz.results29, go_sem]) rfl ⟨_, rfl, ⟨_, A1, c1, ts, A2, c2, ds, t, A3, c3, cols, _, _, _, (l1 ++ [e0]), rfl, HF.out.1, (HS.out.butY TbR.stays (HB.out.trans (below_but hq _)) hok), (HD.out.butY DtR.stays (HB.out.trans (below_but hq _)) hok), (HC.out.butY IntR.stays (HB.out.trans (below_but hq _)) hok), HF.out.2.1, hE, HF.out.2.2.1, HF.out.2.2.2.1, HF.out.2.2.2.2.1, HF.out.2.2.2.2.2, hTz⟩, b0.trans ((HB0.out.trans (HB.out.trans (below_but hq _))).below (Nat.le_refl _) (Nat.le_of_lt hRlt))⟩
   refine AllReadyH.cons rfl (fun K hK => ?_) AllReadyH.nil
   go_simp
   have fK : Blo (u0.alloc (.cells #[.slice A0 e0.key.length c0, .int .i64 e0.id] 44)) u0.heap.size [.slice A0 e0.key.length c0, .int .i64 e0.id] 44 := Blo.new _ _ _
   have q0 := (Below.refl u0.heap.size u0).alloc (Nat.le_refl _) (.cells #[.slice A0 e0.key.length c0, .int .i64 e0.id] 44)
   refine hK.out _ _ (keepJ HJ.out q0) (fun hHeld => ?_)
   clear hK K
   (try simp only [Act.put, pz0, pz1, pz2, pz3, pz4, pz5])
   refine wpAnyH_ready (rs := [0]) (by kernel_rfl) (by simp) ?_
   refine AllReadyH.cons rfl (fun K hK => ?_) AllReadyH.nil
   go_simp
   have f0 : ((u0.alloc (.cells #[.slice A0 e0.key.length c0, .int .i64 e0.id] 44)).alloc (.cells #[] 44)).ownsRow u0.heap.size 44 2 (.slice (some ⟨u0.heap.size + 1, 0, none⟩) 0 0) 0 [] := by have := ownsLit (u0.alloc (.cells #[.slice A0 e0.key.length c0, .int .i64 e0.id] 44)) q0.size 44 2; rwa [show (u0.alloc (.cells #[.slice A0 e0.key.length c0, .int .i64 e0.id] 44)).heap.size = u0.heap.size + 1 by simp] at this
   have fK' := fK.alloc (.cells #[] 44)
   have q1 := q0.alloc q0.size (.cells #[] 44)
   have hne : u0.heap.size ≠ u0.heap.size + 1 := by omega
   refine hK.out _ _ (keepJ HJ.out q1) (fun hHeld => ?_)
   clear hK K
   (try simp only [Act.put, pz0, pz1, pz2, pz3, pz4, pz5])
   refine wpAnyH_ready (rs := [3]) (by kernel_rfl) (by simp) ?_
   refine AllReadyH.cons rfl (fun K hK => ?_) AllReadyH.nil
   refine step_append_lies ((u0.alloc (.cells #[.slice A0 e0.key.length c0, .int .i64 e0.id] 44)).alloc (.cells #[] 44)) rfl (.tmp 44) (.tmp 46) 37 rfl u0.heap.size 44 i0 (.agg #[.slice none 0 0, .int .i64 0]) 2 32 Tryz.underlying37 H1.out H2.out H3.out H4.out rfl (by decide) _ 0 [] rfl f0 ⟨g, 2, none⟩ l1.length (cE - 1) (entC us l1) rfl (entK_len hul) (HT.out _ q1) (entK_one HV.out.tl) hl1 (by unfold maxLen; omega) (by omega) q1.size ((u0.alloc (.cells #[.slice A0 e0.key.length c0, .int .i64 e0.id] 44)).alloc (.cells #[] 44)).heap.size rfl ?_
   rintro g1 cap1 y1 f1 fg1 fo1 flt1
   rw [Nat.zero_add] at f1 ⊢
   have fb1 := q1.trans (grown_below fg1 (World.ownsRow.lt f0 _ rfl).1 q1.size)
   have fK1 := blo_grown fK' fg1 hne
   refine hK.out _ _ (keepJ HJ.out fb1) (fun hHeld => ?_)
   clear hK K
   (try simp only [Act.put, pz0, pz1, pz2, pz3, pz4, pz5])
   refine wpAnyH_ready (rs := [6]) (by kernel_rfl) (by simp) ?_
   refine AllReadyH.cons rfl (fun K hK => ?_) AllReadyH.nil
   refine step_append_lies (y1) rfl (.tmp 47) (.tmp 49) 37 rfl u0.heap.size 44 i0 (.agg #[.slice none 0 0, .int .i64 0]) 2 32 Tryz.underlying37 H1.out H2.out H3.out H4.out rfl (by decide) _ l1.length _ rfl f1 ⟨u0.heap.size, 0, none⟩ 1 1 [.slice A0 e0.key.length c0, .int .i64 e0.id] rfl rfl (fun j y hj => by rw [addr_add, Nat.zero_add]; exact fK1.cell j y hj) (fun y hy => by simp at hy; rcases hy with rfl | rfl <;> rfl) (by omega) (by unfold maxLen; omega) (by omega) fb1.size (y1).heap.size rfl ?_
   rintro g2 cap2 y2 f2 fg2 fo2 flt2
   have fb2 := fb1.trans (grown_below fg2 (World.ownsRow.lt f1 _ rfl).1 fb1.size)
   refine hK.out _ _ (keepJ HJ.out fb2) (fun hHeld => ?_)
   clear hK K
   (try simp only [Act.put, pz0, pz1, pz2, pz3, pz4, pz5])
   refine tk 7 ?_
   refine wpAnyH_done (by kernel_rfl) ?_ _
   refine NoPanic.normal ?_
   clear hHeld
   clear hHeld
   have hq := HL.out.trans (fb2.mono HL.out.size)
   have hE := turn_sl HV.out HL.out f2 fb2
   have hTz := turn_sz HSZ.out
   go_wp2_with fail
   refine bodyPost_ret (v := .tuple #[.slice A1 ts.length c1, .slice A2 ds.length c2, .int .i64 t, .slice A3 cols.length c3, .slice (some ⟨g2, 0, none⟩) (l1.length + 1) cap2]) (by simp [results, Tryz.results29, go_sem]) rfl ⟨_, rfl, ⟨_, A1, c1, ts, A2, c2, ds, t, A3, c3, cols, _, _, _, (l1 ++ [e0]), rfl, HF.out.1, (HS.out.butY TbR.stays (HB.out.trans (below_but hq _)) hok), (HD.out.butY DtR.stays (HB.out.trans (below_but hq _)) hok), (HC.out.butY IntR.stays (HB.out.trans (below_but hq _)) hok), HF.out.2.1, hE, HF.out.2.2.1, HF.out.2.2.2.1, HF.out.2.2.2.2.1, HF.out.2.2.2.2.2, hTz⟩, b0.trans ((HB0.out.trans (HB.out.trans (below_but hq _))).below (Nat.le_refl _) (Nat.le_of_lt hRlt))⟩
end Go.Proofs.YtciaidjmehelpaaGreat
namespace Go.Proofs.YtciaidjmehelpaaGreat
open Go.RowKit
attribute [local go_sem] run_store_fnE
def sameP (p : En × En) : Bool := sameE p.1 p.2
def sameL (a b : List En) : Bool := decide (a.length = b.length) && (a.zip b).all sameP
def idxOkB (s : List Tb) (db : List Dt) (tb : Int) (cols : List Int) (l : List En) : Bool := ixOk s db tb cols && sameL (ixL s db tb cols) l
set_option maxRecDepth 100000 in
set_option maxHeartbeats 1000000 in
theorem implSameEntry (x y : En) (A B : Option Addr) (n c m d : Nat) (ok ok' : Nat → Prop) (w : World) (ha : Sl VlR 3 ok w A n x.key) (hb : Sl VlR 3 ok' w B m y.key) (hn : n ≤ 1048576) (hm : m ≤ 1048576) :
  Calls Tryz.prog 76 #[.agg #[.slice A n c, .int .i64 x.id], .agg #[.slice B m d, .int .i64 y.id]] w fun e w' => e = .returned (.bool (sameE x y)) ∧ Below w.heap.size w w' := by
 obtain rfl : x.key.length = n := ha.1
 obtain rfl : y.key.length = m := hb.1
 have hb0 := chain2 w (.cells #[.slice A x.key.length c, .int .i64 x.id] 44) (.cells #[.slice B y.key.length d, .int .i64 y.id] 44)
 obtain ⟨r1, r2⟩ := two_rows w 44 #[.slice A x.key.length c, .int .i64 x.id] #[.slice B y.key.length d, .int .i64 y.id]
 obtain ⟨⟨k0, k1⟩, -⟩ := r1.all2
 obtain ⟨⟨g0, g1⟩, -⟩ := r2.all2
 have ha' := ha.below VlR.stays hb0
 have hb' := hb.below VlR.stays hb0
 by_cases hid : x.id = y.id
 ·have z : (x.id == y.id) = true := by simpa using hid
  have z' : decide (x.id = y.id) = true := by simpa using hid
  have HF := Lib.hid (show sameE x y = eqlL x.key y.key by unfold sameE; rw [z']; rfl)
  clear hid
  go_enter Tryz.func76, Tryz.ntmps76
  go_wp2_with fail
  refine (implEqVals A B _ c _ d x.key y.key _ _ _ ha' hb' hn hm).mono ?_
  rintro e w1 ⟨rfl, hb1⟩
  go_wp2_with fail
  go_ret
  exact ⟨retB HF.out.symm, hb0.trans (hb1.mono hb0.size)⟩
 ·have z : (x.id == y.id) = false := by simpa using hid
  have z' : decide (x.id = y.id) = false := by simpa using hid
  have HF := Lib.hid (show sameE x y = false by unfold sameE; rw [z']; rfl)
  clear hid
  go_enter Tryz.func76, Tryz.ntmps76
  go_wp2_with fail
  go_ret
  exact ⟨retB HF.out.symm, hb0⟩
set_option maxRecDepth 100000 in
set_option maxHeartbeats 4000000 in
theorem libEqualEntries (A A' : Option Addr) (n c n' c' : Nat) (a b : List En) (ok ok' : Nat → Prop) (w : World) (h : Sl EnR 2 ok w A n a) (h' : Sl EnR 2 ok' w A' n' b) (hn : n ≤ 1048576) (hn' : n' ≤ 1048576) (hk : ∀ x ∈ a, x.key.length ≤ 1048576) (hk' : ∀ x ∈ b, x.key.length ≤ 1048576) :
  Calls Tryz.prog 75 #[.slice A n c, .slice A' n' c', .func (.func 76) #[] #[]] w fun e w' => e = .returned (.bool (sameL a b)) ∧ Below w.heap.size w w' := by
 obtain rfl : a.length = n := h.1
 obtain rfl : b.length = n' := h'.1
 by_cases hl : (a.length : Int) = b.length
 case neg =>
  have hl' : ((a.length : Int) == b.length) = false := by simpa using hl
  have HF := Lib.hid (show sameL a b = false by unfold sameL; rw [decide_eq_false (by omega)]; rfl)
  clear hl
  go_enter Tryz.func75, Tryz.ntmps75
  go_wp2_with fail
  go_ret
  exact ⟨retB HF.out.symm, Below.refl _ _⟩
 have hl' : ((a.length : Int) == b.length) = true := by simpa using hl
 have hl2 : ((a.length : Int) != b.length) = false := by unfold bne; rw [hl']; rfl
 have HL := Lib.hid (show a.length = b.length by omega)
 have HK := Lib.hid (And.intro hk hk')
 clear hl hk hk'
 go_enter Tryz.func75, Tryz.ntmps75
 go_wp2_with fail
 clear hl' hl2
 go_loopw [17] (fun i wr => ∃ k : Nat, k ≤ a.length ∧ i = .int .i64 k ∧ Hid (((a.zip b).take k).all sameP = true) ∧ Below w.heap.size w wr) (fun i _ => a.length - (intOf i).toNat)
 case atStart => exact ⟨0, by omega, rfl, Lib.hid (by simp), Below.refl _ _⟩
 case round =>
  obtain ⟨k, hk, rfl, hall, hb⟩ := hrel
  by_cases hlt : k < a.length
  ·have hlt' : k < b.length := by have := HL.out; omega
   obtain ⟨b1, o1, B1, n1, c1, -, rfl, q0, q1, s1, -⟩ := EnR.at_ (h.below EnR.stays hb) hlt
   obtain ⟨b2, o2, B2, n2, c2, -, rfl, y0, y1, s2, -⟩ := EnR.at_ (h'.below EnR.stays hb) hlt'
   have i0 : (0 : Int) ≤ k := by omega
   have i1 : (k : Int) < a.length := by omega
   have i2 : (k : Int) < b.length := by omega
   have hn1 : n1 ≤ 1048576 := by have h1 := s1.1; have := HK.out.1 _ (List.getElem_mem hlt); omega
   have hn2 : n2 ≤ 1048576 := by have h1 := s2.1; have := HK.out.2 _ (List.getElem_mem hlt'); omega
   have hch := chain2 wr (.cells #[.slice B1 n1 c1, .int .i64 a[k].id] 44) (.cells #[.slice B2 n2 c2, .int .i64 b[k].id] 44)
   obtain ⟨r1, r2⟩ := two_rows wr 44 #[.slice B1 n1 c1, .int .i64 a[k].id] #[.slice B2 n2 c2, .int .i64 b[k].id]
   have HC := Lib.hid hch
   have hla := (Below.refl wr.heap.size wr).alloc (Nat.le_refl _) (.cells #[.slice B1 n1 c1, .int .i64 a[k].id] 44)
   have y0' := below_keep hla _ _ y0
   have y1' := below_keep hla _ _ y1
   clear hla
   have HSM := Lib.hid (implSameEntry a[k] b[k] B1 B2 n1 c1 n2 c2 _ _ _ (s1.below VlR.stays hch) (s2.below VlR.stays hch) hn1 hn2)
   obtain ⟨⟨k0, k1⟩, -⟩ := r1.all2
   obtain ⟨⟨g0, g1⟩, -⟩ := r2.all2
   have hst := zip_take a b k hlt hlt' sameP
   rw [hall.out, Bool.true_and] at hst
   have hst' := Lib.hid hst
   have hno := Lib.hid (fun hf => zip_no (f := sameP) hlt hlt' hf)
   clear hch r1 r2 s1 s2 hst
   cases hsm : sameE a[k] b[k]
   ·have HF := Lib.hid (show sameL a b = false by unfold sameL; rw [hno.out hsm, Bool.and_false])
    have HS := Lib.hid hsm
    clear hsm
    go_wp2_with fail
    refine HSM.out.mono ?_
    rintro e w2 ⟨rfl, hb2⟩
    rw [HS.out]
    have hbz := hb.trans (HC.out.mono hb.size)
    have hbe := hbz.trans (hb2.mono hbz.size)
    clear HSM hb2
    go_wp2_with fail
    go_ret
    exact ⟨retB HF.out.symm, hbe⟩
   ·have HA := Lib.hid (show ((a.zip b).take (k + 1)).all sameP = true by rw [hst'.out]; exact hsm)
    have HS := Lib.hid hsm
    clear hsm
    go_wp2_with fail
    refine HSM.out.mono ?_
    rintro e w2 ⟨rfl, hb2⟩
    rw [HS.out]
    have hbz := hb.trans (HC.out.mono hb.size)
    have hbe := hbz.trans (hb2.mono hbz.size)
    clear HSM hb2
    go_wp2_with fail
    go_roundw
    case rel => exact ⟨k + 1, by omega, by go_num, HA, hbe⟩
    case measure => simp [intOf]; omega
  ·have HF := Lib.hid (show sameL a b = true by
    have h1 := hall.out
    rw [List.take_of_length_le (by rw [List.length_zip]; omega)] at h1
    unfold sameL; rw [h1, decide_eq_true HL.out]; rfl)
   go_wp2_with fail
   go_ret
   exact ⟨retB HF.out.symm, hb⟩
set_option maxRecDepth 100000 in
set_option maxHeartbeats 4000000 in
theorem implIndexOk (AS AD AC AL : Option Addr) (nS cS nD cD nC cC nL cL : Nat) (tb : Int) (s : List Tb) (db : List Dt) (cols : List Int) (l : List En) (ok okd okc okl : Nat → Prop) (w : World)
  (hS : Sl TbR 6 ok w AS nS s) (hD : Sl DtR 1 okd w AD nD db) (hC : Sl IntR 1 okc w AC nC cols) (hL : Sl EnR 2 okl w AL nL l) (hsz : szL Tb.sz s ≤ 1048576) (hdz : szL Dt.sz db ≤ 1048576) (hcn : nC ≤ 1048576) (hlz : szL En.sz l ≤ 1048576) :
  Calls Tryz.prog 30 #[.slice AS nS cS, .slice AD nD cD, .int .i64 tb, .slice AC nC cC, .slice AL nL cL] w fun e w' => e = .returned (.bool (idxOkB s db tb cols l)) ∧ Below w.heap.size w w' := by
 obtain rfl : l.length = nL := hL.1
 have HIO := Lib.hid (implIndexOf AS AD AC nS cS nD cD nC cC tb s db cols ok okd okc w hS hD hC hsz hdz hcn)
 have HK := Lib.hid (And.intro (ents_len (ixL_sz s db tb cols)) (ents_len hlz))
 have HIL := Lib.hid (show (ixL s db tb cols).length ≤ 1048576 by have h2 := ixL_sz s db tb cols; unfold szL at h2; omega)
 have hll : l.length ≤ 1048576 := by unfold szL at hlz; omega
 cases hx : ixOk s db tb cols
 ·have HF := Lib.hid (show idxOkB s db tb cols l = false by unfold idxOkB; rw [hx]; rfl)
  rw [hx] at HIO
  go_enter Tryz.func30, Tryz.ntmps30
  go_wp2_with fail
  refine HIO.out.mono ?_
  rintro e w1 ⟨v, rfl, ho, hb1⟩
  clear HIO
  go_wp2_with fail
  go_ret
  exact ⟨retB HF.out.symm, hb1⟩
 ·have HF := Lib.hid (show idxOkB s db tb cols l = sameL (ixL s db tb cols) l by unfold idxOkB; rw [hx]; rfl)
  rw [hx] at HIO
  go_enter Tryz.func30, Tryz.ntmps30
  go_wp2_with fail
  refine HIO.out.mono ?_
  rintro e w1 ⟨v, rfl, ho, hb1⟩
  obtain ⟨A9, c9, rfl, -, -, hsl⟩ := ho.sl
  have HEQ := Lib.hid (libEqualEntries A9 AL (ixL s db tb cols).length c9 l.length cL (ixL s db tb cols) l _ okl w1 hsl (hL.below EnR.stays hb1) HIL.out hll HK.out.1 HK.out.2)
  clear HIO hsl ho
  go_wp2_with fail
  refine HEQ.out.mono ?_
  rintro e w2 ⟨rfl, hb2⟩
  have hb12 := hb1.trans (hb2.mono hb1.size)
  clear HEQ hb2
  go_wp2_with fail
  go_ret
  exact ⟨retB HF.out.symm, hb12⟩
set_option maxRecDepth 100000 in
set_option maxHeartbeats 4000000 in
theorem specIndexOk (AS AD AC AL : Option Addr) (nS cS nD cD nC cC nL cL : Nat) (tb : Int) (s : List Tb) (db : List Dt) (cols : List Int) (l : List En) (ok okd okc okl : Nat → Prop) (w : World)
  (hS : Sl TbR 6 ok w AS nS s) (hD : Sl DtR 1 okd w AD nD db) (hC : Sl IntR 1 okc w AC nC cols) (hL : Sl EnR 2 okl w AL nL l) (hcp : nS ≤ cS) (hcc : nC ≤ cC) (hsz : szL Tb.sz s ≤ 1048576) (hdz : szL Dt.sz db ≤ 1048576) (hcn : nC ≤ 1048576) (hlz : szL En.sz l ≤ 1048576) :
  Calls Tryz.prog 31 #[.slice AS nS cS, .slice AD nD cD, .int .i64 tb, .slice AC nC cC, .slice AL nL cL] w fun e w' => e = .returned (.bool (idxOkB s db tb cols l)) ∧ Below w.heap.size w w' := by
 obtain rfl : l.length = nL := hL.1
 have HIO := Lib.hid (specIndexOf AS AD AC nS cS nD cD nC cC tb s db cols ok okd okc w hS hD hC hcp hcc hsz hdz hcn)
 have HK := Lib.hid (And.intro (ents_len (ixL_sz s db tb cols)) (ents_len hlz))
 have HIL := Lib.hid (show (ixL s db tb cols).length ≤ 1048576 by have h2 := ixL_sz s db tb cols; unfold szL at h2; omega)
 have hll : l.length ≤ 1048576 := by unfold szL at hlz; omega
 have HLL := Lib.hid hL
 cases hx : ixOk s db tb cols
 ·have HF := Lib.hid (show idxOkB s db tb cols l = false by unfold idxOkB; rw [hx]; rfl)
  rw [hx] at HIO
  go_enter Tryz.func31, Tryz.ntmps31
  go_wp2_with fail
  refine HIO.out.mono ?_
  rintro e w1 ⟨v, rfl, ho, hb1⟩
  clear HIO
  go_wp2_with fail
  go_ret
  exact ⟨retB HF.out.symm, hb1⟩
 have HF := Lib.hid (show idxOkB s db tb cols l = sameL (ixL s db tb cols) l by unfold idxOkB; rw [hx]; rfl)
 rw [hx] at HIO
 generalize hxl : ixL s db tb cols = xl at *
 clear hxl hx
 by_cases hl : (xl.length : Int) = l.length
 case neg =>
  have hl2 : ((xl.length : Int) != l.length) = true := by simpa using hl
  have HG := Lib.hid (show idxOkB s db tb cols l = false by rw [HF.out]; unfold sameL; rw [decide_eq_false (by omega)]; rfl)
  clear hl
  go_enter Tryz.func31, Tryz.ntmps31
  go_wp2_with fail
  refine HIO.out.mono ?_
  rintro e w1 ⟨v, rfl, ho, hb1⟩
  obtain ⟨A9, c9, rfl, -, -, hsl⟩ := ho.sl
  clear HIO hsl ho
  go_wp2_with fail
  go_ret
  exact ⟨retB HG.out.symm, hb1⟩
 have hl2 : ((xl.length : Int) != l.length) = false := by simpa using hl
 have HLE := Lib.hid (show xl.length = l.length by omega)
 have hxn : xl.length ≤ 1048576 := HIL.out
 clear hl
 go_enter Tryz.func31, Tryz.ntmps31
 go_wp2_with fail
 refine HIO.out.mono ?_
 rintro e w1 ⟨v, rfl, ho, hb1⟩
 obtain ⟨A9, c9, rfl, -, -, hsl⟩ := ho.sl
 have HSL := Lib.hid hsl
 have HB1 := Lib.hid hb1
 clear HIO hsl ho
 go_wp2_with fail
 clear hl2
 go_loopw [13] (fun i wr => ∃ k : Nat, k ≤ xl.length ∧ i = .int .i64 k ∧ Hid (((xl.zip l).take k).all sameP = true) ∧ Below w1.heap.size w1 wr) (fun i _ => xl.length - (intOf i).toNat)
 case atStart => exact ⟨0, by omega, rfl, Lib.hid (by simp), Below.refl _ _⟩
 case round =>
  obtain ⟨k, hk, rfl, hall, hb⟩ := hrel
  have hbw : Below w.heap.size w wr := HB1.out.trans (hb.mono HB1.out.size)
  by_cases hlt : k < xl.length
  ·have hlt' : k < l.length := by have := HLE.out; omega
   obtain ⟨b1, o1, B1, n1, c1, -, rfl, q0, q1, s1, -⟩ := EnR.at_ (HSL.out.below EnR.stays hb) hlt
   obtain ⟨b2, o2, B2, n2, c2, -, rfl, y0, y1, s2, -⟩ := EnR.at_ (HLL.out.below EnR.stays hbw) hlt'
   have i0 : (0 : Int) ≤ k := by omega
   have i1 : (k : Int) < xl.length := by omega
   have i2 : (k : Int) < l.length := by omega
   have hn1 : n1 ≤ 1048576 := by have h1 := s1.1; have := HK.out.1 _ (List.getElem_mem hlt); omega
   have hn2 : n2 ≤ 1048576 := by have h1 := s2.1; have := HK.out.2 _ (List.getElem_mem hlt'); omega
   have hd : Below wr.heap.size wr wr.drew := (Below.refl _ wr).drew
   have HSM := Lib.hid (specL11Same xl[k] l[k] B1 B2 n1 c1 n2 c2 _ _ wr.drew (s1.below VlR.stays hd) (s2.below VlR.stays hd) hn1 hn2)
   have hst := zip_take xl l k hlt hlt' sameP
   rw [hall.out, Bool.true_and] at hst
   have hst' := Lib.hid hst
   have hno := Lib.hid (fun hf => zip_no (f := sameP) hlt hlt' hf)
   have HS1 := Lib.hid s1
   have HS2 := Lib.hid s2
   clear s1 s2 hst hd
   cases hsm : sameE xl[k] l[k]
   ·have HG := Lib.hid (show idxOkB s db tb cols l = false by rw [HF.out]; unfold sameL; rw [hno.out hsm, Bool.and_false])
    rw [hsm] at HSM
    clear hsm
    go_wp2_with fail
    go_region_held3 (fun w' => w'.cell? ⟨b1, o1 + k * 2, none⟩ = some (.slice B1 n1 c1) ∧ w'.cell? ⟨b1, o1 + k * 2 + 1, none⟩ = some (.int .i64 xl[k].id) ∧ w'.cell? ⟨b2, o2 + k * 2, none⟩ = some (.slice B2 n2 c2) ∧ w'.cell? ⟨b2, o2 + k * 2 + 1, none⟩ = some (.int .i64 l[k].id))
     (first | go_keep | exact keepC4 (by assumption) hb2)
     (first | (go_at_call 69; refine HSM.out.mono ?_; rintro e w2 ⟨rfl, hb2⟩))
    have hbe := hbw.drew.trans (hb2.mono hbw.size)
    go_wp2_with fail
    go_ret
    exact ⟨retB HG.out.symm, hbe⟩
   ·have HA := Lib.hid (show ((xl.zip l).take (k + 1)).all sameP = true by rw [hst'.out]; exact hsm)
    rw [hsm] at HSM
    clear hsm
    go_wp2_with fail
    go_region_held3 (fun w' => w'.cell? ⟨b1, o1 + k * 2, none⟩ = some (.slice B1 n1 c1) ∧ w'.cell? ⟨b1, o1 + k * 2 + 1, none⟩ = some (.int .i64 xl[k].id) ∧ w'.cell? ⟨b2, o2 + k * 2, none⟩ = some (.slice B2 n2 c2) ∧ w'.cell? ⟨b2, o2 + k * 2 + 1, none⟩ = some (.int .i64 l[k].id))
     (first | go_keep | exact keepC4 (by assumption) hb2)
     (first | (go_at_call 69; refine HSM.out.mono ?_; rintro e w2 ⟨rfl, hb2⟩))
    have hbe := hb.drew.trans (hb2.mono hb.size)
    go_wp2_with fail
    go_roundw
    case rel => exact ⟨k + 1, by omega, by go_num, HA, hbe⟩
    case measure => simp [intOf]; omega
  ·have HG := Lib.hid (show idxOkB s db tb cols l = true by
    have h1 := hall.out
    rw [List.take_of_length_le (by rw [List.length_zip]; omega)] at h1
    rw [HF.out]; unfold sameL; rw [h1, decide_eq_true HLE.out]; rfl)
   go_wp2_with fail
   go_ret
   exact ⟨retB HG.out.symm, hbw⟩
end Go.Proofs.YtciaidjmehelpaaGreat
namespace Go.Proofs.YtciaidjmehelpaaGreat
open Go.RowKit
def atB : List Rw → Int → List Vl
 | [], _ => []
 | r :: l, id => if r.id = id then r.vals else atB l id
theorem atB_at : ∀ {rows : List Rw} {id : Int} {k : Nat} (hk : k < rows.length), (∀ j (hj : j < rows.length), j < k → rows[j].id ≠ id) → rows[k].id = id → atB rows id = rows[k].vals
 | r :: l, id, 0, hk, h, e => by
  unfold atB
  rw [if_pos (show r.id = id from e)]; rfl
 | r :: l, id, k + 1, hk, h, e => by
  unfold atB
  rw [if_neg (show ¬ r.id = id from h 0 (by simp) (by omega))]
  exact atB_at (by simpa using hk) (fun j hj hjk => h (j + 1) (by simpa using hj) (by omega)) e
theorem atB_none : ∀ {rows : List Rw} {id : Int}, (∀ j (hj : j < rows.length), rows[j].id ≠ id) → atB rows id = []
 | [], _, _ => rfl
 | r :: l, id, h => by
  unfold atB
  rw [if_neg (show ¬ r.id = id from h 0 (by simp))]
  exact atB_none fun j hj => h (j + 1) (by simpa using hj)
set_option maxRecDepth 100000 in
set_option maxHeartbeats 1000000 in
theorem lawsAt (A : Option Addr) (n c : Nat) (rows : List Rw) (id : Int) (ok : Nat → Prop) (w : World) (h : Sl RwR 2 ok w A n rows) (hn : n ≤ 1048576) :
  Calls Tryz.prog 33 #[.agg #[.slice A n c], .int .i64 id] w fun e w' => ∃ B m d, e = .returned (.slice B m d) ∧ m ≤ d ∧ Sl VlR 3 ok w' B m (atB rows id) ∧ Below w.heap.size w w' := by
 obtain rfl : rows.length = n := h.1
 have hb0 := (Below.refl w.heap.size w).alloc (Nat.le_refl _) (.cells #[.slice A rows.length c] 55)
 have hB : Blo (w.alloc (.cells #[.slice A rows.length c] 55)) w.heap.size [.slice A rows.length c] 55 := Blo.new _ _ _
 have hx := h.below RwR.stays hb0
 go_enter Tryz.func33, Tryz.ntmps33
 go_wp2_with fail
 generalize w.alloc (.cells #[.slice A rows.length c] 55) = x at *
 go_loopw [5] (fun i wr => ∃ k : Nat, k ≤ rows.length ∧ i = .int .i64 k ∧ Hid (∀ j (hj : j < rows.length), j < k → rows[j].id ≠ id) ∧ Below x.heap.size x wr) (fun i _ => rows.length - (intOf i).toNat)
 case atStart => exact ⟨0, by omega, rfl, Lib.hid (fun j hj h => by omega), Below.refl _ _⟩
 case round =>
  obtain ⟨k, hk, rfl, hno, hb⟩ := hrel
  have hBr : Blo wr w.heap.size [.slice A rows.length c] 55 := (hb.block _ hB.lt).trans hB
  have p0 := hBr.cell 0 _ rfl
  by_cases hlt : k < rows.length
  ·obtain ⟨b, off, A1, n1, c1, -, rfl, q0, q1, hvl, hnc⟩ := RwR.at_ (hx.below RwR.stays hb) hlt
   have i0 : (0 : Int) ≤ k := by omega
   have i1 : (k : Int) < rows.length := by omega
   cases hid : (rows[k].id == id)
   ·have HN := Lib.hid (show ∀ j (hj : j < rows.length), j < k + 1 → rows[j].id ≠ id from fun j hj hjk => by
     by_cases e : j = k
     ·subst e; simpa using hid
     ·exact hno.out j hj (by omega))
    clear hno
    go_wp2_with fail
    go_roundw
    case rel => exact ⟨k + 1, by omega, by go_num, HN, hb⟩
    case measure => simp [intOf]; omega
   ·have HE := Lib.hid (atB_at hlt hno.out (by simpa using hid))
    clear hno
    go_wp2_with fail
    go_ret
    exact ⟨_, _, _, rfl, hnc, by rw [HE.out]; exact hvl, hb0.trans (hb.mono hb0.size)⟩
  ·have HE := Lib.hid (atB_none (rows := rows) (id := id) fun j hj => hno.out j hj (by omega))
   have i1 : ¬ (k : Int) < rows.length := by omega
   clear hno
   go_wp2_with fail
   go_ret
   exact ⟨none, 0, 0, rfl, Nat.le_refl _, by rw [HE.out]; exact ⟨rfl, fun h => by omega⟩, hb0.trans (hb.mono hb0.size)⟩
theorem ixK_ents {cols : List Int} {rows : List Rw} : ∀ (k : Nat), k ≤ rows.length → ∀ x ∈ ixK cols rows k, ∃ j, ∃ hj : j < rows.length, x = entOf cols rows[j]
 | 0, _, x, hx => by simp [ixK] at hx
 | k + 1, hk, x, hx => by
  rw [ixK_succ cols (show k < rows.length by omega)] at hx
  unfold putL at hx
  rcases insAt_mem.1 hx with rfl | hx
  ·exact ⟨k, by omega, rfl⟩
  ·exact ixK_ents k (by omega) x hx
theorem ids_at {rows : List Rw} (h : rows.Pairwise (fun a b => a.id < b.id)) {i j : Nat} (hi : i < rows.length) (hj : j < rows.length) (e : rows[i].id = rows[j].id) : i = j := by
 rcases Nat.lt_trichotomy i j with hlt | heq | hgt
 ·have := List.pairwise_iff_getElem.1 h i j hi hj hlt; omega
 ·exact heq
 ·have := List.pairwise_iff_getElem.1 h j i hj hi hgt; omega
theorem ix_ent {cols : List Int} {rows : List Rw} {m : Nat} (h : IxIn cols rows m) (hm : m ≤ 16) {k : Nat} (hk : k < (ixK cols rows rows.length).length) :
  (∃ j, ∃ hj : j < rows.length, atB rows (ixK cols rows rows.length)[k].id = rows[j].vals ∧ (ixK cols rows rows.length)[k].key = keyL cols rows[j].vals ∧ keyOf cols rows[j].vals = keyL cols rows[j].vals) ∧ (ixK cols rows rows.length)[k].key.length = cols.length := by
 obtain ⟨j, hj, hx⟩ := ixK_ents rows.length (Nat.le_refl _) _ (List.getElem_mem hk)
 refine ⟨⟨j, hj, ?_, by rw [hx]; rfl, ?_⟩, by rw [hx]; exact keyL_len _ _⟩
 ·rw [hx]
  exact atB_at hj (fun i hi hij e => by have := ids_at h.up hi hj e; omega) rfl
 ·unfold keyOf keyOk
  have hr := h.row _ (List.getElem_mem hj)
  have he := h.ent (List.getElem_mem hj)
  rw [if_pos]
  rw [h.all (List.getElem_mem hj), Bool.and_true]
  unfold rowB
  rw [Bool.and_eq_true, decide_eq_true_eq, List.all_eq_true]
  exact ⟨by omega, hr.2.2.2⟩
theorem ix_ids {cols : List Int} {rows : List Rw} {m : Nat} (h : IxIn cols rows m) {i k : Nat} (hik : i < k) (hk : k < (ixK cols rows rows.length).length) : (ixK cols rows rows.length)[i].id ≠ (ixK cols rows rows.length)[k].id := fun e => by
 obtain ⟨i1, -, -⟩ := ix_step h rows.length (Nat.le_refl _)
 have hp := List.pairwise_iff_getElem.1 (right_pair i1) i k (by omega) hk hik
 obtain ⟨j, hj, hx⟩ := ixK_ents rows.length (Nat.le_refl _) _ (List.getElem_mem (show i < (ixK cols rows rows.length).length by omega))
 obtain ⟨j', hj', hx'⟩ := ixK_ents rows.length (Nat.le_refl _) _ (List.getElem_mem hk)
 rw [hx, hx'] at e hp
 have := ids_at h.up hj hj' e
 subst this
 rw [ordE_self] at hp; omega
theorem ix_has {cols : List Int} {rows : List Rw} {m : Nat} (h : IxIn cols rows m) {k : Nat} (hk : k < (ixK cols rows rows.length).length) : hasI (((ixK cols rows rows.length).take k).map En.id) (ixK cols rows rows.length)[k].id = false := by
 cases hh : hasI (((ixK cols rows rows.length).take k).map En.id) (ixK cols rows rows.length)[k].id
 ·rfl
 ·exfalso
  rw [hasI_mem, List.mem_map] at hh
  obtain ⟨x, hx, e⟩ := hh
  obtain ⟨i, hi, rfl⟩ := List.mem_iff_getElem.1 hx
  rw [List.getElem_take] at e
  rw [List.length_take] at hi
  exact ix_ids h (show i < k by omega) hk e
theorem ordL_head {x y : Vl} {a b : List Vl} (h : ordL (x :: a) (y :: b) ≤ 0) : ordX x y ≤ 0 := by
 unfold ordL at h
 split at h
 ·omega
 ·exact h
theorem ix_up {cols : List Int} {rows : List Rw} {m : Nat} (h : IxIn cols rows m) {k : Nat} (hk : k < (ixK cols rows rows.length).length) (h0 : 0 < k) : decide (0 < ordX (headV (ixK cols rows rows.length)[k - 1]) (headV (ixK cols rows rows.length)[k])) = false := by
 obtain ⟨i1, -, i3⟩ := ix_step h rows.length (Nat.le_refl _)
 have hp := List.pairwise_iff_getElem.1 (right_pair i1) (k - 1) k (by omega) hk (by omega)
 have hc := h.c0
 have l1 := (i3 _ (List.getElem_mem (show k - 1 < (ixK cols rows rows.length).length by omega))).1
 have l2 := (i3 _ (List.getElem_mem hk)).1
 generalize (ixK cols rows rows.length)[k - 1] = x at *
 generalize (ixK cols rows rows.length)[k] = y at *
 have hle : ordL x.key y.key ≤ 0 := by
  unfold ordE at hp
  split at hp
  ·omega
  ·omega
 rw [decide_eq_false_iff_not]
 unfold headV
 rcases hx : x.key with _ | ⟨u, xs⟩
 ·rw [hx] at l1; simp at l1; omega
 rcases hy : y.key with _ | ⟨v, ys⟩
 ·rw [hy] at l2; simp at l2; omega
 rw [hx, hy] at hle
 have := ordL_head hle
 simp only [List.getElem?_cons_zero, Option.getD_some]
 omega
theorem sameL_self (l : List En) : sameL l l = true := by
 unfold sameL
 rw [decide_eq_true rfl, Bool.true_and, List.all_eq_true]
 intro p hp
 obtain ⟨i, hi, rfl⟩ := List.mem_iff_getElem.1 hp
 rw [List.getElem_zip]
 exact sameE_refl _
theorem ix_ok {s : List Tb} {db : List Dt} {t : Int} {cols : List Int} {es : List En} (h : ixL s db t cols = es) (h' : ixOk s db t cols = true) : idxOkB s db t cols es = true := by
 unfold idxOkB
 rw [h', h, sameL_self]; rfl
theorem ixOk_all {s : List Tb} {db : List Dt} {t : Int} {cols : List Int} (h : ixOk s db t cols = true) : ∃ m : Nat, t = m ∧ ∃ (hm : m < s.length) (hd : m < db.length), dbB s db = true ∧ ixL s db t cols = ixK cols db[m].rows db[m].rows.length ∧ IxIn cols db[m].rows s[m].cols.length ∧ s[m].cols.length ≤ 8 := by
 cases hB : dbB s db
 ·have := (ix_no_db (tb := t) (cols := cols) hB).1
  rw [this] at h; cases h
 by_cases hp : 0 ≤ t ∧ t < s.length
 ·obtain ⟨m, rfl⟩ : ∃ m : Nat, t = m := ⟨t.toNat, by omega⟩
  have hm : m < s.length := by omega
  have hd : m < db.length := by have := dbB_len hB; omega
  cases hc : colsInB cols s[m].cols.length
  ·have := (ix_no_cols (db := db) hm hc).1
   rw [this] at h; cases h
  ·obtain ⟨h1, h2⟩ := ixIn_db hB hm hd hc
   exact ⟨m, rfl, hm, hd, rfl, (ix_yes hB hm hd hc).2, h1, h2⟩
 ·have := (ix_no_place (s := s) (db := db) (tb := t) (cols := cols) hp).1
  rw [this] at h; cases h
theorem below_two {w w' : World} (h : Below w.drew.heap.size w.drew w') : Below w.heap.size w w' := ⟨h.os, h.tape, h.output, h.size, h.block⟩
theorem keepI8 {w w' : World} {p0 p1 p2 p3 p4 p5 p6 p7 : Addr} {a0 a1 a2 a3 a4 a5 a6 a7 : Value} (h : w.cell? p0 = some a0 ∧ w.cell? p1 = some a1 ∧ w.cell? p2 = some a2 ∧ w.cell? p3 = some a3 ∧ w.cell? p4 = some a4 ∧ w.cell? p5 = some a5 ∧ w.cell? p6 = some a6 ∧ w.cell? p7 = some a7) (hb : Below w.heap.size w w') : w'.cell? p0 = some a0 ∧ w'.cell? p1 = some a1 ∧ w'.cell? p2 = some a2 ∧ w'.cell? p3 = some a3 ∧ w'.cell? p4 = some a4 ∧ w'.cell? p5 = some a5 ∧ w'.cell? p6 = some a6 ∧ w'.cell? p7 = some a7 :=
 ⟨below_keep hb _ _ h.1, below_keep hb _ _ h.2.1, below_keep hb _ _ h.2.2.1, below_keep hb _ _ h.2.2.2.1, below_keep hb _ _ h.2.2.2.2.1, below_keep hb _ _ h.2.2.2.2.2.1, below_keep hb _ _ h.2.2.2.2.2.2.1, below_keep hb _ _ h.2.2.2.2.2.2.2⟩
end Go.Proofs.YtciaidjmehelpaaGreat
