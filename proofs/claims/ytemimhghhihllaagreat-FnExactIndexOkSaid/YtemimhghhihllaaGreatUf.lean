/-
  Several texts in one: what the proof leans on, part 6.
-/
import Derived.Test.YtemimhghhihllaaGreatUe
import Derived.Test.YtemimhghhihllaaGreatUd
import Derived.Test.YtemimhghhihllaaGreatUc
set_option linter.unusedVariables false
set_option linter.unusedSimpArgs false
namespace Go.Proofs.YtemimhghhihllaaGreat
open Go.RowKit
attribute [local go_sem] run_store_fnE
def sameP (p : En × En) : Bool := sameE p.1 p.2
def sameL (a b : List En) : Bool := decide (a.length = b.length) && (a.zip b).all sameP
def idxOkB (s : List Tb) (db : List Dt) (tb : Int) (cols : List Int) (l : List En) : Bool := ixOk s db tb cols && sameL (ixL s db tb cols) l
set_option maxRecDepth 100000 in
set_option maxHeartbeats 1000000 in
theorem implSameEntry (x y : En) (A B : Option Addr) (n c m d : Nat) (ok ok' : Nat → Prop) (w : World) (ha : Sl VlR 3 ok w A n x.key) (hb : Sl VlR 3 ok' w B m y.key) (hn : n ≤ 1048576) (hm : m ≤ 1048576) :
    Calls Tryz.prog 79 #[.agg #[.slice A n c, .int .i64 x.id], .agg #[.slice B m d, .int .i64 y.id]] w fun e w' => e = .returned (.bool (sameE x y)) ∧ Below w.heap.size w w' := by
  obtain rfl : x.key.length = n := ha.1
  obtain rfl : y.key.length = m := hb.1
  have hb0 := chain2 w (.cells #[.slice A x.key.length c, .int .i64 x.id] 135) (.cells #[.slice B y.key.length d, .int .i64 y.id] 135)
  obtain ⟨r1, r2⟩ := two_rows w 135 #[.slice A x.key.length c, .int .i64 x.id] #[.slice B y.key.length d, .int .i64 y.id]
  obtain ⟨⟨k0, k1⟩, -⟩ := r1.all2
  obtain ⟨⟨g0, g1⟩, -⟩ := r2.all2
  have ha' := ha.below VlR.stays hb0
  have hb' := hb.below VlR.stays hb0
  by_cases hid : x.id = y.id
  · have z : (x.id == y.id) = true := by simpa using hid
    have z' : decide (x.id = y.id) = true := by simpa using hid
    have HF := Lib.hid (show sameE x y = eqlL x.key y.key by unfold sameE; rw [z']; rfl)
    clear hid
    go_enter Tryz.func79, Tryz.ntmps79
    go_wp2_with fail
    refine (implEqVals A B _ c _ d x.key y.key _ _ _ ha' hb' hn hm).mono ?_
    rintro e w1 ⟨rfl, hb1⟩
    go_wp2_with fail
    go_ret
    exact ⟨retB HF.out.symm, hb0.trans (hb1.mono hb0.size)⟩
  · have z : (x.id == y.id) = false := by simpa using hid
    have z' : decide (x.id = y.id) = false := by simpa using hid
    have HF := Lib.hid (show sameE x y = false by unfold sameE; rw [z']; rfl)
    clear hid
    go_enter Tryz.func79, Tryz.ntmps79
    go_wp2_with fail
    go_ret
    exact ⟨retB HF.out.symm, hb0⟩
set_option maxRecDepth 100000 in
set_option maxHeartbeats 4000000 in
theorem libEqualEntries (A A' : Option Addr) (n c n' c' : Nat) (a b : List En) (ok ok' : Nat → Prop) (w : World) (h : Sl EnR 2 ok w A n a) (h' : Sl EnR 2 ok' w A' n' b) (hn : n ≤ 1048576) (hn' : n' ≤ 1048576) (hk : ∀ x ∈ a, x.key.length ≤ 1048576) (hk' : ∀ x ∈ b, x.key.length ≤ 1048576) :
    Calls Tryz.prog 78 #[.slice A n c, .slice A' n' c', .func (.func 79) #[] #[]] w fun e w' => e = .returned (.bool (sameL a b)) ∧ Below w.heap.size w w' := by
  obtain rfl : a.length = n := h.1
  obtain rfl : b.length = n' := h'.1
  by_cases hl : (a.length : Int) = b.length
  case neg =>
    have hl' : ((a.length : Int) == b.length) = false := by simpa using hl
    have HF := Lib.hid (show sameL a b = false by unfold sameL; rw [decide_eq_false (by omega)]; rfl)
    clear hl
    go_enter Tryz.func78, Tryz.ntmps78
    go_wp2_with fail
    go_ret
    exact ⟨retB HF.out.symm, Below.refl _ _⟩
  have hl' : ((a.length : Int) == b.length) = true := by simpa using hl
  have hl2 : ((a.length : Int) != b.length) = false := by unfold bne; rw [hl']; rfl
  have HL := Lib.hid (show a.length = b.length by omega)
  have HK := Lib.hid (And.intro hk hk')
  clear hl hk hk'
  go_enter Tryz.func78, Tryz.ntmps78
  go_wp2_with fail
  clear hl' hl2
  go_loopw [17] (fun i wr => ∃ k : Nat, k ≤ a.length ∧ i = .int .i64 k ∧ Hid (((a.zip b).take k).all sameP = true) ∧ Below w.heap.size w wr) (fun i _ => a.length - (intOf i).toNat)
  case atStart => exact ⟨0, by omega, rfl, Lib.hid (by simp), Below.refl _ _⟩
  case round =>
    obtain ⟨k, hk, rfl, hall, hb⟩ := hrel
    by_cases hlt : k < a.length
    · have hlt' : k < b.length := by have := HL.out; omega
      obtain ⟨b1, o1, B1, n1, c1, -, rfl, q0, q1, s1, -⟩ := EnR.at_ (h.below EnR.stays hb) hlt
      obtain ⟨b2, o2, B2, n2, c2, -, rfl, y0, y1, s2, -⟩ := EnR.at_ (h'.below EnR.stays hb) hlt'
      have i0 : (0 : Int) ≤ k := by omega
      have i1 : (k : Int) < a.length := by omega
      have i2 : (k : Int) < b.length := by omega
      have hn1 : n1 ≤ 1048576 := by have h1 := s1.1; have := HK.out.1 _ (List.getElem_mem hlt); omega
      have hn2 : n2 ≤ 1048576 := by have h1 := s2.1; have := HK.out.2 _ (List.getElem_mem hlt'); omega
      have hch := chain2 wr (.cells #[.slice B1 n1 c1, .int .i64 a[k].id] 135) (.cells #[.slice B2 n2 c2, .int .i64 b[k].id] 135)
      obtain ⟨r1, r2⟩ := two_rows wr 135 #[.slice B1 n1 c1, .int .i64 a[k].id] #[.slice B2 n2 c2, .int .i64 b[k].id]
      have HC := Lib.hid hch
      have hla := (Below.refl wr.heap.size wr).alloc (Nat.le_refl _) (.cells #[.slice B1 n1 c1, .int .i64 a[k].id] 135)
      have y0' := below_keep hla _ _ y0
      have y1' := below_keep hla _ _ y1
      clear hla
      have HSM := Lib.hid (implSameEntry a[k] b[k] B1 B2 n1 c1 n2 c2 _ _ _ (s1.below VlR.stays hch) (s2.below VlR.stays hch) hn1 hn2)
      obtain ⟨⟨k0, k1⟩, -⟩ := r1.all2
      obtain ⟨⟨g0, g1⟩, -⟩ := r2.all2
      have hst := zip_take a b k hlt hlt' sameP
      rw [hall.out, Bool.true_and] at hst
      have hst' := Lib.hid hst
      have hno := Lib.hid (fun hf => zip_no (f := sameP) hlt hlt' hf)
      clear hch r1 r2 s1 s2 hst
      cases hsm : sameE a[k] b[k]
      · have HF := Lib.hid (show sameL a b = false by unfold sameL; rw [hno.out hsm, Bool.and_false])
        have HS := Lib.hid hsm
        clear hsm
        go_wp2_with fail
        refine HSM.out.mono ?_
        rintro e w2 ⟨rfl, hb2⟩
        rw [HS.out]
        have hbz := hb.trans (HC.out.mono hb.size)
        have hbe := hbz.trans (hb2.mono hbz.size)
        clear HSM hb2
        go_wp2_with fail
        go_ret
        exact ⟨retB HF.out.symm, hbe⟩
      · have HA := Lib.hid (show ((a.zip b).take (k + 1)).all sameP = true by rw [hst'.out]; exact hsm)
        have HS := Lib.hid hsm
        clear hsm
        go_wp2_with fail
        refine HSM.out.mono ?_
        rintro e w2 ⟨rfl, hb2⟩
        rw [HS.out]
        have hbz := hb.trans (HC.out.mono hb.size)
        have hbe := hbz.trans (hb2.mono hbz.size)
        clear HSM hb2
        go_wp2_with fail
        go_roundw
        case rel => exact ⟨k + 1, by omega, by go_num, HA, hbe⟩
        case measure => simp [intOf]; omega
    · have HF := Lib.hid (show sameL a b = true by
        have h1 := hall.out
        rw [List.take_of_length_le (by rw [List.length_zip]; omega)] at h1
        unfold sameL; rw [h1, decide_eq_true HL.out]; rfl)
      go_wp2_with fail
      go_ret
      exact ⟨retB HF.out.symm, hb⟩
set_option maxRecDepth 100000 in
set_option maxHeartbeats 4000000 in
theorem implIndexOk (AS AD AC AL : Option Addr) (nS cS nD cD nC cC nL cL : Nat) (tb : Int) (s : List Tb) (db : List Dt) (cols : List Int) (l : List En) (ok okd okc okl : Nat → Prop) (w : World)
    (hS : Sl TbR 6 ok w AS nS s) (hD : Sl DtR 1 okd w AD nD db) (hC : Sl IntR 1 okc w AC nC cols) (hL : Sl EnR 2 okl w AL nL l) (hsz : szL Tb.sz s ≤ 1048576) (hdz : szL Dt.sz db ≤ 1048576) (hcn : nC ≤ 1048576) (hlz : szL En.sz l ≤ 1048576) :
    Calls Tryz.prog 36 #[.slice AS nS cS, .slice AD nD cD, .int .i64 tb, .slice AC nC cC, .slice AL nL cL] w fun e w' => e = .returned (.bool (idxOkB s db tb cols l)) ∧ Below w.heap.size w w' := by
  obtain rfl : l.length = nL := hL.1
  have HIO := Lib.hid (implIndexOf AS AD AC nS cS nD cD nC cC tb s db cols ok okd okc w hS hD hC hsz hdz hcn)
  have HK := Lib.hid (And.intro (ents_len (ixL_sz s db tb cols)) (ents_len hlz))
  have HIL := Lib.hid (show (ixL s db tb cols).length ≤ 1048576 by have h2 := ixL_sz s db tb cols; unfold szL at h2; omega)
  have hll : l.length ≤ 1048576 := by unfold szL at hlz; omega
  cases hx : ixOk s db tb cols
  · have HF := Lib.hid (show idxOkB s db tb cols l = false by unfold idxOkB; rw [hx]; rfl)
    rw [hx] at HIO
    go_enter Tryz.func36, Tryz.ntmps36
    go_wp2_with fail
    refine HIO.out.mono ?_
    rintro e w1 ⟨v, rfl, ho, hb1⟩
    clear HIO
    go_wp2_with fail
    go_ret
    exact ⟨retB HF.out.symm, hb1⟩
  · have HF := Lib.hid (show idxOkB s db tb cols l = sameL (ixL s db tb cols) l by unfold idxOkB; rw [hx]; rfl)
    rw [hx] at HIO
    go_enter Tryz.func36, Tryz.ntmps36
    go_wp2_with fail
    refine HIO.out.mono ?_
    rintro e w1 ⟨v, rfl, ho, hb1⟩
    obtain ⟨A9, c9, rfl, -, -, hsl⟩ := ho.sl
    have HEQ := Lib.hid (libEqualEntries A9 AL (ixL s db tb cols).length c9 l.length cL (ixL s db tb cols) l _ okl w1 hsl (hL.below EnR.stays hb1) HIL.out hll HK.out.1 HK.out.2)
    clear HIO hsl ho
    go_wp2_with fail
    refine HEQ.out.mono ?_
    rintro e w2 ⟨rfl, hb2⟩
    have hb12 := hb1.trans (hb2.mono hb1.size)
    clear HEQ hb2
    go_wp2_with fail
    go_ret
    exact ⟨retB HF.out.symm, hb12⟩
set_option maxRecDepth 100000 in
set_option maxHeartbeats 4000000 in
theorem specIndexOk (AS AD AC AL : Option Addr) (nS cS nD cD nC cC nL cL : Nat) (tb : Int) (s : List Tb) (db : List Dt) (cols : List Int) (l : List En) (ok okd okc okl : Nat → Prop) (w : World)
    (hS : Sl TbR 6 ok w AS nS s) (hD : Sl DtR 1 okd w AD nD db) (hC : Sl IntR 1 okc w AC nC cols) (hL : Sl EnR 2 okl w AL nL l) (hcp : nS ≤ cS) (hcc : nC ≤ cC) (hsz : szL Tb.sz s ≤ 1048576) (hdz : szL Dt.sz db ≤ 1048576) (hcn : nC ≤ 1048576) (hlz : szL En.sz l ≤ 1048576) :
    Calls Tryz.prog 34 #[.slice AS nS cS, .slice AD nD cD, .int .i64 tb, .slice AC nC cC, .slice AL nL cL] w fun e w' => e = .returned (.bool (idxOkB s db tb cols l)) ∧ Below w.heap.size w w' := by
  obtain rfl : l.length = nL := hL.1
  have HIO := Lib.hid (specIndexOf AS AD AC nS cS nD cD nC cC tb s db cols ok okd okc w hS hD hC hcp hcc hsz hdz hcn)
  have HK := Lib.hid (And.intro (ents_len (ixL_sz s db tb cols)) (ents_len hlz))
  have HIL := Lib.hid (show (ixL s db tb cols).length ≤ 1048576 by have h2 := ixL_sz s db tb cols; unfold szL at h2; omega)
  have hll : l.length ≤ 1048576 := by unfold szL at hlz; omega
  have HLL := Lib.hid hL
  cases hx : ixOk s db tb cols
  · have HF := Lib.hid (show idxOkB s db tb cols l = false by unfold idxOkB; rw [hx]; rfl)
    rw [hx] at HIO
    go_enter Tryz.func34, Tryz.ntmps34
    go_wp2_with fail
    refine HIO.out.mono ?_
    rintro e w1 ⟨v, rfl, ho, hb1⟩
    clear HIO
    go_wp2_with fail
    go_ret
    exact ⟨retB HF.out.symm, hb1⟩
  have HF := Lib.hid (show idxOkB s db tb cols l = sameL (ixL s db tb cols) l by unfold idxOkB; rw [hx]; rfl)
  rw [hx] at HIO
  generalize hxl : ixL s db tb cols = xl at *
  clear hxl hx
  by_cases hl : (xl.length : Int) = l.length
  case neg =>
    have hl2 : ((xl.length : Int) != l.length) = true := by simpa using hl
    have HG := Lib.hid (show idxOkB s db tb cols l = false by rw [HF.out]; unfold sameL; rw [decide_eq_false (by omega)]; rfl)
    clear hl
    go_enter Tryz.func34, Tryz.ntmps34
    go_wp2_with fail
    refine HIO.out.mono ?_
    rintro e w1 ⟨v, rfl, ho, hb1⟩
    obtain ⟨A9, c9, rfl, -, -, hsl⟩ := ho.sl
    clear HIO hsl ho
    go_wp2_with fail
    go_ret
    exact ⟨retB HG.out.symm, hb1⟩
  have hl2 : ((xl.length : Int) != l.length) = false := by simpa using hl
  have HLE := Lib.hid (show xl.length = l.length by omega)
  have hxn : xl.length ≤ 1048576 := HIL.out
  clear hl
  go_enter Tryz.func34, Tryz.ntmps34
  go_wp2_with fail
  refine HIO.out.mono ?_
  rintro e w1 ⟨v, rfl, ho, hb1⟩
  obtain ⟨A9, c9, rfl, -, -, hsl⟩ := ho.sl
  have HSL := Lib.hid hsl
  have HB1 := Lib.hid hb1
  clear HIO hsl ho
  go_wp2_with fail
  clear hl2
  go_loopw [13] (fun i wr => ∃ k : Nat, k ≤ xl.length ∧ i = .int .i64 k ∧ Hid (((xl.zip l).take k).all sameP = true) ∧ Below w1.heap.size w1 wr) (fun i _ => xl.length - (intOf i).toNat)
  case atStart => exact ⟨0, by omega, rfl, Lib.hid (by simp), Below.refl _ _⟩
  case round =>
    obtain ⟨k, hk, rfl, hall, hb⟩ := hrel
    have hbw : Below w.heap.size w wr := HB1.out.trans (hb.mono HB1.out.size)
    by_cases hlt : k < xl.length
    · have hlt' : k < l.length := by have := HLE.out; omega
      obtain ⟨b1, o1, B1, n1, c1, -, rfl, q0, q1, s1, -⟩ := EnR.at_ (HSL.out.below EnR.stays hb) hlt
      obtain ⟨b2, o2, B2, n2, c2, -, rfl, y0, y1, s2, -⟩ := EnR.at_ (HLL.out.below EnR.stays hbw) hlt'
      have i0 : (0 : Int) ≤ k := by omega
      have i1 : (k : Int) < xl.length := by omega
      have i2 : (k : Int) < l.length := by omega
      have hn1 : n1 ≤ 1048576 := by have h1 := s1.1; have := HK.out.1 _ (List.getElem_mem hlt); omega
      have hn2 : n2 ≤ 1048576 := by have h1 := s2.1; have := HK.out.2 _ (List.getElem_mem hlt'); omega
      have hd : Below wr.heap.size wr wr.drew := (Below.refl _ wr).drew
      have HSM := Lib.hid (specL11Same xl[k] l[k] B1 B2 n1 c1 n2 c2 _ _ wr.drew (s1.below VlR.stays hd) (s2.below VlR.stays hd) hn1 hn2)
      have hst := zip_take xl l k hlt hlt' sameP
      rw [hall.out, Bool.true_and] at hst
      have hst' := Lib.hid hst
      have hno := Lib.hid (fun hf => zip_no (f := sameP) hlt hlt' hf)
      have HS1 := Lib.hid s1
      have HS2 := Lib.hid s2
      clear s1 s2 hst hd
      cases hsm : sameE xl[k] l[k]
      · have HG := Lib.hid (show idxOkB s db tb cols l = false by rw [HF.out]; unfold sameL; rw [hno.out hsm, Bool.and_false])
        rw [hsm] at HSM
        clear hsm
        go_wp2_with fail
        go_region_held3 (fun w' => w'.cell? ⟨b1, o1 + k * 2, none⟩ = some (.slice B1 n1 c1) ∧ w'.cell? ⟨b1, o1 + k * 2 + 1, none⟩ = some (.int .i64 xl[k].id) ∧ w'.cell? ⟨b2, o2 + k * 2, none⟩ = some (.slice B2 n2 c2) ∧ w'.cell? ⟨b2, o2 + k * 2 + 1, none⟩ = some (.int .i64 l[k].id))
          (first | go_keep | exact keepC4 (by assumption) hb2)
          (first | (go_at_call 76; refine HSM.out.mono ?_; rintro e w2 ⟨rfl, hb2⟩))
        have hbe := hbw.drew.trans (hb2.mono hbw.size)
        go_wp2_with fail
        go_ret
        exact ⟨retB HG.out.symm, hbe⟩
      · have HA := Lib.hid (show ((xl.zip l).take (k + 1)).all sameP = true by rw [hst'.out]; exact hsm)
        rw [hsm] at HSM
        clear hsm
        go_wp2_with fail
        go_region_held3 (fun w' => w'.cell? ⟨b1, o1 + k * 2, none⟩ = some (.slice B1 n1 c1) ∧ w'.cell? ⟨b1, o1 + k * 2 + 1, none⟩ = some (.int .i64 xl[k].id) ∧ w'.cell? ⟨b2, o2 + k * 2, none⟩ = some (.slice B2 n2 c2) ∧ w'.cell? ⟨b2, o2 + k * 2 + 1, none⟩ = some (.int .i64 l[k].id))
          (first | go_keep | exact keepC4 (by assumption) hb2)
          (first | (go_at_call 76; refine HSM.out.mono ?_; rintro e w2 ⟨rfl, hb2⟩))
        have hbe := hb.drew.trans (hb2.mono hb.size)
        go_wp2_with fail
        go_roundw
        case rel => exact ⟨k + 1, by omega, by go_num, HA, hbe⟩
        case measure => simp [intOf]; omega
    · have HG := Lib.hid (show idxOkB s db tb cols l = true by
        have h1 := hall.out
        rw [List.take_of_length_le (by rw [List.length_zip]; omega)] at h1
        rw [HF.out]; unfold sameL; rw [h1, decide_eq_true HLE.out]; rfl)
      go_wp2_with fail
      go_ret
      exact ⟨retB HG.out.symm, hbw⟩
end Go.Proofs.YtemimhghhihllaaGreat
