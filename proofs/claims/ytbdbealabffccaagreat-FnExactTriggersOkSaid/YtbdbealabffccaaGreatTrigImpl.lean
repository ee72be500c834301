/-
  Triggers: which are right, in the program.
-/
import Derived.Test.YtbdbealabffccaaGreatTableAt
import Derived.Test.YtbdbealabffccaaGreatExprOk2
import Derived.Test.YtbdbealabffccaaGreatFindMath
import Derived.Test.YtbdbealabffccaaGreatSchemaImpl2
import Derived.Test.YtbdbealabffccaaGreatTerms
namespace Go.Proofs.YtbdbealabffccaaGreat
open Go.RowKit Go.Maps
set_option linter.unusedVariables false
set_option linter.unusedSimpArgs false

def eventB (e : Int) : Bool := decide (1 ≤ e) && decide (e ≤ 3)
/-- How many columns the table of a name has. -/
def widthAt (s : List Tb) (nm : ByteArray) : Nat := ((s[(atN (s.map Tb.name) nm).toNat]?).map (fun t => t.cols.length)).getD 0
def trigE (s : List Tb) (t : Tg) (ts : List Tk) : Bool := exprB ts ((2 * widthAt s t.table : Nat) : Int)
def trigB (s : List Tb) (t : Tg) : Bool := (!decide (atN (s.map Tb.name) t.table = -1) && !decide (atN (s.map Tb.name) t.into = -1)) && (eventB t.event && (decide (t.terms.length = widthAt s t.into) && ((decide (t.wher.length = 0) || trigE s t t.wher) && t.terms.all (fun y => trigE s t y.expr))))
def triggersB (s : List Tb) (l : List Tg) : Bool := schemaB s && (decide (l.length ≤ 6) && l.all (trigB s))

/-- What follows is proved once, whichever way the world came about. -/
theorem share {P G : World → Prop} {T : Prop} (main : (∀ y, P y → G y) → T) (key : ∀ y, P y → G y) : T := main key

theorem widthAt_of {s : List Tb} {nm : ByteArray} {m : Nat} (h : atN (s.map Tb.name) nm = m) (hm : m < s.length) : widthAt s nm = s[m].cols.length := by
  unfold widthAt
  rw [h, Int.toNat_natCast, List.getElem?_eq_getElem hm]; rfl

theorem implIsEvent (n : Int) (w : World) :
    Calls Tryz.prog 72 #[.int .i64 n] w fun e w' => e = .returned (.bool (eventB n)) ∧ w = w' := by
  by_cases h1 : n = 1
  · subst h1
    go_enter Tryz.func72, Tryz.ntmps72
    go_wp2
    go_ret
    exact ⟨rfl, rfl⟩
  by_cases h2 : n = 2
  · subst h2
    go_enter Tryz.func72, Tryz.ntmps72
    go_wp2
    go_ret
    exact ⟨rfl, rfl⟩
  by_cases h3 : n = 3
  · subst h3
    go_enter Tryz.func72, Tryz.ntmps72
    go_wp2
    go_ret
    exact ⟨rfl, rfl⟩
  have e1 : (n == 1) = false := beq_eq_false_iff_ne.2 h1
  have e2 : (n == 2) = false := beq_eq_false_iff_ne.2 h2
  have e3 : (n == 3) = false := beq_eq_false_iff_ne.2 h3
  have hF : eventB n = false := by
    unfold eventB
    by_cases a : 1 ≤ n
    · rw [decide_eq_false (show ¬ n ≤ 3 by omega)]; simp
    · rw [decide_eq_false a]; rfl
  have HF := Lib.hid hF
  clear hF h1 h2 h3
  go_enter Tryz.func72, Tryz.ntmps72
  go_wp2
  go_ret
  exact ⟨retB HF.out.symm, rfl⟩

theorem keepS2 {w w' : World} {p q : Addr} {u v : Value} (h : w.cell? p = some u ∧ w.cell? q = some v) (hb : Below w.heap.size w w') : w'.cell? p = some u ∧ w'.cell? q = some v :=
  ⟨below_keep hb _ _ h.1, below_keep hb _ _ h.2⟩

set_option maxRecDepth 100000 in
set_option maxHeartbeats 4000000 in
theorem implTriggerOk (AS : Option Addr) (nS cS : Nat) (s : List Tb) (b o : Nat) (A2 : Option Addr) (n2 c2 : Nat) (A4 : Option Addr) (n4 c4 : Nat) (t : Tg) (ok okt : Nat → Prop) (w : World)
    (hs : Sl TbR 6 ok w AS nS s) (hsz : szL Tb.sz s ≤ 1048576) (ht : t.sz ≤ 1048576)
    (y0 : w.cell? ⟨b, o, none⟩ = some (.string t.table)) (y1 : w.cell? ⟨b, o + 1, none⟩ = some (.int .i64 t.event)) (y2 : w.cell? ⟨b, o + 2, none⟩ = some (.slice A2 n2 c2)) (y3 : w.cell? ⟨b, o + 3, none⟩ = some (.string t.into)) (y4 : w.cell? ⟨b, o + 4, none⟩ = some (.slice A4 n4 c4))
    (h2 : Sl TkR 5 okt w A2 n2 t.wher) (h4 : Sl TeR 1 okt w A4 n4 t.terms) :
    Calls Tryz.prog 40 #[.slice AS nS cS, .pointer (some ⟨b, o, none⟩)] w fun e w' => e = .returned (.bool (trigB s t)) ∧ Below w.heap.size w w' := by
  obtain rfl : s.length = nS := hs.1
  obtain rfl : t.wher.length = n2 := h2.1
  obtain rfl : t.terms.length = n4 := h4.1
  have hn : s.length ≤ 1048576 := by unfold szL at hsz; omega
  have hnw : t.wher.length ≤ 1048576 := by unfold Tg.sz szL at ht; omega
  have hnt : t.terms.length ≤ 1048576 := by unfold Tg.sz szL at ht; omega
  have HN0 := Lib.hid (show t.table.size ≤ maxLen by unfold maxLen; unfold Tg.sz at ht; omega)
  have HN1 := Lib.hid (show t.into.size ≤ maxLen by unfold maxLen; unfold Tg.sz at ht; omega)
  have HTE := Lib.hid (fun (k : Nat) (hk : k < t.terms.length) => show (t.terms[k]).expr.length ≤ maxLen by
    have e : szL (fun t : Tk => t.vs.size) (t.terms[k]).expr ≤ szL Te.sz t.terms := szL_mem Te.sz t.terms t.terms[k] (List.getElem_mem hk)
    have e2 : (t.terms[k]).expr.length ≤ szL (fun t : Tk => t.vs.size) (t.terms[k]).expr := by unfold szL; omega
    unfold Tg.sz at ht
    unfold maxLen
    omega)
  have HTM := Lib.hid (show ∀ y ∈ t.terms, y.expr.length ≤ maxLen from fun y hy => by obtain ⟨k, hk, rfl⟩ := List.mem_iff_getElem.1 hy; exact HTE.out k hk)
  have HSZ := Lib.hid hsz
  have HCL := Lib.hid (fun k (hlt : k < s.length) => show s[k].cols.length ≤ 1048576 by
    have := HSZ.out; have := sum_mem_le Tb.sz s k hlt; have e : s[k].cols.length ≤ s[k].sz := (by unfold Tb.sz szL; omega); unfold szL at *; omega)
  have HH4 := Lib.hid h4
  clear hsz ht
  go_enter Tryz.func40, Tryz.ntmps40
  go_wp2_with fail
  apply share (P := fun y => Below w.heap.size w y)
  case main =>
    intro key
    go_region_held3 (fun w' => w'.cell? ⟨b, o, none⟩ = some (.string t.table) ∧ w'.cell? ⟨b, o + 3, none⟩ = some (.string t.into))
      (first | go_keep | exact keepS2 (by assumption) hqc)
      (first | (go_at_call 29; refine (implTableAt AS s.length cS s _ _ _ (by first | exact hs.drew TbR.stays | exact (hs.drew TbR.stays).below TbR.stays (by assumption)) HSZ.out (by first | exact HN0.out | exact HN1.out)).mono ?_; rintro e wc ⟨rfl, hqc⟩; first | have hcum2 := hcum1.trans (hqc.mono hcum1.size) | have hcum1 := (Below.refl w.heap.size w).drew.trans (hqc.mono (Nat.le_refl _))))
    all_goals exact key _ hcum2
  case key =>
    intro w1 hb1
    have z1 := below_keep hb1 _ _ y1
    have z2 := below_keep hb1 _ _ y2
    have z4 := below_keep hb1 _ _ y4
    clear y0 y1 y2 y3 y4
    have hs1 := hs.below TbR.stays hb1
    have g2 := h2.below TkR.stays hb1
    clear hs h2 h4
    by_cases e0 : atN (s.map Tb.name) t.table = -1
    · have HF := Lib.hid (show trigB s t = false by unfold trigB; rw [e0]; rfl)
      rw [e0]
      clear e0
      go_wp2_with fail
      go_ret
      exact ⟨retB HF.out.symm, hb1⟩
    obtain ⟨m, hm, hml⟩ : ∃ m : Nat, atN (s.map Tb.name) t.table = m ∧ m < s.length := by
      rcases atN_rng (s.map Tb.name) t.table with h | h
      · exact absurd h e0
      · rw [List.length_map] at h
        exact ⟨(atN (s.map Tb.name) t.table).toNat, by omega, by omega⟩
    have zm : ((m : Int) == -1) = false := beq_eq_false_iff_ne.2 (by omega)
    by_cases e1 : atN (s.map Tb.name) t.into = -1
    · have HF := Lib.hid (show trigB s t = false by unfold trigB; rw [e1]; simp)
      rw [e1, hm]
      clear e0 e1 hm
      go_wp2_with fail
      go_ret
      exact ⟨retB HF.out.symm, hb1⟩
    obtain ⟨q, hq, hql⟩ : ∃ q : Nat, atN (s.map Tb.name) t.into = q ∧ q < s.length := by
      rcases atN_rng (s.map Tb.name) t.into with h | h
      · exact absurd h e1
      · rw [List.length_map] at h
        exact ⟨(atN (s.map Tb.name) t.into).toNat, by omega, by omega⟩
    have zq : ((q : Int) == -1) = false := beq_eq_false_iff_ne.2 (by omega)
    clear e0 e1
    rw [hm, hq]
    cases hev : eventB t.event
    · have HF := Lib.hid (show trigB s t = false by unfold trigB; rw [hev]; simp)
      have HE := Lib.hid hev
      clear hev hm hq
      go_wp2_with fail
      refine (implIsEvent _ _).mono ?_
      rintro e w2 ⟨rfl, rfl⟩
      rw [HE.out]
      go_wp2_with fail
      go_ret
      exact ⟨retB HF.out.symm, hb1⟩
    have HE := Lib.hid hev
    have HB := Lib.hid (show trigB s t = (decide (t.terms.length = s[q].cols.length) && ((decide (t.wher.length = 0) || exprB t.wher (2 * (s[m].cols.length : Int))) && t.terms.all (fun y => exprB y.expr (2 * (s[m].cols.length : Int))))) by
      unfold trigB trigE
      rw [hm, hq, hev, widthAt_of hm hml, widthAt_of hq hql, decide_eq_false (show ¬ (m : Int) = -1 by omega), decide_eq_false (show ¬ (q : Int) = -1 by omega), Int.natCast_mul]; rfl)
    clear hev hm hq
    obtain ⟨gb, go, D1, m1, d1, D2, m2, d2, D3, m3, d3, D4, m4, d4, D5, m5, d5, -, ea, q0, q1, q2, q3, q4, q5, s1, -, -, -, -, -⟩ := TbR.at_ hs1 hml
    subst ea
    obtain ⟨gb', go', E1, f1, k1, E2, f2, k2, E3, f3, k3, E4, f4, k4, E5, f5, k5, -, ea', r0, r1, r2, r3, r4, r5, p1, -, -, -, -, -⟩ := TbR.at_ hs1 hql
    obtain ⟨rfl, rfl⟩ : gb = gb' ∧ go = go' := by simpa using ea'
    obtain rfl : s[m].cols.length = m1 := s1.1
    obtain rfl : s[q].cols.length = f1 := p1.1
    clear ea' q0 q2 q3 q4 q5 r0 r2 r3 r4 r5 s1 p1 hs1
    have i0 : (0 : Int) ≤ m := by omega
    have i1 : (m : Int) < s.length := by omega
    have j0 : (0 : Int) ≤ q := by omega
    have j1 : (q : Int) < s.length := by omega
    have hc0 := HCL.out m hml
    have hc1 := HCL.out q hql
    have HX := Lib.hid (implExprOk A2 t.wher.length c2 t.wher (2 * (s[m].cols.length : Int)) w1 (Sl.cellz (fun _ => rfl) g2) (by unfold maxLen; omega))
    clear g2
    by_cases hwl : t.wher.length = 0
    case pos =>
      have zw : decide ((0 : Int) < t.wher.length) = false := by rw [hwl]; rfl
      by_cases hl : t.terms.length = s[q].cols.length
      case neg =>
        have HF := Lib.hid (show trigB s t = false by rw [HB.out, decide_eq_false hl]; rfl)
        have zl : ((t.terms.length : Int) == s[q].cols.length) = false := beq_eq_false_iff_ne.2 (by omega)
        clear hl
        go_wp2_with fail
        refine (implIsEvent _ _).mono ?_
        rintro e w2 ⟨rfl, rfl⟩
        rw [HE.out]
        go_wp2_with fail
        go_quiet (fail)
        go_wp2_with fail
        go_ret
        first | exact ⟨retB HF.out.symm, below_dN hb1 _⟩ | exact ⟨retB HF.out.symm, hb1⟩
      case pos =>
        have zl2 : ((t.terms.length : Int) != s[q].cols.length) = false := by rw [hl]; simp
        have zl : ((t.terms.length : Int) == s[q].cols.length) = true := by rw [hl]; exact beq_self_eq_true _
        have HB2 := Lib.hid (show trigB s t = termsB (2 * (s[m].cols.length : Int)) t.terms by rw [HB.out, decide_eq_true hl, decide_eq_true hwl]; rfl)
        clear hl
        go_wp2_with fail
        refine (implIsEvent _ _).mono ?_
        rintro e w2 ⟨rfl, rfl⟩
        rw [HE.out]
        go_wp2_with fail
        go_region_held3 (fun w' => w'.cell? ⟨b, o + 4, none⟩ = some (.slice A4 t.terms.length c4) ∧ w'.cell? ⟨gb, go + q * 6 + 1, none⟩ = some (.slice E1 s[q].cols.length k1))
          (first | go_keep | exact keepS2 (by assumption) hq3)
          (first | (go_at_call 63; refine (implTermsOk A4 t.terms.length c4 t.terms (2 * (s[m].cols.length : Int)) _ _ (HH4.out.below TeR.stays hb1.drew) hnt HTM.out).mono ?_; rintro e w3 ⟨rfl, hq3⟩))
        go_wp2_with fail
        go_ret
        exact ⟨retB HB2.out.symm, hb1.drew.trans (hq3.mono hb1.drew.size)⟩
    case neg =>
      have zw : decide ((0 : Int) < t.wher.length) = true := by simpa using Nat.pos_of_ne_zero hwl
      cases hw : exprB t.wher (2 * (s[m].cols.length : Int))
      · have HF := Lib.hid (show trigB s t = false by rw [HB.out, decide_eq_false hwl, hw]; simp)
        have HW := Lib.hid hw
        clear hw
        go_wp2_with fail
        refine (implIsEvent _ _).mono ?_
        rintro e w2 ⟨rfl, rfl⟩
        rw [HE.out]
        go_wp2_with fail
        refine HX.out.mono ?_
        rintro e w2 ⟨rfl, hq2⟩
        rw [HW.out]
        go_wp2_with fail
        go_ret
        exact ⟨retB HF.out.symm, hb1.trans (hq2.mono hb1.size)⟩
      have HW := Lib.hid hw
      clear hw
      by_cases hl : t.terms.length = s[q].cols.length
      case neg =>
        have HF := Lib.hid (show trigB s t = false by rw [HB.out, decide_eq_false hl]; rfl)
        have zl : ((t.terms.length : Int) == s[q].cols.length) = false := beq_eq_false_iff_ne.2 (by omega)
        clear hl
        go_wp2_with fail
        refine (implIsEvent _ _).mono ?_
        rintro e w2 ⟨rfl, rfl⟩
        rw [HE.out]
        go_wp2_with fail
        refine HX.out.mono ?_
        rintro e w2 ⟨rfl, hq2⟩
        rw [HW.out]
        have hb2 := hb1.trans (hq2.mono hb1.size)
        have x4 := below_keep hq2 _ _ z4
        have x1 := below_keep hq2 _ _ r1
        clear z4 r1
        go_wp2_with fail
        go_quiet (fail)
        go_wp2_with fail
        go_ret
        first | exact ⟨retB HF.out.symm, below_dN hb2 _⟩ | exact ⟨retB HF.out.symm, hb2⟩
      case pos =>
        have zl2 : ((t.terms.length : Int) != s[q].cols.length) = false := by rw [hl]; simp
        have zl : ((t.terms.length : Int) == s[q].cols.length) = true := by rw [hl]; exact beq_self_eq_true _
        have HB2 := Lib.hid (show trigB s t = termsB (2 * (s[m].cols.length : Int)) t.terms by rw [HB.out, decide_eq_true hl, decide_eq_false hwl, HW.out]; rfl)
        clear hl
        go_wp2_with fail
        refine (implIsEvent _ _).mono ?_
        rintro e w2 ⟨rfl, rfl⟩
        rw [HE.out]
        go_wp2_with fail
        refine HX.out.mono ?_
        rintro e w2 ⟨rfl, hq2⟩
        rw [HW.out]
        have hb2 := hb1.trans (hq2.mono hb1.size)
        have x4 := below_keep hq2 _ _ z4
        have x1 := below_keep hq2 _ _ r1
        clear z4 r1
        go_wp2_with fail
        go_region_held3 (fun w' => w'.cell? ⟨b, o + 4, none⟩ = some (.slice A4 t.terms.length c4) ∧ w'.cell? ⟨gb, go + q * 6 + 1, none⟩ = some (.slice E1 s[q].cols.length k1))
          (first | go_keep | exact keepS2 (by assumption) hq3)
          (first | (go_at_call 63; refine (implTermsOk A4 t.terms.length c4 t.terms (2 * (s[m].cols.length : Int)) _ _ (HH4.out.below TeR.stays hb2.drew) hnt HTM.out).mono ?_; rintro e w3 ⟨rfl, hq3⟩))
        go_wp2_with fail
        go_ret
        exact ⟨retB HB2.out.symm, hb2.drew.trans (hq3.mono hb2.drew.size)⟩
end Go.Proofs.YtbdbealabffccaaGreat
