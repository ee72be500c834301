/-
  Triggers: which are right, in the model; the whole list.
-/
import Derived.Test.YtbdbealabffccaaGreatTrigImpl
import Derived.Test.YtbdbealabffccaaGreatSpecSchema
namespace Go.Proofs.YtbdbealabffccaaGreat
open Go.RowKit Go.Maps
set_option linter.unusedVariables false
set_option linter.unusedSimpArgs false

theorem tableB_colsT {t : Tb} (h : tableB t = true) : t.cols.length ≤ 8 := by
  simp only [tableB, colsB, Bool.and_eq_true, decide_eq_true_eq] at h
  exact h.2.1.2.1

theorem specL2ExprE (A : Option Addr) (n cap : Nat) (ts : List Tk) (cols : Int) (w : World) (h : Toks w A n ts) (hn : n ≤ maxLen) (h0 : 0 ≤ cols) (h16 : cols ≤ 16) :
    Calls Tryz.prog 51 #[.slice A n cap, .int .i64 cols] w fun e w' => e = .returned (.bool (exprB ts cols)) ∧ Below w.heap.size w w' :=
  (specL2Expr A n cap ts cols w h hn h0 h16).mono fun e w' hq => ⟨by
    rw [hq.1]; exact retB (by simp only [exprB, l2B, h0, h16, decide_true, Bool.true_and]; exact Bool.and_comm _ _), hq.2⟩

set_option maxRecDepth 100000 in
set_option maxHeartbeats 4000000 in
theorem specOne (AS : Option Addr) (nS cS : Nat) (s : List Tb) (A2 : Option Addr) (n2 c2 : Nat) (A4 : Option Addr) (n4 c4 : Nat) (t : Tg) (ok okt : Nat → Prop) (w : World)
    (hs : Sl TbR 6 ok w AS nS s) (hsz : szL Tb.sz s ≤ 1048576) (hS : schemaB s = true) (ht : t.sz ≤ 1048576)
    (h2 : Sl TkR 5 okt w A2 n2 t.wher) (h4 : Sl TeR 1 okt w A4 n4 t.terms) :
    Calls Tryz.prog 38 #[.slice AS nS cS, .agg #[.string t.table, .int .i64 t.event, .slice A2 n2 c2, .string t.into, .slice A4 n4 c4]] w fun e w' => e = .returned (.bool (trigB s t)) ∧ Below w.heap.size w w' := by
  obtain rfl : s.length = nS := hs.1
  obtain rfl : t.wher.length = n2 := h2.1
  obtain rfl : t.terms.length = n4 := h4.1
  have hn : s.length ≤ 1048576 := by unfold szL at hsz; omega
  have hnw : t.wher.length ≤ 1048576 := by unfold Tg.sz szL at ht; omega
  have hnt : t.terms.length ≤ 1048576 := by unfold Tg.sz szL at ht; omega
  have HTE := Lib.hid (fun (k : Nat) (hk : k < t.terms.length) => show (t.terms[k]).expr.length ≤ maxLen by
    have e : szL (fun t : Tk => t.vs.size) (t.terms[k]).expr ≤ szL Te.sz t.terms := szL_mem Te.sz t.terms t.terms[k] (List.getElem_mem hk)
    have e2 : (t.terms[k]).expr.length ≤ szL (fun t : Tk => t.vs.size) (t.terms[k]).expr := by unfold szL; omega
    unfold Tg.sz at ht
    unfold maxLen
    omega)
  have HCL := Lib.hid (fun k (hlt : k < s.length) => show s[k].cols.length ≤ 8 from tableB_colsT (List.all_eq_true.1 (by unfold schemaB at hS; simp only [Bool.and_eq_true] at hS; exact hS.2.1) _ (List.getElem_mem hlt)))
  have HH4 := Lib.hid h4
  have HH2 := Lib.hid h2
  clear hsz ht hS
  have hb0 := (Below.refl w.heap.size w).alloc (Nat.le_refl _) (.cells #[.string t.table, .int .i64 t.event, .slice A2 t.wher.length c2, .string t.into, .slice A4 t.terms.length c4] 83)
  have r0 := Row.new w 83 #[.string t.table, .int .i64 t.event, .slice A2 t.wher.length c2, .string t.into, .slice A4 t.terms.length c4]
  obtain ⟨⟨d0, d1, d2, d3, d4⟩, -⟩ := r0.five
  have HS0 := Lib.hid (hs.below TbR.stays hb0)
  go_enter Tryz.func38, Tryz.ntmps38
  go_wp2_with fail
  refine (specL3At AS s.length cS s t.table ok _ HS0.out hn).mono ?_
  rintro e w1 ⟨rfl, hq1⟩
  have hb1 := hb0.trans (hq1.mono hb0.size)
  have r1 := r0.below hq1
  clear d0 d1 d2 d3 d4 HS0 r0
  obtain ⟨⟨d0, d1, d2, d3, d4⟩, -⟩ := r1.five
  go_wp2_with fail
  refine (specL3At AS s.length cS s t.into ok _ (hs.below TbR.stays hb1) hn).mono ?_
  rintro e w2 ⟨rfl, hq2⟩
  have hb2 := hb1.trans (hq2.mono hb1.size)
  have r2 := r1.below hq2
  clear d0 d1 d2 d3 d4 r1
  obtain ⟨⟨d0, d1, d2, d3, d4⟩, -⟩ := r2.five
  have hs2 := hs.below TbR.stays hb2
  have g2 := h2.below TkR.stays hb2
  have hbo := hb0
  clear hs h2 h4 hq1 hq2 hb1 hb0
  by_cases e0 : atN (s.map Tb.name) t.table = -1
  · have HF := Lib.hid (show trigB s t = false by unfold trigB; rw [e0]; rfl)
    rw [e0]
    clear e0
    go_wp2_with fail
    go_quiet (fail)
    go_wp2_with fail
    go_ret
    first | exact ⟨retB HF.out.symm, below_dN hb2 _⟩ | exact ⟨retB HF.out.symm, hb2⟩
  obtain ⟨m, hm, hml⟩ : ∃ m : Nat, atN (s.map Tb.name) t.table = m ∧ m < s.length := by
    rcases atN_rng (s.map Tb.name) t.table with h | h
    · exact absurd h e0
    · rw [List.length_map] at h
      exact ⟨(atN (s.map Tb.name) t.table).toNat, by omega, by omega⟩
  have zm : decide ((m : Int) < 0) = false := decide_eq_false (by omega)
  by_cases e1 : atN (s.map Tb.name) t.into = -1
  · have HF := Lib.hid (show trigB s t = false by unfold trigB; rw [e1]; simp)
    rw [e1, hm]
    clear e0 e1 hm
    go_wp2_with fail
    go_quiet (fail)
    go_wp2_with fail
    go_ret
    first | exact ⟨retB HF.out.symm, below_dN hb2 _⟩ | exact ⟨retB HF.out.symm, hb2⟩
  obtain ⟨q, hq, hql⟩ : ∃ q : Nat, atN (s.map Tb.name) t.into = q ∧ q < s.length := by
    rcases atN_rng (s.map Tb.name) t.into with h | h
    · exact absurd h e1
    · rw [List.length_map] at h
      exact ⟨(atN (s.map Tb.name) t.into).toNat, by omega, by omega⟩
  have zq : decide ((q : Int) < 0) = false := decide_eq_false (by omega)
  clear e0 e1
  rw [hm, hq]
  cases hev : eventB t.event
  · have HF := Lib.hid (show trigB s t = false by unfold trigB; rw [hev]; simp)
    have HE := Lib.hid hev
    clear hev hm hq
    go_wp2_with fail
    go_quiet ((go_at_call 50; exact Calls.quiet_of_same (specInV HE.out _)))
    go_wp2_with fail
    go_ret
    first | exact ⟨retB HF.out.symm, below_dN hb2 _⟩ | exact ⟨retB HF.out.symm, hb2⟩
  have HE := Lib.hid hev
  have HB := Lib.hid (show trigB s t = (decide (t.terms.length = s[q].cols.length) && ((decide (t.wher.length = 0) || exprB t.wher (2 * (s[m].cols.length : Int))) && t.terms.all (fun y => exprB y.expr (2 * (s[m].cols.length : Int))))) by
    unfold trigB trigE
    rw [hm, hq, hev, widthAt_of hm hml, widthAt_of hq hql, decide_eq_false (show ¬ (m : Int) = -1 by omega), decide_eq_false (show ¬ (q : Int) = -1 by omega), Int.natCast_mul]; rfl)
  clear hev hm hq
  obtain ⟨gb, go, D1, m1, x1, D2, m2, x2, D3, m3, x3, D4, m4, x4, D5, m5, x5, -, ea, q0, q1, q2, q3, q4, q5, s1, -, -, -, -, -⟩ := TbR.at_ hs2 hml
  subst ea
  obtain ⟨gb', go', E1, f1, k1, E2, f2, k2, E3, f3, k3, E4, f4, k4, E5, f5, k5, -, ea', v0, v1, v2, v3, v4, v5, p1, -, -, -, -, -⟩ := TbR.at_ hs2 hql
  obtain ⟨rfl, rfl⟩ : gb = gb' ∧ go = go' := by simpa using ea'
  obtain rfl : s[m].cols.length = m1 := s1.1
  obtain rfl : s[q].cols.length = f1 := p1.1
  clear ea' q0 q2 q3 q4 q5 v0 v2 v3 v4 v5 s1 p1 hs2
  have i0 : (0 : Int) ≤ m := by omega
  have i1 : (m : Int) < s.length := by omega
  have j0 : (0 : Int) ≤ q := by omega
  have j1 : (q : Int) < s.length := by omega
  have hc0 := HCL.out m hml
  have hc1 := HCL.out q hql
  by_cases hl : t.terms.length = s[q].cols.length
  case neg =>
    have HF := Lib.hid (show trigB s t = false by rw [HB.out, decide_eq_false hl]; rfl)
    have zl : ((t.terms.length : Int) == s[q].cols.length) = false := beq_eq_false_iff_ne.2 (by omega)
    clear hl
    go_wp2_with fail
    go_quiet ((go_at_call 50; exact Calls.quiet_of_same (specInV HE.out _)))
    go_wp2_with fail
    go_ret
    first | exact ⟨retB HF.out.symm, below_dN hb2 _⟩ | exact ⟨retB HF.out.symm, hb2⟩
  have zl2 : ((t.terms.length : Int) != s[q].cols.length) = false := by rw [hl]; simp
  have zl : ((t.terms.length : Int) == s[q].cols.length) = true := by rw [hl]; exact beq_self_eq_true _
  have HB2 := Lib.hid (show trigB s t = ((decide (t.wher.length = 0) || exprB t.wher (2 * (s[m].cols.length : Int))) && t.terms.all (fun y => exprB y.expr (2 * (s[m].cols.length : Int)))) by rw [HB.out, decide_eq_true hl]; rfl)
  clear hl
  go_wp2_with fail
  go_quiet ((go_at_call 50; exact Calls.quiet_of_same (specInV HE.out _)))
  (try rw [zl2])
  have q1' := below_keep (below_dN (Below.refl w2.heap.size w2) nq) _ _ q1
  have r3 := r2.below (below_dN (Below.refl w2.heap.size w2) nq)
  have hb3 := below_dN hb2 nq
  clear d0 d1 d2 d3 d4 r2
  obtain ⟨⟨d0, d1, d2, d3, d4⟩, -⟩ := r3.five
  go_wp2_with fail
  generalize w2.drewN nq = wz at *
  have HR := Lib.hid r3
  clear r3 d0 d1 d2 d3 d4 q1 q1' v1 g2
  go_loopw [8] (fun iv wr => ∃ k : Nat, k ≤ t.terms.length ∧ iv = .int .i64 k ∧ Hid ((t.terms.take k).all (fun y => exprB y.expr (2 * (s[m].cols.length : Int))) = true) ∧ Below w.heap.size w wr ∧ Row wr w.heap.size 83 #[.string t.table, .int .i64 t.event, .slice A2 t.wher.length c2, .string t.into, .slice A4 t.terms.length c4]) (fun iv _ => t.terms.length - (intOf iv).toNat)
  case atStart => exact ⟨0, by omega, rfl, Lib.hid (by simp), hb3, HR.out⟩
  case round =>
    obtain ⟨k, hk, rfl, hall, hb, r4⟩ := hrel
    obtain ⟨⟨d0, d1, d2, d3, d4⟩, -⟩ := r4.five
    by_cases hlt : k < t.terms.length
    · obtain ⟨bt, ot, AE, nE, cE, -, rfl, u0, hx, -⟩ := TeR.at_ (HH4.out.below TeR.stays hb) hlt
      obtain rfl : t.terms[k].expr.length = nE := hx.1
      have a0 : (0 : Int) ≤ k := by omega
      have a1 : (k : Int) < t.terms.length := by omega
      have HXE := Lib.hid (specL2ExprE AE t.terms[k].expr.length cE t.terms[k].expr (2 * (s[m].cols.length : Int)) wr (Sl.cellz (fun _ => rfl) hx) (HTE.out k hlt) (by omega) (by omega))
      have hst := all_take (fun y : Te => exprB y.expr (2 * (s[m].cols.length : Int))) t.terms k hlt
      rw [hall.out, Bool.true_and] at hst
      clear hx
      cases he : exprB t.terms[k].expr (2 * (s[m].cols.length : Int))
      · have HF := Lib.hid (show trigB s t = false by rw [HB2.out, all_no (fun y : Te => exprB y.expr (2 * (s[m].cols.length : Int))) t.terms k hlt he]; simp)
        have HEE := Lib.hid he
        clear hst he
        go_wp2_with fail
        refine HXE.out.mono ?_
        rintro e w3 ⟨rfl, hq3⟩
        rw [HEE.out]
        go_wp2_with fail
        go_ret
        exact ⟨retB HF.out.symm, hb.trans (hq3.mono hb.size)⟩
      · have HA := Lib.hid (show (t.terms.take (k + 1)).all (fun y => exprB y.expr (2 * (s[m].cols.length : Int))) = true by rw [hst]; exact he)
        have HEE := Lib.hid he
        clear hst he
        go_wp2_with fail
        refine HXE.out.mono ?_
        rintro e w3 ⟨rfl, hq3⟩
        rw [HEE.out]
        go_wp2_with fail
        go_roundw
        case rel => exact ⟨k + 1, by omega, by go_num, HA, hb.trans (hq3.mono hb.size), r4.below hq3⟩
        case measure => simp [intOf]; omega
    · obtain rfl : k = t.terms.length := by omega
      have h1 := hall.out
      rw [List.take_of_length_le (Nat.le_refl _)] at h1
      have HB3 := Lib.hid (show trigB s t = (decide (t.wher.length = 0) || exprB t.wher (2 * (s[m].cols.length : Int))) by rw [HB2.out, h1, Bool.and_true])
      clear hall h1
      by_cases hwl : t.wher.length = 0
      · have HF := Lib.hid (show trigB s t = true by rw [HB3.out, decide_eq_true hwl]; rfl)
        have zw : ((t.wher.length : Int) == 0) = true := by rw [hwl]; rfl
        go_wp2_with fail
        go_ret
        exact ⟨retB HF.out.symm, hb⟩
      · have HF := Lib.hid (show trigB s t = exprB t.wher (2 * (s[m].cols.length : Int)) by rw [HB3.out, decide_eq_false hwl]; rfl)
        have zw : ((t.wher.length : Int) == 0) = false := beq_eq_false_iff_ne.2 (by omega)
        go_wp2_with fail
        refine (specL2ExprE A2 t.wher.length c2 t.wher (2 * (s[m].cols.length : Int)) wr (Sl.cellz (fun _ => rfl) (HH2.out.below TkR.stays hb)) (by unfold maxLen; omega) (by omega) (by omega)).mono ?_
        rintro e w3 ⟨rfl, hq3⟩
        rw [← HF.out]
        go_wp2_with fail
        go_ret
        exact ⟨rfl, hb.trans (hq3.mono hb.size)⟩
end Go.Proofs.YtbdbealabffccaaGreat
