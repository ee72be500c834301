/-
  Lists of columns: which are right, in the model (by a search) and in the program (by a map).
-/
import Derived.Test.YtakhcgkhjmfndaaGreatNames
import Derived.IntWalk
namespace Go.Proofs.YtakhcgkhjmfndaaGreat
open Go.RowKit Go.Maps
set_option linter.unusedVariables false

theorem Sl.take {α : Type} {R : Rd α} {sz : Nat} {ok : Nat → Prop} {w : World} {A : Option Addr} {n m : Nat} {ds : List α} (h : Sl R sz ok w A n ds) (hm : m ≤ n) : Sl R sz ok w A m (ds.take m) := by
  have hl := h.1
  refine ⟨by simp; omega, fun h0 => ?_⟩
  obtain ⟨b, off, e, hb, hi⟩ := h.2 (by omega)
  refine ⟨b, off, e, hb, fun i hlt => ?_⟩
  simp only [List.length_take] at hlt
  obtain ⟨cs, h1, h2, h3⟩ := hi i (by omega)
  exact ⟨cs, h1, by rw [List.getElem_take]; exact h2, h3⟩

theorem contains_take (l : List Int) (x : Int) (k : Nat) (h : k < l.length) : hasB (l.take (k + 1)) x = (hasB (l.take k) x || l[k] == x) := by
  unfold hasB
  rw [List.take_succ_eq_append_getElem h, List.contains_eq_any_beq, List.any_append, List.contains_eq_any_beq]
  simp [Bool.beq_comm]

theorem specHas (A : Option Addr) (n c : Nat) (l : List Int) (x : Int) (ok : Nat → Prop) (w : World) (h : Sl IntR 1 ok w A n l) (hn : n ≤ 1048576) :
    Calls Tryz.prog 58 #[.slice A n c, .int .i64 x] w fun e w' => e = .returned (.bool (hasB l x)) ∧ w = w' := by
  obtain rfl : l.length = n := h.1
  go_enter Tryz.func58, Tryz.ntmps58
  go_wp2
  go_loop [5] (fun i => ∃ k : Nat, k ≤ l.length ∧ i = .int .i64 k ∧ Hid (hasB (l.take k) x = false)) (fun i => l.length - (intOf i).toNat)
  case atStart => exact ⟨0, by omega, rfl, Lib.hid rfl⟩
  case round =>
    obtain ⟨k, hk, rfl, hno⟩ := hrel
    by_cases hlt : k < l.length
    · obtain ⟨b, off, -, rfl, q0⟩ := IntR.at_ h hlt
      have hs := contains_take l x k hlt
      rw [hno.out, Bool.false_or] at hs
      have i0 : (0 : Int) ≤ k := by omega
      have i1 : (k : Int) < l.length := by omega
      cases he : (l[k] == x)
      · have HA := Lib.hid (hs.trans he)
        clear hs
        go_wp2
        go_round
        case rel => exact ⟨k + 1, by omega, by go_num, HA⟩
        case measure => simp [intOf]; omega
      · have HA := Lib.hid (show hasB l x = true by
          have e : l[k] = x := by simpa using he
          unfold hasB; rw [List.contains_iff_mem]; exact e ▸ List.getElem_mem hlt)
        clear hs
        go_wp2
        go_ret
        exact ⟨retB HA.out.symm, rfl⟩
    · have e : l.take k = l := List.take_of_length_le (by omega)
      have h1 := hno.out
      rw [e] at h1
      have HA := Lib.hid h1
      clear h1 e hno
      go_wp2
      go_ret
      exact ⟨retB HA.out.symm, rfl⟩

theorem Sl.drewN {α : Type} {R : Rd α} (hR : Stays R) {sz : Nat} {ok : Nat → Prop} {w : World} {A : Option Addr} {n : Nat} {ds : List α} (h : Sl R sz ok w A n ds) (m : Nat) : Sl R sz ok (w.drewN m) A n ds := h.stays hR (fun _ h => h) fun _ _ _ h => h
theorem below_drewN {B : Nat} {w w' : World} (h : Below B w w') (m : Nat) : Below B w (w'.drewN m) := ⟨h.os, h.tape, h.output, h.size, h.block⟩
theorem specInV {n lo hi : Int} {b : Bool} (h : (decide (lo ≤ n) && decide (n ≤ hi)) = b) (w : World) :
    Calls Tryz.prog 44 #[.int .i64 n, .int .i64 lo, .int .i64 hi] w fun e w' => e = .returned (.bool b) ∧ w' = w := (specIn n lo hi w).mono fun _ _ ⟨h1, h2⟩ => ⟨by rw [h1, h], h2.symm⟩
theorem specHasV {A : Option Addr} {n c : Nat} {l : List Int} {x : Int} {b : Bool} (hb : hasB l x = b) {ok : Nat → Prop} (w : World) (h : Sl IntR 1 ok w A n l) (hn : n ≤ 1048576) :
    Calls Tryz.prog 58 #[.slice A n c, .int .i64 x] w fun e w' => e = .returned (.bool b) ∧ w' = w := (specHas A n c l x ok w h hn).mono fun _ _ ⟨h1, h2⟩ => ⟨by rw [h1, hb], h2.symm⟩

set_option maxRecDepth 100000 in
set_option maxHeartbeats 1000000 in
theorem specCols (A : Option Addr) (n c : Nat) (l : List Int) (nc : Int) (ok : Nat → Prop) (w : World) (h : Sl IntR 1 ok w A n l) (hc : n ≤ c) (hn : n ≤ 1048576) (h0 : 0 ≤ nc) (h1 : nc ≤ 1048576) :
    Calls Tryz.prog 45 #[.slice A n c, .int .i64 nc] w fun e w' => e = .returned (.bool (colsInB l nc)) ∧ Below w.heap.size w w' := by
  obtain rfl : l.length = n := h.1
  have i2 : IntKind.i64.wrap (nc - 1) = nc - 1 := IntWalk.i64_in _ (by omega)
  go_enter Tryz.func45, Tryz.ntmps45
  go_wp2
  go_loopw [5] (fun i wr => ∃ k : Nat, k ≤ l.length ∧ i = .int .i64 k ∧ Hid (colsGo nc [] l = colsGo nc (l.take k) (l.drop k)) ∧ Below w.heap.size w wr) (fun i _ => l.length - (intOf i).toNat)
  case atStart => exact ⟨0, by omega, rfl, Lib.hid (by simp), Below.refl _ _⟩
  case round =>
    obtain ⟨k, hk, rfl, hgo, hb⟩ := hrel
    by_cases hlt : k < l.length
    · have hw := h.below IntR.stays hb
      obtain ⟨b, off, -, rfl, q0⟩ := IntR.at_ hw hlt
      have ht := hw.take (m := k) (by omega)
      have hs := colsGo_at nc l k hlt
      have i0 : (0 : Int) ≤ k := by omega
      have i1 : (k : Int) < l.length := by omega
      have i3 : (k : Int) ≤ c := by omega
      cases hin : (decide (0 ≤ l[k]) && decide (l[k] ≤ nc - 1))
      · have HI := Lib.hid hin
        have HF := Lib.hid (show colsInB l nc = false by
          unfold colsInB
          rw [hgo.out, hs, show (decide (0 ≤ l[k]) && decide (l[k] < nc)) = false by
            rw [← hin]; congr 1; rw [decide_eq_decide]; omega]
          simp)
        clear hs hin
        go_wp2_with fail
        go_quiet ((go_at_call 44; exact Calls.quiet_of_same (specInV HI.out _)))
        go_wp2
        go_ret
        exact ⟨retB HF.out.symm, below_drewN hb _⟩
      · have HI := Lib.hid hin
        have hin2 : (decide (0 ≤ l[k]) && decide (l[k] < nc)) = true := by
          rw [← hin]; congr 1; rw [decide_eq_decide]; omega
        rw [hin2, Bool.true_and] at hs
        cases hhas : hasB (l.take k) l[k]
        · rw [hhas] at hs
          have HH := Lib.hid hhas
          have HG := Lib.hid (hgo.out.trans hs)
          clear hs hin hhas hgo hin2
          go_wp2_with fail
          go_quiet ((first | (go_at_call 44; exact Calls.quiet_of_same (specInV HI.out _)) | (go_at_call 58; exact Calls.quiet_of_same (specHasV HH.out _ (ht.drewN IntR.stays _) (by omega)))))
          go_wp2
          go_roundw
          case rel => exact ⟨k + 1, by omega, by go_num, Lib.hid (by simpa using HG.out), below_drewN hb _⟩
          case measure => simp [intOf]; omega
        · rw [hhas] at hs
          have HH := Lib.hid hhas
          have HF := Lib.hid (show colsInB l nc = false by unfold colsInB; rw [hgo.out, hs]; simp)
          clear hs hin hhas hgo hin2
          go_wp2_with fail
          go_quiet ((first | (go_at_call 44; exact Calls.quiet_of_same (specInV HI.out _)) | (go_at_call 58; exact Calls.quiet_of_same (specHasV HH.out _ (ht.drewN IntR.stays _) (by omega)))))
          go_wp2
          go_ret
          exact ⟨retB HF.out.symm, below_drewN hb _⟩
    · have e1 : l.take k = l := List.take_of_length_le (by omega)
      have e2 : l.drop k = [] := List.drop_eq_nil_of_le (by omega)
      have hg := hgo.out
      rw [e1, e2] at hg
      have HA := Lib.hid (show colsInB l nc = decide (0 < l.length) by
        unfold colsInB; rw [hg]; simp [colsGo])
      clear hg e1 e2 hgo
      go_wp2
      go_ret
      exact ⟨retB HA.out.symm, hb⟩

/-- Block b is a map that says which numbers have been met. -/
def MetIn (w : World) (b n : Nat) (l : List Int) : Prop := ∃ D : DataW Unit, w.ownsMap Tryz.prog 2 (plainElem Tryz.prog 4) b n D ∧ IsMap D ∧ ∀ x : Int, D.atKey (.int .i64 x) (.lit (.bool false)) = .lit (.bool (hasB l x))
theorem MetIn.made (w : World) : MetIn (w.alloc (.map #[] 0)) w.heap.size 0 [] := ⟨.map [], World.ownsMap_made _ _ _ _, isMap_empty, fun x => by simp [DataW.atKey, hasB]⟩
theorem lawI : Keyed Tryz.prog 2 := int_keyed Tryz.underlying2
theorem zeroB' (w : World) : (zeroValue 4).run Tryz.prog w = .ok (.bool false) w := by kernel_rfl
theorem plainElem_bool_inv {P : Program} {e : TypeId} (he : P.underlying e = some .bool) {v : Value} {z : DataW Unit × List MemPlace} (h : plainElem P e v = some z) : ∃ x, v = .bool x ∧ z = (.lit (.bool x), []) := by
  unfold plainElem at h
  rw [he] at h
  cases v <;> simp at h
  exact ⟨_, rfl, h.symm⟩
theorem MetIn.look {w : World} {b n : Nat} {l : List Int} (h : MetIn w b n l) {x : Int} (hw : (Lit.int .i64 x).wf = true) : (Instr.lookup 115 (.map (some b)) (.int .i64 x) false).run Tryz.prog w = .ok (.bool (hasB l x)) w := by
  obtain ⟨D, h1, h2, h3⟩ := h
  obtain ⟨v, ps, hrun, hv⟩ := h1.lookup lawI Tryz.underlying115 (zeroB' w) (plainElem_bool Tryz.underlying4 false) (keyOf_int_mk Tryz.underlying2 hw)
  obtain ⟨y, rfl, hy⟩ := plainElem_bool_inv Tryz.underlying4 hv
  simp only [Prod.mk.injEq] at hy
  rw [h3 x] at hy
  have : hasB l x = y := by simpa using hy.1
  rw [this]; exact hrun

theorem implIsPlace (p nc : Int) (w : World) : Calls Tryz.prog 66 #[.int .i64 p, .int .i64 nc] w fun e w' => e = .returned (.bool (decide (0 ≤ p) && decide (p < nc))) ∧ w = w' := by
  by_cases h : 0 ≤ p
  · go_enter Tryz.func66, Tryz.ntmps66
    go_wp2
    go_ret
    exact ⟨retB (by simp [h]), rfl⟩
  · have h' : decide (0 ≤ p) = false := by simpa using h
    go_enter Tryz.func66, Tryz.ntmps66
    go_wp2
    go_ret
    exact ⟨retB (by simp), rfl⟩
theorem IsMap.key_int (x : Int) : WideAt.IsKeyLit (.int .i64 x) := by first | trivial | (simp [WideAt.IsKeyLit]) | (unfold WideAt.IsKeyLit; trivial)

set_option maxRecDepth 100000 in
set_option maxHeartbeats 1000000 in
theorem implAreColumns (A : Option Addr) (n c : Nat) (l : List Int) (nc : Nat) (ok : Nat → Prop) (w : World) (h : Sl IntR 1 ok w A n l) (hn : n ≤ 1048576) (h1 : nc ≤ 1048576) :
    Calls Tryz.prog 55 #[.slice A n c, .int .i64 nc] w fun e w' => e = .returned (.bool (colsInB l nc)) ∧ Below w.heap.size w w' := by
  obtain rfl : l.length = n := h.1
  by_cases hsm : (l.length : Int) < 1
  · have HF := Lib.hid (show colsInB l nc = false by unfold colsInB; rw [decide_eq_false (p := 0 < l.length) (by omega), Bool.and_false])
    go_enter Tryz.func55, Tryz.ntmps55
    go_wp2
    go_ret
    exact ⟨retB HF.out.symm, Below.refl _ _⟩
  have hsm' : decide ((l.length : Int) < 1) = false := by simpa using hsm
  by_cases hbig : nc < l.length
  · have HF := Lib.hid (show colsInB l nc = false by
      rw [Bool.eq_false_iff]; intro e
      have := (colsInB_len e).1; omega)
    have hbig' : decide ((nc : Int) < (l.length : Int)) = true := by simpa using hbig
    have hbig2 : decide (nc < l.length) = true := by simpa using hbig
    go_enter Tryz.func55, Tryz.ntmps55
    go_wp2
    go_ret
    exact ⟨retB HF.out.symm, Below.refl _ _⟩
  have hbig' : decide ((nc : Int) < (l.length : Int)) = false := by simpa using hbig
  have hbig2 : decide (nc < l.length) = false := by simpa using hbig
  have hmm := @run_makeMap Tryz.prog
  go_enter Tryz.func55, Tryz.ntmps55
  go_wp2
  have hm0 := MetIn.made w
  have hb0 := (Below.refl w.heap.size w).alloc (Nat.le_refl _) (.map #[] 0)
  generalize w.alloc (.map #[] 0) = x0 at *
  clear hmm
  go_loopw [20] (fun i wr => ∃ k : Nat, k ≤ l.length ∧ i = .int .i64 k ∧ MetIn wr w.heap.size k (l.take k) ∧ Hid (colsGo nc [] l = colsGo nc (l.take k) (l.drop k)) ∧ Below w.heap.size w wr) (fun i _ => l.length - (intOf i).toNat)
  case atStart => exact ⟨0, by omega, rfl, hm0, Lib.hid (by simp), hb0⟩
  case round =>
    obtain ⟨k, hk, rfl, hmet, hgo, hb⟩ := hrel
    by_cases hlt : k < l.length
    · obtain ⟨b, off, -, rfl, q0⟩ := IntR.at_ (h.below IntR.stays hb) hlt
      have hs := colsGo_at nc l k hlt
      have i0 : (0 : Int) ≤ k := by omega
      have i1 : (k : Int) < l.length := by omega
      cases hin : (decide (0 ≤ l[k]) && decide (l[k] < nc))
      · have HI := Lib.hid hin
        have HF := Lib.hid (show colsInB l nc = false by unfold colsInB; rw [hgo.out, hs, hin]; simp)
        clear hs hin
        go_wp2_with fail
        refine (implIsPlace _ _ _).mono ?_
        rintro e w1 ⟨rfl, rfl⟩
        rw [HI.out]
        go_wp2
        go_ret
        exact ⟨retB HF.out.symm, hb⟩
      · have HI := Lib.hid hin
        have hwf : (Lit.int .i64 l[k]).wf = true := WalkArith.wf_i64 (by rw [Bool.and_eq_true, decide_eq_true_eq, decide_eq_true_eq] at hin; omega)
        have hlk := hmet.look hwf
        rw [hin, Bool.true_and] at hs
        cases hhas : hasB (l.take k) l[k]
        · rw [hhas] at hs hlk
          have HG := Lib.hid (hgo.out.trans hs)
          have HH := Lib.hid hhas
          obtain ⟨D, m1, m2, m3⟩ := hmet
          have M3 := Lib.hid m3
          have hval := plainElem_bool (H := Unit) Tryz.underlying4 true
          clear hs hin hhas hgo m3
          go_wp2_with fail
          refine (implIsPlace _ _ _).mono ?_
          rintro e w1 ⟨rfl, rfl⟩
          rw [HI.out]
          go_wp2_with (first
            | (at_mapUpdate; refine wpList_mapUpdate_own _ rfl _ _ _ 115 rfl 2 4 lawI Tryz.underlying115 _ w.heap.size k D rfl m1 (by unfold maxLen; omega) _ _ _ rfl rfl (keyOf_int_mk Tryz.underlying2 hwf) _ [] hval ?_; intro w1 hown1 hgrow1))
          go_roundw
          case rel =>
            refine ⟨k + 1, by omega, by go_num, ⟨_, hown1, m2.put _ _, fun x => ?_⟩, Lib.hid (by simpa using HG.out), hb.grown hgrow1 hb.size (fun j hj => by cases hj; exact Nat.le_refl _)⟩
            rw [contains_take l x k hlt]
            by_cases e : (Lit.int .i64 x) = .int .i64 l[k]
            · have e2 : x = l[k] := by injection e
              rw [e, Maps.atKey_put_same m2 (IsMap.key_int _), e2]
              simp
            · rw [Maps.atKey_put_other e, M3.out x]
              have e2 : (l[k] == x) = false := by
                rw [beq_eq_false_iff_ne]; intro h; exact e (by rw [h])
              rw [e2, Bool.or_false]
          case measure => simp [intOf]; omega
        · rw [hhas] at hs hlk
          have HF := Lib.hid (show colsInB l nc = false by unfold colsInB; rw [hgo.out, hs]; simp)
          clear hs hin hhas hgo
          go_wp2_with fail
          refine (implIsPlace _ _ _).mono ?_
          rintro e w1 ⟨rfl, rfl⟩
          rw [HI.out]
          go_wp2
          go_ret
          exact ⟨retB HF.out.symm, hb⟩
    · have e1 : l.take k = l := List.take_of_length_le (by omega)
      have e2 : l.drop k = [] := List.drop_eq_nil_of_le (by omega)
      have hg := hgo.out
      rw [e1, e2] at hg
      have HA := Lib.hid (show colsInB l nc = true by unfold colsInB; rw [hg, decide_eq_true (by omega)]; rfl)
      clear hg e1 e2 hgo
      go_wp2
      go_ret
      exact ⟨retB HA.out.symm, hb⟩
end Go.Proofs.YtakhcgkhjmfndaaGreat
