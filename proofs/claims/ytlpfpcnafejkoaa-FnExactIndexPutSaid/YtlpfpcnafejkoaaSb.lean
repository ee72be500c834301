/-
  Several texts in one: what the proof leans on, part 2.
-/
import Derived.Test.YtlpfpcnafejkoaaSa
import Derived.Deep.QuietTactic
import Derived.BigQuiet
import Derived.Deep.RegionLaw
import Derived.Lib.Overlaps
import Derived.Lib.AppendZeros
import Derived.Lib.AppendZerosOnto
import Derived.Shelf.Spec.SlicesInsert
import Derived.Deep.Cut
import Derived.Shelf.RegionOpenPlain
import Derived.Lib.SliceRun
import Derived.Lib.SmallJoins
import Derived.Deep.RegionWith
set_option linter.unusedVariables false
set_option linter.unusedSimpArgs false
namespace Go.Proofs.Ytlpfpcnafejkoaa
open Go.RowKit Go.Maps
def ordY (x y : Vl) : Int := ordV x.k x.n x.s y.k y.n y.s
def ltL : List Vl → List Vl → Option Bool
  | x :: a, y :: b => if ordY x y = 0 then ltL a b else some (decide (ordY x y < 0))
  | _, _ => none
def lessE (a b : En) : Bool := (ltL a.key b.key).getD (decide (a.id < b.id))
theorem ltL_at {a b : List Vl} {k : Nat} (h : k < a.length) (h' : k < b.length) : ltL (a.drop k) (b.drop k) = if ordY a[k] b[k] = 0 then ltL (a.drop (k + 1)) (b.drop (k + 1)) else some (decide (ordY a[k] b[k] < 0)) := by
  rw [List.drop_eq_getElem_cons h, List.drop_eq_getElem_cons h']; rfl
theorem ltL_endA {a b : List Vl} {k : Nat} (h : a.length ≤ k) : ltL (a.drop k) (b.drop k) = none := by
  rw [List.drop_of_length_le h]; rfl
theorem ltL_endB {a b : List Vl} {k : Nat} (h : b.length ≤ k) : ltL (a.drop k) (b.drop k) = none := by
  rw [List.drop_of_length_le h]; cases a.drop k <;> rfl
theorem ordX_right {x y : Vl} (h : x.ok = true) (h' : y.ok = true) : ordX x y = ordY x y := by
  unfold ordX ordY ordOk
  have e1 : valOkB x.k x.n x.s = true := h
  have e2 : valOkB y.k y.n y.s = true := h'
  rw [e1, e2]; rfl
theorem ltL_right : ∀ {a b : List Vl}, (∀ x ∈ a, x.ok = true) → (∀ x ∈ b, x.ok = true) → a.length = b.length → ltL a b = if ordL a b = 0 then none else some (decide (ordL a b < 0))
  | [], [], _, _, _ => rfl
  | [], _ :: _, _, _, h => by simp at h
  | _ :: _, [], _, _, h => by simp at h
  | x :: a, y :: b, h1, h2, h3 => by
    have e := ordX_right (h1 x (by simp)) (h2 y (by simp))
    unfold ltL ordL
    rw [e]
    by_cases h0 : ordY x y = 0
    · rw [if_pos h0, if_pos h0]
      exact ltL_right (fun z hz => h1 z (by simp [hz])) (fun z hz => h2 z (by simp [hz])) (by simpa using h3)
    · rw [if_neg h0, if_neg h0, if_neg h0]
theorem rowB_all {l : List Vl} (h : rowB l = true) : ∀ x ∈ l, x.ok = true := by
  unfold rowB at h
  simp only [Bool.and_eq_true, List.all_eq_true] at h
  exact h.2
theorem entryB_row {e : En} (h : entryB e = true) : rowB e.key = true := by
  unfold entryB at h
  simp only [Bool.and_eq_true] at h
  exact h.2.1
theorem lessE_right {a b : En} (h : entryB a = true) (h' : entryB b = true) (hl : a.key.length = b.key.length) : lessE a b = decide (ordE a b < 0) := by
  unfold lessE ordE
  rw [ltL_right (rowB_all (entryB_row h)) (rowB_all (entryB_row h')) hl]
  by_cases h0 : ordL a.key b.key = 0
  · rw [if_pos h0, if_pos h0]
    rcases cmpI_cases a.id b.id with ⟨e, e'⟩ | ⟨e, e'⟩ | ⟨e, e'⟩ <;> simp [e] <;> omega
  · rw [if_neg h0, if_neg h0]; rfl
set_option maxRecDepth 100000 in
set_option maxHeartbeats 4000000 in
theorem specL11Less (x y : En) (A B : Option Addr) (n c m d : Nat) (ok ok' : Nat → Prop) (w : World) (ha : Sl VlR 3 ok w A n x.key) (hb : Sl VlR 3 ok' w B m y.key) (hn : n ≤ 1048576) (hm : m ≤ 1048576) :
    Calls Try.prog 50 #[.agg #[.slice A n c, .int .i64 x.id], .agg #[.slice B m d, .int .i64 y.id]] w fun e w' => e = .returned (.bool (lessE x y)) ∧ Below w.heap.size w w' := by
  obtain rfl : x.key.length = n := ha.1
  obtain rfl : y.key.length = m := hb.1
  have hb0 := chain2 w (.cells #[.slice A x.key.length c, .int .i64 x.id] 42) (.cells #[.slice B y.key.length d, .int .i64 y.id] 42)
  have hr := two_rows w 42 #[.slice A x.key.length c, .int .i64 x.id] #[.slice B y.key.length d, .int .i64 y.id]
  obtain ⟨r1, r2⟩ := hr
  go_enter Try.func50, Try.ntmps50
  go_wp2_with fail
  generalize (w.alloc (.cells #[.slice A x.key.length c, .int .i64 x.id] 42)).alloc (.cells #[.slice B y.key.length d, .int .i64 y.id] 42) = z0 at *
  go_loopw [5] (fun i wr => ∃ k : Nat, i = .int .i64 k ∧ Hid (k ≤ x.key.length ∧ k ≤ y.key.length) ∧ Hid (ltL (x.key.drop k) (y.key.drop k) = ltL x.key y.key) ∧ Row wr w.heap.size 42 #[.slice A x.key.length c, .int .i64 x.id] ∧ Row wr (w.heap.size + 1) 42 #[.slice B y.key.length d, .int .i64 y.id] ∧ Below w.heap.size w wr) (fun i _ => x.key.length - (intOf i).toNat)
  case atStart => exact ⟨0, rfl, Lib.hid (by omega), Lib.hid (by simp), r1, r2, hb0⟩
  case round =>
    clear hb0 r1 r2
    obtain ⟨k, rfl, hkk, hord, r1, r2, hbw⟩ := hrel
    obtain ⟨⟨k0, k1⟩, -⟩ := r1.all2
    obtain ⟨⟨g0, g1⟩, -⟩ := r2.all2
    have R1 := Lib.hid r1
    have R2 := Lib.hid r2
    clear r1 r2
    by_cases hlt : k < x.key.length
    case neg =>
      have z : decide (k < x.key.length) = false := decide_eq_false hlt
      have HF := Lib.hid (show lessE x y = decide (x.id < y.id) by unfold lessE; rw [← hord.out, ltL_endA (by omega)]; rfl)
      clear hord hkk
      go_wp2_with fail
      go_ret
      exact ⟨retB HF.out.symm, hbw⟩
    have z : decide (k < x.key.length) = true := decide_eq_true hlt
    by_cases hl2 : k < y.key.length
    case neg =>
      have z' : decide (k < y.key.length) = false := decide_eq_false hl2
      have HF := Lib.hid (show lessE x y = decide (x.id < y.id) by unfold lessE; rw [← hord.out, ltL_endB (by omega)]; rfl)
      clear hord hkk
      go_wp2_with fail
      go_ret
      exact ⟨retB HF.out.symm, hbw⟩
    have z' : decide (k < y.key.length) = true := decide_eq_true hl2
    obtain ⟨b1, o1, -, rfl, q0, q1, q2⟩ := VlR.at_ (ha.below VlR.stays hbw) hlt
    obtain ⟨b2, o2, -, rfl, p0, p1, p2⟩ := VlR.at_ (hb.below VlR.stays hbw) hl2
    have i0 : (0 : Int) ≤ k := by omega
    have i1 : (k : Int) < x.key.length := by omega
    have i2 : (k : Int) < y.key.length := by omega
    have HO := Lib.hid (hord.out.symm.trans (ltL_at hlt hl2))
    have HK := Lib.hid (show k + 1 ≤ x.key.length ∧ k + 1 ≤ y.key.length by omega)
    have hx : x.key.length - (k + 1) < x.key.length - k := by omega
    clear hord hkk
    go_wp2_with fail
    go_region_held3 (fun w' => w'.cell? ⟨w.heap.size, 0, none⟩ = some (.slice (some ⟨b1, o1, none⟩) x.key.length c) ∧ w'.cell? ⟨w.heap.size + 1, 0, none⟩ = some (.slice (some ⟨b2, o2, none⟩) y.key.length d) ∧ w'.cell? ⟨b1, o1 + k * 3, none⟩ = some (.int .i64 x.key[k].k) ∧ w'.cell? ⟨b1, o1 + k * 3 + 1, none⟩ = some (.int .i64 x.key[k].n) ∧ w'.cell? ⟨b1, o1 + k * 3 + 2, none⟩ = some (.string x.key[k].s) ∧ w'.cell? ⟨b2, o2 + k * 3, none⟩ = some (.int .i64 y.key[k].k) ∧ w'.cell? ⟨b2, o2 + k * 3 + 1, none⟩ = some (.int .i64 y.key[k].n) ∧ w'.cell? ⟨b2, o2 + k * 3 + 2, none⟩ = some (.string y.key[k].s))
      (first | go_keep | exact ⟨k0, g0, q0, q1, q2, p0, p1, p2⟩ | exact keepC8 (by assumption) hq3)
      (first | (go_at_call 62; refine (specL1Order x.key[k].k x.key[k].n x.key[k].s y.key[k].k y.key[k].n y.key[k].s _).mono ?_; rintro e w3 ⟨rfl, hq3⟩))
    have hz := hbw.drew.trans (hq3.mono hbw.drew.size)
    have R13 := Lib.hid (R1.out.drew.below hq3)
    have R23 := Lib.hid (R2.out.drew.below hq3)
    by_cases h0 : ordY x.key[k] y.key[k] = 0
    · have HA := Lib.hid (show ltL (x.key.drop (k + 1)) (y.key.drop (k + 1)) = ltL x.key y.key by rw [HO.out, if_pos h0])
      have z0 : (ordV x.key[k].k x.key[k].n x.key[k].s y.key[k].k y.key[k].n y.key[k].s != 0) = false := by have h1 : ordV x.key[k].k x.key[k].n x.key[k].s y.key[k].k y.key[k].n y.key[k].s = 0 := h0; simpa using h1
      clear h0
      go_wp2_with fail
      go_roundw
      case rel => exact ⟨k + 1, by go_num, HK, HA, R13.out, R23.out, hz⟩
      case measure => simp [intOf]; omega
    · have HA := Lib.hid (show lessE x y = decide (ordV x.key[k].k x.key[k].n x.key[k].s y.key[k].k y.key[k].n y.key[k].s < 0) by unfold lessE; rw [HO.out, if_neg h0]; rfl)
      have z0 : (ordV x.key[k].k x.key[k].n x.key[k].s y.key[k].k y.key[k].n y.key[k].s != 0) = true := by have h1 : ¬ ordV x.key[k].k x.key[k].n x.key[k].s y.key[k].k y.key[k].n y.key[k].s = 0 := h0; simpa using h1
      clear h0
      go_wp2_with fail
      go_ret
      exact ⟨retB HA.out.symm, hz⟩
set_option maxRecDepth 100000 in
set_option maxHeartbeats 8000000 in
theorem specL11Right (A : Option Addr) (n c : Nat) (l : List En) (ok : Nat → Prop) (w : World) (h : Sl EnR 2 ok w A n l) (hn : n ≤ 1048576) (hk : ∀ e ∈ l, e.key.length ≤ 1048576) :
    Calls Try.prog 34 #[.slice A n c] w fun e w' => e = .returned (.bool (entriesB l)) ∧ Below w.heap.size w w' := by
  obtain rfl : l.length = n := h.1
  have HK := Lib.hid hk
  clear hk
  go_enter Try.func34, Try.ntmps34
  go_wp2_with fail
  go_loopw [3] (fun i wr => ∃ k : Nat, k ≤ l.length ∧ i = .int .i64 k ∧ Hid ((l.take k).all (entW (wideOf l)) = true) ∧ Hid ((List.range (k - 1)).all (upB l) = true) ∧ Below w.heap.size w wr) (fun i _ => l.length - (intOf i).toNat)
  case atStart => exact ⟨0, by omega, rfl, Lib.hid (by simp), Lib.hid (by simp), Below.refl _ _⟩
  case round =>
    obtain ⟨k, hk, rfl, hall, hup, hb⟩ := hrel
    by_cases hlt : k < l.length
    case neg =>
      obtain rfl : k = l.length := by omega
      have ha := hall.out
      rw [List.take_of_length_le (Nat.le_refl _)] at ha
      have HF := Lib.hid (show entriesB l = decide (l.length ≤ 120) by unfold entriesB; rw [ha, rises_yes hup.out (by omega)]; simp)
      clear hall ha hup
      go_wp2_with fail
      go_ret
      exact ⟨retB (by rw [HF.out, decide_eq_decide]; omega), hb⟩
    have hsl := h.below EnR.stays hb
    obtain ⟨b1, o1, A1, n1, c1, -, rfl, q0, q1, s1, -⟩ := EnR.at_ hsl (i := k) hlt
    obtain ⟨b2, o2, A2, n2, c2, -, e2, r0, r1, s2, -⟩ := EnR.at_ hsl (i := 0) (by omega)
    obtain ⟨rfl, rfl⟩ : b1 = b2 ∧ o1 = o2 := by simpa using e2
    obtain rfl : l[k].key.length = n1 := s1.1
    obtain rfl : l[0].key.length = n2 := s2.1
    rw [Nat.zero_mul, Nat.add_zero] at r0 r1
    have i0 : (0 : Int) ≤ k := by omega
    have i1 : (k : Int) < l.length := by omega
    have i2 : (0 : Int) < l.length := by omega
    have i3 : 0 < l.length := by omega
    have z : decide (k < l.length) = true := decide_eq_true hlt
    have HX := Lib.hid (specVals A1 l[k].key.length c1 l[k].key wr.drew (Sl.cellz (fun _ => rfl) (Sl.below VlR.stays s1 (Below.refl _ _).drew)) (by have := HK.out _ (List.getElem_mem hlt); unfold maxLen; omega))
    have HNO := Lib.hid (show entW (wideOf l) l[k] = false → entriesB l = false from fun hf => entriesB_no hlt hf)
    have HW := Lib.hid (wideOf_at i3)
    have HST := Lib.hid (all_take_succE (entW (wideOf l)) l k hlt)
    have D0 : wr.drew.cell? ⟨b1, o1 + k * 2, none⟩ = some (.slice A1 l[k].key.length c1) := q0
    have D1 : wr.drew.cell? ⟨b1, o1 + k * 2 + 1, none⟩ = some (.int .i64 l[k].id) := q1
    have D2 : wr.drew.cell? ⟨b1, o1, none⟩ = some (.slice A2 l[0].key.length c2) := r0
    have D := Lib.hid (And.intro D0 (And.intro D1 D2))
    have hbd := hb.drew
    clear e2 s2 r0 r1 q0 q1 D0 D1 D2
    have HS1 := Lib.hid s1
    have HSL := Lib.hid hsl
    clear s1 hsl
    cases hr : rowB l[k].key
    · have HR := Lib.hid hr
      have HF := Lib.hid (HNO.out (by unfold entW entryB; rw [hr]; simp))
      clear hr
      go_wp2_with fail
      refine wp_region_noPanic ?_
      refine wp_region_held_drew (S := fun w' => w'.cell? ⟨b1, o1 + k * 2, none⟩ = some (.slice A1 l[k].key.length c1) ∧ w'.cell? ⟨b1, o1 + k * 2 + 1, none⟩ = some (.int .i64 l[k].id) ∧ w'.cell? ⟨b1, o1, none⟩ = some (.slice A2 l[0].key.length c2)) (by kernel_rfl) D.out (fun hHeld => ?_)
      refine wpAnyH_take (i := 0) (v := ?v1) rfl (by kernel_rfl) (by kernel_rfl) (by kernel_rfl) (fun _ _ _ h => h) (Or.inl ⟨by rfl, ?hy1⟩) hHeld ?rest1
      case hy1 => (intro w' hSw; (try dsimp only at hSw); first | (go_simp; done) | (go_simp; with_reducible rfl))
      simp only [Act.put, pz0, pz1, pz2, pz3, pz4, pz5]
      refine wpAnyH_take (i := 1) (v := ?v2) rfl (by kernel_rfl) (by kernel_rfl) (by kernel_rfl) (fun _ _ _ h => h) (Or.inl ⟨by rfl, ?hy2⟩) hHeld ?rest2
      case hy2 => (intro w' hSw; (try dsimp only at hSw); first | (go_simp; done) | (go_simp; with_reducible rfl))
      simp only [Act.put, pz0, pz1, pz2, pz3, pz4, pz5]
      refine wpAnyH_take (i := 2) (v := ?v3) rfl (by kernel_rfl) (by kernel_rfl) (by kernel_rfl) (fun _ _ _ h => h) (Or.inl ⟨by rfl, ?hy3⟩) hHeld ?rest3
      case hy3 => (intro w' hSw; (try dsimp only at hSw); first | (go_simp; done) | (go_simp; with_reducible rfl))
      simp only [Act.put, pz0, pz1, pz2, pz3, pz4, pz5]
      refine wpAnyH_take (i := 3) (v := ?v4) rfl (by kernel_rfl) (by kernel_rfl) (by kernel_rfl) (fun _ _ _ h => h) (Or.inl ⟨by rfl, ?hy4⟩) hHeld ?rest4
      case hy4 => (intro w' hSw; (try dsimp only at hSw); first | (go_simp; done) | (go_simp; with_reducible rfl))
      simp only [Act.put, pz0, pz1, pz2, pz3, pz4, pz5]
      refine wpAnyH_take (i := 4) (v := ?v5) rfl (by kernel_rfl) (by kernel_rfl) (by kernel_rfl) (fun _ _ _ h => h) (Or.inl ⟨by rfl, ?hy5⟩) hHeld ?rest5
      case hy5 => (intro w' hSw; (try dsimp only at hSw); first | (go_simp; done) | (go_simp; with_reducible rfl))
      simp only [Act.put, pz0, pz1, pz2, pz3, pz4, pz5]
      refine wpAnyH_ready (rs := [5]) (by kernel_rfl) (by simp) ?_
      refine AllReadyH.cons rfl (fun K hK => ?_) AllReadyH.nil
      go_simp
      refine HX.out.mono ?_
      rintro e w9 ⟨rfl, hb9⟩
      rw [HR.out]
      go_wp2_with fail
      refine hK.out _ _ (keepC3 hHeld hb9) (fun hHeld => ?_)
      clear hK K
      (try simp only [Act.put, pz0, pz1, pz2, pz3, pz4, pz5])
      refine wpAnyH_take (i := 6) (v := ?v6) rfl (by kernel_rfl) (by kernel_rfl) (by kernel_rfl) (fun _ _ _ h => h) (Or.inl ⟨by rfl, ?hy6⟩) hHeld ?rest6
      case hy6 => (intro w' hSw; (try dsimp only at hSw); first | (go_simp; done) | (go_simp; with_reducible rfl))
      simp only [Act.put, pz0, pz1, pz2, pz3, pz4, pz5]
      refine wpAnyH_take (i := 7) (v := ?v7) rfl (by kernel_rfl) (by kernel_rfl) (by kernel_rfl) (fun _ _ _ h => h) (Or.inl ⟨by rfl, ?hy7⟩) hHeld ?rest7
      case hy7 => (intro w' hSw; (try dsimp only at hSw); first | (go_simp; done) | (go_simp; with_reducible rfl))
      simp only [Act.put, pz0, pz1, pz2, pz3, pz4, pz5]
      refine wpAnyH_take (i := 8) (v := undef) rfl (by kernel_rfl) (by kernel_rfl) (by kernel_rfl) (fun _ _ _ h => h) (Or.inr ⟨by rfl, rfl⟩) hHeld ?_
      simp only [Act.put, pz0, pz1, pz2, pz3, pz4, pz5]
      refine wpAnyH_take (i := 9) (v := undef) rfl (by kernel_rfl) (by kernel_rfl) (by kernel_rfl) (fun _ _ _ h => h) (Or.inr ⟨by rfl, rfl⟩) hHeld ?_
      simp only [Act.put, pz0, pz1, pz2, pz3, pz4, pz5]
      refine wpAnyH_take (i := 10) (v := undef) rfl (by kernel_rfl) (by kernel_rfl) (by kernel_rfl) (fun _ _ _ h => h) (Or.inr ⟨by rfl, rfl⟩) hHeld ?_
      simp only [Act.put, pz0, pz1, pz2, pz3, pz4, pz5]
      refine wpAnyH_take (i := 11) (v := undef) rfl (by kernel_rfl) (by kernel_rfl) (by kernel_rfl) (fun _ _ _ h => h) (Or.inr ⟨by rfl, rfl⟩) hHeld ?_
      simp only [Act.put, pz0, pz1, pz2, pz3, pz4, pz5]
      refine wpAnyH_take (i := 12) (v := undef) rfl (by kernel_rfl) (by kernel_rfl) (by kernel_rfl) (fun _ _ _ h => h) (Or.inr ⟨by rfl, rfl⟩) hHeld ?_
      simp only [Act.put, pz0, pz1, pz2, pz3, pz4, pz5]
      refine wpAnyH_take (i := 13) (v := undef) rfl (by kernel_rfl) (by kernel_rfl) (by kernel_rfl) (fun _ _ _ h => h) (Or.inr ⟨by rfl, rfl⟩) hHeld ?_
      simp only [Act.put, pz0, pz1, pz2, pz3, pz4, pz5]
      refine wpAnyH_take (i := 14) (v := undef) rfl (by kernel_rfl) (by kernel_rfl) (by kernel_rfl) (fun _ _ _ h => h) (Or.inr ⟨by rfl, rfl⟩) hHeld ?_
      simp only [Act.put, pz0, pz1, pz2, pz3, pz4, pz5]
      refine wpAnyH_take (i := 15) (v := ?v8) rfl (by kernel_rfl) (by kernel_rfl) (by kernel_rfl) (fun _ _ _ h => h) (Or.inl ⟨by rfl, ?hy8⟩) hHeld ?rest8
      case hy8 => (intro w' hSw; (try dsimp only at hSw); first | (go_simp; done) | (go_simp; with_reducible rfl))
      simp only [Act.put, pz0, pz1, pz2, pz3, pz4, pz5]
      refine wpAnyH_take (i := 16) (v := ?v9) rfl (by kernel_rfl) (by kernel_rfl) (by kernel_rfl) (fun _ _ _ h => h) (Or.inl ⟨by rfl, ?hy9⟩) hHeld ?rest9
      case hy9 => (intro w' hSw; (try dsimp only at hSw); first | (go_simp; done) | (go_simp; with_reducible rfl))
      simp only [Act.put, pz0, pz1, pz2, pz3, pz4, pz5]
      refine wpAnyH_take (i := 17) (v := undef) rfl (by kernel_rfl) (by kernel_rfl) (by kernel_rfl) (fun _ _ _ h => h) (Or.inr ⟨by rfl, rfl⟩) hHeld ?_
      simp only [Act.put, pz0, pz1, pz2, pz3, pz4, pz5]
      refine wpAnyH_take (i := 18) (v := undef) rfl (by kernel_rfl) (by kernel_rfl) (by kernel_rfl) (fun _ _ _ h => h) (Or.inr ⟨by rfl, rfl⟩) hHeld ?_
      simp only [Act.put, pz0, pz1, pz2, pz3, pz4, pz5]
      refine wpAnyH_take (i := 19) (v := undef) rfl (by kernel_rfl) (by kernel_rfl) (by kernel_rfl) (fun _ _ _ h => h) (Or.inr ⟨by rfl, rfl⟩) hHeld ?_
      simp only [Act.put, pz0, pz1, pz2, pz3, pz4, pz5]
      refine wpAnyH_take (i := 20) (v := undef) rfl (by kernel_rfl) (by kernel_rfl) (by kernel_rfl) (fun _ _ _ h => h) (Or.inr ⟨by rfl, rfl⟩) hHeld ?_
      simp only [Act.put, pz0, pz1, pz2, pz3, pz4, pz5]
      refine wpAnyH_take (i := 21) (v := undef) rfl (by kernel_rfl) (by kernel_rfl) (by kernel_rfl) (fun _ _ _ h => h) (Or.inr ⟨by rfl, rfl⟩) hHeld ?_
      simp only [Act.put, pz0, pz1, pz2, pz3, pz4, pz5]
      refine wpAnyH_take (i := 22) (v := undef) rfl (by kernel_rfl) (by kernel_rfl) (by kernel_rfl) (fun _ _ _ h => h) (Or.inr ⟨by rfl, rfl⟩) hHeld ?_
      simp only [Act.put, pz0, pz1, pz2, pz3, pz4, pz5]
      refine wpAnyH_take (i := 23) (v := undef) rfl (by kernel_rfl) (by kernel_rfl) (by kernel_rfl) (fun _ _ _ h => h) (Or.inr ⟨by rfl, rfl⟩) hHeld ?_
      simp only [Act.put, pz0, pz1, pz2, pz3, pz4, pz5]
      refine wpAnyH_take (i := 24) (v := undef) rfl (by kernel_rfl) (by kernel_rfl) (by kernel_rfl) (fun _ _ _ h => h) (Or.inr ⟨by rfl, rfl⟩) hHeld ?_
      simp only [Act.put, pz0, pz1, pz2, pz3, pz4, pz5]
      refine wpAnyH_take (i := 25) (v := undef) rfl (by kernel_rfl) (by kernel_rfl) (by kernel_rfl) (fun _ _ _ h => h) (Or.inr ⟨by rfl, rfl⟩) hHeld ?_
      simp only [Act.put, pz0, pz1, pz2, pz3, pz4, pz5]
      refine wpAnyH_take (i := 26) (v := undef) rfl (by kernel_rfl) (by kernel_rfl) (by kernel_rfl) (fun _ _ _ h => h) (Or.inr ⟨by rfl, rfl⟩) hHeld ?_
      simp only [Act.put, pz0, pz1, pz2, pz3, pz4, pz5]
      refine wpAnyH_take (i := 27) (v := undef) rfl (by kernel_rfl) (by kernel_rfl) (by kernel_rfl) (fun _ _ _ h => h) (Or.inr ⟨by rfl, rfl⟩) hHeld ?_
      simp only [Act.put, pz0, pz1, pz2, pz3, pz4, pz5]
      refine wpAnyH_take (i := 28) (v := undef) rfl (by kernel_rfl) (by kernel_rfl) (by kernel_rfl) (fun _ _ _ h => h) (Or.inr ⟨by rfl, rfl⟩) hHeld ?_
      simp only [Act.put, pz0, pz1, pz2, pz3, pz4, pz5]
      refine wpAnyH_take (i := 29) (v := ?v10) rfl (by kernel_rfl) (by kernel_rfl) (by kernel_rfl) (fun _ _ _ h => h) (Or.inl ⟨by rfl, ?hy10⟩) hHeld ?rest10
      case hy10 => (intro w' hSw; (try dsimp only at hSw); first | (go_simp; done) | (go_simp; with_reducible rfl))
      simp only [Act.put, pz0, pz1, pz2, pz3, pz4, pz5]
      refine wpAnyH_take (i := 30) (v := ?v11) rfl (by kernel_rfl) (by kernel_rfl) (by kernel_rfl) (fun _ _ _ h => h) (Or.inl ⟨by rfl, ?hy11⟩) hHeld ?rest11
      case hy11 => (intro w' hSw; (try dsimp only at hSw); first | (go_simp; done) | (go_simp; with_reducible rfl))
      simp only [Act.put, pz0, pz1, pz2, pz3, pz4, pz5]
      refine wpAnyH_take (i := 31) (v := undef) rfl (by kernel_rfl) (by kernel_rfl) (by kernel_rfl) (fun _ _ _ h => h) (Or.inr ⟨by rfl, rfl⟩) hHeld ?_
      simp only [Act.put, pz0, pz1, pz2, pz3, pz4, pz5]
      refine wpAnyH_take (i := 32) (v := undef) rfl (by kernel_rfl) (by kernel_rfl) (by kernel_rfl) (fun _ _ _ h => h) (Or.inr ⟨by rfl, rfl⟩) hHeld ?_
      simp only [Act.put, pz0, pz1, pz2, pz3, pz4, pz5]
      refine wpAnyH_take (i := 33) (v := undef) rfl (by kernel_rfl) (by kernel_rfl) (by kernel_rfl) (fun _ _ _ h => h) (Or.inr ⟨by rfl, rfl⟩) hHeld ?_
      simp only [Act.put, pz0, pz1, pz2, pz3, pz4, pz5]
      refine wpAnyH_take (i := 34) (v := undef) rfl (by kernel_rfl) (by kernel_rfl) (by kernel_rfl) (fun _ _ _ h => h) (Or.inr ⟨by rfl, rfl⟩) hHeld ?_
      simp only [Act.put, pz0, pz1, pz2, pz3, pz4, pz5]
      refine wpAnyH_take (i := 35) (v := undef) rfl (by kernel_rfl) (by kernel_rfl) (by kernel_rfl) (fun _ _ _ h => h) (Or.inr ⟨by rfl, rfl⟩) hHeld ?_
      simp only [Act.put, pz0, pz1, pz2, pz3, pz4, pz5]
      refine wpAnyH_take (i := 36) (v := undef) rfl (by kernel_rfl) (by kernel_rfl) (by kernel_rfl) (fun _ _ _ h => h) (Or.inr ⟨by rfl, rfl⟩) hHeld ?_
      simp only [Act.put, pz0, pz1, pz2, pz3, pz4, pz5]
      refine wpAnyH_take (i := 37) (v := undef) rfl (by kernel_rfl) (by kernel_rfl) (by kernel_rfl) (fun _ _ _ h => h) (Or.inr ⟨by rfl, rfl⟩) hHeld ?_
      simp only [Act.put, pz0, pz1, pz2, pz3, pz4, pz5]
      refine wpAnyH_take (i := 38) (v := ?v12) rfl (by kernel_rfl) (by kernel_rfl) (by kernel_rfl) (fun _ _ _ h => h) (Or.inl ⟨by rfl, ?hy12⟩) hHeld ?rest12
      case hy12 => (intro w' hSw; (try dsimp only at hSw); first | (go_simp; done) | (go_simp; with_reducible rfl))
      simp only [Act.put, pz0, pz1, pz2, pz3, pz4, pz5]
      refine wpAnyH_take (i := 39) (v := ?v13) rfl (by kernel_rfl) (by kernel_rfl) (by kernel_rfl) (fun _ _ _ h => h) (Or.inl ⟨by rfl, ?hy13⟩) hHeld ?rest13
      case hy13 => (intro w' hSw; (try dsimp only at hSw); first | (go_simp; done) | (go_simp; with_reducible rfl))
      simp only [Act.put, pz0, pz1, pz2, pz3, pz4, pz5]
      refine wpAnyH_take (i := 40) (v := undef) rfl (by kernel_rfl) (by kernel_rfl) (by kernel_rfl) (fun _ _ _ h => h) (Or.inr ⟨by rfl, rfl⟩) hHeld ?_
      simp only [Act.put, pz0, pz1, pz2, pz3, pz4, pz5]
      refine wpAnyH_take (i := 41) (v := undef) rfl (by kernel_rfl) (by kernel_rfl) (by kernel_rfl) (fun _ _ _ h => h) (Or.inr ⟨by rfl, rfl⟩) hHeld ?_
      simp only [Act.put, pz0, pz1, pz2, pz3, pz4, pz5]
      refine wpAnyH_take (i := 42) (v := undef) rfl (by kernel_rfl) (by kernel_rfl) (by kernel_rfl) (fun _ _ _ h => h) (Or.inr ⟨by rfl, rfl⟩) hHeld ?_
      simp only [Act.put, pz0, pz1, pz2, pz3, pz4, pz5]
      refine wpAnyH_take (i := 43) (v := undef) rfl (by kernel_rfl) (by kernel_rfl) (by kernel_rfl) (fun _ _ _ h => h) (Or.inr ⟨by rfl, rfl⟩) hHeld ?_
      simp only [Act.put, pz0, pz1, pz2, pz3, pz4, pz5]
      refine wpAnyH_take (i := 44) (v := undef) rfl (by kernel_rfl) (by kernel_rfl) (by kernel_rfl) (fun _ _ _ h => h) (Or.inr ⟨by rfl, rfl⟩) hHeld ?_
      simp only [Act.put, pz0, pz1, pz2, pz3, pz4, pz5]
      refine wpAnyH_take (i := 45) (v := undef) rfl (by kernel_rfl) (by kernel_rfl) (by kernel_rfl) (fun _ _ _ h => h) (Or.inr ⟨by rfl, rfl⟩) hHeld ?_
      simp only [Act.put, pz0, pz1, pz2, pz3, pz4, pz5]
      refine wpAnyH_take (i := 46) (v := undef) rfl (by kernel_rfl) (by kernel_rfl) (by kernel_rfl) (fun _ _ _ h => h) (Or.inr ⟨by rfl, rfl⟩) hHeld ?_
      simp only [Act.put, pz0, pz1, pz2, pz3, pz4, pz5]
      refine wpAnyH_take (i := 47) (v := undef) rfl (by kernel_rfl) (by kernel_rfl) (by kernel_rfl) (fun _ _ _ h => h) (Or.inr ⟨by rfl, rfl⟩) hHeld ?_
      simp only [Act.put, pz0, pz1, pz2, pz3, pz4, pz5]
      refine wpAnyH_take (i := 48) (v := undef) rfl (by kernel_rfl) (by kernel_rfl) (by kernel_rfl) (fun _ _ _ h => h) (Or.inr ⟨by rfl, rfl⟩) hHeld ?_
      simp only [Act.put, pz0, pz1, pz2, pz3, pz4, pz5]
      refine wpAnyH_take (i := 49) (v := undef) rfl (by kernel_rfl) (by kernel_rfl) (by kernel_rfl) (fun _ _ _ h => h) (Or.inr ⟨by rfl, rfl⟩) hHeld ?_
      simp only [Act.put, pz0, pz1, pz2, pz3, pz4, pz5]
      refine wpAnyH_take (i := 50) (v := undef) rfl (by kernel_rfl) (by kernel_rfl) (by kernel_rfl) (fun _ _ _ h => h) (Or.inr ⟨by rfl, rfl⟩) hHeld ?_
      simp only [Act.put, pz0, pz1, pz2, pz3, pz4, pz5]
      refine wpAnyH_take (i := 51) (v := undef) rfl (by kernel_rfl) (by kernel_rfl) (by kernel_rfl) (fun _ _ _ h => h) (Or.inr ⟨by rfl, rfl⟩) hHeld ?_
      simp only [Act.put, pz0, pz1, pz2, pz3, pz4, pz5]
      refine wpAnyH_take (i := 52) (v := undef) rfl (by kernel_rfl) (by kernel_rfl) (by kernel_rfl) (fun _ _ _ h => h) (Or.inr ⟨by rfl, rfl⟩) hHeld ?_
      simp only [Act.put, pz0, pz1, pz2, pz3, pz4, pz5]
      refine wpAnyH_take (i := 53) (v := undef) rfl (by kernel_rfl) (by kernel_rfl) (by kernel_rfl) (fun _ _ _ h => h) (Or.inr ⟨by rfl, rfl⟩) hHeld ?_
      simp only [Act.put, pz0, pz1, pz2, pz3, pz4, pz5]
      refine wpAnyH_take (i := 54) (v := undef) rfl (by kernel_rfl) (by kernel_rfl) (by kernel_rfl) (fun _ _ _ h => h) (Or.inr ⟨by rfl, rfl⟩) hHeld ?_
      simp only [Act.put, pz0, pz1, pz2, pz3, pz4, pz5]
      refine wpAnyH_take (i := 55) (v := ?v14) rfl (by kernel_rfl) (by kernel_rfl) (by kernel_rfl) (fun _ _ _ h => h) (Or.inl ⟨by rfl, ?hy14⟩) hHeld ?rest14
      case hy14 => (intro w' hSw; (try dsimp only at hSw); first | (go_simp; done) | (go_simp; with_reducible rfl))
      simp only [Act.put, pz0, pz1, pz2, pz3, pz4, pz5]
      refine wpAnyH_done (by kernel_rfl) ?_ _
      refine NoPanic.normal ?_
      clear hHeld
      go_wp2_with fail
      go_ret
      exact ⟨retB HF.out.symm, hbd.trans (hb9.mono hbd.size)⟩
    have HR := Lib.hid hr
    by_cases hl0 : l[k].key.length = 0
    · have z0 : ((l[k].key.length : Int) == 0) = true := by rw [hl0]; rfl
      have HF := Lib.hid (HNO.out (by unfold entW entryB; rw [decide_eq_false (show ¬ 1 ≤ l[k].key.length by omega)]; rfl))
      clear hr hl0
      go_wp2_with fail
      refine wp_region_noPanic ?_
      refine wp_region_held_drew (S := fun w' => w'.cell? ⟨b1, o1 + k * 2, none⟩ = some (.slice A1 l[k].key.length c1) ∧ w'.cell? ⟨b1, o1 + k * 2 + 1, none⟩ = some (.int .i64 l[k].id) ∧ w'.cell? ⟨b1, o1, none⟩ = some (.slice A2 l[0].key.length c2)) (by kernel_rfl) D.out (fun hHeld => ?_)
      refine wpAnyH_take (i := 0) (v := ?v15) rfl (by kernel_rfl) (by kernel_rfl) (by kernel_rfl) (fun _ _ _ h => h) (Or.inl ⟨by rfl, ?hy15⟩) hHeld ?rest15
      case hy15 => (intro w' hSw; (try dsimp only at hSw); first | (go_simp; done) | (go_simp; with_reducible rfl))
      simp only [Act.put, pz0, pz1, pz2, pz3, pz4, pz5]
      refine wpAnyH_take (i := 1) (v := ?v16) rfl (by kernel_rfl) (by kernel_rfl) (by kernel_rfl) (fun _ _ _ h => h) (Or.inl ⟨by rfl, ?hy16⟩) hHeld ?rest16
      case hy16 => (intro w' hSw; (try dsimp only at hSw); first | (go_simp; done) | (go_simp; with_reducible rfl))
      simp only [Act.put, pz0, pz1, pz2, pz3, pz4, pz5]
      refine wpAnyH_take (i := 2) (v := ?v17) rfl (by kernel_rfl) (by kernel_rfl) (by kernel_rfl) (fun _ _ _ h => h) (Or.inl ⟨by rfl, ?hy17⟩) hHeld ?rest17
      case hy17 => (intro w' hSw; (try dsimp only at hSw); first | (go_simp; done) | (go_simp; with_reducible rfl))
      simp only [Act.put, pz0, pz1, pz2, pz3, pz4, pz5]
      refine wpAnyH_take (i := 3) (v := ?v18) rfl (by kernel_rfl) (by kernel_rfl) (by kernel_rfl) (fun _ _ _ h => h) (Or.inl ⟨by rfl, ?hy18⟩) hHeld ?rest18
      case hy18 => (intro w' hSw; (try dsimp only at hSw); first | (go_simp; done) | (go_simp; with_reducible rfl))
      simp only [Act.put, pz0, pz1, pz2, pz3, pz4, pz5]
      refine wpAnyH_take (i := 4) (v := ?v19) rfl (by kernel_rfl) (by kernel_rfl) (by kernel_rfl) (fun _ _ _ h => h) (Or.inl ⟨by rfl, ?hy19⟩) hHeld ?rest19
      case hy19 => (intro w' hSw; (try dsimp only at hSw); first | (go_simp; done) | (go_simp; with_reducible rfl))
      simp only [Act.put, pz0, pz1, pz2, pz3, pz4, pz5]
      refine wpAnyH_ready (rs := [5]) (by kernel_rfl) (by simp) ?_
      refine AllReadyH.cons rfl (fun K hK => ?_) AllReadyH.nil
      go_simp
      refine HX.out.mono ?_
      rintro e w9 ⟨rfl, hb9⟩
      rw [HR.out]
      go_wp2_with fail
      refine hK.out _ _ (keepC3 hHeld hb9) (fun hHeld => ?_)
      clear hK K
      (try simp only [Act.put, pz0, pz1, pz2, pz3, pz4, pz5])
      refine wpAnyH_take (i := 6) (v := ?v20) rfl (by kernel_rfl) (by kernel_rfl) (by kernel_rfl) (fun _ _ _ h => h) (Or.inl ⟨by rfl, ?hy20⟩) hHeld ?rest20
      case hy20 => (intro w' hSw; (try dsimp only at hSw); first | (go_simp; done) | (go_simp; with_reducible rfl))
      simp only [Act.put, pz0, pz1, pz2, pz3, pz4, pz5]
      refine wpAnyH_take (i := 7) (v := ?v21) rfl (by kernel_rfl) (by kernel_rfl) (by kernel_rfl) (fun _ _ _ h => h) (Or.inl ⟨by rfl, ?hy21⟩) hHeld ?rest21
      case hy21 => (intro w' hSw; (try dsimp only at hSw); first | (go_simp; done) | (go_simp; with_reducible rfl))
      simp only [Act.put, pz0, pz1, pz2, pz3, pz4, pz5]
      refine wpAnyH_take (i := 8) (v := ?v22) rfl (by kernel_rfl) (by kernel_rfl) (by kernel_rfl) (fun _ _ _ h => h) (Or.inl ⟨by rfl, ?hy22⟩) hHeld ?rest22
      case hy22 => (intro w' hSw; (try dsimp only at hSw); first | (go_simp; done) | (go_simp; with_reducible rfl))
      simp only [Act.put, pz0, pz1, pz2, pz3, pz4, pz5]
      refine wpAnyH_take (i := 9) (v := ?v23) rfl (by kernel_rfl) (by kernel_rfl) (by kernel_rfl) (fun _ _ _ h => h) (Or.inl ⟨by rfl, ?hy23⟩) hHeld ?rest23
      case hy23 => (intro w' hSw; (try dsimp only at hSw); first | (go_simp; done) | (go_simp; with_reducible rfl))
      simp only [Act.put, pz0, pz1, pz2, pz3, pz4, pz5]
      refine wpAnyH_take (i := 10) (v := ?v24) rfl (by kernel_rfl) (by kernel_rfl) (by kernel_rfl) (fun _ _ _ h => h) (Or.inl ⟨by rfl, ?hy24⟩) hHeld ?rest24
      case hy24 => (intro w' hSw; (try dsimp only at hSw); first | (go_simp; done) | (go_simp; with_reducible rfl))
      simp only [Act.put, pz0, pz1, pz2, pz3, pz4, pz5]
      refine wpAnyH_take (i := 11) (v := ?v25) rfl (by kernel_rfl) (by kernel_rfl) (by kernel_rfl) (fun _ _ _ h => h) (Or.inl ⟨by rfl, ?hy25⟩) hHeld ?rest25
      case hy25 => (intro w' hSw; (try dsimp only at hSw); first | (go_simp; done) | (go_simp; with_reducible rfl))
      simp only [Act.put, pz0, pz1, pz2, pz3, pz4, pz5]
      refine wpAnyH_take (i := 12) (v := ?v26) rfl (by kernel_rfl) (by kernel_rfl) (by kernel_rfl) (fun _ _ _ h => h) (Or.inl ⟨by rfl, ?hy26⟩) hHeld ?rest26
      case hy26 => (intro w' hSw; (try dsimp only at hSw); first | (go_simp; done) | (go_simp; with_reducible rfl))
      simp only [Act.put, pz0, pz1, pz2, pz3, pz4, pz5]
      refine wpAnyH_take (i := 13) (v := ?v27) rfl (by kernel_rfl) (by kernel_rfl) (by kernel_rfl) (fun _ _ _ h => h) (Or.inl ⟨by rfl, ?hy27⟩) hHeld ?rest27
      case hy27 => (intro w' hSw; (try dsimp only at hSw); first | (go_simp; done) | (go_simp; with_reducible rfl))
      simp only [Act.put, pz0, pz1, pz2, pz3, pz4, pz5]
      refine wpAnyH_take (i := 14) (v := ?v28) rfl (by kernel_rfl) (by kernel_rfl) (by kernel_rfl) (fun _ _ _ h => h) (Or.inl ⟨by rfl, ?hy28⟩) hHeld ?rest28
      case hy28 => (intro w' hSw; (try dsimp only at hSw); first | (go_simp; done) | (go_simp; with_reducible rfl))
      simp only [Act.put, pz0, pz1, pz2, pz3, pz4, pz5]
      refine wpAnyH_take (i := 15) (v := ?v29) rfl (by kernel_rfl) (by kernel_rfl) (by kernel_rfl) (fun _ _ _ h => h) (Or.inl ⟨by rfl, ?hy29⟩) hHeld ?rest29
      case hy29 => (intro w' hSw; (try dsimp only at hSw); first | (go_simp; done) | (go_simp; with_reducible rfl))
      simp only [Act.put, pz0, pz1, pz2, pz3, pz4, pz5]
      refine wpAnyH_take (i := 16) (v := ?v30) rfl (by kernel_rfl) (by kernel_rfl) (by kernel_rfl) (fun _ _ _ h => h) (Or.inl ⟨by rfl, ?hy30⟩) hHeld ?rest30
      case hy30 => (intro w' hSw; (try dsimp only at hSw); first | (go_simp; done) | (go_simp; with_reducible rfl))
      simp only [Act.put, pz0, pz1, pz2, pz3, pz4, pz5]
      refine wpAnyH_take (i := 17) (v := undef) rfl (by kernel_rfl) (by kernel_rfl) (by kernel_rfl) (fun _ _ _ h => h) (Or.inr ⟨by rfl, rfl⟩) hHeld ?_
      simp only [Act.put, pz0, pz1, pz2, pz3, pz4, pz5]
      refine wpAnyH_take (i := 18) (v := undef) rfl (by kernel_rfl) (by kernel_rfl) (by kernel_rfl) (fun _ _ _ h => h) (Or.inr ⟨by rfl, rfl⟩) hHeld ?_
      simp only [Act.put, pz0, pz1, pz2, pz3, pz4, pz5]
      refine wpAnyH_take (i := 19) (v := undef) rfl (by kernel_rfl) (by kernel_rfl) (by kernel_rfl) (fun _ _ _ h => h) (Or.inr ⟨by rfl, rfl⟩) hHeld ?_
      simp only [Act.put, pz0, pz1, pz2, pz3, pz4, pz5]
      refine wpAnyH_take (i := 20) (v := undef) rfl (by kernel_rfl) (by kernel_rfl) (by kernel_rfl) (fun _ _ _ h => h) (Or.inr ⟨by rfl, rfl⟩) hHeld ?_
      simp only [Act.put, pz0, pz1, pz2, pz3, pz4, pz5]
      refine wpAnyH_take (i := 21) (v := undef) rfl (by kernel_rfl) (by kernel_rfl) (by kernel_rfl) (fun _ _ _ h => h) (Or.inr ⟨by rfl, rfl⟩) hHeld ?_
      simp only [Act.put, pz0, pz1, pz2, pz3, pz4, pz5]
      refine wpAnyH_take (i := 22) (v := undef) rfl (by kernel_rfl) (by kernel_rfl) (by kernel_rfl) (fun _ _ _ h => h) (Or.inr ⟨by rfl, rfl⟩) hHeld ?_
      simp only [Act.put, pz0, pz1, pz2, pz3, pz4, pz5]
      refine wpAnyH_take (i := 23) (v := undef) rfl (by kernel_rfl) (by kernel_rfl) (by kernel_rfl) (fun _ _ _ h => h) (Or.inr ⟨by rfl, rfl⟩) hHeld ?_
      simp only [Act.put, pz0, pz1, pz2, pz3, pz4, pz5]
      refine wpAnyH_take (i := 24) (v := undef) rfl (by kernel_rfl) (by kernel_rfl) (by kernel_rfl) (fun _ _ _ h => h) (Or.inr ⟨by rfl, rfl⟩) hHeld ?_
      simp only [Act.put, pz0, pz1, pz2, pz3, pz4, pz5]
      refine wpAnyH_take (i := 25) (v := undef) rfl (by kernel_rfl) (by kernel_rfl) (by kernel_rfl) (fun _ _ _ h => h) (Or.inr ⟨by rfl, rfl⟩) hHeld ?_
      simp only [Act.put, pz0, pz1, pz2, pz3, pz4, pz5]
      refine wpAnyH_take (i := 26) (v := undef) rfl (by kernel_rfl) (by kernel_rfl) (by kernel_rfl) (fun _ _ _ h => h) (Or.inr ⟨by rfl, rfl⟩) hHeld ?_
      simp only [Act.put, pz0, pz1, pz2, pz3, pz4, pz5]
      refine wpAnyH_take (i := 27) (v := undef) rfl (by kernel_rfl) (by kernel_rfl) (by kernel_rfl) (fun _ _ _ h => h) (Or.inr ⟨by rfl, rfl⟩) hHeld ?_
      simp only [Act.put, pz0, pz1, pz2, pz3, pz4, pz5]
      refine wpAnyH_take (i := 28) (v := undef) rfl (by kernel_rfl) (by kernel_rfl) (by kernel_rfl) (fun _ _ _ h => h) (Or.inr ⟨by rfl, rfl⟩) hHeld ?_
      simp only [Act.put, pz0, pz1, pz2, pz3, pz4, pz5]
      refine wpAnyH_take (i := 29) (v := ?v31) rfl (by kernel_rfl) (by kernel_rfl) (by kernel_rfl) (fun _ _ _ h => h) (Or.inl ⟨by rfl, ?hy31⟩) hHeld ?rest31
      case hy31 => (intro w' hSw; (try dsimp only at hSw); first | (go_simp; done) | (go_simp; with_reducible rfl))
      simp only [Act.put, pz0, pz1, pz2, pz3, pz4, pz5]
      refine wpAnyH_take (i := 30) (v := ?v32) rfl (by kernel_rfl) (by kernel_rfl) (by kernel_rfl) (fun _ _ _ h => h) (Or.inl ⟨by rfl, ?hy32⟩) hHeld ?rest32
      case hy32 => (intro w' hSw; (try dsimp only at hSw); first | (go_simp; done) | (go_simp; with_reducible rfl))
      simp only [Act.put, pz0, pz1, pz2, pz3, pz4, pz5]
      refine wpAnyH_take (i := 31) (v := undef) rfl (by kernel_rfl) (by kernel_rfl) (by kernel_rfl) (fun _ _ _ h => h) (Or.inr ⟨by rfl, rfl⟩) hHeld ?_
      simp only [Act.put, pz0, pz1, pz2, pz3, pz4, pz5]
      refine wpAnyH_take (i := 32) (v := undef) rfl (by kernel_rfl) (by kernel_rfl) (by kernel_rfl) (fun _ _ _ h => h) (Or.inr ⟨by rfl, rfl⟩) hHeld ?_
      simp only [Act.put, pz0, pz1, pz2, pz3, pz4, pz5]
      refine wpAnyH_take (i := 33) (v := undef) rfl (by kernel_rfl) (by kernel_rfl) (by kernel_rfl) (fun _ _ _ h => h) (Or.inr ⟨by rfl, rfl⟩) hHeld ?_
      simp only [Act.put, pz0, pz1, pz2, pz3, pz4, pz5]
      refine wpAnyH_take (i := 34) (v := undef) rfl (by kernel_rfl) (by kernel_rfl) (by kernel_rfl) (fun _ _ _ h => h) (Or.inr ⟨by rfl, rfl⟩) hHeld ?_
      simp only [Act.put, pz0, pz1, pz2, pz3, pz4, pz5]
      refine wpAnyH_take (i := 35) (v := undef) rfl (by kernel_rfl) (by kernel_rfl) (by kernel_rfl) (fun _ _ _ h => h) (Or.inr ⟨by rfl, rfl⟩) hHeld ?_
      simp only [Act.put, pz0, pz1, pz2, pz3, pz4, pz5]
      refine wpAnyH_take (i := 36) (v := undef) rfl (by kernel_rfl) (by kernel_rfl) (by kernel_rfl) (fun _ _ _ h => h) (Or.inr ⟨by rfl, rfl⟩) hHeld ?_
      simp only [Act.put, pz0, pz1, pz2, pz3, pz4, pz5]
      refine wpAnyH_take (i := 37) (v := undef) rfl (by kernel_rfl) (by kernel_rfl) (by kernel_rfl) (fun _ _ _ h => h) (Or.inr ⟨by rfl, rfl⟩) hHeld ?_
      simp only [Act.put, pz0, pz1, pz2, pz3, pz4, pz5]
      refine wpAnyH_take (i := 38) (v := ?v33) rfl (by kernel_rfl) (by kernel_rfl) (by kernel_rfl) (fun _ _ _ h => h) (Or.inl ⟨by rfl, ?hy33⟩) hHeld ?rest33
      case hy33 => (intro w' hSw; (try dsimp only at hSw); first | (go_simp; done) | (go_simp; with_reducible rfl))
      simp only [Act.put, pz0, pz1, pz2, pz3, pz4, pz5]
      refine wpAnyH_take (i := 39) (v := ?v34) rfl (by kernel_rfl) (by kernel_rfl) (by kernel_rfl) (fun _ _ _ h => h) (Or.inl ⟨by rfl, ?hy34⟩) hHeld ?rest34
      case hy34 => (intro w' hSw; (try dsimp only at hSw); first | (go_simp; done) | (go_simp; with_reducible rfl))
      simp only [Act.put, pz0, pz1, pz2, pz3, pz4, pz5]
      refine wpAnyH_take (i := 40) (v := undef) rfl (by kernel_rfl) (by kernel_rfl) (by kernel_rfl) (fun _ _ _ h => h) (Or.inr ⟨by rfl, rfl⟩) hHeld ?_
      simp only [Act.put, pz0, pz1, pz2, pz3, pz4, pz5]
      refine wpAnyH_take (i := 41) (v := undef) rfl (by kernel_rfl) (by kernel_rfl) (by kernel_rfl) (fun _ _ _ h => h) (Or.inr ⟨by rfl, rfl⟩) hHeld ?_
      simp only [Act.put, pz0, pz1, pz2, pz3, pz4, pz5]
      refine wpAnyH_take (i := 42) (v := undef) rfl (by kernel_rfl) (by kernel_rfl) (by kernel_rfl) (fun _ _ _ h => h) (Or.inr ⟨by rfl, rfl⟩) hHeld ?_
      simp only [Act.put, pz0, pz1, pz2, pz3, pz4, pz5]
      refine wpAnyH_take (i := 43) (v := undef) rfl (by kernel_rfl) (by kernel_rfl) (by kernel_rfl) (fun _ _ _ h => h) (Or.inr ⟨by rfl, rfl⟩) hHeld ?_
      simp only [Act.put, pz0, pz1, pz2, pz3, pz4, pz5]
      refine wpAnyH_take (i := 44) (v := undef) rfl (by kernel_rfl) (by kernel_rfl) (by kernel_rfl) (fun _ _ _ h => h) (Or.inr ⟨by rfl, rfl⟩) hHeld ?_
      simp only [Act.put, pz0, pz1, pz2, pz3, pz4, pz5]
      refine wpAnyH_take (i := 45) (v := undef) rfl (by kernel_rfl) (by kernel_rfl) (by kernel_rfl) (fun _ _ _ h => h) (Or.inr ⟨by rfl, rfl⟩) hHeld ?_
      simp only [Act.put, pz0, pz1, pz2, pz3, pz4, pz5]
      refine wpAnyH_take (i := 46) (v := undef) rfl (by kernel_rfl) (by kernel_rfl) (by kernel_rfl) (fun _ _ _ h => h) (Or.inr ⟨by rfl, rfl⟩) hHeld ?_
      simp only [Act.put, pz0, pz1, pz2, pz3, pz4, pz5]
      refine wpAnyH_take (i := 47) (v := undef) rfl (by kernel_rfl) (by kernel_rfl) (by kernel_rfl) (fun _ _ _ h => h) (Or.inr ⟨by rfl, rfl⟩) hHeld ?_
      simp only [Act.put, pz0, pz1, pz2, pz3, pz4, pz5]
      refine wpAnyH_take (i := 48) (v := undef) rfl (by kernel_rfl) (by kernel_rfl) (by kernel_rfl) (fun _ _ _ h => h) (Or.inr ⟨by rfl, rfl⟩) hHeld ?_
      simp only [Act.put, pz0, pz1, pz2, pz3, pz4, pz5]
      refine wpAnyH_take (i := 49) (v := undef) rfl (by kernel_rfl) (by kernel_rfl) (by kernel_rfl) (fun _ _ _ h => h) (Or.inr ⟨by rfl, rfl⟩) hHeld ?_
      simp only [Act.put, pz0, pz1, pz2, pz3, pz4, pz5]
      refine wpAnyH_take (i := 50) (v := undef) rfl (by kernel_rfl) (by kernel_rfl) (by kernel_rfl) (fun _ _ _ h => h) (Or.inr ⟨by rfl, rfl⟩) hHeld ?_
      simp only [Act.put, pz0, pz1, pz2, pz3, pz4, pz5]
      refine wpAnyH_take (i := 51) (v := undef) rfl (by kernel_rfl) (by kernel_rfl) (by kernel_rfl) (fun _ _ _ h => h) (Or.inr ⟨by rfl, rfl⟩) hHeld ?_
      simp only [Act.put, pz0, pz1, pz2, pz3, pz4, pz5]
      refine wpAnyH_take (i := 52) (v := undef) rfl (by kernel_rfl) (by kernel_rfl) (by kernel_rfl) (fun _ _ _ h => h) (Or.inr ⟨by rfl, rfl⟩) hHeld ?_
      simp only [Act.put, pz0, pz1, pz2, pz3, pz4, pz5]
      refine wpAnyH_take (i := 53) (v := undef) rfl (by kernel_rfl) (by kernel_rfl) (by kernel_rfl) (fun _ _ _ h => h) (Or.inr ⟨by rfl, rfl⟩) hHeld ?_
      simp only [Act.put, pz0, pz1, pz2, pz3, pz4, pz5]
      refine wpAnyH_take (i := 54) (v := undef) rfl (by kernel_rfl) (by kernel_rfl) (by kernel_rfl) (fun _ _ _ h => h) (Or.inr ⟨by rfl, rfl⟩) hHeld ?_
      simp only [Act.put, pz0, pz1, pz2, pz3, pz4, pz5]
      refine wpAnyH_take (i := 55) (v := ?v35) rfl (by kernel_rfl) (by kernel_rfl) (by kernel_rfl) (fun _ _ _ h => h) (Or.inl ⟨by rfl, ?hy35⟩) hHeld ?rest35
      case hy35 => (intro w' hSw; (try dsimp only at hSw); first | (go_simp; done) | (go_simp; with_reducible rfl))
      simp only [Act.put, pz0, pz1, pz2, pz3, pz4, pz5]
      refine wpAnyH_done (by kernel_rfl) ?_ _
      refine NoPanic.normal ?_
      clear hHeld
      go_wp2_with fail
      go_ret
      exact ⟨retB HF.out.symm, hbd.trans (hb9.mono hbd.size)⟩
    have z0 : ((l[k].key.length : Int) == 0) = false := by rw [beq_eq_false_iff_ne]; omega
    by_cases hl : l[k].key.length = l[0].key.length
    case neg =>
      have zl : ((l[k].key.length : Int) != l[0].key.length) = true := by simp; omega
      have zl' : ((l[k].key.length : Int) == l[0].key.length) = false := by rw [beq_eq_false_iff_ne]; omega
      have HF := Lib.hid (HNO.out (by unfold entW; rw [HW.out, decide_eq_false hl, Bool.and_false]))
      clear hr hl hl0
      go_wp2_with fail
      refine wp_region_noPanic ?_
      refine wp_region_held_drew (S := fun w' => w'.cell? ⟨b1, o1 + k * 2, none⟩ = some (.slice A1 l[k].key.length c1) ∧ w'.cell? ⟨b1, o1 + k * 2 + 1, none⟩ = some (.int .i64 l[k].id) ∧ w'.cell? ⟨b1, o1, none⟩ = some (.slice A2 l[0].key.length c2)) (by kernel_rfl) D.out (fun hHeld => ?_)
      refine wpAnyH_take (i := 0) (v := ?v36) rfl (by kernel_rfl) (by kernel_rfl) (by kernel_rfl) (fun _ _ _ h => h) (Or.inl ⟨by rfl, ?hy36⟩) hHeld ?rest36
      case hy36 => (intro w' hSw; (try dsimp only at hSw); first | (go_simp; done) | (go_simp; with_reducible rfl))
      simp only [Act.put, pz0, pz1, pz2, pz3, pz4, pz5]
      refine wpAnyH_take (i := 1) (v := ?v37) rfl (by kernel_rfl) (by kernel_rfl) (by kernel_rfl) (fun _ _ _ h => h) (Or.inl ⟨by rfl, ?hy37⟩) hHeld ?rest37
      case hy37 => (intro w' hSw; (try dsimp only at hSw); first | (go_simp; done) | (go_simp; with_reducible rfl))
      simp only [Act.put, pz0, pz1, pz2, pz3, pz4, pz5]
      refine wpAnyH_take (i := 2) (v := ?v38) rfl (by kernel_rfl) (by kernel_rfl) (by kernel_rfl) (fun _ _ _ h => h) (Or.inl ⟨by rfl, ?hy38⟩) hHeld ?rest38
      case hy38 => (intro w' hSw; (try dsimp only at hSw); first | (go_simp; done) | (go_simp; with_reducible rfl))
      simp only [Act.put, pz0, pz1, pz2, pz3, pz4, pz5]
      refine wpAnyH_take (i := 3) (v := ?v39) rfl (by kernel_rfl) (by kernel_rfl) (by kernel_rfl) (fun _ _ _ h => h) (Or.inl ⟨by rfl, ?hy39⟩) hHeld ?rest39
      case hy39 => (intro w' hSw; (try dsimp only at hSw); first | (go_simp; done) | (go_simp; with_reducible rfl))
      simp only [Act.put, pz0, pz1, pz2, pz3, pz4, pz5]
      refine wpAnyH_take (i := 4) (v := ?v40) rfl (by kernel_rfl) (by kernel_rfl) (by kernel_rfl) (fun _ _ _ h => h) (Or.inl ⟨by rfl, ?hy40⟩) hHeld ?rest40
      case hy40 => (intro w' hSw; (try dsimp only at hSw); first | (go_simp; done) | (go_simp; with_reducible rfl))
      simp only [Act.put, pz0, pz1, pz2, pz3, pz4, pz5]
      refine wpAnyH_ready (rs := [5]) (by kernel_rfl) (by simp) ?_
      refine AllReadyH.cons rfl (fun K hK => ?_) AllReadyH.nil
      go_simp
      refine HX.out.mono ?_
      rintro e w9 ⟨rfl, hb9⟩
      rw [HR.out]
      go_wp2_with fail
      refine hK.out _ _ (keepC3 hHeld hb9) (fun hHeld => ?_)
      clear hK K
      (try simp only [Act.put, pz0, pz1, pz2, pz3, pz4, pz5])
      refine wpAnyH_take (i := 6) (v := ?v41) rfl (by kernel_rfl) (by kernel_rfl) (by kernel_rfl) (fun _ _ _ h => h) (Or.inl ⟨by rfl, ?hy41⟩) hHeld ?rest41
      case hy41 => (intro w' hSw; (try dsimp only at hSw); first | (go_simp; done) | (go_simp; with_reducible rfl))
      simp only [Act.put, pz0, pz1, pz2, pz3, pz4, pz5]
      refine wpAnyH_take (i := 7) (v := ?v42) rfl (by kernel_rfl) (by kernel_rfl) (by kernel_rfl) (fun _ _ _ h => h) (Or.inl ⟨by rfl, ?hy42⟩) hHeld ?rest42
      case hy42 => (intro w' hSw; (try dsimp only at hSw); first | (go_simp; done) | (go_simp; with_reducible rfl))
      simp only [Act.put, pz0, pz1, pz2, pz3, pz4, pz5]
      refine wpAnyH_take (i := 8) (v := ?v43) rfl (by kernel_rfl) (by kernel_rfl) (by kernel_rfl) (fun _ _ _ h => h) (Or.inl ⟨by rfl, ?hy43⟩) hHeld ?rest43
      case hy43 => (intro w' hSw; (try dsimp only at hSw); first | (go_simp; done) | (go_simp; with_reducible rfl))
      simp only [Act.put, pz0, pz1, pz2, pz3, pz4, pz5]
      refine wpAnyH_take (i := 9) (v := ?v44) rfl (by kernel_rfl) (by kernel_rfl) (by kernel_rfl) (fun _ _ _ h => h) (Or.inl ⟨by rfl, ?hy44⟩) hHeld ?rest44
      case hy44 => (intro w' hSw; (try dsimp only at hSw); first | (go_simp; done) | (go_simp; with_reducible rfl))
      simp only [Act.put, pz0, pz1, pz2, pz3, pz4, pz5]
      refine wpAnyH_take (i := 10) (v := ?v45) rfl (by kernel_rfl) (by kernel_rfl) (by kernel_rfl) (fun _ _ _ h => h) (Or.inl ⟨by rfl, ?hy45⟩) hHeld ?rest45
      case hy45 => (intro w' hSw; (try dsimp only at hSw); first | (go_simp; done) | (go_simp; with_reducible rfl))
      simp only [Act.put, pz0, pz1, pz2, pz3, pz4, pz5]
      refine wpAnyH_take (i := 11) (v := ?v46) rfl (by kernel_rfl) (by kernel_rfl) (by kernel_rfl) (fun _ _ _ h => h) (Or.inl ⟨by rfl, ?hy46⟩) hHeld ?rest46
      case hy46 => (intro w' hSw; (try dsimp only at hSw); first | (go_simp; done) | (go_simp; with_reducible rfl))
      simp only [Act.put, pz0, pz1, pz2, pz3, pz4, pz5]
      refine wpAnyH_take (i := 12) (v := ?v47) rfl (by kernel_rfl) (by kernel_rfl) (by kernel_rfl) (fun _ _ _ h => h) (Or.inl ⟨by rfl, ?hy47⟩) hHeld ?rest47
      case hy47 => (intro w' hSw; (try dsimp only at hSw); first | (go_simp; done) | (go_simp; with_reducible rfl))
      simp only [Act.put, pz0, pz1, pz2, pz3, pz4, pz5]
      refine wpAnyH_take (i := 13) (v := ?v48) rfl (by kernel_rfl) (by kernel_rfl) (by kernel_rfl) (fun _ _ _ h => h) (Or.inl ⟨by rfl, ?hy48⟩) hHeld ?rest48
      case hy48 => (intro w' hSw; (try dsimp only at hSw); first | (go_simp; done) | (go_simp; with_reducible rfl))
      simp only [Act.put, pz0, pz1, pz2, pz3, pz4, pz5]
      refine wpAnyH_take (i := 14) (v := ?v49) rfl (by kernel_rfl) (by kernel_rfl) (by kernel_rfl) (fun _ _ _ h => h) (Or.inl ⟨by rfl, ?hy49⟩) hHeld ?rest49
      case hy49 => (intro w' hSw; (try dsimp only at hSw); first | (go_simp; done) | (go_simp; with_reducible rfl))
      simp only [Act.put, pz0, pz1, pz2, pz3, pz4, pz5]
      refine wpAnyH_take (i := 15) (v := ?v50) rfl (by kernel_rfl) (by kernel_rfl) (by kernel_rfl) (fun _ _ _ h => h) (Or.inl ⟨by rfl, ?hy50⟩) hHeld ?rest50
      case hy50 => (intro w' hSw; (try dsimp only at hSw); first | (go_simp; done) | (go_simp; with_reducible rfl))
      simp only [Act.put, pz0, pz1, pz2, pz3, pz4, pz5]
      refine wpAnyH_take (i := 16) (v := ?v51) rfl (by kernel_rfl) (by kernel_rfl) (by kernel_rfl) (fun _ _ _ h => h) (Or.inl ⟨by rfl, ?hy51⟩) hHeld ?rest51
      case hy51 => (intro w' hSw; (try dsimp only at hSw); first | (go_simp; done) | (go_simp; with_reducible rfl))
      simp only [Act.put, pz0, pz1, pz2, pz3, pz4, pz5]
      refine wpAnyH_take (i := 17) (v := ?v52) rfl (by kernel_rfl) (by kernel_rfl) (by kernel_rfl) (fun _ _ _ h => h) (Or.inl ⟨by rfl, ?hy52⟩) hHeld ?rest52
      case hy52 => (intro w' hSw; (try dsimp only at hSw); first | (go_simp; done) | (go_simp; with_reducible rfl))
      simp only [Act.put, pz0, pz1, pz2, pz3, pz4, pz5]
      refine wpAnyH_take (i := 18) (v := ?v53) rfl (by kernel_rfl) (by kernel_rfl) (by kernel_rfl) (fun _ _ _ h => h) (Or.inl ⟨by rfl, ?hy53⟩) hHeld ?rest53
      case hy53 => (intro w' hSw; (try dsimp only at hSw); first | (go_simp; done) | (go_simp; with_reducible rfl))
      simp only [Act.put, pz0, pz1, pz2, pz3, pz4, pz5]
      refine wpAnyH_take (i := 19) (v := ?v54) rfl (by kernel_rfl) (by kernel_rfl) (by kernel_rfl) (fun _ _ _ h => h) (Or.inl ⟨by rfl, ?hy54⟩) hHeld ?rest54
      case hy54 => (intro w' hSw; (try dsimp only at hSw); first | (go_simp; done) | (go_simp; with_reducible rfl))
      simp only [Act.put, pz0, pz1, pz2, pz3, pz4, pz5]
      refine wpAnyH_take (i := 20) (v := ?v55) rfl (by kernel_rfl) (by kernel_rfl) (by kernel_rfl) (fun _ _ _ h => h) (Or.inl ⟨by rfl, ?hy55⟩) hHeld ?rest55
      case hy55 => (intro w' hSw; (try dsimp only at hSw); first | (go_simp; done) | (go_simp; with_reducible rfl))
      simp only [Act.put, pz0, pz1, pz2, pz3, pz4, pz5]
      refine wpAnyH_take (i := 21) (v := ?v56) rfl (by kernel_rfl) (by kernel_rfl) (by kernel_rfl) (fun _ _ _ h => h) (Or.inl ⟨by rfl, ?hy56⟩) hHeld ?rest56
      case hy56 => (intro w' hSw; (try dsimp only at hSw); first | (go_simp; done) | (go_simp; with_reducible rfl))
      simp only [Act.put, pz0, pz1, pz2, pz3, pz4, pz5]
      refine wpAnyH_take (i := 22) (v := ?v57) rfl (by kernel_rfl) (by kernel_rfl) (by kernel_rfl) (fun _ _ _ h => h) (Or.inl ⟨by rfl, ?hy57⟩) hHeld ?rest57
      case hy57 => (intro w' hSw; (try dsimp only at hSw); first | (go_simp; done) | (go_simp; with_reducible rfl))
      simp only [Act.put, pz0, pz1, pz2, pz3, pz4, pz5]
      refine wpAnyH_take (i := 23) (v := ?v58) rfl (by kernel_rfl) (by kernel_rfl) (by kernel_rfl) (fun _ _ _ h => h) (Or.inl ⟨by rfl, ?hy58⟩) hHeld ?rest58
      case hy58 => (intro w' hSw; (try dsimp only at hSw); first | (go_simp; done) | (go_simp; with_reducible rfl))
      simp only [Act.put, pz0, pz1, pz2, pz3, pz4, pz5]
      refine wpAnyH_take (i := 24) (v := ?v59) rfl (by kernel_rfl) (by kernel_rfl) (by kernel_rfl) (fun _ _ _ h => h) (Or.inl ⟨by rfl, ?hy59⟩) hHeld ?rest59
      case hy59 => (intro w' hSw; (try dsimp only at hSw); first | (go_simp; done) | (go_simp; with_reducible rfl))
      simp only [Act.put, pz0, pz1, pz2, pz3, pz4, pz5]
      refine wpAnyH_take (i := 25) (v := ?v60) rfl (by kernel_rfl) (by kernel_rfl) (by kernel_rfl) (fun _ _ _ h => h) (Or.inl ⟨by rfl, ?hy60⟩) hHeld ?rest60
      case hy60 => (intro w' hSw; (try dsimp only at hSw); first | (go_simp; done) | (go_simp; with_reducible rfl))
      simp only [Act.put, pz0, pz1, pz2, pz3, pz4, pz5]
      refine wpAnyH_take (i := 26) (v := ?v61) rfl (by kernel_rfl) (by kernel_rfl) (by kernel_rfl) (fun _ _ _ h => h) (Or.inl ⟨by rfl, ?hy61⟩) hHeld ?rest61
      case hy61 => (intro w' hSw; (try dsimp only at hSw); first | (go_simp; done) | (go_simp; with_reducible rfl))
      simp only [Act.put, pz0, pz1, pz2, pz3, pz4, pz5]
      refine wpAnyH_take (i := 27) (v := ?v62) rfl (by kernel_rfl) (by kernel_rfl) (by kernel_rfl) (fun _ _ _ h => h) (Or.inl ⟨by rfl, ?hy62⟩) hHeld ?rest62
      case hy62 => (intro w' hSw; (try dsimp only at hSw); first | (go_simp; done) | (go_simp; with_reducible rfl))
      simp only [Act.put, pz0, pz1, pz2, pz3, pz4, pz5]
      refine wpAnyH_take (i := 28) (v := ?v63) rfl (by kernel_rfl) (by kernel_rfl) (by kernel_rfl) (fun _ _ _ h => h) (Or.inl ⟨by rfl, ?hy63⟩) hHeld ?rest63
      case hy63 => (intro w' hSw; (try dsimp only at hSw); first | (go_simp; done) | (go_simp; with_reducible rfl))
      simp only [Act.put, pz0, pz1, pz2, pz3, pz4, pz5]
      refine wpAnyH_take (i := 29) (v := ?v64) rfl (by kernel_rfl) (by kernel_rfl) (by kernel_rfl) (fun _ _ _ h => h) (Or.inl ⟨by rfl, ?hy64⟩) hHeld ?rest64
      case hy64 => (intro w' hSw; (try dsimp only at hSw); first | (go_simp; done) | (go_simp; with_reducible rfl))
      simp only [Act.put, pz0, pz1, pz2, pz3, pz4, pz5]
      refine wpAnyH_take (i := 30) (v := ?v65) rfl (by kernel_rfl) (by kernel_rfl) (by kernel_rfl) (fun _ _ _ h => h) (Or.inl ⟨by rfl, ?hy65⟩) hHeld ?rest65
      case hy65 => (intro w' hSw; (try dsimp only at hSw); first | (go_simp; done) | (go_simp; with_reducible rfl))
      simp only [Act.put, pz0, pz1, pz2, pz3, pz4, pz5]
      refine wpAnyH_take (i := 31) (v := undef) rfl (by kernel_rfl) (by kernel_rfl) (by kernel_rfl) (fun _ _ _ h => h) (Or.inr ⟨by rfl, rfl⟩) hHeld ?_
      simp only [Act.put, pz0, pz1, pz2, pz3, pz4, pz5]
      refine wpAnyH_take (i := 32) (v := undef) rfl (by kernel_rfl) (by kernel_rfl) (by kernel_rfl) (fun _ _ _ h => h) (Or.inr ⟨by rfl, rfl⟩) hHeld ?_
      simp only [Act.put, pz0, pz1, pz2, pz3, pz4, pz5]
      refine wpAnyH_take (i := 33) (v := undef) rfl (by kernel_rfl) (by kernel_rfl) (by kernel_rfl) (fun _ _ _ h => h) (Or.inr ⟨by rfl, rfl⟩) hHeld ?_
      simp only [Act.put, pz0, pz1, pz2, pz3, pz4, pz5]
      refine wpAnyH_take (i := 34) (v := undef) rfl (by kernel_rfl) (by kernel_rfl) (by kernel_rfl) (fun _ _ _ h => h) (Or.inr ⟨by rfl, rfl⟩) hHeld ?_
      simp only [Act.put, pz0, pz1, pz2, pz3, pz4, pz5]
      refine wpAnyH_take (i := 35) (v := undef) rfl (by kernel_rfl) (by kernel_rfl) (by kernel_rfl) (fun _ _ _ h => h) (Or.inr ⟨by rfl, rfl⟩) hHeld ?_
      simp only [Act.put, pz0, pz1, pz2, pz3, pz4, pz5]
      refine wpAnyH_take (i := 36) (v := undef) rfl (by kernel_rfl) (by kernel_rfl) (by kernel_rfl) (fun _ _ _ h => h) (Or.inr ⟨by rfl, rfl⟩) hHeld ?_
      simp only [Act.put, pz0, pz1, pz2, pz3, pz4, pz5]
      refine wpAnyH_take (i := 37) (v := undef) rfl (by kernel_rfl) (by kernel_rfl) (by kernel_rfl) (fun _ _ _ h => h) (Or.inr ⟨by rfl, rfl⟩) hHeld ?_
      simp only [Act.put, pz0, pz1, pz2, pz3, pz4, pz5]
      refine wpAnyH_take (i := 38) (v := ?v66) rfl (by kernel_rfl) (by kernel_rfl) (by kernel_rfl) (fun _ _ _ h => h) (Or.inl ⟨by rfl, ?hy66⟩) hHeld ?rest66
      case hy66 => (intro w' hSw; (try dsimp only at hSw); first | (go_simp; done) | (go_simp; with_reducible rfl))
      simp only [Act.put, pz0, pz1, pz2, pz3, pz4, pz5]
      refine wpAnyH_take (i := 39) (v := ?v67) rfl (by kernel_rfl) (by kernel_rfl) (by kernel_rfl) (fun _ _ _ h => h) (Or.inl ⟨by rfl, ?hy67⟩) hHeld ?rest67
      case hy67 => (intro w' hSw; (try dsimp only at hSw); first | (go_simp; done) | (go_simp; with_reducible rfl))
      simp only [Act.put, pz0, pz1, pz2, pz3, pz4, pz5]
      refine wpAnyH_take (i := 40) (v := undef) rfl (by kernel_rfl) (by kernel_rfl) (by kernel_rfl) (fun _ _ _ h => h) (Or.inr ⟨by rfl, rfl⟩) hHeld ?_
      simp only [Act.put, pz0, pz1, pz2, pz3, pz4, pz5]
      refine wpAnyH_take (i := 41) (v := undef) rfl (by kernel_rfl) (by kernel_rfl) (by kernel_rfl) (fun _ _ _ h => h) (Or.inr ⟨by rfl, rfl⟩) hHeld ?_
      simp only [Act.put, pz0, pz1, pz2, pz3, pz4, pz5]
      refine wpAnyH_take (i := 42) (v := undef) rfl (by kernel_rfl) (by kernel_rfl) (by kernel_rfl) (fun _ _ _ h => h) (Or.inr ⟨by rfl, rfl⟩) hHeld ?_
      simp only [Act.put, pz0, pz1, pz2, pz3, pz4, pz5]
      refine wpAnyH_take (i := 43) (v := undef) rfl (by kernel_rfl) (by kernel_rfl) (by kernel_rfl) (fun _ _ _ h => h) (Or.inr ⟨by rfl, rfl⟩) hHeld ?_
      simp only [Act.put, pz0, pz1, pz2, pz3, pz4, pz5]
      refine wpAnyH_take (i := 44) (v := undef) rfl (by kernel_rfl) (by kernel_rfl) (by kernel_rfl) (fun _ _ _ h => h) (Or.inr ⟨by rfl, rfl⟩) hHeld ?_
      simp only [Act.put, pz0, pz1, pz2, pz3, pz4, pz5]
      refine wpAnyH_take (i := 45) (v := undef) rfl (by kernel_rfl) (by kernel_rfl) (by kernel_rfl) (fun _ _ _ h => h) (Or.inr ⟨by rfl, rfl⟩) hHeld ?_
      simp only [Act.put, pz0, pz1, pz2, pz3, pz4, pz5]
      refine wpAnyH_take (i := 46) (v := undef) rfl (by kernel_rfl) (by kernel_rfl) (by kernel_rfl) (fun _ _ _ h => h) (Or.inr ⟨by rfl, rfl⟩) hHeld ?_
      simp only [Act.put, pz0, pz1, pz2, pz3, pz4, pz5]
      refine wpAnyH_take (i := 47) (v := undef) rfl (by kernel_rfl) (by kernel_rfl) (by kernel_rfl) (fun _ _ _ h => h) (Or.inr ⟨by rfl, rfl⟩) hHeld ?_
      simp only [Act.put, pz0, pz1, pz2, pz3, pz4, pz5]
      refine wpAnyH_take (i := 48) (v := undef) rfl (by kernel_rfl) (by kernel_rfl) (by kernel_rfl) (fun _ _ _ h => h) (Or.inr ⟨by rfl, rfl⟩) hHeld ?_
      simp only [Act.put, pz0, pz1, pz2, pz3, pz4, pz5]
      refine wpAnyH_take (i := 49) (v := undef) rfl (by kernel_rfl) (by kernel_rfl) (by kernel_rfl) (fun _ _ _ h => h) (Or.inr ⟨by rfl, rfl⟩) hHeld ?_
      simp only [Act.put, pz0, pz1, pz2, pz3, pz4, pz5]
      refine wpAnyH_take (i := 50) (v := undef) rfl (by kernel_rfl) (by kernel_rfl) (by kernel_rfl) (fun _ _ _ h => h) (Or.inr ⟨by rfl, rfl⟩) hHeld ?_
      simp only [Act.put, pz0, pz1, pz2, pz3, pz4, pz5]
      refine wpAnyH_take (i := 51) (v := undef) rfl (by kernel_rfl) (by kernel_rfl) (by kernel_rfl) (fun _ _ _ h => h) (Or.inr ⟨by rfl, rfl⟩) hHeld ?_
      simp only [Act.put, pz0, pz1, pz2, pz3, pz4, pz5]
      refine wpAnyH_take (i := 52) (v := undef) rfl (by kernel_rfl) (by kernel_rfl) (by kernel_rfl) (fun _ _ _ h => h) (Or.inr ⟨by rfl, rfl⟩) hHeld ?_
      simp only [Act.put, pz0, pz1, pz2, pz3, pz4, pz5]
      refine wpAnyH_take (i := 53) (v := undef) rfl (by kernel_rfl) (by kernel_rfl) (by kernel_rfl) (fun _ _ _ h => h) (Or.inr ⟨by rfl, rfl⟩) hHeld ?_
      simp only [Act.put, pz0, pz1, pz2, pz3, pz4, pz5]
      refine wpAnyH_take (i := 54) (v := undef) rfl (by kernel_rfl) (by kernel_rfl) (by kernel_rfl) (fun _ _ _ h => h) (Or.inr ⟨by rfl, rfl⟩) hHeld ?_
      simp only [Act.put, pz0, pz1, pz2, pz3, pz4, pz5]
      refine wpAnyH_take (i := 55) (v := ?v68) rfl (by kernel_rfl) (by kernel_rfl) (by kernel_rfl) (fun _ _ _ h => h) (Or.inl ⟨by rfl, ?hy68⟩) hHeld ?rest68
      case hy68 => (intro w' hSw; (try dsimp only at hSw); first | (go_simp; done) | (go_simp; with_reducible rfl))
      simp only [Act.put, pz0, pz1, pz2, pz3, pz4, pz5]
      refine wpAnyH_done (by kernel_rfl) ?_ _
      refine NoPanic.normal ?_
      clear hHeld
      go_wp2_with fail
      go_ret
      exact ⟨retB HF.out.symm, hbd.trans (hb9.mono hbd.size)⟩
    have zl : ((l[k].key.length : Int) != l[0].key.length) = false := by rw [hl]; simp
    have zl' : ((l[k].key.length : Int) == l[0].key.length) = true := by rw [hl]; simp
    have HEQ := Lib.hid (show entW (wideOf l) l[k] = (decide (1 ≤ l[k].id) && decide (l[k].id ≤ 1000000000)) by unfold entW entryB; rw [hr, decide_eq_true (show 1 ≤ l[k].key.length by omega), HW.out, decide_eq_true hl]; simp)
    have HL := Lib.hid hl
    clear hr hl hl0
    cases hi : (decide (1 ≤ l[k].id) && decide (l[k].id ≤ 1000000000))
    · have HI := Lib.hid hi
      have HF := Lib.hid (HNO.out (by rw [HEQ.out, hi]))
      clear hi
      go_wp2_with fail
      refine wp_region_noPanic ?_
      refine wp_region_held_drew (S := fun w' => w'.cell? ⟨b1, o1 + k * 2, none⟩ = some (.slice A1 l[k].key.length c1) ∧ w'.cell? ⟨b1, o1 + k * 2 + 1, none⟩ = some (.int .i64 l[k].id) ∧ w'.cell? ⟨b1, o1, none⟩ = some (.slice A2 l[0].key.length c2)) (by kernel_rfl) D.out (fun hHeld => ?_)
      refine wpAnyH_take (i := 0) (v := ?v69) rfl (by kernel_rfl) (by kernel_rfl) (by kernel_rfl) (fun _ _ _ h => h) (Or.inl ⟨by rfl, ?hy69⟩) hHeld ?rest69
      case hy69 => (intro w' hSw; (try dsimp only at hSw); first | (go_simp; done) | (go_simp; with_reducible rfl))
      simp only [Act.put, pz0, pz1, pz2, pz3, pz4, pz5]
      refine wpAnyH_take (i := 1) (v := ?v70) rfl (by kernel_rfl) (by kernel_rfl) (by kernel_rfl) (fun _ _ _ h => h) (Or.inl ⟨by rfl, ?hy70⟩) hHeld ?rest70
      case hy70 => (intro w' hSw; (try dsimp only at hSw); first | (go_simp; done) | (go_simp; with_reducible rfl))
      simp only [Act.put, pz0, pz1, pz2, pz3, pz4, pz5]
      refine wpAnyH_take (i := 2) (v := ?v71) rfl (by kernel_rfl) (by kernel_rfl) (by kernel_rfl) (fun _ _ _ h => h) (Or.inl ⟨by rfl, ?hy71⟩) hHeld ?rest71
      case hy71 => (intro w' hSw; (try dsimp only at hSw); first | (go_simp; done) | (go_simp; with_reducible rfl))
      simp only [Act.put, pz0, pz1, pz2, pz3, pz4, pz5]
      refine wpAnyH_take (i := 3) (v := ?v72) rfl (by kernel_rfl) (by kernel_rfl) (by kernel_rfl) (fun _ _ _ h => h) (Or.inl ⟨by rfl, ?hy72⟩) hHeld ?rest72
      case hy72 => (intro w' hSw; (try dsimp only at hSw); first | (go_simp; done) | (go_simp; with_reducible rfl))
      simp only [Act.put, pz0, pz1, pz2, pz3, pz4, pz5]
      refine wpAnyH_take (i := 4) (v := ?v73) rfl (by kernel_rfl) (by kernel_rfl) (by kernel_rfl) (fun _ _ _ h => h) (Or.inl ⟨by rfl, ?hy73⟩) hHeld ?rest73
      case hy73 => (intro w' hSw; (try dsimp only at hSw); first | (go_simp; done) | (go_simp; with_reducible rfl))
      simp only [Act.put, pz0, pz1, pz2, pz3, pz4, pz5]
      refine wpAnyH_ready (rs := [5]) (by kernel_rfl) (by simp) ?_
      refine AllReadyH.cons rfl (fun K hK => ?_) AllReadyH.nil
      go_simp
      refine HX.out.mono ?_
      rintro e w9 ⟨rfl, hb9⟩
      rw [HR.out]
      go_wp2_with fail
      refine hK.out _ _ (keepC3 hHeld hb9) (fun hHeld => ?_)
      clear hK K
      (try simp only [Act.put, pz0, pz1, pz2, pz3, pz4, pz5])
      refine wpAnyH_take (i := 6) (v := ?v74) rfl (by kernel_rfl) (by kernel_rfl) (by kernel_rfl) (fun _ _ _ h => h) (Or.inl ⟨by rfl, ?hy74⟩) hHeld ?rest74
      case hy74 => (intro w' hSw; (try dsimp only at hSw); first | (go_simp; done) | (go_simp; with_reducible rfl))
      simp only [Act.put, pz0, pz1, pz2, pz3, pz4, pz5]
      refine wpAnyH_take (i := 7) (v := ?v75) rfl (by kernel_rfl) (by kernel_rfl) (by kernel_rfl) (fun _ _ _ h => h) (Or.inl ⟨by rfl, ?hy75⟩) hHeld ?rest75
      case hy75 => (intro w' hSw; (try dsimp only at hSw); first | (go_simp; done) | (go_simp; with_reducible rfl))
      simp only [Act.put, pz0, pz1, pz2, pz3, pz4, pz5]
      refine wpAnyH_take (i := 8) (v := ?v76) rfl (by kernel_rfl) (by kernel_rfl) (by kernel_rfl) (fun _ _ _ h => h) (Or.inl ⟨by rfl, ?hy76⟩) hHeld ?rest76
      case hy76 => (intro w' hSw; (try dsimp only at hSw); first | (go_simp; done) | (go_simp; with_reducible rfl))
      simp only [Act.put, pz0, pz1, pz2, pz3, pz4, pz5]
      refine wpAnyH_take (i := 9) (v := ?v77) rfl (by kernel_rfl) (by kernel_rfl) (by kernel_rfl) (fun _ _ _ h => h) (Or.inl ⟨by rfl, ?hy77⟩) hHeld ?rest77
      case hy77 => (intro w' hSw; (try dsimp only at hSw); first | (go_simp; done) | (go_simp; with_reducible rfl))
      simp only [Act.put, pz0, pz1, pz2, pz3, pz4, pz5]
      refine wpAnyH_take (i := 10) (v := ?v78) rfl (by kernel_rfl) (by kernel_rfl) (by kernel_rfl) (fun _ _ _ h => h) (Or.inl ⟨by rfl, ?hy78⟩) hHeld ?rest78
      case hy78 => (intro w' hSw; (try dsimp only at hSw); first | (go_simp; done) | (go_simp; with_reducible rfl))
      simp only [Act.put, pz0, pz1, pz2, pz3, pz4, pz5]
      refine wpAnyH_take (i := 11) (v := ?v79) rfl (by kernel_rfl) (by kernel_rfl) (by kernel_rfl) (fun _ _ _ h => h) (Or.inl ⟨by rfl, ?hy79⟩) hHeld ?rest79
      case hy79 => (intro w' hSw; (try dsimp only at hSw); first | (go_simp; done) | (go_simp; with_reducible rfl))
      simp only [Act.put, pz0, pz1, pz2, pz3, pz4, pz5]
      refine wpAnyH_take (i := 12) (v := ?v80) rfl (by kernel_rfl) (by kernel_rfl) (by kernel_rfl) (fun _ _ _ h => h) (Or.inl ⟨by rfl, ?hy80⟩) hHeld ?rest80
      case hy80 => (intro w' hSw; (try dsimp only at hSw); first | (go_simp; done) | (go_simp; with_reducible rfl))
      simp only [Act.put, pz0, pz1, pz2, pz3, pz4, pz5]
      refine wpAnyH_take (i := 13) (v := ?v81) rfl (by kernel_rfl) (by kernel_rfl) (by kernel_rfl) (fun _ _ _ h => h) (Or.inl ⟨by rfl, ?hy81⟩) hHeld ?rest81
      case hy81 => (intro w' hSw; (try dsimp only at hSw); first | (go_simp; done) | (go_simp; with_reducible rfl))
      simp only [Act.put, pz0, pz1, pz2, pz3, pz4, pz5]
      refine wpAnyH_take (i := 14) (v := ?v82) rfl (by kernel_rfl) (by kernel_rfl) (by kernel_rfl) (fun _ _ _ h => h) (Or.inl ⟨by rfl, ?hy82⟩) hHeld ?rest82
      case hy82 => (intro w' hSw; (try dsimp only at hSw); first | (go_simp; done) | (go_simp; with_reducible rfl))
      simp only [Act.put, pz0, pz1, pz2, pz3, pz4, pz5]
      refine wpAnyH_take (i := 15) (v := ?v83) rfl (by kernel_rfl) (by kernel_rfl) (by kernel_rfl) (fun _ _ _ h => h) (Or.inl ⟨by rfl, ?hy83⟩) hHeld ?rest83
      case hy83 => (intro w' hSw; (try dsimp only at hSw); first | (go_simp; done) | (go_simp; with_reducible rfl))
      simp only [Act.put, pz0, pz1, pz2, pz3, pz4, pz5]
      refine wpAnyH_take (i := 16) (v := ?v84) rfl (by kernel_rfl) (by kernel_rfl) (by kernel_rfl) (fun _ _ _ h => h) (Or.inl ⟨by rfl, ?hy84⟩) hHeld ?rest84
      case hy84 => (intro w' hSw; (try dsimp only at hSw); first | (go_simp; done) | (go_simp; with_reducible rfl))
      simp only [Act.put, pz0, pz1, pz2, pz3, pz4, pz5]
      refine wpAnyH_take (i := 17) (v := ?v85) rfl (by kernel_rfl) (by kernel_rfl) (by kernel_rfl) (fun _ _ _ h => h) (Or.inl ⟨by rfl, ?hy85⟩) hHeld ?rest85
      case hy85 => (intro w' hSw; (try dsimp only at hSw); first | (go_simp; done) | (go_simp; with_reducible rfl))
      simp only [Act.put, pz0, pz1, pz2, pz3, pz4, pz5]
      refine wpAnyH_take (i := 18) (v := ?v86) rfl (by kernel_rfl) (by kernel_rfl) (by kernel_rfl) (fun _ _ _ h => h) (Or.inl ⟨by rfl, ?hy86⟩) hHeld ?rest86
      case hy86 => (intro w' hSw; (try dsimp only at hSw); first | (go_simp; done) | (go_simp; with_reducible rfl))
      simp only [Act.put, pz0, pz1, pz2, pz3, pz4, pz5]
      refine wpAnyH_take (i := 19) (v := ?v87) rfl (by kernel_rfl) (by kernel_rfl) (by kernel_rfl) (fun _ _ _ h => h) (Or.inl ⟨by rfl, ?hy87⟩) hHeld ?rest87
      case hy87 => (intro w' hSw; (try dsimp only at hSw); first | (go_simp; done) | (go_simp; with_reducible rfl))
      simp only [Act.put, pz0, pz1, pz2, pz3, pz4, pz5]
      refine wpAnyH_take (i := 20) (v := ?v88) rfl (by kernel_rfl) (by kernel_rfl) (by kernel_rfl) (fun _ _ _ h => h) (Or.inl ⟨by rfl, ?hy88⟩) hHeld ?rest88
      case hy88 => (intro w' hSw; (try dsimp only at hSw); first | (go_simp; done) | (go_simp; with_reducible rfl))
      simp only [Act.put, pz0, pz1, pz2, pz3, pz4, pz5]
      refine wpAnyH_take (i := 21) (v := ?v89) rfl (by kernel_rfl) (by kernel_rfl) (by kernel_rfl) (fun _ _ _ h => h) (Or.inl ⟨by rfl, ?hy89⟩) hHeld ?rest89
      case hy89 => (intro w' hSw; (try dsimp only at hSw); first | (go_simp; done) | (go_simp; with_reducible rfl))
      simp only [Act.put, pz0, pz1, pz2, pz3, pz4, pz5]
      refine wpAnyH_take (i := 22) (v := ?v90) rfl (by kernel_rfl) (by kernel_rfl) (by kernel_rfl) (fun _ _ _ h => h) (Or.inl ⟨by rfl, ?hy90⟩) hHeld ?rest90
      case hy90 => (intro w' hSw; (try dsimp only at hSw); first | (go_simp; done) | (go_simp; with_reducible rfl))
      simp only [Act.put, pz0, pz1, pz2, pz3, pz4, pz5]
      refine wpAnyH_take (i := 23) (v := ?v91) rfl (by kernel_rfl) (by kernel_rfl) (by kernel_rfl) (fun _ _ _ h => h) (Or.inl ⟨by rfl, ?hy91⟩) hHeld ?rest91
      case hy91 => (intro w' hSw; (try dsimp only at hSw); first | (go_simp; done) | (go_simp; with_reducible rfl))
      simp only [Act.put, pz0, pz1, pz2, pz3, pz4, pz5]
      refine wpAnyH_take (i := 24) (v := ?v92) rfl (by kernel_rfl) (by kernel_rfl) (by kernel_rfl) (fun _ _ _ h => h) (Or.inl ⟨by rfl, ?hy92⟩) hHeld ?rest92
      case hy92 => (intro w' hSw; (try dsimp only at hSw); first | (go_simp; done) | (go_simp; with_reducible rfl))
      simp only [Act.put, pz0, pz1, pz2, pz3, pz4, pz5]
      refine wpAnyH_take (i := 25) (v := ?v93) rfl (by kernel_rfl) (by kernel_rfl) (by kernel_rfl) (fun _ _ _ h => h) (Or.inl ⟨by rfl, ?hy93⟩) hHeld ?rest93
      case hy93 => (intro w' hSw; (try dsimp only at hSw); first | (go_simp; done) | (go_simp; with_reducible rfl))
      simp only [Act.put, pz0, pz1, pz2, pz3, pz4, pz5]
      refine wpAnyH_take (i := 26) (v := ?v94) rfl (by kernel_rfl) (by kernel_rfl) (by kernel_rfl) (fun _ _ _ h => h) (Or.inl ⟨by rfl, ?hy94⟩) hHeld ?rest94
      case hy94 => (intro w' hSw; (try dsimp only at hSw); first | (go_simp; done) | (go_simp; with_reducible rfl))
      simp only [Act.put, pz0, pz1, pz2, pz3, pz4, pz5]
      refine wpAnyH_take (i := 27) (v := ?v95) rfl (by kernel_rfl) (by kernel_rfl) (by kernel_rfl) (fun _ _ _ h => h) (Or.inl ⟨by rfl, ?hy95⟩) hHeld ?rest95
      case hy95 => (intro w' hSw; (try dsimp only at hSw); first | (go_simp; done) | (go_simp; with_reducible rfl))
      simp only [Act.put, pz0, pz1, pz2, pz3, pz4, pz5]
      refine wpAnyH_take (i := 28) (v := ?v96) rfl (by kernel_rfl) (by kernel_rfl) (by kernel_rfl) (fun _ _ _ h => h) (Or.inl ⟨by rfl, ?hy96⟩) hHeld ?rest96
      case hy96 => (intro w' hSw; (try dsimp only at hSw); first | (go_simp; done) | (go_simp; with_reducible rfl))
      simp only [Act.put, pz0, pz1, pz2, pz3, pz4, pz5]
      refine wpAnyH_take (i := 29) (v := ?v97) rfl (by kernel_rfl) (by kernel_rfl) (by kernel_rfl) (fun _ _ _ h => h) (Or.inl ⟨by rfl, ?hy97⟩) hHeld ?rest97
      case hy97 => (intro w' hSw; (try dsimp only at hSw); first | (go_simp; done) | (go_simp; with_reducible rfl))
      simp only [Act.put, pz0, pz1, pz2, pz3, pz4, pz5]
      refine wpAnyH_take (i := 30) (v := ?v98) rfl (by kernel_rfl) (by kernel_rfl) (by kernel_rfl) (fun _ _ _ h => h) (Or.inl ⟨by rfl, ?hy98⟩) hHeld ?rest98
      case hy98 => (intro w' hSw; (try dsimp only at hSw); first | (go_simp; done) | (go_simp; with_reducible rfl))
      simp only [Act.put, pz0, pz1, pz2, pz3, pz4, pz5]
      refine wpAnyH_take (i := 31) (v := ?v99) rfl (by kernel_rfl) (by kernel_rfl) (by kernel_rfl) (fun _ _ _ h => h) (Or.inl ⟨by rfl, ?hy99⟩) hHeld ?rest99
      case hy99 => (intro w' hSw; (try dsimp only at hSw); first | (go_simp; done) | (go_simp; with_reducible rfl))
      simp only [Act.put, pz0, pz1, pz2, pz3, pz4, pz5]
      refine wpAnyH_take (i := 32) (v := ?v100) rfl (by kernel_rfl) (by kernel_rfl) (by kernel_rfl) (fun _ _ _ h => h) (Or.inl ⟨by rfl, ?hy100⟩) hHeld ?rest100
      case hy100 => (intro w' hSw; (try dsimp only at hSw); first | (go_simp; done) | (go_simp; with_reducible rfl))
      simp only [Act.put, pz0, pz1, pz2, pz3, pz4, pz5]
      refine wpAnyH_take (i := 33) (v := ?v101) rfl (by kernel_rfl) (by kernel_rfl) (by kernel_rfl) (fun _ _ _ h => h) (Or.inl ⟨by rfl, ?hy101⟩) hHeld ?rest101
      case hy101 => (intro w' hSw; (try dsimp only at hSw); first | (go_simp; done) | (go_simp; with_reducible rfl))
      simp only [Act.put, pz0, pz1, pz2, pz3, pz4, pz5]
      refine wpAnyH_take (i := 34) (v := ?v102) rfl (by kernel_rfl) (by kernel_rfl) (by kernel_rfl) (fun _ _ _ h => h) (Or.inl ⟨by rfl, ?hy102⟩) hHeld ?rest102
      case hy102 => (intro w' hSw; (try dsimp only at hSw); first | (go_simp; done) | (go_simp; with_reducible rfl))
      simp only [Act.put, pz0, pz1, pz2, pz3, pz4, pz5]
      refine wpAnyH_take (i := 35) (v := ?v103) rfl (by kernel_rfl) (by kernel_rfl) (by kernel_rfl) (fun _ _ _ h => h) (Or.inl ⟨by rfl, ?hy103⟩) hHeld ?rest103
      case hy103 => (intro w' hSw; (try dsimp only at hSw); first | (go_simp; done) | (go_simp; with_reducible rfl))
      simp only [Act.put, pz0, pz1, pz2, pz3, pz4, pz5]
      refine wpAnyH_ready (rs := [36]) (by kernel_rfl) (by simp) ?_
      refine AllReadyH.cons rfl (fun K hK => ?_) AllReadyH.nil
      go_simp
      refine (specInV HI.out _).mono ?_
      rintro e w8 ⟨rfl, rfl⟩
      go_wp2_with fail
      refine hK.out _ _ hHeld (fun hHeld => ?_)
      clear hK K
      (try simp only [Act.put, pz0, pz1, pz2, pz3, pz4, pz5])
      refine wpAnyH_take (i := 37) (v := ?v104) rfl (by kernel_rfl) (by kernel_rfl) (by kernel_rfl) (fun _ _ _ h => h) (Or.inl ⟨by rfl, ?hy104⟩) hHeld ?rest104
      case hy104 => (intro w' hSw; (try dsimp only at hSw); first | (go_simp; done) | (go_simp; with_reducible rfl))
      simp only [Act.put, pz0, pz1, pz2, pz3, pz4, pz5]
      refine wpAnyH_take (i := 38) (v := ?v105) rfl (by kernel_rfl) (by kernel_rfl) (by kernel_rfl) (fun _ _ _ h => h) (Or.inl ⟨by rfl, ?hy105⟩) hHeld ?rest105
      case hy105 => (intro w' hSw; (try dsimp only at hSw); first | (go_simp; done) | (go_simp; with_reducible rfl))
      simp only [Act.put, pz0, pz1, pz2, pz3, pz4, pz5]
      refine wpAnyH_take (i := 39) (v := ?v106) rfl (by kernel_rfl) (by kernel_rfl) (by kernel_rfl) (fun _ _ _ h => h) (Or.inl ⟨by rfl, ?hy106⟩) hHeld ?rest106
      case hy106 => (intro w' hSw; (try dsimp only at hSw); first | (go_simp; done) | (go_simp; with_reducible rfl))
      simp only [Act.put, pz0, pz1, pz2, pz3, pz4, pz5]
      refine wpAnyH_take (i := 40) (v := undef) rfl (by kernel_rfl) (by kernel_rfl) (by kernel_rfl) (fun _ _ _ h => h) (Or.inr ⟨by rfl, rfl⟩) hHeld ?_
      simp only [Act.put, pz0, pz1, pz2, pz3, pz4, pz5]
      refine wpAnyH_take (i := 41) (v := undef) rfl (by kernel_rfl) (by kernel_rfl) (by kernel_rfl) (fun _ _ _ h => h) (Or.inr ⟨by rfl, rfl⟩) hHeld ?_
      simp only [Act.put, pz0, pz1, pz2, pz3, pz4, pz5]
      refine wpAnyH_take (i := 42) (v := undef) rfl (by kernel_rfl) (by kernel_rfl) (by kernel_rfl) (fun _ _ _ h => h) (Or.inr ⟨by rfl, rfl⟩) hHeld ?_
      simp only [Act.put, pz0, pz1, pz2, pz3, pz4, pz5]
      refine wpAnyH_take (i := 43) (v := undef) rfl (by kernel_rfl) (by kernel_rfl) (by kernel_rfl) (fun _ _ _ h => h) (Or.inr ⟨by rfl, rfl⟩) hHeld ?_
      simp only [Act.put, pz0, pz1, pz2, pz3, pz4, pz5]
      refine wpAnyH_take (i := 44) (v := undef) rfl (by kernel_rfl) (by kernel_rfl) (by kernel_rfl) (fun _ _ _ h => h) (Or.inr ⟨by rfl, rfl⟩) hHeld ?_
      simp only [Act.put, pz0, pz1, pz2, pz3, pz4, pz5]
      refine wpAnyH_take (i := 45) (v := undef) rfl (by kernel_rfl) (by kernel_rfl) (by kernel_rfl) (fun _ _ _ h => h) (Or.inr ⟨by rfl, rfl⟩) hHeld ?_
      simp only [Act.put, pz0, pz1, pz2, pz3, pz4, pz5]
      refine wpAnyH_take (i := 46) (v := undef) rfl (by kernel_rfl) (by kernel_rfl) (by kernel_rfl) (fun _ _ _ h => h) (Or.inr ⟨by rfl, rfl⟩) hHeld ?_
      simp only [Act.put, pz0, pz1, pz2, pz3, pz4, pz5]
      refine wpAnyH_take (i := 47) (v := undef) rfl (by kernel_rfl) (by kernel_rfl) (by kernel_rfl) (fun _ _ _ h => h) (Or.inr ⟨by rfl, rfl⟩) hHeld ?_
      simp only [Act.put, pz0, pz1, pz2, pz3, pz4, pz5]
      refine wpAnyH_take (i := 48) (v := undef) rfl (by kernel_rfl) (by kernel_rfl) (by kernel_rfl) (fun _ _ _ h => h) (Or.inr ⟨by rfl, rfl⟩) hHeld ?_
      simp only [Act.put, pz0, pz1, pz2, pz3, pz4, pz5]
      refine wpAnyH_take (i := 49) (v := undef) rfl (by kernel_rfl) (by kernel_rfl) (by kernel_rfl) (fun _ _ _ h => h) (Or.inr ⟨by rfl, rfl⟩) hHeld ?_
      simp only [Act.put, pz0, pz1, pz2, pz3, pz4, pz5]
      refine wpAnyH_take (i := 50) (v := undef) rfl (by kernel_rfl) (by kernel_rfl) (by kernel_rfl) (fun _ _ _ h => h) (Or.inr ⟨by rfl, rfl⟩) hHeld ?_
      simp only [Act.put, pz0, pz1, pz2, pz3, pz4, pz5]
      refine wpAnyH_take (i := 51) (v := undef) rfl (by kernel_rfl) (by kernel_rfl) (by kernel_rfl) (fun _ _ _ h => h) (Or.inr ⟨by rfl, rfl⟩) hHeld ?_
      simp only [Act.put, pz0, pz1, pz2, pz3, pz4, pz5]
      refine wpAnyH_take (i := 52) (v := undef) rfl (by kernel_rfl) (by kernel_rfl) (by kernel_rfl) (fun _ _ _ h => h) (Or.inr ⟨by rfl, rfl⟩) hHeld ?_
      simp only [Act.put, pz0, pz1, pz2, pz3, pz4, pz5]
      refine wpAnyH_take (i := 53) (v := undef) rfl (by kernel_rfl) (by kernel_rfl) (by kernel_rfl) (fun _ _ _ h => h) (Or.inr ⟨by rfl, rfl⟩) hHeld ?_
      simp only [Act.put, pz0, pz1, pz2, pz3, pz4, pz5]
      refine wpAnyH_take (i := 54) (v := undef) rfl (by kernel_rfl) (by kernel_rfl) (by kernel_rfl) (fun _ _ _ h => h) (Or.inr ⟨by rfl, rfl⟩) hHeld ?_
      simp only [Act.put, pz0, pz1, pz2, pz3, pz4, pz5]
      refine wpAnyH_take (i := 55) (v := ?v107) rfl (by kernel_rfl) (by kernel_rfl) (by kernel_rfl) (fun _ _ _ h => h) (Or.inl ⟨by rfl, ?hy107⟩) hHeld ?rest107
      case hy107 => (intro w' hSw; (try dsimp only at hSw); first | (go_simp; done) | (go_simp; with_reducible rfl))
      simp only [Act.put, pz0, pz1, pz2, pz3, pz4, pz5]
      refine wpAnyH_done (by kernel_rfl) ?_ _
      refine NoPanic.normal ?_
      clear hHeld
      go_wp2_with fail
      go_ret
      exact ⟨retB HF.out.symm, hbd.trans (hb9.mono hbd.size)⟩
    have HI := Lib.hid hi
    have HA := Lib.hid (show (l.take (k + 1)).all (entW (wideOf l)) = true by rw [HST.out, hall.out, HEQ.out, hi]; rfl)
    clear hi
    by_cases hk0 : k = 0
    · have zk : decide ((0 : Int) < k) = false := decide_eq_false (by omega)
      have zk' : decide (0 < k) = false := decide_eq_false (by omega)
      have HU := Lib.hid (show (List.range (k + 1 - 1)).all (upB l) = true by rw [hk0]; simp)
      clear hk0
      go_wp2_with fail
      refine wp_region_noPanic ?_
      refine wp_region_held_drew (S := fun w' => w'.cell? ⟨b1, o1 + k * 2, none⟩ = some (.slice A1 l[k].key.length c1) ∧ w'.cell? ⟨b1, o1 + k * 2 + 1, none⟩ = some (.int .i64 l[k].id) ∧ w'.cell? ⟨b1, o1, none⟩ = some (.slice A2 l[0].key.length c2)) (by kernel_rfl) D.out (fun hHeld => ?_)
      refine wpAnyH_take (i := 0) (v := ?v108) rfl (by kernel_rfl) (by kernel_rfl) (by kernel_rfl) (fun _ _ _ h => h) (Or.inl ⟨by rfl, ?hy108⟩) hHeld ?rest108
      case hy108 => (intro w' hSw; (try dsimp only at hSw); first | (go_simp; done) | (go_simp; with_reducible rfl))
      simp only [Act.put, pz0, pz1, pz2, pz3, pz4, pz5]
      refine wpAnyH_take (i := 1) (v := ?v109) rfl (by kernel_rfl) (by kernel_rfl) (by kernel_rfl) (fun _ _ _ h => h) (Or.inl ⟨by rfl, ?hy109⟩) hHeld ?rest109
      case hy109 => (intro w' hSw; (try dsimp only at hSw); first | (go_simp; done) | (go_simp; with_reducible rfl))
      simp only [Act.put, pz0, pz1, pz2, pz3, pz4, pz5]
      refine wpAnyH_take (i := 2) (v := ?v110) rfl (by kernel_rfl) (by kernel_rfl) (by kernel_rfl) (fun _ _ _ h => h) (Or.inl ⟨by rfl, ?hy110⟩) hHeld ?rest110
      case hy110 => (intro w' hSw; (try dsimp only at hSw); first | (go_simp; done) | (go_simp; with_reducible rfl))
      simp only [Act.put, pz0, pz1, pz2, pz3, pz4, pz5]
      refine wpAnyH_take (i := 3) (v := ?v111) rfl (by kernel_rfl) (by kernel_rfl) (by kernel_rfl) (fun _ _ _ h => h) (Or.inl ⟨by rfl, ?hy111⟩) hHeld ?rest111
      case hy111 => (intro w' hSw; (try dsimp only at hSw); first | (go_simp; done) | (go_simp; with_reducible rfl))
      simp only [Act.put, pz0, pz1, pz2, pz3, pz4, pz5]
      refine wpAnyH_take (i := 4) (v := ?v112) rfl (by kernel_rfl) (by kernel_rfl) (by kernel_rfl) (fun _ _ _ h => h) (Or.inl ⟨by rfl, ?hy112⟩) hHeld ?rest112
      case hy112 => (intro w' hSw; (try dsimp only at hSw); first | (go_simp; done) | (go_simp; with_reducible rfl))
      simp only [Act.put, pz0, pz1, pz2, pz3, pz4, pz5]
      refine wpAnyH_ready (rs := [5]) (by kernel_rfl) (by simp) ?_
      refine AllReadyH.cons rfl (fun K hK => ?_) AllReadyH.nil
      go_simp
      refine HX.out.mono ?_
      rintro e w9 ⟨rfl, hb9⟩
      rw [HR.out]
      go_wp2_with fail
      refine hK.out _ _ (keepC3 hHeld hb9) (fun hHeld => ?_)
      clear hK K
      (try simp only [Act.put, pz0, pz1, pz2, pz3, pz4, pz5])
      refine wpAnyH_take (i := 6) (v := ?v113) rfl (by kernel_rfl) (by kernel_rfl) (by kernel_rfl) (fun _ _ _ h => h) (Or.inl ⟨by rfl, ?hy113⟩) hHeld ?rest113
      case hy113 => (intro w' hSw; (try dsimp only at hSw); first | (go_simp; done) | (go_simp; with_reducible rfl))
      simp only [Act.put, pz0, pz1, pz2, pz3, pz4, pz5]
      refine wpAnyH_take (i := 7) (v := ?v114) rfl (by kernel_rfl) (by kernel_rfl) (by kernel_rfl) (fun _ _ _ h => h) (Or.inl ⟨by rfl, ?hy114⟩) hHeld ?rest114
      case hy114 => (intro w' hSw; (try dsimp only at hSw); first | (go_simp; done) | (go_simp; with_reducible rfl))
      simp only [Act.put, pz0, pz1, pz2, pz3, pz4, pz5]
      refine wpAnyH_take (i := 8) (v := ?v115) rfl (by kernel_rfl) (by kernel_rfl) (by kernel_rfl) (fun _ _ _ h => h) (Or.inl ⟨by rfl, ?hy115⟩) hHeld ?rest115
      case hy115 => (intro w' hSw; (try dsimp only at hSw); first | (go_simp; done) | (go_simp; with_reducible rfl))
      simp only [Act.put, pz0, pz1, pz2, pz3, pz4, pz5]
      refine wpAnyH_take (i := 9) (v := ?v116) rfl (by kernel_rfl) (by kernel_rfl) (by kernel_rfl) (fun _ _ _ h => h) (Or.inl ⟨by rfl, ?hy116⟩) hHeld ?rest116
      case hy116 => (intro w' hSw; (try dsimp only at hSw); first | (go_simp; done) | (go_simp; with_reducible rfl))
      simp only [Act.put, pz0, pz1, pz2, pz3, pz4, pz5]
      refine wpAnyH_take (i := 10) (v := ?v117) rfl (by kernel_rfl) (by kernel_rfl) (by kernel_rfl) (fun _ _ _ h => h) (Or.inl ⟨by rfl, ?hy117⟩) hHeld ?rest117
      case hy117 => (intro w' hSw; (try dsimp only at hSw); first | (go_simp; done) | (go_simp; with_reducible rfl))
      simp only [Act.put, pz0, pz1, pz2, pz3, pz4, pz5]
      refine wpAnyH_take (i := 11) (v := ?v118) rfl (by kernel_rfl) (by kernel_rfl) (by kernel_rfl) (fun _ _ _ h => h) (Or.inl ⟨by rfl, ?hy118⟩) hHeld ?rest118
      case hy118 => (intro w' hSw; (try dsimp only at hSw); first | (go_simp; done) | (go_simp; with_reducible rfl))
      simp only [Act.put, pz0, pz1, pz2, pz3, pz4, pz5]
      refine wpAnyH_take (i := 12) (v := ?v119) rfl (by kernel_rfl) (by kernel_rfl) (by kernel_rfl) (fun _ _ _ h => h) (Or.inl ⟨by rfl, ?hy119⟩) hHeld ?rest119
      case hy119 => (intro w' hSw; (try dsimp only at hSw); first | (go_simp; done) | (go_simp; with_reducible rfl))
      simp only [Act.put, pz0, pz1, pz2, pz3, pz4, pz5]
      refine wpAnyH_take (i := 13) (v := ?v120) rfl (by kernel_rfl) (by kernel_rfl) (by kernel_rfl) (fun _ _ _ h => h) (Or.inl ⟨by rfl, ?hy120⟩) hHeld ?rest120
      case hy120 => (intro w' hSw; (try dsimp only at hSw); first | (go_simp; done) | (go_simp; with_reducible rfl))
      simp only [Act.put, pz0, pz1, pz2, pz3, pz4, pz5]
      refine wpAnyH_take (i := 14) (v := ?v121) rfl (by kernel_rfl) (by kernel_rfl) (by kernel_rfl) (fun _ _ _ h => h) (Or.inl ⟨by rfl, ?hy121⟩) hHeld ?rest121
      case hy121 => (intro w' hSw; (try dsimp only at hSw); first | (go_simp; done) | (go_simp; with_reducible rfl))
      simp only [Act.put, pz0, pz1, pz2, pz3, pz4, pz5]
      refine wpAnyH_take (i := 15) (v := ?v122) rfl (by kernel_rfl) (by kernel_rfl) (by kernel_rfl) (fun _ _ _ h => h) (Or.inl ⟨by rfl, ?hy122⟩) hHeld ?rest122
      case hy122 => (intro w' hSw; (try dsimp only at hSw); first | (go_simp; done) | (go_simp; with_reducible rfl))
      simp only [Act.put, pz0, pz1, pz2, pz3, pz4, pz5]
      refine wpAnyH_take (i := 16) (v := ?v123) rfl (by kernel_rfl) (by kernel_rfl) (by kernel_rfl) (fun _ _ _ h => h) (Or.inl ⟨by rfl, ?hy123⟩) hHeld ?rest123
      case hy123 => (intro w' hSw; (try dsimp only at hSw); first | (go_simp; done) | (go_simp; with_reducible rfl))
      simp only [Act.put, pz0, pz1, pz2, pz3, pz4, pz5]
      refine wpAnyH_take (i := 17) (v := ?v124) rfl (by kernel_rfl) (by kernel_rfl) (by kernel_rfl) (fun _ _ _ h => h) (Or.inl ⟨by rfl, ?hy124⟩) hHeld ?rest124
      case hy124 => (intro w' hSw; (try dsimp only at hSw); first | (go_simp; done) | (go_simp; with_reducible rfl))
      simp only [Act.put, pz0, pz1, pz2, pz3, pz4, pz5]
      refine wpAnyH_take (i := 18) (v := ?v125) rfl (by kernel_rfl) (by kernel_rfl) (by kernel_rfl) (fun _ _ _ h => h) (Or.inl ⟨by rfl, ?hy125⟩) hHeld ?rest125
      case hy125 => (intro w' hSw; (try dsimp only at hSw); first | (go_simp; done) | (go_simp; with_reducible rfl))
      simp only [Act.put, pz0, pz1, pz2, pz3, pz4, pz5]
      refine wpAnyH_take (i := 19) (v := ?v126) rfl (by kernel_rfl) (by kernel_rfl) (by kernel_rfl) (fun _ _ _ h => h) (Or.inl ⟨by rfl, ?hy126⟩) hHeld ?rest126
      case hy126 => (intro w' hSw; (try dsimp only at hSw); first | (go_simp; done) | (go_simp; with_reducible rfl))
      simp only [Act.put, pz0, pz1, pz2, pz3, pz4, pz5]
      refine wpAnyH_take (i := 20) (v := ?v127) rfl (by kernel_rfl) (by kernel_rfl) (by kernel_rfl) (fun _ _ _ h => h) (Or.inl ⟨by rfl, ?hy127⟩) hHeld ?rest127
      case hy127 => (intro w' hSw; (try dsimp only at hSw); first | (go_simp; done) | (go_simp; with_reducible rfl))
      simp only [Act.put, pz0, pz1, pz2, pz3, pz4, pz5]
      refine wpAnyH_take (i := 21) (v := ?v128) rfl (by kernel_rfl) (by kernel_rfl) (by kernel_rfl) (fun _ _ _ h => h) (Or.inl ⟨by rfl, ?hy128⟩) hHeld ?rest128
      case hy128 => (intro w' hSw; (try dsimp only at hSw); first | (go_simp; done) | (go_simp; with_reducible rfl))
      simp only [Act.put, pz0, pz1, pz2, pz3, pz4, pz5]
      refine wpAnyH_take (i := 22) (v := ?v129) rfl (by kernel_rfl) (by kernel_rfl) (by kernel_rfl) (fun _ _ _ h => h) (Or.inl ⟨by rfl, ?hy129⟩) hHeld ?rest129
      case hy129 => (intro w' hSw; (try dsimp only at hSw); first | (go_simp; done) | (go_simp; with_reducible rfl))
      simp only [Act.put, pz0, pz1, pz2, pz3, pz4, pz5]
      refine wpAnyH_take (i := 23) (v := ?v130) rfl (by kernel_rfl) (by kernel_rfl) (by kernel_rfl) (fun _ _ _ h => h) (Or.inl ⟨by rfl, ?hy130⟩) hHeld ?rest130
      case hy130 => (intro w' hSw; (try dsimp only at hSw); first | (go_simp; done) | (go_simp; with_reducible rfl))
      simp only [Act.put, pz0, pz1, pz2, pz3, pz4, pz5]
      refine wpAnyH_take (i := 24) (v := ?v131) rfl (by kernel_rfl) (by kernel_rfl) (by kernel_rfl) (fun _ _ _ h => h) (Or.inl ⟨by rfl, ?hy131⟩) hHeld ?rest131
      case hy131 => (intro w' hSw; (try dsimp only at hSw); first | (go_simp; done) | (go_simp; with_reducible rfl))
      simp only [Act.put, pz0, pz1, pz2, pz3, pz4, pz5]
      refine wpAnyH_take (i := 25) (v := ?v132) rfl (by kernel_rfl) (by kernel_rfl) (by kernel_rfl) (fun _ _ _ h => h) (Or.inl ⟨by rfl, ?hy132⟩) hHeld ?rest132
      case hy132 => (intro w' hSw; (try dsimp only at hSw); first | (go_simp; done) | (go_simp; with_reducible rfl))
      simp only [Act.put, pz0, pz1, pz2, pz3, pz4, pz5]
      refine wpAnyH_take (i := 26) (v := ?v133) rfl (by kernel_rfl) (by kernel_rfl) (by kernel_rfl) (fun _ _ _ h => h) (Or.inl ⟨by rfl, ?hy133⟩) hHeld ?rest133
      case hy133 => (intro w' hSw; (try dsimp only at hSw); first | (go_simp; done) | (go_simp; with_reducible rfl))
      simp only [Act.put, pz0, pz1, pz2, pz3, pz4, pz5]
      refine wpAnyH_take (i := 27) (v := ?v134) rfl (by kernel_rfl) (by kernel_rfl) (by kernel_rfl) (fun _ _ _ h => h) (Or.inl ⟨by rfl, ?hy134⟩) hHeld ?rest134
      case hy134 => (intro w' hSw; (try dsimp only at hSw); first | (go_simp; done) | (go_simp; with_reducible rfl))
      simp only [Act.put, pz0, pz1, pz2, pz3, pz4, pz5]
      refine wpAnyH_take (i := 28) (v := ?v135) rfl (by kernel_rfl) (by kernel_rfl) (by kernel_rfl) (fun _ _ _ h => h) (Or.inl ⟨by rfl, ?hy135⟩) hHeld ?rest135
      case hy135 => (intro w' hSw; (try dsimp only at hSw); first | (go_simp; done) | (go_simp; with_reducible rfl))
      simp only [Act.put, pz0, pz1, pz2, pz3, pz4, pz5]
      refine wpAnyH_take (i := 29) (v := ?v136) rfl (by kernel_rfl) (by kernel_rfl) (by kernel_rfl) (fun _ _ _ h => h) (Or.inl ⟨by rfl, ?hy136⟩) hHeld ?rest136
      case hy136 => (intro w' hSw; (try dsimp only at hSw); first | (go_simp; done) | (go_simp; with_reducible rfl))
      simp only [Act.put, pz0, pz1, pz2, pz3, pz4, pz5]
      refine wpAnyH_take (i := 30) (v := ?v137) rfl (by kernel_rfl) (by kernel_rfl) (by kernel_rfl) (fun _ _ _ h => h) (Or.inl ⟨by rfl, ?hy137⟩) hHeld ?rest137
      case hy137 => (intro w' hSw; (try dsimp only at hSw); first | (go_simp; done) | (go_simp; with_reducible rfl))
      simp only [Act.put, pz0, pz1, pz2, pz3, pz4, pz5]
      refine wpAnyH_take (i := 31) (v := ?v138) rfl (by kernel_rfl) (by kernel_rfl) (by kernel_rfl) (fun _ _ _ h => h) (Or.inl ⟨by rfl, ?hy138⟩) hHeld ?rest138
      case hy138 => (intro w' hSw; (try dsimp only at hSw); first | (go_simp; done) | (go_simp; with_reducible rfl))
      simp only [Act.put, pz0, pz1, pz2, pz3, pz4, pz5]
      refine wpAnyH_take (i := 32) (v := ?v139) rfl (by kernel_rfl) (by kernel_rfl) (by kernel_rfl) (fun _ _ _ h => h) (Or.inl ⟨by rfl, ?hy139⟩) hHeld ?rest139
      case hy139 => (intro w' hSw; (try dsimp only at hSw); first | (go_simp; done) | (go_simp; with_reducible rfl))
      simp only [Act.put, pz0, pz1, pz2, pz3, pz4, pz5]
      refine wpAnyH_take (i := 33) (v := ?v140) rfl (by kernel_rfl) (by kernel_rfl) (by kernel_rfl) (fun _ _ _ h => h) (Or.inl ⟨by rfl, ?hy140⟩) hHeld ?rest140
      case hy140 => (intro w' hSw; (try dsimp only at hSw); first | (go_simp; done) | (go_simp; with_reducible rfl))
      simp only [Act.put, pz0, pz1, pz2, pz3, pz4, pz5]
      refine wpAnyH_take (i := 34) (v := ?v141) rfl (by kernel_rfl) (by kernel_rfl) (by kernel_rfl) (fun _ _ _ h => h) (Or.inl ⟨by rfl, ?hy141⟩) hHeld ?rest141
      case hy141 => (intro w' hSw; (try dsimp only at hSw); first | (go_simp; done) | (go_simp; with_reducible rfl))
      simp only [Act.put, pz0, pz1, pz2, pz3, pz4, pz5]
      refine wpAnyH_take (i := 35) (v := ?v142) rfl (by kernel_rfl) (by kernel_rfl) (by kernel_rfl) (fun _ _ _ h => h) (Or.inl ⟨by rfl, ?hy142⟩) hHeld ?rest142
      case hy142 => (intro w' hSw; (try dsimp only at hSw); first | (go_simp; done) | (go_simp; with_reducible rfl))
      simp only [Act.put, pz0, pz1, pz2, pz3, pz4, pz5]
      refine wpAnyH_ready (rs := [36]) (by kernel_rfl) (by simp) ?_
      refine AllReadyH.cons rfl (fun K hK => ?_) AllReadyH.nil
      go_simp
      refine (specInV HI.out _).mono ?_
      rintro e w8 ⟨rfl, rfl⟩
      go_wp2_with fail
      refine hK.out _ _ hHeld (fun hHeld => ?_)
      clear hK K
      (try simp only [Act.put, pz0, pz1, pz2, pz3, pz4, pz5])
      refine wpAnyH_take (i := 37) (v := ?v143) rfl (by kernel_rfl) (by kernel_rfl) (by kernel_rfl) (fun _ _ _ h => h) (Or.inl ⟨by rfl, ?hy143⟩) hHeld ?rest143
      case hy143 => (intro w' hSw; (try dsimp only at hSw); first | (go_simp; done) | (go_simp; with_reducible rfl))
      simp only [Act.put, pz0, pz1, pz2, pz3, pz4, pz5]
      refine wpAnyH_take (i := 38) (v := ?v144) rfl (by kernel_rfl) (by kernel_rfl) (by kernel_rfl) (fun _ _ _ h => h) (Or.inl ⟨by rfl, ?hy144⟩) hHeld ?rest144
      case hy144 => (intro w' hSw; (try dsimp only at hSw); first | (go_simp; done) | (go_simp; with_reducible rfl))
      simp only [Act.put, pz0, pz1, pz2, pz3, pz4, pz5]
      refine wpAnyH_take (i := 39) (v := ?v145) rfl (by kernel_rfl) (by kernel_rfl) (by kernel_rfl) (fun _ _ _ h => h) (Or.inl ⟨by rfl, ?hy145⟩) hHeld ?rest145
      case hy145 => (intro w' hSw; (try dsimp only at hSw); first | (go_simp; done) | (go_simp; with_reducible rfl))
      simp only [Act.put, pz0, pz1, pz2, pz3, pz4, pz5]
      refine wpAnyH_take (i := 40) (v := ?v146) rfl (by kernel_rfl) (by kernel_rfl) (by kernel_rfl) (fun _ _ _ h => h) (Or.inl ⟨by rfl, ?hy146⟩) hHeld ?rest146
      case hy146 => (intro w' hSw; (try dsimp only at hSw); first | (go_simp; done) | (go_simp; with_reducible rfl))
      simp only [Act.put, pz0, pz1, pz2, pz3, pz4, pz5]
      refine wpAnyH_take (i := 41) (v := ?v147) rfl (by kernel_rfl) (by kernel_rfl) (by kernel_rfl) (fun _ _ _ h => h) (Or.inl ⟨by rfl, ?hy147⟩) hHeld ?rest147
      case hy147 => (intro w' hSw; (try dsimp only at hSw); first | (go_simp; done) | (go_simp; with_reducible rfl))
      simp only [Act.put, pz0, pz1, pz2, pz3, pz4, pz5]
      refine wpAnyH_take (i := 42) (v := ?v148) rfl (by kernel_rfl) (by kernel_rfl) (by kernel_rfl) (fun _ _ _ h => h) (Or.inl ⟨by rfl, ?hy148⟩) hHeld ?rest148
      case hy148 => (intro w' hSw; (try dsimp only at hSw); first | (go_simp; done) | (go_simp; with_reducible rfl))
      simp only [Act.put, pz0, pz1, pz2, pz3, pz4, pz5]
      refine wpAnyH_take (i := 43) (v := undef) rfl (by kernel_rfl) (by kernel_rfl) (by kernel_rfl) (fun _ _ _ h => h) (Or.inr ⟨by rfl, rfl⟩) hHeld ?_
      simp only [Act.put, pz0, pz1, pz2, pz3, pz4, pz5]
      refine wpAnyH_take (i := 44) (v := undef) rfl (by kernel_rfl) (by kernel_rfl) (by kernel_rfl) (fun _ _ _ h => h) (Or.inr ⟨by rfl, rfl⟩) hHeld ?_
      simp only [Act.put, pz0, pz1, pz2, pz3, pz4, pz5]
      refine wpAnyH_take (i := 45) (v := undef) rfl (by kernel_rfl) (by kernel_rfl) (by kernel_rfl) (fun _ _ _ h => h) (Or.inr ⟨by rfl, rfl⟩) hHeld ?_
      simp only [Act.put, pz0, pz1, pz2, pz3, pz4, pz5]
      refine wpAnyH_take (i := 46) (v := undef) rfl (by kernel_rfl) (by kernel_rfl) (by kernel_rfl) (fun _ _ _ h => h) (Or.inr ⟨by rfl, rfl⟩) hHeld ?_
      simp only [Act.put, pz0, pz1, pz2, pz3, pz4, pz5]
      refine wpAnyH_take (i := 47) (v := undef) rfl (by kernel_rfl) (by kernel_rfl) (by kernel_rfl) (fun _ _ _ h => h) (Or.inr ⟨by rfl, rfl⟩) hHeld ?_
      simp only [Act.put, pz0, pz1, pz2, pz3, pz4, pz5]
      refine wpAnyH_take (i := 48) (v := undef) rfl (by kernel_rfl) (by kernel_rfl) (by kernel_rfl) (fun _ _ _ h => h) (Or.inr ⟨by rfl, rfl⟩) hHeld ?_
      simp only [Act.put, pz0, pz1, pz2, pz3, pz4, pz5]
      refine wpAnyH_take (i := 49) (v := undef) rfl (by kernel_rfl) (by kernel_rfl) (by kernel_rfl) (fun _ _ _ h => h) (Or.inr ⟨by rfl, rfl⟩) hHeld ?_
      simp only [Act.put, pz0, pz1, pz2, pz3, pz4, pz5]
      refine wpAnyH_take (i := 50) (v := undef) rfl (by kernel_rfl) (by kernel_rfl) (by kernel_rfl) (fun _ _ _ h => h) (Or.inr ⟨by rfl, rfl⟩) hHeld ?_
      simp only [Act.put, pz0, pz1, pz2, pz3, pz4, pz5]
      refine wpAnyH_take (i := 51) (v := undef) rfl (by kernel_rfl) (by kernel_rfl) (by kernel_rfl) (fun _ _ _ h => h) (Or.inr ⟨by rfl, rfl⟩) hHeld ?_
      simp only [Act.put, pz0, pz1, pz2, pz3, pz4, pz5]
      refine wpAnyH_take (i := 52) (v := undef) rfl (by kernel_rfl) (by kernel_rfl) (by kernel_rfl) (fun _ _ _ h => h) (Or.inr ⟨by rfl, rfl⟩) hHeld ?_
      simp only [Act.put, pz0, pz1, pz2, pz3, pz4, pz5]
      refine wpAnyH_take (i := 53) (v := undef) rfl (by kernel_rfl) (by kernel_rfl) (by kernel_rfl) (fun _ _ _ h => h) (Or.inr ⟨by rfl, rfl⟩) hHeld ?_
      simp only [Act.put, pz0, pz1, pz2, pz3, pz4, pz5]
      refine wpAnyH_take (i := 54) (v := ?v149) rfl (by kernel_rfl) (by kernel_rfl) (by kernel_rfl) (fun _ _ _ h => h) (Or.inl ⟨by rfl, ?hy149⟩) hHeld ?rest149
      case hy149 => (intro w' hSw; (try dsimp only at hSw); first | (go_simp; done) | (go_simp; with_reducible rfl))
      simp only [Act.put, pz0, pz1, pz2, pz3, pz4, pz5]
      refine wpAnyH_take (i := 55) (v := ?v150) rfl (by kernel_rfl) (by kernel_rfl) (by kernel_rfl) (fun _ _ _ h => h) (Or.inl ⟨by rfl, ?hy150⟩) hHeld ?rest150
      case hy150 => (intro w' hSw; (try dsimp only at hSw); first | (go_simp; done) | (go_simp; with_reducible rfl))
      simp only [Act.put, pz0, pz1, pz2, pz3, pz4, pz5]
      refine wpAnyH_done (by kernel_rfl) ?_ _
      refine NoPanic.normal ?_
      clear hHeld
      go_wp2_with fail
      go_roundw
      case rel => exact ⟨k + 1, by omega, by go_num, HA, HU, hbd.trans (hb9.mono hbd.size)⟩
      case measure => simp [intOf]; omega
    obtain ⟨b3, o3, A3, n3, c3, -, e3, p0, p1, s3, -⟩ := EnR.at_ HSL.out (i := k - 1) (by omega)
    obtain ⟨rfl, rfl⟩ : b1 = b3 ∧ o1 = o3 := by simpa using e3
    obtain rfl : l[k - 1].key.length = n3 := s3.1
    have zk : decide ((0 : Int) < k) = true := decide_eq_true (by omega)
    have zk' : decide (0 < k) = true := decide_eq_true (by omega)
    have t0 : IntKind.i64.wrap ((k : Int) - 1) = (k : Int) - 1 := IntWalk.i64_in _ (by omega)
    have t1 : (0 : Int) ≤ (k : Int) - 1 := by omega
    have t1' : (1 : Int) ≤ k := by omega
    have t2 : (k : Int) - 1 < l.length := by omega
    have t3 : ((k : Int) - 1).toNat = k - 1 := by omega
    have E0 : wr.drew.cell? ⟨b1, o1 + (k - 1) * 2, none⟩ = some (.slice A3 l[k - 1].key.length c3) := p0
    have E1 : wr.drew.cell? ⟨b1, o1 + (k - 1) * 2 + 1, none⟩ = some (.int .i64 l[k - 1].id) := p1
    have DE := Lib.hid (show _ ∧ _ ∧ _ ∧ _ ∧ _ from ⟨D.out.1, D.out.2.1, D.out.2.2, E0, E1⟩)
    have HPREV := Lib.hid (show entryB l[k - 1] = true ∧ l[k - 1].key.length = wideOf l by
      have h1 := List.all_eq_true.1 hall.out l[k - 1] (by rw [List.mem_take_iff_getElem]; exact ⟨k - 1, by omega, rfl⟩)
      unfold entW at h1
      simpa using h1)
    have HCUR := Lib.hid (show entryB l[k] = true ∧ l[k].key.length = wideOf l by
      have h1 := List.all_eq_true.1 HA.out l[k] (by rw [List.mem_take_iff_getElem]; exact ⟨k, by omega, rfl⟩)
      unfold entW at h1
      simpa using h1)
    have HLE := Lib.hid (lessE_right HPREV.out.1 HCUR.out.1 (HPREV.out.2.trans HCUR.out.2.symm))
    have HSP := Lib.hid (Sl.below VlR.stays s3 (Below.refl _ _).drew)
    have HSC := Lib.hid (Sl.below VlR.stays HS1.out (Below.refl _ _).drew)
    have HN1 := Lib.hid (HK.out _ (List.getElem_mem (show k - 1 < l.length by omega)))
    have HN2 := Lib.hid (HK.out _ (List.getElem_mem hlt))
    have hun : ¬ ordE l[k - 1] l[k] < 0 → risesB l = false := by
      intro hn
      have e : k - 1 + 1 = k := by omega
      refine rises_no (i := k - 1) (by omega) ?_
      simpa only [e] using hn
    have HUN := Lib.hid hun
    clear hun
    have huy : ordE l[k - 1] l[k] < 0 → (List.range (k + 1 - 1)).all (upB l) = true := by
      intro hy
      have e : k + 1 - 1 = (k - 1) + 1 := by omega
      rw [e, range_all_succ, hup.out, upB_at (by omega)]
      have e2 : k - 1 + 1 = k := by omega
      simpa only [e2, Bool.true_and, decide_eq_true_eq] using hy
    have HUY := Lib.hid huy
    clear huy
    clear e3 p0 p1 s3 E0 E1 hk0
    cases hc : lessE l[k - 1] l[k]
    · have HC := Lib.hid hc
      have HF := Lib.hid (show entriesB l = false by unfold entriesB; rw [HUN.out (by rw [HLE.out] at hc; simpa using hc)]; simp)
      clear hc
      go_wp2_with fail
      refine wp_region_noPanic ?_
      refine wp_region_held_drew (S := fun w' => w'.cell? ⟨b1, o1 + k * 2, none⟩ = some (.slice A1 l[k].key.length c1) ∧ w'.cell? ⟨b1, o1 + k * 2 + 1, none⟩ = some (.int .i64 l[k].id) ∧ w'.cell? ⟨b1, o1, none⟩ = some (.slice A2 l[0].key.length c2) ∧ w'.cell? ⟨b1, o1 + (k - 1) * 2, none⟩ = some (.slice A3 l[k - 1].key.length c3) ∧ w'.cell? ⟨b1, o1 + (k - 1) * 2 + 1, none⟩ = some (.int .i64 l[k - 1].id)) (by kernel_rfl) DE.out (fun hHeld => ?_)
      refine wpAnyH_take (i := 0) (v := ?v151) rfl (by kernel_rfl) (by kernel_rfl) (by kernel_rfl) (fun _ _ _ h => h) (Or.inl ⟨by rfl, ?hy151⟩) hHeld ?rest151
      case hy151 => (intro w' hSw; (try dsimp only at hSw); first | (go_simp; done) | (go_simp; with_reducible rfl))
      simp only [Act.put, pz0, pz1, pz2, pz3, pz4, pz5]
      refine wpAnyH_take (i := 1) (v := ?v152) rfl (by kernel_rfl) (by kernel_rfl) (by kernel_rfl) (fun _ _ _ h => h) (Or.inl ⟨by rfl, ?hy152⟩) hHeld ?rest152
      case hy152 => (intro w' hSw; (try dsimp only at hSw); first | (go_simp; done) | (go_simp; with_reducible rfl))
      simp only [Act.put, pz0, pz1, pz2, pz3, pz4, pz5]
      refine wpAnyH_take (i := 2) (v := ?v153) rfl (by kernel_rfl) (by kernel_rfl) (by kernel_rfl) (fun _ _ _ h => h) (Or.inl ⟨by rfl, ?hy153⟩) hHeld ?rest153
      case hy153 => (intro w' hSw; (try dsimp only at hSw); first | (go_simp; done) | (go_simp; with_reducible rfl))
      simp only [Act.put, pz0, pz1, pz2, pz3, pz4, pz5]
      refine wpAnyH_take (i := 3) (v := ?v154) rfl (by kernel_rfl) (by kernel_rfl) (by kernel_rfl) (fun _ _ _ h => h) (Or.inl ⟨by rfl, ?hy154⟩) hHeld ?rest154
      case hy154 => (intro w' hSw; (try dsimp only at hSw); first | (go_simp; done) | (go_simp; with_reducible rfl))
      simp only [Act.put, pz0, pz1, pz2, pz3, pz4, pz5]
      refine wpAnyH_take (i := 4) (v := ?v155) rfl (by kernel_rfl) (by kernel_rfl) (by kernel_rfl) (fun _ _ _ h => h) (Or.inl ⟨by rfl, ?hy155⟩) hHeld ?rest155
      case hy155 => (intro w' hSw; (try dsimp only at hSw); first | (go_simp; done) | (go_simp; with_reducible rfl))
      simp only [Act.put, pz0, pz1, pz2, pz3, pz4, pz5]
      refine wpAnyH_ready (rs := [5]) (by kernel_rfl) (by simp) ?_
      refine AllReadyH.cons rfl (fun K hK => ?_) AllReadyH.nil
      go_simp
      refine HX.out.mono ?_
      rintro e w9 ⟨rfl, hb9⟩
      rw [HR.out]
      go_wp2_with fail
      refine hK.out _ _ (keepC5 hHeld hb9) (fun hHeld => ?_)
      clear hK K
      (try simp only [Act.put, pz0, pz1, pz2, pz3, pz4, pz5])
      refine wpAnyH_take (i := 6) (v := ?v156) rfl (by kernel_rfl) (by kernel_rfl) (by kernel_rfl) (fun _ _ _ h => h) (Or.inl ⟨by rfl, ?hy156⟩) hHeld ?rest156
      case hy156 => (intro w' hSw; (try dsimp only at hSw); first | (go_simp; done) | (go_simp; with_reducible rfl))
      simp only [Act.put, pz0, pz1, pz2, pz3, pz4, pz5]
      refine wpAnyH_take (i := 7) (v := ?v157) rfl (by kernel_rfl) (by kernel_rfl) (by kernel_rfl) (fun _ _ _ h => h) (Or.inl ⟨by rfl, ?hy157⟩) hHeld ?rest157
      case hy157 => (intro w' hSw; (try dsimp only at hSw); first | (go_simp; done) | (go_simp; with_reducible rfl))
      simp only [Act.put, pz0, pz1, pz2, pz3, pz4, pz5]
      refine wpAnyH_take (i := 8) (v := ?v158) rfl (by kernel_rfl) (by kernel_rfl) (by kernel_rfl) (fun _ _ _ h => h) (Or.inl ⟨by rfl, ?hy158⟩) hHeld ?rest158
      case hy158 => (intro w' hSw; (try dsimp only at hSw); first | (go_simp; done) | (go_simp; with_reducible rfl))
      simp only [Act.put, pz0, pz1, pz2, pz3, pz4, pz5]
      refine wpAnyH_take (i := 9) (v := ?v159) rfl (by kernel_rfl) (by kernel_rfl) (by kernel_rfl) (fun _ _ _ h => h) (Or.inl ⟨by rfl, ?hy159⟩) hHeld ?rest159
      case hy159 => (intro w' hSw; (try dsimp only at hSw); first | (go_simp; done) | (go_simp; with_reducible rfl))
      simp only [Act.put, pz0, pz1, pz2, pz3, pz4, pz5]
      refine wpAnyH_take (i := 10) (v := ?v160) rfl (by kernel_rfl) (by kernel_rfl) (by kernel_rfl) (fun _ _ _ h => h) (Or.inl ⟨by rfl, ?hy160⟩) hHeld ?rest160
      case hy160 => (intro w' hSw; (try dsimp only at hSw); first | (go_simp; done) | (go_simp; with_reducible rfl))
      simp only [Act.put, pz0, pz1, pz2, pz3, pz4, pz5]
      refine wpAnyH_take (i := 11) (v := ?v161) rfl (by kernel_rfl) (by kernel_rfl) (by kernel_rfl) (fun _ _ _ h => h) (Or.inl ⟨by rfl, ?hy161⟩) hHeld ?rest161
      case hy161 => (intro w' hSw; (try dsimp only at hSw); first | (go_simp; done) | (go_simp; with_reducible rfl))
      simp only [Act.put, pz0, pz1, pz2, pz3, pz4, pz5]
      refine wpAnyH_take (i := 12) (v := ?v162) rfl (by kernel_rfl) (by kernel_rfl) (by kernel_rfl) (fun _ _ _ h => h) (Or.inl ⟨by rfl, ?hy162⟩) hHeld ?rest162
      case hy162 => (intro w' hSw; (try dsimp only at hSw); first | (go_simp; done) | (go_simp; with_reducible rfl))
      simp only [Act.put, pz0, pz1, pz2, pz3, pz4, pz5]
      refine wpAnyH_take (i := 13) (v := ?v163) rfl (by kernel_rfl) (by kernel_rfl) (by kernel_rfl) (fun _ _ _ h => h) (Or.inl ⟨by rfl, ?hy163⟩) hHeld ?rest163
      case hy163 => (intro w' hSw; (try dsimp only at hSw); first | (go_simp; done) | (go_simp; with_reducible rfl))
      simp only [Act.put, pz0, pz1, pz2, pz3, pz4, pz5]
      refine wpAnyH_take (i := 14) (v := ?v164) rfl (by kernel_rfl) (by kernel_rfl) (by kernel_rfl) (fun _ _ _ h => h) (Or.inl ⟨by rfl, ?hy164⟩) hHeld ?rest164
      case hy164 => (intro w' hSw; (try dsimp only at hSw); first | (go_simp; done) | (go_simp; with_reducible rfl))
      simp only [Act.put, pz0, pz1, pz2, pz3, pz4, pz5]
      refine wpAnyH_take (i := 15) (v := ?v165) rfl (by kernel_rfl) (by kernel_rfl) (by kernel_rfl) (fun _ _ _ h => h) (Or.inl ⟨by rfl, ?hy165⟩) hHeld ?rest165
      case hy165 => (intro w' hSw; (try dsimp only at hSw); first | (go_simp; done) | (go_simp; with_reducible rfl))
      simp only [Act.put, pz0, pz1, pz2, pz3, pz4, pz5]
      refine wpAnyH_take (i := 16) (v := ?v166) rfl (by kernel_rfl) (by kernel_rfl) (by kernel_rfl) (fun _ _ _ h => h) (Or.inl ⟨by rfl, ?hy166⟩) hHeld ?rest166
      case hy166 => (intro w' hSw; (try dsimp only at hSw); first | (go_simp; done) | (go_simp; with_reducible rfl))
      simp only [Act.put, pz0, pz1, pz2, pz3, pz4, pz5]
      refine wpAnyH_take (i := 17) (v := ?v167) rfl (by kernel_rfl) (by kernel_rfl) (by kernel_rfl) (fun _ _ _ h => h) (Or.inl ⟨by rfl, ?hy167⟩) hHeld ?rest167
      case hy167 => (intro w' hSw; (try dsimp only at hSw); first | (go_simp; done) | (go_simp; with_reducible rfl))
      simp only [Act.put, pz0, pz1, pz2, pz3, pz4, pz5]
      refine wpAnyH_take (i := 18) (v := ?v168) rfl (by kernel_rfl) (by kernel_rfl) (by kernel_rfl) (fun _ _ _ h => h) (Or.inl ⟨by rfl, ?hy168⟩) hHeld ?rest168
      case hy168 => (intro w' hSw; (try dsimp only at hSw); first | (go_simp; done) | (go_simp; with_reducible rfl))
      simp only [Act.put, pz0, pz1, pz2, pz3, pz4, pz5]
      refine wpAnyH_take (i := 19) (v := ?v169) rfl (by kernel_rfl) (by kernel_rfl) (by kernel_rfl) (fun _ _ _ h => h) (Or.inl ⟨by rfl, ?hy169⟩) hHeld ?rest169
      case hy169 => (intro w' hSw; (try dsimp only at hSw); first | (go_simp; done) | (go_simp; with_reducible rfl))
      simp only [Act.put, pz0, pz1, pz2, pz3, pz4, pz5]
      refine wpAnyH_take (i := 20) (v := ?v170) rfl (by kernel_rfl) (by kernel_rfl) (by kernel_rfl) (fun _ _ _ h => h) (Or.inl ⟨by rfl, ?hy170⟩) hHeld ?rest170
      case hy170 => (intro w' hSw; (try dsimp only at hSw); first | (go_simp; done) | (go_simp; with_reducible rfl))
      simp only [Act.put, pz0, pz1, pz2, pz3, pz4, pz5]
      refine wpAnyH_take (i := 21) (v := ?v171) rfl (by kernel_rfl) (by kernel_rfl) (by kernel_rfl) (fun _ _ _ h => h) (Or.inl ⟨by rfl, ?hy171⟩) hHeld ?rest171
      case hy171 => (intro w' hSw; (try dsimp only at hSw); first | (go_simp; done) | (go_simp; with_reducible rfl))
      simp only [Act.put, pz0, pz1, pz2, pz3, pz4, pz5]
      refine wpAnyH_take (i := 22) (v := ?v172) rfl (by kernel_rfl) (by kernel_rfl) (by kernel_rfl) (fun _ _ _ h => h) (Or.inl ⟨by rfl, ?hy172⟩) hHeld ?rest172
      case hy172 => (intro w' hSw; (try dsimp only at hSw); first | (go_simp; done) | (go_simp; with_reducible rfl))
      simp only [Act.put, pz0, pz1, pz2, pz3, pz4, pz5]
      refine wpAnyH_take (i := 23) (v := ?v173) rfl (by kernel_rfl) (by kernel_rfl) (by kernel_rfl) (fun _ _ _ h => h) (Or.inl ⟨by rfl, ?hy173⟩) hHeld ?rest173
      case hy173 => (intro w' hSw; (try dsimp only at hSw); first | (go_simp; done) | (go_simp; with_reducible rfl))
      simp only [Act.put, pz0, pz1, pz2, pz3, pz4, pz5]
      refine wpAnyH_take (i := 24) (v := ?v174) rfl (by kernel_rfl) (by kernel_rfl) (by kernel_rfl) (fun _ _ _ h => h) (Or.inl ⟨by rfl, ?hy174⟩) hHeld ?rest174
      case hy174 => (intro w' hSw; (try dsimp only at hSw); first | (go_simp; done) | (go_simp; with_reducible rfl))
      simp only [Act.put, pz0, pz1, pz2, pz3, pz4, pz5]
      refine wpAnyH_take (i := 25) (v := ?v175) rfl (by kernel_rfl) (by kernel_rfl) (by kernel_rfl) (fun _ _ _ h => h) (Or.inl ⟨by rfl, ?hy175⟩) hHeld ?rest175
      case hy175 => (intro w' hSw; (try dsimp only at hSw); first | (go_simp; done) | (go_simp; with_reducible rfl))
      simp only [Act.put, pz0, pz1, pz2, pz3, pz4, pz5]
      refine wpAnyH_take (i := 26) (v := ?v176) rfl (by kernel_rfl) (by kernel_rfl) (by kernel_rfl) (fun _ _ _ h => h) (Or.inl ⟨by rfl, ?hy176⟩) hHeld ?rest176
      case hy176 => (intro w' hSw; (try dsimp only at hSw); first | (go_simp; done) | (go_simp; with_reducible rfl))
      simp only [Act.put, pz0, pz1, pz2, pz3, pz4, pz5]
      refine wpAnyH_take (i := 27) (v := ?v177) rfl (by kernel_rfl) (by kernel_rfl) (by kernel_rfl) (fun _ _ _ h => h) (Or.inl ⟨by rfl, ?hy177⟩) hHeld ?rest177
      case hy177 => (intro w' hSw; (try dsimp only at hSw); first | (go_simp; done) | (go_simp; with_reducible rfl))
      simp only [Act.put, pz0, pz1, pz2, pz3, pz4, pz5]
      refine wpAnyH_take (i := 28) (v := ?v178) rfl (by kernel_rfl) (by kernel_rfl) (by kernel_rfl) (fun _ _ _ h => h) (Or.inl ⟨by rfl, ?hy178⟩) hHeld ?rest178
      case hy178 => (intro w' hSw; (try dsimp only at hSw); first | (go_simp; done) | (go_simp; with_reducible rfl))
      simp only [Act.put, pz0, pz1, pz2, pz3, pz4, pz5]
      refine wpAnyH_take (i := 29) (v := ?v179) rfl (by kernel_rfl) (by kernel_rfl) (by kernel_rfl) (fun _ _ _ h => h) (Or.inl ⟨by rfl, ?hy179⟩) hHeld ?rest179
      case hy179 => (intro w' hSw; (try dsimp only at hSw); first | (go_simp; done) | (go_simp; with_reducible rfl))
      simp only [Act.put, pz0, pz1, pz2, pz3, pz4, pz5]
      refine wpAnyH_take (i := 30) (v := ?v180) rfl (by kernel_rfl) (by kernel_rfl) (by kernel_rfl) (fun _ _ _ h => h) (Or.inl ⟨by rfl, ?hy180⟩) hHeld ?rest180
      case hy180 => (intro w' hSw; (try dsimp only at hSw); first | (go_simp; done) | (go_simp; with_reducible rfl))
      simp only [Act.put, pz0, pz1, pz2, pz3, pz4, pz5]
      refine wpAnyH_take (i := 31) (v := ?v181) rfl (by kernel_rfl) (by kernel_rfl) (by kernel_rfl) (fun _ _ _ h => h) (Or.inl ⟨by rfl, ?hy181⟩) hHeld ?rest181
      case hy181 => (intro w' hSw; (try dsimp only at hSw); first | (go_simp; done) | (go_simp; with_reducible rfl))
      simp only [Act.put, pz0, pz1, pz2, pz3, pz4, pz5]
      refine wpAnyH_take (i := 32) (v := ?v182) rfl (by kernel_rfl) (by kernel_rfl) (by kernel_rfl) (fun _ _ _ h => h) (Or.inl ⟨by rfl, ?hy182⟩) hHeld ?rest182
      case hy182 => (intro w' hSw; (try dsimp only at hSw); first | (go_simp; done) | (go_simp; with_reducible rfl))
      simp only [Act.put, pz0, pz1, pz2, pz3, pz4, pz5]
      refine wpAnyH_take (i := 33) (v := ?v183) rfl (by kernel_rfl) (by kernel_rfl) (by kernel_rfl) (fun _ _ _ h => h) (Or.inl ⟨by rfl, ?hy183⟩) hHeld ?rest183
      case hy183 => (intro w' hSw; (try dsimp only at hSw); first | (go_simp; done) | (go_simp; with_reducible rfl))
      simp only [Act.put, pz0, pz1, pz2, pz3, pz4, pz5]
      refine wpAnyH_take (i := 34) (v := ?v184) rfl (by kernel_rfl) (by kernel_rfl) (by kernel_rfl) (fun _ _ _ h => h) (Or.inl ⟨by rfl, ?hy184⟩) hHeld ?rest184
      case hy184 => (intro w' hSw; (try dsimp only at hSw); first | (go_simp; done) | (go_simp; with_reducible rfl))
      simp only [Act.put, pz0, pz1, pz2, pz3, pz4, pz5]
      refine wpAnyH_take (i := 35) (v := ?v185) rfl (by kernel_rfl) (by kernel_rfl) (by kernel_rfl) (fun _ _ _ h => h) (Or.inl ⟨by rfl, ?hy185⟩) hHeld ?rest185
      case hy185 => (intro w' hSw; (try dsimp only at hSw); first | (go_simp; done) | (go_simp; with_reducible rfl))
      simp only [Act.put, pz0, pz1, pz2, pz3, pz4, pz5]
      refine wpAnyH_ready (rs := [36]) (by kernel_rfl) (by simp) ?_
      refine AllReadyH.cons rfl (fun K hK => ?_) AllReadyH.nil
      go_simp
      refine (specInV HI.out _).mono ?_
      rintro e w8 ⟨rfl, rfl⟩
      go_wp2_with fail
      refine hK.out _ _ hHeld (fun hHeld => ?_)
      clear hK K
      (try simp only [Act.put, pz0, pz1, pz2, pz3, pz4, pz5])
      refine wpAnyH_take (i := 37) (v := ?v186) rfl (by kernel_rfl) (by kernel_rfl) (by kernel_rfl) (fun _ _ _ h => h) (Or.inl ⟨by rfl, ?hy186⟩) hHeld ?rest186
      case hy186 => (intro w' hSw; (try dsimp only at hSw); first | (go_simp; done) | (go_simp; with_reducible rfl))
      simp only [Act.put, pz0, pz1, pz2, pz3, pz4, pz5]
      refine wpAnyH_take (i := 38) (v := ?v187) rfl (by kernel_rfl) (by kernel_rfl) (by kernel_rfl) (fun _ _ _ h => h) (Or.inl ⟨by rfl, ?hy187⟩) hHeld ?rest187
      case hy187 => (intro w' hSw; (try dsimp only at hSw); first | (go_simp; done) | (go_simp; with_reducible rfl))
      simp only [Act.put, pz0, pz1, pz2, pz3, pz4, pz5]
      refine wpAnyH_take (i := 39) (v := ?v188) rfl (by kernel_rfl) (by kernel_rfl) (by kernel_rfl) (fun _ _ _ h => h) (Or.inl ⟨by rfl, ?hy188⟩) hHeld ?rest188
      case hy188 => (intro w' hSw; (try dsimp only at hSw); first | (go_simp; done) | (go_simp; with_reducible rfl))
      simp only [Act.put, pz0, pz1, pz2, pz3, pz4, pz5]
      refine wpAnyH_take (i := 40) (v := ?v189) rfl (by kernel_rfl) (by kernel_rfl) (by kernel_rfl) (fun _ _ _ h => h) (Or.inl ⟨by rfl, ?hy189⟩) hHeld ?rest189
      case hy189 => (intro w' hSw; (try dsimp only at hSw); first | (go_simp; done) | (go_simp; with_reducible rfl))
      simp only [Act.put, pz0, pz1, pz2, pz3, pz4, pz5]
      refine wpAnyH_take (i := 41) (v := ?v190) rfl (by kernel_rfl) (by kernel_rfl) (by kernel_rfl) (fun _ _ _ h => h) (Or.inl ⟨by rfl, ?hy190⟩) hHeld ?rest190
      case hy190 => (intro w' hSw; (try dsimp only at hSw); first | (go_simp; done) | (go_simp; with_reducible rfl))
      simp only [Act.put, pz0, pz1, pz2, pz3, pz4, pz5]
      refine wpAnyH_take (i := 42) (v := ?v191) rfl (by kernel_rfl) (by kernel_rfl) (by kernel_rfl) (fun _ _ _ h => h) (Or.inl ⟨by rfl, ?hy191⟩) hHeld ?rest191
      case hy191 => (intro w' hSw; (try dsimp only at hSw); first | (go_simp; done) | (go_simp; with_reducible rfl))
      simp only [Act.put, pz0, pz1, pz2, pz3, pz4, pz5]
      refine wpAnyH_take (i := 43) (v := ?v192) rfl (by kernel_rfl) (by kernel_rfl) (by kernel_rfl) (fun _ _ _ h => h) (Or.inl ⟨by rfl, ?hy192⟩) hHeld ?rest192
      case hy192 => (intro w' hSw; (try dsimp only at hSw); first | (go_simp; done) | (go_simp; with_reducible rfl))
      simp only [Act.put, pz0, pz1, pz2, pz3, pz4, pz5]
      refine wpAnyH_take (i := 44) (v := ?v193) rfl (by kernel_rfl) (by kernel_rfl) (by kernel_rfl) (fun _ _ _ h => h) (Or.inl ⟨by rfl, ?hy193⟩) hHeld ?rest193
      case hy193 => (intro w' hSw; (try dsimp only at hSw); first | (go_simp; done) | (go_simp; with_reducible rfl))
      simp only [Act.put, pz0, pz1, pz2, pz3, pz4, pz5]
      refine wpAnyH_take (i := 45) (v := ?v194) rfl (by kernel_rfl) (by kernel_rfl) (by kernel_rfl) (fun _ _ _ h => h) (Or.inl ⟨by rfl, ?hy194⟩) hHeld ?rest194
      case hy194 => (intro w' hSw; (try dsimp only at hSw); first | (go_simp; done) | (go_simp; with_reducible rfl))
      simp only [Act.put, pz0, pz1, pz2, pz3, pz4, pz5]
      refine wpAnyH_take (i := 46) (v := ?v195) rfl (by kernel_rfl) (by kernel_rfl) (by kernel_rfl) (fun _ _ _ h => h) (Or.inl ⟨by rfl, ?hy195⟩) hHeld ?rest195
      case hy195 => (intro w' hSw; (try dsimp only at hSw); first | (go_simp; done) | (go_simp; with_reducible rfl))
      simp only [Act.put, pz0, pz1, pz2, pz3, pz4, pz5]
      refine wpAnyH_take (i := 47) (v := ?v196) rfl (by kernel_rfl) (by kernel_rfl) (by kernel_rfl) (fun _ _ _ h => h) (Or.inl ⟨by rfl, ?hy196⟩) hHeld ?rest196
      case hy196 => (intro w' hSw; (try dsimp only at hSw); first | (go_simp; done) | (go_simp; with_reducible rfl))
      simp only [Act.put, pz0, pz1, pz2, pz3, pz4, pz5]
      refine wpAnyH_take (i := 48) (v := ?v197) rfl (by kernel_rfl) (by kernel_rfl) (by kernel_rfl) (fun _ _ _ h => h) (Or.inl ⟨by rfl, ?hy197⟩) hHeld ?rest197
      case hy197 => (intro w' hSw; (try dsimp only at hSw); first | (go_simp; done) | (go_simp; with_reducible rfl))
      simp only [Act.put, pz0, pz1, pz2, pz3, pz4, pz5]
      refine wpAnyH_take (i := 49) (v := ?v198) rfl (by kernel_rfl) (by kernel_rfl) (by kernel_rfl) (fun _ _ _ h => h) (Or.inl ⟨by rfl, ?hy198⟩) hHeld ?rest198
      case hy198 => (intro w' hSw; (try dsimp only at hSw); first | (go_simp; done) | (go_simp; with_reducible rfl))
      simp only [Act.put, pz0, pz1, pz2, pz3, pz4, pz5]
      refine wpAnyH_take (i := 50) (v := ?v199) rfl (by kernel_rfl) (by kernel_rfl) (by kernel_rfl) (fun _ _ _ h => h) (Or.inl ⟨by rfl, ?hy199⟩) hHeld ?rest199
      case hy199 => (intro w' hSw; (try dsimp only at hSw); first | (go_simp; done) | (go_simp; with_reducible rfl))
      simp only [Act.put, pz0, pz1, pz2, pz3, pz4, pz5]
      refine wpAnyH_take (i := 51) (v := ?v200) rfl (by kernel_rfl) (by kernel_rfl) (by kernel_rfl) (fun _ _ _ h => h) (Or.inl ⟨by rfl, ?hy200⟩) hHeld ?rest200
      case hy200 => (intro w' hSw; (try dsimp only at hSw); first | (go_simp; done) | (go_simp; with_reducible rfl))
      simp only [Act.put, pz0, pz1, pz2, pz3, pz4, pz5]
      refine wpAnyH_ready (rs := [52]) (by kernel_rfl) (by simp) ?_
      refine AllReadyH.cons rfl (fun K hK => ?_) AllReadyH.nil
      go_simp
      refine (specL11Less l[k - 1] l[k] A3 A1 l[k - 1].key.length c3 l[k].key.length c1 _ _ _ (HSP.out.below VlR.stays hb9) (HSC.out.below VlR.stays hb9) HN1.out HN2.out).mono ?_
      rintro e w7 ⟨rfl, hb7⟩
      rw [HC.out]
      go_wp2_with fail
      refine hK.out _ _ (keepC5 hHeld hb7) (fun hHeld => ?_)
      clear hK K
      (try simp only [Act.put, pz0, pz1, pz2, pz3, pz4, pz5])
      refine wpAnyH_take (i := 53) (v := ?v201) rfl (by kernel_rfl) (by kernel_rfl) (by kernel_rfl) (fun _ _ _ h => h) (Or.inl ⟨by rfl, ?hy201⟩) hHeld ?rest201
      case hy201 => (intro w' hSw; (try dsimp only at hSw); first | (go_simp; done) | (go_simp; with_reducible rfl))
      simp only [Act.put, pz0, pz1, pz2, pz3, pz4, pz5]
      refine wpAnyH_take (i := 54) (v := ?v202) rfl (by kernel_rfl) (by kernel_rfl) (by kernel_rfl) (fun _ _ _ h => h) (Or.inl ⟨by rfl, ?hy202⟩) hHeld ?rest202
      case hy202 => (intro w' hSw; (try dsimp only at hSw); first | (go_simp; done) | (go_simp; with_reducible rfl))
      simp only [Act.put, pz0, pz1, pz2, pz3, pz4, pz5]
      refine wpAnyH_take (i := 55) (v := ?v203) rfl (by kernel_rfl) (by kernel_rfl) (by kernel_rfl) (fun _ _ _ h => h) (Or.inl ⟨by rfl, ?hy203⟩) hHeld ?rest203
      case hy203 => (intro w' hSw; (try dsimp only at hSw); first | (go_simp; done) | (go_simp; with_reducible rfl))
      simp only [Act.put, pz0, pz1, pz2, pz3, pz4, pz5]
      refine wpAnyH_done (by kernel_rfl) ?_ _
      refine NoPanic.normal ?_
      clear hHeld
      go_wp2_with fail
      go_ret
      exact ⟨retB HF.out.symm, (hbd.trans (hb9.mono hbd.size)).trans (hb7.mono (hbd.trans (hb9.mono hbd.size)).size)⟩
    · have HC := Lib.hid hc
      have HU := Lib.hid (HUY.out (by rw [HLE.out] at hc; simpa using hc))
      clear hc
      go_wp2_with fail
      refine wp_region_noPanic ?_
      refine wp_region_held_drew (S := fun w' => w'.cell? ⟨b1, o1 + k * 2, none⟩ = some (.slice A1 l[k].key.length c1) ∧ w'.cell? ⟨b1, o1 + k * 2 + 1, none⟩ = some (.int .i64 l[k].id) ∧ w'.cell? ⟨b1, o1, none⟩ = some (.slice A2 l[0].key.length c2) ∧ w'.cell? ⟨b1, o1 + (k - 1) * 2, none⟩ = some (.slice A3 l[k - 1].key.length c3) ∧ w'.cell? ⟨b1, o1 + (k - 1) * 2 + 1, none⟩ = some (.int .i64 l[k - 1].id)) (by kernel_rfl) DE.out (fun hHeld => ?_)
      refine wpAnyH_take (i := 0) (v := ?v204) rfl (by kernel_rfl) (by kernel_rfl) (by kernel_rfl) (fun _ _ _ h => h) (Or.inl ⟨by rfl, ?hy204⟩) hHeld ?rest204
      case hy204 => (intro w' hSw; (try dsimp only at hSw); first | (go_simp; done) | (go_simp; with_reducible rfl))
      simp only [Act.put, pz0, pz1, pz2, pz3, pz4, pz5]
      refine wpAnyH_take (i := 1) (v := ?v205) rfl (by kernel_rfl) (by kernel_rfl) (by kernel_rfl) (fun _ _ _ h => h) (Or.inl ⟨by rfl, ?hy205⟩) hHeld ?rest205
      case hy205 => (intro w' hSw; (try dsimp only at hSw); first | (go_simp; done) | (go_simp; with_reducible rfl))
      simp only [Act.put, pz0, pz1, pz2, pz3, pz4, pz5]
      refine wpAnyH_take (i := 2) (v := ?v206) rfl (by kernel_rfl) (by kernel_rfl) (by kernel_rfl) (fun _ _ _ h => h) (Or.inl ⟨by rfl, ?hy206⟩) hHeld ?rest206
      case hy206 => (intro w' hSw; (try dsimp only at hSw); first | (go_simp; done) | (go_simp; with_reducible rfl))
      simp only [Act.put, pz0, pz1, pz2, pz3, pz4, pz5]
      refine wpAnyH_take (i := 3) (v := ?v207) rfl (by kernel_rfl) (by kernel_rfl) (by kernel_rfl) (fun _ _ _ h => h) (Or.inl ⟨by rfl, ?hy207⟩) hHeld ?rest207
      case hy207 => (intro w' hSw; (try dsimp only at hSw); first | (go_simp; done) | (go_simp; with_reducible rfl))
      simp only [Act.put, pz0, pz1, pz2, pz3, pz4, pz5]
      refine wpAnyH_take (i := 4) (v := ?v208) rfl (by kernel_rfl) (by kernel_rfl) (by kernel_rfl) (fun _ _ _ h => h) (Or.inl ⟨by rfl, ?hy208⟩) hHeld ?rest208
      case hy208 => (intro w' hSw; (try dsimp only at hSw); first | (go_simp; done) | (go_simp; with_reducible rfl))
      simp only [Act.put, pz0, pz1, pz2, pz3, pz4, pz5]
      refine wpAnyH_ready (rs := [5]) (by kernel_rfl) (by simp) ?_
      refine AllReadyH.cons rfl (fun K hK => ?_) AllReadyH.nil
      go_simp
      refine HX.out.mono ?_
      rintro e w9 ⟨rfl, hb9⟩
      rw [HR.out]
      go_wp2_with fail
      refine hK.out _ _ (keepC5 hHeld hb9) (fun hHeld => ?_)
      clear hK K
      (try simp only [Act.put, pz0, pz1, pz2, pz3, pz4, pz5])
      refine wpAnyH_take (i := 6) (v := ?v209) rfl (by kernel_rfl) (by kernel_rfl) (by kernel_rfl) (fun _ _ _ h => h) (Or.inl ⟨by rfl, ?hy209⟩) hHeld ?rest209
      case hy209 => (intro w' hSw; (try dsimp only at hSw); first | (go_simp; done) | (go_simp; with_reducible rfl))
      simp only [Act.put, pz0, pz1, pz2, pz3, pz4, pz5]
      refine wpAnyH_take (i := 7) (v := ?v210) rfl (by kernel_rfl) (by kernel_rfl) (by kernel_rfl) (fun _ _ _ h => h) (Or.inl ⟨by rfl, ?hy210⟩) hHeld ?rest210
      case hy210 => (intro w' hSw; (try dsimp only at hSw); first | (go_simp; done) | (go_simp; with_reducible rfl))
      simp only [Act.put, pz0, pz1, pz2, pz3, pz4, pz5]
      refine wpAnyH_take (i := 8) (v := ?v211) rfl (by kernel_rfl) (by kernel_rfl) (by kernel_rfl) (fun _ _ _ h => h) (Or.inl ⟨by rfl, ?hy211⟩) hHeld ?rest211
      case hy211 => (intro w' hSw; (try dsimp only at hSw); first | (go_simp; done) | (go_simp; with_reducible rfl))
      simp only [Act.put, pz0, pz1, pz2, pz3, pz4, pz5]
      refine wpAnyH_take (i := 9) (v := ?v212) rfl (by kernel_rfl) (by kernel_rfl) (by kernel_rfl) (fun _ _ _ h => h) (Or.inl ⟨by rfl, ?hy212⟩) hHeld ?rest212
      case hy212 => (intro w' hSw; (try dsimp only at hSw); first | (go_simp; done) | (go_simp; with_reducible rfl))
      simp only [Act.put, pz0, pz1, pz2, pz3, pz4, pz5]
      refine wpAnyH_take (i := 10) (v := ?v213) rfl (by kernel_rfl) (by kernel_rfl) (by kernel_rfl) (fun _ _ _ h => h) (Or.inl ⟨by rfl, ?hy213⟩) hHeld ?rest213
      case hy213 => (intro w' hSw; (try dsimp only at hSw); first | (go_simp; done) | (go_simp; with_reducible rfl))
      simp only [Act.put, pz0, pz1, pz2, pz3, pz4, pz5]
      refine wpAnyH_take (i := 11) (v := ?v214) rfl (by kernel_rfl) (by kernel_rfl) (by kernel_rfl) (fun _ _ _ h => h) (Or.inl ⟨by rfl, ?hy214⟩) hHeld ?rest214
      case hy214 => (intro w' hSw; (try dsimp only at hSw); first | (go_simp; done) | (go_simp; with_reducible rfl))
      simp only [Act.put, pz0, pz1, pz2, pz3, pz4, pz5]
      refine wpAnyH_take (i := 12) (v := ?v215) rfl (by kernel_rfl) (by kernel_rfl) (by kernel_rfl) (fun _ _ _ h => h) (Or.inl ⟨by rfl, ?hy215⟩) hHeld ?rest215
      case hy215 => (intro w' hSw; (try dsimp only at hSw); first | (go_simp; done) | (go_simp; with_reducible rfl))
      simp only [Act.put, pz0, pz1, pz2, pz3, pz4, pz5]
      refine wpAnyH_take (i := 13) (v := ?v216) rfl (by kernel_rfl) (by kernel_rfl) (by kernel_rfl) (fun _ _ _ h => h) (Or.inl ⟨by rfl, ?hy216⟩) hHeld ?rest216
      case hy216 => (intro w' hSw; (try dsimp only at hSw); first | (go_simp; done) | (go_simp; with_reducible rfl))
      simp only [Act.put, pz0, pz1, pz2, pz3, pz4, pz5]
      refine wpAnyH_take (i := 14) (v := ?v217) rfl (by kernel_rfl) (by kernel_rfl) (by kernel_rfl) (fun _ _ _ h => h) (Or.inl ⟨by rfl, ?hy217⟩) hHeld ?rest217
      case hy217 => (intro w' hSw; (try dsimp only at hSw); first | (go_simp; done) | (go_simp; with_reducible rfl))
      simp only [Act.put, pz0, pz1, pz2, pz3, pz4, pz5]
      refine wpAnyH_take (i := 15) (v := ?v218) rfl (by kernel_rfl) (by kernel_rfl) (by kernel_rfl) (fun _ _ _ h => h) (Or.inl ⟨by rfl, ?hy218⟩) hHeld ?rest218
      case hy218 => (intro w' hSw; (try dsimp only at hSw); first | (go_simp; done) | (go_simp; with_reducible rfl))
      simp only [Act.put, pz0, pz1, pz2, pz3, pz4, pz5]
      refine wpAnyH_take (i := 16) (v := ?v219) rfl (by kernel_rfl) (by kernel_rfl) (by kernel_rfl) (fun _ _ _ h => h) (Or.inl ⟨by rfl, ?hy219⟩) hHeld ?rest219
      case hy219 => (intro w' hSw; (try dsimp only at hSw); first | (go_simp; done) | (go_simp; with_reducible rfl))
      simp only [Act.put, pz0, pz1, pz2, pz3, pz4, pz5]
      refine wpAnyH_take (i := 17) (v := ?v220) rfl (by kernel_rfl) (by kernel_rfl) (by kernel_rfl) (fun _ _ _ h => h) (Or.inl ⟨by rfl, ?hy220⟩) hHeld ?rest220
      case hy220 => (intro w' hSw; (try dsimp only at hSw); first | (go_simp; done) | (go_simp; with_reducible rfl))
      simp only [Act.put, pz0, pz1, pz2, pz3, pz4, pz5]
      refine wpAnyH_take (i := 18) (v := ?v221) rfl (by kernel_rfl) (by kernel_rfl) (by kernel_rfl) (fun _ _ _ h => h) (Or.inl ⟨by rfl, ?hy221⟩) hHeld ?rest221
      case hy221 => (intro w' hSw; (try dsimp only at hSw); first | (go_simp; done) | (go_simp; with_reducible rfl))
      simp only [Act.put, pz0, pz1, pz2, pz3, pz4, pz5]
      refine wpAnyH_take (i := 19) (v := ?v222) rfl (by kernel_rfl) (by kernel_rfl) (by kernel_rfl) (fun _ _ _ h => h) (Or.inl ⟨by rfl, ?hy222⟩) hHeld ?rest222
      case hy222 => (intro w' hSw; (try dsimp only at hSw); first | (go_simp; done) | (go_simp; with_reducible rfl))
      simp only [Act.put, pz0, pz1, pz2, pz3, pz4, pz5]
      refine wpAnyH_take (i := 20) (v := ?v223) rfl (by kernel_rfl) (by kernel_rfl) (by kernel_rfl) (fun _ _ _ h => h) (Or.inl ⟨by rfl, ?hy223⟩) hHeld ?rest223
      case hy223 => (intro w' hSw; (try dsimp only at hSw); first | (go_simp; done) | (go_simp; with_reducible rfl))
      simp only [Act.put, pz0, pz1, pz2, pz3, pz4, pz5]
      refine wpAnyH_take (i := 21) (v := ?v224) rfl (by kernel_rfl) (by kernel_rfl) (by kernel_rfl) (fun _ _ _ h => h) (Or.inl ⟨by rfl, ?hy224⟩) hHeld ?rest224
      case hy224 => (intro w' hSw; (try dsimp only at hSw); first | (go_simp; done) | (go_simp; with_reducible rfl))
      simp only [Act.put, pz0, pz1, pz2, pz3, pz4, pz5]
      refine wpAnyH_take (i := 22) (v := ?v225) rfl (by kernel_rfl) (by kernel_rfl) (by kernel_rfl) (fun _ _ _ h => h) (Or.inl ⟨by rfl, ?hy225⟩) hHeld ?rest225
      case hy225 => (intro w' hSw; (try dsimp only at hSw); first | (go_simp; done) | (go_simp; with_reducible rfl))
      simp only [Act.put, pz0, pz1, pz2, pz3, pz4, pz5]
      refine wpAnyH_take (i := 23) (v := ?v226) rfl (by kernel_rfl) (by kernel_rfl) (by kernel_rfl) (fun _ _ _ h => h) (Or.inl ⟨by rfl, ?hy226⟩) hHeld ?rest226
      case hy226 => (intro w' hSw; (try dsimp only at hSw); first | (go_simp; done) | (go_simp; with_reducible rfl))
      simp only [Act.put, pz0, pz1, pz2, pz3, pz4, pz5]
      refine wpAnyH_take (i := 24) (v := ?v227) rfl (by kernel_rfl) (by kernel_rfl) (by kernel_rfl) (fun _ _ _ h => h) (Or.inl ⟨by rfl, ?hy227⟩) hHeld ?rest227
      case hy227 => (intro w' hSw; (try dsimp only at hSw); first | (go_simp; done) | (go_simp; with_reducible rfl))
      simp only [Act.put, pz0, pz1, pz2, pz3, pz4, pz5]
      refine wpAnyH_take (i := 25) (v := ?v228) rfl (by kernel_rfl) (by kernel_rfl) (by kernel_rfl) (fun _ _ _ h => h) (Or.inl ⟨by rfl, ?hy228⟩) hHeld ?rest228
      case hy228 => (intro w' hSw; (try dsimp only at hSw); first | (go_simp; done) | (go_simp; with_reducible rfl))
      simp only [Act.put, pz0, pz1, pz2, pz3, pz4, pz5]
      refine wpAnyH_take (i := 26) (v := ?v229) rfl (by kernel_rfl) (by kernel_rfl) (by kernel_rfl) (fun _ _ _ h => h) (Or.inl ⟨by rfl, ?hy229⟩) hHeld ?rest229
      case hy229 => (intro w' hSw; (try dsimp only at hSw); first | (go_simp; done) | (go_simp; with_reducible rfl))
      simp only [Act.put, pz0, pz1, pz2, pz3, pz4, pz5]
      refine wpAnyH_take (i := 27) (v := ?v230) rfl (by kernel_rfl) (by kernel_rfl) (by kernel_rfl) (fun _ _ _ h => h) (Or.inl ⟨by rfl, ?hy230⟩) hHeld ?rest230
      case hy230 => (intro w' hSw; (try dsimp only at hSw); first | (go_simp; done) | (go_simp; with_reducible rfl))
      simp only [Act.put, pz0, pz1, pz2, pz3, pz4, pz5]
      refine wpAnyH_take (i := 28) (v := ?v231) rfl (by kernel_rfl) (by kernel_rfl) (by kernel_rfl) (fun _ _ _ h => h) (Or.inl ⟨by rfl, ?hy231⟩) hHeld ?rest231
      case hy231 => (intro w' hSw; (try dsimp only at hSw); first | (go_simp; done) | (go_simp; with_reducible rfl))
      simp only [Act.put, pz0, pz1, pz2, pz3, pz4, pz5]
      refine wpAnyH_take (i := 29) (v := ?v232) rfl (by kernel_rfl) (by kernel_rfl) (by kernel_rfl) (fun _ _ _ h => h) (Or.inl ⟨by rfl, ?hy232⟩) hHeld ?rest232
      case hy232 => (intro w' hSw; (try dsimp only at hSw); first | (go_simp; done) | (go_simp; with_reducible rfl))
      simp only [Act.put, pz0, pz1, pz2, pz3, pz4, pz5]
      refine wpAnyH_take (i := 30) (v := ?v233) rfl (by kernel_rfl) (by kernel_rfl) (by kernel_rfl) (fun _ _ _ h => h) (Or.inl ⟨by rfl, ?hy233⟩) hHeld ?rest233
      case hy233 => (intro w' hSw; (try dsimp only at hSw); first | (go_simp; done) | (go_simp; with_reducible rfl))
      simp only [Act.put, pz0, pz1, pz2, pz3, pz4, pz5]
      refine wpAnyH_take (i := 31) (v := ?v234) rfl (by kernel_rfl) (by kernel_rfl) (by kernel_rfl) (fun _ _ _ h => h) (Or.inl ⟨by rfl, ?hy234⟩) hHeld ?rest234
      case hy234 => (intro w' hSw; (try dsimp only at hSw); first | (go_simp; done) | (go_simp; with_reducible rfl))
      simp only [Act.put, pz0, pz1, pz2, pz3, pz4, pz5]
      refine wpAnyH_take (i := 32) (v := ?v235) rfl (by kernel_rfl) (by kernel_rfl) (by kernel_rfl) (fun _ _ _ h => h) (Or.inl ⟨by rfl, ?hy235⟩) hHeld ?rest235
      case hy235 => (intro w' hSw; (try dsimp only at hSw); first | (go_simp; done) | (go_simp; with_reducible rfl))
      simp only [Act.put, pz0, pz1, pz2, pz3, pz4, pz5]
      refine wpAnyH_take (i := 33) (v := ?v236) rfl (by kernel_rfl) (by kernel_rfl) (by kernel_rfl) (fun _ _ _ h => h) (Or.inl ⟨by rfl, ?hy236⟩) hHeld ?rest236
      case hy236 => (intro w' hSw; (try dsimp only at hSw); first | (go_simp; done) | (go_simp; with_reducible rfl))
      simp only [Act.put, pz0, pz1, pz2, pz3, pz4, pz5]
      refine wpAnyH_take (i := 34) (v := ?v237) rfl (by kernel_rfl) (by kernel_rfl) (by kernel_rfl) (fun _ _ _ h => h) (Or.inl ⟨by rfl, ?hy237⟩) hHeld ?rest237
      case hy237 => (intro w' hSw; (try dsimp only at hSw); first | (go_simp; done) | (go_simp; with_reducible rfl))
      simp only [Act.put, pz0, pz1, pz2, pz3, pz4, pz5]
      refine wpAnyH_take (i := 35) (v := ?v238) rfl (by kernel_rfl) (by kernel_rfl) (by kernel_rfl) (fun _ _ _ h => h) (Or.inl ⟨by rfl, ?hy238⟩) hHeld ?rest238
      case hy238 => (intro w' hSw; (try dsimp only at hSw); first | (go_simp; done) | (go_simp; with_reducible rfl))
      simp only [Act.put, pz0, pz1, pz2, pz3, pz4, pz5]
      refine wpAnyH_ready (rs := [36]) (by kernel_rfl) (by simp) ?_
      refine AllReadyH.cons rfl (fun K hK => ?_) AllReadyH.nil
      go_simp
      refine (specInV HI.out _).mono ?_
      rintro e w8 ⟨rfl, rfl⟩
      go_wp2_with fail
      refine hK.out _ _ hHeld (fun hHeld => ?_)
      clear hK K
      (try simp only [Act.put, pz0, pz1, pz2, pz3, pz4, pz5])
      refine wpAnyH_take (i := 37) (v := ?v239) rfl (by kernel_rfl) (by kernel_rfl) (by kernel_rfl) (fun _ _ _ h => h) (Or.inl ⟨by rfl, ?hy239⟩) hHeld ?rest239
      case hy239 => (intro w' hSw; (try dsimp only at hSw); first | (go_simp; done) | (go_simp; with_reducible rfl))
      simp only [Act.put, pz0, pz1, pz2, pz3, pz4, pz5]
      refine wpAnyH_take (i := 38) (v := ?v240) rfl (by kernel_rfl) (by kernel_rfl) (by kernel_rfl) (fun _ _ _ h => h) (Or.inl ⟨by rfl, ?hy240⟩) hHeld ?rest240
      case hy240 => (intro w' hSw; (try dsimp only at hSw); first | (go_simp; done) | (go_simp; with_reducible rfl))
      simp only [Act.put, pz0, pz1, pz2, pz3, pz4, pz5]
      refine wpAnyH_take (i := 39) (v := ?v241) rfl (by kernel_rfl) (by kernel_rfl) (by kernel_rfl) (fun _ _ _ h => h) (Or.inl ⟨by rfl, ?hy241⟩) hHeld ?rest241
      case hy241 => (intro w' hSw; (try dsimp only at hSw); first | (go_simp; done) | (go_simp; with_reducible rfl))
      simp only [Act.put, pz0, pz1, pz2, pz3, pz4, pz5]
      refine wpAnyH_take (i := 40) (v := ?v242) rfl (by kernel_rfl) (by kernel_rfl) (by kernel_rfl) (fun _ _ _ h => h) (Or.inl ⟨by rfl, ?hy242⟩) hHeld ?rest242
      case hy242 => (intro w' hSw; (try dsimp only at hSw); first | (go_simp; done) | (go_simp; with_reducible rfl))
      simp only [Act.put, pz0, pz1, pz2, pz3, pz4, pz5]
      refine wpAnyH_take (i := 41) (v := ?v243) rfl (by kernel_rfl) (by kernel_rfl) (by kernel_rfl) (fun _ _ _ h => h) (Or.inl ⟨by rfl, ?hy243⟩) hHeld ?rest243
      case hy243 => (intro w' hSw; (try dsimp only at hSw); first | (go_simp; done) | (go_simp; with_reducible rfl))
      simp only [Act.put, pz0, pz1, pz2, pz3, pz4, pz5]
      refine wpAnyH_take (i := 42) (v := ?v244) rfl (by kernel_rfl) (by kernel_rfl) (by kernel_rfl) (fun _ _ _ h => h) (Or.inl ⟨by rfl, ?hy244⟩) hHeld ?rest244
      case hy244 => (intro w' hSw; (try dsimp only at hSw); first | (go_simp; done) | (go_simp; with_reducible rfl))
      simp only [Act.put, pz0, pz1, pz2, pz3, pz4, pz5]
      refine wpAnyH_take (i := 43) (v := ?v245) rfl (by kernel_rfl) (by kernel_rfl) (by kernel_rfl) (fun _ _ _ h => h) (Or.inl ⟨by rfl, ?hy245⟩) hHeld ?rest245
      case hy245 => (intro w' hSw; (try dsimp only at hSw); first | (go_simp; done) | (go_simp; with_reducible rfl))
      simp only [Act.put, pz0, pz1, pz2, pz3, pz4, pz5]
      refine wpAnyH_take (i := 44) (v := ?v246) rfl (by kernel_rfl) (by kernel_rfl) (by kernel_rfl) (fun _ _ _ h => h) (Or.inl ⟨by rfl, ?hy246⟩) hHeld ?rest246
      case hy246 => (intro w' hSw; (try dsimp only at hSw); first | (go_simp; done) | (go_simp; with_reducible rfl))
      simp only [Act.put, pz0, pz1, pz2, pz3, pz4, pz5]
      refine wpAnyH_take (i := 45) (v := ?v247) rfl (by kernel_rfl) (by kernel_rfl) (by kernel_rfl) (fun _ _ _ h => h) (Or.inl ⟨by rfl, ?hy247⟩) hHeld ?rest247
      case hy247 => (intro w' hSw; (try dsimp only at hSw); first | (go_simp; done) | (go_simp; with_reducible rfl))
      simp only [Act.put, pz0, pz1, pz2, pz3, pz4, pz5]
      refine wpAnyH_take (i := 46) (v := ?v248) rfl (by kernel_rfl) (by kernel_rfl) (by kernel_rfl) (fun _ _ _ h => h) (Or.inl ⟨by rfl, ?hy248⟩) hHeld ?rest248
      case hy248 => (intro w' hSw; (try dsimp only at hSw); first | (go_simp; done) | (go_simp; with_reducible rfl))
      simp only [Act.put, pz0, pz1, pz2, pz3, pz4, pz5]
      refine wpAnyH_take (i := 47) (v := ?v249) rfl (by kernel_rfl) (by kernel_rfl) (by kernel_rfl) (fun _ _ _ h => h) (Or.inl ⟨by rfl, ?hy249⟩) hHeld ?rest249
      case hy249 => (intro w' hSw; (try dsimp only at hSw); first | (go_simp; done) | (go_simp; with_reducible rfl))
      simp only [Act.put, pz0, pz1, pz2, pz3, pz4, pz5]
      refine wpAnyH_take (i := 48) (v := ?v250) rfl (by kernel_rfl) (by kernel_rfl) (by kernel_rfl) (fun _ _ _ h => h) (Or.inl ⟨by rfl, ?hy250⟩) hHeld ?rest250
      case hy250 => (intro w' hSw; (try dsimp only at hSw); first | (go_simp; done) | (go_simp; with_reducible rfl))
      simp only [Act.put, pz0, pz1, pz2, pz3, pz4, pz5]
      refine wpAnyH_take (i := 49) (v := ?v251) rfl (by kernel_rfl) (by kernel_rfl) (by kernel_rfl) (fun _ _ _ h => h) (Or.inl ⟨by rfl, ?hy251⟩) hHeld ?rest251
      case hy251 => (intro w' hSw; (try dsimp only at hSw); first | (go_simp; done) | (go_simp; with_reducible rfl))
      simp only [Act.put, pz0, pz1, pz2, pz3, pz4, pz5]
      refine wpAnyH_take (i := 50) (v := ?v252) rfl (by kernel_rfl) (by kernel_rfl) (by kernel_rfl) (fun _ _ _ h => h) (Or.inl ⟨by rfl, ?hy252⟩) hHeld ?rest252
      case hy252 => (intro w' hSw; (try dsimp only at hSw); first | (go_simp; done) | (go_simp; with_reducible rfl))
      simp only [Act.put, pz0, pz1, pz2, pz3, pz4, pz5]
      refine wpAnyH_take (i := 51) (v := ?v253) rfl (by kernel_rfl) (by kernel_rfl) (by kernel_rfl) (fun _ _ _ h => h) (Or.inl ⟨by rfl, ?hy253⟩) hHeld ?rest253
      case hy253 => (intro w' hSw; (try dsimp only at hSw); first | (go_simp; done) | (go_simp; with_reducible rfl))
      simp only [Act.put, pz0, pz1, pz2, pz3, pz4, pz5]
      refine wpAnyH_ready (rs := [52]) (by kernel_rfl) (by simp) ?_
      refine AllReadyH.cons rfl (fun K hK => ?_) AllReadyH.nil
      go_simp
      refine (specL11Less l[k - 1] l[k] A3 A1 l[k - 1].key.length c3 l[k].key.length c1 _ _ _ (HSP.out.below VlR.stays hb9) (HSC.out.below VlR.stays hb9) HN1.out HN2.out).mono ?_
      rintro e w7 ⟨rfl, hb7⟩
      rw [HC.out]
      go_wp2_with fail
      refine hK.out _ _ (keepC5 hHeld hb7) (fun hHeld => ?_)
      clear hK K
      (try simp only [Act.put, pz0, pz1, pz2, pz3, pz4, pz5])
      refine wpAnyH_take (i := 53) (v := ?v254) rfl (by kernel_rfl) (by kernel_rfl) (by kernel_rfl) (fun _ _ _ h => h) (Or.inl ⟨by rfl, ?hy254⟩) hHeld ?rest254
      case hy254 => (intro w' hSw; (try dsimp only at hSw); first | (go_simp; done) | (go_simp; with_reducible rfl))
      simp only [Act.put, pz0, pz1, pz2, pz3, pz4, pz5]
      refine wpAnyH_take (i := 54) (v := ?v255) rfl (by kernel_rfl) (by kernel_rfl) (by kernel_rfl) (fun _ _ _ h => h) (Or.inl ⟨by rfl, ?hy255⟩) hHeld ?rest255
      case hy255 => (intro w' hSw; (try dsimp only at hSw); first | (go_simp; done) | (go_simp; with_reducible rfl))
      simp only [Act.put, pz0, pz1, pz2, pz3, pz4, pz5]
      refine wpAnyH_take (i := 55) (v := ?v256) rfl (by kernel_rfl) (by kernel_rfl) (by kernel_rfl) (fun _ _ _ h => h) (Or.inl ⟨by rfl, ?hy256⟩) hHeld ?rest256
      case hy256 => (intro w' hSw; (try dsimp only at hSw); first | (go_simp; done) | (go_simp; with_reducible rfl))
      simp only [Act.put, pz0, pz1, pz2, pz3, pz4, pz5]
      refine wpAnyH_done (by kernel_rfl) ?_ _
      refine NoPanic.normal ?_
      clear hHeld
      go_wp2_with fail
      go_roundw
      case rel => exact ⟨k + 1, by omega, by go_num, HA, HU, (hbd.trans (hb9.mono hbd.size)).trans (hb7.mono (hbd.trans (hb9.mono hbd.size)).size)⟩
      case measure => simp [intOf]; omega
end Go.Proofs.Ytlpfpcnafejkoaa
namespace Go.Proofs.Ytlpfpcnafejkoaa
open Go.RowKit
theorem infoEntC : (Try.prog.info? 42).map (fun i => (i.zero, i.size, i.bytes)) = some (some (.agg #[.slice none 0 0, .int .i64 0]), 2, 32) := by kernel_rfl
theorem OwnE0.drew {w : World} {base : Nat} {v : Value} {es : List En} {vs : List Value} (h : OwnE0 w base v es vs) : OwnE0 w.drew base v es vs := ⟨h.len, h.row, h.key, h.apart⟩
theorem OwnE0.below {w w' : World} {base : Nat} {v : Value} {es : List En} {vs : List Value} (h : OwnE0 w base v es vs) (hb : Below w.heap.size w w') : OwnE0 w' base v es vs :=
  ⟨h.len, ownsRow_below h.row hb, fun i hi hi' => OwnG.below (h.key i hi hi') hb, h.apart⟩
theorem OwnE0.fresh {w w1 : World} {base base1 : Nat} {v k : Value} {es : List En} {vs : List Value} {xs : List Vl} (h : OwnE0 w base v es vs) (hk : OwnK w1 base1 k xs) (hb : w.heap.size ≤ base1) : ∀ b ∈ blk k, b ∉ vs.flatMap blk := fun b hb' hh => by
  obtain ⟨u, hu, hbu⟩ := List.mem_flatMap.1 hh
  obtain ⟨i, hi, rfl⟩ := List.mem_iff_getElem.1 hu
  have h1 := (OwnG.block_lt hk b (by simpa [blk] using hb')).1
  have h2 := (OwnG.block_lt (h.key i (by rw [← h.len]; exact hi) hi) b (by simpa [blk] using hbu)).2
  omega
set_option maxRecDepth 100000 in
set_option maxHeartbeats 2000000 in
theorem specL11Copy (A : Option Addr) (n c : Nat) (es : List En) (ok : Nat → Prop) (w : World) (h : Sl EnR 2 ok w A n es) (hk : ∀ e ∈ es, e.key.length ≤ 1073741824) (hl : n ≤ 1073741824) :
    Calls Try.prog 36 #[.slice A n c] w fun e w' => ∃ v', e = .returned v' ∧ OwnE w' w.heap.size v' es ∧ Below w.heap.size w w' := by
  obtain ⟨i0, hi, hz0, hz1, hz2⟩ := info_parts infoEntC
  have H1 := Lib.hid hi
  have H2 := Lib.hid hz0
  have H3 := Lib.hid hz1
  have H4 := Lib.hid hz2
  clear hi hz0 hz1 hz2
  obtain rfl : es.length = n := h.1
  have HK := Lib.hid hk
  clear hk
  have hb0 := (Below.refl w.heap.size w).alloc (Nat.le_refl _) (.cells #[] 42)
  have ho0 := Lib.hid (OwnE.lit w (Nat.le_refl w.heap.size))
  go_enter Try.func36, Try.ntmps36
  go_wp2_with fail
  generalize w.alloc (.cells #[] 42) = z0 at *
  go_loopw [3, 4] (fun v i wr => ∃ (k : Nat), k ≤ es.length ∧ i = .int .i64 k ∧ Hid (OwnE wr w.heap.size v (es.take k)) ∧ Below w.heap.size w wr) (fun _ i _ => es.length - (intOf i).toNat)
  case atStart => exact ⟨0, by omega, rfl, ho0, hb0⟩
  case round =>
    clear hb0 ho0
    obtain ⟨k, hk, rfl, hown, hb⟩ := hrel
    by_cases hlt : k < es.length
    · obtain ⟨b, off, A1, n1, c1, -, rfl, q0', q1', hky', -⟩ := EnR.at_ h hlt
      have q0 := below_keep hb _ _ q0'
      have q1 := below_keep hb _ _ q1'
      have hky := hky'.below VlR.stays hb
      clear hky'
      have i0' : (0 : Int) ≤ k := by omega
      have i1 : (k : Int) < es.length := by omega
      have HKL := Lib.hid (HK.out es[k] (List.getElem_mem hlt))
      have HT := Lib.hid (show es.take (k + 1) = es.take k ++ [es[k]] from List.take_succ_eq_append_getElem hlt)
      have HLK := Lib.hid (show (es.take k).length = k by rw [List.length_take]; omega)
      generalize hxs : es.take k = xs at *
      generalize hek : es[k] = e at *
      have Q0 := Lib.hid q0'
      have Q1 := Lib.hid q1'
      clear q0' q1'
      obtain ⟨vs, hO⟩ := hown.out
      have HO := Lib.hid hO.drew
      have hkd : Sl VlR 3 ok wr.drew A1 n1 e.key := hky.stays VlR.stays (fun _ h => h) (fun p v _ h => h)
      clear hO hown hxs hek
      go_wp2_with fail
      go_region_held3 (fun w' => w'.cell? ⟨b, off + k * 2, none⟩ = some (.slice A1 n1 c1) ∧ w'.cell? ⟨b, off + k * 2 + 1, none⟩ = some (.int .i64 e.id))
        (first | go_keep | exact ⟨below_keep hB9 _ _ Q0.out, below_keep hB9 _ _ Q1.out⟩ | exact ⟨below_keep hb1 _ _ (by assumption), below_keep hb1 _ _ (by assumption)⟩)
        (first
          | (go_at_call 27; refine (specCopyVals A1 n1 c1 e.key _ _ hkd (by have := hky.1; have := HKL.out; omega)).mono ?_; rintro e1 w1 ⟨v1, rfl, hk1, hb1⟩; obtain ⟨A2, c2, rfl⟩ := hk1.shape; have HO1 := HO.out.below hb1)
          | (refine wp_append_own _ _ _ 36 rfl w.heap.size 42 i0 (.agg #[.slice none 0 0, .int .i64 0]) 2 32 Try.underlying36 H1.out H2.out H3.out H4.out rfl (by decide) _ _ _ rfl (World.ownsRow.alloc HO1.row _) ⟨_, 0, none⟩ 1 1 [.slice A2 e.key.length c2, .int .i64 e.id] rfl rfl (cells_newAt _ [.slice A2 e.key.length c2, .int .i64 e.id] _ (by simp)) (by intro u hu; simp at hu; rcases hu with rfl | rfl; exact hk1.one; rfl) (by have := HLK.out; unfold maxLen; omega) (by have := HLK.out; omega) (by have h1 := hb.size; have h2 := hb1.size; simp at h1 h2 ⊢; omega) ?_; intro v9 w9 hown9 hgrow9 _; have hB9 : Below w.heap.size w w9 := ((hb.drew.trans (hb1.mono hb.size)).alloc (by have h1 := hb.size; have h2 := hb1.size; simp at h1 h2 ⊢; omega) _).grown hgrow9 (by have h1 := hb.size; have h2 := hb1.size; simp at h1 h2 ⊢; omega) (fun k hk => (World.ownsRow.lt HO1.row k hk).1); have HO9 := OwnE0.app (x := e) HO1 (by have h1 := hb.size; have h2 := hb1.size; simp at h1 h2 ⊢; omega) (hk1.mono (by have h1 := hb.size; simp at h1 ⊢; omega)) (HO.out.fresh hk1 (Nat.le_refl _)) hown9 hgrow9))
      have HE9 := Lib.hid (show OwnE w9 w.heap.size v9 (es.take (k + 1)) by rw [HT.out]; exact ⟨_, HO9⟩)
      clear hown9 hgrow9 HO9 HO1
      go_wp2_with fail
      go_roundw
      case rel => exact ⟨k + 1, by omega, by go_num, HE9, hB9⟩
      case measure => simp [intOf]; omega
    · have z : decide ((k : Int) < es.length) = false := decide_eq_false (by omega)
      obtain rfl : k = es.length := by omega
      go_wp2_with fail
      go_ret
      exact ⟨_, rfl, by simpa using hown.out, hb⟩
set_option maxRecDepth 100000 in
set_option maxHeartbeats 2000000 in
theorem implCopyEntry (x : En) (A : Option Addr) (n c : Nat) (ok : Nat → Prop) (w : World) (h : Sl VlR 3 ok w A n x.key) (hl : n ≤ 1073741824) :
    Calls Try.prog 45 #[.agg #[.slice A n c, .int .i64 x.id]] w fun e w' => ∃ v, e = .returned (.agg #[v, .int .i64 x.id]) ∧ OwnK w' w.heap.size v x.key ∧ Below w.heap.size w w' := by
  have hb0 := chain2 w (.cells #[.slice A n c, .int .i64 x.id] 42) (.cells #[.slice none 0 0, .int .i64 0] 42)
  obtain ⟨r1, r2⟩ := two_rows w 42 #[.slice A n c, .int .i64 x.id] #[.slice none 0 0, .int .i64 0]
  obtain ⟨⟨k0, k1⟩, -⟩ := r1.all2
  obtain ⟨⟨g0, g1⟩, fr0⟩ := r2.all2
  obtain ⟨i0, hi, hz0, hz1, hz2⟩ := info_parts infoEntC
  have HG := Lib.hid (show (Try.prog.info? 42).map (·.size) = some 2 by rw [hi]; simp [hz1])
  clear hi hz0 hz1 hz2
  have HZ := Lib.hid (show w.heap.size + 2 ≤ ((w.alloc (.cells #[.slice A n c, .int .i64 x.id] 42)).alloc (.cells #[.slice none 0 0, .int .i64 0] 42)).heap.size by simp)
  have hd : Sl VlR 3 ok ((w.alloc (.cells #[.slice A n c, .int .i64 x.id] 42)).alloc (.cells #[.slice none 0 0, .int .i64 0] 42)).drew A n x.key := (h.below VlR.stays hb0).stays VlR.stays (fun _ h => h) (fun p v _ h => h)
  go_enter Try.func45, Try.ntmps45
  go_wp2_with fail
  generalize hzz : (w.alloc (.cells #[.slice A n c, .int .i64 x.id] 42)).alloc (.cells #[.slice none 0 0, .int .i64 0] 42) = z0 at *
  have R2 := Lib.hid r2
  clear g0 g1 fr0 r1 r2
  go_region_held3 (fun w' => w'.cell? ⟨w.heap.size, 0, none⟩ = some (.slice A n c) ∧ w'.cell? ⟨w.heap.size, 1, none⟩ = some (.int .i64 x.id))
    (first | go_keep | exact ⟨below_keep hb1 _ _ (by assumption), below_keep hb1 _ _ (by assumption)⟩)
    (first | (go_at_call 29; refine (implCloneVals A n c x.key ok _ hd hl).mono ?_; rintro e1 w1 ⟨v1, rfl, hk1, hb1⟩; obtain ⟨A2, c2, rfl⟩ := hk1.shape; have rr := Row.below (w := z0.drew) R2.out hb1; obtain ⟨⟨y0, y1⟩, ⟨f0, f1⟩⟩ := rr.all2; have RR := Lib.hid rr; clear rr))
  go_wp2_with fail
  have hr2 := (RR.out.set 0 (.slice A2 x.key.length c2)).set 1 (.int .i64 x.id)
  have hz : w.heap.size + 2 ≤ z0.heap.size := HZ.out
  refine bodyPost_ret (results_cell_row (p := 2) (ty := 42) rfl _ _ (w.heap.size + 1) 42 #[.slice A2 x.key.length c2, .int .i64 x.id] (0, 0) _ rfl hr2 Try.underlying42 rfl HG.out) rfl ⟨_, rfl, ?_, ?_⟩
  · exact OwnK.mono (ownsRow_setCell_below (ownsRow_setCell_below hk1 (by show w.heap.size + 1 < z0.heap.size; omega) _) (by show w.heap.size + 1 < z0.heap.size; omega) _) (by show w.heap.size ≤ z0.heap.size; omega)
  · exact ((hb0.drew.trans (hb1.mono hb0.size)).setCell (by simp) _).setCell (by simp) _
end Go.Proofs.Ytlpfpcnafejkoaa
namespace Go.Proofs.Ytlpfpcnafejkoaa
open Go.RowKit
theorem below_dN {B : Nat} {w w' : World} (h : Below B w w') (m : Nat) : Below B w (w'.drewN m) := ⟨h.os, h.tape, h.output, h.size, h.block⟩
def ShareE (ok : Nat → Prop) (w0 w : World) (base : Nat) (v : Value) (xs : List En) : Prop :=
  ∃ vs : List Value, vs.length = xs.length ∧ w.ownsRow base 42 2 v xs.length (entC vs xs) ∧ ∀ i (h : i < xs.length) (h' : i < vs.length), ∃ A n c, vs[i] = .slice A n c ∧ n ≤ c ∧ Sl VlR 3 ok w0 A n xs[i].key
theorem OwnE.mono {w : World} {base base' : Nat} {v : Value} {es : List En} (h : OwnE w base v es) (hb : base' ≤ base) : OwnE w base' v es := by
  obtain ⟨vs, h⟩ := h
  refine ⟨vs, h.len, ⟨h.row.1, ?_⟩, fun i hi hi' => OwnK.mono (h.key i hi hi') hb, h.apart⟩
  rcases h.row.2 with h | ⟨g, cap, cur, rfl, h1, h2⟩
  · exact .inl h
  · exact .inr ⟨g, cap, cur, rfl, Nat.le_trans hb h1, h2⟩
theorem exists_list {α : Type} {P : Nat → α → Prop} : ∀ (n : Nat), (∀ i, i < n → ∃ v, P i v) → ∃ vs : List α, vs.length = n ∧ ∀ i (h : i < vs.length), P i vs[i]
  | 0, _ => ⟨[], rfl, fun i h => by simp at h⟩
  | n + 1, h => by
    obtain ⟨vs, h1, h2⟩ := exists_list n fun i hi => h i (by omega)
    obtain ⟨v, hv⟩ := h n (by omega)
    refine ⟨vs ++ [v], by simp [h1], fun i hi => ?_⟩
    by_cases e : i < vs.length
    · rw [List.getElem_append_left e]; exact h2 i e
    · simp only [List.length_append, List.length_cons, List.length_nil] at hi
      obtain rfl : i = vs.length := by omega
      rw [List.getElem_append_right (Nat.le_refl _)]
      simpa [h1] using hv
theorem entC_len (vs : List Value) (es : List En) (h : vs.length = es.length) : (entC vs es).length = es.length * 2 := by
  unfold entC
  rw [flat_len (sz := 2) _ (fun c hc => by
    obtain ⟨j, hj, rfl⟩ := List.mem_iff_getElem.1 hc
    rw [List.getElem_zipWith]; rfl), List.length_zipWith]
  omega
theorem entC_one (vs : List Value) (es : List En) (h : vs.length = es.length) (hv : ∀ v ∈ vs, v.oneCell' = true) : ∀ u ∈ entC vs es, u.oneCell' = true := fun u hu => by
  unfold entC at hu
  obtain ⟨c, hc, hu⟩ := List.mem_flatten.1 hu
  obtain ⟨j, hj, rfl⟩ := List.mem_iff_getElem.1 hc
  rw [List.getElem_zipWith] at hu
  simp at hu
  rcases hu with rfl | rfl
  · exact hv _ (List.getElem_mem _)
  · rfl
theorem Sl.keys {ok : Nat → Prop} {w : World} {ad : Addr} {n : Nat} {es : List En} (h : Sl EnR 2 ok w (some ad) n es) :
    ∃ vs : List Value, vs.length = es.length ∧ (∀ i (h : i < es.length) (h' : i < vs.length), ∃ A n c, vs[i] = .slice A n c ∧ n ≤ c ∧ Sl VlR 3 ok w A n es[i].key) ∧ ∀ j u, (entC vs es)[j]? = some u → w.cell? (ad.add j) = some u := by
  obtain ⟨vs, h1, h2⟩ := exists_list (P := fun i (v : Value) => ∀ hi : i < es.length, (∃ A n c, v = .slice A n c ∧ n ≤ c ∧ Sl VlR 3 ok w A n es[i].key) ∧ ∃ b off, ad = ⟨b, off, none⟩ ∧ cellsAt w b (off + i * 2) [v, .int .i64 es[i].id]) es.length (fun i hi => by
    obtain ⟨b, off, e, hb, hc⟩ := h.2 (by have := h.1; omega)
    cases e
    obtain ⟨cs, k1, ⟨A0, n0, c0, rfl, k3, k4⟩, k5⟩ := hc i hi
    exact ⟨.slice A0 n0 c0, fun _ => ⟨⟨A0, n0, c0, rfl, k4, k3⟩, b, off, rfl, k5⟩⟩)
  refine ⟨vs, h1, fun i hi hi' => (h2 i hi' hi).1, fun j u hj => ?_⟩
  have hjl := (List.getElem?_eq_some_iff.1 hj).1
  rw [entC_len vs es h1] at hjl
  have hdiv : j / 2 < es.length := by omega
  have hdiv' : j / 2 < vs.length := by omega
  obtain ⟨-, b, off, rfl, hc⟩ := h2 (j / 2) hdiv' hdiv
  have h7 := entC_at vs es h1 (j / 2) hdiv hdiv' (j % 2) (by omega)
  rw [show j / 2 * 2 + j % 2 = j by omega, hj] at h7
  have := hc (j % 2) u h7.symm
  rw [addr_add]
  rwa [show off + j / 2 * 2 + j % 2 = off + j by omega] at this
set_option maxRecDepth 100000 in
set_option maxHeartbeats 1000000 in
theorem implCloneEnts (A : Option Addr) (n c : Nat) (es : List En) (ok : Nat → Prop) (w : World) (h : Sl EnR 2 ok w A n es) (hl : n ≤ 1073741824) :
    Calls Try.prog 56 #[.slice A n c] w fun e w' => ∃ v', e = .returned v' ∧ ShareE ok w w' w.heap.size v' es ∧ Below w.heap.size w w' := by
  obtain ⟨i0, hi, hz0, hz1, hz2⟩ := info_parts infoEntC
  have H1 := Lib.hid hi
  have H2 := Lib.hid hz0
  have H3 := Lib.hid hz1
  have H4 := Lib.hid hz2
  clear hi hz0 hz1 hz2
  obtain rfl : es.length = n := h.1
  have q22 : ∀ (w : World) (a : Option Addr) (n c n' c' : Nat), (binOp .eql 36 (.slice a n c) (.slice none n' c')).run Try.prog w = .ok (.bool a.isNone) w := fun w a n c n' c' => Lib.run_eql_slice_nil w _ _ a n c n' c' Try.underlying36
  cases A with
  | none =>
    have hn : es.length = 0 := by
      rcases Nat.eq_zero_or_pos es.length with h' | h'
      · exact h'
      · obtain ⟨b, off, e, -⟩ := h.2 h'
        cases e
    obtain rfl : es = [] := List.length_eq_zero_iff.1 hn
    simp only [List.length_nil] at *
    go_enter Try.func56, Try.ntmps56
    go_wp2_with fail
    go_ret
    exact ⟨_, rfl, ⟨[], rfl, World.ownsRow_nil _ _ _ _, fun i h => by simp at h⟩, Below.refl _ _⟩
  | some ad =>
    obtain ⟨vs, h1, h2, h3⟩ := h.keys
    have hb0 := (Below.refl w.heap.size w).alloc (Nat.le_refl _) (.cells #[] 42)
    have HO0 := Lib.hid (show World.ownsRow (w.alloc (.cells #[] 42)) w.heap.size 42 2 (.slice (some ⟨w.heap.size, 0, none⟩) 0 0) 0 [] from ⟨by simp, .inr ⟨w.heap.size, 0, #[], rfl, Nat.le_refl _, Go.heap_alloc_last w _, Nat.le_refl _, by simp [maxLen], by simp, by simp⟩⟩)
    have HX := Lib.hid (fun j u hj => below_keep hb0 _ _ (h3 j u hj))
    have HL := Lib.hid (entC_len vs es h1)
    have H6 := Lib.hid (entC_one vs es h1 (fun v hv => by
      obtain ⟨i, hi, rfl⟩ := List.mem_iff_getElem.1 hv
      obtain ⟨A', n', c', e, -⟩ := h2 i (by omega) hi
      rw [e]; rfl))
    have HK := Lib.hid h2
    clear h h2 h3 hb0
    go_enter Try.func56, Try.ntmps56
    go_wp2_with (at_builtin; refine wpList_append_own _ rfl _ _ 36 rfl w.heap.size 42 i0 (.agg #[.slice none 0 0, .int .i64 0]) 2 32 Try.underlying36 H1.out H2.out H3.out H4.out rfl (by decide) _ _ _ rfl HO0.out ad es.length c (entC vs es) rfl ?c0 ?c1 ?c2 ?c3 ?c4 ?c5 ?_)
    case c0 => exact HL.out
    case c1 => exact HX.out
    case c2 => exact H6.out
    case c3 => unfold maxLen; omega
    case c4 => omega
    case c5 => simp
    intro v9 w9 hown9 hgrow9 _
    go_wp2_with fail
    go_ret
    refine ⟨_, rfl, ⟨vs, h1, ?_, HK.out⟩, ?_⟩
    · simpa using hown9
    · exact ((Below.refl w.heap.size w).alloc (Nat.le_refl _) _).grown hgrow9 (by simp) (by intro k hk; simp [Value.ownBlock] at hk; omega)
structure MixE (ok : Nat → Prop) (w0 w : World) (base : Nat) (v : Value) (es : List En) (k : Nat) (vs : List Value) : Prop where
  len : vs.length = es.length
  row : w.ownsRow base 42 2 v es.length (entC vs es)
  old : ∀ i (h : i < es.length) (h' : i < vs.length), k ≤ i → ∃ A n c, vs[i] = .slice A n c ∧ n ≤ c ∧ Sl VlR 3 ok w0 A n es[i].key
  new : ∀ i (h : i < es.length) (h' : i < vs.length), i < k → OwnK w base vs[i] es[i].key
  apart : ((vs.take k).flatMap blk).Nodup
theorem MixE.start {ok : Nat → Prop} {w0 w : World} {base : Nat} {v : Value} {es : List En} (h : ShareE ok w0 w base v es) : ∃ vs, MixE ok w0 w base v es 0 vs := by
  obtain ⟨vs, h1, h2, h3⟩ := h
  exact ⟨vs, h1, h2, fun i h h' _ => h3 i h h', fun i _ _ hi => by omega, by simp⟩
theorem MixE.finish {ok : Nat → Prop} {w0 w : World} {base : Nat} {v : Value} {es : List En} {vs : List Value} (h : MixE ok w0 w base v es es.length vs) : OwnE w base v es :=
  ⟨vs, h.len, h.row, fun i hi hi' => h.new i hi hi' hi, by have := h.apart; rwa [List.take_of_length_le (by rw [h.len]; exact Nat.le_refl _)] at this⟩
theorem MixE.below {ok : Nat → Prop} {w0 w w' : World} {base : Nat} {v : Value} {es : List En} {k : Nat} {vs : List Value} (h : MixE ok w0 w base v es k vs) (hb : Below w.heap.size w w') : MixE ok w0 w' base v es k vs :=
  ⟨h.len, ownsRow_below h.row hb, h.old, fun i hi hi' hk => OwnG.below (h.new i hi hi' hk) hb, h.apart⟩
theorem entC_set (vs : List Value) (es : List En) (hl : vs.length = es.length) (k : Nat) (hk : k < es.length) (u : Value) : ((entC vs es).set (k * 2) u).set (k * 2 + 1) (.int .i64 es[k].id) = entC (vs.set k u) es := by
  have hl' : (vs.set k u).length = es.length := by simpa using hl
  refine List.ext_getElem? fun j => ?_
  by_cases hj : j < es.length * 2
  · have hd : j / 2 < es.length := by omega
    have a1 := entC_at vs es hl (j / 2) hd (by omega) (j % 2) (by omega)
    have a2 := entC_at (vs.set k u) es hl' (j / 2) hd (by omega) (j % 2) (by omega)
    rw [show j / 2 * 2 + j % 2 = j by omega] at a1 a2
    rw [a2, List.getElem?_set, List.getElem?_set, List.length_set, entC_len vs es hl, a1, List.getElem_set]
    rcases (show j % 2 = 0 ∨ j % 2 = 1 by omega) with e | e
    · rw [e]
      by_cases h1 : k = j / 2
      · subst h1
        rw [if_neg (by omega), if_pos (by omega), if_pos (by omega), if_pos rfl]; rfl
      · rw [if_neg (by omega), if_neg (by omega), if_neg h1]
    · rw [e]
      by_cases h1 : k = j / 2
      · subst h1
        rw [if_pos (by omega), if_pos (by omega)]; rfl
      · rw [if_neg (by omega), if_neg (by omega)]; rfl
  · rw [List.getElem?_eq_none (by simp [entC_len vs es hl]; omega), List.getElem?_eq_none (by rw [entC_len _ _ hl']; omega)]
theorem OwnK.kept {w w' : World} {base base' g n cap : Nat} {cs : List Value} {v : Value} {xs : List Vl} (hr : w.ownsRow base' 42 2 (.slice (some ⟨g, 0, none⟩) n cap) n cs) (h : OwnK w base v xs) (hg : w.grownBy w' (some g)) : OwnK w' base v xs := by
  refine World.ownsRow.kept h hg ?_
  have := OwnK.ne hr h
  simpa [Value.ownBlock] using this
theorem MixE.step {ok : Nat → Prop} {w0 w : World} {base g cap : Nat} {es : List En} {k : Nat} {vs : List Value} (h : MixE ok w0 w base (.slice (some ⟨g, 0, none⟩) es.length cap) es k vs) (hk : k < es.length) {v1 : Value} (hk1 : OwnK w base v1 es[k].key) (hf : ∀ b ∈ blk v1, b ∉ (vs.take k).flatMap blk) :
    MixE ok w0 ((w.setCell ⟨g, k * 2, none⟩ v1).setCell ⟨g, k * 2 + 1, none⟩ (.int .i64 es[k].id)) base (.slice (some ⟨g, 0, none⟩) es.length cap) es (k + 1) (vs.set k v1) := by
  obtain ⟨s1, g1⟩ := h.row.stored (k * 2) v1
  obtain ⟨s2, g2⟩ := s1.stored (k * 2 + 1) (.int .i64 es[k].id)
  rw [entC_set vs es h.len k hk v1] at s2
  have hvk : k < vs.length := by rw [h.len]; exact hk
  have hkk : ∀ (u : Value) (xs : List Vl), OwnK w base u xs → OwnK ((w.setCell ⟨g, k * 2, none⟩ v1).setCell ⟨g, k * 2 + 1, none⟩ (.int .i64 es[k].id)) base u xs := fun u xs hu => OwnK.kept s1 (OwnK.kept h.row hu g1) g2
  refine ⟨by simpa using h.len, s2, fun i hi hi' hik => ?_, fun i hi hi' hik => ?_, ?_⟩
  · rw [List.getElem_set_ne (by omega)]
    exact h.old i hi (by simpa using hi') (by omega)
  · by_cases e : k = i
    · subst e
      rw [List.getElem_set_self]
      exact hkk _ _ hk1
    · rw [List.getElem_set_ne e]
      exact hkk _ _ (h.new i hi (by simpa using hi') (by omega))
  · have e : (vs.set k v1).take (k + 1) = vs.take k ++ [v1] := by
      rw [List.take_succ_eq_append_getElem (by simpa using hvk), List.getElem_set_self, List.take_set, List.set_eq_of_length_le (by simp; omega)]
    rw [e, List.flatMap_append]
    refine List.nodup_append.2 ⟨h.apart, ?_, fun a ha b hb => ?_⟩
    · have hs : ∀ a : Option Nat, a.toList.Nodup := fun a => by cases a <;> simp
      simpa [blk] using hs v1.ownBlock
    · rintro rfl
      exact hf a (by simpa using hb) ha
theorem MixE.fresh {ok : Nat → Prop} {w0 w w1 : World} {base base1 : Nat} {v k : Value} {es : List En} {m : Nat} {vs : List Value} {xs : List Vl} (h : MixE ok w0 w base v es m vs) (hk : OwnK w1 base1 k xs) (hb : w.heap.size ≤ base1) : ∀ b ∈ blk k, b ∉ (vs.take m).flatMap blk := fun b hb' hh => by
  obtain ⟨u, hu, hbu⟩ := List.mem_flatMap.1 hh
  obtain ⟨i, hi, rfl⟩ := List.mem_iff_getElem.1 hu
  have hi2 : i < m ∧ i < vs.length := by rw [List.length_take] at hi; omega
  rw [List.getElem_take] at hbu
  have h1 := (OwnG.block_lt hk b (by simpa [blk] using hb')).1
  have h2 := (OwnG.block_lt (h.new i (by rw [← h.len]; exact hi2.2) hi2.2 hi2.1) b (by simpa [blk] using hbu)).2
  omega
end Go.Proofs.Ytlpfpcnafejkoaa
namespace Go.Proofs.Ytlpfpcnafejkoaa
open Go.RowKit
attribute [local go_sem] run_store_fnE
theorem OwnE.far {w : World} {base : Nat} {v : Value} {es : List En} (h : OwnE w base v es) {p : Addr} (hp : p.block < base) (u : Value) : OwnE (w.setCell p u) base v es := by
  obtain ⟨vs, h⟩ := h
  exact ⟨vs, h.len, ownsRow_setCell_below h.row hp u, fun i hi hi' => ownsRow_setCell_below (h.key i hi hi') hp u, h.apart⟩
theorem infoSortC : (Try.prog.info? 67).map (·.size) = some 2 := by kernel_rfl
set_option maxRecDepth 100000 in
set_option maxHeartbeats 2000000 in
theorem implSortedCopy (A : Option Addr) (n c : Nat) (es : List En) (ok : Nat → Prop) (w : World) (h : Sl EnR 2 ok w A n es) (hl : n ≤ 1073741824) (hk : ∀ x ∈ es, x.key.length ≤ 1073741824) :
    Calls Try.prog 40 #[.slice A n c] w fun e w' => ∃ v, e = .returned (.agg #[v, .func (.func 53) #[] #[]]) ∧ OwnE w' w.heap.size v es ∧ Below w.heap.size w w' := by
  obtain rfl : es.length = n := h.1
  have HK := Lib.hid hk
  clear hk
  have hb0 := (Below.refl w.heap.size w).alloc (Nat.le_refl _) (.cells #[.slice none 0 0, Value.nilFunc] 67)
  have r0 := Row.new w 67 #[.slice none 0 0, Value.nilFunc]
  have hx0 : (w.alloc (.cells #[.slice none 0 0, Value.nilFunc] 67)).heap.size = w.heap.size + 1 := by simp
  go_enter Try.func40, Try.ntmps40
  go_wp2_with fail
  generalize w.alloc (.cells #[.slice none 0 0, Value.nilFunc] 67) = z0 at *
  refine (implCloneEnts A _ c es _ _ (h.below EnR.stays hb0) hl).mono ?_
  rintro e w1 ⟨v1, rfl, hS, hb1⟩
  obtain ⟨vs0, hM0⟩ := MixE.start hS
  obtain ⟨A', c', rfl⟩ : ∃ A' c', v1 = .slice A' es.length c' := by
    rcases hM0.row.2 with ⟨rfl, hn⟩ | ⟨g, cap, cur, rfl, -⟩
    · exact ⟨none, 0, by rw [hn]⟩
    · exact ⟨_, _, rfl⟩
  have HM0 := Lib.hid (Exists.intro vs0 hM0)
  have HR0 := Lib.hid (r0.below hb1)
  have HB0 := Lib.hid hb1
  have HX := Lib.hid hx0
  have HBW := Lib.hid hb0
  clear hS hM0 r0 hb1 hx0 hb0 h
  go_wp2_with fail
  go_loopw [9] (fun i wr => ∃ (k : Nat), k ≤ es.length ∧ i = .int .i64 k ∧ Hid (∃ vs, MixE ok z0 wr z0.heap.size (.slice A' es.length c') es k vs) ∧ Hid (Row wr w.heap.size 67 #[.slice none 0 0, Value.nilFunc]) ∧ Hid (Below z0.heap.size z0 wr)) (fun i _ => es.length - (intOf i).toNat)
  case atStart => exact ⟨0, by omega, rfl, HM0, HR0, HB0⟩
  case round =>
    clear HM0 HR0 HB0
    obtain ⟨k, hk, rfl, hm, hr, hbz⟩ := hrel
    by_cases hlt : k < es.length
    · obtain ⟨vs, hM⟩ := hm.out
      obtain ⟨g, rfl, hg⟩ : ∃ g, A' = some ⟨g, 0, none⟩ ∧ z0.heap.size ≤ g := by
        rcases hM.row.2 with ⟨e, hn⟩ | ⟨g, cap, cur, e, hg, -⟩
        · omega
        · cases e; exact ⟨g, rfl, hg⟩
      have hvk : k < vs.length := by rw [hM.len]; exact hlt
      obtain ⟨A1, n1, c1, hv, hc1, hky⟩ := hM.old k hlt hvk (Nat.le_refl _)
      have q0 : wr.cell? ⟨g, k * 2, none⟩ = some (.slice A1 n1 c1) := by
        rw [World.ownsRow.cellAt hM.row (k * 2) (by omega)]
        have := entC_at vs es hM.len k hlt hvk 0 (by omega)
        rw [hv] at this
        exact this
      have q1 : wr.cell? ⟨g, k * 2 + 1, none⟩ = some (.int .i64 es[k].id) := by
        rw [World.ownsRow.cellAt hM.row (k * 2 + 1) (by omega)]
        exact entC_at vs es hM.len k hlt hvk 1 (by omega)
      have hky' := hky.below VlR.stays hbz.out
      have hkl : n1 ≤ 1073741824 := by have := hky.1; have := HK.out es[k] (List.getElem_mem hlt); omega
      have i0' : (0 : Int) ≤ k := by omega
      have i1 : (k : Int) < es.length := by omega
      have HM := Lib.hid hM
      have HG := Lib.hid hg
      clear hm hM hv hky hg
      go_wp2_with fail
      refine (implCopyEntry es[k] A1 n1 c1 _ _ hky' hkl).mono ?_
      rintro e w2 ⟨v2, rfl, hk2, hb2⟩
      obtain ⟨A2, c2, rfl⟩ := hk2.shape
      have q0' := below_keep hb2 _ _ q0
      have q1' := below_keep hb2 _ _ q1
      have f0 := World.ownsRow.frozenAt (HM.out.below hb2).row (k * 2)
      have f1 := World.ownsRow.frozenAt (HM.out.below hb2).row (k * 2 + 1)
      have HM2 := Lib.hid ((HM.out.below hb2).step hlt (hk2.mono hbz.out.size) (HM.out.fresh hk2 (Nat.le_refl _)))
      have HB2 := Lib.hid (((hbz.out.trans (hb2.mono hbz.out.size)).setCell (p := ⟨g, k * 2, none⟩) HG.out (.slice A2 es[k].key.length c2)).setCell (p := ⟨g, k * 2 + 1, none⟩) HG.out (.int .i64 es[k].id))
      have HR2 := Lib.hid (((hr.out.below hb2).far (p := ⟨g, k * 2, none⟩) (by have := HG.out; have := HX.out; show w.heap.size ≠ g; omega) (.slice A2 es[k].key.length c2)).far (p := ⟨g, k * 2 + 1, none⟩) (by have := HG.out; have := HX.out; show w.heap.size ≠ g; omega) (.int .i64 es[k].id))
      clear q0 q1 hk2 hb2 hr hbz
      go_wp2_with fail
      go_roundw
      case rel => exact ⟨k + 1, by omega, by go_num, Lib.hid ⟨_, HM2.out⟩, HR2, HB2⟩
      case measure => simp [intOf]; omega
    · obtain rfl : k = es.length := by omega
      obtain ⟨vs, hM⟩ := hm.out
      have HE := Lib.hid hM.finish
      have hrr := hr.out
      obtain ⟨⟨y0, y1⟩, ⟨f0, f1⟩⟩ := hrr.all2
      have HRR := Lib.hid hrr
      clear hM hm hr hrr
      go_wp2_with fail
      have hr2 := (HRR.out.set 0 (.slice A' es.length c')).set 1 (.func (.func 53) #[] #[])
      have hx := HX.out
      refine bodyPost_ret (results_cell_row (p := 2) (ty := 67) rfl _ _ w.heap.size 67 #[.slice A' es.length c', .func (.func 53) #[] #[]] (0, 0) _ rfl hr2 Try.underlying67 rfl infoSortC) rfl ⟨_, rfl, ?_, ?_⟩
      · exact ((HE.out.far (p := ⟨w.heap.size, 0, none⟩) (by show w.heap.size < z0.heap.size; omega) _).far (p := ⟨w.heap.size, 1, none⟩) (by show w.heap.size < z0.heap.size; omega) _).mono (by omega)
      · exact ((HBW.out.trans (hbz.out.mono (by omega))).setCell (by simp) _).setCell (by simp) _
end Go.Proofs.Ytlpfpcnafejkoaa
namespace Go.Proofs.Ytlpfpcnafejkoaa
open Go.RowKit
theorem ownsRow_typed {w : World} {base : Nat} {T : TypeId} {sz : Nat} {v : Value} {n : Nat} {xs : List Value} (h : w.ownsRow base T sz v n xs) {k : Nat} (hk : v.ownBlock = some k) : base ≤ k ∧ ∃ cur, w.heap[k]? = some (.cells cur T (0, 0)) := by
  rcases h.2 with ⟨rfl, -⟩ | ⟨g, cap, cur, rfl, h1, h2, -⟩
  · simp [Value.ownBlock] at hk
  · simp [Value.ownBlock] at hk
    subst hk
    exact ⟨h1, cur, h2⟩
section
def setAll (l : List Value) (off : Nat) : List Value → List Value
  | [] => l
  | u :: us => setAll (l.set off u) (off + 1) us
theorem setAll_len : ∀ (us l : List Value) (off : Nat), (setAll l off us).length = l.length
  | [], _, _ => rfl
  | u :: us, l, off => by rw [setAll, setAll_len us]; simp
theorem setAll_get : ∀ (us l : List Value) (off j : Nat), off + us.length ≤ l.length → (setAll l off us)[j]? = if off ≤ j ∧ j < off + us.length then us[j - off]? else l[j]?
  | [], l, off, j, _ => by
    rw [setAll, if_neg]
    intro h
    simp only [List.length_nil] at h
    omega
  | u :: us, l, off, j, hl => by
    simp only [List.length_cons] at hl
    rw [setAll, setAll_get us _ _ _ (by simp; omega)]
    simp only [List.length_cons]
    by_cases e : j = off
    · subst e
      rw [if_neg (by omega), if_pos (by omega), List.getElem?_set_self (by omega)]
      simp
    · by_cases h1 : off + 1 ≤ j ∧ j < off + 1 + us.length
      · rw [if_pos h1, if_pos (by omega), show j - off = (j - (off + 1)) + 1 by omega]
        simp
      · rw [if_neg h1, if_neg (by omega), List.getElem?_set_ne (by omega)]
end
end Go.Proofs.Ytlpfpcnafejkoaa
namespace Go.Proofs.Ytlpfpcnafejkoaa
open Go.RowKit
theorem grown_refl (w : World) (r : Option Nat) : w.grownBy w r := ⟨rfl, rfl, rfl, Nat.le_refl _, fun _ _ _ => rfl⟩
theorem setCells_owns {T : TypeId} {sz base g n cap : Nat} : ∀ (us : List Value) (off : Nat) (w : World) (xs : List Value), w.ownsRow base T sz (.slice (some ⟨g, 0, none⟩) n cap) n xs →
    (w.setCells g off us).ownsRow base T sz (.slice (some ⟨g, 0, none⟩) n cap) n (setAll xs off us) ∧ w.grownBy (w.setCells g off us) (some g)
  | [], off, w, xs, h => ⟨h, grown_refl _ _⟩
  | u :: us, off, w, xs, h => by
    obtain ⟨s1, g1⟩ := h.stored off u
    obtain ⟨s2, g2⟩ := setCells_owns us (off + 1) _ _ s1
    exact ⟨s2, g1.trans g2⟩
theorem entC_cons (v : Value) (e : En) (vs : List Value) (es : List En) : entC (v :: vs) (e :: es) = [v, .int .i64 e.id] ++ entC vs es := rfl
def ahead (l : List En) (e : En) (h : Nat) : Bool := match l[h]? with
  | some x => decide (ordE x e < 0)
  | none => false
def bsGo (l : List En) (e : En) (i j : Nat) : Nat := if i < j then (if ahead l e ((i + j) / 2) then bsGo l e ((i + j) / 2 + 1) j else bsGo l e i ((i + j) / 2)) else i
termination_by j - i
def bs (l : List En) (e : En) : Nat := bsGo l e 0 l.length
def bsHit (l : List En) (e : En) : Bool := match l[bs l e]? with
  | some x => ordE x e == 0
  | none => false
theorem bsGo_lt {l : List En} {e : En} {i j : Nat} (h : i < j) : bsGo l e i j = if ahead l e ((i + j) / 2) then bsGo l e ((i + j) / 2 + 1) j else bsGo l e i ((i + j) / 2) := by rw [bsGo, if_pos h]
theorem bsGo_end {l : List En} {e : En} {i j : Nat} (h : ¬ i < j) : bsGo l e i j = i := by rw [bsGo, if_neg h]
set_option maxRecDepth 100000 in
set_option maxHeartbeats 1000000 in
theorem libSearch (A : Option Addr) (n c : Nat) (l : List En) (ok : Nat → Prop) (e : En) (B : Option Addr) (m d : Nat) (ok' : Nat → Prop) (w : World) (h : Sl EnR 2 ok w A n l) (hn : n ≤ 1048576) (hk : ∀ x ∈ l, x.key.length ≤ 1048576) (hE : Sl VlR 3 ok' w B m e.key) (hm : m ≤ 1048576) :
    Calls Try.prog 68 #[.slice A n c, .agg #[.slice B m d, .int .i64 e.id], .func (.func 53) #[] #[]] w fun r w' => r = .returned (.tuple #[.int .i64 (bs l e : Nat), .bool (bsHit l e)]) ∧ Below w.heap.size w w' := by
  obtain rfl : l.length = n := h.1
  obtain rfl : e.key.length = m := hE.1
  have HK := Lib.hid hk
  clear hk
  have hb0 := (Below.refl w.heap.size w).alloc (Nat.le_refl _) (.cells #[.slice B e.key.length d, .int .i64 e.id] 42)
  have r0 := Row.new w 42 #[.slice B e.key.length d, .int .i64 e.id]
  go_enter Try.func68, Try.ntmps68
  go_wp2_with fail
  generalize w.alloc (.cells #[.slice B e.key.length d, .int .i64 e.id] 42) = z0 at *
  go_loopw [9, 10] (fun i j wr => ∃ (a b : Nat), i = .int .i64 a ∧ j = .int .i64 b ∧ Hid (a ≤ b ∧ b ≤ l.length) ∧ Hid (bsGo l e a b = bs l e) ∧ Hid (Row wr w.heap.size 42 #[.slice B e.key.length d, .int .i64 e.id]) ∧ Hid (Below w.heap.size w wr)) (fun i j _ => (intOf j).toNat - (intOf i).toNat)
  case atStart => exact ⟨0, l.length, rfl, rfl, Lib.hid ⟨by omega, by omega⟩, Lib.hid rfl, Lib.hid r0, Lib.hid hb0⟩
  case round =>
    clear hb0 r0
    obtain ⟨a, b, rfl, rfl, hab, hgo, hr, hb⟩ := hrel
    have hab' := hab.out
    by_cases hlt : a < b
    · have z : decide ((a : Int) < b) = true := by simp; omega
      go_wp2_with fail
      have hc : ((a : Int) + b) / 2 = (((a + b) / 2 : Nat) : Int) := by omega
      rw [hc]
      clear hc
      have hha : a ≤ (a + b) / 2 := by omega
      have hhb : (a + b) / 2 < b := by omega
      have HS := Lib.hid (bsGo_lt (l := l) (e := e) hlt)
      generalize (a + b) / 2 = k at *
      have hkl : k < l.length := by omega
      have i0' : (0 : Int) ≤ k := by omega
      have i1 : (k : Int) < l.length := by omega
      obtain ⟨b1, o1, A1, n1, c1, -, rfl, q0, q1, hky, -⟩ := EnR.at_ (h.below EnR.stays hb.out) hkl
      obtain ⟨⟨p0, p1⟩, -⟩ := hr.out.all2
      have hkd : Sl VlR 3 ok wr.drew A1 n1 l[k].key := hky.stays VlR.stays (fun _ h => h) (fun p v _ h => h)
      have hed : Sl VlR 3 ok' wr.drew B e.key.length e.key := (hE.below VlR.stays hb.out).stays VlR.stays (fun _ h => h) (fun p v _ h => h)
      have hn1 : n1 ≤ 1048576 := by have := hky.1; have := HK.out l[k] (List.getElem_mem hkl); omega
      have HA := Lib.hid (show ahead l e k = decide (ordE l[k] e < 0) by unfold ahead; rw [List.getElem?_eq_getElem hkl])
      have HX := Lib.hid (implOrderEntries l[k] e A1 B n1 c1 e.key.length d _ _ _ hkd hed hn1 hm)
      have d0 : wr.drew.cell? ⟨b1, o1 + k * 2, none⟩ = some (.slice A1 n1 c1) := q0
      have d1 : wr.drew.cell? ⟨b1, o1 + k * 2 + 1, none⟩ = some (.int .i64 l[k].id) := q1
      have d2 : wr.drew.cell? ⟨w.heap.size, 0, none⟩ = some (.slice B e.key.length d) := p0
      have d3 : wr.drew.cell? ⟨w.heap.size, 1, none⟩ = some (.int .i64 e.id) := p1
      clear hky hab hkd hed
      go_region_held3 (fun w' => w'.cell? ⟨b1, o1 + k * 2, none⟩ = some (.slice A1 n1 c1) ∧ w'.cell? ⟨b1, o1 + k * 2 + 1, none⟩ = some (.int .i64 l[k].id) ∧ w'.cell? ⟨w.heap.size, 0, none⟩ = some (.slice B e.key.length d) ∧ w'.cell? ⟨w.heap.size, 1, none⟩ = some (.int .i64 e.id))
        (first | go_keep | exact keepC4 (by assumption) hb1)
        (first | (go_at_call 53; refine HX.out.mono ?_; rintro r1 w1 ⟨rfl, hb1⟩))
      have HB := Lib.hid (show Below w.heap.size w w1 from hb.out.drew.trans (hb1.mono hb.out.size))
      have HR := Lib.hid (show Row w1 w.heap.size 42 #[.slice B e.key.length d, .int .i64 e.id] from Row.below (w := wr.drew) hr.out hb1)
      clear HX d0 d1 d2 d3 q0 q1 p0 p1 hb hr hb1
      by_cases hc : ordE l[k] e < 0
      · have zc : decide (ordE l[k] e < 0) = true := decide_eq_true hc
        have HN := Lib.hid (show bsGo l e (k + 1) b = bs l e by rw [← hgo.out, HS.out, HA.out, zc]; rfl)
        go_wp2_with fail
        go_roundw
        case rel => exact ⟨k + 1, b, by first | rfl | go_num, rfl, Lib.hid ⟨by omega, by omega⟩, HN, HR, HB⟩
        case measure => simp [intOf]; omega
      · have zc : decide (ordE l[k] e < 0) = false := decide_eq_false hc
        have HN := Lib.hid (show bsGo l e a k = bs l e by rw [← hgo.out, HS.out, HA.out, zc]; rfl)
        go_wp2_with fail
        go_roundw
        case rel => exact ⟨a, k, rfl, rfl, Lib.hid ⟨by omega, by omega⟩, HN, HR, HB⟩
        case measure => simp [intOf]; omega
    · obtain rfl : a = b := by omega
      have HBS := Lib.hid (show bs l e = a by rw [← hgo.out, bsGo_end (by omega)])
      clear hgo
      have z : decide ((a : Int) < a) = false := by simp
      by_cases hal : a < l.length
      · have z2 : decide ((a : Int) < (l.length : Int)) = true := decide_eq_true (by omega)
        have HH := Lib.hid (show bsHit l e = (ordE l[a] e == 0) by unfold bsHit; rw [HBS.out, List.getElem?_eq_getElem hal])
        have i0' : (0 : Int) ≤ a := by omega
        have i1 : (a : Int) < l.length := by omega
        obtain ⟨b1, o1, A1, n1, c1, -, rfl, q0, q1, hky, -⟩ := EnR.at_ (h.below EnR.stays hb.out) hal
        obtain ⟨⟨p0, p1⟩, -⟩ := hr.out.all2
        have hkd : Sl VlR 3 ok wr.drew A1 n1 l[a].key := hky.stays VlR.stays (fun _ h => h) (fun p v _ h => h)
        have hed : Sl VlR 3 ok' wr.drew B e.key.length e.key := (hE.below VlR.stays hb.out).stays VlR.stays (fun _ h => h) (fun p v _ h => h)
        have hn1 : n1 ≤ 1048576 := by have := hky.1; have := HK.out l[a] (List.getElem_mem hal); omega
        have HX := Lib.hid (implOrderEntries l[a] e A1 B n1 c1 e.key.length d _ _ _ hkd hed hn1 hm)
        have d0 : wr.drew.cell? ⟨b1, o1 + a * 2, none⟩ = some (.slice A1 n1 c1) := q0
        have d1 : wr.drew.cell? ⟨b1, o1 + a * 2 + 1, none⟩ = some (.int .i64 l[a].id) := q1
        have d2 : wr.drew.cell? ⟨w.heap.size, 0, none⟩ = some (.slice B e.key.length d) := p0
        have d3 : wr.drew.cell? ⟨w.heap.size, 1, none⟩ = some (.int .i64 e.id) := p1
        clear hky hab hkd hed
        go_wp2_with fail
        go_region_held3? (fun w' => w'.cell? ⟨b1, o1 + a * 2, none⟩ = some (.slice A1 n1 c1) ∧ w'.cell? ⟨b1, o1 + a * 2 + 1, none⟩ = some (.int .i64 l[a].id) ∧ w'.cell? ⟨w.heap.size, 0, none⟩ = some (.slice B e.key.length d) ∧ w'.cell? ⟨w.heap.size, 1, none⟩ = some (.int .i64 e.id))
          (first | go_keep | exact keepC4 (by assumption) hb1)
          (first | (go_at_call 53; refine HX.out.mono ?_; rintro r1 w1 ⟨rfl, hb1⟩))
        have HB := Lib.hid (show Below w.heap.size w w1 from hb.out.drew.trans (hb1.mono hb.out.size))
        go_wp2_with fail
        go_ret2
        exact ⟨by rw [HBS.out, HH.out]; rfl, HB.out⟩
      · obtain rfl : a = l.length := by omega
        have z2 : decide ((l.length : Int) < (l.length : Int)) = false := decide_eq_false (by omega)
        have HH := Lib.hid (show bsHit l e = false by unfold bsHit; rw [HBS.out, List.getElem?_eq_none (Nat.le_refl _)])
        have z3 : decide (l.length < l.length) = false := by simp
        go_wp2_with fail
        go_quiet (fail)
        go_wp2_with fail
        go_ret2
        exact ⟨by rw [HBS.out, HH.out]; rfl, below_dN hb.out _⟩
def rgV (v : Vl) : Prop := valOkB v.k v.n v.s = true
def rgE (e : En) : Prop := ∀ v ∈ e.key, rgV v
theorem entryB_ok {e : En} (h : entryB e = true) : rgE e := fun v hv => by
  unfold entryB rowB at h
  simp only [Bool.and_eq_true, decide_eq_true_eq, List.all_eq_true] at h
  exact h.2.1.2 v hv
theorem ordX_le {x y z : Vl} (h : rgV x) (h' : rgV y) (h2 : rgV z) (a : ordX x y ≤ 0) (b : ordX y z ≤ 0) : ordX x z ≤ 0 := ordOk_le h h' h2 a b
theorem ordL_neg : ∀ a b : List Vl, ordL b a = -ordL a b
  | [], [] => rfl
  | [], _ :: _ => rfl
  | _ :: _, [] => rfl
  | x :: a, y :: b => by
    unfold ordL
    rw [ordX_neg x y]
    by_cases h : ordX x y = 0
    · rw [if_pos h, if_pos (by omega), ordL_neg a b]
    · rw [if_neg h, if_neg (by omega)]
theorem ordL_le : ∀ {a b c : List Vl}, (∀ v ∈ a, rgV v) → (∀ v ∈ b, rgV v) → (∀ v ∈ c, rgV v) → ordL a b ≤ 0 → ordL b c ≤ 0 → ordL a c ≤ 0
  | [], _, [], _, _, _, _, _ => by simp [ordL]
  | [], _, _ :: _, _, _, _, _, _ => by simp [ordL]
  | _ :: _, [], _, _, _, _, h, _ => by simp [ordL] at h
  | _ :: _, _ :: _, [], _, _, _, _, h => by simp [ordL] at h
  | x :: a, y :: b, z :: c, ha, hb, hc, h, k => by
    have h1 := ha x (by simp)
    have h2 := hb y (by simp)
    have h3 := hc z (by simp)
    have b1 := ordX_bd x y
    have b2 := ordX_bd y z
    have b3 := ordX_bd x z
    have n1 := ordX_neg x y
    have n2 := ordX_neg y z
    have n3 := ordX_neg x z
    have IH := ordL_le (a := a) (b := b) (c := c) (fun v hv => ha v (by simp [hv])) (fun v hv => hb v (by simp [hv])) (fun v hv => hc v (by simp [hv]))
    have bb1 := ordL_bd a b
    unfold ordL at h k ⊢
    by_cases e1 : ordX x y = 0
    · rw [if_pos e1] at h
      by_cases e2 : ordX y z = 0
      · rw [if_pos e2] at k
        have t1 := ordX_le h1 h2 h3 (by omega) (by omega)
        have t2 := ordX_le h3 h2 h1 (by omega) (by omega)
        rw [if_pos (by omega)]
        exact IH h k
      · rw [if_neg e2] at k
        have t1 := ordX_le h1 h2 h3 (by omega) (by omega)
        by_cases e3 : ordX x z = 0
        · have t2 := ordX_le h3 h1 h2 (by omega) (by omega)
          omega
        · rw [if_neg e3]; exact t1
    · rw [if_neg e1] at h
      have k' : ordX y z ≤ 0 := by
        by_cases e2 : ordX y z = 0
        · omega
        · rw [if_neg e2] at k; exact k
      have t1 := ordX_le h1 h2 h3 (by omega) k'
      by_cases e3 : ordX x z = 0
      · have t2 := ordX_le h2 h3 h1 (by omega) (by omega)
        omega
      · rw [if_neg e3]; exact t1
theorem ordE_neg (a b : En) : ordE b a = -ordE a b := by
  unfold ordE
  rw [ordL_neg a.key b.key, cmpI_neg a.id b.id]
  by_cases h : ordL a.key b.key = 0
  · rw [if_pos h, if_pos (by omega)]
  · rw [if_neg h, if_neg (by omega)]
theorem ordE_le {a b c : En} (ha : rgE a) (hb : rgE b) (hc : rgE c) (h : ordE a b ≤ 0) (k : ordE b c ≤ 0) : ordE a c ≤ 0 := by
  have n1 := ordL_neg a.key b.key
  have n2 := ordL_neg b.key c.key
  have n3 := ordL_neg a.key c.key
  have i1 := cmpI_cases a.id b.id
  have i2 := cmpI_cases b.id c.id
  have i3 := cmpI_cases a.id c.id
  unfold ordE at h k ⊢
  by_cases e1 : ordL a.key b.key = 0
  · rw [if_pos e1] at h
    by_cases e2 : ordL b.key c.key = 0
    · rw [if_pos e2] at k
      have t1 := ordL_le ha hb hc (by omega) (by omega)
      have t2 := ordL_le hc hb ha (by omega) (by omega)
      rw [if_pos (by omega)]
      omega
    · rw [if_neg e2] at k
      have t1 := ordL_le ha hb hc (by omega) (by omega)
      by_cases e3 : ordL a.key c.key = 0
      · have t2 := ordL_le hc ha hb (by omega) (by omega)
        omega
      · rw [if_neg e3]; exact t1
  · rw [if_neg e1] at h
    have k' : ordL b.key c.key ≤ 0 := by
      by_cases e2 : ordL b.key c.key = 0
      · omega
      · rw [if_neg e2] at k; exact k
    have t1 := ordL_le ha hb hc (by omega) k'
    by_cases e3 : ordL a.key c.key = 0
    · have t2 := ordL_le hb hc ha (by omega) (by omega)
      omega
    · rw [if_neg e3]; exact t1
theorem ordE_lt {a b c : En} (ha : rgE a) (hb : rgE b) (hc : rgE c) (h : ordE a b < 0) (k : ordE b c ≤ 0) : ordE a c < 0 := by
  have h1 := ordE_le ha hb hc (by omega) k
  by_cases e : ordE a c = 0
  · have n1 := ordE_neg a c
    have n2 := ordE_neg a b
    have h2 := ordE_le hb hc ha k (by omega)
    omega
  · omega
theorem rises_step {l : List En} (h : risesB l = true) {i : Nat} (hi : i + 1 < l.length) : ordE l[i] l[i + 1] < 0 := by
  unfold risesB at h
  rw [List.all_eq_true] at h
  have := h i (List.mem_range.2 (by omega))
  rw [upB_at hi] at this
  simpa using this
theorem rises_lt {l : List En} (h : risesB l = true) (ho : ∀ e ∈ l, rgE e) : ∀ (d i : Nat) (hi : i + d + 1 < l.length), ordE (l[i]'(by omega)) l[i + d + 1] < 0
  | 0, i, hi => rises_step h hi
  | d + 1, i, hi => by
    have h1 := rises_lt h ho d i (by omega)
    have h2 := rises_step h (i := i + d + 1) (by omega)
    exact ordE_lt (ho _ (List.getElem_mem _)) (ho _ (List.getElem_mem _)) (ho _ (List.getElem_mem _)) h1 (Int.le_of_lt h2)
theorem rises_lt' {l : List En} (h : risesB l = true) (ho : ∀ e ∈ l, rgE e) {i j : Nat} (hij : i < j) (hj : j < l.length) : ordE (l[i]'(by omega)) l[j] < 0 := by
  obtain ⟨d, rfl⟩ : ∃ d, j = i + d + 1 := ⟨j - i - 1, by omega⟩
  exact rises_lt h ho d i hj
theorem ahead_at {l : List En} {e : En} {h : Nat} (hh : h < l.length) : ahead l e h = decide (ordE l[h] e < 0) := by
  unfold ahead
  rw [List.getElem?_eq_getElem hh]
theorem bsGo_ok {l : List En} {e : En} (hr : risesB l = true) (ho : ∀ x ∈ l, rgE x) (he : rgE e) : ∀ (d i j : Nat), j - i ≤ d → i ≤ j → j ≤ l.length → (∀ k (h : k < l.length), k < i → ordE l[k] e < 0) → (∀ k (h : k < l.length), j ≤ k → ¬ ordE l[k] e < 0) →
    bsGo l e i j ≤ l.length ∧ (∀ k (h : k < l.length), k < bsGo l e i j → ordE l[k] e < 0) ∧ (∀ k (h : k < l.length), bsGo l e i j ≤ k → ¬ ordE l[k] e < 0)
  | d, i, j, hd, hij, hj, h1, h2 => by
    by_cases hlt : i < j
    · rw [bsGo_lt hlt]
      have hk : (i + j) / 2 < l.length := by omega
      rw [ahead_at hk]
      obtain ⟨d', rfl⟩ : ∃ d', d = d' + 1 := ⟨d - 1, by omega⟩
      by_cases hc : ordE l[(i + j) / 2] e < 0
      · rw [decide_eq_true hc, if_pos rfl]
        refine bsGo_ok hr ho he d' _ _ (by omega) (by omega) hj (fun k h hki => ?_) h2
        by_cases e1 : k = (i + j) / 2
        · subst e1; exact hc
        · exact ordE_lt (ho _ (List.getElem_mem _)) (ho _ (List.getElem_mem _)) he (rises_lt' hr ho (by omega) hk) (by omega)
      · rw [decide_eq_false hc, if_neg (by simp)]
        refine bsGo_ok hr ho he d' _ _ (by omega) (by omega) (by omega) h1 (fun k h hki hlt2 => ?_)
        by_cases e1 : k = (i + j) / 2
        · subst e1; exact hc hlt2
        · exact hc (ordE_lt (ho _ (List.getElem_mem _)) (ho _ (List.getElem_mem _)) he (rises_lt' hr ho (show (i + j) / 2 < k by omega) h) (by omega))
    · rw [bsGo_end hlt]
      exact ⟨by omega, fun k h hk => h1 k h hk, fun k h hk => h2 k h (by omega)⟩
theorem bs_ok {l : List En} {e : En} (hr : risesB l = true) (ho : ∀ x ∈ l, rgE x) (he : rgE e) : bs l e ≤ l.length ∧ (∀ k (h : k < l.length), k < bs l e → ordE l[k] e < 0) ∧ (∀ k (h : k < l.length), bs l e ≤ k → ¬ ordE l[k] e < 0) :=
  bsGo_ok hr ho he _ 0 l.length (Nat.le_refl _) (Nat.zero_le _) (Nat.le_refl _) (fun k h hk => by omega) (fun k h hk => by omega)
theorem run_copy2 {P : Program} (w : World) (dT sT ty elem : TypeId) (b o dLen dCap : Nat) (a : Addr) (sLen sCap k : Nat) (cs : List Value)
    (hu : P.underlying dT = some (.slice elem)) (hs : (P.info? elem).map (·.size) = some 2) (hk : k = Nat.min sLen dLen) (hn : cs.length = k * 2)
    (hsrc : ∀ j v, cs[j]? = some v → w.cell? (a.add j) = some v) (hc : ∀ j, j < cs.length → (w.cell? ⟨b, o + j, none⟩).isSome = true) (hf : ∀ j, j < cs.length → w.frozen? ⟨b, o + j, none⟩ = false) (h1 : ∀ v ∈ cs, v.oneCell' = true) :
    (Builtin.copy_ #[dT, sT] ty #[.slice (some ⟨b, o, none⟩) dLen dCap, .slice (some a) sLen sCap]).run P w = .ok (goInt k) (w.setCells b o cs) := by
  have hst := run_storeCells_cells (P := P) b o cs 0 w (by simpa using hc) (by simpa using hf) h1
  simp only [Nat.add_zero] at hst
  cases hq : P.info? elem with
  | none => simp [hq] at hs
  | some i =>
    have hi : i.size = 2 := by simpa [hq] using hs
    have hfc := run_firstCells_some (P := P) w i.size k a sLen sCap cs (by rw [hi]; exact hn) hsrc
    simp [Builtin.copy_, run_underlying hu, Builtin.lenOf, sizeOf, typeInfo, hq, ← hk, hfc, hst]
theorem ins_list (cs ys kv : List Value) (i n : Nat) (hi : i ≤ n) (hc : cs.length = n * 2) (hy : ys.length = 2) (hk : kv.length = 2) :
    setAll (setAll (cs ++ ys) ((i + 1) * 2) (cs.drop (i * 2))) (i * 2) kv = cs.take (i * 2) ++ kv ++ cs.drop (i * 2) := by
  have l1 : (cs.drop (i * 2)).length = (n - i) * 2 := by rw [List.length_drop, hc]; omega
  have l0 : (cs ++ ys).length = (n + 1) * 2 := by rw [List.length_append, hc, hy]; omega
  have l2 : (setAll (cs ++ ys) ((i + 1) * 2) (cs.drop (i * 2))).length = (n + 1) * 2 := by rw [setAll_len, l0]
  have l3 : (cs.take (i * 2)).length = i * 2 := by rw [List.length_take, hc]; omega
  refine List.ext_getElem? fun j => ?_
  rw [setAll_get _ _ _ _ (by rw [hk, l2]; omega), hk]
  by_cases h1 : i * 2 ≤ j ∧ j < i * 2 + 2
  · rw [if_pos h1, List.getElem?_append_left (by rw [List.length_append, l3, hk]; omega), List.getElem?_append_right (by rw [l3]; omega), l3]
  · rw [if_neg h1, setAll_get _ _ _ _ (by rw [l1, l0]; omega), l1]
    by_cases h2 : j < i * 2
    · have eL : (cs ++ ys)[j]? = cs[j]? := List.getElem?_append_left (by omega)
      have eR : (cs.take (i * 2) ++ kv ++ cs.drop (i * 2))[j]? = cs[j]? := by
        rw [List.append_assoc, List.getElem?_append_left (by rw [l3]; exact h2), List.getElem?_take, if_pos h2]
      rw [if_neg (by omega), eL, eR]
    · have eR : (cs.take (i * 2) ++ kv ++ cs.drop (i * 2))[j]? = (cs.drop (i * 2))[j - (i + 1) * 2]? := by
        rw [List.getElem?_append_right (by rw [List.length_append, l3, hk]; omega), List.length_append, l3, hk]
        congr 1
        omega
      rw [eR]
      by_cases h3 : j < (n + 1) * 2
      · rw [if_pos (by omega)]
      · rw [if_neg (by omega), List.getElem?_eq_none (by rw [l0]; omega), List.getElem?_eq_none (by rw [l1]; omega)]
theorem ins_list2 (cs kv zs : List Value) (i n : Nat) (hi : i ≤ n) (hc : cs.length = n * 2) (hk : kv.length = 2) (hz : zs.length = (n + 1 - i) * 2) :
    setAll (setAll (cs.take (i * 2) ++ zs) (i * 2) kv) ((i + 1) * 2) (cs.drop (i * 2)) = cs.take (i * 2) ++ kv ++ cs.drop (i * 2) := by
  have l1 : (cs.drop (i * 2)).length = (n - i) * 2 := by rw [List.length_drop, hc]; omega
  have l3 : (cs.take (i * 2)).length = i * 2 := by rw [List.length_take, hc]; omega
  have l0 : (cs.take (i * 2) ++ zs).length = (n + 1) * 2 := by rw [List.length_append, l3, hz]; omega
  refine List.ext_getElem? fun j => ?_
  rw [setAll_get _ _ _ _ (by rw [setAll_len, l1, l0]; omega), l1]
  by_cases h1 : (i + 1) * 2 ≤ j ∧ j < (i + 1) * 2 + (n - i) * 2
  · rw [if_pos h1, List.getElem?_append_right (by rw [List.length_append, l3, hk]; omega), List.length_append, l3, hk]
    congr 1
    omega
  · rw [if_neg h1, setAll_get _ _ _ _ (by rw [hk, l0]; omega), hk]
    by_cases h2 : j < i * 2
    · rw [if_neg (by omega), List.append_assoc, List.getElem?_append_left (by rw [l3]; exact h2), List.getElem?_append_left (by rw [l3]; exact h2)]
    · by_cases h3 : j < i * 2 + 2
      · rw [if_pos (by omega), List.getElem?_append_left (by rw [List.length_append, l3, hk]; omega), List.getElem?_append_right (by rw [l3]; omega), l3]
      · rw [if_neg (by omega), List.getElem?_eq_none (by rw [l0]; omega), List.getElem?_eq_none (by rw [List.length_append, List.length_append, l3, hk, l1]; omega)]
theorem entC_ins (k : Value) (e : En) : ∀ (vs : List Value) (es : List En) (i : Nat), vs.length = es.length → i ≤ es.length → (entC vs es).take (i * 2) ++ [k, .int .i64 e.id] ++ (entC vs es).drop (i * 2) = entC (vs.take i ++ k :: vs.drop i) (es.take i ++ e :: es.drop i)
  | vs, es, 0, _, _ => by simp [entC_cons]
  | [], [], i + 1, _, h => by simp at h
  | [], _ :: _, _ + 1, h, _ => by simp at h
  | _ :: _, [], _ + 1, h, _ => by simp at h
  | v :: vs, x :: es, i + 1, h, hi => by
    have := entC_ins k e vs es i (by simpa using h) (by simpa using hi)
    have e1 : ∀ L : List Value, ([v, .int .i64 x.id] ++ L).take ((i + 1) * 2) = [v, .int .i64 x.id] ++ L.take (i * 2) := fun L => by rw [show (i + 1) * 2 = i * 2 + 1 + 1 by omega]; rfl
    have e2 : ∀ L : List Value, ([v, .int .i64 x.id] ++ L).drop ((i + 1) * 2) = L.drop (i * 2) := fun L => by rw [show (i + 1) * 2 = i * 2 + 1 + 1 by omega]; rfl
    rw [entC_cons, e1, e2, List.take_succ_cons, List.take_succ_cons, List.drop_succ_cons, List.drop_succ_cons]
    have e3 : [v, .int .i64 x.id] ++ (entC vs es).take (i * 2) ++ [k, .int .i64 e.id] ++ (entC vs es).drop (i * 2) = [v, .int .i64 x.id] ++ ((entC vs es).take (i * 2) ++ [k, .int .i64 e.id] ++ (entC vs es).drop (i * 2)) := by simp
    rw [e3, this]
    rfl
theorem ins_nodup {vs : List Value} {k : Value} {i : Nat} (h : (vs.flatMap blk).Nodup) (hn : ∀ b ∈ blk k, b ∉ vs.flatMap blk) : ((vs.take i ++ k :: vs.drop i).flatMap blk).Nodup := by
  have e : vs.flatMap blk = (vs.take i).flatMap blk ++ (vs.drop i).flatMap blk := by rw [← List.flatMap_append, List.take_append_drop]
  rw [e] at h hn
  obtain ⟨h1, h2, h3⟩ := List.nodup_append.1 h
  rw [List.flatMap_append, List.flatMap_cons]
  have hs : ∀ a : Option Nat, a.toList.Nodup := fun a => by cases a <;> simp
  refine List.nodup_append.2 ⟨h1, List.nodup_append.2 ⟨by simpa [blk] using hs k.ownBlock, h2, fun a ha b hb => ?_⟩, fun a ha b hb => ?_⟩
  · rintro rfl
    exact hn a ha (List.mem_append_right _ hb)
  · rintro rfl
    rcases List.mem_append.1 hb with hb | hb
    · exact hn a hb (List.mem_append_left _ ha)
    · exact h3 a ha a hb rfl
theorem OwnE0.ins {w w' : World} {base : Nat} {v v' k : Value} {es : List En} {vs : List Value} {x : En} {i : Nat} (h : OwnE0 w base v es vs) (hi : i ≤ es.length) (hk : OwnK w base k x.key) (hn : ∀ b ∈ blk k, b ∉ vs.flatMap blk)
    (h' : w'.ownsRow base 42 2 v' (es.length + 1) ((entC vs es).take (i * 2) ++ [k, .int .i64 x.id] ++ (entC vs es).drop (i * 2))) (hg : w.grownBy w' v.ownBlock) : OwnE0 w' base v' (es.take i ++ x :: es.drop i) (vs.take i ++ k :: vs.drop i) := by
  have hl : (es.take i ++ x :: es.drop i).length = es.length + 1 := by simp; omega
  have hvl : (vs.take i ++ k :: vs.drop i).length = es.length + 1 := by simp [h.len]; omega
  have hkk : ∀ (u : Value) (xs : List Vl), OwnK w base u xs → OwnK w' base u xs := fun u xs hu => World.ownsRow.kept hu hg (OwnK.ne h.row hu)
  refine ⟨by rw [hl, hvl], by rw [hl, ← entC_ins k x vs es i h.len hi]; exact h', fun j hj hj' => ?_, ins_nodup h.apart hn⟩
  have hti : (vs.take i).length = i := by rw [List.length_take, h.len]; omega
  have hte : (es.take i).length = i := by rw [List.length_take]; omega
  rcases Nat.lt_or_ge j i with h1 | h1
  · rw [List.getElem_append_left (by omega), List.getElem_append_left (by omega), List.getElem_take, List.getElem_take]
    exact hkk _ _ (h.key j (by omega) (by rw [h.len]; omega))
  · rcases Nat.eq_or_lt_of_le h1 with rfl | h2
    · rw [List.getElem_append_right (by omega), List.getElem_append_right (by omega)]
      simp only [hti, hte, Nat.sub_self, List.getElem_cons_zero]
      exact hkk _ _ hk
    · obtain ⟨t, rfl⟩ : ∃ t, j = i + 1 + t := ⟨j - i - 1, by omega⟩
      rw [List.getElem_append_right (by omega), List.getElem_append_right (by omega)]
      simp only [hti, hte, show i + 1 + t - i = t + 1 by omega, List.getElem_cons_succ, List.getElem_drop]
      exact hkk _ _ (h.key (i + t) (by rw [hl] at hj; omega) (by rw [h.len]; rw [hl] at hj; omega))
theorem ownsRow_ext {w : World} {T : TypeId} {base g n cap : Nat} {xs : List Value} (h : w.ownsRow base T 2 (.slice (some ⟨g, 0, none⟩) n cap) n xs) (hc : n + 1 ≤ cap) : ∃ ys : List Value, ys.length = 2 ∧ w.ownsRow base T 2 (.slice (some ⟨g, 0, none⟩) (n + 1) cap) (n + 1) (xs ++ ys) := by
  rcases h.2 with ⟨e, -⟩ | ⟨g', cap', cur, e, h1, h2, h3, h4, h5, h6⟩
  · cases e
  · injection e with e1 e2 e3
    injection e1 with e1
    injection e1 with e1
    subst e1 e3
    have hl := h.1
    have hs : cur.toList.length = cap * 2 := by rw [Array.length_toList]; exact h5
    refine ⟨(cur.toList.drop (n * 2)).take 2, by rw [List.length_take, List.length_drop, hs]; omega, by rw [List.length_append, hl, List.length_take, List.length_drop, hs]; omega, .inr ⟨g, cap, cur, rfl, h1, h2, hc, h4, h5, ?_⟩⟩
    rw [← h6, show (n + 1) * 2 = n * 2 + 2 by omega, List.take_add]
theorem row_cells {w : World} {g : Nat} {T : TypeId} {a b : Value} (h : Row w g T #[a, b]) : (∀ j u, ([a, b] : List Value)[j]? = some u → w.cell? ⟨g, j, none⟩ = some u) := fun j u hj => by
  match j, hj with
  | 0, hj => cases hj; exact h.cell 0
  | 1, hj => cases hj; exact h.cell 1
set_option maxRecDepth 100000 in
set_option maxHeartbeats 2000000 in
theorem libInsertEnd (base : Nat) (A : Option Addr) (c : Nat) (l : List En) (vb : Nat) (k : Value) (e : En) (vs : List Value) (w : World) (h : OwnE0 w base (.slice A l.length c) l vs) (hb : base ≤ w.heap.size) (hl : l.length ≤ 1048576) (hv : Row w vb 42 #[k, .int .i64 e.id]) (hk : OwnK w base k e.key) (hn : ∀ b ∈ blk k, b ∉ vs.flatMap blk) :
    Calls Try.prog 60 #[.slice A l.length c, .int .i64 l.length, .slice (some ⟨vb, 0, none⟩) 1 1] w fun r w' => ∃ v', r = .returned v' ∧ OwnE0 w' base v' (l.take l.length ++ e :: l.drop l.length) (vs.take l.length ++ k :: vs.drop l.length) ∧ w.grownBy w' (Value.slice A l.length c).ownBlock := by
  obtain ⟨i0, hi, hz0, hz1, hz2⟩ := info_parts infoEntC
  have H1 := Lib.hid hi
  have H2 := Lib.hid hz0
  have H3 := Lib.hid hz1
  have H4 := Lib.hid hz2
  clear hi hz0 hz1 hz2
  have HV := Lib.hid (row_cells hv)
  have HO := Lib.hid h
  have HK := Lib.hid (OwnK.one hk)
  have hcl := entC_len vs l h.len
  clear h
  have hcase : c = l.length ∨ ¬ c = l.length := Decidable.em _
  rcases hcase with rfl | hcc
  · go_enter Try.func60, Try.ntmps60
    go_wp2_with (at_builtin; refine wpList_append_own _ rfl _ _ 36 rfl base 42 i0 (.agg #[.slice none 0 0, .int .i64 0]) 2 32 Try.underlying36 H1.out H2.out H3.out H4.out rfl (by decide) _ _ _ rfl HO.out.row ⟨vb, 0, none⟩ 1 1 [k, .int .i64 e.id] rfl rfl ?c1 ?c2 ?c3 ?c4 ?c5 ?_)
    case c1 => intro j u hj; rw [addr_add, Nat.zero_add]; exact HV.out j u hj
    case c2 => intro u hu; simp at hu; rcases hu with rfl | rfl; exact HK.out; rfl
    case c3 => unfold maxLen; omega
    case c4 => omega
    case c5 => exact hb
    intro v9 w9 hown9 hgrow9 _
    go_wp2_with fail
    go_ret
    refine ⟨_, rfl, OwnE0.ins HO.out (Nat.le_refl _) hk hn ?_ hgrow9, hgrow9⟩
    rw [List.take_of_length_le (by rw [hcl]; exact Nat.le_refl _), List.drop_of_length_le (by rw [hcl]; exact Nat.le_refl _), List.append_nil]
    exact hown9
  · go_enter Try.func60, Try.ntmps60
    go_wp2_with (at_builtin; refine wpList_append_own _ rfl _ _ 36 rfl base 42 i0 (.agg #[.slice none 0 0, .int .i64 0]) 2 32 Try.underlying36 H1.out H2.out H3.out H4.out rfl (by decide) _ _ _ rfl HO.out.row ⟨vb, 0, none⟩ 1 1 [k, .int .i64 e.id] rfl rfl ?c1 ?c2 ?c3 ?c4 ?c5 ?_)
    case c1 => intro j u hj; rw [addr_add, Nat.zero_add]; exact HV.out j u hj
    case c2 => intro u hu; simp at hu; rcases hu with rfl | rfl; exact HK.out; rfl
    case c3 => unfold maxLen; omega
    case c4 => omega
    case c5 => exact hb
    intro v9 w9 hown9 hgrow9 _
    go_wp2_with fail
    go_ret
    refine ⟨_, rfl, OwnE0.ins HO.out (Nat.le_refl _) hk hn ?_ hgrow9, hgrow9⟩
    rw [List.take_of_length_le (by rw [hcl]; exact Nat.le_refl _), List.drop_of_length_le (by rw [hcl]; exact Nat.le_refl _), List.append_nil]
    exact hown9
theorem shifted {w : World} {base g c i : Nat} {l : List En} {vs : List Value} {k : Value} {e : En} (h : OwnE0 w base (.slice (some ⟨g, 0, none⟩) l.length c) l vs) (hi : i < l.length) (hc : l.length + 1 ≤ c) (hk : OwnK w base k e.key) (hn : ∀ b ∈ blk k, b ∉ vs.flatMap blk) :
    OwnE0 ((w.setCells g ((i + 1) * 2) ((entC vs l).drop (i * 2))).setCells g (i * 2) [k, .int .i64 e.id]) base (.slice (some ⟨g, 0, none⟩) (l.length + 1) c) (l.take i ++ e :: l.drop i) (vs.take i ++ k :: vs.drop i) ∧
      w.grownBy ((w.setCells g ((i + 1) * 2) ((entC vs l).drop (i * 2))).setCells g (i * 2) [k, .int .i64 e.id]) (some g) ∧
      (∀ j, j < (l.length + 1) * 2 → (w.cell? ⟨g, j, none⟩).isSome = true) ∧ (∀ j, j < (l.length + 1) * 2 → ((w.setCells g ((i + 1) * 2) ((entC vs l).drop (i * 2))).cell? ⟨g, j, none⟩).isSome = true) ∧ (∀ o, w.frozen? ⟨g, o, none⟩ = false) ∧ (∀ o, (w.setCells g ((i + 1) * 2) ((entC vs l).drop (i * 2))).frozen? ⟨g, o, none⟩ = false) := by
  obtain ⟨ys, hy, h1⟩ := ownsRow_ext h.row hc
  have hl := entC_len vs l h.len
  obtain ⟨s1, g1⟩ := setCells_owns ((entC vs l).drop (i * 2)) ((i + 1) * 2) w _ h1
  obtain ⟨s2, g2⟩ := setCells_owns [k, .int .i64 e.id] (i * 2) _ _ s1
  have hg := g1.trans g2
  rw [ins_list (entC vs l) ys [k, .int .i64 e.id] i l.length (by omega) hl hy rfl] at s2
  refine ⟨OwnE0.ins h (by omega) hk hn s2 hg, hg, fun j hj => ?_, fun j hj => ?_, World.ownsRow.frozenAt h1, World.ownsRow.frozenAt s1⟩
  · rw [World.ownsRow.cellAt h1 j hj, List.getElem?_eq_getElem (by rw [List.length_append, hl, hy]; omega)]; rfl
  · rw [World.ownsRow.cellAt s1 j hj, List.getElem?_eq_getElem (by rw [setAll_len, List.length_append, hl, hy]; omega)]; rfl
set_option maxRecDepth 100000 in
set_option maxHeartbeats 2000000 in
theorem libInsertShift (base g : Nat) (c i : Nat) (l : List En) (vb : Nat) (k : Value) (e : En) (vs : List Value) (w : World) (h : OwnE0 w base (.slice (some ⟨g, 0, none⟩) l.length c) l vs) (hb : base ≤ w.heap.size) (hl : l.length ≤ 1048576) (hi : i < l.length) (hc : l.length + 1 ≤ c) (hcm : c ≤ maxLen) (hv : Row w vb 42 #[k, .int .i64 e.id]) (hvb : vb ≠ g) (hk : OwnK w base k e.key) (hn : ∀ b ∈ blk k, b ∉ vs.flatMap blk) :
    Calls Try.prog 60 #[.slice (some ⟨g, 0, none⟩) l.length c, .int .i64 i, .slice (some ⟨vb, 0, none⟩) 1 1] w fun r w' => ∃ v', r = .returned v' ∧ OwnE0 w' base v' (l.take i ++ e :: l.drop i) (vs.take i ++ k :: vs.drop i) ∧ w.grownBy w' (some g) := by
  obtain ⟨i0, hi0, hz0, hzs, hzb⟩ := info_parts infoEntC
  have hsz : (Try.prog.info? 42).map (·.size) = some 2 := by rw [hi0]; simp [hzs]
  have hcl := entC_len vs l h.len
  have hvc := row_cells hv
  have hd : OwnE0 w.drew base (.slice (some ⟨g, 0, none⟩) l.length c) l vs := ⟨h.len, h.row, h.key, h.apart⟩
  have hkd : OwnK w.drew base k e.key := hk
  obtain ⟨hO, hG, hS0, hS1, hF0, hF1⟩ := shifted hd hi hc hkd hn
  have hcell : ∀ j u, (entC vs l)[j]? = some u → w.cell? ⟨g, j, none⟩ = some u := fun j u hj => by
    have hlt := (List.getElem?_eq_some_iff.1 hj).1
    rw [World.ownsRow.cellAt h.row j (by omega)]
    exact hj
  have hone : ∀ u ∈ entC vs l, u.oneCell' = true := entC_one vs l h.len (fun v hv9 => by
    obtain ⟨t, ht, rfl⟩ := List.mem_iff_getElem.1 hv9
    exact OwnK.one (h.key t (by rw [← h.len]; exact ht) ht))
  have hgw : g < w.heap.size := by
    obtain ⟨-, cur, k2⟩ := ownsRow_typed h.row (k := g) rfl
    exact lt_of_block k2
  obtain ⟨TB, kB, hsb, hkB⟩ : ∃ TB kB, w.shape? g = some (TB, kB) ∧ kB ≠ 0 := by
    rcases h.row.2 with ⟨e9, -⟩ | ⟨g', cap', cur, e9, h1, h2, h3, h4, h5, h6⟩
    · cases e9
    · injection e9 with e1 e2 e3
      injection e1 with e1
      injection e1 with e1
      subst e1 e3
      refine ⟨42, cur.size, by unfold World.shape?; rw [h2], by omega⟩
  have hov : ∀ lb cb, (callFunc 69 #[.slice (some ⟨vb, 0, none⟩) 1 1, .slice (some ⟨g, (i + 1) * 2, none⟩) lb cb]).run Try.prog w = .ok (.value (.bool false)) w := fun lb cb => by
    rw [run_callFunc_extern Try.func69 (by kernel_rfl) (by kernel_rfl) (by kernel_rfl) (e := Extern.SlicesOverlaps.overlaps #[36, 36] #[4]) (by kernel_rfl),
      Lib.run_overlaps_apart w 36 4 42 Try.underlying36 2 (fun w => by simp [sizeOf, typeInfo, hi0, hzs]) ⟨vb, 0, none⟩ ⟨g, (i + 1) * 2, none⟩ 1 1 lb cb hvb _ TB 2 kB (by unfold World.shape?; rw [show w.heap[vb]? = _ from hv]; rfl) hsb hkB (by simp [World.frozen?, show w.heap[vb]? = _ from hv]) (by simp [World.frozen?, show w.heap[vb]? = _ from hv])]
    rfl
  have hdl : ((entC vs l).drop (i * 2)).length = (l.length - i) * 2 := by rw [List.length_drop, hcl]; omega
  have hcp1 : ∀ ty dc sc, (Builtin.copy_ #[36, 36] ty #[.slice (some ⟨g, (i + 1) * 2, none⟩) (l.length - i) dc, .slice (some ⟨g, i * 2, none⟩) (l.length + 1 - i) sc]).run Try.prog w.drew = .ok (goInt ((l.length - i : Nat) : Int)) (w.drew.setCells g ((i + 1) * 2) ((entC vs l).drop (i * 2))) := fun ty dc sc =>
    run_copy2 w.drew _ _ ty 42 g ((i + 1) * 2) (l.length - i) dc ⟨g, i * 2, none⟩ (l.length + 1 - i) sc (l.length - i) _ Try.underlying36 hsz (by simp only [Nat.min_def]; split <;> omega) hdl
      (fun j u hj => by rw [addr_add]; rw [List.getElem?_drop] at hj; exact hcell _ _ hj) (fun j hj => hS0 _ (by rw [hdl] at hj; omega)) (fun j hj => hF0 _) (fun u hu => hone u (List.mem_of_mem_drop hu))
  obtain ⟨W1, hW1⟩ : ∃ W1, W1 = w.drew.setCells g ((i + 1) * 2) ((entC vs l).drop (i * 2)) := ⟨_, rfl⟩
  rw [← hW1] at hcp1 hO hG hS1 hF1
  have hv1 : ∀ j u, ([k, .int .i64 e.id] : List Value)[j]? = some u → W1.cell? ⟨vb, j, none⟩ = some u := fun j u hj => by
    rw [hW1, World.cell?_setCells_out g _ _ _ _ (fun h9 _ => absurd h9 hvb)]
    exact hvc j u hj
  have hcp2 : ∀ ty dc, (Builtin.copy_ #[36, 36] ty #[.slice (some ⟨g, i * 2, none⟩) (l.length + 1 - i) dc, .slice (some ⟨vb, 0, none⟩) 1 1]).run Try.prog W1 = .ok (goInt ((1 : Nat) : Int)) (W1.setCells g (i * 2) [k, .int .i64 e.id]) := fun ty dc =>
    run_copy2 W1 _ _ ty 42 g (i * 2) (l.length + 1 - i) dc ⟨vb, 0, none⟩ 1 1 1 _ Try.underlying36 hsz (by simp only [Nat.min_def]; split <;> omega) rfl
      (fun j u hj => by rw [addr_add, Nat.zero_add]; exact hv1 j u hj) (fun j hj => hS1 _ (by simp at hj; omega)) (fun j hj => hF1 _) (fun u hu => by simp at hu; rcases hu with rfl | rfl; exact OwnK.one hk; rfl)
  have HO := Lib.hid hO
  have HG := Lib.hid hG
  have HCP1 := Lib.hid hcp1
  clear hO hG hS0 hS1 hF0 hF1 hcell hone hcp1 hv1 hvc hd hkd hdl hsb hkB hW1
  have hz2 : ¬ ((i : Int) = (l.length : Int)) := by omega
  have hw1 : IntKind.i64.wrap ((i : Int) + 1) = (i : Int) + 1 := IntWalk.i64_in _ (by omega)
  have hw2 : IntKind.i64.wrap ((l.length : Int) + 1) = (l.length : Int) + 1 := IntWalk.i64_in _ (by omega)
  have hb1 : (0 : Int) ≤ (i : Int) + 1 := by omega
  have hb2 : ¬ (c = i + 1) := by omega
  have hb3 : (i : Int) ≤ (l.length : Int) + 1 := by omega
  have hb4 : ¬ (c = i) := by omega
  have hb5 : ((i : Int) + 1) ≤ (l.length : Int) + 1 := by omega
  have hb6 : ((l.length : Int) + 1) ≤ c := by omega
  have hb7 : i ≤ l.length := by omega
  have hb8 : (i : Int) ≤ l.length := by omega
  have hb9 : (0 : Int) ≤ i := by omega
  have ht1 : ((i : Int) + 1).toNat = i + 1 := by omega
  have ht2 : ((l.length : Int) + 1).toNat = l.length + 1 := by omega
  have hgt : decide ((c : Int) < (l.length : Int) + 1) = false := decide_eq_false (by omega)
  go_enter Try.func60, Try.ntmps60
  go_upto_region 15 with (simp only [hov])
  go_region_law (refine Go.Proofs.step_copy_runI rfl _ _ 36 36 rfl (.slice (some ⟨g, (i + 1) * 2, none⟩) (l.length - i) (c - (i + 1))) (.slice (some ⟨g, i * 2, none⟩) (l.length + 1 - i) (c - i)) (by simp [Act.eval, Act.put]) (by simp [Act.eval, Act.put]) (HCP1.out _ _ _) ?_)
  go_wp2_with fail
  go_ret
  exact ⟨_, rfl, HO.out, ⟨HG.out.os, HG.out.tape, HG.out.output, HG.out.size, HG.out.block⟩⟩
theorem regrown {w W1 : World} {base g c G i : Nat} {l : List En} {vs : List Value} {k : Value} {e : En} {z : Array Value} (h : OwnE0 w base (.slice (some ⟨g, 0, none⟩) l.length c) l vs) (hb : base ≤ w.heap.size) (hi : i < l.length) (hG : l.length + 1 ≤ G) (hGm : G ≤ maxLen) (hz : z.size = 2) (hk : OwnK w base k e.key) (hn : ∀ b ∈ blk k, b ∉ vs.flatMap blk)
    (hW : W1 = w.drew.alloc (.cells (((entC vs l).take (i * 2)).toArray ++ Builtin.zeroCells z (l.length + 1 - i) ++ Builtin.zeroCells z (G - (l.length + 1))) 42)) :
    OwnE0 (((W1.setCells w.heap.size (i * 2) [k, .int .i64 e.id]).drew).setCells w.heap.size ((i + 1) * 2) ((entC vs l).drop (i * 2))) base (.slice (some ⟨w.heap.size, 0, none⟩) (l.length + 1) G) (l.take i ++ e :: l.drop i) (vs.take i ++ k :: vs.drop i) ∧
      w.grownBy (((W1.setCells w.heap.size (i * 2) [k, .int .i64 e.id]).drew).setCells w.heap.size ((i + 1) * 2) ((entC vs l).drop (i * 2))) (some g) ∧
      (∀ j, j < (l.length + 1) * 2 → (W1.cell? ⟨w.heap.size, j, none⟩).isSome = true) ∧ (∀ j, j < (l.length + 1) * 2 → ((W1.setCells w.heap.size (i * 2) [k, .int .i64 e.id]).drew.cell? ⟨w.heap.size, j, none⟩).isSome = true) ∧ (∀ o, W1.frozen? ⟨w.heap.size, o, none⟩ = false) ∧ (∀ o, (W1.setCells w.heap.size (i * 2) [k, .int .i64 e.id]).drew.frozen? ⟨w.heap.size, o, none⟩ = false) := by
  have hl := entC_len vs l h.len
  have hl3 : ((entC vs l).take (i * 2)).length = i * 2 := by rw [List.length_take, hl]; omega
  have hzs : (Builtin.zeroCells z (l.length + 1 - i)).toList.length = (l.length + 1 - i) * 2 := by rw [Array.length_toList, size_zeroCells, hz]
  have hz2 : (Builtin.zeroCells z (G - (l.length + 1))).toList.length = (G - (l.length + 1)) * 2 := by rw [Array.length_toList, size_zeroCells, hz]
  have h1 : W1.ownsRow base 42 2 (.slice (some ⟨w.heap.size, 0, none⟩) (l.length + 1) G) (l.length + 1) ((entC vs l).take (i * 2) ++ (Builtin.zeroCells z (l.length + 1 - i)).toList) := by
    refine ⟨by rw [List.length_append, hl3, hzs]; omega, .inr ⟨w.heap.size, G, ((entC vs l).take (i * 2)).toArray ++ Builtin.zeroCells z (l.length + 1 - i) ++ Builtin.zeroCells z (G - (l.length + 1)), rfl, hb, ?_, hG, hGm, ?_, ?_⟩⟩
    · rw [hW]; exact heap_alloc_new w.drew _
    · simp only [Array.size_append, List.size_toArray, hl3, size_zeroCells, hz]; omega
    · simp only [Array.toList_append]
      rw [List.take_append_of_le_length (by rw [List.length_append, hl3, hzs]; omega), List.take_of_length_le (by rw [List.length_append, hl3, hzs]; omega)]
  have g0 : ∀ row, w.grownBy W1 row := fun row => by
    rw [hW]
    have := World.grownBy_alloc w.drew (.cells (((entC vs l).take (i * 2)).toArray ++ Builtin.zeroCells z (l.length + 1 - i) ++ Builtin.zeroCells z (G - (l.length + 1))) 42) row
    exact ⟨this.os, this.tape, this.output, this.size, this.block⟩
  obtain ⟨s1, g1⟩ := setCells_owns [k, .int .i64 e.id] (i * 2) _ _ h1
  have s1d : (W1.setCells w.heap.size (i * 2) [k, .int .i64 e.id]).drew.ownsRow base 42 2 (.slice (some ⟨w.heap.size, 0, none⟩) (l.length + 1) G) (l.length + 1) _ := s1
  obtain ⟨s2, g2⟩ := setCells_owns ((entC vs l).drop (i * 2)) ((i + 1) * 2) _ _ s1d
  have hg : w.grownBy (((W1.setCells w.heap.size (i * 2) [k, .int .i64 e.id]).drew).setCells w.heap.size ((i + 1) * 2) ((entC vs l).drop (i * 2))) (some g) := by
    have ga := g0 (some g)
    refine ⟨g2.os.trans (g1.os.trans ga.os), g2.tape.trans (g1.tape.trans ga.tape), g2.output.trans (g1.output.trans ga.output), Nat.le_trans ga.size (Nat.le_trans g1.size g2.size), fun q hq hq' => ?_⟩
    have hne : some q ≠ some w.heap.size := fun h9 => by injection h9 with h9; omega
    have q1 : q < W1.heap.size := Nat.lt_of_lt_of_le hq ga.size
    exact (g2.block q (Nat.lt_of_lt_of_le q1 g1.size) hne).trans ((g1.block q q1 hne).trans (ga.block q hq hq'))
  rw [ins_list2 (entC vs l) [k, .int .i64 e.id] _ i l.length (by omega) hl rfl hzs] at s2
  refine ⟨OwnE0.ins h (by omega) hk hn s2 hg, hg, fun j hj => ?_, fun j hj => ?_, World.ownsRow.frozenAt h1, World.ownsRow.frozenAt s1d⟩
  · rw [World.ownsRow.cellAt h1 j hj, List.getElem?_eq_getElem (by rw [List.length_append, hl3, hzs]; omega)]; rfl
  · rw [World.ownsRow.cellAt s1d j hj, List.getElem?_eq_getElem (by rw [setAll_len, List.length_append, hl3, hzs]; omega)]; rfl
set_option maxRecDepth 100000 in
set_option maxHeartbeats 2000000 in
theorem libInsertGrow (base g : Nat) (c i : Nat) (l : List En) (vb : Nat) (k : Value) (e : En) (vs : List Value) (w : World) (h : OwnE0 w base (.slice (some ⟨g, 0, none⟩) l.length c) l vs) (hb : base ≤ w.heap.size) (hl : l.length ≤ 1048576) (hi : i < l.length) (hc : c < l.length + 1) (hcn : l.length ≤ c) (hv : Row w vb 42 #[k, .int .i64 e.id]) (hk : OwnK w base k e.key) (hn : ∀ b ∈ blk k, b ∉ vs.flatMap blk) :
    Calls Try.prog 60 #[.slice (some ⟨g, 0, none⟩) l.length c, .int .i64 i, .slice (some ⟨vb, 0, none⟩) 1 1] w fun r w' => ∃ v', r = .returned v' ∧ OwnE0 w' base v' (l.take i ++ e :: l.drop i) (vs.take i ++ k :: vs.drop i) ∧ w.grownBy w' (some g) := by
  obtain ⟨i0, hi0, hz0, hzs, hzb⟩ := info_parts infoEntC
  have hsz : (Try.prog.info? 42).map (·.size) = some 2 := by rw [hi0]; simp [hzs]
  have hcl := entC_len vs l h.len
  have hcell : ∀ j u, (entC vs l)[j]? = some u → w.cell? ⟨g, j, none⟩ = some u := fun j u hj => by
    have hlt := (List.getElem?_eq_some_iff.1 hj).1
    rw [World.ownsRow.cellAt h.row j (by omega)]
    exact hj
  have hone : ∀ u ∈ entC vs l, u.oneCell' = true := entC_one vs l h.len (fun v hv9 => by
    obtain ⟨t, ht, rfl⟩ := List.mem_iff_getElem.1 hv9
    exact OwnK.one (h.key t (by rw [← h.len]; exact ht) ht))
  have hgw : g < w.heap.size := by
    obtain ⟨-, cur, k2⟩ := ownsRow_typed h.row (k := g) rfl
    exact lt_of_block k2
  have hvw : vb < w.heap.size := lt_of_block hv
  have hold : (Builtin.firstCells i0.size i (.slice (some ⟨g, 0, none⟩) i c)).run Try.prog w.drew = .ok ((entC vs l).take (i * 2)).toArray w.drew := by
    rw [hzs]
    exact run_firstCells_some w.drew 2 i ⟨g, 0, none⟩ i c ((entC vs l).take (i * 2)) (by rw [List.length_take]; omega) (fun j v hj => by
      rw [addr_add, Nat.zero_add]
      rw [List.getElem?_take] at hj
      split at hj
      · exact hcell j v hj
      · cases hj)
  obtain ⟨G, hG⟩ : ∃ G, G = grownCap w (l.length + 1) c 42 := ⟨_, rfl⟩
  have hik : i + (l.length + 1 - i) = l.length + 1 := by omega
  have hrz : ∀ ty, (Builtin.append_ #[36, 3] ty #[.slice (some ⟨g, 0, none⟩) i c, .int .i64 ((l.length : Int) + 1 - (i : Int))]).run Try.prog w =
      .ok (.slice (some ⟨w.heap.size, 0, none⟩) (l.length + 1) G) (w.drew.alloc (.cells (((entC vs l).take (i * 2)).toArray ++ Builtin.zeroCells (Value.agg #[.slice none 0 0, .int .i64 0]).cells (l.length + 1 - i) ++ Builtin.zeroCells (Value.agg #[.slice none 0 0, .int .i64 0]).cells (G - (l.length + 1))) 42)) := fun ty => by
    have h9 := Lib.run_append_grow_zeros w 36 3 ty 42 i0 _ .i64 .i64 Try.underlying36 Try.underlying3 hi0 hz0 (some ⟨g, 0, none⟩) i c ((entC vs l).take (i * 2)) hold (l.length + 1 - i) (by omega) (by omega) (by omega) (by omega) (by rw [hzb]; omega) (by rw [hzb, hik]; exact growslice_fits hc (by omega))
    rw [hik] at h9
    rw [hG, show (l.length : Int) + 1 - (i : Int) = ((l.length + 1 - i : Nat) : Int) by omega]
    exact h9
  have hGn : l.length + 1 ≤ G := by rw [hG]; exact grownCap_ge w _ _ _
  have hGm : G ≤ maxLen := by rw [hG]; exact grownCap_le_maxLen w _ _ _ (by unfold maxLen; omega)
  clear hG hold
  obtain ⟨W1, hW1⟩ : ∃ W1, W1 = w.drew.alloc (.cells (((entC vs l).take (i * 2)).toArray ++ Builtin.zeroCells (Value.agg #[.slice none 0 0, .int .i64 0]).cells (l.length + 1 - i) ++ Builtin.zeroCells (Value.agg #[.slice none 0 0, .int .i64 0]).cells (G - (l.length + 1))) 42) := ⟨_, rfl⟩
  rw [← hW1] at hrz
  obtain ⟨hO, hGr, hS0, hS1, hF0, hF1⟩ := regrown h hb hi hGn hGm (by rfl) hk hn hW1
  have hOb : ∀ b, b < w.heap.size → ∀ j v, w.cell? ⟨b, j, none⟩ = some v → W1.cell? ⟨b, j, none⟩ = some v := fun b hb9 j v h9 => by rw [hW1, World.cell?_alloc_past (w := w.drew) _ b j hb9]; exact h9
  have hdl : ((entC vs l).drop (i * 2)).length = (l.length - i) * 2 := by rw [List.length_drop, hcl]; omega
  obtain ⟨N, hN⟩ : ∃ N, N = w.heap.size := ⟨_, rfl⟩
  rw [← hN] at hrz hO hGr hS0 hS1 hF0 hF1 hgw hvw hOb
  have hcp1 : ∀ ty dc, (Builtin.copy_ #[36, 36] ty #[.slice (some ⟨N, i * 2, none⟩) (l.length + 1 - i) dc, .slice (some ⟨vb, 0, none⟩) 1 1]).run Try.prog W1 = .ok (goInt ((1 : Nat) : Int)) (W1.setCells N (i * 2) [k, .int .i64 e.id]) := fun ty dc =>
    run_copy2 W1 _ _ ty 42 N (i * 2) (l.length + 1 - i) dc ⟨vb, 0, none⟩ 1 1 1 _ Try.underlying36 hsz (by simp only [Nat.min_def]; split <;> omega) rfl
      (fun j u hj => by rw [addr_add, Nat.zero_add]; exact hOb vb hvw j u (row_cells hv j u hj)) (fun j hj => hS0 _ (by simp at hj; omega)) (fun j hj => hF0 _) (fun u hu => by simp at hu; rcases hu with rfl | rfl; exact OwnK.one hk; rfl)
  obtain ⟨W2, hW2⟩ : ∃ W2, W2 = W1.setCells N (i * 2) [k, .int .i64 e.id] := ⟨_, rfl⟩
  rw [← hW2] at hcp1 hO hGr hS1 hF1
  have hcp2 : ∀ ty dc sc, (Builtin.copy_ #[36, 36] ty #[.slice (some ⟨N, (i + 1) * 2, none⟩) (l.length - i) dc, .slice (some ⟨g, i * 2, none⟩) (l.length - i) sc]).run Try.prog W2.drew = .ok (goInt ((l.length - i : Nat) : Int)) (W2.drew.setCells N ((i + 1) * 2) ((entC vs l).drop (i * 2))) := fun ty dc sc =>
    run_copy2 W2.drew _ _ ty 42 N ((i + 1) * 2) (l.length - i) dc ⟨g, i * 2, none⟩ (l.length - i) sc (l.length - i) _ Try.underlying36 hsz (by simp only [Nat.min_def]; split <;> omega) hdl
      (fun j u hj => by
        rw [addr_add]
        show W2.cell? _ = _
        rw [hW2, World.cell?_setCells_out N _ _ _ _ (fun h9 _ => absurd h9 (by show g ≠ N; omega))]
        rw [List.getElem?_drop] at hj
        exact hOb g hgw _ u (hcell _ _ hj)) (fun j hj => hS1 _ (by rw [hdl] at hj; omega)) (fun j hj => hF1 _) (fun u hu => hone u (List.mem_of_mem_drop hu))
  have HO := Lib.hid hO
  have HG := Lib.hid hGr
  have HRZ := Lib.hid hrz
  have HCP2 := Lib.hid hcp2
  clear hO hGr hS0 hS1 hF0 hF1 hcell hone hdl hW1 hW2 hrz hcp2 hOb hN hgw hvw hik
  have hz2 : ¬ ((i : Int) = (l.length : Int)) := by omega
  have hw1 : IntKind.i64.wrap ((i : Int) + 1) = (i : Int) + 1 := IntWalk.i64_in _ (by omega)
  have hw2 : IntKind.i64.wrap ((l.length : Int) + 1) = (l.length : Int) + 1 := IntWalk.i64_in _ (by omega)
  have hw3 : IntKind.i64.wrap ((l.length : Int) + 1 - (i : Int)) = (l.length : Int) + 1 - (i : Int) := IntWalk.i64_in _ (by omega)
  have hb1 : (0 : Int) ≤ (i : Int) + 1 := by omega
  have hb3 : (i : Int) ≤ (l.length : Int) + 1 := by omega
  have hb4 : ¬ (c = i) := by omega
  have hb5 : ((i : Int) + 1) ≤ (l.length : Int) + 1 := by omega
  have hb7 : i ≤ l.length := by omega
  have hb8 : (i : Int) ≤ l.length := by omega
  have hb9 : (0 : Int) ≤ i := by omega
  have hb10 : i ≤ c := by omega
  have hb11 : (i : Int) ≤ c := by omega
  have hGi : ¬ (G = i) := by omega
  have hGi1 : ¬ (G = i + 1) := by omega
  have ht1 : ((i : Int) + 1).toNat = i + 1 := by omega
  have ht2 : ((l.length : Int) + 1).toNat = l.length + 1 := by omega
  have hgt : decide ((c : Int) < (l.length : Int) + 1) = true := decide_eq_true (by omega)
  have hlt : (c : Int) < (l.length : Int) + 1 := by omega
  go_enter Try.func60, Try.ntmps60
  go_wp2_with (at_builtin; refine Lib.wpList_append_run _ rfl _ _ _ _ rfl _ _ rfl rfl _ _ (HRZ.out _) ?_)
  go_region_law (refine Go.Proofs.step_copy_runI rfl _ _ 36 36 rfl (.slice (some ⟨N, (i + 1) * 2, none⟩) (l.length - i) (G - (i + 1))) (.slice (some ⟨g, i * 2, none⟩) (l.length - i) (c - i)) (by simp [Act.eval, Act.put]) (by simp [Act.eval, Act.put]) (HCP2.out _ _ _) ?_)
  go_wp2_with fail
  go_ret
  exact ⟨_, rfl, HO.out, HG.out⟩
end Go.Proofs.Ytlpfpcnafejkoaa
namespace Go.Proofs.Ytlpfpcnafejkoaa
open Go.RowKit
attribute [local go_sem] run_store_fnE
def boxS (A : Option Addr) (n c : Nat) : Array Value := #[.slice A n c, .func (.func 53) #[] #[]]
set_option maxRecDepth 100000 in
set_option maxHeartbeats 2000000 in
theorem implFind (b : Nat) (A : Option Addr) (n c : Nat) (l : List En) (ok : Nat → Prop) (e : En) (B : Option Addr) (m d : Nat) (ok' : Nat → Prop) (w : World) (hbx : Row w b 67 (boxS A n c)) (h : Sl EnR 2 ok w A n l) (hn : n ≤ 1048576) (hk : ∀ x ∈ l, x.key.length ≤ 1048576) (hE : Sl VlR 3 ok' w B m e.key) (hm : m ≤ 1048576) :
    Calls Try.prog 57 #[.pointer (some ⟨b, 0, none⟩), .agg #[.slice B m d, .int .i64 e.id]] w fun r w' => r = .returned (.tuple #[.int .i64 (bs l e : Nat), .bool (bsHit l e)]) ∧ Below w.heap.size w w' := by
  have hb0 := (Below.refl w.heap.size w).alloc (Nat.le_refl _) (.cells #[.slice B m d, .int .i64 e.id] 42)
  have r0 := Row.new w 42 #[.slice B m d, .int .i64 e.id]
  have hb1 := hbx.below hb0
  have p0 : (w.alloc (.cells #[.slice B m d, .int .i64 e.id] 42)).cell? ⟨b, 0, none⟩ = some (.slice A n c) := hb1.cell 0
  have p1 : (w.alloc (.cells #[.slice B m d, .int .i64 e.id] 42)).cell? ⟨b, 1, none⟩ = some (.func (.func 53) #[] #[]) := hb1.cell 1
  go_enter Try.func57, Try.ntmps57
  go_wp2_with fail
  have hE' : Sl VlR 3 ok' (w.alloc (.cells #[.slice B m d, .int .i64 e.id] 42)) B m e.key := hE.below VlR.stays hb0
  have h' : Sl EnR 2 ok (w.alloc (.cells #[.slice B m d, .int .i64 e.id] 42)) A n l := h.below EnR.stays hb0
  generalize w.alloc (.cells #[.slice B m d, .int .i64 e.id] 42) = z1 at *
  have HX := Lib.hid (libSearch A n c l ok e B m d ok' z1.drew (h'.stays EnR.stays (fun _ h => h) (fun p v _ h => h)) hn hk (hE'.stays VlR.stays (fun _ h => h) (fun p v _ h => h)) hm)
  obtain ⟨⟨q0, q1⟩, -⟩ := r0.all2
  have HB := Lib.hid hb0
  clear hb0 hb1 hE' h' r0 hbx
  go_region_held3 (fun w' => w'.cell? ⟨b, 0, none⟩ = some (.slice A n c) ∧ w'.cell? ⟨b, 1, none⟩ = some (.func (.func 53) #[] #[]) ∧ w'.cell? ⟨w.heap.size, 0, none⟩ = some (.slice B m d) ∧ w'.cell? ⟨w.heap.size, 1, none⟩ = some (.int .i64 e.id))
    (first | go_keep | exact keepC4 (by assumption) hb1)
    (first | (go_at_call 68; refine HX.out.mono ?_; rintro r1 w1 ⟨rfl, hb1⟩))
  go_wp2_with fail
  go_ret2
  exact ⟨rfl, HB.out.drew.trans (hb1.mono HB.out.size)⟩
theorem OwnE.other {w : World} {base b o : Nat} {T : TypeId} {cs : Array Value} {fr : Nat × Nat} {v : Value} {es : List En} (h : OwnE w base v es) (hb : w.heap[b]? = some (.cells cs T fr)) (h1 : T ≠ 42) (h2 : T ≠ 57) (u : Value) : OwnE (w.setCell ⟨b, o, none⟩ u) base v es := by
  obtain ⟨vs, h⟩ := h
  have hg : w.grownBy (w.setCell ⟨b, o, none⟩ u) (some b) := ⟨rfl, rfl, rfl, by simp [World.setCell], fun k hk hne => Below.heap_setCell w _ u k (fun e => hne (by rw [e]))⟩
  have hne : ∀ {T' : TypeId} {sz : Nat} {v : Value} {n : Nat} {xs : List Value}, T ≠ T' → w.ownsRow base T' sz v n xs → v.ownBlock = none ∨ v.ownBlock ≠ some b := fun {T' sz v n xs} hT hr => by
    rcases hr.2 with ⟨rfl, -⟩ | ⟨g, cap, cur, rfl, k1, k2, -⟩
    · exact .inl rfl
    · refine .inr fun e => hT ?_
      simp [Value.ownBlock] at e
      subst e
      rw [hb] at k2
      injection k2 with k2
      injection k2
  exact ⟨vs, h.len, World.ownsRow.kept h.row hg (hne h1 h.row), fun i hi hi' => World.ownsRow.kept (h.key i hi hi') hg (hne h2 (h.key i hi hi')), h.apart⟩
end Go.Proofs.Ytlpfpcnafejkoaa
namespace Go.Proofs.Ytlpfpcnafejkoaa
open Go.RowKit
def insAt (l : List En) (e : En) (i : Nat) : List En := l.take i ++ e :: l.drop i
def insL (l : List En) (e : En) : List En := insAt l e (bs l e)
def atP : List En → En → Nat
  | [], _ => 0
  | x :: l, e => if lessE x e then atP l e + 1 else 0
def putL (l : List En) (e : En) : List En := insAt l e (atP l e)
def puttedB (l : List En) (e : En) : Bool := entriesB l && entriesB (putL l e)
def putted (l : List En) (e : En) : List En := if puttedB l e = true then putL l e else []
theorem atP_le : ∀ (l : List En) (e : En), atP l e ≤ l.length
  | [], _ => Nat.le_refl _
  | x :: l, e => by
    unfold atP
    split
    · have := atP_le l e; simp; omega
    · exact Nat.zero_le _
theorem atP_low : ∀ (l : List En) (e : En) (k : Nat) (h : k < l.length), k < atP l e → lessE l[k] e = true
  | x :: l, e, k, h, hk => by
    unfold atP at hk
    split at hk
    · next hx =>
      cases k with
      | zero => exact hx
      | succ k => exact atP_low l e k (by simpa using h) (by omega)
    · omega
theorem atP_here : ∀ (l : List En) (e : En) (h : atP l e < l.length), lessE l[atP l e] e = false
  | x :: l, e, h => by
    cases hx : lessE x e with
    | false =>
      have h0 : atP (x :: l) e = 0 := by rw [atP, if_neg (by rw [hx]; simp)]
      simp only [h0, List.getElem_cons_zero]; exact hx
    | true =>
      have h0 : atP (x :: l) e = atP l e + 1 := by rw [atP, if_pos hx]
      simp only [h0, List.getElem_cons_succ]
      rw [h0] at h
      exact atP_here l e (by simpa using h)
theorem bsGo_le {l : List En} {e : En} : ∀ (d i j : Nat), j - i ≤ d → i ≤ j → bsGo l e i j ≤ j
  | d, i, j, hd, hij => by
    by_cases hlt : i < j
    · rw [bsGo_lt hlt]
      obtain ⟨d', rfl⟩ : ∃ d', d = d' + 1 := ⟨d - 1, by omega⟩
      split
      · exact bsGo_le d' _ _ (by omega) (by omega)
      · have := bsGo_le (l := l) (e := e) d' i ((i + j) / 2) (by omega) (by omega); omega
    · rw [bsGo_end hlt]; exact hij
theorem bs_le (l : List En) (e : En) : bs l e ≤ l.length := bsGo_le _ 0 l.length (Nat.le_refl _) (Nat.zero_le _)
theorem insAt_len {l : List En} {e : En} {i : Nat} (hi : i ≤ l.length) : (insAt l e i).length = l.length + 1 := by unfold insAt; simp; omega
theorem insAt_mem {l : List En} {e x : En} {i : Nat} : x ∈ insAt l e i ↔ x = e ∨ x ∈ l := by
  unfold insAt
  rw [List.mem_append, List.mem_cons]
  constructor
  · rintro (h | h | h)
    · exact .inr (List.mem_of_mem_take h)
    · exact .inl h
    · exact .inr (List.mem_of_mem_drop h)
  · rintro (h | h)
    · exact .inr (.inl h)
    · rw [← List.take_append_drop i l, List.mem_append] at h
      rcases h with h | h
      · exact .inl h
      · exact .inr (.inr h)
theorem insAt_right {l : List En} {e : En} {i : Nat} (h : entriesB (insAt l e i) = true) : entryB e = true ∧ ∀ x ∈ l, x.key.length = e.key.length := by
  obtain ⟨-, h2, -⟩ := entriesB_in h
  have he := h2 e (insAt_mem.2 (.inl rfl))
  exact ⟨he.1, fun x hx => ((h2 x (insAt_mem.2 (.inr hx))).2).trans he.2.symm⟩
theorem insAt_at {l : List En} {e : En} {i : Nat} (hi : i ≤ l.length) : (insAt l e i)[i]? = some e := by
  unfold insAt
  rw [List.getElem?_append_right (by rw [List.length_take]; omega), List.length_take, Nat.min_eq_left hi, Nat.sub_self]; rfl
theorem insAt_next {l : List En} {e : En} {i : Nat} (hi : i < l.length) : (insAt l e i)[i + 1]? = some l[i] := by
  unfold insAt
  rw [List.getElem?_append_right (by rw [List.length_take]; omega), List.length_take, Nat.min_eq_left (by omega), show i + 1 - i = 0 + 1 by omega, List.getElem?_cons_succ, List.getElem?_drop, List.getElem?_eq_getElem (by omega)]
  simp
theorem put_at {l : List En} {e : En} (h : entriesB l = true) (he : entryB e = true) (hw : ∀ x ∈ l, x.key.length = e.key.length) : atP l e = bs l e := by
  obtain ⟨h1, h2, h3⟩ := entriesB_in h
  have ho : ∀ x ∈ l, rgE x := fun x hx => entryB_ok (h2 x hx).1
  obtain ⟨b1, b2, b3⟩ := bs_ok h3 ho (entryB_ok he)
  have hl : ∀ x ∈ l, lessE x e = decide (ordE x e < 0) := fun x hx => lessE_right (h2 x hx).1 he (hw x hx)
  have a1 := atP_le l e
  rcases Nat.lt_trichotomy (atP l e) (bs l e) with hlt | heq | hgt
  · have h9 := atP_here l e (by omega)
    rw [hl _ (List.getElem_mem _), decide_eq_false_iff_not] at h9
    exact absurd (b2 _ _ hlt) h9
  · exact heq
  · have h9 := atP_low l e (bs l e) (by omega) hgt
    rw [hl _ (List.getElem_mem _), decide_eq_true_eq] at h9
    exact absurd h9 (b3 _ _ (Nat.le_refl _))
theorem put_hit {l : List En} {e : En} (h : entriesB l = true) (hr : entriesB (insL l e) = true) : bsHit l e = false := by
  cases hh : bsHit l e
  · rfl
  · exfalso
    unfold bsHit at hh
    rcases Nat.lt_or_ge (bs l e) l.length with hb | hb
    · rw [List.getElem?_eq_getElem hb] at hh
      have hz : ordE l[bs l e] e = 0 := by simpa using hh
      have hri := (entriesB_in hr).2.2
      have hle := bs_le l e
      unfold risesB at hri
      rw [List.all_eq_true] at hri
      have h5 := hri (bs l e) (List.mem_range.2 (by unfold insL; rw [insAt_len hle]; omega))
      unfold upB insL at h5
      rw [insAt_at hle, insAt_next hb] at h5
      have h6 : ordE e l[bs l e] < 0 := by simpa using h5
      have h7 := ordE_neg e l[bs l e]
      omega
    · rw [List.getElem?_eq_none hb] at hh
      cases hh
theorem put_eq {l : List En} {e : En} (h : entriesB l = true) : puttedB l e = (!bsHit l e && entriesB (insL l e)) ∧ (puttedB l e = true → putted l e = insL l e) := by
  unfold putted puttedB
  rw [h, Bool.true_and]
  by_cases hc : entryB e = true ∧ ∀ x ∈ l, x.key.length = e.key.length
  · have he := put_at h hc.1 hc.2
    have hp : putL l e = insL l e := by unfold putL insL; rw [he]
    rw [hp]
    cases hr : entriesB (insL l e)
    · simp
    · rw [put_hit h hr]; simp
  · have h1 : entriesB (putL l e) = false := by
      cases hr : entriesB (putL l e)
      · rfl
      · exact absurd (insAt_right hr) hc
    have h2 : entriesB (insL l e) = false := by
      cases hr : entriesB (insL l e)
      · rfl
      · exact absurd (insAt_right hr) hc
    rw [h1, h2]; simp
theorem valOk_size {v : Vl} (h1 : v.ok = true) : v.s.size ≤ 12 := by
  unfold Vl.ok at h1
  unfold valOkB at h1
  have h0 : ∀ b : ByteArray, b.toList.isEmpty = true → b.size = 0 := fun b hb => by
    rw [ByteArray.toList_eq] at hb
    rw [List.isEmpty_iff] at hb
    have := congrArg List.length hb
    rw [Array.length_toList] at this
    exact this
  split at h1
  · simp only [Bool.and_eq_true] at h1
    rw [h0 _ h1.2]; omega
  · split at h1
    · simp only [Bool.and_eq_true] at h1
      rw [h0 _ h1.2]; omega
    · split at h1
      · simp only [Bool.and_eq_true, decide_eq_true_eq] at h1
        omega
      · cases h1
theorem right_sz {l : List En} (h : entriesB l = true) : szL En.sz l ≤ 1048576 := by
  obtain ⟨h1, h2, -⟩ := entriesB_in h
  have hs : ∀ x ∈ l, x.sz ≤ 208 := fun x hx => by
    have h4 := entryB_row (h2 x hx).1
    unfold rowB at h4
    simp only [Bool.and_eq_true, decide_eq_true_eq] at h4
    have h5 : ∀ v ∈ x.key, v.s.size ≤ 12 := fun v hv => valOk_size (List.all_eq_true.1 h4.2 v hv)
    have h7 : ∀ l : List Vl, (∀ v ∈ l, v.s.size ≤ 12) → (l.map fun v : Vl => v.s.size).sum ≤ 12 * l.length := fun l => by
      induction l with
      | nil => intro _; simp
      | cons x l ih =>
        intro h
        have := ih fun v hv => h v (by simp [hv])
        have := h x (by simp)
        simp; omega
    have h8 := h7 x.key h5
    have h9 : x.sz = szL (fun v : Vl => v.s.size) x.key := rfl
    unfold szL at h9
    omega
  have hm : ∀ l : List En, (∀ x ∈ l, x.sz ≤ 208) → (l.map En.sz).sum ≤ 208 * l.length := fun l => by
    induction l with
    | nil => intro _; simp
    | cons x l ih =>
      intro h
      have := ih fun v hv => h v (by simp [hv])
      have := h x (by simp)
      simp; omega
  have := hm l hs
  unfold szL
  omega
theorem putted_sz (l : List En) (e : En) : szL En.sz (putted l e) ≤ 1048576 := by
  unfold putted
  split
  · next h =>
    unfold puttedB at h
    rw [Bool.and_eq_true] at h
    exact right_sz h.2
  · simp [szL]
theorem libInsert (base : Nat) (v : Value) (i : Nat) (l : List En) (vb : Nat) (k : Value) (e : En) (vs : List Value) (w : World) (h : OwnE0 w base v l vs) (hb : base ≤ w.heap.size) (hl : l.length ≤ 1048576) (hi : i ≤ l.length) (hv : Row w vb 42 #[k, .int .i64 e.id]) (hvb : v.ownBlock ≠ some vb) (hk : OwnK w base k e.key) (hn : ∀ b ∈ blk k, b ∉ vs.flatMap blk) :
    Calls Try.prog 60 #[v, .int .i64 i, .slice (some ⟨vb, 0, none⟩) 1 1] w fun r w' => ∃ v', r = .returned v' ∧ OwnE0 w' base v' (l.take i ++ e :: l.drop i) (vs.take i ++ k :: vs.drop i) ∧ w.grownBy w' v.ownBlock := by
  have hform : ∃ A c, v = .slice A l.length c := by
    rcases Joins.ownsRow_forms h.row with ⟨rfl, h0⟩ | ⟨g, cap, rfl⟩
    · exact ⟨none, 0, by rw [h0]⟩
    · exact ⟨_, _, rfl⟩
  rcases Nat.eq_or_lt_of_le hi with rfl | hlt
  · obtain ⟨A, c, rfl⟩ := hform
    exact libInsertEnd base A c l vb k e vs w h hb hl hv hk hn
  · rcases h.row.2 with ⟨rfl, h0⟩ | ⟨g, c, cur, rfl, h1, h2, h3, h4, h5, h6⟩
    · omega
    · rcases Nat.lt_or_ge c (l.length + 1) with hc | hc
      · exact libInsertGrow base g c i l vb k e vs w h hb hl hlt hc h3 hv hk hn
      · exact libInsertShift base g c i l vb k e vs w h hb hl hlt hc h4 hv (fun e9 => hvb (by rw [e9]; rfl)) hk hn
set_option maxRecDepth 100000 in
set_option maxHeartbeats 2000000 in
theorem implPutM (b base : Nat) (A : Option Addr) (c : Nat) (l : List En) (e : En) (B : Option Addr) (m d : Nat) (vs : List Value) (w : World) (hbx : Row w b 67 (boxS A l.length c)) (hbb : base ≤ b) (h : OwnE0 w base (.slice A l.length c) l vs) (hn : l.length ≤ 1048576) (hk : ∀ x ∈ l, x.key.length ≤ 1048576) (hK : OwnK w base (.slice B m d) e.key) (hm : m ≤ 1048576) (hE : Sl VlR 3 (okF base w) w B m e.key) (hnd : ∀ q ∈ blk (.slice B m d), q ∉ vs.flatMap blk) (hbs : bs l e ≤ l.length) :
    Calls Try.prog 44 #[.pointer (some ⟨b, 0, none⟩), .agg #[.slice B m d, .int .i64 e.id]] w fun r w' => r = .returned (.bool (!bsHit l e)) ∧ (bsHit l e = false → ∃ A' c', Row w' b 67 (boxS A' (l.length + 1) c') ∧ OwnE w' base (.slice A' (l.length + 1) c') (insL l e)) ∧ Below base w w' := by
  have hwb := lt_of_block hbx
  have hb0 := (Below.refl w.heap.size w).alloc (Nat.le_refl _) (.cells #[.slice B m d, .int .i64 e.id] 42)
  have r0 := Row.new w 42 #[.slice B m d, .int .i64 e.id]
  have hx0 := hbx.below hb0
  have hO0 := OwnE0.below h hb0
  have hK0 := ownsRow_below hK hb0
  have hE0 := hE.below VlR.stays hb0
  go_enter Try.func44, Try.ntmps44
  go_wp2_with fail
  generalize w.alloc (.cells #[.slice B m d, .int .i64 e.id] 42) = z1 at *
  obtain ⟨⟨q0, q1⟩, -⟩ := r0.all2
  obtain ⟨A', c', e', -, -, hsl⟩ := OwnE.sl ⟨vs, hO0⟩
  cases e'
  have HF := Lib.hid (implFind b A l.length c l _ e B m d _ z1 hx0 hsl hn hk hE0 hm)
  have HB0 := Lib.hid hb0
  have HO0 := Lib.hid hO0
  have HK0 := Lib.hid hK0
  have HX0 := Lib.hid hx0
  clear hsl hE0 hb0 hO0 hx0 hbx h hK hK0
  go_wp2_with fail
  refine HF.out.mono ?_
  rintro r w2 ⟨rfl, hb2⟩
  have HB2 := Lib.hid (show Below base w w2 from (HB0.out.mono (by omega)).trans (hb2.mono (by have := HB0.out.size; omega)))
  have HX2 := Lib.hid (HX0.out.below hb2)
  have HO2 := Lib.hid (OwnE0.below HO0.out hb2)
  have HK2 := Lib.hid (ownsRow_below HK0.out hb2)
  have HR2 := Lib.hid (r0.below hb2)
  clear HF hb2 q0 q1 r0
  cases hh : bsHit l e
  · have hx2 := HX2.out
    obtain ⟨⟨x0, x1⟩, -⟩ := hx2.all2
    obtain ⟨⟨p0, p1⟩, -⟩ := (HR2.out).all2
    have hbz : b < w2.heap.size := lt_of_block hx2
    have HI := Lib.hid (show Calls Try.prog 60 #[.slice A l.length c, .int .i64 (bs l e), .slice (some ⟨w2.heap.size, 0, none⟩) 1 1] ((w2.alloc (.cells #[.slice B m d, .int .i64 e.id] 42)).drew) fun r w' => ∃ A' c', r = .returned (.slice A' (l.length + 1) c') ∧ OwnE w' base (.slice A' (l.length + 1) c') (insL l e) ∧ Row w' b 67 (boxS A l.length c) ∧ Below base w w' by
      have hz := (Below.refl w2.heap.size w2).alloc (Nat.le_refl _) (.cells #[.slice B m d, .int .i64 e.id] 42)
      have hO3 := OwnE0.below HO2.out hz
      have hK3 := ownsRow_below HK2.out hz
      have hr3 := Row.new w2 42 #[.slice B m d, .int .i64 e.id]
      have hX3 := HX2.out.below hz
      have hbw : base ≤ w2.heap.size := by omega
      have hlt : ∀ q, (Value.slice A l.length c).ownBlock = some q → base ≤ q ∧ q < w2.heap.size := World.ownsRow.lt HO2.out.row
      have hne : (Value.slice A l.length c).ownBlock ≠ some b := fun e9 => by
        obtain ⟨-, cur, k2⟩ := ownsRow_typed HO2.out.row e9
        have h9 := HX2.out
        unfold Row at h9
        rw [k2] at h9
        injection h9 with h9
        injection h9 with _ h10
        exact absurd h10 (by decide)
      have hB3 := HB2.out.trans (hz.mono hbw)
      generalize hzz : w2.alloc (.cells #[.slice B m d, .int .i64 e.id] 42) = z at *
      have hzs : z.heap.size = w2.heap.size + 1 := by rw [← hzz]; simp
      refine (libInsert base (.slice A l.length c) (bs l e) l w2.heap.size (.slice B m d) e vs z.drew ⟨hO3.len, hO3.row, hO3.key, hO3.apart⟩ (show base ≤ z.heap.size by omega) hn hbs hr3 (fun e9 => by have := hlt _ e9; omega) hK3 hnd).mono ?_
      rintro r w3 ⟨v', rfl, ho, hg⟩
      have hll : (insL l e).length = l.length + 1 := by unfold insL; exact insAt_len hbs
      obtain ⟨A', c', rfl, -⟩ := OwnE.sl (es := insL l e) ⟨_, ho⟩
      rw [hll]
      refine ⟨A', c', rfl, by rw [← hll]; exact ⟨_, ho⟩, (hg.block b (show b < z.heap.size by omega) (fun e9 => hne e9.symm)).trans hX3, (hB3.grown (w' := w3) ⟨hg.os, hg.tape, hg.output, hg.size, hg.block⟩ (by have := hB3.size; omega) (fun q hq => (hlt q hq).1))⟩)
    clear HO2 HK2 HX2
    have HQ := Lib.hid hh
    clear hh
    go_wp2_with fail
    go_region_with (go_at_call 60; refine HI.out.mono ?_; rintro r w3 ⟨A9, c9, rfl, ho9, hx9, hb9⟩; have p9 : w3.cell? ⟨b, 0, none⟩ = some (.slice A l.length c) := hx9.cell 0; have f9 := hx9.free 0; have HO9 := Lib.hid ho9; have HX9 := Lib.hid hx9; have HB9 := Lib.hid hb9; clear ho9 hx9 hb9)
    all_goals
      go_wp2_with fail
      go_ret
      refine ⟨by rw [HQ.out]; rfl, fun _ => ⟨A9, c9, ?_, OwnE.other (o := 0) HO9.out HX9.out (by decide) (by decide) _⟩, HB9.out.setCell (p := ⟨b, 0, none⟩) hbb _⟩
      simpa [boxS] using HX9.out.set 0 (.slice A9 (l.length + 1) c9)
  · have HQ := Lib.hid hh
    go_wp2_with fail
    go_ret
    refine ⟨?_, ?_, HB2.out⟩
    · rw [HQ.out]; rfl
    · intro h
      rw [HQ.out] at h
      cases h
end Go.Proofs.Ytlpfpcnafejkoaa
namespace Go.Proofs.Ytlpfpcnafejkoaa
open Go.RowKit
attribute [local go_sem] run_store_fnE
theorem ins_keys {l : List En} {e : En} (h : ∀ x ∈ l, x.key.length ≤ 1048576) (he : e.key.length ≤ 1048576) : ∀ x ∈ insL l e, x.key.length ≤ 1048576 := fun x hx => by
  unfold insL at hx
  rcases insAt_mem.1 hx with rfl | hx
  · exact he
  · exact h x hx
theorem insL_len (l : List En) (e : En) : (insL l e).length = l.length + 1 := by
  unfold insL; exact insAt_len (bs_le l e)
set_option maxRecDepth 100000 in
set_option maxHeartbeats 2000000 in
theorem implIndexPut (A : Option Addr) (n c : Nat) (l : List En) (ok : Nat → Prop) (e : En) (B : Option Addr) (m d : Nat) (ok' : Nat → Prop) (w : World) (h : Sl EnR 2 ok w A n l) (hn : n ≤ 1048576) (hk : ∀ x ∈ l, x.key.length ≤ 1048576) (hE : Sl VlR 3 ok' w B m e.key) (hm : m ≤ 1048576) :
    Calls Try.prog 25 #[.slice A n c, .agg #[.slice B m d, .int .i64 e.id]] w fun r w' => ∃ v, r = .returned (.tuple #[v, .bool (puttedB l e)]) ∧ OwnE w' w.heap.size v (putted l e) ∧ Below w.heap.size w w' := by
  obtain rfl : l.length = n := h.1
  obtain rfl : e.key.length = m := hE.1
  have hb0 := (Below.refl w.heap.size w).alloc (Nat.le_refl _) (.cells #[.slice B e.key.length d, .int .i64 e.id] 42)
  have r0 := Row.new w 42 #[.slice B e.key.length d, .int .i64 e.id]
  have hs0 : (w.alloc (.cells #[.slice B e.key.length d, .int .i64 e.id] 42)).heap.size = w.heap.size + 1 := by simp
  go_enter Try.func25, Try.ntmps25
  go_wp2_with fail
  generalize w.alloc (.cells #[.slice B e.key.length d, .int .i64 e.id] 42) = z1 at *
  have HE1 := Lib.hid (implEntriesOk A l.length c l ok z1 (h.below EnR.stays hb0) hn hk)
  have HB0 := Lib.hid hb0
  have HK := Lib.hid hk
  refine HE1.out.mono ?_
  rintro r w1 ⟨rfl, hb1⟩
  have HB1 := Lib.hid (HB0.out.trans (hb1.mono HB0.out.size))
  have HR1 := Lib.hid (r0.below hb1)
  have h1 := h.below EnR.stays HB1.out
  have hE1 := hE.below VlR.stays HB1.out
  have HS1 := Lib.hid (show w.heap.size + 1 ≤ w1.heap.size by have := hb1.size; omega)
  clear HE1 hb0 hb1 r0 hs0 hk
  cases hb : entriesB l
  · have HF := Lib.hid (show puttedB l e = false by unfold puttedB; rw [hb]; rfl)
    have HD := Lib.hid (show putted l e = [] by unfold putted; rw [HF.out]; simp)
    clear hb
    go_wp2_with fail
    go_ret2
    exact ⟨_, by rw [HF.out]; rfl, by rw [HD.out]; exact OwnE.nil _ _, HB1.out⟩
  · have HEB := Lib.hid (put_eq (e := e) hb)
    have HL := Lib.hid (entriesB_in hb).1
    have HSC := Lib.hid (implSortedCopy A l.length c l ok w1 h1 (by omega) (fun x hx => by have := HK.out x hx; omega))
    clear hb
    go_wp2_with fail
    refine HSC.out.mono ?_
    rintro r w3 ⟨v3, rfl, hO3, hb3⟩
    obtain ⟨A3, c3, e3, -, -, -⟩ := hO3.sl
    subst e3
    obtain ⟨vs, hO3⟩ := hO3
    have HB3 := Lib.hid hb3
    have hal := (Below.refl w3.heap.size w3).alloc (Nat.le_refl _) (.cells (boxS A3 l.length c3) 67)
    have rbx := Row.new w3 67 (boxS A3 l.length c3)
    have HO3 := Lib.hid (OwnE0.below hO3 hal)
    have HAL := Lib.hid hal
    have HRB := Lib.hid rbx
    have HR3 := Lib.hid ((HR1.out.below hb3).below hal)
    have HE3 := Lib.hid ((hE1.below VlR.stays hb3).below VlR.stays hal)
    have hb3s := hb3.size
    clear hO3 hb3 hal rbx HSC h1 hE1
    have hrr := HR3.out
    obtain ⟨⟨q0, q1⟩, -⟩ := hrr.all2
    have HCE := Lib.hid (implCopyEntry e B e.key.length d ok' _ HE3.out (by omega))
    clear hrr
    unfold boxS at HO3 HAL HRB HR3 HE3 q0 q1 HCE
    go_wp2_with fail
    generalize w3.alloc (.cells #[.slice A3 l.length c3, .func (.func 53) #[] #[]] 67) = z3 at *
    refine HCE.out.mono ?_
    rintro r w4 ⟨v4, rfl, hk4, hb4⟩
    obtain ⟨B4, d4, rfl⟩ := hk4.shape
    have hz3 : w1.heap.size ≤ z3.heap.size := by have := HAL.out.size; omega
    have HB4 := Lib.hid hb4
    have hE4 : Sl VlR 3 (okF w1.heap.size w4) w4 B4 e.key.length e.key := by
      obtain ⟨A9, c9, e9, -, -, k9⟩ := OwnG.sl (f := Vl.cells) (sz := 3) (fun _ => rfl) (hk4.mono hz3)
      cases e9
      exact k9
    have HPM := Lib.hid (implPutM w3.heap.size w1.heap.size A3 c3 l e B4 e.key.length d4 vs w4 (HRB.out.below hb4) hb3s (OwnE0.below HO3.out hb4) hn HK.out (hk4.mono hz3) hm hE4 (HO3.out.fresh hk4 (Nat.le_refl _)) (bs_le l e))
    clear HCE hk4 hb4 hE4 q0 q1
    go_wp2_with fail
    refine HPM.out.mono ?_
    rintro r w5 ⟨rfl, hres, hb5⟩
    have HB5 := Lib.hid (show Below w.heap.size w w5 from HB1.out.trans ((((HB3.out.trans (HAL.out.mono hb3s)).trans (HB4.out.mono hz3)).trans hb5).mono HB1.out.size))
    have HRS := Lib.hid hres
    clear HPM hres hb5
    cases hh : bsHit l e
    · obtain ⟨A5, c5, hr5, ho5⟩ := HRS.out hh
      have HH := Lib.hid hh
      have p0 : w5.cell? ⟨w3.heap.size, 0, none⟩ = some (.slice A5 (l.length + 1) c5) := hr5.cell 0
      have HLN := Lib.hid (insL_len l e)
      have HKI := Lib.hid (ins_keys (e := e) HK.out hm)
      have HR5 := Lib.hid hr5
      have HO5 := Lib.hid ho5
      obtain ⟨A6, c6, e6, -, -, hsl⟩ := ho5.sl
      rw [HLN.out] at e6 hsl
      cases e6
      have HEO := Lib.hid (implEntriesOk A5 (l.length + 1) c5 (insL l e) _ w5 hsl (by have := HL.out; omega) HKI.out)
      clear hr5 ho5 hsl hh
      go_wp2_with fail
      refine HEO.out.mono ?_
      rintro r w6 ⟨rfl, hb6⟩
      have HB6 := Lib.hid (HB5.out.trans (hb6.mono HB5.out.size))
      have HR6 := Lib.hid (HR5.out.below hb6)
      have HO6 := Lib.hid ((HO5.out.below hb6).mono HB1.out.size)
      have p6 : w6.cell? ⟨w3.heap.size, 0, none⟩ = some (.slice A5 (l.length + 1) c5) := HR6.out.cell 0
      clear HEO hb6 p0
      cases hp : entriesB (insL l e)
      · have HF := Lib.hid (show puttedB l e = false by rw [HEB.out.1, hp]; simp)
        have HD := Lib.hid (show putted l e = [] by unfold putted; rw [HF.out]; simp)
        clear hp
        go_wp2_with fail
        go_ret2
        exact ⟨_, by rw [HF.out]; rfl, by rw [HD.out]; exact OwnE.nil _ _, HB6.out⟩
      · have HF := Lib.hid (show puttedB l e = true by rw [HEB.out.1, hp, HH.out]; rfl)
        have HD := Lib.hid (HEB.out.2 HF.out)
        clear hp
        go_wp2_with fail
        go_ret2
        exact ⟨_, by rw [HF.out]; rfl, by rw [HD.out]; exact HO6.out, HB6.out⟩
    · have HF := Lib.hid (show puttedB l e = false by rw [HEB.out.1, hh]; simp)
      have HD := Lib.hid (show putted l e = [] by unfold putted; rw [HF.out]; simp)
      clear hh
      go_wp2_with fail
      go_ret2
      exact ⟨_, by rw [HF.out]; rfl, by rw [HD.out]; exact OwnE.nil _ _, HB5.out⟩
end Go.Proofs.Ytlpfpcnafejkoaa
