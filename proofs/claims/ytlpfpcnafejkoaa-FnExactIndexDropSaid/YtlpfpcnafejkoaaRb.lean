/-
  Several texts in one: what the proof leans on, part 2.
-/
import Derived.Test.YtlpfpcnafejkoaaRa
import Derived.Deep.QuietTactic
import Derived.BigQuiet
import Derived.Deep.RegionLaw
import Derived.Shelf.RegionOpenPlain
import Derived.Lib.SliceRun
import Derived.Lib.SmallJoins
set_option linter.unusedVariables false
set_option linter.unusedSimpArgs false
namespace Go.Proofs.Ytlpfpcnafejkoaa
open Go.RowKit Go.Maps
def ordY (x y : Vl) : Int := ordV x.k x.n x.s y.k y.n y.s
def ltL : List Vl → List Vl → Option Bool
  | x :: a, y :: b => if ordY x y = 0 then ltL a b else some (decide (ordY x y < 0))
  | _, _ => none
def lessE (a b : En) : Bool := (ltL a.key b.key).getD (decide (a.id < b.id))
theorem ltL_at {a b : List Vl} {k : Nat} (h : k < a.length) (h' : k < b.length) : ltL (a.drop k) (b.drop k) = if ordY a[k] b[k] = 0 then ltL (a.drop (k + 1)) (b.drop (k + 1)) else some (decide (ordY a[k] b[k] < 0)) := by
  rw [List.drop_eq_getElem_cons h, List.drop_eq_getElem_cons h']; rfl
theorem ltL_endA {a b : List Vl} {k : Nat} (h : a.length ≤ k) : ltL (a.drop k) (b.drop k) = none := by
  rw [List.drop_of_length_le h]; rfl
theorem ltL_endB {a b : List Vl} {k : Nat} (h : b.length ≤ k) : ltL (a.drop k) (b.drop k) = none := by
  rw [List.drop_of_length_le h]; cases a.drop k <;> rfl
theorem ordX_right {x y : Vl} (h : x.ok = true) (h' : y.ok = true) : ordX x y = ordY x y := by
  unfold ordX ordY ordOk
  have e1 : valOkB x.k x.n x.s = true := h
  have e2 : valOkB y.k y.n y.s = true := h'
  rw [e1, e2]; rfl
theorem ltL_right : ∀ {a b : List Vl}, (∀ x ∈ a, x.ok = true) → (∀ x ∈ b, x.ok = true) → a.length = b.length → ltL a b = if ordL a b = 0 then none else some (decide (ordL a b < 0))
  | [], [], _, _, _ => rfl
  | [], _ :: _, _, _, h => by simp at h
  | _ :: _, [], _, _, h => by simp at h
  | x :: a, y :: b, h1, h2, h3 => by
    have e := ordX_right (h1 x (by simp)) (h2 y (by simp))
    unfold ltL ordL
    rw [e]
    by_cases h0 : ordY x y = 0
    · rw [if_pos h0, if_pos h0]
      exact ltL_right (fun z hz => h1 z (by simp [hz])) (fun z hz => h2 z (by simp [hz])) (by simpa using h3)
    · rw [if_neg h0, if_neg h0, if_neg h0]
theorem rowB_all {l : List Vl} (h : rowB l = true) : ∀ x ∈ l, x.ok = true := by
  unfold rowB at h
  simp only [Bool.and_eq_true, List.all_eq_true] at h
  exact h.2
theorem entryB_row {e : En} (h : entryB e = true) : rowB e.key = true := by
  unfold entryB at h
  simp only [Bool.and_eq_true] at h
  exact h.2.1
theorem lessE_right {a b : En} (h : entryB a = true) (h' : entryB b = true) (hl : a.key.length = b.key.length) : lessE a b = decide (ordE a b < 0) := by
  unfold lessE ordE
  rw [ltL_right (rowB_all (entryB_row h)) (rowB_all (entryB_row h')) hl]
  by_cases h0 : ordL a.key b.key = 0
  · rw [if_pos h0, if_pos h0]
    rcases cmpI_cases a.id b.id with ⟨e, e'⟩ | ⟨e, e'⟩ | ⟨e, e'⟩ <;> simp [e] <;> omega
  · rw [if_neg h0, if_neg h0]; rfl
set_option maxRecDepth 100000 in
set_option maxHeartbeats 4000000 in
theorem specL11Less (x y : En) (A B : Option Addr) (n c m d : Nat) (ok ok' : Nat → Prop) (w : World) (ha : Sl VlR 3 ok w A n x.key) (hb : Sl VlR 3 ok' w B m y.key) (hn : n ≤ 1048576) (hm : m ≤ 1048576) :
    Calls Try.prog 50 #[.agg #[.slice A n c, .int .i64 x.id], .agg #[.slice B m d, .int .i64 y.id]] w fun e w' => e = .returned (.bool (lessE x y)) ∧ Below w.heap.size w w' := by
  obtain rfl : x.key.length = n := ha.1
  obtain rfl : y.key.length = m := hb.1
  have hb0 := chain2 w (.cells #[.slice A x.key.length c, .int .i64 x.id] 42) (.cells #[.slice B y.key.length d, .int .i64 y.id] 42)
  have hr := two_rows w 42 #[.slice A x.key.length c, .int .i64 x.id] #[.slice B y.key.length d, .int .i64 y.id]
  obtain ⟨r1, r2⟩ := hr
  go_enter Try.func50, Try.ntmps50
  go_wp2_with fail
  generalize (w.alloc (.cells #[.slice A x.key.length c, .int .i64 x.id] 42)).alloc (.cells #[.slice B y.key.length d, .int .i64 y.id] 42) = z0 at *
  go_loopw [5] (fun i wr => ∃ k : Nat, i = .int .i64 k ∧ Hid (k ≤ x.key.length ∧ k ≤ y.key.length) ∧ Hid (ltL (x.key.drop k) (y.key.drop k) = ltL x.key y.key) ∧ Row wr w.heap.size 42 #[.slice A x.key.length c, .int .i64 x.id] ∧ Row wr (w.heap.size + 1) 42 #[.slice B y.key.length d, .int .i64 y.id] ∧ Below w.heap.size w wr) (fun i _ => x.key.length - (intOf i).toNat)
  case atStart => exact ⟨0, rfl, Lib.hid (by omega), Lib.hid (by simp), r1, r2, hb0⟩
  case round =>
    clear hb0 r1 r2
    obtain ⟨k, rfl, hkk, hord, r1, r2, hbw⟩ := hrel
    obtain ⟨⟨k0, k1⟩, -⟩ := r1.all2
    obtain ⟨⟨g0, g1⟩, -⟩ := r2.all2
    have R1 := Lib.hid r1
    have R2 := Lib.hid r2
    clear r1 r2
    by_cases hlt : k < x.key.length
    case neg =>
      have z : decide (k < x.key.length) = false := decide_eq_false hlt
      have HF := Lib.hid (show lessE x y = decide (x.id < y.id) by unfold lessE; rw [← hord.out, ltL_endA (by omega)]; rfl)
      clear hord hkk
      go_wp2_with fail
      go_ret
      exact ⟨retB HF.out.symm, hbw⟩
    have z : decide (k < x.key.length) = true := decide_eq_true hlt
    by_cases hl2 : k < y.key.length
    case neg =>
      have z' : decide (k < y.key.length) = false := decide_eq_false hl2
      have HF := Lib.hid (show lessE x y = decide (x.id < y.id) by unfold lessE; rw [← hord.out, ltL_endB (by omega)]; rfl)
      clear hord hkk
      go_wp2_with fail
      go_ret
      exact ⟨retB HF.out.symm, hbw⟩
    have z' : decide (k < y.key.length) = true := decide_eq_true hl2
    obtain ⟨b1, o1, -, rfl, q0, q1, q2⟩ := VlR.at_ (ha.below VlR.stays hbw) hlt
    obtain ⟨b2, o2, -, rfl, p0, p1, p2⟩ := VlR.at_ (hb.below VlR.stays hbw) hl2
    have i0 : (0 : Int) ≤ k := by omega
    have i1 : (k : Int) < x.key.length := by omega
    have i2 : (k : Int) < y.key.length := by omega
    have HO := Lib.hid (hord.out.symm.trans (ltL_at hlt hl2))
    have HK := Lib.hid (show k + 1 ≤ x.key.length ∧ k + 1 ≤ y.key.length by omega)
    have hx : x.key.length - (k + 1) < x.key.length - k := by omega
    clear hord hkk
    go_wp2_with fail
    go_region_held3 (fun w' => w'.cell? ⟨w.heap.size, 0, none⟩ = some (.slice (some ⟨b1, o1, none⟩) x.key.length c) ∧ w'.cell? ⟨w.heap.size + 1, 0, none⟩ = some (.slice (some ⟨b2, o2, none⟩) y.key.length d) ∧ w'.cell? ⟨b1, o1 + k * 3, none⟩ = some (.int .i64 x.key[k].k) ∧ w'.cell? ⟨b1, o1 + k * 3 + 1, none⟩ = some (.int .i64 x.key[k].n) ∧ w'.cell? ⟨b1, o1 + k * 3 + 2, none⟩ = some (.string x.key[k].s) ∧ w'.cell? ⟨b2, o2 + k * 3, none⟩ = some (.int .i64 y.key[k].k) ∧ w'.cell? ⟨b2, o2 + k * 3 + 1, none⟩ = some (.int .i64 y.key[k].n) ∧ w'.cell? ⟨b2, o2 + k * 3 + 2, none⟩ = some (.string y.key[k].s))
      (first | go_keep | exact ⟨k0, g0, q0, q1, q2, p0, p1, p2⟩ | exact keepC8 (by assumption) hq3)
      (first | (go_at_call 62; refine (specL1Order x.key[k].k x.key[k].n x.key[k].s y.key[k].k y.key[k].n y.key[k].s _).mono ?_; rintro e w3 ⟨rfl, hq3⟩))
    have hz := hbw.drew.trans (hq3.mono hbw.drew.size)
    have R13 := Lib.hid (R1.out.drew.below hq3)
    have R23 := Lib.hid (R2.out.drew.below hq3)
    by_cases h0 : ordY x.key[k] y.key[k] = 0
    · have HA := Lib.hid (show ltL (x.key.drop (k + 1)) (y.key.drop (k + 1)) = ltL x.key y.key by rw [HO.out, if_pos h0])
      have z0 : (ordV x.key[k].k x.key[k].n x.key[k].s y.key[k].k y.key[k].n y.key[k].s != 0) = false := by have h1 : ordV x.key[k].k x.key[k].n x.key[k].s y.key[k].k y.key[k].n y.key[k].s = 0 := h0; simpa using h1
      clear h0
      go_wp2_with fail
      go_roundw
      case rel => exact ⟨k + 1, by go_num, HK, HA, R13.out, R23.out, hz⟩
      case measure => simp [intOf]; omega
    · have HA := Lib.hid (show lessE x y = decide (ordV x.key[k].k x.key[k].n x.key[k].s y.key[k].k y.key[k].n y.key[k].s < 0) by unfold lessE; rw [HO.out, if_neg h0]; rfl)
      have z0 : (ordV x.key[k].k x.key[k].n x.key[k].s y.key[k].k y.key[k].n y.key[k].s != 0) = true := by have h1 : ¬ ordV x.key[k].k x.key[k].n x.key[k].s y.key[k].k y.key[k].n y.key[k].s = 0 := h0; simpa using h1
      clear h0
      go_wp2_with fail
      go_ret
      exact ⟨retB HA.out.symm, hz⟩
set_option maxRecDepth 100000 in
set_option maxHeartbeats 8000000 in
theorem specL11Right (A : Option Addr) (n c : Nat) (l : List En) (ok : Nat → Prop) (w : World) (h : Sl EnR 2 ok w A n l) (hn : n ≤ 1048576) (hk : ∀ e ∈ l, e.key.length ≤ 1048576) :
    Calls Try.prog 34 #[.slice A n c] w fun e w' => e = .returned (.bool (entriesB l)) ∧ Below w.heap.size w w' := by
  obtain rfl : l.length = n := h.1
  have HK := Lib.hid hk
  clear hk
  go_enter Try.func34, Try.ntmps34
  go_wp2_with fail
  go_loopw [3] (fun i wr => ∃ k : Nat, k ≤ l.length ∧ i = .int .i64 k ∧ Hid ((l.take k).all (entW (wideOf l)) = true) ∧ Hid ((List.range (k - 1)).all (upB l) = true) ∧ Below w.heap.size w wr) (fun i _ => l.length - (intOf i).toNat)
  case atStart => exact ⟨0, by omega, rfl, Lib.hid (by simp), Lib.hid (by simp), Below.refl _ _⟩
  case round =>
    obtain ⟨k, hk, rfl, hall, hup, hb⟩ := hrel
    by_cases hlt : k < l.length
    case neg =>
      obtain rfl : k = l.length := by omega
      have ha := hall.out
      rw [List.take_of_length_le (Nat.le_refl _)] at ha
      have HF := Lib.hid (show entriesB l = decide (l.length ≤ 120) by unfold entriesB; rw [ha, rises_yes hup.out (by omega)]; simp)
      clear hall ha hup
      go_wp2_with fail
      go_ret
      exact ⟨retB (by rw [HF.out, decide_eq_decide]; omega), hb⟩
    have hsl := h.below EnR.stays hb
    obtain ⟨b1, o1, A1, n1, c1, -, rfl, q0, q1, s1, -⟩ := EnR.at_ hsl (i := k) hlt
    obtain ⟨b2, o2, A2, n2, c2, -, e2, r0, r1, s2, -⟩ := EnR.at_ hsl (i := 0) (by omega)
    obtain ⟨rfl, rfl⟩ : b1 = b2 ∧ o1 = o2 := by simpa using e2
    obtain rfl : l[k].key.length = n1 := s1.1
    obtain rfl : l[0].key.length = n2 := s2.1
    rw [Nat.zero_mul, Nat.add_zero] at r0 r1
    have i0 : (0 : Int) ≤ k := by omega
    have i1 : (k : Int) < l.length := by omega
    have i2 : (0 : Int) < l.length := by omega
    have i3 : 0 < l.length := by omega
    have z : decide (k < l.length) = true := decide_eq_true hlt
    have HX := Lib.hid (specVals A1 l[k].key.length c1 l[k].key wr.drew (Sl.cellz (fun _ => rfl) (Sl.below VlR.stays s1 (Below.refl _ _).drew)) (by have := HK.out _ (List.getElem_mem hlt); unfold maxLen; omega))
    have HNO := Lib.hid (show entW (wideOf l) l[k] = false → entriesB l = false from fun hf => entriesB_no hlt hf)
    have HW := Lib.hid (wideOf_at i3)
    have HST := Lib.hid (all_take_succE (entW (wideOf l)) l k hlt)
    have D0 : wr.drew.cell? ⟨b1, o1 + k * 2, none⟩ = some (.slice A1 l[k].key.length c1) := q0
    have D1 : wr.drew.cell? ⟨b1, o1 + k * 2 + 1, none⟩ = some (.int .i64 l[k].id) := q1
    have D2 : wr.drew.cell? ⟨b1, o1, none⟩ = some (.slice A2 l[0].key.length c2) := r0
    have D := Lib.hid (And.intro D0 (And.intro D1 D2))
    have hbd := hb.drew
    clear e2 s2 r0 r1 q0 q1 D0 D1 D2
    have HS1 := Lib.hid s1
    have HSL := Lib.hid hsl
    clear s1 hsl
    cases hr : rowB l[k].key
    · have HR := Lib.hid hr
      have HF := Lib.hid (HNO.out (by unfold entW entryB; rw [hr]; simp))
      clear hr
      go_wp2_with fail
      refine wp_region_noPanic ?_
      refine wp_region_held_drew (S := fun w' => w'.cell? ⟨b1, o1 + k * 2, none⟩ = some (.slice A1 l[k].key.length c1) ∧ w'.cell? ⟨b1, o1 + k * 2 + 1, none⟩ = some (.int .i64 l[k].id) ∧ w'.cell? ⟨b1, o1, none⟩ = some (.slice A2 l[0].key.length c2)) (by kernel_rfl) D.out (fun hHeld => ?_)
      refine wpAnyH_take (i := 0) (v := ?v1) rfl (by kernel_rfl) (by kernel_rfl) (by kernel_rfl) (fun _ _ _ h => h) (Or.inl ⟨by rfl, ?hy1⟩) hHeld ?rest1
      case hy1 => (intro w' hSw; (try dsimp only at hSw); first | (go_simp; done) | (go_simp; with_reducible rfl))
      simp only [Act.put, pz0, pz1, pz2, pz3, pz4, pz5]
      refine wpAnyH_take (i := 1) (v := ?v2) rfl (by kernel_rfl) (by kernel_rfl) (by kernel_rfl) (fun _ _ _ h => h) (Or.inl ⟨by rfl, ?hy2⟩) hHeld ?rest2
      case hy2 => (intro w' hSw; (try dsimp only at hSw); first | (go_simp; done) | (go_simp; with_reducible rfl))
      simp only [Act.put, pz0, pz1, pz2, pz3, pz4, pz5]
      refine wpAnyH_take (i := 2) (v := ?v3) rfl (by kernel_rfl) (by kernel_rfl) (by kernel_rfl) (fun _ _ _ h => h) (Or.inl ⟨by rfl, ?hy3⟩) hHeld ?rest3
      case hy3 => (intro w' hSw; (try dsimp only at hSw); first | (go_simp; done) | (go_simp; with_reducible rfl))
      simp only [Act.put, pz0, pz1, pz2, pz3, pz4, pz5]
      refine wpAnyH_take (i := 3) (v := ?v4) rfl (by kernel_rfl) (by kernel_rfl) (by kernel_rfl) (fun _ _ _ h => h) (Or.inl ⟨by rfl, ?hy4⟩) hHeld ?rest4
      case hy4 => (intro w' hSw; (try dsimp only at hSw); first | (go_simp; done) | (go_simp; with_reducible rfl))
      simp only [Act.put, pz0, pz1, pz2, pz3, pz4, pz5]
      refine wpAnyH_take (i := 4) (v := ?v5) rfl (by kernel_rfl) (by kernel_rfl) (by kernel_rfl) (fun _ _ _ h => h) (Or.inl ⟨by rfl, ?hy5⟩) hHeld ?rest5
      case hy5 => (intro w' hSw; (try dsimp only at hSw); first | (go_simp; done) | (go_simp; with_reducible rfl))
      simp only [Act.put, pz0, pz1, pz2, pz3, pz4, pz5]
      refine wpAnyH_ready (rs := [5]) (by kernel_rfl) (by simp) ?_
      refine AllReadyH.cons rfl (fun K hK => ?_) AllReadyH.nil
      go_simp
      refine HX.out.mono ?_
      rintro e w9 ⟨rfl, hb9⟩
      rw [HR.out]
      go_wp2_with fail
      refine hK.out _ _ (keepC3 hHeld hb9) (fun hHeld => ?_)
      clear hK K
      (try simp only [Act.put, pz0, pz1, pz2, pz3, pz4, pz5])
      refine wpAnyH_take (i := 6) (v := ?v6) rfl (by kernel_rfl) (by kernel_rfl) (by kernel_rfl) (fun _ _ _ h => h) (Or.inl ⟨by rfl, ?hy6⟩) hHeld ?rest6
      case hy6 => (intro w' hSw; (try dsimp only at hSw); first | (go_simp; done) | (go_simp; with_reducible rfl))
      simp only [Act.put, pz0, pz1, pz2, pz3, pz4, pz5]
      refine wpAnyH_take (i := 7) (v := ?v7) rfl (by kernel_rfl) (by kernel_rfl) (by kernel_rfl) (fun _ _ _ h => h) (Or.inl ⟨by rfl, ?hy7⟩) hHeld ?rest7
      case hy7 => (intro w' hSw; (try dsimp only at hSw); first | (go_simp; done) | (go_simp; with_reducible rfl))
      simp only [Act.put, pz0, pz1, pz2, pz3, pz4, pz5]
      refine wpAnyH_take (i := 8) (v := undef) rfl (by kernel_rfl) (by kernel_rfl) (by kernel_rfl) (fun _ _ _ h => h) (Or.inr ⟨by rfl, rfl⟩) hHeld ?_
      simp only [Act.put, pz0, pz1, pz2, pz3, pz4, pz5]
      refine wpAnyH_take (i := 9) (v := undef) rfl (by kernel_rfl) (by kernel_rfl) (by kernel_rfl) (fun _ _ _ h => h) (Or.inr ⟨by rfl, rfl⟩) hHeld ?_
      simp only [Act.put, pz0, pz1, pz2, pz3, pz4, pz5]
      refine wpAnyH_take (i := 10) (v := undef) rfl (by kernel_rfl) (by kernel_rfl) (by kernel_rfl) (fun _ _ _ h => h) (Or.inr ⟨by rfl, rfl⟩) hHeld ?_
      simp only [Act.put, pz0, pz1, pz2, pz3, pz4, pz5]
      refine wpAnyH_take (i := 11) (v := undef) rfl (by kernel_rfl) (by kernel_rfl) (by kernel_rfl) (fun _ _ _ h => h) (Or.inr ⟨by rfl, rfl⟩) hHeld ?_
      simp only [Act.put, pz0, pz1, pz2, pz3, pz4, pz5]
      refine wpAnyH_take (i := 12) (v := undef) rfl (by kernel_rfl) (by kernel_rfl) (by kernel_rfl) (fun _ _ _ h => h) (Or.inr ⟨by rfl, rfl⟩) hHeld ?_
      simp only [Act.put, pz0, pz1, pz2, pz3, pz4, pz5]
      refine wpAnyH_take (i := 13) (v := undef) rfl (by kernel_rfl) (by kernel_rfl) (by kernel_rfl) (fun _ _ _ h => h) (Or.inr ⟨by rfl, rfl⟩) hHeld ?_
      simp only [Act.put, pz0, pz1, pz2, pz3, pz4, pz5]
      refine wpAnyH_take (i := 14) (v := undef) rfl (by kernel_rfl) (by kernel_rfl) (by kernel_rfl) (fun _ _ _ h => h) (Or.inr ⟨by rfl, rfl⟩) hHeld ?_
      simp only [Act.put, pz0, pz1, pz2, pz3, pz4, pz5]
      refine wpAnyH_take (i := 15) (v := ?v8) rfl (by kernel_rfl) (by kernel_rfl) (by kernel_rfl) (fun _ _ _ h => h) (Or.inl ⟨by rfl, ?hy8⟩) hHeld ?rest8
      case hy8 => (intro w' hSw; (try dsimp only at hSw); first | (go_simp; done) | (go_simp; with_reducible rfl))
      simp only [Act.put, pz0, pz1, pz2, pz3, pz4, pz5]
      refine wpAnyH_take (i := 16) (v := ?v9) rfl (by kernel_rfl) (by kernel_rfl) (by kernel_rfl) (fun _ _ _ h => h) (Or.inl ⟨by rfl, ?hy9⟩) hHeld ?rest9
      case hy9 => (intro w' hSw; (try dsimp only at hSw); first | (go_simp; done) | (go_simp; with_reducible rfl))
      simp only [Act.put, pz0, pz1, pz2, pz3, pz4, pz5]
      refine wpAnyH_take (i := 17) (v := undef) rfl (by kernel_rfl) (by kernel_rfl) (by kernel_rfl) (fun _ _ _ h => h) (Or.inr ⟨by rfl, rfl⟩) hHeld ?_
      simp only [Act.put, pz0, pz1, pz2, pz3, pz4, pz5]
      refine wpAnyH_take (i := 18) (v := undef) rfl (by kernel_rfl) (by kernel_rfl) (by kernel_rfl) (fun _ _ _ h => h) (Or.inr ⟨by rfl, rfl⟩) hHeld ?_
      simp only [Act.put, pz0, pz1, pz2, pz3, pz4, pz5]
      refine wpAnyH_take (i := 19) (v := undef) rfl (by kernel_rfl) (by kernel_rfl) (by kernel_rfl) (fun _ _ _ h => h) (Or.inr ⟨by rfl, rfl⟩) hHeld ?_
      simp only [Act.put, pz0, pz1, pz2, pz3, pz4, pz5]
      refine wpAnyH_take (i := 20) (v := undef) rfl (by kernel_rfl) (by kernel_rfl) (by kernel_rfl) (fun _ _ _ h => h) (Or.inr ⟨by rfl, rfl⟩) hHeld ?_
      simp only [Act.put, pz0, pz1, pz2, pz3, pz4, pz5]
      refine wpAnyH_take (i := 21) (v := undef) rfl (by kernel_rfl) (by kernel_rfl) (by kernel_rfl) (fun _ _ _ h => h) (Or.inr ⟨by rfl, rfl⟩) hHeld ?_
      simp only [Act.put, pz0, pz1, pz2, pz3, pz4, pz5]
      refine wpAnyH_take (i := 22) (v := undef) rfl (by kernel_rfl) (by kernel_rfl) (by kernel_rfl) (fun _ _ _ h => h) (Or.inr ⟨by rfl, rfl⟩) hHeld ?_
      simp only [Act.put, pz0, pz1, pz2, pz3, pz4, pz5]
      refine wpAnyH_take (i := 23) (v := undef) rfl (by kernel_rfl) (by kernel_rfl) (by kernel_rfl) (fun _ _ _ h => h) (Or.inr ⟨by rfl, rfl⟩) hHeld ?_
      simp only [Act.put, pz0, pz1, pz2, pz3, pz4, pz5]
      refine wpAnyH_take (i := 24) (v := undef) rfl (by kernel_rfl) (by kernel_rfl) (by kernel_rfl) (fun _ _ _ h => h) (Or.inr ⟨by rfl, rfl⟩) hHeld ?_
      simp only [Act.put, pz0, pz1, pz2, pz3, pz4, pz5]
      refine wpAnyH_take (i := 25) (v := undef) rfl (by kernel_rfl) (by kernel_rfl) (by kernel_rfl) (fun _ _ _ h => h) (Or.inr ⟨by rfl, rfl⟩) hHeld ?_
      simp only [Act.put, pz0, pz1, pz2, pz3, pz4, pz5]
      refine wpAnyH_take (i := 26) (v := undef) rfl (by kernel_rfl) (by kernel_rfl) (by kernel_rfl) (fun _ _ _ h => h) (Or.inr ⟨by rfl, rfl⟩) hHeld ?_
      simp only [Act.put, pz0, pz1, pz2, pz3, pz4, pz5]
      refine wpAnyH_take (i := 27) (v := undef) rfl (by kernel_rfl) (by kernel_rfl) (by kernel_rfl) (fun _ _ _ h => h) (Or.inr ⟨by rfl, rfl⟩) hHeld ?_
      simp only [Act.put, pz0, pz1, pz2, pz3, pz4, pz5]
      refine wpAnyH_take (i := 28) (v := undef) rfl (by kernel_rfl) (by kernel_rfl) (by kernel_rfl) (fun _ _ _ h => h) (Or.inr ⟨by rfl, rfl⟩) hHeld ?_
      simp only [Act.put, pz0, pz1, pz2, pz3, pz4, pz5]
      refine wpAnyH_take (i := 29) (v := ?v10) rfl (by kernel_rfl) (by kernel_rfl) (by kernel_rfl) (fun _ _ _ h => h) (Or.inl ⟨by rfl, ?hy10⟩) hHeld ?rest10
      case hy10 => (intro w' hSw; (try dsimp only at hSw); first | (go_simp; done) | (go_simp; with_reducible rfl))
      simp only [Act.put, pz0, pz1, pz2, pz3, pz4, pz5]
      refine wpAnyH_take (i := 30) (v := ?v11) rfl (by kernel_rfl) (by kernel_rfl) (by kernel_rfl) (fun _ _ _ h => h) (Or.inl ⟨by rfl, ?hy11⟩) hHeld ?rest11
      case hy11 => (intro w' hSw; (try dsimp only at hSw); first | (go_simp; done) | (go_simp; with_reducible rfl))
      simp only [Act.put, pz0, pz1, pz2, pz3, pz4, pz5]
      refine wpAnyH_take (i := 31) (v := undef) rfl (by kernel_rfl) (by kernel_rfl) (by kernel_rfl) (fun _ _ _ h => h) (Or.inr ⟨by rfl, rfl⟩) hHeld ?_
      simp only [Act.put, pz0, pz1, pz2, pz3, pz4, pz5]
      refine wpAnyH_take (i := 32) (v := undef) rfl (by kernel_rfl) (by kernel_rfl) (by kernel_rfl) (fun _ _ _ h => h) (Or.inr ⟨by rfl, rfl⟩) hHeld ?_
      simp only [Act.put, pz0, pz1, pz2, pz3, pz4, pz5]
      refine wpAnyH_take (i := 33) (v := undef) rfl (by kernel_rfl) (by kernel_rfl) (by kernel_rfl) (fun _ _ _ h => h) (Or.inr ⟨by rfl, rfl⟩) hHeld ?_
      simp only [Act.put, pz0, pz1, pz2, pz3, pz4, pz5]
      refine wpAnyH_take (i := 34) (v := undef) rfl (by kernel_rfl) (by kernel_rfl) (by kernel_rfl) (fun _ _ _ h => h) (Or.inr ⟨by rfl, rfl⟩) hHeld ?_
      simp only [Act.put, pz0, pz1, pz2, pz3, pz4, pz5]
      refine wpAnyH_take (i := 35) (v := undef) rfl (by kernel_rfl) (by kernel_rfl) (by kernel_rfl) (fun _ _ _ h => h) (Or.inr ⟨by rfl, rfl⟩) hHeld ?_
      simp only [Act.put, pz0, pz1, pz2, pz3, pz4, pz5]
      refine wpAnyH_take (i := 36) (v := undef) rfl (by kernel_rfl) (by kernel_rfl) (by kernel_rfl) (fun _ _ _ h => h) (Or.inr ⟨by rfl, rfl⟩) hHeld ?_
      simp only [Act.put, pz0, pz1, pz2, pz3, pz4, pz5]
      refine wpAnyH_take (i := 37) (v := undef) rfl (by kernel_rfl) (by kernel_rfl) (by kernel_rfl) (fun _ _ _ h => h) (Or.inr ⟨by rfl, rfl⟩) hHeld ?_
      simp only [Act.put, pz0, pz1, pz2, pz3, pz4, pz5]
      refine wpAnyH_take (i := 38) (v := ?v12) rfl (by kernel_rfl) (by kernel_rfl) (by kernel_rfl) (fun _ _ _ h => h) (Or.inl ⟨by rfl, ?hy12⟩) hHeld ?rest12
      case hy12 => (intro w' hSw; (try dsimp only at hSw); first | (go_simp; done) | (go_simp; with_reducible rfl))
      simp only [Act.put, pz0, pz1, pz2, pz3, pz4, pz5]
      refine wpAnyH_take (i := 39) (v := ?v13) rfl (by kernel_rfl) (by kernel_rfl) (by kernel_rfl) (fun _ _ _ h => h) (Or.inl ⟨by rfl, ?hy13⟩) hHeld ?rest13
      case hy13 => (intro w' hSw; (try dsimp only at hSw); first | (go_simp; done) | (go_simp; with_reducible rfl))
      simp only [Act.put, pz0, pz1, pz2, pz3, pz4, pz5]
      refine wpAnyH_take (i := 40) (v := undef) rfl (by kernel_rfl) (by kernel_rfl) (by kernel_rfl) (fun _ _ _ h => h) (Or.inr ⟨by rfl, rfl⟩) hHeld ?_
      simp only [Act.put, pz0, pz1, pz2, pz3, pz4, pz5]
      refine wpAnyH_take (i := 41) (v := undef) rfl (by kernel_rfl) (by kernel_rfl) (by kernel_rfl) (fun _ _ _ h => h) (Or.inr ⟨by rfl, rfl⟩) hHeld ?_
      simp only [Act.put, pz0, pz1, pz2, pz3, pz4, pz5]
      refine wpAnyH_take (i := 42) (v := undef) rfl (by kernel_rfl) (by kernel_rfl) (by kernel_rfl) (fun _ _ _ h => h) (Or.inr ⟨by rfl, rfl⟩) hHeld ?_
      simp only [Act.put, pz0, pz1, pz2, pz3, pz4, pz5]
      refine wpAnyH_take (i := 43) (v := undef) rfl (by kernel_rfl) (by kernel_rfl) (by kernel_rfl) (fun _ _ _ h => h) (Or.inr ⟨by rfl, rfl⟩) hHeld ?_
      simp only [Act.put, pz0, pz1, pz2, pz3, pz4, pz5]
      refine wpAnyH_take (i := 44) (v := undef) rfl (by kernel_rfl) (by kernel_rfl) (by kernel_rfl) (fun _ _ _ h => h) (Or.inr ⟨by rfl, rfl⟩) hHeld ?_
      simp only [Act.put, pz0, pz1, pz2, pz3, pz4, pz5]
      refine wpAnyH_take (i := 45) (v := undef) rfl (by kernel_rfl) (by kernel_rfl) (by kernel_rfl) (fun _ _ _ h => h) (Or.inr ⟨by rfl, rfl⟩) hHeld ?_
      simp only [Act.put, pz0, pz1, pz2, pz3, pz4, pz5]
      refine wpAnyH_take (i := 46) (v := undef) rfl (by kernel_rfl) (by kernel_rfl) (by kernel_rfl) (fun _ _ _ h => h) (Or.inr ⟨by rfl, rfl⟩) hHeld ?_
      simp only [Act.put, pz0, pz1, pz2, pz3, pz4, pz5]
      refine wpAnyH_take (i := 47) (v := undef) rfl (by kernel_rfl) (by kernel_rfl) (by kernel_rfl) (fun _ _ _ h => h) (Or.inr ⟨by rfl, rfl⟩) hHeld ?_
      simp only [Act.put, pz0, pz1, pz2, pz3, pz4, pz5]
      refine wpAnyH_take (i := 48) (v := undef) rfl (by kernel_rfl) (by kernel_rfl) (by kernel_rfl) (fun _ _ _ h => h) (Or.inr ⟨by rfl, rfl⟩) hHeld ?_
      simp only [Act.put, pz0, pz1, pz2, pz3, pz4, pz5]
      refine wpAnyH_take (i := 49) (v := undef) rfl (by kernel_rfl) (by kernel_rfl) (by kernel_rfl) (fun _ _ _ h => h) (Or.inr ⟨by rfl, rfl⟩) hHeld ?_
      simp only [Act.put, pz0, pz1, pz2, pz3, pz4, pz5]
      refine wpAnyH_take (i := 50) (v := undef) rfl (by kernel_rfl) (by kernel_rfl) (by kernel_rfl) (fun _ _ _ h => h) (Or.inr ⟨by rfl, rfl⟩) hHeld ?_
      simp only [Act.put, pz0, pz1, pz2, pz3, pz4, pz5]
      refine wpAnyH_take (i := 51) (v := undef) rfl (by kernel_rfl) (by kernel_rfl) (by kernel_rfl) (fun _ _ _ h => h) (Or.inr ⟨by rfl, rfl⟩) hHeld ?_
      simp only [Act.put, pz0, pz1, pz2, pz3, pz4, pz5]
      refine wpAnyH_take (i := 52) (v := undef) rfl (by kernel_rfl) (by kernel_rfl) (by kernel_rfl) (fun _ _ _ h => h) (Or.inr ⟨by rfl, rfl⟩) hHeld ?_
      simp only [Act.put, pz0, pz1, pz2, pz3, pz4, pz5]
      refine wpAnyH_take (i := 53) (v := undef) rfl (by kernel_rfl) (by kernel_rfl) (by kernel_rfl) (fun _ _ _ h => h) (Or.inr ⟨by rfl, rfl⟩) hHeld ?_
      simp only [Act.put, pz0, pz1, pz2, pz3, pz4, pz5]
      refine wpAnyH_take (i := 54) (v := undef) rfl (by kernel_rfl) (by kernel_rfl) (by kernel_rfl) (fun _ _ _ h => h) (Or.inr ⟨by rfl, rfl⟩) hHeld ?_
      simp only [Act.put, pz0, pz1, pz2, pz3, pz4, pz5]
      refine wpAnyH_take (i := 55) (v := ?v14) rfl (by kernel_rfl) (by kernel_rfl) (by kernel_rfl) (fun _ _ _ h => h) (Or.inl ⟨by rfl, ?hy14⟩) hHeld ?rest14
      case hy14 => (intro w' hSw; (try dsimp only at hSw); first | (go_simp; done) | (go_simp; with_reducible rfl))
      simp only [Act.put, pz0, pz1, pz2, pz3, pz4, pz5]
      refine wpAnyH_done (by kernel_rfl) ?_ _
      refine NoPanic.normal ?_
      clear hHeld
      go_wp2_with fail
      go_ret
      exact ⟨retB HF.out.symm, hbd.trans (hb9.mono hbd.size)⟩
    have HR := Lib.hid hr
    by_cases hl0 : l[k].key.length = 0
    · have z0 : ((l[k].key.length : Int) == 0) = true := by rw [hl0]; rfl
      have HF := Lib.hid (HNO.out (by unfold entW entryB; rw [decide_eq_false (show ¬ 1 ≤ l[k].key.length by omega)]; rfl))
      clear hr hl0
      go_wp2_with fail
      refine wp_region_noPanic ?_
      refine wp_region_held_drew (S := fun w' => w'.cell? ⟨b1, o1 + k * 2, none⟩ = some (.slice A1 l[k].key.length c1) ∧ w'.cell? ⟨b1, o1 + k * 2 + 1, none⟩ = some (.int .i64 l[k].id) ∧ w'.cell? ⟨b1, o1, none⟩ = some (.slice A2 l[0].key.length c2)) (by kernel_rfl) D.out (fun hHeld => ?_)
      refine wpAnyH_take (i := 0) (v := ?v15) rfl (by kernel_rfl) (by kernel_rfl) (by kernel_rfl) (fun _ _ _ h => h) (Or.inl ⟨by rfl, ?hy15⟩) hHeld ?rest15
      case hy15 => (intro w' hSw; (try dsimp only at hSw); first | (go_simp; done) | (go_simp; with_reducible rfl))
      simp only [Act.put, pz0, pz1, pz2, pz3, pz4, pz5]
      refine wpAnyH_take (i := 1) (v := ?v16) rfl (by kernel_rfl) (by kernel_rfl) (by kernel_rfl) (fun _ _ _ h => h) (Or.inl ⟨by rfl, ?hy16⟩) hHeld ?rest16
      case hy16 => (intro w' hSw; (try dsimp only at hSw); first | (go_simp; done) | (go_simp; with_reducible rfl))
      simp only [Act.put, pz0, pz1, pz2, pz3, pz4, pz5]
      refine wpAnyH_take (i := 2) (v := ?v17) rfl (by kernel_rfl) (by kernel_rfl) (by kernel_rfl) (fun _ _ _ h => h) (Or.inl ⟨by rfl, ?hy17⟩) hHeld ?rest17
      case hy17 => (intro w' hSw; (try dsimp only at hSw); first | (go_simp; done) | (go_simp; with_reducible rfl))
      simp only [Act.put, pz0, pz1, pz2, pz3, pz4, pz5]
      refine wpAnyH_take (i := 3) (v := ?v18) rfl (by kernel_rfl) (by kernel_rfl) (by kernel_rfl) (fun _ _ _ h => h) (Or.inl ⟨by rfl, ?hy18⟩) hHeld ?rest18
      case hy18 => (intro w' hSw; (try dsimp only at hSw); first | (go_simp; done) | (go_simp; with_reducible rfl))
      simp only [Act.put, pz0, pz1, pz2, pz3, pz4, pz5]
      refine wpAnyH_take (i := 4) (v := ?v19) rfl (by kernel_rfl) (by kernel_rfl) (by kernel_rfl) (fun _ _ _ h => h) (Or.inl ⟨by rfl, ?hy19⟩) hHeld ?rest19
      case hy19 => (intro w' hSw; (try dsimp only at hSw); first | (go_simp; done) | (go_simp; with_reducible rfl))
      simp only [Act.put, pz0, pz1, pz2, pz3, pz4, pz5]
      refine wpAnyH_ready (rs := [5]) (by kernel_rfl) (by simp) ?_
      refine AllReadyH.cons rfl (fun K hK => ?_) AllReadyH.nil
      go_simp
      refine HX.out.mono ?_
      rintro e w9 ⟨rfl, hb9⟩
      rw [HR.out]
      go_wp2_with fail
      refine hK.out _ _ (keepC3 hHeld hb9) (fun hHeld => ?_)
      clear hK K
      (try simp only [Act.put, pz0, pz1, pz2, pz3, pz4, pz5])
      refine wpAnyH_take (i := 6) (v := ?v20) rfl (by kernel_rfl) (by kernel_rfl) (by kernel_rfl) (fun _ _ _ h => h) (Or.inl ⟨by rfl, ?hy20⟩) hHeld ?rest20
      case hy20 => (intro w' hSw; (try dsimp only at hSw); first | (go_simp; done) | (go_simp; with_reducible rfl))
      simp only [Act.put, pz0, pz1, pz2, pz3, pz4, pz5]
      refine wpAnyH_take (i := 7) (v := ?v21) rfl (by kernel_rfl) (by kernel_rfl) (by kernel_rfl) (fun _ _ _ h => h) (Or.inl ⟨by rfl, ?hy21⟩) hHeld ?rest21
      case hy21 => (intro w' hSw; (try dsimp only at hSw); first | (go_simp; done) | (go_simp; with_reducible rfl))
      simp only [Act.put, pz0, pz1, pz2, pz3, pz4, pz5]
      refine wpAnyH_take (i := 8) (v := ?v22) rfl (by kernel_rfl) (by kernel_rfl) (by kernel_rfl) (fun _ _ _ h => h) (Or.inl ⟨by rfl, ?hy22⟩) hHeld ?rest22
      case hy22 => (intro w' hSw; (try dsimp only at hSw); first | (go_simp; done) | (go_simp; with_reducible rfl))
      simp only [Act.put, pz0, pz1, pz2, pz3, pz4, pz5]
      refine wpAnyH_take (i := 9) (v := ?v23) rfl (by kernel_rfl) (by kernel_rfl) (by kernel_rfl) (fun _ _ _ h => h) (Or.inl ⟨by rfl, ?hy23⟩) hHeld ?rest23
      case hy23 => (intro w' hSw; (try dsimp only at hSw); first | (go_simp; done) | (go_simp; with_reducible rfl))
      simp only [Act.put, pz0, pz1, pz2, pz3, pz4, pz5]
      refine wpAnyH_take (i := 10) (v := ?v24) rfl (by kernel_rfl) (by kernel_rfl) (by kernel_rfl) (fun _ _ _ h => h) (Or.inl ⟨by rfl, ?hy24⟩) hHeld ?rest24
      case hy24 => (intro w' hSw; (try dsimp only at hSw); first | (go_simp; done) | (go_simp; with_reducible rfl))
      simp only [Act.put, pz0, pz1, pz2, pz3, pz4, pz5]
      refine wpAnyH_take (i := 11) (v := ?v25) rfl (by kernel_rfl) (by kernel_rfl) (by kernel_rfl) (fun _ _ _ h => h) (Or.inl ⟨by rfl, ?hy25⟩) hHeld ?rest25
      case hy25 => (intro w' hSw; (try dsimp only at hSw); first | (go_simp; done) | (go_simp; with_reducible rfl))
      simp only [Act.put, pz0, pz1, pz2, pz3, pz4, pz5]
      refine wpAnyH_take (i := 12) (v := ?v26) rfl (by kernel_rfl) (by kernel_rfl) (by kernel_rfl) (fun _ _ _ h => h) (Or.inl ⟨by rfl, ?hy26⟩) hHeld ?rest26
      case hy26 => (intro w' hSw; (try dsimp only at hSw); first | (go_simp; done) | (go_simp; with_reducible rfl))
      simp only [Act.put, pz0, pz1, pz2, pz3, pz4, pz5]
      refine wpAnyH_take (i := 13) (v := ?v27) rfl (by kernel_rfl) (by kernel_rfl) (by kernel_rfl) (fun _ _ _ h => h) (Or.inl ⟨by rfl, ?hy27⟩) hHeld ?rest27
      case hy27 => (intro w' hSw; (try dsimp only at hSw); first | (go_simp; done) | (go_simp; with_reducible rfl))
      simp only [Act.put, pz0, pz1, pz2, pz3, pz4, pz5]
      refine wpAnyH_take (i := 14) (v := ?v28) rfl (by kernel_rfl) (by kernel_rfl) (by kernel_rfl) (fun _ _ _ h => h) (Or.inl ⟨by rfl, ?hy28⟩) hHeld ?rest28
      case hy28 => (intro w' hSw; (try dsimp only at hSw); first | (go_simp; done) | (go_simp; with_reducible rfl))
      simp only [Act.put, pz0, pz1, pz2, pz3, pz4, pz5]
      refine wpAnyH_take (i := 15) (v := ?v29) rfl (by kernel_rfl) (by kernel_rfl) (by kernel_rfl) (fun _ _ _ h => h) (Or.inl ⟨by rfl, ?hy29⟩) hHeld ?rest29
      case hy29 => (intro w' hSw; (try dsimp only at hSw); first | (go_simp; done) | (go_simp; with_reducible rfl))
      simp only [Act.put, pz0, pz1, pz2, pz3, pz4, pz5]
      refine wpAnyH_take (i := 16) (v := ?v30) rfl (by kernel_rfl) (by kernel_rfl) (by kernel_rfl) (fun _ _ _ h => h) (Or.inl ⟨by rfl, ?hy30⟩) hHeld ?rest30
      case hy30 => (intro w' hSw; (try dsimp only at hSw); first | (go_simp; done) | (go_simp; with_reducible rfl))
      simp only [Act.put, pz0, pz1, pz2, pz3, pz4, pz5]
      refine wpAnyH_take (i := 17) (v := undef) rfl (by kernel_rfl) (by kernel_rfl) (by kernel_rfl) (fun _ _ _ h => h) (Or.inr ⟨by rfl, rfl⟩) hHeld ?_
      simp only [Act.put, pz0, pz1, pz2, pz3, pz4, pz5]
      refine wpAnyH_take (i := 18) (v := undef) rfl (by kernel_rfl) (by kernel_rfl) (by kernel_rfl) (fun _ _ _ h => h) (Or.inr ⟨by rfl, rfl⟩) hHeld ?_
      simp only [Act.put, pz0, pz1, pz2, pz3, pz4, pz5]
      refine wpAnyH_take (i := 19) (v := undef) rfl (by kernel_rfl) (by kernel_rfl) (by kernel_rfl) (fun _ _ _ h => h) (Or.inr ⟨by rfl, rfl⟩) hHeld ?_
      simp only [Act.put, pz0, pz1, pz2, pz3, pz4, pz5]
      refine wpAnyH_take (i := 20) (v := undef) rfl (by kernel_rfl) (by kernel_rfl) (by kernel_rfl) (fun _ _ _ h => h) (Or.inr ⟨by rfl, rfl⟩) hHeld ?_
      simp only [Act.put, pz0, pz1, pz2, pz3, pz4, pz5]
      refine wpAnyH_take (i := 21) (v := undef) rfl (by kernel_rfl) (by kernel_rfl) (by kernel_rfl) (fun _ _ _ h => h) (Or.inr ⟨by rfl, rfl⟩) hHeld ?_
      simp only [Act.put, pz0, pz1, pz2, pz3, pz4, pz5]
      refine wpAnyH_take (i := 22) (v := undef) rfl (by kernel_rfl) (by kernel_rfl) (by kernel_rfl) (fun _ _ _ h => h) (Or.inr ⟨by rfl, rfl⟩) hHeld ?_
      simp only [Act.put, pz0, pz1, pz2, pz3, pz4, pz5]
      refine wpAnyH_take (i := 23) (v := undef) rfl (by kernel_rfl) (by kernel_rfl) (by kernel_rfl) (fun _ _ _ h => h) (Or.inr ⟨by rfl, rfl⟩) hHeld ?_
      simp only [Act.put, pz0, pz1, pz2, pz3, pz4, pz5]
      refine wpAnyH_take (i := 24) (v := undef) rfl (by kernel_rfl) (by kernel_rfl) (by kernel_rfl) (fun _ _ _ h => h) (Or.inr ⟨by rfl, rfl⟩) hHeld ?_
      simp only [Act.put, pz0, pz1, pz2, pz3, pz4, pz5]
      refine wpAnyH_take (i := 25) (v := undef) rfl (by kernel_rfl) (by kernel_rfl) (by kernel_rfl) (fun _ _ _ h => h) (Or.inr ⟨by rfl, rfl⟩) hHeld ?_
      simp only [Act.put, pz0, pz1, pz2, pz3, pz4, pz5]
      refine wpAnyH_take (i := 26) (v := undef) rfl (by kernel_rfl) (by kernel_rfl) (by kernel_rfl) (fun _ _ _ h => h) (Or.inr ⟨by rfl, rfl⟩) hHeld ?_
      simp only [Act.put, pz0, pz1, pz2, pz3, pz4, pz5]
      refine wpAnyH_take (i := 27) (v := undef) rfl (by kernel_rfl) (by kernel_rfl) (by kernel_rfl) (fun _ _ _ h => h) (Or.inr ⟨by rfl, rfl⟩) hHeld ?_
      simp only [Act.put, pz0, pz1, pz2, pz3, pz4, pz5]
      refine wpAnyH_take (i := 28) (v := undef) rfl (by kernel_rfl) (by kernel_rfl) (by kernel_rfl) (fun _ _ _ h => h) (Or.inr ⟨by rfl, rfl⟩) hHeld ?_
      simp only [Act.put, pz0, pz1, pz2, pz3, pz4, pz5]
      refine wpAnyH_take (i := 29) (v := ?v31) rfl (by kernel_rfl) (by kernel_rfl) (by kernel_rfl) (fun _ _ _ h => h) (Or.inl ⟨by rfl, ?hy31⟩) hHeld ?rest31
      case hy31 => (intro w' hSw; (try dsimp only at hSw); first | (go_simp; done) | (go_simp; with_reducible rfl))
      simp only [Act.put, pz0, pz1, pz2, pz3, pz4, pz5]
      refine wpAnyH_take (i := 30) (v := ?v32) rfl (by kernel_rfl) (by kernel_rfl) (by kernel_rfl) (fun _ _ _ h => h) (Or.inl ⟨by rfl, ?hy32⟩) hHeld ?rest32
      case hy32 => (intro w' hSw; (try dsimp only at hSw); first | (go_simp; done) | (go_simp; with_reducible rfl))
      simp only [Act.put, pz0, pz1, pz2, pz3, pz4, pz5]
      refine wpAnyH_take (i := 31) (v := undef) rfl (by kernel_rfl) (by kernel_rfl) (by kernel_rfl) (fun _ _ _ h => h) (Or.inr ⟨by rfl, rfl⟩) hHeld ?_
      simp only [Act.put, pz0, pz1, pz2, pz3, pz4, pz5]
      refine wpAnyH_take (i := 32) (v := undef) rfl (by kernel_rfl) (by kernel_rfl) (by kernel_rfl) (fun _ _ _ h => h) (Or.inr ⟨by rfl, rfl⟩) hHeld ?_
      simp only [Act.put, pz0, pz1, pz2, pz3, pz4, pz5]
      refine wpAnyH_take (i := 33) (v := undef) rfl (by kernel_rfl) (by kernel_rfl) (by kernel_rfl) (fun _ _ _ h => h) (Or.inr ⟨by rfl, rfl⟩) hHeld ?_
      simp only [Act.put, pz0, pz1, pz2, pz3, pz4, pz5]
      refine wpAnyH_take (i := 34) (v := undef) rfl (by kernel_rfl) (by kernel_rfl) (by kernel_rfl) (fun _ _ _ h => h) (Or.inr ⟨by rfl, rfl⟩) hHeld ?_
      simp only [Act.put, pz0, pz1, pz2, pz3, pz4, pz5]
      refine wpAnyH_take (i := 35) (v := undef) rfl (by kernel_rfl) (by kernel_rfl) (by kernel_rfl) (fun _ _ _ h => h) (Or.inr ⟨by rfl, rfl⟩) hHeld ?_
      simp only [Act.put, pz0, pz1, pz2, pz3, pz4, pz5]
      refine wpAnyH_take (i := 36) (v := undef) rfl (by kernel_rfl) (by kernel_rfl) (by kernel_rfl) (fun _ _ _ h => h) (Or.inr ⟨by rfl, rfl⟩) hHeld ?_
      simp only [Act.put, pz0, pz1, pz2, pz3, pz4, pz5]
      refine wpAnyH_take (i := 37) (v := undef) rfl (by kernel_rfl) (by kernel_rfl) (by kernel_rfl) (fun _ _ _ h => h) (Or.inr ⟨by rfl, rfl⟩) hHeld ?_
      simp only [Act.put, pz0, pz1, pz2, pz3, pz4, pz5]
      refine wpAnyH_take (i := 38) (v := ?v33) rfl (by kernel_rfl) (by kernel_rfl) (by kernel_rfl) (fun _ _ _ h => h) (Or.inl ⟨by rfl, ?hy33⟩) hHeld ?rest33
      case hy33 => (intro w' hSw; (try dsimp only at hSw); first | (go_simp; done) | (go_simp; with_reducible rfl))
      simp only [Act.put, pz0, pz1, pz2, pz3, pz4, pz5]
      refine wpAnyH_take (i := 39) (v := ?v34) rfl (by kernel_rfl) (by kernel_rfl) (by kernel_rfl) (fun _ _ _ h => h) (Or.inl ⟨by rfl, ?hy34⟩) hHeld ?rest34
      case hy34 => (intro w' hSw; (try dsimp only at hSw); first | (go_simp; done) | (go_simp; with_reducible rfl))
      simp only [Act.put, pz0, pz1, pz2, pz3, pz4, pz5]
      refine wpAnyH_take (i := 40) (v := undef) rfl (by kernel_rfl) (by kernel_rfl) (by kernel_rfl) (fun _ _ _ h => h) (Or.inr ⟨by rfl, rfl⟩) hHeld ?_
      simp only [Act.put, pz0, pz1, pz2, pz3, pz4, pz5]
      refine wpAnyH_take (i := 41) (v := undef) rfl (by kernel_rfl) (by kernel_rfl) (by kernel_rfl) (fun _ _ _ h => h) (Or.inr ⟨by rfl, rfl⟩) hHeld ?_
      simp only [Act.put, pz0, pz1, pz2, pz3, pz4, pz5]
      refine wpAnyH_take (i := 42) (v := undef) rfl (by kernel_rfl) (by kernel_rfl) (by kernel_rfl) (fun _ _ _ h => h) (Or.inr ⟨by rfl, rfl⟩) hHeld ?_
      simp only [Act.put, pz0, pz1, pz2, pz3, pz4, pz5]
      refine wpAnyH_take (i := 43) (v := undef) rfl (by kernel_rfl) (by kernel_rfl) (by kernel_rfl) (fun _ _ _ h => h) (Or.inr ⟨by rfl, rfl⟩) hHeld ?_
      simp only [Act.put, pz0, pz1, pz2, pz3, pz4, pz5]
      refine wpAnyH_take (i := 44) (v := undef) rfl (by kernel_rfl) (by kernel_rfl) (by kernel_rfl) (fun _ _ _ h => h) (Or.inr ⟨by rfl, rfl⟩) hHeld ?_
      simp only [Act.put, pz0, pz1, pz2, pz3, pz4, pz5]
      refine wpAnyH_take (i := 45) (v := undef) rfl (by kernel_rfl) (by kernel_rfl) (by kernel_rfl) (fun _ _ _ h => h) (Or.inr ⟨by rfl, rfl⟩) hHeld ?_
      simp only [Act.put, pz0, pz1, pz2, pz3, pz4, pz5]
      refine wpAnyH_take (i := 46) (v := undef) rfl (by kernel_rfl) (by kernel_rfl) (by kernel_rfl) (fun _ _ _ h => h) (Or.inr ⟨by rfl, rfl⟩) hHeld ?_
      simp only [Act.put, pz0, pz1, pz2, pz3, pz4, pz5]
      refine wpAnyH_take (i := 47) (v := undef) rfl (by kernel_rfl) (by kernel_rfl) (by kernel_rfl) (fun _ _ _ h => h) (Or.inr ⟨by rfl, rfl⟩) hHeld ?_
      simp only [Act.put, pz0, pz1, pz2, pz3, pz4, pz5]
      refine wpAnyH_take (i := 48) (v := undef) rfl (by kernel_rfl) (by kernel_rfl) (by kernel_rfl) (fun _ _ _ h => h) (Or.inr ⟨by rfl, rfl⟩) hHeld ?_
      simp only [Act.put, pz0, pz1, pz2, pz3, pz4, pz5]
      refine wpAnyH_take (i := 49) (v := undef) rfl (by kernel_rfl) (by kernel_rfl) (by kernel_rfl) (fun _ _ _ h => h) (Or.inr ⟨by rfl, rfl⟩) hHeld ?_
      simp only [Act.put, pz0, pz1, pz2, pz3, pz4, pz5]
      refine wpAnyH_take (i := 50) (v := undef) rfl (by kernel_rfl) (by kernel_rfl) (by kernel_rfl) (fun _ _ _ h => h) (Or.inr ⟨by rfl, rfl⟩) hHeld ?_
      simp only [Act.put, pz0, pz1, pz2, pz3, pz4, pz5]
      refine wpAnyH_take (i := 51) (v := undef) rfl (by kernel_rfl) (by kernel_rfl) (by kernel_rfl) (fun _ _ _ h => h) (Or.inr ⟨by rfl, rfl⟩) hHeld ?_
      simp only [Act.put, pz0, pz1, pz2, pz3, pz4, pz5]
      refine wpAnyH_take (i := 52) (v := undef) rfl (by kernel_rfl) (by kernel_rfl) (by kernel_rfl) (fun _ _ _ h => h) (Or.inr ⟨by rfl, rfl⟩) hHeld ?_
      simp only [Act.put, pz0, pz1, pz2, pz3, pz4, pz5]
      refine wpAnyH_take (i := 53) (v := undef) rfl (by kernel_rfl) (by kernel_rfl) (by kernel_rfl) (fun _ _ _ h => h) (Or.inr ⟨by rfl, rfl⟩) hHeld ?_
      simp only [Act.put, pz0, pz1, pz2, pz3, pz4, pz5]
      refine wpAnyH_take (i := 54) (v := undef) rfl (by kernel_rfl) (by kernel_rfl) (by kernel_rfl) (fun _ _ _ h => h) (Or.inr ⟨by rfl, rfl⟩) hHeld ?_
      simp only [Act.put, pz0, pz1, pz2, pz3, pz4, pz5]
      refine wpAnyH_take (i := 55) (v := ?v35) rfl (by kernel_rfl) (by kernel_rfl) (by kernel_rfl) (fun _ _ _ h => h) (Or.inl ⟨by rfl, ?hy35⟩) hHeld ?rest35
      case hy35 => (intro w' hSw; (try dsimp only at hSw); first | (go_simp; done) | (go_simp; with_reducible rfl))
      simp only [Act.put, pz0, pz1, pz2, pz3, pz4, pz5]
      refine wpAnyH_done (by kernel_rfl) ?_ _
      refine NoPanic.normal ?_
      clear hHeld
      go_wp2_with fail
      go_ret
      exact ⟨retB HF.out.symm, hbd.trans (hb9.mono hbd.size)⟩
    have z0 : ((l[k].key.length : Int) == 0) = false := by rw [beq_eq_false_iff_ne]; omega
    by_cases hl : l[k].key.length = l[0].key.length
    case neg =>
      have zl : ((l[k].key.length : Int) != l[0].key.length) = true := by simp; omega
      have zl' : ((l[k].key.length : Int) == l[0].key.length) = false := by rw [beq_eq_false_iff_ne]; omega
      have HF := Lib.hid (HNO.out (by unfold entW; rw [HW.out, decide_eq_false hl, Bool.and_false]))
      clear hr hl hl0
      go_wp2_with fail
      refine wp_region_noPanic ?_
      refine wp_region_held_drew (S := fun w' => w'.cell? ⟨b1, o1 + k * 2, none⟩ = some (.slice A1 l[k].key.length c1) ∧ w'.cell? ⟨b1, o1 + k * 2 + 1, none⟩ = some (.int .i64 l[k].id) ∧ w'.cell? ⟨b1, o1, none⟩ = some (.slice A2 l[0].key.length c2)) (by kernel_rfl) D.out (fun hHeld => ?_)
      refine wpAnyH_take (i := 0) (v := ?v36) rfl (by kernel_rfl) (by kernel_rfl) (by kernel_rfl) (fun _ _ _ h => h) (Or.inl ⟨by rfl, ?hy36⟩) hHeld ?rest36
      case hy36 => (intro w' hSw; (try dsimp only at hSw); first | (go_simp; done) | (go_simp; with_reducible rfl))
      simp only [Act.put, pz0, pz1, pz2, pz3, pz4, pz5]
      refine wpAnyH_take (i := 1) (v := ?v37) rfl (by kernel_rfl) (by kernel_rfl) (by kernel_rfl) (fun _ _ _ h => h) (Or.inl ⟨by rfl, ?hy37⟩) hHeld ?rest37
      case hy37 => (intro w' hSw; (try dsimp only at hSw); first | (go_simp; done) | (go_simp; with_reducible rfl))
      simp only [Act.put, pz0, pz1, pz2, pz3, pz4, pz5]
      refine wpAnyH_take (i := 2) (v := ?v38) rfl (by kernel_rfl) (by kernel_rfl) (by kernel_rfl) (fun _ _ _ h => h) (Or.inl ⟨by rfl, ?hy38⟩) hHeld ?rest38
      case hy38 => (intro w' hSw; (try dsimp only at hSw); first | (go_simp; done) | (go_simp; with_reducible rfl))
      simp only [Act.put, pz0, pz1, pz2, pz3, pz4, pz5]
      refine wpAnyH_take (i := 3) (v := ?v39) rfl (by kernel_rfl) (by kernel_rfl) (by kernel_rfl) (fun _ _ _ h => h) (Or.inl ⟨by rfl, ?hy39⟩) hHeld ?rest39
      case hy39 => (intro w' hSw; (try dsimp only at hSw); first | (go_simp; done) | (go_simp; with_reducible rfl))
      simp only [Act.put, pz0, pz1, pz2, pz3, pz4, pz5]
      refine wpAnyH_take (i := 4) (v := ?v40) rfl (by kernel_rfl) (by kernel_rfl) (by kernel_rfl) (fun _ _ _ h => h) (Or.inl ⟨by rfl, ?hy40⟩) hHeld ?rest40
      case hy40 => (intro w' hSw; (try dsimp only at hSw); first | (go_simp; done) | (go_simp; with_reducible rfl))
      simp only [Act.put, pz0, pz1, pz2, pz3, pz4, pz5]
      refine wpAnyH_ready (rs := [5]) (by kernel_rfl) (by simp) ?_
      refine AllReadyH.cons rfl (fun K hK => ?_) AllReadyH.nil
      go_simp
      refine HX.out.mono ?_
      rintro e w9 ⟨rfl, hb9⟩
      rw [HR.out]
      go_wp2_with fail
      refine hK.out _ _ (keepC3 hHeld hb9) (fun hHeld => ?_)
      clear hK K
      (try simp only [Act.put, pz0, pz1, pz2, pz3, pz4, pz5])
      refine wpAnyH_take (i := 6) (v := ?v41) rfl (by kernel_rfl) (by kernel_rfl) (by kernel_rfl) (fun _ _ _ h => h) (Or.inl ⟨by rfl, ?hy41⟩) hHeld ?rest41
      case hy41 => (intro w' hSw; (try dsimp only at hSw); first | (go_simp; done) | (go_simp; with_reducible rfl))
      simp only [Act.put, pz0, pz1, pz2, pz3, pz4, pz5]
      refine wpAnyH_take (i := 7) (v := ?v42) rfl (by kernel_rfl) (by kernel_rfl) (by kernel_rfl) (fun _ _ _ h => h) (Or.inl ⟨by rfl, ?hy42⟩) hHeld ?rest42
      case hy42 => (intro w' hSw; (try dsimp only at hSw); first | (go_simp; done) | (go_simp; with_reducible rfl))
      simp only [Act.put, pz0, pz1, pz2, pz3, pz4, pz5]
      refine wpAnyH_take (i := 8) (v := ?v43) rfl (by kernel_rfl) (by kernel_rfl) (by kernel_rfl) (fun _ _ _ h => h) (Or.inl ⟨by rfl, ?hy43⟩) hHeld ?rest43
      case hy43 => (intro w' hSw; (try dsimp only at hSw); first | (go_simp; done) | (go_simp; with_reducible rfl))
      simp only [Act.put, pz0, pz1, pz2, pz3, pz4, pz5]
      refine wpAnyH_take (i := 9) (v := ?v44) rfl (by kernel_rfl) (by kernel_rfl) (by kernel_rfl) (fun _ _ _ h => h) (Or.inl ⟨by rfl, ?hy44⟩) hHeld ?rest44
      case hy44 => (intro w' hSw; (try dsimp only at hSw); first | (go_simp; done) | (go_simp; with_reducible rfl))
      simp only [Act.put, pz0, pz1, pz2, pz3, pz4, pz5]
      refine wpAnyH_take (i := 10) (v := ?v45) rfl (by kernel_rfl) (by kernel_rfl) (by kernel_rfl) (fun _ _ _ h => h) (Or.inl ⟨by rfl, ?hy45⟩) hHeld ?rest45
      case hy45 => (intro w' hSw; (try dsimp only at hSw); first | (go_simp; done) | (go_simp; with_reducible rfl))
      simp only [Act.put, pz0, pz1, pz2, pz3, pz4, pz5]
      refine wpAnyH_take (i := 11) (v := ?v46) rfl (by kernel_rfl) (by kernel_rfl) (by kernel_rfl) (fun _ _ _ h => h) (Or.inl ⟨by rfl, ?hy46⟩) hHeld ?rest46
      case hy46 => (intro w' hSw; (try dsimp only at hSw); first | (go_simp; done) | (go_simp; with_reducible rfl))
      simp only [Act.put, pz0, pz1, pz2, pz3, pz4, pz5]
      refine wpAnyH_take (i := 12) (v := ?v47) rfl (by kernel_rfl) (by kernel_rfl) (by kernel_rfl) (fun _ _ _ h => h) (Or.inl ⟨by rfl, ?hy47⟩) hHeld ?rest47
      case hy47 => (intro w' hSw; (try dsimp only at hSw); first | (go_simp; done) | (go_simp; with_reducible rfl))
      simp only [Act.put, pz0, pz1, pz2, pz3, pz4, pz5]
      refine wpAnyH_take (i := 13) (v := ?v48) rfl (by kernel_rfl) (by kernel_rfl) (by kernel_rfl) (fun _ _ _ h => h) (Or.inl ⟨by rfl, ?hy48⟩) hHeld ?rest48
      case hy48 => (intro w' hSw; (try dsimp only at hSw); first | (go_simp; done) | (go_simp; with_reducible rfl))
      simp only [Act.put, pz0, pz1, pz2, pz3, pz4, pz5]
      refine wpAnyH_take (i := 14) (v := ?v49) rfl (by kernel_rfl) (by kernel_rfl) (by kernel_rfl) (fun _ _ _ h => h) (Or.inl ⟨by rfl, ?hy49⟩) hHeld ?rest49
      case hy49 => (intro w' hSw; (try dsimp only at hSw); first | (go_simp; done) | (go_simp; with_reducible rfl))
      simp only [Act.put, pz0, pz1, pz2, pz3, pz4, pz5]
      refine wpAnyH_take (i := 15) (v := ?v50) rfl (by kernel_rfl) (by kernel_rfl) (by kernel_rfl) (fun _ _ _ h => h) (Or.inl ⟨by rfl, ?hy50⟩) hHeld ?rest50
      case hy50 => (intro w' hSw; (try dsimp only at hSw); first | (go_simp; done) | (go_simp; with_reducible rfl))
      simp only [Act.put, pz0, pz1, pz2, pz3, pz4, pz5]
      refine wpAnyH_take (i := 16) (v := ?v51) rfl (by kernel_rfl) (by kernel_rfl) (by kernel_rfl) (fun _ _ _ h => h) (Or.inl ⟨by rfl, ?hy51⟩) hHeld ?rest51
      case hy51 => (intro w' hSw; (try dsimp only at hSw); first | (go_simp; done) | (go_simp; with_reducible rfl))
      simp only [Act.put, pz0, pz1, pz2, pz3, pz4, pz5]
      refine wpAnyH_take (i := 17) (v := ?v52) rfl (by kernel_rfl) (by kernel_rfl) (by kernel_rfl) (fun _ _ _ h => h) (Or.inl ⟨by rfl, ?hy52⟩) hHeld ?rest52
      case hy52 => (intro w' hSw; (try dsimp only at hSw); first | (go_simp; done) | (go_simp; with_reducible rfl))
      simp only [Act.put, pz0, pz1, pz2, pz3, pz4, pz5]
      refine wpAnyH_take (i := 18) (v := ?v53) rfl (by kernel_rfl) (by kernel_rfl) (by kernel_rfl) (fun _ _ _ h => h) (Or.inl ⟨by rfl, ?hy53⟩) hHeld ?rest53
      case hy53 => (intro w' hSw; (try dsimp only at hSw); first | (go_simp; done) | (go_simp; with_reducible rfl))
      simp only [Act.put, pz0, pz1, pz2, pz3, pz4, pz5]
      refine wpAnyH_take (i := 19) (v := ?v54) rfl (by kernel_rfl) (by kernel_rfl) (by kernel_rfl) (fun _ _ _ h => h) (Or.inl ⟨by rfl, ?hy54⟩) hHeld ?rest54
      case hy54 => (intro w' hSw; (try dsimp only at hSw); first | (go_simp; done) | (go_simp; with_reducible rfl))
      simp only [Act.put, pz0, pz1, pz2, pz3, pz4, pz5]
      refine wpAnyH_take (i := 20) (v := ?v55) rfl (by kernel_rfl) (by kernel_rfl) (by kernel_rfl) (fun _ _ _ h => h) (Or.inl ⟨by rfl, ?hy55⟩) hHeld ?rest55
      case hy55 => (intro w' hSw; (try dsimp only at hSw); first | (go_simp; done) | (go_simp; with_reducible rfl))
      simp only [Act.put, pz0, pz1, pz2, pz3, pz4, pz5]
      refine wpAnyH_take (i := 21) (v := ?v56) rfl (by kernel_rfl) (by kernel_rfl) (by kernel_rfl) (fun _ _ _ h => h) (Or.inl ⟨by rfl, ?hy56⟩) hHeld ?rest56
      case hy56 => (intro w' hSw; (try dsimp only at hSw); first | (go_simp; done) | (go_simp; with_reducible rfl))
      simp only [Act.put, pz0, pz1, pz2, pz3, pz4, pz5]
      refine wpAnyH_take (i := 22) (v := ?v57) rfl (by kernel_rfl) (by kernel_rfl) (by kernel_rfl) (fun _ _ _ h => h) (Or.inl ⟨by rfl, ?hy57⟩) hHeld ?rest57
      case hy57 => (intro w' hSw; (try dsimp only at hSw); first | (go_simp; done) | (go_simp; with_reducible rfl))
      simp only [Act.put, pz0, pz1, pz2, pz3, pz4, pz5]
      refine wpAnyH_take (i := 23) (v := ?v58) rfl (by kernel_rfl) (by kernel_rfl) (by kernel_rfl) (fun _ _ _ h => h) (Or.inl ⟨by rfl, ?hy58⟩) hHeld ?rest58
      case hy58 => (intro w' hSw; (try dsimp only at hSw); first | (go_simp; done) | (go_simp; with_reducible rfl))
      simp only [Act.put, pz0, pz1, pz2, pz3, pz4, pz5]
      refine wpAnyH_take (i := 24) (v := ?v59) rfl (by kernel_rfl) (by kernel_rfl) (by kernel_rfl) (fun _ _ _ h => h) (Or.inl ⟨by rfl, ?hy59⟩) hHeld ?rest59
      case hy59 => (intro w' hSw; (try dsimp only at hSw); first | (go_simp; done) | (go_simp; with_reducible rfl))
      simp only [Act.put, pz0, pz1, pz2, pz3, pz4, pz5]
      refine wpAnyH_take (i := 25) (v := ?v60) rfl (by kernel_rfl) (by kernel_rfl) (by kernel_rfl) (fun _ _ _ h => h) (Or.inl ⟨by rfl, ?hy60⟩) hHeld ?rest60
      case hy60 => (intro w' hSw; (try dsimp only at hSw); first | (go_simp; done) | (go_simp; with_reducible rfl))
      simp only [Act.put, pz0, pz1, pz2, pz3, pz4, pz5]
      refine wpAnyH_take (i := 26) (v := ?v61) rfl (by kernel_rfl) (by kernel_rfl) (by kernel_rfl) (fun _ _ _ h => h) (Or.inl ⟨by rfl, ?hy61⟩) hHeld ?rest61
      case hy61 => (intro w' hSw; (try dsimp only at hSw); first | (go_simp; done) | (go_simp; with_reducible rfl))
      simp only [Act.put, pz0, pz1, pz2, pz3, pz4, pz5]
      refine wpAnyH_take (i := 27) (v := ?v62) rfl (by kernel_rfl) (by kernel_rfl) (by kernel_rfl) (fun _ _ _ h => h) (Or.inl ⟨by rfl, ?hy62⟩) hHeld ?rest62
      case hy62 => (intro w' hSw; (try dsimp only at hSw); first | (go_simp; done) | (go_simp; with_reducible rfl))
      simp only [Act.put, pz0, pz1, pz2, pz3, pz4, pz5]
      refine wpAnyH_take (i := 28) (v := ?v63) rfl (by kernel_rfl) (by kernel_rfl) (by kernel_rfl) (fun _ _ _ h => h) (Or.inl ⟨by rfl, ?hy63⟩) hHeld ?rest63
      case hy63 => (intro w' hSw; (try dsimp only at hSw); first | (go_simp; done) | (go_simp; with_reducible rfl))
      simp only [Act.put, pz0, pz1, pz2, pz3, pz4, pz5]
      refine wpAnyH_take (i := 29) (v := ?v64) rfl (by kernel_rfl) (by kernel_rfl) (by kernel_rfl) (fun _ _ _ h => h) (Or.inl ⟨by rfl, ?hy64⟩) hHeld ?rest64
      case hy64 => (intro w' hSw; (try dsimp only at hSw); first | (go_simp; done) | (go_simp; with_reducible rfl))
      simp only [Act.put, pz0, pz1, pz2, pz3, pz4, pz5]
      refine wpAnyH_take (i := 30) (v := ?v65) rfl (by kernel_rfl) (by kernel_rfl) (by kernel_rfl) (fun _ _ _ h => h) (Or.inl ⟨by rfl, ?hy65⟩) hHeld ?rest65
      case hy65 => (intro w' hSw; (try dsimp only at hSw); first | (go_simp; done) | (go_simp; with_reducible rfl))
      simp only [Act.put, pz0, pz1, pz2, pz3, pz4, pz5]
      refine wpAnyH_take (i := 31) (v := undef) rfl (by kernel_rfl) (by kernel_rfl) (by kernel_rfl) (fun _ _ _ h => h) (Or.inr ⟨by rfl, rfl⟩) hHeld ?_
      simp only [Act.put, pz0, pz1, pz2, pz3, pz4, pz5]
      refine wpAnyH_take (i := 32) (v := undef) rfl (by kernel_rfl) (by kernel_rfl) (by kernel_rfl) (fun _ _ _ h => h) (Or.inr ⟨by rfl, rfl⟩) hHeld ?_
      simp only [Act.put, pz0, pz1, pz2, pz3, pz4, pz5]
      refine wpAnyH_take (i := 33) (v := undef) rfl (by kernel_rfl) (by kernel_rfl) (by kernel_rfl) (fun _ _ _ h => h) (Or.inr ⟨by rfl, rfl⟩) hHeld ?_
      simp only [Act.put, pz0, pz1, pz2, pz3, pz4, pz5]
      refine wpAnyH_take (i := 34) (v := undef) rfl (by kernel_rfl) (by kernel_rfl) (by kernel_rfl) (fun _ _ _ h => h) (Or.inr ⟨by rfl, rfl⟩) hHeld ?_
      simp only [Act.put, pz0, pz1, pz2, pz3, pz4, pz5]
      refine wpAnyH_take (i := 35) (v := undef) rfl (by kernel_rfl) (by kernel_rfl) (by kernel_rfl) (fun _ _ _ h => h) (Or.inr ⟨by rfl, rfl⟩) hHeld ?_
      simp only [Act.put, pz0, pz1, pz2, pz3, pz4, pz5]
      refine wpAnyH_take (i := 36) (v := undef) rfl (by kernel_rfl) (by kernel_rfl) (by kernel_rfl) (fun _ _ _ h => h) (Or.inr ⟨by rfl, rfl⟩) hHeld ?_
      simp only [Act.put, pz0, pz1, pz2, pz3, pz4, pz5]
      refine wpAnyH_take (i := 37) (v := undef) rfl (by kernel_rfl) (by kernel_rfl) (by kernel_rfl) (fun _ _ _ h => h) (Or.inr ⟨by rfl, rfl⟩) hHeld ?_
      simp only [Act.put, pz0, pz1, pz2, pz3, pz4, pz5]
      refine wpAnyH_take (i := 38) (v := ?v66) rfl (by kernel_rfl) (by kernel_rfl) (by kernel_rfl) (fun _ _ _ h => h) (Or.inl ⟨by rfl, ?hy66⟩) hHeld ?rest66
      case hy66 => (intro w' hSw; (try dsimp only at hSw); first | (go_simp; done) | (go_simp; with_reducible rfl))
      simp only [Act.put, pz0, pz1, pz2, pz3, pz4, pz5]
      refine wpAnyH_take (i := 39) (v := ?v67) rfl (by kernel_rfl) (by kernel_rfl) (by kernel_rfl) (fun _ _ _ h => h) (Or.inl ⟨by rfl, ?hy67⟩) hHeld ?rest67
      case hy67 => (intro w' hSw; (try dsimp only at hSw); first | (go_simp; done) | (go_simp; with_reducible rfl))
      simp only [Act.put, pz0, pz1, pz2, pz3, pz4, pz5]
      refine wpAnyH_take (i := 40) (v := undef) rfl (by kernel_rfl) (by kernel_rfl) (by kernel_rfl) (fun _ _ _ h => h) (Or.inr ⟨by rfl, rfl⟩) hHeld ?_
      simp only [Act.put, pz0, pz1, pz2, pz3, pz4, pz5]
      refine wpAnyH_take (i := 41) (v := undef) rfl (by kernel_rfl) (by kernel_rfl) (by kernel_rfl) (fun _ _ _ h => h) (Or.inr ⟨by rfl, rfl⟩) hHeld ?_
      simp only [Act.put, pz0, pz1, pz2, pz3, pz4, pz5]
      refine wpAnyH_take (i := 42) (v := undef) rfl (by kernel_rfl) (by kernel_rfl) (by kernel_rfl) (fun _ _ _ h => h) (Or.inr ⟨by rfl, rfl⟩) hHeld ?_
      simp only [Act.put, pz0, pz1, pz2, pz3, pz4, pz5]
      refine wpAnyH_take (i := 43) (v := undef) rfl (by kernel_rfl) (by kernel_rfl) (by kernel_rfl) (fun _ _ _ h => h) (Or.inr ⟨by rfl, rfl⟩) hHeld ?_
      simp only [Act.put, pz0, pz1, pz2, pz3, pz4, pz5]
      refine wpAnyH_take (i := 44) (v := undef) rfl (by kernel_rfl) (by kernel_rfl) (by kernel_rfl) (fun _ _ _ h => h) (Or.inr ⟨by rfl, rfl⟩) hHeld ?_
      simp only [Act.put, pz0, pz1, pz2, pz3, pz4, pz5]
      refine wpAnyH_take (i := 45) (v := undef) rfl (by kernel_rfl) (by kernel_rfl) (by kernel_rfl) (fun _ _ _ h => h) (Or.inr ⟨by rfl, rfl⟩) hHeld ?_
      simp only [Act.put, pz0, pz1, pz2, pz3, pz4, pz5]
      refine wpAnyH_take (i := 46) (v := undef) rfl (by kernel_rfl) (by kernel_rfl) (by kernel_rfl) (fun _ _ _ h => h) (Or.inr ⟨by rfl, rfl⟩) hHeld ?_
      simp only [Act.put, pz0, pz1, pz2, pz3, pz4, pz5]
      refine wpAnyH_take (i := 47) (v := undef) rfl (by kernel_rfl) (by kernel_rfl) (by kernel_rfl) (fun _ _ _ h => h) (Or.inr ⟨by rfl, rfl⟩) hHeld ?_
      simp only [Act.put, pz0, pz1, pz2, pz3, pz4, pz5]
      refine wpAnyH_take (i := 48) (v := undef) rfl (by kernel_rfl) (by kernel_rfl) (by kernel_rfl) (fun _ _ _ h => h) (Or.inr ⟨by rfl, rfl⟩) hHeld ?_
      simp only [Act.put, pz0, pz1, pz2, pz3, pz4, pz5]
      refine wpAnyH_take (i := 49) (v := undef) rfl (by kernel_rfl) (by kernel_rfl) (by kernel_rfl) (fun _ _ _ h => h) (Or.inr ⟨by rfl, rfl⟩) hHeld ?_
      simp only [Act.put, pz0, pz1, pz2, pz3, pz4, pz5]
      refine wpAnyH_take (i := 50) (v := undef) rfl (by kernel_rfl) (by kernel_rfl) (by kernel_rfl) (fun _ _ _ h => h) (Or.inr ⟨by rfl, rfl⟩) hHeld ?_
      simp only [Act.put, pz0, pz1, pz2, pz3, pz4, pz5]
      refine wpAnyH_take (i := 51) (v := undef) rfl (by kernel_rfl) (by kernel_rfl) (by kernel_rfl) (fun _ _ _ h => h) (Or.inr ⟨by rfl, rfl⟩) hHeld ?_
      simp only [Act.put, pz0, pz1, pz2, pz3, pz4, pz5]
      refine wpAnyH_take (i := 52) (v := undef) rfl (by kernel_rfl) (by kernel_rfl) (by kernel_rfl) (fun _ _ _ h => h) (Or.inr ⟨by rfl, rfl⟩) hHeld ?_
      simp only [Act.put, pz0, pz1, pz2, pz3, pz4, pz5]
      refine wpAnyH_take (i := 53) (v := undef) rfl (by kernel_rfl) (by kernel_rfl) (by kernel_rfl) (fun _ _ _ h => h) (Or.inr ⟨by rfl, rfl⟩) hHeld ?_
      simp only [Act.put, pz0, pz1, pz2, pz3, pz4, pz5]
      refine wpAnyH_take (i := 54) (v := undef) rfl (by kernel_rfl) (by kernel_rfl) (by kernel_rfl) (fun _ _ _ h => h) (Or.inr ⟨by rfl, rfl⟩) hHeld ?_
      simp only [Act.put, pz0, pz1, pz2, pz3, pz4, pz5]
      refine wpAnyH_take (i := 55) (v := ?v68) rfl (by kernel_rfl) (by kernel_rfl) (by kernel_rfl) (fun _ _ _ h => h) (Or.inl ⟨by rfl, ?hy68⟩) hHeld ?rest68
      case hy68 => (intro w' hSw; (try dsimp only at hSw); first | (go_simp; done) | (go_simp; with_reducible rfl))
      simp only [Act.put, pz0, pz1, pz2, pz3, pz4, pz5]
      refine wpAnyH_done (by kernel_rfl) ?_ _
      refine NoPanic.normal ?_
      clear hHeld
      go_wp2_with fail
      go_ret
      exact ⟨retB HF.out.symm, hbd.trans (hb9.mono hbd.size)⟩
    have zl : ((l[k].key.length : Int) != l[0].key.length) = false := by rw [hl]; simp
    have zl' : ((l[k].key.length : Int) == l[0].key.length) = true := by rw [hl]; simp
    have HEQ := Lib.hid (show entW (wideOf l) l[k] = (decide (1 ≤ l[k].id) && decide (l[k].id ≤ 1000000000)) by unfold entW entryB; rw [hr, decide_eq_true (show 1 ≤ l[k].key.length by omega), HW.out, decide_eq_true hl]; simp)
    have HL := Lib.hid hl
    clear hr hl hl0
    cases hi : (decide (1 ≤ l[k].id) && decide (l[k].id ≤ 1000000000))
    · have HI := Lib.hid hi
      have HF := Lib.hid (HNO.out (by rw [HEQ.out, hi]))
      clear hi
      go_wp2_with fail
      refine wp_region_noPanic ?_
      refine wp_region_held_drew (S := fun w' => w'.cell? ⟨b1, o1 + k * 2, none⟩ = some (.slice A1 l[k].key.length c1) ∧ w'.cell? ⟨b1, o1 + k * 2 + 1, none⟩ = some (.int .i64 l[k].id) ∧ w'.cell? ⟨b1, o1, none⟩ = some (.slice A2 l[0].key.length c2)) (by kernel_rfl) D.out (fun hHeld => ?_)
      refine wpAnyH_take (i := 0) (v := ?v69) rfl (by kernel_rfl) (by kernel_rfl) (by kernel_rfl) (fun _ _ _ h => h) (Or.inl ⟨by rfl, ?hy69⟩) hHeld ?rest69
      case hy69 => (intro w' hSw; (try dsimp only at hSw); first | (go_simp; done) | (go_simp; with_reducible rfl))
      simp only [Act.put, pz0, pz1, pz2, pz3, pz4, pz5]
      refine wpAnyH_take (i := 1) (v := ?v70) rfl (by kernel_rfl) (by kernel_rfl) (by kernel_rfl) (fun _ _ _ h => h) (Or.inl ⟨by rfl, ?hy70⟩) hHeld ?rest70
      case hy70 => (intro w' hSw; (try dsimp only at hSw); first | (go_simp; done) | (go_simp; with_reducible rfl))
      simp only [Act.put, pz0, pz1, pz2, pz3, pz4, pz5]
      refine wpAnyH_take (i := 2) (v := ?v71) rfl (by kernel_rfl) (by kernel_rfl) (by kernel_rfl) (fun _ _ _ h => h) (Or.inl ⟨by rfl, ?hy71⟩) hHeld ?rest71
      case hy71 => (intro w' hSw; (try dsimp only at hSw); first | (go_simp; done) | (go_simp; with_reducible rfl))
      simp only [Act.put, pz0, pz1, pz2, pz3, pz4, pz5]
      refine wpAnyH_take (i := 3) (v := ?v72) rfl (by kernel_rfl) (by kernel_rfl) (by kernel_rfl) (fun _ _ _ h => h) (Or.inl ⟨by rfl, ?hy72⟩) hHeld ?rest72
      case hy72 => (intro w' hSw; (try dsimp only at hSw); first | (go_simp; done) | (go_simp; with_reducible rfl))
      simp only [Act.put, pz0, pz1, pz2, pz3, pz4, pz5]
      refine wpAnyH_take (i := 4) (v := ?v73) rfl (by kernel_rfl) (by kernel_rfl) (by kernel_rfl) (fun _ _ _ h => h) (Or.inl ⟨by rfl, ?hy73⟩) hHeld ?rest73
      case hy73 => (intro w' hSw; (try dsimp only at hSw); first | (go_simp; done) | (go_simp; with_reducible rfl))
      simp only [Act.put, pz0, pz1, pz2, pz3, pz4, pz5]
      refine wpAnyH_ready (rs := [5]) (by kernel_rfl) (by simp) ?_
      refine AllReadyH.cons rfl (fun K hK => ?_) AllReadyH.nil
      go_simp
      refine HX.out.mono ?_
      rintro e w9 ⟨rfl, hb9⟩
      rw [HR.out]
      go_wp2_with fail
      refine hK.out _ _ (keepC3 hHeld hb9) (fun hHeld => ?_)
      clear hK K
      (try simp only [Act.put, pz0, pz1, pz2, pz3, pz4, pz5])
      refine wpAnyH_take (i := 6) (v := ?v74) rfl (by kernel_rfl) (by kernel_rfl) (by kernel_rfl) (fun _ _ _ h => h) (Or.inl ⟨by rfl, ?hy74⟩) hHeld ?rest74
      case hy74 => (intro w' hSw; (try dsimp only at hSw); first | (go_simp; done) | (go_simp; with_reducible rfl))
      simp only [Act.put, pz0, pz1, pz2, pz3, pz4, pz5]
      refine wpAnyH_take (i := 7) (v := ?v75) rfl (by kernel_rfl) (by kernel_rfl) (by kernel_rfl) (fun _ _ _ h => h) (Or.inl ⟨by rfl, ?hy75⟩) hHeld ?rest75
      case hy75 => (intro w' hSw; (try dsimp only at hSw); first | (go_simp; done) | (go_simp; with_reducible rfl))
      simp only [Act.put, pz0, pz1, pz2, pz3, pz4, pz5]
      refine wpAnyH_take (i := 8) (v := ?v76) rfl (by kernel_rfl) (by kernel_rfl) (by kernel_rfl) (fun _ _ _ h => h) (Or.inl ⟨by rfl, ?hy76⟩) hHeld ?rest76
      case hy76 => (intro w' hSw; (try dsimp only at hSw); first | (go_simp; done) | (go_simp; with_reducible rfl))
      simp only [Act.put, pz0, pz1, pz2, pz3, pz4, pz5]
      refine wpAnyH_take (i := 9) (v := ?v77) rfl (by kernel_rfl) (by kernel_rfl) (by kernel_rfl) (fun _ _ _ h => h) (Or.inl ⟨by rfl, ?hy77⟩) hHeld ?rest77
      case hy77 => (intro w' hSw; (try dsimp only at hSw); first | (go_simp; done) | (go_simp; with_reducible rfl))
      simp only [Act.put, pz0, pz1, pz2, pz3, pz4, pz5]
      refine wpAnyH_take (i := 10) (v := ?v78) rfl (by kernel_rfl) (by kernel_rfl) (by kernel_rfl) (fun _ _ _ h => h) (Or.inl ⟨by rfl, ?hy78⟩) hHeld ?rest78
      case hy78 => (intro w' hSw; (try dsimp only at hSw); first | (go_simp; done) | (go_simp; with_reducible rfl))
      simp only [Act.put, pz0, pz1, pz2, pz3, pz4, pz5]
      refine wpAnyH_take (i := 11) (v := ?v79) rfl (by kernel_rfl) (by kernel_rfl) (by kernel_rfl) (fun _ _ _ h => h) (Or.inl ⟨by rfl, ?hy79⟩) hHeld ?rest79
      case hy79 => (intro w' hSw; (try dsimp only at hSw); first | (go_simp; done) | (go_simp; with_reducible rfl))
      simp only [Act.put, pz0, pz1, pz2, pz3, pz4, pz5]
      refine wpAnyH_take (i := 12) (v := ?v80) rfl (by kernel_rfl) (by kernel_rfl) (by kernel_rfl) (fun _ _ _ h => h) (Or.inl ⟨by rfl, ?hy80⟩) hHeld ?rest80
      case hy80 => (intro w' hSw; (try dsimp only at hSw); first | (go_simp; done) | (go_simp; with_reducible rfl))
      simp only [Act.put, pz0, pz1, pz2, pz3, pz4, pz5]
      refine wpAnyH_take (i := 13) (v := ?v81) rfl (by kernel_rfl) (by kernel_rfl) (by kernel_rfl) (fun _ _ _ h => h) (Or.inl ⟨by rfl, ?hy81⟩) hHeld ?rest81
      case hy81 => (intro w' hSw; (try dsimp only at hSw); first | (go_simp; done) | (go_simp; with_reducible rfl))
      simp only [Act.put, pz0, pz1, pz2, pz3, pz4, pz5]
      refine wpAnyH_take (i := 14) (v := ?v82) rfl (by kernel_rfl) (by kernel_rfl) (by kernel_rfl) (fun _ _ _ h => h) (Or.inl ⟨by rfl, ?hy82⟩) hHeld ?rest82
      case hy82 => (intro w' hSw; (try dsimp only at hSw); first | (go_simp; done) | (go_simp; with_reducible rfl))
      simp only [Act.put, pz0, pz1, pz2, pz3, pz4, pz5]
      refine wpAnyH_take (i := 15) (v := ?v83) rfl (by kernel_rfl) (by kernel_rfl) (by kernel_rfl) (fun _ _ _ h => h) (Or.inl ⟨by rfl, ?hy83⟩) hHeld ?rest83
      case hy83 => (intro w' hSw; (try dsimp only at hSw); first | (go_simp; done) | (go_simp; with_reducible rfl))
      simp only [Act.put, pz0, pz1, pz2, pz3, pz4, pz5]
      refine wpAnyH_take (i := 16) (v := ?v84) rfl (by kernel_rfl) (by kernel_rfl) (by kernel_rfl) (fun _ _ _ h => h) (Or.inl ⟨by rfl, ?hy84⟩) hHeld ?rest84
      case hy84 => (intro w' hSw; (try dsimp only at hSw); first | (go_simp; done) | (go_simp; with_reducible rfl))
      simp only [Act.put, pz0, pz1, pz2, pz3, pz4, pz5]
      refine wpAnyH_take (i := 17) (v := ?v85) rfl (by kernel_rfl) (by kernel_rfl) (by kernel_rfl) (fun _ _ _ h => h) (Or.inl ⟨by rfl, ?hy85⟩) hHeld ?rest85
      case hy85 => (intro w' hSw; (try dsimp only at hSw); first | (go_simp; done) | (go_simp; with_reducible rfl))
      simp only [Act.put, pz0, pz1, pz2, pz3, pz4, pz5]
      refine wpAnyH_take (i := 18) (v := ?v86) rfl (by kernel_rfl) (by kernel_rfl) (by kernel_rfl) (fun _ _ _ h => h) (Or.inl ⟨by rfl, ?hy86⟩) hHeld ?rest86
      case hy86 => (intro w' hSw; (try dsimp only at hSw); first | (go_simp; done) | (go_simp; with_reducible rfl))
      simp only [Act.put, pz0, pz1, pz2, pz3, pz4, pz5]
      refine wpAnyH_take (i := 19) (v := ?v87) rfl (by kernel_rfl) (by kernel_rfl) (by kernel_rfl) (fun _ _ _ h => h) (Or.inl ⟨by rfl, ?hy87⟩) hHeld ?rest87
      case hy87 => (intro w' hSw; (try dsimp only at hSw); first | (go_simp; done) | (go_simp; with_reducible rfl))
      simp only [Act.put, pz0, pz1, pz2, pz3, pz4, pz5]
      refine wpAnyH_take (i := 20) (v := ?v88) rfl (by kernel_rfl) (by kernel_rfl) (by kernel_rfl) (fun _ _ _ h => h) (Or.inl ⟨by rfl, ?hy88⟩) hHeld ?rest88
      case hy88 => (intro w' hSw; (try dsimp only at hSw); first | (go_simp; done) | (go_simp; with_reducible rfl))
      simp only [Act.put, pz0, pz1, pz2, pz3, pz4, pz5]
      refine wpAnyH_take (i := 21) (v := ?v89) rfl (by kernel_rfl) (by kernel_rfl) (by kernel_rfl) (fun _ _ _ h => h) (Or.inl ⟨by rfl, ?hy89⟩) hHeld ?rest89
      case hy89 => (intro w' hSw; (try dsimp only at hSw); first | (go_simp; done) | (go_simp; with_reducible rfl))
      simp only [Act.put, pz0, pz1, pz2, pz3, pz4, pz5]
      refine wpAnyH_take (i := 22) (v := ?v90) rfl (by kernel_rfl) (by kernel_rfl) (by kernel_rfl) (fun _ _ _ h => h) (Or.inl ⟨by rfl, ?hy90⟩) hHeld ?rest90
      case hy90 => (intro w' hSw; (try dsimp only at hSw); first | (go_simp; done) | (go_simp; with_reducible rfl))
      simp only [Act.put, pz0, pz1, pz2, pz3, pz4, pz5]
      refine wpAnyH_take (i := 23) (v := ?v91) rfl (by kernel_rfl) (by kernel_rfl) (by kernel_rfl) (fun _ _ _ h => h) (Or.inl ⟨by rfl, ?hy91⟩) hHeld ?rest91
      case hy91 => (intro w' hSw; (try dsimp only at hSw); first | (go_simp; done) | (go_simp; with_reducible rfl))
      simp only [Act.put, pz0, pz1, pz2, pz3, pz4, pz5]
      refine wpAnyH_take (i := 24) (v := ?v92) rfl (by kernel_rfl) (by kernel_rfl) (by kernel_rfl) (fun _ _ _ h => h) (Or.inl ⟨by rfl, ?hy92⟩) hHeld ?rest92
      case hy92 => (intro w' hSw; (try dsimp only at hSw); first | (go_simp; done) | (go_simp; with_reducible rfl))
      simp only [Act.put, pz0, pz1, pz2, pz3, pz4, pz5]
      refine wpAnyH_take (i := 25) (v := ?v93) rfl (by kernel_rfl) (by kernel_rfl) (by kernel_rfl) (fun _ _ _ h => h) (Or.inl ⟨by rfl, ?hy93⟩) hHeld ?rest93
      case hy93 => (intro w' hSw; (try dsimp only at hSw); first | (go_simp; done) | (go_simp; with_reducible rfl))
      simp only [Act.put, pz0, pz1, pz2, pz3, pz4, pz5]
      refine wpAnyH_take (i := 26) (v := ?v94) rfl (by kernel_rfl) (by kernel_rfl) (by kernel_rfl) (fun _ _ _ h => h) (Or.inl ⟨by rfl, ?hy94⟩) hHeld ?rest94
      case hy94 => (intro w' hSw; (try dsimp only at hSw); first | (go_simp; done) | (go_simp; with_reducible rfl))
      simp only [Act.put, pz0, pz1, pz2, pz3, pz4, pz5]
      refine wpAnyH_take (i := 27) (v := ?v95) rfl (by kernel_rfl) (by kernel_rfl) (by kernel_rfl) (fun _ _ _ h => h) (Or.inl ⟨by rfl, ?hy95⟩) hHeld ?rest95
      case hy95 => (intro w' hSw; (try dsimp only at hSw); first | (go_simp; done) | (go_simp; with_reducible rfl))
      simp only [Act.put, pz0, pz1, pz2, pz3, pz4, pz5]
      refine wpAnyH_take (i := 28) (v := ?v96) rfl (by kernel_rfl) (by kernel_rfl) (by kernel_rfl) (fun _ _ _ h => h) (Or.inl ⟨by rfl, ?hy96⟩) hHeld ?rest96
      case hy96 => (intro w' hSw; (try dsimp only at hSw); first | (go_simp; done) | (go_simp; with_reducible rfl))
      simp only [Act.put, pz0, pz1, pz2, pz3, pz4, pz5]
      refine wpAnyH_take (i := 29) (v := ?v97) rfl (by kernel_rfl) (by kernel_rfl) (by kernel_rfl) (fun _ _ _ h => h) (Or.inl ⟨by rfl, ?hy97⟩) hHeld ?rest97
      case hy97 => (intro w' hSw; (try dsimp only at hSw); first | (go_simp; done) | (go_simp; with_reducible rfl))
      simp only [Act.put, pz0, pz1, pz2, pz3, pz4, pz5]
      refine wpAnyH_take (i := 30) (v := ?v98) rfl (by kernel_rfl) (by kernel_rfl) (by kernel_rfl) (fun _ _ _ h => h) (Or.inl ⟨by rfl, ?hy98⟩) hHeld ?rest98
      case hy98 => (intro w' hSw; (try dsimp only at hSw); first | (go_simp; done) | (go_simp; with_reducible rfl))
      simp only [Act.put, pz0, pz1, pz2, pz3, pz4, pz5]
      refine wpAnyH_take (i := 31) (v := ?v99) rfl (by kernel_rfl) (by kernel_rfl) (by kernel_rfl) (fun _ _ _ h => h) (Or.inl ⟨by rfl, ?hy99⟩) hHeld ?rest99
      case hy99 => (intro w' hSw; (try dsimp only at hSw); first | (go_simp; done) | (go_simp; with_reducible rfl))
      simp only [Act.put, pz0, pz1, pz2, pz3, pz4, pz5]
      refine wpAnyH_take (i := 32) (v := ?v100) rfl (by kernel_rfl) (by kernel_rfl) (by kernel_rfl) (fun _ _ _ h => h) (Or.inl ⟨by rfl, ?hy100⟩) hHeld ?rest100
      case hy100 => (intro w' hSw; (try dsimp only at hSw); first | (go_simp; done) | (go_simp; with_reducible rfl))
      simp only [Act.put, pz0, pz1, pz2, pz3, pz4, pz5]
      refine wpAnyH_take (i := 33) (v := ?v101) rfl (by kernel_rfl) (by kernel_rfl) (by kernel_rfl) (fun _ _ _ h => h) (Or.inl ⟨by rfl, ?hy101⟩) hHeld ?rest101
      case hy101 => (intro w' hSw; (try dsimp only at hSw); first | (go_simp; done) | (go_simp; with_reducible rfl))
      simp only [Act.put, pz0, pz1, pz2, pz3, pz4, pz5]
      refine wpAnyH_take (i := 34) (v := ?v102) rfl (by kernel_rfl) (by kernel_rfl) (by kernel_rfl) (fun _ _ _ h => h) (Or.inl ⟨by rfl, ?hy102⟩) hHeld ?rest102
      case hy102 => (intro w' hSw; (try dsimp only at hSw); first | (go_simp; done) | (go_simp; with_reducible rfl))
      simp only [Act.put, pz0, pz1, pz2, pz3, pz4, pz5]
      refine wpAnyH_take (i := 35) (v := ?v103) rfl (by kernel_rfl) (by kernel_rfl) (by kernel_rfl) (fun _ _ _ h => h) (Or.inl ⟨by rfl, ?hy103⟩) hHeld ?rest103
      case hy103 => (intro w' hSw; (try dsimp only at hSw); first | (go_simp; done) | (go_simp; with_reducible rfl))
      simp only [Act.put, pz0, pz1, pz2, pz3, pz4, pz5]
      refine wpAnyH_ready (rs := [36]) (by kernel_rfl) (by simp) ?_
      refine AllReadyH.cons rfl (fun K hK => ?_) AllReadyH.nil
      go_simp
      refine (specInV HI.out _).mono ?_
      rintro e w8 ⟨rfl, rfl⟩
      go_wp2_with fail
      refine hK.out _ _ hHeld (fun hHeld => ?_)
      clear hK K
      (try simp only [Act.put, pz0, pz1, pz2, pz3, pz4, pz5])
      refine wpAnyH_take (i := 37) (v := ?v104) rfl (by kernel_rfl) (by kernel_rfl) (by kernel_rfl) (fun _ _ _ h => h) (Or.inl ⟨by rfl, ?hy104⟩) hHeld ?rest104
      case hy104 => (intro w' hSw; (try dsimp only at hSw); first | (go_simp; done) | (go_simp; with_reducible rfl))
      simp only [Act.put, pz0, pz1, pz2, pz3, pz4, pz5]
      refine wpAnyH_take (i := 38) (v := ?v105) rfl (by kernel_rfl) (by kernel_rfl) (by kernel_rfl) (fun _ _ _ h => h) (Or.inl ⟨by rfl, ?hy105⟩) hHeld ?rest105
      case hy105 => (intro w' hSw; (try dsimp only at hSw); first | (go_simp; done) | (go_simp; with_reducible rfl))
      simp only [Act.put, pz0, pz1, pz2, pz3, pz4, pz5]
      refine wpAnyH_take (i := 39) (v := ?v106) rfl (by kernel_rfl) (by kernel_rfl) (by kernel_rfl) (fun _ _ _ h => h) (Or.inl ⟨by rfl, ?hy106⟩) hHeld ?rest106
      case hy106 => (intro w' hSw; (try dsimp only at hSw); first | (go_simp; done) | (go_simp; with_reducible rfl))
      simp only [Act.put, pz0, pz1, pz2, pz3, pz4, pz5]
      refine wpAnyH_take (i := 40) (v := undef) rfl (by kernel_rfl) (by kernel_rfl) (by kernel_rfl) (fun _ _ _ h => h) (Or.inr ⟨by rfl, rfl⟩) hHeld ?_
      simp only [Act.put, pz0, pz1, pz2, pz3, pz4, pz5]
      refine wpAnyH_take (i := 41) (v := undef) rfl (by kernel_rfl) (by kernel_rfl) (by kernel_rfl) (fun _ _ _ h => h) (Or.inr ⟨by rfl, rfl⟩) hHeld ?_
      simp only [Act.put, pz0, pz1, pz2, pz3, pz4, pz5]
      refine wpAnyH_take (i := 42) (v := undef) rfl (by kernel_rfl) (by kernel_rfl) (by kernel_rfl) (fun _ _ _ h => h) (Or.inr ⟨by rfl, rfl⟩) hHeld ?_
      simp only [Act.put, pz0, pz1, pz2, pz3, pz4, pz5]
      refine wpAnyH_take (i := 43) (v := undef) rfl (by kernel_rfl) (by kernel_rfl) (by kernel_rfl) (fun _ _ _ h => h) (Or.inr ⟨by rfl, rfl⟩) hHeld ?_
      simp only [Act.put, pz0, pz1, pz2, pz3, pz4, pz5]
      refine wpAnyH_take (i := 44) (v := undef) rfl (by kernel_rfl) (by kernel_rfl) (by kernel_rfl) (fun _ _ _ h => h) (Or.inr ⟨by rfl, rfl⟩) hHeld ?_
      simp only [Act.put, pz0, pz1, pz2, pz3, pz4, pz5]
      refine wpAnyH_take (i := 45) (v := undef) rfl (by kernel_rfl) (by kernel_rfl) (by kernel_rfl) (fun _ _ _ h => h) (Or.inr ⟨by rfl, rfl⟩) hHeld ?_
      simp only [Act.put, pz0, pz1, pz2, pz3, pz4, pz5]
      refine wpAnyH_take (i := 46) (v := undef) rfl (by kernel_rfl) (by kernel_rfl) (by kernel_rfl) (fun _ _ _ h => h) (Or.inr ⟨by rfl, rfl⟩) hHeld ?_
      simp only [Act.put, pz0, pz1, pz2, pz3, pz4, pz5]
      refine wpAnyH_take (i := 47) (v := undef) rfl (by kernel_rfl) (by kernel_rfl) (by kernel_rfl) (fun _ _ _ h => h) (Or.inr ⟨by rfl, rfl⟩) hHeld ?_
      simp only [Act.put, pz0, pz1, pz2, pz3, pz4, pz5]
      refine wpAnyH_take (i := 48) (v := undef) rfl (by kernel_rfl) (by kernel_rfl) (by kernel_rfl) (fun _ _ _ h => h) (Or.inr ⟨by rfl, rfl⟩) hHeld ?_
      simp only [Act.put, pz0, pz1, pz2, pz3, pz4, pz5]
      refine wpAnyH_take (i := 49) (v := undef) rfl (by kernel_rfl) (by kernel_rfl) (by kernel_rfl) (fun _ _ _ h => h) (Or.inr ⟨by rfl, rfl⟩) hHeld ?_
      simp only [Act.put, pz0, pz1, pz2, pz3, pz4, pz5]
      refine wpAnyH_take (i := 50) (v := undef) rfl (by kernel_rfl) (by kernel_rfl) (by kernel_rfl) (fun _ _ _ h => h) (Or.inr ⟨by rfl, rfl⟩) hHeld ?_
      simp only [Act.put, pz0, pz1, pz2, pz3, pz4, pz5]
      refine wpAnyH_take (i := 51) (v := undef) rfl (by kernel_rfl) (by kernel_rfl) (by kernel_rfl) (fun _ _ _ h => h) (Or.inr ⟨by rfl, rfl⟩) hHeld ?_
      simp only [Act.put, pz0, pz1, pz2, pz3, pz4, pz5]
      refine wpAnyH_take (i := 52) (v := undef) rfl (by kernel_rfl) (by kernel_rfl) (by kernel_rfl) (fun _ _ _ h => h) (Or.inr ⟨by rfl, rfl⟩) hHeld ?_
      simp only [Act.put, pz0, pz1, pz2, pz3, pz4, pz5]
      refine wpAnyH_take (i := 53) (v := undef) rfl (by kernel_rfl) (by kernel_rfl) (by kernel_rfl) (fun _ _ _ h => h) (Or.inr ⟨by rfl, rfl⟩) hHeld ?_
      simp only [Act.put, pz0, pz1, pz2, pz3, pz4, pz5]
      refine wpAnyH_take (i := 54) (v := undef) rfl (by kernel_rfl) (by kernel_rfl) (by kernel_rfl) (fun _ _ _ h => h) (Or.inr ⟨by rfl, rfl⟩) hHeld ?_
      simp only [Act.put, pz0, pz1, pz2, pz3, pz4, pz5]
      refine wpAnyH_take (i := 55) (v := ?v107) rfl (by kernel_rfl) (by kernel_rfl) (by kernel_rfl) (fun _ _ _ h => h) (Or.inl ⟨by rfl, ?hy107⟩) hHeld ?rest107
      case hy107 => (intro w' hSw; (try dsimp only at hSw); first | (go_simp; done) | (go_simp; with_reducible rfl))
      simp only [Act.put, pz0, pz1, pz2, pz3, pz4, pz5]
      refine wpAnyH_done (by kernel_rfl) ?_ _
      refine NoPanic.normal ?_
      clear hHeld
      go_wp2_with fail
      go_ret
      exact ⟨retB HF.out.symm, hbd.trans (hb9.mono hbd.size)⟩
    have HI := Lib.hid hi
    have HA := Lib.hid (show (l.take (k + 1)).all (entW (wideOf l)) = true by rw [HST.out, hall.out, HEQ.out, hi]; rfl)
    clear hi
    by_cases hk0 : k = 0
    · have zk : decide ((0 : Int) < k) = false := decide_eq_false (by omega)
      have zk' : decide (0 < k) = false := decide_eq_false (by omega)
      have HU := Lib.hid (show (List.range (k + 1 - 1)).all (upB l) = true by rw [hk0]; simp)
      clear hk0
      go_wp2_with fail
      refine wp_region_noPanic ?_
      refine wp_region_held_drew (S := fun w' => w'.cell? ⟨b1, o1 + k * 2, none⟩ = some (.slice A1 l[k].key.length c1) ∧ w'.cell? ⟨b1, o1 + k * 2 + 1, none⟩ = some (.int .i64 l[k].id) ∧ w'.cell? ⟨b1, o1, none⟩ = some (.slice A2 l[0].key.length c2)) (by kernel_rfl) D.out (fun hHeld => ?_)
      refine wpAnyH_take (i := 0) (v := ?v108) rfl (by kernel_rfl) (by kernel_rfl) (by kernel_rfl) (fun _ _ _ h => h) (Or.inl ⟨by rfl, ?hy108⟩) hHeld ?rest108
      case hy108 => (intro w' hSw; (try dsimp only at hSw); first | (go_simp; done) | (go_simp; with_reducible rfl))
      simp only [Act.put, pz0, pz1, pz2, pz3, pz4, pz5]
      refine wpAnyH_take (i := 1) (v := ?v109) rfl (by kernel_rfl) (by kernel_rfl) (by kernel_rfl) (fun _ _ _ h => h) (Or.inl ⟨by rfl, ?hy109⟩) hHeld ?rest109
      case hy109 => (intro w' hSw; (try dsimp only at hSw); first | (go_simp; done) | (go_simp; with_reducible rfl))
      simp only [Act.put, pz0, pz1, pz2, pz3, pz4, pz5]
      refine wpAnyH_take (i := 2) (v := ?v110) rfl (by kernel_rfl) (by kernel_rfl) (by kernel_rfl) (fun _ _ _ h => h) (Or.inl ⟨by rfl, ?hy110⟩) hHeld ?rest110
      case hy110 => (intro w' hSw; (try dsimp only at hSw); first | (go_simp; done) | (go_simp; with_reducible rfl))
      simp only [Act.put, pz0, pz1, pz2, pz3, pz4, pz5]
      refine wpAnyH_take (i := 3) (v := ?v111) rfl (by kernel_rfl) (by kernel_rfl) (by kernel_rfl) (fun _ _ _ h => h) (Or.inl ⟨by rfl, ?hy111⟩) hHeld ?rest111
      case hy111 => (intro w' hSw; (try dsimp only at hSw); first | (go_simp; done) | (go_simp; with_reducible rfl))
      simp only [Act.put, pz0, pz1, pz2, pz3, pz4, pz5]
      refine wpAnyH_take (i := 4) (v := ?v112) rfl (by kernel_rfl) (by kernel_rfl) (by kernel_rfl) (fun _ _ _ h => h) (Or.inl ⟨by rfl, ?hy112⟩) hHeld ?rest112
      case hy112 => (intro w' hSw; (try dsimp only at hSw); first | (go_simp; done) | (go_simp; with_reducible rfl))
      simp only [Act.put, pz0, pz1, pz2, pz3, pz4, pz5]
      refine wpAnyH_ready (rs := [5]) (by kernel_rfl) (by simp) ?_
      refine AllReadyH.cons rfl (fun K hK => ?_) AllReadyH.nil
      go_simp
      refine HX.out.mono ?_
      rintro e w9 ⟨rfl, hb9⟩
      rw [HR.out]
      go_wp2_with fail
      refine hK.out _ _ (keepC3 hHeld hb9) (fun hHeld => ?_)
      clear hK K
      (try simp only [Act.put, pz0, pz1, pz2, pz3, pz4, pz5])
      refine wpAnyH_take (i := 6) (v := ?v113) rfl (by kernel_rfl) (by kernel_rfl) (by kernel_rfl) (fun _ _ _ h => h) (Or.inl ⟨by rfl, ?hy113⟩) hHeld ?rest113
      case hy113 => (intro w' hSw; (try dsimp only at hSw); first | (go_simp; done) | (go_simp; with_reducible rfl))
      simp only [Act.put, pz0, pz1, pz2, pz3, pz4, pz5]
      refine wpAnyH_take (i := 7) (v := ?v114) rfl (by kernel_rfl) (by kernel_rfl) (by kernel_rfl) (fun _ _ _ h => h) (Or.inl ⟨by rfl, ?hy114⟩) hHeld ?rest114
      case hy114 => (intro w' hSw; (try dsimp only at hSw); first | (go_simp; done) | (go_simp; with_reducible rfl))
      simp only [Act.put, pz0, pz1, pz2, pz3, pz4, pz5]
      refine wpAnyH_take (i := 8) (v := ?v115) rfl (by kernel_rfl) (by kernel_rfl) (by kernel_rfl) (fun _ _ _ h => h) (Or.inl ⟨by rfl, ?hy115⟩) hHeld ?rest115
      case hy115 => (intro w' hSw; (try dsimp only at hSw); first | (go_simp; done) | (go_simp; with_reducible rfl))
      simp only [Act.put, pz0, pz1, pz2, pz3, pz4, pz5]
      refine wpAnyH_take (i := 9) (v := ?v116) rfl (by kernel_rfl) (by kernel_rfl) (by kernel_rfl) (fun _ _ _ h => h) (Or.inl ⟨by rfl, ?hy116⟩) hHeld ?rest116
      case hy116 => (intro w' hSw; (try dsimp only at hSw); first | (go_simp; done) | (go_simp; with_reducible rfl))
      simp only [Act.put, pz0, pz1, pz2, pz3, pz4, pz5]
      refine wpAnyH_take (i := 10) (v := ?v117) rfl (by kernel_rfl) (by kernel_rfl) (by kernel_rfl) (fun _ _ _ h => h) (Or.inl ⟨by rfl, ?hy117⟩) hHeld ?rest117
      case hy117 => (intro w' hSw; (try dsimp only at hSw); first | (go_simp; done) | (go_simp; with_reducible rfl))
      simp only [Act.put, pz0, pz1, pz2, pz3, pz4, pz5]
      refine wpAnyH_take (i := 11) (v := ?v118) rfl (by kernel_rfl) (by kernel_rfl) (by kernel_rfl) (fun _ _ _ h => h) (Or.inl ⟨by rfl, ?hy118⟩) hHeld ?rest118
      case hy118 => (intro w' hSw; (try dsimp only at hSw); first | (go_simp; done) | (go_simp; with_reducible rfl))
      simp only [Act.put, pz0, pz1, pz2, pz3, pz4, pz5]
      refine wpAnyH_take (i := 12) (v := ?v119) rfl (by kernel_rfl) (by kernel_rfl) (by kernel_rfl) (fun _ _ _ h => h) (Or.inl ⟨by rfl, ?hy119⟩) hHeld ?rest119
      case hy119 => (intro w' hSw; (try dsimp only at hSw); first | (go_simp; done) | (go_simp; with_reducible rfl))
      simp only [Act.put, pz0, pz1, pz2, pz3, pz4, pz5]
      refine wpAnyH_take (i := 13) (v := ?v120) rfl (by kernel_rfl) (by kernel_rfl) (by kernel_rfl) (fun _ _ _ h => h) (Or.inl ⟨by rfl, ?hy120⟩) hHeld ?rest120
      case hy120 => (intro w' hSw; (try dsimp only at hSw); first | (go_simp; done) | (go_simp; with_reducible rfl))
      simp only [Act.put, pz0, pz1, pz2, pz3, pz4, pz5]
      refine wpAnyH_take (i := 14) (v := ?v121) rfl (by kernel_rfl) (by kernel_rfl) (by kernel_rfl) (fun _ _ _ h => h) (Or.inl ⟨by rfl, ?hy121⟩) hHeld ?rest121
      case hy121 => (intro w' hSw; (try dsimp only at hSw); first | (go_simp; done) | (go_simp; with_reducible rfl))
      simp only [Act.put, pz0, pz1, pz2, pz3, pz4, pz5]
      refine wpAnyH_take (i := 15) (v := ?v122) rfl (by kernel_rfl) (by kernel_rfl) (by kernel_rfl) (fun _ _ _ h => h) (Or.inl ⟨by rfl, ?hy122⟩) hHeld ?rest122
      case hy122 => (intro w' hSw; (try dsimp only at hSw); first | (go_simp; done) | (go_simp; with_reducible rfl))
      simp only [Act.put, pz0, pz1, pz2, pz3, pz4, pz5]
      refine wpAnyH_take (i := 16) (v := ?v123) rfl (by kernel_rfl) (by kernel_rfl) (by kernel_rfl) (fun _ _ _ h => h) (Or.inl ⟨by rfl, ?hy123⟩) hHeld ?rest123
      case hy123 => (intro w' hSw; (try dsimp only at hSw); first | (go_simp; done) | (go_simp; with_reducible rfl))
      simp only [Act.put, pz0, pz1, pz2, pz3, pz4, pz5]
      refine wpAnyH_take (i := 17) (v := ?v124) rfl (by kernel_rfl) (by kernel_rfl) (by kernel_rfl) (fun _ _ _ h => h) (Or.inl ⟨by rfl, ?hy124⟩) hHeld ?rest124
      case hy124 => (intro w' hSw; (try dsimp only at hSw); first | (go_simp; done) | (go_simp; with_reducible rfl))
      simp only [Act.put, pz0, pz1, pz2, pz3, pz4, pz5]
      refine wpAnyH_take (i := 18) (v := ?v125) rfl (by kernel_rfl) (by kernel_rfl) (by kernel_rfl) (fun _ _ _ h => h) (Or.inl ⟨by rfl, ?hy125⟩) hHeld ?rest125
      case hy125 => (intro w' hSw; (try dsimp only at hSw); first | (go_simp; done) | (go_simp; with_reducible rfl))
      simp only [Act.put, pz0, pz1, pz2, pz3, pz4, pz5]
      refine wpAnyH_take (i := 19) (v := ?v126) rfl (by kernel_rfl) (by kernel_rfl) (by kernel_rfl) (fun _ _ _ h => h) (Or.inl ⟨by rfl, ?hy126⟩) hHeld ?rest126
      case hy126 => (intro w' hSw; (try dsimp only at hSw); first | (go_simp; done) | (go_simp; with_reducible rfl))
      simp only [Act.put, pz0, pz1, pz2, pz3, pz4, pz5]
      refine wpAnyH_take (i := 20) (v := ?v127) rfl (by kernel_rfl) (by kernel_rfl) (by kernel_rfl) (fun _ _ _ h => h) (Or.inl ⟨by rfl, ?hy127⟩) hHeld ?rest127
      case hy127 => (intro w' hSw; (try dsimp only at hSw); first | (go_simp; done) | (go_simp; with_reducible rfl))
      simp only [Act.put, pz0, pz1, pz2, pz3, pz4, pz5]
      refine wpAnyH_take (i := 21) (v := ?v128) rfl (by kernel_rfl) (by kernel_rfl) (by kernel_rfl) (fun _ _ _ h => h) (Or.inl ⟨by rfl, ?hy128⟩) hHeld ?rest128
      case hy128 => (intro w' hSw; (try dsimp only at hSw); first | (go_simp; done) | (go_simp; with_reducible rfl))
      simp only [Act.put, pz0, pz1, pz2, pz3, pz4, pz5]
      refine wpAnyH_take (i := 22) (v := ?v129) rfl (by kernel_rfl) (by kernel_rfl) (by kernel_rfl) (fun _ _ _ h => h) (Or.inl ⟨by rfl, ?hy129⟩) hHeld ?rest129
      case hy129 => (intro w' hSw; (try dsimp only at hSw); first | (go_simp; done) | (go_simp; with_reducible rfl))
      simp only [Act.put, pz0, pz1, pz2, pz3, pz4, pz5]
      refine wpAnyH_take (i := 23) (v := ?v130) rfl (by kernel_rfl) (by kernel_rfl) (by kernel_rfl) (fun _ _ _ h => h) (Or.inl ⟨by rfl, ?hy130⟩) hHeld ?rest130
      case hy130 => (intro w' hSw; (try dsimp only at hSw); first | (go_simp; done) | (go_simp; with_reducible rfl))
      simp only [Act.put, pz0, pz1, pz2, pz3, pz4, pz5]
      refine wpAnyH_take (i := 24) (v := ?v131) rfl (by kernel_rfl) (by kernel_rfl) (by kernel_rfl) (fun _ _ _ h => h) (Or.inl ⟨by rfl, ?hy131⟩) hHeld ?rest131
      case hy131 => (intro w' hSw; (try dsimp only at hSw); first | (go_simp; done) | (go_simp; with_reducible rfl))
      simp only [Act.put, pz0, pz1, pz2, pz3, pz4, pz5]
      refine wpAnyH_take (i := 25) (v := ?v132) rfl (by kernel_rfl) (by kernel_rfl) (by kernel_rfl) (fun _ _ _ h => h) (Or.inl ⟨by rfl, ?hy132⟩) hHeld ?rest132
      case hy132 => (intro w' hSw; (try dsimp only at hSw); first | (go_simp; done) | (go_simp; with_reducible rfl))
      simp only [Act.put, pz0, pz1, pz2, pz3, pz4, pz5]
      refine wpAnyH_take (i := 26) (v := ?v133) rfl (by kernel_rfl) (by kernel_rfl) (by kernel_rfl) (fun _ _ _ h => h) (Or.inl ⟨by rfl, ?hy133⟩) hHeld ?rest133
      case hy133 => (intro w' hSw; (try dsimp only at hSw); first | (go_simp; done) | (go_simp; with_reducible rfl))
      simp only [Act.put, pz0, pz1, pz2, pz3, pz4, pz5]
      refine wpAnyH_take (i := 27) (v := ?v134) rfl (by kernel_rfl) (by kernel_rfl) (by kernel_rfl) (fun _ _ _ h => h) (Or.inl ⟨by rfl, ?hy134⟩) hHeld ?rest134
      case hy134 => (intro w' hSw; (try dsimp only at hSw); first | (go_simp; done) | (go_simp; with_reducible rfl))
      simp only [Act.put, pz0, pz1, pz2, pz3, pz4, pz5]
      refine wpAnyH_take (i := 28) (v := ?v135) rfl (by kernel_rfl) (by kernel_rfl) (by kernel_rfl) (fun _ _ _ h => h) (Or.inl ⟨by rfl, ?hy135⟩) hHeld ?rest135
      case hy135 => (intro w' hSw; (try dsimp only at hSw); first | (go_simp; done) | (go_simp; with_reducible rfl))
      simp only [Act.put, pz0, pz1, pz2, pz3, pz4, pz5]
      refine wpAnyH_take (i := 29) (v := ?v136) rfl (by kernel_rfl) (by kernel_rfl) (by kernel_rfl) (fun _ _ _ h => h) (Or.inl ⟨by rfl, ?hy136⟩) hHeld ?rest136
      case hy136 => (intro w' hSw; (try dsimp only at hSw); first | (go_simp; done) | (go_simp; with_reducible rfl))
      simp only [Act.put, pz0, pz1, pz2, pz3, pz4, pz5]
      refine wpAnyH_take (i := 30) (v := ?v137) rfl (by kernel_rfl) (by kernel_rfl) (by kernel_rfl) (fun _ _ _ h => h) (Or.inl ⟨by rfl, ?hy137⟩) hHeld ?rest137
      case hy137 => (intro w' hSw; (try dsimp only at hSw); first | (go_simp; done) | (go_simp; with_reducible rfl))
      simp only [Act.put, pz0, pz1, pz2, pz3, pz4, pz5]
      refine wpAnyH_take (i := 31) (v := ?v138) rfl (by kernel_rfl) (by kernel_rfl) (by kernel_rfl) (fun _ _ _ h => h) (Or.inl ⟨by rfl, ?hy138⟩) hHeld ?rest138
      case hy138 => (intro w' hSw; (try dsimp only at hSw); first | (go_simp; done) | (go_simp; with_reducible rfl))
      simp only [Act.put, pz0, pz1, pz2, pz3, pz4, pz5]
      refine wpAnyH_take (i := 32) (v := ?v139) rfl (by kernel_rfl) (by kernel_rfl) (by kernel_rfl) (fun _ _ _ h => h) (Or.inl ⟨by rfl, ?hy139⟩) hHeld ?rest139
      case hy139 => (intro w' hSw; (try dsimp only at hSw); first | (go_simp; done) | (go_simp; with_reducible rfl))
      simp only [Act.put, pz0, pz1, pz2, pz3, pz4, pz5]
      refine wpAnyH_take (i := 33) (v := ?v140) rfl (by kernel_rfl) (by kernel_rfl) (by kernel_rfl) (fun _ _ _ h => h) (Or.inl ⟨by rfl, ?hy140⟩) hHeld ?rest140
      case hy140 => (intro w' hSw; (try dsimp only at hSw); first | (go_simp; done) | (go_simp; with_reducible rfl))
      simp only [Act.put, pz0, pz1, pz2, pz3, pz4, pz5]
      refine wpAnyH_take (i := 34) (v := ?v141) rfl (by kernel_rfl) (by kernel_rfl) (by kernel_rfl) (fun _ _ _ h => h) (Or.inl ⟨by rfl, ?hy141⟩) hHeld ?rest141
      case hy141 => (intro w' hSw; (try dsimp only at hSw); first | (go_simp; done) | (go_simp; with_reducible rfl))
      simp only [Act.put, pz0, pz1, pz2, pz3, pz4, pz5]
      refine wpAnyH_take (i := 35) (v := ?v142) rfl (by kernel_rfl) (by kernel_rfl) (by kernel_rfl) (fun _ _ _ h => h) (Or.inl ⟨by rfl, ?hy142⟩) hHeld ?rest142
      case hy142 => (intro w' hSw; (try dsimp only at hSw); first | (go_simp; done) | (go_simp; with_reducible rfl))
      simp only [Act.put, pz0, pz1, pz2, pz3, pz4, pz5]
      refine wpAnyH_ready (rs := [36]) (by kernel_rfl) (by simp) ?_
      refine AllReadyH.cons rfl (fun K hK => ?_) AllReadyH.nil
      go_simp
      refine (specInV HI.out _).mono ?_
      rintro e w8 ⟨rfl, rfl⟩
      go_wp2_with fail
      refine hK.out _ _ hHeld (fun hHeld => ?_)
      clear hK K
      (try simp only [Act.put, pz0, pz1, pz2, pz3, pz4, pz5])
      refine wpAnyH_take (i := 37) (v := ?v143) rfl (by kernel_rfl) (by kernel_rfl) (by kernel_rfl) (fun _ _ _ h => h) (Or.inl ⟨by rfl, ?hy143⟩) hHeld ?rest143
      case hy143 => (intro w' hSw; (try dsimp only at hSw); first | (go_simp; done) | (go_simp; with_reducible rfl))
      simp only [Act.put, pz0, pz1, pz2, pz3, pz4, pz5]
      refine wpAnyH_take (i := 38) (v := ?v144) rfl (by kernel_rfl) (by kernel_rfl) (by kernel_rfl) (fun _ _ _ h => h) (Or.inl ⟨by rfl, ?hy144⟩) hHeld ?rest144
      case hy144 => (intro w' hSw; (try dsimp only at hSw); first | (go_simp; done) | (go_simp; with_reducible rfl))
      simp only [Act.put, pz0, pz1, pz2, pz3, pz4, pz5]
      refine wpAnyH_take (i := 39) (v := ?v145) rfl (by kernel_rfl) (by kernel_rfl) (by kernel_rfl) (fun _ _ _ h => h) (Or.inl ⟨by rfl, ?hy145⟩) hHeld ?rest145
      case hy145 => (intro w' hSw; (try dsimp only at hSw); first | (go_simp; done) | (go_simp; with_reducible rfl))
      simp only [Act.put, pz0, pz1, pz2, pz3, pz4, pz5]
      refine wpAnyH_take (i := 40) (v := ?v146) rfl (by kernel_rfl) (by kernel_rfl) (by kernel_rfl) (fun _ _ _ h => h) (Or.inl ⟨by rfl, ?hy146⟩) hHeld ?rest146
      case hy146 => (intro w' hSw; (try dsimp only at hSw); first | (go_simp; done) | (go_simp; with_reducible rfl))
      simp only [Act.put, pz0, pz1, pz2, pz3, pz4, pz5]
      refine wpAnyH_take (i := 41) (v := ?v147) rfl (by kernel_rfl) (by kernel_rfl) (by kernel_rfl) (fun _ _ _ h => h) (Or.inl ⟨by rfl, ?hy147⟩) hHeld ?rest147
      case hy147 => (intro w' hSw; (try dsimp only at hSw); first | (go_simp; done) | (go_simp; with_reducible rfl))
      simp only [Act.put, pz0, pz1, pz2, pz3, pz4, pz5]
      refine wpAnyH_take (i := 42) (v := ?v148) rfl (by kernel_rfl) (by kernel_rfl) (by kernel_rfl) (fun _ _ _ h => h) (Or.inl ⟨by rfl, ?hy148⟩) hHeld ?rest148
      case hy148 => (intro w' hSw; (try dsimp only at hSw); first | (go_simp; done) | (go_simp; with_reducible rfl))
      simp only [Act.put, pz0, pz1, pz2, pz3, pz4, pz5]
      refine wpAnyH_take (i := 43) (v := undef) rfl (by kernel_rfl) (by kernel_rfl) (by kernel_rfl) (fun _ _ _ h => h) (Or.inr ⟨by rfl, rfl⟩) hHeld ?_
      simp only [Act.put, pz0, pz1, pz2, pz3, pz4, pz5]
      refine wpAnyH_take (i := 44) (v := undef) rfl (by kernel_rfl) (by kernel_rfl) (by kernel_rfl) (fun _ _ _ h => h) (Or.inr ⟨by rfl, rfl⟩) hHeld ?_
      simp only [Act.put, pz0, pz1, pz2, pz3, pz4, pz5]
      refine wpAnyH_take (i := 45) (v := undef) rfl (by kernel_rfl) (by kernel_rfl) (by kernel_rfl) (fun _ _ _ h => h) (Or.inr ⟨by rfl, rfl⟩) hHeld ?_
      simp only [Act.put, pz0, pz1, pz2, pz3, pz4, pz5]
      refine wpAnyH_take (i := 46) (v := undef) rfl (by kernel_rfl) (by kernel_rfl) (by kernel_rfl) (fun _ _ _ h => h) (Or.inr ⟨by rfl, rfl⟩) hHeld ?_
      simp only [Act.put, pz0, pz1, pz2, pz3, pz4, pz5]
      refine wpAnyH_take (i := 47) (v := undef) rfl (by kernel_rfl) (by kernel_rfl) (by kernel_rfl) (fun _ _ _ h => h) (Or.inr ⟨by rfl, rfl⟩) hHeld ?_
      simp only [Act.put, pz0, pz1, pz2, pz3, pz4, pz5]
      refine wpAnyH_take (i := 48) (v := undef) rfl (by kernel_rfl) (by kernel_rfl) (by kernel_rfl) (fun _ _ _ h => h) (Or.inr ⟨by rfl, rfl⟩) hHeld ?_
      simp only [Act.put, pz0, pz1, pz2, pz3, pz4, pz5]
      refine wpAnyH_take (i := 49) (v := undef) rfl (by kernel_rfl) (by kernel_rfl) (by kernel_rfl) (fun _ _ _ h => h) (Or.inr ⟨by rfl, rfl⟩) hHeld ?_
      simp only [Act.put, pz0, pz1, pz2, pz3, pz4, pz5]
      refine wpAnyH_take (i := 50) (v := undef) rfl (by kernel_rfl) (by kernel_rfl) (by kernel_rfl) (fun _ _ _ h => h) (Or.inr ⟨by rfl, rfl⟩) hHeld ?_
      simp only [Act.put, pz0, pz1, pz2, pz3, pz4, pz5]
      refine wpAnyH_take (i := 51) (v := undef) rfl (by kernel_rfl) (by kernel_rfl) (by kernel_rfl) (fun _ _ _ h => h) (Or.inr ⟨by rfl, rfl⟩) hHeld ?_
      simp only [Act.put, pz0, pz1, pz2, pz3, pz4, pz5]
      refine wpAnyH_take (i := 52) (v := undef) rfl (by kernel_rfl) (by kernel_rfl) (by kernel_rfl) (fun _ _ _ h => h) (Or.inr ⟨by rfl, rfl⟩) hHeld ?_
      simp only [Act.put, pz0, pz1, pz2, pz3, pz4, pz5]
      refine wpAnyH_take (i := 53) (v := undef) rfl (by kernel_rfl) (by kernel_rfl) (by kernel_rfl) (fun _ _ _ h => h) (Or.inr ⟨by rfl, rfl⟩) hHeld ?_
      simp only [Act.put, pz0, pz1, pz2, pz3, pz4, pz5]
      refine wpAnyH_take (i := 54) (v := ?v149) rfl (by kernel_rfl) (by kernel_rfl) (by kernel_rfl) (fun _ _ _ h => h) (Or.inl ⟨by rfl, ?hy149⟩) hHeld ?rest149
      case hy149 => (intro w' hSw; (try dsimp only at hSw); first | (go_simp; done) | (go_simp; with_reducible rfl))
      simp only [Act.put, pz0, pz1, pz2, pz3, pz4, pz5]
      refine wpAnyH_take (i := 55) (v := ?v150) rfl (by kernel_rfl) (by kernel_rfl) (by kernel_rfl) (fun _ _ _ h => h) (Or.inl ⟨by rfl, ?hy150⟩) hHeld ?rest150
      case hy150 => (intro w' hSw; (try dsimp only at hSw); first | (go_simp; done) | (go_simp; with_reducible rfl))
      simp only [Act.put, pz0, pz1, pz2, pz3, pz4, pz5]
      refine wpAnyH_done (by kernel_rfl) ?_ _
      refine NoPanic.normal ?_
      clear hHeld
      go_wp2_with fail
      go_roundw
      case rel => exact ⟨k + 1, by omega, by go_num, HA, HU, hbd.trans (hb9.mono hbd.size)⟩
      case measure => simp [intOf]; omega
    obtain ⟨b3, o3, A3, n3, c3, -, e3, p0, p1, s3, -⟩ := EnR.at_ HSL.out (i := k - 1) (by omega)
    obtain ⟨rfl, rfl⟩ : b1 = b3 ∧ o1 = o3 := by simpa using e3
    obtain rfl : l[k - 1].key.length = n3 := s3.1
    have zk : decide ((0 : Int) < k) = true := decide_eq_true (by omega)
    have zk' : decide (0 < k) = true := decide_eq_true (by omega)
    have t0 : IntKind.i64.wrap ((k : Int) - 1) = (k : Int) - 1 := IntWalk.i64_in _ (by omega)
    have t1 : (0 : Int) ≤ (k : Int) - 1 := by omega
    have t1' : (1 : Int) ≤ k := by omega
    have t2 : (k : Int) - 1 < l.length := by omega
    have t3 : ((k : Int) - 1).toNat = k - 1 := by omega
    have E0 : wr.drew.cell? ⟨b1, o1 + (k - 1) * 2, none⟩ = some (.slice A3 l[k - 1].key.length c3) := p0
    have E1 : wr.drew.cell? ⟨b1, o1 + (k - 1) * 2 + 1, none⟩ = some (.int .i64 l[k - 1].id) := p1
    have DE := Lib.hid (show _ ∧ _ ∧ _ ∧ _ ∧ _ from ⟨D.out.1, D.out.2.1, D.out.2.2, E0, E1⟩)
    have HPREV := Lib.hid (show entryB l[k - 1] = true ∧ l[k - 1].key.length = wideOf l by
      have h1 := List.all_eq_true.1 hall.out l[k - 1] (by rw [List.mem_take_iff_getElem]; exact ⟨k - 1, by omega, rfl⟩)
      unfold entW at h1
      simpa using h1)
    have HCUR := Lib.hid (show entryB l[k] = true ∧ l[k].key.length = wideOf l by
      have h1 := List.all_eq_true.1 HA.out l[k] (by rw [List.mem_take_iff_getElem]; exact ⟨k, by omega, rfl⟩)
      unfold entW at h1
      simpa using h1)
    have HLE := Lib.hid (lessE_right HPREV.out.1 HCUR.out.1 (HPREV.out.2.trans HCUR.out.2.symm))
    have HSP := Lib.hid (Sl.below VlR.stays s3 (Below.refl _ _).drew)
    have HSC := Lib.hid (Sl.below VlR.stays HS1.out (Below.refl _ _).drew)
    have HN1 := Lib.hid (HK.out _ (List.getElem_mem (show k - 1 < l.length by omega)))
    have HN2 := Lib.hid (HK.out _ (List.getElem_mem hlt))
    have hun : ¬ ordE l[k - 1] l[k] < 0 → risesB l = false := by
      intro hn
      have e : k - 1 + 1 = k := by omega
      refine rises_no (i := k - 1) (by omega) ?_
      simpa only [e] using hn
    have HUN := Lib.hid hun
    clear hun
    have huy : ordE l[k - 1] l[k] < 0 → (List.range (k + 1 - 1)).all (upB l) = true := by
      intro hy
      have e : k + 1 - 1 = (k - 1) + 1 := by omega
      rw [e, range_all_succ, hup.out, upB_at (by omega)]
      have e2 : k - 1 + 1 = k := by omega
      simpa only [e2, Bool.true_and, decide_eq_true_eq] using hy
    have HUY := Lib.hid huy
    clear huy
    clear e3 p0 p1 s3 E0 E1 hk0
    cases hc : lessE l[k - 1] l[k]
    · have HC := Lib.hid hc
      have HF := Lib.hid (show entriesB l = false by unfold entriesB; rw [HUN.out (by rw [HLE.out] at hc; simpa using hc)]; simp)
      clear hc
      go_wp2_with fail
      refine wp_region_noPanic ?_
      refine wp_region_held_drew (S := fun w' => w'.cell? ⟨b1, o1 + k * 2, none⟩ = some (.slice A1 l[k].key.length c1) ∧ w'.cell? ⟨b1, o1 + k * 2 + 1, none⟩ = some (.int .i64 l[k].id) ∧ w'.cell? ⟨b1, o1, none⟩ = some (.slice A2 l[0].key.length c2) ∧ w'.cell? ⟨b1, o1 + (k - 1) * 2, none⟩ = some (.slice A3 l[k - 1].key.length c3) ∧ w'.cell? ⟨b1, o1 + (k - 1) * 2 + 1, none⟩ = some (.int .i64 l[k - 1].id)) (by kernel_rfl) DE.out (fun hHeld => ?_)
      refine wpAnyH_take (i := 0) (v := ?v151) rfl (by kernel_rfl) (by kernel_rfl) (by kernel_rfl) (fun _ _ _ h => h) (Or.inl ⟨by rfl, ?hy151⟩) hHeld ?rest151
      case hy151 => (intro w' hSw; (try dsimp only at hSw); first | (go_simp; done) | (go_simp; with_reducible rfl))
      simp only [Act.put, pz0, pz1, pz2, pz3, pz4, pz5]
      refine wpAnyH_take (i := 1) (v := ?v152) rfl (by kernel_rfl) (by kernel_rfl) (by kernel_rfl) (fun _ _ _ h => h) (Or.inl ⟨by rfl, ?hy152⟩) hHeld ?rest152
      case hy152 => (intro w' hSw; (try dsimp only at hSw); first | (go_simp; done) | (go_simp; with_reducible rfl))
      simp only [Act.put, pz0, pz1, pz2, pz3, pz4, pz5]
      refine wpAnyH_take (i := 2) (v := ?v153) rfl (by kernel_rfl) (by kernel_rfl) (by kernel_rfl) (fun _ _ _ h => h) (Or.inl ⟨by rfl, ?hy153⟩) hHeld ?rest153
      case hy153 => (intro w' hSw; (try dsimp only at hSw); first | (go_simp; done) | (go_simp; with_reducible rfl))
      simp only [Act.put, pz0, pz1, pz2, pz3, pz4, pz5]
      refine wpAnyH_take (i := 3) (v := ?v154) rfl (by kernel_rfl) (by kernel_rfl) (by kernel_rfl) (fun _ _ _ h => h) (Or.inl ⟨by rfl, ?hy154⟩) hHeld ?rest154
      case hy154 => (intro w' hSw; (try dsimp only at hSw); first | (go_simp; done) | (go_simp; with_reducible rfl))
      simp only [Act.put, pz0, pz1, pz2, pz3, pz4, pz5]
      refine wpAnyH_take (i := 4) (v := ?v155) rfl (by kernel_rfl) (by kernel_rfl) (by kernel_rfl) (fun _ _ _ h => h) (Or.inl ⟨by rfl, ?hy155⟩) hHeld ?rest155
      case hy155 => (intro w' hSw; (try dsimp only at hSw); first | (go_simp; done) | (go_simp; with_reducible rfl))
      simp only [Act.put, pz0, pz1, pz2, pz3, pz4, pz5]
      refine wpAnyH_ready (rs := [5]) (by kernel_rfl) (by simp) ?_
      refine AllReadyH.cons rfl (fun K hK => ?_) AllReadyH.nil
      go_simp
      refine HX.out.mono ?_
      rintro e w9 ⟨rfl, hb9⟩
      rw [HR.out]
      go_wp2_with fail
      refine hK.out _ _ (keepC5 hHeld hb9) (fun hHeld => ?_)
      clear hK K
      (try simp only [Act.put, pz0, pz1, pz2, pz3, pz4, pz5])
      refine wpAnyH_take (i := 6) (v := ?v156) rfl (by kernel_rfl) (by kernel_rfl) (by kernel_rfl) (fun _ _ _ h => h) (Or.inl ⟨by rfl, ?hy156⟩) hHeld ?rest156
      case hy156 => (intro w' hSw; (try dsimp only at hSw); first | (go_simp; done) | (go_simp; with_reducible rfl))
      simp only [Act.put, pz0, pz1, pz2, pz3, pz4, pz5]
      refine wpAnyH_take (i := 7) (v := ?v157) rfl (by kernel_rfl) (by kernel_rfl) (by kernel_rfl) (fun _ _ _ h => h) (Or.inl ⟨by rfl, ?hy157⟩) hHeld ?rest157
      case hy157 => (intro w' hSw; (try dsimp only at hSw); first | (go_simp; done) | (go_simp; with_reducible rfl))
      simp only [Act.put, pz0, pz1, pz2, pz3, pz4, pz5]
      refine wpAnyH_take (i := 8) (v := ?v158) rfl (by kernel_rfl) (by kernel_rfl) (by kernel_rfl) (fun _ _ _ h => h) (Or.inl ⟨by rfl, ?hy158⟩) hHeld ?rest158
      case hy158 => (intro w' hSw; (try dsimp only at hSw); first | (go_simp; done) | (go_simp; with_reducible rfl))
      simp only [Act.put, pz0, pz1, pz2, pz3, pz4, pz5]
      refine wpAnyH_take (i := 9) (v := ?v159) rfl (by kernel_rfl) (by kernel_rfl) (by kernel_rfl) (fun _ _ _ h => h) (Or.inl ⟨by rfl, ?hy159⟩) hHeld ?rest159
      case hy159 => (intro w' hSw; (try dsimp only at hSw); first | (go_simp; done) | (go_simp; with_reducible rfl))
      simp only [Act.put, pz0, pz1, pz2, pz3, pz4, pz5]
      refine wpAnyH_take (i := 10) (v := ?v160) rfl (by kernel_rfl) (by kernel_rfl) (by kernel_rfl) (fun _ _ _ h => h) (Or.inl ⟨by rfl, ?hy160⟩) hHeld ?rest160
      case hy160 => (intro w' hSw; (try dsimp only at hSw); first | (go_simp; done) | (go_simp; with_reducible rfl))
      simp only [Act.put, pz0, pz1, pz2, pz3, pz4, pz5]
      refine wpAnyH_take (i := 11) (v := ?v161) rfl (by kernel_rfl) (by kernel_rfl) (by kernel_rfl) (fun _ _ _ h => h) (Or.inl ⟨by rfl, ?hy161⟩) hHeld ?rest161
      case hy161 => (intro w' hSw; (try dsimp only at hSw); first | (go_simp; done) | (go_simp; with_reducible rfl))
      simp only [Act.put, pz0, pz1, pz2, pz3, pz4, pz5]
      refine wpAnyH_take (i := 12) (v := ?v162) rfl (by kernel_rfl) (by kernel_rfl) (by kernel_rfl) (fun _ _ _ h => h) (Or.inl ⟨by rfl, ?hy162⟩) hHeld ?rest162
      case hy162 => (intro w' hSw; (try dsimp only at hSw); first | (go_simp; done) | (go_simp; with_reducible rfl))
      simp only [Act.put, pz0, pz1, pz2, pz3, pz4, pz5]
      refine wpAnyH_take (i := 13) (v := ?v163) rfl (by kernel_rfl) (by kernel_rfl) (by kernel_rfl) (fun _ _ _ h => h) (Or.inl ⟨by rfl, ?hy163⟩) hHeld ?rest163
      case hy163 => (intro w' hSw; (try dsimp only at hSw); first | (go_simp; done) | (go_simp; with_reducible rfl))
      simp only [Act.put, pz0, pz1, pz2, pz3, pz4, pz5]
      refine wpAnyH_take (i := 14) (v := ?v164) rfl (by kernel_rfl) (by kernel_rfl) (by kernel_rfl) (fun _ _ _ h => h) (Or.inl ⟨by rfl, ?hy164⟩) hHeld ?rest164
      case hy164 => (intro w' hSw; (try dsimp only at hSw); first | (go_simp; done) | (go_simp; with_reducible rfl))
      simp only [Act.put, pz0, pz1, pz2, pz3, pz4, pz5]
      refine wpAnyH_take (i := 15) (v := ?v165) rfl (by kernel_rfl) (by kernel_rfl) (by kernel_rfl) (fun _ _ _ h => h) (Or.inl ⟨by rfl, ?hy165⟩) hHeld ?rest165
      case hy165 => (intro w' hSw; (try dsimp only at hSw); first | (go_simp; done) | (go_simp; with_reducible rfl))
      simp only [Act.put, pz0, pz1, pz2, pz3, pz4, pz5]
      refine wpAnyH_take (i := 16) (v := ?v166) rfl (by kernel_rfl) (by kernel_rfl) (by kernel_rfl) (fun _ _ _ h => h) (Or.inl ⟨by rfl, ?hy166⟩) hHeld ?rest166
      case hy166 => (intro w' hSw; (try dsimp only at hSw); first | (go_simp; done) | (go_simp; with_reducible rfl))
      simp only [Act.put, pz0, pz1, pz2, pz3, pz4, pz5]
      refine wpAnyH_take (i := 17) (v := ?v167) rfl (by kernel_rfl) (by kernel_rfl) (by kernel_rfl) (fun _ _ _ h => h) (Or.inl ⟨by rfl, ?hy167⟩) hHeld ?rest167
      case hy167 => (intro w' hSw; (try dsimp only at hSw); first | (go_simp; done) | (go_simp; with_reducible rfl))
      simp only [Act.put, pz0, pz1, pz2, pz3, pz4, pz5]
      refine wpAnyH_take (i := 18) (v := ?v168) rfl (by kernel_rfl) (by kernel_rfl) (by kernel_rfl) (fun _ _ _ h => h) (Or.inl ⟨by rfl, ?hy168⟩) hHeld ?rest168
      case hy168 => (intro w' hSw; (try dsimp only at hSw); first | (go_simp; done) | (go_simp; with_reducible rfl))
      simp only [Act.put, pz0, pz1, pz2, pz3, pz4, pz5]
      refine wpAnyH_take (i := 19) (v := ?v169) rfl (by kernel_rfl) (by kernel_rfl) (by kernel_rfl) (fun _ _ _ h => h) (Or.inl ⟨by rfl, ?hy169⟩) hHeld ?rest169
      case hy169 => (intro w' hSw; (try dsimp only at hSw); first | (go_simp; done) | (go_simp; with_reducible rfl))
      simp only [Act.put, pz0, pz1, pz2, pz3, pz4, pz5]
      refine wpAnyH_take (i := 20) (v := ?v170) rfl (by kernel_rfl) (by kernel_rfl) (by kernel_rfl) (fun _ _ _ h => h) (Or.inl ⟨by rfl, ?hy170⟩) hHeld ?rest170
      case hy170 => (intro w' hSw; (try dsimp only at hSw); first | (go_simp; done) | (go_simp; with_reducible rfl))
      simp only [Act.put, pz0, pz1, pz2, pz3, pz4, pz5]
      refine wpAnyH_take (i := 21) (v := ?v171) rfl (by kernel_rfl) (by kernel_rfl) (by kernel_rfl) (fun _ _ _ h => h) (Or.inl ⟨by rfl, ?hy171⟩) hHeld ?rest171
      case hy171 => (intro w' hSw; (try dsimp only at hSw); first | (go_simp; done) | (go_simp; with_reducible rfl))
      simp only [Act.put, pz0, pz1, pz2, pz3, pz4, pz5]
      refine wpAnyH_take (i := 22) (v := ?v172) rfl (by kernel_rfl) (by kernel_rfl) (by kernel_rfl) (fun _ _ _ h => h) (Or.inl ⟨by rfl, ?hy172⟩) hHeld ?rest172
      case hy172 => (intro w' hSw; (try dsimp only at hSw); first | (go_simp; done) | (go_simp; with_reducible rfl))
      simp only [Act.put, pz0, pz1, pz2, pz3, pz4, pz5]
      refine wpAnyH_take (i := 23) (v := ?v173) rfl (by kernel_rfl) (by kernel_rfl) (by kernel_rfl) (fun _ _ _ h => h) (Or.inl ⟨by rfl, ?hy173⟩) hHeld ?rest173
      case hy173 => (intro w' hSw; (try dsimp only at hSw); first | (go_simp; done) | (go_simp; with_reducible rfl))
      simp only [Act.put, pz0, pz1, pz2, pz3, pz4, pz5]
      refine wpAnyH_take (i := 24) (v := ?v174) rfl (by kernel_rfl) (by kernel_rfl) (by kernel_rfl) (fun _ _ _ h => h) (Or.inl ⟨by rfl, ?hy174⟩) hHeld ?rest174
      case hy174 => (intro w' hSw; (try dsimp only at hSw); first | (go_simp; done) | (go_simp; with_reducible rfl))
      simp only [Act.put, pz0, pz1, pz2, pz3, pz4, pz5]
      refine wpAnyH_take (i := 25) (v := ?v175) rfl (by kernel_rfl) (by kernel_rfl) (by kernel_rfl) (fun _ _ _ h => h) (Or.inl ⟨by rfl, ?hy175⟩) hHeld ?rest175
      case hy175 => (intro w' hSw; (try dsimp only at hSw); first | (go_simp; done) | (go_simp; with_reducible rfl))
      simp only [Act.put, pz0, pz1, pz2, pz3, pz4, pz5]
      refine wpAnyH_take (i := 26) (v := ?v176) rfl (by kernel_rfl) (by kernel_rfl) (by kernel_rfl) (fun _ _ _ h => h) (Or.inl ⟨by rfl, ?hy176⟩) hHeld ?rest176
      case hy176 => (intro w' hSw; (try dsimp only at hSw); first | (go_simp; done) | (go_simp; with_reducible rfl))
      simp only [Act.put, pz0, pz1, pz2, pz3, pz4, pz5]
      refine wpAnyH_take (i := 27) (v := ?v177) rfl (by kernel_rfl) (by kernel_rfl) (by kernel_rfl) (fun _ _ _ h => h) (Or.inl ⟨by rfl, ?hy177⟩) hHeld ?rest177
      case hy177 => (intro w' hSw; (try dsimp only at hSw); first | (go_simp; done) | (go_simp; with_reducible rfl))
      simp only [Act.put, pz0, pz1, pz2, pz3, pz4, pz5]
      refine wpAnyH_take (i := 28) (v := ?v178) rfl (by kernel_rfl) (by kernel_rfl) (by kernel_rfl) (fun _ _ _ h => h) (Or.inl ⟨by rfl, ?hy178⟩) hHeld ?rest178
      case hy178 => (intro w' hSw; (try dsimp only at hSw); first | (go_simp; done) | (go_simp; with_reducible rfl))
      simp only [Act.put, pz0, pz1, pz2, pz3, pz4, pz5]
      refine wpAnyH_take (i := 29) (v := ?v179) rfl (by kernel_rfl) (by kernel_rfl) (by kernel_rfl) (fun _ _ _ h => h) (Or.inl ⟨by rfl, ?hy179⟩) hHeld ?rest179
      case hy179 => (intro w' hSw; (try dsimp only at hSw); first | (go_simp; done) | (go_simp; with_reducible rfl))
      simp only [Act.put, pz0, pz1, pz2, pz3, pz4, pz5]
      refine wpAnyH_take (i := 30) (v := ?v180) rfl (by kernel_rfl) (by kernel_rfl) (by kernel_rfl) (fun _ _ _ h => h) (Or.inl ⟨by rfl, ?hy180⟩) hHeld ?rest180
      case hy180 => (intro w' hSw; (try dsimp only at hSw); first | (go_simp; done) | (go_simp; with_reducible rfl))
      simp only [Act.put, pz0, pz1, pz2, pz3, pz4, pz5]
      refine wpAnyH_take (i := 31) (v := ?v181) rfl (by kernel_rfl) (by kernel_rfl) (by kernel_rfl) (fun _ _ _ h => h) (Or.inl ⟨by rfl, ?hy181⟩) hHeld ?rest181
      case hy181 => (intro w' hSw; (try dsimp only at hSw); first | (go_simp; done) | (go_simp; with_reducible rfl))
      simp only [Act.put, pz0, pz1, pz2, pz3, pz4, pz5]
      refine wpAnyH_take (i := 32) (v := ?v182) rfl (by kernel_rfl) (by kernel_rfl) (by kernel_rfl) (fun _ _ _ h => h) (Or.inl ⟨by rfl, ?hy182⟩) hHeld ?rest182
      case hy182 => (intro w' hSw; (try dsimp only at hSw); first | (go_simp; done) | (go_simp; with_reducible rfl))
      simp only [Act.put, pz0, pz1, pz2, pz3, pz4, pz5]
      refine wpAnyH_take (i := 33) (v := ?v183) rfl (by kernel_rfl) (by kernel_rfl) (by kernel_rfl) (fun _ _ _ h => h) (Or.inl ⟨by rfl, ?hy183⟩) hHeld ?rest183
      case hy183 => (intro w' hSw; (try dsimp only at hSw); first | (go_simp; done) | (go_simp; with_reducible rfl))
      simp only [Act.put, pz0, pz1, pz2, pz3, pz4, pz5]
      refine wpAnyH_take (i := 34) (v := ?v184) rfl (by kernel_rfl) (by kernel_rfl) (by kernel_rfl) (fun _ _ _ h => h) (Or.inl ⟨by rfl, ?hy184⟩) hHeld ?rest184
      case hy184 => (intro w' hSw; (try dsimp only at hSw); first | (go_simp; done) | (go_simp; with_reducible rfl))
      simp only [Act.put, pz0, pz1, pz2, pz3, pz4, pz5]
      refine wpAnyH_take (i := 35) (v := ?v185) rfl (by kernel_rfl) (by kernel_rfl) (by kernel_rfl) (fun _ _ _ h => h) (Or.inl ⟨by rfl, ?hy185⟩) hHeld ?rest185
      case hy185 => (intro w' hSw; (try dsimp only at hSw); first | (go_simp; done) | (go_simp; with_reducible rfl))
      simp only [Act.put, pz0, pz1, pz2, pz3, pz4, pz5]
      refine wpAnyH_ready (rs := [36]) (by kernel_rfl) (by simp) ?_
      refine AllReadyH.cons rfl (fun K hK => ?_) AllReadyH.nil
      go_simp
      refine (specInV HI.out _).mono ?_
      rintro e w8 ⟨rfl, rfl⟩
      go_wp2_with fail
      refine hK.out _ _ hHeld (fun hHeld => ?_)
      clear hK K
      (try simp only [Act.put, pz0, pz1, pz2, pz3, pz4, pz5])
      refine wpAnyH_take (i := 37) (v := ?v186) rfl (by kernel_rfl) (by kernel_rfl) (by kernel_rfl) (fun _ _ _ h => h) (Or.inl ⟨by rfl, ?hy186⟩) hHeld ?rest186
      case hy186 => (intro w' hSw; (try dsimp only at hSw); first | (go_simp; done) | (go_simp; with_reducible rfl))
      simp only [Act.put, pz0, pz1, pz2, pz3, pz4, pz5]
      refine wpAnyH_take (i := 38) (v := ?v187) rfl (by kernel_rfl) (by kernel_rfl) (by kernel_rfl) (fun _ _ _ h => h) (Or.inl ⟨by rfl, ?hy187⟩) hHeld ?rest187
      case hy187 => (intro w' hSw; (try dsimp only at hSw); first | (go_simp; done) | (go_simp; with_reducible rfl))
      simp only [Act.put, pz0, pz1, pz2, pz3, pz4, pz5]
      refine wpAnyH_take (i := 39) (v := ?v188) rfl (by kernel_rfl) (by kernel_rfl) (by kernel_rfl) (fun _ _ _ h => h) (Or.inl ⟨by rfl, ?hy188⟩) hHeld ?rest188
      case hy188 => (intro w' hSw; (try dsimp only at hSw); first | (go_simp; done) | (go_simp; with_reducible rfl))
      simp only [Act.put, pz0, pz1, pz2, pz3, pz4, pz5]
      refine wpAnyH_take (i := 40) (v := ?v189) rfl (by kernel_rfl) (by kernel_rfl) (by kernel_rfl) (fun _ _ _ h => h) (Or.inl ⟨by rfl, ?hy189⟩) hHeld ?rest189
      case hy189 => (intro w' hSw; (try dsimp only at hSw); first | (go_simp; done) | (go_simp; with_reducible rfl))
      simp only [Act.put, pz0, pz1, pz2, pz3, pz4, pz5]
      refine wpAnyH_take (i := 41) (v := ?v190) rfl (by kernel_rfl) (by kernel_rfl) (by kernel_rfl) (fun _ _ _ h => h) (Or.inl ⟨by rfl, ?hy190⟩) hHeld ?rest190
      case hy190 => (intro w' hSw; (try dsimp only at hSw); first | (go_simp; done) | (go_simp; with_reducible rfl))
      simp only [Act.put, pz0, pz1, pz2, pz3, pz4, pz5]
      refine wpAnyH_take (i := 42) (v := ?v191) rfl (by kernel_rfl) (by kernel_rfl) (by kernel_rfl) (fun _ _ _ h => h) (Or.inl ⟨by rfl, ?hy191⟩) hHeld ?rest191
      case hy191 => (intro w' hSw; (try dsimp only at hSw); first | (go_simp; done) | (go_simp; with_reducible rfl))
      simp only [Act.put, pz0, pz1, pz2, pz3, pz4, pz5]
      refine wpAnyH_take (i := 43) (v := ?v192) rfl (by kernel_rfl) (by kernel_rfl) (by kernel_rfl) (fun _ _ _ h => h) (Or.inl ⟨by rfl, ?hy192⟩) hHeld ?rest192
      case hy192 => (intro w' hSw; (try dsimp only at hSw); first | (go_simp; done) | (go_simp; with_reducible rfl))
      simp only [Act.put, pz0, pz1, pz2, pz3, pz4, pz5]
      refine wpAnyH_take (i := 44) (v := ?v193) rfl (by kernel_rfl) (by kernel_rfl) (by kernel_rfl) (fun _ _ _ h => h) (Or.inl ⟨by rfl, ?hy193⟩) hHeld ?rest193
      case hy193 => (intro w' hSw; (try dsimp only at hSw); first | (go_simp; done) | (go_simp; with_reducible rfl))
      simp only [Act.put, pz0, pz1, pz2, pz3, pz4, pz5]
      refine wpAnyH_take (i := 45) (v := ?v194) rfl (by kernel_rfl) (by kernel_rfl) (by kernel_rfl) (fun _ _ _ h => h) (Or.inl ⟨by rfl, ?hy194⟩) hHeld ?rest194
      case hy194 => (intro w' hSw; (try dsimp only at hSw); first | (go_simp; done) | (go_simp; with_reducible rfl))
      simp only [Act.put, pz0, pz1, pz2, pz3, pz4, pz5]
      refine wpAnyH_take (i := 46) (v := ?v195) rfl (by kernel_rfl) (by kernel_rfl) (by kernel_rfl) (fun _ _ _ h => h) (Or.inl ⟨by rfl, ?hy195⟩) hHeld ?rest195
      case hy195 => (intro w' hSw; (try dsimp only at hSw); first | (go_simp; done) | (go_simp; with_reducible rfl))
      simp only [Act.put, pz0, pz1, pz2, pz3, pz4, pz5]
      refine wpAnyH_take (i := 47) (v := ?v196) rfl (by kernel_rfl) (by kernel_rfl) (by kernel_rfl) (fun _ _ _ h => h) (Or.inl ⟨by rfl, ?hy196⟩) hHeld ?rest196
      case hy196 => (intro w' hSw; (try dsimp only at hSw); first | (go_simp; done) | (go_simp; with_reducible rfl))
      simp only [Act.put, pz0, pz1, pz2, pz3, pz4, pz5]
      refine wpAnyH_take (i := 48) (v := ?v197) rfl (by kernel_rfl) (by kernel_rfl) (by kernel_rfl) (fun _ _ _ h => h) (Or.inl ⟨by rfl, ?hy197⟩) hHeld ?rest197
      case hy197 => (intro w' hSw; (try dsimp only at hSw); first | (go_simp; done) | (go_simp; with_reducible rfl))
      simp only [Act.put, pz0, pz1, pz2, pz3, pz4, pz5]
      refine wpAnyH_take (i := 49) (v := ?v198) rfl (by kernel_rfl) (by kernel_rfl) (by kernel_rfl) (fun _ _ _ h => h) (Or.inl ⟨by rfl, ?hy198⟩) hHeld ?rest198
      case hy198 => (intro w' hSw; (try dsimp only at hSw); first | (go_simp; done) | (go_simp; with_reducible rfl))
      simp only [Act.put, pz0, pz1, pz2, pz3, pz4, pz5]
      refine wpAnyH_take (i := 50) (v := ?v199) rfl (by kernel_rfl) (by kernel_rfl) (by kernel_rfl) (fun _ _ _ h => h) (Or.inl ⟨by rfl, ?hy199⟩) hHeld ?rest199
      case hy199 => (intro w' hSw; (try dsimp only at hSw); first | (go_simp; done) | (go_simp; with_reducible rfl))
      simp only [Act.put, pz0, pz1, pz2, pz3, pz4, pz5]
      refine wpAnyH_take (i := 51) (v := ?v200) rfl (by kernel_rfl) (by kernel_rfl) (by kernel_rfl) (fun _ _ _ h => h) (Or.inl ⟨by rfl, ?hy200⟩) hHeld ?rest200
      case hy200 => (intro w' hSw; (try dsimp only at hSw); first | (go_simp; done) | (go_simp; with_reducible rfl))
      simp only [Act.put, pz0, pz1, pz2, pz3, pz4, pz5]
      refine wpAnyH_ready (rs := [52]) (by kernel_rfl) (by simp) ?_
      refine AllReadyH.cons rfl (fun K hK => ?_) AllReadyH.nil
      go_simp
      refine (specL11Less l[k - 1] l[k] A3 A1 l[k - 1].key.length c3 l[k].key.length c1 _ _ _ (HSP.out.below VlR.stays hb9) (HSC.out.below VlR.stays hb9) HN1.out HN2.out).mono ?_
      rintro e w7 ⟨rfl, hb7⟩
      rw [HC.out]
      go_wp2_with fail
      refine hK.out _ _ (keepC5 hHeld hb7) (fun hHeld => ?_)
      clear hK K
      (try simp only [Act.put, pz0, pz1, pz2, pz3, pz4, pz5])
      refine wpAnyH_take (i := 53) (v := ?v201) rfl (by kernel_rfl) (by kernel_rfl) (by kernel_rfl) (fun _ _ _ h => h) (Or.inl ⟨by rfl, ?hy201⟩) hHeld ?rest201
      case hy201 => (intro w' hSw; (try dsimp only at hSw); first | (go_simp; done) | (go_simp; with_reducible rfl))
      simp only [Act.put, pz0, pz1, pz2, pz3, pz4, pz5]
      refine wpAnyH_take (i := 54) (v := ?v202) rfl (by kernel_rfl) (by kernel_rfl) (by kernel_rfl) (fun _ _ _ h => h) (Or.inl ⟨by rfl, ?hy202⟩) hHeld ?rest202
      case hy202 => (intro w' hSw; (try dsimp only at hSw); first | (go_simp; done) | (go_simp; with_reducible rfl))
      simp only [Act.put, pz0, pz1, pz2, pz3, pz4, pz5]
      refine wpAnyH_take (i := 55) (v := ?v203) rfl (by kernel_rfl) (by kernel_rfl) (by kernel_rfl) (fun _ _ _ h => h) (Or.inl ⟨by rfl, ?hy203⟩) hHeld ?rest203
      case hy203 => (intro w' hSw; (try dsimp only at hSw); first | (go_simp; done) | (go_simp; with_reducible rfl))
      simp only [Act.put, pz0, pz1, pz2, pz3, pz4, pz5]
      refine wpAnyH_done (by kernel_rfl) ?_ _
      refine NoPanic.normal ?_
      clear hHeld
      go_wp2_with fail
      go_ret
      exact ⟨retB HF.out.symm, (hbd.trans (hb9.mono hbd.size)).trans (hb7.mono (hbd.trans (hb9.mono hbd.size)).size)⟩
    · have HC := Lib.hid hc
      have HU := Lib.hid (HUY.out (by rw [HLE.out] at hc; simpa using hc))
      clear hc
      go_wp2_with fail
      refine wp_region_noPanic ?_
      refine wp_region_held_drew (S := fun w' => w'.cell? ⟨b1, o1 + k * 2, none⟩ = some (.slice A1 l[k].key.length c1) ∧ w'.cell? ⟨b1, o1 + k * 2 + 1, none⟩ = some (.int .i64 l[k].id) ∧ w'.cell? ⟨b1, o1, none⟩ = some (.slice A2 l[0].key.length c2) ∧ w'.cell? ⟨b1, o1 + (k - 1) * 2, none⟩ = some (.slice A3 l[k - 1].key.length c3) ∧ w'.cell? ⟨b1, o1 + (k - 1) * 2 + 1, none⟩ = some (.int .i64 l[k - 1].id)) (by kernel_rfl) DE.out (fun hHeld => ?_)
      refine wpAnyH_take (i := 0) (v := ?v204) rfl (by kernel_rfl) (by kernel_rfl) (by kernel_rfl) (fun _ _ _ h => h) (Or.inl ⟨by rfl, ?hy204⟩) hHeld ?rest204
      case hy204 => (intro w' hSw; (try dsimp only at hSw); first | (go_simp; done) | (go_simp; with_reducible rfl))
      simp only [Act.put, pz0, pz1, pz2, pz3, pz4, pz5]
      refine wpAnyH_take (i := 1) (v := ?v205) rfl (by kernel_rfl) (by kernel_rfl) (by kernel_rfl) (fun _ _ _ h => h) (Or.inl ⟨by rfl, ?hy205⟩) hHeld ?rest205
      case hy205 => (intro w' hSw; (try dsimp only at hSw); first | (go_simp; done) | (go_simp; with_reducible rfl))
      simp only [Act.put, pz0, pz1, pz2, pz3, pz4, pz5]
      refine wpAnyH_take (i := 2) (v := ?v206) rfl (by kernel_rfl) (by kernel_rfl) (by kernel_rfl) (fun _ _ _ h => h) (Or.inl ⟨by rfl, ?hy206⟩) hHeld ?rest206
      case hy206 => (intro w' hSw; (try dsimp only at hSw); first | (go_simp; done) | (go_simp; with_reducible rfl))
      simp only [Act.put, pz0, pz1, pz2, pz3, pz4, pz5]
      refine wpAnyH_take (i := 3) (v := ?v207) rfl (by kernel_rfl) (by kernel_rfl) (by kernel_rfl) (fun _ _ _ h => h) (Or.inl ⟨by rfl, ?hy207⟩) hHeld ?rest207
      case hy207 => (intro w' hSw; (try dsimp only at hSw); first | (go_simp; done) | (go_simp; with_reducible rfl))
      simp only [Act.put, pz0, pz1, pz2, pz3, pz4, pz5]
      refine wpAnyH_take (i := 4) (v := ?v208) rfl (by kernel_rfl) (by kernel_rfl) (by kernel_rfl) (fun _ _ _ h => h) (Or.inl ⟨by rfl, ?hy208⟩) hHeld ?rest208
      case hy208 => (intro w' hSw; (try dsimp only at hSw); first | (go_simp; done) | (go_simp; with_reducible rfl))
      simp only [Act.put, pz0, pz1, pz2, pz3, pz4, pz5]
      refine wpAnyH_ready (rs := [5]) (by kernel_rfl) (by simp) ?_
      refine AllReadyH.cons rfl (fun K hK => ?_) AllReadyH.nil
      go_simp
      refine HX.out.mono ?_
      rintro e w9 ⟨rfl, hb9⟩
      rw [HR.out]
      go_wp2_with fail
      refine hK.out _ _ (keepC5 hHeld hb9) (fun hHeld => ?_)
      clear hK K
      (try simp only [Act.put, pz0, pz1, pz2, pz3, pz4, pz5])
      refine wpAnyH_take (i := 6) (v := ?v209) rfl (by kernel_rfl) (by kernel_rfl) (by kernel_rfl) (fun _ _ _ h => h) (Or.inl ⟨by rfl, ?hy209⟩) hHeld ?rest209
      case hy209 => (intro w' hSw; (try dsimp only at hSw); first | (go_simp; done) | (go_simp; with_reducible rfl))
      simp only [Act.put, pz0, pz1, pz2, pz3, pz4, pz5]
      refine wpAnyH_take (i := 7) (v := ?v210) rfl (by kernel_rfl) (by kernel_rfl) (by kernel_rfl) (fun _ _ _ h => h) (Or.inl ⟨by rfl, ?hy210⟩) hHeld ?rest210
      case hy210 => (intro w' hSw; (try dsimp only at hSw); first | (go_simp; done) | (go_simp; with_reducible rfl))
      simp only [Act.put, pz0, pz1, pz2, pz3, pz4, pz5]
      refine wpAnyH_take (i := 8) (v := ?v211) rfl (by kernel_rfl) (by kernel_rfl) (by kernel_rfl) (fun _ _ _ h => h) (Or.inl ⟨by rfl, ?hy211⟩) hHeld ?rest211
      case hy211 => (intro w' hSw; (try dsimp only at hSw); first | (go_simp; done) | (go_simp; with_reducible rfl))
      simp only [Act.put, pz0, pz1, pz2, pz3, pz4, pz5]
      refine wpAnyH_take (i := 9) (v := ?v212) rfl (by kernel_rfl) (by kernel_rfl) (by kernel_rfl) (fun _ _ _ h => h) (Or.inl ⟨by rfl, ?hy212⟩) hHeld ?rest212
      case hy212 => (intro w' hSw; (try dsimp only at hSw); first | (go_simp; done) | (go_simp; with_reducible rfl))
      simp only [Act.put, pz0, pz1, pz2, pz3, pz4, pz5]
      refine wpAnyH_take (i := 10) (v := ?v213) rfl (by kernel_rfl) (by kernel_rfl) (by kernel_rfl) (fun _ _ _ h => h) (Or.inl ⟨by rfl, ?hy213⟩) hHeld ?rest213
      case hy213 => (intro w' hSw; (try dsimp only at hSw); first | (go_simp; done) | (go_simp; with_reducible rfl))
      simp only [Act.put, pz0, pz1, pz2, pz3, pz4, pz5]
      refine wpAnyH_take (i := 11) (v := ?v214) rfl (by kernel_rfl) (by kernel_rfl) (by kernel_rfl) (fun _ _ _ h => h) (Or.inl ⟨by rfl, ?hy214⟩) hHeld ?rest214
      case hy214 => (intro w' hSw; (try dsimp only at hSw); first | (go_simp; done) | (go_simp; with_reducible rfl))
      simp only [Act.put, pz0, pz1, pz2, pz3, pz4, pz5]
      refine wpAnyH_take (i := 12) (v := ?v215) rfl (by kernel_rfl) (by kernel_rfl) (by kernel_rfl) (fun _ _ _ h => h) (Or.inl ⟨by rfl, ?hy215⟩) hHeld ?rest215
      case hy215 => (intro w' hSw; (try dsimp only at hSw); first | (go_simp; done) | (go_simp; with_reducible rfl))
      simp only [Act.put, pz0, pz1, pz2, pz3, pz4, pz5]
      refine wpAnyH_take (i := 13) (v := ?v216) rfl (by kernel_rfl) (by kernel_rfl) (by kernel_rfl) (fun _ _ _ h => h) (Or.inl ⟨by rfl, ?hy216⟩) hHeld ?rest216
      case hy216 => (intro w' hSw; (try dsimp only at hSw); first | (go_simp; done) | (go_simp; with_reducible rfl))
      simp only [Act.put, pz0, pz1, pz2, pz3, pz4, pz5]
      refine wpAnyH_take (i := 14) (v := ?v217) rfl (by kernel_rfl) (by kernel_rfl) (by kernel_rfl) (fun _ _ _ h => h) (Or.inl ⟨by rfl, ?hy217⟩) hHeld ?rest217
      case hy217 => (intro w' hSw; (try dsimp only at hSw); first | (go_simp; done) | (go_simp; with_reducible rfl))
      simp only [Act.put, pz0, pz1, pz2, pz3, pz4, pz5]
      refine wpAnyH_take (i := 15) (v := ?v218) rfl (by kernel_rfl) (by kernel_rfl) (by kernel_rfl) (fun _ _ _ h => h) (Or.inl ⟨by rfl, ?hy218⟩) hHeld ?rest218
      case hy218 => (intro w' hSw; (try dsimp only at hSw); first | (go_simp; done) | (go_simp; with_reducible rfl))
      simp only [Act.put, pz0, pz1, pz2, pz3, pz4, pz5]
      refine wpAnyH_take (i := 16) (v := ?v219) rfl (by kernel_rfl) (by kernel_rfl) (by kernel_rfl) (fun _ _ _ h => h) (Or.inl ⟨by rfl, ?hy219⟩) hHeld ?rest219
      case hy219 => (intro w' hSw; (try dsimp only at hSw); first | (go_simp; done) | (go_simp; with_reducible rfl))
      simp only [Act.put, pz0, pz1, pz2, pz3, pz4, pz5]
      refine wpAnyH_take (i := 17) (v := ?v220) rfl (by kernel_rfl) (by kernel_rfl) (by kernel_rfl) (fun _ _ _ h => h) (Or.inl ⟨by rfl, ?hy220⟩) hHeld ?rest220
      case hy220 => (intro w' hSw; (try dsimp only at hSw); first | (go_simp; done) | (go_simp; with_reducible rfl))
      simp only [Act.put, pz0, pz1, pz2, pz3, pz4, pz5]
      refine wpAnyH_take (i := 18) (v := ?v221) rfl (by kernel_rfl) (by kernel_rfl) (by kernel_rfl) (fun _ _ _ h => h) (Or.inl ⟨by rfl, ?hy221⟩) hHeld ?rest221
      case hy221 => (intro w' hSw; (try dsimp only at hSw); first | (go_simp; done) | (go_simp; with_reducible rfl))
      simp only [Act.put, pz0, pz1, pz2, pz3, pz4, pz5]
      refine wpAnyH_take (i := 19) (v := ?v222) rfl (by kernel_rfl) (by kernel_rfl) (by kernel_rfl) (fun _ _ _ h => h) (Or.inl ⟨by rfl, ?hy222⟩) hHeld ?rest222
      case hy222 => (intro w' hSw; (try dsimp only at hSw); first | (go_simp; done) | (go_simp; with_reducible rfl))
      simp only [Act.put, pz0, pz1, pz2, pz3, pz4, pz5]
      refine wpAnyH_take (i := 20) (v := ?v223) rfl (by kernel_rfl) (by kernel_rfl) (by kernel_rfl) (fun _ _ _ h => h) (Or.inl ⟨by rfl, ?hy223⟩) hHeld ?rest223
      case hy223 => (intro w' hSw; (try dsimp only at hSw); first | (go_simp; done) | (go_simp; with_reducible rfl))
      simp only [Act.put, pz0, pz1, pz2, pz3, pz4, pz5]
      refine wpAnyH_take (i := 21) (v := ?v224) rfl (by kernel_rfl) (by kernel_rfl) (by kernel_rfl) (fun _ _ _ h => h) (Or.inl ⟨by rfl, ?hy224⟩) hHeld ?rest224
      case hy224 => (intro w' hSw; (try dsimp only at hSw); first | (go_simp; done) | (go_simp; with_reducible rfl))
      simp only [Act.put, pz0, pz1, pz2, pz3, pz4, pz5]
      refine wpAnyH_take (i := 22) (v := ?v225) rfl (by kernel_rfl) (by kernel_rfl) (by kernel_rfl) (fun _ _ _ h => h) (Or.inl ⟨by rfl, ?hy225⟩) hHeld ?rest225
      case hy225 => (intro w' hSw; (try dsimp only at hSw); first | (go_simp; done) | (go_simp; with_reducible rfl))
      simp only [Act.put, pz0, pz1, pz2, pz3, pz4, pz5]
      refine wpAnyH_take (i := 23) (v := ?v226) rfl (by kernel_rfl) (by kernel_rfl) (by kernel_rfl) (fun _ _ _ h => h) (Or.inl ⟨by rfl, ?hy226⟩) hHeld ?rest226
      case hy226 => (intro w' hSw; (try dsimp only at hSw); first | (go_simp; done) | (go_simp; with_reducible rfl))
      simp only [Act.put, pz0, pz1, pz2, pz3, pz4, pz5]
      refine wpAnyH_take (i := 24) (v := ?v227) rfl (by kernel_rfl) (by kernel_rfl) (by kernel_rfl) (fun _ _ _ h => h) (Or.inl ⟨by rfl, ?hy227⟩) hHeld ?rest227
      case hy227 => (intro w' hSw; (try dsimp only at hSw); first | (go_simp; done) | (go_simp; with_reducible rfl))
      simp only [Act.put, pz0, pz1, pz2, pz3, pz4, pz5]
      refine wpAnyH_take (i := 25) (v := ?v228) rfl (by kernel_rfl) (by kernel_rfl) (by kernel_rfl) (fun _ _ _ h => h) (Or.inl ⟨by rfl, ?hy228⟩) hHeld ?rest228
      case hy228 => (intro w' hSw; (try dsimp only at hSw); first | (go_simp; done) | (go_simp; with_reducible rfl))
      simp only [Act.put, pz0, pz1, pz2, pz3, pz4, pz5]
      refine wpAnyH_take (i := 26) (v := ?v229) rfl (by kernel_rfl) (by kernel_rfl) (by kernel_rfl) (fun _ _ _ h => h) (Or.inl ⟨by rfl, ?hy229⟩) hHeld ?rest229
      case hy229 => (intro w' hSw; (try dsimp only at hSw); first | (go_simp; done) | (go_simp; with_reducible rfl))
      simp only [Act.put, pz0, pz1, pz2, pz3, pz4, pz5]
      refine wpAnyH_take (i := 27) (v := ?v230) rfl (by kernel_rfl) (by kernel_rfl) (by kernel_rfl) (fun _ _ _ h => h) (Or.inl ⟨by rfl, ?hy230⟩) hHeld ?rest230
      case hy230 => (intro w' hSw; (try dsimp only at hSw); first | (go_simp; done) | (go_simp; with_reducible rfl))
      simp only [Act.put, pz0, pz1, pz2, pz3, pz4, pz5]
      refine wpAnyH_take (i := 28) (v := ?v231) rfl (by kernel_rfl) (by kernel_rfl) (by kernel_rfl) (fun _ _ _ h => h) (Or.inl ⟨by rfl, ?hy231⟩) hHeld ?rest231
      case hy231 => (intro w' hSw; (try dsimp only at hSw); first | (go_simp; done) | (go_simp; with_reducible rfl))
      simp only [Act.put, pz0, pz1, pz2, pz3, pz4, pz5]
      refine wpAnyH_take (i := 29) (v := ?v232) rfl (by kernel_rfl) (by kernel_rfl) (by kernel_rfl) (fun _ _ _ h => h) (Or.inl ⟨by rfl, ?hy232⟩) hHeld ?rest232
      case hy232 => (intro w' hSw; (try dsimp only at hSw); first | (go_simp; done) | (go_simp; with_reducible rfl))
      simp only [Act.put, pz0, pz1, pz2, pz3, pz4, pz5]
      refine wpAnyH_take (i := 30) (v := ?v233) rfl (by kernel_rfl) (by kernel_rfl) (by kernel_rfl) (fun _ _ _ h => h) (Or.inl ⟨by rfl, ?hy233⟩) hHeld ?rest233
      case hy233 => (intro w' hSw; (try dsimp only at hSw); first | (go_simp; done) | (go_simp; with_reducible rfl))
      simp only [Act.put, pz0, pz1, pz2, pz3, pz4, pz5]
      refine wpAnyH_take (i := 31) (v := ?v234) rfl (by kernel_rfl) (by kernel_rfl) (by kernel_rfl) (fun _ _ _ h => h) (Or.inl ⟨by rfl, ?hy234⟩) hHeld ?rest234
      case hy234 => (intro w' hSw; (try dsimp only at hSw); first | (go_simp; done) | (go_simp; with_reducible rfl))
      simp only [Act.put, pz0, pz1, pz2, pz3, pz4, pz5]
      refine wpAnyH_take (i := 32) (v := ?v235) rfl (by kernel_rfl) (by kernel_rfl) (by kernel_rfl) (fun _ _ _ h => h) (Or.inl ⟨by rfl, ?hy235⟩) hHeld ?rest235
      case hy235 => (intro w' hSw; (try dsimp only at hSw); first | (go_simp; done) | (go_simp; with_reducible rfl))
      simp only [Act.put, pz0, pz1, pz2, pz3, pz4, pz5]
      refine wpAnyH_take (i := 33) (v := ?v236) rfl (by kernel_rfl) (by kernel_rfl) (by kernel_rfl) (fun _ _ _ h => h) (Or.inl ⟨by rfl, ?hy236⟩) hHeld ?rest236
      case hy236 => (intro w' hSw; (try dsimp only at hSw); first | (go_simp; done) | (go_simp; with_reducible rfl))
      simp only [Act.put, pz0, pz1, pz2, pz3, pz4, pz5]
      refine wpAnyH_take (i := 34) (v := ?v237) rfl (by kernel_rfl) (by kernel_rfl) (by kernel_rfl) (fun _ _ _ h => h) (Or.inl ⟨by rfl, ?hy237⟩) hHeld ?rest237
      case hy237 => (intro w' hSw; (try dsimp only at hSw); first | (go_simp; done) | (go_simp; with_reducible rfl))
      simp only [Act.put, pz0, pz1, pz2, pz3, pz4, pz5]
      refine wpAnyH_take (i := 35) (v := ?v238) rfl (by kernel_rfl) (by kernel_rfl) (by kernel_rfl) (fun _ _ _ h => h) (Or.inl ⟨by rfl, ?hy238⟩) hHeld ?rest238
      case hy238 => (intro w' hSw; (try dsimp only at hSw); first | (go_simp; done) | (go_simp; with_reducible rfl))
      simp only [Act.put, pz0, pz1, pz2, pz3, pz4, pz5]
      refine wpAnyH_ready (rs := [36]) (by kernel_rfl) (by simp) ?_
      refine AllReadyH.cons rfl (fun K hK => ?_) AllReadyH.nil
      go_simp
      refine (specInV HI.out _).mono ?_
      rintro e w8 ⟨rfl, rfl⟩
      go_wp2_with fail
      refine hK.out _ _ hHeld (fun hHeld => ?_)
      clear hK K
      (try simp only [Act.put, pz0, pz1, pz2, pz3, pz4, pz5])
      refine wpAnyH_take (i := 37) (v := ?v239) rfl (by kernel_rfl) (by kernel_rfl) (by kernel_rfl) (fun _ _ _ h => h) (Or.inl ⟨by rfl, ?hy239⟩) hHeld ?rest239
      case hy239 => (intro w' hSw; (try dsimp only at hSw); first | (go_simp; done) | (go_simp; with_reducible rfl))
      simp only [Act.put, pz0, pz1, pz2, pz3, pz4, pz5]
      refine wpAnyH_take (i := 38) (v := ?v240) rfl (by kernel_rfl) (by kernel_rfl) (by kernel_rfl) (fun _ _ _ h => h) (Or.inl ⟨by rfl, ?hy240⟩) hHeld ?rest240
      case hy240 => (intro w' hSw; (try dsimp only at hSw); first | (go_simp; done) | (go_simp; with_reducible rfl))
      simp only [Act.put, pz0, pz1, pz2, pz3, pz4, pz5]
      refine wpAnyH_take (i := 39) (v := ?v241) rfl (by kernel_rfl) (by kernel_rfl) (by kernel_rfl) (fun _ _ _ h => h) (Or.inl ⟨by rfl, ?hy241⟩) hHeld ?rest241
      case hy241 => (intro w' hSw; (try dsimp only at hSw); first | (go_simp; done) | (go_simp; with_reducible rfl))
      simp only [Act.put, pz0, pz1, pz2, pz3, pz4, pz5]
      refine wpAnyH_take (i := 40) (v := ?v242) rfl (by kernel_rfl) (by kernel_rfl) (by kernel_rfl) (fun _ _ _ h => h) (Or.inl ⟨by rfl, ?hy242⟩) hHeld ?rest242
      case hy242 => (intro w' hSw; (try dsimp only at hSw); first | (go_simp; done) | (go_simp; with_reducible rfl))
      simp only [Act.put, pz0, pz1, pz2, pz3, pz4, pz5]
      refine wpAnyH_take (i := 41) (v := ?v243) rfl (by kernel_rfl) (by kernel_rfl) (by kernel_rfl) (fun _ _ _ h => h) (Or.inl ⟨by rfl, ?hy243⟩) hHeld ?rest243
      case hy243 => (intro w' hSw; (try dsimp only at hSw); first | (go_simp; done) | (go_simp; with_reducible rfl))
      simp only [Act.put, pz0, pz1, pz2, pz3, pz4, pz5]
      refine wpAnyH_take (i := 42) (v := ?v244) rfl (by kernel_rfl) (by kernel_rfl) (by kernel_rfl) (fun _ _ _ h => h) (Or.inl ⟨by rfl, ?hy244⟩) hHeld ?rest244
      case hy244 => (intro w' hSw; (try dsimp only at hSw); first | (go_simp; done) | (go_simp; with_reducible rfl))
      simp only [Act.put, pz0, pz1, pz2, pz3, pz4, pz5]
      refine wpAnyH_take (i := 43) (v := ?v245) rfl (by kernel_rfl) (by kernel_rfl) (by kernel_rfl) (fun _ _ _ h => h) (Or.inl ⟨by rfl, ?hy245⟩) hHeld ?rest245
      case hy245 => (intro w' hSw; (try dsimp only at hSw); first | (go_simp; done) | (go_simp; with_reducible rfl))
      simp only [Act.put, pz0, pz1, pz2, pz3, pz4, pz5]
      refine wpAnyH_take (i := 44) (v := ?v246) rfl (by kernel_rfl) (by kernel_rfl) (by kernel_rfl) (fun _ _ _ h => h) (Or.inl ⟨by rfl, ?hy246⟩) hHeld ?rest246
      case hy246 => (intro w' hSw; (try dsimp only at hSw); first | (go_simp; done) | (go_simp; with_reducible rfl))
      simp only [Act.put, pz0, pz1, pz2, pz3, pz4, pz5]
      refine wpAnyH_take (i := 45) (v := ?v247) rfl (by kernel_rfl) (by kernel_rfl) (by kernel_rfl) (fun _ _ _ h => h) (Or.inl ⟨by rfl, ?hy247⟩) hHeld ?rest247
      case hy247 => (intro w' hSw; (try dsimp only at hSw); first | (go_simp; done) | (go_simp; with_reducible rfl))
      simp only [Act.put, pz0, pz1, pz2, pz3, pz4, pz5]
      refine wpAnyH_take (i := 46) (v := ?v248) rfl (by kernel_rfl) (by kernel_rfl) (by kernel_rfl) (fun _ _ _ h => h) (Or.inl ⟨by rfl, ?hy248⟩) hHeld ?rest248
      case hy248 => (intro w' hSw; (try dsimp only at hSw); first | (go_simp; done) | (go_simp; with_reducible rfl))
      simp only [Act.put, pz0, pz1, pz2, pz3, pz4, pz5]
      refine wpAnyH_take (i := 47) (v := ?v249) rfl (by kernel_rfl) (by kernel_rfl) (by kernel_rfl) (fun _ _ _ h => h) (Or.inl ⟨by rfl, ?hy249⟩) hHeld ?rest249
      case hy249 => (intro w' hSw; (try dsimp only at hSw); first | (go_simp; done) | (go_simp; with_reducible rfl))
      simp only [Act.put, pz0, pz1, pz2, pz3, pz4, pz5]
      refine wpAnyH_take (i := 48) (v := ?v250) rfl (by kernel_rfl) (by kernel_rfl) (by kernel_rfl) (fun _ _ _ h => h) (Or.inl ⟨by rfl, ?hy250⟩) hHeld ?rest250
      case hy250 => (intro w' hSw; (try dsimp only at hSw); first | (go_simp; done) | (go_simp; with_reducible rfl))
      simp only [Act.put, pz0, pz1, pz2, pz3, pz4, pz5]
      refine wpAnyH_take (i := 49) (v := ?v251) rfl (by kernel_rfl) (by kernel_rfl) (by kernel_rfl) (fun _ _ _ h => h) (Or.inl ⟨by rfl, ?hy251⟩) hHeld ?rest251
      case hy251 => (intro w' hSw; (try dsimp only at hSw); first | (go_simp; done) | (go_simp; with_reducible rfl))
      simp only [Act.put, pz0, pz1, pz2, pz3, pz4, pz5]
      refine wpAnyH_take (i := 50) (v := ?v252) rfl (by kernel_rfl) (by kernel_rfl) (by kernel_rfl) (fun _ _ _ h => h) (Or.inl ⟨by rfl, ?hy252⟩) hHeld ?rest252
      case hy252 => (intro w' hSw; (try dsimp only at hSw); first | (go_simp; done) | (go_simp; with_reducible rfl))
      simp only [Act.put, pz0, pz1, pz2, pz3, pz4, pz5]
      refine wpAnyH_take (i := 51) (v := ?v253) rfl (by kernel_rfl) (by kernel_rfl) (by kernel_rfl) (fun _ _ _ h => h) (Or.inl ⟨by rfl, ?hy253⟩) hHeld ?rest253
      case hy253 => (intro w' hSw; (try dsimp only at hSw); first | (go_simp; done) | (go_simp; with_reducible rfl))
      simp only [Act.put, pz0, pz1, pz2, pz3, pz4, pz5]
      refine wpAnyH_ready (rs := [52]) (by kernel_rfl) (by simp) ?_
      refine AllReadyH.cons rfl (fun K hK => ?_) AllReadyH.nil
      go_simp
      refine (specL11Less l[k - 1] l[k] A3 A1 l[k - 1].key.length c3 l[k].key.length c1 _ _ _ (HSP.out.below VlR.stays hb9) (HSC.out.below VlR.stays hb9) HN1.out HN2.out).mono ?_
      rintro e w7 ⟨rfl, hb7⟩
      rw [HC.out]
      go_wp2_with fail
      refine hK.out _ _ (keepC5 hHeld hb7) (fun hHeld => ?_)
      clear hK K
      (try simp only [Act.put, pz0, pz1, pz2, pz3, pz4, pz5])
      refine wpAnyH_take (i := 53) (v := ?v254) rfl (by kernel_rfl) (by kernel_rfl) (by kernel_rfl) (fun _ _ _ h => h) (Or.inl ⟨by rfl, ?hy254⟩) hHeld ?rest254
      case hy254 => (intro w' hSw; (try dsimp only at hSw); first | (go_simp; done) | (go_simp; with_reducible rfl))
      simp only [Act.put, pz0, pz1, pz2, pz3, pz4, pz5]
      refine wpAnyH_take (i := 54) (v := ?v255) rfl (by kernel_rfl) (by kernel_rfl) (by kernel_rfl) (fun _ _ _ h => h) (Or.inl ⟨by rfl, ?hy255⟩) hHeld ?rest255
      case hy255 => (intro w' hSw; (try dsimp only at hSw); first | (go_simp; done) | (go_simp; with_reducible rfl))
      simp only [Act.put, pz0, pz1, pz2, pz3, pz4, pz5]
      refine wpAnyH_take (i := 55) (v := ?v256) rfl (by kernel_rfl) (by kernel_rfl) (by kernel_rfl) (fun _ _ _ h => h) (Or.inl ⟨by rfl, ?hy256⟩) hHeld ?rest256
      case hy256 => (intro w' hSw; (try dsimp only at hSw); first | (go_simp; done) | (go_simp; with_reducible rfl))
      simp only [Act.put, pz0, pz1, pz2, pz3, pz4, pz5]
      refine wpAnyH_done (by kernel_rfl) ?_ _
      refine NoPanic.normal ?_
      clear hHeld
      go_wp2_with fail
      go_roundw
      case rel => exact ⟨k + 1, by omega, by go_num, HA, HU, (hbd.trans (hb9.mono hbd.size)).trans (hb7.mono (hbd.trans (hb9.mono hbd.size)).size)⟩
      case measure => simp [intOf]; omega
end Go.Proofs.Ytlpfpcnafejkoaa
namespace Go.Proofs.Ytlpfpcnafejkoaa
open Go.RowKit
theorem infoEntC : (Try.prog.info? 42).map (fun i => (i.zero, i.size, i.bytes)) = some (some (.agg #[.slice none 0 0, .int .i64 0]), 2, 32) := by kernel_rfl
theorem OwnE0.drew {w : World} {base : Nat} {v : Value} {es : List En} {vs : List Value} (h : OwnE0 w base v es vs) : OwnE0 w.drew base v es vs := ⟨h.len, h.row, h.key, h.apart⟩
theorem OwnE0.below {w w' : World} {base : Nat} {v : Value} {es : List En} {vs : List Value} (h : OwnE0 w base v es vs) (hb : Below w.heap.size w w') : OwnE0 w' base v es vs :=
  ⟨h.len, ownsRow_below h.row hb, fun i hi hi' => OwnG.below (h.key i hi hi') hb, h.apart⟩
theorem OwnE0.fresh {w w1 : World} {base base1 : Nat} {v k : Value} {es : List En} {vs : List Value} {xs : List Vl} (h : OwnE0 w base v es vs) (hk : OwnK w1 base1 k xs) (hb : w.heap.size ≤ base1) : ∀ b ∈ blk k, b ∉ vs.flatMap blk := fun b hb' hh => by
  obtain ⟨u, hu, hbu⟩ := List.mem_flatMap.1 hh
  obtain ⟨i, hi, rfl⟩ := List.mem_iff_getElem.1 hu
  have h1 := (OwnG.block_lt hk b (by simpa [blk] using hb')).1
  have h2 := (OwnG.block_lt (h.key i (by rw [← h.len]; exact hi) hi) b (by simpa [blk] using hbu)).2
  omega
set_option maxRecDepth 100000 in
set_option maxHeartbeats 2000000 in
theorem specL11Copy (A : Option Addr) (n c : Nat) (es : List En) (ok : Nat → Prop) (w : World) (h : Sl EnR 2 ok w A n es) (hk : ∀ e ∈ es, e.key.length ≤ 1073741824) (hl : n ≤ 1073741824) :
    Calls Try.prog 36 #[.slice A n c] w fun e w' => ∃ v', e = .returned v' ∧ OwnE w' w.heap.size v' es ∧ Below w.heap.size w w' := by
  obtain ⟨i0, hi, hz0, hz1, hz2⟩ := info_parts infoEntC
  have H1 := Lib.hid hi
  have H2 := Lib.hid hz0
  have H3 := Lib.hid hz1
  have H4 := Lib.hid hz2
  clear hi hz0 hz1 hz2
  obtain rfl : es.length = n := h.1
  have HK := Lib.hid hk
  clear hk
  have hb0 := (Below.refl w.heap.size w).alloc (Nat.le_refl _) (.cells #[] 42)
  have ho0 := Lib.hid (OwnE.lit w (Nat.le_refl w.heap.size))
  go_enter Try.func36, Try.ntmps36
  go_wp2_with fail
  generalize w.alloc (.cells #[] 42) = z0 at *
  go_loopw [3, 4] (fun v i wr => ∃ (k : Nat), k ≤ es.length ∧ i = .int .i64 k ∧ Hid (OwnE wr w.heap.size v (es.take k)) ∧ Below w.heap.size w wr) (fun _ i _ => es.length - (intOf i).toNat)
  case atStart => exact ⟨0, by omega, rfl, ho0, hb0⟩
  case round =>
    clear hb0 ho0
    obtain ⟨k, hk, rfl, hown, hb⟩ := hrel
    by_cases hlt : k < es.length
    · obtain ⟨b, off, A1, n1, c1, -, rfl, q0', q1', hky', -⟩ := EnR.at_ h hlt
      have q0 := below_keep hb _ _ q0'
      have q1 := below_keep hb _ _ q1'
      have hky := hky'.below VlR.stays hb
      clear hky'
      have i0' : (0 : Int) ≤ k := by omega
      have i1 : (k : Int) < es.length := by omega
      have HKL := Lib.hid (HK.out es[k] (List.getElem_mem hlt))
      have HT := Lib.hid (show es.take (k + 1) = es.take k ++ [es[k]] from List.take_succ_eq_append_getElem hlt)
      have HLK := Lib.hid (show (es.take k).length = k by rw [List.length_take]; omega)
      generalize hxs : es.take k = xs at *
      generalize hek : es[k] = e at *
      have Q0 := Lib.hid q0'
      have Q1 := Lib.hid q1'
      clear q0' q1'
      obtain ⟨vs, hO⟩ := hown.out
      have HO := Lib.hid hO.drew
      have hkd : Sl VlR 3 ok wr.drew A1 n1 e.key := hky.stays VlR.stays (fun _ h => h) (fun p v _ h => h)
      clear hO hown hxs hek
      go_wp2_with fail
      go_region_held3 (fun w' => w'.cell? ⟨b, off + k * 2, none⟩ = some (.slice A1 n1 c1) ∧ w'.cell? ⟨b, off + k * 2 + 1, none⟩ = some (.int .i64 e.id))
        (first | go_keep | exact ⟨below_keep hB9 _ _ Q0.out, below_keep hB9 _ _ Q1.out⟩ | exact ⟨below_keep hb1 _ _ (by assumption), below_keep hb1 _ _ (by assumption)⟩)
        (first
          | (go_at_call 27; refine (specCopyVals A1 n1 c1 e.key _ _ hkd (by have := hky.1; have := HKL.out; omega)).mono ?_; rintro e1 w1 ⟨v1, rfl, hk1, hb1⟩; obtain ⟨A2, c2, rfl⟩ := hk1.shape; have HO1 := HO.out.below hb1)
          | (refine wp_append_own _ _ _ 36 rfl w.heap.size 42 i0 (.agg #[.slice none 0 0, .int .i64 0]) 2 32 Try.underlying36 H1.out H2.out H3.out H4.out rfl (by decide) _ _ _ rfl (World.ownsRow.alloc HO1.row _) ⟨_, 0, none⟩ 1 1 [.slice A2 e.key.length c2, .int .i64 e.id] rfl rfl (cells_newAt _ [.slice A2 e.key.length c2, .int .i64 e.id] _ (by simp)) (by intro u hu; simp at hu; rcases hu with rfl | rfl; exact hk1.one; rfl) (by have := HLK.out; unfold maxLen; omega) (by have := HLK.out; omega) (by have h1 := hb.size; have h2 := hb1.size; simp at h1 h2 ⊢; omega) ?_; intro v9 w9 hown9 hgrow9 _; have hB9 : Below w.heap.size w w9 := ((hb.drew.trans (hb1.mono hb.size)).alloc (by have h1 := hb.size; have h2 := hb1.size; simp at h1 h2 ⊢; omega) _).grown hgrow9 (by have h1 := hb.size; have h2 := hb1.size; simp at h1 h2 ⊢; omega) (fun k hk => (World.ownsRow.lt HO1.row k hk).1); have HO9 := OwnE0.app (x := e) HO1 (by have h1 := hb.size; have h2 := hb1.size; simp at h1 h2 ⊢; omega) (hk1.mono (by have h1 := hb.size; simp at h1 ⊢; omega)) (HO.out.fresh hk1 (Nat.le_refl _)) hown9 hgrow9))
      have HE9 := Lib.hid (show OwnE w9 w.heap.size v9 (es.take (k + 1)) by rw [HT.out]; exact ⟨_, HO9⟩)
      clear hown9 hgrow9 HO9 HO1
      go_wp2_with fail
      go_roundw
      case rel => exact ⟨k + 1, by omega, by go_num, HE9, hB9⟩
      case measure => simp [intOf]; omega
    · have z : decide ((k : Int) < es.length) = false := decide_eq_false (by omega)
      obtain rfl : k = es.length := by omega
      go_wp2_with fail
      go_ret
      exact ⟨_, rfl, by simpa using hown.out, hb⟩
set_option maxRecDepth 100000 in
set_option maxHeartbeats 2000000 in
theorem implCopyEntry (x : En) (A : Option Addr) (n c : Nat) (ok : Nat → Prop) (w : World) (h : Sl VlR 3 ok w A n x.key) (hl : n ≤ 1073741824) :
    Calls Try.prog 45 #[.agg #[.slice A n c, .int .i64 x.id]] w fun e w' => ∃ v, e = .returned (.agg #[v, .int .i64 x.id]) ∧ OwnK w' w.heap.size v x.key ∧ Below w.heap.size w w' := by
  have hb0 := chain2 w (.cells #[.slice A n c, .int .i64 x.id] 42) (.cells #[.slice none 0 0, .int .i64 0] 42)
  obtain ⟨r1, r2⟩ := two_rows w 42 #[.slice A n c, .int .i64 x.id] #[.slice none 0 0, .int .i64 0]
  obtain ⟨⟨k0, k1⟩, -⟩ := r1.all2
  obtain ⟨⟨g0, g1⟩, fr0⟩ := r2.all2
  obtain ⟨i0, hi, hz0, hz1, hz2⟩ := info_parts infoEntC
  have HG := Lib.hid (show (Try.prog.info? 42).map (·.size) = some 2 by rw [hi]; simp [hz1])
  clear hi hz0 hz1 hz2
  have HZ := Lib.hid (show w.heap.size + 2 ≤ ((w.alloc (.cells #[.slice A n c, .int .i64 x.id] 42)).alloc (.cells #[.slice none 0 0, .int .i64 0] 42)).heap.size by simp)
  have hd : Sl VlR 3 ok ((w.alloc (.cells #[.slice A n c, .int .i64 x.id] 42)).alloc (.cells #[.slice none 0 0, .int .i64 0] 42)).drew A n x.key := (h.below VlR.stays hb0).stays VlR.stays (fun _ h => h) (fun p v _ h => h)
  go_enter Try.func45, Try.ntmps45
  go_wp2_with fail
  generalize hzz : (w.alloc (.cells #[.slice A n c, .int .i64 x.id] 42)).alloc (.cells #[.slice none 0 0, .int .i64 0] 42) = z0 at *
  have R2 := Lib.hid r2
  clear g0 g1 fr0 r1 r2
  go_region_held3 (fun w' => w'.cell? ⟨w.heap.size, 0, none⟩ = some (.slice A n c) ∧ w'.cell? ⟨w.heap.size, 1, none⟩ = some (.int .i64 x.id))
    (first | go_keep | exact ⟨below_keep hb1 _ _ (by assumption), below_keep hb1 _ _ (by assumption)⟩)
    (first | (go_at_call 29; refine (implCloneVals A n c x.key ok _ hd hl).mono ?_; rintro e1 w1 ⟨v1, rfl, hk1, hb1⟩; obtain ⟨A2, c2, rfl⟩ := hk1.shape; have rr := Row.below (w := z0.drew) R2.out hb1; obtain ⟨⟨y0, y1⟩, ⟨f0, f1⟩⟩ := rr.all2; have RR := Lib.hid rr; clear rr))
  go_wp2_with fail
  have hr2 := (RR.out.set 0 (.slice A2 x.key.length c2)).set 1 (.int .i64 x.id)
  have hz : w.heap.size + 2 ≤ z0.heap.size := HZ.out
  refine bodyPost_ret (results_cell_row (p := 2) (ty := 42) rfl _ _ (w.heap.size + 1) 42 #[.slice A2 x.key.length c2, .int .i64 x.id] (0, 0) _ rfl hr2 Try.underlying42 rfl HG.out) rfl ⟨_, rfl, ?_, ?_⟩
  · exact OwnK.mono (ownsRow_setCell_below (ownsRow_setCell_below hk1 (by show w.heap.size + 1 < z0.heap.size; omega) _) (by show w.heap.size + 1 < z0.heap.size; omega) _) (by show w.heap.size ≤ z0.heap.size; omega)
  · exact ((hb0.drew.trans (hb1.mono hb0.size)).setCell (by simp) _).setCell (by simp) _
end Go.Proofs.Ytlpfpcnafejkoaa
namespace Go.Proofs.Ytlpfpcnafejkoaa
open Go.RowKit Go.Maps
theorem grown_rowK {w w' : World} {row : Option Nat} (hg : w.grownBy w' row) {g : Nat} {T : TypeId} {cs : Array Value} (h : Row w g T cs) (hne : ∀ k, row = some k → k ≠ g) : Row w' g T cs :=
  (hg.block g (lt_of_block h) (fun e => hne g e.symm rfl)).trans h
end Go.Proofs.Ytlpfpcnafejkoaa
namespace Go.Proofs.Ytlpfpcnafejkoaa
open Go.RowKit
theorem below_dN {B : Nat} {w w' : World} (h : Below B w w') (m : Nat) : Below B w (w'.drewN m) := ⟨h.os, h.tape, h.output, h.size, h.block⟩
def eqlV (a b : Vl) : Bool := (a.k == b.k) && ((a.n == b.n) && (a.s.toList == b.s.toList))
def eqlP (p : Vl × Vl) : Bool := eqlV p.1 p.2
def eqlL (a b : List Vl) : Bool := decide (a.length = b.length) && (a.zip b).all eqlP
theorem zip_take {α β : Type} (a : List α) (b : List β) (k : Nat) (h : k < a.length) (h' : k < b.length) (f : α × β → Bool) : ((a.zip b).take (k + 1)).all f = (((a.zip b).take k).all f && f (a[k], b[k])) := by
  rw [List.take_succ_eq_append_getElem (by rw [List.length_zip]; omega), List.all_append]
  simp
theorem zip_no {α β : Type} {a : List α} {b : List β} {k : Nat} (h : k < a.length) (h' : k < b.length) {f : α × β → Bool} (hf : f (a[k], b[k]) = false) : (a.zip b).all f = false := by
  rw [List.all_eq_false]
  exact ⟨(a[k], b[k]), by rw [List.mem_iff_getElem]; exact ⟨k, by rw [List.length_zip]; omega, by simp⟩, by simp [hf]⟩
set_option maxRecDepth 100000 in
set_option maxHeartbeats 1000000 in
theorem specSameVals (A A' : Option Addr) (n c n' c' : Nat) (a b : List Vl) (ok ok' : Nat → Prop) (w : World) (h : Sl VlR 3 ok w A n a) (h' : Sl VlR 3 ok' w A' n' b) (hn : n ≤ 1048576) (hn' : n' ≤ 1048576) :
    Calls Try.prog 51 #[.slice A n c, .slice A' n' c'] w fun e w' => e = .returned (.bool (eqlL a b)) ∧ Below w.heap.size w w' := by
  obtain rfl : a.length = n := h.1
  obtain rfl : b.length = n' := h'.1
  by_cases hl : (a.length : Int) = b.length
  case neg =>
    have hl' : ((a.length : Int) == b.length) = false := by simpa using hl
    have HF := Lib.hid (show eqlL a b = false by unfold eqlL; rw [decide_eq_false (by omega)]; rfl)
    clear hl
    go_enter Try.func51, Try.ntmps51
    go_wp2_with fail
    go_ret
    exact ⟨retB HF.out.symm, Below.refl _ _⟩
  have hl' : ((a.length : Int) == b.length) = true := by simpa using hl
  have HL := Lib.hid (show a.length = b.length by omega)
  clear hl
  go_enter Try.func51, Try.ntmps51
  go_wp2_with fail
  clear hl'
  go_loopw [5] (fun i wr => ∃ k : Nat, k ≤ a.length ∧ i = .int .i64 k ∧ Hid (((a.zip b).take k).all eqlP = true) ∧ Below w.heap.size w wr) (fun i _ => a.length - (intOf i).toNat)
  case atStart => exact ⟨0, by omega, rfl, Lib.hid (by simp), Below.refl _ _⟩
  case round =>
    obtain ⟨k, hk, rfl, hall, hb⟩ := hrel
    by_cases hlt : k < a.length
    · have hlt' : k < b.length := by have := HL.out; omega
      obtain ⟨b1, o1, -, rfl, q0, q1, q2⟩ := VlR.at_ (h.below VlR.stays hb) hlt
      obtain ⟨b2, o2, -, rfl, y0, y1, y2⟩ := VlR.at_ (h'.below VlR.stays hb) hlt'
      have i0 : (0 : Int) ≤ k := by omega
      have i1 : (k : Int) < a.length := by omega
      have i2 : (k : Int) < b.length := by omega
      have hst := zip_take a b k hlt hlt' eqlP
      rw [hall.out, Bool.true_and] at hst
      have hno := fun hf => zip_no (f := eqlP) hlt hlt' hf
      generalize a[k] = x at *
      generalize b[k] = y at *
      cases hs : eqlP (x, y)
      · have HF := Lib.hid (show eqlL a b = false by unfold eqlL; rw [hno hs]; simp)
        have HS := Lib.hid hs
        clear hno hst hall hs
        cases e1 : (x.k == y.k)
        · clear HS
          go_wp2_with fail
          go_quiet (fail)
          go_wp2_with fail
          go_ret
          exact ⟨retB HF.out.symm, below_dN hb _⟩
        · cases e2 : (x.n == y.n)
          · clear HS
            go_wp2_with fail
            go_quiet (fail)
            go_wp2_with fail
            go_ret
            exact ⟨retB HF.out.symm, below_dN hb _⟩
          · have e3 : (x.s.toList == y.s.toList) = false := by have := HS.out; simp only [eqlP, eqlV, e1, e2, Bool.true_and] at this; exact this
            clear HS
            go_wp2_with fail
            go_quiet (fail)
            go_wp2_with fail
            go_ret
            exact ⟨retB HF.out.symm, below_dN hb _⟩
      · rw [hs] at hst
        have HA := Lib.hid hst
        simp only [eqlP, eqlV, Bool.and_eq_true] at hs
        obtain ⟨e1, e2, e3⟩ := hs
        clear hno hst hall
        go_wp2_with fail
        go_quiet (fail)
        go_wp2_with fail
        go_roundw
        case rel => exact ⟨k + 1, by omega, by go_num, HA, below_dN hb _⟩
        case measure => simp [intOf]; omega
    · have e : (a.zip b).take k = a.zip b := List.take_of_length_le (by rw [List.length_zip]; have := HL.out; omega)
      have h1 := hall.out
      rw [e] at h1
      have HA := Lib.hid (show eqlL a b = true by unfold eqlL; rw [decide_eq_true HL.out, h1]; rfl)
      clear e h1 hall
      go_wp2_with fail
      go_ret
      exact ⟨retB HA.out.symm, hb⟩
def sameE (x y : En) : Bool := decide (x.id = y.id) && eqlL x.key y.key
def dropE (l : List En) (e : En) : List En := l.filter fun x => !sameE x e
def dropped (l : List En) (e : En) : List En := if entriesB l = true ∧ (dropE l e).length ≠ l.length then dropE l e else []
def droppedB (l : List En) (e : En) : Bool := entriesB l && !decide ((dropE l e).length = l.length)
set_option maxRecDepth 100000 in
set_option maxHeartbeats 1000000 in
theorem specL11Same (x y : En) (A B : Option Addr) (n c m d : Nat) (ok ok' : Nat → Prop) (w : World) (ha : Sl VlR 3 ok w A n x.key) (hb : Sl VlR 3 ok' w B m y.key) (hn : n ≤ 1048576) (hm : m ≤ 1048576) :
    Calls Try.prog 35 #[.agg #[.slice A n c, .int .i64 x.id], .agg #[.slice B m d, .int .i64 y.id]] w fun e w' => e = .returned (.bool (sameE x y)) ∧ Below w.heap.size w w' := by
  obtain rfl : x.key.length = n := ha.1
  obtain rfl : y.key.length = m := hb.1
  have hb0 := chain2 w (.cells #[.slice A x.key.length c, .int .i64 x.id] 42) (.cells #[.slice B y.key.length d, .int .i64 y.id] 42)
  obtain ⟨r1, r2⟩ := two_rows w 42 #[.slice A x.key.length c, .int .i64 x.id] #[.slice B y.key.length d, .int .i64 y.id]
  obtain ⟨⟨k0, k1⟩, -⟩ := r1.all2
  obtain ⟨⟨g0, g1⟩, -⟩ := r2.all2
  have ha' := ha.below VlR.stays hb0
  have hb' := hb.below VlR.stays hb0
  by_cases hid : x.id = y.id
  · have z : (x.id == y.id) = true := by simpa using hid
    have z' : decide (x.id = y.id) = true := by simpa using hid
    have HF := Lib.hid (show sameE x y = eqlL x.key y.key by unfold sameE; rw [z']; rfl)
    clear hid
    go_enter Try.func35, Try.ntmps35
    go_wp2_with fail
    refine (specSameVals A B _ c _ d x.key y.key _ _ _ ha' hb' hn hm).mono ?_
    rintro e w1 ⟨rfl, hb1⟩
    go_wp2_with fail
    go_ret
    exact ⟨retB HF.out.symm, hb0.trans (hb1.mono hb0.size)⟩
  · have z : (x.id == y.id) = false := by simpa using hid
    have z' : decide (x.id = y.id) = false := by simpa using hid
    have HF := Lib.hid (show sameE x y = false by unfold sameE; rw [z']; rfl)
    clear hid
    go_enter Try.func35, Try.ntmps35
    go_wp2_with fail
    go_ret
    exact ⟨retB HF.out.symm, hb0⟩
def ShareE (ok : Nat → Prop) (w0 w : World) (base : Nat) (v : Value) (xs : List En) : Prop :=
  ∃ vs : List Value, vs.length = xs.length ∧ w.ownsRow base 42 2 v xs.length (entC vs xs) ∧ ∀ i (h : i < xs.length) (h' : i < vs.length), ∃ A n c, vs[i] = .slice A n c ∧ n ≤ c ∧ Sl VlR 3 ok w0 A n xs[i].key
theorem ShareE.lit (ok : Nat → Prop) (w0 w : World) {base : Nat} (hb : base ≤ w.heap.size) : ShareE ok w0 (w.alloc (.cells #[] 42)) base (.slice (some ⟨w.heap.size, 0, none⟩) 0 0) [] :=
  ⟨[], rfl, ⟨by simp [entC], .inr ⟨w.heap.size, 0, #[], rfl, hb, Go.heap_alloc_last w _, Nat.le_refl _, by simp [maxLen], by simp, by simp [entC]⟩⟩, fun i h => by simp at h⟩
theorem ShareE.below {ok : Nat → Prop} {w0 w w' : World} {base : Nat} {v : Value} {xs : List En} (h : ShareE ok w0 w base v xs) (hb : Below w.heap.size w w') : ShareE ok w0 w' base v xs := by
  obtain ⟨vs, h1, h2, h3⟩ := h
  exact ⟨vs, h1, ownsRow_below h2 hb, h3⟩
theorem ShareE.drew {ok : Nat → Prop} {w0 w : World} {base : Nat} {v : Value} {xs : List En} (h : ShareE ok w0 w base v xs) : ShareE ok w0 w.drew base v xs := by
  obtain ⟨vs, h1, h2, h3⟩ := h
  exact ⟨vs, h1, h2, h3⟩
theorem ShareE.app {ok : Nat → Prop} {w0 w' : World} {base : Nat} {v' : Value} {xs : List En} {vs : List Value} {x : En} {A : Option Addr} {n c : Nat} (h1 : vs.length = xs.length) (h3 : ∀ i (h : i < xs.length) (h' : i < vs.length), ∃ A n c, vs[i] = .slice A n c ∧ n ≤ c ∧ Sl VlR 3 ok w0 A n xs[i].key) (hc : n ≤ c) (hk : Sl VlR 3 ok w0 A n x.key)
    (h' : w'.ownsRow base 42 2 v' (xs.length + 1) (entC vs xs ++ [.slice A n c, .int .i64 x.id])) : ShareE ok w0 w' base v' (xs ++ [x]) := by
  have hz : entC (vs ++ [.slice A n c]) (xs ++ [x]) = entC vs xs ++ [.slice A n c, .int .i64 x.id] := by
    unfold entC
    rw [List.zipWith_append h1]
    simp
  refine ⟨vs ++ [.slice A n c], by simp [h1], by rw [List.length_append, hz]; exact h', fun i hi hi' => ?_⟩
  by_cases e : i < xs.length
  · have e' : i < vs.length := by rw [h1]; exact e
    rw [List.getElem_append_left e, List.getElem_append_left e']
    exact h3 i e e'
  · simp only [List.length_append, List.length_cons, List.length_nil] at hi
    obtain rfl : i = xs.length := by omega
    rw [List.getElem_append_right (Nat.le_refl _), List.getElem_append_right (Nat.le_of_eq h1)]
    exact ⟨A, n, c, by simp [h1], hc, by simpa using hk⟩
theorem ShareE.sl {ok : Nat → Prop} {w0 w : World} {base : Nat} {v : Value} {xs : List En} (h : ShareE ok w0 w base v xs) (hb : Below w0.heap.size w0 w) : ∃ A c, v = .slice A xs.length c ∧ Sl EnR 2 (fun _ => True) w A xs.length xs := by
  obtain ⟨vs, h1, h2, h3⟩ := h
  rcases h2.2 with ⟨rfl, hn⟩ | ⟨g, cap, cur, rfl, k1, k2, k3, k4, k5, k6⟩
  · exact ⟨none, 0, by rw [hn], rfl, fun h => by omega⟩
  · refine ⟨_, cap, rfl, rfl, fun hn => ⟨g, 0, rfl, trivial, fun i hi => ?_⟩⟩
    have hi' : i < vs.length := by rw [h1]; exact hi
    obtain ⟨A, n, c, e, hc, hs⟩ := h3 i hi hi'
    refine ⟨[vs[i], .int .i64 xs[i].id], rfl, ⟨A, n, c, by rw [e], (hs.below VlR.stays hb).stays VlR.stays (fun _ _ => trivial) (fun p v _ h => h), hc⟩, fun t u hu => ?_⟩
    have ht : t < 2 := by have := (List.getElem?_eq_some_iff.1 hu).1; simpa using this
    have h7 := entC_at vs xs h1 i hi hi' t ht
    rw [hu, ← k6, List.getElem?_take, if_pos (by omega)] at h7
    rw [cell_of_row _ _ _ _ _ _ k2, Nat.zero_add, ← Array.getElem?_toList]
    exact h7
theorem OwnE.mono {w : World} {base base' : Nat} {v : Value} {es : List En} (h : OwnE w base v es) (hb : base' ≤ base) : OwnE w base' v es := by
  obtain ⟨vs, h⟩ := h
  refine ⟨vs, h.len, ⟨h.row.1, ?_⟩, fun i hi hi' => OwnK.mono (h.key i hi hi') hb, h.apart⟩
  rcases h.row.2 with h | ⟨g, cap, cur, rfl, h1, h2⟩
  · exact .inl h
  · exact .inr ⟨g, cap, cur, rfl, Nat.le_trans hb h1, h2⟩
theorem dropE_yes {l : List En} {e : En} {k : Nat} (h : k < l.length) (hs : sameE l[k] e = true) : dropE (l.take (k + 1)) e = dropE (l.take k) e := by
  unfold dropE; rw [List.take_succ_eq_append_getElem h, List.filter_append]; simp [hs]
theorem dropE_no {l : List En} {e : En} {k : Nat} (h : k < l.length) (hs : sameE l[k] e = false) : dropE (l.take (k + 1)) e = dropE (l.take k) e ++ [l[k]] := by
  unfold dropE; rw [List.take_succ_eq_append_getElem h, List.filter_append]; simp [hs]
theorem dropE_len (l : List En) (e : En) : (dropE l e).length ≤ l.length := List.length_filter_le _ _
theorem exists_list {α : Type} {P : Nat → α → Prop} : ∀ (n : Nat), (∀ i, i < n → ∃ v, P i v) → ∃ vs : List α, vs.length = n ∧ ∀ i (h : i < vs.length), P i vs[i]
  | 0, _ => ⟨[], rfl, fun i h => by simp at h⟩
  | n + 1, h => by
    obtain ⟨vs, h1, h2⟩ := exists_list n fun i hi => h i (by omega)
    obtain ⟨v, hv⟩ := h n (by omega)
    refine ⟨vs ++ [v], by simp [h1], fun i hi => ?_⟩
    by_cases e : i < vs.length
    · rw [List.getElem_append_left e]; exact h2 i e
    · simp only [List.length_append, List.length_cons, List.length_nil] at hi
      obtain rfl : i = vs.length := by omega
      rw [List.getElem_append_right (Nat.le_refl _)]
      simpa [h1] using hv
theorem entC_len (vs : List Value) (es : List En) (h : vs.length = es.length) : (entC vs es).length = es.length * 2 := by
  unfold entC
  rw [flat_len (sz := 2) _ (fun c hc => by
    obtain ⟨j, hj, rfl⟩ := List.mem_iff_getElem.1 hc
    rw [List.getElem_zipWith]; rfl), List.length_zipWith]
  omega
theorem entC_one (vs : List Value) (es : List En) (h : vs.length = es.length) (hv : ∀ v ∈ vs, v.oneCell' = true) : ∀ u ∈ entC vs es, u.oneCell' = true := fun u hu => by
  unfold entC at hu
  obtain ⟨c, hc, hu⟩ := List.mem_flatten.1 hu
  obtain ⟨j, hj, rfl⟩ := List.mem_iff_getElem.1 hc
  rw [List.getElem_zipWith] at hu
  simp at hu
  rcases hu with rfl | rfl
  · exact hv _ (List.getElem_mem _)
  · rfl
theorem Sl.keys {ok : Nat → Prop} {w : World} {ad : Addr} {n : Nat} {es : List En} (h : Sl EnR 2 ok w (some ad) n es) :
    ∃ vs : List Value, vs.length = es.length ∧ (∀ i (h : i < es.length) (h' : i < vs.length), ∃ A n c, vs[i] = .slice A n c ∧ n ≤ c ∧ Sl VlR 3 ok w A n es[i].key) ∧ ∀ j u, (entC vs es)[j]? = some u → w.cell? (ad.add j) = some u := by
  obtain ⟨vs, h1, h2⟩ := exists_list (P := fun i (v : Value) => ∀ hi : i < es.length, (∃ A n c, v = .slice A n c ∧ n ≤ c ∧ Sl VlR 3 ok w A n es[i].key) ∧ ∃ b off, ad = ⟨b, off, none⟩ ∧ cellsAt w b (off + i * 2) [v, .int .i64 es[i].id]) es.length (fun i hi => by
    obtain ⟨b, off, e, hb, hc⟩ := h.2 (by have := h.1; omega)
    cases e
    obtain ⟨cs, k1, ⟨A0, n0, c0, rfl, k3, k4⟩, k5⟩ := hc i hi
    exact ⟨.slice A0 n0 c0, fun _ => ⟨⟨A0, n0, c0, rfl, k4, k3⟩, b, off, rfl, k5⟩⟩)
  refine ⟨vs, h1, fun i hi hi' => (h2 i hi' hi).1, fun j u hj => ?_⟩
  have hjl := (List.getElem?_eq_some_iff.1 hj).1
  rw [entC_len vs es h1] at hjl
  have hdiv : j / 2 < es.length := by omega
  have hdiv' : j / 2 < vs.length := by omega
  obtain ⟨-, b, off, rfl, hc⟩ := h2 (j / 2) hdiv' hdiv
  have h7 := entC_at vs es h1 (j / 2) hdiv hdiv' (j % 2) (by omega)
  rw [show j / 2 * 2 + j % 2 = j by omega, hj] at h7
  have := hc (j % 2) u h7.symm
  rw [addr_add]
  rwa [show off + j / 2 * 2 + j % 2 = off + j by omega] at this
set_option maxRecDepth 100000 in
set_option maxHeartbeats 1000000 in
theorem implCloneEnts (A : Option Addr) (n c : Nat) (es : List En) (ok : Nat → Prop) (w : World) (h : Sl EnR 2 ok w A n es) (hl : n ≤ 1073741824) :
    Calls Try.prog 56 #[.slice A n c] w fun e w' => ∃ v', e = .returned v' ∧ ShareE ok w w' w.heap.size v' es ∧ Below w.heap.size w w' := by
  obtain ⟨i0, hi, hz0, hz1, hz2⟩ := info_parts infoEntC
  have H1 := Lib.hid hi
  have H2 := Lib.hid hz0
  have H3 := Lib.hid hz1
  have H4 := Lib.hid hz2
  clear hi hz0 hz1 hz2
  obtain rfl : es.length = n := h.1
  have q22 : ∀ (w : World) (a : Option Addr) (n c n' c' : Nat), (binOp .eql 36 (.slice a n c) (.slice none n' c')).run Try.prog w = .ok (.bool a.isNone) w := fun w a n c n' c' => Lib.run_eql_slice_nil w _ _ a n c n' c' Try.underlying36
  cases A with
  | none =>
    have hn : es.length = 0 := by
      rcases Nat.eq_zero_or_pos es.length with h' | h'
      · exact h'
      · obtain ⟨b, off, e, -⟩ := h.2 h'
        cases e
    obtain rfl : es = [] := List.length_eq_zero_iff.1 hn
    simp only [List.length_nil] at *
    go_enter Try.func56, Try.ntmps56
    go_wp2_with fail
    go_ret
    exact ⟨_, rfl, ⟨[], rfl, World.ownsRow_nil _ _ _ _, fun i h => by simp at h⟩, Below.refl _ _⟩
  | some ad =>
    obtain ⟨vs, h1, h2, h3⟩ := h.keys
    have hb0 := (Below.refl w.heap.size w).alloc (Nat.le_refl _) (.cells #[] 42)
    have HO0 := Lib.hid (show World.ownsRow (w.alloc (.cells #[] 42)) w.heap.size 42 2 (.slice (some ⟨w.heap.size, 0, none⟩) 0 0) 0 [] from ⟨by simp, .inr ⟨w.heap.size, 0, #[], rfl, Nat.le_refl _, Go.heap_alloc_last w _, Nat.le_refl _, by simp [maxLen], by simp, by simp⟩⟩)
    have HX := Lib.hid (fun j u hj => below_keep hb0 _ _ (h3 j u hj))
    have HL := Lib.hid (entC_len vs es h1)
    have H6 := Lib.hid (entC_one vs es h1 (fun v hv => by
      obtain ⟨i, hi, rfl⟩ := List.mem_iff_getElem.1 hv
      obtain ⟨A', n', c', e, -⟩ := h2 i (by omega) hi
      rw [e]; rfl))
    have HK := Lib.hid h2
    clear h h2 h3 hb0
    go_enter Try.func56, Try.ntmps56
    go_wp2_with (at_builtin; refine wpList_append_own _ rfl _ _ 36 rfl w.heap.size 42 i0 (.agg #[.slice none 0 0, .int .i64 0]) 2 32 Try.underlying36 H1.out H2.out H3.out H4.out rfl (by decide) _ _ _ rfl HO0.out ad es.length c (entC vs es) rfl ?c0 ?c1 ?c2 ?c3 ?c4 ?c5 ?_)
    case c0 => exact HL.out
    case c1 => exact HX.out
    case c2 => exact H6.out
    case c3 => unfold maxLen; omega
    case c4 => omega
    case c5 => simp
    intro v9 w9 hown9 hgrow9 _
    go_wp2_with fail
    go_ret
    refine ⟨_, rfl, ⟨vs, h1, ?_, HK.out⟩, ?_⟩
    · simpa using hown9
    · exact ((Below.refl w.heap.size w).alloc (Nat.le_refl _) _).grown hgrow9 (by simp) (by intro k hk; simp [Value.ownBlock] at hk; omega)
structure MixE (ok : Nat → Prop) (w0 w : World) (base : Nat) (v : Value) (es : List En) (k : Nat) (vs : List Value) : Prop where
  len : vs.length = es.length
  row : w.ownsRow base 42 2 v es.length (entC vs es)
  old : ∀ i (h : i < es.length) (h' : i < vs.length), k ≤ i → ∃ A n c, vs[i] = .slice A n c ∧ n ≤ c ∧ Sl VlR 3 ok w0 A n es[i].key
  new : ∀ i (h : i < es.length) (h' : i < vs.length), i < k → OwnK w base vs[i] es[i].key
  apart : ((vs.take k).flatMap blk).Nodup
theorem MixE.start {ok : Nat → Prop} {w0 w : World} {base : Nat} {v : Value} {es : List En} (h : ShareE ok w0 w base v es) : ∃ vs, MixE ok w0 w base v es 0 vs := by
  obtain ⟨vs, h1, h2, h3⟩ := h
  exact ⟨vs, h1, h2, fun i h h' _ => h3 i h h', fun i _ _ hi => by omega, by simp⟩
theorem MixE.finish {ok : Nat → Prop} {w0 w : World} {base : Nat} {v : Value} {es : List En} {vs : List Value} (h : MixE ok w0 w base v es es.length vs) : OwnE w base v es :=
  ⟨vs, h.len, h.row, fun i hi hi' => h.new i hi hi' hi, by have := h.apart; rwa [List.take_of_length_le (by rw [h.len]; exact Nat.le_refl _)] at this⟩
theorem MixE.below {ok : Nat → Prop} {w0 w w' : World} {base : Nat} {v : Value} {es : List En} {k : Nat} {vs : List Value} (h : MixE ok w0 w base v es k vs) (hb : Below w.heap.size w w') : MixE ok w0 w' base v es k vs :=
  ⟨h.len, ownsRow_below h.row hb, h.old, fun i hi hi' hk => OwnG.below (h.new i hi hi' hk) hb, h.apart⟩
theorem entC_set (vs : List Value) (es : List En) (hl : vs.length = es.length) (k : Nat) (hk : k < es.length) (u : Value) : ((entC vs es).set (k * 2) u).set (k * 2 + 1) (.int .i64 es[k].id) = entC (vs.set k u) es := by
  have hl' : (vs.set k u).length = es.length := by simpa using hl
  refine List.ext_getElem? fun j => ?_
  by_cases hj : j < es.length * 2
  · have hd : j / 2 < es.length := by omega
    have a1 := entC_at vs es hl (j / 2) hd (by omega) (j % 2) (by omega)
    have a2 := entC_at (vs.set k u) es hl' (j / 2) hd (by omega) (j % 2) (by omega)
    rw [show j / 2 * 2 + j % 2 = j by omega] at a1 a2
    rw [a2, List.getElem?_set, List.getElem?_set, List.length_set, entC_len vs es hl, a1, List.getElem_set]
    rcases (show j % 2 = 0 ∨ j % 2 = 1 by omega) with e | e
    · rw [e]
      by_cases h1 : k = j / 2
      · subst h1
        rw [if_neg (by omega), if_pos (by omega), if_pos (by omega), if_pos rfl]; rfl
      · rw [if_neg (by omega), if_neg (by omega), if_neg h1]
    · rw [e]
      by_cases h1 : k = j / 2
      · subst h1
        rw [if_pos (by omega), if_pos (by omega)]; rfl
      · rw [if_neg (by omega), if_neg (by omega)]; rfl
  · rw [List.getElem?_eq_none (by simp [entC_len vs es hl]; omega), List.getElem?_eq_none (by rw [entC_len _ _ hl']; omega)]
theorem OwnK.kept {w w' : World} {base base' g n cap : Nat} {cs : List Value} {v : Value} {xs : List Vl} (hr : w.ownsRow base' 42 2 (.slice (some ⟨g, 0, none⟩) n cap) n cs) (h : OwnK w base v xs) (hg : w.grownBy w' (some g)) : OwnK w' base v xs := by
  refine World.ownsRow.kept h hg ?_
  have := OwnK.ne hr h
  simpa [Value.ownBlock] using this
theorem MixE.step {ok : Nat → Prop} {w0 w : World} {base g cap : Nat} {es : List En} {k : Nat} {vs : List Value} (h : MixE ok w0 w base (.slice (some ⟨g, 0, none⟩) es.length cap) es k vs) (hk : k < es.length) {v1 : Value} (hk1 : OwnK w base v1 es[k].key) (hf : ∀ b ∈ blk v1, b ∉ (vs.take k).flatMap blk) :
    MixE ok w0 ((w.setCell ⟨g, k * 2, none⟩ v1).setCell ⟨g, k * 2 + 1, none⟩ (.int .i64 es[k].id)) base (.slice (some ⟨g, 0, none⟩) es.length cap) es (k + 1) (vs.set k v1) := by
  obtain ⟨s1, g1⟩ := h.row.stored (k * 2) v1
  obtain ⟨s2, g2⟩ := s1.stored (k * 2 + 1) (.int .i64 es[k].id)
  rw [entC_set vs es h.len k hk v1] at s2
  have hvk : k < vs.length := by rw [h.len]; exact hk
  have hkk : ∀ (u : Value) (xs : List Vl), OwnK w base u xs → OwnK ((w.setCell ⟨g, k * 2, none⟩ v1).setCell ⟨g, k * 2 + 1, none⟩ (.int .i64 es[k].id)) base u xs := fun u xs hu => OwnK.kept s1 (OwnK.kept h.row hu g1) g2
  refine ⟨by simpa using h.len, s2, fun i hi hi' hik => ?_, fun i hi hi' hik => ?_, ?_⟩
  · rw [List.getElem_set_ne (by omega)]
    exact h.old i hi (by simpa using hi') (by omega)
  · by_cases e : k = i
    · subst e
      rw [List.getElem_set_self]
      exact hkk _ _ hk1
    · rw [List.getElem_set_ne e]
      exact hkk _ _ (h.new i hi (by simpa using hi') (by omega))
  · have e : (vs.set k v1).take (k + 1) = vs.take k ++ [v1] := by
      rw [List.take_succ_eq_append_getElem (by simpa using hvk), List.getElem_set_self, List.take_set, List.set_eq_of_length_le (by simp; omega)]
    rw [e, List.flatMap_append]
    refine List.nodup_append.2 ⟨h.apart, ?_, fun a ha b hb => ?_⟩
    · have hs : ∀ a : Option Nat, a.toList.Nodup := fun a => by cases a <;> simp
      simpa [blk] using hs v1.ownBlock
    · rintro rfl
      exact hf a (by simpa using hb) ha
theorem MixE.fresh {ok : Nat → Prop} {w0 w w1 : World} {base base1 : Nat} {v k : Value} {es : List En} {m : Nat} {vs : List Value} {xs : List Vl} (h : MixE ok w0 w base v es m vs) (hk : OwnK w1 base1 k xs) (hb : w.heap.size ≤ base1) : ∀ b ∈ blk k, b ∉ (vs.take m).flatMap blk := fun b hb' hh => by
  obtain ⟨u, hu, hbu⟩ := List.mem_flatMap.1 hh
  obtain ⟨i, hi, rfl⟩ := List.mem_iff_getElem.1 hu
  have hi2 : i < m ∧ i < vs.length := by rw [List.length_take] at hi; omega
  rw [List.getElem_take] at hbu
  have h1 := (OwnG.block_lt hk b (by simpa [blk] using hb')).1
  have h2 := (OwnG.block_lt (h.new i (by rw [← h.len]; exact hi2.2) hi2.2 hi2.1) b (by simpa [blk] using hbu)).2
  omega
end Go.Proofs.Ytlpfpcnafejkoaa
namespace Go.Proofs.Ytlpfpcnafejkoaa
open Go.RowKit
attribute [local go_sem] run_store_fnE
theorem OwnE.far {w : World} {base : Nat} {v : Value} {es : List En} (h : OwnE w base v es) {p : Addr} (hp : p.block < base) (u : Value) : OwnE (w.setCell p u) base v es := by
  obtain ⟨vs, h⟩ := h
  exact ⟨vs, h.len, ownsRow_setCell_below h.row hp u, fun i hi hi' => ownsRow_setCell_below (h.key i hi hi') hp u, h.apart⟩
theorem infoSortC : (Try.prog.info? 67).map (·.size) = some 2 := by kernel_rfl
set_option maxRecDepth 100000 in
set_option maxHeartbeats 2000000 in
theorem implSortedCopy (A : Option Addr) (n c : Nat) (es : List En) (ok : Nat → Prop) (w : World) (h : Sl EnR 2 ok w A n es) (hl : n ≤ 1073741824) (hk : ∀ x ∈ es, x.key.length ≤ 1073741824) :
    Calls Try.prog 40 #[.slice A n c] w fun e w' => ∃ v, e = .returned (.agg #[v, .func (.func 53) #[] #[]]) ∧ OwnE w' w.heap.size v es ∧ Below w.heap.size w w' := by
  obtain rfl : es.length = n := h.1
  have HK := Lib.hid hk
  clear hk
  have hb0 := (Below.refl w.heap.size w).alloc (Nat.le_refl _) (.cells #[.slice none 0 0, Value.nilFunc] 67)
  have r0 := Row.new w 67 #[.slice none 0 0, Value.nilFunc]
  have hx0 : (w.alloc (.cells #[.slice none 0 0, Value.nilFunc] 67)).heap.size = w.heap.size + 1 := by simp
  go_enter Try.func40, Try.ntmps40
  go_wp2_with fail
  generalize w.alloc (.cells #[.slice none 0 0, Value.nilFunc] 67) = z0 at *
  refine (implCloneEnts A _ c es _ _ (h.below EnR.stays hb0) hl).mono ?_
  rintro e w1 ⟨v1, rfl, hS, hb1⟩
  obtain ⟨vs0, hM0⟩ := MixE.start hS
  obtain ⟨A', c', rfl⟩ : ∃ A' c', v1 = .slice A' es.length c' := by
    rcases hM0.row.2 with ⟨rfl, hn⟩ | ⟨g, cap, cur, rfl, -⟩
    · exact ⟨none, 0, by rw [hn]⟩
    · exact ⟨_, _, rfl⟩
  have HM0 := Lib.hid (Exists.intro vs0 hM0)
  have HR0 := Lib.hid (r0.below hb1)
  have HB0 := Lib.hid hb1
  have HX := Lib.hid hx0
  have HBW := Lib.hid hb0
  clear hS hM0 r0 hb1 hx0 hb0 h
  go_wp2_with fail
  go_loopw [9] (fun i wr => ∃ (k : Nat), k ≤ es.length ∧ i = .int .i64 k ∧ Hid (∃ vs, MixE ok z0 wr z0.heap.size (.slice A' es.length c') es k vs) ∧ Hid (Row wr w.heap.size 67 #[.slice none 0 0, Value.nilFunc]) ∧ Hid (Below z0.heap.size z0 wr)) (fun i _ => es.length - (intOf i).toNat)
  case atStart => exact ⟨0, by omega, rfl, HM0, HR0, HB0⟩
  case round =>
    clear HM0 HR0 HB0
    obtain ⟨k, hk, rfl, hm, hr, hbz⟩ := hrel
    by_cases hlt : k < es.length
    · obtain ⟨vs, hM⟩ := hm.out
      obtain ⟨g, rfl, hg⟩ : ∃ g, A' = some ⟨g, 0, none⟩ ∧ z0.heap.size ≤ g := by
        rcases hM.row.2 with ⟨e, hn⟩ | ⟨g, cap, cur, e, hg, -⟩
        · omega
        · cases e; exact ⟨g, rfl, hg⟩
      have hvk : k < vs.length := by rw [hM.len]; exact hlt
      obtain ⟨A1, n1, c1, hv, hc1, hky⟩ := hM.old k hlt hvk (Nat.le_refl _)
      have q0 : wr.cell? ⟨g, k * 2, none⟩ = some (.slice A1 n1 c1) := by
        rw [World.ownsRow.cellAt hM.row (k * 2) (by omega)]
        have := entC_at vs es hM.len k hlt hvk 0 (by omega)
        rw [hv] at this
        exact this
      have q1 : wr.cell? ⟨g, k * 2 + 1, none⟩ = some (.int .i64 es[k].id) := by
        rw [World.ownsRow.cellAt hM.row (k * 2 + 1) (by omega)]
        exact entC_at vs es hM.len k hlt hvk 1 (by omega)
      have hky' := hky.below VlR.stays hbz.out
      have hkl : n1 ≤ 1073741824 := by have := hky.1; have := HK.out es[k] (List.getElem_mem hlt); omega
      have i0' : (0 : Int) ≤ k := by omega
      have i1 : (k : Int) < es.length := by omega
      have HM := Lib.hid hM
      have HG := Lib.hid hg
      clear hm hM hv hky hg
      go_wp2_with fail
      refine (implCopyEntry es[k] A1 n1 c1 _ _ hky' hkl).mono ?_
      rintro e w2 ⟨v2, rfl, hk2, hb2⟩
      obtain ⟨A2, c2, rfl⟩ := hk2.shape
      have q0' := below_keep hb2 _ _ q0
      have q1' := below_keep hb2 _ _ q1
      have f0 := World.ownsRow.frozenAt (HM.out.below hb2).row (k * 2)
      have f1 := World.ownsRow.frozenAt (HM.out.below hb2).row (k * 2 + 1)
      have HM2 := Lib.hid ((HM.out.below hb2).step hlt (hk2.mono hbz.out.size) (HM.out.fresh hk2 (Nat.le_refl _)))
      have HB2 := Lib.hid (((hbz.out.trans (hb2.mono hbz.out.size)).setCell (p := ⟨g, k * 2, none⟩) HG.out (.slice A2 es[k].key.length c2)).setCell (p := ⟨g, k * 2 + 1, none⟩) HG.out (.int .i64 es[k].id))
      have HR2 := Lib.hid (((hr.out.below hb2).far (p := ⟨g, k * 2, none⟩) (by have := HG.out; have := HX.out; show w.heap.size ≠ g; omega) (.slice A2 es[k].key.length c2)).far (p := ⟨g, k * 2 + 1, none⟩) (by have := HG.out; have := HX.out; show w.heap.size ≠ g; omega) (.int .i64 es[k].id))
      clear q0 q1 hk2 hb2 hr hbz
      go_wp2_with fail
      go_roundw
      case rel => exact ⟨k + 1, by omega, by go_num, Lib.hid ⟨_, HM2.out⟩, HR2, HB2⟩
      case measure => simp [intOf]; omega
    · obtain rfl : k = es.length := by omega
      obtain ⟨vs, hM⟩ := hm.out
      have HE := Lib.hid hM.finish
      have hrr := hr.out
      obtain ⟨⟨y0, y1⟩, ⟨f0, f1⟩⟩ := hrr.all2
      have HRR := Lib.hid hrr
      clear hM hm hr hrr
      go_wp2_with fail
      have hr2 := (HRR.out.set 0 (.slice A' es.length c')).set 1 (.func (.func 53) #[] #[])
      have hx := HX.out
      refine bodyPost_ret (results_cell_row (p := 2) (ty := 67) rfl _ _ w.heap.size 67 #[.slice A' es.length c', .func (.func 53) #[] #[]] (0, 0) _ rfl hr2 Try.underlying67 rfl infoSortC) rfl ⟨_, rfl, ?_, ?_⟩
      · exact ((HE.out.far (p := ⟨w.heap.size, 0, none⟩) (by show w.heap.size < z0.heap.size; omega) _).far (p := ⟨w.heap.size, 1, none⟩) (by show w.heap.size < z0.heap.size; omega) _).mono (by omega)
      · exact ((HBW.out.trans (hbz.out.mono (by omega))).setCell (by simp) _).setCell (by simp) _
end Go.Proofs.Ytlpfpcnafejkoaa
namespace Go.Proofs.Ytlpfpcnafejkoaa
open Go.RowKit
theorem ownsRow_typed {w : World} {base : Nat} {T : TypeId} {sz : Nat} {v : Value} {n : Nat} {xs : List Value} (h : w.ownsRow base T sz v n xs) {k : Nat} (hk : v.ownBlock = some k) : base ≤ k ∧ ∃ cur, w.heap[k]? = some (.cells cur T (0, 0)) := by
  rcases h.2 with ⟨rfl, -⟩ | ⟨g, cap, cur, rfl, h1, h2, -⟩
  · simp [Value.ownBlock] at hk
  · simp [Value.ownBlock] at hk
    subst hk
    exact ⟨h1, cur, h2⟩
section
def setAll (l : List Value) (off : Nat) : List Value → List Value
  | [] => l
  | u :: us => setAll (l.set off u) (off + 1) us
theorem setAll_len : ∀ (us l : List Value) (off : Nat), (setAll l off us).length = l.length
  | [], _, _ => rfl
  | u :: us, l, off => by rw [setAll, setAll_len us]; simp
theorem setAll_get : ∀ (us l : List Value) (off j : Nat), off + us.length ≤ l.length → (setAll l off us)[j]? = if off ≤ j ∧ j < off + us.length then us[j - off]? else l[j]?
  | [], l, off, j, _ => by
    rw [setAll, if_neg]
    intro h
    simp only [List.length_nil] at h
    omega
  | u :: us, l, off, j, hl => by
    simp only [List.length_cons] at hl
    rw [setAll, setAll_get us _ _ _ (by simp; omega)]
    simp only [List.length_cons]
    by_cases e : j = off
    · subst e
      rw [if_neg (by omega), if_pos (by omega), List.getElem?_set_self (by omega)]
      simp
    · by_cases h1 : off + 1 ≤ j ∧ j < off + 1 + us.length
      · rw [if_pos h1, if_pos (by omega), show j - off = (j - (off + 1)) + 1 by omega]
        simp
      · rw [if_neg h1, if_neg (by omega), List.getElem?_set_ne (by omega)]
end
end Go.Proofs.Ytlpfpcnafejkoaa
namespace Go.Proofs.Ytlpfpcnafejkoaa
open Go.RowKit
theorem grown_refl (w : World) (r : Option Nat) : w.grownBy w r := ⟨rfl, rfl, rfl, Nat.le_refl _, fun _ _ _ => rfl⟩
theorem setCells_owns {T : TypeId} {sz base g n cap : Nat} : ∀ (us : List Value) (off : Nat) (w : World) (xs : List Value), w.ownsRow base T sz (.slice (some ⟨g, 0, none⟩) n cap) n xs →
    (w.setCells g off us).ownsRow base T sz (.slice (some ⟨g, 0, none⟩) n cap) n (setAll xs off us) ∧ w.grownBy (w.setCells g off us) (some g)
  | [], off, w, xs, h => ⟨h, grown_refl _ _⟩
  | u :: us, off, w, xs, h => by
    obtain ⟨s1, g1⟩ := h.stored off u
    obtain ⟨s2, g2⟩ := setCells_owns us (off + 1) _ _ s1
    exact ⟨s2, g1.trans g2⟩
theorem ownsRow_cut {w : World} {T : TypeId} {sz base n m cap : Nat} {A : Option Addr} {xs : List Value} (h : w.ownsRow base T sz (.slice A n cap) n xs) (hm : m ≤ n) (h0 : A ≠ none) : w.ownsRow base T sz (.slice A m cap) m (xs.take (m * sz)) := by
  refine ⟨by rw [List.length_take, h.1]; have := Nat.mul_le_mul_right sz hm; omega, ?_⟩
  rcases h.2 with ⟨e, hn⟩ | ⟨g, cap', cur, e, h1, h2, h3, h4, h5, h6⟩
  · injection e with e1 e2 e3
    exact absurd e1 h0
  · injection e with e1 e2 e3
    subst e1 e3
    refine .inr ⟨g, cap, cur, rfl, h1, h2, by omega, h4, h5, ?_⟩
    rw [← h6, List.take_take]
    congr 1
    have := Nat.mul_le_mul_right sz hm
    omega
theorem cut_list (xs : List Value) (i n : Nat) (hi : i < n) (hx : xs.length = n * 2) (z : List Value) (hz : z.length = 2) :
    (setAll (setAll xs (i * 2) (xs.drop ((i + 1) * 2))) ((n - 1) * 2) z).take ((n - 1) * 2) = xs.take (i * 2) ++ xs.drop ((i + 1) * 2) := by
  have l1 : (xs.drop ((i + 1) * 2)).length = (n - 1 - i) * 2 := by rw [List.length_drop, hx]; omega
  have l2 : (setAll xs (i * 2) (xs.drop ((i + 1) * 2))).length = n * 2 := by rw [setAll_len, hx]
  refine List.ext_getElem? fun j => ?_
  rw [List.getElem?_take]
  by_cases hj : j < (n - 1) * 2
  · rw [if_pos hj, setAll_get _ _ _ _ (by rw [hz, l2]; omega), if_neg (by omega), setAll_get _ _ _ _ (by rw [l1, hx]; omega), l1]
    by_cases h : j < i * 2
    · rw [if_neg (by omega), List.getElem?_append_left (by rw [List.length_take, hx]; omega), List.getElem?_take, if_pos h]
    · rw [if_pos (by omega), List.getElem?_append_right (by rw [List.length_take, hx]; omega), List.length_take, hx, Nat.min_eq_left (by omega)]
  · rw [if_neg hj, List.getElem?_eq_none (by rw [List.length_append, List.length_take, l1, hx]; omega)]
theorem entC_cons (v : Value) (e : En) (vs : List Value) (es : List En) : entC (v :: vs) (e :: es) = [v, .int .i64 e.id] ++ entC vs es := rfl
theorem entC_erase : ∀ (vs : List Value) (es : List En) (i : Nat), vs.length = es.length → i < es.length → (entC vs es).take (i * 2) ++ (entC vs es).drop ((i + 1) * 2) = entC (vs.eraseIdx i) (es.eraseIdx i)
  | [], [], i, _, h => by simp at h
  | [], _ :: _, _, h, _ => by simp at h
  | _ :: _, [], _, h, _ => by simp at h
  | v :: vs, e :: es, 0, h, _ => by rw [entC_cons]; simp
  | v :: vs, e :: es, i + 1, h, hi => by
    have := entC_erase vs es i (by simpa using h) (by simpa using hi)
    have e1 : ∀ L : List Value, ([v, .int .i64 e.id] ++ L).take ((i + 1) * 2) = [v, .int .i64 e.id] ++ L.take (i * 2) := fun L => by rw [show (i + 1) * 2 = i * 2 + 1 + 1 by omega]; rfl
    have e2 : ∀ L : List Value, ([v, .int .i64 e.id] ++ L).drop ((i + 1 + 1) * 2) = L.drop ((i + 1) * 2) := fun L => by rw [show (i + 1 + 1) * 2 = (i + 1) * 2 + 1 + 1 by omega]; rfl
    rw [entC_cons, e1, e2, List.eraseIdx_cons_succ, List.eraseIdx_cons_succ, entC_cons, ← this, List.append_assoc]
theorem erase_nodup {vs : List Value} {i : Nat} (h : (vs.flatMap blk).Nodup) : ((vs.eraseIdx i).flatMap blk).Nodup := by
  rw [List.eraseIdx_eq_take_drop_succ, List.flatMap_append]
  by_cases hi : i < vs.length
  · have e : vs = vs.take i ++ (vs[i] :: vs.drop (i + 1)) := by rw [← List.drop_eq_getElem_cons hi, List.take_append_drop]
    rw [e, List.flatMap_append, List.flatMap_cons] at h
    obtain ⟨h1, h2, h3⟩ := List.nodup_append.1 h
    obtain ⟨h4, h5, h6⟩ := List.nodup_append.1 h2
    have e1 : (vs.take i ++ vs[i] :: vs.drop (i + 1)).take i = vs.take i := by rw [← e]
    have e2 : (vs.take i ++ vs[i] :: vs.drop (i + 1)).drop (i + 1) = vs.drop (i + 1) := by rw [← e]
    rw [List.nodup_append]
    exact ⟨h1, h5, fun a ha b hb => h3 a ha b (List.mem_append_right _ hb)⟩
  · rw [List.drop_of_length_le (by omega), List.take_of_length_le (by omega)]
    simpa using h
theorem OwnE.erased {w : World} {base g cap i : Nat} {es : List En} (h : OwnE w base (.slice (some ⟨g, 0, none⟩) es.length cap) es) (hi : i < es.length) :
    ∃ vs, vs.length = es.length ∧ (∀ j u, (entC vs es)[j]? = some u → w.cell? ⟨g, j, none⟩ = some u) ∧ (∀ u ∈ entC vs es, u.oneCell' = true) ∧ (∀ o, w.frozen? ⟨g, o, none⟩ = false) ∧ (∀ j, j < es.length * 2 → (w.cell? ⟨g, j, none⟩).isSome = true) ∧ base ≤ g ∧ g < w.heap.size ∧ es.length ≤ cap ∧ cap ≤ maxLen ∧
      (∀ j, j < es.length * 2 → ((w.setCells g (i * 2) ((entC vs es).drop ((i + 1) * 2))).cell? ⟨g, j, none⟩).isSome = true) ∧ (∀ o, (w.setCells g (i * 2) ((entC vs es).drop ((i + 1) * 2))).frozen? ⟨g, o, none⟩ = false) ∧
      ∀ z : List Value, z.length = 2 → OwnE ((w.setCells g (i * 2) ((entC vs es).drop ((i + 1) * 2))).setCells g ((es.length - 1) * 2) z) base (.slice (some ⟨g, 0, none⟩) (es.length - 1) cap) (es.eraseIdx i) ∧ w.grownBy ((w.setCells g (i * 2) ((entC vs es).drop ((i + 1) * 2))).setCells g ((es.length - 1) * 2) z) (some g) := by
  obtain ⟨vs, h⟩ := h
  have hl := entC_len vs es h.len
  have hcell : ∀ j u, (entC vs es)[j]? = some u → w.cell? ⟨g, j, none⟩ = some u := fun j u hj => by
    have hlt := (List.getElem?_eq_some_iff.1 hj).1
    rw [World.ownsRow.cellAt h.row j (by omega)]
    exact hj
  have h0 := h.row
  obtain ⟨g0, cap0, cur, e, k1, k2, k3, k4, k5, k6⟩ : ∃ g' cap' cur, Value.slice (some ⟨g, 0, none⟩) es.length cap = .slice (some ⟨g', 0, none⟩) es.length cap' ∧ base ≤ g' ∧ w.heap[g']? = some (.cells cur 42 (0, 0)) ∧ es.length ≤ cap' ∧ cap' ≤ maxLen ∧ cur.size = cap' * 2 ∧ cur.toList.take (es.length * 2) = entC vs es := by
    rcases h0.2 with ⟨e, -⟩ | h'
    · cases e
    · exact h'
  injection e with e1 e2 e3
  injection e1 with e1
  injection e1 with e1
  subst e1 e3
  refine ⟨vs, h.len, hcell, entC_one vs es h.len (fun v hv => ?_), fun o => World.ownsRow.frozenAt h.row o, fun j hj => ?_, k1, lt_of_block k2, k3, k4, fun j hj => ?_, fun o => ?_, fun z hz => ?_⟩
  · obtain ⟨k, hk, rfl⟩ := List.mem_iff_getElem.1 hv
    exact OwnK.one (h.key k (by rw [← h.len]; exact hk) hk)
  · rw [World.ownsRow.cellAt h.row j hj, List.getElem?_eq_getElem (by omega)]; rfl
  · obtain ⟨s1, g1⟩ := setCells_owns ((entC vs es).drop ((i + 1) * 2)) (i * 2) w _ h.row
    rw [World.ownsRow.cellAt s1 j hj, List.getElem?_eq_getElem (by rw [setAll_len]; omega)]; rfl
  · obtain ⟨s1, g1⟩ := setCells_owns ((entC vs es).drop ((i + 1) * 2)) (i * 2) w _ h.row
    exact World.ownsRow.frozenAt s1 o
  · obtain ⟨s1, g1⟩ := setCells_owns ((entC vs es).drop ((i + 1) * 2)) (i * 2) w _ h.row
    obtain ⟨s2, g2⟩ := setCells_owns z ((es.length - 1) * 2) _ _ s1
    have hg := g1.trans g2
    have s3 := ownsRow_cut s2 (m := es.length - 1) (by omega) (by simp)
    rw [cut_list _ i es.length hi hl z hz, entC_erase vs es i h.len hi] at s3
    have hle : (es.eraseIdx i).length = es.length - 1 := List.length_eraseIdx_of_lt hi
    refine ⟨⟨vs.eraseIdx i, by rw [List.length_eraseIdx_of_lt hi, List.length_eraseIdx_of_lt (by rw [h.len]; exact hi), h.len], by rw [hle]; exact s3, fun k hk hk' => ?_, erase_nodup h.apart⟩, ?_⟩
    · rw [List.getElem_eraseIdx, List.getElem_eraseIdx]
      split
      · exact OwnK.kept h.row (h.key _ _ _) hg
      · exact OwnK.kept h.row (h.key _ _ _) hg
    · exact hg
def ahead (l : List En) (e : En) (h : Nat) : Bool := match l[h]? with
  | some x => decide (ordE x e < 0)
  | none => false
def bsGo (l : List En) (e : En) (i j : Nat) : Nat := if i < j then (if ahead l e ((i + j) / 2) then bsGo l e ((i + j) / 2 + 1) j else bsGo l e i ((i + j) / 2)) else i
termination_by j - i
def bs (l : List En) (e : En) : Nat := bsGo l e 0 l.length
def bsHit (l : List En) (e : En) : Bool := match l[bs l e]? with
  | some x => ordE x e == 0
  | none => false
theorem bsGo_lt {l : List En} {e : En} {i j : Nat} (h : i < j) : bsGo l e i j = if ahead l e ((i + j) / 2) then bsGo l e ((i + j) / 2 + 1) j else bsGo l e i ((i + j) / 2) := by rw [bsGo, if_pos h]
theorem bsGo_end {l : List En} {e : En} {i j : Nat} (h : ¬ i < j) : bsGo l e i j = i := by rw [bsGo, if_neg h]
set_option maxRecDepth 100000 in
set_option maxHeartbeats 1000000 in
theorem libSearch (A : Option Addr) (n c : Nat) (l : List En) (ok : Nat → Prop) (e : En) (B : Option Addr) (m d : Nat) (ok' : Nat → Prop) (w : World) (h : Sl EnR 2 ok w A n l) (hn : n ≤ 1048576) (hk : ∀ x ∈ l, x.key.length ≤ 1048576) (hE : Sl VlR 3 ok' w B m e.key) (hm : m ≤ 1048576) :
    Calls Try.prog 68 #[.slice A n c, .agg #[.slice B m d, .int .i64 e.id], .func (.func 53) #[] #[]] w fun r w' => r = .returned (.tuple #[.int .i64 (bs l e : Nat), .bool (bsHit l e)]) ∧ Below w.heap.size w w' := by
  obtain rfl : l.length = n := h.1
  obtain rfl : e.key.length = m := hE.1
  have HK := Lib.hid hk
  clear hk
  have hb0 := (Below.refl w.heap.size w).alloc (Nat.le_refl _) (.cells #[.slice B e.key.length d, .int .i64 e.id] 42)
  have r0 := Row.new w 42 #[.slice B e.key.length d, .int .i64 e.id]
  go_enter Try.func68, Try.ntmps68
  go_wp2_with fail
  generalize w.alloc (.cells #[.slice B e.key.length d, .int .i64 e.id] 42) = z0 at *
  go_loopw [9, 10] (fun i j wr => ∃ (a b : Nat), i = .int .i64 a ∧ j = .int .i64 b ∧ Hid (a ≤ b ∧ b ≤ l.length) ∧ Hid (bsGo l e a b = bs l e) ∧ Hid (Row wr w.heap.size 42 #[.slice B e.key.length d, .int .i64 e.id]) ∧ Hid (Below w.heap.size w wr)) (fun i j _ => (intOf j).toNat - (intOf i).toNat)
  case atStart => exact ⟨0, l.length, rfl, rfl, Lib.hid ⟨by omega, by omega⟩, Lib.hid rfl, Lib.hid r0, Lib.hid hb0⟩
  case round =>
    clear hb0 r0
    obtain ⟨a, b, rfl, rfl, hab, hgo, hr, hb⟩ := hrel
    have hab' := hab.out
    by_cases hlt : a < b
    · have z : decide ((a : Int) < b) = true := by simp; omega
      go_wp2_with fail
      have hc : ((a : Int) + b) / 2 = (((a + b) / 2 : Nat) : Int) := by omega
      rw [hc]
      clear hc
      have hha : a ≤ (a + b) / 2 := by omega
      have hhb : (a + b) / 2 < b := by omega
      have HS := Lib.hid (bsGo_lt (l := l) (e := e) hlt)
      generalize (a + b) / 2 = k at *
      have hkl : k < l.length := by omega
      have i0' : (0 : Int) ≤ k := by omega
      have i1 : (k : Int) < l.length := by omega
      obtain ⟨b1, o1, A1, n1, c1, -, rfl, q0, q1, hky, -⟩ := EnR.at_ (h.below EnR.stays hb.out) hkl
      obtain ⟨⟨p0, p1⟩, -⟩ := hr.out.all2
      have hkd : Sl VlR 3 ok wr.drew A1 n1 l[k].key := hky.stays VlR.stays (fun _ h => h) (fun p v _ h => h)
      have hed : Sl VlR 3 ok' wr.drew B e.key.length e.key := (hE.below VlR.stays hb.out).stays VlR.stays (fun _ h => h) (fun p v _ h => h)
      have hn1 : n1 ≤ 1048576 := by have := hky.1; have := HK.out l[k] (List.getElem_mem hkl); omega
      have HA := Lib.hid (show ahead l e k = decide (ordE l[k] e < 0) by unfold ahead; rw [List.getElem?_eq_getElem hkl])
      have HX := Lib.hid (implOrderEntries l[k] e A1 B n1 c1 e.key.length d _ _ _ hkd hed hn1 hm)
      have d0 : wr.drew.cell? ⟨b1, o1 + k * 2, none⟩ = some (.slice A1 n1 c1) := q0
      have d1 : wr.drew.cell? ⟨b1, o1 + k * 2 + 1, none⟩ = some (.int .i64 l[k].id) := q1
      have d2 : wr.drew.cell? ⟨w.heap.size, 0, none⟩ = some (.slice B e.key.length d) := p0
      have d3 : wr.drew.cell? ⟨w.heap.size, 1, none⟩ = some (.int .i64 e.id) := p1
      clear hky hab hkd hed
      go_region_held3 (fun w' => w'.cell? ⟨b1, o1 + k * 2, none⟩ = some (.slice A1 n1 c1) ∧ w'.cell? ⟨b1, o1 + k * 2 + 1, none⟩ = some (.int .i64 l[k].id) ∧ w'.cell? ⟨w.heap.size, 0, none⟩ = some (.slice B e.key.length d) ∧ w'.cell? ⟨w.heap.size, 1, none⟩ = some (.int .i64 e.id))
        (first | go_keep | exact keepC4 (by assumption) hb1)
        (first | (go_at_call 53; refine HX.out.mono ?_; rintro r1 w1 ⟨rfl, hb1⟩))
      have HB := Lib.hid (show Below w.heap.size w w1 from hb.out.drew.trans (hb1.mono hb.out.size))
      have HR := Lib.hid (show Row w1 w.heap.size 42 #[.slice B e.key.length d, .int .i64 e.id] from Row.below (w := wr.drew) hr.out hb1)
      clear HX d0 d1 d2 d3 q0 q1 p0 p1 hb hr hb1
      by_cases hc : ordE l[k] e < 0
      · have zc : decide (ordE l[k] e < 0) = true := decide_eq_true hc
        have HN := Lib.hid (show bsGo l e (k + 1) b = bs l e by rw [← hgo.out, HS.out, HA.out, zc]; rfl)
        go_wp2_with fail
        go_roundw
        case rel => exact ⟨k + 1, b, by first | rfl | go_num, rfl, Lib.hid ⟨by omega, by omega⟩, HN, HR, HB⟩
        case measure => simp [intOf]; omega
      · have zc : decide (ordE l[k] e < 0) = false := decide_eq_false hc
        have HN := Lib.hid (show bsGo l e a k = bs l e by rw [← hgo.out, HS.out, HA.out, zc]; rfl)
        go_wp2_with fail
        go_roundw
        case rel => exact ⟨a, k, rfl, rfl, Lib.hid ⟨by omega, by omega⟩, HN, HR, HB⟩
        case measure => simp [intOf]; omega
    · obtain rfl : a = b := by omega
      have HBS := Lib.hid (show bs l e = a by rw [← hgo.out, bsGo_end (by omega)])
      clear hgo
      have z : decide ((a : Int) < a) = false := by simp
      by_cases hal : a < l.length
      · have z2 : decide ((a : Int) < (l.length : Int)) = true := decide_eq_true (by omega)
        have HH := Lib.hid (show bsHit l e = (ordE l[a] e == 0) by unfold bsHit; rw [HBS.out, List.getElem?_eq_getElem hal])
        have i0' : (0 : Int) ≤ a := by omega
        have i1 : (a : Int) < l.length := by omega
        obtain ⟨b1, o1, A1, n1, c1, -, rfl, q0, q1, hky, -⟩ := EnR.at_ (h.below EnR.stays hb.out) hal
        obtain ⟨⟨p0, p1⟩, -⟩ := hr.out.all2
        have hkd : Sl VlR 3 ok wr.drew A1 n1 l[a].key := hky.stays VlR.stays (fun _ h => h) (fun p v _ h => h)
        have hed : Sl VlR 3 ok' wr.drew B e.key.length e.key := (hE.below VlR.stays hb.out).stays VlR.stays (fun _ h => h) (fun p v _ h => h)
        have hn1 : n1 ≤ 1048576 := by have := hky.1; have := HK.out l[a] (List.getElem_mem hal); omega
        have HX := Lib.hid (implOrderEntries l[a] e A1 B n1 c1 e.key.length d _ _ _ hkd hed hn1 hm)
        have d0 : wr.drew.cell? ⟨b1, o1 + a * 2, none⟩ = some (.slice A1 n1 c1) := q0
        have d1 : wr.drew.cell? ⟨b1, o1 + a * 2 + 1, none⟩ = some (.int .i64 l[a].id) := q1
        have d2 : wr.drew.cell? ⟨w.heap.size, 0, none⟩ = some (.slice B e.key.length d) := p0
        have d3 : wr.drew.cell? ⟨w.heap.size, 1, none⟩ = some (.int .i64 e.id) := p1
        clear hky hab hkd hed
        go_wp2_with fail
        go_region_held3? (fun w' => w'.cell? ⟨b1, o1 + a * 2, none⟩ = some (.slice A1 n1 c1) ∧ w'.cell? ⟨b1, o1 + a * 2 + 1, none⟩ = some (.int .i64 l[a].id) ∧ w'.cell? ⟨w.heap.size, 0, none⟩ = some (.slice B e.key.length d) ∧ w'.cell? ⟨w.heap.size, 1, none⟩ = some (.int .i64 e.id))
          (first | go_keep | exact keepC4 (by assumption) hb1)
          (first | (go_at_call 53; refine HX.out.mono ?_; rintro r1 w1 ⟨rfl, hb1⟩))
        have HB := Lib.hid (show Below w.heap.size w w1 from hb.out.drew.trans (hb1.mono hb.out.size))
        go_wp2_with fail
        go_ret2
        exact ⟨by rw [HBS.out, HH.out]; rfl, HB.out⟩
      · obtain rfl : a = l.length := by omega
        have z2 : decide ((l.length : Int) < (l.length : Int)) = false := decide_eq_false (by omega)
        have HH := Lib.hid (show bsHit l e = false by unfold bsHit; rw [HBS.out, List.getElem?_eq_none (Nat.le_refl _)])
        have z3 : decide (l.length < l.length) = false := by simp
        go_wp2_with fail
        go_quiet (fail)
        go_wp2_with fail
        go_ret2
        exact ⟨by rw [HBS.out, HH.out]; rfl, below_dN hb.out _⟩
def rgV (v : Vl) : Prop := valOkB v.k v.n v.s = true
def rgE (e : En) : Prop := ∀ v ∈ e.key, rgV v
theorem entryB_ok {e : En} (h : entryB e = true) : rgE e := fun v hv => by
  unfold entryB rowB at h
  simp only [Bool.and_eq_true, decide_eq_true_eq, List.all_eq_true] at h
  exact h.2.1.2 v hv
theorem ordX_le {x y z : Vl} (h : rgV x) (h' : rgV y) (h2 : rgV z) (a : ordX x y ≤ 0) (b : ordX y z ≤ 0) : ordX x z ≤ 0 := ordOk_le h h' h2 a b
theorem ordL_neg : ∀ a b : List Vl, ordL b a = -ordL a b
  | [], [] => rfl
  | [], _ :: _ => rfl
  | _ :: _, [] => rfl
  | x :: a, y :: b => by
    unfold ordL
    rw [ordX_neg x y]
    by_cases h : ordX x y = 0
    · rw [if_pos h, if_pos (by omega), ordL_neg a b]
    · rw [if_neg h, if_neg (by omega)]
theorem ordL_le : ∀ {a b c : List Vl}, (∀ v ∈ a, rgV v) → (∀ v ∈ b, rgV v) → (∀ v ∈ c, rgV v) → ordL a b ≤ 0 → ordL b c ≤ 0 → ordL a c ≤ 0
  | [], _, [], _, _, _, _, _ => by simp [ordL]
  | [], _, _ :: _, _, _, _, _, _ => by simp [ordL]
  | _ :: _, [], _, _, _, _, h, _ => by simp [ordL] at h
  | _ :: _, _ :: _, [], _, _, _, _, h => by simp [ordL] at h
  | x :: a, y :: b, z :: c, ha, hb, hc, h, k => by
    have h1 := ha x (by simp)
    have h2 := hb y (by simp)
    have h3 := hc z (by simp)
    have b1 := ordX_bd x y
    have b2 := ordX_bd y z
    have b3 := ordX_bd x z
    have n1 := ordX_neg x y
    have n2 := ordX_neg y z
    have n3 := ordX_neg x z
    have IH := ordL_le (a := a) (b := b) (c := c) (fun v hv => ha v (by simp [hv])) (fun v hv => hb v (by simp [hv])) (fun v hv => hc v (by simp [hv]))
    have bb1 := ordL_bd a b
    unfold ordL at h k ⊢
    by_cases e1 : ordX x y = 0
    · rw [if_pos e1] at h
      by_cases e2 : ordX y z = 0
      · rw [if_pos e2] at k
        have t1 := ordX_le h1 h2 h3 (by omega) (by omega)
        have t2 := ordX_le h3 h2 h1 (by omega) (by omega)
        rw [if_pos (by omega)]
        exact IH h k
      · rw [if_neg e2] at k
        have t1 := ordX_le h1 h2 h3 (by omega) (by omega)
        by_cases e3 : ordX x z = 0
        · have t2 := ordX_le h3 h1 h2 (by omega) (by omega)
          omega
        · rw [if_neg e3]; exact t1
    · rw [if_neg e1] at h
      have k' : ordX y z ≤ 0 := by
        by_cases e2 : ordX y z = 0
        · omega
        · rw [if_neg e2] at k; exact k
      have t1 := ordX_le h1 h2 h3 (by omega) k'
      by_cases e3 : ordX x z = 0
      · have t2 := ordX_le h2 h3 h1 (by omega) (by omega)
        omega
      · rw [if_neg e3]; exact t1
theorem ordE_neg (a b : En) : ordE b a = -ordE a b := by
  unfold ordE
  rw [ordL_neg a.key b.key, cmpI_neg a.id b.id]
  by_cases h : ordL a.key b.key = 0
  · rw [if_pos h, if_pos (by omega)]
  · rw [if_neg h, if_neg (by omega)]
theorem ordE_le {a b c : En} (ha : rgE a) (hb : rgE b) (hc : rgE c) (h : ordE a b ≤ 0) (k : ordE b c ≤ 0) : ordE a c ≤ 0 := by
  have n1 := ordL_neg a.key b.key
  have n2 := ordL_neg b.key c.key
  have n3 := ordL_neg a.key c.key
  have i1 := cmpI_cases a.id b.id
  have i2 := cmpI_cases b.id c.id
  have i3 := cmpI_cases a.id c.id
  unfold ordE at h k ⊢
  by_cases e1 : ordL a.key b.key = 0
  · rw [if_pos e1] at h
    by_cases e2 : ordL b.key c.key = 0
    · rw [if_pos e2] at k
      have t1 := ordL_le ha hb hc (by omega) (by omega)
      have t2 := ordL_le hc hb ha (by omega) (by omega)
      rw [if_pos (by omega)]
      omega
    · rw [if_neg e2] at k
      have t1 := ordL_le ha hb hc (by omega) (by omega)
      by_cases e3 : ordL a.key c.key = 0
      · have t2 := ordL_le hc ha hb (by omega) (by omega)
        omega
      · rw [if_neg e3]; exact t1
  · rw [if_neg e1] at h
    have k' : ordL b.key c.key ≤ 0 := by
      by_cases e2 : ordL b.key c.key = 0
      · omega
      · rw [if_neg e2] at k; exact k
    have t1 := ordL_le ha hb hc (by omega) k'
    by_cases e3 : ordL a.key c.key = 0
    · have t2 := ordL_le hb hc ha (by omega) (by omega)
      omega
    · rw [if_neg e3]; exact t1
theorem ordE_lt {a b c : En} (ha : rgE a) (hb : rgE b) (hc : rgE c) (h : ordE a b < 0) (k : ordE b c ≤ 0) : ordE a c < 0 := by
  have h1 := ordE_le ha hb hc (by omega) k
  by_cases e : ordE a c = 0
  · have n1 := ordE_neg a c
    have n2 := ordE_neg a b
    have h2 := ordE_le hb hc ha k (by omega)
    omega
  · omega
theorem rises_step {l : List En} (h : risesB l = true) {i : Nat} (hi : i + 1 < l.length) : ordE l[i] l[i + 1] < 0 := by
  unfold risesB at h
  rw [List.all_eq_true] at h
  have := h i (List.mem_range.2 (by omega))
  rw [upB_at hi] at this
  simpa using this
theorem rises_lt {l : List En} (h : risesB l = true) (ho : ∀ e ∈ l, rgE e) : ∀ (d i : Nat) (hi : i + d + 1 < l.length), ordE (l[i]'(by omega)) l[i + d + 1] < 0
  | 0, i, hi => rises_step h hi
  | d + 1, i, hi => by
    have h1 := rises_lt h ho d i (by omega)
    have h2 := rises_step h (i := i + d + 1) (by omega)
    exact ordE_lt (ho _ (List.getElem_mem _)) (ho _ (List.getElem_mem _)) (ho _ (List.getElem_mem _)) h1 (Int.le_of_lt h2)
theorem rises_lt' {l : List En} (h : risesB l = true) (ho : ∀ e ∈ l, rgE e) {i j : Nat} (hij : i < j) (hj : j < l.length) : ordE (l[i]'(by omega)) l[j] < 0 := by
  obtain ⟨d, rfl⟩ : ∃ d, j = i + d + 1 := ⟨j - i - 1, by omega⟩
  exact rises_lt h ho d i hj
theorem ahead_at {l : List En} {e : En} {h : Nat} (hh : h < l.length) : ahead l e h = decide (ordE l[h] e < 0) := by
  unfold ahead
  rw [List.getElem?_eq_getElem hh]
theorem bsGo_ok {l : List En} {e : En} (hr : risesB l = true) (ho : ∀ x ∈ l, rgE x) (he : rgE e) : ∀ (d i j : Nat), j - i ≤ d → i ≤ j → j ≤ l.length → (∀ k (h : k < l.length), k < i → ordE l[k] e < 0) → (∀ k (h : k < l.length), j ≤ k → ¬ ordE l[k] e < 0) →
    bsGo l e i j ≤ l.length ∧ (∀ k (h : k < l.length), k < bsGo l e i j → ordE l[k] e < 0) ∧ (∀ k (h : k < l.length), bsGo l e i j ≤ k → ¬ ordE l[k] e < 0)
  | d, i, j, hd, hij, hj, h1, h2 => by
    by_cases hlt : i < j
    · rw [bsGo_lt hlt]
      have hk : (i + j) / 2 < l.length := by omega
      rw [ahead_at hk]
      obtain ⟨d', rfl⟩ : ∃ d', d = d' + 1 := ⟨d - 1, by omega⟩
      by_cases hc : ordE l[(i + j) / 2] e < 0
      · rw [decide_eq_true hc, if_pos rfl]
        refine bsGo_ok hr ho he d' _ _ (by omega) (by omega) hj (fun k h hki => ?_) h2
        by_cases e1 : k = (i + j) / 2
        · subst e1; exact hc
        · exact ordE_lt (ho _ (List.getElem_mem _)) (ho _ (List.getElem_mem _)) he (rises_lt' hr ho (by omega) hk) (by omega)
      · rw [decide_eq_false hc, if_neg (by simp)]
        refine bsGo_ok hr ho he d' _ _ (by omega) (by omega) (by omega) h1 (fun k h hki hlt2 => ?_)
        by_cases e1 : k = (i + j) / 2
        · subst e1; exact hc hlt2
        · exact hc (ordE_lt (ho _ (List.getElem_mem _)) (ho _ (List.getElem_mem _)) he (rises_lt' hr ho (show (i + j) / 2 < k by omega) h) (by omega))
    · rw [bsGo_end hlt]
      exact ⟨by omega, fun k h hk => h1 k h hk, fun k h hk => h2 k h (by omega)⟩
theorem bs_ok {l : List En} {e : En} (hr : risesB l = true) (ho : ∀ x ∈ l, rgE x) (he : rgE e) : bs l e ≤ l.length ∧ (∀ k (h : k < l.length), k < bs l e → ordE l[k] e < 0) ∧ (∀ k (h : k < l.length), bs l e ≤ k → ¬ ordE l[k] e < 0) :=
  bsGo_ok hr ho he _ 0 l.length (Nat.le_refl _) (Nat.zero_le _) (Nat.le_refl _) (fun k h hk => by omega) (fun k h hk => by omega)
theorem ordL_zero : ∀ {a b : List Vl}, (∀ v ∈ a, rgV v) → (∀ v ∈ b, rgV v) → (ordL a b = 0 ↔ eqlL a b = true)
  | [], [], _, _ => by simp [ordL, eqlL]
  | [], _ :: _, _, _ => by simp [ordL, eqlL]
  | _ :: _, [], _, _ => by simp [ordL, eqlL]
  | x :: a, y :: b, ha, hb => by
    have IH := ordL_zero (a := a) (b := b) (fun v hv => ha v (by simp [hv])) (fun v hv => hb v (by simp [hv]))
    have hz := ordOk_zero (ha x (by simp)) (hb y (by simp))
    have h1 : eqlL (x :: a) (y :: b) = (eqlV x y && eqlL a b) := by
      unfold eqlL
      simp only [List.length_cons, List.zip_cons_cons, List.all_cons, eqlP]
      by_cases e : a.length = b.length
      · simp [e]
      · rw [decide_eq_false e, decide_eq_false (by omega)]; simp
    rw [h1]
    unfold ordL
    have h2 : (ordX x y = 0) ↔ eqlV x y = true := by
      unfold ordX eqlV
      rcases hz with ⟨z1, z2, z3, z4⟩ | ⟨z1, z4⟩ | ⟨z1, z2, z4⟩ | ⟨z1, z2, z3, z4⟩
      · rw [z1, z2, z3]; simpa using z4
      · rw [z1]; simpa using z4
      · rw [z1, z2]; simpa using z4
      · rw [z1, z2, z3]; simpa using z4
    by_cases e : ordX x y = 0
    · rw [if_pos e, h2.1 e, Bool.true_and]; exact IH
    · rw [if_neg e]
      have : eqlV x y = false := by
        cases h : eqlV x y
        · rfl
        · exact absurd (h2.2 h) e
      rw [this, Bool.false_and]
      exact ⟨fun h => absurd h e, fun h => by cases h⟩
theorem ordE_zero {a b : En} (ha : rgE a) (hb : rgE b) : ordE a b = 0 ↔ sameE a b = true := by
  have hz := ordL_zero ha hb
  unfold ordE sameE
  rw [Bool.and_eq_true, decide_eq_true_eq, ← hz]
  have hc := cmpI_cases a.id b.id
  by_cases e : ordL a.key b.key = 0
  · rw [if_pos e]
    exact ⟨fun h => ⟨by omega, e⟩, fun h => by omega⟩
  · rw [if_neg e]
    exact ⟨fun h => absurd h e, fun h => absurd h.2 e⟩
theorem bs_drop {l : List En} {e : En} (hr : risesB l = true) (ho : ∀ x ∈ l, rgE x) (he : rgE e) : (bsHit l e = true → bs l e < l.length ∧ dropE l e = l.eraseIdx (bs l e)) ∧ (bsHit l e = false → dropE l e = l) := by
  obtain ⟨h1, h2, h3⟩ := bs_ok hr ho he
  have hlow : ∀ k (h : k < l.length), k ≠ bs l e → sameE l[k] e = false := fun k h hk => by
    cases hs : sameE l[k] e
    · rfl
    · have hz := (ordE_zero (ho _ (List.getElem_mem h)) he).2 hs
      rcases Nat.lt_or_ge k (bs l e) with hlt | hge
      · have := h2 k h hlt; omega
      · have hb : bs l e < l.length := by omega
        have h4 := h3 (bs l e) hb (Nat.le_refl _)
        have h5 := rises_lt' hr ho (show bs l e < k by omega) h
        have h6 := ordE_lt (ho _ (List.getElem_mem hb)) (ho _ (List.getElem_mem h)) he h5 (by omega)
        exact absurd h6 h4
  have hf : ∀ (m : List En), (∀ x ∈ m, sameE x e = false) → m.filter (fun x => !sameE x e) = m := fun m hm => List.filter_eq_self.2 fun x hx => by rw [hm x hx]; rfl
  unfold bsHit
  constructor
  · intro h
    rcases Nat.lt_or_ge (bs l e) l.length with hb | hb
    · rw [List.getElem?_eq_getElem hb] at h
      have hz : ordE l[bs l e] e = 0 := by simpa using h
      have hs := (ordE_zero (ho _ (List.getElem_mem hb)) he).1 hz
      refine ⟨hb, ?_⟩
      have e1 : l = l.take (bs l e) ++ l[bs l e] :: l.drop (bs l e + 1) := by rw [← List.drop_eq_getElem_cons hb, List.take_append_drop]
      rw [List.eraseIdx_eq_take_drop_succ]
      unfold dropE
      have e2 : l.filter (fun x => !sameE x e) = (l.take (bs l e)).filter (fun x => !sameE x e) ++ ([l[bs l e]].filter (fun x => !sameE x e) ++ (l.drop (bs l e + 1)).filter (fun x => !sameE x e)) := by
        rw [← List.filter_append, ← List.filter_append]
        congr 1
      rw [e2, hf (l.take (bs l e)) (fun x hx => by
        obtain ⟨k, hk, rfl⟩ := List.mem_iff_getElem.1 hx
        rw [List.length_take] at hk
        rw [List.getElem_take]
        exact hlow k (by omega) (by omega)), hf (l.drop (bs l e + 1)) (fun x hx => by
        obtain ⟨k, hk, rfl⟩ := List.mem_iff_getElem.1 hx
        rw [List.length_drop] at hk
        rw [List.getElem_drop]
        exact hlow _ (by omega) (by omega))]
      simp [hs]
    · rw [List.getElem?_eq_none hb] at h
      cases h
  · intro h
    refine hf l fun x hx => ?_
    obtain ⟨k, hk, rfl⟩ := List.mem_iff_getElem.1 hx
    by_cases e1 : k = bs l e
    · subst e1
      rw [List.getElem?_eq_getElem hk] at h
      cases hs : sameE l[bs l e] e
      · rfl
      · have hz := (ordE_zero (ho _ (List.getElem_mem hk)) he).2 hs
        have h' : (ordE l[bs l e] e == 0) = false := h
        rw [show (ordE l[bs l e] e == 0) = true by simpa using hz] at h'
        cases h'
    · exact hlow k hk e1
theorem dropE_none {l : List En} {e : En} (h : entriesB l = true) (he : entryB e = false) : dropE l e = l := by
  obtain ⟨h1, h2, h3⟩ := entriesB_in h
  unfold dropE
  refine List.filter_eq_self.2 fun x hx => ?_
  have hx1 := (h2 x hx).1
  cases hs : sameE x e
  · rfl
  · exfalso
    unfold sameE at hs
    rw [Bool.and_eq_true, decide_eq_true_eq] at hs
    obtain ⟨hi, hk⟩ := hs
    have hkk : ∀ (a b : List Vl), eqlL a b = true → rowB a = rowB b ∧ a.length = b.length := fun a b hab => by
      unfold eqlL at hab
      rw [Bool.and_eq_true, decide_eq_true_eq] at hab
      refine ⟨?_, hab.1⟩
      unfold rowB
      rw [hab.1]
      congr 1
      have : ∀ (a b : List Vl), a.length = b.length → (a.zip b).all eqlP = true → a.all Vl.ok = b.all Vl.ok := fun a => by
        induction a with
        | nil => intro b hb _; cases b with
          | nil => rfl
          | cons y b => simp at hb
        | cons x a ih =>
          intro b hb hz
          cases b with
          | nil => simp at hb
          | cons y b =>
            simp only [List.zip_cons_cons, List.all_cons, Bool.and_eq_true] at hz ⊢
            have := ih b (by simpa using hb) hz.2
            simp only [List.all_cons, this]
            congr 1
            have hp := hz.1
            simp only [eqlP, eqlV, Bool.and_eq_true, beq_iff_eq] at hp
            unfold Vl.ok
            have hsz : x.s.size = y.s.size := by
              have := congrArg List.length hp.2.2
              rw [ByteArray.toList_eq, ByteArray.toList_eq, Array.length_toList, Array.length_toList] at this
              exact this
            unfold valOkB
            rw [hp.1, hp.2.1, hp.2.2, hsz]
      exact this a b hab.1 hab.2
    obtain ⟨k1, k2⟩ := hkk _ _ hk
    unfold entryB at hx1 he
    rw [k1, k2, hi, he] at hx1
    cases hx1
end Go.Proofs.Ytlpfpcnafejkoaa
namespace Go.Proofs.Ytlpfpcnafejkoaa
open Go.RowKit
attribute [local go_sem] run_store_fnE
theorem run_clear2 {P : Program} (w : World) (t e ty : TypeId) (z z1 z2 : Value) (ht : P.underlying t = some (.slice e)) (hv : ∀ w, (zeroValue e).run P w = .ok z w) (hz : z.cells = #[z1, z2]) (h1 : z1.oneCell' = true) (h2 : z2.oneCell' = true) (b o c n : Nat) (hn : n = 1)
    (hc : ∀ j, j < 2 → (w.cell? ⟨b, o + j, none⟩).isSome = true) (hf : ∀ j, j < 2 → w.frozen? ⟨b, o + j, none⟩ = false) :
    (Builtin.clear_ #[t] ty #[.slice (some ⟨b, o, none⟩) n c]).run P w = .ok (.tuple #[]) (w.setCells b o [z1, z2]) := by
  subst hn
  have hzc : (Builtin.zeroCells z.cells 1).toList = [z1, z2] := by
    rw [hz]
    simp [Builtin.zeroCells, List.range_succ]
  have hst := run_storeCells_cells (P := P) b o [z1, z2] 0 w (by simpa using hc) (by simpa using hf) (by intro v hv'; simp at hv'; rcases hv' with rfl | rfl <;> assumption)
  simp only [Nat.add_zero] at hst
  simp [Builtin.clear_, run_underlying ht, hv, hzc, hst]
set_option maxRecDepth 100000 in
set_option maxHeartbeats 2000000 in
theorem libDelete (g cap i j : Nat) (es : List En) (base : Nat) (w : World) (h : OwnE w base (.slice (some ⟨g, 0, none⟩) es.length cap) es) (hi : i < es.length) (hj : j = i + 1) (hl : es.length ≤ 1048576) {jz : Int} (hz : jz = j) :
    Calls Try.prog 58 #[.slice (some ⟨g, 0, none⟩) es.length cap, .int .i64 i, .int .i64 jz] w fun e w' => e = .returned (.slice (some ⟨g, 0, none⟩) (es.length - 1) cap) ∧ OwnE w' base (.slice (some ⟨g, 0, none⟩) (es.length - 1) cap) (es.eraseIdx i) ∧ w.grownBy w' (some g) := by
  subst hz
  obtain ⟨i0, hi0, hz0, hz1, hz2⟩ := info_parts infoEntC
  obtain ⟨vs, hvl, hcell, hone, hfr, hsm, hg1, hg2, hc1, hc2, hsm1, hfr1, hout⟩ := OwnE.erased (w := w.drew) (OwnE.below h (Below.refl _ w).drew) hi
  have hlen := entC_len vs es hvl
  obtain ⟨news, hnews⟩ : ∃ news, news = (entC vs es).drop ((i + 1) * 2) := ⟨_, rfl⟩
  have hnl : news.length = (es.length - j) * 2 := by rw [hnews, List.length_drop, hlen]; omega
  obtain ⟨A, hA, hsrc⟩ : ∃ A : Addr, (if cap = j then (some ⟨g, 0, none⟩ : Option Addr) else some ⟨g, j * 2, none⟩) = some A ∧ Hid (∀ t u, news[t]? = some u → w.drew.cell? (A.add t) = some u) := by
    have hx : ∀ t u, news[t]? = some u → t < (es.length - j) * 2 ∧ w.drew.cell? ⟨g, j * 2 + t, none⟩ = some u := fun t u ht => by
      have h1 := (List.getElem?_eq_some_iff.1 ht).1
      rw [hnews, List.getElem?_drop] at ht
      exact ⟨by omega, by rw [hj]; exact hcell _ _ ht⟩
    by_cases e : cap = j
    · exact ⟨⟨g, 0, none⟩, by rw [if_pos e], Lib.hid fun t u ht => by have := (hx t u ht).1; omega⟩
    · exact ⟨⟨g, j * 2, none⟩, by rw [if_neg e], Lib.hid fun t u ht => by rw [addr_add]; exact (hx t u ht).2⟩
  have s2 : Hid (∀ u ∈ news, u.oneCell' = true) := Lib.hid fun u hu => hone u (by rw [hnews] at hu; exact List.mem_of_mem_drop hu)
  have s3 : Hid (∀ t, t < news.length → (w.drew.cell? ⟨g, 0 + i * 2 + t, none⟩).isSome = true ∧ w.drew.frozen? ⟨g, 0 + i * 2 + t, none⟩ = false) := Lib.hid fun t ht => ⟨by rw [Nat.zero_add]; exact hsm _ (by omega), hfr _⟩
  have hic : i ≤ cap := by omega
  have hjc : j ≤ cap := by omega
  have hij : i ≤ j := by omega
  have hjn : j ≤ es.length := by omega
  have hne : ¬ ((i : Int) = (j : Int)) := by omega
  have HL := Lib.hid hnl
  have HOUT := Lib.hid hout
  have HC1 := Lib.hid hc1
  have HJ := Lib.hid hj
  have HNW := Lib.hid hnews
  clear hcell hone hfr hsm hout hnl hlen hvl hj hnews
  have hji1 : (i : Int) ≤ j := by omega
  have hji2 : (j : Int) ≤ es.length := by omega
  have hji3 : (0 : Int) ≤ i := by omega
  have hji4 : (0 : Int) ≤ j := by omega
  have hji5 : (i : Int) ≤ es.length := by omega
  have hji6 : (i : Int) ≤ cap := by omega
  rw [← HNW.out] at hsm1 hfr1
  generalize hW : w.drew.setCells g (i * 2) news = W1 at hsm1 hfr1
  have hcl : ∀ ty, (Builtin.clear_ #[36] ty #[.slice (some ⟨g, (i + (es.length - j)) * 2, none⟩) (es.length - (i + (es.length - j))) (cap - (i + (es.length - j)))]).run Try.prog W1 = .ok (.tuple #[]) (W1.setCells g ((i + (es.length - j)) * 2) [.slice none 0 0, .int .i64 0]) := fun ty =>
    run_clear2 W1 _ _ ty (.agg #[.slice none 0 0, .int .i64 0]) _ _ Try.underlying36 (fun w => by kernel_rfl) rfl rfl rfl g _ _ _ (by have := HJ.out; omega) (fun t ht => hsm1 _ (by have := HJ.out; omega)) (fun t ht => hfr1 _)
  have hlow1 : ¬ cap = i + (es.length - j) := by have := HJ.out; omega
  have hlow2 : ((i : Int) + ((es.length : Int) - j)) ≤ es.length := by omega
  have hlow3 : i + (es.length - j) ≤ es.length := by omega
  have hlow4 : i + (es.length - j) ≤ cap := by omega
  have hlow5 : es.length ≤ cap := hc1
  go_enter Try.func58, Try.ntmps58
  go_wp2_with fail
  go_region_law (refine step_append_room rfl (.tmp 22) (.tmp 25) 36 rfl 42 i0 2 Try.underlying36 hi0 hz1 g 0 i cap (by simp [Act.eval, Act.put]) A (es.length - j) (cap - j) news (by simp [Act.eval, Act.put, hA]) HL.out hsrc.out s2.out (by omega) s3.out ?_; rw [Nat.zero_add, hW])
  go_wp2_with fail
  go_ret
  have e9 : i + (es.length - j) = es.length - 1 := by have := HJ.out; omega
  obtain ⟨hO, hB⟩ := HOUT.out [.slice none 0 0, .int .i64 0] rfl
  rw [← HNW.out, hW] at hO hB
  rw [e9]
  exact ⟨rfl, hO, ⟨hB.os, hB.tape, hB.output, hB.size, hB.block⟩⟩
def boxS (A : Option Addr) (n c : Nat) : Array Value := #[.slice A n c, .func (.func 53) #[] #[]]
set_option maxRecDepth 100000 in
set_option maxHeartbeats 2000000 in
theorem implFind (b : Nat) (A : Option Addr) (n c : Nat) (l : List En) (ok : Nat → Prop) (e : En) (B : Option Addr) (m d : Nat) (ok' : Nat → Prop) (w : World) (hbx : Row w b 67 (boxS A n c)) (h : Sl EnR 2 ok w A n l) (hn : n ≤ 1048576) (hk : ∀ x ∈ l, x.key.length ≤ 1048576) (hE : Sl VlR 3 ok' w B m e.key) (hm : m ≤ 1048576) :
    Calls Try.prog 57 #[.pointer (some ⟨b, 0, none⟩), .agg #[.slice B m d, .int .i64 e.id]] w fun r w' => r = .returned (.tuple #[.int .i64 (bs l e : Nat), .bool (bsHit l e)]) ∧ Below w.heap.size w w' := by
  have hb0 := (Below.refl w.heap.size w).alloc (Nat.le_refl _) (.cells #[.slice B m d, .int .i64 e.id] 42)
  have r0 := Row.new w 42 #[.slice B m d, .int .i64 e.id]
  have hb1 := hbx.below hb0
  have p0 : (w.alloc (.cells #[.slice B m d, .int .i64 e.id] 42)).cell? ⟨b, 0, none⟩ = some (.slice A n c) := hb1.cell 0
  have p1 : (w.alloc (.cells #[.slice B m d, .int .i64 e.id] 42)).cell? ⟨b, 1, none⟩ = some (.func (.func 53) #[] #[]) := hb1.cell 1
  go_enter Try.func57, Try.ntmps57
  go_wp2_with fail
  have hE' : Sl VlR 3 ok' (w.alloc (.cells #[.slice B m d, .int .i64 e.id] 42)) B m e.key := hE.below VlR.stays hb0
  have h' : Sl EnR 2 ok (w.alloc (.cells #[.slice B m d, .int .i64 e.id] 42)) A n l := h.below EnR.stays hb0
  generalize w.alloc (.cells #[.slice B m d, .int .i64 e.id] 42) = z1 at *
  have HX := Lib.hid (libSearch A n c l ok e B m d ok' z1.drew (h'.stays EnR.stays (fun _ h => h) (fun p v _ h => h)) hn hk (hE'.stays VlR.stays (fun _ h => h) (fun p v _ h => h)) hm)
  obtain ⟨⟨q0, q1⟩, -⟩ := r0.all2
  have HB := Lib.hid hb0
  clear hb0 hb1 hE' h' r0 hbx
  go_region_held3 (fun w' => w'.cell? ⟨b, 0, none⟩ = some (.slice A n c) ∧ w'.cell? ⟨b, 1, none⟩ = some (.func (.func 53) #[] #[]) ∧ w'.cell? ⟨w.heap.size, 0, none⟩ = some (.slice B m d) ∧ w'.cell? ⟨w.heap.size, 1, none⟩ = some (.int .i64 e.id))
    (first | go_keep | exact keepC4 (by assumption) hb1)
    (first | (go_at_call 68; refine HX.out.mono ?_; rintro r1 w1 ⟨rfl, hb1⟩))
  go_wp2_with fail
  go_ret2
  exact ⟨rfl, HB.out.drew.trans (hb1.mono HB.out.size)⟩
theorem OwnE.other {w : World} {base b o : Nat} {T : TypeId} {cs : Array Value} {fr : Nat × Nat} {v : Value} {es : List En} (h : OwnE w base v es) (hb : w.heap[b]? = some (.cells cs T fr)) (h1 : T ≠ 42) (h2 : T ≠ 57) (u : Value) : OwnE (w.setCell ⟨b, o, none⟩ u) base v es := by
  obtain ⟨vs, h⟩ := h
  have hg : w.grownBy (w.setCell ⟨b, o, none⟩ u) (some b) := ⟨rfl, rfl, rfl, by simp [World.setCell], fun k hk hne => Below.heap_setCell w _ u k (fun e => hne (by rw [e]))⟩
  have hne : ∀ {T' : TypeId} {sz : Nat} {v : Value} {n : Nat} {xs : List Value}, T ≠ T' → w.ownsRow base T' sz v n xs → v.ownBlock = none ∨ v.ownBlock ≠ some b := fun {T' sz v n xs} hT hr => by
    rcases hr.2 with ⟨rfl, -⟩ | ⟨g, cap, cur, rfl, k1, k2, -⟩
    · exact .inl rfl
    · refine .inr fun e => hT ?_
      simp [Value.ownBlock] at e
      subst e
      rw [hb] at k2
      injection k2 with k2
      injection k2
  exact ⟨vs, h.len, World.ownsRow.kept h.row hg (hne h1 h.row), fun i hi hi' => World.ownsRow.kept (h.key i hi hi') hg (hne h2 (h.key i hi hi')), h.apart⟩
set_option maxRecDepth 100000 in
set_option maxHeartbeats 2000000 in
theorem implDropM (b base : Nat) (A : Option Addr) (c : Nat) (l : List En) (e : En) (B : Option Addr) (m d : Nat) (ok' : Nat → Prop) (w : World) (hbx : Row w b 67 (boxS A l.length c)) (hbb : base ≤ b) (h : OwnE w base (.slice A l.length c) l) (hn : l.length ≤ 1048576) (hk : ∀ x ∈ l, x.key.length ≤ 1048576) (hE : Sl VlR 3 ok' w B m e.key) (hm : m ≤ 1048576) (hbs : bsHit l e = true → bs l e < l.length) :
    Calls Try.prog 41 #[.pointer (some ⟨b, 0, none⟩), .agg #[.slice B m d, .int .i64 e.id]] w fun r w' => r = .returned (.bool (bsHit l e)) ∧ (bsHit l e = true → Row w' b 67 (boxS A (l.length - 1) c) ∧ OwnE w' base (.slice A (l.length - 1) c) (l.eraseIdx (bs l e))) ∧ Below base w w' := by
  have hwb := lt_of_block hbx
  have hb0 := (Below.refl w.heap.size w).alloc (Nat.le_refl _) (.cells #[.slice B m d, .int .i64 e.id] 42)
  have r0 := Row.new w 42 #[.slice B m d, .int .i64 e.id]
  have hx0 := hbx.below hb0
  have hO0 := OwnE.below h hb0
  have hE0 := hE.below VlR.stays hb0
  go_enter Try.func41, Try.ntmps41
  go_wp2_with fail
  generalize w.alloc (.cells #[.slice B m d, .int .i64 e.id] 42) = z1 at *
  obtain ⟨⟨q0, q1⟩, -⟩ := r0.all2
  obtain ⟨A', c', e', -, -, hsl⟩ := hO0.sl
  cases e'
  have HF := Lib.hid (implFind b A l.length c l _ e B m d ok' z1 hx0 hsl hn hk hE0 hm)
  have HB0 := Lib.hid hb0
  have HO0 := Lib.hid hO0
  have HX0 := Lib.hid hx0
  clear hsl hE0 hb0 hO0 hx0 hbx h
  go_wp2_with fail
  refine HF.out.mono ?_
  rintro r w2 ⟨rfl, hb2⟩
  have HB2 := Lib.hid (show Below base w w2 from (HB0.out.mono (by omega)).trans (hb2.mono (by have := HB0.out.size; omega)))
  have HX2 := Lib.hid (HX0.out.below hb2)
  have HO2 := Lib.hid (OwnE.below HO0.out hb2)
  clear HF hb2 q0 q1 r0
  cases hh : bsHit l e
  · have HQ := Lib.hid hh
    go_wp2_with fail
    go_ret
    refine ⟨?_, ?_, HB2.out⟩
    · rw [HQ.out]; rfl
    · intro h
      rw [HQ.out] at h
      cases h
  · have hlt := hbs hh
    obtain ⟨g, rfl⟩ : ∃ g, A = some ⟨g, 0, none⟩ := by
      obtain ⟨vs, h⟩ := HO2.out
      rcases h.row.2 with ⟨e9, hn9⟩ | ⟨g, cap, cur, e9, -⟩
      · omega
      · cases e9; exact ⟨g, rfl⟩
    have p0 : w2.cell? ⟨b, 0, none⟩ = some (.slice (some ⟨g, 0, none⟩) l.length c) := HX2.out.cell 0
    have hw1 : IntKind.i64.wrap ((bs l e : Int) + 1) = (bs l e : Int) + 1 := IntWalk.i64_in _ (by omega)
    have HD := Lib.hid (libDelete g c (bs l e) (bs l e + 1) l base w2 HO2.out hlt rfl hn (jz := (bs l e : Int) + 1) (by omega))
    have HQ := Lib.hid hh
    clear hbs hh
    go_wp2_with fail
    refine HD.out.mono ?_
    rintro r w3 ⟨rfl, hO3, hg3⟩
    have hgg : base ≤ g ∧ b ≠ g := by
      obtain ⟨vs, h⟩ := HO2.out
      obtain ⟨k1, cur, k2⟩ := ownsRow_typed h.row (k := g) rfl
      refine ⟨k1, fun e9 => ?_⟩
      subst e9
      have h9 := HX2.out
      unfold Row at h9
      rw [k2] at h9
      injection h9 with h9
      injection h9 with _ h10
      exact absurd h10 (by decide)
    have hx3 : Row w3 b 67 (boxS (some ⟨g, 0, none⟩) l.length c) := (hg3.block b (lt_of_block HX2.out) (fun e9 => hgg.2 (Option.some.inj e9))).trans HX2.out
    have HX4 := Lib.hid (show Row (w3.setCell ⟨b, 0, none⟩ (.slice (some ⟨g, 0, none⟩) (l.length - 1) c)) b 67 (boxS (some ⟨g, 0, none⟩) (l.length - 1) c) by simpa [boxS] using hx3.set 0 (.slice (some ⟨g, 0, none⟩) (l.length - 1) c))
    have HO4 := Lib.hid (OwnE.other (o := 0) hO3 hx3 (by decide) (by decide) (.slice (some ⟨g, 0, none⟩) (l.length - 1) c))
    have HB4 := Lib.hid (show Below base w (w3.setCell ⟨b, 0, none⟩ (.slice (some ⟨g, 0, none⟩) (l.length - 1) c)) from (HB2.out.grown hg3 (by have := HB2.out.size; omega) (fun k hk => by cases hk; exact hgg.1)).setCell (p := ⟨b, 0, none⟩) hbb _)
    have p3 : w3.cell? ⟨b, 0, none⟩ = some (.slice (some ⟨g, 0, none⟩) l.length c) := hx3.cell 0
    have f3 := hx3.free 0
    clear hO3 hg3 HD hx3 p0
    go_wp2_with fail
    go_ret
    refine ⟨?_, ?_, HB4.out⟩
    · rw [HQ.out]; rfl
    · intro _
      exact ⟨HX4.out, HO4.out⟩
theorem entries_rg {l : List En} (h : entriesB l = true) : ∀ x ∈ l, rgE x := fun x hx => entryB_ok ((entriesB_in h).2.1 x hx).1
set_option maxRecDepth 100000 in
set_option maxHeartbeats 2000000 in
theorem implIndexDrop (A : Option Addr) (n c : Nat) (l : List En) (ok : Nat → Prop) (e : En) (B : Option Addr) (m d : Nat) (ok' : Nat → Prop) (w : World) (h : Sl EnR 2 ok w A n l) (hn : n ≤ 1048576) (hk : ∀ x ∈ l, x.key.length ≤ 1048576) (hE : Sl VlR 3 ok' w B m e.key) (hm : m ≤ 1048576) :
    Calls Try.prog 18 #[.slice A n c, .agg #[.slice B m d, .int .i64 e.id]] w fun r w' => ∃ v, r = .returned (.tuple #[v, .bool (droppedB l e)]) ∧ OwnE w' w.heap.size v (dropped l e) ∧ Below w.heap.size w w' := by
  obtain rfl : l.length = n := h.1
  have hb0 := (Below.refl w.heap.size w).alloc (Nat.le_refl _) (.cells #[.slice B m d, .int .i64 e.id] 42)
  have r0 := Row.new w 42 #[.slice B m d, .int .i64 e.id]
  have hs0 : (w.alloc (.cells #[.slice B m d, .int .i64 e.id] 42)).heap.size = w.heap.size + 1 := by simp
  go_enter Try.func18, Try.ntmps18
  go_wp2_with fail
  generalize w.alloc (.cells #[.slice B m d, .int .i64 e.id] 42) = z1 at *
  have HE1 := Lib.hid (implEntriesOk A l.length c l ok z1 (h.below EnR.stays hb0) hn hk)
  have HB0 := Lib.hid hb0
  have HK := Lib.hid hk
  refine HE1.out.mono ?_
  rintro r w1 ⟨rfl, hb1⟩
  have HB1 := Lib.hid (HB0.out.trans (hb1.mono HB0.out.size))
  have HR1 := Lib.hid (r0.below hb1)
  have h1 := h.below EnR.stays HB1.out
  have hE1 := hE.below VlR.stays HB1.out
  have HS1 := Lib.hid (show w.heap.size + 1 ≤ w1.heap.size by have := hb1.size; omega)
  clear HE1 hb0 hb1 r0 hs0 hk
  cases hb : entriesB l
  · have HF := Lib.hid (show droppedB l e = false by unfold droppedB; rw [hb]; rfl)
    have HD := Lib.hid (show dropped l e = [] by unfold dropped; rw [hb]; simp)
    clear hb
    go_wp2_with fail
    go_ret2
    exact ⟨_, by rw [HF.out]; rfl, by rw [HD.out]; exact OwnE.nil _ _, HB1.out⟩
  · have HEB := Lib.hid hb
    have hrr := HR1.out
    obtain ⟨⟨q0, q1⟩, -⟩ := hrr.all2
    have HEO := Lib.hid (implEntryOk e B m d ok' w1 hE1 hm)
    clear hb hrr
    go_wp2_with fail
    refine HEO.out.mono ?_
    rintro r w2 ⟨rfl, hb2⟩
    have HB2 := Lib.hid (HB1.out.trans (hb2.mono HB1.out.size))
    have HR2 := Lib.hid (HR1.out.below hb2)
    have h2 := h1.below EnR.stays hb2
    have hE2 := hE1.below VlR.stays hb2
    clear HEO q0 q1 h1 hE1 HR1
    cases hb : entryB e
    · have HN := Lib.hid (dropE_none HEB.out hb)
      have HF := Lib.hid (show droppedB l e = false by unfold droppedB; rw [HN.out, HEB.out]; simp)
      have HD := Lib.hid (show dropped l e = [] by unfold dropped; rw [HN.out]; simp)
      clear hb
      go_wp2_with fail
      go_ret2
      exact ⟨_, by rw [HF.out]; rfl, by rw [HD.out]; exact OwnE.nil _ _, HB2.out⟩
    · have HBD := Lib.hid (bs_drop (entriesB_in HEB.out).2.2 (entries_rg HEB.out) (entryB_ok hb))
      have HSC := Lib.hid (implSortedCopy A l.length c l ok w2 h2 (by omega) (fun x hx => by have := HK.out x hx; omega))
      clear hb
      go_wp2_with fail
      refine HSC.out.mono ?_
      rintro r w3 ⟨v3, rfl, hO3, hb3⟩
      obtain ⟨A3, c3, e3, -, -, -⟩ := hO3.sl
      subst e3
      have HB3 := Lib.hid hb3
      have hal := (Below.refl w3.heap.size w3).alloc (Nat.le_refl _) (.cells (boxS A3 l.length c3) 67)
      have rbx := Row.new w3 67 (boxS A3 l.length c3)
      have HO3 := Lib.hid (OwnE.below hO3 hal)
      have HAL := Lib.hid hal
      have HRB := Lib.hid rbx
      have HR3 := Lib.hid ((HR2.out.below hb3).below hal)
      have HE3 := Lib.hid ((hE2.below VlR.stays hb3).below VlR.stays hal)
      have hb3s := hb3.size
      clear hO3 hb3 hal rbx HSC h2 hE2
      have hrr := HR3.out
      obtain ⟨⟨q0, q1⟩, -⟩ := hrr.all2
      have HDM := Lib.hid (implDropM w3.heap.size w2.heap.size A3 c3 l e B m d ok' _ HRB.out hb3s HO3.out hn HK.out HE3.out hm (fun h => (HBD.out.1 h).1))
      clear hrr
      unfold boxS at HO3 HAL HRB HR3 HE3 q0 q1 HDM
      go_wp2_with fail
      generalize w3.alloc (.cells #[.slice A3 l.length c3, .func (.func 53) #[] #[]] 67) = z3 at *
      refine HDM.out.mono ?_
      rintro r w4 ⟨rfl, hres, hb4⟩
      have HB4 := Lib.hid (show Below w.heap.size w w4 from HB2.out.trans (((HB3.out.trans (HAL.out.mono hb3s)).trans hb4).mono HB2.out.size))
      have HRS := Lib.hid hres
      clear HDM hres hb4 q0 q1
      cases hh : bsHit l e
      · have HN := Lib.hid (HBD.out.2 hh)
        have HF := Lib.hid (show droppedB l e = false by unfold droppedB; rw [HN.out, HEB.out]; simp)
        have HD := Lib.hid (show dropped l e = [] by unfold dropped; rw [HN.out]; simp)
        clear hh
        go_wp2_with fail
        go_ret2
        exact ⟨_, by rw [HF.out]; rfl, by rw [HD.out]; exact OwnE.nil _ _, HB4.out⟩
      · obtain ⟨hr4, ho4⟩ := HRS.out hh
        obtain ⟨hlt, hde⟩ := HBD.out.1 hh
        have hlen : (dropE l e).length ≠ l.length := by rw [hde, List.length_eraseIdx_of_lt hlt]; omega
        have HF := Lib.hid (show droppedB l e = true by unfold droppedB; rw [HEB.out, decide_eq_false hlen]; rfl)
        have HD := Lib.hid (show dropped l e = l.eraseIdx (bs l e) by unfold dropped; rw [if_pos ⟨HEB.out, hlen⟩, hde])
        have HO4 := Lib.hid (ho4.mono HB2.out.size)
        have p0 : w4.cell? ⟨w3.heap.size, 0, none⟩ = some (.slice A3 (l.length - 1) c3) := hr4.cell 0
        clear hr4 ho4 hh hlen hde hlt
        go_wp2_with fail
        go_ret2
        exact ⟨_, by rw [HF.out]; rfl, by rw [HD.out]; exact HO4.out, HB4.out⟩
end Go.Proofs.Ytlpfpcnafejkoaa
namespace Go.Proofs.Ytlpfpcnafejkoaa
open Go.RowKit
set_option maxRecDepth 100000 in
set_option maxHeartbeats 2000000 in
theorem specIndexDrop (A : Option Addr) (n c : Nat) (l : List En) (ok : Nat → Prop) (e : En) (B : Option Addr) (m d : Nat) (ok' : Nat → Prop) (w : World) (h : Sl EnR 2 ok w A n l) (hn : n ≤ 1048576) (hk : ∀ x ∈ l, x.key.length ≤ 1048576) (hE : Sl VlR 3 ok' w B m e.key) (hm : m ≤ 1048576) :
    Calls Try.prog 15 #[.slice A n c, .agg #[.slice B m d, .int .i64 e.id]] w fun r w' => ∃ v, r = .returned (.tuple #[v, .bool (droppedB l e)]) ∧ OwnE w' w.heap.size v (dropped l e) ∧ Below w.heap.size w w' := by
  obtain ⟨i0, hi, hz0, hz1, hz2⟩ := info_parts infoEntC
  have H1 := Lib.hid hi
  have H2 := Lib.hid hz0
  have H3 := Lib.hid hz1
  have H4 := Lib.hid hz2
  clear hi hz0 hz1 hz2
  obtain rfl : l.length = n := h.1
  obtain rfl : e.key.length = m := hE.1
  have HK := Lib.hid hk
  clear hk
  have hb0 := (Below.refl w.heap.size w).alloc (Nat.le_refl _) (.cells #[.slice B e.key.length d, .int .i64 e.id] 42)
  have r0 := Row.new w 42 #[.slice B e.key.length d, .int .i64 e.id]
  have hx0 : (w.alloc (.cells #[.slice B e.key.length d, .int .i64 e.id] 42)).heap.size = w.heap.size + 1 := by simp
  go_enter Try.func15, Try.ntmps15
  go_wp2_with fail
  generalize w.alloc (.cells #[.slice B e.key.length d, .int .i64 e.id] 42) = z0 at *
  refine (specL11Right A l.length c l _ _ (h.below EnR.stays hb0) hn HK.out).mono ?_
  rintro r w1 ⟨rfl, hb1⟩
  have r1 := r0.below hb1
  have hb01 := hb0.trans (hb1.mono (by omega))
  have hs1 : w.heap.size + 1 ≤ w1.heap.size := by have := hb1.size; omega
  clear r0 hb0 hb1 hx0
  cases hr : entriesB l
  · have HF := Lib.hid (show droppedB l e = false by unfold droppedB; rw [hr]; rfl)
    have HD := Lib.hid (show dropped l e = [] by unfold dropped; rw [hr]; simp)
    go_wp2_with fail
    go_ret2
    exact ⟨.slice none 0 0, by rw [HF.out]; rfl, by rw [HD.out]; exact OwnE.nil _ _, hb01⟩
  · have HB1 := Lib.hid (hb01.alloc (by omega) (.cells #[] 42))
    have ho0 := Lib.hid (ShareE.lit ok w w1 (base := w.heap.size + 1) (by omega))
    have R1 := Lib.hid (r1.alloc (.cells #[] 42))
    have HS1 := Lib.hid (show w.heap.size + 1 ≤ (w1.alloc (.cells #[] 42)).heap.size by simp; omega)
    clear r1 hb01 hs1
    go_wp2_with fail
    generalize w1.alloc (.cells #[] 42) = z1 at *
    go_loopw [6, 7] (fun v i wr => ∃ (k : Nat), k ≤ l.length ∧ i = .int .i64 k ∧ Hid (ShareE ok w wr (w.heap.size + 1) v (dropE (l.take k) e)) ∧ Hid (Row wr w.heap.size 42 #[.slice B e.key.length d, .int .i64 e.id]) ∧ Hid (Below w.heap.size w wr)) (fun _ i _ => l.length - (intOf i).toNat)
    case atStart => exact ⟨0, by omega, rfl, ho0, R1, HB1⟩
    case round =>
      clear ho0 R1 HB1 HS1
      obtain ⟨k, hk, rfl, hown, hrow, hbh⟩ := hrel
      have hb := hbh.out
      clear hbh
      by_cases hlt : k < l.length
      · obtain ⟨b, off, A1, n1, c1, -, rfl, q0', q1', hky', hc1⟩ := EnR.at_ h hlt
        have q0 := below_keep hb _ _ q0'
        have q1 := below_keep hb _ _ q1'
        have hky := hky'.below VlR.stays hb
        have i0' : (0 : Int) ≤ k := by omega
        have i1 : (k : Int) < l.length := by omega
        have HKL := Lib.hid (HK.out l[k] (List.getElem_mem hlt))
        have HTY := Lib.hid (fun hs => dropE_yes (e := e) hlt hs)
        have HTN := Lib.hid (fun hs => dropE_no (e := e) hlt hs)
        have HLK := Lib.hid (show (dropE (l.take k) e).length ≤ k by have := dropE_len (l.take k) e; rw [List.length_take] at this; omega)
        generalize hxs : dropE (l.take k) e = xs at hown HTY HTN HLK
        generalize hek : l[k] = x at q1 q1' hky hky' HKL HTY HTN
        have HKY := Lib.hid hky'
        obtain ⟨⟨p0, p1⟩, -⟩ := hrow.out.all2
        have hkd : Sl VlR 3 ok wr.drew A1 n1 x.key := hky.stays VlR.stays (fun _ h => h) (fun p v _ h => h)
        have hed : Sl VlR 3 ok' wr.drew B e.key.length e.key := (hE.below VlR.stays hb).stays VlR.stays (fun _ h => h) (fun p v _ h => h)
        have hn1 : n1 ≤ 1048576 := by have := hky.1; have := HKL.out; omega
        clear q0' q1' hky' hky hxs hek
        cases hsm : sameE x e
        · have HT := Lib.hid (HTN.out hsm)
          clear HTY HTN
          go_wp2_with fail
          go_region_held3 (fun w' => w'.cell? ⟨b, off + k * 2, none⟩ = some (.slice A1 n1 c1) ∧ w'.cell? ⟨b, off + k * 2 + 1, none⟩ = some (.int .i64 x.id) ∧ w'.cell? ⟨w.heap.size, 0, none⟩ = some (.slice B e.key.length d) ∧ w'.cell? ⟨w.heap.size, 1, none⟩ = some (.int .i64 e.id))
            (first | go_keep | exact keepC4 (by assumption) hb1)
            (first | (go_at_call 35; refine (specL11Same x e A1 B n1 c1 e.key.length d _ _ _ hkd hed hn1 hm).mono ?_; rintro r1 w1 ⟨rfl, hb1⟩; rw [hsm]))
          have y0 : w1.cell? ⟨b, off + k * 2, none⟩ = some (.slice A1 n1 c1) := below_keep hb1 _ _ (show wr.drew.cell? _ = _ from q0)
          have y1 : w1.cell? ⟨b, off + k * 2 + 1, none⟩ = some (.int .i64 x.id) := below_keep hb1 _ _ (show wr.drew.cell? _ = _ from q1)
          obtain ⟨vs, hv1, hv2, hv3⟩ := hown.out.drew.below hb1
          have HV2 := Lib.hid hv2
          have HV3 := Lib.hid hv3
          have HB := Lib.hid (show Below w.heap.size w w1 from hb.drew.trans (hb1.mono hb.size))
          have HR := Lib.hid (show Row w1 w.heap.size 42 #[.slice B e.key.length d, .int .i64 e.id] from Row.below (w := wr.drew) hrow.out hb1)
          have HNE := Lib.hid (show ∀ g, Value.ownBlock _ = some g → w.heap.size + 1 ≤ g from fun g hg => (World.ownsRow.lt hv2 g hg).1)
          clear hv2 hv3 hown hrow hb hb1 q0 q1 p0 p1
          go_wp2_with (at_builtin; refine wpList_append_own _ rfl _ _ 36 rfl (w.heap.size + 1) 42 i0 (.agg #[.slice none 0 0, .int .i64 0]) 2 32 Try.underlying36 H1.out H2.out H3.out H4.out rfl (by decide) _ _ _ rfl (World.ownsRow.alloc HV2.out _) ⟨_, 0, none⟩ 1 1 [.slice A1 n1 c1, .int .i64 x.id] rfl rfl ?c1 ?c2 ?c3 ?c4 ?c5 ?_)
          case c1 => exact cells_newAt _ [.slice A1 n1 c1, .int .i64 x.id] _ (by simp)
          case c2 => intro u hu; simp at hu; rcases hu with rfl | rfl <;> rfl
          case c3 => have := HLK.out; unfold maxLen; omega
          case c4 => have := HLK.out; omega
          case c5 => have := lt_of_block HR.out; simp; omega
          intro v9 w9 hown9 hgrow9 _
          have HE9 := Lib.hid (show ShareE ok w w9 (w.heap.size + 1) v9 (dropE (l.take (k + 1)) e) by rw [HT.out]; exact ShareE.app hv1 HV3.out hc1 HKY.out hown9)
          have HB9 := Lib.hid (show Below w.heap.size w w9 from (HB.out.alloc HB.out.size _).grown hgrow9 (by have := HB.out.size; simp; omega) fun g hg => by have := HNE.out g hg; omega)
          have HR9 := Lib.hid (grown_rowK hgrow9 (HR.out.alloc _) fun g hg => by have := HNE.out g hg; omega)
          clear hown9 hgrow9 HV2 HV3 HB HR y0 y1
          go_wp2_with fail
          go_roundw
          case rel => exact ⟨k + 1, by omega, by go_num, HE9, HR9, HB9⟩
          case measure => simp [intOf]; omega
        · have HT := Lib.hid (HTY.out hsm)
          clear HTY HTN
          go_wp2_with fail
          go_region_held3 (fun w' => w'.cell? ⟨b, off + k * 2, none⟩ = some (.slice A1 n1 c1) ∧ w'.cell? ⟨b, off + k * 2 + 1, none⟩ = some (.int .i64 x.id) ∧ w'.cell? ⟨w.heap.size, 0, none⟩ = some (.slice B e.key.length d) ∧ w'.cell? ⟨w.heap.size, 1, none⟩ = some (.int .i64 e.id))
            (first | go_keep | exact keepC4 (by assumption) hb1)
            (first | (go_at_call 35; refine (specL11Same x e A1 B n1 c1 e.key.length d _ _ _ hkd hed hn1 hm).mono ?_; rintro r1 w1 ⟨rfl, hb1⟩; rw [hsm]))
          have HN := Lib.hid (show ShareE ok w w1 (w.heap.size + 1) _ (dropE (l.take (k + 1)) e) by rw [HT.out]; exact hown.out.drew.below hb1)
          have HB := Lib.hid (show Below w.heap.size w w1 from hb.drew.trans (hb1.mono hb.size))
          have HR := Lib.hid (show Row w1 w.heap.size 42 #[.slice B e.key.length d, .int .i64 e.id] from Row.below (w := wr.drew) hrow.out hb1)
          clear hown hrow hb hb1
          go_wp2_with fail
          go_roundw
          case rel => exact ⟨k + 1, by omega, by go_num, HN, HR, HB⟩
          case measure => simp [intOf]; omega
      · obtain rfl : k = l.length := by omega
        rw [List.take_length] at hown
        have hlen := dropE_len l e
        have HKX := Lib.hid (show ∀ x ∈ dropE l e, x.key.length ≤ 1073741824 from fun x hx => by have := HK.out x (List.mem_filter.1 hx).1; omega)
        obtain ⟨A9, c9, rfl, hsl⟩ := hown.out.sl hb
        by_cases hle : (dropE l e).length = l.length
        · have z : (((dropE l e).length : Int) == (l.length : Int)) = true := by simp [hle]
          have z2 : decide (((dropE l e).length : Int) = (l.length : Int)) = true := by simp [hle]
          have HF := Lib.hid (show droppedB l e = false by unfold droppedB; rw [hr, decide_eq_true hle]; rfl)
          have HD := Lib.hid (show dropped l e = [] by unfold dropped; rw [if_neg (by simp [hle])])
          go_wp2_with fail
          go_ret2
          exact ⟨.slice none 0 0, by rw [HF.out]; rfl, by rw [HD.out]; exact OwnE.nil _ _, hb⟩
        · have z : (((dropE l e).length : Int) == (l.length : Int)) = false := by simp; omega
          have z2 : decide (((dropE l e).length : Int) = (l.length : Int)) = false := by simp; omega
          have HF := Lib.hid (show droppedB l e = true by unfold droppedB; rw [hr, decide_eq_false hle]; rfl)
          have HD := Lib.hid (show dropped l e = dropE l e by unfold dropped; rw [if_pos ⟨hr, hle⟩])
          go_wp2_with fail
          refine (specL11Copy A9 _ c9 (dropE l e) _ _ hsl HKX.out (by omega)).mono ?_
          rintro r9 w9 ⟨v9, rfl, hO9, hb9⟩
          go_wp2_with fail
          go_ret2
          exact ⟨v9, by rw [HF.out]; rfl, by rw [HD.out]; exact hO9.mono hb.size, hb.trans (hb9.mono hb.size)⟩
theorem Row.kept {B E : Nat} {w w' : World} {g : Nat} {T : TypeId} {cs : Array Value} (h : Row w g T cs) (k : Kept B E w w') (hg : g < B ∨ E ≤ g) : Row w' g T cs := (k.block g (lt_of_block h) hg).trans h
set_option maxRecDepth 100000 in
set_option maxHeartbeats 1000000 in
theorem marksEntry (A : Option Addr) (n c : Nat) (id : Int) (ms : List Nat) (ok : Nat → Prop) (B E k : Nat) (w : World) (h : Sl (ShF 3) 3 ok w A n ms) (hm : mayMark B E w ok) (hk : k + ms.sum ≤ 1073741824) (hn : n ≤ 1048576) {x : Int} (hx : x = k) :
    Calls Try.prog 22 #[.agg #[.slice A n c, .int .i64 id], .int .i64 x] w fun e w' => e = .returned (.int .i64 ((k + ms.sum : Nat) : Int)) ∧ Kept B E w w' := by
  have hb0 := (Below.refl w.heap.size w).alloc (Nat.le_refl _) (.cells #[.slice A n c, .int .i64 id] 42)
  have r0 := Row.new w 42 #[.slice A n c, .int .i64 id]
  have HK0 := Lib.hid (Kept.below (B := B) (E := E) hb0)
  have h0 := h.shape (ShF.keeps 3) HK0.out
  have HM := Lib.hid (hm.below hb0)
  obtain ⟨⟨p0, p1⟩, -⟩ := r0.all2
  clear hb0
  subst hx
  go_enter Try.func22, Try.ntmps22
  go_wp2_with fail
  refine (marksValL A n c ms ok B E k _ h0 HM.out hk hn rfl).mono ?_
  rintro e w1 ⟨rfl, hb1⟩
  go_wp2_with fail
  go_ret
  exact ⟨rfl, HK0.out.trans hb1⟩
theorem keepT2 {w w' : World} {p q : Addr} {a b : Value} (h : w.cell? p = some a ∧ w.cell? q = some b) (hb : Below w.heap.size w w') : w'.cell? p = some a ∧ w'.cell? q = some b := ⟨below_keep hb _ _ h.1, below_keep hb _ _ h.2⟩
theorem ent_len {x : En} (h : x.sz ≤ 1048576) : x.key.length ≤ 1048576 := by
  have h4 : x.sz = szL (fun v : Vl => v.s.size) x.key := rfl
  have h2 : x.key.length ≤ szL (fun v : Vl => v.s.size) x.key := by unfold szL; omega
  omega
theorem ents_len {l : List En} (h : szL En.sz l ≤ 1048576) : ∀ x ∈ l, x.key.length ≤ 1048576 := fun x hx => ent_len (Nat.le_trans (szL_mem En.sz l x hx) h)
theorem sum_sub {f : En → Nat} {l m : List En} (h : l.Sublist m) : (l.map f).sum ≤ (m.map f).sum := by
  induction h with
  | slnil => simp
  | cons x _ ih => simp only [List.map_cons, List.sum_cons]; omega
  | cons_cons x _ ih => simp only [List.map_cons, List.sum_cons]; omega
theorem dropped_sz {l : List En} (e : En) (h : szL En.sz l ≤ 1048576) : szL En.sz (dropped l e) ≤ 1048576 := by
  have hs : (dropped l e).Sublist l := by
    unfold dropped dropE
    split
    · exact List.filter_sublist
    · exact List.nil_sublist _
  have h1 := sum_sub (f := En.sz) hs
  have h2 := hs.length_le
  unfold szL at *
  omega
theorem ents_marks {l : List En} (h : szL En.sz l ≤ 1048576) : 1 + (l.map En.marks).sum ≤ 1073741824 := by
  have h1 := sum_le_of (f := En.marks) (g := En.sz) 3 (fun x => by
    have h2 : x.key.length ≤ szL (fun v : Vl => v.s.size) x.key := by unfold szL; omega
    have h4 : x.sz = szL (fun v : Vl => v.s.size) x.key := rfl
    unfold En.marks
    omega) l
  omega
theorem KeptL.range {B E : Nat} {w w' : World} (h : Kept B E w w') : KeptL (List.range' B (E - B)) w w' :=
  ⟨h.os, h.tape, h.output, h.size, fun k hk ho => h.block k hk (by
    rw [List.mem_range'_1] at ho
    omega), h.frozen⟩
theorem not_range {B E : Nat} {bs : List Nat} (h : ∀ b ∈ bs, E ≤ b) : ∀ x ∈ bs, x ∉ List.range' B (E - B) := fun x hx hh => by
  have h1 := h x hx
  rw [List.mem_range'_1] at hh
  omega
theorem Sl.keptL {α : Type} {R : Rd α} {sz : Nat} {ok : Nat → Prop} {w w' : World} {A : Option Addr} {n : Nat} {xs : List α} {bs : List Nat} (h : Sl R sz ok w A n xs) (hR : Stays R) (hk : KeptL bs w w') (hd : ∀ b, ok b → b ∉ bs) : Sl R sz ok w' A n xs :=
  h.stays hR (fun _ h => h) fun p v hb hp => hk.far (hd _ hb) hp
theorem Row.keptL {w w' : World} {g : Nat} {T : TypeId} {cs : Array Value} {bs : List Nat} (h : Row w g T cs) (hk : KeptL bs w w') (hg : g ∉ bs) : Row w' g T cs := (hk.block g (lt_of_block h) hg).trans h
end Go.Proofs.Ytlpfpcnafejkoaa
namespace Go.Proofs.Ytlpfpcnafejkoaa
open Go.ChangeShapes Go.WideShapes Go.ChangeAt Go.RowKit Go.Joins Go.Deep
theorem Val_of_trod {H : Type} {enc : TypeId × Value → H} {W : World} {fuel : Nat} {cs : List Value} {x : DataW H × List MemPlace} (h : DataW.trod enc Try.prog W 0 (fun _ => true) true fuel 74 cs = some x) : ∃ d, VlR (fun _ => True) W cs d ∧ d.s.size ≤ maxLen := by
  obtain ⟨k, n, s, rfl, -, -, hs⟩ := val_of_trod Try.underlying74 (by kernel_rfl) ⟨rfl, rfl, rfl⟩ (by kernel_rfl) (by kernel_rfl) (by kernel_rfl) Try.underlying2 Try.underlying2 Try.underlying9 h
  exact ⟨⟨k, n, s⟩, rfl, hs⟩
theorem ValL_of_trod {H : Type} {enc : TypeId × Value → H} {W : World} {fuel : Nat} {x : DataW H × List MemPlace} {a : Option Addr} {len cap : Nat} (h : DataW.trod enc Try.prog W 0 (fun _ => true) true fuel 31 [.slice a len cap] = some x) : ∃ ds : List Vl, Sl VlR 3 (fun _ => True) W a len ds ∧ (ds.length ≤ maxLen ∧ ∀ v ∈ ds, v.s.size ≤ maxLen) :=
  sl_of_trod (R := VlR) (q := fun v : Vl => v.s.size ≤ maxLen) (sz := 3) Try.underlying31 (by kernel_rfl) (by omega) (fun n c y hy => Val_of_trod hy) h
set_option maxRecDepth 100000 in
theorem Entry_of_trod {H : Type} {enc : TypeId × Value → H} {W : World} {fuel : Nat} {cs : List Value} {x : DataW H × List MemPlace} (h : DataW.trod enc Try.prog W 0 (fun _ => true) true fuel 33 cs = some x) : ∃ d, EnR (fun _ => True) W cs d ∧ d.wf := by
  obtain ⟨xs, n, _, _, hl, hlen, hf⟩ := DataW.trod_struct Try.underlying33 h
  rw [show Try.prog.cellsOf 33 = 2 by kernel_rfl] at hl
  match cs, hl, xs, hlen with
  | [c0, c1], _, [y0, y1], _ =>
    have e0 : DataW.trod enc Try.prog W 0 (fun _ => true) true n 31 [c0] = some y0 := by
      have := hf 0 _ rfl
      simpa [show Try.prog.cellsOf 31 = 1 by kernel_rfl] using this
    have e1 : DataW.trod enc Try.prog W 0 (fun _ => true) true n 2 [c1] = some y1 := by
      have := hf 1 _ rfl
      simpa [show Try.prog.cellsOf 2 = 1 by kernel_rfl] using this
    obtain ⟨a0, l0, p0, rfl, hcp0⟩ : ∃ a l p, c0 = .slice a l p ∧ l ≤ p := by
      rcases open_slice Try.underlying31 e0 with ⟨hcs, _⟩ | ⟨ad, l, c, _, _, _, _, hcs, _, hlc, _⟩
      · exact ⟨_, _, _, by simpa using hcs, Nat.le_refl _⟩
      · exact ⟨_, _, _, by simpa using hcs, hlc⟩
    obtain ⟨z0, s0, u0⟩ := ValL_of_trod e0
    obtain ⟨z1, q1, -, -⟩ := DataW.trod_int Try.underlying2 e1
    simp at q1
    subst q1
    exact ⟨⟨z0, z1⟩, ⟨_, _, _, rfl, s0, hcp0⟩, u0⟩
theorem EntryL_of_trod {H : Type} {enc : TypeId × Value → H} {W : World} {fuel : Nat} {x : DataW H × List MemPlace} {a : Option Addr} {len cap : Nat} (h : DataW.trod enc Try.prog W 0 (fun _ => true) true fuel 30 [.slice a len cap] = some x) : ∃ ds : List En, Sl EnR 2 (fun _ => True) W a len ds ∧ (ds.length ≤ maxLen ∧ ∀ y ∈ ds, y.wf) :=
  sl_of_trod (R := EnR) (q := En.wf) (sz := 2) Try.underlying30 (by kernel_rfl) (by omega) (fun n c y hy => Entry_of_trod hy) h
end Go.Proofs.Ytlpfpcnafejkoaa
namespace Go.Proofs.Ytlpfpcnafejkoaa
open Go.RowKit
theorem lawsSzValR (v : Vl) (left : Int) (w : World) (hs : v.s.size ≤ maxLen) (h0 : 0 ≤ left) (h1 : left ≤ 1048576) :
    Calls Try.prog 47 #[.agg #[.int .i64 v.k, .int .i64 v.n, .string v.s], .int .i64 left] w fun e w' => e = .returned (.int .i64 (szR left v.s.size)) ∧ Below w.heap.size w w' :=
  (lawsSzVal v.k v.n v.s left w h0 h1 hs).mono fun e w' ⟨he, hb⟩ => ⟨by rw [he, show szN left v.s = szR left v.s.size by unfold szN szR; split <;> split <;> omega], hb⟩
set_option maxHeartbeats 1000000 in
theorem lawsSzValL (A : Option Addr) (n c : Nat) (l : List Vl) (left : Int) (ok : Nat → Prop) (w : World) (h : Sl VlR 3 ok w A n l) (hwf : (l.length ≤ maxLen ∧ ∀ v ∈ l, v.s.size ≤ maxLen)) (hp0 : 0 ≤ left) (hle : left ≤ 1048576) :
    Calls Try.prog 33 #[.slice A n c, .int .i64 left] w fun e w' => e = .returned (.int .i64 (szR left (szL (fun v : Vl => v.s.size) l))) ∧ Below w.heap.size w w' := by
  obtain rfl : l.length = n := h.1
  obtain ⟨hlen, hall⟩ := hwf
  unfold maxLen at hlen
  have HW := Lib.hid hall
  clear hall
  by_cases hs : left - (l.length : Int) < 0
  · go_enter Try.func33, Try.ntmps33
    go_wp2
    go_ret
    exact ⟨retI (szR_no (by unfold szL; omega)), Below.refl _ _⟩
  have hs' : decide (left - (l.length : Int) < 0) = false := by simpa using hs
  go_enter Try.func33, Try.ntmps33
  go_wp2
  go_loopw [1, 5] (fun m i wr => ∃ (k : Nat) (u : Int), k ≤ l.length ∧ i = .int .i64 k ∧ m = .int .i64 u ∧ 0 ≤ u ∧ u ≤ left ∧ Hid (u = left - l.length - ((l.take k).map (fun v : Vl => v.s.size)).sum) ∧ Below w.heap.size w wr) (fun _ i _ => l.length - (intOf i).toNat)
  case atStart => exact ⟨0, _, by omega, rfl, rfl, by omega, by omega, Lib.hid (by simp), Below.refl _ _⟩
  case round =>
    obtain ⟨k, u, hk, rfl, rfl, hu0, hu1, hu, hb⟩ := hrel
    by_cases hlt : k < l.length
    · obtain ⟨b, off, -, rfl, q0, q1, q2⟩ := VlR.at_ (h.below VlR.stays hb) hlt
      have hx := HW.out _ (List.getElem_mem hlt)
      have hst := sum_take (fun v : Vl => v.s.size) l k hlt
      have hsl := sum_take_le (fun v : Vl => v.s.size) l (k + 1)
      have HST := Lib.hid hst
      have HSL := Lib.hid hsl
      have HX := Lib.hid hx
      clear hst hsl hx
      rcases szR_cases u (l[k].s.size) hu0 with ⟨hno, hv⟩ | ⟨u', hv, hu', hu0', hu1', -⟩
      · go_wp2_with fail
        refine (lawsSzValR l[k] u _ HX.out hu0 (by omega)).mono ?_
        rintro e w1 ⟨rfl, hb1⟩
        rw [hv.out]
        go_wp2_with fail
        go_ret
        exact ⟨retI (szR_no (by have e1 := hu.out; have e2 := HST.out; have e3 := HSL.out; unfold szL; (try simp only at e1 e2 e3 ⊢); omega)), hb.trans (hb1.mono hb.size)⟩
      · go_wp2_with fail
        refine (lawsSzValR l[k] u _ HX.out hu0 (by omega)).mono ?_
        rintro e w1 ⟨rfl, hb1⟩
        rw [hv.out]
        go_wp2_with fail
        go_roundw
        case rel => exact ⟨k + 1, _, by omega, by go_num, rfl, by omega, by omega, Lib.hid (by have e1 := hu.out; have e2 := HST.out; have e3 := hu'.out; (try simp only at e1 e2 e3 ⊢); omega), hb.trans (hb1.mono hb.size)⟩
        case measure => simp [intOf]; omega
    · have e : l.take k = l := List.take_of_length_le (by omega)
      have e1 := hu.out
      rw [e] at e1
      have HU := Lib.hid e1
      clear e1 hu e
      go_wp2
      go_ret
      exact ⟨retI (szR_yes (by omega) (by have e1 := HU.out; unfold szL; omega)), hb⟩
set_option maxRecDepth 100000 in
set_option maxHeartbeats 1000000 in
theorem lawsSzEntry (x : En) (A0 : Option Addr) (n0 c0 : Nat) (left : Int) (ok : Nat → Prop) (w : World) (h0 : Sl VlR 3 ok w A0 n0 x.key) (hwf : x.wf) (hp0 : 0 ≤ left) (hle : left ≤ 1048576) :
    Calls Try.prog 14 #[.agg #[.slice A0 n0 c0, .int .i64 x.id], .int .i64 left] w fun e w' => e = .returned (.int .i64 (szR left x.sz)) ∧ Below w.heap.size w w' := by
  have wf0 := hwf
  have WF0 := Lib.hid wf0
  clear wf0
  have HB := Lib.hid ((Below.refl w.heap.size w).alloc (Nat.le_refl _) (.cells #[.slice A0 n0 c0, .int .i64 x.id] 33))
  have RB := Lib.hid (Row.new w 33 #[.slice A0 n0 c0, .int .i64 x.id])
  go_enter Try.func14, Try.ntmps14
  go_wp2_with fail
  refine (lawsSzValL A0 n0 c0 x.key left ok _ (h0.below VlR.stays HB.out) WF0.out (by omega) (by omega)).mono ?_
  rintro e w1 ⟨rfl, hb1⟩
  have hbb1 := (HB.out).trans (hb1.mono (HB.out).size)
  have RB1 := Lib.hid ((RB.out).below hb1)
  obtain ⟨⟨p1_0, p1_1⟩, -⟩ := RB1.out.all2
  rcases szR_cases left (szL (fun v : Vl => v.s.size) x.key) (by omega) with ⟨hno1, hv1⟩ | ⟨l1, hv1, hl1, h01, h11, -⟩
  · rw [hv1.out]
    go_wp2_with fail
    go_ret
    exact ⟨retI (szR_no (by simp only [En.sz]; omega)), hbb1⟩
  rw [hv1.out]
  go_wp2_with fail
  go_ret
  exact ⟨retI (szR_yes (by omega) (by have := hl1.out; simp only [En.sz]; omega)), hbb1⟩
set_option maxHeartbeats 1000000 in
theorem lawsSzEntryL (A : Option Addr) (n c : Nat) (l : List En) (left : Int) (ok : Nat → Prop) (w : World) (h : Sl EnR 2 ok w A n l) (hwf : (l.length ≤ maxLen ∧ ∀ y ∈ l, y.wf)) (hp0 : 0 ≤ left) (hle : left ≤ 1048576) :
    Calls Try.prog 13 #[.slice A n c, .int .i64 left] w fun e w' => e = .returned (.int .i64 (szR left (szL En.sz l))) ∧ Below w.heap.size w w' := by
  obtain rfl : l.length = n := h.1
  obtain ⟨hlen, hall⟩ := hwf
  unfold maxLen at hlen
  have HW := Lib.hid hall
  clear hall
  by_cases hs : left - (l.length : Int) < 0
  · go_enter Try.func13, Try.ntmps13
    go_wp2
    go_ret
    exact ⟨retI (szR_no (by unfold szL; omega)), Below.refl _ _⟩
  have hs' : decide (left - (l.length : Int) < 0) = false := by simpa using hs
  go_enter Try.func13, Try.ntmps13
  go_wp2
  go_loopw [1, 5] (fun m i wr => ∃ (k : Nat) (u : Int), k ≤ l.length ∧ i = .int .i64 k ∧ m = .int .i64 u ∧ 0 ≤ u ∧ u ≤ left ∧ Hid (u = left - l.length - ((l.take k).map (En.sz)).sum) ∧ Below w.heap.size w wr) (fun _ i _ => l.length - (intOf i).toNat)
  case atStart => exact ⟨0, _, by omega, rfl, rfl, by omega, by omega, Lib.hid (by simp), Below.refl _ _⟩
  case round =>
    obtain ⟨k, u, hk, rfl, rfl, hu0, hu1, hu, hb⟩ := hrel
    by_cases hlt : k < l.length
    · obtain ⟨b, off, A0, n0, c0, -, rfl, q0, q1, s0, -⟩ := EnR.at_ (h.below EnR.stays hb) hlt
      have hx := HW.out _ (List.getElem_mem hlt)
      have hst := sum_take (En.sz) l k hlt
      have hsl := sum_take_le (En.sz) l (k + 1)
      have HST := Lib.hid hst
      have HSL := Lib.hid hsl
      have HX := Lib.hid hx
      clear hst hsl hx
      rcases szR_cases u (l[k].sz) hu0 with ⟨hno, hv⟩ | ⟨u', hv, hu', hu0', hu1', -⟩
      · go_wp2_with fail
        refine (lawsSzEntry l[k] A0 n0 c0 u ok _ s0 HX.out hu0 (by omega)).mono ?_
        rintro e w1 ⟨rfl, hb1⟩
        rw [hv.out]
        go_wp2_with fail
        go_ret
        exact ⟨retI (szR_no (by have e1 := hu.out; have e2 := HST.out; have e3 := HSL.out; unfold szL; (try simp only at e1 e2 e3 ⊢); omega)), hb.trans (hb1.mono hb.size)⟩
      · go_wp2_with fail
        refine (lawsSzEntry l[k] A0 n0 c0 u ok _ s0 HX.out hu0 (by omega)).mono ?_
        rintro e w1 ⟨rfl, hb1⟩
        rw [hv.out]
        go_wp2_with fail
        go_roundw
        case rel => exact ⟨k + 1, _, by omega, by go_num, rfl, by omega, by omega, Lib.hid (by have e1 := hu.out; have e2 := HST.out; have e3 := hu'.out; (try simp only at e1 e2 e3 ⊢); omega), hb.trans (hb1.mono hb.size)⟩
        case measure => simp [intOf]; omega
    · have e : l.take k = l := List.take_of_length_le (by omega)
      have e1 := hu.out
      rw [e] at e1
      have HU := Lib.hid e1
      clear e1 hu e
      go_wp2
      go_ret
      exact ⟨retI (szR_yes (by omega) (by have e1 := HU.out; unfold szL; omega)), hb⟩
end Go.Proofs.Ytlpfpcnafejkoaa
