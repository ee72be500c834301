/-
  Lists of entries: which are right, in the program.
-/
import Derived.Test.YtoomnhfmlfmckaaEntImpl
import Derived.Deep.RegionHeld3
namespace Go.Proofs.Ytoomnhfmlfmckaa
open Go.RowKit Go.Maps
set_option linter.unusedVariables false
set_option linter.unusedSimpArgs false

theorem run_store_fnE (P : Program) (w : World) (a : Addr) (m : Mode) (f : Fn) (x y : Array Value) : (store a (.func f x y) m).run P w = stored P w a (.func f x y) m := run_store P w a _ m rfl
attribute [local go_sem] run_store_fnE

theorem two_rows (w : World) (T : TypeId) (cs cs' : Array Value) : Row ((w.alloc (.cells cs T)).alloc (.cells cs' T)) w.heap.size T cs ∧ Row ((w.alloc (.cells cs T)).alloc (.cells cs' T)) (w.heap.size + 1) T cs' :=
  ⟨(Row.new w T cs).alloc _, Row.newAt (w.alloc (.cells cs T)) T cs' (w.heap.size + 1) (by simp)⟩
theorem keepC4 {w w' : World} {p q r s : Addr} {a b c d : Value} (h : w.cell? p = some a ∧ w.cell? q = some b ∧ w.cell? r = some c ∧ w.cell? s = some d) (hb : Below w.heap.size w w') : w'.cell? p = some a ∧ w'.cell? q = some b ∧ w'.cell? r = some c ∧ w'.cell? s = some d :=
  ⟨below_keep hb _ _ h.1, below_keep hb _ _ h.2.1, below_keep hb _ _ h.2.2.1, below_keep hb _ _ h.2.2.2⟩
theorem keepC3 {w w' : World} {p q r : Addr} {a b c : Value} (h : w.cell? p = some a ∧ w.cell? q = some b ∧ w.cell? r = some c) (hb : Below w.heap.size w w') : w'.cell? p = some a ∧ w'.cell? q = some b ∧ w'.cell? r = some c :=
  ⟨below_keep hb _ _ h.1, below_keep hb _ _ h.2.1, below_keep hb _ _ h.2.2⟩

theorem keepC5 {w w' : World} {p q r s t : Addr} {a b c d e : Value} (h : w.cell? p = some a ∧ w.cell? q = some b ∧ w.cell? r = some c ∧ w.cell? s = some d ∧ w.cell? t = some e) (hb : Below w.heap.size w w') : w'.cell? p = some a ∧ w'.cell? q = some b ∧ w'.cell? r = some c ∧ w'.cell? s = some d ∧ w'.cell? t = some e :=
  ⟨below_keep hb _ _ h.1, below_keep hb _ _ h.2.1, below_keep hb _ _ h.2.2.1, below_keep hb _ _ h.2.2.2.1, below_keep hb _ _ h.2.2.2.2⟩
theorem keepC8 {w w' : World} {p q r s t u v x : Addr} {a b c d e f g h' : Value} (h : w.cell? p = some a ∧ w.cell? q = some b ∧ w.cell? r = some c ∧ w.cell? s = some d ∧ w.cell? t = some e ∧ w.cell? u = some f ∧ w.cell? v = some g ∧ w.cell? x = some h') (hb : Below w.heap.size w w') : w'.cell? p = some a ∧ w'.cell? q = some b ∧ w'.cell? r = some c ∧ w'.cell? s = some d ∧ w'.cell? t = some e ∧ w'.cell? u = some f ∧ w'.cell? v = some g ∧ w'.cell? x = some h' :=
  ⟨below_keep hb _ _ h.1, below_keep hb _ _ h.2.1, below_keep hb _ _ h.2.2.1, below_keep hb _ _ h.2.2.2.1, below_keep hb _ _ h.2.2.2.2.1, below_keep hb _ _ h.2.2.2.2.2.1, below_keep hb _ _ h.2.2.2.2.2.2.1, below_keep hb _ _ h.2.2.2.2.2.2.2⟩

set_option maxRecDepth 100000 in
set_option maxHeartbeats 2000000 in
theorem implOrderEntries (x y : En) (A B : Option Addr) (n c m d : Nat) (ok ok' : Nat → Prop) (w : World) (ha : Sl VlR 3 ok w A n x.key) (hb : Sl VlR 3 ok' w B m y.key) (hn : n ≤ 1048576) (hm : m ≤ 1048576) :
    Calls Try.prog 49 #[.agg #[.slice A n c, .int .i64 x.id], .agg #[.slice B m d, .int .i64 y.id]] w fun e w' => e = .returned (.int .i64 (ordE x y)) ∧ Below w.heap.size w w' := by
  have hb0 := chain2 w (.cells #[.slice A n c, .int .i64 x.id] 46) (.cells #[.slice B m d, .int .i64 y.id] 46)
  have hr := two_rows w 46 #[.slice A n c, .int .i64 x.id] #[.slice B m d, .int .i64 y.id]
  obtain ⟨⟨k0, k1⟩, -⟩ := hr.1.all2
  obtain ⟨⟨g0, g1⟩, -⟩ := hr.2.all2
  have HA := Lib.hid (Sl.below VlR.stays (ha.below VlR.stays hb0) (Below.refl _ _).drew)
  have HC := Lib.hid (Sl.below VlR.stays (hb.below VlR.stays hb0) (Below.refl _ _).drew)
  have HB := Lib.hid hb0
  clear hb0 hr ha hb
  go_enter Try.func49, Try.ntmps49
  go_wp2_with fail
  generalize (w.alloc (.cells #[.slice A n c, .int .i64 x.id] 46)).alloc (.cells #[.slice B m d, .int .i64 y.id] 46) = z0 at *
  go_region_held3 (fun w' => w'.cell? ⟨w.heap.size, 0, none⟩ = some (.slice A n c) ∧ w'.cell? ⟨w.heap.size, 1, none⟩ = some (.int .i64 x.id) ∧ w'.cell? ⟨w.heap.size + 1, 0, none⟩ = some (.slice B m d) ∧ w'.cell? ⟨w.heap.size + 1, 1, none⟩ = some (.int .i64 y.id))
    (first | go_keep | exact keepC4 (by assumption) hq3)
    (first | (go_at_call 53; refine (cmpInt _ _ _).mono ?_; rintro e w3 ⟨rfl, rfl⟩) | (go_at_call 64; refine (implCmpVals A B n m c d x.key y.key _ _ _ HA.out HC.out hn hm).mono ?_; rintro e w3 ⟨rfl, hq3⟩) | (go_at_call 52; refine Calls.mono (cmpOr2 _ (ordL x.key y.key) (cmpI x.id y.id) _ ?_ ?_) ?_; simp; simp; rintro e w4 ⟨rfl, rfl⟩))
  have hz := HB.out.drew.trans (hq3.mono HB.out.drew.size)
  go_wp2
  go_ret
  exact ⟨rfl, by first | exact hz.alloc hz.size _ | exact (hz.alloc hz.size _).drew⟩

set_option maxRecDepth 100000 in
set_option maxHeartbeats 2000000 in
theorem implRises (b : Nat) (A : Option Addr) (n c : Nat) (l : List En) (ok : Nat → Prop) (w : World) (h0 : w.cell? ⟨b, 0, none⟩ = some (.slice A n c)) (h1 : w.cell? ⟨b, 1, none⟩ = some (.func (.func 49) #[] #[]))
    (h : Sl EnR 2 ok w A n l) (hn : n ≤ 1048576) (hk : ∀ e ∈ l, e.key.length ≤ 1048576) :
    Calls Try.prog 50 #[.pointer (some ⟨b, 0, none⟩)] w fun e w' => e = .returned (.bool (risesB l)) ∧ Below w.heap.size w w' := by
  obtain rfl : l.length = n := h.1
  have HK := Lib.hid hk
  have H0 := Lib.hid h0
  have H1 := Lib.hid h1
  clear hk h0 h1
  go_enter Try.func50, Try.ntmps50
  go_wp2_with fail
  go_loopw [3] (fun i wr => ∃ j : Nat, i = .int .i64 ((j : Int) + 1) ∧ Hid (j ≤ l.length) ∧ Hid ((List.range j).all (upB l) = true) ∧ Below w.heap.size w wr) (fun i _ => l.length + 1 - (intOf i).toNat)
  case atStart => exact ⟨0, rfl, Lib.hid (by omega), Lib.hid (by simp), Below.refl _ _⟩
  case round =>
    obtain ⟨j, rfl, hjl, hall, hbw⟩ := hrel
    have k0 := below_keep hbw _ _ H0.out
    have k1 := below_keep hbw _ _ H1.out
    by_cases hlt : j + 1 < l.length
    · have hsl := h.below EnR.stays hbw
      obtain ⟨b1, o1, A1, n1, c1, -, rfl, q0, q1, s1, -⟩ := EnR.at_ hsl (i := j) (by omega)
      obtain ⟨b2, o2, A2, n2, c2, -, e2, r0, r1, s2, -⟩ := EnR.at_ hsl (i := j + 1) hlt
      obtain ⟨rfl, rfl⟩ : b1 = b2 ∧ o1 = o2 := by simpa using e2
      obtain rfl : l[j].key.length = n1 := s1.1
      obtain rfl : l[j + 1].key.length = n2 := s2.1
      have z : decide ((j : Int) + 1 < l.length) = true := decide_eq_true (by omega)
      have a0 : (0 : Int) ≤ j := by omega
      have a1 : (j : Int) < l.length := by omega
      have b0 : (0 : Int) ≤ (j : Int) + 1 := by omega
      have b1' : (j : Int) + 1 < l.length := by omega
      have t0 : IntKind.i64.wrap ((j : Int) + 1 - 1) = j := by rw [IntWalk.i64_in _ (by omega)]; omega
      have t1 : ((j : Int) + 1).toNat = j + 1 := by omega
      have t2 : IntKind.i64.wrap (j : Int) = j := IntWalk.i64_in _ (by omega)
      have HX := Lib.hid (implOrderEntries l[j] l[j + 1] A1 A2 l[j].key.length c1 l[j + 1].key.length c2 _ _ wr.drew (Sl.below VlR.stays s1 (Below.refl _ _).drew) (Sl.below VlR.stays s2 (Below.refl _ _).drew) (HK.out _ (List.getElem_mem _)) (HK.out _ (List.getElem_mem _)))
      have HNO := Lib.hid (fun hh => rises_no (l := l) hlt hh)
      have HYES := Lib.hid (show ordE l[j] l[j + 1] < 0 → (List.range (j + 1)).all (upB l) = true from fun hh => by rw [range_all_succ, hall.out, upB_at hlt, decide_eq_true hh]; rfl)
      have hme : l.length + 1 - (j + 1 + 1) < l.length + 1 - (j + 1) := by omega
      have HJ := Lib.hid (show j + 1 ≤ l.length by omega)
      clear e2 s1 s2 hsl hall hjl
      go_wp2_with fail
      have d0 : wr.drew.cell? ⟨b1, o1 + j * 2, none⟩ = some (.slice A1 l[j].key.length c1) := q0
      have d1 : wr.drew.cell? ⟨b1, o1 + j * 2 + 1, none⟩ = some (.int .i64 l[j].id) := q1
      go_region_held3 (fun w' => w'.cell? ⟨b, 0, none⟩ = some (.slice (some ⟨b1, o1, none⟩) l.length c) ∧ w'.cell? ⟨b, 1, none⟩ = some (.func (.func 49) #[] #[]) ∧ w'.cell? ⟨b1, o1 + j * 2, none⟩ = some (.slice A1 l[j].key.length c1) ∧ w'.cell? ⟨b1, o1 + j * 2 + 1, none⟩ = some (.int .i64 l[j].id) ∧ w'.cell? ⟨b1, o1 + (j + 1) * 2, none⟩ = some (.slice A2 l[j + 1].key.length c2) ∧ w'.cell? ⟨b1, o1 + (j + 1) * 2 + 1, none⟩ = some (.int .i64 l[j + 1].id))
        (first | go_keep | exact ⟨k0, k1, q0, q1, r0, r1⟩ | exact keep6 (by assumption) hq3)
        (first | (go_at_call 49; refine HX.out.mono ?_; rintro e w3 ⟨rfl, hq3⟩))
      have hz := hbw.drew.trans (hq3.mono hbw.drew.size)
      by_cases hc : ordE l[j] l[j + 1] < 0
      · have zc : decide (0 ≤ ordE l[j] l[j + 1]) = false := decide_eq_false (by omega)
        have HA := Lib.hid (HYES.out hc)
        go_wp2_with fail
        go_roundw
        case rel => exact ⟨j + 1, by first | rfl | go_num, HJ, HA, hz⟩
        case measure => simp [intOf]; omega
      · have zc : decide (0 ≤ ordE l[j] l[j + 1]) = true := decide_eq_true (by omega)
        have HF := Lib.hid (HNO.out (by omega))
        go_wp2_with fail
        go_ret
        exact ⟨retB HF.out.symm, hz⟩
    · have z : decide ((j : Int) + 1 < l.length) = false := decide_eq_false (by omega)
      have HF := Lib.hid (rises_yes hall.out (by omega))
      clear hall
      go_wp2_with fail
      go_ret
      exact ⟨retB HF.out.symm, hbw⟩

set_option maxRecDepth 100000 in
set_option maxHeartbeats 2000000 in
theorem implEntryOk (x : En) (A : Option Addr) (n c : Nat) (ok : Nat → Prop) (w : World) (h : Sl VlR 3 ok w A n x.key) (hn : n ≤ 1048576) :
    Calls Try.prog 44 #[.agg #[.slice A n c, .int .i64 x.id]] w fun e w' => e = .returned (.bool (entryB x)) ∧ Below w.heap.size w w' := by
  obtain rfl : x.key.length = n := h.1
  have hb0 := (Below.refl w.heap.size w).alloc (Nat.le_refl _) (.cells #[.slice A x.key.length c, .int .i64 x.id] 46)
  have r0 := Row.new w 46 #[.slice A x.key.length c, .int .i64 x.id]
  have h1 := h.below VlR.stays hb0
  obtain ⟨⟨k0, k1⟩, -⟩ := r0.all2
  have RB := Lib.hid r0
  clear r0
  by_cases hl : 1 ≤ x.key.length
  case neg =>
    have HF := Lib.hid (show entryB x = false by unfold entryB; rw [decide_eq_false hl]; rfl)
    have z : decide ((1 : Int) ≤ x.key.length) = false := decide_eq_false (by omega)
    have z' : decide (1 ≤ x.key.length) = false := decide_eq_false (by omega)
    clear hl
    go_enter Try.func44, Try.ntmps44
    go_wp2_with fail
    go_ret
    exact ⟨retB HF.out.symm, hb0⟩
  have z : decide ((1 : Int) ≤ x.key.length) = true := decide_eq_true (by omega)
  have z' : decide (1 ≤ x.key.length) = true := decide_eq_true (by omega)
  have HE := Lib.hid (show entryB x = (rowB x.key && (decide (1 ≤ x.id) && decide (x.id ≤ 1000000000))) by unfold entryB; rw [z']; rfl)
  have HX := Lib.hid (implSeenOk A x.key.length c x.key _ (Sl.cellz (fun _ => rfl) h1) (by unfold maxLen; omega))
  clear hl h h1
  go_enter Try.func44, Try.ntmps44
  go_wp2_with fail
  generalize w.alloc (.cells #[.slice A x.key.length c, .int .i64 x.id] 46) = z0 at *
  refine HX.out.mono ?_
  rintro e w1 ⟨rfl, hb1⟩
  have hz := hb0.trans (hb1.mono hb0.size)
  obtain ⟨⟨g0, g1⟩, -⟩ := (RB.out.below hb1).all2
  clear k0 k1
  cases hr : rowB x.key
  · have HF := Lib.hid (show entryB x = false by rw [HE.out, hr]; rfl)
    clear hr
    go_wp2_with fail
    go_ret
    exact ⟨retB HF.out.symm, hz⟩
  have HE2 := Lib.hid (show entryB x = (decide (1 ≤ x.id) && decide (x.id ≤ 1000000000)) by rw [HE.out, hr]; rfl)
  clear hr
  by_cases hi : 1 ≤ x.id
  · have zi : decide (1 ≤ x.id) = true := decide_eq_true hi
    have HF := Lib.hid (show entryB x = decide (x.id ≤ 1000000000) by rw [HE2.out, zi]; rfl)
    clear hi
    go_wp2_with fail
    go_ret
    exact ⟨retB HF.out.symm, hz⟩
  · have zi : decide (1 ≤ x.id) = false := decide_eq_false hi
    have HF := Lib.hid (show entryB x = false by rw [HE2.out, zi]; rfl)
    clear hi
    go_wp2_with fail
    go_ret
    exact ⟨retB HF.out.symm, hz⟩

set_option maxRecDepth 100000 in
set_option maxHeartbeats 4000000 in
theorem implEntriesOk (A : Option Addr) (n c : Nat) (l : List En) (ok : Nat → Prop) (w : World) (h : Sl EnR 2 ok w A n l) (hn : n ≤ 1048576) (hk : ∀ e ∈ l, e.key.length ≤ 1048576) :
    Calls Try.prog 29 #[.slice A n c] w fun e w' => e = .returned (.bool (entriesB l)) ∧ Below w.heap.size w w' := by
  obtain rfl : l.length = n := h.1
  by_cases h120 : l.length ≤ 120
  case neg =>
    have HF := Lib.hid (show entriesB l = false by unfold entriesB; rw [decide_eq_false h120]; rfl)
    have z : decide ((120 : Int) < l.length) = true := decide_eq_true (by omega)
    have z' : decide (120 < l.length) = true := decide_eq_true (by omega)
    clear h120
    go_enter Try.func29, Try.ntmps29
    go_wp2_with fail
    go_ret
    exact ⟨retB HF.out.symm, Below.refl _ _⟩
  have z : decide ((120 : Int) < l.length) = false := decide_eq_false (by omega)
  have z' : decide (120 < l.length) = false := decide_eq_false (by omega)
  have H120 := Lib.hid h120
  have HK := Lib.hid hk
  clear h120 hk
  go_enter Try.func29, Try.ntmps29
  go_wp2_with fail
  clear z z'
  go_loopw [11] (fun i wr => ∃ k : Nat, k ≤ l.length ∧ i = .int .i64 k ∧ Hid ((l.take k).all (entW (wideOf l)) = true) ∧ Below w.heap.size w wr) (fun i _ => l.length - (intOf i).toNat)
  case atStart => exact ⟨0, by omega, rfl, Lib.hid (by simp), Below.refl _ _⟩
  case round =>
    obtain ⟨k, hk, rfl, hall, hb⟩ := hrel
    by_cases hlt : k < l.length
    · have hsl := h.below EnR.stays hb
      obtain ⟨b1, o1, A1, n1, c1, -, rfl, q0, q1, s1, -⟩ := EnR.at_ hsl (i := k) hlt
      obtain ⟨b2, o2, A2, n2, c2, -, e2, r0, r1, s2, -⟩ := EnR.at_ hsl (i := 0) (by omega)
      obtain ⟨rfl, rfl⟩ : b1 = b2 ∧ o1 = o2 := by simpa using e2
      obtain rfl : l[k].key.length = n1 := s1.1
      obtain rfl : l[0].key.length = n2 := s2.1
      rw [Nat.zero_mul, Nat.add_zero] at r0
      have i0 : (0 : Int) ≤ k := by omega
      have i1 : (k : Int) < l.length := by omega
      have i2 : (0 : Int) < l.length := by omega
      have i3 : 0 < l.length := by omega
      have hbx := (Below.refl wr.heap.size wr).alloc (Nat.le_refl _) (.cells #[.slice A1 l[k].key.length c1, .int .i64 l[k].id] 46)
      have hba := hb.trans (hbx.mono hb.size)
      obtain ⟨⟨v0, v1⟩, -⟩ := (Row.new wr 46 #[.slice A1 l[k].key.length c1, .int .i64 l[k].id]).all2
      have x0 := below_keep hbx _ _ r0
      have HX := Lib.hid (implEntryOk l[k] A1 l[k].key.length c1 _ (wr.alloc (.cells #[.slice A1 l[k].key.length c1, .int .i64 l[k].id] 46)).drew (Sl.below VlR.stays (s1.below VlR.stays hbx) (Below.refl _ _).drew) (HK.out _ (List.getElem_mem _)))
      have HNO := Lib.hid (fun hf => entriesB_no (l := l) hlt hf)
      have HW := Lib.hid (wideOf_at i3)
      have HST := Lib.hid (all_take_succE (entW (wideOf l)) l k hlt)
      clear e2 s1 s2 hsl r0 r1
      go_wp2_with fail
      generalize wr.alloc (.cells #[.slice A1 l[k].key.length c1, .int .i64 l[k].id] 46) = z0 at *
      cases he : entryB l[k]
      · have HE := Lib.hid he
        have HF := Lib.hid (HNO.out (by unfold entW; rw [he]; rfl))
        clear he
        first | (go_region_with ((go_at_call 44; refine HX.out.mono ?_; rintro e w3 ⟨rfl, hq3⟩; rw [HE.out]))) | fail
        go_wp2_with fail
        all_goals (go_ret; exact ⟨retB HF.out.symm, hba.drew.trans (hq3.mono hba.drew.size)⟩)
      have HE := Lib.hid he
      by_cases hl : l[k].key.length = l[0].key.length
      · have zl : ((l[k].key.length : Int) != l[0].key.length) = false := by rw [hl]; simp
        have HA := Lib.hid (show (l.take (k + 1)).all (entW (wideOf l)) = true by rw [HST.out, hall.out]; unfold entW; rw [he, HW.out, decide_eq_true hl]; rfl)
        clear he hl
        first | (go_region_held3 (fun w' => w'.cell? ⟨wr.heap.size, 0, none⟩ = some (.slice A1 l[k].key.length c1) ∧ w'.cell? ⟨wr.heap.size, 1, none⟩ = some (.int .i64 l[k].id) ∧ w'.cell? ⟨b1, o1, none⟩ = some (.slice A2 l[0].key.length c2))
          (first | go_keep | exact keepC3 (by assumption) hq3)
          (first | (go_at_call 44; refine HX.out.mono ?_; rintro e w3 ⟨rfl, hq3⟩; rw [HE.out]))) | fail
        (try rw [zl])
        go_wp2_with fail
        go_roundw
        case rel => exact ⟨k + 1, by omega, by go_num, HA, hba.drew.trans (hq3.mono hba.drew.size)⟩
        case measure => simp [intOf]; omega
      · have zl : ((l[k].key.length : Int) != l[0].key.length) = true := by simp; omega
        have HF := Lib.hid (HNO.out (by unfold entW; rw [HW.out, decide_eq_false hl, Bool.and_false]))
        clear he hl
        first | (go_region_held3 (fun w' => w'.cell? ⟨wr.heap.size, 0, none⟩ = some (.slice A1 l[k].key.length c1) ∧ w'.cell? ⟨wr.heap.size, 1, none⟩ = some (.int .i64 l[k].id) ∧ w'.cell? ⟨b1, o1, none⟩ = some (.slice A2 l[0].key.length c2))
          (first | go_keep | exact keepC3 (by assumption) hq3)
          (first | (go_at_call 44; refine HX.out.mono ?_; rintro e w3 ⟨rfl, hq3⟩; rw [HE.out]))) | fail
        (try rw [zl])
        go_wp2_with fail
        go_ret
        exact ⟨retB HF.out.symm, hba.drew.trans (hq3.mono hba.drew.size)⟩
    · obtain rfl : k = l.length := by omega
      have ha := hall.out
      rw [List.take_of_length_le (Nat.le_refl _)] at ha
      have HF := Lib.hid (show entriesB l = risesB l by unfold entriesB; rw [decide_eq_true H120.out, ha]; rfl)
      have hbx := (Below.refl wr.heap.size wr).alloc (Nat.le_refl _) (.cells #[.slice A l.length c, .func (.func 49) #[] #[]] 62)
      have hba := hb.trans (hbx.mono hb.size)
      obtain ⟨⟨v0, v1⟩, -⟩ := (Row.new wr 62 #[.slice A l.length c, .func (.func 49) #[] #[]]).all2
      have HX := Lib.hid (implRises wr.heap.size A l.length c l _ _ v0 v1 ((h.below EnR.stays hb).below EnR.stays hbx) hn HK.out)
      clear hall ha
      go_wp2_with fail
      refine HX.out.mono ?_
      rintro e w3 ⟨rfl, hq3⟩
      go_wp2_with fail
      go_ret
      exact ⟨retB HF.out.symm, hba.trans (hq3.mono hba.size)⟩
end Go.Proofs.Ytoomnhfmlfmckaa
