/-
  Contracts on the value of a part, whatever it is; rows that may be seen.
-/
import Derived.Test.YtakhcgkhjmfndaaGreatEval
namespace Go.Proofs.YtakhcgkhjmfndaaGreat
open Go.RowKit

theorem Vals.six {w : World} {B : Option Addr} {x y : Vl} (h : Vals w B 2 [x, y]) : ∃ b off, B = some ⟨b, off, none⟩ ∧ Six w b off x y := by
  obtain ⟨b, off, rfl, c0, c1, c2⟩ := h.at_ (i := 0) (by simp)
  obtain ⟨b', off', e, d0, d1, d2⟩ := h.at_ (i := 1) (by simp)
  cases e
  exact ⟨b, off, rfl, by simpa using c0, by simpa using c1, by simpa using c2, by simpa using d0, by simpa using d1, by simpa using d2⟩
theorem Vals.tri {w : World} {B : Option Addr} {x : Vl} (h : Vals w B 1 [x]) : ∃ b off, B = some ⟨b, off, none⟩ ∧ Tri w b off x := by
  obtain ⟨b, off, rfl, c0, c1, c2⟩ := h.at_ (i := 0) (by simp)
  exact ⟨b, off, rfl, by simpa using c0, by simpa using c1, by simpa using c2⟩

theorem implTokValue (kk : Nat) (hk : 1 ≤ kk ∧ kk ≤ 10) (a0 a1 a2 : Value) (h2 : opsCells[kk * 3 + 2]? = some a2) (t : Tk) (ht : t.k = kk) (A B : Option Addr) (cap capB : Nat) (row xs : List Vl) (w : World)
    (htok : tokB t row.length = true) (hr : Vals w A row.length row) (hx : Vals w B (takes kk) xs) (hok : ∀ v ∈ xs, v.ok = true) :
    Calls Tryz.prog 101 #[.agg #[a0, a1, a2], .agg #[.int .i64 t.k, .int .i64 t.c, .int .i64 t.vk, .int .i64 t.vn, .string t.vs], .slice A row.length cap, .slice B (takes kk) capB] w (OptPost (tokVal row t xs) w) := by
  have hl := hx.len
  have hcases : kk = 1 ∨ kk = 2 ∨ kk = 3 ∨ kk = 4 ∨ kk = 5 ∨ kk = 6 ∨ kk = 7 ∨ kk = 8 ∨ kk = 9 ∨ kk = 10 := by omega
  rcases hcases with rfl | rfl | rfl | rfl | rfl | rfl | rfl | rfl | rfl | rfl
  · have ht' : t.k = 1 := ht
    have e : tokVal row t xs = row[t.c.toNat]? := by simp [tokVal, ht']
    rw [e]
    simp only [tokB, ht', if_true, Bool.and_eq_true, decide_eq_true_eq] at htok
    exact implTokValue1 _ _ _ _ t A cap row w hr ht' htok.1 htok.2.1
  · have ht' : t.k = 2 := ht
    have e : tokVal row t xs = some ⟨t.vk, t.vn, t.vs⟩ := by simp [tokVal, ht']
    rw [e]
    exact implTokValue2 _ _ _ _ _ t w ht'
  · have ht' : t.k = 3 := ht
    have ea : a2 = .func (.func 75) #[] #[] := (Option.some.inj (h2.symm.trans rfl))
    subst ea
    match xs, hl with
    | [x, y], _ =>
      have e : tokVal row t [x, y] = op2 3 x y := by simp [tokVal, ht', opOf]
      rw [e]
      obtain ⟨b, off, rfl, h6⟩ := Vals.six (w := w) (B := B) hx
      exact implTokValue3 _ _ _ t b off capB x y w ht' h6
  · have ht' : t.k = 4 := ht
    have ea : a2 = .func (.func 76) #[] #[] := (Option.some.inj (h2.symm.trans rfl))
    subst ea
    match xs, hl with
    | [x, y], _ =>
      have e : tokVal row t [x, y] = op2 4 x y := by simp [tokVal, ht', opOf]
      rw [e]
      obtain ⟨b, off, rfl, h6⟩ := Vals.six (w := w) (B := B) hx
      exact implTokValue4 _ _ _ t b off capB x y w ht' h6
  · have ht' : t.k = 5 := ht
    have ea : a2 = .func (.func 77) #[] #[] := (Option.some.inj (h2.symm.trans rfl))
    subst ea
    match xs, hl with
    | [x, y], _ =>
      have e : tokVal row t [x, y] = op2 5 x y := by simp [tokVal, ht', opOf]
      rw [e]
      obtain ⟨b, off, rfl, h6⟩ := Vals.six (w := w) (B := B) hx
      exact implTokValue5 _ _ _ t b off capB x y w ht' h6 (hok x (by simp)) (hok y (by simp))
  · have ht' : t.k = 6 := ht
    have ea : a2 = .func (.func 78) #[] #[] := (Option.some.inj (h2.symm.trans rfl))
    subst ea
    match xs, hl with
    | [x, y], _ =>
      have e : tokVal row t [x, y] = op2 6 x y := by simp [tokVal, ht', opOf]
      rw [e]
      obtain ⟨b, off, rfl, h6⟩ := Vals.six (w := w) (B := B) hx
      exact implTokValue6 _ _ _ t b off capB x y w ht' h6 (hok x (by simp)) (hok y (by simp))
  · have ht' : t.k = 7 := ht
    have ea : a2 = .func (.func 79) #[] #[] := (Option.some.inj (h2.symm.trans rfl))
    subst ea
    match xs, hl with
    | [x], _ =>
      have e : tokVal row t [x] = op1 7 x := by simp [tokVal, ht', opOf]
      rw [e]
      obtain ⟨b, off, rfl, h6⟩ := Vals.tri (w := w) (B := B) hx
      exact implTokValue7 _ _ _ t b off capB x w ht' h6 (hok x (by simp))
  · have ht' : t.k = 8 := ht
    have ea : a2 = .func (.func 80) #[] #[] := (Option.some.inj (h2.symm.trans rfl))
    subst ea
    match xs, hl with
    | [x], _ =>
      have e : tokVal row t [x] = op1 8 x := by simp [tokVal, ht', opOf]
      rw [e]
      obtain ⟨b, off, rfl, h6⟩ := Vals.tri (w := w) (B := B) hx
      exact implTokValue8 _ _ _ t b off capB x w ht' h6
  · have ht' : t.k = 9 := ht
    have ea : a2 = .func (.func 81) #[] #[] := (Option.some.inj (h2.symm.trans rfl))
    subst ea
    match xs, hl with
    | [x, y], _ =>
      have e : tokVal row t [x, y] = op2 9 x y := by simp [tokVal, ht', opOf]
      rw [e]
      obtain ⟨b, off, rfl, h6⟩ := Vals.six (w := w) (B := B) hx
      exact implTokValue9 _ _ _ t b off capB x y w ht' h6 (hok x (by simp)) (hok y (by simp))
  · have ht' : t.k = 10 := ht
    have ea : a2 = .func (.func 82) #[] #[] := (Option.some.inj (h2.symm.trans rfl))
    subst ea
    match xs, hl with
    | [x, y], _ =>
      have e : tokVal row t [x, y] = op2 10 x y := by simp [tokVal, ht', opOf]
      rw [e]
      obtain ⟨b, off, rfl, h6⟩ := Vals.six (w := w) (B := B) hx
      exact implTokValue10 _ _ _ t b off capB x y w ht' h6 (hok x (by simp)) (hok y (by simp))

set_option maxRecDepth 100000 in
theorem implSeenOk (A : Option Addr) (n cap : Nat) (row : List Vl) (w : World) (h : Vals w A n row) (hn : n ≤ maxLen) :
    Calls Tryz.prog 100 #[.slice A n cap] w fun e w' => e = .returned (.bool (rowB row)) ∧ Below w.heap.size w w' := by
  unfold maxLen at hn
  obtain rfl : n = row.length := h.len.symm
  by_cases h16 : (16 : Int) < row.length
  · go_enter Tryz.func100, Tryz.ntmps100
    go_wp2
    go_ret
    exact ⟨retB (by simp [rowB]; omega), Below.refl _ _⟩
  have h16' : decide ((16 : Int) < row.length) = false := by simpa using h16
  go_enter Tryz.func100, Tryz.ntmps100
  go_wp2
  go_loopw [10] (fun i wr => ∃ k : Nat, k ≤ row.length ∧ i = .int .i64 k ∧ Hid ((row.take k).all Vl.ok = true) ∧ Below w.heap.size w wr) (fun i _ => row.length - (intOf i).toNat)
  case atStart => exact ⟨0, by omega, rfl, Lib.hid (by simp), Below.refl _ _⟩
  case round =>
    obtain ⟨k, hk, rfl, hall, hb⟩ := hrel
    by_cases hlt : k < row.length
    · obtain ⟨b, off, rfl, c0, c1, c2⟩ := (h.below hb).at_ hlt
      cases hv : row[k].ok
      · have HV := Lib.hid hv
        have HF := Lib.hid (show rowB row = false by
          have : row.all Vl.ok = false := List.all_eq_false.2 ⟨row[k], List.getElem_mem hlt, by simp [hv]⟩
          simp [rowB, this])
        clear hv
        go_wp2_with fail
        refine (implValOk row[k].k row[k].n row[k].s _).mono ?_
        rintro e w1 ⟨rfl, hb1⟩
        rw [show valOkB row[k].k row[k].n row[k].s = false from HV.out]
        go_wp2_with fail
        go_ret
        exact ⟨retB (by rw [HF.out]), hb.trans (((((Below.refl wr.heap.size wr).alloc (Nat.le_refl _) _).trans (hb1.mono (by simp))).mono hb.size))⟩
      · have HV := Lib.hid hv
        have hall2 := Lib.hid (show (row.take (k + 1)).all Vl.ok = true by
          rw [List.take_succ_eq_append_getElem hlt, List.all_append, hall.out]
          simp [hv])
        clear hv hall
        go_wp2_with fail
        refine (implValOk row[k].k row[k].n row[k].s _).mono ?_
        rintro e w1 ⟨rfl, hb1⟩
        rw [show valOkB row[k].k row[k].n row[k].s = true from HV.out]
        go_wp2_with fail
        go_roundw
        case rel => exact ⟨k + 1, by omega, by go_num, hall2, hb.trans (((((Below.refl wr.heap.size wr).alloc (Nat.le_refl _) _).trans (hb1.mono (by simp))).mono hb.size))⟩
        case measure => simp [intOf]; omega
    · have e : row.take k = row := List.take_of_length_le (by omega)
      have ha := hall.out
      rw [e] at ha
      have HA := Lib.hid ha
      clear hall ha e
      go_wp2
      go_ret
      exact ⟨retB (by simp [rowB, HA.out]; omega), hb⟩

end Go.Proofs.YtakhcgkhjmfndaaGreat
