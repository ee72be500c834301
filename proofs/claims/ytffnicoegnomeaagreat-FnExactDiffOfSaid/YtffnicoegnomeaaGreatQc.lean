/-
  Several texts in one: what the proof leans on, part 3.
-/
import Derived.Test.YtffnicoegnomeaaGreatQb
import Derived.Test.YtffnicoegnomeaaGreatQa
import Derived.Deep.QuietTactic
import Derived.BigQuiet
import Derived.Deep.Cut
import Derived.Laws.IdiomStrings
import Derived.Lib.SliceRun
import Derived.Lib.SmallJoins
set_option linter.unusedVariables false
set_option linter.unusedSimpArgs false
namespace Go.Proofs.YtffnicoegnomeaaGreat
open Go.RowKit
theorem below_dN {B : Nat} {w w' : World} (h : Below B w w') (m : Nat) : Below B w (w'.drewN m) := ⟨h.os, h.tape, h.output, h.size, h.block⟩
def eqlV (a b : Vl) : Bool := (a.k == b.k) && ((a.n == b.n) && (a.s.toList == b.s.toList))
def eqlP (p : Vl × Vl) : Bool := eqlV p.1 p.2
def eqlL (a b : List Vl) : Bool := decide (a.length = b.length) && (a.zip b).all eqlP
theorem zip_take {α β : Type} (a : List α) (b : List β) (k : Nat) (h : k < a.length) (h' : k < b.length) (f : α × β → Bool) : ((a.zip b).take (k + 1)).all f = (((a.zip b).take k).all f && f (a[k], b[k])) := by
  rw [List.take_succ_eq_append_getElem (by rw [List.length_zip]; omega), List.all_append]
  simp
theorem zip_no {α β : Type} {a : List α} {b : List β} {k : Nat} (h : k < a.length) (h' : k < b.length) {f : α × β → Bool} (hf : f (a[k], b[k]) = false) : (a.zip b).all f = false := by
  rw [List.all_eq_false]
  exact ⟨(a[k], b[k]), by rw [List.mem_iff_getElem]; exact ⟨k, by rw [List.length_zip]; omega, by simp⟩, by simp [hf]⟩
set_option maxRecDepth 100000 in
set_option maxHeartbeats 1000000 in
theorem specSameVals (A A' : Option Addr) (n c n' c' : Nat) (a b : List Vl) (ok ok' : Nat → Prop) (w : World) (h : Sl VlR 3 ok w A n a) (h' : Sl VlR 3 ok' w A' n' b) (hn : n ≤ 1048576) (hn' : n' ≤ 1048576) :
    Calls Tryz.prog 61 #[.slice A n c, .slice A' n' c'] w fun e w' => e = .returned (.bool (eqlL a b)) ∧ Below w.heap.size w w' := by
  obtain rfl : a.length = n := h.1
  obtain rfl : b.length = n' := h'.1
  by_cases hl : (a.length : Int) = b.length
  case neg =>
    have hl' : ((a.length : Int) == b.length) = false := by simpa using hl
    have HF := Lib.hid (show eqlL a b = false by unfold eqlL; rw [decide_eq_false (by omega)]; rfl)
    clear hl
    go_enter Tryz.func61, Tryz.ntmps61
    go_wp2_with fail
    go_ret
    exact ⟨retB HF.out.symm, Below.refl _ _⟩
  have hl' : ((a.length : Int) == b.length) = true := by simpa using hl
  have HL := Lib.hid (show a.length = b.length by omega)
  clear hl
  go_enter Tryz.func61, Tryz.ntmps61
  go_wp2_with fail
  clear hl'
  go_loopw [5] (fun i wr => ∃ k : Nat, k ≤ a.length ∧ i = .int .i64 k ∧ Hid (((a.zip b).take k).all eqlP = true) ∧ Below w.heap.size w wr) (fun i _ => a.length - (intOf i).toNat)
  case atStart => exact ⟨0, by omega, rfl, Lib.hid (by simp), Below.refl _ _⟩
  case round =>
    obtain ⟨k, hk, rfl, hall, hb⟩ := hrel
    by_cases hlt : k < a.length
    · have hlt' : k < b.length := by have := HL.out; omega
      obtain ⟨b1, o1, -, rfl, q0, q1, q2⟩ := VlR.at_ (h.below VlR.stays hb) hlt
      obtain ⟨b2, o2, -, rfl, y0, y1, y2⟩ := VlR.at_ (h'.below VlR.stays hb) hlt'
      have i0 : (0 : Int) ≤ k := by omega
      have i1 : (k : Int) < a.length := by omega
      have i2 : (k : Int) < b.length := by omega
      have hst := zip_take a b k hlt hlt' eqlP
      rw [hall.out, Bool.true_and] at hst
      have hno := fun hf => zip_no (f := eqlP) hlt hlt' hf
      generalize a[k] = x at *
      generalize b[k] = y at *
      cases hs : eqlP (x, y)
      · have HF := Lib.hid (show eqlL a b = false by unfold eqlL; rw [hno hs]; simp)
        have HS := Lib.hid hs
        clear hno hst hall hs
        cases e1 : (x.k == y.k)
        · clear HS
          go_wp2_with fail
          go_quiet (fail)
          go_wp2_with fail
          go_ret
          exact ⟨retB HF.out.symm, below_dN hb _⟩
        · cases e2 : (x.n == y.n)
          · clear HS
            go_wp2_with fail
            go_quiet (fail)
            go_wp2_with fail
            go_ret
            exact ⟨retB HF.out.symm, below_dN hb _⟩
          · have e3 : (x.s.toList == y.s.toList) = false := by have := HS.out; simp only [eqlP, eqlV, e1, e2, Bool.true_and] at this; exact this
            clear HS
            go_wp2_with fail
            go_quiet (fail)
            go_wp2_with fail
            go_ret
            exact ⟨retB HF.out.symm, below_dN hb _⟩
      · rw [hs] at hst
        have HA := Lib.hid hst
        simp only [eqlP, eqlV, Bool.and_eq_true] at hs
        obtain ⟨e1, e2, e3⟩ := hs
        clear hno hst hall
        go_wp2_with fail
        go_quiet (fail)
        go_wp2_with fail
        go_roundw
        case rel => exact ⟨k + 1, by omega, by go_num, HA, below_dN hb _⟩
        case measure => simp [intOf]; omega
    · have e : (a.zip b).take k = a.zip b := List.take_of_length_le (by rw [List.length_zip]; have := HL.out; omega)
      have h1 := hall.out
      rw [e] at h1
      have HA := Lib.hid (show eqlL a b = true by unfold eqlL; rw [decide_eq_true HL.out, h1]; rfl)
      clear e h1 hall
      go_wp2_with fail
      go_ret
      exact ⟨retB HA.out.symm, hb⟩
def chg (t id : Int) (o n : List Vl) : List Ch := if eqlL o n then [] else [⟨t, id, o, n⟩]
def firstB : List Rw → List Rw → Int
  | x :: _, y :: _ => if x.id < y.id then x.id else y.id
  | x :: _, [] => x.id
  | [], y :: _ => y.id
  | [], [] => 0
def tookV : List Rw → Int → List Vl
  | x :: _, id => if x.id = id then x.vals else []
  | [], _ => []
def tookR : List Rw → Int → List Rw
  | x :: r, id => if x.id = id then r else x :: r
  | [], _ => []
theorem tookV_cons (x : Rw) (r : List Rw) (id : Int) : tookV (x :: r) id = if x.id = id then x.vals else [] := rfl
theorem tookR_cons (x : Rw) (r : List Rw) (id : Int) : tookR (x :: r) id = if x.id = id then r else x :: r := rfl
theorem firstB_cons (x y : Rw) (r q : List Rw) : firstB (x :: r) (y :: q) = if x.id < y.id then x.id else y.id := rfl
def diffM (t : Int) : Nat → List Rw → List Rw → List Ch
  | 0, _, _ => []
  | f + 1, a, b => if a.length = 0 ∧ b.length = 0 then [] else chg t (firstB a b) (tookV a (firstB a b)) (tookV b (firstB a b)) ++ diffM t f (tookR a (firstB a b)) (tookR b (firstB a b))
theorem tookR_len (a : List Rw) (id : Int) : (tookR a id).length ≤ a.length := by
  cases a with
  | nil => simp [tookR]
  | cons x r => rw [tookR_cons]; split <;> simp
theorem took_less {a b : List Rw} (h : ¬ (a.length = 0 ∧ b.length = 0)) : (tookR a (firstB a b)).length + (tookR b (firstB a b)).length < a.length + b.length := by
  cases a with
  | nil =>
    cases b with
    | nil => simp at h
    | cons y q => simp [tookR, firstB]
  | cons x r =>
    cases b with
    | nil => simp [tookR, firstB]
    | cons y q =>
      have h1 := tookR_len (y :: q) (firstB (x :: r) (y :: q))
      have h2 := tookR_len (x :: r) (firstB (x :: r) (y :: q))
      by_cases e : x.id < y.id
      · have : (tookR (x :: r) (firstB (x :: r) (y :: q))).length = r.length := by simp [tookR, firstB, e]
        simp only [List.length_cons] at *; omega
      · have : (tookR (y :: q) (firstB (x :: r) (y :: q))).length = q.length := by simp [tookR, firstB, e]
        simp only [List.length_cons] at *; omega
theorem diffM_fuel (t : Int) : ∀ (f g : Nat) (a b : List Rw), a.length + b.length ≤ f → a.length + b.length ≤ g → diffM t f a b = diffM t g a b
  | 0, 0, _, _, _, _ => rfl
  | 0, g + 1, a, b, h, _ => by
    unfold diffM
    rw [if_pos (by omega)]
  | f + 1, 0, a, b, _, h => by
    unfold diffM
    rw [if_pos (by omega)]
  | f + 1, g + 1, a, b, h, h' => by
    unfold diffM
    by_cases e : a.length = 0 ∧ b.length = 0
    · rw [if_pos e, if_pos e]
    · rw [if_neg e, if_neg e]
      have := took_less e
      rw [diffM_fuel t f g _ _ (by omega) (by omega)]
def diffT (t : Int) (a b : List Rw) : List Ch := diffM t (a.length + b.length) a b
theorem diffT_end (t : Int) {a b : List Rw} (h : a.length = 0 ∧ b.length = 0) : diffT t a b = [] := by
  unfold diffT
  rw [h.1, h.2]; rfl
theorem diffT_step (t : Int) {a b : List Rw} (h : ¬ (a.length = 0 ∧ b.length = 0)) : diffT t a b = chg t (firstB a b) (tookV a (firstB a b)) (tookV b (firstB a b)) ++ diffT t (tookR a (firstB a b)) (tookR b (firstB a b)) := by
  have h1 := took_less h
  unfold diffT
  obtain ⟨f, hf⟩ : ∃ f, a.length + b.length = f + 1 := ⟨a.length + b.length - 1, by omega⟩
  rw [hf]
  show (if _ then _ else _) = _
  rw [if_neg h, diffM_fuel t f _ _ _ (by omega) (Nat.le_refl _)]
def risesR (l : List Rw) : Prop := (l.map Rw.id).Pairwise (· < ·)
def valsAt (l : List Rw) (id : Int) : List Vl := match l.find? (fun r => decide (r.id = id)) with
  | some r => r.vals
  | none => []
theorem valsAt_none {l : List Rw} {id : Int} (h : ∀ r ∈ l, r.id ≠ id) : valsAt l id = [] := by
  unfold valsAt
  rw [List.find?_eq_none.2 fun r hr => by simpa using h r hr]
theorem valsAt_hit {x : Rw} {l : List Rw} {id : Int} (h : x.id = id) : valsAt (x :: l) id = x.vals := by
  unfold valsAt
  rw [List.find?_cons, decide_eq_true h]
theorem valsAt_miss {x : Rw} {l : List Rw} {id : Int} (h : x.id ≠ id) : valsAt (x :: l) id = valsAt l id := by
  unfold valsAt
  rw [List.find?_cons, decide_eq_false h]
theorem risesR_cons {x : Rw} {l : List Rw} (h : risesR (x :: l)) : (∀ r ∈ l, x.id < r.id) ∧ risesR l := by
  unfold risesR at h
  rw [List.map_cons, List.pairwise_cons] at h
  exact ⟨fun r hr => h.1 _ (List.mem_map.2 ⟨r, hr, rfl⟩), h.2⟩
theorem tookV_at {l : List Rw} {id : Int} (h : risesR l) (hm : ∀ r ∈ l, id ≤ r.id) : tookV l id = valsAt l id := by
  cases l with
  | nil => rfl
  | cons x r =>
    rw [tookV_cons]
    by_cases e : x.id = id
    · rw [if_pos e, valsAt_hit e]
    · rw [if_neg e, valsAt_none fun y hy => ?_]
      have h0 := hm x (by simp)
      rcases List.mem_cons.1 hy with rfl | hy
      · exact e
      · have := (risesR_cons h).1 y hy; omega
theorem tookR_at {l : List Rw} {id z : Int} (h : z ≠ id) : valsAt (tookR l id) z = valsAt l z := by
  cases l with
  | nil => rfl
  | cons x r =>
    rw [tookR_cons]
    by_cases e : x.id = id
    · rw [if_pos e, valsAt_miss (by omega)]
    · rw [if_neg e]
theorem tookR_rises {l : List Rw} {id : Int} (h : risesR l) : risesR (tookR l id) := by
  cases l with
  | nil => exact h
  | cons x r =>
    rw [tookR_cons]
    split
    · exact (risesR_cons h).2
    · exact h
theorem tookR_mem {l : List Rw} {id z : Int} (h : risesR l) (hm : ∀ r ∈ l, id ≤ r.id) : z ∈ (tookR l id).map Rw.id ↔ z ∈ l.map Rw.id ∧ z ≠ id := by
  cases l with
  | nil => simp [tookR]
  | cons x r =>
    have h1 := (risesR_cons h).1
    rw [tookR_cons]
    by_cases e : x.id = id
    · rw [if_pos e]
      constructor
      · intro hz
        obtain ⟨y, hy, rfl⟩ := List.mem_map.1 hz
        have := h1 y hy
        exact ⟨by rw [List.map_cons]; exact List.mem_cons_of_mem _ hz, by omega⟩
      · rintro ⟨hz, hne⟩
        rw [List.map_cons] at hz
        rcases List.mem_cons.1 hz with rfl | hz
        · exact absurd e hne
        · exact hz
    · rw [if_neg e]
      refine ⟨fun hz => ⟨hz, ?_⟩, fun hz => hz.1⟩
      obtain ⟨y, hy, rfl⟩ := List.mem_map.1 hz
      have h0 := hm x (by simp)
      rcases List.mem_cons.1 hy with rfl | hy
      · exact e
      · have := h1 y hy; omega
theorem firstB_le {a b : List Rw} (ha : risesR a) (hb : risesR b) : (∀ r ∈ a, firstB a b ≤ r.id) ∧ (∀ r ∈ b, firstB a b ≤ r.id) := by
  have hh : ∀ {x : Rw} {l : List Rw}, risesR (x :: l) → ∀ r ∈ x :: l, x.id ≤ r.id := fun {x l} h r hr => by
    rcases List.mem_cons.1 hr with rfl | hr
    · exact Int.le_refl _
    · exact Int.le_of_lt ((risesR_cons h).1 r hr)
  cases a with
  | nil =>
    cases b with
    | nil => simp
    | cons y q => exact ⟨by simp, fun r hr => by simpa [firstB] using hh hb r hr⟩
  | cons x p =>
    cases b with
    | nil => exact ⟨fun r hr => by simpa [firstB] using hh ha r hr, by simp⟩
    | cons y q =>
      have h1 := hh ha
      have h2 := hh hb
      rw [firstB_cons]
      by_cases e : x.id < y.id
      · rw [if_pos e]
        exact ⟨h1, fun r hr => by have := h2 r hr; omega⟩
      · rw [if_neg e]
        exact ⟨fun r hr => by have := h1 r hr; omega, h2⟩
theorem firstB_mem {a b : List Rw} (h : ¬ (a.length = 0 ∧ b.length = 0)) : firstB a b ∈ a.map Rw.id ∨ firstB a b ∈ b.map Rw.id := by
  cases a with
  | nil =>
    cases b with
    | nil => simp at h
    | cons y q => right; simp [firstB]
  | cons x p =>
    cases b with
    | nil => left; simp [firstB]
    | cons y q =>
      rw [firstB_cons]
      by_cases e : x.id < y.id
      · left; simp [e]
      · right; simp [e]
def chgAt (t : Int) (a b : List Rw) (id : Int) : List Ch := chg t id (valsAt a id) (valsAt b id)
theorem diff_ids (t : Int) : ∀ (f : Nat) (a b : List Rw) (ids : List Int), a.length + b.length ≤ f → risesR a → risesR b → ids.Pairwise (· < ·) → (∀ x, x ∈ ids ↔ x ∈ a.map Rw.id ∨ x ∈ b.map Rw.id) → diffM t f a b = ids.flatMap (chgAt t a b)
  | 0, a, b, ids, hf, ha, hb, hs, hm => by
    obtain rfl : a = [] := List.length_eq_zero_iff.1 (by omega)
    obtain rfl : b = [] := List.length_eq_zero_iff.1 (by omega)
    cases ids with
    | nil => rfl
    | cons x l => have := (hm x).1 (by simp); simp at this
  | f + 1, a, b, ids, hf, ha, hb, hs, hm => by
    by_cases he : a.length = 0 ∧ b.length = 0
    · obtain rfl : a = [] := List.length_eq_zero_iff.1 he.1
      obtain rfl : b = [] := List.length_eq_zero_iff.1 he.2
      cases ids with
      | nil => rfl
      | cons x l => have := (hm x).1 (by simp); simp at this
    · have hl := took_less he
      obtain ⟨m1, m2⟩ := firstB_le ha hb
      have hin := firstB_mem he
      have hall : ∀ z ∈ ids, firstB a b ≤ z := fun z hz => by
        rcases (hm z).1 hz with h | h <;> obtain ⟨r, hr, rfl⟩ := List.mem_map.1 h
        · exact m1 r hr
        · exact m2 r hr
      have hfi := (hm _).2 hin
      cases ids with
      | nil => simp at hfi
      | cons z l =>
        have hz : z = firstB a b := by
          have h1 := hall z (by simp)
          rcases List.mem_cons.1 hfi with h | h
          · exact h.symm
          · have := (List.pairwise_cons.1 hs).1 _ h; omega
        have hgt := (List.pairwise_cons.1 hs).1
        have hm' : ∀ x, x ∈ l ↔ x ∈ (tookR a (firstB a b)).map Rw.id ∨ x ∈ (tookR b (firstB a b)).map Rw.id := fun x => by
          rw [tookR_mem ha m1, tookR_mem hb m2]
          constructor
          · intro hx
            have h1 := hgt x hx
            rcases (hm x).1 (List.mem_cons_of_mem _ hx) with h | h
            · exact .inl ⟨h, by omega⟩
            · exact .inr ⟨h, by omega⟩
          · rintro (⟨h, hn⟩ | ⟨h, hn⟩)
            · rcases List.mem_cons.1 ((hm x).2 (.inl h)) with h | h
              · omega
              · exact h
            · rcases List.mem_cons.1 ((hm x).2 (.inr h)) with h | h
              · omega
              · exact h
        have hI := diff_ids t f _ _ l (by omega) (tookR_rises ha) (tookR_rises hb) (List.pairwise_cons.1 hs).2 hm'
        unfold diffM
        rw [if_neg he, hI, List.flatMap_cons, hz]
        have e1 : chgAt t a b (firstB a b) = chg t (firstB a b) (tookV a (firstB a b)) (tookV b (firstB a b)) := by
          unfold chgAt
          rw [tookV_at ha m1, tookV_at hb m2]
        rw [e1]
        congr 1
        have : ∀ (m : List Int), (∀ x ∈ m, x ≠ firstB a b) → m.flatMap (chgAt t (tookR a (firstB a b)) (tookR b (firstB a b))) = m.flatMap (chgAt t a b) := fun m => by
          induction m with
          | nil => intro _; rfl
          | cons u m ih =>
            intro h
            rw [List.flatMap_cons, List.flatMap_cons, ih fun x hx => h x (List.mem_cons_of_mem _ hx)]
            have hu := h u (by simp)
            unfold chgAt
            rw [tookR_at hu, tookR_at hu]
        exact this l fun x hx => by have := hgt x hx; omega
def insI (x : Int) : List Int → List Int
  | [] => [x]
  | y :: l => if y < x then y :: insI x l else x :: y :: l
def placeI (x : Int) : List Int → Nat
  | [] => 0
  | y :: l => if y < x then placeI x l + 1 else 0
theorem insI_eq (x : Int) : ∀ l : List Int, insI x l = l.take (placeI x l) ++ (x :: l.drop (placeI x l))
  | [] => rfl
  | y :: l => by
    unfold insI placeI
    split
    · rw [List.take_succ_cons, List.drop_succ_cons, insI_eq x l]; rfl
    · rfl
theorem placeI_is (x : Int) : ∀ (l : List Int) (k : Nat), k ≤ l.length → (∀ j (h : j < l.length), j < k → l[j] < x) → (∀ h : k < l.length, ¬ l[k] < x) → placeI x l = k
  | [], k, hk, _, _ => by simp at hk; subst hk; rfl
  | y :: l, 0, hk, _, h2 => by
    have := h2 (by simp)
    simp only [List.getElem_cons_zero] at this
    unfold placeI
    rw [if_neg this]
  | y :: l, k + 1, hk, h1, h2 => by
    have h0 := h1 0 (by simp) (by omega)
    simp only [List.getElem_cons_zero] at h0
    unfold placeI
    rw [if_pos h0, placeI_is x l k (by simpa using hk) (fun j h hj => by have := h1 (j + 1) (by simpa using h) (by omega); simpa using this) (fun h => by have := h2 (by simpa using h); simpa using this)]
def sortI (l : List Int) : List Int := l.foldl (fun acc x => insI x acc) []
theorem sortI_take {l : List Int} {k : Nat} (h : k < l.length) : sortI (l.take (k + 1)) = insI l[k] (sortI (l.take k)) := by
  unfold sortI
  rw [List.take_succ_eq_append_getElem h, List.foldl_append]; rfl
theorem insI_mem (x : Int) : ∀ (l : List Int) (z : Int), z ∈ insI x l ↔ z = x ∨ z ∈ l
  | [], z => by simp [insI]
  | y :: l, z => by
    unfold insI
    split
    · rw [List.mem_cons, insI_mem x l z, List.mem_cons]
      constructor
      · rintro (h | h | h) <;> simp [h]
      · rintro (h | h | h) <;> simp [h]
    · rw [List.mem_cons]
theorem insI_rises (x : Int) : ∀ (l : List Int), l.Pairwise (· < ·) → x ∉ l → (insI x l).Pairwise (· < ·)
  | [], _, _ => by simp [insI]
  | y :: l, h, hn => by
    obtain ⟨h1, h2⟩ := List.pairwise_cons.1 h
    unfold insI
    split
    · next hlt =>
      refine List.pairwise_cons.2 ⟨fun z hz => ?_, insI_rises x l h2 fun hx => hn (List.mem_cons_of_mem _ hx)⟩
      rcases (insI_mem x l z).1 hz with rfl | hz
      · exact hlt
      · exact h1 z hz
    · next hge =>
      have hne : x ≠ y := fun e => hn (by simp [e])
      refine List.pairwise_cons.2 ⟨fun z hz => ?_, h⟩
      rcases List.mem_cons.1 hz with rfl | hz
      · omega
      · have := h1 z hz; omega
theorem sort_go : ∀ (l acc : List Int), acc.Pairwise (· < ·) → l.Nodup → (∀ x ∈ l, x ∉ acc) → (l.foldl (fun acc x => insI x acc) acc).Pairwise (· < ·) ∧ ∀ z, z ∈ l.foldl (fun acc x => insI x acc) acc ↔ z ∈ l ∨ z ∈ acc
  | [], acc, ha, _, _ => ⟨ha, fun z => by simp⟩
  | x :: l, acc, ha, hl, hd => by
    obtain ⟨h1, h2⟩ := List.nodup_cons.1 hl
    have hx := hd x (by simp)
    obtain ⟨k1, k2⟩ := sort_go l (insI x acc) (insI_rises x acc ha hx) h2 (fun y hy hh => by
      rcases (insI_mem x acc y).1 hh with rfl | hh
      · exact h1 hy
      · exact hd y (List.mem_cons_of_mem _ hy) hh)
    refine ⟨k1, fun z => ?_⟩
    rw [List.foldl_cons, k2 z, insI_mem, List.mem_cons]
    constructor
    · rintro (h | h | h) <;> simp [h]
    · rintro ((h | h) | h) <;> simp [h]
theorem sortI_ok {l : List Int} (h : l.Nodup) : (sortI l).Pairwise (· < ·) ∧ ∀ z, z ∈ sortI l ↔ z ∈ l := by
  obtain ⟨h1, h2⟩ := sort_go l [] List.Pairwise.nil h (fun _ _ => by simp)
  exact ⟨h1, fun z => by rw [sortI, h2 z]; simp⟩
theorem insI_len (x : Int) : ∀ l : List Int, (insI x l).length = l.length + 1
  | [] => rfl
  | y :: l => by
    unfold insI
    split
    · simp [insI_len x l]
    · simp
theorem sortI_len (l : List Int) : (sortI l).length = l.length := by
  have h : ∀ (l acc : List Int), (l.foldl (fun acc x => insI x acc) acc).length = l.length + acc.length := fun l => by
    induction l with
    | nil => intro acc; simp
    | cons x l ih => intro acc; rw [List.foldl_cons, ih, insI_len]; simp; omega
  rw [sortI, h]; simp
def idsA (a : List Rw) : List Int := a.map Rw.id
def idsB (acc : List Int) (b : List Rw) : List Int := b.foldl (fun acc r => if hasB acc r.id then acc else acc ++ [r.id]) acc
def idsL (a b : List Rw) : List Int := idsB (idsA a) b
theorem idsA_take {a : List Rw} {k : Nat} (h : k < a.length) : idsA (a.take (k + 1)) = idsA (a.take k) ++ [a[k].id] := by
  unfold idsA
  rw [List.take_succ_eq_append_getElem h, List.map_append]; rfl
theorem idsB_take {acc : List Int} {b : List Rw} {k : Nat} (h : k < b.length) : idsB acc (b.take (k + 1)) = if hasB (idsB acc (b.take k)) b[k].id then idsB acc (b.take k) else idsB acc (b.take k) ++ [b[k].id] := by
  unfold idsB
  rw [List.take_succ_eq_append_getElem h, List.foldl_append]; rfl
theorem idsB_ok : ∀ (b : List Rw) (acc : List Int), acc.Nodup → (idsB acc b).Nodup ∧ ∀ z, z ∈ idsB acc b ↔ z ∈ acc ∨ z ∈ b.map Rw.id
  | [], acc, h => ⟨h, fun z => by simp [idsB]⟩
  | x :: b, acc, h => by
    unfold idsB
    rw [List.foldl_cons]
    cases hc : hasB acc x.id
    · have hx : x.id ∉ acc := fun hh => by unfold hasB at hc; rw [List.contains_iff_mem.2 hh] at hc; cases hc
      obtain ⟨h1, h2⟩ := idsB_ok b (acc ++ [x.id]) (List.nodup_append.2 ⟨h, by simp, fun a ha b hb => by rintro rfl; simp at hb; exact hx (hb ▸ ha)⟩)
      refine ⟨by simpa [idsB] using h1, fun z => ?_⟩
      have := h2 z
      simp only [idsB] at this
      simp only [Bool.false_eq_true, if_false, this, List.mem_append, List.mem_cons, List.not_mem_nil, or_false, List.map_cons, or_assoc]
    · have hx : x.id ∈ acc := List.contains_iff_mem.1 hc
      obtain ⟨h1, h2⟩ := idsB_ok b acc h
      refine ⟨by simpa [idsB] using h1, fun z => ?_⟩
      have := h2 z
      simp only [idsB] at this
      simp only [if_true, this, List.map_cons, List.mem_cons]
      constructor
      · rintro (h | h) <;> simp [h]
      · rintro (h | h | h)
        · simp [h]
        · exact .inl (h ▸ hx)
        · simp [h]
theorem idsB_len : ∀ (b : List Rw) (acc : List Int), (idsB acc b).length ≤ acc.length + b.length
  | [], acc => by simp [idsB]
  | x :: b, acc => by
    unfold idsB
    rw [List.foldl_cons]
    have h1 := idsB_len b acc
    have h2 := idsB_len b (acc ++ [x.id])
    unfold idsB at h1 h2
    split
    · simp only [List.length_cons]; omega
    · simp only [List.length_append, List.length_cons, List.length_nil] at *; omega
theorem diff_two (t : Int) {a b : List Rw} (ha : risesR a) (hb : risesR b) : diffT t a b = (sortI (idsL a b)).flatMap (chgAt t a b) := by
  have hn : (idsA a).Nodup := List.Pairwise.imp (fun h => by omega) ha
  obtain ⟨h1, h2⟩ := idsB_ok b (idsA a) hn
  obtain ⟨k1, k2⟩ := sortI_ok h1
  exact diff_ids t _ a b _ (Nat.le_refl _) ha hb k1 fun x => (k2 x).trans (h2 x)
theorem idsGo_rises {cols : List Cl} : ∀ {l : List Rw} {last : Int}, idsGo cols last l = true → risesR l ∧ ∀ r ∈ l, last < r.id
  | [], _, _ => ⟨List.Pairwise.nil, by simp⟩
  | x :: xs, last, h => by
    simp only [idsGo, Bool.and_eq_true, decide_eq_true_eq] at h
    obtain ⟨h1, h2⟩ := idsGo_rises h.2.2.2
    refine ⟨?_, fun r hr => ?_⟩
    · unfold risesR
      rw [List.map_cons]
      exact List.pairwise_cons.2 ⟨fun z hz => by obtain ⟨r, hr, rfl⟩ := List.mem_map.1 hz; exact h2 r hr, h1⟩
    · rcases List.mem_cons.1 hr with rfl | hr
      · exact h.1
      · have := h2 r hr; omega
theorem dbB_rises {s : List Tb} {db : List Dt} (h : dbB s db = true) : ∀ d ∈ db, risesR d.rows := fun d hd => by
  obtain ⟨m, hm, rfl⟩ := List.mem_iff_getElem.1 hd
  have hl := dbB_len h
  simp only [dbB, Bool.and_eq_true, decide_eq_true_eq] at h
  have h3 := List.all_eq_true.1 h.2.2 (s[m]'(by omega), db[m]) (by rw [List.mem_iff_getElem]; exact ⟨m, by rw [List.length_zip]; omega, by simp⟩)
  simp only [dbV, dataB, Bool.and_eq_true] at h3
  exact (idsGo_rises h3.2).1
def diffGo (a b : List Dt) (k : Nat) : List Ch := (List.range k).flatMap fun (i : Nat) => diffT (i : Int) ((a[i]?).getD ⟨[]⟩).rows ((b[i]?).getD ⟨[]⟩).rows
def diffB (s : List Tb) (a b : List Dt) : List Ch := if dbB s a && dbB s b then diffGo a b s.length else []
def diffOk (s : List Tb) (a b : List Dt) : Bool := dbB s a && dbB s b
theorem diffGo_succ {a b : List Dt} {k : Nat} (h : k < a.length) (h' : k < b.length) : diffGo a b (k + 1) = diffGo a b k ++ diffT k a[k].rows b[k].rows := by
  unfold diffGo
  rw [List.range_succ, List.flatMap_append]
  simp [List.getElem?_eq_getElem h, List.getElem?_eq_getElem h']
def OwnB (w : World) (base : Nat) (v : Value) (xs : List Int) : Prop := OwnI w base v xs ∧ ∃ g, v.ownBlock = some g
theorem OwnB.shape {w : World} {base : Nat} {v : Value} {xs : List Int} (h : OwnB w base v xs) : ∃ g c, v = .slice (some ⟨g, 0, none⟩) xs.length c ∧ xs.length ≤ c ∧ c ≤ maxLen ∧ base ≤ g ∧ g < w.heap.size := by
  obtain ⟨h, g0, hg0⟩ := h
  rcases h.2 with ⟨rfl, -⟩ | ⟨g, cap, cur, rfl, h1, h2, h3, h4, -⟩
  · simp [Value.ownBlock] at hg0
  · exact ⟨g, cap, rfl, h3, h4, h1, lt_of_block h2⟩
theorem ints_cells {w : World} {base g c : Nat} {xs : List Int} (h : OwnI w base (.slice (some ⟨g, 0, none⟩) xs.length c) xs) : ∀ j (hj : j < xs.length), w.cell? ⟨g, j, none⟩ = some (.int .i64 xs[j]) := fun j hj => by
  rw [World.ownsRow.cellAt h j (by omega), List.getElem?_map, List.getElem?_eq_getElem hj]; rfl
theorem OwnI.mono {w : World} {base base' : Nat} {v : Value} {xs : List Int} (h : OwnI w base v xs) (hb : base' ≤ base) : OwnI w base' v xs := by
  refine ⟨h.1, ?_⟩
  rcases h.2 with h | ⟨g, cap, cur, rfl, h1, h2⟩
  · exact .inl h
  · exact .inr ⟨g, cap, cur, rfl, Nat.le_trans hb h1, h2⟩
set_option maxRecDepth 100000 in
set_option maxHeartbeats 4000000 in
theorem specSort (A : Option Addr) (n c : Nat) (l : List Int) (ok : Nat → Prop) (w : World) (h : Sl IntR 1 ok w A n l) (hn : n ≤ 1048576) :
    Calls Tryz.prog 58 #[.slice A n c] w fun e w' => ∃ v, e = .returned v ∧ OwnI w' w.heap.size v (sortI l) ∧ Below w.heap.size w w' := by
  obtain ⟨i0, hi, hz0, hz1, hz2⟩ := info_parts infoIntI
  have H1 := Lib.hid hi
  have H2 := Lib.hid hz0
  have H3 := Lib.hid hz1
  have H4 := Lib.hid hz2
  clear hi hz0 hz1 hz2
  obtain rfl : l.length = n := h.1
  have ho0 := Lib.hid (show OwnB (w.alloc (.cells #[] 2)) w.heap.size (.slice (some ⟨w.heap.size, 0, none⟩) 0 0) (sortI (l.take 0)) from ⟨OwnI.lit w (Nat.le_refl _), _, rfl⟩)
  have HB0 := Lib.hid ((Below.refl w.heap.size w).alloc (Nat.le_refl _) (.cells #[] 2))
  go_enter Tryz.func58, Tryz.ntmps58
  go_wp2_with fail
  generalize w.alloc (.cells #[] 2) = z0 at *
  go_loopw [3, 4] (fun v i wr => ∃ k : Nat, k ≤ l.length ∧ i = .int .i64 k ∧ Hid (OwnB wr w.heap.size v (sortI (l.take k))) ∧ Hid (Below w.heap.size w wr)) (fun _ i _ => l.length - (intOf i).toNat)
  case atStart => exact ⟨0, by omega, rfl, ho0, HB0⟩
  case round =>
    clear ho0 HB0
    obtain ⟨k, hk, rfl, hown, hb⟩ := hrel
    by_cases hlt : k < l.length
    · have i0' : (0 : Int) ≤ k := by omega
      have i1' : (k : Int) < l.length := by omega
      have HT := Lib.hid (sortI_take hlt)
      have HLN := Lib.hid (show (sortI (l.take k)).length ≤ 1048576 by rw [sortI_len, List.length_take]; omega)
      generalize sortI (l.take k) = xs at *
      obtain ⟨g, cp, rfl, hc1, hc2, hg1, hg2⟩ := hown.out.shape
      have HG := Lib.hid (And.intro hg1 (And.intro hc1 hc2))
      clear hg1 hg2 hc1 hc2
      go_wp2_with fail
      go_loopw [5] (fun i wq => ∃ p : Nat, p ≤ xs.length ∧ i = .int .i64 p ∧ Hid (∀ j (hj : j < xs.length), j < p → xs[j] < l[k]) ∧ Hid (OwnB wq w.heap.size (.slice (some ⟨g, 0, none⟩) xs.length cp) xs) ∧ Hid (Below w.heap.size w wq)) (fun i _ => xs.length - (intOf i).toNat)
      case atStart => exact ⟨0, by omega, rfl, Lib.hid (fun _ _ h => by omega), hown, hb⟩
      case round =>
        clear hown hb
        obtain ⟨p, hp, rfl, hlo, hown, hb⟩ := hrel
        obtain ⟨b, off, -, rfl, q0⟩ := IntR.at_ (h.below IntR.stays hb.out) hlt
        have HSTOP : Hid ((∀ hh : p < xs.length, ¬ xs[p] < l[k]) → placeI l[k] xs = p) := Lib.hid fun hs => placeI_is _ _ _ hp hlo.out hs
        obtain ⟨⟨hI, -⟩, hb'⟩ := And.intro hown.out hb.out
        by_cases hgo : ∃ hh : p < xs.length, xs[p] < l[k]
        · obtain ⟨hpl, hlt2⟩ := hgo
          have hln := HLN.out
          have c0 := ints_cells hI p hpl
          have HLO := Lib.hid (show ∀ j (hj : j < xs.length), j < p + 1 → xs[j] < l[k] from fun j hj hjp => by
            rcases Nat.lt_or_ge j p with h | h
            · exact hlo.out j hj h
            · obtain rfl : j = p := by omega
              exact hlt2)
          have z0 : decide ((p : Int) < xs.length) = true := by simp; omega
          have z1 : decide (xs[p] < l[k]) = true := decide_eq_true hlt2
          have p0 : (0 : Int) ≤ p := by omega
          have p1 : (p : Int) < xs.length := by omega
          clear hI HSTOP
          go_wp2_with fail
          go_quiet (fail)
          go_wp2_with fail
          go_roundw
          case rel => exact ⟨p + 1, by omega, by go_num, HLO, Lib.hid hown.out, Lib.hid (below_dN hb' _)⟩
          case measure => simp [intOf]; omega
        · have HPL := Lib.hid (show placeI l[k] xs = p from HSTOP.out fun hh hc => hgo ⟨hh, hc⟩)
          clear HSTOP
          have hO1 : Hid (∀ q, World.ownsRow ((wr.drewN q).alloc (.cells #[] 2)) wr.heap.size 2 1 (.slice (some ⟨wr.heap.size, 0, none⟩) 0 0) 0 []) := Lib.hid fun q => OwnI.lit (wr.drewN q) (Nat.le_refl _)
          have HC := Lib.hid (ints_cells hI)
          have HTL := Lib.hid (show (xs.take p).length = p by rw [List.length_take]; omega)
          have hln := HLN.out
          have HTT := Lib.hid HT.out
          have hpc : p ≤ cp := by have := HG.out.2.1; omega
          have hpc1 : (p : Int) ≤ cp := by omega
          have p0 : (0 : Int) ≤ p := by omega
          rcases Nat.lt_or_ge p xs.length with hpl | hpl
          · have c0 := ints_cells hI p hpl
            have z0 : decide ((p : Int) < xs.length) = true := by simp; omega
            have z1 : decide (xs[p] < l[k]) = false := decide_eq_false fun hc => hgo ⟨hpl, hc⟩
            have p1 : (p : Int) < xs.length := by omega
            go_wp2_with fail
            go_quiet (fail)
            go_wp2_with (at_builtin; refine wpList_append_own _ rfl _ _ 28 rfl wr.heap.size 2 i0 (.int .i64 0) 1 8 Tryz.underlying28 H1.out H2.out H3.out H4.out rfl (by decide) _ _ _ rfl (hO1.out _) ⟨g, 0, none⟩ p cp ((xs.take p).map (Value.int .i64)) rfl ?c0 ?c1 ?c2 ?c3 ?c4 ?c5 ?_)
            case c0 => rw [List.length_map, HTL.out]; omega
            case c1 =>
              intro j u hj
              rw [List.getElem?_map] at hj
              have hjp : j < p := by
                rcases Nat.lt_or_ge j p with h | h
                · exact h
                · rw [List.getElem?_eq_none (by rw [HTL.out]; exact h)] at hj; simp at hj
              rw [List.getElem?_take, if_pos hjp, List.getElem?_eq_getElem (by omega)] at hj
              cases hj
              rw [addr_add, Nat.zero_add]
              exact below_keep ((below_dN (Below.refl wr.heap.size wr) _).alloc (Nat.le_refl _) _) _ _ (HC.out j (by omega))
            case c2 =>
              intro u hu
              obtain ⟨y, -, rfl⟩ := List.mem_map.1 hu
              rfl
            case c3 => unfold maxLen; omega
            case c4 => omega
            case c5 => simp
            intro v1 W1 own1 grow1 _
            have HB1 := Lib.hid (((below_dN (Below.refl wr.heap.size wr) _).alloc (Nat.le_refl _) _).grown grow1 (by simp) (fun g hg => by simp [Value.ownBlock] at hg; omega))
            have O1 := Lib.hid (show W1.ownsRow wr.heap.size 2 1 v1 p ((xs.take p).map (Value.int .i64)) by simpa using own1)
            have y0 : W1.cell? ⟨b, off + k, none⟩ = some (.int .i64 l[k]) := below_keep HB1.out _ _ q0
            clear own1 grow1
            go_wp2_with (at_builtin; refine wpList_append_own _ rfl _ _ 28 rfl wr.heap.size 2 i0 (.int .i64 0) 1 8 Tryz.underlying28 H1.out H2.out H3.out H4.out rfl (by decide) _ _ _ rfl (World.ownsRow.alloc O1.out _) ⟨_, 0, none⟩ 1 1 [.int .i64 l[k]] rfl rfl ?d1 ?d2 ?d3 ?d4 ?d5 ?_)
            case d1 => exact cells_newAt _ [.int .i64 l[k]] _ (by simp)
            case d2 => intro u hu; simp at hu; subst hu; rfl
            case d3 => unfold maxLen; omega
            case d4 => omega
            case d5 => have := HB1.out.size; simp; omega
            intro v2 W2 own2 grow2 _
            have HB2 := Lib.hid ((HB1.out.alloc HB1.out.size _).grown grow2 (by have := HB1.out.size; simp; omega) (fun g hg => (World.ownsRow.lt O1.out g hg).1))
            have O2 := Lib.hid (show W2.ownsRow wr.heap.size 2 1 v2 (p + 1) ((xs.take p).map (Value.int .i64) ++ [.int .i64 l[k]]) by simpa using own2)
            clear own2 grow2 O1
            go_upto_region 10 with (fail)
            obtain ⟨AD, hAD, hadr⟩ : ∃ AD : Addr, (if cp = p then (some ⟨g, 0, none⟩ : Option Addr) else some ⟨g, p, none⟩) = some AD ∧ ∀ j u, ((xs.drop p).map (Value.int .i64))[j]? = some u → W2.cell? (AD.add j) = some u := by
              have hcell : ∀ j u, ((xs.drop p).map (Value.int .i64))[j]? = some u → j < xs.length - p ∧ W2.cell? ⟨g, p + j, none⟩ = some u := fun j u hj => by
                have h1 := (List.getElem?_eq_some_iff.1 hj).1
                rw [List.length_map, List.length_drop] at h1
                rw [List.getElem?_map, List.getElem?_drop, List.getElem?_eq_getElem (by omega)] at hj
                cases hj
                exact ⟨h1, below_keep HB2.out _ _ (HC.out _ (by omega))⟩
              by_cases e : cp = p
              · refine ⟨⟨g, 0, none⟩, by rw [if_pos e], fun j u hj => ?_⟩
                have := (hcell j u hj).1
                have := HG.out.2.1
                omega
              · refine ⟨⟨g, p, none⟩, by rw [if_neg e], fun j u hj => ?_⟩
                rw [addr_add]
                exact (hcell j u hj).2
            have HAD := Lib.hid hadr
            clear hadr
            have e3 : (p + 1) + (xs.length - p) = xs.length + 1 := by omega
            go_wp2_with (at_builtin; refine wpList_append_own _ rfl _ _ 28 rfl wr.heap.size 2 i0 (.int .i64 0) 1 8 Tryz.underlying28 H1.out H2.out H3.out H4.out rfl (by decide) _ _ _ rfl O2.out AD (xs.length - p) (cp - p) ((xs.drop p).map (Value.int .i64)) (by first | rfl | simp [Act.eval, Act.put, hAD]) ?f0 ?f1 ?f2 ?f3 ?f4 ?f5 ?_)
            case f0 => rw [List.length_map, List.length_drop]; omega
            case f1 => exact HAD.out
            case f2 => intro u hu; obtain ⟨y, -, rfl⟩ := List.mem_map.1 hu; rfl
            case f3 => unfold maxLen; omega
            case f4 => omega
            case f5 => have := HB2.out.size; omega
            intro v3 W3 own3 grow3 _
            have HB3 := Lib.hid (HB2.out.grown grow3 HB2.out.size (fun g hg => (World.ownsRow.lt O2.out g hg).1))
            have HE3 := Lib.hid (show OwnB W3 w.heap.size v3 (sortI (l.take (k + 1))) by
              have hI3 : OwnI W3 wr.heap.size v3 (sortI (l.take (k + 1))) := by
                rw [HTT.out, insI_eq, HPL.out]
                unfold OwnI
                rw [List.length_append, List.length_cons, List.length_drop, HTL.out, show p + (xs.length - p + 1) = xs.length + 1 by omega, List.map_append, List.map_cons]
                simpa using own3
              refine ⟨hI3.mono hb'.size, ?_⟩
              rcases hI3.2 with ⟨-, hn⟩ | ⟨g', cap', cur', e, -⟩
              · rw [HTT.out, insI_len] at hn; omega
              · rw [e]; exact ⟨g', rfl⟩)
            have HBW := Lib.hid (show Below w.heap.size w W3 from hb'.trans (HB3.out.mono hb'.size))
            clear own3 grow3 O2
            go_wp2_with fail
            go_roundw
            case rel => exact ⟨k + 1, by omega, by go_num, HE3, HBW⟩
            case measure => simp [intOf]; omega
          · obtain rfl : xs.length = p := by omega
            have z0 : decide ((xs.length : Int) < xs.length) = false := by simp
            have z0n : decide (xs.length < xs.length) = false := by simp
            go_wp2_with fail
            go_quiet (fail)
            go_wp2_with (at_builtin; refine wpList_append_own _ rfl _ _ 28 rfl wr.heap.size 2 i0 (.int .i64 0) 1 8 Tryz.underlying28 H1.out H2.out H3.out H4.out rfl (by decide) _ _ _ rfl (hO1.out _) ⟨g, 0, none⟩ xs.length cp ((xs.take xs.length).map (Value.int .i64)) rfl ?c0 ?c1 ?c2 ?c3 ?c4 ?c5 ?_)
            case c0 => rw [List.length_map, HTL.out]; omega
            case c1 =>
              intro j u hj
              rw [List.getElem?_map] at hj
              have hjp : j < xs.length := by
                rcases Nat.lt_or_ge j xs.length with h | h
                · exact h
                · rw [List.getElem?_eq_none (by rw [HTL.out]; exact h)] at hj; simp at hj
              rw [List.getElem?_take, if_pos hjp, List.getElem?_eq_getElem (by omega)] at hj
              cases hj
              rw [addr_add, Nat.zero_add]
              exact below_keep ((below_dN (Below.refl wr.heap.size wr) _).alloc (Nat.le_refl _) _) _ _ (HC.out j (by omega))
            case c2 =>
              intro u hu
              obtain ⟨y, -, rfl⟩ := List.mem_map.1 hu
              rfl
            case c3 => unfold maxLen; omega
            case c4 => omega
            case c5 => simp
            intro v1 W1 own1 grow1 _
            have HB1 := Lib.hid (((below_dN (Below.refl wr.heap.size wr) _).alloc (Nat.le_refl _) _).grown grow1 (by simp) (fun g hg => by simp [Value.ownBlock] at hg; omega))
            have O1 := Lib.hid (show W1.ownsRow wr.heap.size 2 1 v1 xs.length ((xs.take xs.length).map (Value.int .i64)) by simpa using own1)
            have y0 : W1.cell? ⟨b, off + k, none⟩ = some (.int .i64 l[k]) := below_keep HB1.out _ _ q0
            clear own1 grow1
            go_wp2_with (at_builtin; refine wpList_append_own _ rfl _ _ 28 rfl wr.heap.size 2 i0 (.int .i64 0) 1 8 Tryz.underlying28 H1.out H2.out H3.out H4.out rfl (by decide) _ _ _ rfl (World.ownsRow.alloc O1.out _) ⟨_, 0, none⟩ 1 1 [.int .i64 l[k]] rfl rfl ?d1 ?d2 ?d3 ?d4 ?d5 ?_)
            case d1 => exact cells_newAt _ [.int .i64 l[k]] _ (by simp)
            case d2 => intro u hu; simp at hu; subst hu; rfl
            case d3 => unfold maxLen; omega
            case d4 => omega
            case d5 => have := HB1.out.size; simp; omega
            intro v2 W2 own2 grow2 _
            have HB2 := Lib.hid ((HB1.out.alloc HB1.out.size _).grown grow2 (by have := HB1.out.size; simp; omega) (fun g hg => (World.ownsRow.lt O1.out g hg).1))
            have O2 := Lib.hid (show W2.ownsRow wr.heap.size 2 1 v2 (xs.length + 1) ((xs.take xs.length).map (Value.int .i64) ++ [.int .i64 l[k]]) by simpa using own2)
            clear own2 grow2 O1
            go_upto_region 10 with (fail)
            obtain ⟨AD, hAD, hadr⟩ : ∃ AD : Addr, (if cp = xs.length then (some ⟨g, 0, none⟩ : Option Addr) else some ⟨g, xs.length, none⟩) = some AD ∧ ∀ j u, ((xs.drop xs.length).map (Value.int .i64))[j]? = some u → W2.cell? (AD.add j) = some u := by
              have hcell : ∀ j u, ((xs.drop xs.length).map (Value.int .i64))[j]? = some u → j < xs.length - xs.length ∧ W2.cell? ⟨g, xs.length + j, none⟩ = some u := fun j u hj => by
                have h1 := (List.getElem?_eq_some_iff.1 hj).1
                rw [List.length_map, List.length_drop] at h1
                rw [List.getElem?_map, List.getElem?_drop, List.getElem?_eq_getElem (by omega)] at hj
                cases hj
                exact ⟨h1, below_keep HB2.out _ _ (HC.out _ (by omega))⟩
              by_cases e : cp = xs.length
              · refine ⟨⟨g, 0, none⟩, by rw [if_pos e], fun j u hj => ?_⟩
                have := (hcell j u hj).1
                have := HG.out.2.1
                omega
              · refine ⟨⟨g, xs.length, none⟩, by rw [if_neg e], fun j u hj => ?_⟩
                rw [addr_add]
                exact (hcell j u hj).2
            have HAD := Lib.hid hadr
            clear hadr
            have e3 : (xs.length + 1) + (xs.length - xs.length) = xs.length + 1 := by omega
            go_wp2_with (at_builtin; refine wpList_append_own _ rfl _ _ 28 rfl wr.heap.size 2 i0 (.int .i64 0) 1 8 Tryz.underlying28 H1.out H2.out H3.out H4.out rfl (by decide) _ _ _ rfl O2.out AD (xs.length - xs.length) (cp - xs.length) ((xs.drop xs.length).map (Value.int .i64)) (by first | rfl | simp [Act.eval, Act.put, hAD]) ?f0 ?f1 ?f2 ?f3 ?f4 ?f5 ?_)
            case f0 => rw [List.length_map, List.length_drop]; omega
            case f1 => exact HAD.out
            case f2 => intro u hu; obtain ⟨y, -, rfl⟩ := List.mem_map.1 hu; rfl
            case f3 => unfold maxLen; omega
            case f4 => omega
            case f5 => have := HB2.out.size; omega
            intro v3 W3 own3 grow3 _
            have HB3 := Lib.hid (HB2.out.grown grow3 HB2.out.size (fun g hg => (World.ownsRow.lt O2.out g hg).1))
            have HE3 := Lib.hid (show OwnB W3 w.heap.size v3 (sortI (l.take (k + 1))) by
              have hI3 : OwnI W3 wr.heap.size v3 (sortI (l.take (k + 1))) := by
                rw [HTT.out, insI_eq, HPL.out]
                unfold OwnI
                rw [List.length_append, List.length_cons, List.length_drop, HTL.out, show xs.length + (xs.length - xs.length + 1) = xs.length + 1 + (xs.length - xs.length) by omega, List.map_append, List.map_cons]
                simpa using own3
              refine ⟨hI3.mono hb'.size, ?_⟩
              rcases hI3.2 with ⟨-, hn⟩ | ⟨g', cap', cur', e, -⟩
              · rw [HTT.out, insI_len] at hn; omega
              · rw [e]; exact ⟨g', rfl⟩)
            have HBW := Lib.hid (show Below w.heap.size w W3 from hb'.trans (HB3.out.mono hb'.size))
            clear own3 grow3 O2
            go_wp2_with fail
            go_roundw
            case rel => exact ⟨k + 1, by omega, by go_num, HE3, HBW⟩
            case measure => simp [intOf]; omega
    · obtain rfl : k = l.length := by omega
      go_wp2_with fail
      go_ret
      exact ⟨_, rfl, by have h9 := hown.out.1; rwa [List.take_length] at h9, hb.out⟩
def AtR (l : List Rw) (id x : Int) : Prop := (x = -1 ∧ valsAt l id = []) ∨ ∃ m : Nat, x = m ∧ ∃ h : m < l.length, valsAt l id = l[m].vals
theorem AtR_hit : ∀ {l : List Rw} {id : Int} {m : Nat} (h : m < l.length), (∀ j (hj : j < l.length), j < m → l[j].id ≠ id) → l[m].id = id → valsAt l id = l[m].vals
  | [], _, _, h, _, _ => by simp at h
  | x :: l, id, 0, h, _, he => valsAt_hit he
  | x :: l, id, m + 1, h, hn, he => by
    have h0 := hn 0 (by simp) (by omega)
    simp only [List.getElem_cons_zero] at h0
    rw [valsAt_miss h0]
    exact AtR_hit (l := l) (by simpa using h) (fun j hj hjm => hn (j + 1) (by simpa using hj) (by omega)) he
set_option maxRecDepth 100000 in
set_option maxHeartbeats 2000000 in
theorem specL4At (A : Option Addr) (n c : Nat) (l : List Rw) (id : Int) (ok : Nat → Prop) (w : World) (h : Sl RwR 2 ok w A n l) (hn : n ≤ 1048576) :
    Calls Tryz.prog 59 #[.agg #[.slice A n c], .int .i64 id] w fun e w' => ∃ x, e = .returned (.int .i64 x) ∧ AtR l id x ∧ Below w.heap.size w w' := by
  obtain rfl : l.length = n := h.1
  have hb0 := (Below.refl w.heap.size w).alloc (Nat.le_refl _) (.cells #[.slice A l.length c] 114)
  have r0 := Row.new w 114 #[.slice A l.length c]
  go_enter Tryz.func59, Tryz.ntmps59
  go_wp2_with fail
  generalize w.alloc (.cells #[.slice A l.length c] 114) = z0 at *
  have d0 := r0.cell 0
  simp only [List.getElem?_toArray, List.getElem?_cons_zero] at d0
  go_loopw [5] (fun i wr => ∃ k : Nat, k ≤ l.length ∧ i = .int .i64 k ∧ wr = z0 ∧ Hid (∀ j (hj : j < l.length), j < k → l[j].id ≠ id)) (fun i _ => l.length - (intOf i).toNat)
  case atStart => exact ⟨0, by omega, rfl, rfl, Lib.hid (fun _ _ h => by omega)⟩
  case round =>
    obtain ⟨k, hk, rfl, rfl, hno⟩ := hrel
    by_cases hlt : k < l.length
    · obtain ⟨b, o, A1, n1, c1, -, rfl, p0, p1, -⟩ := RwR.at_ (h.below RwR.stays hb0) hlt
      have i0 : (0 : Int) ≤ k := by omega
      have i1 : (k : Int) < l.length := by omega
      by_cases he : l[k].id = id
      · have z : (l[k].id == id) = true := by simpa using he
        have HH := Lib.hid (AtR_hit hlt hno.out he)
        go_wp2_with fail
        go_ret
        exact ⟨_, rfl, .inr ⟨k, rfl, hlt, HH.out⟩, hb0⟩
      · have z : (l[k].id == id) = false := by simpa using he
        have HN := Lib.hid (show ∀ j (hj : j < l.length), j < k + 1 → l[j].id ≠ id from fun j hj hjk => by
          rcases Nat.lt_or_ge j k with h | h
          · exact hno.out j hj h
          · obtain rfl : j = k := by omega
            exact he)
        go_wp2_with fail
        go_roundw
        case rel => exact ⟨k + 1, by omega, by go_num, trivial, HN⟩
        case measure => simp [intOf]; omega
    · obtain rfl : k = l.length := by omega
      have HH := Lib.hid (valsAt_none (l := l) (id := id) fun r hr => by obtain ⟨j, hj, rfl⟩ := List.mem_iff_getElem.1 hr; exact hno.out j hj hj)
      go_wp2_with fail
      go_ret
      exact ⟨_, rfl, .inl ⟨rfl, HH.out⟩, hb0⟩
def digB (k : Nat) : ByteArray := ⟨#[UInt8.ofNat (48 + k % 10)]⟩
def mtFin : Nat → Nat → ByteArray → ByteArray
  | 0, _, out => ⟨#[109]⟩ ++ out
  | f + 1, k, out => if k = 0 then ⟨#[109]⟩ ++ out else mtFin f (k / 10) (digB k ++ out)
def mtx (k : Nat) : ByteArray := if k = 0 then ⟨#[109, 48]⟩ else mtFin k k ⟨#[]⟩
theorem mtFin_zero (f : Nat) (out : ByteArray) : mtFin f 0 out = ⟨#[109]⟩ ++ out := by cases f <;> simp [mtFin]
theorem mtFin_step (f k : Nat) (out : ByteArray) (h : 0 < k) : mtFin (f + 1) k out = mtFin f (k / 10) (digB k ++ out) := by
  rw [mtFin, if_neg (by omega)]
theorem digB_run (j : Nat) (w : World) :
    (convert 156 9 (.slice (some ⟨w.heap.size, 0, none⟩) 1 1)).run Tryz.prog (w.alloc (.cells #[.int .u8 (48 + (j : Int) % 10)] 5)) = .ok (.string (digB j)) (w.alloc (.cells #[.int .u8 (48 + (j : Int) % 10)] 5)) := by
  refine run_convert_bytes_back _ _ _ 5 ⟨w.heap.size, 0, none⟩ 1 [UInt8.ofNat (48 + j % 10)] Tryz.underlying156 Tryz.underlying5 Tryz.underlying9 fun i hi => ?_
  have e : i = 0 := by simpa using hi
  subst e
  have e2 : (UInt8.ofNat (48 + j % 10)).toNat = 48 + j % 10 := by rw [UInt8.toNat_ofNat']; omega
  simp [Addr.add, World.cell?_alloc_mark]
  omega
def MtRel (k : Nat) (w : World) (m o : Value) (wr : World) : Prop := ∃ (f j : Nat) (out : ByteArray), m = .int .i64 j ∧ o = .string out ∧ j ≤ f ∧ out.size + f ≤ k ∧ Hid (mtFin k k ⟨#[]⟩ = mtFin f j out) ∧ Below w.heap.size w wr
theorem digB_size (j : Nat) : (digB j).size = 1 := rfl
set_option maxRecDepth 100000 in
set_option maxHeartbeats 1000000 in
theorem lawsMarkText (k : Nat) (w : World) (hk : k ≤ 1073741824) {x : Int} (hx : x = k) :
    Calls Tryz.prog 48 #[.int .i64 x] w fun e w' => e = .returned (.string (mtx k)) ∧ Below w.heap.size w w' := by
  subst hx
  by_cases h0 : k = 0
  · subst h0
    go_enter Tryz.func48, Tryz.ntmps48
    go_wp2_with fail
    go_ret
    exact ⟨rfl, Below.refl _ _⟩
  have hpos : ¬ ((k : Int) ≤ 0) := by omega
  go_enter Tryz.func48, Tryz.ntmps48
  go_wp2_with fail
  go_loopw [0, 3] (MtRel k w) (fun m _ _ => (intOf m).toNat)
  case atStart => exact ⟨k, k, ⟨#[]⟩, rfl, rfl, Nat.le_refl _, by simp [ByteArray.size], Lib.hid rfl, Below.refl _ _⟩
  case round =>
    obtain ⟨f, j, out, rfl, rfl, hj, ho, hm, hb⟩ := hrel
    by_cases hlt : 0 < j
    · obtain ⟨f, rfl⟩ : ∃ g, f = g + 1 := ⟨f - 1, by omega⟩
      have hm2 := hm.out
      rw [mtFin_step _ _ _ hlt] at hm2
      have HM := Lib.hid hm2
      clear hm hm2
      have d0 : (0 : Int) < j := by omega
      have hcv := digB_run j wr
      have hc1 : (digB j).size + out.size ≤ 9223372036854775807 := by rw [digB_size]; omega
      have hc2 : ¬ 9223372036854775807 < (digB j).size + out.size := by omega
      have hba := hb.alloc hb.size (.cells #[.int .u8 (48 + (j : Int) % 10)] 5)
      go_wp2_with fail
      go_roundw
      case rel => exact ⟨f, j / 10, digB j ++ out, by go_num, rfl, by omega, by rw [ByteArray.size_append, digB_size]; omega, HM, hba⟩
      case measure => simp [intOf]; omega
    · have e : j = 0 := by omega
      have hm2 := hm.out
      rw [e, mtFin_zero] at hm2
      have HM := Lib.hid (show mtx k = ⟨#[109]⟩ ++ out by rw [mtx, if_neg h0]; exact hm2)
      have d0 : ¬ ((0 : Int) < j) := by omega
      have hc1 : (⟨#[109]⟩ : ByteArray).size + out.size ≤ 9223372036854775807 := by show 1 + out.size ≤ _; omega
      have hc2 : 1 + out.size ≤ 9223372036854775807 := by omega
      clear hm hm2 e
      go_wp2_with fail
      go_ret
      exact ⟨by rw [HM.out]; rfl, hb⟩
theorem Int.toSh : ∀ (ok : Nat → Prop) (w : World) (cs : List Value) (x : Int), True → IntR ok w cs x → ShF 1 ok w cs ((fun _ : Int => 1) x) := fun _ _ cs x _ h => by
  have e : cs = _ := h
  subst e
  refine ⟨rfl, fun j v hv => ?_, rfl⟩
  have hj : j < 1 := (List.getElem?_eq_some_iff.1 hv).1
  have : j = 0 := by omega
  rcases this with rfl <;> (obtain rfl := Option.some.inj hv; rfl)
theorem Tk.toSh : ∀ (ok : Nat → Prop) (w : World) (cs : List Value) (x : Tk), True → TkR ok w cs x → ShF 5 ok w cs ((fun _ : Tk => 5) x) := fun _ _ cs x _ h => by
  have e : cs = _ := h
  subst e
  refine ⟨rfl, fun j v hv => ?_, rfl⟩
  have hj : j < 5 := (List.getElem?_eq_some_iff.1 hv).1
  have : j = 0 ∨ j = 1 ∨ j = 2 ∨ j = 3 ∨ j = 4 := by omega
  rcases this with rfl | rfl | rfl | rfl | rfl <;> (obtain rfl := Option.some.inj hv; rfl)
theorem Vl.toSh : ∀ (ok : Nat → Prop) (w : World) (cs : List Value) (x : Vl), True → VlR ok w cs x → ShF 3 ok w cs ((fun _ : Vl => 3) x) := fun _ _ cs x _ h => by
  have e : cs = _ := h
  subst e
  refine ⟨rfl, fun j v hv => ?_, rfl⟩
  have hj : j < 3 := (List.getElem?_eq_some_iff.1 hv).1
  have : j = 0 ∨ j = 1 ∨ j = 2 := by omega
  rcases this with rfl | rfl | rfl <;> (obtain rfl := Option.some.inj hv; rfl)
theorem Cl.toSh : ∀ (ok : Nat → Prop) (w : World) (cs : List Value) (x : Cl), True → ClR ok w cs x → ShF 6 ok w cs ((fun _ : Cl => 6) x) := fun _ _ cs x _ h => by
  have e : cs = _ := h
  subst e
  refine ⟨rfl, fun j v hv => ?_, rfl⟩
  have hj : j < 6 := (List.getElem?_eq_some_iff.1 hv).1
  have : j = 0 ∨ j = 1 ∨ j = 2 ∨ j = 3 ∨ j = 4 ∨ j = 5 := by omega
  rcases this with rfl | rfl | rfl | rfl | rfl | rfl <;> (obtain rfl := Option.some.inj hv; rfl)
def UqSh : Rd Nat := fun ok w cs d => ∃ (A0 : Option Addr) (n0 c0 : Nat) (m0 : List Nat), cs = [.slice A0 n0 c0] ∧ (True) ∧ Sl (ShF 1) 1 ok w A0 n0 m0 ∧ (n0 ≤ 1048576) ∧ d = m0.sum
theorem UqSh.keeps : KStays UqSh := by
  intro ok B E w w' cs cs' d hR hk hl hc
  obtain ⟨A0, n0, c0, m0, rfl, -, h0, hcp, hd⟩ := hR
  match cs', hl with
  | [x0], _ =>
    obtain ⟨y0, e0, s0, t0⟩ := hc 0 _ rfl
    obtain rfl : x0 = y0 := Option.some.inj e0
    obtain rfl := s0 rfl
    exact ⟨A0, n0, c0, m0, rfl, trivial, h0.shape (ShF.keeps 1) hk, hcp, hd⟩
def Uq.cnt (x : Uq) : Nat := (x.cols.map (fun _ : Int => 1)).sum
theorem Uq.toSh : ∀ (ok : Nat → Prop) (w : World) (cs : List Value) (x : Uq), x.sz ≤ 1048576 → UqR ok w cs x → UqSh ok w cs x.cnt := fun _ _ _ x hs ⟨A0, n0, c0, e, h0, _⟩ =>
  ⟨A0, n0, c0, _, e, trivial, h0.toSh Int.toSh (fun _ _ => trivial), (by have h1 := h0.1; unfold Uq.sz at hs; (try simp only [szL] at hs); omega), rfl⟩
theorem Uq.cnt_le (x : Uq) : x.cnt ≤ 6 * (x.sz + 1) := by
  unfold Uq.cnt Uq.sz
  have z0 : (x.cols.map (fun _ : Int => 1)).sum = x.cols.length := sum_ones _
  omega
def CkSh : Rd Nat := fun ok w cs d => ∃ (A0 : Option Addr) (n0 c0 : Nat) (m0 : List Nat), cs = [.slice A0 n0 c0] ∧ (True) ∧ Sl (ShF 5) 5 ok w A0 n0 m0 ∧ (n0 ≤ 1048576) ∧ d = m0.sum
theorem CkSh.keeps : KStays CkSh := by
  intro ok B E w w' cs cs' d hR hk hl hc
  obtain ⟨A0, n0, c0, m0, rfl, -, h0, hcp, hd⟩ := hR
  match cs', hl with
  | [x0], _ =>
    obtain ⟨y0, e0, s0, t0⟩ := hc 0 _ rfl
    obtain rfl : x0 = y0 := Option.some.inj e0
    obtain rfl := s0 rfl
    exact ⟨A0, n0, c0, m0, rfl, trivial, h0.shape (ShF.keeps 5) hk, hcp, hd⟩
def Ck.cnt (x : Ck) : Nat := (x.expr.map (fun _ : Tk => 5)).sum
theorem Ck.toSh : ∀ (ok : Nat → Prop) (w : World) (cs : List Value) (x : Ck), x.sz ≤ 1048576 → CkR ok w cs x → CkSh ok w cs x.cnt := fun _ _ _ x hs ⟨A0, n0, c0, e, h0, _⟩ =>
  ⟨A0, n0, c0, _, e, trivial, h0.toSh Tk.toSh (fun _ _ => trivial), (by have h1 := h0.1; unfold Ck.sz at hs; (try simp only [szL] at hs); omega), rfl⟩
theorem Ck.cnt_le (x : Ck) : x.cnt ≤ 6 * (x.sz + 1) := by
  unfold Ck.cnt Ck.sz
  have z0 := sum_le_of (f := (fun _ : Tk => 5)) (g := fun t : Tk => t.vs.size) 6 (fun _ => by omega) x.expr
  omega
def FkSh : Rd Nat := fun ok w cs d => ∃ (A0 : Option Addr) (n0 c0 : Nat) (m0 : List Nat) (u1 u2 u3 u4 : Value), cs = [.slice A0 n0 c0, u1, u2, u3, u4] ∧ (isSl u1 = false ∧ isSl u2 = false ∧ isSl u3 = false ∧ isSl u4 = false) ∧ Sl (ShF 1) 1 ok w A0 n0 m0 ∧ (n0 ≤ 1048576) ∧ d = 4 + m0.sum
theorem FkSh.keeps : KStays FkSh := by
  intro ok B E w w' cs cs' d hR hk hl hc
  obtain ⟨A0, n0, c0, m0, u1, u2, u3, u4, rfl, ⟨g1, g2, g3, g4⟩, h0, hcp, hd⟩ := hR
  match cs', hl with
  | [x0, x1, x2, x3, x4], _ =>
    obtain ⟨y0, e0, s0, t0⟩ := hc 0 _ rfl
    obtain rfl : x0 = y0 := Option.some.inj e0
    obtain ⟨y1, e1, s1, t1⟩ := hc 1 _ rfl
    obtain rfl : x1 = y1 := Option.some.inj e1
    obtain ⟨y2, e2, s2, t2⟩ := hc 2 _ rfl
    obtain rfl : x2 = y2 := Option.some.inj e2
    obtain ⟨y3, e3, s3, t3⟩ := hc 3 _ rfl
    obtain rfl : x3 = y3 := Option.some.inj e3
    obtain ⟨y4, e4, s4, t4⟩ := hc 4 _ rfl
    obtain rfl : x4 = y4 := Option.some.inj e4
    obtain rfl := s0 rfl
    exact ⟨A0, n0, c0, m0, x1, x2, x3, x4, rfl, ⟨t1.trans g1, t2.trans g2, t3.trans g3, t4.trans g4⟩, h0.shape (ShF.keeps 1) hk, hcp, hd⟩
def Fk.cnt (x : Fk) : Nat := 4 + (x.cols.map (fun _ : Int => 1)).sum
theorem Fk.toSh : ∀ (ok : Nat → Prop) (w : World) (cs : List Value) (x : Fk), x.sz ≤ 1048576 → FkR ok w cs x → FkSh ok w cs x.cnt := fun _ _ _ x hs ⟨A0, n0, c0, e, h0, _⟩ =>
  ⟨A0, n0, c0, _, _, _, _, _, e, ⟨rfl, rfl, rfl, rfl⟩, h0.toSh Int.toSh (fun _ _ => trivial), (by have h1 := h0.1; unfold Fk.sz at hs; (try simp only [szL] at hs); omega), rfl⟩
theorem Fk.cnt_le (x : Fk) : x.cnt ≤ 6 * (x.sz + 1) := by
  unfold Fk.cnt Fk.sz
  have z0 : (x.cols.map (fun _ : Int => 1)).sum = x.cols.length := sum_ones _
  omega
def TbSh : Rd Nat := fun ok w cs d => ∃ (A1 : Option Addr) (n1 c1 : Nat) (m1 : List Nat) (A2 : Option Addr) (n2 c2 : Nat) (m2 : List Nat) (A3 : Option Addr) (n3 c3 : Nat) (m3 : List Nat) (A4 : Option Addr) (n4 c4 : Nat) (m4 : List Nat) (A5 : Option Addr) (n5 c5 : Nat) (m5 : List Nat) (u0 : Value), cs = [u0, .slice A1 n1 c1, .slice A2 n2 c2, .slice A3 n3 c3, .slice A4 n4 c4, .slice A5 n5 c5] ∧ (isSl u0 = false) ∧ Sl (ShF 6) 6 ok w A1 n1 m1 ∧ Sl (ShF 1) 1 ok w A2 n2 m2 ∧ Sl UqSh 1 ok w A3 n3 m3 ∧ Sl CkSh 1 ok w A4 n4 m4 ∧ Sl FkSh 5 ok w A5 n5 m5 ∧ (n1 ≤ 1048576 ∧ n2 ≤ 1048576 ∧ n3 ≤ 1048576 ∧ n4 ≤ 1048576 ∧ n5 ≤ 1048576) ∧ d = 1 + m1.sum + m2.sum + m3.sum + m4.sum + m5.sum
theorem TbSh.keeps : KStays TbSh := by
  intro ok B E w w' cs cs' d hR hk hl hc
  obtain ⟨A1, n1, c1, m1, A2, n2, c2, m2, A3, n3, c3, m3, A4, n4, c4, m4, A5, n5, c5, m5, u0, rfl, g0, h1, h2, h3, h4, h5, hcp, hd⟩ := hR
  match cs', hl with
  | [x0, x1, x2, x3, x4, x5], _ =>
    obtain ⟨y0, e0, s0, t0⟩ := hc 0 _ rfl
    obtain rfl : x0 = y0 := Option.some.inj e0
    obtain ⟨y1, e1, s1, t1⟩ := hc 1 _ rfl
    obtain rfl : x1 = y1 := Option.some.inj e1
    obtain ⟨y2, e2, s2, t2⟩ := hc 2 _ rfl
    obtain rfl : x2 = y2 := Option.some.inj e2
    obtain ⟨y3, e3, s3, t3⟩ := hc 3 _ rfl
    obtain rfl : x3 = y3 := Option.some.inj e3
    obtain ⟨y4, e4, s4, t4⟩ := hc 4 _ rfl
    obtain rfl : x4 = y4 := Option.some.inj e4
    obtain ⟨y5, e5, s5, t5⟩ := hc 5 _ rfl
    obtain rfl : x5 = y5 := Option.some.inj e5
    obtain rfl := s1 rfl
    obtain rfl := s2 rfl
    obtain rfl := s3 rfl
    obtain rfl := s4 rfl
    obtain rfl := s5 rfl
    exact ⟨A1, n1, c1, m1, A2, n2, c2, m2, A3, n3, c3, m3, A4, n4, c4, m4, A5, n5, c5, m5, x0, rfl, t0.trans g0, h1.shape (ShF.keeps 6) hk, h2.shape (ShF.keeps 1) hk, h3.shape UqSh.keeps hk, h4.shape CkSh.keeps hk, h5.shape FkSh.keeps hk, hcp, hd⟩
def Tb.cnt (x : Tb) : Nat := 1 + (x.cols.map (fun _ : Cl => 6)).sum + (x.key.map (fun _ : Int => 1)).sum + (x.uniqs.map Uq.cnt).sum + (x.checks.map Ck.cnt).sum + (x.fks.map Fk.cnt).sum
theorem Tb.toSh : ∀ (ok : Nat → Prop) (w : World) (cs : List Value) (x : Tb), x.sz ≤ 1048576 → TbR ok w cs x → TbSh ok w cs x.cnt := fun _ _ _ x hs ⟨A1, n1, c1, A2, n2, c2, A3, n3, c3, A4, n4, c4, A5, n5, c5, e, h1, h2, h3, h4, h5, _⟩ =>
  ⟨A1, n1, c1, _, A2, n2, c2, _, A3, n3, c3, _, A4, n4, c4, _, A5, n5, c5, _, _, e, rfl, h1.toSh Cl.toSh (fun _ _ => trivial), h2.toSh Int.toSh (fun _ _ => trivial), h3.toSh Uq.toSh (fun y hy => by have h1 := szL_mem Uq.sz x.uniqs y hy; unfold Tb.sz at hs; omega), h4.toSh Ck.toSh (fun y hy => by have h1 := szL_mem Ck.sz x.checks y hy; unfold Tb.sz at hs; omega), h5.toSh Fk.toSh (fun y hy => by have h1 := szL_mem Fk.sz x.fks y hy; unfold Tb.sz at hs; omega), ⟨(by have h1 := h1.1; unfold Tb.sz at hs; (try simp only [szL] at hs); omega), (by have h1 := h2.1; unfold Tb.sz at hs; (try simp only [szL] at hs); omega), (by have h1 := h3.1; unfold Tb.sz at hs; (try simp only [szL] at hs); omega), (by have h1 := h4.1; unfold Tb.sz at hs; (try simp only [szL] at hs); omega), (by have h1 := h5.1; unfold Tb.sz at hs; (try simp only [szL] at hs); omega)⟩, rfl⟩
theorem Tb.cnt_le (x : Tb) : x.cnt ≤ 6 * (x.sz + 1) := by
  unfold Tb.cnt Tb.sz
  have z1 := sum_le_of (f := (fun _ : Cl => 6)) (g := Cl.sz) 6 (fun _ => by omega) x.cols
  have z2 : (x.key.map (fun _ : Int => 1)).sum = x.key.length := sum_ones _
  have z3 := sum_le_of (f := Uq.cnt) (g := Uq.sz) 6 Uq.cnt_le x.uniqs
  have z4 := sum_le_of (f := Ck.cnt) (g := Ck.sz) 6 Ck.cnt_le x.checks
  have z5 := sum_le_of (f := Fk.cnt) (g := Fk.sz) 6 Fk.cnt_le x.fks
  omega
def RwSh : Rd Nat := fun ok w cs d => ∃ (A1 : Option Addr) (n1 c1 : Nat) (m1 : List Nat) (u0 : Value), cs = [u0, .slice A1 n1 c1] ∧ (isSl u0 = false) ∧ Sl (ShF 3) 3 ok w A1 n1 m1 ∧ (n1 ≤ 1048576) ∧ d = 1 + m1.sum
theorem RwSh.keeps : KStays RwSh := by
  intro ok B E w w' cs cs' d hR hk hl hc
  obtain ⟨A1, n1, c1, m1, u0, rfl, g0, h1, hcp, hd⟩ := hR
  match cs', hl with
  | [x0, x1], _ =>
    obtain ⟨y0, e0, s0, t0⟩ := hc 0 _ rfl
    obtain rfl : x0 = y0 := Option.some.inj e0
    obtain ⟨y1, e1, s1, t1⟩ := hc 1 _ rfl
    obtain rfl : x1 = y1 := Option.some.inj e1
    obtain rfl := s1 rfl
    exact ⟨A1, n1, c1, m1, x0, rfl, t0.trans g0, h1.shape (ShF.keeps 3) hk, hcp, hd⟩
def Rw.cnt (x : Rw) : Nat := 1 + (x.vals.map (fun _ : Vl => 3)).sum
theorem Rw.toSh : ∀ (ok : Nat → Prop) (w : World) (cs : List Value) (x : Rw), x.sz ≤ 1048576 → RwR ok w cs x → RwSh ok w cs x.cnt := fun _ _ _ x hs ⟨A1, n1, c1, e, h1, _⟩ =>
  ⟨A1, n1, c1, _, _, e, rfl, h1.toSh Vl.toSh (fun _ _ => trivial), (by have h1 := h1.1; unfold Rw.sz at hs; (try simp only [szL] at hs); omega), rfl⟩
theorem Rw.cnt_le (x : Rw) : x.cnt ≤ 6 * (x.sz + 1) := by
  unfold Rw.cnt Rw.sz
  have z1 := sum_le_of (f := (fun _ : Vl => 3)) (g := fun v : Vl => v.s.size) 6 (fun _ => by omega) x.vals
  omega
def DtSh : Rd Nat := fun ok w cs d => ∃ (A0 : Option Addr) (n0 c0 : Nat) (m0 : List Nat), cs = [.slice A0 n0 c0] ∧ (True) ∧ Sl RwSh 2 ok w A0 n0 m0 ∧ (n0 ≤ 1048576) ∧ d = m0.sum
theorem DtSh.keeps : KStays DtSh := by
  intro ok B E w w' cs cs' d hR hk hl hc
  obtain ⟨A0, n0, c0, m0, rfl, -, h0, hcp, hd⟩ := hR
  match cs', hl with
  | [x0], _ =>
    obtain ⟨y0, e0, s0, t0⟩ := hc 0 _ rfl
    obtain rfl : x0 = y0 := Option.some.inj e0
    obtain rfl := s0 rfl
    exact ⟨A0, n0, c0, m0, rfl, trivial, h0.shape RwSh.keeps hk, hcp, hd⟩
def Dt.cnt (x : Dt) : Nat := (x.rows.map Rw.cnt).sum
theorem Dt.toSh : ∀ (ok : Nat → Prop) (w : World) (cs : List Value) (x : Dt), x.sz ≤ 1048576 → DtR ok w cs x → DtSh ok w cs x.cnt := fun _ _ _ x hs ⟨A0, n0, c0, e, h0, _⟩ =>
  ⟨A0, n0, c0, _, e, trivial, h0.toSh Rw.toSh (fun y hy => by have h1 := szL_mem Rw.sz x.rows y hy; unfold Dt.sz at hs; omega), (by have h1 := h0.1; unfold Dt.sz at hs; (try simp only [szL] at hs); omega), rfl⟩
theorem Dt.cnt_le (x : Dt) : x.cnt ≤ 6 * (x.sz + 1) := by
  unfold Dt.cnt Dt.sz
  have z0 := sum_le_of (f := Rw.cnt) (g := Rw.sz) 6 Rw.cnt_le x.rows
  omega
set_option maxRecDepth 100000 in
set_option maxHeartbeats 1000000 in
theorem marksIntL (A : Option Addr) (n c : Nat) (ms : List Nat) (ok : Nat → Prop) (B E k : Nat) (w : World) (h : Sl (ShF 1) 1 ok w A n ms) (hm : mayMark B E w ok) (hk : k + ms.sum ≤ 1073741824) (hn : n ≤ 1048576) {x : Int} (hx : x = k) :
    Calls Tryz.prog 20 #[.slice A n c, .int .i64 x] w fun e w' => e = .returned (.int .i64 ((k + ms.sum : Nat) : Int)) ∧ Kept B E w w' := by
  obtain rfl : ms.length = n := h.1
  subst hx
  go_enter Tryz.func20, Tryz.ntmps20
  go_wp2_with fail
  go_loopw [1, 5] (fun m i wr => ∃ (j t : Nat), j ≤ ms.length ∧ i = .int .i64 j ∧ m = .int .i64 ((k + t : Nat) : Int) ∧ Hid ((ms.take j).sum = t) ∧ Kept B E w wr) (fun _ i _ => ms.length - (intOf i).toNat)
  case atStart => exact ⟨0, 0, by omega, rfl, by simp, Lib.hid (by simp), Kept.refl _ _ _⟩
  case round =>
    obtain ⟨i, t, hi, rfl, rfl, ht, hK⟩ := hrel
    by_cases hlt : i < ms.length
    · have hsh := h.shape (ShF.keeps 1) hK
      have hmm := hm.kept hK
      obtain ⟨b, off, rfl, hob, hcs⟩ := hsh.2 (by omega)
      obtain ⟨cs, hcl, hR, hg⟩ := hcs i hlt
      have hst := sum_take_n ms i hlt
      have hsl := sum_take_n_le ms (i + 1)
      rw [ht.out] at hst
      obtain ⟨hB, hE, -, hfr⟩ := hmm b hob
      obtain ⟨u0, rfl⟩ : ∃ u0, cs = [u0] := by
        have h0 := hR.1
        match cs, h0 with
        | [x0], _ => exact ⟨x0, rfl⟩
      have g0 : isSl u0 = false := hR.2.1 0 _ rfl
      have hd : ms[i] = 1 := hR.2.2
      have q0 : wr.cell? ⟨b, off + i, none⟩ = some (u0) := by have := hg 0 _ rfl; rwa [Nat.mul_one] at this
      have hle : k + t + (1) ≤ 1073741824 := by omega
      have HD := Lib.hid hd
      have HST := Lib.hid hst
      clear hd hst hsl
      have f0 := hfr (off + i)
      have Q0 := Lib.hid q0
      have G0 := Lib.hid g0
      have HB := Lib.hid hB
      have HE := Lib.hid hE
      have HR := Lib.hid hfr
      have HO := Lib.hid hob
      clear hsh hcs hg hR hB hE hfr g0
      have HMM := Lib.hid hmm
      clear hmm
      go_wp2_with fail
      go_roundw
      case rel => exact ⟨i + 1, t + ms[i], by omega, by go_num, by rw [HD.out]; go_num, Lib.hid HST.out, hK.trans (by refine Kept.set ?_ Q0.out G0.out HB.out HE.out rfl; exact Kept.refl B E wr)⟩
      case measure => simp [intOf]; omega
    · obtain rfl : i = ms.length := by omega
      have e := ht.out
      rw [List.take_of_length_le (Nat.le_refl _)] at e
      have HT := Lib.hid e
      clear e ht
      go_wp2_with fail
      go_ret
      exact ⟨retI (by rw [HT.out]), hK⟩
set_option maxRecDepth 100000 in
set_option maxHeartbeats 1000000 in
theorem marksTokL (A : Option Addr) (n c : Nat) (ms : List Nat) (ok : Nat → Prop) (B E k : Nat) (w : World) (h : Sl (ShF 5) 5 ok w A n ms) (hm : mayMark B E w ok) (hk : k + ms.sum ≤ 1073741824) (hn : n ≤ 1048576) {x : Int} (hx : x = k) :
    Calls Tryz.prog 53 #[.slice A n c, .int .i64 x] w fun e w' => e = .returned (.int .i64 ((k + ms.sum : Nat) : Int)) ∧ Kept B E w w' := by
  obtain rfl : ms.length = n := h.1
  subst hx
  go_enter Tryz.func53, Tryz.ntmps53
  go_wp2_with fail
  go_loopw [1, 5] (fun m i wr => ∃ (j t : Nat), j ≤ ms.length ∧ i = .int .i64 j ∧ m = .int .i64 ((k + t : Nat) : Int) ∧ Hid ((ms.take j).sum = t) ∧ Kept B E w wr) (fun _ i _ => ms.length - (intOf i).toNat)
  case atStart => exact ⟨0, 0, by omega, rfl, by simp, Lib.hid (by simp), Kept.refl _ _ _⟩
  case round =>
    obtain ⟨i, t, hi, rfl, rfl, ht, hK⟩ := hrel
    by_cases hlt : i < ms.length
    · have hsh := h.shape (ShF.keeps 5) hK
      have hmm := hm.kept hK
      obtain ⟨b, off, rfl, hob, hcs⟩ := hsh.2 (by omega)
      obtain ⟨cs, hcl, hR, hg⟩ := hcs i hlt
      have hst := sum_take_n ms i hlt
      have hsl := sum_take_n_le ms (i + 1)
      rw [ht.out] at hst
      obtain ⟨hB, hE, -, hfr⟩ := hmm b hob
      obtain ⟨u0, u1, u2, u3, u4, rfl⟩ : ∃ u0 u1 u2 u3 u4, cs = [u0, u1, u2, u3, u4] := by
        have h0 := hR.1
        match cs, h0 with
        | [x0, x1, x2, x3, x4], _ => exact ⟨x0, x1, x2, x3, x4, rfl⟩
      have g0 : isSl u0 = false := hR.2.1 0 _ rfl
      have g1 : isSl u1 = false := hR.2.1 1 _ rfl
      have g2 : isSl u2 = false := hR.2.1 2 _ rfl
      have g3 : isSl u3 = false := hR.2.1 3 _ rfl
      have g4 : isSl u4 = false := hR.2.1 4 _ rfl
      have hd : ms[i] = 5 := hR.2.2
      have q0 : wr.cell? ⟨b, off + i * 5, none⟩ = some (u0) := hg 0 _ rfl
      have q1 : wr.cell? ⟨b, off + i * 5 + 1, none⟩ = some (u1) := hg 1 _ rfl
      have q2 : wr.cell? ⟨b, off + i * 5 + 2, none⟩ = some (u2) := hg 2 _ rfl
      have q3 : wr.cell? ⟨b, off + i * 5 + 3, none⟩ = some (u3) := hg 3 _ rfl
      have q4 : wr.cell? ⟨b, off + i * 5 + 4, none⟩ = some (u4) := hg 4 _ rfl
      have hle : k + t + (5) ≤ 1073741824 := by omega
      have HD := Lib.hid hd
      have HST := Lib.hid hst
      clear hd hst hsl
      have f0 := hfr (off + i * 5)
      have f1 := hfr (off + i * 5 + 1)
      have f2 := hfr (off + i * 5 + 2)
      have f3 := hfr (off + i * 5 + 3)
      have f4 := hfr (off + i * 5 + 4)
      have Q0 := Lib.hid q0
      have Q1 := Lib.hid q1
      have Q2 := Lib.hid q2
      have Q3 := Lib.hid q3
      have Q4 := Lib.hid q4
      have G0 := Lib.hid g0
      have G1 := Lib.hid g1
      have G2 := Lib.hid g2
      have G3 := Lib.hid g3
      have G4 := Lib.hid g4
      have HB := Lib.hid hB
      have HE := Lib.hid hE
      have HR := Lib.hid hfr
      have HO := Lib.hid hob
      clear hsh hcs hg hR hB hE hfr g0 g1 g2 g3 g4
      have HMM := Lib.hid hmm
      clear hmm
      go_wp2_with fail
      refine (lawsMarkText (k + t + 4) _ (by omega) (by omega)).mono ?_
      rintro e w1 ⟨rfl, hb1⟩
      have hk1 : Kept B E wr w1 := by refine (Kept.below hb1).after ?_; refine Kept.set ?_ Q3.out G3.out HB.out HE.out rfl; refine Kept.set ?_ Q2.out G2.out HB.out HE.out rfl; refine Kept.set ?_ Q1.out G1.out HB.out HE.out rfl; refine Kept.set ?_ Q0.out G0.out HB.out HE.out rfl; exact Kept.refl B E wr
      obtain ⟨v1_0, z1_0, -, -⟩ := hk1.cell _ _ Q0.out
      have k1_0 := (HMM.out.kept hk1 b HO.out).2.2.2 (off + i * 5)
      obtain ⟨v1_1, z1_1, -, -⟩ := hk1.cell _ _ Q1.out
      have k1_1 := (HMM.out.kept hk1 b HO.out).2.2.2 (off + i * 5 + 1)
      obtain ⟨v1_2, z1_2, -, -⟩ := hk1.cell _ _ Q2.out
      have k1_2 := (HMM.out.kept hk1 b HO.out).2.2.2 (off + i * 5 + 2)
      obtain ⟨v1_3, z1_3, -, -⟩ := hk1.cell _ _ Q3.out
      have k1_3 := (HMM.out.kept hk1 b HO.out).2.2.2 (off + i * 5 + 3)
      obtain ⟨v1_4, z1_4, -, -⟩ := hk1.cell _ _ Q4.out
      have k1_4 := (HMM.out.kept hk1 b HO.out).2.2.2 (off + i * 5 + 4)
      clear q0 q1 q2 q3 q4 f0 f1 f2 f3 f4
      go_wp2_with fail
      go_roundw
      case rel => exact ⟨i + 1, t + ms[i], by omega, by go_num, by rw [HD.out]; go_num, Lib.hid HST.out, hK.trans (by refine Kept.set ?_ Q4.out G4.out HB.out HE.out rfl; exact hk1)⟩
      case measure => simp [intOf]; omega
    · obtain rfl : i = ms.length := by omega
      have e := ht.out
      rw [List.take_of_length_le (Nat.le_refl _)] at e
      have HT := Lib.hid e
      clear e ht
      go_wp2_with fail
      go_ret
      exact ⟨retI (by rw [HT.out]), hK⟩
set_option maxRecDepth 100000 in
set_option maxHeartbeats 1000000 in
theorem marksValL (A : Option Addr) (n c : Nat) (ms : List Nat) (ok : Nat → Prop) (B E k : Nat) (w : World) (h : Sl (ShF 3) 3 ok w A n ms) (hm : mayMark B E w ok) (hk : k + ms.sum ≤ 1073741824) (hn : n ≤ 1048576) {x : Int} (hx : x = k) :
    Calls Tryz.prog 19 #[.slice A n c, .int .i64 x] w fun e w' => e = .returned (.int .i64 ((k + ms.sum : Nat) : Int)) ∧ Kept B E w w' := by
  obtain rfl : ms.length = n := h.1
  subst hx
  go_enter Tryz.func19, Tryz.ntmps19
  go_wp2_with fail
  go_loopw [1, 5] (fun m i wr => ∃ (j t : Nat), j ≤ ms.length ∧ i = .int .i64 j ∧ m = .int .i64 ((k + t : Nat) : Int) ∧ Hid ((ms.take j).sum = t) ∧ Kept B E w wr) (fun _ i _ => ms.length - (intOf i).toNat)
  case atStart => exact ⟨0, 0, by omega, rfl, by simp, Lib.hid (by simp), Kept.refl _ _ _⟩
  case round =>
    obtain ⟨i, t, hi, rfl, rfl, ht, hK⟩ := hrel
    by_cases hlt : i < ms.length
    · have hsh := h.shape (ShF.keeps 3) hK
      have hmm := hm.kept hK
      obtain ⟨b, off, rfl, hob, hcs⟩ := hsh.2 (by omega)
      obtain ⟨cs, hcl, hR, hg⟩ := hcs i hlt
      have hst := sum_take_n ms i hlt
      have hsl := sum_take_n_le ms (i + 1)
      rw [ht.out] at hst
      obtain ⟨hB, hE, -, hfr⟩ := hmm b hob
      obtain ⟨u0, u1, u2, rfl⟩ : ∃ u0 u1 u2, cs = [u0, u1, u2] := by
        have h0 := hR.1
        match cs, h0 with
        | [x0, x1, x2], _ => exact ⟨x0, x1, x2, rfl⟩
      have g0 : isSl u0 = false := hR.2.1 0 _ rfl
      have g1 : isSl u1 = false := hR.2.1 1 _ rfl
      have g2 : isSl u2 = false := hR.2.1 2 _ rfl
      have hd : ms[i] = 3 := hR.2.2
      have q0 : wr.cell? ⟨b, off + i * 3, none⟩ = some (u0) := hg 0 _ rfl
      have q1 : wr.cell? ⟨b, off + i * 3 + 1, none⟩ = some (u1) := hg 1 _ rfl
      have q2 : wr.cell? ⟨b, off + i * 3 + 2, none⟩ = some (u2) := hg 2 _ rfl
      have hle : k + t + (3) ≤ 1073741824 := by omega
      have HD := Lib.hid hd
      have HST := Lib.hid hst
      clear hd hst hsl
      have f0 := hfr (off + i * 3)
      have f1 := hfr (off + i * 3 + 1)
      have f2 := hfr (off + i * 3 + 2)
      have Q0 := Lib.hid q0
      have Q1 := Lib.hid q1
      have Q2 := Lib.hid q2
      have G0 := Lib.hid g0
      have G1 := Lib.hid g1
      have G2 := Lib.hid g2
      have HB := Lib.hid hB
      have HE := Lib.hid hE
      have HR := Lib.hid hfr
      have HO := Lib.hid hob
      clear hsh hcs hg hR hB hE hfr g0 g1 g2
      have HMM := Lib.hid hmm
      clear hmm
      go_wp2_with fail
      refine (lawsMarkText (k + t + 2) _ (by omega) (by omega)).mono ?_
      rintro e w1 ⟨rfl, hb1⟩
      have hk1 : Kept B E wr w1 := by refine (Kept.below hb1).after ?_; refine Kept.set ?_ Q1.out G1.out HB.out HE.out rfl; refine Kept.set ?_ Q0.out G0.out HB.out HE.out rfl; exact Kept.refl B E wr
      obtain ⟨v1_0, z1_0, -, -⟩ := hk1.cell _ _ Q0.out
      have k1_0 := (HMM.out.kept hk1 b HO.out).2.2.2 (off + i * 3)
      obtain ⟨v1_1, z1_1, -, -⟩ := hk1.cell _ _ Q1.out
      have k1_1 := (HMM.out.kept hk1 b HO.out).2.2.2 (off + i * 3 + 1)
      obtain ⟨v1_2, z1_2, -, -⟩ := hk1.cell _ _ Q2.out
      have k1_2 := (HMM.out.kept hk1 b HO.out).2.2.2 (off + i * 3 + 2)
      clear q0 q1 q2 f0 f1 f2
      go_wp2_with fail
      go_roundw
      case rel => exact ⟨i + 1, t + ms[i], by omega, by go_num, by rw [HD.out]; go_num, Lib.hid HST.out, hK.trans (by refine Kept.set ?_ Q2.out G2.out HB.out HE.out rfl; exact hk1)⟩
      case measure => simp [intOf]; omega
    · obtain rfl : i = ms.length := by omega
      have e := ht.out
      rw [List.take_of_length_le (Nat.le_refl _)] at e
      have HT := Lib.hid e
      clear e ht
      go_wp2_with fail
      go_ret
      exact ⟨retI (by rw [HT.out]), hK⟩
set_option maxRecDepth 100000 in
set_option maxHeartbeats 1000000 in
theorem marksColL (A : Option Addr) (n c : Nat) (ms : List Nat) (ok : Nat → Prop) (B E k : Nat) (w : World) (h : Sl (ShF 6) 6 ok w A n ms) (hm : mayMark B E w ok) (hk : k + ms.sum ≤ 1073741824) (hn : n ≤ 1048576) {x : Int} (hx : x = k) :
    Calls Tryz.prog 49 #[.slice A n c, .int .i64 x] w fun e w' => e = .returned (.int .i64 ((k + ms.sum : Nat) : Int)) ∧ Kept B E w w' := by
  obtain rfl : ms.length = n := h.1
  subst hx
  go_enter Tryz.func49, Tryz.ntmps49
  go_wp2_with fail
  go_loopw [1, 5] (fun m i wr => ∃ (j t : Nat), j ≤ ms.length ∧ i = .int .i64 j ∧ m = .int .i64 ((k + t : Nat) : Int) ∧ Hid ((ms.take j).sum = t) ∧ Kept B E w wr) (fun _ i _ => ms.length - (intOf i).toNat)
  case atStart => exact ⟨0, 0, by omega, rfl, by simp, Lib.hid (by simp), Kept.refl _ _ _⟩
  case round =>
    obtain ⟨i, t, hi, rfl, rfl, ht, hK⟩ := hrel
    by_cases hlt : i < ms.length
    · have hsh := h.shape (ShF.keeps 6) hK
      have hmm := hm.kept hK
      obtain ⟨b, off, rfl, hob, hcs⟩ := hsh.2 (by omega)
      obtain ⟨cs, hcl, hR, hg⟩ := hcs i hlt
      have hst := sum_take_n ms i hlt
      have hsl := sum_take_n_le ms (i + 1)
      rw [ht.out] at hst
      obtain ⟨hB, hE, -, hfr⟩ := hmm b hob
      obtain ⟨u0, u1, u2, u3, u4, u5, rfl⟩ : ∃ u0 u1 u2 u3 u4 u5, cs = [u0, u1, u2, u3, u4, u5] := by
        have h0 := hR.1
        match cs, h0 with
        | [x0, x1, x2, x3, x4, x5], _ => exact ⟨x0, x1, x2, x3, x4, x5, rfl⟩
      have g0 : isSl u0 = false := hR.2.1 0 _ rfl
      have g1 : isSl u1 = false := hR.2.1 1 _ rfl
      have g2 : isSl u2 = false := hR.2.1 2 _ rfl
      have g3 : isSl u3 = false := hR.2.1 3 _ rfl
      have g4 : isSl u4 = false := hR.2.1 4 _ rfl
      have g5 : isSl u5 = false := hR.2.1 5 _ rfl
      have hd : ms[i] = 6 := hR.2.2
      have q0 : wr.cell? ⟨b, off + i * 6, none⟩ = some (u0) := hg 0 _ rfl
      have q1 : wr.cell? ⟨b, off + i * 6 + 1, none⟩ = some (u1) := hg 1 _ rfl
      have q2 : wr.cell? ⟨b, off + i * 6 + 2, none⟩ = some (u2) := hg 2 _ rfl
      have q3 : wr.cell? ⟨b, off + i * 6 + 3, none⟩ = some (u3) := hg 3 _ rfl
      have q4 : wr.cell? ⟨b, off + i * 6 + 4, none⟩ = some (u4) := hg 4 _ rfl
      have q5 : wr.cell? ⟨b, off + i * 6 + 5, none⟩ = some (u5) := hg 5 _ rfl
      have hle : k + t + (6) ≤ 1073741824 := by omega
      have HD := Lib.hid hd
      have HST := Lib.hid hst
      clear hd hst hsl
      have f0 := hfr (off + i * 6)
      have f1 := hfr (off + i * 6 + 1)
      have f2 := hfr (off + i * 6 + 2)
      have f3 := hfr (off + i * 6 + 3)
      have f4 := hfr (off + i * 6 + 4)
      have f5 := hfr (off + i * 6 + 5)
      have Q0 := Lib.hid q0
      have Q1 := Lib.hid q1
      have Q2 := Lib.hid q2
      have Q3 := Lib.hid q3
      have Q4 := Lib.hid q4
      have Q5 := Lib.hid q5
      have G0 := Lib.hid g0
      have G1 := Lib.hid g1
      have G2 := Lib.hid g2
      have G3 := Lib.hid g3
      have G4 := Lib.hid g4
      have G5 := Lib.hid g5
      have HB := Lib.hid hB
      have HE := Lib.hid hE
      have HR := Lib.hid hfr
      have HO := Lib.hid hob
      clear hsh hcs hg hR hB hE hfr g0 g1 g2 g3 g4 g5
      have HMM := Lib.hid hmm
      clear hmm
      go_wp2_with fail
      refine (lawsMarkText (k + t) _ (by omega) (by omega)).mono ?_
      rintro e w1 ⟨rfl, hb1⟩
      have hk1 : Kept B E wr w1 := by refine (Kept.below hb1).after ?_; exact Kept.refl B E wr
      obtain ⟨v1_0, z1_0, -, -⟩ := hk1.cell _ _ Q0.out
      have k1_0 := (HMM.out.kept hk1 b HO.out).2.2.2 (off + i * 6)
      obtain ⟨v1_1, z1_1, -, -⟩ := hk1.cell _ _ Q1.out
      have k1_1 := (HMM.out.kept hk1 b HO.out).2.2.2 (off + i * 6 + 1)
      obtain ⟨v1_2, z1_2, -, -⟩ := hk1.cell _ _ Q2.out
      have k1_2 := (HMM.out.kept hk1 b HO.out).2.2.2 (off + i * 6 + 2)
      obtain ⟨v1_3, z1_3, -, -⟩ := hk1.cell _ _ Q3.out
      have k1_3 := (HMM.out.kept hk1 b HO.out).2.2.2 (off + i * 6 + 3)
      obtain ⟨v1_4, z1_4, -, -⟩ := hk1.cell _ _ Q4.out
      have k1_4 := (HMM.out.kept hk1 b HO.out).2.2.2 (off + i * 6 + 4)
      obtain ⟨v1_5, z1_5, -, -⟩ := hk1.cell _ _ Q5.out
      have k1_5 := (HMM.out.kept hk1 b HO.out).2.2.2 (off + i * 6 + 5)
      clear q0 q1 q2 q3 q4 q5 f0 f1 f2 f3 f4 f5
      go_wp2_with fail
      refine (lawsMarkText (k + t + 5) _ (by omega) (by omega)).mono ?_
      rintro e w2 ⟨rfl, hb2⟩
      have hk2 : Kept B E wr w2 := by refine (Kept.below hb2).after ?_; refine Kept.set ?_ Q4.out G4.out HB.out HE.out rfl; refine Kept.set ?_ Q3.out G3.out HB.out HE.out rfl; refine Kept.set ?_ Q2.out G2.out HB.out HE.out rfl; refine Kept.set ?_ Q1.out G1.out HB.out HE.out rfl; refine Kept.set ?_ Q0.out G0.out HB.out HE.out rfl; exact hk1
      obtain ⟨v2_0, z2_0, -, -⟩ := hk2.cell _ _ Q0.out
      have k2_0 := (HMM.out.kept hk2 b HO.out).2.2.2 (off + i * 6)
      obtain ⟨v2_1, z2_1, -, -⟩ := hk2.cell _ _ Q1.out
      have k2_1 := (HMM.out.kept hk2 b HO.out).2.2.2 (off + i * 6 + 1)
      obtain ⟨v2_2, z2_2, -, -⟩ := hk2.cell _ _ Q2.out
      have k2_2 := (HMM.out.kept hk2 b HO.out).2.2.2 (off + i * 6 + 2)
      obtain ⟨v2_3, z2_3, -, -⟩ := hk2.cell _ _ Q3.out
      have k2_3 := (HMM.out.kept hk2 b HO.out).2.2.2 (off + i * 6 + 3)
      obtain ⟨v2_4, z2_4, -, -⟩ := hk2.cell _ _ Q4.out
      have k2_4 := (HMM.out.kept hk2 b HO.out).2.2.2 (off + i * 6 + 4)
      obtain ⟨v2_5, z2_5, -, -⟩ := hk2.cell _ _ Q5.out
      have k2_5 := (HMM.out.kept hk2 b HO.out).2.2.2 (off + i * 6 + 5)
      clear z1_0 z1_1 z1_2 z1_3 z1_4 z1_5 k1_0 k1_1 k1_2 k1_3 k1_4 k1_5
      go_wp2_with fail
      go_roundw
      case rel => exact ⟨i + 1, t + ms[i], by omega, by go_num, by rw [HD.out]; go_num, Lib.hid HST.out, hK.trans (by refine Kept.set ?_ Q5.out G5.out HB.out HE.out rfl; exact hk2)⟩
      case measure => simp [intOf]; omega
    · obtain rfl : i = ms.length := by omega
      have e := ht.out
      rw [List.take_of_length_le (Nat.le_refl _)] at e
      have HT := Lib.hid e
      clear e ht
      go_wp2_with fail
      go_ret
      exact ⟨retI (by rw [HT.out]), hK⟩
set_option maxRecDepth 100000 in
set_option maxHeartbeats 1000000 in
theorem marksUniqueL (A : Option Addr) (n c : Nat) (ms : List Nat) (ok : Nat → Prop) (B E k : Nat) (w : World) (h : Sl UqSh 1 ok w A n ms) (hm : mayMark B E w ok) (hk : k + ms.sum ≤ 1073741824) (hn : n ≤ 1048576) {x : Int} (hx : x = k) :
    Calls Tryz.prog 50 #[.slice A n c, .int .i64 x] w fun e w' => e = .returned (.int .i64 ((k + ms.sum : Nat) : Int)) ∧ Kept B E w w' := by
  obtain rfl : ms.length = n := h.1
  subst hx
  go_enter Tryz.func50, Tryz.ntmps50
  go_wp2_with fail
  go_loopw [1, 5] (fun m i wr => ∃ (j t : Nat), j ≤ ms.length ∧ i = .int .i64 j ∧ m = .int .i64 ((k + t : Nat) : Int) ∧ Hid ((ms.take j).sum = t) ∧ Kept B E w wr) (fun _ i _ => ms.length - (intOf i).toNat)
  case atStart => exact ⟨0, 0, by omega, rfl, by simp, Lib.hid (by simp), Kept.refl _ _ _⟩
  case round =>
    obtain ⟨i, t, hi, rfl, rfl, ht, hK⟩ := hrel
    by_cases hlt : i < ms.length
    · have hsh := h.shape UqSh.keeps hK
      have hmm := hm.kept hK
      obtain ⟨b, off, rfl, hob, hcs⟩ := hsh.2 (by omega)
      obtain ⟨cs, hcl, hR, hg⟩ := hcs i hlt
      have hst := sum_take_n ms i hlt
      have hsl := sum_take_n_le ms (i + 1)
      rw [ht.out] at hst
      obtain ⟨hB, hE, -, hfr⟩ := hmm b hob
      obtain ⟨A0, n0, c0, m0, rfl, -, h0, hcp, hd⟩ := hR
      have q0 : wr.cell? ⟨b, off + i, none⟩ = some (.slice A0 n0 c0) := by have := hg 0 _ rfl; rwa [Nat.mul_one] at this
      have hle : k + t + (m0.sum) ≤ 1073741824 := by omega
      have HD := Lib.hid hd
      have HST := Lib.hid hst
      clear hd hst hsl
      have Q0 := Lib.hid q0
      have HB := Lib.hid hB
      have HE := Lib.hid hE
      have HR := Lib.hid hfr
      have HO := Lib.hid hob
      have HN0 := Lib.hid (hcp)
      clear hcp
      clear hsh hcs hg hB hE hfr
      have HMM := Lib.hid hmm
      clear hmm
      go_wp2_with fail
      refine (marksIntL A0 n0 c0 m0 ok B E (k + t) _ (h0.shape (ShF.keeps 1) (by exact Kept.refl B E wr)) (HMM.out.kept (by exact Kept.refl B E wr)) (by omega) HN0.out (by omega)).mono ?_
      rintro e w1 ⟨rfl, hb1⟩
      have hk1 : Kept B E wr w1 := by refine hb1.after ?_; exact Kept.refl B E wr
      have z1_0 := hk1.slice Q0.out rfl
      clear q0
      go_wp2_with fail
      go_roundw
      case rel => exact ⟨i + 1, t + ms[i], by omega, by go_num, by rw [HD.out]; go_num, Lib.hid HST.out, hK.trans (by exact hk1)⟩
      case measure => simp [intOf]; omega
    · obtain rfl : i = ms.length := by omega
      have e := ht.out
      rw [List.take_of_length_le (Nat.le_refl _)] at e
      have HT := Lib.hid e
      clear e ht
      go_wp2_with fail
      go_ret
      exact ⟨retI (by rw [HT.out]), hK⟩
set_option maxRecDepth 100000 in
set_option maxHeartbeats 1000000 in
theorem marksCheckL (A : Option Addr) (n c : Nat) (ms : List Nat) (ok : Nat → Prop) (B E k : Nat) (w : World) (h : Sl CkSh 1 ok w A n ms) (hm : mayMark B E w ok) (hk : k + ms.sum ≤ 1073741824) (hn : n ≤ 1048576) {x : Int} (hx : x = k) :
    Calls Tryz.prog 51 #[.slice A n c, .int .i64 x] w fun e w' => e = .returned (.int .i64 ((k + ms.sum : Nat) : Int)) ∧ Kept B E w w' := by
  obtain rfl : ms.length = n := h.1
  subst hx
  go_enter Tryz.func51, Tryz.ntmps51
  go_wp2_with fail
  go_loopw [1, 5] (fun m i wr => ∃ (j t : Nat), j ≤ ms.length ∧ i = .int .i64 j ∧ m = .int .i64 ((k + t : Nat) : Int) ∧ Hid ((ms.take j).sum = t) ∧ Kept B E w wr) (fun _ i _ => ms.length - (intOf i).toNat)
  case atStart => exact ⟨0, 0, by omega, rfl, by simp, Lib.hid (by simp), Kept.refl _ _ _⟩
  case round =>
    obtain ⟨i, t, hi, rfl, rfl, ht, hK⟩ := hrel
    by_cases hlt : i < ms.length
    · have hsh := h.shape CkSh.keeps hK
      have hmm := hm.kept hK
      obtain ⟨b, off, rfl, hob, hcs⟩ := hsh.2 (by omega)
      obtain ⟨cs, hcl, hR, hg⟩ := hcs i hlt
      have hst := sum_take_n ms i hlt
      have hsl := sum_take_n_le ms (i + 1)
      rw [ht.out] at hst
      obtain ⟨hB, hE, -, hfr⟩ := hmm b hob
      obtain ⟨A0, n0, c0, m0, rfl, -, h0, hcp, hd⟩ := hR
      have q0 : wr.cell? ⟨b, off + i, none⟩ = some (.slice A0 n0 c0) := by have := hg 0 _ rfl; rwa [Nat.mul_one] at this
      have hle : k + t + (m0.sum) ≤ 1073741824 := by omega
      have HD := Lib.hid hd
      have HST := Lib.hid hst
      clear hd hst hsl
      have Q0 := Lib.hid q0
      have HB := Lib.hid hB
      have HE := Lib.hid hE
      have HR := Lib.hid hfr
      have HO := Lib.hid hob
      have HN0 := Lib.hid (hcp)
      clear hcp
      clear hsh hcs hg hB hE hfr
      have HMM := Lib.hid hmm
      clear hmm
      go_wp2_with fail
      refine (marksTokL A0 n0 c0 m0 ok B E (k + t) _ (h0.shape (ShF.keeps 5) (by exact Kept.refl B E wr)) (HMM.out.kept (by exact Kept.refl B E wr)) (by omega) HN0.out (by omega)).mono ?_
      rintro e w1 ⟨rfl, hb1⟩
      have hk1 : Kept B E wr w1 := by refine hb1.after ?_; exact Kept.refl B E wr
      have z1_0 := hk1.slice Q0.out rfl
      clear q0
      go_wp2_with fail
      go_roundw
      case rel => exact ⟨i + 1, t + ms[i], by omega, by go_num, by rw [HD.out]; go_num, Lib.hid HST.out, hK.trans (by exact hk1)⟩
      case measure => simp [intOf]; omega
    · obtain rfl : i = ms.length := by omega
      have e := ht.out
      rw [List.take_of_length_le (Nat.le_refl _)] at e
      have HT := Lib.hid e
      clear e ht
      go_wp2_with fail
      go_ret
      exact ⟨retI (by rw [HT.out]), hK⟩
set_option maxRecDepth 100000 in
set_option maxHeartbeats 1000000 in
theorem marksFkL (A : Option Addr) (n c : Nat) (ms : List Nat) (ok : Nat → Prop) (B E k : Nat) (w : World) (h : Sl FkSh 5 ok w A n ms) (hm : mayMark B E w ok) (hk : k + ms.sum ≤ 1073741824) (hn : n ≤ 1048576) {x : Int} (hx : x = k) :
    Calls Tryz.prog 52 #[.slice A n c, .int .i64 x] w fun e w' => e = .returned (.int .i64 ((k + ms.sum : Nat) : Int)) ∧ Kept B E w w' := by
  obtain rfl : ms.length = n := h.1
  subst hx
  go_enter Tryz.func52, Tryz.ntmps52
  go_wp2_with fail
  go_loopw [1, 5] (fun m i wr => ∃ (j t : Nat), j ≤ ms.length ∧ i = .int .i64 j ∧ m = .int .i64 ((k + t : Nat) : Int) ∧ Hid ((ms.take j).sum = t) ∧ Kept B E w wr) (fun _ i _ => ms.length - (intOf i).toNat)
  case atStart => exact ⟨0, 0, by omega, rfl, by simp, Lib.hid (by simp), Kept.refl _ _ _⟩
  case round =>
    obtain ⟨i, t, hi, rfl, rfl, ht, hK⟩ := hrel
    by_cases hlt : i < ms.length
    · have hsh := h.shape FkSh.keeps hK
      have hmm := hm.kept hK
      obtain ⟨b, off, rfl, hob, hcs⟩ := hsh.2 (by omega)
      obtain ⟨cs, hcl, hR, hg⟩ := hcs i hlt
      have hst := sum_take_n ms i hlt
      have hsl := sum_take_n_le ms (i + 1)
      rw [ht.out] at hst
      obtain ⟨hB, hE, -, hfr⟩ := hmm b hob
      obtain ⟨A0, n0, c0, m0, u1, u2, u3, u4, rfl, ⟨g1, g2, g3, g4⟩, h0, hcp, hd⟩ := hR
      have q0 : wr.cell? ⟨b, off + i * 5, none⟩ = some (.slice A0 n0 c0) := hg 0 _ rfl
      have q1 : wr.cell? ⟨b, off + i * 5 + 1, none⟩ = some (u1) := hg 1 _ rfl
      have q2 : wr.cell? ⟨b, off + i * 5 + 2, none⟩ = some (u2) := hg 2 _ rfl
      have q3 : wr.cell? ⟨b, off + i * 5 + 3, none⟩ = some (u3) := hg 3 _ rfl
      have q4 : wr.cell? ⟨b, off + i * 5 + 4, none⟩ = some (u4) := hg 4 _ rfl
      have hle : k + t + (4 + m0.sum) ≤ 1073741824 := by omega
      have HD := Lib.hid hd
      have HST := Lib.hid hst
      clear hd hst hsl
      have f1 := hfr (off + i * 5 + 1)
      have f2 := hfr (off + i * 5 + 2)
      have f3 := hfr (off + i * 5 + 3)
      have f4 := hfr (off + i * 5 + 4)
      have Q0 := Lib.hid q0
      have Q1 := Lib.hid q1
      have Q2 := Lib.hid q2
      have Q3 := Lib.hid q3
      have Q4 := Lib.hid q4
      have G1 := Lib.hid g1
      have G2 := Lib.hid g2
      have G3 := Lib.hid g3
      have G4 := Lib.hid g4
      have HB := Lib.hid hB
      have HE := Lib.hid hE
      have HR := Lib.hid hfr
      have HO := Lib.hid hob
      have HN0 := Lib.hid (hcp)
      clear hcp
      clear hsh hcs hg hB hE hfr g1 g2 g3 g4
      have HMM := Lib.hid hmm
      clear hmm
      go_wp2_with fail
      refine (marksIntL A0 n0 c0 m0 ok B E (k + t) _ (h0.shape (ShF.keeps 1) (by exact Kept.refl B E wr)) (HMM.out.kept (by exact Kept.refl B E wr)) (by omega) HN0.out (by omega)).mono ?_
      rintro e w1 ⟨rfl, hb1⟩
      have hk1 : Kept B E wr w1 := by refine hb1.after ?_; exact Kept.refl B E wr
      have z1_0 := hk1.slice Q0.out rfl
      obtain ⟨v1_1, z1_1, -, -⟩ := hk1.cell _ _ Q1.out
      have k1_1 := (HMM.out.kept hk1 b HO.out).2.2.2 (off + i * 5 + 1)
      obtain ⟨v1_2, z1_2, -, -⟩ := hk1.cell _ _ Q2.out
      have k1_2 := (HMM.out.kept hk1 b HO.out).2.2.2 (off + i * 5 + 2)
      obtain ⟨v1_3, z1_3, -, -⟩ := hk1.cell _ _ Q3.out
      have k1_3 := (HMM.out.kept hk1 b HO.out).2.2.2 (off + i * 5 + 3)
      obtain ⟨v1_4, z1_4, -, -⟩ := hk1.cell _ _ Q4.out
      have k1_4 := (HMM.out.kept hk1 b HO.out).2.2.2 (off + i * 5 + 4)
      clear q0 q1 q2 q3 q4 f1 f2 f3 f4
      go_wp2_with fail
      refine (lawsMarkText (k + t + m0.sum) _ (by omega) (by omega)).mono ?_
      rintro e w2 ⟨rfl, hb2⟩
      have hk2 : Kept B E wr w2 := by refine (Kept.below hb2).after ?_; exact hk1
      have z2_0 := hk2.slice Q0.out rfl
      obtain ⟨v2_1, z2_1, -, -⟩ := hk2.cell _ _ Q1.out
      have k2_1 := (HMM.out.kept hk2 b HO.out).2.2.2 (off + i * 5 + 1)
      obtain ⟨v2_2, z2_2, -, -⟩ := hk2.cell _ _ Q2.out
      have k2_2 := (HMM.out.kept hk2 b HO.out).2.2.2 (off + i * 5 + 2)
      obtain ⟨v2_3, z2_3, -, -⟩ := hk2.cell _ _ Q3.out
      have k2_3 := (HMM.out.kept hk2 b HO.out).2.2.2 (off + i * 5 + 3)
      obtain ⟨v2_4, z2_4, -, -⟩ := hk2.cell _ _ Q4.out
      have k2_4 := (HMM.out.kept hk2 b HO.out).2.2.2 (off + i * 5 + 4)
      clear z1_0 z1_1 z1_2 z1_3 z1_4 k1_1 k1_2 k1_3 k1_4
      go_wp2_with fail
      go_roundw
      case rel => exact ⟨i + 1, t + ms[i], by omega, by go_num, by rw [HD.out]; go_num, Lib.hid HST.out, hK.trans (by refine Kept.set ?_ Q4.out G4.out HB.out HE.out rfl; refine Kept.set ?_ Q3.out G3.out HB.out HE.out rfl; refine Kept.set ?_ Q2.out G2.out HB.out HE.out rfl; refine Kept.set ?_ Q1.out G1.out HB.out HE.out rfl; exact hk2)⟩
      case measure => simp [intOf]; omega
    · obtain rfl : i = ms.length := by omega
      have e := ht.out
      rw [List.take_of_length_le (Nat.le_refl _)] at e
      have HT := Lib.hid e
      clear e ht
      go_wp2_with fail
      go_ret
      exact ⟨retI (by rw [HT.out]), hK⟩
set_option maxRecDepth 100000 in
set_option maxHeartbeats 1000000 in
theorem marksTableL (A : Option Addr) (n c : Nat) (ms : List Nat) (ok : Nat → Prop) (B E k : Nat) (w : World) (h : Sl TbSh 6 ok w A n ms) (hm : mayMark B E w ok) (hk : k + ms.sum ≤ 1073741824) (hn : n ≤ 1048576) {x : Int} (hx : x = k) :
    Calls Tryz.prog 17 #[.slice A n c, .int .i64 x] w fun e w' => e = .returned (.int .i64 ((k + ms.sum : Nat) : Int)) ∧ Kept B E w w' := by
  obtain rfl : ms.length = n := h.1
  subst hx
  go_enter Tryz.func17, Tryz.ntmps17
  go_wp2_with fail
  go_loopw [1, 5] (fun m i wr => ∃ (j t : Nat), j ≤ ms.length ∧ i = .int .i64 j ∧ m = .int .i64 ((k + t : Nat) : Int) ∧ Hid ((ms.take j).sum = t) ∧ Kept B E w wr) (fun _ i _ => ms.length - (intOf i).toNat)
  case atStart => exact ⟨0, 0, by omega, rfl, by simp, Lib.hid (by simp), Kept.refl _ _ _⟩
  case round =>
    obtain ⟨i, t, hi, rfl, rfl, ht, hK⟩ := hrel
    by_cases hlt : i < ms.length
    · have hsh := h.shape TbSh.keeps hK
      have hmm := hm.kept hK
      obtain ⟨b, off, rfl, hob, hcs⟩ := hsh.2 (by omega)
      obtain ⟨cs, hcl, hR, hg⟩ := hcs i hlt
      have hst := sum_take_n ms i hlt
      have hsl := sum_take_n_le ms (i + 1)
      rw [ht.out] at hst
      obtain ⟨hB, hE, -, hfr⟩ := hmm b hob
      obtain ⟨A1, n1, c1, m1, A2, n2, c2, m2, A3, n3, c3, m3, A4, n4, c4, m4, A5, n5, c5, m5, u0, rfl, g0, h1, h2, h3, h4, h5, hcp, hd⟩ := hR
      have q0 : wr.cell? ⟨b, off + i * 6, none⟩ = some (u0) := hg 0 _ rfl
      have q1 : wr.cell? ⟨b, off + i * 6 + 1, none⟩ = some (.slice A1 n1 c1) := hg 1 _ rfl
      have q2 : wr.cell? ⟨b, off + i * 6 + 2, none⟩ = some (.slice A2 n2 c2) := hg 2 _ rfl
      have q3 : wr.cell? ⟨b, off + i * 6 + 3, none⟩ = some (.slice A3 n3 c3) := hg 3 _ rfl
      have q4 : wr.cell? ⟨b, off + i * 6 + 4, none⟩ = some (.slice A4 n4 c4) := hg 4 _ rfl
      have q5 : wr.cell? ⟨b, off + i * 6 + 5, none⟩ = some (.slice A5 n5 c5) := hg 5 _ rfl
      have hle : k + t + (1 + m1.sum + m2.sum + m3.sum + m4.sum + m5.sum) ≤ 1073741824 := by omega
      have HD := Lib.hid hd
      have HST := Lib.hid hst
      clear hd hst hsl
      have f0 := hfr (off + i * 6)
      have Q0 := Lib.hid q0
      have Q1 := Lib.hid q1
      have Q2 := Lib.hid q2
      have Q3 := Lib.hid q3
      have Q4 := Lib.hid q4
      have Q5 := Lib.hid q5
      have G0 := Lib.hid g0
      have HB := Lib.hid hB
      have HE := Lib.hid hE
      have HR := Lib.hid hfr
      have HO := Lib.hid hob
      have HN1 := Lib.hid (hcp.1)
      have HN2 := Lib.hid (hcp.2.1)
      have HN3 := Lib.hid (hcp.2.2.1)
      have HN4 := Lib.hid (hcp.2.2.2.1)
      have HN5 := Lib.hid (hcp.2.2.2.2)
      clear hcp
      clear hsh hcs hg hB hE hfr g0
      have HMM := Lib.hid hmm
      clear hmm
      go_wp2_with fail
      refine (lawsMarkText (k + t) _ (by omega) (by omega)).mono ?_
      rintro e w1 ⟨rfl, hb1⟩
      have hk1 : Kept B E wr w1 := by refine (Kept.below hb1).after ?_; exact Kept.refl B E wr
      obtain ⟨v1_0, z1_0, -, -⟩ := hk1.cell _ _ Q0.out
      have k1_0 := (HMM.out.kept hk1 b HO.out).2.2.2 (off + i * 6)
      have z1_1 := hk1.slice Q1.out rfl
      have z1_2 := hk1.slice Q2.out rfl
      have z1_3 := hk1.slice Q3.out rfl
      have z1_4 := hk1.slice Q4.out rfl
      have z1_5 := hk1.slice Q5.out rfl
      clear q0 q1 q2 q3 q4 q5 f0
      go_wp2_with fail
      refine (marksColL A1 n1 c1 m1 ok B E (k + t + 1) _ (h1.shape (ShF.keeps 6) (by refine Kept.set ?_ Q0.out G0.out HB.out HE.out rfl; exact hk1)) (HMM.out.kept (by refine Kept.set ?_ Q0.out G0.out HB.out HE.out rfl; exact hk1)) (by omega) HN1.out (by omega)).mono ?_
      rintro e w2 ⟨rfl, hb2⟩
      have hk2 : Kept B E wr w2 := by refine hb2.after ?_; refine Kept.set ?_ Q0.out G0.out HB.out HE.out rfl; exact hk1
      obtain ⟨v2_0, z2_0, -, -⟩ := hk2.cell _ _ Q0.out
      have k2_0 := (HMM.out.kept hk2 b HO.out).2.2.2 (off + i * 6)
      have z2_1 := hk2.slice Q1.out rfl
      have z2_2 := hk2.slice Q2.out rfl
      have z2_3 := hk2.slice Q3.out rfl
      have z2_4 := hk2.slice Q4.out rfl
      have z2_5 := hk2.slice Q5.out rfl
      clear z1_0 z1_1 z1_2 z1_3 z1_4 z1_5 k1_0
      go_wp2_with fail
      refine (marksIntL A2 n2 c2 m2 ok B E (k + t + m1.sum + 1) _ (h2.shape (ShF.keeps 1) (by exact hk2)) (HMM.out.kept (by exact hk2)) (by omega) HN2.out (by omega)).mono ?_
      rintro e w3 ⟨rfl, hb3⟩
      have hk3 : Kept B E wr w3 := by refine hb3.after ?_; exact hk2
      obtain ⟨v3_0, z3_0, -, -⟩ := hk3.cell _ _ Q0.out
      have k3_0 := (HMM.out.kept hk3 b HO.out).2.2.2 (off + i * 6)
      have z3_1 := hk3.slice Q1.out rfl
      have z3_2 := hk3.slice Q2.out rfl
      have z3_3 := hk3.slice Q3.out rfl
      have z3_4 := hk3.slice Q4.out rfl
      have z3_5 := hk3.slice Q5.out rfl
      clear z2_0 z2_1 z2_2 z2_3 z2_4 z2_5 k2_0
      go_wp2_with fail
      refine (marksUniqueL A3 n3 c3 m3 ok B E (k + t + m1.sum + m2.sum + 1) _ (h3.shape UqSh.keeps (by exact hk3)) (HMM.out.kept (by exact hk3)) (by omega) HN3.out (by omega)).mono ?_
      rintro e w4 ⟨rfl, hb4⟩
      have hk4 : Kept B E wr w4 := by refine hb4.after ?_; exact hk3
      obtain ⟨v4_0, z4_0, -, -⟩ := hk4.cell _ _ Q0.out
      have k4_0 := (HMM.out.kept hk4 b HO.out).2.2.2 (off + i * 6)
      have z4_1 := hk4.slice Q1.out rfl
      have z4_2 := hk4.slice Q2.out rfl
      have z4_3 := hk4.slice Q3.out rfl
      have z4_4 := hk4.slice Q4.out rfl
      have z4_5 := hk4.slice Q5.out rfl
      clear z3_0 z3_1 z3_2 z3_3 z3_4 z3_5 k3_0
      go_wp2_with fail
      refine (marksCheckL A4 n4 c4 m4 ok B E (k + t + m1.sum + m2.sum + m3.sum + 1) _ (h4.shape CkSh.keeps (by exact hk4)) (HMM.out.kept (by exact hk4)) (by omega) HN4.out (by omega)).mono ?_
      rintro e w5 ⟨rfl, hb5⟩
      have hk5 : Kept B E wr w5 := by refine hb5.after ?_; exact hk4
      obtain ⟨v5_0, z5_0, -, -⟩ := hk5.cell _ _ Q0.out
      have k5_0 := (HMM.out.kept hk5 b HO.out).2.2.2 (off + i * 6)
      have z5_1 := hk5.slice Q1.out rfl
      have z5_2 := hk5.slice Q2.out rfl
      have z5_3 := hk5.slice Q3.out rfl
      have z5_4 := hk5.slice Q4.out rfl
      have z5_5 := hk5.slice Q5.out rfl
      clear z4_0 z4_1 z4_2 z4_3 z4_4 z4_5 k4_0
      go_wp2_with fail
      refine (marksFkL A5 n5 c5 m5 ok B E (k + t + m1.sum + m2.sum + m3.sum + m4.sum + 1) _ (h5.shape FkSh.keeps (by exact hk5)) (HMM.out.kept (by exact hk5)) (by omega) HN5.out (by omega)).mono ?_
      rintro e w6 ⟨rfl, hb6⟩
      have hk6 : Kept B E wr w6 := by refine hb6.after ?_; exact hk5
      obtain ⟨v6_0, z6_0, -, -⟩ := hk6.cell _ _ Q0.out
      have k6_0 := (HMM.out.kept hk6 b HO.out).2.2.2 (off + i * 6)
      have z6_1 := hk6.slice Q1.out rfl
      have z6_2 := hk6.slice Q2.out rfl
      have z6_3 := hk6.slice Q3.out rfl
      have z6_4 := hk6.slice Q4.out rfl
      have z6_5 := hk6.slice Q5.out rfl
      clear z5_0 z5_1 z5_2 z5_3 z5_4 z5_5 k5_0
      go_wp2_with fail
      go_roundw
      case rel => exact ⟨i + 1, t + ms[i], by omega, by go_num, by rw [HD.out]; go_num, Lib.hid HST.out, hK.trans (by exact hk6)⟩
      case measure => simp [intOf]; omega
    · obtain rfl : i = ms.length := by omega
      have e := ht.out
      rw [List.take_of_length_le (Nat.le_refl _)] at e
      have HT := Lib.hid e
      clear e ht
      go_wp2_with fail
      go_ret
      exact ⟨retI (by rw [HT.out]), hK⟩
set_option maxRecDepth 100000 in
set_option maxHeartbeats 1000000 in
theorem marksRowL (A : Option Addr) (n c : Nat) (ms : List Nat) (ok : Nat → Prop) (B E k : Nat) (w : World) (h : Sl RwSh 2 ok w A n ms) (hm : mayMark B E w ok) (hk : k + ms.sum ≤ 1073741824) (hn : n ≤ 1048576) {x : Int} (hx : x = k) :
    Calls Tryz.prog 69 #[.slice A n c, .int .i64 x] w fun e w' => e = .returned (.int .i64 ((k + ms.sum : Nat) : Int)) ∧ Kept B E w w' := by
  obtain rfl : ms.length = n := h.1
  subst hx
  go_enter Tryz.func69, Tryz.ntmps69
  go_wp2_with fail
  go_loopw [1, 5] (fun m i wr => ∃ (j t : Nat), j ≤ ms.length ∧ i = .int .i64 j ∧ m = .int .i64 ((k + t : Nat) : Int) ∧ Hid ((ms.take j).sum = t) ∧ Kept B E w wr) (fun _ i _ => ms.length - (intOf i).toNat)
  case atStart => exact ⟨0, 0, by omega, rfl, by simp, Lib.hid (by simp), Kept.refl _ _ _⟩
  case round =>
    obtain ⟨i, t, hi, rfl, rfl, ht, hK⟩ := hrel
    by_cases hlt : i < ms.length
    · have hsh := h.shape RwSh.keeps hK
      have hmm := hm.kept hK
      obtain ⟨b, off, rfl, hob, hcs⟩ := hsh.2 (by omega)
      obtain ⟨cs, hcl, hR, hg⟩ := hcs i hlt
      have hst := sum_take_n ms i hlt
      have hsl := sum_take_n_le ms (i + 1)
      rw [ht.out] at hst
      obtain ⟨hB, hE, -, hfr⟩ := hmm b hob
      obtain ⟨A1, n1, c1, m1, u0, rfl, g0, h1, hcp, hd⟩ := hR
      have q0 : wr.cell? ⟨b, off + i * 2, none⟩ = some (u0) := hg 0 _ rfl
      have q1 : wr.cell? ⟨b, off + i * 2 + 1, none⟩ = some (.slice A1 n1 c1) := hg 1 _ rfl
      have hle : k + t + (1 + m1.sum) ≤ 1073741824 := by omega
      have HD := Lib.hid hd
      have HST := Lib.hid hst
      clear hd hst hsl
      have f0 := hfr (off + i * 2)
      have Q0 := Lib.hid q0
      have Q1 := Lib.hid q1
      have G0 := Lib.hid g0
      have HB := Lib.hid hB
      have HE := Lib.hid hE
      have HR := Lib.hid hfr
      have HO := Lib.hid hob
      have HN1 := Lib.hid (hcp)
      clear hcp
      clear hsh hcs hg hB hE hfr g0
      have HMM := Lib.hid hmm
      clear hmm
      go_wp2_with fail
      refine (marksValL A1 n1 c1 m1 ok B E (k + t + 1) _ (h1.shape (ShF.keeps 3) (by refine Kept.set ?_ Q0.out G0.out HB.out HE.out rfl; exact Kept.refl B E wr)) (HMM.out.kept (by refine Kept.set ?_ Q0.out G0.out HB.out HE.out rfl; exact Kept.refl B E wr)) (by omega) HN1.out (by omega)).mono ?_
      rintro e w1 ⟨rfl, hb1⟩
      have hk1 : Kept B E wr w1 := by refine hb1.after ?_; refine Kept.set ?_ Q0.out G0.out HB.out HE.out rfl; exact Kept.refl B E wr
      obtain ⟨v1_0, z1_0, -, -⟩ := hk1.cell _ _ Q0.out
      have k1_0 := (HMM.out.kept hk1 b HO.out).2.2.2 (off + i * 2)
      have z1_1 := hk1.slice Q1.out rfl
      clear q0 q1 f0
      go_wp2_with fail
      go_roundw
      case rel => exact ⟨i + 1, t + ms[i], by omega, by go_num, by rw [HD.out]; go_num, Lib.hid HST.out, hK.trans (by exact hk1)⟩
      case measure => simp [intOf]; omega
    · obtain rfl : i = ms.length := by omega
      have e := ht.out
      rw [List.take_of_length_le (Nat.le_refl _)] at e
      have HT := Lib.hid e
      clear e ht
      go_wp2_with fail
      go_ret
      exact ⟨retI (by rw [HT.out]), hK⟩
set_option maxRecDepth 100000 in
set_option maxHeartbeats 1000000 in
theorem marksDataL (A : Option Addr) (n c : Nat) (ms : List Nat) (ok : Nat → Prop) (B E k : Nat) (w : World) (h : Sl DtSh 1 ok w A n ms) (hm : mayMark B E w ok) (hk : k + ms.sum ≤ 1073741824) (hn : n ≤ 1048576) {x : Int} (hx : x = k) :
    Calls Tryz.prog 28 #[.slice A n c, .int .i64 x] w fun e w' => e = .returned (.int .i64 ((k + ms.sum : Nat) : Int)) ∧ Kept B E w w' := by
  obtain rfl : ms.length = n := h.1
  subst hx
  go_enter Tryz.func28, Tryz.ntmps28
  go_wp2_with fail
  go_loopw [1, 5] (fun m i wr => ∃ (j t : Nat), j ≤ ms.length ∧ i = .int .i64 j ∧ m = .int .i64 ((k + t : Nat) : Int) ∧ Hid ((ms.take j).sum = t) ∧ Kept B E w wr) (fun _ i _ => ms.length - (intOf i).toNat)
  case atStart => exact ⟨0, 0, by omega, rfl, by simp, Lib.hid (by simp), Kept.refl _ _ _⟩
  case round =>
    obtain ⟨i, t, hi, rfl, rfl, ht, hK⟩ := hrel
    by_cases hlt : i < ms.length
    · have hsh := h.shape DtSh.keeps hK
      have hmm := hm.kept hK
      obtain ⟨b, off, rfl, hob, hcs⟩ := hsh.2 (by omega)
      obtain ⟨cs, hcl, hR, hg⟩ := hcs i hlt
      have hst := sum_take_n ms i hlt
      have hsl := sum_take_n_le ms (i + 1)
      rw [ht.out] at hst
      obtain ⟨hB, hE, -, hfr⟩ := hmm b hob
      obtain ⟨A0, n0, c0, m0, rfl, -, h0, hcp, hd⟩ := hR
      have q0 : wr.cell? ⟨b, off + i, none⟩ = some (.slice A0 n0 c0) := by have := hg 0 _ rfl; rwa [Nat.mul_one] at this
      have hle : k + t + (m0.sum) ≤ 1073741824 := by omega
      have HD := Lib.hid hd
      have HST := Lib.hid hst
      clear hd hst hsl
      have Q0 := Lib.hid q0
      have HB := Lib.hid hB
      have HE := Lib.hid hE
      have HR := Lib.hid hfr
      have HO := Lib.hid hob
      have HN0 := Lib.hid (hcp)
      clear hcp
      clear hsh hcs hg hB hE hfr
      have HMM := Lib.hid hmm
      clear hmm
      go_wp2_with fail
      refine (marksRowL A0 n0 c0 m0 ok B E (k + t) _ (h0.shape RwSh.keeps (by exact Kept.refl B E wr)) (HMM.out.kept (by exact Kept.refl B E wr)) (by omega) HN0.out (by omega)).mono ?_
      rintro e w1 ⟨rfl, hb1⟩
      have hk1 : Kept B E wr w1 := by refine hb1.after ?_; exact Kept.refl B E wr
      have z1_0 := hk1.slice Q0.out rfl
      clear q0
      go_wp2_with fail
      go_roundw
      case rel => exact ⟨i + 1, t + ms[i], by omega, by go_num, by rw [HD.out]; go_num, Lib.hid HST.out, hK.trans (by exact hk1)⟩
      case measure => simp [intOf]; omega
    · obtain rfl : i = ms.length := by omega
      have e := ht.out
      rw [List.take_of_length_le (Nat.le_refl _)] at e
      have HT := Lib.hid e
      clear e ht
      go_wp2_with fail
      go_ret
      exact ⟨retI (by rw [HT.out]), hK⟩
def Mk (f : Nat → Value) (w : World) (A : Option Addr) (m : Nat) : Prop := 0 < m → ∃ b off, A = some ⟨b, off, none⟩ ∧ ∀ j, j < m → w.cell? ⟨b, off + j, none⟩ = some (f j)
def KM (f : Nat → Value) (b off B E : Nat) (wr W : World) (m : Nat) : Prop := Kept B E wr W ∧ ∀ j, j < m → W.cell? ⟨b, off + j, none⟩ = some (f j)
theorem KM.set {f : Nat → Value} {b off B E : Nat} {wr W : World} {m : Nat} (h : KM f b off B E wr W m) {p : Addr} {u v : Value} (hp : p = ⟨b, off + m, none⟩) (hc : wr.cell? p = some u) (hn : isSl u = false) (hB : B ≤ p.block) (hE : p.block < E) (hv : isSl v = false) (hf : v = f m) : KM f b off B E wr (W.setCell p v) (m + 1) := by
  refine ⟨Kept.set h.1 hc hn hB hE hv, fun j hj => ?_⟩
  obtain ⟨u', h1, -⟩ := h.1.cell p u hc
  subst hp
  by_cases e : j = m
  · subst e
    rw [World.cell?_setCell_same _ _ _ h1, hf]
  · rw [World.cell?_setCell_other _ _ _ _ (by intro hh; simp only [Addr.mk.injEq] at hh; omega)]
    exact h.2 j (by omega)
theorem KM.below {f : Nat → Value} {b off B E : Nat} {wr W W' : World} {m : Nat} (hb : Below W.heap.size W W') (h : KM f b off B E wr W m) : KM f b off B E wr W' m := ⟨h.1.trans (Kept.below hb), fun j hj => below_keep hb _ _ (h.2 j hj)⟩
theorem KM.close {f : Nat → Value} {b off B E : Nat} {w wr W : World} {m m' : Nat} (h : KM f b off B E wr W m') (hK : Kept B E w wr) (e : m = m') : Hid (Mk f W (some ⟨b, off, none⟩) m) ∧ Kept B E w W := ⟨fun _ => ⟨b, off, rfl, fun j hj => h.2 j (by omega)⟩, hK.trans h.1⟩
theorem KM.start {f : Nat → Value} {b off B E : Nat} {w wr : World} {m : Nat} (h : ∀ j, j < m → wr.cell? ⟨b, off + j, none⟩ = some (f j)) : KM f b off B E wr wr m := ⟨Kept.refl _ _ _, h⟩
theorem Mk.below {f : Nat → Value} {w w' : World} {A : Option Addr} {m : Nat} (h : Mk f w A m) (hb : Below w.heap.size w w') : Mk f w' A m := fun hm => by
  obtain ⟨b, off, e, hc⟩ := h hm
  exact ⟨b, off, e, fun j hj => below_keep hb _ _ (hc j hj)⟩
def mkXVal (k j : Nat) : Value := if j % 3 = 2 then .string (mtx (k + j)) else .int .i64 ((k + j : Nat) : Int)
theorem mkXVal_0 (k i : Nat) : mkXVal k (i * 3 + 0) = .int .i64 ((k + (i * 3 + 0) : Nat) : Int) := by unfold mkXVal; rw [if_neg (by omega)]
theorem mkXVal_1 (k i : Nat) : mkXVal k (i * 3 + 1) = .int .i64 ((k + (i * 3 + 1) : Nat) : Int) := by unfold mkXVal; rw [if_neg (by omega)]
theorem mkXVal_2 (k i : Nat) : mkXVal k (i * 3 + 2) = .string (mtx (k + (i * 3 + 2))) := by unfold mkXVal; rw [if_pos (by omega)]
set_option maxRecDepth 100000 in
set_option maxHeartbeats 1000000 in
theorem marksXValL (A : Option Addr) (n c : Nat) (ms : List Nat) (ok : Nat → Prop) (B E k : Nat) (w : World) (h : Sl (ShF 3) 3 ok w A n ms) (hm : mayMark B E w ok) (hk : k + n * 3 ≤ 1073741824) (hn : n ≤ 1048576) {x : Int} (hx : x = k) :
    Calls Tryz.prog 19 #[.slice A n c, .int .i64 x] w fun e w' => e = .returned (.int .i64 ((k + n * 3 : Nat) : Int)) ∧ Kept B E w w' ∧ Mk (mkXVal k) w' A (n * 3) := by
  obtain rfl : ms.length = n := h.1
  subst hx
  go_enter Tryz.func19, Tryz.ntmps19
  go_wp2_with fail
  go_loopw [1, 5] (fun m i wr => ∃ (j : Nat), j ≤ ms.length ∧ i = .int .i64 j ∧ m = .int .i64 ((k + j * 3 : Nat) : Int) ∧ Hid (Mk (mkXVal k) wr A (j * 3)) ∧ Kept B E w wr) (fun _ i _ => ms.length - (intOf i).toNat)
  case atStart => exact ⟨0, by omega, rfl, by simp, Lib.hid (fun h => by omega), Kept.refl _ _ _⟩
  case round =>
    obtain ⟨i, hi, rfl, rfl, hM, hK⟩ := hrel
    by_cases hlt : i < ms.length
    · have hsh := h.shape (ShF.keeps 3) hK
      have hmm := hm.kept hK
      obtain ⟨b, off, rfl, hob, hcs⟩ := hsh.2 (by omega)
      obtain ⟨cs, hcl, hR, hg⟩ := hcs i hlt
      have hM0 : ∀ j, j < i * 3 → wr.cell? ⟨b, off + j, none⟩ = some (mkXVal k j) := fun j hj => by
        obtain ⟨b', off', e, hc⟩ := hM.out (by omega)
        cases e
        exact hc j hj
      obtain ⟨hB, hE, -, hfr⟩ := hmm b hob
      obtain ⟨u0, u1, u2, rfl⟩ : ∃ u0 u1 u2, cs = [u0, u1, u2] := by
        have h0 := hR.1
        match cs, h0 with
        | [x0, x1, x2], _ => exact ⟨x0, x1, x2, rfl⟩
      have g0 : isSl u0 = false := hR.2.1 0 _ rfl
      have g1 : isSl u1 = false := hR.2.1 1 _ rfl
      have g2 : isSl u2 = false := hR.2.1 2 _ rfl
      have q0 : wr.cell? ⟨b, off + i * 3, none⟩ = some (u0) := hg 0 _ rfl
      have q1 : wr.cell? ⟨b, off + i * 3 + 1, none⟩ = some (u1) := hg 1 _ rfl
      have q2 : wr.cell? ⟨b, off + i * 3 + 2, none⟩ = some (u2) := hg 2 _ rfl
      have f0 := hfr (off + i * 3)
      have f1 := hfr (off + i * 3 + 1)
      have f2 := hfr (off + i * 3 + 2)
      have Q0 := Lib.hid q0
      have Q1 := Lib.hid q1
      have Q2 := Lib.hid q2
      have G0 := Lib.hid g0
      have G1 := Lib.hid g1
      have G2 := Lib.hid g2
      have HB := Lib.hid hB
      have HE := Lib.hid hE
      have HR := Lib.hid hfr
      have HO := Lib.hid hob
      have HM0 := Lib.hid hM0
      have HMM := Lib.hid hmm
      have hle : k + i * 3 + 3 ≤ 1073741824 := by omega
      clear hsh hcs hg hR hB hE hfr hmm hM0 hM g0 g1 g2
      go_wp2_with fail
      refine (lawsMarkText (k + (i * 3 + 2)) _ (by omega) (by omega)).mono ?_
      rintro e w1 ⟨rfl, hb1⟩
      have hk1 : KM (mkXVal k) b off B E wr w1 (i * 3 + 2) := by refine KM.below hb1 ?_; refine KM.set (m := i * 3 + 1) ?_ (by simp [Nat.add_assoc]) Q1.out G1.out HB.out HE.out rfl (by rw [mkXVal_1]; exact congrArg (Value.int .i64) (by omega)); refine KM.set (m := i * 3 + 0) ?_ (by simp [Nat.add_assoc]) Q0.out G0.out HB.out HE.out rfl (by rw [mkXVal_0]; exact congrArg (Value.int .i64) (by omega)); exact KM.start (w := wr) HM0.out
      obtain ⟨v1_0, z1_0, -, -⟩ := hk1.1.cell _ _ Q0.out
      have k1_0 := (HMM.out.kept hk1.1 b HO.out).2.2.2 (off + i * 3)
      obtain ⟨v1_1, z1_1, -, -⟩ := hk1.1.cell _ _ Q1.out
      have k1_1 := (HMM.out.kept hk1.1 b HO.out).2.2.2 (off + i * 3 + 1)
      obtain ⟨v1_2, z1_2, -, -⟩ := hk1.1.cell _ _ Q2.out
      have k1_2 := (HMM.out.kept hk1.1 b HO.out).2.2.2 (off + i * 3 + 2)
      have HK1 := Lib.hid hk1
      clear hk1 q0 f0 q1 f1 q2 f2
      go_wp2_with fail
      go_roundw
      case rel =>
        refine ⟨i + 1, by omega, by go_num, by exact congrArg (Value.int .i64) (by omega), ?_⟩
        refine KM.close (m' := i * 3 + 2 + 1) ?_ hK (by omega)
        refine KM.set (m := i * 3 + 2) ?_ (by simp [Nat.add_assoc]) Q2.out G2.out HB.out HE.out rfl (by first | (rw [mkXVal_2]; done) | (rw [mkXVal_2]; congr 2; omega)); exact HK1.out
      case measure => simp [intOf]; omega
    · obtain rfl : i = ms.length := by omega
      go_wp2_with fail
      go_ret
      exact ⟨rfl, hK, hM.out⟩
set_option maxRecDepth 100000 in
set_option maxHeartbeats 1000000 in
theorem heldXValL (A : Option Addr) (n c k : Nat) (w : World) (h : Mk (mkXVal k) w A (n * 3)) (hk : k + n * 3 ≤ 1073741824) (hn : n ≤ 1048576) {x : Int} (hx : x = k) :
    Calls Tryz.prog 70 #[.slice A n c, .int .i64 x] w fun e w' => e = .returned (.int .i64 ((k + n * 3 : Nat) : Int)) ∧ Below w.heap.size w w' := by
  subst hx
  have HH := Lib.hid h
  clear h
  go_enter Tryz.func70, Tryz.ntmps70
  go_wp2_with fail
  go_loopw [1, 5] (fun m i wr => ∃ (j : Nat), j ≤ n ∧ i = .int .i64 j ∧ m = .int .i64 ((k + j * 3 : Nat) : Int) ∧ Below w.heap.size w wr) (fun _ i _ => n - (intOf i).toNat)
  case atStart => exact ⟨0, by omega, rfl, by simp, Below.refl _ _⟩
  case round =>
    obtain ⟨i, hi, rfl, rfl, hb⟩ := hrel
    by_cases hlt : i < n
    · obtain ⟨b, off, rfl, hc⟩ := (HH.out.below hb) (by omega)
      have hle : k + i * 3 + 3 ≤ 1073741824 := by omega
      have q0 : wr.cell? ⟨b, off + i * 3, none⟩ = some (.int .i64 ((k + (i * 3 + 0) : Nat) : Int)) := by have := hc (i * 3 + 0) (by omega); rwa [mkXVal_0] at this
      have q1 : wr.cell? ⟨b, off + i * 3 + 1, none⟩ = some (.int .i64 ((k + (i * 3 + 1) : Nat) : Int)) := by have := hc (i * 3 + 1) (by omega); rwa [mkXVal_1, ← Nat.add_assoc] at this
      have q2 : wr.cell? ⟨b, off + i * 3 + 2, none⟩ = some (.string (mtx (k + (i * 3 + 2)))) := by have := hc (i * 3 + 2) (by omega); rwa [mkXVal_2, ← Nat.add_assoc] at this
      have i0 : (0 : Int) ≤ i := by omega
      have i1 : (i : Int) < n := by omega
      have Q0 := Lib.hid q0
      have Q1 := Lib.hid q1
      have Q2 := Lib.hid q2
      clear hc
      go_wp2_with fail
      go_region_held3 (fun w' => w'.cell? ⟨b, off + i * 3 + 2, none⟩ = some (.string (mtx (k + (i * 3 + 2)))))
        (first | go_keep | exact below_keep hb1 _ _ (by assumption))
        (first | (go_at_call 48; refine (lawsMarkText (k + (i * 3 + 2)) _ (by omega) (by omega)).mono ?_; rintro e w1 ⟨rfl, hb1⟩))
      go_wp2_with fail
      go_roundw
      case rel => exact ⟨i + 1, by omega, by go_num, by exact congrArg (Value.int .i64) (by omega), hb.drew.trans (hb1.mono hb.size)⟩
      case measure => simp [intOf]; omega
    · obtain rfl : i = n := by omega
      go_wp2_with fail
      go_ret
      exact ⟨rfl, hb⟩
structure KeptL (bs : List Nat) (w w' : World) : Prop where
  os : w'.os = w.os
  tape : w'.tape = w.tape
  output : w'.output = w.output
  size : w.heap.size ≤ w'.heap.size
  block : ∀ k, k < w.heap.size → k ∉ bs → w'.heap[k]? = w.heap[k]?
  frozen : ∀ p : Addr, p.block < w.heap.size → w'.frozen? p = w.frozen? p
theorem KeptL.refl (bs : List Nat) (w : World) : KeptL bs w w := ⟨rfl, rfl, rfl, Nat.le_refl _, fun _ _ _ => rfl, fun _ _ => rfl⟩
theorem KeptL.trans {bs : List Nat} {a b c : World} (h : KeptL bs a b) (k : KeptL bs b c) : KeptL bs a c :=
  ⟨k.os.trans h.os, k.tape.trans h.tape, k.output.trans h.output, Nat.le_trans h.size k.size, fun i hi ho => (k.block i (Nat.lt_of_lt_of_le hi h.size) ho).trans (h.block i hi ho),
   fun p hp => (k.frozen p (Nat.lt_of_lt_of_le hp h.size)).trans (h.frozen p hp)⟩
theorem KeptL.mono {bs cs : List Nat} {a b : World} (h : KeptL bs a b) (hc : ∀ x ∈ bs, x ∈ cs) : KeptL cs a b :=
  ⟨h.os, h.tape, h.output, h.size, fun k hk ho => h.block k hk fun hh => ho (hc _ hh), h.frozen⟩
theorem KeptL.below {bs : List Nat} {w w' : World} (h : Below w.heap.size w w') : KeptL bs w w' :=
  ⟨h.os, h.tape, h.output, h.size, fun k hk _ => h.block k hk, fun p hp => World.frozen?_of_block (w := w) (h.block p.block hp)⟩
theorem KeptL.of {b : Nat} {w w' : World} (h : Kept b (b + 1) w w') : KeptL [b] w w' :=
  ⟨h.os, h.tape, h.output, h.size, fun k hk ho => h.block k hk (by rw [List.mem_singleton] at ho; omega), h.frozen⟩
theorem KeptL.of0 {bs : List Nat} {w w' : World} (h : Kept 0 0 w w') : KeptL bs w w' :=
  ⟨h.os, h.tape, h.output, h.size, fun k hk _ => h.block k hk (Or.inr (Nat.zero_le _)), h.frozen⟩
theorem KeptL.far {bs : List Nat} {w w' : World} (h : KeptL bs w w') {p : Addr} {v : Value} (hp : p.block ∉ bs) (hc : w.cell? p = some v) : w'.cell? p = some v :=
  (World.cell?_of_block (w := w) (h.block p.block (cell_lt hc) hp)).trans hc
theorem KeptL.set {bs : List Nat} {a w : World} (h : KeptL bs a w) {p : Addr} {u : Value} (hp : p.block ∈ bs) : KeptL bs a (w.setCell p u) :=
  ⟨h.os, h.tape, h.output, by simpa [World.setCell] using h.size, fun k hk ho => by
    rw [Below.heap_setCell _ _ _ _ (fun hh => ho (by rw [hh]; exact hp))]
    exact h.block k hk ho, fun q hq => (frozen_setCell w p u q).trans (h.frozen q hq)⟩
theorem KeptL.toBelow {bs : List Nat} {G : Nat} {a w w' : World} (h : Below G a w) (k : KeptL bs w w') (hG : ∀ b ∈ bs, G ≤ b) (ha : G ≤ w.heap.size) : Below G a w' :=
  ⟨k.os.trans h.os, k.tape.trans h.tape, k.output.trans h.output, Nat.le_trans h.size k.size, fun i hi => (k.block i (by omega) (fun hh => by have := hG i hh; omega)).trans (h.block i hi)⟩
def FlS (sz : Nat) (w : World) (A : Option Addr) (n : Nat) (bs : List Nat) : Prop :=
  bs.length ≤ 1 ∧ n ≤ 1048576 ∧ (∀ b ∈ bs, b < w.heap.size ∧ ∀ off, w.frozen? ⟨b, off, none⟩ = false) ∧ ∃ ms, Sl (ShF sz) sz (· ∈ bs) w A n ms
theorem ShF.stays (m : Nat) : Stays (ShF m) := fun _ _ _ _ _ _ h _ _ => h
theorem FlS.stay {sz : Nat} {w w' : World} {A : Option Addr} {n : Nat} {bs bs' : List Nat} (h : FlS sz w A n bs) (k : KeptL bs' w w') (hd : ∀ x ∈ bs, x ∉ bs') : FlS sz w' A n bs := by
  obtain ⟨h1, h2, h3, ms, h4⟩ := h
  exact ⟨h1, h2, fun b hb => ⟨Nat.lt_of_lt_of_le (h3 b hb).1 k.size, fun off => (k.frozen ⟨b, off, none⟩ (h3 b hb).1).trans ((h3 b hb).2 off)⟩, ms,
    h4.stays (ShF.stays sz) (fun _ h => h) fun p v hb hp => k.far (hd _ hb) hp⟩
def FlH (f : Nat → Nat → Value) (sz : Nat) (w : World) (k : Nat) (A : Option Addr) (n : Nat) (bs : List Nat) : Prop :=
  n ≤ 1048576 ∧ (0 < n * sz → ∃ b off, A = some ⟨b, off, none⟩ ∧ b ∈ bs ∧ ∀ j, j < n * sz → w.cell? ⟨b, off + j, none⟩ = some (f k j))
theorem FlH.mk {f : Nat → Nat → Value} {sz : Nat} {w : World} {k : Nat} {A : Option Addr} {n : Nat} {bs : List Nat} (h : FlH f sz w k A n bs) : Mk (f k) w A (n * sz) := fun hn => by
  obtain ⟨b, off, e, -, hc⟩ := h.2 hn
  exact ⟨b, off, e, hc⟩
theorem FlH.stay {f : Nat → Nat → Value} {sz : Nat} {w w' : World} {k : Nat} {A : Option Addr} {n : Nat} {bs bs' : List Nat} (h : FlH f sz w k A n bs) (kk : KeptL bs' w w') (hd : ∀ x ∈ bs, x ∉ bs') : FlH f sz w' k A n bs :=
  ⟨h.1, fun hn => by
    obtain ⟨b, off, e, hb, hc⟩ := h.2 hn
    exact ⟨b, off, e, hb, fun j hj => kk.far (hd b hb) (hc j hj)⟩⟩
theorem FlS.pick {sz : Nat} {w : World} {A : Option Addr} {n : Nat} {bs : List Nat} (h : FlS sz w A n bs) (f : Nat → Nat → Value) (k : Nat) :
    n ≤ 1048576 ∧ ∃ B E ms, Sl (ShF sz) sz (· ∈ bs) w A n ms ∧ mayMark B E w (· ∈ bs) ∧ (∀ w', Kept B E w w' → KeptL bs w w') ∧ ∀ w', Mk (f k) w' A (n * sz) → FlH f sz w' k A n bs := by
  obtain ⟨h1, h2, h3, ms, h4⟩ := h
  have hF : ∀ w', Mk (f k) w' A (n * sz) → FlH f sz w' k A n bs := fun w' hM => ⟨h2, fun hn => by
    obtain ⟨b, off, e, hc⟩ := hM hn
    obtain ⟨b', off', e', hb, -⟩ := h4.2 (Nat.pos_of_mul_pos_right hn)
    obtain ⟨rfl, rfl⟩ : b' = b ∧ off' = off := by rw [e] at e'; cases e'; exact ⟨rfl, rfl⟩
    exact ⟨b', off', e, hb, hc⟩⟩
  refine ⟨h2, ?_⟩
  match bs, h1 with
  | [], _ => exact ⟨0, 0, ms, h4, (fun b hb => by simp at hb), fun w' hk => KeptL.of0 hk, hF⟩
  | [b], _ => exact ⟨b, b + 1, ms, h4, (fun x hx => by
      obtain rfl : x = b := by simpa using hx
      exact ⟨Nat.le_refl _, by omega, (h3 x (by simp)).1, (h3 x (by simp)).2⟩), fun w' hk => KeptL.of hk, hF⟩
def cellsAt (w : World) (b o : Nat) (cs : List Value) : Prop := ∀ (t : Nat) (v : Value), cs[t]? = some v → w.cell? ⟨b, o + t, none⟩ = some v
abbrev ElS := World → List Value → Nat → List Nat → Prop
abbrev ElH := World → Nat → List Value → Nat → List Nat → Prop
def StayS (S : ElS) : Prop := ∀ (w w' : World) (cs : List Value) (cnt : Nat) (bs bs' : List Nat), S w cs cnt bs → KeptL bs' w w' → (∀ x ∈ bs, x ∉ bs') → S w' cs cnt bs
def StayH (H : ElH) : Prop := ∀ (w w' : World) (k : Nat) (cs : List Value) (cnt : Nat) (bs bs' : List Nat), H w k cs cnt bs → KeptL bs' w w' → (∀ x ∈ bs, x ∉ bs') → H w' k cs cnt bs
structure NS (S : ElS) (sz : Nat) (w : World) (b off n : Nat) (cnts : List Nat) (bss : List (List Nat)) : Prop where
  l1 : cnts.length = n
  l2 : bss.length = n
  nodup : (b :: bss.flatten).Nodup
  lt : b < w.heap.size
  fr : ∀ o, w.frozen? ⟨b, o, none⟩ = false
  el : ∀ i, i < n → ∃ cs, cs.length = sz ∧ S w cs (cnts.getD i 0) (bss.getD i []) ∧ cellsAt w b (off + i * sz) cs
def ShL (S : ElS) (sz : Nat) (w : World) (A : Option Addr) (n : Nat) (cnts : List Nat) (bs : List Nat) : Prop :=
  n ≤ 1048576 ∧ (n = 0 ∧ cnts = [] ∧ bs = [] ∨ ∃ b off bss, A = some ⟨b, off, none⟩ ∧ bs = b :: bss.flatten ∧ NS S sz w b off n cnts bss)
structure NH (H : ElH) (sz : Nat) (w : World) (k b off n : Nat) (cnts : List Nat) (bss : List (List Nat)) : Prop where
  l1 : cnts.length = n
  l2 : bss.length = n
  el : ∀ i, i < n → ∃ cs, cs.length = sz ∧ H w (k + (cnts.take i).sum) cs (cnts.getD i 0) (bss.getD i []) ∧ cellsAt w b (off + i * sz) cs
def HdL (H : ElH) (sz : Nat) (w : World) (k : Nat) (A : Option Addr) (n : Nat) (cnts : List Nat) (bs : List Nat) : Prop :=
  n ≤ 1048576 ∧ (n = 0 ∧ cnts = [] ∧ bs = [] ∨ ∃ b off bss, A = some ⟨b, off, none⟩ ∧ bs = b :: bss.flatten ∧ NH H sz w k b off n cnts bss)
theorem mem_flatten_getD {bss : List (List Nat)} {i x : Nat} (h : x ∈ bss.getD i []) : x ∈ bss.flatten := by
  by_cases hi : i < bss.length
  · rw [List.getD_eq_getElem?_getD, List.getElem?_eq_getElem hi] at h
    exact List.mem_flatten.2 ⟨bss[i], List.getElem_mem hi, h⟩
  · rw [List.getD_eq_getElem?_getD, List.getElem?_eq_none (by omega)] at h
    simp at h
theorem apart {b : Nat} {bss : List (List Nat)} (h : (b :: bss.flatten).Nodup) {i j x : Nat} (hx : x ∈ bss.getD i []) (hj : x ∈ bss.getD j []) : i = j := by
  have hi : i < bss.length := by
    rcases Nat.lt_or_ge i bss.length with h1 | h1
    · exact h1
    · rw [List.getD_eq_getElem?_getD, List.getElem?_eq_none h1] at hx; simp at hx
  have hjl : j < bss.length := by
    rcases Nat.lt_or_ge j bss.length with h1 | h1
    · exact h1
    · rw [List.getD_eq_getElem?_getD, List.getElem?_eq_none h1] at hj; simp at hj
  rw [List.getD_eq_getElem?_getD, List.getElem?_eq_getElem hi] at hx
  rw [List.getD_eq_getElem?_getD, List.getElem?_eq_getElem hjl] at hj
  have hp := (List.pairwise_iff_getElem.1 (List.pairwise_flatten.1 (List.nodup_cons.1 h).2).2)
  rcases Nat.lt_trichotomy i j with h1 | h1 | h1
  · exact absurd rfl (hp i j hi hjl h1 x hx x hj)
  · exact h1
  · exact absurd rfl (hp j i hjl hi h1 x hj x hx)
theorem apart0 {b : Nat} {bss : List (List Nat)} (h : (b :: bss.flatten).Nodup) {i x : Nat} (hx : x ∈ bss.getD i []) : x ≠ b := fun e => (List.nodup_cons.1 h).1 (e ▸ mem_flatten_getD hx)
theorem mem_take_flatten {bss : List (List Nat)} {i x : Nat} (h : x ∈ (bss.take i).flatten) : ∃ j, j < i ∧ x ∈ bss.getD j [] := by
  obtain ⟨l, hl, hx⟩ := List.mem_flatten.1 h
  obtain ⟨j, hj, rfl⟩ := List.mem_iff_getElem.1 hl
  simp only [List.length_take] at hj
  refine ⟨j, by omega, ?_⟩
  rw [List.getElem_take] at hx
  rw [List.getD_eq_getElem?_getD, List.getElem?_eq_getElem (by omega)]
  exact hx
theorem sum_take_getD (l : List Nat) (k : Nat) (h : k < l.length) : (l.take (k + 1)).sum = (l.take k).sum + l.getD k 0 := by
  rw [sum_take_n l k h, List.getD_eq_getElem?_getD, List.getElem?_eq_getElem h]; rfl
theorem take_le_sum (l : List Nat) (k : Nat) : (l.take k).sum ≤ l.sum := sum_take_n_le l k
structure NI (H : ElH) (sz : Nat) (w : World) (b off k n : Nat) (cnts : List Nat) (bss : List (List Nat)) (i : Nat) (wr : World) : Prop where
  kept : KeptL (b :: (bss.take i).flatten) w wr
  same : ∀ o, off + i * sz ≤ o → wr.cell? ⟨b, o, none⟩ = w.cell? ⟨b, o, none⟩
  done : ∀ j, j < i → ∃ cs, cs.length = sz ∧ H wr (k + (cnts.take j).sum) cs (cnts.getD j 0) (bss.getD j []) ∧ cellsAt wr b (off + j * sz) cs
theorem NI.start (H : ElH) (sz : Nat) (w : World) (b off k n : Nat) (cnts : List Nat) (bss : List (List Nat)) : NI H sz w b off k n cnts bss 0 w := ⟨KeptL.refl _ _, fun _ _ => rfl, fun j hj => by omega⟩
theorem NI.elem {S : ElS} {H : ElH} (hS : StayS S) {sz : Nat} {w : World} {b off k n : Nat} {cnts : List Nat} {bss : List (List Nat)} (hs : NS S sz w b off n cnts bss) {i : Nat} {wr : World} (h : NI H sz w b off k n cnts bss i wr) (hi : i < n) :
    b < wr.heap.size ∧ (∀ o, wr.frozen? ⟨b, o, none⟩ = false) ∧ ∃ cs, cs.length = sz ∧ S wr cs (cnts.getD i 0) (bss.getD i []) ∧ cellsAt wr b (off + i * sz) cs := by
  refine ⟨Nat.lt_of_lt_of_le hs.lt h.kept.size, fun o => (h.kept.frozen ⟨b, o, none⟩ hs.lt).trans (hs.fr o), ?_⟩
  obtain ⟨cs, h1, h2, h3⟩ := hs.el i hi
  refine ⟨cs, h1, hS _ _ _ _ _ _ h2 h.kept fun x hx hh => ?_, fun t v hv => (h.same _ (by omega)).trans (h3 t v hv)⟩
  rcases List.mem_cons.1 hh with e | e
  · exact apart0 hs.nodup hx e
  · obtain ⟨j, hj, hxj⟩ := mem_take_flatten e
    have := apart hs.nodup hx hxj
    omega
theorem NI.step {H : ElH} (hH : StayH H) {sz : Nat} {w : World} {b off k n : Nat} {cnts : List Nat} {bss : List (List Nat)} (hl : bss.length = n) (hn : (b :: bss.flatten).Nodup) {i : Nat} {wr W : World} (h : NI H sz w b off k n cnts bss i wr) (hi : i < n)
    (hk : KeptL (b :: bss.getD i []) wr W) (hs : ∀ o, (o < off + i * sz ∨ off + (i + 1) * sz ≤ o) → ∀ v, wr.cell? ⟨b, o, none⟩ = v → W.cell? ⟨b, o, none⟩ = v) (cs : List Value) (hc : cs.length = sz) (hM : H W (k + (cnts.take i).sum) cs (cnts.getD i 0) (bss.getD i [])) (hcs : cellsAt W b (off + i * sz) cs) :
    NI H sz w b off k n cnts bss (i + 1) W := by
  have hsub : ∀ x ∈ bss.getD i [], x ∈ (bss.take (i + 1)).flatten := fun x hx => by
    have hi' : i < bss.length := by omega
    rw [List.getD_eq_getElem?_getD, List.getElem?_eq_getElem hi'] at hx
    exact List.mem_flatten.2 ⟨bss[i], List.mem_iff_getElem.2 ⟨i, by simp; omega, by simp⟩, hx⟩
  have hsub2 : ∀ x ∈ (bss.take i).flatten, x ∈ (bss.take (i + 1)).flatten := fun x hx => by
    rw [List.take_succ_eq_append_getElem (by omega), List.flatten_append]
    exact List.mem_append_left _ hx
  refine ⟨(h.kept.mono fun x hx => ?_).trans (hk.mono fun x hx => ?_), fun o ho => ?_, fun j hj => ?_⟩
  · rcases List.mem_cons.1 hx with e | e
    · exact e ▸ List.mem_cons_self ..
    · exact List.mem_cons_of_mem _ (hsub2 x e)
  · rcases List.mem_cons.1 hx with e | e
    · exact e ▸ List.mem_cons_self ..
    · exact List.mem_cons_of_mem _ (hsub x e)
  · have e : (i + 1) * sz = i * sz + sz := Nat.succ_mul i sz
    exact (hs o (Or.inr ho) _ rfl).trans (h.same o (by omega))
  · by_cases e : j = i
    · subst e
      exact ⟨cs, hc, hM, hcs⟩
    · obtain ⟨cs', h1, h2, h3⟩ := h.done j (by omega)
      refine ⟨cs', h1, hH _ _ _ _ _ _ _ h2 hk fun x hx hh => ?_, fun t v hv => hs _ (Or.inl ?_) _ (h3 t v hv)⟩
      · rcases List.mem_cons.1 hh with e' | e'
        · exact apart0 hn hx e'
        · exact e (apart hn hx e')
      · have ht : t < sz := by have := (List.getElem?_eq_some_iff.1 hv).1; omega
        have : (j + 1) * sz ≤ i * sz := Nat.mul_le_mul_right sz (by omega)
        rw [Nat.succ_mul] at this
        omega
theorem NI.finish {H : ElH} {sz : Nat} {w : World} {b off k n : Nat} {cnts : List Nat} {bss : List (List Nat)} (hl1 : cnts.length = n) (hl : bss.length = n) {wr : World} (h : NI H sz w b off k n cnts bss n wr) : KeptL (b :: bss.flatten) w wr ∧ NH H sz wr k b off n cnts bss := by
  refine ⟨?_, hl1, hl, h.done⟩
  have := h.kept
  rwa [List.take_of_length_le (by omega)] at this
theorem ShL.stay {S : ElS} (hS : StayS S) {sz : Nat} {w w' : World} {A : Option Addr} {n : Nat} {cnts bs bs' : List Nat} (h : ShL S sz w A n cnts bs) (hk : KeptL bs' w w') (hd : ∀ x ∈ bs, x ∉ bs') : ShL S sz w' A n cnts bs := by
  refine ⟨h.1, ?_⟩
  rcases h.2 with h0 | ⟨b, off, bss, rfl, rfl, hs⟩
  · exact Or.inl h0
  · refine Or.inr ⟨b, off, bss, rfl, rfl, hs.l1, hs.l2, hs.nodup, Nat.lt_of_lt_of_le hs.lt hk.size, fun o => (hk.frozen ⟨b, o, none⟩ hs.lt).trans (hs.fr o), fun i hi => ?_⟩
    obtain ⟨cs, h1, h2, h3⟩ := hs.el i hi
    exact ⟨cs, h1, hS _ _ _ _ _ _ h2 hk fun x hx => hd x (List.mem_cons_of_mem _ (mem_flatten_getD hx)), fun t v hv => hk.far (hd b (List.mem_cons_self ..)) (h3 t v hv)⟩
theorem HdL.stay {H : ElH} (hH : StayH H) {sz : Nat} {w w' : World} {k : Nat} {A : Option Addr} {n : Nat} {cnts bs bs' : List Nat} (h : HdL H sz w k A n cnts bs) (hk : KeptL bs' w w') (hd : ∀ x ∈ bs, x ∉ bs') : HdL H sz w' k A n cnts bs := by
  refine ⟨h.1, ?_⟩
  rcases h.2 with h0 | ⟨b, off, bss, rfl, rfl, hs⟩
  · exact Or.inl h0
  · refine Or.inr ⟨b, off, bss, rfl, rfl, hs.l1, hs.l2, fun i hi => ?_⟩
    obtain ⟨cs, h1, h2, h3⟩ := hs.el i hi
    exact ⟨cs, h1, hH _ _ _ _ _ _ _ h2 hk fun x hx => hd x (List.mem_cons_of_mem _ (mem_flatten_getD hx)), fun t v hv => hk.far (hd b (List.mem_cons_self ..)) (h3 t v hv)⟩
theorem HdL.below {H : ElH} (hH : StayH H) {sz : Nat} {w w' : World} {k : Nat} {A : Option Addr} {n : Nat} {cnts bs : List Nat} (h : HdL H sz w k A n cnts bs) (hk : Below w.heap.size w w') : HdL H sz w' k A n cnts bs :=
  h.stay hH (bs' := []) (KeptL.below hk) fun _ _ => List.not_mem_nil
structure NM (b lo hi : Nat) (bs : List Nat) (wr W : World) : Prop where
  kept : KeptL (b :: bs) wr W
  same : ∀ o, (o < lo ∨ hi ≤ o) → ∀ v, wr.cell? ⟨b, o, none⟩ = v → W.cell? ⟨b, o, none⟩ = v
theorem NM.refl (b lo hi : Nat) (bs : List Nat) (w : World) : NM b lo hi bs w w := ⟨KeptL.refl _ _, fun _ _ _ h => h⟩
theorem NM.turn {b lo hi : Nat} {bs l : List Nat} {wr W W' : World} (hb : b < wr.heap.size) (h : NM b lo hi bs wr W) (hk : KeptL l W W') (hl : ∀ x ∈ l, x ∈ bs) (hn : b ∉ bs) : NM b lo hi bs wr W' :=
  ⟨h.kept.trans (hk.mono fun x hx => List.mem_cons_of_mem _ (hl x hx)), fun o ho v hv => (World.cell?_of_block (w := W) (hk.block b (Nat.lt_of_lt_of_le hb h.kept.size) fun hh => hn (hl b hh))).trans (h.same o ho v hv)⟩
theorem NM.set {b lo hi : Nat} {bs : List Nat} {wr W : World} (h : NM b lo hi bs wr W) {p : Addr} {u : Value} {o : Nat} (hp : p = ⟨b, o, none⟩) (h1 : lo ≤ o) (h2 : o < hi) : NM b lo hi bs wr (W.setCell p u) := by
  subst hp
  exact ⟨h.kept.set (List.mem_cons_self ..), fun o' ho v hv => (World.cell?_setCell_other _ _ _ _ (by intro hh; simp only [Addr.mk.injEq] at hh; omega)).trans (h.same o' ho v hv)⟩
theorem ShL.walk {S : ElS} {H : ElH} (hS : StayS S) (hH : StayH H) {sz : Nat} {w : World} {A : Option Addr} {n : Nat} {cnts bs : List Nat} (h : ShL S sz w A n cnts bs) (k : Nat) :
    cnts.length = n ∧ ∃ P : Nat → World → Prop, P 0 w ∧
      (∀ i wr, i < n → P i wr → ∃ b off bs' cs, A = some ⟨b, off, none⟩ ∧ (∀ o, wr.frozen? ⟨b, o, none⟩ = false) ∧ b < wr.heap.size ∧ cs.length = sz ∧ S wr cs (cnts.getD i 0) bs' ∧ cellsAt wr b (off + i * sz) cs ∧ b ∉ bs' ∧
        ∀ W cs', NM b (off + i * sz) (off + (i + 1) * sz) bs' wr W → cs'.length = sz → H W (k + (cnts.take i).sum) cs' (cnts.getD i 0) bs' → cellsAt W b (off + i * sz) cs' → P (i + 1) W) ∧
      (∀ wr, P n wr → KeptL bs w wr ∧ HdL H sz wr k A n cnts bs) := by
  rcases h.2 with ⟨rfl, rfl, rfl⟩ | ⟨b, off, bss, rfl, rfl, hs⟩
  · exact ⟨rfl, fun _ wr => wr = w, rfl, fun i wr hi => by omega, fun wr e => by subst e; exact ⟨KeptL.refl _ _, Nat.zero_le _, Or.inl ⟨rfl, rfl, rfl⟩⟩⟩
  · refine ⟨hs.l1, NI H sz w b off k n cnts bss, NI.start .., fun i wr hi hI => ?_, fun wr hI => ?_⟩
    · obtain ⟨h1, h2, cs, h3, h4, h5⟩ := hI.elem hS hs hi
      exact ⟨b, off, bss.getD i [], cs, rfl, h2, h1, h3, h4, h5, fun hb => apart0 hs.nodup hb rfl, fun W cs' hk hc hM hcs => NI.step hH hs.l2 hs.nodup hI hi hk.kept hk.same cs' hc hM hcs⟩
    · obtain ⟨h1, h2⟩ := NI.finish hs.l1 hs.l2 hI
      exact ⟨h1, h.1, Or.inr ⟨b, off, bss, rfl, rfl, h2⟩⟩
theorem HdL.elem {H : ElH} {sz : Nat} {w : World} {k : Nat} {A : Option Addr} {n : Nat} {cnts bs : List Nat} (h : HdL H sz w k A n cnts bs) {i : Nat} (hi : i < n) :
    ∃ b off bs' cs, A = some ⟨b, off, none⟩ ∧ cs.length = sz ∧ H w (k + (cnts.take i).sum) cs (cnts.getD i 0) bs' ∧ cellsAt w b (off + i * sz) cs := by
  rcases h.2 with h0 | ⟨b, off, bss, rfl, rfl, hs⟩
  · omega
  · obtain ⟨cs, h1, h2, h3⟩ := hs.el i hi
    exact ⟨b, off, _, cs, rfl, h1, h2, h3⟩
theorem HdL.len {H : ElH} {sz : Nat} {w : World} {k : Nat} {A : Option Addr} {n : Nat} {cnts bs : List Nat} (h : HdL H sz w k A n cnts bs) : cnts.length = n := by
  rcases h.2 with ⟨rfl, rfl, -⟩ | ⟨b, off, bss, rfl, rfl, hs⟩
  · rfl
  · exact hs.l1
theorem sums_step {cnts : List Nat} {i n : Nat} (hl : cnts.length = n) (hi : i < n) : (cnts.take (i + 1)).sum = (cnts.take i).sum + cnts.getD i 0 ∧ (cnts.take i).sum + cnts.getD i 0 ≤ cnts.sum := by
  have h1 := sum_take_getD cnts i (by omega)
  have h2 := take_le_sum cnts (i + 1)
  omega
theorem sums_all {cnts : List Nat} {n : Nat} (hl : cnts.length = n) : (cnts.take n).sum = cnts.sum := by rw [List.take_of_length_le (by omega)]
end Go.Proofs.YtffnicoegnomeaaGreat
namespace Go.Proofs.YtffnicoegnomeaaGreat
open Go.RowKit
abbrev ElO (α : Type) := World → Nat → List Value → α → List Nat → Prop
structure GoodO {α : Type} (Ts : List TypeId) (sz : Nat) (E : ElO α) : Prop where
  len : ∀ {w base cs x bs}, E w base cs x bs → cs.length = sz
  one : ∀ {w base cs x bs}, E w base cs x bs → ∀ u ∈ cs, u.oneCell' = true
  typed : ∀ {w base cs x bs}, E w base cs x bs → ∀ b ∈ bs, base ≤ b ∧ ∃ cur U, w.heap[b]? = some (.cells cur U (0, 0)) ∧ U ∈ Ts
  nodup : ∀ {w base cs x bs}, E w base cs x bs → bs.Nodup
  dep : ∀ {w w' : World} {base cs x bs}, E w base cs x bs → (∀ b ∈ bs, w'.heap[b]? = w.heap[b]?) → E w' base cs x bs
  mono : ∀ {w base base' cs x bs}, E w base cs x bs → base' ≤ base → E w base' cs x bs
theorem ownsRow_dep {w w' : World} {base : Nat} {T : TypeId} {sz : Nat} {v : Value} {n : Nat} {xs : List Value} (h : w.ownsRow base T sz v n xs) (hd : ∀ k, v.ownBlock = some k → w'.heap[k]? = w.heap[k]?) : w'.ownsRow base T sz v n xs := by
  refine ⟨h.1, ?_⟩
  rcases h.2 with h | ⟨g, cap, cur, rfl, h1, h2, h3⟩
  · exact .inl h
  · exact .inr ⟨g, cap, cur, rfl, h1, (hd g rfl).trans h2, h3⟩
theorem ownsRow_mono {w : World} {base base' : Nat} {T : TypeId} {sz : Nat} {v : Value} {n : Nat} {xs : List Value} (h : w.ownsRow base T sz v n xs) (hb : base' ≤ base) : w.ownsRow base' T sz v n xs := by
  refine ⟨h.1, ?_⟩
  rcases h.2 with h | ⟨g, cap, cur, rfl, h1, h2⟩
  · exact .inl h
  · exact .inr ⟨g, cap, cur, rfl, Nat.le_trans hb h1, h2⟩
theorem ownsRow_typed {w : World} {base : Nat} {T : TypeId} {sz : Nat} {v : Value} {n : Nat} {xs : List Value} (h : w.ownsRow base T sz v n xs) {k : Nat} (hk : v.ownBlock = some k) : base ≤ k ∧ ∃ cur, w.heap[k]? = some (.cells cur T (0, 0)) := by
  rcases h.2 with ⟨rfl, -⟩ | ⟨g, cap, cur, rfl, h1, h2, -⟩
  · simp [Value.ownBlock] at hk
  · simp [Value.ownBlock] at hk
    subst hk
    exact ⟨h1, cur, h2⟩
theorem ownsRow_one {w : World} {base : Nat} {T : TypeId} {sz : Nat} {v : Value} {n : Nat} {xs : List Value} (h : w.ownsRow base T sz v n xs) : v.oneCell' = true := by
  rcases h.2 with ⟨rfl, -⟩ | ⟨g, cap, cur, rfl, -⟩ <;> rfl
def blkN (v : Value) : List Nat := v.ownBlock.toList
theorem nodup_blkN (v : Value) : (blkN v).Nodup := by
  have hs : ∀ a : Option Nat, a.toList.Nodup := fun a => by cases a <;> simp
  exact hs _
section
variable {α : Type} {Ts : List TypeId} {sz : Nat} {E : ElO α} {T : TypeId}
theorem GoodO.lt (G : GoodO Ts sz E) {w : World} {base : Nat} {cs : List Value} {x : α} {bs : List Nat} (h : E w base cs x bs) {b : Nat} (hb : b ∈ bs) : base ≤ b ∧ b < w.heap.size := by
  obtain ⟨h1, cur, U, h2, -⟩ := G.typed h b hb
  exact ⟨h1, lt_of_block h2⟩
theorem GoodO.below (G : GoodO Ts sz E) {w w' : World} {base : Nat} {cs : List Value} {x : α} {bs : List Nat} (h : E w base cs x bs) (hb : Below w.heap.size w w') : E w' base cs x bs :=
  G.dep h fun b hb' => hb.block b (G.lt h hb').2
structure OwnN (E : ElO α) (T : TypeId) (sz : Nat) (w : World) (base : Nat) (v : Value) (xs : List α) (css : List (List Value)) (bss : List (List Nat)) : Prop where
  l1 : css.length = xs.length
  l2 : bss.length = xs.length
  row : w.ownsRow base T sz v xs.length css.flatten
  el : ∀ i (hi : i < xs.length), E w base (css.getD i []) xs[i] (bss.getD i [])
  apart : bss.flatten.Nodup
def OwnL (E : ElO α) (T : TypeId) (sz : Nat) (w : World) (base : Nat) (v : Value) (xs : List α) : Prop := ∃ css bss, OwnN E T sz w base v xs css bss
theorem mem_flatten_iff {bss : List (List Nat)} {x : Nat} : x ∈ bss.flatten ↔ ∃ i, i < bss.length ∧ x ∈ bss.getD i [] := by
  constructor
  · intro h
    obtain ⟨l, hl, hx⟩ := List.mem_flatten.1 h
    obtain ⟨i, hi, rfl⟩ := List.mem_iff_getElem.1 hl
    exact ⟨i, hi, by rwa [List.getD_eq_getElem?_getD, List.getElem?_eq_getElem hi]⟩
  · rintro ⟨i, hi, h⟩
    exact mem_flatten_getD h
theorem OwnN.typed (G : GoodO Ts sz E) {w : World} {base : Nat} {v : Value} {xs : List α} {css : List (List Value)} {bss : List (List Nat)} (h : OwnN E T sz w base v xs css bss) {b : Nat} (hb : b ∈ bss.flatten) : base ≤ b ∧ ∃ cur U, w.heap[b]? = some (.cells cur U (0, 0)) ∧ U ∈ Ts := by
  obtain ⟨i, hi, hx⟩ := mem_flatten_iff.1 hb
  exact G.typed (h.el i (by rw [← h.l2]; exact hi)) b hx
theorem OwnN.lt (G : GoodO Ts sz E) {w : World} {base : Nat} {v : Value} {xs : List α} {css : List (List Value)} {bss : List (List Nat)} (h : OwnN E T sz w base v xs css bss) {b : Nat} (hb : b ∈ bss.flatten) : base ≤ b ∧ b < w.heap.size := by
  obtain ⟨h1, cur, U, h2, -⟩ := h.typed G hb
  exact ⟨h1, lt_of_block h2⟩
theorem OwnN.out (G : GoodO Ts sz E) (hT : T ∉ Ts) {w : World} {base : Nat} {v : Value} {xs : List α} {css : List (List Value)} {bss : List (List Nat)} (h : OwnN E T sz w base v xs css bss) {k : Nat} (hk : v.ownBlock = some k) : k ∉ bss.flatten := fun hb => by
  obtain ⟨-, cur, U, h2, h3⟩ := h.typed G hb
  obtain ⟨-, cur', h4⟩ := ownsRow_typed h.row hk
  rw [h2] at h4
  injection h4 with h4
  injection h4 with _ h5
  exact hT (h5 ▸ h3)
theorem OwnN.dep (G : GoodO Ts sz E) {w w' : World} {base : Nat} {v : Value} {xs : List α} {css : List (List Value)} {bss : List (List Nat)} (h : OwnN E T sz w base v xs css bss) (h1 : ∀ k, v.ownBlock = some k → w'.heap[k]? = w.heap[k]?) (h2 : ∀ b ∈ bss.flatten, w'.heap[b]? = w.heap[b]?) : OwnN E T sz w' base v xs css bss :=
  ⟨h.l1, h.l2, ownsRow_dep h.row h1, fun i hi => G.dep (h.el i hi) fun b hb => h2 b (mem_flatten_getD hb), h.apart⟩
theorem OwnN.below (G : GoodO Ts sz E) {w w' : World} {base : Nat} {v : Value} {xs : List α} {css : List (List Value)} {bss : List (List Nat)} (h : OwnN E T sz w base v xs css bss) (hb : Below w.heap.size w w') : OwnN E T sz w' base v xs css bss :=
  h.dep G (fun k hk => hb.block k (World.ownsRow.lt h.row k hk).2) fun b hb' => hb.block b (h.lt G hb').2
theorem OwnL.below (G : GoodO Ts sz E) {w w' : World} {base : Nat} {v : Value} {xs : List α} (h : OwnL E T sz w base v xs) (hb : Below w.heap.size w w') : OwnL E T sz w' base v xs := by
  obtain ⟨css, bss, h⟩ := h
  exact ⟨css, bss, h.below G hb⟩
theorem OwnL.nil (w : World) (base : Nat) : OwnL E T sz w base (.slice none 0 0) [] := ⟨[], [], rfl, rfl, World.ownsRow_nil _ _ _ _, fun i h => by simp at h, by simp⟩
theorem OwnL.lit (w : World) {base : Nat} (hb : base ≤ w.heap.size) : OwnL E T sz (w.alloc (.cells #[] T)) base (.slice (some ⟨w.heap.size, 0, none⟩) 0 0) [] :=
  ⟨[], [], rfl, rfl, ⟨by simp, .inr ⟨w.heap.size, 0, #[], rfl, hb, Go.heap_alloc_last w _, Nat.le_refl _, by simp [maxLen], by simp, by simp⟩⟩, fun i h => by simp at h, by simp⟩
theorem OwnN.app (G : GoodO Ts sz E) (hT : T ∉ Ts) {w w' : World} {base : Nat} {v v' : Value} {xs : List α} {css : List (List Value)} {bss : List (List Nat)} {x : α} {cs : List Value} {bs : List Nat} {o : Obj} (h : OwnN E T sz w base v xs css bss) (hE : E w base cs x bs) (hn : ∀ b ∈ bs, b ∉ bss.flatten)
    (h' : w'.ownsRow base T sz v' (xs.length + 1) (css.flatten ++ cs)) (hg : (w.alloc o).grownBy w' v.ownBlock) : OwnN E T sz w' base v' (xs ++ [x]) (css ++ [cs]) (bss ++ [bs]) := by
  have hal : ∀ b, b < w.heap.size → some b ≠ v.ownBlock → w'.heap[b]? = w.heap[b]? := fun b hb ho =>
    (hg.block b (by simp; omega) ho).trans (((Below.refl w.heap.size w).alloc (Nat.le_refl _) o).block b hb)
  have hne : ∀ b ∈ bs, some b ≠ v.ownBlock := fun b hb e => by
    obtain ⟨-, cur, U, h2, h3⟩ := G.typed hE b hb
    obtain ⟨-, cur', h4⟩ := ownsRow_typed h.row e.symm
    rw [h2] at h4
    injection h4 with h4
    injection h4 with _ h5
    exact hT (h5 ▸ h3)
  refine ⟨by simp [h.l1], by simp [h.l2], by rw [List.length_append, List.flatten_append]; simpa using h', fun i hi => ?_, ?_⟩
  · by_cases e : i < xs.length
    · rw [List.getD_eq_getElem?_getD, List.getD_eq_getElem?_getD, List.getElem?_append_left (by rw [h.l1]; exact e), List.getElem?_append_left (by rw [h.l2]; exact e), List.getElem_append_left e, ← List.getD_eq_getElem?_getD, ← List.getD_eq_getElem?_getD]
      refine G.dep (h.el i e) fun b hb => hal b (G.lt (h.el i e) hb).2 fun e' => ?_
      exact h.out G hT e'.symm (mem_flatten_getD hb)
    · simp only [List.length_append, List.length_cons, List.length_nil] at hi
      obtain rfl : i = xs.length := by omega
      rw [List.getD_eq_getElem?_getD, List.getD_eq_getElem?_getD, List.getElem?_append_right (by rw [h.l1]; exact Nat.le_refl _), List.getElem?_append_right (by rw [h.l2]; exact Nat.le_refl _), List.getElem_append_right (Nat.le_refl _)]
      simp only [h.l1, h.l2, Nat.sub_self]
      exact G.dep hE fun b hb => hal b (G.lt hE hb).2 (hne b hb)
  · rw [List.flatten_append]
    refine List.nodup_append.2 ⟨h.apart, by simpa using G.nodup hE, fun a ha b hb => ?_⟩
    rintro rfl
    exact hn a (by simpa using hb) ha
theorem OwnN.fresh (G : GoodO Ts sz E) {w : World} {base : Nat} {v : Value} {xs : List α} {css : List (List Value)} {bss : List (List Nat)} (h : OwnN E T sz w base v xs css bss) {bs : List Nat} (hb : ∀ b ∈ bs, w.heap.size ≤ b) : ∀ b ∈ bs, b ∉ bss.flatten := fun b hb' hh => by
  have h1 := (h.lt G hh).2
  have h2 := hb b hb'
  omega
theorem OwnN.cells (G : GoodO Ts sz E) {w : World} {base : Nat} {v : Value} {xs : List α} {css : List (List Value)} {bss : List (List Nat)} (h : OwnN E T sz w base v xs css bss) :
    (v = .slice none 0 0 ∧ xs = []) ∨ ∃ g c, v = .slice (some ⟨g, 0, none⟩) xs.length c ∧ xs.length ≤ c ∧ c ≤ maxLen ∧ base ≤ g ∧ g < w.heap.size ∧ (∀ off, w.frozen? ⟨g, off, none⟩ = false) ∧ ∀ i, i < xs.length → (css.getD i []).length = sz ∧ cellsAt w g (0 + i * sz) (css.getD i []) := by
  have hz : ∀ c ∈ css, c.length = sz := fun c hc => by
    obtain ⟨i, hi, rfl⟩ := List.mem_iff_getElem.1 hc
    have := G.len (h.el i (by rw [← h.l1]; exact hi))
    rwa [List.getD_eq_getElem?_getD, List.getElem?_eq_getElem hi] at this
  rcases h.row.2 with ⟨rfl, hn⟩ | ⟨g, cap, cur, rfl, h1, h2, h3, h4, h5, h6⟩
  · exact Or.inl ⟨rfl, List.length_eq_zero_iff.1 hn⟩
  · refine Or.inr ⟨g, cap, rfl, h3, h4, h1, lt_of_block h2, fun off => by simp [World.frozen?, h2], fun i hi => ⟨G.len (h.el i hi), fun t u hu => ?_⟩⟩
    have hi' : i < css.length := by rw [h.l1]; exact hi
    rw [List.getD_eq_getElem?_getD, List.getElem?_eq_getElem hi'] at hu
    have ht : t < sz := by have := (List.getElem?_eq_some_iff.1 hu).1; have h9 := hz _ (List.getElem_mem hi'); simp at this; omega
    have h7 := flat_get css i t hi' ht hz
    have hlt : i * sz + t < xs.length * sz := by
      have : (i + 1) * sz ≤ xs.length * sz := Nat.mul_le_mul_right sz (by omega)
      rw [Nat.succ_mul] at this
      omega
    rw [show css[i][t]? = some u from hu, ← h6, List.getElem?_take, if_pos hlt] at h7
    rw [cell_of_row _ _ _ _ _ _ h2, Nat.zero_add, ← Array.getElem?_toList]
    exact h7
theorem OwnL.sl (G : GoodO Ts sz E) {R : Rd α} {w : World} {base : Nat} {v : Value} {xs : List α} (h : OwnL E T sz w base v xs) (hR : ∀ cs x bs, E w base cs x bs → R (okF base w) w cs x) : ∃ A c, v = .slice A xs.length c ∧ xs.length ≤ c ∧ c ≤ maxLen ∧ Sl R sz (okF base w) w A xs.length xs := by
  obtain ⟨css, bss, h⟩ := h
  rcases h.cells G with ⟨rfl, rfl⟩ | ⟨g, c, rfl, h1, h2, h3, h4, h5, h6⟩
  · exact ⟨none, 0, rfl, Nat.le_refl _, by simp [maxLen], rfl, fun hn => by simp at hn⟩
  · refine ⟨_, c, rfl, h1, h2, rfl, fun hn => ⟨g, 0, rfl, ⟨h3, h4, h5⟩, fun i hi => ?_⟩⟩
    obtain ⟨h7, h8⟩ := h6 i hi
    exact ⟨_, h7, hR _ _ _ (h.el i hi), h8⟩
theorem OwnL.sh (G : GoodO Ts sz E) (hT : T ∉ Ts) {S : ElS} {cnt : α → Nat} {w : World} {base : Nat} {v : Value} {xs : List α} (h : OwnL E T sz w base v xs) (hn : xs.length ≤ 1048576) (hS : ∀ cs x bs, x ∈ xs → E w base cs x bs → S w cs (cnt x) bs) :
    ∃ A c bs, v = .slice A xs.length c ∧ ShL S sz w A xs.length (xs.map cnt) bs ∧ ∀ b ∈ bs, base ≤ b := by
  obtain ⟨css, bss, h⟩ := h
  rcases h.cells G with ⟨rfl, rfl⟩ | ⟨g, c, rfl, h1, h2, h3, h4, h5, h6⟩
  · exact ⟨none, 0, [], rfl, ⟨hn, Or.inl ⟨rfl, rfl, rfl⟩⟩, fun b hb => by simp at hb⟩
  · refine ⟨_, c, g :: bss.flatten, rfl, ⟨hn, Or.inr ⟨g, 0, bss, rfl, rfl, by simp, h.l2, List.nodup_cons.2 ⟨h.out G hT rfl, h.apart⟩, h4, h5, fun i hi => ?_⟩⟩, fun b hb => ?_⟩
    · obtain ⟨h7, h8⟩ := h6 i hi
      refine ⟨_, h7, ?_, h8⟩
      rw [List.getD_eq_getElem?_getD (l := xs.map cnt), List.getElem?_map, List.getElem?_eq_getElem hi]
      exact hS _ _ _ (List.getElem_mem hi) (h.el i hi)
    · rcases List.mem_cons.1 hb with rfl | hb
      · exact h3
      · exact (h.lt G hb).1
end
end Go.Proofs.YtffnicoegnomeaaGreat
namespace Go.Proofs.YtffnicoegnomeaaGreat
open Go.RowKit
theorem marksOVal (A : Option Addr) (n c k : Nat) (bs : List Nat) (w : World) (h : FlS 3 w A n bs) (hk : k + n * 3 ≤ 1073741824) {x : Int} (hx : x = k) :
    Calls Tryz.prog 19 #[.slice A n c, .int .i64 x] w fun e w' => e = .returned (.int .i64 ((k + n * 3 : Nat) : Int)) ∧ KeptL bs w w' ∧ FlH mkXVal 3 w' k A n bs := by
  obtain ⟨hn, B, E, ms, h1, h2, h3, h4⟩ := h.pick mkXVal k
  exact (marksXValL A n c ms _ B E k w h1 h2 hk hn hx).mono (fun e w' ⟨he, hK, hM⟩ => ⟨he, h3 w' hK, h4 w' hM⟩)
theorem heldOVal (A : Option Addr) (n c k : Nat) (bs : List Nat) (w : World) (h : FlH mkXVal 3 w k A n bs) (hk : k + n * 3 ≤ 1073741824) {x : Int} (hx : x = k) :
    Calls Tryz.prog 70 #[.slice A n c, .int .i64 x] w fun e w' => e = .returned (.int .i64 ((k + n * 3 : Nat) : Int)) ∧ Below w.heap.size w w' :=
  heldXValL A n c k w h.mk hk h.1 hx
def OwnK (w : World) (base : Nat) (v : Value) (xs : List Vl) : Prop := OwnG 87 3 Vl.cells w base v xs
def blk (v : Value) : List Nat := v.ownBlock.toList
theorem OwnK.fls {w : World} {base : Nat} {v : Value} {xs : List Vl} (h : OwnK w base v xs) (hn : xs.length ≤ 1048576) : ∃ A c, v = .slice A xs.length c ∧ FlS 3 w A xs.length (blk v) := by
  obtain ⟨A, c, rfl, k1, k2, k3⟩ := OwnG.sl (f := Vl.cells) (sz := 3) (fun _ => rfl) h
  refine ⟨A, c, rfl, ?_, hn, fun b hb => ?_, xs.map fun _ => 3, ?_⟩
  · cases A <;> simp [blk, Value.ownBlock]
  · cases A with
    | none => simp [blk, Value.ownBlock] at hb
    | some a =>
      rcases h.2 with ⟨e, -⟩ | ⟨g, cap, cur, e, h1, h2, -⟩
      · cases e
      · cases e
        obtain rfl : b = g := by simpa [blk, Value.ownBlock] using hb
        exact ⟨lt_of_block h2, fun off => by simp [World.frozen?, h2]⟩
  · have k4 : Sl VlR 3 (· ∈ blk (.slice A xs.length c)) w A xs.length xs := ⟨rfl, fun hn => by
      obtain ⟨b, off, e, -, hi⟩ := k3.2 hn
      subst e
      exact ⟨b, off, rfl, by simp [blk, Value.ownBlock], fun i hlt => hi i hlt⟩⟩
    exact Sl.toSh k4 Vl.toSh fun _ _ => trivial
theorem infoChC : (Tryz.prog.info? 120).map (fun i => (i.zero, i.size, i.bytes)) = some (some (.agg #[.int .i64 0, .int .i64 0, .slice none 0 0, .slice none 0 0]), 4, 64) := by kernel_rfl
theorem OwnK.dep {w w' : World} {base : Nat} {v : Value} {xs : List Vl} (h : OwnK w base v xs) (hd : ∀ b ∈ blk v, w'.heap[b]? = w.heap[b]?) : OwnK w' base v xs := ownsRow_dep h fun k hk => hd k (by simp [blk, hk])
def ChO : ElO Ch := fun w base cs x bs => ∃ v1 v2, cs = [.int .i64 x.table, .int .i64 x.id, v1, v2] ∧ OwnK w base v1 x.old ∧ OwnK w base v2 x.now ∧ bs = blk v1 ++ blk v2 ∧ bs.Nodup
theorem OwnK.oneCell {w : World} {base : Nat} {v : Value} {xs : List Vl} (h : OwnK w base v xs) : v.oneCell' = true := ownsRow_one h
theorem OwnK.lower {w : World} {base base' : Nat} {v : Value} {xs : List Vl} (h : OwnK w base v xs) (hb : base' ≤ base) : OwnK w base' v xs := ownsRow_mono h hb
theorem ChO.good : GoodO [87] 4 ChO where
  len := fun ⟨_, _, e, _⟩ => by rw [e]; rfl
  one := fun ⟨v1, v2, e, h1, h2, _⟩ u hu => by
    rw [e] at hu
    simp at hu
    rcases hu with rfl | rfl | rfl | rfl
    · rfl
    · rfl
    · exact h1.oneCell
    · exact h2.oneCell
  typed := fun ⟨v1, v2, e, h1, h2, e2, _⟩ b hb => by
    rw [e2] at hb
    rcases List.mem_append.1 hb with h | h
    · obtain ⟨k1, cur, k2⟩ := ownsRow_typed h1 (k := b) (by simpa [blk] using h)
      exact ⟨k1, cur, _, k2, by simp⟩
    · obtain ⟨k1, cur, k2⟩ := ownsRow_typed h2 (k := b) (by simpa [blk] using h)
      exact ⟨k1, cur, _, k2, by simp⟩
  nodup := fun ⟨_, _, _, _, _, _, h⟩ => h
  dep := fun ⟨v1, v2, e, h1, h2, e2, h3⟩ hd => ⟨v1, v2, e, h1.dep fun b hb => hd b (by rw [e2]; exact List.mem_append_left _ hb), h2.dep fun b hb => hd b (by rw [e2]; exact List.mem_append_right _ hb), e2, h3⟩
  mono := fun ⟨v1, v2, e, h1, h2, e2, h3⟩ hb => ⟨v1, v2, e, h1.lower hb, h2.lower hb, e2, h3⟩
abbrev OwnC (w : World) (base : Nat) (v : Value) (xs : List Ch) : Prop := OwnL ChO 120 4 w base v xs
theorem ChO.out : 120 ∉ ([87] : List TypeId) := by decide
def Ch.marks (x : Ch) : Nat := 2 + x.old.length * 3 + x.now.length * 3
def ChS : ElS := fun w cs cnt bs => ∃ x y A n c B m d bs1 bs2, cs = [.int .i64 x, .int .i64 y, .slice A n c, .slice B m d] ∧ cnt = 2 + n * 3 + m * 3 ∧ bs = bs1 ++ bs2 ∧ (∀ b ∈ bs1, b ∉ bs2) ∧ FlS 3 w A n bs1 ∧ FlS 3 w B m bs2
def ChH : ElH := fun w k cs cnt bs => ∃ A n c B m d bs1 bs2, cs = [.int .i64 (k : Nat), .int .i64 ((k + 1 : Nat) : Int), .slice A n c, .slice B m d] ∧ cnt = 2 + n * 3 + m * 3 ∧ bs = bs1 ++ bs2 ∧ FlH mkXVal 3 w (k + 2) A n bs1 ∧ FlH mkXVal 3 w (k + 2 + n * 3) B m bs2
theorem ChS.stay : StayS ChS := fun w w' cs cnt bs bs' ⟨x, y, A, n, c, B, m, d, b1, b2, e, e', e2, hd, h1, h2⟩ hk hb =>
  ⟨x, y, A, n, c, B, m, d, b1, b2, e, e', e2, hd, h1.stay hk fun z hz => hb z (by rw [e2]; exact List.mem_append_left _ hz), h2.stay hk fun z hz => hb z (by rw [e2]; exact List.mem_append_right _ hz)⟩
theorem ChH.stay : StayH ChH := fun w w' k cs cnt bs bs' ⟨A, n, c, B, m, d, b1, b2, e, e', e2, h1, h2⟩ hk hb =>
  ⟨A, n, c, B, m, d, b1, b2, e, e', e2, h1.stay hk fun z hz => hb z (by rw [e2]; exact List.mem_append_left _ hz), h2.stay hk fun z hz => hb z (by rw [e2]; exact List.mem_append_right _ hz)⟩
theorem ChO.toR {w : World} {base : Nat} {cs : List Value} {x : Ch} {bs : List Nat} (h : ChO w base cs x bs) : ChR (okF base w) w cs x := by
  obtain ⟨v1, v2, rfl, h1, h2, -⟩ := h
  obtain ⟨A, c, rfl, k1, k2, k3⟩ := OwnG.sl (f := Vl.cells) (sz := 3) (fun _ => rfl) h1
  obtain ⟨B, d, rfl, l1, l2, l3⟩ := OwnG.sl (f := Vl.cells) (sz := 3) (fun _ => rfl) h2
  exact ⟨A, _, c, B, _, d, rfl, k3, l3, k1, l1⟩
theorem ChO.toS {w : World} {base : Nat} {cs : List Value} {x : Ch} {bs : List Nat} (h : ChO w base cs x bs) (n1 : x.old.length ≤ 1048576) (n2 : x.now.length ≤ 1048576) : ChS w cs x.marks bs := by
  obtain ⟨v1, v2, rfl, h1, h2, rfl, h3⟩ := h
  obtain ⟨A, c, rfl, k1⟩ := OwnK.fls h1 n1
  obtain ⟨B, d, rfl, l1⟩ := OwnK.fls h2 n2
  exact ⟨_, _, A, _, c, B, _, d, _, _, rfl, rfl, rfl, fun b hb hb' => (List.nodup_append.1 h3).2.2 b hb b hb' rfl, k1, l1⟩
set_option maxRecDepth 100000 in
set_option maxHeartbeats 1000000 in
theorem marksOChL (A : Option Addr) (n c : Nat) (cnts bs : List Nat) (k : Nat) (w : World) (h : ShL ChS 4 w A n cnts bs) (hk : k + cnts.sum ≤ 1073741824) {x : Int} (hx : x = k) :
    Calls Tryz.prog 29 #[.slice A n c, .int .i64 x] w fun e w' => e = .returned (.int .i64 ((k + cnts.sum : Nat) : Int)) ∧ KeptL bs w w' ∧ HdL ChH 4 w' k A n cnts bs := by
  have hn := h.1
  obtain ⟨hl, P, hP0, hP, hPn⟩ := h.walk ChS.stay ChH.stay k
  subst hx
  clear h
  go_enter Tryz.func29, Tryz.ntmps29
  go_wp2_with fail
  go_loopw [1, 5] (fun m i wr => ∃ (j : Nat), j ≤ n ∧ i = .int .i64 j ∧ m = .int .i64 ((k + (cnts.take j).sum : Nat) : Int) ∧ Hid (P j wr)) (fun _ i _ => n - (intOf i).toNat)
  case atStart => exact ⟨0, by omega, rfl, by simp, Lib.hid hP0⟩
  case round =>
    obtain ⟨i, hi, rfl, rfl, hI⟩ := hrel
    by_cases hlt : i < n
    · obtain ⟨b, off, bs', cs, rfl, hfr, hbs, hcl, ⟨x1, y1, A1, n1, c1, A2, n2, c2, b1, b2, rfl, hcn, rfl, hdj, hS1, hS2⟩, hat, hb, hnext⟩ := hP i wr hlt hI.out
      have q0 : wr.cell? ⟨b, off + i * 4, none⟩ = some (.int .i64 x1) := hat 0 _ rfl
      have q1 : wr.cell? ⟨b, off + i * 4 + 1, none⟩ = some (.int .i64 y1) := hat 1 _ rfl
      have q2 : wr.cell? ⟨b, off + i * 4 + 2, none⟩ = some (.slice A1 n1 c1) := hat 2 _ rfl
      have q3 : wr.cell? ⟨b, off + i * 4 + 3, none⟩ = some (.slice A2 n2 c2) := hat 3 _ rfl
      have f0 := hfr (off + i * 4)
      have f1 := hfr (off + i * 4 + 1)
      obtain ⟨hs1, hs2⟩ := sums_step hl hlt
      have HN := Lib.hid hnext
      have HF := Lib.hid hfr
      generalize hkk : (cnts.take i).sum = s at *
      generalize hcc : cnts.getD i 0 = cn at *
      subst hcn
      have i0 : (0 : Int) ≤ i := by omega
      have i1 : (i : Int) < n := by omega
      have hbb1 : b ∉ b1 := fun h => hb (List.mem_append_left _ h)
      have hbb2 : b ∉ b2 := fun h => hb (List.mem_append_right _ h)
      have hs3 : k + s + (2 + n1 * 3 + n2 * 3) ≤ 1073741824 := by omega
      clear hnext hfr hat hP hPn hI
      have hK0 : KeptL [b] wr ((wr.setCell ⟨b, off + i * 4, none⟩ (.int .i64 ((k : Int) + s))).setCell ⟨b, off + i * 4 + 1, none⟩ (.int .i64 ((k : Int) + s + 1))) := ((KeptL.refl [b] wr).set (p := ⟨b, off + i * 4, none⟩) (List.mem_singleton.2 rfl)).set (p := ⟨b, off + i * 4 + 1, none⟩) (List.mem_singleton.2 rfl)
      have HM0 := Lib.hid (show NM b (off + i * 4) (off + (i + 1) * 4) (b1 ++ b2) wr ((wr.setCell ⟨b, off + i * 4, none⟩ (.int .i64 ((k : Int) + s))).setCell ⟨b, off + i * 4 + 1, none⟩ (.int .i64 ((k : Int) + s + 1))) from ((NM.refl _ _ _ _ _).set (o := off + i * 4) rfl (by omega) (by omega)).set (o := off + i * 4 + 1) rfl (by omega) (by omega))
      have hS1' := hS1.stay hK0 (fun z hz hh => hbb1 (List.mem_singleton.1 hh ▸ hz))
      have hS2' := hS2.stay hK0 (fun z hz hh => hbb2 (List.mem_singleton.1 hh ▸ hz))
      have z0 : ((wr.setCell ⟨b, off + i * 4, none⟩ (.int .i64 ((k : Int) + s))).setCell ⟨b, off + i * 4 + 1, none⟩ (.int .i64 ((k : Int) + s + 1))).cell? ⟨b, off + i * 4, none⟩ = some (.int .i64 ((k : Int) + s)) := (World.cell?_setCell_other _ _ _ _ (by intro hh; simp only [Addr.mk.injEq] at hh; omega)).trans (World.cell?_setCell_same _ _ _ q0)
      have z1 : ((wr.setCell ⟨b, off + i * 4, none⟩ (.int .i64 ((k : Int) + s))).setCell ⟨b, off + i * 4 + 1, none⟩ (.int .i64 ((k : Int) + s + 1))).cell? ⟨b, off + i * 4 + 1, none⟩ = some (.int .i64 ((k : Int) + s + 1)) := World.cell?_setCell_same _ _ _ ((World.cell?_setCell_other _ _ _ _ (by intro hh; simp only [Addr.mk.injEq] at hh; omega)).trans q1)
      have z2 : ((wr.setCell ⟨b, off + i * 4, none⟩ (.int .i64 ((k : Int) + s))).setCell ⟨b, off + i * 4 + 1, none⟩ (.int .i64 ((k : Int) + s + 1))).cell? ⟨b, off + i * 4 + 2, none⟩ = some (.slice A1 n1 c1) := (World.cell?_setCell_other _ _ _ _ (by intro hh; simp only [Addr.mk.injEq] at hh; omega)).trans ((World.cell?_setCell_other _ _ _ _ (by intro hh; simp only [Addr.mk.injEq] at hh; omega)).trans q2)
      have z3 : ((wr.setCell ⟨b, off + i * 4, none⟩ (.int .i64 ((k : Int) + s))).setCell ⟨b, off + i * 4 + 1, none⟩ (.int .i64 ((k : Int) + s + 1))).cell? ⟨b, off + i * 4 + 3, none⟩ = some (.slice A2 n2 c2) := (World.cell?_setCell_other _ _ _ _ (by intro hh; simp only [Addr.mk.injEq] at hh; omega)).trans ((World.cell?_setCell_other _ _ _ _ (by intro hh; simp only [Addr.mk.injEq] at hh; omega)).trans q3)
      have HBS := Lib.hid (show b < ((wr.setCell ⟨b, off + i * 4, none⟩ (.int .i64 ((k : Int) + s))).setCell ⟨b, off + i * 4 + 1, none⟩ (.int .i64 ((k : Int) + s + 1))).heap.size from Nat.lt_of_lt_of_le hbs hK0.size)
      have HZ0 := Lib.hid z0
      have HZ1 := Lib.hid z1
      have HZ2 := Lib.hid z2
      have HZ3 := Lib.hid z3
      have HS1 := Lib.hid hS1'
      have HS2 := Lib.hid hS2'
      clear hK0 z0 z1 hS1' hS2' hS1 hS2
      go_wp2_with fail
      generalize ((wr.setCell ⟨b, off + i * 4, none⟩ (.int .i64 ((k : Int) + s))).setCell ⟨b, off + i * 4 + 1, none⟩ (.int .i64 ((k : Int) + s + 1))) = y0 at *
      refine (marksOVal A1 n1 c1 (k + s + 2) b1 _ HS1.out (by omega) (by omega)).mono ?_
      rintro e w1 ⟨rfl, hk1, hM1⟩
      have z3' := hk1.far hbb1 HZ3.out
      have HS3 := Lib.hid (HS2.out.stay hk1 fun z hz hh => hdj z hh hz)
      have HK1 := Lib.hid hk1
      have HM1 := Lib.hid hM1
      clear z2 z3 hk1 hM1 q0 q1 q2 q3
      go_wp2_with fail
      refine (marksOVal A2 n2 c2 (k + s + 2 + n1 * 3) b2 _ HS3.out (by omega) (by omega)).mono ?_
      rintro e w2 ⟨rfl, hk2, hM2⟩
      have HK2 := Lib.hid hk2
      have HM2 := Lib.hid hM2
      clear z3' hk2 hM2
      go_wp2_with fail
      go_roundw
      case rel =>
        refine ⟨i + 1, by omega, by go_num, by rw [hs1]; exact congrArg (Value.int .i64) (by omega), Lib.hid ?_⟩
        refine HN.out _ [.int .i64 ((k : Int) + s), .int .i64 ((k : Int) + s + 1), .slice A1 n1 c1, .slice A2 n2 c2] (NM.turn hbs (NM.turn hbs HM0.out HK1.out (fun _ h => List.mem_append_left _ h) hb) HK2.out (fun _ h => List.mem_append_right _ h) hb) rfl ⟨A1, n1, c1, A2, n2, c2, b1, b2, by simp, rfl, rfl, HM1.out.stay HK2.out hdj, HM2.out⟩ ?_
        intro t v hv
        match t, hv with
        | 0, hv => cases hv; exact HK2.out.far hbb2 (HK1.out.far hbb1 HZ0.out)
        | 1, hv => cases hv; exact HK2.out.far hbb2 (HK1.out.far hbb1 HZ1.out)
        | 2, hv => cases hv; exact HK2.out.far hbb2 (HK1.out.far hbb1 HZ2.out)
        | 3, hv => cases hv; exact HK2.out.far hbb2 (HK1.out.far hbb1 HZ3.out)
      case measure => simp [intOf]; omega
    · obtain rfl : i = n := by omega
      have hR := hPn _ hI.out
      rw [sums_all hl]
      go_wp2_with fail
      go_ret
      exact ⟨rfl, hR.1, hR.2⟩
set_option maxRecDepth 100000 in
set_option maxHeartbeats 1000000 in
theorem heldOChL (A : Option Addr) (n c : Nat) (cnts bs : List Nat) (k : Nat) (w : World) (h : HdL ChH 4 w k A n cnts bs) (hk : k + cnts.sum ≤ 1073741824) {x : Int} (hx : x = k) :
    Calls Tryz.prog 30 #[.slice A n c, .int .i64 x] w fun e w' => e = .returned (.int .i64 ((k + cnts.sum : Nat) : Int)) ∧ Below w.heap.size w w' := by
  have hn := h.1
  have hl := h.len
  subst hx
  have HH := Lib.hid h
  clear h
  go_enter Tryz.func30, Tryz.ntmps30
  go_wp2_with fail
  go_loopw [1, 5] (fun m i wr => ∃ (j : Nat), j ≤ n ∧ i = .int .i64 j ∧ m = .int .i64 ((k + (cnts.take j).sum : Nat) : Int) ∧ Below w.heap.size w wr) (fun _ i _ => n - (intOf i).toNat)
  case atStart => exact ⟨0, by omega, rfl, by simp, Below.refl _ _⟩
  case round =>
    obtain ⟨i, hi, rfl, rfl, hb⟩ := hrel
    by_cases hlt : i < n
    · obtain ⟨b, off, bs', cs, rfl, hcl, ⟨A1, n1, c1, A2, n2, c2, b1, b2, rfl, hcn, -, hS1, hS2⟩, hat⟩ := (HH.out.below ChH.stay hb).elem hlt
      have q0 : wr.cell? ⟨b, off + i * 4, none⟩ = some (.int .i64 ((k + (cnts.take i).sum : Nat) : Int)) := hat 0 _ rfl
      have q1 : wr.cell? ⟨b, off + i * 4 + 1, none⟩ = some (.int .i64 ((k + (cnts.take i).sum + 1 : Nat) : Int)) := hat 1 _ rfl
      have q2 : wr.cell? ⟨b, off + i * 4 + 2, none⟩ = some (.slice A1 n1 c1) := hat 2 _ rfl
      have q3 : wr.cell? ⟨b, off + i * 4 + 3, none⟩ = some (.slice A2 n2 c2) := hat 3 _ rfl
      obtain ⟨hs1, hs2⟩ := sums_step hl hlt
      generalize hkk : (cnts.take i).sum = s at *
      generalize hcc : cnts.getD i 0 = cn at *
      subst hcn
      have i0 : (0 : Int) ≤ i := by omega
      have i1 : (i : Int) < n := by omega
      have hle : k + s + (2 + n1 * 3 + n2 * 3) ≤ 1073741824 := by omega
      clear hat
      go_wp2_with fail
      refine (heldOVal A1 n1 c1 (k + s + 2) b1 _ hS1 (by omega) (by omega)).mono ?_
      rintro e w1 ⟨rfl, hb1⟩
      have q3' := below_keep hb1 _ _ q3
      have h0 : ¬ (((k + s + 2 + n1 * 3 : Nat) : Int) < 0) := by omega
      have hS2' : FlH mkXVal 3 w1 (k + s + 2 + n1 * 3) A2 n2 b2 := hS2.stay (bs' := []) (KeptL.below hb1) fun _ _ => List.not_mem_nil
      clear q0 q1 q2 q3
      go_wp2_with fail
      refine (heldOVal A2 n2 c2 (k + s + 2 + n1 * 3) b2 _ hS2' (by omega) (by omega)).mono ?_
      rintro e w2 ⟨rfl, hb2⟩
      have h1 : ¬ (((k + s + 2 + n1 * 3 + n2 * 3 : Nat) : Int) < 0) := by omega
      clear q3'
      go_wp2_with fail
      go_roundw
      case rel => exact ⟨i + 1, by omega, by go_num, by rw [hs1]; exact congrArg (Value.int .i64) (by omega), (hb.trans (hb1.mono hb.size)).trans (hb2.mono (by have h2 := hb.size; have h3 := hb1.size; omega))⟩
      case measure => simp [intOf]; omega
    · obtain rfl : i = n := by omega
      rw [sums_all hl]
      go_wp2_with fail
      go_ret
      exact ⟨rfl, hb⟩
end Go.Proofs.YtffnicoegnomeaaGreat
namespace Go.Proofs.YtffnicoegnomeaaGreat
open Go.RowKit
theorem infoValC : (Tryz.prog.info? 87).map (fun i => (i.zero, i.size, i.bytes)) = some (some (.agg #[.int .i64 0, .int .i64 0, .string ⟨#[]⟩]), 3, 32) := by kernel_rfl
section
variable {P : Program} {w : World}
theorem run_append_own_0 (base : Nat) (t ty e : TypeId) (i : TypeInfo) (size : Nat) (ht : P.underlying t = some (.slice e)) (hi : P.info? e = some i)
    (v : Value) (n : Nat) (xs : List Value) (hown : w.ownsRow base e size v n xs) (c : Nat) :
    (Builtin.append_ #[t, t] ty #[v, .slice none 0 c]).run P w = .ok v w := by
  rcases hown.2 with ⟨rfl, rfl⟩ | ⟨g, cap, cur, rfl, _, _, hnc, _⟩
  · simp [Builtin.append_, run_underlying ht, sizeOf, typeInfo, hi, Builtin.lenOf, Builtin.firstCells]
  · simp [Builtin.append_, run_underlying ht, sizeOf, typeInfo, hi, Builtin.lenOf, Builtin.firstCells, hnc, storeCells]
theorem wpList_append_own_0 {ops : Array Oper} {rest : List Oper} {o : Oper} {a : Act} {Q : Exit → Act → World → Prop} (hgd : o.guard = none) (s x : Operand) (t : TypeId)
    (ho : o.op = .call { callee := .builtin .append, args := #[s, x], argTypes := #[t, t] })
    (base : Nat) (e : TypeId) (i : TypeInfo) (size : Nat) (ht : P.underlying t = some (.slice e)) (hi : P.info? e = some i)
    (v : Value) (n : Nat) (xs : List Value) (hs : a.eval s = v) (hown : w.ownsRow base e size v n xs) (c : Nat) (hx : a.eval x = .slice none 0 c)
    (h : wpList P ops Q rest (a.put o.dst v) w) : wpList P ops Q (o :: rest) a w := by
  refine wpList_plain hgd fun K hK => ?_
  have hrun := run_append_own_0 (P := P) (w := w) base t o.type e i size ht hi v n xs hown c
  unfold Oper.wp
  simp [execOp, ho, resolve, invoke, builtin, hs, hx, hrun, Result.andThen]
  exact hK _ _ h
end
theorem Sl.flat_cells {α : Type} {f : α → List Value} {sz : Nat} (hz : 0 < sz) (hf : ∀ d, (f d).length = sz) {ok : Nat → Prop} {w : World} {ad : Addr} {n : Nat} {xs : List α} (h : Sl (FlatR f) sz ok w (some ad) n xs) :
    ∀ j u, ((xs.map f).flatten)[j]? = some u → w.cell? (ad.add j) = some u := fun j u hj => by
  have hl := flat_len (sz := sz) (xs.map f) (fun c hc => by obtain ⟨d, _, rfl⟩ := List.mem_map.1 hc; exact hf d)
  have hjl := (List.getElem?_eq_some_iff.1 hj).1
  rw [hl, List.length_map] at hjl
  have hlen := h.1
  obtain ⟨b, off, e, hb, hi⟩ := h.2 (by rcases Nat.eq_zero_or_pos n with h0 | h0; · rw [hlen, h0] at hjl; omega
                                        · exact h0)
  cases e
  have hdiv : j / sz < xs.length := Nat.div_lt_of_lt_mul (by rw [Nat.mul_comm]; exact hjl)
  have hmod : j % sz < sz := Nat.mod_lt _ hz
  have hj' : j / sz * sz + j % sz = j := by rw [Nat.mul_comm]; exact Nat.div_add_mod j sz
  obtain ⟨cs, h1, h2, h3⟩ := hi (j / sz) hdiv
  cases h2
  have := flat_get (sz := sz) (xs.map f) (j / sz) (j % sz) (by simpa using hdiv) hmod (fun c hc => by obtain ⟨d, _, rfl⟩ := List.mem_map.1 hc; exact hf d)
  rw [hj', hj, List.getElem_map] at this
  have := h3 (j % sz) u this.symm
  rw [addr_add, ← hj', ← Nat.add_assoc]
  exact this
theorem vl_one (xs : List Vl) : ∀ u ∈ (xs.map Vl.cells).flatten, u.oneCell' = true := fun u hu => by
  obtain ⟨l, hl, hu⟩ := List.mem_flatten.1 hu
  obtain ⟨t, -, rfl⟩ := List.mem_map.1 hl
  simp [Vl.cells] at hu
  rcases hu with rfl | rfl | rfl <;> rfl
theorem vl_flat (xs : List Vl) : ((xs.map Vl.cells).flatten).length = xs.length * 3 := by
  rw [flat_len (sz := 3) _ (fun c hc => by obtain ⟨t, -, rfl⟩ := List.mem_map.1 hc; rfl), List.length_map]
set_option maxRecDepth 100000 in
set_option maxHeartbeats 1000000 in
theorem specCopyVals (A : Option Addr) (n c : Nat) (xs : List Vl) (ok : Nat → Prop) (w : World) (h : Sl VlR 3 ok w A n xs) (hl : n ≤ 1073741824) :
    Calls Tryz.prog 60 #[.slice A n c] w fun e w' => ∃ v', e = .returned v' ∧ OwnK w' w.heap.size v' xs ∧ Below w.heap.size w w' := by
  obtain ⟨i0, hi, hz0, hz1, hz2⟩ := info_parts infoValC
  have H1 := Lib.hid hi
  have H2 := Lib.hid hz0
  have H3 := Lib.hid hz1
  have H4 := Lib.hid hz2
  clear hi hz0 hz1 hz2
  have HO0 := Lib.hid (OwnG.lit (T := 87) (sz := 3) (f := Vl.cells) w (Nat.le_refl w.heap.size))
  have hb0 := (Below.refl w.heap.size w).alloc (Nat.le_refl _) (.cells #[] 87)
  have h0 := h.below VlR.stays hb0
  obtain rfl : xs.length = n := h.1
  go_enter Tryz.func60, Tryz.ntmps60
  cases A with
  | none =>
    have hn : xs.length = 0 := by
      rcases Nat.eq_zero_or_pos xs.length with h | h
      · exact h
      · obtain ⟨b, off, e, -⟩ := h0.2 h
        cases e
    obtain rfl : xs = [] := List.length_eq_zero_iff.1 hn
    simp only [List.length_nil] at *
    go_wp2_with (at_builtin; refine wpList_append_own_0 rfl _ _ 34 rfl w.heap.size 87 i0 3 Tryz.underlying34 H1.out _ _ _ rfl HO0.out _ rfl ?_)
    go_ret
    exact ⟨_, rfl, HO0.out, hb0⟩
  | some ad =>
    have HX := Lib.hid (Sl.flat_cells (f := Vl.cells) (sz := 3) (by decide) (fun _ => rfl) h0)
    clear h0
    go_wp2_with (at_builtin; refine wpList_append_own _ rfl _ _ 34 rfl w.heap.size 87 i0 (.agg #[.int .i64 0, .int .i64 0, .string ⟨#[]⟩]) 3 32 Tryz.underlying34 H1.out H2.out H3.out H4.out rfl (by decide) _ _ _ rfl HO0.out ad xs.length c ((xs.map Vl.cells).flatten) rfl ?c0 ?c1 ?c2 ?c3 ?c4 ?c5 ?_)
    case c0 => exact vl_flat xs
    case c1 => exact HX.out
    case c2 => exact vl_one xs
    case c3 => unfold maxLen; simp; omega
    case c4 => simp; omega
    case c5 => simp
    intro v9 w9 hown9 hgrow9 _
    go_wp2_with fail
    go_ret
    refine ⟨_, rfl, ?_, ?_⟩
    · unfold OwnK OwnG; simpa using hown9
    · exact ((Below.refl w.heap.size w).alloc (Nat.le_refl _) _).grown hgrow9 (by simp) (by intro k hk; simp [Value.ownBlock] at hk; omega)
theorem OwnK.below {w w' : World} {base : Nat} {v : Value} {xs : List Vl} (h : OwnK w base v xs) (hb : Below w.heap.size w w') : OwnK w' base v xs := OwnG.below h hb
theorem OwnK.mono {w : World} {base base' : Nat} {v : Value} {xs : List Vl} (h : OwnK w base v xs) (hb : base' ≤ base) : OwnK w base' v xs := by
  refine ⟨h.1, ?_⟩
  rcases h.2 with h | ⟨g, cap, cur, rfl, h1, h2⟩
  · exact .inl h
  · exact .inr ⟨g, cap, cur, rfl, Nat.le_trans hb h1, h2⟩
theorem OwnK.shape {w : World} {base : Nat} {v : Value} {xs : List Vl} (h : OwnK w base v xs) : ∃ A c, v = .slice A xs.length c := by
  rcases h.2 with ⟨rfl, hn⟩ | ⟨g, cap, cur, rfl, -⟩
  · exact ⟨none, 0, by rw [hn]⟩
  · exact ⟨_, _, rfl⟩
end Go.Proofs.YtffnicoegnomeaaGreat
namespace Go.Proofs.YtffnicoegnomeaaGreat
open Go.RowKit
theorem chs_len {l : List Ch} (h : szL Ch.sz l ≤ 1048576) : ∀ x ∈ l, x.old.length ≤ 1048576 ∧ x.now.length ≤ 1048576 := fun x hx => by
  have h1 := szL_mem Ch.sz l x hx
  have h4 : x.sz = szL (fun v : Vl => v.s.size) x.old + szL (fun v : Vl => v.s.size) x.now := rfl
  have h2 : x.old.length ≤ szL (fun v : Vl => v.s.size) x.old := by unfold szL; omega
  have h3 : x.now.length ≤ szL (fun v : Vl => v.s.size) x.now := by unfold szL; omega
  exact ⟨by omega, by omega⟩
theorem chs_marks {l : List Ch} (h : szL Ch.sz l ≤ 1048576) : 1 + (l.map Ch.marks).sum ≤ 1073741824 := by
  have h1 := sum_le_of (f := Ch.marks) (g := Ch.sz) 3 (fun x => by
    have h2 : x.old.length ≤ szL (fun v : Vl => v.s.size) x.old := by unfold szL; omega
    have h3 : x.now.length ≤ szL (fun v : Vl => v.s.size) x.now := by unfold szL; omega
    unfold Ch.marks Ch.sz
    omega) l
  omega
theorem ChO.two {w1 w2 : World} {b1 base : Nat} {v1 v2 : Value} {x : Ch} (h1 : OwnK w1 b1 v1 x.old) (h2 : OwnK w2 w1.heap.size v2 x.now) (hb : Below w1.heap.size w1 w2) (hb1 : base ≤ b1) (hs : b1 ≤ w1.heap.size) :
    ChO w2 base [.int .i64 x.table, .int .i64 x.id, v1, v2] x (blk v1 ++ blk v2) ∧ ∀ b ∈ blk v1 ++ blk v2, b1 ≤ b := by
  have e1 : ∀ b ∈ blk v1, b1 ≤ b ∧ b < w1.heap.size := fun b hb' => OwnG.block_lt h1 b (by simpa [blk] using hb')
  have e2 : ∀ b ∈ blk v2, w1.heap.size ≤ b ∧ b < w2.heap.size := fun b hb' => OwnG.block_lt h2 b (by simpa [blk] using hb')
  refine ⟨⟨v1, v2, rfl, (OwnK.below h1 hb).lower hb1, h2.lower (by omega), rfl, List.nodup_append.2 ⟨nodup_blkN v1, nodup_blkN v2, fun a ha b hb' => ?_⟩⟩, fun b hb' => ?_⟩
  · have := (e1 a ha).2
    have := (e2 b hb').1
    omega
  · rcases List.mem_append.1 hb' with h | h
    · exact (e1 b h).1
    · have := (e2 b h).1
      omega
def Lows {α : Type} (R : Rd α) : Prop := ∀ (ok : Nat → Prop) (w : World) (cs : List Value) (d : α), R ok w cs d → R (fun b => b < w.heap.size) w cs d
theorem Sl.lows {α : Type} {R : Rd α} (hR : Lows R) {sz : Nat} (hz : 0 < sz) {ok : Nat → Prop} {w : World} {A : Option Addr} {n : Nat} {ds : List α} (h : Sl R sz ok w A n ds) : Sl R sz (fun b => b < w.heap.size) w A n ds :=
  ⟨h.1, fun hn => by
    obtain ⟨b, off, e, hb, hi⟩ := h.2 hn
    refine ⟨b, off, e, ?_, fun i hlt => ?_⟩
    · obtain ⟨cs, h1, h2, h3⟩ := hi 0 (by have := h.1; omega)
      exact cell_lt (h3 0 _ (List.getElem?_eq_getElem (by omega)))
    · obtain ⟨cs, h1, h2, h3⟩ := hi i hlt
      exact ⟨cs, h1, hR _ _ _ _ h2, h3⟩⟩
theorem FlatR.lows {α : Type} (f : α → List Value) : Lows (FlatR f) := fun _ _ _ _ h => h
theorem RwR.lows : Lows RwR := fun _ _ _ _ ⟨A0, n0, c0, e, h0, hcp⟩ => ⟨A0, n0, c0, e, h0.lows (FlatR.lows _) (by omega), hcp⟩
theorem DtR.lows : Lows DtR := fun _ _ _ _ ⟨A0, n0, c0, e, h0, hcp⟩ => ⟨A0, n0, c0, e, h0.lows RwR.lows (by omega), hcp⟩
theorem Sl.low {α : Type} {R : Rd α} (hR : Stays R) {sz n0 : Nat} {w W : World} {A : Option Addr} {n : Nat} {ds : List α} (h : Sl R sz (fun b => b < n0) w A n ds) (hb : Below n0 w W) : Sl R sz (fun b => b < n0) W A n ds :=
  h.stays hR (fun _ h => h) fun p v hp hc => (hb.cell hp).trans hc
set_option maxRecDepth 100000 in
set_option maxHeartbeats 1000000 in
theorem implCloneVals (A : Option Addr) (n c : Nat) (xs : List Vl) (ok : Nat → Prop) (w : World) (h : Sl VlR 3 ok w A n xs) (hl : n ≤ 1073741824) :
    Calls Tryz.prog 106 #[.slice A n c] w fun e w' => ∃ v', e = .returned v' ∧ OwnK w' w.heap.size v' xs ∧ Below w.heap.size w w' := by
  obtain ⟨i0, hi, hz0, hz1, hz2⟩ := info_parts infoValC
  have H1 := Lib.hid hi
  have H2 := Lib.hid hz0
  have H3 := Lib.hid hz1
  have H4 := Lib.hid hz2
  clear hi hz0 hz1 hz2
  have HO0 := Lib.hid (OwnG.lit (T := 87) (sz := 3) (f := Vl.cells) w (Nat.le_refl w.heap.size))
  have hb0 := (Below.refl w.heap.size w).alloc (Nat.le_refl _) (.cells #[] 87)
  have h0 := h.below VlR.stays hb0
  have q22 : ∀ (w : World) (a : Option Addr) (n c n' c' : Nat), (binOp .eql 34 (.slice a n c) (.slice none n' c')).run Tryz.prog w = .ok (.bool a.isNone) w := fun w a n c n' c' => Lib.run_eql_slice_nil w _ _ a n c n' c' Tryz.underlying34
  obtain rfl : xs.length = n := h.1
  cases A with
  | none =>
    have hn : xs.length = 0 := by
      rcases Nat.eq_zero_or_pos xs.length with h | h
      · exact h
      · obtain ⟨b, off, e, -⟩ := h0.2 h
        cases e
    obtain rfl : xs = [] := List.length_eq_zero_iff.1 hn
    simp only [List.length_nil] at *
    go_enter Tryz.func106, Tryz.ntmps106
    go_wp2_with fail
    go_ret
    exact ⟨_, rfl, OwnG.nil _ _, Below.refl _ _⟩
  | some ad =>
    have HX := Lib.hid (Sl.flat_cells (f := Vl.cells) (sz := 3) (by decide) (fun _ => rfl) h0)
    clear h0
    go_enter Tryz.func106, Tryz.ntmps106
    go_wp2_with (at_builtin; refine wpList_append_own _ rfl _ _ 34 rfl w.heap.size 87 i0 (.agg #[.int .i64 0, .int .i64 0, .string ⟨#[]⟩]) 3 32 Tryz.underlying34 H1.out H2.out H3.out H4.out rfl (by decide) _ _ _ rfl HO0.out ad xs.length c ((xs.map Vl.cells).flatten) rfl ?c0 ?c1 ?c2 ?c3 ?c4 ?c5 ?_)
    case c0 => exact vl_flat xs
    case c1 => exact HX.out
    case c2 => exact vl_one xs
    case c3 => unfold maxLen; simp; omega
    case c4 => simp; omega
    case c5 => simp
    intro v9 w9 hown9 hgrow9 _
    go_wp2_with fail
    go_ret
    refine ⟨_, rfl, ?_, ?_⟩
    · unfold OwnK OwnG; simpa using hown9
    · exact ((Below.refl w.heap.size w).alloc (Nat.le_refl _) _).grown hgrow9 (by simp) (by intro k hk; simp [Value.ownBlock] at hk; omega)
theorem Sl.tail {α : Type} {R : Rd α} {sz : Nat} {ok : Nat → Prop} {w : World} {b off n : Nat} {x : α} {xs : List α} (h : Sl R sz ok w (some ⟨b, off, none⟩) n (x :: xs)) : Sl R sz ok w (some ⟨b, off + sz, none⟩) (n - 1) xs := by
  have hn := h.1
  simp only [List.length_cons] at hn
  refine ⟨by omega, fun h0 => ?_⟩
  obtain ⟨b', off', e, hb, hc⟩ := h.2 (by omega)
  injection e with e
  injection e with e1 e2
  subst e1 e2
  refine ⟨b, off + sz, rfl, hb, fun i hi => ?_⟩
  obtain ⟨cs, k1, k2, k3⟩ := hc (i + 1) (by simpa using hi)
  refine ⟨cs, k1, by simpa using k2, ?_⟩
  have e : off + sz + i * sz = off + (i + 1) * sz := by rw [Nat.succ_mul]; omega
  rw [e]
  exact k3
theorem Sl.empty {α : Type} {R : Rd α} {sz : Nat} {ok : Nat → Prop} {w : World} {A B : Option Addr} {n : Nat} {xs : List α} (h : Sl R sz ok w A n xs) (h0 : n = 0) : Sl R sz ok w B n xs := ⟨h.1, fun hn => by omega⟩
set_option maxRecDepth 100000 in
set_option maxHeartbeats 1000000 in
theorem implEqVals (A A' : Option Addr) (n c n' c' : Nat) (a b : List Vl) (ok ok' : Nat → Prop) (w : World) (h : Sl VlR 3 ok w A n a) (h' : Sl VlR 3 ok' w A' n' b) (hn : n ≤ 1048576) (hn' : n' ≤ 1048576) :
    Calls Tryz.prog 66 #[.slice A n c, .slice A' n' c'] w fun e w' => e = .returned (.bool (eqlL a b)) ∧ Below w.heap.size w w' := by
  obtain rfl : a.length = n := h.1
  obtain rfl : b.length = n' := h'.1
  by_cases hl : (a.length : Int) = b.length
  case neg =>
    have hl' : ((a.length : Int) == b.length) = false := by simpa using hl
    have HF := Lib.hid (show eqlL a b = false by unfold eqlL; rw [decide_eq_false (by omega)]; rfl)
    clear hl
    go_enter Tryz.func66, Tryz.ntmps66
    go_wp2_with fail
    go_ret
    exact ⟨retB HF.out.symm, Below.refl _ _⟩
  have hl' : ((a.length : Int) == b.length) = true := by simpa using hl
  have HL := Lib.hid (show a.length = b.length by omega)
  clear hl
  go_enter Tryz.func66, Tryz.ntmps66
  go_wp2_with fail
  clear hl'
  go_loopw [13] (fun i wr => ∃ k : Nat, k ≤ a.length ∧ i = .int .i64 k ∧ Hid (((a.zip b).take k).all eqlP = true) ∧ Below w.heap.size w wr) (fun i _ => a.length - (intOf i).toNat)
  case atStart => exact ⟨0, by omega, rfl, Lib.hid (by simp), Below.refl _ _⟩
  case round =>
    obtain ⟨k, hk, rfl, hall, hb⟩ := hrel
    by_cases hlt : k < a.length
    · have hlt' : k < b.length := by have := HL.out; omega
      obtain ⟨b1, o1, -, rfl, q0, q1, q2⟩ := VlR.at_ (h.below VlR.stays hb) hlt
      obtain ⟨b2, o2, -, rfl, y0, y1, y2⟩ := VlR.at_ (h'.below VlR.stays hb) hlt'
      have i0 : (0 : Int) ≤ k := by omega
      have i1 : (k : Int) < a.length := by omega
      have i2 : (k : Int) < b.length := by omega
      have hst := zip_take a b k hlt hlt' eqlP
      rw [hall.out, Bool.true_and] at hst
      have hno := fun hf => zip_no (f := eqlP) hlt hlt' hf
      generalize a[k] = x at *
      generalize b[k] = y at *
      cases hs : eqlP (x, y)
      · have HF := Lib.hid (show eqlL a b = false by unfold eqlL; rw [hno hs]; simp)
        have HS := Lib.hid hs
        clear hno hst hall hs
        cases e1 : (x.k == y.k)
        · clear HS
          go_wp2_with fail
          go_quiet (fail)
          go_wp2_with fail
          go_ret
          exact ⟨retB HF.out.symm, below_dN hb _⟩
        · cases e2 : (x.n == y.n)
          · clear HS
            go_wp2_with fail
            go_quiet (fail)
            go_wp2_with fail
            go_ret
            exact ⟨retB HF.out.symm, below_dN hb _⟩
          · have e3 : (x.s.toList == y.s.toList) = false := by have := HS.out; simp only [eqlP, eqlV, e1, e2, Bool.true_and] at this; exact this
            clear HS
            go_wp2_with fail
            go_quiet (fail)
            go_wp2_with fail
            go_ret
            exact ⟨retB HF.out.symm, below_dN hb _⟩
      · rw [hs] at hst
        have HA := Lib.hid hst
        simp only [eqlP, eqlV, Bool.and_eq_true] at hs
        obtain ⟨e1, e2, e3⟩ := hs
        clear hno hst hall
        go_wp2_with fail
        go_quiet (fail)
        go_wp2_with fail
        go_roundw
        case rel => exact ⟨k + 1, by omega, by go_num, HA, below_dN hb _⟩
        case measure => simp [intOf]; omega
    · have e : (a.zip b).take k = a.zip b := List.take_of_length_le (by rw [List.length_zip]; have := HL.out; omega)
      have h1 := hall.out
      rw [e] at h1
      have HA := Lib.hid (show eqlL a b = true by unfold eqlL; rw [decide_eq_true HL.out, h1]; rfl)
      clear e h1 hall
      go_wp2_with fail
      go_ret
      exact ⟨retB HA.out.symm, hb⟩
theorem firstB_of (a b : List Rw) (h : 0 < a.length) (h' : 0 < b.length) : firstB a b = if a[0].id < b[0].id then a[0].id else b[0].id := by
  cases a with
  | nil => simp at h
  | cons x r => cases b with
    | nil => simp at h'
    | cons y q => rfl
theorem firstB_l (a b : List Rw) (h : 0 < a.length) (h' : b.length = 0) : firstB a b = a[0].id := by
  cases a with
  | nil => simp at h
  | cons x r => cases b with
    | nil => rfl
    | cons y q => simp at h'
theorem firstB_r (a b : List Rw) (h : a.length = 0) (h' : 0 < b.length) : firstB a b = b[0].id := by
  cases a with
  | cons x r => simp at h
  | nil => cases b with
    | nil => simp at h'
    | cons y q => rfl
set_option maxRecDepth 100000 in
set_option maxHeartbeats 2000000 in
theorem implFirstId (A B : Option Addr) (n m c d : Nat) (a b : List Rw) (ok ok' : Nat → Prop) (w : World) (ha : Sl RwR 2 ok w A n a) (hb : Sl RwR 2 ok' w B m b) (hne : ¬ (a.length = 0 ∧ b.length = 0)) (hn : n ≤ 1048576) (hm : m ≤ 1048576) :
    Calls Tryz.prog 64 #[.slice A n c, .slice B m d] w fun e w' => e = .returned (.int .i64 (firstB a b)) ∧ Below w.heap.size w w' := by
  obtain rfl : a.length = n := ha.1
  obtain rfl : b.length = m := hb.1
  rcases Nat.eq_zero_or_pos a.length with h0 | h0
  · have h1 : 0 < b.length := by omega
    have HF := Lib.hid (firstB_r a b h0 h1)
    obtain ⟨b2, o2, A2, n2, c2, -, rfl, q0, q1, -⟩ := RwR.at_ hb h1
    simp only [Nat.zero_mul, Nat.add_zero] at q0 q1
    have z0 : ((a.length : Int) == 0) = true := by simpa using h0
    have i1 : (0 : Int) < b.length := by omega
    go_enter Tryz.func64, Tryz.ntmps64
    go_wp2_with fail
    go_ret
    exact ⟨retI HF.out.symm, Below.refl _ _⟩
  · obtain ⟨b1, o1, A1, n1, c1, -, rfl, p0, p1, -⟩ := RwR.at_ ha h0
    simp only [Nat.zero_mul, Nat.add_zero] at p0 p1
    have z0 : ((a.length : Int) == 0) = false := beq_eq_false_iff_ne.2 (by omega)
    have i0 : (0 : Int) < a.length := by omega
    rcases Nat.eq_zero_or_pos b.length with h1 | h1
    · have HF := Lib.hid (firstB_l a b h0 h1)
      have z1 : ((b.length : Int) == 0) = true := by simpa using h1
      go_enter Tryz.func64, Tryz.ntmps64
      go_wp2_with fail
      go_ret
      exact ⟨retI HF.out.symm, Below.refl _ _⟩
    · obtain ⟨b2, o2, A2, n2, c2, -, rfl, q0, q1, -⟩ := RwR.at_ hb h1
      simp only [Nat.zero_mul, Nat.add_zero] at q0 q1
      have z1 : ((b.length : Int) == 0) = false := beq_eq_false_iff_ne.2 (by omega)
      have i1 : (0 : Int) < b.length := by omega
      have HF := Lib.hid (firstB_of a b h0 h1)
      go_enter Tryz.func64, Tryz.ntmps64
      go_wp2_with fail
      go_quiet (fail)
      go_wp2_with fail
      all_goals
        go_ret
        exact ⟨retI (by rw [HF.out]; split <;> omega), below_dN (Below.refl _ _) _⟩
theorem took_hit {x : Rw} {r : List Rw} {id : Int} (h : x.id = id) : tookV (x :: r) id = x.vals ∧ tookR (x :: r) id = r := by
  rw [tookV_cons, tookR_cons]
  rw [if_pos h, if_pos h]; exact ⟨rfl, rfl⟩
theorem took_miss {x : Rw} {r : List Rw} {id : Int} (h : ¬ x.id = id) : tookV (x :: r) id = [] ∧ tookR (x :: r) id = x :: r := by
  rw [tookV_cons, tookR_cons]
  rw [if_neg h, if_neg h]; exact ⟨rfl, rfl⟩
set_option maxRecDepth 100000 in
set_option maxHeartbeats 2000000 in
theorem implTakenWith (A : Option Addr) (n c : Nat) (l : List Rw) (id : Int) (ok : Nat → Prop) (w : World) (h : Sl RwR 2 ok w A n l) (hc : n ≤ c) (hk : ∀ x ∈ l, x.vals.length ≤ 1048576) (hn : n ≤ 1048576) :
    Calls Tryz.prog 65 #[.slice A n c, .int .i64 id] w fun e w' => ∃ v A' n' c', e = .returned (.tuple #[v, .slice A' n' c']) ∧ OwnK w' w.heap.size v (tookV l id) ∧ Sl RwR 2 ok w' A' n' (tookR l id) ∧ n' ≤ c' ∧ Below w.heap.size w w' := by
  obtain rfl : l.length = n := h.1
  cases l with
  | nil =>
    have e : ([] : List Rw).length = 0 := rfl
    rw [e] at *
    go_enter Tryz.func65, Tryz.ntmps65
    go_wp2_with fail
    go_ret2
    exact ⟨_, _, _, _, rfl, OwnG.nil _ _, h, hc, Below.refl _ _⟩
  | cons x r =>
    obtain ⟨b, o, A1, n1, c1, -, rfl, p0, p1, hv, -⟩ := RwR.at_ h (i := 0) (by simp)
    have ht := h.tail
    simp only [List.getElem_cons_zero, Nat.zero_mul, Nat.add_zero] at p0 p1 hv
    have hx := hk x (by simp)
    simp only [List.length_cons, Nat.add_sub_cancel] at *
    generalize hm : r.length + 1 = m at *
    have m0 : ((m : Int) == 0) = false := by simp; omega
    have m1 : (0 : Int) < m := by omega
    have m2 : (1 : Int) ≤ m := by omega
    have m3 : 1 ≤ m := by omega
    have m4 : (m : Int) ≤ c := by omega
    have m5 : (1 : Int) ≤ c := by omega
    have m6 : 1 ≤ c := by omega
    have m7 : 0 < m := by omega
    have hn1 : n1 ≤ 1073741824 := by have := hv.1; omega
    by_cases hid : x.id = id
    · obtain ⟨t1, t2⟩ := took_hit (r := r) hid
      have z0 : (x.id != id) = false := by simp [hid]
      have z1 : (x.id == id) = true := by simp [hid]
      have hvd : Sl VlR 3 ok w.drew A1 n1 x.vals := hv.stays VlR.stays (fun _ h => h) (fun p v _ h => h)
      have HTL := Lib.hid ht
      have HT1 := Lib.hid t1
      have HT2 := Lib.hid t2
      clear hv ht t1 t2
      by_cases hc1 : c = 1
      · subst hc1
        obtain rfl : m = 1 := by omega
        go_enter Tryz.func65, Tryz.ntmps65
        go_wp2_with fail
        go_region_held3 (fun w' => w'.cell? ⟨b, o + 1, none⟩ = some (.slice A1 n1 c1))
          (first | go_keep | exact below_keep hb1 _ _ (by assumption))
          (first | (go_at_call 106; refine (implCloneVals A1 n1 c1 x.vals _ _ hvd hn1).mono ?_; rintro e1 w1 ⟨v1, rfl, hk1, hb1⟩))
        go_wp2_with fail
        go_ret2
        have hbw : Below w.heap.size w w1 := ((Below.refl w.heap.size w).drew).trans hb1
        exact ⟨_, _, _, _, rfl, by rw [HT1.out]; exact hk1, by rw [HT2.out]; have h9 := (HTL.out.below RwR.stays hbw).empty (B := some ⟨b, o, none⟩) (by omega); rwa [show r.length = 0 by omega] at h9, Nat.zero_le _, hbw⟩
      · go_enter Tryz.func65, Tryz.ntmps65
        go_wp2_with fail
        go_region_held3 (fun w' => w'.cell? ⟨b, o + 1, none⟩ = some (.slice A1 n1 c1))
          (first | go_keep | exact below_keep hb1 _ _ (by assumption))
          (first | (go_at_call 106; refine (implCloneVals A1 n1 c1 x.vals _ _ hvd hn1).mono ?_; rintro e1 w1 ⟨v1, rfl, hk1, hb1⟩))
        go_wp2_with fail
        go_ret2
        have hbw : Below w.heap.size w w1 := ((Below.refl w.heap.size w).drew).trans hb1
        exact ⟨_, _, _, _, rfl, by rw [HT1.out]; exact hk1, by rw [HT2.out, show m - 1 = r.length by omega]; exact HTL.out.below RwR.stays hbw, by omega, hbw⟩
    · obtain ⟨t1, t2⟩ := took_miss (r := r) hid
      have z0 : (x.id != id) = true := by simp [hid]
      have z1 : (x.id == id) = false := by simp [hid]
      go_enter Tryz.func65, Tryz.ntmps65
      go_wp2_with fail
      go_ret2
      exact ⟨_, _, _, _, rfl, by rw [t1]; exact OwnG.nil _ _, by rw [t2]; exact h, hc, Below.refl _ _⟩
theorem KeptL.range {B E : Nat} {w w' : World} (h : Kept B E w w') : KeptL (List.range' B (E - B)) w w' :=
  ⟨h.os, h.tape, h.output, h.size, fun k hk ho => h.block k hk (by
    rw [List.mem_range'_1] at ho
    omega), h.frozen⟩
theorem not_range {B E : Nat} {bs : List Nat} (h : ∀ b ∈ bs, E ≤ b) : ∀ x ∈ bs, x ∉ List.range' B (E - B) := fun x hx hh => by
  have h1 := h x hx
  rw [List.mem_range'_1] at hh
  omega
theorem Sl.keptL {α : Type} {R : Rd α} {sz : Nat} {ok : Nat → Prop} {w w' : World} {A : Option Addr} {n : Nat} {xs : List α} {bs : List Nat} (h : Sl R sz ok w A n xs) (hR : Stays R) (hk : KeptL bs w w') (hd : ∀ b, ok b → b ∉ bs) : Sl R sz ok w' A n xs :=
  h.stays hR (fun _ h => h) fun p v hb hp => hk.far (hd _ hb) hp
end Go.Proofs.YtffnicoegnomeaaGreat
namespace Go.Proofs.YtffnicoegnomeaaGreat
open Go.ChangeShapes Go.WideShapes Go.ChangeAt Go.RowKit Go.Joins Go.Deep
theorem Int_of_trod {H : Type} {enc : TypeId × Value → H} {W : World} {fuel : Nat} {cs : List Value} {x : DataW H × List MemPlace} (h : DataW.trod enc Tryz.prog W 0 (fun _ => true) true fuel 2 cs = some x) : ∃ d, IntR (fun _ => True) W cs d ∧ (Lit.int .i64 d).wf = true := by
  obtain ⟨k, q0, -, wk⟩ := DataW.trod_int Tryz.underlying2 h
  exact ⟨k, q0, wk⟩
theorem Val_of_trod {H : Type} {enc : TypeId × Value → H} {W : World} {fuel : Nat} {cs : List Value} {x : DataW H × List MemPlace} (h : DataW.trod enc Tryz.prog W 0 (fun _ => true) true fuel 71 cs = some x) : ∃ d, VlR (fun _ => True) W cs d ∧ d.s.size ≤ maxLen := by
  obtain ⟨k, n, s, rfl, -, -, hs⟩ := val_of_trod Tryz.underlying71 (by kernel_rfl) ⟨rfl, rfl, rfl⟩ (by kernel_rfl) (by kernel_rfl) (by kernel_rfl) Tryz.underlying2 Tryz.underlying2 Tryz.underlying9 h
  exact ⟨⟨k, n, s⟩, rfl, hs⟩
theorem Tok_of_trod {H : Type} {enc : TypeId × Value → H} {W : World} {fuel : Nat} {cs : List Value} {x : DataW H × List MemPlace} (h : DataW.trod enc Tryz.prog W 0 (fun _ => true) true fuel 185 cs = some x) : ∃ d, TkR (fun _ => True) W cs d ∧ d.vs.size ≤ maxLen := by
  obtain ⟨k, cc, vk, vn, vs, rfl, -, -, -, -, h5⟩ := tok_of_trod Tryz.underlying185 (by kernel_rfl) ⟨rfl, rfl, rfl⟩ (by kernel_rfl) (by kernel_rfl) (by kernel_rfl) Tryz.underlying2 Tryz.underlying2 Tryz.underlying71 ⟨rfl, rfl, rfl⟩ (by kernel_rfl) (by kernel_rfl) (by kernel_rfl) Tryz.underlying2 Tryz.underlying2 Tryz.underlying9 h
  exact ⟨⟨k, cc, vk, vn, vs⟩, rfl, h5⟩
theorem IntL_of_trod {H : Type} {enc : TypeId × Value → H} {W : World} {fuel : Nat} {x : DataW H × List MemPlace} {a : Option Addr} {len cap : Nat} (h : DataW.trod enc Tryz.prog W 0 (fun _ => true) true fuel 28 [.slice a len cap] = some x) : ∃ ds, Sl IntR 1 (fun _ => True) W a len ds ∧ ds.length ≤ maxLen := by
  obtain ⟨ds, h1, h2, -⟩ := sl_of_trod (R := IntR) (q := fun _ => True) (sz := 1) Tryz.underlying28 (by kernel_rfl) (by omega) (fun n c y hy => by obtain ⟨d, hd, _⟩ := Int_of_trod hy; exact ⟨d, hd, trivial⟩) h
  exact ⟨ds, h1, h2⟩
theorem TokL_of_trod {H : Type} {enc : TypeId × Value → H} {W : World} {fuel : Nat} {x : DataW H × List MemPlace} {a : Option Addr} {len cap : Nat} (h : DataW.trod enc Tryz.prog W 0 (fun _ => true) true fuel 65 [.slice a len cap] = some x) : ∃ ds : List Tk, Sl TkR 5 (fun _ => True) W a len ds ∧ (ds.length ≤ maxLen ∧ ∀ t ∈ ds, t.vs.size ≤ maxLen) :=
  sl_of_trod (R := TkR) (q := fun t : Tk => t.vs.size ≤ maxLen) (sz := 5) Tryz.underlying65 (by kernel_rfl) (by omega) (fun n c y hy => Tok_of_trod hy) h
theorem ValL_of_trod {H : Type} {enc : TypeId × Value → H} {W : World} {fuel : Nat} {x : DataW H × List MemPlace} {a : Option Addr} {len cap : Nat} (h : DataW.trod enc Tryz.prog W 0 (fun _ => true) true fuel 24 [.slice a len cap] = some x) : ∃ ds : List Vl, Sl VlR 3 (fun _ => True) W a len ds ∧ (ds.length ≤ maxLen ∧ ∀ v ∈ ds, v.s.size ≤ maxLen) :=
  sl_of_trod (R := VlR) (q := fun v : Vl => v.s.size ≤ maxLen) (sz := 3) Tryz.underlying24 (by kernel_rfl) (by omega) (fun n c y hy => Val_of_trod hy) h
set_option maxRecDepth 100000 in
theorem Col_of_trod {H : Type} {enc : TypeId × Value → H} {W : World} {fuel : Nat} {cs : List Value} {x : DataW H × List MemPlace} (h : DataW.trod enc Tryz.prog W 0 (fun _ => true) true fuel 175 cs = some x) : ∃ d, ClR (fun _ => True) W cs d ∧ d.wf := by
  obtain ⟨xs, n, _, _, hl, hlen, hf⟩ := DataW.trod_struct Tryz.underlying175 h
  rw [show Tryz.prog.cellsOf 175 = 6 by kernel_rfl] at hl
  match cs, hl, xs, hlen with
  | [c0, c1, c2, c3, c4, c5], _, [y0, y1, y2, y3], _ =>
    have e0 : DataW.trod enc Tryz.prog W 0 (fun _ => true) true n 9 [c0] = some y0 := by
      have := hf 0 _ rfl
      simpa [show Tryz.prog.cellsOf 9 = 1 by kernel_rfl] using this
    have e1 : DataW.trod enc Tryz.prog W 0 (fun _ => true) true n 2 [c1] = some y1 := by
      have := hf 1 _ rfl
      simpa [show Tryz.prog.cellsOf 2 = 1 by kernel_rfl] using this
    have e2 : DataW.trod enc Tryz.prog W 0 (fun _ => true) true n 4 [c2] = some y2 := by
      have := hf 2 _ rfl
      simpa [show Tryz.prog.cellsOf 4 = 1 by kernel_rfl] using this
    have e3 : DataW.trod enc Tryz.prog W 0 (fun _ => true) true n 71 [c3, c4, c5] = some y3 := by
      have := hf 3 _ rfl
      simpa [show Tryz.prog.cellsOf 71 = 3 by kernel_rfl] using this
    obtain ⟨z0, q0, -, u0⟩ := DataW.trod_string Tryz.underlying9 e0
    simp at q0
    subst q0
    obtain ⟨z1, q1, -, -⟩ := DataW.trod_int Tryz.underlying2 e1
    simp at q1
    subst q1
    obtain ⟨z2, q2, -⟩ := DataW.trod_bool Tryz.underlying4 e2
    simp at q2
    subst q2
    obtain ⟨z3, q3, u3⟩ := Val_of_trod e3
    have q3' : _ = Vl.cells z3 := q3
    simp only [Vl.cells, List.cons.injEq, and_true] at q3'
    obtain ⟨rfl, rfl, rfl⟩ := q3'
    exact ⟨⟨z0, z1, z2, z3⟩, rfl, ⟨u0, u3⟩⟩
theorem ColL_of_trod {H : Type} {enc : TypeId × Value → H} {W : World} {fuel : Nat} {x : DataW H × List MemPlace} {a : Option Addr} {len cap : Nat} (h : DataW.trod enc Tryz.prog W 0 (fun _ => true) true fuel 58 [.slice a len cap] = some x) : ∃ ds : List Cl, Sl ClR 6 (fun _ => True) W a len ds ∧ (ds.length ≤ maxLen ∧ ∀ y ∈ ds, y.wf) :=
  sl_of_trod (R := ClR) (q := Cl.wf) (sz := 6) Tryz.underlying58 (by kernel_rfl) (by omega) (fun n c y hy => Col_of_trod hy) h
set_option maxRecDepth 100000 in
theorem Unique_of_trod {H : Type} {enc : TypeId × Value → H} {W : World} {fuel : Nat} {cs : List Value} {x : DataW H × List MemPlace} (h : DataW.trod enc Tryz.prog W 0 (fun _ => true) true fuel 177 cs = some x) : ∃ d, UqR (fun _ => True) W cs d ∧ d.wf := by
  obtain ⟨xs, n, _, _, hl, hlen, hf⟩ := DataW.trod_struct Tryz.underlying177 h
  rw [show Tryz.prog.cellsOf 177 = 1 by kernel_rfl] at hl
  match cs, hl, xs, hlen with
  | [c0], _, [y0], _ =>
    have e0 : DataW.trod enc Tryz.prog W 0 (fun _ => true) true n 28 [c0] = some y0 := by
      have := hf 0 _ rfl
      simpa [show Tryz.prog.cellsOf 28 = 1 by kernel_rfl] using this
    obtain ⟨a0, l0, p0, rfl, hcp0⟩ : ∃ a l p, c0 = .slice a l p ∧ l ≤ p := by
      rcases open_slice Tryz.underlying28 e0 with ⟨hcs, _⟩ | ⟨ad, l, c, _, _, _, _, hcs, _, hlc, _⟩
      · exact ⟨_, _, _, by simpa using hcs, Nat.le_refl _⟩
      · exact ⟨_, _, _, by simpa using hcs, hlc⟩
    obtain ⟨z0, s0, u0⟩ := IntL_of_trod e0
    exact ⟨⟨z0⟩, ⟨_, _, _, rfl, s0, hcp0⟩, u0⟩
theorem UniqueL_of_trod {H : Type} {enc : TypeId × Value → H} {W : World} {fuel : Nat} {x : DataW H × List MemPlace} {a : Option Addr} {len cap : Nat} (h : DataW.trod enc Tryz.prog W 0 (fun _ => true) true fuel 59 [.slice a len cap] = some x) : ∃ ds : List Uq, Sl UqR 1 (fun _ => True) W a len ds ∧ (ds.length ≤ maxLen ∧ ∀ y ∈ ds, y.wf) :=
  sl_of_trod (R := UqR) (q := Uq.wf) (sz := 1) Tryz.underlying59 (by kernel_rfl) (by omega) (fun n c y hy => Unique_of_trod hy) h
set_option maxRecDepth 100000 in
theorem Check_of_trod {H : Type} {enc : TypeId × Value → H} {W : World} {fuel : Nat} {cs : List Value} {x : DataW H × List MemPlace} (h : DataW.trod enc Tryz.prog W 0 (fun _ => true) true fuel 180 cs = some x) : ∃ d, CkR (fun _ => True) W cs d ∧ d.wf := by
  obtain ⟨xs, n, _, _, hl, hlen, hf⟩ := DataW.trod_struct Tryz.underlying180 h
  rw [show Tryz.prog.cellsOf 180 = 1 by kernel_rfl] at hl
  match cs, hl, xs, hlen with
  | [c0], _, [y0], _ =>
    have e0 : DataW.trod enc Tryz.prog W 0 (fun _ => true) true n 65 [c0] = some y0 := by
      have := hf 0 _ rfl
      simpa [show Tryz.prog.cellsOf 65 = 1 by kernel_rfl] using this
    obtain ⟨a0, l0, p0, rfl, hcp0⟩ : ∃ a l p, c0 = .slice a l p ∧ l ≤ p := by
      rcases open_slice Tryz.underlying65 e0 with ⟨hcs, _⟩ | ⟨ad, l, c, _, _, _, _, hcs, _, hlc, _⟩
      · exact ⟨_, _, _, by simpa using hcs, Nat.le_refl _⟩
      · exact ⟨_, _, _, by simpa using hcs, hlc⟩
    obtain ⟨z0, s0, u0⟩ := TokL_of_trod e0
    exact ⟨⟨z0⟩, ⟨_, _, _, rfl, s0, hcp0⟩, u0⟩
theorem CheckL_of_trod {H : Type} {enc : TypeId × Value → H} {W : World} {fuel : Nat} {x : DataW H × List MemPlace} {a : Option Addr} {len cap : Nat} (h : DataW.trod enc Tryz.prog W 0 (fun _ => true) true fuel 60 [.slice a len cap] = some x) : ∃ ds : List Ck, Sl CkR 1 (fun _ => True) W a len ds ∧ (ds.length ≤ maxLen ∧ ∀ y ∈ ds, y.wf) :=
  sl_of_trod (R := CkR) (q := Ck.wf) (sz := 1) Tryz.underlying60 (by kernel_rfl) (by omega) (fun n c y hy => Check_of_trod hy) h
set_option maxRecDepth 100000 in
theorem Fk_of_trod {H : Type} {enc : TypeId × Value → H} {W : World} {fuel : Nat} {cs : List Value} {x : DataW H × List MemPlace} (h : DataW.trod enc Tryz.prog W 0 (fun _ => true) true fuel 182 cs = some x) : ∃ d, FkR (fun _ => True) W cs d ∧ d.wf := by
  obtain ⟨xs, n, _, _, hl, hlen, hf⟩ := DataW.trod_struct Tryz.underlying182 h
  rw [show Tryz.prog.cellsOf 182 = 5 by kernel_rfl] at hl
  match cs, hl, xs, hlen with
  | [c0, c1, c2, c3, c4], _, [y0, y1, y2, y3, y4], _ =>
    have e0 : DataW.trod enc Tryz.prog W 0 (fun _ => true) true n 28 [c0] = some y0 := by
      have := hf 0 _ rfl
      simpa [show Tryz.prog.cellsOf 28 = 1 by kernel_rfl] using this
    have e1 : DataW.trod enc Tryz.prog W 0 (fun _ => true) true n 9 [c1] = some y1 := by
      have := hf 1 _ rfl
      simpa [show Tryz.prog.cellsOf 9 = 1 by kernel_rfl] using this
    have e2 : DataW.trod enc Tryz.prog W 0 (fun _ => true) true n 2 [c2] = some y2 := by
      have := hf 2 _ rfl
      simpa [show Tryz.prog.cellsOf 2 = 1 by kernel_rfl] using this
    have e3 : DataW.trod enc Tryz.prog W 0 (fun _ => true) true n 2 [c3] = some y3 := by
      have := hf 3 _ rfl
      simpa [show Tryz.prog.cellsOf 2 = 1 by kernel_rfl] using this
    have e4 : DataW.trod enc Tryz.prog W 0 (fun _ => true) true n 4 [c4] = some y4 := by
      have := hf 4 _ rfl
      simpa [show Tryz.prog.cellsOf 4 = 1 by kernel_rfl] using this
    obtain ⟨a0, l0, p0, rfl, hcp0⟩ : ∃ a l p, c0 = .slice a l p ∧ l ≤ p := by
      rcases open_slice Tryz.underlying28 e0 with ⟨hcs, _⟩ | ⟨ad, l, c, _, _, _, _, hcs, _, hlc, _⟩
      · exact ⟨_, _, _, by simpa using hcs, Nat.le_refl _⟩
      · exact ⟨_, _, _, by simpa using hcs, hlc⟩
    obtain ⟨z0, s0, u0⟩ := IntL_of_trod e0
    obtain ⟨z1, q1, -, u1⟩ := DataW.trod_string Tryz.underlying9 e1
    simp at q1
    subst q1
    obtain ⟨z2, q2, -, -⟩ := DataW.trod_int Tryz.underlying2 e2
    simp at q2
    subst q2
    obtain ⟨z3, q3, -, -⟩ := DataW.trod_int Tryz.underlying2 e3
    simp at q3
    subst q3
    obtain ⟨z4, q4, -⟩ := DataW.trod_bool Tryz.underlying4 e4
    simp at q4
    subst q4
    exact ⟨⟨z0, z1, z2, z3, z4⟩, ⟨_, _, _, rfl, s0, hcp0⟩, ⟨u0, u1⟩⟩
theorem FkL_of_trod {H : Type} {enc : TypeId × Value → H} {W : World} {fuel : Nat} {x : DataW H × List MemPlace} {a : Option Addr} {len cap : Nat} (h : DataW.trod enc Tryz.prog W 0 (fun _ => true) true fuel 61 [.slice a len cap] = some x) : ∃ ds : List Fk, Sl FkR 5 (fun _ => True) W a len ds ∧ (ds.length ≤ maxLen ∧ ∀ y ∈ ds, y.wf) :=
  sl_of_trod (R := FkR) (q := Fk.wf) (sz := 5) Tryz.underlying61 (by kernel_rfl) (by omega) (fun n c y hy => Fk_of_trod hy) h
set_option maxRecDepth 100000 in
theorem Table_of_trod {H : Type} {enc : TypeId × Value → H} {W : World} {fuel : Nat} {cs : List Value} {x : DataW H × List MemPlace} (h : DataW.trod enc Tryz.prog W 0 (fun _ => true) true fuel 63 cs = some x) : ∃ d, TbR (fun _ => True) W cs d ∧ d.wf := by
  obtain ⟨xs, n, _, _, hl, hlen, hf⟩ := DataW.trod_struct Tryz.underlying63 h
  rw [show Tryz.prog.cellsOf 63 = 6 by kernel_rfl] at hl
  match cs, hl, xs, hlen with
  | [c0, c1, c2, c3, c4, c5], _, [y0, y1, y2, y3, y4, y5], _ =>
    have e0 : DataW.trod enc Tryz.prog W 0 (fun _ => true) true n 9 [c0] = some y0 := by
      have := hf 0 _ rfl
      simpa [show Tryz.prog.cellsOf 9 = 1 by kernel_rfl] using this
    have e1 : DataW.trod enc Tryz.prog W 0 (fun _ => true) true n 58 [c1] = some y1 := by
      have := hf 1 _ rfl
      simpa [show Tryz.prog.cellsOf 58 = 1 by kernel_rfl] using this
    have e2 : DataW.trod enc Tryz.prog W 0 (fun _ => true) true n 28 [c2] = some y2 := by
      have := hf 2 _ rfl
      simpa [show Tryz.prog.cellsOf 28 = 1 by kernel_rfl] using this
    have e3 : DataW.trod enc Tryz.prog W 0 (fun _ => true) true n 59 [c3] = some y3 := by
      have := hf 3 _ rfl
      simpa [show Tryz.prog.cellsOf 59 = 1 by kernel_rfl] using this
    have e4 : DataW.trod enc Tryz.prog W 0 (fun _ => true) true n 60 [c4] = some y4 := by
      have := hf 4 _ rfl
      simpa [show Tryz.prog.cellsOf 60 = 1 by kernel_rfl] using this
    have e5 : DataW.trod enc Tryz.prog W 0 (fun _ => true) true n 61 [c5] = some y5 := by
      have := hf 5 _ rfl
      simpa [show Tryz.prog.cellsOf 61 = 1 by kernel_rfl] using this
    obtain ⟨z0, q0, -, u0⟩ := DataW.trod_string Tryz.underlying9 e0
    simp at q0
    subst q0
    obtain ⟨a1, l1, p1, rfl, hcp1⟩ : ∃ a l p, c1 = .slice a l p ∧ l ≤ p := by
      rcases open_slice Tryz.underlying58 e1 with ⟨hcs, _⟩ | ⟨ad, l, c, _, _, _, _, hcs, _, hlc, _⟩
      · exact ⟨_, _, _, by simpa using hcs, Nat.le_refl _⟩
      · exact ⟨_, _, _, by simpa using hcs, hlc⟩
    obtain ⟨z1, s1, u1⟩ := ColL_of_trod e1
    obtain ⟨a2, l2, p2, rfl, hcp2⟩ : ∃ a l p, c2 = .slice a l p ∧ l ≤ p := by
      rcases open_slice Tryz.underlying28 e2 with ⟨hcs, _⟩ | ⟨ad, l, c, _, _, _, _, hcs, _, hlc, _⟩
      · exact ⟨_, _, _, by simpa using hcs, Nat.le_refl _⟩
      · exact ⟨_, _, _, by simpa using hcs, hlc⟩
    obtain ⟨z2, s2, u2⟩ := IntL_of_trod e2
    obtain ⟨a3, l3, p3, rfl, hcp3⟩ : ∃ a l p, c3 = .slice a l p ∧ l ≤ p := by
      rcases open_slice Tryz.underlying59 e3 with ⟨hcs, _⟩ | ⟨ad, l, c, _, _, _, _, hcs, _, hlc, _⟩
      · exact ⟨_, _, _, by simpa using hcs, Nat.le_refl _⟩
      · exact ⟨_, _, _, by simpa using hcs, hlc⟩
    obtain ⟨z3, s3, u3⟩ := UniqueL_of_trod e3
    obtain ⟨a4, l4, p4, rfl, hcp4⟩ : ∃ a l p, c4 = .slice a l p ∧ l ≤ p := by
      rcases open_slice Tryz.underlying60 e4 with ⟨hcs, _⟩ | ⟨ad, l, c, _, _, _, _, hcs, _, hlc, _⟩
      · exact ⟨_, _, _, by simpa using hcs, Nat.le_refl _⟩
      · exact ⟨_, _, _, by simpa using hcs, hlc⟩
    obtain ⟨z4, s4, u4⟩ := CheckL_of_trod e4
    obtain ⟨a5, l5, p5, rfl, hcp5⟩ : ∃ a l p, c5 = .slice a l p ∧ l ≤ p := by
      rcases open_slice Tryz.underlying61 e5 with ⟨hcs, _⟩ | ⟨ad, l, c, _, _, _, _, hcs, _, hlc, _⟩
      · exact ⟨_, _, _, by simpa using hcs, Nat.le_refl _⟩
      · exact ⟨_, _, _, by simpa using hcs, hlc⟩
    obtain ⟨z5, s5, u5⟩ := FkL_of_trod e5
    exact ⟨⟨z0, z1, z2, z3, z4, z5⟩, ⟨_, _, _, _, _, _, _, _, _, _, _, _, _, _, _, rfl, s1, s2, s3, s4, s5, ⟨hcp1, hcp2, hcp3, hcp4, hcp5⟩⟩, ⟨u0, u1, u2, u3, u4, u5⟩⟩
theorem TableL_of_trod {H : Type} {enc : TypeId × Value → H} {W : World} {fuel : Nat} {x : DataW H × List MemPlace} {a : Option Addr} {len cap : Nat} (h : DataW.trod enc Tryz.prog W 0 (fun _ => true) true fuel 22 [.slice a len cap] = some x) : ∃ ds : List Tb, Sl TbR 6 (fun _ => True) W a len ds ∧ (ds.length ≤ maxLen ∧ ∀ y ∈ ds, y.wf) :=
  sl_of_trod (R := TbR) (q := Tb.wf) (sz := 6) Tryz.underlying22 (by kernel_rfl) (by omega) (fun n c y hy => Table_of_trod hy) h
set_option maxRecDepth 100000 in
theorem Row_of_trod {H : Type} {enc : TypeId × Value → H} {W : World} {fuel : Nat} {cs : List Value} {x : DataW H × List MemPlace} (h : DataW.trod enc Tryz.prog W 0 (fun _ => true) true fuel 217 cs = some x) : ∃ d, RwR (fun _ => True) W cs d ∧ d.wf := by
  obtain ⟨xs, n, _, _, hl, hlen, hf⟩ := DataW.trod_struct Tryz.underlying217 h
  rw [show Tryz.prog.cellsOf 217 = 2 by kernel_rfl] at hl
  match cs, hl, xs, hlen with
  | [c0, c1], _, [y0, y1], _ =>
    have e0 : DataW.trod enc Tryz.prog W 0 (fun _ => true) true n 2 [c0] = some y0 := by
      have := hf 0 _ rfl
      simpa [show Tryz.prog.cellsOf 2 = 1 by kernel_rfl] using this
    have e1 : DataW.trod enc Tryz.prog W 0 (fun _ => true) true n 24 [c1] = some y1 := by
      have := hf 1 _ rfl
      simpa [show Tryz.prog.cellsOf 24 = 1 by kernel_rfl] using this
    obtain ⟨z0, q0, -, -⟩ := DataW.trod_int Tryz.underlying2 e0
    simp at q0
    subst q0
    obtain ⟨a1, l1, p1, rfl, hcp1⟩ : ∃ a l p, c1 = .slice a l p ∧ l ≤ p := by
      rcases open_slice Tryz.underlying24 e1 with ⟨hcs, _⟩ | ⟨ad, l, c, _, _, _, _, hcs, _, hlc, _⟩
      · exact ⟨_, _, _, by simpa using hcs, Nat.le_refl _⟩
      · exact ⟨_, _, _, by simpa using hcs, hlc⟩
    obtain ⟨z1, s1, u1⟩ := ValL_of_trod e1
    exact ⟨⟨z0, z1⟩, ⟨_, _, _, rfl, s1, hcp1⟩, u1⟩
theorem RowL_of_trod {H : Type} {enc : TypeId × Value → H} {W : World} {fuel : Nat} {x : DataW H × List MemPlace} {a : Option Addr} {len cap : Nat} (h : DataW.trod enc Tryz.prog W 0 (fun _ => true) true fuel 108 [.slice a len cap] = some x) : ∃ ds : List Rw, Sl RwR 2 (fun _ => True) W a len ds ∧ (ds.length ≤ maxLen ∧ ∀ y ∈ ds, y.wf) :=
  sl_of_trod (R := RwR) (q := Rw.wf) (sz := 2) Tryz.underlying108 (by kernel_rfl) (by omega) (fun n c y hy => Row_of_trod hy) h
set_option maxRecDepth 100000 in
theorem Data_of_trod {H : Type} {enc : TypeId × Value → H} {W : World} {fuel : Nat} {cs : List Value} {x : DataW H × List MemPlace} (h : DataW.trod enc Tryz.prog W 0 (fun _ => true) true fuel 110 cs = some x) : ∃ d, DtR (fun _ => True) W cs d ∧ d.wf := by
  obtain ⟨xs, n, _, _, hl, hlen, hf⟩ := DataW.trod_struct Tryz.underlying110 h
  rw [show Tryz.prog.cellsOf 110 = 1 by kernel_rfl] at hl
  match cs, hl, xs, hlen with
  | [c0], _, [y0], _ =>
    have e0 : DataW.trod enc Tryz.prog W 0 (fun _ => true) true n 108 [c0] = some y0 := by
      have := hf 0 _ rfl
      simpa [show Tryz.prog.cellsOf 108 = 1 by kernel_rfl] using this
    obtain ⟨a0, l0, p0, rfl, hcp0⟩ : ∃ a l p, c0 = .slice a l p ∧ l ≤ p := by
      rcases open_slice Tryz.underlying108 e0 with ⟨hcs, _⟩ | ⟨ad, l, c, _, _, _, _, hcs, _, hlc, _⟩
      · exact ⟨_, _, _, by simpa using hcs, Nat.le_refl _⟩
      · exact ⟨_, _, _, by simpa using hcs, hlc⟩
    obtain ⟨z0, s0, u0⟩ := RowL_of_trod e0
    exact ⟨⟨z0⟩, ⟨_, _, _, rfl, s0, hcp0⟩, u0⟩
theorem DataL_of_trod {H : Type} {enc : TypeId × Value → H} {W : World} {fuel : Nat} {x : DataW H × List MemPlace} {a : Option Addr} {len cap : Nat} (h : DataW.trod enc Tryz.prog W 0 (fun _ => true) true fuel 45 [.slice a len cap] = some x) : ∃ ds : List Dt, Sl DtR 1 (fun _ => True) W a len ds ∧ (ds.length ≤ maxLen ∧ ∀ y ∈ ds, y.wf) :=
  sl_of_trod (R := DtR) (q := Dt.wf) (sz := 1) Tryz.underlying45 (by kernel_rfl) (by omega) (fun n c y hy => Data_of_trod hy) h
end Go.Proofs.YtffnicoegnomeaaGreat
namespace Go.Proofs.YtffnicoegnomeaaGreat
open Go.RowKit
theorem lawsSzInts (A : Option Addr) (n c : Nat) (l : List Int) (left : Int) (ok : Nat → Prop) (w : World) (h : Sl IntR 1 ok w A n l) (hwf : l.length ≤ maxLen) (hp0 : 0 ≤ left) (hle : left ≤ 1048576) :
    Calls Tryz.prog 72 #[.slice A n c, .int .i64 left] w fun e w' => e = .returned (.int .i64 (szR left l.length)) ∧ Below w.heap.size w w' := by
  obtain rfl : l.length = n := h.1
  unfold maxLen at hwf
  by_cases hs : left - (l.length : Int) < 0
  · go_enter Tryz.func72, Tryz.ntmps72
    go_wp2
    go_ret
    exact ⟨retI (szR_no (by omega)), Below.refl _ _⟩
  · have hs' : decide (left - (l.length : Int) < 0) = false := by simpa using hs
    go_enter Tryz.func72, Tryz.ntmps72
    go_wp2
    go_ret
    exact ⟨retI (szR_yes (by omega) rfl), Below.refl _ _⟩
theorem lawsSzValR (v : Vl) (left : Int) (w : World) (hs : v.s.size ≤ maxLen) (h0 : 0 ≤ left) (h1 : left ≤ 1048576) :
    Calls Tryz.prog 33 #[.agg #[.int .i64 v.k, .int .i64 v.n, .string v.s], .int .i64 left] w fun e w' => e = .returned (.int .i64 (szR left v.s.size)) ∧ Below w.heap.size w w' :=
  (lawsSzVal v.k v.n v.s left w h0 h1 hs).mono fun e w' ⟨he, hb⟩ => ⟨by rw [he, show szN left v.s = szR left v.s.size by unfold szN szR; split <;> split <;> omega], hb⟩
theorem lawsSzTokR (x : Tk) (left : Int) (w : World) (hs : x.vs.size ≤ maxLen) (h0 : 0 ≤ left) (h1 : left ≤ 1048576) :
    Calls Tryz.prog 112 #[.agg #[.int .i64 x.k, .int .i64 x.c, .int .i64 x.vk, .int .i64 x.vn, .string x.vs], .int .i64 left] w fun e w' => e = .returned (.int .i64 (szR left x.vs.size)) ∧ Below w.heap.size w w' :=
  (lawsSzTok x left w h0 h1 hs).mono fun e w' ⟨he, hb⟩ => ⟨by rw [he, show szN left x.vs = szR left x.vs.size by unfold szN szR; split <;> split <;> omega], hb⟩
set_option maxHeartbeats 1000000 in
theorem lawsSzTokL (A : Option Addr) (n c : Nat) (l : List Tk) (left : Int) (ok : Nat → Prop) (w : World) (h : Sl TkR 5 ok w A n l) (hwf : (l.length ≤ maxLen ∧ ∀ t ∈ l, t.vs.size ≤ maxLen)) (hp0 : 0 ≤ left) (hle : left ≤ 1048576) :
    Calls Tryz.prog 76 #[.slice A n c, .int .i64 left] w fun e w' => e = .returned (.int .i64 (szR left (szL (fun t : Tk => t.vs.size) l))) ∧ Below w.heap.size w w' := by
  obtain rfl : l.length = n := h.1
  obtain ⟨hlen, hall⟩ := hwf
  unfold maxLen at hlen
  have HW := Lib.hid hall
  clear hall
  by_cases hs : left - (l.length : Int) < 0
  · go_enter Tryz.func76, Tryz.ntmps76
    go_wp2
    go_ret
    exact ⟨retI (szR_no (by unfold szL; omega)), Below.refl _ _⟩
  have hs' : decide (left - (l.length : Int) < 0) = false := by simpa using hs
  go_enter Tryz.func76, Tryz.ntmps76
  go_wp2
  go_loopw [1, 5] (fun m i wr => ∃ (k : Nat) (u : Int), k ≤ l.length ∧ i = .int .i64 k ∧ m = .int .i64 u ∧ 0 ≤ u ∧ u ≤ left ∧ Hid (u = left - l.length - ((l.take k).map (fun t : Tk => t.vs.size)).sum) ∧ Below w.heap.size w wr) (fun _ i _ => l.length - (intOf i).toNat)
  case atStart => exact ⟨0, _, by omega, rfl, rfl, by omega, by omega, Lib.hid (by simp), Below.refl _ _⟩
  case round =>
    obtain ⟨k, u, hk, rfl, rfl, hu0, hu1, hu, hb⟩ := hrel
    by_cases hlt : k < l.length
    · obtain ⟨b, off, -, rfl, q0, q1, q2, q3, q4⟩ := TkR.at_ (h.below TkR.stays hb) hlt
      have hx := HW.out _ (List.getElem_mem hlt)
      have hst := sum_take (fun t : Tk => t.vs.size) l k hlt
      have hsl := sum_take_le (fun t : Tk => t.vs.size) l (k + 1)
      have HST := Lib.hid hst
      have HSL := Lib.hid hsl
      have HX := Lib.hid hx
      clear hst hsl hx
      rcases szR_cases u (l[k].vs.size) hu0 with ⟨hno, hv⟩ | ⟨u', hv, hu', hu0', hu1', -⟩
      · go_wp2_with fail
        refine (lawsSzTokR l[k] u _ HX.out hu0 (by omega)).mono ?_
        rintro e w1 ⟨rfl, hb1⟩
        rw [hv.out]
        go_wp2_with fail
        go_ret
        exact ⟨retI (szR_no (by have e1 := hu.out; have e2 := HST.out; have e3 := HSL.out; unfold szL; (try simp only at e1 e2 e3 ⊢); omega)), hb.trans (hb1.mono hb.size)⟩
      · go_wp2_with fail
        refine (lawsSzTokR l[k] u _ HX.out hu0 (by omega)).mono ?_
        rintro e w1 ⟨rfl, hb1⟩
        rw [hv.out]
        go_wp2_with fail
        go_roundw
        case rel => exact ⟨k + 1, _, by omega, by go_num, rfl, by omega, by omega, Lib.hid (by have e1 := hu.out; have e2 := HST.out; have e3 := hu'.out; (try simp only at e1 e2 e3 ⊢); omega), hb.trans (hb1.mono hb.size)⟩
        case measure => simp [intOf]; omega
    · have e : l.take k = l := List.take_of_length_le (by omega)
      have e1 := hu.out
      rw [e] at e1
      have HU := Lib.hid e1
      clear e1 hu e
      go_wp2
      go_ret
      exact ⟨retI (szR_yes (by omega) (by have e1 := HU.out; unfold szL; omega)), hb⟩
set_option maxHeartbeats 1000000 in
theorem lawsSzValL (A : Option Addr) (n c : Nat) (l : List Vl) (left : Int) (ok : Nat → Prop) (w : World) (h : Sl VlR 3 ok w A n l) (hwf : (l.length ≤ maxLen ∧ ∀ v ∈ l, v.s.size ≤ maxLen)) (hp0 : 0 ≤ left) (hle : left ≤ 1048576) :
    Calls Tryz.prog 7 #[.slice A n c, .int .i64 left] w fun e w' => e = .returned (.int .i64 (szR left (szL (fun v : Vl => v.s.size) l))) ∧ Below w.heap.size w w' := by
  obtain rfl : l.length = n := h.1
  obtain ⟨hlen, hall⟩ := hwf
  unfold maxLen at hlen
  have HW := Lib.hid hall
  clear hall
  by_cases hs : left - (l.length : Int) < 0
  · go_enter Tryz.func7, Tryz.ntmps7
    go_wp2
    go_ret
    exact ⟨retI (szR_no (by unfold szL; omega)), Below.refl _ _⟩
  have hs' : decide (left - (l.length : Int) < 0) = false := by simpa using hs
  go_enter Tryz.func7, Tryz.ntmps7
  go_wp2
  go_loopw [1, 5] (fun m i wr => ∃ (k : Nat) (u : Int), k ≤ l.length ∧ i = .int .i64 k ∧ m = .int .i64 u ∧ 0 ≤ u ∧ u ≤ left ∧ Hid (u = left - l.length - ((l.take k).map (fun v : Vl => v.s.size)).sum) ∧ Below w.heap.size w wr) (fun _ i _ => l.length - (intOf i).toNat)
  case atStart => exact ⟨0, _, by omega, rfl, rfl, by omega, by omega, Lib.hid (by simp), Below.refl _ _⟩
  case round =>
    obtain ⟨k, u, hk, rfl, rfl, hu0, hu1, hu, hb⟩ := hrel
    by_cases hlt : k < l.length
    · obtain ⟨b, off, -, rfl, q0, q1, q2⟩ := VlR.at_ (h.below VlR.stays hb) hlt
      have hx := HW.out _ (List.getElem_mem hlt)
      have hst := sum_take (fun v : Vl => v.s.size) l k hlt
      have hsl := sum_take_le (fun v : Vl => v.s.size) l (k + 1)
      have HST := Lib.hid hst
      have HSL := Lib.hid hsl
      have HX := Lib.hid hx
      clear hst hsl hx
      rcases szR_cases u (l[k].s.size) hu0 with ⟨hno, hv⟩ | ⟨u', hv, hu', hu0', hu1', -⟩
      · go_wp2_with fail
        refine (lawsSzValR l[k] u _ HX.out hu0 (by omega)).mono ?_
        rintro e w1 ⟨rfl, hb1⟩
        rw [hv.out]
        go_wp2_with fail
        go_ret
        exact ⟨retI (szR_no (by have e1 := hu.out; have e2 := HST.out; have e3 := HSL.out; unfold szL; (try simp only at e1 e2 e3 ⊢); omega)), hb.trans (hb1.mono hb.size)⟩
      · go_wp2_with fail
        refine (lawsSzValR l[k] u _ HX.out hu0 (by omega)).mono ?_
        rintro e w1 ⟨rfl, hb1⟩
        rw [hv.out]
        go_wp2_with fail
        go_roundw
        case rel => exact ⟨k + 1, _, by omega, by go_num, rfl, by omega, by omega, Lib.hid (by have e1 := hu.out; have e2 := HST.out; have e3 := hu'.out; (try simp only at e1 e2 e3 ⊢); omega), hb.trans (hb1.mono hb.size)⟩
        case measure => simp [intOf]; omega
    · have e : l.take k = l := List.take_of_length_le (by omega)
      have e1 := hu.out
      rw [e] at e1
      have HU := Lib.hid e1
      clear e1 hu e
      go_wp2
      go_ret
      exact ⟨retI (szR_yes (by omega) (by have e1 := HU.out; unfold szL; omega)), hb⟩
set_option maxRecDepth 100000 in
set_option maxHeartbeats 1000000 in
theorem lawsSzCol (x : Cl)  (left : Int) (ok : Nat → Prop) (w : World)  (hwf : x.wf) (hp0 : 0 ≤ left) (hle : left ≤ 1048576) :
    Calls Tryz.prog 108 #[.agg #[.string x.name, .int .i64 x.kind, .bool x.nn, .int .i64 x.d.k, .int .i64 x.d.n, .string x.d.s], .int .i64 left] w fun e w' => e = .returned (.int .i64 (szR left x.sz)) ∧ Below w.heap.size w w' := by
  obtain ⟨wf0, wf3⟩ := hwf
  unfold maxLen at wf0
  have WF3 := Lib.hid wf3
  clear wf3
  have HB := Lib.hid ((Below.refl w.heap.size w).alloc (Nat.le_refl _) (.cells #[.string x.name, .int .i64 x.kind, .bool x.nn, .int .i64 x.d.k, .int .i64 x.d.n, .string x.d.s] 175))
  have RB := Lib.hid (Row.new w 175 #[.string x.name, .int .i64 x.kind, .bool x.nn, .int .i64 x.d.k, .int .i64 x.d.n, .string x.d.s])
  by_cases hs0 : left - (x.name.size : Int) < 0
  · go_enter Tryz.func108, Tryz.ntmps108
    go_wp2_with fail
    go_ret
    exact ⟨retI (szR_no (by simp only [Cl.sz]; omega)), HB.out⟩
  have hs0' : decide (left - (x.name.size : Int) < 0) = false := by simpa using hs0
  go_enter Tryz.func108, Tryz.ntmps108
  go_wp2_with fail
  refine (lawsSzValR x.d (left - (x.name.size : Int)) _ WF3.out (by omega) (by omega)).mono ?_
  rintro e w1 ⟨rfl, hb1⟩
  have hbb1 := (HB.out).trans (hb1.mono (HB.out).size)
  have RB1 := Lib.hid ((RB.out).below hb1)
  obtain ⟨⟨p1_0, p1_1, p1_2, p1_3, p1_4, p1_5⟩, -⟩ := RB1.out.all6
  rcases szR_cases (left - (x.name.size : Int)) (x.d.s.size) (by omega) with ⟨hno1, hv1⟩ | ⟨l1, hv1, hl1, h01, h11, -⟩
  · rw [hv1.out]
    go_wp2_with fail
    go_ret
    exact ⟨retI (szR_no (by simp only [Cl.sz]; omega)), hbb1⟩
  rw [hv1.out]
  go_wp2_with fail
  go_ret
  exact ⟨retI (szR_yes (by omega) (by have := hl1.out; simp only [Cl.sz]; omega)), hbb1⟩
set_option maxHeartbeats 1000000 in
theorem lawsSzColL (A : Option Addr) (n c : Nat) (l : List Cl) (left : Int) (ok : Nat → Prop) (w : World) (h : Sl ClR 6 ok w A n l) (hwf : (l.length ≤ maxLen ∧ ∀ y ∈ l, y.wf)) (hp0 : 0 ≤ left) (hle : left ≤ 1048576) :
    Calls Tryz.prog 71 #[.slice A n c, .int .i64 left] w fun e w' => e = .returned (.int .i64 (szR left (szL Cl.sz l))) ∧ Below w.heap.size w w' := by
  obtain rfl : l.length = n := h.1
  obtain ⟨hlen, hall⟩ := hwf
  unfold maxLen at hlen
  have HW := Lib.hid hall
  clear hall
  by_cases hs : left - (l.length : Int) < 0
  · go_enter Tryz.func71, Tryz.ntmps71
    go_wp2
    go_ret
    exact ⟨retI (szR_no (by unfold szL; omega)), Below.refl _ _⟩
  have hs' : decide (left - (l.length : Int) < 0) = false := by simpa using hs
  go_enter Tryz.func71, Tryz.ntmps71
  go_wp2
  go_loopw [1, 5] (fun m i wr => ∃ (k : Nat) (u : Int), k ≤ l.length ∧ i = .int .i64 k ∧ m = .int .i64 u ∧ 0 ≤ u ∧ u ≤ left ∧ Hid (u = left - l.length - ((l.take k).map (Cl.sz)).sum) ∧ Below w.heap.size w wr) (fun _ i _ => l.length - (intOf i).toNat)
  case atStart => exact ⟨0, _, by omega, rfl, rfl, by omega, by omega, Lib.hid (by simp), Below.refl _ _⟩
  case round =>
    obtain ⟨k, u, hk, rfl, rfl, hu0, hu1, hu, hb⟩ := hrel
    by_cases hlt : k < l.length
    · obtain ⟨b, off, -, rfl, q0, q1, q2, q3, q4, q5⟩ := ClR.at_ (h.below ClR.stays hb) hlt
      have hx := HW.out _ (List.getElem_mem hlt)
      have hst := sum_take (Cl.sz) l k hlt
      have hsl := sum_take_le (Cl.sz) l (k + 1)
      have HST := Lib.hid hst
      have HSL := Lib.hid hsl
      have HX := Lib.hid hx
      clear hst hsl hx
      rcases szR_cases u (l[k].sz) hu0 with ⟨hno, hv⟩ | ⟨u', hv, hu', hu0', hu1', -⟩
      · go_wp2_with fail
        refine (lawsSzCol l[k]  u ok _  HX.out hu0 (by omega)).mono ?_
        rintro e w1 ⟨rfl, hb1⟩
        rw [hv.out]
        go_wp2_with fail
        go_ret
        exact ⟨retI (szR_no (by have e1 := hu.out; have e2 := HST.out; have e3 := HSL.out; unfold szL; (try simp only at e1 e2 e3 ⊢); omega)), hb.trans (hb1.mono hb.size)⟩
      · go_wp2_with fail
        refine (lawsSzCol l[k]  u ok _  HX.out hu0 (by omega)).mono ?_
        rintro e w1 ⟨rfl, hb1⟩
        rw [hv.out]
        go_wp2_with fail
        go_roundw
        case rel => exact ⟨k + 1, _, by omega, by go_num, rfl, by omega, by omega, Lib.hid (by have e1 := hu.out; have e2 := HST.out; have e3 := hu'.out; (try simp only at e1 e2 e3 ⊢); omega), hb.trans (hb1.mono hb.size)⟩
        case measure => simp [intOf]; omega
    · have e : l.take k = l := List.take_of_length_le (by omega)
      have e1 := hu.out
      rw [e] at e1
      have HU := Lib.hid e1
      clear e1 hu e
      go_wp2
      go_ret
      exact ⟨retI (szR_yes (by omega) (by have e1 := HU.out; unfold szL; omega)), hb⟩
set_option maxRecDepth 100000 in
set_option maxHeartbeats 1000000 in
theorem lawsSzUnique (x : Uq) (A0 : Option Addr) (n0 c0 : Nat) (left : Int) (ok : Nat → Prop) (w : World) (h0 : Sl IntR 1 ok w A0 n0 x.cols) (hwf : x.wf) (hp0 : 0 ≤ left) (hle : left ≤ 1048576) :
    Calls Tryz.prog 109 #[.agg #[.slice A0 n0 c0], .int .i64 left] w fun e w' => e = .returned (.int .i64 (szR left x.sz)) ∧ Below w.heap.size w w' := by
  have wf0 := hwf
  have WF0 := Lib.hid wf0
  clear wf0
  have HB := Lib.hid ((Below.refl w.heap.size w).alloc (Nat.le_refl _) (.cells #[.slice A0 n0 c0] 177))
  have RB := Lib.hid (Row.new w 177 #[.slice A0 n0 c0])
  go_enter Tryz.func109, Tryz.ntmps109
  go_wp2_with fail
  refine (lawsSzInts A0 n0 c0 x.cols left ok _ (h0.below IntR.stays HB.out) WF0.out (by omega) (by omega)).mono ?_
  rintro e w1 ⟨rfl, hb1⟩
  have hbb1 := (HB.out).trans (hb1.mono (HB.out).size)
  have RB1 := Lib.hid ((RB.out).below hb1)
  obtain ⟨p1_0, -⟩ := RB1.out.all1
  rcases szR_cases left (x.cols.length) (by omega) with ⟨hno1, hv1⟩ | ⟨l1, hv1, hl1, h01, h11, -⟩
  · rw [hv1.out]
    go_wp2_with fail
    go_ret
    exact ⟨retI (szR_no (by simp only [Uq.sz]; omega)), hbb1⟩
  rw [hv1.out]
  go_wp2_with fail
  go_ret
  exact ⟨retI (szR_yes (by omega) (by have := hl1.out; simp only [Uq.sz]; omega)), hbb1⟩
set_option maxHeartbeats 1000000 in
theorem lawsSzUniqueL (A : Option Addr) (n c : Nat) (l : List Uq) (left : Int) (ok : Nat → Prop) (w : World) (h : Sl UqR 1 ok w A n l) (hwf : (l.length ≤ maxLen ∧ ∀ y ∈ l, y.wf)) (hp0 : 0 ≤ left) (hle : left ≤ 1048576) :
    Calls Tryz.prog 73 #[.slice A n c, .int .i64 left] w fun e w' => e = .returned (.int .i64 (szR left (szL Uq.sz l))) ∧ Below w.heap.size w w' := by
  obtain rfl : l.length = n := h.1
  obtain ⟨hlen, hall⟩ := hwf
  unfold maxLen at hlen
  have HW := Lib.hid hall
  clear hall
  by_cases hs : left - (l.length : Int) < 0
  · go_enter Tryz.func73, Tryz.ntmps73
    go_wp2
    go_ret
    exact ⟨retI (szR_no (by unfold szL; omega)), Below.refl _ _⟩
  have hs' : decide (left - (l.length : Int) < 0) = false := by simpa using hs
  go_enter Tryz.func73, Tryz.ntmps73
  go_wp2
  go_loopw [1, 5] (fun m i wr => ∃ (k : Nat) (u : Int), k ≤ l.length ∧ i = .int .i64 k ∧ m = .int .i64 u ∧ 0 ≤ u ∧ u ≤ left ∧ Hid (u = left - l.length - ((l.take k).map (Uq.sz)).sum) ∧ Below w.heap.size w wr) (fun _ i _ => l.length - (intOf i).toNat)
  case atStart => exact ⟨0, _, by omega, rfl, rfl, by omega, by omega, Lib.hid (by simp), Below.refl _ _⟩
  case round =>
    obtain ⟨k, u, hk, rfl, rfl, hu0, hu1, hu, hb⟩ := hrel
    by_cases hlt : k < l.length
    · obtain ⟨b, off, A0, n0, c0, -, rfl, q0, s0, -⟩ := UqR.at_ (h.below UqR.stays hb) hlt
      have hx := HW.out _ (List.getElem_mem hlt)
      have hst := sum_take (Uq.sz) l k hlt
      have hsl := sum_take_le (Uq.sz) l (k + 1)
      have HST := Lib.hid hst
      have HSL := Lib.hid hsl
      have HX := Lib.hid hx
      clear hst hsl hx
      rcases szR_cases u (l[k].sz) hu0 with ⟨hno, hv⟩ | ⟨u', hv, hu', hu0', hu1', -⟩
      · go_wp2_with fail
        refine (lawsSzUnique l[k] A0 n0 c0 u ok _ s0 HX.out hu0 (by omega)).mono ?_
        rintro e w1 ⟨rfl, hb1⟩
        rw [hv.out]
        go_wp2_with fail
        go_ret
        exact ⟨retI (szR_no (by have e1 := hu.out; have e2 := HST.out; have e3 := HSL.out; unfold szL; (try simp only at e1 e2 e3 ⊢); omega)), hb.trans (hb1.mono hb.size)⟩
      · go_wp2_with fail
        refine (lawsSzUnique l[k] A0 n0 c0 u ok _ s0 HX.out hu0 (by omega)).mono ?_
        rintro e w1 ⟨rfl, hb1⟩
        rw [hv.out]
        go_wp2_with fail
        go_roundw
        case rel => exact ⟨k + 1, _, by omega, by go_num, rfl, by omega, by omega, Lib.hid (by have e1 := hu.out; have e2 := HST.out; have e3 := hu'.out; (try simp only at e1 e2 e3 ⊢); omega), hb.trans (hb1.mono hb.size)⟩
        case measure => simp [intOf]; omega
    · have e : l.take k = l := List.take_of_length_le (by omega)
      have e1 := hu.out
      rw [e] at e1
      have HU := Lib.hid e1
      clear e1 hu e
      go_wp2
      go_ret
      exact ⟨retI (szR_yes (by omega) (by have e1 := HU.out; unfold szL; omega)), hb⟩
set_option maxRecDepth 100000 in
set_option maxHeartbeats 1000000 in
theorem lawsSzCheck (x : Ck) (A0 : Option Addr) (n0 c0 : Nat) (left : Int) (ok : Nat → Prop) (w : World) (h0 : Sl TkR 5 ok w A0 n0 x.expr) (hwf : x.wf) (hp0 : 0 ≤ left) (hle : left ≤ 1048576) :
    Calls Tryz.prog 110 #[.agg #[.slice A0 n0 c0], .int .i64 left] w fun e w' => e = .returned (.int .i64 (szR left x.sz)) ∧ Below w.heap.size w w' := by
  have wf0 := hwf
  have WF0 := Lib.hid wf0
  clear wf0
  have HB := Lib.hid ((Below.refl w.heap.size w).alloc (Nat.le_refl _) (.cells #[.slice A0 n0 c0] 180))
  have RB := Lib.hid (Row.new w 180 #[.slice A0 n0 c0])
  go_enter Tryz.func110, Tryz.ntmps110
  go_wp2_with fail
  refine (lawsSzTokL A0 n0 c0 x.expr left ok _ (h0.below TkR.stays HB.out) WF0.out (by omega) (by omega)).mono ?_
  rintro e w1 ⟨rfl, hb1⟩
  have hbb1 := (HB.out).trans (hb1.mono (HB.out).size)
  have RB1 := Lib.hid ((RB.out).below hb1)
  obtain ⟨p1_0, -⟩ := RB1.out.all1
  rcases szR_cases left (szL (fun t : Tk => t.vs.size) x.expr) (by omega) with ⟨hno1, hv1⟩ | ⟨l1, hv1, hl1, h01, h11, -⟩
  · rw [hv1.out]
    go_wp2_with fail
    go_ret
    exact ⟨retI (szR_no (by simp only [Ck.sz]; omega)), hbb1⟩
  rw [hv1.out]
  go_wp2_with fail
  go_ret
  exact ⟨retI (szR_yes (by omega) (by have := hl1.out; simp only [Ck.sz]; omega)), hbb1⟩
set_option maxHeartbeats 1000000 in
theorem lawsSzCheckL (A : Option Addr) (n c : Nat) (l : List Ck) (left : Int) (ok : Nat → Prop) (w : World) (h : Sl CkR 1 ok w A n l) (hwf : (l.length ≤ maxLen ∧ ∀ y ∈ l, y.wf)) (hp0 : 0 ≤ left) (hle : left ≤ 1048576) :
    Calls Tryz.prog 74 #[.slice A n c, .int .i64 left] w fun e w' => e = .returned (.int .i64 (szR left (szL Ck.sz l))) ∧ Below w.heap.size w w' := by
  obtain rfl : l.length = n := h.1
  obtain ⟨hlen, hall⟩ := hwf
  unfold maxLen at hlen
  have HW := Lib.hid hall
  clear hall
  by_cases hs : left - (l.length : Int) < 0
  · go_enter Tryz.func74, Tryz.ntmps74
    go_wp2
    go_ret
    exact ⟨retI (szR_no (by unfold szL; omega)), Below.refl _ _⟩
  have hs' : decide (left - (l.length : Int) < 0) = false := by simpa using hs
  go_enter Tryz.func74, Tryz.ntmps74
  go_wp2
  go_loopw [1, 5] (fun m i wr => ∃ (k : Nat) (u : Int), k ≤ l.length ∧ i = .int .i64 k ∧ m = .int .i64 u ∧ 0 ≤ u ∧ u ≤ left ∧ Hid (u = left - l.length - ((l.take k).map (Ck.sz)).sum) ∧ Below w.heap.size w wr) (fun _ i _ => l.length - (intOf i).toNat)
  case atStart => exact ⟨0, _, by omega, rfl, rfl, by omega, by omega, Lib.hid (by simp), Below.refl _ _⟩
  case round =>
    obtain ⟨k, u, hk, rfl, rfl, hu0, hu1, hu, hb⟩ := hrel
    by_cases hlt : k < l.length
    · obtain ⟨b, off, A0, n0, c0, -, rfl, q0, s0, -⟩ := CkR.at_ (h.below CkR.stays hb) hlt
      have hx := HW.out _ (List.getElem_mem hlt)
      have hst := sum_take (Ck.sz) l k hlt
      have hsl := sum_take_le (Ck.sz) l (k + 1)
      have HST := Lib.hid hst
      have HSL := Lib.hid hsl
      have HX := Lib.hid hx
      clear hst hsl hx
      rcases szR_cases u (l[k].sz) hu0 with ⟨hno, hv⟩ | ⟨u', hv, hu', hu0', hu1', -⟩
      · go_wp2_with fail
        refine (lawsSzCheck l[k] A0 n0 c0 u ok _ s0 HX.out hu0 (by omega)).mono ?_
        rintro e w1 ⟨rfl, hb1⟩
        rw [hv.out]
        go_wp2_with fail
        go_ret
        exact ⟨retI (szR_no (by have e1 := hu.out; have e2 := HST.out; have e3 := HSL.out; unfold szL; (try simp only at e1 e2 e3 ⊢); omega)), hb.trans (hb1.mono hb.size)⟩
      · go_wp2_with fail
        refine (lawsSzCheck l[k] A0 n0 c0 u ok _ s0 HX.out hu0 (by omega)).mono ?_
        rintro e w1 ⟨rfl, hb1⟩
        rw [hv.out]
        go_wp2_with fail
        go_roundw
        case rel => exact ⟨k + 1, _, by omega, by go_num, rfl, by omega, by omega, Lib.hid (by have e1 := hu.out; have e2 := HST.out; have e3 := hu'.out; (try simp only at e1 e2 e3 ⊢); omega), hb.trans (hb1.mono hb.size)⟩
        case measure => simp [intOf]; omega
    · have e : l.take k = l := List.take_of_length_le (by omega)
      have e1 := hu.out
      rw [e] at e1
      have HU := Lib.hid e1
      clear e1 hu e
      go_wp2
      go_ret
      exact ⟨retI (szR_yes (by omega) (by have e1 := HU.out; unfold szL; omega)), hb⟩
set_option maxRecDepth 100000 in
set_option maxHeartbeats 1000000 in
theorem lawsSzFk (x : Fk) (A0 : Option Addr) (n0 c0 : Nat) (left : Int) (ok : Nat → Prop) (w : World) (h0 : Sl IntR 1 ok w A0 n0 x.cols) (hwf : x.wf) (hp0 : 0 ≤ left) (hle : left ≤ 1048576) :
    Calls Tryz.prog 111 #[.agg #[.slice A0 n0 c0, .string x.table, .int .i64 x.del, .int .i64 x.upd, .bool x.dfr], .int .i64 left] w fun e w' => e = .returned (.int .i64 (szR left x.sz)) ∧ Below w.heap.size w w' := by
  obtain ⟨wf0, wf1⟩ := hwf
  have WF0 := Lib.hid wf0
  clear wf0
  unfold maxLen at wf1
  have HB := Lib.hid ((Below.refl w.heap.size w).alloc (Nat.le_refl _) (.cells #[.slice A0 n0 c0, .string x.table, .int .i64 x.del, .int .i64 x.upd, .bool x.dfr] 182))
  have RB := Lib.hid (Row.new w 182 #[.slice A0 n0 c0, .string x.table, .int .i64 x.del, .int .i64 x.upd, .bool x.dfr])
  go_enter Tryz.func111, Tryz.ntmps111
  go_wp2_with fail
  refine (lawsSzInts A0 n0 c0 x.cols left ok _ (h0.below IntR.stays HB.out) WF0.out (by omega) (by omega)).mono ?_
  rintro e w1 ⟨rfl, hb1⟩
  have hbb1 := (HB.out).trans (hb1.mono (HB.out).size)
  have RB1 := Lib.hid ((RB.out).below hb1)
  obtain ⟨⟨p1_0, p1_1, p1_2, p1_3, p1_4⟩, -⟩ := RB1.out.five
  rcases szR_cases left (x.cols.length) (by omega) with ⟨hno1, hv1⟩ | ⟨l1, hv1, hl1, h01, h11, -⟩
  · rw [hv1.out]
    go_wp2_with fail
    go_ret
    exact ⟨retI (szR_no (by simp only [Fk.sz]; omega)), hbb1⟩
  rw [hv1.out]
  by_cases hs1 : l1 - (x.table.size : Int) < 0
  · go_wp2_with fail
    go_ret
    exact ⟨retI (szR_no (by have := hl1.out; simp only [Fk.sz]; omega)), hbb1⟩
  have hs1' : decide (l1 - (x.table.size : Int) < 0) = false := by simpa using hs1
  go_wp2_with fail
  go_ret
  exact ⟨retI (szR_yes (by omega) (by have := hl1.out; simp only [Fk.sz]; omega)), hbb1⟩
set_option maxHeartbeats 1000000 in
theorem lawsSzFkL (A : Option Addr) (n c : Nat) (l : List Fk) (left : Int) (ok : Nat → Prop) (w : World) (h : Sl FkR 5 ok w A n l) (hwf : (l.length ≤ maxLen ∧ ∀ y ∈ l, y.wf)) (hp0 : 0 ≤ left) (hle : left ≤ 1048576) :
    Calls Tryz.prog 75 #[.slice A n c, .int .i64 left] w fun e w' => e = .returned (.int .i64 (szR left (szL Fk.sz l))) ∧ Below w.heap.size w w' := by
  obtain rfl : l.length = n := h.1
  obtain ⟨hlen, hall⟩ := hwf
  unfold maxLen at hlen
  have HW := Lib.hid hall
  clear hall
  by_cases hs : left - (l.length : Int) < 0
  · go_enter Tryz.func75, Tryz.ntmps75
    go_wp2
    go_ret
    exact ⟨retI (szR_no (by unfold szL; omega)), Below.refl _ _⟩
  have hs' : decide (left - (l.length : Int) < 0) = false := by simpa using hs
  go_enter Tryz.func75, Tryz.ntmps75
  go_wp2
  go_loopw [1, 5] (fun m i wr => ∃ (k : Nat) (u : Int), k ≤ l.length ∧ i = .int .i64 k ∧ m = .int .i64 u ∧ 0 ≤ u ∧ u ≤ left ∧ Hid (u = left - l.length - ((l.take k).map (Fk.sz)).sum) ∧ Below w.heap.size w wr) (fun _ i _ => l.length - (intOf i).toNat)
  case atStart => exact ⟨0, _, by omega, rfl, rfl, by omega, by omega, Lib.hid (by simp), Below.refl _ _⟩
  case round =>
    obtain ⟨k, u, hk, rfl, rfl, hu0, hu1, hu, hb⟩ := hrel
    by_cases hlt : k < l.length
    · obtain ⟨b, off, A0, n0, c0, -, rfl, q0, q1, q2, q3, q4, s0, -⟩ := FkR.at_ (h.below FkR.stays hb) hlt
      have hx := HW.out _ (List.getElem_mem hlt)
      have hst := sum_take (Fk.sz) l k hlt
      have hsl := sum_take_le (Fk.sz) l (k + 1)
      have HST := Lib.hid hst
      have HSL := Lib.hid hsl
      have HX := Lib.hid hx
      clear hst hsl hx
      rcases szR_cases u (l[k].sz) hu0 with ⟨hno, hv⟩ | ⟨u', hv, hu', hu0', hu1', -⟩
      · go_wp2_with fail
        refine (lawsSzFk l[k] A0 n0 c0 u ok _ s0 HX.out hu0 (by omega)).mono ?_
        rintro e w1 ⟨rfl, hb1⟩
        rw [hv.out]
        go_wp2_with fail
        go_ret
        exact ⟨retI (szR_no (by have e1 := hu.out; have e2 := HST.out; have e3 := HSL.out; unfold szL; (try simp only at e1 e2 e3 ⊢); omega)), hb.trans (hb1.mono hb.size)⟩
      · go_wp2_with fail
        refine (lawsSzFk l[k] A0 n0 c0 u ok _ s0 HX.out hu0 (by omega)).mono ?_
        rintro e w1 ⟨rfl, hb1⟩
        rw [hv.out]
        go_wp2_with fail
        go_roundw
        case rel => exact ⟨k + 1, _, by omega, by go_num, rfl, by omega, by omega, Lib.hid (by have e1 := hu.out; have e2 := HST.out; have e3 := hu'.out; (try simp only at e1 e2 e3 ⊢); omega), hb.trans (hb1.mono hb.size)⟩
        case measure => simp [intOf]; omega
    · have e : l.take k = l := List.take_of_length_le (by omega)
      have e1 := hu.out
      rw [e] at e1
      have HU := Lib.hid e1
      clear e1 hu e
      go_wp2
      go_ret
      exact ⟨retI (szR_yes (by omega) (by have e1 := HU.out; unfold szL; omega)), hb⟩
set_option maxRecDepth 100000 in
set_option maxHeartbeats 1000000 in
theorem lawsSzTable (x : Tb) (A1 : Option Addr) (n1 c1 : Nat) (A2 : Option Addr) (n2 c2 : Nat) (A3 : Option Addr) (n3 c3 : Nat) (A4 : Option Addr) (n4 c4 : Nat) (A5 : Option Addr) (n5 c5 : Nat) (left : Int) (ok : Nat → Prop) (w : World) (h1 : Sl ClR 6 ok w A1 n1 x.cols) (h2 : Sl IntR 1 ok w A2 n2 x.key) (h3 : Sl UqR 1 ok w A3 n3 x.uniqs) (h4 : Sl CkR 1 ok w A4 n4 x.checks) (h5 : Sl FkR 5 ok w A5 n5 x.fks) (hwf : x.wf) (hp0 : 0 ≤ left) (hle : left ≤ 1048576) :
    Calls Tryz.prog 31 #[.agg #[.string x.name, .slice A1 n1 c1, .slice A2 n2 c2, .slice A3 n3 c3, .slice A4 n4 c4, .slice A5 n5 c5], .int .i64 left] w fun e w' => e = .returned (.int .i64 (szR left x.sz)) ∧ Below w.heap.size w w' := by
  obtain ⟨wf0, wf1, wf2, wf3, wf4, wf5⟩ := hwf
  unfold maxLen at wf0
  have WF1 := Lib.hid wf1
  clear wf1
  have WF2 := Lib.hid wf2
  clear wf2
  have WF3 := Lib.hid wf3
  clear wf3
  have WF4 := Lib.hid wf4
  clear wf4
  have WF5 := Lib.hid wf5
  clear wf5
  have HB := Lib.hid ((Below.refl w.heap.size w).alloc (Nat.le_refl _) (.cells #[.string x.name, .slice A1 n1 c1, .slice A2 n2 c2, .slice A3 n3 c3, .slice A4 n4 c4, .slice A5 n5 c5] 63))
  have RB := Lib.hid (Row.new w 63 #[.string x.name, .slice A1 n1 c1, .slice A2 n2 c2, .slice A3 n3 c3, .slice A4 n4 c4, .slice A5 n5 c5])
  by_cases hs0 : left - (x.name.size : Int) < 0
  · go_enter Tryz.func31, Tryz.ntmps31
    go_wp2_with fail
    go_ret
    exact ⟨retI (szR_no (by simp only [Tb.sz]; omega)), HB.out⟩
  have hs0' : decide (left - (x.name.size : Int) < 0) = false := by simpa using hs0
  go_enter Tryz.func31, Tryz.ntmps31
  go_wp2_with fail
  refine (lawsSzColL A1 n1 c1 x.cols (left - (x.name.size : Int)) ok _ (h1.below ClR.stays HB.out) WF1.out (by omega) (by omega)).mono ?_
  rintro e w1 ⟨rfl, hb1⟩
  have hbb1 := (HB.out).trans (hb1.mono (HB.out).size)
  have RB1 := Lib.hid ((RB.out).below hb1)
  obtain ⟨⟨p1_0, p1_1, p1_2, p1_3, p1_4, p1_5⟩, -⟩ := RB1.out.all6
  rcases szR_cases (left - (x.name.size : Int)) (szL Cl.sz x.cols) (by omega) with ⟨hno1, hv1⟩ | ⟨l1, hv1, hl1, h01, h11, -⟩
  · rw [hv1.out]
    go_wp2_with fail
    go_ret
    exact ⟨retI (szR_no (by simp only [Tb.sz]; omega)), hbb1⟩
  rw [hv1.out]
  go_wp2_with fail
  refine (lawsSzInts A2 n2 c2 x.key l1 ok _ (h2.below IntR.stays hbb1) WF2.out (by omega) (by omega)).mono ?_
  rintro e w2 ⟨rfl, hb2⟩
  have hbb2 := (hbb1).trans (hb2.mono (hbb1).size)
  have RB2 := Lib.hid ((RB1.out).below hb2)
  obtain ⟨⟨p2_0, p2_1, p2_2, p2_3, p2_4, p2_5⟩, -⟩ := RB2.out.all6
  rcases szR_cases l1 (x.key.length) (by omega) with ⟨hno2, hv2⟩ | ⟨l2, hv2, hl2, h02, h12, -⟩
  · rw [hv2.out]
    go_wp2_with fail
    go_ret
    exact ⟨retI (szR_no (by have := hl1.out; simp only [Tb.sz]; omega)), hbb2⟩
  rw [hv2.out]
  go_wp2_with fail
  refine (lawsSzUniqueL A3 n3 c3 x.uniqs l2 ok _ (h3.below UqR.stays hbb2) WF3.out (by omega) (by omega)).mono ?_
  rintro e w3 ⟨rfl, hb3⟩
  have hbb3 := (hbb2).trans (hb3.mono (hbb2).size)
  have RB3 := Lib.hid ((RB2.out).below hb3)
  obtain ⟨⟨p3_0, p3_1, p3_2, p3_3, p3_4, p3_5⟩, -⟩ := RB3.out.all6
  rcases szR_cases l2 (szL Uq.sz x.uniqs) (by omega) with ⟨hno3, hv3⟩ | ⟨l3, hv3, hl3, h03, h13, -⟩
  · rw [hv3.out]
    go_wp2_with fail
    go_ret
    exact ⟨retI (szR_no (by have := hl1.out; have := hl2.out; simp only [Tb.sz]; omega)), hbb3⟩
  rw [hv3.out]
  go_wp2_with fail
  refine (lawsSzCheckL A4 n4 c4 x.checks l3 ok _ (h4.below CkR.stays hbb3) WF4.out (by omega) (by omega)).mono ?_
  rintro e w4 ⟨rfl, hb4⟩
  have hbb4 := (hbb3).trans (hb4.mono (hbb3).size)
  have RB4 := Lib.hid ((RB3.out).below hb4)
  obtain ⟨⟨p4_0, p4_1, p4_2, p4_3, p4_4, p4_5⟩, -⟩ := RB4.out.all6
  rcases szR_cases l3 (szL Ck.sz x.checks) (by omega) with ⟨hno4, hv4⟩ | ⟨l4, hv4, hl4, h04, h14, -⟩
  · rw [hv4.out]
    go_wp2_with fail
    go_ret
    exact ⟨retI (szR_no (by have := hl1.out; have := hl2.out; have := hl3.out; simp only [Tb.sz]; omega)), hbb4⟩
  rw [hv4.out]
  go_wp2_with fail
  refine (lawsSzFkL A5 n5 c5 x.fks l4 ok _ (h5.below FkR.stays hbb4) WF5.out (by omega) (by omega)).mono ?_
  rintro e w5 ⟨rfl, hb5⟩
  have hbb5 := (hbb4).trans (hb5.mono (hbb4).size)
  have RB5 := Lib.hid ((RB4.out).below hb5)
  obtain ⟨⟨p5_0, p5_1, p5_2, p5_3, p5_4, p5_5⟩, -⟩ := RB5.out.all6
  rcases szR_cases l4 (szL Fk.sz x.fks) (by omega) with ⟨hno5, hv5⟩ | ⟨l5, hv5, hl5, h05, h15, -⟩
  · rw [hv5.out]
    go_wp2_with fail
    go_ret
    exact ⟨retI (szR_no (by have := hl1.out; have := hl2.out; have := hl3.out; have := hl4.out; simp only [Tb.sz]; omega)), hbb5⟩
  rw [hv5.out]
  go_wp2_with fail
  go_ret
  exact ⟨retI (szR_yes (by omega) (by have := hl1.out; have := hl2.out; have := hl3.out; have := hl4.out; have := hl5.out; simp only [Tb.sz]; omega)), hbb5⟩
set_option maxHeartbeats 1000000 in
theorem lawsSzTableL (A : Option Addr) (n c : Nat) (l : List Tb) (left : Int) (ok : Nat → Prop) (w : World) (h : Sl TbR 6 ok w A n l) (hwf : (l.length ≤ maxLen ∧ ∀ y ∈ l, y.wf)) (hp0 : 0 ≤ left) (hle : left ≤ 1048576) :
    Calls Tryz.prog 5 #[.slice A n c, .int .i64 left] w fun e w' => e = .returned (.int .i64 (szR left (szL Tb.sz l))) ∧ Below w.heap.size w w' := by
  obtain rfl : l.length = n := h.1
  obtain ⟨hlen, hall⟩ := hwf
  unfold maxLen at hlen
  have HW := Lib.hid hall
  clear hall
  by_cases hs : left - (l.length : Int) < 0
  · go_enter Tryz.func5, Tryz.ntmps5
    go_wp2
    go_ret
    exact ⟨retI (szR_no (by unfold szL; omega)), Below.refl _ _⟩
  have hs' : decide (left - (l.length : Int) < 0) = false := by simpa using hs
  go_enter Tryz.func5, Tryz.ntmps5
  go_wp2
  go_loopw [1, 5] (fun m i wr => ∃ (k : Nat) (u : Int), k ≤ l.length ∧ i = .int .i64 k ∧ m = .int .i64 u ∧ 0 ≤ u ∧ u ≤ left ∧ Hid (u = left - l.length - ((l.take k).map (Tb.sz)).sum) ∧ Below w.heap.size w wr) (fun _ i _ => l.length - (intOf i).toNat)
  case atStart => exact ⟨0, _, by omega, rfl, rfl, by omega, by omega, Lib.hid (by simp), Below.refl _ _⟩
  case round =>
    obtain ⟨k, u, hk, rfl, rfl, hu0, hu1, hu, hb⟩ := hrel
    by_cases hlt : k < l.length
    · obtain ⟨b, off, A1, n1, c1, A2, n2, c2, A3, n3, c3, A4, n4, c4, A5, n5, c5, -, rfl, q0, q1, q2, q3, q4, q5, s1, s2, s3, s4, s5, -⟩ := TbR.at_ (h.below TbR.stays hb) hlt
      have hx := HW.out _ (List.getElem_mem hlt)
      have hst := sum_take (Tb.sz) l k hlt
      have hsl := sum_take_le (Tb.sz) l (k + 1)
      have HST := Lib.hid hst
      have HSL := Lib.hid hsl
      have HX := Lib.hid hx
      clear hst hsl hx
      rcases szR_cases u (l[k].sz) hu0 with ⟨hno, hv⟩ | ⟨u', hv, hu', hu0', hu1', -⟩
      · go_wp2_with fail
        refine (lawsSzTable l[k] A1 n1 c1 A2 n2 c2 A3 n3 c3 A4 n4 c4 A5 n5 c5 u ok _ s1 s2 s3 s4 s5 HX.out hu0 (by omega)).mono ?_
        rintro e w1 ⟨rfl, hb1⟩
        rw [hv.out]
        go_wp2_with fail
        go_ret
        exact ⟨retI (szR_no (by have e1 := hu.out; have e2 := HST.out; have e3 := HSL.out; unfold szL; (try simp only at e1 e2 e3 ⊢); omega)), hb.trans (hb1.mono hb.size)⟩
      · go_wp2_with fail
        refine (lawsSzTable l[k] A1 n1 c1 A2 n2 c2 A3 n3 c3 A4 n4 c4 A5 n5 c5 u ok _ s1 s2 s3 s4 s5 HX.out hu0 (by omega)).mono ?_
        rintro e w1 ⟨rfl, hb1⟩
        rw [hv.out]
        go_wp2_with fail
        go_roundw
        case rel => exact ⟨k + 1, _, by omega, by go_num, rfl, by omega, by omega, Lib.hid (by have e1 := hu.out; have e2 := HST.out; have e3 := hu'.out; (try simp only at e1 e2 e3 ⊢); omega), hb.trans (hb1.mono hb.size)⟩
        case measure => simp [intOf]; omega
    · have e : l.take k = l := List.take_of_length_le (by omega)
      have e1 := hu.out
      rw [e] at e1
      have HU := Lib.hid e1
      clear e1 hu e
      go_wp2
      go_ret
      exact ⟨retI (szR_yes (by omega) (by have e1 := HU.out; unfold szL; omega)), hb⟩
set_option maxRecDepth 100000 in
set_option maxHeartbeats 1000000 in
theorem lawsSzRow (x : Rw) (A1 : Option Addr) (n1 c1 : Nat) (left : Int) (ok : Nat → Prop) (w : World) (h1 : Sl VlR 3 ok w A1 n1 x.vals) (hwf : x.wf) (hp0 : 0 ≤ left) (hle : left ≤ 1048576) :
    Calls Tryz.prog 142 #[.agg #[.int .i64 x.id, .slice A1 n1 c1], .int .i64 left] w fun e w' => e = .returned (.int .i64 (szR left x.sz)) ∧ Below w.heap.size w w' := by
  have wf1 := hwf
  have WF1 := Lib.hid wf1
  clear wf1
  have HB := Lib.hid ((Below.refl w.heap.size w).alloc (Nat.le_refl _) (.cells #[.int .i64 x.id, .slice A1 n1 c1] 217))
  have RB := Lib.hid (Row.new w 217 #[.int .i64 x.id, .slice A1 n1 c1])
  go_enter Tryz.func142, Tryz.ntmps142
  go_wp2_with fail
  refine (lawsSzValL A1 n1 c1 x.vals left ok _ (h1.below VlR.stays HB.out) WF1.out (by omega) (by omega)).mono ?_
  rintro e w1 ⟨rfl, hb1⟩
  have hbb1 := (HB.out).trans (hb1.mono (HB.out).size)
  have RB1 := Lib.hid ((RB.out).below hb1)
  obtain ⟨⟨p1_0, p1_1⟩, -⟩ := RB1.out.all2
  rcases szR_cases left (szL (fun v : Vl => v.s.size) x.vals) (by omega) with ⟨hno1, hv1⟩ | ⟨l1, hv1, hl1, h01, h11, -⟩
  · rw [hv1.out]
    go_wp2_with fail
    go_ret
    exact ⟨retI (szR_no (by simp only [Rw.sz]; omega)), hbb1⟩
  rw [hv1.out]
  go_wp2_with fail
  go_ret
  exact ⟨retI (szR_yes (by omega) (by have := hl1.out; simp only [Rw.sz]; omega)), hbb1⟩
set_option maxHeartbeats 1000000 in
theorem lawsSzRowL (A : Option Addr) (n c : Nat) (l : List Rw) (left : Int) (ok : Nat → Prop) (w : World) (h : Sl RwR 2 ok w A n l) (hwf : (l.length ≤ maxLen ∧ ∀ y ∈ l, y.wf)) (hp0 : 0 ≤ left) (hle : left ≤ 1048576) :
    Calls Tryz.prog 102 #[.slice A n c, .int .i64 left] w fun e w' => e = .returned (.int .i64 (szR left (szL Rw.sz l))) ∧ Below w.heap.size w w' := by
  obtain rfl : l.length = n := h.1
  obtain ⟨hlen, hall⟩ := hwf
  unfold maxLen at hlen
  have HW := Lib.hid hall
  clear hall
  by_cases hs : left - (l.length : Int) < 0
  · go_enter Tryz.func102, Tryz.ntmps102
    go_wp2
    go_ret
    exact ⟨retI (szR_no (by unfold szL; omega)), Below.refl _ _⟩
  have hs' : decide (left - (l.length : Int) < 0) = false := by simpa using hs
  go_enter Tryz.func102, Tryz.ntmps102
  go_wp2
  go_loopw [1, 5] (fun m i wr => ∃ (k : Nat) (u : Int), k ≤ l.length ∧ i = .int .i64 k ∧ m = .int .i64 u ∧ 0 ≤ u ∧ u ≤ left ∧ Hid (u = left - l.length - ((l.take k).map (Rw.sz)).sum) ∧ Below w.heap.size w wr) (fun _ i _ => l.length - (intOf i).toNat)
  case atStart => exact ⟨0, _, by omega, rfl, rfl, by omega, by omega, Lib.hid (by simp), Below.refl _ _⟩
  case round =>
    obtain ⟨k, u, hk, rfl, rfl, hu0, hu1, hu, hb⟩ := hrel
    by_cases hlt : k < l.length
    · obtain ⟨b, off, A1, n1, c1, -, rfl, q0, q1, s1, -⟩ := RwR.at_ (h.below RwR.stays hb) hlt
      have hx := HW.out _ (List.getElem_mem hlt)
      have hst := sum_take (Rw.sz) l k hlt
      have hsl := sum_take_le (Rw.sz) l (k + 1)
      have HST := Lib.hid hst
      have HSL := Lib.hid hsl
      have HX := Lib.hid hx
      clear hst hsl hx
      rcases szR_cases u (l[k].sz) hu0 with ⟨hno, hv⟩ | ⟨u', hv, hu', hu0', hu1', -⟩
      · go_wp2_with fail
        refine (lawsSzRow l[k] A1 n1 c1 u ok _ s1 HX.out hu0 (by omega)).mono ?_
        rintro e w1 ⟨rfl, hb1⟩
        rw [hv.out]
        go_wp2_with fail
        go_ret
        exact ⟨retI (szR_no (by have e1 := hu.out; have e2 := HST.out; have e3 := HSL.out; unfold szL; (try simp only at e1 e2 e3 ⊢); omega)), hb.trans (hb1.mono hb.size)⟩
      · go_wp2_with fail
        refine (lawsSzRow l[k] A1 n1 c1 u ok _ s1 HX.out hu0 (by omega)).mono ?_
        rintro e w1 ⟨rfl, hb1⟩
        rw [hv.out]
        go_wp2_with fail
        go_roundw
        case rel => exact ⟨k + 1, _, by omega, by go_num, rfl, by omega, by omega, Lib.hid (by have e1 := hu.out; have e2 := HST.out; have e3 := hu'.out; (try simp only at e1 e2 e3 ⊢); omega), hb.trans (hb1.mono hb.size)⟩
        case measure => simp [intOf]; omega
    · have e : l.take k = l := List.take_of_length_le (by omega)
      have e1 := hu.out
      rw [e] at e1
      have HU := Lib.hid e1
      clear e1 hu e
      go_wp2
      go_ret
      exact ⟨retI (szR_yes (by omega) (by have e1 := HU.out; unfold szL; omega)), hb⟩
set_option maxRecDepth 100000 in
set_option maxHeartbeats 1000000 in
theorem lawsSzData (x : Dt) (A0 : Option Addr) (n0 c0 : Nat) (left : Int) (ok : Nat → Prop) (w : World) (h0 : Sl RwR 2 ok w A0 n0 x.rows) (hwf : x.wf) (hp0 : 0 ≤ left) (hle : left ≤ 1048576) :
    Calls Tryz.prog 55 #[.agg #[.slice A0 n0 c0], .int .i64 left] w fun e w' => e = .returned (.int .i64 (szR left x.sz)) ∧ Below w.heap.size w w' := by
  have wf0 := hwf
  have WF0 := Lib.hid wf0
  clear wf0
  have HB := Lib.hid ((Below.refl w.heap.size w).alloc (Nat.le_refl _) (.cells #[.slice A0 n0 c0] 110))
  have RB := Lib.hid (Row.new w 110 #[.slice A0 n0 c0])
  go_enter Tryz.func55, Tryz.ntmps55
  go_wp2_with fail
  refine (lawsSzRowL A0 n0 c0 x.rows left ok _ (h0.below RwR.stays HB.out) WF0.out (by omega) (by omega)).mono ?_
  rintro e w1 ⟨rfl, hb1⟩
  have hbb1 := (HB.out).trans (hb1.mono (HB.out).size)
  have RB1 := Lib.hid ((RB.out).below hb1)
  obtain ⟨p1_0, -⟩ := RB1.out.all1
  rcases szR_cases left (szL Rw.sz x.rows) (by omega) with ⟨hno1, hv1⟩ | ⟨l1, hv1, hl1, h01, h11, -⟩
  · rw [hv1.out]
    go_wp2_with fail
    go_ret
    exact ⟨retI (szR_no (by simp only [Dt.sz]; omega)), hbb1⟩
  rw [hv1.out]
  go_wp2_with fail
  go_ret
  exact ⟨retI (szR_yes (by omega) (by have := hl1.out; simp only [Dt.sz]; omega)), hbb1⟩
set_option maxHeartbeats 1000000 in
theorem lawsSzDataL (A : Option Addr) (n c : Nat) (l : List Dt) (left : Int) (ok : Nat → Prop) (w : World) (h : Sl DtR 1 ok w A n l) (hwf : (l.length ≤ maxLen ∧ ∀ y ∈ l, y.wf)) (hp0 : 0 ≤ left) (hle : left ≤ 1048576) :
    Calls Tryz.prog 22 #[.slice A n c, .int .i64 left] w fun e w' => e = .returned (.int .i64 (szR left (szL Dt.sz l))) ∧ Below w.heap.size w w' := by
  obtain rfl : l.length = n := h.1
  obtain ⟨hlen, hall⟩ := hwf
  unfold maxLen at hlen
  have HW := Lib.hid hall
  clear hall
  by_cases hs : left - (l.length : Int) < 0
  · go_enter Tryz.func22, Tryz.ntmps22
    go_wp2
    go_ret
    exact ⟨retI (szR_no (by unfold szL; omega)), Below.refl _ _⟩
  have hs' : decide (left - (l.length : Int) < 0) = false := by simpa using hs
  go_enter Tryz.func22, Tryz.ntmps22
  go_wp2
  go_loopw [1, 5] (fun m i wr => ∃ (k : Nat) (u : Int), k ≤ l.length ∧ i = .int .i64 k ∧ m = .int .i64 u ∧ 0 ≤ u ∧ u ≤ left ∧ Hid (u = left - l.length - ((l.take k).map (Dt.sz)).sum) ∧ Below w.heap.size w wr) (fun _ i _ => l.length - (intOf i).toNat)
  case atStart => exact ⟨0, _, by omega, rfl, rfl, by omega, by omega, Lib.hid (by simp), Below.refl _ _⟩
  case round =>
    obtain ⟨k, u, hk, rfl, rfl, hu0, hu1, hu, hb⟩ := hrel
    by_cases hlt : k < l.length
    · obtain ⟨b, off, A0, n0, c0, -, rfl, q0, s0, -⟩ := DtR.at_ (h.below DtR.stays hb) hlt
      have hx := HW.out _ (List.getElem_mem hlt)
      have hst := sum_take (Dt.sz) l k hlt
      have hsl := sum_take_le (Dt.sz) l (k + 1)
      have HST := Lib.hid hst
      have HSL := Lib.hid hsl
      have HX := Lib.hid hx
      clear hst hsl hx
      rcases szR_cases u (l[k].sz) hu0 with ⟨hno, hv⟩ | ⟨u', hv, hu', hu0', hu1', -⟩
      · go_wp2_with fail
        refine (lawsSzData l[k] A0 n0 c0 u ok _ s0 HX.out hu0 (by omega)).mono ?_
        rintro e w1 ⟨rfl, hb1⟩
        rw [hv.out]
        go_wp2_with fail
        go_ret
        exact ⟨retI (szR_no (by have e1 := hu.out; have e2 := HST.out; have e3 := HSL.out; unfold szL; (try simp only at e1 e2 e3 ⊢); omega)), hb.trans (hb1.mono hb.size)⟩
      · go_wp2_with fail
        refine (lawsSzData l[k] A0 n0 c0 u ok _ s0 HX.out hu0 (by omega)).mono ?_
        rintro e w1 ⟨rfl, hb1⟩
        rw [hv.out]
        go_wp2_with fail
        go_roundw
        case rel => exact ⟨k + 1, _, by omega, by go_num, rfl, by omega, by omega, Lib.hid (by have e1 := hu.out; have e2 := HST.out; have e3 := hu'.out; (try simp only at e1 e2 e3 ⊢); omega), hb.trans (hb1.mono hb.size)⟩
        case measure => simp [intOf]; omega
    · have e : l.take k = l := List.take_of_length_le (by omega)
      have e1 := hu.out
      rw [e] at e1
      have HU := Lib.hid e1
      clear e1 hu e
      go_wp2
      go_ret
      exact ⟨retI (szR_yes (by omega) (by have e1 := HU.out; unfold szL; omega)), hb⟩
end Go.Proofs.YtffnicoegnomeaaGreat
