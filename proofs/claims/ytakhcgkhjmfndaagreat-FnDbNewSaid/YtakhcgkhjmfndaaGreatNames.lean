/-
  Names and columns: which are right, in the model and in the program.
-/
import Derived.Test.YtakhcgkhjmfndaaGreatColAt
namespace Go.Proofs.YtakhcgkhjmfndaaGreat
open Go.RowKit Go.Maps
set_option linter.unusedVariables false

def lowC (c : UInt8) : Bool := decide (97 ≤ (c.toNat : Int)) && decide ((c.toNat : Int) ≤ 122)
def charsB (s : ByteArray) : Bool := s.data.toList.all lowC
/-- Whether a text is a name. -/
def nameB (s : ByteArray) : Bool := charsB s && (decide (1 ≤ (s.size : Int)) && decide ((s.size : Int) ≤ 8))

theorem all_take {α : Type} (f : α → Bool) (l : List α) (k : Nat) (h : k < l.length) : (l.take (k + 1)).all f = ((l.take k).all f && f l[k]) := by
  rw [List.take_succ_eq_append_getElem h, List.all_append]; simp
theorem all_no {α : Type} (f : α → Bool) (l : List α) (k : Nat) (h : k < l.length) (hf : f l[k] = false) : l.all f = false := by
  rw [Bool.eq_false_iff]; intro ha
  have := List.all_eq_true.1 ha l[k] (List.getElem_mem h)
  rw [hf] at this; cases this

set_option maxHeartbeats 400000 in
theorem specName (s : ByteArray) (w : World) (hs : s.size ≤ maxLen) :
    Calls Tryz.prog 43 #[.string s] w fun e w' => e = .returned (.bool (nameB s)) ∧ w = w' := by
  unfold maxLen at hs
  go_enter Tryz.func43, Tryz.ntmps43
  go_wp2
  go_loop [3] (fun i => ∃ k : Nat, k ≤ s.size ∧ i = .int .i64 k ∧ Hid ((s.data.toList.take k).all lowC = true)) (fun i => s.size - (intOf i).toNat)
  case atStart => exact ⟨0, by omega, rfl, Lib.hid (by simp)⟩
  case round =>
    obtain ⟨k, hk, rfl, hall⟩ := hrel
    by_cases hlt : k < s.size
    · have hl : k < s.data.toList.length := by simpa using hlt
      have hsn := all_take lowC s.data.toList k hl
      have hget : s.data.toList[k] = s[k] := by simp [ByteArray.getElem_eq_getElem_data]
      rw [hall.out, hget, Bool.true_and] at hsn
      by_cases h1 : (s[k].toNat : Int) < 97
      · have HN := Lib.hid (show nameB s = false by
          unfold nameB charsB
          rw [all_no lowC _ k hl (by rw [hget]; unfold lowC; rw [decide_eq_false (by omega)]; rfl), Bool.false_and])
        clear hsn hget hall
        go_wp2
        go_ret
        exact ⟨retB HN.out.symm, rfl⟩
      by_cases h2 : 122 < (s[k].toNat : Int)
      · have HN := Lib.hid (show nameB s = false by
          unfold nameB charsB
          rw [all_no lowC _ k hl (by rw [hget]; unfold lowC; rw [decide_eq_false (p := (s[k].toNat : Int) ≤ 122) (by omega), Bool.and_false]), Bool.false_and])
        have h1' : decide ((s[k].toNat : Int) < 97) = false := by simpa using h1
        clear hsn hget hall
        go_wp2
        go_ret
        exact ⟨retB HN.out.symm, rfl⟩
      · have HA := Lib.hid (show (s.data.toList.take (k + 1)).all lowC = true by rw [hsn]; unfold lowC; rw [decide_eq_true (by omega), decide_eq_true (by omega)]; rfl)
        have h1' : decide ((s[k].toNat : Int) < 97) = false := by simpa using h1
        have h2' : decide (122 < (s[k].toNat : Int)) = false := by simpa using h2
        clear hsn hget hall
        go_wp2
        go_round
        case rel => exact ⟨k + 1, by omega, by go_num, HA⟩
        case measure => simp [intOf]; omega
    · have e : s.data.toList.take k = s.data.toList := List.take_of_length_le (by simp; omega)
      have h1 := hall.out
      rw [e] at h1
      have HN := Lib.hid (show nameB s = (decide (1 ≤ (s.size : Int)) && decide ((s.size : Int) ≤ 8)) by unfold nameB charsB; rw [h1, Bool.true_and])
      clear h1 e hall
      go_wp2_with fail
      refine (specIn _ _ _ _).mono ?_
      rintro e w1 ⟨rfl, rfl⟩
      go_wp2
      go_ret
      exact ⟨retB HN.out.symm, rfl⟩

set_option maxHeartbeats 400000 in
theorem implIsName (s : ByteArray) (w : World) (hs : s.size ≤ maxLen) :
    Calls Tryz.prog 35 #[.string s] w fun e w' => e = .returned (.bool (nameB s)) ∧ w = w' := by
  unfold maxLen at hs
  by_cases hsm : (s.size : Int) < 1
  · have HN := Lib.hid (show nameB s = false by unfold nameB; rw [decide_eq_false (p := 1 ≤ (s.size : Int)) (by omega), Bool.false_and, Bool.and_false])
    go_enter Tryz.func35, Tryz.ntmps35
    go_wp2
    go_ret
    exact ⟨retB HN.out.symm, rfl⟩
  have hsm' : decide ((s.size : Int) < 1) = false := by simpa using hsm
  by_cases hbig : 8 < (s.size : Int)
  · have HN := Lib.hid (show nameB s = false by unfold nameB; rw [decide_eq_false (p := (s.size : Int) ≤ 8) (by omega), Bool.and_false, Bool.and_false])
    go_enter Tryz.func35, Tryz.ntmps35
    go_wp2
    go_ret
    exact ⟨retB HN.out.symm, rfl⟩
  have hbig' : decide (8 < (s.size : Int)) = false := by simpa using hbig
  have HSZ := Lib.hid (show (decide (1 ≤ (s.size : Int)) && decide ((s.size : Int) ≤ 8)) = true by rw [decide_eq_true (by omega), decide_eq_true (by omega)]; rfl)
  go_enter Tryz.func35, Tryz.ntmps35
  go_wp2
  go_loop [14] (fun i => ∃ k : Nat, k ≤ s.size ∧ i = .int .i64 k ∧ Hid ((s.data.toList.take k).all lowC = true)) (fun i => s.size - (intOf i).toNat)
  case atStart => exact ⟨0, by omega, rfl, Lib.hid (by simp)⟩
  case round =>
    obtain ⟨k, hk, rfl, hall⟩ := hrel
    by_cases hlt : k < s.size
    · have hl : k < s.data.toList.length := by simpa using hlt
      have hsn := all_take lowC s.data.toList k hl
      have hget : s.data.toList[k] = s[k] := by simp [ByteArray.getElem_eq_getElem_data]
      rw [hall.out, hget, Bool.true_and] at hsn
      by_cases h1 : (s[k].toNat : Int) < 97
      · have HN := Lib.hid (show nameB s = false by
          unfold nameB charsB
          rw [all_no lowC _ k hl (by rw [hget]; unfold lowC; rw [decide_eq_false (by omega)]; rfl), Bool.false_and])
        clear hsn hget hall
        go_wp2
        go_ret
        exact ⟨retB HN.out.symm, rfl⟩
      by_cases h2 : 122 < (s[k].toNat : Int)
      · have HN := Lib.hid (show nameB s = false by
          unfold nameB charsB
          rw [all_no lowC _ k hl (by rw [hget]; unfold lowC; rw [decide_eq_false (p := (s[k].toNat : Int) ≤ 122) (by omega), Bool.and_false]), Bool.false_and])
        have h1' : decide ((s[k].toNat : Int) < 97) = false := by simpa using h1
        clear hsn hget hall
        go_wp2
        go_ret
        exact ⟨retB HN.out.symm, rfl⟩
      · have HA := Lib.hid (show (s.data.toList.take (k + 1)).all lowC = true by rw [hsn]; unfold lowC; rw [decide_eq_true (by omega), decide_eq_true (by omega)]; rfl)
        have h1' : decide ((s[k].toNat : Int) < 97) = false := by simpa using h1
        have h2' : decide (122 < (s[k].toNat : Int)) = false := by simpa using h2
        clear hsn hget hall
        go_wp2
        go_round
        case rel => exact ⟨k + 1, by omega, by go_num, HA⟩
        case measure => simp [intOf]; omega
    · have e : s.data.toList.take k = s.data.toList := List.take_of_length_le (by simp; omega)
      have h1 := hall.out
      rw [e] at h1
      have HN := Lib.hid (show nameB s = true by unfold nameB charsB; rw [h1, Bool.true_and]; exact HSZ.out)
      clear h1 e hall
      go_wp2
      go_ret
      exact ⟨retB HN.out.symm, rfl⟩

/-- Columns: places below n, at least one, no two alike. -/
def hasB (l : List Int) (x : Int) : Bool := l.contains x
def colsGo (n : Int) (seen : List Int) : List Int → Bool
  | [] => true
  | x :: xs => (decide (0 ≤ x) && decide (x < n) && !hasB seen x) && colsGo n (seen ++ [x]) xs
def colsInB (l : List Int) (n : Int) : Bool := colsGo n [] l && decide (0 < l.length)
theorem colsGo_at (n : Int) (l : List Int) (k : Nat) (h : k < l.length) : colsGo n (l.take k) (l.drop k) = ((decide (0 ≤ l[k]) && decide (l[k] < n) && !hasB (l.take k) l[k]) && colsGo n (l.take (k + 1)) (l.drop (k + 1))) := by
  rw [List.drop_eq_getElem_cons h, List.take_succ_eq_append_getElem h]; rfl
theorem php : ∀ (n : Nat) (l : List Int), l.Nodup → (∀ x ∈ l, 0 ≤ x ∧ x < n) → l.length ≤ n
  | 0, l, _, h => by
    cases l with
    | nil => simp
    | cons x xs => have := h x (by simp); omega
  | n + 1, l, hd, h => by
    by_cases hm : (n : Int) ∈ l
    · have h1 := php n (l.erase (n : Int)) (hd.erase _) fun x hx => by
        have hx' := (List.Nodup.mem_erase_iff hd).1 hx
        have := h x hx'.2
        have hne := hx'.1
        omega
      rw [List.length_erase_of_mem hm] at h1
      omega
    · have h1 := php n l hd fun x hx => by
        have := h x hx
        have hne : x ≠ (n : Int) := fun e => hm (e ▸ hx)
        omega
      omega
theorem colsGo_nodup (n : Int) : ∀ (l seen : List Int), seen.Nodup → (∀ x ∈ seen, 0 ≤ x ∧ x < n) → colsGo n seen l = true → (seen ++ l).Nodup ∧ ∀ x ∈ seen ++ l, 0 ≤ x ∧ x < n
  | [], seen, h1, h2, _ => by simpa using ⟨h1, h2⟩
  | x :: xs, seen, h1, h2, h => by
    simp only [colsGo, Bool.and_eq_true, decide_eq_true_eq, Bool.not_eq_true'] at h
    obtain ⟨⟨⟨h3, h4⟩, h5⟩, h6⟩ := h
    have hn : x ∉ seen := by simpa [hasB] using h5
    have := colsGo_nodup n xs (seen ++ [x]) (by
      rw [List.nodup_append]
      refine ⟨h1, by simp, fun a ha b hb => ?_⟩
      rw [List.mem_singleton] at hb
      intro e; subst e; subst hb; exact hn ha) (by
      intro y hy
      rw [List.mem_append, List.mem_singleton] at hy
      rcases hy with hy | rfl
      · exact h2 y hy
      · exact ⟨h3, h4⟩) h6
    simpa using this
theorem colsInB_len {l : List Int} {n : Nat} (h : colsInB l n = true) : l.length ≤ n ∧ ∀ x ∈ l, 0 ≤ x ∧ x < n := by
  unfold colsInB at h
  rw [Bool.and_eq_true] at h
  have := colsGo_nodup n l [] (by simp) (by simp) h.1
  simp only [List.nil_append] at this
  exact ⟨php n l this.1 this.2, this.2⟩
end Go.Proofs.YtakhcgkhjmfndaaGreat
