/-
  Whether a map of files has room: the program's look at all of it, in whatever order.
-/
import Derived.Test.YtkinegapnknhiaaFiles
import Derived.Deep.QuietTactic
import Derived.BigQuiet
namespace Go.Proofs.Ytkinegapnknhiaa
open Go.RowKit Go.Maps
set_option linter.unusedVariables false
set_option linter.unusedSimpArgs false

def leftF (l : List Fz) (left : Lit → Bool) : Nat := (l.map fun x => if left (.string x.nm) then x.data.size else 0).sum
theorem leftF_all {l : List Fz} {left : Lit → Bool} (h : ∀ x ∈ l, left (.string x.nm) = true) : leftF l left = bytesF l := by
  unfold leftF bytesF
  congr 1
  exact List.map_congr_left fun x hx => by rw [h x hx]; rfl
theorem leftF_none {l : List Fz} {left : Lit → Bool} (h : ∀ k, left k = false) : leftF l left = 0 := by
  unfold leftF
  induction l with
  | nil => rfl
  | cons x r ih => rw [List.map_cons, List.sum_cons, ih, h]; rfl
theorem sameKey_str (s t : List UInt8) : (Lit.string s).sameKey (.string t) = (s == t) := by simp [Lit.sameKey]
theorem leftF_off {l : List Fz} {s : List UInt8} {left : Lit → Bool} (h : ∀ x ∈ l, x.nm ≠ s) : leftF l (fun z => left z && !z.sameKey (.string s)) = leftF l left := by
  unfold leftF
  congr 1
  refine List.map_congr_left fun x hx => ?_
  have e : (x.nm == s) = false := by simpa using h x hx
  simp only [sameKey_str, e, Bool.not_false, Bool.and_true]
/-- One file is struck. -/
theorem leftF_step : ∀ {l : List Fz} {s : List UInt8} {d : ByteArray} {left : Lit → Bool}, SortedF l → findF l s = some d → left (.string s) = true → leftF l (fun z => left z && !z.sameKey (.string s)) + d.size = leftF l left
  | [], s, d, left, _, h, _ => by simp [findF] at h
  | x :: r, s, d, left, hs, h, hl => by
    obtain ⟨h1, h2⟩ := List.pairwise_cons.1 hs
    rw [findF_cons] at h
    by_cases e : x.nm = s
    · subst e
      simp only [beq_self_eq_true, if_true, Option.some.injEq] at h
      subst h
      have ho := leftF_off (left := left) (l := r) (s := x.nm) fun z hz k => by have := h1 z hz; rw [k] at this; exact lt_irr _ this
      unfold leftF at ho ⊢
      rw [List.map_cons, List.sum_cons, List.map_cons, List.sum_cons, ho]
      simp only [sameKey_str, beq_self_eq_true, Bool.not_true, Bool.and_false, Bool.false_eq_true, if_false, hl, if_true]
      omega
    · have e' : (x.nm == s) = false := by simpa using e
      rw [e'] at h
      have ih := leftF_step h2 (by simpa using h) hl
      unfold leftF at ih ⊢
      rw [List.map_cons, List.sum_cons, List.map_cons, List.sum_cons]
      simp only [sameKey_str, e', Bool.not_false, Bool.and_true]
      simp only [sameKey_str] at ih
      omega
def mkSl (x : Option Addr × Nat × Nat) : Value := .slice x.1 x.2.1 x.2.2
theorem rawE_sl {v : Value} {y : DataW Unit × List MemPlace} (h : rawE v = some y) : ∃ c, v = mkSl c := by
  rcases (rawE_inv h).2 with ⟨rfl, -⟩ | ⟨b, n, c, rfl, -⟩
  · exact ⟨(none, 0, 0), rfl⟩
  · exact ⟨(some ⟨b, 0, none⟩, n, c), rfl⟩
theorem key_str {key : Value} {kl : Lit} (h : keyOf Try.prog 9 key = some kl) : ∃ s : ByteArray, key = .string s ∧ kl = .string s.toList := by
  cases key <;> simp [keyOf, Try.underlying9, mapKey] at h
  obtain ⟨h1, rfl⟩ := h
  exact ⟨_, rfl, by rw [ByteArray.toList_eq]⟩
theorem Byt.len {w : World} {base : Nat} {A : Option Addr} {n c : Nat} {d : ByteArray} (h : Byt w base (.slice A n c) d) : n = d.size := by
  rcases h with ⟨e, h0⟩ | ⟨g, cap, cur, fz, e, -⟩
  · injection e with _ e _; omega
  · injection e with _ e _

set_option maxRecDepth 100000 in
set_option maxHeartbeats 1000000 in
theorem implHaveRoom (base f : Nat) (l : List Fz) (w : World) (h : FilesAt w base f l) (hs : bytesF l ≤ 1073741824) (hn : l.length ≤ 1000000) :
    Calls Try.prog 52 #[.map (some f)] w fun e w' => e = .returned (.bool (roomB l)) ∧ Below w.heap.size w w' := by
  obtain ⟨D, h⟩ := h
  have hsz : ((Maps.size D : Nat) : Int) = (l.length : Int) := by rw [h.num]
  have HS := Lib.hid hs
  have HD := Lib.hid h
  have hown := h.own
  have HL0 := Lib.hid (leftF_all (l := l) (left := Maps.has D) fun x hx => by rw [h.has, findF_hit h.srt hx]; rfl)
  clear hs h
  go_enter Try.func52, Try.ntmps52
  go_wp2_with (at_range; refine wpList_range_own _ rfl _ _ rfl 9 22 lawS Try.underlying71 rawE f _ D rfl hown ?_; intro w0 hrg0 hg0 hs0)
  go_frame
  have hb0 : Below w.heap.size w w0 := (Below.refl _ w).grown hg0 (Nat.le_refl _) fun k hk => by cases hk
  go_loopw [3] (fun s wr => ∃ (left : Lit → Bool) (cnt m : Nat), wr.ranges Try.prog 9 rawE f w.heap.size (Maps.size D) D left cnt ∧ s = .int .i64 m ∧ Hid (m + leftF l left = bytesF l) ∧ Below w.heap.size w wr) (fun _ wr => wr.rangeLeft f w.heap.size)
  case atStart => exact ⟨_, _, 0, hrg0, rfl, Lib.hid (by rw [HL0.out]; omega), hb0⟩
  case round =>
    clear hrg0 hg0 hs0 hb0
    obtain ⟨left, cnt, m, hrg, rfl, hm, hb⟩ := hrel
    go_wp2_with (at_next; refine wpList_next_ranges _ rfl _ rfl 9 lawS rawE Value.string mkSl (fun key kl hk => by obtain ⟨s, rfl, -⟩ := key_str hk; exact ⟨s, rfl⟩) (fun v y hv => rawE_sl hv) f _ _ D left cnt rfl hrg ?g1 ?g2)
    case g1 =>
      intro hc0 hl0
      have hm2 : m = bytesF l := by have := hm.out; rw [leftF_none hl0] at this; omega
      have HA := Lib.hid (show roomB l = (decide ((l.length : Int) ≤ 60) && decide ((m : Int) ≤ 200000)) by
        unfold roomB; rw [← hm2]; congr 1 <;> (congr 1; exact propext ⟨fun h => by omega, fun h => by omega⟩))
      have hown2 := HD.out.own.kept (grown_of_below hb) (by simp)
      clear hm2 hm
      by_cases hle : (l.length : Int) ≤ 60
      · have hle' : decide ((l.length : Int) ≤ 60) = true := decide_eq_true hle
        rw [hle', Bool.true_and] at HA
        go_wp2_with (at_len; refine wpList_len_own _ rfl _ _ rfl 9 22 Try.underlying71 rawE f _ D rfl hown2 ?_)
        go_ret
        exact ⟨retB HA.out.symm, hb⟩
      · have hle' : decide ((l.length : Int) ≤ 60) = false := decide_eq_false hle
        rw [hle', Bool.false_and] at HA
        go_wp2_with (at_len; refine wpList_len_own _ rfl _ _ rfl 9 22 Try.underlying71 rawE f _ D rfl hown2 ?_)
        go_ret
        exact ⟨retB HA.out.symm, hb⟩
    case g2 =>
      intro x A n cc kl y1 y2 w1 cnt1 hkey hlk hv hat hrg1 hlt hgr hsz1 hen
      obtain ⟨s, e, rfl⟩ := key_str hkey
      injection e with e
      subst e
      have hhas := has_true_of_atKey hat
      rw [HD.out.has] at hhas
      obtain ⟨d, hd⟩ := Option.isSome_iff_exists.1 hhas
      obtain ⟨v, hv1, hv2⟩ := HD.out.row _ d hd
      have hy2 : y2 = [] := (rawE_inv hv).1
      have ev : v = mkSl (A, n, cc) := rawE_inj (x := y1) (by have e := hv1; unfold AtN at e; rw [hat] at e; exact e) (by rw [hv, hy2])
      subst ev
      have en : n = d.size := Byt.len hv2
      have hst := leftF_step HD.out.srt hd hlk
      have HN := Lib.hid (show (m + n) + leftF l (fun z => left z && !z.sameKey (.string x.toList)) = bytesF l by have := hm.out; omega)
      have hb1 : Below w.heap.size w w1 := hb.grown hgr (by have := hrg.lt; omega) (fun k hk => by injection hk with hk; omega)
      have m0 : (0 : Int) ≤ (m : Int) + (n : Int) := by omega
      have m1 : (m : Int) + (n : Int) < 4611686018427387904 := by have := HN.out; have := HS.out; omega
      have HLT := Lib.hid (show w1.rangeLeft f w.heap.size < wr.rangeLeft f w.heap.size by rw [hrg1.left_eq, hrg.left_eq]; exact hlt)
      clear hst hv1 hv2 hhas hd hm en hkey hlk hat hv hlt
      dsimp only [mkSl] at hen ⊢
      go_wp2
      go_roundw
      case rel => exact ⟨_, cnt1, m + n, hrg1, by go_num, HN, hb1⟩
      case measure => exact HLT.out
end Go.Proofs.Ytkinegapnknhiaa
