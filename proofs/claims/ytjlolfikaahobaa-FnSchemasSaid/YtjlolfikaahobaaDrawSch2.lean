/-
  Contracts of the drawing of schemas, more: what the functions that draw from them answer.
-/
import Derived.Test.YtjlolfikaahobaaDrawSch
namespace Go.Proofs.Ytjlolfikaahobaa
open Go.RowKit
set_option linter.unusedVariables false
set_option linter.unusedSimpArgs false

/-- A list of a few small tables. -/
def isTbs (v : Value) (w : World) : Prop := ∃ (ok : Nat → Prop) (A : Option Addr) (n c : Nat) (ts : List Tb), v = .slice A n c ∧ n ≤ c ∧ Sl TbR 6 ok w A n ts ∧ szL Tb.sz ts ≤ 1000
def isTxt (m : Nat) (v : Value) (_ : World) : Prop := ∃ s : ByteArray, v = .string s ∧ s.size ≤ m
theorem szL_le {α : Type} (f : α → Nat) (m : Nat) : ∀ l : List α, (∀ x ∈ l, f x ≤ m) → szL f l ≤ l.length + l.length * m
  | [], _ => by simp [szL]
  | x :: l, h => by
    have h1 := szL_le f m l fun y hy => h y (List.mem_cons_of_mem _ hy)
    have h2 := h x (List.mem_cons_self ..)
    unfold szL at h1 ⊢
    rw [List.map_cons, List.sum_cons, List.length_cons, Nat.succ_mul]
    omega
theorem tabs_sl {base : Nat} {w : World} {v : Value} {xs : List (Nat × List Value × Tb)} (hr : w.ownsRow base 34 6 v xs.length (xs.map (·.2.1)).flatten) (ha : ∀ x ∈ xs, TabY base w x.1 x.2.1 x.2.2) : ∃ A c, v = .slice A xs.length c ∧ xs.length ≤ c ∧ c ≤ maxLen ∧ Sl TbR 6 (okF base w) w A xs.length (xs.map (·.2.2)) := by
  rcases hr.2 with ⟨rfl, h0⟩ | ⟨g, cap, cur, rfl, k1, k2, k3, k4, k5, k6⟩
  · exact ⟨none, 0, by rw [h0], by omega, by simp [maxLen], by rw [List.length_map], fun hn => by omega⟩
  · refine ⟨_, cap, rfl, k3, k4, by rw [List.length_map], fun hn => ⟨g, 0, rfl, ⟨k1, lt_of_block k2, fun off => by simp [World.frozen?, k2]⟩, fun i hi => ?_⟩⟩
    have hi' : i < xs.length := by simpa using hi
    have ht := ha _ (List.getElem_mem hi')
    refine ⟨xs[i].2.1, ht.len6, by rw [List.getElem_map]; exact ht.reads, fun j u hj => ?_⟩
    have hj6 : j < 6 := by rw [← ht.len6]; exact (List.getElem?_eq_some_iff.1 hj).1
    have key : ∀ (l : List (List Value)) (i : Nat) (hi : i < l.length), (∀ c ∈ l, c.length = 6) → l.flatten[i * 6 + j]? = l[i][j]? := by
      intro l
      induction l with
      | nil => intro i hi; simp at hi
      | cons x l ih =>
        intro i hi ha
        have hx := ha x (List.mem_cons_self ..)
        cases i with
        | zero => rw [List.flatten_cons, Nat.zero_mul, Nat.zero_add, List.getElem?_append_left (by omega)]; rfl
        | succ i =>
          rw [List.flatten_cons, List.getElem?_append_right (by rw [hx, Nat.succ_mul]; omega), hx, show (i + 1) * 6 + j - 6 = i * 6 + j by rw [Nat.succ_mul]; omega]
          exact ih i (by simpa using hi) fun c hc => ha c (List.mem_cons_of_mem _ hc)
    have e := key (xs.map (·.2.1)) i (by simpa using hi') fun c hc => by
      obtain ⟨y, hy, rfl⟩ := List.mem_map.1 hc
      exact (ha y hy).len6
    rw [List.getElem_map, hj, ← k6, List.getElem?_take, if_pos (by have := Nat.mul_le_mul_right 6 (show i + 1 ≤ xs.length from hi'); rw [Nat.succ_mul] at this; omega)] at e
    rw [Nat.zero_add]
    simp only [World.cell?, k2]
    rw [← Array.getElem?_toList]
    simpa using e
theorem SchY.sl {base : Nat} {w : World} {v : Value} {xs : List (Nat × List Value × Tb)} (h : SchY base w v xs) : ∃ A c, v = .slice A xs.length c ∧ xs.length ≤ c ∧ c ≤ maxLen ∧ Sl TbR 6 (okF base w) w A xs.length (xs.map (·.2.2)) := tabs_sl h.1 h.2.2
theorem tabs_tbs {base m : Nat} {w : World} {v : Value} {xs : List (Nat × List Value × Tb)} (hr : w.ownsRow base 34 6 v xs.length (xs.map (·.2.1)).flatten) (ha : ∀ x ∈ xs, TabY base w x.1 x.2.1 x.2.2) (hl : xs.length ≤ 4) (h2 : ∀ x ∈ xs, x.2.2.sz ≤ m) (hm : m ≤ 200) : isTbs v w := by
  obtain ⟨A, c, rfl, hc, -, hsl⟩ := tabs_sl hr ha
  refine ⟨_, A, _, c, _, rfl, hc, hsl, ?_⟩
  have := szL_le Tb.sz m (xs.map (·.2.2)) fun t ht => by
    obtain ⟨x, hx, rfl⟩ := List.mem_map.1 ht
    exact h2 x hx
  rw [List.length_map] at this
  have h3 : xs.length * m ≤ 4 * m := Nat.mul_le_mul_right _ hl
  omega
theorem isSch.tbs {base m : Nat} {v : Value} {w : World} (h : isSch base m v w) (hm : m ≤ 200) : isTbs v w := by
  obtain ⟨xs, hs, h0, h1, h2⟩ := h
  obtain ⟨A, c, rfl, hc, -, hsl⟩ := hs.sl
  refine ⟨_, A, _, c, _, rfl, hc, hsl, ?_⟩
  have := szL_le Tb.sz m (xs.map (·.2.2)) fun t ht => by
    obtain ⟨x, hx, rfl⟩ := List.mem_map.1 ht
    exact h2 x hx
  rw [List.length_map] at this
  have h3 : xs.length * m ≤ 3 * m := Nat.mul_le_mul_right _ h1
  omega
theorem isSch.hold {base m : Nat} {v : Value} {w w' : World} (h : isSch base m v w) (hh : Hold base w w') : isSch base m v w' := by
  obtain ⟨xs, hs, h0⟩ := h
  exact ⟨xs, hs.hold hh, h0⟩
theorem four_cell {x : Int} (h0 : 0 ≤ x) (h1 : x = 0 ∨ x < 4) {a b c d : ByteArray} (ha : a.size ≤ 4) (hb : b.size ≤ 4) (hc : c.size ≤ 4) (hd : d.size ≤ 4) : ∃ k : Nat, x = k ∧ k < 4 ∧ ∃ t : ByteArray, (0 : Int) ≤ k ∧ (k : Int) < 4 ∧ t.size ≤ 4 ∧ (#[.string a, .string b, .string c, .string d] : Array Value)[k]? = some (.string t) := by
  rcases four h0 h1 rfl with rfl | rfl | rfl | rfl
  · exact ⟨0, rfl, by omega, _, by omega, by omega, ha, rfl⟩
  · exact ⟨1, rfl, by omega, _, by omega, by omega, hb, rfl⟩
  · exact ⟨2, rfl, by omega, _, by omega, by omega, hc, rfl⟩
  · exact ⟨3, rfl, by omega, _, by omega, by omega, hd, rfl⟩
theorem four_l {k : Nat} {t a b c d : ByteArray} (h : (#[.string a, .string b, .string c, .string d] : Array Value)[k]? = some (.string t)) : ∀ hk, ([.string a, .string b, .string c, .string d] : List Value)[k]'hk = .string t := fun hk => by
  rw [← Array.getElem?_toList] at h
  have h2 := List.getElem?_eq_getElem hk
  exact Option.some.inj (h2.symm.trans h)
theorem row_at {xs : Array Value} {k : Nat} {v : Value} (h : xs[k]? = some v) {hk' : k < xs.size} : some xs[k] = some v := by rw [← h, Array.getElem?_eq_getElem hk']

set_option maxRecDepth 100000 in
set_option maxHeartbeats 2000000 in
theorem drawTableAt (a : Option Addr) (len cap : Nat) (zs : List Int) (w : World) (h : IsRow .u8 w a len cap zs) :
    Calls Try.prog 6 #[.slice a len cap] w (Drawn (isPair isTbs (isTxt 4)) w) := by
  have h0 := Rdr.new h 95
  have b0 := (Below.refl w.heap.size w).alloc (Nat.le_refl _) (.cells #[.slice a len cap, .int .i64 0] 95)
  go_enter Try.func6, Try.ntmps6
  go_wp2_with fail
  refine (specOpen _ _ _ _).mono ?_
  rintro e w1 ⟨rfl, rfl⟩
  have hRlt : w.heap.size < (w.alloc (.cells #[.slice a len cap, .int .i64 0] 95)).heap.size := by simp
  generalize w.alloc (.cells #[.slice a len cap, .int .i64 0] 95) = u at *
  go_wp2_with fail
  refine (rdSchema _ _ a len cap zs h0).mono ?_
  rintro e w2 ⟨v, rfl, hsch, hb, hr⟩
  have hlt2 : w.heap.size < w2.heap.size := Nat.lt_of_lt_of_le hRlt hb.size
  have HS := Lib.hid hsch
  have HB := Lib.hid hb
  have HR := Lib.hid hr
  have HA := Lib.hid (hr.alloc (.cells #[.string ⟨#[112]⟩, .string ⟨#[99]⟩, .string ⟨#[116, 114, 101, 101]⟩, .string ⟨#[120]⟩] 9))
  clear hsch hb hr
  go_wp2_with fail
  go_region_with (go_at_call 28; first | (refine (rdBelow _ _ _ a len cap zs (rdr_drewY HA.out)).mono ?_; rintro e w3 ⟨z, rfl, ⟨x, rfl, x0, x1⟩, hb3', hr3⟩; have hb3 := but_undrewY hb3'; obtain ⟨k, rfl, k6, t, k0, k1, ht, hc⟩ := four_cell x0 x1 (a := ⟨#[112]⟩) (b := ⟨#[99]⟩) (c := ⟨#[116, 114, 101, 101]⟩) (d := ⟨#[120]⟩) (by decide) (by decide) (by decide) (by decide); have c0 := (new_cell hb3 hlt2 k (by simpa using k6)).trans (row_at hc)) | (refine (rdBelow _ _ _ a len cap zs (rdr_drewY HR.out)).mono ?_; rintro e w3 ⟨z, rfl, ⟨x, rfl, x0, x1⟩, hb3', hr3⟩; have hb3 := but_undrewY hb3'; obtain ⟨k, rfl, k6, t, k0, k1, ht, hc⟩ := four_cell x0 x1 (a := ⟨#[112]⟩) (b := ⟨#[99]⟩) (c := ⟨#[116, 114, 101, 101]⟩) (d := ⟨#[120]⟩) (by decide) (by decide) (by decide) (by decide); have hl := four_l hc))
  all_goals
    go_wp2_with fail
    first | go_ret2 | go_ret | skip
  all_goals first
    | exact ⟨_, rfl, ⟨_, _, rfl, (HS.out.hold ((Hold.alloc _ _ _).trans (Hold.but hb3 hRlt))).tbs (by omega), ⟨_, rfl, ht⟩⟩, b0.trans (((HB.out.alloc _).trans hb3).below (Nat.le_refl _) (Nat.le_of_lt hRlt))⟩
    | exact ⟨_, rfl, ⟨_, _, rfl, (HS.out.hold ((Hold.but hb3 hRlt).trans (Hold.alloc _ _ _))).tbs (by omega), ⟨_, rfl, ht⟩⟩, b0.trans (((HB.out.trans hb3).alloc _).below (Nat.le_refl _) (Nat.le_of_lt hRlt))⟩

theorem drawRefers (a : Option Addr) (len cap : Nat) (zs : List Int) (w : World) (h : IsRow .u8 w a len cap zs) :
    Calls Try.prog 12 #[.slice a len cap] w (Drawn (isPair isTbs (isTxt 4)) w) := by
  go_enter Try.func12, Try.ntmps12
  go_wp2_with fail
  refine (drawTableAt a len cap zs w h).mono ?_
  rintro e w1 ⟨v, rfl, ⟨x, y, rfl, hx, hy⟩, hb⟩
  go_wp2_with fail
  go_ret2
  exact ⟨_, rfl, ⟨x, y, rfl, hx, hy⟩, hb⟩
end Go.Proofs.Ytjlolfikaahobaa
