/-
  Several texts in one: what the proof leans on, part 4.
-/
import Derived.Test.YteiifabdbkpkiaaGreatPa
import Derived.Test.YteiifabdbkpkiaaGreatPb
import Derived.Maps.AppendAt
import Derived.Deep.RegionWith
import Derived.Deep.RegionHeld3
import Derived.Deep.CutRange
import Derived.BigRegion
import Derived.IntWalk
set_option linter.unusedVariables false
set_option linter.unusedSimpArgs false
namespace Go.Proofs.YteiifabdbkpkiaaGreat
open Go.RowKit
theorem szL_mem {α : Type} (f : α → Nat) (l : List α) (y : α) (h : y ∈ l) : f y ≤ szL f l := by
 obtain ⟨i, hi, rfl⟩ := List.mem_iff_getElem.1 h
 have := sum_mem_le f l i hi
 unfold szL
 omega
theorem infoIntI : (Tryz.prog.info? 2).map (fun i => (i.zero, i.size, i.bytes)) = some (some (.int .i64 0), 1, 8) := by kernel_rfl
def OwnI (w : World) (base : Nat) (v : Value) (xs : List Int) : Prop := w.ownsRow base 2 1 v xs.length (xs.map (Value.int .i64))
theorem OwnI.nil (w : World) (base : Nat) : OwnI w base (.slice none 0 0) [] := World.ownsRow_nil _ _ _ _
theorem OwnI.below {w w' : World} {base : Nat} {v : Value} {xs : List Int} (h : OwnI w base v xs) (hb : Below w.heap.size w w') : OwnI w' base v xs := by
 refine ⟨h.1, ?_⟩
 rcases h.2 with h | ⟨g, cap, cur, rfl, h1, h2, h3⟩
 ·exact .inl h
 ·exact .inr ⟨g, cap, cur, rfl, h1, (hb.block g (lt_of_block h2)).trans h2, h3⟩
theorem OwnI.lit (w : World) {base : Nat} (hb : base ≤ w.heap.size) : OwnI (w.alloc (.cells #[] 2)) base (.slice (some ⟨w.heap.size, 0, none⟩) 0 0) [] :=
 ⟨rfl, .inr ⟨w.heap.size, 0, #[], rfl, hb, Go.heap_alloc_last w _, Nat.le_refl _, by simp [maxLen], rfl, rfl⟩⟩
theorem OwnI.sl {w : World} {base : Nat} {v : Value} {xs : List Int} (h : OwnI w base v xs) : ∃ A c, v = .slice A xs.length c ∧ xs.length ≤ c ∧ c ≤ maxLen ∧ Sl IntR 1 (okF base w) w A xs.length xs := by
 rcases h.2 with ⟨rfl, hn⟩ | ⟨g, cap, cur, rfl, h1, h2, h3, h4, h5, h6⟩
 ·exact ⟨none, 0, by rw [hn], by omega, by simp [maxLen], rfl, fun h => by omega⟩
 ·refine ⟨_, cap, rfl, h3, h4, rfl, fun hn => ⟨g, 0, rfl, ⟨h1, lt_of_block h2, fun off => by simp [World.frozen?, h2]⟩, fun i hi => ⟨[.int .i64 xs[i]], rfl, rfl, fun j x hx => ?_⟩⟩⟩
  have hj : j = 0 := by have := (List.getElem?_eq_some_iff.1 hx).1; simpa using this
  subst hj
  obtain rfl := Option.some.inj hx
  rw [cell_of_row _ _ _ _ _ _ h2, Nat.zero_add, Nat.mul_one, Nat.add_zero]
  have h7 : (cur.toList.take (xs.length * 1))[i]? = some (.int .i64 xs[i]) := by rw [h6, List.getElem?_map, List.getElem?_eq_getElem hi]; rfl
  rw [List.getElem?_take, if_pos (by omega)] at h7
  rw [← Array.getElem?_toList]
  exact h7
theorem OwnI.block_lt {w : World} {base : Nat} {v : Value} {xs : List Int} (h : OwnI w base v xs) : ∀ k, v.ownBlock = some k → base ≤ k ∧ k < w.heap.size := World.ownsRow.lt h
theorem OwnI.app {w w' : World} {base : Nat} {v v' : Value} {xs : List Int} {x : Int} {o : Obj} (h : OwnI w base v xs) (hb : base ≤ w.heap.size)
  (h' : w'.ownsRow base 2 1 v' (xs.length + 1) (xs.map (Value.int .i64) ++ [.int .i64 x])) (hg : (w.alloc o).grownBy w' v.ownBlock) : OwnI w' base v' (xs ++ [x]) ∧ Below base w w' :=
 ⟨by unfold OwnI; rw [List.length_append, List.map_append]; exact h', ((Below.refl base w).alloc hb o).grown hg (by simp; omega) fun k hk => (h.block_lt k hk).1⟩
end Go.Proofs.YteiifabdbkpkiaaGreat
namespace Go.Proofs.YteiifabdbkpkiaaGreat
open Go.RowKit
theorem flat_get {sz : Nat} : ∀ (l : List (List Value)) (i j : Nat) (hi : i < l.length) (hj : j < sz), (∀ c ∈ l, c.length = sz) → l.flatten[i * sz + j]? = (l[i])[j]?
 | [], i, j, hi, _, _ => by simp at hi
 | c :: cs, i, j, hi, hj, hz => by
  have hc := hz c (by simp)
  cases i with
  | zero => simp only [List.getElem_cons_zero, List.flatten_cons, Nat.zero_mul, Nat.zero_add]; rw [List.getElem?_append_left (by omega)]
  | succ i =>
   simp only [List.getElem_cons_succ]
   rw [List.flatten_cons, List.getElem?_append_right (by rw [hc, Nat.add_mul]; omega), hc, show (i + 1) * sz + j - sz = i * sz + j by rw [Nat.add_mul]; omega]
   exact flat_get cs i j (by simpa using hi) hj fun d hd => hz d (by simp [hd])
theorem flat_len {sz : Nat} : ∀ (l : List (List Value)), (∀ c ∈ l, c.length = sz) → l.flatten.length = l.length * sz
 | [], _ => by simp
 | c :: cs, h => by
  rw [List.flatten_cons, List.length_append, h c (by simp), flat_len cs fun d hd => h d (by simp [hd]), List.length_cons, Nat.add_mul]; omega
def OwnG {α : Type} (T : TypeId) (sz : Nat) (f : α → List Value) (w : World) (base : Nat) (v : Value) (xs : List α) : Prop := w.ownsRow base T sz v xs.length ((xs.map f).flatten)
section
variable {α : Type} {T : TypeId} {sz : Nat} {f : α → List Value}
theorem OwnG.below {w w' : World} {base : Nat} {v : Value} {xs : List α} (h : OwnG T sz f w base v xs) (hb : Below w.heap.size w w') : OwnG T sz f w' base v xs := by
 refine ⟨h.1, ?_⟩
 rcases h.2 with h | ⟨g, cap, cur, rfl, h1, h2, h3⟩
 ·exact .inl h
 ·exact .inr ⟨g, cap, cur, rfl, h1, (hb.block g (lt_of_block h2)).trans h2, h3⟩
theorem OwnG.lit (w : World) {base : Nat} (hb : base ≤ w.heap.size) : OwnG T sz f (w.alloc (.cells #[] T)) base (.slice (some ⟨w.heap.size, 0, none⟩) 0 0) ([] : List α) :=
 ⟨by simp, .inr ⟨w.heap.size, 0, #[], rfl, hb, Go.heap_alloc_last w _, Nat.le_refl _, by simp [maxLen], by simp, by simp⟩⟩
theorem OwnG.sl (hf : ∀ d, (f d).length = sz) {w : World} {base : Nat} {v : Value} {xs : List α} (h : OwnG T sz f w base v xs) : ∃ A c, v = .slice A xs.length c ∧ xs.length ≤ c ∧ c ≤ maxLen ∧ Sl (FlatR f) sz (okF base w) w A xs.length xs := by
 rcases h.2 with ⟨rfl, hn⟩ | ⟨g, cap, cur, rfl, h1, h2, h3, h4, h5, h6⟩
 ·exact ⟨none, 0, by rw [hn], by omega, by simp [maxLen], rfl, fun h => by omega⟩
 ·refine ⟨_, cap, rfl, h3, h4, rfl, fun hn => ⟨g, 0, rfl, ⟨h1, lt_of_block h2, fun off => by simp [World.frozen?, h2]⟩, fun i hi => ⟨f xs[i], hf _, rfl, fun j x hx => ?_⟩⟩⟩
  have hj : j < sz := by have := (List.getElem?_eq_some_iff.1 hx).1; rw [hf] at this; exact this
  rw [cell_of_row _ _ _ _ _ _ h2, Nat.zero_add]
  have hlt : i * sz + j < xs.length * sz := by have : (i + 1) * sz ≤ xs.length * sz := Nat.mul_le_mul_right _ hi; rw [Nat.add_mul] at this; omega
  have h7 := flat_get (sz := sz) (xs.map f) i j (by simpa using hi) hj (fun c hc => by obtain ⟨d, _, rfl⟩ := List.mem_map.1 hc; exact hf d)
  rw [List.getElem_map, hx, ← h6, List.getElem?_take, if_pos hlt] at h7
  rw [← Array.getElem?_toList]
  exact h7
theorem OwnG.block_lt {w : World} {base : Nat} {v : Value} {xs : List α} (h : OwnG T sz f w base v xs) : ∀ k, v.ownBlock = some k → base ≤ k ∧ k < w.heap.size := World.ownsRow.lt h
theorem OwnG.app {w w' : World} {base : Nat} {v v' : Value} {xs : List α} {x : α} {o : Obj} (h : OwnG T sz f w base v xs) (hb : base ≤ w.heap.size)
  (h' : w'.ownsRow base T sz v' (xs.length + 1) ((xs.map f).flatten ++ f x)) (hg : (w.alloc o).grownBy w' v.ownBlock) : OwnG T sz f w' base v' (xs ++ [x]) ∧ Below base w w' :=
 ⟨by unfold OwnG; rw [List.length_append, List.map_append, List.flatten_append]; simpa using h', ((Below.refl base w).alloc hb o).grown hg (by simp; omega) fun k hk => (h.block_lt k hk).1⟩
end
theorem cells_new (w : World) (l : List Value) (t : TypeId) : ∀ j u, l[j]? = some u → (w.alloc (.cells l.toArray t)).cell? ((⟨w.heap.size, 0, none⟩ : Addr).add j) = some u := by
 intro j u hj
 rw [addr_add, Nat.zero_add, cell_of_row _ _ _ _ _ _ (Go.heap_alloc_last w _)]
 simpa using hj
theorem cells_newAt (w : World) (l : List Value) (t : TypeId) {g : Nat} (hg : g = w.heap.size) : ∀ j u, l[j]? = some u → (w.alloc (.cells l.toArray t)).cell? ((⟨g, 0, none⟩ : Addr).add j) = some u := by
 subst hg
 exact cells_new w l t
end Go.Proofs.YteiifabdbkpkiaaGreat
namespace Go.Proofs.YteiifabdbkpkiaaGreat
open Go.RowKit
structure Rdr (w : World) (R : Nat) (a : Option Addr) (len cap : Nat) (zs : List Int) : Prop where
 code : w.cell? ⟨R, 0, none⟩ = some (.slice a len cap)
 place : ∃ p : Nat, p ≤ len ∧ w.cell? ⟨R, 1, none⟩ = some (.int .i64 p)
 free : w.frozen? ⟨R, 1, none⟩ = false
 row : IsRow .u8 w a len cap zs
 apart : ∀ x, a = some x → 0 < cap → x.block ≠ R
def Drew (R : Nat) (a : Option Addr) (len cap : Nat) (zs : List Int) (P : Value → World → Prop) (w : World) (e : Ending) (w' : World) : Prop :=
 ∃ v, e = .returned v ∧ P v w' ∧ But R w w' ∧ Rdr w' R a len cap zs
def isInt (lo hi : Int) (v : Value) (_ : World) : Prop := ∃ n : Int, v = .int .i64 n ∧ lo ≤ n ∧ n ≤ hi
theorem Rdr.drewN {w : World} {R : Nat} {a : Option Addr} {len cap : Nat} {zs : List Int} (h : Rdr w R a len cap zs) (n : Nat) : Rdr (w.drewN n) R a len cap zs := ⟨h.code, h.place, h.free, h.row, h.apart⟩
theorem Rdr.step {w : World} {R : Nat} {a : Option Addr} {len cap : Nat} {zs : List Int} (h : Rdr w R a len cap zs) (p : Nat) (hp : p ≤ len) (n : Nat) : Rdr ((w.drewN n).setCell ⟨R, 1, none⟩ (.int .i64 p)) R a len cap zs := by
 obtain ⟨q, _, hq⟩ := h.place
 exact ⟨(World.cell?_setCell_other _ _ _ _ (by simp)).trans h.code, ⟨p, hp, World.cell?_setCell_same _ _ _ (u := .int .i64 q) hq⟩, (World.frozen?_setCell _ _ _ _).trans h.free,
  h.row.but (((But.refl R w).drewN n).setCell rfl _) h.apart, h.apart⟩
set_option maxHeartbeats 400000 in
theorem rdNext (w : World) (R : Nat) (a : Option Addr) (len cap : Nat) (zs : List Int) (h : Rdr w R a len cap zs) :
  Calls Tryz.prog 32 #[.pointer (some ⟨R, 0, none⟩)] w (Drew R a len cap zs (isInt 0 255) w) := by
 have hc0 := h.code
 obtain ⟨p, hp, hc1⟩ := h.place
 have hfz := h.free
 have hlen := h.row.len_le
 by_cases hlt : p < len
 ·have hge : decide ((len : Int) ≤ p) = false := by simp; omega
  go_enter Tryz.func32, Tryz.ntmps32
  go_wp2
  go_quiet (fail)
  go_wp2
  have h2 := h.step (p + 1) (by omega) nq
  have hb := ((But.refl R w).drewN nq).setCell (p := ⟨R, 1, none⟩) rfl (.int .i64 ((p + 1 : Nat) : Int))
  have d1 := World.cell?_setCell_same (w.drewN nq) ⟨R, 1, none⟩ (.int .i64 ((p + 1 : Nat) : Int)) (u := .int .i64 p) hc1
  rw [show ((p + 1 : Nat) : Int) = (p : Int) + 1 by omega] at h2 hb d1
  generalize (w.drewN nq).setCell ⟨R, 1, none⟩ (.int .i64 ((p : Int) + 1)) = w2 at *
  clear hc0 hc1 hfz hge
  have d0 := h2.code
  obtain ⟨b, off, z, ha, hz, z0, z1⟩ := h2.row.byte hlt
  subst ha
  have H2 := Lib.hid h2; have HB := Lib.hid hb
  clear h2 hb h
  go_quiet (fail)
  go_wp2
  go_ret
  exact ⟨_, rfl, ⟨z, rfl, z0, z1⟩, HB.out.drewN _, H2.out.drewN _⟩
 ·go_enter Tryz.func32, Tryz.ntmps32
  go_wp2
  go_quiet (fail)
  go_wp2
  go_ret
  exact ⟨_, rfl, ⟨0, rfl, by omega, by omega⟩, (But.refl _ _).drewN _, ⟨hc0, ⟨p, hp, hc1⟩, hfz, h.row, h.apart⟩⟩
def isBelow (n : Int) (v : Value) (_ : World) : Prop := ∃ r : Int, v = .int .i64 r ∧ 0 ≤ r ∧ (r = 0 ∨ r < n)
set_option maxHeartbeats 400000 in
theorem rdBelow (n : Int) (w : World) (R : Nat) (a : Option Addr) (len cap : Nat) (zs : List Int) (h : Rdr w R a len cap zs) :
  Calls Tryz.prog 14 #[.pointer (some ⟨R, 0, none⟩), .int .i64 n] w (Drew R a len cap zs (isBelow n) w) := by
 by_cases h1 : n ≤ 1
 ·go_enter Tryz.func14, Tryz.ntmps14
  go_wp2
  go_ret
  exact ⟨_, rfl, ⟨0, rfl, by omega, .inl rfl⟩, But.refl _ _, h⟩
 by_cases h2 : n ≤ 256
 ·have g1 : 1 < n := by omega
  go_enter Tryz.func14, Tryz.ntmps14
  go_wp2_with fail
  refine (rdNext w R a len cap zs h).mono ?_
  rintro e w' ⟨v, rfl, ⟨x, rfl, x0, x1⟩, hb, hr⟩
  go_wp2_with fail
  go_ret
  exact ⟨_, rfl, ⟨x % n, rfl, Int.emod_nonneg _ (by omega), .inr (Int.emod_lt_of_pos _ (by omega))⟩, hb, hr⟩
 ·have g1 : 256 < n := by omega
  go_enter Tryz.func14, Tryz.ntmps14
  go_wp2_with fail
  refine (rdNext w R a len cap zs h).mono ?_
  rintro e w' ⟨v, rfl, ⟨x, rfl, x0, x1⟩, hb, hr⟩
  go_wp2_with fail
  refine (rdNext w' R a len cap zs hr).mono ?_
  rintro e w2 ⟨v, rfl, ⟨y, rfl, y0, y1⟩, hb2, hr2⟩
  go_wp2_with fail
  go_ret
  exact ⟨_, rfl, ⟨(x * 256 + y) % n, rfl, Int.emod_nonneg _ (by omega), .inr (Int.emod_lt_of_pos _ (by omega))⟩, hb.trans hb2, hr2⟩
def isBool (v : Value) (_ : World) : Prop := ∃ b : Bool, v = .bool b
theorem rdOnce (n : Int) (w : World) (R : Nat) (a : Option Addr) (len cap : Nat) (zs : List Int) (h : Rdr w R a len cap zs) :
  Calls Tryz.prog 16 #[.pointer (some ⟨R, 0, none⟩), .int .i64 n] w (Drew R a len cap zs isBool w) := by
 go_enter Tryz.func16, Tryz.ntmps16
 go_wp2_with fail
 refine (rdBelow n w R a len cap zs h).mono ?_
 rintro e w' ⟨v, rfl, ⟨x, rfl, x0, x1⟩, hb, hr⟩
 go_wp2_with fail
 go_ret
 exact ⟨_, rfl, ⟨_, rfl⟩, hb, hr⟩
def isU64 (v : Value) (_ : World) : Prop := ∃ n : Int, v = .int .u64 n ∧ (Lit.int .u64 n).wf = true
set_option maxHeartbeats 1000000 in
theorem rdWord (w : World) (R : Nat) (a : Option Addr) (len cap : Nat) (zs : List Int) (h : Rdr w R a len cap zs) :
  Calls Tryz.prog 66 #[.pointer (some ⟨R, 0, none⟩)] w (Drew R a len cap zs isU64 w) := by
 go_enter Tryz.func66, Tryz.ntmps66
 go_wp2
 go_loopw [3, 4] (fun x i wr => ∃ (k : Nat) (n : Int), k ≤ 8 ∧ i = .int .i64 k ∧ x = .int .u64 n ∧ Hid ((Lit.int .u64 n).wf = true) ∧ But R w wr ∧ Rdr wr R a len cap zs) (fun _ i _ => 8 - (intOf i).toNat)
 case atStart => exact ⟨0, 0, by omega, rfl, rfl, Lib.hid (by decide), But.refl _ _, h⟩
 case round =>
  obtain ⟨k, n, hk, rfl, rfl, hn, hb, hr⟩ := hrel
  by_cases hlt : k < 8
  ·go_wp2_with fail
   refine (rdNext wr R a len cap zs hr).mono ?_
   rintro e w' ⟨v, rfl, ⟨x, rfl, x0, x1⟩, hb2, hr2⟩
   go_wp2_with fail
   go_roundw
   case rel => exact ⟨k + 1, _, by omega, by go_num, rfl, Lib.hid (wf_bits _ _ _ _), hb.trans hb2, hr2⟩
   case measure => simp [intOf]; omega
  ·go_wp2
   go_ret
   exact ⟨_, rfl, ⟨n, rfl, hn.out⟩, hb, hr⟩
set_option maxHeartbeats 400000 in
theorem rdNear (lo hi : Int) (h1 : -2000000000 ≤ lo) (h2 : lo ≤ hi) (h3 : hi ≤ 2000000000) (w : World) (R : Nat) (a : Option Addr) (len cap : Nat) (zs : List Int) (h : Rdr w R a len cap zs) :
  Calls Tryz.prog 47 #[.pointer (some ⟨R, 0, none⟩), .int .i64 lo, .int .i64 hi] w (Drew R a len cap zs (isInt lo hi) w) := by
 go_enter Tryz.func47, Tryz.ntmps47
 go_wp2_with fail
 refine (rdBelow _ w R a len cap zs h).mono ?_
 rintro e w' ⟨v, rfl, ⟨x, rfl, x0, x1⟩, hb, hr⟩
 by_cases c0 : x = 0
 ·subst c0
  go_wp2
  go_ret
  exact ⟨_, rfl, ⟨lo, rfl, by omega, by omega⟩, hb, hr⟩
 by_cases c1 : x = 1
 ·subst c1
  go_wp2
  go_ret
  exact ⟨_, rfl, ⟨hi, rfl, by omega, by omega⟩, hb, hr⟩
 have d0 : (x == 0) = false := by simpa using c0
 have d1 : (x == 1) = false := by simpa using c1
 go_wp2_with fail
 refine (rdWord w' R a len cap zs hr).mono ?_
 rintro e w2 ⟨v, rfl, ⟨y, rfl, hy⟩, hb2, hr2⟩
 obtain ⟨y0, y1⟩ := bounds_u64 hy
 clear hy
 go_wp2_with fail
 go_ret
 have m0 := Int.emod_nonneg (y / 2) (show hi - lo + 1 ≠ 0 by omega)
 have m1 := Int.emod_lt_of_pos (y / 2) (show 0 < hi - lo + 1 by omega)
 exact ⟨_, rfl, ⟨_, rfl, by unfold wrap64; omega, by unfold wrap64; omega⟩, hb.trans hb2, hr2⟩
theorem Rdr.alloc {w : World} {R : Nat} {a : Option Addr} {len cap : Nat} {zs : List Int} (h : Rdr w R a len cap zs) (o : Obj) : Rdr (w.alloc o) R a len cap zs := by
 obtain ⟨p, hp, hc1⟩ := h.place
 have hlt : R < w.heap.size := cell_lt h.code
 have hb : But (w.heap.size) w (w.alloc o) := (But.refl _ _).alloc o
 exact ⟨(hb.cell hlt (Nat.ne_of_lt hlt)).trans h.code, ⟨p, hp, (hb.cell hlt (Nat.ne_of_lt hlt)).trans hc1⟩, (hb.frozen hlt (Nat.ne_of_lt hlt)).trans h.free,
  h.row.but ((But.refl R w).alloc o) h.apart, h.apart⟩
theorem new_cell {R : Nat} {w w' : World} {xs : Array Value} {T : TypeId} (hb : But R (w.alloc (.cells xs T)) w') (hR : R < w.heap.size) (k : Nat) (hk : k < xs.size) : w'.cell? ⟨w.heap.size, k, none⟩ = some xs[k] := by
 rw [hb.cell (by simp) (by simpa using Nat.ne_of_gt hR), World.cell?_alloc_new]
 simp [hk]
theorem new_free {R : Nat} {w w' : World} {xs : Array Value} {T : TypeId} (hb : But R (w.alloc (.cells xs T)) w') (hR : R < w.heap.size) (k : Nat) : w'.frozen? ⟨w.heap.size, k, none⟩ = false := by
 rw [hb.frozen (by simp) (by simpa using Nat.ne_of_gt hR)]
 exact World.frozen?_alloc_at xs T _ k rfl
theorem Rdr.setNew {w w' : World} {R : Nat} {a : Option Addr} {len cap : Nat} {zs : List Int} (h0 : Rdr w R a len cap zs) (h : Rdr w' R a len cap zs) {p : Addr} (hp : w.heap.size ≤ p.block) (v : Value) : Rdr (w'.setCell p v) R a len cap zs := by
 have hR : R < w.heap.size := cell_lt h0.code
 have hc : ∀ q : Addr, q.block < w.heap.size → (w'.setCell p v).cell? q = w'.cell? q := fun q hq => World.cell?_setCell_other _ _ _ _ (fun e => by subst e; omega)
 obtain ⟨i, hi, hi1⟩ := h.place
 refine ⟨(hc _ hR).trans h.code, ⟨i, hi, (hc _ hR).trans hi1⟩, (World.frozen?_setCell _ _ _ _).trans h.free, ?_, h.apart⟩
 rcases h0.row with e | ⟨x, rfl, hl, hm, hz, hcell, hwz⟩
 ·exact .inl e
 ·rcases h.row with ⟨e, _⟩ | ⟨x', e, _, _, _, hcell', _⟩
  ·cases e
  ·cases e
   exact .inr ⟨x, rfl, hl, hm, hz, fun i hi => (hc _ (cell_lt (hcell i hi))).trans (hcell' i hi), hwz⟩
theorem short_str {xs : List Value} (h : ∀ v ∈ xs, ∃ s : ByteArray, v = .string s ∧ s.size ≤ 12) {j : Nat} (hj : j < xs.length) : ∃ s : ByteArray, xs[j] = .string s ∧ s.size ≤ 12 := h _ (List.getElem_mem _)
theorem small_int {xs : List Value} (h : ∀ v ∈ xs, ∃ n : Int, v = .int .i64 n ∧ -1000000000 ≤ n ∧ n ≤ 1000000000) {j : Nat} (hj : j < xs.length) : ∃ n : Int, xs[j] = .int .i64 n ∧ -1000000000 ≤ n ∧ n ≤ 1000000000 := h _ (List.getElem_mem _)
theorem below_nat {y n : Int} (h0 : 0 ≤ y) (h1 : y = 0 ∨ y < n) (hn : 0 < n) : ∃ j : Nat, y = (j : Int) ∧ (j : Int) < n := by
 obtain ⟨j, rfl⟩ := Int.eq_ofNat_of_zero_le h0
 exact ⟨j, rfl, by omega⟩
theorem four {x n : Int} (h0 : 0 ≤ x) (h1 : x = 0 ∨ x < n) (hn : n = 4) : x = 0 ∨ x = 1 ∨ x = 2 ∨ x = 3 := by omega
set_option maxHeartbeats 400000 in
theorem rdOff (lo hi : Int) (h1 : -2000000000 ≤ lo) (h2 : lo ≤ hi) (h3 : hi ≤ 2000000000) (w : World) (R : Nat) (a : Option Addr) (len cap : Nat) (zs : List Int) (h : Rdr w R a len cap zs) :
  Calls Tryz.prog 30 #[.pointer (some ⟨R, 0, none⟩), .int .i64 lo, .int .i64 hi] w (Drew R a len cap zs (isInt (-9223372036854775808) 9223372036854775807) w) := by
 go_enter Tryz.func30, Tryz.ntmps30
 go_wp2_with fail
 refine (rdOnce _ w R a len cap zs h).mono ?_
 rintro e w' ⟨v, rfl, ⟨x, rfl⟩, hb, hr⟩
 have hlt : R < w'.heap.size := cell_lt hr.code
 cases x with
 | false =>
  go_wp2_with fail
  refine (rdNear lo hi h1 h2 h3 w' R a len cap zs hr).mono ?_
  rintro e w2 ⟨v, rfl, ⟨y, rfl, y0, y1⟩, hb2, hr2⟩
  go_wp2_with fail
  go_ret
  exact ⟨_, rfl, ⟨_, rfl, by omega, by omega⟩, hb.trans hb2, hr2⟩
 | true =>
  go_wp2_with fail
  refine (rdBelow _ _ R a len cap zs (hr.alloc _)).mono ?_
  rintro e w2 ⟨v, rfl, ⟨y, rfl, y0, y1⟩, hb2, hr2⟩
  have hb3 := (hb.alloc _).trans hb2
  rcases four y0 y1 rfl with rfl | rfl | rfl | rfl
  ·have c := new_cell hb2 hlt 0 (by simp)
   go_wp2_with fail
   go_ret
   exact ⟨_, rfl, ⟨_, rfl, by omega, by omega⟩, hb3, hr2⟩
  ·have c := new_cell hb2 hlt 1 (by simp)
   go_wp2_with fail
   go_ret
   exact ⟨_, rfl, ⟨_, rfl, by omega, by omega⟩, hb3, hr2⟩
  ·have c := new_cell hb2 hlt 2 (by simp)
   go_wp2_with fail
   go_ret
   exact ⟨_, rfl, ⟨_, rfl, by omega, by omega⟩, hb3, hr2⟩
  ·have c := new_cell hb2 hlt 3 (by simp)
   go_wp2_with fail
   go_ret
   exact ⟨_, rfl, ⟨_, rfl, by omega, by omega⟩, hb3, hr2⟩
def okV (k n : Int) (s : ByteArray) : Prop := (k = 0 ∧ n = 0 ∧ s = ⟨#[]⟩) ∨ (k = 1 ∧ -1000000000 ≤ n ∧ n ≤ 1000000000 ∧ s = ⟨#[]⟩) ∨ (k = 2 ∧ n = 0 ∧ s.size ≤ 12)
def isOkVal (v : Value) (_ : World) : Prop := ∃ k n s, v = .agg #[.int .i64 k, .int .i64 n, .string s] ∧ okV k n s
set_option maxHeartbeats 400000 in
theorem rdVal (w : World) (R : Nat) (a : Option Addr) (len cap : Nat) (zs : List Int) (h : Rdr w R a len cap zs) :
  Calls Tryz.prog 34 #[.pointer (some ⟨R, 0, none⟩)] w (Drew R a len cap zs isOkVal w) := by
 have hlt : R < w.heap.size := cell_lt h.code
 go_enter Tryz.func34, Tryz.ntmps34
 go_wp2_with fail
 refine (rdBelow _ _ R a len cap zs (h.alloc _)).mono ?_
 rintro e w' ⟨v, rfl, ⟨x, rfl, x0, x1⟩, hb, hr⟩
 have hb1 := ((But.refl R w).alloc _).trans hb
 have q0 := new_cell hb hlt 0 (by simp)
 have q1 := new_cell hb hlt 1 (by simp)
 have q2 := new_cell hb hlt 2 (by simp)
 simp only [List.getElem_toArray, List.getElem_cons_zero, List.getElem_cons_succ] at q0 q1 q2
 have f0 := new_free hb hlt 0
 have f1 := new_free hb hlt 1
 have f2 := new_free hb hlt 2
 have hx : x = 0 ∨ x = 1 ∨ x = 2 ∨ x = 3 ∨ x = 4 ∨ 4 < x := by omega
 rcases hx with rfl | rfl | rfl | rfl | rfl | hx
 ·go_wp2_with fail
  exact bodyPost_ret (v := .agg #[.int .i64 0, .int .i64 0, .string ⟨#[]⟩]) (by simp [results, Tryz.results34, go_sem, q0, q1, q2]) rfl
   ⟨_, rfl, ⟨0, 0, _, rfl, .inl ⟨rfl, rfl, rfl⟩⟩, ((hb1.setNew (Nat.le_refl _) _).setNew (Nat.le_refl _) _).setNew (Nat.le_refl _) _,
    h.setNew (h.setNew (h.setNew hr (Nat.le_refl _) _) (Nat.le_refl _) _) (Nat.le_refl _) _⟩
 ·go_wp2_with fail
  exact bodyPost_ret (v := .agg #[.int .i64 0, .int .i64 0, .string ⟨#[]⟩]) (by simp [results, Tryz.results34, go_sem, q0, q1, q2]) rfl
   ⟨_, rfl, ⟨0, 0, _, rfl, .inl ⟨rfl, rfl, rfl⟩⟩, ((hb1.setNew (Nat.le_refl _) _).setNew (Nat.le_refl _) _).setNew (Nat.le_refl _) _,
    h.setNew (h.setNew (h.setNew hr (Nat.le_refl _) _) (Nat.le_refl _) _) (Nat.le_refl _) _⟩
 ·have hlt2 : R < w'.heap.size := cell_lt hr.code
  have hs : w.heap.size < w'.heap.size := by have := hb.size; simp at this; omega
  go_wp2_with fail
  refine (rdBelow _ _ R a len cap zs (hr.alloc _)).mono ?_
  rintro e w2 ⟨v, rfl, ⟨y, rfl, y0, y1⟩, hb2, hr2⟩
  have hb3 := ((But.refl R w').alloc _).trans hb2
  have p0 := (hb3.cell (p := ⟨w.heap.size, 0, none⟩) hs (Nat.ne_of_gt hlt)).trans q0
  have p1 := (hb3.cell (p := ⟨w.heap.size, 1, none⟩) hs (Nat.ne_of_gt hlt)).trans q1
  have p2 := (hb3.cell (p := ⟨w.heap.size, 2, none⟩) hs (Nat.ne_of_gt hlt)).trans q2
  have g0 := (hb3.frozen (p := ⟨w.heap.size, 0, none⟩) hs (Nat.ne_of_gt hlt)).trans f0
  have g1 := (hb3.frozen (p := ⟨w.heap.size, 1, none⟩) hs (Nat.ne_of_gt hlt)).trans f1
  have g2 := (hb3.frozen (p := ⟨w.heap.size, 2, none⟩) hs (Nat.ne_of_gt hlt)).trans f2
  obtain ⟨j, rfl, hj⟩ := below_nat y0 y1 (by omega)
  have hb4 := hb1.trans hb3
  have hs2 : w.heap.size < w2.heap.size := Nat.lt_of_lt_of_le hs hb3.size
  have hj' : j < 6 := by omega
  have hcj := new_cell hb2 hlt2 j (by simpa using hj')
  obtain ⟨s, es, hs12⟩ := short_str (xs := [Value.string ⟨#[]⟩, .string ⟨#[97]⟩, .string ⟨#[98]⟩, .string ⟨#[97, 32, 98]⟩, .string ⟨#[105, 116, 39, 115]⟩, .string ⟨#[120, 44, 37]⟩]) (by simp; decide) (j := j) (by simpa using hj')
  simp only [List.getElem_toArray, es] at hcj
  clear hb hb1 hb2 hb3 q0 q1 q2 f0 f1 f2 es y0 y1
  go_wp2_with fail
  refine (specStr _ _).mono ?_
  rintro e w3 ⟨rfl, o, rfl⟩
  go_wp2_with fail
  exact bodyPost_ret (v := .agg #[.int .i64 2, .int .i64 0, .string s]) (by simp [results, Tryz.results34, go_sem, p0, p1, p2, hs2]) rfl
   ⟨_, rfl, ⟨2, 0, s, rfl, .inr (.inr ⟨rfl, rfl, hs12⟩)⟩, ((hb4.setNew (Nat.le_refl _) _).setNew (Nat.le_refl _) _).setNew (Nat.le_refl _) _ |>.alloc _,
    (h.setNew (h.setNew (h.setNew hr2 (Nat.le_refl _) _) (Nat.le_refl _) _) (Nat.le_refl _) _).alloc _⟩
 ·have hlt2 : R < w'.heap.size := cell_lt hr.code
  have hs : w.heap.size < w'.heap.size := by have := hb.size; simp at this; omega
  go_wp2_with fail
  refine (rdBelow _ _ R a len cap zs (hr.alloc _)).mono ?_
  rintro e w2 ⟨v, rfl, ⟨y, rfl, y0, y1⟩, hb2, hr2⟩
  have hb3 := ((But.refl R w').alloc _).trans hb2
  have p0 := (hb3.cell (p := ⟨w.heap.size, 0, none⟩) hs (Nat.ne_of_gt hlt)).trans q0
  have p1 := (hb3.cell (p := ⟨w.heap.size, 1, none⟩) hs (Nat.ne_of_gt hlt)).trans q1
  have p2 := (hb3.cell (p := ⟨w.heap.size, 2, none⟩) hs (Nat.ne_of_gt hlt)).trans q2
  have g0 := (hb3.frozen (p := ⟨w.heap.size, 0, none⟩) hs (Nat.ne_of_gt hlt)).trans f0
  have g1 := (hb3.frozen (p := ⟨w.heap.size, 1, none⟩) hs (Nat.ne_of_gt hlt)).trans f1
  have g2 := (hb3.frozen (p := ⟨w.heap.size, 2, none⟩) hs (Nat.ne_of_gt hlt)).trans f2
  obtain ⟨j, rfl, hj⟩ := below_nat y0 y1 (by omega)
  have hb4 := hb1.trans hb3
  have hs2 : w.heap.size < w2.heap.size := Nat.lt_of_lt_of_le hs hb3.size
  have hj' : j < 6 := by omega
  have hcj := new_cell hb2 hlt2 j (by simpa using hj')
  obtain ⟨s, es, hs12⟩ := short_str (xs := [Value.string ⟨#[]⟩, .string ⟨#[97]⟩, .string ⟨#[98]⟩, .string ⟨#[97, 32, 98]⟩, .string ⟨#[105, 116, 39, 115]⟩, .string ⟨#[120, 44, 37]⟩]) (by simp; decide) (j := j) (by simpa using hj')
  simp only [List.getElem_toArray, es] at hcj
  clear hb hb1 hb2 hb3 q0 q1 q2 f0 f1 f2 es y0 y1
  go_wp2_with fail
  refine (specStr _ _).mono ?_
  rintro e w3 ⟨rfl, o, rfl⟩
  go_wp2_with fail
  exact bodyPost_ret (v := .agg #[.int .i64 2, .int .i64 0, .string s]) (by simp [results, Tryz.results34, go_sem, p0, p1, p2, hs2]) rfl
   ⟨_, rfl, ⟨2, 0, s, rfl, .inr (.inr ⟨rfl, rfl, hs12⟩)⟩, ((hb4.setNew (Nat.le_refl _) _).setNew (Nat.le_refl _) _).setNew (Nat.le_refl _) _ |>.alloc _,
    (h.setNew (h.setNew (h.setNew hr2 (Nat.le_refl _) _) (Nat.le_refl _) _) (Nat.le_refl _) _).alloc _⟩
 ·have hlt2 : R < w'.heap.size := cell_lt hr.code
  have hs : w.heap.size < w'.heap.size := by have := hb.size; simp at this; omega
  go_wp2_with fail
  refine (rdBelow _ _ R a len cap zs (hr.alloc _)).mono ?_
  rintro e w2 ⟨v, rfl, ⟨y, rfl, y0, y1⟩, hb2, hr2⟩
  have hb3 := ((But.refl R w').alloc _).trans hb2
  have p0 := (hb3.cell (p := ⟨w.heap.size, 0, none⟩) hs (Nat.ne_of_gt hlt)).trans q0
  have p1 := (hb3.cell (p := ⟨w.heap.size, 1, none⟩) hs (Nat.ne_of_gt hlt)).trans q1
  have p2 := (hb3.cell (p := ⟨w.heap.size, 2, none⟩) hs (Nat.ne_of_gt hlt)).trans q2
  have g0 := (hb3.frozen (p := ⟨w.heap.size, 0, none⟩) hs (Nat.ne_of_gt hlt)).trans f0
  have g1 := (hb3.frozen (p := ⟨w.heap.size, 1, none⟩) hs (Nat.ne_of_gt hlt)).trans f1
  have g2 := (hb3.frozen (p := ⟨w.heap.size, 2, none⟩) hs (Nat.ne_of_gt hlt)).trans f2
  obtain ⟨j, rfl, hj⟩ := below_nat y0 y1 (by omega)
  have hb4 := hb1.trans hb3
  have hs2 : w.heap.size < w2.heap.size := Nat.lt_of_lt_of_le hs hb3.size
  have hj' : j < 4 := by omega
  have hcj := new_cell hb2 hlt2 j (by simpa using hj')
  obtain ⟨m, es, m0, m1⟩ := small_int (xs := [Value.int .i64 (-1000000000), .int .i64 1000000000, .int .i64 (-5), .int .i64 70]) (by simp) (j := j) (by simpa using hj')
  simp only [List.getElem_toArray, es] at hcj
  clear hb hb1 hb2 hb3 q0 q1 q2 f0 f1 f2 es y0 y1
  go_wp2_with fail
  refine (specInt _ _).mono ?_
  rintro e w3 ⟨rfl, o, rfl⟩
  go_wp2_with fail
  exact bodyPost_ret (v := .agg #[.int .i64 1, .int .i64 m, .string ⟨#[]⟩]) (by simp [results, Tryz.results34, go_sem, p0, p1, p2, hs2]) rfl
   ⟨_, rfl, ⟨1, m, _, rfl, .inr (.inl ⟨rfl, m0, m1, rfl⟩)⟩, ((hb4.setNew (Nat.le_refl _) _).setNew (Nat.le_refl _) _).setNew (Nat.le_refl _) _ |>.alloc _,
    (h.setNew (h.setNew (h.setNew hr2 (Nat.le_refl _) _) (Nat.le_refl _) _) (Nat.le_refl _) _).alloc _⟩
 ·have hlt2 : R < w'.heap.size := cell_lt hr.code
  have hs : w.heap.size < w'.heap.size := by have := hb.size; simp at this; omega
  have d0 : (x == 0) = false := by simp; omega
  have d1 : (x == 1) = false := by simp; omega
  have d2 : (x == 2) = false := by simp; omega
  have d3 : (x == 3) = false := by simp; omega
  have d4 : (x == 4) = false := by simp; omega
  go_wp2_with fail
  refine (rdBelow _ _ R a len cap zs hr).mono ?_
  rintro e w2 ⟨v, rfl, ⟨y, rfl, y0, y1⟩, hb2, hr2⟩
  have hb3 := hb2
  have p0 := (hb3.cell (p := ⟨w.heap.size, 0, none⟩) hs (Nat.ne_of_gt hlt)).trans q0
  have p1 := (hb3.cell (p := ⟨w.heap.size, 1, none⟩) hs (Nat.ne_of_gt hlt)).trans q1
  have p2 := (hb3.cell (p := ⟨w.heap.size, 2, none⟩) hs (Nat.ne_of_gt hlt)).trans q2
  have g0 := (hb3.frozen (p := ⟨w.heap.size, 0, none⟩) hs (Nat.ne_of_gt hlt)).trans f0
  have g1 := (hb3.frozen (p := ⟨w.heap.size, 1, none⟩) hs (Nat.ne_of_gt hlt)).trans f1
  have g2 := (hb3.frozen (p := ⟨w.heap.size, 2, none⟩) hs (Nat.ne_of_gt hlt)).trans f2
  obtain ⟨j, rfl, hj⟩ := below_nat y0 y1 (by omega)
  have hb4 := hb1.trans hb3
  have hs2 : w.heap.size < w2.heap.size := Nat.lt_of_lt_of_le hs hb3.size
  clear hb hb1 hb2 hb3 q0 q1 q2 f0 f1 f2 y0 y1
  go_wp2_with fail
  refine (specInt _ _).mono ?_
  rintro e w3 ⟨rfl, o, rfl⟩
  go_wp2_with fail
  exact bodyPost_ret (v := .agg #[.int .i64 1, .int .i64 j, .string ⟨#[]⟩]) (by simp [results, Tryz.results34, go_sem, p0, p1, p2, hs2]) rfl
   ⟨_, rfl, ⟨1, j, _, rfl, .inr (.inl ⟨rfl, by omega, by omega, rfl⟩)⟩, ((hb4.setNew (Nat.le_refl _) _).setNew (Nat.le_refl _) _).setNew (Nat.le_refl _) _ |>.alloc _,
    (h.setNew (h.setNew (h.setNew hr2 (Nat.le_refl _) _) (Nat.le_refl _) _) (Nat.le_refl _) _).alloc _⟩
theorem Rdr.new {w : World} {a : Option Addr} {len cap : Nat} {zs : List Int} (h : IsRow .u8 w a len cap zs) (T : TypeId) : Rdr (w.alloc (.cells #[.slice a len cap, .int .i64 0] T)) w.heap.size a len cap zs := by
 refine ⟨by simp, ⟨0, by omega, by simp⟩, World.frozen?_alloc_at _ _ _ _ rfl, ?_, ?_⟩
 ·rcases h with e | ⟨x, rfl, hl, hm, hz, hcell, hwz⟩
  ·exact .inl e
  ·exact .inr ⟨x, rfl, hl, hm, hz, fun i hi => (((But.refl w.heap.size w).alloc _).cell (cell_lt (hcell i hi)) (Nat.ne_of_lt (cell_lt (hcell i hi)))).trans (hcell i hi), hwz⟩
 ·intro x e hc
  rcases h with ⟨_, _, e0, _⟩ | ⟨y, rfl, hl, hm, hz, hcell, hwz⟩
  ·omega
  ·cases e
   have := cell_lt (hcell 0 (by omega))
   rw [add_block] at this
   omega
theorem specOpen (a : Option Addr) (len cap : Nat) (w : World) :
  Calls Tryz.prog 11 #[.slice a len cap] w fun e w' => e = .returned (.pointer (some ⟨w.heap.size, 0, none⟩)) ∧ w.alloc (.cells #[.slice a len cap, .int .i64 0] 64) = w' := by
 go_enter Tryz.func11, Tryz.ntmps11
 go_wp2
 go_ret
 exact ⟨rfl, rfl⟩
theorem lawsBig (a : Option Addr) (len cap : Nat) (w : World) :
  Calls Tryz.prog 4 #[.slice a len cap] w fun e w' => e = .returned (.bool (decide ((1048576 : Int) < len))) ∧ w = w' := by
 go_enter Tryz.func4, Tryz.ntmps4
 go_wp2
 go_ret
 exact ⟨rfl, rfl⟩
def Drawn (P : Value → World → Prop) (w : World) (e : Ending) (w' : World) : Prop := ∃ v, e = .returned v ∧ P v w' ∧ Below w.heap.size w w'
theorem IsRow.below {w w' : World} {a : Option Addr} {len cap : Nat} {zs : List Int} (h : IsRow .u8 w a len cap zs) (hb : Below w.heap.size w w') : IsRow .u8 w' a len cap zs := by
 rcases h with e | ⟨x, rfl, hl, hm, hz, hcell, hwz⟩
 ·exact .inl e
 ·exact .inr ⟨x, rfl, hl, hm, hz, fun i hi => (hb.cell (cell_lt (hcell i hi))).trans (hcell i hi), hwz⟩
def Hold (base : Nat) (w w' : World) : Prop := w.heap.size ≤ w'.heap.size ∧ ∀ g, base ≤ g → g < w.heap.size → w'.heap[g]? = w.heap[g]?
theorem Hold.trans {base : Nat} {a b c : World} (h : Hold base a b) (k : Hold base b c) : Hold base a c := ⟨Nat.le_trans h.1 k.1, fun g hg hl => (k.2 g hg (Nat.lt_of_lt_of_le hl h.1)).trans (h.2 g hg hl)⟩
theorem Hold.but {base R : Nat} {w w' : World} (h : But R w w') (hR : R < base) : Hold base w w' := ⟨h.size, fun g hg hl => h.block g hl (by omega)⟩
theorem Hold.alloc (base : Nat) (w : World) (o : Obj) : Hold base w (w.alloc o) := ⟨by simp, fun g _ hl => Below.heap_alloc _ _ _ hl⟩
def Blo (w : World) (g : Nat) (xs : List Value) (T : TypeId) : Prop := w.heap[g]? = some (.cells xs.toArray T)
theorem Blo.lt {w : World} {g : Nat} {xs : List Value} {T : TypeId} (h : Blo w g xs T) : g < w.heap.size := lt_of_block h
theorem Blo.hold {base : Nat} {w w' : World} {g : Nat} {xs : List Value} {T : TypeId} (h : Blo w g xs T) (hb : base ≤ g) (hh : Hold base w w') : Blo w' g xs T := (hh.2 g hb h.lt).trans h
theorem Blo.new (w : World) (xs : List Value) (T : TypeId) : Blo (w.alloc (.cells xs.toArray T)) w.heap.size xs T := Go.heap_alloc_last w _
theorem Blo.put {w : World} {g : Nat} {xs : List Value} {T : TypeId} (h : Blo w g xs T) (k : Nat) (v : Value) : Blo (w.setCell ⟨g, k, none⟩ v) g (xs.set k v) T := by
 have h' : w.heap[g]? = some (.cells xs.toArray T) := h
 have hl := lt_of_block h'
 unfold Blo World.setCell
 simp [Array.getElem?_modify, h']
theorem Blo.cell {w : World} {g : Nat} {xs : List Value} {T : TypeId} (h : Blo w g xs T) (k : Nat) (v : Value) (hv : xs[k]? = some v) : w.cell? ⟨g, k, none⟩ = some v := by
 have h' : w.heap[g]? = some (.cells xs.toArray T) := h
 simp only [World.cell?, h']
 simpa using hv
theorem Blo.free {w : World} {g : Nat} {xs : List Value} {T : TypeId} (h : Blo w g xs T) (k : Nat) : w.frozen? ⟨g, k, none⟩ = false := by
 have h' : w.heap[g]? = some (.cells xs.toArray T) := h
 simp [World.frozen?, h']
theorem Blo.set {w : World} {g : Nat} {xs : List Value} {T : TypeId} (h : Blo w g xs T) (p : Addr) (hp : p.block ≠ g) (v : Value) : Blo (w.setCell p v) g xs T := (Below.heap_setCell _ _ _ _ (by omega)).trans h
def okY (base : Nat) (w : World) (b : Nat) : Prop := base ≤ b ∧ ∃ xs T, w.heap[b]? = some (.cells xs T) ∧ T ≠ 42 ∧ T ≠ 68
theorem okY.okF {base : Nat} {w : World} {b : Nat} (h : okY base w b) : okF base w b := by
 obtain ⟨h1, xs, T, h2, -⟩ := h
 exact ⟨h1, lt_of_block h2, fun off => by simp [World.frozen?, h2]⟩
theorem okY.hold {base : Nat} {w w' : World} (hh : Hold base w w') {b : Nat} (h : okY base w b) : okY base w' b := by
 obtain ⟨h1, xs, T, h2, h3⟩ := h
 exact ⟨h1, xs, T, (hh.2 b h1 (lt_of_block h2)).trans h2, h3⟩
theorem okY.cell {base : Nat} {w w' : World} (hh : Hold base w w') {p : Addr} {v : Value} (h : okY base w p.block) (hc : w.cell? p = some v) : w'.cell? p = some v := by
 obtain ⟨h1, xs, T, h2, h3⟩ := h
 exact (World.cell?_of_block (w := w) (hh.2 p.block h1 (lt_of_block h2))).trans hc
def TC (w : World) (g : Nat) : Prop := ∃ xs T, w.heap[g]? = some (.cells xs T) ∧ (T = 42 ∨ T = 68)
theorem okY.ne {base : Nat} {w : World} {b g : Nat} (h : okY base w b) (hg : TC w g) : b ≠ g := by
 rintro rfl
 obtain ⟨h1, xs, T, h2, h3, h4⟩ := h
 obtain ⟨ys, T', h5, h6⟩ := hg
 rw [h2] at h5
 simp only [Option.some.injEq, Obj.cells.injEq] at h5
 obtain ⟨-, rfl, -⟩ := h5
 rcases h6 with h6 | h6
 ·exact h3 h6
 ·exact h4 h6
theorem okY.set {base : Nat} {w : World} {p : Addr} (hp : TC w p.block) (v : Value) {b : Nat} (h : okY base w b) : okY base (w.setCell p v) b := by
 have hn := h.ne hp
 obtain ⟨h1, xs, T, h2, h3⟩ := h
 exact ⟨h1, xs, T, (Below.heap_setCell _ _ _ _ (fun e => hn e)).trans h2, h3⟩
theorem Sl.laid {α : Type} {R : Rd α} {sz : Nat} {ok : Nat → Prop} {w : World} {g : Nat} {T : TypeId} {css : List (List Value)} {ds : List α} (hB : Blo w g css.flatten T) (hl : css.length = ds.length) (hok : ok g)
  (h : ∀ (i : Nat) (hi : i < css.length) (hd : i < ds.length), css[i].length = sz ∧ R ok w css[i] ds[i]) : Sl R sz ok w (some ⟨g, 0, none⟩) ds.length ds := by
 refine ⟨rfl, fun _ => ⟨g, 0, rfl, hok, fun i hi => ⟨css[i]'(by omega), (h i (by omega) hi).1, (h i (by omega) hi).2, fun j v hv => ?_⟩⟩⟩
 have hj : j < sz := by
  rw [← (h i (by omega) hi).1]
  exact (List.getElem?_eq_some_iff.1 hv).1
 have hc : css.flatten[i * sz + j]? = some v := by
  have hall : ∀ c ∈ css, c.length = sz := by
   intro c hc
   obtain ⟨k, hk, rfl⟩ := List.getElem_of_mem hc
   exact (h k hk (by omega)).1
  have key : ∀ (l : List (List Value)) (i : Nat) (hi : i < l.length), (∀ c ∈ l, c.length = sz) → l.flatten[i * sz + j]? = l[i][j]? := by
   intro l
   induction l with
   | nil => intro i hi; simp at hi
   | cons x l ih =>
    intro i hi ha
    have hx := ha x (List.mem_cons_self ..)
    cases i with
    | zero => rw [List.flatten_cons, Nat.zero_mul, Nat.zero_add, List.getElem?_append_left (by omega)]; rfl
    | succ i =>
     rw [List.flatten_cons, List.getElem?_append_right (by rw [hx, Nat.succ_mul]; omega), hx, show (i + 1) * sz + j - sz = i * sz + j by rw [Nat.succ_mul]; omega]
     exact ih i (by simpa using hi) fun c hc => ha c (List.mem_cons_of_mem _ hc)
  rw [key css i (by omega) hall]; exact hv
 rw [Nat.zero_add]
 show w.cell? ⟨g, i * sz + j, none⟩ = some v
 have hb : w.heap[g]? = some (.cells css.flatten.toArray T) := hB
 simp only [World.cell?, hb]
 simpa using hc
def TabY (base : Nat) (w : World) (gc : Nat) (cs : List Value) (t : Tb) : Prop := ∃ (n1 : Nat) (A2 : Option Addr) (n2 c2 : Nat) (A3 : Option Addr) (n3 c3 : Nat) (A4 : Option Addr) (n4 c4 : Nat) (A5 : Option Addr) (n5 c5 : Nat),
 cs = [.string t.name, .slice (some ⟨gc, 0, none⟩) n1 n1, .slice A2 n2 c2, .slice A3 n3 c3, .slice A4 n4 c4, .slice A5 n5 c5] ∧ base ≤ gc ∧ Blo w gc (t.cols.map Cl.cells).flatten 68 ∧ t.cols.length = n1 ∧ 2 ≤ n1 ∧
 Sl IntR 1 (okY base w) w A2 n2 t.key ∧ Sl UqR 1 (okY base w) w A3 n3 t.uniqs ∧ Sl CkR 1 (okY base w) w A4 n4 t.checks ∧ Sl FkR 5 (okY base w) w A5 n5 t.fks ∧ (n2 ≤ c2 ∧ n3 = c3 ∧ n4 ≤ c4 ∧ n5 ≤ c5) ∧ t.sz ≤ 1000
theorem TabY.hold {base : Nat} {w w' : World} {gc : Nat} {cs : List Value} {t : Tb} (h : TabY base w gc cs t) (hh : Hold base w w') : TabY base w' gc cs t := by
 obtain ⟨n1, A2, n2, c2, A3, n3, c3, A4, n4, c4, A5, n5, c5, e, hb, hB, hn, hp, h2, h3, h4, h5, hc, hz⟩ := h
 have ho : ∀ b, okY base w b → okY base w' b := fun b h => h.hold hh
 have hk : ∀ p v, okY base w p.block → w.cell? p = some v → w'.cell? p = some v := fun p v h hc => h.cell hh hc
 exact ⟨n1, A2, n2, c2, A3, n3, c3, A4, n4, c4, A5, n5, c5, e, hb, hB.hold hb hh, hn, hp, h2.stays IntR.stays ho hk, h3.stays UqR.stays ho hk, h4.stays CkR.stays ho hk, h5.stays FkR.stays ho hk, hc, hz⟩
theorem TabY.set {base : Nat} {w : World} {gc : Nat} {cs : List Value} {t : Tb} (h : TabY base w gc cs t) {p : Addr} (hp : TC w p.block) (hne : p.block ≠ gc) (v : Value) : TabY base (w.setCell p v) gc cs t := by
 obtain ⟨n1, A2, n2, c2, A3, n3, c3, A4, n4, c4, A5, n5, c5, e, hb, hB, hn, hq, h2, h3, h4, h5, hc, hz⟩ := h
 have ho : ∀ b, okY base w b → okY base (w.setCell p v) b := fun b h => h.set hp v
 have hk : ∀ q u, okY base w q.block → w.cell? q = some u → (w.setCell p v).cell? q = some u := fun q u h hc => (World.cell?_setCell_other _ _ _ _ (fun e => h.ne hp (by rw [e]))).trans hc
 exact ⟨n1, A2, n2, c2, A3, n3, c3, A4, n4, c4, A5, n5, c5, e, hb, hB.set p hne v, hn, hq, h2.stays IntR.stays ho hk, h3.stays UqR.stays ho hk, h4.stays CkR.stays ho hk, h5.stays FkR.stays ho hk, hc, hz⟩
theorem cols_flat (l : List Cl) (i : Nat) (hi : i < (l.map Cl.cells).length) (hd : i < l.length) {ok : Nat → Prop} {w : World} : (l.map Cl.cells)[i].length = 6 ∧ ClR ok w (l.map Cl.cells)[i] l[i] := by
 rw [List.getElem_map]; exact ⟨rfl, rfl⟩
theorem okF_blo {base : Nat} {w : World} {g : Nat} {xs : List Value} {T : TypeId} (hb : base ≤ g) (h : Blo w g xs T) : okF base w g := ⟨hb, h.lt, fun off => by have h' : w.heap[g]? = some (.cells xs.toArray T) := h; simp [World.frozen?, h']⟩
theorem TabY.reads {base : Nat} {w : World} {gc : Nat} {cs : List Value} {t : Tb} (h : TabY base w gc cs t) : TbR (okF base w) w cs t := by
 obtain ⟨n1, A2, n2, c2, A3, n3, c3, A4, n4, c4, A5, n5, c5, e, hb, hB, rfl, hp, h2, h3, h4, h5, hc, hz⟩ := h
 have ho : ∀ b, okY base w b → okF base w b := fun b h => h.okF
 have hk : ∀ p v, okY base w p.block → w.cell? p = some v → w.cell? p = some v := fun p v _ hc => hc
 exact ⟨_, _, _, A2, n2, c2, A3, n3, c3, A4, n4, c4, A5, n5, c5, e, Sl.laid hB (by simp) (okF_blo hb hB) (fun i hi hd => cols_flat _ i hi hd), h2.stays IntR.stays ho hk, h3.stays UqR.stays ho hk, h4.stays CkR.stays ho hk, h5.stays FkR.stays ho hk, ⟨Nat.le_refl _, hc.1, Nat.le_of_eq hc.2.1, hc.2.2⟩⟩
theorem TabY.uniq {base : Nat} {w : World} {gc : Nat} {cs : List Value} {t : Tb} (h : TabY base w gc cs t) {A : Option Addr} {n c : Nat} {us : List Uq} (hu : Sl UqR 1 (okY base w) w A n us) (hc : n = c) (hz : ({ t with uniqs := us } : Tb).sz ≤ 1000) : TabY base w gc (cs.set 3 (.slice A n c)) { t with uniqs := us } := by
 obtain ⟨n1, A2, n2, c2, A3, n3, c3, A4, n4, c4, A5, n5, c5, rfl, hb, hB, hn, hp, h2, h3, h4, h5, ⟨k2, k3, k4, k5⟩, _⟩ := h
 exact ⟨n1, A2, n2, c2, A, n, c, A4, n4, c4, A5, n5, c5, rfl, hb, hB, hn, hp, h2, hu, h4, h5, ⟨k2, hc, k4, k5⟩, hz⟩
theorem TabY.chk {base : Nat} {w : World} {gc : Nat} {cs : List Value} {t : Tb} (h : TabY base w gc cs t) {A : Option Addr} {n c : Nat} {us : List Ck} (hu : Sl CkR 1 (okY base w) w A n us) (hc : n ≤ c) (hz : ({ t with checks := us } : Tb).sz ≤ 1000) : TabY base w gc (cs.set 4 (.slice A n c)) { t with checks := us } := by
 obtain ⟨n1, A2, n2, c2, A3, n3, c3, A4, n4, c4, A5, n5, c5, rfl, hb, hB, hn, hp, h2, h3, h4, h5, ⟨k2, k3, k4, k5⟩, _⟩ := h
 exact ⟨n1, A2, n2, c2, A3, n3, c3, A, n, c, A5, n5, c5, rfl, hb, hB, hn, hp, h2, h3, hu, h5, ⟨k2, k3, hc, k5⟩, hz⟩
theorem TabY.len {base : Nat} {w : World} {gc : Nat} {cs : List Value} {t : Tb} (h : TabY base w gc cs t) : ∃ x0 x1 x2 x3 x4 x5, cs = [x0, x1, x2, x3, x4, x5] := by
 obtain ⟨n1, A2, n2, c2, A3, n3, c3, A4, n4, c4, A5, n5, c5, rfl, -⟩ := h
 exact ⟨_, _, _, _, _, _, rfl⟩
theorem Sl.nilY {α : Type} {R : Rd α} {sz : Nat} {ok : Nat → Prop} {w : World} : Sl R sz ok w none 0 ([] : List α) := ⟨rfl, fun h => by omega⟩
theorem intsY {base : Nat} {w : World} {g : Nat} (ns : List Int) (hB : Blo w g (ns.map (Value.int .i64)) 2) (hb : base ≤ g) : Sl IntR 1 (okY base w) w (some ⟨g, 0, none⟩) ns.length ns := by
 have hB2 : Blo w g (ns.map fun n => [Value.int .i64 n]).flatten 2 := by
  have e : (ns.map fun n => [Value.int .i64 n]).flatten = ns.map (Value.int .i64) := by
   clear hB
   induction ns with
   | nil => rfl
   | cons n ns ih => rw [List.map_cons, List.flatten_cons, ih]; rfl
  rw [e]; exact hB
 refine Sl.laid hB2 (by simp) ⟨hb, _, _, hB2, by decide, by decide⟩ fun i hi hd => ?_
 rw [List.getElem_map]; exact ⟨rfl, rfl⟩
theorem uniqY {base : Nat} {w : World} {g g1 : Nat} (ns : List Int) (hB : Blo w g1 (ns.map (Value.int .i64)) 2) (hb : base ≤ g1) (hB2 : Blo w g [.slice (some ⟨g1, 0, none⟩) ns.length ns.length] 71) (hb2 : base ≤ g) : Sl UqR 1 (okY base w) w (some ⟨g, 0, none⟩) 1 [⟨ns⟩] := by
 have h := Sl.laid (R := UqR) (sz := 1) (ok := okY base w) (css := [[.slice (some ⟨g1, 0, none⟩) ns.length ns.length]]) (ds := [⟨ns⟩]) (g := g) (T := 71) hB2 rfl ⟨hb2, _, _, hB2, by decide, by decide⟩ fun i hi hd => by
  obtain rfl : i = 0 := by simpa using hi
  exact ⟨rfl, _, _, _, rfl, intsY ns hB hb, Nat.le_refl _⟩
 exact h
def SchY (base : Nat) (w : World) (v : Value) (xs : List (Nat × List Value × Tb)) : Prop :=
 w.ownsRow base 42 6 v xs.length (xs.map (·.2.1)).flatten ∧ (xs.map (·.1)).Nodup ∧ ∀ x ∈ xs, TabY base w x.1 x.2.1 x.2.2
def PB (w w' : World) (R : Nat) (a : Option Addr) (len cap : Nat) (zs : List Int) (gp gc : Nat) (m : Nat) : Prop := ∃ cs t, Blo w' gp cs 42 ∧ w.heap.size ≤ gp ∧ TabY w.heap.size w' gc cs t ∧ t.cols.length = 3 ∧ But R w w' ∧ Rdr w' R a len cap zs ∧ t.sz ≤ m
theorem PB.but {w w' w'' : World} {R : Nat} {a : Option Addr} {len cap : Nat} {zs : List Int} {gp gc m : Nat} (h : PB w w' R a len cap zs gp gc m) (hb : But R w' w'') (hr : Rdr w'' R a len cap zs) (hR : R < w.heap.size) : PB w w'' R a len cap zs gp gc m := by
 obtain ⟨cs, t, h1, h2, h3, h4, h5, h6, h7⟩ := h
 exact ⟨cs, t, h1.hold h2 (Hold.but hb hR), h2, h3.hold (Hold.but hb hR), h4, h5.trans hb, hr, h7⟩
theorem PB.mono {w w' : World} {R : Nat} {a : Option Addr} {len cap : Nat} {zs : List Int} {gp gc m m' : Nat} (h : PB w w' R a len cap zs gp gc m) (hm : m ≤ m') : PB w w' R a len cap zs gp gc m' := by
 obtain ⟨cs, t, h1, h2, h3, h4, h5, h6, h7⟩ := h
 exact ⟨cs, t, h1, h2, h3, h4, h5, h6, by omega⟩
theorem Blo.tc {w : World} {g : Nat} {xs : List Value} (h : Blo w g xs 42) : TC w g := ⟨_, _, h, .inl rfl⟩
theorem TabY.ne {base : Nat} {w : World} {gc g : Nat} {cs xs : List Value} {t : Tb} (h : TabY base w gc cs t) (hg : Blo w g xs 42) : g ≠ gc := by
 rintro rfl
 obtain ⟨n1, A2, n2, c2, A3, n3, c3, A4, n4, c4, A5, n5, c5, e, hb, hB, -⟩ := h
 unfold Blo at hB hg
 rw [hB] at hg
 simp only [Option.some.injEq, Obj.cells.injEq] at hg
 exact absurd hg.2.1 (by decide)
theorem PB.cell {w w' : World} {R : Nat} {a : Option Addr} {len cap : Nat} {zs : List Int} {gp gc m : Nat} (h : PB w w' R a len cap zs gp gc m) {w2 : World} (hh : Hold w.heap.size w' w2) (k : Nat) (hk : k < 6) : (∃ u, w2.cell? ⟨gp, k, none⟩ = some u) ∧ w2.frozen? ⟨gp, k, none⟩ = false := by
 obtain ⟨cs, t, h1, h2, h3, -⟩ := h
 obtain ⟨x0, x1, x2, x3, x4, x5, rfl⟩ := h3.len
 have hB := h1.hold h2 hh
 refine ⟨⟨[x0, x1, x2, x3, x4, x5][k]'(by simpa using hk), hB.cell k _ (by rw [List.getElem?_eq_getElem])⟩, hB.free k⟩
theorem PB.uniq {w y : World} {R : Nat} {a : Option Addr} {len cap : Nat} {zs : List Int} {gp gc m : Nat} (h : PB w y R a len cap zs gp gc m) (h0 : Rdr w R a len cap zs) (hm : m ≤ 900) :
  PB w (((y.alloc (.cells #[.int .i64 2] 2)).alloc (.cells #[.slice (some ⟨y.heap.size, 0, none⟩) 1 1] 71)).setCell ⟨gp, 3, none⟩ (.slice (some ⟨y.heap.size + 1, 0, none⟩) 1 1)) R a len cap zs gp gc (m + 2) := by
 obtain ⟨cs, t, h1, h2, h3, h4, h5, h6, h7⟩ := h
 have b1 := Blo.new y ([2].map (Value.int .i64)) 2
 have b2 := Blo.new (y.alloc (.cells ([2].map (Value.int .i64)).toArray 2)) [.slice (some ⟨y.heap.size, 0, none⟩) 1 1] 71
 rw [show (y.alloc (.cells ([2].map (Value.int .i64)).toArray 2)).heap.size = y.heap.size + 1 by simp] at b2
 have hw : w.heap.size ≤ y.heap.size := h5.size
 have k1 := Hold.alloc w.heap.size y (.cells ([2].map (Value.int .i64)).toArray 2)
 have k2 := Hold.alloc w.heap.size (y.alloc (.cells ([2].map (Value.int .i64)).toArray 2)) (.cells [.slice (some ⟨y.heap.size, 0, none⟩) 1 1].toArray 71)
 have hu := uniqY (base := w.heap.size) [2] (b1.hold hw k2) hw b2 (by omega)
 have hz : ({ t with uniqs := [⟨[2]⟩] } : Tb).sz ≤ t.sz + 2 := by
  have e : szL Uq.sz [⟨[2]⟩] = 2 := rfl
  unfold Tb.sz
  simp only [e]
  omega
 have t1 := (h3.hold (k1.trans k2)).uniq hu rfl (by omega)
 have B1 := h1.hold h2 (k1.trans k2)
 exact ⟨cs.set 3 (.slice (some ⟨y.heap.size + 1, 0, none⟩) 1 1), { t with uniqs := [⟨[2]⟩] }, B1.put 3 _, h2, t1.set B1.tc (t1.ne B1) _, h4, ((h5.alloc _).alloc _).setNew h2 _, h0.setNew ((h6.alloc _).alloc _) h2 _, by omega⟩
theorem chkY {base : Nat} {w : World} {g g1 : Nat} (ts : List Tk) (hB : Blo w g1 (ts.map Tk.cells).flatten 73) (hb : base ≤ g1) (hB2 : Blo w g [.slice (some ⟨g1, 0, none⟩) ts.length ts.length] 77) (hb2 : base ≤ g) : Sl CkR 1 (okY base w) w (some ⟨g, 0, none⟩) 1 [⟨ts⟩] := by
 have h := Sl.laid (R := CkR) (sz := 1) (ok := okY base w) (css := [[.slice (some ⟨g1, 0, none⟩) ts.length ts.length]]) (ds := [⟨ts⟩]) (g := g) (T := 77) hB2 rfl ⟨hb2, _, _, hB2, by decide, by decide⟩ fun i hi hd => by
  obtain rfl : i = 0 := by simpa using hi
  refine ⟨rfl, _, _, _, rfl, Sl.laid hB (by simp) ⟨hb, _, _, hB, by decide, by decide⟩ fun i hi hd => ?_, Nat.le_refl _⟩
  rw [List.getElem_map]; exact ⟨rfl, rfl⟩
 exact h
def toksP : List Tk := [⟨1, 0, 0, 0, ⟨#[]⟩⟩, ⟨2, 0, 1, 4, ⟨#[]⟩⟩, ⟨4, 0, 0, 0, ⟨#[]⟩⟩]
theorem PB.chk {w y : World} {R : Nat} {a : Option Addr} {len cap : Nat} {zs : List Int} {gp gc m : Nat} (h : PB w y R a len cap zs gp gc m) (h0 : Rdr w R a len cap zs) (hm : m ≤ 900) :
  PB w (((y.alloc (.cells #[.int .i64 1, .int .i64 0, .int .i64 0, .int .i64 0, .string ⟨#[]⟩, .int .i64 2, .int .i64 0, .int .i64 1, .int .i64 4, .string ⟨#[]⟩, .int .i64 4, .int .i64 0, .int .i64 0, .int .i64 0, .string ⟨#[]⟩] 73)).alloc (.cells #[.slice (some ⟨y.heap.size, 0, none⟩) 3 3] 77)).setCell ⟨gp, 4, none⟩ (.slice (some ⟨y.heap.size + 1, 0, none⟩) 1 1)) R a len cap zs gp gc (m + 4) := by
 obtain ⟨cs, t, h1, h2, h3, h4, h5, h6, h7⟩ := h
 have b1 := Blo.new y (toksP.map Tk.cells).flatten 73
 have b2 := Blo.new (y.alloc (.cells (toksP.map Tk.cells).flatten.toArray 73)) [.slice (some ⟨y.heap.size, 0, none⟩) 3 3] 77
 rw [show (y.alloc (.cells (toksP.map Tk.cells).flatten.toArray 73)).heap.size = y.heap.size + 1 by simp] at b2
 have hw : w.heap.size ≤ y.heap.size := h5.size
 have k1 := Hold.alloc w.heap.size y (.cells (toksP.map Tk.cells).flatten.toArray 73)
 have k2 := Hold.alloc w.heap.size (y.alloc (.cells (toksP.map Tk.cells).flatten.toArray 73)) (.cells [.slice (some ⟨y.heap.size, 0, none⟩) 3 3].toArray 77)
 have hu := chkY (base := w.heap.size) toksP (b1.hold hw k2) hw b2 (by omega)
 have hz : ({ t with checks := [⟨toksP⟩] } : Tb).sz ≤ t.sz + 4 := by
  have e : szL Ck.sz [⟨toksP⟩] = 4 := by decide
  unfold Tb.sz
  simp only [e]
  omega
 have t1 := (h3.hold (k1.trans k2)).chk hu (Nat.le_refl _) (by omega)
 have B1 := h1.hold h2 (k1.trans k2)
 exact ⟨cs.set 4 (.slice (some ⟨y.heap.size + 1, 0, none⟩) 1 1), { t with checks := [⟨toksP⟩] }, B1.put 4 _, h2, t1.set B1.tc (t1.ne B1) _, h4, ((h5.alloc _).alloc _).setNew h2 _, h0.setNew ((h6.alloc _).alloc _) h2 _, by omega⟩
theorem SchY.hold {base : Nat} {w w' : World} {v : Value} {xs : List (Nat × List Value × Tb)} (h : SchY base w v xs) (hh : Hold base w w') : SchY base w' v xs := by
 obtain ⟨⟨h1, h2⟩, h3, h4⟩ := h
 refine ⟨⟨h1, ?_⟩, h3, fun x hx => (h4 x hx).hold hh⟩
 rcases h2 with h2 | ⟨g, cap, cur, rfl, k1, k2, k3⟩
 ·exact .inl h2
 ·exact .inr ⟨g, cap, cur, rfl, k1, (hh.2 g k1 (lt_of_block k2)).trans k2, k3⟩
theorem TabY.grown {base : Nat} {w w' : World} {row : Option Nat} {gc : Nat} {cs : List Value} {t : Tb} (h : TabY base w gc cs t) (hg : w.grownBy w' row) (hr : ∀ k, row = some k → ∃ cur, w.heap[k]? = some (.cells cur 42)) : TabY base w' gc cs t := by
 obtain ⟨n1, A2, n2, c2, A3, n3, c3, A4, n4, c4, A5, n5, c5, e, hb, hB, hn, hp, h2, h3, h4, h5, hc, hz⟩ := h
 have hne : ∀ b, okY base w b → some b ≠ row := fun b hb he => by
  obtain ⟨cur, hcur⟩ := hr b he.symm
  exact hb.ne ⟨_, _, hcur, .inl rfl⟩ rfl
 have ho : ∀ b, okY base w b → okY base w' b := fun b h => by
  have hn := hne b h
  obtain ⟨k1, xs, T, k2, k3⟩ := h
  exact ⟨k1, xs, T, (hg.block b (lt_of_block k2) hn).trans k2, k3⟩
 have hk : ∀ p v, okY base w p.block → w.cell? p = some v → w'.cell? p = some v := fun p v h hc => hg.cell hc (hne _ h)
 have hgc : some gc ≠ row := fun he => by
  obtain ⟨cur, hcur⟩ := hr gc he.symm
  unfold Blo at hB
  rw [hB] at hcur
  simp only [Option.some.injEq, Obj.cells.injEq] at hcur
  exact absurd hcur.2.1 (by decide)
 exact ⟨n1, A2, n2, c2, A3, n3, c3, A4, n4, c4, A5, n5, c5, e, hb, (hg.block gc hB.lt hgc).trans hB, hn, hp, h2.stays IntR.stays ho hk, h3.stays UqR.stays ho hk, h4.stays CkR.stays ho hk, h5.stays FkR.stays ho hk, hc, hz⟩
theorem SchY.row {base : Nat} {w : World} {v : Value} {xs : List (Nat × List Value × Tb)} (h : SchY base w v xs) : ∀ k, v.ownBlock = some k → ∃ cur, w.heap[k]? = some (.cells cur 42) := fun k hk => by
 rcases h.1.2 with ⟨rfl, -⟩ | ⟨g, cap, cur, rfl, k1, k2, -⟩
 ·cases hk
 ·obtain rfl := Option.some.inj hk
  exact ⟨cur, k2⟩
theorem SchY.app {base : Nat} {w w' : World} {v v' : Value} {xs : List (Nat × List Value × Tb)} {gc : Nat} {cs : List Value} {t : Tb} (h : SchY base w v xs) (ht : TabY base w gc cs t) (hn : gc ∉ xs.map (·.1))
  (h' : w'.ownsRow base 42 6 v' (xs.length + 1) ((xs.map (·.2.1)).flatten ++ cs)) (hg : w.grownBy w' v.ownBlock) : SchY base w' v' (xs ++ [(gc, cs, t)]) := by
 have hnd : ((xs ++ [(gc, cs, t)]).map (·.1)).Nodup := by
  rw [List.map_append, List.nodup_append]
  refine ⟨h.2.1, by simp, ?_⟩
  intro b hb c hc he
  have e2 : c = gc := by simpa using hc
  exact hn (by rw [← e2, ← he]; exact hb)
 refine ⟨by rw [List.length_append, List.map_append, List.flatten_append]; simpa using h', hnd, fun x hx => ?_⟩
 rcases List.mem_append.1 hx with hx | hx
 ·exact (h.2.2 x hx).grown hg h.row
 ·rw [List.mem_singleton.1 hx]
  exact ht.grown hg h.row
theorem SchY.one {base : Nat} {w : World} {gc : Nat} {cs : List Value} {t : Tb} (h : TabY base w gc cs t) (hb : base ≤ w.heap.size) : SchY base (w.alloc (.cells cs.toArray 42)) (.slice (some ⟨w.heap.size, 0, none⟩) 1 1) [(gc, cs, t)] := by
 obtain ⟨x0, x1, x2, x3, x4, x5, rfl⟩ := h.len
 refine ⟨⟨rfl, .inr ⟨w.heap.size, 1, _, rfl, hb, Go.heap_alloc_last w _, Nat.le_refl _, by simp [maxLen], rfl, by simp⟩⟩, by simp, fun x hx => ?_⟩
 rw [List.mem_singleton.1 hx]
 exact h.hold (Hold.alloc base w _)
theorem mkTab {base : Nat} {w : World} {gc gk gf gx : Nat} (nm tn : ByteArray) (cols : List Cl) (d u : Int) (df : Bool) (n : Nat) (hn : cols.length = n) (h0 : 2 ≤ n)
  (h1 : Blo w gc (cols.map Cl.cells).flatten 68) (h2 : Blo w gk [.int .i64 0] 2) (h3 : Blo w gf [.int .i64 1] 2) (h4 : Blo w gx [.slice (some ⟨gf, 0, none⟩) 1 1, .string tn, .int .i64 d, .int .i64 u, .bool df] 80)
  (b1 : base ≤ gc) (b2 : base ≤ gk) (b3 : base ≤ gf) (b4 : base ≤ gx) (hz : (⟨nm, cols, [0], [], [], [⟨[1], tn, d, u, df⟩]⟩ : Tb).sz ≤ 1000) :
  TabY base w gc [.string nm, .slice (some ⟨gc, 0, none⟩) n n, .slice (some ⟨gk, 0, none⟩) 1 1, .slice none 0 0, .slice none 0 0, .slice (some ⟨gx, 0, none⟩) 1 1] ⟨nm, cols, [0], [], [], [⟨[1], tn, d, u, df⟩]⟩ := by
 have hf := Sl.laid (R := FkR) (sz := 5) (ok := okY base w) (css := [[.slice (some ⟨gf, 0, none⟩) 1 1, .string tn, .int .i64 d, .int .i64 u, .bool df]]) (ds := [⟨[1], tn, d, u, df⟩]) (g := gx) (T := 80) h4 rfl ⟨b4, _, _, h4, by decide, by decide⟩ fun i hi hd => by
  obtain rfl : i = 0 := by simpa using hi
  exact ⟨rfl, _, _, _, rfl, intsY [1] h3 b3, Nat.le_refl _⟩
 exact ⟨n, _, 1, 1, none, 0, 0, none, 0, 0, _, 1, 1, rfl, b1, h1, hn, h0, intsY [0] h2 b2, Sl.nilY, Sl.nilY, hf, by omega, hz⟩
theorem TabY.lt {base : Nat} {w : World} {gc : Nat} {cs : List Value} {t : Tb} (h : TabY base w gc cs t) : gc < w.heap.size := by
 obtain ⟨_, _, _, _, _, _, _, _, _, _, _, _, _, _, _, hB, _⟩ := h
 exact hB.lt
theorem cellsY (w : World) (l : List Value) (t : TypeId) {g : Nat} (hg : g = w.heap.size) : ∀ j u, l[j]? = some u → (w.alloc (.cells l.toArray t)).cell? ((⟨g, 0, none⟩ : Addr).add j) = some u := by
 subst hg
 intro j u hj
 rw [addr_add, Nat.zero_add, cell_of_row _ _ _ _ _ _ (Go.heap_alloc_last w _)]
 simpa using hj
theorem but_above {w w' w'' : World} {R : Nat} (h : But R w w') (hb : Below w.heap.size w' w'') : But R w w'' :=
 ⟨hb.os.trans h.os, hb.tape.trans h.tape, hb.output.trans h.output, Nat.le_trans h.size hb.size, fun k hk hr => (hb.block k hk).trans (h.block k hk hr)⟩
theorem rdr_above {w w' w'' : World} {R : Nat} {a : Option Addr} {len cap : Nat} {zs : List Int} (h0 : Rdr w R a len cap zs) (h : Rdr w' R a len cap zs) (hb : Below w.heap.size w' w'') : Rdr w'' R a len cap zs := by
 have hR : R < w.heap.size := cell_lt h0.code
 obtain ⟨i, hi, hi1⟩ := h.place
 refine ⟨(hb.cell (p := ⟨R, 0, none⟩) hR).trans h.code, ⟨i, hi, (hb.cell (p := ⟨R, 1, none⟩) hR).trans hi1⟩, (hb.frozen (p := ⟨R, 1, none⟩) hR).trans h.free, ?_, h.apart⟩
 rcases h0.row with e | ⟨x, rfl, hl, hm, hz, hcell, hwz⟩
 ·exact .inl e
 ·rcases h.row with ⟨e, _⟩ | ⟨x', e, _, _, _, hcell', _⟩
  ·cases e
  ·cases e
   exact .inr ⟨x, rfl, hl, hm, hz, fun i hi => (hb.cell (cell_lt (hcell i hi))).trans (hcell' i hi), hwz⟩
def SB (w w' : World) (R : Nat) (a : Option Addr) (len cap : Nat) (zs : List Int) (v : Value) (n m : Nat) : Prop := ∃ xs, SchY w.heap.size w' v xs ∧ 0 < xs.length ∧ xs.length ≤ n ∧ (∀ x ∈ xs, x.2.2.sz ≤ m) ∧ But R w w' ∧ Rdr w' R a len cap zs
theorem SB.but {w w' w'' : World} {R : Nat} {a : Option Addr} {len cap : Nat} {zs : List Int} {v : Value} {n m : Nat} (h : SB w w' R a len cap zs v n m) (hb : But R w' w'') (hr : Rdr w'' R a len cap zs) (hR : R < w.heap.size) : SB w w'' R a len cap zs v n m := by
 obtain ⟨xs, h1, h2, h3, h4, h5, h6⟩ := h
 exact ⟨xs, h1.hold (Hold.but hb hR), h2, h3, h4, h5.trans hb, hr⟩
theorem SB.mono {w w' : World} {R : Nat} {a : Option Addr} {len cap : Nat} {zs : List Int} {v : Value} {n m n' m' : Nat} (h : SB w w' R a len cap zs v n m) (hn : n ≤ n') (hm : m ≤ m') : SB w w' R a len cap zs v n' m' := by
 obtain ⟨xs, h1, h2, h3, h4, h5, h6⟩ := h
 exact ⟨xs, h1, h2, by omega, fun x hx => Nat.le_trans (h4 x hx) hm, h5, h6⟩
theorem SB.rdr {w w' : World} {R : Nat} {a : Option Addr} {len cap : Nat} {zs : List Int} {v : Value} {n m : Nat} (h : SB w w' R a len cap zs v n m) : Rdr w' R a len cap zs := by
 obtain ⟨_, _, _, _, _, _, hr⟩ := h; exact hr
theorem SB.add {w q w' : World} {R : Nat} {a : Option Addr} {len cap : Nat} {zs : List Int} {v v' : Value} {xs : List (Nat × List Value × Tb)} {gc n m : Nat} {cs : List Value} {t : Tb} (h0 : Rdr w R a len cap zs) (hs : SchY w.heap.size q v xs) (ht : TabY w.heap.size q gc cs t) (hn : gc ∉ xs.map (·.1))
  (hl : xs.length ≤ n) (hm : ∀ x ∈ xs, x.2.2.sz ≤ m) (hm2 : t.sz ≤ m) (hb : But R w q) (hr : Rdr q R a len cap zs)
  (h' : w'.ownsRow w.heap.size 42 6 v' (xs.length + 1) ((xs.map (·.2.1)).flatten ++ cs)) (hg : q.grownBy w' v.ownBlock) : SB w w' R a len cap zs v' (n + 1) m := by
 have hB : Below w.heap.size q w' := (Below.refl w.heap.size q).grown hg hb.size fun k hk => (hs.1.lt k hk).1
 refine ⟨_, hs.app ht hn h' hg, by simp, by simpa using hl, fun x hx => ?_, but_above hb hB, rdr_above h0 hr hB⟩
 rcases List.mem_append.1 hx with hx | hx
 ·exact hm x hx
 ·rw [List.mem_singleton.1 hx]; exact hm2
theorem SB.table {w z1 z4 : World} {R : Nat} {a : Option Addr} {len cap : Nat} {zs : List Int} {v : Value} {n m : Nat} (h : SB w z1 R a len cap zs v n m) (hR : R < w.heap.size) (nm tn : ByteArray) (cols : List Cl) (d u : Int) (df : Bool) (hc : cols.length = 2)
  (hb : But R (((z1.alloc (.cells (cols.map Cl.cells).flatten.toArray 68)).alloc (.cells #[.int .i64 0] 2)).alloc (.cells #[.int .i64 1] 2)) z4) (hr : Rdr z4 R a len cap zs) (hz : (⟨nm, cols, [0], [], [], [⟨[1], tn, d, u, df⟩]⟩ : Tb).sz ≤ 1000) (box : List Value) (S : List Value) :
  ∃ xs, SchY w.heap.size (((z4.alloc (.cells #[.slice (some ⟨z1.heap.size + 1 + 1, 0, none⟩) 1 1, .string tn, .int .i64 d, .int .i64 u, .bool df] 80)).alloc (.cells box.toArray 42)).alloc (.cells S.toArray 42)) v xs ∧ 0 < xs.length ∧ xs.length ≤ n ∧ (∀ x ∈ xs, x.2.2.sz ≤ m) ∧ z1.heap.size ∉ xs.map (·.1) ∧
   TabY w.heap.size (((z4.alloc (.cells #[.slice (some ⟨z1.heap.size + 1 + 1, 0, none⟩) 1 1, .string tn, .int .i64 d, .int .i64 u, .bool df] 80)).alloc (.cells box.toArray 42)).alloc (.cells S.toArray 42)) z1.heap.size
    [.string nm, .slice (some ⟨z1.heap.size, 0, none⟩) 2 2, .slice (some ⟨z1.heap.size + 1, 0, none⟩) 1 1, .slice none 0 0, .slice none 0 0, .slice (some ⟨z4.heap.size, 0, none⟩) 1 1] ⟨nm, cols, [0], [], [], [⟨[1], tn, d, u, df⟩]⟩ ∧
   But R w (((z4.alloc (.cells #[.slice (some ⟨z1.heap.size + 1 + 1, 0, none⟩) 1 1, .string tn, .int .i64 d, .int .i64 u, .bool df] 80)).alloc (.cells box.toArray 42)).alloc (.cells S.toArray 42)) ∧
   Rdr (((z4.alloc (.cells #[.slice (some ⟨z1.heap.size + 1 + 1, 0, none⟩) 1 1, .string tn, .int .i64 d, .int .i64 u, .bool df] 80)).alloc (.cells box.toArray 42)).alloc (.cells S.toArray 42)) R a len cap zs := by
 obtain ⟨xs, h1, h2, h3, h4, h5, h6⟩ := h
 have hw : w.heap.size ≤ z1.heap.size := h5.size
 obtain ⟨C, eC⟩ : ∃ C, (cols.map Cl.cells).flatten = C := ⟨_, rfl⟩
 rw [eC] at hb
 have b1 := Blo.new z1 C 68
 have b2 := Blo.new (z1.alloc (.cells C.toArray 68)) [.int .i64 0] 2
 have b3 := Blo.new ((z1.alloc (.cells C.toArray 68)).alloc (.cells [.int .i64 0].toArray 2)) [.int .i64 1] 2
 rw [show (z1.alloc (.cells C.toArray 68)).heap.size = z1.heap.size + 1 by simp] at b2
 rw [show ((z1.alloc (.cells C.toArray 68)).alloc (.cells [.int .i64 0].toArray 2)).heap.size = z1.heap.size + 1 + 1 by simp] at b3
 have k1 := Hold.alloc w.heap.size z1 (.cells C.toArray 68)
 have k2 := Hold.alloc w.heap.size (z1.alloc (.cells C.toArray 68)) (.cells [.int .i64 0].toArray 2)
 have k3 := Hold.alloc w.heap.size ((z1.alloc (.cells C.toArray 68)).alloc (.cells [.int .i64 0].toArray 2)) (.cells [.int .i64 1].toArray 2)
 have kb : Hold w.heap.size (((z1.alloc (.cells C.toArray 68)).alloc (.cells [.int .i64 0].toArray 2)).alloc (.cells [.int .i64 1].toArray 2)) z4 := Hold.but hb hR
 have b4 := Blo.new z4 [.slice (some ⟨z1.heap.size + 1 + 1, 0, none⟩) 1 1, .string tn, .int .i64 d, .int .i64 u, .bool df] 80
 have hz4 : z1.heap.size + 1 + 1 + 1 ≤ z4.heap.size := by have := hb.size; simpa using this
 obtain ⟨X, eX⟩ : ∃ X, (Obj.cells #[.slice (some ⟨z1.heap.size + 1 + 1, 0, none⟩) 1 1, .string tn, .int .i64 d, .int .i64 u, .bool df] 80) = X := ⟨_, rfl⟩
 rw [eX] at b4 ⊢
 have q1 := Hold.alloc w.heap.size z4 X
 have q2 := Hold.alloc w.heap.size (z4.alloc X) (.cells box.toArray 42)
 have q3 := Hold.alloc w.heap.size ((z4.alloc X).alloc (.cells box.toArray 42)) (.cells S.toArray 42)
 have qq := q1.trans (q2.trans q3)
 refine ⟨xs, h1.hold (((k1.trans k2).trans k3).trans (kb.trans qq)), h2, h3, h4, fun hx => ?_, mkTab nm tn cols d u df 2 hc (by omega) (by rw [eC]; exact b1.hold hw ((k2.trans k3).trans (kb.trans qq))) (b2.hold (by omega) (k3.trans (kb.trans qq))) (b3.hold (by omega) (kb.trans qq)) (b4.hold (by omega) (q2.trans q3)) hw (by omega) (by omega) (by omega) hz,
  (((((h5.alloc _).alloc _).alloc _).trans hb).alloc _).alloc _ |>.alloc _, ((hr.alloc _).alloc _).alloc _⟩
 obtain ⟨x, hx, e⟩ := List.mem_map.1 hx
 have := (h1.2.2 x hx).lt
 omega
theorem TabY.len6 {base : Nat} {w : World} {gc : Nat} {cs : List Value} {t : Tb} (h : TabY base w gc cs t) : cs.length = 6 := by
 obtain ⟨_, _, _, _, _, _, rfl⟩ := h.len; rfl
theorem TabY.noKey {base : Nat} {w : World} {gc : Nat} {cs : List Value} {t : Tb} (h : TabY base w gc cs t) : TabY base w gc (cs.set 2 (.slice none 0 0)) { t with key := [] } := by
 obtain ⟨n1, A2, n2, c2, A3, n3, c3, A4, n4, c4, A5, n5, c5, rfl, hb, hB, hn, hp, h2, h3, h4, h5, ⟨k2, k3, k4, k5⟩, hz⟩ := h
 refine ⟨n1, none, 0, 0, A3, n3, c3, A4, n4, c4, A5, n5, c5, rfl, hb, hB, hn, hp, Sl.nilY, h3, h4, h5, ⟨Nat.le_refl _, k3, k4, k5⟩, ?_⟩
 unfold Tb.sz at hz ⊢
 simp only [List.length_nil]
 omega
theorem TabY.named {base : Nat} {w : World} {gc : Nat} {cs : List Value} {t : Tb} (h : TabY base w gc cs t) (nm : ByteArray) (hz : ({ t with name := nm } : Tb).sz ≤ 1000) : TabY base w gc (cs.set 0 (.string nm)) { t with name := nm } := by
 obtain ⟨n1, A2, n2, c2, A3, n3, c3, A4, n4, c4, A5, n5, c5, rfl, hb, hB, hn, hp, h2, h3, h4, h5, hc, _⟩ := h
 exact ⟨n1, A2, n2, c2, A3, n3, c3, A4, n4, c4, A5, n5, c5, rfl, hb, hB, hn, hp, h2, h3, h4, h5, hc, hz⟩
theorem SchY.head {base : Nat} {w : World} {v : Value} {x : Nat × List Value × Tb} {xs : List (Nat × List Value × Tb)} (h : SchY base w v (x :: xs)) : ∃ g cap, v = .slice (some ⟨g, 0, none⟩) (xs.length + 1) cap ∧ base ≤ g ∧ (∀ k u, x.2.1[k]? = some u → w.cell? ⟨g, k, none⟩ = some u) ∧ (∀ k, w.frozen? ⟨g, k, none⟩ = false) ∧ TC w g ∧ g ≠ x.1 ∧
  (∀ k u cs' t', k < 6 → cs' = x.2.1.set k u → TabY base (w.setCell ⟨g, k, none⟩ u) x.1 cs' t' → SchY base (w.setCell ⟨g, k, none⟩ u) v ((x.1, cs', t') :: xs)) := by
 obtain ⟨⟨h1, h2⟩, h3, h4⟩ := h
 have hx := h4 x (List.mem_cons_self ..)
 have hx6 := hx.len6
 rcases h2 with ⟨-, h2⟩ | ⟨g, cap, cur, rfl, k1, k2, k3, k4, k5, k6⟩
 ·simp at h2
 have hne : ∀ y ∈ x :: xs, g ≠ y.1 := fun y hy => by
  rintro rfl
  obtain ⟨_, _, _, _, _, _, _, _, _, _, _, _, _, _, _, hB, _⟩ := h4 y hy
  unfold Blo at hB
  rw [hB] at k2
  simp only [Option.some.injEq, Obj.cells.injEq] at k2
  exact absurd k2.2.1 (by decide)
 have htc : TC w g := ⟨_, _, k2, .inl rfl⟩
 have hlen : (x :: xs).length = xs.length + 1 := rfl
 rw [hlen] at k3 k6 h1
 refine ⟨g, cap, rfl, k1, fun k u hk => ?_, fun k => by simp [World.frozen?, k2], htc, hne x (List.mem_cons_self ..), fun k u cs' t' hk e ht => ?_⟩
 ·have hk6 : k < 6 := by rw [← hx6]; exact (List.getElem?_eq_some_iff.1 hk).1
  have e : (cur.toList.take ((xs.length + 1) * 6))[k]? = some u := by rw [k6, List.map_cons, List.flatten_cons, List.getElem?_append_left (by omega)]; exact hk
  rw [List.getElem?_take, if_pos (by omega)] at e
  simp only [World.cell?, k2]
  rw [← Array.getElem?_toList]
  simpa using e
 ·subst e
  have hcur : (xs.length + 1) * 6 ≤ cur.size := by rw [k5]; exact Nat.mul_le_mul_right _ k3
  refine ⟨⟨?_, .inr ⟨g, cap, cur.set! k u, rfl, k1, ?_, k3, k4, by simpa using k5, ?_⟩⟩, h3, fun y hy => ?_⟩
  ·rw [List.map_cons, List.flatten_cons, List.length_append] at h1 ⊢
   rw [List.length_set]
   exact h1
  ·unfold World.setCell
   simp [Array.getElem?_modify, k2]
  ·rw [List.map_cons, List.flatten_cons] at k6 ⊢
   show List.take ((xs.length + 1) * 6) (cur.set! k u).toList = _
   rw [show (cur.set! k u).toList = cur.toList.set k u by simp, List.take_set, k6, List.set_append, if_pos (by omega)]
  ·rcases List.mem_cons.1 hy with rfl | hy
   ·exact ht
   ·exact (h4 y (List.mem_cons_of_mem _ hy)).set htc (hne y (List.mem_cons_of_mem _ hy)) u
theorem SchY.kind {base : Nat} {w : World} {v : Value} {x : Nat × List Value × Tb} {xs : List (Nat × List Value × Tb)} (h : SchY base w v (x :: xs)) : ∃ c0 cs0, x.2.2.cols = c0 :: cs0 ∧ base ≤ x.1 ∧ (∃ n1, x.2.1[1]? = some (.slice (some ⟨x.1, 0, none⟩) n1 n1) ∧ 0 < n1) ∧ (∃ u, w.cell? ⟨x.1, 1, none⟩ = some u) ∧ w.frozen? ⟨x.1, 1, none⟩ = false ∧
  ∀ z, SchY base (w.setCell ⟨x.1, 1, none⟩ (.int .i64 z)) v ((x.1, x.2.1, { x.2.2 with cols := { c0 with kind := z } :: cs0 }) :: xs) := by
 obtain ⟨⟨h1, h2⟩, h3, h4⟩ := h
 obtain ⟨gx, cx, tx⟩ := x
 obtain ⟨n1, A2, n2, c2, A3, n3, c3, A4, n4, c4, A5, n5, c5, e, hb, hB, hn, hp, g2, g3, g4, g5, hc, hz⟩ := h4 _ (List.mem_cons_self ..)
 dsimp only at e hb hB hn g2 g3 g4 g5 hz ⊢
 subst e
 obtain ⟨c0, cs0, ec⟩ : ∃ c0 cs0, tx.cols = c0 :: cs0 := by
  cases hcl : tx.cols with
  | nil => rw [hcl] at hn; simp at hn; omega
  | cons a b => exact ⟨a, b, rfl⟩
 have hB' := hB
 rw [ec] at hB'
 have htc : TC w gx := ⟨_, _, hB, .inr rfl⟩
 refine ⟨c0, cs0, ec, hb, ⟨n1, rfl, by omega⟩, ⟨.int .i64 c0.kind, hB'.cell 1 _ (by simp [Cl.cells])⟩, hB'.free 1, fun z => ⟨⟨h1, ?_⟩, h3, fun y hy => ?_⟩⟩
 ·rcases h2 with h2 | ⟨g, cap, cur, k0, k1, k2, k3⟩
  ·exact .inl h2
  ·refine .inr ⟨g, cap, cur, k0, k1, (Below.heap_setCell _ _ _ _ fun he => ?_).trans k2, k3⟩
   have he : g = gx := he
   subst he
   unfold Blo at hB
   rw [hB] at k2
   simp only [Option.some.injEq, Obj.cells.injEq] at k2
   exact absurd k2.2.1 (by decide)
 ·rcases List.mem_cons.1 hy with rfl | hy
  ·have ho : ∀ b, okY base w b → okY base (w.setCell ⟨gx, 1, none⟩ (.int .i64 z)) b := fun b h => h.set htc _
   have hk : ∀ q u, okY base w q.block → w.cell? q = some u → (w.setCell ⟨gx, 1, none⟩ (.int .i64 z)).cell? q = some u := fun q u h hc => (World.cell?_setCell_other _ _ _ _ (fun e => h.ne htc (by rw [← e]))).trans hc
   refine ⟨n1, A2, n2, c2, A3, n3, c3, A4, n4, c4, A5, n5, c5, rfl, hb, ?_, ?_, hp, g2.stays IntR.stays ho hk, g3.stays UqR.stays ho hk, g4.stays CkR.stays ho hk, g5.stays FkR.stays ho hk, hc, ?_⟩
   ·exact hB'.put 1 (.int .i64 z)
   ·rw [ec] at hn; exact hn
   ·unfold Tb.sz at hz ⊢
    rw [ec] at hz
    exact hz
  ·have hne : gx ≠ y.1 := fun e => by
    have h3' : gx ∉ xs.map (·.1) := (List.nodup_cons.1 h3).1
    exact h3' (by rw [e]; exact List.mem_map.2 ⟨y, hy, rfl⟩)
   exact (h4 y (List.mem_cons_of_mem _ hy)).set (p := ⟨gx, 1, none⟩) htc hne _
set_option maxHeartbeats 1000000 in
theorem specColTok (n : Int) (w : World) :
  Calls Tryz.prog 27 #[.int .i64 n] w fun e w' => e = .returned (.agg #[.int .i64 1, .int .i64 n, .int .i64 0, .int .i64 0, .string ⟨#[]⟩]) ∧ Below w.heap.size w w' := by
 go_enter Tryz.func27, Tryz.ntmps27
 go_wp2
 exact bodyPost_ret (v := .agg #[.int .i64 1, .int .i64 n, .int .i64 0, .int .i64 0, .string ⟨#[]⟩]) (by simp [results, Tryz.results27, go_sem]) rfl
  ⟨rfl, (Below.refl _ _).alloc (Nat.le_refl _) _⟩
set_option maxHeartbeats 1000000 in
theorem specConstTok (k n : Int) (s : ByteArray) (w : World) :
  Calls Tryz.prog 28 #[.agg #[.int .i64 k, .int .i64 n, .string s]] w fun e w' => e = .returned (.agg #[.int .i64 2, .int .i64 0, .int .i64 k, .int .i64 n, .string s]) ∧ Below w.heap.size w w' := by
 go_enter Tryz.func28, Tryz.ntmps28
 go_wp2
 exact bodyPost_ret (v := .agg #[.int .i64 2, .int .i64 0, .int .i64 k, .int .i64 n, .string s]) (by simp [results, Tryz.results28, go_sem]) rfl
  ⟨rfl, ((Below.refl _ _).alloc (Nat.le_refl _) _).alloc (by simp) _⟩
theorem below_but {w w' : World} (h : Below w.heap.size w w') (R : Nat) : But R w w' := ⟨h.os, h.tape, h.output, h.size, fun k hk _ => h.block k hk⟩
theorem rdr_below {w w' : World} {R : Nat} {a : Option Addr} {len cap : Nat} {zs : List Int} (h : Rdr w R a len cap zs) (hb : Below w.heap.size w w') : Rdr w' R a len cap zs := by
 have hR : R < w.heap.size := cell_lt h.code
 obtain ⟨i, hi, hi1⟩ := h.place
 exact ⟨(hb.cell (p := ⟨R, 0, none⟩) hR).trans h.code, ⟨i, hi, (hb.cell (p := ⟨R, 1, none⟩) hR).trans hi1⟩, (hb.frozen (p := ⟨R, 1, none⟩) hR).trans h.free, h.row.below hb, h.apart⟩
theorem PB.below {w w' w'' : World} {R : Nat} {a : Option Addr} {len cap : Nat} {zs : List Int} {gp gc m : Nat} (h : PB w w' R a len cap zs gp gc m) (hb : Below w'.heap.size w' w'') (hR : R < w.heap.size) : PB w w'' R a len cap zs gp gc m :=
 h.but (below_but hb R) (rdr_below (by obtain ⟨_, _, _, _, _, _, _, hr, _⟩ := h; exact hr) hb) hR
theorem PB.rdr {w w' : World} {R : Nat} {a : Option Addr} {len cap : Nat} {zs : List Int} {gp gc m : Nat} (h : PB w w' R a len cap zs gp gc m) : Rdr w' R a len cap zs := by
 obtain ⟨_, _, _, _, _, _, _, hr, _⟩ := h; exact hr
theorem rdAction (w : World) (R : Nat) (a : Option Addr) (len cap : Nat) (zs : List Int) (h : Rdr w R a len cap zs) :
  Calls Tryz.prog 29 #[.pointer (some ⟨R, 0, none⟩)] w (Drew R a len cap zs (isInt 0 2) w) := by
 go_enter Tryz.func29, Tryz.ntmps29
 go_wp2_with fail
 refine (rdBelow 3 w R a len cap zs h).mono ?_
 rintro e w' ⟨v, rfl, ⟨x, rfl, x0, x1⟩, hb, hr⟩
 go_wp2_with fail
 go_ret
 exact ⟨_, rfl, ⟨x, rfl, by omega, by omega⟩, hb, hr⟩
def isSch (base m : Nat) (v : Value) (w : World) : Prop := ∃ xs, SchY base w v xs ∧ 0 < xs.length ∧ xs.length ≤ 3 ∧ ∀ x ∈ xs, x.2.2.sz ≤ m
theorem rdr_drewY {w : World} {R : Nat} {a : Option Addr} {len cap : Nat} {zs : List Int} (h : Rdr w R a len cap zs) : Rdr w.drew R a len cap zs := ⟨h.code, h.place, h.free, h.row, h.apart⟩
theorem but_undrewY {R : Nat} {w w' : World} (h : But R w.drew w') : But R w w' := ⟨h.os, h.tape, h.output, h.size, h.block⟩
theorem sz_noKey (t : Tb) : ({ t with key := [] } : Tb).sz ≤ t.sz := by unfold Tb.sz; simp only [List.length_nil]; omega
theorem sz_named (t : Tb) (nm : ByteArray) : ({ t with name := nm } : Tb).sz ≤ t.sz + nm.size := by unfold Tb.sz; simp only; omega
theorem sz_kind (t : Tb) {c0 : Cl} {cs0 : List Cl} (h : t.cols = c0 :: cs0) (z : Int) : ({ t with cols := { c0 with kind := z } :: cs0 } : Tb).sz = t.sz := by unfold Tb.sz; rw [h]; rfl
def colsP : List Cl := [⟨⟨#[107]⟩, 1, true, ⟨0, 0, ⟨#[]⟩⟩⟩, ⟨⟨#[116]⟩, 2, false, ⟨0, 0, ⟨#[]⟩⟩⟩, ⟨⟨#[110]⟩, 1, false, ⟨1, 1, ⟨#[]⟩⟩⟩]
def tabP : Tb := ⟨⟨#[112]⟩, colsP, [0], [], [], []⟩
set_option maxRecDepth 100000 in
set_option maxHeartbeats 4000000 in
theorem rdSchema (w : World) (R : Nat) (a : Option Addr) (len cap : Nat) (zs : List Int) (h : Rdr w R a len cap zs) :
  Calls Tryz.prog 12 #[.pointer (some ⟨R, 0, none⟩)] w (Drew R a len cap zs (isSch w.heap.size 61) w) := by
 have hlt : R < w.heap.size := cell_lt h.code
 obtain ⟨i0, hi, hz0, hz1, hz2⟩ := info_parts infoTableT
 have H1 := Lib.hid hi
 have H2 := Lib.hid hz0
 have H3 := Lib.hid hz1
 have H4 := Lib.hid hz2
 clear hi hz0 hz1 hz2
 go_enter Tryz.func12, Tryz.ntmps12
 go_wp2_with fail
 refine (specInt 1 _).mono ?_
 rintro e w1 ⟨rfl, o, rfl⟩
 go_wp2_with fail
 have hp0 : PB w ((((w.alloc o).alloc (.cells #[.string ⟨#[107]⟩, .int .i64 1, .bool true, .int .i64 0, .int .i64 0, .string ⟨#[]⟩, .string ⟨#[116]⟩, .int .i64 2, .bool false, .int .i64 0, .int .i64 0, .string ⟨#[]⟩, .string ⟨#[110]⟩, .int .i64 1, .bool false, .int .i64 1, .int .i64 1, .string ⟨#[]⟩] 68)).alloc (.cells #[.int .i64 0] 2)).alloc (.cells #[.string ⟨#[112]⟩, .slice (some ⟨w.heap.size + 1, 0, none⟩) 3 3, .slice (some ⟨w.heap.size + 1 + 1, 0, none⟩) 1 1, .slice none 0 0, .slice none 0 0, .slice none 0 0] 42)) R a len cap zs (w.heap.size + 1 + 1 + 1) (w.heap.size + 1) 30 := by
  have b1 := Blo.new (w.alloc o) (colsP.map Cl.cells).flatten 68
  have b2 := Blo.new ((w.alloc o).alloc (.cells (colsP.map Cl.cells).flatten.toArray 68)) ([0].map (Value.int .i64)) 2
  rw [show ((w.alloc o).alloc (.cells (colsP.map Cl.cells).flatten.toArray 68)).heap.size = w.heap.size + 1 + 1 by simp] at b2
  rw [show (w.alloc o).heap.size = w.heap.size + 1 by simp] at b1
  have b3 := Blo.new ((((w.alloc o).alloc (.cells (colsP.map Cl.cells).flatten.toArray 68)).alloc (.cells ([0].map (Value.int .i64)).toArray 2))) [.string ⟨#[112]⟩, .slice (some ⟨w.heap.size + 1, 0, none⟩) 3 3, .slice (some ⟨w.heap.size + 1 + 1, 0, none⟩) 1 1, .slice none 0 0, .slice none 0 0, .slice none 0 0] 42
  rw [show (((w.alloc o).alloc (.cells (colsP.map Cl.cells).flatten.toArray 68)).alloc (.cells ([0].map (Value.int .i64)).toArray 2)).heap.size = w.heap.size + 1 + 1 + 1 by simp] at b3
  have h2 := Hold.alloc w.heap.size ((w.alloc o).alloc (.cells (colsP.map Cl.cells).flatten.toArray 68)) (.cells ([0].map (Value.int .i64)).toArray 2)
  have h3 := Hold.alloc w.heap.size (((w.alloc o).alloc (.cells (colsP.map Cl.cells).flatten.toArray 68)).alloc (.cells ([0].map (Value.int .i64)).toArray 2)) (.cells [.string ⟨#[112]⟩, .slice (some ⟨w.heap.size + 1, 0, none⟩) 3 3, .slice (some ⟨w.heap.size + 1 + 1, 0, none⟩) 1 1, .slice none 0 0, .slice none 0 0, .slice none 0 0].toArray 42)
  refine ⟨[.string ⟨#[112]⟩, .slice (some ⟨w.heap.size + 1, 0, none⟩) 3 3, .slice (some ⟨w.heap.size + 1 + 1, 0, none⟩) 1 1, .slice none 0 0, .slice none 0 0, .slice none 0 0], tabP, b3, by omega, ?_, rfl, (((But.refl R w).alloc o).alloc _).alloc _ |>.alloc _, (((h.alloc o).alloc _).alloc _).alloc _, by decide⟩
  exact ⟨3, _, 1, 1, none, 0, 0, none, 0, 0, none, 0, 0, rfl, by omega, b1.hold (by omega) (h2.trans h3), rfl, by omega, intsY [0] (b2.hold (by omega) h3) (by omega), Sl.nilY, Sl.nilY, Sl.nilY, by omega, by decide⟩
 have H0 := Lib.hid h
 have HP0 := Lib.hid hp0
 clear hp0
 generalize ((((w.alloc o).alloc (.cells #[.string ⟨#[107]⟩, .int .i64 1, .bool true, .int .i64 0, .int .i64 0, .string ⟨#[]⟩, .string ⟨#[116]⟩, .int .i64 2, .bool false, .int .i64 0, .int .i64 0, .string ⟨#[]⟩, .string ⟨#[110]⟩, .int .i64 1, .bool false, .int .i64 1, .int .i64 1, .string ⟨#[]⟩] 68)).alloc (.cells #[.int .i64 0] 2)).alloc (.cells #[.string ⟨#[112]⟩, .slice (some ⟨w.heap.size + 1, 0, none⟩) 3 3, .slice (some ⟨w.heap.size + 1 + 1, 0, none⟩) 1 1, .slice none 0 0, .slice none 0 0, .slice none 0 0] 42)) = y at *
 refine (rdOnce 2 _ R a len cap zs HP0.out.rdr).mono ?_
 rintro e y1 ⟨v, rfl, ⟨b, rfl⟩, hb1, hr1⟩
 have HP1 := Lib.hid (HP0.out.but hb1 hr1 hlt)
 clear HP0 hb1 hr1 h
 obtain ⟨gp, egp⟩ : ∃ gp, w.heap.size + 1 + 1 + 1 = gp := ⟨_, rfl⟩
 obtain ⟨gc, egc⟩ : ∃ gc, w.heap.size + 1 = gc := ⟨_, rfl⟩
 obtain ⟨gk, egk⟩ : ∃ gk, w.heap.size + 1 + 1 = gk := ⟨_, rfl⟩
 rw [egp, egc] at HP1
 rw [egp, egk, egc]
 clear egp egc egk
 go_upto_if 15 with (fail)
 go_cut [] from 14 (fun wx => PB w wx R a len cap zs gp gc 40)
 case first =>
  cases b
  ·go_wp2_with fail
   go_meet
   case rel => exact HP1.out.mono (by omega)
  ·have k1 := Hold.alloc w.heap.size y1 (.cells #[.int .i64 2] 2)
   have k2 := Hold.alloc w.heap.size (y1.alloc (.cells #[.int .i64 2] 2)) (.cells #[.slice (some ⟨y1.heap.size, 0, none⟩) 1 1] 71)
   obtain ⟨⟨u, c3⟩, f3⟩ := HP1.out.cell (k1.trans k2) 3 (by omega)
   clear k1 k2
   go_wp2_with fail
   go_meet
   case rel => exact (HP1.out.uniq H0.out (by omega)).mono (by omega)
 case rest =>
  have HP2 := Lib.hid hcut
  clear hcut HP1
  go_wp2_with fail
  refine (rdOnce 2 _ R a len cap zs HP2.out.rdr).mono ?_
  rintro e y2 ⟨v, rfl, ⟨b2, rfl⟩, hb2, hr2⟩
  have HP3 := Lib.hid (HP2.out.but hb2 hr2 hlt)
  clear HP2 hb2 hr2
  go_upto_if 21 with (fail)
  go_cut [] from 20 (fun wx => PB w wx R a len cap zs gp gc 60)
  case first =>
   cases b2
   ·go_wp2_with fail
    go_meet
    case rel => exact HP3.out.mono (by omega)
   ·go_wp2_with fail
    refine (specColTok 0 _).mono ?_
    rintro e y3 ⟨rfl, hb3⟩
    have HP4 := Lib.hid (HP3.out.below hb3 hlt)
    go_wp2_with fail
    refine (specInt 4 _).mono ?_
    rintro e y4 ⟨rfl, o4, rfl⟩
    have HP5 := Lib.hid (HP4.out.below ((Below.refl y3.heap.size y3).alloc (Nat.le_refl _) o4) hlt)
    generalize y3.alloc o4 = y4 at *
    go_wp2_with fail
    refine (specConstTok 1 4 ⟨#[]⟩ _).mono ?_
    rintro e y5 ⟨rfl, hb5⟩
    have HP6 := Lib.hid (HP5.out.below hb5 hlt)
    clear HP3 HP4 HP5 hb3 hb5
    have k1 := Hold.alloc w.heap.size y5 (.cells #[.int .i64 1, .int .i64 0, .int .i64 0, .int .i64 0, .string ⟨#[]⟩, .int .i64 2, .int .i64 0, .int .i64 1, .int .i64 4, .string ⟨#[]⟩, .int .i64 4, .int .i64 0, .int .i64 0, .int .i64 0, .string ⟨#[]⟩] 73)
    have k2 := Hold.alloc w.heap.size (y5.alloc (.cells #[.int .i64 1, .int .i64 0, .int .i64 0, .int .i64 0, .string ⟨#[]⟩, .int .i64 2, .int .i64 0, .int .i64 1, .int .i64 4, .string ⟨#[]⟩, .int .i64 4, .int .i64 0, .int .i64 0, .int .i64 0, .string ⟨#[]⟩] 73)) (.cells #[.slice (some ⟨y5.heap.size, 0, none⟩) 3 3] 77)
    obtain ⟨⟨u, c4⟩, f4⟩ := HP6.out.cell (k1.trans k2) 4 (by omega)
    clear k1 k2
    go_wp2_with fail
    go_meet
    case rel => exact (HP6.out.chk H0.out (by omega)).mono (by omega)
  case rest =>
   obtain ⟨cs, t, hB, hgp, hT, hc3, hb6, hr6, hz6⟩ := hcut
   obtain ⟨x0, x1, x2, x3, x4, x5, rfl⟩ := hT.len
   have d0 := hB.cell 0 x0 rfl
   have d1 := hB.cell 1 x1 rfl
   have d2 := hB.cell 2 x2 rfl
   have d3 := hB.cell 3 x3 rfl
   have d4 := hB.cell 4 x4 rfl
   have d5 := hB.cell 5 x5 rfl
   have HS1 := Lib.hid (show SB w (wc.alloc (.cells #[x0, x1, x2, x3, x4, x5] 42)) R a len cap zs (.slice (some ⟨wc.heap.size, 0, none⟩) 1 1) 1 60 from
    ⟨_, SchY.one hT hb6.size, by simp, by simp, fun x hx => by rw [List.mem_singleton.1 hx]; exact hz6, hb6.alloc _, hr6.alloc _⟩)
   clear hB hT hb6 hr6 HP3
   go_wp2_with fail
   generalize wc.alloc (.cells #[x0, x1, x2, x3, x4, x5] 42) = u1 at *
   generalize Value.slice (some ⟨wc.heap.size, 0, none⟩) 1 1 = v1 at *
   clear d0 d1 d2 d3 d4 d5
   refine (rdOnce 4 _ R a len cap zs HS1.out.rdr).mono ?_
   rintro e u2 ⟨v, rfl, ⟨b3, rfl⟩, hb2, hr2⟩
   have HS2 := Lib.hid (HS1.out.but hb2 hr2 hlt)
   clear HS1 hb2 hr2
   go_upto_if 34 with (fail)
   go_cut [4] from 32 (fun v wx => SB w wx R a len cap zs v 2 60)
   case first =>
    cases b3
    ·go_wp2_with fail
     refine (rdOnce 4 _ R a len cap zs HS2.out.rdr).mono ?_
     rintro e z1 ⟨v, rfl, ⟨nn, rfl⟩, hb2, hr2⟩
     have HS3 := Lib.hid (HS2.out.but hb2 hr2 hlt)
     clear HS2 hb2 hr2
     go_wp2_with fail
     refine (rdAction _ R a len cap zs (((HS3.out.rdr.alloc _).alloc _).alloc _)).mono ?_
     rintro e z2 ⟨v, rfl, ⟨d, rfl, d0, d1⟩, hb2, hr2⟩
     go_wp2_with fail
     refine (rdAction _ R a len cap zs hr2).mono ?_
     rintro e z3 ⟨v, rfl, ⟨dd, rfl, dd0, dd1⟩, hb3, hr3⟩
     go_wp2_with fail
     refine (rdOnce 4 _ R a len cap zs hr3).mono ?_
     rintro e z4 ⟨v, rfl, ⟨df, rfl⟩, hb4, hr4⟩
     have HT := Lib.hid (HS3.out.table hlt ⟨#[99]⟩ ⟨#[112]⟩ [⟨⟨#[107]⟩, 1, true, ⟨0, 0, ⟨#[]⟩⟩⟩, ⟨⟨#[112]⟩, 1, nn, ⟨0, 0, ⟨#[]⟩⟩⟩] d dd df rfl ((hb2.trans hb3).trans hb4) hr4 (show (9 : Nat) ≤ 1000 by omega)
      [.string ⟨#[99]⟩, .slice (some ⟨z1.heap.size, 0, none⟩) 2 2, .slice (some ⟨z1.heap.size + 1, 0, none⟩) 1 1, .slice none 0 0, .slice none 0 0, .slice (some ⟨z4.heap.size, 0, none⟩) 1 1]
      [.string ⟨#[99]⟩, .slice (some ⟨z1.heap.size, 0, none⟩) 2 2, .slice (some ⟨z1.heap.size + 1, 0, none⟩) 1 1, .slice none 0 0, .slice none 0 0, .slice (some ⟨z4.heap.size, 0, none⟩) 1 1])
     clear hb2 hb3 hb4 hr2 hr3 hr4 d0 d1 dd0 dd1 HS3
     obtain ⟨xs, hs, hl0, hl, hm, hn, ht, hbq, hrq⟩ := HT.out
     have HS := Lib.hid hs
     have HTT := Lib.hid ht
     have HN := Lib.hid hn
     have HM := Lib.hid hm
     have HBQ := Lib.hid hbq
     have HRQ := Lib.hid hrq
     have hwq : w.heap.size ≤ z4.heap.size + 1 + 1 + 1 := by have := HBQ.out.size; simpa using this
     clear hs ht hn hm hbq hrq HT
     go_wp2_with (at_builtin; refine wpList_append_own _ rfl _ _ 24 rfl w.heap.size 42 i0 (.agg #[.string ⟨#[]⟩, .slice none 0 0, .slice none 0 0, .slice none 0 0, .slice none 0 0, .slice none 0 0]) 6 136 Tryz.underlying24 H1.out H2.out H3.out H4.out rfl (by decide) _ _ _ rfl HS.out.1 ⟨_, 0, none⟩ 1 1 [.string ⟨#[99]⟩, .slice (some ⟨z1.heap.size, 0, none⟩) 2 2, .slice (some ⟨z1.heap.size + 1, 0, none⟩) 1 1, .slice none 0 0, .slice none 0 0, .slice (some ⟨z4.heap.size, 0, none⟩) 1 1] rfl rfl ?c1 ?c2 ?c3 ?c4 ?c5 ?_)
     case c1 => exact cellsY _ [.string ⟨#[99]⟩, .slice (some ⟨z1.heap.size, 0, none⟩) 2 2, .slice (some ⟨z1.heap.size + 1, 0, none⟩) 1 1, .slice none 0 0, .slice none 0 0, .slice (some ⟨z4.heap.size, 0, none⟩) 1 1] _ (by simp)
     case c2 => intro u hu; simp at hu; rcases hu with rfl | rfl | rfl | rfl | rfl | rfl <;> rfl
     case c3 => unfold maxLen; omega
     case c4 => omega
     case c5 => simp; omega
     intro v' w3 hown3 hgrow _
     have HZ := Lib.hid (SB.add H0.out HS.out HTT.out HN.out hl HM.out (show (9 : Nat) ≤ 60 by omega) HBQ.out HRQ.out hown3 hgrow)
     clear hown3 hgrow HS HTT HN HM HBQ HRQ
     go_wp2_with fail
     go_meet
     case rel => exact HZ.out
    ·go_wp2_with fail
     go_meet
     case rel => exact HS2.out.mono (by omega) (by omega)
   case rest =>
    have HS4 := Lib.hid hcut
    clear hcut HS2
    go_wp2_with fail
    refine (rdOnce 3 _ R a len cap zs HS4.out.rdr).mono ?_
    rintro e z1 ⟨v, rfl, ⟨b4, rfl⟩, hb2, hr2⟩
    have HS5 := Lib.hid (HS4.out.but hb2 hr2 hlt)
    clear HS4 hb2 hr2
    go_upto_if 56 with (fail)
    go_cut [4] from 55 (fun v wx => SB w wx R a len cap zs v 3 60)
    case first =>
     cases b4
     ·go_wp2_with fail
      go_meet
      case rel => exact HS5.out.mono (by omega) (by omega)
     ·go_wp2_with fail
      refine (rdAction _ R a len cap zs (((HS5.out.rdr.alloc _).alloc _).alloc _)).mono ?_
      rintro e z2 ⟨v, rfl, ⟨d, rfl, d0, d1⟩, hb2, hr2⟩
      go_wp2_with fail
      refine (rdAction _ R a len cap zs hr2).mono ?_
      rintro e z3 ⟨v, rfl, ⟨dd, rfl, dd0, dd1⟩, hb3, hr3⟩
      have HT := Lib.hid (HS5.out.table hlt ⟨#[116, 114, 101, 101]⟩ ⟨#[116, 114, 101, 101]⟩ [⟨⟨#[107]⟩, 1, true, ⟨0, 0, ⟨#[]⟩⟩⟩, ⟨⟨#[117, 112]⟩, 1, false, ⟨0, 0, ⟨#[]⟩⟩⟩] d dd false rfl (hb2.trans hb3) hr3 (show (16 : Nat) ≤ 1000 by omega)
       [.string ⟨#[116, 114, 101, 101]⟩, .slice (some ⟨z1.heap.size, 0, none⟩) 2 2, .slice (some ⟨z1.heap.size + 1, 0, none⟩) 1 1, .slice none 0 0, .slice none 0 0, .slice (some ⟨z3.heap.size, 0, none⟩) 1 1]
       [.string ⟨#[116, 114, 101, 101]⟩, .slice (some ⟨z1.heap.size, 0, none⟩) 2 2, .slice (some ⟨z1.heap.size + 1, 0, none⟩) 1 1, .slice none 0 0, .slice none 0 0, .slice (some ⟨z3.heap.size, 0, none⟩) 1 1])
      clear hb2 hb3 hr2 hr3 d0 d1 dd0 dd1 HS5
      obtain ⟨xs, hs, hl0, hl, hm, hn, ht, hbq, hrq⟩ := HT.out
      have HS := Lib.hid hs
      have HTT := Lib.hid ht
      have HN := Lib.hid hn
      have HM := Lib.hid hm
      have HBQ := Lib.hid hbq
      have HRQ := Lib.hid hrq
      have hwq : w.heap.size ≤ z3.heap.size + 1 + 1 + 1 := by have := HBQ.out.size; simpa using this
      clear hs ht hn hm hbq hrq HT
      go_wp2_with (at_builtin; refine wpList_append_own _ rfl _ _ 24 rfl w.heap.size 42 i0 (.agg #[.string ⟨#[]⟩, .slice none 0 0, .slice none 0 0, .slice none 0 0, .slice none 0 0, .slice none 0 0]) 6 136 Tryz.underlying24 H1.out H2.out H3.out H4.out rfl (by decide) _ _ _ rfl HS.out.1 ⟨_, 0, none⟩ 1 1 [.string ⟨#[116, 114, 101, 101]⟩, .slice (some ⟨z1.heap.size, 0, none⟩) 2 2, .slice (some ⟨z1.heap.size + 1, 0, none⟩) 1 1, .slice none 0 0, .slice none 0 0, .slice (some ⟨z3.heap.size, 0, none⟩) 1 1] rfl rfl ?c1 ?c2 ?c3 ?c4 ?c5 ?_)
      case c1 => exact cellsY _ [.string ⟨#[116, 114, 101, 101]⟩, .slice (some ⟨z1.heap.size, 0, none⟩) 2 2, .slice (some ⟨z1.heap.size + 1, 0, none⟩) 1 1, .slice none 0 0, .slice none 0 0, .slice (some ⟨z3.heap.size, 0, none⟩) 1 1] _ (by simp)
      case c2 => intro u hu; simp at hu; rcases hu with rfl | rfl | rfl | rfl | rfl | rfl <;> rfl
      case c3 => unfold maxLen; omega
      case c4 => omega
      case c5 => simp; omega
      intro v' w3 hown3 hgrow _
      have HZ := Lib.hid (SB.add H0.out HS.out HTT.out HN.out hl HM.out (show (16 : Nat) ≤ 60 by omega) HBQ.out HRQ.out hown3 hgrow)
      clear hown3 hgrow HS HTT HN HM HBQ HRQ
      go_wp2_with fail
      go_meet
      case rel => exact HZ.out
    case rest =>
     have HS6 := Lib.hid hcut
     clear hcut HS5
     go_wp2_with fail
     refine (rdBelow 40 _ R a len cap zs HS6.out.rdr).mono ?_
     rintro e q1 ⟨v, rfl, ⟨y, rfl, y0, y1⟩, hb2, hr2⟩
     have HS7 := Lib.hid (HS6.out.but hb2 hr2 hlt)
     clear HS6 hb2 hr2
     obtain ⟨xs, hs, hl0, hl, hm, hb, hr⟩ := HS7.out
     have hq : y = 37 ∨ y = 38 ∨ y = 39 ∨ (y ≠ 37 ∧ y ≠ 38 ∧ y ≠ 39) := by omega
     clear HS7
     rcases hq with rfl | rfl | rfl | ⟨n7, n8, n9⟩
     ·obtain ⟨x, xs, rfl⟩ : ∃ x l, xs = x :: l := by cases xs with
       | nil => simp at hl0
       | cons x l => exact ⟨x, l, rfl⟩
      obtain ⟨g, ca, rfl, hg, hcell, hfree, htc, hne, hput⟩ := hs.head
      have hT := hs.2.2 x (List.mem_cons_self ..)
      obtain ⟨w2, d2⟩ : ∃ u, q1.cell? ⟨g, 2, none⟩ = some u := ⟨_, hcell 2 (x.2.1[2]'(by rw [hT.len6]; omega)) (by rw [List.getElem?_eq_getElem])⟩
      have f2 := hfree 2
      have HF := Lib.hid (show isSch w.heap.size 61 (.slice (some ⟨g, 0, none⟩) (xs.length + 1) ca) (q1.setCell ⟨g, 2, none⟩ (.slice none 0 0)) from
       ⟨_, hput 2 _ _ _ (by omega) rfl (hT.set (p := ⟨g, 2, none⟩) htc hne _).noKey, by simp, by simpa using hl, fun z hz => by
        rcases List.mem_cons.1 hz with rfl | hz
        ·have := hm x (List.mem_cons_self ..); have := sz_noKey x.2.2; dsimp only; omega
        ·have := hm z (List.mem_cons_of_mem _ hz); omega⟩)
      have HBF := Lib.hid (hb.setNew (p := ⟨g, 2, none⟩) hg (.slice none 0 0))
      have HRF := Lib.hid (H0.out.setNew hr (p := ⟨g, 2, none⟩) hg (.slice none 0 0))
      clear hs hcell hfree hput hT hm hb hr hl hl0
      go_wp2_with fail
      go_ret
      exact ⟨_, rfl, HF.out, HBF.out, HRF.out⟩
     ·obtain ⟨x, xs, rfl⟩ : ∃ x l, xs = x :: l := by cases xs with
       | nil => simp at hl0
       | cons x l => exact ⟨x, l, rfl⟩
      obtain ⟨g, ca, rfl, hg, hcell, hfree, htc, hne, hput⟩ := hs.head
      have hT := hs.2.2 x (List.mem_cons_self ..)
      obtain ⟨w0, d0⟩ : ∃ u, q1.cell? ⟨g, 0, none⟩ = some u := ⟨_, hcell 0 (x.2.1[0]'(by rw [hT.len6]; omega)) (by rw [List.getElem?_eq_getElem])⟩
      have f0 := hfree 0
      have hx60 := hm x (List.mem_cons_self ..)
      have hsn := sz_named x.2.2 ⟨#[99]⟩
      have hsn1 : (⟨#[99]⟩ : ByteArray).size = 1 := rfl
      have HF := Lib.hid (show isSch w.heap.size 61 (.slice (some ⟨g, 0, none⟩) (xs.length + 1) ca) (q1.setCell ⟨g, 0, none⟩ (.string ⟨#[99]⟩)) from
       ⟨_, hput 0 _ _ _ (by omega) rfl ((hT.set (p := ⟨g, 0, none⟩) htc hne _).named ⟨#[99]⟩ (by omega)), by simp, by simpa using hl, fun z hz => by
        rcases List.mem_cons.1 hz with rfl | hz
        ·dsimp only; omega
        ·have := hm z (List.mem_cons_of_mem _ hz); omega⟩)
      have HBF := Lib.hid (hb.setNew (p := ⟨g, 0, none⟩) hg (.string ⟨#[99]⟩))
      have HRF := Lib.hid (H0.out.setNew hr (p := ⟨g, 0, none⟩) hg (.string ⟨#[99]⟩))
      clear hs hcell hfree hput hT hm hb hr hl hl0 hsn hsn1 hx60
      go_wp2_with fail
      go_ret
      exact ⟨_, rfl, HF.out, HBF.out, HRF.out⟩
     ·obtain ⟨x, xs, rfl⟩ : ∃ x l, xs = x :: l := by cases xs with
       | nil => simp at hl0
       | cons x l => exact ⟨x, l, rfl⟩
      obtain ⟨g, ca, rfl, hg, hcell, hfree, htc, hne, hput⟩ := hs.head
      obtain ⟨c00, cs00, ec0, hgx, ⟨n1, e1, hn1⟩, -⟩ := hs.kind
      have d1 := hcell 1 _ e1
      have hgs : g < q1.heap.size := cell_lt d1
      have hRg : g ≠ R := by omega
      have HSX := Lib.hid hs
      have HRX := Lib.hid hr
      have HBX := Lib.hid hb
      have HM := Lib.hid hm
      have hn1' : (0 : Int) < n1 := by omega
      clear hs hr hb hm hcell hfree hput htc hne ec0
      go_wp2_with fail
      go_region_with (go_at_call 30; refine (rdOff 1 2 (by omega) (by omega) (by omega) _ R a len cap zs (rdr_drewY HRX.out)).mono ?_; rintro e q2 ⟨v, rfl, ⟨z, rfl, z0, z1⟩, hb2', hr2⟩; have hb2 := but_undrewY hb2'; have HS2 := Lib.hid (HSX.out.hold (Hold.but hb2 hlt)); obtain ⟨c0, cs0, ec, -, -, ⟨k0, k1⟩, k2, k3⟩ := HS2.out.kind; have d1' := (hb2.cell (p := ⟨g, 1, none⟩) hgs hRg).trans d1; have HK3 := Lib.hid k3; have HEC := Lib.hid ec; clear k3 ec hb2')
      all_goals
       go_wp2_with fail
       go_ret
       refine ⟨_, rfl, ⟨_, HK3.out z, by simp, by simpa using hl, fun z' hz => ?_⟩, (HBX.out.trans hb2).setNew (p := ⟨x.1, 1, none⟩) hgx _, H0.out.setNew hr2 (p := ⟨x.1, 1, none⟩) hgx _⟩
       rcases List.mem_cons.1 hz with rfl | hz
       ·have := HM.out x (List.mem_cons_self ..); have := sz_kind x.2.2 HEC.out z; dsimp only; omega
       ·have := HM.out z' (List.mem_cons_of_mem _ hz); omega
     ·have m7 : (y == 37) = false := by simpa using n7
      have m8 : (y == 38) = false := by simpa using n8
      have m9 : (y == 39) = false := by simpa using n9
      have HF := Lib.hid (show isSch w.heap.size 61 u4 q1 from ⟨xs, hs, hl0, hl, fun z hz => by have := hm z hz; omega⟩)
      have HBF := Lib.hid hb
      have HRF := Lib.hid hr
      clear hs hl0 hl hm hb hr
      go_wp2_with fail
      go_ret
      exact ⟨_, rfl, HF.out, HBF.out, HRF.out⟩
theorem szL_le {α : Type} (f : α → Nat) (m : Nat) : ∀ l : List α, (∀ x ∈ l, f x ≤ m) → szL f l ≤ l.length + l.length * m
 | [], _ => by simp [szL]
 | x :: l, h => by
  have h1 := szL_le f m l fun y hy => h y (List.mem_cons_of_mem _ hy)
  have h2 := h x (List.mem_cons_self ..)
  unfold szL at h1 ⊢
  rw [List.map_cons, List.sum_cons, List.length_cons, Nat.succ_mul]
  omega
theorem tabs_sl {base : Nat} {w : World} {v : Value} {xs : List (Nat × List Value × Tb)} (hr : w.ownsRow base 42 6 v xs.length (xs.map (·.2.1)).flatten) (ha : ∀ x ∈ xs, TabY base w x.1 x.2.1 x.2.2) : ∃ A c, v = .slice A xs.length c ∧ xs.length ≤ c ∧ c ≤ maxLen ∧ Sl TbR 6 (okF base w) w A xs.length (xs.map (·.2.2)) := by
 rcases hr.2 with ⟨rfl, h0⟩ | ⟨g, cap, cur, rfl, k1, k2, k3, k4, k5, k6⟩
 ·exact ⟨none, 0, by rw [h0], by omega, by simp [maxLen], by rw [List.length_map], fun hn => by omega⟩
 ·refine ⟨_, cap, rfl, k3, k4, by rw [List.length_map], fun hn => ⟨g, 0, rfl, ⟨k1, lt_of_block k2, fun off => by simp [World.frozen?, k2]⟩, fun i hi => ?_⟩⟩
  have hi' : i < xs.length := by simpa using hi
  have ht := ha _ (List.getElem_mem hi')
  refine ⟨xs[i].2.1, ht.len6, by rw [List.getElem_map]; exact ht.reads, fun j u hj => ?_⟩
  have hj6 : j < 6 := by rw [← ht.len6]; exact (List.getElem?_eq_some_iff.1 hj).1
  have key : ∀ (l : List (List Value)) (i : Nat) (hi : i < l.length), (∀ c ∈ l, c.length = 6) → l.flatten[i * 6 + j]? = l[i][j]? := by
   intro l
   induction l with
   | nil => intro i hi; simp at hi
   | cons x l ih =>
    intro i hi ha
    have hx := ha x (List.mem_cons_self ..)
    cases i with
    | zero => rw [List.flatten_cons, Nat.zero_mul, Nat.zero_add, List.getElem?_append_left (by omega)]; rfl
    | succ i =>
     rw [List.flatten_cons, List.getElem?_append_right (by rw [hx, Nat.succ_mul]; omega), hx, show (i + 1) * 6 + j - 6 = i * 6 + j by rw [Nat.succ_mul]; omega]
     exact ih i (by simpa using hi) fun c hc => ha c (List.mem_cons_of_mem _ hc)
  have e := key (xs.map (·.2.1)) i (by simpa using hi') fun c hc => by
   obtain ⟨y, hy, rfl⟩ := List.mem_map.1 hc
   exact (ha y hy).len6
  rw [List.getElem_map, hj, ← k6, List.getElem?_take, if_pos (by have := Nat.mul_le_mul_right 6 (show i + 1 ≤ xs.length from hi'); rw [Nat.succ_mul] at this; omega)] at e
  rw [Nat.zero_add]
  simp only [World.cell?, k2]
  rw [← Array.getElem?_toList]
  simpa using e
theorem SchY.sl {base : Nat} {w : World} {v : Value} {xs : List (Nat × List Value × Tb)} (h : SchY base w v xs) : ∃ A c, v = .slice A xs.length c ∧ xs.length ≤ c ∧ c ≤ maxLen ∧ Sl TbR 6 (okF base w) w A xs.length (xs.map (·.2.2)) := tabs_sl h.1 h.2.2
theorem row_at {xs : Array Value} {k : Nat} {v : Value} (h : xs[k]? = some v) {hk' : k < xs.size} : some xs[k] = some v := by rw [← h, Array.getElem?_eq_getElem hk']
def Blk (w : World) (b : Nat) (k n : Int) (s : ByteArray) : Prop := w.heap[b]? = some (.cells #[.int .i64 k, .int .i64 n, .string s] 66)
theorem Blk.cells {w : World} {b : Nat} {k n : Int} {s : ByteArray} (h : Blk w b k n s) :
  w.cell? ⟨b, 0, none⟩ = some (.int .i64 k) ∧ w.cell? ⟨b, 1, none⟩ = some (.int .i64 n) ∧ w.cell? ⟨b, 2, none⟩ = some (.string s) := by
 unfold Blk at h
 simp [World.cell?, h]
theorem Blk.free {w : World} {b : Nat} {k n : Int} {s : ByteArray} (h : Blk w b k n s) :
  w.frozen? ⟨b, 0, none⟩ = false ∧ w.frozen? ⟨b, 1, none⟩ = false ∧ w.frozen? ⟨b, 2, none⟩ = false := by
 unfold Blk at h
 simp [World.frozen?, h]
theorem Blk.lt {w : World} {b : Nat} {k n : Int} {s : ByteArray} (h : Blk w b k n s) : b < w.heap.size := by
 have := h.cells.1; exact cell_lt this
theorem Blk.but {w w' : World} {R b : Nat} {k n : Int} {s : ByteArray} (h : Blk w b k n s) (hb : But R w w') (hr : b ≠ R) : Blk w' b k n s := (hb.block b h.lt hr).trans h
theorem Blk.new (w : World) (k n : Int) (s : ByteArray) : Blk (w.alloc (.cells #[.int .i64 k, .int .i64 n, .string s] 66)) w.heap.size k n s := by
 show (w.heap.push _)[w.heap.size]? = _
 simp
end Go.Proofs.YteiifabdbkpkiaaGreat
namespace Go.Proofs.YteiifabdbkpkiaaGreat
open Go.RowKit Go.Maps
theorem grown_rowK {w w' : World} {row : Option Nat} (hg : w.grownBy w' row) {g : Nat} {T : TypeId} {cs : Array Value} (h : Row w g T cs) (hne : ∀ k, row = some k → k ≠ g) : Row w' g T cs :=
 (hg.block g (lt_of_block h) (fun e => hne g e.symm rfl)).trans h
end Go.Proofs.YteiifabdbkpkiaaGreat
namespace Go.Proofs.YteiifabdbkpkiaaGreat
open Go.RowKit Go.Maps
theorem But.grown {R : Nat} {w w1 w2 : World} {row : Option Nat} (h : But R w w1) (hg : w1.grownBy w2 row) (hr : ∀ k, row = some k → w.heap.size ≤ k) : But R w w2 :=
 ⟨hg.os.trans h.os, hg.tape.trans h.tape, hg.output.trans h.output, Nat.le_trans h.size hg.size, fun k hk hne => (hg.block k (Nat.lt_of_lt_of_le hk h.size) (fun e => by have := hr k e.symm; omega)).trans (h.block k hk hne)⟩
theorem But.ofBelow {R : Nat} {w w' : World} (h : Below w.heap.size w w') : But R w w' := ⟨h.os, h.tape, h.output, h.size, fun k hk _ => h.block k hk⟩
theorem Rdr.move {w w1 w2 : World} {R : Nat} {a : Option Addr} {len cap : Nat} {zs : List Int} (h0 : Rdr w R a len cap zs) (h : Rdr w1 R a len cap zs) (hb : But R w w2) (hR : w2.heap[R]? = w1.heap[R]?) : Rdr w2 R a len cap zs := by
 obtain ⟨p, hp, hc⟩ := h.place
 have hq : ∀ i, w2.cell? ⟨R, i, none⟩ = w1.cell? ⟨R, i, none⟩ := fun i => World.cell?_of_block (w := w1) hR
 exact ⟨(hq 0).trans h.code, ⟨p, hp, (hq 1).trans hc⟩, (World.frozen?_of_block (w := w1) hR).trans h.free, h0.row.but hb h0.apart, h0.apart⟩
theorem Rdr.grown {w w1 w2 : World} {R : Nat} {a : Option Addr} {len cap : Nat} {zs : List Int} {row : Option Nat} (h0 : Rdr w R a len cap zs) (h : Rdr w1 R a len cap zs) (hb : But R w w1) (hg : w1.grownBy w2 row) (hr : ∀ k, row = some k → w.heap.size ≤ k) : Rdr w2 R a len cap zs := by
 have hlt : R < w.heap.size := cell_lt h0.code
 exact h0.move h (hb.grown hg hr) (hg.block R (Nat.lt_of_lt_of_le hlt hb.size) (fun e => by have := hr R e.symm; omega))
theorem Rdr.below {w w' : World} {R : Nat} {a : Option Addr} {len cap : Nat} {zs : List Int} (h : Rdr w R a len cap zs) (hb : Below w.heap.size w w') : Rdr w' R a len cap zs :=
 h.move h (But.ofBelow hb) (hb.block R (cell_lt h.code))
section
variable {α : Type} {T : TypeId} {sz : Nat} {f : α → List Value}
theorem OwnG.but {R base : Nat} {w w' : World} {v : Value} {xs : List α} (h : OwnG T sz f w base v xs) (hb : But R w w') (hR : R < base) : OwnG T sz f w' base v xs := by
 refine ⟨h.1, ?_⟩
 rcases h.2 with h | ⟨g, cap, cur, rfl, h1, h2, h3⟩
 ·exact .inl h
 ·exact .inr ⟨g, cap, cur, rfl, h1, (hb.block g (lt_of_block h2) (by omega)).trans h2, h3⟩
theorem OwnG.one (w : World) {base : Nat} (hb : base ≤ w.heap.size) (x : α) (hl : (f x).length = sz) : OwnG T sz f (w.alloc (.cells (f x).toArray T)) base (.slice (some ⟨w.heap.size, 0, none⟩) 1 1) [x] :=
 ⟨by simp [hl], .inr ⟨w.heap.size, 1, (f x).toArray, rfl, hb, Go.heap_alloc_last w _, Nat.le_refl _, by simp [maxLen], by simp [hl], by simp [hl, List.take_of_length_le]⟩⟩
theorem OwnG.src {w : World} {base : Nat} {v : Value} {xs : List α} (h : OwnG T sz f w base v xs) (hn : 0 < xs.length) :
  ∃ g cap, v = .slice (some ⟨g, 0, none⟩) xs.length cap ∧ base ≤ g ∧ g < w.heap.size ∧ ∀ j u, ((xs.map f).flatten)[j]? = some u → w.cell? ((⟨g, 0, none⟩ : Addr).add j) = some u := by
 rcases h.2 with ⟨-, h0⟩ | ⟨g, cap, cur, rfl, h1, h2, h3, h4, h5, h6⟩
 ·omega
 ·refine ⟨g, cap, rfl, h1, lt_of_block h2, fun j u hj => ?_⟩
  rw [addr_add, cell_of_row _ _ _ _ _ _ h2, Nat.zero_add]
  rw [← h6, List.getElem?_take] at hj
  split at hj
  ·rw [← Array.getElem?_toList]; exact hj
  ·cases hj
theorem OwnG.appL {w w' : World} {base : Nat} {v v' : Value} {xs ys : List α} (h : OwnG T sz f w base v xs) (h' : w'.ownsRow base T sz v' (xs.length + ys.length) ((xs.map f).flatten ++ (ys.map f).flatten)) : OwnG T sz f w' base v' (xs ++ ys) := by
 unfold OwnG; rw [List.length_append, List.map_append, List.flatten_append]; exact h'
theorem OwnG.mono {w : World} {base base' : Nat} {v : Value} {xs : List α} (h : OwnG T sz f w base v xs) (hb : base' ≤ base) : OwnG T sz f w base' v xs := by
 refine ⟨h.1, ?_⟩
 rcases h.2 with h | ⟨g, cap, cur, rfl, h1, h2⟩
 ·exact .inl h
 ·exact .inr ⟨g, cap, cur, rfl, Nat.le_trans hb h1, h2⟩
end
theorem tk_one : ∀ (ts : List Tk), ∀ u ∈ (ts.map Tk.cells).flatten, u.oneCell' = true := fun ts u hu => by
 obtain ⟨l, hl, hu⟩ := List.mem_flatten.1 hu
 obtain ⟨t, -, rfl⟩ := List.mem_map.1 hl
 simp [Tk.cells] at hu
 rcases hu with rfl | rfl | rfl | rfl | rfl <;> rfl
theorem flat_tk (ts : List Tk) : ((ts.map Tk.cells).flatten).length = ts.length * 5 := by
 rw [flat_len (sz := 5) _ (fun c hc => by obtain ⟨t, -, rfl⟩ := List.mem_map.1 hc; rfl), List.length_map]
def OwnT (w : World) (base : Nat) (v : Value) (ts : List Tk) : Prop := OwnG 73 5 Tk.cells w base v ts
def OwnW (w : World) (base : Nat) (v : Value) (xs : List Vl) : Prop := OwnG 66 3 Vl.cells w base v xs
def isToks (base B : Nat) (v : Value) (w : World) : Prop := ∃ ts : List Tk, OwnT w base v ts ∧ ts.length ≤ B ∧ 1 ≤ ts.length
def eb : Nat → Nat
 | 0 => 1
 | d + 1 => eb d + eb d + 1
theorem eb_le {d : Nat} (h : d ≤ 3) : eb d ≤ 15 := by
 match d, h with
 | 0, _ => decide
 | 1, _ => decide
 | 2, _ => decide
 | 3, _ => decide
theorem eb_pos (d : Nat) : 1 ≤ eb d := by cases d <;> simp [eb]
set_option maxHeartbeats 1000000 in
theorem specL2Col (n : Int) (w : World) :
  Calls Tryz.prog 27 #[.int .i64 n] w fun e w' => e = .returned (.agg #[.int .i64 1, .int .i64 n, .int .i64 0, .int .i64 0, .string ⟨#[]⟩]) ∧ Below w.heap.size w w' := by
 go_enter Tryz.func27, Tryz.ntmps27
 go_wp2
 exact bodyPost_ret (v := .agg #[.int .i64 1, .int .i64 n, .int .i64 0, .int .i64 0, .string ⟨#[]⟩]) (by simp [results, Tryz.results27, go_sem]) rfl
  ⟨rfl, (Below.refl _ _).alloc (Nat.le_refl _) _⟩
set_option maxHeartbeats 1000000 in
theorem specL2Const (k n : Int) (s : ByteArray) (w : World) :
  Calls Tryz.prog 28 #[.agg #[.int .i64 k, .int .i64 n, .string s]] w fun e w' => e = .returned (.agg #[.int .i64 2, .int .i64 0, .int .i64 k, .int .i64 n, .string s]) ∧ Below w.heap.size w w' := by
 go_enter Tryz.func28, Tryz.ntmps28
 go_wp2
 exact bodyPost_ret (v := .agg #[.int .i64 2, .int .i64 0, .int .i64 k, .int .i64 n, .string s]) (by simp [results, Tryz.results28, go_sem]) rfl
  ⟨rfl, ((Below.refl _ _).alloc (Nat.le_refl _) _).alloc (by simp) _⟩
end Go.Proofs.YteiifabdbkpkiaaGreat
namespace Go.Proofs.YteiifabdbkpkiaaGreat
open Go.RowKit Go.Maps
theorem infoTokD : (Tryz.prog.info? 73).map (fun i => (i.zero, i.size, i.bytes)) = some (some (.agg #[.int .i64 0, .int .i64 0, .int .i64 0, .int .i64 0, .string ⟨#[]⟩]), 5, 48) := by kernel_rfl
theorem infoValD : (Tryz.prog.info? 66).map (fun i => (i.zero, i.size, i.bytes)) = some (some (.agg #[.int .i64 0, .int .i64 0, .string ⟨#[]⟩]), 3, 32) := by kernel_rfl
theorem leaf_post {R : Nat} {w w3 w4 : World} {a : Option Addr} {len cap : Nat} {zs : List Int} (h : Rdr w R a len cap zs) (hb : But R w w3) (hr : Rdr w3 R a len cap zs) (hb4 : Below w3.heap.size w3 w4) (t : Tk) {B : Nat} (hB : 1 ≤ B) :
  Drew R a len cap zs (isToks w.heap.size B) w (.returned (.slice (some ⟨w4.heap.size, 0, none⟩) 1 1)) (w4.alloc (.cells (Tk.cells t).toArray 73)) :=
 ⟨_, rfl, ⟨[t], OwnG.one w4 (Nat.le_trans hb.size hb4.size) t rfl, hB, by simp⟩, (hb.trans (But.ofBelow hb4)).alloc _, (hr.below hb4).alloc _⟩
set_option maxRecDepth 100000 in
set_option maxHeartbeats 4000000 in
theorem rdExpr (c : Int) (hc0 : 0 ≤ c) (hc1 : c ≤ 1000) : ∀ (d : Nat), d ≤ 3 → ∀ (x : Int), x = d → ∀ (w : World) (R : Nat) (a : Option Addr) (len cap : Nat) (zs : List Int), Rdr w R a len cap zs →
  Calls Tryz.prog 48 #[.pointer (some ⟨R, 0, none⟩), .int .i64 c, .int .i64 x] w (Drew R a len cap zs (isToks w.heap.size (eb d)) w) := by
 intro d
 induction d with
 | zero =>
  intro hd x hx w R a len cap zs h
  obtain rfl : x = 0 := by simpa using hx
  have hbr := But.refl R w
  clear hx
  go_enter Tryz.func48, Tryz.ntmps48
  by_cases hcp : 0 < c
  case neg =>
   have zc : decide (0 < c) = false := decide_eq_false hcp
   go_wp2_with fail
   refine (rdVal _ R a len cap zs h).mono ?_
   rintro e w8 ⟨v, rfl, ⟨vk, vn, vs, rfl, hv⟩, hb8, hr8⟩
   clear hv
   go_wp2_with fail
   refine (specL2Const vk vn vs _).mono ?_
   rintro e w9 ⟨rfl, hb9⟩
   go_wp2_with fail
   go_ret
   exact leaf_post h (hbr.trans hb8) hr8 hb9 ⟨2, 0, vk, vn, vs⟩ (eb_pos _)
  have zc : decide (0 < c) = true := decide_eq_true hcp
  go_wp2_with fail
  refine (rdOnce 3 _ R a len cap zs h).mono ?_
  rintro e w6 ⟨v, rfl, ⟨b6, rfl⟩, hb6, hr6⟩
  cases b6
  case true =>
   go_wp2_with fail
   refine (rdVal _ R a len cap zs hr6).mono ?_
   rintro e w8 ⟨v, rfl, ⟨vk, vn, vs, rfl, hv⟩, hb8, hr8⟩
   clear hv
   go_wp2_with fail
   refine (specL2Const vk vn vs _).mono ?_
   rintro e w9 ⟨rfl, hb9⟩
   go_wp2_with fail
   go_ret
   exact leaf_post h ((hbr.trans hb6).trans hb8) hr8 hb9 ⟨2, 0, vk, vn, vs⟩ (eb_pos _)
  go_wp2_with fail
  refine (rdBelow c _ R a len cap zs hr6).mono ?_
  rintro e w7 ⟨v, rfl, ⟨y7, rfl, z70, z71⟩, hb7, hr7⟩
  go_wp2_with fail
  refine (specL2Col y7 _).mono ?_
  rintro e w8 ⟨rfl, hb8⟩
  go_wp2_with fail
  go_ret
  exact leaf_post h ((hbr.trans hb6).trans hb7) hr7 hb8 ⟨1, y7, 0, 0, ⟨#[]⟩⟩ (eb_pos _)
 | succ d ih =>
  intro hd x hx w R a len cap zs h
  have IH := Lib.hid (ih (by omega))
  have x1 : 1 ≤ x := by omega
  have x3 : x ≤ 3 := by omega
  have zx : (x == 0) = false := by rw [beq_eq_false_iff_ne]; omega
  have HX := Lib.hid (show x - 1 = (d : Int) by omega)
  have hR : R < w.heap.size := cell_lt h.code
  obtain ⟨i0, hi', hz0, hz1, hz2⟩ := info_parts infoTokD
  have H1 := Lib.hid hi'
  have H2 := Lib.hid hz0
  have H3 := Lib.hid hz1
  have H4 := Lib.hid hz2
  clear hi' hz0 hz1 hz2 ih hx
  go_enter Tryz.func48, Tryz.ntmps48
  go_wp2_with fail
  refine (rdOnce 4 _ R a len cap zs h).mono ?_
  rintro e w1 ⟨v, rfl, ⟨b1, rfl⟩, hb1, hr1⟩
  cases b1
  case true =>
   by_cases hcp : 0 < c
   case neg =>
    have zc : decide (0 < c) = false := decide_eq_false hcp
    go_wp2_with fail
    refine (rdVal _ R a len cap zs hr1).mono ?_
    rintro e w8 ⟨v, rfl, ⟨vk, vn, vs, rfl, hv⟩, hb8, hr8⟩
    clear hv
    go_wp2_with fail
    refine (specL2Const vk vn vs _).mono ?_
    rintro e w9 ⟨rfl, hb9⟩
    go_wp2_with fail
    go_ret
    exact leaf_post h (hb1.trans hb8) hr8 hb9 ⟨2, 0, vk, vn, vs⟩ (eb_pos _)
   have zc : decide (0 < c) = true := decide_eq_true hcp
   go_wp2_with fail
   refine (rdOnce 3 _ R a len cap zs hr1).mono ?_
   rintro e w6 ⟨v, rfl, ⟨b6, rfl⟩, hb6, hr6⟩
   cases b6
   case true =>
    go_wp2_with fail
    refine (rdVal _ R a len cap zs hr6).mono ?_
    rintro e w8 ⟨v, rfl, ⟨vk, vn, vs, rfl, hv⟩, hb8, hr8⟩
    clear hv
    go_wp2_with fail
    refine (specL2Const vk vn vs _).mono ?_
    rintro e w9 ⟨rfl, hb9⟩
    go_wp2_with fail
    go_ret
    exact leaf_post h ((hb1.trans hb6).trans hb8) hr8 hb9 ⟨2, 0, vk, vn, vs⟩ (eb_pos _)
   go_wp2_with fail
   refine (rdBelow c _ R a len cap zs hr6).mono ?_
   rintro e w7 ⟨v, rfl, ⟨y7, rfl, z70, z71⟩, hb7, hr7⟩
   go_wp2_with fail
   refine (specL2Col y7 _).mono ?_
   rintro e w8 ⟨rfl, hb8⟩
   go_wp2_with fail
   go_ret
   exact leaf_post h ((hb1.trans hb6).trans hb7) hr7 hb8 ⟨1, y7, 0, 0, ⟨#[]⟩⟩ (eb_pos _)
  go_wp2_with fail
  refine (rdBelow 8 _ R a len cap zs hr1).mono ?_
  rintro e w2 ⟨v, rfl, ⟨y, rfl, y0, y1⟩, hb2, hr2⟩
  have y8 : y < 8 := by omega
  have hb02 := hb1.trans hb2
  have HS2 := Lib.hid hb02.size
  clear y1 hb1 hb2
  go_wp2_with fail
  refine (IH.out (x - 1) HX.out _ R a len cap zs hr2).mono ?_
  rintro e w3 ⟨v3, rfl, ⟨ts, hown, hl, hp⟩, hb3, hr3⟩
  have hb03 := hb02.trans hb3
  have HOW := Lib.hid hown
  have HL3 := Lib.hid (show ts.length ≤ eb d + eb d by omega)
  have HSZ := Lib.hid (show w2.heap.size ≤ w3.heap.size from hb3.size)
  clear hown
  by_cases y4 : y = 4
  case pos =>
   subst y4
   go_wp2_with (at_builtin; refine wpList_append_own _ rfl _ _ 33 rfl w2.heap.size 73 i0 (.agg #[.int .i64 0, .int .i64 0, .int .i64 0, .int .i64 0, .string ⟨#[]⟩]) 5 48 Tryz.underlying33 H1.out H2.out H3.out H4.out rfl (by decide) _ _ _ rfl (World.ownsRow.alloc HOW.out _) ⟨_, 0, none⟩ 1 1 (Tk.cells ⟨7, 0, 0, 0, ⟨#[]⟩⟩) rfl rfl ?c11 ?c21 ?c31 ?c41 ?c51 ?_)
   case c11 => exact cells_newAt _ (Tk.cells _) _ (by simp)
   case c21 => intro u hu; simp [Tk.cells] at hu; rcases hu with rfl | rfl | rfl | rfl | rfl <;> rfl
   case c31 => have h1 := eb_le (d := d) (by omega); have h2 := HL3.out; unfold maxLen; omega
   case c41 => have h1 := eb_le (d := d) (by omega); have h2 := HL3.out; omega
   case c51 => have h1 := HSZ.out; simp; omega
   intro v9 w9 hown9 hgrow9 _
   have hq : ∀ k, Value.ownBlock _ = some k → w.heap.size ≤ k := fun k hk => Nat.le_trans HS2.out (OwnG.block_lt HOW.out k hk).1
   have R9 := OwnG.app HOW.out HSZ.out hown9 hgrow9
   have hb9 := (hb03.alloc _).grown hgrow9 hq
   have hr9 := h.grown (hr3.alloc _) (hb03.alloc _) hgrow9 hq
   have HR9 := Lib.hid (And.intro R9.1 (And.intro hb9 hr9))
   clear hown9 hgrow9 hq R9 hb9 hr9
   go_wp2_with fail
   go_ret
   exact ⟨_, rfl, ⟨_, HR9.out.1.mono HS2.out, by have h2 := HL3.out; simp [eb]; omega, by simp⟩, HR9.out.2.1, HR9.out.2.2⟩
  by_cases y5 : y = 5
  case pos =>
   subst y5
   go_wp2_with (at_builtin; refine wpList_append_own _ rfl _ _ 33 rfl w2.heap.size 73 i0 (.agg #[.int .i64 0, .int .i64 0, .int .i64 0, .int .i64 0, .string ⟨#[]⟩]) 5 48 Tryz.underlying33 H1.out H2.out H3.out H4.out rfl (by decide) _ _ _ rfl (World.ownsRow.alloc HOW.out _) ⟨_, 0, none⟩ 1 1 (Tk.cells ⟨8, 0, 0, 0, ⟨#[]⟩⟩) rfl rfl ?c12 ?c22 ?c32 ?c42 ?c52 ?_)
   case c12 => exact cells_newAt _ (Tk.cells _) _ (by simp)
   case c22 => intro u hu; simp [Tk.cells] at hu; rcases hu with rfl | rfl | rfl | rfl | rfl <;> rfl
   case c32 => have h1 := eb_le (d := d) (by omega); have h2 := HL3.out; unfold maxLen; omega
   case c42 => have h1 := eb_le (d := d) (by omega); have h2 := HL3.out; omega
   case c52 => have h1 := HSZ.out; simp; omega
   intro v9 w9 hown9 hgrow9 _
   have hq : ∀ k, Value.ownBlock _ = some k → w.heap.size ≤ k := fun k hk => Nat.le_trans HS2.out (OwnG.block_lt HOW.out k hk).1
   have R9 := OwnG.app HOW.out HSZ.out hown9 hgrow9
   have hb9 := (hb03.alloc _).grown hgrow9 hq
   have hr9 := h.grown (hr3.alloc _) (hb03.alloc _) hgrow9 hq
   have HR9 := Lib.hid (And.intro R9.1 (And.intro hb9 hr9))
   clear hown9 hgrow9 hq R9 hb9 hr9
   go_wp2_with fail
   go_ret
   exact ⟨_, rfl, ⟨_, HR9.out.1.mono HS2.out, by have h2 := HL3.out; simp [eb]; omega, by simp⟩, HR9.out.2.1, HR9.out.2.2⟩
  have k7 : (3 + y != 7) = true := by rw [bne_iff_ne]; omega
  have k8 : (3 + y != 8) = true := by rw [bne_iff_ne]; omega
  go_wp2_with fail
  refine (IH.out (x - 1) HX.out _ R a len cap zs hr3).mono ?_
  rintro e w4 ⟨v4, rfl, ⟨us, hown4, hl4, hp4⟩, hb4, hr4⟩
  obtain ⟨g4, cap4, rfl, hg4, hg4', hsrc⟩ := OwnG.src hown4 (by omega)
  have HSRC := Lib.hid hsrc
  have HOZ := Lib.hid (OwnG.but HOW.out hb4 (Nat.lt_of_lt_of_le hR HS2.out))
  have hb04 := hb03.trans hb4
  have HSY := Lib.hid (Nat.le_trans HSZ.out hb4.size)
  clear hsrc hown4 HOW
  go_wp2_with (at_builtin; refine wpList_append_own _ rfl _ _ 33 rfl w2.heap.size 73 i0 (.agg #[.int .i64 0, .int .i64 0, .int .i64 0, .int .i64 0, .string ⟨#[]⟩]) 5 48 Tryz.underlying33 H1.out H2.out H3.out H4.out rfl (by decide) _ _ _ rfl HOZ.out ⟨g4, 0, none⟩ us.length cap4 ((us.map Tk.cells).flatten) rfl (flat_tk us) HSRC.out (tk_one us) ?e3 ?e4 HSY.out ?_)
  case e3 => have h1 := eb_le (d := d) (by omega); unfold maxLen; omega
  case e4 => have h1 := eb_le (d := d) (by omega); omega
  intro v5 w5 hown5 hgrow5 _
  have hq5 : ∀ k, Value.ownBlock _ = some k → w.heap.size ≤ k := fun k hk => Nat.le_trans HS2.out (OwnG.block_lt HOZ.out k hk).1
  have HO5 := Lib.hid (OwnG.appL HOZ.out hown5)
  have hb5 := hb04.grown hgrow5 hq5
  have hr5 := h.grown hr4 hb04 hgrow5 hq5
  have HSX := Lib.hid (Nat.le_trans HSY.out hgrow5.size)
  have HL5 := Lib.hid (show (ts ++ us).length ≤ eb d + eb d by rw [List.length_append]; omega)
  clear hown5 hgrow5 hq5 HSZ
  have HSZ := HSX
  generalize ts ++ us = ls at *
  go_wp2_with (at_builtin; refine wpList_append_own _ rfl _ _ 33 rfl w2.heap.size 73 i0 (.agg #[.int .i64 0, .int .i64 0, .int .i64 0, .int .i64 0, .string ⟨#[]⟩]) 5 48 Tryz.underlying33 H1.out H2.out H3.out H4.out rfl (by decide) _ _ _ rfl (World.ownsRow.alloc HO5.out _) ⟨_, 0, none⟩ 1 1 (Tk.cells ⟨3 + y, 0, 0, 0, ⟨#[]⟩⟩) rfl rfl ?c13 ?c23 ?c33 ?c43 ?c53 ?_)
  case c13 => exact cells_newAt _ (Tk.cells _) _ (by simp)
  case c23 => intro u hu; simp [Tk.cells] at hu; rcases hu with rfl | rfl | rfl | rfl | rfl <;> rfl
  case c33 => have h1 := eb_le (d := d) (by omega); have h2 := HL5.out; unfold maxLen; omega
  case c43 => have h1 := eb_le (d := d) (by omega); have h2 := HL5.out; omega
  case c53 => have h1 := HSZ.out; simp; omega
  intro v9 w9 hown9 hgrow9 _
  have hq : ∀ k, Value.ownBlock _ = some k → w.heap.size ≤ k := fun k hk => Nat.le_trans HS2.out (OwnG.block_lt HO5.out k hk).1
  have R9 := OwnG.app HO5.out HSZ.out hown9 hgrow9
  have hb9 := (hb5.alloc _).grown hgrow9 hq
  have hr9 := h.grown (hr5.alloc _) (hb5.alloc _) hgrow9 hq
  have HR9 := Lib.hid (And.intro R9.1 (And.intro hb9 hr9))
  clear hown9 hgrow9 hq R9 hb9 hr9
  go_wp2_with fail
  go_ret
  exact ⟨_, rfl, ⟨_, HR9.out.1.mono HS2.out, by have h2 := HL5.out; simp [eb]; omega, by simp⟩, HR9.out.2.1, HR9.out.2.2⟩
end Go.Proofs.YteiifabdbkpkiaaGreat
