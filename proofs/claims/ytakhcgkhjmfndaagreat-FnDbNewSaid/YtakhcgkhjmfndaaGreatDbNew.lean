/-
  New databases: in the program and in the model; and how they are marked.
-/
import Derived.Test.YtakhcgkhjmfndaaGreatSchemaImpl2
import Derived.Test.YtakhcgkhjmfndaaGreatSpecSchema
import Derived.Test.YtakhcgkhjmfndaaGreatMarkX
namespace Go.Proofs.YtakhcgkhjmfndaaGreat
open Go.RowKit Go.Maps
set_option linter.unusedVariables false
set_option linter.unusedSimpArgs false

/-- Data without rows, as they are laid. -/
def EmR : Rd Unit := FlatR fun _ => [.slice none 0 0]
theorem EmR.stays : Stays EmR := FlatR.stays _
/-- n of them. -/
def ems (b : Bool) (n : Nat) : List Unit := if b then List.replicate n () else []
theorem ems_len (b : Bool) (n : Nat) : (ems b n).length ≤ n := by unfold ems; split <;> simp
def dts (l : List Unit) : List Dt := l.map fun _ => ⟨[]⟩
theorem dts_sz (l : List Unit) : szL Dt.sz (dts l) = l.length := by
  unfold dts szL
  rw [List.map_map]
  have e : (Dt.sz ∘ fun _ : Unit => (⟨[]⟩ : Dt)) = fun _ => 0 := by funext x; simp [Dt.sz, szL]
  rw [e, List.length_map]
  have : (l.map fun _ => 0).sum = 0 := by
    induction l with
    | nil => rfl
    | cons x l ih => rw [List.map_cons, List.sum_cons, ih]
  omega
theorem Em.toDt {ok : Nat → Prop} {w : World} {A : Option Addr} {n : Nat} {l : List Unit} (h : Sl EmR 1 ok w A n l) : Sl DtR 1 ok w A n (dts l) := by
  refine ⟨by simpa [dts] using h.1, fun hn => ?_⟩
  obtain ⟨b, off, e, hb, hi⟩ := h.2 hn
  refine ⟨b, off, e, hb, fun i hlt => ?_⟩
  obtain ⟨cs, h1, h2, h3⟩ := hi i (by simpa [dts] using hlt)
  have e2 : cs = _ := h2
  subst e2
  refine ⟨_, h1, ⟨none, 0, 0, rfl, ?_, Nat.le_refl _⟩, h3⟩
  simp only [dts, List.getElem_map]
  exact ⟨rfl, fun h => by omega⟩
theorem Em.kept {ok : Nat → Prop} {w w' : World} {A : Option Addr} {n : Nat} {l : List Unit} {B E : Nat} (h : Sl EmR 1 ok w A n l) (hk : Kept B E w w') : Sl EmR 1 ok w' A n l := by
  refine ⟨h.1, fun hn => ?_⟩
  obtain ⟨b, off, e, hb, hi⟩ := h.2 hn
  refine ⟨b, off, e, hb, fun i hlt => ?_⟩
  obtain ⟨cs, h1, h2, h3⟩ := hi i hlt
  have e2 : cs = _ := h2
  subst e2
  refine ⟨_, h1, rfl, fun j v hv => ?_⟩
  have hj : j = 0 := by have := (List.getElem?_eq_some_iff.1 hv).1; simpa using this
  subst hj
  obtain rfl := Option.some.inj hv
  exact hk.slice (h3 0 _ rfl) rfl
theorem Em.cnt (l : List Unit) : ((dts l).map Dt.cnt).sum = 0 := by
  unfold dts
  rw [List.map_map]
  induction l with
  | nil => rfl
  | cons x l ih => rw [List.map_cons, List.sum_cons, ih]; rfl
theorem Em.at_ {ok : Nat → Prop} {w : World} {A : Option Addr} {n : Nat} {l : List Unit} (h : Sl EmR 1 ok w A n l) {i : Nat} (hi : i < l.length) : ∃ b off, A = some ⟨b, off, none⟩ ∧ w.cell? ⟨b, off + i, none⟩ = some (.slice none 0 0) := by
  have hl := h.1
  obtain ⟨b, off, rfl, hb, hc⟩ := h.2 (by omega)
  obtain ⟨cs, -, hR, g⟩ := hc i hi
  have e : cs = _ := hR
  subst e
  exact ⟨b, off, rfl, by have := g 0 _ rfl; rwa [Nat.mul_one] at this⟩
theorem em_made (w : World) (n : Nat) (T : TypeId) : Sl EmR 1 (okF w.heap.size (w.alloc (.cells (madeCells #[.slice none 0 0] n) T))) (w.alloc (.cells (madeCells #[.slice none 0 0] n) T)) (some ⟨w.heap.size, 0, none⟩) n (List.replicate n ()) := by
  have row := Row.new w T (madeCells #[.slice none 0 0] n)
  refine ⟨by simp, fun hn => ⟨w.heap.size, 0, rfl, ⟨Nat.le_refl _, by simp, fun off => row.free off⟩, fun i hi => ⟨_, rfl, rfl, fun j v hv => ?_⟩⟩⟩
  have hj : j = 0 := by have := (List.getElem?_eq_some_iff.1 hv).1; simpa using this
  subst hj
  obtain rfl := Option.some.inj hv
  have hi' : i < n := by simpa using hi
  rw [row.cell]
  simp [madeCells, hi', Nat.mod_one]

/-- A list of the call's own, and a flag. -/
def MadeT {α : Type} (R : Rd α) (sz : Nat) (xs : List α) (b : Bool) (w : World) (e : Ending) (w' : World) : Prop := ∃ A c, e = .returned (.tuple #[.slice A xs.length c, .bool b]) ∧ xs.length ≤ c ∧ Sl R sz (okF w.heap.size w') w' A xs.length xs ∧ Below w.heap.size w w'

theorem infoDataT' : (Tryz.prog.info? 37).map (fun i => (i.zero, i.size, i.bytes)) = some (some (.agg #[.slice none 0 0]), 1, 24) := by kernel_rfl

set_option maxRecDepth 100000 in
set_option maxHeartbeats 1000000 in
theorem implDbNew (A : Option Addr) (n c : Nat) (s : List Tb) (ok : Nat → Prop) (w : World) (h : Sl TbR 6 ok w A n s) (hs : szL Tb.sz s ≤ 1048576) :
    Calls Tryz.prog 6 #[.slice A n c] w (MadeT EmR 1 (ems (schemaB s) s.length) (schemaB s) w) := by
  obtain rfl : s.length = n := h.1
  have hn : s.length ≤ 1048576 := by unfold szL at hs; omega
  have HS := Lib.hid hs
  clear hs
  cases hB : schemaB s
  · have HB := Lib.hid hB
    clear hB
    go_enter Tryz.func6, Tryz.ntmps6
    go_wp2_with fail
    refine (implSchemaOk A s.length c s ok _ h HS.out).mono ?_
    rintro e w1 ⟨rfl, hb1⟩
    rw [HB.out]
    go_wp2_with fail
    go_ret2
    exact ⟨none, 0, rfl, Nat.le_refl _, ⟨rfl, fun h => by simp [ems] at h⟩, hb1⟩
  have HB := Lib.hid hB
  clear hB
  have hmk := fun w => mk_rows (P := Tryz.prog) Tryz.underlying26 infoDataT' (by omega) s.length hn w
  simp only [Nat.mul_one] at hmk
  go_enter Tryz.func6, Tryz.ntmps6
  go_wp2_with fail
  refine (implSchemaOk A s.length c s ok _ h HS.out).mono ?_
  rintro e w1 ⟨rfl, hb1⟩
  rw [HB.out]
  have hem := em_made w1 s.length 37
  have hbz := hb1.alloc hb1.size (.cells (madeCells #[.slice none 0 0] s.length) 37)
  have HEM := Lib.hid (hem.stays EmR.stays (ok' := okF w.heap.size _) (fun b hb => hb.mono hb1.size) (fun _ _ _ h => h))
  clear hem
  go_wp2_with fail
  go_ret2
  exact ⟨some ⟨w1.heap.size, 0, none⟩, s.length, by simp [ems], by simp [ems], by simpa [ems] using HEM.out, hbz⟩

set_option maxRecDepth 100000 in
set_option maxHeartbeats 1000000 in
theorem specDbNew (A : Option Addr) (n c : Nat) (s : List Tb) (ok : Nat → Prop) (w : World) (h : Sl TbR 6 ok w A n s) (hcp : n ≤ c) (hs : szL Tb.sz s ≤ 1048576) :
    Calls Tryz.prog 7 #[.slice A n c] w (MadeT EmR 1 (ems (schemaB s) s.length) (schemaB s) w) := by
  obtain rfl : s.length = n := h.1
  have hn : s.length ≤ 1048576 := by unfold szL at hs; omega
  have HS := Lib.hid hs
  have HCP := Lib.hid hcp
  clear hs hcp
  cases hB : schemaB s
  · have HB := Lib.hid hB
    clear hB
    go_enter Tryz.func7, Tryz.ntmps7
    go_wp2_with fail
    refine (specSchemaOk A s.length c s ok _ h HCP.out HS.out).mono ?_
    rintro e w1 ⟨rfl, hb1⟩
    rw [HB.out]
    go_wp2_with fail
    go_ret2
    exact ⟨none, 0, rfl, Nat.le_refl _, ⟨rfl, fun h => by simp [ems] at h⟩, hb1⟩
  have HB := Lib.hid hB
  clear hB
  have hmk := fun w => mk_rows (P := Tryz.prog) Tryz.underlying26 infoDataT' (by omega) s.length hn w
  simp only [Nat.mul_one] at hmk
  go_enter Tryz.func7, Tryz.ntmps7
  go_wp2_with fail
  refine (specSchemaOk A s.length c s ok _ h HCP.out HS.out).mono ?_
  rintro e w1 ⟨rfl, hb1⟩
  rw [HB.out]
  have hem := em_made w1 s.length 37
  have hbz := hb1.alloc hb1.size (.cells (madeCells #[.slice none 0 0] s.length) 37)
  have HEM := Lib.hid (hem.stays EmR.stays (ok' := okF w.heap.size _) (fun b hb => hb.mono hb1.size) (fun _ _ _ h => h))
  clear hem
  go_wp2_with fail
  go_ret2
  exact ⟨some ⟨w1.heap.size, 0, none⟩, s.length, by simp [ems], by simp [ems], by simpa [ems] using HEM.out, hbz⟩

end Go.Proofs.YtakhcgkhjmfndaaGreat
