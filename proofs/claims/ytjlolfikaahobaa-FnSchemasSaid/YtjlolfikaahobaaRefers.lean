/-
  Who refers to a table: in the program and in the model.
-/
import Derived.Test.YtjlolfikaahobaaOwnInts
import Derived.Test.YtjlolfikaahobaaSchemaImpl2
namespace Go.Proofs.Ytjlolfikaahobaa
open Go.RowKit Go.Maps
set_option linter.unusedVariables false
set_option linter.unusedSimpArgs false

def refB (nm : ByteArray) (t : Tb) : Bool := t.fks.any fun f => f.table.toList == nm.toList
/-- The places below k of the tables that refer to nm. -/
def refsK (nm : ByteArray) (s : List Tb) : Nat → List Int
  | 0 => []
  | k + 1 => refsK nm s k ++ (match s[k]? with | some t => if refB nm t then [(k : Int)] else [] | none => [])
theorem refsK_yes {nm : ByteArray} {s : List Tb} {k : Nat} (h : k < s.length) (hr : refB nm s[k] = true) : refsK nm s (k + 1) = refsK nm s k ++ [(k : Int)] := by
  rw [refsK, List.getElem?_eq_getElem h]; simp [hr]
theorem refsK_no {nm : ByteArray} {s : List Tb} {k : Nat} (h : k < s.length) (hr : refB nm s[k] = false) : refsK nm s (k + 1) = refsK nm s k := by
  rw [refsK, List.getElem?_eq_getElem h]; simp [hr]
theorem refsK_len (nm : ByteArray) (s : List Tb) : ∀ k, (refsK nm s k).length ≤ k
  | 0 => Nat.le_refl _
  | k + 1 => by
    have := refsK_len nm s k
    rw [refsK]
    split
    · split <;> simp <;> omega
    · simp; omega
theorem refsK_lt (nm : ByteArray) (s : List Tb) : ∀ k, ∀ x ∈ refsK nm s k, x < k
  | 0, x, h => by cases h
  | k + 1, x, h => by
    rw [refsK, List.mem_append] at h
    rcases h with h | h
    · have := refsK_lt nm s k x h; omega
    · split at h
      · split at h
        · simp at h; omega
        · cases h
      · cases h
def refsB (nm : ByteArray) (s : List Tb) : List Int := if schemaB s then refsK nm s s.length else []

theorem refsB_len (nm : ByteArray) (s : List Tb) : (refsB nm s).length ≤ s.length := by
  unfold refsB
  split
  · exact refsK_len nm s s.length
  · simp
theorem any_take_fk (l : List Fk) (nm : ByteArray) (k : Nat) (h : k < l.length) : ((l.take (k + 1)).any fun f => f.table.toList == nm.toList) = ((l.take k).any (fun f => f.table.toList == nm.toList) || (l[k].table.toList == nm.toList)) := by
  rw [List.take_succ_eq_append_getElem h, List.any_append]; simp

set_option maxRecDepth 100000 in
set_option maxHeartbeats 1000000 in
theorem implRefersTo (x : Tb) (A1 : Option Addr) (n1 c1 : Nat) (A2 : Option Addr) (n2 c2 : Nat) (A3 : Option Addr) (n3 c3 : Nat) (A4 : Option Addr) (n4 c4 : Nat) (A5 : Option Addr) (n5 c5 : Nat) (nm : ByteArray) (ok : Nat → Prop) (w : World) (h5 : Sl FkR 5 ok w A5 n5 x.fks) (hn : n5 ≤ 1048576) :
    Calls Try.prog 47 #[.agg #[.string x.name, .slice A1 n1 c1, .slice A2 n2 c2, .slice A3 n3 c3, .slice A4 n4 c4, .slice A5 n5 c5], .string nm] w fun e w' => e = .returned (.bool (refB nm x)) ∧ Below w.heap.size w w' := by
  obtain rfl : x.fks.length = n5 := h5.1
  have rb := Row.new w 34 #[.string x.name, .slice A1 n1 c1, .slice A2 n2 c2, .slice A3 n3 c3, .slice A4 n4 c4, .slice A5 x.fks.length c5]
  have hb0 := (Below.refl w.heap.size w).alloc (Nat.le_refl _) (.cells #[.string x.name, .slice A1 n1 c1, .slice A2 n2 c2, .slice A3 n3 c3, .slice A4 n4 c4, .slice A5 x.fks.length c5] 34)
  go_enter Try.func47, Try.ntmps47
  obtain ⟨⟨k0, k1, k2, k3, k4, k5⟩, -⟩ := rb.all6
  go_wp2_with fail
  generalize w.alloc (.cells #[.string x.name, .slice A1 n1 c1, .slice A2 n2 c2, .slice A3 n3 c3, .slice A4 n4 c4, .slice A5 x.fks.length c5] 34) = z0 at *
  go_loopw [10] (fun i wr => ∃ k : Nat, k ≤ x.fks.length ∧ i = .int .i64 k ∧ Hid (((x.fks.take k).any fun f => f.table.toList == nm.toList) = false) ∧ Below w.heap.size w wr) (fun i _ => x.fks.length - (intOf i).toNat)
  case atStart => exact ⟨0, by omega, rfl, Lib.hid (by simp), hb0⟩
  case round =>
    obtain ⟨k, hk, rfl, hno, hb⟩ := hrel
    by_cases hlt : k < x.fks.length
    · obtain ⟨b, off, A0, m0, d0, -, rfl, q0, q1, q2, q3, q4, -⟩ := FkR.at_ (h5.below FkR.stays hb) hlt
      have hs := any_take_fk x.fks nm k hlt
      rw [hno.out, Bool.false_or] at hs
      have hbx := hb.alloc hb.size (.cells #[.slice A0 m0 d0, .string x.fks[k].table, .int .i64 x.fks[k].del, .int .i64 x.fks[k].upd, .bool x.fks[k].dfr] 49)
      have i0 : (0 : Int) ≤ k := by omega
      have i1 : (k : Int) < x.fks.length := by omega
      have hany : x.fks.any (fun f => f.table.toList == nm.toList) = ((x.fks.take (k + 1)).any (fun f => f.table.toList == nm.toList) || (x.fks.drop (k + 1)).any (fun f => f.table.toList == nm.toList)) := by rw [← List.any_append, List.take_append_drop]
      cases he : (x.fks[k].table.toList == nm.toList)
      · have HA := Lib.hid (hs.trans he)
        clear hs hno hany
        go_wp2_with fail
        go_roundw
        case rel => exact ⟨k + 1, by omega, by go_num, HA, hbx⟩
        case measure => simp [intOf]; omega
      · have HA := Lib.hid (show refB nm x = true by unfold refB; rw [hany, hs, he]; rfl)
        clear hs hno hany
        go_wp2_with fail
        go_ret
        exact ⟨retB HA.out.symm, hbx⟩
    · have e : x.fks.take k = x.fks := List.take_of_length_le (by omega)
      have h1 := hno.out
      rw [e] at h1
      have HA := Lib.hid (show refB nm x = false by unfold refB; exact h1)
      clear e h1 hno
      go_wp2_with fail
      go_ret
      exact ⟨retB HA.out.symm, hb⟩

/-- A list of numbers of the call's own. -/
def MadeI (xs : List Int) (w : World) (e : Ending) (w' : World) : Prop := ∃ A c, e = .returned (.slice A xs.length c) ∧ xs.length ≤ c ∧ Sl IntR 1 (okF w.heap.size w') w' A xs.length xs ∧ Below w.heap.size w w'

set_option maxRecDepth 100000 in
set_option maxHeartbeats 1000000 in
theorem implRefers (A : Option Addr) (n c : Nat) (s : List Tb) (nm : ByteArray) (ok : Nat → Prop) (w : World) (h : Sl TbR 6 ok w A n s) (hs : szL Tb.sz s ≤ 1048576) :
    Calls Try.prog 20 #[.slice A n c, .string nm] w (MadeI (refsB nm s) w) := by
  obtain rfl : s.length = n := h.1
  have hn : s.length ≤ 1048576 := by unfold szL at hs; omega
  have HS := Lib.hid hs
  clear hs
  obtain ⟨i0, hi, hz0, hz1, hz2⟩ := info_parts infoIntI
  cases hB : schemaB s
  · have HB := Lib.hid hB
    have HR := Lib.hid (show refsB nm s = [] by unfold refsB; rw [hB]; rfl)
    clear hB hi hz0 hz1 hz2
    go_enter Try.func20, Try.ntmps20
    go_wp2_with fail
    refine (implSchemaOk A s.length c s ok _ h HS.out).mono ?_
    rintro e w1 ⟨rfl, hb1⟩
    rw [HB.out]
    go_wp2_with fail
    go_ret
    exact ⟨none, 0, by rw [HR.out]; rfl, by rw [HR.out]; exact Nat.le_refl _, by rw [HR.out]; exact ⟨rfl, fun h => by simp at h⟩, hb1⟩
  have HB := Lib.hid hB
  have HR := Lib.hid (show refsB nm s = refsK nm s s.length by unfold refsB; rw [hB]; rfl)
  clear hB
  have H1 := Lib.hid hi
  have H2 := Lib.hid hz0
  have H3 := Lib.hid hz1
  have H4 := Lib.hid hz2
  clear hi hz0 hz1 hz2
  go_enter Try.func20, Try.ntmps20
  go_wp2_with fail
  refine (implSchemaOk A s.length c s ok _ h HS.out).mono ?_
  rintro e w1 ⟨rfl, hb1⟩
  rw [HB.out]
  go_wp2_with fail
  go_loopw [5, 13] (fun v i wr => ∃ k : Nat, k ≤ s.length ∧ i = .int .i64 k ∧ Hid (OwnI wr w.heap.size v (refsK nm s k)) ∧ Below w.heap.size w wr) (fun _ i _ => s.length - (intOf i).toNat)
  case atStart => exact ⟨0, by omega, rfl, Lib.hid (OwnI.nil _ _), hb1⟩
  case round =>
    clear hb1
    obtain ⟨k, hk, rfl, hown, hb⟩ := hrel
    by_cases hlt : k < s.length
    · obtain ⟨b, off, A1, n1, c1, A2, n2, c2, A3, n3, c3, A4, n4, c4, A5, n5, c5, -, rfl, q0, q1, q2, q3, q4, q5, -, -, -, -, s5, -⟩ := TbR.at_ (h.below TbR.stays hb) hlt
      have hfn : n5 ≤ 1048576 := by have h1 := HS.out; have := sum_mem_le Tb.sz s k hlt; have h2 := s5.1; simp only [szL, Tb.sz] at *; omega
      have i0' : (0 : Int) ≤ k := by omega
      have i1' : (k : Int) < s.length := by omega
      have hbx := hb.alloc hb.size (.cells #[.string s[k].name, .slice A1 n1 c1, .slice A2 n2 c2, .slice A3 n3 c3, .slice A4 n4 c4, .slice A5 n5 c5] 34)
      have hlb := (Below.refl wr.heap.size wr).alloc (Nat.le_refl _) (.cells #[.string s[k].name, .slice A1 n1 c1, .slice A2 n2 c2, .slice A3 n3 c3, .slice A4 n4 c4, .slice A5 n5 c5] 34)
      have s5' := s5.below FkR.stays hlb
      have hown' := Lib.hid (hown.out.below hlb)
      have HLEN := Lib.hid (refsK_len nm s k)
      clear hown hlb s5
      cases hr : refB nm s[k]
      · have HRF := Lib.hid hr
        have HRK := Lib.hid (refsK_no hlt hr)
        clear hr
        go_wp2_with fail
        refine (implRefersTo s[k] A1 n1 c1 A2 n2 c2 A3 n3 c3 A4 n4 c4 A5 n5 c5 nm _ _ s5' hfn).mono ?_
        rintro e w2 ⟨rfl, hb2⟩
        rw [HRF.out]
        go_wp2_with fail
        go_roundw
        case rel => exact ⟨k + 1, by omega, by go_num, Lib.hid (by rw [HRK.out]; exact hown'.out.below hb2), hbx.trans (hb2.mono hbx.size)⟩
        case measure => simp [intOf]; omega
      · have HRF := Lib.hid hr
        have HRK := Lib.hid (refsK_yes hlt hr)
        clear hr
        go_wp2_with fail
        refine (implRefersTo s[k] A1 n1 c1 A2 n2 c2 A3 n3 c3 A4 n4 c4 A5 n5 c5 nm _ _ s5' hfn).mono ?_
        rintro e w2 ⟨rfl, hb2⟩
        rw [HRF.out]
        have hbz := hbx.trans (hb2.mono hbx.size)
        have hoz := Lib.hid (hown'.out.below hb2)
        clear hown' hbx
        generalize hgv : refsK nm s k = xs at *
        have HGV := Lib.hid hgv
        clear hgv
        go_wp2_with (at_builtin; refine wpList_append_own _ rfl _ _ 29 rfl w.heap.size 2 i0 (.int .i64 0) 1 8 Try.underlying29 H1.out H2.out H3.out H4.out rfl (by decide) _ _ _ rfl (World.ownsRow.alloc hoz.out _) ⟨w2.heap.size, 0, none⟩ 1 1 [.int .i64 k] rfl rfl ?c1 ?c2 ?c3 ?c4 ?c5 ?_)
        case c1 => exact cell_one_new _ _ _
        case c2 => intro u hu; simp at hu; subst hu; rfl
        case c3 => have := HLEN.out; unfold maxLen; omega
        case c4 => have := HLEN.out; omega
        case c5 => have := hbz.size; simp; omega
        intro v' w3 hown3 hgrow _
        have R := Lib.hid (OwnI.app hoz.out hbz.size hown3 hgrow)
        clear hown3 hgrow hoz
        go_wp2_with fail
        go_roundw
        case rel => exact ⟨k + 1, by omega, by go_num, Lib.hid (by rw [HRK.out]; exact R.out.1), hbz.trans R.out.2⟩
        case measure => simp [intOf]; omega
    · obtain rfl : k = s.length := by omega
      obtain ⟨AO, cO, rfl, hcO, hcm, hsl⟩ := hown.out.sl
      clear hown
      go_wp2_with fail
      go_ret
      exact ⟨AO, cO, by rw [HR.out]; rfl, by rw [HR.out]; exact hcO, by rw [HR.out]; exact hsl, hb⟩
end Go.Proofs.Ytjlolfikaahobaa
