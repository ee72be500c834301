/-
  Contracts: a column by its name.
-/
import Derived.Test.YtakhcgkhjmfndaaGreatTableAt
namespace Go.Proofs.YtakhcgkhjmfndaaGreat
open Go.RowKit Go.Maps
set_option linter.unusedVariables false

set_option maxRecDepth 100000 in
set_option maxHeartbeats 1000000 in
theorem implColPlaces (A : Option Addr) (n c : Nat) (s : List Cl) (ok : Nat → Prop) (w : World) (h : Sl ClR 6 ok w A n s) (hs : szL Cl.sz s ≤ 1048576) :
    Calls Tryz.prog 54 #[.slice A n c] w (MadePlaces (s.map Cl.name) w) := by
  obtain rfl : s.length = n := h.1
  have hn : s.length ≤ 1048576 := by unfold szL at hs; omega
  have HS := Lib.hid hs
  clear hs
  have hmm := @run_makeMap Tryz.prog
  go_enter Tryz.func54, Tryz.ntmps54
  go_wp2
  have hm0 := PlacesIn.made w
  have hb0 := (Below.refl w.heap.size w).alloc (Nat.le_refl _) (.map #[] 0)
  generalize w.alloc (.map #[] 0) = x0 at *
  clear hmm
  go_loopw [9] (fun i wr => ∃ k : Nat, k ≤ s.length ∧ i = .int .i64 k ∧ PlacesIn wr w.heap.size ((s.map Cl.name).take k) ∧ Below w.heap.size w wr) (fun i _ => s.length - (intOf i).toNat)
  case atStart => exact ⟨0, by omega, rfl, hm0, hb0⟩
  case round =>
    obtain ⟨k, hk, rfl, hpl, hb⟩ := hrel
    by_cases hlt : k < s.length
    · obtain ⟨b, off, -, rfl, q0, q1, q2, q3, q4, q5⟩ := ClR.at_ (h.below ClR.stays hb) hlt
      have hl : ((s.map Cl.name).take k).length = k := by simp; omega
      have hsn : (s.map Cl.name).take (k + 1) = (s.map Cl.name).take k ++ [s[k].name] := by rw [List.take_succ_eq_append_getElem (by simpa using hlt)]; simp
      have hz := Lib.hid (cl_name_le HS.out k hlt)
      have HL := Lib.hid hl
      have HSN := Lib.hid hsn
      clear hl hsn
      have hpa := hpl.alloc (.cells #[.string s[k].name, .int .i64 s[k].kind, .bool s[k].nn, .int .i64 s[k].d.k, .int .i64 s[k].d.n, .string s[k].d.s] 59)
      have hba := hb.alloc hb.size (.cells #[.string s[k].name, .int .i64 s[k].kind, .bool s[k].nn, .int .i64 s[k].d.k, .int .i64 s[k].d.n, .string s[k].d.s] 59)
      go_wp2_with fail
      have hcall := implAddFirst w.heap.size _ s[k].name _ hpa hz.out (by rw [HL.out]; omega)
      rw [HL.out] at hcall
      refine hcall.mono ?_
      rintro e w1 ⟨rfl, hp1, hg1⟩
      clear hcall
      go_wp2_with fail
      go_roundw
      case rel => exact ⟨k + 1, by omega, by go_num, by rw [HSN.out]; exact hp1, hba.grown hg1 hba.size (fun j hj => by cases hj; exact Nat.le_refl _)⟩
      case measure => simp [intOf]; omega
    · have e : (s.map Cl.name).take k = s.map Cl.name := List.take_of_length_le (by simp; omega)
      rw [e] at hpl
      clear e
      go_wp2
      go_ret
      exact ⟨_, rfl, hpl, Nat.le_refl _, hb⟩


set_option maxRecDepth 100000 in
set_option maxHeartbeats 1000000 in
theorem specColAt (A1 : Option Addr) (n1 c1 : Nat) (v0 v2 v3 v4 v5 : Value) (s : List Cl) (nm : ByteArray) (ok : Nat → Prop) (w : World) (h : Sl ClR 6 ok w A1 n1 s) (hn : n1 ≤ 1048576) :
    Calls Tryz.prog 46 #[.agg #[v0, .slice A1 n1 c1, v2, v3, v4, v5], .string nm] w fun e w' => e = .returned (.int .i64 (atN (s.map Cl.name) nm)) ∧ Below w.heap.size w w' := by
  obtain rfl : s.length = n1 := h.1
  have hlen : (s.map Cl.name).length = s.length := by simp
  have HL := Lib.hid hlen
  clear hlen
  have hb0 := (Below.refl w.heap.size w).alloc (Nat.le_refl _) (.cells #[v0, .slice A1 s.length c1, v2, v3, v4, v5] 50)
  have r0 := Row.new w 50 #[v0, .slice A1 s.length c1, v2, v3, v4, v5]
  go_enter Tryz.func46, Tryz.ntmps46
  go_wp2
  generalize w.alloc (.cells #[v0, .slice A1 s.length c1, v2, v3, v4, v5] 50) = x0 at *
  go_loopw [5] (fun i wr => ∃ k : Nat, k ≤ s.length ∧ i = .int .i64 k ∧ Hid (atN (s.map Cl.name) nm = atGo nm ((s.map Cl.name).drop k) k) ∧ x0 = wr) (fun i _ => s.length - (intOf i).toNat)
  case atStart => exact ⟨0, by omega, rfl, Lib.hid rfl, rfl⟩
  case round =>
    obtain ⟨k, hk, rfl, hat, rfl⟩ := hrel
    obtain ⟨⟨a0, a1, a2, a3, a4, a5⟩, -⟩ := r0.all6
    by_cases hlt : k < s.length
    · obtain ⟨b, off, -, rfl, q0, q1, q2, q3, q4, q5⟩ := ClR.at_ (h.below ClR.stays hb0) hlt
      have hd := atGo_drop nm (s.map Cl.name) k (by rw [HL.out]; exact hlt)
      rw [List.getElem_map] at hd
      have i0 : (0 : Int) ≤ k := by omega
      have i1 : (k : Int) < s.length := by omega
      cases he : (s[k].name.toList == nm.toList)
      · rw [he] at hd
        have HA := Lib.hid (hat.out.trans hd)
        clear hd hat
        go_wp2_with fail
        go_roundw
        case rel => exact ⟨k + 1, by omega, by go_num, Lib.hid (by simpa using HA.out), by first | trivial | rfl⟩
        case measure => simp [intOf]; omega
      · rw [he] at hd
        have HA := Lib.hid (hat.out.trans hd)
        clear hd hat
        go_wp2_with fail
        go_ret
        exact ⟨retI (by simpa using HA.out.symm), hb0⟩
    · have e : (s.map Cl.name).drop k = [] := List.drop_eq_nil_of_le (by rw [HL.out]; omega)
      have h1 := hat.out
      rw [e] at h1
      have HA := Lib.hid h1
      clear h1 hat e
      go_wp2
      go_ret
      exact ⟨retI HA.out.symm, hb0⟩

end Go.Proofs.YtakhcgkhjmfndaaGreat
