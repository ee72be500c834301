/-
  Several texts in one: SpecSchema, SpecDb, SpecDbOk, MatchSpec, StmtSpec, StmtSpec2, StmtImpl, StmtImpl2, Trod, Sz.
-/
import Derived.Test.YthafgkcokecnnaaGreatPb
import Derived.Test.YthafgkcokecnnaaGreatPc
import Derived.Test.YthafgkcokecnnaaGreatPa
import Derived.Lib.SmallJoins
namespace Go.Proofs.YthafgkcokecnnaaGreat
open Go.RowKit Go.Maps
set_option linter.unusedVariables false
set_option linter.unusedSimpArgs false

set_option maxRecDepth 100000 in
set_option maxHeartbeats 4000000 in
theorem specSchemaOk (AS : Option Addr) (nS cS : Nat) (s : List Tb) (ok : Nat → Prop) (w : World) (hs : Sl TbR 6 ok w AS nS s) (hcp : nS ≤ cS) (hsz : szL Tb.sz s ≤ 1048576) :
    Calls Tryz.prog 16 #[.slice AS nS cS] w fun e w' => e = .returned (.bool (schemaB s)) ∧ Below w.heap.size w w' := by
  obtain rfl : s.length = nS := hs.1
  have hn : s.length ≤ 1048576 := by unfold szL at hsz; omega
  have HSZ := Lib.hid hsz
  have HT := Lib.hid (fun k (hlt : k < s.length) => show s[k].sz ≤ 1048576 by have := HSZ.out; have := sum_mem_le Tb.sz s k hlt; unfold szL at *; omega)
  clear hsz
  go_enter Tryz.func16, Tryz.ntmps16
  go_wp2_with fail
  go_loopw [3] (fun i wr => ∃ k : Nat, k ≤ s.length ∧ i = .int .i64 k ∧ Hid ((s.take k).all tableB = true) ∧ Hid (uniqGo [] (s.map Tb.name) = uniqGo ((s.map Tb.name).take k) ((s.map Tb.name).drop k)) ∧ Below w.heap.size w wr) (fun i _ => s.length - (intOf i).toNat)
  case atStart => exact ⟨0, by omega, rfl, Lib.hid (by simp), Lib.hid (by simp), Below.refl _ _⟩
  case round =>
    obtain ⟨k, hk, rfl, hall, huq, hb⟩ := hrel
    by_cases hlt : k < s.length
    · have hsw := hs.below TbR.stays hb
      obtain ⟨b, off, A1, n1, c1, A2, n2, c2, A3, n3, c3, A4, n4, c4, A5, n5, c5, -, ea, q0, q1, q2, q3, q4, q5, s1, s2, s3, s4, s5, hcps⟩ := TbR.at_ hsw hlt
      subst ea
      have HCP := Lib.hid hcps
      clear hcps
      have hsn := all_take tableB s k hlt
      rw [hall.out, Bool.true_and] at hsn
      have hno := fun hf => all_no tableB s k hlt hf
      have hug := uniqGo_at (s.map Tb.name) k (by simpa using hlt)
      rw [← huq.out, List.getElem_map, ← List.map_take] at hug
      have HX := Lib.hid (HT.out k hlt)
      have i0 : (0 : Int) ≤ k := by omega
      have i1 : (k : Int) < s.length := by omega
      have i3 : (k : Int) ≤ cS := by omega
      cases hc : tableB s[k]
      · skip
        have HTB := Lib.hid hc
        have HF := Lib.hid (show schemaB s = false by unfold schemaB; rw [hno hc]; simp)
        clear hc hno hsn hug hall huq
        go_wp2_with fail
        refine wp_region_noPanic ?_
        refine wp_region_held_drew (S := fun w' => w'.cell? ⟨b, off + k * 6, none⟩ = some (.string s[k].name) ∧ w'.cell? ⟨b, off + k * 6 + 1, none⟩ = some (.slice A1 n1 c1) ∧ w'.cell? ⟨b, off + k * 6 + 2, none⟩ = some (.slice A2 n2 c2) ∧ w'.cell? ⟨b, off + k * 6 + 3, none⟩ = some (.slice A3 n3 c3) ∧ w'.cell? ⟨b, off + k * 6 + 4, none⟩ = some (.slice A4 n4 c4) ∧ w'.cell? ⟨b, off + k * 6 + 5, none⟩ = some (.slice A5 n5 c5)) (by kernel_rfl) ⟨q0, q1, q2, q3, q4, q5⟩ (fun hHeld => ?_)
        refine wpAnyH_take (i := 0) (v := ?v1) rfl (by kernel_rfl) (by kernel_rfl) (by kernel_rfl) (fun _ _ _ h => h) (Or.inl ⟨by rfl, ?hy1⟩) hHeld ?rest1
        case hy1 => (intro w' hSw; (try dsimp only at hSw); first | (go_simp; done) | (go_simp; with_reducible rfl))
        simp only [Act.put, List.getElem_toArray, List.getElem_cons_zero, List.getElem_cons_succ, List.setIfInBounds_toArray, List.set_cons_zero, List.set_cons_succ]
        refine wpAnyH_take (i := 1) (v := ?v2) rfl (by kernel_rfl) (by kernel_rfl) (by kernel_rfl) (fun _ _ _ h => h) (Or.inl ⟨by rfl, ?hy2⟩) hHeld ?rest2
        case hy2 => (intro w' hSw; (try dsimp only at hSw); first | (go_simp; done) | (go_simp; with_reducible rfl))
        simp only [Act.put, List.getElem_toArray, List.getElem_cons_zero, List.getElem_cons_succ, List.setIfInBounds_toArray, List.set_cons_zero, List.set_cons_succ]
        refine wpAnyH_take (i := 2) (v := ?v3) rfl (by kernel_rfl) (by kernel_rfl) (by kernel_rfl) (fun _ _ _ h => h) (Or.inl ⟨by rfl, ?hy3⟩) hHeld ?rest3
        case hy3 => (intro w' hSw; (try dsimp only at hSw); first | (go_simp; done) | (go_simp; with_reducible rfl))
        simp only [Act.put, List.getElem_toArray, List.getElem_cons_zero, List.getElem_cons_succ, List.setIfInBounds_toArray, List.set_cons_zero, List.set_cons_succ]
        refine wpAnyH_take (i := 3) (v := ?v4) rfl (by kernel_rfl) (by kernel_rfl) (by kernel_rfl) (fun _ _ _ h => h) (Or.inl ⟨by rfl, ?hy4⟩) hHeld ?rest4
        case hy4 => (intro w' hSw; (try dsimp only at hSw); first | (go_simp; done) | (go_simp; with_reducible rfl))
        simp only [Act.put, List.getElem_toArray, List.getElem_cons_zero, List.getElem_cons_succ, List.setIfInBounds_toArray, List.set_cons_zero, List.set_cons_succ]
        refine wpAnyH_ready (rs := [4]) (by kernel_rfl) (by simp) ?_
        refine AllReadyH.cons rfl (fun K hK => ?_) AllReadyH.nil
        go_simp
        refine (specTableOk s[k] A1 n1 c1 A2 n2 c2 A3 n3 c3 A4 n4 c4 A5 n5 c5 ok _ (s1.drew ClR.stays) (s2.drew IntR.stays) (s3.drew UqR.stays) (s4.drew CkR.stays) (s5.drew FkR.stays) HCP.out HX.out).mono ?_
        rintro e wc ⟨rfl, hqc⟩
        rw [HTB.out]
        go_wp2_with fail
        refine hK.out _ _ ⟨below_keep hqc _ _ hHeld.1, below_keep hqc _ _ hHeld.2.1, below_keep hqc _ _ hHeld.2.2.1, below_keep hqc _ _ hHeld.2.2.2.1, below_keep hqc _ _ hHeld.2.2.2.2.1, below_keep hqc _ _ hHeld.2.2.2.2.2⟩ (fun hHeld => ?_)
        clear hK K
        (try simp only [Act.put, List.getElem_toArray, List.getElem_cons_zero, List.getElem_cons_succ, List.setIfInBounds_toArray, List.set_cons_zero, List.set_cons_succ])
        refine wpAnyH_take (i := 5) (v := ?v5) rfl (by kernel_rfl) (by kernel_rfl) (by kernel_rfl) (fun _ _ _ h => h) (Or.inl ⟨by rfl, ?hy5⟩) hHeld ?rest5
        case hy5 => (intro w' hSw; (try dsimp only at hSw); first | (go_simp; done) | (go_simp; with_reducible rfl))
        simp only [Act.put, List.getElem_toArray, List.getElem_cons_zero, List.getElem_cons_succ, List.setIfInBounds_toArray, List.set_cons_zero, List.set_cons_succ]
        refine wpAnyH_take (i := 6) (v := ?v6) rfl (by kernel_rfl) (by kernel_rfl) (by kernel_rfl) (fun _ _ _ h => h) (Or.inl ⟨by rfl, ?hy6⟩) hHeld ?rest6
        case hy6 => (intro w' hSw; (try dsimp only at hSw); first | (go_simp; done) | (go_simp; with_reducible rfl))
        simp only [Act.put, List.getElem_toArray, List.getElem_cons_zero, List.getElem_cons_succ, List.setIfInBounds_toArray, List.set_cons_zero, List.set_cons_succ]
        refine wpAnyH_take (i := 7) (v := undef) rfl (by kernel_rfl) (by kernel_rfl) (by kernel_rfl) (fun _ _ _ h => h) (Or.inr ⟨by rfl, rfl⟩) hHeld ?_
        simp only [Act.put, List.getElem_toArray, List.getElem_cons_zero, List.getElem_cons_succ, List.setIfInBounds_toArray, List.set_cons_zero, List.set_cons_succ]
        refine wpAnyH_take (i := 8) (v := undef) rfl (by kernel_rfl) (by kernel_rfl) (by kernel_rfl) (fun _ _ _ h => h) (Or.inr ⟨by rfl, rfl⟩) hHeld ?_
        simp only [Act.put, List.getElem_toArray, List.getElem_cons_zero, List.getElem_cons_succ, List.setIfInBounds_toArray, List.set_cons_zero, List.set_cons_succ]
        refine wpAnyH_take (i := 9) (v := undef) rfl (by kernel_rfl) (by kernel_rfl) (by kernel_rfl) (fun _ _ _ h => h) (Or.inr ⟨by rfl, rfl⟩) hHeld ?_
        simp only [Act.put, List.getElem_toArray, List.getElem_cons_zero, List.getElem_cons_succ, List.setIfInBounds_toArray, List.set_cons_zero, List.set_cons_succ]
        refine wpAnyH_take (i := 10) (v := undef) rfl (by kernel_rfl) (by kernel_rfl) (by kernel_rfl) (fun _ _ _ h => h) (Or.inr ⟨by rfl, rfl⟩) hHeld ?_
        simp only [Act.put, List.getElem_toArray, List.getElem_cons_zero, List.getElem_cons_succ, List.setIfInBounds_toArray, List.set_cons_zero, List.set_cons_succ]
        refine wpAnyH_take (i := 11) (v := undef) rfl (by kernel_rfl) (by kernel_rfl) (by kernel_rfl) (fun _ _ _ h => h) (Or.inr ⟨by rfl, rfl⟩) hHeld ?_
        simp only [Act.put, List.getElem_toArray, List.getElem_cons_zero, List.getElem_cons_succ, List.setIfInBounds_toArray, List.set_cons_zero, List.set_cons_succ]
        refine wpAnyH_take (i := 12) (v := undef) rfl (by kernel_rfl) (by kernel_rfl) (by kernel_rfl) (fun _ _ _ h => h) (Or.inr ⟨by rfl, rfl⟩) hHeld ?_
        simp only [Act.put, List.getElem_toArray, List.getElem_cons_zero, List.getElem_cons_succ, List.setIfInBounds_toArray, List.set_cons_zero, List.set_cons_succ]
        refine wpAnyH_take (i := 13) (v := undef) rfl (by kernel_rfl) (by kernel_rfl) (by kernel_rfl) (fun _ _ _ h => h) (Or.inr ⟨by rfl, rfl⟩) hHeld ?_
        simp only [Act.put, List.getElem_toArray, List.getElem_cons_zero, List.getElem_cons_succ, List.setIfInBounds_toArray, List.set_cons_zero, List.set_cons_succ]
        refine wpAnyH_take (i := 14) (v := undef) rfl (by kernel_rfl) (by kernel_rfl) (by kernel_rfl) (fun _ _ _ h => h) (Or.inr ⟨by rfl, rfl⟩) hHeld ?_
        simp only [Act.put, List.getElem_toArray, List.getElem_cons_zero, List.getElem_cons_succ, List.setIfInBounds_toArray, List.set_cons_zero, List.set_cons_succ]
        refine wpAnyH_take (i := 15) (v := undef) rfl (by kernel_rfl) (by kernel_rfl) (by kernel_rfl) (fun _ _ _ h => h) (Or.inr ⟨by rfl, rfl⟩) hHeld ?_
        simp only [Act.put, List.getElem_toArray, List.getElem_cons_zero, List.getElem_cons_succ, List.setIfInBounds_toArray, List.set_cons_zero, List.set_cons_succ]
        refine wpAnyH_take (i := 16) (v := undef) rfl (by kernel_rfl) (by kernel_rfl) (by kernel_rfl) (fun _ _ _ h => h) (Or.inr ⟨by rfl, rfl⟩) hHeld ?_
        simp only [Act.put, List.getElem_toArray, List.getElem_cons_zero, List.getElem_cons_succ, List.setIfInBounds_toArray, List.set_cons_zero, List.set_cons_succ]
        refine wpAnyH_take (i := 17) (v := ?v7) rfl (by kernel_rfl) (by kernel_rfl) (by kernel_rfl) (fun _ _ _ h => h) (Or.inl ⟨by rfl, ?hy7⟩) hHeld ?rest7
        case hy7 => (intro w' hSw; (try dsimp only at hSw); first | (go_simp; done) | (go_simp; with_reducible rfl))
        simp only [Act.put, List.getElem_toArray, List.getElem_cons_zero, List.getElem_cons_succ, List.setIfInBounds_toArray, List.set_cons_zero, List.set_cons_succ]
        refine wpAnyH_done (by kernel_rfl) ?_ _
        refine NoPanic.normal ?_
        have hz := hb.drew.trans (hqc.mono hb.drew.size)
        clear hHeld q0 q1 q2 q3 q4 q5
        go_wp2_with fail
        go_ret
        exact ⟨retB HF.out.symm, hz⟩
      have HTB := Lib.hid hc
      by_cases hat : atN ((s.take k).map Tb.name) s[k].name = -1
      case neg =>
        obtain ⟨j, hj, hj0⟩ : ∃ j : Int, j = atN ((s.take k).map Tb.name) s[k].name ∧ 0 ≤ j := ⟨_, rfl, by rcases atN_rng ((s.take k).map Tb.name) s[k].name with h | h; exact absurd h hat; exact h.1⟩
        have HJ := Lib.hid hj
        have HF := Lib.hid (show schemaB s = false by unfold schemaB; rw [hug, decide_eq_false hat]; simp)
        clear hc hno hsn hug hall huq hat hj
        go_wp2_with fail
        refine wp_region_noPanic ?_
        refine wp_region_held_drew (S := fun w' => w'.cell? ⟨b, off + k * 6, none⟩ = some (.string s[k].name) ∧ w'.cell? ⟨b, off + k * 6 + 1, none⟩ = some (.slice A1 n1 c1) ∧ w'.cell? ⟨b, off + k * 6 + 2, none⟩ = some (.slice A2 n2 c2) ∧ w'.cell? ⟨b, off + k * 6 + 3, none⟩ = some (.slice A3 n3 c3) ∧ w'.cell? ⟨b, off + k * 6 + 4, none⟩ = some (.slice A4 n4 c4) ∧ w'.cell? ⟨b, off + k * 6 + 5, none⟩ = some (.slice A5 n5 c5)) (by kernel_rfl) ⟨q0, q1, q2, q3, q4, q5⟩ (fun hHeld => ?_)
        refine wpAnyH_take (i := 0) (v := ?v8) rfl (by kernel_rfl) (by kernel_rfl) (by kernel_rfl) (fun _ _ _ h => h) (Or.inl ⟨by rfl, ?hy8⟩) hHeld ?rest8
        case hy8 => (intro w' hSw; (try dsimp only at hSw); first | (go_simp; done) | (go_simp; with_reducible rfl))
        simp only [Act.put, List.getElem_toArray, List.getElem_cons_zero, List.getElem_cons_succ, List.setIfInBounds_toArray, List.set_cons_zero, List.set_cons_succ]
        refine wpAnyH_take (i := 1) (v := ?v9) rfl (by kernel_rfl) (by kernel_rfl) (by kernel_rfl) (fun _ _ _ h => h) (Or.inl ⟨by rfl, ?hy9⟩) hHeld ?rest9
        case hy9 => (intro w' hSw; (try dsimp only at hSw); first | (go_simp; done) | (go_simp; with_reducible rfl))
        simp only [Act.put, List.getElem_toArray, List.getElem_cons_zero, List.getElem_cons_succ, List.setIfInBounds_toArray, List.set_cons_zero, List.set_cons_succ]
        refine wpAnyH_take (i := 2) (v := ?v10) rfl (by kernel_rfl) (by kernel_rfl) (by kernel_rfl) (fun _ _ _ h => h) (Or.inl ⟨by rfl, ?hy10⟩) hHeld ?rest10
        case hy10 => (intro w' hSw; (try dsimp only at hSw); first | (go_simp; done) | (go_simp; with_reducible rfl))
        simp only [Act.put, List.getElem_toArray, List.getElem_cons_zero, List.getElem_cons_succ, List.setIfInBounds_toArray, List.set_cons_zero, List.set_cons_succ]
        refine wpAnyH_take (i := 3) (v := ?v11) rfl (by kernel_rfl) (by kernel_rfl) (by kernel_rfl) (fun _ _ _ h => h) (Or.inl ⟨by rfl, ?hy11⟩) hHeld ?rest11
        case hy11 => (intro w' hSw; (try dsimp only at hSw); first | (go_simp; done) | (go_simp; with_reducible rfl))
        simp only [Act.put, List.getElem_toArray, List.getElem_cons_zero, List.getElem_cons_succ, List.setIfInBounds_toArray, List.set_cons_zero, List.set_cons_succ]
        refine wpAnyH_ready (rs := [4]) (by kernel_rfl) (by simp) ?_
        refine AllReadyH.cons rfl (fun K hK => ?_) AllReadyH.nil
        go_simp
        refine (specTableOk s[k] A1 n1 c1 A2 n2 c2 A3 n3 c3 A4 n4 c4 A5 n5 c5 ok _ (s1.drew ClR.stays) (s2.drew IntR.stays) (s3.drew UqR.stays) (s4.drew CkR.stays) (s5.drew FkR.stays) HCP.out HX.out).mono ?_
        rintro e wc ⟨rfl, hqc⟩
        rw [HTB.out]
        go_wp2_with fail
        refine hK.out _ _ ⟨below_keep hqc _ _ hHeld.1, below_keep hqc _ _ hHeld.2.1, below_keep hqc _ _ hHeld.2.2.1, below_keep hqc _ _ hHeld.2.2.2.1, below_keep hqc _ _ hHeld.2.2.2.2.1, below_keep hqc _ _ hHeld.2.2.2.2.2⟩ (fun hHeld => ?_)
        clear hK K
        (try simp only [Act.put, List.getElem_toArray, List.getElem_cons_zero, List.getElem_cons_succ, List.setIfInBounds_toArray, List.set_cons_zero, List.set_cons_succ])
        refine wpAnyH_take (i := 5) (v := ?v12) rfl (by kernel_rfl) (by kernel_rfl) (by kernel_rfl) (fun _ _ _ h => h) (Or.inl ⟨by rfl, ?hy12⟩) hHeld ?rest12
        case hy12 => (intro w' hSw; (try dsimp only at hSw); first | (go_simp; done) | (go_simp; with_reducible rfl))
        simp only [Act.put, List.getElem_toArray, List.getElem_cons_zero, List.getElem_cons_succ, List.setIfInBounds_toArray, List.set_cons_zero, List.set_cons_succ]
        refine wpAnyH_take (i := 6) (v := ?v13) rfl (by kernel_rfl) (by kernel_rfl) (by kernel_rfl) (fun _ _ _ h => h) (Or.inl ⟨by rfl, ?hy13⟩) hHeld ?rest13
        case hy13 => (intro w' hSw; (try dsimp only at hSw); first | (go_simp; done) | (go_simp; with_reducible rfl))
        simp only [Act.put, List.getElem_toArray, List.getElem_cons_zero, List.getElem_cons_succ, List.setIfInBounds_toArray, List.set_cons_zero, List.set_cons_succ]
        refine wpAnyH_take (i := 7) (v := ?v14) rfl (by kernel_rfl) (by kernel_rfl) (by kernel_rfl) (fun _ _ _ h => h) (Or.inl ⟨by rfl, ?hy14⟩) hHeld ?rest14
        case hy14 => (intro w' hSw; (try dsimp only at hSw); first | (go_simp; done) | (go_simp; with_reducible rfl))
        simp only [Act.put, List.getElem_toArray, List.getElem_cons_zero, List.getElem_cons_succ, List.setIfInBounds_toArray, List.set_cons_zero, List.set_cons_succ]
        refine wpAnyH_take (i := 8) (v := ?v15) rfl (by kernel_rfl) (by kernel_rfl) (by kernel_rfl) (fun _ _ _ h => h) (Or.inl ⟨by rfl, ?hy15⟩) hHeld ?rest15
        case hy15 => (intro w' hSw; (try dsimp only at hSw); first | (go_simp; done) | (go_simp; with_reducible rfl))
        simp only [Act.put, List.getElem_toArray, List.getElem_cons_zero, List.getElem_cons_succ, List.setIfInBounds_toArray, List.set_cons_zero, List.set_cons_succ]
        refine wpAnyH_take (i := 9) (v := ?v16) rfl (by kernel_rfl) (by kernel_rfl) (by kernel_rfl) (fun _ _ _ h => h) (Or.inl ⟨by rfl, ?hy16⟩) hHeld ?rest16
        case hy16 => (intro w' hSw; (try dsimp only at hSw); first | (go_simp; done) | (go_simp; with_reducible rfl))
        simp only [Act.put, List.getElem_toArray, List.getElem_cons_zero, List.getElem_cons_succ, List.setIfInBounds_toArray, List.set_cons_zero, List.set_cons_succ]
        refine wpAnyH_take (i := 10) (v := ?v17) rfl (by kernel_rfl) (by kernel_rfl) (by kernel_rfl) (fun _ _ _ h => h) (Or.inl ⟨by rfl, ?hy17⟩) hHeld ?rest17
        case hy17 => (intro w' hSw; (try dsimp only at hSw); first | (go_simp; done) | (go_simp; with_reducible rfl))
        simp only [Act.put, List.getElem_toArray, List.getElem_cons_zero, List.getElem_cons_succ, List.setIfInBounds_toArray, List.set_cons_zero, List.set_cons_succ]
        refine wpAnyH_take (i := 11) (v := ?v18) rfl (by kernel_rfl) (by kernel_rfl) (by kernel_rfl) (fun _ _ _ h => h) (Or.inl ⟨by rfl, ?hy18⟩) hHeld ?rest18
        case hy18 => (intro w' hSw; (try dsimp only at hSw); first | (go_simp; done) | (go_simp; with_reducible rfl))
        simp only [Act.put, List.getElem_toArray, List.getElem_cons_zero, List.getElem_cons_succ, List.setIfInBounds_toArray, List.set_cons_zero, List.set_cons_succ]
        refine wpAnyH_take (i := 12) (v := ?v19) rfl (by kernel_rfl) (by kernel_rfl) (by kernel_rfl) (fun _ _ _ h => h) (Or.inl ⟨by rfl, ?hy19⟩) hHeld ?rest19
        case hy19 => (intro w' hSw; (try dsimp only at hSw); first | (go_simp; done) | (go_simp; with_reducible rfl))
        simp only [Act.put, List.getElem_toArray, List.getElem_cons_zero, List.getElem_cons_succ, List.setIfInBounds_toArray, List.set_cons_zero, List.set_cons_succ]
        refine wpAnyH_take (i := 13) (v := ?v20) rfl (by kernel_rfl) (by kernel_rfl) (by kernel_rfl) (fun _ _ _ h => h) (Or.inl ⟨by rfl, ?hy20⟩) hHeld ?rest20
        case hy20 => (intro w' hSw; (try dsimp only at hSw); first | (go_simp; done) | (go_simp; with_reducible rfl))
        simp only [Act.put, List.getElem_toArray, List.getElem_cons_zero, List.getElem_cons_succ, List.setIfInBounds_toArray, List.set_cons_zero, List.set_cons_succ]
        refine wpAnyH_take (i := 14) (v := ?v21) rfl (by kernel_rfl) (by kernel_rfl) (by kernel_rfl) (fun _ _ _ h => h) (Or.inl ⟨by rfl, ?hy21⟩) hHeld ?rest21
        case hy21 => (intro w' hSw; (try dsimp only at hSw); first | (go_simp; done) | (go_simp; with_reducible rfl))
        simp only [Act.put, List.getElem_toArray, List.getElem_cons_zero, List.getElem_cons_succ, List.setIfInBounds_toArray, List.set_cons_zero, List.set_cons_succ]
        refine wpAnyH_ready (rs := [15]) (by kernel_rfl) (by simp) ?_
        refine AllReadyH.cons rfl (fun K hK => ?_) AllReadyH.nil
        go_simp
        refine (specL3At _ k cS (s.take k) _ ok _ (((hsw.drew TbR.stays).below TbR.stays hqc).take (m := k) (by omega)) (by omega)).mono ?_
        rintro e wd ⟨rfl, hqd⟩
        rw [← HJ.out]
        go_wp2_with fail
        refine hK.out _ _ ⟨below_keep hqd _ _ hHeld.1, below_keep hqd _ _ hHeld.2.1, below_keep hqd _ _ hHeld.2.2.1, below_keep hqd _ _ hHeld.2.2.2.1, below_keep hqd _ _ hHeld.2.2.2.2.1, below_keep hqd _ _ hHeld.2.2.2.2.2⟩ (fun hHeld => ?_)
        clear hK K
        (try simp only [Act.put, List.getElem_toArray, List.getElem_cons_zero, List.getElem_cons_succ, List.setIfInBounds_toArray, List.set_cons_zero, List.set_cons_succ])
        refine wpAnyH_take (i := 16) (v := ?v22) rfl (by kernel_rfl) (by kernel_rfl) (by kernel_rfl) (fun _ _ _ h => h) (Or.inl ⟨by rfl, ?hy22⟩) hHeld ?rest22
        case hy22 => (intro w' hSw; (try dsimp only at hSw); first | (go_simp; done) | (go_simp; with_reducible rfl))
        simp only [Act.put, List.getElem_toArray, List.getElem_cons_zero, List.getElem_cons_succ, List.setIfInBounds_toArray, List.set_cons_zero, List.set_cons_succ]
        refine wpAnyH_take (i := 17) (v := ?v23) rfl (by kernel_rfl) (by kernel_rfl) (by kernel_rfl) (fun _ _ _ h => h) (Or.inl ⟨by rfl, ?hy23⟩) hHeld ?rest23
        case hy23 => (intro w' hSw; (try dsimp only at hSw); first | (go_simp; done) | (go_simp; with_reducible rfl))
        simp only [Act.put, List.getElem_toArray, List.getElem_cons_zero, List.getElem_cons_succ, List.setIfInBounds_toArray, List.set_cons_zero, List.set_cons_succ]
        refine wpAnyH_done (by kernel_rfl) ?_ _
        refine NoPanic.normal ?_
        have hz := hb.drew.trans (hqc.mono hb.drew.size)
        have hz := hz.trans (hqd.mono hz.size)
        clear hHeld q0 q1 q2 q3 q4 q5
        go_wp2_with fail
        go_ret
        exact ⟨retB HF.out.symm, hz⟩
      case pos =>
        have HA := Lib.hid hat
        have HUQ := Lib.hid (show uniqGo [] (s.map Tb.name) = uniqGo ((s.map Tb.name).take (k + 1)) ((s.map Tb.name).drop (k + 1)) by rw [hug, decide_eq_true hat, Bool.true_and])
        have HAL := Lib.hid (hsn.trans hc)
        clear hc hno hsn hug hall huq hat
        go_wp2_with fail
        refine wp_region_noPanic ?_
        refine wp_region_held_drew (S := fun w' => w'.cell? ⟨b, off + k * 6, none⟩ = some (.string s[k].name) ∧ w'.cell? ⟨b, off + k * 6 + 1, none⟩ = some (.slice A1 n1 c1) ∧ w'.cell? ⟨b, off + k * 6 + 2, none⟩ = some (.slice A2 n2 c2) ∧ w'.cell? ⟨b, off + k * 6 + 3, none⟩ = some (.slice A3 n3 c3) ∧ w'.cell? ⟨b, off + k * 6 + 4, none⟩ = some (.slice A4 n4 c4) ∧ w'.cell? ⟨b, off + k * 6 + 5, none⟩ = some (.slice A5 n5 c5)) (by kernel_rfl) ⟨q0, q1, q2, q3, q4, q5⟩ (fun hHeld => ?_)
        refine wpAnyH_take (i := 0) (v := ?v24) rfl (by kernel_rfl) (by kernel_rfl) (by kernel_rfl) (fun _ _ _ h => h) (Or.inl ⟨by rfl, ?hy24⟩) hHeld ?rest24
        case hy24 => (intro w' hSw; (try dsimp only at hSw); first | (go_simp; done) | (go_simp; with_reducible rfl))
        simp only [Act.put, List.getElem_toArray, List.getElem_cons_zero, List.getElem_cons_succ, List.setIfInBounds_toArray, List.set_cons_zero, List.set_cons_succ]
        refine wpAnyH_take (i := 1) (v := ?v25) rfl (by kernel_rfl) (by kernel_rfl) (by kernel_rfl) (fun _ _ _ h => h) (Or.inl ⟨by rfl, ?hy25⟩) hHeld ?rest25
        case hy25 => (intro w' hSw; (try dsimp only at hSw); first | (go_simp; done) | (go_simp; with_reducible rfl))
        simp only [Act.put, List.getElem_toArray, List.getElem_cons_zero, List.getElem_cons_succ, List.setIfInBounds_toArray, List.set_cons_zero, List.set_cons_succ]
        refine wpAnyH_take (i := 2) (v := ?v26) rfl (by kernel_rfl) (by kernel_rfl) (by kernel_rfl) (fun _ _ _ h => h) (Or.inl ⟨by rfl, ?hy26⟩) hHeld ?rest26
        case hy26 => (intro w' hSw; (try dsimp only at hSw); first | (go_simp; done) | (go_simp; with_reducible rfl))
        simp only [Act.put, List.getElem_toArray, List.getElem_cons_zero, List.getElem_cons_succ, List.setIfInBounds_toArray, List.set_cons_zero, List.set_cons_succ]
        refine wpAnyH_take (i := 3) (v := ?v27) rfl (by kernel_rfl) (by kernel_rfl) (by kernel_rfl) (fun _ _ _ h => h) (Or.inl ⟨by rfl, ?hy27⟩) hHeld ?rest27
        case hy27 => (intro w' hSw; (try dsimp only at hSw); first | (go_simp; done) | (go_simp; with_reducible rfl))
        simp only [Act.put, List.getElem_toArray, List.getElem_cons_zero, List.getElem_cons_succ, List.setIfInBounds_toArray, List.set_cons_zero, List.set_cons_succ]
        refine wpAnyH_ready (rs := [4]) (by kernel_rfl) (by simp) ?_
        refine AllReadyH.cons rfl (fun K hK => ?_) AllReadyH.nil
        go_simp
        refine (specTableOk s[k] A1 n1 c1 A2 n2 c2 A3 n3 c3 A4 n4 c4 A5 n5 c5 ok _ (s1.drew ClR.stays) (s2.drew IntR.stays) (s3.drew UqR.stays) (s4.drew CkR.stays) (s5.drew FkR.stays) HCP.out HX.out).mono ?_
        rintro e wc ⟨rfl, hqc⟩
        rw [HTB.out]
        go_wp2_with fail
        refine hK.out _ _ ⟨below_keep hqc _ _ hHeld.1, below_keep hqc _ _ hHeld.2.1, below_keep hqc _ _ hHeld.2.2.1, below_keep hqc _ _ hHeld.2.2.2.1, below_keep hqc _ _ hHeld.2.2.2.2.1, below_keep hqc _ _ hHeld.2.2.2.2.2⟩ (fun hHeld => ?_)
        clear hK K
        (try simp only [Act.put, List.getElem_toArray, List.getElem_cons_zero, List.getElem_cons_succ, List.setIfInBounds_toArray, List.set_cons_zero, List.set_cons_succ])
        refine wpAnyH_take (i := 5) (v := ?v28) rfl (by kernel_rfl) (by kernel_rfl) (by kernel_rfl) (fun _ _ _ h => h) (Or.inl ⟨by rfl, ?hy28⟩) hHeld ?rest28
        case hy28 => (intro w' hSw; (try dsimp only at hSw); first | (go_simp; done) | (go_simp; with_reducible rfl))
        simp only [Act.put, List.getElem_toArray, List.getElem_cons_zero, List.getElem_cons_succ, List.setIfInBounds_toArray, List.set_cons_zero, List.set_cons_succ]
        refine wpAnyH_take (i := 6) (v := ?v29) rfl (by kernel_rfl) (by kernel_rfl) (by kernel_rfl) (fun _ _ _ h => h) (Or.inl ⟨by rfl, ?hy29⟩) hHeld ?rest29
        case hy29 => (intro w' hSw; (try dsimp only at hSw); first | (go_simp; done) | (go_simp; with_reducible rfl))
        simp only [Act.put, List.getElem_toArray, List.getElem_cons_zero, List.getElem_cons_succ, List.setIfInBounds_toArray, List.set_cons_zero, List.set_cons_succ]
        refine wpAnyH_take (i := 7) (v := ?v30) rfl (by kernel_rfl) (by kernel_rfl) (by kernel_rfl) (fun _ _ _ h => h) (Or.inl ⟨by rfl, ?hy30⟩) hHeld ?rest30
        case hy30 => (intro w' hSw; (try dsimp only at hSw); first | (go_simp; done) | (go_simp; with_reducible rfl))
        simp only [Act.put, List.getElem_toArray, List.getElem_cons_zero, List.getElem_cons_succ, List.setIfInBounds_toArray, List.set_cons_zero, List.set_cons_succ]
        refine wpAnyH_take (i := 8) (v := ?v31) rfl (by kernel_rfl) (by kernel_rfl) (by kernel_rfl) (fun _ _ _ h => h) (Or.inl ⟨by rfl, ?hy31⟩) hHeld ?rest31
        case hy31 => (intro w' hSw; (try dsimp only at hSw); first | (go_simp; done) | (go_simp; with_reducible rfl))
        simp only [Act.put, List.getElem_toArray, List.getElem_cons_zero, List.getElem_cons_succ, List.setIfInBounds_toArray, List.set_cons_zero, List.set_cons_succ]
        refine wpAnyH_take (i := 9) (v := ?v32) rfl (by kernel_rfl) (by kernel_rfl) (by kernel_rfl) (fun _ _ _ h => h) (Or.inl ⟨by rfl, ?hy32⟩) hHeld ?rest32
        case hy32 => (intro w' hSw; (try dsimp only at hSw); first | (go_simp; done) | (go_simp; with_reducible rfl))
        simp only [Act.put, List.getElem_toArray, List.getElem_cons_zero, List.getElem_cons_succ, List.setIfInBounds_toArray, List.set_cons_zero, List.set_cons_succ]
        refine wpAnyH_take (i := 10) (v := ?v33) rfl (by kernel_rfl) (by kernel_rfl) (by kernel_rfl) (fun _ _ _ h => h) (Or.inl ⟨by rfl, ?hy33⟩) hHeld ?rest33
        case hy33 => (intro w' hSw; (try dsimp only at hSw); first | (go_simp; done) | (go_simp; with_reducible rfl))
        simp only [Act.put, List.getElem_toArray, List.getElem_cons_zero, List.getElem_cons_succ, List.setIfInBounds_toArray, List.set_cons_zero, List.set_cons_succ]
        refine wpAnyH_take (i := 11) (v := ?v34) rfl (by kernel_rfl) (by kernel_rfl) (by kernel_rfl) (fun _ _ _ h => h) (Or.inl ⟨by rfl, ?hy34⟩) hHeld ?rest34
        case hy34 => (intro w' hSw; (try dsimp only at hSw); first | (go_simp; done) | (go_simp; with_reducible rfl))
        simp only [Act.put, List.getElem_toArray, List.getElem_cons_zero, List.getElem_cons_succ, List.setIfInBounds_toArray, List.set_cons_zero, List.set_cons_succ]
        refine wpAnyH_take (i := 12) (v := ?v35) rfl (by kernel_rfl) (by kernel_rfl) (by kernel_rfl) (fun _ _ _ h => h) (Or.inl ⟨by rfl, ?hy35⟩) hHeld ?rest35
        case hy35 => (intro w' hSw; (try dsimp only at hSw); first | (go_simp; done) | (go_simp; with_reducible rfl))
        simp only [Act.put, List.getElem_toArray, List.getElem_cons_zero, List.getElem_cons_succ, List.setIfInBounds_toArray, List.set_cons_zero, List.set_cons_succ]
        refine wpAnyH_take (i := 13) (v := ?v36) rfl (by kernel_rfl) (by kernel_rfl) (by kernel_rfl) (fun _ _ _ h => h) (Or.inl ⟨by rfl, ?hy36⟩) hHeld ?rest36
        case hy36 => (intro w' hSw; (try dsimp only at hSw); first | (go_simp; done) | (go_simp; with_reducible rfl))
        simp only [Act.put, List.getElem_toArray, List.getElem_cons_zero, List.getElem_cons_succ, List.setIfInBounds_toArray, List.set_cons_zero, List.set_cons_succ]
        refine wpAnyH_take (i := 14) (v := ?v37) rfl (by kernel_rfl) (by kernel_rfl) (by kernel_rfl) (fun _ _ _ h => h) (Or.inl ⟨by rfl, ?hy37⟩) hHeld ?rest37
        case hy37 => (intro w' hSw; (try dsimp only at hSw); first | (go_simp; done) | (go_simp; with_reducible rfl))
        simp only [Act.put, List.getElem_toArray, List.getElem_cons_zero, List.getElem_cons_succ, List.setIfInBounds_toArray, List.set_cons_zero, List.set_cons_succ]
        refine wpAnyH_ready (rs := [15]) (by kernel_rfl) (by simp) ?_
        refine AllReadyH.cons rfl (fun K hK => ?_) AllReadyH.nil
        go_simp
        refine (specL3At _ k cS (s.take k) _ ok _ (((hsw.drew TbR.stays).below TbR.stays hqc).take (m := k) (by omega)) (by omega)).mono ?_
        rintro e wd ⟨rfl, hqd⟩
        rw [HA.out]
        go_wp2_with fail
        refine hK.out _ _ ⟨below_keep hqd _ _ hHeld.1, below_keep hqd _ _ hHeld.2.1, below_keep hqd _ _ hHeld.2.2.1, below_keep hqd _ _ hHeld.2.2.2.1, below_keep hqd _ _ hHeld.2.2.2.2.1, below_keep hqd _ _ hHeld.2.2.2.2.2⟩ (fun hHeld => ?_)
        clear hK K
        (try simp only [Act.put, List.getElem_toArray, List.getElem_cons_zero, List.getElem_cons_succ, List.setIfInBounds_toArray, List.set_cons_zero, List.set_cons_succ])
        refine wpAnyH_take (i := 16) (v := ?v38) rfl (by kernel_rfl) (by kernel_rfl) (by kernel_rfl) (fun _ _ _ h => h) (Or.inl ⟨by rfl, ?hy38⟩) hHeld ?rest38
        case hy38 => (intro w' hSw; (try dsimp only at hSw); first | (go_simp; done) | (go_simp; with_reducible rfl))
        simp only [Act.put, List.getElem_toArray, List.getElem_cons_zero, List.getElem_cons_succ, List.setIfInBounds_toArray, List.set_cons_zero, List.set_cons_succ]
        refine wpAnyH_take (i := 17) (v := ?v39) rfl (by kernel_rfl) (by kernel_rfl) (by kernel_rfl) (fun _ _ _ h => h) (Or.inl ⟨by rfl, ?hy39⟩) hHeld ?rest39
        case hy39 => (intro w' hSw; (try dsimp only at hSw); first | (go_simp; done) | (go_simp; with_reducible rfl))
        simp only [Act.put, List.getElem_toArray, List.getElem_cons_zero, List.getElem_cons_succ, List.setIfInBounds_toArray, List.set_cons_zero, List.set_cons_succ]
        refine wpAnyH_done (by kernel_rfl) ?_ _
        refine NoPanic.normal ?_
        have hz := hb.drew.trans (hqc.mono hb.drew.size)
        have hz := hz.trans (hqd.mono hz.size)
        clear hHeld q0 q1 q2 q3 q4 q5
        go_wp2_with fail
        go_roundw
        case rel => exact ⟨k + 1, by omega, by go_num, Lib.hid HAL.out, Lib.hid HUQ.out, hz⟩
        case measure => simp [intOf]; omega
    · have e : s.take k = s := List.take_of_length_le (by omega)
      have e2 : (s.map Tb.name).drop k = [] := List.drop_eq_nil_of_le (by simp; omega)
      have g1 := hall.out
      have g2 := huq.out
      rw [e] at g1
      rw [e2] at g2
      have HALL := Lib.hid g1
      have HU := Lib.hid (show uniqGo [] (s.map Tb.name) = true by rw [g2]; simp [uniqGo])
      clear e e2 g1 g2 hall huq
      go_wp2_with fail
      clear hk hlt
      go_loopw [4] (fun i wr => ∃ k : Nat, k ≤ s.length ∧ i = .int .i64 k ∧ Hid ((s.take k).all (leadsB s) = true) ∧ Below w.heap.size w wr) (fun i _ => s.length - (intOf i).toNat)
      case atStart => exact ⟨0, by omega, rfl, Lib.hid (by simp), hb⟩
      case round =>
        clear hb
        obtain ⟨k, hk, rfl, hall, hb⟩ := hrel
        by_cases hlt : k < s.length
        case neg =>
          have e : s.take k = s := List.take_of_length_le (by omega)
          have g1 := hall.out
          rw [e] at g1
          by_cases h5 : (s.length : Int) ≤ 5
          · have HF := Lib.hid (show schemaB s = true by unfold schemaB; rw [decide_eq_true (by omega), HALL.out, HU.out, g1]; rfl)
            have h5' : decide ((s.length : Int) ≤ 5) = true := by simpa using h5
            clear e g1 hall
            go_wp2_with fail
            go_ret
            exact ⟨retB HF.out.symm, hb⟩
          · have HF := Lib.hid (show schemaB s = false by unfold schemaB; rw [decide_eq_false (by omega)]; rfl)
            have h5' : decide ((s.length : Int) ≤ 5) = false := by simpa using h5
            clear e g1 hall
            go_wp2_with fail
            go_ret
            exact ⟨retB HF.out.symm, hb⟩
        case pos =>
          have hsn := all_take (leadsB s) s k hlt
          rw [hall.out, Bool.true_and] at hsn
          have HNO := Lib.hid (fun hf : leadsB s s[k] = false => show schemaB s = false by unfold schemaB; rw [all_no (leadsB s) s k hlt hf]; simp)
          have HSN := Lib.hid hsn
          have HX := Lib.hid (HT.out k hlt)
          have HTK := Lib.hid (show tableB s[k] = true from List.all_eq_true.1 HALL.out _ (List.getElem_mem hlt))
          clear hsn hall
          have i0 : (0 : Int) ≤ k := by omega
          have i1 : (k : Int) < s.length := by omega
          go_wp2_with fail
          go_loopw [5] (fun i wr => ∃ m : Nat, m ≤ s[k].fks.length ∧ i = .int .i64 m ∧ Hid ((s[k].fks.take m).all (leadB s s[k]) = true) ∧ Below w.heap.size w wr) (fun i _ => s[k].fks.length - (intOf i).toNat)
          case atStart => exact ⟨0, by omega, rfl, Lib.hid (by simp), hb⟩
          case round =>
            clear hb
            obtain ⟨m, hm, rfl, hall, hb⟩ := hrel
            obtain ⟨b, off, A1, n1, c1, A2, n2, c2, A3, n3, c3, A4, n4, c4, A5, n5, c5, -, ea, q0, q1, q2, q3, q4, q5, s1, s2, -, -, s5, -⟩ := TbR.at_ (hs.below TbR.stays hb) hlt
            subst ea
            obtain rfl : s[k].fks.length = n5 := s5.1
            by_cases hlm : m < s[k].fks.length
            case neg =>
              have e : s[k].fks.take m = s[k].fks := List.take_of_length_le (by omega)
              have g1 := hall.out
              rw [e] at g1
              have HA := Lib.hid (HSN.out.trans g1)
              clear e g1 hall
              go_wp2_with fail
              go_roundw
              case rel => exact ⟨k + 1, by omega, by go_num, Lib.hid HA.out, hb⟩
              case measure => simp [intOf]; omega
            case pos =>
              have hsn := all_take (leadB s s[k]) s[k].fks m hlm
              rw [hall.out, Bool.true_and] at hsn
              have hno := fun hf : leadB s s[k] s[k].fks[m] = false => HNO.out (show leadsB s s[k] = false from all_no (leadB s s[k]) s[k].fks m hlm hf)
              have HI1 := Lib.hid (show ∀ y ∈ s[k].fks[m].cols, 0 ≤ y ∧ y < s[k].cols.length from fk_cols HTK.out hlm)
              obtain ⟨bf, offf, A9, n9, c9, -, ef, y0, y1, y2, y3, y4, hfc, -⟩ := FkR.at_ s5 hlm
              subst ef
              obtain rfl : s[k].fks[m].cols.length = n9 := hfc.1
              have HSN3 := Lib.hid hsn
              have HNO3 := Lib.hid hno
              clear hsn hno hall
              have hfin : s[k].fks[m].cols.length ≤ 1048576 := by have h1 := HX.out; have := sum_mem_le Fk.sz s[k].fks m hlm; simp only [Tb.sz, Fk.sz, szL] at *; omega
              have hfl : s[k].fks.length ≤ 1048576 := by have := HX.out; simp only [Tb.sz, szL] at this; omega
              generalize s[k].fks[m] = f at *
              have j0 : (0 : Int) ≤ m := by omega
              have j1' : (m : Int) < s[k].fks.length := by omega
              have hbx := (Below.refl wr.heap.size wr).alloc (Nat.le_refl _) (.cells #[.slice A9 f.cols.length c9, .string f.table, .int .i64 f.del, .int .i64 f.upd, .bool f.dfr] 94)
              have hba := hb.trans (hbx.mono hb.size)
              have rf := Row.new wr 94 #[.slice A9 f.cols.length c9, .string f.table, .int .i64 f.del, .int .i64 f.upd, .bool f.dfr]
              have hfc1 := hfc.below IntR.stays hbx
              obtain ⟨⟨f0, f1, f2, f3, f4⟩, -⟩ := rf.five
              clear hfc
              go_wp2_with fail
              generalize wr.alloc (.cells #[.slice A9 f.cols.length c9, .string f.table, .int .i64 f.del, .int .i64 f.upd, .bool f.dfr] 94) = z1 at *
              generalize wr.heap.size = gz at *
              refine (specL3At _ s.length cS s f.table ok _ (hs.below TbR.stays hba) hn).mono ?_
              rintro e w1 ⟨rfl, hb1⟩
              have hbc := hba.trans (hb1.mono hba.size)
              have rf1 := rf.below hb1
              have hfc2 := hfc1.below IntR.stays hb1
              clear f0 f1 f2 f3 f4 q0 q1 q2 q3 q4 q5 y0 y1 y2 y3 y4 s1 s2 hbx hb rf hfc1 hba hb1 s5
              obtain ⟨⟨f0, f1, f2, f3, f4⟩, -⟩ := rf1.five
              by_cases hat : atN (s.map Tb.name) f.table = -1
              · have HA := Lib.hid hat
                have HF := Lib.hid (HNO3.out (by unfold leadB; rw [decide_eq_false (by simp [hat])]; rfl))
                rw [hat]
                clear hat
                go_wp2_with fail
                go_quiet (fail)
                go_wp2_with fail
                go_ret
                exact ⟨retB HF.out.symm, below_drewN hbc _⟩
              obtain ⟨j, hj, hjl⟩ : ∃ j : Nat, atN (s.map Tb.name) f.table = (j : Int) ∧ j < s.length := by
                rcases atN_rng (s.map Tb.name) f.table with h | h
                · exact absurd h hat
                · rw [List.length_map] at h; exact ⟨(atN (s.map Tb.name) f.table).toNat, by omega, by omega⟩
              have hld : leadB s s[k] f = sameB s[k].cols f.cols s[j].cols s[j].key := by
                unfold leadB; rw [decide_eq_true hat, hj]; simp [List.getElem?_eq_getElem hjl]
              have HSN4 := Lib.hid (HSN3.out.trans hld)
              have HLD := Lib.hid hld
              have HTJ := Lib.hid (show tableB s[j] = true from List.all_eq_true.1 HALL.out _ (List.getElem_mem hjl))
              rw [hj]
              clear hat hj hld
              have k0 : (0 : Int) ≤ j := by omega
              have k1 : (j : Int) < s.length := by omega
              have k2 : ¬ ((j : Int) < 0) := by omega
              have k3 : decide ((j : Int) < 0) = false := decide_eq_false k2
              obtain ⟨bj, offj, B1, m1, d1, B2, m2, d2, B3, m3, d3, B4, m4, d4, B5, m5, d5, -, ej, z0, z1', z2, z3, z4, z5, t1, t2, -, -, -, -⟩ := TbR.at_ (hs.below TbR.stays hbc) hjl
              cases ej
              obtain rfl : s[j].key.length = m2 := t2.1
              cases hl : (s[j].key.length == f.cols.length)
              · have hne := beq_eq_false_iff_ne.1 hl
                have hl' : ¬ ((s[j].key.length : Int) = f.cols.length) := by omega
                have HF := Lib.hid (HNO3.out (by rw [HLD.out]; unfold sameB; rw [decide_eq_false (fun h => hne h.symm)]; rfl))
                clear hl hne
                go_wp2_with fail
                go_quiet (fail)
                go_wp2_with fail
                go_ret
                exact ⟨retB HF.out.symm, below_drewN hbc _⟩
              have hlen : s[j].key.length = f.cols.length := by simpa using hl
              have hl' : ((s[j].key.length : Int) = f.cols.length) := by omega
              have hz : (f.cols.zip s[j].key).length = f.cols.length := by simp [hlen]
              have HZ := Lib.hid hz
              have HL := Lib.hid hlen
              have HE := Lib.hid (show sameB s[k].cols f.cols s[j].cols s[j].key = (f.cols.zip s[j].key).all (kindV s[k].cols s[j].cols) by unfold sameB; rw [decide_eq_true hlen.symm]; rfl)
              clear hl hz hlen
              go_wp2_with fail
              go_quiet (fail)
              go_wp2_with fail
              clear f0 f1 f2 f3 f4 z0 z1' z2 z3 z4 z5 t1 t2 hl'
              have hbd := fun n => below_drewN hbc n
              go_loopw [8] (fun i wr => ∃ r : Nat, r ≤ f.cols.length ∧ i = .int .i64 r ∧ Hid (((f.cols.zip s[j].key).take r).all (kindV s[k].cols s[j].cols) = true) ∧ Row wr gz 94 #[.slice A9 f.cols.length c9, .string f.table, .int .i64 f.del, .int .i64 f.upd, .bool f.dfr] ∧ Sl IntR 1 ok wr A9 f.cols.length f.cols ∧ Below w.heap.size w wr) (fun i _ => f.cols.length - (intOf i).toNat)
              case atStart => exact ⟨0, by omega, rfl, Lib.hid (by simp), rf1.drewN _, hfc2.drewN IntR.stays _, hbd _⟩
              case round =>
                clear hbd hbc rf1 hfc2
                obtain ⟨r, hr', rfl, hall, hrf, hfc, hb⟩ := hrel
                obtain ⟨⟨f0, f1, f2, f3, f4⟩, -⟩ := hrf.five
                by_cases hlr : r < f.cols.length
                case neg =>
                  have e : (f.cols.zip s[j].key).take r = f.cols.zip s[j].key := List.take_of_length_le (by rw [HZ.out]; omega)
                  have g1 := hall.out
                  rw [e] at g1
                  have HA := Lib.hid (HSN4.out.trans (HE.out.trans g1))
                  clear e g1 hall
                  go_wp2_with fail
                  go_roundw
                  case rel => exact ⟨m + 1, by omega, by go_num, Lib.hid HA.out, hb⟩
                  case measure => simp [intOf]; omega
                case pos =>
                  have hlr2 : r < s[j].key.length := by have := HL.out; omega
                  obtain ⟨bq, offq, C1, e1, g1, C2, e2, g2, C3, e3, g3, C4, e4, g4, C5, e5, g5, -, eq, q0, q1, q2, q3, q4, q5, s1, -, -, -, -, -⟩ := TbR.at_ (hs.below TbR.stays hb) hlt
                  cases eq
                  obtain ⟨bj, offj, D1, m1, d1, D2, m2, d2, D3, m3, d3, D4, m4, d4, D5, m5, d5, -, ej, z0, z1', z2, z3, z4, z5, t1, t2, -, -, -, -⟩ := TbR.at_ (hs.below TbR.stays hb) hjl
                  cases ej
                  obtain rfl : s[j].key.length = m2 := t2.1
                  obtain rfl : s[k].cols.length = e1 := s1.1
                  obtain rfl : s[j].cols.length = m1 := t1.1
                  obtain ⟨bk, offk, -, ek, p0⟩ := IntR.at_ hfc hlr
                  subst ek
                  obtain ⟨bl, offl, -, el, p1⟩ := IntR.at_ t2 hlr2
                  subst el
                  have hi1 := HI1.out _ (List.getElem_mem hlr)
                  have hi2 := key_cols HTJ.out _ (List.getElem_mem hlr2)
                  have hsn := all_take (kindV s[k].cols s[j].cols) (f.cols.zip s[j].key) r (by rw [HZ.out]; exact hlr)
                  have hno := fun hf : kindV s[k].cols s[j].cols ((f.cols.zip s[j].key)[r]'(by rw [HZ.out]; exact hlr)) = false => all_no (kindV s[k].cols s[j].cols) (f.cols.zip s[j].key) r (by rw [HZ.out]; exact hlr) hf
                  obtain ⟨u1, hu1⟩ : ∃ j : Nat, f.cols[r] = (j : Int) := ⟨f.cols[r].toNat, by omega⟩
                  obtain ⟨u2, hu2⟩ : ∃ i : Nat, s[j].key[r] = (i : Int) := ⟨s[j].key[r].toNat, by omega⟩
                  rw [hu1] at p0 hi1
                  rw [hu2] at p1 hi2
                  have hjl1 : u1 < s[k].cols.length := by omega
                  have hjl2 : u2 < s[j].cols.length := by omega
                  have eg : kindV s[k].cols s[j].cols ((f.cols.zip s[j].key)[r]'(by rw [HZ.out]; exact hlr)) = (s[k].cols[u1].kind == s[j].cols[u2].kind) := by
                    rw [List.getElem_zip]; unfold kindV; simp only [hu1, hu2, kindAt_nat hjl1, kindAt_nat hjl2]
                  rw [hall.out, Bool.true_and, eg] at hsn
                  rw [eg] at hno
                  obtain ⟨bv, offv, -, ev, v0, v1, v2, v3, v4, v5⟩ := ClR.at_ s1 hjl1
                  subst ev
                  obtain ⟨bx, offx, -, ex, x0, x1, x2, x3, x4, x5⟩ := ClR.at_ t1 hjl2
                  subst ex
                  have r0 : (0 : Int) ≤ r := by omega
                  have r1 : (r : Int) < f.cols.length := by omega
                  have r2 : (r : Int) < s[j].key.length := by omega
                  have r3 : (0 : Int) ≤ u1 := by omega
                  have r4 : (u1 : Int) < s[k].cols.length := by omega
                  have r5 : (0 : Int) ≤ u2 := by omega
                  have r6 : (u2 : Int) < s[j].cols.length := by omega
                  clear eg hu1 hu2 hi1 hi2
                  cases hc : (s[k].cols[u1].kind == s[j].cols[u2].kind)
                  · have HF := Lib.hid (HNO3.out (by rw [HLD.out, HE.out]; exact hno hc))
                    have hc2 : (s[k].cols[u1].kind != s[j].cols[u2].kind) = true := by rw [bne, hc]; rfl
                    clear hsn hno hall
                    go_wp2_with fail
                    go_quiet (fail)
                    go_wp2_with fail
                    go_ret
                    exact ⟨retB HF.out.symm, below_drewN hb _⟩
                  · have HA := Lib.hid (hsn.trans hc)
                    have hc2 : (s[k].cols[u1].kind != s[j].cols[u2].kind) = false := by rw [bne, hc]; rfl
                    clear hsn hno hall
                    go_wp2_with fail
                    go_quiet (fail)
                    go_wp2_with fail
                    go_roundw
                    case rel => exact ⟨r + 1, by omega, by go_num, Lib.hid HA.out, hrf.drewN _, hfc.drewN IntR.stays _, below_drewN hb _⟩
                    case measure => simp [intOf]; omega
end Go.Proofs.YthafgkcokecnnaaGreat
namespace Go.Proofs.YthafgkcokecnnaaGreat
open Go.RowKit Go.Maps
set_option linter.unusedVariables false
set_option linter.unusedSimpArgs false

theorem ids_out {v last : Int} (hin : (decide (1 ≤ v) && decide (v ≤ 1000000000)) = false) (h0 : 0 ≤ last) (b : Bool) : (decide (last < v) && (decide (v ≤ 1000000000) && b)) = false := by
  rw [Bool.eq_false_iff]
  intro h
  simp only [Bool.and_eq_true, decide_eq_true_eq] at h
  rw [decide_eq_true (by omega), decide_eq_true h.2.1] at hin
  cases hin

end Go.Proofs.YthafgkcokecnnaaGreat
namespace Go.Proofs.YthafgkcokecnnaaGreat
open Go.RowKit Go.Maps
set_option linter.unusedVariables false
set_option linter.unusedSimpArgs false

end Go.Proofs.YthafgkcokecnnaaGreat
namespace Go.Proofs.YthafgkcokecnnaaGreat
open Go.RowKit Go.Maps
set_option linter.unusedVariables false
set_option linter.unusedSimpArgs false

/-- The Ids and whether each row has a truth. -/
def MadeL7 (wh : List Tk) (rows : List Rw) (w : World) : Ending → World → Prop := MadeF IntR 1 (if rows.all (truD wh) then matL wh rows else []) (rows.all (truD wh)) w

theorem match_l7 {s : List Tb} {db : List Dt} {m : Nat} {wh : List Tk} {rows : List Rw} (h : matchO s db (m : Int) wh = if rows.all (truD wh) then some (matL wh rows) else none) : (if rows.all (truD wh) then matL wh rows else []) = matchB s db (m : Int) wh ∧ rows.all (truD wh) = matchF s db (m : Int) wh := by
  unfold matchB matchF
  rw [h]
  cases rows.all (truD wh) <;> exact ⟨rfl, rfl⟩

end Go.Proofs.YthafgkcokecnnaaGreat
namespace Go.Proofs.YthafgkcokecnnaaGreat
open Go.RowKit Go.Maps
set_option linter.unusedVariables false
set_option linter.unusedSimpArgs false

/-- How the model asks the rest of a statement. -/
def finB (t : Tb) (x : Sq) : Bool :=
  if x.kind = 1 then decide (x.rows.length ≤ 8) && decide (x.wher.length + x.sets.length = 0)
  else if x.kind = 2 then whereB t.cols x.wher && decide (x.rows.length = 0)
  else if x.kind = 3 then whereB t.cols x.wher && decide (x.rows.length + x.sets.length = 0)
  else false
theorem stmtT_eq (t : Tb) (x : Sq) : stmtT t x = (x.rows.all (rowS t.cols) && (setsB t.cols.length x.sets && finB t x)) := by
  have hn : ∀ {α : Type} (l : List α), l.length = 0 → l = [] := fun l h => List.eq_nil_of_length_eq_zero h
  unfold stmtT finB insB
  by_cases k1 : x.kind = 1
  · simp only [k1, if_true]
    by_cases h : x.wher.length + x.sets.length = 0
    · have h1 : x.wher.length = 0 := by omega
      have h2 : x.sets.length = 0 := by omega
      rw [hn _ h2]
      simp [h1, setsB_nil, Bool.and_comm]
    · have h' : ¬ (x.wher.length = 0 ∧ x.sets.length = 0) := by omega
      rw [decide_eq_false h]
      by_cases h1 : x.wher.length = 0
      · have h2 : ¬ x.sets.length = 0 := by omega
        rw [decide_eq_false h2]; simp
      · rw [decide_eq_false h1]; simp
  · by_cases k2 : x.kind = 2
    · simp only [if_neg k1, k2, if_true]
      by_cases h : x.rows.length = 0
      · rw [hn _ h]; simp [Bool.and_comm]
      · rw [decide_eq_false h]; simp
    · by_cases k3 : x.kind = 3
      · simp only [if_neg k1, if_neg k2, k3, if_true]
        by_cases h : x.rows.length + x.sets.length = 0
        · have h1 : x.rows.length = 0 := by omega
          have h2 : x.sets.length = 0 := by omega
          rw [hn _ h1, hn _ h2]; simp [setsB_nil]
        · rw [decide_eq_false h]
          by_cases h1 : x.rows.length = 0
          · have h2 : ¬ x.sets.length = 0 := by omega
            rw [decide_eq_false h2]; simp
          · rw [decide_eq_false h1]; simp
      · simp only [if_neg k1, if_neg k2, if_neg k3]; simp

theorem setsB_col {n : Nat} {l : List Se} (h : colsGo n [] (l.map Se.col) = false) : setsB n l = false := by unfold setsB; rw [h]; simp

set_option maxRecDepth 100000 in
set_option maxHeartbeats 8000000 in
theorem specL7Stmt (AS AR AW AE : Option Addr) (nS cS nR cR nW cW nE cE : Nat) (s : List Tb) (x : Sq) (ok okr okw oke : Nat → Prop) (w : World)
    (hs : Sl TbR 6 ok w AS nS s) (hr : Sl RwR 2 okr w AR nR x.rows) (hw : Sl TkR 5 okw w AW nW x.wher) (he : Sl SeR 2 oke w AE nE x.sets) (hsz : szL Tb.sz s ≤ 1048576) (hx : x.sz ≤ 1048576) (hS : schemaB s = true) :
    Calls Tryz.prog 17 #[.slice AS nS cS, .agg #[.int .i64 x.kind, .string x.table, .slice AR nR cR, .slice AW nW cW, .slice AE nE cE, .int .i64 x.policy]] w fun e w' => e = .returned (.bool (stmtB s x)) ∧ Below w.heap.size w w' := by
  obtain rfl : s.length = nS := hs.1
  obtain rfl : x.rows.length = nR := hr.1
  obtain rfl : x.wher.length = nW := hw.1
  obtain rfl : x.sets.length = nE := he.1
  have hsn : s.length ≤ 1048576 := by unfold szL at hsz; omega
  have hrn : x.rows.length ≤ 1048576 := by unfold Sq.sz szL at hx; omega
  have hwn : x.wher.length ≤ 1048576 := by unfold Sq.sz szL at hx; omega
  have hen : x.sets.length ≤ 1048576 := by unfold Sq.sz szL at hx; omega
  have HVN := Lib.hid (show ∀ r ∈ x.rows, r.vals.length ≤ 1048576 from fun r hr => by
    have h1 := szL_mem Rw.sz x.rows r hr
    have h2 : r.vals.length ≤ r.sz := by unfold Rw.sz szL; omega
    unfold Sq.sz at hx
    omega)
  have HEN := Lib.hid (show ∀ z ∈ x.sets, z.expr.length ≤ 1048576 from fun z hz => by
    have h1 := szL_mem Se.sz x.sets z hz
    have h2 : z.expr.length ≤ z.sz := by unfold Se.sz szL; omega
    unfold Sq.sz at hx
    omega)
  have HSZ := Lib.hid hsz
  have HS := Lib.hid hS
  clear hsz hx hS
  have hb0 := (Below.refl w.heap.size w).alloc (Nat.le_refl _) (.cells #[.int .i64 x.kind, .string x.table, .slice AR x.rows.length cR, .slice AW x.wher.length cW, .slice AE x.sets.length cE, .int .i64 x.policy] 37)
  have RB := Lib.hid (Row.new w 37 #[.int .i64 x.kind, .string x.table, .slice AR x.rows.length cR, .slice AW x.wher.length cW, .slice AE x.sets.length cE, .int .i64 x.policy])
  obtain ⟨⟨b0, b1, b2, b3, b4, b5⟩, -⟩ := RB.out.all6
  rcases atN_nat (s := s) (nm := x.table) with hat | ⟨m, hat, hm⟩
  · have HAT := Lib.hid hat
    have HR := Lib.hid (show stmtB s x = false by unfold stmtB; rw [stmtA_no hat]; simp)
    clear hat
    go_enter Tryz.func17, Tryz.ntmps17
    go_wp2_with fail
    generalize w.alloc (.cells #[.int .i64 x.kind, .string x.table, .slice AR x.rows.length cR, .slice AW x.wher.length cW, .slice AE x.sets.length cE, .int .i64 x.policy] 37) = z0 at *
    refine (specL3At AS s.length cS s x.table _ _ (hs.below TbR.stays hb0) hsn).mono ?_
    rintro e w1 ⟨rfl, hb1⟩
    rw [HAT.out]
    go_wp2_with fail
    go_ret
    exact ⟨retB HR.out.symm, hb0.trans (hb1.mono hb0.size)⟩
  have HAT := Lib.hid hat
  have i0 : (0 : Int) ≤ m := by omega
  have i1 : (m : Int) < s.length := by omega
  have i2 : decide ((m : Int) < 0) = false := by rw [decide_eq_false_iff_not]; omega
  cases hP : polB x.policy
  · have HP := Lib.hid (show (decide (0 ≤ x.policy) && decide (x.policy ≤ 4)) = false from hP)
    have HR := Lib.hid (show stmtB s x = false by unfold stmtB; rw [hP]; simp)
    clear hP hat
    go_enter Tryz.func17, Tryz.ntmps17
    go_wp2_with fail
    generalize w.alloc (.cells #[.int .i64 x.kind, .string x.table, .slice AR x.rows.length cR, .slice AW x.wher.length cW, .slice AE x.sets.length cE, .int .i64 x.policy] 37) = z0 at *
    refine (specL3At AS s.length cS s x.table _ _ (hs.below TbR.stays hb0) hsn).mono ?_
    rintro e w1 ⟨rfl, hb1⟩
    rw [HAT.out]
    have hbz1 := hb0.trans (hb1.mono hb0.size)
    clear b0 b1 b2 b3 b4 b5
    obtain ⟨⟨b0, b1, b2, b3, b4, b5⟩, -⟩ := (RB.out.below hb1).all6
    go_wp2_with fail
    refine (specInK HP.out _).mono ?_
    rintro e w2 ⟨rfl, rfl⟩
    go_wp2_with fail
    go_ret
    exact ⟨retB HR.out.symm, hbz1⟩
  have HP := Lib.hid (show (decide (0 ≤ x.policy) && decide (x.policy ≤ 4)) = true from hP)
  have HT := Lib.hid (show stmtB s x = (x.rows.all (rowS s[m].cols) && (setsB s[m].cols.length x.sets && finB s[m] x)) by unfold stmtB; rw [HS.out, hP, stmtA_at hat hm, stmtT_eq]; rfl)
  have hc8 : s[m].cols.length ≤ 8 := by
    have h := HS.out
    simp only [schemaB, Bool.and_eq_true] at h
    have h5 := List.all_eq_true.1 h.2.1 _ (List.getElem_mem hm)
    simp only [tableB, Bool.and_eq_true, colsB, decide_eq_true_eq] at h5
    exact h5.2.1.2.1
  clear hP hat
  go_enter Tryz.func17, Tryz.ntmps17
  go_wp2_with fail
  generalize w.alloc (.cells #[.int .i64 x.kind, .string x.table, .slice AR x.rows.length cR, .slice AW x.wher.length cW, .slice AE x.sets.length cE, .int .i64 x.policy] 37) = z0 at *
  refine (specL3At AS s.length cS s x.table _ _ (hs.below TbR.stays hb0) hsn).mono ?_
  rintro e w1 ⟨rfl, hb1⟩
  rw [HAT.out]
  have hbz1 := hb0.trans (hb1.mono hb0.size)
  have RB1 := Lib.hid (RB.out.below hb1)
  clear b0 b1 b2 b3 b4 b5
  obtain ⟨⟨b0, b1, b2, b3, b4, b5⟩, -⟩ := RB1.out.all6
  go_wp2_with fail
  refine (specInK HP.out _).mono ?_
  rintro e w2 ⟨rfl, rfl⟩
  obtain ⟨b, off, A1, n1, d1, A2, n2, d2, A3, n3, d3, A4, n4, d4, A5, n5, d5, -, rfl, q0, q1, q2, q3, q4, q5, s1, -⟩ := TbR.at_ (hs.below TbR.stays hbz1) hm
  obtain rfl : s[m].cols.length = n1 := s1.1
  have hbt := hbz1.alloc hbz1.size (.cells #[.string s[m].name, .slice A1 s[m].cols.length d1, .slice A2 n2 d2, .slice A3 n3 d3, .slice A4 n4 d4, .slice A5 n5 d5] 59)
  have hlt1 := (Below.refl w1.heap.size w1).alloc (Nat.le_refl _) (.cells #[.string s[m].name, .slice A1 s[m].cols.length d1, .slice A2 n2 d2, .slice A3 n3 d3, .slice A4 n4 d4, .slice A5 n5 d5] 59)
  have RT := Lib.hid (Row.new w1 59 #[.string s[m].name, .slice A1 s[m].cols.length d1, .slice A2 n2 d2, .slice A3 n3 d3, .slice A4 n4 d4, .slice A5 n5 d5])
  have RX := Lib.hid (RB1.out.below hlt1)
  obtain ⟨⟨t0, t1, t2, t3, t4, t5⟩, -⟩ := RT.out.all6
  have s1b := (s1.below ClR.stays hlt1)
  have HG1 := Lib.hid hbz1.size
  have hrz := (hr.below RwR.stays hbz1).below RwR.stays hlt1
  have hwz := (hw.below TkR.stays hbz1).below TkR.stays hlt1
  have hez := (he.below SeR.stays hbz1).below SeR.stays hlt1
  clear b0 b1 b2 b3 b4 b5
  obtain ⟨⟨b0, b1, b2, b3, b4, b5⟩, -⟩ := RX.out.all6
  go_wp2_with fail
  generalize hgt : w1.heap.size = gt at *
  generalize w1.alloc (.cells #[.string s[m].name, .slice A1 s[m].cols.length d1, .slice A2 n2 d2, .slice A3 n3 d3, .slice A4 n4 d4, .slice A5 n5 d5] 59) = z1 at *
  clear hgt hlt1 q0 q1 q2 q3 q4 q5 hb1 hbz1 s1
  clear b0 b1 b2 b3 b4 b5 t0 t1 t2 t3 t4 t5
  go_loopw [8] (fun i wr => ∃ k : Nat, k ≤ x.rows.length ∧ i = .int .i64 k ∧ Hid ((x.rows.take k).all (rowS s[m].cols) = true) ∧ Row wr w.heap.size 37 #[.int .i64 x.kind, .string x.table, .slice AR x.rows.length cR, .slice AW x.wher.length cW, .slice AE x.sets.length cE, .int .i64 x.policy] ∧ Row wr gt 59 #[.string s[m].name, .slice A1 s[m].cols.length d1, .slice A2 n2 d2, .slice A3 n3 d3, .slice A4 n4 d4, .slice A5 n5 d5] ∧ Below z1.heap.size z1 wr) (fun i _ => x.rows.length - (intOf i).toNat)
  case atStart => exact ⟨0, by omega, rfl, Lib.hid (by simp), RX.out, RT.out, Below.refl _ _⟩
  case round =>
    obtain ⟨k, hk', rfl, hall, rx, rt, hb⟩ := hrel
    obtain ⟨⟨b0, b1, b2, b3, b4, b5⟩, -⟩ := rx.all6
    obtain ⟨⟨t0, t1, t2, t3, t4, t5⟩, -⟩ := rt.all6
    have HRX := Lib.hid rx
    have HRT := Lib.hid rt
    clear rx rt
    by_cases hlt : k < x.rows.length
    · obtain ⟨bl, ol, B1, k1, e1, -, rfl, z0', z1', hv, -⟩ := RwR.at_ (hrz.below RwR.stays hb) hlt
      obtain rfl : x.rows[k].vals.length = k1 := hv.1
      have i0' : (0 : Int) ≤ k := by omega
      have i1' : (k : Int) < x.rows.length := by omega
      have hst := all_take_succ (rowS s[m].cols) x.rows k hlt
      rw [hall.out, Bool.true_and] at hst
      have hno : rowS s[m].cols x.rows[k] = false → stmtB s x = false := fun hf => by
        rw [HT.out, show x.rows.all (rowS s[m].cols) = false by rw [List.all_eq_false]; exact ⟨x.rows[k], List.getElem_mem hlt, by simp [hf]⟩]; rfl
      have HC := Lib.hid (specKinds A1 B1 s[m].cols.length d1 x.rows[k].vals.length e1 (.string s[m].name) (.slice A2 n2 d2) (.slice A3 n3 d3) (.slice A4 n4 d4) (.slice A5 n5 d5) s[m].cols x.rows[k].vals _ wr.drew ((s1b.below ClR.stays hb).drew ClR.stays) (Sl.cellz (fun _ => rfl) (hv.drew VlR.stays)) (by omega) (HVN.out _ (List.getElem_mem hlt)))
      have hbk := hb.drew
      cases hf : kindsB s[m].cols x.rows[k].vals
      · have HF := Lib.hid (hno (by unfold rowS; rw [hf]; simp))
        have HK := Lib.hid hf
        clear hst hno hf
        go_wp2_with fail
        refine wp_region_noPanic ?_
        refine wp_region_held_drew (S := fun w' => w'.cell? ⟨w.heap.size, 2, none⟩ = some (.slice (some ⟨bl, ol, none⟩) x.rows.length cR) ∧ w'.cell? ⟨gt, 0, none⟩ = some (.string s[m].name) ∧ w'.cell? ⟨gt, 1, none⟩ = some (.slice A1 s[m].cols.length d1) ∧ w'.cell? ⟨gt, 2, none⟩ = some (.slice A2 n2 d2) ∧ w'.cell? ⟨gt, 3, none⟩ = some (.slice A3 n3 d3) ∧ w'.cell? ⟨gt, 4, none⟩ = some (.slice A4 n4 d4) ∧ w'.cell? ⟨gt, 5, none⟩ = some (.slice A5 n5 d5) ∧ w'.cell? ⟨bl, ol + k * 2, none⟩ = some (.int .i64 x.rows[k].id) ∧ w'.cell? ⟨bl, ol + k * 2 + 1, none⟩ = some (.slice B1 x.rows[k].vals.length e1)) (by kernel_rfl) ⟨b2, t0, t1, t2, t3, t4, t5, z0', z1'⟩ (fun hHeld => ?_)
        refine wpAnyH_take (i := 0) (v := ?v1) rfl (by kernel_rfl) (by kernel_rfl) (by kernel_rfl) (fun _ _ _ h => h) (Or.inl ⟨by rfl, ?hy1⟩) hHeld ?rest1
        case hy1 => (intro w' hSw; (try dsimp only at hSw); first | (go_simp; done) | (go_simp; with_reducible rfl))
        simp only [Act.put, List.getElem_toArray, List.getElem_cons_zero, List.getElem_cons_succ, List.setIfInBounds_toArray, List.set_cons_zero, List.set_cons_succ]
        refine wpAnyH_take (i := 1) (v := ?v2) rfl (by kernel_rfl) (by kernel_rfl) (by kernel_rfl) (fun _ _ _ h => h) (Or.inl ⟨by rfl, ?hy2⟩) hHeld ?rest2
        case hy2 => (intro w' hSw; (try dsimp only at hSw); first | (go_simp; done) | (go_simp; with_reducible rfl))
        simp only [Act.put, List.getElem_toArray, List.getElem_cons_zero, List.getElem_cons_succ, List.setIfInBounds_toArray, List.set_cons_zero, List.set_cons_succ]
        refine wpAnyH_take (i := 2) (v := ?v3) rfl (by kernel_rfl) (by kernel_rfl) (by kernel_rfl) (fun _ _ _ h => h) (Or.inl ⟨by rfl, ?hy3⟩) hHeld ?rest3
        case hy3 => (intro w' hSw; (try dsimp only at hSw); first | (go_simp; done) | (go_simp; with_reducible rfl))
        simp only [Act.put, List.getElem_toArray, List.getElem_cons_zero, List.getElem_cons_succ, List.setIfInBounds_toArray, List.set_cons_zero, List.set_cons_succ]
        refine wpAnyH_take (i := 3) (v := ?v4) rfl (by kernel_rfl) (by kernel_rfl) (by kernel_rfl) (fun _ _ _ h => h) (Or.inl ⟨by rfl, ?hy4⟩) hHeld ?rest4
        case hy4 => (intro w' hSw; (try dsimp only at hSw); first | (go_simp; done) | (go_simp; with_reducible rfl))
        simp only [Act.put, List.getElem_toArray, List.getElem_cons_zero, List.getElem_cons_succ, List.setIfInBounds_toArray, List.set_cons_zero, List.set_cons_succ]
        refine wpAnyH_take (i := 4) (v := ?v5) rfl (by kernel_rfl) (by kernel_rfl) (by kernel_rfl) (fun _ _ _ h => h) (Or.inl ⟨by rfl, ?hy5⟩) hHeld ?rest5
        case hy5 => (intro w' hSw; (try dsimp only at hSw); first | (go_simp; done) | (go_simp; with_reducible rfl))
        simp only [Act.put, List.getElem_toArray, List.getElem_cons_zero, List.getElem_cons_succ, List.setIfInBounds_toArray, List.set_cons_zero, List.set_cons_succ]
        refine wpAnyH_take (i := 5) (v := ?v6) rfl (by kernel_rfl) (by kernel_rfl) (by kernel_rfl) (fun _ _ _ h => h) (Or.inl ⟨by rfl, ?hy6⟩) hHeld ?rest6
        case hy6 => (intro w' hSw; (try dsimp only at hSw); first | (go_simp; done) | (go_simp; with_reducible rfl))
        simp only [Act.put, List.getElem_toArray, List.getElem_cons_zero, List.getElem_cons_succ, List.setIfInBounds_toArray, List.set_cons_zero, List.set_cons_succ]
        refine wpAnyH_take (i := 6) (v := ?v7) rfl (by kernel_rfl) (by kernel_rfl) (by kernel_rfl) (fun _ _ _ h => h) (Or.inl ⟨by rfl, ?hy7⟩) hHeld ?rest7
        case hy7 => (intro w' hSw; (try dsimp only at hSw); first | (go_simp; done) | (go_simp; with_reducible rfl))
        simp only [Act.put, List.getElem_toArray, List.getElem_cons_zero, List.getElem_cons_succ, List.setIfInBounds_toArray, List.set_cons_zero, List.set_cons_succ]
        refine wpAnyH_ready (rs := [7]) (by kernel_rfl) (by simp) ?_
        refine AllReadyH.cons rfl (fun K hK => ?_) AllReadyH.nil
        go_simp
        refine HC.out.mono ?_
        rintro e w9 ⟨rfl, hb9⟩
        rw [HK.out]
        go_wp2_with fail
        refine hK.out _ _ ⟨below_keep hb9 _ _ hHeld.1, below_keep hb9 _ _ hHeld.2.1, below_keep hb9 _ _ hHeld.2.2.1, below_keep hb9 _ _ hHeld.2.2.2.1, below_keep hb9 _ _ hHeld.2.2.2.2.1, below_keep hb9 _ _ hHeld.2.2.2.2.2.1, below_keep hb9 _ _ hHeld.2.2.2.2.2.2.1, below_keep hb9 _ _ hHeld.2.2.2.2.2.2.2.1, below_keep hb9 _ _ hHeld.2.2.2.2.2.2.2.2⟩ (fun hHeld => ?_)
        clear hK K
        (try simp only [Act.put, List.getElem_toArray, List.getElem_cons_zero, List.getElem_cons_succ, List.setIfInBounds_toArray, List.set_cons_zero, List.set_cons_succ])
        refine wpAnyH_take (i := 8) (v := ?v8) rfl (by kernel_rfl) (by kernel_rfl) (by kernel_rfl) (fun _ _ _ h => h) (Or.inl ⟨by rfl, ?hy8⟩) hHeld ?rest8
        case hy8 => (intro w' hSw; (try dsimp only at hSw); first | (go_simp; done) | (go_simp; with_reducible rfl))
        simp only [Act.put, List.getElem_toArray, List.getElem_cons_zero, List.getElem_cons_succ, List.setIfInBounds_toArray, List.set_cons_zero, List.set_cons_succ]
        refine wpAnyH_take (i := 9) (v := ?v9) rfl (by kernel_rfl) (by kernel_rfl) (by kernel_rfl) (fun _ _ _ h => h) (Or.inl ⟨by rfl, ?hy9⟩) hHeld ?rest9
        case hy9 => (intro w' hSw; (try dsimp only at hSw); first | (go_simp; done) | (go_simp; with_reducible rfl))
        simp only [Act.put, List.getElem_toArray, List.getElem_cons_zero, List.getElem_cons_succ, List.setIfInBounds_toArray, List.set_cons_zero, List.set_cons_succ]
        refine wpAnyH_take (i := 10) (v := undef) rfl (by kernel_rfl) (by kernel_rfl) (by kernel_rfl) (fun _ _ _ h => h) (Or.inr ⟨by rfl, rfl⟩) hHeld ?_
        simp only [Act.put, List.getElem_toArray, List.getElem_cons_zero, List.getElem_cons_succ, List.setIfInBounds_toArray, List.set_cons_zero, List.set_cons_succ]
        refine wpAnyH_take (i := 11) (v := undef) rfl (by kernel_rfl) (by kernel_rfl) (by kernel_rfl) (fun _ _ _ h => h) (Or.inr ⟨by rfl, rfl⟩) hHeld ?_
        simp only [Act.put, List.getElem_toArray, List.getElem_cons_zero, List.getElem_cons_succ, List.setIfInBounds_toArray, List.set_cons_zero, List.set_cons_succ]
        refine wpAnyH_take (i := 12) (v := undef) rfl (by kernel_rfl) (by kernel_rfl) (by kernel_rfl) (fun _ _ _ h => h) (Or.inr ⟨by rfl, rfl⟩) hHeld ?_
        simp only [Act.put, List.getElem_toArray, List.getElem_cons_zero, List.getElem_cons_succ, List.setIfInBounds_toArray, List.set_cons_zero, List.set_cons_succ]
        refine wpAnyH_take (i := 13) (v := undef) rfl (by kernel_rfl) (by kernel_rfl) (by kernel_rfl) (fun _ _ _ h => h) (Or.inr ⟨by rfl, rfl⟩) hHeld ?_
        simp only [Act.put, List.getElem_toArray, List.getElem_cons_zero, List.getElem_cons_succ, List.setIfInBounds_toArray, List.set_cons_zero, List.set_cons_succ]
        refine wpAnyH_take (i := 14) (v := undef) rfl (by kernel_rfl) (by kernel_rfl) (by kernel_rfl) (fun _ _ _ h => h) (Or.inr ⟨by rfl, rfl⟩) hHeld ?_
        simp only [Act.put, List.getElem_toArray, List.getElem_cons_zero, List.getElem_cons_succ, List.setIfInBounds_toArray, List.set_cons_zero, List.set_cons_succ]
        refine wpAnyH_take (i := 15) (v := undef) rfl (by kernel_rfl) (by kernel_rfl) (by kernel_rfl) (fun _ _ _ h => h) (Or.inr ⟨by rfl, rfl⟩) hHeld ?_
        simp only [Act.put, List.getElem_toArray, List.getElem_cons_zero, List.getElem_cons_succ, List.setIfInBounds_toArray, List.set_cons_zero, List.set_cons_succ]
        refine wpAnyH_take (i := 16) (v := undef) rfl (by kernel_rfl) (by kernel_rfl) (by kernel_rfl) (fun _ _ _ h => h) (Or.inr ⟨by rfl, rfl⟩) hHeld ?_
        simp only [Act.put, List.getElem_toArray, List.getElem_cons_zero, List.getElem_cons_succ, List.setIfInBounds_toArray, List.set_cons_zero, List.set_cons_succ]
        refine wpAnyH_take (i := 17) (v := ?v10) rfl (by kernel_rfl) (by kernel_rfl) (by kernel_rfl) (fun _ _ _ h => h) (Or.inl ⟨by rfl, ?hy10⟩) hHeld ?rest10
        case hy10 => (intro w' hSw; (try dsimp only at hSw); first | (go_simp; done) | (go_simp; with_reducible rfl))
        simp only [Act.put, List.getElem_toArray, List.getElem_cons_zero, List.getElem_cons_succ, List.setIfInBounds_toArray, List.set_cons_zero, List.set_cons_succ]
        refine wpAnyH_done (by kernel_rfl) ?_ _
        refine NoPanic.normal ?_
        clear hHeld
        go_wp2_with fail
        go_ret
        exact ⟨retB HF.out.symm, hbt.trans ((hbk.trans (hb9.mono hbk.size)).mono hbt.size)⟩
      · have HK := Lib.hid hf
        cases hid : (x.rows[k].id == 0)
        · have HF := Lib.hid (hno (by unfold rowS; rw [hid]; rfl))
          clear hst hno hf
          go_wp2_with fail
          first
          | (go_region_held3 (fun w' => w'.cell? ⟨w.heap.size, 2, none⟩ = some (.slice (some ⟨bl, ol, none⟩) x.rows.length cR) ∧ w'.cell? ⟨gt, 0, none⟩ = some (.string s[m].name) ∧ w'.cell? ⟨gt, 1, none⟩ = some (.slice A1 s[m].cols.length d1) ∧ w'.cell? ⟨gt, 2, none⟩ = some (.slice A2 n2 d2) ∧ w'.cell? ⟨gt, 3, none⟩ = some (.slice A3 n3 d3) ∧ w'.cell? ⟨gt, 4, none⟩ = some (.slice A4 n4 d4) ∧ w'.cell? ⟨gt, 5, none⟩ = some (.slice A5 n5 d5) ∧ w'.cell? ⟨bl, ol + k * 2, none⟩ = some (.int .i64 x.rows[k].id) ∧ w'.cell? ⟨bl, ol + k * 2 + 1, none⟩ = some (.slice B1 x.rows[k].vals.length e1))
              (first | go_keep | exact ⟨below_keep hb9 _ _ b2, below_keep hb9 _ _ t0, below_keep hb9 _ _ t1, below_keep hb9 _ _ t2, below_keep hb9 _ _ t3, below_keep hb9 _ _ t4, below_keep hb9 _ _ t5, below_keep hb9 _ _ z0', below_keep hb9 _ _ z1'⟩)
              (first | (go_at_call 44; refine HC.out.mono ?_; rintro e w9 ⟨rfl, hb9⟩; rw [HK.out])))
          | fail
          go_wp2_with fail
          go_ret
          exact ⟨retB HF.out.symm, hbt.trans ((hbk.trans (hb9.mono hbk.size)).mono hbt.size)⟩
        · have HA := Lib.hid (show (x.rows.take (k + 1)).all (rowS s[m].cols) = true by rw [hst]; unfold rowS; rw [hid, hf]; rfl)
          clear hst hno hf
          go_wp2_with fail
          first
          | (go_region_held3 (fun w' => w'.cell? ⟨w.heap.size, 2, none⟩ = some (.slice (some ⟨bl, ol, none⟩) x.rows.length cR) ∧ w'.cell? ⟨gt, 0, none⟩ = some (.string s[m].name) ∧ w'.cell? ⟨gt, 1, none⟩ = some (.slice A1 s[m].cols.length d1) ∧ w'.cell? ⟨gt, 2, none⟩ = some (.slice A2 n2 d2) ∧ w'.cell? ⟨gt, 3, none⟩ = some (.slice A3 n3 d3) ∧ w'.cell? ⟨gt, 4, none⟩ = some (.slice A4 n4 d4) ∧ w'.cell? ⟨gt, 5, none⟩ = some (.slice A5 n5 d5) ∧ w'.cell? ⟨bl, ol + k * 2, none⟩ = some (.int .i64 x.rows[k].id) ∧ w'.cell? ⟨bl, ol + k * 2 + 1, none⟩ = some (.slice B1 x.rows[k].vals.length e1))
              (first | go_keep | exact ⟨below_keep hb9 _ _ b2, below_keep hb9 _ _ t0, below_keep hb9 _ _ t1, below_keep hb9 _ _ t2, below_keep hb9 _ _ t3, below_keep hb9 _ _ t4, below_keep hb9 _ _ t5, below_keep hb9 _ _ z0', below_keep hb9 _ _ z1'⟩)
              (first | (go_at_call 44; refine HC.out.mono ?_; rintro e w9 ⟨rfl, hb9⟩; rw [HK.out])))
          | fail
          go_wp2_with fail
          go_roundw
          case rel => exact ⟨k + 1, by omega, by go_num, HA, (HRX.out.drew).below hb9, (HRT.out.drew).below hb9, hbk.trans (hb9.mono hbk.size)⟩
          case measure => simp [intOf]; omega
    · obtain rfl : k = x.rows.length := by omega
      have ha := hall.out
      rw [List.take_of_length_le (Nat.le_refl _)] at ha
      have HT2 := Lib.hid (show stmtB s x = (setsB s[m].cols.length x.sets && finB s[m] x) by rw [HT.out, ha]; rfl)
      clear hall ha
      have i3 : IntKind.i64.wrap ((s[m].cols.length : Int) - 1) = (s[m].cols.length : Int) - 1 := IntWalk.i64_in _ (by omega)
      have hbA := hb
      clear hb
      go_wp2_with fail
      go_loopw [9] (fun i wq => ∃ k : Nat, k ≤ x.sets.length ∧ i = .int .i64 k ∧ Hid ((x.sets.take k).all (setE s[m].cols.length) = true) ∧ Hid (colsGo s[m].cols.length [] (x.sets.map Se.col) = colsGo s[m].cols.length ((x.sets.map Se.col).take k) ((x.sets.map Se.col).drop k)) ∧ Row wq w.heap.size 37 #[.int .i64 x.kind, .string x.table, .slice AR x.rows.length cR, .slice AW x.wher.length cW, .slice AE x.sets.length cE, .int .i64 x.policy] ∧ Row wq gt 59 #[.string s[m].name, .slice A1 s[m].cols.length d1, .slice A2 n2 d2, .slice A3 n3 d3, .slice A4 n4 d4, .slice A5 n5 d5] ∧ Below z1.heap.size z1 wq) (fun i _ => x.sets.length - (intOf i).toNat)
      case atStart => exact ⟨0, by omega, rfl, Lib.hid (by simp), Lib.hid (by simp), HRX.out, HRT.out, hbA⟩
      case round =>
        clear hbA HRX HRT b0 b1 b2 b3 b4 b5 t0 t1 t2 t3 t4 t5
        obtain ⟨k, hk', rfl, hall, hgo, rx, rt, hb⟩ := hrel
        obtain ⟨⟨b0, b1, b2, b3, b4, b5⟩, -⟩ := rx.all6
        obtain ⟨⟨t0, t1, t2, t3, t4, t5⟩, -⟩ := rt.all6
        have HRX := Lib.hid rx
        have HRT := Lib.hid rt
        clear rx rt
        by_cases hlt : k < x.sets.length
        · obtain ⟨bl, ol, B1, k1, e1, -, rfl, z0', z1', hv, -⟩ := SeR.at_ (hez.below SeR.stays hb) hlt
          obtain rfl : x.sets[k].expr.length = k1 := hv.1
          have i0' : (0 : Int) ≤ k := by omega
          have i1' : (k : Int) < x.sets.length := by omega
          have hkL : k < (x.sets.map Se.col).length := by rw [List.length_map]; exact hlt
          have hst := all_take_succ (setE s[m].cols.length) x.sets k hlt
          rw [hall.out, Bool.true_and] at hst
          have hco := colsGo_at s[m].cols.length (x.sets.map Se.col) k hkL
          rw [List.getElem_map] at hco
          have hnoC : colsGo s[m].cols.length ((x.sets.map Se.col).take k) ((x.sets.map Se.col).drop k) = false → stmtB s x = false := fun hf => by rw [HT2.out, setsB_col (hgo.out.trans hf)]; rfl
          have hnoE : exprB x.sets[k].expr s[m].cols.length = false → stmtB s x = false := fun hf => by rw [HT2.out, setsB_no hlt hf]; rfl
          have HL2 := Lib.hid (exprB_l2n (ts := x.sets[k].expr) (n := s[m].cols.length) (by omega))
          cases hin : (decide (0 ≤ x.sets[k].col) && decide (x.sets[k].col ≤ (s[m].cols.length : Int) - 1))
          · have HI := Lib.hid hin
            have HF := Lib.hid (hnoC (by
              rw [hco, show (decide (0 ≤ x.sets[k].col) && decide (x.sets[k].col < (s[m].cols.length : Int))) = false by rw [← hin]; congr 1; rw [decide_eq_decide]; omega]
              simp))
            clear hst hco hnoC hnoE hin
            go_wp2_with fail
            refine (specInK HI.out _).mono ?_
            rintro e w4 ⟨rfl, rfl⟩
            go_wp2_with fail
            go_ret
            exact ⟨retB HF.out.symm, hbt.trans (hb.mono hbt.size)⟩
          · have HI := Lib.hid hin
            have HIn := Lib.hid (show (decide (0 ≤ x.sets[k].col) && decide (x.sets[k].col < (s[m].cols.length : Int))) = true by rw [← hin]; congr 1; rw [decide_eq_decide]; omega)
            have HC := Lib.hid (specL2Expr B1 x.sets[k].expr.length e1 x.sets[k].expr (s[m].cols.length : Int) wr (Sl.cellz (fun _ => rfl) hv) (by have := HEN.out _ (List.getElem_mem hlt); unfold maxLen; omega) (by omega) (by omega))
            clear hin
            cases he2 : l2B x.sets[k].expr s[m].cols.length
            · have HE := Lib.hid he2
              have HF := Lib.hid (hnoE (HL2.out.trans he2))
              clear hst hco hnoC hnoE he2
              go_wp2_with fail
              refine (specInK HI.out _).mono ?_
              rintro e w4 ⟨rfl, rfl⟩
              go_wp2_with fail
              refine HC.out.mono ?_
              rintro e w5 ⟨rfl, hb5⟩
              rw [HE.out]
              go_wp2_with fail
              go_ret
              exact ⟨retB HF.out.symm, hbt.trans ((hb.trans (hb5.mono hb.size)).mono hbt.size)⟩
            · have HE := Lib.hid he2
              have HA := Lib.hid (show (x.sets.take (k + 1)).all (setE s[m].cols.length) = true by rw [hst]; exact HL2.out.trans he2)
              have HCO := Lib.hid hco
              have HNC := Lib.hid hnoC
              clear hst hco hnoC hnoE he2
              go_wp2_with fail
              refine (specInK HI.out _).mono ?_
              rintro e w4 ⟨rfl, rfl⟩
              go_wp2_with fail
              refine HC.out.mono ?_
              rintro e w5 ⟨rfl, hb5⟩
              rw [HE.out]
              have hbq := hb.trans (hb5.mono hb.size)
              have HX5 := Lib.hid (HRX.out.below hb5)
              have HT5 := Lib.hid (HRT.out.below hb5)
              clear HRX HRT hb hb5 HC z0' z1' hv b0 b1 b2 b3 b4 b5 t0 t1 t2 t3 t4 t5
              go_wp2_with fail
              go_loopw [10] (fun i wp => ∃ j : Nat, j ≤ k ∧ i = .int .i64 j ∧ Hid (hasB ((x.sets.map Se.col).take j) x.sets[k].col = false) ∧ Row wp w.heap.size 37 #[.int .i64 x.kind, .string x.table, .slice AR x.rows.length cR, .slice AW x.wher.length cW, .slice (some ⟨bl, ol, none⟩) x.sets.length cE, .int .i64 x.policy] ∧ Row wp gt 59 #[.string s[m].name, .slice A1 s[m].cols.length d1, .slice A2 n2 d2, .slice A3 n3 d3, .slice A4 n4 d4, .slice A5 n5 d5] ∧ Below z1.heap.size z1 wp) (fun i _ => k - (intOf i).toNat)
              case atStart => exact ⟨0, by omega, rfl, Lib.hid rfl, HX5.out, HT5.out, hbq⟩
              case round =>
                clear hbq HX5 HT5
                obtain ⟨j, hj, rfl, hno, rx, rt, hb⟩ := hrel
                obtain ⟨⟨b0, b1, b2, b3, b4, b5⟩, -⟩ := rx.all6
                have HRX := Lib.hid rx
                have HRT := Lib.hid rt
                clear rx rt
                by_cases hjk : j < k
                · obtain ⟨bl, ol, B1, k1, e1, -, ea, y0, -⟩ := SeR.at_ (hez.below SeR.stays hb) (i := j) (by omega)
                  obtain ⟨bl', ol', B2, k2, e2', -, ea', y1, -⟩ := SeR.at_ (hez.below SeR.stays hb) hlt
                  cases ea
                  cases ea'
                  have j0 : (0 : Int) ≤ j := by omega
                  have j1 : (j : Int) < x.sets.length := by omega
                  have hct := contains_take (x.sets.map Se.col) x.sets[k].col j (by rw [List.length_map]; omega)
                  rw [hno.out, Bool.false_or, List.getElem_map] at hct
                  cases heq : (x.sets[j].col == x.sets[k].col)
                  · have HNO := Lib.hid (hct.trans heq)
                    clear hct
                    go_wp2_with fail
                    go_quiet (fail)
                    go_wp2_with fail
                    go_roundw
                    case rel => exact ⟨j + 1, by omega, by go_num, HNO, HRX.out.drewN _, HRT.out.drewN _, below_dN hb _⟩
                    case measure => simp [intOf]; omega
                  · have HF := Lib.hid (HNC.out (by
                      rw [HCO.out, show hasB ((x.sets.map Se.col).take k) x.sets[k].col = true by
                        have e : x.sets[j].col = x.sets[k].col := by simpa using heq
                        unfold hasB
                        rw [List.contains_iff_mem, ← e, List.mem_iff_getElem]
                        exact ⟨j, by rw [List.length_take, List.length_map]; omega, by simp⟩]
                      simp))
                    clear hct
                    go_wp2_with fail
                    go_quiet (fail)
                    go_wp2_with fail
                    go_ret
                    exact ⟨retB HF.out.symm, hbt.trans ((below_dN hb _).mono hbt.size)⟩
                · obtain rfl : j = k := by omega
                  have HG2 := Lib.hid (show colsGo s[m].cols.length [] (x.sets.map Se.col) = colsGo s[m].cols.length ((x.sets.map Se.col).take (j + 1)) ((x.sets.map Se.col).drop (j + 1)) by rw [hgo.out, HCO.out, HIn.out, hno.out]; simp)
                  go_wp2_with fail
                  go_roundw
                  case rel => exact ⟨j + 1, by omega, by go_num, HA, HG2, HRX.out, HRT.out, hb⟩
                  case measure => simp [intOf]; omega
        · obtain rfl : k = x.sets.length := by omega
          have ha := hall.out
          have hg := hgo.out
          rw [List.take_of_length_le (Nat.le_refl _)] at ha
          rw [List.drop_eq_nil_of_le (by rw [List.length_map]; exact Nat.le_refl _)] at hg
          have HT3 := Lib.hid (show stmtB s x = finB s[m] x by rw [HT2.out, show setsB s[m].cols.length x.sets = true by unfold setsB; rw [ha, hg]; rfl]; rfl)
          have hwq := hwz.below TkR.stays hb
          have HWE := Lib.hid (exprB_l2n (ts := x.wher) (n := s[m].cols.length) (by omega))
          clear hall hgo ha hg
          by_cases w0 : x.wher.length = 0
          case pos =>
            have w0' : ((x.wher.length : Int) == 0) = true := by rw [beq_iff_eq]; omega
            have hW : whereB s[m].cols x.wher = true := by unfold whereB; rw [decide_eq_true w0]; rfl
            by_cases k1 : x.kind = 1
            case pos =>
              have kk1 : (x.kind == 1) = true := by simpa using k1
              by_cases r8 : x.rows.length ≤ 8
              case neg =>
                have e8 : decide ((x.rows.length : Int) ≤ 8) = false := by rw [decide_eq_false_iff_not]; omega
                have HR := Lib.hid (show stmtB s x = false by rw [HT3.out]; unfold finB; rw [if_pos k1, decide_eq_false r8]; (try rfl))
                clear hW k1 r8 w0
                go_wp2_with fail
                go_ret
                exact ⟨retB HR.out.symm, hbt.trans (hb.mono hbt.size)⟩
              have e8 : decide ((x.rows.length : Int) ≤ 8) = true := by rw [decide_eq_true_iff]; omega
              have ew : IntKind.i64.wrap ((x.wher.length : Int) + x.sets.length) = (x.wher.length : Int) + x.sets.length := IntWalk.i64_in _ (by omega)
              by_cases s0 : x.wher.length + x.sets.length = 0
              case neg =>
                have es : ((x.wher.length : Int) + x.sets.length == 0) = false := by rw [beq_eq_false_iff_ne]; omega
                have s0' : ¬ (x.wher.length = 0 ∧ x.sets.length = 0) := by omega
                have HR := Lib.hid (show stmtB s x = false by rw [HT3.out]; unfold finB; rw [if_pos k1, decide_eq_true r8, decide_eq_false s0]; (try rfl))
                clear hW k1 r8 s0 w0
                go_wp2_with fail
                go_ret
                exact ⟨retB HR.out.symm, hbt.trans (hb.mono hbt.size)⟩
              case pos =>
                have es : ((x.wher.length : Int) + x.sets.length == 0) = true := by rw [beq_iff_eq]; omega
                have s1' : x.wher.length = 0 ∧ x.sets.length = 0 := by omega
                have HR := Lib.hid (show stmtB s x = true by rw [HT3.out]; unfold finB; rw [if_pos k1, decide_eq_true r8, decide_eq_true s0]; (try rfl))
                clear hW k1 r8 s0 w0
                go_wp2_with fail
                go_ret
                exact ⟨retB HR.out.symm, hbt.trans (hb.mono hbt.size)⟩
            have kk1 : (x.kind == 1) = false := by simpa using k1
            by_cases k2 : x.kind = 2
            case pos =>
              have kk2 : (x.kind == 2) = true := by simpa using k2
              by_cases r0 : x.rows.length = 0
              case neg =>
                have er : ((x.rows.length : Int) == 0) = false := by rw [beq_eq_false_iff_ne]; omega
                have HR := Lib.hid (show stmtB s x = false by rw [HT3.out]; unfold finB; rw [if_neg k1, if_pos k2, hW, decide_eq_false r0]; (try rfl))
                clear hW k1 k2 r0 w0
                go_wp2_with fail
                go_ret
                exact ⟨retB HR.out.symm, hbt.trans (hb.mono hbt.size)⟩
              case pos =>
                have er : ((x.rows.length : Int) == 0) = true := by rw [beq_iff_eq]; omega
                have HR := Lib.hid (show stmtB s x = true by rw [HT3.out]; unfold finB; rw [if_neg k1, if_pos k2, hW, decide_eq_true r0]; (try rfl))
                clear hW k1 k2 r0 w0
                go_wp2_with fail
                go_ret
                exact ⟨retB HR.out.symm, hbt.trans (hb.mono hbt.size)⟩
            have kk2 : (x.kind == 2) = false := by simpa using k2
            by_cases k3 : x.kind = 3
            case pos =>
              have kk3 : (x.kind == 3) = true := by simpa using k3
              have ew : IntKind.i64.wrap ((x.rows.length : Int) + x.sets.length) = (x.rows.length : Int) + x.sets.length := IntWalk.i64_in _ (by omega)
              by_cases s0 : x.rows.length + x.sets.length = 0
              case neg =>
                have es : ((x.rows.length : Int) + x.sets.length == 0) = false := by rw [beq_eq_false_iff_ne]; omega
                have s0' : ¬ (x.rows.length = 0 ∧ x.sets.length = 0) := by omega
                have HR := Lib.hid (show stmtB s x = false by rw [HT3.out]; unfold finB; rw [if_neg k1, if_neg k2, if_pos k3, hW, decide_eq_false s0]; (try rfl))
                clear hW k1 k2 k3 s0 w0
                go_wp2_with fail
                go_ret
                exact ⟨retB HR.out.symm, hbt.trans (hb.mono hbt.size)⟩
              case pos =>
                have es : ((x.rows.length : Int) + x.sets.length == 0) = true := by rw [beq_iff_eq]; omega
                have s1' : x.rows.length = 0 ∧ x.sets.length = 0 := by omega
                have HR := Lib.hid (show stmtB s x = true by rw [HT3.out]; unfold finB; rw [if_neg k1, if_neg k2, if_pos k3, hW, decide_eq_true s0]; (try rfl))
                clear hW k1 k2 k3 s0 w0
                go_wp2_with fail
                go_ret
                exact ⟨retB HR.out.symm, hbt.trans (hb.mono hbt.size)⟩
            case neg =>
              have kk3 : (x.kind == 3) = false := by simpa using k3
              have HR := Lib.hid (show stmtB s x = false by rw [HT3.out]; unfold finB; rw [if_neg k1, if_neg k2, if_neg k3]; (try rfl))
              clear hW k1 k2 k3 w0
              go_wp2_with fail
              go_ret
              exact ⟨retB HR.out.symm, hbt.trans (hb.mono hbt.size)⟩
          have w0' : ((x.wher.length : Int) == 0) = false := by rw [beq_eq_false_iff_ne]; omega
          cases hl : l2B x.wher s[m].cols.length
          · have HW2 := Lib.hid hl
            have hW : whereB s[m].cols x.wher = false := by unfold whereB; rw [decide_eq_false w0, HWE.out, hl]; rfl
            clear hl
            by_cases k1 : x.kind = 1
            case pos =>
              have kk1 : (x.kind == 1) = true := by simpa using k1
              by_cases r8 : x.rows.length ≤ 8
              case neg =>
                have e8 : decide ((x.rows.length : Int) ≤ 8) = false := by rw [decide_eq_false_iff_not]; omega
                have HR := Lib.hid (show stmtB s x = false by rw [HT3.out]; unfold finB; rw [if_pos k1, decide_eq_false r8]; (try rfl))
                clear hW k1 r8 w0
                go_wp2_with fail
                refine (specL2Expr AW x.wher.length cW x.wher (s[m].cols.length : Int) _ (Sl.cellz (fun _ => rfl) hwq) (by unfold maxLen; omega) (by omega) (by omega)).mono ?_
                rintro e w6 ⟨rfl, hb6⟩
                rw [HW2.out]
                obtain ⟨⟨g0, g1, g2, g3, g4, g5⟩, -⟩ := (HRX.out.below hb6).all6
                have hb := hb.trans (hb6.mono hb.size)
                clear hb6
                go_wp2_with fail
                go_ret
                exact ⟨retB HR.out.symm, hbt.trans (hb.mono hbt.size)⟩
              have e8 : decide ((x.rows.length : Int) ≤ 8) = true := by rw [decide_eq_true_iff]; omega
              have ew : IntKind.i64.wrap ((x.wher.length : Int) + x.sets.length) = (x.wher.length : Int) + x.sets.length := IntWalk.i64_in _ (by omega)
              by_cases s0 : x.wher.length + x.sets.length = 0
              case neg =>
                have es : ((x.wher.length : Int) + x.sets.length == 0) = false := by rw [beq_eq_false_iff_ne]; omega
                have s0' : ¬ (x.wher.length = 0 ∧ x.sets.length = 0) := by omega
                have HR := Lib.hid (show stmtB s x = false by rw [HT3.out]; unfold finB; rw [if_pos k1, decide_eq_true r8, decide_eq_false s0]; (try rfl))
                clear hW k1 r8 s0 w0
                go_wp2_with fail
                refine (specL2Expr AW x.wher.length cW x.wher (s[m].cols.length : Int) _ (Sl.cellz (fun _ => rfl) hwq) (by unfold maxLen; omega) (by omega) (by omega)).mono ?_
                rintro e w6 ⟨rfl, hb6⟩
                rw [HW2.out]
                obtain ⟨⟨g0, g1, g2, g3, g4, g5⟩, -⟩ := (HRX.out.below hb6).all6
                have hb := hb.trans (hb6.mono hb.size)
                clear hb6
                go_wp2_with fail
                go_ret
                exact ⟨retB HR.out.symm, hbt.trans (hb.mono hbt.size)⟩
              case pos =>
                exact absurd (by omega) w0
            have kk1 : (x.kind == 1) = false := by simpa using k1
            by_cases k2 : x.kind = 2
            case pos =>
              have kk2 : (x.kind == 2) = true := by simpa using k2
              by_cases r0 : x.rows.length = 0
              case neg =>
                have er : ((x.rows.length : Int) == 0) = false := by rw [beq_eq_false_iff_ne]; omega
                have HR := Lib.hid (show stmtB s x = false by rw [HT3.out]; unfold finB; rw [if_neg k1, if_pos k2, hW, decide_eq_false r0]; (try rfl))
                clear hW k1 k2 r0 w0
                go_wp2_with fail
                refine (specL2Expr AW x.wher.length cW x.wher (s[m].cols.length : Int) _ (Sl.cellz (fun _ => rfl) hwq) (by unfold maxLen; omega) (by omega) (by omega)).mono ?_
                rintro e w6 ⟨rfl, hb6⟩
                rw [HW2.out]
                obtain ⟨⟨g0, g1, g2, g3, g4, g5⟩, -⟩ := (HRX.out.below hb6).all6
                have hb := hb.trans (hb6.mono hb.size)
                clear hb6
                go_wp2_with fail
                go_ret
                exact ⟨retB HR.out.symm, hbt.trans (hb.mono hbt.size)⟩
              case pos =>
                have er : ((x.rows.length : Int) == 0) = true := by rw [beq_iff_eq]; omega
                have HR := Lib.hid (show stmtB s x = false by rw [HT3.out]; unfold finB; rw [if_neg k1, if_pos k2, hW, decide_eq_true r0]; (try rfl))
                clear hW k1 k2 r0 w0
                go_wp2_with fail
                refine (specL2Expr AW x.wher.length cW x.wher (s[m].cols.length : Int) _ (Sl.cellz (fun _ => rfl) hwq) (by unfold maxLen; omega) (by omega) (by omega)).mono ?_
                rintro e w6 ⟨rfl, hb6⟩
                rw [HW2.out]
                obtain ⟨⟨g0, g1, g2, g3, g4, g5⟩, -⟩ := (HRX.out.below hb6).all6
                have hb := hb.trans (hb6.mono hb.size)
                clear hb6
                go_wp2_with fail
                go_ret
                exact ⟨retB HR.out.symm, hbt.trans (hb.mono hbt.size)⟩
            have kk2 : (x.kind == 2) = false := by simpa using k2
            by_cases k3 : x.kind = 3
            case pos =>
              have kk3 : (x.kind == 3) = true := by simpa using k3
              have ew : IntKind.i64.wrap ((x.rows.length : Int) + x.sets.length) = (x.rows.length : Int) + x.sets.length := IntWalk.i64_in _ (by omega)
              by_cases s0 : x.rows.length + x.sets.length = 0
              case neg =>
                have es : ((x.rows.length : Int) + x.sets.length == 0) = false := by rw [beq_eq_false_iff_ne]; omega
                have s0' : ¬ (x.rows.length = 0 ∧ x.sets.length = 0) := by omega
                have HR := Lib.hid (show stmtB s x = false by rw [HT3.out]; unfold finB; rw [if_neg k1, if_neg k2, if_pos k3, hW, decide_eq_false s0]; (try rfl))
                clear hW k1 k2 k3 s0 w0
                go_wp2_with fail
                refine (specL2Expr AW x.wher.length cW x.wher (s[m].cols.length : Int) _ (Sl.cellz (fun _ => rfl) hwq) (by unfold maxLen; omega) (by omega) (by omega)).mono ?_
                rintro e w6 ⟨rfl, hb6⟩
                rw [HW2.out]
                obtain ⟨⟨g0, g1, g2, g3, g4, g5⟩, -⟩ := (HRX.out.below hb6).all6
                have hb := hb.trans (hb6.mono hb.size)
                clear hb6
                go_wp2_with fail
                go_ret
                exact ⟨retB HR.out.symm, hbt.trans (hb.mono hbt.size)⟩
              case pos =>
                have es : ((x.rows.length : Int) + x.sets.length == 0) = true := by rw [beq_iff_eq]; omega
                have s1' : x.rows.length = 0 ∧ x.sets.length = 0 := by omega
                have HR := Lib.hid (show stmtB s x = false by rw [HT3.out]; unfold finB; rw [if_neg k1, if_neg k2, if_pos k3, hW, decide_eq_true s0]; (try rfl))
                clear hW k1 k2 k3 s0 w0
                go_wp2_with fail
                refine (specL2Expr AW x.wher.length cW x.wher (s[m].cols.length : Int) _ (Sl.cellz (fun _ => rfl) hwq) (by unfold maxLen; omega) (by omega) (by omega)).mono ?_
                rintro e w6 ⟨rfl, hb6⟩
                rw [HW2.out]
                obtain ⟨⟨g0, g1, g2, g3, g4, g5⟩, -⟩ := (HRX.out.below hb6).all6
                have hb := hb.trans (hb6.mono hb.size)
                clear hb6
                go_wp2_with fail
                go_ret
                exact ⟨retB HR.out.symm, hbt.trans (hb.mono hbt.size)⟩
            case neg =>
              have kk3 : (x.kind == 3) = false := by simpa using k3
              have HR := Lib.hid (show stmtB s x = false by rw [HT3.out]; unfold finB; rw [if_neg k1, if_neg k2, if_neg k3]; (try rfl))
              clear hW k1 k2 k3 w0
              go_wp2_with fail
              refine (specL2Expr AW x.wher.length cW x.wher (s[m].cols.length : Int) _ (Sl.cellz (fun _ => rfl) hwq) (by unfold maxLen; omega) (by omega) (by omega)).mono ?_
              rintro e w6 ⟨rfl, hb6⟩
              rw [HW2.out]
              obtain ⟨⟨g0, g1, g2, g3, g4, g5⟩, -⟩ := (HRX.out.below hb6).all6
              have hb := hb.trans (hb6.mono hb.size)
              clear hb6
              go_wp2_with fail
              go_ret
              exact ⟨retB HR.out.symm, hbt.trans (hb.mono hbt.size)⟩
          · have HW2 := Lib.hid hl
            have hW : whereB s[m].cols x.wher = true := by unfold whereB; rw [decide_eq_false w0, HWE.out, hl]; rfl
            clear hl
            by_cases k1 : x.kind = 1
            case pos =>
              have kk1 : (x.kind == 1) = true := by simpa using k1
              by_cases r8 : x.rows.length ≤ 8
              case neg =>
                have e8 : decide ((x.rows.length : Int) ≤ 8) = false := by rw [decide_eq_false_iff_not]; omega
                have HR := Lib.hid (show stmtB s x = false by rw [HT3.out]; unfold finB; rw [if_pos k1, decide_eq_false r8]; (try rfl))
                clear hW k1 r8 w0
                go_wp2_with fail
                refine (specL2Expr AW x.wher.length cW x.wher (s[m].cols.length : Int) _ (Sl.cellz (fun _ => rfl) hwq) (by unfold maxLen; omega) (by omega) (by omega)).mono ?_
                rintro e w6 ⟨rfl, hb6⟩
                rw [HW2.out]
                obtain ⟨⟨g0, g1, g2, g3, g4, g5⟩, -⟩ := (HRX.out.below hb6).all6
                have hb := hb.trans (hb6.mono hb.size)
                clear hb6
                go_wp2_with fail
                go_ret
                exact ⟨retB HR.out.symm, hbt.trans (hb.mono hbt.size)⟩
              have e8 : decide ((x.rows.length : Int) ≤ 8) = true := by rw [decide_eq_true_iff]; omega
              have ew : IntKind.i64.wrap ((x.wher.length : Int) + x.sets.length) = (x.wher.length : Int) + x.sets.length := IntWalk.i64_in _ (by omega)
              by_cases s0 : x.wher.length + x.sets.length = 0
              case neg =>
                have es : ((x.wher.length : Int) + x.sets.length == 0) = false := by rw [beq_eq_false_iff_ne]; omega
                have s0' : ¬ (x.wher.length = 0 ∧ x.sets.length = 0) := by omega
                have HR := Lib.hid (show stmtB s x = false by rw [HT3.out]; unfold finB; rw [if_pos k1, decide_eq_true r8, decide_eq_false s0]; (try rfl))
                clear hW k1 r8 s0 w0
                go_wp2_with fail
                refine (specL2Expr AW x.wher.length cW x.wher (s[m].cols.length : Int) _ (Sl.cellz (fun _ => rfl) hwq) (by unfold maxLen; omega) (by omega) (by omega)).mono ?_
                rintro e w6 ⟨rfl, hb6⟩
                rw [HW2.out]
                obtain ⟨⟨g0, g1, g2, g3, g4, g5⟩, -⟩ := (HRX.out.below hb6).all6
                have hb := hb.trans (hb6.mono hb.size)
                clear hb6
                go_wp2_with fail
                go_ret
                exact ⟨retB HR.out.symm, hbt.trans (hb.mono hbt.size)⟩
              case pos =>
                exact absurd (by omega) w0
            have kk1 : (x.kind == 1) = false := by simpa using k1
            by_cases k2 : x.kind = 2
            case pos =>
              have kk2 : (x.kind == 2) = true := by simpa using k2
              by_cases r0 : x.rows.length = 0
              case neg =>
                have er : ((x.rows.length : Int) == 0) = false := by rw [beq_eq_false_iff_ne]; omega
                have HR := Lib.hid (show stmtB s x = false by rw [HT3.out]; unfold finB; rw [if_neg k1, if_pos k2, hW, decide_eq_false r0]; (try rfl))
                clear hW k1 k2 r0 w0
                go_wp2_with fail
                refine (specL2Expr AW x.wher.length cW x.wher (s[m].cols.length : Int) _ (Sl.cellz (fun _ => rfl) hwq) (by unfold maxLen; omega) (by omega) (by omega)).mono ?_
                rintro e w6 ⟨rfl, hb6⟩
                rw [HW2.out]
                obtain ⟨⟨g0, g1, g2, g3, g4, g5⟩, -⟩ := (HRX.out.below hb6).all6
                have hb := hb.trans (hb6.mono hb.size)
                clear hb6
                go_wp2_with fail
                go_ret
                exact ⟨retB HR.out.symm, hbt.trans (hb.mono hbt.size)⟩
              case pos =>
                have er : ((x.rows.length : Int) == 0) = true := by rw [beq_iff_eq]; omega
                have HR := Lib.hid (show stmtB s x = true by rw [HT3.out]; unfold finB; rw [if_neg k1, if_pos k2, hW, decide_eq_true r0]; (try rfl))
                clear hW k1 k2 r0 w0
                go_wp2_with fail
                refine (specL2Expr AW x.wher.length cW x.wher (s[m].cols.length : Int) _ (Sl.cellz (fun _ => rfl) hwq) (by unfold maxLen; omega) (by omega) (by omega)).mono ?_
                rintro e w6 ⟨rfl, hb6⟩
                rw [HW2.out]
                obtain ⟨⟨g0, g1, g2, g3, g4, g5⟩, -⟩ := (HRX.out.below hb6).all6
                have hb := hb.trans (hb6.mono hb.size)
                clear hb6
                go_wp2_with fail
                go_ret
                exact ⟨retB HR.out.symm, hbt.trans (hb.mono hbt.size)⟩
            have kk2 : (x.kind == 2) = false := by simpa using k2
            by_cases k3 : x.kind = 3
            case pos =>
              have kk3 : (x.kind == 3) = true := by simpa using k3
              have ew : IntKind.i64.wrap ((x.rows.length : Int) + x.sets.length) = (x.rows.length : Int) + x.sets.length := IntWalk.i64_in _ (by omega)
              by_cases s0 : x.rows.length + x.sets.length = 0
              case neg =>
                have es : ((x.rows.length : Int) + x.sets.length == 0) = false := by rw [beq_eq_false_iff_ne]; omega
                have s0' : ¬ (x.rows.length = 0 ∧ x.sets.length = 0) := by omega
                have HR := Lib.hid (show stmtB s x = false by rw [HT3.out]; unfold finB; rw [if_neg k1, if_neg k2, if_pos k3, hW, decide_eq_false s0]; (try rfl))
                clear hW k1 k2 k3 s0 w0
                go_wp2_with fail
                refine (specL2Expr AW x.wher.length cW x.wher (s[m].cols.length : Int) _ (Sl.cellz (fun _ => rfl) hwq) (by unfold maxLen; omega) (by omega) (by omega)).mono ?_
                rintro e w6 ⟨rfl, hb6⟩
                rw [HW2.out]
                obtain ⟨⟨g0, g1, g2, g3, g4, g5⟩, -⟩ := (HRX.out.below hb6).all6
                have hb := hb.trans (hb6.mono hb.size)
                clear hb6
                go_wp2_with fail
                go_ret
                exact ⟨retB HR.out.symm, hbt.trans (hb.mono hbt.size)⟩
              case pos =>
                have es : ((x.rows.length : Int) + x.sets.length == 0) = true := by rw [beq_iff_eq]; omega
                have s1' : x.rows.length = 0 ∧ x.sets.length = 0 := by omega
                have HR := Lib.hid (show stmtB s x = true by rw [HT3.out]; unfold finB; rw [if_neg k1, if_neg k2, if_pos k3, hW, decide_eq_true s0]; (try rfl))
                clear hW k1 k2 k3 s0 w0
                go_wp2_with fail
                refine (specL2Expr AW x.wher.length cW x.wher (s[m].cols.length : Int) _ (Sl.cellz (fun _ => rfl) hwq) (by unfold maxLen; omega) (by omega) (by omega)).mono ?_
                rintro e w6 ⟨rfl, hb6⟩
                rw [HW2.out]
                obtain ⟨⟨g0, g1, g2, g3, g4, g5⟩, -⟩ := (HRX.out.below hb6).all6
                have hb := hb.trans (hb6.mono hb.size)
                clear hb6
                go_wp2_with fail
                go_ret
                exact ⟨retB HR.out.symm, hbt.trans (hb.mono hbt.size)⟩
            case neg =>
              have kk3 : (x.kind == 3) = false := by simpa using k3
              have HR := Lib.hid (show stmtB s x = false by rw [HT3.out]; unfold finB; rw [if_neg k1, if_neg k2, if_neg k3]; (try rfl))
              clear hW k1 k2 k3 w0
              go_wp2_with fail
              refine (specL2Expr AW x.wher.length cW x.wher (s[m].cols.length : Int) _ (Sl.cellz (fun _ => rfl) hwq) (by unfold maxLen; omega) (by omega) (by omega)).mono ?_
              rintro e w6 ⟨rfl, hb6⟩
              rw [HW2.out]
              obtain ⟨⟨g0, g1, g2, g3, g4, g5⟩, -⟩ := (HRX.out.below hb6).all6
              have hb := hb.trans (hb6.mono hb.size)
              clear hb6
              go_wp2_with fail
              go_ret
              exact ⟨retB HR.out.symm, hbt.trans (hb.mono hbt.size)⟩
end Go.Proofs.YthafgkcokecnnaaGreat
namespace Go.Proofs.YthafgkcokecnnaaGreat
open Go.RowKit Go.Maps
set_option linter.unusedVariables false
set_option linter.unusedSimpArgs false

set_option maxRecDepth 100000 in
set_option maxHeartbeats 2000000 in
theorem specStmtOk (AS AR AW AE : Option Addr) (nS cS nR cR nW cW nE cE : Nat) (s : List Tb) (x : Sq) (ok okr okw oke : Nat → Prop) (w : World)
    (hs : Sl TbR 6 ok w AS nS s) (hr : Sl RwR 2 okr w AR nR x.rows) (hw : Sl TkR 5 okw w AW nW x.wher) (he : Sl SeR 2 oke w AE nE x.sets) (hcp : nS ≤ cS) (hsz : szL Tb.sz s ≤ 1048576) (hx : x.sz ≤ 1048576) :
    Calls Tryz.prog 6 #[.slice AS nS cS, .agg #[.int .i64 x.kind, .string x.table, .slice AR nR cR, .slice AW nW cW, .slice AE nE cE, .int .i64 x.policy]] w fun e w' => e = .returned (.bool (stmtB s x)) ∧ Below w.heap.size w w' := by
  have HSZ := Lib.hid hsz
  have HX := Lib.hid hx
  have HCP := Lib.hid hcp
  clear hsz hx hcp
  have hb0 := (Below.refl w.heap.size w).alloc (Nat.le_refl _) (.cells #[.int .i64 x.kind, .string x.table, .slice AR nR cR, .slice AW nW cW, .slice AE nE cE, .int .i64 x.policy] 37)
  have RB := Lib.hid (Row.new w 37 #[.int .i64 x.kind, .string x.table, .slice AR nR cR, .slice AW nW cW, .slice AE nE cE, .int .i64 x.policy])
  cases hB : schemaB s
  · have HB := Lib.hid hB
    have HR := Lib.hid (show stmtB s x = false by unfold stmtB; rw [hB]; rfl)
    clear hB
    go_enter Tryz.func6, Tryz.ntmps6
    go_wp2_with fail
    generalize w.alloc (.cells #[.int .i64 x.kind, .string x.table, .slice AR nR cR, .slice AW nW cW, .slice AE nE cE, .int .i64 x.policy] 37) = z0 at *
    refine (specSchemaOk AS nS cS s _ _ (hs.below TbR.stays hb0) HCP.out HSZ.out).mono ?_
    rintro e w1 ⟨rfl, hb1⟩
    rw [HB.out]
    go_wp2_with fail
    go_ret
    exact ⟨retB HR.out.symm, hb0.trans (hb1.mono hb0.size)⟩
  · have HB := Lib.hid hB
    clear hB
    go_enter Tryz.func6, Tryz.ntmps6
    go_wp2_with fail
    generalize w.alloc (.cells #[.int .i64 x.kind, .string x.table, .slice AR nR cR, .slice AW nW cW, .slice AE nE cE, .int .i64 x.policy] 37) = z0 at *
    refine (specSchemaOk AS nS cS s _ _ (hs.below TbR.stays hb0) HCP.out HSZ.out).mono ?_
    rintro e w1 ⟨rfl, hb1⟩
    rw [HB.out]
    have hbz := hb0.trans (hb1.mono hb0.size)
    obtain ⟨⟨b0, b1, b2, b3, b4, b5⟩, -⟩ := (RB.out.below hb1).all6
    go_wp2_with fail
    refine (specL7Stmt AS AR AW AE nS cS nR cR nW cW nE cE s x _ _ _ _ _ (hs.below TbR.stays hbz) (hr.below RwR.stays hbz) (hw.below TkR.stays hbz) (he.below SeR.stays hbz) HSZ.out HX.out HB.out).mono ?_
    rintro e w2 ⟨rfl, hb2⟩
    go_wp2_with fail
    go_ret
    exact ⟨rfl, hbz.trans (hb2.mono hbz.size)⟩
end Go.Proofs.YthafgkcokecnnaaGreat
namespace Go.Proofs.YthafgkcokecnnaaGreat
open Go.RowKit Go.Maps
set_option linter.unusedVariables false
set_option linter.unusedSimpArgs false

set_option maxRecDepth 100000 in
set_option maxHeartbeats 2000000 in
theorem implInsertedOk (g o : Nat) (A1 AR : Option Addr) (c1 nR cR : Nat) (cols : List Cl) (rows : List Rw) (ok okr : Nat → Prop) (w : World)
    (x1 : w.cell? ⟨g, o + 1, none⟩ = some (.slice A1 cols.length c1)) (h : Sl ClR 6 ok w A1 cols.length cols) (hr : Sl RwR 2 okr w AR nR rows) (hn : cols.length ≤ 1048576) (hrn : nR ≤ 1048576) (hvn : ∀ r ∈ rows, r.vals.length ≤ 1048576) :
    Calls Tryz.prog 26 #[.pointer (some ⟨g, o, none⟩), .slice AR nR cR] w fun e w' => e = .returned (.bool (insB cols rows)) ∧ Below w.heap.size w w' := by
  obtain rfl : rows.length = nR := hr.1
  have HVN := Lib.hid hvn
  have X1 := Lib.hid x1
  clear hvn
  by_cases h8 : (8 : Int) < rows.length
  · have HF := Lib.hid (show insB cols rows = false by unfold insB; rw [decide_eq_false (by omega)]; rfl)
    go_enter Tryz.func26, Tryz.ntmps26
    go_wp2_with fail
    go_ret
    exact ⟨retB HF.out.symm, Below.refl _ _⟩
  have h8' : decide ((8 : Int) < rows.length) = false := by simpa using h8
  have H8 := Lib.hid (show rows.length ≤ 8 by omega)
  clear h8 x1
  go_enter Tryz.func26, Tryz.ntmps26
  go_wp2_with fail
  clear h8'
  go_loopw [12] (fun i wr => ∃ k : Nat, k ≤ rows.length ∧ i = .int .i64 k ∧ Hid ((rows.take k).all (rowS cols) = true) ∧ Below w.heap.size w wr) (fun i _ => rows.length - (intOf i).toNat)
  case atStart => exact ⟨0, by omega, rfl, Lib.hid (by simp), Below.refl _ _⟩
  case round =>
    obtain ⟨k, hk', rfl, hall, hb⟩ := hrel
    by_cases hlt : k < rows.length
    · obtain ⟨bl, ol, B1, k1, d1, -, rfl, z0, z1, hv, -⟩ := RwR.at_ (hr.below RwR.stays hb) hlt
      obtain rfl : rows[k].vals.length = k1 := hv.1
      have i0' : (0 : Int) ≤ k := by omega
      have i1 : (k : Int) < rows.length := by omega
      have hst := all_take_succ (rowS cols) rows k hlt
      rw [hall.out, Bool.true_and] at hst
      have hno := fun hf => insB_no (cols := cols) hlt hf
      have hrs : rowS cols rows[k] = ((rows[k].id == 0) && kindsB cols rows[k].vals) := rfl
      rw [hrs] at hst
      simp only [hrs] at hno
      have HST := Lib.hid hst
      have HNO := Lib.hid hno
      clear hst hno hrs
      generalize rows[k].id = iv at *
      have hbx := hb.alloc hb.size (.cells #[.int .i64 iv, .slice B1 rows[k].vals.length d1] 102)
      have hlb := (Below.refl wr.heap.size wr).alloc (Nat.le_refl _) (.cells #[.int .i64 iv, .slice B1 rows[k].vals.length d1] 102)
      have HC := Lib.hid (implFitsAt g o A1 B1 cols.length c1 rows[k].vals.length d1 cols rows[k].vals _ _ (below_keep hbx _ _ X1.out) (h.below ClR.stays hbx) (Sl.cellz (fun _ => rfl) (hv.below VlR.stays hlb)) hn (HVN.out _ (List.getElem_mem hlt)))
      by_cases he : iv = 0
      case neg =>
        have he1 : (iv == 0) = false := by rw [beq_eq_false_iff_ne]; exact he
        have he2 : (iv != 0) = true := by simpa using he
        have HF := Lib.hid (HNO.out (by rw [he1]; rfl))
        clear hv hlb he
        go_wp2_with fail
        go_ret
        exact ⟨retB HF.out.symm, hbx⟩
      case pos =>
        subst he
        cases hf : kindsB cols rows[k].vals
        · have HF := Lib.hid (HNO.out (by rw [hf]; rfl))
          have HK := Lib.hid hf
          clear hv hlb hf
          go_wp2_with fail
          refine HC.out.mono ?_
          rintro e w2 ⟨rfl, hb2⟩
          rw [HK.out]
          go_wp2_with fail
          go_ret
          exact ⟨retB HF.out.symm, hbx.trans (hb2.mono hbx.size)⟩
        · have HA := Lib.hid (show (rows.take (k + 1)).all (rowS cols) = true by rw [HST.out, hf]; rfl)
          have HK := Lib.hid hf
          clear hv hlb hf
          go_wp2_with fail
          refine HC.out.mono ?_
          rintro e w2 ⟨rfl, hb2⟩
          rw [HK.out]
          go_wp2_with fail
          go_roundw
          case rel => exact ⟨k + 1, by omega, by go_num, HA, hbx.trans (hb2.mono hbx.size)⟩
          case measure => simp [intOf]; omega
    · obtain rfl : k = rows.length := by omega
      have ha := hall.out
      rw [List.take_of_length_le (Nat.le_refl _)] at ha
      have HF := Lib.hid (show insB cols rows = true by unfold insB; rw [decide_eq_true H8.out, ha]; rfl)
      clear hall ha
      go_wp2_with fail
      go_ret
      exact ⟨retB HF.out.symm, hb⟩

set_option maxRecDepth 100000 in
set_option maxHeartbeats 2000000 in
theorem implSetsOk (g o : Nat) (A1 AE : Option Addr) (c1 nE cE : Nat) (cols : List Cl) (l : List Se) (oks : Nat → Prop) (w : World)
    (x1 : w.cell? ⟨g, o + 1, none⟩ = some (.slice A1 cols.length c1)) (hs : Sl SeR 2 oks w AE nE l) (hn : cols.length ≤ 1048576) (hln : nE ≤ 1048576) (hen : ∀ z ∈ l, z.expr.length ≤ 1048576) :
    Calls Tryz.prog 28 #[.pointer (some ⟨g, o, none⟩), .slice AE nE cE] w fun e w' => e = .returned (.bool (setsB cols.length l)) ∧ Below w.heap.size w w' := by
  obtain rfl : l.length = nE := hs.1
  have HEN := Lib.hid hen
  have X1 := Lib.hid x1
  clear hen
  by_cases h0 : l.length = 0
  · have HF := Lib.hid (show setsB cols.length l = true by rw [List.eq_nil_of_length_eq_zero h0]; rfl)
    have h0' : ((l.length : Int) == 0) = true := by simpa using h0
    clear h0
    go_enter Tryz.func28, Tryz.ntmps28
    go_wp2_with fail
    go_ret
    exact ⟨retB HF.out.symm, Below.refl _ _⟩
  have h0' : ((l.length : Int) == 0) = false := by simpa using h0
  have H0 := Lib.hid (show 0 < l.length by omega)
  have hmk := fun w => mk_rows (P := Tryz.prog) Tryz.underlying44 infoIntI (by omega) l.length hln w
  simp only [Nat.mul_one] at hmk
  simp only [Value.cells] at hmk
  clear h0 x1
  go_enter Tryz.func28, Tryz.ntmps28
  go_wp2_with fail
  have row := Row.new w 2 (madeCells #[.int .i64 0] (l.length))
  have hb0 := (Below.refl w.heap.size w).alloc (Nat.le_refl _) (.cells (madeCells #[.int .i64 0] (l.length)) 2)
  have hsz := size_madeCells #[.int .i64 0] (l.length)
  generalize w.alloc (.cells (madeCells #[.int .i64 0] (l.length)) 2) = x at *
  generalize madeCells #[.int .i64 0] (l.length) = cs0 at *
  have HZ := Lib.hid hsz
  have HL := Lib.hid (show (l.map Se.col).length = l.length by simp)
  clear hmk hsz h0'
  go_loopw [16] (fun i wr => ∃ (k : Nat) (cs : Array Value), k ≤ l.length ∧ i = .int .i64 k ∧ Row wr w.heap.size 2 cs ∧ Hid (cs.size = l.length * 1) ∧ Hid (LaidR IntR 1 (okF (w.heap.size + 1) wr) wr cs k (l.map Se.col)) ∧ Hid ((l.take k).all (setE cols.length) = true) ∧ Below w.heap.size w wr) (fun i _ => l.length - (intOf i).toNat)
  case atStart => exact ⟨0, cs0, by omega, rfl, row, Lib.hid (by rw [HZ.out]; exact (Nat.mul_one _).symm), Lib.hid (LaidR.zero _ _ _ _ _ _), Lib.hid (by simp), hb0⟩
  case round =>
    clear hb0 row
    obtain ⟨k, cs, hk, rfl, hrow, hcs, hlaid, hall, hb⟩ := hrel
    by_cases hlt : k < l.length
    · obtain ⟨b, off, B1, k1, d1, -, rfl, z0, z1, hv, -⟩ := SeR.at_ (hs.below SeR.stays hb) hlt
      obtain rfl : l[k].expr.length = k1 := hv.1
      have i0' : (0 : Int) ≤ k := by omega
      have i1 : (k : Int) < l.length := by omega
      have hbx := hb.alloc hb.size (.cells #[.int .i64 l[k].col, .slice B1 l[k].expr.length d1] 104)
      have hlb := (Below.refl wr.heap.size wr).alloc (Nat.le_refl _) (.cells #[.int .i64 l[k].col, .slice B1 l[k].expr.length d1] 104)
      have rbx := Row.new wr 104 #[.int .i64 l[k].col, .slice B1 l[k].expr.length d1]
      have hrx := hrow.below hlb
      have hlx := hlaid.out.belowF IntR.stays hlb
      have p1 := below_keep hbx _ _ X1.out
      have hst := all_take_succ (setE cols.length) l k hlt
      rw [hall.out, Bool.true_and] at hst
      obtain ⟨⟨yb0, yb1⟩, -⟩ := rbx.all2
      have HC := Lib.hid (implExprOk B1 l[k].expr.length d1 l[k].expr (cols.length : Int) (wr.alloc (.cells #[.int .i64 l[k].col, .slice B1 l[k].expr.length d1] 104)).drew (Sl.cellz (fun _ => rfl) ((hv.below TkR.stays hlb).drew TkR.stays)) (by have := HEN.out _ (List.getElem_mem hlt); unfold maxLen; omega))
      cases he : exprB l[k].expr cols.length
      · have HF := Lib.hid (setsB_no hlt he)
        have HE := Lib.hid he
        clear hst hv hlb he hrx hlx rbx hrow
        go_wp2_with fail
        go_region_held3 (fun w' => w'.cell? ⟨wr.heap.size, 1, none⟩ = some (.slice B1 l[k].expr.length d1) ∧ w'.cell? ⟨g, o + 1, none⟩ = some (.slice A1 cols.length c1))
          (first | go_keep | exact ⟨below_keep hb2 _ _ yb1, below_keep hb2 _ _ p1⟩)
          (first | (go_at_call 59; refine HC.out.mono ?_; rintro e w2 ⟨rfl, hb2⟩; rw [HE.out]))
        go_wp2_with fail
        go_ret
        exact ⟨retB HF.out.symm, hbx.drew.trans (hb2.mono hbx.drew.size)⟩
      · have HA := Lib.hid (show (l.take (k + 1)).all (setE cols.length) = true by rw [hst]; exact he)
        have HE := Lib.hid he
        have HRX := Lib.hid hrx
        have HLX := Lib.hid hlx
        have HRB := Lib.hid rbx
        clear hst hv hlb he hrx hlx rbx hrow
        go_wp2_with fail
        go_region_held3 (fun w' => w'.cell? ⟨wr.heap.size, 1, none⟩ = some (.slice B1 l[k].expr.length d1) ∧ w'.cell? ⟨g, o + 1, none⟩ = some (.slice A1 cols.length c1))
          (first | go_keep | exact ⟨below_keep hb2 _ _ yb1, below_keep hb2 _ _ p1⟩)
          (first | (go_at_call 59; refine HC.out.mono ?_; rintro e w2 ⟨rfl, hb2⟩; rw [HE.out]))
        have hrow1 := (HRX.out.drew).below hb2
        have hl1 := Lib.hid ((show LaidR IntR 1 (okF (w.heap.size + 1) _) _ cs k (l.map Se.col) from HLX.out.belowF IntR.stays ((Below.refl _ _).drew)).belowF IntR.stays hb2)
        have rb2 := (HRB.out.drew).below hb2
        obtain ⟨⟨y0, y1⟩, -⟩ := rb2.all2
        have hsz1 : k * 1 + 1 ≤ cs.size := by rw [hcs.out]; omega
        have q1 : w2.cell? ⟨w.heap.size, k, none⟩ = some (cs[k]?.getD undef) := by rw [hrow1.cell, Array.getElem?_eq_getElem (by omega)]; rfl
        have f0 := hrow1.free k
        have HR1 := Lib.hid hrow1
        have hbw := hbx.drew.trans (hb2.mono hbx.drew.size)
        have hLk : k < (l.map Se.col).length := by rw [HL.out]; exact hlt
        clear hrow1 rb2 hb2 hbx p1
        go_wp2_with fail
        go_roundw
        case rel => exact ⟨k + 1, _, by omega, by go_num, HR1.out.set _ _, Lib.hid (by simp [hcs.out]), Lib.hid (((hl1.out.setF IntR.stays (by simp) _).more hLk (c := [.int .i64 l[k].col]) rfl (by rw [List.getElem_map]; rfl) (hold1 cs k _) (fresh1 cs k _ hsz1))), HA, hbw.setCell (by simp) _⟩
        case measure => simp [intOf]; omega
    · obtain rfl : k = l.length := by omega
      have ha := hall.out
      rw [List.take_of_length_le (Nat.le_refl _)] at ha
      have hsl := sl_of_laid (ok := fun _ => True) hrow trivial (fun i hi hlt' => by
        obtain ⟨c', h1, h2, h3⟩ := hlaid.out i hi hlt'
        exact ⟨c', h1, IntR.stays _ _ _ _ _ _ h2 (fun b hb' => trivial) (fun p v _ hp => hp), h3⟩) (Nat.le_of_eq HL.out)
      rw [HL.out] at hsl
      have HC := Lib.hid (implAreColumns (some ⟨w.heap.size, 0, none⟩) l.length l.length (l.map Se.col) cols.length _ wr hsl hln hn)
      have HF := Lib.hid (show colsInB (l.map Se.col) cols.length = setsB cols.length l by unfold colsInB setsB; rw [ha, HL.out, decide_eq_true H0.out]; simp)
      have p1 := below_keep hb _ _ X1.out
      clear hall ha hsl hrow
      go_wp2_with fail
      refine HC.out.mono ?_
      rintro e w2 ⟨rfl, hb2⟩
      go_wp2_with fail
      go_ret
      exact ⟨retB HF.out, hb.trans (hb2.mono hb.size)⟩
end Go.Proofs.YthafgkcokecnnaaGreat
namespace Go.Proofs.YthafgkcokecnnaaGreat
open Go.RowKit Go.Maps
set_option linter.unusedVariables false
set_option linter.unusedSimpArgs false

theorem implPolicy {p : Int} {b : Bool} (h : polB p = b) (w : World) : Calls Tryz.prog 23 #[.int .i64 p] w fun e w' => e = .returned (.bool b) ∧ w = w' := by
  subst h
  unfold polB
  by_cases h0 : 0 ≤ p
  · have h0' : decide (0 ≤ p) = true := decide_eq_true h0
    go_enter Tryz.func23, Tryz.ntmps23
    go_wp2
    go_ret
    exact ⟨by simp [h0'], rfl⟩
  · have h0' : decide (0 ≤ p) = false := decide_eq_false h0
    go_enter Tryz.func23, Tryz.ntmps23
    go_wp2
    go_ret
    exact ⟨by simp [h0'], rfl⟩

/-- Whether a statement has nothing but what its kind has. -/
def ownB (x : Sq) : Bool :=
  if x.kind = 1 then decide (x.wher.length = 0) && decide (x.sets.length = 0)
  else if x.kind = 2 then decide (x.rows.length = 0)
  else if x.kind = 3 then decide (x.rows.length = 0) && decide (x.sets.length = 0)
  else false
theorem stmtT_own (t : Tb) (x : Sq) : stmtT t x = (ownB x && (insB t.cols x.rows && (whereB t.cols x.wher && setsB t.cols.length x.sets))) := by
  have hw : x.wher.length = 0 → whereB t.cols x.wher = true := fun h => by unfold whereB; rw [decide_eq_true h]; rfl
  have hs : x.sets.length = 0 → setsB t.cols.length x.sets = true := fun h => by rw [List.length_eq_zero_iff.1 h]; rfl
  have hi : x.rows.length = 0 → insB t.cols x.rows = true := fun h => by rw [List.length_eq_zero_iff.1 h]; rfl
  unfold stmtT ownB
  by_cases k1 : x.kind = 1
  · rw [if_pos k1, if_pos k1]
    by_cases a : x.wher.length = 0
    · by_cases b : x.sets.length = 0
      · rw [hw a, hs b, decide_eq_true a, decide_eq_true b]; simp
      · rw [decide_eq_false b]; simp
    · rw [decide_eq_false a]; simp
  · rw [if_neg k1, if_neg k1]
    by_cases k2 : x.kind = 2
    · rw [if_pos k2, if_pos k2]
      by_cases a : x.rows.length = 0
      · rw [hi a, decide_eq_true a]; simp
      · rw [decide_eq_false a]; simp
    · rw [if_neg k2, if_neg k2]
      by_cases k3 : x.kind = 3
      · rw [if_pos k3, if_pos k3]
        by_cases a : x.rows.length = 0
        · by_cases b : x.sets.length = 0
          · rw [hi a, hs b, decide_eq_true a, decide_eq_true b]; simp
          · rw [decide_eq_false b]; simp
        · rw [decide_eq_false a]; simp
      · rw [if_neg k3, if_neg k3]; rfl

set_option maxRecDepth 100000 in
set_option maxHeartbeats 2000000 in
theorem implHasItsOwn (AR AW AE : Option Addr) (cR cW cE : Nat) (x : Sq) (w : World) :
    Calls Tryz.prog 25 #[.agg #[.int .i64 x.kind, .string x.table, .slice AR x.rows.length cR, .slice AW x.wher.length cW, .slice AE x.sets.length cE, .int .i64 x.policy]] w fun e w' => e = .returned (.bool (ownB x)) ∧ Below w.heap.size w w' := by
  have hb0 := (Below.refl w.heap.size w).alloc (Nat.le_refl _) (.cells #[.int .i64 x.kind, .string x.table, .slice AR x.rows.length cR, .slice AW x.wher.length cW, .slice AE x.sets.length cE, .int .i64 x.policy] 37)
  have rb := Row.new w 37 #[.int .i64 x.kind, .string x.table, .slice AR x.rows.length cR, .slice AW x.wher.length cW, .slice AE x.sets.length cE, .int .i64 x.policy]
  obtain ⟨⟨c0, c1, c2, c3, c4, c5⟩, -⟩ := rb.all6
  clear rb
  have HD : ∀ n : Nat, decide (n = 0) = ((n : Int) == 0) := fun n => by
    by_cases h : n = 0
    · subst h; rfl
    · rw [decide_eq_false h]; symm; rw [beq_eq_false_iff_ne]; omega
  unfold ownB
  rw [HD, HD, HD]
  generalize hr : ((x.rows.length : Int) == 0) = br
  generalize hw : ((x.wher.length : Int) == 0) = bw
  generalize hs : ((x.sets.length : Int) == 0) = bs
  by_cases k1 : x.kind = 1
  · have kk1 : (x.kind == 1) = true := by simpa using k1
    rw [if_pos k1]
    clear k1
    cases bw <;> cases bs <;> (
      go_enter Tryz.func25, Tryz.ntmps25
      go_wp2
      go_ret
      exact ⟨rfl, hb0⟩)
  · have kk1 : (x.kind == 1) = false := by simpa using k1
    rw [if_neg k1]
    clear k1
    by_cases k2 : x.kind = 2
    · have kk2 : (x.kind == 2) = true := by simpa using k2
      rw [if_pos k2]
      clear k2
      cases br <;> (
        go_enter Tryz.func25, Tryz.ntmps25
        go_wp2
        go_ret
        exact ⟨rfl, hb0⟩)
    · have kk2 : (x.kind == 2) = false := by simpa using k2
      rw [if_neg k2]
      clear k2
      by_cases k3 : x.kind = 3
      · have kk3 : (x.kind == 3) = true := by simpa using k3
        rw [if_pos k3]
        clear k3
        cases br <;> cases bs <;> (
          go_enter Tryz.func25, Tryz.ntmps25
          go_wp2
          go_ret
          exact ⟨rfl, hb0⟩)
      · have kk3 : (x.kind == 3) = false := by simpa using k3
        rw [if_neg k3]
        clear k3
        go_enter Tryz.func25, Tryz.ntmps25
        go_wp2
        go_ret
        exact ⟨rfl, hb0⟩

set_option maxRecDepth 100000 in
set_option maxHeartbeats 8000000 in
theorem implStmtOk (AS AR AW AE : Option Addr) (nS cS nR cR nW cW nE cE : Nat) (s : List Tb) (x : Sq) (ok okr okw oke : Nat → Prop) (w : World)
    (hs : Sl TbR 6 ok w AS nS s) (hr : Sl RwR 2 okr w AR nR x.rows) (hw : Sl TkR 5 okw w AW nW x.wher) (he : Sl SeR 2 oke w AE nE x.sets) (hsz : szL Tb.sz s ≤ 1048576) (hx : x.sz ≤ 1048576) :
    Calls Tryz.prog 9 #[.slice AS nS cS, .agg #[.int .i64 x.kind, .string x.table, .slice AR nR cR, .slice AW nW cW, .slice AE nE cE, .int .i64 x.policy]] w fun e w' => e = .returned (.bool (stmtB s x)) ∧ Below w.heap.size w w' := by
  obtain rfl : s.length = nS := hs.1
  obtain rfl : x.rows.length = nR := hr.1
  obtain rfl : x.wher.length = nW := hw.1
  obtain rfl : x.sets.length = nE := he.1
  have hsn : s.length ≤ 1048576 := by unfold szL at hsz; omega
  have hrn : x.rows.length ≤ 1048576 := by unfold Sq.sz szL at hx; omega
  have hwn : x.wher.length ≤ 1048576 := by unfold Sq.sz szL at hx; omega
  have hen : x.sets.length ≤ 1048576 := by unfold Sq.sz szL at hx; omega
  have HNM := Lib.hid (show x.table.size ≤ maxLen by unfold Sq.sz at hx; unfold maxLen; omega)
  have HVN := Lib.hid (show ∀ r ∈ x.rows, r.vals.length ≤ 1048576 from fun r hr => by
    have h1 := szL_mem Rw.sz x.rows r hr
    have h2 : r.vals.length ≤ r.sz := by unfold Rw.sz szL; omega
    unfold Sq.sz at hx
    omega)
  have HEN := Lib.hid (show ∀ z ∈ x.sets, z.expr.length ≤ 1048576 from fun z hz => by
    have h1 := szL_mem Se.sz x.sets z hz
    have h2 : z.expr.length ≤ z.sz := by unfold Se.sz szL; omega
    unfold Sq.sz at hx
    omega)
  have HSZ := Lib.hid hsz
  clear hsz hx
  have hb0 := (Below.refl w.heap.size w).alloc (Nat.le_refl _) (.cells #[.int .i64 x.kind, .string x.table, .slice AR x.rows.length cR, .slice AW x.wher.length cW, .slice AE x.sets.length cE, .int .i64 x.policy] 37)
  have rb := Row.new w 37 #[.int .i64 x.kind, .string x.table, .slice AR x.rows.length cR, .slice AW x.wher.length cW, .slice AE x.sets.length cE, .int .i64 x.policy]
  have RB := Lib.hid rb
  clear rb
  cases hB : schemaB s
  · have HB := Lib.hid hB
    have HR := Lib.hid (show stmtB s x = false by unfold stmtB; rw [hB]; rfl)
    clear hB
    go_enter Tryz.func9, Tryz.ntmps9
    go_wp2_with fail
    generalize w.alloc (.cells #[.int .i64 x.kind, .string x.table, .slice AR x.rows.length cR, .slice AW x.wher.length cW, .slice AE x.sets.length cE, .int .i64 x.policy] 37) = z0 at *
    refine (implSchemaOk AS s.length cS s _ _ (hs.below TbR.stays hb0) HSZ.out).mono ?_
    rintro e w1 ⟨rfl, hb1⟩
    rw [HB.out]
    have hbz1 := hb0.trans (hb1.mono hb0.size)
    obtain ⟨⟨c0, c1, c2, c3, c4, c5⟩, -⟩ := (RB.out.below hb1).all6
    have RB1 := Lib.hid (RB.out.below hb1)
    go_wp2_with fail
    go_ret
    exact ⟨retB HR.out.symm, hbz1⟩
  have HB := Lib.hid hB
  cases hP : polB x.policy
  · have HP := Lib.hid hP
    have HR := Lib.hid (show stmtB s x = false by unfold stmtB; rw [hB, hP]; rfl)
    clear hB hP
    go_enter Tryz.func9, Tryz.ntmps9
    go_wp2_with fail
    generalize w.alloc (.cells #[.int .i64 x.kind, .string x.table, .slice AR x.rows.length cR, .slice AW x.wher.length cW, .slice AE x.sets.length cE, .int .i64 x.policy] 37) = z0 at *
    refine (implSchemaOk AS s.length cS s _ _ (hs.below TbR.stays hb0) HSZ.out).mono ?_
    rintro e w1 ⟨rfl, hb1⟩
    rw [HB.out]
    have hbz1 := hb0.trans (hb1.mono hb0.size)
    obtain ⟨⟨c0, c1, c2, c3, c4, c5⟩, -⟩ := (RB.out.below hb1).all6
    have RB1 := Lib.hid (RB.out.below hb1)
    go_wp2_with fail
    refine (implPolicy HP.out _).mono ?_
    rintro e w2 ⟨rfl, rfl⟩
    go_wp2_with fail
    go_ret
    exact ⟨retB HR.out.symm, hbz1⟩
  have HP := Lib.hid hP
  have HBP := Lib.hid (show stmtB s x = stmtA s x by unfold stmtB; rw [hB, hP]; rfl)
  clear hB hP
  rcases atN_nat (s := s) (nm := x.table) with hat | ⟨m, hat, hm⟩
  · have HAT := Lib.hid hat
    have HR := Lib.hid (HBP.out.trans (stmtA_no hat))
    clear hat
    go_enter Tryz.func9, Tryz.ntmps9
    go_wp2_with fail
    generalize w.alloc (.cells #[.int .i64 x.kind, .string x.table, .slice AR x.rows.length cR, .slice AW x.wher.length cW, .slice AE x.sets.length cE, .int .i64 x.policy] 37) = z0 at *
    refine (implSchemaOk AS s.length cS s _ _ (hs.below TbR.stays hb0) HSZ.out).mono ?_
    rintro e w1 ⟨rfl, hb1⟩
    rw [HB.out]
    have hbz1 := hb0.trans (hb1.mono hb0.size)
    obtain ⟨⟨c0, c1, c2, c3, c4, c5⟩, -⟩ := (RB.out.below hb1).all6
    have RB1 := Lib.hid (RB.out.below hb1)
    go_wp2_with fail
    refine (implPolicy HP.out _).mono ?_
    rintro e w2 ⟨rfl, rfl⟩
    go_wp2_with fail
    refine (implTableAt AS s.length cS s x.table _ _ (hs.below TbR.stays hbz1) HSZ.out HNM.out).mono ?_
    rintro e w3 ⟨rfl, hb3⟩
    rw [HAT.out]
    have hbz3 := hbz1.trans (hb3.mono hbz1.size)
    clear c0 c1 c2 c3 c4 c5
    obtain ⟨⟨c0, c1, c2, c3, c4, c5⟩, -⟩ := (RB1.out.below hb3).all6
    have RB3 := Lib.hid (RB1.out.below hb3)
    go_wp2_with fail
    go_ret
    exact ⟨retB HR.out.symm, hbz3⟩
  have HAT := Lib.hid hat
  have HT := Lib.hid (HBP.out.trans ((stmtA_at hat hm).trans (stmtT_own _ _)))
  have i0 : (0 : Int) ≤ m := by omega
  have i1 : (m : Int) < s.length := by omega
  have i2 : ((m : Int) == -1) = false := by rw [beq_eq_false_iff_ne]; omega
  clear hat
  have hcl : s[m].cols.length ≤ 1048576 := by have h1 := HSZ.out; have := sum_mem_le Tb.sz s m hm; simp only [szL, Tb.sz] at *; omega
  go_enter Tryz.func9, Tryz.ntmps9
  go_wp2_with fail
  generalize w.alloc (.cells #[.int .i64 x.kind, .string x.table, .slice AR x.rows.length cR, .slice AW x.wher.length cW, .slice AE x.sets.length cE, .int .i64 x.policy] 37) = z0 at *
  refine (implSchemaOk AS s.length cS s _ _ (hs.below TbR.stays hb0) HSZ.out).mono ?_
  rintro e w1 ⟨rfl, hb1⟩
  rw [HB.out]
  have hbz1 := hb0.trans (hb1.mono hb0.size)
  obtain ⟨⟨c0, c1, c2, c3, c4, c5⟩, -⟩ := (RB.out.below hb1).all6
  have RB1 := Lib.hid (RB.out.below hb1)
  go_wp2_with fail
  refine (implPolicy HP.out _).mono ?_
  rintro e w2 ⟨rfl, rfl⟩
  go_wp2_with fail
  refine (implTableAt AS s.length cS s x.table _ _ (hs.below TbR.stays hbz1) HSZ.out HNM.out).mono ?_
  rintro e w3 ⟨rfl, hb3⟩
  rw [HAT.out]
  have hbz3 := hbz1.trans (hb3.mono hbz1.size)
  clear c0 c1 c2 c3 c4 c5
  obtain ⟨⟨c0, c1, c2, c3, c4, c5⟩, -⟩ := (RB1.out.below hb3).all6
  have RB3 := Lib.hid (RB1.out.below hb3)
  obtain ⟨b, off, A1, n1, d1, A2, n2, d2, A3, n3, d3, A4, n4, d4, A5, n5, d5, -, rfl, q0', q1', q2', q3', q4', q5', s1', -⟩ := TbR.at_ (hs.below TbR.stays hbz3) hm
  obtain rfl : s[m].cols.length = n1 := s1'.1
  go_wp2_with fail
  refine (implHasItsOwn AR AW AE cR cW cE x _).mono ?_
  rintro e w4 ⟨rfl, hb4⟩
  have hbz4 := hbz3.trans (hb4.mono hbz3.size)
  have q1 := below_keep hb4 _ _ q1'
  have s1 := s1'.below ClR.stays hb4
  clear q0' q1' q2' q3' q4' q5' s1'
  clear c0 c1 c2 c3 c4 c5
  obtain ⟨⟨c0, c1, c2, c3, c4, c5⟩, -⟩ := (RB3.out.below hb4).all6
  have RB4 := Lib.hid (RB3.out.below hb4)
  have q1' := Lib.hid q1
  clear q1
  cases hO : ownB x
  · have HR := Lib.hid (show stmtB s x = false by rw [HT.out, hO]; rfl)
    clear hO
    go_wp2_with fail
    go_ret
    exact ⟨retB HR.out.symm, hbz4⟩
  have HO := Lib.hid hO
  clear hO
  go_wp2_with fail
  refine (implInsertedOk b (off + m * 6) A1 AR d1 x.rows.length cR s[m].cols x.rows _ _ _ q1'.out s1 (hr.below RwR.stays hbz4) hcl hrn HVN.out).mono ?_
  rintro e w5 ⟨rfl, hb5⟩
  have hbz5 := hbz4.trans (hb5.mono hbz4.size)
  have q2' := Lib.hid (below_keep hb5 _ _ q1'.out)
  clear c0 c1 c2 c3 c4 c5
  obtain ⟨⟨c0, c1, c2, c3, c4, c5⟩, -⟩ := (RB4.out.below hb5).all6
  have RB5 := Lib.hid (RB4.out.below hb5)
  cases hI : insB s[m].cols x.rows
  · have HR := Lib.hid (show stmtB s x = false by rw [HT.out, HO.out, hI]; rfl)
    clear hI
    go_wp2_with fail
    go_ret
    exact ⟨retB HR.out.symm, hbz5⟩
  have HI := Lib.hid hI
  clear hI
  go_wp2_with fail
  refine (implWhereOk b (off + m * 6) A1 AW d1 x.wher.length cW s[m].cols x.wher _ _ q2'.out (hw.below TkR.stays hbz5) hwn).mono ?_
  rintro e w6 ⟨rfl, hb6⟩
  have hbz6 := hbz5.trans (hb6.mono hbz5.size)
  have q3' := Lib.hid (below_keep hb6 _ _ q2'.out)
  clear c0 c1 c2 c3 c4 c5
  obtain ⟨⟨c0, c1, c2, c3, c4, c5⟩, -⟩ := (RB5.out.below hb6).all6
  cases hW : whereB s[m].cols x.wher
  · have HR := Lib.hid (show stmtB s x = false by rw [HT.out, HO.out, HI.out, hW]; rfl)
    clear hW
    go_wp2_with fail
    go_ret
    exact ⟨retB HR.out.symm, hbz6⟩
  have HW := Lib.hid hW
  clear hW
  go_wp2_with fail
  refine (implSetsOk b (off + m * 6) A1 AE d1 x.sets.length cE s[m].cols x.sets _ _ q3'.out (he.below SeR.stays hbz6) hcl hen HEN.out).mono ?_
  rintro e w7 ⟨rfl, hb7⟩
  have HR := Lib.hid (show stmtB s x = setsB s[m].cols.length x.sets by rw [HT.out, HO.out, HI.out, HW.out]; rfl)
  have hbz7 := hbz6.trans (hb7.mono hbz6.size)
  go_wp2_with fail
  go_ret
  exact ⟨retB HR.out.symm, hbz7⟩

end Go.Proofs.YthafgkcokecnnaaGreat
namespace Go.Proofs.YthafgkcokecnnaaGreat
open Go.ChangeShapes Go.WideShapes Go.ChangeAt Go.RowKit Go.Joins Go.Deep
set_option linter.unusedVariables false

theorem Int_of_trod {H : Type} {enc : TypeId × Value → H} {W : World} {fuel : Nat} {cs : List Value} {x : DataW H × List MemPlace} (h : DataW.trod enc Tryz.prog W 0 (fun _ => true) true fuel 2 cs = some x) : ∃ d, IntR (fun _ => True) W cs d ∧ (Lit.int .i64 d).wf = true := by
  obtain ⟨k, q0, -, wk⟩ := DataW.trod_int Tryz.underlying2 h
  exact ⟨k, q0, wk⟩
theorem Val_of_trod {H : Type} {enc : TypeId × Value → H} {W : World} {fuel : Nat} {cs : List Value} {x : DataW H × List MemPlace} (h : DataW.trod enc Tryz.prog W 0 (fun _ => true) true fuel 86 cs = some x) : ∃ d, VlR (fun _ => True) W cs d ∧ d.s.size ≤ maxLen := by
  obtain ⟨k, n, s, rfl, -, -, hs⟩ := val_of_trod Tryz.underlying86 (by kernel_rfl) ⟨rfl, rfl, rfl⟩ (by kernel_rfl) (by kernel_rfl) (by kernel_rfl) Tryz.underlying2 Tryz.underlying2 Tryz.underlying9 h
  exact ⟨⟨k, n, s⟩, rfl, hs⟩
theorem Tok_of_trod {H : Type} {enc : TypeId × Value → H} {W : World} {fuel : Nat} {cs : List Value} {x : DataW H × List MemPlace} (h : DataW.trod enc Tryz.prog W 0 (fun _ => true) true fuel 88 cs = some x) : ∃ d, TkR (fun _ => True) W cs d ∧ d.vs.size ≤ maxLen := by
  obtain ⟨k, cc, vk, vn, vs, rfl, -, -, -, -, h5⟩ := tok_of_trod Tryz.underlying88 (by kernel_rfl) ⟨rfl, rfl, rfl⟩ (by kernel_rfl) (by kernel_rfl) (by kernel_rfl) Tryz.underlying2 Tryz.underlying2 Tryz.underlying86 ⟨rfl, rfl, rfl⟩ (by kernel_rfl) (by kernel_rfl) (by kernel_rfl) Tryz.underlying2 Tryz.underlying2 Tryz.underlying9 h
  exact ⟨⟨k, cc, vk, vn, vs⟩, rfl, h5⟩
theorem IntL_of_trod {H : Type} {enc : TypeId × Value → H} {W : World} {fuel : Nat} {x : DataW H × List MemPlace} {a : Option Addr} {len cap : Nat} (h : DataW.trod enc Tryz.prog W 0 (fun _ => true) true fuel 44 [.slice a len cap] = some x) : ∃ ds, Sl IntR 1 (fun _ => True) W a len ds ∧ ds.length ≤ maxLen := by
  obtain ⟨ds, h1, h2, -⟩ := sl_of_trod (R := IntR) (q := fun _ => True) (sz := 1) Tryz.underlying44 (by kernel_rfl) (by omega) (fun n c y hy => by obtain ⟨d, hd, _⟩ := Int_of_trod hy; exact ⟨d, hd, trivial⟩) h
  exact ⟨ds, h1, h2⟩
theorem TokL_of_trod {H : Type} {enc : TypeId × Value → H} {W : World} {fuel : Nat} {x : DataW H × List MemPlace} {a : Option Addr} {len cap : Nat} (h : DataW.trod enc Tryz.prog W 0 (fun _ => true) true fuel 24 [.slice a len cap] = some x) : ∃ ds : List Tk, Sl TkR 5 (fun _ => True) W a len ds ∧ (ds.length ≤ maxLen ∧ ∀ t ∈ ds, t.vs.size ≤ maxLen) :=
  sl_of_trod (R := TkR) (q := fun t : Tk => t.vs.size ≤ maxLen) (sz := 5) Tryz.underlying24 (by kernel_rfl) (by omega) (fun n c y hy => Tok_of_trod hy) h

theorem ValL_of_trod {H : Type} {enc : TypeId × Value → H} {W : World} {fuel : Nat} {x : DataW H × List MemPlace} {a : Option Addr} {len cap : Nat} (h : DataW.trod enc Tryz.prog W 0 (fun _ => true) true fuel 81 [.slice a len cap] = some x) : ∃ ds : List Vl, Sl VlR 3 (fun _ => True) W a len ds ∧ (ds.length ≤ maxLen ∧ ∀ v ∈ ds, v.s.size ≤ maxLen) :=
  sl_of_trod (R := VlR) (q := fun v : Vl => v.s.size ≤ maxLen) (sz := 3) Tryz.underlying81 (by kernel_rfl) (by omega) (fun n c y hy => Val_of_trod hy) h

set_option maxRecDepth 100000 in
theorem Col_of_trod {H : Type} {enc : TypeId × Value → H} {W : World} {fuel : Nat} {cs : List Value} {x : DataW H × List MemPlace} (h : DataW.trod enc Tryz.prog W 0 (fun _ => true) true fuel 132 cs = some x) : ∃ d, ClR (fun _ => True) W cs d ∧ d.wf := by
  obtain ⟨xs, n, _, _, hl, hlen, hf⟩ := DataW.trod_struct Tryz.underlying132 h
  rw [show Tryz.prog.cellsOf 132 = 6 by kernel_rfl] at hl
  match cs, hl, xs, hlen with
  | [c0, c1, c2, c3, c4, c5], _, [y0, y1, y2, y3], _ =>
    have e0 : DataW.trod enc Tryz.prog W 0 (fun _ => true) true n 9 [c0] = some y0 := by
      have := hf 0 _ rfl
      simpa [show Tryz.prog.cellsOf 9 = 1 by kernel_rfl] using this
    have e1 : DataW.trod enc Tryz.prog W 0 (fun _ => true) true n 2 [c1] = some y1 := by
      have := hf 1 _ rfl
      simpa [show Tryz.prog.cellsOf 2 = 1 by kernel_rfl] using this
    have e2 : DataW.trod enc Tryz.prog W 0 (fun _ => true) true n 4 [c2] = some y2 := by
      have := hf 2 _ rfl
      simpa [show Tryz.prog.cellsOf 4 = 1 by kernel_rfl] using this
    have e3 : DataW.trod enc Tryz.prog W 0 (fun _ => true) true n 86 [c3, c4, c5] = some y3 := by
      have := hf 3 _ rfl
      simpa [show Tryz.prog.cellsOf 86 = 3 by kernel_rfl] using this
    obtain ⟨z0, q0, -, u0⟩ := DataW.trod_string Tryz.underlying9 e0
    simp at q0
    subst q0
    obtain ⟨z1, q1, -, -⟩ := DataW.trod_int Tryz.underlying2 e1
    simp at q1
    subst q1
    obtain ⟨z2, q2, -⟩ := DataW.trod_bool Tryz.underlying4 e2
    simp at q2
    subst q2
    obtain ⟨z3, q3, u3⟩ := Val_of_trod e3
    have q3' : _ = Vl.cells z3 := q3
    simp only [Vl.cells, List.cons.injEq, and_true] at q3'
    obtain ⟨rfl, rfl, rfl⟩ := q3'
    exact ⟨⟨z0, z1, z2, z3⟩, rfl, ⟨u0, u3⟩⟩

theorem ColL_of_trod {H : Type} {enc : TypeId × Value → H} {W : World} {fuel : Nat} {x : DataW H × List MemPlace} {a : Option Addr} {len cap : Nat} (h : DataW.trod enc Tryz.prog W 0 (fun _ => true) true fuel 43 [.slice a len cap] = some x) : ∃ ds : List Cl, Sl ClR 6 (fun _ => True) W a len ds ∧ (ds.length ≤ maxLen ∧ ∀ y ∈ ds, y.wf) :=
  sl_of_trod (R := ClR) (q := Cl.wf) (sz := 6) Tryz.underlying43 (by kernel_rfl) (by omega) (fun n c y hy => Col_of_trod hy) h

set_option maxRecDepth 100000 in
theorem Unique_of_trod {H : Type} {enc : TypeId × Value → H} {W : World} {fuel : Nat} {cs : List Value} {x : DataW H × List MemPlace} (h : DataW.trod enc Tryz.prog W 0 (fun _ => true) true fuel 135 cs = some x) : ∃ d, UqR (fun _ => True) W cs d ∧ d.wf := by
  obtain ⟨xs, n, _, _, hl, hlen, hf⟩ := DataW.trod_struct Tryz.underlying135 h
  rw [show Tryz.prog.cellsOf 135 = 1 by kernel_rfl] at hl
  match cs, hl, xs, hlen with
  | [c0], _, [y0], _ =>
    have e0 : DataW.trod enc Tryz.prog W 0 (fun _ => true) true n 44 [c0] = some y0 := by
      have := hf 0 _ rfl
      simpa [show Tryz.prog.cellsOf 44 = 1 by kernel_rfl] using this
    obtain ⟨a0, l0, p0, rfl, hcp0⟩ : ∃ a l p, c0 = .slice a l p ∧ l ≤ p := by
      rcases open_slice Tryz.underlying44 e0 with ⟨hcs, _⟩ | ⟨ad, l, c, _, _, _, _, hcs, _, hlc, _⟩
      · exact ⟨_, _, _, by simpa using hcs, Nat.le_refl _⟩
      · exact ⟨_, _, _, by simpa using hcs, hlc⟩
    obtain ⟨z0, s0, u0⟩ := IntL_of_trod e0
    exact ⟨⟨z0⟩, ⟨_, _, _, rfl, s0, hcp0⟩, u0⟩

theorem UniqueL_of_trod {H : Type} {enc : TypeId × Value → H} {W : World} {fuel : Nat} {x : DataW H × List MemPlace} {a : Option Addr} {len cap : Nat} (h : DataW.trod enc Tryz.prog W 0 (fun _ => true) true fuel 45 [.slice a len cap] = some x) : ∃ ds : List Uq, Sl UqR 1 (fun _ => True) W a len ds ∧ (ds.length ≤ maxLen ∧ ∀ y ∈ ds, y.wf) :=
  sl_of_trod (R := UqR) (q := Uq.wf) (sz := 1) Tryz.underlying45 (by kernel_rfl) (by omega) (fun n c y hy => Unique_of_trod hy) h

set_option maxRecDepth 100000 in
theorem Check_of_trod {H : Type} {enc : TypeId × Value → H} {W : World} {fuel : Nat} {cs : List Value} {x : DataW H × List MemPlace} (h : DataW.trod enc Tryz.prog W 0 (fun _ => true) true fuel 138 cs = some x) : ∃ d, CkR (fun _ => True) W cs d ∧ d.wf := by
  obtain ⟨xs, n, _, _, hl, hlen, hf⟩ := DataW.trod_struct Tryz.underlying138 h
  rw [show Tryz.prog.cellsOf 138 = 1 by kernel_rfl] at hl
  match cs, hl, xs, hlen with
  | [c0], _, [y0], _ =>
    have e0 : DataW.trod enc Tryz.prog W 0 (fun _ => true) true n 24 [c0] = some y0 := by
      have := hf 0 _ rfl
      simpa [show Tryz.prog.cellsOf 24 = 1 by kernel_rfl] using this
    obtain ⟨a0, l0, p0, rfl, hcp0⟩ : ∃ a l p, c0 = .slice a l p ∧ l ≤ p := by
      rcases open_slice Tryz.underlying24 e0 with ⟨hcs, _⟩ | ⟨ad, l, c, _, _, _, _, hcs, _, hlc, _⟩
      · exact ⟨_, _, _, by simpa using hcs, Nat.le_refl _⟩
      · exact ⟨_, _, _, by simpa using hcs, hlc⟩
    obtain ⟨z0, s0, u0⟩ := TokL_of_trod e0
    exact ⟨⟨z0⟩, ⟨_, _, _, rfl, s0, hcp0⟩, u0⟩

theorem CheckL_of_trod {H : Type} {enc : TypeId × Value → H} {W : World} {fuel : Nat} {x : DataW H × List MemPlace} {a : Option Addr} {len cap : Nat} (h : DataW.trod enc Tryz.prog W 0 (fun _ => true) true fuel 46 [.slice a len cap] = some x) : ∃ ds : List Ck, Sl CkR 1 (fun _ => True) W a len ds ∧ (ds.length ≤ maxLen ∧ ∀ y ∈ ds, y.wf) :=
  sl_of_trod (R := CkR) (q := Ck.wf) (sz := 1) Tryz.underlying46 (by kernel_rfl) (by omega) (fun n c y hy => Check_of_trod hy) h

set_option maxRecDepth 100000 in
theorem Fk_of_trod {H : Type} {enc : TypeId × Value → H} {W : World} {fuel : Nat} {cs : List Value} {x : DataW H × List MemPlace} (h : DataW.trod enc Tryz.prog W 0 (fun _ => true) true fuel 140 cs = some x) : ∃ d, FkR (fun _ => True) W cs d ∧ d.wf := by
  obtain ⟨xs, n, _, _, hl, hlen, hf⟩ := DataW.trod_struct Tryz.underlying140 h
  rw [show Tryz.prog.cellsOf 140 = 5 by kernel_rfl] at hl
  match cs, hl, xs, hlen with
  | [c0, c1, c2, c3, c4], _, [y0, y1, y2, y3, y4], _ =>
    have e0 : DataW.trod enc Tryz.prog W 0 (fun _ => true) true n 44 [c0] = some y0 := by
      have := hf 0 _ rfl
      simpa [show Tryz.prog.cellsOf 44 = 1 by kernel_rfl] using this
    have e1 : DataW.trod enc Tryz.prog W 0 (fun _ => true) true n 9 [c1] = some y1 := by
      have := hf 1 _ rfl
      simpa [show Tryz.prog.cellsOf 9 = 1 by kernel_rfl] using this
    have e2 : DataW.trod enc Tryz.prog W 0 (fun _ => true) true n 2 [c2] = some y2 := by
      have := hf 2 _ rfl
      simpa [show Tryz.prog.cellsOf 2 = 1 by kernel_rfl] using this
    have e3 : DataW.trod enc Tryz.prog W 0 (fun _ => true) true n 2 [c3] = some y3 := by
      have := hf 3 _ rfl
      simpa [show Tryz.prog.cellsOf 2 = 1 by kernel_rfl] using this
    have e4 : DataW.trod enc Tryz.prog W 0 (fun _ => true) true n 4 [c4] = some y4 := by
      have := hf 4 _ rfl
      simpa [show Tryz.prog.cellsOf 4 = 1 by kernel_rfl] using this
    obtain ⟨a0, l0, p0, rfl, hcp0⟩ : ∃ a l p, c0 = .slice a l p ∧ l ≤ p := by
      rcases open_slice Tryz.underlying44 e0 with ⟨hcs, _⟩ | ⟨ad, l, c, _, _, _, _, hcs, _, hlc, _⟩
      · exact ⟨_, _, _, by simpa using hcs, Nat.le_refl _⟩
      · exact ⟨_, _, _, by simpa using hcs, hlc⟩
    obtain ⟨z0, s0, u0⟩ := IntL_of_trod e0
    obtain ⟨z1, q1, -, u1⟩ := DataW.trod_string Tryz.underlying9 e1
    simp at q1
    subst q1
    obtain ⟨z2, q2, -, -⟩ := DataW.trod_int Tryz.underlying2 e2
    simp at q2
    subst q2
    obtain ⟨z3, q3, -, -⟩ := DataW.trod_int Tryz.underlying2 e3
    simp at q3
    subst q3
    obtain ⟨z4, q4, -⟩ := DataW.trod_bool Tryz.underlying4 e4
    simp at q4
    subst q4
    exact ⟨⟨z0, z1, z2, z3, z4⟩, ⟨_, _, _, rfl, s0, hcp0⟩, ⟨u0, u1⟩⟩

theorem FkL_of_trod {H : Type} {enc : TypeId × Value → H} {W : World} {fuel : Nat} {x : DataW H × List MemPlace} {a : Option Addr} {len cap : Nat} (h : DataW.trod enc Tryz.prog W 0 (fun _ => true) true fuel 47 [.slice a len cap] = some x) : ∃ ds : List Fk, Sl FkR 5 (fun _ => True) W a len ds ∧ (ds.length ≤ maxLen ∧ ∀ y ∈ ds, y.wf) :=
  sl_of_trod (R := FkR) (q := Fk.wf) (sz := 5) Tryz.underlying47 (by kernel_rfl) (by omega) (fun n c y hy => Fk_of_trod hy) h

set_option maxRecDepth 100000 in
theorem Table_of_trod {H : Type} {enc : TypeId × Value → H} {W : World} {fuel : Nat} {cs : List Value} {x : DataW H × List MemPlace} (h : DataW.trod enc Tryz.prog W 0 (fun _ => true) true fuel 49 cs = some x) : ∃ d, TbR (fun _ => True) W cs d ∧ d.wf := by
  obtain ⟨xs, n, _, _, hl, hlen, hf⟩ := DataW.trod_struct Tryz.underlying49 h
  rw [show Tryz.prog.cellsOf 49 = 6 by kernel_rfl] at hl
  match cs, hl, xs, hlen with
  | [c0, c1, c2, c3, c4, c5], _, [y0, y1, y2, y3, y4, y5], _ =>
    have e0 : DataW.trod enc Tryz.prog W 0 (fun _ => true) true n 9 [c0] = some y0 := by
      have := hf 0 _ rfl
      simpa [show Tryz.prog.cellsOf 9 = 1 by kernel_rfl] using this
    have e1 : DataW.trod enc Tryz.prog W 0 (fun _ => true) true n 43 [c1] = some y1 := by
      have := hf 1 _ rfl
      simpa [show Tryz.prog.cellsOf 43 = 1 by kernel_rfl] using this
    have e2 : DataW.trod enc Tryz.prog W 0 (fun _ => true) true n 44 [c2] = some y2 := by
      have := hf 2 _ rfl
      simpa [show Tryz.prog.cellsOf 44 = 1 by kernel_rfl] using this
    have e3 : DataW.trod enc Tryz.prog W 0 (fun _ => true) true n 45 [c3] = some y3 := by
      have := hf 3 _ rfl
      simpa [show Tryz.prog.cellsOf 45 = 1 by kernel_rfl] using this
    have e4 : DataW.trod enc Tryz.prog W 0 (fun _ => true) true n 46 [c4] = some y4 := by
      have := hf 4 _ rfl
      simpa [show Tryz.prog.cellsOf 46 = 1 by kernel_rfl] using this
    have e5 : DataW.trod enc Tryz.prog W 0 (fun _ => true) true n 47 [c5] = some y5 := by
      have := hf 5 _ rfl
      simpa [show Tryz.prog.cellsOf 47 = 1 by kernel_rfl] using this
    obtain ⟨z0, q0, -, u0⟩ := DataW.trod_string Tryz.underlying9 e0
    simp at q0
    subst q0
    obtain ⟨a1, l1, p1, rfl, hcp1⟩ : ∃ a l p, c1 = .slice a l p ∧ l ≤ p := by
      rcases open_slice Tryz.underlying43 e1 with ⟨hcs, _⟩ | ⟨ad, l, c, _, _, _, _, hcs, _, hlc, _⟩
      · exact ⟨_, _, _, by simpa using hcs, Nat.le_refl _⟩
      · exact ⟨_, _, _, by simpa using hcs, hlc⟩
    obtain ⟨z1, s1, u1⟩ := ColL_of_trod e1
    obtain ⟨a2, l2, p2, rfl, hcp2⟩ : ∃ a l p, c2 = .slice a l p ∧ l ≤ p := by
      rcases open_slice Tryz.underlying44 e2 with ⟨hcs, _⟩ | ⟨ad, l, c, _, _, _, _, hcs, _, hlc, _⟩
      · exact ⟨_, _, _, by simpa using hcs, Nat.le_refl _⟩
      · exact ⟨_, _, _, by simpa using hcs, hlc⟩
    obtain ⟨z2, s2, u2⟩ := IntL_of_trod e2
    obtain ⟨a3, l3, p3, rfl, hcp3⟩ : ∃ a l p, c3 = .slice a l p ∧ l ≤ p := by
      rcases open_slice Tryz.underlying45 e3 with ⟨hcs, _⟩ | ⟨ad, l, c, _, _, _, _, hcs, _, hlc, _⟩
      · exact ⟨_, _, _, by simpa using hcs, Nat.le_refl _⟩
      · exact ⟨_, _, _, by simpa using hcs, hlc⟩
    obtain ⟨z3, s3, u3⟩ := UniqueL_of_trod e3
    obtain ⟨a4, l4, p4, rfl, hcp4⟩ : ∃ a l p, c4 = .slice a l p ∧ l ≤ p := by
      rcases open_slice Tryz.underlying46 e4 with ⟨hcs, _⟩ | ⟨ad, l, c, _, _, _, _, hcs, _, hlc, _⟩
      · exact ⟨_, _, _, by simpa using hcs, Nat.le_refl _⟩
      · exact ⟨_, _, _, by simpa using hcs, hlc⟩
    obtain ⟨z4, s4, u4⟩ := CheckL_of_trod e4
    obtain ⟨a5, l5, p5, rfl, hcp5⟩ : ∃ a l p, c5 = .slice a l p ∧ l ≤ p := by
      rcases open_slice Tryz.underlying47 e5 with ⟨hcs, _⟩ | ⟨ad, l, c, _, _, _, _, hcs, _, hlc, _⟩
      · exact ⟨_, _, _, by simpa using hcs, Nat.le_refl _⟩
      · exact ⟨_, _, _, by simpa using hcs, hlc⟩
    obtain ⟨z5, s5, u5⟩ := FkL_of_trod e5
    exact ⟨⟨z0, z1, z2, z3, z4, z5⟩, ⟨_, _, _, _, _, _, _, _, _, _, _, _, _, _, _, rfl, s1, s2, s3, s4, s5, ⟨hcp1, hcp2, hcp3, hcp4, hcp5⟩⟩, ⟨u0, u1, u2, u3, u4, u5⟩⟩

theorem TableL_of_trod {H : Type} {enc : TypeId × Value → H} {W : World} {fuel : Nat} {x : DataW H × List MemPlace} {a : Option Addr} {len cap : Nat} (h : DataW.trod enc Tryz.prog W 0 (fun _ => true) true fuel 22 [.slice a len cap] = some x) : ∃ ds : List Tb, Sl TbR 6 (fun _ => True) W a len ds ∧ (ds.length ≤ maxLen ∧ ∀ y ∈ ds, y.wf) :=
  sl_of_trod (R := TbR) (q := Tb.wf) (sz := 6) Tryz.underlying22 (by kernel_rfl) (by omega) (fun n c y hy => Table_of_trod hy) h

set_option maxRecDepth 100000 in
theorem Row_of_trod {H : Type} {enc : TypeId × Value → H} {W : World} {fuel : Nat} {cs : List Value} {x : DataW H × List MemPlace} (h : DataW.trod enc Tryz.prog W 0 (fun _ => true) true fuel 83 cs = some x) : ∃ d, RwR (fun _ => True) W cs d ∧ d.wf := by
  obtain ⟨xs, n, _, _, hl, hlen, hf⟩ := DataW.trod_struct Tryz.underlying83 h
  rw [show Tryz.prog.cellsOf 83 = 2 by kernel_rfl] at hl
  match cs, hl, xs, hlen with
  | [c0, c1], _, [y0, y1], _ =>
    have e0 : DataW.trod enc Tryz.prog W 0 (fun _ => true) true n 2 [c0] = some y0 := by
      have := hf 0 _ rfl
      simpa [show Tryz.prog.cellsOf 2 = 1 by kernel_rfl] using this
    have e1 : DataW.trod enc Tryz.prog W 0 (fun _ => true) true n 81 [c1] = some y1 := by
      have := hf 1 _ rfl
      simpa [show Tryz.prog.cellsOf 81 = 1 by kernel_rfl] using this
    obtain ⟨z0, q0, -, -⟩ := DataW.trod_int Tryz.underlying2 e0
    simp at q0
    subst q0
    obtain ⟨a1, l1, p1, rfl, hcp1⟩ : ∃ a l p, c1 = .slice a l p ∧ l ≤ p := by
      rcases open_slice Tryz.underlying81 e1 with ⟨hcs, _⟩ | ⟨ad, l, c, _, _, _, _, hcs, _, hlc, _⟩
      · exact ⟨_, _, _, by simpa using hcs, Nat.le_refl _⟩
      · exact ⟨_, _, _, by simpa using hcs, hlc⟩
    obtain ⟨z1, s1, u1⟩ := ValL_of_trod e1
    exact ⟨⟨z0, z1⟩, ⟨_, _, _, rfl, s1, hcp1⟩, u1⟩

theorem RowL_of_trod {H : Type} {enc : TypeId × Value → H} {W : World} {fuel : Nat} {x : DataW H × List MemPlace} {a : Option Addr} {len cap : Nat} (h : DataW.trod enc Tryz.prog W 0 (fun _ => true) true fuel 23 [.slice a len cap] = some x) : ∃ ds : List Rw, Sl RwR 2 (fun _ => True) W a len ds ∧ (ds.length ≤ maxLen ∧ ∀ y ∈ ds, y.wf) :=
  sl_of_trod (R := RwR) (q := Rw.wf) (sz := 2) Tryz.underlying23 (by kernel_rfl) (by omega) (fun n c y hy => Row_of_trod hy) h

set_option maxRecDepth 100000 in
theorem Set_of_trod {H : Type} {enc : TypeId × Value → H} {W : World} {fuel : Nat} {cs : List Value} {x : DataW H × List MemPlace} (h : DataW.trod enc Tryz.prog W 0 (fun _ => true) true fuel 91 cs = some x) : ∃ d, SeR (fun _ => True) W cs d ∧ d.wf := by
  obtain ⟨xs, n, _, _, hl, hlen, hf⟩ := DataW.trod_struct Tryz.underlying91 h
  rw [show Tryz.prog.cellsOf 91 = 2 by kernel_rfl] at hl
  match cs, hl, xs, hlen with
  | [c0, c1], _, [y0, y1], _ =>
    have e0 : DataW.trod enc Tryz.prog W 0 (fun _ => true) true n 2 [c0] = some y0 := by
      have := hf 0 _ rfl
      simpa [show Tryz.prog.cellsOf 2 = 1 by kernel_rfl] using this
    have e1 : DataW.trod enc Tryz.prog W 0 (fun _ => true) true n 24 [c1] = some y1 := by
      have := hf 1 _ rfl
      simpa [show Tryz.prog.cellsOf 24 = 1 by kernel_rfl] using this
    obtain ⟨z0, q0, -, -⟩ := DataW.trod_int Tryz.underlying2 e0
    simp at q0
    subst q0
    obtain ⟨a1, l1, p1, rfl, hcp1⟩ : ∃ a l p, c1 = .slice a l p ∧ l ≤ p := by
      rcases open_slice Tryz.underlying24 e1 with ⟨hcs, _⟩ | ⟨ad, l, c, _, _, _, _, hcs, _, hlc, _⟩
      · exact ⟨_, _, _, by simpa using hcs, Nat.le_refl _⟩
      · exact ⟨_, _, _, by simpa using hcs, hlc⟩
    obtain ⟨z1, s1, u1⟩ := TokL_of_trod e1
    exact ⟨⟨z0, z1⟩, ⟨_, _, _, rfl, s1, hcp1⟩, u1⟩

theorem SetL_of_trod {H : Type} {enc : TypeId × Value → H} {W : World} {fuel : Nat} {x : DataW H × List MemPlace} {a : Option Addr} {len cap : Nat} (h : DataW.trod enc Tryz.prog W 0 (fun _ => true) true fuel 25 [.slice a len cap] = some x) : ∃ ds : List Se, Sl SeR 2 (fun _ => True) W a len ds ∧ (ds.length ≤ maxLen ∧ ∀ y ∈ ds, y.wf) :=
  sl_of_trod (R := SeR) (q := Se.wf) (sz := 2) Tryz.underlying25 (by kernel_rfl) (by omega) (fun n c y hy => Set_of_trod hy) h

set_option maxRecDepth 100000 in
theorem Stmt_of_trod {H : Type} {enc : TypeId × Value → H} {W : World} {fuel : Nat} {cs : List Value} {x : DataW H × List MemPlace} (h : DataW.trod enc Tryz.prog W 0 (fun _ => true) true fuel 27 cs = some x) : ∃ d, SqR (fun _ => True) W cs d ∧ d.wf := by
  obtain ⟨xs, n, _, _, hl, hlen, hf⟩ := DataW.trod_struct Tryz.underlying27 h
  rw [show Tryz.prog.cellsOf 27 = 6 by kernel_rfl] at hl
  match cs, hl, xs, hlen with
  | [c0, c1, c2, c3, c4, c5], _, [y0, y1, y2, y3, y4, y5], _ =>
    have e0 : DataW.trod enc Tryz.prog W 0 (fun _ => true) true n 2 [c0] = some y0 := by
      have := hf 0 _ rfl
      simpa [show Tryz.prog.cellsOf 2 = 1 by kernel_rfl] using this
    have e1 : DataW.trod enc Tryz.prog W 0 (fun _ => true) true n 9 [c1] = some y1 := by
      have := hf 1 _ rfl
      simpa [show Tryz.prog.cellsOf 9 = 1 by kernel_rfl] using this
    have e2 : DataW.trod enc Tryz.prog W 0 (fun _ => true) true n 23 [c2] = some y2 := by
      have := hf 2 _ rfl
      simpa [show Tryz.prog.cellsOf 23 = 1 by kernel_rfl] using this
    have e3 : DataW.trod enc Tryz.prog W 0 (fun _ => true) true n 24 [c3] = some y3 := by
      have := hf 3 _ rfl
      simpa [show Tryz.prog.cellsOf 24 = 1 by kernel_rfl] using this
    have e4 : DataW.trod enc Tryz.prog W 0 (fun _ => true) true n 25 [c4] = some y4 := by
      have := hf 4 _ rfl
      simpa [show Tryz.prog.cellsOf 25 = 1 by kernel_rfl] using this
    have e5 : DataW.trod enc Tryz.prog W 0 (fun _ => true) true n 2 [c5] = some y5 := by
      have := hf 5 _ rfl
      simpa [show Tryz.prog.cellsOf 2 = 1 by kernel_rfl] using this
    obtain ⟨z0, q0, -, -⟩ := DataW.trod_int Tryz.underlying2 e0
    simp at q0
    subst q0
    obtain ⟨z1, q1, -, u1⟩ := DataW.trod_string Tryz.underlying9 e1
    simp at q1
    subst q1
    obtain ⟨a2, l2, p2, rfl, hcp2⟩ : ∃ a l p, c2 = .slice a l p ∧ l ≤ p := by
      rcases open_slice Tryz.underlying23 e2 with ⟨hcs, _⟩ | ⟨ad, l, c, _, _, _, _, hcs, _, hlc, _⟩
      · exact ⟨_, _, _, by simpa using hcs, Nat.le_refl _⟩
      · exact ⟨_, _, _, by simpa using hcs, hlc⟩
    obtain ⟨z2, s2, u2⟩ := RowL_of_trod e2
    obtain ⟨a3, l3, p3, rfl, hcp3⟩ : ∃ a l p, c3 = .slice a l p ∧ l ≤ p := by
      rcases open_slice Tryz.underlying24 e3 with ⟨hcs, _⟩ | ⟨ad, l, c, _, _, _, _, hcs, _, hlc, _⟩
      · exact ⟨_, _, _, by simpa using hcs, Nat.le_refl _⟩
      · exact ⟨_, _, _, by simpa using hcs, hlc⟩
    obtain ⟨z3, s3, u3⟩ := TokL_of_trod e3
    obtain ⟨a4, l4, p4, rfl, hcp4⟩ : ∃ a l p, c4 = .slice a l p ∧ l ≤ p := by
      rcases open_slice Tryz.underlying25 e4 with ⟨hcs, _⟩ | ⟨ad, l, c, _, _, _, _, hcs, _, hlc, _⟩
      · exact ⟨_, _, _, by simpa using hcs, Nat.le_refl _⟩
      · exact ⟨_, _, _, by simpa using hcs, hlc⟩
    obtain ⟨z4, s4, u4⟩ := SetL_of_trod e4
    obtain ⟨z5, q5, -, -⟩ := DataW.trod_int Tryz.underlying2 e5
    simp at q5
    subst q5
    exact ⟨⟨z0, z1, z2, z3, z4, z5⟩, ⟨_, _, _, _, _, _, _, _, _, rfl, s2, s3, s4, ⟨hcp2, hcp3, hcp4⟩⟩, ⟨u1, u2, u3, u4⟩⟩


end Go.Proofs.YthafgkcokecnnaaGreat
namespace Go.Proofs.YthafgkcokecnnaaGreat
open Go.RowKit
set_option linter.unusedVariables false

theorem lawsSzInts (A : Option Addr) (n c : Nat) (l : List Int) (left : Int) (ok : Nat → Prop) (w : World) (h : Sl IntR 1 ok w A n l) (hwf : l.length ≤ maxLen) (hp0 : 0 ≤ left) (hle : left ≤ 1048576) :
    Calls Tryz.prog 34 #[.slice A n c, .int .i64 left] w fun e w' => e = .returned (.int .i64 (szR left l.length)) ∧ Below w.heap.size w w' := by
  obtain rfl : l.length = n := h.1
  unfold maxLen at hwf
  by_cases hs : left - (l.length : Int) < 0
  · go_enter Tryz.func34, Tryz.ntmps34
    go_wp2
    go_ret
    exact ⟨retI (szR_no (by omega)), Below.refl _ _⟩
  · have hs' : decide (left - (l.length : Int) < 0) = false := by simpa using hs
    go_enter Tryz.func34, Tryz.ntmps34
    go_wp2
    go_ret
    exact ⟨retI (szR_yes (by omega) rfl), Below.refl _ _⟩

theorem lawsSzValR (v : Vl) (left : Int) (w : World) (hs : v.s.size ≤ maxLen) (h0 : 0 ≤ left) (h1 : left ≤ 1048576) :
    Calls Tryz.prog 74 #[.agg #[.int .i64 v.k, .int .i64 v.n, .string v.s], .int .i64 left] w fun e w' => e = .returned (.int .i64 (szR left v.s.size)) ∧ Below w.heap.size w w' :=
  (lawsSzVal v.k v.n v.s left w h0 h1 hs).mono fun e w' ⟨he, hb⟩ => ⟨by rw [he, show szN left v.s = szR left v.s.size by unfold szN szR; split <;> split <;> omega], hb⟩
theorem lawsSzTokR (x : Tk) (left : Int) (w : World) (hs : x.vs.size ≤ maxLen) (h0 : 0 ≤ left) (h1 : left ≤ 1048576) :
    Calls Tryz.prog 39 #[.agg #[.int .i64 x.k, .int .i64 x.c, .int .i64 x.vk, .int .i64 x.vn, .string x.vs], .int .i64 left] w fun e w' => e = .returned (.int .i64 (szR left x.vs.size)) ∧ Below w.heap.size w w' :=
  (lawsSzTok x left w h0 h1 hs).mono fun e w' ⟨he, hb⟩ => ⟨by rw [he, show szN left x.vs = szR left x.vs.size by unfold szN szR; split <;> split <;> omega], hb⟩

set_option maxHeartbeats 1000000 in
theorem lawsSzTokL (A : Option Addr) (n c : Nat) (l : List Tk) (left : Int) (ok : Nat → Prop) (w : World) (h : Sl TkR 5 ok w A n l) (hwf : (l.length ≤ maxLen ∧ ∀ t ∈ l, t.vs.size ≤ maxLen)) (hp0 : 0 ≤ left) (hle : left ≤ 1048576) :
    Calls Tryz.prog 14 #[.slice A n c, .int .i64 left] w fun e w' => e = .returned (.int .i64 (szR left (szL (fun t : Tk => t.vs.size) l))) ∧ Below w.heap.size w w' := by
  obtain rfl : l.length = n := h.1
  obtain ⟨hlen, hall⟩ := hwf
  unfold maxLen at hlen
  have HW := Lib.hid hall
  clear hall
  by_cases hs : left - (l.length : Int) < 0
  · go_enter Tryz.func14, Tryz.ntmps14
    go_wp2
    go_ret
    exact ⟨retI (szR_no (by unfold szL; omega)), Below.refl _ _⟩
  have hs' : decide (left - (l.length : Int) < 0) = false := by simpa using hs
  go_enter Tryz.func14, Tryz.ntmps14
  go_wp2
  go_loopw [1, 5] (fun m i wr => ∃ (k : Nat) (u : Int), k ≤ l.length ∧ i = .int .i64 k ∧ m = .int .i64 u ∧ 0 ≤ u ∧ u ≤ left ∧ Hid (u = left - l.length - ((l.take k).map (fun t : Tk => t.vs.size)).sum) ∧ Below w.heap.size w wr) (fun _ i _ => l.length - (intOf i).toNat)
  case atStart => exact ⟨0, _, by omega, rfl, rfl, by omega, by omega, Lib.hid (by simp), Below.refl _ _⟩
  case round =>
    obtain ⟨k, u, hk, rfl, rfl, hu0, hu1, hu, hb⟩ := hrel
    by_cases hlt : k < l.length
    · obtain ⟨b, off, -, rfl, q0, q1, q2, q3, q4⟩ := TkR.at_ (h.below TkR.stays hb) hlt
      have hx := HW.out _ (List.getElem_mem hlt)
      have hst := sum_take (fun t : Tk => t.vs.size) l k hlt
      have hsl := sum_take_le (fun t : Tk => t.vs.size) l (k + 1)
      have HST := Lib.hid hst
      have HSL := Lib.hid hsl
      have HX := Lib.hid hx
      clear hst hsl hx
      rcases szR_cases u (l[k].vs.size) hu0 with ⟨hno, hv⟩ | ⟨u', hv, hu', hu0', hu1', -⟩
      · go_wp2_with fail
        refine (lawsSzTokR l[k] u _ HX.out hu0 (by omega)).mono ?_
        rintro e w1 ⟨rfl, hb1⟩
        rw [hv.out]
        go_wp2_with fail
        go_ret
        exact ⟨retI (szR_no (by have e1 := hu.out; have e2 := HST.out; have e3 := HSL.out; unfold szL; (try simp only at e1 e2 e3 ⊢); omega)), hb.trans (hb1.mono hb.size)⟩
      · go_wp2_with fail
        refine (lawsSzTokR l[k] u _ HX.out hu0 (by omega)).mono ?_
        rintro e w1 ⟨rfl, hb1⟩
        rw [hv.out]
        go_wp2_with fail
        go_roundw
        case rel => exact ⟨k + 1, _, by omega, by go_num, rfl, by omega, by omega, Lib.hid (by have e1 := hu.out; have e2 := HST.out; have e3 := hu'.out; (try simp only at e1 e2 e3 ⊢); omega), hb.trans (hb1.mono hb.size)⟩
        case measure => simp [intOf]; omega
    · have e : l.take k = l := List.take_of_length_le (by omega)
      have e1 := hu.out
      rw [e] at e1
      have HU := Lib.hid e1
      clear e1 hu e
      go_wp2
      go_ret
      exact ⟨retI (szR_yes (by omega) (by have e1 := HU.out; unfold szL; omega)), hb⟩

set_option maxHeartbeats 1000000 in
theorem lawsSzValL (A : Option Addr) (n c : Nat) (l : List Vl) (left : Int) (ok : Nat → Prop) (w : World) (h : Sl VlR 3 ok w A n l) (hwf : (l.length ≤ maxLen ∧ ∀ v ∈ l, v.s.size ≤ maxLen)) (hp0 : 0 ≤ left) (hle : left ≤ 1048576) :
    Calls Tryz.prog 73 #[.slice A n c, .int .i64 left] w fun e w' => e = .returned (.int .i64 (szR left (szL (fun v : Vl => v.s.size) l))) ∧ Below w.heap.size w w' := by
  obtain rfl : l.length = n := h.1
  obtain ⟨hlen, hall⟩ := hwf
  unfold maxLen at hlen
  have HW := Lib.hid hall
  clear hall
  by_cases hs : left - (l.length : Int) < 0
  · go_enter Tryz.func73, Tryz.ntmps73
    go_wp2
    go_ret
    exact ⟨retI (szR_no (by unfold szL; omega)), Below.refl _ _⟩
  have hs' : decide (left - (l.length : Int) < 0) = false := by simpa using hs
  go_enter Tryz.func73, Tryz.ntmps73
  go_wp2
  go_loopw [1, 5] (fun m i wr => ∃ (k : Nat) (u : Int), k ≤ l.length ∧ i = .int .i64 k ∧ m = .int .i64 u ∧ 0 ≤ u ∧ u ≤ left ∧ Hid (u = left - l.length - ((l.take k).map (fun v : Vl => v.s.size)).sum) ∧ Below w.heap.size w wr) (fun _ i _ => l.length - (intOf i).toNat)
  case atStart => exact ⟨0, _, by omega, rfl, rfl, by omega, by omega, Lib.hid (by simp), Below.refl _ _⟩
  case round =>
    obtain ⟨k, u, hk, rfl, rfl, hu0, hu1, hu, hb⟩ := hrel
    by_cases hlt : k < l.length
    · obtain ⟨b, off, -, rfl, q0, q1, q2⟩ := VlR.at_ (h.below VlR.stays hb) hlt
      have hx := HW.out _ (List.getElem_mem hlt)
      have hst := sum_take (fun v : Vl => v.s.size) l k hlt
      have hsl := sum_take_le (fun v : Vl => v.s.size) l (k + 1)
      have HST := Lib.hid hst
      have HSL := Lib.hid hsl
      have HX := Lib.hid hx
      clear hst hsl hx
      rcases szR_cases u (l[k].s.size) hu0 with ⟨hno, hv⟩ | ⟨u', hv, hu', hu0', hu1', -⟩
      · go_wp2_with fail
        refine (lawsSzValR l[k] u _ HX.out hu0 (by omega)).mono ?_
        rintro e w1 ⟨rfl, hb1⟩
        rw [hv.out]
        go_wp2_with fail
        go_ret
        exact ⟨retI (szR_no (by have e1 := hu.out; have e2 := HST.out; have e3 := HSL.out; unfold szL; (try simp only at e1 e2 e3 ⊢); omega)), hb.trans (hb1.mono hb.size)⟩
      · go_wp2_with fail
        refine (lawsSzValR l[k] u _ HX.out hu0 (by omega)).mono ?_
        rintro e w1 ⟨rfl, hb1⟩
        rw [hv.out]
        go_wp2_with fail
        go_roundw
        case rel => exact ⟨k + 1, _, by omega, by go_num, rfl, by omega, by omega, Lib.hid (by have e1 := hu.out; have e2 := HST.out; have e3 := hu'.out; (try simp only at e1 e2 e3 ⊢); omega), hb.trans (hb1.mono hb.size)⟩
        case measure => simp [intOf]; omega
    · have e : l.take k = l := List.take_of_length_le (by omega)
      have e1 := hu.out
      rw [e] at e1
      have HU := Lib.hid e1
      clear e1 hu e
      go_wp2
      go_ret
      exact ⟨retI (szR_yes (by omega) (by have e1 := HU.out; unfold szL; omega)), hb⟩

set_option maxRecDepth 100000 in
set_option maxHeartbeats 1000000 in
theorem lawsSzCol (x : Cl)  (left : Int) (ok : Nat → Prop) (w : World)  (hwf : x.wf) (hp0 : 0 ≤ left) (hle : left ≤ 1048576) :
    Calls Tryz.prog 69 #[.agg #[.string x.name, .int .i64 x.kind, .bool x.nn, .int .i64 x.d.k, .int .i64 x.d.n, .string x.d.s], .int .i64 left] w fun e w' => e = .returned (.int .i64 (szR left x.sz)) ∧ Below w.heap.size w w' := by
  obtain ⟨wf0, wf3⟩ := hwf
  unfold maxLen at wf0
  have WF3 := Lib.hid wf3
  clear wf3
  have HB := Lib.hid ((Below.refl w.heap.size w).alloc (Nat.le_refl _) (.cells #[.string x.name, .int .i64 x.kind, .bool x.nn, .int .i64 x.d.k, .int .i64 x.d.n, .string x.d.s] 132))
  have RB := Lib.hid (Row.new w 132 #[.string x.name, .int .i64 x.kind, .bool x.nn, .int .i64 x.d.k, .int .i64 x.d.n, .string x.d.s])
  by_cases hs0 : left - (x.name.size : Int) < 0
  · go_enter Tryz.func69, Tryz.ntmps69
    go_wp2_with fail
    go_ret
    exact ⟨retI (szR_no (by simp only [Cl.sz]; omega)), HB.out⟩
  have hs0' : decide (left - (x.name.size : Int) < 0) = false := by simpa using hs0
  go_enter Tryz.func69, Tryz.ntmps69
  go_wp2_with fail
  refine (lawsSzValR x.d (left - (x.name.size : Int)) _ WF3.out (by omega) (by omega)).mono ?_
  rintro e w1 ⟨rfl, hb1⟩
  have hbb1 := (HB.out).trans (hb1.mono (HB.out).size)
  have RB1 := Lib.hid ((RB.out).below hb1)
  obtain ⟨⟨p1_0, p1_1, p1_2, p1_3, p1_4, p1_5⟩, -⟩ := RB1.out.all6
  rcases szR_cases (left - (x.name.size : Int)) (x.d.s.size) (by omega) with ⟨hno1, hv1⟩ | ⟨l1, hv1, hl1, h01, h11, -⟩
  · rw [hv1.out]
    go_wp2_with fail
    go_ret
    exact ⟨retI (szR_no (by simp only [Cl.sz]; omega)), hbb1⟩
  rw [hv1.out]
  go_wp2_with fail
  go_ret
  exact ⟨retI (szR_yes (by omega) (by have := hl1.out; simp only [Cl.sz]; omega)), hbb1⟩

set_option maxHeartbeats 1000000 in
theorem lawsSzColL (A : Option Addr) (n c : Nat) (l : List Cl) (left : Int) (ok : Nat → Prop) (w : World) (h : Sl ClR 6 ok w A n l) (hwf : (l.length ≤ maxLen ∧ ∀ y ∈ l, y.wf)) (hp0 : 0 ≤ left) (hle : left ≤ 1048576) :
    Calls Tryz.prog 33 #[.slice A n c, .int .i64 left] w fun e w' => e = .returned (.int .i64 (szR left (szL Cl.sz l))) ∧ Below w.heap.size w w' := by
  obtain rfl : l.length = n := h.1
  obtain ⟨hlen, hall⟩ := hwf
  unfold maxLen at hlen
  have HW := Lib.hid hall
  clear hall
  by_cases hs : left - (l.length : Int) < 0
  · go_enter Tryz.func33, Tryz.ntmps33
    go_wp2
    go_ret
    exact ⟨retI (szR_no (by unfold szL; omega)), Below.refl _ _⟩
  have hs' : decide (left - (l.length : Int) < 0) = false := by simpa using hs
  go_enter Tryz.func33, Tryz.ntmps33
  go_wp2
  go_loopw [1, 5] (fun m i wr => ∃ (k : Nat) (u : Int), k ≤ l.length ∧ i = .int .i64 k ∧ m = .int .i64 u ∧ 0 ≤ u ∧ u ≤ left ∧ Hid (u = left - l.length - ((l.take k).map (Cl.sz)).sum) ∧ Below w.heap.size w wr) (fun _ i _ => l.length - (intOf i).toNat)
  case atStart => exact ⟨0, _, by omega, rfl, rfl, by omega, by omega, Lib.hid (by simp), Below.refl _ _⟩
  case round =>
    obtain ⟨k, u, hk, rfl, rfl, hu0, hu1, hu, hb⟩ := hrel
    by_cases hlt : k < l.length
    · obtain ⟨b, off, -, rfl, q0, q1, q2, q3, q4, q5⟩ := ClR.at_ (h.below ClR.stays hb) hlt
      have hx := HW.out _ (List.getElem_mem hlt)
      have hst := sum_take (Cl.sz) l k hlt
      have hsl := sum_take_le (Cl.sz) l (k + 1)
      have HST := Lib.hid hst
      have HSL := Lib.hid hsl
      have HX := Lib.hid hx
      clear hst hsl hx
      rcases szR_cases u (l[k].sz) hu0 with ⟨hno, hv⟩ | ⟨u', hv, hu', hu0', hu1', -⟩
      · go_wp2_with fail
        refine (lawsSzCol l[k]  u ok _  HX.out hu0 (by omega)).mono ?_
        rintro e w1 ⟨rfl, hb1⟩
        rw [hv.out]
        go_wp2_with fail
        go_ret
        exact ⟨retI (szR_no (by have e1 := hu.out; have e2 := HST.out; have e3 := HSL.out; unfold szL; (try simp only at e1 e2 e3 ⊢); omega)), hb.trans (hb1.mono hb.size)⟩
      · go_wp2_with fail
        refine (lawsSzCol l[k]  u ok _  HX.out hu0 (by omega)).mono ?_
        rintro e w1 ⟨rfl, hb1⟩
        rw [hv.out]
        go_wp2_with fail
        go_roundw
        case rel => exact ⟨k + 1, _, by omega, by go_num, rfl, by omega, by omega, Lib.hid (by have e1 := hu.out; have e2 := HST.out; have e3 := hu'.out; (try simp only at e1 e2 e3 ⊢); omega), hb.trans (hb1.mono hb.size)⟩
        case measure => simp [intOf]; omega
    · have e : l.take k = l := List.take_of_length_le (by omega)
      have e1 := hu.out
      rw [e] at e1
      have HU := Lib.hid e1
      clear e1 hu e
      go_wp2
      go_ret
      exact ⟨retI (szR_yes (by omega) (by have e1 := HU.out; unfold szL; omega)), hb⟩

set_option maxRecDepth 100000 in
set_option maxHeartbeats 1000000 in
theorem lawsSzUnique (x : Uq) (A0 : Option Addr) (n0 c0 : Nat) (left : Int) (ok : Nat → Prop) (w : World) (h0 : Sl IntR 1 ok w A0 n0 x.cols) (hwf : x.wf) (hp0 : 0 ≤ left) (hle : left ≤ 1048576) :
    Calls Tryz.prog 70 #[.agg #[.slice A0 n0 c0], .int .i64 left] w fun e w' => e = .returned (.int .i64 (szR left x.sz)) ∧ Below w.heap.size w w' := by
  have wf0 := hwf
  have WF0 := Lib.hid wf0
  clear wf0
  have HB := Lib.hid ((Below.refl w.heap.size w).alloc (Nat.le_refl _) (.cells #[.slice A0 n0 c0] 135))
  have RB := Lib.hid (Row.new w 135 #[.slice A0 n0 c0])
  go_enter Tryz.func70, Tryz.ntmps70
  go_wp2_with fail
  refine (lawsSzInts A0 n0 c0 x.cols left ok _ (h0.below IntR.stays HB.out) WF0.out (by omega) (by omega)).mono ?_
  rintro e w1 ⟨rfl, hb1⟩
  have hbb1 := (HB.out).trans (hb1.mono (HB.out).size)
  have RB1 := Lib.hid ((RB.out).below hb1)
  obtain ⟨p1_0, -⟩ := RB1.out.all1
  rcases szR_cases left (x.cols.length) (by omega) with ⟨hno1, hv1⟩ | ⟨l1, hv1, hl1, h01, h11, -⟩
  · rw [hv1.out]
    go_wp2_with fail
    go_ret
    exact ⟨retI (szR_no (by simp only [Uq.sz]; omega)), hbb1⟩
  rw [hv1.out]
  go_wp2_with fail
  go_ret
  exact ⟨retI (szR_yes (by omega) (by have := hl1.out; simp only [Uq.sz]; omega)), hbb1⟩

set_option maxHeartbeats 1000000 in
theorem lawsSzUniqueL (A : Option Addr) (n c : Nat) (l : List Uq) (left : Int) (ok : Nat → Prop) (w : World) (h : Sl UqR 1 ok w A n l) (hwf : (l.length ≤ maxLen ∧ ∀ y ∈ l, y.wf)) (hp0 : 0 ≤ left) (hle : left ≤ 1048576) :
    Calls Tryz.prog 35 #[.slice A n c, .int .i64 left] w fun e w' => e = .returned (.int .i64 (szR left (szL Uq.sz l))) ∧ Below w.heap.size w w' := by
  obtain rfl : l.length = n := h.1
  obtain ⟨hlen, hall⟩ := hwf
  unfold maxLen at hlen
  have HW := Lib.hid hall
  clear hall
  by_cases hs : left - (l.length : Int) < 0
  · go_enter Tryz.func35, Tryz.ntmps35
    go_wp2
    go_ret
    exact ⟨retI (szR_no (by unfold szL; omega)), Below.refl _ _⟩
  have hs' : decide (left - (l.length : Int) < 0) = false := by simpa using hs
  go_enter Tryz.func35, Tryz.ntmps35
  go_wp2
  go_loopw [1, 5] (fun m i wr => ∃ (k : Nat) (u : Int), k ≤ l.length ∧ i = .int .i64 k ∧ m = .int .i64 u ∧ 0 ≤ u ∧ u ≤ left ∧ Hid (u = left - l.length - ((l.take k).map (Uq.sz)).sum) ∧ Below w.heap.size w wr) (fun _ i _ => l.length - (intOf i).toNat)
  case atStart => exact ⟨0, _, by omega, rfl, rfl, by omega, by omega, Lib.hid (by simp), Below.refl _ _⟩
  case round =>
    obtain ⟨k, u, hk, rfl, rfl, hu0, hu1, hu, hb⟩ := hrel
    by_cases hlt : k < l.length
    · obtain ⟨b, off, A0, n0, c0, -, rfl, q0, s0, -⟩ := UqR.at_ (h.below UqR.stays hb) hlt
      have hx := HW.out _ (List.getElem_mem hlt)
      have hst := sum_take (Uq.sz) l k hlt
      have hsl := sum_take_le (Uq.sz) l (k + 1)
      have HST := Lib.hid hst
      have HSL := Lib.hid hsl
      have HX := Lib.hid hx
      clear hst hsl hx
      rcases szR_cases u (l[k].sz) hu0 with ⟨hno, hv⟩ | ⟨u', hv, hu', hu0', hu1', -⟩
      · go_wp2_with fail
        refine (lawsSzUnique l[k] A0 n0 c0 u ok _ s0 HX.out hu0 (by omega)).mono ?_
        rintro e w1 ⟨rfl, hb1⟩
        rw [hv.out]
        go_wp2_with fail
        go_ret
        exact ⟨retI (szR_no (by have e1 := hu.out; have e2 := HST.out; have e3 := HSL.out; unfold szL; (try simp only at e1 e2 e3 ⊢); omega)), hb.trans (hb1.mono hb.size)⟩
      · go_wp2_with fail
        refine (lawsSzUnique l[k] A0 n0 c0 u ok _ s0 HX.out hu0 (by omega)).mono ?_
        rintro e w1 ⟨rfl, hb1⟩
        rw [hv.out]
        go_wp2_with fail
        go_roundw
        case rel => exact ⟨k + 1, _, by omega, by go_num, rfl, by omega, by omega, Lib.hid (by have e1 := hu.out; have e2 := HST.out; have e3 := hu'.out; (try simp only at e1 e2 e3 ⊢); omega), hb.trans (hb1.mono hb.size)⟩
        case measure => simp [intOf]; omega
    · have e : l.take k = l := List.take_of_length_le (by omega)
      have e1 := hu.out
      rw [e] at e1
      have HU := Lib.hid e1
      clear e1 hu e
      go_wp2
      go_ret
      exact ⟨retI (szR_yes (by omega) (by have e1 := HU.out; unfold szL; omega)), hb⟩

set_option maxRecDepth 100000 in
set_option maxHeartbeats 1000000 in
theorem lawsSzCheck (x : Ck) (A0 : Option Addr) (n0 c0 : Nat) (left : Int) (ok : Nat → Prop) (w : World) (h0 : Sl TkR 5 ok w A0 n0 x.expr) (hwf : x.wf) (hp0 : 0 ≤ left) (hle : left ≤ 1048576) :
    Calls Tryz.prog 71 #[.agg #[.slice A0 n0 c0], .int .i64 left] w fun e w' => e = .returned (.int .i64 (szR left x.sz)) ∧ Below w.heap.size w w' := by
  have wf0 := hwf
  have WF0 := Lib.hid wf0
  clear wf0
  have HB := Lib.hid ((Below.refl w.heap.size w).alloc (Nat.le_refl _) (.cells #[.slice A0 n0 c0] 138))
  have RB := Lib.hid (Row.new w 138 #[.slice A0 n0 c0])
  go_enter Tryz.func71, Tryz.ntmps71
  go_wp2_with fail
  refine (lawsSzTokL A0 n0 c0 x.expr left ok _ (h0.below TkR.stays HB.out) WF0.out (by omega) (by omega)).mono ?_
  rintro e w1 ⟨rfl, hb1⟩
  have hbb1 := (HB.out).trans (hb1.mono (HB.out).size)
  have RB1 := Lib.hid ((RB.out).below hb1)
  obtain ⟨p1_0, -⟩ := RB1.out.all1
  rcases szR_cases left (szL (fun t : Tk => t.vs.size) x.expr) (by omega) with ⟨hno1, hv1⟩ | ⟨l1, hv1, hl1, h01, h11, -⟩
  · rw [hv1.out]
    go_wp2_with fail
    go_ret
    exact ⟨retI (szR_no (by simp only [Ck.sz]; omega)), hbb1⟩
  rw [hv1.out]
  go_wp2_with fail
  go_ret
  exact ⟨retI (szR_yes (by omega) (by have := hl1.out; simp only [Ck.sz]; omega)), hbb1⟩

set_option maxHeartbeats 1000000 in
theorem lawsSzCheckL (A : Option Addr) (n c : Nat) (l : List Ck) (left : Int) (ok : Nat → Prop) (w : World) (h : Sl CkR 1 ok w A n l) (hwf : (l.length ≤ maxLen ∧ ∀ y ∈ l, y.wf)) (hp0 : 0 ≤ left) (hle : left ≤ 1048576) :
    Calls Tryz.prog 36 #[.slice A n c, .int .i64 left] w fun e w' => e = .returned (.int .i64 (szR left (szL Ck.sz l))) ∧ Below w.heap.size w w' := by
  obtain rfl : l.length = n := h.1
  obtain ⟨hlen, hall⟩ := hwf
  unfold maxLen at hlen
  have HW := Lib.hid hall
  clear hall
  by_cases hs : left - (l.length : Int) < 0
  · go_enter Tryz.func36, Tryz.ntmps36
    go_wp2
    go_ret
    exact ⟨retI (szR_no (by unfold szL; omega)), Below.refl _ _⟩
  have hs' : decide (left - (l.length : Int) < 0) = false := by simpa using hs
  go_enter Tryz.func36, Tryz.ntmps36
  go_wp2
  go_loopw [1, 5] (fun m i wr => ∃ (k : Nat) (u : Int), k ≤ l.length ∧ i = .int .i64 k ∧ m = .int .i64 u ∧ 0 ≤ u ∧ u ≤ left ∧ Hid (u = left - l.length - ((l.take k).map (Ck.sz)).sum) ∧ Below w.heap.size w wr) (fun _ i _ => l.length - (intOf i).toNat)
  case atStart => exact ⟨0, _, by omega, rfl, rfl, by omega, by omega, Lib.hid (by simp), Below.refl _ _⟩
  case round =>
    obtain ⟨k, u, hk, rfl, rfl, hu0, hu1, hu, hb⟩ := hrel
    by_cases hlt : k < l.length
    · obtain ⟨b, off, A0, n0, c0, -, rfl, q0, s0, -⟩ := CkR.at_ (h.below CkR.stays hb) hlt
      have hx := HW.out _ (List.getElem_mem hlt)
      have hst := sum_take (Ck.sz) l k hlt
      have hsl := sum_take_le (Ck.sz) l (k + 1)
      have HST := Lib.hid hst
      have HSL := Lib.hid hsl
      have HX := Lib.hid hx
      clear hst hsl hx
      rcases szR_cases u (l[k].sz) hu0 with ⟨hno, hv⟩ | ⟨u', hv, hu', hu0', hu1', -⟩
      · go_wp2_with fail
        refine (lawsSzCheck l[k] A0 n0 c0 u ok _ s0 HX.out hu0 (by omega)).mono ?_
        rintro e w1 ⟨rfl, hb1⟩
        rw [hv.out]
        go_wp2_with fail
        go_ret
        exact ⟨retI (szR_no (by have e1 := hu.out; have e2 := HST.out; have e3 := HSL.out; unfold szL; (try simp only at e1 e2 e3 ⊢); omega)), hb.trans (hb1.mono hb.size)⟩
      · go_wp2_with fail
        refine (lawsSzCheck l[k] A0 n0 c0 u ok _ s0 HX.out hu0 (by omega)).mono ?_
        rintro e w1 ⟨rfl, hb1⟩
        rw [hv.out]
        go_wp2_with fail
        go_roundw
        case rel => exact ⟨k + 1, _, by omega, by go_num, rfl, by omega, by omega, Lib.hid (by have e1 := hu.out; have e2 := HST.out; have e3 := hu'.out; (try simp only at e1 e2 e3 ⊢); omega), hb.trans (hb1.mono hb.size)⟩
        case measure => simp [intOf]; omega
    · have e : l.take k = l := List.take_of_length_le (by omega)
      have e1 := hu.out
      rw [e] at e1
      have HU := Lib.hid e1
      clear e1 hu e
      go_wp2
      go_ret
      exact ⟨retI (szR_yes (by omega) (by have e1 := HU.out; unfold szL; omega)), hb⟩

set_option maxRecDepth 100000 in
set_option maxHeartbeats 1000000 in
theorem lawsSzFk (x : Fk) (A0 : Option Addr) (n0 c0 : Nat) (left : Int) (ok : Nat → Prop) (w : World) (h0 : Sl IntR 1 ok w A0 n0 x.cols) (hwf : x.wf) (hp0 : 0 ≤ left) (hle : left ≤ 1048576) :
    Calls Tryz.prog 72 #[.agg #[.slice A0 n0 c0, .string x.table, .int .i64 x.del, .int .i64 x.upd, .bool x.dfr], .int .i64 left] w fun e w' => e = .returned (.int .i64 (szR left x.sz)) ∧ Below w.heap.size w w' := by
  obtain ⟨wf0, wf1⟩ := hwf
  have WF0 := Lib.hid wf0
  clear wf0
  unfold maxLen at wf1
  have HB := Lib.hid ((Below.refl w.heap.size w).alloc (Nat.le_refl _) (.cells #[.slice A0 n0 c0, .string x.table, .int .i64 x.del, .int .i64 x.upd, .bool x.dfr] 140))
  have RB := Lib.hid (Row.new w 140 #[.slice A0 n0 c0, .string x.table, .int .i64 x.del, .int .i64 x.upd, .bool x.dfr])
  go_enter Tryz.func72, Tryz.ntmps72
  go_wp2_with fail
  refine (lawsSzInts A0 n0 c0 x.cols left ok _ (h0.below IntR.stays HB.out) WF0.out (by omega) (by omega)).mono ?_
  rintro e w1 ⟨rfl, hb1⟩
  have hbb1 := (HB.out).trans (hb1.mono (HB.out).size)
  have RB1 := Lib.hid ((RB.out).below hb1)
  obtain ⟨⟨p1_0, p1_1, p1_2, p1_3, p1_4⟩, -⟩ := RB1.out.five
  rcases szR_cases left (x.cols.length) (by omega) with ⟨hno1, hv1⟩ | ⟨l1, hv1, hl1, h01, h11, -⟩
  · rw [hv1.out]
    go_wp2_with fail
    go_ret
    exact ⟨retI (szR_no (by simp only [Fk.sz]; omega)), hbb1⟩
  rw [hv1.out]
  by_cases hs1 : l1 - (x.table.size : Int) < 0
  · go_wp2_with fail
    go_ret
    exact ⟨retI (szR_no (by have := hl1.out; simp only [Fk.sz]; omega)), hbb1⟩
  have hs1' : decide (l1 - (x.table.size : Int) < 0) = false := by simpa using hs1
  go_wp2_with fail
  go_ret
  exact ⟨retI (szR_yes (by omega) (by have := hl1.out; simp only [Fk.sz]; omega)), hbb1⟩

set_option maxHeartbeats 1000000 in
theorem lawsSzFkL (A : Option Addr) (n c : Nat) (l : List Fk) (left : Int) (ok : Nat → Prop) (w : World) (h : Sl FkR 5 ok w A n l) (hwf : (l.length ≤ maxLen ∧ ∀ y ∈ l, y.wf)) (hp0 : 0 ≤ left) (hle : left ≤ 1048576) :
    Calls Tryz.prog 37 #[.slice A n c, .int .i64 left] w fun e w' => e = .returned (.int .i64 (szR left (szL Fk.sz l))) ∧ Below w.heap.size w w' := by
  obtain rfl : l.length = n := h.1
  obtain ⟨hlen, hall⟩ := hwf
  unfold maxLen at hlen
  have HW := Lib.hid hall
  clear hall
  by_cases hs : left - (l.length : Int) < 0
  · go_enter Tryz.func37, Tryz.ntmps37
    go_wp2
    go_ret
    exact ⟨retI (szR_no (by unfold szL; omega)), Below.refl _ _⟩
  have hs' : decide (left - (l.length : Int) < 0) = false := by simpa using hs
  go_enter Tryz.func37, Tryz.ntmps37
  go_wp2
  go_loopw [1, 5] (fun m i wr => ∃ (k : Nat) (u : Int), k ≤ l.length ∧ i = .int .i64 k ∧ m = .int .i64 u ∧ 0 ≤ u ∧ u ≤ left ∧ Hid (u = left - l.length - ((l.take k).map (Fk.sz)).sum) ∧ Below w.heap.size w wr) (fun _ i _ => l.length - (intOf i).toNat)
  case atStart => exact ⟨0, _, by omega, rfl, rfl, by omega, by omega, Lib.hid (by simp), Below.refl _ _⟩
  case round =>
    obtain ⟨k, u, hk, rfl, rfl, hu0, hu1, hu, hb⟩ := hrel
    by_cases hlt : k < l.length
    · obtain ⟨b, off, A0, n0, c0, -, rfl, q0, q1, q2, q3, q4, s0, -⟩ := FkR.at_ (h.below FkR.stays hb) hlt
      have hx := HW.out _ (List.getElem_mem hlt)
      have hst := sum_take (Fk.sz) l k hlt
      have hsl := sum_take_le (Fk.sz) l (k + 1)
      have HST := Lib.hid hst
      have HSL := Lib.hid hsl
      have HX := Lib.hid hx
      clear hst hsl hx
      rcases szR_cases u (l[k].sz) hu0 with ⟨hno, hv⟩ | ⟨u', hv, hu', hu0', hu1', -⟩
      · go_wp2_with fail
        refine (lawsSzFk l[k] A0 n0 c0 u ok _ s0 HX.out hu0 (by omega)).mono ?_
        rintro e w1 ⟨rfl, hb1⟩
        rw [hv.out]
        go_wp2_with fail
        go_ret
        exact ⟨retI (szR_no (by have e1 := hu.out; have e2 := HST.out; have e3 := HSL.out; unfold szL; (try simp only at e1 e2 e3 ⊢); omega)), hb.trans (hb1.mono hb.size)⟩
      · go_wp2_with fail
        refine (lawsSzFk l[k] A0 n0 c0 u ok _ s0 HX.out hu0 (by omega)).mono ?_
        rintro e w1 ⟨rfl, hb1⟩
        rw [hv.out]
        go_wp2_with fail
        go_roundw
        case rel => exact ⟨k + 1, _, by omega, by go_num, rfl, by omega, by omega, Lib.hid (by have e1 := hu.out; have e2 := HST.out; have e3 := hu'.out; (try simp only at e1 e2 e3 ⊢); omega), hb.trans (hb1.mono hb.size)⟩
        case measure => simp [intOf]; omega
    · have e : l.take k = l := List.take_of_length_le (by omega)
      have e1 := hu.out
      rw [e] at e1
      have HU := Lib.hid e1
      clear e1 hu e
      go_wp2
      go_ret
      exact ⟨retI (szR_yes (by omega) (by have e1 := HU.out; unfold szL; omega)), hb⟩

set_option maxRecDepth 100000 in
set_option maxHeartbeats 1000000 in
theorem lawsSzTable (x : Tb) (A1 : Option Addr) (n1 c1 : Nat) (A2 : Option Addr) (n2 c2 : Nat) (A3 : Option Addr) (n3 c3 : Nat) (A4 : Option Addr) (n4 c4 : Nat) (A5 : Option Addr) (n5 c5 : Nat) (left : Int) (ok : Nat → Prop) (w : World) (h1 : Sl ClR 6 ok w A1 n1 x.cols) (h2 : Sl IntR 1 ok w A2 n2 x.key) (h3 : Sl UqR 1 ok w A3 n3 x.uniqs) (h4 : Sl CkR 1 ok w A4 n4 x.checks) (h5 : Sl FkR 5 ok w A5 n5 x.fks) (hwf : x.wf) (hp0 : 0 ≤ left) (hle : left ≤ 1048576) :
    Calls Tryz.prog 12 #[.agg #[.string x.name, .slice A1 n1 c1, .slice A2 n2 c2, .slice A3 n3 c3, .slice A4 n4 c4, .slice A5 n5 c5], .int .i64 left] w fun e w' => e = .returned (.int .i64 (szR left x.sz)) ∧ Below w.heap.size w w' := by
  obtain ⟨wf0, wf1, wf2, wf3, wf4, wf5⟩ := hwf
  unfold maxLen at wf0
  have WF1 := Lib.hid wf1
  clear wf1
  have WF2 := Lib.hid wf2
  clear wf2
  have WF3 := Lib.hid wf3
  clear wf3
  have WF4 := Lib.hid wf4
  clear wf4
  have WF5 := Lib.hid wf5
  clear wf5
  have HB := Lib.hid ((Below.refl w.heap.size w).alloc (Nat.le_refl _) (.cells #[.string x.name, .slice A1 n1 c1, .slice A2 n2 c2, .slice A3 n3 c3, .slice A4 n4 c4, .slice A5 n5 c5] 49))
  have RB := Lib.hid (Row.new w 49 #[.string x.name, .slice A1 n1 c1, .slice A2 n2 c2, .slice A3 n3 c3, .slice A4 n4 c4, .slice A5 n5 c5])
  by_cases hs0 : left - (x.name.size : Int) < 0
  · go_enter Tryz.func12, Tryz.ntmps12
    go_wp2_with fail
    go_ret
    exact ⟨retI (szR_no (by simp only [Tb.sz]; omega)), HB.out⟩
  have hs0' : decide (left - (x.name.size : Int) < 0) = false := by simpa using hs0
  go_enter Tryz.func12, Tryz.ntmps12
  go_wp2_with fail
  refine (lawsSzColL A1 n1 c1 x.cols (left - (x.name.size : Int)) ok _ (h1.below ClR.stays HB.out) WF1.out (by omega) (by omega)).mono ?_
  rintro e w1 ⟨rfl, hb1⟩
  have hbb1 := (HB.out).trans (hb1.mono (HB.out).size)
  have RB1 := Lib.hid ((RB.out).below hb1)
  obtain ⟨⟨p1_0, p1_1, p1_2, p1_3, p1_4, p1_5⟩, -⟩ := RB1.out.all6
  rcases szR_cases (left - (x.name.size : Int)) (szL Cl.sz x.cols) (by omega) with ⟨hno1, hv1⟩ | ⟨l1, hv1, hl1, h01, h11, -⟩
  · rw [hv1.out]
    go_wp2_with fail
    go_ret
    exact ⟨retI (szR_no (by simp only [Tb.sz]; omega)), hbb1⟩
  rw [hv1.out]
  go_wp2_with fail
  refine (lawsSzInts A2 n2 c2 x.key l1 ok _ (h2.below IntR.stays hbb1) WF2.out (by omega) (by omega)).mono ?_
  rintro e w2 ⟨rfl, hb2⟩
  have hbb2 := (hbb1).trans (hb2.mono (hbb1).size)
  have RB2 := Lib.hid ((RB1.out).below hb2)
  obtain ⟨⟨p2_0, p2_1, p2_2, p2_3, p2_4, p2_5⟩, -⟩ := RB2.out.all6
  rcases szR_cases l1 (x.key.length) (by omega) with ⟨hno2, hv2⟩ | ⟨l2, hv2, hl2, h02, h12, -⟩
  · rw [hv2.out]
    go_wp2_with fail
    go_ret
    exact ⟨retI (szR_no (by have := hl1.out; simp only [Tb.sz]; omega)), hbb2⟩
  rw [hv2.out]
  go_wp2_with fail
  refine (lawsSzUniqueL A3 n3 c3 x.uniqs l2 ok _ (h3.below UqR.stays hbb2) WF3.out (by omega) (by omega)).mono ?_
  rintro e w3 ⟨rfl, hb3⟩
  have hbb3 := (hbb2).trans (hb3.mono (hbb2).size)
  have RB3 := Lib.hid ((RB2.out).below hb3)
  obtain ⟨⟨p3_0, p3_1, p3_2, p3_3, p3_4, p3_5⟩, -⟩ := RB3.out.all6
  rcases szR_cases l2 (szL Uq.sz x.uniqs) (by omega) with ⟨hno3, hv3⟩ | ⟨l3, hv3, hl3, h03, h13, -⟩
  · rw [hv3.out]
    go_wp2_with fail
    go_ret
    exact ⟨retI (szR_no (by have := hl1.out; have := hl2.out; simp only [Tb.sz]; omega)), hbb3⟩
  rw [hv3.out]
  go_wp2_with fail
  refine (lawsSzCheckL A4 n4 c4 x.checks l3 ok _ (h4.below CkR.stays hbb3) WF4.out (by omega) (by omega)).mono ?_
  rintro e w4 ⟨rfl, hb4⟩
  have hbb4 := (hbb3).trans (hb4.mono (hbb3).size)
  have RB4 := Lib.hid ((RB3.out).below hb4)
  obtain ⟨⟨p4_0, p4_1, p4_2, p4_3, p4_4, p4_5⟩, -⟩ := RB4.out.all6
  rcases szR_cases l3 (szL Ck.sz x.checks) (by omega) with ⟨hno4, hv4⟩ | ⟨l4, hv4, hl4, h04, h14, -⟩
  · rw [hv4.out]
    go_wp2_with fail
    go_ret
    exact ⟨retI (szR_no (by have := hl1.out; have := hl2.out; have := hl3.out; simp only [Tb.sz]; omega)), hbb4⟩
  rw [hv4.out]
  go_wp2_with fail
  refine (lawsSzFkL A5 n5 c5 x.fks l4 ok _ (h5.below FkR.stays hbb4) WF5.out (by omega) (by omega)).mono ?_
  rintro e w5 ⟨rfl, hb5⟩
  have hbb5 := (hbb4).trans (hb5.mono (hbb4).size)
  have RB5 := Lib.hid ((RB4.out).below hb5)
  obtain ⟨⟨p5_0, p5_1, p5_2, p5_3, p5_4, p5_5⟩, -⟩ := RB5.out.all6
  rcases szR_cases l4 (szL Fk.sz x.fks) (by omega) with ⟨hno5, hv5⟩ | ⟨l5, hv5, hl5, h05, h15, -⟩
  · rw [hv5.out]
    go_wp2_with fail
    go_ret
    exact ⟨retI (szR_no (by have := hl1.out; have := hl2.out; have := hl3.out; have := hl4.out; simp only [Tb.sz]; omega)), hbb5⟩
  rw [hv5.out]
  go_wp2_with fail
  go_ret
  exact ⟨retI (szR_yes (by omega) (by have := hl1.out; have := hl2.out; have := hl3.out; have := hl4.out; have := hl5.out; simp only [Tb.sz]; omega)), hbb5⟩

set_option maxHeartbeats 1000000 in
theorem lawsSzTableL (A : Option Addr) (n c : Nat) (l : List Tb) (left : Int) (ok : Nat → Prop) (w : World) (h : Sl TbR 6 ok w A n l) (hwf : (l.length ≤ maxLen ∧ ∀ y ∈ l, y.wf)) (hp0 : 0 ≤ left) (hle : left ≤ 1048576) :
    Calls Tryz.prog 4 #[.slice A n c, .int .i64 left] w fun e w' => e = .returned (.int .i64 (szR left (szL Tb.sz l))) ∧ Below w.heap.size w w' := by
  obtain rfl : l.length = n := h.1
  obtain ⟨hlen, hall⟩ := hwf
  unfold maxLen at hlen
  have HW := Lib.hid hall
  clear hall
  by_cases hs : left - (l.length : Int) < 0
  · go_enter Tryz.func4, Tryz.ntmps4
    go_wp2
    go_ret
    exact ⟨retI (szR_no (by unfold szL; omega)), Below.refl _ _⟩
  have hs' : decide (left - (l.length : Int) < 0) = false := by simpa using hs
  go_enter Tryz.func4, Tryz.ntmps4
  go_wp2
  go_loopw [1, 5] (fun m i wr => ∃ (k : Nat) (u : Int), k ≤ l.length ∧ i = .int .i64 k ∧ m = .int .i64 u ∧ 0 ≤ u ∧ u ≤ left ∧ Hid (u = left - l.length - ((l.take k).map (Tb.sz)).sum) ∧ Below w.heap.size w wr) (fun _ i _ => l.length - (intOf i).toNat)
  case atStart => exact ⟨0, _, by omega, rfl, rfl, by omega, by omega, Lib.hid (by simp), Below.refl _ _⟩
  case round =>
    obtain ⟨k, u, hk, rfl, rfl, hu0, hu1, hu, hb⟩ := hrel
    by_cases hlt : k < l.length
    · obtain ⟨b, off, A1, n1, c1, A2, n2, c2, A3, n3, c3, A4, n4, c4, A5, n5, c5, -, rfl, q0, q1, q2, q3, q4, q5, s1, s2, s3, s4, s5, -⟩ := TbR.at_ (h.below TbR.stays hb) hlt
      have hx := HW.out _ (List.getElem_mem hlt)
      have hst := sum_take (Tb.sz) l k hlt
      have hsl := sum_take_le (Tb.sz) l (k + 1)
      have HST := Lib.hid hst
      have HSL := Lib.hid hsl
      have HX := Lib.hid hx
      clear hst hsl hx
      rcases szR_cases u (l[k].sz) hu0 with ⟨hno, hv⟩ | ⟨u', hv, hu', hu0', hu1', -⟩
      · go_wp2_with fail
        refine (lawsSzTable l[k] A1 n1 c1 A2 n2 c2 A3 n3 c3 A4 n4 c4 A5 n5 c5 u ok _ s1 s2 s3 s4 s5 HX.out hu0 (by omega)).mono ?_
        rintro e w1 ⟨rfl, hb1⟩
        rw [hv.out]
        go_wp2_with fail
        go_ret
        exact ⟨retI (szR_no (by have e1 := hu.out; have e2 := HST.out; have e3 := HSL.out; unfold szL; (try simp only at e1 e2 e3 ⊢); omega)), hb.trans (hb1.mono hb.size)⟩
      · go_wp2_with fail
        refine (lawsSzTable l[k] A1 n1 c1 A2 n2 c2 A3 n3 c3 A4 n4 c4 A5 n5 c5 u ok _ s1 s2 s3 s4 s5 HX.out hu0 (by omega)).mono ?_
        rintro e w1 ⟨rfl, hb1⟩
        rw [hv.out]
        go_wp2_with fail
        go_roundw
        case rel => exact ⟨k + 1, _, by omega, by go_num, rfl, by omega, by omega, Lib.hid (by have e1 := hu.out; have e2 := HST.out; have e3 := hu'.out; (try simp only at e1 e2 e3 ⊢); omega), hb.trans (hb1.mono hb.size)⟩
        case measure => simp [intOf]; omega
    · have e : l.take k = l := List.take_of_length_le (by omega)
      have e1 := hu.out
      rw [e] at e1
      have HU := Lib.hid e1
      clear e1 hu e
      go_wp2
      go_ret
      exact ⟨retI (szR_yes (by omega) (by have e1 := HU.out; unfold szL; omega)), hb⟩

set_option maxRecDepth 100000 in
set_option maxHeartbeats 1000000 in
theorem lawsSzRow (x : Rw) (A1 : Option Addr) (n1 c1 : Nat) (left : Int) (ok : Nat → Prop) (w : World) (h1 : Sl VlR 3 ok w A1 n1 x.vals) (hwf : x.wf) (hp0 : 0 ≤ left) (hle : left ≤ 1048576) :
    Calls Tryz.prog 38 #[.agg #[.int .i64 x.id, .slice A1 n1 c1], .int .i64 left] w fun e w' => e = .returned (.int .i64 (szR left x.sz)) ∧ Below w.heap.size w w' := by
  have wf1 := hwf
  have WF1 := Lib.hid wf1
  clear wf1
  have HB := Lib.hid ((Below.refl w.heap.size w).alloc (Nat.le_refl _) (.cells #[.int .i64 x.id, .slice A1 n1 c1] 83))
  have RB := Lib.hid (Row.new w 83 #[.int .i64 x.id, .slice A1 n1 c1])
  go_enter Tryz.func38, Tryz.ntmps38
  go_wp2_with fail
  refine (lawsSzValL A1 n1 c1 x.vals left ok _ (h1.below VlR.stays HB.out) WF1.out (by omega) (by omega)).mono ?_
  rintro e w1 ⟨rfl, hb1⟩
  have hbb1 := (HB.out).trans (hb1.mono (HB.out).size)
  have RB1 := Lib.hid ((RB.out).below hb1)
  obtain ⟨⟨p1_0, p1_1⟩, -⟩ := RB1.out.all2
  rcases szR_cases left (szL (fun v : Vl => v.s.size) x.vals) (by omega) with ⟨hno1, hv1⟩ | ⟨l1, hv1, hl1, h01, h11, -⟩
  · rw [hv1.out]
    go_wp2_with fail
    go_ret
    exact ⟨retI (szR_no (by simp only [Rw.sz]; omega)), hbb1⟩
  rw [hv1.out]
  go_wp2_with fail
  go_ret
  exact ⟨retI (szR_yes (by omega) (by have := hl1.out; simp only [Rw.sz]; omega)), hbb1⟩

set_option maxHeartbeats 1000000 in
theorem lawsSzRowL (A : Option Addr) (n c : Nat) (l : List Rw) (left : Int) (ok : Nat → Prop) (w : World) (h : Sl RwR 2 ok w A n l) (hwf : (l.length ≤ maxLen ∧ ∀ y ∈ l, y.wf)) (hp0 : 0 ≤ left) (hle : left ≤ 1048576) :
    Calls Tryz.prog 13 #[.slice A n c, .int .i64 left] w fun e w' => e = .returned (.int .i64 (szR left (szL Rw.sz l))) ∧ Below w.heap.size w w' := by
  obtain rfl : l.length = n := h.1
  obtain ⟨hlen, hall⟩ := hwf
  unfold maxLen at hlen
  have HW := Lib.hid hall
  clear hall
  by_cases hs : left - (l.length : Int) < 0
  · go_enter Tryz.func13, Tryz.ntmps13
    go_wp2
    go_ret
    exact ⟨retI (szR_no (by unfold szL; omega)), Below.refl _ _⟩
  have hs' : decide (left - (l.length : Int) < 0) = false := by simpa using hs
  go_enter Tryz.func13, Tryz.ntmps13
  go_wp2
  go_loopw [1, 5] (fun m i wr => ∃ (k : Nat) (u : Int), k ≤ l.length ∧ i = .int .i64 k ∧ m = .int .i64 u ∧ 0 ≤ u ∧ u ≤ left ∧ Hid (u = left - l.length - ((l.take k).map (Rw.sz)).sum) ∧ Below w.heap.size w wr) (fun _ i _ => l.length - (intOf i).toNat)
  case atStart => exact ⟨0, _, by omega, rfl, rfl, by omega, by omega, Lib.hid (by simp), Below.refl _ _⟩
  case round =>
    obtain ⟨k, u, hk, rfl, rfl, hu0, hu1, hu, hb⟩ := hrel
    by_cases hlt : k < l.length
    · obtain ⟨b, off, A1, n1, c1, -, rfl, q0, q1, s1, -⟩ := RwR.at_ (h.below RwR.stays hb) hlt
      have hx := HW.out _ (List.getElem_mem hlt)
      have hst := sum_take (Rw.sz) l k hlt
      have hsl := sum_take_le (Rw.sz) l (k + 1)
      have HST := Lib.hid hst
      have HSL := Lib.hid hsl
      have HX := Lib.hid hx
      clear hst hsl hx
      rcases szR_cases u (l[k].sz) hu0 with ⟨hno, hv⟩ | ⟨u', hv, hu', hu0', hu1', -⟩
      · go_wp2_with fail
        refine (lawsSzRow l[k] A1 n1 c1 u ok _ s1 HX.out hu0 (by omega)).mono ?_
        rintro e w1 ⟨rfl, hb1⟩
        rw [hv.out]
        go_wp2_with fail
        go_ret
        exact ⟨retI (szR_no (by have e1 := hu.out; have e2 := HST.out; have e3 := HSL.out; unfold szL; (try simp only at e1 e2 e3 ⊢); omega)), hb.trans (hb1.mono hb.size)⟩
      · go_wp2_with fail
        refine (lawsSzRow l[k] A1 n1 c1 u ok _ s1 HX.out hu0 (by omega)).mono ?_
        rintro e w1 ⟨rfl, hb1⟩
        rw [hv.out]
        go_wp2_with fail
        go_roundw
        case rel => exact ⟨k + 1, _, by omega, by go_num, rfl, by omega, by omega, Lib.hid (by have e1 := hu.out; have e2 := HST.out; have e3 := hu'.out; (try simp only at e1 e2 e3 ⊢); omega), hb.trans (hb1.mono hb.size)⟩
        case measure => simp [intOf]; omega
    · have e : l.take k = l := List.take_of_length_le (by omega)
      have e1 := hu.out
      rw [e] at e1
      have HU := Lib.hid e1
      clear e1 hu e
      go_wp2
      go_ret
      exact ⟨retI (szR_yes (by omega) (by have e1 := HU.out; unfold szL; omega)), hb⟩

set_option maxRecDepth 100000 in
set_option maxHeartbeats 1000000 in
theorem lawsSzSet (x : Se) (A1 : Option Addr) (n1 c1 : Nat) (left : Int) (ok : Nat → Prop) (w : World) (h1 : Sl TkR 5 ok w A1 n1 x.expr) (hwf : x.wf) (hp0 : 0 ≤ left) (hle : left ≤ 1048576) :
    Calls Tryz.prog 40 #[.agg #[.int .i64 x.col, .slice A1 n1 c1], .int .i64 left] w fun e w' => e = .returned (.int .i64 (szR left x.sz)) ∧ Below w.heap.size w w' := by
  have wf1 := hwf
  have WF1 := Lib.hid wf1
  clear wf1
  have HB := Lib.hid ((Below.refl w.heap.size w).alloc (Nat.le_refl _) (.cells #[.int .i64 x.col, .slice A1 n1 c1] 91))
  have RB := Lib.hid (Row.new w 91 #[.int .i64 x.col, .slice A1 n1 c1])
  go_enter Tryz.func40, Tryz.ntmps40
  go_wp2_with fail
  refine (lawsSzTokL A1 n1 c1 x.expr left ok _ (h1.below TkR.stays HB.out) WF1.out (by omega) (by omega)).mono ?_
  rintro e w1 ⟨rfl, hb1⟩
  have hbb1 := (HB.out).trans (hb1.mono (HB.out).size)
  have RB1 := Lib.hid ((RB.out).below hb1)
  obtain ⟨⟨p1_0, p1_1⟩, -⟩ := RB1.out.all2
  rcases szR_cases left (szL (fun t : Tk => t.vs.size) x.expr) (by omega) with ⟨hno1, hv1⟩ | ⟨l1, hv1, hl1, h01, h11, -⟩
  · rw [hv1.out]
    go_wp2_with fail
    go_ret
    exact ⟨retI (szR_no (by simp only [Se.sz]; omega)), hbb1⟩
  rw [hv1.out]
  go_wp2_with fail
  go_ret
  exact ⟨retI (szR_yes (by omega) (by have := hl1.out; simp only [Se.sz]; omega)), hbb1⟩

set_option maxHeartbeats 1000000 in
theorem lawsSzSetL (A : Option Addr) (n c : Nat) (l : List Se) (left : Int) (ok : Nat → Prop) (w : World) (h : Sl SeR 2 ok w A n l) (hwf : (l.length ≤ maxLen ∧ ∀ y ∈ l, y.wf)) (hp0 : 0 ≤ left) (hle : left ≤ 1048576) :
    Calls Tryz.prog 15 #[.slice A n c, .int .i64 left] w fun e w' => e = .returned (.int .i64 (szR left (szL Se.sz l))) ∧ Below w.heap.size w w' := by
  obtain rfl : l.length = n := h.1
  obtain ⟨hlen, hall⟩ := hwf
  unfold maxLen at hlen
  have HW := Lib.hid hall
  clear hall
  by_cases hs : left - (l.length : Int) < 0
  · go_enter Tryz.func15, Tryz.ntmps15
    go_wp2
    go_ret
    exact ⟨retI (szR_no (by unfold szL; omega)), Below.refl _ _⟩
  have hs' : decide (left - (l.length : Int) < 0) = false := by simpa using hs
  go_enter Tryz.func15, Tryz.ntmps15
  go_wp2
  go_loopw [1, 5] (fun m i wr => ∃ (k : Nat) (u : Int), k ≤ l.length ∧ i = .int .i64 k ∧ m = .int .i64 u ∧ 0 ≤ u ∧ u ≤ left ∧ Hid (u = left - l.length - ((l.take k).map (Se.sz)).sum) ∧ Below w.heap.size w wr) (fun _ i _ => l.length - (intOf i).toNat)
  case atStart => exact ⟨0, _, by omega, rfl, rfl, by omega, by omega, Lib.hid (by simp), Below.refl _ _⟩
  case round =>
    obtain ⟨k, u, hk, rfl, rfl, hu0, hu1, hu, hb⟩ := hrel
    by_cases hlt : k < l.length
    · obtain ⟨b, off, A1, n1, c1, -, rfl, q0, q1, s1, -⟩ := SeR.at_ (h.below SeR.stays hb) hlt
      have hx := HW.out _ (List.getElem_mem hlt)
      have hst := sum_take (Se.sz) l k hlt
      have hsl := sum_take_le (Se.sz) l (k + 1)
      have HST := Lib.hid hst
      have HSL := Lib.hid hsl
      have HX := Lib.hid hx
      clear hst hsl hx
      rcases szR_cases u (l[k].sz) hu0 with ⟨hno, hv⟩ | ⟨u', hv, hu', hu0', hu1', -⟩
      · go_wp2_with fail
        refine (lawsSzSet l[k] A1 n1 c1 u ok _ s1 HX.out hu0 (by omega)).mono ?_
        rintro e w1 ⟨rfl, hb1⟩
        rw [hv.out]
        go_wp2_with fail
        go_ret
        exact ⟨retI (szR_no (by have e1 := hu.out; have e2 := HST.out; have e3 := HSL.out; unfold szL; (try simp only at e1 e2 e3 ⊢); omega)), hb.trans (hb1.mono hb.size)⟩
      · go_wp2_with fail
        refine (lawsSzSet l[k] A1 n1 c1 u ok _ s1 HX.out hu0 (by omega)).mono ?_
        rintro e w1 ⟨rfl, hb1⟩
        rw [hv.out]
        go_wp2_with fail
        go_roundw
        case rel => exact ⟨k + 1, _, by omega, by go_num, rfl, by omega, by omega, Lib.hid (by have e1 := hu.out; have e2 := HST.out; have e3 := hu'.out; (try simp only at e1 e2 e3 ⊢); omega), hb.trans (hb1.mono hb.size)⟩
        case measure => simp [intOf]; omega
    · have e : l.take k = l := List.take_of_length_le (by omega)
      have e1 := hu.out
      rw [e] at e1
      have HU := Lib.hid e1
      clear e1 hu e
      go_wp2
      go_ret
      exact ⟨retI (szR_yes (by omega) (by have e1 := HU.out; unfold szL; omega)), hb⟩

set_option maxRecDepth 100000 in
set_option maxHeartbeats 1000000 in
theorem lawsSzStmt (x : Sq) (A2 : Option Addr) (n2 c2 : Nat) (A3 : Option Addr) (n3 c3 : Nat) (A4 : Option Addr) (n4 c4 : Nat) (left : Int) (ok : Nat → Prop) (w : World) (h2 : Sl RwR 2 ok w A2 n2 x.rows) (h3 : Sl TkR 5 ok w A3 n3 x.wher) (h4 : Sl SeR 2 ok w A4 n4 x.sets) (hwf : x.wf) (hp0 : 0 ≤ left) (hle : left ≤ 1048576) :
    Calls Tryz.prog 5 #[.agg #[.int .i64 x.kind, .string x.table, .slice A2 n2 c2, .slice A3 n3 c3, .slice A4 n4 c4, .int .i64 x.policy], .int .i64 left] w fun e w' => e = .returned (.int .i64 (szR left x.sz)) ∧ Below w.heap.size w w' := by
  obtain ⟨wf1, wf2, wf3, wf4⟩ := hwf
  unfold maxLen at wf1
  have WF2 := Lib.hid wf2
  clear wf2
  have WF3 := Lib.hid wf3
  clear wf3
  have WF4 := Lib.hid wf4
  clear wf4
  have HB := Lib.hid ((Below.refl w.heap.size w).alloc (Nat.le_refl _) (.cells #[.int .i64 x.kind, .string x.table, .slice A2 n2 c2, .slice A3 n3 c3, .slice A4 n4 c4, .int .i64 x.policy] 27))
  have RB := Lib.hid (Row.new w 27 #[.int .i64 x.kind, .string x.table, .slice A2 n2 c2, .slice A3 n3 c3, .slice A4 n4 c4, .int .i64 x.policy])
  by_cases hs1 : left - (x.table.size : Int) < 0
  · go_enter Tryz.func5, Tryz.ntmps5
    go_wp2_with fail
    go_ret
    exact ⟨retI (szR_no (by simp only [Sq.sz]; omega)), HB.out⟩
  have hs1' : decide (left - (x.table.size : Int) < 0) = false := by simpa using hs1
  go_enter Tryz.func5, Tryz.ntmps5
  go_wp2_with fail
  refine (lawsSzRowL A2 n2 c2 x.rows (left - (x.table.size : Int)) ok _ (h2.below RwR.stays HB.out) WF2.out (by omega) (by omega)).mono ?_
  rintro e w1 ⟨rfl, hb1⟩
  have hbb1 := (HB.out).trans (hb1.mono (HB.out).size)
  have RB1 := Lib.hid ((RB.out).below hb1)
  obtain ⟨⟨p1_0, p1_1, p1_2, p1_3, p1_4, p1_5⟩, -⟩ := RB1.out.all6
  rcases szR_cases (left - (x.table.size : Int)) (szL Rw.sz x.rows) (by omega) with ⟨hno1, hv1⟩ | ⟨l1, hv1, hl1, h01, h11, -⟩
  · rw [hv1.out]
    go_wp2_with fail
    go_ret
    exact ⟨retI (szR_no (by simp only [Sq.sz]; omega)), hbb1⟩
  rw [hv1.out]
  go_wp2_with fail
  refine (lawsSzTokL A3 n3 c3 x.wher l1 ok _ (h3.below TkR.stays hbb1) WF3.out (by omega) (by omega)).mono ?_
  rintro e w2 ⟨rfl, hb2⟩
  have hbb2 := (hbb1).trans (hb2.mono (hbb1).size)
  have RB2 := Lib.hid ((RB1.out).below hb2)
  obtain ⟨⟨p2_0, p2_1, p2_2, p2_3, p2_4, p2_5⟩, -⟩ := RB2.out.all6
  rcases szR_cases l1 (szL (fun t : Tk => t.vs.size) x.wher) (by omega) with ⟨hno2, hv2⟩ | ⟨l2, hv2, hl2, h02, h12, -⟩
  · rw [hv2.out]
    go_wp2_with fail
    go_ret
    exact ⟨retI (szR_no (by have := hl1.out; simp only [Sq.sz]; omega)), hbb2⟩
  rw [hv2.out]
  go_wp2_with fail
  refine (lawsSzSetL A4 n4 c4 x.sets l2 ok _ (h4.below SeR.stays hbb2) WF4.out (by omega) (by omega)).mono ?_
  rintro e w3 ⟨rfl, hb3⟩
  have hbb3 := (hbb2).trans (hb3.mono (hbb2).size)
  have RB3 := Lib.hid ((RB2.out).below hb3)
  obtain ⟨⟨p3_0, p3_1, p3_2, p3_3, p3_4, p3_5⟩, -⟩ := RB3.out.all6
  rcases szR_cases l2 (szL Se.sz x.sets) (by omega) with ⟨hno3, hv3⟩ | ⟨l3, hv3, hl3, h03, h13, -⟩
  · rw [hv3.out]
    go_wp2_with fail
    go_ret
    exact ⟨retI (szR_no (by have := hl1.out; have := hl2.out; simp only [Sq.sz]; omega)), hbb3⟩
  rw [hv3.out]
  go_wp2_with fail
  go_ret
  exact ⟨retI (szR_yes (by omega) (by have := hl1.out; have := hl2.out; have := hl3.out; simp only [Sq.sz]; omega)), hbb3⟩


end Go.Proofs.YthafgkcokecnnaaGreat
