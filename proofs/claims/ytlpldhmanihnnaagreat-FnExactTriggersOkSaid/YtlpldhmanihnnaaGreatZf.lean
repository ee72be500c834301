/-
  Several texts in one: what the proof leans on, part 6.
-/
import Derived.Test.YtlpldhmanihnnaaGreatZc
import Derived.Test.YtlpldhmanihnnaaGreatZe
import Derived.Test.YtlpldhmanihnnaaGreatZd
import Derived.Test.YtlpldhmanihnnaaGreatZa
import Derived.Shelf.SortM.Plain
import Derived.Shelf.SortM.SortNone
import Derived.Shelf.SlicesG.CompactI
import Derived.Sort.OwnSortedInts
import Derived.Laws.AppendOwnNone
import Derived.Deep.RegionHeld3
import Derived.Deep.DeepCutAuto
import Derived.Deep.CutRange
import Derived.IntWalk
import Derived.Sort.CutIn
set_option linter.unusedVariables false
set_option linter.unusedSimpArgs false
namespace Go.Proofs.YtlpldhmanihnnaaGreat
open Go.RowKit Go.Maps
set_option maxRecDepth 100000 in
set_option maxHeartbeats 4000000 in
theorem specSchemaOk (AS : Option Addr) (nS cS : Nat) (s : List Tb) (ok : Nat → Prop) (w : World) (hs : Sl TbR 6 ok w AS nS s) (hcp : nS ≤ cS) (hsz : szL Tb.sz s ≤ 1048576) :
    Calls Tryz.prog 104 #[.slice AS nS cS] w fun e w' => e = .returned (.bool (schemaB s)) ∧ Below w.heap.size w w' := by
  obtain rfl : s.length = nS := hs.1
  have hn : s.length ≤ 1048576 := by unfold szL at hsz; omega
  have HSZ := Lib.hid hsz
  have HT := Lib.hid (fun k (hlt : k < s.length) => show s[k].sz ≤ 1048576 by have := HSZ.out; have := sum_mem_le Tb.sz s k hlt; unfold szL at *; omega)
  clear hsz
  go_enter Tryz.func104, Tryz.ntmps104
  go_wp2_with fail
  go_loopw [3] (fun i wr => ∃ k : Nat, k ≤ s.length ∧ i = .int .i64 k ∧ Hid ((s.take k).all tableB = true) ∧ Hid (uniqGo [] (s.map Tb.name) = uniqGo ((s.map Tb.name).take k) ((s.map Tb.name).drop k)) ∧ Below w.heap.size w wr) (fun i _ => s.length - (intOf i).toNat)
  case atStart => exact ⟨0, by omega, rfl, Lib.hid (by simp), Lib.hid (by simp), Below.refl _ _⟩
  case round =>
    obtain ⟨k, hk, rfl, hall, huq, hb⟩ := hrel
    by_cases hlt : k < s.length
    · have hsw := hs.below TbR.stays hb
      obtain ⟨b, off, A1, n1, c1, A2, n2, c2, A3, n3, c3, A4, n4, c4, A5, n5, c5, -, ea, q0, q1, q2, q3, q4, q5, s1, s2, s3, s4, s5, hcps⟩ := TbR.at_ hsw hlt
      subst ea
      have HCP := Lib.hid hcps
      clear hcps
      have hsn := all_take tableB s k hlt
      rw [hall.out, Bool.true_and] at hsn
      have hno := fun hf => all_no tableB s k hlt hf
      have hug := uniqGo_at (s.map Tb.name) k (by simpa using hlt)
      rw [← huq.out, List.getElem_map, ← List.map_take] at hug
      have HX := Lib.hid (HT.out k hlt)
      have i0 : (0 : Int) ≤ k := by omega
      have i1 : (k : Int) < s.length := by omega
      have i3 : (k : Int) ≤ cS := by omega
      cases hc : tableB s[k]
      · skip
        have HTB := Lib.hid hc
        have HF := Lib.hid (show schemaB s = false by unfold schemaB; rw [hno hc]; simp)
        clear hc hno hsn hug hall huq
        go_wp2_with fail
        refine wp_region_noPanic ?_
        refine wp_region_held_drew (S := fun w' => w'.cell? ⟨b, off + k * 6, none⟩ = some (.string s[k].name) ∧ w'.cell? ⟨b, off + k * 6 + 1, none⟩ = some (.slice A1 n1 c1) ∧ w'.cell? ⟨b, off + k * 6 + 2, none⟩ = some (.slice A2 n2 c2) ∧ w'.cell? ⟨b, off + k * 6 + 3, none⟩ = some (.slice A3 n3 c3) ∧ w'.cell? ⟨b, off + k * 6 + 4, none⟩ = some (.slice A4 n4 c4) ∧ w'.cell? ⟨b, off + k * 6 + 5, none⟩ = some (.slice A5 n5 c5)) (by kernel_rfl) ⟨q0, q1, q2, q3, q4, q5⟩ (fun hHeld => ?_)
        refine wpAnyH_take (i := 0) (v := ?v1) rfl (by kernel_rfl) (by kernel_rfl) (by kernel_rfl) (fun _ _ _ h => h) (Or.inl ⟨by rfl, ?hy1⟩) hHeld ?rest1
        case hy1 => (intro w' hSw; (try dsimp only at hSw); first | (go_simp; done) | (go_simp; with_reducible rfl))
        simp only [Act.put, pz0, pz1, pz2, pz3, pz4, pz5]
        refine wpAnyH_take (i := 1) (v := ?v2) rfl (by kernel_rfl) (by kernel_rfl) (by kernel_rfl) (fun _ _ _ h => h) (Or.inl ⟨by rfl, ?hy2⟩) hHeld ?rest2
        case hy2 => (intro w' hSw; (try dsimp only at hSw); first | (go_simp; done) | (go_simp; with_reducible rfl))
        simp only [Act.put, pz0, pz1, pz2, pz3, pz4, pz5]
        refine wpAnyH_take (i := 2) (v := ?v3) rfl (by kernel_rfl) (by kernel_rfl) (by kernel_rfl) (fun _ _ _ h => h) (Or.inl ⟨by rfl, ?hy3⟩) hHeld ?rest3
        case hy3 => (intro w' hSw; (try dsimp only at hSw); first | (go_simp; done) | (go_simp; with_reducible rfl))
        simp only [Act.put, pz0, pz1, pz2, pz3, pz4, pz5]
        refine wpAnyH_take (i := 3) (v := ?v4) rfl (by kernel_rfl) (by kernel_rfl) (by kernel_rfl) (fun _ _ _ h => h) (Or.inl ⟨by rfl, ?hy4⟩) hHeld ?rest4
        case hy4 => (intro w' hSw; (try dsimp only at hSw); first | (go_simp; done) | (go_simp; with_reducible rfl))
        simp only [Act.put, pz0, pz1, pz2, pz3, pz4, pz5]
        refine wpAnyH_ready (rs := [4]) (by kernel_rfl) (by simp) ?_
        refine AllReadyH.cons rfl (fun K hK => ?_) AllReadyH.nil
        go_simp
        refine (specTableOk s[k] A1 n1 c1 A2 n2 c2 A3 n3 c3 A4 n4 c4 A5 n5 c5 ok _ (s1.drew ClR.stays) (s2.drew IntR.stays) (s3.drew UqR.stays) (s4.drew CkR.stays) (s5.drew FkR.stays) HCP.out HX.out).mono ?_
        rintro e wc ⟨rfl, hqc⟩
        rw [HTB.out]
        go_wp2_with fail
        refine hK.out _ _ ⟨below_keep hqc _ _ hHeld.1, below_keep hqc _ _ hHeld.2.1, below_keep hqc _ _ hHeld.2.2.1, below_keep hqc _ _ hHeld.2.2.2.1, below_keep hqc _ _ hHeld.2.2.2.2.1, below_keep hqc _ _ hHeld.2.2.2.2.2⟩ (fun hHeld => ?_)
        clear hK K
        (try simp only [Act.put, pz0, pz1, pz2, pz3, pz4, pz5])
        refine wpAnyH_take (i := 5) (v := ?v5) rfl (by kernel_rfl) (by kernel_rfl) (by kernel_rfl) (fun _ _ _ h => h) (Or.inl ⟨by rfl, ?hy5⟩) hHeld ?rest5
        case hy5 => (intro w' hSw; (try dsimp only at hSw); first | (go_simp; done) | (go_simp; with_reducible rfl))
        simp only [Act.put, pz0, pz1, pz2, pz3, pz4, pz5]
        refine wpAnyH_take (i := 6) (v := ?v6) rfl (by kernel_rfl) (by kernel_rfl) (by kernel_rfl) (fun _ _ _ h => h) (Or.inl ⟨by rfl, ?hy6⟩) hHeld ?rest6
        case hy6 => (intro w' hSw; (try dsimp only at hSw); first | (go_simp; done) | (go_simp; with_reducible rfl))
        simp only [Act.put, pz0, pz1, pz2, pz3, pz4, pz5]
        refine wpAnyH_take (i := 7) (v := undef) rfl (by kernel_rfl) (by kernel_rfl) (by kernel_rfl) (fun _ _ _ h => h) (Or.inr ⟨by rfl, rfl⟩) hHeld ?_
        simp only [Act.put, pz0, pz1, pz2, pz3, pz4, pz5]
        refine wpAnyH_take (i := 8) (v := undef) rfl (by kernel_rfl) (by kernel_rfl) (by kernel_rfl) (fun _ _ _ h => h) (Or.inr ⟨by rfl, rfl⟩) hHeld ?_
        simp only [Act.put, pz0, pz1, pz2, pz3, pz4, pz5]
        refine wpAnyH_take (i := 9) (v := undef) rfl (by kernel_rfl) (by kernel_rfl) (by kernel_rfl) (fun _ _ _ h => h) (Or.inr ⟨by rfl, rfl⟩) hHeld ?_
        simp only [Act.put, pz0, pz1, pz2, pz3, pz4, pz5]
        refine wpAnyH_take (i := 10) (v := undef) rfl (by kernel_rfl) (by kernel_rfl) (by kernel_rfl) (fun _ _ _ h => h) (Or.inr ⟨by rfl, rfl⟩) hHeld ?_
        simp only [Act.put, pz0, pz1, pz2, pz3, pz4, pz5]
        refine wpAnyH_take (i := 11) (v := undef) rfl (by kernel_rfl) (by kernel_rfl) (by kernel_rfl) (fun _ _ _ h => h) (Or.inr ⟨by rfl, rfl⟩) hHeld ?_
        simp only [Act.put, pz0, pz1, pz2, pz3, pz4, pz5]
        refine wpAnyH_take (i := 12) (v := undef) rfl (by kernel_rfl) (by kernel_rfl) (by kernel_rfl) (fun _ _ _ h => h) (Or.inr ⟨by rfl, rfl⟩) hHeld ?_
        simp only [Act.put, pz0, pz1, pz2, pz3, pz4, pz5]
        refine wpAnyH_take (i := 13) (v := undef) rfl (by kernel_rfl) (by kernel_rfl) (by kernel_rfl) (fun _ _ _ h => h) (Or.inr ⟨by rfl, rfl⟩) hHeld ?_
        simp only [Act.put, pz0, pz1, pz2, pz3, pz4, pz5]
        refine wpAnyH_take (i := 14) (v := undef) rfl (by kernel_rfl) (by kernel_rfl) (by kernel_rfl) (fun _ _ _ h => h) (Or.inr ⟨by rfl, rfl⟩) hHeld ?_
        simp only [Act.put, pz0, pz1, pz2, pz3, pz4, pz5]
        refine wpAnyH_take (i := 15) (v := undef) rfl (by kernel_rfl) (by kernel_rfl) (by kernel_rfl) (fun _ _ _ h => h) (Or.inr ⟨by rfl, rfl⟩) hHeld ?_
        simp only [Act.put, pz0, pz1, pz2, pz3, pz4, pz5]
        refine wpAnyH_take (i := 16) (v := undef) rfl (by kernel_rfl) (by kernel_rfl) (by kernel_rfl) (fun _ _ _ h => h) (Or.inr ⟨by rfl, rfl⟩) hHeld ?_
        simp only [Act.put, pz0, pz1, pz2, pz3, pz4, pz5]
        refine wpAnyH_take (i := 17) (v := ?v7) rfl (by kernel_rfl) (by kernel_rfl) (by kernel_rfl) (fun _ _ _ h => h) (Or.inl ⟨by rfl, ?hy7⟩) hHeld ?rest7
        case hy7 => (intro w' hSw; (try dsimp only at hSw); first | (go_simp; done) | (go_simp; with_reducible rfl))
        simp only [Act.put, pz0, pz1, pz2, pz3, pz4, pz5]
        refine wpAnyH_done (by kernel_rfl) ?_ _
        refine NoPanic.normal ?_
        have hz := hb.drew.trans (hqc.mono hb.drew.size)
        clear hHeld q0 q1 q2 q3 q4 q5
        go_wp2_with fail
        go_ret
        exact ⟨retB HF.out.symm, hz⟩
      have HTB := Lib.hid hc
      by_cases hat : atN ((s.take k).map Tb.name) s[k].name = -1
      case neg =>
        obtain ⟨j, hj, hj0⟩ : ∃ j : Int, j = atN ((s.take k).map Tb.name) s[k].name ∧ 0 ≤ j := ⟨_, rfl, by rcases atN_rng ((s.take k).map Tb.name) s[k].name with h | h; exact absurd h hat; exact h.1⟩
        have HJ := Lib.hid hj
        have HF := Lib.hid (show schemaB s = false by unfold schemaB; rw [hug, decide_eq_false hat]; simp)
        clear hc hno hsn hug hall huq hat hj
        go_wp2_with fail
        refine wp_region_noPanic ?_
        refine wp_region_held_drew (S := fun w' => w'.cell? ⟨b, off + k * 6, none⟩ = some (.string s[k].name) ∧ w'.cell? ⟨b, off + k * 6 + 1, none⟩ = some (.slice A1 n1 c1) ∧ w'.cell? ⟨b, off + k * 6 + 2, none⟩ = some (.slice A2 n2 c2) ∧ w'.cell? ⟨b, off + k * 6 + 3, none⟩ = some (.slice A3 n3 c3) ∧ w'.cell? ⟨b, off + k * 6 + 4, none⟩ = some (.slice A4 n4 c4) ∧ w'.cell? ⟨b, off + k * 6 + 5, none⟩ = some (.slice A5 n5 c5)) (by kernel_rfl) ⟨q0, q1, q2, q3, q4, q5⟩ (fun hHeld => ?_)
        refine wpAnyH_take (i := 0) (v := ?v8) rfl (by kernel_rfl) (by kernel_rfl) (by kernel_rfl) (fun _ _ _ h => h) (Or.inl ⟨by rfl, ?hy8⟩) hHeld ?rest8
        case hy8 => (intro w' hSw; (try dsimp only at hSw); first | (go_simp; done) | (go_simp; with_reducible rfl))
        simp only [Act.put, pz0, pz1, pz2, pz3, pz4, pz5]
        refine wpAnyH_take (i := 1) (v := ?v9) rfl (by kernel_rfl) (by kernel_rfl) (by kernel_rfl) (fun _ _ _ h => h) (Or.inl ⟨by rfl, ?hy9⟩) hHeld ?rest9
        case hy9 => (intro w' hSw; (try dsimp only at hSw); first | (go_simp; done) | (go_simp; with_reducible rfl))
        simp only [Act.put, pz0, pz1, pz2, pz3, pz4, pz5]
        refine wpAnyH_take (i := 2) (v := ?v10) rfl (by kernel_rfl) (by kernel_rfl) (by kernel_rfl) (fun _ _ _ h => h) (Or.inl ⟨by rfl, ?hy10⟩) hHeld ?rest10
        case hy10 => (intro w' hSw; (try dsimp only at hSw); first | (go_simp; done) | (go_simp; with_reducible rfl))
        simp only [Act.put, pz0, pz1, pz2, pz3, pz4, pz5]
        refine wpAnyH_take (i := 3) (v := ?v11) rfl (by kernel_rfl) (by kernel_rfl) (by kernel_rfl) (fun _ _ _ h => h) (Or.inl ⟨by rfl, ?hy11⟩) hHeld ?rest11
        case hy11 => (intro w' hSw; (try dsimp only at hSw); first | (go_simp; done) | (go_simp; with_reducible rfl))
        simp only [Act.put, pz0, pz1, pz2, pz3, pz4, pz5]
        refine wpAnyH_ready (rs := [4]) (by kernel_rfl) (by simp) ?_
        refine AllReadyH.cons rfl (fun K hK => ?_) AllReadyH.nil
        go_simp
        refine (specTableOk s[k] A1 n1 c1 A2 n2 c2 A3 n3 c3 A4 n4 c4 A5 n5 c5 ok _ (s1.drew ClR.stays) (s2.drew IntR.stays) (s3.drew UqR.stays) (s4.drew CkR.stays) (s5.drew FkR.stays) HCP.out HX.out).mono ?_
        rintro e wc ⟨rfl, hqc⟩
        rw [HTB.out]
        go_wp2_with fail
        refine hK.out _ _ ⟨below_keep hqc _ _ hHeld.1, below_keep hqc _ _ hHeld.2.1, below_keep hqc _ _ hHeld.2.2.1, below_keep hqc _ _ hHeld.2.2.2.1, below_keep hqc _ _ hHeld.2.2.2.2.1, below_keep hqc _ _ hHeld.2.2.2.2.2⟩ (fun hHeld => ?_)
        clear hK K
        (try simp only [Act.put, pz0, pz1, pz2, pz3, pz4, pz5])
        refine wpAnyH_take (i := 5) (v := ?v12) rfl (by kernel_rfl) (by kernel_rfl) (by kernel_rfl) (fun _ _ _ h => h) (Or.inl ⟨by rfl, ?hy12⟩) hHeld ?rest12
        case hy12 => (intro w' hSw; (try dsimp only at hSw); first | (go_simp; done) | (go_simp; with_reducible rfl))
        simp only [Act.put, pz0, pz1, pz2, pz3, pz4, pz5]
        refine wpAnyH_take (i := 6) (v := ?v13) rfl (by kernel_rfl) (by kernel_rfl) (by kernel_rfl) (fun _ _ _ h => h) (Or.inl ⟨by rfl, ?hy13⟩) hHeld ?rest13
        case hy13 => (intro w' hSw; (try dsimp only at hSw); first | (go_simp; done) | (go_simp; with_reducible rfl))
        simp only [Act.put, pz0, pz1, pz2, pz3, pz4, pz5]
        refine wpAnyH_take (i := 7) (v := ?v14) rfl (by kernel_rfl) (by kernel_rfl) (by kernel_rfl) (fun _ _ _ h => h) (Or.inl ⟨by rfl, ?hy14⟩) hHeld ?rest14
        case hy14 => (intro w' hSw; (try dsimp only at hSw); first | (go_simp; done) | (go_simp; with_reducible rfl))
        simp only [Act.put, pz0, pz1, pz2, pz3, pz4, pz5]
        refine wpAnyH_take (i := 8) (v := ?v15) rfl (by kernel_rfl) (by kernel_rfl) (by kernel_rfl) (fun _ _ _ h => h) (Or.inl ⟨by rfl, ?hy15⟩) hHeld ?rest15
        case hy15 => (intro w' hSw; (try dsimp only at hSw); first | (go_simp; done) | (go_simp; with_reducible rfl))
        simp only [Act.put, pz0, pz1, pz2, pz3, pz4, pz5]
        refine wpAnyH_take (i := 9) (v := ?v16) rfl (by kernel_rfl) (by kernel_rfl) (by kernel_rfl) (fun _ _ _ h => h) (Or.inl ⟨by rfl, ?hy16⟩) hHeld ?rest16
        case hy16 => (intro w' hSw; (try dsimp only at hSw); first | (go_simp; done) | (go_simp; with_reducible rfl))
        simp only [Act.put, pz0, pz1, pz2, pz3, pz4, pz5]
        refine wpAnyH_take (i := 10) (v := ?v17) rfl (by kernel_rfl) (by kernel_rfl) (by kernel_rfl) (fun _ _ _ h => h) (Or.inl ⟨by rfl, ?hy17⟩) hHeld ?rest17
        case hy17 => (intro w' hSw; (try dsimp only at hSw); first | (go_simp; done) | (go_simp; with_reducible rfl))
        simp only [Act.put, pz0, pz1, pz2, pz3, pz4, pz5]
        refine wpAnyH_take (i := 11) (v := ?v18) rfl (by kernel_rfl) (by kernel_rfl) (by kernel_rfl) (fun _ _ _ h => h) (Or.inl ⟨by rfl, ?hy18⟩) hHeld ?rest18
        case hy18 => (intro w' hSw; (try dsimp only at hSw); first | (go_simp; done) | (go_simp; with_reducible rfl))
        simp only [Act.put, pz0, pz1, pz2, pz3, pz4, pz5]
        refine wpAnyH_take (i := 12) (v := ?v19) rfl (by kernel_rfl) (by kernel_rfl) (by kernel_rfl) (fun _ _ _ h => h) (Or.inl ⟨by rfl, ?hy19⟩) hHeld ?rest19
        case hy19 => (intro w' hSw; (try dsimp only at hSw); first | (go_simp; done) | (go_simp; with_reducible rfl))
        simp only [Act.put, pz0, pz1, pz2, pz3, pz4, pz5]
        refine wpAnyH_take (i := 13) (v := ?v20) rfl (by kernel_rfl) (by kernel_rfl) (by kernel_rfl) (fun _ _ _ h => h) (Or.inl ⟨by rfl, ?hy20⟩) hHeld ?rest20
        case hy20 => (intro w' hSw; (try dsimp only at hSw); first | (go_simp; done) | (go_simp; with_reducible rfl))
        simp only [Act.put, pz0, pz1, pz2, pz3, pz4, pz5]
        refine wpAnyH_take (i := 14) (v := ?v21) rfl (by kernel_rfl) (by kernel_rfl) (by kernel_rfl) (fun _ _ _ h => h) (Or.inl ⟨by rfl, ?hy21⟩) hHeld ?rest21
        case hy21 => (intro w' hSw; (try dsimp only at hSw); first | (go_simp; done) | (go_simp; with_reducible rfl))
        simp only [Act.put, pz0, pz1, pz2, pz3, pz4, pz5]
        refine wpAnyH_ready (rs := [15]) (by kernel_rfl) (by simp) ?_
        refine AllReadyH.cons rfl (fun K hK => ?_) AllReadyH.nil
        go_simp
        refine (specL3At _ k cS (s.take k) _ ok _ (((hsw.drew TbR.stays).below TbR.stays hqc).take (m := k) (by omega)) (by omega)).mono ?_
        rintro e wd ⟨rfl, hqd⟩
        rw [← HJ.out]
        go_wp2_with fail
        refine hK.out _ _ ⟨below_keep hqd _ _ hHeld.1, below_keep hqd _ _ hHeld.2.1, below_keep hqd _ _ hHeld.2.2.1, below_keep hqd _ _ hHeld.2.2.2.1, below_keep hqd _ _ hHeld.2.2.2.2.1, below_keep hqd _ _ hHeld.2.2.2.2.2⟩ (fun hHeld => ?_)
        clear hK K
        (try simp only [Act.put, pz0, pz1, pz2, pz3, pz4, pz5])
        refine wpAnyH_take (i := 16) (v := ?v22) rfl (by kernel_rfl) (by kernel_rfl) (by kernel_rfl) (fun _ _ _ h => h) (Or.inl ⟨by rfl, ?hy22⟩) hHeld ?rest22
        case hy22 => (intro w' hSw; (try dsimp only at hSw); first | (go_simp; done) | (go_simp; with_reducible rfl))
        simp only [Act.put, pz0, pz1, pz2, pz3, pz4, pz5]
        refine wpAnyH_take (i := 17) (v := ?v23) rfl (by kernel_rfl) (by kernel_rfl) (by kernel_rfl) (fun _ _ _ h => h) (Or.inl ⟨by rfl, ?hy23⟩) hHeld ?rest23
        case hy23 => (intro w' hSw; (try dsimp only at hSw); first | (go_simp; done) | (go_simp; with_reducible rfl))
        simp only [Act.put, pz0, pz1, pz2, pz3, pz4, pz5]
        refine wpAnyH_done (by kernel_rfl) ?_ _
        refine NoPanic.normal ?_
        have hz := hb.drew.trans (hqc.mono hb.drew.size)
        have hz := hz.trans (hqd.mono hz.size)
        clear hHeld q0 q1 q2 q3 q4 q5
        go_wp2_with fail
        go_ret
        exact ⟨retB HF.out.symm, hz⟩
      case pos =>
        have HA := Lib.hid hat
        have HUQ := Lib.hid (show uniqGo [] (s.map Tb.name) = uniqGo ((s.map Tb.name).take (k + 1)) ((s.map Tb.name).drop (k + 1)) by rw [hug, decide_eq_true hat, Bool.true_and])
        have HAL := Lib.hid (hsn.trans hc)
        clear hc hno hsn hug hall huq hat
        go_wp2_with fail
        refine wp_region_noPanic ?_
        refine wp_region_held_drew (S := fun w' => w'.cell? ⟨b, off + k * 6, none⟩ = some (.string s[k].name) ∧ w'.cell? ⟨b, off + k * 6 + 1, none⟩ = some (.slice A1 n1 c1) ∧ w'.cell? ⟨b, off + k * 6 + 2, none⟩ = some (.slice A2 n2 c2) ∧ w'.cell? ⟨b, off + k * 6 + 3, none⟩ = some (.slice A3 n3 c3) ∧ w'.cell? ⟨b, off + k * 6 + 4, none⟩ = some (.slice A4 n4 c4) ∧ w'.cell? ⟨b, off + k * 6 + 5, none⟩ = some (.slice A5 n5 c5)) (by kernel_rfl) ⟨q0, q1, q2, q3, q4, q5⟩ (fun hHeld => ?_)
        refine wpAnyH_take (i := 0) (v := ?v24) rfl (by kernel_rfl) (by kernel_rfl) (by kernel_rfl) (fun _ _ _ h => h) (Or.inl ⟨by rfl, ?hy24⟩) hHeld ?rest24
        case hy24 => (intro w' hSw; (try dsimp only at hSw); first | (go_simp; done) | (go_simp; with_reducible rfl))
        simp only [Act.put, pz0, pz1, pz2, pz3, pz4, pz5]
        refine wpAnyH_take (i := 1) (v := ?v25) rfl (by kernel_rfl) (by kernel_rfl) (by kernel_rfl) (fun _ _ _ h => h) (Or.inl ⟨by rfl, ?hy25⟩) hHeld ?rest25
        case hy25 => (intro w' hSw; (try dsimp only at hSw); first | (go_simp; done) | (go_simp; with_reducible rfl))
        simp only [Act.put, pz0, pz1, pz2, pz3, pz4, pz5]
        refine wpAnyH_take (i := 2) (v := ?v26) rfl (by kernel_rfl) (by kernel_rfl) (by kernel_rfl) (fun _ _ _ h => h) (Or.inl ⟨by rfl, ?hy26⟩) hHeld ?rest26
        case hy26 => (intro w' hSw; (try dsimp only at hSw); first | (go_simp; done) | (go_simp; with_reducible rfl))
        simp only [Act.put, pz0, pz1, pz2, pz3, pz4, pz5]
        refine wpAnyH_take (i := 3) (v := ?v27) rfl (by kernel_rfl) (by kernel_rfl) (by kernel_rfl) (fun _ _ _ h => h) (Or.inl ⟨by rfl, ?hy27⟩) hHeld ?rest27
        case hy27 => (intro w' hSw; (try dsimp only at hSw); first | (go_simp; done) | (go_simp; with_reducible rfl))
        simp only [Act.put, pz0, pz1, pz2, pz3, pz4, pz5]
        refine wpAnyH_ready (rs := [4]) (by kernel_rfl) (by simp) ?_
        refine AllReadyH.cons rfl (fun K hK => ?_) AllReadyH.nil
        go_simp
        refine (specTableOk s[k] A1 n1 c1 A2 n2 c2 A3 n3 c3 A4 n4 c4 A5 n5 c5 ok _ (s1.drew ClR.stays) (s2.drew IntR.stays) (s3.drew UqR.stays) (s4.drew CkR.stays) (s5.drew FkR.stays) HCP.out HX.out).mono ?_
        rintro e wc ⟨rfl, hqc⟩
        rw [HTB.out]
        go_wp2_with fail
        refine hK.out _ _ ⟨below_keep hqc _ _ hHeld.1, below_keep hqc _ _ hHeld.2.1, below_keep hqc _ _ hHeld.2.2.1, below_keep hqc _ _ hHeld.2.2.2.1, below_keep hqc _ _ hHeld.2.2.2.2.1, below_keep hqc _ _ hHeld.2.2.2.2.2⟩ (fun hHeld => ?_)
        clear hK K
        (try simp only [Act.put, pz0, pz1, pz2, pz3, pz4, pz5])
        refine wpAnyH_take (i := 5) (v := ?v28) rfl (by kernel_rfl) (by kernel_rfl) (by kernel_rfl) (fun _ _ _ h => h) (Or.inl ⟨by rfl, ?hy28⟩) hHeld ?rest28
        case hy28 => (intro w' hSw; (try dsimp only at hSw); first | (go_simp; done) | (go_simp; with_reducible rfl))
        simp only [Act.put, pz0, pz1, pz2, pz3, pz4, pz5]
        refine wpAnyH_take (i := 6) (v := ?v29) rfl (by kernel_rfl) (by kernel_rfl) (by kernel_rfl) (fun _ _ _ h => h) (Or.inl ⟨by rfl, ?hy29⟩) hHeld ?rest29
        case hy29 => (intro w' hSw; (try dsimp only at hSw); first | (go_simp; done) | (go_simp; with_reducible rfl))
        simp only [Act.put, pz0, pz1, pz2, pz3, pz4, pz5]
        refine wpAnyH_take (i := 7) (v := ?v30) rfl (by kernel_rfl) (by kernel_rfl) (by kernel_rfl) (fun _ _ _ h => h) (Or.inl ⟨by rfl, ?hy30⟩) hHeld ?rest30
        case hy30 => (intro w' hSw; (try dsimp only at hSw); first | (go_simp; done) | (go_simp; with_reducible rfl))
        simp only [Act.put, pz0, pz1, pz2, pz3, pz4, pz5]
        refine wpAnyH_take (i := 8) (v := ?v31) rfl (by kernel_rfl) (by kernel_rfl) (by kernel_rfl) (fun _ _ _ h => h) (Or.inl ⟨by rfl, ?hy31⟩) hHeld ?rest31
        case hy31 => (intro w' hSw; (try dsimp only at hSw); first | (go_simp; done) | (go_simp; with_reducible rfl))
        simp only [Act.put, pz0, pz1, pz2, pz3, pz4, pz5]
        refine wpAnyH_take (i := 9) (v := ?v32) rfl (by kernel_rfl) (by kernel_rfl) (by kernel_rfl) (fun _ _ _ h => h) (Or.inl ⟨by rfl, ?hy32⟩) hHeld ?rest32
        case hy32 => (intro w' hSw; (try dsimp only at hSw); first | (go_simp; done) | (go_simp; with_reducible rfl))
        simp only [Act.put, pz0, pz1, pz2, pz3, pz4, pz5]
        refine wpAnyH_take (i := 10) (v := ?v33) rfl (by kernel_rfl) (by kernel_rfl) (by kernel_rfl) (fun _ _ _ h => h) (Or.inl ⟨by rfl, ?hy33⟩) hHeld ?rest33
        case hy33 => (intro w' hSw; (try dsimp only at hSw); first | (go_simp; done) | (go_simp; with_reducible rfl))
        simp only [Act.put, pz0, pz1, pz2, pz3, pz4, pz5]
        refine wpAnyH_take (i := 11) (v := ?v34) rfl (by kernel_rfl) (by kernel_rfl) (by kernel_rfl) (fun _ _ _ h => h) (Or.inl ⟨by rfl, ?hy34⟩) hHeld ?rest34
        case hy34 => (intro w' hSw; (try dsimp only at hSw); first | (go_simp; done) | (go_simp; with_reducible rfl))
        simp only [Act.put, pz0, pz1, pz2, pz3, pz4, pz5]
        refine wpAnyH_take (i := 12) (v := ?v35) rfl (by kernel_rfl) (by kernel_rfl) (by kernel_rfl) (fun _ _ _ h => h) (Or.inl ⟨by rfl, ?hy35⟩) hHeld ?rest35
        case hy35 => (intro w' hSw; (try dsimp only at hSw); first | (go_simp; done) | (go_simp; with_reducible rfl))
        simp only [Act.put, pz0, pz1, pz2, pz3, pz4, pz5]
        refine wpAnyH_take (i := 13) (v := ?v36) rfl (by kernel_rfl) (by kernel_rfl) (by kernel_rfl) (fun _ _ _ h => h) (Or.inl ⟨by rfl, ?hy36⟩) hHeld ?rest36
        case hy36 => (intro w' hSw; (try dsimp only at hSw); first | (go_simp; done) | (go_simp; with_reducible rfl))
        simp only [Act.put, pz0, pz1, pz2, pz3, pz4, pz5]
        refine wpAnyH_take (i := 14) (v := ?v37) rfl (by kernel_rfl) (by kernel_rfl) (by kernel_rfl) (fun _ _ _ h => h) (Or.inl ⟨by rfl, ?hy37⟩) hHeld ?rest37
        case hy37 => (intro w' hSw; (try dsimp only at hSw); first | (go_simp; done) | (go_simp; with_reducible rfl))
        simp only [Act.put, pz0, pz1, pz2, pz3, pz4, pz5]
        refine wpAnyH_ready (rs := [15]) (by kernel_rfl) (by simp) ?_
        refine AllReadyH.cons rfl (fun K hK => ?_) AllReadyH.nil
        go_simp
        refine (specL3At _ k cS (s.take k) _ ok _ (((hsw.drew TbR.stays).below TbR.stays hqc).take (m := k) (by omega)) (by omega)).mono ?_
        rintro e wd ⟨rfl, hqd⟩
        rw [HA.out]
        go_wp2_with fail
        refine hK.out _ _ ⟨below_keep hqd _ _ hHeld.1, below_keep hqd _ _ hHeld.2.1, below_keep hqd _ _ hHeld.2.2.1, below_keep hqd _ _ hHeld.2.2.2.1, below_keep hqd _ _ hHeld.2.2.2.2.1, below_keep hqd _ _ hHeld.2.2.2.2.2⟩ (fun hHeld => ?_)
        clear hK K
        (try simp only [Act.put, pz0, pz1, pz2, pz3, pz4, pz5])
        refine wpAnyH_take (i := 16) (v := ?v38) rfl (by kernel_rfl) (by kernel_rfl) (by kernel_rfl) (fun _ _ _ h => h) (Or.inl ⟨by rfl, ?hy38⟩) hHeld ?rest38
        case hy38 => (intro w' hSw; (try dsimp only at hSw); first | (go_simp; done) | (go_simp; with_reducible rfl))
        simp only [Act.put, pz0, pz1, pz2, pz3, pz4, pz5]
        refine wpAnyH_take (i := 17) (v := ?v39) rfl (by kernel_rfl) (by kernel_rfl) (by kernel_rfl) (fun _ _ _ h => h) (Or.inl ⟨by rfl, ?hy39⟩) hHeld ?rest39
        case hy39 => (intro w' hSw; (try dsimp only at hSw); first | (go_simp; done) | (go_simp; with_reducible rfl))
        simp only [Act.put, pz0, pz1, pz2, pz3, pz4, pz5]
        refine wpAnyH_done (by kernel_rfl) ?_ _
        refine NoPanic.normal ?_
        have hz := hb.drew.trans (hqc.mono hb.drew.size)
        have hz := hz.trans (hqd.mono hz.size)
        clear hHeld q0 q1 q2 q3 q4 q5
        go_wp2_with fail
        go_roundw
        case rel => exact ⟨k + 1, by omega, by go_num, Lib.hid HAL.out, Lib.hid HUQ.out, hz⟩
        case measure => simp [intOf]; omega
    · have e : s.take k = s := List.take_of_length_le (by omega)
      have e2 : (s.map Tb.name).drop k = [] := List.drop_eq_nil_of_le (by simp; omega)
      have g1 := hall.out
      have g2 := huq.out
      rw [e] at g1
      rw [e2] at g2
      have HALL := Lib.hid g1
      have HU := Lib.hid (show uniqGo [] (s.map Tb.name) = true by rw [g2]; simp [uniqGo])
      clear e e2 g1 g2 hall huq
      go_wp2_with fail
      clear hk hlt
      go_loopw [4] (fun i wr => ∃ k : Nat, k ≤ s.length ∧ i = .int .i64 k ∧ Hid ((s.take k).all (leadsB s) = true) ∧ Below w.heap.size w wr) (fun i _ => s.length - (intOf i).toNat)
      case atStart => exact ⟨0, by omega, rfl, Lib.hid (by simp), hb⟩
      case round =>
        clear hb
        obtain ⟨k, hk, rfl, hall, hb⟩ := hrel
        by_cases hlt : k < s.length
        case neg =>
          have e : s.take k = s := List.take_of_length_le (by omega)
          have g1 := hall.out
          rw [e] at g1
          by_cases h5 : (s.length : Int) ≤ 5
          · have HF := Lib.hid (show schemaB s = true by unfold schemaB; rw [decide_eq_true (by omega), HALL.out, HU.out, g1]; rfl)
            have h5' : decide ((s.length : Int) ≤ 5) = true := by simpa using h5
            clear e g1 hall
            go_wp2_with fail
            go_ret
            exact ⟨retB HF.out.symm, hb⟩
          · have HF := Lib.hid (show schemaB s = false by unfold schemaB; rw [decide_eq_false (by omega)]; rfl)
            have h5' : decide ((s.length : Int) ≤ 5) = false := by simpa using h5
            clear e g1 hall
            go_wp2_with fail
            go_ret
            exact ⟨retB HF.out.symm, hb⟩
        case pos =>
          have hsn := all_take (leadsB s) s k hlt
          rw [hall.out, Bool.true_and] at hsn
          have HNO := Lib.hid (fun hf : leadsB s s[k] = false => show schemaB s = false by unfold schemaB; rw [all_no (leadsB s) s k hlt hf]; simp)
          have HSN := Lib.hid hsn
          have HX := Lib.hid (HT.out k hlt)
          have HTK := Lib.hid (show tableB s[k] = true from List.all_eq_true.1 HALL.out _ (List.getElem_mem hlt))
          clear hsn hall
          have i0 : (0 : Int) ≤ k := by omega
          have i1 : (k : Int) < s.length := by omega
          go_wp2_with fail
          go_loopw [5] (fun i wr => ∃ m : Nat, m ≤ s[k].fks.length ∧ i = .int .i64 m ∧ Hid ((s[k].fks.take m).all (leadB s s[k]) = true) ∧ Below w.heap.size w wr) (fun i _ => s[k].fks.length - (intOf i).toNat)
          case atStart => exact ⟨0, by omega, rfl, Lib.hid (by simp), hb⟩
          case round =>
            clear hb
            obtain ⟨m, hm, rfl, hall, hb⟩ := hrel
            obtain ⟨b, off, A1, n1, c1, A2, n2, c2, A3, n3, c3, A4, n4, c4, A5, n5, c5, -, ea, q0, q1, q2, q3, q4, q5, s1, s2, -, -, s5, -⟩ := TbR.at_ (hs.below TbR.stays hb) hlt
            subst ea
            obtain rfl : s[k].fks.length = n5 := s5.1
            by_cases hlm : m < s[k].fks.length
            case neg =>
              have e : s[k].fks.take m = s[k].fks := List.take_of_length_le (by omega)
              have g1 := hall.out
              rw [e] at g1
              have HA := Lib.hid (HSN.out.trans g1)
              clear e g1 hall
              go_wp2_with fail
              go_roundw
              case rel => exact ⟨k + 1, by omega, by go_num, Lib.hid HA.out, hb⟩
              case measure => simp [intOf]; omega
            case pos =>
              have hsn := all_take (leadB s s[k]) s[k].fks m hlm
              rw [hall.out, Bool.true_and] at hsn
              have hno := fun hf : leadB s s[k] s[k].fks[m] = false => HNO.out (show leadsB s s[k] = false from all_no (leadB s s[k]) s[k].fks m hlm hf)
              have HI1 := Lib.hid (show ∀ y ∈ s[k].fks[m].cols, 0 ≤ y ∧ y < s[k].cols.length from fk_cols HTK.out hlm)
              obtain ⟨bf, offf, A9, n9, c9, -, ef, y0, y1, y2, y3, y4, hfc, -⟩ := FkR.at_ s5 hlm
              subst ef
              obtain rfl : s[k].fks[m].cols.length = n9 := hfc.1
              have HSN3 := Lib.hid hsn
              have HNO3 := Lib.hid hno
              clear hsn hno hall
              have hfin : s[k].fks[m].cols.length ≤ 1048576 := by have h1 := HX.out; have := sum_mem_le Fk.sz s[k].fks m hlm; simp only [Tb.sz, Fk.sz, szL] at *; omega
              have hfl : s[k].fks.length ≤ 1048576 := by have := HX.out; simp only [Tb.sz, szL] at this; omega
              generalize s[k].fks[m] = f at *
              have j0 : (0 : Int) ≤ m := by omega
              have j1' : (m : Int) < s[k].fks.length := by omega
              have hbx := (Below.refl wr.heap.size wr).alloc (Nat.le_refl _) (.cells #[.slice A9 f.cols.length c9, .string f.table, .int .i64 f.del, .int .i64 f.upd, .bool f.dfr] 188)
              have hba := hb.trans (hbx.mono hb.size)
              have rf := Row.new wr 188 #[.slice A9 f.cols.length c9, .string f.table, .int .i64 f.del, .int .i64 f.upd, .bool f.dfr]
              have hfc1 := hfc.below IntR.stays hbx
              obtain ⟨⟨f0, f1, f2, f3, f4⟩, -⟩ := rf.five
              clear hfc
              go_wp2_with fail
              generalize wr.alloc (.cells #[.slice A9 f.cols.length c9, .string f.table, .int .i64 f.del, .int .i64 f.upd, .bool f.dfr] 188) = z1 at *
              generalize wr.heap.size = gz at *
              refine (specL3At _ s.length cS s f.table ok _ (hs.below TbR.stays hba) hn).mono ?_
              rintro e w1 ⟨rfl, hb1⟩
              have hbc := hba.trans (hb1.mono hba.size)
              have rf1 := rf.below hb1
              have hfc2 := hfc1.below IntR.stays hb1
              clear f0 f1 f2 f3 f4 q0 q1 q2 q3 q4 q5 y0 y1 y2 y3 y4 s1 s2 hbx hb rf hfc1 hba hb1 s5
              obtain ⟨⟨f0, f1, f2, f3, f4⟩, -⟩ := rf1.five
              by_cases hat : atN (s.map Tb.name) f.table = -1
              · have HA := Lib.hid hat
                have HF := Lib.hid (HNO3.out (by unfold leadB; rw [decide_eq_false (by simp [hat])]; rfl))
                rw [hat]
                clear hat
                go_wp2_with fail
                go_quiet (fail)
                go_wp2_with fail
                go_ret
                exact ⟨retB HF.out.symm, below_drewN hbc _⟩
              obtain ⟨j, hj, hjl⟩ : ∃ j : Nat, atN (s.map Tb.name) f.table = (j : Int) ∧ j < s.length := by
                rcases atN_rng (s.map Tb.name) f.table with h | h
                · exact absurd h hat
                · rw [List.length_map] at h; exact ⟨(atN (s.map Tb.name) f.table).toNat, by omega, by omega⟩
              have hld : leadB s s[k] f = sameB s[k].cols f.cols s[j].cols s[j].key := by
                unfold leadB; rw [decide_eq_true hat, hj]; simp [List.getElem?_eq_getElem hjl]
              have HSN4 := Lib.hid (HSN3.out.trans hld)
              have HLD := Lib.hid hld
              have HTJ := Lib.hid (show tableB s[j] = true from List.all_eq_true.1 HALL.out _ (List.getElem_mem hjl))
              rw [hj]
              clear hat hj hld
              have k0 : (0 : Int) ≤ j := by omega
              have k1 : (j : Int) < s.length := by omega
              have k2 : ¬ ((j : Int) < 0) := by omega
              have k3 : decide ((j : Int) < 0) = false := decide_eq_false k2
              obtain ⟨bj, offj, B1, m1, d1, B2, m2, d2, B3, m3, d3, B4, m4, d4, B5, m5, d5, -, ej, z0, z1', z2, z3, z4, z5, t1, t2, -, -, -, -⟩ := TbR.at_ (hs.below TbR.stays hbc) hjl
              cases ej
              obtain rfl : s[j].key.length = m2 := t2.1
              cases hl : (s[j].key.length == f.cols.length)
              · have hne := beq_eq_false_iff_ne.1 hl
                have hl' : ¬ ((s[j].key.length : Int) = f.cols.length) := by omega
                have HF := Lib.hid (HNO3.out (by rw [HLD.out]; unfold sameB; rw [decide_eq_false (fun h => hne h.symm)]; rfl))
                clear hl hne
                go_wp2_with fail
                go_quiet (fail)
                go_wp2_with fail
                go_ret
                exact ⟨retB HF.out.symm, below_drewN hbc _⟩
              have hlen : s[j].key.length = f.cols.length := by simpa using hl
              have hl' : ((s[j].key.length : Int) = f.cols.length) := by omega
              have hz : (f.cols.zip s[j].key).length = f.cols.length := by simp [hlen]
              have HZ := Lib.hid hz
              have HL := Lib.hid hlen
              have HE := Lib.hid (show sameB s[k].cols f.cols s[j].cols s[j].key = (f.cols.zip s[j].key).all (kindV s[k].cols s[j].cols) by unfold sameB; rw [decide_eq_true hlen.symm]; rfl)
              clear hl hz hlen
              go_wp2_with fail
              go_quiet (fail)
              go_wp2_with fail
              clear f0 f1 f2 f3 f4 z0 z1' z2 z3 z4 z5 t1 t2 hl'
              have hbd := fun n => below_drewN hbc n
              go_loopw [8] (fun i wr => ∃ r : Nat, r ≤ f.cols.length ∧ i = .int .i64 r ∧ Hid (((f.cols.zip s[j].key).take r).all (kindV s[k].cols s[j].cols) = true) ∧ Row wr gz 188 #[.slice A9 f.cols.length c9, .string f.table, .int .i64 f.del, .int .i64 f.upd, .bool f.dfr] ∧ Sl IntR 1 ok wr A9 f.cols.length f.cols ∧ Below w.heap.size w wr) (fun i _ => f.cols.length - (intOf i).toNat)
              case atStart => exact ⟨0, by omega, rfl, Lib.hid (by simp), rf1.drewN _, hfc2.drewN IntR.stays _, hbd _⟩
              case round =>
                clear hbd hbc rf1 hfc2
                obtain ⟨r, hr', rfl, hall, hrf, hfc, hb⟩ := hrel
                obtain ⟨⟨f0, f1, f2, f3, f4⟩, -⟩ := hrf.five
                by_cases hlr : r < f.cols.length
                case neg =>
                  have e : (f.cols.zip s[j].key).take r = f.cols.zip s[j].key := List.take_of_length_le (by rw [HZ.out]; omega)
                  have g1 := hall.out
                  rw [e] at g1
                  have HA := Lib.hid (HSN4.out.trans (HE.out.trans g1))
                  clear e g1 hall
                  go_wp2_with fail
                  go_roundw
                  case rel => exact ⟨m + 1, by omega, by go_num, Lib.hid HA.out, hb⟩
                  case measure => simp [intOf]; omega
                case pos =>
                  have hlr2 : r < s[j].key.length := by have := HL.out; omega
                  obtain ⟨bq, offq, C1, e1, g1, C2, e2, g2, C3, e3, g3, C4, e4, g4, C5, e5, g5, -, eq, q0, q1, q2, q3, q4, q5, s1, -, -, -, -, -⟩ := TbR.at_ (hs.below TbR.stays hb) hlt
                  cases eq
                  obtain ⟨bj, offj, D1, m1, d1, D2, m2, d2, D3, m3, d3, D4, m4, d4, D5, m5, d5, -, ej, z0, z1', z2, z3, z4, z5, t1, t2, -, -, -, -⟩ := TbR.at_ (hs.below TbR.stays hb) hjl
                  cases ej
                  obtain rfl : s[j].key.length = m2 := t2.1
                  obtain rfl : s[k].cols.length = e1 := s1.1
                  obtain rfl : s[j].cols.length = m1 := t1.1
                  obtain ⟨bk, offk, -, ek, p0⟩ := IntR.at_ hfc hlr
                  subst ek
                  obtain ⟨bl, offl, -, el, p1⟩ := IntR.at_ t2 hlr2
                  subst el
                  have hi1 := HI1.out _ (List.getElem_mem hlr)
                  have hi2 := key_cols HTJ.out _ (List.getElem_mem hlr2)
                  have hsn := all_take (kindV s[k].cols s[j].cols) (f.cols.zip s[j].key) r (by rw [HZ.out]; exact hlr)
                  have hno := fun hf : kindV s[k].cols s[j].cols ((f.cols.zip s[j].key)[r]'(by rw [HZ.out]; exact hlr)) = false => all_no (kindV s[k].cols s[j].cols) (f.cols.zip s[j].key) r (by rw [HZ.out]; exact hlr) hf
                  obtain ⟨u1, hu1⟩ : ∃ j : Nat, f.cols[r] = (j : Int) := ⟨f.cols[r].toNat, by omega⟩
                  obtain ⟨u2, hu2⟩ : ∃ i : Nat, s[j].key[r] = (i : Int) := ⟨s[j].key[r].toNat, by omega⟩
                  rw [hu1] at p0 hi1
                  rw [hu2] at p1 hi2
                  have hjl1 : u1 < s[k].cols.length := by omega
                  have hjl2 : u2 < s[j].cols.length := by omega
                  have eg : kindV s[k].cols s[j].cols ((f.cols.zip s[j].key)[r]'(by rw [HZ.out]; exact hlr)) = (s[k].cols[u1].kind == s[j].cols[u2].kind) := by
                    rw [List.getElem_zip]; unfold kindV; simp only [hu1, hu2, kindAt_nat hjl1, kindAt_nat hjl2]
                  rw [hall.out, Bool.true_and, eg] at hsn
                  rw [eg] at hno
                  obtain ⟨bv, offv, -, ev, v0, v1, v2, v3, v4, v5⟩ := ClR.at_ s1 hjl1
                  subst ev
                  obtain ⟨bx, offx, -, ex, x0, x1, x2, x3, x4, x5⟩ := ClR.at_ t1 hjl2
                  subst ex
                  have r0 : (0 : Int) ≤ r := by omega
                  have r1 : (r : Int) < f.cols.length := by omega
                  have r2 : (r : Int) < s[j].key.length := by omega
                  have r3 : (0 : Int) ≤ u1 := by omega
                  have r4 : (u1 : Int) < s[k].cols.length := by omega
                  have r5 : (0 : Int) ≤ u2 := by omega
                  have r6 : (u2 : Int) < s[j].cols.length := by omega
                  clear eg hu1 hu2 hi1 hi2
                  cases hc : (s[k].cols[u1].kind == s[j].cols[u2].kind)
                  · have HF := Lib.hid (HNO3.out (by rw [HLD.out, HE.out]; exact hno hc))
                    have hc2 : (s[k].cols[u1].kind != s[j].cols[u2].kind) = true := by rw [bne, hc]; rfl
                    clear hsn hno hall
                    go_wp2_with fail
                    go_quiet (fail)
                    go_wp2_with fail
                    go_ret
                    exact ⟨retB HF.out.symm, below_drewN hb _⟩
                  · have HA := Lib.hid (hsn.trans hc)
                    have hc2 : (s[k].cols[u1].kind != s[j].cols[u2].kind) = false := by rw [bne, hc]; rfl
                    clear hsn hno hall
                    go_wp2_with fail
                    go_quiet (fail)
                    go_wp2_with fail
                    go_roundw
                    case rel => exact ⟨r + 1, by omega, by go_num, Lib.hid HA.out, hrf.drewN _, hfc.drewN IntR.stays _, below_drewN hb _⟩
                    case measure => simp [intOf]; omega
end Go.Proofs.YtlpldhmanihnnaaGreat
namespace Go.Proofs.YtlpldhmanihnnaaGreat
open Go.RowKit Go.Maps Go.Sort
end Go.Proofs.YtlpldhmanihnnaaGreat
namespace Go.Proofs.YtlpldhmanihnnaaGreat
open Go.RowKit Go.Maps
end Go.Proofs.YtlpldhmanihnnaaGreat
namespace Go.Proofs.YtlpldhmanihnnaaGreat
open Go.RowKit
end Go.Proofs.YtlpldhmanihnnaaGreat
namespace Go.Proofs.YtlpldhmanihnnaaGreat
open Go.RowKit Go.Maps
end Go.Proofs.YtlpldhmanihnnaaGreat
namespace Go.Proofs.YtlpldhmanihnnaaGreat
open Go.RowKit
theorem tableB_cols {t : Tb} (h : tableB t = true) : t.cols.length ≤ 8 := by
  simp only [tableB, colsB, Bool.and_eq_true, decide_eq_true_eq] at h
  exact h.2.1.2.1
end Go.Proofs.YtlpldhmanihnnaaGreat
namespace Go.Proofs.YtlpldhmanihnnaaGreat
open Go.RowKit Go.Maps
def eventB (e : Int) : Bool := decide (1 ≤ e) && decide (e ≤ 3)
def widthAt (s : List Tb) (nm : ByteArray) : Nat := ((s[(atN (s.map Tb.name) nm).toNat]?).map (fun t => t.cols.length)).getD 0
def trigE (s : List Tb) (t : Tg) (ts : List Tk) : Bool := exprB ts ((2 * widthAt s t.table : Nat) : Int)
def trigB (s : List Tb) (t : Tg) : Bool := (!decide (atN (s.map Tb.name) t.table = -1) && !decide (atN (s.map Tb.name) t.into = -1)) && (eventB t.event && (decide (t.terms.length = widthAt s t.into) && ((decide (t.wher.length = 0) || trigE s t t.wher) && t.terms.all (fun y => trigE s t y.expr))))
def triggersB (s : List Tb) (l : List Tg) : Bool := schemaB s && (decide (l.length ≤ 6) && l.all (trigB s))
theorem share {P G : World → Prop} {T : Prop} (main : (∀ y, P y → G y) → T) (key : ∀ y, P y → G y) : T := main key
theorem widthAt_of {s : List Tb} {nm : ByteArray} {m : Nat} (h : atN (s.map Tb.name) nm = m) (hm : m < s.length) : widthAt s nm = s[m].cols.length := by
  unfold widthAt
  rw [h, Int.toNat_natCast, List.getElem?_eq_getElem hm]; rfl
theorem implIsEvent (n : Int) (w : World) :
    Calls Tryz.prog 168 #[.int .i64 n] w fun e w' => e = .returned (.bool (eventB n)) ∧ w = w' := by
  by_cases h1 : n = 1
  · subst h1
    go_enter Tryz.func168, Tryz.ntmps168
    go_wp2
    go_ret
    exact ⟨rfl, rfl⟩
  by_cases h2 : n = 2
  · subst h2
    go_enter Tryz.func168, Tryz.ntmps168
    go_wp2
    go_ret
    exact ⟨rfl, rfl⟩
  by_cases h3 : n = 3
  · subst h3
    go_enter Tryz.func168, Tryz.ntmps168
    go_wp2
    go_ret
    exact ⟨rfl, rfl⟩
  have e1 : (n == 1) = false := beq_eq_false_iff_ne.2 h1
  have e2 : (n == 2) = false := beq_eq_false_iff_ne.2 h2
  have e3 : (n == 3) = false := beq_eq_false_iff_ne.2 h3
  have hF : eventB n = false := by
    unfold eventB
    by_cases a : 1 ≤ n
    · rw [decide_eq_false (show ¬ n ≤ 3 by omega)]; simp
    · rw [decide_eq_false a]; rfl
  have HF := Lib.hid hF
  clear hF h1 h2 h3
  go_enter Tryz.func168, Tryz.ntmps168
  go_wp2
  go_ret
  exact ⟨retB HF.out.symm, rfl⟩
theorem keepS2 {w w' : World} {p q : Addr} {u v : Value} (h : w.cell? p = some u ∧ w.cell? q = some v) (hb : Below w.heap.size w w') : w'.cell? p = some u ∧ w'.cell? q = some v :=
  ⟨below_keep hb _ _ h.1, below_keep hb _ _ h.2⟩
set_option maxRecDepth 100000 in
set_option maxHeartbeats 4000000 in
theorem implTriggerOk (AS : Option Addr) (nS cS : Nat) (s : List Tb) (b o : Nat) (A2 : Option Addr) (n2 c2 : Nat) (A4 : Option Addr) (n4 c4 : Nat) (t : Tg) (ok okt : Nat → Prop) (w : World)
    (hs : Sl TbR 6 ok w AS nS s) (hsz : szL Tb.sz s ≤ 1048576) (ht : t.sz ≤ 1048576)
    (y0 : w.cell? ⟨b, o, none⟩ = some (.string t.table)) (y1 : w.cell? ⟨b, o + 1, none⟩ = some (.int .i64 t.event)) (y2 : w.cell? ⟨b, o + 2, none⟩ = some (.slice A2 n2 c2)) (y3 : w.cell? ⟨b, o + 3, none⟩ = some (.string t.into)) (y4 : w.cell? ⟨b, o + 4, none⟩ = some (.slice A4 n4 c4))
    (h2 : Sl TkR 5 okt w A2 n2 t.wher) (h4 : Sl TeR 1 okt w A4 n4 t.terms) :
    Calls Tryz.prog 108 #[.slice AS nS cS, .pointer (some ⟨b, o, none⟩)] w fun e w' => e = .returned (.bool (trigB s t)) ∧ Below w.heap.size w w' := by
  obtain rfl : s.length = nS := hs.1
  obtain rfl : t.wher.length = n2 := h2.1
  obtain rfl : t.terms.length = n4 := h4.1
  have hn : s.length ≤ 1048576 := by unfold szL at hsz; omega
  have hnw : t.wher.length ≤ 1048576 := by unfold Tg.sz szL at ht; omega
  have hnt : t.terms.length ≤ 1048576 := by unfold Tg.sz szL at ht; omega
  have HN0 := Lib.hid (show t.table.size ≤ maxLen by unfold maxLen; unfold Tg.sz at ht; omega)
  have HN1 := Lib.hid (show t.into.size ≤ maxLen by unfold maxLen; unfold Tg.sz at ht; omega)
  have HTE := Lib.hid (fun (k : Nat) (hk : k < t.terms.length) => show (t.terms[k]).expr.length ≤ maxLen by
    have e : szL (fun t : Tk => t.vs.size) (t.terms[k]).expr ≤ szL Te.sz t.terms := szL_mem Te.sz t.terms t.terms[k] (List.getElem_mem hk)
    have e2 : (t.terms[k]).expr.length ≤ szL (fun t : Tk => t.vs.size) (t.terms[k]).expr := by unfold szL; omega
    unfold Tg.sz at ht
    unfold maxLen
    omega)
  have HSZ := Lib.hid hsz
  have HCL := Lib.hid (fun k (hlt : k < s.length) => show s[k].cols.length ≤ 1048576 by
    have := HSZ.out; have := sum_mem_le Tb.sz s k hlt; have e : s[k].cols.length ≤ s[k].sz := (by unfold Tb.sz szL; omega); unfold szL at *; omega)
  have HH4 := Lib.hid h4
  clear hsz ht
  go_enter Tryz.func108, Tryz.ntmps108
  go_wp2_with fail
  apply share (P := fun y => Below w.heap.size w y)
  case main =>
    intro key
    go_region_held3 (fun w' => w'.cell? ⟨b, o, none⟩ = some (.string t.table) ∧ w'.cell? ⟨b, o + 3, none⟩ = some (.string t.into))
      (first | go_keep | exact keepS2 (by assumption) hqc)
      (first | (go_at_call 167; refine (implTableAt AS s.length cS s _ _ _ (by first | exact hs.drew TbR.stays | exact (hs.drew TbR.stays).below TbR.stays (by assumption)) HSZ.out (by first | exact HN0.out | exact HN1.out)).mono ?_; rintro e wc ⟨rfl, hqc⟩; first | have hcum2 := hcum1.trans (hqc.mono hcum1.size) | have hcum1 := (Below.refl w.heap.size w).drew.trans (hqc.mono (Nat.le_refl _))))
    all_goals exact key _ hcum2
  case key =>
    intro w1 hb1
    have z1 := below_keep hb1 _ _ y1
    have z2 := below_keep hb1 _ _ y2
    have z4 := below_keep hb1 _ _ y4
    clear y0 y1 y2 y3 y4
    have hs1 := hs.below TbR.stays hb1
    have g2 := h2.below TkR.stays hb1
    clear hs h2 h4
    by_cases e0 : atN (s.map Tb.name) t.table = -1
    · have HF := Lib.hid (show trigB s t = false by unfold trigB; rw [e0]; rfl)
      rw [e0]
      clear e0
      go_wp2_with fail
      go_ret
      exact ⟨retB HF.out.symm, hb1⟩
    obtain ⟨m, hm, hml⟩ : ∃ m : Nat, atN (s.map Tb.name) t.table = m ∧ m < s.length := by
      rcases atN_rng (s.map Tb.name) t.table with h | h
      · exact absurd h e0
      · rw [List.length_map] at h
        exact ⟨(atN (s.map Tb.name) t.table).toNat, by omega, by omega⟩
    have zm : ((m : Int) == -1) = false := beq_eq_false_iff_ne.2 (by omega)
    by_cases e1 : atN (s.map Tb.name) t.into = -1
    · have HF := Lib.hid (show trigB s t = false by unfold trigB; rw [e1]; simp)
      rw [e1, hm]
      clear e0 e1 hm
      go_wp2_with fail
      go_ret
      exact ⟨retB HF.out.symm, hb1⟩
    obtain ⟨q, hq, hql⟩ : ∃ q : Nat, atN (s.map Tb.name) t.into = q ∧ q < s.length := by
      rcases atN_rng (s.map Tb.name) t.into with h | h
      · exact absurd h e1
      · rw [List.length_map] at h
        exact ⟨(atN (s.map Tb.name) t.into).toNat, by omega, by omega⟩
    have zq : ((q : Int) == -1) = false := beq_eq_false_iff_ne.2 (by omega)
    clear e0 e1
    rw [hm, hq]
    cases hev : eventB t.event
    · have HF := Lib.hid (show trigB s t = false by unfold trigB; rw [hev]; simp)
      have HE := Lib.hid hev
      clear hev hm hq
      go_wp2_with fail
      refine (implIsEvent _ _).mono ?_
      rintro e w2 ⟨rfl, rfl⟩
      rw [HE.out]
      go_wp2_with fail
      go_ret
      exact ⟨retB HF.out.symm, hb1⟩
    have HE := Lib.hid hev
    have HB := Lib.hid (show trigB s t = (decide (t.terms.length = s[q].cols.length) && ((decide (t.wher.length = 0) || exprB t.wher (2 * (s[m].cols.length : Int))) && t.terms.all (fun y => exprB y.expr (2 * (s[m].cols.length : Int))))) by
      unfold trigB trigE
      rw [hm, hq, hev, widthAt_of hm hml, widthAt_of hq hql, decide_eq_false (show ¬ (m : Int) = -1 by omega), decide_eq_false (show ¬ (q : Int) = -1 by omega), Int.natCast_mul]; rfl)
    clear hev hm hq
    obtain ⟨gb, go, D1, m1, d1, D2, m2, d2, D3, m3, d3, D4, m4, d4, D5, m5, d5, -, ea, q0, q1, q2, q3, q4, q5, s1, -, -, -, -, -⟩ := TbR.at_ hs1 hml
    subst ea
    obtain ⟨gb', go', E1, f1, k1, E2, f2, k2, E3, f3, k3, E4, f4, k4, E5, f5, k5, -, ea', r0, r1, r2, r3, r4, r5, p1, -, -, -, -, -⟩ := TbR.at_ hs1 hql
    obtain ⟨rfl, rfl⟩ : gb = gb' ∧ go = go' := by simpa using ea'
    obtain rfl : s[m].cols.length = m1 := s1.1
    obtain rfl : s[q].cols.length = f1 := p1.1
    clear ea' q0 q2 q3 q4 q5 r0 r2 r3 r4 r5 s1 p1 hs1
    have i0 : (0 : Int) ≤ m := by omega
    have i1 : (m : Int) < s.length := by omega
    have j0 : (0 : Int) ≤ q := by omega
    have j1 : (q : Int) < s.length := by omega
    have hc0 := HCL.out m hml
    have hc1 := HCL.out q hql
    have HX := Lib.hid (implExprOk A2 t.wher.length c2 t.wher (2 * (s[m].cols.length : Int)) w1 (Sl.cellz (fun _ => rfl) g2) (by unfold maxLen; omega))
    clear g2
    by_cases hwl : t.wher.length = 0
    case pos =>
      have zw : decide ((0 : Int) < t.wher.length) = false := by rw [hwl]; rfl
      by_cases hl : t.terms.length = s[q].cols.length
      case neg =>
        have HF := Lib.hid (show trigB s t = false by rw [HB.out, decide_eq_false hl]; rfl)
        have zl : ((t.terms.length : Int) == s[q].cols.length) = false := beq_eq_false_iff_ne.2 (by omega)
        clear hl
        go_wp2_with fail
        refine (implIsEvent _ _).mono ?_
        rintro e w2 ⟨rfl, rfl⟩
        rw [HE.out]
        go_wp2_with fail
        go_quiet (fail)
        go_wp2_with fail
        go_ret
        first | exact ⟨retB HF.out.symm, below_dN hb1 _⟩ | exact ⟨retB HF.out.symm, hb1⟩
      case pos =>
        have zl2 : ((t.terms.length : Int) != s[q].cols.length) = false := by rw [hl]; simp
        have zl : ((t.terms.length : Int) == s[q].cols.length) = true := by rw [hl]; exact beq_self_eq_true _
        have HB2 := Lib.hid (show trigB s t = t.terms.all (fun y => exprB y.expr (2 * (s[m].cols.length : Int))) by rw [HB.out, decide_eq_true hl, decide_eq_true hwl]; rfl)
        clear hl
        go_wp2_with fail
        refine (implIsEvent _ _).mono ?_
        rintro e w2 ⟨rfl, rfl⟩
        rw [HE.out]
        go_wp2_with fail
        go_quiet (fail)
        (try rw [zl2])
        go_wp2_with fail
        go_loopw [75] (fun iv wr => ∃ k : Nat, k ≤ t.terms.length ∧ iv = .int .i64 k ∧ Hid ((t.terms.take k).all (fun y => exprB y.expr (2 * (s[m].cols.length : Int))) = true) ∧ Below w.heap.size w wr) (fun iv _ => t.terms.length - (intOf iv).toNat)
        case atStart => first | exact ⟨0, by omega, rfl, Lib.hid (by simp), below_dN hb1 _⟩ | exact ⟨0, by omega, rfl, Lib.hid (by simp), hb1⟩
        case round =>
          clear z1 z2 z4 q1 r1
          obtain ⟨k, hk, rfl, hall, hb⟩ := hrel
          by_cases hlt : k < t.terms.length
          · obtain ⟨bt, ot, AE, nE, cE, -, rfl, u0, hx, -⟩ := TeR.at_ (HH4.out.below TeR.stays hb) hlt
            obtain rfl : t.terms[k].expr.length = nE := hx.1
            have a0 : (0 : Int) ≤ k := by omega
            have a1 : (k : Int) < t.terms.length := by omega
            have hbx := (Below.refl wr.heap.size wr).alloc (Nat.le_refl _) (.cells #[.slice AE t.terms[k].expr.length cE] 207)
            have hba := hb.trans (hbx.mono hb.size)
            have rx := Row.new wr 207 #[.slice AE t.terms[k].expr.length cE]
            have v0 : (wr.alloc (.cells #[.slice AE t.terms[k].expr.length cE] 207)).cell? ⟨wr.heap.size, 0, none⟩ = some (.slice AE t.terms[k].expr.length cE) := by rw [rx.cell]; rfl
            have HXE := Lib.hid (implExprOk AE t.terms[k].expr.length cE t.terms[k].expr (2 * (s[m].cols.length : Int)) (wr.alloc (.cells #[.slice AE t.terms[k].expr.length cE] 207)) (Sl.cellz (fun _ => rfl) (hx.below TkR.stays hbx)) (HTE.out k hlt))
            have hst := all_take (fun y : Te => exprB y.expr (2 * (s[m].cols.length : Int))) t.terms k hlt
            rw [hall.out, Bool.true_and] at hst
            clear hx rx
            cases he : exprB t.terms[k].expr (2 * (s[m].cols.length : Int))
            · have HF := Lib.hid (show trigB s t = false by rw [HB2.out]; exact all_no (fun y : Te => exprB y.expr (2 * (s[m].cols.length : Int))) t.terms k hlt he)
              have HEE := Lib.hid he
              clear hst he
              go_wp2_with fail
              refine HXE.out.mono ?_
              rintro e w3 ⟨rfl, hq3⟩
              rw [HEE.out]
              go_wp2_with fail
              go_ret
              exact ⟨retB HF.out.symm, hba.trans (hq3.mono hba.size)⟩
            · have HA := Lib.hid (show (t.terms.take (k + 1)).all (fun y => exprB y.expr (2 * (s[m].cols.length : Int))) = true by rw [hst]; exact he)
              have HEE := Lib.hid he
              clear hst he
              go_wp2_with fail
              refine HXE.out.mono ?_
              rintro e w3 ⟨rfl, hq3⟩
              rw [HEE.out]
              go_wp2_with fail
              go_roundw
              case rel => exact ⟨k + 1, by omega, by go_num, HA, hba.trans (hq3.mono hba.size)⟩
              case measure => simp [intOf]; omega
          · obtain rfl : k = t.terms.length := by omega
            have h1 := hall.out
            rw [List.take_of_length_le (Nat.le_refl _)] at h1
            have HF := Lib.hid (show trigB s t = true by rw [HB2.out]; exact h1)
            clear hall h1
            go_wp2_with fail
            go_ret
            exact ⟨retB HF.out.symm, hb⟩
    case neg =>
      have zw : decide ((0 : Int) < t.wher.length) = true := by simpa using Nat.pos_of_ne_zero hwl
      cases hw : exprB t.wher (2 * (s[m].cols.length : Int))
      · have HF := Lib.hid (show trigB s t = false by rw [HB.out, decide_eq_false hwl, hw]; simp)
        have HW := Lib.hid hw
        clear hw
        go_wp2_with fail
        refine (implIsEvent _ _).mono ?_
        rintro e w2 ⟨rfl, rfl⟩
        rw [HE.out]
        go_wp2_with fail
        refine HX.out.mono ?_
        rintro e w2 ⟨rfl, hq2⟩
        rw [HW.out]
        go_wp2_with fail
        go_ret
        exact ⟨retB HF.out.symm, hb1.trans (hq2.mono hb1.size)⟩
      have HW := Lib.hid hw
      clear hw
      by_cases hl : t.terms.length = s[q].cols.length
      case neg =>
        have HF := Lib.hid (show trigB s t = false by rw [HB.out, decide_eq_false hl]; rfl)
        have zl : ((t.terms.length : Int) == s[q].cols.length) = false := beq_eq_false_iff_ne.2 (by omega)
        clear hl
        go_wp2_with fail
        refine (implIsEvent _ _).mono ?_
        rintro e w2 ⟨rfl, rfl⟩
        rw [HE.out]
        go_wp2_with fail
        refine HX.out.mono ?_
        rintro e w2 ⟨rfl, hq2⟩
        rw [HW.out]
        have hb2 := hb1.trans (hq2.mono hb1.size)
        have x4 := below_keep hq2 _ _ z4
        have x1 := below_keep hq2 _ _ r1
        clear z4 r1
        go_wp2_with fail
        go_quiet (fail)
        go_wp2_with fail
        go_ret
        first | exact ⟨retB HF.out.symm, below_dN hb2 _⟩ | exact ⟨retB HF.out.symm, hb2⟩
      case pos =>
        have zl2 : ((t.terms.length : Int) != s[q].cols.length) = false := by rw [hl]; simp
        have zl : ((t.terms.length : Int) == s[q].cols.length) = true := by rw [hl]; exact beq_self_eq_true _
        have HB2 := Lib.hid (show trigB s t = t.terms.all (fun y => exprB y.expr (2 * (s[m].cols.length : Int))) by rw [HB.out, decide_eq_true hl, decide_eq_false hwl, HW.out]; rfl)
        clear hl
        go_wp2_with fail
        refine (implIsEvent _ _).mono ?_
        rintro e w2 ⟨rfl, rfl⟩
        rw [HE.out]
        go_wp2_with fail
        refine HX.out.mono ?_
        rintro e w2 ⟨rfl, hq2⟩
        rw [HW.out]
        have hb2 := hb1.trans (hq2.mono hb1.size)
        have x4 := below_keep hq2 _ _ z4
        have x1 := below_keep hq2 _ _ r1
        clear z4 r1
        go_wp2_with fail
        go_quiet (fail)
        (try rw [zl2])
        go_wp2_with fail
        go_loopw [75] (fun iv wr => ∃ k : Nat, k ≤ t.terms.length ∧ iv = .int .i64 k ∧ Hid ((t.terms.take k).all (fun y => exprB y.expr (2 * (s[m].cols.length : Int))) = true) ∧ Below w.heap.size w wr) (fun iv _ => t.terms.length - (intOf iv).toNat)
        case atStart => first | exact ⟨0, by omega, rfl, Lib.hid (by simp), below_dN hb2 _⟩ | exact ⟨0, by omega, rfl, Lib.hid (by simp), hb2⟩
        case round =>
          clear z1 z2 x4 q1 x1
          obtain ⟨k, hk, rfl, hall, hb⟩ := hrel
          by_cases hlt : k < t.terms.length
          · obtain ⟨bt, ot, AE, nE, cE, -, rfl, u0, hx, -⟩ := TeR.at_ (HH4.out.below TeR.stays hb) hlt
            obtain rfl : t.terms[k].expr.length = nE := hx.1
            have a0 : (0 : Int) ≤ k := by omega
            have a1 : (k : Int) < t.terms.length := by omega
            have hbx := (Below.refl wr.heap.size wr).alloc (Nat.le_refl _) (.cells #[.slice AE t.terms[k].expr.length cE] 207)
            have hba := hb.trans (hbx.mono hb.size)
            have rx := Row.new wr 207 #[.slice AE t.terms[k].expr.length cE]
            have v0 : (wr.alloc (.cells #[.slice AE t.terms[k].expr.length cE] 207)).cell? ⟨wr.heap.size, 0, none⟩ = some (.slice AE t.terms[k].expr.length cE) := by rw [rx.cell]; rfl
            have HXE := Lib.hid (implExprOk AE t.terms[k].expr.length cE t.terms[k].expr (2 * (s[m].cols.length : Int)) (wr.alloc (.cells #[.slice AE t.terms[k].expr.length cE] 207)) (Sl.cellz (fun _ => rfl) (hx.below TkR.stays hbx)) (HTE.out k hlt))
            have hst := all_take (fun y : Te => exprB y.expr (2 * (s[m].cols.length : Int))) t.terms k hlt
            rw [hall.out, Bool.true_and] at hst
            clear hx rx
            cases he : exprB t.terms[k].expr (2 * (s[m].cols.length : Int))
            · have HF := Lib.hid (show trigB s t = false by rw [HB2.out]; exact all_no (fun y : Te => exprB y.expr (2 * (s[m].cols.length : Int))) t.terms k hlt he)
              have HEE := Lib.hid he
              clear hst he
              go_wp2_with fail
              refine HXE.out.mono ?_
              rintro e w3 ⟨rfl, hq3⟩
              rw [HEE.out]
              go_wp2_with fail
              go_ret
              exact ⟨retB HF.out.symm, hba.trans (hq3.mono hba.size)⟩
            · have HA := Lib.hid (show (t.terms.take (k + 1)).all (fun y => exprB y.expr (2 * (s[m].cols.length : Int))) = true by rw [hst]; exact he)
              have HEE := Lib.hid he
              clear hst he
              go_wp2_with fail
              refine HXE.out.mono ?_
              rintro e w3 ⟨rfl, hq3⟩
              rw [HEE.out]
              go_wp2_with fail
              go_roundw
              case rel => exact ⟨k + 1, by omega, by go_num, HA, hba.trans (hq3.mono hba.size)⟩
              case measure => simp [intOf]; omega
          · obtain rfl : k = t.terms.length := by omega
            have h1 := hall.out
            rw [List.take_of_length_le (Nat.le_refl _)] at h1
            have HF := Lib.hid (show trigB s t = true by rw [HB2.out]; exact h1)
            clear hall h1
            go_wp2_with fail
            go_ret
            exact ⟨retB HF.out.symm, hb⟩
theorem specL2ExprE (A : Option Addr) (n cap : Nat) (ts : List Tk) (cols : Int) (w : World) (h : Toks w A n ts) (hn : n ≤ maxLen) (h0 : 0 ≤ cols) (h16 : cols ≤ 16) :
    Calls Tryz.prog 161 #[.slice A n cap, .int .i64 cols] w fun e w' => e = .returned (.bool (exprB ts cols)) ∧ Below w.heap.size w w' :=
  (specL2Expr A n cap ts cols w h hn h0 h16).mono fun e w' hq => ⟨by
    rw [hq.1]; exact retB (by simp only [exprB, l2B, h0, h16, decide_true, Bool.true_and]; exact Bool.and_comm _ _), hq.2⟩
set_option maxRecDepth 100000 in
set_option maxHeartbeats 4000000 in
theorem specOne (AS : Option Addr) (nS cS : Nat) (s : List Tb) (A2 : Option Addr) (n2 c2 : Nat) (A4 : Option Addr) (n4 c4 : Nat) (t : Tg) (ok okt : Nat → Prop) (w : World)
    (hs : Sl TbR 6 ok w AS nS s) (hsz : szL Tb.sz s ≤ 1048576) (hS : schemaB s = true) (ht : t.sz ≤ 1048576)
    (h2 : Sl TkR 5 okt w A2 n2 t.wher) (h4 : Sl TeR 1 okt w A4 n4 t.terms) :
    Calls Tryz.prog 105 #[.slice AS nS cS, .agg #[.string t.table, .int .i64 t.event, .slice A2 n2 c2, .string t.into, .slice A4 n4 c4]] w fun e w' => e = .returned (.bool (trigB s t)) ∧ Below w.heap.size w w' := by
  obtain rfl : s.length = nS := hs.1
  obtain rfl : t.wher.length = n2 := h2.1
  obtain rfl : t.terms.length = n4 := h4.1
  have hn : s.length ≤ 1048576 := by unfold szL at hsz; omega
  have hnw : t.wher.length ≤ 1048576 := by unfold Tg.sz szL at ht; omega
  have hnt : t.terms.length ≤ 1048576 := by unfold Tg.sz szL at ht; omega
  have HTE := Lib.hid (fun (k : Nat) (hk : k < t.terms.length) => show (t.terms[k]).expr.length ≤ maxLen by
    have e : szL (fun t : Tk => t.vs.size) (t.terms[k]).expr ≤ szL Te.sz t.terms := szL_mem Te.sz t.terms t.terms[k] (List.getElem_mem hk)
    have e2 : (t.terms[k]).expr.length ≤ szL (fun t : Tk => t.vs.size) (t.terms[k]).expr := by unfold szL; omega
    unfold Tg.sz at ht
    unfold maxLen
    omega)
  have HCL := Lib.hid (fun k (hlt : k < s.length) => show s[k].cols.length ≤ 8 from tableB_cols (List.all_eq_true.1 (by unfold schemaB at hS; simp only [Bool.and_eq_true] at hS; exact hS.2.1) _ (List.getElem_mem hlt)))
  have HH4 := Lib.hid h4
  have HH2 := Lib.hid h2
  clear hsz ht hS
  have hb0 := (Below.refl w.heap.size w).alloc (Nat.le_refl _) (.cells #[.string t.table, .int .i64 t.event, .slice A2 t.wher.length c2, .string t.into, .slice A4 t.terms.length c4] 140)
  have r0 := Row.new w 140 #[.string t.table, .int .i64 t.event, .slice A2 t.wher.length c2, .string t.into, .slice A4 t.terms.length c4]
  obtain ⟨⟨d0, d1, d2, d3, d4⟩, -⟩ := r0.five
  have HS0 := Lib.hid (hs.below TbR.stays hb0)
  go_enter Tryz.func105, Tryz.ntmps105
  go_wp2_with fail
  refine (specL3At AS s.length cS s t.table ok _ HS0.out hn).mono ?_
  rintro e w1 ⟨rfl, hq1⟩
  have hb1 := hb0.trans (hq1.mono hb0.size)
  have r1 := r0.below hq1
  clear d0 d1 d2 d3 d4 HS0 r0
  obtain ⟨⟨d0, d1, d2, d3, d4⟩, -⟩ := r1.five
  go_wp2_with fail
  refine (specL3At AS s.length cS s t.into ok _ (hs.below TbR.stays hb1) hn).mono ?_
  rintro e w2 ⟨rfl, hq2⟩
  have hb2 := hb1.trans (hq2.mono hb1.size)
  have r2 := r1.below hq2
  clear d0 d1 d2 d3 d4 r1
  obtain ⟨⟨d0, d1, d2, d3, d4⟩, -⟩ := r2.five
  have hs2 := hs.below TbR.stays hb2
  have g2 := h2.below TkR.stays hb2
  have hbo := hb0
  clear hs h2 h4 hq1 hq2 hb1 hb0
  by_cases e0 : atN (s.map Tb.name) t.table = -1
  · have HF := Lib.hid (show trigB s t = false by unfold trigB; rw [e0]; rfl)
    rw [e0]
    clear e0
    go_wp2_with fail
    go_quiet (fail)
    go_wp2_with fail
    go_ret
    first | exact ⟨retB HF.out.symm, below_dN hb2 _⟩ | exact ⟨retB HF.out.symm, hb2⟩
  obtain ⟨m, hm, hml⟩ : ∃ m : Nat, atN (s.map Tb.name) t.table = m ∧ m < s.length := by
    rcases atN_rng (s.map Tb.name) t.table with h | h
    · exact absurd h e0
    · rw [List.length_map] at h
      exact ⟨(atN (s.map Tb.name) t.table).toNat, by omega, by omega⟩
  have zm : decide ((m : Int) < 0) = false := decide_eq_false (by omega)
  by_cases e1 : atN (s.map Tb.name) t.into = -1
  · have HF := Lib.hid (show trigB s t = false by unfold trigB; rw [e1]; simp)
    rw [e1, hm]
    clear e0 e1 hm
    go_wp2_with fail
    go_quiet (fail)
    go_wp2_with fail
    go_ret
    first | exact ⟨retB HF.out.symm, below_dN hb2 _⟩ | exact ⟨retB HF.out.symm, hb2⟩
  obtain ⟨q, hq, hql⟩ : ∃ q : Nat, atN (s.map Tb.name) t.into = q ∧ q < s.length := by
    rcases atN_rng (s.map Tb.name) t.into with h | h
    · exact absurd h e1
    · rw [List.length_map] at h
      exact ⟨(atN (s.map Tb.name) t.into).toNat, by omega, by omega⟩
  have zq : decide ((q : Int) < 0) = false := decide_eq_false (by omega)
  clear e0 e1
  rw [hm, hq]
  cases hev : eventB t.event
  · have HF := Lib.hid (show trigB s t = false by unfold trigB; rw [hev]; simp)
    have HE := Lib.hid hev
    clear hev hm hq
    go_wp2_with fail
    go_quiet ((go_at_call 139; exact Calls.quiet_of_same (specInV HE.out _)))
    go_wp2_with fail
    go_ret
    first | exact ⟨retB HF.out.symm, below_dN hb2 _⟩ | exact ⟨retB HF.out.symm, hb2⟩
  have HE := Lib.hid hev
  have HB := Lib.hid (show trigB s t = (decide (t.terms.length = s[q].cols.length) && ((decide (t.wher.length = 0) || exprB t.wher (2 * (s[m].cols.length : Int))) && t.terms.all (fun y => exprB y.expr (2 * (s[m].cols.length : Int))))) by
    unfold trigB trigE
    rw [hm, hq, hev, widthAt_of hm hml, widthAt_of hq hql, decide_eq_false (show ¬ (m : Int) = -1 by omega), decide_eq_false (show ¬ (q : Int) = -1 by omega), Int.natCast_mul]; rfl)
  clear hev hm hq
  obtain ⟨gb, go, D1, m1, x1, D2, m2, x2, D3, m3, x3, D4, m4, x4, D5, m5, x5, -, ea, q0, q1, q2, q3, q4, q5, s1, -, -, -, -, -⟩ := TbR.at_ hs2 hml
  subst ea
  obtain ⟨gb', go', E1, f1, k1, E2, f2, k2, E3, f3, k3, E4, f4, k4, E5, f5, k5, -, ea', v0, v1, v2, v3, v4, v5, p1, -, -, -, -, -⟩ := TbR.at_ hs2 hql
  obtain ⟨rfl, rfl⟩ : gb = gb' ∧ go = go' := by simpa using ea'
  obtain rfl : s[m].cols.length = m1 := s1.1
  obtain rfl : s[q].cols.length = f1 := p1.1
  clear ea' q0 q2 q3 q4 q5 v0 v2 v3 v4 v5 s1 p1 hs2
  have i0 : (0 : Int) ≤ m := by omega
  have i1 : (m : Int) < s.length := by omega
  have j0 : (0 : Int) ≤ q := by omega
  have j1 : (q : Int) < s.length := by omega
  have hc0 := HCL.out m hml
  have hc1 := HCL.out q hql
  by_cases hl : t.terms.length = s[q].cols.length
  case neg =>
    have HF := Lib.hid (show trigB s t = false by rw [HB.out, decide_eq_false hl]; rfl)
    have zl : ((t.terms.length : Int) == s[q].cols.length) = false := beq_eq_false_iff_ne.2 (by omega)
    clear hl
    go_wp2_with fail
    go_quiet ((go_at_call 139; exact Calls.quiet_of_same (specInV HE.out _)))
    go_wp2_with fail
    go_ret
    first | exact ⟨retB HF.out.symm, below_dN hb2 _⟩ | exact ⟨retB HF.out.symm, hb2⟩
  have zl2 : ((t.terms.length : Int) != s[q].cols.length) = false := by rw [hl]; simp
  have zl : ((t.terms.length : Int) == s[q].cols.length) = true := by rw [hl]; exact beq_self_eq_true _
  have HB2 := Lib.hid (show trigB s t = ((decide (t.wher.length = 0) || exprB t.wher (2 * (s[m].cols.length : Int))) && t.terms.all (fun y => exprB y.expr (2 * (s[m].cols.length : Int)))) by rw [HB.out, decide_eq_true hl]; rfl)
  clear hl
  go_wp2_with fail
  go_quiet ((go_at_call 139; exact Calls.quiet_of_same (specInV HE.out _)))
  (try rw [zl2])
  have q1' := below_keep (below_dN (Below.refl w2.heap.size w2) nq) _ _ q1
  have r3 := r2.below (below_dN (Below.refl w2.heap.size w2) nq)
  have hb3 := below_dN hb2 nq
  clear d0 d1 d2 d3 d4 r2
  obtain ⟨⟨d0, d1, d2, d3, d4⟩, -⟩ := r3.five
  go_wp2_with fail
  generalize w2.drewN nq = wz at *
  have HR := Lib.hid r3
  clear r3 d0 d1 d2 d3 d4 q1 q1' v1 g2
  go_loopw [8] (fun iv wr => ∃ k : Nat, k ≤ t.terms.length ∧ iv = .int .i64 k ∧ Hid ((t.terms.take k).all (fun y => exprB y.expr (2 * (s[m].cols.length : Int))) = true) ∧ Below w.heap.size w wr ∧ Row wr w.heap.size 140 #[.string t.table, .int .i64 t.event, .slice A2 t.wher.length c2, .string t.into, .slice A4 t.terms.length c4]) (fun iv _ => t.terms.length - (intOf iv).toNat)
  case atStart => exact ⟨0, by omega, rfl, Lib.hid (by simp), hb3, HR.out⟩
  case round =>
    obtain ⟨k, hk, rfl, hall, hb, r4⟩ := hrel
    obtain ⟨⟨d0, d1, d2, d3, d4⟩, -⟩ := r4.five
    by_cases hlt : k < t.terms.length
    · obtain ⟨bt, ot, AE, nE, cE, -, rfl, u0, hx, -⟩ := TeR.at_ (HH4.out.below TeR.stays hb) hlt
      obtain rfl : t.terms[k].expr.length = nE := hx.1
      have a0 : (0 : Int) ≤ k := by omega
      have a1 : (k : Int) < t.terms.length := by omega
      have HXE := Lib.hid (specL2ExprE AE t.terms[k].expr.length cE t.terms[k].expr (2 * (s[m].cols.length : Int)) wr (Sl.cellz (fun _ => rfl) hx) (HTE.out k hlt) (by omega) (by omega))
      have hst := all_take (fun y : Te => exprB y.expr (2 * (s[m].cols.length : Int))) t.terms k hlt
      rw [hall.out, Bool.true_and] at hst
      clear hx
      cases he : exprB t.terms[k].expr (2 * (s[m].cols.length : Int))
      · have HF := Lib.hid (show trigB s t = false by rw [HB2.out, all_no (fun y : Te => exprB y.expr (2 * (s[m].cols.length : Int))) t.terms k hlt he]; simp)
        have HEE := Lib.hid he
        clear hst he
        go_wp2_with fail
        refine HXE.out.mono ?_
        rintro e w3 ⟨rfl, hq3⟩
        rw [HEE.out]
        go_wp2_with fail
        go_ret
        exact ⟨retB HF.out.symm, hb.trans (hq3.mono hb.size)⟩
      · have HA := Lib.hid (show (t.terms.take (k + 1)).all (fun y => exprB y.expr (2 * (s[m].cols.length : Int))) = true by rw [hst]; exact he)
        have HEE := Lib.hid he
        clear hst he
        go_wp2_with fail
        refine HXE.out.mono ?_
        rintro e w3 ⟨rfl, hq3⟩
        rw [HEE.out]
        go_wp2_with fail
        go_roundw
        case rel => exact ⟨k + 1, by omega, by go_num, HA, hb.trans (hq3.mono hb.size), r4.below hq3⟩
        case measure => simp [intOf]; omega
    · obtain rfl : k = t.terms.length := by omega
      have h1 := hall.out
      rw [List.take_of_length_le (Nat.le_refl _)] at h1
      have HB3 := Lib.hid (show trigB s t = (decide (t.wher.length = 0) || exprB t.wher (2 * (s[m].cols.length : Int))) by rw [HB2.out, h1, Bool.and_true])
      clear hall h1
      by_cases hwl : t.wher.length = 0
      · have HF := Lib.hid (show trigB s t = true by rw [HB3.out, decide_eq_true hwl]; rfl)
        have zw : ((t.wher.length : Int) == 0) = true := by rw [hwl]; rfl
        go_wp2_with fail
        go_ret
        exact ⟨retB HF.out.symm, hb⟩
      · have HF := Lib.hid (show trigB s t = exprB t.wher (2 * (s[m].cols.length : Int)) by rw [HB3.out, decide_eq_false hwl]; rfl)
        have zw : ((t.wher.length : Int) == 0) = false := beq_eq_false_iff_ne.2 (by omega)
        go_wp2_with fail
        refine (specL2ExprE A2 t.wher.length c2 t.wher (2 * (s[m].cols.length : Int)) wr (Sl.cellz (fun _ => rfl) (HH2.out.below TkR.stays hb)) (by unfold maxLen; omega) (by omega) (by omega)).mono ?_
        rintro e w3 ⟨rfl, hq3⟩
        rw [← HF.out]
        go_wp2_with fail
        go_ret
        exact ⟨rfl, hb.trans (hq3.mono hb.size)⟩
set_option maxRecDepth 100000 in
set_option maxHeartbeats 4000000 in
theorem implTriggersOk (AS AL : Option Addr) (nS cS nL cL : Nat) (s : List Tb) (l : List Tg) (ok okl : Nat → Prop) (w : World)
    (hs : Sl TbR 6 ok w AS nS s) (hl : Sl TgR 5 okl w AL nL l) (hsz : szL Tb.sz s ≤ 1048576) (hlz : szL Tg.sz l ≤ 1048576) :
    Calls Tryz.prog 56 #[.slice AS nS cS, .slice AL nL cL] w fun e w' => e = .returned (.bool (triggersB s l)) ∧ Below w.heap.size w w' := by
  obtain rfl : l.length = nL := hl.1
  have hn : l.length ≤ 1048576 := by unfold szL at hlz; omega
  have HLZ := Lib.hid (fun (k : Nat) (hk : k < l.length) => show (l[k]).sz ≤ 1048576 from Nat.le_trans (szL_mem Tg.sz l l[k] (List.getElem_mem hk)) hlz)
  have HSZ := Lib.hid hsz
  have HL := Lib.hid hl
  have HS := Lib.hid hs
  clear hlz hsz hl
  cases hS : schemaB s
  · have HF := Lib.hid (show triggersB s l = false by unfold triggersB; rw [hS]; rfl)
    have HE := Lib.hid hS
    clear hS
    go_enter Tryz.func56, Tryz.ntmps56
    go_wp2_with fail
    refine (implSchemaOk AS nS cS s ok w hs HSZ.out).mono ?_
    rintro e w1 ⟨rfl, hq1⟩
    rw [HE.out]
    go_wp2_with fail
    go_ret
    exact ⟨retB HF.out.symm, hq1⟩
  have HE := Lib.hid hS
  by_cases h6 : l.length ≤ 6
  case neg =>
    have HF := Lib.hid (show triggersB s l = false by unfold triggersB; rw [decide_eq_false h6]; simp)
    have z6 : decide ((6 : Int) < l.length) = true := decide_eq_true (by omega)
    clear hS
    go_enter Tryz.func56, Tryz.ntmps56
    go_wp2_with fail
    refine (implSchemaOk AS nS cS s ok w hs HSZ.out).mono ?_
    rintro e w1 ⟨rfl, hq1⟩
    rw [HE.out]
    go_wp2_with fail
    go_ret
    exact ⟨retB HF.out.symm, hq1⟩
  have z6 : decide ((6 : Int) < l.length) = false := decide_eq_false (by omega)
  have HB := Lib.hid (show triggersB s l = l.all (trigB s) by unfold triggersB; rw [hS, decide_eq_true h6]; rfl)
  clear hS
  go_enter Tryz.func56, Tryz.ntmps56
  go_wp2_with fail
  refine (implSchemaOk AS nS cS s ok w hs HSZ.out).mono ?_
  rintro e w1 ⟨rfl, hq1⟩
  rw [HE.out]
  go_wp2_with fail
  clear hs
  go_loopw [16] (fun iv wr => ∃ k : Nat, k ≤ l.length ∧ iv = .int .i64 k ∧ Hid ((l.take k).all (trigB s) = true) ∧ Below w.heap.size w wr) (fun iv _ => l.length - (intOf iv).toNat)
  case atStart => exact ⟨0, by omega, rfl, Lib.hid (by simp), hq1⟩
  case round =>
    clear hq1
    obtain ⟨k, hk, rfl, hall, hb⟩ := hrel
    by_cases hlt : k < l.length
    · obtain ⟨bt, ot, A2, n2, c2, A4, n4, c4, -, rfl, y0, y1, y2, y3, y4, g2, g4, -, -⟩ := TgR.at_ (HL.out.below TgR.stays hb) hlt
      have i0 : (0 : Int) ≤ k := by omega
      have i1 : (k : Int) < l.length := by omega
      have HX := Lib.hid (implTriggerOk AS nS cS s bt (ot + k * 5) A2 n2 c2 A4 n4 c4 l[k] _ _ wr (HS.out.below TbR.stays hb) HSZ.out (HLZ.out k hlt) y0 y1 y2 y3 y4 g2 g4)
      have hst := all_take (trigB s) l k hlt
      rw [hall.out, Bool.true_and] at hst
      clear g2 g4 y0 y1 y2 y3 y4
      cases he : trigB s l[k]
      · have HF := Lib.hid (show triggersB s l = false by rw [HB.out, all_no (trigB s) l k hlt he])
        have HEE := Lib.hid he
        clear hst he
        go_wp2_with fail
        refine HX.out.mono ?_
        rintro e w3 ⟨rfl, hq3⟩
        rw [HEE.out]
        go_wp2_with fail
        go_ret
        exact ⟨retB HF.out.symm, hb.trans (hq3.mono hb.size)⟩
      · have HA := Lib.hid (show (l.take (k + 1)).all (trigB s) = true by rw [hst]; exact he)
        have HEE := Lib.hid he
        clear hst he
        go_wp2_with fail
        refine HX.out.mono ?_
        rintro e w3 ⟨rfl, hq3⟩
        rw [HEE.out]
        go_wp2_with fail
        go_roundw
        case rel => exact ⟨k + 1, by omega, by go_num, HA, hb.trans (hq3.mono hb.size)⟩
        case measure => simp [intOf]; omega
    · obtain rfl : k = l.length := by omega
      have h1 := hall.out
      rw [List.take_of_length_le (Nat.le_refl _)] at h1
      have HF := Lib.hid (show triggersB s l = true by rw [HB.out]; exact h1)
      clear hall h1
      go_wp2_with fail
      go_ret
      exact ⟨retB HF.out.symm, hb⟩
set_option maxRecDepth 100000 in
set_option maxHeartbeats 4000000 in
theorem specTriggersOk (AS AL : Option Addr) (nS cS nL cL : Nat) (s : List Tb) (l : List Tg) (ok okl : Nat → Prop) (w : World)
    (hs : Sl TbR 6 ok w AS nS s) (hl : Sl TgR 5 okl w AL nL l) (hcp : nS ≤ cS) (hsz : szL Tb.sz s ≤ 1048576) (hlz : szL Tg.sz l ≤ 1048576) :
    Calls Tryz.prog 54 #[.slice AS nS cS, .slice AL nL cL] w fun e w' => e = .returned (.bool (triggersB s l)) ∧ Below w.heap.size w w' := by
  obtain rfl : l.length = nL := hl.1
  have hn : l.length ≤ 1048576 := by unfold szL at hlz; omega
  have HLZ := Lib.hid (fun (k : Nat) (hk : k < l.length) => show (l[k]).sz ≤ 1048576 from Nat.le_trans (szL_mem Tg.sz l l[k] (List.getElem_mem hk)) hlz)
  have HSZ := Lib.hid hsz
  have HL := Lib.hid hl
  have HS := Lib.hid hs
  clear hlz hsz hl
  cases hS : schemaB s
  · have HF := Lib.hid (show triggersB s l = false by unfold triggersB; rw [hS]; rfl)
    have HE := Lib.hid hS
    clear hS
    go_enter Tryz.func54, Tryz.ntmps54
    go_wp2_with fail
    go_loopw [5] (fun iv wr => iv = .int .i64 0 ∧ Below w.heap.size w wr) (fun iv _ => 0)
    case atStart => exact ⟨rfl, Below.refl _ _⟩
    case round =>
      obtain ⟨rfl, hb⟩ := hrel
      go_wp2_with fail
      refine (specSchemaOk AS nS cS s ok _ (HS.out.below TbR.stays hb) hcp HSZ.out).mono ?_
      rintro e w1 ⟨rfl, hq1⟩
      rw [HE.out]
      go_wp2_with fail
      refine (specSchemaOk AS nS cS s ok _ (HS.out.below TbR.stays (hb.trans (hq1.mono hb.size))) hcp HSZ.out).mono ?_
      rintro e w2 ⟨rfl, hq2⟩
      rw [HE.out]
      go_wp2_with fail
      go_ret
      exact ⟨retB HF.out.symm, (hb.trans (hq1.mono hb.size)).trans (hq2.mono (hb.trans (hq1.mono hb.size)).size)⟩
  have HE := Lib.hid hS
  have HB := Lib.hid (show triggersB s l = (decide (l.length ≤ 6) && l.all (trigB s)) by unfold triggersB; rw [hS]; rfl)
  clear hS
  go_enter Tryz.func54, Tryz.ntmps54
  go_wp2_with fail
  clear hs
  go_loopw [5] (fun iv wr => ∃ k : Nat, k ≤ l.length ∧ iv = .int .i64 k ∧ Hid ((l.take k).all (trigB s) = true) ∧ Below w.heap.size w wr) (fun iv _ => l.length - (intOf iv).toNat)
  case atStart => exact ⟨0, by omega, rfl, Lib.hid (by simp), Below.refl _ _⟩
  case round =>
    obtain ⟨k, hk, rfl, hall, hb⟩ := hrel
    by_cases hlt : k < l.length
    · have i0 : (0 : Int) ≤ k := by omega
      have i1 : (k : Int) < l.length := by omega
      go_wp2_with fail
      refine (specSchemaOk AS nS cS s ok _ (HS.out.below TbR.stays hb) hcp HSZ.out).mono ?_
      rintro e w1 ⟨rfl, hq1⟩
      rw [HE.out]
      have hb1 := hb.trans (hq1.mono hb.size)
      obtain ⟨bt, ot, A2, n2, c2, A4, n4, c4, -, rfl, y0, y1, y2, y3, y4, g2, g4, -, -⟩ := TgR.at_ (HL.out.below TgR.stays hb1) hlt
      have HX := Lib.hid (specOne AS nS cS s A2 n2 c2 A4 n4 c4 l[k] _ _ w1 (HS.out.below TbR.stays hb1) HSZ.out HE.out (HLZ.out k hlt) g2 g4)
      have hst := all_take (trigB s) l k hlt
      rw [hall.out, Bool.true_and] at hst
      clear g2 g4
      cases he : trigB s l[k]
      · have HF := Lib.hid (show triggersB s l = false by rw [HB.out, all_no (trigB s) l k hlt he]; simp)
        have HEE := Lib.hid he
        clear hst he
        go_wp2_with fail
        refine HX.out.mono ?_
        rintro e w3 ⟨rfl, hq3⟩
        rw [HEE.out]
        go_wp2_with fail
        go_ret
        exact ⟨retB HF.out.symm, hb1.trans (hq3.mono hb1.size)⟩
      · have HA := Lib.hid (show (l.take (k + 1)).all (trigB s) = true by rw [hst]; exact he)
        have HEE := Lib.hid he
        clear hst he
        go_wp2_with fail
        refine HX.out.mono ?_
        rintro e w3 ⟨rfl, hq3⟩
        rw [HEE.out]
        go_wp2_with fail
        go_roundw
        case rel => exact ⟨k + 1, by omega, by go_num, HA, hb1.trans (hq3.mono hb1.size)⟩
        case measure => simp [intOf]; omega
    · obtain rfl : k = l.length := by omega
      have h1 := hall.out
      rw [List.take_of_length_le (Nat.le_refl _)] at h1
      have HF := Lib.hid (show triggersB s l = decide (l.length ≤ 6) by rw [HB.out, h1, Bool.and_true])
      clear hall h1
      go_wp2_with fail
      refine (specSchemaOk AS nS cS s ok _ (HS.out.below TbR.stays hb) hcp HSZ.out).mono ?_
      rintro e w1 ⟨rfl, hq1⟩
      rw [HE.out]
      have hb1 := hb.trans (hq1.mono hb.size)
      go_wp2_with fail
      refine (specSchemaOk AS nS cS s ok _ (HS.out.below TbR.stays hb1) hcp HSZ.out).mono ?_
      rintro e w2 ⟨rfl, hq2⟩
      rw [HE.out]
      by_cases h6 : l.length ≤ 6
      · have z6 : decide ((l.length : Int) ≤ 6) = true := decide_eq_true (by omega)
        have HF2 := Lib.hid (show triggersB s l = true by rw [HF.out, decide_eq_true h6])
        go_wp2_with fail
        go_ret
        exact ⟨retB HF2.out.symm, hb1.trans (hq2.mono hb1.size)⟩
      · have z6 : decide ((l.length : Int) ≤ 6) = false := decide_eq_false (by omega)
        have HF2 := Lib.hid (show triggersB s l = false by rw [HF.out, decide_eq_false h6])
        go_wp2_with fail
        go_ret
        exact ⟨retB HF2.out.symm, hb1.trans (hq2.mono hb1.size)⟩
end Go.Proofs.YtlpldhmanihnnaaGreat
