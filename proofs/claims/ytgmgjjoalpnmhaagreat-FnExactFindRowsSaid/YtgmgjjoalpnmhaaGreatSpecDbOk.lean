/-
  Databases: which are right, in the model (the whole).
-/
import Derived.Test.YtgmgjjoalpnmhaaGreatSpecDb
import Derived.Test.YtgmgjjoalpnmhaaGreatDbImpl2
namespace Go.Proofs.YtgmgjjoalpnmhaaGreat
open Go.RowKit Go.Maps
set_option linter.unusedVariables false
set_option linter.unusedSimpArgs false

/-- No row has more values than the size of the whole. -/
theorem rows_le {db : List Dt} {m : Nat} (h : szL Dt.sz db ≤ m) : ∀ d ∈ db, ∀ r ∈ d.rows, r.vals.length ≤ m := fun d hd r hr => by
  have h1 : d.sz ≤ m := by
    obtain ⟨i, hi, rfl⟩ := List.mem_iff_getElem.1 hd
    have := sum_mem_le Dt.sz db i hi
    unfold szL at h
    omega
  have h2 : r.sz ≤ m := by
    obtain ⟨i, hi, rfl⟩ := List.mem_iff_getElem.1 hr
    have := sum_mem_le Rw.sz d.rows i hi
    unfold Dt.sz szL at h1
    omega
  unfold Rw.sz szL at h2
  omega

set_option maxRecDepth 100000 in
set_option maxHeartbeats 1000000 in
theorem specDbOk (AS AD : Option Addr) (nS cS nD cD : Nat) (s : List Tb) (db : List Dt) (ok ok' : Nat → Prop) (w : World) (hs : Sl TbR 6 ok w AS nS s) (hd : Sl DtR 1 ok' w AD nD db) (hcp : nS ≤ cS) (hsz : szL Tb.sz s ≤ 1048576) (hdz : szL Dt.sz db ≤ 1048576) :
    Calls Tryz.prog 20 #[.slice AS nS cS, .slice AD nD cD] w fun e w' => e = .returned (.bool (dbB s db)) ∧ Below w.heap.size w w' := by
  have hs1 := hs.stays TbR.stays (ok' := fun _ => True) (fun _ _ => trivial) (fun _ _ _ h => h)
  have hd1 := hd.stays DtR.stays (ok' := fun _ => True) (fun _ _ => trivial) (fun _ _ _ h => h)
  have HVS := Lib.hid (rows_le hdz)
  have HSZ := Lib.hid hsz
  have HDZ := Lib.hid hdz
  have HCP := Lib.hid hcp
  clear hsz hdz hcp hs hd
  cases hB : schemaB s
  · have HB := Lib.hid hB
    have HF := Lib.hid (show dbB s db = false by unfold dbB; rw [hB]; rfl)
    clear hB
    go_enter Tryz.func20, Tryz.ntmps20
    go_wp2_with fail
    refine (specSchemaOk AS nS cS s _ _ hs1 HCP.out HSZ.out).mono ?_
    rintro e w1 ⟨rfl, hb1⟩
    rw [HB.out]
    go_wp2_with fail
    go_ret
    exact ⟨retB HF.out.symm, hb1⟩
  · have HB := Lib.hid hB
    clear hB
    go_enter Tryz.func20, Tryz.ntmps20
    go_wp2_with fail
    refine (specSchemaOk AS nS cS s _ _ hs1 HCP.out HSZ.out).mono ?_
    rintro e w1 ⟨rfl, hb1⟩
    rw [HB.out]
    go_wp2_with fail
    refine (specL4Db AS AD nS cS nD cD s db _ _ (hs1.below TbR.stays hb1) (hd1.below DtR.stays hb1) HSZ.out HDZ.out HVS.out HB.out).mono ?_
    rintro e w2 ⟨rfl, hb2⟩
    go_wp2_with fail
    go_ret
    exact ⟨rfl, hb1.trans (hb2.mono hb1.size)⟩

theorem implDbOk' (AS AD : Option Addr) (nS cS nD cD : Nat) (s : List Tb) (db : List Dt) (ok ok' : Nat → Prop) (w : World) (hs : Sl TbR 6 ok w AS nS s) (hd : Sl DtR 1 ok' w AD nD db) (hsz : szL Tb.sz s ≤ 1048576) (hdz : szL Dt.sz db ≤ 1048576) :
    Calls Tryz.prog 22 #[.slice AS nS cS, .slice AD nD cD] w fun e w' => e = .returned (.bool (dbB s db)) ∧ Below w.heap.size w w' :=
  implDbOk AS AD nS cS nD cD s db (fun _ => True) w (hs.stays TbR.stays (fun _ _ => trivial) (fun _ _ _ h => h)) (hd.stays DtR.stays (fun _ _ => trivial) (fun _ _ _ h => h)) hsz hdz (rows_le hdz)
end Go.Proofs.YtgmgjjoalpnmhaaGreat
