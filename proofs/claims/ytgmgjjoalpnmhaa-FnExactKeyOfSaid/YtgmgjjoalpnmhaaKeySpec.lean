/-
  The key of a row: in the model.
-/
import Derived.Test.YtgmgjjoalpnmhaaKeyOf
namespace Go.Proofs.Ytgmgjjoalpnmhaa
open Go.RowKit Go.Maps
set_option linter.unusedVariables false
set_option linter.unusedSimpArgs false

theorem specInK {n lo hi : Int} {b : Bool} (h : (decide (lo ≤ n) && decide (n ≤ hi)) = b) (w : World) :
    Calls Try.prog 15 #[.int .i64 n, .int .i64 lo, .int .i64 hi] w fun e w' => e = .returned (.bool b) ∧ w = w' := by
  subst h
  by_cases h0 : lo ≤ n
  · have h0' : decide (lo ≤ n) = true := decide_eq_true h0
    go_enter Try.func15, Try.ntmps15
    go_wp2
    go_ret
    exact ⟨by simp [h0'], rfl⟩
  · have h0' : decide (lo ≤ n) = false := decide_eq_false h0
    go_enter Try.func15, Try.ntmps15
    go_wp2
    go_ret
    exact ⟨by simp [h0'], rfl⟩

theorem grown_row {w w' : World} {row : Option Nat} (hg : w.grownBy w' row) {g : Nat} {T : TypeId} {cs : Array Value} (h : Row w g T cs) (hne : ∀ k, row = some k → k ≠ g) : Row w' g T cs :=
  (hg.block g (lt_of_block h) (fun e => hne g e.symm rfl)).trans h

set_option maxRecDepth 100000 in
set_option maxHeartbeats 2000000 in
theorem specL4Key (AC AV : Option Addr) (nC cC nV cV : Nat) (cols : List Int) (vals : List Vl) (ok ok' : Nat → Prop) (w : World) (hc : Sl IntR 1 ok w AC nC cols) (hv : Sl VlR 3 ok' w AV nV vals) (hcn : nC ≤ 1048576) (hvn : nV ≤ 1048576) (hall : cols.all (inV vals) = true) :
    Calls Try.prog 17 #[.slice AC nC cC, .slice AV nV cV] w (MadeF VlR 3 (keyL cols vals) (knownL (keyL cols vals)) w) := by
  obtain rfl : cols.length = nC := hc.1
  obtain rfl : vals.length = nV := hv.1
  obtain ⟨i0, hi, hz0, hz1, hz2⟩ := info_parts infoValK
  have H1 := Lib.hid hi
  have H2 := Lib.hid hz0
  have H3 := Lib.hid hz1
  have H4 := Lib.hid hz2
  have HALL := Lib.hid hall
  have HL := Lib.hid (show (keyL cols vals).length = cols.length by simp [keyL])
  clear hi hz0 hz1 hz2 hall
  have hb0 := (Below.refl w.heap.size w).alloc (Nat.le_refl _) (.cells #[] 40)
  have ho0 : Hid (OwnV _ w.heap.size _ []) := Lib.hid (OwnG.lit (T := 40) (sz := 3) (f := Vl.cells) w (Nat.le_refl w.heap.size))
  go_enter Try.func17, Try.ntmps17
  go_wp2_with fail
  generalize w.alloc (.cells #[] 40) = z0 at *
  go_loopw [6, 7, 8] (fun v kn i wr => ∃ (k : Nat) (b : Bool), k ≤ cols.length ∧ i = .int .i64 k ∧ kn = .bool b ∧ Hid (b = knownL ((keyL cols vals).take k)) ∧ Hid (OwnV wr w.heap.size v ((keyL cols vals).take k)) ∧ Below w.heap.size w wr) (fun _ _ i _ => cols.length - (intOf i).toNat)
  case atStart => exact ⟨0, true, by omega, rfl, rfl, Lib.hid rfl, ho0, hb0⟩
  case round =>
    clear hb0 ho0
    obtain ⟨k, kb, hk, rfl, rfl, hkb, hown, hb⟩ := hrel
    by_cases hlt : k < cols.length
    · obtain ⟨b, off, -, rfl, q0⟩ := IntR.at_ (hc.below IntR.stays hb) hlt
      have i0' : (0 : Int) ≤ k := by omega
      have i1 : (k : Int) < cols.length := by omega
      obtain ⟨m, hm, hmv⟩ := inV_nat (List.all_eq_true.1 HALL.out _ (List.getElem_mem hlt))
      have HT := Lib.hid (keyL_take hlt hm hmv)
      rw [hm] at q0
      obtain ⟨bv, offv, -, rfl, y0, y1, y2⟩ := VlR.at_ (hv.below VlR.stays hb) hmv
      have j0 : (0 : Int) ≤ m := by omega
      have j1 : (m : Int) < vals.length := by omega
      have HLK := Lib.hid (show ((keyL cols vals).take k).length = k by rw [List.length_take, HL.out]; omega)
      clear hm
      generalize hvm : vals[m] = v at *
      generalize hxs : (keyL cols vals).take k = xs at *
      have HVM := Lib.hid hvm
      have HXS := Lib.hid hxs
      clear hvm hxs
      have hbx := hb.alloc hb.size (.cells #[.int .i64 v.k, .int .i64 v.n, .string v.s] 40)
      have hlb := (Below.refl wr.heap.size wr).alloc (Nat.le_refl _) (.cells #[.int .i64 v.k, .int .i64 v.n, .string v.s] 40)
      have hoz := Lib.hid (OwnG.below hown.out hlb)
      have rb := Row.new wr 40 #[.int .i64 v.k, .int .i64 v.n, .string v.s]
      have hne := Lib.hid (fun j hj => Nat.ne_of_lt (OwnG.block_lt hown.out j hj).2)
      clear hlb hown
      have hRB := Lib.hid rb
      clear rb
      cases kb
      · have HB2 := Lib.hid (show false = knownL ((keyL cols vals).take (k + 1)) by rw [known_take HT.out, ← hkb.out]; rfl)
        clear hkb
        go_wp2_with (at_builtin; refine wpList_append_own _ rfl _ _ 25 rfl w.heap.size 40 i0 (.agg #[.int .i64 0, .int .i64 0, .string ⟨#[]⟩]) 3 32 Try.underlying25 H1.out H2.out H3.out H4.out rfl (by decide) _ _ _ rfl (World.ownsRow.alloc hoz.out _) ⟨_, 0, none⟩ 1 1 (Vl.cells v) rfl rfl ?c1 ?c2 ?c3 ?c4 ?c5 ?_)
        case c1 => exact cells_newAt _ (Vl.cells v) _ (by simp)
        case c2 => intro u hu; simp [Vl.cells] at hu; rcases hu with rfl | rfl | rfl <;> rfl
        case c3 => have := HLK.out; unfold maxLen; omega
        case c4 => have := HLK.out; omega
        case c5 => have := hbx.size; simp at this ⊢; omega
        intro v' w3 hown3 hgrow _
        have R := Lib.hid (OwnG.app hoz.out hbx.size hown3 hgrow)
        have rb3 := grown_row hgrow (hRB.out.alloc _) hne.out
        clear hown3 hgrow hoz hRB
        obtain ⟨⟨x0, x1, x2⟩, -⟩ := rb3.three
        go_wp2_with fail
        go_roundw
        case rel => exact ⟨k + 1, false, by omega, by go_num, rfl, HB2, Lib.hid (by rw [HT.out]; exact R.out.1), hbx.trans R.out.2⟩
        case measure => simp [intOf]; omega
      · have HB2 := Lib.hid (show (v.k != 0) = knownL ((keyL cols vals).take (k + 1)) by rw [known_take HT.out, ← hkb.out]; rfl)
        clear hkb
        go_wp2_with (at_builtin; refine wpList_append_own _ rfl _ _ 25 rfl w.heap.size 40 i0 (.agg #[.int .i64 0, .int .i64 0, .string ⟨#[]⟩]) 3 32 Try.underlying25 H1.out H2.out H3.out H4.out rfl (by decide) _ _ _ rfl (World.ownsRow.alloc hoz.out _) ⟨_, 0, none⟩ 1 1 (Vl.cells v) rfl rfl ?d1 ?d2 ?d3 ?d4 ?d5 ?_)
        case d1 => exact cells_newAt _ (Vl.cells v) _ (by simp)
        case d2 => intro u hu; simp [Vl.cells] at hu; rcases hu with rfl | rfl | rfl <;> rfl
        case d3 => have := HLK.out; unfold maxLen; omega
        case d4 => have := HLK.out; omega
        case d5 => have := hbx.size; simp at this ⊢; omega
        intro v' w3 hown3 hgrow _
        have R := Lib.hid (OwnG.app hoz.out hbx.size hown3 hgrow)
        have rb3 := grown_row hgrow (hRB.out.alloc _) hne.out
        clear hown3 hgrow hoz hRB
        obtain ⟨⟨x0, x1, x2⟩, -⟩ := rb3.three
        go_wp2_with fail
        go_roundw
        case rel => exact ⟨k + 1, (v.k != 0), by omega, by go_num, rfl, HB2, Lib.hid (by rw [HT.out]; exact R.out.1), hbx.trans R.out.2⟩
        case measure => simp [intOf]; omega
    · obtain rfl : k = cols.length := by omega
      have e1 := hown.out
      have e2 := hkb.out
      rw [List.take_of_length_le (Nat.le_of_eq HL.out)] at e1 e2
      obtain ⟨AO, cO, rfl, hcO, hcm, hsl⟩ := OwnG.sl (f := Vl.cells) (sz := 3) (fun _ => rfl) e1
      have HKB := Lib.hid e2
      have HSL := Lib.hid hsl
      clear hown hkb e1 e2 hsl
      go_wp2_with fail
      go_ret2
      exact ⟨AO, cO, by rw [← HKB.out]; rfl, hcO, HSL.out, hb⟩

set_option maxRecDepth 100000 in
set_option maxHeartbeats 2000000 in
theorem specKeyOf (AC AV : Option Addr) (nC cC nV cV : Nat) (cols : List Int) (vals : List Vl) (ok ok' : Nat → Prop) (w : World) (hc : Sl IntR 1 ok w AC nC cols) (hv : Sl VlR 3 ok' w AV nV vals) (hcn : nC ≤ 1048576) (hvn : nV ≤ 1048576) :
    Calls Try.prog 5 #[.slice AC nC cC, .slice AV nV cV] w (MadeF VlR 3 (keyOf cols vals) (keyFl cols vals) w) := by
  obtain rfl : cols.length = nC := hc.1
  obtain rfl : vals.length = nV := hv.1
  go_enter Try.func5, Try.ntmps5
  go_wp2_with fail
  go_loopw [6] (fun i wr => ∃ k : Nat, k ≤ cols.length ∧ i = .int .i64 k ∧ Hid ((cols.take k).all (inV vals) = true) ∧ Below w.heap.size w wr) (fun i _ => cols.length - (intOf i).toNat)
  case atStart => exact ⟨0, by omega, rfl, Lib.hid rfl, Below.refl _ _⟩
  case round =>
    obtain ⟨k, hk, rfl, hall, hb⟩ := hrel
    by_cases hlt : k < cols.length
    · obtain ⟨b, off, -, rfl, q0⟩ := IntR.at_ (hc.below IntR.stays hb) hlt
      have i0' : (0 : Int) ≤ k := by omega
      have i1 : (k : Int) < cols.length := by omega
      have i2 : IntKind.i64.wrap ((vals.length : Int) - 1) = (vals.length : Int) - 1 := IntWalk.i64_in _ (by omega)
      cases hin : inV vals cols[k]
      · have HK := Lib.hid (show keyOf cols vals = [] ∧ keyFl cols vals = false by unfold keyOf keyFl; rw [not_all_of hlt hin]; exact ⟨rfl, rfl⟩)
        have HI := Lib.hid (show (decide (0 ≤ cols[k]) && decide (cols[k] ≤ (vals.length : Int) - 1)) = false by rw [← hin]; unfold inV; congr 1; rw [decide_eq_decide]; omega)
        clear hin
        go_wp2_with fail
        refine (specInK HI.out _).mono ?_
        rintro e w2 ⟨rfl, rfl⟩
        go_wp2_with fail
        go_ret2
        exact ⟨none, 0, by rw [HK.out.1, HK.out.2]; rfl, by rw [HK.out.1]; exact Nat.le_refl _, by rw [HK.out.1]; exact ⟨rfl, fun h => by simp at h⟩, hb⟩
      · have HA := Lib.hid (show (cols.take (k + 1)).all (inV vals) = true by rw [List.take_succ_eq_append_getElem hlt, List.all_append, hall.out]; simp [hin])
        have HI := Lib.hid (show (decide (0 ≤ cols[k]) && decide (cols[k] ≤ (vals.length : Int) - 1)) = true by rw [← hin]; unfold inV; congr 1; rw [decide_eq_decide]; omega)
        clear hin hall
        go_wp2_with fail
        refine (specInK HI.out _).mono ?_
        rintro e w2 ⟨rfl, rfl⟩
        go_wp2_with fail
        go_roundw
        case rel => exact ⟨k + 1, by omega, by go_num, HA, hb⟩
        case measure => simp [intOf]; omega
    · obtain rfl : k = cols.length := by omega
      have ha := hall.out
      rw [List.take_of_length_le (Nat.le_refl _)] at ha
      have HA := Lib.hid ha
      clear hall ha
      cases hB : rowB vals
      · have HB := Lib.hid hB
        have HK := Lib.hid (show keyOf cols vals = [] ∧ keyFl cols vals = false by unfold keyOf keyFl keyOk; rw [hB]; exact ⟨rfl, rfl⟩)
        clear hB
        go_wp2_with fail
        refine (specVals AV vals.length cV vals _ (Sl.cellz (fun _ => rfl) (hv.below VlR.stays hb)) (by unfold maxLen; omega)).mono ?_
        rintro e w2 ⟨rfl, hb2⟩
        rw [HB.out]
        go_wp2_with fail
        go_ret2
        exact ⟨none, 0, by rw [HK.out.1, HK.out.2]; rfl, by rw [HK.out.1]; exact Nat.le_refl _, by rw [HK.out.1]; exact ⟨rfl, fun h => by simp at h⟩, hb.trans (hb2.mono hb.size)⟩
      · have HB := Lib.hid hB
        have HK := Lib.hid (show keyOf cols vals = keyL cols vals ∧ keyFl cols vals = knownL (keyL cols vals) by unfold keyOf keyFl keyOk; rw [hB, HA.out]; exact ⟨rfl, rfl⟩)
        clear hB
        go_wp2_with fail
        refine (specVals AV vals.length cV vals _ (Sl.cellz (fun _ => rfl) (hv.below VlR.stays hb)) (by unfold maxLen; omega)).mono ?_
        rintro e w2 ⟨rfl, hb2⟩
        rw [HB.out]
        have hbz := hb.trans (hb2.mono hb.size)
        clear hb hb2
        go_wp2_with fail
        refine (specL4Key AC AV cols.length cC vals.length cV cols vals ok ok' _ (hc.below IntR.stays hbz) (hv.below VlR.stays hbz) hcn hvn HA.out).mono ?_
        rintro e w3 ⟨AO, cO, rfl, hcO, hsl, hb3⟩
        have HSL := Lib.hid hsl
        clear hsl
        go_wp2_with fail
        go_ret2
        exact ⟨AO, cO, by rw [HK.out.1, HK.out.2]; (try rfl), by rw [HK.out.1]; exact hcO, by rw [HK.out.1]; exact HSL.out.stays VlR.stays (fun b hb => hb.mono hbz.size) (fun _ _ _ h => h), hbz.trans (hb3.mono hbz.size)⟩
end Go.Proofs.Ytgmgjjoalpnmhaa
