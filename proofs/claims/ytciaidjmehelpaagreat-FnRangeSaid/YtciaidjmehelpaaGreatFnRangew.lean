/-
  What an index answers for a range is what lies between both ends, in the index's order (law FnRange, for every code).
-/
import Derived.Test.YtciaidjmehelpaaGreatMa
import Derived.Test.YtciaidjmehelpaaGreatMb
import Derived.Test.YtciaidjmehelpaaGreatMc
import Derived.Test.YtciaidjmehelpaaGreatMd
import Derived.Test.YtciaidjmehelpaaGreatMe
import Derived.Test.YtciaidjmehelpaaGreatRa
import Derived.Test.YtciaidjmehelpaaGreatRb
import Derived.Test.YtciaidjmehelpaaGreatRc
import Derived.Test.YtciaidjmehelpaaGreatRd
namespace Go.Proofs.YtciaidjmehelpaaGreat.fnRange
open Go.ChangeShapes Go.WideShapes Go.ChangeAt Go.RowKit Go.Joins
open Go.ChangeMaps (open_string shut_string)
set_option linter.unusedSimpArgs false
set_option linter.unusedVariables false

set_option maxRecDepth 100000 in
set_option maxHeartbeats 4000000 in
theorem walk (a0 : Option Addr) (len0 cap0 : Nat) (z0 : List Int) (w : World) (w0 : IsRow .u8 w a0 len0 cap0 z0) :
    Calls Tryz.prog 5 #[.slice a0 len0 cap0] w fun e w' => e = .returned (.bool true) ∧ Below w.heap.size w w' := by
  by_cases hbig : (1048576 : Int) < len0
  · have hbg : decide ((1048576 : Int) < len0) = true := by simpa using hbig
    go_enter Tryz.func5, Tryz.ntmps5
    go_wp2_with fail
    refine (lawsBig a0 len0 cap0 w).mono ?_
    rintro e w' ⟨rfl, rfl⟩
    go_wp2
    go_ret
    exact ⟨rfl, Below.refl _ _⟩
  have hbg : decide ((1048576 : Int) < len0) = false := by simpa using hbig
  go_enter Tryz.func5, Tryz.ntmps5
  go_wp2_with fail
  refine (lawsBig a0 len0 cap0 w).mono ?_
  rintro e w' ⟨rfl, rfl⟩
  go_wp2_with fail
  refine (drawRange a0 len0 cap0 z0 _ w0).mono ?_
  rintro e w1 ⟨v, rfl, ⟨x, k1, n1, s1, k2, n2, s2, rfl, ⟨es, hown, hle, hkl⟩, ok1, ok2⟩, hb1⟩
  obtain ⟨A, c, rfl, hc, -, hsl⟩ := hown.sl
  have HL := Lib.hid hsl
  have HK := Lib.hid hkl
  clear hown hsl hkl ok1 ok2
  have Q0 := Lib.hid (show Blk ((w1.alloc (.cells #[.int .i64 k1, .int .i64 n1, .string s1] 34)).alloc (.cells #[.int .i64 k2, .int .i64 n2, .string s2] 34)) w1.heap.size k1 n1 s1 from (Blk.new w1 k1 n1 s1).alloc (.cells #[.int .i64 k2, .int .i64 n2, .string s2] 34))
  have Q1 := Lib.hid (show Blk ((w1.alloc (.cells #[.int .i64 k1, .int .i64 n1, .string s1] 34)).alloc (.cells #[.int .i64 k2, .int .i64 n2, .string s2] 34)) (w1.heap.size + 1) k2 n2 s2 by have := Blk.new (w1.alloc (.cells #[.int .i64 k1, .int .i64 n1, .string s1] 34)) k2 n2 s2; rwa [show (w1.alloc (.cells #[.int .i64 k1, .int .i64 n1, .string s1] 34)).heap.size = w1.heap.size + 1 by simp] at this)
  have hz2 := ((Below.refl w1.heap.size w1).alloc (Nat.le_refl _) (.cells #[.int .i64 k1, .int .i64 n1, .string s1] 34)).alloc (by simp) (.cells #[.int .i64 k2, .int .i64 n2, .string s2] 34)
  have HL := Lib.hid (HL.out.below EnR.stays hz2)
  have hz := hb1.trans (hz2.mono hb1.size)
  clear hz2
  have hk1 : ∀ e ∈ es, e.key.length ≤ 1048576 := fun e he => by have := HK.out e he; omega
  have HK1 := Lib.hid hk1
  clear hk1
  go_wp2_with fail
  generalize (w1.alloc (.cells #[.int .i64 k1, .int .i64 n1, .string s1] 34)).alloc (.cells #[.int .i64 k2, .int .i64 n2, .string s2] 34) = w2 at *
  refine (implRange A es.length c es ⟨k1, n1, s1⟩ ⟨k2, n2, s2⟩ _ _ HL.out (by omega) HK1.out).mono ?_
  rintro e w3 ⟨A3, c3, rfl, -, h3, hq3⟩
  obtain ⟨L, hLL⟩ : ∃ L, rangeB es ⟨k1, n1, s1⟩ ⟨k2, n2, s2⟩ = L := ⟨_, rfl⟩
  have HLL := Lib.hid hLL
  rw [hLL] at h3 ⊢
  have hLn : L.length ≤ 60 := by rw [← hLL]; exact Nat.le_trans (rangeB_len _ _ _) hle
  clear hLL
  have HL3 := Lib.hid h3
  have HL := Lib.hid (HL.out.below EnR.stays hq3)
  have Q0 := Lib.hid (Blk.belowR Q0.out hq3)
  have Q1 := Lib.hid (Blk.belowR Q1.out hq3)
  have hz := hz.trans (hq3.mono hz.size)
  clear h3 hq3
  obtain ⟨c0, c1, c2⟩ := Blk.cells Q0.out
  obtain ⟨d0, d1, d2⟩ := Blk.cells Q1.out
  go_wp2_with fail
  refine (specRange A es.length c es ⟨k1, n1, s1⟩ ⟨k2, n2, s2⟩ _ _ HL.out (by omega) HK1.out).mono ?_
  rintro e w4 ⟨A4, c4, rfl, -, h4, hq4⟩
  rw [HLL.out] at h4 ⊢
  have HL4 := Lib.hid h4
  have HL3 := Lib.hid (HL3.out.below IntR.stays hq4)
  have HL := Lib.hid (HL.out.below EnR.stays hq4)
  have Q0 := Lib.hid (Blk.belowR Q0.out hq4)
  have Q1 := Lib.hid (Blk.belowR Q1.out hq4)
  have hz := hz.trans (hq4.mono hz.size)
  clear h4 hq4 c0 c1 c2 d0 d1 d2
  go_wp2_with fail
  refine (lawsSameInts A3 A4 L.length c3 c4 L _ _ _ HL3.out HL4.out (by omega)).mono ?_
  rintro e w5 ⟨rfl, hq5⟩
  have HL3 := Lib.hid (HL3.out.below IntR.stays hq5)
  have HL := Lib.hid (HL.out.below EnR.stays hq5)
  have Q0 := Lib.hid (Blk.belowR Q0.out hq5)
  have Q1 := Lib.hid (Blk.belowR Q1.out hq5)
  have hz := hz.trans (hq5.mono hz.size)
  clear hq5 HL4
  obtain ⟨lo, hlo⟩ : ∃ lo : Vl, lo = ⟨k1, n1, s1⟩ := ⟨_, rfl⟩
  obtain ⟨hi, hhi⟩ : ∃ hi : Vl, hi = ⟨k2, n2, s2⟩ := ⟨_, rfl⟩
  rw [← hlo, ← hhi] at HLL
  have HLO := Lib.hid hlo
  have HHI := Lib.hid hhi
  clear hlo hhi
  obtain ⟨gl, hgl⟩ : ∃ g, w1.heap.size = g := ⟨_, rfl⟩
  rw [hgl] at Q0 Q1
  go_wp2_with fail
  clear hgl
  go_loopw [7, 8] (fun k i wr => ∃ m : Nat, m ≤ es.length ∧ i = .int .i64 m ∧ k = .int .i64 (cntR es lo hi m : Nat) ∧ Below w5.heap.size w5 wr) (fun _ i _ => es.length - (intOf i).toNat)
  case atStart => exact ⟨0, by omega, rfl, by rw [cntR_zero]; rfl, Below.refl _ _⟩
  case round =>
    obtain ⟨m, hm, rfl, rfl, hb⟩ := hrel
    by_cases hlt : m < es.length
    · have g0 : (0 : Int) ≤ m := by omega
      have g1 : (m : Int) < es.length := by omega
      obtain ⟨bl, off, A0, na, ca, -, rfl, p0, p1, hkey, -⟩ := EnR.at_ (HL.out.below EnR.stays hb) hlt
      have hkl := HK.out _ (List.getElem_mem hlt)
      have hk0 : 0 < es[m].key.length := by omega
      obtain ⟨bk, ok, -, rfl, y0, y1, y2⟩ := VlR.at_ hkey hk0
      obtain rfl : es[m].key.length = na := hkey.1
      have hna : (0 : Int) < es[m].key.length := by omega
      obtain ⟨z0, z1, z2⟩ := (Blk.belowR Q0.out hb).cells
      obtain ⟨x0, x1, x2⟩ := (Blk.belowR Q1.out hb).cells
      simp only [Nat.zero_mul, Nat.add_zero] at y0 y1 y2
      obtain ⟨hd, hhd⟩ : ∃ hd, es[m].key[0] = hd := ⟨_, rfl⟩
      rw [hhd] at y0 y1 y2
      have HV := Lib.hid (show headV es[m] = hd by rw [← hhd, headV_at hk0])
      have HP1 := Lib.hid p1
      have KS := Lib.hid (And.intro z0 (And.intro z1 (And.intro z2 (And.intro x0 (And.intro x1 (And.intro x2 (And.intro p0 (And.intro y0 (And.intro y1 y2)))))))))
      clear hkey hhd p0 p1 y0 y1 y2 z0 z1 z2 x0 x1 x2
      obtain ⟨wo, hwo⟩ : ∃ wo, wo = wr := ⟨_, rfl⟩
      subst hwo
      go_upto_region 11 with fail
      go_cut [9] from 35 to 56 (fun s9 wx => s9 = .bool (inR lo hi es[m]) ∧ Below w5.heap.size w5 wx)
      case first =>
        have HI := Lib.hid (show inR lo hi es[m] = (decide (ordOk k1 n1 s1 hd.k hd.n hd.s ≤ 0) && decide (ordOk hd.k hd.n hd.s k2 n2 s2 ≤ 0)) by rw [inR_ord, HV.out]; unfold ordX; rw [HLO.out, HHI.out])
        have hb0 := hb.drew
        cases hc1 : decide (ordOk k1 n1 s1 hd.k hd.n hd.s ≤ 0)
        · refine wp_region_noPanic ?_
          refine wp_region_held_drew (S := (fun w' => w'.cell? ⟨gl, 0, none⟩ = some (.int .i64 k1) ∧ w'.cell? ⟨gl, 1, none⟩ = some (.int .i64 n1) ∧ w'.cell? ⟨gl, 2, none⟩ = some (.string s1) ∧ w'.cell? ⟨gl + 1, 0, none⟩ = some (.int .i64 k2) ∧ w'.cell? ⟨gl + 1, 1, none⟩ = some (.int .i64 n2) ∧ w'.cell? ⟨gl + 1, 2, none⟩ = some (.string s2) ∧ w'.cell? ⟨bl, off + m * 2, none⟩ = some (.slice (some ⟨bk, ok, none⟩) es[m].key.length ca) ∧ w'.cell? ⟨bk, ok, none⟩ = some (.int .i64 hd.k) ∧ w'.cell? ⟨bk, ok + 1, none⟩ = some (.int .i64 hd.n) ∧ w'.cell? ⟨bk, ok + 2, none⟩ = some (.string hd.s))) (by kernel_rfl) KS.out (fun hHeld => ?_)
          refine tk 0 ?_
          refine tk 1 ?_
          refine tk 2 ?_
          refine tk 3 ?_
          refine tk 4 ?_
          refine tk 5 ?_
          refine tk 6 ?_
          refine tk 7 ?_
          refine wpAnyH_ready (rs := [8]) (by kernel_rfl) (by simp) ?_
          refine AllReadyH.cons rfl (fun K hK => ?_) AllReadyH.nil
          go_simp
          go_at_call 17
          refine (implOrder k1 n1 s1 hd.k hd.n hd.s _).mono ?_
          rintro e w7 ⟨rfl, hq7⟩
          have KS7 := Lib.hid (keepR10 (w := wo.drew) (w' := w7) KS.out hq7)
          have hb7 := hb0.trans (hq7.mono hb0.size)
          clear hq7
          refine hK.out _ _ KS7.out (fun hHeld => ?_)
          clear hK K
          (try simp only [Act.put, List.getElem_toArray, List.getElem_cons_zero, List.getElem_cons_succ, List.setIfInBounds_toArray, List.set_cons_zero, List.set_cons_succ])
          refine tk 9 ?_
          refine tk 10 ?_
          refine tu 11 ?_
          refine tu 12 ?_
          refine tu 13 ?_
          refine tu 14 ?_
          refine tu 15 ?_
          refine tu 16 ?_
          refine tu 17 ?_
          refine tu 18 ?_
          refine tu 19 ?_
          refine tu 20 ?_
          refine tk 21 ?_
          refine tk 22 ?_
          refine wpAnyH_done (by kernel_rfl) ?_ _
          refine NoPanic.normal ?_
          clear hHeld
          go_wp2_with fail
          go_meet
          case rel => exact ⟨by rw [HI.out, hc1]; rfl, hb7⟩
        · refine wp_region_noPanic ?_
          refine wp_region_held_drew (S := (fun w' => w'.cell? ⟨gl, 0, none⟩ = some (.int .i64 k1) ∧ w'.cell? ⟨gl, 1, none⟩ = some (.int .i64 n1) ∧ w'.cell? ⟨gl, 2, none⟩ = some (.string s1) ∧ w'.cell? ⟨gl + 1, 0, none⟩ = some (.int .i64 k2) ∧ w'.cell? ⟨gl + 1, 1, none⟩ = some (.int .i64 n2) ∧ w'.cell? ⟨gl + 1, 2, none⟩ = some (.string s2) ∧ w'.cell? ⟨bl, off + m * 2, none⟩ = some (.slice (some ⟨bk, ok, none⟩) es[m].key.length ca) ∧ w'.cell? ⟨bk, ok, none⟩ = some (.int .i64 hd.k) ∧ w'.cell? ⟨bk, ok + 1, none⟩ = some (.int .i64 hd.n) ∧ w'.cell? ⟨bk, ok + 2, none⟩ = some (.string hd.s))) (by kernel_rfl) KS.out (fun hHeld => ?_)
          refine tk 0 ?_
          refine tk 1 ?_
          refine tk 2 ?_
          refine tk 3 ?_
          refine tk 4 ?_
          refine tk 5 ?_
          refine tk 6 ?_
          refine tk 7 ?_
          refine wpAnyH_ready (rs := [8]) (by kernel_rfl) (by simp) ?_
          refine AllReadyH.cons rfl (fun K hK => ?_) AllReadyH.nil
          go_simp
          go_at_call 17
          refine (implOrder k1 n1 s1 hd.k hd.n hd.s _).mono ?_
          rintro e w7 ⟨rfl, hq7⟩
          have KS7 := Lib.hid (keepR10 (w := wo.drew) (w' := w7) KS.out hq7)
          have hb7 := hb0.trans (hq7.mono hb0.size)
          clear hq7
          refine hK.out _ _ KS7.out (fun hHeld => ?_)
          clear hK K
          (try simp only [Act.put, List.getElem_toArray, List.getElem_cons_zero, List.getElem_cons_succ, List.setIfInBounds_toArray, List.set_cons_zero, List.set_cons_succ])
          refine tk 9 ?_
          refine tk 10 ?_
          refine tk 11 ?_
          refine tk 12 ?_
          refine tk 13 ?_
          refine tk 14 ?_
          refine tk 15 ?_
          refine tk 16 ?_
          refine tk 17 ?_
          refine tk 18 ?_
          refine wpAnyH_ready (rs := [19]) (by kernel_rfl) (by simp) ?_
          refine AllReadyH.cons rfl (fun K hK => ?_) AllReadyH.nil
          go_simp
          go_at_call 17
          refine (implOrder hd.k hd.n hd.s k2 n2 s2 _).mono ?_
          rintro e w8 ⟨rfl, hq8⟩
          have KS8 := Lib.hid (keepR10 KS7.out hq8)
          have hb8 := hb7.trans (hq8.mono hb7.size)
          clear hq8
          refine hK.out _ _ KS8.out (fun hHeld => ?_)
          clear hK K
          (try simp only [Act.put, List.getElem_toArray, List.getElem_cons_zero, List.getElem_cons_succ, List.setIfInBounds_toArray, List.set_cons_zero, List.set_cons_succ])
          refine tk 20 ?_
          refine tk 21 ?_
          refine tk 22 ?_
          refine wpAnyH_done (by kernel_rfl) ?_ _
          refine NoPanic.normal ?_
          clear hHeld
          go_wp2_with fail
          go_meet
          case rel => exact ⟨by rw [HI.out, hc1]; rfl, hb8⟩
      case rest =>
        obtain ⟨rfl, hb2⟩ := hcut
        clear KS hb
        have q1 := (HL.out.below EnR.stays hb2)
        obtain ⟨wq, hwq⟩ : ∃ wq, wq = wc := ⟨_, rfl⟩
        subst hwq
        obtain ⟨bl2, off2, A2, na2, ca2, -, eL, -, p1, -, -⟩ := EnR.at_ q1 hlt
        simp only [Option.some.injEq, Addr.mk.injEq, and_true] at eL
        obtain ⟨rfl, rfl⟩ := eL
        clear q1
        go_upto_region 12 with fail
        go_cut [9, 75] from 57 to 75 (fun _ s75 wx => s75 = .bool (inR lo hi es[m] && rangeOk es lo hi) ∧ Below w5.heap.size w5 wx)
        case first =>
          cases hin : inR lo hi es[m]
          · refine wp_region_noPanic ?_
            refine wp_region_held_drew (S := (fun _ => True)) (by kernel_rfl) trivial (fun hHeld => ?_)
            refine tk 0 ?_
            refine tk 1 ?_
            refine tu 2 ?_
            refine tu 3 ?_
            refine tu 4 ?_
            refine tu 5 ?_
            refine tk 6 ?_
            refine tk 7 ?_
            refine tu 8 ?_
            refine tu 9 ?_
            refine tu 10 ?_
            refine tu 11 ?_
            refine tu 12 ?_
            refine tu 13 ?_
            refine tu 14 ?_
            refine tu 15 ?_
            refine tu 16 ?_
            refine tu 17 ?_
            refine tk 18 ?_
            refine wpAnyH_done (by kernel_rfl) ?_ _
            refine NoPanic.normal ?_
            clear hHeld
            go_wp2_with fail
            go_meet
            case rel => exact ⟨by rw [hin]; rfl, hb2.drew⟩
          · cases hok : rangeOk es lo hi
            · obtain ⟨hL0, hk0⟩ := rangeB_bad hok m
              rw [HLL.out] at hL0
              have h1 : ¬ ((cntR es lo hi m : Nat) : Int) < L.length := by rw [hL0]; simp
              clear hL0 hk0
              refine wp_region_noPanic ?_
              refine wp_region_held_drew (S := (fun _ => True)) (by kernel_rfl) trivial (fun hHeld => ?_)
              refine tk 0 ?_
              refine tk 1 ?_
              refine tk 2 ?_
              refine tk 3 ?_
              refine tk 4 ?_
              refine tk 5 ?_
              refine tk 6 ?_
              refine tk 7 ?_
              refine tu 8 ?_
              refine tu 9 ?_
              refine tu 10 ?_
              refine tu 11 ?_
              refine tu 12 ?_
              refine tu 13 ?_
              refine tu 14 ?_
              refine tu 15 ?_
              refine tu 16 ?_
              refine tu 17 ?_
              refine tk 18 ?_
              refine wpAnyH_done (by kernel_rfl) ?_ _
              refine NoPanic.normal ?_
              clear hHeld
              go_wp2_with fail
              go_meet
              case rel => exact ⟨by rw [hin, hok]; rfl, hb2.drew⟩
            · obtain ⟨-, hk1⟩ := cntR_yes hlt hin hok
              rw [HLL.out] at hk1
              obtain ⟨hk1, hid⟩ := hk1
              obtain ⟨bi, oi, -, rfl, r0⟩ := IntR.at_ (HL3.out.below IntR.stays hb2) hk1
              rw [hid] at r0
              have h0 : (0 : Int) ≤ (cntR es lo hi m : Nat) := by omega
              have h1 : ((cntR es lo hi m : Nat) : Int) < L.length := by omega
              clear hid
              refine wp_region_noPanic ?_
              refine wp_region_held_drew (S := (fun w' => w'.cell? ⟨bi, oi + cntR es lo hi m, none⟩ = some (.int .i64 es[m].id) ∧ w'.cell? ⟨bl, off + m * 2 + 1, none⟩ = some (.int .i64 es[m].id))) (by kernel_rfl) ⟨r0, p1⟩ (fun hHeld => ?_)
              refine tk 0 ?_
              refine tk 1 ?_
              refine tk 2 ?_
              refine tk 3 ?_
              refine tk 4 ?_
              refine tk 5 ?_
              refine tk 6 ?_
              refine tk 7 ?_
              refine tk 8 ?_
              refine tk 9 ?_
              refine tk 10 ?_
              refine tk 11 ?_
              refine tk 12 ?_
              refine tk 13 ?_
              refine tk 14 ?_
              refine tk 15 ?_
              refine tk 16 ?_
              refine tk 17 ?_
              refine tk 18 ?_
              refine wpAnyH_done (by kernel_rfl) ?_ _
              refine NoPanic.normal ?_
              clear hHeld
              go_wp2_with fail
              go_meet
              case rel => exact ⟨by rw [hin, hok]; rfl, hb2.drew⟩
        case rest =>
          obtain ⟨rfl, hb3⟩ := hcut
          cases hyes : (inR lo hi es[m] && rangeOk es lo hi)
          · have hno := cntR_no (lo := lo) (hi := hi) hlt (by cases h1 : inR lo hi es[m] <;> simp_all)
            go_wp2_with fail
            go_roundw
            case rel => exact ⟨m + 1, by omega, by go_num, by rw [hno], hb3⟩
            case measure => simp [intOf]; omega
          · have hys := (cntR_yes (lo := lo) (hi := hi) hlt (by simp_all) (by simp_all)).1
            have hcl := cntR_le es lo hi m
            go_wp2_with fail
            go_roundw
            case rel => exact ⟨m + 1, by omega, by go_num, by rw [hys]; go_num, hb3⟩
            case measure => simp [intOf]; omega
    · obtain rfl : m = es.length := by omega
      have g1 : ¬ (es.length : Int) < es.length := by omega
      have HCB := Lib.hid (show (((cntR es lo hi es.length : Nat) : Int) == (L.length : Int)) = true by rw [beq_iff_eq, cntR_end, HLL.out])
      go_wp2_with fail
      go_ret
      exact ⟨retB HCB.out, hz.trans (hb.mono hz.size)⟩

set_option maxRecDepth 100000 in
theorem lifted (os : Os) (started : os.Started) (H : Type) (enc : TypeId × Value → H) :
    ReturnsInHanded {} Tryz.checked os 5 .any (Rows.fnRangeSpec.pre6 enc Tryz.prog Tryz.f5 Rows.fnRangeRow.domain false) (Rows.fnRangeSpec.post enc Tryz.prog Tryz.f5 false true false false) := by
  refine returnsInHanded_of_change (C := Tryz.checked) own started (by kernel_rfl) Tryz.func5
    (ChangeSpec.witness6 (enc := enc) (C := Tryz.checked) false ⟨#[], #[.slice none 0 0], []⟩ 8 (by kernel_rfl) (by kernel_rfl) (by kernel_rfl) (by kernel_rfl)) ?_
  intro W base args ds gs before hval0 hW hcnd _
  have hval : ∀ (j : Nat) t v, Tryz.f5.params[j]? = some t → args[j]? = some v → Value.okWide Tryz.prog W .any base t v := hval0
  have hW' := hW
  obtain ⟨p, q, hA0, hV, rfl, hfz, hnd⟩ := hW
  have hA : DataW.TrodAll enc Tryz.prog W 0 (fun _ => true) true Tryz.f5.params.toList args.toList ds p := hA0
  rw [Tryz.params5] at hA hval
  obtain ⟨v0, vs0, d0, ds0, p0, q0, hargs, rfl, rfl, h0, r0⟩ := trodAll_cons hA
  obtain ⟨rfl, rfl, rfl⟩ := trodAll_nil r0
  obtain rfl : args = #[v0] := by cases args; simp_all
  obtain ⟨rfl, rfl⟩ := trodVars_none hV
  have k0' := h0
  have lt0 : ∀ x ∈ p0, x.block < W.heap.size := by obtain ⟨m, hm⟩ := k0'; exact DataW.trod_lt m _ _ _ hm
  obtain ⟨a0, len0, cap0, rfl⟩ := okWide_slice Tryz.underlying22 (hval 0 22 v0 rfl rfl)
  obtain ⟨z0, w0⟩ := isRow_of_trod Tryz.underlying22 Tryz.underlying5 (by kernel_rfl) h0
  clear hA0 hval0
  refine (walk a0 len0 cap0 z0 W w0).mono fun e W' ⟨he, bel⟩ => ?_
  subst he
  exact ⟨_, rfl, _, _, _, [], _, [], hW', trodAll_mk1 (shut_bool Tryz.underlying4 _), (trodAll_cons_mk (Below.trod laidOut (by kernel_rfl) (of_decide_eq_true (by kernel_rfl)) k0' bel lt0) trodAll_mk0), rfl, bel.frame _, fun h => by cases h⟩

set_option maxRecDepth 100000 in
set_option maxHeartbeats 16000000 in
theorem facts : joinedFacts Tryz.checked.prog 5 Tryz.f5 Rows.fnRangeSpec Rows.fnRangeRow = true := by
  unfold joinedFacts
  repeat' (with_reducible refine Bool.and_eq_true_iff.2 ⟨?_, ?_⟩)
  all_goals (as_aux_lemma => kernel_rfl)

theorem over : Rows.fnRangeRow.holds Tryz.pinned (OpenSpec.ofChange Rows.fnRangeSpec) :=
  OpenClaim.holds_of_wide 5 Tryz.f5 rfl rfl rfl rfl rfl rfl rfl ⟨rfl, rfl, rfl, rfl, rfl⟩ rfl rfl rfl rfl rfl (by kernel_rfl) Tryz.func5 facts
    (of_decide_eq_true (by as_aux_lemma => kernel_rfl)) (by unfold Func.isWrapper; first | (rw [if_pos (by decide +kernel)]; kernel_rfl) | (rw [if_neg (by decide +kernel)]; exact ⟨rfl, rfl⟩))
    (fun os started H enc _ => lifted os started H enc)

theorem proved : Rows.FnRangeSaid := over
#print axioms proved
end Go.Proofs.YtciaidjmehelpaaGreat.fnRange
