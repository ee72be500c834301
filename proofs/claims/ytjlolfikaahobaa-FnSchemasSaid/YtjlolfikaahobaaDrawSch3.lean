/-
  Contracts of the drawing of schemas, more: DrawSchemaOk.
-/
import Derived.Test.YtjlolfikaahobaaDrawSch2
namespace Go.Proofs.Ytjlolfikaahobaa
open Go.RowKit
set_option linter.unusedVariables false
set_option linter.unusedSimpArgs false

theorem Sl.tail6 {ok : Nat → Prop} {w : World} {A : Option Addr} {t : Tb} {ts : List Tb} (h : Sl TbR 6 ok w A (ts.length + 1) (t :: ts)) : Sl TbR 6 ok w (A.map fun x => ⟨x.block, x.off + 6, none⟩) ts.length ts := by
  refine ⟨rfl, fun hn => ?_⟩
  obtain ⟨b, off, rfl, hob, hcs⟩ := h.2 (by omega)
  refine ⟨b, off + 6, rfl, hob, fun i hi => ?_⟩
  obtain ⟨cs, h1, h2, h3⟩ := hcs (i + 1) (by simpa using hi)
  refine ⟨cs, h1, h2, fun j v hj => ?_⟩
  have := h3 j v hj
  rw [show off + (i + 1) * 6 + j = off + 6 + i * 6 + j by omega] at this
  exact this

set_option maxRecDepth 100000 in
set_option maxHeartbeats 2000000 in
theorem drawSchemaOk (a : Option Addr) (len cap : Nat) (zs : List Int) (w : World) (h : IsRow .u8 w a len cap zs) :
    Calls Try.prog 11 #[.slice a len cap] w (Drawn isTbs w) := by
  have h0 := Rdr.new h 95
  have b0 := (Below.refl w.heap.size w).alloc (Nat.le_refl _) (.cells #[.slice a len cap, .int .i64 0] 95)
  obtain ⟨i0, hi, hz0, hz1, hz2⟩ := info_parts infoTableT
  have H1 := Lib.hid hi
  have H2 := Lib.hid hz0
  have H3 := Lib.hid hz1
  have H4 := Lib.hid hz2
  clear hi hz0 hz1 hz2
  go_enter Try.func11, Try.ntmps11
  go_wp2_with fail
  refine (specOpen _ _ _ _).mono ?_
  rintro e w1 ⟨rfl, rfl⟩
  have hRlt : w.heap.size < (w.alloc (.cells #[.slice a len cap, .int .i64 0] 95)).heap.size := by simp
  generalize w.alloc (.cells #[.slice a len cap, .int .i64 0] 95) = u at *
  go_wp2_with fail
  refine (rdSchema _ _ a len cap zs h0).mono ?_
  rintro e w2 ⟨v, rfl, hsch, hb, hr⟩
  go_wp2_with fail
  refine (rdBelow 8 _ _ a len cap zs hr).mono ?_
  rintro e w3 ⟨z, rfl, ⟨y, rfl, y0, y1⟩, hb3, hr3⟩
  have hsch := hsch.hold (Hold.but hb3 hRlt)
  have HB := Lib.hid (hb.trans hb3)
  clear hb hb3 hr hr3 h0
  have hq : y = 6 ∨ y = 7 ∨ (y ≠ 6 ∧ y ≠ 7) := by omega
  rcases hq with rfl | rfl | ⟨n6, n7⟩
  · obtain ⟨xs, hs, hl0, hl, hm⟩ := hsch
    obtain ⟨x, xs, rfl⟩ : ∃ x l, xs = x :: l := by cases xs with
      | nil => simp at hl0
      | cons x l => exact ⟨x, l, rfl⟩
    obtain ⟨A, c, rfl, hc, hcm, hsl⟩ := hs.sl
    have hc1 : 1 ≤ c := by simp at hc; omega
    have g1 : (1 : Int) ≤ ((x :: xs).length : Nat) := by simp; omega
    have HSL := Lib.hid hsl
    have HM := Lib.hid hm
    clear hs hsl hm
    have HF := Lib.hid (fun (h : ¬ c = 1) => show isTbs (.slice (A.map fun x => ⟨x.block, x.off + 6, none⟩) xs.length (c - 1)) w3 from
      ⟨_, _, _, _, _, rfl, by simp at hc; omega, by have h7 := Sl.tail6 (t := x.2.2) (ts := xs.map (·.2.2)) (by rw [List.length_map]; exact HSL.out)
                                                    rw [List.length_map] at h7; exact h7, by
        have h3 := szL_le Tb.sz 61 (xs.map (·.2.2)) fun t ht => by
          obtain ⟨z, hz, rfl⟩ := List.mem_map.1 ht
          exact HM.out z (List.mem_cons_of_mem _ hz)
        rw [List.length_map] at h3
        have h4 : xs.length ≤ 2 := by simpa using hl
        have h5 : xs.length * 61 ≤ 2 * 61 := Nat.mul_le_mul_right _ h4
        omega⟩)
    have HG := Lib.hid (fun (h : c = 1) => show isTbs (.slice A xs.length 0) w3 from by
      have hx0 : xs = [] := by
        have : xs.length + 1 ≤ 1 := by simpa [h] using hc
        exact List.eq_nil_of_length_eq_zero (by omega)
      subst hx0
      exact ⟨fun _ => True, A, 0, 0, [], rfl, Nat.le_refl _, ⟨rfl, fun h => by omega⟩, by decide⟩)
    have HBF := Lib.hid (b0.trans (HB.out.below (Nat.le_refl _) (Nat.le_of_lt hRlt)))
    clear hl0 hl hc hcm HSL HM
    go_wp2_with fail
    all_goals
      go_ret
      first
        | exact ⟨_, rfl, HF.out (by assumption), HBF.out⟩
        | exact ⟨_, rfl, HG.out (by first | assumption | rfl), HBF.out⟩
  · obtain ⟨xs, hs, hl0, hl, hm⟩ := hsch
    obtain ⟨x, xs, rfl⟩ : ∃ x l, xs = x :: l := by cases xs with
      | nil => simp at hl0
      | cons x l => exact ⟨x, l, rfl⟩
    obtain ⟨g, ca, rfl, hg, hcell, hfree, htc, hne, -⟩ := hs.head
    have hT := hs.2.2 x (List.mem_cons_self ..)
    obtain ⟨x0, x1, x2, x3, x4, x5, e6⟩ := hT.len
    have d0 := hcell 0 x0 (by rw [e6]; rfl)
    have d1 := hcell 1 x1 (by rw [e6]; rfl)
    have d2 := hcell 2 x2 (by rw [e6]; rfl)
    have d3 := hcell 3 x3 (by rw [e6]; rfl)
    have d4 := hcell 4 x4 (by rw [e6]; rfl)
    have d5 := hcell 5 x5 (by rw [e6]; rfl)
    have HQ := Lib.hid (hs.hold (Hold.alloc u.heap.size w3 (.cells #[x0, x1, x2, x3, x4, x5] 34)))
    have HM := Lib.hid hm
    have E6 := Lib.hid e6
    have hsu : u.heap.size ≤ w3.heap.size := HB.out.size
    have hl2 : xs.length ≤ 2 := by simpa using hl
    have hone : ∀ v ∈ [x0, x1, x2, x3, x4, x5], v.oneCell' = true := by
      obtain ⟨_, _, _, _, _, _, _, _, _, _, _, _, _, e, -⟩ := hT
      rw [e6] at e
      intro v hv
      rw [e] at hv
      simp at hv
      rcases hv with rfl | rfl | rfl | rfl | rfl | rfl <;> rfl
    have HONE := Lib.hid hone
    clear hs hcell hfree htc hne hT hm e6 hone hl hl0
    go_wp2_with (at_builtin; refine wpList_append_own _ rfl _ _ 24 rfl u.heap.size 34 i0 (.agg #[.string ⟨#[]⟩, .slice none 0 0, .slice none 0 0, .slice none 0 0, .slice none 0 0, .slice none 0 0]) 6 136 Try.underlying24 H1.out H2.out H3.out H4.out rfl (by decide) _ _ _ rfl HQ.out.1 ⟨_, 0, none⟩ 1 1 [x0, x1, x2, x3, x4, x5] rfl rfl ?c1 ?c2 ?c3 ?c4 ?c5 ?_)
    case c1 => exact cellsY _ [x0, x1, x2, x3, x4, x5] _ (by simp)
    case c2 => exact HONE.out
    case c3 => unfold maxLen; simp; omega
    case c4 => simp; omega
    case c5 => simp; omega
    intro v' w4 hown4 hgrow _
    have hB4 : Below u.heap.size _ w4 := (Below.refl u.heap.size (w3.alloc (.cells #[x0, x1, x2, x3, x4, x5] 34))).grown hgrow (by simp; omega) fun k hk => (HQ.out.1.lt k hk).1
    have hx2 : [x0, x1, x2, x3, x4, x5] = x.2.1 := E6.out.symm
    have HF := Lib.hid (show isTbs v' w4 from tabs_tbs (base := u.heap.size) (m := 61) (xs := (x :: xs) ++ [x]) (by rw [List.length_append, List.map_append, List.flatten_append]; rw [hx2] at hown4; simpa using hown4)
      (fun z hz => by
        have hz' : z ∈ x :: xs := by
          rcases List.mem_append.1 hz with hz | hz
          · exact hz
          · rw [List.mem_singleton.1 hz]; exact List.mem_cons_self ..
        exact (HQ.out.2.2 z hz').grown hgrow HQ.out.row) (by simp; omega) (fun z hz => by
        have hz' : z ∈ x :: xs := by
          rcases List.mem_append.1 hz with hz | hz
          · exact hz
          · rw [List.mem_singleton.1 hz]; exact List.mem_cons_self ..
        exact HM.out z hz') (by omega))
    have HBF := Lib.hid (b0.trans (((HB.out.alloc (.cells #[x0, x1, x2, x3, x4, x5] 34)).below (Nat.le_refl _) (Nat.le_of_lt hRlt)).trans (hB4.mono (Nat.le_of_lt hRlt))))
    clear hown4 hgrow hB4 HQ hx2
    go_wp2_with fail
    go_ret
    exact ⟨_, rfl, HF.out, HBF.out⟩
  · have m6 : (y == 6) = false := by simpa using n6
    have m7 : (y == 7) = false := by simpa using n7
    have HF := Lib.hid (hsch.tbs (by omega))
    clear hsch
    go_wp2_with fail
    go_ret
    exact ⟨_, rfl, HF.out, b0.trans (HB.out.below (Nat.le_refl _) (Nat.le_of_lt hRlt))⟩
end Go.Proofs.Ytjlolfikaahobaa
