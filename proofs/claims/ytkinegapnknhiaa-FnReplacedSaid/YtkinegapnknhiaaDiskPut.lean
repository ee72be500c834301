/-
  Files in the model: a list without a name, a list with one more.
-/
import Derived.Test.YtkinegapnknhiaaDiskForm
import Derived.Test.YtkinegapnknhiaaTo
namespace Go.Proofs.Ytkinegapnknhiaa
open Go.RowKit
set_option linter.unusedVariables false
set_option linter.unusedSimpArgs false

def OwnZ (w : World) (base : Nat) (v : Value) (xs : List Fz) : Prop := OwnG 75 2 Fz.cells w base v xs
theorem fz_cells (d : Fz) : (Fz.cells d).length = 2 := rfl
theorem OwnZ.sl {w : World} {base : Nat} {v : Value} {xs : List Fz} (h : OwnZ w base v xs) : ∃ A c, v = .slice A xs.length c ∧ xs.length ≤ c ∧ c ≤ maxLen ∧ Sl FzR 2 (okF base w) w A xs.length xs := OwnG.sl fz_cells h
theorem cutF_step {l : List Fz} {s : List UInt8} {k : Nat} (h : k < l.length) : cutF (l.take (k + 1)) s = cutF (l.take k) s ++ (if l[k].nm == s then [] else [l[k]]) := by
  unfold cutF
  rw [List.take_succ_eq_append_getElem h, List.filter_append]
  congr 1
  rw [List.filter_cons]
  cases l[k].nm == s <;> rfl
theorem cutF_le (l : List Fz) (s : List UInt8) (k : Nat) : (cutF (l.take k) s).length ≤ k := by
  have := (cutF_bytes (l.take k) s).2
  rw [List.length_take] at this; omega

set_option maxRecDepth 100000 in
set_option maxHeartbeats 1000000 in
theorem specCut14 (A : Option Addr) (n c : Nat) (l : List Fz) (s : ByteArray) (ok : Nat → Prop) (w : World) (h : Sl FzR 2 ok w A n l) (hn : n ≤ 1048576) :
    Calls Try.prog 84 #[.slice A n c, .string s] w fun e w' => (∃ v, e = .returned v ∧ OwnZ w' w.heap.size v (cutF l s.toList)) ∧ Below w.heap.size w w' := by
  obtain rfl : l.length = n := h.1
  obtain ⟨i0, hi, hz0, hz1, hz2⟩ := info_parts infoFileT
  have H1 := Lib.hid hi
  have H2 := Lib.hid hz0
  have H3 := Lib.hid hz1
  have H4 := Lib.hid hz2
  clear hi hz0 hz1 hz2
  have hb0 := (Below.refl w.heap.size w).alloc (Nat.le_refl _) (.cells #[] 75)
  have ho0 : Hid (OwnZ _ w.heap.size _ []) := Lib.hid (OwnG.lit (T := 75) (sz := 2) (f := Fz.cells) w (Nat.le_refl w.heap.size))
  go_enter Try.func84, Try.ntmps84
  go_wp2_with fail
  generalize w.alloc (.cells #[] 75) = z0 at *
  go_loopw [5, 6] (fun v iv wr => ∃ k : Nat, k ≤ l.length ∧ iv = .int .i64 k ∧ Hid (OwnZ wr w.heap.size v (cutF (l.take k) s.toList)) ∧ Below w.heap.size w wr) (fun _ iv _ => l.length - (intOf iv).toNat)
  case atStart => exact ⟨0, by omega, rfl, ho0, hb0⟩
  case round =>
    clear hb0 ho0
    obtain ⟨k, hk, rfl, hown, hb⟩ := hrel
    by_cases hlt : k < l.length
    · obtain ⟨b, off, -, rfl, q0, q1⟩ := FzR.at_ (h.below FzR.stays hb) hlt
      have i0' : (0 : Int) ≤ k := by omega
      have i1 : (k : Int) < l.length := by omega
      have HST := Lib.hid (cutF_step (s := s.toList) hlt)
      have HLE := Lib.hid (cutF_le l s.toList k)
      generalize hxs : cutF (l.take k) s.toList = xs at hown HST HLE
      cases he : (l[k].name.toList == s.toList)
      · have HS2 := Lib.hid (show cutF (l.take (k + 1)) s.toList = xs ++ [l[k]] by
          have e : (l[k].nm == s.toList) = false := he
          rw [HST.out, e]; rfl)
        clear HST hxs
        go_wp2_with (at_builtin; refine wpList_append_own _ rfl _ _ 24 rfl w.heap.size 75 i0 (.agg #[.string ⟨#[]⟩, .string ⟨#[]⟩]) 2 32 Try.underlying24 H1.out H2.out H3.out H4.out rfl (by decide) _ _ _ rfl (World.ownsRow.alloc hown.out _) ⟨_, 0, none⟩ 1 1 (Fz.cells l[k]) rfl rfl ?c11 ?c21 ?c31 ?c41 ?c51 ?_)
        case c11 => exact cells_newAt _ (Fz.cells l[k]) _ (by simp)
        case c21 => intro u hu; simp [Fz.cells] at hu; rcases hu with rfl | rfl <;> rfl
        case c31 => have := HLE.out; unfold maxLen; omega
        case c41 => have := HLE.out; omega
        case c51 => have := hb.size; simp; omega
        intro v9 w9 hown3 hgrow _
        have R1 := OwnG.app hown.out hb.size hown3 hgrow
        have HO9 := Lib.hid (show OwnZ w9 w.heap.size v9 _ from R1.1)
        have hb9 := R1.2
        clear hown3 hgrow R1
        have hb10 := hb.trans hb9
        rw [← HS2.out] at HO9
        clear hown
        go_wp2_with fail
        go_roundw
        case rel => exact ⟨k + 1, by omega, by go_num, HO9, hb10⟩
        case measure => simp [intOf]; omega
      · have HS2 := Lib.hid (show cutF (l.take (k + 1)) s.toList = xs by
          have e : (l[k].nm == s.toList) = true := he
          rw [HST.out, e]; simp)
        clear HST hxs
        go_wp2
        go_roundw
        case rel => exact ⟨k + 1, by omega, by go_num, Lib.hid (by rw [HS2.out]; exact hown.out), hb⟩
        case measure => simp [intOf]; omega
    · have e : l.take k = l := List.take_of_length_le (by omega)
      have HO := hown
      rw [e] at HO
      clear e hown
      go_wp2
      go_ret
      exact ⟨⟨_, rfl, HO.out⟩, hb⟩
theorem putGo_at (n d : ByteArray) (b : Bool) {l : List Fz} {k : Nat} (h : k < l.length) : putGo n d b (l.drop k) = (if !b && !decide (l[k].nm < n.toList) then [⟨n, d⟩] else []) ++ (if l[k].nm == n.toList then [] else [l[k]]) ++ putGo n d (b || !decide (l[k].nm < n.toList)) (l.drop (k + 1)) := by
  rw [List.drop_eq_getElem_cons h]; rfl

set_option maxRecDepth 100000 in
set_option maxHeartbeats 2000000 in
theorem specPut14 (A : Option Addr) (m c : Nat) (l : List Fz) (n d : ByteArray) (ok : Nat → Prop) (w : World) (h : Sl FzR 2 ok w A m l) (hn : m ≤ 1048576) :
    Calls Try.prog 83 #[.slice A m c, .string n, .string d] w fun e w' => (∃ v, e = .returned v ∧ OwnZ w' w.heap.size v (putF l n d)) ∧ Below w.heap.size w w' := by
  obtain rfl : l.length = m := h.1
  obtain ⟨i0, hi, hz0, hz1, hz2⟩ := info_parts infoFileT
  have H1 := Lib.hid hi
  have H2 := Lib.hid hz0
  have H3 := Lib.hid hz1
  have H4 := Lib.hid hz2
  clear hi hz0 hz1 hz2
  have hb0 := (Below.refl w.heap.size w).alloc (Nat.le_refl _) (.cells #[] 75)
  have ho0 : Hid (OwnZ _ w.heap.size _ []) := Lib.hid (OwnG.lit (T := 75) (sz := 2) (f := Fz.cells) w (Nat.le_refl w.heap.size))
  go_enter Try.func83, Try.ntmps83
  go_wp2_with fail
  generalize w.alloc (.cells #[] 75) = z0 at *
  go_loopw [7, 8, 9] (fun v bv iv wr => ∃ (k : Nat) (b : Bool) (xs : List Fz), k ≤ l.length ∧ iv = .int .i64 k ∧ bv = .bool b ∧ Hid (OwnZ wr w.heap.size v xs) ∧ Hid (putF l n d = xs ++ putGo n d b (l.drop k)) ∧ Hid (xs.length ≤ 2 * k + 1) ∧ Below w.heap.size w wr) (fun _ _ iv _ => l.length - (intOf iv).toNat)
  case atStart => exact ⟨0, false, [], by omega, rfl, rfl, ho0, Lib.hid rfl, Lib.hid (by simp), hb0⟩
  case round =>
    clear hb0 ho0
    obtain ⟨k, b, xs, hk, rfl, rfl, hown, hp, HLE, hb⟩ := hrel
    by_cases hlt : k < l.length
    · obtain ⟨bl, off, -, rfl, q0, q1⟩ := FzR.at_ h hlt
      have q0z := below_keep hb _ _ q0
      have q1z := below_keep hb _ _ q1
      have i0' : (0 : Int) ≤ k := by omega
      have i1 : (k : Int) < l.length := by omega
      have HST := Lib.hid (putGo_at n d b hlt)
      cases b
      · cases e1 : decide (l[k].nm < n.toList)
        · cases e0' : (l[k].nm == n.toList)
          · -- put, and the other
            have HP := Lib.hid (show putF l n d = xs ++ [⟨n, d⟩] ++ [l[k]] ++ putGo n d true (l.drop (k + 1)) by rw [hp.out, HST.out, e0']; (try rw [e1]); simp)
            have e0 : (l[k].name.toList == n.toList) = false := e0'
            have e2 : Op.bytesLess l[k].name.toList n.toList = false := by rw [bl_lt]; exact e1
            clear e0' e1 HST hp
            go_wp2_with (at_builtin; refine wpList_append_own _ rfl _ _ 24 rfl w.heap.size 75 i0 (.agg #[.string ⟨#[]⟩, .string ⟨#[]⟩]) 2 32 Try.underlying24 H1.out H2.out H3.out H4.out rfl (by decide) _ _ _ rfl (World.ownsRow.alloc hown.out _) ⟨_, 0, none⟩ 1 1 (Fz.cells ⟨n, d⟩) rfl rfl ?c12 ?c22 ?c32 ?c42 ?c52 ?_)
            case c12 => exact cells_newAt _ (Fz.cells ⟨n, d⟩) _ (by simp)
            case c22 => intro u hu; simp [Fz.cells] at hu; rcases hu with rfl | rfl <;> rfl
            case c32 => have := HLE.out; unfold maxLen; omega
            case c42 => have := HLE.out; omega
            case c52 => have := hb.size; simp; omega
            intro v9 w9 hown3 hgrow _
            have R2 := OwnG.app hown.out hb.size hown3 hgrow
            have HO9 := Lib.hid (show OwnZ w9 w.heap.size v9 _ from R2.1)
            have hb9 := R2.2
            clear hown3 hgrow R2
            have hb10 := hb.trans hb9
            clear hown
            have q0z := below_keep hb10 _ _ q0
            have q1z := below_keep hb10 _ _ q1
            have HLE := Lib.hid (show (xs ++ [(⟨n, d⟩ : Fz)]).length ≤ 2 * k + 2 by have := HLE.out; simp only [List.length_append, List.length_cons, List.length_nil]; omega)
            generalize hys : xs ++ [(⟨n, d⟩ : Fz)] = ys at *
            clear hys
            go_wp2_with (at_builtin; refine wpList_append_own _ rfl _ _ 24 rfl w.heap.size 75 i0 (.agg #[.string ⟨#[]⟩, .string ⟨#[]⟩]) 2 32 Try.underlying24 H1.out H2.out H3.out H4.out rfl (by decide) _ _ _ rfl (World.ownsRow.alloc HO9.out _) ⟨_, 0, none⟩ 1 1 (Fz.cells l[k]) rfl rfl ?c13 ?c23 ?c33 ?c43 ?c53 ?_)
            case c13 => exact cells_newAt _ (Fz.cells l[k]) _ (by simp)
            case c23 => intro u hu; simp [Fz.cells] at hu; rcases hu with rfl | rfl <;> rfl
            case c33 => have := HLE.out; unfold maxLen; omega
            case c43 => have := HLE.out; omega
            case c53 => have := hb10.size; simp; omega
            intro v8 w8 hown3 hgrow _
            have R3 := OwnG.app HO9.out hb10.size hown3 hgrow
            have HO8 := Lib.hid (show OwnZ w8 w.heap.size v8 _ from R3.1)
            have hb8 := R3.2
            clear hown3 hgrow R3
            have hb11 := hb10.trans hb8
            clear HO9
            go_wp2_with fail
            go_roundw
            case rel => exact ⟨k + 1, true, _, by omega, by go_num, rfl, HO8, HP, Lib.hid (by have := HLE.out; (try simp only [List.length_append, List.length_cons, List.length_nil] at *); omega), hb11⟩
            case measure => simp [intOf]; omega
          · -- put in its place
            have HP := Lib.hid (show putF l n d = xs ++ [⟨n, d⟩] ++ putGo n d true (l.drop (k + 1)) by rw [hp.out, HST.out, e0']; (try rw [e1]); simp)
            have e0 : (l[k].name.toList == n.toList) = true := e0'
            have e2 : Op.bytesLess l[k].name.toList n.toList = false := by rw [bl_lt]; exact e1
            clear e0' e1 HST hp
            go_wp2_with (at_builtin; refine wpList_append_own _ rfl _ _ 24 rfl w.heap.size 75 i0 (.agg #[.string ⟨#[]⟩, .string ⟨#[]⟩]) 2 32 Try.underlying24 H1.out H2.out H3.out H4.out rfl (by decide) _ _ _ rfl (World.ownsRow.alloc hown.out _) ⟨_, 0, none⟩ 1 1 (Fz.cells ⟨n, d⟩) rfl rfl ?c14 ?c24 ?c34 ?c44 ?c54 ?_)
            case c14 => exact cells_newAt _ (Fz.cells ⟨n, d⟩) _ (by simp)
            case c24 => intro u hu; simp [Fz.cells] at hu; rcases hu with rfl | rfl <;> rfl
            case c34 => have := HLE.out; unfold maxLen; omega
            case c44 => have := HLE.out; omega
            case c54 => have := hb.size; simp; omega
            intro v9 w9 hown3 hgrow _
            have R4 := OwnG.app hown.out hb.size hown3 hgrow
            have HO9 := Lib.hid (show OwnZ w9 w.heap.size v9 _ from R4.1)
            have hb9 := R4.2
            clear hown3 hgrow R4
            have hb10 := hb.trans hb9
            clear hown
            have q0z := below_keep hb10 _ _ q0
            have q1z := below_keep hb10 _ _ q1
            go_wp2_with fail
            go_roundw
            case rel => exact ⟨k + 1, true, _, by omega, by go_num, rfl, HO9, HP, Lib.hid (by have := HLE.out; (try simp only [List.length_append, List.length_cons, List.length_nil] at *); omega), hb10⟩
            case measure => simp [intOf]; omega
        · have e0' : (l[k].nm == n.toList) = false := by
            simp only [beq_eq_false_iff_ne]
            intro e
            have := of_decide_eq_true e1
            rw [e] at this; exact lt_irr _ this
          have HP := Lib.hid (show putF l n d = xs ++ [l[k]] ++ putGo n d false (l.drop (k + 1)) by rw [hp.out, HST.out, e0']; (try rw [e1]); simp)
          have e0 : (l[k].name.toList == n.toList) = false := e0'
          have e2 : Op.bytesLess l[k].name.toList n.toList = true := by rw [bl_lt]; exact e1
          clear e0' e1 HST hp
          go_wp2_with (at_builtin; refine wpList_append_own _ rfl _ _ 24 rfl w.heap.size 75 i0 (.agg #[.string ⟨#[]⟩, .string ⟨#[]⟩]) 2 32 Try.underlying24 H1.out H2.out H3.out H4.out rfl (by decide) _ _ _ rfl (World.ownsRow.alloc hown.out _) ⟨_, 0, none⟩ 1 1 (Fz.cells l[k]) rfl rfl ?c15 ?c25 ?c35 ?c45 ?c55 ?_)
          case c15 => exact cells_newAt _ (Fz.cells l[k]) _ (by simp)
          case c25 => intro u hu; simp [Fz.cells] at hu; rcases hu with rfl | rfl <;> rfl
          case c35 => have := HLE.out; unfold maxLen; omega
          case c45 => have := HLE.out; omega
          case c55 => have := hb.size; simp; omega
          intro v8 w8 hown3 hgrow _
          have R5 := OwnG.app hown.out hb.size hown3 hgrow
          have HO8 := Lib.hid (show OwnZ w8 w.heap.size v8 _ from R5.1)
          have hb8 := R5.2
          clear hown3 hgrow R5
          have hb11 := hb.trans hb8
          clear hown
          go_wp2_with fail
          go_roundw
          case rel => exact ⟨k + 1, false, _, by omega, by go_num, rfl, HO8, HP, Lib.hid (by have := HLE.out; (try simp only [List.length_append, List.length_cons, List.length_nil] at *); omega), hb11⟩
          case measure => simp [intOf]; omega
      · cases e0' : (l[k].nm == n.toList)
        · have e1 := rfl (a := ())
          have HP := Lib.hid (show putF l n d = xs ++ [l[k]] ++ putGo n d true (l.drop (k + 1)) by rw [hp.out, HST.out, e0']; (try rw [e1]); simp)
          have e0 : (l[k].name.toList == n.toList) = false := e0'
          clear e0' e1 HST hp
          go_wp2_with (at_builtin; refine wpList_append_own _ rfl _ _ 24 rfl w.heap.size 75 i0 (.agg #[.string ⟨#[]⟩, .string ⟨#[]⟩]) 2 32 Try.underlying24 H1.out H2.out H3.out H4.out rfl (by decide) _ _ _ rfl (World.ownsRow.alloc hown.out _) ⟨_, 0, none⟩ 1 1 (Fz.cells l[k]) rfl rfl ?c16 ?c26 ?c36 ?c46 ?c56 ?_)
          case c16 => exact cells_newAt _ (Fz.cells l[k]) _ (by simp)
          case c26 => intro u hu; simp [Fz.cells] at hu; rcases hu with rfl | rfl <;> rfl
          case c36 => have := HLE.out; unfold maxLen; omega
          case c46 => have := HLE.out; omega
          case c56 => have := hb.size; simp; omega
          intro v8 w8 hown3 hgrow _
          have R6 := OwnG.app hown.out hb.size hown3 hgrow
          have HO8 := Lib.hid (show OwnZ w8 w.heap.size v8 _ from R6.1)
          have hb8 := R6.2
          clear hown3 hgrow R6
          have hb11 := hb.trans hb8
          clear hown
          go_wp2_with fail
          go_roundw
          case rel => exact ⟨k + 1, true, _, by omega, by go_num, rfl, HO8, HP, Lib.hid (by have := HLE.out; (try simp only [List.length_append, List.length_cons, List.length_nil] at *); omega), hb11⟩
          case measure => simp [intOf]; omega
        · have e1 := rfl (a := ())
          have HP := Lib.hid (show putF l n d = xs ++ putGo n d true (l.drop (k + 1)) by rw [hp.out, HST.out, e0']; (try rw [e1]); simp)
          have e0 : (l[k].name.toList == n.toList) = true := e0'
          clear e0' e1 HST hp
          go_wp2_with fail
          go_roundw
          case rel => exact ⟨k + 1, true, _, by omega, by go_num, rfl, hown, HP, Lib.hid (by have := HLE.out; (try simp only [List.length_append, List.length_cons, List.length_nil] at *); omega), hb⟩
          case measure => simp [intOf]; omega
    · have e2 : l.drop k = [] := List.drop_eq_nil_of_le (by omega)
      have hp2 := hp.out
      rw [e2] at hp2
      cases b
      · have HP := Lib.hid (show putF l n d = xs ++ [⟨n, d⟩] by rw [hp2]; rfl)
        clear e2 hp2 hp
        go_wp2_with (at_builtin; refine wpList_append_own _ rfl _ _ 24 rfl w.heap.size 75 i0 (.agg #[.string ⟨#[]⟩, .string ⟨#[]⟩]) 2 32 Try.underlying24 H1.out H2.out H3.out H4.out rfl (by decide) _ _ _ rfl (World.ownsRow.alloc hown.out _) ⟨_, 0, none⟩ 1 1 (Fz.cells ⟨n, d⟩) rfl rfl ?c17 ?c27 ?c37 ?c47 ?c57 ?_)
        case c17 => exact cells_newAt _ (Fz.cells ⟨n, d⟩) _ (by simp)
        case c27 => intro u hu; simp [Fz.cells] at hu; rcases hu with rfl | rfl <;> rfl
        case c37 => have := HLE.out; unfold maxLen; omega
        case c47 => have := HLE.out; omega
        case c57 => have := hb.size; simp; omega
        intro v9 w9 hown3 hgrow _
        have R7 := OwnG.app hown.out hb.size hown3 hgrow
        have HO9 := Lib.hid (show OwnZ w9 w.heap.size v9 _ from R7.1)
        have hb9 := R7.2
        clear hown3 hgrow R7
        have hb10 := hb.trans hb9
        rw [← HP.out] at HO9
        go_wp2_with fail
        go_ret
        exact ⟨⟨_, rfl, HO9.out⟩, hb10⟩
      · have HP := Lib.hid (show putF l n d = xs by rw [hp2]; simp [putGo])
        clear e2 hp2 hp
        rw [← HP.out] at hown
        go_wp2
        go_ret
        exact ⟨⟨_, rfl, hown.out⟩, hb⟩
end Go.Proofs.Ytkinegapnknhiaa
