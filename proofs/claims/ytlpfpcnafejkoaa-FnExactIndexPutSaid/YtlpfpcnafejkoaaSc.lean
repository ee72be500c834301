/-
  Several texts in one: what the proof leans on, part 3.
-/
import Derived.Test.YtlpfpcnafejkoaaSb
import Derived.Test.YtlpfpcnafejkoaaSa
import Derived.Laws.AppendOwnNone
import Derived.Lib.SmallJoins
set_option linter.unusedVariables false
set_option linter.unusedSimpArgs false
namespace Go.Proofs.Ytlpfpcnafejkoaa
open Go.RowKit
theorem entC_take (vs : List Value) (l : List En) (h : vs.length = l.length) (i : Nat) (hi : i ≤ l.length) : ((entC vs l).take (i * 2)).length = i * 2 ∧ ((entC vs l).drop (i * 2)).length = (l.length - i) * 2 := by
  have := entC_len vs l h
  rw [List.length_take, List.length_drop]; omega
theorem lit_row (w : World) : (w.alloc (.cells #[] 42)).ownsRow w.heap.size 42 2 (.slice (some ⟨w.heap.size, 0, none⟩) 0 0) 0 [] :=
  ⟨by simp, .inr ⟨w.heap.size, 0, #[], rfl, Nat.le_refl _, Go.heap_alloc_last w _, Nat.le_refl _, by simp [maxLen], by simp, by simp⟩⟩
theorem cellsE {w : World} {base g c : Nat} {l : List En} {vs : List Value} (h : OwnE0 w base (.slice (some ⟨g, 0, none⟩) l.length c) l vs) : ∀ j u, (entC vs l)[j]? = some u → w.cell? ⟨g, j, none⟩ = some u := fun j u hj => by
  have hlt := (List.getElem?_eq_some_iff.1 hj).1
  have hcl := entC_len vs l h.len
  rw [World.ownsRow.cellAt h.row j (by omega)]
  exact hj
theorem OwnE0.ones {w : World} {base : Nat} {v : Value} {l : List En} {vs : List Value} (h : OwnE0 w base v l vs) : ∀ u ∈ entC vs l, u.oneCell' = true := entC_one vs l h.len (fun v hv9 => by
  obtain ⟨t, ht, rfl⟩ := List.mem_iff_getElem.1 hv9
  exact OwnK.one (h.key t (by rw [← h.len]; exact ht) ht))
theorem capE {w : World} {base c : Nat} {A : Option Addr} {l : List En} {vs : List Value} (h : OwnE0 w base (.slice A l.length c) l vs) : l.length ≤ c := by
  rcases h.row.2 with ⟨e9, h0⟩ | ⟨g, cap, cur, e9, h1, h2, h3, -⟩
  · omega
  · injection e9 with e1 e2 e3
    omega
set_option maxRecDepth 100000 in
set_option maxHeartbeats 2000000 in
theorem specL11Put (base : Nat) (v : Value) (l : List En) (e : En) (B : Option Addr) (m d : Nat) (vs : List Value) (w : World) (h : OwnE0 w base v l vs) (hb : base ≤ w.heap.size) (hn : l.length ≤ 1048576) (hk : ∀ x ∈ l, x.key.length ≤ 1048576) (hK : OwnK w base (.slice B m d) e.key) (hm : m ≤ 1048576) (hnd : ∀ q ∈ blk (.slice B m d), q ∉ vs.flatMap blk) :
    Calls Try.prog 43 #[v, .agg #[.slice B m d, .int .i64 e.id]] w fun r w' => ∃ v', r = .returned v' ∧ OwnE w' base v' (putL l e) ∧ Below w.heap.size w w' := by
  obtain ⟨i0, hi, hz0, hz1, hz2⟩ := info_parts infoEntC
  have H1 := Lib.hid hi
  have H2 := Lib.hid hz0
  have H3 := Lib.hid hz1
  have H4 := Lib.hid hz2
  clear hi hz0 hz1 hz2
  have hb0 := (Below.refl w.heap.size w).alloc (Nat.le_refl _) (.cells #[.slice B m d, .int .i64 e.id] 42)
  have r0 := Row.new w 42 #[.slice B m d, .int .i64 e.id]
  have hO0 := OwnE0.below h hb0
  have hK0 : OwnK _ base (.slice B m d) e.key := OwnG.below hK hb0
  obtain ⟨A, c, rfl, -, -, hsl⟩ := OwnE.sl ⟨vs, hO0⟩
  obtain ⟨B', d', e9, -, -, hE0⟩ := OwnG.sl (f := Vl.cells) (sz := 3) (fun _ => rfl) hK0
  cases e9
  have HK := Lib.hid hk
  have HAP := Lib.hid (atP_le l e)
  clear hk h hK
  go_enter Try.func43, Try.ntmps43
  go_wp2_with fail
  generalize w.alloc (.cells #[.slice B e.key.length d, .int .i64 e.id] 42) = z at *
  have HB0 := Lib.hid hb0
  have HO0 := Lib.hid hO0
  have HK0 := Lib.hid hK0
  have HR0 := Lib.hid r0
  have HZ := Lib.hid (show w.heap.size < z.heap.size from lt_of_block r0)
  clear hb0 hO0 hK0 r0
  go_loopw [5] (fun i wr => ∃ k : Nat, k ≤ atP l e ∧ i = .int .i64 k ∧ Hid (Below z.heap.size z wr)) (fun i _ => l.length - (intOf i).toNat)
  case atStart => exact ⟨0, by omega, rfl, Lib.hid (Below.refl _ _)⟩
  case round =>
    obtain ⟨k, hk, rfl, hB⟩ := hrel
    have hap := HAP.out
    by_cases hlt : k < l.length
    · obtain ⟨b, off, A1, n1, c1, -, rfl, q0', q1', hky', hc1⟩ := EnR.at_ hsl hlt
      have q0 := below_keep hB.out _ _ q0'
      have q1 := below_keep hB.out _ _ q1'
      have hky := hky'.below VlR.stays hB.out
      obtain ⟨⟨p0, p1⟩, -⟩ := (HR0.out.below hB.out).all2
      have i0' : (0 : Int) ≤ k := by omega
      have i1 : (k : Int) < l.length := by omega
      have HKL := Lib.hid (HK.out l[k] (List.getElem_mem hlt))
      have HLT := Lib.hid (fun hs : lessE l[k] e = true => show k < atP l e from by
        rcases Nat.lt_or_ge k (atP l e) with h9 | h9
        · exact h9
        · obtain rfl : k = atP l e := by omega
          rw [atP_here l e hlt] at hs
          cases hs)
      have HGE := Lib.hid (fun hs : lessE l[k] e = false => show k = atP l e from by
        rcases Nat.lt_or_ge k (atP l e) with h9 | h9
        · rw [atP_low l e k hlt h9] at hs
          cases hs
        · omega)
      generalize hek : l[k] = x at q0' q1' q1 hky' hky HKL HLT HGE
      have hkd : Sl VlR 3 _ wr.drew A1 n1 x.key := hky.stays VlR.stays (fun _ h => h) (fun p v _ h => h)
      have hed : Sl VlR 3 _ wr.drew B e.key.length e.key := (hE0.below VlR.stays hB.out).stays VlR.stays (fun _ h => h) (fun p v _ h => h)
      have hn1 : n1 ≤ 1048576 := by have := hky.1; have := HKL.out; omega
      clear q0' q1' hky' hky hek
      cases hsm : lessE x e
      · have HT := Lib.hid (HGE.out hsm)
        clear HLT HGE
        go_wp2_with fail
        go_region_held3 (fun w' => w'.cell? ⟨b, off + k * 2, none⟩ = some (.slice A1 n1 c1) ∧ w'.cell? ⟨b, off + k * 2 + 1, none⟩ = some (.int .i64 x.id) ∧ w'.cell? ⟨w.heap.size, 0, none⟩ = some (.slice B e.key.length d) ∧ w'.cell? ⟨w.heap.size, 1, none⟩ = some (.int .i64 e.id))
          (first | go_keep | exact keepC4 (by assumption) hb1)
          (first | (go_at_call 50; refine (specL11Less x e A1 B n1 c1 e.key.length d _ _ _ hkd hed hn1 hm).mono ?_; rintro r1 w1 ⟨rfl, hb1⟩; rw [hsm]))
        have hB9 := hB.out.drew.trans (hb1.mono hB.out.size)
        obtain ⟨g, e9⟩ : ∃ g, some (⟨b, off, none⟩ : Addr) = some ⟨g, 0, none⟩ := by
          rcases Joins.ownsRow_forms HO0.out.row with ⟨e9, -⟩ | ⟨g, cap, e9⟩
          · cases e9
          · injection e9 with e9; exact ⟨g, e9⟩
        cases e9
        generalize w1 = W at *
        clear hB hb1
        have HBW := Lib.hid (hB9)
        have HOW := Lib.hid (OwnE0.below HO0.out HBW.out)
        have HKW := Lib.hid (show OwnK W base (.slice B e.key.length d) e.key from OwnG.below HK0.out HBW.out)
        have HRW := Lib.hid (HR0.out.below HBW.out)
        have hle : k ≤ l.length := by omega
        have HLIT := Lib.hid (lit_row W)
        have HAL := Lib.hid ((Below.refl W.heap.size W).alloc (Nat.le_refl _) (.cells #[] 42))
        obtain ⟨hl1, hl2⟩ := entC_take vs l HOW.out.len k hle
        have HCL := Lib.hid (fun (W' : World) (hb' : Below W.heap.size W W') => cellsE (OwnE0.below HOW.out hb'))
        have HONE := Lib.hid (OwnE0.ones HOW.out)
        have HWB := Lib.hid (show base ≤ W.heap.size by have h1 := HBW.out.size; have h2 := HZ.out; omega)
        have hcap : l.length ≤ c := capE HOW.out
        have hck : ¬ (c = k) := by omega
        have hk0 : (0 : Int) ≤ (k : Nat) := by omega
        have hk1 : ((k : Nat) : Int) ≤ c := by omega
        have hk2 : ((k : Nat) : Int) ≤ l.length := by omega
        go_wp2_with (at_builtin; refine wpList_append_own _ rfl _ _ 36 rfl W.heap.size 42 i0 (.agg #[.slice none 0 0, .int .i64 0]) 2 32 Try.underlying36 H1.out H2.out H3.out H4.out rfl (by decide) _ _ _ rfl HLIT.out ⟨b, 0, none⟩ k c ((entC vs l).take (k * 2)) rfl hl1 ?c1 ?c2 ?c3 ?c4 ?c5 ?_)
        (try case c1 => (intro j u hj; (try rw [addr_add, Nat.zero_add]); rw [List.getElem?_take] at hj; split at hj; exact HCL.out _ HAL.out _ _ hj; cases hj))
        (try case c2 => (intro u hu; exact HONE.out u (List.mem_of_mem_take hu)))
        (try case c3 => (unfold maxLen; omega))
        (try case c4 => (omega))
        (try case c5 => (simp))
        intro v9 w9 hown9 hgrow9 _
        have HB9 := Lib.hid (show Below W.heap.size W w9 from HAL.out.grown hgrow9 (by simp) (fun q hq => by cases hq; exact Nat.le_refl _))
        obtain ⟨X1, hX1⟩ : ∃ X1, X1 = (entC vs l).take (k * 2) := ⟨_, rfl⟩
        rw [← hX1] at hown9
        have HX1 := Lib.hid hX1
        have HW9 := Lib.hid hown9
        have hr9 := HRW.out.below HB9.out
        obtain ⟨⟨p0, p1⟩, -⟩ := hr9.all2
        clear hX1 hown9 hgrow9 hr9 hl1
        go_wp2_with (at_builtin; refine wpList_append_own _ rfl _ _ 36 rfl W.heap.size 42 i0 (.agg #[.slice none 0 0, .int .i64 0]) 2 32 Try.underlying36 H1.out H2.out H3.out H4.out rfl (by decide) _ _ _ rfl (World.ownsRow.alloc HW9.out _) ⟨_, 0, none⟩ 1 1 [.slice B e.key.length d, .int .i64 e.id] rfl rfl ?d1 ?d2 ?d3 ?d4 ?d5 ?_)
        (try case d1 => (exact cells_newAt _ [.slice B e.key.length d, .int .i64 e.id] _ (by simp)))
        (try case d2 => (intro u hu; simp at hu; rcases hu with rfl | rfl <;> rfl))
        (try case d3 => (unfold maxLen; omega))
        (try case d4 => (omega))
        (try case d5 => (have := HB9.out.size; simp; omega))
        intro v10 w10 hown10 hgrow10 _
        have HB10 := Lib.hid (show Below W.heap.size W w10 from (HB9.out.alloc HB9.out.size _).grown hgrow10 (by have := HB9.out.size; simp; omega) (fun q hq => (World.ownsRow.lt HW9.out q hq).1))
        obtain ⟨X2, hX2⟩ : ∃ X2, X2 = X1 ++ [.slice B e.key.length d, .int .i64 e.id] := ⟨_, rfl⟩
        rw [← hX2] at hown10
        have HX2 := Lib.hid hX2
        have HW10 := Lib.hid hown10
        clear hX2 hown10 hgrow10 p0 p1
        go_wp2_with (at_builtin; refine wpList_append_own _ rfl _ _ 36 rfl W.heap.size 42 i0 (.agg #[.slice none 0 0, .int .i64 0]) 2 32 Try.underlying36 H1.out H2.out H3.out H4.out rfl (by decide) _ _ _ rfl HW10.out ⟨b, k * 2, none⟩ (l.length - k) (c - k) ((entC vs l).drop (k * 2)) rfl hl2 ?f1 ?f2 ?f3 ?f4 ?f5 ?_)
        (try case f1 => (intro j u hj; (try rw [addr_add]); rw [List.getElem?_drop] at hj; exact HCL.out _ HB10.out _ _ hj))
        (try case f2 => (intro u hu; exact HONE.out u (List.mem_of_mem_drop hu)))
        (try case f3 => (unfold maxLen; omega))
        (try case f4 => (omega))
        (try case f5 => (exact HB10.out.size))
        intro v11 w11 hown11 hgrow11 _
        have HB11 := Lib.hid (show Below W.heap.size W w11 from HB10.out.grown hgrow11 HB10.out.size (fun q hq => (World.ownsRow.lt HW10.out q hq).1))
        rw [show k + 1 + (l.length - k) = l.length + 1 by omega, HX2.out, HX1.out] at hown11
        have HE := Lib.hid (show OwnE w11 base v11 (putL l e) by
          unfold putL insAt
          rw [← HT.out]
          exact ⟨_, OwnE0.ins HOW.out hle HKW.out hnd (Joins.ownsRow_le hown11 HWB.out) ⟨HB11.out.os, HB11.out.tape, HB11.out.output, HB11.out.size, fun q hq _ => HB11.out.block q hq⟩⟩)
        have HBF := Lib.hid (show Below w.heap.size w w11 from (HB0.out.trans (HBW.out.mono (Nat.le_of_lt HZ.out))).trans (HB11.out.mono (by have h1 := HBW.out.size; have h2 := HZ.out; omega)))
        clear hown11 hgrow11
        go_wp2_with fail
        go_ret
        exact ⟨v11, rfl, HE.out, HBF.out⟩
      · have HT := Lib.hid (HLT.out hsm)
        clear HLT HGE
        go_wp2_with fail
        go_region_held3 (fun w' => w'.cell? ⟨b, off + k * 2, none⟩ = some (.slice A1 n1 c1) ∧ w'.cell? ⟨b, off + k * 2 + 1, none⟩ = some (.int .i64 x.id) ∧ w'.cell? ⟨w.heap.size, 0, none⟩ = some (.slice B e.key.length d) ∧ w'.cell? ⟨w.heap.size, 1, none⟩ = some (.int .i64 e.id))
          (first | go_keep | exact keepC4 (by assumption) hb1)
          (first | (go_at_call 50; refine (specL11Less x e A1 B n1 c1 e.key.length d _ _ _ hkd hed hn1 hm).mono ?_; rintro r1 w1 ⟨rfl, hb1⟩; rw [hsm]))
        have HB := Lib.hid (show Below z.heap.size z w1 from hB.out.drew.trans (hb1.mono hB.out.size))
        clear hB hb1
        go_wp2_with fail
        go_roundw
        case rel => exact ⟨k + 1, by have := HT.out; omega, by go_num, HB⟩
        case measure => simp [intOf]; omega
    · have HT := Lib.hid (show k = atP l e by omega)
      have HKL := Lib.hid (show k = l.length by omega)
      have i1 : ¬ ((k : Int) < l.length) := by omega
      go_wp2_with fail
      go_quiet (fail)
      have hB9 := below_drewN hB.out nq
      generalize wr.drewN nq = W at *
      clear hB
      rcases Joins.ownsRow_forms HO0.out.row with ⟨e9, h0⟩ | ⟨g, cap, e9⟩
      · injection e9 with e1 e2 e3
        subst e1 e3
        obtain rfl : l = [] := List.eq_nil_of_length_eq_zero h0
        obtain rfl : k = 0 := HKL.out
        have HBW := Lib.hid (hB9)
        have HOW := Lib.hid (OwnE0.below HO0.out HBW.out)
        have HKW := Lib.hid (show OwnK W base (.slice B e.key.length d) e.key from OwnG.below HK0.out HBW.out)
        have HRW := Lib.hid (HR0.out.below HBW.out)
        have HLIT := Lib.hid (lit_row W)
        have hal := (Below.refl W.heap.size W).alloc (Nat.le_refl _) (.cells #[] 42)
        have HAL := Lib.hid hal
        have HWB := Lib.hid (show base ≤ W.heap.size by have h1 := HBW.out.size; have h2 := HZ.out; omega)
        have hr9 := HRW.out.below hal
        obtain ⟨⟨p0, p1⟩, -⟩ := hr9.all2
        clear hal hr9
        go_wp2_with (first | (at_builtin; refine wpList_append_own_none rfl _ _ 36 rfl W.heap.size 42 i0 2 Try.underlying36 H1.out _ _ _ rfl HLIT.out rfl ?_) | (at_builtin; refine wpList_append_own _ rfl _ _ 36 rfl W.heap.size 42 i0 (.agg #[.slice none 0 0, .int .i64 0]) 2 32 Try.underlying36 H1.out H2.out H3.out H4.out rfl (by decide) _ _ _ rfl (World.ownsRow.alloc HLIT.out _) ⟨_, 0, none⟩ 1 1 [.slice B e.key.length d, .int .i64 e.id] rfl rfl ?d1 ?d2 ?d3 ?d4 ?d5 ?_))
        (try case d1 => (exact cells_newAt _ [.slice B e.key.length d, .int .i64 e.id] _ (by simp)))
        (try case d2 => (intro u hu; simp at hu; rcases hu with rfl | rfl <;> rfl))
        (try case d3 => (unfold maxLen; omega))
        (try case d4 => (omega))
        (try case d5 => (simp; omega))
        intro v10 w10 hown10 hgrow10 _
        have HB10 := Lib.hid (show Below W.heap.size W w10 from (HAL.out.alloc HAL.out.size _).grown hgrow10 (by simp; omega) (fun q hq => (World.ownsRow.lt HLIT.out q hq).1))
        have HW10 := Lib.hid hown10
        clear hown10 hgrow10 p0 p1
        go_wp2_with (at_builtin; refine wpList_append_own_none rfl _ _ 36 rfl W.heap.size 42 i0 2 Try.underlying36 H1.out _ _ _ rfl HW10.out rfl ?_)
        go_ret
        refine ⟨v10, rfl, ?_, (HB0.out.trans (HBW.out.mono (Nat.le_of_lt HZ.out))).trans (HB10.out.mono (by have h1 := HBW.out.size; have h2 := HZ.out; omega))⟩
        exact ⟨_, OwnE0.ins (i := 0) HOW.out (Nat.le_refl _) HKW.out hnd (by simpa [entC] using Joins.ownsRow_le HW10.out HWB.out) ⟨HB10.out.os, HB10.out.tape, HB10.out.output, HB10.out.size, fun q hq _ => HB10.out.block q hq⟩⟩
      · injection e9 with e1 e2 e3
        subst e1 e3
        by_cases hck : c = k
        · subst hck
          have HBW := Lib.hid (hB9)
          have HOW := Lib.hid (OwnE0.below HO0.out HBW.out)
          have HKW := Lib.hid (show OwnK W base (.slice B e.key.length d) e.key from OwnG.below HK0.out HBW.out)
          have HRW := Lib.hid (HR0.out.below HBW.out)
          have hle : c ≤ l.length := by omega
          have HLIT := Lib.hid (lit_row W)
          have HAL := Lib.hid ((Below.refl W.heap.size W).alloc (Nat.le_refl _) (.cells #[] 42))
          obtain ⟨hl1, hl2⟩ := entC_take vs l HOW.out.len c hle
          have HCL := Lib.hid (fun (W' : World) (hb' : Below W.heap.size W W') => cellsE (OwnE0.below HOW.out hb'))
          have HONE := Lib.hid (OwnE0.ones HOW.out)
          have HWB := Lib.hid (show base ≤ W.heap.size by have h1 := HBW.out.size; have h2 := HZ.out; omega)
          have hcap : l.length ≤ c := capE HOW.out
          have hk0 : (0 : Int) ≤ (c : Nat) := by omega
          have hk1 : ((c : Nat) : Int) ≤ c := by omega
          have hk2 : ((c : Nat) : Int) ≤ l.length := by omega
          go_wp2_with (at_builtin; refine wpList_append_own _ rfl _ _ 36 rfl W.heap.size 42 i0 (.agg #[.slice none 0 0, .int .i64 0]) 2 32 Try.underlying36 H1.out H2.out H3.out H4.out rfl (by decide) _ _ _ rfl HLIT.out ⟨g, 0, none⟩ c c ((entC vs l).take (c * 2)) rfl hl1 ?c1 ?c2 ?c3 ?c4 ?c5 ?_)
          (try case c1 => (intro j u hj; (try rw [addr_add, Nat.zero_add]); rw [List.getElem?_take] at hj; split at hj; exact HCL.out _ HAL.out _ _ hj; cases hj))
          (try case c2 => (intro u hu; exact HONE.out u (List.mem_of_mem_take hu)))
          (try case c3 => (unfold maxLen; omega))
          (try case c4 => (omega))
          (try case c5 => (simp))
          intro v9 w9 hown9 hgrow9 _
          have HB9 := Lib.hid (show Below W.heap.size W w9 from HAL.out.grown hgrow9 (by simp) (fun q hq => by cases hq; exact Nat.le_refl _))
          obtain ⟨X1, hX1⟩ : ∃ X1, X1 = (entC vs l).take (c * 2) := ⟨_, rfl⟩
          rw [← hX1] at hown9
          have HX1 := Lib.hid hX1
          have HW9 := Lib.hid hown9
          have hr9 := HRW.out.below HB9.out
          obtain ⟨⟨p0, p1⟩, -⟩ := hr9.all2
          clear hX1 hown9 hgrow9 hr9 hl1
          go_wp2_with (at_builtin; refine wpList_append_own _ rfl _ _ 36 rfl W.heap.size 42 i0 (.agg #[.slice none 0 0, .int .i64 0]) 2 32 Try.underlying36 H1.out H2.out H3.out H4.out rfl (by decide) _ _ _ rfl (World.ownsRow.alloc HW9.out _) ⟨_, 0, none⟩ 1 1 [.slice B e.key.length d, .int .i64 e.id] rfl rfl ?d1 ?d2 ?d3 ?d4 ?d5 ?_)
          (try case d1 => (exact cells_newAt _ [.slice B e.key.length d, .int .i64 e.id] _ (by simp)))
          (try case d2 => (intro u hu; simp at hu; rcases hu with rfl | rfl <;> rfl))
          (try case d3 => (unfold maxLen; omega))
          (try case d4 => (omega))
          (try case d5 => (have := HB9.out.size; simp; omega))
          intro v10 w10 hown10 hgrow10 _
          have HB10 := Lib.hid (show Below W.heap.size W w10 from (HB9.out.alloc HB9.out.size _).grown hgrow10 (by have := HB9.out.size; simp; omega) (fun q hq => (World.ownsRow.lt HW9.out q hq).1))
          obtain ⟨X2, hX2⟩ : ∃ X2, X2 = X1 ++ [.slice B e.key.length d, .int .i64 e.id] := ⟨_, rfl⟩
          rw [← hX2] at hown10
          have HX2 := Lib.hid hX2
          have HW10 := Lib.hid hown10
          clear hX2 hown10 hgrow10 p0 p1
          go_wp2_with (at_builtin; refine wpList_append_own _ rfl _ _ 36 rfl W.heap.size 42 i0 (.agg #[.slice none 0 0, .int .i64 0]) 2 32 Try.underlying36 H1.out H2.out H3.out H4.out rfl (by decide) _ _ _ rfl HW10.out ⟨g, 0, none⟩ 0 0 [] rfl rfl ?f1 ?f2 ?f3 ?f4 ?f5 ?_)
          (try case f1 => (intro j u hj; simp at hj))
          (try case f2 => (intro u hu; simp at hu))
          (try case f3 => (unfold maxLen; omega))
          (try case f4 => (omega))
          (try case f5 => (exact HB10.out.size))
          intro v11 w11 hown11 hgrow11 _
          have HB11 := Lib.hid (show Below W.heap.size W w11 from HB10.out.grown hgrow11 HB10.out.size (fun q hq => (World.ownsRow.lt HW10.out q hq).1))
          have hdz : (entC vs l).drop (c * 2) = [] := List.drop_of_length_le (by have h9 := entC_len vs l HOW.out.len; have h8 := HKL.out; omega)
          replace hown11 : w11.ownsRow W.heap.size 42 2 v11 (l.length + 1) ((entC vs l).take (c * 2) ++ [.slice B e.key.length d, .int .i64 e.id] ++ (entC vs l).drop (c * 2)) := by
            rw [hdz, List.append_nil, ← HX1.out, ← HX2.out, ← HKL.out]
            simpa using hown11
          have HE := Lib.hid (show OwnE w11 base v11 (putL l e) by
            unfold putL insAt
            rw [← HT.out]
            exact ⟨_, OwnE0.ins HOW.out hle HKW.out hnd (Joins.ownsRow_le hown11 HWB.out) ⟨HB11.out.os, HB11.out.tape, HB11.out.output, HB11.out.size, fun q hq _ => HB11.out.block q hq⟩⟩)
          have HBF := Lib.hid (show Below w.heap.size w w11 from (HB0.out.trans (HBW.out.mono (Nat.le_of_lt HZ.out))).trans (HB11.out.mono (by have h1 := HBW.out.size; have h2 := HZ.out; omega)))
          clear hown11 hgrow11
          go_wp2_with fail
          go_ret
          exact ⟨v11, rfl, HE.out, HBF.out⟩
        · have hcx : c = c := rfl
          have HBW := Lib.hid (hB9)
          have HOW := Lib.hid (OwnE0.below HO0.out HBW.out)
          have HKW := Lib.hid (show OwnK W base (.slice B e.key.length d) e.key from OwnG.below HK0.out HBW.out)
          have HRW := Lib.hid (HR0.out.below HBW.out)
          have hle : k ≤ l.length := by omega
          have HLIT := Lib.hid (lit_row W)
          have HAL := Lib.hid ((Below.refl W.heap.size W).alloc (Nat.le_refl _) (.cells #[] 42))
          obtain ⟨hl1, hl2⟩ := entC_take vs l HOW.out.len k hle
          have HCL := Lib.hid (fun (W' : World) (hb' : Below W.heap.size W W') => cellsE (OwnE0.below HOW.out hb'))
          have HONE := Lib.hid (OwnE0.ones HOW.out)
          have HWB := Lib.hid (show base ≤ W.heap.size by have h1 := HBW.out.size; have h2 := HZ.out; omega)
          have hcap : l.length ≤ c := capE HOW.out
          have hk0 : (0 : Int) ≤ (k : Nat) := by omega
          have hk1 : ((k : Nat) : Int) ≤ c := by omega
          have hk2 : ((k : Nat) : Int) ≤ l.length := by omega
          go_wp2_with (at_builtin; refine wpList_append_own _ rfl _ _ 36 rfl W.heap.size 42 i0 (.agg #[.slice none 0 0, .int .i64 0]) 2 32 Try.underlying36 H1.out H2.out H3.out H4.out rfl (by decide) _ _ _ rfl HLIT.out ⟨g, 0, none⟩ k c ((entC vs l).take (k * 2)) rfl hl1 ?c1 ?c2 ?c3 ?c4 ?c5 ?_)
          (try case c1 => (intro j u hj; (try rw [addr_add, Nat.zero_add]); rw [List.getElem?_take] at hj; split at hj; exact HCL.out _ HAL.out _ _ hj; cases hj))
          (try case c2 => (intro u hu; exact HONE.out u (List.mem_of_mem_take hu)))
          (try case c3 => (unfold maxLen; omega))
          (try case c4 => (omega))
          (try case c5 => (simp))
          intro v9 w9 hown9 hgrow9 _
          have HB9 := Lib.hid (show Below W.heap.size W w9 from HAL.out.grown hgrow9 (by simp) (fun q hq => by cases hq; exact Nat.le_refl _))
          obtain ⟨X1, hX1⟩ : ∃ X1, X1 = (entC vs l).take (k * 2) := ⟨_, rfl⟩
          rw [← hX1] at hown9
          have HX1 := Lib.hid hX1
          have HW9 := Lib.hid hown9
          have hr9 := HRW.out.below HB9.out
          obtain ⟨⟨p0, p1⟩, -⟩ := hr9.all2
          clear hX1 hown9 hgrow9 hr9 hl1
          go_wp2_with (at_builtin; refine wpList_append_own _ rfl _ _ 36 rfl W.heap.size 42 i0 (.agg #[.slice none 0 0, .int .i64 0]) 2 32 Try.underlying36 H1.out H2.out H3.out H4.out rfl (by decide) _ _ _ rfl (World.ownsRow.alloc HW9.out _) ⟨_, 0, none⟩ 1 1 [.slice B e.key.length d, .int .i64 e.id] rfl rfl ?d1 ?d2 ?d3 ?d4 ?d5 ?_)
          (try case d1 => (exact cells_newAt _ [.slice B e.key.length d, .int .i64 e.id] _ (by simp)))
          (try case d2 => (intro u hu; simp at hu; rcases hu with rfl | rfl <;> rfl))
          (try case d3 => (unfold maxLen; omega))
          (try case d4 => (omega))
          (try case d5 => (have := HB9.out.size; simp; omega))
          intro v10 w10 hown10 hgrow10 _
          have HB10 := Lib.hid (show Below W.heap.size W w10 from (HB9.out.alloc HB9.out.size _).grown hgrow10 (by have := HB9.out.size; simp; omega) (fun q hq => (World.ownsRow.lt HW9.out q hq).1))
          obtain ⟨X2, hX2⟩ : ∃ X2, X2 = X1 ++ [.slice B e.key.length d, .int .i64 e.id] := ⟨_, rfl⟩
          rw [← hX2] at hown10
          have HX2 := Lib.hid hX2
          have HW10 := Lib.hid hown10
          clear hX2 hown10 hgrow10 p0 p1
          go_wp2_with (at_builtin; refine wpList_append_own _ rfl _ _ 36 rfl W.heap.size 42 i0 (.agg #[.slice none 0 0, .int .i64 0]) 2 32 Try.underlying36 H1.out H2.out H3.out H4.out rfl (by decide) _ _ _ rfl HW10.out ⟨g, k * 2, none⟩ (l.length - k) (c - k) ((entC vs l).drop (k * 2)) rfl hl2 ?f1 ?f2 ?f3 ?f4 ?f5 ?_)
          (try case f1 => (intro j u hj; (try rw [addr_add]); rw [List.getElem?_drop] at hj; exact HCL.out _ HB10.out _ _ hj))
          (try case f2 => (intro u hu; exact HONE.out u (List.mem_of_mem_drop hu)))
          (try case f3 => (unfold maxLen; omega))
          (try case f4 => (omega))
          (try case f5 => (exact HB10.out.size))
          intro v11 w11 hown11 hgrow11 _
          have HB11 := Lib.hid (show Below W.heap.size W w11 from HB10.out.grown hgrow11 HB10.out.size (fun q hq => (World.ownsRow.lt HW10.out q hq).1))
          rw [show k + 1 + (l.length - k) = l.length + 1 by omega, HX2.out, HX1.out] at hown11
          have HE := Lib.hid (show OwnE w11 base v11 (putL l e) by
            unfold putL insAt
            rw [← HT.out]
            exact ⟨_, OwnE0.ins HOW.out hle HKW.out hnd (Joins.ownsRow_le hown11 HWB.out) ⟨HB11.out.os, HB11.out.tape, HB11.out.output, HB11.out.size, fun q hq _ => HB11.out.block q hq⟩⟩)
          have HBF := Lib.hid (show Below w.heap.size w w11 from (HB0.out.trans (HBW.out.mono (Nat.le_of_lt HZ.out))).trans (HB11.out.mono (by have h1 := HBW.out.size; have h2 := HZ.out; omega)))
          clear hown11 hgrow11
          go_wp2_with fail
          go_ret
          exact ⟨v11, rfl, HE.out, HBF.out⟩
theorem put_keys {l : List En} {e : En} (h : ∀ x ∈ l, x.key.length ≤ 1048576) (he : e.key.length ≤ 1048576) : ∀ x ∈ putL l e, x.key.length ≤ 1048576 := fun x hx => by
  unfold putL at hx
  rcases insAt_mem.1 hx with rfl | hx
  · exact he
  · exact h x hx
theorem putL_len (l : List En) (e : En) : (putL l e).length = l.length + 1 := by
  unfold putL; exact insAt_len (atP_le l e)
theorem keepP2 {w w' : World} {p q : Addr} {a b : Value} (h : w.cell? p = some a ∧ w.cell? q = some b) (hb : Below w.heap.size w w') : w'.cell? p = some a ∧ w'.cell? q = some b := ⟨below_keep hb _ _ h.1, below_keep hb _ _ h.2⟩
set_option maxRecDepth 100000 in
set_option maxHeartbeats 2000000 in
theorem specIndexPut (A : Option Addr) (n c : Nat) (l : List En) (ok : Nat → Prop) (e : En) (B : Option Addr) (m d : Nat) (ok' : Nat → Prop) (w : World) (h : Sl EnR 2 ok w A n l) (hn : n ≤ 1048576) (hk : ∀ x ∈ l, x.key.length ≤ 1048576) (hE : Sl VlR 3 ok' w B m e.key) (hm : m ≤ 1048576) :
    Calls Try.prog 24 #[.slice A n c, .agg #[.slice B m d, .int .i64 e.id]] w fun r w' => ∃ v, r = .returned (.tuple #[v, .bool (puttedB l e)]) ∧ OwnE w' w.heap.size v (putted l e) ∧ Below w.heap.size w w' := by
  obtain rfl : l.length = n := h.1
  obtain rfl : e.key.length = m := hE.1
  have HK := Lib.hid hk
  clear hk
  have hb0 := (Below.refl w.heap.size w).alloc (Nat.le_refl _) (.cells #[.slice B e.key.length d, .int .i64 e.id] 42)
  have r0 := Row.new w 42 #[.slice B e.key.length d, .int .i64 e.id]
  have hx0 : (w.alloc (.cells #[.slice B e.key.length d, .int .i64 e.id] 42)).heap.size = w.heap.size + 1 := by simp
  go_enter Try.func24, Try.ntmps24
  go_wp2_with fail
  generalize w.alloc (.cells #[.slice B e.key.length d, .int .i64 e.id] 42) = z0 at *
  refine (specL11Right A l.length c l _ _ (h.below EnR.stays hb0) hn HK.out).mono ?_
  rintro r w1 ⟨rfl, hb1⟩
  have r1 := r0.below hb1
  have hb01 := hb0.trans (hb1.mono (by omega))
  have hs1 : w.heap.size + 1 ≤ w1.heap.size := by have := hb1.size; omega
  clear r0 hb0 hb1 hx0
  cases hr : entriesB l
  · have HF := Lib.hid (show puttedB l e = false by unfold puttedB; rw [hr]; rfl)
    have HD := Lib.hid (show putted l e = [] by unfold putted; rw [HF.out]; simp)
    go_wp2_with fail
    go_ret2
    exact ⟨.slice none 0 0, by rw [HF.out]; rfl, by rw [HD.out]; exact OwnE.nil _ _, hb01⟩
  · have hl120 : l.length ≤ 120 := (entriesB_in hr).1
    have HR := Lib.hid hr
    have HKX := Lib.hid (show ∀ x ∈ l, x.key.length ≤ 1073741824 from fun x hx => by have := HK.out x hx; omega)
    have hl1 : Sl EnR 2 ok w1.drew A l.length l := (h.below EnR.stays hb01).stays EnR.stays (fun _ h => h) (fun p v _ h => h)
    have he1 : Sl VlR 3 ok' w1.drew B e.key.length e.key := (hE.below VlR.stays hb01).stays VlR.stays (fun _ h => h) (fun p v _ h => h)
    obtain ⟨⟨p0, p1⟩, -⟩ := r1.all2
    clear hr
    go_wp2_with fail
    go_region_held3 (fun w' => w'.cell? ⟨w.heap.size, 0, none⟩ = some (.slice B e.key.length d) ∧ w'.cell? ⟨w.heap.size, 1, none⟩ = some (.int .i64 e.id))
      (first | go_keep | exact keepP2 (by assumption) hqc | exact keepP2 (by assumption) hqb | exact keepP2 (by assumption) hqa)
      (first
        | (go_at_call 36; refine (specL11Copy A l.length c l _ _ hl1 HKX.out (by omega)).mono ?_; rintro r2 w2 ⟨v2, rfl, ho2, hqa⟩; obtain ⟨vs2, hO2⟩ := ho2)
        | (go_at_call 27; refine (specCopyVals B e.key.length d e.key _ _ (he1.below VlR.stays hqa) (by omega)).mono ?_; rintro r3 w3 ⟨v3, rfl, hk3, hqb⟩; obtain ⟨B3, d3, rfl⟩ := hk3.shape)
        | (go_at_call 43; refine (specL11Put w1.heap.size v2 l e B3 e.key.length d3 vs2 _ (OwnE0.below hO2 hqb) (Nat.le_trans hqa.size hqb.size) hn HK.out (hk3.mono hqa.size) hm (hO2.fresh hk3 (Nat.le_refl _))).mono ?_; rintro r4 w4 ⟨v4, rfl, ho4, hqc⟩))
    have HB4 := Lib.hid (show Below w.heap.size w w4 from ((hb01.drew.trans (hqa.mono hb01.size)).trans (hqb.mono (Nat.le_trans hb01.size hqa.size))).trans (hqc.mono (Nat.le_trans (Nat.le_trans hb01.size hqa.size) hqb.size)))
    have HO4 := Lib.hid (ho4.mono hb01.size)
    have HPL := Lib.hid (putL_len l e)
    have HKP := Lib.hid (put_keys HK.out hm)
    obtain ⟨A4, c4, rfl, -, -, hsl4⟩ := ho4.sl
    clear ho4 hqa hqb hqc hl1 he1 hO2 hk3 p0 p1 r1 hb01
    go_wp2_with fail
    refine (specL11Right A4 (putL l e).length c4 (putL l e) _ _ hsl4 (by have := HPL.out; omega) HKP.out).mono ?_
    rintro r5 w5 ⟨rfl, hb5⟩
    have HB5 := Lib.hid (show Below w.heap.size w w5 from HB4.out.trans (hb5.mono HB4.out.size))
    have HO5 := Lib.hid (HO4.out.below hb5)
    clear hb5 hsl4
    cases hp : entriesB (putL l e)
    · have HF := Lib.hid (show puttedB l e = false by unfold puttedB; rw [hp]; simp)
      have HD := Lib.hid (show putted l e = [] by unfold putted; rw [HF.out]; simp)
      go_wp2_with fail
      go_ret2
      exact ⟨.slice none 0 0, by rw [HF.out]; rfl, by rw [HD.out]; exact OwnE.nil _ _, HB5.out⟩
    · have HF := Lib.hid (show puttedB l e = true by unfold puttedB; rw [HR.out, hp]; rfl)
      have HD := Lib.hid (show putted l e = putL l e by unfold putted; rw [if_pos HF.out])
      go_wp2_with fail
      go_ret2
      exact ⟨_, by rw [HF.out]; rfl, by rw [HD.out]; exact HO5.out, HB5.out⟩
theorem Row.kept {B E : Nat} {w w' : World} {g : Nat} {T : TypeId} {cs : Array Value} (h : Row w g T cs) (k : Kept B E w w') (hg : g < B ∨ E ≤ g) : Row w' g T cs := (k.block g (lt_of_block h) hg).trans h
set_option maxRecDepth 100000 in
set_option maxHeartbeats 1000000 in
theorem marksEntry (A : Option Addr) (n c : Nat) (id : Int) (ms : List Nat) (ok : Nat → Prop) (B E k : Nat) (w : World) (h : Sl (ShF 3) 3 ok w A n ms) (hm : mayMark B E w ok) (hk : k + ms.sum ≤ 1073741824) (hn : n ≤ 1048576) {x : Int} (hx : x = k) :
    Calls Try.prog 22 #[.agg #[.slice A n c, .int .i64 id], .int .i64 x] w fun e w' => e = .returned (.int .i64 ((k + ms.sum : Nat) : Int)) ∧ Kept B E w w' := by
  have hb0 := (Below.refl w.heap.size w).alloc (Nat.le_refl _) (.cells #[.slice A n c, .int .i64 id] 42)
  have r0 := Row.new w 42 #[.slice A n c, .int .i64 id]
  have HK0 := Lib.hid (Kept.below (B := B) (E := E) hb0)
  have h0 := h.shape (ShF.keeps 3) HK0.out
  have HM := Lib.hid (hm.below hb0)
  obtain ⟨⟨p0, p1⟩, -⟩ := r0.all2
  clear hb0
  subst hx
  go_enter Try.func22, Try.ntmps22
  go_wp2_with fail
  refine (marksValL A n c ms ok B E k _ h0 HM.out hk hn rfl).mono ?_
  rintro e w1 ⟨rfl, hb1⟩
  go_wp2_with fail
  go_ret
  exact ⟨rfl, HK0.out.trans hb1⟩
theorem keepT2 {w w' : World} {p q : Addr} {a b : Value} (h : w.cell? p = some a ∧ w.cell? q = some b) (hb : Below w.heap.size w w') : w'.cell? p = some a ∧ w'.cell? q = some b := ⟨below_keep hb _ _ h.1, below_keep hb _ _ h.2⟩
theorem ent_len {x : En} (h : x.sz ≤ 1048576) : x.key.length ≤ 1048576 := by
  have h4 : x.sz = szL (fun v : Vl => v.s.size) x.key := rfl
  have h2 : x.key.length ≤ szL (fun v : Vl => v.s.size) x.key := by unfold szL; omega
  omega
theorem ents_len {l : List En} (h : szL En.sz l ≤ 1048576) : ∀ x ∈ l, x.key.length ≤ 1048576 := fun x hx => ent_len (Nat.le_trans (szL_mem En.sz l x hx) h)
theorem ents_marks {l : List En} (h : szL En.sz l ≤ 1048576) : 1 + (l.map En.marks).sum ≤ 1073741824 := by
  have h1 := sum_le_of (f := En.marks) (g := En.sz) 3 (fun x => by
    have h2 : x.key.length ≤ szL (fun v : Vl => v.s.size) x.key := by unfold szL; omega
    have h4 : x.sz = szL (fun v : Vl => v.s.size) x.key := rfl
    unfold En.marks
    omega) l
  omega
theorem KeptL.range {B E : Nat} {w w' : World} (h : Kept B E w w') : KeptL (List.range' B (E - B)) w w' :=
  ⟨h.os, h.tape, h.output, h.size, fun k hk ho => h.block k hk (by
    rw [List.mem_range'_1] at ho
    omega), h.frozen⟩
theorem not_range {B E : Nat} {bs : List Nat} (h : ∀ b ∈ bs, E ≤ b) : ∀ x ∈ bs, x ∉ List.range' B (E - B) := fun x hx hh => by
  have h1 := h x hx
  rw [List.mem_range'_1] at hh
  omega
theorem Sl.keptL {α : Type} {R : Rd α} {sz : Nat} {ok : Nat → Prop} {w w' : World} {A : Option Addr} {n : Nat} {xs : List α} {bs : List Nat} (h : Sl R sz ok w A n xs) (hR : Stays R) (hk : KeptL bs w w') (hd : ∀ b, ok b → b ∉ bs) : Sl R sz ok w' A n xs :=
  h.stays hR (fun _ h => h) fun p v hb hp => hk.far (hd _ hb) hp
theorem Row.keptL {w w' : World} {g : Nat} {T : TypeId} {cs : Array Value} {bs : List Nat} (h : Row w g T cs) (hk : KeptL bs w w') (hg : g ∉ bs) : Row w' g T cs := (hk.block g (lt_of_block h) hg).trans h
end Go.Proofs.Ytlpfpcnafejkoaa
namespace Go.Proofs.Ytlpfpcnafejkoaa
open Go.ChangeShapes Go.WideShapes Go.ChangeAt Go.RowKit Go.Joins Go.Deep
theorem Val_of_trod {H : Type} {enc : TypeId × Value → H} {W : World} {fuel : Nat} {cs : List Value} {x : DataW H × List MemPlace} (h : DataW.trod enc Try.prog W 0 (fun _ => true) true fuel 74 cs = some x) : ∃ d, VlR (fun _ => True) W cs d ∧ d.s.size ≤ maxLen := by
  obtain ⟨k, n, s, rfl, -, -, hs⟩ := val_of_trod Try.underlying74 (by kernel_rfl) ⟨rfl, rfl, rfl⟩ (by kernel_rfl) (by kernel_rfl) (by kernel_rfl) Try.underlying2 Try.underlying2 Try.underlying9 h
  exact ⟨⟨k, n, s⟩, rfl, hs⟩
theorem ValL_of_trod {H : Type} {enc : TypeId × Value → H} {W : World} {fuel : Nat} {x : DataW H × List MemPlace} {a : Option Addr} {len cap : Nat} (h : DataW.trod enc Try.prog W 0 (fun _ => true) true fuel 31 [.slice a len cap] = some x) : ∃ ds : List Vl, Sl VlR 3 (fun _ => True) W a len ds ∧ (ds.length ≤ maxLen ∧ ∀ v ∈ ds, v.s.size ≤ maxLen) :=
  sl_of_trod (R := VlR) (q := fun v : Vl => v.s.size ≤ maxLen) (sz := 3) Try.underlying31 (by kernel_rfl) (by omega) (fun n c y hy => Val_of_trod hy) h
set_option maxRecDepth 100000 in
theorem Entry_of_trod {H : Type} {enc : TypeId × Value → H} {W : World} {fuel : Nat} {cs : List Value} {x : DataW H × List MemPlace} (h : DataW.trod enc Try.prog W 0 (fun _ => true) true fuel 33 cs = some x) : ∃ d, EnR (fun _ => True) W cs d ∧ d.wf := by
  obtain ⟨xs, n, _, _, hl, hlen, hf⟩ := DataW.trod_struct Try.underlying33 h
  rw [show Try.prog.cellsOf 33 = 2 by kernel_rfl] at hl
  match cs, hl, xs, hlen with
  | [c0, c1], _, [y0, y1], _ =>
    have e0 : DataW.trod enc Try.prog W 0 (fun _ => true) true n 31 [c0] = some y0 := by
      have := hf 0 _ rfl
      simpa [show Try.prog.cellsOf 31 = 1 by kernel_rfl] using this
    have e1 : DataW.trod enc Try.prog W 0 (fun _ => true) true n 2 [c1] = some y1 := by
      have := hf 1 _ rfl
      simpa [show Try.prog.cellsOf 2 = 1 by kernel_rfl] using this
    obtain ⟨a0, l0, p0, rfl, hcp0⟩ : ∃ a l p, c0 = .slice a l p ∧ l ≤ p := by
      rcases open_slice Try.underlying31 e0 with ⟨hcs, _⟩ | ⟨ad, l, c, _, _, _, _, hcs, _, hlc, _⟩
      · exact ⟨_, _, _, by simpa using hcs, Nat.le_refl _⟩
      · exact ⟨_, _, _, by simpa using hcs, hlc⟩
    obtain ⟨z0, s0, u0⟩ := ValL_of_trod e0
    obtain ⟨z1, q1, -, -⟩ := DataW.trod_int Try.underlying2 e1
    simp at q1
    subst q1
    exact ⟨⟨z0, z1⟩, ⟨_, _, _, rfl, s0, hcp0⟩, u0⟩
theorem EntryL_of_trod {H : Type} {enc : TypeId × Value → H} {W : World} {fuel : Nat} {x : DataW H × List MemPlace} {a : Option Addr} {len cap : Nat} (h : DataW.trod enc Try.prog W 0 (fun _ => true) true fuel 30 [.slice a len cap] = some x) : ∃ ds : List En, Sl EnR 2 (fun _ => True) W a len ds ∧ (ds.length ≤ maxLen ∧ ∀ y ∈ ds, y.wf) :=
  sl_of_trod (R := EnR) (q := En.wf) (sz := 2) Try.underlying30 (by kernel_rfl) (by omega) (fun n c y hy => Entry_of_trod hy) h
end Go.Proofs.Ytlpfpcnafejkoaa
namespace Go.Proofs.Ytlpfpcnafejkoaa
open Go.RowKit
theorem lawsSzValR (v : Vl) (left : Int) (w : World) (hs : v.s.size ≤ maxLen) (h0 : 0 ≤ left) (h1 : left ≤ 1048576) :
    Calls Try.prog 47 #[.agg #[.int .i64 v.k, .int .i64 v.n, .string v.s], .int .i64 left] w fun e w' => e = .returned (.int .i64 (szR left v.s.size)) ∧ Below w.heap.size w w' :=
  (lawsSzVal v.k v.n v.s left w h0 h1 hs).mono fun e w' ⟨he, hb⟩ => ⟨by rw [he, show szN left v.s = szR left v.s.size by unfold szN szR; split <;> split <;> omega], hb⟩
set_option maxHeartbeats 1000000 in
theorem lawsSzValL (A : Option Addr) (n c : Nat) (l : List Vl) (left : Int) (ok : Nat → Prop) (w : World) (h : Sl VlR 3 ok w A n l) (hwf : (l.length ≤ maxLen ∧ ∀ v ∈ l, v.s.size ≤ maxLen)) (hp0 : 0 ≤ left) (hle : left ≤ 1048576) :
    Calls Try.prog 33 #[.slice A n c, .int .i64 left] w fun e w' => e = .returned (.int .i64 (szR left (szL (fun v : Vl => v.s.size) l))) ∧ Below w.heap.size w w' := by
  obtain rfl : l.length = n := h.1
  obtain ⟨hlen, hall⟩ := hwf
  unfold maxLen at hlen
  have HW := Lib.hid hall
  clear hall
  by_cases hs : left - (l.length : Int) < 0
  · go_enter Try.func33, Try.ntmps33
    go_wp2
    go_ret
    exact ⟨retI (szR_no (by unfold szL; omega)), Below.refl _ _⟩
  have hs' : decide (left - (l.length : Int) < 0) = false := by simpa using hs
  go_enter Try.func33, Try.ntmps33
  go_wp2
  go_loopw [1, 5] (fun m i wr => ∃ (k : Nat) (u : Int), k ≤ l.length ∧ i = .int .i64 k ∧ m = .int .i64 u ∧ 0 ≤ u ∧ u ≤ left ∧ Hid (u = left - l.length - ((l.take k).map (fun v : Vl => v.s.size)).sum) ∧ Below w.heap.size w wr) (fun _ i _ => l.length - (intOf i).toNat)
  case atStart => exact ⟨0, _, by omega, rfl, rfl, by omega, by omega, Lib.hid (by simp), Below.refl _ _⟩
  case round =>
    obtain ⟨k, u, hk, rfl, rfl, hu0, hu1, hu, hb⟩ := hrel
    by_cases hlt : k < l.length
    · obtain ⟨b, off, -, rfl, q0, q1, q2⟩ := VlR.at_ (h.below VlR.stays hb) hlt
      have hx := HW.out _ (List.getElem_mem hlt)
      have hst := sum_take (fun v : Vl => v.s.size) l k hlt
      have hsl := sum_take_le (fun v : Vl => v.s.size) l (k + 1)
      have HST := Lib.hid hst
      have HSL := Lib.hid hsl
      have HX := Lib.hid hx
      clear hst hsl hx
      rcases szR_cases u (l[k].s.size) hu0 with ⟨hno, hv⟩ | ⟨u', hv, hu', hu0', hu1', -⟩
      · go_wp2_with fail
        refine (lawsSzValR l[k] u _ HX.out hu0 (by omega)).mono ?_
        rintro e w1 ⟨rfl, hb1⟩
        rw [hv.out]
        go_wp2_with fail
        go_ret
        exact ⟨retI (szR_no (by have e1 := hu.out; have e2 := HST.out; have e3 := HSL.out; unfold szL; (try simp only at e1 e2 e3 ⊢); omega)), hb.trans (hb1.mono hb.size)⟩
      · go_wp2_with fail
        refine (lawsSzValR l[k] u _ HX.out hu0 (by omega)).mono ?_
        rintro e w1 ⟨rfl, hb1⟩
        rw [hv.out]
        go_wp2_with fail
        go_roundw
        case rel => exact ⟨k + 1, _, by omega, by go_num, rfl, by omega, by omega, Lib.hid (by have e1 := hu.out; have e2 := HST.out; have e3 := hu'.out; (try simp only at e1 e2 e3 ⊢); omega), hb.trans (hb1.mono hb.size)⟩
        case measure => simp [intOf]; omega
    · have e : l.take k = l := List.take_of_length_le (by omega)
      have e1 := hu.out
      rw [e] at e1
      have HU := Lib.hid e1
      clear e1 hu e
      go_wp2
      go_ret
      exact ⟨retI (szR_yes (by omega) (by have e1 := HU.out; unfold szL; omega)), hb⟩
set_option maxRecDepth 100000 in
set_option maxHeartbeats 1000000 in
theorem lawsSzEntry (x : En) (A0 : Option Addr) (n0 c0 : Nat) (left : Int) (ok : Nat → Prop) (w : World) (h0 : Sl VlR 3 ok w A0 n0 x.key) (hwf : x.wf) (hp0 : 0 ≤ left) (hle : left ≤ 1048576) :
    Calls Try.prog 14 #[.agg #[.slice A0 n0 c0, .int .i64 x.id], .int .i64 left] w fun e w' => e = .returned (.int .i64 (szR left x.sz)) ∧ Below w.heap.size w w' := by
  have wf0 := hwf
  have WF0 := Lib.hid wf0
  clear wf0
  have HB := Lib.hid ((Below.refl w.heap.size w).alloc (Nat.le_refl _) (.cells #[.slice A0 n0 c0, .int .i64 x.id] 33))
  have RB := Lib.hid (Row.new w 33 #[.slice A0 n0 c0, .int .i64 x.id])
  go_enter Try.func14, Try.ntmps14
  go_wp2_with fail
  refine (lawsSzValL A0 n0 c0 x.key left ok _ (h0.below VlR.stays HB.out) WF0.out (by omega) (by omega)).mono ?_
  rintro e w1 ⟨rfl, hb1⟩
  have hbb1 := (HB.out).trans (hb1.mono (HB.out).size)
  have RB1 := Lib.hid ((RB.out).below hb1)
  obtain ⟨⟨p1_0, p1_1⟩, -⟩ := RB1.out.all2
  rcases szR_cases left (szL (fun v : Vl => v.s.size) x.key) (by omega) with ⟨hno1, hv1⟩ | ⟨l1, hv1, hl1, h01, h11, -⟩
  · rw [hv1.out]
    go_wp2_with fail
    go_ret
    exact ⟨retI (szR_no (by simp only [En.sz]; omega)), hbb1⟩
  rw [hv1.out]
  go_wp2_with fail
  go_ret
  exact ⟨retI (szR_yes (by omega) (by have := hl1.out; simp only [En.sz]; omega)), hbb1⟩
set_option maxHeartbeats 1000000 in
theorem lawsSzEntryL (A : Option Addr) (n c : Nat) (l : List En) (left : Int) (ok : Nat → Prop) (w : World) (h : Sl EnR 2 ok w A n l) (hwf : (l.length ≤ maxLen ∧ ∀ y ∈ l, y.wf)) (hp0 : 0 ≤ left) (hle : left ≤ 1048576) :
    Calls Try.prog 13 #[.slice A n c, .int .i64 left] w fun e w' => e = .returned (.int .i64 (szR left (szL En.sz l))) ∧ Below w.heap.size w w' := by
  obtain rfl : l.length = n := h.1
  obtain ⟨hlen, hall⟩ := hwf
  unfold maxLen at hlen
  have HW := Lib.hid hall
  clear hall
  by_cases hs : left - (l.length : Int) < 0
  · go_enter Try.func13, Try.ntmps13
    go_wp2
    go_ret
    exact ⟨retI (szR_no (by unfold szL; omega)), Below.refl _ _⟩
  have hs' : decide (left - (l.length : Int) < 0) = false := by simpa using hs
  go_enter Try.func13, Try.ntmps13
  go_wp2
  go_loopw [1, 5] (fun m i wr => ∃ (k : Nat) (u : Int), k ≤ l.length ∧ i = .int .i64 k ∧ m = .int .i64 u ∧ 0 ≤ u ∧ u ≤ left ∧ Hid (u = left - l.length - ((l.take k).map (En.sz)).sum) ∧ Below w.heap.size w wr) (fun _ i _ => l.length - (intOf i).toNat)
  case atStart => exact ⟨0, _, by omega, rfl, rfl, by omega, by omega, Lib.hid (by simp), Below.refl _ _⟩
  case round =>
    obtain ⟨k, u, hk, rfl, rfl, hu0, hu1, hu, hb⟩ := hrel
    by_cases hlt : k < l.length
    · obtain ⟨b, off, A0, n0, c0, -, rfl, q0, q1, s0, -⟩ := EnR.at_ (h.below EnR.stays hb) hlt
      have hx := HW.out _ (List.getElem_mem hlt)
      have hst := sum_take (En.sz) l k hlt
      have hsl := sum_take_le (En.sz) l (k + 1)
      have HST := Lib.hid hst
      have HSL := Lib.hid hsl
      have HX := Lib.hid hx
      clear hst hsl hx
      rcases szR_cases u (l[k].sz) hu0 with ⟨hno, hv⟩ | ⟨u', hv, hu', hu0', hu1', -⟩
      · go_wp2_with fail
        refine (lawsSzEntry l[k] A0 n0 c0 u ok _ s0 HX.out hu0 (by omega)).mono ?_
        rintro e w1 ⟨rfl, hb1⟩
        rw [hv.out]
        go_wp2_with fail
        go_ret
        exact ⟨retI (szR_no (by have e1 := hu.out; have e2 := HST.out; have e3 := HSL.out; unfold szL; (try simp only at e1 e2 e3 ⊢); omega)), hb.trans (hb1.mono hb.size)⟩
      · go_wp2_with fail
        refine (lawsSzEntry l[k] A0 n0 c0 u ok _ s0 HX.out hu0 (by omega)).mono ?_
        rintro e w1 ⟨rfl, hb1⟩
        rw [hv.out]
        go_wp2_with fail
        go_roundw
        case rel => exact ⟨k + 1, _, by omega, by go_num, rfl, by omega, by omega, Lib.hid (by have e1 := hu.out; have e2 := HST.out; have e3 := hu'.out; (try simp only at e1 e2 e3 ⊢); omega), hb.trans (hb1.mono hb.size)⟩
        case measure => simp [intOf]; omega
    · have e : l.take k = l := List.take_of_length_le (by omega)
      have e1 := hu.out
      rw [e] at e1
      have HU := Lib.hid e1
      clear e1 hu e
      go_wp2
      go_ret
      exact ⟨retI (szR_yes (by omega) (by have e1 := HU.out; unfold szL; omega)), hb⟩
end Go.Proofs.Ytlpfpcnafejkoaa
