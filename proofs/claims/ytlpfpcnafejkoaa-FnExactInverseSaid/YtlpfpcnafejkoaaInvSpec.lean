/-
  Changes turned round: the model's Inverse.
-/
import Derived.Test.YtlpfpcnafejkoaaOwnCh
import Derived.Test.YtlpfpcnafejkoaaOwnCopyV
namespace Go.Proofs.Ytlpfpcnafejkoaa
open Go.RowKit
set_option linter.unusedVariables false
set_option linter.unusedSimpArgs false

theorem keepQ4 {w w' : World} {p q r s : Addr} {a b c d : Value} (h : w.cell? p = some a ∧ w.cell? q = some b ∧ w.cell? r = some c ∧ w.cell? s = some d) (hb : Below w.heap.size w w') : w'.cell? p = some a ∧ w'.cell? q = some b ∧ w'.cell? r = some c ∧ w'.cell? s = some d :=
  ⟨below_keep hb _ _ h.1, below_keep hb _ _ h.2.1, below_keep hb _ _ h.2.2.1, below_keep hb _ _ h.2.2.2⟩
def flipC (x : Ch) : Ch := ⟨x.table, x.id, x.now, x.old⟩
def invB (l : List Ch) : List Ch := (l.map flipC).reverse
theorem invB_drop {l : List Ch} {k : Nat} (h : k < l.length) : invB (l.drop k) = invB (l.drop (k + 1)) ++ [flipC l[k]] := by
  unfold invB
  rw [List.drop_eq_getElem_cons h, List.map_cons, List.reverse_cons]
theorem invB_len (l : List Ch) : (invB l).length = l.length := by simp [invB]
theorem invB_cons (x : Ch) (l : List Ch) : invB (x :: l) = invB l ++ [flipC x] := by simp [invB]
theorem invB_sum : ∀ l : List Ch, ((invB l).map Ch.sz).sum = (l.map Ch.sz).sum
  | [] => rfl
  | x :: l => by
    rw [invB_cons, List.map_append, List.sum_append, invB_sum l, List.map_cons, List.sum_cons]
    simp only [List.map_cons, List.map_nil, List.sum_cons, List.sum_nil]
    have : (flipC x).sz = x.sz := by unfold Ch.sz flipC; simp only; omega
    omega
theorem invB_sz {l : List Ch} (h : szL Ch.sz l ≤ 1048576) : szL Ch.sz (invB l) ≤ 1048576 := by
  unfold szL at *
  rw [invB_sum, invB_len]
  exact h
theorem chs_len {l : List Ch} (h : szL Ch.sz l ≤ 1048576) : ∀ x ∈ l, x.old.length ≤ 1048576 ∧ x.now.length ≤ 1048576 := fun x hx => by
  have h1 := szL_mem Ch.sz l x hx
  have h4 : x.sz = szL (fun v : Vl => v.s.size) x.old + szL (fun v : Vl => v.s.size) x.now := rfl
  have h2 : x.old.length ≤ szL (fun v : Vl => v.s.size) x.old := by unfold szL; omega
  have h3 : x.now.length ≤ szL (fun v : Vl => v.s.size) x.now := by unfold szL; omega
  exact ⟨by omega, by omega⟩
theorem chs_marks {l : List Ch} (h : szL Ch.sz l ≤ 1048576) : 1 + (l.map Ch.marks).sum ≤ 1073741824 := by
  have h1 := sum_le_of (f := Ch.marks) (g := Ch.sz) 3 (fun x => by
    have h2 : x.old.length ≤ szL (fun v : Vl => v.s.size) x.old := by unfold szL; omega
    have h3 : x.now.length ≤ szL (fun v : Vl => v.s.size) x.now := by unfold szL; omega
    unfold Ch.marks Ch.sz
    omega) l
  omega
/-- A change made of two lists, the second one made behind the first. -/
theorem ChO.two {w1 w2 : World} {b1 base : Nat} {v1 v2 : Value} {x : Ch} (h1 : OwnK w1 b1 v1 x.old) (h2 : OwnK w2 w1.heap.size v2 x.now) (hb : Below w1.heap.size w1 w2) (hb1 : base ≤ b1) (hs : b1 ≤ w1.heap.size) :
    ChO w2 base [.int .i64 x.table, .int .i64 x.id, v1, v2] x (blk v1 ++ blk v2) ∧ ∀ b ∈ blk v1 ++ blk v2, b1 ≤ b := by
  have e1 : ∀ b ∈ blk v1, b1 ≤ b ∧ b < w1.heap.size := fun b hb' => OwnG.block_lt h1 b (by simpa [blk] using hb')
  have e2 : ∀ b ∈ blk v2, w1.heap.size ≤ b ∧ b < w2.heap.size := fun b hb' => OwnG.block_lt h2 b (by simpa [blk] using hb')
  refine ⟨⟨v1, v2, rfl, (OwnK.below h1 hb).lower hb1, h2.lower (by omega), rfl, List.nodup_append.2 ⟨nodup_blkN v1, nodup_blkN v2, fun a ha b hb' => ?_⟩⟩, fun b hb' => ?_⟩
  · have := (e1 a ha).2
    have := (e2 b hb').1
    omega
  · rcases List.mem_append.1 hb' with h | h
    · exact (e1 b h).1
    · have := (e2 b h).1
      omega

set_option maxRecDepth 100000 in
set_option maxHeartbeats 4000000 in
theorem specInverse (A : Option Addr) (n c : Nat) (l : List Ch) (ok : Nat → Prop) (w : World) (h : Sl ChR 4 ok w A n l) (hk : ∀ x ∈ l, x.old.length ≤ 1048576 ∧ x.now.length ≤ 1048576) (hl : n ≤ 1048576) :
    Calls Try.prog 7 #[.slice A n c] w fun e w' => ∃ v', e = .returned v' ∧ OwnC w' w.heap.size v' (invB l) ∧ Below w.heap.size w w' := by
  obtain ⟨i0, hi, hz0, hz1, hz2⟩ := info_parts infoChC
  have H1 := Lib.hid hi
  have H2 := Lib.hid hz0
  have H3 := Lib.hid hz1
  have H4 := Lib.hid hz2
  clear hi hz0 hz1 hz2
  obtain rfl : l.length = n := h.1
  have HK := Lib.hid hk
  clear hk
  have hb0 := (Below.refl w.heap.size w).alloc (Nat.le_refl _) (.cells #[] 53)
  have ho0 := Lib.hid (show OwnC _ w.heap.size _ [] from OwnL.lit (E := ChO) (T := 53) (sz := 4) w (Nat.le_refl w.heap.size))
  go_enter Try.func7, Try.ntmps7
  go_wp2_with fail
  generalize w.alloc (.cells #[] 53) = z0 at *
  go_loopw [3, 4] (fun v i wr => ∃ (k : Nat) (x : Int), k ≤ l.length ∧ i = .int .i64 x ∧ Hid (x = (k : Int) - 1) ∧ Hid (OwnC wr w.heap.size v (invB (l.drop k))) ∧ Below w.heap.size w wr) (fun _ i _ => (intOf i + 1).toNat)
  case atStart => exact ⟨l.length, _, Nat.le_refl _, rfl, Lib.hid rfl, by rw [List.drop_length]; exact ho0, hb0⟩
  case round =>
    clear hb0 ho0
    obtain ⟨k0, x, hk, rfl, hx, hown, hb⟩ := hrel
    rcases Nat.eq_zero_or_pos k0 with rfl | hpos
    · obtain rfl : x = -1 := by have := hx.out; omega
      clear hx
      go_wp2_with fail
      go_ret
      exact ⟨_, rfl, by simpa using hown.out, hb⟩
    · obtain ⟨k, rfl⟩ : ∃ k, k0 = k + 1 := ⟨k0 - 1, by omega⟩
      obtain rfl : x = (k : Int) := by have := hx.out; omega
      clear hx hpos
      have hlt : k < l.length := by omega
      obtain ⟨b, off, A1, n1, c1, A2, n2, c2, -, rfl, q0', q1', q2', q3', hky1', hky2', -⟩ := ChR.at_ h hlt
      have q0 := below_keep hb _ _ q0'
      have q1 := below_keep hb _ _ q1'
      have q2 := below_keep hb _ _ q2'
      have q3 := below_keep hb _ _ q3'
      have hky1 := hky1'.below VlR.stays hb
      have hky2 := hky2'.below VlR.stays hb
      clear hky1' hky2'
      have i0' : (0 : Int) ≤ k := by omega
      have i1 : (k : Int) < l.length := by omega
      have HKL := Lib.hid (HK.out l[k] (List.getElem_mem hlt))
      have HT := Lib.hid (invB_drop hlt)
      have HLK := Lib.hid (show (invB (l.drop (k + 1))).length ≤ 1048576 by rw [invB_len, List.length_drop]; omega)
      generalize hxs : invB (l.drop (k + 1)) = xs at *
      generalize hek : l[k] = e at *
      have Q0 := Lib.hid q0'
      have Q1 := Lib.hid q1'
      have Q2 := Lib.hid q2'
      have Q3 := Lib.hid q3'
      clear q0' q1' q2' q3'
      obtain ⟨css, bss, hO⟩ := hown.out
      have HO := Lib.hid (hO.below ChO.good (Below.refl _ wr).drew)
      have hkd1 : Sl VlR 3 ok wr.drew A1 n1 e.old := hky1.stays VlR.stays (fun _ h => h) (fun p v _ h => h)
      have hkd2 : Sl VlR 3 ok wr.drew A2 n2 e.now := hky2.stays VlR.stays (fun _ h => h) (fun p v _ h => h)
      have hn1 : n1 ≤ 1073741824 := by have := hky1.1; have := HKL.out; omega
      have hn2 : n2 ≤ 1073741824 := by have := hky2.1; have := HKL.out; omega
      clear hO hown hxs hek hky1 hky2
      go_wp2_with fail
      go_region_held3 (fun w' => w'.cell? ⟨b, off + k * 4, none⟩ = some (.int .i64 e.table) ∧ w'.cell? ⟨b, off + k * 4 + 1, none⟩ = some (.int .i64 e.id) ∧ w'.cell? ⟨b, off + k * 4 + 2, none⟩ = some (.slice A1 n1 c1) ∧ w'.cell? ⟨b, off + k * 4 + 3, none⟩ = some (.slice A2 n2 c2))
        (first | go_keep | exact ⟨below_keep hB9 _ _ Q0.out, below_keep hB9 _ _ Q1.out, below_keep hB9 _ _ Q2.out, below_keep hB9 _ _ Q3.out⟩ | exact keepQ4 (by assumption) hb2 | exact keepQ4 (by assumption) hb1)
        (first
          | (go_at_call_of 27 (Value.slice A2 n2 c2); refine (specCopyVals A2 n2 c2 e.now _ _ hkd2 hn2).mono ?_; rintro e1 w1 ⟨v1, rfl, hk1, hb1⟩; obtain ⟨B2, d2, rfl⟩ := hk1.shape; have hke1 := hkd1.below VlR.stays hb1; have HO1 := HO.out.below ChO.good hb1)
          | (go_at_call_of 27 (Value.slice A1 n1 c1); refine (specCopyVals A1 n1 c1 e.old _ _ hke1 hn1).mono ?_; rintro e2 w2 ⟨v2, rfl, hk2, hb2⟩; obtain ⟨B1, d1, rfl⟩ := hk2.shape; have HO2 := HO1.below ChO.good hb2)
          | (refine wp_append_own _ _ _ 24 rfl w.heap.size 53 i0 (.agg #[.int .i64 0, .int .i64 0, .slice none 0 0, .slice none 0 0]) 4 64 Try.underlying24 H1.out H2.out H3.out H4.out rfl (by decide) _ _ _ rfl (World.ownsRow.alloc HO2.row _) ⟨_, 0, none⟩ 1 1 [.int .i64 e.table, .int .i64 e.id, .slice B2 e.now.length d2, .slice B1 e.old.length d1] rfl rfl (cells_newAt _ [.int .i64 e.table, .int .i64 e.id, .slice B2 e.now.length d2, .slice B1 e.old.length d1] _ (by simp)) (by intro u hu; simp at hu; rcases hu with rfl | rfl | rfl | rfl; rfl; rfl; exact hk1.one; exact hk2.one) (by have := HLK.out; unfold maxLen; omega) (by have := HLK.out; omega) (by have h1 := hb.size; have h2 := hb1.size; have h3 := hb2.size; simp at h1 h2 h3 ⊢; omega) ?_; intro v9 w9 hown9 hgrow9 _; have hB9 : Below w.heap.size w w9 := (((hb.drew.trans (hb1.mono hb.size)).trans (hb2.mono (by have h1 := hb.size; have h2 := hb1.size; simp at h1 h2 ⊢; omega))).alloc (by have h1 := hb.size; have h2 := hb1.size; have h3 := hb2.size; simp at h1 h2 h3 ⊢; omega) _).grown hgrow9 (by have h1 := hb.size; have h2 := hb1.size; have h3 := hb2.size; simp at h1 h2 h3 ⊢; omega) (fun k hk => (World.ownsRow.lt HO2.row k hk).1); have hE := ChO.two (x := flipC e) (base := w.heap.size) hk1 hk2 hb2 (by have h1 := hb.size; simp at h1 ⊢; omega) hb1.size; have HO9 := OwnN.app ChO.good ChO.out (x := flipC e) HO2 hE.1 (HO.out.fresh ChO.good hE.2) hown9 hgrow9))
      have HE9 := Lib.hid (show OwnC w9 w.heap.size v9 (invB (l.drop k)) by rw [HT.out]; exact ⟨_, _, HO9⟩)
      clear hown9 hgrow9 HO9 HO1 HO2
      go_wp2_with fail
      go_roundw
      case rel => exact ⟨k, _, by omega, rfl, Lib.hid rfl, HE9, hB9⟩
      case measure => simp [intOf] <;> omega

end Go.Proofs.Ytlpfpcnafejkoaa
