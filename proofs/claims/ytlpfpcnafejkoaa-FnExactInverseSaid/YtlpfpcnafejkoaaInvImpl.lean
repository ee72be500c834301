/-
  Changes turned round: the program's Inverse.
-/
import Derived.Test.YtlpfpcnafejkoaaInvSpec
import Derived.Test.YtlpfpcnafejkoaaImplCopyV
namespace Go.Proofs.Ytlpfpcnafejkoaa
open Go.RowKit
set_option linter.unusedVariables false
set_option linter.unusedSimpArgs false

/-- What lies in the answer when k changes have been turned round. -/
def invA (l : List Ch) (k : Nat) : List Ch := List.replicate (l.length - k) ⟨0, 0, [], []⟩ ++ ((l.take k).map flipC).reverse
theorem invA_zero (l : List Ch) : invA l 0 = List.replicate l.length ⟨0, 0, [], []⟩ := by simp [invA]
theorem invA_end (l : List Ch) : invA l l.length = invB l := by simp [invA, invB]
theorem invA_len {l : List Ch} {k : Nat} (h : k ≤ l.length) : (invA l k).length = l.length := by simp [invA]; omega
theorem invA_set {l : List Ch} {k j : Nat} (h : k < l.length) (hj : j + k + 1 = l.length) : (invA l k).set j (flipC l[k]) = invA l (k + 1) := by
  unfold invA
  have e1 : l.length - k = j + 1 := by omega
  have e2 : l.length - (k + 1) = j := by omega
  rw [e1, e2, List.take_succ_eq_append_getElem h, List.map_append, List.reverse_append, List.replicate_succ', List.append_assoc, List.set_append_right _ _ (by simp)]
  simp
/-- The cells of one place of a list whose elements have four. -/
theorem OwnL.four {w : World} {base g n c : Nat} {xs : List Ch} (h : OwnC w base (.slice (some ⟨g, 0, none⟩) n c) xs) {j : Nat} (hj : j < xs.length) :
    ∃ a b d e, w.cell? ⟨g, j * 4, none⟩ = some a ∧ w.cell? ⟨g, j * 4 + 1, none⟩ = some b ∧ w.cell? ⟨g, j * 4 + 2, none⟩ = some d ∧ w.cell? ⟨g, j * 4 + 3, none⟩ = some e ∧ (∀ o, w.frozen? ⟨g, o, none⟩ = false) ∧ n = xs.length ∧ base ≤ g ∧ g < w.heap.size := by
  obtain ⟨css, bss, h⟩ := h
  rcases h.cells ChO.good with ⟨e, rfl⟩ | ⟨g', c', e, h1, h2, h3, h4, h5, h6⟩
  · simp at hj
  · simp only [Value.slice.injEq, Option.some.injEq, Addr.mk.injEq, and_true, true_and] at e
    obtain ⟨rfl, rfl, rfl⟩ := e
    obtain ⟨h7, h8⟩ := h6 j hj
    match hq : css.getD j [], h7 with
    | [a, b, d, e], _ =>
      rw [hq, Nat.zero_add] at h8
      exact ⟨a, b, d, e, h8 0 _ rfl, h8 1 _ rfl, h8 2 _ rfl, h8 3 _ rfl, h5, rfl, h3, h4⟩

theorem S4_set {w : World} {g g' o : Nat} {u a b c d : Value} (hne : g ≠ g') (h : w.cell? ⟨g, 0, none⟩ = some a ∧ w.cell? ⟨g, 1, none⟩ = some b ∧ w.cell? ⟨g, 2, none⟩ = some c ∧ w.cell? ⟨g, 3, none⟩ = some d) :
    (w.setCell ⟨g', o, none⟩ u).cell? ⟨g, 0, none⟩ = some a ∧ (w.setCell ⟨g', o, none⟩ u).cell? ⟨g, 1, none⟩ = some b ∧ (w.setCell ⟨g', o, none⟩ u).cell? ⟨g, 2, none⟩ = some c ∧ (w.setCell ⟨g', o, none⟩ u).cell? ⟨g, 3, none⟩ = some d := by
  refine ⟨?_, ?_, ?_, ?_⟩ <;> (rw [World.cell?_setCell_other _ _ _ _ (by intro hh; simp only [Addr.mk.injEq] at hh; exact hne hh.1.symm)])
  · exact h.1
  · exact h.2.1
  · exact h.2.2.1
  · exact h.2.2.2

set_option maxRecDepth 100000 in
set_option maxHeartbeats 4000000 in
theorem implInverse (A : Option Addr) (n c : Nat) (l : List Ch) (ok : Nat → Prop) (w : World) (h : Sl ChR 4 ok w A n l) (hk : ∀ x ∈ l, x.old.length ≤ 1048576 ∧ x.now.length ≤ 1048576) (hl : n ≤ 1048576) :
    Calls Try.prog 9 #[.slice A n c] w fun e w' => ∃ v', e = .returned v' ∧ OwnC w' w.heap.size v' (invB l) ∧ Below w.heap.size w w' := by
  obtain rfl : l.length = n := h.1
  have HK := Lib.hid hk
  clear hk
  have hmk := fun w => mk_rows (P := Try.prog) Try.underlying24 infoChC (by omega) l.length hl w
  have ho0 := Lib.hid (OwnL.made (E := ChO) (T := 53) (sz := 4) w (Nat.le_refl w.heap.size) l.length #[.int .i64 0, .int .i64 0, .slice none 0 0, .slice none 0 0] (by simp) rfl ⟨0, 0, [], []⟩ (fun w => ⟨_, _, rfl, OwnG.nil _ _, OwnG.nil _ _, rfl, by simp [blk, Value.ownBlock]⟩) (by unfold maxLen; omega))
  have hb0 := (Below.refl w.heap.size w).alloc (Nat.le_refl _) (.cells (madeCells #[.int .i64 0, .int .i64 0, .slice none 0 0, .slice none 0 0] (l.length * 4)) 53)
  go_enter Try.func9, Try.ntmps9
  go_wp2_with fail
  generalize w.alloc (.cells (madeCells #[.int .i64 0, .int .i64 0, .slice none 0 0, .slice none 0 0] (l.length * 4)) 53) = z0 at *
  clear hmk
  have HO0 := Lib.hid (show OwnC z0 w.heap.size (.slice (some ⟨w.heap.size, 0, none⟩) l.length l.length) (invA l 0) by rw [invA_zero]; exact ho0.out)
  clear ho0
  go_loopw [11] (fun i wr => ∃ (k : Nat), k ≤ l.length ∧ i = .int .i64 k ∧ Hid (OwnC wr w.heap.size (.slice (some ⟨w.heap.size, 0, none⟩) l.length l.length) (invA l k)) ∧ Below w.heap.size w wr) (fun i _ => l.length - (intOf i).toNat)
  case atStart => exact ⟨0, by omega, rfl, HO0, hb0⟩
  case round =>
    clear hb0 HO0
    obtain ⟨k, hk, rfl, hown, hb⟩ := hrel
    by_cases hlt : k < l.length
    · obtain ⟨b, off, A1, n1, c1, A2, n2, c2, -, rfl, q0', q1', q2', q3', hky1', hky2', -⟩ := ChR.at_ h hlt
      have q0 := below_keep hb _ _ q0'
      have q1 := below_keep hb _ _ q1'
      have q2 := below_keep hb _ _ q2'
      have q3 := below_keep hb _ _ q3'
      have hky1 := hky1'.below VlR.stays hb
      have hky2 := hky2'.below VlR.stays hb
      clear hky1' hky2' q0' q1' q2' q3'
      have i0' : (0 : Int) ≤ k := by omega
      have i1 : (k : Int) < l.length := by omega
      obtain ⟨j, hj⟩ : ∃ j, j + k + 1 = l.length := ⟨l.length - k - 1, by omega⟩
      have hw1 : IntKind.i64.wrap ((l.length : Int) - 1) = (l.length : Int) - 1 := IntWalk.i64_in _ (by omega)
      have hw2 : IntKind.i64.wrap ((l.length : Int) - 1 - k) = (j : Int) := by rw [show (l.length : Int) - 1 - k = j by omega]; exact IntWalk.i64_in _ (by omega)
      have j0 : (0 : Int) ≤ j := by omega
      have j1 : (j : Int) < l.length := by omega
      have HKL := Lib.hid (HK.out l[k] (List.getElem_mem hlt))
      have HT := Lib.hid (invA_set hlt hj)
      have HXL := Lib.hid (invA_len (l := l) (k := k) (by omega))
      generalize hxs : invA l k = xs at *
      generalize hek : l[k] = e at *
      clear hxs hek
      have rb := Row.new wr 53 #[.int .i64 e.table, .int .i64 e.id, .slice A1 n1 c1, .slice A2 n2 c2]
      have hal := (Below.refl wr.heap.size wr).alloc (Nat.le_refl _) (.cells #[.int .i64 e.table, .int .i64 e.id, .slice A1 n1 c1, .slice A2 n2 c2] 53)
      go_wp2_with fail
      generalize wr.alloc (.cells #[.int .i64 e.table, .int .i64 e.id, .slice A1 n1 c1, .slice A2 n2 c2] 53) = z1 at *
      have hbz := hb.trans (hal.mono hb.size)
      have HO := Lib.hid ((OwnL.below ChO.good hown.out hal).below ChO.good (Below.refl _ z1).drew)
      have hkd1 : Sl VlR 3 ok z1.drew A1 n1 e.old := (hky1.below VlR.stays hal).stays VlR.stays (fun _ h => h) (fun p v _ h => h)
      have hkd2 : Sl VlR 3 ok z1.drew A2 n2 e.now := (hky2.below VlR.stays hal).stays VlR.stays (fun _ h => h) (fun p v _ h => h)
      have hn1 : n1 ≤ 1073741824 := by have := hky1.1; have := HKL.out; omega
      have hn2 : n2 ≤ 1073741824 := by have := hky2.1; have := HKL.out; omega
      obtain ⟨⟨p0, p1, p2, p3⟩, -⟩ := rb.all4
      have HBZ := Lib.hid hbz
      have hne : wr.heap.size ≠ w.heap.size := by
        obtain ⟨-, -, -, -, -, -, -, -, -, -, -, h9⟩ := hown.out.four (j := j) (by rw [HXL.out]; omega)
        omega
      have hjx : j < xs.length := by rw [HXL.out]; omega
      clear hown hky1 hky2 q0 q1 q2 q3 rb hal hbz hb
      go_region_held3 (fun w' => w'.cell? ⟨wr.heap.size, 0, none⟩ = some (.int .i64 e.table) ∧ w'.cell? ⟨wr.heap.size, 1, none⟩ = some (.int .i64 e.id) ∧ w'.cell? ⟨wr.heap.size, 2, none⟩ = some (.slice A1 n1 c1) ∧ w'.cell? ⟨wr.heap.size, 3, none⟩ = some (.slice A2 n2 c2))
        (first | go_keep | exact keepQ4 (by assumption) hb2 | exact keepQ4 (by assumption) hb1 | ((with_reducible refine S4_set hne (S4_set hne (S4_set hne (S4_set hne ?_)))); assumption))
        (first
          | (go_at_call_of 29 (Value.slice A2 n2 c2); refine (implCloneVals A2 n2 c2 e.now _ _ hkd2 hn2).mono ?_; rintro e1 w1 ⟨v1, rfl, hk1, hb1⟩; obtain ⟨B2, d2, rfl⟩ := hk1.shape; have hke1 := hkd1.below VlR.stays hb1; have HO1 := HO.out.below ChO.good hb1)
          | (go_at_call_of 29 (Value.slice A1 n1 c1); refine (implCloneVals A1 n1 c1 e.old _ _ hke1 hn1).mono ?_; rintro e2 w2 ⟨v2, rfl, hk2, hb2⟩; obtain ⟨B1, d1, rfl⟩ := hk2.shape; have HO2 := HO1.below ChO.good hb2; obtain ⟨ya, yb, yd, ye, y0, y1, y2, y3, hfr, -, hg1, hg2⟩ := HO2.four hjx; have f0 := hfr (j * 4); have f1 := hfr (j * 4 + 1); have f2 := hfr (j * 4 + 2); have f3 := hfr (j * 4 + 3)))
      have hE := ChO.two (x := flipC e) (base := w.heap.size) hk1 hk2 hb2 (by have h1 := HBZ.out.size; simpa using h1) hb1.size
      obtain ⟨css, bss, hO⟩ := HO.out
      have hO2 := (hO.below ChO.good hb1).below ChO.good hb2
      have hS := OwnN.set ChO.good ChO.out (by omega) hO2 HXL.out.symm hE.1 (hO.fresh ChO.good hE.2) hjx
      have HE9 := Lib.hid (show OwnC (setCells w2 w.heap.size (j * 4) [.int .i64 e.table, .int .i64 e.id, .slice B2 e.now.length d2, .slice B1 e.old.length d1]) w.heap.size (.slice (some ⟨w.heap.size, 0, none⟩) l.length l.length) (invA l (k + 1)) by rw [← HT.out]; exact ⟨_, _, hS⟩)
      have hB2 : Below w.heap.size w w2 := (HBZ.out.drew.trans (hb1.mono (by have h1 := HBZ.out.size; simpa using h1))).trans (hb2.mono (by have h1 := HBZ.out.size; have h2 := hb1.size; simp at h1 h2 ⊢; omega))
      have HB9 := Lib.hid (show Below w.heap.size w (setCells w2 w.heap.size (j * 4) [.int .i64 e.table, .int .i64 e.id, .slice B2 e.now.length d2, .slice B1 e.old.length d1]) from Below.setCells (Nat.le_refl _) _ _ _ hB2)
      clear hE hO hO2 hS hB2 HO1 HO2
      go_wp2_with fail
      go_roundw
      case rel => exact ⟨k + 1, by omega, by go_num, HE9, HB9.out⟩
      case measure => simp [intOf]; omega
    · obtain rfl : k = l.length := by omega
      go_wp2_with fail
      go_ret
      exact ⟨_, rfl, by rw [← invA_end]; exact hown.out, hb⟩

end Go.Proofs.Ytlpfpcnafejkoaa
