/-
  An op on files in the model.
-/
import Derived.Test.YtkinegapnknhiaaDiskPut
import Derived.Test.YtkinegapnknhiaaAppAll
namespace Go.Proofs.Ytkinegapnknhiaa
open Go.RowKit
set_option linter.unusedVariables false
set_option linter.unusedSimpArgs false

theorem doF_app {l : List Fz} {o : Oz} (h : o.kind = 1) : doF l o = (putF l o.name ((findF l o.name.toList).elim o.data (· ++ o.data)), true) := by unfold doF; rw [if_pos h]
theorem doF_none {l : List Fz} {o : Oz} (h : o.kind ≠ 1) (hf : findF l o.name.toList = none) : doF l o = (l, false) := by unfold doF; rw [if_neg h, hf]
theorem doF_ren {l : List Fz} {o : Oz} {d : ByteArray} (h : o.kind = 2) (hf : findF l o.name.toList = some d) : doF l o = (putF (cutF l o.name.toList) o.to d, true) := by unfold doF; rw [if_neg (by omega), hf]; simp [h]
theorem doF_rem {l : List Fz} {o : Oz} {d : ByteArray} (h : o.kind ≠ 1) (h2 : o.kind ≠ 2) (hf : findF l o.name.toList = some d) : doF l o = (cutF l o.name.toList, true) := by unfold doF; rw [if_neg h, hf]; simp [h2]
/-- Files that a call has made, and a flag. -/
def MadeZ (base : Nat) (xs : List Fz) (b : Bool) (w : World) (e : Ending) (w' : World) : Prop := ∃ v, e = .returned (.tuple #[v, .bool b]) ∧ OwnZ w' base v xs ∧ Below base w w'
theorem OwnZ.mono {w : World} {base base' : Nat} {v : Value} {xs : List Fz} (h : OwnZ w base v xs) (hb : base' ≤ base) : OwnZ w base' v xs := by
  refine ⟨h.1, ?_⟩
  rcases h.2 with h | ⟨g, cap, cur, rfl, h1, h2⟩
  · exact .inl h
  · exact .inr ⟨g, cap, cur, rfl, Nat.le_trans hb h1, h2⟩

set_option maxRecDepth 100000 in
set_option maxHeartbeats 2000000 in
theorem specDo14 (A : Option Addr) (n c : Nat) (l : List Fz) (o : Oz) (ok : Nat → Prop) (w : World) (h : Sl FzR 2 ok w A n l) (hn : n ≤ 1000000) (hs : bytesF l ≤ 268435456) (ho : o.data.size ≤ 268435456) :
    Calls Try.prog 47 #[.slice A n c, .agg #[.int .i64 o.kind, .string o.name, .string o.to, .string o.data]] w (MadeZ w.heap.size (doF l o).1 (doF l o).2 w) := by
  obtain rfl : l.length = n := h.1
  have hx := (Below.refl w.heap.size w).alloc (Nat.le_refl _) (.cells #[.int .i64 o.kind, .string o.name, .string o.to, .string o.data] 36)
  have rb := Row.new w 36 #[.int .i64 o.kind, .string o.name, .string o.to, .string o.data]
  have HSZ : ∀ d, findF l o.name.toList = some d → d.size ≤ 268435456 := fun d hd => Nat.le_trans (findF_size hd) hs
  go_enter Try.func47, Try.ntmps47
  go_wp2_with fail
  generalize w.alloc (.cells #[.int .i64 o.kind, .string o.name, .string o.to, .string o.data] 36) = z at *
  have hz := h.below FzR.stays hx
  refine (specAt14 A l.length c l o.name _ _ hz (by omega)).mono ?_
  rintro e w1 ⟨⟨r, rfl, hr⟩, rfl⟩
  obtain ⟨⟨p0, p1, p2, p3⟩, -⟩ := rb.all4
  by_cases k1 : o.kind = 1
  · have k1' : (o.kind == 1) = true := by simpa using k1
    have HD := Lib.hid (doF_app (l := l) k1)
    clear k1
    rcases hr with ⟨rfl, hf⟩ | ⟨i, rfl, hi, hf, hnm⟩
    · rw [hf] at HD
      go_wp2_with fail
      refine (specPut14 A l.length c l o.name o.data _ _ hz (by omega)).mono ?_
      rintro e w2 ⟨⟨v, rfl, hv⟩, hb⟩
      have HR := Lib.hid (show MadeZ w.heap.size (doF l o).1 (doF l o).2 w (.returned (.tuple #[v, .bool true])) w2 by
        rw [HD.out]; exact ⟨v, rfl, hv.mono hx.size, hx.trans (hb.mono hx.size)⟩)
      clear hv hb
      go_wp2_with fail
      go_ret2
      exact HR.out
    · obtain ⟨b, off, -, rfl, q0, q1⟩ := FzR.at_ hz hi
      rw [hf] at HD
      have i0 : (0 : Int) ≤ i := by omega
      have i1 : (i : Int) < l.length := by omega
      have hsz : l[i].data.size + o.data.size ≤ 9223372036854775807 := by have := HSZ _ hf; omega
      have HSZ := Lib.hid HSZ
      go_wp2_with fail
      refine (specPut14 _ l.length c l o.name (l[i].data ++ o.data) _ _ hz (by omega)).mono ?_
      rintro e w2 ⟨⟨v, rfl, hv⟩, hb⟩
      have HR := Lib.hid (show MadeZ w.heap.size (doF l o).1 (doF l o).2 w (.returned (.tuple #[v, .bool true])) w2 by
        rw [HD.out]; exact ⟨v, rfl, hv.mono hx.size, hx.trans (hb.mono hx.size)⟩)
      clear hv hb
      go_wp2_with fail
      go_ret2
      exact HR.out
  · have k1' : (o.kind == 1) = false := by simpa using k1
    rcases hr with ⟨rfl, hf⟩ | ⟨i, rfl, hi, hf, hnm⟩
    · have HD := Lib.hid (doF_none k1 hf)
      obtain ⟨i0, hi, hz0, hz1, hz2⟩ := info_parts infoFileT
      have H1 := Lib.hid hi
      have H2 := Lib.hid hz0
      have H3 := Lib.hid hz1
      have H4 := Lib.hid hz2
      clear hi hz0 hz1 hz2
      have ho0 := Lib.hid (OwnG.lit (T := 75) (sz := 2) (f := Fz.cells) w1 (Nat.le_refl w1.heap.size))
      have hs2 := hz.below FzR.stays ((Below.refl w1.heap.size w1).alloc (Nat.le_refl _) (.cells #[] 75))
      have HX2 := Lib.hid (hx.alloc hx.size (.cells #[] 75))
      have HSZ := Lib.hid HSZ
      clear k1 hf
      go_wp2_with (at_builtin; refine wpList_app_all rfl _ _ 24 rfl fz_cells ?c1 (by omega) Try.underlying24 H1.out H2.out H3.out H4.out rfl _ rfl ho0.out (by simp) rfl hs2 (by omega) (by omega) ?_)
      case c1 => intro x u hu; simp [Fz.cells] at hu; rcases hu with rfl | rfl <;> rfl
      intro v9 w9 hown9 hgrow9 hloc9
      have HR := Lib.hid (show MadeZ w.heap.size (doF l o).1 (doF l o).2 w (.returned (.tuple #[v9, .bool false])) w9 by
        rw [HD.out]; exact ⟨v9, rfl, (show OwnZ _ _ _ _ from hown9).mono hx.size, HX2.out.grown hgrow9 (by have := hx.size; simp; omega) (fun k hk => Nat.le_trans hx.size (OwnG.block_lt ho0.out k hk).1)⟩)
      clear hown9 hgrow9 hloc9
      go_wp2_with fail
      go_ret2
      exact HR.out
    · obtain ⟨b, off, -, rfl, q0, q1⟩ := FzR.at_ h hi
      have i0 : (0 : Int) ≤ i := by omega
      have i0' : decide ((i : Int) < 0) = false := decide_eq_false (by omega)
      have i1 : (i : Int) < l.length := by omega
      have HSZ := Lib.hid HSZ
      by_cases k2 : o.kind = 2
      · have HD := Lib.hid (doF_ren k2 hf)
        have k2' : (o.kind == 2) = true := by simpa using k2
        clear k1 k2
        go_wp2_with fail
        refine (specCut14 _ l.length c l o.name _ _ hz (by omega)).mono ?_
        rintro e w2 ⟨⟨v, rfl, hv⟩, hb⟩
        have rb2 := rb.below hb
        have hx2 := hx.trans (hb.mono hx.size)
        obtain ⟨AC, cC, rfl, -, -, hc⟩ := hv.sl
        have hcl := (cutF_bytes l o.name.toList).2
        have q1' := below_keep hx2 _ _ q1
        obtain ⟨⟨r0, r1, r2, r3⟩, -⟩ := rb2.all4
        have HCL := Lib.hid hcl
        clear p0 p1 p2 p3 hcl
        go_wp2_with fail
        go_region_held3 (fun w' => w'.cell? ⟨w.heap.size, 2, none⟩ = some (.string o.to) ∧ w'.cell? ⟨b, off + i * 2 + 1, none⟩ = some (.string l[i].data))
          (first | go_keep | exact keepE2 (by assumption) hb3)
          (first | (go_at_call 83; refine (specPut14 AC (cutF l o.name.toList).length cC (cutF l o.name.toList) o.to l[i].data _ _ (hc.drew FzR.stays) (by have := HCL.out; omega)).mono ?_; rintro e w3 ⟨⟨v3, rfl, hv3⟩, hb3⟩))
        have HR := Lib.hid (show MadeZ w.heap.size (doF l o).1 (doF l o).2 w (.returned (.tuple #[v3, .bool true])) w3 by
          rw [HD.out]; exact ⟨v3, rfl, hv3.mono hx2.size, (hx2.drew).trans (hb3.mono hx2.size)⟩)
        clear hv3 hb3
        go_wp2_with fail
        go_ret2
        exact HR.out
      · have HD := Lib.hid (doF_rem k1 k2 hf)
        have k2' : (o.kind == 2) = false := by simpa using k2
        clear k1 k2
        go_wp2_with fail
        refine (specCut14 _ l.length c l o.name _ _ hz (by omega)).mono ?_
        rintro e w2 ⟨⟨v, rfl, hv⟩, hb⟩
        have rb2 := rb.below hb
        obtain ⟨⟨r0, r1, r2, r3⟩, -⟩ := rb2.all4
        have HR := Lib.hid (show MadeZ w.heap.size (doF l o).1 (doF l o).2 w (.returned (.tuple #[v, .bool true])) w2 by
          rw [HD.out]; exact ⟨v, rfl, hv.mono hx.size, hx.trans (hb.mono hx.size)⟩)
        clear p0 p1 p2 p3 hv hb
        go_wp2_with fail
        go_ret2
        exact HR.out
end Go.Proofs.Ytkinegapnknhiaa
