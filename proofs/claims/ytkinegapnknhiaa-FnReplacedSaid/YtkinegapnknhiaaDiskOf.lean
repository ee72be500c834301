/-
  A map of files out of a list, in the program.
-/
import Derived.Test.YtkinegapnknhiaaDiskFilesDo
namespace Go.Proofs.Ytkinegapnknhiaa
open Go.RowKit Go.Maps
set_option linter.unusedVariables false
set_option linter.unusedSimpArgs false

theorem putF_last : ∀ {m : List Fz} {n d : ByteArray}, (∀ x ∈ m, x.nm < n.toList) → putF m n d = m ++ [⟨n, d⟩]
  | [], n, d, _ => rfl
  | x :: r, n, d, h => by
    rw [putF_cons, if_pos (h x (by simp)), putF_last fun y hy => h y (by simp [hy])]; rfl
theorem putF_take {l : List Fz} (hs : SortedF l) {k : Nat} (h : k < l.length) : putF (l.take k) l[k].name l[k].data = l.take (k + 1) := by
  rw [putF_last, List.take_succ_eq_append_getElem h]
  intro x hx
  obtain ⟨i, hi, rfl⟩ := List.getElem_of_mem hx
  rw [List.getElem_take]
  have hik : i < k := by rw [List.length_take] at hi; omega
  exact List.pairwise_iff_getElem.1 hs i k (by omega) h hik

set_option maxRecDepth 100000 in
set_option maxHeartbeats 1000000 in
theorem implFilesOf (A : Option Addr) (n c : Nat) (l : List Fz) (ok : Nat → Prop) (w : World) (h : Sl FzR 2 ok w A n l) (hs : filesB l = true) :
    Calls Try.prog 42 #[.slice A n c] w fun e w' => e = .returned (.map (some w.heap.size)) ∧ FilesAt w' (w.heap.size + 1) w.heap.size l ∧ Below w.heap.size w w' := by
  obtain rfl : l.length = n := h.1
  have hb0 := filesB_bytes hs
  have hsrt := filesB_sorted hs
  have HNM := Lib.hid (fun (k : Nat) (hk : k < l.length) => nameB_max (filesB_name hs (List.getElem_mem hk)))
  have HDT := Lib.hid (fun (k : Nat) (hk : k < l.length) => show l[k].data.size ≤ 200000 by
    have h1 := findF_size (findF_hit hsrt (List.getElem_mem hk)); omega)
  have HTK := Lib.hid (fun (k : Nat) (hk : k < l.length) => putF_take hsrt hk)
  have HL := Lib.hid hb0.1
  clear hb0 hsrt hs
  have hm0 := FilesAt.made w
  have hbm := (Below.refl w.heap.size w).alloc (Nat.le_refl _) (.map #[] 0)
  have hmm := @run_makeMap Try.prog
  go_enter Try.func42, Try.ntmps42
  go_wp2
  generalize w.alloc (.map #[] 0) = x0 at *
  clear hmm
  go_loopw [9] (fun i wr => ∃ k : Nat, k ≤ l.length ∧ i = .int .i64 k ∧ Hid (FilesAt wr (w.heap.size + 1) w.heap.size (l.take k)) ∧ Below w.heap.size w wr) (fun i _ => l.length - (intOf i).toNat)
  case atStart => exact ⟨0, by omega, rfl, Lib.hid (by simpa using hm0), hbm⟩
  case round =>
    clear hm0 hbm
    obtain ⟨k, hk, rfl, hfa, hb⟩ := hrel
    by_cases hlt : k < l.length
    · obtain ⟨b, off, -, rfl, q0, q1⟩ := FzR.at_ (h.below FzR.stays hb) hlt
      have hk60 := HL.out
      have i0 : (0 : Int) ≤ k := by omega
      have i1 : (k : Int) < l.length := by omega
      have hba := hb.alloc hb.size (.cells #[.string l[k].name, .string l[k].data] 75)
      have hfb := hfa.out.below ((Below.refl wr.heap.size wr).alloc (Nat.le_refl _) (.cells #[.string l[k].name, .string l[k].data] 75))
      have rb := Row.new wr 75 #[.string l[k].name, .string l[k].data]
      obtain ⟨v, w1, w2, e1, e2, hf2, hb1, hk2⟩ := hfb.set l[k].name l[k].data (HNM.out k hlt) (by have := HDT.out k hlt; unfold maxLen; omega) (by have := HL.out; rw [List.length_take]; omega)
      have HF2 := Lib.hid (show FilesAt w2 (w.heap.size + 1) w.heap.size (l.take (k + 1)) by rw [← HTK.out k hlt]; exact hf2)
      have hb2 := hba.trans hk2.low
      clear hfa hba hfb hf2 hb1 hk2
      go_wp2
      go_roundw
      case rel => exact ⟨k + 1, by omega, by go_num, HF2, hb2⟩
      case measure => simp [intOf]; omega
    · have e : l.take k = l := List.take_of_length_le (by omega)
      have HF := hfa
      rw [e] at HF
      clear e hfa
      go_wp2
      go_ret
      exact ⟨rfl, HF.out, hb⟩
end Go.Proofs.Ytkinegapnknhiaa
