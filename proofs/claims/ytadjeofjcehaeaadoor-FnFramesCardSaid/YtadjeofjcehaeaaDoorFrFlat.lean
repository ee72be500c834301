/-
  Frames: texts that are frames one after the other.
-/
import Derived.Test.YtadjeofjcehaeaaDoorFrameSpec2
namespace Go.Proofs.YtadjeofjcehaeaaDoor
open Go.RowKit
set_option linter.unusedVariables false
set_option linter.unusedSimpArgs false

/-- The bytes of a text's frame. -/
def fb (d : ByteArray) : List UInt8 := bytesL (frameB d)
def flatF : List ByteArray → List UInt8
  | [] => []
  | d :: ds => fb d ++ flatF ds
theorem flatF_app : ∀ (a b : List ByteArray), flatF (a ++ b) = flatF a ++ flatF b
  | [], b => rfl
  | d :: a, b => by rw [List.cons_append, flatF, flatF, flatF_app a b, List.append_assoc]
theorem fb_parts {d : ByteArray} (h : d.size ≤ 100000) : fb d = bytesL (strOfNums (highs d.size)) ++ (bytesL (strOfNums (lows (Crc.crcOf (nums d)))) ++ bytesL d) := by
  unfold fb frameB
  rw [if_pos h, bytesL_app, bytesL_app, List.append_assoc]
theorem highs_len (n : Nat) : (bytesL (strOfNums (highs n))).length = 4 := by rw [bytesL_nums, List.length_map]; rfl
theorem lows_len (c : BitVec 32) : (bytesL (strOfNums (lows c))).length = 4 := by rw [bytesL_nums, List.length_map]; rfl
theorem fb_len {d : ByteArray} (h : d.size ≤ 100000) : (fb d).length = 8 + d.size := by
  rw [fb_parts h, List.length_append, List.length_append, highs_len, lows_len, bytesL_len]; omega
theorem numL_highs {n : Nat} (h : n ≤ 100000) : numL (bytesL (strOfNums (highs n))) = n := by
  rw [bytesL_nums]
  simp only [highs, List.map_cons, List.map_nil]
  rw [numL_four]
  simp only [UInt8.toNat_ofNat']
  omega
theorem fb_head {d : ByteArray} (h : d.size ≤ 100000) (r : List UInt8) : numL ((fb d ++ r).take 4) = d.size := by
  rw [fb_parts h, List.append_assoc, List.take_left' (highs_len _), numL_highs h]
theorem take_frame {d : ByteArray} (h : d.size ≤ 100000) (r : List UInt8) : takeL (fb d ++ r) = some (bytesL d) := by
  have hn := fb_head h r
  have hl := fb_len h
  have e8 : (fb d ++ r).drop 8 = bytesL d ++ r := by
    rw [fb_parts h, show 8 = 4 + 4 from rfl, ← List.drop_drop, List.append_assoc, List.append_assoc, List.drop_left' (highs_len _), List.drop_left' (lows_len _)]
  have e4 : ((fb d ++ r).drop 4).take 4 = bytesL (strOfNums (lows (Crc.crcOf (nums d)))) := by
    rw [fb_parts h, List.append_assoc, List.append_assoc, List.drop_left' (highs_len _), List.take_left' (lows_len _)]
  have ed : ((fb d ++ r).drop 8).take d.size = bytesL d := by rw [e8, List.take_left' (bytesL_len d)]
  unfold takeL
  rw [hn, ed, e4, if_pos ⟨by rw [List.length_append]; omega, h, by rw [List.length_append]; omega, rfl⟩]
theorem takeL_inv {l x : List UInt8} (h : takeL l = some x) : ∃ d : ByteArray, bytesL d = x ∧ d.size ≤ 100000 ∧ l = fb d ++ l.drop (8 + d.size) := by
  unfold takeL at h
  split at h
  · rename_i hc
    obtain ⟨h1, h2, h3, h4⟩ := hc
    obtain rfl := Option.some.inj h
    have hp := (prefix_frame h1 h2 h3).2 h4
    have hs : (⟨((l.drop 8).take (numL (l.take 4))).toArray⟩ : ByteArray).size = numL (l.take 4) := by
      show ((l.drop 8).take (numL (l.take 4))).toArray.size = _
      rw [List.size_toArray, List.length_take, List.length_drop]; omega
    refine ⟨⟨((l.drop 8).take (numL (l.take 4))).toArray⟩, by simp [bytesL], by rw [hs]; exact h2, ?_⟩
    rw [hs]
    unfold fb
    rw [← hp, List.take_append_drop]
  · cases h
theorem takeL_nil : takeL [] = none := by unfold takeL; rw [if_neg (by simp)]
/-- A frame that is cut is no frame. -/
theorem cut_none {d : ByteArray} (h : d.size ≤ 100000) {j : Nat} (hj : j < (fb d).length) : takeL ((fb d).take j) = none := by
  unfold takeL
  rw [if_neg]
  rintro ⟨h1, h2, h3, -⟩
  have hl := fb_len h
  rw [List.length_take] at h1 h3
  have e : ((fb d).take j).take 4 = (fb d ++ []).take 4 := by rw [List.append_nil, List.take_take]; congr 1; omega
  rw [e, fb_head h] at h3
  omega

/-- l is the frames of ds, and behind them is none. -/
def Parses (l : List UInt8) (ds : List ByteArray) (r : List UInt8) : Prop := l = flatF ds ++ r ∧ takeL r = none ∧ ∀ d ∈ ds, d.size ≤ 100000
theorem framesGo_parses : ∀ (ds : List ByteArray) (r : List UInt8) (f : Nat) (l : List UInt8) (k : Nat) (acc : List ByteArray), Parses (l.drop k) ds r → ds.length ≤ f → framesGo f l k acc = (acc ++ ds, k + (flatF ds).length)
  | [], r, f, l, k, acc, ⟨h1, h2, h3⟩, hf => by
    rw [framesGo_none (by rw [h1]; exact h2), List.append_nil]; rfl
  | d :: ds, r, f, l, k, acc, ⟨h1, h2, h3⟩, hf => by
    have hd := h3 d (List.mem_cons_self ..)
    obtain ⟨f', rfl⟩ : ∃ f', f = f' + 1 := ⟨f - 1, by rw [List.length_cons] at hf; omega⟩
    have ht : takeL (l.drop k) = some (bytesL d) := by rw [h1, flatF, List.append_assoc]; exact take_frame hd _
    have hdd : (⟨(bytesL d).toArray⟩ : ByteArray) = d := bytesL_ext (by simp [bytesL])
    rw [framesGo_some ht, hdd, framesGo_parses ds r f' l _ _ ⟨?_, h2, fun x hx => h3 x (List.mem_cons_of_mem _ hx)⟩ (by rw [List.length_cons] at hf; omega)]
    · rw [List.append_assoc, List.singleton_append, flatF, List.length_append, fb_len hd, bytesL_len]
      congr 1; omega
    · rw [bytesL_len, Nat.add_assoc, ← List.drop_drop, h1, flatF, List.append_assoc, List.drop_left' (fb_len hd)]
theorem flatF_len : ∀ ds : List ByteArray, (∀ d ∈ ds, d.size ≤ 100000) → 8 * ds.length ≤ (flatF ds).length
  | [], _ => by simp
  | d :: ds, h => by
    have := flatF_len ds fun x hx => h x (List.mem_cons_of_mem _ hx)
    rw [flatF, List.length_append, fb_len (h d (List.mem_cons_self ..)), List.length_cons]; omega
theorem framesB_parses {s : ByteArray} {ds : List ByteArray} {r : List UInt8} (h : Parses (bytesL s) ds r) : framesB s = (ds, (flatF ds).length) := by
  have hl := flatF_len ds h.2.2
  have h0 : (bytesL s).length = (flatF ds).length + r.length := by rw [h.1, List.length_append]
  rw [bytesL_len] at h0
  have := framesGo_parses ds r (s.size + 1) (bytesL s) 0 [] h (by omega)
  unfold framesB
  rw [this, List.nil_append, Nat.zero_add]
theorem parses_all : ∀ (n : Nat) (l : List UInt8), l.length ≤ n → ∃ ds r, Parses l ds r
  | n, l, hn => by
    rcases h : takeL l with _ | x
    · exact ⟨[], l, rfl, h, fun _ hd => by cases hd⟩
    · obtain ⟨d, rfl, hd, hl⟩ := takeL_inv h
      have h0 := takeL_len h
      rw [bytesL_len] at h0
      match n, hn with
      | 0, hn => omega
      | n + 1, hn =>
        obtain ⟨ds, r, h1, h2, h3⟩ := parses_all n (l.drop (8 + d.size)) (by rw [List.length_drop]; omega)
        refine ⟨d :: ds, r, by rw [flatF, List.append_assoc, ← h1]; exact hl, h2, fun x hx => ?_⟩
        rcases List.mem_cons.1 hx with rfl | hx
        · exact hd
        · exact h3 x hx
theorem parses_cut : ∀ (ds : List ByteArray) (j : Nat), (∀ d ∈ ds, d.size ≤ 100000) → ∃ m r, m ≤ ds.length ∧ Parses ((flatF ds).take j) (ds.take m) r
  | [], j, h => ⟨0, [], by omega, by simp [flatF], takeL_nil, fun _ hd => by simp at hd⟩
  | d :: ds, j, h => by
    have hd := h d (List.mem_cons_self ..)
    by_cases hj : j < (fb d).length
    · refine ⟨0, (fb d).take j, by omega, ?_, cut_none hd hj, fun _ hd => by simp at hd⟩
      rw [flatF, List.take_append_of_le_length (by omega)]; rfl
    · obtain ⟨m, r, hm, h1, h2, h3⟩ := parses_cut ds (j - (fb d).length) fun x hx => h x (List.mem_cons_of_mem _ hx)
      refine ⟨m + 1, r, by rw [List.length_cons]; omega, ?_, h2, fun x hx => ?_⟩
      · rw [List.take_succ_cons, flatF, flatF, List.append_assoc, ← h1, List.take_append, List.take_of_length_le (by omega)]
      · rw [List.take_succ_cons] at hx
        rcases List.mem_cons.1 hx with rfl | hx
        · exact hd
        · exact h3 x hx

/-- WHAT THE LAW WANTS. -/
theorem frames_facts (s : ByteArray) : ∃ (ds : List ByteArray) (n : Nat), framesB s = (ds, n) ∧ n ≤ s.size ∧ (flatF ds).length = n ∧ (∀ d ∈ ds, d.size ≤ 100000) ∧ 8 * ds.length ≤ n ∧ (∀ all : ByteArray, bytesL all = flatF ds → all = s.extract 0 n)
    ∧ (∀ all t : ByteArray, bytesL all = flatF ds → t.size ≤ 100000 → framesB (all ++ frameB t) = (ds ++ [t], n + (frameB t).size))
    ∧ (∀ (all : ByteArray) (j : Nat), bytesL all = flatF ds → j ≤ all.size → ∃ m q, m ≤ ds.length ∧ framesB (all.extract 0 j) = (ds.take m, q)) := by
  obtain ⟨ds, r, hp⟩ := parses_all _ (bytesL s) (Nat.le_refl _)
  have h0 : s.size = (flatF ds).length + r.length := by rw [← bytesL_len, hp.1, List.length_append]
  refine ⟨ds, (flatF ds).length, framesB_parses hp, by omega, rfl, hp.2.2, flatF_len ds hp.2.2, fun all ha => ?_, fun all t ha ht => ?_, fun all j ha hj => ?_⟩
  · apply bytesL_ext
    rw [bytesL_cut s 0 _ (by omega), List.drop_zero, Nat.sub_zero, ha, hp.1, List.take_left]
  · have := framesB_parses (s := all ++ frameB t) (ds := ds ++ [t]) (r := []) ⟨?_, takeL_nil, fun d hd => ?_⟩
    · rw [this, flatF_app, List.length_append]
      simp [flatF, fb, bytesL_len]
    · rw [bytesL_app, ha, flatF_app]; simp [flatF, fb]
    · rcases List.mem_append.1 hd with hd | hd
      · exact hp.2.2 d hd
      · rw [List.mem_singleton.1 hd]; exact ht
  · obtain ⟨m, r, hm, h1⟩ := parses_cut ds j hp.2.2
    exact ⟨m, _, hm, framesB_parses (r := r) (by rw [bytesL_cut all 0 j hj, List.drop_zero, Nat.sub_zero, ha]; exact h1)⟩
end Go.Proofs.YtadjeofjcehaeaaDoor
