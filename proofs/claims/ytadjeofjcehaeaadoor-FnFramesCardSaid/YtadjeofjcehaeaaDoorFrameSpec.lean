/-
  Frames: what FrameOf answers, in the model and in the program.
-/
import Derived.Test.YtadjeofjcehaeaaDoorFrameSum
import Derived.Deep.RegionWith
namespace Go.Proofs.YtadjeofjcehaeaaDoor
open Go.RowKit
set_option linter.unusedVariables false
set_option linter.unusedSimpArgs false

/-- The four bytes of a length, the highest first. -/
def highs (n : Nat) : List Int := [(n : Int) / 16777216 % 256, (n : Int) / 65536 % 256, (n : Int) / 256 % 256, (n : Int) % 256]
/-- A frame. -/
def frameB (s : ByteArray) : ByteArray := if s.size ≤ 100000 then strOfNums (highs s.size) ++ strOfNums (lows (Crc.crcOf (nums s))) ++ s else ⟨#[]⟩
theorem strOfNums_app (a b : List Int) : strOfNums (a ++ b) = strOfNums a ++ strOfNums b := by
  apply ByteArray.ext
  simp [strOfNums, ByteArray.data_append]

/-- The text of a new row of bytes. -/
theorem conv_new (w : World) (t : TypeId) (xs : List Int) (n c : Nat) (hn : xs.length = n) :
    (convert 29 9 (.slice (some ⟨w.heap.size, 0, none⟩) n c)).run Tryd.prog (w.alloc (.cells (xs.map (Value.int .u8)).toArray t)) = .ok (.string (strOfNums xs)) (w.alloc (.cells (xs.map (Value.int .u8)).toArray t)) :=
  run_convert_bytes_arg (P := Tryd.prog) _ 29 5 Tryd.underlying29 Tryd.underlying5 w.heap.size 0 n c xs hn (by
    intro i hi
    rw [Nat.zero_add, World.cell?_alloc_mark]
    simp [List.getElem?_map, List.getElem?_eq_getElem (show i < xs.length by omega)]) 9 Tryd.underlying9

theorem conv_at (w : World) (b : Nat) (t : TypeId) (xs : List Int) (n c : Nat) (hn : xs.length = n) (hb : w.heap.size = b) :
    (convert 29 9 (.slice (some ⟨b, 0, none⟩) n c)).run Tryd.prog (w.alloc (.cells (xs.map (Value.int .u8)).toArray t)).drew = .ok (.string (strOfNums xs)) (w.alloc (.cells (xs.map (Value.int .u8)).toArray t)).drew := by
  subst hb
  exact run_convert_bytes_arg (P := Tryd.prog) _ 29 5 Tryd.underlying29 Tryd.underlying5 w.heap.size 0 n c xs hn (by
    intro i hi
    rw [Nat.zero_add]
    refine (World.cell?_alloc_mark w (xs.map (Value.int .u8)).toArray t (0, 0) i).trans ?_
    simp [List.getElem?_map, List.getElem?_eq_getElem (show i < xs.length by omega)]) 9 Tryd.underlying9
theorem conv_past (w : World) (b : Nat) (t : TypeId) (o : Obj) (xs : List Int) (n c : Nat) (hn : xs.length = n) (hb : w.heap.size = b) :
    (convert 29 9 (.slice (some ⟨b, 0, none⟩) n c)).run Tryd.prog ((w.alloc (.cells (xs.map (Value.int .u8)).toArray t)).alloc o).drew = .ok (.string (strOfNums xs)) ((w.alloc (.cells (xs.map (Value.int .u8)).toArray t)).alloc o).drew := by
  subst hb
  exact run_convert_bytes_arg (P := Tryd.prog) _ 29 5 Tryd.underlying29 Tryd.underlying5 w.heap.size 0 n c xs hn (by
    intro i hi
    have h := World.cell?_alloc_mark w (xs.map (Value.int .u8)).toArray t (0, 0) i
    rw [Nat.zero_add]
    refine (((Below.refl _ (w.alloc (.cells (xs.map (Value.int .u8)).toArray t))).alloc (Nat.le_refl _) o).cell (by simp)).trans ?_
    rw [h]
    simp [List.getElem?_map, List.getElem?_eq_getElem (show i < xs.length by omega)]) 9 Tryd.underlying9

set_option maxHeartbeats 1000000 in
theorem implFrameOf (s : ByteArray) (w : World) (hs : s.size ≤ maxLen) (ht : TabAt w) :
    Calls Tryd.prog 7 #[.string s] w fun e w' => e = .returned (.string (frameB s)) ∧ Below w.heap.size w w' := by
  have HC := Lib.hid (implCrc s w hs ht)
  have HB := Lib.hid (Below.refl w.heap.size w)
  by_cases hl : s.size ≤ 100000
  · have hi : decide ((100000 : Int) < (s.size : Int)) = false := decide_eq_false (by omega)
    have HF := Lib.hid (show frameB s = strOfNums (highs s.size ++ lows (Crc.crcOf (nums s))) ++ s by unfold frameB; rw [if_pos hl, strOfNums_app])
    have hw : IntKind.u32.wrap (s.size : Int) = (s.size : Int) := by rw [IntKind.wrap_u32]; omega
    obtain ⟨c, hc⟩ : ∃ c, Crc.crcOf (nums s) = c := ⟨_, rfl⟩
    rw [hc] at HC HF
    have hh : highs s.size = [(s.size : Int) / 16777216, (s.size : Int) / 65536, (s.size : Int) / 256 % 256, (s.size : Int) % 256] := by
      unfold highs
      rw [Int.emod_eq_of_lt (a := (s.size : Int) / 16777216) (by omega) (by omega), Int.emod_eq_of_lt (a := (s.size : Int) / 65536) (by omega) (by omega)]
    rw [hh] at HF
    clear hh
    have hconv := conv_new w 35 (([(s.size : Int) / 16777216, (s.size : Int) / 65536, (s.size : Int) / 256 % 256, (s.size : Int) % 256]) ++ lows c) 8 8 rfl
    simp only [lows, List.cons_append, List.nil_append, List.map_cons, List.map_nil] at hconv HF
    have hsz : (strOfNums [(s.size : Int) / 16777216, (s.size : Int) / 65536, (s.size : Int) / 256 % 256, (s.size : Int) % 256, Crc.U c % 256, Crc.U c / 256 % 256, Crc.U c / 65536 % 256, Crc.U c / 16777216 % 256]).size = 8 := rfl
    go_enter Tryd.func7, Tryd.ntmps7
    go_wp2_with (go_at_call 18; refine HC.out.mono ?_; rintro e w1 ⟨rfl, rfl⟩)
    go_ret
    exact ⟨by rw [HF.out]; rfl, HB.out.alloc (Nat.le_refl _) _⟩
  · have hi : (100000 : Int) < (s.size : Int) := by omega
    have HF := Lib.hid (show frameB s = ⟨#[]⟩ by unfold frameB; rw [if_neg hl])
    go_enter Tryd.func7, Tryd.ntmps7
    go_wp2
    go_ret
    exact ⟨by rw [HF.out]; rfl, HB.out⟩

set_option maxHeartbeats 1000000 in
theorem specFrameOf (s : ByteArray) (w : World) (hs : s.size ≤ maxLen) :
    Calls Tryd.prog 6 #[.string s] w fun e w' => e = .returned (.string (frameB s)) ∧ Below w.heap.size w w' := by
  have HB := Lib.hid (Below.refl w.heap.size w)
  by_cases hl : s.size ≤ 100000
  · have hi : decide ((100000 : Int) < (s.size : Int)) = false := decide_eq_false (by omega)
    have HF := Lib.hid (show frameB s = strOfNums (highs s.size) ++ strOfNums (lows (Crc.crcOf (nums s))) ++ s by unfold frameB; rw [if_pos hl])
    go_enter Tryd.func6, Tryd.ntmps6
    go_wp2_with fail
    have hh : highs s.size = [(s.size : Int) / 16777216, (s.size : Int) / 65536, (s.size : Int) / 256 % 256, (s.size : Int) % 256] := by
      unfold highs
      rw [Int.emod_eq_of_lt (a := (s.size : Int) / 16777216) (by omega) (by omega), Int.emod_eq_of_lt (a := (s.size : Int) / 65536) (by omega) (by omega)]
    rw [hh] at HF
    clear hh
    have hc1 := fun (W : World) (b : Nat) (hb : W.heap.size = b) => conv_at W b 5 [(s.size : Int) / 16777216, (s.size : Int) / 65536, (s.size : Int) / 256 % 256, (s.size : Int) % 256] 4 4 rfl hb
    have hc2 := fun (W : World) (b : Nat) (o : Obj) (hb : W.heap.size = b) => conv_past W b 5 o [(s.size : Int) / 16777216, (s.size : Int) / 65536, (s.size : Int) / 256 % 256, (s.size : Int) % 256] 4 4 rfl hb
    simp only [List.map_cons, List.map_nil] at hc1 hc2
    have hsz : (strOfNums [(s.size : Int) / 16777216, (s.size : Int) / 65536, (s.size : Int) / 256 % 256, (s.size : Int) % 256]).size = 4 := rfl
    have hsz2 : (strOfNums (lows (Crc.crcOf (nums s)))).size = 4 := rfl
    have w1 : IntKind.u8.wrap ((s.size : Int) / 16777216) = (s.size : Int) / 16777216 := by rw [IntKind.wrap_u8]; omega
    have w2 : IntKind.u8.wrap ((s.size : Int) / 65536) = (s.size : Int) / 65536 := by rw [IntKind.wrap_u8]; omega
    have w3 : IntKind.u8.wrap ((s.size : Int) / 256) = (s.size : Int) / 256 % 256 := by rw [IntKind.wrap_u8]
    have w4 : IntKind.u8.wrap (s.size : Int) = (s.size : Int) % 256 := by rw [IntKind.wrap_u8]
    go_region_with (go_at_call 17; refine (specSum s _ hs).mono ?_; rintro e w1 ⟨rfl, rfl⟩)
    all_goals go_wp2
    all_goals go_ret
    all_goals exact ⟨by rw [HF.out]; rfl, ((HB.out.alloc (Nat.le_refl _) _).alloc (by simp) _).drew⟩
  · have hi : (100000 : Int) < (s.size : Int) := by omega
    have HF := Lib.hid (show frameB s = ⟨#[]⟩ by unfold frameB; rw [if_neg hl])
    go_enter Tryd.func6, Tryd.ntmps6
    go_wp2
    go_ret
    exact ⟨by rw [HF.out]; rfl, HB.out⟩
end Go.Proofs.YtadjeofjcehaeaaDoor
