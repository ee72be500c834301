/-
  FnExactTakeFrames: for every text, TakeFrames answers as its model does: the data of the frames with which the text begins, and where they end, in memory of its own. The table of the CRC is tied to the program's text by the given card.
-/
import Derived.Test.YtadjeofjcehaeaaDoorFrameSpec2
import Derived.Test.YtadjeofjcehaeaaDoorMarkStr
import Derived.Test.YtadjeofjcehaeaaDoorCards
import Derived.Test.YtadjeofjcehaeaaDoorTie
import Derived.OpenShut
import Derived.OpenVars
import Derived.SevenTiedAt
import Derived.Deep.DeepHandedRow
import Derived.Lib.LaidTab
namespace Go.Proofs.YtadjeofjcehaeaaDoor.fnExactTakeFrames
open Go.ChangeShapes Go.WideShapes Go.ChangeAt Go.RowKit
open Go.ChangeMaps (open_string shut_string)
set_option linter.unusedVariables false

theorem laidOut : laidOutB Tryd.prog = true := by kernel_rfl
theorem own : ownKnob Tryd.prog.godebug = none := by kernel_rfl
theorem gTab : Tryd.prog.globalNamed "loop.example/g00570/impl.crcOfFour" = some 0 := by kernel_rfl
theorem gTabType : (Tryd.prog.globals[0]?).map (·.type) = some 43 := by kernel_rfl
theorem cellsTab : Tryd.prog.cellsOf 43 = 16 := by kernel_rfl
theorem cellsOne : Tryd.prog.cellsOf 33 = 1 := by kernel_rfl
theorem table {W : World} (h : laidMetH Tryd.prog Rows.fnExactTakeFramesRow.laid W) : TabAt W := fun i hi => by
  have ht : Lib.TabIs Tryd.prog W "loop.example/g00570/impl.crcOfFour" .u32 [0, 498536548, 997073096, 651767980, 1994146192, 1802195444, 1303535960, 1342533948, 3988292384, 4027552580, 3604390888, 3412177804, 2607071920, 2262029012, 2685067896, 3183342108] :=
    Lib.tabIs_of_head (rest := []) gTab gTabType Tryd.underlying43 Tryd.underlying33 cellsOne cellsTab h
  rw [ht.cell gTab i (by simpa using hi), Crc.tab_at i hi]

theorem Str_toSh : ∀ (ok : Nat → Prop) (w : World) (cs : List Value) (d : ByteArray), True → StrR ok w cs d → ShF 1 ok w cs ((fun _ => 1) d) := fun ok w cs d _ h => by
  obtain rfl : cs = [.string d] := h
  refine ⟨rfl, fun j v hv => ?_, rfl⟩
  match j, hv with
  | 0, hv => obtain rfl := Option.some.inj hv; rfl

set_option maxHeartbeats 2000000 in
theorem walk (s : ByteArray) (w : World) (hs : s.size ≤ maxLen) (ht : TabAt w) :
    Calls Tryd.prog 4 #[.string s] w fun e w' => e = .returned (.bool true) ∧ Below w.heap.size w w' := by
  have hb0 := Lib.hid (Below.refl w.heap.size w)
  by_cases hl : s.size ≤ 1048576
  · have hi : decide ((1048576 : Int) < (s.size : Int)) = false := decide_eq_false (by omega)
    have HLN := Lib.hid (show (framesB s).1.length ≤ 1048576 ∧ (framesB s).2 ≤ 1048576 by
      have h : ∀ (f : Nat) (l : List UInt8) (k : Nat) (acc : List ByteArray), acc.length ≤ k → k ≤ l.length → (framesGo f l k acc).1.length ≤ l.length ∧ (framesGo f l k acc).2 ≤ l.length := by
        intro f
        induction f with
        | zero => intro l k acc h1 h2; exact ⟨by show acc.length ≤ _; omega, h2⟩
        | succ f ih =>
          intro l k acc h1 h2
          cases hd : takeL (l.drop k) with
          | none => rw [framesGo_none hd]; exact ⟨by show acc.length ≤ _; omega, h2⟩
          | some d =>
            have hdl := takeL_len hd
            rw [List.length_drop] at hdl
            rw [framesGo_some hd]
            exact ih l _ _ (by rw [List.length_append, List.length_singleton]; omega) (by omega)
      have := h (s.size + 1) (bytesL s) 0 [] (by simp) (by omega)
      rw [bytesL_len] at this
      exact ⟨Nat.le_trans this.1 hl, Nat.le_trans this.2 hl⟩)
    have HS := Lib.hid (specTakeFrames s w hl ht)
    have HI := Lib.hid (fun (w1 : World) (h : TabAt w1) => implTakeFrames s w1 hl h)
    have HT := Lib.hid ht
    clear ht
    go_enter Tryd.func4, Tryd.ntmps4
    go_wp2_with fail
    refine HS.out.mono ?_
    rintro e y1 ⟨⟨Aw, cw, rfl, -, tw⟩, hq1⟩
    have hbb1 := hq1
    have HT1 := Lib.hid (HT.out.below hq1)
    clear HS
    go_wp2_with fail
    refine (HI.out y1 HT1.out).mono ?_
    rintro e y2 ⟨⟨Ag, cg, rfl, -, tg⟩, hq2⟩
    have hbb2 := hbb1.trans (hq2.mono hbb1.size)
    have tw := tw.below StrR.stays hq2
    have HE := Lib.hid (show y1.heap.size ≤ y2.heap.size from hq2.size)
    have HG := Lib.hid (show w.heap.size ≤ y1.heap.size from hq1.size)
    have Mg := mayMark_okF (G := y1.heap.size) (Nat.le_refl y2.heap.size)
    have HT2 := Lib.hid (HT1.out.below hq2)
    generalize hfr : framesB s = fr at *
    have HFR := Lib.hid hfr
    clear hfr
    go_wp2_with fail
    refine (lawsEqStrL _ _ _ _ _ fr.1 _ _ _ tg tw HLN.out.1).mono ?_
    rintro e y3 ⟨rfl, hq3⟩
    have hbb3 := hbb2.trans (hq3.mono hbb2.size)
    have tw := tw.below StrR.stays hq3
    have tg := tg.below StrR.stays hq3
    have Mg := Mg.below hq3
    have HT3 := Lib.hid (HT2.out.below hq3)
    go_wp2_with fail
    have shg := tg.toSh Str_toSh (fun _ _ => trivial)
    clear tg
    refine (marksXStrL _ _ _ _ _ y1.heap.size y2.heap.size 1 _ shg Mg (by have := HLN.out.1; omega) (by have := HLN.out.1; omega) (by first | rfl | omega)).mono ?_
    rintro e y4 ⟨rfl, hq4, mg⟩
    have hbb4 := Kept.toBelow hbb3 hq4 HG.out hbb3.size
    have tw := tw.kept StrR.stays hq4 (fun b hb => Or.inl hb.2.1)
    have HT4 := Lib.hid (show TabAt y4 from fun i hi => hq4.far (Or.inl (show (0 : Nat) < y1.heap.size from World.block_lt_of_cell? y1 ⟨0, i, none⟩ (HT1.out i hi))) (HT3.out i hi))
    clear shg Mg
    go_wp2_with fail
    refine (heldXStrL _ _ _ 1 _ mg (by have := HLN.out.1; omega) (by have := HLN.out.1; omega) (by first | rfl | omega)).mono ?_
    rintro e y5 ⟨rfl, hq5⟩
    have hbb5 := hbb4.trans (hq5.mono hbb4.size)
    have tw := tw.below StrR.stays hq5
    have mg := mg.below hq5
    have HT5 := Lib.hid (HT4.out.below hq5)
    have hp : decide (((1 + fr.1.length * 1 : Nat) : Int) < 0) = false := by rw [decide_eq_false_iff_not]; omega
    go_wp2_with fail
    refine (HI.out y5 HT5.out).mono ?_
    rintro e y6 ⟨⟨Ah, ch, rfl, -, th⟩, hq6⟩
    rw [HFR.out] at th ⊢
    have hbb6 := hbb5.trans (hq6.mono hbb5.size)
    have tw := tw.below StrR.stays hq6
    have mg := mg.below hq6
    go_wp2_with fail
    refine (lawsEqStrL _ _ _ _ _ fr.1 _ _ _ th tw HLN.out.1).mono ?_
    rintro e y7 ⟨rfl, hq7⟩
    have hbb7 := hbb6.trans (hq7.mono hbb6.size)
    have mg := mg.below hq7
    go_wp2_with fail
    refine (heldXStrL _ _ _ 1 _ mg (by have := HLN.out.1; omega) (by have := HLN.out.1; omega) (by first | rfl | omega)).mono ?_
    rintro e y8 ⟨rfl, hq8⟩
    have hbb8 := hbb7.trans (hq8.mono hbb7.size)
    go_wp2_with fail
    go_ret
    exact ⟨rfl, hbb8⟩
  · have hi : (1048576 : Int) < (s.size : Int) := by omega
    go_enter Tryd.func4, Tryd.ntmps4
    go_wp2
    go_ret
    exact ⟨rfl, hb0.out⟩

/-- WHAT THE WALK GIVES, FOR EVERY ARGUMENT AND EVERY WORLD THAT HOLDS THE TABLE. -/
theorem contract (H : Type) (enc : TypeId × Value → H) (W : World) (base : Nat) (args : Array Value) (ds gs : List (DataW H)) (before : List MemPlace)
    (hval : ∀ (j : Nat) t v, Tryd.f4.params[j]? = some t → args[j]? = some v → Value.okWide Tryd.prog W .any base t v)
    (hW : DataW.Whole enc Tryd.prog Tryd.f4.params.toList Rows.fnExactTakeFramesSpec.vars false W args.toList ds gs before) (hL : laidMetH Tryd.prog Rows.fnExactTakeFramesRow.laid W) :
    Calls Tryd.prog 4 args W fun e W' => ∃ v, e = .returned v ∧ Rows.fnExactTakeFramesSpec.post enc Tryd.prog Tryd.f4 false true false false W args v W' := by
  have hW' := hW
  obtain ⟨p, q, hA0, hV, rfl, hfz, hnd⟩ := hW
  have hA : DataW.TrodAll enc Tryd.prog W 0 (fun _ => true) true Tryd.f4.params.toList args.toList ds p := hA0
  rw [Tryd.params4] at hA hval
  obtain ⟨v0, vs0, d0, ds0, p0, q0, hargs, rfl, rfl, h0, r0⟩ := trodAll_cons hA
  obtain ⟨rfl, rfl, rfl⟩ := trodAll_nil r0
  obtain rfl : args = #[v0] := by cases args; simp_all
  obtain ⟨s0, rfl, rfl, rfl, w0⟩ := open_string Tryd.underlying9 (hval 0 9 v0 rfl rfl) h0
  clear hA0
  have k0' := h0
  have lt0 : ∀ x ∈ ([] : List MemPlace), x.block < W.heap.size := fun x hx => by cases hx
  obtain ⟨g, t, cs, fu, d, p, rfl, -, -, -, -, -⟩ := trodVars_one hV
  refine (walk s0 W w0 (table hL)).mono fun e W' ⟨he, bel⟩ => ?_
  subst he
  exact ⟨_, rfl, _, _, _, [], _, _, hW', trodAll_mk1 (shut_bool Tryd.underlying4 _), trodAll_cons_mk (Below.trod laidOut (by kernel_rfl) (of_decide_eq_true (by kernel_rfl)) k0' bel lt0) trodAll_mk0,
    Below.trodVars laidOut bel (by kernel_rfl) hV, bel.frame _, fun h => by cases h⟩

/-- A WORLD FOR THE WITNESS: the settled one, the table (block 0) holding what its initialiser lays. -/
noncomputable def laidWorld (os : Os) : World :=
  { World.holding Tryd.prog os ⟨#[], #[], []⟩ with heap := (World.holding Tryd.prog os ⟨#[], #[], []⟩).heap.modify 0 fun
      | .cells _ t frozen => .cells #[.int .u32 0, .int .u32 498536548, .int .u32 997073096, .int .u32 651767980, .int .u32 1994146192, .int .u32 1802195444, .int .u32 1303535960, .int .u32 1342533948, .int .u32 3988292384, .int .u32 4027552580, .int .u32 3604390888, .int .u32 3412177804, .int .u32 2607071920, .int .u32 2262029012, .int .u32 2685067896, .int .u32 3183342108] t frozen
      | o => o }
theorem laid_met (os : Os) : laidMet Tryd.prog Rows.fnExactTakeFramesRow.laid ((laidWorld os).forCall (fun _ _ => 0) ⟨#[], #[.string ⟨#[]⟩], []⟩).memory :=
  laidMet_of_run' 8 (by kernel_rfl) (by kernel_rfl)
theorem reads (os : Os) {H : Type} (enc : TypeId × Value → H) : ∃ gs places, DataW.whole enc Tryd.prog ((laidWorld os).forCall (fun _ _ => 0) ⟨#[], #[.string ⟨#[]⟩], []⟩).memory Tryd.f4.params.toList Rows.fnExactTakeFramesSpec.vars false #[Value.string ⟨#[]⟩].toList 8 = some ([.lit (.string [])], gs, places) :=
  ⟨[Rows.laid_loop_example_g00570_impl_crcOfFour], MemPlace.row ⟨0, 0, none⟩ 16, by kernel_rfl⟩

set_option maxRecDepth 100000 in
theorem lifted (os : Os) (started : os.Started) (H : Type) (enc : TypeId × Value → H) (F : Stop.Interp) :
    ReturnsInHanded {} Tryd.checked os 4 .any ((OpenSpec.ofChange Rows.fnExactTakeFramesSpec).preRow enc Tryd.prog Tryd.f4 Rows.fnExactTakeFramesRow.domain false Rows.fnExactTakeFramesRow.laid) (((OpenSpec.ofChange Rows.fnExactTakeFramesSpec).at F).post enc Tryd.prog Tryd.f4 false true false false) := by
  obtain ⟨gs, places, hx⟩ := reads os enc
  refine returnsInHanded_of_row (C := Tryd.checked) (s := OpenSpec.ofChange Rows.fnExactTakeFramesSpec) own started (by kernel_rfl) Tryd.func4
    (witness_row_at (enc := enc) (C := Tryd.checked) false (laidWorld os) #[.string ⟨#[]⟩] rfl (by kernel_rfl) (by kernel_rfl) (by kernel_rfl)
      (OpenSpec.preRow_of_cond 8 hx (by kernel_rfl) (fun k hk => by cases hk) (by kernel_rfl) (laid_met os))) ?_
  intro W base args ds gs before hval hW _ _ _ hL _ _
  exact contract H enc W base args ds gs before hval hW hL

theorem said : Rows.FnExactTakeFramesSaid :=
  OpenClaim.holds_of_cond 4 Tryd.f4 rfl rfl rfl rfl rfl rfl rfl ⟨rfl, rfl, rfl, rfl, rfl⟩ rfl rfl rfl rfl rfl (by kernel_rfl) Tryd.func4 (by kernel_rfl)
    (of_decide_eq_true (by kernel_rfl)) (by unfold Func.isWrapper; first | (rw [if_pos (by decide +kernel)]; kernel_rfl) | (rw [if_neg (by decide +kernel)]; exact ⟨rfl, rfl⟩))
    (fun os started H enc _ F => by rw [OpenClaim.pre_eq_preRow]; exact lifted os started H enc F)

/-- No parameter wants a stand-in; the program's own looks are off: what the card asks. -/
theorem plain (f : FuncId) (fn : Func) (hf : Tryd.pinned.checked.prog.funcNamed "loop.example/g00570/laws.FnExactTakeFrames" = some f) (hfn : Tryd.pinned.checked.prog.funcs[f]? = some fn) :
    false = Tryd.pinned.checked.prog.looks [] ∧ ∀ (j : Nat) t, fn.params[j]? = some t → Tryd.pinned.checked.prog.wantsStandIn t = false := by
  obtain rfl : f = 4 := Option.some.inj ((show Tryd.prog.funcNamed "loop.example/g00570/laws.FnExactTakeFrames" = some 4 by kernel_rfl).symm.trans hf) |>.symm
  obtain rfl : fn = Tryd.f4 := (Option.some.inj (Tryd.func4.symm.trans hfn)).symm
  refine ⟨by kernel_rfl, fun j t ht => ?_⟩
  rw [Tryd.params4] at ht
  obtain rfl : t = 9 := by simpa using Array.mem_of_getElem? ht
  exact (show Tryd.prog.wantsStandIn 9 = false by kernel_rfl)

/-- THE CARD. -/
theorem proved : Rows.FnExactTakeFramesCardSaid :=
  Claim7.holds_tied_plain_at .later [] _ _ _ _ said (fun _ h => by cases h) (by kernel_rfl) (fun _ h => by cases h) fnExactTakeFrames_row_tie rfl ⟨rfl, rfl⟩ (by kernel_rfl) rfl plain (by kernel_rfl)
#print axioms proved
end Go.Proofs.YtadjeofjcehaeaaDoor.fnExactTakeFrames
