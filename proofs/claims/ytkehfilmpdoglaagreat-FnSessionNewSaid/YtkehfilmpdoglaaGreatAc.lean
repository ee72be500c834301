/-
  Several texts in one: what the proof leans on, part 3.
-/
import Derived.Test.YtkehfilmpdoglaaGreatAa
import Derived.Test.YtkehfilmpdoglaaGreatAb
import Derived.RangeFuncNested
import Derived.RangeFuncBound
import Derived.RangeFuncCalls
import Derived.RangeFuncLeaves
import Derived.Shelf.Abstract
import Derived.Shelf.RegionOpen
import Derived.WalkKit
import Derived.OwnWalkIn
import Derived.TacticsInMore
import Derived.LoopNIn
import Derived.LoopIn
import Derived.Deep.DeepMust
import Derived.Deep.RegionHeld3
import Derived.Deep.AppendLies
import Derived.Deep.Cut
set_option linter.unusedVariables false
set_option linter.unusedSimpArgs false
namespace Go.Proofs.YtkehfilmpdoglaaGreat
open Go.RowKit
def RoundX {α : Type} (B : Nat) (Kp : World → World → Prop) (J Jx : List α → World → Prop) (xs : List α) (W : World) (e : Ending) (W' : World) : Prop :=
 KeepsFrom B W W' ∧ ((e = .returned (.bool true) ∧ J xs W' ∧ Kp W W') ∨ (e = .returned (.bool false) ∧ Jx xs W'))
def SeqX {α : Type} (P : Program) (n : Nat) (g : Nat) (lb : Array Value) (encs : α → Array Value) (Kp : World → World → Prop) (S Sp : List α → Prop) (N : Nat) (w : World) : Prop :=
 ∀ (l : Nat) (J Jx : List α → World → Prop) (W : World), Below w.heap.size w W → OwnFrom W.heap.size J → OwnFrom W.heap.size Jx →
  (∀ pre x W1, J pre W1 → pre.length < N → YieldAt Fence.wide n P l (encs x) W1 (RoundX W.heap.size Kp J Jx (pre ++ [x]) W1)) →
  J [] W → CallsIn Fence.wide n P g (#[.func (.yield l) #[] #[]] ++ lb) W fun e W' => (∃ v, e = .returned v) ∧ ((∃ xs, S xs ∧ J xs W') ∨ (∃ pre, Sp pre ∧ Jx pre W'))
theorem roundIn_any {m m' : Nat} {P : Program} {l : Nat} {f : FuncId} {tmps : Array Value} {assign body : Code} {w : World} {R : Ending → World → Prop}
  (h : RoundIn Fence.wide m P l f tmps assign body w R) : RoundIn Fence.wide m' P l f tmps assign body w R := ⟨h.1, fun c cs _ => h.2 c cs (room_wide _)⟩
def Recs (l : Nat) (st : Loop) (D : Nat) (W : World) : Prop := W.heap[l]? = some (.loop st) ∧ W.heap[D]? = some (.deferred (some []))
theorem Recs.keep {l D B : Nat} {st : Loop} {W W' : World} (h : Recs l st D W) (hl : B ≤ l) (hD : B ≤ D) (k : KeepsFrom B W W') : Recs l st D W' := ⟨k.same _ _ hl h.1 rfl, k.same _ _ hD h.2 rfl⟩
theorem Recs.put {l D : Nat} {st : Loop} {W : World} (h : Recs l st D W) (hne : D ≠ l) (st' : Loop) : Recs l st' D (W.putObj l (.loop st')) := ⟨World.putObj_heap_same (Array.getElem?_eq_some_iff.1 h.1).1, (World.putObj_heap_other hne).trans h.2⟩
theorem Recs.own {β : Type} {l D B : Nat} (st : β → Loop) (hl : l < B) (hD : D < B) : OwnFrom B (fun s W => Recs l (st s) D W) := fun s X Y row hs hg hr =>
 ⟨(hg.block l (Array.getElem?_eq_some_iff.1 hs.1).1 (fun e => by have := (hr l e.symm).1; omega)).trans hs.1, (hg.block D (Array.getElem?_eq_some_iff.1 hs.2).1 (fun e => by have := (hr D e.symm).1; omega)).trans hs.2⟩
set_option maxHeartbeats 2000000 in
theorem wp_rangeX {α : Type} {P : Program} {n : Nat} {g : Operand} {ps : Array Tmp} {assign body : Code} {Q : Exit → Act → World → Prop} {a : Act} {w : World}
  {gf : Nat} {lb : Array Value} (hg : a.eval g = .func (.func gf) #[] lb) (eg : ∀ args w, (callFunc gf args).run P w = .ok (.enter gf args) w)
  {encs : α → Array Value} {Kp : World → World → Prop} {S Sp : List α → Prop} {N : Nat} (hseq : SeqX P (n - 1) gf lb encs Kp S Sp N w)
  (hKt : ∀ {A B C : World}, Kp A B → Kp B C → Kp A C) (hKb : ∀ (W : World) (l : Nat) (o o' : Obj), w.heap.size ≤ l → W.heap[l]? = some o → o.isCells = false → Kp W (W.putObj l o')) (hps : ∀ x, (encs x).size = ps.size)
  (I : List α → World → Prop) (Ix : Code → List α → World → Prop) (hI : OwnFrom w.heap.size I) (hIx : ∀ c, OwnFrom w.heap.size (Ix c)) (h0 : I [] w) (Ax : α → Act → World → Prop) (hAx : ∀ x a', OwnFrom w.heap.size (fun (_ : Unit) W => Ax x a' W))
  (hassign : ∀ (l : Nat) (pre : List α) (x : α) (W : World) (K : Act → World → Prop), I pre W → (∀ a' W', KeepsFrom w.heap.size W W' → Kp W W' → I pre W' → Ax x a' W' → K a' W') →
   assign.wpIn (Fence.wide.inRound l) n P (Exit.then K (fun _ _ _ => False)) { tmps := (ps.zip (encs x)).foldl (fun t (p, v) => t.setIfInBounds p v) a.tmps, defers := [] } W)
  (hbody : ∀ (l : Nat) (pre : List α) (x : α) (a' : Act) (W : World), I pre W → Ax x a' W → pre.length < N → body.wpIn (Fence.wide.inRound l) n P (ownPostG w.heap.size Kp I Ix (pre ++ [x]) W) a' W)
  (hdone : ∀ (D : Nat) (xs : List α) (W : World), w.heap.size ≤ D → S xs → I xs W → W.heap[D]? = some (.deferred (some [])) → Q .normal { a with defers := { target := .collected D, args := #[] } :: a.defers } W)
  (hstop : ∀ (D : Nat) (c : Code) (pre : List α) (W : World), w.heap.size ≤ D → Sp pre → Ix c pre W → W.heap[D]? = some (.deferred (some [])) → c.wpIn Fence.wide n P Q { a with defers := { target := .collected D, args := #[] } :: a.defers } W) :
  (Code.rangeFunc g ps assign body).wpIn Fence.wide n P Q a w := by
 refine wpIn_rangeFunc fun fn hfn => ?_
 obtain ⟨D, hD⟩ : ∃ D, w.heap.size = D := ⟨_, rfl⟩
 obtain ⟨mk, hmk⟩ : ∃ mk : LoopState → Option Code → Loop, mk = fun st pe => { state := st, pending := pe, fn, tmps := a.tmps, params := ps, assign, body, defers := D } := ⟨_, rfl⟩
 obtain ⟨V, hV⟩ : ∃ V, (w.alloc (.deferred (some []))).alloc (.loop (mk .ready none)) = V := ⟨_, rfl⟩
 have hVs : V.heap.size = D + 2 := by rw [← hV, World.size_alloc, World.size_alloc, hD]
 have hR : Recs (D + 1) (mk .ready none) D V := by
  constructor
  ·rw [← hV]; have := World.alloc_heap_new (w.alloc (.deferred (some []))) (.loop (mk .ready none)); rwa [World.size_alloc, hD] at this
  ·rw [← hV, ← hD]; exact (Below.heap_alloc _ _ _ (by simp)).trans (World.alloc_heap_new w _)
 have hIV : I [] V := by rw [← hV]; exact hI.alloc _ (hI.alloc _ h0)
 have hBV : Below w.heap.size w V := by rw [← hV]; exact ((Below.refl _ w).alloc (Nat.le_refl _) _).alloc (by simp) _
 have hlow : ∀ {A : World} {row : Option Nat}, (∀ r, row = some r → V.heap.size ≤ r ∧ ∃ o : Obj, A.heap[r]? = some o ∧ o.isCells = false) → (∀ r, row = some r → w.heap.size ≤ r ∧ ∃ o : Obj, A.heap[r]? = some o ∧ o.isCells = false) :=
  fun h r e => ⟨by have := (h r e).1; omega, (h r e).2⟩
 refine ⟨D + 1, [{ target := .collected D, args := #[] }], V, { target := .fn (.func gf) lb, args := #[.func (.yield (D + 1)) #[] #[]] }, V, gf, #[.func (.yield (D + 1)) #[] #[]] ++ lb, V, ?_, ?_, fun _ _ => trivial, ?_, fun h => (by cases h), ?_⟩
 ·show (Instr.enterLoop fn a.tmps ps assign body none).run P w = _
  rw [run_enterLoop_outer, hD, ← hV, hmk]
 ·simp only [resolve, hg]
  simp [go_sem]
 ·simp [invoke, go_sem, eg]
 have hz : D + 1 ≠ D := by omega
 have hpair : OwnFrom V.heap.size (fun (pre : List α) W => I pre W ∧ Recs (D + 1) (mk .ready none) D W) :=
  OwnFrom.and (fun s X Y row hs hg' hr => hI s X Y row hs hg' (hlow hr)) (Recs.own (fun _ => mk .ready none) (by omega) (by omega))
 have hpairx : OwnFrom V.heap.size (fun (pre : List α) W => ∃ c, Ix c pre W ∧ Recs (D + 1) (mk .done (some c)) D W) := fun s X Y row hs hg' hr => by
  obtain ⟨c, h1, h2⟩ := hs
  exact ⟨c, hIx c s X Y row h1 hg' (hlow hr), Recs.own (fun (_ : Unit) => mk .done (some c)) (by omega) (by omega) () X Y row h2 hg' hr⟩
 refine (hseq (D + 1) _ _ V hBV hpair hpairx (fun pre x W hJ hlen => ?_) ⟨hIV, hR⟩).mono ?_
 ·obtain ⟨hi, hrec⟩ := hJ
  have hy := run_yield (P := P) (args := encs x) hrec.1 (by rw [hmk]; exact hps x)
  refine ⟨fn, _, assign, body, by rw [hy, hmk], roundIn_any (m := n) (roundIn_of_wpIn hfn ?_)⟩
  refine hassign _ pre x W _ hi fun a1 W1 k1 kp1 i1 ax1 => ?_
  -- the assignment to the loop's variables may have laid blocks: the records lie as they lay
  have rec1 := hrec.keep (by omega) (by omega) k1
  refine ⟨_, run_beginRound rec1.1 (by rw [hmk]), ?_⟩
  have hrec2 := rec1.put (Ne.symm hz) { mk .ready none with state := .busy }
  have hkp := hKb W1 (D + 1) _ (.loop { mk .ready none with state := .busy }) (by omega) rec1.1 rfl
  refine wpIn_mono (hbody _ pre x a1 _ (hI.putObj _ i1 (by omega) rec1.1 rfl) ((hAx x a1).putObj (s := ()) _ ax1 (by omega) rec1.1 rfl) hlen) ?_
  -- what the round has left is read off the body's word
  have tail : ∀ (jump : Option Code) (W3 : World), KeepsFrom w.heap.size (W1.putObj (D + 1) (.loop { mk .ready none with state := .busy })) W3 →
    ∃ W4, (Instr.endRound (D + 1) jump).run P W3 = .ok (.bool jump.isNone) W4 ∧ W4 = W3.putObj (D + 1) (.loop (mk (if jump.isNone then .ready else .done) jump)) ∧ W3.heap[D + 1]? = some (.loop { mk .ready none with state := .busy }) ∧
     Recs (D + 1) (mk (if jump.isNone then .ready else .done) jump) D W4 ∧ KeepsFrom V.heap.size W W4 := fun jump W3 k3 => by
   have r3 := hrec2.keep (by omega) (by omega) k3
   refine ⟨_, run_endRound jump r3.1, by rw [hmk], r3.1, by rw [hmk] at r3 ⊢; exact r3.put (Ne.symm hz) _, ?_⟩
   refine ⟨by have := k3.size; have := k1.size; simp only [World.putObj_size] at *; omega, fun k o hk ho hc => ?_⟩
   have e1 : k ≠ D + 1 := by omega
   exact (World.putObj_heap_other e1).trans (k3.same k o (by omega) ((World.putObj_heap_other e1).trans (k1.same k o (by omega) ho hc)) hc)
  rintro e a3 W3 hp
  cases e with
  | normal =>
   obtain ⟨k3, kp3, i3⟩ := hp
   obtain ⟨W4, hr, rfl, h3, r4, k4⟩ := tail none W3 k3
   exact ⟨_, _, hr, k4, .inl ⟨rfl, ⟨hI.putObj _ i3 (by omega) h3 rfl, r4⟩, hKt kp1 (hKt (hKt hkp kp3) (hKb _ _ _ _ (by omega) h3 rfl))⟩⟩
  | ret =>
   obtain ⟨k3, i3⟩ := hp
   obtain ⟨W4, hr, rfl, h3, r4, k4⟩ := tail (some .ret) W3 k3
   exact ⟨_, _, hr, k4, .inr ⟨rfl, _, (hIx _).putObj _ i3 (by omega) h3 rfl, r4⟩⟩
  | exit id =>
   obtain ⟨k3, i3⟩ := hp
   obtain ⟨W4, hr, rfl, h3, r4, k4⟩ := tail (some (.exit id)) W3 k3
   exact ⟨_, _, hr, k4, .inr ⟨rfl, _, (hIx _).putObj _ i3 (by omega) h3 rfl, r4⟩⟩
  | goto t =>
   obtain ⟨k3, i3⟩ := hp
   obtain ⟨W4, hr, rfl, h3, r4, k4⟩ := tail (some (.goto t)) W3 k3
   exact ⟨_, _, hr, k4, .inr ⟨rfl, _, (hIx _).putObj _ i3 (by omega) h3 rfl, r4⟩⟩
  | panic ch => exact hp.elim
  | outgrown => exact hp.elim
 ·rintro e W2 ⟨⟨v, rfl⟩, h | h⟩
  ·obtain ⟨xs, hS, hi, hrec⟩ := h
   refine ⟨none, _, by have := run_endLoop (P := P) hrec.1 (by rw [hmk]; simp); rw [hmk] at this; exact this, ?_⟩
   exact hdone _ xs _ (by omega) hS (hI.putObj _ hi (by omega) hrec.1 rfl) ((World.putObj_heap_other (Ne.symm hz)).trans hrec.2)
  ·obtain ⟨pre, hSp, c, hi, hrec⟩ := h
   refine ⟨some c, _, by have := run_endLoop (P := P) hrec.1 (by rw [hmk]; simp); rw [hmk] at this; exact this, ?_⟩
   exact hstop _ c pre _ (by omega) hSp ((hIx c).putObj _ hi (by omega) hrec.1 rfl) ((World.putObj_heap_other (Ne.symm hz)).trans hrec.2)
end Go.Proofs.YtkehfilmpdoglaaGreat
namespace Go.Proofs.YtkehfilmpdoglaaGreat
open Go.RowKit Go.Maps
set_option maxRecDepth 100000 in
set_option maxHeartbeats 2000000 in
theorem implSchemaOk (AS : Option Addr) (nS cS : Nat) (s : List Tb) (ok : Nat → Prop) (w : World) (hs : Sl TbR 6 ok w AS nS s) (hsz : szL Tb.sz s ≤ 1048576) :
  Calls Tryz.prog 25 #[.slice AS nS cS] w fun e w' => e = .returned (.bool (schemaB s)) ∧ Below w.heap.size w w' := by
 obtain rfl : s.length = nS := hs.1
 have hn : s.length ≤ 1048576 := by unfold szL at hsz; omega
 have HSZ := Lib.hid hsz
 have HT := Lib.hid (fun k (hlt : k < s.length) => show s[k].sz ≤ 1048576 by have := HSZ.out; have := sum_mem_le Tb.sz s k hlt; unfold szL at *; omega)
 clear hsz
 by_cases h5 : 5 < (s.length : Int)
 ·have HF := Lib.hid (show schemaB s = false by unfold schemaB; rw [decide_eq_false (by omega)]; rfl)
  go_enter Tryz.func25, Tryz.ntmps25
  go_wp2
  go_ret
  exact ⟨retB HF.out.symm, Below.refl _ _⟩
 have h5' : decide (5 < (s.length : Int)) = false := by simpa using h5
 have H5 := Lib.hid (show decide (s.length ≤ 5) = true from decide_eq_true (by omega))
 go_enter Tryz.func25, Tryz.ntmps25
 go_wp2_with fail
 go_loopw [13] (fun i wr => ∃ k : Nat, k ≤ s.length ∧ i = .int .i64 k ∧ Hid ((s.take k).all tableB = true) ∧ Below w.heap.size w wr) (fun i _ => s.length - (intOf i).toNat)
 case atStart => exact ⟨0, by omega, rfl, Lib.hid (by simp), Below.refl _ _⟩
 case round =>
  obtain ⟨k, hk, rfl, hall, hb⟩ := hrel
  by_cases hlt : k < s.length
  ·obtain ⟨b, off, A1, n1, c1, A2, n2, c2, A3, n3, c3, A4, n4, c4, A5, n5, c5, -, rfl, q0, q1, q2, q3, q4, q5, s1, s2, s3, s4, s5, -⟩ := TbR.at_ (hs.below TbR.stays hb) hlt
   have hsn := all_take tableB s k hlt
   rw [hall.out, Bool.true_and] at hsn
   have hno := fun hf => all_no tableB s k hlt hf
   have HX := Lib.hid (HT.out k hlt)
   have hbx := (Below.refl wr.heap.size wr).alloc (Nat.le_refl _) (.cells #[.string s[k].name, .slice A1 n1 c1, .slice A2 n2 c2, .slice A3 n3 c3, .slice A4 n4 c4, .slice A5 n5 c5] 57)
   have hba := hb.trans (hbx.mono hb.size)
   have r0 := Row.new wr 57 #[.string s[k].name, .slice A1 n1 c1, .slice A2 n2 c2, .slice A3 n3 c3, .slice A4 n4 c4, .slice A5 n5 c5]
   obtain ⟨⟨f0, f1, f2, f3, f4, f5⟩, -⟩ := r0.all6
   have HC := Lib.hid (implTableOk s[k] A1 n1 c1 A2 n2 c2 A3 n3 c3 A4 n4 c4 A5 n5 c5 ok _ (s1.below ClR.stays hbx) (s2.below IntR.stays hbx) (s3.below UqR.stays hbx) (s4.below CkR.stays hbx) (s5.below FkR.stays hbx) HX.out)
   cases hc : tableB s[k]
   ·have HCC := Lib.hid hc
    have HF := Lib.hid (show schemaB s = false by unfold schemaB; rw [hno hc]; simp)
    clear hsn hno hall hc
    go_wp2_with fail
    refine HC.out.mono ?_
    rintro e w1 ⟨rfl, hb1⟩
    rw [HCC.out]
    clear HC
    go_wp2_with fail
    go_ret
    exact ⟨retB HF.out.symm, hba.trans (hb1.mono hba.size)⟩
   ·have HCC := Lib.hid hc
    have HA := Lib.hid (hsn.trans hc)
    clear hsn hno hall hc
    go_wp2_with fail
    refine HC.out.mono ?_
    rintro e w1 ⟨rfl, hb1⟩
    rw [HCC.out]
    clear HC
    go_wp2_with fail
    go_roundw
    case rel => exact ⟨k + 1, by omega, by go_num, Lib.hid HA.out, hba.trans (hb1.mono hba.size)⟩
    case measure => simp [intOf]; omega
  ·have e : s.take k = s := List.take_of_length_le (by omega)
   have g1 := hall.out
   rw [e] at g1
   have HALL := Lib.hid g1
   have HU := Lib.hid (cntGo_uniq (s.map Tb.name) [])
   clear e g1 hall
   go_wp2_with fail
   refine (implTablePlaces AS s.length cS s ok _ (hs.below TbR.stays hb) HSZ.out).mono ?_
   rintro e w1 ⟨bm, rfl, hp, hbb, hb1⟩
   have hbz := hb.trans (hb1.mono hb.size)
   obtain ⟨D, p1, p2, p3, p4, p5⟩ := id hp
   clear p2 p3 p4
   have hu := HU.out
   rw [← p5, List.length_map] at hu
   clear p5
   cases huq : uniqGo [] (s.map Tb.name)
   ·have hne : ¬ ((Maps.size D : Int) = s.length) := by
     rw [huq] at hu; have := beq_eq_false_iff_ne.1 hu; omega
    have HF := Lib.hid (show schemaB s = false by unfold schemaB; rw [huq]; simp)
    clear hu huq
    go_wp2_with (first | (at_len; refine wpList_len_own _ rfl _ 97 rfl 9 2 Tryz.underlying97 _ bm _ D rfl p1 ?_))
    go_ret
    exact ⟨retB HF.out.symm, hbz⟩
   have heq : (Maps.size D : Int) = s.length := by rw [huq] at hu; have : Maps.size D = s.length := by simpa using hu
                                                   omega
   have HUQ := Lib.hid huq
   clear hu huq hk hlt
   go_wp2_with (first | (at_len; refine wpList_len_own _ rfl _ 97 rfl 9 2 Tryz.underlying97 _ bm _ D rfl p1 ?_))
   clear heq p1
   go_loopw [30] (fun i wr => ∃ k : Nat, k ≤ s.length ∧ i = .int .i64 k ∧ Hid ((s.take k).all (leadsB s) = true) ∧ PlacesIn wr bm (s.map Tb.name) ∧ Below w.heap.size w wr) (fun i _ => s.length - (intOf i).toNat)
   case atStart => exact ⟨0, by omega, rfl, Lib.hid (by simp), hp, hbz⟩
   case round =>
    clear hp hbz hb1 hb
    obtain ⟨k, hk, rfl, hall, hp, hb⟩ := hrel
    by_cases hlt : k < s.length
    ·obtain ⟨b, off, A1, n1, c1, A2, n2, c2, A3, n3, c3, A4, n4, c4, A5, n5, c5, -, ea, q0, q1, q2, q3, q4, q5, s1, s2, s3, s4, s5, -⟩ := TbR.at_ (hs.below TbR.stays hb) hlt
     subst ea
     have hsn := all_take (leadsB s) s k hlt
     rw [hall.out, Bool.true_and] at hsn
     have hno := fun hf => all_no (leadsB s) s k hlt hf
     have HX := Lib.hid (HT.out k hlt)
     have HTB := Lib.hid (show tableB s[k] = true from List.all_eq_true.1 HALL.out _ (List.getElem_mem hlt))
     have hbx := (Below.refl wr.heap.size wr).alloc (Nat.le_refl _) (.cells #[.string s[k].name, .slice A1 n1 c1, .slice A2 n2 c2, .slice A3 n3 c3, .slice A4 n4 c4, .slice A5 n5 c5] 57)
     have hba := hb.trans (hbx.mono hb.size)
     have hp1 := hp.below hbx
     have r0 := Row.new wr 57 #[.string s[k].name, .slice A1 n1 c1, .slice A2 n2 c2, .slice A3 n3 c3, .slice A4 n4 c4, .slice A5 n5 c5]
     obtain ⟨⟨f0, f1, f2, f3, f4, f5⟩, -⟩ := r0.all6
     have HC := Lib.hid (implFksLead s s[k] _ s.length cS bm A1 n1 c1 A2 n2 c2 A3 n3 c3 A4 n4 c4 A5 n5 c5 ok _ (hs.below TbR.stays hba) hp1 (s1.below ClR.stays hbx) (s5.below FkR.stays hbx) HTB.out HALL.out HSZ.out HX.out)
     cases hc : leadsB s s[k]
     ·have HCC := Lib.hid hc
      have HF := Lib.hid (show schemaB s = false by unfold schemaB; rw [hno hc]; simp)
      clear hsn hno hall hc
      go_wp2_with fail
      refine HC.out.mono ?_
      rintro e w1 ⟨rfl, hb1⟩
      rw [HCC.out]
      clear HC
      go_wp2_with fail
      go_ret
      exact ⟨retB HF.out.symm, hba.trans (hb1.mono hba.size)⟩
     ·have HCC := Lib.hid hc
      have HA := Lib.hid (hsn.trans hc)
      clear hsn hno hall hc
      go_wp2_with fail
      refine HC.out.mono ?_
      rintro e w1 ⟨rfl, hb1⟩
      rw [HCC.out]
      clear HC
      go_wp2_with fail
      go_roundw
      case rel => exact ⟨k + 1, by omega, by go_num, Lib.hid HA.out, hp1.below hb1, hba.trans (hb1.mono hba.size)⟩
      case measure => simp [intOf]; omega
    ·have e : s.take k = s := List.take_of_length_le (by omega)
     have g1 := hall.out
     rw [e] at g1
     have HF := Lib.hid (show schemaB s = true by unfold schemaB; rw [H5.out, HALL.out, HUQ.out, g1]; rfl)
     clear e g1 hall
     go_wp2_with fail
     go_ret
     exact ⟨retB HF.out.symm, hb⟩
end Go.Proofs.YtkehfilmpdoglaaGreat
namespace Go.Proofs.YtkehfilmpdoglaaGreat
open Go.RowKit Go.Maps
def fitV (p : Cl × Vl) : Bool := fitsB p.1.kind p.2
def fitAll (cols : List Cl) (row : List Vl) : Bool := (cols.zip row).all fitV
def kindsB (cols : List Cl) (row : List Vl) : Bool := decide (row.length = cols.length) && fitAll cols row
theorem keepF {w w' : World} {a0 a1 a2 a3 a4 : Addr} {v0 v1 v2 v3 v4 : Value} (h : w.cell? a0 = some v0 ∧ w.cell? a1 = some v1 ∧ w.cell? a2 = some v2 ∧ w.cell? a3 = some v3 ∧ w.cell? a4 = some v4) (hb : Below w.heap.size w w') : w'.cell? a0 = some v0 ∧ w'.cell? a1 = some v1 ∧ w'.cell? a2 = some v2 ∧ w'.cell? a3 = some v3 ∧ w'.cell? a4 = some v4 := by
 obtain ⟨h0, h1, h2, h3, h4⟩ := h
 exact ⟨(hb.cell (cell_lt h0)).trans h0, (hb.cell (cell_lt h1)).trans h1, (hb.cell (cell_lt h2)).trans h2, (hb.cell (cell_lt h3)).trans h3, (hb.cell (cell_lt h4)).trans h4⟩
set_option maxRecDepth 100000 in
set_option maxHeartbeats 1000000 in
theorem implFitsAt (g o : Nat) (A1 AR : Option Addr) (n1 c1 nR cR : Nat) (cols : List Cl) (row : List Vl) (ok : Nat → Prop) (w : World)
  (x1 : w.cell? ⟨g, o + 1, none⟩ = some (.slice A1 n1 c1)) (h : Sl ClR 6 ok w A1 n1 cols) (hv : Vals w AR nR row) (hn1 : n1 ≤ 1048576) (hn2 : nR ≤ 1048576) :
  Calls Tryz.prog 51 #[.pointer (some ⟨g, o, none⟩), .slice AR nR cR] w fun e w' => e = .returned (.bool (kindsB cols row)) ∧ Below w.heap.size w w' := by
 obtain rfl : cols.length = n1 := h.1
 obtain rfl : row.length = nR := hv.len
 cases hl : (row.length == cols.length)
 ·have hl' : ¬ ((row.length : Int) = cols.length) := by have := beq_eq_false_iff_ne.1 hl; omega
  have HF := Lib.hid (show kindsB cols row = false by unfold kindsB; rw [decide_eq_false (beq_eq_false_iff_ne.1 hl)]; rfl)
  clear hl
  go_enter Tryz.func51, Tryz.ntmps51
  go_wp2
  go_ret
  exact ⟨retB HF.out.symm, Below.refl _ _⟩
 have hlen : row.length = cols.length := by simpa using hl
 have hl' : (row.length : Int) = cols.length := by omega
 have hz : (cols.zip row).length = cols.length := by simp [hlen]
 have HZ := Lib.hid hz
 have HL := Lib.hid hlen
 have HE := Lib.hid (show kindsB cols row = fitAll cols row by unfold kindsB; rw [decide_eq_true hlen]; rfl)
 clear hl hz hlen
 go_enter Tryz.func51, Tryz.ntmps51
 go_wp2
 go_loopw [17] (fun i wr => ∃ k : Nat, k ≤ cols.length ∧ i = .int .i64 k ∧ Hid (((cols.zip row).take k).all fitV = true) ∧ Below w.heap.size w wr) (fun i _ => cols.length - (intOf i).toNat)
 case atStart => exact ⟨0, by omega, rfl, Lib.hid (by simp), Below.refl _ _⟩
 case round =>
  obtain ⟨k, hk, rfl, hall, hb⟩ := hrel
  by_cases hlt : k < cols.length
  ·have hlt2 : k < row.length := by have := HL.out; omega
   have hbx := (Below.refl wr.heap.size wr).alloc (Nat.le_refl _) (.cells #[.int .i64 row[k].k, .int .i64 row[k].n, .string row[k].s] 84)
   have hba := hb.trans (hbx.mono hb.size)
   have rv := Row.new wr 84 #[.int .i64 row[k].k, .int .i64 row[k].n, .string row[k].s]
   obtain ⟨b2, off2, rfl, p0, p1, p2⟩ := (hv.below hb).at_ hlt2
   obtain ⟨b, off, -, rfl, q0, q1, q2, q3, q4, q5⟩ := ClR.at_ (h.below ClR.stays hba) hlt
   have d1 := (hba.cell (cell_lt x1)).trans x1
   obtain ⟨⟨f0, f1, f2⟩, -⟩ := rv.three
   have hsn := all_take fitV (cols.zip row) k (by rw [HZ.out]; exact hlt)
   have hno := fun hf => all_no fitV (cols.zip row) k (by rw [HZ.out]; exact hlt) hf
   have eg : fitV ((cols.zip row)[k]'(by rw [HZ.out]; exact hlt)) = fitsB cols[k].kind row[k] := by rw [List.getElem_zip]; rfl
   rw [hall.out, Bool.true_and, eg] at hsn
   rw [eg] at hno
   have i0 : (0 : Int) ≤ k := by omega
   have i1 : (k : Int) < cols.length := by omega
   have i2 : (k : Int) < row.length := by have := HL.out; omega
   clear eg
   cases hc : fitsB cols[k].kind row[k]
   ·have HC := Lib.hid hc
    have HF := Lib.hid (show kindsB cols row = false by rw [HE.out]; exact hno hc)
    clear hsn hno hc hall
    go_wp2_with fail
    go_region_held3 (fun w' => w'.cell? ⟨g, o + 1, none⟩ = some (.slice (some ⟨b, off, none⟩) cols.length c1) ∧ w'.cell? ⟨b, off + k * 6 + 1, none⟩ = some (.int .i64 cols[k].kind) ∧ w'.cell? ⟨wr.heap.size, 0, none⟩ = some (.int .i64 row[k].k) ∧ w'.cell? ⟨wr.heap.size, 1, none⟩ = some (.int .i64 row[k].n) ∧ w'.cell? ⟨wr.heap.size, 2, none⟩ = some (.string row[k].s))
     (first | go_keep | exact keepF (by assumption) hb1)
     (first | (go_at_call 76; refine (implValFits cols[k].kind row[k] _).mono ?_; rintro e w1 ⟨rfl, hb1⟩; rw [HC.out]))
    all_goals
     go_wp2
     go_ret
     exact ⟨retB HF.out.symm, hba.drew.trans (hb1.mono hba.size)⟩
   ·have HC := Lib.hid hc
    have HA := Lib.hid (hsn.trans hc)
    clear hsn hno hc hall
    go_wp2_with fail
    go_region_held3 (fun w' => w'.cell? ⟨g, o + 1, none⟩ = some (.slice (some ⟨b, off, none⟩) cols.length c1) ∧ w'.cell? ⟨b, off + k * 6 + 1, none⟩ = some (.int .i64 cols[k].kind) ∧ w'.cell? ⟨wr.heap.size, 0, none⟩ = some (.int .i64 row[k].k) ∧ w'.cell? ⟨wr.heap.size, 1, none⟩ = some (.int .i64 row[k].n) ∧ w'.cell? ⟨wr.heap.size, 2, none⟩ = some (.string row[k].s))
     (first | go_keep | exact keepF (by assumption) hb1)
     (first | (go_at_call 76; refine (implValFits cols[k].kind row[k] _).mono ?_; rintro e w1 ⟨rfl, hb1⟩; rw [HC.out]))
    all_goals
     go_wp2
     go_roundw
     case rel => exact ⟨k + 1, by omega, by go_num, Lib.hid HA.out, hba.drew.trans (hb1.mono hba.size)⟩
     case measure => simp [intOf]; omega
  ·have e : (cols.zip row).take k = cols.zip row := List.take_of_length_le (by rw [HZ.out]; omega)
   have h1 := hall.out
   rw [e] at h1
   have HF := Lib.hid (show kindsB cols row = true by rw [HE.out]; exact h1)
   clear e h1 hall
   go_wp2
   go_ret
   exact ⟨retB HF.out.symm, hb⟩
def idsGo (cols : List Cl) : Int → List Rw → Bool
 | _, [] => true
 | last, r :: rs => decide (last < r.id) && (decide (r.id ≤ 1000000000) && (kindsB cols r.vals && idsGo cols r.id rs))
def dataB (cols : List Cl) (l : List Rw) : Bool := decide (l.length ≤ 60) && idsGo cols 0 l
def dbV (p : Tb × Dt) : Bool := dataB p.1.cols p.2.rows
def dbB (s : List Tb) (db : List Dt) : Bool := schemaB s && (decide (db.length = s.length) && (s.zip db).all dbV)
theorem idsGo_at (cols : List Cl) (last : Int) (l : List Rw) (k : Nat) (h : k < l.length) : idsGo cols last (l.drop k) = (decide (last < l[k].id) && (decide (l[k].id ≤ 1000000000) && (kindsB cols l[k].vals && idsGo cols l[k].id (l.drop (k + 1))))) := by
 rw [List.drop_eq_getElem_cons h]; rfl
set_option maxRecDepth 100000 in
set_option maxHeartbeats 1000000 in
theorem implDataOk (g o gd od : Nat) (A1 AL : Option Addr) (n1 c1 nL cL : Nat) (cols : List Cl) (l : List Rw) (ok : Nat → Prop) (w : World)
  (x1 : w.cell? ⟨g, o + 1, none⟩ = some (.slice A1 n1 c1)) (y0 : w.cell? ⟨gd, od, none⟩ = some (.slice AL nL cL)) (h : Sl ClR 6 ok w A1 n1 cols) (hl : Sl RwR 2 ok w AL nL l) (hn1 : n1 ≤ 1048576) (hvs : ∀ r ∈ l, r.vals.length ≤ 1048576) (hnL : nL ≤ 1048576) :
  Calls Tryz.prog 33 #[.pointer (some ⟨g, o, none⟩), .pointer (some ⟨gd, od, none⟩)] w fun e w' => e = .returned (.bool (dataB cols l)) ∧ Below w.heap.size w w' := by
 obtain rfl : l.length = nL := hl.1
 have HVS := Lib.hid hvs
 clear hvs
 by_cases hbig : 60 < (l.length : Int)
 ·have HF := Lib.hid (show dataB cols l = false by unfold dataB; rw [decide_eq_false (by omega)]; rfl)
  go_enter Tryz.func33, Tryz.ntmps33
  go_wp2
  go_ret
  exact ⟨retB HF.out.symm, Below.refl _ _⟩
 have hbig' : decide (60 < (l.length : Int)) = false := by simpa using hbig
 have HE := Lib.hid (show dataB cols l = idsGo cols 0 l by unfold dataB; rw [decide_eq_true (by omega)]; rfl)
 go_enter Tryz.func33, Tryz.ntmps33
 go_wp2_with fail
 go_loopw [5, 19] (fun m i wr => ∃ (k : Nat) (last : Int), k ≤ l.length ∧ i = .int .i64 k ∧ m = .int .i64 last ∧ Hid (idsGo cols 0 l = idsGo cols last (l.drop k)) ∧ Below w.heap.size w wr) (fun _ i _ => l.length - (intOf i).toNat)
 case atStart => exact ⟨0, 0, by omega, rfl, rfl, Lib.hid (by simp), Below.refl _ _⟩
 case round =>
  obtain ⟨k, last, hk, rfl, rfl, hgo, hb⟩ := hrel
  by_cases hlt : k < l.length
  ·have d1 := (hb.cell (cell_lt x1)).trans x1
   have e0 := (hb.cell (cell_lt y0)).trans y0
   obtain ⟨b, off, A9, n9, c9, -, ea, q0, q1, hvl, -⟩ := RwR.at_ (hl.below RwR.stays hb) hlt
   rw [ea] at e0
   obtain rfl : l[k].vals.length = n9 := hvl.1
   have HN9 := Lib.hid (HVS.out _ (List.getElem_mem hlt))
   have hst := idsGo_at cols last l k hlt
   rw [← hgo.out, ← HE.out] at hst
   have hst0 := HE.out
   have i0 : (0 : Int) ≤ k := by omega
   have i1 : (k : Int) < l.length := by omega
   clear ea hgo
   by_cases h1 : l[k].id ≤ last
   ·have HF := Lib.hid (show dataB cols l = false by rw [hst, decide_eq_false (by omega)]; rfl)
    have h1' : decide (l[k].id ≤ last) = true := decide_eq_true h1
    clear hst hst0
    go_wp2_with fail
    go_ret
    exact ⟨retB HF.out.symm, hb⟩
   have h1' : decide (l[k].id ≤ last) = false := decide_eq_false h1
   by_cases h2 : 1000000000 < l[k].id
   ·have HF := Lib.hid (show dataB cols l = false by rw [hst, decide_eq_false (p := l[k].id ≤ 1000000000) (by omega)]; simp)
    have h2' : decide (1000000000 < l[k].id) = true := decide_eq_true h2
    clear hst hst0
    go_wp2_with fail
    go_ret
    exact ⟨retB HF.out.symm, hb⟩
   have h2' : decide (1000000000 < l[k].id) = false := decide_eq_false h2
   rw [decide_eq_true (p := last < l[k].id) (by omega), decide_eq_true (p := l[k].id ≤ 1000000000) (by omega), Bool.true_and, Bool.true_and] at hst
   have hcall := implFitsAt g o A1 A9 n1 c1 l[k].vals.length c9 cols l[k].vals ok _ d1 (h.below ClR.stays hb) (Sl.cellz (fun _ => rfl) hvl) hn1 HN9.out
   have HC := Lib.hid hcall
   clear hcall
   cases hc : kindsB cols l[k].vals
   ·have HCC := Lib.hid hc
    have HF := Lib.hid (show dataB cols l = false by rw [hst, hc]; rfl)
    clear hst hst0 hc
    go_wp2_with fail
    refine HC.out.mono ?_
    rintro e w1 ⟨rfl, hb1⟩
    rw [HCC.out]
    clear HC
    go_wp2_with fail
    go_ret
    exact ⟨retB HF.out.symm, hb.trans (hb1.mono hb.size)⟩
   ·have HCC := Lib.hid hc
    have HG := Lib.hid (show idsGo cols 0 l = idsGo cols l[k].id (l.drop (k + 1)) by rw [← hst0, hst, hc]; rfl)
    clear hst hst0 hc
    go_wp2_with fail
    refine HC.out.mono ?_
    rintro e w1 ⟨rfl, hb1⟩
    rw [HCC.out]
    clear HC
    have q0' := (hb1.cell (cell_lt q0)).trans q0
    go_wp2_with fail
    go_roundw
    case rel => exact ⟨k + 1, l[k].id, by omega, by go_num, rfl, Lib.hid HG.out, hb.trans (hb1.mono hb.size)⟩
    case measure => simp [intOf]; omega
  ·have e : l.drop k = [] := List.drop_eq_nil_of_le (by omega)
   have g1 := hgo.out
   rw [e] at g1
   have HF := Lib.hid (show dataB cols l = true by rw [HE.out, g1]; rfl)
   clear e g1 hgo
   go_wp2_with fail
   go_ret
   exact ⟨retB HF.out.symm, hb⟩
set_option maxRecDepth 100000 in
set_option maxHeartbeats 1000000 in
theorem implDbOk (AS AD : Option Addr) (nS cS nD cD : Nat) (s : List Tb) (db : List Dt) (ok : Nat → Prop) (w : World) (hs : Sl TbR 6 ok w AS nS s) (hd : Sl DtR 1 ok w AD nD db) (hsz : szL Tb.sz s ≤ 1048576) (hdz : szL Dt.sz db ≤ 1048576) (hvs : ∀ d ∈ db, ∀ r ∈ d.rows, r.vals.length ≤ 1048576) :
  Calls Tryz.prog 20 #[.slice AS nS cS, .slice AD nD cD] w fun e w' => e = .returned (.bool (dbB s db)) ∧ Below w.heap.size w w' := by
 obtain rfl : s.length = nS := hs.1
 obtain rfl : db.length = nD := hd.1
 have hn1 : s.length ≤ 1048576 := by unfold szL at hsz; omega
 have hn2 : db.length ≤ 1048576 := by unfold szL at hdz; omega
 have HSZ := Lib.hid hsz
 have HDZ := Lib.hid hdz
 have HVS := Lib.hid hvs
 clear hsz hdz hvs
 cases hS : schemaB s
 ·have HS := Lib.hid hS
  have HF := Lib.hid (show dbB s db = false by unfold dbB; rw [hS]; rfl)
  clear hS
  go_enter Tryz.func20, Tryz.ntmps20
  go_wp2_with fail
  refine (implSchemaOk AS s.length cS s ok _ hs HSZ.out).mono ?_
  rintro e w1 ⟨rfl, hb1⟩
  rw [HS.out]
  go_wp2_with fail
  go_ret
  exact ⟨retB HF.out.symm, hb1⟩
 have HS := Lib.hid hS
 clear hS
 cases hl : (db.length == s.length)
 ·have hl' : ¬ ((db.length : Int) = s.length) := by have := beq_eq_false_iff_ne.1 hl; omega
  have HF := Lib.hid (show dbB s db = false by unfold dbB; rw [decide_eq_false (beq_eq_false_iff_ne.1 hl)]; simp)
  clear hl
  go_enter Tryz.func20, Tryz.ntmps20
  go_wp2_with fail
  refine (implSchemaOk AS s.length cS s ok _ hs HSZ.out).mono ?_
  rintro e w1 ⟨rfl, hb1⟩
  rw [HS.out]
  go_wp2_with fail
  go_ret
  exact ⟨retB HF.out.symm, hb1⟩
 have hlen : db.length = s.length := by simpa using hl
 have hl' : (db.length : Int) = s.length := by omega
 have hz : (s.zip db).length = db.length := by simp [hlen]
 have HZ := Lib.hid hz
 have HL := Lib.hid hlen
 have HE := Lib.hid (show dbB s db = (s.zip db).all dbV by unfold dbB; rw [HS.out, decide_eq_true hlen]; rfl)
 clear hl hz hlen
 go_enter Tryz.func20, Tryz.ntmps20
 go_wp2_with fail
 refine (implSchemaOk AS s.length cS s ok _ hs HSZ.out).mono ?_
 rintro e w1 ⟨rfl, hb1⟩
 rw [HS.out]
 go_wp2_with fail
 clear hl'
 go_loopw [18] (fun i wr => ∃ k : Nat, k ≤ db.length ∧ i = .int .i64 k ∧ Hid (((s.zip db).take k).all dbV = true) ∧ Below w.heap.size w wr) (fun i _ => db.length - (intOf i).toNat)
 case atStart => exact ⟨0, by omega, rfl, Lib.hid (by simp), hb1⟩
 case round =>
  clear hb1
  obtain ⟨k, hk, rfl, hall, hb⟩ := hrel
  by_cases hlt : k < db.length
  ·have hlt2 : k < s.length := by have := HL.out; omega
   obtain ⟨b, off, A1, n1, c1, A2, n2, c2, A3, n3, c3, A4, n4, c4, A5, n5, c5, -, ea, q0, q1, q2, q3, q4, q5, s1, s2, s3, s4, s5, -⟩ := TbR.at_ (hs.below TbR.stays hb) hlt2
   subst ea
   obtain ⟨bd, offd, A9, n9, c9, -, ed, y0, hrs, -⟩ := DtR.at_ (hd.below DtR.stays hb) hlt
   subst ed
   obtain rfl : db[k].rows.length = n9 := hrs.1
   obtain rfl : s[k].cols.length = n1 := s1.1
   have hcn : s[k].cols.length ≤ 1048576 := by have h1 := HSZ.out; have := sum_mem_le Tb.sz s k hlt2; simp only [szL, Tb.sz] at *; omega
   have hrn : db[k].rows.length ≤ 1048576 := by have h1 := HDZ.out; have := sum_mem_le Dt.sz db k hlt; simp only [szL, Dt.sz] at *; omega
   have HV := Lib.hid (HVS.out _ (List.getElem_mem hlt))
   have hsn := all_take dbV (s.zip db) k (by rw [HZ.out]; exact hlt)
   have hno := fun hf => all_no dbV (s.zip db) k (by rw [HZ.out]; exact hlt) hf
   have eg : dbV ((s.zip db)[k]'(by rw [HZ.out]; exact hlt)) = dataB s[k].cols db[k].rows := by rw [List.getElem_zip]; rfl
   rw [hall.out, Bool.true_and, eg] at hsn
   rw [eg] at hno
   have i0 : (0 : Int) ≤ k := by omega
   have i1 : (k : Int) < db.length := by omega
   have i2 : (k : Int) < s.length := by omega
   clear eg
   have HC := Lib.hid (implDataOk b (off + k * 6) bd (offd + k) A1 A9 s[k].cols.length c1 db[k].rows.length c9 s[k].cols db[k].rows ok wr.drew q1 y0 (s1.drew ClR.stays) (hrs.drew RwR.stays) hcn HV.out hrn)
   cases hc : dataB s[k].cols db[k].rows
   ·have HCC := Lib.hid hc
    have HF := Lib.hid (show dbB s db = false by rw [HE.out]; exact hno hc)
    clear hsn hno hall hc
    go_wp2_with fail
    go_region_held3 (fun w' => w'.cell? ⟨b, off + k * 6 + 1, none⟩ = some (.slice A1 s[k].cols.length c1) ∧ w'.cell? ⟨bd, offd + k, none⟩ = some (.slice A9 db[k].rows.length c9))
     (first | go_keep | exact ⟨below_keep hq _ _ q1, below_keep hq _ _ y0⟩)
     (first | (go_at_call 33; refine HC.out.mono ?_; rintro e w2 ⟨rfl, hq⟩; rw [HCC.out]))
    go_wp2_with fail
    go_ret
    exact ⟨retB HF.out.symm, hb.drew.trans (hq.mono hb.size)⟩
   ·have HCC := Lib.hid hc
    have HA := Lib.hid (hsn.trans hc)
    clear hsn hno hall hc
    go_wp2_with fail
    go_region_held3 (fun w' => w'.cell? ⟨b, off + k * 6 + 1, none⟩ = some (.slice A1 s[k].cols.length c1) ∧ w'.cell? ⟨bd, offd + k, none⟩ = some (.slice A9 db[k].rows.length c9))
     (first | go_keep | exact ⟨below_keep hq _ _ q1, below_keep hq _ _ y0⟩)
     (first | (go_at_call 33; refine HC.out.mono ?_; rintro e w2 ⟨rfl, hq⟩; rw [HCC.out]))
    go_wp2_with fail
    go_roundw
    case rel => exact ⟨k + 1, by omega, by go_num, Lib.hid HA.out, hb.drew.trans (hq.mono hb.size)⟩
    case measure => simp [intOf]; omega
  ·have e : (s.zip db).take k = s.zip db := List.take_of_length_le (by rw [HZ.out]; omega)
   have g1 := hall.out
   rw [e] at g1
   have HF := Lib.hid (show dbB s db = true by rw [HE.out]; exact g1)
   have i3 : ¬ (k : Int) < s.length := by have := HL.out; omega
   clear e g1 hall
   go_wp2_with fail
   go_ret
   exact ⟨retB HF.out.symm, hb⟩
end Go.Proofs.YtkehfilmpdoglaaGreat
namespace Go.Proofs.YtkehfilmpdoglaaGreat
open Go.RowKit
set_option maxRecDepth 100000 in
set_option maxHeartbeats 8000000 in
theorem implCopyTable (b off : Nat) (x : Tb) (A1 : Option Addr) (n1 c1 : Nat) (A2 : Option Addr) (n2 c2 : Nat) (A3 : Option Addr) (n3 c3 : Nat) (A4 : Option Addr) (n4 c4 : Nat) (A5 : Option Addr) (n5 c5 : Nat) (ok : Nat → Prop) (w : World)
  (q0 : w.cell? ⟨b, off, none⟩ = some (.string x.name)) (q1 : w.cell? ⟨b, off + 1, none⟩ = some (.slice A1 n1 c1)) (q2 : w.cell? ⟨b, off + 2, none⟩ = some (.slice A2 n2 c2)) (q3 : w.cell? ⟨b, off + 3, none⟩ = some (.slice A3 n3 c3)) (q4 : w.cell? ⟨b, off + 4, none⟩ = some (.slice A4 n4 c4)) (q5 : w.cell? ⟨b, off + 5, none⟩ = some (.slice A5 n5 c5))
  (h1 : Sl ClR 6 ok w A1 n1 x.cols) (h2 : Sl IntR 1 ok w A2 n2 x.key) (h3 : Sl UqR 1 ok w A3 n3 x.uniqs) (h4 : Sl CkR 1 ok w A4 n4 x.checks) (h5 : Sl FkR 5 ok w A5 n5 x.fks) (hx : x.sz ≤ 1048576) :
  Calls Tryz.prog 46 #[.pointer (some ⟨b, off, none⟩)] w fun e w' => ∃ (cs : Array Value) (bs : List Nat), e = .returned (.agg cs) ∧ TbO w' w.heap.size cs.toList x bs ∧ Below w.heap.size w w' := by
 have hb := cell_lt q0
 simp only at hb
 obtain rfl : x.cols.length = n1 := h1.1
 obtain rfl : x.key.length = n2 := h2.1
 obtain rfl : x.uniqs.length = n3 := h3.1
 obtain rfl : x.checks.length = n4 := h4.1
 obtain rfl : x.fks.length = n5 := h5.1
 have L1 : x.cols.length ≤ 1073741824 := by have := h1.1; unfold Tb.sz szL at hx; omega
 have L2 : x.key.length ≤ 1073741824 := by have := h2.1; unfold Tb.sz szL at hx; omega
 have L3 : x.uniqs.length ≤ 1073741824 := by have := h3.1; unfold Tb.sz szL at hx; omega
 have G3 := Lib.hid (show ∀ y ∈ x.uniqs, y.cols.length ≤ 1073741824 from fun y hy => by have k1 := szL_mem Uq.sz x.uniqs y hy; have k2 : y.cols.length ≤ y.sz := (by unfold Uq.sz; omega); unfold Tb.sz at hx; omega)
 have L4 : x.checks.length ≤ 1073741824 := by have := h4.1; unfold Tb.sz szL at hx; omega
 have G4 := Lib.hid (show ∀ y ∈ x.checks, y.expr.length ≤ 1073741824 from fun y hy => by have k1 := szL_mem Ck.sz x.checks y hy; have k2 : y.expr.length ≤ y.sz := (by unfold Ck.sz; unfold szL; omega); unfold Tb.sz at hx; omega)
 have L5 : x.fks.length ≤ 1073741824 := by have := h5.1; unfold Tb.sz szL at hx; omega
 have G5 := Lib.hid (show ∀ y ∈ x.fks, y.cols.length ≤ 1073741824 from fun y hy => by have k1 := szL_mem Fk.sz x.fks y hy; have k2 : y.cols.length ≤ y.sz := (by unfold Fk.sz; omega); unfold Tb.sz at hx; omega)
 have HX := Lib.hid hx
 clear hx
 have hz0 := chain2 w (.cells #[.string ⟨#[]⟩, .slice none 0 0, .slice none 0 0, .slice none 0 0, .slice none 0 0, .slice none 0 0] 57) (.cells #[.string x.name, .slice A1 x.cols.length c1, .slice A2 x.key.length c2, .slice A3 x.uniqs.length c3, .slice A4 x.checks.length c4, .slice A5 x.fks.length c5] 57)
 obtain ⟨r2, r3⟩ := rows2C w 57 #[.string ⟨#[]⟩, .slice none 0 0, .slice none 0 0, .slice none 0 0, .slice none 0 0, .slice none 0 0] #[.string x.name, .slice A1 x.cols.length c1, .slice A2 x.key.length c2, .slice A3 x.uniqs.length c3, .slice A4 x.checks.length c4, .slice A5 x.fks.length c5]
 have HZ := Lib.hid (show w.heap.size + 2 ≤ ((w.alloc (.cells #[.string ⟨#[]⟩, .slice none 0 0, .slice none 0 0, .slice none 0 0, .slice none 0 0, .slice none 0 0] 57)).alloc (.cells #[.string x.name, .slice A1 x.cols.length c1, .slice A2 x.key.length c2, .slice A3 x.uniqs.length c3, .slice A4 x.checks.length c4, .slice A5 x.fks.length c5] 57)).heap.size by simp)
 have hne : ¬ b = w.heap.size + 1 := by omega
 have hne2 : ¬ w.heap.size + 1 = b := by omega
 have s0 := Lib.hid q0
 have s1 := Lib.hid q1
 have s2 := Lib.hid q2
 have s3 := Lib.hid q3
 have s4 := Lib.hid q4
 have s5 := Lib.hid q5
 have hs1 := Lib.hid h1
 have hs2 := Lib.hid h2
 have hs3 := Lib.hid h3
 have hs4 := Lib.hid h4
 have hs5 := Lib.hid h5
 clear h1 h2 h3 h4 h5
 obtain ⟨i0, hi, hzi0, hzi1, hzi2⟩ := info_parts infoTableCl
 have HGI := Lib.hid (show (Tryz.prog.info? 57).map (·.size) = some 6 by rw [hi]; simp [hzi1])
 clear hi hzi0 hzi1 hzi2
 go_enter Tryz.func46, Tryz.ntmps46
 go_wp2_with fail
 generalize hzz : (w.alloc (.cells #[.string ⟨#[]⟩, .slice none 0 0, .slice none 0 0, .slice none 0 0, .slice none 0 0, .slice none 0 0] 57)).alloc (.cells #[.string x.name, .slice A1 x.cols.length c1, .slice A2 x.key.length c2, .slice A3 x.uniqs.length c3, .slice A4 x.checks.length c4, .slice A5 x.fks.length c5] 57) = z at *
 have HB0 := Lib.hid hz0
 have HR2 := Lib.hid r2
 have HR3 := Lib.hid r3
 clear hzz r2 r3 q0 q1 q2 q3 q4 q5 hz0
 have hcall1 := Lib.hid (show Sl ClR 6 ok (z) A1 x.cols.length x.cols from hs1.out.below ClR.stays HB0.out)
 have HSZ1 := Lib.hid (show w.heap.size + 2 ≤ (z).heap.size from HZ.out)
 refine (ownCloneCol A1 x.cols.length c1 x.cols ok _ hcall1.out L1).mono ?_
 rintro e w1 ⟨v1, b1, rfl, o1, k1⟩
 obtain ⟨B1, d1, rfl⟩ := o1.shape
 have HO1 := Lib.hid o1
 have HB1 := Lib.hid (HB0.out.trans (k1.mono HB0.out.size))
 have r1 := HR3.out.below k1
 obtain ⟨⟨p0, p1, p2, p3, p4, p5⟩, ⟨f0, f1, f2, f3, f4, f5⟩⟩ := r1.all6
 replace HR3 := Lib.hid (show Row (w1.setCell ⟨w.heap.size + 1, 1, none⟩ (.slice B1 x.cols.length d1)) (w.heap.size + 1) 57 #[.string x.name, .slice B1 x.cols.length d1, .slice A2 x.key.length c2, .slice A3 x.uniqs.length c3, .slice A4 x.checks.length c4, .slice A5 x.fks.length c5] from r1.set 1 _)
 replace HR2 := Lib.hid (show Row (w1.setCell ⟨w.heap.size + 1, 1, none⟩ (.slice B1 x.cols.length d1)) w.heap.size 57 #[.string ⟨#[]⟩, .slice none 0 0, .slice none 0 0, .slice none 0 0, .slice none 0 0, .slice none 0 0] from (HR2.out.below k1).far (by simp) _)
 have HKK1 := Lib.hid k1
 have HB1s := Lib.hid (show Below w.heap.size w (w1.setCell ⟨w.heap.size + 1, 1, none⟩ (.slice B1 x.cols.length d1)) from HB1.out.setCell (by simp) _)
 have KB1 := Lib.hid (show But (w.heap.size + 1) (z) (w1.setCell ⟨w.heap.size + 1, 1, none⟩ (.slice B1 x.cols.length d1)) from ((But.ofBelow HKK1.out).setCell (p := ⟨w.heap.size + 1, 1, none⟩) rfl _))
 have BW1 := Lib.hid (show But (w.heap.size + 1) w1 (w1.setCell ⟨w.heap.size + 1, 1, none⟩ (.slice B1 x.cols.length d1)) from (But.refl _ _).setCell (p := ⟨w.heap.size + 1, 1, none⟩) rfl _)
 have a2 := below_keep HB1.out _ _ s2.out
 clear r1 k1 o1
 go_wp2_with fail
 clear a2 p0 p1 p2 p3 p4 p5 f0 f1 f2 f3 f4 f5
 have hcall2 := Lib.hid (show Sl IntR 1 ok (w1.setCell ⟨w.heap.size + 1, 1, none⟩ (.slice B1 x.cols.length d1)) A2 x.key.length x.key from hs2.out.below IntR.stays HB1s.out)
 have HSZ2 := Lib.hid (show w.heap.size + 2 ≤ (w1.setCell ⟨w.heap.size + 1, 1, none⟩ (.slice B1 x.cols.length d1)).heap.size from Nat.le_trans HSZ1.out KB1.out.size)
 refine (ownCloneInt64 A2 x.key.length c2 x.key ok _ hcall2.out L2).mono ?_
 rintro e w2 ⟨v2, b2, rfl, o2, k2⟩
 obtain ⟨B2, d2, rfl⟩ := o2.shape
 have HO2 := Lib.hid o2
 have HB2 := Lib.hid (HB1s.out.trans (k2.mono HB1s.out.size))
 have r2 := HR3.out.below k2
 obtain ⟨⟨p0, p1, p2, p3, p4, p5⟩, ⟨f0, f1, f2, f3, f4, f5⟩⟩ := r2.all6
 replace HR3 := Lib.hid (show Row (w2.setCell ⟨w.heap.size + 1, 2, none⟩ (.slice B2 x.key.length d2)) (w.heap.size + 1) 57 #[.string x.name, .slice B1 x.cols.length d1, .slice B2 x.key.length d2, .slice A3 x.uniqs.length c3, .slice A4 x.checks.length c4, .slice A5 x.fks.length c5] from r2.set 2 _)
 replace HR2 := Lib.hid (show Row (w2.setCell ⟨w.heap.size + 1, 2, none⟩ (.slice B2 x.key.length d2)) w.heap.size 57 #[.string ⟨#[]⟩, .slice none 0 0, .slice none 0 0, .slice none 0 0, .slice none 0 0, .slice none 0 0] from (HR2.out.below k2).far (by simp) _)
 have HKK2 := Lib.hid k2
 have HB2s := Lib.hid (show Below w.heap.size w (w2.setCell ⟨w.heap.size + 1, 2, none⟩ (.slice B2 x.key.length d2)) from HB2.out.setCell (by simp) _)
 have KB2 := Lib.hid (show But (w.heap.size + 1) (w1.setCell ⟨w.heap.size + 1, 1, none⟩ (.slice B1 x.cols.length d1)) (w2.setCell ⟨w.heap.size + 1, 2, none⟩ (.slice B2 x.key.length d2)) from ((But.ofBelow HKK2.out).setCell (p := ⟨w.heap.size + 1, 2, none⟩) rfl _))
 have BW2 := Lib.hid (show But (w.heap.size + 1) w2 (w2.setCell ⟨w.heap.size + 1, 2, none⟩ (.slice B2 x.key.length d2)) from (But.refl _ _).setCell (p := ⟨w.heap.size + 1, 2, none⟩) rfl _)
 have a3 := below_keep HB2.out _ _ s3.out
 clear r2 k2 o2
 go_wp2_with fail
 clear a3 p0 p1 p2 p3 p4 p5 f0 f1 f2 f3 f4 f5
 have hcall3 := Lib.hid (show Sl UqR 1 ok (w2.setCell ⟨w.heap.size + 1, 2, none⟩ (.slice B2 x.key.length d2)) A3 x.uniqs.length x.uniqs from hs3.out.below UqR.stays HB2s.out)
 have HSZ3 := Lib.hid (show w.heap.size + 2 ≤ (w2.setCell ⟨w.heap.size + 1, 2, none⟩ (.slice B2 x.key.length d2)).heap.size from Nat.le_trans HSZ2.out KB2.out.size)
 refine (ownCloneUnique A3 x.uniqs.length c3 x.uniqs ok _ hcall3.out L3).mono ?_
 rintro e w3 ⟨v3, vs3, b3, rfl, l3, o3, e3, k3⟩
 obtain ⟨B3, d3, rfl⟩ := o3.shape l3 (Nat.zero_le _)
 have HO3 := Lib.hid o3
 have HE3 := Lib.hid e3
 have HL3 := Lib.hid l3
 clear e3 l3
 have HB3 := Lib.hid (HB2s.out.trans (k3.mono HB2s.out.size))
 have r3 := HR3.out.below k3
 obtain ⟨⟨p0, p1, p2, p3, p4, p5⟩, ⟨f0, f1, f2, f3, f4, f5⟩⟩ := r3.all6
 replace HR3 := Lib.hid (show Row (w3.setCell ⟨w.heap.size + 1, 3, none⟩ (.slice B3 x.uniqs.length d3)) (w.heap.size + 1) 57 #[.string x.name, .slice B1 x.cols.length d1, .slice B2 x.key.length d2, .slice B3 x.uniqs.length d3, .slice A4 x.checks.length c4, .slice A5 x.fks.length c5] from r3.set 3 _)
 replace HR2 := Lib.hid (show Row (w3.setCell ⟨w.heap.size + 1, 3, none⟩ (.slice B3 x.uniqs.length d3)) w.heap.size 57 #[.string ⟨#[]⟩, .slice none 0 0, .slice none 0 0, .slice none 0 0, .slice none 0 0, .slice none 0 0] from (HR2.out.below k3).far (by simp) _)
 have HKK3 := Lib.hid k3
 have HB3s := Lib.hid (show Below w.heap.size w (w3.setCell ⟨w.heap.size + 1, 3, none⟩ (.slice B3 x.uniqs.length d3)) from HB3.out.setCell (by simp) _)
 have KB3 := Lib.hid (show But (w.heap.size + 1) (w2.setCell ⟨w.heap.size + 1, 2, none⟩ (.slice B2 x.key.length d2)) (w3.setCell ⟨w.heap.size + 1, 3, none⟩ (.slice B3 x.uniqs.length d3)) from ((But.ofBelow HKK3.out).setCell (p := ⟨w.heap.size + 1, 3, none⟩) rfl _))
 have BW3 := Lib.hid (show But (w.heap.size + 1) w3 (w3.setCell ⟨w.heap.size + 1, 3, none⟩ (.slice B3 x.uniqs.length d3)) from (But.refl _ _).setCell (p := ⟨w.heap.size + 1, 3, none⟩) rfl _)
 have a4 := below_keep HB3.out _ _ s4.out
 have a3' := below_keep HB3.out _ _ s3.out
 clear r3 k3 o3
 go_wp2_with fail
 clear a4 p0 p1 p2 p3 p4 p5 f0 f1 f2 f3 f4 f5 a3'
 have HP3 := Lib.hid (show ∃ bs, OwnPt UqO 60 1 (w3.setCell ⟨w.heap.size + 1, 3, none⟩ (.slice B3 x.uniqs.length d3)) (w2.setCell ⟨w.heap.size + 1, 2, none⟩ (.slice B2 x.key.length d2)).heap.size (.slice B3 x.uniqs.length d3) x.uniqs vs3 0 bs from ⟨_, HO3.out.but UqO.good BW3.out (by have := HSZ3.out; omega)⟩)
 have HS3 := Lib.hid (show (w2.setCell ⟨w.heap.size + 1, 2, none⟩ (.slice B2 x.key.length d2)).heap.size ≤ (w3.setCell ⟨w.heap.size + 1, 3, none⟩ (.slice B3 x.uniqs.length d3)).heap.size from KB3.out.size)
 have HQ3 := Lib.hid (show (w2.setCell ⟨w.heap.size + 1, 2, none⟩ (.slice B2 x.key.length d2)).heap.size = w2.heap.size from by simp [World.setCell])
 have BC3 := Lib.hid (show But (w.heap.size + 1) w2 (w3.setCell ⟨w.heap.size + 1, 3, none⟩ (.slice B3 x.uniqs.length d3)) from BW2.out.trans KB3.out)
 generalize hyy3 : w3.setCell ⟨w.heap.size + 1, 3, none⟩ (.slice B3 x.uniqs.length d3) = y3 at *
 generalize hbb3 : (w2.setCell ⟨w.heap.size + 1, 2, none⟩ (.slice B2 x.key.length d2)).heap.size = S3 at HP3 HS3 HQ3 HSZ3
 clear hyy3
 go_loopw [31] (fun i wr => ∃ k : Nat, k ≤ x.uniqs.length ∧ i = .int .i64 k ∧ Hid (∃ bs, OwnPt UqO 60 1 wr S3 (.slice B3 x.uniqs.length d3) x.uniqs vs3 k bs) ∧ Hid (Row wr (w.heap.size + 1) 57 #[.string x.name, .slice B1 x.cols.length d1, .slice B2 x.key.length d2, .slice B3 x.uniqs.length d3, .slice A4 x.checks.length c4, .slice A5 x.fks.length c5]) ∧ Hid (Row wr w.heap.size 57 #[.string ⟨#[]⟩, .slice none 0 0, .slice none 0 0, .slice none 0 0, .slice none 0 0, .slice none 0 0]) ∧ Hid (But (w.heap.size + 1) w2 wr) ∧ Hid (Below w.heap.size w wr)) (fun i _ => x.uniqs.length - (intOf i).toNat)
 case atStart => exact ⟨0, by omega, rfl, HP3, HR3, HR2, BC3, HB3s⟩
 case round =>
 clear HP3 HR3 HR2 HB3s BC3
 obtain ⟨wr3, hwo3⟩ : ∃ wo, wo = wr := ⟨_, rfl⟩
 subst hwo3
 obtain ⟨k, hk, rfl, hP, HR3, HR2, BX3, HB3x⟩ := hrel
 by_cases hlt : k < x.uniqs.length
 ·obtain ⟨bs, hPk⟩ := hP.out
  have hkv : k < vs3.length := by rw [HL3.out]; exact hlt
  obtain ⟨Av, nv, cv, evk, -, -⟩ := HE3.out k hlt hkv
  obtain ⟨gg, cc, ev, -, -, hg1, hg2, hg3, hfr, hcell⟩ := hPk.at_ UqO.good HL3.out hlt
  obtain ⟨rfl, rfl⟩ : B3 = some ⟨gg, 0, none⟩ ∧ d3 = cc := by cases ev; exact ⟨rfl, rfl⟩
  obtain ⟨bu, ou, Au, nu, cu, -, e3, qu, hu, hcap⟩ := UqR.at_ hs3.out hlt
  have qu' := below_keep HB3x.out _ _ qu
  have qa := below_keep HB3x.out _ _ s3.out
  subst e3
  have qb : wr3.cell? ⟨w.heap.size + 1, 3, none⟩ = some (.slice (some ⟨gg, 0, none⟩) x.uniqs.length d3) := HR3.out.cell 3
  have qg : wr3.cell? ⟨gg, k, none⟩ = some (.slice Av nv cv) := by have := hcell 0 (.slice Av nv cv) (by rw [evk]; rfl); simpa using this
  have fg := hfr (k)
  have hud : Sl IntR 1 ok wr3.drew Au nu x.uniqs[k].cols := (hu.below IntR.stays HB3x.out).stays IntR.stays (fun _ h => h) (fun p v _ h => h)
  have hun : nu ≤ 1073741824 := by have h1 := hu.1; have h2 := G3.out x.uniqs[k] (List.getElem_mem hlt); omega
  have i0' : (0 : Int) ≤ k := by omega
  have i1 : (k : Int) < x.uniqs.length := by omega
  have hbu := cell_lt qu
  simp only at hbu
  have hn1 : gg ≠ w.heap.size + 1 := by have := HSZ3.out; omega
  have hn2 : gg ≠ b := by have := HSZ3.out; omega
  have hn3 : gg ≠ bu := by have := HSZ3.out; omega
  have HPk := Lib.hid hPk
  have HG1 := Lib.hid hg1
  have HEV := Lib.hid evk
  clear hP hPk hg1 hg2 hg3 hfr hcell qu hu hcap evk ev
  go_wp2_with fail
  go_region_held3 (fun w' => w'.cell? ⟨w.heap.size + 1, 3, none⟩ = some (.slice (some ⟨gg, 0, none⟩) x.uniqs.length d3) ∧ w'.cell? ⟨b, off + 3, none⟩ = some (.slice (some ⟨bu, ou, none⟩) x.uniqs.length c3) ∧ w'.cell? ⟨bu, ou + k, none⟩ = some (.slice Au nu cu))
   (first | go_keep | (with_reducible exact keepT3C (by assumption) k4) | ((with_reducible refine keepS3 ?_ hn1 hn2 hn3); assumption))
   (first | (go_at_call 64; refine (ownCloneInt64 Au nu cu _ ok _ hud hun).mono ?_; rintro e w4 ⟨v4, b4, rfl, o4, k4⟩; obtain ⟨B9, d9, rfl⟩ := o4.shape; have yg := below_keep k4 _ _ (show (World.drew _).cell? _ = _ from qg); have yf := (World.frozen?_of_block (w := World.drew _) (k4.block gg (cell_lt qg))).trans fg))
  have hBW : Below wr3.heap.size wr3 w4 := (Below.refl _ _).drew.trans k4
  have hE : UqO w4 S3 ((vs3[k]'hkv).set 0 (.slice B9 x.uniqs[k].cols.length d9)) x.uniqs[k] b4 := by
   rw [HEV.out]
   exact ⟨_, b4, rfl, o4.mono IntO.good (by have h1 := HPk.out.lt UqO.good; have h2 := HQ3.out; have h3 := BX3.out.size; show S3 ≤ wr3.heap.size; omega), by simp, o4.nodup IntO.good IntO.out⟩
  have HN := Lib.hid (OwnPt.cell UqO.good UqO.out (OwnTr.below (PartO.good UqO.good) HPk.out hBW) HL3.out hlt (t := 0) (by omega) hE (fun b hb hh => by have h1 := (HPk.out.lt UqO.good b hh).2; have h2 : wr3.heap.size ≤ b := (OwnTr.lt IntO.good o4 b hb).1; omega))
  have hgg : w.heap.size + 2 ≤ gg := by have := HSZ3.out; have := HG1.out; omega
  have HN3 := Lib.hid ((HR3.out.below hBW).far (p := ⟨gg, k, none⟩) (by show ¬ _ = gg; omega) (.slice B9 x.uniqs[k].cols.length d9))
  have HN2 := Lib.hid ((HR2.out.below hBW).far (p := ⟨gg, k, none⟩) (by show ¬ _ = gg; omega) (.slice B9 x.uniqs[k].cols.length d9))
  have HNB := Lib.hid ((BX3.out.trans (But.ofBelow hBW)).setNew (p := ⟨gg, k, none⟩) (by have := HQ3.out; have := HG1.out; show _ ≤ gg; omega) (.slice B9 x.uniqs[k].cols.length d9))
  have HNL := Lib.hid ((HB3x.out.trans (hBW.mono HB3x.out.size)).setCell (p := ⟨gg, k, none⟩) (by show _ ≤ gg; omega) (.slice B9 x.uniqs[k].cols.length d9))
  clear hE hBW o4 k4 HR3 HR2 BX3 HB3x HPk
  go_wp2_with fail
  go_roundw
  case rel => exact ⟨k + 1, by omega, by go_num, by obtain ⟨bs', h1, -⟩ := HN.out; exact Lib.hid ⟨bs', by simpa using h1⟩, HN3, HN2, HNB, HNL⟩
  case measure => simp [intOf]; omega
 obtain rfl : k = x.uniqs.length := by omega
 obtain ⟨b103, hPk3⟩ := hP.out
 have HO3' := Lib.hid (OwnPt.done HL3.out hPk3)
 clear hP hPk3 hlt hk HO3
 have HSZ3' := Lib.hid (show w.heap.size + 2 ≤ wr3.heap.size by have := HSZ3.out; have := HQ3.out; have := BX3.out.size; omega)
 have a4 := below_keep HB3x.out _ _ s4.out
 obtain ⟨⟨p0, p1, p2, p3, p4, p5⟩, ⟨f0, f1, f2, f3, f4, f5⟩⟩ := HR3.out.all6
 go_wp2_with fail
 clear p0 p1 p2 p3 p4 p5 f0 f1 f2 f3 f4 f5 a4
 have hcall4 := Lib.hid (show Sl CkR 1 ok (wr3) A4 x.checks.length x.checks from hs4.out.below CkR.stays HB3x.out)
 have HSZ4 := Lib.hid (show w.heap.size + 2 ≤ (wr3).heap.size from HSZ3'.out)
 refine (ownCloneCheck A4 x.checks.length c4 x.checks ok _ hcall4.out L4).mono ?_
 rintro e w4 ⟨v4, vs4, b4, rfl, l4, o4, e4, k4⟩
 obtain ⟨B4, d4, rfl⟩ := o4.shape l4 (Nat.zero_le _)
 have HO4 := Lib.hid o4
 have HE4 := Lib.hid e4
 have HL4 := Lib.hid l4
 clear e4 l4
 have HB4 := Lib.hid (HB3x.out.trans (k4.mono HB3x.out.size))
 have r4 := HR3.out.below k4
 obtain ⟨⟨p0, p1, p2, p3, p4, p5⟩, ⟨f0, f1, f2, f3, f4, f5⟩⟩ := r4.all6
 replace HR3 := Lib.hid (show Row (w4.setCell ⟨w.heap.size + 1, 4, none⟩ (.slice B4 x.checks.length d4)) (w.heap.size + 1) 57 #[.string x.name, .slice B1 x.cols.length d1, .slice B2 x.key.length d2, .slice B3 x.uniqs.length d3, .slice B4 x.checks.length d4, .slice A5 x.fks.length c5] from r4.set 4 _)
 replace HR2 := Lib.hid (show Row (w4.setCell ⟨w.heap.size + 1, 4, none⟩ (.slice B4 x.checks.length d4)) w.heap.size 57 #[.string ⟨#[]⟩, .slice none 0 0, .slice none 0 0, .slice none 0 0, .slice none 0 0, .slice none 0 0] from (HR2.out.below k4).far (by simp) _)
 have HKK4 := Lib.hid k4
 have HB4s := Lib.hid (show Below w.heap.size w (w4.setCell ⟨w.heap.size + 1, 4, none⟩ (.slice B4 x.checks.length d4)) from HB4.out.setCell (by simp) _)
 have KB4 := Lib.hid (show But (w.heap.size + 1) (wr3) (w4.setCell ⟨w.heap.size + 1, 4, none⟩ (.slice B4 x.checks.length d4)) from ((But.ofBelow HKK4.out).setCell (p := ⟨w.heap.size + 1, 4, none⟩) rfl _))
 have BW4 := Lib.hid (show But (w.heap.size + 1) w4 (w4.setCell ⟨w.heap.size + 1, 4, none⟩ (.slice B4 x.checks.length d4)) from (But.refl _ _).setCell (p := ⟨w.heap.size + 1, 4, none⟩) rfl _)
 have a5 := below_keep HB4.out _ _ s5.out
 have a4' := below_keep HB4.out _ _ s4.out
 clear r4 k4 o4
 go_wp2_with fail
 clear a5 p0 p1 p2 p3 p4 p5 f0 f1 f2 f3 f4 f5 a4'
 have HP4 := Lib.hid (show ∃ bs, OwnPt CkO 64 1 (w4.setCell ⟨w.heap.size + 1, 4, none⟩ (.slice B4 x.checks.length d4)) (wr3).heap.size (.slice B4 x.checks.length d4) x.checks vs4 0 bs from ⟨_, HO4.out.but CkO.good BW4.out (by have := HSZ4.out; omega)⟩)
 have HS4 := Lib.hid (show (wr3).heap.size ≤ (w4.setCell ⟨w.heap.size + 1, 4, none⟩ (.slice B4 x.checks.length d4)).heap.size from KB4.out.size)
 have HQ4 := Lib.hid (show (wr3).heap.size = wr3.heap.size from rfl)
 have BC4 := Lib.hid (show But (w.heap.size + 1) wr3 (w4.setCell ⟨w.heap.size + 1, 4, none⟩ (.slice B4 x.checks.length d4)) from KB4.out)
 generalize hyy4 : w4.setCell ⟨w.heap.size + 1, 4, none⟩ (.slice B4 x.checks.length d4) = y4 at *
 generalize hbb4 : (wr3).heap.size = S4 at HP4 HS4 HQ4 HSZ4
 clear hyy4
 go_loopw [58] (fun i wr => ∃ k : Nat, k ≤ x.checks.length ∧ i = .int .i64 k ∧ Hid (∃ bs, OwnPt CkO 64 1 wr S4 (.slice B4 x.checks.length d4) x.checks vs4 k bs) ∧ Hid (Row wr (w.heap.size + 1) 57 #[.string x.name, .slice B1 x.cols.length d1, .slice B2 x.key.length d2, .slice B3 x.uniqs.length d3, .slice B4 x.checks.length d4, .slice A5 x.fks.length c5]) ∧ Hid (Row wr w.heap.size 57 #[.string ⟨#[]⟩, .slice none 0 0, .slice none 0 0, .slice none 0 0, .slice none 0 0, .slice none 0 0]) ∧ Hid (But (w.heap.size + 1) wr3 wr) ∧ Hid (Below w.heap.size w wr)) (fun i _ => x.checks.length - (intOf i).toNat)
 case atStart => exact ⟨0, by omega, rfl, HP4, HR3, HR2, BC4, HB4s⟩
 case round =>
 clear HP4 HR3 HR2 HB4s BC4
 obtain ⟨wr4, hwo4⟩ : ∃ wo, wo = wr := ⟨_, rfl⟩
 subst hwo4
 obtain ⟨k, hk, rfl, hP, HR3, HR2, BX4, HB4x⟩ := hrel
 by_cases hlt : k < x.checks.length
 ·obtain ⟨bs, hPk⟩ := hP.out
  have hkv : k < vs4.length := by rw [HL4.out]; exact hlt
  obtain ⟨Av, nv, cv, evk, -, -⟩ := HE4.out k hlt hkv
  obtain ⟨gg, cc, ev, -, -, hg1, hg2, hg3, hfr, hcell⟩ := hPk.at_ CkO.good HL4.out hlt
  obtain ⟨rfl, rfl⟩ : B4 = some ⟨gg, 0, none⟩ ∧ d4 = cc := by cases ev; exact ⟨rfl, rfl⟩
  obtain ⟨bu, ou, Au, nu, cu, -, e3, qu, hu, hcap⟩ := CkR.at_ hs4.out hlt
  have qu' := below_keep HB4x.out _ _ qu
  have qa := below_keep HB4x.out _ _ s4.out
  subst e3
  have qb : wr4.cell? ⟨w.heap.size + 1, 4, none⟩ = some (.slice (some ⟨gg, 0, none⟩) x.checks.length d4) := HR3.out.cell 4
  have qg : wr4.cell? ⟨gg, k, none⟩ = some (.slice Av nv cv) := by have := hcell 0 (.slice Av nv cv) (by rw [evk]; rfl); simpa using this
  have fg := hfr (k)
  have hud : Sl TkR 5 ok wr4.drew Au nu x.checks[k].expr := (hu.below TkR.stays HB4x.out).stays TkR.stays (fun _ h => h) (fun p v _ h => h)
  have hun : nu ≤ 1073741824 := by have h1 := hu.1; have h2 := G4.out x.checks[k] (List.getElem_mem hlt); omega
  have i0' : (0 : Int) ≤ k := by omega
  have i1 : (k : Int) < x.checks.length := by omega
  have hbu := cell_lt qu
  simp only at hbu
  have hn1 : gg ≠ w.heap.size + 1 := by have := HSZ4.out; omega
  have hn2 : gg ≠ b := by have := HSZ4.out; omega
  have hn3 : gg ≠ bu := by have := HSZ4.out; omega
  have HPk := Lib.hid hPk
  have HG1 := Lib.hid hg1
  have HEV := Lib.hid evk
  clear hP hPk hg1 hg2 hg3 hfr hcell qu hu hcap evk ev
  go_wp2_with fail
  go_region_held3 (fun w' => w'.cell? ⟨w.heap.size + 1, 4, none⟩ = some (.slice (some ⟨gg, 0, none⟩) x.checks.length d4) ∧ w'.cell? ⟨b, off + 4, none⟩ = some (.slice (some ⟨bu, ou, none⟩) x.checks.length c4) ∧ w'.cell? ⟨bu, ou + k, none⟩ = some (.slice Au nu cu))
   (first | go_keep | (with_reducible exact keepT3C (by assumption) k4) | ((with_reducible refine keepS3 ?_ hn1 hn2 hn3); assumption))
   (first | (go_at_call 67; refine (ownCloneTok Au nu cu _ ok _ hud hun).mono ?_; rintro e w4 ⟨v4, b4, rfl, o4, k4⟩; obtain ⟨B9, d9, rfl⟩ := o4.shape; have yg := below_keep k4 _ _ (show (World.drew _).cell? _ = _ from qg); have yf := (World.frozen?_of_block (w := World.drew _) (k4.block gg (cell_lt qg))).trans fg))
  have hBW : Below wr4.heap.size wr4 w4 := (Below.refl _ _).drew.trans k4
  have hE : CkO w4 S4 ((vs4[k]'hkv).set 0 (.slice B9 x.checks[k].expr.length d9)) x.checks[k] b4 := by
   rw [HEV.out]
   exact ⟨_, b4, rfl, o4.mono TkO.good (by have h1 := HPk.out.lt CkO.good; have h2 := HQ4.out; have h3 := BX4.out.size; show S4 ≤ wr4.heap.size; omega), by simp, o4.nodup TkO.good TkO.out⟩
  have HN := Lib.hid (OwnPt.cell CkO.good CkO.out (OwnTr.below (PartO.good CkO.good) HPk.out hBW) HL4.out hlt (t := 0) (by omega) hE (fun b hb hh => by have h1 := (HPk.out.lt CkO.good b hh).2; have h2 : wr4.heap.size ≤ b := (OwnTr.lt TkO.good o4 b hb).1; omega))
  have hgg : w.heap.size + 2 ≤ gg := by have := HSZ4.out; have := HG1.out; omega
  have HN3 := Lib.hid ((HR3.out.below hBW).far (p := ⟨gg, k, none⟩) (by show ¬ _ = gg; omega) (.slice B9 x.checks[k].expr.length d9))
  have HN2 := Lib.hid ((HR2.out.below hBW).far (p := ⟨gg, k, none⟩) (by show ¬ _ = gg; omega) (.slice B9 x.checks[k].expr.length d9))
  have HNB := Lib.hid ((BX4.out.trans (But.ofBelow hBW)).setNew (p := ⟨gg, k, none⟩) (by have := HQ4.out; have := HG1.out; show _ ≤ gg; omega) (.slice B9 x.checks[k].expr.length d9))
  have HNL := Lib.hid ((HB4x.out.trans (hBW.mono HB4x.out.size)).setCell (p := ⟨gg, k, none⟩) (by show _ ≤ gg; omega) (.slice B9 x.checks[k].expr.length d9))
  clear hE hBW o4 k4 HR3 HR2 BX4 HB4x HPk
  go_wp2_with fail
  go_roundw
  case rel => exact ⟨k + 1, by omega, by go_num, by obtain ⟨bs', h1, -⟩ := HN.out; exact Lib.hid ⟨bs', by simpa using h1⟩, HN3, HN2, HNB, HNL⟩
  case measure => simp [intOf]; omega
 obtain rfl : k = x.checks.length := by omega
 obtain ⟨b104, hPk4⟩ := hP.out
 have HO4' := Lib.hid (OwnPt.done HL4.out hPk4)
 clear hP hPk4 hlt hk HO4
 have HSZ4' := Lib.hid (show w.heap.size + 2 ≤ wr4.heap.size by have := HSZ4.out; have := HQ4.out; have := BX4.out.size; omega)
 have a5 := below_keep HB4x.out _ _ s5.out
 obtain ⟨⟨p0, p1, p2, p3, p4, p5⟩, ⟨f0, f1, f2, f3, f4, f5⟩⟩ := HR3.out.all6
 go_wp2_with fail
 clear p0 p1 p2 p3 p4 p5 f0 f1 f2 f3 f4 f5 a5
 have hcall5 := Lib.hid (show Sl FkR 5 ok (wr4) A5 x.fks.length x.fks from hs5.out.below FkR.stays HB4x.out)
 have HSZ5 := Lib.hid (show w.heap.size + 2 ≤ (wr4).heap.size from HSZ4'.out)
 refine (ownCloneFk A5 x.fks.length c5 x.fks ok _ hcall5.out L5).mono ?_
 rintro e w5 ⟨v5, vs5, b5, rfl, l5, o5, e5, k5⟩
 obtain ⟨B5, d5, rfl⟩ := o5.shape l5 (Nat.zero_le _)
 have HO5 := Lib.hid o5
 have HE5 := Lib.hid e5
 have HL5 := Lib.hid l5
 clear e5 l5
 have HB5 := Lib.hid (HB4x.out.trans (k5.mono HB4x.out.size))
 have r5 := HR3.out.below k5
 obtain ⟨⟨p0, p1, p2, p3, p4, p5⟩, ⟨f0, f1, f2, f3, f4, f5⟩⟩ := r5.all6
 replace HR3 := Lib.hid (show Row (w5.setCell ⟨w.heap.size + 1, 5, none⟩ (.slice B5 x.fks.length d5)) (w.heap.size + 1) 57 #[.string x.name, .slice B1 x.cols.length d1, .slice B2 x.key.length d2, .slice B3 x.uniqs.length d3, .slice B4 x.checks.length d4, .slice B5 x.fks.length d5] from r5.set 5 _)
 replace HR2 := Lib.hid (show Row (w5.setCell ⟨w.heap.size + 1, 5, none⟩ (.slice B5 x.fks.length d5)) w.heap.size 57 #[.string ⟨#[]⟩, .slice none 0 0, .slice none 0 0, .slice none 0 0, .slice none 0 0, .slice none 0 0] from (HR2.out.below k5).far (by simp) _)
 have HKK5 := Lib.hid k5
 have HB5s := Lib.hid (show Below w.heap.size w (w5.setCell ⟨w.heap.size + 1, 5, none⟩ (.slice B5 x.fks.length d5)) from HB5.out.setCell (by simp) _)
 have KB5 := Lib.hid (show But (w.heap.size + 1) (wr4) (w5.setCell ⟨w.heap.size + 1, 5, none⟩ (.slice B5 x.fks.length d5)) from ((But.ofBelow HKK5.out).setCell (p := ⟨w.heap.size + 1, 5, none⟩) rfl _))
 have BW5 := Lib.hid (show But (w.heap.size + 1) w5 (w5.setCell ⟨w.heap.size + 1, 5, none⟩ (.slice B5 x.fks.length d5)) from (But.refl _ _).setCell (p := ⟨w.heap.size + 1, 5, none⟩) rfl _)
 have a0 := below_keep HB5.out _ _ s0.out
 have a5' := below_keep HB5.out _ _ s5.out
 clear r5 k5 o5
 go_wp2_with fail
 clear a0 p0 p1 p2 p3 p4 p5 f0 f1 f2 f3 f4 f5 a5'
 have HP5 := Lib.hid (show ∃ bs, OwnPt FkO 66 5 (w5.setCell ⟨w.heap.size + 1, 5, none⟩ (.slice B5 x.fks.length d5)) (wr4).heap.size (.slice B5 x.fks.length d5) x.fks vs5 0 bs from ⟨_, HO5.out.but FkO.good BW5.out (by have := HSZ5.out; omega)⟩)
 have HS5 := Lib.hid (show (wr4).heap.size ≤ (w5.setCell ⟨w.heap.size + 1, 5, none⟩ (.slice B5 x.fks.length d5)).heap.size from KB5.out.size)
 have HQ5 := Lib.hid (show (wr4).heap.size = wr4.heap.size from rfl)
 have BC5 := Lib.hid (show But (w.heap.size + 1) wr4 (w5.setCell ⟨w.heap.size + 1, 5, none⟩ (.slice B5 x.fks.length d5)) from KB5.out)
 generalize hyy5 : w5.setCell ⟨w.heap.size + 1, 5, none⟩ (.slice B5 x.fks.length d5) = y5 at *
 generalize hbb5 : (wr4).heap.size = S5 at HP5 HS5 HQ5 HSZ5
 clear hyy5
 go_loopw [85] (fun i wr => ∃ k : Nat, k ≤ x.fks.length ∧ i = .int .i64 k ∧ Hid (∃ bs, OwnPt FkO 66 5 wr S5 (.slice B5 x.fks.length d5) x.fks vs5 k bs) ∧ Hid (Row wr (w.heap.size + 1) 57 #[.string x.name, .slice B1 x.cols.length d1, .slice B2 x.key.length d2, .slice B3 x.uniqs.length d3, .slice B4 x.checks.length d4, .slice B5 x.fks.length d5]) ∧ Hid (Row wr w.heap.size 57 #[.string ⟨#[]⟩, .slice none 0 0, .slice none 0 0, .slice none 0 0, .slice none 0 0, .slice none 0 0]) ∧ Hid (But (w.heap.size + 1) wr4 wr) ∧ Hid (Below w.heap.size w wr)) (fun i _ => x.fks.length - (intOf i).toNat)
 case atStart => exact ⟨0, by omega, rfl, HP5, HR3, HR2, BC5, HB5s⟩
 case round =>
 clear HP5 HR3 HR2 HB5s BC5
 obtain ⟨wr5, hwo5⟩ : ∃ wo, wo = wr := ⟨_, rfl⟩
 subst hwo5
 obtain ⟨k, hk, rfl, hP, HR3, HR2, BX5, HB5x⟩ := hrel
 by_cases hlt : k < x.fks.length
 ·obtain ⟨bs, hPk⟩ := hP.out
  have hkv : k < vs5.length := by rw [HL5.out]; exact hlt
  obtain ⟨Av, nv, cv, evk, -, -⟩ := HE5.out k hlt hkv
  obtain ⟨gg, cc, ev, -, -, hg1, hg2, hg3, hfr, hcell⟩ := hPk.at_ FkO.good HL5.out hlt
  obtain ⟨rfl, rfl⟩ : B5 = some ⟨gg, 0, none⟩ ∧ d5 = cc := by cases ev; exact ⟨rfl, rfl⟩
  obtain ⟨bu, ou, Au, nu, cu, -, e3, qu, -, -, -, -, hu, hcap⟩ := FkR.at_ hs5.out hlt
  have qu' := below_keep HB5x.out _ _ qu
  have qa := below_keep HB5x.out _ _ s5.out
  subst e3
  have qb : wr5.cell? ⟨w.heap.size + 1, 5, none⟩ = some (.slice (some ⟨gg, 0, none⟩) x.fks.length d5) := HR3.out.cell 5
  have qg : wr5.cell? ⟨gg, k * 5, none⟩ = some (.slice Av nv cv) := by have := hcell 0 (.slice Av nv cv) (by rw [evk]; rfl); simpa using this
  have fg := hfr (k * 5)
  have hud : Sl IntR 1 ok wr5.drew Au nu x.fks[k].cols := (hu.below IntR.stays HB5x.out).stays IntR.stays (fun _ h => h) (fun p v _ h => h)
  have hun : nu ≤ 1073741824 := by have h1 := hu.1; have h2 := G5.out x.fks[k] (List.getElem_mem hlt); omega
  have i0' : (0 : Int) ≤ k := by omega
  have i1 : (k : Int) < x.fks.length := by omega
  have hbu := cell_lt qu
  simp only at hbu
  have hn1 : gg ≠ w.heap.size + 1 := by have := HSZ5.out; omega
  have hn2 : gg ≠ b := by have := HSZ5.out; omega
  have hn3 : gg ≠ bu := by have := HSZ5.out; omega
  have HPk := Lib.hid hPk
  have HG1 := Lib.hid hg1
  have HEV := Lib.hid evk
  clear hP hPk hg1 hg2 hg3 hfr hcell qu hu hcap evk ev
  go_wp2_with fail
  go_region_held3 (fun w' => w'.cell? ⟨w.heap.size + 1, 5, none⟩ = some (.slice (some ⟨gg, 0, none⟩) x.fks.length d5) ∧ w'.cell? ⟨b, off + 5, none⟩ = some (.slice (some ⟨bu, ou, none⟩) x.fks.length c5) ∧ w'.cell? ⟨bu, ou + k * 5, none⟩ = some (.slice Au nu cu))
   (first | go_keep | (with_reducible exact keepT3C (by assumption) k4) | ((with_reducible refine keepS3 ?_ hn1 hn2 hn3); assumption))
   (first | (go_at_call 64; refine (ownCloneInt64 Au nu cu _ ok _ hud hun).mono ?_; rintro e w4 ⟨v4, b4, rfl, o4, k4⟩; obtain ⟨B9, d9, rfl⟩ := o4.shape; have yg := below_keep k4 _ _ (show (World.drew _).cell? _ = _ from qg); have yf := (World.frozen?_of_block (w := World.drew _) (k4.block gg (cell_lt qg))).trans fg))
  have hBW : Below wr5.heap.size wr5 w4 := (Below.refl _ _).drew.trans k4
  have hE : FkO w4 S5 ((vs5[k]'hkv).set 0 (.slice B9 x.fks[k].cols.length d9)) x.fks[k] b4 := by
   rw [HEV.out]
   exact ⟨_, b4, rfl, o4.mono IntO.good (by have h1 := HPk.out.lt FkO.good; have h2 := HQ5.out; have h3 := BX5.out.size; show S5 ≤ wr5.heap.size; omega), by simp, o4.nodup IntO.good IntO.out⟩
  have HN := Lib.hid (OwnPt.cell FkO.good FkO.out (OwnTr.below (PartO.good FkO.good) HPk.out hBW) HL5.out hlt (t := 0) (by omega) hE (fun b hb hh => by have h1 := (HPk.out.lt FkO.good b hh).2; have h2 : wr5.heap.size ≤ b := (OwnTr.lt IntO.good o4 b hb).1; omega))
  have hgg : w.heap.size + 2 ≤ gg := by have := HSZ5.out; have := HG1.out; omega
  have HN3 := Lib.hid ((HR3.out.below hBW).far (p := ⟨gg, k * 5, none⟩) (by show ¬ _ = gg; omega) (.slice B9 x.fks[k].cols.length d9))
  have HN2 := Lib.hid ((HR2.out.below hBW).far (p := ⟨gg, k * 5, none⟩) (by show ¬ _ = gg; omega) (.slice B9 x.fks[k].cols.length d9))
  have HNB := Lib.hid ((BX5.out.trans (But.ofBelow hBW)).setNew (p := ⟨gg, k * 5, none⟩) (by have := HQ5.out; have := HG1.out; show _ ≤ gg; omega) (.slice B9 x.fks[k].cols.length d9))
  have HNL := Lib.hid ((HB5x.out.trans (hBW.mono HB5x.out.size)).setCell (p := ⟨gg, k * 5, none⟩) (by show _ ≤ gg; omega) (.slice B9 x.fks[k].cols.length d9))
  clear hE hBW o4 k4 HR3 HR2 BX5 HB5x HPk
  go_wp2_with fail
  go_roundw
  case rel => exact ⟨k + 1, by omega, by go_num, by obtain ⟨bs', h1, -⟩ := HN.out; exact Lib.hid ⟨bs', by simpa using h1⟩, HN3, HN2, HNB, HNL⟩
  case measure => simp [intOf]; omega
 obtain rfl : k = x.fks.length := by omega
 obtain ⟨b105, hPk5⟩ := hP.out
 have HO5' := Lib.hid (OwnPt.done HL5.out hPk5)
 clear hP hPk5 hlt hk HO5
 obtain ⟨⟨p0, p1, p2, p3, p4, p5⟩, ⟨f0, f1, f2, f3, f4, f5⟩⟩ := HR3.out.all6
 obtain ⟨⟨z0, z1, z2, z3, z4, z5⟩, ⟨g0, g1, g2, g3, g4, g5⟩⟩ := HR2.out.all6
 go_wp2_with fail
 clear p0 p1 p2 p3 p4 p5 f0 f1 f2 f3 f4 f5 z0 z1 z2 z3 z4 z5 g0 g1 g2 g3 g4 g5
 have hrr : Row (((((((wr5).setCell ⟨w.heap.size, 0, none⟩ (.string x.name)).setCell ⟨w.heap.size, 1, none⟩ (.slice B1 x.cols.length d1)).setCell ⟨w.heap.size, 2, none⟩ (.slice B2 x.key.length d2)).setCell ⟨w.heap.size, 3, none⟩ (.slice B3 x.uniqs.length d3)).setCell ⟨w.heap.size, 4, none⟩ (.slice B4 x.checks.length d4)).setCell ⟨w.heap.size, 5, none⟩ (.slice B5 x.fks.length d5)) w.heap.size 57 #[.string x.name, .slice B1 x.cols.length d1, .slice B2 x.key.length d2, .slice B3 x.uniqs.length d3, .slice B4 x.checks.length d4, .slice B5 x.fks.length d5] := ((((((HR2.out.set 0 (.string x.name)).set 1 (.slice B1 x.cols.length d1)).set 2 (.slice B2 x.key.length d2)).set 3 (.slice B3 x.uniqs.length d3)).set 4 (.slice B4 x.checks.length d4)).set 5 (.slice B5 x.fks.length d5))
 have hF : But w.heap.size wr5 (((((((wr5).setCell ⟨w.heap.size, 0, none⟩ (.string x.name)).setCell ⟨w.heap.size, 1, none⟩ (.slice B1 x.cols.length d1)).setCell ⟨w.heap.size, 2, none⟩ (.slice B2 x.key.length d2)).setCell ⟨w.heap.size, 3, none⟩ (.slice B3 x.uniqs.length d3)).setCell ⟨w.heap.size, 4, none⟩ (.slice B4 x.checks.length d4)).setCell ⟨w.heap.size, 5, none⟩ (.slice B5 x.fks.length d5)) := ((((((But.refl _ _).setCell (p := ⟨w.heap.size, 0, none⟩) rfl (.string x.name)).setCell (p := ⟨w.heap.size, 1, none⟩) rfl (.slice B1 x.cols.length d1)).setCell (p := ⟨w.heap.size, 2, none⟩) rfl (.slice B2 x.key.length d2)).setCell (p := ⟨w.heap.size, 3, none⟩) rfl (.slice B3 x.uniqs.length d3)).setCell (p := ⟨w.heap.size, 4, none⟩) rfl (.slice B4 x.checks.length d4)).setCell (p := ⟨w.heap.size, 5, none⟩) rfl (.slice B5 x.fks.length d5)
 have hFB : Below w.heap.size w (((((((wr5).setCell ⟨w.heap.size, 0, none⟩ (.string x.name)).setCell ⟨w.heap.size, 1, none⟩ (.slice B1 x.cols.length d1)).setCell ⟨w.heap.size, 2, none⟩ (.slice B2 x.key.length d2)).setCell ⟨w.heap.size, 3, none⟩ (.slice B3 x.uniqs.length d3)).setCell ⟨w.heap.size, 4, none⟩ (.slice B4 x.checks.length d4)).setCell ⟨w.heap.size, 5, none⟩ (.slice B5 x.fks.length d5)) := ((((((HB5x.out).setCell (p := ⟨w.heap.size, 0, none⟩) (Nat.le_refl _) (.string x.name)).setCell (p := ⟨w.heap.size, 1, none⟩) (Nat.le_refl _) (.slice B1 x.cols.length d1)).setCell (p := ⟨w.heap.size, 2, none⟩) (Nat.le_refl _) (.slice B2 x.key.length d2)).setCell (p := ⟨w.heap.size, 3, none⟩) (Nat.le_refl _) (.slice B3 x.uniqs.length d3)).setCell (p := ⟨w.heap.size, 4, none⟩) (Nat.le_refl _) (.slice B4 x.checks.length d4)).setCell (p := ⟨w.heap.size, 5, none⟩) (Nat.le_refl _) (.slice B5 x.fks.length d5)
 generalize hff : ((((((wr5).setCell ⟨w.heap.size, 0, none⟩ (.string x.name)).setCell ⟨w.heap.size, 1, none⟩ (.slice B1 x.cols.length d1)).setCell ⟨w.heap.size, 2, none⟩ (.slice B2 x.key.length d2)).setCell ⟨w.heap.size, 3, none⟩ (.slice B3 x.uniqs.length d3)).setCell ⟨w.heap.size, 4, none⟩ (.slice B4 x.checks.length d4)).setCell ⟨w.heap.size, 5, none⟩ (.slice B5 x.fks.length d5) = ff at *
 have z3 := HSZ3.out
 have z4 := HSZ4.out
 have z5 := HSZ5.out
 have z1 := HSZ1.out
 have z2 := HSZ2.out
 have t12 := (BW1.out.trans (But.ofBelow HKK2.out))
 have t23 := BX3.out
 have t34 := BX4.out
 have t45 := BX5.out
 have u1 := (HO1.out.but ClO.good (t12.trans (t23.trans (t34.trans t45))) (by omega)).but ClO.good hF (by omega)
 have u2 := (HO2.out.but IntO.good (t23.trans (t34.trans t45)) (by omega)).but IntO.good hF (by omega)
 have u3 := (HO3'.out.but UqO.good (t34.trans t45) (by omega)).but UqO.good hF (by omega)
 have u4 := (HO4'.out.but CkO.good t45 (by omega)).but CkO.good hF (by omega)
 have u5 := HO5'.out.but FkO.good hF (by omega)
 have m1 := BW1.out.size
 have m2 := HKK2.out.size
 have m3 := t23.size
 have m4 := t34.size
 have m5 := HQ3.out
 have m6 := HQ4.out
 have m7 := HQ5.out
 have m8 := KB1.out.size
 have hT := TbO.mk5 (x := x) u1 u2 u3 u4 u5 (fun b hb => by have := (HO1.out.lt ClO.good b hb).2; omega) (fun b hb => by have := (HO2.out.lt IntO.good b hb).2; omega) (fun b hb => by have := (HO3'.out.lt UqO.good b hb).2; omega) (fun b hb => by have := (HO4'.out.lt CkO.good b hb).2; omega) (by omega) (by omega) (by omega) (by omega)
 refine bodyPost_ret (results_cell_row (p := 2) (ty := 57) rfl _ _ w.heap.size 57 #[.string x.name, .slice B1 x.cols.length d1, .slice B2 x.key.length d2, .slice B3 x.uniqs.length d3, .slice B4 x.checks.length d4, .slice B5 x.fks.length d5] (0, 0) _ rfl hrr Tryz.underlying57 rfl HGI.out) rfl ⟨_, rfl, ⟨_, TbO.good.mono hT (by omega)⟩, hFB⟩
set_option maxRecDepth 100000 in
set_option maxHeartbeats 4000000 in
theorem implCopySchema (A : Option Addr) (n c : Nat) (xs : List Tb) (ok : Nat → Prop) (w : World) (h : Sl TbR 6 ok w A n xs) (hn : n ≤ 1073741824) (hx : ∀ x ∈ xs, x.sz ≤ 1048576) :
  Calls Tryz.prog 26 #[.slice A n c] w fun e w' => ∃ v bs, e = .returned v ∧ OwnTr TbO 57 6 w' w.heap.size v xs bs ∧ Below w.heap.size w w' := by
 obtain rfl : xs.length = n := h.1
 have HX := Lib.hid hx
 clear hx
 go_enter Tryz.func26, Tryz.ntmps26
 go_wp2_with fail
 refine (ownCloneTable A _ c xs ok w h hn).mono ?_
 rintro e w1 ⟨v1, vs, b1, rfl, l1, o1, e1, k1⟩
 obtain ⟨B, d, rfl⟩ := o1.shape l1 (Nat.zero_le _)
 have HP := Lib.hid (show ∃ bs, OwnPt TbO 57 6 w1 w.heap.size (.slice B xs.length d) xs vs 0 bs from ⟨_, o1⟩)
 have HB := Lib.hid k1
 have HE := Lib.hid e1
 have HL := Lib.hid l1
 clear l1 e1 k1 o1
 go_wp2_with fail
 go_loopw [9] (fun i wr => ∃ k : Nat, k ≤ xs.length ∧ i = .int .i64 k ∧ Hid (∃ bs, OwnPt TbO 57 6 wr w.heap.size (.slice B xs.length d) xs vs k bs) ∧ Hid (Below w.heap.size w wr)) (fun i _ => xs.length - (intOf i).toNat)
 case atStart => exact ⟨0, by omega, rfl, HP, HB⟩
 case round =>
 clear HP HB
 obtain ⟨k, hk, rfl, hP, hB⟩ := hrel
 by_cases hlt : k < xs.length
 ·obtain ⟨bs, hPk⟩ := hP.out
  have hkv : k < vs.length := by rw [HL.out]; exact hlt
  obtain ⟨B1, m1, d1, B2, m2, d2, B3, m3', d3, B4, m4, d4, B5, m5, d5, evk, -⟩ := HE.out k hlt hkv
  obtain ⟨gg, cc, ev, -, -, hg1, hg2, hg3, hfr, hcell⟩ := hPk.at_ TbO.good HL.out hlt
  obtain ⟨rfl, rfl⟩ : B = some ⟨gg, 0, none⟩ ∧ d = cc := by cases ev; exact ⟨rfl, rfl⟩
  obtain ⟨bu, ou, A1, n1, c1, A2, n2, c2, A3, n3, c3, A4, n4, c4, A5, n5, c5, -, e3, q0, q1, q2, q3, q4, q5, h1, h2, h3, h4, h5, -⟩ := TbR.at_ h hlt
  subst e3
  have i0' : (0 : Int) ≤ k := by omega
  have i1 : (k : Int) < xs.length := by omega
  have HC := Lib.hid hcell
  have HF := Lib.hid hfr
  have HPk := Lib.hid hPk
  have HG1 := Lib.hid hg1
  have HG2 := Lib.hid hg2
  have HEV := Lib.hid evk
  have hb := hB.out
  have HXK := Lib.hid (HX.out _ (List.getElem_mem hlt))
  clear hP hPk hg1 hg2 hg3 hfr hcell evk ev
  go_wp2_with fail
  refine (implCopyTable bu (ou + k * 6) xs[k] A1 n1 c1 A2 n2 c2 A3 n3 c3 A4 n4 c4 A5 n5 c5 ok wr (below_keep hb _ _ q0) (below_keep hb _ _ q1) (below_keep hb _ _ q2) (below_keep hb _ _ q3) (below_keep hb _ _ q4) (below_keep hb _ _ q5) (h1.below ClR.stays hb) (h2.below IntR.stays hb) (h3.below UqR.stays hb) (h4.below CkR.stays hb) (h5.below FkR.stays hb) HXK.out).mono ?_
  rintro e w2 ⟨cs, b2, rfl, hT, hb2⟩
  have hT0 := hT
  obtain ⟨v1, t1, v2, t2, v3, t3, v4, t4, v5, t5, e9, g1, g2, g3, g4, g5, -⟩ := hT0
  obtain ⟨D1, a1, rfl⟩ := g1.shape
  obtain ⟨D2, a2, rfl⟩ := g2.shape
  obtain ⟨D3, a3, rfl⟩ := g3.shape
  obtain ⟨D4, a4, rfl⟩ := g4.shape
  obtain ⟨D5, a5, rfl⟩ := g5.shape
  obtain rfl : cs = #[.string xs[k].name, .slice D1 xs[k].cols.length a1, .slice D2 xs[k].key.length a2, .slice D3 xs[k].uniqs.length a3, .slice D4 xs[k].checks.length a4, .slice D5 xs[k].fks.length a5] := by apply Array.toList_inj.1; exact e9
  have hE : TbO w2 w.heap.size [.string xs[k].name, .slice D1 xs[k].cols.length a1, .slice D2 xs[k].key.length a2, .slice D3 xs[k].uniqs.length a3, .slice D4 xs[k].checks.length a4, .slice D5 xs[k].fks.length a5] xs[k] b2 := TbO.good.mono hT hB.out.size
  have HN := Lib.hid (OwnPt.cells TbO.good TbO.out (by omega) (OwnTr.below (PartO.good TbO.good) HPk.out hb2) HL.out hlt hE (fun b hb hh => by have h1 := (HPk.out.lt TbO.good b hh).2; have h2 := (TbO.good.lt hT hb).1; omega))
  have HBN := Lib.hid (Below.setCells HG1.out [.string xs[k].name, .slice D1 xs[k].cols.length a1, .slice D2 xs[k].key.length a2, .slice D3 xs[k].uniqs.length a3, .slice D4 xs[k].checks.length a4, .slice D5 xs[k].fks.length a5] w2 (k * 6) (hb.trans (hb2.mono hb.size)))
  have y0 : w2.cell? ⟨gg, k * 6, none⟩ = some (.string xs[k].name) := below_keep hb2 _ _ (HC.out 0 _ (by rw [HEV.out]; rfl))
  have z0 := (World.frozen?_of_block (w := wr) (hb2.block gg HG2.out)).trans (HF.out (k * 6))
  have y1 : w2.cell? ⟨gg, k * 6 + 1, none⟩ = some (.slice B1 m1 d1) := below_keep hb2 _ _ (HC.out 1 _ (by rw [HEV.out]; rfl))
  have z1 := (World.frozen?_of_block (w := wr) (hb2.block gg HG2.out)).trans (HF.out (k * 6 + 1))
  have y2 : w2.cell? ⟨gg, k * 6 + 2, none⟩ = some (.slice B2 m2 d2) := below_keep hb2 _ _ (HC.out 2 _ (by rw [HEV.out]; rfl))
  have z2 := (World.frozen?_of_block (w := wr) (hb2.block gg HG2.out)).trans (HF.out (k * 6 + 2))
  have y3 : w2.cell? ⟨gg, k * 6 + 3, none⟩ = some (.slice B3 m3' d3) := below_keep hb2 _ _ (HC.out 3 _ (by rw [HEV.out]; rfl))
  have z3 := (World.frozen?_of_block (w := wr) (hb2.block gg HG2.out)).trans (HF.out (k * 6 + 3))
  have y4 : w2.cell? ⟨gg, k * 6 + 4, none⟩ = some (.slice B4 m4 d4) := below_keep hb2 _ _ (HC.out 4 _ (by rw [HEV.out]; rfl))
  have z4 := (World.frozen?_of_block (w := wr) (hb2.block gg HG2.out)).trans (HF.out (k * 6 + 4))
  have y5 : w2.cell? ⟨gg, k * 6 + 5, none⟩ = some (.slice B5 m5 d5) := below_keep hb2 _ _ (HC.out 5 _ (by rw [HEV.out]; rfl))
  have z5 := (World.frozen?_of_block (w := wr) (hb2.block gg HG2.out)).trans (HF.out (k * 6 + 5))
  clear g1 g2 g3 g4 g5 q0 q1 q2 q3 q4 q5 h1 h2 h3 h4 h5 hb hT hE e9 hB hb2 HPk HC HF
  go_wp2_with fail
  go_roundw
  case rel => exact ⟨k + 1, by omega, by go_num, Lib.hid (by obtain ⟨bs', h1, -⟩ := HN.out; exact ⟨bs', h1⟩), HBN⟩
  case measure => simp [intOf]; omega
 ·obtain rfl : k = xs.length := by omega
  obtain ⟨bs, hPk⟩ := hP.out
  go_wp2_with fail
  go_ret
  exact ⟨_, bs, rfl, OwnPt.done HL.out hPk, hB.out⟩
end Go.Proofs.YtkehfilmpdoglaaGreat
namespace Go.Proofs.YtkehfilmpdoglaaGreat
open Go.RowKit
section
variable {α : Type} {Ts : List TypeId} {sz : Nat} {E : ElO α} {T : TypeId}
theorem OwnN.inner (G : GoodO Ts sz E) (hT : T ∉ Ts) {w w' : World} {base : Nat} {v : Value} {xs : List α} {css : List (List Value)} {bss : List (List Nat)} (h : OwnN E T sz w base v xs css bss) {k r : Nat} (hk : k < xs.length) {x : α} {bs : List Nat} (hE : E w' base (css.getD k []) x bs) (hr : r ∈ bss.getD k []) (hg : w.grownBy w' (some r))
  (hn : ∀ b ∈ bs, b ∈ bss.getD k [] ∨ b ∉ bss.flatten) : OwnN E T sz w' base v (xs.set k x) css (bss.set k bs) := by
 have hap : ∀ {i j y : Nat}, y ∈ bss.getD i [] → y ∈ bss.getD j [] → i = j := fun {i j y} hi hj => by
  have hp := List.pairwise_flatten.1 h.apart
  have hil : i < bss.length := by
   rcases Nat.lt_or_ge i bss.length with h1 | h1
   ·exact h1
   ·rw [List.getD_eq_getElem?_getD, List.getElem?_eq_none h1] at hi; simp at hi
  have hjl : j < bss.length := by
   rcases Nat.lt_or_ge j bss.length with h1 | h1
   ·exact h1
   ·rw [List.getD_eq_getElem?_getD, List.getElem?_eq_none h1] at hj; simp at hj
  rw [List.getD_eq_getElem?_getD, List.getElem?_eq_getElem hil] at hi
  rw [List.getD_eq_getElem?_getD, List.getElem?_eq_getElem hjl] at hj
  have hq := List.pairwise_iff_getElem.1 hp.2
  rcases Nat.lt_trichotomy i j with h1 | h1 | h1
  ·exact absurd rfl (hq i j hil hjl h1 y hi y hj)
  ·exact h1
  ·exact absurd rfl (hq j i hjl hil h1 y hj y hi)
 have hkb : k < bss.length := by rw [h.l2]; exact hk
 refine ⟨by simp [h.l1], by simp [h.l2], ?_, fun i hi => ?_, ?_⟩
 ·have := ownsRow_dep h.row (w' := w') fun b hb => hg.block b (World.ownsRow.lt h.row b hb).2 fun e => by
   injection e with e
   subst e
   exact h.out G hT hb (mem_flatten_getD hr)
  simpa using this
 ·have hi' : i < xs.length := by simpa using hi
  rw [List.getElem_set, List.getD_eq_getElem?_getD (l := bss.set k bs), List.getElem?_set]
  by_cases e : k = i
  ·subst e
   rw [if_pos rfl, if_pos rfl, if_pos hkb]
   exact hE
  ·rw [if_neg e, if_neg e, ← List.getD_eq_getElem?_getD]
   refine G.dep (h.el i hi') fun b hb => hg.block b (G.lt (h.el i hi') hb).2 fun e' => ?_
   injection e' with e'
   subst e'
   exact e (hap hr hb)
 ·have hp := List.pairwise_flatten.1 h.apart
  refine List.pairwise_flatten.2 ⟨fun l hl => ?_, ?_⟩
  ·rcases List.mem_or_eq_of_mem_set hl with h1 | rfl
   ·exact hp.1 l h1
   ·exact G.nodup hE
  ·refine List.pairwise_iff_getElem.2 fun i j hi hj hij y hy z hz => ?_
   have hi' : i < bss.length := by simpa using hi
   have hj' : j < bss.length := by simpa using hj
   rw [List.getElem_set] at hy hz
   have hgi : bss.getD i [] = bss[i] := by rw [List.getD_eq_getElem?_getD, List.getElem?_eq_getElem hi']; rfl
   have hgj : bss.getD j [] = bss[j] := by rw [List.getD_eq_getElem?_getD, List.getElem?_eq_getElem hj']; rfl
   split at hy <;> split at hz
   ·omega
   ·rintro rfl
    rcases hn y hy with h1 | h1
    ·have := hap h1 (by rw [hgj]; exact hz); omega
    ·exact h1 (List.mem_flatten.2 ⟨_, List.getElem_mem hj', hz⟩)
   ·rintro rfl
    rcases hn y hz with h1 | h1
    ·have := hap h1 (by rw [hgi]; exact hy); omega
    ·exact h1 (List.mem_flatten.2 ⟨_, List.getElem_mem hi', hy⟩)
   ·exact (List.pairwise_iff_getElem.1 hp.2) i j hi' hj' hij y hy z hz
end
abbrev RwP : ElO (Rw ⊕ List Value) := PartO 2 RwO
def DtP : ElO (List (Rw ⊕ List Value)) := fun w base cs x bs => ∃ v, cs = [v] ∧ OwnTr RwP 72 2 w base v x bs
theorem DtP.good : GoodO (72 :: RwTs) 1 DtP where
 len := fun ⟨v, e, h⟩ => by rw [e]; rfl
 one := fun ⟨v, e, h⟩ u hu => by
  rw [e] at hu
  obtain rfl : u = v := by simpa using hu
  exact h.one
 typed := fun ⟨v, e, h⟩ b hb => h.typed (PartO.good RwO.good) b hb
 nodup := fun ⟨v, e, h⟩ => h.nodup (PartO.good RwO.good) RwO.out
 dep := fun ⟨v, e, h⟩ hd => ⟨v, e, h.dep (PartO.good RwO.good) hd⟩
 mono := fun ⟨v, e, h⟩ hb => ⟨v, e, h.mono (PartO.good RwO.good) hb⟩
theorem DtP.out : 69 ∉ (72 :: RwTs) := by decide
def stL (db : List Dt) (vss : List (List (List Value))) (i k : Nat) : List (List (Rw ⊕ List Value)) :=
 (List.range db.length).map fun j => partL (db.getD j ⟨[]⟩).rows (vss.getD j []) (if j < i then (db.getD j ⟨[]⟩).rows.length else if j = i then k else 0)
theorem stL_len (db : List Dt) (vss : List (List (List Value))) (i k : Nat) : (stL db vss i k).length = db.length := by simp [stL]
theorem stL_get (db : List Dt) (vss : List (List (List Value))) (i k : Nat) {j : Nat} (hj : j < db.length) (h : j < (stL db vss i k).length) : (stL db vss i k)[j] = partL db[j].rows (vss.getD j []) (if j < i then db[j].rows.length else if j = i then k else 0) := by
 have h2 : (stL db vss i k)[j]? = some (partL db[j].rows (vss.getD j []) (if j < i then db[j].rows.length else if j = i then k else 0)) := by
  unfold stL
  rw [List.getElem?_map, List.getElem?_range hj, Option.map_some, List.getD_eq_getElem?_getD (l := db), List.getElem?_eq_getElem hj]
  rfl
 rw [List.getElem?_eq_getElem h] at h2
 exact Option.some.inj h2
theorem stL_step (db : List Dt) (vss : List (List (List Value))) {i k : Nat} (hi : i < db.length) : (stL db vss i k).set i (partL db[i].rows (vss.getD i []) (k + 1)) = stL db vss i (k + 1) := by
 refine List.ext_getElem (by simp [stL_len]) fun j h1 h2 => ?_
 have hj : j < db.length := by rw [stL_len] at h2; exact h2
 rw [List.getElem_set]
 by_cases e : i = j
 ·subst e
  rw [if_pos rfl, stL_get _ _ _ _ hj, if_neg (by omega), if_pos rfl]
 ·rw [if_neg e, stL_get _ _ _ _ hj, stL_get _ _ _ _ hj]
  by_cases e2 : j < i
  ·rw [if_pos e2, if_pos e2]
  ·rw [if_neg e2, if_neg e2, if_neg (by omega), if_neg (by omega)]
theorem stL_next (db : List Dt) (vss : List (List (List Value))) {i : Nat} (hi : i < db.length) : stL db vss i db[i].rows.length = stL db vss (i + 1) 0 := by
 refine List.ext_getElem (by simp [stL_len]) fun j h1 h2 => ?_
 have hj : j < db.length := by rw [stL_len] at h2; exact h2
 rw [stL_get _ _ _ _ hj, stL_get _ _ _ _ hj]
 by_cases e : i = j
 ·subst e
  rw [if_neg (by omega), if_pos rfl, if_pos (by omega)]
 ·by_cases e2 : j < i
  ·rw [if_pos e2, if_pos (by omega)]
  ·rw [if_neg e2, if_neg (by omega), if_neg (by omega)]
   by_cases e3 : j = i + 1
   ·rw [if_pos e3]
   ·rw [if_neg e3]
theorem OwnTr.dbDone {w : World} {base : Nat} {v : Value} {db : List Dt} {vss : List (List (List Value))} {bs : List Nat} (hv : vss.length = db.length) (hl : ∀ j (h : j < db.length) (h' : j < vss.length), vss[j].length = db[j].rows.length) (h : OwnTr DtP 69 1 w base v (stL db vss db.length 0) bs) : OwnTr DtO 69 1 w base v db bs := by
 obtain ⟨css, bss, h, rfl⟩ := h
 have hn := stL_len db vss db.length 0
 refine ⟨css, bss, ⟨by rw [h.l1, hn], by rw [h.l2, hn], by have := h.row; rwa [hn] at this, fun i hi => ?_, h.apart⟩, rfl⟩
 have he := h.el i (by omega)
 have hi' : i < vss.length := by omega
 rw [stL_get _ _ _ _ hi, if_pos hi] at he
 obtain ⟨v1, e1, h1⟩ := he
 have hvi : vss.getD i [] = vss[i] := by rw [List.getD_eq_getElem?_getD, List.getElem?_eq_getElem hi']; rfl
 rw [hvi] at h1
 have h2 : OwnTr RwO 72 2 w base v1 db[i].rows (bss.getD i []) := OwnPt.done (hl i hi hi') h1
 exact ⟨v1, _, e1, h2, by simp, by have := h2.nodup RwO.good RwO.out; simpa using this⟩
theorem OwnTr.layVals {w : World} {base gi ci : Nat} {db : List Dt} {vss : List (List (List Value))} {i k : Nat} {bs bx : List Nat} {u : Value} {v : Value} (hv : vss.length = db.length) (hl : ∀ j (h : j < db.length) (h' : j < vss.length), vss[j].length = db[j].rows.length) (hi : i < db.length) (hk : k < db[i].rows.length)
  (h : OwnTr DtP 69 1 w base v (stL db vss i k) bs) (hh : ∀ css bss, OwnN DtP 69 1 w base v (stL db vss i k) css bss → css.getD i [] = [.slice (some ⟨gi, 0, none⟩) db[i].rows.length ci])
  (hE : RwO w base (((vss.getD i []).getD k []).set 1 u) db[i].rows[k] bx) (hn : ∀ b ∈ bx, b ∉ bs) :
  ∃ bs', OwnTr DtP 69 1 (w.setCell ⟨gi, k * 2 + 1, none⟩ u) base v (stL db vss i (k + 1)) bs' := by
 obtain ⟨css, bss, h, rfl⟩ := h
 have hlen := stL_len db vss i k
 have he := h.el i (by omega)
 have hi' : i < vss.length := by omega
 have hvi : vss.getD i [] = vss[i] := by rw [List.getD_eq_getElem?_getD, List.getElem?_eq_getElem hi']; rfl
 rw [stL_get _ _ _ _ hi, if_neg (by omega), if_pos rfl, hvi, hh css bss h] at he
 obtain ⟨v1, e1, h1⟩ := he
 obtain rfl : .slice (some ⟨gi, 0, none⟩) db[i].rows.length ci = v1 := by simpa using e1
 have hlv := hl i hi hi'
 have hk' : k < vss[i].length := by omega
 have hvk : vss[i].getD k [] = vss[i][k] := by rw [List.getD_eq_getElem?_getD, List.getElem?_eq_getElem hk']; rfl
 rw [hvi, hvk] at hE
 have hgi : gi ∈ bss.getD i [] := by
  obtain ⟨css2, bss2, -, e2⟩ := h1
  rw [e2]
  simp [blkN, Value.ownBlock]
 obtain ⟨b', h2, h3⟩ := OwnPt.cell RwO.good RwO.out (show OwnPt RwO 72 2 w base _ db[i].rows vss[i] k (bss.getD i []) from h1) hlv hk (t := 1) (by omega) hE (fun b hb hh => hn b hb (List.mem_append_right _ (mem_flatten_getD hh)))
 have h9 := h.inner DtP.good DtP.out (k := i) (by omega) (x := partL db[i].rows vss[i] (k + 1)) (bs := b') (w' := w.setCell ⟨gi, k * 2 + 1, none⟩ u) (by rw [hh css bss h]; exact ⟨_, rfl, h2⟩) hgi ⟨rfl, rfl, rfl, by simp [World.setCell], fun k hk hn => Below.heap_setCell _ _ _ _ (fun e => hn (by rw [e]))⟩ (fun b hb => by
  rcases h3 b hb with h4 | h4
  ·exact .inl h4
  ·exact .inr fun h5 => hn b h4 (List.mem_append_right _ h5))
 have e3 := stL_step db vss (k := k) hi
 rw [hvi] at e3
 rw [e3] at h9
 exact ⟨_, _, _, h9, rfl⟩
section
variable {α : Type} {Ts : List TypeId} {sz : Nat} {E : ElO α} {T : TypeId}
theorem OwnTr.cell1 (G : GoodO Ts 1 E) (hT : T ∉ Ts) {w : World} {base g c n : Nat} {xs : List α} {k : Nat} {bs bx : List Nat} {u : Value} {x : α} (h : OwnTr E T 1 w base (.slice (some ⟨g, 0, none⟩) n c) xs bs) (hl : n = xs.length) (hk : k < xs.length) (hE : E w base [u] x bx) (hn : ∀ b ∈ bx, b ∉ bs) :
  ∃ bs', OwnTr E T 1 (w.setCell ⟨g, k, none⟩ u) base (.slice (some ⟨g, 0, none⟩) n c) (xs.set k x) bs' := by
 obtain ⟨css, bss, h, rfl⟩ := h
 have hz : ∀ c ∈ css, c.length = 1 := fun c hc => by
  obtain ⟨i, hi, rfl⟩ := List.mem_iff_getElem.1 hc
  have := G.len (h.el i (by rw [← h.l1]; exact hi))
  rwa [List.getD_eq_getElem?_getD, List.getElem?_eq_getElem hi] at this
 subst hl
 obtain ⟨h1, h2⟩ := h.row.stored k u
 have h3 := flat_set1 hz (k := k) (t := 0) (by rw [h.l1]; exact hk) (by omega) u
 rw [Nat.mul_one, Nat.add_zero] at h3
 have h4 : (css.getD k []).set 0 u = [u] := by
  have h5 := G.len (h.el k hk)
  match css.getD k [], h5 with
  | [y], _ => rfl
 rw [h3, h4] at h1
 exact ⟨_, _, _, OwnN.put G hT h rfl hE (fun b hb hh => hn b hb (List.mem_append_right _ hh)) hk h1 h2, rfl⟩
theorem OwnTr.inls {w : World} {base : Nat} {v : Value} {xs : List α} {bs : List Nat} (h : OwnTr (PartO sz E) T sz w base v (xs.map .inl) bs) : OwnTr E T sz w base v xs bs := by
 obtain ⟨css, bss, h, rfl⟩ := h
 refine ⟨css, bss, ⟨by simpa using h.l1, by simpa using h.l2, by simpa using h.row, fun i hi => ?_, h.apart⟩, rfl⟩
 have := h.el i (by simpa using hi)
 rw [List.getElem_map] at this
 exact this
end
def mixL (db : List Dt) (vss : List (List (List Value))) : List (List (Rw ⊕ List Value) ⊕ List Value) := (List.zipWith (fun (d : Dt) vs => partL d.rows vs 0) db vss).map .inl ++ List.replicate (db.length - vss.length) (.inr [.slice none 0 0])
theorem mixL_len {db : List Dt} {vss : List (List (List Value))} (h : vss.length ≤ db.length) : (mixL db vss).length = db.length := by simp [mixL]; omega
theorem mixL_step {db : List Dt} {vss : List (List (List Value))} {k : Nat} (hk : vss.length = k) (h : k < db.length) (vs : List (List Value)) : (mixL db vss).set k (.inl (partL db[k].rows vs 0)) = mixL db (vss ++ [vs]) := by
 subst hk
 have h1 : (List.zipWith (fun (d : Dt) vs => partL d.rows vs 0) db (vss ++ [vs])) = List.zipWith (fun (d : Dt) vs => partL d.rows vs 0) db vss ++ [partL db[vss.length].rows vs 0] := by
  refine List.ext_getElem? fun j => ?_
  rw [List.getElem?_zipWith]
  by_cases hj : j < vss.length
  ·rw [List.getElem?_append_left hj, List.getElem?_append_left (by simp; omega), List.getElem?_zipWith]
  ·by_cases e : j = vss.length
   ·subst e
    rw [List.getElem?_append_right (Nat.le_refl _), List.getElem?_append_right (by simp; omega), List.getElem?_eq_getElem h]
    simp
    rw [Nat.min_eq_right (by omega)]
    simp
   ·rw [List.getElem?_append_right (by omega), List.getElem?_eq_none (l := [vs]) (by simp; omega), List.getElem?_eq_none (l := _ ++ [partL db[vss.length].rows vs 0]) (by simp; omega)]
    cases db[j]? <;> rfl
 unfold mixL
 rw [h1, List.map_append, List.set_append_right _ _ (by simp; omega), List.append_assoc]
 have h2 : vss.length - ((List.zipWith (fun (d : Dt) vs => partL d.rows vs 0) db vss).map (Sum.inl : _ → List (Rw ⊕ List Value) ⊕ List Value)).length = 0 := by simp; omega
 rw [h2, show db.length - vss.length = (db.length - (vss ++ [vs]).length) + 1 by simp; omega, List.replicate_succ]
 rfl
theorem mixL_end {db : List Dt} {vss : List (List (List Value))} (h : vss.length = db.length) : mixL db vss = (stL db vss 0 0).map .inl := by
 have h1 : (List.zipWith (fun (d : Dt) vs => partL d.rows vs 0) db vss) = stL db vss 0 0 := by
  refine List.ext_getElem (by simp [stL_len, h]) fun j h1 h2 => ?_
  have hj : j < db.length := by rw [stL_len] at h2; exact h2
  have hv : vss.getD j [] = vss[j]'(by omega) := by rw [List.getD_eq_getElem?_getD, List.getElem?_eq_getElem (by omega)]; rfl
  rw [List.getElem_zipWith, stL_get _ _ _ _ hj, if_neg (by omega), hv]
  by_cases e : j = 0
  ·rw [if_pos e]
  ·rw [if_neg e]
 unfold mixL
 rw [h1, h]
 simp
theorem OwnN.hdr {w : World} {base g c n : Nat} {L : List (List (Rw ⊕ List Value))} {css : List (List Value)} {bss : List (List Nat)} (h : OwnN DtP 69 1 w base (.slice (some ⟨g, 0, none⟩) n c) L css bss) {i : Nat} (hi : i < L.length) :
  ∃ A ci, css.getD i [] = [.slice A L[i].length ci] ∧ w.cell? ⟨g, i, none⟩ = some (.slice A L[i].length ci) ∧ OwnTr RwP 72 2 w base (.slice A L[i].length ci) L[i] (bss.getD i []) ∧ g ∉ bss.getD i [] := by
 obtain ⟨v, e, hv⟩ := h.el i hi
 obtain ⟨A, ci, rfl⟩ := hv.shape
 refine ⟨A, ci, e, ?_, hv, fun hh => h.out DtP.good DtP.out rfl (mem_flatten_getD hh)⟩
 rcases h.cells DtP.good with ⟨e2, rfl⟩ | ⟨g2, c2, e2, -, -, -, -, -, h6⟩
 ·simp at hi
 ·injection e2 with e2 _ _
  injection e2 with e2
  injection e2 with e2 _ _
  subst e2
  have := (h6 i hi).2 0 (.slice A L[i].length ci) (by rw [e]; rfl)
  simpa using this
theorem stL_len2 {db : List Dt} {vss : List (List (List Value))} (hv : vss.length = db.length) (hl : ∀ j (h : j < db.length) (h' : j < vss.length), vss[j].length = db[j].rows.length) {i k : Nat} (hi : i < db.length) (hk : k ≤ db[i].rows.length) (h : i < (stL db vss i k).length) : (stL db vss i k)[i].length = db[i].rows.length := by
 have hi' : i < vss.length := by omega
 have hvi : vss.getD i [] = vss[i] := by rw [List.getD_eq_getElem?_getD, List.getElem?_eq_getElem hi']; rfl
 rw [stL_get _ _ _ _ hi, if_neg (by omega), if_pos rfl, hvi, partL_len (hl i hi hi') hk]
theorem OwnTr.rowAt {w : World} {base g c n : Nat} {db : List Dt} {vss : List (List (List Value))} {i k : Nat} {bs : List Nat} (hv : vss.length = db.length) (hl : ∀ j (h : j < db.length) (h' : j < vss.length), vss[j].length = db[j].rows.length) (hi : i < db.length) (hk : k < db[i].rows.length)
  (h : OwnTr DtP 69 1 w base (.slice (some ⟨g, 0, none⟩) n c) (stL db vss i k) bs) :
  ∃ gi ci, w.cell? ⟨g, i, none⟩ = some (.slice (some ⟨gi, 0, none⟩) db[i].rows.length ci) ∧ base ≤ gi ∧ gi < w.heap.size ∧ gi ≠ g ∧ (∀ off, w.frozen? ⟨gi, off, none⟩ = false) ∧ ∀ t u, ((vss.getD i []).getD k [])[t]? = some u → w.cell? ⟨gi, k * 2 + t, none⟩ = some u := by
 obtain ⟨css, bss, h, rfl⟩ := h
 have hi2 : i < (stL db vss i k).length := by rw [stL_len]; exact hi
 have hi' : i < vss.length := by omega
 have hvi : vss.getD i [] = vss[i] := by rw [List.getD_eq_getElem?_getD, List.getElem?_eq_getElem hi']; rfl
 have hlv := hl i hi hi'
 have hvk : vss[i].getD k [] = vss[i][k]'(by omega) := by rw [List.getD_eq_getElem?_getD, List.getElem?_eq_getElem (by omega)]; rfl
 obtain ⟨A, ci, e1, e2, e3, e4⟩ := h.hdr hi2
 rw [stL_len2 hv hl hi (Nat.le_of_lt hk)] at e2 e3
 rw [stL_get _ _ _ _ hi, if_neg (by omega), if_pos rfl, hvi] at e3
 obtain ⟨gi, cc, ev, -, -, hg1, hg2, hg3, hfr, hcell⟩ := OwnPt.at_ RwO.good (show OwnPt RwO 72 2 w base _ db[i].rows vss[i] k (bss.getD i []) from e3) hlv hk
 obtain ⟨rfl, rfl⟩ : A = some ⟨gi, 0, none⟩ ∧ ci = cc := by cases ev; exact ⟨rfl, rfl⟩
 refine ⟨gi, ci, e2, hg1, hg2, fun e => e4 (e ▸ hg3), hfr, fun t u hu => hcell t u ?_⟩
 rw [hvi, hvk] at hu
 exact hu
theorem OwnTr.headAt {w : World} {base g c n : Nat} {db : List Dt} {vss : List (List (List Value))} {i k : Nat} {bs : List Nat} (hv : vss.length = db.length) (hl : ∀ j (h : j < db.length) (h' : j < vss.length), vss[j].length = db[j].rows.length) (hi : i < db.length) (hk : k ≤ db[i].rows.length)
  (h : OwnTr DtP 69 1 w base (.slice (some ⟨g, 0, none⟩) n c) (stL db vss i k) bs) : ∃ A ci, w.cell? ⟨g, i, none⟩ = some (.slice A db[i].rows.length ci) := by
 obtain ⟨css, bss, h, rfl⟩ := h
 have hi2 : i < (stL db vss i k).length := by rw [stL_len]; exact hi
 obtain ⟨A, ci, e1, e2, -⟩ := h.hdr hi2
 rw [stL_len2 hv hl hi hk] at e2
 exact ⟨A, ci, e2⟩
theorem OwnTr.layRow {w : World} {base g c n gi ci : Nat} {db : List Dt} {vss : List (List (List Value))} {i k : Nat} {bs bx : List Nat} {u : Value} (hv : vss.length = db.length) (hl : ∀ j (h : j < db.length) (h' : j < vss.length), vss[j].length = db[j].rows.length) (hi : i < db.length) (hk : k < db[i].rows.length)
  (h : OwnTr DtP 69 1 w base (.slice (some ⟨g, 0, none⟩) n c) (stL db vss i k) bs) (hh : w.cell? ⟨g, i, none⟩ = some (.slice (some ⟨gi, 0, none⟩) db[i].rows.length ci))
  (hE : RwO w base (((vss.getD i []).getD k []).set 1 u) db[i].rows[k] bx) (hn : ∀ b ∈ bx, b ∉ bs) :
  ∃ bs', OwnTr DtP 69 1 (w.setCell ⟨gi, k * 2 + 1, none⟩ u) base (.slice (some ⟨g, 0, none⟩) n c) (stL db vss i (k + 1)) bs' :=
 OwnTr.layVals hv hl hi hk h (fun css bss h' => by
  have hi2 : i < (stL db vss i k).length := by rw [stL_len]; exact hi
  obtain ⟨A, ci', e1, e2, -⟩ := h'.hdr hi2
  rw [hh] at e2
  rw [e1]
  injection e2 with e2
  rw [e2]) hE hn
end Go.Proofs.YtkehfilmpdoglaaGreat
namespace Go.Proofs.YtkehfilmpdoglaaGreat
open Go.RowKit
def Lows {α : Type} (R : Rd α) : Prop := ∀ (ok : Nat → Prop) (w : World) (cs : List Value) (d : α), R ok w cs d → R (fun b => b < w.heap.size) w cs d
theorem Sl.lows {α : Type} {R : Rd α} (hR : Lows R) {sz : Nat} (hz : 0 < sz) {ok : Nat → Prop} {w : World} {A : Option Addr} {n : Nat} {ds : List α} (h : Sl R sz ok w A n ds) : Sl R sz (fun b => b < w.heap.size) w A n ds :=
 ⟨h.1, fun hn => by
  obtain ⟨b, off, e, hb, hi⟩ := h.2 hn
  refine ⟨b, off, e, ?_, fun i hlt => ?_⟩
  ·obtain ⟨cs, h1, h2, h3⟩ := hi 0 (by have := h.1; omega)
   exact cell_lt (h3 0 _ (List.getElem?_eq_getElem (by omega)))
  ·obtain ⟨cs, h1, h2, h3⟩ := hi i hlt
   exact ⟨cs, h1, hR _ _ _ _ h2, h3⟩⟩
theorem FlatR.lows {α : Type} (f : α → List Value) : Lows (FlatR f) := fun _ _ _ _ h => h
theorem RwR.lows : Lows RwR := fun _ _ _ _ ⟨A0, n0, c0, e, h0, hcp⟩ => ⟨A0, n0, c0, e, h0.lows (FlatR.lows _) (by omega), hcp⟩
theorem DtR.lows : Lows DtR := fun _ _ _ _ ⟨A0, n0, c0, e, h0, hcp⟩ => ⟨A0, n0, c0, e, h0.lows RwR.lows (by omega), hcp⟩
theorem Sl.low {α : Type} {R : Rd α} (hR : Stays R) {sz n0 : Nat} {w W : World} {A : Option Addr} {n : Nat} {ds : List α} (h : Sl R sz (fun b => b < n0) w A n ds) (hb : Below n0 w W) : Sl R sz (fun b => b < n0) W A n ds :=
 h.stays hR (fun _ h => h) fun p v hp hc => (hb.cell hp).trans hc
def CameK (ok : Nat → Prop) (w : World) (db : List Dt) (vss : List (List (List Value))) : Prop := ∀ j (h : j < db.length) (h' : j < vss.length), vss[j].length = db[j].rows.length ∧ ∀ k (hk : k < db[j].rows.length) (hk' : k < vss[j].length), RwR ok w vss[j][k] db[j].rows[k]
theorem CameK.app {ok : Nat → Prop} {w : World} {db : List Dt} {vss : List (List (List Value))} {vs : List (List Value)} {k : Nat} (h : CameK ok w db vss) (hk : vss.length = k) (hkd : k < db.length) (h1 : vs.length = db[k].rows.length) (h2 : ∀ i (hi : i < db[k].rows.length) (hi' : i < vs.length), RwR ok w vs[i] db[k].rows[i]) : CameK ok w db (vss ++ [vs]) := fun j hj hj' => by
 subst hk
 by_cases e : j < vss.length
 ·rw [List.getElem_append_left e]
  exact h j hj e
 ·have e2 : j = vss.length := by simp at hj'; omega
  subst e2
  have e3 : (vss ++ [vs])[vss.length] = vs := by simp
  rw [e3]
  exact ⟨h1, fun i hi hi' => h2 i hi hi'⟩
theorem CameK.low {N : Nat} {w w' : World} {db : List Dt} {vss : List (List (List Value))} (h : CameK (· < N) w db vss) (hb : Below N w w') : CameK (· < N) w' db vss := fun j hj hj' => ⟨(h j hj hj').1, fun k hk hk' => RwR.stays _ _ _ _ _ _ ((h j hj hj').2 k hk hk') (fun _ h => h) fun p v hp hc => (hb.cell hp).trans hc⟩
theorem rawZero (w : World) (base : Nat) : PartO 1 DtP w base [.slice none 0 0] (.inr [.slice none 0 0]) [] := by
 refine ⟨rfl, rfl, fun u hu => ?_, rfl⟩
 rw [List.mem_singleton] at hu
 subst hu
 rfl
set_option maxRecDepth 100000 in
set_option maxHeartbeats 4000000 in
theorem implCopyLists (A : Option Addr) (n c : Nat) (db : List Dt) (ok : Nat → Prop) (w : World) (h : Sl DtR 1 ok w A n db) (hn : n ≤ 1048576) (hrn : ∀ d ∈ db, d.rows.length ≤ 1048576) :
  Calls Tryz.prog 47 #[.slice A n c] w fun e w' => ∃ vss bs, e = .returned (.slice (some ⟨w.heap.size, 0, none⟩) n n) ∧ vss.length = db.length ∧ CameK (· < w.heap.size) w' db vss ∧ OwnTr DtP 69 1 w' w.heap.size (.slice (some ⟨w.heap.size, 0, none⟩) n n) (stL db vss 0 0) bs ∧ Below w.heap.size w w' := by
 obtain rfl : db.length = n := h.1
 have HRN := Lib.hid hrn
 clear hrn
 replace h := h.lows DtR.lows (by omega)
 have hmk : ∀ w, (Instr.makeSlice 26 (.int .i64 (db.length : Int)) (.int .i64 (db.length : Int))).run Tryz.prog w = .ok (.slice (some ⟨w.heap.size, 0, none⟩) db.length db.length) (w.alloc (.cells (madeCells #[.slice none 0 0] (db.length * 1)) 69)) := fun w => mk_rows (P := Tryz.prog) Tryz.underlying26 infoDataR (by omega) db.length hn w
 have ho0 := OwnL.made (E := PartO 1 DtP) (T := 69) (sz := 1) w (Nat.le_refl w.heap.size) db.length #[.slice none 0 0] (by simp) rfl (.inr [.slice none 0 0]) (fun w' => rawZero w' _) (by unfold maxLen; omega)
 have hz := (Below.refl w.heap.size w).alloc (Nat.le_refl _) (.cells (madeCells #[.slice none 0 0] (db.length * 1)) 69)
 obtain ⟨bs0, ho0⟩ := ho0.b
 have HP := Lib.hid (show ∃ (vss : List (List (List Value))) (bs : List Nat), vss.length = 0 ∧ CameK (· < w.heap.size) (w.alloc (.cells (madeCells #[.slice none 0 0] (db.length * 1)) 69)) db vss ∧ OwnTr (PartO 1 DtP) 69 1 (w.alloc (.cells (madeCells #[.slice none 0 0] (db.length * 1)) 69)) w.heap.size (.slice (some ⟨w.heap.size, 0, none⟩) db.length db.length) (mixL db vss) bs from ⟨[], bs0, rfl, fun j _ h' => by simp at h', by
  have e : mixL db [] = List.replicate db.length (.inr [.slice none 0 0]) := by simp [mixL]
  rw [e]
  exact ho0⟩)
 clear ho0
 rw [Nat.mul_one] at hmk HP hz
 go_enter Tryz.func47, Tryz.ntmps47
 go_wp2_with fail
 generalize w.alloc (.cells (madeCells #[.slice none 0 0] db.length) 69) = z at *
 clear hmk
 go_loopw [10] (fun i wr => ∃ k : Nat, k ≤ db.length ∧ i = .int .i64 k ∧ Hid (∃ (vss : List (List (List Value))) (bs : List Nat), vss.length = k ∧ CameK (· < w.heap.size) wr db vss ∧ OwnTr (PartO 1 DtP) 69 1 wr w.heap.size (.slice (some ⟨w.heap.size, 0, none⟩) db.length db.length) (mixL db vss) bs) ∧ Hid (Below w.heap.size w wr)) (fun i _ => db.length - (intOf i).toNat)
 case atStart => exact ⟨0, by omega, rfl, HP, Lib.hid hz⟩
 case round =>
 clear HP hz
 obtain ⟨k, hk, rfl, hP, hB⟩ := hrel
 by_cases hlt : k < db.length
 ·obtain ⟨vss, bs, hvl, hCm, hO⟩ := hP.out
  obtain ⟨bd, od, AL, nL, cL, -, e3, p0, hrw, -⟩ := DtR.at_ h hlt
  obtain rfl : db[k].rows.length = nL := hrw.1
  subst e3
  have i1 : (0 : Int) ≤ k := by omega
  have i2 : (k : Int) < db.length := by omega
  have q0 := below_keep hB.out _ _ p0
  have HR := Lib.hid hrw
  have hrn := HRN.out _ (List.getElem_mem hlt)
  have HO := Lib.hid hO
  have HCM := Lib.hid hCm
  have HVL := Lib.hid hvl
  have hB' := hB.out
  clear hP hCm hO hvl hrw p0
  go_wp2_with fail
  refine (ownCloneRow AL _ cL db[k].rows (· < w.heap.size) wr (HR.out.low RwR.stays hB') (by omega)).mono ?_
  rintro e w2 ⟨v1, vs, b1, rfl, l1, o1, e1, k1⟩
  obtain ⟨B, d, rfl⟩ := o1.shape l1 (Nat.zero_le _)
  have hml := mixL_len (db := db) (vss := vss) (by rw [HVL.out]; omega)
  have hO2 := OwnTr.below (PartO.good DtP.good) HO.out k1
  obtain ⟨css, bss, hOn, eb⟩ := hO2
  have hcells : ∃ u, w2.cell? ⟨w.heap.size, k, none⟩ = some u := by
   rcases hOn.cells (PartO.good DtP.good) with ⟨e2, e4⟩ | ⟨g2, c2, e2, -, -, -, -, -, h6⟩
   ·rw [e4] at hml; simp at hml; omega
   ·injection e2 with e2 _ _
    injection e2 with e2
    injection e2 with e2 _ _
    obtain ⟨h7, h8⟩ := h6 k (by rw [hml]; exact hlt)
    have h9 := h8 0 ((css.getD k [])[0]'(by omega)) (by rw [List.getElem?_eq_getElem])
    rw [← e2] at h9
    exact ⟨_, by simpa using h9⟩
  obtain ⟨u, y0⟩ := hcells
  have y1 : w2.frozen? ⟨w.heap.size, k, none⟩ = false := World.ownsRow.frozenAt (n := db.length) (by have := hOn.row; rwa [hml] at this) k
  have hE : PartO 1 DtP w2 w.heap.size [.slice B db[k].rows.length d] (.inl (partL db[k].rows vs 0)) b1 := ⟨_, rfl, OwnTr.mono (PartO.good RwO.good) o1 hB'.size⟩
  have HN := Lib.hid (OwnTr.cell1 (PartO.good DtP.good) DtP.out ⟨css, bss, hOn, eb⟩ (by rw [hml]) (by rw [hml]; exact hlt) hE (fun b hb hh => by have h1 := (OwnTr.lt (PartO.good DtP.good) HO.out b hh).2; have h2 := (OwnPt.lt RwO.good o1 b hb).1; omega))
  have hbN : Below w.heap.size wr (w2.setCell ⟨w.heap.size, k, none⟩ (.slice B db[k].rows.length d)) := (k1.mono hB'.size).setCell (p := ⟨w.heap.size, k, none⟩) (Nat.le_refl _) _
  have HCN := Lib.hid ((HCM.out.app HVL.out hlt l1 e1).low hbN)
  have HB2 := Lib.hid ((hB'.trans (k1.mono hB'.size)).setCell (p := ⟨w.heap.size, k, none⟩) (Nat.le_refl _) (.slice B db[k].rows.length d))
  clear hE hOn o1 e1 k1 hB' hB HO eb hbN
  go_wp2_with fail
  go_roundw
  case rel => exact ⟨k + 1, by omega, by go_num, Lib.hid (by
   obtain ⟨bs', h1⟩ := HN.out
   rw [mixL_step HVL.out hlt vs] at h1
   exact ⟨_, bs', by simp [HVL.out], HCN.out, h1⟩), HB2⟩
  case measure => simp [intOf]; omega
 ·obtain rfl : k = db.length := by omega
  obtain ⟨vss, bs, hvl, hCm, hO⟩ := hP.out
  go_wp2_with fail
  go_ret
  rw [mixL_end hvl] at hO
  exact ⟨vss, bs, rfl, hvl, hCm, OwnTr.inls hO, hB.out⟩
set_option maxRecDepth 100000 in
set_option maxHeartbeats 4000000 in
theorem implCopyDb (A : Option Addr) (n c : Nat) (db : List Dt) (ok : Nat → Prop) (w : World) (h : Sl DtR 1 ok w A n db) (hn : n ≤ 1048576) (hrn : ∀ d ∈ db, d.rows.length ≤ 1048576) (hvn : ∀ d ∈ db, ∀ r ∈ d.rows, r.vals.length ≤ 1048576) :
  Calls Tryz.prog 27 #[.slice A n c] w fun e w' => ∃ v bs, e = .returned v ∧ OwnTr DtO 69 1 w' w.heap.size v db bs ∧ Below w.heap.size w w' := by
 obtain rfl : db.length = n := h.1
 have HVN := Lib.hid hvn
 have HRN := Lib.hid hrn
 clear hvn
 go_enter Tryz.func27, Tryz.ntmps27
 go_wp2_with fail
 refine (implCopyLists A _ c db ok w h hn hrn).mono ?_
 rintro e w1 ⟨vss, b1, rfl, hv, hCm, hO, hB⟩
 have HV := Lib.hid hv
 have HL := Lib.hid (show ∀ j (h : j < db.length) (h' : j < vss.length), vss[j].length = db[j].rows.length from fun j h h' => (hCm j h h').1)
 have HO := Lib.hid (Exists.intro b1 hO)
 have HCM := Lib.hid hCm
 have HB := Lib.hid hB
 clear hv hCm hO hB h
 go_wp2_with fail
 go_loopw [11] (fun iv wr => ∃ i : Nat, i ≤ db.length ∧ iv = .int .i64 i ∧ Hid (∃ bs, OwnTr DtP 69 1 wr w.heap.size (.slice (some ⟨w.heap.size, 0, none⟩) db.length db.length) (stL db vss i 0) bs) ∧ Hid (CameK (· < w.heap.size) wr db vss) ∧ Hid (Below w.heap.size w wr)) (fun iv _ => db.length - (intOf iv).toNat)
 case atStart => exact ⟨0, by omega, rfl, HO, HCM, HB⟩
 case round =>
 clear HO HCM HB
 obtain ⟨wo, hwo⟩ : ∃ wo, wo = wr := ⟨_, rfl⟩
 subst hwo
 obtain ⟨i, hi, rfl, hO, hC, hB⟩ := hrel
 by_cases hlt : i < db.length
 ·have hrl := HRN.out _ (List.getElem_mem hlt)
  obtain ⟨bs, hO'⟩ := hO.out
  obtain ⟨A0, c0, hh⟩ := hO'.headAt HV.out HL.out hlt (Nat.zero_le _)
  have i1 : (0 : Int) ≤ i := by omega
  have i2 : (i : Int) < db.length := by omega
  clear hO'
  go_wp2_with fail
  go_loopw [20] (fun kv wr => ∃ k : Nat, k ≤ db[i].rows.length ∧ kv = .int .i64 k ∧ Hid (∃ bs, OwnTr DtP 69 1 wr w.heap.size (.slice (some ⟨w.heap.size, 0, none⟩) db.length db.length) (stL db vss i k) bs) ∧ Hid (CameK (· < w.heap.size) wr db vss) ∧ Hid (Below w.heap.size w wr)) (fun kv _ => db[i].rows.length - (intOf kv).toNat)
  case atStart => exact ⟨0, by omega, rfl, hO, hC, hB⟩
  case round =>
   clear hO hC hB hh
   obtain ⟨k, hk, rfl, hO, hC, hB⟩ := hrel
   by_cases hkt : k < db[i].rows.length
   ·obtain ⟨bs', hO'⟩ := hO.out
    obtain ⟨gi, ci, hh, hg1, hg2, hg3, hfr, hcell⟩ := hO'.rowAt HV.out HL.out hlt hkt
    have hiv : i < vss.length := by rw [HV.out]; exact hlt
    have hkv : k < vss[i].length := by rw [HL.out i hlt hiv]; exact hkt
    have hvi : vss.getD i [] = vss[i] := by rw [List.getD_eq_getElem?_getD, List.getElem?_eq_getElem hiv]; rfl
    have hvk : vss[i].getD k [] = vss[i][k] := by rw [List.getD_eq_getElem?_getD, List.getElem?_eq_getElem hkv]; rfl
    obtain ⟨Av, nv, cv, evk, hvv, -⟩ := (hC.out i hlt hiv).2 k hkt hkv
    obtain rfl : db[i].rows[k].vals.length = nv := hvv.1
    have q1 : wr.cell? ⟨gi, k * 2 + 1, none⟩ = some (.slice Av db[i].rows[k].vals.length cv) := hcell 1 _ (by rw [hvi, hvk, evk]; rfl)
    have f1 := hfr (k * 2 + 1)
    have k1 : (0 : Int) ≤ k := by omega
    have k2 : (k : Int) < db[i].rows.length := by omega
    have HO := Lib.hid hO'
    have HHH := Lib.hid hh
    have HG := Lib.hid hg1
    have HG3 := Lib.hid hg3
    have HVV := Lib.hid hvv
    have HVK := Lib.hid (show (vss.getD i []).getD k [] = [.int .i64 db[i].rows[k].id, .slice Av db[i].rows[k].vals.length cv] by rw [hvi, hvk, evk])
    have hvl : db[i].rows[k].vals.length ≤ 1073741824 := by have := HVN.out _ (List.getElem_mem hlt) _ (List.getElem_mem hkt); omega
    clear hO hO' hg1 hg2 hg3 hfr hcell hvv evk hvi hvk
    go_wp2_with fail
    refine (ownCloneVal Av _ cv db[i].rows[k].vals _ wr HVV.out hvl).mono ?_
    rintro e w2 ⟨v2, b2, rfl, o2, k3⟩
    obtain ⟨B, d, rfl⟩ := o2.shape
    have q1' := below_keep k3 _ _ q1
    have f1' := (World.frozen?_of_block (w := wr) (k3.block gi (cell_lt q1))).trans f1
    have hO2 := OwnTr.below DtP.good HO.out k3
    have hh2 := below_keep k3 _ _ HHH.out
    have hE : RwO w2 w.heap.size (((vss.getD i []).getD k []).set 1 (.slice B db[i].rows[k].vals.length d)) db[i].rows[k] b2 := by
     rw [HVK.out]
     exact ⟨_, b2, rfl, o2.mono VlO.good hB.out.size, by simp, o2.nodup VlO.good VlO.out⟩
    have HN := Lib.hid (OwnTr.layRow HV.out HL.out hlt hkt hO2 hh2 hE (fun b hb hh => by have h1 := (OwnTr.lt DtP.good HO.out b hh).2; have h2 := (o2.lt VlO.good b hb).1; omega))
    have hbN : Below w.heap.size wr (w2.setCell ⟨gi, k * 2 + 1, none⟩ (.slice B db[i].rows[k].vals.length d)) := (k3.mono hB.out.size).setCell (p := ⟨gi, k * 2 + 1, none⟩) HG.out _
    have HCN := Lib.hid (hC.out.low hbN)
    have HBN := Lib.hid (hB.out.trans hbN)
    clear hE hO2 hh2 o2 k3 hbN q1 f1 hC hB hh HO
    go_wp2_with fail
    go_roundw
    case rel => exact ⟨k + 1, by omega, by go_num, HN, HCN, HBN⟩
    case measure => simp [intOf]; omega
   ·obtain rfl : k = db[i].rows.length := by omega
    rw [stL_next db vss hlt] at hO
    go_wp2_with fail
    go_roundw
    case rel => exact ⟨i + 1, by omega, by go_num, hO, hC, hB⟩
    case measure => simp [intOf]; omega
 ·obtain rfl : i = db.length := by omega
  obtain ⟨bs, hO'⟩ := hO.out
  go_wp2_with fail
  go_ret
  exact ⟨_, bs, rfl, OwnTr.dbDone HV.out HL.out hO', hB.out⟩
end Go.Proofs.YtkehfilmpdoglaaGreat
namespace Go.Proofs.YtkehfilmpdoglaaGreat
open Go.RowKit
section
variable {b o hi : Nat} {bs : List Nat} {wr W W' : World} {cs : List Value}
end
def ApartL (l : List (List Nat)) : Prop := ∀ i j x, x ∈ l.getD i [] → x ∈ l.getD j [] → i = j
theorem ApartL.of {bss : List (List Nat)} (h : bss.flatten.Nodup) : ApartL bss := fun i j x hx hj => by
 have hi : i < bss.length := by
  rcases Nat.lt_or_ge i bss.length with h1 | h1
  ·exact h1
  ·rw [List.getD_eq_getElem?_getD, List.getElem?_eq_none h1] at hx; simp at hx
 have hjl : j < bss.length := by
  rcases Nat.lt_or_ge j bss.length with h1 | h1
  ·exact h1
  ·rw [List.getD_eq_getElem?_getD, List.getElem?_eq_none h1] at hj; simp at hj
 rw [List.getD_eq_getElem?_getD, List.getElem?_eq_getElem hi] at hx
 rw [List.getD_eq_getElem?_getD, List.getElem?_eq_getElem hjl] at hj
 have hp := (List.pairwise_iff_getElem.1 (List.pairwise_flatten.1 h).2)
 rcases Nat.lt_trichotomy i j with h1 | h1 | h1
 ·exact absurd rfl (hp i j hi hjl h1 x hx x hj)
 ·exact h1
 ·exact absurd rfl (hp j i hjl hi h1 x hj x hx)
def IntS : ElS := fun w cs cnt bs => ∃ (u0 : Value), cs = [u0] ∧ cnt = 1 ∧ bs = []
theorem IntO.toS {w : World} {base : Nat} {cs : List Value} {x : Int} {bs : List Nat} (h : IntO w base cs x bs) : IntS w cs ((fun _ : Int => 1) x) bs := by
 obtain ⟨rfl, rfl⟩ := h
 exact ⟨_, rfl, rfl, rfl⟩
def TkS : ElS := fun w cs cnt bs => ∃ (u0 : Value) (u1 : Value) (u2 : Value) (u3 : Value) (u4 : Value), cs = [u0, u1, u2, u3, u4] ∧ cnt = 5 ∧ bs = []
theorem TkO.toS {w : World} {base : Nat} {cs : List Value} {x : Tk} {bs : List Nat} (h : TkO w base cs x bs) : TkS w cs ((fun _ : Tk => 5) x) bs := by
 obtain ⟨rfl, rfl⟩ := h
 exact ⟨_, _, _, _, _, rfl, rfl, rfl⟩
def VlS : ElS := fun w cs cnt bs => ∃ (u0 : Value) (u1 : Value) (u2 : Value), cs = [u0, u1, u2] ∧ cnt = 3 ∧ bs = []
theorem VlO.toS {w : World} {base : Nat} {cs : List Value} {x : Vl} {bs : List Nat} (h : VlO w base cs x bs) : VlS w cs ((fun _ : Vl => 3) x) bs := by
 obtain ⟨rfl, rfl⟩ := h
 exact ⟨_, _, _, rfl, rfl, rfl⟩
def ClS : ElS := fun w cs cnt bs => ∃ (u0 : Value) (u1 : Value) (u2 : Value) (u3 : Value) (u4 : Value) (u5 : Value), cs = [u0, u1, u2, u3, u4, u5] ∧ cnt = 6 ∧ bs = []
theorem ClO.toS {w : World} {base : Nat} {cs : List Value} {x : Cl} {bs : List Nat} (h : ClO w base cs x bs) : ClS w cs ((fun _ : Cl => 6) x) bs := by
 obtain ⟨rfl, rfl⟩ := h
 exact ⟨_, _, _, _, _, _, rfl, rfl, rfl⟩
def UqS : ElS := fun w cs cnt bs => ∃ (A0 : Option Addr) (n0 c0 : Nat) (a0 b0 : List Nat), cs = [.slice A0 n0 c0] ∧ cnt = a0.sum ∧ bs = [b0].flatten ∧ ApartL [b0] ∧ ShL IntS 1 w A0 n0 a0 b0
theorem UqO.toS {w : World} {base : Nat} {cs : List Value} {x : Uq} {bs : List Nat} (h : UqO w base cs x bs) (hx : x.sz ≤ 1048576) : UqS w cs x.cnt bs := by
 obtain ⟨v0, b0, e, h0, e2, hn⟩ := h
 subst e2
 have l0 : x.cols.length ≤ x.sz := by unfold Uq.sz; omega
 obtain ⟨A0, c0, rfl, p0⟩ := h0.sh (cnt := (fun _ : Int => 1)) IntO.good IntO.out (by omega) (fun cs x bs hm h => IntO.toS h)
 exact ⟨A0, _, c0, _, b0, e, rfl, rfl, ApartL.of hn, p0⟩
def CkS : ElS := fun w cs cnt bs => ∃ (A0 : Option Addr) (n0 c0 : Nat) (a0 b0 : List Nat), cs = [.slice A0 n0 c0] ∧ cnt = a0.sum ∧ bs = [b0].flatten ∧ ApartL [b0] ∧ ShL TkS 5 w A0 n0 a0 b0
theorem CkO.toS {w : World} {base : Nat} {cs : List Value} {x : Ck} {bs : List Nat} (h : CkO w base cs x bs) (hx : x.sz ≤ 1048576) : CkS w cs x.cnt bs := by
 obtain ⟨v0, b0, e, h0, e2, hn⟩ := h
 subst e2
 have l0 : x.expr.length ≤ x.sz := by unfold Ck.sz; unfold szL; omega
 obtain ⟨A0, c0, rfl, p0⟩ := h0.sh (cnt := (fun _ : Tk => 5)) TkO.good TkO.out (by omega) (fun cs x bs hm h => TkO.toS h)
 exact ⟨A0, _, c0, _, b0, e, rfl, rfl, ApartL.of hn, p0⟩
def FkS : ElS := fun w cs cnt bs => ∃ (u1 : Value) (u2 : Value) (u3 : Value) (u4 : Value) (A0 : Option Addr) (n0 c0 : Nat) (a0 b0 : List Nat), cs = [.slice A0 n0 c0, u1, u2, u3, u4] ∧ cnt = 4 + a0.sum ∧ bs = [b0].flatten ∧ ApartL [b0] ∧ ShL IntS 1 w A0 n0 a0 b0
theorem FkO.toS {w : World} {base : Nat} {cs : List Value} {x : Fk} {bs : List Nat} (h : FkO w base cs x bs) (hx : x.sz ≤ 1048576) : FkS w cs x.cnt bs := by
 obtain ⟨v0, b0, e, h0, e2, hn⟩ := h
 subst e2
 have l0 : x.cols.length ≤ x.sz := by unfold Fk.sz; omega
 obtain ⟨A0, c0, rfl, p0⟩ := h0.sh (cnt := (fun _ : Int => 1)) IntO.good IntO.out (by omega) (fun cs x bs hm h => IntO.toS h)
 exact ⟨_, _, _, _, A0, _, c0, _, b0, e, rfl, rfl, ApartL.of hn, p0⟩
def TbS : ElS := fun w cs cnt bs => ∃ (u0 : Value) (A1 : Option Addr) (n1 c1 : Nat) (a1 b1 : List Nat) (A2 : Option Addr) (n2 c2 : Nat) (a2 b2 : List Nat) (A3 : Option Addr) (n3 c3 : Nat) (a3 b3 : List Nat) (A4 : Option Addr) (n4 c4 : Nat) (a4 b4 : List Nat) (A5 : Option Addr) (n5 c5 : Nat) (a5 b5 : List Nat), cs = [u0, .slice A1 n1 c1, .slice A2 n2 c2, .slice A3 n3 c3, .slice A4 n4 c4, .slice A5 n5 c5] ∧ cnt = 1 + a1.sum + a2.sum + a3.sum + a4.sum + a5.sum ∧ bs = [b1, b2, b3, b4, b5].flatten ∧ ApartL [b1, b2, b3, b4, b5] ∧ ShL ClS 6 w A1 n1 a1 b1 ∧ ShL IntS 1 w A2 n2 a2 b2 ∧ ShL UqS 1 w A3 n3 a3 b3 ∧ ShL CkS 1 w A4 n4 a4 b4 ∧ ShL FkS 5 w A5 n5 a5 b5
theorem TbO.toS {w : World} {base : Nat} {cs : List Value} {x : Tb} {bs : List Nat} (h : TbO w base cs x bs) (hx : x.sz ≤ 1048576) : TbS w cs x.cnt bs := by
 obtain ⟨v1, b1, v2, b2, v3, b3, v4, b4, v5, b5, e, h1, h2, h3, h4, h5, e2, hn⟩ := h
 subst e2
 have l1 : x.cols.length ≤ x.sz := by unfold Tb.sz; unfold szL; omega
 obtain ⟨A1, c1, rfl, p1⟩ := h1.sh (cnt := (fun _ : Cl => 6)) ClO.good ClO.out (by omega) (fun cs x bs hm h => ClO.toS h)
 have l2 : x.key.length ≤ x.sz := by unfold Tb.sz; omega
 obtain ⟨A2, c2, rfl, p2⟩ := h2.sh (cnt := (fun _ : Int => 1)) IntO.good IntO.out (by omega) (fun cs x bs hm h => IntO.toS h)
 have l3 : x.uniqs.length ≤ x.sz := by unfold Tb.sz; unfold szL; omega
 have g3 : ∀ y ∈ x.uniqs, y.sz ≤ 1048576 := fun y hy => by have h1 := szL_mem Uq.sz x.uniqs y hy; unfold Tb.sz at hx; omega
 obtain ⟨A3, c3, rfl, p3⟩ := h3.sh (cnt := Uq.cnt) UqO.good UqO.out (by omega) (fun cs x bs hm h => UqO.toS h (g3 x hm))
 have l4 : x.checks.length ≤ x.sz := by unfold Tb.sz; unfold szL; omega
 have g4 : ∀ y ∈ x.checks, y.sz ≤ 1048576 := fun y hy => by have h1 := szL_mem Ck.sz x.checks y hy; unfold Tb.sz at hx; omega
 obtain ⟨A4, c4, rfl, p4⟩ := h4.sh (cnt := Ck.cnt) CkO.good CkO.out (by omega) (fun cs x bs hm h => CkO.toS h (g4 x hm))
 have l5 : x.fks.length ≤ x.sz := by unfold Tb.sz; unfold szL; omega
 have g5 : ∀ y ∈ x.fks, y.sz ≤ 1048576 := fun y hy => by have h1 := szL_mem Fk.sz x.fks y hy; unfold Tb.sz at hx; omega
 obtain ⟨A5, c5, rfl, p5⟩ := h5.sh (cnt := Fk.cnt) FkO.good FkO.out (by omega) (fun cs x bs hm h => FkO.toS h (g5 x hm))
 exact ⟨_, A1, _, c1, _, b1, A2, _, c2, _, b2, A3, _, c3, _, b3, A4, _, c4, _, b4, A5, _, c5, _, b5, e, rfl, rfl, ApartL.of hn, p1, p2, p3, p4, p5⟩
def RwS : ElS := fun w cs cnt bs => ∃ (u0 : Value) (A1 : Option Addr) (n1 c1 : Nat) (a1 b1 : List Nat), cs = [u0, .slice A1 n1 c1] ∧ cnt = 1 + a1.sum ∧ bs = [b1].flatten ∧ ApartL [b1] ∧ ShL VlS 3 w A1 n1 a1 b1
theorem RwO.toS {w : World} {base : Nat} {cs : List Value} {x : Rw} {bs : List Nat} (h : RwO w base cs x bs) (hx : x.sz ≤ 1048576) : RwS w cs x.cnt bs := by
 obtain ⟨v1, b1, e, h1, e2, hn⟩ := h
 subst e2
 have l1 : x.vals.length ≤ x.sz := by unfold Rw.sz; unfold szL; omega
 obtain ⟨A1, c1, rfl, p1⟩ := h1.sh (cnt := (fun _ : Vl => 3)) VlO.good VlO.out (by omega) (fun cs x bs hm h => VlO.toS h)
 exact ⟨_, A1, _, c1, _, b1, e, rfl, rfl, ApartL.of hn, p1⟩
def DtS : ElS := fun w cs cnt bs => ∃ (A0 : Option Addr) (n0 c0 : Nat) (a0 b0 : List Nat), cs = [.slice A0 n0 c0] ∧ cnt = a0.sum ∧ bs = [b0].flatten ∧ ApartL [b0] ∧ ShL RwS 2 w A0 n0 a0 b0
theorem DtO.toS {w : World} {base : Nat} {cs : List Value} {x : Dt} {bs : List Nat} (h : DtO w base cs x bs) (hx : x.sz ≤ 1048576) : DtS w cs x.cnt bs := by
 obtain ⟨v0, b0, e, h0, e2, hn⟩ := h
 subst e2
 have l0 : x.rows.length ≤ x.sz := by unfold Dt.sz; unfold szL; omega
 have g0 : ∀ y ∈ x.rows, y.sz ≤ 1048576 := fun y hy => by have h1 := szL_mem Rw.sz x.rows y hy; unfold Dt.sz at hx; omega
 obtain ⟨A0, c0, rfl, p0⟩ := h0.sh (cnt := Rw.cnt) RwO.good RwO.out (by omega) (fun cs x bs hm h => RwO.toS h (g0 x hm))
 exact ⟨A0, _, c0, _, b0, e, rfl, rfl, ApartL.of hn, p0⟩
def SvS : ElS := fun w cs cnt bs => ∃ (u0 : Value) (A1 : Option Addr) (n1 c1 : Nat) (a1 b1 : List Nat), cs = [u0, .slice A1 n1 c1] ∧ cnt = 1 + a1.sum ∧ bs = [b1].flatten ∧ ApartL [b1] ∧ ShL DtS 1 w A1 n1 a1 b1
theorem SvO.toS {w : World} {base : Nat} {cs : List Value} {x : Sv} {bs : List Nat} (h : SvO w base cs x bs) (hx : x.sz ≤ 1048576) : SvS w cs x.cnt bs := by
 obtain ⟨v1, b1, e, h1, e2, hn⟩ := h
 subst e2
 have l1 : x.db.length ≤ x.sz := by unfold Sv.sz; unfold szL; omega
 have g1 : ∀ y ∈ x.db, y.sz ≤ 1048576 := fun y hy => by have h1 := szL_mem Dt.sz x.db y hy; unfold Sv.sz at hx; omega
 obtain ⟨A1, c1, rfl, p1⟩ := h1.sh (cnt := Dt.cnt) DtO.good DtO.out (by omega) (fun cs x bs hm h => DtO.toS h (g1 x hm))
 exact ⟨_, A1, _, c1, _, b1, e, rfl, rfl, ApartL.of hn, p1⟩
end Go.Proofs.YtkehfilmpdoglaaGreat
namespace Go.Proofs.YtkehfilmpdoglaaGreat
open Go.RowKit
def Ss.fits (x : Ss) : Prop := szL Tb.sz x.schema ≤ 1048576 ∧ szL Dt.sz x.db ≤ 1048576 ∧ szL Dt.sz x.start ≤ 1048576 ∧ szL Sv.sz x.saves ≤ 1048576
def SsO (w : World) (base : Nat) (cs : List Value) (x : Ss) (bs : List Nat) : Prop := ∃ (v0 : Value) (b0 : List Nat) (v1 : Value) (b1 : List Nat) (v3 : Value) (b3 : List Nat) (v4 : Value) (b4 : List Nat), cs = [v0, v1, .bool x.isOpen, v3, v4] ∧ OwnTr TbO 57 6 w base v0 x.schema b0 ∧ OwnTr DtO 69 1 w base v1 x.db b1 ∧ OwnTr DtO 69 1 w base v3 x.start b3 ∧ OwnTr SvO 42 2 w base v4 x.saves b4 ∧ bs = [b0, b1, b3, b4].flatten ∧ bs.Nodup
theorem SsO.dep {w w' : World} {base : Nat} {cs : List Value} {x : Ss} {bs : List Nat} (h : SsO w base cs x bs) (hd : ∀ b ∈ bs, w'.heap[b]? = w.heap[b]?) : SsO w' base cs x bs := by
 obtain ⟨v0, b0, v1, b1, v3, b3, v4, b4, e, h0, h1, h3, h4, e2, hn⟩ := h
 exact ⟨v0, b0, v1, b1, v3, b3, v4, b4, e, h0.dep TbO.good (fun b hb => hd b (by rw [e2]; exact mem_flatten_getD (bss := [b0, b1, b3, b4]) (i := 0) hb)), h1.dep DtO.good (fun b hb => hd b (by rw [e2]; exact mem_flatten_getD (bss := [b0, b1, b3, b4]) (i := 1) hb)), h3.dep DtO.good (fun b hb => hd b (by rw [e2]; exact mem_flatten_getD (bss := [b0, b1, b3, b4]) (i := 2) hb)), h4.dep SvO.good (fun b hb => hd b (by rw [e2]; exact mem_flatten_getD (bss := [b0, b1, b3, b4]) (i := 3) hb)), e2, hn⟩
theorem SsO.lt {w : World} {base : Nat} {cs : List Value} {x : Ss} {bs : List Nat} (h : SsO w base cs x bs) : ∀ b ∈ bs, base ≤ b ∧ b < w.heap.size := by
 obtain ⟨v0, b0, v1, b1, v3, b3, v4, b4, e, h0, h1, h3, h4, e2, hn⟩ := h
 intro b hb
 rw [e2] at hb
 simp only [List.flatten_cons, List.flatten_nil, List.append_nil, List.mem_append] at hb
 rcases hb with hb | hb | hb | hb
 ·exact h0.lt TbO.good b hb
 ·exact h1.lt DtO.good b hb
 ·exact h3.lt DtO.good b hb
 ·exact h4.lt SvO.good b hb
theorem SsO.mono {w : World} {base base' : Nat} {cs : List Value} {x : Ss} {bs : List Nat} (h : SsO w base cs x bs) (hb : base' ≤ base) : SsO w base' cs x bs := by
 obtain ⟨v0, b0, v1, b1, v3, b3, v4, b4, e, h0, h1, h3, h4, e2, hn⟩ := h
 exact ⟨v0, b0, v1, b1, v3, b3, v4, b4, e, h0.mono TbO.good hb, h1.mono DtO.good hb, h3.mono DtO.good hb, h4.mono SvO.good hb, e2, hn⟩
theorem SsO.open_ {w : World} {base : Nat} {cs : List Value} {x : Ss} {bs : List Nat} (h : SsO w base cs x bs) (hf : x.fits) :
  ∃ (A0 : Option Addr) (c0 : Nat) (A1 : Option Addr) (c1 : Nat) (A3 : Option Addr) (c3 : Nat) (A4 : Option Addr) (c4 : Nat) (b0 b1 b3 b4 : List Nat), cs = [.slice A0 x.schema.length c0, .slice A1 x.db.length c1, .bool x.isOpen, .slice A3 x.start.length c3, .slice A4 x.saves.length c4] ∧
   (Sl TbR 6 (okF base w) w A0 x.schema.length x.schema ∧ Sl DtR 1 (okF base w) w A1 x.db.length x.db ∧ Sl DtR 1 (okF base w) w A3 x.start.length x.start ∧ Sl SvR 2 (okF base w) w A4 x.saves.length x.saves) ∧
   (ShL TbS 6 w A0 x.schema.length (x.schema.map Tb.cnt) b0 ∧ ShL DtS 1 w A1 x.db.length (x.db.map Dt.cnt) b1 ∧ ShL DtS 1 w A3 x.start.length (x.start.map Dt.cnt) b3 ∧ ShL SvS 2 w A4 x.saves.length (x.saves.map Sv.cnt) b4) ∧ ApartL [b0, b1, b3, b4] ∧ bs = [b0, b1, b3, b4].flatten ∧ x.schema.length ≤ c0 ∧ x.db.length ≤ c1 ∧ x.start.length ≤ c3 ∧ x.saves.length ≤ c4 := by
 obtain ⟨v0, b0, v1, b1, v3, b3, v4, b4, e, h0, h1, h3, h4, e2, hn⟩ := h
 obtain ⟨f0, f1, f3, f4⟩ := hf
 obtain ⟨A0, c0, rfl, p0, -, r0⟩ := h0.sl TbO.good (fun cs x bs h => TbO.toR h)
 obtain ⟨A0', c0', e0, s0⟩ := h0.sh (cnt := Tb.cnt) TbO.good TbO.out (by unfold szL at f0; omega) (fun cs y bs hm h => TbO.toS h (by have := szL_mem Tb.sz x.schema y hm; omega))
 obtain ⟨rfl, rfl⟩ : A0 = A0' ∧ c0 = c0' := by cases e0; exact ⟨rfl, rfl⟩
 obtain ⟨A1, c1, rfl, p1, -, r1⟩ := h1.sl DtO.good (fun cs x bs h => DtO.toR h)
 obtain ⟨A1', c1', e1, s1⟩ := h1.sh (cnt := Dt.cnt) DtO.good DtO.out (by unfold szL at f1; omega) (fun cs y bs hm h => DtO.toS h (by have := szL_mem Dt.sz x.db y hm; omega))
 obtain ⟨rfl, rfl⟩ : A1 = A1' ∧ c1 = c1' := by cases e1; exact ⟨rfl, rfl⟩
 obtain ⟨A3, c3, rfl, p3, -, r3⟩ := h3.sl DtO.good (fun cs x bs h => DtO.toR h)
 obtain ⟨A3', c3', e3, s3⟩ := h3.sh (cnt := Dt.cnt) DtO.good DtO.out (by unfold szL at f3; omega) (fun cs y bs hm h => DtO.toS h (by have := szL_mem Dt.sz x.start y hm; omega))
 obtain ⟨rfl, rfl⟩ : A3 = A3' ∧ c3 = c3' := by cases e3; exact ⟨rfl, rfl⟩
 obtain ⟨A4, c4, rfl, p4, -, r4⟩ := h4.sl SvO.good (fun cs x bs h => SvO.toR h)
 obtain ⟨A4', c4', e4, s4⟩ := h4.sh (cnt := Sv.cnt) SvO.good SvO.out (by unfold szL at f4; omega) (fun cs y bs hm h => SvO.toS h (by have := szL_mem Sv.sz x.saves y hm; omega))
 obtain ⟨rfl, rfl⟩ : A4 = A4' ∧ c4 = c4' := by cases e4; exact ⟨rfl, rfl⟩
 subst e2
 exact ⟨A0, c0, A1, c1, A3, c3, A4, c4, b0, b1, b3, b4, e, ⟨r0, r1, r3, r4⟩, ⟨s0, s1, s3, s4⟩, ApartL.of hn, rfl, p0, p1, p3, p4⟩
end Go.Proofs.YtkehfilmpdoglaaGreat
