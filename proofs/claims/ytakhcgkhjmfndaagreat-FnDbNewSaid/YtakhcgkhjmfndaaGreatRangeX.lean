/-
  A range over an iterator that itself ranges over an iterator: the law for the outer loop. The iterator is told that a round keeps whatever is no cells and lies from its own start on (so the records of its own loops lie on), and may rely on it that the loop's invariant abides the turn of its records.
-/
import Derived.RangeFuncNested
import Derived.RangeFuncBound
import Derived.RangeFuncCalls
import Derived.RangeFuncLeaves
import Derived.Shelf.Abstract
import Derived.Shelf.RegionOpen
import Derived.WalkKit
import Derived.OwnWalkIn
import Derived.TacticsInMore
import Derived.LoopNIn
import Derived.LoopIn
namespace Go.Proofs.YtakhcgkhjmfndaaGreat
open Go.RowKit
set_option linter.unusedVariables false
set_option linter.unusedSimpArgs false

/-- What a round that an iterator asks for hands back. -/
def RoundX {α : Type} (B : Nat) (Kp : World → World → Prop) (J Jx : List α → World → Prop) (xs : List α) (W : World) (e : Ending) (W' : World) : Prop :=
  KeepsFrom B W W' ∧ ((e = .returned (.bool true) ∧ J xs W' ∧ Kp W W') ∨ (e = .returned (.bool false) ∧ Jx xs W'))

/-- An iterator: whatever the loop keeps, as long as that abides new blocks and the turn of what is no cells and is newer than the call. -/
def SeqX {α : Type} (P : Program) (n : Nat) (g : Nat) (lb : Array Value) (encs : α → Array Value) (Kp : World → World → Prop) (S Sp : List α → Prop) (N : Nat) (w : World) : Prop :=
  ∀ (l : Nat) (J Jx : List α → World → Prop) (W : World), Below w.heap.size w W → OwnFrom W.heap.size J → OwnFrom W.heap.size Jx →
    (∀ pre x W1, J pre W1 → pre.length < N → YieldAt Fence.wide n P l (encs x) W1 (RoundX W.heap.size Kp J Jx (pre ++ [x]) W1)) →
    J [] W → CallsIn Fence.wide n P g (#[.func (.yield l) #[] #[]] ++ lb) W fun e W' => (∃ v, e = .returned v) ∧ ((∃ xs, S xs ∧ J xs W') ∨ (∃ pre, Sp pre ∧ Jx pre W'))

theorem room_any (k : Nat) : Fence.wide.room k := room_wide k
theorem roundIn_any {m m' : Nat} {P : Program} {l : Nat} {f : FuncId} {tmps : Array Value} {assign body : Code} {w : World} {R : Ending → World → Prop}
    (h : RoundIn Fence.wide m P l f tmps assign body w R) : RoundIn Fence.wide m' P l f tmps assign body w R := ⟨h.1, fun c cs _ => h.2 c cs (room_wide _)⟩
theorem yieldAt_any {m m' : Nat} {P : Program} {l : Nat} {args : Array Value} {W : World} {R : Ending → World → Prop} (h : YieldAt Fence.wide m P l args W R) : YieldAt Fence.wide m' P l args W R := by
  obtain ⟨f, t, a, b, hy, hr⟩ := h
  exact ⟨f, t, a, b, hy, roundIn_any hr⟩

/-- The two records of the outer loop. -/
def Recs (l : Nat) (st : Loop) (D : Nat) (W : World) : Prop := W.heap[l]? = some (.loop st) ∧ W.heap[D]? = some (.deferred (some []))
theorem Recs.keep {l D B : Nat} {st : Loop} {W W' : World} (h : Recs l st D W) (hl : B ≤ l) (hD : B ≤ D) (k : KeepsFrom B W W') : Recs l st D W' := ⟨k.same _ _ hl h.1 rfl, k.same _ _ hD h.2 rfl⟩
theorem Recs.put {l D : Nat} {st : Loop} {W : World} (h : Recs l st D W) (hne : D ≠ l) (st' : Loop) : Recs l st' D (W.putObj l (.loop st')) := ⟨World.putObj_heap_same (Array.getElem?_eq_some_iff.1 h.1).1, (World.putObj_heap_other hne).trans h.2⟩
theorem Recs.own {β : Type} {l D B : Nat} (st : β → Loop) (hl : l < B) (hD : D < B) : OwnFrom B (fun s W => Recs l (st s) D W) := fun s X Y row hs hg hr =>
  ⟨(hg.block l (Array.getElem?_eq_some_iff.1 hs.1).1 (fun e => by have := (hr l e.symm).1; omega)).trans hs.1, (hg.block D (Array.getElem?_eq_some_iff.1 hs.2).1 (fun e => by have := (hr D e.symm).1; omega)).trans hs.2⟩

set_option maxHeartbeats 2000000 in
/-- The law for the outer loop. -/
theorem wp_rangeX {α : Type} {P : Program} {n : Nat} {g : Operand} {ps : Array Tmp} {assign body : Code} {Q : Exit → Act → World → Prop} {a : Act} {w : World}
    {gf : Nat} {lb : Array Value} (hg : a.eval g = .func (.func gf) #[] lb) (eg : ∀ args w, (callFunc gf args).run P w = .ok (.enter gf args) w)
    {encs : α → Array Value} {Kp : World → World → Prop} {S Sp : List α → Prop} {N : Nat} (hseq : SeqX P (n - 1) gf lb encs Kp S Sp N w)
    (hKt : ∀ {A B C : World}, Kp A B → Kp B C → Kp A C) (hKb : ∀ (W : World) (l : Nat) (o o' : Obj), w.heap.size ≤ l → W.heap[l]? = some o → o.isCells = false → Kp W (W.putObj l o')) (hps : ∀ x, (encs x).size = ps.size)
    (I : List α → World → Prop) (Ix : Code → List α → World → Prop) (hI : OwnFrom w.heap.size I) (hIx : ∀ c, OwnFrom w.heap.size (Ix c)) (h0 : I [] w) (Ax : α → Act → World → Prop) (hAx : ∀ x a', OwnFrom w.heap.size (fun (_ : Unit) W => Ax x a' W))
    (hassign : ∀ (l : Nat) (pre : List α) (x : α) (W : World) (K : Act → World → Prop), I pre W → (∀ a' W', KeepsFrom w.heap.size W W' → Kp W W' → I pre W' → Ax x a' W' → K a' W') →
      assign.wpIn (Fence.wide.inRound l) n P (Exit.then K (fun _ _ _ => False)) { tmps := (ps.zip (encs x)).foldl (fun t (p, v) => t.setIfInBounds p v) a.tmps, defers := [] } W)
    (hbody : ∀ (l : Nat) (pre : List α) (x : α) (a' : Act) (W : World), I pre W → Ax x a' W → pre.length < N → body.wpIn (Fence.wide.inRound l) n P (ownPostG w.heap.size Kp I Ix (pre ++ [x]) W) a' W)
    (hdone : ∀ (D : Nat) (xs : List α) (W : World), w.heap.size ≤ D → S xs → I xs W → W.heap[D]? = some (.deferred (some [])) → Q .normal { a with defers := { target := .collected D, args := #[] } :: a.defers } W)
    (hstop : ∀ (D : Nat) (c : Code) (pre : List α) (W : World), w.heap.size ≤ D → Sp pre → Ix c pre W → W.heap[D]? = some (.deferred (some [])) → c.wpIn Fence.wide n P Q { a with defers := { target := .collected D, args := #[] } :: a.defers } W) :
    (Code.rangeFunc g ps assign body).wpIn Fence.wide n P Q a w := by
  refine wpIn_rangeFunc fun fn hfn => ?_
  obtain ⟨D, hD⟩ : ∃ D, w.heap.size = D := ⟨_, rfl⟩
  obtain ⟨mk, hmk⟩ : ∃ mk : LoopState → Option Code → Loop, mk = fun st pe => { state := st, pending := pe, fn, tmps := a.tmps, params := ps, assign, body, defers := D } := ⟨_, rfl⟩
  obtain ⟨V, hV⟩ : ∃ V, (w.alloc (.deferred (some []))).alloc (.loop (mk .ready none)) = V := ⟨_, rfl⟩
  have hVs : V.heap.size = D + 2 := by rw [← hV, World.size_alloc, World.size_alloc, hD]
  have hR : Recs (D + 1) (mk .ready none) D V := by
    constructor
    · rw [← hV]; have := World.alloc_heap_new (w.alloc (.deferred (some []))) (.loop (mk .ready none)); rwa [World.size_alloc, hD] at this
    · rw [← hV, ← hD]; exact (Below.heap_alloc _ _ _ (by simp)).trans (World.alloc_heap_new w _)
  have hIV : I [] V := by rw [← hV]; exact hI.alloc _ (hI.alloc _ h0)
  have hBV : Below w.heap.size w V := by rw [← hV]; exact ((Below.refl _ w).alloc (Nat.le_refl _) _).alloc (by simp) _
  have hlow : ∀ {A : World} {row : Option Nat}, (∀ r, row = some r → V.heap.size ≤ r ∧ ∃ o : Obj, A.heap[r]? = some o ∧ o.isCells = false) → (∀ r, row = some r → w.heap.size ≤ r ∧ ∃ o : Obj, A.heap[r]? = some o ∧ o.isCells = false) :=
    fun h r e => ⟨by have := (h r e).1; omega, (h r e).2⟩
  refine ⟨D + 1, [{ target := .collected D, args := #[] }], V, { target := .fn (.func gf) lb, args := #[.func (.yield (D + 1)) #[] #[]] }, V, gf, #[.func (.yield (D + 1)) #[] #[]] ++ lb, V, ?_, ?_, fun _ _ => trivial, ?_, fun h => (by cases h), ?_⟩
  · show (Instr.enterLoop fn a.tmps ps assign body none).run P w = _
    rw [run_enterLoop_outer, hD, ← hV, hmk]
  · simp only [resolve, hg]
    simp [go_sem]
  · simp [invoke, go_sem, eg]
  have hz : D + 1 ≠ D := by omega
  have hpair : OwnFrom V.heap.size (fun (pre : List α) W => I pre W ∧ Recs (D + 1) (mk .ready none) D W) :=
    OwnFrom.and (fun s X Y row hs hg' hr => hI s X Y row hs hg' (hlow hr)) (Recs.own (fun _ => mk .ready none) (by omega) (by omega))
  have hpairx : OwnFrom V.heap.size (fun (pre : List α) W => ∃ c, Ix c pre W ∧ Recs (D + 1) (mk .done (some c)) D W) := fun s X Y row hs hg' hr => by
    obtain ⟨c, h1, h2⟩ := hs
    exact ⟨c, hIx c s X Y row h1 hg' (hlow hr), Recs.own (fun (_ : Unit) => mk .done (some c)) (by omega) (by omega) () X Y row h2 hg' hr⟩
  refine (hseq (D + 1) _ _ V hBV hpair hpairx (fun pre x W hJ hlen => ?_) ⟨hIV, hR⟩).mono ?_
  · obtain ⟨hi, hrec⟩ := hJ
    have hy := run_yield (P := P) (args := encs x) hrec.1 (by rw [hmk]; exact hps x)
    refine ⟨fn, _, assign, body, by rw [hy, hmk], roundIn_any (m := n) (roundIn_of_wpIn hfn ?_)⟩
    refine hassign _ pre x W _ hi fun a1 W1 k1 kp1 i1 ax1 => ?_
    -- the assignment to the loop's variables may have laid blocks: the records lie as they lay
    have rec1 := hrec.keep (by omega) (by omega) k1
    refine ⟨_, run_beginRound rec1.1 (by rw [hmk]), ?_⟩
    have hrec2 := rec1.put (Ne.symm hz) { mk .ready none with state := .busy }
    have hkp := hKb W1 (D + 1) _ (.loop { mk .ready none with state := .busy }) (by omega) rec1.1 rfl
    refine wpIn_mono (hbody _ pre x a1 _ (hI.putObj _ i1 (by omega) rec1.1 rfl) ((hAx x a1).putObj (s := ()) _ ax1 (by omega) rec1.1 rfl) hlen) ?_
    -- what the round has left is read off the body's word
    have tail : ∀ (jump : Option Code) (W3 : World), KeepsFrom w.heap.size (W1.putObj (D + 1) (.loop { mk .ready none with state := .busy })) W3 →
        ∃ W4, (Instr.endRound (D + 1) jump).run P W3 = .ok (.bool jump.isNone) W4 ∧ W4 = W3.putObj (D + 1) (.loop (mk (if jump.isNone then .ready else .done) jump)) ∧ W3.heap[D + 1]? = some (.loop { mk .ready none with state := .busy }) ∧
          Recs (D + 1) (mk (if jump.isNone then .ready else .done) jump) D W4 ∧ KeepsFrom V.heap.size W W4 := fun jump W3 k3 => by
      have r3 := hrec2.keep (by omega) (by omega) k3
      refine ⟨_, run_endRound jump r3.1, by rw [hmk], r3.1, by rw [hmk] at r3 ⊢; exact r3.put (Ne.symm hz) _, ?_⟩
      refine ⟨by have := k3.size; have := k1.size; simp only [World.putObj_size] at *; omega, fun k o hk ho hc => ?_⟩
      have e1 : k ≠ D + 1 := by omega
      exact (World.putObj_heap_other e1).trans (k3.same k o (by omega) ((World.putObj_heap_other e1).trans (k1.same k o (by omega) ho hc)) hc)
    rintro e a3 W3 hp
    cases e with
    | normal =>
      obtain ⟨k3, kp3, i3⟩ := hp
      obtain ⟨W4, hr, rfl, h3, r4, k4⟩ := tail none W3 k3
      exact ⟨_, _, hr, k4, .inl ⟨rfl, ⟨hI.putObj _ i3 (by omega) h3 rfl, r4⟩, hKt kp1 (hKt (hKt hkp kp3) (hKb _ _ _ _ (by omega) h3 rfl))⟩⟩
    | ret =>
      obtain ⟨k3, i3⟩ := hp
      obtain ⟨W4, hr, rfl, h3, r4, k4⟩ := tail (some .ret) W3 k3
      exact ⟨_, _, hr, k4, .inr ⟨rfl, _, (hIx _).putObj _ i3 (by omega) h3 rfl, r4⟩⟩
    | exit id =>
      obtain ⟨k3, i3⟩ := hp
      obtain ⟨W4, hr, rfl, h3, r4, k4⟩ := tail (some (.exit id)) W3 k3
      exact ⟨_, _, hr, k4, .inr ⟨rfl, _, (hIx _).putObj _ i3 (by omega) h3 rfl, r4⟩⟩
    | goto t =>
      obtain ⟨k3, i3⟩ := hp
      obtain ⟨W4, hr, rfl, h3, r4, k4⟩ := tail (some (.goto t)) W3 k3
      exact ⟨_, _, hr, k4, .inr ⟨rfl, _, (hIx _).putObj _ i3 (by omega) h3 rfl, r4⟩⟩
    | panic ch => exact hp.elim
    | outgrown => exact hp.elim
  · rintro e W2 ⟨⟨v, rfl⟩, h | h⟩
    · obtain ⟨xs, hS, hi, hrec⟩ := h
      refine ⟨none, _, by have := run_endLoop (P := P) hrec.1 (by rw [hmk]; simp); rw [hmk] at this; exact this, ?_⟩
      exact hdone _ xs _ (by omega) hS (hI.putObj _ hi (by omega) hrec.1 rfl) ((World.putObj_heap_other (Ne.symm hz)).trans hrec.2)
    · obtain ⟨pre, hSp, c, hi, hrec⟩ := h
      refine ⟨some c, _, by have := run_endLoop (P := P) hrec.1 (by rw [hmk]; simp); rw [hmk] at this; exact this, ?_⟩
      exact hstop _ c pre _ (by omega) hSp ((hIx c).putObj _ hi (by omega) hrec.1 rfl) ((World.putObj_heap_other (Ne.symm hz)).trans hrec.2)

/-- In a round's frame every operation but a defer statement is carried out as everywhere: a region that draws its order may be walked as outside of a round. -/
theorem wpAnyIn_round {F : Fence} (hro : F.round = none) {n l : Nat} {P : Program} {md : Region.Mode} {ops : Array Oper} {Q : Exit → Act → World → Prop}
    (hd : ∀ o ∈ ops, ∀ (ρ : Operand → Value), o.semAt (some l) ρ = o.semAt none ρ) : ∀ (fuel : Nat) (listed : Array Bool) (a : Act) (w : World), wpAnyIn F n P md ops Q fuel listed a w → wpAnyIn (F.inRound l) n P md ops Q fuel listed a w
  | 0, _, _, _, h => h
  | fuel + 1, listed, a, w, h => ⟨h.1, fun i hi => by
      have h1 := wpOpIn_mono (fun a w => wpAnyIn_round hro hd fuel (listed.setIfInBounds i true) a w) (h.2 i hi)
      unfold wpOpIn at h1 ⊢
      cases ho : ops[i]? with
      | none => rw [ho] at h1; exact h1
      | some o =>
        rw [ho] at h1
        simp only at h1 ⊢
        by_cases hw : Region.wanted o (yielded ops a.tmps) = true
        · rw [if_pos hw] at h1 ⊢
          unfold Oper.wpIn at h1 ⊢
          refine ⟨h1.1, ?_⟩
          have h2 := h1.2
          rw [hro] at h2
          rw [Fence.inRound_round, hd o (Array.mem_of_getElem? ho)]
          exact h2
        · rw [if_neg hw] at h1 ⊢
          exact h1⟩

/-- An iterator that reads only, by the shelf's word, is one by this. -/
theorem SeqX.mono {α : Type} {P : Program} {n : Nat} {g : Nat} {lb : Array Value} {encs : α → Array Value} {Kp : World → World → Prop} {S Sp : List α → Prop} {N : Nat} {w w' : World} (h : SeqX P n g lb encs Kp S Sp N w) (hb : Below w.heap.size w w') : SeqX P n g lb encs Kp S Sp N w' :=
  fun l J Jx W hW => h l J Jx W (hb.trans (hW.mono hb.size))
end Go.Proofs.YtakhcgkhjmfndaaGreat
