/-
  Contracts of the functions that draw values out of a code: each drawn Val is as the laws want it, nothing that was there has turned.
-/
import Derived.Test.YtimgaipikgpgkaaDraws
import Derived.Test.YtimgaipikgpgkaaVals
import Derived.BigRegion
import Derived.Deep.RegionHeld3
namespace Go.Proofs.Ytimgaipikgpgkaa
open Go.RowKit

def isVal (v : Value) (_ : World) : Prop := ∃ k n s, v = .agg #[.int .i64 k, .int .i64 n, .string s] ∧ IsVal k n s

theorem okV_valOkB {k n : Int} {s : ByteArray} (h : okV k n s) : valOkB k n s = true := by
  rcases h with ⟨rfl, rfl, rfl⟩ | ⟨rfl, h1, h2, rfl⟩ | ⟨rfl, rfl, h⟩
  · simp [valOkB]
  · simp [valOkB, h1, h2]
  · simp [valOkB]; omega

/-- Block b of w is a Val, whole. -/
def Blk (w : World) (b : Nat) (k n : Int) (s : ByteArray) : Prop := w.heap[b]? = some (.cells #[.int .i64 k, .int .i64 n, .string s] 25)

theorem Blk.cells {w : World} {b : Nat} {k n : Int} {s : ByteArray} (h : Blk w b k n s) :
    w.cell? ⟨b, 0, none⟩ = some (.int .i64 k) ∧ w.cell? ⟨b, 1, none⟩ = some (.int .i64 n) ∧ w.cell? ⟨b, 2, none⟩ = some (.string s) := by
  unfold Blk at h
  simp [World.cell?, h]
theorem Blk.free {w : World} {b : Nat} {k n : Int} {s : ByteArray} (h : Blk w b k n s) :
    w.frozen? ⟨b, 0, none⟩ = false ∧ w.frozen? ⟨b, 1, none⟩ = false ∧ w.frozen? ⟨b, 2, none⟩ = false := by
  unfold Blk at h
  simp [World.frozen?, h]
theorem Blk.lt {w : World} {b : Nat} {k n : Int} {s : ByteArray} (h : Blk w b k n s) : b < w.heap.size := by
  have := h.cells.1; exact cell_lt this
theorem Blk.but {w w' : World} {R b : Nat} {k n : Int} {s : ByteArray} (h : Blk w b k n s) (hb : But R w w') (hr : b ≠ R) : Blk w' b k n s := (hb.block b h.lt hr).trans h
theorem Blk.alloc {w : World} {b : Nat} {k n : Int} {s : ByteArray} (h : Blk w b k n s) (o : Obj) : Blk (w.alloc o) b k n s := (Below.heap_alloc w o b h.lt).trans h
theorem Blk.new (w : World) (k n : Int) (s : ByteArray) : Blk (w.alloc (.cells #[.int .i64 k, .int .i64 n, .string s] 25)) w.heap.size k n s := by
  show (w.heap.push _)[w.heap.size]? = _
  simp

/-- A cell behind three stores into another block. -/
theorem stay3 {w : World} {b c i : Nat} {x y z v : Value} (h : b ≠ c) (hc : w.cell? ⟨c, i, none⟩ = some v) :
    (((w.setCell ⟨b, 0, none⟩ x).setCell ⟨b, 1, none⟩ y).setCell ⟨b, 2, none⟩ z).cell? ⟨c, i, none⟩ = some v := by
  have e : ∀ o, (⟨b, o, none⟩ : Addr) ≠ ⟨c, i, none⟩ := fun o he => h (congrArg Addr.block he)
  rw [World.cell?_setCell_other _ _ _ _ (e 2), World.cell?_setCell_other _ _ _ _ (e 1), World.cell?_setCell_other _ _ _ _ (e 0)]; exact hc

/-- Three cells that may be written. -/
def Wr (w : World) (b : Nat) : Prop := (∃ v, w.cell? ⟨b, 0, none⟩ = some v) ∧ (∃ v, w.cell? ⟨b, 1, none⟩ = some v) ∧ (∃ v, w.cell? ⟨b, 2, none⟩ = some v) ∧ w.frozen? ⟨b, 0, none⟩ = false ∧ w.frozen? ⟨b, 1, none⟩ = false ∧ w.frozen? ⟨b, 2, none⟩ = false
theorem Blk.wr {w : World} {b : Nat} {k n : Int} {s : ByteArray} (h : Blk w b k n s) : Wr w b := ⟨⟨_, h.cells.1⟩, ⟨_, h.cells.2.1⟩, ⟨_, h.cells.2.2⟩, h.free.1, h.free.2.1, h.free.2.2⟩
theorem Wr.lt {w : World} {b : Nat} (h : Wr w b) : b < w.heap.size := by obtain ⟨⟨v, hv⟩, _⟩ := h; exact cell_lt hv
theorem Wr.but {w w' : World} {R b : Nat} (h : Wr w b) (hb : But R w w') (hr : b ≠ R) : Wr w' b := by
  have hl := h.lt
  obtain ⟨⟨v0, h0⟩, ⟨v1, h1⟩, ⟨v2, h2⟩, f0, f1, f2⟩ := h
  exact ⟨⟨v0, (hb.cell hl hr).trans h0⟩, ⟨v1, (hb.cell hl hr).trans h1⟩, ⟨v2, (hb.cell hl hr).trans h2⟩, (hb.frozen hl hr).trans f0, (hb.frozen hl hr).trans f1, (hb.frozen hl hr).trans f2⟩
theorem Wr.set {w : World} {b : Nat} (h : Wr w b) (p : Addr) (x : Value) : Wr (w.setCell p x) b := by
  obtain ⟨⟨v0, h0⟩, ⟨v1, h1⟩, ⟨v2, h2⟩, f0, f1, f2⟩ := h
  have e : ∀ q v, w.cell? q = some v → ∃ u, (w.setCell p x).cell? q = some u := fun q v hq => by
    by_cases hpq : p = q
    · subst hpq; exact ⟨_, World.cell?_setCell_same _ _ _ hq⟩
    · exact ⟨_, (World.cell?_setCell_other _ _ _ _ hpq).trans hq⟩
  exact ⟨e _ _ h0, e _ _ h1, e _ _ h2, (World.frozen?_setCell _ _ _ _).trans f0, (World.frozen?_setCell _ _ _ _).trans f1, (World.frozen?_setCell _ _ _ _).trans f2⟩

theorem Wr.drew {w : World} {b : Nat} (h : Wr w b) : Wr w.drew b := h
theorem But.undrew {R : Nat} {w w' : World} (h : But R w.drew w') : But R w w' := ⟨h.os, h.tape, h.output, h.size, h.block⟩

/-- A store into a block that is neither the reader's nor one that the code lies in. -/
theorem Rd.setOut {w0 w : World} {R : Nat} {a : Option Addr} {len cap : Nat} {zs : List Int} (h0 : IsRow .u8 w0 a len cap zs) (h : Rd w R a len cap zs) {p : Addr} (hp : w0.heap.size ≤ p.block) (hR : p.block ≠ R) (v : Value) : Rd (w.setCell p v) R a len cap zs := by
  have hc : ∀ q : Addr, q.block ≠ p.block → (w.setCell p v).cell? q = w.cell? q := fun q hq => World.cell?_setCell_other _ _ _ _ (fun e => hq (by rw [e]))
  obtain ⟨i, hi, hi1⟩ := h.place
  refine ⟨(hc _ hR.symm).trans h.code, ⟨i, hi, (hc _ hR.symm).trans hi1⟩, (World.frozen?_setCell _ _ _ _).trans h.free, ?_, h.apart⟩
  rcases h0 with e | ⟨x, rfl, hl, hm, hz, hcell, hwz⟩
  · exact .inl e
  · rcases h.row with ⟨e, _⟩ | ⟨x', e, _, _, _, hcell', _⟩
    · cases e
    · cases e
      exact .inr ⟨x, rfl, hl, hm, hz, fun i hi => (hc _ (Nat.ne_of_lt (Nat.lt_of_lt_of_le (cell_lt (hcell i hi)) hp))).trans (hcell' i hi), hwz⟩
theorem Rd.drew {w : World} {R : Nat} {a : Option Addr} {len cap : Nat} {zs : List Int} (h : Rd w R a len cap zs) : Rd w.drew R a len cap zs := ⟨h.code, h.place, h.free, h.row, h.apart⟩

set_option maxHeartbeats 1000000 in
theorem drawOrder (a : Option Addr) (len cap : Nat) (zs : List Int) (w : World) (h : IsRow .u8 w a len cap zs) :
    Calls Try.prog 15 #[.slice a len cap] w (Drawn (isPair isOkVal isOkVal) w) := by
  have hx := ((Below.refl w.heap.size w).alloc (Nat.le_refl _) (.cells #[.int .i64 0, .int .i64 0, .string ⟨#[]⟩] 25)).alloc (by simp) (.cells #[.int .i64 0, .int .i64 0, .string ⟨#[]⟩] 25)
  have r0 := (Blk.new w 0 0 ⟨#[]⟩).alloc (.cells #[.int .i64 0, .int .i64 0, .string ⟨#[]⟩] 25)
  have r1 := Blk.new (w.alloc (.cells #[.int .i64 0, .int .i64 0, .string ⟨#[]⟩] 25)) 0 0 ⟨#[]⟩
  rw [show (w.alloc (.cells #[.int .i64 0, .int .i64 0, .string ⟨#[]⟩] 25)).heap.size = w.heap.size + 1 by simp] at r1
  have hrow := h.below hx
  go_enter Try.func15, Try.ntmps15
  go_wp2_with fail
  generalize (w.alloc (.cells #[.int .i64 0, .int .i64 0, .string ⟨#[]⟩] 25)).alloc (.cells #[.int .i64 0, .int .i64 0, .string ⟨#[]⟩] 25) = x at *
  refine (specOpen _ _ _ _).mono ?_
  rintro e w1 ⟨rfl, rfl⟩
  have h0 := Rd.new hrow 59
  have q0 := r0.alloc (.cells #[.slice a len cap, .int .i64 0] 59)
  have q1 := r1.alloc (.cells #[.slice a len cap, .int .i64 0] 59)
  have hy := hx.alloc hx.size (.cells #[.slice a len cap, .int .i64 0] 59)
  have n0 : w.heap.size ≠ x.heap.size := Nat.ne_of_lt r0.lt
  have n1 : w.heap.size + 1 ≠ x.heap.size := Nat.ne_of_lt r1.lt
  go_wp2_with fail
  refine (rdVal _ _ a len cap zs h0).mono ?_
  rintro e w2 ⟨v, rfl, ⟨k, n, s, rfl, ok1⟩, hb, hr⟩
  have p0 := q0.but hb n0
  have p1 := q1.but hb n1
  have hz := hy.trans (hb.below (Nat.le_of_lt (by have := r1.lt; omega)) (by have := r1.lt; simp; omega))
  have p2 := Blk.new w2 k n s
  have n2 : w2.heap.size ≠ x.heap.size := Nat.ne_of_gt (by have := cell_lt hr.code; simpa using this)
  go_wp2_with fail
  refine (rdOnce _ _ _ a len cap zs (hr.alloc _)).mono ?_
  rintro e w3 ⟨v, rfl, ⟨b, rfl⟩, hb3, hr3⟩
  have u0 := (p0.alloc _).but hb3 n0
  have u1 := (p1.alloc _).but hb3 n1
  have u2 := p2.but hb3 n2
  have hz3 := (hz.alloc hz.size _).trans (hb3.below (Nat.le_of_lt (by have := r1.lt; omega)) (Nat.le_trans (Nat.le_trans hz.size (Nat.le_succ _)) (by simp)))
  obtain ⟨c0, c1, c2⟩ := u2.cells
  obtain ⟨d0, d1, d2⟩ := u0.cells
  obtain ⟨e0, e1, e2⟩ := u1.cells
  obtain ⟨f0, f1, f2⟩ := u0.free
  obtain ⟨g0, g1, g2⟩ := u1.free
  have m0 : w.heap.size ≠ w2.heap.size := Nat.ne_of_lt p0.lt
  have m1 : w.heap.size + 1 ≠ w2.heap.size := Nat.ne_of_lt p1.lt
  cases b with
  | true =>
    go_wp2_with fail
    go_region_held3 (fun w' => w'.cell? ⟨w2.heap.size, 0, none⟩ = some (.int .i64 k) ∧ w'.cell? ⟨w2.heap.size, 1, none⟩ = some (.int .i64 n) ∧ w'.cell? ⟨w2.heap.size, 2, none⟩ = some (.string s)) (first | go_keep | exact ⟨stay3 m0 c0, stay3 m0 c1, stay3 m0 c2⟩ | exact ⟨stay3 m1 c0, stay3 m1 c1, stay3 m1 c2⟩ | exact ⟨stay3 m0 (stay3 m1 c0), stay3 m0 (stay3 m1 c1), stay3 m0 (stay3 m1 c2)⟩ | exact ⟨stay3 m1 (stay3 m0 c0), stay3 m1 (stay3 m0 c1), stay3 m1 (stay3 m0 c2)⟩) (fail)
    all_goals
      go_wp2
      refine bodyPost_ret (v := .tuple #[.agg #[.int .i64 k, .int .i64 n, .string s], .agg #[.int .i64 k, .int .i64 n, .string s]]) (by simp [results, Try.results15, go_sem, d0, d1, d2, e0, e1, e2]) rfl
        ⟨_, rfl, ⟨_, _, rfl, ⟨k, n, s, rfl, ok1⟩, ⟨k, n, s, rfl, ok1⟩⟩, ?_⟩
      repeat (first | with_reducible exact hz3 | with_reducible refine Below.drew ?_ | with_reducible refine Below.setCell ?_ (by simp) _)
  | false =>
    have y0 := u0.wr
    have y1 := u1.wr
    have Y0 := Lib.hid y0
    have Y1 := Lib.hid y1
    have HR := Lib.hid hr3
    have H0 := Lib.hid h
    clear y0 y1
    go_wp2_with fail
    go_region_held3 (fun w' => w'.cell? ⟨w2.heap.size, 0, none⟩ = some (.int .i64 k) ∧ w'.cell? ⟨w2.heap.size, 1, none⟩ = some (.int .i64 n) ∧ w'.cell? ⟨w2.heap.size, 2, none⟩ = some (.string s))
      (first | go_keep | exact ⟨(hb5.cell u2.lt n2).trans c0, (hb5.cell u2.lt n2).trans c1, (hb5.cell u2.lt n2).trans c2⟩ | exact ⟨stay3 m0 c0, stay3 m0 c1, stay3 m0 c2⟩ | exact ⟨stay3 m1 c0, stay3 m1 c1, stay3 m1 c2⟩)
      (first | (go_at_call 38; refine (rdVal _ _ a len cap zs HR.out.drew).mono ?_; rintro e w4 ⟨v, rfl, ⟨k2, n2', s2, rfl, ok2⟩, hb5', hr5⟩; have hb5 := hb5'.undrew; clear hb5'; obtain ⟨⟨a0, z0⟩, ⟨a1, z1⟩, ⟨a2, z2⟩, z3, z4, z5⟩ := Wr.but Y0.out hb5 n0; obtain ⟨⟨b0, t0⟩, ⟨b1, t1⟩, ⟨b2, t2⟩, t3, t4, t5⟩ := Wr.but Y1.out hb5 n1))
    all_goals
      go_wp2
      have hz5 := hz3.trans (hb5.below (Nat.le_of_lt (by have := r1.lt; omega)) (Nat.le_of_lt u0.lt))
      refine bodyPost_ret (v := .tuple #[.agg #[.int .i64 k, .int .i64 n, .string s], .agg #[.int .i64 k2, .int .i64 n2', .string s2]]) (by simp [results, Try.results15, go_sem, z0, z1, z2, t0, t1, t2]) rfl
        ⟨_, rfl, ⟨_, _, rfl, ⟨k, n, s, rfl, ok1⟩, ⟨k2, n2', s2, rfl, ok2⟩⟩, ?_⟩
      repeat (first | with_reducible exact hz5 | with_reducible refine Below.drew ?_ | with_reducible refine Below.setCell ?_ (by simp) _)
end Go.Proofs.Ytimgaipikgpgkaa
