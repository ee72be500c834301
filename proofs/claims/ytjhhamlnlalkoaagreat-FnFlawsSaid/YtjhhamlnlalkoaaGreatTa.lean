/-
  Several texts in one: what the proof leans on, part 1.
-/
import Derived.Test.YtjhhamlnlalkoaaGreatPa
import Derived.Test.YtjhhamlnlalkoaaGreatPb
import Derived.Test.YtjhhamlnlalkoaaGreatPc
import Derived.Test.YtjhhamlnlalkoaaGreatPd
import Derived.Test.YtjhhamlnlalkoaaGreatPe
import Derived.Test.YtjhhamlnlalkoaaGreatPf
import Derived.Test.YtjhhamlnlalkoaaGreatPg
import Derived.Test.YtjhhamlnlalkoaaGreatPh
import Derived.Test.YtjhhamlnlalkoaaGreatPi
import Derived.Test.YtjhhamlnlalkoaaGreatQa
import Derived.Test.YtjhhamlnlalkoaaGreatQb
import Derived.Test.YtjhhamlnlalkoaaGreatSa
import Derived.Test.YtjhhamlnlalkoaaGreatSb
import Derived.Test.YtjhhamlnlalkoaaGreatSc
set_option linter.unusedVariables false
set_option linter.unusedSimpArgs false
namespace Go.Proofs.YtjhhamlnlalkoaaGreat
open Go.RowKit
def atB : List Rw → Int → List Vl
 | [], _ => []
 | r :: l, id => if r.id = id then r.vals else atB l id
theorem atB_at : ∀ {rows : List Rw} {id : Int} {k : Nat} (hk : k < rows.length), (∀ j (hj : j < rows.length), j < k → rows[j].id ≠ id) → rows[k].id = id → atB rows id = rows[k].vals
 | r :: l, id, 0, hk, h, e => by
  unfold atB
  rw [if_pos (show r.id = id from e)]; rfl
 | r :: l, id, k + 1, hk, h, e => by
  unfold atB
  rw [if_neg (show ¬ r.id = id from h 0 (by simp) (by omega))]
  exact atB_at (by simpa using hk) (fun j hj hjk => h (j + 1) (by simpa using hj) (by omega)) e
theorem atB_none : ∀ {rows : List Rw} {id : Int}, (∀ j (hj : j < rows.length), rows[j].id ≠ id) → atB rows id = []
 | [], _, _ => rfl
 | r :: l, id, h => by
  unfold atB
  rw [if_neg (show ¬ r.id = id from h 0 (by simp))]
  exact atB_none fun j hj => h (j + 1) (by simpa using hj)
set_option maxRecDepth 100000 in
set_option maxHeartbeats 1000000 in
theorem lawsAt (A : Option Addr) (n c : Nat) (rows : List Rw) (id : Int) (ok : Nat → Prop) (w : World) (h : Sl RwR 2 ok w A n rows) (hn : n ≤ 1048576) :
  Calls Tryz.prog 20 #[.agg #[.slice A n c], .int .i64 id] w fun e w' => ∃ B m d, e = .returned (.slice B m d) ∧ m ≤ d ∧ Sl VlR 3 ok w' B m (atB rows id) ∧ Below w.heap.size w w' := by
 obtain rfl : rows.length = n := h.1
 have hb0 := (Below.refl w.heap.size w).alloc (Nat.le_refl _) (.cells #[.slice A rows.length c] 33)
 have hB : Blo (w.alloc (.cells #[.slice A rows.length c] 33)) w.heap.size [.slice A rows.length c] 33 := Blo.new _ _ _
 have hx := h.below RwR.stays hb0
 go_enter Tryz.func20, Tryz.ntmps20
 go_wp2_with fail
 generalize w.alloc (.cells #[.slice A rows.length c] 33) = x at *
 go_loopw [5] (fun i wr => ∃ k : Nat, k ≤ rows.length ∧ i = .int .i64 k ∧ Hid (∀ j (hj : j < rows.length), j < k → rows[j].id ≠ id) ∧ Below x.heap.size x wr) (fun i _ => rows.length - (intOf i).toNat)
 case atStart => exact ⟨0, by omega, rfl, Lib.hid (fun j hj h => by omega), Below.refl _ _⟩
 case round =>
  obtain ⟨k, hk, rfl, hno, hb⟩ := hrel
  have hBr : Blo wr w.heap.size [.slice A rows.length c] 33 := (hb.block _ hB.lt).trans hB
  have p0 := hBr.cell 0 _ rfl
  by_cases hlt : k < rows.length
  ·obtain ⟨b, off, A1, n1, c1, -, rfl, q0, q1, hvl, hnc⟩ := RwR.at_ (hx.below RwR.stays hb) hlt
   have i0 : (0 : Int) ≤ k := by omega
   have i1 : (k : Int) < rows.length := by omega
   cases hid : (rows[k].id == id)
   ·have HN := Lib.hid (show ∀ j (hj : j < rows.length), j < k + 1 → rows[j].id ≠ id from fun j hj hjk => by
     by_cases e : j = k
     ·subst e; simpa using hid
     ·exact hno.out j hj (by omega))
    clear hno
    go_wp2_with fail
    go_roundw
    case rel => exact ⟨k + 1, by omega, by go_num, HN, hb⟩
    case measure => simp [intOf]; omega
   ·have HE := Lib.hid (atB_at hlt hno.out (by simpa using hid))
    clear hno
    go_wp2_with fail
    go_ret
    exact ⟨_, _, _, rfl, hnc, by rw [HE.out]; exact hvl, hb0.trans (hb.mono hb0.size)⟩
  ·have HE := Lib.hid (atB_none (rows := rows) (id := id) fun j hj => hno.out j hj (by omega))
   have i1 : ¬ (k : Int) < rows.length := by omega
   clear hno
   go_wp2_with fail
   go_ret
   exact ⟨none, 0, 0, rfl, Nat.le_refl _, by rw [HE.out]; exact ⟨rfl, fun h => by omega⟩, hb0.trans (hb.mono hb0.size)⟩
end Go.Proofs.YtjhhamlnlalkoaaGreat
