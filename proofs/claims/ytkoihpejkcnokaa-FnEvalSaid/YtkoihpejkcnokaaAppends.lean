/-
  A step law of append inside a region that draws its order: onto a row of the call's own that is not nil, from a slice that is not nil, empty or not.
-/
import Derived.Test.YtkoihpejkcnokaaSlices
import Derived.Maps.AppendAt
import Derived.OwnWalk
import Derived.Deep.RegionLaw
import Derived.Deep.AppendLies
namespace Go.Proofs.Ytkoihpejkcnokaa
open Go.RowKit

theorem run_app {P : Program} (w : World) (base : Nat) (t ty e : TypeId) (i : TypeInfo) (z : Value) (size bytes : Nat) (ht : P.underlying t = some (.slice e)) (hi : P.info? e = some i) (hz : i.zero = some z)
    (hsize : i.size = size) (hby : i.bytes = bytes) (hzs : z.cells.size = size) (hsz : 0 < size)
    (b : Addr) (n cp : Nat) (xs : List Value) (hown : w.ownsRow base e size (.slice (some b) n cp) n xs)
    (a : Addr) (m c : Nat) (news : List Value) (hl : news.length = m * size) (hnews : ∀ j u, news[j]? = some u → w.cell? (a.add j) = some u) (h1 : ∀ u ∈ news, u.oneCell' = true)
    (h63 : n + m ≤ maxLen) (hbytes : (n + m) * bytes ≤ 140737488355328) (hbase : base ≤ w.heap.size) :
    ∃ g cap w', (Builtin.append_ #[t, t] ty #[.slice (some b) n cp, .slice (some a) m c]).run P w = .ok (.slice (some ⟨g, 0, none⟩) (n + m) cap) w' ∧ w'.ownsRow base e size (.slice (some ⟨g, 0, none⟩) (n + m) cap) (n + m) (xs ++ news) ∧ w.grownBy w' (some b.block) ∧ base ≤ g := by
  obtain ⟨v', w', hrun, ho, hg, hnil, _⟩ := run_append_own_at (P := P) w base t ty e i z size bytes ht hi hz hsize hby hzs hsz _ n xs hown a m c news hl hnews h1 h63 hbytes hbase
  rcases ho.2 with ⟨rfl, _⟩ | ⟨g, cap, cur, rfl, hbg, _⟩
  · have := (hnil.1 rfl).1
    cases this
  · exact ⟨g, cap, w', hrun, ho, hg, hbg⟩

theorem step_app {P : Program} {w : World} {ops : Array Oper} {o : Oper} {a : Act} {K : Act → World → Prop} {Q : Exit → Act → World → Prop} {E : Prop} (hgd : o.guard = none) (s x : Operand) (t : TypeId)
    (ho : o.op = .call { callee := .builtin .append, args := #[s, x], argTypes := #[t, t] })
    (base : Nat) (e : TypeId) (i : TypeInfo) (z : Value) (size bytes : Nat) (ht : P.underlying t = some (.slice e)) (hi : P.info? e = some i) (hz : i.zero = some z)
    (hsize : i.size = size) (hby : i.bytes = bytes) (hzs : z.cells.size = size) (hsz : 0 < size)
    (b : Addr) (n cp : Nat) (xs : List Value) (hs : a.eval s = .slice (some b) n cp) (hown : w.ownsRow base e size (.slice (some b) n cp) n xs)
    (ad : Addr) (m c : Nat) (news : List Value) (hx : a.eval x = .slice (some ad) m c) (hl : news.length = m * size) (hnews : ∀ j u, news[j]? = some u → w.cell? (ad.add j) = some u) (h1 : ∀ u ∈ news, u.oneCell' = true)
    (h63 : n + m ≤ maxLen) (hbytes : (n + m) * bytes ≤ 140737488355328) (hbase : base ≤ w.heap.size)
    (h : ∀ g cap w', w'.ownsRow base e size (.slice (some ⟨g, 0, none⟩) (n + m) cap) (n + m) (xs ++ news) → w.grownBy w' (some b.block) → base ≤ g → K (a.put o.dst (.slice (some ⟨g, 0, none⟩) (n + m) cap)) w') :
    if Region.wanted o (yielded ops a.tmps) = true then Oper.wp P o a w K Q else E := by
  have hw : Region.wanted o (yielded ops a.tmps) = true := by simp [Region.wanted, hgd]
  rw [if_pos hw]
  obtain ⟨g, cap, w', hrun, h2, h3, h4⟩ := run_app (P := P) w base t o.type e i z size bytes ht hi hz hsize hby hzs hsz b n cp xs hown ad m c news hl hnews h1 h63 hbytes hbase
  unfold Oper.wp execOp
  simp only [ho, resolve, invoke, builtin, Sem.run_bind, Sem.run_pure, Result.andThen_ok, List.map_toArray, List.map_cons, List.map_nil, hs, hx, hrun]
  exact h g cap w' h2 h3 h4

/-- What is owned reads as a slice. -/
theorem cellz_of_owns {w : World} {base : Nat} {e : TypeId} {sz n cap g : Nat} {xs : List Value} {xss : List (List Value)} (h : w.ownsRow base e sz (.slice (some ⟨g, 0, none⟩) n cap) n xs) (hx : xs = xss.flatten) (hn : xss.length = n) (hz : ∀ c ∈ xss, c.length = sz) :
    Cellz w sz (some ⟨g, 0, none⟩) n xss ∧ n ≤ cap ∧ cap ≤ maxLen := by
  rcases h.2 with ⟨e', _⟩ | ⟨g', cap', cur, e', _, hh, h1, h2, h3, h4⟩
  · cases e'
  · cases e'
    refine ⟨⟨hn, hz, fun _ => ⟨g, 0, rfl, fun i hi j hj => ?_⟩⟩, h1, h2⟩
    rw [Nat.zero_add, cell_of_row _ _ _ _ _ _ hh]
    have hflat : ∀ (l : List (List Value)) (i j : Nat) (hi : i < l.length) (hj : j < (l[i]).length), (∀ c ∈ l, c.length = sz) → l.flatten[i * sz + j]? = some (l[i])[j] := by
      intro l
      induction l with
      | nil => intro i j hi; simp at hi
      | cons c cs ih =>
        intro i j hi hj hz'
        have hc := hz' c (by simp)
        cases i with
        | zero => simp only [List.getElem_cons_zero] at hj ⊢; simp [List.getElem?_append_left hj, hj]
        | succ i =>
          simp only [List.getElem_cons_succ] at hj ⊢
          rw [List.flatten_cons, List.getElem?_append_right (by rw [hc, Nat.add_mul]; omega), hc, show (i + 1) * sz + j - sz = i * sz + j by rw [Nat.add_mul]; omega]
          exact ih i j (by simpa using hi) hj fun d hd => hz' d (by simp [hd])
    have hf := hflat xss i j hi hj hz
    rw [← hx, ← h4] at hf
    rw [← Array.getElem?_toList]
    rw [List.getElem?_take] at hf
    split at hf
    · exact hf
    · cases hf
end Go.Proofs.Ytkoihpejkcnokaa
