/-
  Disks that are answers: whether two are one, what marks leave in them.
-/
import Derived.Test.YtkinegapnknhiaaDiskOwn
import Derived.Test.YtkinegapnknhiaaMarkDz
import Derived.Test.YtkinegapnknhiaaOwnMarks
namespace Go.Proofs.Ytkinegapnknhiaa
open Go.RowKit
set_option linter.unusedVariables false
set_option linter.unusedSimpArgs false

def Dz.fits (x : Dz) : Prop := (x.live.length ≤ 1048576 ∧ ∀ y ∈ x.live, y.sz ≤ 1048576) ∧ (x.safe.length ≤ 1048576 ∧ ∀ y ∈ x.safe, y.sz ≤ 1048576) ∧ (x.ops.length ≤ 1048576 ∧ ∀ y ∈ x.ops, y.sz ≤ 1048576)
theorem fits_F {l : List Fz} (h : szL Fz.sz l ≤ 1048576) : l.length ≤ 1048576 ∧ ∀ y ∈ l, y.sz ≤ 1048576 := ⟨by unfold szL at h; omega, fun y hy => Nat.le_trans (szL_mem Fz.sz l y hy) h⟩
theorem fits_O {l : List Oz} (h : szL Oz.sz l ≤ 1048576) : l.length ≤ 1048576 ∧ ∀ y ∈ l, y.sz ≤ 1048576 := ⟨by unfold szL at h; omega, fun y hy => Nat.le_trans (szL_mem Oz.sz l y hy) h⟩
theorem Dz.fits_of {x : Dz} (h : x.sz ≤ 1048576) : x.fits := by
  unfold Dz.sz at h
  exact ⟨fits_F (by omega), fits_F (by omega), fits_O (by omega)⟩

set_option maxRecDepth 100000 in
set_option maxHeartbeats 1000000 in
theorem lawsEqFileM (A A' : Option Addr) (n c c' : Nat) (l : List Fz) (ok ok' : Nat → Prop) (w : World) (h : Sl FzR 2 ok w A n l) (h' : Sl FzR 2 ok' w A' n l) (hs : l.length ≤ 1048576 ∧ ∀ y ∈ l, y.sz ≤ 1048576) :
    Calls Try.prog 70 #[.slice A n c, .slice A' n c'] w fun e w' => e = .returned (.bool true) ∧ Below w.heap.size w w' := by
  obtain rfl : l.length = n := h.1
  have hn : l.length ≤ 1048576 := hs.1
  have HS := Lib.hid hs
  clear hs
  go_enter Try.func70, Try.ntmps70
  go_wp2
  go_loopw [5] (fun i wr => ∃ k : Nat, k ≤ l.length ∧ i = .int .i64 k ∧ Below w.heap.size w wr) (fun i _ => l.length - (intOf i).toNat)
  case atStart => exact ⟨0, by omega, rfl, Below.refl _ _⟩
  case round =>
    obtain ⟨k, hk, rfl, hb⟩ := hrel
    by_cases hlt : k < l.length
    · obtain ⟨b, off, -, rfl, q0, q1⟩ := FzR.at_ (h.below FzR.stays hb) hlt
      obtain ⟨b', off', -, rfl, r0, r1⟩ := FzR.at_ (h'.below FzR.stays hb) hlt
      have i0 : (0 : Int) ≤ k := by omega
      have i1 : (k : Int) < l.length := by omega
      have hszk : l[k].sz ≤ 1048576 := HS.out.2 _ (List.getElem_mem hlt)
      have HSK := Lib.hid hszk
      clear hszk
      go_wp2_with fail
      go_region_held3 (fun w' => w'.cell? ⟨b, off + k * 2, none⟩ = some (.string l[k].name) ∧ w'.cell? ⟨b, off + k * 2 + 1, none⟩ = some (.string l[k].data) ∧ w'.cell? ⟨b', off' + k * 2, none⟩ = some (.string l[k].name) ∧ w'.cell? ⟨b', off' + k * 2 + 1, none⟩ = some (.string l[k].data))
        (first | go_keep | exact keepE4 (by assumption) hb1)
        (first | (go_at_call 94; refine (lawsEqFile l[k]  ok ok' _   HSK.out).mono ?_; rintro e w1 ⟨rfl, hb1⟩))
      go_wp2
      go_roundw
      case rel => exact ⟨k + 1, by omega, by go_num, hb.drew.trans (hb1.mono hb.size)⟩
      case measure => simp [intOf]; omega
    · go_wp2
      go_ret
      exact ⟨rfl, hb⟩

set_option maxRecDepth 100000 in
set_option maxHeartbeats 1000000 in
theorem lawsEqDOpM (A A' : Option Addr) (n c c' : Nat) (l : List Oz) (ok ok' : Nat → Prop) (w : World) (h : Sl OzR 4 ok w A n l) (h' : Sl OzR 4 ok' w A' n l) (hs : l.length ≤ 1048576 ∧ ∀ y ∈ l, y.sz ≤ 1048576) :
    Calls Try.prog 71 #[.slice A n c, .slice A' n c'] w fun e w' => e = .returned (.bool true) ∧ Below w.heap.size w w' := by
  obtain rfl : l.length = n := h.1
  have hn : l.length ≤ 1048576 := hs.1
  have HS := Lib.hid hs
  clear hs
  go_enter Try.func71, Try.ntmps71
  go_wp2
  go_loopw [5] (fun i wr => ∃ k : Nat, k ≤ l.length ∧ i = .int .i64 k ∧ Below w.heap.size w wr) (fun i _ => l.length - (intOf i).toNat)
  case atStart => exact ⟨0, by omega, rfl, Below.refl _ _⟩
  case round =>
    obtain ⟨k, hk, rfl, hb⟩ := hrel
    by_cases hlt : k < l.length
    · obtain ⟨b, off, -, rfl, q0, q1, q2, q3⟩ := OzR.at_ (h.below OzR.stays hb) hlt
      obtain ⟨b', off', -, rfl, r0, r1, r2, r3⟩ := OzR.at_ (h'.below OzR.stays hb) hlt
      have i0 : (0 : Int) ≤ k := by omega
      have i1 : (k : Int) < l.length := by omega
      have hszk : l[k].sz ≤ 1048576 := HS.out.2 _ (List.getElem_mem hlt)
      have HSK := Lib.hid hszk
      clear hszk
      go_wp2_with fail
      go_region_held3 (fun w' => w'.cell? ⟨b, off + k * 4, none⟩ = some (.int .i64 l[k].kind) ∧ w'.cell? ⟨b, off + k * 4 + 1, none⟩ = some (.string l[k].name) ∧ w'.cell? ⟨b, off + k * 4 + 2, none⟩ = some (.string l[k].to) ∧ w'.cell? ⟨b, off + k * 4 + 3, none⟩ = some (.string l[k].data) ∧ w'.cell? ⟨b', off' + k * 4, none⟩ = some (.int .i64 l[k].kind) ∧ w'.cell? ⟨b', off' + k * 4 + 1, none⟩ = some (.string l[k].name) ∧ w'.cell? ⟨b', off' + k * 4 + 2, none⟩ = some (.string l[k].to) ∧ w'.cell? ⟨b', off' + k * 4 + 3, none⟩ = some (.string l[k].data))
        (first | go_keep | exact keepE8 (by assumption) hb1)
        (first | (go_at_call 95; refine (lawsEqDOp l[k]  ok ok' _   HSK.out).mono ?_; rintro e w1 ⟨rfl, hb1⟩))
      go_wp2
      go_roundw
      case rel => exact ⟨k + 1, by omega, by go_num, hb.drew.trans (hb1.mono hb.size)⟩
      case measure => simp [intOf]; omega
    · go_wp2
      go_ret
      exact ⟨rfl, hb⟩

set_option maxRecDepth 100000 in
set_option maxHeartbeats 1000000 in
theorem lawsEqDiskM (x : Dz) (A0 B0 : Option Addr) (n0 c0 d0 : Nat) (A1 B1 : Option Addr) (n1 c1 d1 : Nat) (A2 B2 : Option Addr) (n2 c2 d2 : Nat) (ok ok' : Nat → Prop) (w : World) (h0 : Sl FzR 2 ok w A0 n0 x.live) (h1 : Sl FzR 2 ok w A1 n1 x.safe) (h2 : Sl OzR 4 ok w A2 n2 x.ops) (k0 : Sl FzR 2 ok' w B0 n0 x.live) (k1 : Sl FzR 2 ok' w B1 n1 x.safe) (k2 : Sl OzR 4 ok' w B2 n2 x.ops) (hs : x.fits) :
    Calls Try.prog 28 #[.agg #[.slice A0 n0 c0, .slice A1 n1 c1, .slice A2 n2 c2], .agg #[.slice B0 n0 d0, .slice B1 n1 d1, .slice B2 n2 d2]] w fun e w' => e = .returned (.bool true) ∧ Below w.heap.size w w' := by
  have HS0 := Lib.hid hs.1
  have HS1 := Lib.hid hs.2.1
  have HS2 := Lib.hid hs.2.2
  clear hs
  have ra := (Row.new w 27 #[.slice A0 n0 c0, .slice A1 n1 c1, .slice A2 n2 c2]).alloc (.cells #[.slice B0 n0 d0, .slice B1 n1 d1, .slice B2 n2 d2] 27)
  have rb := Row.newAt (w.alloc (.cells #[.slice A0 n0 c0, .slice A1 n1 c1, .slice A2 n2 c2] 27)) 27 #[.slice B0 n0 d0, .slice B1 n1 d1, .slice B2 n2 d2] (w.heap.size + 1) (by simp)
  have hb0 := ((Below.refl w.heap.size w).alloc (Nat.le_refl _) (.cells #[.slice A0 n0 c0, .slice A1 n1 c1, .slice A2 n2 c2] 27)).alloc (by simp) (.cells #[.slice B0 n0 d0, .slice B1 n1 d1, .slice B2 n2 d2] 27)
  go_enter Try.func28, Try.ntmps28
  go_wp2_with fail
  generalize (w.alloc (.cells #[.slice A0 n0 c0, .slice A1 n1 c1, .slice A2 n2 c2] 27)).alloc (.cells #[.slice B0 n0 d0, .slice B1 n1 d1, .slice B2 n2 d2] 27) = x0 at *
  refine (lawsEqFileM A0 B0 n0 c0 d0 x.live ok ok' _ (h0.below FzR.stays hb0) (k0.below FzR.stays hb0) HS0.out).mono ?_
  rintro e w1 ⟨rfl, hc0⟩
  have ra := ra.below hc0
  have rb := rb.below hc0
  have hb1 := hb0.trans (hc0.mono hb0.size)
  obtain ⟨⟨a_0_0, a_0_1, a_0_2⟩, -⟩ := ra.three
  obtain ⟨⟨b_0_0, b_0_1, b_0_2⟩, -⟩ := rb.three
  go_wp2_with fail
  refine (lawsEqFileM A1 B1 n1 c1 d1 x.safe ok ok' _ (h1.below FzR.stays hb1) (k1.below FzR.stays hb1) HS1.out).mono ?_
  rintro e w2 ⟨rfl, hc1⟩
  have ra := ra.below hc1
  have rb := rb.below hc1
  have hb2 := hb1.trans (hc1.mono hb1.size)
  obtain ⟨⟨a_1_0, a_1_1, a_1_2⟩, -⟩ := ra.three
  obtain ⟨⟨b_1_0, b_1_1, b_1_2⟩, -⟩ := rb.three
  go_wp2_with fail
  refine (lawsEqDOpM A2 B2 n2 c2 d2 x.ops ok ok' _ (h2.below OzR.stays hb2) (k2.below OzR.stays hb2) HS2.out).mono ?_
  rintro e w3 ⟨rfl, hc2⟩
  have ra := ra.below hc2
  have rb := rb.below hc2
  have hb3 := hb2.trans (hc2.mono hb2.size)
  obtain ⟨⟨a_2_0, a_2_1, a_2_2⟩, -⟩ := ra.three
  obtain ⟨⟨b_2_0, b_2_1, b_2_2⟩, -⟩ := rb.three
  go_wp2_with fail
  go_ret
  exact ⟨rfl, hb3⟩

set_option maxRecDepth 100000 in
set_option maxHeartbeats 1000000 in
theorem marksDisk (A0 : Option Addr) (n0 c0 : Nat) (A1 : Option Addr) (n1 c1 : Nat) (A2 : Option Addr) (n2 c2 : Nat) (m0 m1 m2 : List Nat) (ok : Nat → Prop) (B E k : Nat) (w : World) (h0 : Sl (ShF 2) 2 ok w A0 n0 m0) (h1 : Sl (ShF 2) 2 ok w A1 n1 m1) (h2 : Sl (ShF 4) 4 ok w A2 n2 m2) (hm : mayMark B E w ok) (hk : k + m0.sum + m1.sum + m2.sum ≤ 1073741824) (hn : n0 ≤ 1048576 ∧ n1 ≤ 1048576 ∧ n2 ≤ 1048576) {x : Int} (hx : x = k) :
    Calls Try.prog 31 #[.agg #[.slice A0 n0 c0, .slice A1 n1 c1, .slice A2 n2 c2], .int .i64 x] w fun e w' => e = .returned (.int .i64 ((k + m0.sum + m1.sum + m2.sum : Nat) : Int)) ∧ Kept B E w w' := by
  subst hx
  have ra := Row.new w 27 #[.slice A0 n0 c0, .slice A1 n1 c1, .slice A2 n2 c2]
  have hb0 := (Below.refl w.heap.size w).alloc (Nat.le_refl _) (.cells #[.slice A0 n0 c0, .slice A1 n1 c1, .slice A2 n2 c2] 27)
  go_enter Try.func31, Try.ntmps31
  go_wp2_with fail
  generalize w.alloc (.cells #[.slice A0 n0 c0, .slice A1 n1 c1, .slice A2 n2 c2] 27) = z at *
  obtain ⟨⟨p0, p1, p2⟩, -⟩ := ra.three
  have hK0 : Kept B E w z := Kept.below hb0
  have hm := hm.kept hK0
  refine (marksFileL A0 n0 c0 m0 ok B E k _ (h0.shape (ShF.keeps 2) hK0) hm (by omega) hn.1 rfl).mono ?_
  rintro e w1 ⟨rfl, k1⟩
  have hK1 := hK0.trans k1
  have hm := hm.kept k1
  have q1 := k1.slice p1 rfl
  have q2 := k1.slice p2 rfl
  clear p0 p1 p2
  go_wp2_with fail
  refine (marksFileL A1 n1 c1 m1 ok B E (k + m0.sum) _ (h1.shape (ShF.keeps 2) hK1) hm (by omega) hn.2.1 rfl).mono ?_
  rintro e w2 ⟨rfl, k2⟩
  have hK2 := hK1.trans k2
  have hm := hm.kept k2
  have r2 := k2.slice q2 rfl
  clear q1 q2
  go_wp2_with fail
  refine (marksDOpL A2 n2 c2 m2 ok B E (k + m0.sum + m1.sum) _ (h2.shape (ShF.keeps 4) hK2) hm (by omega) hn.2.2 rfl).mono ?_
  rintro e w3 ⟨rfl, k3⟩
  have hK3 := hK2.trans k3
  go_wp2_with fail
  go_ret
  exact ⟨rfl, hK3⟩

theorem KeptL.row {bs : List Nat} {w w' : World} (h : KeptL bs w w') {g : Nat} {T : TypeId} {cs : Array Value} (hr : Row w g T cs) (hg : g ∉ bs) : Row w' g T cs := (h.block g (Array.getElem?_eq_some_iff.1 hr).1 hg).trans hr
theorem nodup3 {b0 b1 b2 : List Nat} (h : (b0 ++ b1 ++ b2).Nodup) : (∀ x ∈ b0, x ∉ b1) ∧ (∀ x ∈ b0, x ∉ b2) ∧ (∀ x ∈ b1, x ∉ b2) := by
  rw [List.append_assoc, List.nodup_append] at h
  obtain ⟨-, h1, h2⟩ := h
  rw [List.nodup_append] at h1
  refine ⟨fun x hx hx' => h2 x hx x (List.mem_append_left _ hx') rfl, fun x hx hx' => h2 x hx x (List.mem_append_right _ hx') rfl, fun x hx hx' => h1.2.2 x hx x hx' rfl⟩

set_option maxRecDepth 100000 in
set_option maxHeartbeats 1000000 in
theorem marksXDisk (A0 : Option Addr) (n0 c0 : Nat) (A1 : Option Addr) (n1 c1 : Nat) (A2 : Option Addr) (n2 c2 : Nat) (b0 b1 b2 : List Nat) (k : Nat) (w : World) (h0 : FlS 2 w A0 n0 b0) (h1 : FlS 2 w A1 n1 b1) (h2 : FlS 4 w A2 n2 b2) (hd : (b0 ++ b1 ++ b2).Nodup) (hk : k ≤ 1048576) {x : Int} (hx : x = k) :
    Calls Try.prog 31 #[.agg #[.slice A0 n0 c0, .slice A1 n1 c1, .slice A2 n2 c2], .int .i64 x] w fun e w' => e = .returned (.int .i64 ((k + n0 * 2 + n1 * 2 + n2 * 4 : Nat) : Int)) ∧ KeptL (b0 ++ b1 ++ b2) w w' ∧ FlH mkXFile 2 w' k A0 n0 b0 ∧ FlH mkXFile 2 w' (k + n0 * 2) A1 n1 b1 ∧ FlH mkXDOp 4 w' (k + n0 * 2 + n1 * 2) A2 n2 b2 := by
  subst hx
  obtain ⟨d01, d02, d12⟩ := nodup3 hd
  have lt0 : ∀ x ∈ b0, x < w.heap.size := fun x hx => (h0.2.2.1 x hx).1
  have lt1 : ∀ x ∈ b1, x < w.heap.size := fun x hx => (h1.2.2.1 x hx).1
  have lt2 : ∀ x ∈ b2, x < w.heap.size := fun x hx => (h2.2.2.1 x hx).1
  have ra := Row.new w 27 #[.slice A0 n0 c0, .slice A1 n1 c1, .slice A2 n2 c2]
  have hb0 := (Below.refl w.heap.size w).alloc (Nat.le_refl _) (.cells #[.slice A0 n0 c0, .slice A1 n1 c1, .slice A2 n2 c2] 27)
  go_enter Try.func31, Try.ntmps31
  go_wp2_with fail
  generalize w.alloc (.cells #[.slice A0 n0 c0, .slice A1 n1 c1, .slice A2 n2 c2] 27) = z at *
  obtain ⟨⟨p0, p1, p2⟩, -⟩ := ra.three
  have kz : KeptL [] w z := KeptL.below hb0
  have g0 := h0.stay kz (fun _ _ => List.not_mem_nil)
  have g1 := h1.stay kz (fun _ _ => List.not_mem_nil)
  have g2 := h2.stay kz (fun _ _ => List.not_mem_nil)
  obtain ⟨hn0, B, E, ms, s0, hm0, hK0, hF0⟩ := g0.pick mkXFile k
  obtain ⟨hn1, -⟩ := g1.pick mkXFile k
  obtain ⟨hn2, -⟩ := g2.pick mkXDOp k
  refine (marksXFileL A0 n0 c0 ms _ B E k _ s0 hm0 (by omega) hn0 rfl).mono ?_
  rintro e w1 ⟨rfl, k1, M1⟩
  have K1 := hK0 _ k1
  have F0 := hF0 _ M1
  have rb := K1.row ra (fun h => Nat.lt_irrefl _ (lt0 _ h))
  have g1 := g1.stay K1 (fun x hx hx' => d01 x hx' hx)
  have g2 := g2.stay K1 (fun x hx hx' => d02 x hx' hx)
  clear p0 p1 p2 hm0 s0 hK0 hF0 k1 M1 g0 ra
  obtain ⟨⟨p0, p1, p2⟩, -⟩ := rb.three
  obtain ⟨-, B', E', ms', s1, hm1, hK1, hF1⟩ := g1.pick mkXFile (k + n0 * 2)
  go_wp2_with fail
  refine (marksXFileL A1 n1 c1 ms' _ B' E' (k + n0 * 2) _ s1 hm1 (by omega) hn1 rfl).mono ?_
  rintro e w2 ⟨rfl, k2, M2⟩
  have K2 := hK1 _ k2
  have F1 := hF1 _ M2
  have F0 := F0.stay K2 d01
  have rc := K2.row rb (fun h => Nat.lt_irrefl _ (lt1 _ h))
  have g2 := g2.stay K2 (fun x hx hx' => d12 x hx' hx)
  clear p0 p1 p2 hm1 s1 hK1 hF1 k2 M2 g1 rb
  obtain ⟨⟨p0, p1, p2⟩, -⟩ := rc.three
  obtain ⟨-, B'', E'', ms'', s2, hm2, hK2, hF2⟩ := g2.pick mkXDOp (k + n0 * 2 + n1 * 2)
  go_wp2_with fail
  refine (marksXDOpL A2 n2 c2 ms'' _ B'' E'' (k + n0 * 2 + n1 * 2) _ s2 hm2 (by omega) hn2 rfl).mono ?_
  rintro e w3 ⟨rfl, k3, M3⟩
  have K3 := hK2 _ k3
  have F2 := hF2 _ M3
  have F0 := F0.stay K3 d02
  have F1 := F1.stay K3 d12
  have KK : KeptL (b0 ++ b1 ++ b2) w w3 := ((kz.mono (fun x hx => by simp at hx)).trans (K1.mono (fun x hx => by simp [hx]))).trans ((K2.mono (fun x hx => by simp [hx])).trans (K3.mono (fun x hx => by simp [hx])))
  clear hm2 s2 hK2 hF2 k3 M3
  go_wp2_with fail
  go_ret
  exact ⟨rfl, KK, F0, F1, F2⟩

set_option maxRecDepth 100000 in
set_option maxHeartbeats 1000000 in
theorem heldXDisk (A0 : Option Addr) (n0 c0 : Nat) (A1 : Option Addr) (n1 c1 : Nat) (A2 : Option Addr) (n2 c2 : Nat) (b0 b1 b2 : List Nat) (k : Nat) (w : World) (h0 : FlH mkXFile 2 w k A0 n0 b0) (h1 : FlH mkXFile 2 w (k + n0 * 2) A1 n1 b1) (h2 : FlH mkXDOp 4 w (k + n0 * 2 + n1 * 2) A2 n2 b2) (hk : k ≤ 1048576) {x : Int} (hx : x = k) :
    Calls Try.prog 32 #[.agg #[.slice A0 n0 c0, .slice A1 n1 c1, .slice A2 n2 c2], .int .i64 x] w fun e w' => e = .returned (.int .i64 ((k + n0 * 2 + n1 * 2 + n2 * 4 : Nat) : Int)) ∧ Below w.heap.size w w' := by
  subst hx
  have hn0 := h0.1
  have hn1 := h1.1
  have hn2 := h2.1
  have ra := Row.new w 27 #[.slice A0 n0 c0, .slice A1 n1 c1, .slice A2 n2 c2]
  have hb0 := (Below.refl w.heap.size w).alloc (Nat.le_refl _) (.cells #[.slice A0 n0 c0, .slice A1 n1 c1, .slice A2 n2 c2] 27)
  have e0 : decide (((k + n0 * 2 : Nat) : Int) < 0) = false := decide_eq_false (by omega)
  have e1 : decide (((k + n0 * 2 + n1 * 2 : Nat) : Int) < 0) = false := decide_eq_false (by omega)
  have e2 : decide (((k + n0 * 2 + n1 * 2 + n2 * 4 : Nat) : Int) < 0) = false := decide_eq_false (by omega)
  go_enter Try.func32, Try.ntmps32
  go_wp2_with fail
  generalize w.alloc (.cells #[.slice A0 n0 c0, .slice A1 n1 c1, .slice A2 n2 c2] 27) = z at *
  obtain ⟨⟨p0, p1, p2⟩, -⟩ := ra.three
  refine (heldXFileL A0 n0 c0 k _ (h0.mk.below hb0) (by omega) hn0 rfl).mono ?_
  rintro e w1 ⟨rfl, hq⟩
  have hb1 := hb0.trans (hq.mono hb0.size)
  have rb := ra.below hq
  clear p0 p1 p2 hq ra
  obtain ⟨⟨p0, p1, p2⟩, -⟩ := rb.three
  generalize hg0 : k + n0 * 2 = t0 at *
  go_wp2_with fail
  refine (heldXFileL A1 n1 c1 t0 _ (h1.mk.below hb1) (by omega) hn1 rfl).mono ?_
  rintro e w2 ⟨rfl, hq⟩
  have hb2 := hb1.trans (hq.mono hb1.size)
  have rc := rb.below hq
  clear p0 p1 p2 hq rb
  obtain ⟨⟨p0, p1, p2⟩, -⟩ := rc.three
  generalize hg1 : t0 + n1 * 2 = t1 at *
  go_wp2_with fail
  refine (heldXDOpL A2 n2 c2 t1 _ (h2.mk.below hb2) (by omega) hn2 rfl).mono ?_
  rintro e w3 ⟨rfl, hq⟩
  have hb3 := hb2.trans (hq.mono hb2.size)
  generalize hg2 : t1 + n2 * 4 = t2 at *
  go_wp2_with fail
  go_ret
  exact ⟨retI (by rw [← hg2, ← hg1, ← hg0]), hb3⟩

section
variable {α : Type} {T : TypeId} {sz : Nat} {f : α → List Value}
/-- The block of a list of a call's own, if it has one. -/
def blkL (v : Value) : List Nat := match v.ownBlock with | some g => [g] | none => []
theorem mem_blkL {v : Value} {b : Nat} : b ∈ blkL v ↔ v.ownBlock = some b := by
  unfold blkL
  cases v.ownBlock with
  | none => simp
  | some g => simp; exact eq_comm
theorem OwnG.fl (hf : ∀ d, (f d).length = sz) (hn : ∀ d, ∀ (j : Nat) (v : Value), (f d)[j]? = some v → isSl v = false) {w : World} {base : Nat} {v : Value} {xs : List α} (h : OwnG T sz f w base v xs) (hl : xs.length ≤ 1048576) : ∃ A c, v = .slice A xs.length c ∧ Sl (FlatR f) sz (okF base w) w A xs.length xs ∧ FlS sz w A xs.length (blkL v) := by
  obtain ⟨A, c, e, -, -, hs⟩ := h.sl hf
  subst e
  refine ⟨A, c, rfl, hs, ?_, hl, fun b hb => ?_, (xs.map fun _ => sz), ?_⟩
  · unfold blkL; split <;> simp
  · have hb' := mem_blkL.1 hb
    refine ⟨(OwnG.block_lt h b hb').2, fun off => ?_⟩
    rcases h.2 with ⟨e, -⟩ | ⟨g, cap, cur, e, h1, h2, -⟩
    · injection e with e; subst e; cases hb'
    · injection e with e
      subst e
      have : g = b := by simpa [Value.ownBlock] using hb'
      subst this
      simp [World.frozen?, h2]
  · refine ⟨by simp, fun h0 => ?_⟩
    obtain ⟨b, off, e, hb, hi⟩ := hs.2 h0
    refine ⟨b, off, e, mem_blkL.2 (by subst e; rfl), fun i hlt => ?_⟩
    obtain ⟨cs, h1, h2, h3⟩ := hi i (by simpa using hlt)
    have e2 : cs = f _ := h2
    refine ⟨cs, h1, ⟨h1, fun j u hu => by rw [e2] at hu; exact hn _ j u hu, by simp⟩, h3⟩
end
theorem Dis.types {α β : Type} {T T' : TypeId} {sz sz' : Nat} {f : α → List Value} {f' : β → List Value} {w : World} {base base' : Nat} {v u : Value} {xs : List α} {ys : List β} (h : OwnG T sz f w base v xs) (h' : OwnG T' sz' f' w base' u ys) (hne : T ≠ T') : Dis v u := fun k hk e => by
  rcases h.2 with ⟨rfl, -⟩ | ⟨g, cap, cur, rfl, h1, h2, -⟩
  · cases hk
  rcases h'.2 with ⟨rfl, -⟩ | ⟨g', cap', cur', rfl, h1', h2', -⟩
  · cases e
  have e1 : g = k := by simpa [Value.ownBlock] using hk
  have e2 : g' = k := by simpa [Value.ownBlock] using e
  subst e1 e2
  rw [h2] at h2'
  injection h2' with h3
  injection h3 with _ h3 _
  exact hne h3
theorem fz_nosl : ∀ d : Fz, ∀ (j : Nat) (v : Value), (Fz.cells d)[j]? = some v → isSl v = false := fun d j v hv => by
  have hj : j < 2 := (List.getElem?_eq_some_iff.1 hv).1
  have : j = 0 ∨ j = 1 := by omega
  rcases this with rfl | rfl <;> (obtain rfl := Option.some.inj hv; rfl)
theorem oz_nosl : ∀ d : Oz, ∀ (j : Nat) (v : Value), (Oz.cells d)[j]? = some v → isSl v = false := fun d j v hv => by
  have hj : j < 4 := (List.getElem?_eq_some_iff.1 hv).1
  have : j = 0 ∨ j = 1 ∨ j = 2 ∨ j = 3 := by omega
  rcases this with rfl | rfl | rfl | rfl <;> (obtain rfl := Option.some.inj hv; rfl)
/-- A disk of a call's own: how it reads, and how it may be marked. -/
theorem DzA.open_ {w : World} {base : Nat} {v : Value} {x : Dz} (h : DzA w base v x) (hf : x.fits) : ∃ (A0 : Option Addr) (c0 : Nat) (A1 : Option Addr) (c1 : Nat) (A2 : Option Addr) (c2 : Nat) (b0 b1 b2 : List Nat), v = .agg #[.slice A0 x.live.length c0, .slice A1 x.safe.length c1, .slice A2 x.ops.length c2] ∧
    Sl FzR 2 (okF base w) w A0 x.live.length x.live ∧ Sl FzR 2 (okF base w) w A1 x.safe.length x.safe ∧ Sl OzR 4 (okF base w) w A2 x.ops.length x.ops ∧
    FlS 2 w A0 x.live.length b0 ∧ FlS 2 w A1 x.safe.length b1 ∧ FlS 4 w A2 x.ops.length b2 ∧ (b0 ++ b1 ++ b2).Nodup ∧ ∀ b ∈ b0 ++ b1 ++ b2, base ≤ b ∧ b < w.heap.size := by
  obtain ⟨v0, v1, v2, rfl, k0, k1, k2, hd⟩ := h
  have d02 : Dis v0 v2 := Dis.types k0 k2 (by decide)
  have d12 : Dis v1 v2 := Dis.types k1 k2 (by decide)
  obtain ⟨A0, c0, e0, s0, f0⟩ := OwnG.fl fz_cells fz_nosl k0 hf.1.1
  obtain ⟨A1, c1, e1, s1, f1⟩ := OwnG.fl fz_cells fz_nosl k1 hf.2.1.1
  obtain ⟨A2, c2, e2, s2, f2⟩ := OwnG.fl oz_cells oz_nosl k2 hf.2.2.1
  have hb : ∀ v, (blkL v).Nodup := fun v => by unfold blkL; split <;> simp
  refine ⟨A0, c0, A1, c1, A2, c2, blkL v0, blkL v1, blkL v2, by rw [e0, e1, e2], s0, s1, s2, f0, f1, f2, ?_, fun b hb => ?_⟩
  · rw [List.append_assoc, List.nodup_append]
    refine ⟨hb _, List.nodup_append.2 ⟨hb _, hb _, fun a ha b hb e => ?_⟩, fun a ha b hb e => ?_⟩
    · subst e; exact d12 _ (mem_blkL.1 ha) (mem_blkL.1 hb)
    · subst e
      rcases List.mem_append.1 hb with hb | hb
      · exact hd _ (mem_blkL.1 ha) (mem_blkL.1 hb)
      · exact d02 _ (mem_blkL.1 ha) (mem_blkL.1 hb)
  · rcases List.mem_append.1 hb with hb | hb
    · rcases List.mem_append.1 hb with hb | hb
      · exact OwnG.block_lt k0 b (mem_blkL.1 hb)
      · exact OwnG.block_lt k1 b (mem_blkL.1 hb)
    · exact OwnG.block_lt k2 b (mem_blkL.1 hb)
end Go.Proofs.Ytkinegapnknhiaa
