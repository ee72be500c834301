/-
  Several texts in one: what the proof leans on, part 1.
-/
import Derived.Test.YtjhhamlnlalkoaaGreatPa
import Derived.Test.YtjhhamlnlalkoaaGreatPb
import Derived.Test.YtjhhamlnlalkoaaGreatPc
import Derived.Test.YtjhhamlnlalkoaaGreatPd
import Derived.Test.YtjhhamlnlalkoaaGreatPe
import Derived.Test.YtjhhamlnlalkoaaGreatPf
import Derived.Test.YtjhhamlnlalkoaaGreatPg
import Derived.Test.YtjhhamlnlalkoaaGreatPh
import Derived.Test.YtjhhamlnlalkoaaGreatPi
set_option linter.unusedVariables false
set_option linter.unusedSimpArgs false
namespace Go.Proofs.YtjhhamlnlalkoaaGreat
open Go.RowKit
set_option maxRecDepth 100000 in
set_option maxHeartbeats 2000000 in
theorem drawDbOk (a : Option Addr) (len cap : Nat) (zs : List Int) (w : World) (h : IsRow .u8 w a len cap zs) :
  Calls Tryz.prog 24 #[.slice a len cap] w (Drawn isDbArgs w) := by
 have h0 := Rdr.new h 112
 have b0 := (Below.refl w.heap.size w).alloc (Nat.le_refl _) (.cells #[.slice a len cap, .int .i64 0] 112)
 go_enter Tryz.func24, Tryz.ntmps24
 go_wp2_with fail
 refine (specOpen _ _ _ _).mono ?_
 rintro e w1 ⟨rfl, rfl⟩
 have hRlt : w.heap.size < (w.alloc (.cells #[.slice a len cap, .int .i64 0] 112)).heap.size := by simp
 generalize w.alloc (.cells #[.slice a len cap, .int .i64 0] 112) = u at *
 go_wp2_with fail
 refine (rdSchema _ _ a len cap zs h0).mono ?_
 rintro e w2 ⟨v, rfl, hsch, hb2, hr2⟩
 obtain ⟨A1, c1, ts, rfl, hc1, hsl, hsk⟩ := hsch.full
 have hsz := hsk.sz
 have hS := okF.weak TbR.stays hsl (Nat.le_refl _)
 have hok : ∀ b, u.heap.size ≤ b → b ≠ w.heap.size := fun b hb => by omega
 clear hsl hsch
 go_wp2_with fail
 refine (rdRaw A1 ts.length c1 ts _ _ _ a len cap zs hr2 hS hok hsz).mono ?_
 rintro e w3 ⟨v, rfl, ⟨A2, n2, c2, ds, rfl, hc2, hdl, hn2, hrw⟩, hb3, hr3⟩
 have hD := okF.weak DtR.stays hdl hb2.size
 have hS3 := hS.butY TbR.stays hb3 hok
 have hdlen : ds.length = n2 := hD.1
 have hl3 := hsk.2.1
 have hds := hrw.sz hsk.2.2 (by omega)
 have hb23 := hb2.trans hb3
 clear hdl hb3 hr3
 go_wp2_with fail
 refine bodyPost_ret (v := .tuple #[.slice A1 ts.length c1, .slice A2 n2 c2]) ?_ rfl ?_
 ·simp [results, Tryz.results24, go_sem]
 ·exact ⟨_, rfl, ⟨_, A1, c1, ts, A2, n2, c2, ds, rfl, hc1, hS3, hD, hsk, by omega, by omega⟩, b0.trans (hb23.below (Nat.le_refl _) (Nat.le_of_lt hRlt))⟩
set_option maxRecDepth 100000 in
set_option maxHeartbeats 2000000 in
theorem drawFlaws (a : Option Addr) (len cap : Nat) (zs : List Int) (w : World) (h : IsRow .u8 w a len cap zs) :
  Calls Tryz.prog 8 #[.slice a len cap] w (Drawn isDbArgs w) := by
 go_enter Tryz.func8, Tryz.ntmps8
 go_wp2_with fail
 refine (drawDbOk a len cap zs w h).mono ?_
 rintro e w1 ⟨v, rfl, ⟨ok, A1, c1, ts, A2, n2, c2, ds, rfl, h1, h2, h3, h4, h5, h6⟩, hb⟩
 go_wp2_with fail
 refine bodyPost_ret (v := .tuple #[.slice A1 ts.length c1, .slice A2 n2 c2]) ?_ rfl ?_
 ·simp [results, Tryz.results8, go_sem]
 ·exact ⟨_, rfl, ⟨ok, A1, c1, ts, A2, n2, c2, ds, rfl, h1, h2, h3, h4, h5, h6⟩, hb⟩
end Go.Proofs.YtjhhamlnlalkoaaGreat
