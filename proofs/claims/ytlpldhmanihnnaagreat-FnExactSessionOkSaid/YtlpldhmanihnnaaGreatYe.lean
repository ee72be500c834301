/-
  Several texts in one: what the proof leans on, part 5.
-/
import Derived.Test.YtlpldhmanihnnaaGreatYd
import Derived.Test.YtlpldhmanihnnaaGreatXa
import Derived.Test.YtlpldhmanihnnaaGreatXb
import Derived.Test.YtlpldhmanihnnaaGreatXc
import Derived.Test.YtlpldhmanihnnaaGreatXe
set_option linter.unusedVariables false
set_option linter.unusedSimpArgs false
namespace Go.Proofs.YtlpldhmanihnnaaGreat
open Go.RowKit Go.Maps
def RowIn (s : List Tb) (db : List Dt) (t : Tb) (x : Rw) : Prop := x.vals.length = t.cols.length /\ rowB x.vals = true /\ (∀ u ∈ t.checks, exprB u.expr x.vals.length = true) /\ t.key.all (inV x.vals) = true /\ (∀ u ∈ t.uniqs, u.cols.all (inV x.vals) = true) /\ (∀ f ∈ t.fks, FkIn s db x.vals f) /\ x.vals.length <= 1048576
set_option maxRecDepth 100000 in
set_option maxHeartbeats 16000000 in
theorem specL5Flaws (AS AD : Option Addr) (nS cS nD cD : Nat) (s : List Tb) (db : List Dt) (wait : Bool) (ok okd : Nat -> Prop) (w : World)
    (hs : Sl TbR 6 ok w AS nS s) (hd : Sl DtR 1 okd w AD nD db) (hlen : db.length = s.length) (hss : szL Tb.sz s <= 1048576) (hdz : ∀ d ∈ db, d.rows.length <= 1048576)
    (hall : ∀ (i : Nat) (h : i < s.length) (h' : i < db.length), ∀ x ∈ db[i].rows, RowIn s db s[i] x) :
    Calls Tryz.prog 61 #[.slice AS nS cS, .slice AD nD cD, .bool wait] w (MadeG (FlatR Fw.cells) 3 (dbFw s db wait s.length) w) := by
  obtain rfl : s.length = nS := hs.1
  obtain rfl : db.length = nD := hd.1
  have hsn : s.length <= 1048576 := by unfold szL at hss; omega
  have HLN := Lib.hid hlen
  have HSS := Lib.hid hss
  have HDZ := Lib.hid hdz
  have HALL := Lib.hid hall
  obtain ⟨i0, hi, hz0, hz1, hz2⟩ := info_parts infoFlawF
  have H1 := Lib.hid hi
  have H2 := Lib.hid hz0
  have H3 := Lib.hid hz1
  have H4 := Lib.hid hz2
  clear hlen hss hdz hall hi hz0 hz1 hz2
  have hb0 := (Below.refl w.heap.size w).alloc (Nat.le_refl _) (.cells #[] 97)
  have ho0 : Hid (OwnF _ w.heap.size _ []) := Lib.hid (OwnG.lit (T := 97) (sz := 3) (f := Fw.cells) w (Nat.le_refl w.heap.size))
  go_enter Tryz.func61, Tryz.ntmps61
  go_wp2_with fail
  generalize w.alloc (.cells #[] 97) = z0 at *
  go_loopw [7, 8] (fun v iv wr => ∃ i : Nat, i <= s.length /\ iv = .int .i64 i /\ Hid (OwnF wr w.heap.size v (dbFw s db wait i)) /\ Below w.heap.size w wr) (fun _ iv _ => s.length - (intOf iv).toNat)
  case atStart => exact ⟨0, by omega, rfl, ho0, hb0⟩
  case round =>
    clear hb0 ho0
    obtain ⟨i, hi', rfl, hown, hb⟩ := hrel
    by_cases hlt : i < s.length
    · have hltd : i < db.length := by have := HLN.out; omega
      obtain ⟨b, off, A1, n1, c1, A2, n2, c2, A3, n3, c3, A4, n4, c4, A5, n5, c5, -, rfl, q0, q1, q2, q3, q4, q5, s1, s2, s3, s4, s5, -⟩ := TbR.at_ hs hlt
      obtain rfl : s[i].cols.length = n1 := s1.1
      obtain rfl : s[i].key.length = n2 := s2.1
      obtain rfl : s[i].uniqs.length = n3 := s3.1
      obtain rfl : s[i].checks.length = n4 := s4.1
      obtain rfl : s[i].fks.length = n5 := s5.1
      obtain ⟨bd, od, AL, nL, cL, -, rfl, p0, hrw, -⟩ := DtR.at_ hd hltd
      obtain rfl : db[i].rows.length = nL := hrw.1
      have i1 : (0 : Int) <= i := by omega
      have i2 : (i : Int) < s.length := by omega
      have i3 : (i : Int) < db.length := by omega
      have hrn : db[i].rows.length <= 1048576 := HDZ.out _ (List.getElem_mem hltd)
      have hts := szL_mem Tb.sz s s[i] (List.getElem_mem hlt)
      have HTS := Lib.hid (Nat.le_trans hts HSS.out)
      clear hts
      have HRI := Lib.hid (HALL.out i hlt hltd)
      have HTA := Lib.hid (show dbFw s db wait (i + 1) = dbFw s db wait i ++ db[i].rows.flatMap (rowFw s db s[i] db[i].rows wait i) by rw [dbFw_succ, tabFw_at wait hlt hltd])
      have HDL := Lib.hid (show (dbFw s db wait i).length <= 4194304 * i from dbFw_len wait HDZ.out i)
      have p0r := below_keep hb _ _ p0
      go_wp2_with fail
      go_loopw [7, 9] (fun v kv wq => ∃ k : Nat, k <= db[i].rows.length /\ kv = .int .i64 k /\ Hid (OwnF wq w.heap.size v (dbFw s db wait i ++ (db[i].rows.take k).flatMap (rowFw s db s[i] db[i].rows wait i))) /\ Below w.heap.size w wq) (fun _ kv _ => db[i].rows.length - (intOf kv).toNat)
      case atStart => exact ⟨0, by omega, rfl, Lib.hid (by simpa using hown.out), hb⟩
      case round =>
        clear hown hb p0r
        obtain ⟨k, hk', rfl, hown, hb⟩ := hrel
        have p0r := below_keep hb _ _ p0
        by_cases hkt : k < db[i].rows.length
        · obtain ⟨bl, ol, B1, k1, e1, -, rfl, z0', z1', hv, -⟩ := RwR.at_ hrw hkt
          obtain rfl : db[i].rows[k].vals.length = k1 := hv.1
          have x0 := below_keep hb _ _ z0'
          have x1 := below_keep hb _ _ z1'
          have k0 : (0 : Int) <= k := by omega
          have k1 : (k : Int) < db[i].rows.length := by omega
          have hrx := HRI.out _ (List.getElem_mem hkt)
          have HX := Lib.hid hrx
          have hvn := hrx.2.2.2.2.2.2
          clear hrx
          have HUM := Lib.hid (show ∀ u ∈ s[i].uniqs, u.cols.length <= 1048576 from fun u hu => by
            have h1 := szL_mem Uq.sz s[i].uniqs u hu
            have h2 := HTS.out
            have h3 : szL Uq.sz s[i].uniqs <= s[i].sz := by unfold Tb.sz; omega
            have h4 : u.cols.length <= u.sz := by unfold Uq.sz; omega
            omega)
          have HFT := Lib.hid (flat_take (rowFw s db s[i] db[i].rows wait i) db[i].rows k hkt)
          have HLE := Lib.hid (show (dbFw s db wait i ++ (db[i].rows.take k).flatMap (rowFw s db s[i] db[i].rows wait i)).length <= 4398046511104 by
            rw [List.length_append]
            have h1 := HDL.out
            have h2 := flat_bound (rowFw s db s[i] db[i].rows wait i) 4 (db[i].rows.take k) fun x _ => rowFw_len _ _ _ _ _ _ _
            rw [List.length_take] at h2
            have h3 : min k db[i].rows.length <= 1048576 := by omega
            omega)
          have hlb := (Below.refl wr.heap.size wr).alloc (Nat.le_refl _) (.cells #[.int .i64 db[i].rows[k].id, .slice B1 db[i].rows[k].vals.length e1] 152)
          have own := Lib.hid (OwnG.below hown.out hlb)
          have RX := Lib.hid (Row.new wr 152 #[.int .i64 db[i].rows[k].id, .slice B1 db[i].rows[k].vals.length e1])
          have hbW := hb.alloc hb.size (.cells #[.int .i64 db[i].rows[k].id, .slice B1 db[i].rows[k].vals.length e1] 152)
          generalize hys : dbFw s db wait i ++ (db[i].rows.take k).flatMap (rowFw s db s[i] db[i].rows wait i) = ys at *
          have HYS := Lib.hid hys
          clear hys hown
          go_wp2_with fail
          generalize hgg : wr.heap.size = g at *
          generalize wr.alloc (.cells #[.int .i64 db[i].rows[k].id, .slice B1 db[i].rows[k].vals.length e1] 152) = W0 at *
          clear hgg hlb x0 x1 p0r
          obtain ⟨⟨d0, d1⟩, -⟩ := RX.out.all2
          have q0z := below_keep hbW _ _ q0
          have q1z := below_keep hbW _ _ q1
          have q2z := below_keep hbW _ _ q2
          have q3z := below_keep hbW _ _ q3
          have q4z := below_keep hbW _ _ q4
          have q5z := below_keep hbW _ _ q5
          have p0z := below_keep hbW _ _ p0
          have HC := Lib.hid (specNulls A1 B1 s[i].cols.length c1 db[i].rows[k].vals.length e1 (.string s[i].name) (.slice A2 s[i].key.length c2) (.slice A3 s[i].uniqs.length c3) (.slice A4 s[i].checks.length c4) (.slice A5 s[i].fks.length c5) s[i].cols db[i].rows[k].vals _ W0.drew ((s1.below ClR.stays hbW).drew ClR.stays) (Sl.cellz (fun _ => rfl) ((hv.below VlR.stays hbW).drew VlR.stays)) (by have := HTS.out; unfold Tb.sz szL at this; omega) hvn HX.out.1)
          cases he : nullsB s[i].cols db[i].rows[k].vals
          · have HV1 := Lib.hid he
            clear he
            have hbd1_0_f := hbW.drew
            have hld1_0_f := (Below.refl W0.heap.size W0).drew
            go_region_held3 (fun w' => w'.cell? ⟨b, off + i * 6, none⟩ = some (.string s[i].name) /\ w'.cell? ⟨b, off + i * 6 + 1, none⟩ = some (.slice A1 s[i].cols.length c1) /\ w'.cell? ⟨b, off + i * 6 + 2, none⟩ = some (.slice A2 s[i].key.length c2) /\ w'.cell? ⟨b, off + i * 6 + 3, none⟩ = some (.slice A3 s[i].uniqs.length c3) /\ w'.cell? ⟨b, off + i * 6 + 4, none⟩ = some (.slice A4 s[i].checks.length c4) /\ w'.cell? ⟨b, off + i * 6 + 5, none⟩ = some (.slice A5 s[i].fks.length c5) /\ w'.cell? ⟨bd, od + i, none⟩ = some (.slice (some ⟨bl, ol, none⟩) db[i].rows.length cL) /\ w'.cell? ⟨g, 0, none⟩ = some (.int .i64 db[i].rows[k].id) /\ w'.cell? ⟨g, 1, none⟩ = some (.slice B1 db[i].rows[k].vals.length e1))
              (first | go_keep | exact ⟨below_keep hb9 _ _ q0z, below_keep hb9 _ _ q1z, below_keep hb9 _ _ q2z, below_keep hb9 _ _ q3z, below_keep hb9 _ _ q4z, below_keep hb9 _ _ q5z, below_keep hb9 _ _ p0z, below_keep hb9 _ _ d0, below_keep hb9 _ _ d1⟩)
              (first | (go_at_call 117; refine HC.out.mono ?_; rintro e w9 ⟨rfl, hb9⟩; rw [HV1.out]))
            have hl1_0_f := hld1_0_f.trans (hb9.mono hld1_0_f.size)
            have hb1_0_f := hbW.trans (hl1_0_f.mono hbW.size)
            have own1_0_f := Lib.hid (OwnG.below own.out hl1_0_f)
            have RX := Lib.hid (RX.out.below hl1_0_f)
            clear HC d0 d1 p0z q0z q1z q2z q3z q4z q5z
            obtain ⟨⟨d0, d1⟩, -⟩ := RX.out.all2
            have hne := Lib.hid (own_ne_row own1_0_f.out RX.out (by decide))
            go_wp2_with (at_builtin; refine wpList_append_own _ rfl _ _ 26 rfl w.heap.size 97 i0 (.agg #[.int .i64 0, .int .i64 0, .int .i64 0]) 3 24 Tryz.underlying26 H1.out H2.out H3.out H4.out rfl (by decide) _ _ _ rfl (World.ownsRow.alloc own1_0_f.out _) ⟨_, 0, none⟩ 1 1 (Fw.cells ⟨1, i, db[i].rows[k].id⟩) rfl rfl ?c11_0_f ?c21_0_f ?c31_0_f ?c41_0_f ?c51_0_f ?_)
            case c11_0_f => exact cells_newAt _ (Fw.cells ⟨1, i, db[i].rows[k].id⟩) _ (by simp)
            case c21_0_f => intro u hu; simp [Fw.cells] at hu; rcases hu with rfl | rfl | rfl <;> rfl
            case c31_0_f => have := HLE.out; (try simp only [List.length_append, List.length_cons, List.length_nil]); unfold maxLen; omega
            case c41_0_f => have := HLE.out; (try simp only [List.length_append, List.length_cons, List.length_nil]); omega
            case c51_0_f => have := hb1_0_f.size; simp; omega
            intro v1_0_f w9 hown3 hgrow _
            have R := Lib.hid (OwnG.app own1_0_f.out hb1_0_f.size hown3 hgrow)
            have RX := Lib.hid (grown_rowK hgrow (RX.out.alloc _) hne.out)
            have hb1_0_f := hb1_0_f.trans R.out.2
            have own1_0_f := Lib.hid R.out.1
            clear hown3 hgrow hne R d0 d1
            generalize hyz : ys ++ [⟨1, i, db[i].rows[k].id⟩] = y1_0_f at *
            have HY1_0_f := Lib.hid hyz
            clear hyz
            have HLE := Lib.hid (show y1_0_f.length <= 4398046511105 by have h1 := HLE.out; rw [<- HY1_0_f.out, List.length_append, List.length_cons, List.length_nil]; omega)
            go_wp2_with fail
            obtain ⟨⟨d0, d1⟩, -⟩ := RX.out.all2
            have q0z := below_keep hb1_0_f _ _ q0
            have q1z := below_keep hb1_0_f _ _ q1
            have q2z := below_keep hb1_0_f _ _ q2
            have q3z := below_keep hb1_0_f _ _ q3
            have q4z := below_keep hb1_0_f _ _ q4
            have q5z := below_keep hb1_0_f _ _ q5
            have p0z := below_keep hb1_0_f _ _ p0
            have HC := Lib.hid (specChecks A4 B1 s[i].checks.length c4 db[i].rows[k].vals.length e1 (.string s[i].name) (.slice A1 s[i].cols.length c1) (.slice A2 s[i].key.length c2) (.slice A3 s[i].uniqs.length c3) (.slice A5 s[i].fks.length c5) s[i].checks db[i].rows[k].vals _ w9.drew ((s4.below CkR.stays hb1_0_f).drew CkR.stays) (Sl.cellz (fun _ => rfl) ((hv.below VlR.stays hb1_0_f).drew VlR.stays)) (by have := HTS.out; unfold Tb.sz at this; omega) hvn HX.out.2.1 HX.out.2.2.1)
            cases he : checksB s[i].checks db[i].rows[k].vals
            · have HV2 := Lib.hid he
              clear he
              have hbd2_1_f := hb1_0_f.drew
              have hld2_1_f := (Below.refl w9.heap.size w9).drew
              go_region_held3 (fun w' => w'.cell? ⟨b, off + i * 6, none⟩ = some (.string s[i].name) /\ w'.cell? ⟨b, off + i * 6 + 1, none⟩ = some (.slice A1 s[i].cols.length c1) /\ w'.cell? ⟨b, off + i * 6 + 2, none⟩ = some (.slice A2 s[i].key.length c2) /\ w'.cell? ⟨b, off + i * 6 + 3, none⟩ = some (.slice A3 s[i].uniqs.length c3) /\ w'.cell? ⟨b, off + i * 6 + 4, none⟩ = some (.slice A4 s[i].checks.length c4) /\ w'.cell? ⟨b, off + i * 6 + 5, none⟩ = some (.slice A5 s[i].fks.length c5) /\ w'.cell? ⟨bd, od + i, none⟩ = some (.slice (some ⟨bl, ol, none⟩) db[i].rows.length cL) /\ w'.cell? ⟨g, 0, none⟩ = some (.int .i64 db[i].rows[k].id) /\ w'.cell? ⟨g, 1, none⟩ = some (.slice B1 db[i].rows[k].vals.length e1))
                (first | go_keep | exact ⟨below_keep hb9 _ _ q0z, below_keep hb9 _ _ q1z, below_keep hb9 _ _ q2z, below_keep hb9 _ _ q3z, below_keep hb9 _ _ q4z, below_keep hb9 _ _ q5z, below_keep hb9 _ _ p0z, below_keep hb9 _ _ d0, below_keep hb9 _ _ d1⟩)
                (first | (go_at_call 118; refine HC.out.mono ?_; rintro e w9 ⟨rfl, hb9⟩; rw [HV2.out]))
              have hl2_1_f := hld2_1_f.trans (hb9.mono hld2_1_f.size)
              have hb2_1_f := hb1_0_f.trans (hl2_1_f.mono hb1_0_f.size)
              have own2_1_f := Lib.hid (OwnG.below own1_0_f.out hl2_1_f)
              have RX := Lib.hid (RX.out.below hl2_1_f)
              clear HC d0 d1 p0z q0z q1z q2z q3z q4z q5z
              obtain ⟨⟨d0, d1⟩, -⟩ := RX.out.all2
              have hne := Lib.hid (own_ne_row own2_1_f.out RX.out (by decide))
              go_wp2_with (at_builtin; refine wpList_append_own _ rfl _ _ 26 rfl w.heap.size 97 i0 (.agg #[.int .i64 0, .int .i64 0, .int .i64 0]) 3 24 Tryz.underlying26 H1.out H2.out H3.out H4.out rfl (by decide) _ _ _ rfl (World.ownsRow.alloc own2_1_f.out _) ⟨_, 0, none⟩ 1 1 (Fw.cells ⟨2, i, db[i].rows[k].id⟩) rfl rfl ?c12_1_f ?c22_1_f ?c32_1_f ?c42_1_f ?c52_1_f ?_)
              case c12_1_f => exact cells_newAt _ (Fw.cells ⟨2, i, db[i].rows[k].id⟩) _ (by simp)
              case c22_1_f => intro u hu; simp [Fw.cells] at hu; rcases hu with rfl | rfl | rfl <;> rfl
              case c32_1_f => have := HLE.out; (try simp only [List.length_append, List.length_cons, List.length_nil]); unfold maxLen; omega
              case c42_1_f => have := HLE.out; (try simp only [List.length_append, List.length_cons, List.length_nil]); omega
              case c52_1_f => have := hb2_1_f.size; simp; omega
              intro v2_1_f w9 hown3 hgrow _
              have R := Lib.hid (OwnG.app own2_1_f.out hb2_1_f.size hown3 hgrow)
              have RX := Lib.hid (grown_rowK hgrow (RX.out.alloc _) hne.out)
              have hb2_1_f := hb2_1_f.trans R.out.2
              have own2_1_f := Lib.hid R.out.1
              clear hown3 hgrow hne R d0 d1
              generalize hyz : y1_0_f ++ [⟨2, i, db[i].rows[k].id⟩] = y2_1_f at *
              have HY2_1_f := Lib.hid hyz
              clear hyz
              have HLE := Lib.hid (show y2_1_f.length <= 4398046511106 by have h1 := HLE.out; rw [<- HY2_1_f.out, List.length_append, List.length_cons, List.length_nil]; omega)
              go_wp2_with fail
              obtain ⟨⟨d0, d1⟩, -⟩ := RX.out.all2
              have q0z := below_keep hb2_1_f _ _ q0
              have q1z := below_keep hb2_1_f _ _ q1
              have q2z := below_keep hb2_1_f _ _ q2
              have q3z := below_keep hb2_1_f _ _ q3
              have q4z := below_keep hb2_1_f _ _ q4
              have q5z := below_keep hb2_1_f _ _ q5
              have p0z := below_keep hb2_1_f _ _ p0
              have HC := Lib.hid (specL5Unique A1 A2 A3 A4 A5 (some ⟨bl, ol, none⟩) B1 s[i].cols.length c1 s[i].key.length c2 s[i].uniqs.length c3 s[i].checks.length c4 s[i].fks.length c5 db[i].rows.length cL db[i].rows[k].vals.length e1 s[i] db[i].rows db[i].rows[k] _ _ _ _ w9.drew ((s2.below IntR.stays hb2_1_f).drew IntR.stays) ((s3.below UqR.stays hb2_1_f).drew UqR.stays) ((hrw.below RwR.stays hb2_1_f).drew RwR.stays) ((hv.below VlR.stays hb2_1_f).drew VlR.stays) hrn (by have := HTS.out; unfold Tb.sz szL at this; omega) (by have := HTS.out; unfold Tb.sz szL at this; omega) HUM.out hvn (fun r hr => (HRI.out r hr).2.2.2.2.2.2) (fun r hr => (HRI.out r hr).2.2.2.1) HX.out.2.2.2.1 (fun u hu => ⟨fun r hr => (HRI.out r hr).2.2.2.2.1 u hu, HX.out.2.2.2.2.1 u hu⟩))
              cases he : uniqueB s[i] db[i].rows db[i].rows[k]
              · have HV3 := Lib.hid he
                clear he
                have hbd3_2_f := hb2_1_f.drew
                have hld3_2_f := (Below.refl w9.heap.size w9).drew
                go_region_held3 (fun w' => w'.cell? ⟨b, off + i * 6, none⟩ = some (.string s[i].name) /\ w'.cell? ⟨b, off + i * 6 + 1, none⟩ = some (.slice A1 s[i].cols.length c1) /\ w'.cell? ⟨b, off + i * 6 + 2, none⟩ = some (.slice A2 s[i].key.length c2) /\ w'.cell? ⟨b, off + i * 6 + 3, none⟩ = some (.slice A3 s[i].uniqs.length c3) /\ w'.cell? ⟨b, off + i * 6 + 4, none⟩ = some (.slice A4 s[i].checks.length c4) /\ w'.cell? ⟨b, off + i * 6 + 5, none⟩ = some (.slice A5 s[i].fks.length c5) /\ w'.cell? ⟨bd, od + i, none⟩ = some (.slice (some ⟨bl, ol, none⟩) db[i].rows.length cL) /\ w'.cell? ⟨g, 0, none⟩ = some (.int .i64 db[i].rows[k].id) /\ w'.cell? ⟨g, 1, none⟩ = some (.slice B1 db[i].rows[k].vals.length e1))
                  (first | go_keep | exact ⟨below_keep hb9 _ _ q0z, below_keep hb9 _ _ q1z, below_keep hb9 _ _ q2z, below_keep hb9 _ _ q3z, below_keep hb9 _ _ q4z, below_keep hb9 _ _ q5z, below_keep hb9 _ _ p0z, below_keep hb9 _ _ d0, below_keep hb9 _ _ d1⟩)
                  (first | (go_at_call 119; refine HC.out.mono ?_; rintro e w9 ⟨rfl, hb9⟩; rw [HV3.out]))
                have hl3_2_f := hld3_2_f.trans (hb9.mono hld3_2_f.size)
                have hb3_2_f := hb2_1_f.trans (hl3_2_f.mono hb2_1_f.size)
                have own3_2_f := Lib.hid (OwnG.below own2_1_f.out hl3_2_f)
                have RX := Lib.hid (RX.out.below hl3_2_f)
                clear HC d0 d1 p0z q0z q1z q2z q3z q4z q5z
                obtain ⟨⟨d0, d1⟩, -⟩ := RX.out.all2
                have hne := Lib.hid (own_ne_row own3_2_f.out RX.out (by decide))
                go_wp2_with (at_builtin; refine wpList_append_own _ rfl _ _ 26 rfl w.heap.size 97 i0 (.agg #[.int .i64 0, .int .i64 0, .int .i64 0]) 3 24 Tryz.underlying26 H1.out H2.out H3.out H4.out rfl (by decide) _ _ _ rfl (World.ownsRow.alloc own3_2_f.out _) ⟨_, 0, none⟩ 1 1 (Fw.cells ⟨3, i, db[i].rows[k].id⟩) rfl rfl ?c13_2_f ?c23_2_f ?c33_2_f ?c43_2_f ?c53_2_f ?_)
                case c13_2_f => exact cells_newAt _ (Fw.cells ⟨3, i, db[i].rows[k].id⟩) _ (by simp)
                case c23_2_f => intro u hu; simp [Fw.cells] at hu; rcases hu with rfl | rfl | rfl <;> rfl
                case c33_2_f => have := HLE.out; (try simp only [List.length_append, List.length_cons, List.length_nil]); unfold maxLen; omega
                case c43_2_f => have := HLE.out; (try simp only [List.length_append, List.length_cons, List.length_nil]); omega
                case c53_2_f => have := hb3_2_f.size; simp; omega
                intro v3_2_f w9 hown3 hgrow _
                have R := Lib.hid (OwnG.app own3_2_f.out hb3_2_f.size hown3 hgrow)
                have RX := Lib.hid (grown_rowK hgrow (RX.out.alloc _) hne.out)
                have hb3_2_f := hb3_2_f.trans R.out.2
                have own3_2_f := Lib.hid R.out.1
                clear hown3 hgrow hne R d0 d1
                generalize hyz : y2_1_f ++ [⟨3, i, db[i].rows[k].id⟩] = y3_2_f at *
                have HY3_2_f := Lib.hid hyz
                clear hyz
                have HLE := Lib.hid (show y3_2_f.length <= 4398046511107 by have h1 := HLE.out; rw [<- HY3_2_f.out, List.length_append, List.length_cons, List.length_nil]; omega)
                obtain ⟨⟨d0, d1⟩, -⟩ := RX.out.all2
                have q0z := below_keep hb3_2_f _ _ q0
                have q1z := below_keep hb3_2_f _ _ q1
                have q2z := below_keep hb3_2_f _ _ q2
                have q3z := below_keep hb3_2_f _ _ q3
                have q4z := below_keep hb3_2_f _ _ q4
                have q5z := below_keep hb3_2_f _ _ q5
                have p0z := below_keep hb3_2_f _ _ p0
                have HC := Lib.hid (specL5Refers (some ⟨b, off, none⟩) (some ⟨bd, od, none⟩) B1 s.length cS db.length cD db[i].rows[k].vals.length e1 s db i db[i].rows[k].vals wait _ _ _ w9 (hs.below TbR.stays hb3_2_f) (hd.below DtR.stays hb3_2_f) (hv.below VlR.stays hb3_2_f) hsn (by have := HLN.out; omega) hvn hlt (by have := HTS.out; unfold Tb.sz szL at this; omega) HX.out.2.2.2.2.2.1)
                cases he : refersB s db s[i] db[i].rows[k].vals wait
                · have HV4 := Lib.hid he
                  clear he
                  go_wp2_with fail
                  refine HC.out.mono ?_
                  rintro e w9 ⟨rfl, hb9⟩
                  rw [HV4.out]
                  have hl4_3_f := hb9
                  have hb4_3_f := hb3_2_f.trans (hl4_3_f.mono hb3_2_f.size)
                  have own4_3_f := Lib.hid (OwnG.below own3_2_f.out hl4_3_f)
                  have RX := Lib.hid (RX.out.below hl4_3_f)
                  clear HC d0 d1 p0z q0z q1z q2z q3z q4z q5z
                  obtain ⟨⟨d0, d1⟩, -⟩ := RX.out.all2
                  have hne := Lib.hid (own_ne_row own4_3_f.out RX.out (by decide))
                  go_wp2_with (at_builtin; refine wpList_append_own _ rfl _ _ 26 rfl w.heap.size 97 i0 (.agg #[.int .i64 0, .int .i64 0, .int .i64 0]) 3 24 Tryz.underlying26 H1.out H2.out H3.out H4.out rfl (by decide) _ _ _ rfl (World.ownsRow.alloc own4_3_f.out _) ⟨_, 0, none⟩ 1 1 (Fw.cells ⟨4, i, db[i].rows[k].id⟩) rfl rfl ?c14_3_f ?c24_3_f ?c34_3_f ?c44_3_f ?c54_3_f ?_)
                  case c14_3_f => exact cells_newAt _ (Fw.cells ⟨4, i, db[i].rows[k].id⟩) _ (by simp)
                  case c24_3_f => intro u hu; simp [Fw.cells] at hu; rcases hu with rfl | rfl | rfl <;> rfl
                  case c34_3_f => have := HLE.out; (try simp only [List.length_append, List.length_cons, List.length_nil]); unfold maxLen; omega
                  case c44_3_f => have := HLE.out; (try simp only [List.length_append, List.length_cons, List.length_nil]); omega
                  case c54_3_f => have := hb4_3_f.size; simp; omega
                  intro v4_3_f w9 hown3 hgrow _
                  have R := Lib.hid (OwnG.app own4_3_f.out hb4_3_f.size hown3 hgrow)
                  have RX := Lib.hid (grown_rowK hgrow (RX.out.alloc _) hne.out)
                  have hb4_3_f := hb4_3_f.trans R.out.2
                  have own4_3_f := Lib.hid R.out.1
                  clear hown3 hgrow hne R d0 d1
                  generalize hyz : y3_2_f ++ [⟨4, i, db[i].rows[k].id⟩] = y4_3_f at *
                  have HY4_3_f := Lib.hid hyz
                  clear hyz
                  have HLE := Lib.hid (show y4_3_f.length <= 4398046511108 by have h1 := HLE.out; rw [<- HY4_3_f.out, List.length_append, List.length_cons, List.length_nil]; omega)
                  have HT := Lib.hid (show dbFw s db wait i ++ (db[i].rows.take (k + 1)).flatMap (rowFw s db s[i] db[i].rows wait i) = y4_3_f by
                    rw [HFT.out, <- List.append_assoc, HYS.out]; unfold rowFw; rw [HV1.out, HV2.out, HV3.out, HV4.out, <- HY4_3_f.out, <- HY3_2_f.out, <- HY2_1_f.out, <- HY1_0_f.out]; simp [oneFw])
                  go_wp2_with fail
                  go_roundw
                  case rel => exact ⟨k + 1, by omega, by go_num, Lib.hid (by rw [HT.out]; exact own4_3_f.out), hb4_3_f⟩
                  case measure => simp [intOf]; omega
                · have HV4 := Lib.hid he
                  clear he
                  go_wp2_with fail
                  refine HC.out.mono ?_
                  rintro e w9 ⟨rfl, hb9⟩
                  rw [HV4.out]
                  have hl4_3_t := hb9
                  have hb4_3_t := hb3_2_f.trans (hl4_3_t.mono hb3_2_f.size)
                  have own4_3_t := Lib.hid (OwnG.below own3_2_f.out hl4_3_t)
                  have RX := Lib.hid (RX.out.below hl4_3_t)
                  clear HC d0 d1 p0z q0z q1z q2z q3z q4z q5z
                  have HT := Lib.hid (show dbFw s db wait i ++ (db[i].rows.take (k + 1)).flatMap (rowFw s db s[i] db[i].rows wait i) = y3_2_f by
                    rw [HFT.out, <- List.append_assoc, HYS.out]; unfold rowFw; rw [HV1.out, HV2.out, HV3.out, HV4.out, <- HY3_2_f.out, <- HY2_1_f.out, <- HY1_0_f.out]; simp [oneFw])
                  go_wp2_with fail
                  go_roundw
                  case rel => exact ⟨k + 1, by omega, by go_num, Lib.hid (by rw [HT.out]; exact own4_3_t.out), hb4_3_t⟩
                  case measure => simp [intOf]; omega
              · have HV3 := Lib.hid he
                clear he
                have hbd3_2_t := hb2_1_f.drew
                have hld3_2_t := (Below.refl w9.heap.size w9).drew
                go_region_held3 (fun w' => w'.cell? ⟨b, off + i * 6, none⟩ = some (.string s[i].name) /\ w'.cell? ⟨b, off + i * 6 + 1, none⟩ = some (.slice A1 s[i].cols.length c1) /\ w'.cell? ⟨b, off + i * 6 + 2, none⟩ = some (.slice A2 s[i].key.length c2) /\ w'.cell? ⟨b, off + i * 6 + 3, none⟩ = some (.slice A3 s[i].uniqs.length c3) /\ w'.cell? ⟨b, off + i * 6 + 4, none⟩ = some (.slice A4 s[i].checks.length c4) /\ w'.cell? ⟨b, off + i * 6 + 5, none⟩ = some (.slice A5 s[i].fks.length c5) /\ w'.cell? ⟨bd, od + i, none⟩ = some (.slice (some ⟨bl, ol, none⟩) db[i].rows.length cL) /\ w'.cell? ⟨g, 0, none⟩ = some (.int .i64 db[i].rows[k].id) /\ w'.cell? ⟨g, 1, none⟩ = some (.slice B1 db[i].rows[k].vals.length e1))
                  (first | go_keep | exact ⟨below_keep hb9 _ _ q0z, below_keep hb9 _ _ q1z, below_keep hb9 _ _ q2z, below_keep hb9 _ _ q3z, below_keep hb9 _ _ q4z, below_keep hb9 _ _ q5z, below_keep hb9 _ _ p0z, below_keep hb9 _ _ d0, below_keep hb9 _ _ d1⟩)
                  (first | (go_at_call 119; refine HC.out.mono ?_; rintro e w9 ⟨rfl, hb9⟩; rw [HV3.out]))
                have hl3_2_t := hld3_2_t.trans (hb9.mono hld3_2_t.size)
                have hb3_2_t := hb2_1_f.trans (hl3_2_t.mono hb2_1_f.size)
                have own3_2_t := Lib.hid (OwnG.below own2_1_f.out hl3_2_t)
                have RX := Lib.hid (RX.out.below hl3_2_t)
                clear HC d0 d1 p0z q0z q1z q2z q3z q4z q5z
                obtain ⟨⟨d0, d1⟩, -⟩ := RX.out.all2
                have q0z := below_keep hb3_2_t _ _ q0
                have q1z := below_keep hb3_2_t _ _ q1
                have q2z := below_keep hb3_2_t _ _ q2
                have q3z := below_keep hb3_2_t _ _ q3
                have q4z := below_keep hb3_2_t _ _ q4
                have q5z := below_keep hb3_2_t _ _ q5
                have p0z := below_keep hb3_2_t _ _ p0
                have HC := Lib.hid (specL5Refers (some ⟨b, off, none⟩) (some ⟨bd, od, none⟩) B1 s.length cS db.length cD db[i].rows[k].vals.length e1 s db i db[i].rows[k].vals wait _ _ _ w9 (hs.below TbR.stays hb3_2_t) (hd.below DtR.stays hb3_2_t) (hv.below VlR.stays hb3_2_t) hsn (by have := HLN.out; omega) hvn hlt (by have := HTS.out; unfold Tb.sz szL at this; omega) HX.out.2.2.2.2.2.1)
                cases he : refersB s db s[i] db[i].rows[k].vals wait
                · have HV4 := Lib.hid he
                  clear he
                  go_wp2_with fail
                  refine HC.out.mono ?_
                  rintro e w9 ⟨rfl, hb9⟩
                  rw [HV4.out]
                  have hl4_6_f := hb9
                  have hb4_6_f := hb3_2_t.trans (hl4_6_f.mono hb3_2_t.size)
                  have own4_6_f := Lib.hid (OwnG.below own3_2_t.out hl4_6_f)
                  have RX := Lib.hid (RX.out.below hl4_6_f)
                  clear HC d0 d1 p0z q0z q1z q2z q3z q4z q5z
                  obtain ⟨⟨d0, d1⟩, -⟩ := RX.out.all2
                  have hne := Lib.hid (own_ne_row own4_6_f.out RX.out (by decide))
                  go_wp2_with (at_builtin; refine wpList_append_own _ rfl _ _ 26 rfl w.heap.size 97 i0 (.agg #[.int .i64 0, .int .i64 0, .int .i64 0]) 3 24 Tryz.underlying26 H1.out H2.out H3.out H4.out rfl (by decide) _ _ _ rfl (World.ownsRow.alloc own4_6_f.out _) ⟨_, 0, none⟩ 1 1 (Fw.cells ⟨4, i, db[i].rows[k].id⟩) rfl rfl ?c14_6_f ?c24_6_f ?c34_6_f ?c44_6_f ?c54_6_f ?_)
                  case c14_6_f => exact cells_newAt _ (Fw.cells ⟨4, i, db[i].rows[k].id⟩) _ (by simp)
                  case c24_6_f => intro u hu; simp [Fw.cells] at hu; rcases hu with rfl | rfl | rfl <;> rfl
                  case c34_6_f => have := HLE.out; (try simp only [List.length_append, List.length_cons, List.length_nil]); unfold maxLen; omega
                  case c44_6_f => have := HLE.out; (try simp only [List.length_append, List.length_cons, List.length_nil]); omega
                  case c54_6_f => have := hb4_6_f.size; simp; omega
                  intro v4_6_f w9 hown3 hgrow _
                  have R := Lib.hid (OwnG.app own4_6_f.out hb4_6_f.size hown3 hgrow)
                  have RX := Lib.hid (grown_rowK hgrow (RX.out.alloc _) hne.out)
                  have hb4_6_f := hb4_6_f.trans R.out.2
                  have own4_6_f := Lib.hid R.out.1
                  clear hown3 hgrow hne R d0 d1
                  generalize hyz : y2_1_f ++ [⟨4, i, db[i].rows[k].id⟩] = y4_6_f at *
                  have HY4_6_f := Lib.hid hyz
                  clear hyz
                  have HLE := Lib.hid (show y4_6_f.length <= 4398046511108 by have h1 := HLE.out; rw [<- HY4_6_f.out, List.length_append, List.length_cons, List.length_nil]; omega)
                  have HT := Lib.hid (show dbFw s db wait i ++ (db[i].rows.take (k + 1)).flatMap (rowFw s db s[i] db[i].rows wait i) = y4_6_f by
                    rw [HFT.out, <- List.append_assoc, HYS.out]; unfold rowFw; rw [HV1.out, HV2.out, HV3.out, HV4.out, <- HY4_6_f.out, <- HY2_1_f.out, <- HY1_0_f.out]; simp [oneFw])
                  go_wp2_with fail
                  go_roundw
                  case rel => exact ⟨k + 1, by omega, by go_num, Lib.hid (by rw [HT.out]; exact own4_6_f.out), hb4_6_f⟩
                  case measure => simp [intOf]; omega
                · have HV4 := Lib.hid he
                  clear he
                  go_wp2_with fail
                  refine HC.out.mono ?_
                  rintro e w9 ⟨rfl, hb9⟩
                  rw [HV4.out]
                  have hl4_6_t := hb9
                  have hb4_6_t := hb3_2_t.trans (hl4_6_t.mono hb3_2_t.size)
                  have own4_6_t := Lib.hid (OwnG.below own3_2_t.out hl4_6_t)
                  have RX := Lib.hid (RX.out.below hl4_6_t)
                  clear HC d0 d1 p0z q0z q1z q2z q3z q4z q5z
                  have HT := Lib.hid (show dbFw s db wait i ++ (db[i].rows.take (k + 1)).flatMap (rowFw s db s[i] db[i].rows wait i) = y2_1_f by
                    rw [HFT.out, <- List.append_assoc, HYS.out]; unfold rowFw; rw [HV1.out, HV2.out, HV3.out, HV4.out, <- HY2_1_f.out, <- HY1_0_f.out]; simp [oneFw])
                  go_wp2_with fail
                  go_roundw
                  case rel => exact ⟨k + 1, by omega, by go_num, Lib.hid (by rw [HT.out]; exact own4_6_t.out), hb4_6_t⟩
                  case measure => simp [intOf]; omega
            · have HV2 := Lib.hid he
              clear he
              have hbd2_1_t := hb1_0_f.drew
              have hld2_1_t := (Below.refl w9.heap.size w9).drew
              go_region_held3 (fun w' => w'.cell? ⟨b, off + i * 6, none⟩ = some (.string s[i].name) /\ w'.cell? ⟨b, off + i * 6 + 1, none⟩ = some (.slice A1 s[i].cols.length c1) /\ w'.cell? ⟨b, off + i * 6 + 2, none⟩ = some (.slice A2 s[i].key.length c2) /\ w'.cell? ⟨b, off + i * 6 + 3, none⟩ = some (.slice A3 s[i].uniqs.length c3) /\ w'.cell? ⟨b, off + i * 6 + 4, none⟩ = some (.slice A4 s[i].checks.length c4) /\ w'.cell? ⟨b, off + i * 6 + 5, none⟩ = some (.slice A5 s[i].fks.length c5) /\ w'.cell? ⟨bd, od + i, none⟩ = some (.slice (some ⟨bl, ol, none⟩) db[i].rows.length cL) /\ w'.cell? ⟨g, 0, none⟩ = some (.int .i64 db[i].rows[k].id) /\ w'.cell? ⟨g, 1, none⟩ = some (.slice B1 db[i].rows[k].vals.length e1))
                (first | go_keep | exact ⟨below_keep hb9 _ _ q0z, below_keep hb9 _ _ q1z, below_keep hb9 _ _ q2z, below_keep hb9 _ _ q3z, below_keep hb9 _ _ q4z, below_keep hb9 _ _ q5z, below_keep hb9 _ _ p0z, below_keep hb9 _ _ d0, below_keep hb9 _ _ d1⟩)
                (first | (go_at_call 118; refine HC.out.mono ?_; rintro e w9 ⟨rfl, hb9⟩; rw [HV2.out]))
              have hl2_1_t := hld2_1_t.trans (hb9.mono hld2_1_t.size)
              have hb2_1_t := hb1_0_f.trans (hl2_1_t.mono hb1_0_f.size)
              have own2_1_t := Lib.hid (OwnG.below own1_0_f.out hl2_1_t)
              have RX := Lib.hid (RX.out.below hl2_1_t)
              clear HC d0 d1 p0z q0z q1z q2z q3z q4z q5z
              go_wp2_with fail
              obtain ⟨⟨d0, d1⟩, -⟩ := RX.out.all2
              have q0z := below_keep hb2_1_t _ _ q0
              have q1z := below_keep hb2_1_t _ _ q1
              have q2z := below_keep hb2_1_t _ _ q2
              have q3z := below_keep hb2_1_t _ _ q3
              have q4z := below_keep hb2_1_t _ _ q4
              have q5z := below_keep hb2_1_t _ _ q5
              have p0z := below_keep hb2_1_t _ _ p0
              have HC := Lib.hid (specL5Unique A1 A2 A3 A4 A5 (some ⟨bl, ol, none⟩) B1 s[i].cols.length c1 s[i].key.length c2 s[i].uniqs.length c3 s[i].checks.length c4 s[i].fks.length c5 db[i].rows.length cL db[i].rows[k].vals.length e1 s[i] db[i].rows db[i].rows[k] _ _ _ _ w9.drew ((s2.below IntR.stays hb2_1_t).drew IntR.stays) ((s3.below UqR.stays hb2_1_t).drew UqR.stays) ((hrw.below RwR.stays hb2_1_t).drew RwR.stays) ((hv.below VlR.stays hb2_1_t).drew VlR.stays) hrn (by have := HTS.out; unfold Tb.sz szL at this; omega) (by have := HTS.out; unfold Tb.sz szL at this; omega) HUM.out hvn (fun r hr => (HRI.out r hr).2.2.2.2.2.2) (fun r hr => (HRI.out r hr).2.2.2.1) HX.out.2.2.2.1 (fun u hu => ⟨fun r hr => (HRI.out r hr).2.2.2.2.1 u hu, HX.out.2.2.2.2.1 u hu⟩))
              cases he : uniqueB s[i] db[i].rows db[i].rows[k]
              · have HV3 := Lib.hid he
                clear he
                have hbd3_9_f := hb2_1_t.drew
                have hld3_9_f := (Below.refl w9.heap.size w9).drew
                go_region_held3 (fun w' => w'.cell? ⟨b, off + i * 6, none⟩ = some (.string s[i].name) /\ w'.cell? ⟨b, off + i * 6 + 1, none⟩ = some (.slice A1 s[i].cols.length c1) /\ w'.cell? ⟨b, off + i * 6 + 2, none⟩ = some (.slice A2 s[i].key.length c2) /\ w'.cell? ⟨b, off + i * 6 + 3, none⟩ = some (.slice A3 s[i].uniqs.length c3) /\ w'.cell? ⟨b, off + i * 6 + 4, none⟩ = some (.slice A4 s[i].checks.length c4) /\ w'.cell? ⟨b, off + i * 6 + 5, none⟩ = some (.slice A5 s[i].fks.length c5) /\ w'.cell? ⟨bd, od + i, none⟩ = some (.slice (some ⟨bl, ol, none⟩) db[i].rows.length cL) /\ w'.cell? ⟨g, 0, none⟩ = some (.int .i64 db[i].rows[k].id) /\ w'.cell? ⟨g, 1, none⟩ = some (.slice B1 db[i].rows[k].vals.length e1))
                  (first | go_keep | exact ⟨below_keep hb9 _ _ q0z, below_keep hb9 _ _ q1z, below_keep hb9 _ _ q2z, below_keep hb9 _ _ q3z, below_keep hb9 _ _ q4z, below_keep hb9 _ _ q5z, below_keep hb9 _ _ p0z, below_keep hb9 _ _ d0, below_keep hb9 _ _ d1⟩)
                  (first | (go_at_call 119; refine HC.out.mono ?_; rintro e w9 ⟨rfl, hb9⟩; rw [HV3.out]))
                have hl3_9_f := hld3_9_f.trans (hb9.mono hld3_9_f.size)
                have hb3_9_f := hb2_1_t.trans (hl3_9_f.mono hb2_1_t.size)
                have own3_9_f := Lib.hid (OwnG.below own2_1_t.out hl3_9_f)
                have RX := Lib.hid (RX.out.below hl3_9_f)
                clear HC d0 d1 p0z q0z q1z q2z q3z q4z q5z
                obtain ⟨⟨d0, d1⟩, -⟩ := RX.out.all2
                have hne := Lib.hid (own_ne_row own3_9_f.out RX.out (by decide))
                go_wp2_with (at_builtin; refine wpList_append_own _ rfl _ _ 26 rfl w.heap.size 97 i0 (.agg #[.int .i64 0, .int .i64 0, .int .i64 0]) 3 24 Tryz.underlying26 H1.out H2.out H3.out H4.out rfl (by decide) _ _ _ rfl (World.ownsRow.alloc own3_9_f.out _) ⟨_, 0, none⟩ 1 1 (Fw.cells ⟨3, i, db[i].rows[k].id⟩) rfl rfl ?c13_9_f ?c23_9_f ?c33_9_f ?c43_9_f ?c53_9_f ?_)
                case c13_9_f => exact cells_newAt _ (Fw.cells ⟨3, i, db[i].rows[k].id⟩) _ (by simp)
                case c23_9_f => intro u hu; simp [Fw.cells] at hu; rcases hu with rfl | rfl | rfl <;> rfl
                case c33_9_f => have := HLE.out; (try simp only [List.length_append, List.length_cons, List.length_nil]); unfold maxLen; omega
                case c43_9_f => have := HLE.out; (try simp only [List.length_append, List.length_cons, List.length_nil]); omega
                case c53_9_f => have := hb3_9_f.size; simp; omega
                intro v3_9_f w9 hown3 hgrow _
                have R := Lib.hid (OwnG.app own3_9_f.out hb3_9_f.size hown3 hgrow)
                have RX := Lib.hid (grown_rowK hgrow (RX.out.alloc _) hne.out)
                have hb3_9_f := hb3_9_f.trans R.out.2
                have own3_9_f := Lib.hid R.out.1
                clear hown3 hgrow hne R d0 d1
                generalize hyz : y1_0_f ++ [⟨3, i, db[i].rows[k].id⟩] = y3_9_f at *
                have HY3_9_f := Lib.hid hyz
                clear hyz
                have HLE := Lib.hid (show y3_9_f.length <= 4398046511107 by have h1 := HLE.out; rw [<- HY3_9_f.out, List.length_append, List.length_cons, List.length_nil]; omega)
                obtain ⟨⟨d0, d1⟩, -⟩ := RX.out.all2
                have q0z := below_keep hb3_9_f _ _ q0
                have q1z := below_keep hb3_9_f _ _ q1
                have q2z := below_keep hb3_9_f _ _ q2
                have q3z := below_keep hb3_9_f _ _ q3
                have q4z := below_keep hb3_9_f _ _ q4
                have q5z := below_keep hb3_9_f _ _ q5
                have p0z := below_keep hb3_9_f _ _ p0
                have HC := Lib.hid (specL5Refers (some ⟨b, off, none⟩) (some ⟨bd, od, none⟩) B1 s.length cS db.length cD db[i].rows[k].vals.length e1 s db i db[i].rows[k].vals wait _ _ _ w9 (hs.below TbR.stays hb3_9_f) (hd.below DtR.stays hb3_9_f) (hv.below VlR.stays hb3_9_f) hsn (by have := HLN.out; omega) hvn hlt (by have := HTS.out; unfold Tb.sz szL at this; omega) HX.out.2.2.2.2.2.1)
                cases he : refersB s db s[i] db[i].rows[k].vals wait
                · have HV4 := Lib.hid he
                  clear he
                  go_wp2_with fail
                  refine HC.out.mono ?_
                  rintro e w9 ⟨rfl, hb9⟩
                  rw [HV4.out]
                  have hl4_10_f := hb9
                  have hb4_10_f := hb3_9_f.trans (hl4_10_f.mono hb3_9_f.size)
                  have own4_10_f := Lib.hid (OwnG.below own3_9_f.out hl4_10_f)
                  have RX := Lib.hid (RX.out.below hl4_10_f)
                  clear HC d0 d1 p0z q0z q1z q2z q3z q4z q5z
                  obtain ⟨⟨d0, d1⟩, -⟩ := RX.out.all2
                  have hne := Lib.hid (own_ne_row own4_10_f.out RX.out (by decide))
                  go_wp2_with (at_builtin; refine wpList_append_own _ rfl _ _ 26 rfl w.heap.size 97 i0 (.agg #[.int .i64 0, .int .i64 0, .int .i64 0]) 3 24 Tryz.underlying26 H1.out H2.out H3.out H4.out rfl (by decide) _ _ _ rfl (World.ownsRow.alloc own4_10_f.out _) ⟨_, 0, none⟩ 1 1 (Fw.cells ⟨4, i, db[i].rows[k].id⟩) rfl rfl ?c14_10_f ?c24_10_f ?c34_10_f ?c44_10_f ?c54_10_f ?_)
                  case c14_10_f => exact cells_newAt _ (Fw.cells ⟨4, i, db[i].rows[k].id⟩) _ (by simp)
                  case c24_10_f => intro u hu; simp [Fw.cells] at hu; rcases hu with rfl | rfl | rfl <;> rfl
                  case c34_10_f => have := HLE.out; (try simp only [List.length_append, List.length_cons, List.length_nil]); unfold maxLen; omega
                  case c44_10_f => have := HLE.out; (try simp only [List.length_append, List.length_cons, List.length_nil]); omega
                  case c54_10_f => have := hb4_10_f.size; simp; omega
                  intro v4_10_f w9 hown3 hgrow _
                  have R := Lib.hid (OwnG.app own4_10_f.out hb4_10_f.size hown3 hgrow)
                  have RX := Lib.hid (grown_rowK hgrow (RX.out.alloc _) hne.out)
                  have hb4_10_f := hb4_10_f.trans R.out.2
                  have own4_10_f := Lib.hid R.out.1
                  clear hown3 hgrow hne R d0 d1
                  generalize hyz : y3_9_f ++ [⟨4, i, db[i].rows[k].id⟩] = y4_10_f at *
                  have HY4_10_f := Lib.hid hyz
                  clear hyz
                  have HLE := Lib.hid (show y4_10_f.length <= 4398046511108 by have h1 := HLE.out; rw [<- HY4_10_f.out, List.length_append, List.length_cons, List.length_nil]; omega)
                  have HT := Lib.hid (show dbFw s db wait i ++ (db[i].rows.take (k + 1)).flatMap (rowFw s db s[i] db[i].rows wait i) = y4_10_f by
                    rw [HFT.out, <- List.append_assoc, HYS.out]; unfold rowFw; rw [HV1.out, HV2.out, HV3.out, HV4.out, <- HY4_10_f.out, <- HY3_9_f.out, <- HY1_0_f.out]; simp [oneFw])
                  go_wp2_with fail
                  go_roundw
                  case rel => exact ⟨k + 1, by omega, by go_num, Lib.hid (by rw [HT.out]; exact own4_10_f.out), hb4_10_f⟩
                  case measure => simp [intOf]; omega
                · have HV4 := Lib.hid he
                  clear he
                  go_wp2_with fail
                  refine HC.out.mono ?_
                  rintro e w9 ⟨rfl, hb9⟩
                  rw [HV4.out]
                  have hl4_10_t := hb9
                  have hb4_10_t := hb3_9_f.trans (hl4_10_t.mono hb3_9_f.size)
                  have own4_10_t := Lib.hid (OwnG.below own3_9_f.out hl4_10_t)
                  have RX := Lib.hid (RX.out.below hl4_10_t)
                  clear HC d0 d1 p0z q0z q1z q2z q3z q4z q5z
                  have HT := Lib.hid (show dbFw s db wait i ++ (db[i].rows.take (k + 1)).flatMap (rowFw s db s[i] db[i].rows wait i) = y3_9_f by
                    rw [HFT.out, <- List.append_assoc, HYS.out]; unfold rowFw; rw [HV1.out, HV2.out, HV3.out, HV4.out, <- HY3_9_f.out, <- HY1_0_f.out]; simp [oneFw])
                  go_wp2_with fail
                  go_roundw
                  case rel => exact ⟨k + 1, by omega, by go_num, Lib.hid (by rw [HT.out]; exact own4_10_t.out), hb4_10_t⟩
                  case measure => simp [intOf]; omega
              · have HV3 := Lib.hid he
                clear he
                have hbd3_9_t := hb2_1_t.drew
                have hld3_9_t := (Below.refl w9.heap.size w9).drew
                go_region_held3 (fun w' => w'.cell? ⟨b, off + i * 6, none⟩ = some (.string s[i].name) /\ w'.cell? ⟨b, off + i * 6 + 1, none⟩ = some (.slice A1 s[i].cols.length c1) /\ w'.cell? ⟨b, off + i * 6 + 2, none⟩ = some (.slice A2 s[i].key.length c2) /\ w'.cell? ⟨b, off + i * 6 + 3, none⟩ = some (.slice A3 s[i].uniqs.length c3) /\ w'.cell? ⟨b, off + i * 6 + 4, none⟩ = some (.slice A4 s[i].checks.length c4) /\ w'.cell? ⟨b, off + i * 6 + 5, none⟩ = some (.slice A5 s[i].fks.length c5) /\ w'.cell? ⟨bd, od + i, none⟩ = some (.slice (some ⟨bl, ol, none⟩) db[i].rows.length cL) /\ w'.cell? ⟨g, 0, none⟩ = some (.int .i64 db[i].rows[k].id) /\ w'.cell? ⟨g, 1, none⟩ = some (.slice B1 db[i].rows[k].vals.length e1))
                  (first | go_keep | exact ⟨below_keep hb9 _ _ q0z, below_keep hb9 _ _ q1z, below_keep hb9 _ _ q2z, below_keep hb9 _ _ q3z, below_keep hb9 _ _ q4z, below_keep hb9 _ _ q5z, below_keep hb9 _ _ p0z, below_keep hb9 _ _ d0, below_keep hb9 _ _ d1⟩)
                  (first | (go_at_call 119; refine HC.out.mono ?_; rintro e w9 ⟨rfl, hb9⟩; rw [HV3.out]))
                have hl3_9_t := hld3_9_t.trans (hb9.mono hld3_9_t.size)
                have hb3_9_t := hb2_1_t.trans (hl3_9_t.mono hb2_1_t.size)
                have own3_9_t := Lib.hid (OwnG.below own2_1_t.out hl3_9_t)
                have RX := Lib.hid (RX.out.below hl3_9_t)
                clear HC d0 d1 p0z q0z q1z q2z q3z q4z q5z
                obtain ⟨⟨d0, d1⟩, -⟩ := RX.out.all2
                have q0z := below_keep hb3_9_t _ _ q0
                have q1z := below_keep hb3_9_t _ _ q1
                have q2z := below_keep hb3_9_t _ _ q2
                have q3z := below_keep hb3_9_t _ _ q3
                have q4z := below_keep hb3_9_t _ _ q4
                have q5z := below_keep hb3_9_t _ _ q5
                have p0z := below_keep hb3_9_t _ _ p0
                have HC := Lib.hid (specL5Refers (some ⟨b, off, none⟩) (some ⟨bd, od, none⟩) B1 s.length cS db.length cD db[i].rows[k].vals.length e1 s db i db[i].rows[k].vals wait _ _ _ w9 (hs.below TbR.stays hb3_9_t) (hd.below DtR.stays hb3_9_t) (hv.below VlR.stays hb3_9_t) hsn (by have := HLN.out; omega) hvn hlt (by have := HTS.out; unfold Tb.sz szL at this; omega) HX.out.2.2.2.2.2.1)
                cases he : refersB s db s[i] db[i].rows[k].vals wait
                · have HV4 := Lib.hid he
                  clear he
                  go_wp2_with fail
                  refine HC.out.mono ?_
                  rintro e w9 ⟨rfl, hb9⟩
                  rw [HV4.out]
                  have hl4_13_f := hb9
                  have hb4_13_f := hb3_9_t.trans (hl4_13_f.mono hb3_9_t.size)
                  have own4_13_f := Lib.hid (OwnG.below own3_9_t.out hl4_13_f)
                  have RX := Lib.hid (RX.out.below hl4_13_f)
                  clear HC d0 d1 p0z q0z q1z q2z q3z q4z q5z
                  obtain ⟨⟨d0, d1⟩, -⟩ := RX.out.all2
                  have hne := Lib.hid (own_ne_row own4_13_f.out RX.out (by decide))
                  go_wp2_with (at_builtin; refine wpList_append_own _ rfl _ _ 26 rfl w.heap.size 97 i0 (.agg #[.int .i64 0, .int .i64 0, .int .i64 0]) 3 24 Tryz.underlying26 H1.out H2.out H3.out H4.out rfl (by decide) _ _ _ rfl (World.ownsRow.alloc own4_13_f.out _) ⟨_, 0, none⟩ 1 1 (Fw.cells ⟨4, i, db[i].rows[k].id⟩) rfl rfl ?c14_13_f ?c24_13_f ?c34_13_f ?c44_13_f ?c54_13_f ?_)
                  case c14_13_f => exact cells_newAt _ (Fw.cells ⟨4, i, db[i].rows[k].id⟩) _ (by simp)
                  case c24_13_f => intro u hu; simp [Fw.cells] at hu; rcases hu with rfl | rfl | rfl <;> rfl
                  case c34_13_f => have := HLE.out; (try simp only [List.length_append, List.length_cons, List.length_nil]); unfold maxLen; omega
                  case c44_13_f => have := HLE.out; (try simp only [List.length_append, List.length_cons, List.length_nil]); omega
                  case c54_13_f => have := hb4_13_f.size; simp; omega
                  intro v4_13_f w9 hown3 hgrow _
                  have R := Lib.hid (OwnG.app own4_13_f.out hb4_13_f.size hown3 hgrow)
                  have RX := Lib.hid (grown_rowK hgrow (RX.out.alloc _) hne.out)
                  have hb4_13_f := hb4_13_f.trans R.out.2
                  have own4_13_f := Lib.hid R.out.1
                  clear hown3 hgrow hne R d0 d1
                  generalize hyz : y1_0_f ++ [⟨4, i, db[i].rows[k].id⟩] = y4_13_f at *
                  have HY4_13_f := Lib.hid hyz
                  clear hyz
                  have HLE := Lib.hid (show y4_13_f.length <= 4398046511108 by have h1 := HLE.out; rw [<- HY4_13_f.out, List.length_append, List.length_cons, List.length_nil]; omega)
                  have HT := Lib.hid (show dbFw s db wait i ++ (db[i].rows.take (k + 1)).flatMap (rowFw s db s[i] db[i].rows wait i) = y4_13_f by
                    rw [HFT.out, <- List.append_assoc, HYS.out]; unfold rowFw; rw [HV1.out, HV2.out, HV3.out, HV4.out, <- HY4_13_f.out, <- HY1_0_f.out]; simp [oneFw])
                  go_wp2_with fail
                  go_roundw
                  case rel => exact ⟨k + 1, by omega, by go_num, Lib.hid (by rw [HT.out]; exact own4_13_f.out), hb4_13_f⟩
                  case measure => simp [intOf]; omega
                · have HV4 := Lib.hid he
                  clear he
                  go_wp2_with fail
                  refine HC.out.mono ?_
                  rintro e w9 ⟨rfl, hb9⟩
                  rw [HV4.out]
                  have hl4_13_t := hb9
                  have hb4_13_t := hb3_9_t.trans (hl4_13_t.mono hb3_9_t.size)
                  have own4_13_t := Lib.hid (OwnG.below own3_9_t.out hl4_13_t)
                  have RX := Lib.hid (RX.out.below hl4_13_t)
                  clear HC d0 d1 p0z q0z q1z q2z q3z q4z q5z
                  have HT := Lib.hid (show dbFw s db wait i ++ (db[i].rows.take (k + 1)).flatMap (rowFw s db s[i] db[i].rows wait i) = y1_0_f by
                    rw [HFT.out, <- List.append_assoc, HYS.out]; unfold rowFw; rw [HV1.out, HV2.out, HV3.out, HV4.out, <- HY1_0_f.out]; simp [oneFw])
                  go_wp2_with fail
                  go_roundw
                  case rel => exact ⟨k + 1, by omega, by go_num, Lib.hid (by rw [HT.out]; exact own4_13_t.out), hb4_13_t⟩
                  case measure => simp [intOf]; omega
          · have HV1 := Lib.hid he
            clear he
            have hbd1_0_t := hbW.drew
            have hld1_0_t := (Below.refl W0.heap.size W0).drew
            go_region_held3 (fun w' => w'.cell? ⟨b, off + i * 6, none⟩ = some (.string s[i].name) /\ w'.cell? ⟨b, off + i * 6 + 1, none⟩ = some (.slice A1 s[i].cols.length c1) /\ w'.cell? ⟨b, off + i * 6 + 2, none⟩ = some (.slice A2 s[i].key.length c2) /\ w'.cell? ⟨b, off + i * 6 + 3, none⟩ = some (.slice A3 s[i].uniqs.length c3) /\ w'.cell? ⟨b, off + i * 6 + 4, none⟩ = some (.slice A4 s[i].checks.length c4) /\ w'.cell? ⟨b, off + i * 6 + 5, none⟩ = some (.slice A5 s[i].fks.length c5) /\ w'.cell? ⟨bd, od + i, none⟩ = some (.slice (some ⟨bl, ol, none⟩) db[i].rows.length cL) /\ w'.cell? ⟨g, 0, none⟩ = some (.int .i64 db[i].rows[k].id) /\ w'.cell? ⟨g, 1, none⟩ = some (.slice B1 db[i].rows[k].vals.length e1))
              (first | go_keep | exact ⟨below_keep hb9 _ _ q0z, below_keep hb9 _ _ q1z, below_keep hb9 _ _ q2z, below_keep hb9 _ _ q3z, below_keep hb9 _ _ q4z, below_keep hb9 _ _ q5z, below_keep hb9 _ _ p0z, below_keep hb9 _ _ d0, below_keep hb9 _ _ d1⟩)
              (first | (go_at_call 117; refine HC.out.mono ?_; rintro e w9 ⟨rfl, hb9⟩; rw [HV1.out]))
            have hl1_0_t := hld1_0_t.trans (hb9.mono hld1_0_t.size)
            have hb1_0_t := hbW.trans (hl1_0_t.mono hbW.size)
            have own1_0_t := Lib.hid (OwnG.below own.out hl1_0_t)
            have RX := Lib.hid (RX.out.below hl1_0_t)
            clear HC d0 d1 p0z q0z q1z q2z q3z q4z q5z
            go_wp2_with fail
            obtain ⟨⟨d0, d1⟩, -⟩ := RX.out.all2
            have q0z := below_keep hb1_0_t _ _ q0
            have q1z := below_keep hb1_0_t _ _ q1
            have q2z := below_keep hb1_0_t _ _ q2
            have q3z := below_keep hb1_0_t _ _ q3
            have q4z := below_keep hb1_0_t _ _ q4
            have q5z := below_keep hb1_0_t _ _ q5
            have p0z := below_keep hb1_0_t _ _ p0
            have HC := Lib.hid (specChecks A4 B1 s[i].checks.length c4 db[i].rows[k].vals.length e1 (.string s[i].name) (.slice A1 s[i].cols.length c1) (.slice A2 s[i].key.length c2) (.slice A3 s[i].uniqs.length c3) (.slice A5 s[i].fks.length c5) s[i].checks db[i].rows[k].vals _ w9.drew ((s4.below CkR.stays hb1_0_t).drew CkR.stays) (Sl.cellz (fun _ => rfl) ((hv.below VlR.stays hb1_0_t).drew VlR.stays)) (by have := HTS.out; unfold Tb.sz at this; omega) hvn HX.out.2.1 HX.out.2.2.1)
            cases he : checksB s[i].checks db[i].rows[k].vals
            · have HV2 := Lib.hid he
              clear he
              have hbd2_16_f := hb1_0_t.drew
              have hld2_16_f := (Below.refl w9.heap.size w9).drew
              go_region_held3 (fun w' => w'.cell? ⟨b, off + i * 6, none⟩ = some (.string s[i].name) /\ w'.cell? ⟨b, off + i * 6 + 1, none⟩ = some (.slice A1 s[i].cols.length c1) /\ w'.cell? ⟨b, off + i * 6 + 2, none⟩ = some (.slice A2 s[i].key.length c2) /\ w'.cell? ⟨b, off + i * 6 + 3, none⟩ = some (.slice A3 s[i].uniqs.length c3) /\ w'.cell? ⟨b, off + i * 6 + 4, none⟩ = some (.slice A4 s[i].checks.length c4) /\ w'.cell? ⟨b, off + i * 6 + 5, none⟩ = some (.slice A5 s[i].fks.length c5) /\ w'.cell? ⟨bd, od + i, none⟩ = some (.slice (some ⟨bl, ol, none⟩) db[i].rows.length cL) /\ w'.cell? ⟨g, 0, none⟩ = some (.int .i64 db[i].rows[k].id) /\ w'.cell? ⟨g, 1, none⟩ = some (.slice B1 db[i].rows[k].vals.length e1))
                (first | go_keep | exact ⟨below_keep hb9 _ _ q0z, below_keep hb9 _ _ q1z, below_keep hb9 _ _ q2z, below_keep hb9 _ _ q3z, below_keep hb9 _ _ q4z, below_keep hb9 _ _ q5z, below_keep hb9 _ _ p0z, below_keep hb9 _ _ d0, below_keep hb9 _ _ d1⟩)
                (first | (go_at_call 118; refine HC.out.mono ?_; rintro e w9 ⟨rfl, hb9⟩; rw [HV2.out]))
              have hl2_16_f := hld2_16_f.trans (hb9.mono hld2_16_f.size)
              have hb2_16_f := hb1_0_t.trans (hl2_16_f.mono hb1_0_t.size)
              have own2_16_f := Lib.hid (OwnG.below own1_0_t.out hl2_16_f)
              have RX := Lib.hid (RX.out.below hl2_16_f)
              clear HC d0 d1 p0z q0z q1z q2z q3z q4z q5z
              obtain ⟨⟨d0, d1⟩, -⟩ := RX.out.all2
              have hne := Lib.hid (own_ne_row own2_16_f.out RX.out (by decide))
              go_wp2_with (at_builtin; refine wpList_append_own _ rfl _ _ 26 rfl w.heap.size 97 i0 (.agg #[.int .i64 0, .int .i64 0, .int .i64 0]) 3 24 Tryz.underlying26 H1.out H2.out H3.out H4.out rfl (by decide) _ _ _ rfl (World.ownsRow.alloc own2_16_f.out _) ⟨_, 0, none⟩ 1 1 (Fw.cells ⟨2, i, db[i].rows[k].id⟩) rfl rfl ?c12_16_f ?c22_16_f ?c32_16_f ?c42_16_f ?c52_16_f ?_)
              case c12_16_f => exact cells_newAt _ (Fw.cells ⟨2, i, db[i].rows[k].id⟩) _ (by simp)
              case c22_16_f => intro u hu; simp [Fw.cells] at hu; rcases hu with rfl | rfl | rfl <;> rfl
              case c32_16_f => have := HLE.out; (try simp only [List.length_append, List.length_cons, List.length_nil]); unfold maxLen; omega
              case c42_16_f => have := HLE.out; (try simp only [List.length_append, List.length_cons, List.length_nil]); omega
              case c52_16_f => have := hb2_16_f.size; simp; omega
              intro v2_16_f w9 hown3 hgrow _
              have R := Lib.hid (OwnG.app own2_16_f.out hb2_16_f.size hown3 hgrow)
              have RX := Lib.hid (grown_rowK hgrow (RX.out.alloc _) hne.out)
              have hb2_16_f := hb2_16_f.trans R.out.2
              have own2_16_f := Lib.hid R.out.1
              clear hown3 hgrow hne R d0 d1
              generalize hyz : ys ++ [⟨2, i, db[i].rows[k].id⟩] = y2_16_f at *
              have HY2_16_f := Lib.hid hyz
              clear hyz
              have HLE := Lib.hid (show y2_16_f.length <= 4398046511106 by have h1 := HLE.out; rw [<- HY2_16_f.out, List.length_append, List.length_cons, List.length_nil]; omega)
              go_wp2_with fail
              obtain ⟨⟨d0, d1⟩, -⟩ := RX.out.all2
              have q0z := below_keep hb2_16_f _ _ q0
              have q1z := below_keep hb2_16_f _ _ q1
              have q2z := below_keep hb2_16_f _ _ q2
              have q3z := below_keep hb2_16_f _ _ q3
              have q4z := below_keep hb2_16_f _ _ q4
              have q5z := below_keep hb2_16_f _ _ q5
              have p0z := below_keep hb2_16_f _ _ p0
              have HC := Lib.hid (specL5Unique A1 A2 A3 A4 A5 (some ⟨bl, ol, none⟩) B1 s[i].cols.length c1 s[i].key.length c2 s[i].uniqs.length c3 s[i].checks.length c4 s[i].fks.length c5 db[i].rows.length cL db[i].rows[k].vals.length e1 s[i] db[i].rows db[i].rows[k] _ _ _ _ w9.drew ((s2.below IntR.stays hb2_16_f).drew IntR.stays) ((s3.below UqR.stays hb2_16_f).drew UqR.stays) ((hrw.below RwR.stays hb2_16_f).drew RwR.stays) ((hv.below VlR.stays hb2_16_f).drew VlR.stays) hrn (by have := HTS.out; unfold Tb.sz szL at this; omega) (by have := HTS.out; unfold Tb.sz szL at this; omega) HUM.out hvn (fun r hr => (HRI.out r hr).2.2.2.2.2.2) (fun r hr => (HRI.out r hr).2.2.2.1) HX.out.2.2.2.1 (fun u hu => ⟨fun r hr => (HRI.out r hr).2.2.2.2.1 u hu, HX.out.2.2.2.2.1 u hu⟩))
              cases he : uniqueB s[i] db[i].rows db[i].rows[k]
              · have HV3 := Lib.hid he
                clear he
                have hbd3_17_f := hb2_16_f.drew
                have hld3_17_f := (Below.refl w9.heap.size w9).drew
                go_region_held3 (fun w' => w'.cell? ⟨b, off + i * 6, none⟩ = some (.string s[i].name) /\ w'.cell? ⟨b, off + i * 6 + 1, none⟩ = some (.slice A1 s[i].cols.length c1) /\ w'.cell? ⟨b, off + i * 6 + 2, none⟩ = some (.slice A2 s[i].key.length c2) /\ w'.cell? ⟨b, off + i * 6 + 3, none⟩ = some (.slice A3 s[i].uniqs.length c3) /\ w'.cell? ⟨b, off + i * 6 + 4, none⟩ = some (.slice A4 s[i].checks.length c4) /\ w'.cell? ⟨b, off + i * 6 + 5, none⟩ = some (.slice A5 s[i].fks.length c5) /\ w'.cell? ⟨bd, od + i, none⟩ = some (.slice (some ⟨bl, ol, none⟩) db[i].rows.length cL) /\ w'.cell? ⟨g, 0, none⟩ = some (.int .i64 db[i].rows[k].id) /\ w'.cell? ⟨g, 1, none⟩ = some (.slice B1 db[i].rows[k].vals.length e1))
                  (first | go_keep | exact ⟨below_keep hb9 _ _ q0z, below_keep hb9 _ _ q1z, below_keep hb9 _ _ q2z, below_keep hb9 _ _ q3z, below_keep hb9 _ _ q4z, below_keep hb9 _ _ q5z, below_keep hb9 _ _ p0z, below_keep hb9 _ _ d0, below_keep hb9 _ _ d1⟩)
                  (first | (go_at_call 119; refine HC.out.mono ?_; rintro e w9 ⟨rfl, hb9⟩; rw [HV3.out]))
                have hl3_17_f := hld3_17_f.trans (hb9.mono hld3_17_f.size)
                have hb3_17_f := hb2_16_f.trans (hl3_17_f.mono hb2_16_f.size)
                have own3_17_f := Lib.hid (OwnG.below own2_16_f.out hl3_17_f)
                have RX := Lib.hid (RX.out.below hl3_17_f)
                clear HC d0 d1 p0z q0z q1z q2z q3z q4z q5z
                obtain ⟨⟨d0, d1⟩, -⟩ := RX.out.all2
                have hne := Lib.hid (own_ne_row own3_17_f.out RX.out (by decide))
                go_wp2_with (at_builtin; refine wpList_append_own _ rfl _ _ 26 rfl w.heap.size 97 i0 (.agg #[.int .i64 0, .int .i64 0, .int .i64 0]) 3 24 Tryz.underlying26 H1.out H2.out H3.out H4.out rfl (by decide) _ _ _ rfl (World.ownsRow.alloc own3_17_f.out _) ⟨_, 0, none⟩ 1 1 (Fw.cells ⟨3, i, db[i].rows[k].id⟩) rfl rfl ?c13_17_f ?c23_17_f ?c33_17_f ?c43_17_f ?c53_17_f ?_)
                case c13_17_f => exact cells_newAt _ (Fw.cells ⟨3, i, db[i].rows[k].id⟩) _ (by simp)
                case c23_17_f => intro u hu; simp [Fw.cells] at hu; rcases hu with rfl | rfl | rfl <;> rfl
                case c33_17_f => have := HLE.out; (try simp only [List.length_append, List.length_cons, List.length_nil]); unfold maxLen; omega
                case c43_17_f => have := HLE.out; (try simp only [List.length_append, List.length_cons, List.length_nil]); omega
                case c53_17_f => have := hb3_17_f.size; simp; omega
                intro v3_17_f w9 hown3 hgrow _
                have R := Lib.hid (OwnG.app own3_17_f.out hb3_17_f.size hown3 hgrow)
                have RX := Lib.hid (grown_rowK hgrow (RX.out.alloc _) hne.out)
                have hb3_17_f := hb3_17_f.trans R.out.2
                have own3_17_f := Lib.hid R.out.1
                clear hown3 hgrow hne R d0 d1
                generalize hyz : y2_16_f ++ [⟨3, i, db[i].rows[k].id⟩] = y3_17_f at *
                have HY3_17_f := Lib.hid hyz
                clear hyz
                have HLE := Lib.hid (show y3_17_f.length <= 4398046511107 by have h1 := HLE.out; rw [<- HY3_17_f.out, List.length_append, List.length_cons, List.length_nil]; omega)
                obtain ⟨⟨d0, d1⟩, -⟩ := RX.out.all2
                have q0z := below_keep hb3_17_f _ _ q0
                have q1z := below_keep hb3_17_f _ _ q1
                have q2z := below_keep hb3_17_f _ _ q2
                have q3z := below_keep hb3_17_f _ _ q3
                have q4z := below_keep hb3_17_f _ _ q4
                have q5z := below_keep hb3_17_f _ _ q5
                have p0z := below_keep hb3_17_f _ _ p0
                have HC := Lib.hid (specL5Refers (some ⟨b, off, none⟩) (some ⟨bd, od, none⟩) B1 s.length cS db.length cD db[i].rows[k].vals.length e1 s db i db[i].rows[k].vals wait _ _ _ w9 (hs.below TbR.stays hb3_17_f) (hd.below DtR.stays hb3_17_f) (hv.below VlR.stays hb3_17_f) hsn (by have := HLN.out; omega) hvn hlt (by have := HTS.out; unfold Tb.sz szL at this; omega) HX.out.2.2.2.2.2.1)
                cases he : refersB s db s[i] db[i].rows[k].vals wait
                · have HV4 := Lib.hid he
                  clear he
                  go_wp2_with fail
                  refine HC.out.mono ?_
                  rintro e w9 ⟨rfl, hb9⟩
                  rw [HV4.out]
                  have hl4_18_f := hb9
                  have hb4_18_f := hb3_17_f.trans (hl4_18_f.mono hb3_17_f.size)
                  have own4_18_f := Lib.hid (OwnG.below own3_17_f.out hl4_18_f)
                  have RX := Lib.hid (RX.out.below hl4_18_f)
                  clear HC d0 d1 p0z q0z q1z q2z q3z q4z q5z
                  obtain ⟨⟨d0, d1⟩, -⟩ := RX.out.all2
                  have hne := Lib.hid (own_ne_row own4_18_f.out RX.out (by decide))
                  go_wp2_with (at_builtin; refine wpList_append_own _ rfl _ _ 26 rfl w.heap.size 97 i0 (.agg #[.int .i64 0, .int .i64 0, .int .i64 0]) 3 24 Tryz.underlying26 H1.out H2.out H3.out H4.out rfl (by decide) _ _ _ rfl (World.ownsRow.alloc own4_18_f.out _) ⟨_, 0, none⟩ 1 1 (Fw.cells ⟨4, i, db[i].rows[k].id⟩) rfl rfl ?c14_18_f ?c24_18_f ?c34_18_f ?c44_18_f ?c54_18_f ?_)
                  case c14_18_f => exact cells_newAt _ (Fw.cells ⟨4, i, db[i].rows[k].id⟩) _ (by simp)
                  case c24_18_f => intro u hu; simp [Fw.cells] at hu; rcases hu with rfl | rfl | rfl <;> rfl
                  case c34_18_f => have := HLE.out; (try simp only [List.length_append, List.length_cons, List.length_nil]); unfold maxLen; omega
                  case c44_18_f => have := HLE.out; (try simp only [List.length_append, List.length_cons, List.length_nil]); omega
                  case c54_18_f => have := hb4_18_f.size; simp; omega
                  intro v4_18_f w9 hown3 hgrow _
                  have R := Lib.hid (OwnG.app own4_18_f.out hb4_18_f.size hown3 hgrow)
                  have RX := Lib.hid (grown_rowK hgrow (RX.out.alloc _) hne.out)
                  have hb4_18_f := hb4_18_f.trans R.out.2
                  have own4_18_f := Lib.hid R.out.1
                  clear hown3 hgrow hne R d0 d1
                  generalize hyz : y3_17_f ++ [⟨4, i, db[i].rows[k].id⟩] = y4_18_f at *
                  have HY4_18_f := Lib.hid hyz
                  clear hyz
                  have HLE := Lib.hid (show y4_18_f.length <= 4398046511108 by have h1 := HLE.out; rw [<- HY4_18_f.out, List.length_append, List.length_cons, List.length_nil]; omega)
                  have HT := Lib.hid (show dbFw s db wait i ++ (db[i].rows.take (k + 1)).flatMap (rowFw s db s[i] db[i].rows wait i) = y4_18_f by
                    rw [HFT.out, <- List.append_assoc, HYS.out]; unfold rowFw; rw [HV1.out, HV2.out, HV3.out, HV4.out, <- HY4_18_f.out, <- HY3_17_f.out, <- HY2_16_f.out]; simp [oneFw])
                  go_wp2_with fail
                  go_roundw
                  case rel => exact ⟨k + 1, by omega, by go_num, Lib.hid (by rw [HT.out]; exact own4_18_f.out), hb4_18_f⟩
                  case measure => simp [intOf]; omega
                · have HV4 := Lib.hid he
                  clear he
                  go_wp2_with fail
                  refine HC.out.mono ?_
                  rintro e w9 ⟨rfl, hb9⟩
                  rw [HV4.out]
                  have hl4_18_t := hb9
                  have hb4_18_t := hb3_17_f.trans (hl4_18_t.mono hb3_17_f.size)
                  have own4_18_t := Lib.hid (OwnG.below own3_17_f.out hl4_18_t)
                  have RX := Lib.hid (RX.out.below hl4_18_t)
                  clear HC d0 d1 p0z q0z q1z q2z q3z q4z q5z
                  have HT := Lib.hid (show dbFw s db wait i ++ (db[i].rows.take (k + 1)).flatMap (rowFw s db s[i] db[i].rows wait i) = y3_17_f by
                    rw [HFT.out, <- List.append_assoc, HYS.out]; unfold rowFw; rw [HV1.out, HV2.out, HV3.out, HV4.out, <- HY3_17_f.out, <- HY2_16_f.out]; simp [oneFw])
                  go_wp2_with fail
                  go_roundw
                  case rel => exact ⟨k + 1, by omega, by go_num, Lib.hid (by rw [HT.out]; exact own4_18_t.out), hb4_18_t⟩
                  case measure => simp [intOf]; omega
              · have HV3 := Lib.hid he
                clear he
                have hbd3_17_t := hb2_16_f.drew
                have hld3_17_t := (Below.refl w9.heap.size w9).drew
                go_region_held3 (fun w' => w'.cell? ⟨b, off + i * 6, none⟩ = some (.string s[i].name) /\ w'.cell? ⟨b, off + i * 6 + 1, none⟩ = some (.slice A1 s[i].cols.length c1) /\ w'.cell? ⟨b, off + i * 6 + 2, none⟩ = some (.slice A2 s[i].key.length c2) /\ w'.cell? ⟨b, off + i * 6 + 3, none⟩ = some (.slice A3 s[i].uniqs.length c3) /\ w'.cell? ⟨b, off + i * 6 + 4, none⟩ = some (.slice A4 s[i].checks.length c4) /\ w'.cell? ⟨b, off + i * 6 + 5, none⟩ = some (.slice A5 s[i].fks.length c5) /\ w'.cell? ⟨bd, od + i, none⟩ = some (.slice (some ⟨bl, ol, none⟩) db[i].rows.length cL) /\ w'.cell? ⟨g, 0, none⟩ = some (.int .i64 db[i].rows[k].id) /\ w'.cell? ⟨g, 1, none⟩ = some (.slice B1 db[i].rows[k].vals.length e1))
                  (first | go_keep | exact ⟨below_keep hb9 _ _ q0z, below_keep hb9 _ _ q1z, below_keep hb9 _ _ q2z, below_keep hb9 _ _ q3z, below_keep hb9 _ _ q4z, below_keep hb9 _ _ q5z, below_keep hb9 _ _ p0z, below_keep hb9 _ _ d0, below_keep hb9 _ _ d1⟩)
                  (first | (go_at_call 119; refine HC.out.mono ?_; rintro e w9 ⟨rfl, hb9⟩; rw [HV3.out]))
                have hl3_17_t := hld3_17_t.trans (hb9.mono hld3_17_t.size)
                have hb3_17_t := hb2_16_f.trans (hl3_17_t.mono hb2_16_f.size)
                have own3_17_t := Lib.hid (OwnG.below own2_16_f.out hl3_17_t)
                have RX := Lib.hid (RX.out.below hl3_17_t)
                clear HC d0 d1 p0z q0z q1z q2z q3z q4z q5z
                obtain ⟨⟨d0, d1⟩, -⟩ := RX.out.all2
                have q0z := below_keep hb3_17_t _ _ q0
                have q1z := below_keep hb3_17_t _ _ q1
                have q2z := below_keep hb3_17_t _ _ q2
                have q3z := below_keep hb3_17_t _ _ q3
                have q4z := below_keep hb3_17_t _ _ q4
                have q5z := below_keep hb3_17_t _ _ q5
                have p0z := below_keep hb3_17_t _ _ p0
                have HC := Lib.hid (specL5Refers (some ⟨b, off, none⟩) (some ⟨bd, od, none⟩) B1 s.length cS db.length cD db[i].rows[k].vals.length e1 s db i db[i].rows[k].vals wait _ _ _ w9 (hs.below TbR.stays hb3_17_t) (hd.below DtR.stays hb3_17_t) (hv.below VlR.stays hb3_17_t) hsn (by have := HLN.out; omega) hvn hlt (by have := HTS.out; unfold Tb.sz szL at this; omega) HX.out.2.2.2.2.2.1)
                cases he : refersB s db s[i] db[i].rows[k].vals wait
                · have HV4 := Lib.hid he
                  clear he
                  go_wp2_with fail
                  refine HC.out.mono ?_
                  rintro e w9 ⟨rfl, hb9⟩
                  rw [HV4.out]
                  have hl4_21_f := hb9
                  have hb4_21_f := hb3_17_t.trans (hl4_21_f.mono hb3_17_t.size)
                  have own4_21_f := Lib.hid (OwnG.below own3_17_t.out hl4_21_f)
                  have RX := Lib.hid (RX.out.below hl4_21_f)
                  clear HC d0 d1 p0z q0z q1z q2z q3z q4z q5z
                  obtain ⟨⟨d0, d1⟩, -⟩ := RX.out.all2
                  have hne := Lib.hid (own_ne_row own4_21_f.out RX.out (by decide))
                  go_wp2_with (at_builtin; refine wpList_append_own _ rfl _ _ 26 rfl w.heap.size 97 i0 (.agg #[.int .i64 0, .int .i64 0, .int .i64 0]) 3 24 Tryz.underlying26 H1.out H2.out H3.out H4.out rfl (by decide) _ _ _ rfl (World.ownsRow.alloc own4_21_f.out _) ⟨_, 0, none⟩ 1 1 (Fw.cells ⟨4, i, db[i].rows[k].id⟩) rfl rfl ?c14_21_f ?c24_21_f ?c34_21_f ?c44_21_f ?c54_21_f ?_)
                  case c14_21_f => exact cells_newAt _ (Fw.cells ⟨4, i, db[i].rows[k].id⟩) _ (by simp)
                  case c24_21_f => intro u hu; simp [Fw.cells] at hu; rcases hu with rfl | rfl | rfl <;> rfl
                  case c34_21_f => have := HLE.out; (try simp only [List.length_append, List.length_cons, List.length_nil]); unfold maxLen; omega
                  case c44_21_f => have := HLE.out; (try simp only [List.length_append, List.length_cons, List.length_nil]); omega
                  case c54_21_f => have := hb4_21_f.size; simp; omega
                  intro v4_21_f w9 hown3 hgrow _
                  have R := Lib.hid (OwnG.app own4_21_f.out hb4_21_f.size hown3 hgrow)
                  have RX := Lib.hid (grown_rowK hgrow (RX.out.alloc _) hne.out)
                  have hb4_21_f := hb4_21_f.trans R.out.2
                  have own4_21_f := Lib.hid R.out.1
                  clear hown3 hgrow hne R d0 d1
                  generalize hyz : y2_16_f ++ [⟨4, i, db[i].rows[k].id⟩] = y4_21_f at *
                  have HY4_21_f := Lib.hid hyz
                  clear hyz
                  have HLE := Lib.hid (show y4_21_f.length <= 4398046511108 by have h1 := HLE.out; rw [<- HY4_21_f.out, List.length_append, List.length_cons, List.length_nil]; omega)
                  have HT := Lib.hid (show dbFw s db wait i ++ (db[i].rows.take (k + 1)).flatMap (rowFw s db s[i] db[i].rows wait i) = y4_21_f by
                    rw [HFT.out, <- List.append_assoc, HYS.out]; unfold rowFw; rw [HV1.out, HV2.out, HV3.out, HV4.out, <- HY4_21_f.out, <- HY2_16_f.out]; simp [oneFw])
                  go_wp2_with fail
                  go_roundw
                  case rel => exact ⟨k + 1, by omega, by go_num, Lib.hid (by rw [HT.out]; exact own4_21_f.out), hb4_21_f⟩
                  case measure => simp [intOf]; omega
                · have HV4 := Lib.hid he
                  clear he
                  go_wp2_with fail
                  refine HC.out.mono ?_
                  rintro e w9 ⟨rfl, hb9⟩
                  rw [HV4.out]
                  have hl4_21_t := hb9
                  have hb4_21_t := hb3_17_t.trans (hl4_21_t.mono hb3_17_t.size)
                  have own4_21_t := Lib.hid (OwnG.below own3_17_t.out hl4_21_t)
                  have RX := Lib.hid (RX.out.below hl4_21_t)
                  clear HC d0 d1 p0z q0z q1z q2z q3z q4z q5z
                  have HT := Lib.hid (show dbFw s db wait i ++ (db[i].rows.take (k + 1)).flatMap (rowFw s db s[i] db[i].rows wait i) = y2_16_f by
                    rw [HFT.out, <- List.append_assoc, HYS.out]; unfold rowFw; rw [HV1.out, HV2.out, HV3.out, HV4.out, <- HY2_16_f.out]; simp [oneFw])
                  go_wp2_with fail
                  go_roundw
                  case rel => exact ⟨k + 1, by omega, by go_num, Lib.hid (by rw [HT.out]; exact own4_21_t.out), hb4_21_t⟩
                  case measure => simp [intOf]; omega
            · have HV2 := Lib.hid he
              clear he
              have hbd2_16_t := hb1_0_t.drew
              have hld2_16_t := (Below.refl w9.heap.size w9).drew
              go_region_held3 (fun w' => w'.cell? ⟨b, off + i * 6, none⟩ = some (.string s[i].name) /\ w'.cell? ⟨b, off + i * 6 + 1, none⟩ = some (.slice A1 s[i].cols.length c1) /\ w'.cell? ⟨b, off + i * 6 + 2, none⟩ = some (.slice A2 s[i].key.length c2) /\ w'.cell? ⟨b, off + i * 6 + 3, none⟩ = some (.slice A3 s[i].uniqs.length c3) /\ w'.cell? ⟨b, off + i * 6 + 4, none⟩ = some (.slice A4 s[i].checks.length c4) /\ w'.cell? ⟨b, off + i * 6 + 5, none⟩ = some (.slice A5 s[i].fks.length c5) /\ w'.cell? ⟨bd, od + i, none⟩ = some (.slice (some ⟨bl, ol, none⟩) db[i].rows.length cL) /\ w'.cell? ⟨g, 0, none⟩ = some (.int .i64 db[i].rows[k].id) /\ w'.cell? ⟨g, 1, none⟩ = some (.slice B1 db[i].rows[k].vals.length e1))
                (first | go_keep | exact ⟨below_keep hb9 _ _ q0z, below_keep hb9 _ _ q1z, below_keep hb9 _ _ q2z, below_keep hb9 _ _ q3z, below_keep hb9 _ _ q4z, below_keep hb9 _ _ q5z, below_keep hb9 _ _ p0z, below_keep hb9 _ _ d0, below_keep hb9 _ _ d1⟩)
                (first | (go_at_call 118; refine HC.out.mono ?_; rintro e w9 ⟨rfl, hb9⟩; rw [HV2.out]))
              have hl2_16_t := hld2_16_t.trans (hb9.mono hld2_16_t.size)
              have hb2_16_t := hb1_0_t.trans (hl2_16_t.mono hb1_0_t.size)
              have own2_16_t := Lib.hid (OwnG.below own1_0_t.out hl2_16_t)
              have RX := Lib.hid (RX.out.below hl2_16_t)
              clear HC d0 d1 p0z q0z q1z q2z q3z q4z q5z
              go_wp2_with fail
              obtain ⟨⟨d0, d1⟩, -⟩ := RX.out.all2
              have q0z := below_keep hb2_16_t _ _ q0
              have q1z := below_keep hb2_16_t _ _ q1
              have q2z := below_keep hb2_16_t _ _ q2
              have q3z := below_keep hb2_16_t _ _ q3
              have q4z := below_keep hb2_16_t _ _ q4
              have q5z := below_keep hb2_16_t _ _ q5
              have p0z := below_keep hb2_16_t _ _ p0
              have HC := Lib.hid (specL5Unique A1 A2 A3 A4 A5 (some ⟨bl, ol, none⟩) B1 s[i].cols.length c1 s[i].key.length c2 s[i].uniqs.length c3 s[i].checks.length c4 s[i].fks.length c5 db[i].rows.length cL db[i].rows[k].vals.length e1 s[i] db[i].rows db[i].rows[k] _ _ _ _ w9.drew ((s2.below IntR.stays hb2_16_t).drew IntR.stays) ((s3.below UqR.stays hb2_16_t).drew UqR.stays) ((hrw.below RwR.stays hb2_16_t).drew RwR.stays) ((hv.below VlR.stays hb2_16_t).drew VlR.stays) hrn (by have := HTS.out; unfold Tb.sz szL at this; omega) (by have := HTS.out; unfold Tb.sz szL at this; omega) HUM.out hvn (fun r hr => (HRI.out r hr).2.2.2.2.2.2) (fun r hr => (HRI.out r hr).2.2.2.1) HX.out.2.2.2.1 (fun u hu => ⟨fun r hr => (HRI.out r hr).2.2.2.2.1 u hu, HX.out.2.2.2.2.1 u hu⟩))
              cases he : uniqueB s[i] db[i].rows db[i].rows[k]
              · have HV3 := Lib.hid he
                clear he
                have hbd3_24_f := hb2_16_t.drew
                have hld3_24_f := (Below.refl w9.heap.size w9).drew
                go_region_held3 (fun w' => w'.cell? ⟨b, off + i * 6, none⟩ = some (.string s[i].name) /\ w'.cell? ⟨b, off + i * 6 + 1, none⟩ = some (.slice A1 s[i].cols.length c1) /\ w'.cell? ⟨b, off + i * 6 + 2, none⟩ = some (.slice A2 s[i].key.length c2) /\ w'.cell? ⟨b, off + i * 6 + 3, none⟩ = some (.slice A3 s[i].uniqs.length c3) /\ w'.cell? ⟨b, off + i * 6 + 4, none⟩ = some (.slice A4 s[i].checks.length c4) /\ w'.cell? ⟨b, off + i * 6 + 5, none⟩ = some (.slice A5 s[i].fks.length c5) /\ w'.cell? ⟨bd, od + i, none⟩ = some (.slice (some ⟨bl, ol, none⟩) db[i].rows.length cL) /\ w'.cell? ⟨g, 0, none⟩ = some (.int .i64 db[i].rows[k].id) /\ w'.cell? ⟨g, 1, none⟩ = some (.slice B1 db[i].rows[k].vals.length e1))
                  (first | go_keep | exact ⟨below_keep hb9 _ _ q0z, below_keep hb9 _ _ q1z, below_keep hb9 _ _ q2z, below_keep hb9 _ _ q3z, below_keep hb9 _ _ q4z, below_keep hb9 _ _ q5z, below_keep hb9 _ _ p0z, below_keep hb9 _ _ d0, below_keep hb9 _ _ d1⟩)
                  (first | (go_at_call 119; refine HC.out.mono ?_; rintro e w9 ⟨rfl, hb9⟩; rw [HV3.out]))
                have hl3_24_f := hld3_24_f.trans (hb9.mono hld3_24_f.size)
                have hb3_24_f := hb2_16_t.trans (hl3_24_f.mono hb2_16_t.size)
                have own3_24_f := Lib.hid (OwnG.below own2_16_t.out hl3_24_f)
                have RX := Lib.hid (RX.out.below hl3_24_f)
                clear HC d0 d1 p0z q0z q1z q2z q3z q4z q5z
                obtain ⟨⟨d0, d1⟩, -⟩ := RX.out.all2
                have hne := Lib.hid (own_ne_row own3_24_f.out RX.out (by decide))
                go_wp2_with (at_builtin; refine wpList_append_own _ rfl _ _ 26 rfl w.heap.size 97 i0 (.agg #[.int .i64 0, .int .i64 0, .int .i64 0]) 3 24 Tryz.underlying26 H1.out H2.out H3.out H4.out rfl (by decide) _ _ _ rfl (World.ownsRow.alloc own3_24_f.out _) ⟨_, 0, none⟩ 1 1 (Fw.cells ⟨3, i, db[i].rows[k].id⟩) rfl rfl ?c13_24_f ?c23_24_f ?c33_24_f ?c43_24_f ?c53_24_f ?_)
                case c13_24_f => exact cells_newAt _ (Fw.cells ⟨3, i, db[i].rows[k].id⟩) _ (by simp)
                case c23_24_f => intro u hu; simp [Fw.cells] at hu; rcases hu with rfl | rfl | rfl <;> rfl
                case c33_24_f => have := HLE.out; (try simp only [List.length_append, List.length_cons, List.length_nil]); unfold maxLen; omega
                case c43_24_f => have := HLE.out; (try simp only [List.length_append, List.length_cons, List.length_nil]); omega
                case c53_24_f => have := hb3_24_f.size; simp; omega
                intro v3_24_f w9 hown3 hgrow _
                have R := Lib.hid (OwnG.app own3_24_f.out hb3_24_f.size hown3 hgrow)
                have RX := Lib.hid (grown_rowK hgrow (RX.out.alloc _) hne.out)
                have hb3_24_f := hb3_24_f.trans R.out.2
                have own3_24_f := Lib.hid R.out.1
                clear hown3 hgrow hne R d0 d1
                generalize hyz : ys ++ [⟨3, i, db[i].rows[k].id⟩] = y3_24_f at *
                have HY3_24_f := Lib.hid hyz
                clear hyz
                have HLE := Lib.hid (show y3_24_f.length <= 4398046511107 by have h1 := HLE.out; rw [<- HY3_24_f.out, List.length_append, List.length_cons, List.length_nil]; omega)
                obtain ⟨⟨d0, d1⟩, -⟩ := RX.out.all2
                have q0z := below_keep hb3_24_f _ _ q0
                have q1z := below_keep hb3_24_f _ _ q1
                have q2z := below_keep hb3_24_f _ _ q2
                have q3z := below_keep hb3_24_f _ _ q3
                have q4z := below_keep hb3_24_f _ _ q4
                have q5z := below_keep hb3_24_f _ _ q5
                have p0z := below_keep hb3_24_f _ _ p0
                have HC := Lib.hid (specL5Refers (some ⟨b, off, none⟩) (some ⟨bd, od, none⟩) B1 s.length cS db.length cD db[i].rows[k].vals.length e1 s db i db[i].rows[k].vals wait _ _ _ w9 (hs.below TbR.stays hb3_24_f) (hd.below DtR.stays hb3_24_f) (hv.below VlR.stays hb3_24_f) hsn (by have := HLN.out; omega) hvn hlt (by have := HTS.out; unfold Tb.sz szL at this; omega) HX.out.2.2.2.2.2.1)
                cases he : refersB s db s[i] db[i].rows[k].vals wait
                · have HV4 := Lib.hid he
                  clear he
                  go_wp2_with fail
                  refine HC.out.mono ?_
                  rintro e w9 ⟨rfl, hb9⟩
                  rw [HV4.out]
                  have hl4_25_f := hb9
                  have hb4_25_f := hb3_24_f.trans (hl4_25_f.mono hb3_24_f.size)
                  have own4_25_f := Lib.hid (OwnG.below own3_24_f.out hl4_25_f)
                  have RX := Lib.hid (RX.out.below hl4_25_f)
                  clear HC d0 d1 p0z q0z q1z q2z q3z q4z q5z
                  obtain ⟨⟨d0, d1⟩, -⟩ := RX.out.all2
                  have hne := Lib.hid (own_ne_row own4_25_f.out RX.out (by decide))
                  go_wp2_with (at_builtin; refine wpList_append_own _ rfl _ _ 26 rfl w.heap.size 97 i0 (.agg #[.int .i64 0, .int .i64 0, .int .i64 0]) 3 24 Tryz.underlying26 H1.out H2.out H3.out H4.out rfl (by decide) _ _ _ rfl (World.ownsRow.alloc own4_25_f.out _) ⟨_, 0, none⟩ 1 1 (Fw.cells ⟨4, i, db[i].rows[k].id⟩) rfl rfl ?c14_25_f ?c24_25_f ?c34_25_f ?c44_25_f ?c54_25_f ?_)
                  case c14_25_f => exact cells_newAt _ (Fw.cells ⟨4, i, db[i].rows[k].id⟩) _ (by simp)
                  case c24_25_f => intro u hu; simp [Fw.cells] at hu; rcases hu with rfl | rfl | rfl <;> rfl
                  case c34_25_f => have := HLE.out; (try simp only [List.length_append, List.length_cons, List.length_nil]); unfold maxLen; omega
                  case c44_25_f => have := HLE.out; (try simp only [List.length_append, List.length_cons, List.length_nil]); omega
                  case c54_25_f => have := hb4_25_f.size; simp; omega
                  intro v4_25_f w9 hown3 hgrow _
                  have R := Lib.hid (OwnG.app own4_25_f.out hb4_25_f.size hown3 hgrow)
                  have RX := Lib.hid (grown_rowK hgrow (RX.out.alloc _) hne.out)
                  have hb4_25_f := hb4_25_f.trans R.out.2
                  have own4_25_f := Lib.hid R.out.1
                  clear hown3 hgrow hne R d0 d1
                  generalize hyz : y3_24_f ++ [⟨4, i, db[i].rows[k].id⟩] = y4_25_f at *
                  have HY4_25_f := Lib.hid hyz
                  clear hyz
                  have HLE := Lib.hid (show y4_25_f.length <= 4398046511108 by have h1 := HLE.out; rw [<- HY4_25_f.out, List.length_append, List.length_cons, List.length_nil]; omega)
                  have HT := Lib.hid (show dbFw s db wait i ++ (db[i].rows.take (k + 1)).flatMap (rowFw s db s[i] db[i].rows wait i) = y4_25_f by
                    rw [HFT.out, <- List.append_assoc, HYS.out]; unfold rowFw; rw [HV1.out, HV2.out, HV3.out, HV4.out, <- HY4_25_f.out, <- HY3_24_f.out]; simp [oneFw])
                  go_wp2_with fail
                  go_roundw
                  case rel => exact ⟨k + 1, by omega, by go_num, Lib.hid (by rw [HT.out]; exact own4_25_f.out), hb4_25_f⟩
                  case measure => simp [intOf]; omega
                · have HV4 := Lib.hid he
                  clear he
                  go_wp2_with fail
                  refine HC.out.mono ?_
                  rintro e w9 ⟨rfl, hb9⟩
                  rw [HV4.out]
                  have hl4_25_t := hb9
                  have hb4_25_t := hb3_24_f.trans (hl4_25_t.mono hb3_24_f.size)
                  have own4_25_t := Lib.hid (OwnG.below own3_24_f.out hl4_25_t)
                  have RX := Lib.hid (RX.out.below hl4_25_t)
                  clear HC d0 d1 p0z q0z q1z q2z q3z q4z q5z
                  have HT := Lib.hid (show dbFw s db wait i ++ (db[i].rows.take (k + 1)).flatMap (rowFw s db s[i] db[i].rows wait i) = y3_24_f by
                    rw [HFT.out, <- List.append_assoc, HYS.out]; unfold rowFw; rw [HV1.out, HV2.out, HV3.out, HV4.out, <- HY3_24_f.out]; simp [oneFw])
                  go_wp2_with fail
                  go_roundw
                  case rel => exact ⟨k + 1, by omega, by go_num, Lib.hid (by rw [HT.out]; exact own4_25_t.out), hb4_25_t⟩
                  case measure => simp [intOf]; omega
              · have HV3 := Lib.hid he
                clear he
                have hbd3_24_t := hb2_16_t.drew
                have hld3_24_t := (Below.refl w9.heap.size w9).drew
                go_region_held3 (fun w' => w'.cell? ⟨b, off + i * 6, none⟩ = some (.string s[i].name) /\ w'.cell? ⟨b, off + i * 6 + 1, none⟩ = some (.slice A1 s[i].cols.length c1) /\ w'.cell? ⟨b, off + i * 6 + 2, none⟩ = some (.slice A2 s[i].key.length c2) /\ w'.cell? ⟨b, off + i * 6 + 3, none⟩ = some (.slice A3 s[i].uniqs.length c3) /\ w'.cell? ⟨b, off + i * 6 + 4, none⟩ = some (.slice A4 s[i].checks.length c4) /\ w'.cell? ⟨b, off + i * 6 + 5, none⟩ = some (.slice A5 s[i].fks.length c5) /\ w'.cell? ⟨bd, od + i, none⟩ = some (.slice (some ⟨bl, ol, none⟩) db[i].rows.length cL) /\ w'.cell? ⟨g, 0, none⟩ = some (.int .i64 db[i].rows[k].id) /\ w'.cell? ⟨g, 1, none⟩ = some (.slice B1 db[i].rows[k].vals.length e1))
                  (first | go_keep | exact ⟨below_keep hb9 _ _ q0z, below_keep hb9 _ _ q1z, below_keep hb9 _ _ q2z, below_keep hb9 _ _ q3z, below_keep hb9 _ _ q4z, below_keep hb9 _ _ q5z, below_keep hb9 _ _ p0z, below_keep hb9 _ _ d0, below_keep hb9 _ _ d1⟩)
                  (first | (go_at_call 119; refine HC.out.mono ?_; rintro e w9 ⟨rfl, hb9⟩; rw [HV3.out]))
                have hl3_24_t := hld3_24_t.trans (hb9.mono hld3_24_t.size)
                have hb3_24_t := hb2_16_t.trans (hl3_24_t.mono hb2_16_t.size)
                have own3_24_t := Lib.hid (OwnG.below own2_16_t.out hl3_24_t)
                have RX := Lib.hid (RX.out.below hl3_24_t)
                clear HC d0 d1 p0z q0z q1z q2z q3z q4z q5z
                obtain ⟨⟨d0, d1⟩, -⟩ := RX.out.all2
                have q0z := below_keep hb3_24_t _ _ q0
                have q1z := below_keep hb3_24_t _ _ q1
                have q2z := below_keep hb3_24_t _ _ q2
                have q3z := below_keep hb3_24_t _ _ q3
                have q4z := below_keep hb3_24_t _ _ q4
                have q5z := below_keep hb3_24_t _ _ q5
                have p0z := below_keep hb3_24_t _ _ p0
                have HC := Lib.hid (specL5Refers (some ⟨b, off, none⟩) (some ⟨bd, od, none⟩) B1 s.length cS db.length cD db[i].rows[k].vals.length e1 s db i db[i].rows[k].vals wait _ _ _ w9 (hs.below TbR.stays hb3_24_t) (hd.below DtR.stays hb3_24_t) (hv.below VlR.stays hb3_24_t) hsn (by have := HLN.out; omega) hvn hlt (by have := HTS.out; unfold Tb.sz szL at this; omega) HX.out.2.2.2.2.2.1)
                cases he : refersB s db s[i] db[i].rows[k].vals wait
                · have HV4 := Lib.hid he
                  clear he
                  go_wp2_with fail
                  refine HC.out.mono ?_
                  rintro e w9 ⟨rfl, hb9⟩
                  rw [HV4.out]
                  have hl4_28_f := hb9
                  have hb4_28_f := hb3_24_t.trans (hl4_28_f.mono hb3_24_t.size)
                  have own4_28_f := Lib.hid (OwnG.below own3_24_t.out hl4_28_f)
                  have RX := Lib.hid (RX.out.below hl4_28_f)
                  clear HC d0 d1 p0z q0z q1z q2z q3z q4z q5z
                  obtain ⟨⟨d0, d1⟩, -⟩ := RX.out.all2
                  have hne := Lib.hid (own_ne_row own4_28_f.out RX.out (by decide))
                  go_wp2_with (at_builtin; refine wpList_append_own _ rfl _ _ 26 rfl w.heap.size 97 i0 (.agg #[.int .i64 0, .int .i64 0, .int .i64 0]) 3 24 Tryz.underlying26 H1.out H2.out H3.out H4.out rfl (by decide) _ _ _ rfl (World.ownsRow.alloc own4_28_f.out _) ⟨_, 0, none⟩ 1 1 (Fw.cells ⟨4, i, db[i].rows[k].id⟩) rfl rfl ?c14_28_f ?c24_28_f ?c34_28_f ?c44_28_f ?c54_28_f ?_)
                  case c14_28_f => exact cells_newAt _ (Fw.cells ⟨4, i, db[i].rows[k].id⟩) _ (by simp)
                  case c24_28_f => intro u hu; simp [Fw.cells] at hu; rcases hu with rfl | rfl | rfl <;> rfl
                  case c34_28_f => have := HLE.out; (try simp only [List.length_append, List.length_cons, List.length_nil]); unfold maxLen; omega
                  case c44_28_f => have := HLE.out; (try simp only [List.length_append, List.length_cons, List.length_nil]); omega
                  case c54_28_f => have := hb4_28_f.size; simp; omega
                  intro v4_28_f w9 hown3 hgrow _
                  have R := Lib.hid (OwnG.app own4_28_f.out hb4_28_f.size hown3 hgrow)
                  have RX := Lib.hid (grown_rowK hgrow (RX.out.alloc _) hne.out)
                  have hb4_28_f := hb4_28_f.trans R.out.2
                  have own4_28_f := Lib.hid R.out.1
                  clear hown3 hgrow hne R d0 d1
                  generalize hyz : ys ++ [⟨4, i, db[i].rows[k].id⟩] = y4_28_f at *
                  have HY4_28_f := Lib.hid hyz
                  clear hyz
                  have HLE := Lib.hid (show y4_28_f.length <= 4398046511108 by have h1 := HLE.out; rw [<- HY4_28_f.out, List.length_append, List.length_cons, List.length_nil]; omega)
                  have HT := Lib.hid (show dbFw s db wait i ++ (db[i].rows.take (k + 1)).flatMap (rowFw s db s[i] db[i].rows wait i) = y4_28_f by
                    rw [HFT.out, <- List.append_assoc, HYS.out]; unfold rowFw; rw [HV1.out, HV2.out, HV3.out, HV4.out, <- HY4_28_f.out]; simp [oneFw])
                  go_wp2_with fail
                  go_roundw
                  case rel => exact ⟨k + 1, by omega, by go_num, Lib.hid (by rw [HT.out]; exact own4_28_f.out), hb4_28_f⟩
                  case measure => simp [intOf]; omega
                · have HV4 := Lib.hid he
                  clear he
                  go_wp2_with fail
                  refine HC.out.mono ?_
                  rintro e w9 ⟨rfl, hb9⟩
                  rw [HV4.out]
                  have hl4_28_t := hb9
                  have hb4_28_t := hb3_24_t.trans (hl4_28_t.mono hb3_24_t.size)
                  have own4_28_t := Lib.hid (OwnG.below own3_24_t.out hl4_28_t)
                  have RX := Lib.hid (RX.out.below hl4_28_t)
                  clear HC d0 d1 p0z q0z q1z q2z q3z q4z q5z
                  have HT := Lib.hid (show dbFw s db wait i ++ (db[i].rows.take (k + 1)).flatMap (rowFw s db s[i] db[i].rows wait i) = ys by
                    rw [HFT.out, <- List.append_assoc, HYS.out]; unfold rowFw; rw [HV1.out, HV2.out, HV3.out, HV4.out]; simp [oneFw])
                  go_wp2_with fail
                  go_roundw
                  case rel => exact ⟨k + 1, by omega, by go_num, Lib.hid (by rw [HT.out]; exact own4_28_t.out), hb4_28_t⟩
                  case measure => simp [intOf]; omega
        · obtain rfl : k = db[i].rows.length := by omega
          have ho := hown.out
          rw [List.take_of_length_le (Nat.le_refl _)] at ho
          have HO := Lib.hid ho
          clear hown ho
          go_wp2_with fail
          go_roundw
          case rel => exact ⟨i + 1, by omega, by go_num, Lib.hid (by rw [HTA.out]; exact HO.out), hb⟩
          case measure => simp [intOf]; omega
    · obtain rfl : i = s.length := by omega
      obtain ⟨AO, cO, rfl, hcO, hcm, hsl⟩ := OwnG.sl (f := Fw.cells) (sz := 3) (fun _ => rfl) hown.out
      have HSL := Lib.hid hsl
      clear hown hsl
      go_wp2_with fail
      go_ret
      exact ⟨AO, cO, rfl, hcO, HSL.out, hb⟩
end Go.Proofs.YtlpldhmanihnnaaGreat
