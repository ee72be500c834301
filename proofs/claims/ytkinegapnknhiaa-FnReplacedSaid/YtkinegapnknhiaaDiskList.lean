/-
  The list of a map's files, by name, in the program.
-/
import Derived.Test.YtkinegapnknhiaaDiskOf
import Derived.Test.YtkinegapnknhiaaIter
namespace Go.Proofs.Ytkinegapnknhiaa
open Go.RowKit Go.Maps Go.Sort
set_option linter.unusedVariables false
set_option linter.unusedSimpArgs false

theorem names_nodup {l : List Fz} (h : SortedF l) : (l.map Fz.nm).Nodup := List.pairwise_map.2 (h.imp fun {a b} hab e => by rw [e] at hab; exact lt_irr _ hab)
theorem mem_names {l : List Fz} (h : SortedF l) (s : List UInt8) : s ∈ l.map Fz.nm ↔ (findF l s).isSome = true := by
  constructor
  · intro hs
    obtain ⟨x, hx, rfl⟩ := List.mem_map.1 hs
    rw [findF_hit h hx]; rfl
  · intro hs
    obtain ⟨d, hd⟩ := Option.isSome_iff_exists.1 hs
    obtain ⟨x, hx, hn, -⟩ := findF_mem hd
    exact List.mem_map.2 ⟨x, hx, hn⟩
theorem FilesD.perm {w : World} {base f : Nat} {l : List Fz} {D : DataW Unit} (h : FilesD w base f l D) : (l.map Fz.nm).Perm (strKeys D) := by
  obtain ⟨es, hD, hes⟩ := h.own.keysOf
  obtain ⟨es', hD', hap, -⟩ := h.own.entries lawS
  have ee : es = es' := by rw [hD] at hD'; injection hD'
  subst ee
  have hk : ∀ p ∈ es, ∃ x, p.1 = .string x := fun p hp => by
    obtain ⟨v, hv⟩ := hes p hp
    obtain ⟨s, -, e⟩ := key_str hv
    exact ⟨_, e⟩
  rw [hD]
  refine perm_strKeys hap hk (names_nodup h.srt) fun x => ?_
  rw [← hD, h.has, mem_names h.srt]
theorem FilesD.max {w : World} {base f : Nat} {l : List Fz} {D : DataW Unit} (h : FilesD w base f l D) {x : Fz} (hx : x ∈ l) : x.name.size ≤ maxLen := by
  have := strKeys_le h.own Try.underlying9 x.nm (h.perm.mem_iff.1 (List.mem_map.2 ⟨x, hx, rfl⟩))
  have e : x.nm.length = x.name.size := by show x.name.toList.length = _; rw [ByteArray.toList_eq]; simp
  omega
theorem FilesD.names {w : World} {base f : Nat} {l : List Fz} {D : DataW Unit} (h : FilesD w base f l D) {ss : List (List UInt8)} (hp : ss.Perm (strKeys D)) : ss.mergeSort (fun x y => decide (x ≤ y)) = l.map Fz.nm := by
  have h2 := h.perm
  rw [show ss.mergeSort (fun x y => decide (x ≤ y)) = (l.map Fz.nm).mergeSort (fun x y => decide (x ≤ y)) from mergeSort_of_perm (hp.trans h2.symm)]
  refine List.mergeSort_of_pairwise (List.pairwise_map.2 (h.srt.imp fun {a b} hab => ?_))
  exact decide_eq_true (List.le_of_lt hab)
theorem encStr_name (x : Fz) : encStr x.nm = .string x.name := by
  show Value.string ⟨x.name.toList.toArray⟩ = _
  rw [ByteArray.toList_eq]
/-- The names, as they lie. -/
theorem names_cell {w : World} {base : Nat} {v : Value} {l : List Fz} (h : w.ownsRow base 9 1 v l.length ((l.map Fz.nm).map encStr)) : ∃ A c, v = .slice A l.length c ∧ ∀ k (hk : k < l.length), ∃ g, A = some ⟨g, 0, none⟩ ∧ w.cell? ⟨g, k, none⟩ = some (.string l[k].name) := by
  rcases h.2 with ⟨rfl, hn⟩ | ⟨g, cap, cur, rfl, h1, h2, h3, h4, h5, h6⟩
  · exact ⟨none, 0, by rw [hn], fun k hk => by omega⟩
  · refine ⟨_, cap, rfl, fun k hk => ⟨g, rfl, ?_⟩⟩
    rw [cell_of_row _ _ _ _ _ _ h2]
    have h7 : (cur.toList.take (l.length * 1))[k]? = some (.string l[k].name) := by
      rw [h6, List.getElem?_map, List.getElem?_map, List.getElem?_eq_getElem hk]
      simp only [Option.map_some]
      rw [encStr_name]
    rw [List.getElem?_take, if_pos (by omega)] at h7
    rw [← Array.getElem?_toList]
    exact h7

set_option maxRecDepth 100000 in
set_option maxHeartbeats 2000000 in
theorem implList (base f : Nat) (l : List Fz) (w : World) (h : FilesAt w base f l) (hl : l.length ≤ 100000) :
    Calls Try.prog 45 #[.map (some f)] w fun e w' => (∃ v, e = .returned v ∧ OwnZ w' w.heap.size v l) ∧ Below w.heap.size w w' := by
  obtain ⟨i0, hi, hz0, hz1, hz2⟩ := info_parts infoFileT
  have H1 := Lib.hid hi
  have H2 := Lib.hid hz0
  have H3 := Lib.hid hz1
  have H4 := Lib.hid hz2
  clear hi hz0 hz1 hz2
  have HFA := Lib.hid h
  obtain ⟨D, hD⟩ := h
  have cK := callsIn_wide.1 (Try.maps_Keys_81 (some f) w)
  have cS := callsIn_wide.1 (Try.slices_Sorted_keys_80_81 f (Maps.size D) D rawE w hD.own (by rw [hD.num]; unfold maxLen; omega) (by rw [hD.num]; omega))
  have HK := Lib.hid cK
  have HS := Lib.hid cS
  have HN := Lib.hid (fun ss hp => hD.names (ss := ss) hp)
  have HLN := Lib.hid (fun (ss : List (List UInt8)) (hp : ss.Perm (strKeys D)) => show ss.length = l.length by
    have e := congrArg List.length (hD.names hp)
    rwa [List.length_mergeSort, List.length_map] at e)
  clear cK cS hD
  go_enter Try.func45, Try.ntmps45
  go_wp2_with fail
  refine HK.out.mono ?_
  rintro e w1 ⟨rfl, rfl⟩
  go_wp2_with fail
  refine HS.out.mono ?_
  rintro e w2 ⟨v, ss, rfl, hp, hrow, -, hb⟩
  have hn := HLN.out ss hp
  have hb2 : Below w.heap.size w w2 := ((Below.refl _ w).alloc (Nat.le_refl _) _).trans (hb.mono (by simp))
  rw [HN.out ss hp, hn] at hrow
  obtain ⟨A, c, rfl, hcell⟩ := names_cell hrow
  have HC := Lib.hid hcell
  clear hp hrow hb hn hcell HN HLN HS HK
  go_wp2_with fail
  go_loopw [3, 10] (fun vv iv wr => ∃ k : Nat, k ≤ l.length ∧ iv = .int .i64 k ∧ Hid (OwnZ wr w2.heap.size vv (l.take k)) ∧ Below w2.heap.size w2 wr) (fun _ iv _ => l.length - (intOf iv).toNat)
  case atStart => exact ⟨0, by omega, rfl, Lib.hid (OwnG.nil _ _), Below.refl _ _⟩
  case round =>
    obtain ⟨k, hk, rfl, hown, hb⟩ := hrel
    by_cases hlt : k < l.length
    · obtain ⟨g, rfl, q0⟩ := HC.out k hlt
      have q := (hb.cell (cell_lt q0)).trans q0
      have i0' : (0 : Int) ≤ k := by omega
      have i1 : (k : Int) < l.length := by omega
      have hbr := hb2.trans (hb.mono hb2.size)
      obtain ⟨D, hD⟩ := HFA.out.below (hbr)
      have hnm : l[k].name.size ≤ maxLen := hD.max (List.getElem_mem hlt)
      obtain ⟨u, e1, -, hu⟩ := hD.look l[k].name hnm
      rw [show findF l l[k].name.toList = some l[k].data from findF_hit hD.srt (List.getElem_mem hlt)] at hu
      have e2 := Byt.conv (show Byt wr base u l[k].data from hu)
      have HTK := Lib.hid (show l.take (k + 1) = l.take k ++ [l[k]] from List.take_succ_eq_append_getElem hlt)
      have HLE := Lib.hid (show (l.take k).length ≤ k by rw [List.length_take]; omega)
      generalize hxs : l.take k = xs at hown HTK HLE
      clear hD hu hxs q0
      go_wp2_with (at_builtin; refine wpList_append_own _ rfl _ _ 24 rfl w2.heap.size 75 i0 (.agg #[.string ⟨#[]⟩, .string ⟨#[]⟩]) 2 32 Try.underlying24 H1.out H2.out H3.out H4.out rfl (by decide) _ _ _ rfl (World.ownsRow.alloc hown.out _) ⟨_, 0, none⟩ 1 1 (Fz.cells l[k]) rfl rfl ?c11 ?c21 ?c31 ?c41 ?c51 ?_)
      case c11 => exact cells_newAt _ (Fz.cells l[k]) _ (by simp)
      case c21 => intro u hu; simp [Fz.cells] at hu; rcases hu with rfl | rfl <;> rfl
      case c31 => have := HLE.out; unfold maxLen; omega
      case c41 => have := HLE.out; omega
      case c51 => have := hb.size; simp; omega
      intro v9 w9 hown3 hgrow _
      have R1 := OwnG.app hown.out hb.size hown3 hgrow
      have HO9 := Lib.hid (show OwnZ w9 w2.heap.size v9 _ from R1.1)
      have hb9 := R1.2
      clear hown3 hgrow R1
      have hb10 : Below w2.heap.size w2 w9 := hb.trans hb9
      rw [← HTK.out] at HO9
      clear hown
      go_wp2_with fail
      go_roundw
      case rel => exact ⟨k + 1, by omega, by go_num, HO9, hb10⟩
      case measure => simp [intOf]; omega
    · have e : l.take k = l := List.take_of_length_le (by omega)
      have HO := hown
      rw [e] at HO
      have hbr := hb2.trans (hb.mono hb2.size)
      clear e hown
      go_wp2
      go_ret
      exact ⟨⟨_, rfl, HO.out.mono hb2.size⟩, hbr⟩
end Go.Proofs.Ytkinegapnknhiaa
