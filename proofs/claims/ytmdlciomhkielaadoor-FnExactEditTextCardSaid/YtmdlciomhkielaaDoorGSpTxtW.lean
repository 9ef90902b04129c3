/- Walks: spec.l02Text, spec.ShapeText. -/
import Derived.Test.YtmdlciomhkielaaDoorGStrsW
import Derived.Test.YtmdlciomhkielaaDoorGJoinCW
import Derived.Test.YtmdlciomhkielaaDoorGAppB
import Derived.Test.YtmdlciomhkielaaDoorGPartB
import Derived.Deep.RegionWith
namespace Go.Proofs.YtmdlciomhkielaaDoor
open Go.RowKit

/-- spec.l02Text's contract at the right shapes of so many levels. -/
def StAt (d : Nat) : Prop := ∀ (t : Sh) (v : Value) (w : World), partOk d t = true → IsSh w t v →
  Calls Tryd.prog 59 #[v] w fun e w' => e = .returned (.string ⟨t.txt.toArray⟩) ∧ Below w.heap.size w w'

/-- The items, as strings. -/
def itemsB (k : Int) (na : List ByteArray) (su : List Sh) : List ByteArray := (Sh.items k na su).map fun l => ⟨l.toArray⟩

theorem itemsB_succ (k : Int) (na : List ByteArray) (su : List Sh) (j : Nat) (h : j < su.length) : (itemsB k na su).take (j + 1) = (itemsB k na su).take j ++ [⟨(if k = 7 then (na.getD j ⟨#[]⟩).data.toList ++ 58 :: su[j].txt else su[j].txt).toArray⟩] := by
  unfold itemsB
  rw [← List.map_take, items_take_succ k su na j h, List.map_append, List.map_take]
  rfl
theorem itemsB_len (k : Int) (na : List ByteArray) (su : List Sh) : (itemsB k na su).length = su.length := by
  unfold itemsB; rw [List.length_map, items_len]
theorem itemsB_data (k : Int) (na : List ByteArray) (su : List Sh) : (itemsB k na su).map (·.data.toList) = Sh.items k na su := by
  unfold itemsB
  rw [List.map_map]
  exact List.map_id' _
theorem capT_le {d : Nat} (h : d ≤ 5) : capT d ≤ 200000 := by
  match d, h with
  | 0, _ => decide
  | 1, _ => decide
  | 2, _ => decide
  | 3, _ => decide
  | 4, _ => decide
  | 5, _ => decide
theorem str3 (a : ByteArray) (l : List UInt8) : (a ++ ⟨#[58]⟩) ++ (⟨l.toArray⟩ : ByteArray) = ⟨(a.data.toList ++ 58 :: l).toArray⟩ := by
  apply ByteArray.ext
  apply Array.ext'
  simp
theorem str4 (a b : ByteArray) : ((a ++ ⟨#[40]⟩) ++ b) ++ ⟨#[41]⟩ = ⟨(a.data.toList ++ 40 :: (b.data.toList ++ [41])).toArray⟩ := by
  apply ByteArray.ext
  apply Array.ext'
  simp
theorem items_small {d : Nat} (hd : d ≤ 5) {k : Int} {sy na : List ByteArray} {su : List Sh} (hs : soundOf k sy na su.length = true) (hp : su.all (partOk d) = true) :
    (sy ++ itemsB k na su).length ≤ 6 ∧ (∀ s ∈ sy ++ itemsB k na su, s.size ≤ 200009) ∧ (∀ s ∈ na, s.size ≤ 8) := by
  have hc := capT_le hd
  have hsu : ∀ x ∈ su, x.txt.length ≤ capT d := fun x hx => txt_len d x (List.all_eq_true.1 hp x hx)
  have key : ∀ (hn : ∀ s ∈ na, s.size ≤ 8) (s : ByteArray), s ∈ itemsB k na su → s.size ≤ 200009 := by
    intro hn s hm
    obtain ⟨l, hl, rfl⟩ := List.mem_map.1 hm
    have := items_le k (capT d) su na hsu hn l hl
    show l.toArray.size ≤ _
    rw [List.size_toArray]; omega
  rcases sound_cases hs with ⟨_, rfl, rfl, hn⟩ | ⟨_, _, h6, hw, rfl, hn⟩ | ⟨_, rfl, rfl, hn⟩ | ⟨_, rfl, h6, hw, hn⟩
  · exact ⟨by rw [List.length_append, itemsB_len]; simp; omega, fun s hm => key (by simp) s (by simpa using hm), by simp⟩
  · refine ⟨by rw [List.length_append, itemsB_len]; omega, fun s hm => ?_, by simp⟩
    rcases List.mem_append.1 hm with hm | hm
    · have := words_size hw s hm; omega
    · exact key (by simp) s hm
  · exact ⟨by rw [List.length_append, itemsB_len]; simp; omega, fun s hm => key (by simp) s (by simpa using hm), by simp⟩
  · exact ⟨by rw [List.length_append, itemsB_len]; simp; omega, fun s hm => key (words_size hw) s (by simpa using hm), words_size hw⟩
theorem txt_full {k : Int} {sy na : List ByteArray} {su : List Sh} (h : ¬ k < 4) : (Sh.mk k sy na su).txt = kwB k ++ 40 :: (joinC ((sy ++ itemsB k na su).map (·.data.toList)) ++ [41]) := by
  simp only [Sh.txt, if_neg h, List.map_append, itemsB_data]

theorem kinds_at (k : Nat) (hk : k < 8) (kw : ByteArray) (hkw : kw = ⟨(kwB k).toArray⟩) (w : World) : Calls Tryd.prog 66 #[] w.drew fun e w' =>
    e = .returned (.slice (some ⟨w.heap.size, 0, none⟩) 8 8) ∧ w'.cell? ⟨w.heap.size, k, none⟩ = some (.string kw) ∧ w.heap.size < w'.heap.size ∧ Below w.heap.size w w' :=
  (kinds_any w.drew).mono fun e w' ⟨he, hk2, hb⟩ => by
    have hc : w'.cell? ⟨w.heap.size, k, none⟩ = some (.string kw) := by rw [hkw]; exact hk2 k hk
    exact ⟨he, hc, World.block_lt_of_cell? w' ⟨w.heap.size, k, none⟩ hc, (Below.refl _ w).drew.trans hb⟩

set_option maxRecDepth 100000 in
set_option maxHeartbeats 2000000 in
theorem st_step (d : Nat) (hd5 : d ≤ 5) (ih : StAt d) (k : Nat) (hk0 : 0 < k) (hk8 : k < 8) (sy na : List ByteArray) (su : List Sh) (p1 p2 p3 : Option Addr) (m1 m2 m3 : Nat) (w : World) (hs : soundOf k sy na su.length = true) (hp : su.all (partOk d) = true)
    (h1 : IsStrs w (.slice p1 sy.length m1) sy) (h2 : IsStrs w (.slice p2 na.length m2) na) (h3 : IsShs w (.slice p3 su.length m3) su) :
    Calls Tryd.prog 59 #[.agg #[.int .i64 k, .slice p1 sy.length m1, .slice p2 na.length m2, .slice p3 su.length m3]] w fun e w' => e = .returned (.string ⟨(Sh.mk k sy na su).txt.toArray⟩) ∧ Below w.heap.size w w' := by
  obtain ⟨hn1, hn2, an, capn, en, _, hcn, gn⟩ := h2
  simp only [Value.slice.injEq] at en
  obtain ⟨rfl, _, rfl⟩ := en
  obtain ⟨a3', cap3, e3, _, hc3, g3⟩ := h3
  simp only [Value.slice.injEq] at e3
  obtain ⟨rfl, _, rfl⟩ := e3
  have HX0 := Lib.hid (Go.Deep.blk_alloc_new w (.cells #[.int .i64 (k : Int), .slice p1 sy.length m1, .slice p2 na.length m2, .slice p3 su.length m3] 25))
  have HB0 := Lib.hid (below_alloc w (.cells #[.int .i64 (k : Int), .slice p1 sy.length m1, .slice p2 na.length m2, .slice p3 su.length m3] 25))
  have IH := Lib.hid ih
  have HP := Lib.hid hp
  have HS := Lib.hid hs
  have H1 := Lib.hid h1
  have H2 := Lib.hid gn
  have H3 := Lib.hid g3
  have kb1 : (0 : Int) ≤ (k : Int) := by omega
  have kb2 : (k : Int) < 8 := by omega
  have kb3 : ((k : Int)).toNat = k := by omega
  clear h1 gn g3 ih hp hs hn2
  obtain ⟨W, hW⟩ : ∃ W, W = w.alloc (.cells #[.int .i64 (k : Int), .slice p1 sy.length m1, .slice p2 na.length m2, .slice p3 su.length m3] 25) := ⟨_, rfl⟩
  have HW := Lib.hid hW
  rw [← hW] at HX0 HB0
  clear hW
  go_enter Tryd.func59, Tryd.ntmps59
  go_wp2_with fail
  rw [← HW.out]
  obtain ⟨a0, a1, a2, a3, _, _, _, _, az⟩ := blk4 HX0.out
  go_upto_region 2 with fail
  obtain ⟨kw, hkw⟩ : ∃ kw : ByteArray, kw = ⟨(kwB k).toArray⟩ := ⟨_, rfl⟩
  have HKW := Lib.hid hkw
  clear hkw
  go_cut [3] (fun x wc => x = .string kw ∧ Hid (Below W.heap.size W wc))
  case first =>
    go_region_with (go_at_call 66; refine (kinds_at k hk8 kw HKW.out W).mono ?_; rintro e w1 ⟨rfl, hc, hzz, hb1⟩; have HB1 := Lib.hid hb1; obtain ⟨_, _, _, _, _, _, _, _, _⟩ := blk4 (blk_below (w := W) HX0.out hb1 az); clear hb1)
    all_goals
      go_wp2_with fail
      go_meet
      exact ⟨rfl, HB1.out⟩
  case rest =>
    obtain ⟨rfl, HC⟩ := hcut
    have HAZ := Lib.hid az
    have HSM := Lib.hid (items_small hd5 HS.out HP.out)
    have HD := Lib.hid (HC.out.alloc HC.out.size (.cells #[] 9))
    have hX := blk_below HX0.out HC.out az
    have hsl : sy.length ≤ 6 := by have := HSM.out.1; rw [List.length_append] at this; omega
    clear a0 a1 a2 a3 az
    obtain ⟨a0, a1, a2, a3, _, _, _, _, az⟩ := blk4 hX
    clear hX
    go_wp2_with (at_builtin; go_must (refine wpList_strs _ rfl (.tmp 12) (.tmp 14) rfl W.heap.size _ _ [] sy rfl (OwnStrs.empty wc _ HC.out.size) rfl (H1.out.keep (Keeps.of_below (HB0.out.trans (HD.out.mono HB0.out.size)))) (by simp; omega) HD.out.size ?_))
    intro v' w1 hv hg
    have HB3 := Lib.hid (hg _ _ HD.out (Nat.le_refl _))
    obtain ⟨pv, nv, mv, rfl⟩ := hv.slice
    have HV := Lib.hid hv
    clear hv hg a0 a1 a2 a3 az
    go_wp2_with fail
    go_loopw [4, 5] (fun l i wr => ∃ (j : Nat) (p : Option Addr) (n m : Nat), j ≤ su.length ∧ i = .int .i64 j ∧ l = .slice p n m ∧ Hid (OwnStrs wr W.heap.size (.slice p n m) (sy ++ (itemsB k na su).take j)) ∧ Hid (Below W.heap.size W wr)) (fun _ i _ => su.length - (intOf i).toNat)
    case atStart => exact ⟨0, pv, nv, mv, Nat.zero_le _, rfl, rfl, by show OwnStrs _ _ _ _; simpa using HV.out, HB3.out⟩
    case round =>
      obtain ⟨j, p, n, m, hj, rfl, rfl, HO, HBr⟩ := hrel
      obtain ⟨a0, a1, a2, a3, _, _, _, _, az⟩ := blk4 (blk_below HX0.out HBr.out HAZ.out)
      by_cases hlt : j < su.length
      · obtain ⟨b, off, rfl, c0, c1, c2, c3, g0, g1, g2, g3, g4⟩ := IsShs.at H3.out hlt
        have hKp := Keeps.of_below (HB0.out.trans (HBr.out.mono HB0.out.size))
        have s0 := hKp _ _ _ g0
        have s1 := hKp _ _ _ g1
        have s2 := hKp _ _ _ g2
        have s3 := hKp _ _ _ g3
        obtain ⟨q1, i1, y1, q2, i2, y2, q3, i3, y3, rfl, rfl, rfl, rfl⟩ := g4.cells
        have hih := IH.out su[j] _ wr (List.all_eq_true.1 HP.out su[j] (List.getElem_mem hlt)) (IsSh.keep hKp _ _ g4)
        obtain ⟨xs, hxs⟩ : ∃ xs : ByteArray, xs = ⟨su[j].txt.toArray⟩ := ⟨_, rfl⟩
        have hxz : xs.size ≤ 200000 := by
          rw [hxs]
          show (List.toArray _).size ≤ _
          rw [List.size_toArray]
          exact Nat.le_trans (txt_len d _ (List.all_eq_true.1 HP.out su[j] (List.getElem_mem hlt))) (capT_le hd5)
        rw [← hxs] at hih
        have HIH := Lib.hid hih
        have HXS := Lib.hid hxs
        have HL7 : Hid (k = 7 → j < na.length) := by
          intro h7
          rcases sound_cases HS.out with ⟨hk, _⟩ | ⟨hk, _⟩ | ⟨hk, _⟩ | ⟨_, _, _, _, hn⟩ <;> omega
        clear g0 g1 g2 g3 g4 hih hxs hKp
        obtain ⟨L, hL⟩ : ∃ L, L = sy ++ (itemsB k na su).take j := ⟨_, rfl⟩
        have HLZ : Hid (L.length < 1048576) := by show _ < _; rw [hL]; have := HSM.out.1; rw [List.length_append] at this ⊢; rw [List.length_take]; omega
        have HO' : Hid (OwnStrs wr W.heap.size (.slice p n m) L) := by show OwnStrs _ _ _ _; rw [hL]; exact HO.out
        have HL0 := Lib.hid hL
        clear hL
        by_cases h7 : k = 7
        · have hk7 : ((k : Int) == 7) = true := by rw [beq_iff_eq]; omega
          have hjn : j < na.length := HL7.out h7
          obtain ⟨bn, on, rfl, hcn'⟩ := IsStrs.at H2.out hjn
          have hnz := HSM.out.2.2 na[j] (List.getElem_mem hjn)
          have HIT : Hid (sy ++ (itemsB k na su).take (j + 1) = L ++ [(na[j] ++ ⟨#[58]⟩) ++ xs]) := by
            show _ = _
            rw [itemsB_succ k na su j hlt, if_pos (by omega), getD_at hjn, ← str3, ← HXS.out, HL0.out, List.append_assoc]
          have hq1 : ¬ 9223372036854775807 < na[j].size + 1 := by omega
          have hq2 : ¬ 9223372036854775807 < na[j].size + 1 + xs.size := by omega
          have hxx : ((na[j] ++ ⟨#[58]⟩) ++ xs).size ≤ 9223372036854775807 := by rw [ByteArray.size_append, ByteArray.size_append]; show na[j].size + 1 + xs.size ≤ _; omega
          have HXX := Lib.hid hxx
          have HCN := Lib.hid hcn'
          clear h7 hxx hcn'
          go_wp2_with fail
          refine HIH.out.mono ?_
          rintro e w3 ⟨rfl, hb3⟩
          have HO3 := Lib.hid (HO'.out.block hb3)
          have hX3 := blk_below (blk_below HX0.out HBr.out HAZ.out) hb3 (blk4 (blk_below HX0.out HBr.out HAZ.out)).2.2.2.2.2.2.2.2
          have HB3' := Lib.hid (HBr.out.trans (hb3.mono HBr.out.size))
          have hcn3 := Keeps.of_below (HB0.out.trans (HB3'.out.mono HB0.out.size)) _ _ _ HCN.out
          clear hb3 s0 s1 s2 s3 a0 a1 a2 a3 az
          obtain ⟨a0, a1, a2, a3, _, _, _, _, az⟩ := blk4 hX3
          clear hX3
          go_wp2_with (at_builtin; go_must (refine wpList_push w3 rfl (.tmp 40) (.tmp 42) rfl W.heap.size (.slice p n m) L _ rfl HO3.out rfl HXX.out HLZ.out HB3'.out.size ?_))
          intro v' w4 hv hg
          have HB4 := Lib.hid (hg _ _ HB3'.out (Nat.le_refl _))
          obtain ⟨pv, nv, mv, rfl⟩ := hv.slice
          have HV4 := Lib.hid hv
          clear hv hg a0 a1 a2 a3 az
          go_wp2_with fail
          go_roundw
          case rel => exact ⟨j + 1, pv, nv, mv, hlt, by go_num, rfl, by show OwnStrs _ _ _ _; rw [HIT.out]; exact HV4.out, HB4.out⟩
          case measure => simp [intOf]; omega
        · have hk7 : ((k : Int) == 7) = false := by rw [beq_eq_false_iff_ne]; omega
          have HIT : Hid (sy ++ (itemsB k na su).take (j + 1) = L ++ [xs]) := by
            show _ = _
            rw [itemsB_succ k na su j hlt, if_neg (by omega), ← HXS.out, HL0.out, List.append_assoc]
          have hxx : xs.size ≤ 9223372036854775807 := by omega
          have HXX := Lib.hid hxx
          clear h7 hxx
          go_wp2_with fail
          refine HIH.out.mono ?_
          rintro e w3 ⟨rfl, hb3⟩
          have HO3 := Lib.hid (HO'.out.block hb3)
          have hX3 := blk_below (blk_below HX0.out HBr.out HAZ.out) hb3 (blk4 (blk_below HX0.out HBr.out HAZ.out)).2.2.2.2.2.2.2.2
          have HB3' := Lib.hid (HBr.out.trans (hb3.mono HBr.out.size))
          clear hb3 s0 s1 s2 s3 a0 a1 a2 a3 az
          obtain ⟨a0, a1, a2, a3, _, _, _, _, az⟩ := blk4 hX3
          clear hX3
          go_wp2_with (at_builtin; go_must (refine wpList_push w3 rfl (.tmp 40) (.tmp 42) rfl W.heap.size (.slice p n m) L (xs) rfl HO3.out rfl HXX.out HLZ.out HB3'.out.size ?_))
          intro v' w4 hv hg
          have HB4 := Lib.hid (hg _ _ HB3'.out (Nat.le_refl _))
          obtain ⟨pv, nv, mv, rfl⟩ := hv.slice
          have HV4 := Lib.hid hv
          clear hv hg a0 a1 a2 a3 az
          go_wp2_with fail
          go_roundw
          case rel => exact ⟨j + 1, pv, nv, mv, hlt, by go_num, rfl, by show OwnStrs _ _ _ _; rw [HIT.out]; exact HV4.out, HB4.out⟩
          case measure => simp [intOf]; omega
      · obtain rfl : j = su.length := by omega
        have HL : Hid (OwnStrs wr W.heap.size (.slice p n m) (sy ++ itemsB k na su)) := by
          have := HO.out
          rw [List.take_of_length_le (by rw [itemsB_len]; exact Nat.le_refl _)] at this
          exact this
        by_cases h4 : k < 4
        · have HE := Lib.hid (txt_bare (k := (k : Int)) (sy := sy) (na := na) (su := su) (by omega))
          have h4 : (k : Int) < 4 := by omega
          go_wp2_with fail
          go_ret
          exact ⟨ret_str (by rw [HE.out, HKW.out]), HB0.out.trans (HBr.out.mono HB0.out.size)⟩
        · have HE := Lib.hid (txt_full (k := (k : Int)) (sy := sy) (na := na) (su := su) (by omega))
          have h4 : (4 : Int) ≤ (k : Int) := by omega
          have hks : kw.size ≤ 5 := by rw [HKW.out]; show (List.toArray _).size ≤ _; rw [List.size_toArray]; exact kwB_len _
          have hj := join_any _ (sy ++ itemsB k na su) wr HL.out.is 200009 HSM.out.2.1 (by have := HSM.out.1; exact Nat.le_trans (Nat.mul_le_mul_right _ this) (by omega))
          obtain ⟨js, hjs⟩ : ∃ js : ByteArray, js = ⟨(joinC ((sy ++ itemsB k na su).map (·.data.toList))).toArray⟩ := ⟨_, rfl⟩
          have hjz : js.size ≤ 1200060 := by
            rw [hjs]
            show (List.toArray _).size ≤ _
            rw [List.size_toArray]
            have h1 := joinC_len 200009 ((sy ++ itemsB k na su).map (·.data.toList)) (fun a ha => by
              obtain ⟨s, hs, rfl⟩ := List.mem_map.1 ha
              rw [Array.length_toList]; exact HSM.out.2.1 s hs)
            rw [List.length_map] at h1
            have h2 := Nat.mul_le_mul_right (200009 + 1) HSM.out.1
            omega
          rw [← hjs] at hj
          have HJS := Lib.hid hjs
          have HJ := Lib.hid hj
          have hq1 : ¬ 9223372036854775807 < kw.size + 1 + js.size := by omega
          have hq2 : ¬ 9223372036854775807 < kw.size + 1 + js.size + 1 := by omega
          clear hjs hj
          go_wp2_with fail
          refine HJ.out.mono ?_
          rintro e w' ⟨rfl, rfl⟩
          go_wp2_with fail
          go_ret
          exact ⟨ret_str (by rw [str4, HE.out, HKW.out, HJS.out]), HB0.out.trans (HBr.out.mono HB0.out.size)⟩

/-- spec.l02Text. -/
theorem st_any (d : Nat) (hd : d ≤ 5) : StAt d := by
  induction d with
  | zero =>
    intro t v w hp
    simp [partOk] at hp
  | succ d ih =>
    intro t v w hp h
    have ih' := ih (by omega)
    cases t with | mk k sy na su =>
    obtain ⟨p1, m1, p2, m2, p3, m3, rfl, _, h1, h2, h3⟩ := h.open
    simp only [partOk, Bool.and_eq_true] at hp
    have hk : 0 < k ∧ k < 8 := by
      rcases sound_cases hp.1 with ⟨hk, _⟩ | ⟨rfl, _⟩ | ⟨hk, _⟩ | ⟨rfl, _⟩ <;> omega
    obtain ⟨n, rfl⟩ := Int.eq_ofNat_of_zero_le (show 0 ≤ k by omega)
    exact st_step d (by omega) ih' n (by omega) (by omega) sy na su _ _ _ _ _ _ w hp.1 hp.2 h1 h2 h3

set_option maxRecDepth 100000 in
theorem specText_is (t : Sh) (r : List UInt8) (hr : textOf t = r) (v : Value) (w : World) (h : IsSh w t v) :
    Calls Tryd.prog 33 #[v] w fun e w' => e = .returned (.string ⟨r.toArray⟩) ∧ Below w.heap.size w w' := by
  subst hr
  have HH := Lib.hid h
  obtain ⟨p1, n1, m1, p2, n2, m2, p3, n3, m3, rfl⟩ := h.agg
  have HB := Lib.hid (below_alloc w (.cells #[.int .i64 t.kd, .slice p1 n1 m1, .slice p2 n2 m2, .slice p3 n3 m3] 25))
  have HA0 := Lib.hid (Go.Deep.blk_alloc_new w (.cells #[.int .i64 t.kd, .slice p1 n1 m1, .slice p2 n2 m2, .slice p3 n3 m3] 25))
  cases hr : rightB t
  · have HR := Lib.hid hr
    have HP : Hid (textOf t = []) := by show _ = _; unfold textOf; rw [hr]; rfl
    clear h hr
    go_enter Tryd.func33, Tryd.ntmps33
    go_wp2_with fail
    refine (specRight_is t _ HR.out _ _ (IsSh.keep (keeps_alloc _ _) _ _ HH.out)).mono ?_
    rintro e w1 ⟨rfl, hb1⟩
    have HB1 := Lib.hid (HB.out.trans (hb1.mono (by simp)))
    clear hb1
    go_wp2_with fail
    go_ret
    exact ⟨ret_list HP.out.symm, HB1.out⟩
  · have HR := Lib.hid hr
    have HP : Hid (textOf t = t.txt) := by show _ = _; unfold textOf; rw [hr]; rfl
    clear h hr
    go_enter Tryd.func33, Tryd.ntmps33
    go_wp2_with fail
    refine (specRight_is t _ HR.out _ _ (IsSh.keep (keeps_alloc _ _) _ _ HH.out)).mono ?_
    rintro e w1 ⟨rfl, hb1⟩
    have A1 := Lib.hid (blk_below HA0.out hb1 (by simp))
    have HB1 := Lib.hid (HB.out.trans (hb1.mono (by simp)))
    clear hb1
    obtain ⟨a0, a1, a2, a3, _, _, _, _, az⟩ := blk4 A1.out
    go_wp2_with fail
    refine (st_any 5 (Nat.le_refl _) t _ _ HR.out (IsSh.keep (Keeps.of_below HB1.out) _ _ HH.out)).mono ?_
    rintro e w2 ⟨rfl, hb2⟩
    have HB2 := Lib.hid (HB1.out.trans (hb2.mono HB1.out.size))
    clear hb2 a0 a1 a2 a3 az
    go_wp2_with fail
    go_ret
    exact ⟨ret_list (by rw [HP.out]), HB2.out⟩
end Go.Proofs.YtmdlciomhkielaaDoor
