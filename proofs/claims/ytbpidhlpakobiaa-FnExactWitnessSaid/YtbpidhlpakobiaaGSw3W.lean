/- Walks: spec.l05Witness, at records. -/
import Derived.Test.YtbpidhlpakobiaaGSw2W
import Derived.Test.YtbpidhlpakobiaaGSc3W
import Derived.Test.YtbpidhlpakobiaaGOptP
namespace Go.Proofs.Ytbpidhlpakobiaa
open Go.RowKit

set_option maxRecDepth 100000 in
set_option maxHeartbeats 4000000 in
theorem sw_rec (n : Nat) (ih : SwAt n) (w : World) (d1 d2 : Nat) (na : List ByteArray) (su : List Sh) (na2 : List ByteArray) (su2 : List Sh) (y : Va) (vw vr : Value) (hd : d1 + d2 ≤ n) (h1 : d1 + 1 ≤ 5) (h2 : d2 ≤ 5) (hpw : partOk (d1 + 1) (.mk 7 [] na su) = true) (hps : su.all (partOk d1) = true) (hl : su.length = na.length) (hl2 : su2.length = na2.length) (hpr : su2.all (partOk d2) = true) (hw : IsSh w (.mk 7 [] na su) vw) (hr : IsSh w (.mk 7 [] na2 su2) vr) (hx : wnB (n + 1) (.mk 7 [] na su) (.mk 7 [] na2 su2) = some y) :
    Calls Try.prog 26 #[vw, vr] w (ToVPost y w) := by
  have HWv := Lib.hid hw
  have hU := wn_rec (n := n) (w := .mk 7 [] na su) (r := .mk 7 [] na2 su2) rfl rfl
  obtain ⟨L, hL⟩ : ∃ L, L = (na2.zip su2).map fun p => fieldW (wnB n) (.mk 7 [] na su) p.1 p.2 := ⟨_, rfl⟩
  have hR : firstW L = some y := by rw [hL]; exact hU.symm.trans hx
  have HLen : Hid (L.length = na2.length) := by show _ = _; rw [hL, List.length_map, List.length_zip]; omega
  have HLat : Hid (∀ (k : Nat) (h : k < L.length) (h1 : k < na2.length) (h2 : k < su2.length), L[k] = fieldW (wnB n) (.mk 7 [] na su) na2[k] su2[k]) := fun k h h1 h2 => by subst hL; simp
  have HR : Hid (firstW (L.drop 0) = some y) := hR
  obtain ⟨p1, m1, p2, m2, p3, m3, rfl, _, _, s2, s3⟩ := hw.open
  have S2 := Lib.hid s2
  obtain ⟨q1, j1, q2, j2, q3, j3, rfl, _, _, r2, r3⟩ := hr.open
  obtain ⟨_, hs8, a2', cap2, e2, g2a, g2b, g2⟩ := r2
  simp only [Value.slice.injEq] at e2
  obtain ⟨rfl, _, rfl⟩ := e2
  obtain ⟨a3', cap3, e3, g3a, g3b, g3⟩ := r3
  simp only [Value.slice.injEq] at e3
  obtain ⟨rfl, _, rfl⟩ := e3
  obtain ⟨a4', cap4, e4, g4a, g4b, g4⟩ := s3
  simp only [Value.slice.injEq] at e4
  obtain ⟨rfl, _, rfl⟩ := e4
  have H2 := Lib.hid g2
  have H3 := Lib.hid g3
  have H4 := Lib.hid g4
  have HL := Lib.hid hl
  have HL2 := Lib.hid hl2
  have HPW := Lib.hid hpw
  have HPS := Lib.hid hps
  have HPR := Lib.hid hpr
  have IH := Lib.hid ih
  have HN := three_new w (.cells #[.int .i64 7, .slice p1 0 m1, .slice p2 na.length m2, .slice p3 su.length m3] 30) (.cells #[.int .i64 7, .slice q1 0 j1, .slice q2 na2.length j2, .slice q3 su2.length j3] 30) (.cells #[.int .i64 0, .int .i64 0, .string ⟨#[]⟩, .slice none 0 0] 35)
  obtain ⟨W0, hW0⟩ : ∃ W0, W0 = ((w.alloc (.cells #[.int .i64 7, .slice p1 0 m1, .slice p2 na.length m2, .slice p3 su.length m3] 30)).alloc (.cells #[.int .i64 7, .slice q1 0 j1, .slice q2 na2.length j2, .slice q3 su2.length j3] 30)).alloc (.cells #[.int .i64 0, .int .i64 0, .string ⟨#[]⟩, .slice none 0 0] 35) := ⟨_, rfl⟩
  have hb0 : Below w.heap.size w W0 := by rw [hW0]; exact ((below_alloc w _).alloc (by simp) _).alloc (by simp; omega) _
  have hz0 : W0.heap.size = w.heap.size + 1 + 1 + 1 := by rw [hW0]; simp
  rw [← hW0] at HN
  obtain ⟨W, hW⟩ : ∃ W, W = W0.alloc (.cells #[.int .i64 7, .int .i64 0, .string ⟨#[]⟩, .slice none 0 0] 35) := ⟨_, rfl⟩
  have hbW : Below W0.heap.size W0 W := by rw [hW]; exact below_alloc _ _
  have N1 := Lib.hid (blk_below HN.1 hbW (by omega))
  have N2 := Lib.hid (blk_below HN.2.1 hbW (by omega))
  have N3 := Lib.hid (blk_below HN.2.2 hbW (by omega))
  have N4 : Hid (W.heap[w.heap.size + 1 + 1 + 1]? = some (.cells #[.int .i64 7, .int .i64 0, .string ⟨#[]⟩, .slice none 0 0] 35 (0, 0))) := by show _ = _; rw [hW, ← hz0]; exact Go.Deep.blk_alloc_new _ _
  have hbw := hb0.trans (hbW.mono hb0.size)
  have BW := Lib.hid hbw
  have hz : W.heap.size = w.heap.size + 1 + 1 + 1 + 1 := by rw [hW]; simp; omega
  have HZ := Lib.hid hz
  have HW : Hid (W = (((w.alloc (.cells #[.int .i64 7, .slice p1 0 m1, .slice p2 na.length m2, .slice p3 su.length m3] 30)).alloc (.cells #[.int .i64 7, .slice q1 0 j1, .slice q2 na2.length j2, .slice q3 su2.length j3] 30)).alloc (.cells #[.int .i64 0, .int .i64 0, .string ⟨#[]⟩, .slice none 0 0] 35)).alloc (.cells #[.int .i64 7, .int .i64 0, .string ⟨#[]⟩, .slice none 0 0] 35)) := by show _ = _; rw [hW, hW0]
  have HX : Hid (blankB (.mk 7 [] na su) = .mk 7 0 ⟨#[]⟩ (blanks su)) := by show _ = _; unfold blankB; rfl
  obtain ⟨x0, x1, x2, x3, _, _, _, _, xz⟩ := blk4 N1.out
  obtain ⟨y0, y1, y2, y3, _, _, _, _, yz⟩ := blk4 N2.out
  clear HN hbw hz hW hW0 hb0 hbW hz0 hL hU hR s2 hw hr g2 g3 g4 hl hl2 hps hpr ih hs8 hx hpw
  go_enter Try.func26, Try.ntmps26
  go_wp2_with fail
  rw [← HW.out]
  refine (bs_any (d1 + 1) h1 _ _ W HPW.out (IsSh.keep (Keeps.of_below BW.out) _ _ HWv.out)).mono ?_
  rw [HX.out]
  rintro e w1 ⟨c0, c1, c2, c3', F, rfl, ho1, hn1, hb1⟩
  obtain ⟨q0, c3, rfl, rfl, rfl, rfl⟩ := (OwnVa.is _ _ _ ho1).cells
  simp only [kd_mk, nn_mk, tx_mk, it_mk] at ho1 ⊢
  have hz := HZ.out
  have lt1 := OwnVa.blocks _ _ _ ho1
  have M1 := blk_below N1.out hb1 (by omega)
  have M2 := blk_below N2.out hb1 (by omega)
  have M3 := blk_below N3.out hb1 (by omega)
  have M4 := blk_below N4.out hb1 (by omega)
  obtain ⟨w2, hw2⟩ : ∃ w2, w2 = putQ w1 (w.heap.size + 1 + 1 + 1) (.int .i64 7) (.int .i64 0) (.string ⟨#[]⟩) (.slice q0 (blanks su).length c3) := ⟨_, rfl⟩
  have e2' : ∀ g, g ≠ w.heap.size + 1 + 1 + 1 → w2.heap[g]? = w1.heap[g]? := fun g hg => by rw [hw2]; exact putQ_other _ _ _ _ _ _ hg
  have hs2 : w2.heap.size = w1.heap.size := by rw [hw2]; unfold putQ; rw [size_set, size_set, size_set, size_set]
  have P1 := Lib.hid ((e2' _ (by omega)).trans M1)
  have P2 := Lib.hid ((e2' _ (by omega)).trans M2)
  have P3 := Lib.hid ((e2' _ (by omega)).trans M3)
  have P4 : Hid (w2.heap[w.heap.size + 1 + 1 + 1]? = some (.cells #[.int .i64 7, .int .i64 0, .string ⟨#[]⟩, .slice q0 (blanks su).length c3] 35 (0, 0))) := by
    show _ = _
    rw [hw2]
    have a4 := blk_set (blk_set (blk_set (blk_set M4 0 (.int .i64 7)) 1 (.int .i64 0)) 2 (.string ⟨#[]⟩)) 3 (.slice q0 (blanks su).length c3)
    unfold putQ
    simpa using a4
  have B2 : Hid (Below w.heap.size w w2) := by show Below _ _ _; rw [hw2]; exact putQ_below (BW.out.trans (hb1.mono BW.out.size)) (by omega) _ _ _ _
  have O2 : Hid (OwnVa w2 W.heap.size (.mk 7 0 ⟨#[]⟩ (blanks su)) (.agg #[.int .i64 7, .int .i64 0, .string ⟨#[]⟩, .slice q0 (blanks su).length c3]) F) := OwnVa.move (Nat.le_refl _) _ _ _ (fun g hg => e2' g (by have := lt1 g hg; omega)) ho1
  have Nd := Lib.hid hn1
  have HS2 : Hid (W.heap.size ≤ w2.heap.size) := by show _ ≤ _; rw [hs2]; exact hb1.size
  have HW2 : Hid (w2 = (((w1.setCell ⟨w.heap.size + 1 + 1 + 1, 0, none⟩ (.int .i64 7)).setCell ⟨w.heap.size + 1 + 1 + 1, 1, none⟩ (.int .i64 0)).setCell ⟨w.heap.size + 1 + 1 + 1, 2, none⟩ (.string ⟨#[]⟩)).setCell ⟨w.heap.size + 1 + 1 + 1, 3, none⟩ (.slice q0 (blanks su).length c3)) := hw2
  obtain ⟨z0, z1', z2', z3', _, _, _, _, zz⟩ := blk4 M4
  clear x0 x1 x2 x3 xz y0 y1 y2 y3 yz
  obtain ⟨y0, y1, y2, y3, _, _, _, _, yz⟩ := blk4 M2
  clear M1 M2 M3 M4 hw2 e2' ho1 hn1 hb1 lt1 hs2
  go_wp2_with fail
  rw [← HW2.out]
  clear z0 z1' z2' z3' zz y0 y1 y2 y3 yz
  go_loopw [7] (fun i wr => ∃ k : Nat, k ≤ na2.length ∧ i = .int .i64 k ∧ Hid (Below w2.heap.size w2 wr) ∧ Hid (firstW (L.drop k) = some y)) (fun i _ => na2.length - (intOf i).toNat)
  case atStart => exact ⟨0, Nat.zero_le _, rfl, Below.refl _ _, HR.out⟩
  case round =>
    obtain ⟨k, hk, rfl, HB, HK⟩ := hrel
    have Bw := Lib.hid (B2.out.trans (HB.out.mono B2.out.size))
    have hs2 := HS2.out
    obtain ⟨x0, x1, x2, x3, _, _, _, _, xz⟩ := blk4 (blk_below P1.out HB.out (by omega))
    obtain ⟨y0, y1, y2, y3, _, _, _, _, yz⟩ := blk4 (blk_below P2.out HB.out (by omega))
    by_cases hlt : k < na2.length
    · have hlt2 : k < su2.length := by rw [HL2.out]; exact hlt
      have HLt : Hid (k < L.length) := by show _ < _; rw [HLen.out]; exact hlt
      obtain ⟨bn, offn, rfl, hc⟩ := IsStrs.at H2.out hlt
      have hc' := Keeps.of_below Bw.out _ _ _ hc
      have HSK : Hid (∀ w', Below wr.heap.size wr w' → (w'.cell? ⟨w.heap.size, 2, none⟩ = some (.slice p2 na.length m2) ∧ w'.cell? ⟨w.heap.size + 1, 2, none⟩ = some (.slice (some ⟨bn, offn, none⟩) na2.length j2) ∧ w'.cell? ⟨bn, offn + k, none⟩ = some (.string na2[k]))) := fun w' hb =>
        ⟨Keeps.of_below hb _ _ _ x2, Keeps.of_below hb _ _ _ y2, Keeps.of_below hb _ _ _ hc'⟩
      obtain ⟨p, hp⟩ : ∃ p, posOf na na2[k] = p := ⟨_, rfl⟩
      have HP := Lib.hid hp
      have hlo := posOf_lo na na2[k]
      have hhi := posOf_lt na na2[k]
      rw [hp] at hlo hhi
      have HLk := Lib.hid (HLat.out k HLt.out hlt hlt2)
      clear hc hc' hp
      go_upto_region 21 with fail
      clear x0 x1 x2 x3 xz y0 y1 y2 y3 yz
      go_cut [8] (fun x wc => x = .int .i64 p ∧ wc = wr.drew)
      case first =>
        go_region_held3 (fun w' => w'.cell? ⟨w.heap.size, 2, none⟩ = some (.slice p2 na.length m2) ∧ w'.cell? ⟨w.heap.size + 1, 2, none⟩ = some (.slice (some ⟨bn, offn, none⟩) na2.length j2) ∧ w'.cell? ⟨bn, offn + k, none⟩ = some (.string na2[k]))
          (first
            | exact HSK.out _ (Below.refl _ wr).drew)
          (first
            | (go_at_call 33; refine (at_is _ na na2[k] p HP.out wr.drew (S2.out.keep (Keeps.of_below Bw.out.drew))).mono ?_; rintro e w' ⟨rfl, rfl⟩))
        all_goals
          go_wp2_with fail
          go_meet
          exact ⟨rfl, rfl⟩
      case rest =>
        obtain ⟨rfl, rfl⟩ := hcut
        have HB2 : Hid (Below w2.heap.size w2 wr.drew) := HB.out.drew
        have Bw2 := Lib.hid (B2.out.trans (HB2.out.mono B2.out.size))
        by_cases hpn : p < 0
        · obtain rfl : p = -1 := by omega
          have hno : fieldW (wnB n) (.mk 7 [] na su) na2[k] su2[k] = none := by unfold fieldW; rw [show (Sh.mk 7 [] na su).na = na from rfl, HP.out, if_neg (by omega)]
          have HF := Lib.hid ((first_none HLt.out (HLk.out.trans hno)).symm.trans HK.out)
          clear hno hlo hhi
          go_upto_region 22 with fail
          go_quiet (fail)
          go_wp2_with fail
          go_roundw
          case rel => exact ⟨k + 1, hlt, by go_num, below_drewN HB.out _, HF.out⟩
          case measure => simp [intOf]; omega
        · obtain ⟨j, rfl⟩ := Int.eq_ofNat_of_zero_le (show 0 ≤ p by omega)
          have hj : j < su.length := by rw [HL.out]; omega
          obtain ⟨a, aff, rfl, e0', e1', e2', e3', l0, l1, l2, l3, l4⟩ := IsShs.at H4.out hj
          obtain ⟨a1, v1, z1, a2, v2, z2, a3, v3, z3, rfl, rfl, rfl, rfl⟩ := l4.cells
          obtain ⟨b, off, rfl, d0', d1', d2', d3', k0, k1, k2, k3, k4⟩ := IsShs.at H3.out hlt2
          obtain ⟨t1, u1, y1', t2, u2, y2', t3, u3, y3', rfl, rfl, rfl, rfl⟩ := k4.cells
          have L4 := Lib.hid l4
          have K4 := Lib.hid k4
          have HPj := Lib.hid (List.all_eq_true.1 HPS.out su[j] (List.getElem_mem hj))
          have HPk := Lib.hid (List.all_eq_true.1 HPR.out su2[k] (List.getElem_mem hlt2))
          obtain ⟨x0, x1, x2, x3, _, _, _, _, xz⟩ := blk4 (blk_below P1.out HB2.out (by omega))
          obtain ⟨y0, y1, y2, y3, _, _, _, _, yz⟩ := blk4 (blk_below P2.out HB2.out (by omega))
          have HKp := Keeps.of_below Bw2.out
          have HSK2 : Hid (∀ w', Below wr.drew.heap.size wr.drew w' → (w'.cell? ⟨w.heap.size, 3, none⟩ = some (.slice (some ⟨a, aff, none⟩) su.length m3) ∧ w'.cell? ⟨w.heap.size + 1, 3, none⟩ = some (.slice (some ⟨b, off, none⟩) su2.length j3) ∧ w'.cell? ⟨a, aff + j * 4, none⟩ = some (.int .i64 su[j].kd) ∧ w'.cell? ⟨a, aff + j * 4 + 1, none⟩ = some (.slice a1 v1 z1) ∧ w'.cell? ⟨a, aff + j * 4 + 2, none⟩ = some (.slice a2 v2 z2) ∧ w'.cell? ⟨a, aff + j * 4 + 3, none⟩ = some (.slice a3 v3 z3) ∧ w'.cell? ⟨b, off + k * 4, none⟩ = some (.int .i64 su2[k].kd) ∧ w'.cell? ⟨b, off + k * 4 + 1, none⟩ = some (.slice t1 u1 y1') ∧ w'.cell? ⟨b, off + k * 4 + 2, none⟩ = some (.slice t2 u2 y2') ∧ w'.cell? ⟨b, off + k * 4 + 3, none⟩ = some (.slice t3 u3 y3'))) := fun w' hb =>
            have hk := Keeps.of_below hb
            ⟨hk _ _ _ x3, hk _ _ _ y3, hk _ _ _ (HKp _ _ _ l0), hk _ _ _ (HKp _ _ _ l1), hk _ _ _ (HKp _ _ _ l2), hk _ _ _ (HKp _ _ _ l3), hk _ _ _ (HKp _ _ _ k0), hk _ _ _ (HKp _ _ _ k1), hk _ _ _ (HKp _ _ _ k2), hk _ _ _ (HKp _ _ _ k3)⟩
          obtain ⟨U, hU⟩ : ∃ U, wnB n su[j] su2[k] = U := ⟨_, rfl⟩
          have hge : decide ((0 : Int) ≤ (j : Int)) = true := by simp
          have HU := Lib.hid hU
          have hLk : L[k]'HLt.out = U.map fun x => .mk 7 0 ⟨#[]⟩ ((blanks su).set j x) := by
            rw [HLk.out]; unfold fieldW
            rw [show (Sh.mk 7 [] na su).na = na from rfl, show (Sh.mk 7 [] na su).su = su from rfl, HP.out, if_pos (by omega), show ((j : Int)).toNat = j from rfl, getD_eq hj, hU]
          have HLU := Lib.hid hLk
          have HZa := Lib.hid (And.intro (World.block_lt_of_cell? w ⟨a, aff + j * 4, none⟩ l0) (World.block_lt_of_cell? w ⟨b, off + k * 4, none⟩ k0))
          clear x0 x1 x2 x3 xz y0 y1 y2 y3 yz HKp l0 l1 l2 l3 l4 k0 k1 k2 k3 k4 hU hlo hhi hLk
          go_upto_region 22 with fail
          go_region_held3 (fun w' => w'.cell? ⟨w.heap.size, 3, none⟩ = some (.slice (some ⟨a, aff, none⟩) su.length m3) ∧ w'.cell? ⟨w.heap.size + 1, 3, none⟩ = some (.slice (some ⟨b, off, none⟩) su2.length j3) ∧ w'.cell? ⟨a, aff + j * 4, none⟩ = some (.int .i64 su[j].kd) ∧ w'.cell? ⟨a, aff + j * 4 + 1, none⟩ = some (.slice a1 v1 z1) ∧ w'.cell? ⟨a, aff + j * 4 + 2, none⟩ = some (.slice a2 v2 z2) ∧ w'.cell? ⟨a, aff + j * 4 + 3, none⟩ = some (.slice a3 v3 z3) ∧ w'.cell? ⟨b, off + k * 4, none⟩ = some (.int .i64 su2[k].kd) ∧ w'.cell? ⟨b, off + k * 4 + 1, none⟩ = some (.slice t1 u1 y1') ∧ w'.cell? ⟨b, off + k * 4 + 2, none⟩ = some (.slice t2 u2 y2') ∧ w'.cell? ⟨b, off + k * 4 + 3, none⟩ = some (.slice t3 u3 y3'))
            (first
              | exact HSK2.out _ (Below.refl _ wr.drew).drew
              | exact HSK2.out _ B1.out)
            (first
              | (go_at_call 19; refine (sc_all n d1 d2 su[j] su2[k] _ _ wr.drew.drew hd (by omega) h2 HPj.out HPk.out (IsSh.keep (Keeps.of_below Bw2.out.drew) _ _ L4.out) (IsSh.keep (Keeps.of_below Bw2.out.drew) _ _ K4.out)).mono ?_; rintro e w3 ⟨rfl, hb3⟩; have B1 := Lib.hid (show Below wr.drew.heap.size wr.drew w3 from (Below.refl _ wr.drew).drew.trans hb3); rw [HU.out]; clear hb3))
          all_goals
            have HB3 : Hid (Below w2.heap.size w2 w3) := HB2.out.trans (B1.out.mono HB2.out.size)
            cases U with
            | none =>
              have HF := Lib.hid ((first_none HLt.out HLU.out).symm.trans HK.out)
              simp only [Option.isSome_none]
              go_wp2_with fail
              go_roundw
              case rel => exact ⟨k + 1, hlt, by go_num, HB3.out, HF.out⟩
              case measure => simp [intOf]; omega
            | some x =>
              have HF : Hid (.mk 7 0 ⟨#[]⟩ ((blanks su).set j x) = y) := Option.some.inj ((first_some HLt.out HLU.out).symm.trans HK.out)
              simp only [Option.isSome_some]
              have Bw3 := Lib.hid (B2.out.trans (HB3.out.mono B2.out.size))
              have hjb : j < (blanks su).length := by rw [blanks_len]; exact hj
              obtain ⟨g, rfl, hgB, hgz⟩ := own_ptr O2.out (by omega)
              obtain ⟨x0, x1, x2, x3, _, _, _, _, xz⟩ := blk4 (blk_below P1.out HB3.out (by omega))
              obtain ⟨y0, y1, y2, y3, _, _, _, _, yz⟩ := blk4 (blk_below P2.out HB3.out (by omega))
              obtain ⟨vv0, vv1, vv2, vv3, _, _, _, _, vvz⟩ := blk4 (blk_below P4.out HB3.out (by omega))
              have hs3 := HB3.out.size
              have HKp := Keeps.of_below Bw3.out
              have HSK3 : Hid (∀ w', Below W.heap.size w3 w' → (w'.cell? ⟨w.heap.size, 3, none⟩ = some (.slice (some ⟨a, aff, none⟩) su.length m3) ∧ w'.cell? ⟨w.heap.size + 1, 3, none⟩ = some (.slice (some ⟨b, off, none⟩) su2.length j3) ∧ w'.cell? ⟨a, aff + j * 4, none⟩ = some (.int .i64 su[j].kd) ∧ w'.cell? ⟨a, aff + j * 4 + 1, none⟩ = some (.slice a1 v1 z1) ∧ w'.cell? ⟨a, aff + j * 4 + 2, none⟩ = some (.slice a2 v2 z2) ∧ w'.cell? ⟨a, aff + j * 4 + 3, none⟩ = some (.slice a3 v3 z3) ∧ w'.cell? ⟨b, off + k * 4, none⟩ = some (.int .i64 su2[k].kd) ∧ w'.cell? ⟨b, off + k * 4 + 1, none⟩ = some (.slice t1 u1 y1') ∧ w'.cell? ⟨b, off + k * 4 + 2, none⟩ = some (.slice t2 u2 y2') ∧ w'.cell? ⟨b, off + k * 4 + 3, none⟩ = some (.slice t3 u3 y3') ∧ w'.cell? ⟨w.heap.size + 1 + 1 + 1, 3, none⟩ = some (.slice (some ⟨g, 0, none⟩) (blanks su).length c3))) := fun w' hb => by
                have kk : ∀ b o c, b < W.heap.size → w3.cell? ⟨b, o, none⟩ = some c → w'.cell? ⟨b, o, none⟩ = some c := fun b o c hlt hc => by rw [hb.cell (p := ⟨b, o, none⟩) hlt]; exact hc
                have h8 := HSK2.out w3 B1.out
                have hza := HZa.out.1
                have hzb := HZa.out.2
                exact ⟨kk _ _ _ (by omega) h8.1, kk _ _ _ (by omega) h8.2.1, kk _ _ _ (by omega) h8.2.2.1, kk _ _ _ (by omega) h8.2.2.2.1, kk _ _ _ (by omega) h8.2.2.2.2.1, kk _ _ _ (by omega) h8.2.2.2.2.2.1, kk _ _ _ (by omega) h8.2.2.2.2.2.2.1, kk _ _ _ (by omega) h8.2.2.2.2.2.2.2.1, kk _ _ _ (by omega) h8.2.2.2.2.2.2.2.2.1, kk _ _ _ (by omega) h8.2.2.2.2.2.2.2.2.2, kk _ _ _ (by omega) vv3⟩
              clear x0 x1 x2 x3 xz y0 y1 y2 y3 yz vv0 vv1 vv2 vv3 vvz HKp
              have hjl : (j : Int) < ((blanks su).length : Int) := by omega
              go_upto_region 23 with fail
              go_region_held3 (fun w' => w'.cell? ⟨w.heap.size, 3, none⟩ = some (.slice (some ⟨a, aff, none⟩) su.length m3) ∧ w'.cell? ⟨w.heap.size + 1, 3, none⟩ = some (.slice (some ⟨b, off, none⟩) su2.length j3) ∧ w'.cell? ⟨a, aff + j * 4, none⟩ = some (.int .i64 su[j].kd) ∧ w'.cell? ⟨a, aff + j * 4 + 1, none⟩ = some (.slice a1 v1 z1) ∧ w'.cell? ⟨a, aff + j * 4 + 2, none⟩ = some (.slice a2 v2 z2) ∧ w'.cell? ⟨a, aff + j * 4 + 3, none⟩ = some (.slice a3 v3 z3) ∧ w'.cell? ⟨b, off + k * 4, none⟩ = some (.int .i64 su2[k].kd) ∧ w'.cell? ⟨b, off + k * 4 + 1, none⟩ = some (.slice t1 u1 y1') ∧ w'.cell? ⟨b, off + k * 4 + 2, none⟩ = some (.slice t2 u2 y2') ∧ w'.cell? ⟨b, off + k * 4 + 3, none⟩ = some (.slice t3 u3 y3') ∧ w'.cell? ⟨w.heap.size + 1 + 1 + 1, 3, none⟩ = some (.slice (some ⟨g, 0, none⟩) (blanks su).length c3))
                (first
                  | exact HSK3.out _ (Below.refl _ w3).drew
                  | exact HSK3.out _ BB4.out
                  | exact HSK3.out _ BB5.out)
                (first
                  | (go_at_call 26; refine (IH.out d1 d2 su[j] su2[k] x _ _ w3.drew hd (by omega) h2 HPj.out HPk.out (IsSh.keep (Keeps.of_below Bw3.out.drew) _ _ L4.out) (IsSh.keep (Keeps.of_below Bw3.out.drew) _ _ K4.out) HU.out).mono ?_; rintro e w4 ⟨i0, i1, i2, i3, F1, rfl, ho4, hn4, hb4⟩; obtain ⟨r3, z4, rfl, rfl, rfl, rfl⟩ := (OwnVa.is _ _ _ ho4).cells; have B4 := Lib.hid (show Below w3.heap.size w3 w4 from (Below.refl _ w3).drew.trans hb4); have BB4 := Lib.hid (B4.out.mono (show W.heap.size ≤ w3.heap.size by omega)); have hB24 := Lib.hid (HB3.out.trans (B4.out.mono hs3)); obtain ⟨g', hg', _, hgz4, _, hgc, hm1, hm2, F', ho5, hn5, hF5⟩ := own_put (B := w.heap.size) (j := j) (OwnVa.move (by omega) _ _ _ (fun q hq => hB24.out.block q (OwnVa.blocks _ _ _ O2.out q hq).2) O2.out) Nd.out (OwnVa.move (show w.heap.size ≤ w3.drew.heap.size by show w.heap.size ≤ w3.heap.size; omega) _ _ _ (fun _ _ => rfl) ho4) hn4 (fun q hq q' hq' => by have h1 := (OwnVa.blocks _ _ _ O2.out q hq).2; have h2 : w3.heap.size ≤ q' := (OwnVa.blocks _ _ _ ho4 q' hq').1; omega) hjb; obtain rfl : g = g' := (congrArg Addr.block (Option.some.inj hg')); have HF5 := Lib.hid (fun q hq => by have h := hF5 q hq; exact (show q ∈ F ∨ w3.heap.size ≤ q from h.imp id fun h => (OwnVa.blocks _ _ _ ho4 q h).1)); have HO5 := Lib.hid ho5; have HN5 := Lib.hid hn5; obtain ⟨⟨u0, h00⟩, h01⟩ := hgc 0 (by omega); obtain ⟨⟨u1', h10⟩, h11⟩ := hgc 1 (by omega); obtain ⟨⟨u2', h20⟩, h21⟩ := hgc 2 (by omega); obtain ⟨⟨u3', h30⟩, h31⟩ := hgc 3 (by omega); rw [Nat.add_zero] at h00 h01; have BB5 := Lib.hid ((((BB4.out.setCell (p := ⟨g, j * 4, none⟩) hgB (.int .i64 x.kd)).setCell (p := ⟨g, j * 4 + 1, none⟩) hgB (.int .i64 x.nn)).setCell (p := ⟨g, j * 4 + 2, none⟩) hgB (.string x.tx)).setCell (p := ⟨g, j * 4 + 3, none⟩) hgB (.slice r3 x.it.length z4)); clear ho4 hn4 hb4 ho5 hn5 hF5 hgc hg'))
              all_goals
                obtain ⟨w5, hw5⟩ : ∃ w5, w5 = (((w4.setCell ⟨g, j * 4, none⟩ (.int .i64 x.kd)).setCell ⟨g, j * 4 + 1, none⟩ (.int .i64 x.nn)).setCell ⟨g, j * 4 + 2, none⟩ (.string x.tx)).setCell ⟨g, j * 4 + 3, none⟩ (.slice r3 x.it.length z4) := ⟨_, rfl⟩
                rw [← hw5] at HO5 BB5 ⊢
                have R5 := blk_below (w := w3) (blk_below P3.out HB3.out (by omega)) BB5.out (by omega)
                have V5 := blk_below (w := w3) (blk_below P4.out HB3.out (by omega)) BB5.out (by omega)
                obtain ⟨r0, r1, r2, rr3, _, _, _, _, rz⟩ := blk4 R5
                obtain ⟨vv0, vv1, vv2, vv3, _, _, _, _, vvz⟩ := blk4 V5
                have B5 : Hid (Below w.heap.size w w5) := Bw3.out.trans (BB5.out.mono (by omega))
                have HFn : Hid (∀ q ∈ F', q ≠ w.heap.size + 1 + 1) := fun q hq => by
                  rcases HF5.out q hq with h | h
                  · have := OwnVa.blocks _ _ _ O2.out q h; omega
                  · omega
                clear R5 V5 h00 h01 h10 h11 h20 h21 h30 h31 hw5
                go_wp2_with fail
                refine bodyPost_ret (v := .agg #[.int .i64 7, .int .i64 0, .string ⟨#[]⟩, .slice (some ⟨g, 0, none⟩) (blanks su).length c3]) (by simp [results, Try.results26, go_sem, r0, r1, r2, rr3]) rfl ?_
                rw [← HF.out]
                exact va_end B5.out (by omega) HO5.out HFn.out HN5.out
    · obtain rfl : k = na2.length := by omega
      exact absurd HK.out (by rw [List.drop_of_length_le (by rw [HLen.out]; exact Nat.le_refl _)]; unfold firstW; simp)
end Go.Proofs.Ytbpidhlpakobiaa
