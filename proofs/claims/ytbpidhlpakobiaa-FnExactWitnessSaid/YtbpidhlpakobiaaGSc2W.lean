/- Walks: spec.l05Can, at words and at records. -/
import Derived.Test.YtbpidhlpakobiaaGSc1W
import Derived.Test.YtbpidhlpakobiaaGRt1W
import Derived.Test.YtbpidhlpakobiaaGRm3W
namespace Go.Proofs.Ytbpidhlpakobiaa
open Go.RowKit

set_option maxRecDepth 100000 in
set_option maxHeartbeats 1000000 in
theorem sc_pick (n : Nat) (w : World) (wt rt : Sh) (sy kn : List ByteArray) (p1 p2 p3 q1 q2 q3 : Option Addr) (n2 n3 m1 m2 m3 i2 i3 j1 j2 j3 : Nat) (hk : wt.kd = 4) (hk' : rt.kd = 4) (hsy : wt.sy = sy) (hkn : rt.sy = kn) (hs1 : IsStrs w (.slice p1 sy.length m1) sy) (hs2 : IsStrs w (.slice q1 kn.length j1) kn) :
    Calls Try.prog 19 #[.agg #[.int .i64 4, .slice p1 sy.length m1, .slice p2 n2 m2, .slice p3 n3 m3], .agg #[.int .i64 4, .slice q1 kn.length j1, .slice q2 i2 j2, .slice q3 i3 j3]] w fun e w' => e = .returned (.bool (!(wnB (n + 1) wt rt).isSome)) ∧ Below w.heap.size w w' := by
  have hU := wn_pick (n := n) (w := wt) (r := rt) hk hk'
  rw [hsy, hkn] at hU
  obtain ⟨R, hR⟩ : ∃ R, pickW sy kn = R := ⟨_, rfl⟩
  rw [hU, hR]
  have HR : Hid (pickW (sy.drop 0) kn = R) := hR
  have HS2 := Lib.hid hs2
  obtain ⟨h1, h2, a, cap, he, h3, h4, h6⟩ := hs1
  simp only [Value.slice.injEq] at he
  obtain ⟨rfl, _, rfl⟩ := he
  have H6 := Lib.hid h6
  obtain ⟨W, hW⟩ : ∃ W, W = (w.alloc (.cells #[.int .i64 4, .slice p1 sy.length m1, .slice p2 n2 m2, .slice p3 n3 m3] 30)).alloc (.cells #[.int .i64 4, .slice q1 kn.length j1, .slice q2 i2 j2, .slice q3 i3 j3] 30) := ⟨_, rfl⟩
  have HN := two_new w (.cells #[.int .i64 4, .slice p1 sy.length m1, .slice p2 n2 m2, .slice p3 n3 m3] 30) (.cells #[.int .i64 4, .slice q1 kn.length j1, .slice q2 i2 j2, .slice q3 i3 j3] 30)
  have hbw : Below w.heap.size w W := by rw [hW]; exact (below_alloc w _).alloc (by simp) _
  have hz : W.heap.size = w.heap.size + 1 + 1 := by rw [hW]; simp
  rw [← hW] at HN
  have HZ := Lib.hid hz
  have BW := Lib.hid hbw
  have HW := Lib.hid hW
  have N1 := Lib.hid HN.1
  have N2 := Lib.hid HN.2
  clear HN hbw hz hW hk hk' hsy hkn hU hR hs2 h6 h2
  go_enter Try.func19, Try.ntmps19
  go_wp2_with fail
  rw [← HW.out]
  go_loopw [5] (fun i wr => ∃ k : Nat, k ≤ sy.length ∧ i = .int .i64 k ∧ Hid (Below W.heap.size W wr) ∧ Hid (pickW (sy.drop k) kn = R)) (fun i _ => sy.length - (intOf i).toNat)
  case atStart => exact ⟨0, Nat.zero_le _, rfl, Below.refl _ _, HR.out⟩
  case round =>
    obtain ⟨k, hk, rfl, HB, HK⟩ := hrel
    have Bw := Lib.hid (BW.out.trans (HB.out.mono BW.out.size))
    obtain ⟨x0, x1, x2, x3, _, _, _, _, xz⟩ := blk4 (blk_below N1.out HB.out (blk4 N1.out).2.2.2.2.2.2.2.2)
    obtain ⟨y0, y1, y2, y3, _, _, _, _, yz⟩ := blk4 (blk_below N2.out HB.out (blk4 N2.out).2.2.2.2.2.2.2.2)
    by_cases hlt : k < sy.length
    · obtain ⟨b, off, rfl, hc⟩ := IsStrs.at H6.out hlt
      have hc' := Keeps.of_below Bw.out _ _ _ hc
      have HSK : Hid (∀ w', Below wr.heap.size wr w' → (w'.cell? ⟨w.heap.size, 1, none⟩ = some (.slice (some ⟨b, off, none⟩) sy.length m1) ∧ w'.cell? ⟨w.heap.size + 1, 1, none⟩ = some (.slice q1 kn.length j1) ∧ w'.cell? ⟨b, off + k, none⟩ = some (.string sy[k]))) := fun w' hb =>
        ⟨Keeps.of_below hb _ _ _ x1, Keeps.of_below hb _ _ _ y1, Keeps.of_below hb _ _ _ hc'⟩
      obtain ⟨p, hp⟩ : ∃ p, posOf kn sy[k] = p := ⟨_, rfl⟩
      have HP := Lib.hid hp
      clear hc hc' hp
      go_upto_region 9 with fail
      go_region_held3 (fun w' => w'.cell? ⟨w.heap.size, 1, none⟩ = some (.slice (some ⟨b, off, none⟩) sy.length m1) ∧ w'.cell? ⟨w.heap.size + 1, 1, none⟩ = some (.slice q1 kn.length j1) ∧ w'.cell? ⟨b, off + k, none⟩ = some (.string sy[k]))
        (first
          | exact HSK.out _ (Below.refl _ wr).drew)
        (first
          | (go_at_call 33; refine (at_is _ kn sy[k] p HP.out wr.drew (HS2.out.keep (Keeps.of_below Bw.out.drew))).mono ?_; rintro e w' ⟨rfl, rfl⟩))
      all_goals
        have HB2 : Hid (Below W.heap.size W wr.drew) := HB.out.drew
        by_cases hpn : p < 0
        · have hno : hasB kn sy[k] = false := by unfold hasB; rw [HP.out]; simpa using hpn
          have HF := Lib.hid ((pickW_at hlt hno).symm.trans HK.out)
          clear hno
          go_wp2_with fail
          go_ret
          exact ⟨ret_bool (by rw [← HF.out]; rfl), Bw.out.drew⟩
        · have hyes : hasB kn sy[k] = true := by unfold hasB; rw [HP.out]; simpa using hpn
          have HF := Lib.hid ((pickW_drop hlt hyes).symm.trans HK.out)
          clear hyes
          go_wp2_with fail
          go_roundw
          case rel => exact ⟨k + 1, hlt, by go_num, HB2.out, HF.out⟩
          case measure => simp [intOf]; omega
    · obtain rfl : k = sy.length := by omega
      have HF : Hid (none = R) := by show _ = _; rw [← HK.out, List.drop_length]; rfl
      go_wp2_with fail
      go_ret
      exact ⟨ret_bool (by rw [← HF.out]; rfl), Bw.out⟩

set_option maxRecDepth 100000 in
set_option maxHeartbeats 2000000 in
theorem sc_rec (n : Nat) (ih : ScAt n) (w : World) (d1 d2 : Nat) (na : List ByteArray) (su : List Sh) (na2 : List ByteArray) (su2 : List Sh) (vw vr : Value) (hd : d1 + d2 ≤ n) (h1 : d1 ≤ 5) (h2 : d2 ≤ 5) (hps : su.all (partOk d1) = true) (hl : su.length = na.length) (hl2 : su2.length = na2.length) (hpr : su2.all (partOk d2) = true) (hw : IsSh w (.mk 7 [] na su) vw) (hr : IsSh w (.mk 7 [] na2 su2) vr) :
    Calls Try.prog 19 #[vw, vr] w fun e w' => e = .returned (.bool (!(wnB (n + 1) (.mk 7 [] na su) (.mk 7 [] na2 su2)).isSome)) ∧ Below w.heap.size w w' := by
  have hU := wn_rec (n := n) (w := .mk 7 [] na su) (r := .mk 7 [] na2 su2) rfl rfl
  obtain ⟨L, hL⟩ : ∃ L, L = (na2.zip su2).map fun p => fieldW (wnB n) (.mk 7 [] na su) p.1 p.2 := ⟨_, rfl⟩
  have hU' : wnB (n + 1) (.mk 7 [] na su) (.mk 7 [] na2 su2) = firstW L := by rw [hU, hL]; rfl
  have HLen : Hid (L.length = na2.length) := by show _ = _; rw [hL, List.length_map, List.length_zip]; omega
  have HLat : Hid (∀ (k : Nat) (h : k < L.length) (h1 : k < na2.length) (h2 : k < su2.length), L[k] = fieldW (wnB n) (.mk 7 [] na su) na2[k] su2[k]) := fun k h h1 h2 => by subst hL; simp
  obtain ⟨R, hR⟩ : ∃ R, firstW L = R := ⟨_, rfl⟩
  rw [hU', hR]
  have HR : Hid (firstW (L.drop 0) = R) := hR
  obtain ⟨p1, m1, p2, m2, p3, m3, rfl, _, _, s2, s3⟩ := hw.open
  have S2 := Lib.hid s2
  obtain ⟨q1, j1, q2, j2, q3, j3, rfl, _, _, r2, r3⟩ := hr.open
  obtain ⟨_, hs8, a2', cap2, e2, g2a, g2b, g2⟩ := r2
  simp only [Value.slice.injEq] at e2
  obtain ⟨rfl, _, rfl⟩ := e2
  obtain ⟨a3', cap3, e3, g3a, g3b, g3⟩ := r3
  simp only [Value.slice.injEq] at e3
  obtain ⟨rfl, _, rfl⟩ := e3
  obtain ⟨a4', cap4, e4, g4a, g4b, g4⟩ := s3
  simp only [Value.slice.injEq] at e4
  obtain ⟨rfl, _, rfl⟩ := e4
  have H2 := Lib.hid g2
  have H3 := Lib.hid g3
  have H4 := Lib.hid g4
  have HL := Lib.hid hl
  have HL2 := Lib.hid hl2
  have HPS := Lib.hid hps
  have HPR := Lib.hid hpr
  have IH := Lib.hid ih
  obtain ⟨W, hW⟩ : ∃ W, W = (w.alloc (.cells #[.int .i64 7, .slice p1 0 m1, .slice p2 na.length m2, .slice p3 su.length m3] 30)).alloc (.cells #[.int .i64 7, .slice q1 0 j1, .slice q2 na2.length j2, .slice q3 su2.length j3] 30) := ⟨_, rfl⟩
  have HN := two_new w (.cells #[.int .i64 7, .slice p1 0 m1, .slice p2 na.length m2, .slice p3 su.length m3] 30) (.cells #[.int .i64 7, .slice q1 0 j1, .slice q2 na2.length j2, .slice q3 su2.length j3] 30)
  have hbw : Below w.heap.size w W := by rw [hW]; exact (below_alloc w _).alloc (by simp) _
  have hz : W.heap.size = w.heap.size + 1 + 1 := by rw [hW]; simp
  rw [← hW] at HN
  have HZ := Lib.hid hz
  have BW := Lib.hid hbw
  have HW := Lib.hid hW
  have N1 := Lib.hid HN.1
  have N2 := Lib.hid HN.2
  clear HN hbw hz hW hL hU hU' hR s2 hw hr g2 g3 g4 hl hl2 hps hpr ih hs8
  go_enter Try.func19, Try.ntmps19
  go_wp2_with fail
  rw [← HW.out]
  go_loopw [6] (fun i wr => ∃ k : Nat, k ≤ na2.length ∧ i = .int .i64 k ∧ Hid (Below W.heap.size W wr) ∧ Hid (firstW (L.drop k) = R)) (fun i _ => na2.length - (intOf i).toNat)
  case atStart => exact ⟨0, Nat.zero_le _, rfl, Below.refl _ _, HR.out⟩
  case round =>
    obtain ⟨k, hk, rfl, HB, HK⟩ := hrel
    have Bw := Lib.hid (BW.out.trans (HB.out.mono BW.out.size))
    obtain ⟨x0, x1, x2, x3, _, _, _, _, xz⟩ := blk4 (blk_below N1.out HB.out (blk4 N1.out).2.2.2.2.2.2.2.2)
    obtain ⟨y0, y1, y2, y3, _, _, _, _, yz⟩ := blk4 (blk_below N2.out HB.out (blk4 N2.out).2.2.2.2.2.2.2.2)
    by_cases hlt : k < na2.length
    · have hlt2 : k < su2.length := by rw [HL2.out]; exact hlt
      have HLt : Hid (k < L.length) := by show _ < _; rw [HLen.out]; exact hlt
      obtain ⟨bn, offn, rfl, hc⟩ := IsStrs.at H2.out hlt
      have hc' := Keeps.of_below Bw.out _ _ _ hc
      have HSK : Hid (∀ w', Below wr.heap.size wr w' → (w'.cell? ⟨w.heap.size, 2, none⟩ = some (.slice p2 na.length m2) ∧ w'.cell? ⟨w.heap.size + 1, 2, none⟩ = some (.slice (some ⟨bn, offn, none⟩) na2.length j2) ∧ w'.cell? ⟨bn, offn + k, none⟩ = some (.string na2[k]))) := fun w' hb =>
        ⟨Keeps.of_below hb _ _ _ x2, Keeps.of_below hb _ _ _ y2, Keeps.of_below hb _ _ _ hc'⟩
      obtain ⟨p, hp⟩ : ∃ p, posOf na na2[k] = p := ⟨_, rfl⟩
      have HP := Lib.hid hp
      have hlo := posOf_lo na na2[k]
      have hhi := posOf_lt na na2[k]
      rw [hp] at hlo hhi
      have HLk := Lib.hid (HLat.out k HLt.out hlt hlt2)
      clear hc hc' hp
      go_upto_region 17 with fail
      clear x0 x1 x2 x3 xz y0 y1 y2 y3 yz
      go_cut [7] (fun x wc => x = .int .i64 p ∧ wc = wr.drew)
      case first =>
        go_region_held3 (fun w' => w'.cell? ⟨w.heap.size, 2, none⟩ = some (.slice p2 na.length m2) ∧ w'.cell? ⟨w.heap.size + 1, 2, none⟩ = some (.slice (some ⟨bn, offn, none⟩) na2.length j2) ∧ w'.cell? ⟨bn, offn + k, none⟩ = some (.string na2[k]))
          (first
            | exact HSK.out _ (Below.refl _ wr).drew)
          (first
            | (go_at_call 33; refine (at_is _ na na2[k] p HP.out wr.drew (S2.out.keep (Keeps.of_below Bw.out.drew))).mono ?_; rintro e w' ⟨rfl, rfl⟩))
        all_goals
          go_wp2_with fail
          go_meet
          exact ⟨rfl, rfl⟩
      case rest =>
        obtain ⟨rfl, rfl⟩ := hcut
        have HB2 : Hid (Below W.heap.size W wr.drew) := HB.out.drew
        have Bw2 := Lib.hid (BW.out.trans (HB2.out.mono BW.out.size))
        by_cases hpn : p < 0
        · obtain rfl : p = -1 := by omega
          have hno : fieldW (wnB n) (.mk 7 [] na su) na2[k] su2[k] = none := by unfold fieldW; rw [show (Sh.mk 7 [] na su).na = na from rfl, HP.out, if_neg (by omega)]
          have HF := Lib.hid ((first_none HLt.out (HLk.out.trans hno)).symm.trans HK.out)
          clear hno hlo hhi
          go_upto_region 18 with fail
          go_quiet (fail)
          go_wp2_with fail
          go_roundw
          case rel => exact ⟨k + 1, hlt, by go_num, below_drewN HB.out _, HF.out⟩
          case measure => simp [intOf]; omega
        · obtain ⟨j, rfl⟩ := Int.eq_ofNat_of_zero_le (show 0 ≤ p by omega)
          have hj : j < su.length := by rw [HL.out]; omega
          obtain ⟨a, aff, rfl, e0', e1', e2', e3', l0, l1, l2, l3, l4⟩ := IsShs.at H4.out hj
          obtain ⟨a1, v1, z1, a2, v2, z2, a3, v3, z3, rfl, rfl, rfl, rfl⟩ := l4.cells
          obtain ⟨b, off, rfl, d0', d1', d2', d3', k0, k1, k2, k3, k4⟩ := IsShs.at H3.out hlt2
          obtain ⟨t1, u1, y1', t2, u2, y2', t3, u3, y3', rfl, rfl, rfl, rfl⟩ := k4.cells
          have L4 := Lib.hid l4
          have K4 := Lib.hid k4
          have HPj := Lib.hid (List.all_eq_true.1 HPS.out su[j] (List.getElem_mem hj))
          have HPk := Lib.hid (List.all_eq_true.1 HPR.out su2[k] (List.getElem_mem hlt2))
          obtain ⟨x0, x1, x2, x3, _, _, _, _, xz⟩ := blk4 (blk_below N1.out HB2.out (blk4 N1.out).2.2.2.2.2.2.2.2)
          obtain ⟨y0, y1, y2, y3, _, _, _, _, yz⟩ := blk4 (blk_below N2.out HB2.out (blk4 N2.out).2.2.2.2.2.2.2.2)
          have HKp := Keeps.of_below Bw2.out
          have HSK2 : Hid (∀ w', Below wr.drew.heap.size wr.drew w' → (w'.cell? ⟨w.heap.size, 3, none⟩ = some (.slice (some ⟨a, aff, none⟩) su.length m3) ∧ w'.cell? ⟨w.heap.size + 1, 3, none⟩ = some (.slice (some ⟨b, off, none⟩) su2.length j3) ∧ w'.cell? ⟨a, aff + j * 4, none⟩ = some (.int .i64 su[j].kd) ∧ w'.cell? ⟨a, aff + j * 4 + 1, none⟩ = some (.slice a1 v1 z1) ∧ w'.cell? ⟨a, aff + j * 4 + 2, none⟩ = some (.slice a2 v2 z2) ∧ w'.cell? ⟨a, aff + j * 4 + 3, none⟩ = some (.slice a3 v3 z3) ∧ w'.cell? ⟨b, off + k * 4, none⟩ = some (.int .i64 su2[k].kd) ∧ w'.cell? ⟨b, off + k * 4 + 1, none⟩ = some (.slice t1 u1 y1') ∧ w'.cell? ⟨b, off + k * 4 + 2, none⟩ = some (.slice t2 u2 y2') ∧ w'.cell? ⟨b, off + k * 4 + 3, none⟩ = some (.slice t3 u3 y3'))) := fun w' hb =>
            have hk := Keeps.of_below hb
            ⟨hk _ _ _ x3, hk _ _ _ y3, hk _ _ _ (HKp _ _ _ l0), hk _ _ _ (HKp _ _ _ l1), hk _ _ _ (HKp _ _ _ l2), hk _ _ _ (HKp _ _ _ l3), hk _ _ _ (HKp _ _ _ k0), hk _ _ _ (HKp _ _ _ k1), hk _ _ _ (HKp _ _ _ k2), hk _ _ _ (HKp _ _ _ k3)⟩
          obtain ⟨U, hU⟩ : ∃ U, wnB n su[j] su2[k] = U := ⟨_, rfl⟩
          have hge : decide ((0 : Int) ≤ (j : Int)) = true := by simp
          have HU := Lib.hid hU
          have hLk : L[k]'HLt.out = U.map fun x => .mk 7 0 ⟨#[]⟩ ((blanks su).set j x) := by
            rw [HLk.out]; unfold fieldW
            rw [show (Sh.mk 7 [] na su).na = na from rfl, show (Sh.mk 7 [] na su).su = su from rfl, HP.out, if_pos (by omega), show ((j : Int)).toNat = j from rfl, getD_eq hj, hU]
          have HLU := Lib.hid hLk
          clear x0 x1 x2 x3 xz y0 y1 y2 y3 yz HKp l0 l1 l2 l3 l4 k0 k1 k2 k3 k4 hU hlo hhi hLk
          go_upto_region 18 with fail
          go_region_held3 (fun w' => w'.cell? ⟨w.heap.size, 3, none⟩ = some (.slice (some ⟨a, aff, none⟩) su.length m3) ∧ w'.cell? ⟨w.heap.size + 1, 3, none⟩ = some (.slice (some ⟨b, off, none⟩) su2.length j3) ∧ w'.cell? ⟨a, aff + j * 4, none⟩ = some (.int .i64 su[j].kd) ∧ w'.cell? ⟨a, aff + j * 4 + 1, none⟩ = some (.slice a1 v1 z1) ∧ w'.cell? ⟨a, aff + j * 4 + 2, none⟩ = some (.slice a2 v2 z2) ∧ w'.cell? ⟨a, aff + j * 4 + 3, none⟩ = some (.slice a3 v3 z3) ∧ w'.cell? ⟨b, off + k * 4, none⟩ = some (.int .i64 su2[k].kd) ∧ w'.cell? ⟨b, off + k * 4 + 1, none⟩ = some (.slice t1 u1 y1') ∧ w'.cell? ⟨b, off + k * 4 + 2, none⟩ = some (.slice t2 u2 y2') ∧ w'.cell? ⟨b, off + k * 4 + 3, none⟩ = some (.slice t3 u3 y3'))
            (first
              | exact HSK2.out _ (Below.refl _ wr.drew).drew
              | exact HSK2.out _ B1.out)
            (first
              | (go_at_call 19; refine (IH.out d1 d2 su[j] su2[k] _ _ wr.drew.drew hd h1 h2 HPj.out HPk.out (IsSh.keep (Keeps.of_below Bw2.out.drew) _ _ L4.out) (IsSh.keep (Keeps.of_below Bw2.out.drew) _ _ K4.out)).mono ?_; rintro e w1 ⟨rfl, hb1⟩; have B1 := Lib.hid (show Below wr.drew.heap.size wr.drew w1 from (Below.refl _ wr.drew).drew.trans hb1); rw [HU.out]; clear hb1))
          all_goals
            have HB3 : Hid (Below W.heap.size W w1) := HB2.out.trans (B1.out.mono HB2.out.size)
            cases U with
            | none =>
              have HF := Lib.hid ((first_none HLt.out HLU.out).symm.trans HK.out)
              simp only [Option.isSome_none]
              go_wp2_with fail
              go_roundw
              case rel => exact ⟨k + 1, hlt, by go_num, HB3.out, HF.out⟩
              case measure => simp [intOf]; omega
            | some y =>
              have HF := Lib.hid ((first_some HLt.out HLU.out).symm.trans HK.out)
              simp only [Option.isSome_some]
              go_wp2_with fail
              go_ret
              exact ⟨ret_bool (by rw [← HF.out]; rfl), BW.out.trans (HB3.out.mono BW.out.size)⟩
    · obtain rfl : k = na2.length := by omega
      have HF : Hid (none = R) := by show _ = _; rw [← HK.out, List.drop_of_length_le (by rw [HLen.out]; exact Nat.le_refl _)]; rfl
      go_wp2_with fail
      go_ret
      exact ⟨ret_bool (by rw [← HF.out]; rfl), Bw.out⟩
end Go.Proofs.Ytbpidhlpakobiaa
