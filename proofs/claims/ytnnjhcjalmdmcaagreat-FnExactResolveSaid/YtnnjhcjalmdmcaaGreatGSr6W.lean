/- Walks: spec.l05Resolve, at records. -/
import Derived.Test.YtnnjhcjalmdmcaaGreatGSrB
import Derived.Test.YtnnjhcjalmdmcaaGreatGBlank2W
import Derived.Test.YtnnjhcjalmdmcaaGreatGRm2W
namespace Go.Proofs.YtnnjhcjalmdmcaaGreat
open Go.RowKit

/-- A Val is put into a ValOut's block; the code stays. -/
theorem out_put4 {r : Va × Int} {w3 : World} {B b : Nat} {k : Option Addr} {o : Nat} {F : List Nat} {o0 o1 o2 o3 o4 : Value} (ho : OwnVa w3 B r.1 (.agg #[.int .i64 r.1.kd, .int .i64 r.1.nn, .string r.1.tx, .slice k r.1.it.length o]) F) (h2 : b < B) (hz : w3.heap[b]? = some (.cells #[o0, o1, o2, o3, o4] 33 (0, 0))) :
    (putQ w3 b (.int .i64 r.1.kd) (.int .i64 r.1.nn) (.string r.1.tx) (.slice k r.1.it.length o)).heap[b]? = some (.cells #[.int .i64 r.1.kd, .int .i64 r.1.nn, .string r.1.tx, .slice k r.1.it.length o, o4] 33 (0, 0)) ∧
    OwnVa (putQ w3 b (.int .i64 r.1.kd) (.int .i64 r.1.nn) (.string r.1.tx) (.slice k r.1.it.length o)) B r.1 (.agg #[.int .i64 r.1.kd, .int .i64 r.1.nn, .string r.1.tx, .slice k r.1.it.length o]) F ∧ b ∉ F := by
  have lt := OwnVa.blocks _ _ _ ho
  have a4 := blk_set (blk_set (blk_set (blk_set hz 0 (.int .i64 r.1.kd)) 1 (.int .i64 r.1.nn)) 2 (.string r.1.tx)) 3 (.slice k r.1.it.length o)
  refine ⟨by unfold putQ; simpa using a4, OwnVa.move (Nat.le_refl _) _ _ _ (fun g hg => ?_) ho, fun hm => by have := lt _ hm; omega⟩
  have hne : g ≠ b := by have := lt g hg; omega
  exact putQ_other _ _ _ _ _ _ hne

set_option maxRecDepth 100000 in
set_option maxHeartbeats 8000000 in
theorem sr_rec (n : Nat) (ih : SrAt n) (w : World) (d1 d2 : Nat) (na : List ByteArray) (su : List Sh) (na2 : List ByteArray) (su2 : List Sh) (u : Va) (vw vr v : Value) (hd : d1 + d2 ≤ n) (h1 : d1 ≤ 5) (h2 : d2 ≤ 5) (hps : su.all (partOk d1) = true) (hl : su.length = na.length) (hl2 : su2.length = na2.length) (h6' : na2.length ≤ 6) (hpr : su2.all (partOk d2) = true) (hw : IsSh w (.mk 7 [] na su) vw) (hr : IsSh w (.mk 7 [] na2 su2) vr) (hv : IsVa w u v) (hf : fitZip su u.it = true) :
    Calls Tryz.prog 38 #[vw, vr, v] w (RdPost (rdB (n + 1) (.mk 7 [] na su) (.mk 7 [] na2 su2) u) w) := by
  rw [rd_rec rfl rfl, show (Sh.mk 7 [] na2 su2).na = na2 from rfl, show (Sh.mk 7 [] na2 su2).su = su2 from rfl]
  have HFa := Lib.hid hf
  obtain ⟨L, hL⟩ : ∃ L, ((na2.zip su2).map fun p => fieldR (rdB n) (.mk 7 [] na su) p.1 p.2 u) = L := ⟨_, rfl⟩
  have hLen : L.length = na2.length := by rw [← hL, List.length_map, List.length_zip]; omega
  have HLen := Lib.hid hLen
  have HLat : Hid (∀ (j : Nat) (h : j < L.length) (h1 : j < na2.length) (h2 : j < su2.length), L[j] = fieldR (rdB n) (.mk 7 [] na su) na2[j] su2[j] u) := fun j h h1 h2 => by subst hL; simp
  rw [hL]
  obtain ⟨R, hR⟩ : ∃ R, collR 7 [] L = R := ⟨_, rfl⟩
  rw [hR]
  have HR : Hid (collR 7 [] (L.drop 0) = R) := hR
  have h6 : L.length ≤ 6 := by omega
  obtain ⟨p1, m1, p2, m2, p3, m3, rfl, _, _, s2, s3⟩ := hw.open
  have S2 := Lib.hid s2
  obtain ⟨q1, j1, q2, j2, q3, j3, rfl, _, _, r2, r3⟩ := hr.open
  obtain ⟨_, hs8, a2', cap2, e2, g2a, g2b, g2⟩ := r2
  simp only [Value.slice.injEq] at e2
  obtain ⟨rfl, _, rfl⟩ := e2
  obtain ⟨a3', cap3, e3, g3a, g3b, g3⟩ := r3
  simp only [Value.slice.injEq] at e3
  obtain ⟨rfl, _, rfl⟩ := e3
  obtain ⟨a4', cap4, e4, g4a, g4b, g4⟩ := s3
  simp only [Value.slice.injEq] at e4
  obtain ⟨rfl, _, rfl⟩ := e4
  have H2 := Lib.hid g2
  have H3 := Lib.hid g3
  have H4 := Lib.hid g4
  have HL := Lib.hid hl
  have HL2 := Lib.hid hl2
  obtain ⟨pv, m, rfl⟩ := hv.agg
  have HIts := Lib.hid hv.items
  obtain ⟨W, hW, hbw, hz, HN1, HN2, HN3, HN4, HN5⟩ := five_new w (.cells #[.int .i64 7, .slice p1 0 m1, .slice p2 na.length m2, .slice p3 su.length m3] 26) (.cells #[.int .i64 7, .slice q1 0 j1, .slice q2 na2.length j2, .slice q3 su2.length j3] 26) (.cells #[.int .i64 u.kd, .int .i64 u.nn, .string u.tx, .slice pv u.it.length m] 29) (.cells #[.int .i64 0, .int .i64 0, .string ⟨#[]⟩, .slice none 0 0, .int .i64 0] 33) (.cells #[.int .i64 7, .int .i64 0, .string ⟨#[]⟩, .slice none 0 0] 29)
  have HI0 : Hid (RwInv W W (w.heap.size + 1 + 1 + 1 + 1) 7 [] 0 none 0 [] []) := RwInv.nil HN5
  have N1 := Lib.hid HN1
  have N2 := Lib.hid HN2
  have N3 := Lib.hid HN3
  have N4 := Lib.hid HN4
  have HZ := Lib.hid hz
  have BW := Lib.hid hbw
  have HW := Lib.hid hW
  have HPS := Lib.hid hps
  have HPR := Lib.hid hpr
  have IH := Lib.hid ih
  clear HN1 HN2 HN3 HN4 HN5 hz hbw hW hw hr hv s2 g2 g3 g4 hl hl2 hps hpr ih hL hLen hR hf hs8
  go_enter Tryz.func38, Tryz.ntmps38
  go_wp2_with fail
  rw [← HW.out]
  go_loopw [10] (fun i wr => ∃ (j : Nat) (p : Option Addr) (cap : Nat) (cs : List Value) (F : List Nat) (its : List Va), j ≤ L.length ∧ i = .int .i64 j ∧ Hid (RwInv W wr (w.heap.size + 1 + 1 + 1 + 1) 7 its j p cap cs F) ∧ Hid (collR 7 its (L.drop j) = R)) (fun i _ => L.length - (intOf i).toNat)
  case atStart => exact ⟨0, none, 0, [], [], [], Nat.zero_le _, rfl, HI0.out, HR.out⟩
  case round =>
    obtain ⟨j, p, cap, cs, F, its, hj, rfl, HI, HJ⟩ := hrel
    have hz := HZ.out
    have h5 := HI.out.2.2.2.2.1
    have Bw : Hid (Below w.heap.size w wr) := BW.out.trans (h5.below BW.out.size (by simp; omega))
    have hs5 := h5.size
    have Rr := Lib.hid (show wr.heap[w.heap.size + 1 + 1 + 1]? = _ from (h5.block _ (by omega) (fun hx => by have := List.mem_singleton.1 hx; omega)).trans N4.out)
    have Q3 := Lib.hid (show wr.heap[w.heap.size + 1 + 1]? = _ from (h5.block _ (by omega) (fun hx => by have := List.mem_singleton.1 hx; omega)).trans N3.out)
    have Q2 := Lib.hid (show wr.heap[w.heap.size + 1]? = _ from (h5.block _ (by omega) (fun hx => by have := List.mem_singleton.1 hx; omega)).trans N2.out)
    have Q1 := Lib.hid (show wr.heap[w.heap.size]? = _ from (h5.block _ (by omega) (fun hx => by have := List.mem_singleton.1 hx; omega)).trans N1.out)
    have V4 := Lib.hid HI.out.1
    by_cases hlt : j < L.length
    · have hlt1 : j < na2.length := by have := HLen.out; omega
      have hlt2 : j < su2.length := by rw [HL2.out]; exact hlt1
      obtain ⟨r, hr⟩ : ∃ r, L[j] = r := ⟨_, rfl⟩
      have HLj := Lib.hid hr
      have HLk := Lib.hid (HLat.out j hlt hlt1 hlt2)
      obtain ⟨bn, offn, rfl, hc⟩ := IsStrs.at H2.out hlt1
      obtain ⟨W1, hW1⟩ : ∃ W1, W1 = wr.alloc (.cells #[.int .i64 0, .int .i64 0, .string ⟨#[]⟩, .slice none 0 0, .int .i64 0] 33) := ⟨_, rfl⟩
      have hbw1 : Below wr.heap.size wr W1 := by rw [hW1]; exact below_alloc _ _
      have N0' : Hid (W1.heap[wr.heap.size]? = some (.cells #[.int .i64 0, .int .i64 0, .string ⟨#[]⟩, .slice none 0 0, .int .i64 0] 33)) := by show _ = _; rw [hW1]; exact Go.Deep.blk_alloc_new _ _
      have HZ0 : Hid (wr.heap.size < W1.heap.size) := by show _ < _; rw [hW1]; simp
      have BW0 := Lib.hid hbw1
      have HW1 := Lib.hid hW1
      have BWw0 : Hid (Below w.heap.size w W1) := Bw.out.trans (hbw1.mono Bw.out.size)
      obtain ⟨x0, x1, x2, x3, _, _, _, _, xz⟩ := blk4 (blk_below Q1.out hbw1 (Array.getElem?_eq_some_iff.1 Q1.out).1)
      obtain ⟨y0, y1', y2', y3', _, _, _, _, yz⟩ := blk4 (blk_below Q2.out hbw1 (Array.getElem?_eq_some_iff.1 Q2.out).1)
      have hc' := Keeps.of_below BWw0.out _ _ _ hc
      have HSK : Hid (∀ w', Below W1.heap.size W1 w' → (w'.cell? ⟨w.heap.size, 2, none⟩ = some (.slice p2 na.length m2) ∧ w'.cell? ⟨w.heap.size + 1, 2, none⟩ = some (.slice (some ⟨bn, offn, none⟩) na2.length j2) ∧ w'.cell? ⟨bn, offn + j, none⟩ = some (.string na2[j]))) := fun w' hb =>
        ⟨Keeps.of_below hb _ _ _ x2, Keeps.of_below hb _ _ _ y2', Keeps.of_below hb _ _ _ hc'⟩
      obtain ⟨pp, hp⟩ : ∃ pp, posOf na na2[j] = pp := ⟨_, rfl⟩
      have HP := Lib.hid hp
      have hlo := posOf_lo na na2[j]
      have hhi := posOf_lt na na2[j]
      rw [hp] at hlo hhi
      have hjl1 : (j : Int) < (na2.length : Int) := by omega
      clear x0 x1 x2 x3 xz y1' y2' y3' hc hc' hp h5 hr hW1 hbw1 y0 yz
      obtain ⟨y0, _, _, _, _, _, _, _, yz⟩ := blk4 Q2.out
      go_upto_region 27 with fail
      rw [← HW1.out]
      clear y0 yz
      go_cut [12] (fun x wc => x = .int .i64 pp ∧ wc = W1.drew)
      case first =>
        go_region_held3 (fun w' => w'.cell? ⟨w.heap.size, 2, none⟩ = some (.slice p2 na.length m2) ∧ w'.cell? ⟨w.heap.size + 1, 2, none⟩ = some (.slice (some ⟨bn, offn, none⟩) na2.length j2) ∧ w'.cell? ⟨bn, offn + j, none⟩ = some (.string na2[j]))
          (first
            | exact HSK.out _ (Below.refl _ W1).drew)
          (first
            | (go_at_call 70; refine (at_is _ na na2[j] pp HP.out W1.drew (S2.out.keep (Keeps.of_below BWw0.out.drew))).mono ?_; rintro e w' ⟨rfl, rfl⟩))
        all_goals
          go_wp2_with fail
          go_meet
          exact ⟨rfl, rfl⟩
      case rest =>
        obtain ⟨rfl, rfl⟩ := hcut
        obtain ⟨W2, hW2⟩ : ∃ W2, W2 = W1.drew := ⟨_, rfl⟩
        have N1' : Hid (W2.heap[wr.heap.size]? = some (.cells #[.int .i64 0, .int .i64 0, .string ⟨#[]⟩, .slice none 0 0, .int .i64 0] 33)) := by show _ = _; rw [hW2]; exact N0'.out
        have HZ1 : Hid (wr.heap.size < W2.heap.size) := by show _ < _; rw [hW2]; exact HZ0.out
        have BW1 : Hid (Below wr.heap.size wr W2) := by show Below _ _ _; rw [hW2]; exact BW0.out.drew
        have BWw : Hid (Below w.heap.size w W2) := by show Below _ _ _; rw [hW2]; exact BWw0.out.drew
        rw [← hW2]
        clear HSK N0' HZ0 BW0 BWw0 HW1 hW2
        by_cases hpn : pp < 0
        · obtain rfl : pp = -1 := by omega
          have hrb : r = (blankB su2[j], 0) := by rw [← HLj.out, HLk.out]; unfold fieldR; rw [show (Sh.mk 7 [] na su).na = na from rfl, HP.out, if_neg (by omega)]
          have HRB : Hid (blankB su2[j] = r.1) := by show _ = _; rw [hrb]
          have hr2 : r.2 = 0 := by rw [hrb]
          obtain ⟨b, bff, rfl, d0', d1', d2', d3', k0, k1, k2, k3, k4⟩ := IsShs.at H3.out hlt2
          obtain ⟨t1, u1, y1, t2, u2, y2, t3, u3, y3, rfl, rfl, rfl, rfl⟩ := k4.cells
          have K4 := Lib.hid k4
          have HKp := Keeps.of_below BWw.out
          have k0' := HKp _ _ _ k0
          have k1' := HKp _ _ _ k1
          have k2' := HKp _ _ _ k2
          have k3' := HKp _ _ _ k3
          obtain ⟨_, _, _, y3', _, _, _, _, yz⟩ := blk4 (blk_below Q2.out BW1.out (Array.getElem?_eq_some_iff.1 Q2.out).1)
          have HPk := Lib.hid (List.all_eq_true.1 HPR.out su2[j] (List.getElem_mem hlt2))
          have hjl2 : (j : Int) < (su2.length : Int) := by omega
          clear k0 k1 k2 k3 k4 HKp hrb hlo hhi
          go_wp2_with fail
          refine (bs_any d2 h2 _ _ W2 HPk.out (IsSh.keep (Keeps.of_below BWw.out) _ _ K4.out)).mono ?_
          rw [HRB.out]
          rintro e w1 ⟨d0, d1', d2', d3, F1, rfl, ho1, hn1, hb1⟩
          obtain ⟨r3, z4, rfl, rfl, rfl, rfl⟩ := (OwnVa.is _ _ _ ho1).cells
          have HO := Lib.hid (show OwnVa w1 W2.heap.size _ _ F1 from ho1)
          have HNd := Lib.hid hn1
          have B1 := Lib.hid (show Below W2.heap.size W2 w1 from hb1)
          obtain ⟨g0, g1, g2, g3, g4, _, _, _, _, _, gz5⟩ := blk5 (blk_below (w := W2) N1'.out B1.out HZ1.out)
          clear ho1 hn1 hb1 k0' k1' k2' k3' y3' yz
          have BB1 := Lib.hid (B1.out.mono (Nat.le_of_lt HZ1.out))
          go_upto_region 31 with fail
          obtain ⟨w5, hw5⟩ : ∃ w5, w5 = ((((w1.setCell ⟨wr.heap.size, 0, none⟩ (.int .i64 r.1.kd)).setCell ⟨wr.heap.size, 1, none⟩ (.int .i64 r.1.nn)).setCell ⟨wr.heap.size, 2, none⟩ (.string r.1.tx)).setCell ⟨wr.heap.size, 3, none⟩ (.slice r3 r.1.it.length z4)) := ⟨_, rfl⟩
          have hop := out_put4 (r := r) HO.out HZ1.out (blk_below (w := W2) N1'.out B1.out HZ1.out)
          have hb5 : Below wr.heap.size wr w5 := by rw [hw5]; exact putQ_below (BW1.out.trans BB1.out) (Nat.le_refl _) _ _ _ _
          have hY : w5.heap[wr.heap.size]? = some (.cells #[.int .i64 r.1.kd, .int .i64 r.1.nn, .string r.1.tx, .slice r3 r.1.it.length z4, .int .i64 0] 33 (0, 0)) := by rw [hw5]; exact hop.1
          have ho5 : OwnVa w5 wr.heap.size r.1 (.agg #[.int .i64 r.1.kd, .int .i64 r.1.nn, .string r.1.tx, .slice r3 r.1.it.length z4]) F1 := by rw [hw5]; exact OwnVa.move (Nat.le_of_lt HZ1.out) _ _ _ (fun _ _ => rfl) hop.2.1
          rw [← hw5]
          have B5 := Lib.hid hb5
          have O5 := Lib.hid ho5
          have rz5 := (Array.getElem?_eq_some_iff.1 Rr.out).1
          have vz5 := (Array.getElem?_eq_some_iff.1 V4.out).1
          have V5 := Lib.hid (blk_below V4.out hb5 vz5)
          have R5 := Lib.hid (blk_below Rr.out hb5 rz5)
          have HZ5 : Hid (W.heap.size ≤ w5.heap.size) := Nat.le_trans hs5 hb5.size
          have lt5 := OwnVa.blocks _ _ _ ho5
          clear hop ho5 hw5
          have HC := Lib.hid ((coll_ok (k := 7) (acc := its) hlt (by rw [HLj.out]; exact hr2)).symm.trans HJ.out)
          rw [HLj.out] at HC
          have RW5 : Hid (w5.ownsRow W.heap.size 29 4 (.slice p j cap) j cs) := own_block HI.out.2.1 fun g hg => B5.out.block g (blkOf_own HI.out.2.1 g hg).2
          obtain ⟨c0, c1, c2, c3, c4, _, _, _, _, _, cz⟩ := blk5 hY
          obtain ⟨v0, v1', v2', v3', _, _, _, _, vz⟩ := blk4 V5.out
          clear hb5 hY
          go_wp2_with (at_builtin; go_must (refine wpList_vaR w5 rfl (.tmp 163) (.tmp 166) rfl W.heap.size p j cap cs r.1.kd r.1.nn r.1.tx r3 r.1.it.length z4 rfl RW5.out rfl (by omega) HZ5.out ?_))
          intro p' cap' w6 hown hon hloc
          have ST := Lib.hid (rw_step HI.out (Nat.le_refl _) O5.out HNd.out B5.out (by rw [HZ.out]; exact hown) hon hloc)
          have gz := HI.out.2.2.2.2.2.1
          have hv6 := V5.out
          rw [← hon.block _ (Array.getElem?_eq_some_iff.1 hv6).1 (fun hx => by have := blkOf_own HI.out.2.1 _ hx; omega)] at hv6
          obtain ⟨_, _, _, _, _, _, _, _, _⟩ := blk4 hv6
          clear hown hon hloc hv6 v0 v1' v2' v3' vz c0 c1 c2 c3 c4 cz
          go_wp2_with fail
          go_roundw
          case rel => exact ⟨j + 1, p', cap', _, _, its ++ [r.1], hlt, by go_num, ST.out, HC.out⟩
          case measure => simp [intOf]; omega
        · obtain ⟨jj, rfl⟩ := Int.eq_ofNat_of_zero_le (show 0 ≤ pp by omega)
          have hjj : jj < su.length := by rw [HL.out]; omega
          obtain ⟨hjv, hfs⟩ := fitZip_at HFa.out hjj
          obtain ⟨s, hs⟩ : ∃ s, u.it.getD jj zva = s := ⟨_, rfl⟩
          obtain ⟨x, hx⟩ : ∃ x, su[jj] = x := ⟨_, rfl⟩
          obtain ⟨y, hy⟩ : ∃ y, su2[j] = y := ⟨_, rfl⟩
          rw [getD_eq hjj, hs, hx] at hfs
          have HFs := Lib.hid hfs
          have HRR : Hid (rdB n x y s = r) := by
            show _ = _
            rw [← HLj.out, HLk.out]; unfold fieldR
            rw [show (Sh.mk 7 [] na su).na = na from rfl, show (Sh.mk 7 [] na su).su = su from rfl, HP.out, if_pos (by omega), show ((jj : Int)).toNat = jj from rfl, getD_eq hjj, hs, hx, hy]
          have HPx : Hid (partOk d1 x = true) := by show _ = _; rw [← hx]; exact List.all_eq_true.1 HPS.out su[jj] (List.getElem_mem hjj)
          have HPy : Hid (partOk d2 y = true) := by show _ = _; rw [← hy]; exact List.all_eq_true.1 HPR.out su2[j] (List.getElem_mem hlt2)
          obtain ⟨a, aff, rfl, e0', e1', e2', e3', l0, l1, l2, l3, l4⟩ := IsShs.at H4.out hjj
          rw [hx] at l4
          obtain ⟨a1, v1, z1, a2, v2, z2, a3, v3, z3, rfl, rfl, rfl, rfl⟩ := l4.cells
          obtain ⟨b, bff, rfl, d0', d1', d2', d3', k0, k1, k2, k3, k4⟩ := IsShs.at H3.out hlt2
          rw [hy] at k4
          obtain ⟨t1, u1, y1, t2, u2, y2, t3, u3, y3, rfl, rfl, rfl, rfl⟩ := k4.cells
          obtain ⟨_, g, off, q, z, rfl, i0, i1, i2, i3, i4, hm1, hm2⟩ := HIts.out.atR hjv
          rw [hs] at i0 i1 i2 i3 i4
          have L4 := Lib.hid l4
          have K4 := Lib.hid k4
          have S4 := Lib.hid i4
          obtain ⟨_, _, _, x3, _, _, _, _, xz⟩ := blk4 Q1.out
          obtain ⟨_, _, _, y3', _, _, _, _, yz⟩ := blk4 Q2.out
          obtain ⟨_, _, _, z3', _, _, _, _, zz⟩ := blk4 Q3.out
          have HKw := Keeps.of_below Bw.out
          have HSK : Hid (∀ w', Below wr.heap.size W2 w' → (w'.cell? ⟨w.heap.size, 3, none⟩ = some (.slice (some ⟨a, aff, none⟩) su.length m3) ∧ w'.cell? ⟨w.heap.size + 1, 3, none⟩ = some (.slice (some ⟨b, bff, none⟩) su2.length j3) ∧ w'.cell? ⟨w.heap.size + 1 + 1, 3, none⟩ = some (.slice (some ⟨g, off, none⟩) u.it.length m) ∧ w'.cell? ⟨a, aff + jj * 4, none⟩ = some (.int .i64 x.kd) ∧ w'.cell? ⟨a, aff + jj * 4 + 1, none⟩ = some (.slice a1 v1 z1) ∧ w'.cell? ⟨a, aff + jj * 4 + 2, none⟩ = some (.slice a2 v2 z2) ∧ w'.cell? ⟨a, aff + jj * 4 + 3, none⟩ = some (.slice a3 v3 z3) ∧ w'.cell? ⟨b, bff + j * 4, none⟩ = some (.int .i64 y.kd) ∧ w'.cell? ⟨b, bff + j * 4 + 1, none⟩ = some (.slice t1 u1 y1) ∧ w'.cell? ⟨b, bff + j * 4 + 2, none⟩ = some (.slice t2 u2 y2) ∧ w'.cell? ⟨b, bff + j * 4 + 3, none⟩ = some (.slice t3 u3 y3) ∧ w'.cell? ⟨g, off + jj * 4, none⟩ = some (.int .i64 s.kd) ∧ w'.cell? ⟨g, off + jj * 4 + 1, none⟩ = some (.int .i64 s.nn) ∧ w'.cell? ⟨g, off + jj * 4 + 2, none⟩ = some (.string s.tx) ∧ w'.cell? ⟨g, off + jj * 4 + 3, none⟩ = some (.slice q s.it.length z))) := fun w' hb => by
            have k := Keeps.of_below (BW1.out.trans hb)
            have k' := Keeps.of_below (Bw.out.trans ((BW1.out.trans hb).mono Bw.out.size))
            exact ⟨k _ _ _ x3, k _ _ _ y3', k _ _ _ z3', k' _ _ _ l0, k' _ _ _ l1, k' _ _ _ l2, k' _ _ _ l3, k' _ _ _ k0, k' _ _ _ k1, k' _ _ _ k2, k' _ _ _ k3, k' _ _ _ i0, k' _ _ _ i1, k' _ _ _ i2, k' _ _ _ i3⟩
          have hge : decide ((0 : Int) ≤ (jj : Int)) = true := by simp
          have hjl2 : (j : Int) < (su2.length : Int) := by omega
          have hjl3 : (jj : Int) < (su.length : Int) := by omega
          have hjl4 : (jj : Int) < (u.it.length : Int) := by omega
          clear HKw hs hx hy hfs l0 l1 l2 l3 l4 k0 k1 k2 k3 k4 i0 i1 i2 i3 i4 x3 xz y3' yz z3' zz hlo hhi
          go_upto_region 29 with fail
          go_region_held3 (fun w' => w'.cell? ⟨w.heap.size, 3, none⟩ = some (.slice (some ⟨a, aff, none⟩) su.length m3) ∧ w'.cell? ⟨w.heap.size + 1, 3, none⟩ = some (.slice (some ⟨b, bff, none⟩) su2.length j3) ∧ w'.cell? ⟨w.heap.size + 1 + 1, 3, none⟩ = some (.slice (some ⟨g, off, none⟩) u.it.length m) ∧ w'.cell? ⟨a, aff + jj * 4, none⟩ = some (.int .i64 x.kd) ∧ w'.cell? ⟨a, aff + jj * 4 + 1, none⟩ = some (.slice a1 v1 z1) ∧ w'.cell? ⟨a, aff + jj * 4 + 2, none⟩ = some (.slice a2 v2 z2) ∧ w'.cell? ⟨a, aff + jj * 4 + 3, none⟩ = some (.slice a3 v3 z3) ∧ w'.cell? ⟨b, bff + j * 4, none⟩ = some (.int .i64 y.kd) ∧ w'.cell? ⟨b, bff + j * 4 + 1, none⟩ = some (.slice t1 u1 y1) ∧ w'.cell? ⟨b, bff + j * 4 + 2, none⟩ = some (.slice t2 u2 y2) ∧ w'.cell? ⟨b, bff + j * 4 + 3, none⟩ = some (.slice t3 u3 y3) ∧ w'.cell? ⟨g, off + jj * 4, none⟩ = some (.int .i64 s.kd) ∧ w'.cell? ⟨g, off + jj * 4 + 1, none⟩ = some (.int .i64 s.nn) ∧ w'.cell? ⟨g, off + jj * 4 + 2, none⟩ = some (.string s.tx) ∧ w'.cell? ⟨g, off + jj * 4 + 3, none⟩ = some (.slice q s.it.length z))
            (first
              | exact HSK.out _ (Below.refl _ W2).drew
              | exact HSK.out _ BB1.out
              | exact HSK.out _ ((putQ_below BB1.out (Nat.le_refl _) _ _ _ _).setCell (p := ⟨wr.heap.size, 4, none⟩) (Nat.le_refl _) _))
            (first
              | (go_at_call 38; refine (IH.out d1 d2 x y s _ _ _ W2.drew hd h1 h2 HPx.out HPy.out (IsSh.keep (Keeps.of_below BWw.out.drew) _ _ L4.out) (IsSh.keep (Keeps.of_below BWw.out.drew) _ _ K4.out) HFs.out (IsVa.keep (Keeps.of_below BWw.out.drew) _ _ S4.out)).mono ?_; rw [HRR.out]; rintro e w1 ⟨d0, d1', d2', d3, F1, rfl, ho1, hn1, hb1⟩; obtain ⟨r3, z4, rfl, rfl, rfl, rfl⟩ := (OwnVa.is _ _ _ ho1).cells; have HO := Lib.hid (show OwnVa w1 W2.heap.size _ _ F1 from ho1); have HNd := Lib.hid hn1; have B1 := Lib.hid (show Below W2.heap.size W2 w1 from (Below.refl _ W2).drew.trans hb1); have BB1 := Lib.hid (B1.out.mono (Nat.le_of_lt HZ1.out)); obtain ⟨_, _, _, _, _, _, _, _, _, _, _⟩ := blk5 (blk_below (w := W2) N1'.out B1.out HZ1.out); clear ho1 hn1 hb1)
              | fail)
          all_goals
            obtain ⟨w5, hw5⟩ : ∃ w5, w5 = (((((w1.setCell ⟨wr.heap.size, 0, none⟩ (.int .i64 r.1.kd)).setCell ⟨wr.heap.size, 1, none⟩ (.int .i64 r.1.nn)).setCell ⟨wr.heap.size, 2, none⟩ (.string r.1.tx)).setCell ⟨wr.heap.size, 3, none⟩ (.slice r3 r.1.it.length z4)).setCell ⟨wr.heap.size, 4, none⟩ (.int .i64 r.2)) := ⟨_, rfl⟩
            have hop := out_put (r := r) HO.out HZ1.out (blk_below (w := W2) N1'.out B1.out HZ1.out)
            have hb5 : Below wr.heap.size wr w5 := by rw [hw5]; exact (putQ_below (BW1.out.trans BB1.out) (Nat.le_refl _) _ _ _ _).setCell (p := ⟨wr.heap.size, 4, none⟩) (Nat.le_refl _) _
            have hY : w5.heap[wr.heap.size]? = some (.cells #[.int .i64 r.1.kd, .int .i64 r.1.nn, .string r.1.tx, .slice r3 r.1.it.length z4, .int .i64 r.2] 33 (0, 0)) := by rw [hw5]; exact hop.1
            have ho5 : OwnVa w5 wr.heap.size r.1 (.agg #[.int .i64 r.1.kd, .int .i64 r.1.nn, .string r.1.tx, .slice r3 r.1.it.length z4]) F1 := by rw [hw5]; exact OwnVa.move (Nat.le_of_lt HZ1.out) _ _ _ (fun _ _ => rfl) hop.2.1
            rw [← hw5]
            have B5 := Lib.hid hb5
            have O5 := Lib.hid ho5
            have rz5 := (Array.getElem?_eq_some_iff.1 Rr.out).1
            have vz5 := (Array.getElem?_eq_some_iff.1 V4.out).1
            have V5 := Lib.hid (blk_below V4.out hb5 vz5)
            have R5 := Lib.hid (blk_below Rr.out hb5 rz5)
            have HZ5 : Hid (W.heap.size ≤ w5.heap.size) := Nat.le_trans hs5 hb5.size
            have lt5 := OwnVa.blocks _ _ _ ho5
            clear hop ho5 hw5
            by_cases hc : r.2 = 0
            · have HC := Lib.hid ((coll_ok (k := 7) (acc := its) hlt (by rw [HLj.out]; exact hc)).symm.trans HJ.out)
              rw [HLj.out] at HC
              rw [hc] at hY
              have RW5 : Hid (w5.ownsRow W.heap.size 29 4 (.slice p j cap) j cs) := own_block HI.out.2.1 fun g hg => B5.out.block g (blkOf_own HI.out.2.1 g hg).2
              obtain ⟨c0, c1, c2, c3, c4, _, _, _, _, _, cz⟩ := blk5 hY
              obtain ⟨v0, v1', v2', v3', _, _, _, _, vz⟩ := blk4 V5.out
              clear hc hb5 hY
              go_wp2_with (at_builtin; go_must (refine wpList_vaR w5 rfl (.tmp 163) (.tmp 166) rfl W.heap.size p j cap cs r.1.kd r.1.nn r.1.tx r3 r.1.it.length z4 rfl RW5.out rfl (by omega) HZ5.out ?_))
              intro p' cap' w6 hown hon hloc
              have ST := Lib.hid (rw_step HI.out (Nat.le_refl _) O5.out HNd.out B5.out (by rw [HZ.out]; exact hown) hon hloc)
              have gz := HI.out.2.2.2.2.2.1
              have hv6 := V5.out
              rw [← hon.block _ (Array.getElem?_eq_some_iff.1 hv6).1 (fun hx => by have := blkOf_own HI.out.2.1 _ hx; omega)] at hv6
              obtain ⟨_, _, _, _, _, _, _, _, _⟩ := blk4 hv6
              clear hown hon hloc hv6 v0 v1' v2' v3' vz c0 c1 c2 c3 c4 cz
              go_wp2_with fail
              go_roundw
              case rel => exact ⟨j + 1, p', cap', _, _, its ++ [r.1], hlt, by go_num, ST.out, HC.out⟩
              case measure => simp [intOf]; omega
            · have HC := Lib.hid ((coll_bad (k := 7) (acc := its) hlt (by rw [HLj.out]; exact hc)).symm.trans HJ.out)
              rw [HLj.out] at HC
              obtain ⟨c0, c1, c2, c3, c4, _, _, _, _, _, cz⟩ := blk5 hY
              obtain ⟨r0, r1, r2, rr3, r4, _, _, _, _, _, rz⟩ := blk5 R5.out
              have hF : Hid (∀ g ∈ F1, g ≠ w.heap.size + 1 + 1 + 1) := fun g hg => by have := lt5 g hg; omega
              have hcb : (r.2 != 0) = true := by simpa using hc
              clear hb5 hY lt5
              go_wp2_with fail
              refine bodyPost_ret (v := .agg #[.int .i64 r.1.kd, .int .i64 r.1.nn, .string r.1.tx, .slice r3 r.1.it.length z4, .int .i64 r.2]) (by simp [results, Tryz.results38, go_sem, r0, r1, r2, rr3, r4]) rfl ?_
              rw [← HC.out]
              exact rd_end (r := r) (Bw.out.trans (B5.out.mono Bw.out.size)) (by omega) (OwnVa.move (show w.heap.size ≤ wr.heap.size by omega) _ _ _ (fun _ _ => rfl) O5.out) hF.out HNd.out
    · obtain rfl : j = L.length := by omega
      have hil := HI.out.2.2.2.2.2.2
      have HC : Hid ((.mk 7 0 ⟨#[]⟩ its, 0) = R) := (coll_end (Nat.le_refl _)).symm.trans HJ.out
      have HOw := Lib.hid (rw_own (hil ▸ HI.out) (by unfold InI64'; omega))
      have HNd := Lib.hid HI.out.2.2.2.1
      rw [hil] at HOw
      have lt := OwnVa.blocks _ _ _ HOw.out
      have hF : Hid (∀ g ∈ blkOf (.slice p L.length cap) ++ F, g ≠ w.heap.size + 1 + 1 + 1) := fun g hg => by have := lt g hg; omega
      obtain ⟨c0, c1, c2, c3, c4, _, _, _, _, _, cz⟩ := blk5 Rr.out
      obtain ⟨v0, v1', v2', v3', _, _, _, _, vz⟩ := blk4 V4.out
      have hle : ¬ (L.length : Int) < (na2.length : Int) := by have := HLen.out; omega
      clear h5 hil lt
      go_wp2_with fail
      refine bodyPost_ret (v := .agg #[.int .i64 7, .int .i64 0, .string ⟨#[]⟩, .slice p L.length cap, .int .i64 0]) (by simp [results, Tryz.results38, go_sem, c0, c1, c2, c3, c4]) rfl ?_
      rw [← HC.out]
      exact rd_end (r := (.mk 7 0 ⟨#[]⟩ its, 0)) Bw.out (by omega) (OwnVa.move (show w.heap.size ≤ W.heap.size by omega) _ _ _ (fun _ _ => rfl) HOw.out) hF.out HNd.out
end Go.Proofs.YtnnjhcjalmdmcaaGreat
