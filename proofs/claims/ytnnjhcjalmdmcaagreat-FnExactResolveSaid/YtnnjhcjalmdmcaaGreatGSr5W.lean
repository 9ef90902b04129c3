/- Walks: spec.l05Resolve, at what has Items of one shape. -/
import Derived.Test.YtnnjhcjalmdmcaaGreatGSrB
namespace Go.Proofs.YtnnjhcjalmdmcaaGreat
open Go.RowKit

set_option maxRecDepth 100000 in
set_option maxHeartbeats 4000000 in
theorem sr_items5 (n : Nat) (ih : SrAt n) (w : World) (d1 d2 : Nat) (x y : Sh) (u : Va) (vw vr v : Value) (hd : d1 + d2 ≤ n) (h1 : d1 ≤ 5) (h2 : d2 ≤ 5) (hpw : partOk d1 x = true) (hpr : partOk d2 y = true) (hw : IsSh w (.mk 5 [] [] [x]) vw) (hr : IsSh w (.mk 5 [] [] [y]) vr) (hv : IsVa w u v) (hf : fitB (.mk 5 [] [] [x]) u = true) :
    Calls Tryz.prog 38 #[vw, vr, v] w (RdPost (rdB (n + 1) (.mk 5 [] [] [x]) (.mk 5 [] [] [y]) u) w) := by
  rw [rd_items (k := 5) (by omega) rfl rfl, show oneOf (.mk 5 [] [] [x]) = x from rfl, show oneOf (.mk 5 [] [] [y]) = y from rfl]
  obtain ⟨hu6, hfa⟩ := fit_maybe hf
  have HFa := Lib.hid hfa
  obtain ⟨L, hL⟩ : ∃ L, u.it.map (rdB n x y) = L := ⟨_, rfl⟩
  have hLen : L.length = u.it.length := by rw [← hL, List.length_map]
  have HLen := Lib.hid hLen
  have HLat : Hid (∀ (j : Nat) (h : j < L.length) (h' : j < u.it.length), L[j] = rdB n x y u.it[j]) := fun j h h' => by subst hL; simp
  rw [hL]
  obtain ⟨R, hR⟩ : ∃ R, collR 5 [] L = R := ⟨_, rfl⟩
  rw [hR]
  have HR : Hid (collR 5 [] (L.drop 0) = R) := hR
  have h6 : L.length ≤ 6 := by omega
  obtain ⟨p1, m1, p2, m2, p3, m3, rfl, _, _, _, s3⟩ := hw.open
  obtain ⟨_, a, aff, a1, v1, z1, a2, v2, z2, a3, v3, z3, rfl, l0, l1, l2, l3, l4, hn1, hn2⟩ := one_at s3
  obtain ⟨q1, j1, q2, j2, q3, j3, rfl, _, _, _, r3⟩ := hr.open
  obtain ⟨_, b, bff, t1, u1, y1, t2, u2, y2, t3, u3, y3, rfl, k0, k1, k2, k3, k4, hm1, hm2⟩ := one_at r3
  have L0 := Lib.hid l0
  have L1 := Lib.hid l1
  have L2 := Lib.hid l2
  have L3 := Lib.hid l3
  have L4 := Lib.hid l4
  have K0 := Lib.hid k0
  have K1 := Lib.hid k1
  have K2 := Lib.hid k2
  have K3 := Lib.hid k3
  have K4 := Lib.hid k4
  obtain ⟨pv, m, rfl⟩ := hv.agg
  have HIts := Lib.hid hv.items
  obtain ⟨W, hW, hbw, hz, HN1, HN2, HN3, HN4, HN5⟩ := five_new w (.cells #[.int .i64 5, .slice p1 0 m1, .slice p2 0 m2, .slice (some ⟨a, aff, none⟩) 1 m3] 26) (.cells #[.int .i64 5, .slice q1 0 j1, .slice q2 0 j2, .slice (some ⟨b, bff, none⟩) 1 j3] 26) (.cells #[.int .i64 u.kd, .int .i64 u.nn, .string u.tx, .slice pv u.it.length m] 29) (.cells #[.int .i64 0, .int .i64 0, .string ⟨#[]⟩, .slice none 0 0, .int .i64 0] 33) (.cells #[.int .i64 5, .int .i64 0, .string ⟨#[]⟩, .slice none 0 0] 29)
  have HI0 : Hid (RwInv W W (w.heap.size + 1 + 1 + 1 + 1) 5 [] 0 none 0 [] []) := RwInv.nil HN5
  have N1 := Lib.hid HN1
  have N2 := Lib.hid HN2
  have N3 := Lib.hid HN3
  have N4 := Lib.hid HN4
  have HZ := Lib.hid hz
  have BW := Lib.hid hbw
  have HW := Lib.hid hW
  have HPw := Lib.hid hpw
  have HPr := Lib.hid hpr
  have IH := Lib.hid ih
  clear HN1 HN2 HN3 HN4 HN5 hz hbw hW hw hr hv s3 r3 l0 l1 l2 l3 l4 k0 k1 k2 k3 k4 hpw hpr ih hL hLen hR hf hfa hu6
  go_enter Tryz.func38, Tryz.ntmps38
  go_wp2_with fail
  rw [← HW.out]
  go_loopw [10] (fun i wr => ∃ (j : Nat) (p : Option Addr) (cap : Nat) (cs : List Value) (F : List Nat) (its : List Va), j ≤ L.length ∧ i = .int .i64 j ∧ Hid (RwInv W wr (w.heap.size + 1 + 1 + 1 + 1) 5 its j p cap cs F) ∧ Hid (collR 5 its (L.drop j) = R)) (fun i _ => L.length - (intOf i).toNat)
  case atStart => exact ⟨0, none, 0, [], [], [], Nat.zero_le _, rfl, HI0.out, HR.out⟩
  case round =>
    obtain ⟨j, p, cap, cs, F, its, hj, rfl, HI, HJ⟩ := hrel
    have hz := HZ.out
    have h5 := HI.out.2.2.2.2.1
    have Bw : Hid (Below w.heap.size w wr) := BW.out.trans (h5.below BW.out.size (by simp; omega))
    have hs5 := h5.size
    have Rr := Lib.hid (show wr.heap[w.heap.size + 1 + 1 + 1]? = _ from (h5.block _ (by omega) (fun hx => by have := List.mem_singleton.1 hx; omega)).trans N4.out)
    have V4 := Lib.hid HI.out.1
    obtain ⟨x0, x1, x2, x3, _, _, _, _, xz⟩ := blk4 (show wr.heap[w.heap.size + 1 + 1]? = _ from (h5.block _ (by omega) (fun hx => by have := List.mem_singleton.1 hx; omega)).trans N3.out)
    by_cases hlt : j < L.length
    · have hlt' : j < u.it.length := by have := HLen.out; omega
      obtain ⟨r, hr⟩ : ∃ r, L[j] = r := ⟨_, rfl⟩
      have HLj := Lib.hid hr
      obtain ⟨s, hs⟩ : ∃ s, u.it[j] = s := ⟨_, rfl⟩
      have HRR : Hid (rdB n x y s = r) := by show _ = _; rw [← hr, HLat.out j hlt hlt', hs]
      have HFs : Hid (fitB x s = true) := by show _ = _; rw [← hs]; exact HFa.out _ (List.getElem_mem hlt')
      obtain ⟨_, g, off, q, z, rfl, k0, k1, k2, k3, k4, hm1, hm2⟩ := HIts.out.atR hlt'
      rw [getD_eq hlt', hs] at k0 k1 k2 k3 k4
      have S4 := Lib.hid k4
      obtain ⟨W1, hW1⟩ : ∃ W1, W1 = wr.alloc (.cells #[.int .i64 0, .int .i64 0, .string ⟨#[]⟩, .slice none 0 0, .int .i64 0] 33) := ⟨_, rfl⟩
      have hbw1 : Below wr.heap.size wr W1 := by rw [hW1]; exact below_alloc _ _
      have N1' : Hid (W1.heap[wr.heap.size]? = some (.cells #[.int .i64 0, .int .i64 0, .string ⟨#[]⟩, .slice none 0 0, .int .i64 0] 33)) := by show _ = _; rw [hW1]; exact Go.Deep.blk_alloc_new _ _
      have HZ1 : Hid (wr.heap.size < W1.heap.size) := by show _ < _; rw [hW1]; simp
      have BW1 := Lib.hid hbw1
      have HW1 := Lib.hid hW1
      have BWw : Hid (Below w.heap.size w W1) := Bw.out.trans (hbw1.mono Bw.out.size)
      obtain ⟨y0, y1', y2', y3', _, _, _, _, yz⟩ := blk4 (show wr.heap[w.heap.size]? = _ from (h5.block _ (by omega) (fun hx => by have := List.mem_singleton.1 hx; omega)).trans N1.out)
      obtain ⟨z0, z1', z2', z3', _, _, _, _, zz⟩ := blk4 (show wr.heap[w.heap.size + 1]? = _ from (h5.block _ (by omega) (fun hx => by have := List.mem_singleton.1 hx; omega)).trans N2.out)
      have HSK : Hid (∀ w', Below wr.heap.size W1 w' → (w'.cell? ⟨w.heap.size, 3, none⟩ = some (.slice (some ⟨a, aff, none⟩) 1 m3) ∧ w'.cell? ⟨w.heap.size + 1, 3, none⟩ = some (.slice (some ⟨b, bff, none⟩) 1 j3) ∧ w'.cell? ⟨w.heap.size + 1 + 1, 3, none⟩ = some (.slice (some ⟨g, off, none⟩) u.it.length m) ∧ w'.cell? ⟨a, aff, none⟩ = some (.int .i64 x.kd) ∧ w'.cell? ⟨a, aff + 1, none⟩ = some (.slice a1 v1 z1) ∧ w'.cell? ⟨a, aff + 2, none⟩ = some (.slice a2 v2 z2) ∧ w'.cell? ⟨a, aff + 3, none⟩ = some (.slice a3 v3 z3) ∧ w'.cell? ⟨b, bff, none⟩ = some (.int .i64 y.kd) ∧ w'.cell? ⟨b, bff + 1, none⟩ = some (.slice t1 u1 y1) ∧ w'.cell? ⟨b, bff + 2, none⟩ = some (.slice t2 u2 y2) ∧ w'.cell? ⟨b, bff + 3, none⟩ = some (.slice t3 u3 y3) ∧ w'.cell? ⟨g, off + j * 4, none⟩ = some (.int .i64 s.kd) ∧ w'.cell? ⟨g, off + j * 4 + 1, none⟩ = some (.int .i64 s.nn) ∧ w'.cell? ⟨g, off + j * 4 + 2, none⟩ = some (.string s.tx) ∧ w'.cell? ⟨g, off + j * 4 + 3, none⟩ = some (.slice q s.it.length z))) := fun w' hb => by
        have k := Keeps.of_below (BW1.out.trans hb)
        have k' := Keeps.of_below (Bw.out.trans ((BW1.out.trans hb).mono Bw.out.size))
        exact ⟨k _ _ _ y3', k _ _ _ z3', k _ _ _ x3, k' _ _ _ L0.out, k' _ _ _ L1.out, k' _ _ _ L2.out, k' _ _ _ L3.out, k' _ _ _ K0.out, k' _ _ _ K1.out, k' _ _ _ K2.out, k' _ _ _ K3.out, k' _ _ _ k0, k' _ _ _ k1, k' _ _ _ k2, k' _ _ _ k3⟩
      have hjl : (j : Int) < (u.it.length : Int) := by omega
      clear h5 hr hs k0 k1 k2 k3 k4 hW1 hbw1 y0 y1' y2' y3' yz x0 x1 x2 x3 xz
      go_upto_region 26 with fail
      rw [← HW1.out]
      clear z0 z1' z2' z3' zz
      go_region_held3 (fun w' => w'.cell? ⟨w.heap.size, 3, none⟩ = some (.slice (some ⟨a, aff, none⟩) 1 m3) ∧ w'.cell? ⟨w.heap.size + 1, 3, none⟩ = some (.slice (some ⟨b, bff, none⟩) 1 j3) ∧ w'.cell? ⟨w.heap.size + 1 + 1, 3, none⟩ = some (.slice (some ⟨g, off, none⟩) u.it.length m) ∧ w'.cell? ⟨a, aff, none⟩ = some (.int .i64 x.kd) ∧ w'.cell? ⟨a, aff + 1, none⟩ = some (.slice a1 v1 z1) ∧ w'.cell? ⟨a, aff + 2, none⟩ = some (.slice a2 v2 z2) ∧ w'.cell? ⟨a, aff + 3, none⟩ = some (.slice a3 v3 z3) ∧ w'.cell? ⟨b, bff, none⟩ = some (.int .i64 y.kd) ∧ w'.cell? ⟨b, bff + 1, none⟩ = some (.slice t1 u1 y1) ∧ w'.cell? ⟨b, bff + 2, none⟩ = some (.slice t2 u2 y2) ∧ w'.cell? ⟨b, bff + 3, none⟩ = some (.slice t3 u3 y3) ∧ w'.cell? ⟨g, off + j * 4, none⟩ = some (.int .i64 s.kd) ∧ w'.cell? ⟨g, off + j * 4 + 1, none⟩ = some (.int .i64 s.nn) ∧ w'.cell? ⟨g, off + j * 4 + 2, none⟩ = some (.string s.tx) ∧ w'.cell? ⟨g, off + j * 4 + 3, none⟩ = some (.slice q s.it.length z))
        (first
          | exact HSK.out _ (Below.refl _ W1).drew
          | exact HSK.out _ BB1.out
          | exact HSK.out _ ((putQ_below BB1.out (Nat.le_refl _) _ _ _ _).setCell (p := ⟨wr.heap.size, 4, none⟩) (Nat.le_refl _) _))
        (first
          | (go_at_call 38; refine (IH.out d1 d2 x y s _ _ _ W1.drew hd h1 h2 HPw.out HPr.out (IsSh.keep (Keeps.of_below BWw.out.drew) _ _ L4.out) (IsSh.keep (Keeps.of_below BWw.out.drew) _ _ K4.out) HFs.out (IsVa.keep (Keeps.of_below BWw.out.drew) _ _ S4.out)).mono ?_; rw [HRR.out]; rintro e w1 ⟨d0, d1', d2', d3, F1, rfl, ho1, hn1, hb1⟩; obtain ⟨r3, z4, rfl, rfl, rfl, rfl⟩ := (OwnVa.is _ _ _ ho1).cells; have HO := Lib.hid (show OwnVa w1 W1.heap.size _ _ F1 from ho1); have HNd := Lib.hid hn1; have B1 := Lib.hid (show Below W1.heap.size W1 w1 from (Below.refl _ W1).drew.trans hb1); have BB1 := Lib.hid (B1.out.mono (Nat.le_of_lt HZ1.out)); obtain ⟨_, _, _, _, _, _, _, _, _, _, _⟩ := blk5 (blk_below (w := W1) N1'.out B1.out HZ1.out); clear ho1 hn1 hb1)
          | fail)
      all_goals
        obtain ⟨w5, hw5⟩ : ∃ w5, w5 = (((((w1.setCell ⟨wr.heap.size, 0, none⟩ (.int .i64 r.1.kd)).setCell ⟨wr.heap.size, 1, none⟩ (.int .i64 r.1.nn)).setCell ⟨wr.heap.size, 2, none⟩ (.string r.1.tx)).setCell ⟨wr.heap.size, 3, none⟩ (.slice r3 r.1.it.length z4)).setCell ⟨wr.heap.size, 4, none⟩ (.int .i64 r.2)) := ⟨_, rfl⟩
        have hop := out_put (r := r) HO.out HZ1.out (blk_below (w := W1) N1'.out B1.out HZ1.out)
        have hb5 : Below wr.heap.size wr w5 := by rw [hw5]; exact (putQ_below (BW1.out.trans BB1.out) (Nat.le_refl _) _ _ _ _).setCell (p := ⟨wr.heap.size, 4, none⟩) (Nat.le_refl _) _
        have hY : w5.heap[wr.heap.size]? = some (.cells #[.int .i64 r.1.kd, .int .i64 r.1.nn, .string r.1.tx, .slice r3 r.1.it.length z4, .int .i64 r.2] 33 (0, 0)) := by rw [hw5]; exact hop.1
        have ho5 : OwnVa w5 wr.heap.size r.1 (.agg #[.int .i64 r.1.kd, .int .i64 r.1.nn, .string r.1.tx, .slice r3 r.1.it.length z4]) F1 := by rw [hw5]; exact OwnVa.move (Nat.le_of_lt HZ1.out) _ _ _ (fun _ _ => rfl) hop.2.1
        rw [← hw5]
        have B5 := Lib.hid hb5
        have O5 := Lib.hid ho5
        have rz5 := (Array.getElem?_eq_some_iff.1 Rr.out).1
        have vz5 := (Array.getElem?_eq_some_iff.1 V4.out).1
        have V5 := Lib.hid (blk_below V4.out hb5 vz5)
        have R5 := Lib.hid (blk_below Rr.out hb5 rz5)
        have HZ5 : Hid (W.heap.size ≤ w5.heap.size) := Nat.le_trans hs5 hb5.size
        have lt5 := OwnVa.blocks _ _ _ ho5
        clear hop ho5 hw5
        by_cases hc : r.2 = 0
        · have HC := Lib.hid ((coll_ok (k := 5) (acc := its) hlt (by rw [HLj.out]; exact hc)).symm.trans HJ.out)
          rw [HLj.out] at HC
          rw [hc] at hY
          have RW5 : Hid (w5.ownsRow W.heap.size 29 4 (.slice p j cap) j cs) := own_block HI.out.2.1 fun g hg => B5.out.block g (blkOf_own HI.out.2.1 g hg).2
          obtain ⟨c0, c1, c2, c3, c4, _, _, _, _, _, cz⟩ := blk5 hY
          obtain ⟨v0, v1', v2', v3', _, _, _, _, vz⟩ := blk4 V5.out
          clear hc hb5 hY
          go_wp2_with (at_builtin; go_must (refine wpList_vaR w5 rfl (.tmp 163) (.tmp 166) rfl W.heap.size p j cap cs r.1.kd r.1.nn r.1.tx r3 r.1.it.length z4 rfl RW5.out rfl (by omega) HZ5.out ?_))
          intro p' cap' w6 hown hon hloc
          have ST := Lib.hid (rw_step HI.out (Nat.le_refl _) O5.out HNd.out B5.out (by rw [HZ.out]; exact hown) hon hloc)
          have gz := HI.out.2.2.2.2.2.1
          have hv6 := V5.out
          rw [← hon.block _ (Array.getElem?_eq_some_iff.1 hv6).1 (fun hx => by have := blkOf_own HI.out.2.1 _ hx; omega)] at hv6
          obtain ⟨_, _, _, _, _, _, _, _, _⟩ := blk4 hv6
          clear hown hon hloc hv6 v0 v1' v2' v3' vz c0 c1 c2 c3 c4 cz
          go_wp2_with fail
          go_roundw
          case rel => exact ⟨j + 1, p', cap', _, _, its ++ [r.1], hlt, by go_num, ST.out, HC.out⟩
          case measure => simp [intOf]; omega
        · have HC := Lib.hid ((coll_bad (k := 5) (acc := its) hlt (by rw [HLj.out]; exact hc)).symm.trans HJ.out)
          rw [HLj.out] at HC
          obtain ⟨c0, c1, c2, c3, c4, _, _, _, _, _, cz⟩ := blk5 hY
          obtain ⟨r0, r1, r2, rr3, r4, _, _, _, _, _, rz⟩ := blk5 R5.out
          have hF : Hid (∀ g ∈ F1, g ≠ w.heap.size + 1 + 1 + 1) := fun g hg => by have := lt5 g hg; omega
          have hcb : (r.2 != 0) = true := by simpa using hc
          clear hb5 hY lt5
          go_wp2_with fail
          refine bodyPost_ret (v := .agg #[.int .i64 r.1.kd, .int .i64 r.1.nn, .string r.1.tx, .slice r3 r.1.it.length z4, .int .i64 r.2]) (by simp [results, Tryz.results38, go_sem, r0, r1, r2, rr3, r4]) rfl ?_
          rw [← HC.out]
          exact rd_end (r := r) (Bw.out.trans (B5.out.mono Bw.out.size)) (by omega) (OwnVa.move (show w.heap.size ≤ wr.heap.size by omega) _ _ _ (fun _ _ => rfl) O5.out) hF.out HNd.out
    · obtain rfl : j = L.length := by omega
      have hil := HI.out.2.2.2.2.2.2
      have HC : Hid ((.mk 5 0 ⟨#[]⟩ its, 0) = R) := (coll_end (Nat.le_refl _)).symm.trans HJ.out
      have HOw := Lib.hid (rw_own (hil ▸ HI.out) (by unfold InI64'; omega))
      have HNd := Lib.hid HI.out.2.2.2.1
      rw [hil] at HOw
      have lt := OwnVa.blocks _ _ _ HOw.out
      have hF : Hid (∀ g ∈ blkOf (.slice p L.length cap) ++ F, g ≠ w.heap.size + 1 + 1 + 1) := fun g hg => by have := lt g hg; omega
      obtain ⟨c0, c1, c2, c3, c4, _, _, _, _, _, cz⟩ := blk5 Rr.out
      obtain ⟨v0, v1', v2', v3', _, _, _, _, vz⟩ := blk4 V4.out
      have hle : ¬ (L.length : Int) < (u.it.length : Int) := by have := HLen.out; omega
      clear h5 hil lt
      go_wp2_with fail
      refine bodyPost_ret (v := .agg #[.int .i64 5, .int .i64 0, .string ⟨#[]⟩, .slice p L.length cap, .int .i64 0]) (by simp [results, Tryz.results38, go_sem, c0, c1, c2, c3, c4]) rfl ?_
      rw [← HC.out]
      exact rd_end (r := (.mk 5 0 ⟨#[]⟩ its, 0)) Bw.out (by omega) (OwnVa.move (show w.heap.size ≤ W.heap.size by omega) _ _ _ (fun _ _ => rfl) HOw.out) hF.out HNd.out

set_option maxRecDepth 100000 in
set_option maxHeartbeats 4000000 in
theorem sr_items6 (n : Nat) (ih : SrAt n) (w : World) (d1 d2 : Nat) (x y : Sh) (u : Va) (vw vr v : Value) (hd : d1 + d2 ≤ n) (h1 : d1 ≤ 5) (h2 : d2 ≤ 5) (hpw : partOk d1 x = true) (hpr : partOk d2 y = true) (hw : IsSh w (.mk 6 [] [] [x]) vw) (hr : IsSh w (.mk 6 [] [] [y]) vr) (hv : IsVa w u v) (hf : fitB (.mk 6 [] [] [x]) u = true) :
    Calls Tryz.prog 38 #[vw, vr, v] w (RdPost (rdB (n + 1) (.mk 6 [] [] [x]) (.mk 6 [] [] [y]) u) w) := by
  rw [rd_items (k := 6) (by omega) rfl rfl, show oneOf (.mk 6 [] [] [x]) = x from rfl, show oneOf (.mk 6 [] [] [y]) = y from rfl]
  obtain ⟨hu6, hfa⟩ := fit_list hf
  have HFa := Lib.hid hfa
  obtain ⟨L, hL⟩ : ∃ L, u.it.map (rdB n x y) = L := ⟨_, rfl⟩
  have hLen : L.length = u.it.length := by rw [← hL, List.length_map]
  have HLen := Lib.hid hLen
  have HLat : Hid (∀ (j : Nat) (h : j < L.length) (h' : j < u.it.length), L[j] = rdB n x y u.it[j]) := fun j h h' => by subst hL; simp
  rw [hL]
  obtain ⟨R, hR⟩ : ∃ R, collR 6 [] L = R := ⟨_, rfl⟩
  rw [hR]
  have HR : Hid (collR 6 [] (L.drop 0) = R) := hR
  have h6 : L.length ≤ 6 := by omega
  obtain ⟨p1, m1, p2, m2, p3, m3, rfl, _, _, _, s3⟩ := hw.open
  obtain ⟨_, a, aff, a1, v1, z1, a2, v2, z2, a3, v3, z3, rfl, l0, l1, l2, l3, l4, hn1, hn2⟩ := one_at s3
  obtain ⟨q1, j1, q2, j2, q3, j3, rfl, _, _, _, r3⟩ := hr.open
  obtain ⟨_, b, bff, t1, u1, y1, t2, u2, y2, t3, u3, y3, rfl, k0, k1, k2, k3, k4, hm1, hm2⟩ := one_at r3
  have L0 := Lib.hid l0
  have L1 := Lib.hid l1
  have L2 := Lib.hid l2
  have L3 := Lib.hid l3
  have L4 := Lib.hid l4
  have K0 := Lib.hid k0
  have K1 := Lib.hid k1
  have K2 := Lib.hid k2
  have K3 := Lib.hid k3
  have K4 := Lib.hid k4
  obtain ⟨pv, m, rfl⟩ := hv.agg
  have HIts := Lib.hid hv.items
  obtain ⟨W, hW, hbw, hz, HN1, HN2, HN3, HN4, HN5⟩ := five_new w (.cells #[.int .i64 6, .slice p1 0 m1, .slice p2 0 m2, .slice (some ⟨a, aff, none⟩) 1 m3] 26) (.cells #[.int .i64 6, .slice q1 0 j1, .slice q2 0 j2, .slice (some ⟨b, bff, none⟩) 1 j3] 26) (.cells #[.int .i64 u.kd, .int .i64 u.nn, .string u.tx, .slice pv u.it.length m] 29) (.cells #[.int .i64 0, .int .i64 0, .string ⟨#[]⟩, .slice none 0 0, .int .i64 0] 33) (.cells #[.int .i64 6, .int .i64 0, .string ⟨#[]⟩, .slice none 0 0] 29)
  have HI0 : Hid (RwInv W W (w.heap.size + 1 + 1 + 1 + 1) 6 [] 0 none 0 [] []) := RwInv.nil HN5
  have N1 := Lib.hid HN1
  have N2 := Lib.hid HN2
  have N3 := Lib.hid HN3
  have N4 := Lib.hid HN4
  have HZ := Lib.hid hz
  have BW := Lib.hid hbw
  have HW := Lib.hid hW
  have HPw := Lib.hid hpw
  have HPr := Lib.hid hpr
  have IH := Lib.hid ih
  clear HN1 HN2 HN3 HN4 HN5 hz hbw hW hw hr hv s3 r3 l0 l1 l2 l3 l4 k0 k1 k2 k3 k4 hpw hpr ih hL hLen hR hf hfa hu6
  go_enter Tryz.func38, Tryz.ntmps38
  go_wp2_with fail
  rw [← HW.out]
  go_loopw [10] (fun i wr => ∃ (j : Nat) (p : Option Addr) (cap : Nat) (cs : List Value) (F : List Nat) (its : List Va), j ≤ L.length ∧ i = .int .i64 j ∧ Hid (RwInv W wr (w.heap.size + 1 + 1 + 1 + 1) 6 its j p cap cs F) ∧ Hid (collR 6 its (L.drop j) = R)) (fun i _ => L.length - (intOf i).toNat)
  case atStart => exact ⟨0, none, 0, [], [], [], Nat.zero_le _, rfl, HI0.out, HR.out⟩
  case round =>
    obtain ⟨j, p, cap, cs, F, its, hj, rfl, HI, HJ⟩ := hrel
    have hz := HZ.out
    have h5 := HI.out.2.2.2.2.1
    have Bw : Hid (Below w.heap.size w wr) := BW.out.trans (h5.below BW.out.size (by simp; omega))
    have hs5 := h5.size
    have Rr := Lib.hid (show wr.heap[w.heap.size + 1 + 1 + 1]? = _ from (h5.block _ (by omega) (fun hx => by have := List.mem_singleton.1 hx; omega)).trans N4.out)
    have V4 := Lib.hid HI.out.1
    obtain ⟨x0, x1, x2, x3, _, _, _, _, xz⟩ := blk4 (show wr.heap[w.heap.size + 1 + 1]? = _ from (h5.block _ (by omega) (fun hx => by have := List.mem_singleton.1 hx; omega)).trans N3.out)
    by_cases hlt : j < L.length
    · have hlt' : j < u.it.length := by have := HLen.out; omega
      obtain ⟨r, hr⟩ : ∃ r, L[j] = r := ⟨_, rfl⟩
      have HLj := Lib.hid hr
      obtain ⟨s, hs⟩ : ∃ s, u.it[j] = s := ⟨_, rfl⟩
      have HRR : Hid (rdB n x y s = r) := by show _ = _; rw [← hr, HLat.out j hlt hlt', hs]
      have HFs : Hid (fitB x s = true) := by show _ = _; rw [← hs]; exact HFa.out _ (List.getElem_mem hlt')
      obtain ⟨_, g, off, q, z, rfl, k0, k1, k2, k3, k4, hm1, hm2⟩ := HIts.out.atR hlt'
      rw [getD_eq hlt', hs] at k0 k1 k2 k3 k4
      have S4 := Lib.hid k4
      obtain ⟨W1, hW1⟩ : ∃ W1, W1 = wr.alloc (.cells #[.int .i64 0, .int .i64 0, .string ⟨#[]⟩, .slice none 0 0, .int .i64 0] 33) := ⟨_, rfl⟩
      have hbw1 : Below wr.heap.size wr W1 := by rw [hW1]; exact below_alloc _ _
      have N1' : Hid (W1.heap[wr.heap.size]? = some (.cells #[.int .i64 0, .int .i64 0, .string ⟨#[]⟩, .slice none 0 0, .int .i64 0] 33)) := by show _ = _; rw [hW1]; exact Go.Deep.blk_alloc_new _ _
      have HZ1 : Hid (wr.heap.size < W1.heap.size) := by show _ < _; rw [hW1]; simp
      have BW1 := Lib.hid hbw1
      have HW1 := Lib.hid hW1
      have BWw : Hid (Below w.heap.size w W1) := Bw.out.trans (hbw1.mono Bw.out.size)
      obtain ⟨y0, y1', y2', y3', _, _, _, _, yz⟩ := blk4 (show wr.heap[w.heap.size]? = _ from (h5.block _ (by omega) (fun hx => by have := List.mem_singleton.1 hx; omega)).trans N1.out)
      obtain ⟨z0, z1', z2', z3', _, _, _, _, zz⟩ := blk4 (show wr.heap[w.heap.size + 1]? = _ from (h5.block _ (by omega) (fun hx => by have := List.mem_singleton.1 hx; omega)).trans N2.out)
      have HSK : Hid (∀ w', Below wr.heap.size W1 w' → (w'.cell? ⟨w.heap.size, 3, none⟩ = some (.slice (some ⟨a, aff, none⟩) 1 m3) ∧ w'.cell? ⟨w.heap.size + 1, 3, none⟩ = some (.slice (some ⟨b, bff, none⟩) 1 j3) ∧ w'.cell? ⟨w.heap.size + 1 + 1, 3, none⟩ = some (.slice (some ⟨g, off, none⟩) u.it.length m) ∧ w'.cell? ⟨a, aff, none⟩ = some (.int .i64 x.kd) ∧ w'.cell? ⟨a, aff + 1, none⟩ = some (.slice a1 v1 z1) ∧ w'.cell? ⟨a, aff + 2, none⟩ = some (.slice a2 v2 z2) ∧ w'.cell? ⟨a, aff + 3, none⟩ = some (.slice a3 v3 z3) ∧ w'.cell? ⟨b, bff, none⟩ = some (.int .i64 y.kd) ∧ w'.cell? ⟨b, bff + 1, none⟩ = some (.slice t1 u1 y1) ∧ w'.cell? ⟨b, bff + 2, none⟩ = some (.slice t2 u2 y2) ∧ w'.cell? ⟨b, bff + 3, none⟩ = some (.slice t3 u3 y3) ∧ w'.cell? ⟨g, off + j * 4, none⟩ = some (.int .i64 s.kd) ∧ w'.cell? ⟨g, off + j * 4 + 1, none⟩ = some (.int .i64 s.nn) ∧ w'.cell? ⟨g, off + j * 4 + 2, none⟩ = some (.string s.tx) ∧ w'.cell? ⟨g, off + j * 4 + 3, none⟩ = some (.slice q s.it.length z))) := fun w' hb => by
        have k := Keeps.of_below (BW1.out.trans hb)
        have k' := Keeps.of_below (Bw.out.trans ((BW1.out.trans hb).mono Bw.out.size))
        exact ⟨k _ _ _ y3', k _ _ _ z3', k _ _ _ x3, k' _ _ _ L0.out, k' _ _ _ L1.out, k' _ _ _ L2.out, k' _ _ _ L3.out, k' _ _ _ K0.out, k' _ _ _ K1.out, k' _ _ _ K2.out, k' _ _ _ K3.out, k' _ _ _ k0, k' _ _ _ k1, k' _ _ _ k2, k' _ _ _ k3⟩
      have hjl : (j : Int) < (u.it.length : Int) := by omega
      clear h5 hr hs k0 k1 k2 k3 k4 hW1 hbw1 y0 y1' y2' y3' yz x0 x1 x2 x3 xz
      go_upto_region 26 with fail
      rw [← HW1.out]
      clear z0 z1' z2' z3' zz
      go_region_held3 (fun w' => w'.cell? ⟨w.heap.size, 3, none⟩ = some (.slice (some ⟨a, aff, none⟩) 1 m3) ∧ w'.cell? ⟨w.heap.size + 1, 3, none⟩ = some (.slice (some ⟨b, bff, none⟩) 1 j3) ∧ w'.cell? ⟨w.heap.size + 1 + 1, 3, none⟩ = some (.slice (some ⟨g, off, none⟩) u.it.length m) ∧ w'.cell? ⟨a, aff, none⟩ = some (.int .i64 x.kd) ∧ w'.cell? ⟨a, aff + 1, none⟩ = some (.slice a1 v1 z1) ∧ w'.cell? ⟨a, aff + 2, none⟩ = some (.slice a2 v2 z2) ∧ w'.cell? ⟨a, aff + 3, none⟩ = some (.slice a3 v3 z3) ∧ w'.cell? ⟨b, bff, none⟩ = some (.int .i64 y.kd) ∧ w'.cell? ⟨b, bff + 1, none⟩ = some (.slice t1 u1 y1) ∧ w'.cell? ⟨b, bff + 2, none⟩ = some (.slice t2 u2 y2) ∧ w'.cell? ⟨b, bff + 3, none⟩ = some (.slice t3 u3 y3) ∧ w'.cell? ⟨g, off + j * 4, none⟩ = some (.int .i64 s.kd) ∧ w'.cell? ⟨g, off + j * 4 + 1, none⟩ = some (.int .i64 s.nn) ∧ w'.cell? ⟨g, off + j * 4 + 2, none⟩ = some (.string s.tx) ∧ w'.cell? ⟨g, off + j * 4 + 3, none⟩ = some (.slice q s.it.length z))
        (first
          | exact HSK.out _ (Below.refl _ W1).drew
          | exact HSK.out _ BB1.out
          | exact HSK.out _ ((putQ_below BB1.out (Nat.le_refl _) _ _ _ _).setCell (p := ⟨wr.heap.size, 4, none⟩) (Nat.le_refl _) _))
        (first
          | (go_at_call 38; refine (IH.out d1 d2 x y s _ _ _ W1.drew hd h1 h2 HPw.out HPr.out (IsSh.keep (Keeps.of_below BWw.out.drew) _ _ L4.out) (IsSh.keep (Keeps.of_below BWw.out.drew) _ _ K4.out) HFs.out (IsVa.keep (Keeps.of_below BWw.out.drew) _ _ S4.out)).mono ?_; rw [HRR.out]; rintro e w1 ⟨d0, d1', d2', d3, F1, rfl, ho1, hn1, hb1⟩; obtain ⟨r3, z4, rfl, rfl, rfl, rfl⟩ := (OwnVa.is _ _ _ ho1).cells; have HO := Lib.hid (show OwnVa w1 W1.heap.size _ _ F1 from ho1); have HNd := Lib.hid hn1; have B1 := Lib.hid (show Below W1.heap.size W1 w1 from (Below.refl _ W1).drew.trans hb1); have BB1 := Lib.hid (B1.out.mono (Nat.le_of_lt HZ1.out)); obtain ⟨_, _, _, _, _, _, _, _, _, _, _⟩ := blk5 (blk_below (w := W1) N1'.out B1.out HZ1.out); clear ho1 hn1 hb1)
          | fail)
      all_goals
        obtain ⟨w5, hw5⟩ : ∃ w5, w5 = (((((w1.setCell ⟨wr.heap.size, 0, none⟩ (.int .i64 r.1.kd)).setCell ⟨wr.heap.size, 1, none⟩ (.int .i64 r.1.nn)).setCell ⟨wr.heap.size, 2, none⟩ (.string r.1.tx)).setCell ⟨wr.heap.size, 3, none⟩ (.slice r3 r.1.it.length z4)).setCell ⟨wr.heap.size, 4, none⟩ (.int .i64 r.2)) := ⟨_, rfl⟩
        have hop := out_put (r := r) HO.out HZ1.out (blk_below (w := W1) N1'.out B1.out HZ1.out)
        have hb5 : Below wr.heap.size wr w5 := by rw [hw5]; exact (putQ_below (BW1.out.trans BB1.out) (Nat.le_refl _) _ _ _ _).setCell (p := ⟨wr.heap.size, 4, none⟩) (Nat.le_refl _) _
        have hY : w5.heap[wr.heap.size]? = some (.cells #[.int .i64 r.1.kd, .int .i64 r.1.nn, .string r.1.tx, .slice r3 r.1.it.length z4, .int .i64 r.2] 33 (0, 0)) := by rw [hw5]; exact hop.1
        have ho5 : OwnVa w5 wr.heap.size r.1 (.agg #[.int .i64 r.1.kd, .int .i64 r.1.nn, .string r.1.tx, .slice r3 r.1.it.length z4]) F1 := by rw [hw5]; exact OwnVa.move (Nat.le_of_lt HZ1.out) _ _ _ (fun _ _ => rfl) hop.2.1
        rw [← hw5]
        have B5 := Lib.hid hb5
        have O5 := Lib.hid ho5
        have rz5 := (Array.getElem?_eq_some_iff.1 Rr.out).1
        have vz5 := (Array.getElem?_eq_some_iff.1 V4.out).1
        have V5 := Lib.hid (blk_below V4.out hb5 vz5)
        have R5 := Lib.hid (blk_below Rr.out hb5 rz5)
        have HZ5 : Hid (W.heap.size ≤ w5.heap.size) := Nat.le_trans hs5 hb5.size
        have lt5 := OwnVa.blocks _ _ _ ho5
        clear hop ho5 hw5
        by_cases hc : r.2 = 0
        · have HC := Lib.hid ((coll_ok (k := 6) (acc := its) hlt (by rw [HLj.out]; exact hc)).symm.trans HJ.out)
          rw [HLj.out] at HC
          rw [hc] at hY
          have RW5 : Hid (w5.ownsRow W.heap.size 29 4 (.slice p j cap) j cs) := own_block HI.out.2.1 fun g hg => B5.out.block g (blkOf_own HI.out.2.1 g hg).2
          obtain ⟨c0, c1, c2, c3, c4, _, _, _, _, _, cz⟩ := blk5 hY
          obtain ⟨v0, v1', v2', v3', _, _, _, _, vz⟩ := blk4 V5.out
          clear hc hb5 hY
          go_wp2_with (at_builtin; go_must (refine wpList_vaR w5 rfl (.tmp 163) (.tmp 166) rfl W.heap.size p j cap cs r.1.kd r.1.nn r.1.tx r3 r.1.it.length z4 rfl RW5.out rfl (by omega) HZ5.out ?_))
          intro p' cap' w6 hown hon hloc
          have ST := Lib.hid (rw_step HI.out (Nat.le_refl _) O5.out HNd.out B5.out (by rw [HZ.out]; exact hown) hon hloc)
          have gz := HI.out.2.2.2.2.2.1
          have hv6 := V5.out
          rw [← hon.block _ (Array.getElem?_eq_some_iff.1 hv6).1 (fun hx => by have := blkOf_own HI.out.2.1 _ hx; omega)] at hv6
          obtain ⟨_, _, _, _, _, _, _, _, _⟩ := blk4 hv6
          clear hown hon hloc hv6 v0 v1' v2' v3' vz c0 c1 c2 c3 c4 cz
          go_wp2_with fail
          go_roundw
          case rel => exact ⟨j + 1, p', cap', _, _, its ++ [r.1], hlt, by go_num, ST.out, HC.out⟩
          case measure => simp [intOf]; omega
        · have HC := Lib.hid ((coll_bad (k := 6) (acc := its) hlt (by rw [HLj.out]; exact hc)).symm.trans HJ.out)
          rw [HLj.out] at HC
          obtain ⟨c0, c1, c2, c3, c4, _, _, _, _, _, cz⟩ := blk5 hY
          obtain ⟨r0, r1, r2, rr3, r4, _, _, _, _, _, rz⟩ := blk5 R5.out
          have hF : Hid (∀ g ∈ F1, g ≠ w.heap.size + 1 + 1 + 1) := fun g hg => by have := lt5 g hg; omega
          have hcb : (r.2 != 0) = true := by simpa using hc
          clear hb5 hY lt5
          go_wp2_with fail
          refine bodyPost_ret (v := .agg #[.int .i64 r.1.kd, .int .i64 r.1.nn, .string r.1.tx, .slice r3 r.1.it.length z4, .int .i64 r.2]) (by simp [results, Tryz.results38, go_sem, r0, r1, r2, rr3, r4]) rfl ?_
          rw [← HC.out]
          exact rd_end (r := r) (Bw.out.trans (B5.out.mono Bw.out.size)) (by omega) (OwnVa.move (show w.heap.size ≤ wr.heap.size by omega) _ _ _ (fun _ _ => rfl) O5.out) hF.out HNd.out
    · obtain rfl : j = L.length := by omega
      have hil := HI.out.2.2.2.2.2.2
      have HC : Hid ((.mk 6 0 ⟨#[]⟩ its, 0) = R) := (coll_end (Nat.le_refl _)).symm.trans HJ.out
      have HOw := Lib.hid (rw_own (hil ▸ HI.out) (by unfold InI64'; omega))
      have HNd := Lib.hid HI.out.2.2.2.1
      rw [hil] at HOw
      have lt := OwnVa.blocks _ _ _ HOw.out
      have hF : Hid (∀ g ∈ blkOf (.slice p L.length cap) ++ F, g ≠ w.heap.size + 1 + 1 + 1) := fun g hg => by have := lt g hg; omega
      obtain ⟨c0, c1, c2, c3, c4, _, _, _, _, _, cz⟩ := blk5 Rr.out
      obtain ⟨v0, v1', v2', v3', _, _, _, _, vz⟩ := blk4 V4.out
      have hle : ¬ (L.length : Int) < (u.it.length : Int) := by have := HLen.out; omega
      clear h5 hil lt
      go_wp2_with fail
      refine bodyPost_ret (v := .agg #[.int .i64 6, .int .i64 0, .string ⟨#[]⟩, .slice p L.length cap, .int .i64 0]) (by simp [results, Tryz.results38, go_sem, c0, c1, c2, c3, c4]) rfl ?_
      rw [← HC.out]
      exact rd_end (r := (.mk 6 0 ⟨#[]⟩ its, 0)) Bw.out (by omega) (OwnVa.move (show w.heap.size ≤ W.heap.size by omega) _ _ _ (fun _ _ => rfl) HOw.out) hF.out HNd.out
end Go.Proofs.YtnnjhcjalmdmcaaGreat
