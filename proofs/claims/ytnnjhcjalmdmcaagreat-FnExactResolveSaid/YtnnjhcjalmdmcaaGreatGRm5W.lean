/- Walks: impl.readingOf, the other ways. -/
import Derived.Test.YtnnjhcjalmdmcaaGreatGRm4W
namespace Go.Proofs.YtnnjhcjalmdmcaaGreat
open Go.RowKit

set_option maxRecDepth 100000 in
set_option maxHeartbeats 2000000 in
theorem ro_items5 (G : RG) (hM : RM G) (n : Nat) (ih : ROf G n) (X : Nat → Prop) (z w : World) (d1 d2 : Nat) (x y : Sh) (vw vr : Value) (hd : d1 + d2 ≤ n) (h1 : d1 ≤ 5) (h2 : d2 ≤ 5) (hpw : partOk d1 x = true) (hpr : partOk d2 y = true) (hw : IsSh z (.mk 5 [] [] [x]) vw) (hr : IsSh z (.mk 5 [] [] [y]) vr) (he : EnvR X z w) :
    Calls Tryz.prog 36 #[vw, vr] w (MadeG G X (fun u => fitB (.mk 5 [] [] [x]) u = true) (rdB (n + 1) (.mk 5 [] [] [x]) (.mk 5 [] [] [y])) (wnB (n + 1) (.mk 5 [] [] [x]) (.mk 5 [] [] [y])) w) := by
  obtain ⟨p1, m1, p2, m2, p3, m3, rfl, _, _, _, s3⟩ := hw.open
  obtain ⟨_, a, aff, a1, v1, z1, a2, v2, z2, a3, v3, z3, rfl, l0, l1, l2, l3, l4, hn1, hn2⟩ := one_at s3
  obtain ⟨q1, j1, q2, j2, q3, j3, rfl, _, _, _, r3⟩ := hr.open
  obtain ⟨_, b, off, t1, u1, y1, t2, u2, y2, t3, u3, y3, rfl, k0, k1, k2, k3, k4, hm1, hm2⟩ := one_at r3
  have K4 := Lib.hid k4
  have L4 := Lib.hid l4
  have HN := three_new w (.cells #[.int .i64 5, .slice p1 0 m1, .slice p2 0 m2, .slice (some ⟨a, aff, none⟩) 1 m3] 26) (.cells #[.int .i64 5, .slice q1 0 j1, .slice q2 0 j2, .slice (some ⟨b, off, none⟩) 1 j3] 26) (.cells #[.nilFunc, .nilFunc] 67)
  obtain ⟨W, hW⟩ : ∃ W, W = ((w.alloc (.cells #[.int .i64 5, .slice p1 0 m1, .slice p2 0 m2, .slice (some ⟨a, aff, none⟩) 1 m3] 26)).alloc (.cells #[.int .i64 5, .slice q1 0 j1, .slice q2 0 j2, .slice (some ⟨b, off, none⟩) 1 j3] 26)).alloc (.cells #[.nilFunc, .nilFunc] 67) := ⟨_, rfl⟩
  have hbw : Below w.heap.size w W := by rw [hW]; exact ((below_alloc w _).alloc (by simp) _).alloc (by simp; omega) _
  have hz : W.heap.size = w.heap.size + 1 + 1 + 1 := by rw [hW]; simp
  rw [← hW] at HN
  have HZ := Lib.hid hz
  have EW : Hid (EnvR (withX X (w.heap.size + 1 + 1)) z W) := he.with hbw (by omega) (by omega)
  have HKp := Keeps.of_below EW.out.below
  have e0 := HKp _ _ _ k0
  have e1 := HKp _ _ _ k1
  have e2 := HKp _ _ _ k2
  have e3 := HKp _ _ _ k3
  have g0 := HKp _ _ _ l0
  have g1 := HKp _ _ _ l1
  have g2 := HKp _ _ _ l2
  have g3 := HKp _ _ _ l3
  have bz : b < w.heap.size := Nat.lt_of_lt_of_le (World.block_lt_of_cell? z ⟨b, off, none⟩ k0) he.below.size
  have az : a < w.heap.size := Nat.lt_of_lt_of_le (World.block_lt_of_cell? z ⟨a, aff, none⟩ l0) he.below.size
  obtain ⟨x0, x1, x2, x3, _, _, _, _, xz⟩ := blk4 HN.1
  obtain ⟨y0, y1', y2', y3', _, _, _, _, yz⟩ := blk4 HN.2.1
  have N3 := Lib.hid HN.2.2
  have BW := Lib.hid hbw
  have HW := Lib.hid hW
  have HPw := Lib.hid hpw
  have HPr := Lib.hid hpr
  have IH := Lib.hid ih
  have HSK : Hid (∀ w', Below (w.heap.size + 1 + 1) W w' → (w'.cell? ⟨w.heap.size, 0, none⟩ = some (.int .i64 5) ∧ w'.cell? ⟨w.heap.size, 3, none⟩ = some (.slice (some ⟨a, aff, none⟩) 1 m3) ∧ w'.cell? ⟨w.heap.size + 1, 3, none⟩ = some (.slice (some ⟨b, off, none⟩) 1 j3) ∧ w'.cell? ⟨a, aff, none⟩ = some (.int .i64 x.kd) ∧ w'.cell? ⟨a, aff + 1, none⟩ = some (.slice a1 v1 z1) ∧ w'.cell? ⟨a, aff + 2, none⟩ = some (.slice a2 v2 z2) ∧ w'.cell? ⟨a, aff + 3, none⟩ = some (.slice a3 v3 z3) ∧ w'.cell? ⟨b, off, none⟩ = some (.int .i64 y.kd) ∧ w'.cell? ⟨b, off + 1, none⟩ = some (.slice t1 u1 y1) ∧ w'.cell? ⟨b, off + 2, none⟩ = some (.slice t2 u2 y2) ∧ w'.cell? ⟨b, off + 3, none⟩ = some (.slice t3 u3 y3))) := fun w' hb => by
    have k : ∀ b o c, b < w.heap.size + 1 + 1 → W.cell? ⟨b, o, none⟩ = some c → w'.cell? ⟨b, o, none⟩ = some c := fun b o c hlt hc => by rw [hb.cell (p := ⟨b, o, none⟩) hlt]; exact hc
    exact ⟨k _ _ _ (by omega) x0, k _ _ _ (by omega) x3, k _ _ _ (by omega) y3', k _ _ _ (by omega) g0, k _ _ _ (by omega) g1, k _ _ _ (by omega) g2, k _ _ _ (by omega) g3, k _ _ _ (by omega) e0, k _ _ _ (by omega) e1, k _ _ _ (by omega) e2, k _ _ _ (by omega) e3⟩
  clear HN hbw hz hW hw hr he s3 r3 k0 k1 k2 k3 k4 l0 l1 l2 l3 l4 HKp hpw hpr ih x0 x1 x2 x3 xz y0 y1' y2' y3' yz e0 e1 e2 e3 g0 g1 g2 g3 bz az
  go_enter Tryz.func36, Tryz.ntmps36
  go_upto_region 12 with fail
  rw [← HW.out]
  go_region_held3 (fun w' => w'.cell? ⟨w.heap.size, 0, none⟩ = some (.int .i64 5) ∧ w'.cell? ⟨w.heap.size, 3, none⟩ = some (.slice (some ⟨a, aff, none⟩) 1 m3) ∧ w'.cell? ⟨w.heap.size + 1, 3, none⟩ = some (.slice (some ⟨b, off, none⟩) 1 j3) ∧ w'.cell? ⟨a, aff, none⟩ = some (.int .i64 x.kd) ∧ w'.cell? ⟨a, aff + 1, none⟩ = some (.slice a1 v1 z1) ∧ w'.cell? ⟨a, aff + 2, none⟩ = some (.slice a2 v2 z2) ∧ w'.cell? ⟨a, aff + 3, none⟩ = some (.slice a3 v3 z3) ∧ w'.cell? ⟨b, off, none⟩ = some (.int .i64 y.kd) ∧ w'.cell? ⟨b, off + 1, none⟩ = some (.slice t1 u1 y1) ∧ w'.cell? ⟨b, off + 2, none⟩ = some (.slice t2 u2 y2) ∧ w'.cell? ⟨b, off + 3, none⟩ = some (.slice t3 u3 y3))
    (first
      | exact HSK.out _ (Below.refl _ W).drew
      | exact HSK.out _ BB1.out
      | exact HSK.out _ BB2.out
      | exact HSK.out _ ((BB2.out.setCell (p := ⟨w.heap.size + 1 + 1, 0, none⟩) (Nat.le_refl _) _).setCell (p := ⟨w.heap.size + 1 + 1, 1, none⟩) (Nat.le_refl _) _))
    (first
      | (go_at_call 36; refine (IH.out (withX X (w.heap.size + 1 + 1)) z W.drew d1 d2 x y _ _ hd h1 h2 HPw.out HPr.out L4.out K4.out (EW.out.step (Below.refl _ W).drew)).mono ?_; rintro e w1 ⟨f1, g1, f2, g2, rfl, hG1, hb1⟩; have G1 := Lib.hid hG1; have B1 := Lib.hid (show Below W.heap.size W w1 from (Below.refl _ W).drew.trans hb1); have BB1 := Lib.hid (B1.out.mono (show w.heap.size + 1 + 1 ≤ W.heap.size by have := HZ.out; omega)); clear hG1 hb1)
      | (go_at_call 67; refine (items_raw 5 f1 f2 g1 g2 w1).mono ?_; rintro e w2 ⟨rfl, hn2, hn3, hb2⟩; have N2 := Lib.hid (And.intro hn2 hn3); have B2 := Lib.hid hb2; have BB2 := Lib.hid (BB1.out.trans (hb2.mono (Nat.le_trans (show w.heap.size + 1 + 1 ≤ W.heap.size by have := HZ.out; omega) B1.out.size))); have B12 := Lib.hid (B1.out.trans (hb2.mono B1.out.size)); obtain ⟨_, _, _, _, _⟩ := blk2r (blk_below (w := W) N3.out B12.out (by have := HZ.out; omega)); clear hn2 hn3 hb2))
  all_goals
    have E1 := EW.out.step B1.out
    have hG2 := hM.items (k := 5) (by unfold InI64'; omega) N2.out.1 N2.out.2 (E1.ne (Nat.le_refl _)) (E1.ne (Nat.le_succ _)) (hM.move G1.out (Still.of_below B2.out) fun _ hg => .inl hg)
    have G2 := Lib.hid hG2
    obtain ⟨r0, r1, _, _, rz⟩ := blk2r (blk_below (w := W) N3.out B12.out (by have := HZ.out; omega))
    clear E1 hG2
    go_wp2_with fail
    refine bodyPost_ret (v := .agg #[fnv 94 #[.pointer (some ⟨w1.heap.size, 0, none⟩), .pointer (some ⟨w1.heap.size + 1, 0, none⟩)], fnv 96 #[.pointer (some ⟨w1.heap.size + 1, 0, none⟩), .pointer (some ⟨w1.heap.size, 0, none⟩)]]) (by simp [results, Tryz.results36, go_sem, r0, r1]) rfl ?_
    exact made_endR hM (hM.same G2.out (fun u h => ⟨Nat.le_trans (fit_maybe h).1 (by omega), (fit_maybe h).2⟩) (fun u _ => rd_items (k := 5) (w := (.mk 5 [] [] [x])) (r := (.mk 5 [] [] [y])) (by omega) rfl rfl u) (wn_items (k := 5) (w := (.mk 5 [] [] [x])) (r := (.mk 5 [] [] [y])) (by omega) rfl rfl)) (BW.out.trans (B12.out.mono BW.out.size)) (by omega) _ _

set_option maxRecDepth 100000 in
set_option maxHeartbeats 2000000 in
theorem ro_items6 (G : RG) (hM : RM G) (n : Nat) (ih : ROf G n) (X : Nat → Prop) (z w : World) (d1 d2 : Nat) (x y : Sh) (vw vr : Value) (hd : d1 + d2 ≤ n) (h1 : d1 ≤ 5) (h2 : d2 ≤ 5) (hpw : partOk d1 x = true) (hpr : partOk d2 y = true) (hw : IsSh z (.mk 6 [] [] [x]) vw) (hr : IsSh z (.mk 6 [] [] [y]) vr) (he : EnvR X z w) :
    Calls Tryz.prog 36 #[vw, vr] w (MadeG G X (fun u => fitB (.mk 6 [] [] [x]) u = true) (rdB (n + 1) (.mk 6 [] [] [x]) (.mk 6 [] [] [y])) (wnB (n + 1) (.mk 6 [] [] [x]) (.mk 6 [] [] [y])) w) := by
  obtain ⟨p1, m1, p2, m2, p3, m3, rfl, _, _, _, s3⟩ := hw.open
  obtain ⟨_, a, aff, a1, v1, z1, a2, v2, z2, a3, v3, z3, rfl, l0, l1, l2, l3, l4, hn1, hn2⟩ := one_at s3
  obtain ⟨q1, j1, q2, j2, q3, j3, rfl, _, _, _, r3⟩ := hr.open
  obtain ⟨_, b, off, t1, u1, y1, t2, u2, y2, t3, u3, y3, rfl, k0, k1, k2, k3, k4, hm1, hm2⟩ := one_at r3
  have K4 := Lib.hid k4
  have L4 := Lib.hid l4
  have HN := three_new w (.cells #[.int .i64 6, .slice p1 0 m1, .slice p2 0 m2, .slice (some ⟨a, aff, none⟩) 1 m3] 26) (.cells #[.int .i64 6, .slice q1 0 j1, .slice q2 0 j2, .slice (some ⟨b, off, none⟩) 1 j3] 26) (.cells #[.nilFunc, .nilFunc] 67)
  obtain ⟨W, hW⟩ : ∃ W, W = ((w.alloc (.cells #[.int .i64 6, .slice p1 0 m1, .slice p2 0 m2, .slice (some ⟨a, aff, none⟩) 1 m3] 26)).alloc (.cells #[.int .i64 6, .slice q1 0 j1, .slice q2 0 j2, .slice (some ⟨b, off, none⟩) 1 j3] 26)).alloc (.cells #[.nilFunc, .nilFunc] 67) := ⟨_, rfl⟩
  have hbw : Below w.heap.size w W := by rw [hW]; exact ((below_alloc w _).alloc (by simp) _).alloc (by simp; omega) _
  have hz : W.heap.size = w.heap.size + 1 + 1 + 1 := by rw [hW]; simp
  rw [← hW] at HN
  have HZ := Lib.hid hz
  have EW : Hid (EnvR (withX X (w.heap.size + 1 + 1)) z W) := he.with hbw (by omega) (by omega)
  have HKp := Keeps.of_below EW.out.below
  have e0 := HKp _ _ _ k0
  have e1 := HKp _ _ _ k1
  have e2 := HKp _ _ _ k2
  have e3 := HKp _ _ _ k3
  have g0 := HKp _ _ _ l0
  have g1 := HKp _ _ _ l1
  have g2 := HKp _ _ _ l2
  have g3 := HKp _ _ _ l3
  have bz : b < w.heap.size := Nat.lt_of_lt_of_le (World.block_lt_of_cell? z ⟨b, off, none⟩ k0) he.below.size
  have az : a < w.heap.size := Nat.lt_of_lt_of_le (World.block_lt_of_cell? z ⟨a, aff, none⟩ l0) he.below.size
  obtain ⟨x0, x1, x2, x3, _, _, _, _, xz⟩ := blk4 HN.1
  obtain ⟨y0, y1', y2', y3', _, _, _, _, yz⟩ := blk4 HN.2.1
  have N3 := Lib.hid HN.2.2
  have BW := Lib.hid hbw
  have HW := Lib.hid hW
  have HPw := Lib.hid hpw
  have HPr := Lib.hid hpr
  have IH := Lib.hid ih
  have HSK : Hid (∀ w', Below (w.heap.size + 1 + 1) W w' → (w'.cell? ⟨w.heap.size, 0, none⟩ = some (.int .i64 6) ∧ w'.cell? ⟨w.heap.size, 3, none⟩ = some (.slice (some ⟨a, aff, none⟩) 1 m3) ∧ w'.cell? ⟨w.heap.size + 1, 3, none⟩ = some (.slice (some ⟨b, off, none⟩) 1 j3) ∧ w'.cell? ⟨a, aff, none⟩ = some (.int .i64 x.kd) ∧ w'.cell? ⟨a, aff + 1, none⟩ = some (.slice a1 v1 z1) ∧ w'.cell? ⟨a, aff + 2, none⟩ = some (.slice a2 v2 z2) ∧ w'.cell? ⟨a, aff + 3, none⟩ = some (.slice a3 v3 z3) ∧ w'.cell? ⟨b, off, none⟩ = some (.int .i64 y.kd) ∧ w'.cell? ⟨b, off + 1, none⟩ = some (.slice t1 u1 y1) ∧ w'.cell? ⟨b, off + 2, none⟩ = some (.slice t2 u2 y2) ∧ w'.cell? ⟨b, off + 3, none⟩ = some (.slice t3 u3 y3))) := fun w' hb => by
    have k : ∀ b o c, b < w.heap.size + 1 + 1 → W.cell? ⟨b, o, none⟩ = some c → w'.cell? ⟨b, o, none⟩ = some c := fun b o c hlt hc => by rw [hb.cell (p := ⟨b, o, none⟩) hlt]; exact hc
    exact ⟨k _ _ _ (by omega) x0, k _ _ _ (by omega) x3, k _ _ _ (by omega) y3', k _ _ _ (by omega) g0, k _ _ _ (by omega) g1, k _ _ _ (by omega) g2, k _ _ _ (by omega) g3, k _ _ _ (by omega) e0, k _ _ _ (by omega) e1, k _ _ _ (by omega) e2, k _ _ _ (by omega) e3⟩
  clear HN hbw hz hW hw hr he s3 r3 k0 k1 k2 k3 k4 l0 l1 l2 l3 l4 HKp hpw hpr ih x0 x1 x2 x3 xz y0 y1' y2' y3' yz e0 e1 e2 e3 g0 g1 g2 g3 bz az
  go_enter Tryz.func36, Tryz.ntmps36
  go_upto_region 12 with fail
  rw [← HW.out]
  go_region_held3 (fun w' => w'.cell? ⟨w.heap.size, 0, none⟩ = some (.int .i64 6) ∧ w'.cell? ⟨w.heap.size, 3, none⟩ = some (.slice (some ⟨a, aff, none⟩) 1 m3) ∧ w'.cell? ⟨w.heap.size + 1, 3, none⟩ = some (.slice (some ⟨b, off, none⟩) 1 j3) ∧ w'.cell? ⟨a, aff, none⟩ = some (.int .i64 x.kd) ∧ w'.cell? ⟨a, aff + 1, none⟩ = some (.slice a1 v1 z1) ∧ w'.cell? ⟨a, aff + 2, none⟩ = some (.slice a2 v2 z2) ∧ w'.cell? ⟨a, aff + 3, none⟩ = some (.slice a3 v3 z3) ∧ w'.cell? ⟨b, off, none⟩ = some (.int .i64 y.kd) ∧ w'.cell? ⟨b, off + 1, none⟩ = some (.slice t1 u1 y1) ∧ w'.cell? ⟨b, off + 2, none⟩ = some (.slice t2 u2 y2) ∧ w'.cell? ⟨b, off + 3, none⟩ = some (.slice t3 u3 y3))
    (first
      | exact HSK.out _ (Below.refl _ W).drew
      | exact HSK.out _ BB1.out
      | exact HSK.out _ BB2.out
      | exact HSK.out _ ((BB2.out.setCell (p := ⟨w.heap.size + 1 + 1, 0, none⟩) (Nat.le_refl _) _).setCell (p := ⟨w.heap.size + 1 + 1, 1, none⟩) (Nat.le_refl _) _))
    (first
      | (go_at_call 36; refine (IH.out (withX X (w.heap.size + 1 + 1)) z W.drew d1 d2 x y _ _ hd h1 h2 HPw.out HPr.out L4.out K4.out (EW.out.step (Below.refl _ W).drew)).mono ?_; rintro e w1 ⟨f1, g1, f2, g2, rfl, hG1, hb1⟩; have G1 := Lib.hid hG1; have B1 := Lib.hid (show Below W.heap.size W w1 from (Below.refl _ W).drew.trans hb1); have BB1 := Lib.hid (B1.out.mono (show w.heap.size + 1 + 1 ≤ W.heap.size by have := HZ.out; omega)); clear hG1 hb1)
      | (go_at_call 67; refine (items_raw 6 f1 f2 g1 g2 w1).mono ?_; rintro e w2 ⟨rfl, hn2, hn3, hb2⟩; have N2 := Lib.hid (And.intro hn2 hn3); have B2 := Lib.hid hb2; have BB2 := Lib.hid (BB1.out.trans (hb2.mono (Nat.le_trans (show w.heap.size + 1 + 1 ≤ W.heap.size by have := HZ.out; omega) B1.out.size))); have B12 := Lib.hid (B1.out.trans (hb2.mono B1.out.size)); obtain ⟨_, _, _, _, _⟩ := blk2r (blk_below (w := W) N3.out B12.out (by have := HZ.out; omega)); clear hn2 hn3 hb2))
  all_goals
    have E1 := EW.out.step B1.out
    have hG2 := hM.items (k := 6) (by unfold InI64'; omega) N2.out.1 N2.out.2 (E1.ne (Nat.le_refl _)) (E1.ne (Nat.le_succ _)) (hM.move G1.out (Still.of_below B2.out) fun _ hg => .inl hg)
    have G2 := Lib.hid hG2
    obtain ⟨r0, r1, _, _, rz⟩ := blk2r (blk_below (w := W) N3.out B12.out (by have := HZ.out; omega))
    clear E1 hG2
    go_wp2_with fail
    refine bodyPost_ret (v := .agg #[fnv 94 #[.pointer (some ⟨w1.heap.size, 0, none⟩), .pointer (some ⟨w1.heap.size + 1, 0, none⟩)], fnv 96 #[.pointer (some ⟨w1.heap.size + 1, 0, none⟩), .pointer (some ⟨w1.heap.size, 0, none⟩)]]) (by simp [results, Tryz.results36, go_sem, r0, r1]) rfl ?_
    exact made_endR hM (hM.same G2.out (fun u h => fit_list h) (fun u _ => rd_items (k := 6) (w := (.mk 6 [] [] [x])) (r := (.mk 6 [] [] [y])) (by omega) rfl rfl u) (wn_items (k := 6) (w := (.mk 6 [] [] [x])) (r := (.mk 6 [] [] [y])) (by omega) rfl rfl)) (BW.out.trans (B12.out.mono BW.out.size)) (by omega) _ _

set_option maxRecDepth 100000 in
set_option maxHeartbeats 2000000 in
theorem ro_other (G : RG) (hM : RM G) (n : Nat) (X : Nat → Prop) (z w : World) (d1 : Nat) (wt rt : Sh) (vw vr : Value) (h1 : d1 ≤ 5) (hpw : partOk d1 wt = true) (hw : IsSh z wt vw) (hr : IsSh z rt vr) (he : EnvR X z w) (hne : ¬ wt.kd = 5) (hne2 : ¬ rt.kd = 5) (hne3 : ¬ wt.kd = rt.kd) :
    Calls Tryz.prog 36 #[vw, vr] w (MadeG G X (fun u => fitB wt u = true) (rdB (n + 1) wt rt) (wnB (n + 1) wt rt) w) := by
  have HRd := Lib.hid (fun u => rd_other (n := n) (w := wt) (r := rt) hne hne2 hne3 u)
  have HWn := Lib.hid (wn_other (n := n) (w := wt) (r := rt) hne hne2 hne3)
  have HWv := Lib.hid hw
  obtain ⟨p1, n1, m1, p2, n2, m2, p3, n3, m3, rfl⟩ := hw.agg
  obtain ⟨q1, i1, j1, q2, i2, j2, q3, i3, j3, rfl⟩ := hr.agg
  obtain ⟨k, hk⟩ : ∃ k, k = wt.kd := ⟨_, rfl⟩
  obtain ⟨k', hk'⟩ : ∃ k, k = rt.kd := ⟨_, rfl⟩
  rw [← hk] at hne hne3 HWv ⊢
  rw [← hk'] at hne2 hne3 ⊢
  have HPw := Lib.hid hpw
  have HN := three_new w (.cells #[.int .i64 k, .slice p1 n1 m1, .slice p2 n2 m2, .slice p3 n3 m3] 26) (.cells #[.int .i64 k', .slice q1 i1 j1, .slice q2 i2 j2, .slice q3 i3 j3] 26) (.cells #[.nilFunc, .nilFunc] 67)
  obtain ⟨W, hW⟩ : ∃ W, W = ((w.alloc (.cells #[.int .i64 k, .slice p1 n1 m1, .slice p2 n2 m2, .slice p3 n3 m3] 26)).alloc (.cells #[.int .i64 k', .slice q1 i1 j1, .slice q2 i2 j2, .slice q3 i3 j3] 26)).alloc (.cells #[.nilFunc, .nilFunc] 67) := ⟨_, rfl⟩
  have hbw : Below w.heap.size w W := by rw [hW]; exact ((below_alloc w _).alloc (by simp) _).alloc (by simp; omega) _
  have hz : W.heap.size = w.heap.size + 1 + 1 + 1 := by rw [hW]; simp
  rw [← hW] at HN
  have HZ := Lib.hid hz
  have EW : Hid (EnvR (withX X (w.heap.size + 1 + 1)) z W) := he.with hbw (by omega) (by omega)
  have N3 := Lib.hid HN.2.2
  have BW := Lib.hid hbw
  have HW := Lib.hid hW
  obtain ⟨x0, x1, x2, x3, _, _, _, _, xz⟩ := blk4 HN.1
  obtain ⟨y0, y1, y2, y3, _, _, _, _, yz⟩ := blk4 HN.2.1
  clear HN hbw hz hW hw hr he hpw hk hk'
  go_enter Tryz.func36, Tryz.ntmps36
  go_wp2_with fail
  rw [← HW.out]
  refine (other_raw k p1 p2 p3 n1 n2 n3 m1 m2 m3 W).mono ?_
  rintro e w1 ⟨rfl, hn1, hb1⟩
  have B1 := Lib.hid hb1
  obtain ⟨r0, r1, _, _, rz⟩ := blk2r (blk_below (w := W) N3.out hb1 (by have := HZ.out; omega))
  have G1 := Lib.hid (hM.other h1 HPw.out HWv.out (EW.out.step hb1) hn1 (EW.out.ne (Nat.le_refl _)))
  clear hn1 hb1 x0 x1 x2 x3 xz y0 y1 y2 y3 yz
  go_wp2_with fail
  refine bodyPost_ret (v := .agg #[fnv 85 #[], fnv 86 #[.pointer (some ⟨W.heap.size, 0, none⟩)]]) (by simp [results, Tryz.results36, go_sem, r0, r1]) rfl ?_
  exact made_endR hM (hM.same G1.out (fun _ _ => trivial) (fun u _ => HRd.out u) HWn.out) (BW.out.trans (B1.out.mono BW.out.size)) (by omega) _ _

set_option maxRecDepth 100000 in
set_option maxHeartbeats 2000000 in
theorem ro_plain1 (G : RG) (hM : RM G) (n : Nat) (X : Nat → Prop) (z w : World) (wt rt : Sh) (p1 p2 p3 q1 q2 q3 : Option Addr) (n1 n2 n3 m1 m2 m3 i1 i2 i3 j1 j2 j3 : Nat) (he : EnvR X z w) (hk : wt.kd = 1) (hk' : rt.kd = 1) (h8 : ∀ u, fitB wt u = true → u.tx.size ≤ 8000) :
    Calls Tryz.prog 36 #[.agg #[.int .i64 1, .slice p1 n1 m1, .slice p2 n2 m2, .slice p3 n3 m3], .agg #[.int .i64 1, .slice q1 i1 j1, .slice q2 i2 j2, .slice q3 i3 j3]] w (MadeG G X (fun u => fitB wt u = true) (rdB (n + 1) wt rt) (wnB (n + 1) wt rt) w) := by
  have HRd := Lib.hid (fun u => rd_plain (n := n) (w := wt) (r := rt) (hk.trans hk'.symm) (by omega) u)
  have HWn := Lib.hid (wn_plain (n := n) (w := wt) (r := rt) (hk.trans hk'.symm) (by omega))
  have HN := three_new w (.cells #[.int .i64 1, .slice p1 n1 m1, .slice p2 n2 m2, .slice p3 n3 m3] 26) (.cells #[.int .i64 1, .slice q1 i1 j1, .slice q2 i2 j2, .slice q3 i3 j3] 26) (.cells #[.nilFunc, .nilFunc] 67)
  obtain ⟨W, hW⟩ : ∃ W, W = ((w.alloc (.cells #[.int .i64 1, .slice p1 n1 m1, .slice p2 n2 m2, .slice p3 n3 m3] 26)).alloc (.cells #[.int .i64 1, .slice q1 i1 j1, .slice q2 i2 j2, .slice q3 i3 j3] 26)).alloc (.cells #[.nilFunc, .nilFunc] 67) := ⟨_, rfl⟩
  have hbw : Below w.heap.size w W := by rw [hW]; exact ((below_alloc w _).alloc (by simp) _).alloc (by simp; omega) _
  have hz : W.heap.size = w.heap.size + 1 + 1 + 1 := by rw [hW]; simp
  rw [← hW] at HN
  have HZ := Lib.hid hz
  have EW : Hid (EnvR (withX X (w.heap.size + 1 + 1)) z W) := he.with hbw (by omega) (by omega)
  have N3 := Lib.hid HN.2.2
  have BW := Lib.hid hbw
  have HW := Lib.hid hW
  obtain ⟨x0, x1, x2, x3, _, _, _, _, xz⟩ := blk4 HN.1
  obtain ⟨y0, y1, y2, y3, _, _, _, _, yz⟩ := blk4 HN.2.1
  clear HN hbw hz hW he hk hk'
  go_enter Tryz.func36, Tryz.ntmps36
  go_wp2_with fail
  rw [← HW.out]
  refine (plain_raw W).mono ?_
  rintro e w1 ⟨rfl, hb1⟩
  have B1 := Lib.hid hb1
  obtain ⟨r0, r1, _, _, rz⟩ := blk2r (blk_below (w := W) N3.out hb1 (by have := HZ.out; omega))
  clear hb1 x0 x1 x2 x3 xz y0 y1 y2 y3 yz
  go_wp2_with fail
  refine bodyPost_ret (v := .agg #[fnv 101 #[], fnv 93 #[]]) (by simp [results, Tryz.results36, go_sem, r0, r1]) rfl ?_
  exact made_endR hM (hM.same hM.plain h8 (fun u _ => HRd.out u) HWn.out) (BW.out.trans (B1.out.mono BW.out.size)) (by omega) _ _

set_option maxRecDepth 100000 in
set_option maxHeartbeats 2000000 in
theorem ro_plain2 (G : RG) (hM : RM G) (n : Nat) (X : Nat → Prop) (z w : World) (wt rt : Sh) (p1 p2 p3 q1 q2 q3 : Option Addr) (n1 n2 n3 m1 m2 m3 i1 i2 i3 j1 j2 j3 : Nat) (he : EnvR X z w) (hk : wt.kd = 2) (hk' : rt.kd = 2) (h8 : ∀ u, fitB wt u = true → u.tx.size ≤ 8000) :
    Calls Tryz.prog 36 #[.agg #[.int .i64 2, .slice p1 n1 m1, .slice p2 n2 m2, .slice p3 n3 m3], .agg #[.int .i64 2, .slice q1 i1 j1, .slice q2 i2 j2, .slice q3 i3 j3]] w (MadeG G X (fun u => fitB wt u = true) (rdB (n + 1) wt rt) (wnB (n + 1) wt rt) w) := by
  have HRd := Lib.hid (fun u => rd_plain (n := n) (w := wt) (r := rt) (hk.trans hk'.symm) (by omega) u)
  have HWn := Lib.hid (wn_plain (n := n) (w := wt) (r := rt) (hk.trans hk'.symm) (by omega))
  have HN := three_new w (.cells #[.int .i64 2, .slice p1 n1 m1, .slice p2 n2 m2, .slice p3 n3 m3] 26) (.cells #[.int .i64 2, .slice q1 i1 j1, .slice q2 i2 j2, .slice q3 i3 j3] 26) (.cells #[.nilFunc, .nilFunc] 67)
  obtain ⟨W, hW⟩ : ∃ W, W = ((w.alloc (.cells #[.int .i64 2, .slice p1 n1 m1, .slice p2 n2 m2, .slice p3 n3 m3] 26)).alloc (.cells #[.int .i64 2, .slice q1 i1 j1, .slice q2 i2 j2, .slice q3 i3 j3] 26)).alloc (.cells #[.nilFunc, .nilFunc] 67) := ⟨_, rfl⟩
  have hbw : Below w.heap.size w W := by rw [hW]; exact ((below_alloc w _).alloc (by simp) _).alloc (by simp; omega) _
  have hz : W.heap.size = w.heap.size + 1 + 1 + 1 := by rw [hW]; simp
  rw [← hW] at HN
  have HZ := Lib.hid hz
  have EW : Hid (EnvR (withX X (w.heap.size + 1 + 1)) z W) := he.with hbw (by omega) (by omega)
  have N3 := Lib.hid HN.2.2
  have BW := Lib.hid hbw
  have HW := Lib.hid hW
  obtain ⟨x0, x1, x2, x3, _, _, _, _, xz⟩ := blk4 HN.1
  obtain ⟨y0, y1, y2, y3, _, _, _, _, yz⟩ := blk4 HN.2.1
  clear HN hbw hz hW he hk hk'
  go_enter Tryz.func36, Tryz.ntmps36
  go_wp2_with fail
  rw [← HW.out]
  refine (plain_raw W).mono ?_
  rintro e w1 ⟨rfl, hb1⟩
  have B1 := Lib.hid hb1
  obtain ⟨r0, r1, _, _, rz⟩ := blk2r (blk_below (w := W) N3.out hb1 (by have := HZ.out; omega))
  clear hb1 x0 x1 x2 x3 xz y0 y1 y2 y3 yz
  go_wp2_with fail
  refine bodyPost_ret (v := .agg #[fnv 101 #[], fnv 93 #[]]) (by simp [results, Tryz.results36, go_sem, r0, r1]) rfl ?_
  exact made_endR hM (hM.same hM.plain h8 (fun u _ => HRd.out u) HWn.out) (BW.out.trans (B1.out.mono BW.out.size)) (by omega) _ _

set_option maxRecDepth 100000 in
set_option maxHeartbeats 2000000 in
theorem ro_plain3 (G : RG) (hM : RM G) (n : Nat) (X : Nat → Prop) (z w : World) (wt rt : Sh) (p1 p2 p3 q1 q2 q3 : Option Addr) (n1 n2 n3 m1 m2 m3 i1 i2 i3 j1 j2 j3 : Nat) (he : EnvR X z w) (hk : wt.kd = 3) (hk' : rt.kd = 3) (h8 : ∀ u, fitB wt u = true → u.tx.size ≤ 8000) :
    Calls Tryz.prog 36 #[.agg #[.int .i64 3, .slice p1 n1 m1, .slice p2 n2 m2, .slice p3 n3 m3], .agg #[.int .i64 3, .slice q1 i1 j1, .slice q2 i2 j2, .slice q3 i3 j3]] w (MadeG G X (fun u => fitB wt u = true) (rdB (n + 1) wt rt) (wnB (n + 1) wt rt) w) := by
  have HRd := Lib.hid (fun u => rd_plain (n := n) (w := wt) (r := rt) (hk.trans hk'.symm) (by omega) u)
  have HWn := Lib.hid (wn_plain (n := n) (w := wt) (r := rt) (hk.trans hk'.symm) (by omega))
  have HN := three_new w (.cells #[.int .i64 3, .slice p1 n1 m1, .slice p2 n2 m2, .slice p3 n3 m3] 26) (.cells #[.int .i64 3, .slice q1 i1 j1, .slice q2 i2 j2, .slice q3 i3 j3] 26) (.cells #[.nilFunc, .nilFunc] 67)
  obtain ⟨W, hW⟩ : ∃ W, W = ((w.alloc (.cells #[.int .i64 3, .slice p1 n1 m1, .slice p2 n2 m2, .slice p3 n3 m3] 26)).alloc (.cells #[.int .i64 3, .slice q1 i1 j1, .slice q2 i2 j2, .slice q3 i3 j3] 26)).alloc (.cells #[.nilFunc, .nilFunc] 67) := ⟨_, rfl⟩
  have hbw : Below w.heap.size w W := by rw [hW]; exact ((below_alloc w _).alloc (by simp) _).alloc (by simp; omega) _
  have hz : W.heap.size = w.heap.size + 1 + 1 + 1 := by rw [hW]; simp
  rw [← hW] at HN
  have HZ := Lib.hid hz
  have EW : Hid (EnvR (withX X (w.heap.size + 1 + 1)) z W) := he.with hbw (by omega) (by omega)
  have N3 := Lib.hid HN.2.2
  have BW := Lib.hid hbw
  have HW := Lib.hid hW
  obtain ⟨x0, x1, x2, x3, _, _, _, _, xz⟩ := blk4 HN.1
  obtain ⟨y0, y1, y2, y3, _, _, _, _, yz⟩ := blk4 HN.2.1
  clear HN hbw hz hW he hk hk'
  go_enter Tryz.func36, Tryz.ntmps36
  go_wp2_with fail
  rw [← HW.out]
  refine (plain_raw W).mono ?_
  rintro e w1 ⟨rfl, hb1⟩
  have B1 := Lib.hid hb1
  obtain ⟨r0, r1, _, _, rz⟩ := blk2r (blk_below (w := W) N3.out hb1 (by have := HZ.out; omega))
  clear hb1 x0 x1 x2 x3 xz y0 y1 y2 y3 yz
  go_wp2_with fail
  refine bodyPost_ret (v := .agg #[fnv 101 #[], fnv 93 #[]]) (by simp [results, Tryz.results36, go_sem, r0, r1]) rfl ?_
  exact made_endR hM (hM.same hM.plain h8 (fun u _ => HRd.out u) HWn.out) (BW.out.trans (B1.out.mono BW.out.size)) (by omega) _ _

set_option maxRecDepth 100000 in
set_option maxHeartbeats 2000000 in
theorem ro_pick (G : RG) (hM : RM G) (n : Nat) (X : Nat → Prop) (z w : World) (wt rt : Sh) (p1 p2 p3 q1 q2 q3 : Option Addr) (n1 n2 n3 m1 m2 m3 i1 i2 i3 j1 j2 j3 : Nat) (he : EnvR X z w) (hk : wt.kd = 4) (hk' : rt.kd = 4) (hs1 : IsStrs z (.slice p1 n1 m1) wt.sy) (hs2 : IsStrs z (.slice q1 i1 j1) rt.sy) (h8 : ∀ s ∈ wt.sy, s.size ≤ 8) (h8' : ∀ s ∈ rt.sy, s.size ≤ 8) :
    Calls Tryz.prog 36 #[.agg #[.int .i64 4, .slice p1 n1 m1, .slice p2 n2 m2, .slice p3 n3 m3], .agg #[.int .i64 4, .slice q1 i1 j1, .slice q2 i2 j2, .slice q3 i3 j3]] w (MadeG G X (fun u => fitB wt u = true) (rdB (n + 1) wt rt) (wnB (n + 1) wt rt) w) := by
  have HRd := Lib.hid (fun u => rd_pick (n := n) (w := wt) (r := rt) hk hk' u)
  have HWn := Lib.hid (wn_pick (n := n) (w := wt) (r := rt) hk hk')
  have HS := Lib.hid (And.intro hs1 (And.intro hs2 (And.intro h8 h8')))
  have HN := three_new w (.cells #[.int .i64 4, .slice p1 n1 m1, .slice p2 n2 m2, .slice p3 n3 m3] 26) (.cells #[.int .i64 4, .slice q1 i1 j1, .slice q2 i2 j2, .slice q3 i3 j3] 26) (.cells #[.nilFunc, .nilFunc] 67)
  obtain ⟨W, hW⟩ : ∃ W, W = ((w.alloc (.cells #[.int .i64 4, .slice p1 n1 m1, .slice p2 n2 m2, .slice p3 n3 m3] 26)).alloc (.cells #[.int .i64 4, .slice q1 i1 j1, .slice q2 i2 j2, .slice q3 i3 j3] 26)).alloc (.cells #[.nilFunc, .nilFunc] 67) := ⟨_, rfl⟩
  have hbw : Below w.heap.size w W := by rw [hW]; exact ((below_alloc w _).alloc (by simp) _).alloc (by simp; omega) _
  have hz : W.heap.size = w.heap.size + 1 + 1 + 1 := by rw [hW]; simp
  rw [← hW] at HN
  have HZ := Lib.hid hz
  have EW : Hid (EnvR (withX X (w.heap.size + 1 + 1)) z W) := he.with hbw (by omega) (by omega)
  have N3 := Lib.hid HN.2.2
  have BW := Lib.hid hbw
  have HW := Lib.hid hW
  obtain ⟨x0, x1, x2, x3, _, _, _, _, xz⟩ := blk4 HN.1
  obtain ⟨y0, y1, y2, y3, _, _, _, _, yz⟩ := blk4 HN.2.1
  clear HN hbw hz hW he hk hk' hs1 hs2 h8 h8'
  go_enter Tryz.func36, Tryz.ntmps36
  go_wp2_with fail
  rw [← HW.out]
  refine (pick_raw p1 q1 n1 i1 m1 j1 W).mono ?_
  rintro e w1 ⟨rfl, hn1, hn2, hb1⟩
  have B1 := Lib.hid hb1
  obtain ⟨r0, r1, _, _, rz⟩ := blk2r (blk_below (w := W) N3.out hb1 (by have := HZ.out; omega))
  have G1 := Lib.hid (hM.pick HS.out.1 HS.out.2.1 HS.out.2.2.1 HS.out.2.2.2 (EW.out.step hb1) hn1 hn2 (EW.out.ne (Nat.le_refl _)) (EW.out.ne (Nat.le_succ _)))
  clear hn1 hn2 hb1 x0 x1 x2 x3 xz y0 y1 y2 y3 yz
  go_wp2_with fail
  refine bodyPost_ret (v := .agg #[fnv 88 #[.pointer (some ⟨W.heap.size + 1, 0, none⟩)], fnv 91 #[.pointer (some ⟨W.heap.size, 0, none⟩), .pointer (some ⟨W.heap.size + 1, 0, none⟩)]]) (by simp [results, Tryz.results36, go_sem, r0, r1]) rfl ?_
  exact made_endR hM (hM.same G1.out (fun _ _ => trivial) (fun u _ => HRd.out u) HWn.out) (BW.out.trans (B1.out.mono BW.out.size)) (by omega) _ _
end Go.Proofs.YtnnjhcjalmdmcaaGreat
