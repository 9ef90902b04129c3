/- Walks: spec.l05Can. -/
import Derived.Test.YtbpidhlpakobiaaGRm4W
namespace Go.Proofs.Ytbpidhlpakobiaa
open Go.RowKit

/-- spec.l05Can's contract at right shapes of so many levels together. -/
def ScAt (n : Nat) : Prop := ∀ (d1 d2 : Nat) (wt rt : Sh) (vw vr : Value) (w : World), d1 + d2 ≤ n → d1 ≤ 5 → d2 ≤ 5 → partOk d1 wt = true → partOk d2 rt = true → IsSh w wt vw → IsSh w rt vr →
  Calls Try.prog 19 #[vw, vr] w fun e w' => e = .returned (.bool (!(wnB n wt rt).isSome)) ∧ Below w.heap.size w w'

set_option maxRecDepth 100000 in
set_option maxHeartbeats 1000000 in
theorem sc_wrap (n : Nat) (ih : ScAt n) (w : World) (d1 d2 : Nat) (wt x : Sh) (vw vr : Value) (hd : d1 + d2 ≤ n) (h1 : d1 ≤ 5) (h2 : d2 ≤ 5) (hpw : partOk d1 wt = true) (hpr : partOk d2 x = true) (hw : IsSh w wt vw) (hr : IsSh w (.mk 5 [] [] [x]) vr) (hne : ¬ wt.kd = 5) :
    Calls Try.prog 19 #[vw, vr] w fun e w' => e = .returned (.bool (!(wnB (n + 1) wt (.mk 5 [] [] [x])).isSome)) ∧ Below w.heap.size w w' := by
  have HWv := Lib.hid hw
  have HU := Lib.hid (wn_wrap (n := n) (w := wt) (r := .mk 5 [] [] [x]) rfl hne)
  obtain ⟨p1, n1, m1, p2, n2, m2, p3, n3, m3, rfl⟩ := hw.agg
  obtain ⟨q1, j1, q2, j2, q3, j3, rfl, _, _, _, s3⟩ := hr.open
  obtain ⟨_, b, off, t1, u1, y1, t2, u2, y2, t3, u3, y3, rfl, k0, k1, k2, k3, k4, hm1, hm2⟩ := one_at s3
  obtain ⟨k, hk⟩ : ∃ k, k = wt.kd := ⟨_, rfl⟩
  rw [← hk] at hne HWv ⊢
  have K4 := Lib.hid k4
  obtain ⟨W, hW⟩ : ∃ W, W = (w.alloc (.cells #[.int .i64 k, .slice p1 n1 m1, .slice p2 n2 m2, .slice p3 n3 m3] 30)).alloc (.cells #[.int .i64 5, .slice q1 0 j1, .slice q2 0 j2, .slice (some ⟨b, off, none⟩) 1 j3] 30) := ⟨_, rfl⟩
  have HN := two_new w (.cells #[.int .i64 k, .slice p1 n1 m1, .slice p2 n2 m2, .slice p3 n3 m3] 30) (.cells #[.int .i64 5, .slice q1 0 j1, .slice q2 0 j2, .slice (some ⟨b, off, none⟩) 1 j3] 30)
  have hbw : Below w.heap.size w W := by rw [hW]; exact (below_alloc w _).alloc (by simp) _
  have hz : W.heap.size = w.heap.size + 1 + 1 := by rw [hW]; simp
  rw [← hW] at HN
  have HZ := Lib.hid hz
  have BW := Lib.hid hbw
  have HW := Lib.hid hW
  obtain ⟨x0, x1, x2, x3, _, _, _, _, xz⟩ := blk4 HN.1
  obtain ⟨y0, y1', y2', y3', _, _, _, _, yz⟩ := blk4 HN.2
  have HKp := Keeps.of_below hbw
  have e0 := HKp _ _ _ k0
  have e1 := HKp _ _ _ k1
  have e2 := HKp _ _ _ k2
  have e3 := HKp _ _ _ k3
  have bz : b < w.heap.size := World.block_lt_of_cell? w ⟨b, off, none⟩ k0
  have HPw := Lib.hid hpw
  have HPr := Lib.hid hpr
  have IH := Lib.hid ih
  have HSK : Hid (∀ w', Below W.heap.size W w' → (w'.cell? ⟨w.heap.size, 0, none⟩ = some (.int .i64 k) ∧ w'.cell? ⟨w.heap.size, 1, none⟩ = some (.slice p1 n1 m1) ∧ w'.cell? ⟨w.heap.size, 2, none⟩ = some (.slice p2 n2 m2) ∧ w'.cell? ⟨w.heap.size, 3, none⟩ = some (.slice p3 n3 m3) ∧ w'.cell? ⟨w.heap.size + 1, 3, none⟩ = some (.slice (some ⟨b, off, none⟩) 1 j3) ∧ w'.cell? ⟨b, off, none⟩ = some (.int .i64 x.kd) ∧ w'.cell? ⟨b, off + 1, none⟩ = some (.slice t1 u1 y1) ∧ w'.cell? ⟨b, off + 2, none⟩ = some (.slice t2 u2 y2) ∧ w'.cell? ⟨b, off + 3, none⟩ = some (.slice t3 u3 y3))) := fun w' hb => by
    have k : ∀ b o c, b < W.heap.size → W.cell? ⟨b, o, none⟩ = some c → w'.cell? ⟨b, o, none⟩ = some c := fun b o c hlt hc => by rw [hb.cell (p := ⟨b, o, none⟩) hlt]; exact hc
    exact ⟨k _ _ _ (by omega) x0, k _ _ _ (by omega) x1, k _ _ _ (by omega) x2, k _ _ _ (by omega) x3, k _ _ _ (by omega) y3', k _ _ _ (by omega) e0, k _ _ _ (by omega) e1, k _ _ _ (by omega) e2, k _ _ _ (by omega) e3⟩
  clear HN hbw hz hW hw hr s3 k0 k1 k2 k3 k4 hk HKp hpw hpr ih x0 x1 x2 x3 xz y0 y1' y2' y3' yz e0 e1 e2 e3 bz
  go_enter Try.func19, Try.ntmps19
  go_upto_region 2 with fail
  rw [← HW.out]
  go_region_held3 (fun w' => w'.cell? ⟨w.heap.size, 0, none⟩ = some (.int .i64 k) ∧ w'.cell? ⟨w.heap.size, 1, none⟩ = some (.slice p1 n1 m1) ∧ w'.cell? ⟨w.heap.size, 2, none⟩ = some (.slice p2 n2 m2) ∧ w'.cell? ⟨w.heap.size, 3, none⟩ = some (.slice p3 n3 m3) ∧ w'.cell? ⟨w.heap.size + 1, 3, none⟩ = some (.slice (some ⟨b, off, none⟩) 1 j3) ∧ w'.cell? ⟨b, off, none⟩ = some (.int .i64 x.kd) ∧ w'.cell? ⟨b, off + 1, none⟩ = some (.slice t1 u1 y1) ∧ w'.cell? ⟨b, off + 2, none⟩ = some (.slice t2 u2 y2) ∧ w'.cell? ⟨b, off + 3, none⟩ = some (.slice t3 u3 y3))
    (first
      | exact HSK.out _ (Below.refl _ W).drew
      | exact HSK.out _ B1.out)
    (first
      | (go_at_call 19; refine (IH.out d1 d2 wt x _ _ W.drew hd h1 h2 HPw.out HPr.out (IsSh.keep (Keeps.of_below BW.out.drew) _ _ HWv.out) (IsSh.keep (Keeps.of_below BW.out.drew) _ _ K4.out)).mono ?_; rintro e w1 ⟨rfl, hb1⟩; have B1 := Lib.hid (show Below W.heap.size W w1 from (Below.refl _ W).drew.trans hb1); clear hb1))
  all_goals
    go_wp2_with fail
    go_ret
    exact ⟨ret_bool (by rw [HU.out]; simp [oneOf, Sh.su]), BW.out.trans (B1.out.mono BW.out.size)⟩

set_option maxRecDepth 100000 in
set_option maxHeartbeats 1000000 in
theorem sc_items5 (n : Nat) (ih : ScAt n) (w : World) (d1 d2 : Nat) (x y : Sh) (vw vr : Value) (hd : d1 + d2 ≤ n) (h1 : d1 ≤ 5) (h2 : d2 ≤ 5) (hpw : partOk d1 x = true) (hpr : partOk d2 y = true) (hw : IsSh w (.mk 5 [] [] [x]) vw) (hr : IsSh w (.mk 5 [] [] [y]) vr) :
    Calls Try.prog 19 #[vw, vr] w fun e w' => e = .returned (.bool (!(wnB (n + 1) (.mk 5 [] [] [x]) (.mk 5 [] [] [y])).isSome)) ∧ Below w.heap.size w w' := by
  have HU : Hid ((wnB (n + 1) (.mk 5 [] [] [x]) (.mk 5 [] [] [y])).isSome = (wnB n x y).isSome) := by show _ = _; rw [wn_items (k := 5) (w := (.mk 5 [] [] [x])) (r := (.mk 5 [] [] [y])) (by omega) rfl rfl]; cases h : wnB n x y <;> simp [oneOf, Sh.su, h]
  obtain ⟨p1, m1, p2, m2, p3, m3, rfl, _, _, _, s3⟩ := hw.open
  obtain ⟨_, a, aff, a1, v1, z1, a2, v2, z2, a3, v3, z3, rfl, l0, l1, l2, l3, l4, hn1, hn2⟩ := one_at s3
  obtain ⟨q1, j1, q2, j2, q3, j3, rfl, _, _, _, r3⟩ := hr.open
  obtain ⟨_, b, off, t1, u1, y1, t2, u2, y2, t3, u3, y3, rfl, k0, k1, k2, k3, k4, hm1, hm2⟩ := one_at r3
  have K4 := Lib.hid k4
  have L4 := Lib.hid l4
  obtain ⟨W, hW⟩ : ∃ W, W = (w.alloc (.cells #[.int .i64 5, .slice p1 0 m1, .slice p2 0 m2, .slice (some ⟨a, aff, none⟩) 1 m3] 30)).alloc (.cells #[.int .i64 5, .slice q1 0 j1, .slice q2 0 j2, .slice (some ⟨b, off, none⟩) 1 j3] 30) := ⟨_, rfl⟩
  have HN := two_new w (.cells #[.int .i64 5, .slice p1 0 m1, .slice p2 0 m2, .slice (some ⟨a, aff, none⟩) 1 m3] 30) (.cells #[.int .i64 5, .slice q1 0 j1, .slice q2 0 j2, .slice (some ⟨b, off, none⟩) 1 j3] 30)
  have hbw : Below w.heap.size w W := by rw [hW]; exact (below_alloc w _).alloc (by simp) _
  have hz : W.heap.size = w.heap.size + 1 + 1 := by rw [hW]; simp
  rw [← hW] at HN
  have HZ := Lib.hid hz
  have BW := Lib.hid hbw
  have HW := Lib.hid hW
  obtain ⟨x0, x1, x2, x3, _, _, _, _, xz⟩ := blk4 HN.1
  obtain ⟨y0, y1', y2', y3', _, _, _, _, yz⟩ := blk4 HN.2
  have HKp := Keeps.of_below hbw
  have e0 := HKp _ _ _ k0
  have e1 := HKp _ _ _ k1
  have e2 := HKp _ _ _ k2
  have e3 := HKp _ _ _ k3
  have g0 := HKp _ _ _ l0
  have g1 := HKp _ _ _ l1
  have g2 := HKp _ _ _ l2
  have g3 := HKp _ _ _ l3
  have bz : b < w.heap.size := World.block_lt_of_cell? w ⟨b, off, none⟩ k0
  have az : a < w.heap.size := World.block_lt_of_cell? w ⟨a, aff, none⟩ l0
  have HPw := Lib.hid hpw
  have HPr := Lib.hid hpr
  have IH := Lib.hid ih
  have HSK : Hid (∀ w', Below W.heap.size W w' → (w'.cell? ⟨w.heap.size, 3, none⟩ = some (.slice (some ⟨a, aff, none⟩) 1 m3) ∧ w'.cell? ⟨w.heap.size + 1, 3, none⟩ = some (.slice (some ⟨b, off, none⟩) 1 j3) ∧ w'.cell? ⟨a, aff, none⟩ = some (.int .i64 x.kd) ∧ w'.cell? ⟨a, aff + 1, none⟩ = some (.slice a1 v1 z1) ∧ w'.cell? ⟨a, aff + 2, none⟩ = some (.slice a2 v2 z2) ∧ w'.cell? ⟨a, aff + 3, none⟩ = some (.slice a3 v3 z3) ∧ w'.cell? ⟨b, off, none⟩ = some (.int .i64 y.kd) ∧ w'.cell? ⟨b, off + 1, none⟩ = some (.slice t1 u1 y1) ∧ w'.cell? ⟨b, off + 2, none⟩ = some (.slice t2 u2 y2) ∧ w'.cell? ⟨b, off + 3, none⟩ = some (.slice t3 u3 y3))) := fun w' hb => by
    have k : ∀ b o c, b < W.heap.size → W.cell? ⟨b, o, none⟩ = some c → w'.cell? ⟨b, o, none⟩ = some c := fun b o c hlt hc => by rw [hb.cell (p := ⟨b, o, none⟩) hlt]; exact hc
    exact ⟨k _ _ _ (by omega) x3, k _ _ _ (by omega) y3', k _ _ _ (by omega) g0, k _ _ _ (by omega) g1, k _ _ _ (by omega) g2, k _ _ _ (by omega) g3, k _ _ _ (by omega) e0, k _ _ _ (by omega) e1, k _ _ _ (by omega) e2, k _ _ _ (by omega) e3⟩
  clear HN hbw hz hW hw hr s3 r3 k0 k1 k2 k3 k4 l0 l1 l2 l3 l4 HKp hpw hpr ih x0 x1 x2 x3 xz y0 y1' y2' y3' yz e0 e1 e2 e3 g0 g1 g2 g3 bz az
  go_enter Try.func19, Try.ntmps19
  go_upto_region 12 with fail
  rw [← HW.out]
  go_region_held3 (fun w' => w'.cell? ⟨w.heap.size, 3, none⟩ = some (.slice (some ⟨a, aff, none⟩) 1 m3) ∧ w'.cell? ⟨w.heap.size + 1, 3, none⟩ = some (.slice (some ⟨b, off, none⟩) 1 j3) ∧ w'.cell? ⟨a, aff, none⟩ = some (.int .i64 x.kd) ∧ w'.cell? ⟨a, aff + 1, none⟩ = some (.slice a1 v1 z1) ∧ w'.cell? ⟨a, aff + 2, none⟩ = some (.slice a2 v2 z2) ∧ w'.cell? ⟨a, aff + 3, none⟩ = some (.slice a3 v3 z3) ∧ w'.cell? ⟨b, off, none⟩ = some (.int .i64 y.kd) ∧ w'.cell? ⟨b, off + 1, none⟩ = some (.slice t1 u1 y1) ∧ w'.cell? ⟨b, off + 2, none⟩ = some (.slice t2 u2 y2) ∧ w'.cell? ⟨b, off + 3, none⟩ = some (.slice t3 u3 y3))
    (first
      | exact HSK.out _ (Below.refl _ W).drew
      | exact HSK.out _ B1.out)
    (first
      | (go_at_call 19; refine (IH.out d1 d2 x y _ _ W.drew hd h1 h2 HPw.out HPr.out (IsSh.keep (Keeps.of_below BW.out.drew) _ _ L4.out) (IsSh.keep (Keeps.of_below BW.out.drew) _ _ K4.out)).mono ?_; rintro e w1 ⟨rfl, hb1⟩; have B1 := Lib.hid (show Below W.heap.size W w1 from (Below.refl _ W).drew.trans hb1); clear hb1))
  all_goals
    go_wp2_with fail
    go_ret
    exact ⟨ret_bool (by rw [HU.out]; simp), BW.out.trans (B1.out.mono BW.out.size)⟩

set_option maxRecDepth 100000 in
set_option maxHeartbeats 1000000 in
theorem sc_items6 (n : Nat) (ih : ScAt n) (w : World) (d1 d2 : Nat) (x y : Sh) (vw vr : Value) (hd : d1 + d2 ≤ n) (h1 : d1 ≤ 5) (h2 : d2 ≤ 5) (hpw : partOk d1 x = true) (hpr : partOk d2 y = true) (hw : IsSh w (.mk 6 [] [] [x]) vw) (hr : IsSh w (.mk 6 [] [] [y]) vr) :
    Calls Try.prog 19 #[vw, vr] w fun e w' => e = .returned (.bool (!(wnB (n + 1) (.mk 6 [] [] [x]) (.mk 6 [] [] [y])).isSome)) ∧ Below w.heap.size w w' := by
  have HU : Hid ((wnB (n + 1) (.mk 6 [] [] [x]) (.mk 6 [] [] [y])).isSome = (wnB n x y).isSome) := by show _ = _; rw [wn_items (k := 6) (w := (.mk 6 [] [] [x])) (r := (.mk 6 [] [] [y])) (by omega) rfl rfl]; cases h : wnB n x y <;> simp [oneOf, Sh.su, h]
  obtain ⟨p1, m1, p2, m2, p3, m3, rfl, _, _, _, s3⟩ := hw.open
  obtain ⟨_, a, aff, a1, v1, z1, a2, v2, z2, a3, v3, z3, rfl, l0, l1, l2, l3, l4, hn1, hn2⟩ := one_at s3
  obtain ⟨q1, j1, q2, j2, q3, j3, rfl, _, _, _, r3⟩ := hr.open
  obtain ⟨_, b, off, t1, u1, y1, t2, u2, y2, t3, u3, y3, rfl, k0, k1, k2, k3, k4, hm1, hm2⟩ := one_at r3
  have K4 := Lib.hid k4
  have L4 := Lib.hid l4
  obtain ⟨W, hW⟩ : ∃ W, W = (w.alloc (.cells #[.int .i64 6, .slice p1 0 m1, .slice p2 0 m2, .slice (some ⟨a, aff, none⟩) 1 m3] 30)).alloc (.cells #[.int .i64 6, .slice q1 0 j1, .slice q2 0 j2, .slice (some ⟨b, off, none⟩) 1 j3] 30) := ⟨_, rfl⟩
  have HN := two_new w (.cells #[.int .i64 6, .slice p1 0 m1, .slice p2 0 m2, .slice (some ⟨a, aff, none⟩) 1 m3] 30) (.cells #[.int .i64 6, .slice q1 0 j1, .slice q2 0 j2, .slice (some ⟨b, off, none⟩) 1 j3] 30)
  have hbw : Below w.heap.size w W := by rw [hW]; exact (below_alloc w _).alloc (by simp) _
  have hz : W.heap.size = w.heap.size + 1 + 1 := by rw [hW]; simp
  rw [← hW] at HN
  have HZ := Lib.hid hz
  have BW := Lib.hid hbw
  have HW := Lib.hid hW
  obtain ⟨x0, x1, x2, x3, _, _, _, _, xz⟩ := blk4 HN.1
  obtain ⟨y0, y1', y2', y3', _, _, _, _, yz⟩ := blk4 HN.2
  have HKp := Keeps.of_below hbw
  have e0 := HKp _ _ _ k0
  have e1 := HKp _ _ _ k1
  have e2 := HKp _ _ _ k2
  have e3 := HKp _ _ _ k3
  have g0 := HKp _ _ _ l0
  have g1 := HKp _ _ _ l1
  have g2 := HKp _ _ _ l2
  have g3 := HKp _ _ _ l3
  have bz : b < w.heap.size := World.block_lt_of_cell? w ⟨b, off, none⟩ k0
  have az : a < w.heap.size := World.block_lt_of_cell? w ⟨a, aff, none⟩ l0
  have HPw := Lib.hid hpw
  have HPr := Lib.hid hpr
  have IH := Lib.hid ih
  have HSK : Hid (∀ w', Below W.heap.size W w' → (w'.cell? ⟨w.heap.size, 3, none⟩ = some (.slice (some ⟨a, aff, none⟩) 1 m3) ∧ w'.cell? ⟨w.heap.size + 1, 3, none⟩ = some (.slice (some ⟨b, off, none⟩) 1 j3) ∧ w'.cell? ⟨a, aff, none⟩ = some (.int .i64 x.kd) ∧ w'.cell? ⟨a, aff + 1, none⟩ = some (.slice a1 v1 z1) ∧ w'.cell? ⟨a, aff + 2, none⟩ = some (.slice a2 v2 z2) ∧ w'.cell? ⟨a, aff + 3, none⟩ = some (.slice a3 v3 z3) ∧ w'.cell? ⟨b, off, none⟩ = some (.int .i64 y.kd) ∧ w'.cell? ⟨b, off + 1, none⟩ = some (.slice t1 u1 y1) ∧ w'.cell? ⟨b, off + 2, none⟩ = some (.slice t2 u2 y2) ∧ w'.cell? ⟨b, off + 3, none⟩ = some (.slice t3 u3 y3))) := fun w' hb => by
    have k : ∀ b o c, b < W.heap.size → W.cell? ⟨b, o, none⟩ = some c → w'.cell? ⟨b, o, none⟩ = some c := fun b o c hlt hc => by rw [hb.cell (p := ⟨b, o, none⟩) hlt]; exact hc
    exact ⟨k _ _ _ (by omega) x3, k _ _ _ (by omega) y3', k _ _ _ (by omega) g0, k _ _ _ (by omega) g1, k _ _ _ (by omega) g2, k _ _ _ (by omega) g3, k _ _ _ (by omega) e0, k _ _ _ (by omega) e1, k _ _ _ (by omega) e2, k _ _ _ (by omega) e3⟩
  clear HN hbw hz hW hw hr s3 r3 k0 k1 k2 k3 k4 l0 l1 l2 l3 l4 HKp hpw hpr ih x0 x1 x2 x3 xz y0 y1' y2' y3' yz e0 e1 e2 e3 g0 g1 g2 g3 bz az
  go_enter Try.func19, Try.ntmps19
  go_upto_region 12 with fail
  rw [← HW.out]
  go_region_held3 (fun w' => w'.cell? ⟨w.heap.size, 3, none⟩ = some (.slice (some ⟨a, aff, none⟩) 1 m3) ∧ w'.cell? ⟨w.heap.size + 1, 3, none⟩ = some (.slice (some ⟨b, off, none⟩) 1 j3) ∧ w'.cell? ⟨a, aff, none⟩ = some (.int .i64 x.kd) ∧ w'.cell? ⟨a, aff + 1, none⟩ = some (.slice a1 v1 z1) ∧ w'.cell? ⟨a, aff + 2, none⟩ = some (.slice a2 v2 z2) ∧ w'.cell? ⟨a, aff + 3, none⟩ = some (.slice a3 v3 z3) ∧ w'.cell? ⟨b, off, none⟩ = some (.int .i64 y.kd) ∧ w'.cell? ⟨b, off + 1, none⟩ = some (.slice t1 u1 y1) ∧ w'.cell? ⟨b, off + 2, none⟩ = some (.slice t2 u2 y2) ∧ w'.cell? ⟨b, off + 3, none⟩ = some (.slice t3 u3 y3))
    (first
      | exact HSK.out _ (Below.refl _ W).drew
      | exact HSK.out _ B1.out)
    (first
      | (go_at_call 19; refine (IH.out d1 d2 x y _ _ W.drew hd h1 h2 HPw.out HPr.out (IsSh.keep (Keeps.of_below BW.out.drew) _ _ L4.out) (IsSh.keep (Keeps.of_below BW.out.drew) _ _ K4.out)).mono ?_; rintro e w1 ⟨rfl, hb1⟩; have B1 := Lib.hid (show Below W.heap.size W w1 from (Below.refl _ W).drew.trans hb1); clear hb1))
  all_goals
    go_wp2_with fail
    go_ret
    exact ⟨ret_bool (by rw [HU.out]; simp), BW.out.trans (B1.out.mono BW.out.size)⟩

set_option maxRecDepth 100000 in
set_option maxHeartbeats 1000000 in
theorem sc_other (n : Nat) (w : World) (wt rt : Sh) (vw vr : Value) (hw : IsSh w wt vw) (hr : IsSh w rt vr) (hne2 : ¬ rt.kd = 5) (hne3 : ¬ wt.kd = rt.kd) :
    Calls Try.prog 19 #[vw, vr] w fun e w' => e = .returned (.bool (!(wnB (n + 1) wt rt).isSome)) ∧ Below w.heap.size w w' := by
  have HU : Hid ((wnB (n + 1) wt rt).isSome = true) := by
    show _ = _
    by_cases h5 : wt.kd = 5
    · rw [wn_unwrap h5 hne2]; rfl
    · rw [wn_other h5 hne2 hne3]; rfl
  obtain ⟨p1, n1, m1, p2, n2, m2, p3, n3, m3, rfl⟩ := hw.agg
  obtain ⟨q1, i1, j1, q2, i2, j2, q3, i3, j3, rfl⟩ := hr.agg
  obtain ⟨k, hk⟩ : ∃ k, k = wt.kd := ⟨_, rfl⟩
  obtain ⟨k', hk'⟩ : ∃ k, k = rt.kd := ⟨_, rfl⟩
  rw [← hk] at hne3 ⊢
  rw [← hk'] at hne2 hne3 ⊢
  obtain ⟨W, hW⟩ : ∃ W, W = (w.alloc (.cells #[.int .i64 k, .slice p1 n1 m1, .slice p2 n2 m2, .slice p3 n3 m3] 30)).alloc (.cells #[.int .i64 k', .slice q1 i1 j1, .slice q2 i2 j2, .slice q3 i3 j3] 30) := ⟨_, rfl⟩
  have HN := two_new w (.cells #[.int .i64 k, .slice p1 n1 m1, .slice p2 n2 m2, .slice p3 n3 m3] 30) (.cells #[.int .i64 k', .slice q1 i1 j1, .slice q2 i2 j2, .slice q3 i3 j3] 30)
  have hbw : Below w.heap.size w W := by rw [hW]; exact (below_alloc w _).alloc (by simp) _
  have hz : W.heap.size = w.heap.size + 1 + 1 := by rw [hW]; simp
  rw [← hW] at HN
  have HZ := Lib.hid hz
  have BW := Lib.hid hbw
  have HW := Lib.hid hW
  obtain ⟨x0, x1, x2, x3, _, _, _, _, xz⟩ := blk4 HN.1
  obtain ⟨y0, y1', y2', y3', _, _, _, _, yz⟩ := blk4 HN.2
  clear HN hbw hz hW hw hr hk hk'
  go_enter Try.func19, Try.ntmps19
  go_wp2_with fail
  go_ret
  rw [← HW.out]
  exact ⟨ret_bool (by rw [HU.out]; rfl), BW.out⟩

set_option maxRecDepth 100000 in
set_option maxHeartbeats 1000000 in
theorem sc_plain1 (n : Nat) (w : World) (wt rt : Sh) (p1 p2 p3 q1 q2 q3 : Option Addr) (n1 n2 n3 m1 m2 m3 i1 i2 i3 j1 j2 j3 : Nat) (hk : wt.kd = 1) (hk' : rt.kd = 1) :
    Calls Try.prog 19 #[.agg #[.int .i64 1, .slice p1 n1 m1, .slice p2 n2 m2, .slice p3 n3 m3], .agg #[.int .i64 1, .slice q1 i1 j1, .slice q2 i2 j2, .slice q3 i3 j3]] w fun e w' => e = .returned (.bool (!(wnB (n + 1) wt rt).isSome)) ∧ Below w.heap.size w w' := by
  have HU := Lib.hid (wn_plain (n := n) (w := wt) (r := rt) (hk.trans hk'.symm) (by omega))
  obtain ⟨W, hW⟩ : ∃ W, W = (w.alloc (.cells #[.int .i64 1, .slice p1 n1 m1, .slice p2 n2 m2, .slice p3 n3 m3] 30)).alloc (.cells #[.int .i64 1, .slice q1 i1 j1, .slice q2 i2 j2, .slice q3 i3 j3] 30) := ⟨_, rfl⟩
  have HN := two_new w (.cells #[.int .i64 1, .slice p1 n1 m1, .slice p2 n2 m2, .slice p3 n3 m3] 30) (.cells #[.int .i64 1, .slice q1 i1 j1, .slice q2 i2 j2, .slice q3 i3 j3] 30)
  have hbw : Below w.heap.size w W := by rw [hW]; exact (below_alloc w _).alloc (by simp) _
  have hz : W.heap.size = w.heap.size + 1 + 1 := by rw [hW]; simp
  rw [← hW] at HN
  have HZ := Lib.hid hz
  have BW := Lib.hid hbw
  have HW := Lib.hid hW
  obtain ⟨x0, x1, x2, x3, _, _, _, _, xz⟩ := blk4 HN.1
  obtain ⟨y0, y1', y2', y3', _, _, _, _, yz⟩ := blk4 HN.2
  clear HN hbw hz hW hk hk'
  go_enter Try.func19, Try.ntmps19
  go_wp2_with fail
  go_ret
  rw [← HW.out]
  exact ⟨ret_bool (by rw [HU.out]; rfl), BW.out⟩

set_option maxRecDepth 100000 in
set_option maxHeartbeats 1000000 in
theorem sc_plain2 (n : Nat) (w : World) (wt rt : Sh) (p1 p2 p3 q1 q2 q3 : Option Addr) (n1 n2 n3 m1 m2 m3 i1 i2 i3 j1 j2 j3 : Nat) (hk : wt.kd = 2) (hk' : rt.kd = 2) :
    Calls Try.prog 19 #[.agg #[.int .i64 2, .slice p1 n1 m1, .slice p2 n2 m2, .slice p3 n3 m3], .agg #[.int .i64 2, .slice q1 i1 j1, .slice q2 i2 j2, .slice q3 i3 j3]] w fun e w' => e = .returned (.bool (!(wnB (n + 1) wt rt).isSome)) ∧ Below w.heap.size w w' := by
  have HU := Lib.hid (wn_plain (n := n) (w := wt) (r := rt) (hk.trans hk'.symm) (by omega))
  obtain ⟨W, hW⟩ : ∃ W, W = (w.alloc (.cells #[.int .i64 2, .slice p1 n1 m1, .slice p2 n2 m2, .slice p3 n3 m3] 30)).alloc (.cells #[.int .i64 2, .slice q1 i1 j1, .slice q2 i2 j2, .slice q3 i3 j3] 30) := ⟨_, rfl⟩
  have HN := two_new w (.cells #[.int .i64 2, .slice p1 n1 m1, .slice p2 n2 m2, .slice p3 n3 m3] 30) (.cells #[.int .i64 2, .slice q1 i1 j1, .slice q2 i2 j2, .slice q3 i3 j3] 30)
  have hbw : Below w.heap.size w W := by rw [hW]; exact (below_alloc w _).alloc (by simp) _
  have hz : W.heap.size = w.heap.size + 1 + 1 := by rw [hW]; simp
  rw [← hW] at HN
  have HZ := Lib.hid hz
  have BW := Lib.hid hbw
  have HW := Lib.hid hW
  obtain ⟨x0, x1, x2, x3, _, _, _, _, xz⟩ := blk4 HN.1
  obtain ⟨y0, y1', y2', y3', _, _, _, _, yz⟩ := blk4 HN.2
  clear HN hbw hz hW hk hk'
  go_enter Try.func19, Try.ntmps19
  go_wp2_with fail
  go_ret
  rw [← HW.out]
  exact ⟨ret_bool (by rw [HU.out]; rfl), BW.out⟩

set_option maxRecDepth 100000 in
set_option maxHeartbeats 1000000 in
theorem sc_plain3 (n : Nat) (w : World) (wt rt : Sh) (p1 p2 p3 q1 q2 q3 : Option Addr) (n1 n2 n3 m1 m2 m3 i1 i2 i3 j1 j2 j3 : Nat) (hk : wt.kd = 3) (hk' : rt.kd = 3) :
    Calls Try.prog 19 #[.agg #[.int .i64 3, .slice p1 n1 m1, .slice p2 n2 m2, .slice p3 n3 m3], .agg #[.int .i64 3, .slice q1 i1 j1, .slice q2 i2 j2, .slice q3 i3 j3]] w fun e w' => e = .returned (.bool (!(wnB (n + 1) wt rt).isSome)) ∧ Below w.heap.size w w' := by
  have HU := Lib.hid (wn_plain (n := n) (w := wt) (r := rt) (hk.trans hk'.symm) (by omega))
  obtain ⟨W, hW⟩ : ∃ W, W = (w.alloc (.cells #[.int .i64 3, .slice p1 n1 m1, .slice p2 n2 m2, .slice p3 n3 m3] 30)).alloc (.cells #[.int .i64 3, .slice q1 i1 j1, .slice q2 i2 j2, .slice q3 i3 j3] 30) := ⟨_, rfl⟩
  have HN := two_new w (.cells #[.int .i64 3, .slice p1 n1 m1, .slice p2 n2 m2, .slice p3 n3 m3] 30) (.cells #[.int .i64 3, .slice q1 i1 j1, .slice q2 i2 j2, .slice q3 i3 j3] 30)
  have hbw : Below w.heap.size w W := by rw [hW]; exact (below_alloc w _).alloc (by simp) _
  have hz : W.heap.size = w.heap.size + 1 + 1 := by rw [hW]; simp
  rw [← hW] at HN
  have HZ := Lib.hid hz
  have BW := Lib.hid hbw
  have HW := Lib.hid hW
  obtain ⟨x0, x1, x2, x3, _, _, _, _, xz⟩ := blk4 HN.1
  obtain ⟨y0, y1', y2', y3', _, _, _, _, yz⟩ := blk4 HN.2
  clear HN hbw hz hW hk hk'
  go_enter Try.func19, Try.ntmps19
  go_wp2_with fail
  go_ret
  rw [← HW.out]
  exact ⟨ret_bool (by rw [HU.out]; rfl), BW.out⟩

end Go.Proofs.Ytbpidhlpakobiaa
